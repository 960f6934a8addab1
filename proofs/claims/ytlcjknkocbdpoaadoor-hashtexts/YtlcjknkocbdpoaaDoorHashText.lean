/- What text of package hash answers. -/
import Derived.Test.YtlcjknkocbdpoaaDoorHashRow
namespace Go.Proofs.YtlcjknkocbdpoaaDoor
open Go.RowKit
set_option maxRecDepth 100000

theorem make_room (q : Nat) (hq : q ≤ 1000000) (w : World) : (Instr.makeSlice 22 (.int .i64 0) (.int .i64 (q : Int))).run Tryd.prog w = .ok (.slice (some ⟨w.heap.size, 0, none⟩) 0 q) (w.alloc (.cells (BARR q fun _ => 0) 5)) := by
  obtain ⟨i8, hi, h8⟩ := Option.map_eq_some_iff.1 info_u8
  simp only [Prod.mk.injEq] at h8
  have h := run_make (P := Tryd.prog) w 22 5 i8 (.int .u8 0) Tryd.underlying22 hi h8.1 .i64 .i64 0 (q : Int) (by omega) (by omega) (by rw [h8.2.2]; omega) (by omega)
  rw [h8.2.1] at h
  have e : madeCells (Value.int .u8 0).cells (((q : Int).toNat) * 1) = BARR q fun _ => 0 := by
    rw [Int.toNat_natCast, Nat.mul_one]
    exact BARR_made q
  rw [e] at h
  exact h
theorem owns_room (w : World) (q : Nat) (hq : q ≤ 1000000) : (w.alloc (.cells (BARR q fun _ => 0) 5)).ownsRow w.heap.size 5 1 (.slice (some ⟨w.heap.size, 0, none⟩) 0 q) 0 (CELLS (INTS [])) :=
  ⟨by simp [CELLS, INTS], Or.inr ⟨w.heap.size, q, BARR q fun _ => 0, rfl, Nat.le_refl _, Has.new w _ _, Nat.zero_le _, by simp only [maxLen]; omega, by rw [BARR_size]; omega, by simp [CELLS, INTS]⟩⟩
theorem Parts.at {w : World} {a : Option Addr} {k : Nat} {ps : List PART} (h : Parts w a k ps) {i : Nat} (hi : i < k) : ∃ b off p, a = some ⟨b, off, none⟩ ∧ b < w.heap.size ∧ ps[i]? = some p ∧ w.cell? ⟨b, off + i, none⟩ = some (.slice p.a p.n p.c) ∧ Text w p.a p.n p.l ∧ ps.take (i + 1) = ps.take i ++ [p] ∧ p ∈ ps := by
  obtain ⟨b, off, e, hl, hc⟩ := h.2.1 (by omega)
  have hp : ps[i]? = some (ps[i]'(by have := h.1; omega)) := List.getElem?_eq_getElem _
  exact ⟨b, off, _, e, hl, hp, hc i _ hp, (h.2.2 _ (List.mem_of_getElem? hp)).1, by rw [List.take_add_one, hp, Option.toList_some], List.mem_of_getElem? hp⟩

set_option maxHeartbeats 1000000 in
theorem text_ok (o : Nat) (ho : o < 256) (a : Option Addr) (k c : Nat) (ps : List PART) (w : World) (hP : Parts w a k ps) (hnone : ∀ p ∈ ps, p.a = none → p.c = 0) (hlen : (JOIN ps).length < 5000) (hkk : k < 2 ^ 40) : Calls Tryd.prog 52 #[.int .u8 (o : Int), .slice a k c] w fun e w' =>
    ∃ a' c', e = .returned (.slice a' ((JOIN ps).length + 1) c') ∧ w'.ownsRow w.heap.size 5 1 (.slice a' ((JOIN ps).length + 1) c') ((JOIN ps).length + 1) (CELLS (INTS (o :: JOIN ps))) ∧ Below w.heap.size w w' := by
  have H : Aside (Parts w a k ps ∧ (JOIN ps).length < 5000 ∧ k < 2 ^ 40 ∧ (∀ p ∈ ps, p.a = none → p.c = 0) ∧ o < 256) := ⟨hP, hlen, hkk, hnone, ho⟩
  clear hP hlen hkk hnone ho
  go_enter Tryd.func52, Tryd.ntmps52
  go_wp2_with fail
  go_loopg [5, 13] k (fun r s5 s13 wx => ∃ i L : Nat, i + r = k ∧ s13 = .int .i64 i ∧ s5 = .int .i64 L ∧ w = wx ∧ Aside (L = (JOIN (ps.take i)).length + 1))
  case atStart => exact ⟨0, 1, by omega, rfl, rfl, rfl, rfl⟩
  case round =>
    obtain ⟨i, L, hir, rfl, rfl, rfl, A⟩ := hrel
    have hk : ps.length = k := H.out.1.1
    cases gk with
    | zero =>
      obtain rfl : i = k := by omega
      rw [List.take_of_length_le (by omega)] at A
      have hL : L ≤ 1000000 := by have := A.out; have := H.out.2.1; omega
      have hmk := make_room L hL
      have hO : Aside ((w.alloc (.cells (BARR L fun _ => 0) 5)).ownsRow w.heap.size 5 1 (.slice (some ⟨w.heap.size, 0, none⟩) 0 L) 0 (CELLS (INTS []))) := owns_room w L hL
      have HM : Aside (Bytes ((w.alloc (.cells (BARR L fun _ => 0) 5)).alloc (.cells #[.int .u8 (o : Int)] 5)) (some ⟨w.heap.size + 1, 0, none⟩) 1 [(o : Int)]) := by
        have h := row_bytes (w.alloc (.cells (BARR L fun _ => 0) 5)) 1 (fun _ => (o : Int)) [(o : Int)] rfl (fun i hi => by obtain rfl : i = 0 := (by omega); rfl) (fun x hx => by simp at hx; have := H.out.2.2.2.2; omega)
        have e : (w.alloc (.cells (BARR L fun _ => 0) 5)).heap.size = w.heap.size + 1 := by simp
        rw [e] at h
        exact h
      have HB : Aside (Below w.heap.size w ((w.alloc (.cells (BARR L fun _ => 0) 5)).alloc (.cells #[.int .u8 (o : Int)] 5))) := ((Below.refl _ _).alloc (Nat.le_refl _) _).alloc (by simp) _
      clear hL hk hir
      go_wp2_with (at_builtin; refine app_u8 _ rfl (.tmp 23) (.tmp 25) rfl w.heap.size (.slice (some ⟨w.heap.size, 0, none⟩) 0 L) 0 (INTS []) rfl (hO.out.alloc _) (w.heap.size + 1) 0 1 1 [(o : Int)] rfl HM.out (by decide) (by decide) (by simp; omega) ?_; intro g8 cap8 w8 hown8 hgrow8 hg8)
      have S : Aside (w8.ownsRow w.heap.size 5 1 (.slice (some ⟨g8, 0, none⟩) (0 + 1) cap8) (0 + 1) (CELLS (INTS (o :: JOIN (ps.take 0)))) ∧ Below w.heap.size w w8) := ⟨hown8, HB.out.grown hgrow8 (by simp; omega) (fun k e => by simp [Value.ownBlock] at e; omega)⟩
      clear hown8 hgrow8 hg8 HB HM hO hmk A
      go_loopg [8, 29] i (fun r s8 s29 wx => ∃ (j N : Nat) (a8 : Option Addr) (c8 : Nat), j + r = i ∧ s29 = .int .i64 j ∧ s8 = .slice a8 N c8 ∧ Aside (N = (JOIN (ps.take j)).length + 1 ∧ wx.ownsRow w.heap.size 5 1 (.slice a8 N c8) N (CELLS (INTS (o :: JOIN (ps.take j)))) ∧ Below w.heap.size w wx))
      case atStart => exact ⟨0, 0 + 1, _, _, by omega, rfl, rfl, rfl, S.out.1, S.out.2⟩
      case round =>
        obtain ⟨j, N, a8, c8, hjr, rfl, rfl, A⟩ := hrel
        have hk : ps.length = i := H.out.1.1
        cases gk with
        | zero =>
          obtain rfl : j = i := by omega
          rw [List.take_of_length_le (by omega)] at A
          clear hk
          go_wp2
          go_ret
          obtain ⟨e1, e2, e3⟩ := A.out
          subst e1
          exact ⟨a8, c8, rfl, e2, e3⟩
        | succ r =>
          obtain ⟨pb, po, p, rfl, hpb, hpi, hc, ht, htk, hpm⟩ := H.out.1.at (i := j) (by omega)
          have hlt : (j : Int) < (i : Int) := by omega
          have hl1 := JOIN_take_length ps (j + 1)
          rw [htk, JOIN_snoc, List.length_append, ht.1] at hl1
          have hcr := (A.out.2.2.cell (p := ⟨pb, po + j, none⟩) (by exact hpb)).trans hc
          have S2 : Aside (N + p.n = (JOIN (ps.take (j + 1))).length + 1 ∧ j + (r + 1) = i ∧ N + p.n ≤ 140737488355328 ∧ Bytes wr p.a p.n (INTS p.l) ∧ (p.a = none → p.c = 0) ∧ INTS (o :: JOIN (ps.take j)) ++ INTS p.l = INTS (o :: JOIN (ps.take (j + 1)))) := ⟨by rw [htk, JOIN_snoc, List.length_append, ht.1]; have := A.out.1; omega, hjr, by have := A.out.1; have := H.out.2.1; omega, (ht.below A.out.2.2).bytes, H.out.2.2.2.1 p hpm, by rw [htk, JOIN_snoc, ← INTS_append]; rfl⟩
          clear hl1 htk ht hpi hk hc hpm hjr
          go_wp2_with (at_builtin; refine app_any _ rfl (.tmp 33) (.tmp 34) rfl w.heap.size (.slice a8 N c8) N (INTS (o :: JOIN (ps.take j))) rfl A.out.2.1 p.a p.n p.c (INTS p.l) rfl S2.out.2.2.2.1 S2.out.2.2.2.2.1 (N + p.n) (INTS (o :: JOIN (ps.take (j + 1)))) rfl S2.out.2.2.2.2.2 S2.out.2.2.1 A.out.2.2.size ?_; intro a9 c9 w9 hown9 hgrow9)
          go_roundg r
          case measure => omega
          case rel =>
            refine ⟨j + 1, N + p.n, a9, c9, by have := S2.out.2.1; omega, ?_, rfl, S2.out.1, hown9, A.out.2.2.grown hgrow9 A.out.2.2.size (fun k e => (A.out.2.1.lt k e).1)⟩
            have h1 := H.out.2.2.1
            have h2 : wrap64 ((j : Int) + 1) = ((j + 1 : Nat) : Int) := by unfold wrap64; omega
            rw [h2]
    | succ r =>
      obtain ⟨pb, po, p, rfl, hpb, hpi, hc, ht, htk, hpm⟩ := H.out.1.at (i := i) (by omega)
      have hlt : (i : Int) < (k : Int) := by omega
      have hl1 := JOIN_take_length ps (i + 1)
      rw [htk, JOIN_snoc, List.length_append, ht.1] at hl1
      have hw1 : IntKind.i64.wrap ((L : Int) + (p.n : Int)) = ((L + p.n : Nat) : Int) := by rw [IntKind.wrap_i64]; have := A.out; have := H.out.2.1; omega
      have S : Aside (L + p.n = (JOIN (ps.take (i + 1))).length + 1 ∧ i + (r + 1) = k) := ⟨by rw [htk, JOIN_snoc, List.length_append, ht.1]; have := A.out; omega, hir⟩
      clear hl1 htk ht hpi hk
      go_wp2
      go_roundg r
      case measure => omega
      case rel =>
        refine ⟨i + 1, L + p.n, by omega, ?_, ?_, rfl, S.out.1⟩
        · have h1 := H.out.2.2.1
          have h2 : wrap64 ((i : Int) + 1) = ((i + 1 : Nat) : Int) := by unfold wrap64; omega
          rw [h2]
        · go_num
end Go.Proofs.YtlcjknkocbdpoaaDoor
