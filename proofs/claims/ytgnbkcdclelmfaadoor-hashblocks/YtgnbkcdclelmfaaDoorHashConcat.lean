/- Parts put together: slices.Concat, and slices.Grow of none. -/
import Derived.Lib.AppendZeros
import Derived.Test.YtgnbkcdclelmfaaDoorHashRefBlocks
import Derived.Test.YtgnbkcdclelmfaaDoorHashAll
namespace Go.Proofs.YtgnbkcdclelmfaaDoor
open Go.RowKit
set_option maxRecDepth 100000

theorem grow_none (n : Nat) (h0 : 0 < n) (hn : n ≤ 1099511627776) (w : World) : Calls Tryd.prog 51 #[.slice none 0 0, .int .i64 (n : Int)] w fun e w' =>
    ∃ g cap, e = .returned (.slice (some ⟨g, 0, none⟩) 0 cap) ∧ w'.ownsRow w.heap.size 5 1 (.slice (some ⟨g, 0, none⟩) 0 cap) 0 [] ∧ Below w.heap.size w w' := by
  obtain ⟨i, hi, hz, hs1, hby⟩ := info_parts info_u8
  have h1 : ¬ ((n : Int) < 0) := by omega
  have h2 : wrap64 ((n : Int)) = (n : Int) := by unfold wrap64; omega
  have h3 : (n : Int) > 0 := by omega
  have hr := fun ty => Lib.run_append_nil_zeros (P := Tryd.prog) w 23 3 ty 5 i (.int .u8 0) .i64 .i64 Tryd.underlying23 Tryd.underlying3 hi hz n h0 (by omega) (by omega) (by rw [hby]; omega)
  have hge := grownCap_ge w n 0 5
  have hle := grownCap_le_maxLen w n 0 5 (by simp only [maxLen]; omega)
  generalize grownCap w n 0 5 = cap at *
  have hcs : (Builtin.zeroCells (Value.int .u8 0).cells n ++ Builtin.zeroCells (Value.int .u8 0).cells (cap - n)).size = cap * 1 := by
    rw [Array.size_append, size_zeroCells, size_zeroCells]
    simp [Value.cells]
    omega
  generalize Builtin.zeroCells (Value.int .u8 0).cells n ++ Builtin.zeroCells (Value.int .u8 0).cells (cap - n) = cur at *
  have H : Aside (cap ≤ maxLen ∧ cur.size = cap * 1) := ⟨hle, hcs⟩
  clear hle hcs
  go_enter Tryd.func51, Tryd.ntmps51
  go_wp2_with (at_builtin; refine Lib.wpList_append_run _ rfl _ _ _ _ rfl _ _ rfl rfl _ _ (hr _) ?_)
  go_ret
  refine ⟨w.heap.size, cap, rfl, ?_, ?_⟩
  · exact World.ownsRow_made w.drew cur cap (Nat.le_refl _) H.out.1 H.out.2
  · exact (Below.refl _ _).drew.alloc (Nat.le_refl _) _
theorem wrap_sum (a b c : Nat) (h : a + b = c) (hc : c ≤ 1099511627776) : wrap64 ((a : Int) + (b : Int)) = (c : Int) := by unfold wrap64; omega
theorem wrap_one (i k : Nat) (h : i < k) (hk : k < 2 ^ 60) : wrap64 ((i : Int) + 1) = ((i + 1 : Nat) : Int) := by unfold wrap64; omega
theorem concat_ok (a : Option Addr) (k c : Nat) (ps : List PART) (w : World) (hP : Parts w a k ps) (hnil : ∀ p ∈ ps, p.a = none → p.c = 0) (h0 : 0 < (JOIN ps).length) (hlen : (JOIN ps).length ≤ 1099511627776) (hkk : k < 2 ^ 60) : Calls Tryd.prog 37 #[.slice a k c] w fun e w' =>
    ∃ v, e = .returned v ∧ w'.ownsRow w.heap.size 5 1 v (JOIN ps).length (BY (JOIN ps)) ∧ Below w.heap.size w w' := by
  have H : Aside (Parts w a k ps ∧ (∀ p ∈ ps, p.a = none → p.c = 0) ∧ 0 < (JOIN ps).length ∧ (JOIN ps).length ≤ 1099511627776 ∧ k < 2 ^ 60) := ⟨hP, hnil, h0, hlen, hkk⟩
  have cg := grow_none (JOIN ps).length h0 hlen
  clear hP hnil h0 hlen hkk
  go_enter Tryd.func37, Tryd.ntmps37
  go_wp2
  go_loopg [3, 11] k (fun r s3 s11 wx => ∃ i : Nat, i + r = k ∧ s11 = .int .i64 i ∧ s3 = .int .i64 ((JOIN (ps.take i)).length : Int) ∧ w = wx)
  case atStart => exact ⟨0, by omega, rfl, rfl, rfl⟩
  case round =>
    obtain ⟨i, hir, rfl, rfl, rfl⟩ := hrel
    have hk : ps.length = k := H.out.1.1
    cases gk with
    | zero =>
      obtain rfl : i = k := by omega
      rw [List.take_of_length_le (by omega)]
      clear hk hir
      go_wp2_with fail
      refine (cg _).mono ?_
      rintro e w1 ⟨g, cap, rfl, hown, hb1⟩
      clear cg
      have R : Aside (w1.ownsRow w.heap.size 5 1 (.slice (some ⟨g, 0, none⟩) 0 cap) 0 [] ∧ Below w.heap.size w w1) := ⟨hown, hb1⟩
      clear hown hb1
      go_wp2
      go_loopg [6, 27] i (fun r s6 s27 wx => ∃ j : Nat, j + r = i ∧ s27 = .int .i64 j ∧ Aside (wx.ownsRow w.heap.size 5 1 s6 (JOIN (ps.take j)).length (BY (JOIN (ps.take j))) ∧ Below w.heap.size w wx))
      case atStart => exact ⟨0, by omega, rfl, R.out.1, R.out.2⟩
      case round =>
        obtain ⟨j, hjr, rfl, A⟩ := hrel
        have hk : ps.length = i := H.out.1.1
        cases gk with
        | zero =>
          obtain rfl : j = i := by omega
          rw [List.take_of_length_le (by omega)] at A
          clear hk hjr
          go_wp2
          go_ret
          exact ⟨_, rfl, A.out.1, A.out.2⟩
        | succ r =>
          have hlt : (j : Int) < (i : Int) := by omega
          obtain ⟨pb, po, rfl, hpb, hcell⟩ := H.out.1.2.1 (by omega)
          obtain ⟨p, hp⟩ : ∃ p, ps[j]? = some p := ⟨_, List.getElem?_eq_getElem (by omega)⟩
          have hc := (A.out.2.cell (p := ⟨pb, po + j, none⟩) (by exact hpb)).trans (hcell j p hp)
          obtain ⟨ht, hn, hx⟩ := H.out.1.2.2 p (List.mem_of_getElem? hp)
          have hnp := H.out.2.1 p (List.mem_of_getElem? hp)
          have hl2 : (JOIN (ps.take j)).length + p.n ≤ 1099511627776 := by
            have h1 := JOIN_take_length ps (j + 1)
            rw [List.take_add_one, hp, Option.toList_some, JOIN_snoc, List.length_append, ht.1] at h1
            have := H.out.2.2.2.1
            omega
          have S : Aside (ps.take (j + 1) = ps.take j ++ [p] ∧ j + (r + 1) = i ∧ (JOIN (ps.take j)).length + p.n ≤ 1099511627776 ∧ Bytes wr p.a p.n (INTS p.l) ∧ (p.a = none → p.c = 0) ∧ p.l.length = p.n) := ⟨by rw [List.take_add_one, hp, Option.toList_some], hjr, hl2, (ht.below A.out.2).bytes, hnp, ht.1⟩
          have e4 := wrap_one j i (by omega) H.out.2.2.2.2
          clear ht hn hx hnp hl2 hjr hk hp hcell
          go_wp2_with (at_builtin; refine app_any _ rfl (.tmp 31) (.tmp 32) rfl w.heap.size _ (JOIN (ps.take j)).length (INTS (JOIN (ps.take j))) rfl (by exact A.out.1) p.a p.n p.c (INTS p.l) rfl S.out.2.2.2.1 S.out.2.2.2.2.1 ((JOIN (ps.take j)).length + p.n) (INTS (JOIN (ps.take j) ++ p.l)) rfl (by simp [INTS]) (by have := S.out.2.2.1; omega) A.out.2.size ?_; intro a4 c4 w4 hown4 hgrow4)
          have T : Aside (w4.ownsRow w.heap.size 5 1 (.slice a4 ((JOIN (ps.take j)).length + p.n) c4) (JOIN (ps.take (j + 1))).length (BY (JOIN (ps.take (j + 1)))) ∧ Below w.heap.size w w4) := by
            rw [S.out.1, JOIN_snoc, List.length_append, S.out.2.2.2.2.2]
            exact ⟨hown4, A.out.2.grown hgrow4 A.out.2.size (fun k e => (A.out.1.lt k e).1)⟩
          clear hown4 hgrow4
          go_roundg r
          case measure => exact Nat.lt_succ_self _
          case rel => exact ⟨j + 1, by have := S.out.2.1; omega, by first | rfl | rw [e4], T.out.1, T.out.2⟩
    | succ r =>
      have hlt : (i : Int) < (k : Int) := by omega
      obtain ⟨pb, po, rfl, hpb, hcell⟩ := H.out.1.2.1 (by omega)
      obtain ⟨p, hp⟩ : ∃ p, ps[i]? = some p := ⟨_, List.getElem?_eq_getElem (by omega)⟩
      have hc := hcell i p hp
      obtain ⟨ht, hn, hx⟩ := H.out.1.2.2 p (List.mem_of_getElem? hp)
      have ht1 : p.l.length = p.n := ht.1
      have e1 : ps.take (i + 1) = ps.take i ++ [p] := by rw [List.take_add_one, hp, Option.toList_some]
      have hj : (JOIN (ps.take i)).length + p.n = (JOIN (ps.take (i + 1))).length := by rw [e1, JOIN_snoc, List.length_append, ht1]
      have hle := JOIN_take_length ps (i + 1)
      have hl := H.out.2.2.2.1
      have e2 := wrap_sum _ _ _ hj (by omega)
      have h3 : ¬ (((JOIN (ps.take (i + 1))).length : Int) < 0) := Int.not_lt.2 (Int.natCast_nonneg _)
      have e4 := wrap_one i k (by omega) H.out.2.2.2.2
      obtain ⟨J, hJ⟩ : ∃ J, (JOIN (ps.take (i + 1))).length = J := ⟨_, rfl⟩
      rw [hJ] at e2 h3
      have S : Aside (i + (r + 1) = k ∧ (JOIN (ps.take (i + 1))).length = J) := ⟨hir, hJ⟩
      clear ht hn hx ht1 e1 hj hle hl hcell hp hir hk hJ
      go_wp2
      go_roundg r
      case measure => exact Nat.lt_succ_self _
      case rel => exact ⟨i + 1, by have := S.out.1; omega, rfl, by rw [S.out.2], rfl⟩
end Go.Proofs.YtgnbkcdclelmfaaDoor
