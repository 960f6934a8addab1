/- What the document's Sum gives: the same as hash.Sum. -/
import Derived.Test.YtihdhaamphdljaaDoorHashRefStates
import Derived.Test.YtihdhaamphdljaaDoorHashAll
namespace Go.Proofs.YtihdhaamphdljaaDoor
open Go.RowKit
set_option maxRecDepth 100000

theorem own_text {w : World} {base n c : Nat} {a : Option Addr} {l : List Nat} (h : w.ownsRow base 5 1 (.slice a n c) n (BY l)) (hl : Small8 l) : Text w a n l := Text.of_bytes (own_bytes_any h (INTS_bounds hl)).1
theorem own_nil {w : World} {base n c s : Nat} {a : Option Addr} {t : TypeId} {xs : List Value} (h : w.ownsRow base t s (.slice a n c) n xs) : a = none → c = 0 := fun ha => by
  rcases h.2 with ⟨hv, _⟩ | ⟨g, cap, cur, hv, _⟩
  · simp at hv
    exact hv.2.2
  · subst ha
    simp at hv
theorem FULL_blocks (l : List Nat) : (FULL l).length = 64 * ((FULL l).length / 64) := by rw [FULL_length]; omega
theorem FULL_small {l : List Nat} (h : Small8 l) : Small8 (FULL l) := fun x hx => by
  rcases List.mem_append.1 hx with h1 | h1
  · exact h x h1
  · exact END_small _ x h1
theorem FULL_lt {l : List Nat} (h : l.length < 2 ^ 30) : (FULL l).length / 64 < 2 ^ 30 := by
  rw [FULL_length]
  unfold NOUGHTS
  omega
/-- as Parts, with less asked of each part. -/
def Parts0 (w : World) (a : Option Addr) (k : Nat) (ps : List PART) : Prop :=
  ps.length = k ∧ (0 < k → ∃ b off, a = some ⟨b, off, none⟩ ∧ b < w.heap.size ∧ ∀ i p, ps[i]? = some p → w.cell? ⟨b, off + i, none⟩ = some (.slice p.a p.n p.c)) ∧ ∀ p ∈ ps, Text w p.a p.n p.l
theorem Parts.zero {w : World} {a : Option Addr} {k : Nat} {ps : List PART} (h : Parts w a k ps) : Parts0 w a k ps := ⟨h.1, h.2.1, fun p hp => (h.2.2 p hp).1⟩
theorem Parts0.below {w w' : World} {a : Option Addr} {k : Nat} {ps : List PART} (h : Parts0 w a k ps) (hb : Below w.heap.size w w') : Parts0 w' a k ps :=
  ⟨h.1, fun hk => by
    obtain ⟨b, off, e, hl, hc⟩ := h.2.1 hk
    exact ⟨b, off, e, Nat.lt_of_lt_of_le hl hb.size, fun i p hp => (hb.cell (by exact hl)).trans (hc i p hp)⟩, fun p hp => (h.2.2 p hp).below hb⟩
theorem JOIN_small0 {w : World} {a : Option Addr} {k : Nat} {ps : List PART} (h : Parts0 w a k ps) : Small8 (JOIN ps) := fun x hx => by
  obtain ⟨y, hy, hx⟩ := List.mem_flatten.1 hx
  obtain ⟨p, hp, rfl⟩ := List.mem_map.1 hy
  exact (h.2.2 p hp).2.2 x hx
theorem refsum_ok (d : Int) (a : Option Addr) (k c : Nat) (ps : List PART) (w : World) (hP : Parts0 w a k ps) (hnil : ∀ p ∈ ps, p.a = none → p.c = 0) (hlen : (JOIN ps).length < 2 ^ 30) (hkk : k < 2 ^ 60) : Calls Tryd.prog 11 #[.int .i64 d, .slice a k c] w fun e w' => e = .returned (.agg (UARR .u8 32 (HASHOF d (JOIN ps)))) ∧ Below w.heap.size w w' := by
  have hz := zero32
  have H : Aside (Parts0 w a k ps ∧ (∀ p ∈ ps, p.a = none → p.c = 0) ∧ (JOIN ps).length < 2 ^ 30) := ⟨hP, hnil, hlen⟩
  have HK : Aside (k < 2 ^ 60) := hkk
  clear hP hnil hlen hkk
  go_enter Tryd.func11, Tryd.ntmps11
  go_wp2_with fail
  have R : Aside (Has (w.alloc (.cells (UARR .u8 32 fun _ => 0) 35)) w.heap.size (UARR .u8 32 fun _ => 0) 35 ∧ Below w.heap.size w (w.alloc (.cells (UARR .u8 32 fun _ => 0) 35)) ∧ w.heap.size < (w.alloc (.cells (UARR .u8 32 fun _ => 0) 35)).heap.size) := ⟨Has.new _ _ _, (Below.refl _ _).alloc (Nat.le_refl _) _, by simp⟩
  generalize w.alloc (.cells (UARR .u8 32 fun _ => 0) 35) = w1 at *
  clear hz
  go_loopg [5, 6] k (fun r s5 s6 wx => ∃ i N : Nat, i + r = k ∧ s6 = .int .i64 i ∧ Aside (wx.ownsRow w1.heap.size 5 1 s5 N (BY (JOIN (ps.take i))) ∧ Below w1.heap.size w1 wx ∧ N = (JOIN (ps.take i)).length))
  case atStart => exact ⟨0, 0, by omega, rfl, ⟨rfl, .inl ⟨rfl, rfl⟩⟩, Below.refl _ _, rfl⟩
  case round =>
    obtain ⟨i, N, hir, rfl, A⟩ := hrel
    have hk : ps.length = k := H.out.1.1
    obtain ⟨a5, c5, hv, -⟩ := own_form A.out.1
    subst hv
    cases gk with
    | zero =>
      obtain rfl : i = k := by omega
      have hlt : ¬ (i : Int) < (i : Int) := by omega
      obtain ⟨hown, hbel, hN⟩ := A.out
      rw [List.take_of_length_le (by omega)] at hown hN
      have hsm : Small8 (JOIN ps) := JOIN_small0 H.out.1
      have cB := refblocks_ok a5 N c5 (JOIN ps) wr (own_text hown hsm) (own_nil hown) (by have := H.out.2.2; omega)
      have cS := fun (v : Value) (W : World) (h : W.ownsRow wr.heap.size 48 64 v ((FULL (JOIN ps)).length / 64) (BY (FULL (JOIN ps)))) => refstates_ok d wr.heap.size v ((FULL (JOIN ps)).length / 64) (FULL (JOIN ps)) W h (FULL_blocks _) (FULL_small hsm) (FULL_lt H.out.2.2)
      have hM := FULL_lt H.out.2.2
      have HO : Aside (HASHOF d (JOIN ps) = STATE d (FULL (JOIN ps)) ((FULL (JOIN ps)).length / 64)) := rfl
      generalize (FULL (JOIN ps)).length / 64 = M at *
      have S : Aside (Has wr w.heap.size (UARR .u8 32 fun _ => 0) 35 ∧ Below w.heap.size w wr ∧ w.heap.size < wr.heap.size) := ⟨R.out.1.keep hbel, R.out.2.1.trans (hbel.mono R.out.2.1.size), Nat.lt_of_lt_of_le R.out.2.2 hbel.size⟩
      clear A hown hbel hN hsm hk hir R
      go_wp2_with fail
      refine cB.mono ?_
      rintro e w4 ⟨v4, rfl, hown4, hb4⟩
      go_wp2_with fail
      refine (cS v4 w4 hown4).mono ?_
      rintro e w5 ⟨v5, rfl, hown5, hb5⟩
      clear cB cS hown4
      obtain ⟨g, cap, hv, -, hg⟩ := hown5.form (by omega)
      subst hv
      have hr := range_state hown5 M (Nat.le_refl M)
      have S2 : Aside (Has w5 w.heap.size (UARR .u8 32 fun _ => 0) 35 ∧ Below w.heap.size w w5) := ⟨(S.out.1.keep hb4).keep hb5, (S.out.2.1.trans (hb4.mono S.out.2.1.size)).trans (hb5.mono (Nat.le_trans S.out.2.1.size hb4.size))⟩
      obtain ⟨M1, hM1⟩ : ∃ M1, M + 1 = M1 := ⟨_, rfl⟩
      rw [hM1]
      have eM : wrap64 ((M1 : Int) - 1) = (M : Int) := by unfold wrap64; omega
      have hM0 : ¬ (M : Int) < 0 := by omega
      have hMl : (M : Int) < (M1 : Int) := by omega
      clear hown5 hb4 hb5 S hg hM hM1
      go_wp2_with (first
        | (refine wpList_load_mid rfl 35 (.tmp 28) rfl g (M * 32) rfl (ULIST .u8 32 (STATE d (FULL (JOIN ps)) M)) (.array 32 5) hr Tryd.underlying35 rfl (hash_len _) ?_; rw [← UARR_list])
        | (refine wpList_store_row rfl 35 _ _ rfl _ _ rfl rfl _ _ S2.out.1 (info_HASH _) (by rw [UARR_size, UARR_size]) (UARR_one _ _ _) ?_))
      refine bodyPost_ret (v := .agg (UARR .u8 32 (STATE d (FULL (JOIN ps)) M))) ?_ rfl ⟨by rw [HO.out], below_row S2.out.2 (Nat.le_refl _) _⟩
      exact results_cell_row rfl _ _ w.heap.size 35 _ (0, 0) _ rfl (S2.out.1.row _) Tryd.underlying35 rfl (info_HASH _)
    | succ r =>
      have hlt : (i : Int) < (k : Int) := by omega
      have hi0 : ¬ (i : Int) < 0 := by omega
      obtain ⟨hown, hbel, hN⟩ := A.out
      have hbw : Below w.heap.size w wr := R.out.2.1.trans (hbel.mono R.out.2.1.size)
      obtain ⟨pb, po, rfl, hpb, hcell⟩ := H.out.1.2.1 (by omega)
      obtain ⟨p, hp⟩ : ∃ p, ps[i]? = some p := ⟨_, List.getElem?_eq_getElem (by omega)⟩
      have hc := (hbw.cell (p := ⟨pb, po + i, none⟩) (by exact hpb)).trans (hcell i p hp)
      have hmem : p ∈ ps := List.mem_of_getElem? hp
      have ht := H.out.1.2.2 p hmem
      have hz0 := H.out.2.1 p hmem
      have hj : JOIN (ps.take (i + 1)) = JOIN (ps.take i) ++ p.l := by rw [List.take_add_one, hp, Option.toList_some, JOIN_snoc]
      have hl2 : N + p.n < 2 ^ 30 := by
        have h1 := JOIN_take_length ps (i + 1)
        rw [hj, List.length_append, ht.1] at h1
        have := H.out.2.2
        omega
      have T : Aside (wr.ownsRow w1.heap.size 5 1 (.slice a5 N c5) N (BY (JOIN (ps.take i))) ∧ Below w1.heap.size w1 wr ∧ N = (JOIN (ps.take i)).length ∧ Bytes wr p.a p.n (INTS p.l) ∧ (p.a = none → p.c = 0) ∧ N + p.n < 2 ^ 30 ∧ JOIN (ps.take (i + 1)) = JOIN (ps.take i) ++ p.l ∧ i + (r + 1) = k ∧ p.l.length = p.n) := ⟨hown, hbel, hN, (ht.below hbw).bytes, hz0, hl2, hj, hir, ht.1⟩
      clear ht hp hcell hpb hl2 hk hir hown hbel hN hbw hmem hz0 hj A
      obtain ⟨pa, pn, pc, pl⟩ := p
      dsimp only at T hc
      go_wp2_with (at_builtin; refine app_any _ rfl (.tmp 14) (.tmp 18) rfl w1.heap.size (.slice a5 N c5) N (INTS (JOIN (ps.take i))) rfl T.out.1 pa pn pc (INTS pl) rfl T.out.2.2.2.1 T.out.2.2.2.2.1 (N + pn) _ rfl rfl (by have := T.out.2.2.2.2.2.1; omega) T.out.2.1.size ?_; intro a6 c6 w6 hown6 hgrow6)
      go_roundg r
      case measure => omega
      case rel =>
        obtain ⟨t1, t2, t3, t4, t5, t6, t7, t8, t9⟩ := T.out
        refine ⟨i + 1, N + pn, by omega, by have h1 := HK.out; have h2 : wrap64 ((i : Int) + 1) = ((i + 1 : Nat) : Int) := (by unfold wrap64; omega); rw [h2], ?_, t2.grown hgrow6 t2.size (fun k e => (t1.lt k e).1), ?_⟩
        · rw [t7, BY_append]
          rw [CELLS_append] at hown6
          exact hown6
        · rw [t7, List.length_append, ← t3, t9]
end Go.Proofs.YtihdhaamphdljaaDoor
