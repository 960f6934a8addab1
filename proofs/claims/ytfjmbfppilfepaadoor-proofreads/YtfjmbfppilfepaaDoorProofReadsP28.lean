/- Texts of ProofReads, one behind the other: ProofRefDecode. -/
import Derived.Test.YtfjmbfppilfepaaDoorProofReadsP19
import Derived.Test.YtfjmbfppilfepaaDoorProofReadsP26
import Derived.Test.YtfjmbfppilfepaaDoorProofReadsP27
/- What the document's Wants, Take and Decode answer, of any bytes. -/
namespace Go.Proofs.YtfjmbfppilfepaaDoor
open Go.RowKit
set_option maxRecDepth 100000

theorem wants_ok (S I : Nat) (a : Option Addr) (n c : Nat) (w : World) : Calls Tryd.prog 44 #[.agg #[.int .u64 (S : Int), .int .u64 (I : Int), .slice a n c]] w fun e w' => e = .returned (.tuple #[.int .i64 ((PLA I S).2.length : Int), .int .i64 (PLA I S).1]) ∧ Below w.heap.size w w' := by
  have C : Aside (∀ W, Calls Tryd.prog 64 #[.int .u64 (I : Int), .int .u64 (S : Int)] W fun e w' => ∃ v, e = .returned (.tuple #[v, .int .i64 (PLA I S).1]) ∧ w'.ownsRow W.heap.size 22 1 v (PLA I S).2.length (UCELLS (PLA I S).2) ∧ Below W.heap.size W w') := fun W => refpla_ok I S W
  obtain ⟨E, hE⟩ : ∃ E, (PLA I S).1 = E := ⟨_, rfl⟩
  obtain ⟨N, hN⟩ : ∃ N, (PLA I S).2.length = N := ⟨_, rfl⟩
  rw [hE, hN] at C ⊢
  generalize (PLA I S).2 = L at *
  have Z : Aside (Below w.heap.size w (w.alloc (.cells #[.int .u64 (S : Int), .int .u64 (I : Int), .slice a n c] 25))) := (Below.refl _ _).alloc (Nat.le_refl _) _
  clear hE hN
  go_enter Tryd.func44, Tryd.ntmps44
  go_wp2_with fail
  refine (C.out _).mono ?_
  rintro e w1 ⟨v, rfl, hrow, hb⟩
  obtain ⟨av, cv, rfl, _⟩ := own_slice hrow
  have Z2 : Aside (Below w.heap.size w w1) := Z.out.trans (hb.mono Z.out.size)
  clear hrow hb C Z
  go_wp2
  go_ret2
  exact ⟨rfl, Z2.out⟩
theorem prefixwants_ok (F S : Nat) (a : Option Addr) (n c : Nat) (w : World) : Calls Tryd.prog 46 #[.agg #[.int .u64 (F : Int), .int .u64 (S : Int), .slice a n c]] w fun e w' => e = .returned (.tuple #[.int .i64 ((PPA F S).2.length : Int), .int .i64 (PPA F S).1]) ∧ Below w.heap.size w w' := by
  have C : Aside (∀ W, Calls Tryd.prog 65 #[.int .u64 (F : Int), .int .u64 (S : Int)] W fun e w' => ∃ v, e = .returned (.tuple #[v, .int .i64 (PPA F S).1]) ∧ w'.ownsRow W.heap.size 22 1 v (PPA F S).2.length (UCELLS (PPA F S).2) ∧ Below W.heap.size W w') := fun W => refppa_ok F S W
  obtain ⟨E, hE⟩ : ∃ E, (PPA F S).1 = E := ⟨_, rfl⟩
  obtain ⟨N, hN⟩ : ∃ N, (PPA F S).2.length = N := ⟨_, rfl⟩
  rw [hE, hN] at C ⊢
  generalize (PPA F S).2 = L at *
  have Z : Aside (Below w.heap.size w (w.alloc (.cells #[.int .u64 (F : Int), .int .u64 (S : Int), .slice a n c] 27))) := (Below.refl _ _).alloc (Nat.le_refl _) _
  clear hE hN
  go_enter Tryd.func46, Tryd.ntmps46
  go_wp2_with fail
  refine (C.out _).mono ?_
  rintro e w1 ⟨v, rfl, hrow, hb⟩
  obtain ⟨av, cv, rfl, _⟩ := own_slice hrow
  have Z2 : Aside (Below w.heap.size w w1) := Z.out.trans (hb.mono Z.out.size)
  clear hrow hb C Z
  go_wp2
  go_ret2
  exact ⟨rfl, Z2.out⟩
/-- a hash of which the first k bytes are there. -/
def FILLH (h : List Int) (k : Nat) : List Int := h.take k ++ List.replicate (32 - k) 0
theorem FILLH_zero (h : List Int) : FILLH h 0 = ZND := rfl
theorem FILLH_all {h : List Int} (hl : h.length = 32) : FILLH h 32 = h := by
  unfold FILLH
  rw [List.take_of_length_le (by omega)]
  simp
theorem FILLH_length {h : List Int} (hl : h.length = 32) {k : Nat} (hk : k ≤ 32) : (FILLH h k).length = 32 := by
  unfold FILLH
  simp
  omega
theorem FILLH_next {h : List Int} (hl : h.length = 32) {k : Nat} (hk : k < 32) : (CELLS (FILLH h k)).toArray.setIfInBounds k (.int .u8 (h.getD k 0)) = (CELLS (FILLH h (k + 1))).toArray := by
  apply Array.ext_getElem?
  intro j
  rw [Array.getElem?_setIfInBounds]
  by_cases hj : j < 32
  · rw [List.getElem?_toArray, List.getElem?_toArray, CELLS_get _ j (by rw [FILLH_length hl (by omega)]; exact hj), CELLS_get _ j (by rw [FILLH_length hl (by omega)]; exact hj)]
    have hs : (CELLS (FILLH h k)).toArray.size = 32 := by simp [CELLS, FILLH_length hl (show k ≤ 32 by omega)]
    by_cases e : k = j
    · subst e
      rw [if_pos rfl, if_pos (by omega)]
      unfold FILLH
      rw [List.getD_eq_getElem?_getD (l := h.take (k + 1) ++ _), List.getElem?_append_left (by simp; omega), List.getElem?_take, if_pos (by omega), List.getD_eq_getElem?_getD]
    · rw [if_neg e]
      unfold FILLH
      congr 2
      rw [List.getD_eq_getElem?_getD, List.getD_eq_getElem?_getD]
      by_cases e2 : j < k
      · rw [List.getElem?_append_left (by simp; omega), List.getElem?_append_left (by simp; omega), List.getElem?_take, if_pos e2, List.getElem?_take, if_pos (by omega)]
      · rw [List.getElem?_append_right (by simp; omega), List.getElem?_append_right (by simp; omega), List.getElem?_replicate, List.getElem?_replicate]
        simp only [List.length_take]
        rw [if_pos (by omega), if_pos (by omega)]
  · rw [if_neg (by omega), Array.getElem?_eq_none (by simp [CELLS, FILLH_length hl (show k ≤ 32 by omega)]; omega), Array.getElem?_eq_none (by simp [CELLS, FILLH_length hl (show k + 1 ≤ 32 by omega)]; omega)]
/-- so many hashes, and nothing behind them: the error, how many, their bytes. -/
def TAKN (t : List Int) (N : Nat) : Int × Nat × List Int := if t.length < 32 * N then (11, 0, []) else if 32 * N < t.length then (13, 0, []) else (0, N, t)
theorem nil_hashes (w : World) (b : Nat) : w.ownsRow b 53 32 (.slice none 0 0) 0 (CELLS []) := World.ownsRow_nil _ _ _ _
set_option maxHeartbeats 2000000 in
theorem take_ok (a : Option Addr) (m c N : Nat) (hm : m ≤ 1000000) (hN : N ≤ 1000) (t : List Int) (w : World) (hB : Bytes w a m t) :
    Calls Tryd.prog 45 #[.slice a m c, .int .i64 (N : Int)] w fun e w' => ∃ v, e = .returned (.tuple #[v, .int .i64 (TAKN t N).1]) ∧ w'.ownsRow w.heap.size 53 32 v (TAKN t N).2.1 (CELLS (TAKN t N).2.2) ∧ Below w.heap.size w w' := by
  have hlm : t.length = m := hB.1
  have e32 : wrap64 (32 * (N : Int)) = 32 * (N : Int) := by unfold wrap64; omega
  have q1 : IntKind.i64.wrap ((m : Int) / 32) = (m : Int) / 32 := by rw [IntKind.wrap_i64]; omega
  have q2 : (m : Int).tdiv 32 = (m : Int) / 32 := Int.tdiv_eq_ediv_of_nonneg (by omega)
  unfold TAKN
  rw [hlm]
  by_cases h1 : m < 32 * N
  · rw [if_pos h1]
    have k1 : (m : Int) / 32 < (N : Int) := by omega
    clear hB hm hN h1 hlm
    go_enter Tryd.func45, Tryd.ntmps45
    go_wp2
    go_ret2
    exact ⟨_, rfl, nil_hashes _ _, Below.refl _ _⟩
  · rw [if_neg h1]
    have k1 : ¬ (m : Int) / 32 < (N : Int) := by omega
    by_cases h2 : 32 * N < m
    · rw [if_pos h2]
      have k2 : 32 * (N : Int) < (m : Int) := by omega
      clear hB hm hN h1 h2 hlm
      go_enter Tryd.func45, Tryd.ntmps45
      go_wp2
      go_ret2
      exact ⟨_, rfl, nil_hashes _ _, Below.refl _ _⟩
    · rw [if_neg h2]
      dsimp only
      have k2 : ¬ 32 * (N : Int) < (m : Int) := by omega
      have HA : Aside (m = 32 * N ∧ t.length = 32 * N ∧ N ≤ 1000 ∧ Bytes w a m t) := ⟨by omega, by omega, hN, hB⟩
      clear hB hm hN h1 h2 hlm
      go_enter Tryd.func45, Tryd.ntmps45
      go_wp2
      clear k1 k2 q1 q2 e32
      go_loopg [6, 7] N (fun q s6 s7 wx => ∃ i : Nat, s7 = .int .i64 (i : Int) ∧ Aside (i + q = N ∧ wx.ownsRow w.heap.size 53 32 s6 i (CELLS (t.take (32 * i))) ∧ Below w.heap.size w wx))
      case atStart => exact ⟨0, rfl, by omega, nil_hashes _ _, Below.refl _ _⟩
      case round =>
        obtain ⟨i, rfl, A⟩ := hrel
        cases gk with
        | zero =>
          obtain rfl : i = N := by have := A.out.1; omega
          have hlt : ¬ (i : Int) < (i : Int) := by omega
          have R : Aside (wr.ownsRow w.heap.size 53 32 u6 i (CELLS t) ∧ Below w.heap.size w wr) := by
            have := A.out.2.1
            rw [List.take_of_length_le (by have := HA.out; omega)] at this
            exact ⟨this, A.out.2.2⟩
          clear A HA
          go_wp2
          go_ret2
          exact ⟨_, rfl, R.out.1, R.out.2⟩
        | succ q =>
          have hlt : (i : Int) < (N : Int) := by have := A.out.1; omega
          go_wp2
          generalize wr = wo at *
          have R0 : Aside (i + 1 + q = N ∧ (wo.alloc (.cells ZARR 53)).ownsRow w.heap.size 53 32 u6 i (CELLS (t.take (32 * i))) ∧ Below w.heap.size w (wo.alloc (.cells ZARR 53)) ∧ Has (wo.alloc (.cells ZARR 53)) wo.heap.size (CELLS (FILLH (HSH t i) 0)).toArray 53 ∧ (HSH t i).length = 32) := by
            obtain ⟨a1, a2, a3⟩ := A.out
            exact ⟨by omega, a2.alloc _, a3.alloc a3.size _, by rw [FILLH_zero, ZARR_eq]; exact Has.new _ _ _, HSH_length HA.out.2.1 (by omega)⟩
          have BB : Aside (w.heap.size ≤ wo.heap.size ∧ ∀ k, u6.ownBlock = some k → k ≠ wo.heap.size) := ⟨A.out.2.2.size, fun k e => by have := (A.out.2.1.lt k e).2; omega⟩
          clear A
          obtain ⟨hb, hhb⟩ : ∃ hb, hb = wo.heap.size := ⟨_, rfl⟩
          rw [← hhb] at R0 BB ⊢
          clear hhb
          rw [show (#[.int .u8 0, .int .u8 0, .int .u8 0, .int .u8 0, .int .u8 0, .int .u8 0, .int .u8 0, .int .u8 0, .int .u8 0, .int .u8 0, .int .u8 0, .int .u8 0, .int .u8 0, .int .u8 0, .int .u8 0, .int .u8 0, .int .u8 0, .int .u8 0, .int .u8 0, .int .u8 0, .int .u8 0, .int .u8 0, .int .u8 0, .int .u8 0, .int .u8 0, .int .u8 0, .int .u8 0, .int .u8 0, .int .u8 0, .int .u8 0, .int .u8 0, .int .u8 0] : Array Value) = ZARR from rfl]
          generalize wo.alloc (.cells ZARR 53) = w1 at *
          go_loopg [9] 32 (fun p s9 wx => ∃ k : Nat, s9 = .int .i64 (k : Int) ∧ Aside (k + p = 32 ∧ wx.ownsRow w.heap.size 53 32 u6 i (CELLS (t.take (32 * i))) ∧ Below w.heap.size w wx ∧ Has wx hb (CELLS (FILLH (HSH t i) k)).toArray 53))
          case atStart => exact ⟨0, rfl, by omega, R0.out.2.1, R0.out.2.2.1, R0.out.2.2.2.1⟩
          case round =>
            obtain ⟨k, rfl, A⟩ := hrel
            cases gk with
            | zero =>
              obtain rfl : k = 32 := by have := A.out.1; omega
              have hlt2 : ¬ (((32 : Nat) : Int)) < 32 := by omega
              have R : Aside (i + 1 + q = N ∧ wr.ownsRow w.heap.size 53 32 u6 i (CELLS (t.take (32 * i))) ∧ Below w.heap.size w wr ∧ Has wr hb (CELLS (HSH t i)).toArray 53 ∧ t.take (32 * (i + 1)) = t.take (32 * i) ++ HSH t i ∧ N ≤ 1000) := by
                obtain ⟨a1, a2, a3, a4⟩ := A.out
                rw [FILLH_all R0.out.2.2.2.2] at a4
                exact ⟨R0.out.1, a2, a3, a4, HSH_next t i, HA.out.2.2.1⟩
              have h32 := R0.out.2.2.2.2
              have E1 : Aside (wrap64 ((i : Int) + 1) = ((i + 1 : Nat) : Int)) := by have := R.out; show wrap64 ((i : Int) + 1) = ((i + 1 : Nat) : Int); unfold wrap64; omega
              clear A R0 HA
              generalize HSH t i = H at *
              go_wp2_with (first
                | (refine wpList_load_row rfl 53 (.tmp 8) rfl hb rfl 53 (CELLS H).toArray (0, 0) _ R.out.2.2.2.1 Tryd.underlying53 rfl (info_arr h32) ?_)
                | (refine build_one _ rfl 23 53 (.tmp 39) rfl (CELLS H).toArray rfl 32 _ _ Tryd.underlying23 info_hashv (by simp [CELLS, h32]) rfl (by decide) (by decide) ?_)
                | (at_builtin; refine app_hash _ rfl (.tmp 38) (.tmp 40) rfl w.heap.size u6 i _ rfl (R.out.2.1.alloc _) _ 1 H h32 rfl (Has.new _ _ _) (by have := R.out; omega) (by have := R.out.2.2.1.size; simp; omega) ?_; intro g2 c2 w2 hown hgrow hat hg))
              have R2 : Aside (i + 1 + q = N ∧ w2.ownsRow w.heap.size 53 32 (.slice (some ⟨g2, 0, none⟩) (i + 1) c2) (i + 1) (CELLS (t.take (32 * (i + 1)))) ∧ Below w.heap.size w w2) := by
                obtain ⟨r1, r2, r3, r4, r5, r6⟩ := R.out
                refine ⟨r1, by rw [r5, CELLS_append]; exact hown, (r3.alloc r3.size _).grown hgrow (by have := r3.size; simp; omega) (fun k e => (r2.lt k e).1)⟩
              clear hown hgrow hat hg R h32
              have e1 := E1.out
              go_wp2
              go_roundg q
              case measure => exact Nat.lt_succ_self _
              case rel => exact ⟨i + 1, by first | rfl | (rw [E1.out]), R2.out⟩
            | succ p =>
              obtain ⟨a1, a2, a3, a4⟩ := A.out
              have hk : k < 32 := by omega
              have hlt2 : (k : Int) < 32 := by omega
              obtain ⟨h1, h2, h3, h4⟩ := HA.out
              have hiN : i < N := by have := R0.out.1; omega
              obtain ⟨b, o, rfl, hbl, hc⟩ := h4.2.1 (by omega)
              obtain ⟨J, hJ⟩ : ∃ J, 32 * i + k = J := ⟨_, rfl⟩
              have hx : wr.cell? ⟨b, o + J, none⟩ = some (.int .u8 ((HSH t i).getD k 0)) := by
                rw [HSH_at hk, hJ]
                exact (a3.cell (p := ⟨b, o + J, none⟩) hbl).trans (hc J (by omega))
              have M1 : Aside (wrap64 (32 * (i : Int)) = 32 * (i : Int)) := by show wrap64 (32 * (i : Int)) = 32 * (i : Int); unfold wrap64; omega
              have M2 : Aside (wrap64 (32 * (i : Int) + (k : Int)) = (J : Int)) := by show wrap64 (32 * (i : Int) + (k : Int)) = (J : Int); unfold wrap64; omega
              have m3 : (J : Int) < (m : Int) := by omega
              have y0 : wr.cell? ⟨hb, k, none⟩ = some (.int .u8 ((FILLH (HSH t i) k).getD k 0)) := by
                rw [a4.cell, List.getElem?_toArray, CELLS_get _ k (by rw [FILLH_length R0.out.2.2.2.2 (by omega)]; exact hk)]
              have y1 : wr.frozen? ⟨hb, k, none⟩ = false := a4.frozen k
              have hst := a4.set k (.int .u8 ((HSH t i).getD k 0))
              rw [FILLH_next R0.out.2.2.2.2 hk] at hst
              have R : Aside (k + 1 + p = 32 ∧ (wr.setCell ⟨hb, k, none⟩ (.int .u8 ((HSH t i).getD k 0))).ownsRow w.heap.size 53 32 u6 i (CELLS (t.take (32 * i))) ∧ Below w.heap.size w (wr.setCell ⟨hb, k, none⟩ (.int .u8 ((HSH t i).getD k 0))) ∧ Has (wr.setCell ⟨hb, k, none⟩ (.int .u8 ((HSH t i).getD k 0))) hb (CELLS (FILLH (HSH t i) (k + 1))).toArray 53) :=
                ⟨by omega, own_heap a2 fun j hj => Below.heap_setCell _ _ _ j (BB.out.2 j hj), a3.setCell (p := ⟨hb, k, none⟩) BB.out.1 _, hst⟩
              have E1 : Aside (wrap64 ((k : Int) + 1) = ((k + 1 : Nat) : Int)) := by show wrap64 ((k : Int) + 1) = ((k + 1 : Nat) : Int); unfold wrap64; omega
              clear a1 a2 a3 a4 hk h1 h2 h3 h4 hbl hc hJ hst A HA R0 BB
              generalize (HSH t i).getD k 0 = v at *
              generalize (FILLH (HSH t i) k).getD k 0 = v0 at *
              have e1 := E1.out
              have m1 := M1.out
              have m2 := M2.out
              go_wp2
              go_roundg p
              case measure => exact Nat.lt_succ_self _
              case rel => exact ⟨k + 1, by first | rfl | (rw [E1.out]), R.out⟩
end Go.Proofs.YtfjmbfppilfepaaDoor
