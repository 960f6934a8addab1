/- Texts of SpanBytes, one behind the other: ProofRefDecode, ProofFlats, ProofRefEncode, SpanRefEncode, ProofInTurn, ProofSteps, ManyReader. -/
import Derived.Test.YtmkgldjocigffaaDoorSpanBytesP13
/- What the document's Wants, Take and Decode answer, of any bytes. -/
namespace Go.Proofs.YtmkgldjocigffaaDoor
open Go.RowKit
set_option maxRecDepth 100000

/-- a hash of which the first k bytes are there. -/
def FILLH (h : List Int) (k : Nat) : List Int := h.take k ++ List.replicate (32 - k) 0
theorem FILLH_zero (h : List Int) : FILLH h 0 = ZND := rfl
theorem FILLH_all {h : List Int} (hl : h.length = 32) : FILLH h 32 = h := by
  unfold FILLH
  rw [List.take_of_length_le (by omega)]
  simp
theorem FILLH_length {h : List Int} (hl : h.length = 32) {k : Nat} (hk : k ≤ 32) : (FILLH h k).length = 32 := by
  unfold FILLH
  simp
  omega
theorem FILLH_next {h : List Int} (hl : h.length = 32) {k : Nat} (hk : k < 32) : (CELLS (FILLH h k)).toArray.setIfInBounds k (.int .u8 (h.getD k 0)) = (CELLS (FILLH h (k + 1))).toArray := by
  apply Array.ext_getElem?
  intro j
  rw [Array.getElem?_setIfInBounds]
  by_cases hj : j < 32
  · rw [List.getElem?_toArray, List.getElem?_toArray, CELLS_get _ j (by rw [FILLH_length hl (by omega)]; exact hj), CELLS_get _ j (by rw [FILLH_length hl (by omega)]; exact hj)]
    have hs : (CELLS (FILLH h k)).toArray.size = 32 := by simp [CELLS, FILLH_length hl (show k ≤ 32 by omega)]
    by_cases e : k = j
    · subst e
      rw [if_pos rfl, if_pos (by omega)]
      unfold FILLH
      rw [List.getD_eq_getElem?_getD (l := h.take (k + 1) ++ _), List.getElem?_append_left (by simp; omega), List.getElem?_take, if_pos (by omega), List.getD_eq_getElem?_getD]
    · rw [if_neg e]
      unfold FILLH
      congr 2
      rw [List.getD_eq_getElem?_getD, List.getD_eq_getElem?_getD]
      by_cases e2 : j < k
      · rw [List.getElem?_append_left (by simp; omega), List.getElem?_append_left (by simp; omega), List.getElem?_take, if_pos e2, List.getElem?_take, if_pos (by omega)]
      · rw [List.getElem?_append_right (by simp; omega), List.getElem?_append_right (by simp; omega), List.getElem?_replicate, List.getElem?_replicate]
        simp only [List.length_take]
        rw [if_pos (by omega), if_pos (by omega)]
  · rw [if_neg (by omega), Array.getElem?_eq_none (by simp [CELLS, FILLH_length hl (show k ≤ 32 by omega)]; omega), Array.getElem?_eq_none (by simp [CELLS, FILLH_length hl (show k + 1 ≤ 32 by omega)]; omega)]
/-- so many hashes, and nothing behind them: the error, how many, their bytes. -/
def TAKN (t : List Int) (N : Nat) : Int × Nat × List Int := if t.length < 32 * N then (11, 0, []) else if 32 * N < t.length then (13, 0, []) else (0, N, t)
theorem nil_hashes (w : World) (b : Nat) : w.ownsRow b 60 32 (.slice none 0 0) 0 (CELLS []) := World.ownsRow_nil _ _ _ _
set_option maxHeartbeats 2000000 in
theorem take_ok (a : Option Addr) (m c N : Nat) (hm : m ≤ 1000000) (hN : N ≤ 1000) (t : List Int) (w : World) (hB : Bytes w a m t) :
    Calls Tryd.prog 44 #[.slice a m c, .int .i64 (N : Int)] w fun e w' => ∃ v, e = .returned (.tuple #[v, .int .i64 (TAKN t N).1]) ∧ w'.ownsRow w.heap.size 60 32 v (TAKN t N).2.1 (CELLS (TAKN t N).2.2) ∧ Below w.heap.size w w' := by
  have hlm : t.length = m := hB.1
  have e32 : wrap64 (32 * (N : Int)) = 32 * (N : Int) := by unfold wrap64; omega
  have q1 : IntKind.i64.wrap ((m : Int) / 32) = (m : Int) / 32 := by rw [IntKind.wrap_i64]; omega
  have q2 : (m : Int).tdiv 32 = (m : Int) / 32 := Int.tdiv_eq_ediv_of_nonneg (by omega)
  unfold TAKN
  rw [hlm]
  by_cases h1 : m < 32 * N
  · rw [if_pos h1]
    have k1 : (m : Int) / 32 < (N : Int) := by omega
    clear hB hm hN h1 hlm
    go_enter Tryd.func44, Tryd.ntmps44
    go_wp2
    go_ret2
    exact ⟨_, rfl, nil_hashes _ _, Below.refl _ _⟩
  · rw [if_neg h1]
    have k1 : ¬ (m : Int) / 32 < (N : Int) := by omega
    by_cases h2 : 32 * N < m
    · rw [if_pos h2]
      have k2 : 32 * (N : Int) < (m : Int) := by omega
      clear hB hm hN h1 h2 hlm
      go_enter Tryd.func44, Tryd.ntmps44
      go_wp2
      go_ret2
      exact ⟨_, rfl, nil_hashes _ _, Below.refl _ _⟩
    · rw [if_neg h2]
      dsimp only
      have k2 : ¬ 32 * (N : Int) < (m : Int) := by omega
      have HA : Aside (m = 32 * N ∧ t.length = 32 * N ∧ N ≤ 1000 ∧ Bytes w a m t) := ⟨by omega, by omega, hN, hB⟩
      clear hB hm hN h1 h2 hlm
      go_enter Tryd.func44, Tryd.ntmps44
      go_wp2
      clear k1 k2 q1 q2 e32
      go_loopg [6, 7] N (fun q s6 s7 wx => ∃ i : Nat, s7 = .int .i64 (i : Int) ∧ Aside (i + q = N ∧ wx.ownsRow w.heap.size 60 32 s6 i (CELLS (t.take (32 * i))) ∧ Below w.heap.size w wx))
      case atStart => exact ⟨0, rfl, by omega, nil_hashes _ _, Below.refl _ _⟩
      case round =>
        obtain ⟨i, rfl, A⟩ := hrel
        cases gk with
        | zero =>
          obtain rfl : i = N := by have := A.out.1; omega
          have hlt : ¬ (i : Int) < (i : Int) := by omega
          have R : Aside (wr.ownsRow w.heap.size 60 32 u6 i (CELLS t) ∧ Below w.heap.size w wr) := by
            have := A.out.2.1
            rw [List.take_of_length_le (by have := HA.out; omega)] at this
            exact ⟨this, A.out.2.2⟩
          clear A HA
          go_wp2
          go_ret2
          exact ⟨_, rfl, R.out.1, R.out.2⟩
        | succ q =>
          have hlt : (i : Int) < (N : Int) := by have := A.out.1; omega
          go_wp2
          generalize wr = wo at *
          have R0 : Aside (i + 1 + q = N ∧ (wo.alloc (.cells ZARR 60)).ownsRow w.heap.size 60 32 u6 i (CELLS (t.take (32 * i))) ∧ Below w.heap.size w (wo.alloc (.cells ZARR 60)) ∧ Has (wo.alloc (.cells ZARR 60)) wo.heap.size (CELLS (FILLH (HSH t i) 0)).toArray 60 ∧ (HSH t i).length = 32) := by
            obtain ⟨a1, a2, a3⟩ := A.out
            exact ⟨by omega, a2.alloc _, a3.alloc a3.size _, by rw [FILLH_zero, ZARR_eq]; exact Has.new _ _ _, HSH_length HA.out.2.1 (by omega)⟩
          have BB : Aside (w.heap.size ≤ wo.heap.size ∧ ∀ k, u6.ownBlock = some k → k ≠ wo.heap.size) := ⟨A.out.2.2.size, fun k e => by have := (A.out.2.1.lt k e).2; omega⟩
          clear A
          obtain ⟨hb, hhb⟩ : ∃ hb, hb = wo.heap.size := ⟨_, rfl⟩
          rw [← hhb] at R0 BB ⊢
          clear hhb
          rw [show (#[.int .u8 0, .int .u8 0, .int .u8 0, .int .u8 0, .int .u8 0, .int .u8 0, .int .u8 0, .int .u8 0, .int .u8 0, .int .u8 0, .int .u8 0, .int .u8 0, .int .u8 0, .int .u8 0, .int .u8 0, .int .u8 0, .int .u8 0, .int .u8 0, .int .u8 0, .int .u8 0, .int .u8 0, .int .u8 0, .int .u8 0, .int .u8 0, .int .u8 0, .int .u8 0, .int .u8 0, .int .u8 0, .int .u8 0, .int .u8 0, .int .u8 0, .int .u8 0] : Array Value) = ZARR from rfl]
          generalize wo.alloc (.cells ZARR 60) = w1 at *
          go_loopg [9] 32 (fun p s9 wx => ∃ k : Nat, s9 = .int .i64 (k : Int) ∧ Aside (k + p = 32 ∧ wx.ownsRow w.heap.size 60 32 u6 i (CELLS (t.take (32 * i))) ∧ Below w.heap.size w wx ∧ Has wx hb (CELLS (FILLH (HSH t i) k)).toArray 60))
          case atStart => exact ⟨0, rfl, by omega, R0.out.2.1, R0.out.2.2.1, R0.out.2.2.2.1⟩
          case round =>
            obtain ⟨k, rfl, A⟩ := hrel
            cases gk with
            | zero =>
              obtain rfl : k = 32 := by have := A.out.1; omega
              have hlt2 : ¬ (((32 : Nat) : Int)) < 32 := by omega
              have R : Aside (i + 1 + q = N ∧ wr.ownsRow w.heap.size 60 32 u6 i (CELLS (t.take (32 * i))) ∧ Below w.heap.size w wr ∧ Has wr hb (CELLS (HSH t i)).toArray 60 ∧ t.take (32 * (i + 1)) = t.take (32 * i) ++ HSH t i ∧ N ≤ 1000) := by
                obtain ⟨a1, a2, a3, a4⟩ := A.out
                rw [FILLH_all R0.out.2.2.2.2] at a4
                exact ⟨R0.out.1, a2, a3, a4, HSH_next t i, HA.out.2.2.1⟩
              have h32 := R0.out.2.2.2.2
              have E1 : Aside (wrap64 ((i : Int) + 1) = ((i + 1 : Nat) : Int)) := by have := R.out; show wrap64 ((i : Int) + 1) = ((i + 1 : Nat) : Int); unfold wrap64; omega
              clear A R0 HA
              generalize HSH t i = H at *
              go_wp2_with (first
                | (refine wpList_load_row rfl 60 (.tmp 8) rfl hb rfl 60 (CELLS H).toArray (0, 0) _ R.out.2.2.2.1 Tryd.underlying60 rfl (info_arr h32) ?_)
                | (refine build_one _ rfl 35 60 (.tmp 39) rfl (CELLS H).toArray rfl 32 _ _ Tryd.underlying35 info_hashv (by simp [CELLS, h32]) rfl (by decide) (by decide) ?_)
                | (at_builtin; refine app_hash _ rfl (.tmp 38) (.tmp 40) rfl w.heap.size u6 i _ rfl (R.out.2.1.alloc _) _ 1 H h32 rfl (Has.new _ _ _) (by have := R.out; omega) (by have := R.out.2.2.1.size; simp; omega) ?_; intro g2 c2 w2 hown hgrow hat hg))
              have R2 : Aside (i + 1 + q = N ∧ w2.ownsRow w.heap.size 60 32 (.slice (some ⟨g2, 0, none⟩) (i + 1) c2) (i + 1) (CELLS (t.take (32 * (i + 1)))) ∧ Below w.heap.size w w2) := by
                obtain ⟨r1, r2, r3, r4, r5, r6⟩ := R.out
                refine ⟨r1, by rw [r5, CELLS_append]; exact hown, (r3.alloc r3.size _).grown hgrow (by have := r3.size; simp; omega) (fun k e => (r2.lt k e).1)⟩
              clear hown hgrow hat hg R h32
              have e1 := E1.out
              go_wp2
              go_roundg q
              case measure => exact Nat.lt_succ_self _
              case rel => exact ⟨i + 1, by first | rfl | (rw [E1.out]), R2.out⟩
            | succ p =>
              obtain ⟨a1, a2, a3, a4⟩ := A.out
              have hk : k < 32 := by omega
              have hlt2 : (k : Int) < 32 := by omega
              obtain ⟨h1, h2, h3, h4⟩ := HA.out
              have hiN : i < N := by have := R0.out.1; omega
              obtain ⟨b, o, rfl, hbl, hc⟩ := h4.2.1 (by omega)
              obtain ⟨J, hJ⟩ : ∃ J, 32 * i + k = J := ⟨_, rfl⟩
              have hx : wr.cell? ⟨b, o + J, none⟩ = some (.int .u8 ((HSH t i).getD k 0)) := by
                rw [HSH_at hk, hJ]
                exact (a3.cell (p := ⟨b, o + J, none⟩) hbl).trans (hc J (by omega))
              have M1 : Aside (wrap64 (32 * (i : Int)) = 32 * (i : Int)) := by show wrap64 (32 * (i : Int)) = 32 * (i : Int); unfold wrap64; omega
              have M2 : Aside (wrap64 (32 * (i : Int) + (k : Int)) = (J : Int)) := by show wrap64 (32 * (i : Int) + (k : Int)) = (J : Int); unfold wrap64; omega
              have m3 : (J : Int) < (m : Int) := by omega
              have y0 : wr.cell? ⟨hb, k, none⟩ = some (.int .u8 ((FILLH (HSH t i) k).getD k 0)) := by
                rw [a4.cell, List.getElem?_toArray, CELLS_get _ k (by rw [FILLH_length R0.out.2.2.2.2 (by omega)]; exact hk)]
              have y1 : wr.frozen? ⟨hb, k, none⟩ = false := a4.frozen k
              have hst := a4.set k (.int .u8 ((HSH t i).getD k 0))
              rw [FILLH_next R0.out.2.2.2.2 hk] at hst
              have R : Aside (k + 1 + p = 32 ∧ (wr.setCell ⟨hb, k, none⟩ (.int .u8 ((HSH t i).getD k 0))).ownsRow w.heap.size 60 32 u6 i (CELLS (t.take (32 * i))) ∧ Below w.heap.size w (wr.setCell ⟨hb, k, none⟩ (.int .u8 ((HSH t i).getD k 0))) ∧ Has (wr.setCell ⟨hb, k, none⟩ (.int .u8 ((HSH t i).getD k 0))) hb (CELLS (FILLH (HSH t i) (k + 1))).toArray 60) :=
                ⟨by omega, own_heap a2 fun j hj => Below.heap_setCell _ _ _ j (BB.out.2 j hj), a3.setCell (p := ⟨hb, k, none⟩) BB.out.1 _, hst⟩
              have E1 : Aside (wrap64 ((k : Int) + 1) = ((k + 1 : Nat) : Int)) := by show wrap64 ((k : Int) + 1) = ((k + 1 : Nat) : Int); unfold wrap64; omega
              clear a1 a2 a3 a4 hk h1 h2 h3 h4 hbl hc hJ hst A HA R0 BB
              generalize (HSH t i).getD k 0 = v at *
              generalize (FILLH (HSH t i) k).getD k 0 = v0 at *
              have e1 := E1.out
              have m1 := M1.out
              have m2 := M2.out
              go_wp2
              go_roundg p
              case measure => exact Nat.lt_succ_self _
              case rel => exact ⟨k + 1, by first | rfl | (rw [E1.out]), R.out⟩
end Go.Proofs.YtmkgldjocigffaaDoor

/- Lists of hashes and of bytes that lie somewhere: what a row of one's own, a block, a cut of them give. -/
namespace Go.Proofs.YtmkgldjocigffaaDoor
open Go.RowKit
set_option maxRecDepth 100000

theorem range_below {w w' : World} {g o : Nat} {cs : List Value} (h : w.rangeAt g o cs) (hb : Below w.heap.size w w') (hg : g < w.heap.size) : w'.rangeAt g o cs := fun j v hv => (hb.cell (p := ⟨g, o + j, none⟩) hg).trans (h j v hv)
theorem Flat.other {w : World} {b o n : Nat} {l : List Int} (h : Flat w (some ⟨b, o, none⟩) n l) {a : Addr} (ha : b ≠ a.block) (u : Value) : Flat (w.setCell a u) (some ⟨b, o, none⟩) n l :=
  ⟨h.1, fun hn => by
    obtain ⟨b', o', e, hl, hc⟩ := h.2.1 hn
    cases e
    exact ⟨b, o, rfl, Nat.lt_of_lt_of_le hl (KeepsWalks.setCell w a u).size, fun j hj => (World.cell?_setCell_other w _ _ u (fun e => ha (congrArg Addr.block e).symm)).trans (hc j hj)⟩, h.2.2⟩
theorem own_flat {w : World} {B n : Nat} {a : Option Addr} {c : Nat} {l : List Int} (h : w.ownsRow B 60 32 (.slice a n c) n (CELLS l)) (hr : ∀ x ∈ l, 0 ≤ x ∧ x ≤ 255) : Flat w a n l := by
  have hl : l.length = 32 * n := by have := h.1; simpa [CELLS, Nat.mul_comm] using this
  refine ⟨hl, fun hn => ?_, hr⟩
  rcases h.2 with ⟨e, h0⟩ | ⟨g, cap, cur, e, _, hg, _⟩
  · omega
  · cases e
    refine ⟨g, 0, rfl, (Array.getElem?_eq_some_iff.1 hg).1, fun j hj => ?_⟩
    have := h.cellAt j (by omega)
    rw [Nat.zero_add, this, CELLS_get l j (by omega)]
theorem Bytes.take {w : World} {a : Option Addr} {n : Nat} {l : List Int} (h : Bytes w a n l) {m : Nat} (hm : m ≤ n) : Bytes w a m (l.take m) := by
  refine ⟨by rw [List.length_take, h.1]; omega, fun h0 => ?_, fun x hx => h.2.2 x (List.mem_of_mem_take hx)⟩
  obtain ⟨b, o, e, hb, hc⟩ := h.2.1 (by omega)
  refine ⟨b, o, e, hb, fun i hi => ?_⟩
  rw [hc i (by omega), List.getD_eq_getElem?_getD, List.getD_eq_getElem?_getD, List.getElem?_take, if_pos hi]
end Go.Proofs.YtmkgldjocigffaaDoor

/- What the document's Put and Encode answer, of any proof. -/
namespace Go.Proofs.YtmkgldjocigffaaDoor
open Go.RowKit
set_option maxRecDepth 100000

theorem take_more {l : List Int} {J : Nat} (h : J < l.length) : l.take (J + 1) = l.take J ++ [l.getD J 0] := by
  rw [List.take_add_one, List.getElem?_eq_getElem h, List.getD_eq_getElem?_getD, List.getElem?_eq_getElem h]
  rfl
set_option maxHeartbeats 2000000 in
theorem put_ok (B : Nat) (v : Value) (np : Nat) (PRE : List Int) (hnp : np ≤ 1000000) (a : Option Addr) (n c : Nat) (hn : n ≤ 1000) (l : List Int) (w : World) (hB : B ≤ w.heap.size) (hv : w.ownsRow B 5 1 v np (CELLS PRE)) (hF : Flat w a n l) (hFa : 0 < n → ∀ b o, a = some ⟨b, o, none⟩ → b < B) :
    Calls Tryd.prog 39 #[v, .slice a n c] w fun e w' => ∃ v', e = .returned v' ∧ w'.ownsRow B 5 1 v' (np + 32 * n) (CELLS (PRE ++ l)) ∧ Below B w w' := by
  have HA : Aside (np ≤ 1000000 ∧ n ≤ 1000 ∧ l.length = 32 * n ∧ Flat w a n l ∧ (0 < n → ∀ b o, a = some ⟨b, o, none⟩ → b < B) ∧ B ≤ w.heap.size) := ⟨hnp, hn, hF.1, hF, hFa, hB⟩
  have V0 : Aside (w.ownsRow B 5 1 v np (CELLS PRE)) := hv
  clear hnp hn hF hFa hB hv
  go_enter Tryd.func39, Tryd.ntmps39
  go_wp2
  go_loopg [0, 5] n (fun q s0 s5 wx => ∃ i : Nat, s5 = .int .i64 (i : Int) ∧ Aside (i + q = n ∧ wx.ownsRow B 5 1 s0 (np + 32 * i) (CELLS (PRE ++ l.take (32 * i))) ∧ Below B w wx))
  case atStart => exact ⟨0, rfl, by omega, by simpa using V0.out, Below.refl _ _⟩
  case round =>
    obtain ⟨i, rfl, A⟩ := hrel
    clear V0
    cases gk with
    | zero =>
      obtain rfl : i = n := by have := A.out.1; omega
      have hlt : ¬ (i : Int) < (i : Int) := by omega
      have R : Aside (wr.ownsRow B 5 1 u0 (np + 32 * i) (CELLS (PRE ++ l)) ∧ Below B w wr) := by
        have := A.out.2.1
        rw [List.take_of_length_le (by have := HA.out; omega)] at this
        exact ⟨this, A.out.2.2⟩
      clear A HA
      go_wp2
      go_ret
      exact ⟨_, rfl, R.out⟩
    | succ q =>
      have hlt : (i : Int) < (n : Int) := by have := A.out.1; omega
      have R0 : Aside (i + 1 + q = n ∧ wr.ownsRow B 5 1 u0 (np + (32 * i + 0)) (CELLS (PRE ++ l.take (32 * i + 0))) ∧ Below B w wr) := ⟨by have := A.out.1; omega, A.out.2.1, A.out.2.2⟩
      clear A
      go_wp2
      generalize wr = wo at *
      generalize u0 = vo at *
      go_loopg [0, 6] 32 (fun p s0 s6 wx => ∃ k : Nat, s6 = .int .i64 (k : Int) ∧ Aside (k + p = 32 ∧ wx.ownsRow B 5 1 s0 (np + (32 * i + k)) (CELLS (PRE ++ l.take (32 * i + k))) ∧ Below B w wx))
      case atStart => exact ⟨0, rfl, by omega, R0.out.2.1, R0.out.2.2⟩
      case round =>
        obtain ⟨k, rfl, A⟩ := hrel
        cases gk with
        | zero =>
          obtain rfl : k = 32 := by have := A.out.1; omega
          have hlt2 : ¬ (((32 : Nat) : Int)) < 32 := by omega
          have R : Aside (i + 1 + q = n ∧ wr.ownsRow B 5 1 u0 (np + 32 * (i + 1)) (CELLS (PRE ++ l.take (32 * (i + 1)))) ∧ Below B w wr) := ⟨R0.out.1, by rw [show 32 * (i + 1) = 32 * i + 32 by omega]; exact A.out.2.1, A.out.2.2⟩
          have E1 : Aside (wrap64 ((i : Int) + 1) = ((i + 1 : Nat) : Int)) := by have := HA.out; show wrap64 ((i : Int) + 1) = ((i + 1 : Nat) : Int); unfold wrap64; omega
          clear A R0 HA
          have e1 := E1.out
          go_wp2
          go_roundg q
          case measure => exact Nat.lt_succ_self _
          case rel => exact ⟨i + 1, by first | rfl | (rw [E1.out]), R.out⟩
        | succ p =>
          obtain ⟨a1, a2, a3⟩ := A.out
          obtain ⟨h1, h2, h3, h4, h5, h6⟩ := HA.out
          have hiN : i < n := by have := R0.out.1; omega
          have hk : k < 32 := by omega
          have hlt2 : (k : Int) < 32 := by omega
          obtain ⟨b, o, rfl, hbl, hc⟩ := h4.2.1 (by omega)
          have hx : wr.cell? ⟨b, o + i * 32 + k, none⟩ = some (.int .u8 (l.getD (32 * i + k) 0)) := by
            rw [show o + i * 32 + k = o + (32 * i + k) by omega]
            exact (a3.cell (p := ⟨b, o + (32 * i + k), none⟩) (h5 (by omega) b o rfl)).trans (hc _ (by omega))
          have hrng := h4.2.2 (l.getD (32 * i + k) 0) (by rw [List.getD_eq_getElem?_getD, List.getElem?_eq_getElem (by omega)]; exact List.getElem_mem _)
          have htk := take_more (l := l) (J := 32 * i + k) (by omega)
          have R : Aside (k + 1 + p = 32 ∧ np + (32 * i + k) + 1 ≤ 140737488355328 ∧ wr.ownsRow B 5 1 u0 (np + (32 * i + k)) (CELLS (PRE ++ l.take (32 * i + k))) ∧ Below B w wr ∧ B ≤ wr.heap.size ∧ (0 ≤ l.getD (32 * i + k) 0 ∧ l.getD (32 * i + k) 0 ≤ 255) ∧ PRE ++ l.take (32 * i + (k + 1)) = PRE ++ l.take (32 * i + k) ++ [l.getD (32 * i + k) 0]) := ⟨by omega, by omega, a2, a3, Nat.le_trans h6 a3.size, hrng, by rw [← Nat.add_assoc, htk, List.append_assoc]⟩
          have E1 : Aside (wrap64 ((k : Int) + 1) = ((k + 1 : Nat) : Int)) := by show wrap64 ((k : Int) + 1) = ((k + 1 : Nat) : Int); unfold wrap64; omega
          clear a1 a2 a3 h1 h2 h3 h4 h5 h6 hiN hk hbl hc hrng htk A R0 HA
          generalize l.getD (32 * i + k) 0 = x at *
          go_wp2_with (at_builtin; refine app_u8 _ rfl (.tmp 17) (.tmp 24) rfl B u0 (np + (32 * i + k)) _ rfl (R.out.2.2.1.alloc _) wr.heap.size 0 1 1 [x] rfl (one_bytes wr x R.out.2.2.2.2.2.1.1 R.out.2.2.2.2.2.1.2) (by decide) R.out.2.1 (by have := R.out.2.2.2.2.1; simp; omega) ?_; intro g2 c2 w2 hown hgrow hg)
          have R2 : Aside (k + 1 + p = 32 ∧ w2.ownsRow B 5 1 (.slice (some ⟨g2, 0, none⟩) (np + (32 * i + k) + 1) c2) (np + (32 * i + (k + 1))) (CELLS (PRE ++ l.take (32 * i + (k + 1)))) ∧ Below B w w2) := by
            obtain ⟨r1, r2, r3, r4, r5, r6, r7⟩ := R.out
            refine ⟨r1, by rw [r7, show np + (32 * i + (k + 1)) = np + (32 * i + k) + 1 by omega]; exact hown, (r4.alloc r5 _).grown hgrow (by simp; omega) (fun k e => (r3.lt k e).1)⟩
          clear hown hgrow hg R hx
          have e1 := E1.out
          go_wp2
          go_roundg p
          case measure => exact Nat.lt_succ_self _
          case rel => exact ⟨k + 1, by first | rfl | (rw [E1.out]), R2.out⟩
end Go.Proofs.YtmkgldjocigffaaDoor

/- massifref20.Encode: the bytes of a proof of a span, as the document says them. -/
namespace Go.Proofs.YtmkgldjocigffaaDoor
open Go.RowKit
set_option maxRecDepth 100000

set_option maxHeartbeats 4000000 in
theorem srefencode_ok (S F T : Nat) (an : Option Addr) (K cn : Nat) (l : List Int) (w : World) (hK : K ≤ 200) (hN : Flat w an K l) :
    Calls Tryd.prog 15 #[.agg (RBOX S F T an K cn)] w (ANSB20 w (SENC S F T K l)) := by
  obtain ⟨w0, hw0⟩ : ∃ w0, w.alloc (.cells (RBOX S F T an K cn) 37) = w0 := ⟨_, rfl⟩
  have h1 : Has w0 w.heap.size (RBOX S F T an K cn) 37 := by rw [← hw0]; exact Has.new w _ _
  have hb0 : Below w.heap.size w w0 := by rw [← hw0]; exact (Below.refl _ _).alloc (Nat.le_refl _) _
  have cp := srefplaces_ok F T S w0
  have hM : (RBOX S F T an K cn) = #[.int .u64 (S : Int), .int .u64 (F : Int), .int .u64 (T : Int), .slice an K cn] := rfl
  have CC : Aside (∀ W, Below w0.heap.size w0 W → W.cell? ⟨w.heap.size, 0, none⟩ = some (.int .u64 (S : Int)) ∧ W.cell? ⟨w.heap.size, 1, none⟩ = some (.int .u64 (F : Int)) ∧ W.cell? ⟨w.heap.size, 2, none⟩ = some (.int .u64 (T : Int)) ∧ W.cell? ⟨w.heap.size, 3, none⟩ = some (.slice an K cn)) := fun W hb => ⟨(h1.keep hb).cell 0, (h1.keep hb).cell 1, (h1.keep hb).cell 2, (h1.keep hb).cell 3⟩
  have HA : Aside (K ≤ 200 ∧ Flat w0 an K l ∧ Below w.heap.size w w0 ∧ w.heap.size < w0.heap.size) := ⟨hK, hN.below hb0, hb0, h1.lt⟩
  obtain ⟨M, hMM⟩ : ∃ M, SENC S F T K l = M := ⟨_, rfl⟩
  rw [hMM]
  have HM : Aside (SENC S F T K l = M) := hMM
  obtain ⟨x0, x1, x2, x3⟩ := CC.out w0 (Below.refl _ _)
  rw [hM] at hw0
  clear hK hN h1 hb0 hMM
  by_cases hr : SPE F T S = 0
  · have hP : SPA F T S = SPP F T S := if_pos hr
    have q : S ≤ 4611686018427387904 ∧ F ≤ T ∧ T ≤ S := by
      rcases SPE_cases F T S with ⟨e, _⟩ | ⟨e, _⟩ | ⟨_, _, q⟩
      · rw [e] at hr; cases hr
      · rw [e] at hr; cases hr
      · exact q
    rw [hr, hP] at cp
    unfold ANSP20 at cp
    obtain ⟨P, hPe⟩ : ∃ P, (SPP F T S).length = P := ⟨_, rfl⟩
    rw [hPe] at cp
    by_cases hKP : K = P
    · subst hKP
      have hM2 : M = (0, SWRT S F (T - F) l) := by
        rw [← HM.out]
        unfold SENC
        have : SWA S F T K = 0 := by unfold SWA; rw [hr, if_pos rfl, if_pos hPe.symm]
        rw [if_pos this]
      have c1 := refshort_ok S (by omega)
      have c2 := refshort_ok F (by omega)
      have c3 := refshort_ok (T - F) (by omega)
      have hl1 := SHORT_length S
      have hl2 := SHORT_length F
      have hl3 := SHORT_length (T - F)
      have h91 := NTOP_le S
      have h92 := NTOP_le F
      have h93 := NTOP_le (T - F)
      have hr1 := SHORT_range (X := S) (by omega)
      have hr2 := SHORT_range (X := F) (by omega)
      have hr3 := SHORT_range (X := T - F) (by omega)
      have eg := u64_gap20 q.2.1 (show T < 2 ^ 64 by omega)
      have eL : SWRT S F (T - F) l = [83] ++ SHORT S ++ SHORT F ++ SHORT (T - F) ++ l := by unfold SWRT; simp
      rw [hM2]
      obtain ⟨Z, hZ⟩ : ∃ Z, SWRT S F (T - F) l = Z := ⟨_, rfl⟩
      rw [hZ] at eL ⊢
      obtain ⟨D, hD⟩ : ∃ D, T - F = D := ⟨_, rfl⟩
      rw [hD] at c3 hl3 h93 hr3 eg eL
      have hn1 : 0 < NTOP S + 1 := by omega
      have hn2 : 0 < NTOP F + 1 := by omega
      have hn3 : 0 < NTOP D + 1 := by omega
      have hm1 : NTOP S + 1 ≤ 10 := by omega
      have hm2 : NTOP F + 1 ≤ 10 := by omega
      have hm3 : NTOP D + 1 ≤ 10 := by omega
      generalize hSX : SHORT S = SX at *
      generalize hSY : SHORT F = SY at *
      generalize hSD : SHORT D = SD at *
      clear h91 h92 h93 hSX hSY hSD hM2 hZ
      generalize NTOP S + 1 = nx at *
      generalize NTOP F + 1 = ny at *
      generalize NTOP D + 1 = nd at *
      have HS : Aside (nx ≤ 10 ∧ ny ≤ 10 ∧ nd ≤ 10 ∧ (∀ x ∈ SX, 0 ≤ x ∧ x ≤ 255) ∧ (∀ x ∈ SY, 0 ≤ x ∧ x ≤ 255) ∧ (∀ x ∈ SD, 0 ≤ x ∧ x ≤ 255) ∧ Z = [83] ++ SX ++ SY ++ SD ++ l) := ⟨hm1, hm2, hm3, hr1, hr2, hr3, eL⟩
      have EG : Aside (IntKind.u64.wrap ((T : Int) - (F : Int)) = (D : Int)) := eg
      clear hl1 hl2 hl3 hm1 hm2 hm3 hr1 hr2 hr3 eL hr HM q eg hD hP hPe
      go_enter Tryd.func15, Tryd.ntmps15
      rw [hM]
      go_wp2_with fail
      refine cp.mono ?_
      rintro e w1 ⟨ap, kp, rfl, _, hb1⟩
      have B1 : Aside (Below w0.heap.size w0 w1) := hb1
      obtain ⟨y0, y1, y2, y3⟩ := CC.out w1 hb1
      have R0 : Aside ((w1.alloc (.cells #[.int .u8 83] 5)).ownsRow w1.heap.size 5 1 (.slice (some ⟨w1.heap.size, 0, none⟩) 1 1) 1 (CELLS [83]) ∧ Below w1.heap.size w1 (w1.alloc (.cells #[.int .u8 83] 5))) := ⟨own_one w1 83, (Below.refl _ _).alloc (Nat.le_refl _) _⟩
      have z0 : (w1.alloc (.cells #[.int .u8 83] 5)).cell? ⟨w.heap.size, 0, none⟩ = some (.int .u64 (S : Int)) := (CC.out _ (B1.out.trans (R0.out.2.mono B1.out.size))).1
      clear cp hb1 x0 x1 x2 x3 hw0
      go_wp2_with fail
      generalize w1.alloc (.cells #[.int .u8 83] 5) = wa at *
      refine (c1 _).mono ?_
      rintro e w2 ⟨g, cap, rfl, hown, hg, hb⟩
      have R1 : Aside (w2.ownsRow w1.heap.size 5 1 (.slice (some ⟨w1.heap.size, 0, none⟩) 1 1) 1 (CELLS [83]) ∧ Below w1.heap.size w1 w2 ∧ Bytes w2 (some ⟨g, 0, none⟩) nx SX) := ⟨own_below R0.out.1 hb, R0.out.2.trans (hb.mono R0.out.2.size), own_bytes hown hg HS.out.2.2.2.1⟩
      clear hown hg hb R0 c1 y0 y1 y2 y3 z0
      go_wp2_with (first
        | (at_builtin; refine app_u8 _ rfl (.tmp 26) (.tmp 29) rfl w1.heap.size _ 1 [83] rfl R1.out.1 g 0 nx cap SX rfl R1.out.2.2 hn1 (by have := HS.out; omega) R1.out.2.1.size ?_; intro g3 cap3 w3 hown hgrow hg
           have R2 : Aside (w3.ownsRow w1.heap.size 5 1 (.slice (some ⟨g3, 0, none⟩) (1 + nx) cap3) (1 + nx) (CELLS ([83] ++ SX)) ∧ Below w1.heap.size w1 w3) := ⟨hown, R1.out.2.1.grown hgrow R1.out.2.1.size (fun k e => (R1.out.1.lt k e).1)⟩
           have y1 := (CC.out w3 (B1.out.trans (R2.out.2.mono B1.out.size))).2.1
           clear hown hgrow hg R1))
      refine (c2 _).mono ?_
      rintro e w4 ⟨g4, cap4, rfl, hown, hg, hb⟩
      have R3 : Aside (w4.ownsRow w1.heap.size 5 1 (.slice (some ⟨g3, 0, none⟩) (1 + nx) cap3) (1 + nx) (CELLS ([83] ++ SX)) ∧ Below w1.heap.size w1 w4 ∧ Bytes w4 (some ⟨g4, 0, none⟩) ny SY) := ⟨own_below R2.out.1 hb, R2.out.2.trans (hb.mono R2.out.2.size), own_bytes hown hg HS.out.2.2.2.2.1⟩
      clear hown hg hb R2 c2 y1
      go_wp2_with (first
        | (at_builtin; refine app_u8 _ rfl (.tmp 31) (.tmp 34) rfl w1.heap.size _ (1 + nx) ([83] ++ SX) rfl R3.out.1 g4 0 ny cap4 SY rfl R3.out.2.2 hn2 (by have := HS.out; omega) R3.out.2.1.size ?_; intro g5 cap5 w5 hown hgrow hg
           have R4 : Aside (w5.ownsRow w1.heap.size 5 1 (.slice (some ⟨g5, 0, none⟩) (1 + nx + ny) cap5) (1 + nx + ny) (CELLS ([83] ++ SX ++ SY)) ∧ Below w1.heap.size w1 w5) := ⟨hown, R3.out.2.1.grown hgrow R3.out.2.1.size (fun k e => (R3.out.1.lt k e).1)⟩
           have y1 := (CC.out w5 (B1.out.trans (R4.out.2.mono B1.out.size))).2.1
           have y2 := (CC.out w5 (B1.out.trans (R4.out.2.mono B1.out.size))).2.2.1
           have eg := EG.out
           clear hown hgrow hg R3))
      refine (c3 _).mono ?_
      rintro e w6 ⟨g6, cap6, rfl, hown, hg, hb⟩
      have R5 : Aside (w6.ownsRow w1.heap.size 5 1 (.slice (some ⟨g5, 0, none⟩) (1 + nx + ny) cap5) (1 + nx + ny) (CELLS ([83] ++ SX ++ SY)) ∧ Below w1.heap.size w1 w6 ∧ Bytes w6 (some ⟨g6, 0, none⟩) nd SD) := ⟨own_below R4.out.1 hb, R4.out.2.trans (hb.mono R4.out.2.size), own_bytes hown hg HS.out.2.2.2.2.2.1⟩
      clear hown hg hb R4 c3 y1 y2 eg
      go_wp2_with (first
        | (at_builtin; refine app_u8 _ rfl (.tmp 36) (.tmp 42) rfl w1.heap.size _ (1 + nx + ny) ([83] ++ SX ++ SY) rfl R5.out.1 g6 0 nd cap6 SD rfl R5.out.2.2 hn3 (by have := HS.out; omega) R5.out.2.1.size ?_; intro g7 cap7 w7 hown hgrow hg
           have R6 : Aside (w7.ownsRow w1.heap.size 5 1 (.slice (some ⟨g7, 0, none⟩) (1 + nx + ny + nd) cap7) (1 + nx + ny + nd) (CELLS ([83] ++ SX ++ SY ++ SD)) ∧ Below w1.heap.size w1 w7) := ⟨hown, R5.out.2.1.grown hgrow R5.out.2.1.size (fun k e => (R5.out.1.lt k e).1)⟩
           have y3 := (CC.out w7 (B1.out.trans (R6.out.2.mono B1.out.size))).2.2.2
           clear hown hgrow hg R5))
      have hb01 : Below w0.heap.size w0 w7 := B1.out.trans (R6.out.2.mono B1.out.size)
      have cput := put_ok w1.heap.size _ (1 + nx + ny + nd) _ (by have := HS.out; omega) an K cn (by have := HA.out.1; omega) l w7 R6.out.2.size R6.out.1 (HA.out.2.1.below hb01) (fun h0 b o e => by
        obtain ⟨b', o', e', hlt', _⟩ := HA.out.2.1.2.1 h0
        rw [e] at e'
        cases e'
        exact Nat.lt_of_lt_of_le hlt' B1.out.size)
      have FZ : Aside (∀ (e : Ending) (w' : World), (∃ v', e = .returned v' ∧ w'.ownsRow w1.heap.size 5 1 v' (1 + nx + ny + nd + 32 * K) (CELLS ([83] ++ SX ++ SY ++ SD ++ l)) ∧ Below w1.heap.size w7 w') → ∃ a' c', e = .returned (.slice a' Z.length c') ∧ w'.ownsRow w.heap.size 5 1 (.slice a' Z.length c') Z.length (CELLS Z) ∧ Below w.heap.size w w') := by
        rintro e w' ⟨v', he, ho, hbw⟩
        rw [← HS.out.2.2.2.2.2.2] at ho
        have hlen := own_len ho
        rw [← hlen] at ho
        obtain ⟨a', c', rfl⟩ := own_sl20 ho
        have b1 : w.heap.size ≤ w1.heap.size := Nat.le_trans HA.out.2.2.1.size B1.out.size
        exact ⟨a', c', he, own_mono ho b1, (HA.out.2.2.1.trans (B1.out.mono HA.out.2.2.1.size)).trans ((R6.out.2.trans hbw).mono b1)⟩
      clear hb01
      go_wp2_with fail
      refine cput.mono ?_
      intro e w8 hh
      obtain ⟨a', c', rfl, ho, hbw⟩ := FZ.out e w8 hh
      have FN : Aside (ANSB20 w (0, Z) (.returned (.tuple #[.slice a' Z.length c', .int .i64 0])) w8) := ⟨a', c', rfl, ho, hbw⟩
      clear cput hh ho hbw FZ R6 HS HA y3
      go_wp2_with fail
      go_ret2
      exact FN.out
    · have hM2 : M = (70, []) := by
        rw [← HM.out]
        unfold SENC
        have e : SWA S F T K = 70 := by unfold SWA; rw [hr, if_pos rfl, if_neg (by rw [hPe]; exact hKP)]
        rw [if_neg (by rw [e]; decide), e]
      have hne1 : ((P : Int) == (K : Int)) = false := by simp; omega
      have hne2 : ((P : Int) != (K : Int)) = true := by simp; omega
      have hne3 : ¬ (P : Int) = (K : Int) := by omega
      clear hr hP HM hPe q
      rw [hM2]
      go_enter Tryd.func15, Tryd.ntmps15
      rw [hM]
      go_wp2_with fail
      refine cp.mono ?_
      rintro e w1 ⟨ap, kp, rfl, _, hb1⟩
      obtain ⟨y0, y1, y2, y3⟩ := CC.out w1 hb1
      have FN : Aside (Below w.heap.size w w1) := HA.out.2.2.1.trans (hb1.mono HA.out.2.2.1.size)
      clear cp hb1 x0 x1 x2 x3 hw0 y0 y1 y2
      go_wp2_with fail
      go_ret2
      exact ⟨none, 0, rfl, own_noneb _ _, FN.out⟩
  · have hM2 : M = (SPE F T S, []) := by
      rw [← HM.out]
      unfold SENC
      have e : SWA S F T K = SPE F T S := by unfold SWA; rw [if_neg hr]
      rw [if_neg (by rw [e]; exact hr), e]
    have hP : SPA F T S = [] := if_neg hr
    rw [hP] at cp
    rw [hM2]
    have hr1 : (SPE F T S != 0) = true := by simpa using hr
    generalize SPE F T S = E at *
    unfold ANSP20 at cp
    clear hM2 hP HM
    go_enter Tryd.func15, Tryd.ntmps15
    rw [hM]
    go_wp2_with fail
    refine cp.mono ?_
    rintro e w1 ⟨ap, kp, rfl, _, hb1⟩
    have FN : Aside (Below w.heap.size w w1) := HA.out.2.2.1.trans (hb1.mono HA.out.2.2.1.size)
    clear cp hb1 x0 x1 x2 x3 hw0
    go_wp2_with fail
    go_ret2
    exact ⟨none, 0, rfl, own_noneb _ _, FN.out⟩
end Go.Proofs.YtmkgldjocigffaaDoor

/- Part by part: what inTurn answers, of the parts of either reader. -/
namespace Go.Proofs.YtmkgldjocigffaaDoor
open Go.RowKit
set_option maxRecDepth 100000

end Go.Proofs.YtmkgldjocigffaaDoor

/- What a reader has behind each part. -/
namespace Go.Proofs.YtmkgldjocigffaaDoor
open Go.RowKit
set_option maxRecDepth 100000

/-- a reader's cells: what is left, two numbers, the nodes. -/
def RCELLS (v : Value) (X Y : Nat) (nv : Value) : Array Value := #[v, .int .u64 (X : Int), .int .u64 (Y : Int), nv]
/-- the reader and the list of its parts lie there; what was there before is as it was. -/
structure FRM (w0 w : World) (rb gl : Nat) (t : TypeId) (v : Value) (X Y : Nat) (nv : Value) (fl : Array Value) (tf : TypeId) : Prop where
  bel : Below w0.heap.size w0 w
  rd : Has w rb (RCELLS v X Y nv) t
  fl : Has w gl fl tf
  ne : gl ≠ rb
  lb : w0.heap.size ≤ rb
  lg : w0.heap.size ≤ gl
/-- the bytes that are left lie there. -/
def SRC (w0 : World) (a : Option Addr) (c : Nat) (t : List Int) : Prop := Bytes w0 a t.length t ∧ t.length ≤ c ∧ t.length ≤ 1000000
theorem FRM.drew {w0 w : World} {rb gl : Nat} {t : TypeId} {v : Value} {X Y : Nat} {nv : Value} {fl : Array Value} {tf : TypeId} (h : FRM w0 w rb gl t v X Y nv fl tf) : FRM w0 w.drew rb gl t v X Y nv fl tf := ⟨h.bel.drew, h.rd, h.fl, h.ne, h.lb, h.lg⟩
theorem FRM.keep {w0 w w' : World} {rb gl : Nat} {t : TypeId} {v : Value} {X Y : Nat} {nv : Value} {fl : Array Value} {tf : TypeId} (h : FRM w0 w rb gl t v X Y nv fl tf) (hb : Below w.heap.size w w') : FRM w0 w' rb gl t v X Y nv fl tf := ⟨h.bel.trans (hb.mono h.bel.size), h.rd.keep hb, h.fl.keep hb, h.ne, h.lb, h.lg⟩
theorem FRM.rest {w0 w : World} {rb gl : Nat} {t : TypeId} {v : Value} {X Y : Nat} {nv : Value} {fl : Array Value} {tf : TypeId} (h : FRM w0 w rb gl t v X Y nv fl tf) (v' : Value) : FRM w0 (w.setCell ⟨rb, 0, none⟩ v') rb gl t v' X Y nv fl tf :=
  ⟨h.bel.setCell (p := ⟨rb, 0, none⟩) h.lb _, h.rd.set 0 v', h.fl.other (a := ⟨rb, 0, none⟩) h.ne _, h.ne, h.lb, h.lg⟩
theorem SRC.drop {w0 : World} {b off c : Nat} {t : List Int} (h : SRC w0 (some ⟨b, off, none⟩) c t) (k : Nat) (hk : k ≤ t.length) : SRC w0 (REST b off c k) (c - k) (t.drop k) := by
  obtain ⟨h1, h2, h3⟩ := h
  have := h1.behind k hk h2
  refine ⟨?_, by rw [List.length_drop]; omega, by rw [List.length_drop]; omega⟩
  rw [List.length_drop]
  exact this
theorem SRC.addr {w0 : World} {a : Option Addr} {c : Nat} {t : List Int} (h : SRC w0 a c t) (h0 : 0 < t.length) : ∃ b off, a = some ⟨b, off, none⟩ ∧ b < w0.heap.size ∧ ∀ i, i < t.length → w0.cell? ⟨b, off + i, none⟩ = some (.int .u8 (t.getD i 0)) := h.1.2.1 h0
end Go.Proofs.YtmkgldjocigffaaDoor

/- The reader of package many: a number, the mark, the end. -/
namespace Go.Proofs.YtmkgldjocigffaaDoor
open Go.RowKit
set_option maxRecDepth 100000

/-- but for the block rb, what was there is as it was. -/
structure STAY (w w' : World) (rb : Nat) : Prop where
  kp : ∀ k, k < w.heap.size → k ≠ rb → w'.heap[k]? = w.heap[k]?
  bl : Below rb w w'
theorem STAY.refl (w : World) (rb : Nat) : STAY w w rb := ⟨fun _ _ _ => rfl, Below.refl _ _⟩
theorem STAY.trans {w w' w'' : World} {rb : Nat} (h : STAY w w' rb) (h' : STAY w' w'' rb) : STAY w w'' rb := ⟨fun k hk hne => (h'.kp k (Nat.lt_of_lt_of_le hk h.bl.size) hne).trans (h.kp k hk hne), h.bl.trans h'.bl⟩
theorem STAY.set (w : World) (rb i : Nat) (v : Value) : STAY w (w.setCell ⟨rb, i, none⟩ v) rb := ⟨fun k _ hne => Below.heap_setCell w ⟨rb, i, none⟩ v k hne, (Below.refl _ _).setCell (p := ⟨rb, i, none⟩) (Nat.le_refl _) _⟩
theorem STAY.of {w w' : World} {rb : Nat} (h : Below w.heap.size w w') (hr : rb ≤ w.heap.size) : STAY w w' rb := ⟨fun k hk _ => h.block k hk, h.mono hr⟩
theorem STAY.has {w w' : World} {rb g : Nat} {c : Array Value} {t : TypeId} (h : STAY w w' rb) (hg : Has w g c t) (hne : g ≠ rb) : Has w' g c t := (h.kp g hg.lt hne).trans hg
/-! the mark -/
/-! the size, the end -/
end Go.Proofs.YtmkgldjocigffaaDoor
