/- Texts of VerifyReaches, one behind the other: ProofRefEncode, VerifyRefClimb, VerifyBag, VerifyCount. -/
import Derived.Test.YtkcfhgflgkejoaaGreatDoorVerifyReachesP7
import Derived.Test.YtkcfhgflgkejoaaGreatDoorVerifyReachesP17
import Derived.Test.YtkcfhgflgkejoaaGreatDoorVerifyReachesP19
import Derived.Test.YtkcfhgflgkejoaaGreatDoorVerifyReachesP21
import Derived.Test.YtkcfhgflgkejoaaGreatDoorVerifyReachesP25
import Derived.Test.YtkcfhgflgkejoaaGreatDoorVerifyReachesP27
/- What the document's Put and Encode answer, of any proof. -/
namespace Go.Proofs.YtkcfhgflgkejoaaGreatDoor
open Go.RowKit
set_option maxRecDepth 100000

theorem take_more {l : List Int} {J : Nat} (h : J < l.length) : l.take (J + 1) = l.take J ++ [l.getD J 0] := by
  rw [List.take_add_one, List.getElem?_eq_getElem h, List.getD_eq_getElem?_getD, List.getElem?_eq_getElem h]
  rfl
set_option maxHeartbeats 2000000 in
theorem put_ok (B : Nat) (v : Value) (np : Nat) (PRE : List Int) (hnp : np ≤ 1000000) (a : Option Addr) (n c : Nat) (hn : n ≤ 1000) (l : List Int) (w : World) (hB : B ≤ w.heap.size) (hv : w.ownsRow B 5 1 v np (CELLS PRE)) (hF : Flat w a n l) (hFa : 0 < n → ∀ b o, a = some ⟨b, o, none⟩ → b < B) :
    Calls Tryz.prog 63 #[v, .slice a n c] w fun e w' => ∃ v', e = .returned v' ∧ w'.ownsRow B 5 1 v' (np + 32 * n) (CELLS (PRE ++ l)) ∧ Below B w w' := by
  have HA : Aside (np ≤ 1000000 ∧ n ≤ 1000 ∧ l.length = 32 * n ∧ Flat w a n l ∧ (0 < n → ∀ b o, a = some ⟨b, o, none⟩ → b < B) ∧ B ≤ w.heap.size) := ⟨hnp, hn, hF.1, hF, hFa, hB⟩
  have V0 : Aside (w.ownsRow B 5 1 v np (CELLS PRE)) := hv
  clear hnp hn hF hFa hB hv
  go_enter Tryz.func63, Tryz.ntmps63
  go_wp2
  go_loopg [0, 5] n (fun q s0 s5 wx => ∃ i : Nat, s5 = .int .i64 (i : Int) ∧ Aside (i + q = n ∧ wx.ownsRow B 5 1 s0 (np + 32 * i) (CELLS (PRE ++ l.take (32 * i))) ∧ Below B w wx))
  case atStart => exact ⟨0, rfl, by omega, by simpa using V0.out, Below.refl _ _⟩
  case round =>
    obtain ⟨i, rfl, A⟩ := hrel
    clear V0
    cases gk with
    | zero =>
      obtain rfl : i = n := by have := A.out.1; omega
      have hlt : ¬ (i : Int) < (i : Int) := by omega
      have R : Aside (wr.ownsRow B 5 1 u0 (np + 32 * i) (CELLS (PRE ++ l)) ∧ Below B w wr) := by
        have := A.out.2.1
        rw [List.take_of_length_le (by have := HA.out; omega)] at this
        exact ⟨this, A.out.2.2⟩
      clear A HA
      go_wp2
      go_ret
      exact ⟨_, rfl, R.out⟩
    | succ q =>
      have hlt : (i : Int) < (n : Int) := by have := A.out.1; omega
      have R0 : Aside (i + 1 + q = n ∧ wr.ownsRow B 5 1 u0 (np + (32 * i + 0)) (CELLS (PRE ++ l.take (32 * i + 0))) ∧ Below B w wr) := ⟨by have := A.out.1; omega, A.out.2.1, A.out.2.2⟩
      clear A
      go_wp2
      generalize wr = wo at *
      generalize u0 = vo at *
      go_loopg [0, 6] 32 (fun p s0 s6 wx => ∃ k : Nat, s6 = .int .i64 (k : Int) ∧ Aside (k + p = 32 ∧ wx.ownsRow B 5 1 s0 (np + (32 * i + k)) (CELLS (PRE ++ l.take (32 * i + k))) ∧ Below B w wx))
      case atStart => exact ⟨0, rfl, by omega, R0.out.2.1, R0.out.2.2⟩
      case round =>
        obtain ⟨k, rfl, A⟩ := hrel
        cases gk with
        | zero =>
          obtain rfl : k = 32 := by have := A.out.1; omega
          have hlt2 : ¬ (((32 : Nat) : Int)) < 32 := by omega
          have R : Aside (i + 1 + q = n ∧ wr.ownsRow B 5 1 u0 (np + 32 * (i + 1)) (CELLS (PRE ++ l.take (32 * (i + 1)))) ∧ Below B w wr) := ⟨R0.out.1, by rw [show 32 * (i + 1) = 32 * i + 32 by omega]; exact A.out.2.1, A.out.2.2⟩
          have E1 : Aside (wrap64 ((i : Int) + 1) = ((i + 1 : Nat) : Int)) := by have := HA.out; show wrap64 ((i : Int) + 1) = ((i + 1 : Nat) : Int); unfold wrap64; omega
          clear A R0 HA
          have e1 := E1.out
          go_wp2
          go_roundg q
          case measure => exact Nat.lt_succ_self _
          case rel => exact ⟨i + 1, by first | rfl | (rw [E1.out]), R.out⟩
        | succ p =>
          obtain ⟨a1, a2, a3⟩ := A.out
          obtain ⟨h1, h2, h3, h4, h5, h6⟩ := HA.out
          have hiN : i < n := by have := R0.out.1; omega
          have hk : k < 32 := by omega
          have hlt2 : (k : Int) < 32 := by omega
          obtain ⟨b, o, rfl, hbl, hc⟩ := h4.2.1 (by omega)
          have hx : wr.cell? ⟨b, o + i * 32 + k, none⟩ = some (.int .u8 (l.getD (32 * i + k) 0)) := by
            rw [show o + i * 32 + k = o + (32 * i + k) by omega]
            exact (a3.cell (p := ⟨b, o + (32 * i + k), none⟩) (h5 (by omega) b o rfl)).trans (hc _ (by omega))
          have hrng := h4.2.2 (l.getD (32 * i + k) 0) (by rw [List.getD_eq_getElem?_getD, List.getElem?_eq_getElem (by omega)]; exact List.getElem_mem _)
          have htk := take_more (l := l) (J := 32 * i + k) (by omega)
          have R : Aside (k + 1 + p = 32 ∧ np + (32 * i + k) + 1 ≤ 140737488355328 ∧ wr.ownsRow B 5 1 u0 (np + (32 * i + k)) (CELLS (PRE ++ l.take (32 * i + k))) ∧ Below B w wr ∧ B ≤ wr.heap.size ∧ (0 ≤ l.getD (32 * i + k) 0 ∧ l.getD (32 * i + k) 0 ≤ 255) ∧ PRE ++ l.take (32 * i + (k + 1)) = PRE ++ l.take (32 * i + k) ++ [l.getD (32 * i + k) 0]) := ⟨by omega, by omega, a2, a3, Nat.le_trans h6 a3.size, hrng, by rw [← Nat.add_assoc, htk, List.append_assoc]⟩
          have E1 : Aside (wrap64 ((k : Int) + 1) = ((k + 1 : Nat) : Int)) := by show wrap64 ((k : Int) + 1) = ((k + 1 : Nat) : Int); unfold wrap64; omega
          clear a1 a2 a3 h1 h2 h3 h4 h5 h6 hiN hk hbl hc hrng htk A R0 HA
          generalize l.getD (32 * i + k) 0 = x at *
          go_wp2_with (at_builtin; refine app_u8 _ rfl (.tmp 17) (.tmp 24) rfl B u0 (np + (32 * i + k)) _ rfl (R.out.2.2.1.alloc _) wr.heap.size 0 1 1 [x] rfl (one_bytes wr x R.out.2.2.2.2.2.1.1 R.out.2.2.2.2.2.1.2) (by decide) R.out.2.1 (by have := R.out.2.2.2.2.1; simp; omega) ?_; intro g2 c2 w2 hown hgrow hg)
          have R2 : Aside (k + 1 + p = 32 ∧ w2.ownsRow B 5 1 (.slice (some ⟨g2, 0, none⟩) (np + (32 * i + k) + 1) c2) (np + (32 * i + (k + 1))) (CELLS (PRE ++ l.take (32 * i + (k + 1)))) ∧ Below B w w2) := by
            obtain ⟨r1, r2, r3, r4, r5, r6, r7⟩ := R.out
            refine ⟨r1, by rw [r7, show np + (32 * i + (k + 1)) = np + (32 * i + k) + 1 by omega]; exact hown, (r4.alloc r5 _).grown hgrow (by simp; omega) (fun k e => (r3.lt k e).1)⟩
          clear hown hgrow hg R hx
          have e1 := E1.out
          go_wp2
          go_roundg p
          case measure => exact Nat.lt_succ_self _
          case rel => exact ⟨k + 1, by first | rfl | (rw [E1.out]), R2.out⟩
set_option maxHeartbeats 2000000 in
theorem refencodeprefix_ok (X Y : Nat) (hX : X < 2 ^ 64) (hY : Y < 2 ^ 64) (a : Option Addr) (n c : Nat) (hn : n ≤ 1000) (l : List Int) (w : World) (hF : Flat w a n l) :
    Calls Tryz.prog 30 #[.agg #[.int .u64 (X : Int), .int .u64 (Y : Int), .slice a n c]] w (ANSB w (ENX X Y n l)) := by
  have C1 : Aside (∀ W, Calls Tryz.prog 61 #[.agg #[.int .u64 (X : Int), .int .u64 (Y : Int), .slice a n c]] W fun e w' => e = .returned (.tuple #[.int .i64 ((PPA X Y).2.length : Int), .int .i64 (PPA X Y).1]) ∧ Below W.heap.size W w') := fun W => prefixwants_ok X Y a n c W
  have c1 := refshort_ok X hX
  have c2 := refshort_ok Y hY
  have hl1 := SHORT_length X
  have hl2 := SHORT_length Y
  have h91 := NTOP_le X
  have h92 := NTOP_le Y
  have hr1 := SHORT_range hX
  have hr2 := SHORT_range hY
  obtain ⟨A, hA⟩ : ∃ A, ENX X Y n l = A := ⟨_, rfl⟩
  rw [hA]
  unfold ENX ENCB at hA
  obtain ⟨E, hE⟩ : ∃ E, (PPA X Y).1 = E := ⟨_, rfl⟩
  obtain ⟨np, hP⟩ : ∃ np, (PPA X Y).2.length = np := ⟨_, rfl⟩
  rw [hE, hP] at C1 hA
  have HA : Aside ((if E ≠ 0 then (E, []) else if n ≠ np then (70, []) else (0, 80 :: (SHORT X ++ SHORT Y ++ l))) = A) := hA
  clear hA hE hP
  generalize SHORT X = SX at *
  generalize SHORT Y = SY at *
  have hn1 : 0 < NTOP X + 1 := by omega
  have hn2 : 0 < NTOP Y + 1 := by omega
  have hm1 : NTOP X + 1 ≤ 10 := by omega
  have hm2 : NTOP Y + 1 ≤ 10 := by omega
  clear h91 h92
  generalize NTOP X + 1 = nx at *
  generalize NTOP Y + 1 = ny at *
  have HB : Aside (Flat w a n l ∧ n ≤ 1000 ∧ SX.length = nx ∧ SY.length = ny ∧ nx ≤ 10 ∧ ny ≤ 10 ∧ (∀ x ∈ SX, 0 ≤ x ∧ x ≤ 255) ∧ (∀ x ∈ SY, 0 ≤ x ∧ x ≤ 255)) := ⟨hF, hn, hl1, hl2, hm1, hm2, hr1, hr2⟩
  have R : Aside (Below w.heap.size w (w.alloc (.cells #[.int .u64 (X : Int), .int .u64 (Y : Int), .slice a n c] 34)) ∧ Has (w.alloc (.cells #[.int .u64 (X : Int), .int .u64 (Y : Int), .slice a n c] 34)) w.heap.size #[.int .u64 (X : Int), .int .u64 (Y : Int), .slice a n c] 34) := ⟨(Below.refl _ _).alloc (Nat.le_refl _) _, Has.new _ _ _⟩
  clear hF hn hl1 hl2 hm1 hm2 hr1 hr2 hX hY
  go_enter Tryz.func30, Tryz.ntmps30
  go_wp2_with fail
  refine (C1.out _).mono ?_
  rintro e w1 ⟨rfl, hb⟩
  have R1 : Aside (Below w.heap.size w w1 ∧ Has w1 w.heap.size #[.int .u64 (X : Int), .int .u64 (Y : Int), .slice a n c] 34) := ⟨R.out.1.trans (hb.mono R.out.1.size), R.out.2.keep hb⟩
  clear hb R C1
  have z0 : w1.cell? ⟨w.heap.size, 0, none⟩ = some (.int .u64 (X : Int)) := R1.out.2.cell 0
  have z2 : w1.cell? ⟨w.heap.size, 2, none⟩ = some (.slice a n c) := R1.out.2.cell 2
  by_cases hE : E = 0
  · subst hE
    by_cases hne : n = np
    · subst hne
      have HL : Aside (A = (0, 80 :: (SX ++ SY ++ l))) := by have := HA.out; show A = _; simpa using this.symm
      clear HA
      have R2 : Aside ((w1.alloc (.cells #[.int .u8 80] 5)).ownsRow (w.heap.size + 1) 5 1 (.slice (some ⟨w1.heap.size, 0, none⟩) 1 1) 1 (CELLS [80]) ∧ Below w.heap.size w (w1.alloc (.cells #[.int .u8 80] 5)) ∧ Has (w1.alloc (.cells #[.int .u8 80] 5)) w.heap.size #[.int .u64 (X : Int), .int .u64 (Y : Int), .slice a n c] 34) := ⟨own_mono (own_one w1 80) R1.out.2.lt, R1.out.1.alloc R1.out.1.size _, R1.out.2.alloc _⟩
      have z00 : (w1.alloc (.cells #[.int .u8 80] 5)).cell? ⟨w.heap.size, 0, none⟩ = some (.int .u64 (X : Int)) := R2.out.2.2.cell 0
      go_wp2_with fail
      obtain ⟨gb, hgb⟩ : ∃ gb, gb = w1.heap.size := ⟨_, rfl⟩
      rw [← hgb] at R2 ⊢
      clear hgb
      generalize w1.alloc (.cells #[.int .u8 80] 5) = w2 at *
      refine (c1 _).mono ?_
      rintro e w3 ⟨g3, q3, rfl, hown, hg, hb⟩
      clear c1 z0 z2 z00 R1
      have R3 : Aside (w3.ownsRow (w.heap.size + 1) 5 1 (.slice (some ⟨gb, 0, none⟩) 1 1) 1 (CELLS [80]) ∧ Below w.heap.size w w3 ∧ Has w3 w.heap.size #[.int .u64 (X : Int), .int .u64 (Y : Int), .slice a n c] 34 ∧ Bytes w3 (some ⟨g3, 0, none⟩) nx SX) := ⟨own_below R2.out.1 hb, R2.out.2.1.trans (hb.mono R2.out.2.1.size), R2.out.2.2.keep hb, own_bytes hown hg HB.out.2.2.2.2.2.2.1⟩
      clear hown hg hb R2
      go_wp2_with (at_builtin; refine app_u8 _ rfl (.tmp 20) (.tmp 23) rfl (w.heap.size + 1) _ 1 [80] rfl R3.out.1 g3 0 nx q3 SX rfl R3.out.2.2.2 hn1 (by have := HB.out; omega) R3.out.2.2.1.lt ?_; intro g4 q4 w4 hown hgrow hg; have hH : Has w4 w.heap.size #[.int .u64 (X : Int), .int .u64 (Y : Int), .slice a n c] 34 := R3.out.2.2.1.grown hgrow (fun e => by have := (R3.out.1.lt _ e).1; omega); have z1 : w4.cell? ⟨w.heap.size, 1, none⟩ = some (.int .u64 (Y : Int)) := hH.cell 1)
      have R4 : Aside (w4.ownsRow (w.heap.size + 1) 5 1 (.slice (some ⟨g4, 0, none⟩) (1 + nx) q4) (1 + nx) (CELLS ([80] ++ SX)) ∧ Below w.heap.size w w4 ∧ Has w4 w.heap.size #[.int .u64 (X : Int), .int .u64 (Y : Int), .slice a n c] 34) := ⟨hown, R3.out.2.1.grown hgrow R3.out.2.1.size (fun k e => by have := (R3.out.1.lt k e).1; omega), hH⟩
      clear hown hgrow hg hH R3 z1
      refine (c2 _).mono ?_
      rintro e w5 ⟨g5, q5, rfl, hown, hg, hb⟩
      clear c2
      have R5 : Aside (w5.ownsRow (w.heap.size + 1) 5 1 (.slice (some ⟨g4, 0, none⟩) (1 + nx) q4) (1 + nx) (CELLS ([80] ++ SX)) ∧ Below w.heap.size w w5 ∧ Has w5 w.heap.size #[.int .u64 (X : Int), .int .u64 (Y : Int), .slice a n c] 34 ∧ Bytes w5 (some ⟨g5, 0, none⟩) ny SY) := ⟨own_below R4.out.1 hb, R4.out.2.1.trans (hb.mono R4.out.2.1.size), R4.out.2.2.keep hb, own_bytes hown hg HB.out.2.2.2.2.2.2.2⟩
      clear hown hg hb R4
      go_wp2_with (at_builtin; refine app_u8 _ rfl (.tmp 25) (.tmp 28) rfl (w.heap.size + 1) _ (1 + nx) ([80] ++ SX) rfl R5.out.1 g5 0 ny q5 SY rfl R5.out.2.2.2 hn2 (by have := HB.out; omega) R5.out.2.2.1.lt ?_; intro g6 q6 w6 hown hgrow hg; have hH : Has w6 w.heap.size #[.int .u64 (X : Int), .int .u64 (Y : Int), .slice a n c] 34 := R5.out.2.2.1.grown hgrow (fun e => by have := (R5.out.1.lt _ e).1; omega); have z3 : w6.cell? ⟨w.heap.size, 2, none⟩ = some (.slice a n c) := hH.cell 2)
      have R6 : Aside (w6.ownsRow (w.heap.size + 1) 5 1 (.slice (some ⟨g6, 0, none⟩) (1 + nx + ny) q6) (1 + nx + ny) (CELLS ([80] ++ SX ++ SY)) ∧ Below w.heap.size w w6 ∧ w.heap.size + 1 ≤ w6.heap.size) := ⟨hown, R5.out.2.1.grown hgrow R5.out.2.1.size (fun k e => by have := (R5.out.1.lt k e).1; omega), hH.lt⟩
      clear hown hgrow hg hH R5 z3
      refine (put_ok (w.heap.size + 1) _ (1 + nx + ny) ([80] ++ SX ++ SY) (by have := HB.out; omega) a n c HB.out.2.1 l w6 R6.out.2.2 R6.out.1 (HB.out.1.below R6.out.2.1) (fun hn b o e => by obtain ⟨b', o', e', hlt, _⟩ := HB.out.1.2.1 hn; rw [e] at e'; cases e'; omega)).mono ?_
      rintro e w7 ⟨v', rfl, hown, hb⟩
      have R7 : Aside (w7.ownsRow w.heap.size 5 1 v' (80 :: (SX ++ SY ++ l)).length (CELLS (80 :: (SX ++ SY ++ l))) ∧ Below w.heap.size w w7) := by
        have hl : (80 :: (SX ++ SY ++ l)).length = 1 + nx + ny + 32 * n := by
          have h1 := HB.out.1.1
          have h2 := HB.out.2.2.1
          have h3 := HB.out.2.2.2.1
          simp only [List.length_cons, List.length_append]
          omega
        rw [hl]
        refine ⟨?_, R6.out.2.1.trans (hb.mono (Nat.le_succ _))⟩
        have := own_mono hown (Nat.le_succ w.heap.size)
        simpa using this
      clear hown hb R6
      go_wp2
      go_ret2
      rw [HL.out]
      exact ⟨v', rfl, R7.out⟩
    · have hne' : ¬ (n : Int) = (np : Int) := by omega
      have HL : Aside (A = (70, [])) := by have := HA.out; show A = _; simpa [hne] using this.symm
      clear HA hne
      go_wp2
      go_ret2
      rw [HL.out]
      exact ⟨_, rfl, nil_bytes' _ _, R1.out.1⟩
  · have hne : ((E : Int) != 0) = true := by simp [hE]
    have HL : Aside (A = (E, [])) := by have := HA.out; show A = _; simpa [hE] using this.symm
    clear HA hE
    go_wp2
    go_ret2
    rw [HL.out]
    exact ⟨_, rfl, nil_bytes' _ _, R1.out.1⟩
end Go.Proofs.YtkcfhgflgkejoaaGreatDoor

/- What the document's Climb answers: what the program's does. -/
namespace Go.Proofs.YtkcfhgflgkejoaaGreatDoor
open Go.RowKit
set_option maxRecDepth 100000

theorem refnodeh_ok (d : Int) (l r : List Int) (hl : IsH l) (hr : IsH r) (w : World) : Calls Tryz.prog 46 #[.int .i64 d, .agg (CELLS l).toArray, .agg (CELLS r).toArray] w fun e w' => e = .returned (.agg (CELLS (NODEH d l r)).toArray) ∧ Below w.heap.size w w' := by
  rw [cells_uarr hl, cells_uarr hr]
  refine (HX.refnode_ok d (FNC l) (FNC r) (FNC_lt hl) (FNC_lt hr) w).mono ?_
  rintro e w' ⟨rfl, hb⟩
  exact ⟨by rw [uarr_cells]; rfl, hb⟩
end Go.Proofs.YtkcfhgflgkejoaaGreatDoor

/- What folded and Bag of package mmr and under of package verify answer. -/
namespace Go.Proofs.YtkcfhgflgkejoaaGreatDoor
open Go.RowKit
set_option maxRecDepth 100000

/-- the last one, and k more of n folded into it. -/
def FA (d : Int) (l : List Int) (n : Nat) : Nat → List Int
  | 0 => HSH l (n - 1)
  | k + 1 => FOLDH d (HSH l (n - 2 - k)) (FA d l n k)
/-- all of them in one. -/
def FLD (d : Int) (l : List Int) (n : Nat) : List Int := if n = 0 then ZND else FA d l n (n - 1)
theorem FA_is {d : Int} {l : List Int} {n : Nat} (hl : l.length = 32 * n) (hr : ∀ x ∈ l, 0 ≤ x ∧ x ≤ 255) (hn : 0 < n) : ∀ k, IsH (FA d l n k)
  | 0 => HSH_is hl hr (by omega)
  | k + 1 => FOLDH_is _ _ _
theorem FLD_is {d : Int} {l : List Int} {n : Nat} (hl : l.length = 32 * n) (hr : ∀ x ∈ l, 0 ≤ x ∧ x ≤ 255) : IsH (FLD d l n) := by
  unfold FLD
  split
  · exact ZND_is
  · exact FA_is hl hr (by omega) _
theorem results_one {fn : Func} {p : Tmp} {ty : TypeId} (h : fn.results = #[.cell p ty]) (tmps : Array Value) (w : World) (g : Nat) (t : TypeId) (cs : Array Value) (fr : Nat × Nat) (k : Nat) (el : TypeId)
    (hp : tmps.getD p undef = .pointer (some ⟨g, 0, none⟩)) (hg : w.heap[g]? = some (.cells cs t fr))
    (hu : Tryz.prog.underlying ty = some (.array k el)) (hi : (Tryz.prog.info? ty).map (·.size) = some cs.size) :
    (results fn tmps).run Tryz.prog w = .ok (.agg cs) w := by
  have hp' : tmps[p]?.getD undef = .pointer (some ⟨g, 0, none⟩) := by simpa using hp
  simp [results, h, hp', asAddr, run_loadVar_row w g t ty cs fr (.array k el) hg hu rfl hi]
set_option maxHeartbeats 4000000 in
theorem folded_ok (d : Int) (a : Option Addr) (n c : Nat) (hn : n ≤ 1000) (l : List Int) (w : World) (hF : Flat w a n l) (hX : HX.Tabled w) :
    Calls Tryz.prog 90 #[.int .i64 d, .slice a n c] w fun e w' => e = .returned (.agg (CELLS (FLD d l n)).toArray) ∧ Below w.heap.size w w' := by
  have R0 : Aside (Below w.heap.size w (w.alloc (.cells ZARR 23)) ∧ Has (w.alloc (.cells ZARR 23)) w.heap.size (CELLS ZND).toArray 23) := ⟨(Below.refl _ _).alloc (Nat.le_refl _) _, by rw [ZARR_eq]; exact Has.new _ _ _⟩
  by_cases h0 : n = 0
  · subst h0
    have e : FLD d l 0 = ZND := rfl
    rw [e]
    clear hF hX hn e
    go_enter Tryz.func90, Tryz.ntmps90
    go_upto_region 2 with fail
    rw [show (#[.int .u8 0, .int .u8 0, .int .u8 0, .int .u8 0, .int .u8 0, .int .u8 0, .int .u8 0, .int .u8 0, .int .u8 0, .int .u8 0, .int .u8 0, .int .u8 0, .int .u8 0, .int .u8 0, .int .u8 0, .int .u8 0, .int .u8 0, .int .u8 0, .int .u8 0, .int .u8 0, .int .u8 0, .int .u8 0, .int .u8 0, .int .u8 0, .int .u8 0, .int .u8 0, .int .u8 0, .int .u8 0, .int .u8 0, .int .u8 0, .int .u8 0, .int .u8 0] : Array Value) = ZARR from rfl]
    generalize w.alloc (.cells ZARR 23) = W0 at *
    go_wp2_with (rw [show (#[.int .u8 0, .int .u8 0, .int .u8 0, .int .u8 0, .int .u8 0, .int .u8 0, .int .u8 0, .int .u8 0, .int .u8 0, .int .u8 0, .int .u8 0, .int .u8 0, .int .u8 0, .int .u8 0, .int .u8 0, .int .u8 0, .int .u8 0, .int .u8 0, .int .u8 0, .int .u8 0, .int .u8 0, .int .u8 0, .int .u8 0, .int .u8 0, .int .u8 0, .int .u8 0, .int .u8 0, .int .u8 0, .int .u8 0, .int .u8 0, .int .u8 0, .int .u8 0] : Array Value) = (CELLS ZND).toArray from rfl]; refine wpList_store_row rfl 23 (.tmp 4) (.tmp 11) rfl _ _ rfl rfl 23 _ R0.out.2 (info_arr rfl) rfl (cells_one ZND) ?_)
    refine bodyPost_ret (v := .agg (CELLS ZND).toArray) (results_one rfl _ _ w.heap.size 23 _ (0, 0) _ _ rfl (Has.row R0.out.2 _) Tryz.underlying23 (info_arr rfl)) rfl ⟨rfl, below_row R0.out.1 (Nat.le_refl _) _⟩
  · obtain ⟨m, hm⟩ : ∃ m, n = m + 1 := ⟨n - 1, by omega⟩
    obtain ⟨gn, o, rfl, hgn, hcn⟩ := hF.2.1 (by omega)
    have hz : ¬ (n : Int) = 0 := by omega
    have e1 : wrap64 ((n : Int) - 1) = (m : Int) := by unfold wrap64; omega
    have hml : (m : Int) < (n : Int) := by omega
    have hm0 : (0 : Int) ≤ (m : Int) := by omega
    have e : FLD d l n = FA d l n m := by unfold FLD; rw [if_neg h0, show n - 1 = m by omega]
    rw [e]
    have HA : Aside (n = m + 1 ∧ n ≤ 1000 ∧ Flat w (some ⟨gn, o, none⟩) n l ∧ HX.Tabled w ∧ gn < w.heap.size ∧ ∀ k, IsH (FA d l n k)) := ⟨hm, hn, hF, hX, hgn, FA_is hF.1 hF.2.2 (by omega)⟩
    clear hm hn hF hX hgn hcn h0 e
    go_enter Tryz.func90, Tryz.ntmps90
    go_upto_region 3 with fail
    rw [show (#[.int .u8 0, .int .u8 0, .int .u8 0, .int .u8 0, .int .u8 0, .int .u8 0, .int .u8 0, .int .u8 0, .int .u8 0, .int .u8 0, .int .u8 0, .int .u8 0, .int .u8 0, .int .u8 0, .int .u8 0, .int .u8 0, .int .u8 0, .int .u8 0, .int .u8 0, .int .u8 0, .int .u8 0, .int .u8 0, .int .u8 0, .int .u8 0, .int .u8 0, .int .u8 0, .int .u8 0, .int .u8 0, .int .u8 0, .int .u8 0, .int .u8 0, .int .u8 0] : Array Value) = ZARR from rfl]
    generalize w.alloc (.cells ZARR 23) = W0 at *
    have hat : W0.rangeAt gn (o + m * 32) (CELLS (FA d l n 0)) := by
      have h1 := (HA.out.2.2.1.below R0.out.1).at (show m < n by have := HA.out.1; omega)
      have h2 : FA d l n 0 = HSH l m := by have := HA.out.1; rw [FA, show n - 1 = m by omega]
      rw [h2]
      exact h1
    have h32 := (HA.out.2.2.2.2.2 0).1
    generalize hA0 : FA d l n 0 = A0 at *
    go_wp2_with (first
      | (refine wpList_load_mid rfl 23 (.tmp 17) rfl gn (o + m * 32) rfl (CELLS A0) _ hat Tryz.underlying23 rfl (info_cells h32) ?_)
      | (refine wpList_store_row rfl 23 (.tmp 6) (.tmp 18) rfl _ _ rfl rfl 23 _ (Has.new W0 _ _) (info_arr h32) (by simp [CELLS, h32]) (cells_one A0) ?_; rw [World.setRow_alloc_new]))
    have R1 : Aside (Below w.heap.size w (W0.alloc (.cells (CELLS A0).toArray 23)) ∧ Has (W0.alloc (.cells (CELLS A0).toArray 23)) w.heap.size (CELLS ZND).toArray 23 ∧ Has (W0.alloc (.cells (CELLS A0).toArray 23)) W0.heap.size (CELLS (FA d l n 0)).toArray 23 ∧ w.heap.size < W0.heap.size) := ⟨R0.out.1.alloc R0.out.1.size _, R0.out.2.alloc _, by rw [hA0]; exact Has.new _ _ _, R0.out.2.lt⟩
    clear hat h32 hA0 R0
    generalize W0.alloc (.cells (CELLS A0).toArray 23) = W1 at *
    generalize W0.heap.size = b6 at *
    clear W0
    have K : Aside (w.heap.size < b6) := R1.out.2.2.2
    have E0 : Aside (wrap64 ((m : Int) - 1) = (m : Int) - 1) := by have := HA.out.1; have := HA.out.2.1; show wrap64 ((m : Int) - 1) = (m : Int) - 1; unfold wrap64; omega
    go_loopg [7] m (fun q s7 wx => ∃ x : Int, s7 = .int .i64 x ∧ Aside (q ≤ m ∧ x = (q : Int) - 1 ∧ Below w.heap.size w wx ∧ Has wx w.heap.size (CELLS ZND).toArray 23 ∧ Has wx b6 (CELLS (FA d l n (m - q))).toArray 23))
    case atStart => exact ⟨_, rfl, Nat.le_refl _, E0.out, R1.out.1, R1.out.2.1, by rw [Nat.sub_self]; exact R1.out.2.2.1⟩
    case round =>
      obtain ⟨x, rfl, A⟩ := hrel
      clear R1 E0
      cases gk with
      | zero =>
        obtain rfl : x = -1 := by have := A.out.2.1; omega
        have y32 := (HA.out.2.2.2.2.2 m).1
        have hH4 := A.out.2.2.2.1
        have hH6 : Has wr b6 (CELLS (FA d l n m)).toArray 23 := A.out.2.2.2.2
        have hb := A.out.2.2.1
        clear A HA
        generalize hY0 : FA d l n m = Y at *
        go_wp2_with (first
          | (refine wpList_load_row rfl 23 (.tmp 6) rfl b6 rfl 23 (CELLS Y).toArray (0, 0) _ hH6 Tryz.underlying23 rfl (info_arr y32) ?_)
          | (refine wpList_store_row rfl 23 (.tmp 4) (.tmp 32) rfl _ _ rfl rfl 23 _ hH4 (info_arr y32) (by simp [CELLS, y32]; rfl) (cells_one Y) ?_))
        refine bodyPost_ret (v := .agg (CELLS Y).toArray) (results_one rfl _ _ w.heap.size 23 _ (0, 0) _ _ rfl (Has.row hH4 _) Tryz.underlying23 (info_arr y32)) rfl ⟨by rw [hY0], below_row hb (Nat.le_refl _) _⟩
      | succ q =>
        obtain rfl : x = (q : Int) := by have := A.out.2.1; omega
        have hq0 : (0 : Int) ≤ (q : Int) := by omega
        have hb := A.out.2.2.1
        obtain ⟨h1, h2, h3, h4, h5, h6⟩ := HA.out
        have hqm : q + 1 ≤ m := A.out.1
        have eY : FA d l n (m - q) = FOLDH d (HSH l q) (FA d l n (m - (q + 1))) := by
          rw [show m - q = (m - (q + 1)) + 1 by omega, FA, show n - 2 - (m - (q + 1)) = q by omega]
        have hL : IsH (HSH l q) := HSH_is h3.1 h3.2.2 (by omega)
        have hR := h6 (m - (q + 1))
        have hY := h6 (m - q)
        have hb1 : (q : Int) < (n : Int) := by omega
        have cF := foldh_ok d (HSH l q) (FA d l n (m - (q + 1))) hL hR wr.drew (h4.below hb.drew)
        have hLr := ((h3.below hb).at (show q < n by omega))
        have hE1 : Aside (wrap64 ((q : Int) - 1) = (q : Int) - 1) := by show wrap64 ((q : Int) - 1) = (q : Int) - 1; unfold wrap64; omega
        rw [← eY] at cF
        clear h1 h2 h3 h4 h5 h6 eY hb HA
        generalize FA d l n (m - (q + 1)) = R at *
        generalize HSH l q = L at *
        have hH6 := A.out.2.2.2.2
        go_upto_region 8 with fail
        refine folded_region _ _ _ _ _ _ _ _ _ _ _ _ _ _ _ _ _ _ _ _ _ _ _ _ _ _ _ _ _ wr b6 gn o n c q d L R (FA d l n (m - q)) hL.1 hR.1 hY.1 hb1 hLr (has_range hH6) (fun W => Below w.heap.size w W ∧ Has W w.heap.size (CELLS ZND).toArray 23) (cF.mono ?_) (fun _ _ _ _ _ h => h) ?_
        · rintro e w' ⟨rfl, hb⟩
          have hb' : Below wr.heap.size wr w' := (Below.refl _ wr).drew.trans hb
          exact ⟨_, rfl, rfl, hH6.keep hb', A.out.2.2.1.trans (hb'.mono A.out.2.2.1.size), A.out.2.2.2.1.keep hb'⟩
        · rintro X w' ⟨rfl, g1, g2, g3⟩
          dsimp only
          have Z : Aside (q ≤ m ∧ (q : Int) - 1 = (q : Int) - 1 ∧ Below w.heap.size w (w'.setRow b6 (CELLS (FA d l n (m - q))).toArray) ∧ Has (w'.setRow b6 (CELLS (FA d l n (m - q))).toArray) w.heap.size (CELLS ZND).toArray 23 ∧ Has (w'.setRow b6 (CELLS (FA d l n (m - q))).toArray) b6 (CELLS (FA d l n (m - q))).toArray 23) := ⟨by omega, rfl, below_row g2 (by have := K.out; omega) _, g3.row_other (by have := K.out; omega) _, g1.row _⟩
          clear cF hLr hL hR hY hb1 hq0 hqm A g1 g2 g3 hH6
          have e1 := hE1.out
          generalize w'.setRow b6 (CELLS (FA d l n (m - q))).toArray = w3 at *
          go_wp2
          go_roundg q
          case measure => exact Nat.lt_succ_self _
          case rel => exact ⟨_, rfl, Z.out.1, rfl, Z.out.2.2⟩
end Go.Proofs.YtkcfhgflgkejoaaGreatDoor

/- What Bag of package mmr answers where the number of peaks is another one. -/
namespace Go.Proofs.YtkcfhgflgkejoaaGreatDoor
open Go.RowKit
set_option maxRecDepth 100000

/-- what Bag answers: an error and a hash. -/
def BAGA (d : Int) (n k : Nat) (l : List Int) : Int × List Int :=
  if 4611686018427387904 < n then (30, ZND) else if k ≠ PC n then (70, ZND) else (0, ROOTH d n (FLD d l k))
theorem BAGA_is {d : Int} {n k : Nat} {l : List Int} : IsH (BAGA d n k l).2 := by
  unfold BAGA
  split
  · exact ZND_is
  · split
    · exact ZND_is
    · exact ROOTH_is _ _ _
theorem results_two {fn : Func} {p q : Tmp} {ty : TypeId} (h : fn.results = #[.cell p ty, .tmp q]) (tmps : Array Value) (w : World) (g : Nat) (t : TypeId) (cs : Array Value) (fr : Nat × Nat) (k : Nat) (el : TypeId) (v : Value)
    (hp : tmps.getD p undef = .pointer (some ⟨g, 0, none⟩)) (hv : tmps.getD q undef = v) (hg : w.heap[g]? = some (.cells cs t fr))
    (hu : Tryz.prog.underlying ty = some (.array k el)) (hi : (Tryz.prog.info? ty).map (·.size) = some cs.size) :
    (results fn tmps).run Tryz.prog w = .ok (.tuple #[.agg cs, v]) w := by
  have hp' : tmps[p]?.getD undef = .pointer (some ⟨g, 0, none⟩) := by simpa using hp
  have hv' : tmps[q]?.getD undef = v := by simpa using hv
  simp [results, h, hp', hv', asAddr, run_loadVar_row w g t ty cs fr (.array k el) hg hu rfl hi]
set_option maxHeartbeats 4000000 in
theorem bag_count (d : Int) (n : Nat) (hn : n < 2 ^ 64) (a : Option Addr) (k c : Nat) (w : World) (h1' : ¬ (4611686018427387904 : Int) < (n : Int)) (h2 : ¬ k = POP n) :
    Calls Tryz.prog 56 #[.int .i64 d, .int .u64 (n : Int), .slice a k c] w fun e w' => e = .returned (.tuple #[.agg (CELLS ZND).toArray, .int .i64 70]) ∧ Below w.heap.size w w' := by
  have R0 : Aside (Below w.heap.size w (w.alloc (.cells ZARR 23)) ∧ Has (w.alloc (.cells ZARR 23)) w.heap.size (CELLS ZND).toArray 23) := ⟨(Below.refl _ _).alloc (Nat.le_refl _) _, by rw [ZARR_eq]; exact Has.new _ _ _⟩
  have cO := onescount_ok n hn (w.alloc (.cells ZARR 23))
  generalize POP n = pp at *
  have e2 : ¬ (k : Int) = (pp : Int) := by omega
  clear hn
  go_enter Tryz.func56, Tryz.ntmps56
  go_upto_region 3 with fail
  rw [show (#[.int .u8 0, .int .u8 0, .int .u8 0, .int .u8 0, .int .u8 0, .int .u8 0, .int .u8 0, .int .u8 0, .int .u8 0, .int .u8 0, .int .u8 0, .int .u8 0, .int .u8 0, .int .u8 0, .int .u8 0, .int .u8 0, .int .u8 0, .int .u8 0, .int .u8 0, .int .u8 0, .int .u8 0, .int .u8 0, .int .u8 0, .int .u8 0, .int .u8 0, .int .u8 0, .int .u8 0, .int .u8 0, .int .u8 0, .int .u8 0, .int .u8 0, .int .u8 0] : Array Value) = ZARR from rfl]
  generalize w.alloc (.cells ZARR 23) = W0 at *
  go_wp2_with fail
  refine cO.mono ?_
  rintro e w1 ⟨rfl, rfl⟩
  clear cO
  go_upto_region 4 with fail
  go_wp2_with (rw [show (#[.int .u8 0, .int .u8 0, .int .u8 0, .int .u8 0, .int .u8 0, .int .u8 0, .int .u8 0, .int .u8 0, .int .u8 0, .int .u8 0, .int .u8 0, .int .u8 0, .int .u8 0, .int .u8 0, .int .u8 0, .int .u8 0, .int .u8 0, .int .u8 0, .int .u8 0, .int .u8 0, .int .u8 0, .int .u8 0, .int .u8 0, .int .u8 0, .int .u8 0, .int .u8 0, .int .u8 0, .int .u8 0, .int .u8 0, .int .u8 0, .int .u8 0, .int .u8 0] : Array Value) = (CELLS ZND).toArray from rfl]; refine wpList_store_row rfl 23 (.tmp 6) (.tmp 16) rfl _ _ rfl rfl 23 _ R0.out.2 (info_arr rfl) rfl (cells_one ZND) ?_)
  refine bodyPost_ret (v := .tuple #[.agg (CELLS ZND).toArray, .int .i64 70]) (results_two rfl _ _ w.heap.size 23 _ (0, 0) _ _ _ rfl rfl (Has.row R0.out.2 _) Tryz.underlying23 (info_arr rfl)) rfl ⟨rfl, below_row R0.out.1 (Nat.le_refl _) _⟩
end Go.Proofs.YtkcfhgflgkejoaaGreatDoor
