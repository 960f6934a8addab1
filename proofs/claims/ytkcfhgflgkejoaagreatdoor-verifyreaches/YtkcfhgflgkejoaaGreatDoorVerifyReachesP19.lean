/- Texts of VerifyReaches, one behind the other: VerifyClimb, VerifyReachRegion. -/
import Derived.Test.YtkcfhgflgkejoaaGreatDoorVerifyReachesP4
import Derived.Test.YtkcfhgflgkejoaaGreatDoorVerifyReachesP9
import Derived.Test.YtkcfhgflgkejoaaGreatDoorVerifyReachesP18
/- What Climb of package verify answers. -/
namespace Go.Proofs.YtkcfhgflgkejoaaGreatDoor
open Go.RowKit
set_option maxRecDepth 100000

/-- the way of the leaf I, t steps up. -/
def JN (d : Int) (I : Nat) (M : Nat → Nat → List Int) : Nat → Nat → Nat → List Int
  | 0 => M
  | t + 1 => MPUT (JN d I M t) (t + 1) (I / 2 ^ (t + 1)) (NODEH d (JN d I M t t (2 * (I / 2 ^ (t + 1)))) (JN d I M t t (2 * (I / 2 ^ (t + 1)) + 1)))
/-- what is known when the way is climbed. -/
def CLM (d : Int) (leaf : List Int) (S I : Nat) (l : List Int) : Nat → Nat → List Int := JN d I (MPUT (HAND (PSP I S) l (PSP I S).length) 0 I leaf) (RISE I S)
/-- what Climb answers: the error, how many peaks, their hashes. -/
def CLA (d : Int) (leaf : List Int) (S I n : Nat) (l : List Int) : Int × Nat × List Int := if (PLA I S).1 ≠ 0 then ((PLA I S).1, 0, []) else if n ≠ (PLA I S).2.length then (70, 0, []) else (0, PC S, CAT (CLM d leaf S I l) (SPAN 0 S))
theorem ZND_is : IsH ZND := ⟨rfl, fun x hx => by
  have : x = 0 := by simpa [ZND] using hx
  omega⟩
theorem MPUT_is {M : Nat → Nat → List Int} (h : ∀ a b, IsH (M a b)) {x : List Int} (hx : IsH x) (p q a b : Nat) : IsH (MPUT M p q x a b) := by
  unfold MPUT
  split
  · exact hx
  · exact h a b
theorem HSH_is {l : List Int} {n i : Nat} (hl : l.length = 32 * n) (hr : ∀ x ∈ l, 0 ≤ x ∧ x ≤ 255) (hi : i < n) : IsH (HSH l i) := ⟨HSH_length hl hi, fun x hx => hr x (HSH_mem hx)⟩
theorem HAND_is {ss : List (Nat × Nat)} {l : List Int} {n : Nat} (hl : l.length = 32 * n) (hr : ∀ x ∈ l, 0 ≤ x ∧ x ≤ 255) : ∀ i, i ≤ n → ∀ a b, IsH (HAND ss l i a b)
  | 0, _, _, _ => ZND_is
  | i + 1, h, a, b => MPUT_is (HAND_is hl hr i (by omega)) (HSH_is hl hr (by omega)) _ _ a b
theorem JN_is {d : Int} {I : Nat} {M : Nat → Nat → List Int} (h : ∀ a b, IsH (M a b)) : ∀ t a b, IsH (JN d I M t a b)
  | 0, a, b => h a b
  | t + 1, a, b => MPUT_is (JN_is h t) (NODEH_is _ _ _) _ _ a b
set_option maxHeartbeats 4000000 in
theorem climb_core (d : Int) (leaf : List Int) (hleaf : IsH leaf) (S I : Nat) (hIS : I < S) (hS : S ≤ 4611686018427387904) (a : Option Addr) (n c : Nat) (hn : n = (PSP I S).length) (l : List Int) (w : World) (hF : Flat w a n l) (hT : Tabled w) (hX : HX.Tabled w) (h0 : 2 < w.heap.size) :
    Calls Tryz.prog 24 #[.int .i64 d, .agg (CELLS leaf).toArray, .agg #[.int .u64 (S : Int), .int .u64 (I : Int), .slice a n c]] w fun e w' => ∃ a c, e = .returned (.tuple #[.slice a (PC S) c, .int .i64 0]) ∧ w'.ownsRow w.heap.size 23 32 (.slice a (PC S) c) (PC S) (CELLS (CAT (CLM d leaf S I l) (SPAN 0 S))) ∧ Below w.heap.size w w' := by
  have l32 := hleaf.1
  have HA : Aside (IsH leaf ∧ I < S ∧ S ≤ 4611686018427387904 ∧ n = (PSP I S).length ∧ Flat w a n l ∧ Tabled w ∧ HX.Tabled w ∧ 2 < w.heap.size) := ⟨hleaf, hIS, hS, hn, hF, hT, hX, h0⟩
  clear hleaf hIS hS hn hF hT hX h0
  go_enter Tryz.func24, Tryz.ntmps24
  go_upto_region 1 with fail
  obtain ⟨b4, hb4⟩ : ∃ b4, b4 = w.heap.size := ⟨_, rfl⟩
  have R0 : Aside (Below w.heap.size w ((w.alloc (.cells (CELLS leaf).toArray 23)).alloc (.cells #[.int .u64 (S : Int), .int .u64 (I : Int), .slice a n c] 46)) ∧ Has ((w.alloc (.cells (CELLS leaf).toArray 23)).alloc (.cells #[.int .u64 (S : Int), .int .u64 (I : Int), .slice a n c] 46)) b4 (CELLS leaf).toArray 23 ∧ Has ((w.alloc (.cells (CELLS leaf).toArray 23)).alloc (.cells #[.int .u64 (S : Int), .int .u64 (I : Int), .slice a n c] 46)) (b4 + 1) #[.int .u64 (S : Int), .int .u64 (I : Int), .slice a n c] 46) := by
    rw [hb4]
    exact ⟨((Below.refl _ _).alloc (Nat.le_refl _) _).alloc (by simp) _, (Has.new _ _ _).alloc _, Has.at _ _ _ (by simp)⟩
  rw [← hb4]
  generalize (w.alloc (.cells (CELLS leaf).toArray 23)).alloc (.cells #[.int .u64 (S : Int), .int .u64 (I : Int), .slice a n c] 46) = W0 at *
  have HT : Aside (∀ W, Below w.heap.size w W → Tabled W ∧ HX.Tabled W ∧ 0 < W.heap.size ∧ Flat W a n l ∧ 2 < W.heap.size) := fun W h => by
    obtain ⟨a1, a2, a3, a4, a5, a6, a7, a8⟩ := HA.out
    have hs := h.size
    exact ⟨a6.below (by omega) h, a7.below h, by omega, a5.below h, by omega⟩
  have HB : Aside (b4 = w.heap.size) := hb4
  clear hb4
  have hPL : PLA I S = (0, PLCS (PSP I S)) := by
    obtain ⟨a1, a2, a3, a4, a5, a6, a7, a8⟩ := HA.out
    unfold PLA
    rw [if_neg (by omega), if_neg (by omega)]
  have y0 : W0.cell? ⟨b4 + 1, 0, none⟩ = some (.int .u64 (S : Int)) := R0.out.2.2.cell 0
  have y1 : W0.cell? ⟨b4 + 1, 1, none⟩ = some (.int .u64 (I : Int)) := R0.out.2.2.cell 1
  go_wp2_with fail
  have cP := pla_ok I S W0 (HT.out _ R0.out.1).1 (HT.out _ R0.out.1).2.2.1
  rw [hPL] at cP
  refine cP.mono ?_
  clear cP y0 y1 hPL
  rintro e w1 ⟨v, rfl, hrow, hb⟩
  dsimp only at *
  have hnl : (PLCS (PSP I S)).length = n := by have := HA.out.2.2.2.1; rw [PLCS_length, this]
  rw [hnl] at hrow
  obtain ⟨av, cv, rfl, -⟩ := own_slice hrow
  have R1 : Aside (Below w.heap.size w w1 ∧ Has w1 b4 (CELLS leaf).toArray 23 ∧ Has w1 (b4 + 1) #[.int .u64 (S : Int), .int .u64 (I : Int), .slice a n c] 46 ∧ w1.ownsRow W0.heap.size 24 1 (.slice av n cv) n (UCELLS (PLCS (PSP I S)))) := ⟨R0.out.1.trans (hb.mono R0.out.1.size), R0.out.2.1.keep hb, R0.out.2.2.keep hb, hrow⟩
  clear hrow hb R0 hnl
  have y2 : w1.cell? ⟨b4 + 1, 2, none⟩ = some (.slice a n c) := R1.out.2.2.1.cell 2
  go_wp2_with fail
  have hfew : n ≤ 126 := by obtain ⟨a1, a2, a3, a4, _⟩ := HA.out; have := PSP_few a2 a3; omega
  have hnd : ∀ s ∈ PSP I S, Node s.1 s.2 := by
    obtain ⟨a1, a2, a3, a4, _⟩ := HA.out
    exact fun s hs => ((PSP_spec a2 a3).1 s hs).1
  refine (handed_ok (PSP I S) hnd W0.heap.size n HA.out.2.2.2.1.symm (by omega) (.slice av n cv) a c l w1 R1.out.2.2.2 (HT.out _ R1.out.1).2.2.2.1).mono ?_
  clear y2 hnd
  rintro e w2 ⟨mb, rfl, hM, hmb, hb⟩
  obtain ⟨M1, hM1⟩ : ∃ M1, M1 = MPUT (HAND (PSP I S) l n) 0 I leaf := ⟨_, rfl⟩
  have hIsM : ∀ p q, IsH (M1 p q) := by
    rw [hM1]
    have hF := (HT.out _ R1.out.1).2.2.2.1
    exact MPUT_is (HAND_is hF.1 hF.2.2 n (Nat.le_refl _)) HA.out.1 0 I
  obtain ⟨w3, st1, st2, st3⟩ := hM.store (h := 0) (k := I) (by omega) (by decide) (by have := HA.out; omega) leaf
  rw [← hM1] at st2
  have st1 : (Instr.mapUpdate 69 (.map (some mb)) (.agg #[.int .u8 0, .int .u64 (I : Int)]) (.agg (CELLS leaf).toArray)).run Tryz.prog w2 = .ok () w3 := st1
  have R2 : Aside (Below w.heap.size w w2 ∧ Has w2 b4 (CELLS leaf).toArray 23 ∧ Has w2 (b4 + 1) #[.int .u64 (S : Int), .int .u64 (I : Int), .slice a n c] 46 ∧ b4 + 1 < mb) := ⟨R1.out.1.trans (hb.mono R1.out.1.size), R1.out.2.1.keep hb, R1.out.2.2.1.keep hb, by have := R1.out.2.2.1.lt; omega⟩
  have R3 : Aside (Below w.heap.size w w3 ∧ Has w3 (b4 + 1) #[.int .u64 (S : Int), .int .u64 (I : Int), .slice a n c] 46 ∧ SMAP w3 mb (n + 1) M1 ∧ (∀ p q, IsH (M1 p q)) ∧ b4 + 1 < mb ∧ M1 = MPUT (HAND (PSP I S) l n) 0 I leaf) := ⟨R2.out.1.grown st3 R2.out.1.size (fun k e => by cases e; have := R2.out.2.2.2; have := HB.out; omega), R2.out.2.2.1.grown st3 (by have := R2.out.2.2.2; simp; omega), st2, hIsM, R2.out.2.2.2, hM1⟩
  have y1 : w2.cell? ⟨b4 + 1, 1, none⟩ = some (.int .u64 (I : Int)) := R2.out.2.2.1.cell 1
  have hH4 := R2.out.2.1
  have z0 : w3.cell? ⟨b4 + 1, 0, none⟩ = some (.int .u64 (S : Int)) := R3.out.2.1.cell 0
  have z1 : w3.cell? ⟨b4 + 1, 1, none⟩ = some (.int .u64 (I : Int)) := R3.out.2.1.cell 1
  clear hM hmb hb R1 hM1 hIsM st2 st3 R2
  go_wp2_with (refine wpList_load_row rfl 23 (.tmp 4) rfl b4 rfl 23 (CELLS leaf).toArray (0, 0) _ hH4 Tryz.underlying23 rfl (info_arr l32) ?_)
  refine (path_ok I S HA.out.2.1 HA.out.2.2.1 w3).mono ?_
  clear st1 y1 hH4 z0 z1
  rintro e w4 ⟨gp, cp, rfl, hrow, hg, hb⟩
  have hrise : RISE I S ≤ 62 := (RISE_spec HA.out.2.1 HA.out.2.2.1).2.1
  obtain ⟨T, hTT⟩ : ∃ T, RISE I S = T := ⟨_, rfl⟩
  rw [hTT] at hrise ⊢
  have R4 : Aside (Below w.heap.size w w4 ∧ Has w4 (b4 + 1) #[.int .u64 (S : Int), .int .u64 (I : Int), .slice a n c] 46 ∧ SMAP w4 mb (n + 1 + 0) (JN d I M1 0)) := ⟨R3.out.1.trans (hb.mono R3.out.1.size), R3.out.2.1.keep hb, R3.out.2.2.1.below hb⟩
  have KK : Aside ((∀ p q, IsH (M1 p q)) ∧ b4 + 1 < mb ∧ M1 = MPUT (HAND (PSP I S) l n) 0 I leaf ∧ RISE I S = T ∧ T ≤ 62 ∧ n ≤ 126 ∧ 2 < mb) := ⟨R3.out.2.2.2.1, R3.out.2.2.2.2.1, R3.out.2.2.2.2.2, hTT, hrise, hfew, by have h1 := HA.out; have h2 := HB.out; have h3 := R3.out.2.2.2.2.1; omega⟩
  clear hrow hg hb R3 hfew hTT hrise
  go_wp2_with fail
  go_loopg [51] T (fun q s51 wx => ∃ t : Nat, s51 = .int .i64 (t : Int) ∧ Aside (t + q = T ∧ Below w.heap.size w wx ∧ Has wx (b4 + 1) #[.int .u64 (S : Int), .int .u64 (I : Int), .slice a n c] 46 ∧ SMAP wx mb (n + 1 + t) (JN d I M1 t)))
  case atStart => exact ⟨0, rfl, by omega, R4.out⟩
  case round =>
    obtain ⟨t, rfl, A⟩ := hrel
    clear R4
    cases gk with
    | zero =>
      obtain rfl : t = T := by have := A.out.1; omega
      have hlt : ¬ (t : Int) < (t : Int) := by omega
      have z0 : wr.cell? ⟨b4 + 1, 0, none⟩ = some (.int .u64 (S : Int)) := A.out.2.2.1.cell 0
      go_wp2_with fail
      have hH := HT.out _ A.out.2.1
      have hIs : ∀ p q, IsH (JN d I M1 t p q) := JN_is KK.out.1 t
      refine (cpeaks_ok mb (n + 1 + t) S HA.out.2.2.1 (JN d I M1 t) wr A.out.2.2.2 (fun s _ => (hIs s.1 s.2).1) hH.1 hH.2.2.1).mono ?_
      rintro e w5 ⟨a5, c5, rfl, hrow, hb⟩
      have hC : JN d I M1 t = CLM d leaf S I l := by
        unfold CLM
        rw [KK.out.2.2.1, KK.out.2.2.2.1, HA.out.2.2.2.1]
      rw [hC] at hrow
      have Z : Aside (w5.ownsRow w.heap.size 23 32 (.slice a5 (PC S) c5) (PC S) (CELLS (CAT (CLM d leaf S I l) (SPAN 0 S))) ∧ Below w.heap.size w w5) := ⟨own_mono hrow A.out.2.1.size, A.out.2.1.trans (hb.mono A.out.2.1.size)⟩
      clear hrow hb hH hIs hC A KK HT HA
      go_wp2
      go_ret2
      exact ⟨a5, c5, rfl, Z.out⟩
    | succ q =>
      have hlt : (t : Int) < (T : Int) := by have := A.out.1; omega
      have z1 : wr.cell? ⟨b4 + 1, 1, none⟩ = some (.int .u64 (I : Int)) := A.out.2.2.1.cell 1
      obtain ⟨t1, ht1⟩ : ∃ t1, t + 1 = t1 := ⟨_, rfl⟩
      have e1 : wrap64 ((t : Int) + 1) = (t1 : Int) := by have := KK.out; unfold wrap64; omega
      have e8 : IntKind.u8.wrap (t1 : Int) = (t1 : Int) := by have := KK.out; simp [IntKind.wrap, IntKind.bits, IntKind.signed]; omega
      go_wp2_with fail
      have esh : (I : Int) / 2 ^ min t1 64 = ((I / 2 ^ t1 : Nat) : Int) := by
        rw [Nat.min_eq_left (by have := KK.out; omega)]
        simp [Int.natCast_ediv]
      rw [esh]
      have hI61 : 2 * (I / 2 ^ t1) + 1 < 2 ^ 64 := by
        have h1 : I / 2 ^ t1 ≤ I := Nat.div_le_self _ _
        have := HA.out
        omega
      have hH := HT.out _ A.out.2.1
      have hIs : ∀ p q, IsH (JN d I M1 t p q) := JN_is KK.out.1 t
      refine (join_ok mb (n + 1 + t) t1 t (I / 2 ^ t1) d (JN d I M1 t) ht1.symm (by have := KK.out; omega) hI61 (by have := KK.out; omega) wr A.out.2.2.2 (hIs _ _) (hIs _ _) hH.2.1 KK.out.2.2.2.2.2.2).mono ?_
      clear hH hIs hI61 esh
      rintro e w5 ⟨rfl, hM, hg⟩
      have Z : Aside (t + 1 + q = T ∧ Below w.heap.size w w5 ∧ Has w5 (b4 + 1) #[.int .u64 (S : Int), .int .u64 (I : Int), .slice a n c] 46 ∧ SMAP w5 mb (n + 1 + (t + 1)) (JN d I M1 (t + 1))) := by
        obtain ⟨a1, a2, a3, a4⟩ := A.out
        have hmb := KK.out.2.1
        have hb4 := HB.out
        refine ⟨by omega, a2.grown hg a2.size (fun k e => by cases e; omega), a3.grown hg (by simp; omega), ?_⟩
        rw [← ht1] at hM
        exact hM
      have E1 : Aside (wrap64 ((t : Int) + 1) = ((t + 1 : Nat) : Int)) := by have := KK.out; show wrap64 ((t : Int) + 1) = ((t + 1 : Nat) : Int); unfold wrap64; omega
      clear hM hg A z1 e1 e8
      have e1 := E1.out
      go_wp2
      go_roundg q
      case measure => exact Nat.lt_succ_self _
      case rel => exact ⟨t + 1, by first | rfl | (rw [E1.out]), Z.out⟩
/-- hashes of one's own are answered, and an error. -/
def ANSH (w : World) (A : Int × Nat × List Int) (e : Ending) (w' : World) : Prop := ∃ a c, e = .returned (.tuple #[.slice a A.2.1 c, .int .i64 A.1]) ∧ w'.ownsRow w.heap.size 23 32 (.slice a A.2.1 c) A.2.1 (CELLS A.2.2) ∧ Below w.heap.size w w'
set_option maxHeartbeats 2000000 in
theorem climb_ok (d : Int) (leaf : List Int) (hleaf : IsH leaf) (S I : Nat) (a : Option Addr) (n c : Nat) (l : List Int) (w : World) (hF : Flat w a n l) (hT : Tabled w) (hX : HX.Tabled w) (h0 : 2 < w.heap.size) :
    Calls Tryz.prog 24 #[.int .i64 d, .agg (CELLS leaf).toArray, .agg #[.int .u64 (S : Int), .int .u64 (I : Int), .slice a n c]] w (ANSH w (CLA d leaf S I n l)) := by
  unfold CLA
  by_cases hE : (PLA I S).1 = 0
  · rw [if_neg (by simpa using hE)]
    have hIS : I < S ∧ S ≤ 4611686018427387904 := by
      unfold PLA at hE
      split at hE
      · simp at hE
      · split at hE
        · simp at hE
        · omega
    have hPL : PLA I S = (0, PLCS (PSP I S)) := by
      unfold PLA
      rw [if_neg (by omega), if_neg (by omega)]
    have hlen : (PLA I S).2.length = (PSP I S).length := by rw [hPL]; exact PLCS_length _
    by_cases hn : n = (PLA I S).2.length
    · rw [if_neg (by simpa using hn)]
      exact climb_core d leaf hleaf S I hIS.1 hIS.2 a n c (by omega) l w hF hT hX h0
    · rw [if_pos hn]
      have HB : Aside (Below w.heap.size w ((w.alloc (.cells (CELLS leaf).toArray 23)).alloc (.cells #[.int .u64 (S : Int), .int .u64 (I : Int), .slice a n c] 46))) := ((Below.refl _ _).alloc (Nat.le_refl _) _).alloc (by simp) _
      have hH : Has ((w.alloc (.cells (CELLS leaf).toArray 23)).alloc (.cells #[.int .u64 (S : Int), .int .u64 (I : Int), .slice a n c] 46)) (w.heap.size + 1) #[.int .u64 (S : Int), .int .u64 (I : Int), .slice a n c] 46 := Has.at _ _ _ (by simp)
      have cP := pla_ok I S _ (hT.below (by omega) HB.out) (Nat.lt_of_lt_of_le (by omega) HB.out.size)
      rw [hPL] at cP hn
      obtain ⟨N, hN⟩ : ∃ N, (PLCS (PSP I S)).length = N := ⟨_, rfl⟩
      dsimp only at cP hn
      rw [hN] at cP hn
      have HN : Aside (n ≠ N) := hn
      obtain ⟨b5, hb5⟩ : ∃ b5, b5 = w.heap.size + 1 := ⟨_, rfl⟩
      rw [← hb5] at hH
      have HH : Aside (Has ((w.alloc (.cells (CELLS leaf).toArray 23)).alloc (.cells #[.int .u64 (S : Int), .int .u64 (I : Int), .slice a n c] 46)) b5 #[.int .u64 (S : Int), .int .u64 (I : Int), .slice a n c] 46) := hH
      clear hT hX h0 hE hIS hPL hlen hn hN hF hleaf hH
      go_enter Tryz.func24, Tryz.ntmps24
      go_wp2_with fail
      rw [← hb5]
      clear hb5
      refine cP.mono ?_
      rintro e w1 ⟨v, rfl, hrow, hb⟩
      have hv : ∃ a' c', v = .slice a' N c' := by
        obtain ⟨av, cv, e, -⟩ := own_slice hrow
        exact ⟨av, cv, e⟩
      have y2 : w1.cell? ⟨b5, 2, none⟩ = some (.slice a n c) := (HH.out.keep hb).cell 2
      have R : Aside (Below w.heap.size w w1) := HB.out.trans (hb.mono HB.out.size)
      clear hrow hb cP HB HH
      obtain ⟨a', c', rfl⟩ := hv
      go_wp2_with fail
      refine (handed_not (.slice a' N c') N ⟨a', c', rfl⟩ a n c HN.out w1).mono ?_
      rintro e w2 ⟨rfl, rfl⟩
      clear y2
      go_wp2
      go_ret2
      exact ⟨none, 0, rfl, World.ownsRow_nil _ _ _ _, R.out⟩
  · rw [if_pos hE]
    have HB : Aside (Below w.heap.size w ((w.alloc (.cells (CELLS leaf).toArray 23)).alloc (.cells #[.int .u64 (S : Int), .int .u64 (I : Int), .slice a n c] 46))) := ((Below.refl _ _).alloc (Nat.le_refl _) _).alloc (by simp) _
    have cP := pla_ok I S _ (hT.below (by omega) HB.out) (Nat.lt_of_lt_of_le (by omega) HB.out.size)
    obtain ⟨E, hEe⟩ : ∃ E, (PLA I S).1 = E := ⟨_, rfl⟩
    rw [hEe] at cP hE ⊢
    have hne : ((E : Int) != 0) = true := by simp [hE]
    clear hT hX h0 hE hEe hF hleaf
    go_enter Tryz.func24, Tryz.ntmps24
    go_wp2_with fail
    refine cP.mono ?_
    rintro e w1 ⟨v, rfl, hrow, hb⟩
    have R : Aside (Below w.heap.size w w1) := HB.out.trans (hb.mono HB.out.size)
    clear hrow hb cP HB
    go_wp2
    go_ret2
    exact ⟨none, 0, rfl, World.ownsRow_nil _ _ _ _, R.out⟩
end Go.Proofs.YtkcfhgflgkejoaaGreatDoor

/- The region of Reach that draws its order. -/
namespace Go.Proofs.YtkcfhgflgkejoaaGreatDoor
open Go.RowKit
set_option maxRecDepth 100000

def VROPS : Array Oper := #[{ dst := some 51, op := Op.move (Operand.tmp 9), type := 69, pos := "verify.go:62", after := #[], guard := none }, { dst := some 52, op := Op.fieldAddr 34 (Operand.tmp 3) 0, type := 0, pos := "verify.go:62", after := #[], guard := none }, { dst := some 53, op := Op.load 24 (Operand.tmp 52), type := 24, pos := "verify.go:62", after := #[{ on := 1, ground := Ground.data }], guard := none }, { dst := some 54, op := Op.call { callee := Callee.value (Operand.func 38), args := #[Operand.tmp 51, Operand.tmp 53], argTypes := #[69, 24] }, type := 32, pos := "verify.go:62", after := #[{ on := 0, ground := Ground.data }, { on := 2, ground := Ground.data }], guard := none }, { dst := some 55, op := Op.move (Operand.tmp 9), type := 69, pos := "verify.go:62", after := #[], guard := none }, { dst := some 56, op := Op.fieldAddr 34 (Operand.tmp 3) 1, type := 0, pos := "verify.go:62", after := #[], guard := none }, { dst := some 57, op := Op.load 24 (Operand.tmp 56), type := 24, pos := "verify.go:62", after := #[{ on := 5, ground := Ground.data }], guard := none }, { dst := some 58, op := Op.call { callee := Callee.value (Operand.func 38), args := #[Operand.tmp 55, Operand.tmp 57], argTypes := #[69, 24] }, type := 32, pos := "verify.go:62", after := #[{ on := 4, ground := Ground.data }, { on := 6, ground := Ground.data }, { on := 3, ground := Ground.chain }], guard := none }, { dst := some 4, op := Op.assign (Operand.tmp 54), type := 32, pos := "verify.go:62", after := #[{ on := 3, ground := Ground.data }, { on := 7, ground := Ground.chain }, { on := 0, ground := Ground.phase }, { on := 1, ground := Ground.phase }, { on := 2, ground := Ground.phase }, { on := 3, ground := Ground.phase }, { on := 4, ground := Ground.textOnly Departure.lateStores }, { on := 5, ground := Ground.textOnly Departure.lateStores }, { on := 6, ground := Ground.textOnly Departure.lateStores }, { on := 7, ground := Ground.textOnly Departure.lateStoresUnsure }], guard := none }, { dst := some 5, op := Op.assign (Operand.tmp 58), type := 32, pos := "verify.go:62", after := #[{ on := 7, ground := Ground.data }, { on := 8, ground := Ground.chain }, { on := 0, ground := Ground.phase }, { on := 1, ground := Ground.phase }, { on := 2, ground := Ground.phase }, { on := 3, ground := Ground.phase }, { on := 4, ground := Ground.phase }, { on := 5, ground := Ground.phase }, { on := 6, ground := Ground.phase }, { on := 7, ground := Ground.phase }, { on := 8, ground := Ground.phase }], guard := none }, { dst := some 6, op := Op.assign (Operand.const (Value.int IntKind.i64 0)), type := 27, pos := "verify.go:62", after := #[{ on := 9, ground := Ground.chain }, { on := 0, ground := Ground.phase }, { on := 1, ground := Ground.phase }, { on := 2, ground := Ground.phase }, { on := 3, ground := Ground.phase }, { on := 4, ground := Ground.phase }, { on := 5, ground := Ground.phase }, { on := 6, ground := Ground.phase }, { on := 7, ground := Ground.phase }, { on := 8, ground := Ground.phase }, { on := 9, ground := Ground.phase }], guard := none }]
set_option maxHeartbeats 2000000 in
theorem reach_region {Q : Exit → Act → World → Prop} (u0 u1 u2 u4 u5 u6 u7 u8 u10 u11 u12 u13 u14 u15 u16 u17 u18 u19 u20 u21 u22 u23 u24 u25 u26 u27 u28 u29 u30 u31 u32 u33 u34 u35 u36 u37 u38 u39 u40 u41 u42 u43 u44 u45 u46 u47 u48 u49 u50 u51 u52 u53 u54 u55 u56 u57 u58 : Value) (W : World) (mb b3 F S : Nat) (P0 : World → Prop) (P1 : Value → World → Prop) (P2 : Value → Value → World → Prop) (t0 : ∀ w, P0 w → (fun W : World => W.cell? ⟨b3, 0, none⟩ = some (.int .u64 (F : Int)) ∧ W.cell? ⟨b3, 1, none⟩ = some (.int .u64 (S : Int))) w) (t1 : ∀ X w, P1 X w → (fun W : World => W.cell? ⟨b3, 0, none⟩ = some (.int .u64 (F : Int)) ∧ W.cell? ⟨b3, 1, none⟩ = some (.int .u64 (S : Int))) w) (t2 : ∀ X Y w, P2 X Y w → (fun W : World => W.cell? ⟨b3, 0, none⟩ = some (.int .u64 (F : Int)) ∧ W.cell? ⟨b3, 1, none⟩ = some (.int .u64 (S : Int))) w) (c1 : ∀ w, P0 w → Calls Tryz.prog 38 #[.map (some mb), .int .u64 (F : Int)] w fun e w' => ∃ X, e = .returned X ∧ P1 X w') (c2 : ∀ X w, P1 X w → Calls Tryz.prog 38 #[.map (some mb), .int .u64 (S : Int)] w fun e w' => ∃ Y, e = .returned Y ∧ P2 X Y w') (h0 : P0 W.drew) (hQ : ∀ c (a : Act) (t : Tmp) (v : Value) w, Q (.panic c) (a.put (some t) v) w → Q (.panic c) a w)
    (hfin : ∀ (X Y : Value) (w : World), P2 X Y w → Q .normal { tmps := #[u0, u1, u2, .pointer (some ⟨b3, 0, none⟩), X, Y, .int .i64 0, u7, u8, .map (some mb), u10, u11, u12, u13, u14, u15, u16, u17, u18, u19, u20, u21, u22, u23, u24, u25, u26, u27, u28, u29, u30, u31, u32, u33, u34, u35, u36, u37, u38, u39, u40, u41, u42, u43, u44, u45, u46, u47, u48, u49, u50, .map (some mb), .pointer (some ⟨b3, 0, none⟩), .int .u64 (F : Int), X, .map (some mb), .pointer (some ⟨b3, 1, none⟩), .int .u64 (S : Int), Y], defers := [] } w) : (Code.region 12 VROPS true).wp Tryz.prog Q { tmps := #[u0, u1, u2, .pointer (some ⟨b3, 0, none⟩), u4, u5, u6, u7, u8, .map (some mb), u10, u11, u12, u13, u14, u15, u16, u17, u18, u19, u20, u21, u22, u23, u24, u25, u26, u27, u28, u29, u30, u31, u32, u33, u34, u35, u36, u37, u38, u39, u40, u41, u42, u43, u44, u45, u46, u47, u48, u49, u50, u51, u52, u53, u54, u55, u56, u57, u58], defers := [] } W := by
  have k2 : ∀ (X Y : Value) (w : World), P2 X Y w → wpAnyH Tryz.prog .any VROPS Q (fun W : World => W.cell? ⟨b3, 0, none⟩ = some (.int .u64 (F : Int)) ∧ W.cell? ⟨b3, 1, none⟩ = some (.int .u64 (S : Int))) 3 #[true, true, true, true, true, true, true, true, false, false, false] { tmps := #[u0, u1, u2, .pointer (some ⟨b3, 0, none⟩), u4, u5, u6, u7, u8, .map (some mb), u10, u11, u12, u13, u14, u15, u16, u17, u18, u19, u20, u21, u22, u23, u24, u25, u26, u27, u28, u29, u30, u31, u32, u33, u34, u35, u36, u37, u38, u39, u40, u41, u42, u43, u44, u45, u46, u47, u48, u49, u50, .map (some mb), .pointer (some ⟨b3, 0, none⟩), .int .u64 (F : Int), X, .map (some mb), .pointer (some ⟨b3, 1, none⟩), .int .u64 (S : Int), Y], defers := [] } w := fun X Y w hp => by
    have hww : (fun W : World => W.cell? ⟨b3, 0, none⟩ = some (.int .u64 (F : Int)) ∧ W.cell? ⟨b3, 1, none⟩ = some (.int .u64 (S : Int))) w := t2 _ _ _ hp
    have last : wpAnyH Tryz.prog .any VROPS Q (fun W : World => W.cell? ⟨b3, 0, none⟩ = some (.int .u64 (F : Int)) ∧ W.cell? ⟨b3, 1, none⟩ = some (.int .u64 (S : Int))) 0 #[true, true, true, true, true, true, true, true, true, true, true] { tmps := #[u0, u1, u2, .pointer (some ⟨b3, 0, none⟩), X, Y, .int .i64 0, u7, u8, .map (some mb), u10, u11, u12, u13, u14, u15, u16, u17, u18, u19, u20, u21, u22, u23, u24, u25, u26, u27, u28, u29, u30, u31, u32, u33, u34, u35, u36, u37, u38, u39, u40, u41, u42, u43, u44, u45, u46, u47, u48, u49, u50, .map (some mb), .pointer (some ⟨b3, 0, none⟩), .int .u64 (F : Int), X, .map (some mb), .pointer (some ⟨b3, 1, none⟩), .int .u64 (S : Int), Y], defers := [] } w := wpAnyH_done (by kernel_rfl) (hfin X Y w hp) _
    have t10 : wpAnyH Tryz.prog .any VROPS Q (fun W : World => W.cell? ⟨b3, 0, none⟩ = some (.int .u64 (F : Int)) ∧ W.cell? ⟨b3, 1, none⟩ = some (.int .u64 (S : Int))) 1 #[true, true, true, true, true, true, true, true, true, true, false] { tmps := #[u0, u1, u2, .pointer (some ⟨b3, 0, none⟩), X, Y, u6, u7, u8, .map (some mb), u10, u11, u12, u13, u14, u15, u16, u17, u18, u19, u20, u21, u22, u23, u24, u25, u26, u27, u28, u29, u30, u31, u32, u33, u34, u35, u36, u37, u38, u39, u40, u41, u42, u43, u44, u45, u46, u47, u48, u49, u50, .map (some mb), .pointer (some ⟨b3, 0, none⟩), .int .u64 (F : Int), X, .map (some mb), .pointer (some ⟨b3, 1, none⟩), .int .u64 (S : Int), Y], defers := [] } w :=
      wpAnyH_take (i := 10) (oi := { dst := some 6, op := Op.assign (Operand.const (Value.int IntKind.i64 0)), type := 27, pos := "verify.go:62", after := #[{ on := 9, ground := Ground.chain }, { on := 0, ground := Ground.phase }, { on := 1, ground := Ground.phase }, { on := 2, ground := Ground.phase }, { on := 3, ground := Ground.phase }, { on := 4, ground := Ground.phase }, { on := 5, ground := Ground.phase }, { on := 6, ground := Ground.phase }, { on := 7, ground := Ground.phase }, { on := 8, ground := Ground.phase }, { on := 9, ground := Ground.phase }], guard := none }) (v := .int .i64 0) rfl (by kernel_rfl) (by kernel_rfl) (by kernel_rfl) (fun _ _ _ h => hQ _ _ _ _ _ h) (Yields.yieldsIf (Or.inl ⟨by rfl, fun W => by go_simp⟩)) hww last
    have t9 : wpAnyH Tryz.prog .any VROPS Q (fun W : World => W.cell? ⟨b3, 0, none⟩ = some (.int .u64 (F : Int)) ∧ W.cell? ⟨b3, 1, none⟩ = some (.int .u64 (S : Int))) 2 #[true, true, true, true, true, true, true, true, true, false, false] { tmps := #[u0, u1, u2, .pointer (some ⟨b3, 0, none⟩), X, u5, u6, u7, u8, .map (some mb), u10, u11, u12, u13, u14, u15, u16, u17, u18, u19, u20, u21, u22, u23, u24, u25, u26, u27, u28, u29, u30, u31, u32, u33, u34, u35, u36, u37, u38, u39, u40, u41, u42, u43, u44, u45, u46, u47, u48, u49, u50, .map (some mb), .pointer (some ⟨b3, 0, none⟩), .int .u64 (F : Int), X, .map (some mb), .pointer (some ⟨b3, 1, none⟩), .int .u64 (S : Int), Y], defers := [] } w :=
      wpAnyH_take (i := 9) (oi := { dst := some 5, op := Op.assign (Operand.tmp 58), type := 32, pos := "verify.go:62", after := #[{ on := 7, ground := Ground.data }, { on := 8, ground := Ground.chain }, { on := 0, ground := Ground.phase }, { on := 1, ground := Ground.phase }, { on := 2, ground := Ground.phase }, { on := 3, ground := Ground.phase }, { on := 4, ground := Ground.phase }, { on := 5, ground := Ground.phase }, { on := 6, ground := Ground.phase }, { on := 7, ground := Ground.phase }, { on := 8, ground := Ground.phase }], guard := none }) (v := Y) rfl (by kernel_rfl) (by kernel_rfl) (by kernel_rfl) (fun _ _ _ h => hQ _ _ _ _ _ h) (Yields.yieldsIf (Or.inl ⟨by rfl, fun W => by go_simp⟩)) hww t10
    have t8 : wpAnyH Tryz.prog .any VROPS Q (fun W : World => W.cell? ⟨b3, 0, none⟩ = some (.int .u64 (F : Int)) ∧ W.cell? ⟨b3, 1, none⟩ = some (.int .u64 (S : Int))) 3 #[true, true, true, true, true, true, true, true, false, false, false] { tmps := #[u0, u1, u2, .pointer (some ⟨b3, 0, none⟩), u4, u5, u6, u7, u8, .map (some mb), u10, u11, u12, u13, u14, u15, u16, u17, u18, u19, u20, u21, u22, u23, u24, u25, u26, u27, u28, u29, u30, u31, u32, u33, u34, u35, u36, u37, u38, u39, u40, u41, u42, u43, u44, u45, u46, u47, u48, u49, u50, .map (some mb), .pointer (some ⟨b3, 0, none⟩), .int .u64 (F : Int), X, .map (some mb), .pointer (some ⟨b3, 1, none⟩), .int .u64 (S : Int), Y], defers := [] } w :=
      wpAnyH_take (i := 8) (oi := { dst := some 4, op := Op.assign (Operand.tmp 54), type := 32, pos := "verify.go:62", after := #[{ on := 3, ground := Ground.data }, { on := 7, ground := Ground.chain }, { on := 0, ground := Ground.phase }, { on := 1, ground := Ground.phase }, { on := 2, ground := Ground.phase }, { on := 3, ground := Ground.phase }, { on := 4, ground := Ground.textOnly Departure.lateStores }, { on := 5, ground := Ground.textOnly Departure.lateStores }, { on := 6, ground := Ground.textOnly Departure.lateStores }, { on := 7, ground := Ground.textOnly Departure.lateStoresUnsure }], guard := none }) (v := X) rfl (by kernel_rfl) (by kernel_rfl) (by kernel_rfl) (fun _ _ _ h => hQ _ _ _ _ _ h) (Yields.yieldsIf (Or.inl ⟨by rfl, fun W => by go_simp⟩)) hww t9
    exact t8
  have k1 : ∀ (X : Value) (w : World), P1 X w → wpAnyH Tryz.prog .any VROPS Q (fun W : World => W.cell? ⟨b3, 0, none⟩ = some (.int .u64 (F : Int)) ∧ W.cell? ⟨b3, 1, none⟩ = some (.int .u64 (S : Int))) 4 #[true, true, true, true, true, true, true, false, false, false, false] { tmps := #[u0, u1, u2, .pointer (some ⟨b3, 0, none⟩), u4, u5, u6, u7, u8, .map (some mb), u10, u11, u12, u13, u14, u15, u16, u17, u18, u19, u20, u21, u22, u23, u24, u25, u26, u27, u28, u29, u30, u31, u32, u33, u34, u35, u36, u37, u38, u39, u40, u41, u42, u43, u44, u45, u46, u47, u48, u49, u50, .map (some mb), .pointer (some ⟨b3, 0, none⟩), .int .u64 (F : Int), X, .map (some mb), .pointer (some ⟨b3, 1, none⟩), .int .u64 (S : Int), u58], defers := [] } w := fun X w hp => by
    have hww : (fun W : World => W.cell? ⟨b3, 0, none⟩ = some (.int .u64 (F : Int)) ∧ W.cell? ⟨b3, 1, none⟩ = some (.int .u64 (S : Int))) w := t1 _ _ hp
    have last : wpAnyH Tryz.prog .any VROPS Q (fun W : World => W.cell? ⟨b3, 0, none⟩ = some (.int .u64 (F : Int)) ∧ W.cell? ⟨b3, 1, none⟩ = some (.int .u64 (S : Int))) 4 #[true, true, true, true, true, true, true, false, false, false, false] { tmps := #[u0, u1, u2, .pointer (some ⟨b3, 0, none⟩), u4, u5, u6, u7, u8, .map (some mb), u10, u11, u12, u13, u14, u15, u16, u17, u18, u19, u20, u21, u22, u23, u24, u25, u26, u27, u28, u29, u30, u31, u32, u33, u34, u35, u36, u37, u38, u39, u40, u41, u42, u43, u44, u45, u46, u47, u48, u49, u50, .map (some mb), .pointer (some ⟨b3, 0, none⟩), .int .u64 (F : Int), X, .map (some mb), .pointer (some ⟨b3, 1, none⟩), .int .u64 (S : Int), u58], defers := [] } w := by
      refine anyHone (o := { dst := some 58, op := Op.call { callee := Callee.value (Operand.func 38), args := #[Operand.tmp 55, Operand.tmp 57], argTypes := #[69, 24] }, type := 32, pos := "verify.go:62", after := #[{ on := 4, ground := Ground.data }, { on := 6, ground := Ground.data }, { on := 3, ground := Ground.chain }], guard := none }) 7 (by kernel_rfl) rfl (fun K hK => ?_)
      rw [if_pos (by rfl)]
      go_simp
      refine (c2 X w hp).mono ?_
      rintro e w' ⟨Y, rfl, hp⟩
      exact hK.out _ _ (t2 _ _ _ hp) (fun _ => k2 X Y w' hp)
    exact last
  have k0 : ∀ (w : World), P0 w → wpAnyH Tryz.prog .any VROPS Q (fun W : World => W.cell? ⟨b3, 0, none⟩ = some (.int .u64 (F : Int)) ∧ W.cell? ⟨b3, 1, none⟩ = some (.int .u64 (S : Int))) 11 #[false, false, false, false, false, false, false, false, false, false, false] { tmps := #[u0, u1, u2, .pointer (some ⟨b3, 0, none⟩), u4, u5, u6, u7, u8, .map (some mb), u10, u11, u12, u13, u14, u15, u16, u17, u18, u19, u20, u21, u22, u23, u24, u25, u26, u27, u28, u29, u30, u31, u32, u33, u34, u35, u36, u37, u38, u39, u40, u41, u42, u43, u44, u45, u46, u47, u48, u49, u50, u51, u52, u53, u54, u55, u56, u57, u58], defers := [] } w := fun  w hp => by
    have hww : (fun W : World => W.cell? ⟨b3, 0, none⟩ = some (.int .u64 (F : Int)) ∧ W.cell? ⟨b3, 1, none⟩ = some (.int .u64 (S : Int))) w := t0 _ hp
    have last : wpAnyH Tryz.prog .any VROPS Q (fun W : World => W.cell? ⟨b3, 0, none⟩ = some (.int .u64 (F : Int)) ∧ W.cell? ⟨b3, 1, none⟩ = some (.int .u64 (S : Int))) 5 #[true, true, true, false, true, true, true, false, false, false, false] { tmps := #[u0, u1, u2, .pointer (some ⟨b3, 0, none⟩), u4, u5, u6, u7, u8, .map (some mb), u10, u11, u12, u13, u14, u15, u16, u17, u18, u19, u20, u21, u22, u23, u24, u25, u26, u27, u28, u29, u30, u31, u32, u33, u34, u35, u36, u37, u38, u39, u40, u41, u42, u43, u44, u45, u46, u47, u48, u49, u50, .map (some mb), .pointer (some ⟨b3, 0, none⟩), .int .u64 (F : Int), u54, .map (some mb), .pointer (some ⟨b3, 1, none⟩), .int .u64 (S : Int), u58], defers := [] } w := by
      refine anyHone (o := { dst := some 54, op := Op.call { callee := Callee.value (Operand.func 38), args := #[Operand.tmp 51, Operand.tmp 53], argTypes := #[69, 24] }, type := 32, pos := "verify.go:62", after := #[{ on := 0, ground := Ground.data }, { on := 2, ground := Ground.data }], guard := none }) 3 (by kernel_rfl) rfl (fun K hK => ?_)
      rw [if_pos (by rfl)]
      go_simp
      refine (c1 w hp).mono ?_
      rintro e w' ⟨X, rfl, hp⟩
      exact hK.out _ _ (t1 _ _ hp) (fun _ => k1 X w' hp)
    have t6 : wpAnyH Tryz.prog .any VROPS Q (fun W : World => W.cell? ⟨b3, 0, none⟩ = some (.int .u64 (F : Int)) ∧ W.cell? ⟨b3, 1, none⟩ = some (.int .u64 (S : Int))) 6 #[true, true, true, false, true, true, false, false, false, false, false] { tmps := #[u0, u1, u2, .pointer (some ⟨b3, 0, none⟩), u4, u5, u6, u7, u8, .map (some mb), u10, u11, u12, u13, u14, u15, u16, u17, u18, u19, u20, u21, u22, u23, u24, u25, u26, u27, u28, u29, u30, u31, u32, u33, u34, u35, u36, u37, u38, u39, u40, u41, u42, u43, u44, u45, u46, u47, u48, u49, u50, .map (some mb), .pointer (some ⟨b3, 0, none⟩), .int .u64 (F : Int), u54, .map (some mb), .pointer (some ⟨b3, 1, none⟩), u57, u58], defers := [] } w :=
      wpAnyH_take (i := 6) (oi := { dst := some 57, op := Op.load 24 (Operand.tmp 56), type := 24, pos := "verify.go:62", after := #[{ on := 5, ground := Ground.data }], guard := none }) (v := .int .u64 (S : Int)) rfl (by kernel_rfl) (by kernel_rfl) (by kernel_rfl) (fun _ _ _ h => hQ _ _ _ _ _ h) (Or.inl ⟨by rfl, fun w hw => by have hx := hw.2; go_simp⟩) hww last
    have t5 : wpAnyH Tryz.prog .any VROPS Q (fun W : World => W.cell? ⟨b3, 0, none⟩ = some (.int .u64 (F : Int)) ∧ W.cell? ⟨b3, 1, none⟩ = some (.int .u64 (S : Int))) 7 #[true, true, true, false, true, false, false, false, false, false, false] { tmps := #[u0, u1, u2, .pointer (some ⟨b3, 0, none⟩), u4, u5, u6, u7, u8, .map (some mb), u10, u11, u12, u13, u14, u15, u16, u17, u18, u19, u20, u21, u22, u23, u24, u25, u26, u27, u28, u29, u30, u31, u32, u33, u34, u35, u36, u37, u38, u39, u40, u41, u42, u43, u44, u45, u46, u47, u48, u49, u50, .map (some mb), .pointer (some ⟨b3, 0, none⟩), .int .u64 (F : Int), u54, .map (some mb), u56, u57, u58], defers := [] } w :=
      wpAnyH_take (i := 5) (oi := { dst := some 56, op := Op.fieldAddr 34 (Operand.tmp 3) 1, type := 0, pos := "verify.go:62", after := #[], guard := none }) (v := .pointer (some ⟨b3, 1, none⟩)) rfl (by kernel_rfl) (by kernel_rfl) (by kernel_rfl) (fun _ _ _ h => hQ _ _ _ _ _ h) (Yields.yieldsIf (Or.inl ⟨by rfl, fun W => by go_simp⟩)) hww t6
    have t4 : wpAnyH Tryz.prog .any VROPS Q (fun W : World => W.cell? ⟨b3, 0, none⟩ = some (.int .u64 (F : Int)) ∧ W.cell? ⟨b3, 1, none⟩ = some (.int .u64 (S : Int))) 8 #[true, true, true, false, false, false, false, false, false, false, false] { tmps := #[u0, u1, u2, .pointer (some ⟨b3, 0, none⟩), u4, u5, u6, u7, u8, .map (some mb), u10, u11, u12, u13, u14, u15, u16, u17, u18, u19, u20, u21, u22, u23, u24, u25, u26, u27, u28, u29, u30, u31, u32, u33, u34, u35, u36, u37, u38, u39, u40, u41, u42, u43, u44, u45, u46, u47, u48, u49, u50, .map (some mb), .pointer (some ⟨b3, 0, none⟩), .int .u64 (F : Int), u54, u55, u56, u57, u58], defers := [] } w :=
      wpAnyH_take (i := 4) (oi := { dst := some 55, op := Op.move (Operand.tmp 9), type := 69, pos := "verify.go:62", after := #[], guard := none }) (v := .map (some mb)) rfl (by kernel_rfl) (by kernel_rfl) (by kernel_rfl) (fun _ _ _ h => hQ _ _ _ _ _ h) (Yields.yieldsIf (Or.inl ⟨by rfl, fun W => by go_simp⟩)) hww t5
    have t2 : wpAnyH Tryz.prog .any VROPS Q (fun W : World => W.cell? ⟨b3, 0, none⟩ = some (.int .u64 (F : Int)) ∧ W.cell? ⟨b3, 1, none⟩ = some (.int .u64 (S : Int))) 9 #[true, true, false, false, false, false, false, false, false, false, false] { tmps := #[u0, u1, u2, .pointer (some ⟨b3, 0, none⟩), u4, u5, u6, u7, u8, .map (some mb), u10, u11, u12, u13, u14, u15, u16, u17, u18, u19, u20, u21, u22, u23, u24, u25, u26, u27, u28, u29, u30, u31, u32, u33, u34, u35, u36, u37, u38, u39, u40, u41, u42, u43, u44, u45, u46, u47, u48, u49, u50, .map (some mb), .pointer (some ⟨b3, 0, none⟩), u53, u54, u55, u56, u57, u58], defers := [] } w :=
      wpAnyH_take (i := 2) (oi := { dst := some 53, op := Op.load 24 (Operand.tmp 52), type := 24, pos := "verify.go:62", after := #[{ on := 1, ground := Ground.data }], guard := none }) (v := .int .u64 (F : Int)) rfl (by kernel_rfl) (by kernel_rfl) (by kernel_rfl) (fun _ _ _ h => hQ _ _ _ _ _ h) (Or.inl ⟨by rfl, fun w hw => by have hx := hw.1; go_simp⟩) hww t4
    have t1 : wpAnyH Tryz.prog .any VROPS Q (fun W : World => W.cell? ⟨b3, 0, none⟩ = some (.int .u64 (F : Int)) ∧ W.cell? ⟨b3, 1, none⟩ = some (.int .u64 (S : Int))) 10 #[true, false, false, false, false, false, false, false, false, false, false] { tmps := #[u0, u1, u2, .pointer (some ⟨b3, 0, none⟩), u4, u5, u6, u7, u8, .map (some mb), u10, u11, u12, u13, u14, u15, u16, u17, u18, u19, u20, u21, u22, u23, u24, u25, u26, u27, u28, u29, u30, u31, u32, u33, u34, u35, u36, u37, u38, u39, u40, u41, u42, u43, u44, u45, u46, u47, u48, u49, u50, .map (some mb), u52, u53, u54, u55, u56, u57, u58], defers := [] } w :=
      wpAnyH_take (i := 1) (oi := { dst := some 52, op := Op.fieldAddr 34 (Operand.tmp 3) 0, type := 0, pos := "verify.go:62", after := #[], guard := none }) (v := .pointer (some ⟨b3, 0, none⟩)) rfl (by kernel_rfl) (by kernel_rfl) (by kernel_rfl) (fun _ _ _ h => hQ _ _ _ _ _ h) (Yields.yieldsIf (Or.inl ⟨by rfl, fun W => by go_simp⟩)) hww t2
    have t0 : wpAnyH Tryz.prog .any VROPS Q (fun W : World => W.cell? ⟨b3, 0, none⟩ = some (.int .u64 (F : Int)) ∧ W.cell? ⟨b3, 1, none⟩ = some (.int .u64 (S : Int))) 11 #[false, false, false, false, false, false, false, false, false, false, false] { tmps := #[u0, u1, u2, .pointer (some ⟨b3, 0, none⟩), u4, u5, u6, u7, u8, .map (some mb), u10, u11, u12, u13, u14, u15, u16, u17, u18, u19, u20, u21, u22, u23, u24, u25, u26, u27, u28, u29, u30, u31, u32, u33, u34, u35, u36, u37, u38, u39, u40, u41, u42, u43, u44, u45, u46, u47, u48, u49, u50, u51, u52, u53, u54, u55, u56, u57, u58], defers := [] } w :=
      wpAnyH_take (i := 0) (oi := { dst := some 51, op := Op.move (Operand.tmp 9), type := 69, pos := "verify.go:62", after := #[], guard := none }) (v := .map (some mb)) rfl (by kernel_rfl) (by kernel_rfl) (by kernel_rfl) (fun _ _ _ h => hQ _ _ _ _ _ h) (Yields.yieldsIf (Or.inl ⟨by rfl, fun W => by go_simp⟩)) hww t1
    exact t0
  have hp := h0
  exact wp_region_held_drew (S := (fun W : World => W.cell? ⟨b3, 0, none⟩ = some (.int .u64 (F : Int)) ∧ W.cell? ⟨b3, 1, none⟩ = some (.int .u64 (S : Int)))) (by kernel_rfl) (t0 _ hp) (fun _ => k0 _ hp)
end Go.Proofs.YtkcfhgflgkejoaaGreatDoor
