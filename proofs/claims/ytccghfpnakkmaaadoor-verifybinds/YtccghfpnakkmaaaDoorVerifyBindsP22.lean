/- Texts of VerifyBinds, one behind the other: VerifyClimb, VerifyBag, VerifyCount, VerifyUnder. -/
import Derived.Test.YtccghfpnakkmaaaDoorVerifyBindsP6
import Derived.Test.YtccghfpnakkmaaaDoorVerifyBindsP21
/- What Climb of package verify answers. -/
namespace Go.Proofs.YtccghfpnakkmaaaDoor
open Go.RowKit
set_option maxRecDepth 100000

/-- the way of the leaf I, t steps up. -/
def JN (d : Int) (I : Nat) (M : Nat → Nat → List Int) : Nat → Nat → Nat → List Int
  | 0 => M
  | t + 1 => MPUT (JN d I M t) (t + 1) (I / 2 ^ (t + 1)) (NODEH d (JN d I M t t (2 * (I / 2 ^ (t + 1)))) (JN d I M t t (2 * (I / 2 ^ (t + 1)) + 1)))
/-- what is known when the way is climbed. -/
def CLM (d : Int) (leaf : List Int) (S I : Nat) (l : List Int) : Nat → Nat → List Int := JN d I (MPUT (HAND (PSP I S) l (PSP I S).length) 0 I leaf) (RISE I S)
/-- what Climb answers: the error, how many peaks, their hashes. -/
def CLA (d : Int) (leaf : List Int) (S I n : Nat) (l : List Int) : Int × Nat × List Int := if (PLA I S).1 ≠ 0 then ((PLA I S).1, 0, []) else if n ≠ (PLA I S).2.length then (70, 0, []) else (0, PC S, CAT (CLM d leaf S I l) (SPAN 0 S))
theorem ZND_is : IsH ZND := ⟨rfl, fun x hx => by
  have : x = 0 := by simpa [ZND] using hx
  omega⟩
theorem MPUT_is {M : Nat → Nat → List Int} (h : ∀ a b, IsH (M a b)) {x : List Int} (hx : IsH x) (p q a b : Nat) : IsH (MPUT M p q x a b) := by
  unfold MPUT
  split
  · exact hx
  · exact h a b
theorem HSH_is {l : List Int} {n i : Nat} (hl : l.length = 32 * n) (hr : ∀ x ∈ l, 0 ≤ x ∧ x ≤ 255) (hi : i < n) : IsH (HSH l i) := ⟨HSH_length hl hi, fun x hx => hr x (HSH_mem hx)⟩
theorem HAND_is {ss : List (Nat × Nat)} {l : List Int} {n : Nat} (hl : l.length = 32 * n) (hr : ∀ x ∈ l, 0 ≤ x ∧ x ≤ 255) : ∀ i, i ≤ n → ∀ a b, IsH (HAND ss l i a b)
  | 0, _, _, _ => ZND_is
  | i + 1, h, a, b => MPUT_is (HAND_is hl hr i (by omega)) (HSH_is hl hr (by omega)) _ _ a b
theorem JN_is {d : Int} {I : Nat} {M : Nat → Nat → List Int} (h : ∀ a b, IsH (M a b)) : ∀ t a b, IsH (JN d I M t a b)
  | 0, a, b => h a b
  | t + 1, a, b => MPUT_is (JN_is h t) (NODEH_is _ _ _) _ _ a b
set_option maxHeartbeats 4000000 in
theorem climb_core (d : Int) (leaf : List Int) (hleaf : IsH leaf) (S I : Nat) (hIS : I < S) (hS : S ≤ 4611686018427387904) (a : Option Addr) (n c : Nat) (hn : n = (PSP I S).length) (l : List Int) (w : World) (hF : Flat w a n l) (hT : Tabled w) (hX : HX.Tabled w) (h0 : 2 < w.heap.size) :
    Calls Tryd.prog 23 #[.int .i64 d, .agg (CELLS leaf).toArray, .agg #[.int .u64 (S : Int), .int .u64 (I : Int), .slice a n c]] w fun e w' => ∃ a c, e = .returned (.tuple #[.slice a (PC S) c, .int .i64 0]) ∧ w'.ownsRow w.heap.size 24 32 (.slice a (PC S) c) (PC S) (CELLS (CAT (CLM d leaf S I l) (SPAN 0 S))) ∧ Below w.heap.size w w' := by
  have l32 := hleaf.1
  have HA : Aside (IsH leaf ∧ I < S ∧ S ≤ 4611686018427387904 ∧ n = (PSP I S).length ∧ Flat w a n l ∧ Tabled w ∧ HX.Tabled w ∧ 2 < w.heap.size) := ⟨hleaf, hIS, hS, hn, hF, hT, hX, h0⟩
  clear hleaf hIS hS hn hF hT hX h0
  go_enter Tryd.func23, Tryd.ntmps23
  go_upto_region 1 with fail
  obtain ⟨b4, hb4⟩ : ∃ b4, b4 = w.heap.size := ⟨_, rfl⟩
  have R0 : Aside (Below w.heap.size w ((w.alloc (.cells (CELLS leaf).toArray 24)).alloc (.cells #[.int .u64 (S : Int), .int .u64 (I : Int), .slice a n c] 53)) ∧ Has ((w.alloc (.cells (CELLS leaf).toArray 24)).alloc (.cells #[.int .u64 (S : Int), .int .u64 (I : Int), .slice a n c] 53)) b4 (CELLS leaf).toArray 24 ∧ Has ((w.alloc (.cells (CELLS leaf).toArray 24)).alloc (.cells #[.int .u64 (S : Int), .int .u64 (I : Int), .slice a n c] 53)) (b4 + 1) #[.int .u64 (S : Int), .int .u64 (I : Int), .slice a n c] 53) := by
    rw [hb4]
    exact ⟨((Below.refl _ _).alloc (Nat.le_refl _) _).alloc (by simp) _, (Has.new _ _ _).alloc _, Has.at _ _ _ (by simp)⟩
  rw [← hb4]
  generalize (w.alloc (.cells (CELLS leaf).toArray 24)).alloc (.cells #[.int .u64 (S : Int), .int .u64 (I : Int), .slice a n c] 53) = W0 at *
  have HT : Aside (∀ W, Below w.heap.size w W → Tabled W ∧ HX.Tabled W ∧ 0 < W.heap.size ∧ Flat W a n l ∧ 2 < W.heap.size) := fun W h => by
    obtain ⟨a1, a2, a3, a4, a5, a6, a7, a8⟩ := HA.out
    have hs := h.size
    exact ⟨a6.below (by omega) h, a7.below h, by omega, a5.below h, by omega⟩
  have HB : Aside (b4 = w.heap.size) := hb4
  clear hb4
  have hPL : PLA I S = (0, PLCS (PSP I S)) := by
    obtain ⟨a1, a2, a3, a4, a5, a6, a7, a8⟩ := HA.out
    unfold PLA
    rw [if_neg (by omega), if_neg (by omega)]
  have y0 : W0.cell? ⟨b4 + 1, 0, none⟩ = some (.int .u64 (S : Int)) := R0.out.2.2.cell 0
  have y1 : W0.cell? ⟨b4 + 1, 1, none⟩ = some (.int .u64 (I : Int)) := R0.out.2.2.cell 1
  go_wp2_with fail
  have cP := pla_ok I S W0 (HT.out _ R0.out.1).1 (HT.out _ R0.out.1).2.2.1
  rw [hPL] at cP
  refine cP.mono ?_
  clear cP y0 y1 hPL
  rintro e w1 ⟨v, rfl, hrow, hb⟩
  dsimp only at *
  have hnl : (PLCS (PSP I S)).length = n := by have := HA.out.2.2.2.1; rw [PLCS_length, this]
  rw [hnl] at hrow
  obtain ⟨av, cv, rfl, -⟩ := own_slice hrow
  have R1 : Aside (Below w.heap.size w w1 ∧ Has w1 b4 (CELLS leaf).toArray 24 ∧ Has w1 (b4 + 1) #[.int .u64 (S : Int), .int .u64 (I : Int), .slice a n c] 53 ∧ w1.ownsRow W0.heap.size 22 1 (.slice av n cv) n (UCELLS (PLCS (PSP I S)))) := ⟨R0.out.1.trans (hb.mono R0.out.1.size), R0.out.2.1.keep hb, R0.out.2.2.keep hb, hrow⟩
  clear hrow hb R0 hnl
  have y2 : w1.cell? ⟨b4 + 1, 2, none⟩ = some (.slice a n c) := R1.out.2.2.1.cell 2
  go_wp2_with fail
  have hfew : n ≤ 126 := by obtain ⟨a1, a2, a3, a4, _⟩ := HA.out; have := PSP_few a2 a3; omega
  have hnd : ∀ s ∈ PSP I S, Node s.1 s.2 := by
    obtain ⟨a1, a2, a3, a4, _⟩ := HA.out
    exact fun s hs => ((PSP_spec a2 a3).1 s hs).1
  refine (handed_ok (PSP I S) hnd W0.heap.size n HA.out.2.2.2.1.symm (by omega) (.slice av n cv) a c l w1 R1.out.2.2.2 (HT.out _ R1.out.1).2.2.2.1).mono ?_
  clear y2 hnd
  rintro e w2 ⟨mb, rfl, hM, hmb, hb⟩
  obtain ⟨M1, hM1⟩ : ∃ M1, M1 = MPUT (HAND (PSP I S) l n) 0 I leaf := ⟨_, rfl⟩
  have hIsM : ∀ p q, IsH (M1 p q) := by
    rw [hM1]
    have hF := (HT.out _ R1.out.1).2.2.2.1
    exact MPUT_is (HAND_is hF.1 hF.2.2 n (Nat.le_refl _)) HA.out.1 0 I
  obtain ⟨w3, st1, st2, st3⟩ := hM.store (h := 0) (k := I) (by omega) (by decide) (by have := HA.out; omega) leaf
  rw [← hM1] at st2
  have st1 : (Instr.mapUpdate 104 (.map (some mb)) (.agg #[.int .u8 0, .int .u64 (I : Int)]) (.agg (CELLS leaf).toArray)).run Tryd.prog w2 = .ok () w3 := st1
  have R2 : Aside (Below w.heap.size w w2 ∧ Has w2 b4 (CELLS leaf).toArray 24 ∧ Has w2 (b4 + 1) #[.int .u64 (S : Int), .int .u64 (I : Int), .slice a n c] 53 ∧ b4 + 1 < mb) := ⟨R1.out.1.trans (hb.mono R1.out.1.size), R1.out.2.1.keep hb, R1.out.2.2.1.keep hb, by have := R1.out.2.2.1.lt; omega⟩
  have R3 : Aside (Below w.heap.size w w3 ∧ Has w3 (b4 + 1) #[.int .u64 (S : Int), .int .u64 (I : Int), .slice a n c] 53 ∧ SMAP w3 mb (n + 1) M1 ∧ (∀ p q, IsH (M1 p q)) ∧ b4 + 1 < mb ∧ M1 = MPUT (HAND (PSP I S) l n) 0 I leaf) := ⟨R2.out.1.grown st3 R2.out.1.size (fun k e => by cases e; have := R2.out.2.2.2; have := HB.out; omega), R2.out.2.2.1.grown st3 (by have := R2.out.2.2.2; simp; omega), st2, hIsM, R2.out.2.2.2, hM1⟩
  have y1 : w2.cell? ⟨b4 + 1, 1, none⟩ = some (.int .u64 (I : Int)) := R2.out.2.2.1.cell 1
  have hH4 := R2.out.2.1
  have z0 : w3.cell? ⟨b4 + 1, 0, none⟩ = some (.int .u64 (S : Int)) := R3.out.2.1.cell 0
  have z1 : w3.cell? ⟨b4 + 1, 1, none⟩ = some (.int .u64 (I : Int)) := R3.out.2.1.cell 1
  clear hM hmb hb R1 hM1 hIsM st2 st3 R2
  go_wp2_with (refine wpList_load_row rfl 24 (.tmp 4) rfl b4 rfl 24 (CELLS leaf).toArray (0, 0) _ hH4 Tryd.underlying24 rfl (info_arr l32) ?_)
  refine (path_ok I S HA.out.2.1 HA.out.2.2.1 w3).mono ?_
  clear st1 y1 hH4 z0 z1
  rintro e w4 ⟨gp, cp, rfl, hrow, hg, hb⟩
  have hrise : RISE I S ≤ 62 := (RISE_spec HA.out.2.1 HA.out.2.2.1).2.1
  obtain ⟨T, hTT⟩ : ∃ T, RISE I S = T := ⟨_, rfl⟩
  rw [hTT] at hrise ⊢
  have R4 : Aside (Below w.heap.size w w4 ∧ Has w4 (b4 + 1) #[.int .u64 (S : Int), .int .u64 (I : Int), .slice a n c] 53 ∧ SMAP w4 mb (n + 1 + 0) (JN d I M1 0)) := ⟨R3.out.1.trans (hb.mono R3.out.1.size), R3.out.2.1.keep hb, R3.out.2.2.1.below hb⟩
  have KK : Aside ((∀ p q, IsH (M1 p q)) ∧ b4 + 1 < mb ∧ M1 = MPUT (HAND (PSP I S) l n) 0 I leaf ∧ RISE I S = T ∧ T ≤ 62 ∧ n ≤ 126 ∧ 2 < mb) := ⟨R3.out.2.2.2.1, R3.out.2.2.2.2.1, R3.out.2.2.2.2.2, hTT, hrise, hfew, by have h1 := HA.out; have h2 := HB.out; have h3 := R3.out.2.2.2.2.1; omega⟩
  clear hrow hg hb R3 hfew hTT hrise
  go_wp2_with fail
  go_loopg [51] T (fun q s51 wx => ∃ t : Nat, s51 = .int .i64 (t : Int) ∧ Aside (t + q = T ∧ Below w.heap.size w wx ∧ Has wx (b4 + 1) #[.int .u64 (S : Int), .int .u64 (I : Int), .slice a n c] 53 ∧ SMAP wx mb (n + 1 + t) (JN d I M1 t)))
  case atStart => exact ⟨0, rfl, by omega, R4.out⟩
  case round =>
    obtain ⟨t, rfl, A⟩ := hrel
    clear R4
    cases gk with
    | zero =>
      obtain rfl : t = T := by have := A.out.1; omega
      have hlt : ¬ (t : Int) < (t : Int) := by omega
      have z0 : wr.cell? ⟨b4 + 1, 0, none⟩ = some (.int .u64 (S : Int)) := A.out.2.2.1.cell 0
      go_wp2_with fail
      have hH := HT.out _ A.out.2.1
      have hIs : ∀ p q, IsH (JN d I M1 t p q) := JN_is KK.out.1 t
      refine (cpeaks_ok mb (n + 1 + t) S HA.out.2.2.1 (JN d I M1 t) wr A.out.2.2.2 (fun s _ => (hIs s.1 s.2).1) hH.1 hH.2.2.1).mono ?_
      rintro e w5 ⟨a5, c5, rfl, hrow, hb⟩
      have hC : JN d I M1 t = CLM d leaf S I l := by
        unfold CLM
        rw [KK.out.2.2.1, KK.out.2.2.2.1, HA.out.2.2.2.1]
      rw [hC] at hrow
      have Z : Aside (w5.ownsRow w.heap.size 24 32 (.slice a5 (PC S) c5) (PC S) (CELLS (CAT (CLM d leaf S I l) (SPAN 0 S))) ∧ Below w.heap.size w w5) := ⟨own_mono hrow A.out.2.1.size, A.out.2.1.trans (hb.mono A.out.2.1.size)⟩
      clear hrow hb hH hIs hC A KK HT HA
      go_wp2
      go_ret2
      exact ⟨a5, c5, rfl, Z.out⟩
    | succ q =>
      have hlt : (t : Int) < (T : Int) := by have := A.out.1; omega
      have z1 : wr.cell? ⟨b4 + 1, 1, none⟩ = some (.int .u64 (I : Int)) := A.out.2.2.1.cell 1
      obtain ⟨t1, ht1⟩ : ∃ t1, t + 1 = t1 := ⟨_, rfl⟩
      have e1 : wrap64 ((t : Int) + 1) = (t1 : Int) := by have := KK.out; unfold wrap64; omega
      have e8 : IntKind.u8.wrap (t1 : Int) = (t1 : Int) := by have := KK.out; simp [IntKind.wrap, IntKind.bits, IntKind.signed]; omega
      go_wp2_with fail
      have esh : (I : Int) / 2 ^ min t1 64 = ((I / 2 ^ t1 : Nat) : Int) := by
        rw [Nat.min_eq_left (by have := KK.out; omega)]
        simp [Int.natCast_ediv]
      rw [esh]
      have hI61 : 2 * (I / 2 ^ t1) + 1 < 2 ^ 64 := by
        have h1 : I / 2 ^ t1 ≤ I := Nat.div_le_self _ _
        have := HA.out
        omega
      have hH := HT.out _ A.out.2.1
      have hIs : ∀ p q, IsH (JN d I M1 t p q) := JN_is KK.out.1 t
      refine (join_ok mb (n + 1 + t) t1 t (I / 2 ^ t1) d (JN d I M1 t) ht1.symm (by have := KK.out; omega) hI61 (by have := KK.out; omega) wr A.out.2.2.2 (hIs _ _) (hIs _ _) hH.2.1 KK.out.2.2.2.2.2.2).mono ?_
      clear hH hIs hI61 esh
      rintro e w5 ⟨rfl, hM, hg⟩
      have Z : Aside (t + 1 + q = T ∧ Below w.heap.size w w5 ∧ Has w5 (b4 + 1) #[.int .u64 (S : Int), .int .u64 (I : Int), .slice a n c] 53 ∧ SMAP w5 mb (n + 1 + (t + 1)) (JN d I M1 (t + 1))) := by
        obtain ⟨a1, a2, a3, a4⟩ := A.out
        have hmb := KK.out.2.1
        have hb4 := HB.out
        refine ⟨by omega, a2.grown hg a2.size (fun k e => by cases e; omega), a3.grown hg (by simp; omega), ?_⟩
        rw [← ht1] at hM
        exact hM
      have E1 : Aside (wrap64 ((t : Int) + 1) = ((t + 1 : Nat) : Int)) := by have := KK.out; show wrap64 ((t : Int) + 1) = ((t + 1 : Nat) : Int); unfold wrap64; omega
      clear hM hg A z1 e1 e8
      have e1 := E1.out
      go_wp2
      go_roundg q
      case measure => exact Nat.lt_succ_self _
      case rel => exact ⟨t + 1, by first | rfl | (rw [E1.out]), Z.out⟩
/-- hashes of one's own are answered, and an error. -/
def ANSH (w : World) (A : Int × Nat × List Int) (e : Ending) (w' : World) : Prop := ∃ a c, e = .returned (.tuple #[.slice a A.2.1 c, .int .i64 A.1]) ∧ w'.ownsRow w.heap.size 24 32 (.slice a A.2.1 c) A.2.1 (CELLS A.2.2) ∧ Below w.heap.size w w'
set_option maxHeartbeats 2000000 in
theorem climb_ok (d : Int) (leaf : List Int) (hleaf : IsH leaf) (S I : Nat) (a : Option Addr) (n c : Nat) (l : List Int) (w : World) (hF : Flat w a n l) (hT : Tabled w) (hX : HX.Tabled w) (h0 : 2 < w.heap.size) :
    Calls Tryd.prog 23 #[.int .i64 d, .agg (CELLS leaf).toArray, .agg #[.int .u64 (S : Int), .int .u64 (I : Int), .slice a n c]] w (ANSH w (CLA d leaf S I n l)) := by
  unfold CLA
  by_cases hE : (PLA I S).1 = 0
  · rw [if_neg (by simpa using hE)]
    have hIS : I < S ∧ S ≤ 4611686018427387904 := by
      unfold PLA at hE
      split at hE
      · simp at hE
      · split at hE
        · simp at hE
        · omega
    have hPL : PLA I S = (0, PLCS (PSP I S)) := by
      unfold PLA
      rw [if_neg (by omega), if_neg (by omega)]
    have hlen : (PLA I S).2.length = (PSP I S).length := by rw [hPL]; exact PLCS_length _
    by_cases hn : n = (PLA I S).2.length
    · rw [if_neg (by simpa using hn)]
      exact climb_core d leaf hleaf S I hIS.1 hIS.2 a n c (by omega) l w hF hT hX h0
    · rw [if_pos hn]
      have HB : Aside (Below w.heap.size w ((w.alloc (.cells (CELLS leaf).toArray 24)).alloc (.cells #[.int .u64 (S : Int), .int .u64 (I : Int), .slice a n c] 53))) := ((Below.refl _ _).alloc (Nat.le_refl _) _).alloc (by simp) _
      have hH : Has ((w.alloc (.cells (CELLS leaf).toArray 24)).alloc (.cells #[.int .u64 (S : Int), .int .u64 (I : Int), .slice a n c] 53)) (w.heap.size + 1) #[.int .u64 (S : Int), .int .u64 (I : Int), .slice a n c] 53 := Has.at _ _ _ (by simp)
      have cP := pla_ok I S _ (hT.below (by omega) HB.out) (Nat.lt_of_lt_of_le (by omega) HB.out.size)
      rw [hPL] at cP hn
      obtain ⟨N, hN⟩ : ∃ N, (PLCS (PSP I S)).length = N := ⟨_, rfl⟩
      dsimp only at cP hn
      rw [hN] at cP hn
      have HN : Aside (n ≠ N) := hn
      obtain ⟨b5, hb5⟩ : ∃ b5, b5 = w.heap.size + 1 := ⟨_, rfl⟩
      rw [← hb5] at hH
      have HH : Aside (Has ((w.alloc (.cells (CELLS leaf).toArray 24)).alloc (.cells #[.int .u64 (S : Int), .int .u64 (I : Int), .slice a n c] 53)) b5 #[.int .u64 (S : Int), .int .u64 (I : Int), .slice a n c] 53) := hH
      clear hT hX h0 hE hIS hPL hlen hn hN hF hleaf hH
      go_enter Tryd.func23, Tryd.ntmps23
      go_wp2_with fail
      rw [← hb5]
      clear hb5
      refine cP.mono ?_
      rintro e w1 ⟨v, rfl, hrow, hb⟩
      have hv : ∃ a' c', v = .slice a' N c' := by
        obtain ⟨av, cv, e, -⟩ := own_slice hrow
        exact ⟨av, cv, e⟩
      have y2 : w1.cell? ⟨b5, 2, none⟩ = some (.slice a n c) := (HH.out.keep hb).cell 2
      have R : Aside (Below w.heap.size w w1) := HB.out.trans (hb.mono HB.out.size)
      clear hrow hb cP HB HH
      obtain ⟨a', c', rfl⟩ := hv
      go_wp2_with fail
      refine (handed_not (.slice a' N c') N ⟨a', c', rfl⟩ a n c HN.out w1).mono ?_
      rintro e w2 ⟨rfl, rfl⟩
      clear y2
      go_wp2
      go_ret2
      exact ⟨none, 0, rfl, World.ownsRow_nil _ _ _ _, R.out⟩
  · rw [if_pos hE]
    have HB : Aside (Below w.heap.size w ((w.alloc (.cells (CELLS leaf).toArray 24)).alloc (.cells #[.int .u64 (S : Int), .int .u64 (I : Int), .slice a n c] 53))) := ((Below.refl _ _).alloc (Nat.le_refl _) _).alloc (by simp) _
    have cP := pla_ok I S _ (hT.below (by omega) HB.out) (Nat.lt_of_lt_of_le (by omega) HB.out.size)
    obtain ⟨E, hEe⟩ : ∃ E, (PLA I S).1 = E := ⟨_, rfl⟩
    rw [hEe] at cP hE ⊢
    have hne : ((E : Int) != 0) = true := by simp [hE]
    clear hT hX h0 hE hEe hF hleaf
    go_enter Tryd.func23, Tryd.ntmps23
    go_wp2_with fail
    refine cP.mono ?_
    rintro e w1 ⟨v, rfl, hrow, hb⟩
    have R : Aside (Below w.heap.size w w1) := HB.out.trans (hb.mono HB.out.size)
    clear hrow hb cP HB
    go_wp2
    go_ret2
    exact ⟨none, 0, rfl, World.ownsRow_nil _ _ _ _, R.out⟩
end Go.Proofs.YtccghfpnakkmaaaDoor

/- What folded and Bag of package mmr and under of package verify answer. -/
namespace Go.Proofs.YtccghfpnakkmaaaDoor
open Go.RowKit
set_option maxRecDepth 100000

/-- the last one, and k more of n folded into it. -/
def FA (d : Int) (l : List Int) (n : Nat) : Nat → List Int
  | 0 => HSH l (n - 1)
  | k + 1 => FOLDH d (HSH l (n - 2 - k)) (FA d l n k)
/-- all of them in one. -/
def FLD (d : Int) (l : List Int) (n : Nat) : List Int := if n = 0 then ZND else FA d l n (n - 1)
theorem FA_is {d : Int} {l : List Int} {n : Nat} (hl : l.length = 32 * n) (hr : ∀ x ∈ l, 0 ≤ x ∧ x ≤ 255) (hn : 0 < n) : ∀ k, IsH (FA d l n k)
  | 0 => HSH_is hl hr (by omega)
  | k + 1 => FOLDH_is _ _ _
theorem FLD_is {d : Int} {l : List Int} {n : Nat} (hl : l.length = 32 * n) (hr : ∀ x ∈ l, 0 ≤ x ∧ x ≤ 255) : IsH (FLD d l n) := by
  unfold FLD
  split
  · exact ZND_is
  · exact FA_is hl hr (by omega) _
theorem results_one {fn : Func} {p : Tmp} {ty : TypeId} (h : fn.results = #[.cell p ty]) (tmps : Array Value) (w : World) (g : Nat) (t : TypeId) (cs : Array Value) (fr : Nat × Nat) (k : Nat) (el : TypeId)
    (hp : tmps.getD p undef = .pointer (some ⟨g, 0, none⟩)) (hg : w.heap[g]? = some (.cells cs t fr))
    (hu : Tryd.prog.underlying ty = some (.array k el)) (hi : (Tryd.prog.info? ty).map (·.size) = some cs.size) :
    (results fn tmps).run Tryd.prog w = .ok (.agg cs) w := by
  have hp' : tmps[p]?.getD undef = .pointer (some ⟨g, 0, none⟩) := by simpa using hp
  simp [results, h, hp', asAddr, run_loadVar_row w g t ty cs fr (.array k el) hg hu rfl hi]
set_option maxHeartbeats 4000000 in
theorem folded_ok (d : Int) (a : Option Addr) (n c : Nat) (hn : n ≤ 1000) (l : List Int) (w : World) (hF : Flat w a n l) (hX : HX.Tabled w) :
    Calls Tryd.prog 74 #[.int .i64 d, .slice a n c] w fun e w' => e = .returned (.agg (CELLS (FLD d l n)).toArray) ∧ Below w.heap.size w w' := by
  have R0 : Aside (Below w.heap.size w (w.alloc (.cells ZARR 24)) ∧ Has (w.alloc (.cells ZARR 24)) w.heap.size (CELLS ZND).toArray 24) := ⟨(Below.refl _ _).alloc (Nat.le_refl _) _, by rw [ZARR_eq]; exact Has.new _ _ _⟩
  by_cases h0 : n = 0
  · subst h0
    have e : FLD d l 0 = ZND := rfl
    rw [e]
    clear hF hX hn e
    go_enter Tryd.func74, Tryd.ntmps74
    go_upto_region 2 with fail
    rw [show (#[.int .u8 0, .int .u8 0, .int .u8 0, .int .u8 0, .int .u8 0, .int .u8 0, .int .u8 0, .int .u8 0, .int .u8 0, .int .u8 0, .int .u8 0, .int .u8 0, .int .u8 0, .int .u8 0, .int .u8 0, .int .u8 0, .int .u8 0, .int .u8 0, .int .u8 0, .int .u8 0, .int .u8 0, .int .u8 0, .int .u8 0, .int .u8 0, .int .u8 0, .int .u8 0, .int .u8 0, .int .u8 0, .int .u8 0, .int .u8 0, .int .u8 0, .int .u8 0] : Array Value) = ZARR from rfl]
    generalize w.alloc (.cells ZARR 24) = W0 at *
    go_wp2_with (rw [show (#[.int .u8 0, .int .u8 0, .int .u8 0, .int .u8 0, .int .u8 0, .int .u8 0, .int .u8 0, .int .u8 0, .int .u8 0, .int .u8 0, .int .u8 0, .int .u8 0, .int .u8 0, .int .u8 0, .int .u8 0, .int .u8 0, .int .u8 0, .int .u8 0, .int .u8 0, .int .u8 0, .int .u8 0, .int .u8 0, .int .u8 0, .int .u8 0, .int .u8 0, .int .u8 0, .int .u8 0, .int .u8 0, .int .u8 0, .int .u8 0, .int .u8 0, .int .u8 0] : Array Value) = (CELLS ZND).toArray from rfl]; refine wpList_store_row rfl 24 (.tmp 4) (.tmp 11) rfl _ _ rfl rfl 24 _ R0.out.2 (info_arr rfl) rfl (cells_one ZND) ?_)
    refine bodyPost_ret (v := .agg (CELLS ZND).toArray) (results_one rfl _ _ w.heap.size 24 _ (0, 0) _ _ rfl (Has.row R0.out.2 _) Tryd.underlying24 (info_arr rfl)) rfl ⟨rfl, below_row R0.out.1 (Nat.le_refl _) _⟩
  · obtain ⟨m, hm⟩ : ∃ m, n = m + 1 := ⟨n - 1, by omega⟩
    obtain ⟨gn, o, rfl, hgn, hcn⟩ := hF.2.1 (by omega)
    have hz : ¬ (n : Int) = 0 := by omega
    have e1 : wrap64 ((n : Int) - 1) = (m : Int) := by unfold wrap64; omega
    have hml : (m : Int) < (n : Int) := by omega
    have hm0 : (0 : Int) ≤ (m : Int) := by omega
    have e : FLD d l n = FA d l n m := by unfold FLD; rw [if_neg h0, show n - 1 = m by omega]
    rw [e]
    have HA : Aside (n = m + 1 ∧ n ≤ 1000 ∧ Flat w (some ⟨gn, o, none⟩) n l ∧ HX.Tabled w ∧ gn < w.heap.size ∧ ∀ k, IsH (FA d l n k)) := ⟨hm, hn, hF, hX, hgn, FA_is hF.1 hF.2.2 (by omega)⟩
    clear hm hn hF hX hgn hcn h0 e
    go_enter Tryd.func74, Tryd.ntmps74
    go_upto_region 3 with fail
    rw [show (#[.int .u8 0, .int .u8 0, .int .u8 0, .int .u8 0, .int .u8 0, .int .u8 0, .int .u8 0, .int .u8 0, .int .u8 0, .int .u8 0, .int .u8 0, .int .u8 0, .int .u8 0, .int .u8 0, .int .u8 0, .int .u8 0, .int .u8 0, .int .u8 0, .int .u8 0, .int .u8 0, .int .u8 0, .int .u8 0, .int .u8 0, .int .u8 0, .int .u8 0, .int .u8 0, .int .u8 0, .int .u8 0, .int .u8 0, .int .u8 0, .int .u8 0, .int .u8 0] : Array Value) = ZARR from rfl]
    generalize w.alloc (.cells ZARR 24) = W0 at *
    have hat : W0.rangeAt gn (o + m * 32) (CELLS (FA d l n 0)) := by
      have h1 := (HA.out.2.2.1.below R0.out.1).at (show m < n by have := HA.out.1; omega)
      have h2 : FA d l n 0 = HSH l m := by have := HA.out.1; rw [FA, show n - 1 = m by omega]
      rw [h2]
      exact h1
    have h32 := (HA.out.2.2.2.2.2 0).1
    generalize hA0 : FA d l n 0 = A0 at *
    go_wp2_with (first
      | (refine wpList_load_mid rfl 24 (.tmp 17) rfl gn (o + m * 32) rfl (CELLS A0) _ hat Tryd.underlying24 rfl (info_cells h32) ?_)
      | (refine wpList_store_row rfl 24 (.tmp 6) (.tmp 18) rfl _ _ rfl rfl 24 _ (Has.new W0 _ _) (info_arr h32) (by simp [CELLS, h32]) (cells_one A0) ?_; rw [World.setRow_alloc_new]))
    have R1 : Aside (Below w.heap.size w (W0.alloc (.cells (CELLS A0).toArray 24)) ∧ Has (W0.alloc (.cells (CELLS A0).toArray 24)) w.heap.size (CELLS ZND).toArray 24 ∧ Has (W0.alloc (.cells (CELLS A0).toArray 24)) W0.heap.size (CELLS (FA d l n 0)).toArray 24 ∧ w.heap.size < W0.heap.size) := ⟨R0.out.1.alloc R0.out.1.size _, R0.out.2.alloc _, by rw [hA0]; exact Has.new _ _ _, R0.out.2.lt⟩
    clear hat h32 hA0 R0
    generalize W0.alloc (.cells (CELLS A0).toArray 24) = W1 at *
    generalize W0.heap.size = b6 at *
    clear W0
    have K : Aside (w.heap.size < b6) := R1.out.2.2.2
    have E0 : Aside (wrap64 ((m : Int) - 1) = (m : Int) - 1) := by have := HA.out.1; have := HA.out.2.1; show wrap64 ((m : Int) - 1) = (m : Int) - 1; unfold wrap64; omega
    go_loopg [7] m (fun q s7 wx => ∃ x : Int, s7 = .int .i64 x ∧ Aside (q ≤ m ∧ x = (q : Int) - 1 ∧ Below w.heap.size w wx ∧ Has wx w.heap.size (CELLS ZND).toArray 24 ∧ Has wx b6 (CELLS (FA d l n (m - q))).toArray 24))
    case atStart => exact ⟨_, rfl, Nat.le_refl _, E0.out, R1.out.1, R1.out.2.1, by rw [Nat.sub_self]; exact R1.out.2.2.1⟩
    case round =>
      obtain ⟨x, rfl, A⟩ := hrel
      clear R1 E0
      cases gk with
      | zero =>
        obtain rfl : x = -1 := by have := A.out.2.1; omega
        have y32 := (HA.out.2.2.2.2.2 m).1
        have hH4 := A.out.2.2.2.1
        have hH6 : Has wr b6 (CELLS (FA d l n m)).toArray 24 := A.out.2.2.2.2
        have hb := A.out.2.2.1
        clear A HA
        generalize hY0 : FA d l n m = Y at *
        go_wp2_with (first
          | (refine wpList_load_row rfl 24 (.tmp 6) rfl b6 rfl 24 (CELLS Y).toArray (0, 0) _ hH6 Tryd.underlying24 rfl (info_arr y32) ?_)
          | (refine wpList_store_row rfl 24 (.tmp 4) (.tmp 32) rfl _ _ rfl rfl 24 _ hH4 (info_arr y32) (by simp [CELLS, y32]; rfl) (cells_one Y) ?_))
        refine bodyPost_ret (v := .agg (CELLS Y).toArray) (results_one rfl _ _ w.heap.size 24 _ (0, 0) _ _ rfl (Has.row hH4 _) Tryd.underlying24 (info_arr y32)) rfl ⟨by rw [hY0], below_row hb (Nat.le_refl _) _⟩
      | succ q =>
        obtain rfl : x = (q : Int) := by have := A.out.2.1; omega
        have hq0 : (0 : Int) ≤ (q : Int) := by omega
        have hb := A.out.2.2.1
        obtain ⟨h1, h2, h3, h4, h5, h6⟩ := HA.out
        have hqm : q + 1 ≤ m := A.out.1
        have eY : FA d l n (m - q) = FOLDH d (HSH l q) (FA d l n (m - (q + 1))) := by
          rw [show m - q = (m - (q + 1)) + 1 by omega, FA, show n - 2 - (m - (q + 1)) = q by omega]
        have hL : IsH (HSH l q) := HSH_is h3.1 h3.2.2 (by omega)
        have hR := h6 (m - (q + 1))
        have hY := h6 (m - q)
        have hb1 : (q : Int) < (n : Int) := by omega
        have cF := foldh_ok d (HSH l q) (FA d l n (m - (q + 1))) hL hR wr.drew (h4.below hb.drew)
        have hLr := ((h3.below hb).at (show q < n by omega))
        have hE1 : Aside (wrap64 ((q : Int) - 1) = (q : Int) - 1) := by show wrap64 ((q : Int) - 1) = (q : Int) - 1; unfold wrap64; omega
        rw [← eY] at cF
        clear h1 h2 h3 h4 h5 h6 eY hb HA
        generalize FA d l n (m - (q + 1)) = R at *
        generalize HSH l q = L at *
        have hH6 := A.out.2.2.2.2
        go_upto_region 8 with fail
        refine folded_region _ _ _ _ _ _ _ _ _ _ _ _ _ _ _ _ _ _ _ _ _ _ _ _ _ _ _ _ _ wr b6 gn o n c q d L R (FA d l n (m - q)) hL.1 hR.1 hY.1 hb1 hLr (has_range hH6) (fun W => Below w.heap.size w W ∧ Has W w.heap.size (CELLS ZND).toArray 24) (cF.mono ?_) (fun _ _ _ _ _ h => h) ?_
        · rintro e w' ⟨rfl, hb⟩
          have hb' : Below wr.heap.size wr w' := (Below.refl _ wr).drew.trans hb
          exact ⟨_, rfl, rfl, hH6.keep hb', A.out.2.2.1.trans (hb'.mono A.out.2.2.1.size), A.out.2.2.2.1.keep hb'⟩
        · rintro X w' ⟨rfl, g1, g2, g3⟩
          dsimp only
          have Z : Aside (q ≤ m ∧ (q : Int) - 1 = (q : Int) - 1 ∧ Below w.heap.size w (w'.setRow b6 (CELLS (FA d l n (m - q))).toArray) ∧ Has (w'.setRow b6 (CELLS (FA d l n (m - q))).toArray) w.heap.size (CELLS ZND).toArray 24 ∧ Has (w'.setRow b6 (CELLS (FA d l n (m - q))).toArray) b6 (CELLS (FA d l n (m - q))).toArray 24) := ⟨by omega, rfl, below_row g2 (by have := K.out; omega) _, g3.row_other (by have := K.out; omega) _, g1.row _⟩
          clear cF hLr hL hR hY hb1 hq0 hqm A g1 g2 g3 hH6
          have e1 := hE1.out
          generalize w'.setRow b6 (CELLS (FA d l n (m - q))).toArray = w3 at *
          go_wp2
          go_roundg q
          case measure => exact Nat.lt_succ_self _
          case rel => exact ⟨_, rfl, Z.out.1, rfl, Z.out.2.2⟩
end Go.Proofs.YtccghfpnakkmaaaDoor

/- What Bag of package mmr answers where the number of peaks is another one. -/
namespace Go.Proofs.YtccghfpnakkmaaaDoor
open Go.RowKit
set_option maxRecDepth 100000

/-- what Bag answers: an error and a hash. -/
def BAGA (d : Int) (n k : Nat) (l : List Int) : Int × List Int :=
  if 4611686018427387904 < n then (30, ZND) else if k ≠ PC n then (70, ZND) else (0, ROOTH d n (FLD d l k))
theorem BAGA_is {d : Int} {n k : Nat} {l : List Int} : IsH (BAGA d n k l).2 := by
  unfold BAGA
  split
  · exact ZND_is
  · split
    · exact ZND_is
    · exact ROOTH_is _ _ _
theorem results_two {fn : Func} {p q : Tmp} {ty : TypeId} (h : fn.results = #[.cell p ty, .tmp q]) (tmps : Array Value) (w : World) (g : Nat) (t : TypeId) (cs : Array Value) (fr : Nat × Nat) (k : Nat) (el : TypeId) (v : Value)
    (hp : tmps.getD p undef = .pointer (some ⟨g, 0, none⟩)) (hv : tmps.getD q undef = v) (hg : w.heap[g]? = some (.cells cs t fr))
    (hu : Tryd.prog.underlying ty = some (.array k el)) (hi : (Tryd.prog.info? ty).map (·.size) = some cs.size) :
    (results fn tmps).run Tryd.prog w = .ok (.tuple #[.agg cs, v]) w := by
  have hp' : tmps[p]?.getD undef = .pointer (some ⟨g, 0, none⟩) := by simpa using hp
  have hv' : tmps[q]?.getD undef = v := by simpa using hv
  simp [results, h, hp', hv', asAddr, run_loadVar_row w g t ty cs fr (.array k el) hg hu rfl hi]
set_option maxHeartbeats 4000000 in
theorem bag_count (d : Int) (n : Nat) (hn : n < 2 ^ 64) (a : Option Addr) (k c : Nat) (w : World) (h1' : ¬ (4611686018427387904 : Int) < (n : Int)) (h2 : ¬ k = POP n) :
    Calls Tryd.prog 33 #[.int .i64 d, .int .u64 (n : Int), .slice a k c] w fun e w' => e = .returned (.tuple #[.agg (CELLS ZND).toArray, .int .i64 70]) ∧ Below w.heap.size w w' := by
  have R0 : Aside (Below w.heap.size w (w.alloc (.cells ZARR 24)) ∧ Has (w.alloc (.cells ZARR 24)) w.heap.size (CELLS ZND).toArray 24) := ⟨(Below.refl _ _).alloc (Nat.le_refl _) _, by rw [ZARR_eq]; exact Has.new _ _ _⟩
  have cO := onescount_ok n hn (w.alloc (.cells ZARR 24))
  generalize POP n = pp at *
  have e2 : ¬ (k : Int) = (pp : Int) := by omega
  clear hn
  go_enter Tryd.func33, Tryd.ntmps33
  go_upto_region 3 with fail
  rw [show (#[.int .u8 0, .int .u8 0, .int .u8 0, .int .u8 0, .int .u8 0, .int .u8 0, .int .u8 0, .int .u8 0, .int .u8 0, .int .u8 0, .int .u8 0, .int .u8 0, .int .u8 0, .int .u8 0, .int .u8 0, .int .u8 0, .int .u8 0, .int .u8 0, .int .u8 0, .int .u8 0, .int .u8 0, .int .u8 0, .int .u8 0, .int .u8 0, .int .u8 0, .int .u8 0, .int .u8 0, .int .u8 0, .int .u8 0, .int .u8 0, .int .u8 0, .int .u8 0] : Array Value) = ZARR from rfl]
  generalize w.alloc (.cells ZARR 24) = W0 at *
  go_wp2_with fail
  refine cO.mono ?_
  rintro e w1 ⟨rfl, rfl⟩
  clear cO
  go_upto_region 4 with fail
  go_wp2_with (rw [show (#[.int .u8 0, .int .u8 0, .int .u8 0, .int .u8 0, .int .u8 0, .int .u8 0, .int .u8 0, .int .u8 0, .int .u8 0, .int .u8 0, .int .u8 0, .int .u8 0, .int .u8 0, .int .u8 0, .int .u8 0, .int .u8 0, .int .u8 0, .int .u8 0, .int .u8 0, .int .u8 0, .int .u8 0, .int .u8 0, .int .u8 0, .int .u8 0, .int .u8 0, .int .u8 0, .int .u8 0, .int .u8 0, .int .u8 0, .int .u8 0, .int .u8 0, .int .u8 0] : Array Value) = (CELLS ZND).toArray from rfl]; refine wpList_store_row rfl 24 (.tmp 6) (.tmp 16) rfl _ _ rfl rfl 24 _ R0.out.2 (info_arr rfl) rfl (cells_one ZND) ?_)
  refine bodyPost_ret (v := .tuple #[.agg (CELLS ZND).toArray, .int .i64 70]) (results_two rfl _ _ w.heap.size 24 _ (0, 0) _ _ _ rfl rfl (Has.row R0.out.2 _) Tryd.underlying24 (info_arr rfl)) rfl ⟨rfl, below_row R0.out.1 (Nat.le_refl _) _⟩
end Go.Proofs.YtccghfpnakkmaaaDoor

/- What Bag of package mmr and under of package verify answer. -/
namespace Go.Proofs.YtccghfpnakkmaaaDoor
open Go.RowKit
set_option maxRecDepth 100000

set_option maxHeartbeats 4000000 in
theorem bag_ok (d : Int) (n : Nat) (hn : n < 2 ^ 64) (a : Option Addr) (k c : Nat) (l : List Int) (w : World) (hF : Flat w a k l) (hX : HX.Tabled w) :
    Calls Tryd.prog 33 #[.int .i64 d, .int .u64 (n : Int), .slice a k c] w fun e w' => e = .returned (.tuple #[.agg (CELLS (BAGA d n k l).2).toArray, .int .i64 (BAGA d n k l).1]) ∧ Below w.heap.size w w' := by
  have R0 : Aside (Below w.heap.size w (w.alloc (.cells ZARR 24)) ∧ Has (w.alloc (.cells ZARR 24)) w.heap.size (CELLS ZND).toArray 24) := ⟨(Below.refl _ _).alloc (Nat.le_refl _) _, by rw [ZARR_eq]; exact Has.new _ _ _⟩
  have HA : Aside (Flat w a k l ∧ HX.Tabled w ∧ n < 2 ^ 64) := ⟨hF, hX, hn⟩
  clear hF hX
  by_cases h1 : 4611686018427387904 < n
  · have e : BAGA d n k l = (30, ZND) := if_pos h1
    rw [e]
    have h1' : (4611686018427387904 : Int) < (n : Int) := by omega
    clear e HA hn
    go_enter Tryd.func33, Tryd.ntmps33
    go_upto_region 2 with fail
    rw [show (#[.int .u8 0, .int .u8 0, .int .u8 0, .int .u8 0, .int .u8 0, .int .u8 0, .int .u8 0, .int .u8 0, .int .u8 0, .int .u8 0, .int .u8 0, .int .u8 0, .int .u8 0, .int .u8 0, .int .u8 0, .int .u8 0, .int .u8 0, .int .u8 0, .int .u8 0, .int .u8 0, .int .u8 0, .int .u8 0, .int .u8 0, .int .u8 0, .int .u8 0, .int .u8 0, .int .u8 0, .int .u8 0, .int .u8 0, .int .u8 0, .int .u8 0, .int .u8 0] : Array Value) = ZARR from rfl]
    generalize w.alloc (.cells ZARR 24) = W0 at *
    go_wp2_with (rw [show (#[.int .u8 0, .int .u8 0, .int .u8 0, .int .u8 0, .int .u8 0, .int .u8 0, .int .u8 0, .int .u8 0, .int .u8 0, .int .u8 0, .int .u8 0, .int .u8 0, .int .u8 0, .int .u8 0, .int .u8 0, .int .u8 0, .int .u8 0, .int .u8 0, .int .u8 0, .int .u8 0, .int .u8 0, .int .u8 0, .int .u8 0, .int .u8 0, .int .u8 0, .int .u8 0, .int .u8 0, .int .u8 0, .int .u8 0, .int .u8 0, .int .u8 0, .int .u8 0] : Array Value) = (CELLS ZND).toArray from rfl]; refine wpList_store_row rfl 24 (.tmp 6) (.tmp 10) rfl _ _ rfl rfl 24 _ R0.out.2 (info_arr rfl) rfl (cells_one ZND) ?_)
    refine bodyPost_ret (v := .tuple #[.agg (CELLS ZND).toArray, .int .i64 30]) (results_two rfl _ _ w.heap.size 24 _ (0, 0) _ _ _ rfl rfl (Has.row R0.out.2 _) Tryd.underlying24 (info_arr rfl)) rfl ⟨rfl, below_row R0.out.1 (Nat.le_refl _) _⟩
  have h1' : ¬ (4611686018427387904 : Int) < (n : Int) := by omega
  have hpop := POP_PC hn
  by_cases h2 : k = PC n
  · have e : BAGA d n k l = (0, ROOTH d n (FLD d l k)) := by unfold BAGA; rw [if_neg h1, if_neg (by simpa using h2)]
    rw [e]
    have hk : Aside (k ≤ 64) := by have := PC_lt_pow 64 n hn; show k ≤ 64; omega
    have e2 : (k : Int) = ((POP n : Nat) : Int) := by rw [hpop, h2]
    clear e h2 hpop h1
    go_enter Tryd.func33, Tryd.ntmps33
    go_upto_region 3 with fail
    rw [show (#[.int .u8 0, .int .u8 0, .int .u8 0, .int .u8 0, .int .u8 0, .int .u8 0, .int .u8 0, .int .u8 0, .int .u8 0, .int .u8 0, .int .u8 0, .int .u8 0, .int .u8 0, .int .u8 0, .int .u8 0, .int .u8 0, .int .u8 0, .int .u8 0, .int .u8 0, .int .u8 0, .int .u8 0, .int .u8 0, .int .u8 0, .int .u8 0, .int .u8 0, .int .u8 0, .int .u8 0, .int .u8 0, .int .u8 0, .int .u8 0, .int .u8 0, .int .u8 0] : Array Value) = ZARR from rfl]
    generalize w.alloc (.cells ZARR 24) = W0 at *
    go_wp2_with fail
    refine (onescount_ok n hn W0).mono ?_
    rintro e w1 ⟨rfl, rfl⟩
    go_wp2_with fail
    refine (folded_ok d a k c (by have := hk.out; omega) l W0 (HA.out.1.below R0.out.1) (HA.out.2.1.below R0.out.1)).mono ?_
    rintro e w1 ⟨rfl, hb⟩
    have R1 : Aside (Below w.heap.size w w1 ∧ Has w1 w.heap.size (CELLS ZND).toArray 24) := ⟨R0.out.1.trans (hb.mono R0.out.1.size), R0.out.2.keep hb⟩
    clear hb R0
    have hI := FLD_is (d := d) HA.out.1.1 HA.out.1.2.2
    go_wp2_with fail
    refine (rooth_ok d n hn (FLD d l k) hI w1 (HA.out.2.1.below R1.out.1)).mono ?_
    rintro e w2 ⟨rfl, hb⟩
    have R2 : Aside (Below w.heap.size w w2 ∧ Has w2 w.heap.size (CELLS ZND).toArray 24) := ⟨R1.out.1.trans (hb.mono R1.out.1.size), R1.out.2.keep hb⟩
    clear hb R1 hI
    have y32 := (ROOTH_is d n (FLD d l k)).1
    generalize hY : ROOTH d n (FLD d l k) = Y at *
    go_wp2_with (refine wpList_store_row rfl 24 (.tmp 6) (.tmp 22) rfl _ _ rfl rfl 24 _ R2.out.2 (info_arr y32) (by simp [CELLS, y32]; rfl) (cells_one Y) ?_)
    refine bodyPost_ret (v := .tuple #[.agg (CELLS Y).toArray, .int .i64 0]) (results_two rfl _ _ w.heap.size 24 _ (0, 0) _ _ _ rfl rfl (Has.row R2.out.2 _) Tryd.underlying24 (info_arr y32)) rfl ⟨by rw [hY], below_row R2.out.1 (Nat.le_refl _) _⟩
  · have e : BAGA d n k l = (70, ZND) := by unfold BAGA; rw [if_neg h1, if_pos h2]
    rw [e]
    exact bag_count d n hn a k c w h1' (by rw [hpop]; exact h2)
end Go.Proofs.YtccghfpnakkmaaaDoor
