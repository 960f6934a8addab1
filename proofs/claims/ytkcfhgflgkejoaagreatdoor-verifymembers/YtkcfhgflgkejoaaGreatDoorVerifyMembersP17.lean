/- Texts of VerifyMembers, one behind the other: VerifyClimb, VerifyRefPlain, StepLists. -/
import Derived.Deep.AppendLies
import Derived.Test.YtkcfhgflgkejoaaGreatDoorVerifyMembersP4
import Derived.Test.YtkcfhgflgkejoaaGreatDoorVerifyMembersP8
import Derived.Test.YtkcfhgflgkejoaaGreatDoorVerifyMembersP16
/- What Climb of package verify answers. -/
namespace Go.Proofs.YtkcfhgflgkejoaaGreatDoor
open Go.RowKit
set_option maxRecDepth 100000

/-- the way of the leaf I, t steps up. -/
def JN (d : Int) (I : Nat) (M : Nat → Nat → List Int) : Nat → Nat → Nat → List Int
  | 0 => M
  | t + 1 => MPUT (JN d I M t) (t + 1) (I / 2 ^ (t + 1)) (NODEH d (JN d I M t t (2 * (I / 2 ^ (t + 1)))) (JN d I M t t (2 * (I / 2 ^ (t + 1)) + 1)))
/-- what is known when the way is climbed. -/
def CLM (d : Int) (leaf : List Int) (S I : Nat) (l : List Int) : Nat → Nat → List Int := JN d I (MPUT (HAND (PSP I S) l (PSP I S).length) 0 I leaf) (RISE I S)
/-- what Climb answers: the error, how many peaks, their hashes. -/
def CLA (d : Int) (leaf : List Int) (S I n : Nat) (l : List Int) : Int × Nat × List Int := if (PLA I S).1 ≠ 0 then ((PLA I S).1, 0, []) else if n ≠ (PLA I S).2.length then (70, 0, []) else (0, PC S, CAT (CLM d leaf S I l) (SPAN 0 S))
theorem ZND_is : IsH ZND := ⟨rfl, fun x hx => by
  have : x = 0 := by simpa [ZND] using hx
  omega⟩
theorem MPUT_is {M : Nat → Nat → List Int} (h : ∀ a b, IsH (M a b)) {x : List Int} (hx : IsH x) (p q a b : Nat) : IsH (MPUT M p q x a b) := by
  unfold MPUT
  split
  · exact hx
  · exact h a b
theorem HSH_is {l : List Int} {n i : Nat} (hl : l.length = 32 * n) (hr : ∀ x ∈ l, 0 ≤ x ∧ x ≤ 255) (hi : i < n) : IsH (HSH l i) := ⟨HSH_length hl hi, fun x hx => hr x (HSH_mem hx)⟩
theorem HAND_is {ss : List (Nat × Nat)} {l : List Int} {n : Nat} (hl : l.length = 32 * n) (hr : ∀ x ∈ l, 0 ≤ x ∧ x ≤ 255) : ∀ i, i ≤ n → ∀ a b, IsH (HAND ss l i a b)
  | 0, _, _, _ => ZND_is
  | i + 1, h, a, b => MPUT_is (HAND_is hl hr i (by omega)) (HSH_is hl hr (by omega)) _ _ a b
theorem JN_is {d : Int} {I : Nat} {M : Nat → Nat → List Int} (h : ∀ a b, IsH (M a b)) : ∀ t a b, IsH (JN d I M t a b)
  | 0, a, b => h a b
  | t + 1, a, b => MPUT_is (JN_is h t) (NODEH_is _ _ _) _ _ a b
set_option maxHeartbeats 4000000 in
theorem climb_core (d : Int) (leaf : List Int) (hleaf : IsH leaf) (S I : Nat) (hIS : I < S) (hS : S ≤ 4611686018427387904) (a : Option Addr) (n c : Nat) (hn : n = (PSP I S).length) (l : List Int) (w : World) (hF : Flat w a n l) (hT : Tabled w) (hX : HX.Tabled w) (h0 : 2 < w.heap.size) :
    Calls Tryz.prog 24 #[.int .i64 d, .agg (CELLS leaf).toArray, .agg #[.int .u64 (S : Int), .int .u64 (I : Int), .slice a n c]] w fun e w' => ∃ a c, e = .returned (.tuple #[.slice a (PC S) c, .int .i64 0]) ∧ w'.ownsRow w.heap.size 23 32 (.slice a (PC S) c) (PC S) (CELLS (CAT (CLM d leaf S I l) (SPAN 0 S))) ∧ Below w.heap.size w w' := by
  have l32 := hleaf.1
  have HA : Aside (IsH leaf ∧ I < S ∧ S ≤ 4611686018427387904 ∧ n = (PSP I S).length ∧ Flat w a n l ∧ Tabled w ∧ HX.Tabled w ∧ 2 < w.heap.size) := ⟨hleaf, hIS, hS, hn, hF, hT, hX, h0⟩
  clear hleaf hIS hS hn hF hT hX h0
  go_enter Tryz.func24, Tryz.ntmps24
  go_upto_region 1 with fail
  obtain ⟨b4, hb4⟩ : ∃ b4, b4 = w.heap.size := ⟨_, rfl⟩
  have R0 : Aside (Below w.heap.size w ((w.alloc (.cells (CELLS leaf).toArray 23)).alloc (.cells #[.int .u64 (S : Int), .int .u64 (I : Int), .slice a n c] 46)) ∧ Has ((w.alloc (.cells (CELLS leaf).toArray 23)).alloc (.cells #[.int .u64 (S : Int), .int .u64 (I : Int), .slice a n c] 46)) b4 (CELLS leaf).toArray 23 ∧ Has ((w.alloc (.cells (CELLS leaf).toArray 23)).alloc (.cells #[.int .u64 (S : Int), .int .u64 (I : Int), .slice a n c] 46)) (b4 + 1) #[.int .u64 (S : Int), .int .u64 (I : Int), .slice a n c] 46) := by
    rw [hb4]
    exact ⟨((Below.refl _ _).alloc (Nat.le_refl _) _).alloc (by simp) _, (Has.new _ _ _).alloc _, Has.at _ _ _ (by simp)⟩
  rw [← hb4]
  generalize (w.alloc (.cells (CELLS leaf).toArray 23)).alloc (.cells #[.int .u64 (S : Int), .int .u64 (I : Int), .slice a n c] 46) = W0 at *
  have HT : Aside (∀ W, Below w.heap.size w W → Tabled W ∧ HX.Tabled W ∧ 0 < W.heap.size ∧ Flat W a n l ∧ 2 < W.heap.size) := fun W h => by
    obtain ⟨a1, a2, a3, a4, a5, a6, a7, a8⟩ := HA.out
    have hs := h.size
    exact ⟨a6.below (by omega) h, a7.below h, by omega, a5.below h, by omega⟩
  have HB : Aside (b4 = w.heap.size) := hb4
  clear hb4
  have hPL : PLA I S = (0, PLCS (PSP I S)) := by
    obtain ⟨a1, a2, a3, a4, a5, a6, a7, a8⟩ := HA.out
    unfold PLA
    rw [if_neg (by omega), if_neg (by omega)]
  have y0 : W0.cell? ⟨b4 + 1, 0, none⟩ = some (.int .u64 (S : Int)) := R0.out.2.2.cell 0
  have y1 : W0.cell? ⟨b4 + 1, 1, none⟩ = some (.int .u64 (I : Int)) := R0.out.2.2.cell 1
  go_wp2_with fail
  have cP := pla_ok I S W0 (HT.out _ R0.out.1).1 (HT.out _ R0.out.1).2.2.1
  rw [hPL] at cP
  refine cP.mono ?_
  clear cP y0 y1 hPL
  rintro e w1 ⟨v, rfl, hrow, hb⟩
  dsimp only at *
  have hnl : (PLCS (PSP I S)).length = n := by have := HA.out.2.2.2.1; rw [PLCS_length, this]
  rw [hnl] at hrow
  obtain ⟨av, cv, rfl, -⟩ := own_slice hrow
  have R1 : Aside (Below w.heap.size w w1 ∧ Has w1 b4 (CELLS leaf).toArray 23 ∧ Has w1 (b4 + 1) #[.int .u64 (S : Int), .int .u64 (I : Int), .slice a n c] 46 ∧ w1.ownsRow W0.heap.size 24 1 (.slice av n cv) n (UCELLS (PLCS (PSP I S)))) := ⟨R0.out.1.trans (hb.mono R0.out.1.size), R0.out.2.1.keep hb, R0.out.2.2.keep hb, hrow⟩
  clear hrow hb R0 hnl
  have y2 : w1.cell? ⟨b4 + 1, 2, none⟩ = some (.slice a n c) := R1.out.2.2.1.cell 2
  go_wp2_with fail
  have hfew : n ≤ 126 := by obtain ⟨a1, a2, a3, a4, _⟩ := HA.out; have := PSP_few a2 a3; omega
  have hnd : ∀ s ∈ PSP I S, Node s.1 s.2 := by
    obtain ⟨a1, a2, a3, a4, _⟩ := HA.out
    exact fun s hs => ((PSP_spec a2 a3).1 s hs).1
  refine (handed_ok (PSP I S) hnd W0.heap.size n HA.out.2.2.2.1.symm (by omega) (.slice av n cv) a c l w1 R1.out.2.2.2 (HT.out _ R1.out.1).2.2.2.1).mono ?_
  clear y2 hnd
  rintro e w2 ⟨mb, rfl, hM, hmb, hb⟩
  obtain ⟨M1, hM1⟩ : ∃ M1, M1 = MPUT (HAND (PSP I S) l n) 0 I leaf := ⟨_, rfl⟩
  have hIsM : ∀ p q, IsH (M1 p q) := by
    rw [hM1]
    have hF := (HT.out _ R1.out.1).2.2.2.1
    exact MPUT_is (HAND_is hF.1 hF.2.2 n (Nat.le_refl _)) HA.out.1 0 I
  obtain ⟨w3, st1, st2, st3⟩ := hM.store (h := 0) (k := I) (by omega) (by decide) (by have := HA.out; omega) leaf
  rw [← hM1] at st2
  have st1 : (Instr.mapUpdate 69 (.map (some mb)) (.agg #[.int .u8 0, .int .u64 (I : Int)]) (.agg (CELLS leaf).toArray)).run Tryz.prog w2 = .ok () w3 := st1
  have R2 : Aside (Below w.heap.size w w2 ∧ Has w2 b4 (CELLS leaf).toArray 23 ∧ Has w2 (b4 + 1) #[.int .u64 (S : Int), .int .u64 (I : Int), .slice a n c] 46 ∧ b4 + 1 < mb) := ⟨R1.out.1.trans (hb.mono R1.out.1.size), R1.out.2.1.keep hb, R1.out.2.2.1.keep hb, by have := R1.out.2.2.1.lt; omega⟩
  have R3 : Aside (Below w.heap.size w w3 ∧ Has w3 (b4 + 1) #[.int .u64 (S : Int), .int .u64 (I : Int), .slice a n c] 46 ∧ SMAP w3 mb (n + 1) M1 ∧ (∀ p q, IsH (M1 p q)) ∧ b4 + 1 < mb ∧ M1 = MPUT (HAND (PSP I S) l n) 0 I leaf) := ⟨R2.out.1.grown st3 R2.out.1.size (fun k e => by cases e; have := R2.out.2.2.2; have := HB.out; omega), R2.out.2.2.1.grown st3 (by have := R2.out.2.2.2; simp; omega), st2, hIsM, R2.out.2.2.2, hM1⟩
  have y1 : w2.cell? ⟨b4 + 1, 1, none⟩ = some (.int .u64 (I : Int)) := R2.out.2.2.1.cell 1
  have hH4 := R2.out.2.1
  have z0 : w3.cell? ⟨b4 + 1, 0, none⟩ = some (.int .u64 (S : Int)) := R3.out.2.1.cell 0
  have z1 : w3.cell? ⟨b4 + 1, 1, none⟩ = some (.int .u64 (I : Int)) := R3.out.2.1.cell 1
  clear hM hmb hb R1 hM1 hIsM st2 st3 R2
  go_wp2_with (refine wpList_load_row rfl 23 (.tmp 4) rfl b4 rfl 23 (CELLS leaf).toArray (0, 0) _ hH4 Tryz.underlying23 rfl (info_arr l32) ?_)
  refine (path_ok I S HA.out.2.1 HA.out.2.2.1 w3).mono ?_
  clear st1 y1 hH4 z0 z1
  rintro e w4 ⟨gp, cp, rfl, hrow, hg, hb⟩
  have hrise : RISE I S ≤ 62 := (RISE_spec HA.out.2.1 HA.out.2.2.1).2.1
  obtain ⟨T, hTT⟩ : ∃ T, RISE I S = T := ⟨_, rfl⟩
  rw [hTT] at hrise ⊢
  have R4 : Aside (Below w.heap.size w w4 ∧ Has w4 (b4 + 1) #[.int .u64 (S : Int), .int .u64 (I : Int), .slice a n c] 46 ∧ SMAP w4 mb (n + 1 + 0) (JN d I M1 0)) := ⟨R3.out.1.trans (hb.mono R3.out.1.size), R3.out.2.1.keep hb, R3.out.2.2.1.below hb⟩
  have KK : Aside ((∀ p q, IsH (M1 p q)) ∧ b4 + 1 < mb ∧ M1 = MPUT (HAND (PSP I S) l n) 0 I leaf ∧ RISE I S = T ∧ T ≤ 62 ∧ n ≤ 126 ∧ 2 < mb) := ⟨R3.out.2.2.2.1, R3.out.2.2.2.2.1, R3.out.2.2.2.2.2, hTT, hrise, hfew, by have h1 := HA.out; have h2 := HB.out; have h3 := R3.out.2.2.2.2.1; omega⟩
  clear hrow hg hb R3 hfew hTT hrise
  go_wp2_with fail
  go_loopg [51] T (fun q s51 wx => ∃ t : Nat, s51 = .int .i64 (t : Int) ∧ Aside (t + q = T ∧ Below w.heap.size w wx ∧ Has wx (b4 + 1) #[.int .u64 (S : Int), .int .u64 (I : Int), .slice a n c] 46 ∧ SMAP wx mb (n + 1 + t) (JN d I M1 t)))
  case atStart => exact ⟨0, rfl, by omega, R4.out⟩
  case round =>
    obtain ⟨t, rfl, A⟩ := hrel
    clear R4
    cases gk with
    | zero =>
      obtain rfl : t = T := by have := A.out.1; omega
      have hlt : ¬ (t : Int) < (t : Int) := by omega
      have z0 : wr.cell? ⟨b4 + 1, 0, none⟩ = some (.int .u64 (S : Int)) := A.out.2.2.1.cell 0
      go_wp2_with fail
      have hH := HT.out _ A.out.2.1
      have hIs : ∀ p q, IsH (JN d I M1 t p q) := JN_is KK.out.1 t
      refine (cpeaks_ok mb (n + 1 + t) S HA.out.2.2.1 (JN d I M1 t) wr A.out.2.2.2 (fun s _ => (hIs s.1 s.2).1) hH.1 hH.2.2.1).mono ?_
      rintro e w5 ⟨a5, c5, rfl, hrow, hb⟩
      have hC : JN d I M1 t = CLM d leaf S I l := by
        unfold CLM
        rw [KK.out.2.2.1, KK.out.2.2.2.1, HA.out.2.2.2.1]
      rw [hC] at hrow
      have Z : Aside (w5.ownsRow w.heap.size 23 32 (.slice a5 (PC S) c5) (PC S) (CELLS (CAT (CLM d leaf S I l) (SPAN 0 S))) ∧ Below w.heap.size w w5) := ⟨own_mono hrow A.out.2.1.size, A.out.2.1.trans (hb.mono A.out.2.1.size)⟩
      clear hrow hb hH hIs hC A KK HT HA
      go_wp2
      go_ret2
      exact ⟨a5, c5, rfl, Z.out⟩
    | succ q =>
      have hlt : (t : Int) < (T : Int) := by have := A.out.1; omega
      have z1 : wr.cell? ⟨b4 + 1, 1, none⟩ = some (.int .u64 (I : Int)) := A.out.2.2.1.cell 1
      obtain ⟨t1, ht1⟩ : ∃ t1, t + 1 = t1 := ⟨_, rfl⟩
      have e1 : wrap64 ((t : Int) + 1) = (t1 : Int) := by have := KK.out; unfold wrap64; omega
      have e8 : IntKind.u8.wrap (t1 : Int) = (t1 : Int) := by have := KK.out; simp [IntKind.wrap, IntKind.bits, IntKind.signed]; omega
      go_wp2_with fail
      have esh : (I : Int) / 2 ^ min t1 64 = ((I / 2 ^ t1 : Nat) : Int) := by
        rw [Nat.min_eq_left (by have := KK.out; omega)]
        simp [Int.natCast_ediv]
      rw [esh]
      have hI61 : 2 * (I / 2 ^ t1) + 1 < 2 ^ 64 := by
        have h1 : I / 2 ^ t1 ≤ I := Nat.div_le_self _ _
        have := HA.out
        omega
      have hH := HT.out _ A.out.2.1
      have hIs : ∀ p q, IsH (JN d I M1 t p q) := JN_is KK.out.1 t
      refine (join_ok mb (n + 1 + t) t1 t (I / 2 ^ t1) d (JN d I M1 t) ht1.symm (by have := KK.out; omega) hI61 (by have := KK.out; omega) wr A.out.2.2.2 (hIs _ _) (hIs _ _) hH.2.1 KK.out.2.2.2.2.2.2).mono ?_
      clear hH hIs hI61 esh
      rintro e w5 ⟨rfl, hM, hg⟩
      have Z : Aside (t + 1 + q = T ∧ Below w.heap.size w w5 ∧ Has w5 (b4 + 1) #[.int .u64 (S : Int), .int .u64 (I : Int), .slice a n c] 46 ∧ SMAP w5 mb (n + 1 + (t + 1)) (JN d I M1 (t + 1))) := by
        obtain ⟨a1, a2, a3, a4⟩ := A.out
        have hmb := KK.out.2.1
        have hb4 := HB.out
        refine ⟨by omega, a2.grown hg a2.size (fun k e => by cases e; omega), a3.grown hg (by simp; omega), ?_⟩
        rw [← ht1] at hM
        exact hM
      have E1 : Aside (wrap64 ((t : Int) + 1) = ((t + 1 : Nat) : Int)) := by have := KK.out; show wrap64 ((t : Int) + 1) = ((t + 1 : Nat) : Int); unfold wrap64; omega
      clear hM hg A z1 e1 e8
      have e1 := E1.out
      go_wp2
      go_roundg q
      case measure => exact Nat.lt_succ_self _
      case rel => exact ⟨t + 1, by first | rfl | (rw [E1.out]), Z.out⟩
/-- hashes of one's own are answered, and an error. -/
def ANSH (w : World) (A : Int × Nat × List Int) (e : Ending) (w' : World) : Prop := ∃ a c, e = .returned (.tuple #[.slice a A.2.1 c, .int .i64 A.1]) ∧ w'.ownsRow w.heap.size 23 32 (.slice a A.2.1 c) A.2.1 (CELLS A.2.2) ∧ Below w.heap.size w w'
set_option maxHeartbeats 2000000 in
theorem climb_ok (d : Int) (leaf : List Int) (hleaf : IsH leaf) (S I : Nat) (a : Option Addr) (n c : Nat) (l : List Int) (w : World) (hF : Flat w a n l) (hT : Tabled w) (hX : HX.Tabled w) (h0 : 2 < w.heap.size) :
    Calls Tryz.prog 24 #[.int .i64 d, .agg (CELLS leaf).toArray, .agg #[.int .u64 (S : Int), .int .u64 (I : Int), .slice a n c]] w (ANSH w (CLA d leaf S I n l)) := by
  unfold CLA
  by_cases hE : (PLA I S).1 = 0
  · rw [if_neg (by simpa using hE)]
    have hIS : I < S ∧ S ≤ 4611686018427387904 := by
      unfold PLA at hE
      split at hE
      · simp at hE
      · split at hE
        · simp at hE
        · omega
    have hPL : PLA I S = (0, PLCS (PSP I S)) := by
      unfold PLA
      rw [if_neg (by omega), if_neg (by omega)]
    have hlen : (PLA I S).2.length = (PSP I S).length := by rw [hPL]; exact PLCS_length _
    by_cases hn : n = (PLA I S).2.length
    · rw [if_neg (by simpa using hn)]
      exact climb_core d leaf hleaf S I hIS.1 hIS.2 a n c (by omega) l w hF hT hX h0
    · rw [if_pos hn]
      have HB : Aside (Below w.heap.size w ((w.alloc (.cells (CELLS leaf).toArray 23)).alloc (.cells #[.int .u64 (S : Int), .int .u64 (I : Int), .slice a n c] 46))) := ((Below.refl _ _).alloc (Nat.le_refl _) _).alloc (by simp) _
      have hH : Has ((w.alloc (.cells (CELLS leaf).toArray 23)).alloc (.cells #[.int .u64 (S : Int), .int .u64 (I : Int), .slice a n c] 46)) (w.heap.size + 1) #[.int .u64 (S : Int), .int .u64 (I : Int), .slice a n c] 46 := Has.at _ _ _ (by simp)
      have cP := pla_ok I S _ (hT.below (by omega) HB.out) (Nat.lt_of_lt_of_le (by omega) HB.out.size)
      rw [hPL] at cP hn
      obtain ⟨N, hN⟩ : ∃ N, (PLCS (PSP I S)).length = N := ⟨_, rfl⟩
      dsimp only at cP hn
      rw [hN] at cP hn
      have HN : Aside (n ≠ N) := hn
      obtain ⟨b5, hb5⟩ : ∃ b5, b5 = w.heap.size + 1 := ⟨_, rfl⟩
      rw [← hb5] at hH
      have HH : Aside (Has ((w.alloc (.cells (CELLS leaf).toArray 23)).alloc (.cells #[.int .u64 (S : Int), .int .u64 (I : Int), .slice a n c] 46)) b5 #[.int .u64 (S : Int), .int .u64 (I : Int), .slice a n c] 46) := hH
      clear hT hX h0 hE hIS hPL hlen hn hN hF hleaf hH
      go_enter Tryz.func24, Tryz.ntmps24
      go_wp2_with fail
      rw [← hb5]
      clear hb5
      refine cP.mono ?_
      rintro e w1 ⟨v, rfl, hrow, hb⟩
      have hv : ∃ a' c', v = .slice a' N c' := by
        obtain ⟨av, cv, e, -⟩ := own_slice hrow
        exact ⟨av, cv, e⟩
      have y2 : w1.cell? ⟨b5, 2, none⟩ = some (.slice a n c) := (HH.out.keep hb).cell 2
      have R : Aside (Below w.heap.size w w1) := HB.out.trans (hb.mono HB.out.size)
      clear hrow hb cP HB HH
      obtain ⟨a', c', rfl⟩ := hv
      go_wp2_with fail
      refine (handed_not (.slice a' N c') N ⟨a', c', rfl⟩ a n c HN.out w1).mono ?_
      rintro e w2 ⟨rfl, rfl⟩
      clear y2
      go_wp2
      go_ret2
      exact ⟨none, 0, rfl, World.ownsRow_nil _ _ _ _, R.out⟩
  · rw [if_pos hE]
    have HB : Aside (Below w.heap.size w ((w.alloc (.cells (CELLS leaf).toArray 23)).alloc (.cells #[.int .u64 (S : Int), .int .u64 (I : Int), .slice a n c] 46))) := ((Below.refl _ _).alloc (Nat.le_refl _) _).alloc (by simp) _
    have cP := pla_ok I S _ (hT.below (by omega) HB.out) (Nat.lt_of_lt_of_le (by omega) HB.out.size)
    obtain ⟨E, hEe⟩ : ∃ E, (PLA I S).1 = E := ⟨_, rfl⟩
    rw [hEe] at cP hE ⊢
    have hne : ((E : Int) != 0) = true := by simp [hE]
    clear hT hX h0 hE hEe hF hleaf
    go_enter Tryz.func24, Tryz.ntmps24
    go_wp2_with fail
    refine cP.mono ?_
    rintro e w1 ⟨v, rfl, hrow, hb⟩
    have R : Aside (Below w.heap.size w w1) := HB.out.trans (hb.mono HB.out.size)
    clear hrow hb cP HB
    go_wp2
    go_ret2
    exact ⟨none, 0, rfl, World.ownsRow_nil _ _ _ _, R.out⟩
end Go.Proofs.YtkcfhgflgkejoaaGreatDoor

/- The peaks that the document's Climb tells are those of the map: the way by halves, the nodes in their order. -/
namespace Go.Proofs.YtkcfhgflgkejoaaGreatDoor
set_option maxRecDepth 100000

/-- the hash that is held behind t steps of the way up. -/
def WAYH (d : Int) (leaf : List Int) (I : Nat) (l : List Int) : Nat → List Int
  | 0 => leaf
  | t + 1 => if I / 2 ^ t % 2 = 0 then NODEH d (WAYH d leaf I l t) (HSH l t) else NODEH d (HSH l t) (WAYH d leaf I l t)
theorem HAND_at {ss : List (Nat × Nat)} {l : List Int} (hp : ss.Pairwise Off) {t h k : Nat} (ht : ss[t]? = some (h, k)) : ∀ N, t < N → N ≤ ss.length → HAND ss l N h k = HSH l t
  | 0, h0, _ => by omega
  | N + 1, h1, h2 => by
    rw [HAND]
    by_cases e : t = N
    · subst e
      rw [show ss.getD t (0, 0) = (h, k) by rw [List.getD_eq_getElem?_getD, ht]; rfl]
      exact MPUT_at _ _ _ _
    · have hlt : t < N := by omega
      obtain ⟨s, hs⟩ : ∃ s, ss[N]? = some s := ⟨_, List.getElem?_eq_getElem (by omega)⟩
      have ho := Pairwise.at_lt hp hlt ht hs
      rw [show ss.getD N (0, 0) = s by rw [List.getD_eq_getElem?_getD, hs]; rfl]
      rw [MPUT_other]
      · exact HAND_at hp ht N hlt (by omega)
      · rintro ⟨e1, e2⟩
        obtain ⟨a, b⟩ := s
        dsimp only at e1 e2
        subst e1 e2
        have := Nat.two_pow_pos h
        unfold Off at ho
        dsimp only at ho
        rw [Nat.add_mul] at ho
        omega
theorem JN_other {d : Int} {I : Nat} {M : Nat → Nat → List Int} {h k : Nat} (hk : k ≠ I / 2 ^ h) : ∀ t, JN d I M t h k = M h k
  | 0 => rfl
  | t + 1 => by
    rw [JN, MPUT_other]
    · exact JN_other hk t
    · rintro ⟨e1, e2⟩
      subst e1
      exact hk e2
theorem PSP_way {i n t : Nat} (ht : t < RISE i n) : (PSP i n)[t]? = some (t, SIB (i / 2 ^ t)) := by
  unfold PSP
  rw [List.getElem?_append_left (by rw [WAYS_length]; exact ht)]
  simp [WAYS, ht]
theorem PSP_peak {i n j : Nat} (hj : j ≠ KTH i n) : (PSP i n)[RISE i n + (if j < KTH i n then j else j - 1)]? = (SPAN 0 n)[j]? := by
  unfold PSP
  rw [List.getElem?_append_right (by rw [WAYS_length]; omega), WAYS_length, Nat.add_sub_cancel_left, List.getElem?_eraseIdx]
  by_cases h : j < KTH i n
  · rw [if_pos h, if_pos h]
  · rw [if_neg h, if_neg (by omega), show j - 1 + 1 = j by omega]
theorem sib_half {q : Nat} : (q % 2 = 0 → SIB q = 2 * (q / 2) + 1 ∧ 2 * (q / 2) = q) ∧ (q % 2 = 1 → SIB q = 2 * (q / 2) ∧ 2 * (q / 2) + 1 = q) := by
  unfold SIB
  refine ⟨fun h => ?_, fun h => ?_⟩ <;> (try split) <;> omega
theorem JN_way {d : Int} {leaf : List Int} {S I : Nat} (hI : I < S) (hS : S ≤ 4611686018427387904) (l : List Int) : ∀ t, t ≤ RISE I S → JN d I (MPUT (HAND (PSP I S) l (PSP I S).length) 0 I leaf) t t (I / 2 ^ t) = WAYH d leaf I l t
  | 0, _ => by
    rw [JN, Nat.pow_zero, Nat.div_one]
    exact MPUT_at _ _ _ _
  | t + 1, h => by
    have ih := JN_way hI hS (d := d) (leaf := leaf) l t (by omega)
    obtain ⟨p1, p2, _⟩ := PSP_spec hI hS
    have hw := PSP_way (i := I) (n := S) (t := t) (by omega)
    have hlt : t < (PSP I S).length := (List.getElem?_eq_some_iff.1 hw).1
    have hd : I / 2 ^ (t + 1) = I / 2 ^ t / 2 := by rw [Nat.pow_succ, Nat.div_div_eq_div_mul]
    have hsib : JN d I (MPUT (HAND (PSP I S) l (PSP I S).length) 0 I leaf) t t (SIB (I / 2 ^ t)) = HSH l t := by
      have hne : SIB (I / 2 ^ t) ≠ I / 2 ^ t := by have := sib_half (q := I / 2 ^ t); omega
      rw [JN_other hne, MPUT_other, HAND_at p2 hw _ hlt (Nat.le_refl _)]
      rintro ⟨e1, e2⟩
      subst e1
      rw [Nat.pow_zero, Nat.div_one] at hne e2
      exact hne e2
    rw [JN, MPUT_at, WAYH, hd]
    by_cases hq : I / 2 ^ t % 2 = 0
    · obtain ⟨e1, e2⟩ := sib_half.1 hq
      rw [if_pos hq, ← e1, hsib, e2, ih]
    · obtain ⟨e1, e2⟩ := sib_half.2 (by omega : I / 2 ^ t % 2 = 1)
      rw [if_neg hq, e2, ← e1, hsib, ih]
/-- the j-th peak. -/
def PEK (d : Int) (leaf : List Int) (S I : Nat) (l : List Int) (j : Nat) : List Int := if j = KTH I S then WAYH d leaf I l (RISE I S) else HSH l (RISE I S + (if j < KTH I S then j else j - 1))
theorem CLM_peak {d : Int} {leaf : List Int} {S I : Nat} (hI : I < S) (hS : S ≤ 4611686018427387904) (l : List Int) {j h k : Nat} (hj : (SPAN 0 S)[j]? = some (h, k)) : CLM d leaf S I l h k = PEK d leaf S I l j := by
  unfold CLM PEK
  by_cases e : j = KTH I S
  · subst e
    rw [if_pos rfl]
    have h1 := (KTH_spot hI hS).1
    rw [hj] at h1
    simp only [Option.some.injEq, Prod.mk.injEq] at h1
    rw [h1.1, h1.2]
    exact JN_way hI hS l _ (Nat.le_refl _)
  · rw [if_neg e]
    have h1 := PSP_peak (i := I) (n := S) e
    rw [hj] at h1
    obtain ⟨p1, p2, _⟩ := PSP_spec hI hS
    have h3 := (p1 _ (List.mem_of_getElem? h1)).2.2
    have hlt := (List.getElem?_eq_some_iff.1 h1).1
    have hne : k ≠ I / 2 ^ h := by
      rintro rfl
      apply h3
      dsimp only
      exact ⟨Nat.div_mul_le_self I _, by have := Nat.lt_div_mul_add (a := I) (Nat.two_pow_pos h); rw [Nat.add_mul]; omega⟩
    rw [JN_other hne, MPUT_other, HAND_at p2 h1 _ hlt (Nat.le_refl _)]
    rintro ⟨e1, e2⟩
    subst e1
    rw [Nat.pow_zero, Nat.div_one] at hne
    exact hne e2
end Go.Proofs.YtkcfhgflgkejoaaGreatDoor

/- Laws of one operation, at a step of a region that draws its order. -/
namespace Go.Proofs.YtkcfhgflgkejoaaGreatDoor
open Go.RowKit
set_option maxRecDepth 100000

theorem wp_both {P : Program} {o : Oper} {a : Act} {w : World} {K K' : Act → World → Prop} {Q Q' : Exit → Act → World → Prop} (h : ∀ a w, K a w → K' a w) (hq : ∀ c a w, Q (.panic c) a w → Q' (.panic c) a w) (hl : LetsOut Q → LetsOut Q') (hh : o.wp P a w K Q) : o.wp P a w K' Q' := by
  unfold Oper.wp at *
  generalize (execOp a.eval o).run P w = r at *
  cases r with
  | ok n w' =>
    cases n <;> simp only [Oper.upon] at hh ⊢ <;>
      first
        | exact h _ _ hh
        | exact Calls.mono hh (fun e w'' he => by cases e <;> first | exact h _ _ he | exact hq _ _ _ he | exact hl he)
        | exact Rows.mono hh (fun _ _ he => h _ _ he)
  | halt x w' => cases x <;> simp only [Oper.upon] at hh ⊢ <;> first | exact hq _ _ _ hh | exact hh
/-- a law of one operation in a row serves at a step. -/
theorem step_of_list {P : Program} {ops : Array Oper} {o : Oper} {a : Act} {w : World} {K : Act → World → Prop} {Q : Exit → Act → World → Prop} {E : Prop} (hw : Region.wanted o (yielded ops a.tmps) = true)
    (h : wpList P ops (fun e a w => e = Exit.normal ∧ K a w) [o] a w) : if Region.wanted o (yielded ops a.tmps) = true then Oper.wp P o a w K Q else E := by
  rw [if_pos hw]
  unfold wpList at h
  rw [if_pos hw] at h
  rcases h with h | ⟨_, a', w', h', _⟩
  · exact wp_both (fun a w h => by unfold wpList at h; exact h.2) (fun c a w h => by cases h.1) (fun h => by obtain ⟨_, _, h, _⟩ := h; cases h) h
  · cases h'
/-- an operation that gives a value. -/
theorem step_valw {ops : Array Oper} {o : Oper} {a : Act} {w w' : World} {K : Act → World → Prop} {Q : Exit → Act → World → Prop} {E : Prop} {v : Value} (hw : Region.wanted o (yielded ops a.tmps) = true)
    (hrun : (execOp a.eval o).run Tryz.prog w = .ok (.value v) w') (h : K (a.put o.dst v) w') : if Region.wanted o (yielded ops a.tmps) = true then Oper.wp Tryz.prog o a w K Q else E := by
  rw [if_pos hw]
  unfold Oper.wp
  rw [hrun]
  exact h
end Go.Proofs.YtkcfhgflgkejoaaGreatDoor
