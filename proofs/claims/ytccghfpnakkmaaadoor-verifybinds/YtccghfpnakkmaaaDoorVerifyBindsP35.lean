/- Texts of VerifyBinds, one behind the other: VerifyBindsWalk, PosDoor, ProofDoor, HashDoor. -/
import Derived.Test.YtccghfpnakkmaaaDoorRows
import Derived.ProofKit
import Derived.LaidMore
import Derived.OpenShut
import Derived.Stop.Joined
import Derived.Deep.Strs
import Derived.Test.YtccghfpnakkmaaaDoorVerifyBindsP8
import Derived.Test.YtccghfpnakkmaaaDoorVerifyBindsP18
import Derived.Test.YtccghfpnakkmaaaDoorVerifyBindsP20
import Derived.Test.YtccghfpnakkmaaaDoorVerifyBindsP29
import Derived.Test.YtccghfpnakkmaaaDoorVerifyBindsP33
import Derived.Test.YtccghfpnakkmaaaDoorVerifyBindsP34
/- The law VerifyBinds returns true. -/
namespace Go.Proofs.YtccghfpnakkmaaaDoor
open Go.RowKit
set_option maxRecDepth 100000

theorem unda_zero {d : Int} {n k : Nat} {l root : List Int} (h : UNDA d n k l root = 0) : (BAGA d n k l).2 = root := by
  unfold UNDA at h
  split at h
  · rename_i h1
    exact h1.2
  · simp at h
theorem mema_one {d : Int} {r s : List Int} {n i : Nat} {leaf bl : List Int} (h1 : MEMA d r n i leaf bl = 0) (h2 : MEMA d s n i leaf bl = 0) : r = s := by
  unfold MEMA at h1 h2
  split at h1
  · rename_i h
    exact absurd h1 h
  · rename_i ha
    rw [if_neg ha] at h2
    split at h1
    · simp at h1
    · rename_i hb
      rw [if_neg hb] at h2
      split at h1
      · simp at h1
      · rename_i hc
        rw [if_neg hc] at h2
        rw [← unda_zero h1, ← unda_zero h2]
theorem pfxa_one {d : Int} {js : List (Nat × Nat)} {m n : Nat} {r s r2 s2 bl : List Int} (h1 : PFXA d js m r n r2 bl = 0) (h2 : PFXA d js m s n s2 bl = 0) : r = s ∧ r2 = s2 := by
  unfold PFXA at h1 h2
  split at h1
  · rename_i h
    exact absurd h1 h
  · rename_i ha
    rw [if_neg ha] at h2
    split at h1
    · simp at h1
    · rename_i hb
      rw [if_neg hb] at h2
      split at h1
      · simp at h1
      · rename_i hc
        rw [if_neg hc] at h2
        split at h1
        · rename_i h
          exact absurd h1 h
        · rename_i hd
          split at h2
          · rename_i h
            exact absurd h2 h
          · rename_i he
            have e1 := unda_zero (Decidable.not_not.1 hd)
            have e2 := unda_zero (Decidable.not_not.1 he)
            exact ⟨by rw [← e1, ← e2], by rw [← unda_zero h1, ← unda_zero h2]⟩
set_option maxHeartbeats 4000000 in
theorem binds_long (d : Int) (n i m : Int) (leaf r s r2 s2 : List Int) (ba : Option Addr) (bn bc : Nat) (hbn : (9600 : Int) < (bn : Int)) (w : World) :
    Calls Tryd.prog 3 #[.int .i64 d, .int .u64 n, .int .u64 i, .agg (CELLS leaf).toArray, .agg (CELLS r).toArray, .agg (CELLS s).toArray, .int .u64 m, .agg (CELLS r2).toArray, .agg (CELLS s2).toArray, .slice ba bn bc] w fun e w' => e = .returned (.bool true) ∧ Below w.heap.size w w' := by
  have hb : Aside (Below w.heap.size w (((((w.alloc (.cells (CELLS leaf).toArray 24)).alloc (.cells (CELLS r).toArray 24)).alloc (.cells (CELLS s).toArray 24)).alloc (.cells (CELLS r2).toArray 24)).alloc (.cells (CELLS s2).toArray 24))) := ((((((Below.refl _ _).alloc (Nat.le_refl _) _).alloc (by simp) _).alloc (by simp; omega) _).alloc (by simp; omega) _).alloc (by simp; omega) _)
  go_enter Tryd.func3, Tryd.ntmps3
  go_wp2
  go_ret
  exact ⟨rfl, hb.out⟩
set_option maxHeartbeats 4000000 in
theorem verifyBinds_walk (d : Int) (n i m : Nat) (hn : n < 2 ^ 64) (hm : m < 2 ^ 64) (leaf r s r2 s2 : List Int) (il : IsH leaf) (ir : IsH r) (is : IsH s) (ir2 : IsH r2) (is2 : IsH s2) (ba : Option Addr) (bn bc : Nat) (hbc : bn ≤ bc) (hnil : ba = none → bc = 0) (bl : List Int) (w : World) (hB : Bytes w ba bn bl) (hT : Tabled w) (hX : HX.Tabled w) (h0 : 2 < w.heap.size) :
    Calls Tryd.prog 3 #[.int .i64 d, .int .u64 (n : Int), .int .u64 (i : Int), .agg (CELLS leaf).toArray, .agg (CELLS r).toArray, .agg (CELLS s).toArray, .int .u64 (m : Int), .agg (CELLS r2).toArray, .agg (CELLS s2).toArray, .slice ba bn bc] w fun e w' => e = .returned (.bool true) ∧ Below w.heap.size w w' := by
  by_cases hbn : (9600 : Int) < (bn : Int)
  · exact binds_long d n i m leaf r s r2 s2 ba bn bc hbn w
  obtain ⟨js, hjs⟩ := js_any (DEX bl).2.1 (DEX bl).2.2.1
  have HI : Aside (IsH leaf ∧ IsH r ∧ IsH s ∧ IsH r2 ∧ IsH s2 ∧ n < 2 ^ 64 ∧ m < 2 ^ 64 ∧ bn ≤ 9600 ∧ bn ≤ bc ∧ (ba = none → bc = 0) ∧ ((DEX bl).2.1 ≤ (DEX bl).2.2.1 → (DEX bl).2.2.1 ≤ 4611686018427387904 → JSOK (DEX bl).2.1 ((DEX bl).2.2.1 - (DEX bl).2.1) js)) := ⟨il, ir, is, ir2, is2, hn, hm, by omega, hbc, hnil, hjs⟩
  have HT : Aside (∀ W, Below w.heap.size w W → Tabled W ∧ HX.Tabled W ∧ Bytes W ba bn bl ∧ 2 < W.heap.size) := fun W h => by
    have hs := h.size
    exact ⟨hT.below (by omega) h, hX.below h, hB.below h, by omega⟩
  have ll := il.1
  have lr := ir.1
  have ls := is.1
  have lr2 := ir2.1
  have ls2 := is2.1
  clear il ir is ir2 is2 hn hm hbc hnil hB hT hX h0 hjs
  obtain ⟨W0, hW0⟩ : ∃ W0, ((((w.alloc (.cells (CELLS leaf).toArray 24)).alloc (.cells (CELLS r).toArray 24)).alloc (.cells (CELLS s).toArray 24)).alloc (.cells (CELLS r2).toArray 24)).alloc (.cells (CELLS s2).toArray 24) = W0 := ⟨_, rfl⟩
  have R0 : Aside (Below w.heap.size w W0 ∧ Has W0 w.heap.size (CELLS leaf).toArray 24 ∧ Has W0 (w.heap.size + 1) (CELLS r).toArray 24 ∧ Has W0 (w.heap.size + 1 + 1) (CELLS s).toArray 24 ∧ Has W0 (w.heap.size + 1 + 1 + 1) (CELLS r2).toArray 24 ∧ Has W0 (w.heap.size + 1 + 1 + 1 + 1) (CELLS s2).toArray 24) := by
    rw [← hW0]
    exact ⟨(((((Below.refl _ _).alloc (Nat.le_refl _) _).alloc (by simp) _).alloc (by simp; omega) _).alloc (by simp; omega) _).alloc (by simp; omega) _, ((((Has.new _ _ _).alloc _).alloc _).alloc _).alloc _, (((Has.at _ _ _ (by simp)).alloc _).alloc _).alloc _, ((Has.at _ _ _ (by simp)).alloc _).alloc _, (Has.at _ _ _ (by simp)).alloc _, Has.at _ _ _ (by simp)⟩
  go_enter Tryd.func3, Tryd.ntmps3
  go_upto_region 3 with fail
  clear hW0
  obtain ⟨b18, e18⟩ : ∃ b, b = w.heap.size + 1 + 1 + 1 + 1 := ⟨_, rfl⟩
  obtain ⟨b17, e17⟩ : ∃ b, b = w.heap.size + 1 + 1 + 1 := ⟨_, rfl⟩
  obtain ⟨b15, e15⟩ : ∃ b, b = w.heap.size + 1 + 1 := ⟨_, rfl⟩
  obtain ⟨b14, e14⟩ : ∃ b, b = w.heap.size + 1 := ⟨_, rfl⟩
  obtain ⟨b13, e13⟩ : ∃ b, b = w.heap.size := ⟨_, rfl⟩
  have R1 : Aside (Below w.heap.size w W0 ∧ Has W0 b13 (CELLS leaf).toArray 24 ∧ Has W0 b14 (CELLS r).toArray 24 ∧ Has W0 b15 (CELLS s).toArray 24 ∧ Has W0 b17 (CELLS r2).toArray 24 ∧ Has W0 b18 (CELLS s2).toArray 24) := by
    rw [e13, e14, e15, e17, e18]
    exact R0.out
  rw [← e18, ← e17, ← e15, ← e14, ← e13]
  clear R0 e13 e14 e15 e17 e18
  -- what every call finds
  have hS : ∀ W, Below W0.heap.size W0 W → W.rangeAt b13 0 (CELLS leaf) ∧ W.rangeAt b14 0 (CELLS r) ∧ W.rangeAt b15 0 (CELLS s) ∧ W.rangeAt b17 0 (CELLS r2) ∧ W.rangeAt b18 0 (CELLS s2) := fun W h => by
    obtain ⟨_, q1, q2, q3, q4, q5⟩ := R1.out
    exact ⟨has_range (q1.keep h), has_range (q2.keep h), has_range (q3.keep h), has_range (q4.keep h), has_range (q5.keep h)⟩
  have hbw : ∀ W, Below W0.heap.size W0 W → Below w.heap.size w W := fun W h => R1.out.1.trans (h.mono R1.out.1.size)
  obtain ⟨TX, hTX⟩ : ∃ TX : Value → World → Prop, TX = fun X W => Below W0.heap.size W0 W ∧ ∃ g cap, X = .slice (some ⟨g, 0, none⟩) bn cap ∧ Bytes W (some ⟨g, 0, none⟩) bn bl ∧ bn ≤ cap := ⟨_, rfl⟩
  have tS : ∀ X W, TX X W → Below W0.heap.size W0 W := fun X W h => by rw [hTX] at h; exact h.1
  have ct : ∀ W, Below W0.heap.size W0 W → Calls Tryd.prog 7 #[.slice ba bn bc] W fun e w' => ∃ X, e = .returned X ∧ TX X w' := fun W h => by
    have hT := HT.out _ (hbw W h)
    obtain ⟨_, _, _, _, _, _, _, h8, h9, h10, _⟩ := HI.out
    refine (text8_ok ba bn bc (by omega) h10 bl W hT.2.2.1).mono ?_
    rintro e w' ⟨g, cap, rfl, ho, hc, _, _, hb⟩
    refine ⟨_, rfl, ?_⟩
    rw [hTX]
    exact ⟨h.trans (hb.mono h.size), g, cap, rfl, (own_bytes_any ho hT.2.2.1.2.2).1, by omega⟩
  have cm : ∀ (x : List Int), IsH x → ∀ X W, TX X W → Calls Tryd.prog 6 #[.int .i64 d, .agg (CELLS x).toArray, .int .u64 (n : Int), .int .u64 (i : Int), .agg (CELLS leaf).toArray, X] W fun e w' => e = .returned (.int .i64 (MEMA d x n i leaf bl)) ∧ Below W0.heap.size W0 w' := fun x hx X W h => by
    rw [hTX] at h
    obtain ⟨hb, g, cap, rfl, hB, hc⟩ := h
    have hT := HT.out _ (hbw W hb)
    obtain ⟨h1, _, _, _, _, h6, _, h8, _⟩ := HI.out
    refine (member_ok d x hx n i h6 leaf h1 _ bn cap (by omega) hc bl W hB hT.1 hT.2.1 hT.2.2.2).mono ?_
    rintro e w' ⟨rfl, hb'⟩
    exact ⟨rfl, hb.trans (hb'.mono hb.size)⟩
  have cp : ∀ (x y : List Int), IsH x → IsH y → ∀ X W, TX X W → Calls Tryd.prog 8 #[.int .i64 d, .int .u64 (m : Int), .agg (CELLS x).toArray, .int .u64 (n : Int), .agg (CELLS y).toArray, X] W fun e w' => e = .returned (.int .i64 (PFXA d js m x n y bl)) ∧ Below W0.heap.size W0 w' := fun x y hx hy X W h => by
    rw [hTX] at h
    obtain ⟨hb, g, cap, rfl, hB, hc⟩ := h
    have hT := HT.out _ (hbw W hb)
    obtain ⟨h1, _, _, _, _, h6, h7, h8, _, _, h11⟩ := HI.out
    refine (prefix_ok d m h7 x hx n h6 y hy _ bn cap (by omega) hc bl js h11 W hB hT.1 hT.2.1 hT.2.2.2).mono ?_
    rintro e w' ⟨rfl, hb'⟩
    exact ⟨rfl, hb.trans (hb'.mono hb.size)⟩
  have hone := @mema_one d r s n i leaf bl
  have htwo := @pfxa_one d js m n r s r2 s2 bl
  have cm1 := cm r HI.out.2.1
  have cm2 := cm s HI.out.2.2.1
  have cp1 := cp r r2 HI.out.2.1 HI.out.2.2.2.1
  have cp2 := cp s s2 HI.out.2.2.1 HI.out.2.2.2.2.1
  have aw : ∀ W, Below W0.heap.size W0 W → Calls Tryd.prog 9 #[] W fun e w' => e = .returned (.bool true) ∧ Below w.heap.size w w' := fun W h => by
    have hT := HT.out _ (hbw W h)
    refine (awake8_ok W hT.1 hT.2.1 hT.2.2.2).mono ?_
    rintro e w' ⟨rfl, hb'⟩
    exact ⟨rfl, (hbw W h).trans (hb'.mono (hbw W h).size)⟩
  have qr := equalh HI.out.2.1 HI.out.2.2.1
  have qr2 := equalh HI.out.2.2.2.1 HI.out.2.2.2.2.1
  clear cm cp hTX hbw HT hbn
  generalize MEMA d r n i leaf bl = M1 at *
  generalize MEMA d s n i leaf bl = M2 at *
  generalize PFXA d js m r n r2 bl = E1 at *
  generalize PFXA d js m s n s2 bl = E2 at *
  have AS : Aside ((∀ W, Below W0.heap.size W0 W → W.rangeAt b13 0 (CELLS leaf) ∧ W.rangeAt b14 0 (CELLS r) ∧ W.rangeAt b15 0 (CELLS s) ∧ W.rangeAt b17 0 (CELLS r2) ∧ W.rangeAt b18 0 (CELLS s2)) ∧ (∀ X W, TX X W → Below W0.heap.size W0 W)) := ⟨hS, tS⟩
  have AC : Aside (∀ W, Below W0.heap.size W0 W → Calls Tryd.prog 7 #[.slice ba bn bc] W fun e w' => ∃ X, e = .returned X ∧ TX X w') := ct
  have AP1 : Aside (∀ X W, TX X W → Calls Tryd.prog 8 #[.int .i64 d, .int .u64 (m : Int), .agg (CELLS r).toArray, .int .u64 (n : Int), .agg (CELLS r2).toArray, X] W fun e w' => e = .returned (.int .i64 E1) ∧ Below W0.heap.size W0 w') := cp1
  have AP2 : Aside (∀ X W, TX X W → Calls Tryd.prog 8 #[.int .i64 d, .int .u64 (m : Int), .agg (CELLS s).toArray, .int .u64 (n : Int), .agg (CELLS s2).toArray, X] W fun e w' => e = .returned (.int .i64 E2) ∧ Below W0.heap.size W0 w') := cp2
  have AW : Aside (∀ W, Below W0.heap.size W0 W → Calls Tryd.prog 9 #[] W fun e w' => e = .returned (.bool true) ∧ Below w.heap.size w w') := aw
  have AQ : Aside ((∀ w, (Op.equalIn 10000 24 (.agg (CELLS r).toArray) (.agg (CELLS s).toArray)).run Tryd.prog w = .ok (decide (r = s)) w) ∧ ∀ w, (Op.equalIn 10000 24 (.agg (CELLS r2).toArray) (.agg (CELLS s2).toArray)).run Tryd.prog w = .ok (decide (r2 = s2)) w) := ⟨qr, qr2⟩
  have AT : Aside (E1 = 0 → E2 = 0 → r = s ∧ r2 = s2) := htwo
  clear hS tS ct cp1 cp2 aw qr qr2 htwo HI
  obtain ⟨o1, ho1⟩ : ∃ o, (E1 == 0) = o := ⟨_, rfl⟩
  obtain ⟨o2, ho2⟩ : ∃ o, (E2 == 0) = o := ⟨_, rfl⟩
  have HO : Aside ((E1 == 0) = o1 ∧ (E2 == 0) = o2 ∧ (o1 = true → o2 = true → r = s ∧ r2 = s2)) := ⟨ho1, ho2, fun h1 h2 => AT.out (by rw [h1] at ho1; simpa using ho1) (by rw [h2] at ho2; simpa using ho2)⟩
  clear ho1 ho2 AT
  by_cases hM1 : M1 = 0
  · by_cases hM2 : M2 = 0
    · have hrs := hone hM1 hM2
      subst hM1 hM2
      have q1 : ∀ w, (Op.equalIn 10000 24 (.agg (CELLS r).toArray) (.agg (CELLS s).toArray)).run Tryd.prog w = .ok true w := fun w => by rw [AQ.out.1, decide_eq_true hrs]
      clear hone hrs
      refine binds_both _ _ _ _ _ _ _ _ _ _ _ _ _ _ _ _ _ _ _ _ _ _ _ _ _ _ _ _ _ _ _ _ _ _ _ _ _ _ _ _ _ _ _ _ _ _ _ _ _ _ _ _ _ _ _ _ _ _ _ _ _ _ _ _ _ _ _ _ _ _ _ _ _ _ _ _ _ _ W0 d n i m ba bn bc b13 b14 b15 b17 b18 leaf r s r2 s2 ll lr ls (fun W => Below W0.heap.size W0 W) TX (Below.refl _ _).drew AS.out.2 AS.out.1 AC.out q1 cm1 cm2 (fun _ _ _ _ _ h => h) ?_
      intro X Y W hW
      clear q1 cm1 cm2
      go_upto_region 5 with fail
      refine binds_first _ _ _ _ _ _ _ _ _ _ _ _ _ _ _ _ _ _ _ _ _ _ _ _ _ _ _ _ _ _ _ _ _ _ _ _ _ _ _ _ _ _ _ _ _ _ _ _ _ _ _ _ _ _ _ _ _ _ _ _ _ _ _ _ _ _ _ _ _ _ _ _ _ _ _ _ _ _ W d n i m ba bn bc b13 b14 b15 b17 b18 leaf r s r2 s2 lr lr2 (fun W => Below W0.heap.size W0 W) TX hW.drew AS.out.2 AS.out.1 AC.out E1 o1 HO.out.1 AP1.out (fun _ _ _ _ _ h => h) ?_
      intro X5 W5 hW5
      clear hW
      go_upto_region 6 with fail
      refine binds_second _ _ _ _ _ _ _ _ _ _ _ _ _ _ _ _ _ _ _ _ _ _ _ _ _ _ _ _ _ _ _ _ _ _ _ _ _ _ _ _ _ _ _ _ _ _ _ _ _ _ _ _ _ _ _ _ _ _ _ _ _ _ _ _ _ _ _ _ _ _ _ _ _ _ _ _ _ _ W5 d n i m ba bn bc b13 b14 b15 b17 b18 leaf r s r2 s2 ls ls2 (fun W => Below W0.heap.size W0 W) TX hW5.drew AS.out.2 AS.out.1 AC.out E2 o2 HO.out.2.1 AP2.out (fun _ _ _ _ _ h => h) ?_
      intro X6 W6 hW6
      clear hW5
      have ca := AW.out W6 hW6
      have k14 := R1.out.2.2.1.keep hW6
      have k15 := R1.out.2.2.2.1.keep hW6
      have k17 := R1.out.2.2.2.2.1.keep hW6
      have k18 := R1.out.2.2.2.2.2.keep hW6
      have QQ : Aside (o1 = true → o2 = true → (∀ w, (Op.equalIn 10000 24 (.agg (CELLS r).toArray) (.agg (CELLS s).toArray)).run Tryd.prog w = .ok true w) ∧ ∀ w, (Op.equalIn 10000 24 (.agg (CELLS r2).toArray) (.agg (CELLS s2).toArray)).run Tryd.prog w = .ok true w) := fun h1 h2 => by
        obtain ⟨e1, e2⟩ := HO.out.2.2 h1 h2
        exact ⟨fun w => by rw [AQ.out.1, decide_eq_true e1], fun w => by rw [AQ.out.2, decide_eq_true e2]⟩
      clear hW6 AS AC AP1 AP2 AW AQ HO R1
      cases o1 with
      | false =>
        clear QQ
        go_wp2_with fail
        refine ca.mono ?_
        rintro e w9 ⟨rfl, hb9⟩
        clear ca
        go_wp2
        go_ret
        exact ⟨rfl, hb9⟩
      | true =>
        cases o2 with
        | false =>
          clear QQ
          go_wp2_with fail
          refine ca.mono ?_
          rintro e w9 ⟨rfl, hb9⟩
          clear ca
          go_wp2
          go_ret
          exact ⟨rfl, hb9⟩
        | true =>
          obtain ⟨q1, q2⟩ := QQ.out rfl rfl
          clear QQ
          go_wp2_with (first
            | (refine load_row_if (by rfl) 24 (.tmp 14) rfl 32 5 b14 rfl 24 (CELLS r).toArray (0, 0) k14 Tryd.underlying24 (info_arr lr) ?_)
            | (refine load_row_if (by rfl) 24 (.tmp 15) rfl 32 5 b15 rfl 24 (CELLS s).toArray (0, 0) k15 Tryd.underlying24 (info_arr ls) ?_)
            | (refine load_row_if (by rfl) 24 (.tmp 17) rfl 32 5 b17 rfl 24 (CELLS r2).toArray (0, 0) k17 Tryd.underlying24 (info_arr lr2) ?_)
            | (refine load_row_if (by rfl) 24 (.tmp 18) rfl 32 5 b18 rfl 24 (CELLS s2).toArray (0, 0) k18 Tryd.underlying24 (info_arr ls2) ?_)
            | fail)
          refine ca.mono ?_
          rintro e w9 ⟨rfl, hb9⟩
          clear ca
          go_wp2
          go_ret
          exact ⟨rfl, hb9⟩
    · subst hM1
      clear hone
      refine binds_one _ _ _ _ _ _ _ _ _ _ _ _ _ _ _ _ _ _ _ _ _ _ _ _ _ _ _ _ _ _ _ _ _ _ _ _ _ _ _ _ _ _ _ _ _ _ _ _ _ _ _ _ _ _ _ _ _ _ _ _ _ _ _ _ _ _ _ _ _ _ _ _ _ _ _ _ _ _ W0 d n i m ba bn bc b13 b14 b15 b17 b18 leaf r s r2 s2 ll lr ls (fun W => Below W0.heap.size W0 W) TX (Below.refl _ _).drew AS.out.2 AS.out.1 AC.out M2 hM2 cm1 cm2 (fun _ _ _ _ _ h => h) ?_
      intro X Y W hW
      clear cm1 cm2 hM2
      go_upto_region 5 with fail
      refine binds_first _ _ _ _ _ _ _ _ _ _ _ _ _ _ _ _ _ _ _ _ _ _ _ _ _ _ _ _ _ _ _ _ _ _ _ _ _ _ _ _ _ _ _ _ _ _ _ _ _ _ _ _ _ _ _ _ _ _ _ _ _ _ _ _ _ _ _ _ _ _ _ _ _ _ _ _ _ _ W d n i m ba bn bc b13 b14 b15 b17 b18 leaf r s r2 s2 lr lr2 (fun W => Below W0.heap.size W0 W) TX hW.drew AS.out.2 AS.out.1 AC.out E1 o1 HO.out.1 AP1.out (fun _ _ _ _ _ h => h) ?_
      intro X5 W5 hW5
      clear hW
      go_upto_region 6 with fail
      refine binds_second _ _ _ _ _ _ _ _ _ _ _ _ _ _ _ _ _ _ _ _ _ _ _ _ _ _ _ _ _ _ _ _ _ _ _ _ _ _ _ _ _ _ _ _ _ _ _ _ _ _ _ _ _ _ _ _ _ _ _ _ _ _ _ _ _ _ _ _ _ _ _ _ _ _ _ _ _ _ W5 d n i m ba bn bc b13 b14 b15 b17 b18 leaf r s r2 s2 ls ls2 (fun W => Below W0.heap.size W0 W) TX hW5.drew AS.out.2 AS.out.1 AC.out E2 o2 HO.out.2.1 AP2.out (fun _ _ _ _ _ h => h) ?_
      intro X6 W6 hW6
      clear hW5
      have ca := AW.out W6 hW6
      have k14 := R1.out.2.2.1.keep hW6
      have k15 := R1.out.2.2.2.1.keep hW6
      have k17 := R1.out.2.2.2.2.1.keep hW6
      have k18 := R1.out.2.2.2.2.2.keep hW6
      have QQ : Aside (o1 = true → o2 = true → (∀ w, (Op.equalIn 10000 24 (.agg (CELLS r).toArray) (.agg (CELLS s).toArray)).run Tryd.prog w = .ok true w) ∧ ∀ w, (Op.equalIn 10000 24 (.agg (CELLS r2).toArray) (.agg (CELLS s2).toArray)).run Tryd.prog w = .ok true w) := fun h1 h2 => by
        obtain ⟨e1, e2⟩ := HO.out.2.2 h1 h2
        exact ⟨fun w => by rw [AQ.out.1, decide_eq_true e1], fun w => by rw [AQ.out.2, decide_eq_true e2]⟩
      clear hW6 AS AC AP1 AP2 AW AQ HO R1
      cases o1 with
      | false =>
        clear QQ
        go_wp2_with fail
        refine ca.mono ?_
        rintro e w9 ⟨rfl, hb9⟩
        clear ca
        go_wp2
        go_ret
        exact ⟨rfl, hb9⟩
      | true =>
        cases o2 with
        | false =>
          clear QQ
          go_wp2_with fail
          refine ca.mono ?_
          rintro e w9 ⟨rfl, hb9⟩
          clear ca
          go_wp2
          go_ret
          exact ⟨rfl, hb9⟩
        | true =>
          obtain ⟨q1, q2⟩ := QQ.out rfl rfl
          clear QQ
          go_wp2_with (first
            | (refine load_row_if (by rfl) 24 (.tmp 14) rfl 32 5 b14 rfl 24 (CELLS r).toArray (0, 0) k14 Tryd.underlying24 (info_arr lr) ?_)
            | (refine load_row_if (by rfl) 24 (.tmp 15) rfl 32 5 b15 rfl 24 (CELLS s).toArray (0, 0) k15 Tryd.underlying24 (info_arr ls) ?_)
            | (refine load_row_if (by rfl) 24 (.tmp 17) rfl 32 5 b17 rfl 24 (CELLS r2).toArray (0, 0) k17 Tryd.underlying24 (info_arr lr2) ?_)
            | (refine load_row_if (by rfl) 24 (.tmp 18) rfl 32 5 b18 rfl 24 (CELLS s2).toArray (0, 0) k18 Tryd.underlying24 (info_arr ls2) ?_)
            | fail)
          refine ca.mono ?_
          rintro e w9 ⟨rfl, hb9⟩
          clear ca
          go_wp2
          go_ret
          exact ⟨rfl, hb9⟩
  · clear hone
    refine binds_none _ _ _ _ _ _ _ _ _ _ _ _ _ _ _ _ _ _ _ _ _ _ _ _ _ _ _ _ _ _ _ _ _ _ _ _ _ _ _ _ _ _ _ _ _ _ _ _ _ _ _ _ _ _ _ _ _ _ _ _ _ _ _ _ _ _ _ _ _ _ _ _ _ _ _ _ _ _ W0 d n i m ba bn bc b13 b14 b15 b17 b18 leaf r s r2 s2 ll lr (fun W => Below W0.heap.size W0 W) TX (Below.refl _ _).drew AS.out.2 AS.out.1 AC.out M1 hM1 cm1 (fun _ _ _ _ _ h => h) ?_
    intro X W hW
    clear cm1 cm2 hM1
    go_upto_region 5 with fail
    refine binds_first _ _ _ _ _ _ _ _ _ _ _ _ _ _ _ _ _ _ _ _ _ _ _ _ _ _ _ _ _ _ _ _ _ _ _ _ _ _ _ _ _ _ _ _ _ _ _ _ _ _ _ _ _ _ _ _ _ _ _ _ _ _ _ _ _ _ _ _ _ _ _ _ _ _ _ _ _ _ W d n i m ba bn bc b13 b14 b15 b17 b18 leaf r s r2 s2 lr lr2 (fun W => Below W0.heap.size W0 W) TX hW.drew AS.out.2 AS.out.1 AC.out E1 o1 HO.out.1 AP1.out (fun _ _ _ _ _ h => h) ?_
    intro X5 W5 hW5
    clear hW
    go_upto_region 6 with fail
    refine binds_second _ _ _ _ _ _ _ _ _ _ _ _ _ _ _ _ _ _ _ _ _ _ _ _ _ _ _ _ _ _ _ _ _ _ _ _ _ _ _ _ _ _ _ _ _ _ _ _ _ _ _ _ _ _ _ _ _ _ _ _ _ _ _ _ _ _ _ _ _ _ _ _ _ _ _ _ _ _ W5 d n i m ba bn bc b13 b14 b15 b17 b18 leaf r s r2 s2 ls ls2 (fun W => Below W0.heap.size W0 W) TX hW5.drew AS.out.2 AS.out.1 AC.out E2 o2 HO.out.2.1 AP2.out (fun _ _ _ _ _ h => h) ?_
    intro X6 W6 hW6
    clear hW5
    have ca := AW.out W6 hW6
    have k14 := R1.out.2.2.1.keep hW6
    have k15 := R1.out.2.2.2.1.keep hW6
    have k17 := R1.out.2.2.2.2.1.keep hW6
    have k18 := R1.out.2.2.2.2.2.keep hW6
    have QQ : Aside (o1 = true → o2 = true → (∀ w, (Op.equalIn 10000 24 (.agg (CELLS r).toArray) (.agg (CELLS s).toArray)).run Tryd.prog w = .ok true w) ∧ ∀ w, (Op.equalIn 10000 24 (.agg (CELLS r2).toArray) (.agg (CELLS s2).toArray)).run Tryd.prog w = .ok true w) := fun h1 h2 => by
      obtain ⟨e1, e2⟩ := HO.out.2.2 h1 h2
      exact ⟨fun w => by rw [AQ.out.1, decide_eq_true e1], fun w => by rw [AQ.out.2, decide_eq_true e2]⟩
    clear hW6 AS AC AP1 AP2 AW AQ HO R1
    cases o1 with
    | false =>
      clear QQ
      go_wp2_with fail
      refine ca.mono ?_
      rintro e w9 ⟨rfl, hb9⟩
      clear ca
      go_wp2
      go_ret
      exact ⟨rfl, hb9⟩
    | true =>
      cases o2 with
      | false =>
        clear QQ
        go_wp2_with fail
        refine ca.mono ?_
        rintro e w9 ⟨rfl, hb9⟩
        clear ca
        go_wp2
        go_ret
        exact ⟨rfl, hb9⟩
      | true =>
        obtain ⟨q1, q2⟩ := QQ.out rfl rfl
        clear QQ
        go_wp2_with (first
          | (refine load_row_if (by rfl) 24 (.tmp 14) rfl 32 5 b14 rfl 24 (CELLS r).toArray (0, 0) k14 Tryd.underlying24 (info_arr lr) ?_)
          | (refine load_row_if (by rfl) 24 (.tmp 15) rfl 32 5 b15 rfl 24 (CELLS s).toArray (0, 0) k15 Tryd.underlying24 (info_arr ls) ?_)
          | (refine load_row_if (by rfl) 24 (.tmp 17) rfl 32 5 b17 rfl 24 (CELLS r2).toArray (0, 0) k17 Tryd.underlying24 (info_arr lr2) ?_)
          | (refine load_row_if (by rfl) 24 (.tmp 18) rfl 32 5 b18 rfl 24 (CELLS s2).toArray (0, 0) k18 Tryd.underlying24 (info_arr ls2) ?_)
          | fail)
        refine ca.mono ?_
        rintro e w9 ⟨rfl, hb9⟩
        clear ca
        go_wp2
        go_ret
        exact ⟨rfl, hb9⟩
end Go.Proofs.YtccghfpnakkmaaaDoor

/- What the card's row gives the walks of layer 3: spots that came in; the table of math/bits. -/
namespace Go.Proofs.YtccghfpnakkmaaaDoor
open Go.ChangeShapes Go.WideShapes Go.ChangeAt Go.WideMaps Go.WideElems Go.RowKit
set_option maxRecDepth 100000

theorem own : ownKnob Tryd.prog.godebug = none := by kernel_rfl
theorem laidOut : laidOutB Tryd.prog = true := by kernel_rfl
theorem gTab : Tryd.prog.globalNamed "math/bits.deBruijn64tab" = some 2 := by kernel_rfl
theorem tTab : (Tryd.prog.globals[2]?).map (·.type) = some 44 := by kernel_rfl
theorem tabData {H : Type} : (Rows.laid_math_bits_deBruijn64tab : DataW H) = .agg (TAB.map fun n => .lit (.int .u8 (n : Nat))) := rfl
theorem of_laid {W : World} (h : laidMetH Tryd.prog [("math/bits.deBruijn64tab", Rows.laid_math_bits_deBruijn64tab)] W) : Tabled W ∧ 0 < W.heap.size := by
  rw [MakeChecks.laidMetH_plain _ _ _ (by kernel_rfl)] at h
  obtain ⟨ps, ⟨g0, t0, cs0, f0, p0, q0, hg0, ht0, hv0, hd0, _, _⟩, _, _⟩ := h
  obtain rfl := Option.some.inj (gTab.symm.trans hg0)
  obtain rfl := Option.some.inj (tTab.symm.trans ht0)
  obtain ⟨xs, m1, rfl, hx1, hlen, hn, hel⟩ := DataW.trod_array Tryd.underlying44 hd0
  have c5 : Tryd.prog.cellsOf 5 = 1 := by kernel_rfl
  simp only [Prod.mk.injEq] at hx1
  have hx := hx1.1
  rw [tabData] at hx
  simp only [DataW.agg.injEq] at hx
  have T : Tabled W := fun i hi => by
    have h0 := hel i hi
    have hi' : i < xs.length := by omega
    rw [List.getElem?_eq_getElem hi', c5, Nat.mul_one] at h0
    obtain ⟨k, e1, e2, _⟩ := DataW.trod_int Tryd.underlying5 h0
    have hk : (k : Int) = ((TAB.getD i 0 : Nat) : Int) := by
      have hz := congrArg (fun l => l[i]?) hx
      have hT : i < TAB.length := hi
      simp only [List.getElem?_map, List.getElem?_eq_getElem hi', List.getElem?_eq_getElem hT, Option.map_some, e2] at hz
      simp at hz
      rw [List.getD_eq_getElem?_getD, List.getElem?_eq_getElem hT]
      simpa using hz.symm
    have hv := World.var?_cell hg0 hv0 i
    rw [hv, ← hk]
    have := congrArg (fun l => l[0]?) e1
    simp at this
    simpa using this
  refine ⟨T, ?_⟩
  have := T 0 (by decide)
  exact Nat.lt_of_le_of_lt (Nat.zero_le _) (World.block_lt_of_cell? W _ this)
/-- a spot that came in. -/
theorem open_spot {H : Type} {enc : TypeId × Value → H} {W : World} {r : Reach} {b0 base : Nat} {sp : Nat → Bool} {held : Bool} {v : Value} {d : DataW H} {ps : List MemPlace}
    (hval : Value.okWide Tryd.prog W r b0 108 v) (hd : DataW.Trod enc Tryd.prog W base sp held 108 v d ps) : ∃ h k : Nat, h < 256 ∧ k < 2 ^ 64 ∧ v = SPOT h k := by
  simp only [Value.okWide, Tryd.underlying108] at hval
  obtain ⟨cs, rfl, hsz, _⟩ := hval
  obtain ⟨fuel, hf⟩ := hd
  obtain ⟨y0, y1, m, _, hl, h0, h1⟩ := trod_struct2 Tryd.underlying108 hf
  obtain ⟨a, e1, _, e3⟩ := DataW.trod_int Tryd.underlying5 h0
  obtain ⟨b, f1, _, f3⟩ := DataW.trod_int Tryd.underlying22 h1
  have c1 : Tryd.prog.cellsOf 5 = 1 := by kernel_rfl
  have c2 : Tryd.prog.cellsOf 22 = 1 := by kernel_rfl
  have c3 : Tryd.prog.cellsOf 108 = 2 := by kernel_rfl
  rw [c3] at hsz
  rw [c1] at e1
  rw [c2] at f1
  have ha := bounds_u8 e3
  have hb := wf_u64 f3
  obtain ⟨x, y, rfl⟩ : ∃ x y, cs = #[x, y] := by
    obtain ⟨l⟩ := cs
    match l, hsz with
    | [x, y], _ => exact ⟨x, y, rfl⟩
  simp [Value.cells] at e1 f1
  subst e1 f1
  refine ⟨a.toNat, b.toNat, by omega, by omega, ?_⟩
  rw [SPOT, Int.toNat_of_nonneg (by omega), Int.toNat_of_nonneg (by omega)]
end Go.Proofs.YtccghfpnakkmaaaDoor

/- What the card's row gives the walks of layer 7: hashes, lists of hashes, proofs and bytes that came in. -/
namespace Go.Proofs.YtccghfpnakkmaaaDoor
open Go.ChangeShapes Go.WideShapes Go.ChangeAt Go.WideMaps Go.WideElems Go.RowKit Go.Deep
set_option maxRecDepth 100000

/-- one hash, by its cells. -/
theorem open_hash {H : Type} {enc : TypeId × Value → H} {W : World} {fuel : Nat} {cs : List Value} {x : DataW H × List MemPlace} (hf : DataW.trod enc Tryd.prog W 0 (fun _ => true) true fuel 24 cs = some x) : ∃ h : List Int, h.length = 32 ∧ (∀ x ∈ h, 0 ≤ x ∧ x ≤ 255) ∧ cs = CELLS h := by
  obtain ⟨xs, m, rfl, _, hl, hn, hel⟩ := DataW.trod_array Tryd.underlying24 hf
  have c5 : Tryd.prog.cellsOf 5 = 1 := by kernel_rfl
  have c32 : Tryd.prog.cellsOf 24 = 32 := by kernel_rfl
  rw [c32] at hl
  have hx : ∀ i, i < 32 → ∃ k : Int, cs[i]? = some (.int .u8 k) ∧ 0 ≤ k ∧ k ≤ 255 := fun i hi => by
    have h0 := hel i hi
    rw [List.getElem?_eq_getElem (by omega), c5, Nat.mul_one] at h0
    obtain ⟨k, e1, _, e3⟩ := DataW.trod_int Tryd.underlying5 h0
    have hb := bounds_u8 e3
    refine ⟨k, ?_, by omega, by omega⟩
    have := congrArg (fun l => l[0]?) e1
    simpa using this
  have F : ∃ f : Nat → Int, ∀ i, i < 32 → cs[i]? = some (.int .u8 (f i)) ∧ 0 ≤ f i ∧ f i ≤ 255 := by
    refine ⟨fun i => if hi : i < 32 then (hx i hi).choose else 0, fun i hi => ?_⟩
    simp only [hi, dif_pos]
    exact (hx i hi).choose_spec
  obtain ⟨f, hf1⟩ := F
  refine ⟨(List.range 32).map f, by simp, fun x hx => ?_, ?_⟩
  · simp only [List.mem_map, List.mem_range] at hx
    obtain ⟨i, hi, rfl⟩ := hx
    exact (hf1 i hi).2
  · apply List.ext_getElem?
    intro i
    by_cases hi : i < 32
    · rw [(hf1 i hi).1, CELLS_get _ i (by simp; exact hi), List.getD_eq_getElem?_getD, List.getElem?_map, List.getElem?_range hi]
      rfl
    · rw [List.getElem?_eq_none (by omega), List.getElem?_eq_none (by simp [CELLS]; omega)]
/-- a hash that came in. -/
theorem open_one {H : Type} {enc : TypeId × Value → H} {W : World} {r : Reach} {b0 : Nat} {v : Value} {d : DataW H} {ps : List MemPlace} (hval : Value.okWide Tryd.prog W r b0 24 v) (hd : DataW.Trod enc Tryd.prog W 0 (fun _ => true) true 24 v d ps) : ∃ h : List Int, h.length = 32 ∧ (∀ x ∈ h, 0 ≤ x ∧ x ≤ 255) ∧ v = .agg (CELLS h).toArray := by
  simp only [Value.okWide, Tryd.underlying24] at hval
  obtain ⟨cs, rfl, hsz, _⟩ := hval
  obtain ⟨fuel, hf⟩ := hd
  obtain ⟨h, h1, h2, h3⟩ := open_hash hf
  refine ⟨h, h1, h2, ?_⟩
  congr 1
  apply Array.ext'
  simpa [Value.cells] using h3
/-- a list of hashes that came in. -/
theorem open_flat {H : Type} {enc : TypeId × Value → H} {W : World} {fuel : Nat} {a : Option Addr} {k c : Nat} {x : DataW H × List MemPlace} (hf : DataW.trod enc Tryd.prog W 0 (fun _ => true) true fuel 32 [.slice a k c] = some x) :
    ∃ l : List Int, Flat W a k l ∧ (a = none → c = 0) ∧ k ≤ c := by
  rcases DataW.trod_slice Tryd.underlying32 hf with ⟨h0, _⟩ | ⟨ad, len, cap, elems, rest, n, _, h0, hx, _, hl, hm, hlen, hel, _, _⟩
  · simp at h0
    obtain ⟨rfl, rfl, rfl⟩ := h0
    exact ⟨[], ⟨rfl, fun h => absurd h (by omega), by simp⟩, fun _ => rfl, Nat.le_refl _⟩
  · simp at h0
    obtain ⟨rfl, rfl, rfl⟩ := h0
    have c32 : Tryd.prog.cellsOf 24 = 32 := by kernel_rfl
    have each : ∀ i, i < k → ∃ h : List Int, h.length = 32 ∧ (∀ x ∈ h, 0 ≤ x ∧ x ≤ 255) ∧ ∀ j, j < 32 → W.cell? ((ad.add (i * 32)).add j) = some (.int .u8 (h.getD j 0)) := fun i hi => by
      have h := hel i hi
      rw [List.getElem?_eq_getElem (by omega), c32, Option.bind_eq_some_iff] at h
      obtain ⟨cs, hcs, ht⟩ := h
      obtain ⟨f, h1, h2, rfl⟩ := open_hash ht
      have hs := (World.cells?_some hcs).2.2
      refine ⟨f, h1, h2, fun j hj => ?_⟩
      have s := hs j hj
      rw [s]
      exact CELLS_get f j (by omega)
    have F : ∃ f : Nat → List Int, ∀ i, i < k → (f i).length = 32 ∧ (∀ x ∈ f i, 0 ≤ x ∧ x ≤ 255) ∧ ∀ j, j < 32 → W.cell? ((ad.add (i * 32)).add j) = some (.int .u8 ((f i).getD j 0)) := by
      refine ⟨fun i => if hi : i < k then (each i hi).choose else [], fun i hi => ?_⟩
      simp only [hi, dif_pos]
      exact (each i hi).choose_spec
    obtain ⟨f, hf2⟩ := F
    have hrange : ∀ i, i < k → ∀ j, j < 32 → 0 ≤ (f i).getD j 0 ∧ (f i).getD j 0 ≤ 255 := fun i hi j hj => by
      rw [List.getD_eq_getElem?_getD, List.getElem?_eq_getElem (by rw [(hf2 i hi).1]; exact hj)]
      exact (hf2 i hi).2.1 _ (List.getElem_mem _)
    refine ⟨(List.range (32 * k)).map fun m => (f (m / 32)).getD (m % 32) 0, ⟨by simp, fun h0k => ?_, fun x hx => ?_⟩, (fun e => by cases e), by omega⟩
    · obtain ⟨b, off, spot⟩ := ad
      have hc := (hf2 0 h0k).2.2 0 (by decide)
      have hspot : spot = none := by simpa [Addr.add] using World.cell?_spot hc
      subst hspot
      refine ⟨b, off, rfl, ?_, fun m hm => ?_⟩
      · have := World.block_lt_of_cell? W _ hc
        simpa [Addr.add] using this
      · have h1 := (hf2 (m / 32) (by omega)).2.2 (m % 32) (by omega)
        rw [addr_add, addr_add] at h1
        rw [List.getD_eq_getElem?_getD, List.getElem?_map, List.getElem?_range hm]
        simp only [Option.map_some, Option.getD_some]
        rw [← h1]
        congr 2
        omega
    · simp only [List.mem_map, List.mem_range] at hx
      obtain ⟨m, hm, rfl⟩ := hx
      exact hrange _ (by omega) _ (by omega)
/-- a list of hashes, as an argument. -/
theorem open_list {H : Type} {enc : TypeId × Value → H} {W : World} {a : Option Addr} {k c : Nat} {d : DataW H} {ps : List MemPlace} (hd : DataW.Trod enc Tryd.prog W 0 (fun _ => true) true 32 (.slice a k c) d ps) : ∃ l : List Int, Flat W a k l ∧ (a = none → c = 0) ∧ k ≤ c := by
  obtain ⟨fuel, hf⟩ := hd
  exact open_flat (by simpa [Value.cells] using hf)
/-- a list of bytes that came in. -/
theorem open_text {H : Type} {enc : TypeId × Value → H} {W : World} {a : Option Addr} {len cap : Nat} {d : DataW H} {ps : List MemPlace} (hd : DataW.Trod enc Tryd.prog W 0 (fun _ => true) true 25 (.slice a len cap) d ps) :
    ∃ l : List Int, Bytes W a len l ∧ (a = none → cap = 0) ∧ len ≤ cap := by
  obtain ⟨fuel, hf⟩ := hd
  rcases open_ints Tryd.underlying25 Tryd.underlying5 (by kernel_rfl) hf with ⟨hcs, _⟩ | ⟨x, l, c, zs, hcs, _, hl, hm, hz, hx, hcell, hwz⟩
  · simp [Value.cells] at hcs
    obtain ⟨rfl, rfl, rfl⟩ := hcs
    exact ⟨[], ⟨rfl, fun h => by omega, by simp⟩, fun _ => rfl, Nat.le_refl _⟩
  · simp [Value.cells] at hcs
    obtain ⟨rfl, rfl, rfl⟩ := hcs
    have hr : IsRow .u8 W (some x) len cap zs := .inr ⟨_, rfl, hl, hm, by simpa using hz, hcell, hwz⟩
    exact ⟨_, hr.bytes, (fun e => by cases e), hl⟩
end Go.Proofs.YtccghfpnakkmaaaDoor

/- What the card's row gives the walks: arrays and slices of bytes that came in; the two tables. -/
namespace Go.Proofs.YtccghfpnakkmaaaDoor.HX
set_option maxRecDepth 100000
open Go.ChangeShapes Go.WideShapes Go.ChangeAt Go.WideMaps Go.WideElems Go.RowKit

theorem own : ownKnob Tryd.prog.godebug = none := by kernel_rfl
theorem laidOut : laidOutB Tryd.prog = true := by kernel_rfl
theorem gRounds : Tryd.prog.globalNamed "massif/hash.rounds" = some 0 := by kernel_rfl
theorem gBegin : Tryd.prog.globalNamed "massif/hash.begin" = some 1 := by kernel_rfl
theorem tRounds : (Tryd.prog.globals[0]?).map (·.type) = some 88 := by kernel_rfl
theorem tBegin : (Tryd.prog.globals[1]?).map (·.type) = some 86 := by kernel_rfl
theorem roundsData {H : Type} : (Rows.laid_massif_hash_rounds : DataW H) = .agg (KLIST.map fun n => .lit (.int .u32 (n : Nat))) := rfl
theorem beginData {H : Type} : (Rows.laid_massif_hash_begin : DataW H) = .agg (BEGIN.map fun n => .lit (.int .u32 (n : Nat))) := rfl

/-- an array of bytes that came in. -/
theorem open_bytes {H : Type} {enc : TypeId × Value → H} {W : World} {r : Reach} {b0 base : Nat} {sp : Nat → Bool} {held : Bool} {t : TypeId} {n : Nat} {v : Value} {d : DataW H} {ps : List MemPlace} (ht : Tryd.prog.underlying t = some (.array n 5)) (hc : Tryd.prog.cellsOf t = n)
    (hval : Value.okWide Tryd.prog W r b0 t v) (hd : DataW.Trod enc Tryd.prog W base sp held t v d ps) : ∃ s : Nat → Nat, (∀ i, s i < 256) ∧ v = .agg (UARR .u8 n s) := by
  simp only [Value.okWide, ht] at hval
  obtain ⟨cs, rfl, hsz, _⟩ := hval
  obtain ⟨fuel, hf⟩ := hd
  obtain ⟨xs, m, rfl, _, _, hn, hel⟩ := DataW.trod_array ht hf
  have c5 : Tryd.prog.cellsOf 5 = 1 := by kernel_rfl
  have hx : ∀ i, i < n → ∃ k : Int, cs[i]? = some (.int .u8 k) ∧ (Lit.int .u8 k).wf = true := fun i hi => by
    have h0 := hel i hi
    rw [List.getElem?_eq_getElem (by omega), c5, Nat.mul_one] at h0
    obtain ⟨k, e1, _, e3⟩ := DataW.trod_int Tryd.underlying5 h0
    refine ⟨k, ?_, e3⟩
    have := congrArg (fun l => l[0]?) e1
    simpa [Value.cells] using this
  refine ⟨fun i => match cs[i]? with | some (.int _ k) => if i < n then k.toNat else 0 | _ => 0, fun i => ?_, ?_⟩
  · by_cases hi : i < n
    · obtain ⟨k, hk, hw⟩ := hx i hi
      simp only [hk, hi, if_true]
      have := bounds_u8 hw
      omega
    · dsimp only
      split
      · simp [hi]
      · decide
  · congr 1
    apply Array.ext_getElem?
    intro i
    by_cases hi : i < n
    · obtain ⟨k, hk, hw⟩ := hx i hi
      rw [UARR_get _ _ _ _ hi, hk]
      simp only [hi, if_true]
      have := bounds_u8 hw
      congr 2
      omega
    · rw [Array.getElem?_eq_none (by rw [hsz, hc]; omega), Array.getElem?_eq_none (by rw [UARR_size]; omega)]
/-- a slice of bytes that came in. -/
theorem open_text {H : Type} {enc : TypeId × Value → H} {W : World} {a : Option Addr} {len cap : Nat} {d : DataW H} {ps : List MemPlace} (hd : DataW.Trod enc Tryd.prog W 0 (fun _ => true) true 25 (.slice a len cap) d ps) :
    ∃ l : List Nat, Text W a len l ∧ (a = none → cap = 0) := by
  have hr : ∃ zs, IsRow .u8 W a len cap zs := by
    obtain ⟨fuel, hf⟩ := hd
    rcases open_ints Tryd.underlying25 Tryd.underlying5 (by kernel_rfl) hf with ⟨hcs, _⟩ | ⟨x, l, c, zs, hcs, _, hl, hm, hz, hx, hcell, hwz⟩
    · simp [Value.cells] at hcs
      obtain ⟨rfl, rfl, rfl⟩ := hcs
      exact ⟨[], .inl ⟨rfl, rfl, rfl, rfl⟩⟩
    · simp [Value.cells] at hcs
      obtain ⟨rfl, rfl, rfl⟩ := hcs
      exact ⟨zs, .inr ⟨_, rfl, hl, hm, by simpa using hz, hcell, hwz⟩⟩
  obtain ⟨zs, hr⟩ := hr
  have hb := hr.bytes
  have e : INTS ((zs.take len).map Int.toNat) = zs.take len := by
    unfold INTS
    rw [List.map_map]
    conv => rhs; rw [← List.map_id (zs.take len)]
    apply List.map_congr_left
    intro x hx
    have := hb.2.2 x hx
    simp
    omega
  refine ⟨(zs.take len).map Int.toNat, Text.of_bytes (by rw [e]; exact hb), fun h => ?_⟩
  rcases hr with ⟨_, _, h3, _⟩ | ⟨x, h1, _⟩
  · exact h3
  · rw [h] at h1
    cases h1
theorem table_at {H : Type} {enc : TypeId × Value → H} {W : World} {base fuel n : Nat} {sp : Nat → Bool} {held : Bool} {t : TypeId} {cs : List Value} {ps : List MemPlace} (L : List Nat) (hL : L.length = n) (ht : Tryd.prog.underlying t = some (.array n 85))
    (hd : DataW.trod enc Tryd.prog W base sp held fuel t cs = some (.agg (L.map fun n => .lit (.int .u32 (n : Nat))), ps)) (i : Nat) (hi : i < n) : cs[i]? = some (.int .u32 (L.getD i 0 : Nat)) := by
  obtain ⟨xs, m1, rfl, hx1, hlen, hn, hel⟩ := DataW.trod_array ht hd
  have c5 : Tryd.prog.cellsOf 85 = 1 := by kernel_rfl
  simp only [Prod.mk.injEq, DataW.agg.injEq] at hx1
  have hx := hx1.1
  have h0 := hel i hi
  have hi' : i < xs.length := by omega
  rw [List.getElem?_eq_getElem hi', c5, Nat.mul_one] at h0
  obtain ⟨k, e1, e2, _⟩ := DataW.trod_int Tryd.underlying85 h0
  have hk : (k : Int) = ((L.getD i 0 : Nat) : Int) := by
    have hz := congrArg (fun l => l[i]?) hx
    have hT : i < L.length := by omega
    simp only [List.getElem?_map, List.getElem?_eq_getElem hi', List.getElem?_eq_getElem hT, Option.map_some, e2] at hz
    simp at hz
    rw [List.getD_eq_getElem?_getD, List.getElem?_eq_getElem hT]
    simpa using hz.symm
  rw [← hk]
  have := congrArg (fun l => l[0]?) e1
  simpa using this
theorem of_laid {W : World} (h : laidMetH Tryd.prog [("massif/hash.begin", Rows.laid_massif_hash_begin), ("massif/hash.rounds", Rows.laid_massif_hash_rounds)] W) : Tabled W := by
  rw [MakeChecks.laidMetH_plain _ _ _ (by kernel_rfl)] at h
  obtain ⟨ps, ⟨g0, t0, cs0, f0, p0, q0, hg0, ht0, hv0, hd0, ⟨g1, t1, cs1, f1, p1, q1, hg1, ht1, hv1, hd1, _, _⟩, _⟩, _, _⟩ := h
  obtain rfl := Option.some.inj (gBegin.symm.trans hg0)
  obtain rfl := Option.some.inj (tBegin.symm.trans ht0)
  obtain rfl := Option.some.inj (gRounds.symm.trans hg1)
  obtain rfl := Option.some.inj (tRounds.symm.trans ht1)
  rw [beginData] at hd0
  rw [roundsData] at hd1
  have A : ∀ i, i < 8 → W.cell? ⟨1, i, none⟩ = some (.int .u32 (BEGIN.getD i 0 : Nat)) := fun i hi => (World.var?_cell hg0 hv0 i).trans (Array.getElem?_toList.symm.trans (table_at BEGIN rfl Tryd.underlying86 hd0 i hi))
  have B : ∀ i, i < 64 → W.cell? ⟨0, i, none⟩ = some (.int .u32 (KC i : Nat)) := fun i hi => (World.var?_cell hg1 hv1 i).trans (Array.getElem?_toList.symm.trans (table_at KLIST rfl Tryd.underlying88 hd1 i hi))
  exact ⟨B, A, by have h1 : 1 < W.heap.size := World.block_lt_of_cell? W _ (A 0 (by decide)); have h2 : 0 < W.heap.size := World.block_lt_of_cell? W _ (B 0 (by decide)); omega⟩
end Go.Proofs.YtccghfpnakkmaaaDoor.HX
