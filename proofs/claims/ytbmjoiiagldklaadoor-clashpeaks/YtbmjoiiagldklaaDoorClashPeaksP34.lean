/- Texts of ClashPeaks, one behind the other: ClashPeaksWalk, PosDoor, ProofDoor, HashDoor. -/
import Derived.Test.YtbmjoiiagldklaaDoorRows
import Derived.ProofKit
import Derived.LaidMore
import Derived.OpenShut
import Derived.Stop.Joined
import Derived.Deep.Strs
import Derived.Test.YtbmjoiiagldklaaDoorClashPeaksP5
import Derived.Test.YtbmjoiiagldklaaDoorClashPeaksP6
import Derived.Test.YtbmjoiiagldklaaDoorClashPeaksP12
import Derived.Test.YtbmjoiiagldklaaDoorClashPeaksP27
import Derived.Test.YtbmjoiiagldklaaDoorClashPeaksP28
import Derived.Test.YtbmjoiiagldklaaDoorClashPeaksP29
import Derived.Test.YtbmjoiiagldklaaDoorClashPeaksP31
import Derived.Test.YtbmjoiiagldklaaDoorClashPeaksP32
import Derived.Test.YtbmjoiiagldklaaDoorClashPeaksP33
/- The document's Bag of any list; the walk of the law ClashPeaks. -/
namespace Go.Proofs.YtbmjoiiagldklaaDoor
open Go.RowKit
set_option maxRecDepth 100000

theorem zero_uarr : HX.UARR .u8 32 (fun _ => 0) = (CELLS ZND).toArray := by rw [uarr_cells]; rfl
theorem refbag9_ok (d : Int) (n : Nat) (a : Option Addr) (k c : Nat) (l : List Int) (w : World) (hF : Flat w a k l) : Calls Tryd.prog 6 #[.int .i64 d, .int .u64 (n : Int), .slice a k c] w fun e w' => e = .returned (.tuple #[.agg (CELLS (BAGA d n k l).2).toArray, .int .i64 (BAGA d n k l).1]) ∧ Below w.heap.size w w' := by
  by_cases h1 : 4611686018427387904 < n
  · have e : BAGA d n k l = (30, ZND) := by unfold BAGA; rw [if_pos h1]
    rw [e, ← zero_uarr]
    exact HX.refbag_far d n a k c w (by omega)
  · by_cases h2 : k ≠ PC n
    · have e : BAGA d n k l = (70, ZND) := by unfold BAGA; rw [if_neg h1, if_pos h2]
      rw [e, ← zero_uarr]
      exact HX.refbag_count d n (by omega) a k c w h2
    · have e : BAGA d n k l = (0, ROOTH d n (FLD d l k)) := by unfold BAGA; rw [if_neg h1, if_neg h2]
      rw [e]
      exact refbag8_any d n (by omega) a k c (by omega) l w hF
theorem CLPK_holds {d : Int} {n k k' : Nat} {l l' : List Int} {s t : List Nat} (h : CLPK d n k l k' l' = some (s, t)) : s ≠ t ∧ HSHT d s = HSHT d t := by
  unfold CLPK at h
  split at h
  · have := CLS_some h
    exact ⟨this.1, this.2.1⟩
  · cases h
set_option maxHeartbeats 1000000 in
theorem clashPeaks_long (d : Int) (n : Nat) (a b : Option Addr) (k k' ca cb : Nat) (hk : 300 < k ∨ 300 < k') (w : World) : Calls Tryd.prog 3 #[.int .i64 d, .int .u64 (n : Int), .slice a k ca, .slice b k' cb] w fun e w' => e = .returned (.bool true) ∧ Below w.heap.size w w' := by
  by_cases h : (300 : Int) < (k : Int)
  · go_enter Tryd.func3, Tryd.ntmps3
    go_wp2
    go_ret
    exact ⟨rfl, Below.refl _ _⟩
  · have h2 : (300 : Int) < (k' : Int) := by omega
    go_enter Tryd.func3, Tryd.ntmps3
    go_wp2
    go_ret
    exact ⟨rfl, Below.refl _ _⟩
set_option maxHeartbeats 8000000 in
theorem clashPeaks_short (d : Int) (n : Nat) (hn : n < 2 ^ 64) (a b : Option Addr) (k k' ca cb : Nat) (hk : k ≤ 300) (hk' : k' ≤ 300) (hca : a = none → ca = 0) (hcb : b = none → cb = 0) (l l' : List Int) (w : World) (hA : Flat w a k l) (hB : Flat w b k' l') (hX : HX.Tabled w) :
    Calls Tryd.prog 3 #[.int .i64 d, .int .u64 (n : Int), .slice a k ca, .slice b k' cb] w fun e w' => e = .returned (.bool true) ∧ Below w.heap.size w w' := by
  have l1 : ¬ (300 : Int) < (k : Int) := by omega
  have l2 : ¬ (300 : Int) < (k' : Int) := by omega
  have HA : Aside (n < 2 ^ 64 ∧ k ≤ 300 ∧ k' ≤ 300 ∧ Flat w a k l ∧ Flat w b k' l' ∧ HX.Tabled w) := ⟨hn, hk, hk', hA, hB, hX⟩
  have iR : IsH (BAGA d n k l).2 := BAGA_is
  have iS : IsH (BAGA d n k' l').2 := BAGA_is
  have c1 := row9_ok a k ca (by omega) hca l w hA
  have C2 : Aside (∀ W, Below w.heap.size w W → Calls Tryd.prog 5 #[.slice b k' cb] W (ROWED W k' l')) := fun W h => row9_ok b k' cb (by omega) hcb l' W (hB.below h)
  have C3 : Aside (∀ W, Below w.heap.size w W → Calls Tryd.prog 6 #[.int .i64 d, .int .u64 (n : Int), .slice a k ca] W fun e w' => e = .returned (.tuple #[.agg (CELLS (BAGA d n k l).2).toArray, .int .i64 (BAGA d n k l).1]) ∧ Below W.heap.size W w') := fun W h => refbag9_ok d n a k ca l W (hA.below h)
  have C4 : Aside (∀ W, Below w.heap.size w W → Calls Tryd.prog 6 #[.int .i64 d, .int .u64 (n : Int), .slice b k' cb] W fun e w' => e = .returned (.tuple #[.agg (CELLS (BAGA d n k' l').2).toArray, .int .i64 (BAGA d n k' l').1]) ∧ Below W.heap.size W w') := fun W h => refbag9_ok d n b k' cb l' W (hB.below h)
  have HH : Aside ((∀ s t, CLPK d n k l k' l' = some (s, t) → s ≠ t ∧ HSHT d s = HSHT d t) ∧ (¬ ((BAGA d n k l).1 = 0 ∧ (BAGA d n k' l').1 = 0 ∧ (BAGA d n k l).2 = (BAGA d n k' l').2 ∧ l ≠ l') → CLPK d n k l k' l' = none) ∧ ((BAGA d n k l).1 = 0 ∧ (BAGA d n k' l').1 = 0 ∧ (BAGA d n k l).2 = (BAGA d n k' l').2 ∧ l ≠ l' → (CLPK d n k l k' l').isSome = true)) := ⟨fun s t h => CLPK_holds h, fun h => by unfold CLPK; rw [if_neg h], fun h => by obtain ⟨s, t, e⟩ := CLPK_some hA.1 hA.2.2 hB.1 hB.2.2 h; rw [e]; rfl⟩
  have C5 : Aside (∀ W ga xc gb yc, Flat W (some ⟨ga, 0, none⟩) k l → Flat W (some ⟨gb, 0, none⟩) k' l' → HX.Tabled W → Calls Tryd.prog 7 #[.int .i64 d, .int .u64 (n : Int), .slice (some ⟨ga, 0, none⟩) k xc, .slice (some ⟨gb, 0, none⟩) k' yc] W (CLASHED W (CLPK d n k l k' l'))) := fun W ga xc gb yc h1 h2 h3 => cpeaks9_ok d n hn _ _ k k' xc yc (by omega) (by omega) l l' W h1 h2 h3
  generalize CLPK d n k l k' l' = X at *
  generalize (BAGA d n k l).2 = R at *
  generalize (BAGA d n k l).1 = E at *
  generalize (BAGA d n k' l').2 = S2 at *
  generalize (BAGA d n k' l').1 = E' at *
  have lR := iR.1
  have lS2 := iS.1
  clear hn hk hk' hA hB hX iR iS hca hcb
  go_enter Tryd.func3, Tryd.ntmps3
  go_wp2_with fail
  refine c1.mono ?_
  rintro e w1 ⟨ga, xc, rfl, o1, cap1, mk1, lt1, hb1⟩
  clear c1
  have c2 := C2.out w1 hb1
  go_wp2_with fail
  refine c2.mono ?_
  rintro e w2 ⟨gb, yc, rfl, o2, cap2, mk2, lt2, hb2⟩
  have hbw2 : Below w.heap.size w w2 := hb1.trans (hb2.mono hb1.size)
  have fa : Flat w2 (some ⟨ga, 0, none⟩) k l := (own_flat o1 HA.out.2.2.2.1.2.2).below hb2
  have fb : Flat w2 (some ⟨gb, 0, none⟩) k' l' := own_flat o2 HA.out.2.2.2.2.1.2.2
  have R2 : Aside (Below w.heap.size w w2 ∧ Flat w2 (some ⟨ga, 0, none⟩) k l ∧ Flat w2 (some ⟨gb, 0, none⟩) k' l' ∧ w2.rangeAt ga (k * 32) (CELLS MRK) ∧ w2.rangeAt gb (k' * 32) (CELLS MRK) ∧ ga < w2.heap.size ∧ gb < w2.heap.size ∧ k + 1 ≤ xc ∧ k' + 1 ≤ yc) := ⟨hbw2, fa, fb, range_below mk1 hb2 lt1, mk2, Nat.lt_of_lt_of_le lt1 hb2.size, lt2, cap1, cap2⟩
  have c3 := C3.out w2 hbw2
  clear c2 C2 C3 hb1 hb2 fa fb mk1 mk2 lt1 lt2 cap1 cap2 o1 o2 hbw2
  go_wp2_with fail
  refine c3.mono ?_
  rintro e w3 ⟨rfl, hb3⟩
  clear c3
  go_upto_region 5 with (first
    | (refine wpList_store_row rfl 26 (.tmp 11) (.tmp 36) rfl _ _ rfl rfl 26 _ (Has.new w3 _ _) (info_arr lR) (by simp [CELLS, lR]) (cells_one R) ?_; rw [World.setRow_alloc_new])
    | fail)
  obtain ⟨w4, hw4⟩ : ∃ w4, w3.alloc (.cells (CELLS R).toArray 26) = w4 := ⟨_, rfl⟩
  obtain ⟨b11, hb11⟩ : ∃ b, w3.heap.size = b := ⟨_, rfl⟩
  rw [hw4, hb11]
  have hb24 : Below w2.heap.size w2 w4 := by rw [← hw4]; exact hb3.alloc hb3.size _
  have k11 : Has w4 b11 (CELLS R).toArray 26 := by rw [← hw4, ← hb11]; exact Has.new _ _ _
  have c4 := C4.out w4 (R2.out.1.trans (hb24.mono R2.out.1.size))
  have R4 : Aside (Below w2.heap.size w2 w4 ∧ Has w4 b11 (CELLS R).toArray 26) := ⟨hb24, k11⟩
  clear hw4 hb11 hb3 hb24 k11 C4
  go_wp2_with fail
  refine c4.mono ?_
  rintro e w5 ⟨rfl, hb5⟩
  clear c4
  go_upto_region 6 with (first
    | (refine wpList_store_row rfl 26 (.tmp 13) (.tmp 43) rfl _ _ rfl rfl 26 _ (Has.new w5 _ _) (info_arr lS2) (by simp [CELLS, lS2]) (cells_one S2) ?_; rw [World.setRow_alloc_new])
    | fail)
  obtain ⟨w6, hw6⟩ : ∃ w6, w5.alloc (.cells (CELLS S2).toArray 26) = w6 := ⟨_, rfl⟩
  obtain ⟨b13, hb13⟩ : ∃ b, w5.heap.size = b := ⟨_, rfl⟩
  rw [hw6, hb13]
  have hb46 : Below w4.heap.size w4 w6 := by rw [← hw6]; exact hb5.alloc hb5.size _
  have hb26 : Below w2.heap.size w2 w6 := R4.out.1.trans (hb46.mono R4.out.1.size)
  have k13 : Has w6 b13 (CELLS S2).toArray 26 := by rw [← hw6, ← hb13]; exact Has.new _ _ _
  have hbw6 : Below w.heap.size w w6 := R2.out.1.trans (hb26.mono R2.out.1.size)
  have c5 := C5.out w6 ga xc gb yc (R2.out.2.1.below hb26) (R2.out.2.2.1.below hb26) (HA.out.2.2.2.2.2.below hbw6)
  have R6 : Aside (Below w2.heap.size w2 w6 ∧ Has w6 b11 (CELLS R).toArray 26 ∧ Has w6 b13 (CELLS S2).toArray 26 ∧ Below w.heap.size w w6) := ⟨hb26, R4.out.2.keep hb46, k13, hbw6⟩
  clear hw6 hb13 hb5 hb46 hb26 k13 hbw6 R4
  go_wp2_with fail
  refine c5.mono ?_
  intro e w7 hcl
  obtain ⟨a1, n1, q1, a2, n2, q2, o1, rfl, t1, hb7⟩ := hcl.told
  clear hcl c5
  go_upto_region 7 with fail
  obtain ⟨w8, hw8⟩ : ∃ w8, w7.alloc (.cells #[.slice a1 n1 q1, .slice a2 n2 q2] 32) = w8 := ⟨_, rfl⟩
  obtain ⟨b15, hb15⟩ : ∃ b, w7.heap.size = b := ⟨_, rfl⟩
  rw [hw8, hb15]
  have hb78 : Below w7.heap.size w7 w8 := by rw [← hw8]; exact (Below.refl _ _).alloc (Nat.le_refl _) _
  have hb68 : Below w6.heap.size w6 w8 := hb7.trans (hb78.mono hb7.size)
  have k15 : Has w8 b15 #[.slice a1 n1 q1, .slice a2 n2 q2] 32 := by rw [← hw8, ← hb15]; exact Has.new _ _ _
  have t1' := t1.below hb78
  have hb28 : Below w2.heap.size w2 w8 := R6.out.1.trans (hb68.mono R6.out.1.size)
  have c6 := C5.out w8 ga xc gb yc (R2.out.2.1.below hb28) (R2.out.2.2.1.below hb28) (HA.out.2.2.2.2.2.below (R2.out.1.trans (hb28.mono R2.out.1.size)))
  have R8 : Aside (Below w6.heap.size w6 w8 ∧ Has w8 b15 #[.slice a1 n1 q1, .slice a2 n2 q2] 32 ∧ TOLD1 w8 w6.heap.size X (.slice a1 n1 q1) (.slice a2 n2 q2) o1) := ⟨hb68, k15, t1'⟩
  clear hw8 hb15 hb78 hb68 k15 t1 t1' hb28 hb7 C5
  go_wp2_with fail
  refine c6.mono ?_
  intro e w9 hcl
  obtain ⟨a3, n3, q3, a4, n4, q4, o2, rfl, t2, hb9⟩ := hcl.told
  clear hcl c6
  go_upto_region 8 with fail
  obtain ⟨w10, hw10⟩ : ∃ w10, w9.alloc (.cells #[.slice a3 n3 q3, .slice a4 n4 q4] 32) = w10 := ⟨_, rfl⟩
  obtain ⟨b17, hb17⟩ : ∃ b, w9.heap.size = b := ⟨_, rfl⟩
  rw [hw10, hb17]
  have hb910 : Below w9.heap.size w9 w10 := by rw [← hw10]; exact (Below.refl _ _).alloc (Nat.le_refl _) _
  have hb810 : Below w8.heap.size w8 w10 := hb9.trans (hb910.mono hb9.size)
  have hb610 : Below w6.heap.size w6 w10 := R8.out.1.trans (hb810.mono R8.out.1.size)
  have k17 : Has w10 b17 #[.slice a3 n3 q3, .slice a4 n4 q4] 32 := by rw [← hw10, ← hb17]; exact Has.new _ _ _
  have k15 := R8.out.2.1.keep hb810
  have tt : TOLD2 w10 w6.heap.size X (.slice a1 n1 q1) (.slice a2 n2 q2) (.slice a3 n3 q3) (.slice a4 n4 q4) o1 o2 := (R8.out.2.2.two hb9 (Nat.le_refl _) t2 R8.out.1.size).below hb910
  have KB : Aside (∀ W, Below w10.heap.size w10 W → W.cell? ⟨b15, 0, none⟩ = some (.slice a1 n1 q1) ∧ W.cell? ⟨b15, 1, none⟩ = some (.slice a2 n2 q2) ∧ W.cell? ⟨b17, 0, none⟩ = some (.slice a3 n3 q3) ∧ W.cell? ⟨b17, 1, none⟩ = some (.slice a4 n4 q4)) := fun W h => ⟨(k15.keep h).cell 0, (k15.keep h).cell 1, (k17.keep h).cell 0, (k17.keep h).cell 1⟩
  have CF : Aside (∀ W, Below w10.heap.size w10 W → Calls Tryd.prog 8 #[.int .i64 d, .agg #[.slice a1 n1 q1, .slice a2 n2 q2], .agg #[.slice a3 n3 q3, .slice a4 n4 q4], .bool o1, .bool o2, .bool X.isSome] W fun e w' => e = .returned (.bool true) ∧ Below w6.heap.size w6 w') := fun W h => (fair_told d w6.heap.size X _ _ _ _ o1 o2 W (by have := h.size; have := hb610.size; omega) (tt.below h) HH.out.1).mono fun e w' h2 => ⟨h2.1, (hb610.trans (h.mono hb610.size)).trans h2.2⟩
  have hb2W : ∀ W, Below w6.heap.size w6 W → Below w2.heap.size w2 W := fun W h => R6.out.1.trans (h.mono R6.out.1.size)
  have hbwW : ∀ W, Below w6.heap.size w6 W → Below w.heap.size w W := fun W h => R6.out.2.2.2.trans (h.mono R6.out.2.2.2.size)
  have CK : Aside (∀ W, Below w6.heap.size w6 W → Calls Tryd.prog 10 #[.slice (some ⟨ga, 0, none⟩) k xc, .slice a k ca] W fun e w' => e = .returned (.bool true) ∧ Below w6.heap.size w6 w') := fun W h => (kept9h_ok ga k xc a ca l (by have := HA.out; omega) R2.out.2.2.2.2.2.2.2.1 W (R2.out.2.1.below (hb2W W h)) (HA.out.2.2.2.1.below (hbwW W h)) (Nat.lt_of_lt_of_le R2.out.2.2.2.2.2.1 (hb2W W h).size) (range_below R2.out.2.2.2.1 (hb2W W h) R2.out.2.2.2.2.2.1)).mono fun e w' h2 => ⟨h2.1, h.trans (h2.2.mono h.size)⟩
  have CL : Aside (∀ W, Below w6.heap.size w6 W → Calls Tryd.prog 10 #[.slice (some ⟨gb, 0, none⟩) k' yc, .slice b k' cb] W fun e w' => e = .returned (.bool true) ∧ Below w6.heap.size w6 w') := fun W h => (kept9h_ok gb k' yc b cb l' (by have := HA.out; omega) R2.out.2.2.2.2.2.2.2.2 W (R2.out.2.2.1.below (hb2W W h)) (HA.out.2.2.2.2.1.below (hbwW W h)) (Nat.lt_of_lt_of_le R2.out.2.2.2.2.2.2.1 (hb2W W h).size) (range_below R2.out.2.2.2.2.1 (hb2W W h) R2.out.2.2.2.2.2.2.1)).mono fun e w' h2 => ⟨h2.1, h.trans (h2.2.mono h.size)⟩
  have CW : Aside (∀ W, Below w6.heap.size w6 W → Calls Tryd.prog 11 #[] W fun e w' => e = .returned (.bool true) ∧ Below w6.heap.size w6 w') := fun W h => (HX.awake9_ok W (HA.out.2.2.2.2.2.below (hbwW W h))).mono fun e w' h2 => ⟨h2.1, h.trans (h2.2.mono h.size)⟩
  have FN : Aside (∀ W, Below w6.heap.size w6 W → Below w.heap.size w W) := hbwW
  have RR : Aside (∀ W, Below w6.heap.size w6 W → W.rangeAt b11 0 (CELLS R) ∧ W.rangeAt b13 0 (CELLS S2)) := fun W h => ⟨has_range (R6.out.2.1.keep h), has_range (R6.out.2.2.1.keep h)⟩
  have R0 : Aside (∀ W, Below w10.heap.size w10 W → Below w6.heap.size w6 W) := fun W h => hb610.trans (h.mono hb610.size)
  have CS : Aside (∀ W, Below w10.heap.size w10 W → Calls Tryd.prog 9 #[.slice a k ca, .slice b k' cb] W fun e w' => e = .returned (.bool (decide (l = l'))) ∧ Below w10.heap.size w10 w') := fun W h => (samehashes_ok a b k k' ca cb l l' W (HA.out.2.2.2.1.below (hbwW W (hb610.trans (h.mono hb610.size)))) (HA.out.2.2.2.2.1.below (hbwW W (hb610.trans (h.mono hb610.size)))) (by have := HA.out; omega)).mono fun e w' h2 => ⟨h2.1, h.trans (h2.2.mono h.size)⟩
  clear hw10 hb17 hb910 hb810 hb610 k17 k15 tt hb2W hbwW hb9 t2 l1 l2 R8 R6 R2
  by_cases hE : E = 0
  · subst hE
    by_cases hE' : E' = 0
    · subst hE'
      by_cases hRS : R = S2
      · have hw : X.isSome = !decide (l = l') := by
          by_cases hll : l = l'
          · rw [HH.out.2.1 (by rintro ⟨_, _, _, h⟩; exact h hll), decide_eq_true hll]; rfl
          · rw [HH.out.2.2 ⟨rfl, rfl, hRS, hll⟩, decide_eq_false hll]; rfl
        rw [hw] at CF
        refine cpeaksD w10 d n k k' ca cb xc yc b11 b13 b15 b17 a b (some ⟨ga, 0, none⟩) (some ⟨gb, 0, none⟩) (.slice a1 n1 q1) (.slice a2 n2 q2) (.slice a3 n3 q3) (.slice a4 n4 q4) o1 o2 R S2 lR lS2 (fun W => by rw [equal_hashes lR lS2 W, decide_eq_true hRS]) (decide (l = l')) (fun W => Below w10.heap.size w10 W) (fun W => Below w6.heap.size w6 W) (Below.refl _ _).drew (fun W h => RR.out W (R0.out W h)) (fun W h => RR.out W h) (fun W h => KB.out W h) (fun W h => CS.out W h) (fun W h => CF.out W h) (fun W h => CK.out W h) (fun W h => CL.out W h) (fun W h => CW.out W h) (fun _ _ _ _ _ h => h) ?_
        intro W hW
        have hF := FN.out W hW
        clear hW hw
        go_wp2
        go_ret
        exact ⟨rfl, hF⟩
      · have hw : X = none := HH.out.2.1 (by rintro ⟨_, _, h, _⟩; exact hRS h)
        rw [hw] at CF
        refine cpeaksC w10 d n k k' ca cb xc yc b11 b13 b15 b17 a b (some ⟨ga, 0, none⟩) (some ⟨gb, 0, none⟩) (.slice a1 n1 q1) (.slice a2 n2 q2) (.slice a3 n3 q3) (.slice a4 n4 q4) o1 o2 R S2 lR lS2 (fun W => by rw [equal_hashes lR lS2 W, decide_eq_false hRS]) (fun W => Below w10.heap.size w10 W) (fun W => Below w6.heap.size w6 W) (Below.refl _ _).drew (fun W h => RR.out W (R0.out W h)) (fun W h => RR.out W h) (fun W h => KB.out W h) (fun W h => CF.out W h) (fun W h => CK.out W h) (fun W h => CL.out W h) (fun W h => CW.out W h) (fun _ _ _ _ _ h => h) ?_
        intro W hW
        have hF := FN.out W hW
        clear hW hw
        go_wp2
        go_ret
        exact ⟨rfl, hF⟩
    · have hw : X = none := HH.out.2.1 (by rintro ⟨_, h, _⟩; exact hE' h)
      rw [hw] at CF
      refine cpeaksB w10 d n k k' ca cb xc yc b11 b13 b15 b17 a b (some ⟨ga, 0, none⟩) (some ⟨gb, 0, none⟩) (.slice a1 n1 q1) (.slice a2 n2 q2) (.slice a3 n3 q3) (.slice a4 n4 q4) o1 o2 E' (beq_eq_false_iff_ne.2 hE') (fun W => Below w10.heap.size w10 W) (fun W => Below w6.heap.size w6 W) (Below.refl _ _).drew (fun W h => KB.out W h) (fun W h => CF.out W h) (fun W h => CK.out W h) (fun W h => CL.out W h) (fun W h => CW.out W h) (fun _ _ _ _ _ h => h) ?_
      intro W hW
      have hF := FN.out W hW
      clear hW hw
      go_wp2
      go_ret
      exact ⟨rfl, hF⟩
  · have hw : X = none := HH.out.2.1 (by rintro ⟨h, _⟩; exact hE h)
    rw [hw] at CF
    refine cpeaksA w10 d n k k' ca cb xc yc b11 b13 b15 b17 a b (some ⟨ga, 0, none⟩) (some ⟨gb, 0, none⟩) (.slice a1 n1 q1) (.slice a2 n2 q2) (.slice a3 n3 q3) (.slice a4 n4 q4) o1 o2 E (beq_eq_false_iff_ne.2 hE) (fun W => Below w10.heap.size w10 W) (fun W => Below w6.heap.size w6 W) (Below.refl _ _).drew (fun W h => KB.out W h) (fun W h => CF.out W h) (fun W h => CK.out W h) (fun W h => CL.out W h) (fun W h => CW.out W h) (fun _ _ _ _ _ h => h) ?_
    intro W hW
    have hF := FN.out W hW
    clear hW hw
    go_wp2
    go_ret
    exact ⟨rfl, hF⟩
theorem clashPeaks_walk (d : Int) (n : Nat) (hn : n < 2 ^ 64) (a b : Option Addr) (k k' ca cb : Nat) (hca : a = none → ca = 0) (hcb : b = none → cb = 0) (l l' : List Int) (w : World) (hA : Flat w a k l) (hB : Flat w b k' l') (hX : HX.Tabled w) :
    Calls Tryd.prog 3 #[.int .i64 d, .int .u64 (n : Int), .slice a k ca, .slice b k' cb] w fun e w' => e = .returned (.bool true) ∧ Below w.heap.size w w' := by
  by_cases h : 300 < k ∨ 300 < k'
  · exact clashPeaks_long d n a b k k' ca cb h w
  · exact clashPeaks_short d n hn a b k k' ca cb (by omega) (by omega) hca hcb l l' w hA hB hX
end Go.Proofs.YtbmjoiiagldklaaDoor

/- What the card's row gives the walks of layer 3: spots that came in; the table of math/bits. -/
namespace Go.Proofs.YtbmjoiiagldklaaDoor
open Go.ChangeShapes Go.WideShapes Go.ChangeAt Go.WideMaps Go.WideElems Go.RowKit
set_option maxRecDepth 100000

theorem own : ownKnob Tryd.prog.godebug = none := by kernel_rfl
theorem laidOut : laidOutB Tryd.prog = true := by kernel_rfl
theorem gTab : Tryd.prog.globalNamed "math/bits.deBruijn64tab" = some 2 := by kernel_rfl
theorem tTab : (Tryd.prog.globals[2]?).map (·.type) = some 42 := by kernel_rfl
theorem tabData {H : Type} : (Rows.laid_math_bits_deBruijn64tab : DataW H) = .agg (TAB.map fun n => .lit (.int .u8 (n : Nat))) := rfl
theorem of_laid {W : World} (h : laidMetH Tryd.prog [("math/bits.deBruijn64tab", Rows.laid_math_bits_deBruijn64tab)] W) : Tabled W ∧ 0 < W.heap.size := by
  rw [MakeChecks.laidMetH_plain _ _ _ (by kernel_rfl)] at h
  obtain ⟨ps, ⟨g0, t0, cs0, f0, p0, q0, hg0, ht0, hv0, hd0, _, _⟩, _, _⟩ := h
  obtain rfl := Option.some.inj (gTab.symm.trans hg0)
  obtain rfl := Option.some.inj (tTab.symm.trans ht0)
  obtain ⟨xs, m1, rfl, hx1, hlen, hn, hel⟩ := DataW.trod_array Tryd.underlying42 hd0
  have c5 : Tryd.prog.cellsOf 5 = 1 := by kernel_rfl
  simp only [Prod.mk.injEq] at hx1
  have hx := hx1.1
  rw [tabData] at hx
  simp only [DataW.agg.injEq] at hx
  have T : Tabled W := fun i hi => by
    have h0 := hel i hi
    have hi' : i < xs.length := by omega
    rw [List.getElem?_eq_getElem hi', c5, Nat.mul_one] at h0
    obtain ⟨k, e1, e2, _⟩ := DataW.trod_int Tryd.underlying5 h0
    have hk : (k : Int) = ((TAB.getD i 0 : Nat) : Int) := by
      have hz := congrArg (fun l => l[i]?) hx
      have hT : i < TAB.length := hi
      simp only [List.getElem?_map, List.getElem?_eq_getElem hi', List.getElem?_eq_getElem hT, Option.map_some, e2] at hz
      simp at hz
      rw [List.getD_eq_getElem?_getD, List.getElem?_eq_getElem hT]
      simpa using hz.symm
    have hv := World.var?_cell hg0 hv0 i
    rw [hv, ← hk]
    have := congrArg (fun l => l[0]?) e1
    simp at this
    simpa using this
  refine ⟨T, ?_⟩
  have := T 0 (by decide)
  exact Nat.lt_of_le_of_lt (Nat.zero_le _) (World.block_lt_of_cell? W _ this)
end Go.Proofs.YtbmjoiiagldklaaDoor

/- What the card's row gives the walks of layer 7: hashes, lists of hashes, proofs and bytes that came in. -/
namespace Go.Proofs.YtbmjoiiagldklaaDoor
open Go.ChangeShapes Go.WideShapes Go.ChangeAt Go.WideMaps Go.WideElems Go.RowKit Go.Deep
set_option maxRecDepth 100000

/-- one hash, by its cells. -/
theorem open_hash {H : Type} {enc : TypeId × Value → H} {W : World} {fuel : Nat} {cs : List Value} {x : DataW H × List MemPlace} (hf : DataW.trod enc Tryd.prog W 0 (fun _ => true) true fuel 26 cs = some x) : ∃ h : List Int, h.length = 32 ∧ (∀ x ∈ h, 0 ≤ x ∧ x ≤ 255) ∧ cs = CELLS h := by
  obtain ⟨xs, m, rfl, _, hl, hn, hel⟩ := DataW.trod_array Tryd.underlying26 hf
  have c5 : Tryd.prog.cellsOf 5 = 1 := by kernel_rfl
  have c32 : Tryd.prog.cellsOf 26 = 32 := by kernel_rfl
  rw [c32] at hl
  have hx : ∀ i, i < 32 → ∃ k : Int, cs[i]? = some (.int .u8 k) ∧ 0 ≤ k ∧ k ≤ 255 := fun i hi => by
    have h0 := hel i hi
    rw [List.getElem?_eq_getElem (by omega), c5, Nat.mul_one] at h0
    obtain ⟨k, e1, _, e3⟩ := DataW.trod_int Tryd.underlying5 h0
    have hb := bounds_u8 e3
    refine ⟨k, ?_, by omega, by omega⟩
    have := congrArg (fun l => l[0]?) e1
    simpa using this
  have F : ∃ f : Nat → Int, ∀ i, i < 32 → cs[i]? = some (.int .u8 (f i)) ∧ 0 ≤ f i ∧ f i ≤ 255 := by
    refine ⟨fun i => if hi : i < 32 then (hx i hi).choose else 0, fun i hi => ?_⟩
    simp only [hi, dif_pos]
    exact (hx i hi).choose_spec
  obtain ⟨f, hf1⟩ := F
  refine ⟨(List.range 32).map f, by simp, fun x hx => ?_, ?_⟩
  · simp only [List.mem_map, List.mem_range] at hx
    obtain ⟨i, hi, rfl⟩ := hx
    exact (hf1 i hi).2
  · apply List.ext_getElem?
    intro i
    by_cases hi : i < 32
    · rw [(hf1 i hi).1, CELLS_get _ i (by simp; exact hi), List.getD_eq_getElem?_getD, List.getElem?_map, List.getElem?_range hi]
      rfl
    · rw [List.getElem?_eq_none (by omega), List.getElem?_eq_none (by simp [CELLS]; omega)]
/-- a list of hashes that came in. -/
theorem open_flat {H : Type} {enc : TypeId × Value → H} {W : World} {fuel : Nat} {a : Option Addr} {k c : Nat} {x : DataW H × List MemPlace} (hf : DataW.trod enc Tryd.prog W 0 (fun _ => true) true fuel 23 [.slice a k c] = some x) :
    ∃ l : List Int, Flat W a k l ∧ (a = none → c = 0) ∧ k ≤ c := by
  rcases DataW.trod_slice Tryd.underlying23 hf with ⟨h0, _⟩ | ⟨ad, len, cap, elems, rest, n, _, h0, hx, _, hl, hm, hlen, hel, _, _⟩
  · simp at h0
    obtain ⟨rfl, rfl, rfl⟩ := h0
    exact ⟨[], ⟨rfl, fun h => absurd h (by omega), by simp⟩, fun _ => rfl, Nat.le_refl _⟩
  · simp at h0
    obtain ⟨rfl, rfl, rfl⟩ := h0
    have c32 : Tryd.prog.cellsOf 26 = 32 := by kernel_rfl
    have each : ∀ i, i < k → ∃ h : List Int, h.length = 32 ∧ (∀ x ∈ h, 0 ≤ x ∧ x ≤ 255) ∧ ∀ j, j < 32 → W.cell? ((ad.add (i * 32)).add j) = some (.int .u8 (h.getD j 0)) := fun i hi => by
      have h := hel i hi
      rw [List.getElem?_eq_getElem (by omega), c32, Option.bind_eq_some_iff] at h
      obtain ⟨cs, hcs, ht⟩ := h
      obtain ⟨f, h1, h2, rfl⟩ := open_hash ht
      have hs := (World.cells?_some hcs).2.2
      refine ⟨f, h1, h2, fun j hj => ?_⟩
      have s := hs j hj
      rw [s]
      exact CELLS_get f j (by omega)
    have F : ∃ f : Nat → List Int, ∀ i, i < k → (f i).length = 32 ∧ (∀ x ∈ f i, 0 ≤ x ∧ x ≤ 255) ∧ ∀ j, j < 32 → W.cell? ((ad.add (i * 32)).add j) = some (.int .u8 ((f i).getD j 0)) := by
      refine ⟨fun i => if hi : i < k then (each i hi).choose else [], fun i hi => ?_⟩
      simp only [hi, dif_pos]
      exact (each i hi).choose_spec
    obtain ⟨f, hf2⟩ := F
    have hrange : ∀ i, i < k → ∀ j, j < 32 → 0 ≤ (f i).getD j 0 ∧ (f i).getD j 0 ≤ 255 := fun i hi j hj => by
      rw [List.getD_eq_getElem?_getD, List.getElem?_eq_getElem (by rw [(hf2 i hi).1]; exact hj)]
      exact (hf2 i hi).2.1 _ (List.getElem_mem _)
    refine ⟨(List.range (32 * k)).map fun m => (f (m / 32)).getD (m % 32) 0, ⟨by simp, fun h0k => ?_, fun x hx => ?_⟩, (fun e => by cases e), by omega⟩
    · obtain ⟨b, off, spot⟩ := ad
      have hc := (hf2 0 h0k).2.2 0 (by decide)
      have hspot : spot = none := by simpa [Addr.add] using World.cell?_spot hc
      subst hspot
      refine ⟨b, off, rfl, ?_, fun m hm => ?_⟩
      · have := World.block_lt_of_cell? W _ hc
        simpa [Addr.add] using this
      · have h1 := (hf2 (m / 32) (by omega)).2.2 (m % 32) (by omega)
        rw [addr_add, addr_add] at h1
        rw [List.getD_eq_getElem?_getD, List.getElem?_map, List.getElem?_range hm]
        simp only [Option.map_some, Option.getD_some]
        rw [← h1]
        congr 2
        omega
    · simp only [List.mem_map, List.mem_range] at hx
      obtain ⟨m, hm, rfl⟩ := hx
      exact hrange _ (by omega) _ (by omega)
/-- a list of hashes, as an argument. -/
theorem open_list {H : Type} {enc : TypeId × Value → H} {W : World} {a : Option Addr} {k c : Nat} {d : DataW H} {ps : List MemPlace} (hd : DataW.Trod enc Tryd.prog W 0 (fun _ => true) true 23 (.slice a k c) d ps) : ∃ l : List Int, Flat W a k l ∧ (a = none → c = 0) ∧ k ≤ c := by
  obtain ⟨fuel, hf⟩ := hd
  exact open_flat (by simpa [Value.cells] using hf)
end Go.Proofs.YtbmjoiiagldklaaDoor

/- What the card's row gives the walks: arrays and slices of bytes that came in; the two tables. -/
namespace Go.Proofs.YtbmjoiiagldklaaDoor.HX
set_option maxRecDepth 100000
open Go.ChangeShapes Go.WideShapes Go.ChangeAt Go.WideMaps Go.WideElems Go.RowKit

theorem own : ownKnob Tryd.prog.godebug = none := by kernel_rfl
theorem laidOut : laidOutB Tryd.prog = true := by kernel_rfl
theorem gRounds : Tryd.prog.globalNamed "massif/hash.rounds" = some 0 := by kernel_rfl
theorem gBegin : Tryd.prog.globalNamed "massif/hash.begin" = some 1 := by kernel_rfl
theorem tRounds : (Tryd.prog.globals[0]?).map (·.type) = some 80 := by kernel_rfl
theorem tBegin : (Tryd.prog.globals[1]?).map (·.type) = some 78 := by kernel_rfl
theorem roundsData {H : Type} : (Rows.laid_massif_hash_rounds : DataW H) = .agg (KLIST.map fun n => .lit (.int .u32 (n : Nat))) := rfl
theorem beginData {H : Type} : (Rows.laid_massif_hash_begin : DataW H) = .agg (BEGIN.map fun n => .lit (.int .u32 (n : Nat))) := rfl

theorem table_at {H : Type} {enc : TypeId × Value → H} {W : World} {base fuel n : Nat} {sp : Nat → Bool} {held : Bool} {t : TypeId} {cs : List Value} {ps : List MemPlace} (L : List Nat) (hL : L.length = n) (ht : Tryd.prog.underlying t = some (.array n 77))
    (hd : DataW.trod enc Tryd.prog W base sp held fuel t cs = some (.agg (L.map fun n => .lit (.int .u32 (n : Nat))), ps)) (i : Nat) (hi : i < n) : cs[i]? = some (.int .u32 (L.getD i 0 : Nat)) := by
  obtain ⟨xs, m1, rfl, hx1, hlen, hn, hel⟩ := DataW.trod_array ht hd
  have c5 : Tryd.prog.cellsOf 77 = 1 := by kernel_rfl
  simp only [Prod.mk.injEq, DataW.agg.injEq] at hx1
  have hx := hx1.1
  have h0 := hel i hi
  have hi' : i < xs.length := by omega
  rw [List.getElem?_eq_getElem hi', c5, Nat.mul_one] at h0
  obtain ⟨k, e1, e2, _⟩ := DataW.trod_int Tryd.underlying77 h0
  have hk : (k : Int) = ((L.getD i 0 : Nat) : Int) := by
    have hz := congrArg (fun l => l[i]?) hx
    have hT : i < L.length := by omega
    simp only [List.getElem?_map, List.getElem?_eq_getElem hi', List.getElem?_eq_getElem hT, Option.map_some, e2] at hz
    simp at hz
    rw [List.getD_eq_getElem?_getD, List.getElem?_eq_getElem hT]
    simpa using hz.symm
  rw [← hk]
  have := congrArg (fun l => l[0]?) e1
  simpa using this
theorem of_laid {W : World} (h : laidMetH Tryd.prog [("massif/hash.begin", Rows.laid_massif_hash_begin), ("massif/hash.rounds", Rows.laid_massif_hash_rounds)] W) : Tabled W := by
  rw [MakeChecks.laidMetH_plain _ _ _ (by kernel_rfl)] at h
  obtain ⟨ps, ⟨g0, t0, cs0, f0, p0, q0, hg0, ht0, hv0, hd0, ⟨g1, t1, cs1, f1, p1, q1, hg1, ht1, hv1, hd1, _, _⟩, _⟩, _, _⟩ := h
  obtain rfl := Option.some.inj (gBegin.symm.trans hg0)
  obtain rfl := Option.some.inj (tBegin.symm.trans ht0)
  obtain rfl := Option.some.inj (gRounds.symm.trans hg1)
  obtain rfl := Option.some.inj (tRounds.symm.trans ht1)
  rw [beginData] at hd0
  rw [roundsData] at hd1
  have A : ∀ i, i < 8 → W.cell? ⟨1, i, none⟩ = some (.int .u32 (BEGIN.getD i 0 : Nat)) := fun i hi => (World.var?_cell hg0 hv0 i).trans (Array.getElem?_toList.symm.trans (table_at BEGIN rfl Tryd.underlying78 hd0 i hi))
  have B : ∀ i, i < 64 → W.cell? ⟨0, i, none⟩ = some (.int .u32 (KC i : Nat)) := fun i hi => (World.var?_cell hg1 hv1 i).trans (Array.getElem?_toList.symm.trans (table_at KLIST rfl Tryd.underlying80 hd1 i hi))
  exact ⟨B, A, by have h1 : 1 < W.heap.size := World.block_lt_of_cell? W _ (A 0 (by decide)); have h2 : 0 < W.heap.size := World.block_lt_of_cell? W _ (B 0 (by decide)); omega⟩
end Go.Proofs.YtbmjoiiagldklaaDoor.HX
