/- Texts of VerifyClimbs, one behind the other: VerifyAwakePlain. -/
import Derived.Test.YtfgbojbhheokjaaGreatDoorVerifyClimbsP35
import Derived.Test.YtfgbojbhheokjaaGreatDoorVerifyClimbsP36
/- What Climb and Member answer where massiflaw8's awake asks them. -/
namespace Go.Proofs.YtfgbojbhheokjaaGreatDoor
open Go.RowKit
set_option maxRecDepth 100000

/-- the hash whose first byte is m, and nothing else. -/
def HB (m : Int) : List Int := m :: List.replicate 31 0
theorem HB_is (m : Int) (h0 : 0 ≤ m) (h1 : m ≤ 255) : IsH (HB m) := ⟨rfl, fun x hx => by
  rcases List.mem_cons.1 hx with rfl | hx
  · exact ⟨h0, h1⟩
  · rw [List.eq_of_mem_replicate hx]
    decide⟩
theorem psp13 : PSP 1 3 = [(0, 0), (0, 2)] := by kernel_rfl
theorem rise13 : RISE 1 3 = 1 := by kernel_rfl
theorem span03 : SPAN 0 3 = [(1, 0), (0, 2)] := by kernel_rfl
theorem pc3 : PC 3 = 2 := by kernel_rfl
theorem pla13 : PLA 1 3 = (0, [0, 3]) := by kernel_rfl
theorem HSH_two (x y : List Int) (hx : x.length = 32) (hy : y.length = 32) : HSH (x ++ y) 0 = x ∧ HSH (x ++ y) 1 = y := by
  unfold HSH
  refine ⟨by simp [hx], ?_⟩
  rw [show 32 * 1 = x.length by omega, List.drop_left, List.take_of_length_le (by omega)]
theorem cla_awake (leaf x y : List Int) (hx : x.length = 32) (hy : y.length = 32) : CLA 32 leaf 3 1 2 (x ++ y) = (0, 2, NODEH 32 x leaf ++ y) := by
  unfold CLA
  rw [pla13, if_neg (by simp), if_neg (by simp), pc3, span03]
  unfold CLM
  rw [psp13, rise13]
  have h1 := (HSH_two x y hx hy).1
  have h2 := (HSH_two x y hx hy).2
  simp [CAT, JN, MPUT, HAND, h1, h2]
theorem bag_awake (x y : List Int) (hx : x.length = 32) (hy : y.length = 32) : BAGA 32 3 2 (x ++ y) = (0, ROOTH 32 3 (FOLDH 32 x y)) := by
  unfold BAGA
  rw [pc3, if_neg (by decide), if_neg (by simp)]
  have h1 := (HSH_two x y hx hy).1
  have h2 := (HSH_two x y hx hy).2
  unfold FLD
  rw [if_neg (by decide)]
  simp [FA, h1, h2]
/-- the bytes of the proof. -/
def AWB : List Int := 77 :: 3 :: 1 :: (HB 1 ++ HB 3)
theorem dec_awake : DEC AWB = (0, 3, 1, 2, HB 1 ++ HB 3) := by kernel_rfl
/-- the root. -/
def AWR : List Int := ROOTH 32 3 (FOLDH 32 (NODEH 32 (HB 1) (HB 2)) (HB 3))
theorem mema_awake (leaf : List Int) : MEMA 32 AWR 3 1 leaf AWB = if ROOTH 32 3 (FOLDH 32 (NODEH 32 (HB 1) leaf) (HB 3)) = AWR then 0 else 80 := by
  unfold MEMA
  rw [dec_awake, if_neg (by simp), if_neg (by simp), if_neg (by simp)]
  dsimp only
  rw [cla_awake leaf (HB 1) (HB 3) rfl rfl]
  dsimp only
  unfold UNDA
  rw [bag_awake _ _ (NODEH_is _ _ _).1 rfl]
  simp
theorem mema_yes : MEMA 32 AWR 3 1 (HB 2) AWB = 0 := by
  rw [mema_awake, if_pos]
  rw [AWR]
theorem node_ab : NODEH 32 (HB 1) (HB 2) = LST HX.naS2 := by
  unfold NODEH
  rw [show (1 :: (NATS (HB 1) ++ NATS (HB 2))) = ([1, 1, 0, 0, 0, 0, 0, 0, 0, 0, 0, 0, 0, 0, 0, 0, 0, 0, 0, 0, 0, 0, 0, 0, 0, 0, 0, 0, 0, 0, 0, 0, 0, 2, 0, 0, 0, 0, 0, 0, 0, 0, 0, 0, 0, 0, 0, 0, 0, 0, 0, 0, 0, 0, 0, 0, 0, 0, 0, 0, 0, 0, 0, 0, 0] : List Nat) by kernel_rfl, HX.nahash]
theorem node_aa : NODEH 32 (HB 1) (HB 1) = LST HX.nbS2 := by
  unfold NODEH
  rw [show (1 :: (NATS (HB 1) ++ NATS (HB 1))) = ([1, 1, 0, 0, 0, 0, 0, 0, 0, 0, 0, 0, 0, 0, 0, 0, 0, 0, 0, 0, 0, 0, 0, 0, 0, 0, 0, 0, 0, 0, 0, 0, 0, 1, 0, 0, 0, 0, 0, 0, 0, 0, 0, 0, 0, 0, 0, 0, 0, 0, 0, 0, 0, 0, 0, 0, 0, 0, 0, 0, 0, 0, 0, 0, 0] : List Nat) by kernel_rfl, HX.nbhash]
theorem fold_ab : FOLDH 32 (LST HX.naS2) (HB 3) = LST HX.faS2 := by
  unfold FOLDH
  rw [show (2 :: (NATS (LST HX.naS2) ++ NATS (HB 3))) = ([2, 127, 80, 117, 78, 227, 143, 160, 51, 23, 237, 95, 254, 79, 42, 217, 20, 128, 133, 79, 170, 249, 85, 136, 108, 215, 128, 243, 116, 250, 101, 130, 246, 3, 0, 0, 0, 0, 0, 0, 0, 0, 0, 0, 0, 0, 0, 0, 0, 0, 0, 0, 0, 0, 0, 0, 0, 0, 0, 0, 0, 0, 0, 0, 0] : List Nat) by kernel_rfl, HX.fahash]
theorem fold_aa : FOLDH 32 (LST HX.nbS2) (HB 3) = LST HX.fbS2 := by
  unfold FOLDH
  rw [show (2 :: (NATS (LST HX.nbS2) ++ NATS (HB 3))) = ([2, 140, 247, 78, 71, 92, 160, 227, 219, 231, 58, 126, 124, 82, 124, 196, 92, 181, 224, 216, 226, 74, 129, 106, 204, 189, 129, 14, 245, 188, 153, 135, 6, 3, 0, 0, 0, 0, 0, 0, 0, 0, 0, 0, 0, 0, 0, 0, 0, 0, 0, 0, 0, 0, 0, 0, 0, 0, 0, 0, 0, 0, 0, 0, 0] : List Nat) by kernel_rfl, HX.fbhash]
theorem root_ab : ROOTH 32 3 (LST HX.faS2) = LST HX.raS1 := by
  unfold ROOTH
  rw [show (3 :: (HX.BE8 3 ++ NATS (LST HX.faS2))) = ([3, 0, 0, 0, 0, 0, 0, 0, 3, 240, 81, 46, 173, 72, 158, 9, 134, 143, 155, 158, 221, 235, 247, 94, 147, 3, 93, 19, 58, 124, 166, 221, 22, 31, 201, 30, 132, 207, 210, 67, 87] : List Nat) by kernel_rfl, HX.rahash]
theorem root_aa : ROOTH 32 3 (LST HX.fbS2) = LST HX.rbS1 := by
  unfold ROOTH
  rw [show (3 :: (HX.BE8 3 ++ NATS (LST HX.fbS2))) = ([3, 0, 0, 0, 0, 0, 0, 0, 3, 164, 137, 134, 81, 1, 2, 52, 15, 240, 241, 170, 153, 18, 113, 89, 240, 26, 243, 232, 37, 96, 151, 10, 62, 241, 77, 73, 229, 189, 62, 141, 99] : List Nat) by kernel_rfl, HX.rbhash]
theorem mema_no : MEMA 32 AWR 3 1 (HB 1) AWB = 80 := by
  rw [mema_awake, if_neg]
  rw [AWR, node_aa, fold_aa, root_aa, node_ab, fold_ab, root_ab]
  intro h
  have h0 := congrArg (fun l : List Int => l.getD 0 0) h
  have e : ∀ f : Nat → Nat, (LST f).getD 0 0 = (f 0 : Int) := fun f => rfl
  simp only [e] at h0
  exact HX.roots_apart (by omega)
end Go.Proofs.YtfgbojbhheokjaaGreatDoor
