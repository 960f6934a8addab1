/- What the document's Turn, Rev and Swap give. -/
import Derived.Test.YtlklnljgmkagoaaNumRowCalls
namespace Go.Proofs.Ytlklnljgmkagoaa
open Go.RowKit

/-- an array that is filled in another order. -/
theorem fill_perm {r f : Nat → Int} {t : Nat → Nat} {i s : Nat} {v : Int} (A : ∀ j, j < 64 → f j = if t j < i then r (t j) else 0) (hs : t s = i) (hu : ∀ j, j < 64 → t j = i → j = s) (hv : v = r i) :
    ∀ j, j < 64 → (if j = s then v else f j) = if t j < i + 1 then r (t j) else 0 := fun j hj => by
  by_cases e : j = s
  · subst e
    rw [if_pos rfl, hs, if_pos (by omega), hv]
  · rw [if_neg e, A j hj]
    have h : t j ≠ i := fun h => e (hu j hj h)
    by_cases e2 : t j < i
    · rw [if_pos e2, if_pos (by omega)]
    · rw [if_neg e2, if_neg (by omega)]

theorem refrev_raw (x : Int) (r : Nat → Int) (v : Int) (w : World)
    (hr : ∀ w, Calls Try.prog 41 #[.int .u64 x] w fun e w' => e = .returned (.agg (ARR r)) ∧ Fine w w')
    (hN : ∀ w, Calls Try.prog 43 #[.agg (ARR fun j => r (63 - j))] w fun e w' => e = .returned (.int .u64 v) ∧ Fine w w') :
    Calls Try.prog 28 #[.int .u64 x] w fun e w' => e = .returned (.int .u64 v) ∧ Fine w w' := by
  have hz := ARR_zero
  go_enter Try.func28, Try.ntmps28
  go_wp2_with fail
  refine (hr _).mono ?_
  rintro e w1 ⟨rfl, hF⟩
  have HF : Aside (Fine w w1) := hF
  clear hF
  go_wp2_with (refine wpList_store_row rfl 49 _ _ rfl _ _ rfl rfl _ _ (heap_one w1 _) (info_ARR _) (by rw [ARR_size, ARR_size]) (ARR_one _) ?_; rw [World.setRow_alloc_new])
  go_loopg [5] 64 (fun g s8 wx => ∃ (i : Nat) (f : Nat → Int), i + g = 64 ∧ Aside (∀ j, j < 64 → f j = if 63 - j < i then r (63 - j) else 0) ∧ s8 = .int .i64 i ∧
    wx = (w1.alloc (.cells (ARR r) 49)).alloc (.cells (ARR f) 49))
  case atStart => exact ⟨0, fun _ => 0, by omega, fun j _ => by simp, rfl, rfl⟩
  case round =>
    obtain ⟨i, f, hig, A, rfl, rfl⟩ := hrel
    cases gk with
    | zero =>
      obtain rfl : i = 64 := by omega
      have hf : ARR f = ARR fun j => r (63 - j) := ARR_ext fun j hj => by rw [A.out j hj, if_pos (by omega)]
      rw [hf]
      clear hf A
      go_wp2_with (refine wpList_load_row rfl 49 _ rfl _ rfl _ _ (0, 0) _ (heap_two' w1 _ _) Try.underlying49 rfl (info_ARR _) ?_)
      refine (hN _).mono ?_
      rintro e w3 ⟨rfl, hF3⟩
      go_wp2
      go_ret
      exact ⟨rfl, HF.out.trans ((((Fine.refl _).alloc _ _).alloc _ _).trans hF3)⟩
    | succ g =>
      have hi : (i : Int) < 64 := by omega
      have hcr : (ARR r)[i]? = some (.int .i64 (r i)) := ARR_get r i (by omega)
      have hc : (ARR f)[63 - i]? = some (.int .i64 (f (63 - i))) := ARR_get f _ (by omega)
      have hs : ∀ v, (ARR f).setIfInBounds (63 - i) (.int .i64 v) = ARR (fun j => if j = 63 - i then v else f j) := fun v => ARR_set f _ v
      go_wp2
      go_roundg g
      case measure => omega
      case rel => exact ⟨i + 1, _, by omega, fill_perm A.out (s := 63 - i) (by omega) (fun j hj h => by omega) rfl, by go_num, rfl⟩

theorem refswap_raw (x : Int) (r : Nat → Int) (v : Int) (w : World)
    (hr : ∀ w, Calls Try.prog 41 #[.int .u64 x] w fun e w' => e = .returned (.agg (ARR r)) ∧ Fine w w')
    (hN : ∀ w, Calls Try.prog 43 #[.agg (ARR fun j => r (8 * (7 - j / 8) + j % 8))] w fun e w' => e = .returned (.int .u64 v) ∧ Fine w w') :
    Calls Try.prog 30 #[.int .u64 x] w fun e w' => e = .returned (.int .u64 v) ∧ Fine w w' := by
  have hz := ARR_zero
  go_enter Try.func30, Try.ntmps30
  go_wp2_with fail
  refine (hr _).mono ?_
  rintro e w1 ⟨rfl, hF⟩
  have HF : Aside (Fine w w1) := hF
  clear hF
  go_wp2_with (refine wpList_store_row rfl 49 _ _ rfl _ _ rfl rfl _ _ (heap_one w1 _) (info_ARR _) (by rw [ARR_size, ARR_size]) (ARR_one _) ?_; rw [World.setRow_alloc_new])
  go_loopg [5] 64 (fun g s8 wx => ∃ (i : Nat) (f : Nat → Int), i + g = 64 ∧ Aside (∀ j, j < 64 → f j = if 8 * (7 - j / 8) + j % 8 < i then r (8 * (7 - j / 8) + j % 8) else 0) ∧ s8 = .int .i64 i ∧
    wx = (w1.alloc (.cells (ARR r) 49)).alloc (.cells (ARR f) 49))
  case atStart => exact ⟨0, fun _ => 0, by omega, fun j _ => by simp, rfl, rfl⟩
  case round =>
    obtain ⟨i, f, hig, A, rfl, rfl⟩ := hrel
    cases gk with
    | zero =>
      obtain rfl : i = 64 := by omega
      have hf : ARR f = ARR fun j => r (8 * (7 - j / 8) + j % 8) := ARR_ext fun j hj => by rw [A.out j hj, if_pos (by omega)]
      rw [hf]
      clear hf A
      go_wp2_with (refine wpList_load_row rfl 49 _ rfl _ rfl _ _ (0, 0) _ (heap_two' w1 _ _) Try.underlying49 rfl (info_ARR _) ?_)
      refine (hN _).mono ?_
      rintro e w3 ⟨rfl, hF3⟩
      go_wp2
      go_ret
      exact ⟨rfl, HF.out.trans ((((Fine.refl _).alloc _ _).alloc _ _).trans hF3)⟩
    | succ g =>
      have hi : (i : Int) < 64 := by omega
      have hcr : (ARR r)[i]? = some (.int .i64 (r i)) := ARR_get r i (by omega)
      obtain ⟨q, hq⟩ : ∃ q : Nat, q = i / 8 := ⟨_, rfl⟩
      obtain ⟨m, hm⟩ : ∃ m : Nat, m = i % 8 := ⟨_, rfl⟩
      have e1 : (i : Int).tdiv 8 = (q : Int) := by rw [Int.tdiv_eq_ediv_of_nonneg (by omega)]; omega
      have e2 : (i : Int).tmod 8 = (m : Int) := by rw [Int.tmod_eq_emod_of_nonneg (by omega)]; omega
      have hq8 : (q : Int) < 8 := by omega
      have hm8 : (m : Int) < 8 := by omega
      have Hqm : Aside (q = i / 8 ∧ m = i % 8) := ⟨hq, hm⟩
      clear hq hm
      obtain ⟨s, hs0⟩ : ∃ s : Nat, 8 * (7 - q) + m = s := ⟨_, rfl⟩
      have e3 : 8 * (7 - (q : Int)) + (m : Int) = (s : Int) := by omega
      have hs64 : (s : Int) < 64 := by omega
      have Hs0 : Aside (8 * (7 - q) + m = s) := hs0
      clear hs0
      have hc : (ARR f)[s]? = some (.int .i64 (f s)) := ARR_get f _ (by omega)
      have hs : ∀ v, (ARR f).setIfInBounds s (.int .i64 v) = ARR (fun j => if j = s then v else f j) := fun v => ARR_set f _ v
      go_wp2
      go_roundg g
      case measure => omega
      case rel => exact ⟨i + 1, _, by omega, fill_perm A.out (s := s) (by have := Hqm.out; have := Hs0.out; omega) (fun j hj h => by have := Hqm.out; have := Hs0.out; omega) rfl, by go_num, rfl⟩

theorem refturnA_raw (x n k : Int) (r : Nat → Int) (v : Int) (w : World)
    (hk : n.tmod 64 = k) (hk0 : 0 ≤ k) (hk1 : k < 64)
    (hr : ∀ w, Calls Try.prog 41 #[.int .u64 x] w fun e w' => e = .returned (.agg (ARR r)) ∧ Fine w w')
    (hN : ∀ w, Calls Try.prog 43 #[.agg (ARR fun j => r (((((j : Nat) : Int) - k) % 64).toNat))] w fun e w' => e = .returned (.int .u64 v) ∧ Fine w w') :
    Calls Try.prog 26 #[.int .u64 x, .int .i64 n] w fun e w' => e = .returned (.int .u64 v) ∧ Fine w w' := by
  have hz := ARR_zero
  go_enter Try.func26, Try.ntmps26
  go_wp2_with fail
  refine (hr _).mono ?_
  rintro e w1 ⟨rfl, hF⟩
  have HF : Aside (Fine w w1) := hF
  clear hF
  go_wp2_with (refine wpList_store_row rfl 49 _ _ rfl _ _ rfl rfl _ _ (heap_one w1 _) (info_ARR _) (by rw [ARR_size, ARR_size]) (ARR_one _) ?_; rw [World.setRow_alloc_new])
  go_loopg [8] 64 (fun g s8 wx => ∃ (i : Nat) (f : Nat → Int), i + g = 64 ∧ Aside (∀ j, j < 64 → f j = if ((((j : Nat) : Int) - k) % 64).toNat < i then r (((((j : Nat) : Int) - k) % 64).toNat) else 0) ∧ s8 = .int .i64 i ∧
    wx = (w1.alloc (.cells (ARR r) 49)).alloc (.cells (ARR f) 49))
  case atStart => exact ⟨0, fun _ => 0, by omega, fun j _ => by simp, rfl, rfl⟩
  case round =>
    obtain ⟨i, f, hig, A, rfl, rfl⟩ := hrel
    cases gk with
    | zero =>
      obtain rfl : i = 64 := by omega
      have hf : ARR f = ARR fun j => r (((((j : Nat) : Int) - k) % 64).toNat) := ARR_ext fun j hj => by rw [A.out j hj, if_pos (by omega)]
      rw [hf]
      clear hf A
      go_wp2_with (refine wpList_load_row rfl 49 _ rfl _ rfl _ _ (0, 0) _ (heap_two' w1 _ _) Try.underlying49 rfl (info_ARR _) ?_)
      refine (hN _).mono ?_
      rintro e w3 ⟨rfl, hF3⟩
      go_wp2
      go_ret
      exact ⟨rfl, HF.out.trans ((((Fine.refl _).alloc _ _).alloc _ _).trans hF3)⟩
    | succ g =>
      have hi : (i : Int) < 64 := by omega
      have hcr : (ARR r)[i]? = some (.int .i64 (r i)) := ARR_get r i (by omega)
      obtain ⟨s, hsd⟩ : ∃ s : Nat, (s : Int) = ((i : Int) + k) % 64 := ⟨(((i : Int) + k) % 64).toNat, by omega⟩
      have e1 : ((i : Int) + k).tmod 64 = (s : Int) := by rw [Int.tmod_eq_emod_of_nonneg (by omega)]; omega
      have hs64 : (s : Int) < 64 := by omega
      have HS : Aside ((s : Int) = ((i : Int) + k) % 64) := hsd
      clear hsd
      have hc : (ARR f)[s]? = some (.int .i64 (f s)) := ARR_get f _ (by omega)
      have hs : ∀ v, (ARR f).setIfInBounds s (.int .i64 v) = ARR (fun j => if j = s then v else f j) := fun v => ARR_set f _ v
      go_wp2
      go_roundg g
      case measure => omega
      case rel => exact ⟨i + 1, _, by omega, fill_perm A.out (s := s) (by have := HS.out; omega) (fun j hj h => by have := HS.out; omega) rfl, by go_num, rfl⟩

theorem refturnB_raw (x n k : Int) (r : Nat → Int) (v : Int) (w : World)
    (hk : n.tmod 64 = k) (hk0 : k < 0) (hk1 : -64 < k)
    (hr : ∀ w, Calls Try.prog 41 #[.int .u64 x] w fun e w' => e = .returned (.agg (ARR r)) ∧ Fine w w')
    (hN : ∀ w, Calls Try.prog 43 #[.agg (ARR fun j => r (((((j : Nat) : Int) - (k + 64)) % 64).toNat))] w fun e w' => e = .returned (.int .u64 v) ∧ Fine w w') :
    Calls Try.prog 26 #[.int .u64 x, .int .i64 n] w fun e w' => e = .returned (.int .u64 v) ∧ Fine w w' := by
  have hz := ARR_zero
  go_enter Try.func26, Try.ntmps26
  go_wp2_with fail
  refine (hr _).mono ?_
  rintro e w1 ⟨rfl, hF⟩
  have HF : Aside (Fine w w1) := hF
  clear hF
  go_wp2_with (refine wpList_store_row rfl 49 _ _ rfl _ _ rfl rfl _ _ (heap_one w1 _) (info_ARR _) (by rw [ARR_size, ARR_size]) (ARR_one _) ?_; rw [World.setRow_alloc_new])
  go_loopg [8] 64 (fun g s8 wx => ∃ (i : Nat) (f : Nat → Int), i + g = 64 ∧ Aside (∀ j, j < 64 → f j = if ((((j : Nat) : Int) - (k + 64)) % 64).toNat < i then r (((((j : Nat) : Int) - (k + 64)) % 64).toNat) else 0) ∧ s8 = .int .i64 i ∧
    wx = (w1.alloc (.cells (ARR r) 49)).alloc (.cells (ARR f) 49))
  case atStart => exact ⟨0, fun _ => 0, by omega, fun j _ => by simp, rfl, rfl⟩
  case round =>
    obtain ⟨i, f, hig, A, rfl, rfl⟩ := hrel
    cases gk with
    | zero =>
      obtain rfl : i = 64 := by omega
      have hf : ARR f = ARR fun j => r (((((j : Nat) : Int) - (k + 64)) % 64).toNat) := ARR_ext fun j hj => by rw [A.out j hj, if_pos (by omega)]
      rw [hf]
      clear hf A
      go_wp2_with (refine wpList_load_row rfl 49 _ rfl _ rfl _ _ (0, 0) _ (heap_two' w1 _ _) Try.underlying49 rfl (info_ARR _) ?_)
      refine (hN _).mono ?_
      rintro e w3 ⟨rfl, hF3⟩
      go_wp2
      go_ret
      exact ⟨rfl, HF.out.trans ((((Fine.refl _).alloc _ _).alloc _ _).trans hF3)⟩
    | succ g =>
      have hi : (i : Int) < 64 := by omega
      have hcr : (ARR r)[i]? = some (.int .i64 (r i)) := ARR_get r i (by omega)
      obtain ⟨s, hsd⟩ : ∃ s : Nat, (s : Int) = ((i : Int) + (k + 64)) % 64 := ⟨(((i : Int) + (k + 64)) % 64).toNat, by omega⟩
      have e1 : ((i : Int) + (k + 64)).tmod 64 = (s : Int) := by rw [Int.tmod_eq_emod_of_nonneg (by omega)]; omega
      have hs64 : (s : Int) < 64 := by omega
      have HS : Aside ((s : Int) = ((i : Int) + (k + 64)) % 64) := hsd
      clear hsd
      have hc : (ARR f)[s]? = some (.int .i64 (f s)) := ARR_get f _ (by omega)
      have hs : ∀ v, (ARR f).setIfInBounds s (.int .i64 v) = ARR (fun j => if j = s then v else f j) := fun v => ARR_set f _ v
      go_wp2
      go_roundg g
      case measure => omega
      case rel => exact ⟨i + 1, _, by omega, fill_perm A.out (s := s) (by have := HS.out; omega) (fun j hj h => by have := HS.out; omega) rfl, by go_num, rfl⟩

end Go.Proofs.Ytlklnljgmkagoaa
