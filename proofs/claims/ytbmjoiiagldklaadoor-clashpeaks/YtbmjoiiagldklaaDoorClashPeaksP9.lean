/- Texts of ClashPeaks, one behind the other: HashJoined, HashStep. -/
import Derived.Lib.SliceRun
import Derived.Test.YtbmjoiiagldklaaDoorClashPeaksP8
/- What joined and narrow of package hash answer. -/
namespace Go.Proofs.YtbmjoiiagldklaaDoor.HX
open Go.RowKit

theorem zero32 : (#[.int .u8 0, .int .u8 0, .int .u8 0, .int .u8 0, .int .u8 0, .int .u8 0, .int .u8 0, .int .u8 0, .int .u8 0, .int .u8 0, .int .u8 0, .int .u8 0, .int .u8 0, .int .u8 0, .int .u8 0, .int .u8 0, .int .u8 0, .int .u8 0, .int .u8 0, .int .u8 0, .int .u8 0, .int .u8 0, .int .u8 0, .int .u8 0, .int .u8 0, .int .u8 0, .int .u8 0, .int .u8 0, .int .u8 0, .int .u8 0, .int .u8 0, .int .u8 0] : Array Value) = UARR .u8 32 fun _ => 0 := rfl
theorem BYTEW_at (x : Nat → Nat) (i r : Nat) (hr : r < 4) : BYTEW x (4 * i + r) = x i / 2 ^ (24 - 8 * r) % 256 := by
  unfold BYTEW
  rw [show (4 * i + r) / 4 = i by omega, show (4 * i + r) % 4 = r by omega]
theorem index_w8 (x : Nat → Nat) : ∀ (i : Nat), i < 8 → ∀ w : World, (Instr.index 78 (.agg (UARR .u32 8 x)) (.int .i64 (i : Int))).run Tryd.prog w = .ok (.int .u32 (x i : Nat)) w
  | 0, _, _ => by kernel_rfl
  | 1, _, _ => by kernel_rfl
  | 2, _, _ => by kernel_rfl
  | 3, _, _ => by kernel_rfl
  | 4, _, _ => by kernel_rfl
  | 5, _, _ => by kernel_rfl
  | 6, _, _ => by kernel_rfl
  | 7, _, _ => by kernel_rfl
  | n + 8, h, _ => absurd h (by omega)
theorem joined_ok (x : Nat → Nat) (h : ∀ i, x i < 2 ^ 32) (w : World) : Calls Tryd.prog 40 #[.agg (UARR .u32 8 x)] w fun e w' => e = .returned (.agg (UARR .u8 32 (BYTEW x))) ∧ Below w.heap.size w w' := by
  have hz := zero32
  have H : Aside (∀ i, x i < 2 ^ 32) := h
  clear h
  go_enter Tryd.func40, Tryd.ntmps40
  go_wp2_with (refine wpList_load_row rfl 78 _ rfl _ rfl 78 (UARR .u32 8 x) (0, 0) _ (((Has.new w _ _).alloc _).alloc _) Tryd.underlying78 rfl (info_W8 _) ?_)
  go_loopg [8] 8 (fun g s5 wx => ∃ i : Nat, i + g = 8 ∧ s5 = .int .i64 i ∧ Aside (Below w.heap.size w wx ∧ Has wx (w.heap.size + 1) (UARR .u8 32 fun _ => 0) 26 ∧ Has wx (w.heap.size + 2) (UARR .u8 32 fun j => if j < 4 * i then BYTEW x j else 0) 26))
  case atStart =>
    refine ⟨0, by omega, rfl, ?_⟩
    have e : (UARR .u8 32 fun j => if j < 4 * 0 then BYTEW x j else 0) = UARR .u8 32 fun _ => 0 := UARR_ext fun j _ => if_neg (by omega)
    rw [e]
    exact ⟨(((Below.refl _ _).alloc (Nat.le_refl _) _).alloc (by simp) _).alloc (by simp; omega) _, (Has.at _ _ _ (by simp)).alloc _, Has.at _ _ _ (by simp)⟩
  case round =>
    obtain ⟨i, hig, rfl, A⟩ := hrel
    clear hz
    cases gk with
    | zero =>
      obtain rfl : i = 8 := by omega
      obtain ⟨hb, h1, h2⟩ := A.out
      go_wp2_with (first
        | (refine wpList_load_row rfl 26 _ rfl _ rfl _ _ (0, 0) _ h2 Tryd.underlying26 rfl (info_HASH _) ?_)
        | (refine wpList_store_row rfl 26 _ _ rfl _ _ rfl rfl _ _ h1 (info_HASH _) (by rw [UARR_size, UARR_size]) (UARR_one _ _ _) ?_))
      have e : (UARR .u8 32 fun j => if j < 4 * 8 then BYTEW x j else 0) = UARR .u8 32 (BYTEW x) := UARR_ext fun j hj => by rw [if_pos (by omega)]
      rw [e]
      refine bodyPost_ret (v := .agg (UARR .u8 32 (BYTEW x))) ?_ rfl ⟨rfl, below_row hb (by omega) _⟩
      exact results_cell_row rfl _ _ (w.heap.size + 1) 26 _ (0, 0) _ rfl (h1.row _) Tryd.underlying26 rfl (info_HASH _)
    | succ g =>
      obtain ⟨hb, h1, h2⟩ := A.out
      have hi : (i : Int) < 8 := by omega
      have hxi := index_w8 x i (by omega)
      have c0 : wr.cell? ⟨w.heap.size + 1 + 1, 4 * i, none⟩ = some (.int .u8 0) := by rw [h2.cell, UARR_get _ _ _ _ (by omega), if_neg (by omega)]; rfl
      have c1 : wr.cell? ⟨w.heap.size + 1 + 1, 4 * i + 1, none⟩ = some (.int .u8 0) := by rw [h2.cell, UARR_get _ _ _ _ (by omega), if_neg (by omega)]; rfl
      have c2 : wr.cell? ⟨w.heap.size + 1 + 1, 4 * i + 2, none⟩ = some (.int .u8 0) := by rw [h2.cell, UARR_get _ _ _ _ (by omega), if_neg (by omega)]; rfl
      have c3 : wr.cell? ⟨w.heap.size + 1 + 1, 4 * i + 3, none⟩ = some (.int .u8 0) := by rw [h2.cell, UARR_get _ _ _ _ (by omega), if_neg (by omega)]; rfl
      have f0 : wr.frozen? ⟨w.heap.size + 1 + 1, 4 * i, none⟩ = false := h2.frozen _
      have f1 : wr.frozen? ⟨w.heap.size + 1 + 1, 4 * i + 1, none⟩ = false := h2.frozen _
      have f2 : wr.frozen? ⟨w.heap.size + 1 + 1, 4 * i + 2, none⟩ = false := h2.frozen _
      have f3 : wr.frozen? ⟨w.heap.size + 1 + 1, 4 * i + 3, none⟩ = false := h2.frozen _
      have R : Aside (Below w.heap.size w wr ∧ Has wr (w.heap.size + 1) (UARR .u8 32 fun _ => 0) 26 ∧ Has wr (w.heap.size + 2) (UARR .u8 32 fun j => if j < 4 * i then BYTEW x j else 0) 26) := ⟨hb, h1, h2⟩
      clear hb h1 h2 A
      generalize hX : x i = X at *
      obtain ⟨o, ho⟩ : ∃ o, o = 4 * i := ⟨_, rfl⟩
      rw [← ho] at c0 c1 c2 c3 f0 f1 f2 f3
      have e0 : 4 * (i : Int) = (o : Int) := by omega
      obtain ⟨o1, ho1⟩ : ∃ o1, o1 = o + 1 := ⟨_, rfl⟩
      obtain ⟨o2, ho2⟩ : ∃ o2, o2 = o + 2 := ⟨_, rfl⟩
      obtain ⟨o3, ho3⟩ : ∃ o3, o3 = o + 3 := ⟨_, rfl⟩
      rw [← ho1] at c1 f1
      rw [← ho2] at c2 f2
      rw [← ho3] at c3 f3
      have e1 : (o : Int) + 1 = (o1 : Int) := by omega
      have e2 : (o : Int) + 2 = (o2 : Int) := by omega
      have e3 : (o : Int) + 3 = (o3 : Int) := by omega
      have E : Aside (o = 4 * i ∧ x i = X ∧ o1 = o + 1 ∧ o2 = o + 2 ∧ o3 = o + 3) := ⟨ho, hX, ho1, ho2, ho3⟩
      have l0 : (o : Int) < 32 := by omega
      have l1 : (o1 : Int) < 32 := by omega
      have l2 : (o2 : Int) < 32 := by omega
      have l3 : (o3 : Int) < 32 := by omega
      have n1 : (⟨w.heap.size + 1 + 1, o, none⟩ : Addr) ≠ ⟨w.heap.size + 1 + 1, o1, none⟩ := fun e => by have := congrArg Addr.off e; simp at this; omega
      have n2 : (⟨w.heap.size + 1 + 1, o, none⟩ : Addr) ≠ ⟨w.heap.size + 1 + 1, o2, none⟩ := fun e => by have := congrArg Addr.off e; simp at this; omega
      have n3 : (⟨w.heap.size + 1 + 1, o, none⟩ : Addr) ≠ ⟨w.heap.size + 1 + 1, o3, none⟩ := fun e => by have := congrArg Addr.off e; simp at this; omega
      have n4 : (⟨w.heap.size + 1 + 1, o1, none⟩ : Addr) ≠ ⟨w.heap.size + 1 + 1, o2, none⟩ := fun e => by have := congrArg Addr.off e; simp at this; omega
      have n5 : (⟨w.heap.size + 1 + 1, o1, none⟩ : Addr) ≠ ⟨w.heap.size + 1 + 1, o3, none⟩ := fun e => by have := congrArg Addr.off e; simp at this; omega
      have n6 : (⟨w.heap.size + 1 + 1, o2, none⟩ : Addr) ≠ ⟨w.heap.size + 1 + 1, o3, none⟩ := fun e => by have := congrArg Addr.off e; simp at this; omega
      clear ho hX ho1 ho2 ho3
      go_wp2
      go_roundg g
      case measure => omega
      case rel =>
        obtain ⟨hb, h1, h2⟩ := R.out
        obtain ⟨rfl, rfl, rfl, rfl, rfl⟩ := E.out
        refine ⟨i + 1, by omega, by go_num, ((((hb.setCell (by show _ ≤ w.heap.size + 1 + 1; omega) _).setCell (by show _ ≤ w.heap.size + 1 + 1; omega) _).setCell (by show _ ≤ w.heap.size + 1 + 1; omega) _).setCell (by show _ ≤ w.heap.size + 1 + 1; omega) _), ((((h1.other (by show w.heap.size + 1 ≠ w.heap.size + 1 + 1; omega) _).other (by show w.heap.size + 1 ≠ w.heap.size + 1 + 1; omega) _).other (by show w.heap.size + 1 ≠ w.heap.size + 1 + 1; omega) _).other (by show w.heap.size + 1 ≠ w.heap.size + 1 + 1; omega) _), ?_⟩
        have k0 : BYTEW x (4 * i) = x i / 16777216 % 256 := BYTEW_at x i 0 (by omega)
        have k1 : BYTEW x (4 * i + 1) = x i / 65536 % 256 := BYTEW_at x i 1 (by omega)
        have k2 : BYTEW x (4 * i + 2) = x i / 256 % 256 := BYTEW_at x i 2 (by omega)
        have k3 : BYTEW x (4 * i + 3) = x i % 256 := by rw [BYTEW_at x i 3 (by omega)]; simp
        have q0 : (x i : Int) / 16777216 % 256 = ((BYTEW x (4 * i) : Nat) : Int) := by rw [k0]; omega
        have q1 : (x i : Int) / 65536 % 256 = ((BYTEW x (4 * i + 1) : Nat) : Int) := by rw [k1]; omega
        have q2 : (x i : Int) / 256 % 256 = ((BYTEW x (4 * i + 2) : Nat) : Int) := by rw [k2]; omega
        have q3 : (x i : Int) % 256 = ((BYTEW x (4 * i + 3) : Nat) : Int) := by rw [k3]; omega
        rw [q0, q1, q2, q3]
        have h3 := (((h2.set (4 * i) (.int .u8 (BYTEW x (4 * i) : Nat))).set (4 * i + 1) (.int .u8 (BYTEW x (4 * i + 1) : Nat))).set (4 * i + 2) (.int .u8 (BYTEW x (4 * i + 2) : Nat))).set (4 * i + 3) (.int .u8 (BYTEW x (4 * i + 3) : Nat))
        rw [ufill (F := BYTEW x) (fun _ => rfl) _ rfl, ufill (F := BYTEW x) (fun _ => rfl) _ rfl, ufill (F := BYTEW x) (fun _ => rfl) _ rfl, ufill (F := BYTEW x) (fun _ => rfl) _ rfl] at h3
        exact h3

/-- cells that are written one behind the other. -/
theorem Has.cells {k : IntKind} {n g : Nat} {t : TypeId} : ∀ (vs : List Nat) (o : Nat) (f : Nat → Nat) (w : World), Has w g (UARR k n f) t →
    Has (w.setCells g o (vs.map fun v => Value.int k ((v : Nat) : Int))) g (UARR k n fun j => if o ≤ j ∧ j < o + vs.length then vs.getD (j - o) 0 else f j) t
  | [], o, f, w, h => by
    have e : (UARR k n fun j => if o ≤ j ∧ j < o + ([] : List Nat).length then ([] : List Nat).getD (j - o) 0 else f j) = UARR k n f := UARR_ext fun j _ => if_neg (by rw [List.length_nil]; omega)
    rw [e]
    exact h
  | v :: vs, o, f, w, h => by
    have h1 := Has.cells vs (o + 1) _ _ (UARR_set k n f o v ▸ h.set o (.int k (v : Int)))
    have e : (UARR k n fun j => if o + 1 ≤ j ∧ j < o + 1 + vs.length then vs.getD (j - (o + 1)) 0 else if j = o then v else f j) = UARR k n fun j => if o ≤ j ∧ j < o + (v :: vs).length then (v :: vs).getD (j - o) 0 else f j := UARR_ext fun j _ => by
      rw [List.length_cons]
      by_cases e : j = o
      · subst e
        rw [if_neg (by omega), if_pos rfl, if_pos (by omega), Nat.sub_self]
        rfl
      · rw [if_neg e]
        by_cases e2 : o + 1 ≤ j ∧ j < o + 1 + vs.length
        · rw [if_pos e2, if_pos (by omega)]
          obtain ⟨q, hq⟩ : ∃ q, j - o = q + 1 := ⟨j - o - 1, by omega⟩
          rw [hq, show j - (o + 1) = q by omega]
          rfl
        · rw [if_neg e2, if_neg (by omega)]
    rw [e] at h1
    exact h1
theorem Has.cells_other {g b : Nat} {t : TypeId} {c : Array Value} (hb : g ≠ b) : ∀ (vs : List Value) (o : Nat) (w : World), Has w g c t → Has (w.setCells b o vs) g c t
  | [], _, _, h => h
  | _ :: vs, o, _, h => Has.cells_other hb vs (o + 1) _ (h.other (by exact hb) _)
theorem below_cells {B b : Nat} {w0 : World} (hB : B ≤ b) : ∀ (vs : List Value) (o : Nat) (w : World), Below B w0 w → Below B w0 (w.setCells b o vs)
  | [], _, _, h => h
  | _ :: vs, o, _, h => below_cells hB vs (o + 1) _ (h.setCell (by exact hB) _)
theorem NARROW_whole {w : Int} (h : WID w = 32) (s : Nat → Nat) : UARR .u8 32 (NARROW w s) = UARR .u8 32 s := UARR_ext fun j hj => by unfold NARROW; rw [if_pos (by omega)]
theorem clear_u8 (w : World) (b o n c : Nat) (ty : TypeId) (hn : 0 < n) (hc : ∀ j, j < n → (w.cell? ⟨b, o + j, none⟩).isSome = true) (hf : ∀ j, j < n → w.frozen? ⟨b, o + j, none⟩ = false) :
    (Builtin.clear_ #[30] ty #[.slice (some ⟨b, o, none⟩) n c]).run Tryd.prog w = .ok (.tuple #[]) (w.setCells b o (List.replicate n (.int .u8 0))) := by
  obtain ⟨i8, hi, h8⟩ := Option.map_eq_some_iff.1 info_u8
  simp only [Prod.mk.injEq] at h8
  exact Lib.run_clear_slice w 30 5 ty (.int .u8 0) Tryd.underlying30 (fun w => by simp [zeroValue, typeInfo, hi, h8.1]) rfl rfl b o n c hn hc hf
/-- the two blocks of narrow, the first one cleared from n on. -/
theorem narrow_blocks (d : Int) (n : Nat) (hn : WID d = n) (h32 : n < 32) (s : Nat → Nat) (w : World) :
    (∀ ty, (Builtin.clear_ #[30] ty #[.slice (some ⟨w.heap.size, n, none⟩) (32 - n) (32 - n)]).run Tryd.prog ((w.alloc (.cells (UARR .u8 32 s) 26)).alloc (.cells (UARR .u8 32 fun _ => 0) 26)) = .ok (.tuple #[]) (((w.alloc (.cells (UARR .u8 32 s) 26)).alloc (.cells (UARR .u8 32 fun _ => 0) 26)).setCells w.heap.size n (List.replicate (32 - n) (.int .u8 0)))) ∧
    Has (((w.alloc (.cells (UARR .u8 32 s) 26)).alloc (.cells (UARR .u8 32 fun _ => 0) 26)).setCells w.heap.size n (List.replicate (32 - n) (.int .u8 0))) w.heap.size (UARR .u8 32 (NARROW d s)) 26 ∧
    Has (((w.alloc (.cells (UARR .u8 32 s) 26)).alloc (.cells (UARR .u8 32 fun _ => 0) 26)).setCells w.heap.size n (List.replicate (32 - n) (.int .u8 0))) (w.heap.size + 1) (UARR .u8 32 fun _ => 0) 26 ∧
    Below w.heap.size w (((w.alloc (.cells (UARR .u8 32 s) 26)).alloc (.cells (UARR .u8 32 fun _ => 0) 26)).setCells w.heap.size n (List.replicate (32 - n) (.int .u8 0))) := by
  have h0 : Has ((w.alloc (.cells (UARR .u8 32 s) 26)).alloc (.cells (UARR .u8 32 fun _ => 0) 26)) w.heap.size (UARR .u8 32 s) 26 := (Has.new w _ _).alloc _
  have h1 : Has ((w.alloc (.cells (UARR .u8 32 s) 26)).alloc (.cells (UARR .u8 32 fun _ => 0) 26)) (w.heap.size + 1) (UARR .u8 32 fun _ => 0) 26 := Has.at _ _ _ (by simp)
  have hb : Below w.heap.size w ((w.alloc (.cells (UARR .u8 32 s) 26)).alloc (.cells (UARR .u8 32 fun _ => 0) 26)) := ((Below.refl _ _).alloc (Nat.le_refl _) _).alloc (by simp) _
  refine ⟨fun ty => clear_u8 _ _ n (32 - n) (32 - n) ty (by omega) (fun j hj => by rw [h0.cell, UARR_get _ _ _ _ (by omega)]; rfl) (fun j _ => h0.frozen _), ?_, h1.cells_other (by omega) _ _ _, below_cells (Nat.le_refl _) _ _ _ hb⟩
  have h2 := h0.cells (List.replicate (32 - n) 0) n
  have e : (UARR .u8 32 fun j => if n ≤ j ∧ j < n + (List.replicate (32 - n) 0).length then (List.replicate (32 - n) 0).getD (j - n) 0 else s j) = UARR .u8 32 (NARROW d s) := UARR_ext fun j hj => by
    unfold NARROW
    rw [hn, List.length_replicate]
    by_cases e : j < n
    · rw [if_neg (by omega), if_pos e]
    · rw [if_pos (by omega), if_neg e]
      rw [List.getD_eq_getElem?_getD, List.getElem?_replicate]
      split <;> rfl
  rw [e, List.map_replicate] at h2
  exact h2
set_option maxRecDepth 100000 in
theorem narrow_ok (d : Int) (s : Nat → Nat) (w : World) : Calls Tryd.prog 39 #[.int .i64 d, .agg (UARR .u8 32 s)] w fun e w' => e = .returned (.agg (UARR .u8 32 (NARROW d s))) ∧ Below w.heap.size w w' := by
  have hz := zero32
  by_cases d1 : d < 1
  · have hW : WID d = 1 := by unfold WID; omega
    have K := narrow_blocks d 1 hW (by decide) s w
    have HCL : Aside _ := K.1
    have HC : Aside _ := K.2
    clear K hW
    go_enter Tryd.func39, Tryd.ntmps39
    go_wp2
    rw [HCL.out]
    go_wp2_with (first
      | (refine wpList_load_row rfl 26 _ rfl _ rfl _ _ (0, 0) _ HC.out.1 Tryd.underlying26 rfl (info_HASH _) ?_)
      | (refine wpList_store_row rfl 26 _ _ rfl _ _ rfl rfl _ _ HC.out.2.1 (info_HASH _) (by rw [UARR_size, UARR_size]) (UARR_one _ _ _) ?_))
    refine bodyPost_ret (v := .agg (UARR .u8 32 (NARROW d s))) ?_ rfl ⟨rfl, below_row HC.out.2.2 (by omega) _⟩
    exact results_cell_row rfl _ _ (w.heap.size + 1) 26 _ (0, 0) _ rfl (HC.out.2.1.row _) Tryd.underlying26 rfl (info_HASH _)
  · have d2 : 1 ≤ d := by omega
    by_cases d3 : d < 32
    · obtain ⟨n, rfl⟩ : ∃ n : Nat, d = (n : Int) := ⟨d.toNat, by omega⟩
      have hW : WID n = n := by unfold WID; omega
      have K := narrow_blocks n n hW (by omega) s w
      have HCL : Aside _ := K.1
      have HC : Aside _ := K.2
      have hsl := slice_hash w.heap.size n (by omega) (n : Int) rfl
      clear K hW
      go_enter Tryd.func39, Tryd.ntmps39
      go_wp2
      rw [HCL.out]
      go_wp2_with (first
        | (refine wpList_load_row rfl 26 _ rfl _ rfl _ _ (0, 0) _ HC.out.1 Tryd.underlying26 rfl (info_HASH _) ?_)
        | (refine wpList_store_row rfl 26 _ _ rfl _ _ rfl rfl _ _ HC.out.2.1 (info_HASH _) (by rw [UARR_size, UARR_size]) (UARR_one _ _ _) ?_))
      refine bodyPost_ret (v := .agg (UARR .u8 32 (NARROW n s))) ?_ rfl ⟨rfl, below_row HC.out.2.2 (by omega) _⟩
      exact results_cell_row rfl _ _ (w.heap.size + 1) 26 _ (0, 0) _ rfl (HC.out.2.1.row _) Tryd.underlying26 rfl (info_HASH _)
    · have hW : WID d = 32 := by unfold WID; omega
      have HCL : Aside (∀ ty b (w : World), (Builtin.clear_ #[30] ty #[.slice (some ⟨b, 0, none⟩) 0 0]).run Tryd.prog w = .ok (.tuple #[]) w) := fun ty b w => by simp [Builtin.clear_, run_underlying Tryd.underlying30]
      have HC : Aside (Has ((w.alloc (.cells (UARR .u8 32 s) 26)).alloc (.cells (UARR .u8 32 fun _ => 0) 26)) w.heap.size (UARR .u8 32 (NARROW d s)) 26 ∧ Has ((w.alloc (.cells (UARR .u8 32 s) 26)).alloc (.cells (UARR .u8 32 fun _ => 0) 26)) (w.heap.size + 1) (UARR .u8 32 fun _ => 0) 26 ∧ Below w.heap.size w ((w.alloc (.cells (UARR .u8 32 s) 26)).alloc (.cells (UARR .u8 32 fun _ => 0) 26))) :=
        ⟨by rw [NARROW_whole hW]; exact (Has.new w _ _).alloc _, Has.at _ _ _ (by simp), ((Below.refl _ _).alloc (Nat.le_refl _) _).alloc (by simp) _⟩
      rcases Int.lt_or_eq_of_le (show (32 : Int) ≤ d by omega) with d4 | d4
      · clear hW
        go_enter Tryd.func39, Tryd.ntmps39
        go_wp2
        rw [HCL.out]
        go_wp2_with (first
          | (refine wpList_load_row rfl 26 _ rfl _ rfl _ _ (0, 0) _ HC.out.1 Tryd.underlying26 rfl (info_HASH _) ?_)
          | (refine wpList_store_row rfl 26 _ _ rfl _ _ rfl rfl _ _ HC.out.2.1 (info_HASH _) (by rw [UARR_size, UARR_size]) (UARR_one _ _ _) ?_))
        refine bodyPost_ret (v := .agg (UARR .u8 32 (NARROW d s))) ?_ rfl ⟨rfl, below_row HC.out.2.2 (by omega) _⟩
        exact results_cell_row rfl _ _ (w.heap.size + 1) 26 _ (0, 0) _ rfl (HC.out.2.1.row _) Tryd.underlying26 rfl (info_HASH _)
      · subst d4
        clear hW
        go_enter Tryd.func39, Tryd.ntmps39
        go_wp2
        rw [HCL.out]
        go_wp2_with (first
          | (refine wpList_load_row rfl 26 _ rfl _ rfl _ _ (0, 0) _ HC.out.1 Tryd.underlying26 rfl (info_HASH _) ?_)
          | (refine wpList_store_row rfl 26 _ _ rfl _ _ rfl rfl _ _ HC.out.2.1 (info_HASH _) (by rw [UARR_size, UARR_size]) (UARR_one _ _ _) ?_))
        refine bodyPost_ret (v := .agg (UARR .u8 32 (NARROW 32 s))) ?_ rfl ⟨rfl, below_row HC.out.2.2 (by omega) _⟩
        exact results_cell_row rfl _ _ (w.heap.size + 1) 26 _ (0, 0) _ rfl (HC.out.2.1.row _) Tryd.underlying26 rfl (info_HASH _)
end Go.Proofs.YtbmjoiiagldklaaDoor.HX

/- What Compress of package hash answers: one step of the hash. -/
namespace Go.Proofs.YtbmjoiiagldklaaDoor.HX
open Go.RowKit

def BEGIN : List Nat := [1779033703, 3144134277, 1013904242, 2773480762, 1359893119, 2600822924, 528734635, 1541459225]
/-- the two tables of package hash lie there. -/
def Tabled (w : World) : Prop := (∀ i, i < 64 → w.cell? ⟨0, i, none⟩ = some (.int .u32 (KC i : Nat))) ∧ (∀ i, i < 8 → w.cell? ⟨1, i, none⟩ = some (.int .u32 (BEGIN.getD i 0 : Nat))) ∧ 1 < w.heap.size
theorem Tabled.below {w w' : World} (h : Tabled w) (hb : Below w.heap.size w w') : Tabled w' :=
  ⟨fun i hi => (hb.cell (by show 0 < w.heap.size; have := h.2.2; omega)).trans (h.1 i hi), fun i hi => (hb.cell (by show 1 < w.heap.size; have := h.2.2; omega)).trans (h.2.1 i hi), Nat.lt_of_lt_of_le h.2.2 hb.size⟩
theorem compress_ok (d : Int) (s b : Nat → Nat) (hs : ∀ i, s i < 256) (hb : ∀ i, b i < 256) (w : World) (hT : Tabled w) : Calls Tryd.prog 17 #[.int .i64 d, .agg (UARR .u8 32 s), .agg (UARR .u8 64 b)] w fun e w' => e = .returned (.agg (UARR .u8 32 (COMP d s b))) ∧ Below w.heap.size w w' := by
  have hz8 : (#[.int .u32 0, .int .u32 0, .int .u32 0, .int .u32 0, .int .u32 0, .int .u32 0, .int .u32 0, .int .u32 0] : Array Value) = UARR .u32 8 fun _ => 0 := rfl
  have hz := zero32
  have hz64 := zero64
  have H : Aside ((∀ i, s i < 256) ∧ (∀ i, b i < 256) ∧ Tabled w) := ⟨hs, hb, hT⟩
  have cw := words_ok s hs
  have cs := schedule_ok b hb
  clear hs hb hT
  go_enter Tryd.func17, Tryd.ntmps17
  go_wp2_with (first
    | (refine wpList_load_row rfl 26 _ rfl _ rfl 26 (UARR .u8 32 s) (0, 0) _ (((Has.new w _ _).alloc _).alloc _) Tryd.underlying26 rfl (info_HASH _) ?_))
  refine (cw _).mono ?_
  rintro e w1 ⟨rfl, hb1⟩
  clear cw
  have R : Aside (Below w.heap.size w w1 ∧ Has w1 (w.heap.size + 1) (UARR .u8 64 b) 42 ∧ Has w1 (w.heap.size + 2) (UARR .u8 32 fun _ => 0) 26) :=
    ⟨((((Below.refl _ _).alloc (Nat.le_refl _) _).alloc (by simp) _).alloc (by simp; omega) _).trans (hb1.mono (by simp; omega)), ((Has.at _ _ _ (by simp)).alloc _).keep hb1, (Has.at _ _ _ (by simp)).keep hb1⟩
  clear hb1
  go_wp2_with (first
    | (refine wpList_store_row rfl 78 _ _ rfl _ _ rfl rfl 78 (UARR .u32 8 fun _ => 0) (Has.new w1 _ _) (info_W8 _) (by rw [UARR_size, UARR_size]) (UARR_one _ _ _) ?_))
  rw [World.setRow_alloc_new]
  obtain ⟨R1, R2, R3⟩ := R.out
  have h2 := Has.new w1 (UARR .u32 8 fun i => WORDAT s (4 * i)) 78
  have L : Aside (Below w.heap.size w (w1.alloc (.cells (UARR .u32 8 fun i => WORDAT s (4 * i)) 78)) ∧ Has (w1.alloc (.cells (UARR .u32 8 fun i => WORDAT s (4 * i)) 78)) (w.heap.size + 1) (UARR .u8 64 b) 42 ∧ Has (w1.alloc (.cells (UARR .u32 8 fun i => WORDAT s (4 * i)) 78)) (w.heap.size + 2) (UARR .u8 32 fun _ => 0) 26 ∧ w.heap.size + 2 < w1.heap.size) := ⟨R1.alloc R1.size _, R2.alloc _, R3.alloc _, R3.lt⟩
  generalize w1.alloc (.cells (UARR .u32 8 fun i => WORDAT s (4 * i)) 78) = w2 at *
  generalize w1.heap.size = g1 at *
  clear R1 R2 R3 R w1
  have c0 : w2.cell? ⟨g1, 0, none⟩ = some (.int .u32 ((STOF s).a : Nat)) := by rw [h2.cell, UARR_get _ _ _ _ (by omega)]; rfl
  have c1 : w2.cell? ⟨g1, 1, none⟩ = some (.int .u32 ((STOF s).b : Nat)) := by rw [h2.cell, UARR_get _ _ _ _ (by omega)]; rfl
  have c2 : w2.cell? ⟨g1, 2, none⟩ = some (.int .u32 ((STOF s).c : Nat)) := by rw [h2.cell, UARR_get _ _ _ _ (by omega)]; rfl
  have c3 : w2.cell? ⟨g1, 3, none⟩ = some (.int .u32 ((STOF s).d : Nat)) := by rw [h2.cell, UARR_get _ _ _ _ (by omega)]; rfl
  have c4 : w2.cell? ⟨g1, 4, none⟩ = some (.int .u32 ((STOF s).e : Nat)) := by rw [h2.cell, UARR_get _ _ _ _ (by omega)]; rfl
  have c5 : w2.cell? ⟨g1, 5, none⟩ = some (.int .u32 ((STOF s).f : Nat)) := by rw [h2.cell, UARR_get _ _ _ _ (by omega)]; rfl
  have c6 : w2.cell? ⟨g1, 6, none⟩ = some (.int .u32 ((STOF s).g : Nat)) := by rw [h2.cell, UARR_get _ _ _ _ (by omega)]; rfl
  have c7 : w2.cell? ⟨g1, 7, none⟩ = some (.int .u32 ((STOF s).h : Nat)) := by rw [h2.cell, UARR_get _ _ _ _ (by omega)]; rfl
  have L2 : Aside (Has w2 g1 (UARR .u32 8 fun i => WORDAT s (4 * i)) 78) := h2
  clear h2
  have HS : Aside (Small (STOF s)) := STOF_small H.out.1
  generalize hST : STOF s = S0 at *
  have HST : Aside (STOF s = S0) := hST
  clear hST
  go_quiet (fail)
  clear c0 c1 c2 c3 c4 c5 c6 c7
  go_wp2_with (first
    | (refine wpList_load_row rfl 42 _ rfl _ rfl 42 (UARR .u8 64 b) (0, 0) _ (L.out.2.1.drewN _) Tryd.underlying42 rfl (info_BLOCK _) ?_))
  refine (cs _).mono ?_
  rintro e w3 ⟨rfl, hb3⟩
  clear cs
  have hb4 : Below w2.heap.size w2 w3 := (below_drewN (Below.refl _ w2) nq).trans hb3
  have M : Aside (Below w.heap.size w w3 ∧ Has w3 (w.heap.size + 2) (UARR .u8 32 fun _ => 0) 26 ∧ Has w3 g1 (UARR .u32 8 fun i => WORDAT s (4 * i)) 78 ∧ w.heap.size + 2 < g1) :=
    ⟨L.out.1.trans (hb4.mono L.out.1.size), L.out.2.2.1.keep hb4, L2.out.keep hb4, L.out.2.2.2⟩
  clear L L2 hb3 hb4
  go_wp2_with (first
    | (refine wpList_store_row rfl 80 _ _ rfl _ _ rfl rfl 80 (UARR .u32 64 fun _ => 0) (Has.new w3 _ _) (info_W64 _) (by rw [UARR_size, UARR_size]) (UARR_one _ _ _) ?_))
  rw [World.setRow_alloc_new]
  have hb5 : Below w3.heap.size w3 (w3.alloc (.cells (UARR .u32 64 (SCH b)) 80)) := (Below.refl _ _).alloc (Nat.le_refl _) _
  have N : Aside (Below w.heap.size w (w3.alloc (.cells (UARR .u32 64 (SCH b)) 80)) ∧ Has (w3.alloc (.cells (UARR .u32 64 (SCH b)) 80)) (w.heap.size + 2) (UARR .u8 32 fun _ => 0) 26 ∧ Has (w3.alloc (.cells (UARR .u32 64 (SCH b)) 80)) g1 (UARR .u32 8 fun i => WORDAT s (4 * i)) 78 ∧ w.heap.size + 2 < g1 ∧ Has (w3.alloc (.cells (UARR .u32 64 (SCH b)) 80)) w3.heap.size (UARR .u32 64 (SCH b)) 80) :=
    ⟨M.out.1.alloc M.out.1.size _, M.out.2.1.keep hb5, M.out.2.2.1.keep hb5, M.out.2.2.2, Has.new _ _ _⟩
  clear hb5 M
  generalize w3.alloc (.cells (UARR .u32 64 (SCH b)) 80) = w4 at *
  generalize w3.heap.size = g2 at *
  clear w3
  clear hz hz8 hz64
  go_loopg [8, 9, 10, 11, 12, 13, 14, 15, 42] 64 (fun g s8 s9 s10 s11 s12 s13 s14 s15 s42 wx => ∃ (t : Nat) (S : ST), t + g = 64 ∧ Aside (S = RUN (SCH b) S0 t ∧ ∃ m, wx = w4.drewN m) ∧ s42 = .int .i64 t ∧ s8 = .int .u32 (S.a : Nat) ∧ s9 = .int .u32 (S.b : Nat) ∧ s10 = .int .u32 (S.c : Nat) ∧ s11 = .int .u32 (S.d : Nat) ∧ s12 = .int .u32 (S.e : Nat) ∧ s13 = .int .u32 (S.f : Nat) ∧ s14 = .int .u32 (S.g : Nat) ∧ s15 = .int .u32 (S.h : Nat))
  case atStart => exact ⟨0, S0, by omega, ⟨rfl, 0, rfl⟩, rfl, rfl, rfl, rfl, rfl, rfl, rfl, rfl, rfl⟩
  case round =>
    obtain ⟨t, S, htg, A, rfl, rfl, rfl, rfl, rfl, rfl, rfl, rfl, rfl⟩ := hrel
    have B : Aside (Small S) := by rw [A.out.1]; exact RUN_small _ HS.out t
    cases gk with
    | zero =>
      obtain rfl : t = 64 := by omega
      obtain ⟨hS, m, hm⟩ := A.out
      obtain ⟨b1, b2, b3, b4, b5, b6, b7, b8⟩ := B.out
      have hbl : #[Value.int .u32 (S.a : Nat), .int .u32 (S.b : Nat), .int .u32 (S.c : Nat), .int .u32 (S.d : Nat), .int .u32 (S.e : Nat), .int .u32 (S.f : Nat), .int .u32 (S.g : Nat), .int .u32 (S.h : Nat)] = UARR .u32 8 S.at := rfl
      have N1 : Aside (Below w.heap.size w wr ∧ Has wr (w.heap.size + 2) (UARR .u8 32 fun _ => 0) 26 ∧ Has wr g1 (UARR .u32 8 fun i => WORDAT s (4 * i)) 78 ∧ w.heap.size + 2 < g1) := by
        rw [hm]
        exact ⟨below_drewN N.out.1 m, N.out.2.1.drewN m, N.out.2.2.1.drewN m, N.out.2.2.2.1⟩
      have F : Aside (S = RUN (SCH b) (STOF s) 64) := by rw [HST.out]; exact hS
      clear A B N hS hm HS HST b1 b2 b3 b4 b5 b6 b7 b8
      go_wp2_with fail
      clear hbl
      go_loopg [91] 8 (fun g s91 wx => ∃ i : Nat, i + g = 8 ∧ s91 = .int .i64 i ∧ Aside (Below w.heap.size w wx ∧ Has wx (w.heap.size + 2) (UARR .u8 32 fun _ => 0) 26 ∧ Has wx g1 (UARR .u32 8 fun j => if j < i then OUTW s b j else WORDAT s (4 * j)) 78))
      case atStart =>
        have e : (UARR .u32 8 fun j => if j < 0 then OUTW s b j else WORDAT s (4 * j)) = UARR .u32 8 fun i => WORDAT s (4 * i) := UARR_ext fun j _ => if_neg (by omega)
        refine ⟨0, by omega, rfl, ?_⟩
        rw [e]
        exact ⟨N1.out.1, N1.out.2.1, N1.out.2.2.1⟩
      case round =>
        obtain ⟨i, hig, rfl, A⟩ := hrel
        cases gk with
        | zero =>
          obtain rfl : i = 8 := by omega
          have e : (UARR .u32 8 fun j => if j < 8 then OUTW s b j else WORDAT s (4 * j)) = UARR .u32 8 (OUTW s b) := UARR_ext fun j hj => by rw [if_pos hj]
          rw [e] at A
          clear e
          have cj := joined_ok (OUTW s b) (fun i => Nat.mod_lt _ (by decide))
          have cn := narrow_ok d (BYTEW (OUTW s b))
          go_wp2_with (first
            | (refine wpList_load_row rfl 78 _ rfl _ rfl 78 (UARR .u32 8 (OUTW s b)) (0, 0) _ A.out.2.2 Tryd.underlying78 rfl (info_W8 _) ?_))
          refine (cj _).mono ?_
          rintro e w5 ⟨rfl, hb5⟩
          clear cj
          have P : Aside (Below w.heap.size w w5 ∧ Has w5 (w.heap.size + 2) (UARR .u8 32 fun _ => 0) 26) := ⟨A.out.1.trans (hb5.mono A.out.1.size), A.out.2.1.keep hb5⟩
          clear A hb5
          go_wp2_with fail
          refine (cn _).mono ?_
          rintro e w6 ⟨rfl, hb6⟩
          clear cn
          have Q : Aside (Below w.heap.size w w6 ∧ Has w6 (w.heap.size + 2) (UARR .u8 32 fun _ => 0) 26) := ⟨P.out.1.trans (hb6.mono P.out.1.size), P.out.2.keep hb6⟩
          clear P hb6
          have hC : NARROW d (BYTEW (OUTW s b)) = COMP d s b := rfl
          rw [hC]
          clear hC
          go_wp2_with (first
            | (refine wpList_store_row rfl 26 _ _ rfl _ _ rfl rfl _ _ Q.out.2 (info_HASH _) (by rw [UARR_size, UARR_size]) (UARR_one _ _ _) ?_))
          refine bodyPost_ret (v := .agg (UARR .u8 32 (COMP d s b))) ?_ rfl ⟨rfl, below_row Q.out.1 (by omega) _⟩
          exact results_cell_row rfl _ _ (w.heap.size + 2) 26 _ (0, 0) _ rfl (Q.out.2.row _) Tryd.underlying26 rfl (info_HASH _)
        | succ g =>
          obtain ⟨hb, h1, h2⟩ := A.out
          have hi : (i : Int) < 8 := by omega
          have hxi := index_w8 S.at i (by omega)
          have hc : wr.cell? ⟨g1, i, none⟩ = some (.int .u32 (WORDAT s (4 * i) : Nat)) := by rw [h2.cell, UARR_get _ _ _ _ (by omega), if_neg (by omega)]
          have hf : wr.frozen? ⟨g1, i, none⟩ = false := h2.frozen i
          have R : Aside (Below w.heap.size w wr ∧ Has wr (w.heap.size + 2) (UARR .u8 32 fun _ => 0) 26 ∧ Has wr g1 (UARR .u32 8 fun j => if j < i then OUTW s b j else WORDAT s (4 * j)) 78 ∧ w.heap.size + 2 < g1 ∧ (WORDAT s (4 * i) + S.at i) % 4294967296 = OUTW s b i) := ⟨hb, h1, h2, N1.out.2.2.2, by rw [F.out]; rfl⟩
          clear hb h1 h2 A N1
          generalize WORDAT s (4 * i) = v at *
          generalize S.at i = x at *
          go_wp2
          go_roundg g
          case measure => omega
          case rel =>
            obtain ⟨hb, h1, h2, hg, hv⟩ := R.out
            refine ⟨i + 1, by omega, by go_num, hb.setCell (by show _ ≤ g1; omega) _, h1.other (by show _ ≠ g1; omega) _, ?_⟩
            have h3 := h2.set i (.int .u32 (OUTW s b i : Nat))
            rw [UARR_set] at h3
            have e : (UARR .u32 8 fun j => if j = i then OUTW s b i else if j < i then OUTW s b j else WORDAT s (4 * j)) = UARR .u32 8 fun j => if j < i + 1 then OUTW s b j else WORDAT s (4 * j) := UARR_ext fun j _ => by
              by_cases e : j = i
              · rw [if_pos e, e, if_pos (by omega)]
              · rw [if_neg e]
                by_cases e2 : j < i
                · rw [if_pos e2, if_pos (by omega)]
                · rw [if_neg e2, if_neg (by omega)]
            rw [e] at h3
            have hx : ((v : Int) + (x : Int)) % 4294967296 = ((OUTW s b i : Nat) : Int) := by rw [← hv]; omega
            rw [hx]
            exact h3
    | succ g =>
      have ht : (t : Int) < 64 := by omega
      obtain ⟨hS, m, hm⟩ := A.out
      have D : Aside (∃ m, wr = w4.drewN m) := ⟨m, hm⟩
      have cK : wr.cell? ⟨0, t, none⟩ = some (.int .u32 (KC t : Nat)) := by
        rw [hm]
        exact (N.out.1.cell (by show 0 < w.heap.size; have := H.out.2.2.2.2; omega)).trans (H.out.2.2.1 t (by omega))
      have cX : wr.cell? ⟨g2, t, none⟩ = some (.int .u32 (SCH b t : Nat)) := by rw [hm, (N.out.2.2.2.2.drewN m).cell, UARR_get _ _ _ _ (by omega)]
      obtain ⟨b1, b2, b3, b4, b5, b6, b7, b8⟩ := B.out
      have k1 : ∀ w, Calls Tryd.prog 36 #[.int .u32 (S.e : Nat), .int .i64 6, .int .i64 11, .int .i64 25] w fun e w' => e = .returned (.int .u32 (MIX 6 11 25 S.e : Nat)) ∧ w = w' := fun w => mix_ok _ 6 11 25 b5 (by decide) (by decide) (by decide) w
      have k2 : ∀ w, Calls Tryd.prog 37 #[.int .u32 (S.e : Nat), .int .u32 (S.f : Nat), .int .u32 (S.g : Nat)] w fun e w' => e = .returned (.int .u32 (CHO S.e S.f S.g : Nat)) ∧ w = w' := fun w => choose_ok _ _ _ b5 b6 b7 w
      have k3 : ∀ w, Calls Tryd.prog 36 #[.int .u32 (S.a : Nat), .int .i64 2, .int .i64 13, .int .i64 22] w fun e w' => e = .returned (.int .u32 (MIX 2 13 22 S.a : Nat)) ∧ w = w' := fun w => mix_ok _ 2 13 22 b1 (by decide) (by decide) (by decide) w
      have k4 : ∀ w, Calls Tryd.prog 38 #[.int .u32 (S.a : Nat), .int .u32 (S.b : Nat), .int .u32 (S.c : Nat)] w fun e w' => e = .returned (.int .u32 (MAJ S.a S.b S.c : Nat)) ∧ w = w' := fun w => majority_ok _ _ _ b1 b2 b3 w
      have E : Aside (RND (KC t) (SCH b t) S = { a := ((S.h + MIX 6 11 25 S.e + CHO S.e S.f S.g + KC t + SCH b t) % 4294967296 + (MIX 2 13 22 S.a + MAJ S.a S.b S.c) % 4294967296) % 4294967296, b := S.a, c := S.b, d := S.c, e := (S.d + (S.h + MIX 6 11 25 S.e + CHO S.e S.f S.g + KC t + SCH b t) % 4294967296) % 4294967296, f := S.e, g := S.f, h := S.g }) := rfl
      have E2 : Aside (RUN (SCH b) S0 (t + 1) = RND (KC t) (SCH b t) S) := by rw [hS]; rfl
      generalize RND (KC t) (SCH b t) S = S' at *
      generalize MIX 6 11 25 S.e = m1 at *
      generalize CHO S.e S.f S.g = m2 at *
      generalize MIX 2 13 22 S.a = m3 at *
      generalize MAJ S.a S.b S.c = m4 at *
      generalize KC t = m5 at *
      generalize SCH b t = m6 at *
      clear A B b1 b2 b3 b4 b5 b6 b7 b8 hS hm
      obtain ⟨a, bb, c, dd, e, f, gg, h⟩ := S
      simp only at *
      go_wp2_with fail
      go_quiet (first | (go_at_call 36; exact quiet_eq (k1 _)) | (go_at_call 37; exact quiet_eq (k2 _)))
      clear k1 k2 cK cX
      go_wp2_with fail
      refine (k3 _).mono ?_
      rintro e w' ⟨rfl, rfl⟩
      clear k3
      go_wp2_with fail
      refine (k4 _).mono ?_
      rintro e w' ⟨rfl, rfl⟩
      clear k4
      go_wp2
      go_roundg g
      case measure => omega
      case rel =>
        refine ⟨t + 1, S', by omega, ⟨E2.out.symm, ?_⟩, by go_num, ?_⟩
        · obtain ⟨m, hm⟩ := D.out
          exact ⟨_, by rw [hm, World.drewN_drewN]⟩
        rw [E.out]
        dsimp only
        exact ⟨congrArg (Value.int .u32) (by omega), rfl, rfl, rfl, congrArg (Value.int .u32) (by omega), rfl, rfl, rfl⟩
end Go.Proofs.YtbmjoiiagldklaaDoor.HX
