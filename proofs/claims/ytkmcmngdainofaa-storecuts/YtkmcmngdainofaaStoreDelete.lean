/- slices.Delete of one element, of hashes and of rows. -/
import Derived.Test.YtkmcmngdainofaaStoreDeletePlain
namespace Go.Proofs.Ytkmcmngdainofaa
open Go.RowKit Go.Maps
set_option maxRecDepth 100000

theorem del_nats (i n cap : Nat) (hi : i < n) (hn : n ≤ cap) (hc : cap ≤ maxLen) : wrap64 ((i : Int) + 1) = ((i + 1 : Nat) : Int) ∧ i + (n - (i + 1)) = n - 1 := ⟨by unfold wrap64; unfold maxLen at hc; omega, by omega⟩
set_option maxHeartbeats 2000000 in
theorem deleteh_ok (B g n cap i i1 n1 : Nat) (xs : List Value) (w : World) (hown : w.ownsRow B 33 32 (.slice (some ⟨g, 0, none⟩) n cap) n xs) (hone : ∀ u ∈ xs, u.oneCell' = true) (hi : i < n) (e1 : i + 1 = i1) (e2 : n - 1 = n1) : Calls Try.prog 51 #[.slice (some ⟨g, 0, none⟩) n cap, .int .i64 (i : Int), .int .i64 (i1 : Int)] w fun e w' =>
    e = .returned (.slice (some ⟨g, 0, none⟩) n1 cap) ∧ w'.ownsRow B 33 32 (.slice (some ⟨g, 0, none⟩) n1 cap) n1 (xs.take (i * 32) ++ xs.drop (i1 * 32)) ∧ (∀ x, x ≠ g → w'.heap[x]? = w.heap[x]?) ∧ Below B w w' := by
  obtain ⟨ti, hti, hz, hs1, hby⟩ := info_parts info_hashT
  obtain ⟨oc, ov, on, om, olt, oB⟩ := own_cell hown
  have hsz : ∀ w : World, (sizeOf 33).run Try.prog w = .ok 32 w := fun w => by simp [sizeOf, typeInfo, hti, hs1]
  have hxl := hown.1
  have hmx : cap ≤ 9223372036854775807 := by unfold maxLen at om; omega
  obtain ⟨X, hX⟩ : ∃ X, ∀ w, (Instr.slice 22 (.slice (some ⟨g, 0, none⟩) n cap) (some (.int .i64 (i : Int))) (some (.int .i64 (i1 : Int))) (some (.int .i64 (n : Int)))).run Try.prog w = .ok X w := ⟨_, fun w => (run_slice_lhm (P := Try.prog) w 22 (some ⟨g, 0, none⟩) n cap (by kernel_rfl) .i64 .i64 .i64 (i : Int) (i1 : Int) (n : Int) (by omega) (by omega) (by omega) (by omega)).trans (by rw [show Try.prog.elem 22 = 33 from by kernel_rfl, hsz]; rfl)⟩
  have hY : ∀ w, (Instr.slice 22 (.slice (some ⟨g, 0, none⟩) n cap) none (some (.int .i64 (i : Int))) none).run Try.prog w = .ok (.slice (some ⟨g, 0, none⟩) i cap) w := fun w => (run_slice_h (P := Try.prog) w 22 (some ⟨g, 0, none⟩) n cap (by kernel_rfl) .i64 (i : Int) (by omega) (by omega)).trans (by rw [show Try.prog.elem 22 = 33 from by kernel_rfl, hsz]; simp [Result.andThen, sliced, Addr.add])
  obtain ⟨A, hA, hZ⟩ : ∃ A, (∀ j u, (xs.drop (i1 * 32))[j]? = some u → w.cell? (A.add j) = some u) ∧ ∀ w, (Instr.slice 22 (.slice (some ⟨g, 0, none⟩) n cap) (some (.int .i64 (i1 : Int))) none none).run Try.prog w = .ok (.slice (some A) (n - i1) (cap - i1)) w := by
    refine ⟨if cap = i1 then ⟨g, 0, none⟩ else ⟨g, i1 * 32, none⟩, fun j u hu => ?_, fun w => (run_slice_l (P := Try.prog) w 22 (some ⟨g, 0, none⟩) n cap (by kernel_rfl) .i64 (i1 : Int) (by omega) (by omega)).trans (by rw [show Try.prog.elem 22 = 33 from by kernel_rfl, hsz]; simp [Result.andThen, sliced, Addr.add_mid]; split <;> rfl)⟩
    have hj := (List.getElem?_eq_some_iff.1 hu).1
    simp at hj
    rw [if_neg (by omega), Addr.add_mid]
    rw [List.getElem?_drop] at hu
    exact ov _ u hu
  have hC : ∀ w, (Instr.slice 22 (.slice (some ⟨g, 0, none⟩) n1 cap) (some (.int .i64 (n1 : Int))) (some (.int .i64 (n : Int))) none).run Try.prog w = .ok (.slice (some ⟨g, n1 * 32, none⟩) 1 (cap - n1)) w := fun w => (run_slice_lh (P := Try.prog) w 22 (some ⟨g, 0, none⟩) n1 cap (by kernel_rfl) .i64 .i64 (n1 : Int) (n : Int) (by omega) (by omega) (by omega)).trans (by rw [show Try.prog.elem 22 = 33 from by kernel_rfl, hsz]; simp [Result.andThen, sliced, Addr.add_mid]; exact ⟨fun h => absurd h (by omega), by omega⟩)
  have hsum : i + (n - i1) = n1 := by omega
  have hne : ((i : Int) == (i1 : Int)) = false := by simp; omega
  have hns := Nat.mul_le_mul_right 32 hi
  have nl : (xs.drop (i1 * 32)).length = (n - i1) * 32 := by simp; omega
  have H : Aside (w.ownsRow B 33 32 (.slice (some ⟨g, 0, none⟩) n cap) n xs ∧ i < n ∧ i + 1 = i1 ∧ n - 1 = n1 ∧ n ≤ cap ∧ B ≤ g) := ⟨hown, hi, e1, e2, on, oB⟩
  have s1 : Aside ((xs.drop (i1 * 32)).length = (n - i1) * 32) := nl
  have s2 : Aside (∀ j u, (xs.drop (i1 * 32))[j]? = some u → w.cell? (A.add j) = some u) := hA
  have s3 : Aside (∀ u ∈ xs.drop (i1 * 32), u.oneCell' = true) := fun u hu => hone u (List.mem_of_mem_drop hu)
  have s4 : Aside (i + (n - i1) ≤ cap) := by show i + (n - i1) ≤ cap; omega
  have s5 : Aside (∀ j, j < (xs.drop (i1 * 32)).length → (w.cell? ⟨g, 0 + i * 32 + j, none⟩).isSome = true ∧ w.frozen? ⟨g, 0 + i * 32 + j, none⟩ = false) := fun j hj => oc _ (by omega)
  obtain ⟨w1, hw1⟩ : ∃ w1, w.drew.setCells g (i * 32) (xs.drop (i1 * 32)) = w1 := ⟨_, rfl⟩
  have hcl : ∀ ty, (Builtin.clear_ #[22] ty #[.slice (some ⟨g, n1 * 32, none⟩) 1 (cap - n1)]).run Try.prog w1 = .ok (.tuple #[]) (w1.setCells g (n1 * 32) (ULIST .u8 32 fun _ => 0)) := fun ty => by
    refine clear_one w1 22 33 ty (.agg (UARR .u8 32 fun _ => 0)) (ULIST .u8 32 fun _ => 0) Try.underlying22 (fun w => by simp [zeroValue, typeInfo, hti, hz]) (by kernel_rfl) (by exact ULIST_one _ _ _) g (n1 * 32) (cap - n1) (fun j hj => ?_) (fun j hj => ?_)
    · rw [← hw1]
      refine World.isSome_setCells g _ _ _ _ ?_
      exact (oc (n1 * 32 + j) (by rw [ULIST_length] at hj; omega)).1
    · rw [← hw1, World.frozen?_setCells]
      exact (oc (n1 * 32 + j) (by rw [ULIST_length] at hj; omega)).2
  have R : Aside ((w1.setCells g (n1 * 32) (ULIST .u8 32 fun _ => 0)).ownsRow B 33 32 (.slice (some ⟨g, 0, none⟩) n1 cap) n1 (xs.take (i * 32) ++ xs.drop (i1 * 32)) ∧ (∀ x, x ≠ g → (w1.setCells g (n1 * 32) (ULIST .u8 32 fun _ => 0)).heap[x]? = w.heap[x]?) ∧ Below B w (w1.setCells g (n1 * 32) (ULIST .u8 32 fun _ => 0))) := by
    rw [← hw1]
    refine ⟨?_, fun x hx => (cells_heap g _ _ _ x hx).trans (cells_heap g _ _ _ x hx), below_cells oB _ _ _ (below_cells oB _ _ _ (Below.refl B w).drew)⟩
    have hown' : w.drew.ownsRow B 33 32 (.slice (some ⟨g, 0, none⟩) n cap) n xs := hown
    have := own_deleted (zs := (ULIST .u8 32 fun _ => 0)) (c := n1 * 32) hown' hi (by rw [e2])
    rw [e2, show i * 32 + 32 = i1 * 32 by omega] at this
    exact this
  clear hown hi e1 e2 on oB nl hA hone oc ov om hxl hmx hsz hns olt
  go_enter Try.func51, Try.ntmps51
  go_upto_region 5 with fail
  go_region_law (refine step_append_room rfl (.tmp 22) (.tmp 25) 22 rfl 33 ti 32 Try.underlying22 hti hs1 g 0 i cap (by simp [Act.eval, Act.put]) A (n - i1) (cap - i1) (xs.drop (i1 * 32)) (by simp [Act.eval, Act.put]) s1.out s2.out s3.out s4.out s5.out ?_)
  clear hw1 hX hY hZ s1 s2 s3 s4 s5 hsum hne
  go_wp2
  go_ret
  exact ⟨rfl, R.out⟩
set_option maxHeartbeats 2000000 in
theorem deleter_ok (B g n cap i i1 n1 : Nat) (xs : List Value) (w : World) (hown : w.ownsRow B 73 3 (.slice (some ⟨g, 0, none⟩) n cap) n xs) (hone : ∀ u ∈ xs, u.oneCell' = true) (hi : i < n) (e1 : i + 1 = i1) (e2 : n - 1 = n1) : Calls Try.prog 52 #[.slice (some ⟨g, 0, none⟩) n cap, .int .i64 (i : Int), .int .i64 (i1 : Int)] w fun e w' =>
    e = .returned (.slice (some ⟨g, 0, none⟩) n1 cap) ∧ w'.ownsRow B 73 3 (.slice (some ⟨g, 0, none⟩) n1 cap) n1 (xs.take (i * 3) ++ xs.drop (i1 * 3)) ∧ (∀ x, x ≠ g → w'.heap[x]? = w.heap[x]?) ∧ Below B w w' := by
  obtain ⟨ti, hti, hz, hs1, hby⟩ := info_parts info_rowT
  obtain ⟨oc, ov, on, om, olt, oB⟩ := own_cell hown
  have hsz : ∀ w : World, (sizeOf 73).run Try.prog w = .ok 3 w := fun w => by simp [sizeOf, typeInfo, hti, hs1]
  have hxl := hown.1
  have hmx : cap ≤ 9223372036854775807 := by unfold maxLen at om; omega
  obtain ⟨X, hX⟩ : ∃ X, ∀ w, (Instr.slice 68 (.slice (some ⟨g, 0, none⟩) n cap) (some (.int .i64 (i : Int))) (some (.int .i64 (i1 : Int))) (some (.int .i64 (n : Int)))).run Try.prog w = .ok X w := ⟨_, fun w => (run_slice_lhm (P := Try.prog) w 68 (some ⟨g, 0, none⟩) n cap (by kernel_rfl) .i64 .i64 .i64 (i : Int) (i1 : Int) (n : Int) (by omega) (by omega) (by omega) (by omega)).trans (by rw [show Try.prog.elem 68 = 73 from by kernel_rfl, hsz]; rfl)⟩
  have hY : ∀ w, (Instr.slice 68 (.slice (some ⟨g, 0, none⟩) n cap) none (some (.int .i64 (i : Int))) none).run Try.prog w = .ok (.slice (some ⟨g, 0, none⟩) i cap) w := fun w => (run_slice_h (P := Try.prog) w 68 (some ⟨g, 0, none⟩) n cap (by kernel_rfl) .i64 (i : Int) (by omega) (by omega)).trans (by rw [show Try.prog.elem 68 = 73 from by kernel_rfl, hsz]; simp [Result.andThen, sliced, Addr.add])
  obtain ⟨A, hA, hZ⟩ : ∃ A, (∀ j u, (xs.drop (i1 * 3))[j]? = some u → w.cell? (A.add j) = some u) ∧ ∀ w, (Instr.slice 68 (.slice (some ⟨g, 0, none⟩) n cap) (some (.int .i64 (i1 : Int))) none none).run Try.prog w = .ok (.slice (some A) (n - i1) (cap - i1)) w := by
    refine ⟨if cap = i1 then ⟨g, 0, none⟩ else ⟨g, i1 * 3, none⟩, fun j u hu => ?_, fun w => (run_slice_l (P := Try.prog) w 68 (some ⟨g, 0, none⟩) n cap (by kernel_rfl) .i64 (i1 : Int) (by omega) (by omega)).trans (by rw [show Try.prog.elem 68 = 73 from by kernel_rfl, hsz]; simp [Result.andThen, sliced, Addr.add_mid]; split <;> rfl)⟩
    have hj := (List.getElem?_eq_some_iff.1 hu).1
    simp at hj
    rw [if_neg (by omega), Addr.add_mid]
    rw [List.getElem?_drop] at hu
    exact ov _ u hu
  have hC : ∀ w, (Instr.slice 68 (.slice (some ⟨g, 0, none⟩) n1 cap) (some (.int .i64 (n1 : Int))) (some (.int .i64 (n : Int))) none).run Try.prog w = .ok (.slice (some ⟨g, n1 * 3, none⟩) 1 (cap - n1)) w := fun w => (run_slice_lh (P := Try.prog) w 68 (some ⟨g, 0, none⟩) n1 cap (by kernel_rfl) .i64 .i64 (n1 : Int) (n : Int) (by omega) (by omega) (by omega)).trans (by rw [show Try.prog.elem 68 = 73 from by kernel_rfl, hsz]; simp [Result.andThen, sliced, Addr.add_mid]; exact ⟨fun h => absurd h (by omega), by omega⟩)
  have hsum : i + (n - i1) = n1 := by omega
  have hne : ((i : Int) == (i1 : Int)) = false := by simp; omega
  have hns := Nat.mul_le_mul_right 3 hi
  have nl : (xs.drop (i1 * 3)).length = (n - i1) * 3 := by simp; omega
  have H : Aside (w.ownsRow B 73 3 (.slice (some ⟨g, 0, none⟩) n cap) n xs ∧ i < n ∧ i + 1 = i1 ∧ n - 1 = n1 ∧ n ≤ cap ∧ B ≤ g) := ⟨hown, hi, e1, e2, on, oB⟩
  have s1 : Aside ((xs.drop (i1 * 3)).length = (n - i1) * 3) := nl
  have s2 : Aside (∀ j u, (xs.drop (i1 * 3))[j]? = some u → w.cell? (A.add j) = some u) := hA
  have s3 : Aside (∀ u ∈ xs.drop (i1 * 3), u.oneCell' = true) := fun u hu => hone u (List.mem_of_mem_drop hu)
  have s4 : Aside (i + (n - i1) ≤ cap) := by show i + (n - i1) ≤ cap; omega
  have s5 : Aside (∀ j, j < (xs.drop (i1 * 3)).length → (w.cell? ⟨g, 0 + i * 3 + j, none⟩).isSome = true ∧ w.frozen? ⟨g, 0 + i * 3 + j, none⟩ = false) := fun j hj => oc _ (by omega)
  obtain ⟨w1, hw1⟩ : ∃ w1, w.drew.setCells g (i * 3) (xs.drop (i1 * 3)) = w1 := ⟨_, rfl⟩
  have hcl : ∀ ty, (Builtin.clear_ #[68] ty #[.slice (some ⟨g, n1 * 3, none⟩) 1 (cap - n1)]).run Try.prog w1 = .ok (.tuple #[]) (w1.setCells g (n1 * 3) (RQL 0)) := fun ty => by
    refine clear_one w1 68 73 ty (.agg #[.int .u64 0, .int .u64 0, .slice none 0 0]) (RQL 0) Try.underlying68 (fun w => by simp [zeroValue, typeInfo, hti, hz]) (by kernel_rfl) (by exact RQL_one 0) g (n1 * 3) (cap - n1) (fun j hj => ?_) (fun j hj => ?_)
    · rw [← hw1]
      refine World.isSome_setCells g _ _ _ _ ?_
      exact (oc (n1 * 3 + j) (by rw [show (RQL 0).length = 3 from rfl] at hj; omega)).1
    · rw [← hw1, World.frozen?_setCells]
      exact (oc (n1 * 3 + j) (by rw [show (RQL 0).length = 3 from rfl] at hj; omega)).2
  have R : Aside ((w1.setCells g (n1 * 3) (RQL 0)).ownsRow B 73 3 (.slice (some ⟨g, 0, none⟩) n1 cap) n1 (xs.take (i * 3) ++ xs.drop (i1 * 3)) ∧ (∀ x, x ≠ g → (w1.setCells g (n1 * 3) (RQL 0)).heap[x]? = w.heap[x]?) ∧ Below B w (w1.setCells g (n1 * 3) (RQL 0))) := by
    rw [← hw1]
    refine ⟨?_, fun x hx => (cells_heap g _ _ _ x hx).trans (cells_heap g _ _ _ x hx), below_cells oB _ _ _ (below_cells oB _ _ _ (Below.refl B w).drew)⟩
    have hown' : w.drew.ownsRow B 73 3 (.slice (some ⟨g, 0, none⟩) n cap) n xs := hown
    have := own_deleted (zs := (RQL 0)) (c := n1 * 3) hown' hi (by rw [e2])
    rw [e2, show i * 3 + 3 = i1 * 3 by omega] at this
    exact this
  clear hown hi e1 e2 on oB nl hA hone oc ov om hxl hmx hsz hns olt
  go_enter Try.func52, Try.ntmps52
  go_upto_region 5 with fail
  go_region_law (refine step_append_room rfl (.tmp 22) (.tmp 25) 68 rfl 73 ti 3 Try.underlying68 hti hs1 g 0 i cap (by simp [Act.eval, Act.put]) A (n - i1) (cap - i1) (xs.drop (i1 * 3)) (by simp [Act.eval, Act.put]) s1.out s2.out s3.out s4.out s5.out ?_)
  clear hw1 hX hY hZ s1 s2 s3 s4 s5 hsum hne
  go_wp2
  go_ret
  exact ⟨rfl, R.out⟩
end Go.Proofs.Ytkmcmngdainofaa
