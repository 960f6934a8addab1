/- Texts of StoreBacks, one behind the other: StoreInsertMid. -/
import Derived.Lib.Overlaps
import Derived.Lib.AppendZeros
import Derived.Lib.AppendZerosOnto
import Derived.Laws.CopyRow
import Derived.Laws.Externs
import Derived.Test.YtkhpaldbdpfpiaaStoreBacksP5
import Derived.Test.YtkhpaldbdpfpiaaStoreBacksP12
/- slices.Insert in the middle of a list of one's own: of hashes, of rows. -/
namespace Go.Proofs.Ytkhpaldbdpfpiaa
open Go.RowKit Go.Lib
set_option maxRecDepth 100000

/-- cs laid over cur from o on. -/
def LAID5 (cur : List Value) (o : Nat) (cs : List Value) : List Value := cur.take o ++ cs ++ cur.drop (o + cs.length)
theorem LAID5_length {cur cs : List Value} {o : Nat} (h : o + cs.length ≤ cur.length) : (LAID5 cur o cs).length = cur.length := by
  unfold LAID5
  simp only [List.length_append, List.length_take, List.length_drop]
  omega
/-- what is behind moves up, then the new one is laid there. -/
theorem LAID5_room {cur xs ne : List Value} {a L s : Nat} (hx : cur.take L = xs) (hL : xs.length = L) (hc : L + s ≤ cur.length) (hs : ne.length = s) (ha : a ≤ L) : (LAID5 (LAID5 cur (a + s) (xs.drop a)) a ne).take (L + s) = xs.take a ++ ne ++ xs.drop a := by
  have e1 : cur.take a = xs.take a := by rw [← hx, List.take_take, Nat.min_eq_left ha]
  have e2 : (LAID5 cur (a + s) (xs.drop a)).take a = xs.take a := by
    unfold LAID5
    rw [List.append_assoc, List.take_append_of_le_length (by rw [List.length_take]; omega), List.take_take, Nat.min_eq_left (by omega), e1]
  have e3 : (LAID5 cur (a + s) (xs.drop a)).drop (a + s) = xs.drop a ++ cur.drop (L + s) := by
    unfold LAID5
    rw [List.append_assoc, List.drop_append, List.drop_eq_nil_of_le (by rw [List.length_take]; omega), List.length_take, List.length_drop, hL, Nat.min_eq_left (by omega), Nat.sub_self, List.drop_zero, List.nil_append, show a + s + (L - a) = L + s by omega]
  rw [LAID5, e2, hs, e3, ← List.append_assoc, List.take_append_of_le_length (by simp only [List.length_append, List.length_take, List.length_drop]; omega)]
  exact List.take_of_length_le (by simp only [List.length_append, List.length_take, List.length_drop]; omega)
theorem LAID5_grow {xs ne zs : List Value} {a L s : Nat} (hL : xs.length = L) (hs : ne.length = s) (ha : a ≤ L) : (LAID5 (LAID5 (xs.take a ++ zs) a ne) (a + s) (xs.drop a)).take (L + s) = xs.take a ++ ne ++ xs.drop a := by
  have e1 : LAID5 (xs.take a ++ zs) a ne = xs.take a ++ ne ++ zs.drop s := by
    unfold LAID5
    rw [List.take_append_of_le_length (by rw [List.length_take]; omega), List.take_take, Nat.min_self, List.drop_append, List.drop_eq_nil_of_le (by rw [List.length_take]; omega), List.length_take, hL, Nat.min_eq_left ha, List.nil_append, hs, show a + s - a = s by omega]
  have hP : (xs.take a ++ ne).length = a + s := by rw [List.length_append, List.length_take, hL, hs, Nat.min_eq_left ha]
  have hQ : (xs.take a ++ ne ++ xs.drop a).length = L + s := by rw [List.length_append, hP, List.length_drop, hL]; omega
  rw [e1, LAID5, List.take_left' hP, List.take_left' hQ]
/-- cells are copied into a block. -/
theorem run_copy_at (w : World) (dT sT ty elem : TypeId) (i : TypeInfo) (size : Nat) (hu : Try.prog.underlying dT = some (.slice elem)) (hi : Try.prog.info? elem = some i) (hs : i.size = size) (g o dLen dCap : Nat) (a : Addr) (sLen sCap : Nat) (cur : Array Value) (t : TypeId) (cs : List Value) (k : Nat)
    (hk : Nat.min sLen dLen = k) (hg : w.heap[g]? = some (.cells cur t (0, 0))) (hn : cs.length = k * size) (hsrc : ∀ j v, cs[j]? = some v → w.cell? (a.add j) = some v) (hfit : o + cs.length ≤ cur.size) (h1 : ∀ v ∈ cs, v.oneCell' = true) :
    (Builtin.copy_ #[dT, sT] ty #[.slice (some ⟨g, o, none⟩) dLen dCap, .slice (some a) sLen sCap]).run Try.prog w = .ok (goInt k) (w.setRow g (LAID5 cur.toList o cs).toArray) := by
  have hl := run_loadCells_list (P := Try.prog) w a cs hsrc
  have hst := run_storeCells_at Try.prog g o t cs 0 cur w hg (by simpa using hfit) h1
  subst hs
  rw [hn] at hl
  simp [Builtin.copy_, run_underlying hu, Builtin.lenOf, Builtin.firstCells, sizeOf, typeInfo, hi, hk, hl, hst, LAID5]
/-- such a copy, in the walk. -/
theorem wp_copied (w : World) {o : Oper} {a : Act} {K : Act → World → Prop} {Q : Exit → Act → World → Prop} (d s : Operand) (t t' : TypeId) (ho : o.op = .call { callee := .builtin .copy, args := #[d, s], argTypes := #[t, t'] }) (v u : Value) (hd : a.eval d = v) (hs : a.eval s = u) {v' : Value} {w' : World} (hr : (Builtin.copy_ #[t, t'] o.type #[v, u]).run Try.prog w = .ok v' w') (h : K (a.put o.dst v') w') : o.wp Try.prog a w K Q := by
  unfold Oper.wp
  simp [execOp, ho, resolve, invoke, builtin, hd, hs, hr, Result.andThen]
  exact h
theorem list_copied (w : World) {ops : Array Oper} {rest : List Oper} {o : Oper} {a : Act} {Q : Exit → Act → World → Prop} (hgd : o.guard = none) (d s : Operand) (t t' : TypeId) (ho : o.op = .call { callee := .builtin .copy, args := #[d, s], argTypes := #[t, t'] }) (v u : Value) (hd : a.eval d = v) (hs : a.eval s = u) {v' : Value} {w' : World} (hr : (Builtin.copy_ #[t, t'] o.type #[v, u]).run Try.prog w = .ok v' w') (h : wpList Try.prog ops Q rest (a.put o.dst v') w') : wpList Try.prog ops Q (o :: rest) a w :=
  wpList_plain hgd fun _ hK => wp_copied w d s t t' ho v u hd hs hr (hK _ _ h)
theorem step_copied {ops : Array Oper} {o : Oper} {a : Act} {w : World} {K : Act → World → Prop} {Q : Exit → Act → World → Prop} {E : Prop} (hgd : o.guard = none) (d s : Operand) (t t' : TypeId) (ho : o.op = .call { callee := .builtin .copy, args := #[d, s], argTypes := #[t, t'] }) (v u : Value) (hd : a.eval d = v) (hs : a.eval s = u) {v' : Value} {w' : World} (hr : (Builtin.copy_ #[t, t'] o.type #[v, u]).run Try.prog w = .ok v' w') (h : K (a.put o.dst v') w') : if Region.wanted o (yielded ops a.tmps) = true then Oper.wp Try.prog o a w K Q else E := by
  rw [if_pos (by simp [Region.wanted, hgd])]
  exact wp_copied w d s t t' ho v u hd hs hr h
theorem slo_insmidh (g N C K : Nat) (z : Int) (hz : z = (K : Int)) (h1 : K ≤ N) (h3 : K < C) (w : World) : (Instr.slice 22 (.slice (some ⟨g, 0, none⟩) N C) (some (.int .i64 z)) none none).run Try.prog w = .ok (.slice (some ⟨g, K * 32, none⟩) (N - K) (C - K)) w := by
  subst hz
  have k1 : (K : Int) ≤ (N : Int) := by omega
  have k2 : ¬ C = K := by omega
  simp [go_sem, k1, k2, Addr.add]
  omega
theorem shi_insmidh (g N C K : Nat) (z : Int) (hz : z = (K : Int)) (h : K ≤ C) (w : World) : (Instr.slice 22 (.slice (some ⟨g, 0, none⟩) N C) none (some (.int .i64 z)) none).run Try.prog w = .ok (.slice (some ⟨g, 0, none⟩) K C) w := by
  subst hz
  have k1 : (K : Int) ≤ (C : Int) := by omega
  simp [go_sem, k1, Addr.add]
set_option maxHeartbeats 4000000 in
/-- there is room. -/
theorem insmidh_room (B g n cap i ga : Nat) (xs ne : List Value) (w : World) (hown : w.ownsRow B 32 32 (.slice (some ⟨g, 0, none⟩) n cap) n xs) (hin : i < n) (hroom : n + 1 ≤ cap) (hn : n ≤ 2 ^ 40) (hx1 : ∀ u ∈ xs, u.oneCell' = true) (hne : ne.length = 32) (hn1 : ∀ u ∈ ne, u.oneCell' = true) (hga : Has w ga ne.toArray 32) (hgg : ga ≠ g) :
    Calls Try.prog 32 #[.slice (some ⟨g, 0, none⟩) n cap, .int .i64 (i : Int), .slice (some ⟨ga, 0, none⟩) 1 1] w fun e w' => e = .returned (.slice (some ⟨g, 0, none⟩) (n + 1) cap) ∧ w'.ownsRow B 32 32 (.slice (some ⟨g, 0, none⟩) (n + 1) cap) (n + 1) (xs.take (i * 32) ++ ne ++ xs.drop (i * 32)) ∧ w.grownBy w' (some g) := by
  obtain ⟨ti, hi, hz, hs1, hby⟩ := info_parts info_hashT
  obtain ⟨cur, hB, hg, hnc, hmax, hsz, htk⟩ : ∃ cur, B ≤ g ∧ w.heap[g]? = some (.cells cur 32 (0, 0)) ∧ n ≤ cap ∧ cap ≤ maxLen ∧ cur.size = cap * 32 ∧ cur.toList.take (n * 32) = xs := by
    rcases hown.2 with ⟨e, _⟩ | ⟨_, _, cur, e, h1, h2, h3, h4, h5, h6⟩
    · cases e
    · cases e
      exact ⟨cur, h1, h2, h3, h4, h5, h6⟩
  have hxl : xs.length = n * 32 := hown.1
  have hgl : ga < w.heap.size := hga.lt
  have hov : ∀ lb cb, (callFunc 39 #[.slice (some ⟨ga, 0, none⟩) 1 1, .slice (some ⟨g, (i + 1) * 32, none⟩) lb cb]).run Try.prog w = .ok (.value (.bool false)) w := fun lb cb => by
    rw [run_callFunc_extern Try.func39 (by kernel_rfl) (by kernel_rfl) (by kernel_rfl) (e := Extern.SlicesOverlaps.overlaps #[22, 22] #[4]) (by kernel_rfl),
      Lib.run_overlaps_apart w 22 4 32 Try.underlying22 32 (fun w => by simp [sizeOf, typeInfo, hi, hs1]) ⟨ga, 0, none⟩ ⟨g, (i + 1) * 32, none⟩ 1 1 lb cb hgg 32 32 ne.length cur.size (by simp [World.shape?, show w.heap[ga]? = _ from hga]) (by simp [World.shape?, hg]) (by omega) (hga.frozen 0) (hga.frozen _)]
    rfl
  have hcp1 : ∀ ty dc sc, (Builtin.copy_ #[22, 22] ty #[.slice (some ⟨g, (i + 1) * 32, none⟩) (n - i) dc, .slice (some ⟨g, i * 32, none⟩) (n + 1 - i) sc]).run Try.prog w.drew = .ok (goInt ((n - i : Nat) : Int)) (w.drew.setRow g (LAID5 cur.toList ((i + 1) * 32) (xs.drop (i * 32))).toArray) := fun ty dc sc =>
    run_copy_at w.drew 22 22 ty 32 ti 32 Try.underlying22 hi hs1 g ((i + 1) * 32) (n - i) dc ⟨g, i * 32, none⟩ (n + 1 - i) sc cur 32 (xs.drop (i * 32)) (n - i) (by simp only [Nat.min_def]; split <;> omega) hg (by rw [List.length_drop, hxl]; omega) (fun j v hj => by
      have hjl : j < xs.length - i * 32 := by have := (List.getElem?_eq_some_iff.1 hj).1; rwa [List.length_drop] at this
      rw [Addr.add_mid]
      rw [List.getElem?_drop] at hj
      have := hown.cellAt (i * 32 + j) (by omega)
      exact this.trans hj) (by rw [List.length_drop, hxl, hsz]; omega) (fun v hv => hx1 v (List.mem_of_mem_drop hv))
  obtain ⟨W1, hW1⟩ : ∃ W1, w.drew.setRow g (LAID5 cur.toList ((i + 1) * 32) (xs.drop (i * 32))).toArray = W1 := ⟨_, rfl⟩
  have hg1 : W1.heap[g]? = some (.cells (LAID5 cur.toList ((i + 1) * 32) (xs.drop (i * 32))).toArray 32 (0, 0)) := by rw [← hW1]; exact setRow_heap w.drew g _ _ _ _ hg
  have hl1 : (LAID5 cur.toList ((i + 1) * 32) (xs.drop (i * 32))).length = cap * 32 := by rw [LAID5_length (by rw [List.length_drop, hxl, Array.length_toList, hsz]; omega), Array.length_toList, hsz]
  have hga1 : Has W1 ga ne.toArray 32 := by rw [← hW1]; exact (setRow_other w.drew g ga _ hgg).trans hga
  have hcp2 : ∀ ty dc, (Builtin.copy_ #[22, 22] ty #[.slice (some ⟨g, i * 32, none⟩) (n + 1 - i) dc, .slice (some ⟨ga, 0, none⟩) 1 1]).run Try.prog W1 = .ok (goInt 1) (W1.setRow g (LAID5 (LAID5 cur.toList ((i + 1) * 32) (xs.drop (i * 32))) (i * 32) ne).toArray) := fun ty dc =>
    run_copy_at W1 22 22 ty 32 ti 32 Try.underlying22 hi hs1 g (i * 32) (n + 1 - i) dc ⟨ga, 0, none⟩ 1 1 (LAID5 cur.toList ((i + 1) * 32) (xs.drop (i * 32))).toArray 32 ne 1 (by simp only [Nat.min_def]; split <;> omega) hg1 (by rw [hne]) (fun j v hj => by rw [Addr.add_mid, Nat.zero_add, hga1.cell, List.getElem?_toArray]; exact hj) (by rw [hne, List.size_toArray, hl1]; omega) hn1
  have FIN : Aside ((W1.setRow g (LAID5 (LAID5 cur.toList ((i + 1) * 32) (xs.drop (i * 32))) (i * 32) ne).toArray).ownsRow B 32 32 (.slice (some ⟨g, 0, none⟩) (n + 1) cap) (n + 1) (xs.take (i * 32) ++ ne ++ xs.drop (i * 32)) ∧ w.grownBy (W1.setRow g (LAID5 (LAID5 cur.toList ((i + 1) * 32) (xs.drop (i * 32))) (i * 32) ne).toArray) (some g)) := by
    refine ⟨⟨?_, .inr ⟨g, cap, _, rfl, hB, setRow_heap W1 g _ _ _ _ hg1, hroom, hmax, ?_, ?_⟩⟩, ?_, ?_, ?_, ?_, ?_⟩
    · simp only [List.length_append, List.length_take, List.length_drop, hne, hxl]
      omega
    · rw [List.size_toArray, LAID5_length (by rw [hl1, hne]; omega), hl1]
    · have := LAID5_room (a := i * 32) (s := 32) htk hxl (by rw [Array.length_toList, hsz]; omega) hne (by omega)
      rw [show (i + 1) * 32 = i * 32 + 32 by omega, show (n + 1) * 32 = n * 32 + 32 by omega]
      exact this
    · rw [← hW1]; rfl
    · rw [← hW1]; rfl
    · rw [← hW1]; rfl
    · rw [← hW1]; simp [World.setRow]
    · intro k hk hkg
      rw [← hW1]
      exact (setRow_other _ g k _ (fun e => hkg (by rw [e]))).trans (setRow_other _ g k _ (fun e => hkg (by rw [e])))
  rw [hW1] at hcp1
  have k1 : ¬ (i : Int) = (n : Int) := by omega
  have k2 : (i : Int) ≤ (n : Int) := by omega
  have k4 : ¬ (cap : Int) < (n : Int) + 1 := by omega
  have q0 : IntKind.i64.wrap ((i : Int) + 1) = (i : Int) + 1 := by rw [IntKind.wrap_i64]; omega
  have q1 : (0 : Int) ≤ (i : Int) + 1 := by omega
  have q2 : (i : Int) + 1 ≤ (n : Int) + 1 := by omega
  have q3 : ((i : Int) + 1).toNat = i + 1 := by omega
  have q4 : ¬ cap = i + 1 := by omega
  have q5 : (i : Int) ≤ (n : Int) + 1 := by omega
  have q6 : ¬ cap = i := by omega
  have sl1 := slo_insmidh g n cap i (i : Int) rfl (by omega) (by omega)
  have sl2 := shi_insmidh g n cap (n + 1) ((n : Int) + 1) (by omega) hroom
  have sl3 := slo_insmidh g (n + 1) cap (i + 1) ((i : Int) + 1) (by omega) (by omega) (by omega)
  rw [show n + 1 - (i + 1) = n - i by omega] at sl3
  have sl4 := slo_insmidh g (n + 1) cap i (i : Int) rfl (by omega) (by omega)
  clear hown hx1 hn1 hga hB hg hnc hmax hsz htk hxl hgl hz hs1 hby hi hg1 hl1 hga1 hW1 hne hgg
  go_enter Try.func32, Try.ntmps32
  go_wp2_with (simp only [hov])
  go_region_law (refine step_copied rfl (.tmp 73) (.tmp 76) 22 22 rfl (.slice (some ⟨g, (i + 1) * 32, none⟩) (n - i) (cap - (i + 1))) (.slice (some ⟨g, i * 32, none⟩) (n + 1 - i) (cap - i)) (by simp [Act.eval, Act.put]) (by simp [Act.eval, Act.put]) (hcp1 _ _ _) ?_)
  go_wp2_with (at_builtin; refine list_copied _ rfl (.tmp 80) (.tmp 81) 22 22 rfl (.slice (some ⟨g, i * 32, none⟩) (n + 1 - i) (cap - i)) (.slice (some ⟨ga, 0, none⟩) 1 1) rfl rfl (hcp2 _ _) ?_)
  go_ret
  exact ⟨rfl, FIN.out⟩
set_option maxHeartbeats 4000000 in
/-- there is no room: a new list. -/
theorem insmidh_grow (B g n cap i ga : Nat) (xs ne : List Value) (w : World) (hown : w.ownsRow B 32 32 (.slice (some ⟨g, 0, none⟩) n cap) n xs) (hin : i < n) (hfull : cap < n + 1) (hn : n ≤ 2 ^ 40) (hB0 : B ≤ w.heap.size) (hx1 : ∀ u ∈ xs, u.oneCell' = true) (hne : ne.length = 32) (hn1 : ∀ u ∈ ne, u.oneCell' = true) (hga : Has w ga ne.toArray 32) :
    Calls Try.prog 32 #[.slice (some ⟨g, 0, none⟩) n cap, .int .i64 (i : Int), .slice (some ⟨ga, 0, none⟩) 1 1] w fun e w' => ∃ cap', e = .returned (.slice (some ⟨w.heap.size, 0, none⟩) (n + 1) cap') ∧ w'.ownsRow B 32 32 (.slice (some ⟨w.heap.size, 0, none⟩) (n + 1) cap') (n + 1) (xs.take (i * 32) ++ ne ++ xs.drop (i * 32)) ∧ w.grownBy w' (some g) := by
  obtain ⟨ti, hi, hz, hs1, hby⟩ := info_parts info_hashT
  obtain ⟨cur, hg, hnc⟩ : ∃ cur, w.heap[g]? = some (.cells cur 32 (0, 0)) ∧ n ≤ cap := by
    rcases hown.2 with ⟨e, _⟩ | ⟨_, _, cur, e, h1, h2, h3, _⟩
    · cases e
    · cases e
      exact ⟨cur, h2, h3⟩
  have hxl : xs.length = n * 32 := hown.1
  have hgl : g < w.heap.size := (hown.lt g rfl).2
  have hal : ga < w.heap.size := hga.lt
  obtain ⟨H, hH⟩ : ∃ H, w.heap.size = H := ⟨_, rfl⟩
  obtain ⟨k, hk⟩ : ∃ k, n + 1 - i = k := ⟨_, rfl⟩
  have hik : i + k = n + 1 := by omega
  obtain ⟨gc, hgc⟩ : ∃ gc, grownCap w (n + 1) cap 32 = gc := ⟨_, rfl⟩
  have hge : n + 1 ≤ gc := by rw [← hgc]; exact grownCap_ge w (n + 1) cap 32
  have hgm : gc ≤ maxLen := by rw [← hgc]; exact grownCap_le_maxLen w (n + 1) cap 32 (by simp only [maxLen]; omega)
  obtain ⟨zs, hzs⟩ : ∃ zs : List Value, (Builtin.zeroCells (Value.agg (UARR .u8 32 fun _ => 0)).cells k ++ Builtin.zeroCells (Value.agg (UARR .u8 32 fun _ => 0)).cells (gc - (n + 1))).toList = zs := ⟨_, rfl⟩
  have hzl : zs.length = k * 32 + (gc - (n + 1)) * 32 := by
    rw [← hzs, Array.length_toList, Array.size_append, size_zeroCells, size_zeroCells]
    simp [Value.cells, UARR_size]
  have hap : ∀ ty z, z = (k : Int) → (Builtin.append_ #[22, 3] ty #[.slice (some ⟨g, 0, none⟩) i cap, .int .i64 z]).run Try.prog w = .ok (.slice (some ⟨H, 0, none⟩) (n + 1) gc) (w.drew.alloc (.cells (xs.take (i * 32) ++ zs).toArray 32)) := fun ty z ez => by
    subst ez
    have := run_append_grow_zeros (P := Try.prog) w 22 3 ty 32 ti _ .i64 .i64 Try.underlying22 Try.underlying3 hi hz (some ⟨g, 0, none⟩) i cap (xs.take (i * 32)) (by
      rw [hs1]
      exact run_firstCells_some w.drew 32 i ⟨g, 0, none⟩ i cap (xs.take (i * 32)) (by rw [List.length_take, hxl]; omega) (fun j v hj => by
        rw [Addr.add_mid, Nat.zero_add]
        have hjl : j < i * 32 := by have := (List.getElem?_eq_some_iff.1 hj).1; rw [List.length_take] at this; omega
        rw [List.getElem?_take_of_lt hjl] at hj
        exact (hown.cellAt j (by omega)).trans hj)) k (by omega) (by rw [hs1]; decide) (by omega) (by omega) (by rw [hby]; omega) (growslice_fits (by omega) (by rw [hby]; omega))
    rw [hik, hgc, hH] at this
    rw [this]
    have e : (xs.take (i * 32)).toArray ++ Builtin.zeroCells (Value.agg (UARR .u8 32 fun _ => 0)).cells k ++ Builtin.zeroCells (Value.agg (UARR .u8 32 fun _ => 0)).cells (gc - (n + 1)) = (xs.take (i * 32) ++ zs).toArray := by
      rw [← hzs]
      apply Array.ext'
      simp
    rw [e]
  obtain ⟨W0, hW0⟩ : ∃ W0, w.drew.alloc (.cells (xs.take (i * 32) ++ zs).toArray 32) = W0 := ⟨_, rfl⟩
  have hHW : W0.heap[H]? = some (.cells (xs.take (i * 32) ++ zs).toArray 32 (0, 0)) := by rw [← hW0, ← hH]; exact heap_alloc_new w.drew _
  have hold : ∀ b, b < H → W0.heap[b]? = w.heap[b]? := fun b hb => by rw [← hW0]; exact heap_alloc_old w.drew _ (by rw [← hH] at hb; exact hb)
  have hl0 : (xs.take (i * 32) ++ zs).length = gc * 32 := by rw [List.length_append, List.length_take, hxl, hzl]; omega
  have hga0 : Has W0 ga ne.toArray 32 := (hold ga (by omega)).trans hga
  have hcp1 : ∀ ty dc, (Builtin.copy_ #[22, 22] ty #[.slice (some ⟨H, i * 32, none⟩) (n + 1 - i) dc, .slice (some ⟨ga, 0, none⟩) 1 1]).run Try.prog W0 = .ok (goInt 1) (W0.setRow H (LAID5 (xs.take (i * 32) ++ zs) (i * 32) ne).toArray) := fun ty dc =>
    run_copy_at W0 22 22 ty 32 ti 32 Try.underlying22 hi hs1 H (i * 32) (n + 1 - i) dc ⟨ga, 0, none⟩ 1 1 (xs.take (i * 32) ++ zs).toArray 32 ne 1 (by simp only [Nat.min_def]; split <;> omega) hHW (by rw [hne]) (fun j v hj => by rw [Addr.add_mid, Nat.zero_add, hga0.cell, List.getElem?_toArray]; exact hj) (by rw [hne, List.size_toArray, hl0]; omega) hn1
  obtain ⟨W1, hW1⟩ : ∃ W1, W0.setRow H (LAID5 (xs.take (i * 32) ++ zs) (i * 32) ne).toArray = W1 := ⟨_, rfl⟩
  have hHW1 : W1.heap[H]? = some (.cells (LAID5 (xs.take (i * 32) ++ zs) (i * 32) ne).toArray 32 (0, 0)) := by rw [← hW1]; exact setRow_heap W0 H _ _ _ _ hHW
  have hl1 : (LAID5 (xs.take (i * 32) ++ zs) (i * 32) ne).length = gc * 32 := by rw [LAID5_length (by rw [hl0, hne]; omega), hl0]
  have hold1 : ∀ b, b < H → W1.heap[b]? = w.heap[b]? := fun b hb => by rw [← hW1]; exact (setRow_other W0 H b _ (by omega)).trans (hold b hb)
  have hcp2 : ∀ ty dc sc, (Builtin.copy_ #[22, 22] ty #[.slice (some ⟨H, (i + 1) * 32, none⟩) (n - i) dc, .slice (some ⟨g, i * 32, none⟩) (n - i) sc]).run Try.prog W1.drew = .ok (goInt ((n - i : Nat) : Int)) (W1.drew.setRow H (LAID5 (LAID5 (xs.take (i * 32) ++ zs) (i * 32) ne) ((i + 1) * 32) (xs.drop (i * 32))).toArray) := fun ty dc sc =>
    run_copy_at W1.drew 22 22 ty 32 ti 32 Try.underlying22 hi hs1 H ((i + 1) * 32) (n - i) dc ⟨g, i * 32, none⟩ (n - i) sc (LAID5 (xs.take (i * 32) ++ zs) (i * 32) ne).toArray 32 (xs.drop (i * 32)) (n - i) (by simp only [Nat.min_def]; split <;> omega) hHW1 (by rw [List.length_drop, hxl]; omega) (fun j v hj => by
      have hjl : j < xs.length - i * 32 := by have := (List.getElem?_eq_some_iff.1 hj).1; rwa [List.length_drop] at this
      rw [Addr.add_mid]
      rw [List.getElem?_drop] at hj
      have h1 := (hown.cellAt (i * 32 + j) (by omega)).trans hj
      exact (World.cell?_of_block (w := w) (a := ⟨g, i * 32 + j, none⟩) (hold1 g (by omega))).trans h1) (by rw [List.length_drop, hxl, List.size_toArray, hl1]; omega) (fun v hv => hx1 v (List.mem_of_mem_drop hv))
  have FIN : Aside ((W1.drew.setRow H (LAID5 (LAID5 (xs.take (i * 32) ++ zs) (i * 32) ne) ((i + 1) * 32) (xs.drop (i * 32))).toArray).ownsRow B 32 32 (.slice (some ⟨H, 0, none⟩) (n + 1) gc) (n + 1) (xs.take (i * 32) ++ ne ++ xs.drop (i * 32)) ∧ w.grownBy (W1.drew.setRow H (LAID5 (LAID5 (xs.take (i * 32) ++ zs) (i * 32) ne) ((i + 1) * 32) (xs.drop (i * 32))).toArray) (some g)) := by
    refine ⟨⟨?_, .inr ⟨H, gc, _, rfl, by omega, setRow_heap W1.drew H _ _ _ _ hHW1, hge, hgm, ?_, ?_⟩⟩, ?_, ?_, ?_, ?_, ?_⟩
    · simp only [List.length_append, List.length_take, List.length_drop, hne, hxl]
      omega
    · rw [List.size_toArray, LAID5_length (by rw [hl1, List.length_drop, hxl]; omega), hl1]
    · have := LAID5_grow (zs := zs) (a := i * 32) (s := 32) hxl hne (by omega)
      rw [show (i + 1) * 32 = i * 32 + 32 by omega, show (n + 1) * 32 = n * 32 + 32 by omega]
      exact this
    · rw [← hW1, ← hW0]; rfl
    · rw [← hW1, ← hW0]; rfl
    · rw [← hW1, ← hW0]; rfl
    · rw [← hW1, ← hW0]; simp [World.setRow]
    · intro b hb hbg
      exact (setRow_other W1.drew H b _ (by omega)).trans (hold1 b (by omega))
  rw [hW0] at hap
  rw [hW1] at hcp1
  have k1 : ¬ (i : Int) = (n : Int) := by omega
  have k2 : (i : Int) ≤ (n : Int) := by omega
  have k4 : (cap : Int) < (n : Int) + 1 := by omega
  have k5 : (n : Int) + 1 - (i : Int) = (k : Int) := by omega
  have q0 : IntKind.i64.wrap ((i : Int) + 1) = (i : Int) + 1 := by rw [IntKind.wrap_i64]; omega
  have q1 : (0 : Int) ≤ (i : Int) + 1 := by omega
  have q2 : (i : Int) + 1 ≤ (n : Int) + 1 := by omega
  have q3 : ((i : Int) + 1).toNat = i + 1 := by omega
  have q4 : ¬ gc = i + 1 := by omega
  have q5 : (i : Int) ≤ (n : Int) + 1 := by omega
  have q6 : ¬ cap = i := by omega
  have q7 : ¬ gc = i := by omega
  have sl1 := slo_insmidh g n cap i (i : Int) rfl (by omega) (by omega)
  have sl2 := shi_insmidh g n cap i (i : Int) rfl (by omega)
  have sl3 := slo_insmidh H (n + 1) gc (i + 1) ((i : Int) + 1) (by omega) (by omega) (by omega)
  rw [show n + 1 - (i + 1) = n - i by omega] at sl3
  have sl4 := slo_insmidh H (n + 1) gc i (i : Int) rfl (by omega) (by omega)
  rw [hk] at sl4 hcp1
  clear hk
  clear hown hx1 hn1 hga hg hnc hxl hgl hal hz hs1 hby hi hHW hHW1 hold hold1 hl0 hl1 hga0 hne hge hgm hzl hgc hzs hW0 hW1
  rw [hH]
  clear hH hB0
  go_enter Try.func32, Try.ntmps32
  go_wp2_with (first
    | (at_builtin; refine wpList_append_run _ rfl (.tmp 34) (.tmp 39) 22 3 rfl (.slice (some ⟨g, 0, none⟩) i cap) _ rfl rfl _ _ (hap _ _ (by first | rfl | omega)) ?_)
    | (at_builtin; refine list_copied _ rfl (.tmp 43) (.tmp 44) 22 22 rfl (.slice (some ⟨H, i * 32, none⟩) k (gc - i)) (.slice (some ⟨ga, 0, none⟩) 1 1) rfl rfl (hcp1 _ _) ?_))
  go_region_law (refine step_copied rfl (.tmp 50) (.tmp 53) 22 22 rfl (.slice (some ⟨H, (i + 1) * 32, none⟩) (n - i) (gc - (i + 1))) (.slice (some ⟨g, i * 32, none⟩) (n - i) (cap - i)) (by simp [Act.eval, Act.put]) (by simp [Act.eval, Act.put]) (hcp2 _ _ _) ?_)
  go_wp2
  go_ret
  exact ⟨gc, rfl, FIN.out⟩
theorem slo_insmidr (g N C K : Nat) (z : Int) (hz : z = (K : Int)) (h1 : K ≤ N) (h3 : K < C) (w : World) : (Instr.slice 57 (.slice (some ⟨g, 0, none⟩) N C) (some (.int .i64 z)) none none).run Try.prog w = .ok (.slice (some ⟨g, K * 3, none⟩) (N - K) (C - K)) w := by
  subst hz
  have k1 : (K : Int) ≤ (N : Int) := by omega
  have k2 : ¬ C = K := by omega
  simp [go_sem, k1, k2, Addr.add]
  omega
theorem shi_insmidr (g N C K : Nat) (z : Int) (hz : z = (K : Int)) (h : K ≤ C) (w : World) : (Instr.slice 57 (.slice (some ⟨g, 0, none⟩) N C) none (some (.int .i64 z)) none).run Try.prog w = .ok (.slice (some ⟨g, 0, none⟩) K C) w := by
  subst hz
  have k1 : (K : Int) ≤ (C : Int) := by omega
  simp [go_sem, k1, Addr.add]
set_option maxHeartbeats 4000000 in
/-- there is room. -/
theorem insmidr_room (B g n cap i ga : Nat) (xs ne : List Value) (w : World) (hown : w.ownsRow B 64 3 (.slice (some ⟨g, 0, none⟩) n cap) n xs) (hin : i < n) (hroom : n + 1 ≤ cap) (hn : n ≤ 2 ^ 40) (hx1 : ∀ u ∈ xs, u.oneCell' = true) (hne : ne.length = 3) (hn1 : ∀ u ∈ ne, u.oneCell' = true) (hga : Has w ga ne.toArray 64) (hgg : ga ≠ g) :
    Calls Try.prog 30 #[.slice (some ⟨g, 0, none⟩) n cap, .int .i64 (i : Int), .slice (some ⟨ga, 0, none⟩) 1 1] w fun e w' => e = .returned (.slice (some ⟨g, 0, none⟩) (n + 1) cap) ∧ w'.ownsRow B 64 3 (.slice (some ⟨g, 0, none⟩) (n + 1) cap) (n + 1) (xs.take (i * 3) ++ ne ++ xs.drop (i * 3)) ∧ w.grownBy w' (some g) := by
  obtain ⟨ti, hi, hz, hs1, hby⟩ := info_parts info_rowT
  obtain ⟨cur, hB, hg, hnc, hmax, hsz, htk⟩ : ∃ cur, B ≤ g ∧ w.heap[g]? = some (.cells cur 64 (0, 0)) ∧ n ≤ cap ∧ cap ≤ maxLen ∧ cur.size = cap * 3 ∧ cur.toList.take (n * 3) = xs := by
    rcases hown.2 with ⟨e, _⟩ | ⟨_, _, cur, e, h1, h2, h3, h4, h5, h6⟩
    · cases e
    · cases e
      exact ⟨cur, h1, h2, h3, h4, h5, h6⟩
  have hxl : xs.length = n * 3 := hown.1
  have hgl : ga < w.heap.size := hga.lt
  have hov : ∀ lb cb, (callFunc 37 #[.slice (some ⟨ga, 0, none⟩) 1 1, .slice (some ⟨g, (i + 1) * 3, none⟩) lb cb]).run Try.prog w = .ok (.value (.bool false)) w := fun lb cb => by
    rw [run_callFunc_extern Try.func37 (by kernel_rfl) (by kernel_rfl) (by kernel_rfl) (e := Extern.SlicesOverlaps.overlaps #[57, 57] #[4]) (by kernel_rfl),
      Lib.run_overlaps_apart w 57 4 64 Try.underlying57 3 (fun w => by simp [sizeOf, typeInfo, hi, hs1]) ⟨ga, 0, none⟩ ⟨g, (i + 1) * 3, none⟩ 1 1 lb cb hgg 64 64 ne.length cur.size (by simp [World.shape?, show w.heap[ga]? = _ from hga]) (by simp [World.shape?, hg]) (by omega) (hga.frozen 0) (hga.frozen _)]
    rfl
  have hcp1 : ∀ ty dc sc, (Builtin.copy_ #[57, 57] ty #[.slice (some ⟨g, (i + 1) * 3, none⟩) (n - i) dc, .slice (some ⟨g, i * 3, none⟩) (n + 1 - i) sc]).run Try.prog w.drew = .ok (goInt ((n - i : Nat) : Int)) (w.drew.setRow g (LAID5 cur.toList ((i + 1) * 3) (xs.drop (i * 3))).toArray) := fun ty dc sc =>
    run_copy_at w.drew 57 57 ty 64 ti 3 Try.underlying57 hi hs1 g ((i + 1) * 3) (n - i) dc ⟨g, i * 3, none⟩ (n + 1 - i) sc cur 64 (xs.drop (i * 3)) (n - i) (by simp only [Nat.min_def]; split <;> omega) hg (by rw [List.length_drop, hxl]; omega) (fun j v hj => by
      have hjl : j < xs.length - i * 3 := by have := (List.getElem?_eq_some_iff.1 hj).1; rwa [List.length_drop] at this
      rw [Addr.add_mid]
      rw [List.getElem?_drop] at hj
      have := hown.cellAt (i * 3 + j) (by omega)
      exact this.trans hj) (by rw [List.length_drop, hxl, hsz]; omega) (fun v hv => hx1 v (List.mem_of_mem_drop hv))
  obtain ⟨W1, hW1⟩ : ∃ W1, w.drew.setRow g (LAID5 cur.toList ((i + 1) * 3) (xs.drop (i * 3))).toArray = W1 := ⟨_, rfl⟩
  have hg1 : W1.heap[g]? = some (.cells (LAID5 cur.toList ((i + 1) * 3) (xs.drop (i * 3))).toArray 64 (0, 0)) := by rw [← hW1]; exact setRow_heap w.drew g _ _ _ _ hg
  have hl1 : (LAID5 cur.toList ((i + 1) * 3) (xs.drop (i * 3))).length = cap * 3 := by rw [LAID5_length (by rw [List.length_drop, hxl, Array.length_toList, hsz]; omega), Array.length_toList, hsz]
  have hga1 : Has W1 ga ne.toArray 64 := by rw [← hW1]; exact (setRow_other w.drew g ga _ hgg).trans hga
  have hcp2 : ∀ ty dc, (Builtin.copy_ #[57, 57] ty #[.slice (some ⟨g, i * 3, none⟩) (n + 1 - i) dc, .slice (some ⟨ga, 0, none⟩) 1 1]).run Try.prog W1 = .ok (goInt 1) (W1.setRow g (LAID5 (LAID5 cur.toList ((i + 1) * 3) (xs.drop (i * 3))) (i * 3) ne).toArray) := fun ty dc =>
    run_copy_at W1 57 57 ty 64 ti 3 Try.underlying57 hi hs1 g (i * 3) (n + 1 - i) dc ⟨ga, 0, none⟩ 1 1 (LAID5 cur.toList ((i + 1) * 3) (xs.drop (i * 3))).toArray 64 ne 1 (by simp only [Nat.min_def]; split <;> omega) hg1 (by rw [hne]) (fun j v hj => by rw [Addr.add_mid, Nat.zero_add, hga1.cell, List.getElem?_toArray]; exact hj) (by rw [hne, List.size_toArray, hl1]; omega) hn1
  have FIN : Aside ((W1.setRow g (LAID5 (LAID5 cur.toList ((i + 1) * 3) (xs.drop (i * 3))) (i * 3) ne).toArray).ownsRow B 64 3 (.slice (some ⟨g, 0, none⟩) (n + 1) cap) (n + 1) (xs.take (i * 3) ++ ne ++ xs.drop (i * 3)) ∧ w.grownBy (W1.setRow g (LAID5 (LAID5 cur.toList ((i + 1) * 3) (xs.drop (i * 3))) (i * 3) ne).toArray) (some g)) := by
    refine ⟨⟨?_, .inr ⟨g, cap, _, rfl, hB, setRow_heap W1 g _ _ _ _ hg1, hroom, hmax, ?_, ?_⟩⟩, ?_, ?_, ?_, ?_, ?_⟩
    · simp only [List.length_append, List.length_take, List.length_drop, hne, hxl]
      omega
    · rw [List.size_toArray, LAID5_length (by rw [hl1, hne]; omega), hl1]
    · have := LAID5_room (a := i * 3) (s := 3) htk hxl (by rw [Array.length_toList, hsz]; omega) hne (by omega)
      rw [show (i + 1) * 3 = i * 3 + 3 by omega, show (n + 1) * 3 = n * 3 + 3 by omega]
      exact this
    · rw [← hW1]; rfl
    · rw [← hW1]; rfl
    · rw [← hW1]; rfl
    · rw [← hW1]; simp [World.setRow]
    · intro k hk hkg
      rw [← hW1]
      exact (setRow_other _ g k _ (fun e => hkg (by rw [e]))).trans (setRow_other _ g k _ (fun e => hkg (by rw [e])))
  rw [hW1] at hcp1
  have k1 : ¬ (i : Int) = (n : Int) := by omega
  have k2 : (i : Int) ≤ (n : Int) := by omega
  have k4 : ¬ (cap : Int) < (n : Int) + 1 := by omega
  have q0 : IntKind.i64.wrap ((i : Int) + 1) = (i : Int) + 1 := by rw [IntKind.wrap_i64]; omega
  have q1 : (0 : Int) ≤ (i : Int) + 1 := by omega
  have q2 : (i : Int) + 1 ≤ (n : Int) + 1 := by omega
  have q3 : ((i : Int) + 1).toNat = i + 1 := by omega
  have q4 : ¬ cap = i + 1 := by omega
  have q5 : (i : Int) ≤ (n : Int) + 1 := by omega
  have q6 : ¬ cap = i := by omega
  have sl1 := slo_insmidr g n cap i (i : Int) rfl (by omega) (by omega)
  have sl2 := shi_insmidr g n cap (n + 1) ((n : Int) + 1) (by omega) hroom
  have sl3 := slo_insmidr g (n + 1) cap (i + 1) ((i : Int) + 1) (by omega) (by omega) (by omega)
  rw [show n + 1 - (i + 1) = n - i by omega] at sl3
  have sl4 := slo_insmidr g (n + 1) cap i (i : Int) rfl (by omega) (by omega)
  clear hown hx1 hn1 hga hB hg hnc hmax hsz htk hxl hgl hz hs1 hby hi hg1 hl1 hga1 hW1 hne hgg
  go_enter Try.func30, Try.ntmps30
  go_wp2_with (simp only [hov])
  go_region_law (refine step_copied rfl (.tmp 73) (.tmp 76) 57 57 rfl (.slice (some ⟨g, (i + 1) * 3, none⟩) (n - i) (cap - (i + 1))) (.slice (some ⟨g, i * 3, none⟩) (n + 1 - i) (cap - i)) (by simp [Act.eval, Act.put]) (by simp [Act.eval, Act.put]) (hcp1 _ _ _) ?_)
  go_wp2_with (at_builtin; refine list_copied _ rfl (.tmp 80) (.tmp 81) 57 57 rfl (.slice (some ⟨g, i * 3, none⟩) (n + 1 - i) (cap - i)) (.slice (some ⟨ga, 0, none⟩) 1 1) rfl rfl (hcp2 _ _) ?_)
  go_ret
  exact ⟨rfl, FIN.out⟩
set_option maxHeartbeats 4000000 in
/-- there is no room: a new list. -/
theorem insmidr_grow (B g n cap i ga : Nat) (xs ne : List Value) (w : World) (hown : w.ownsRow B 64 3 (.slice (some ⟨g, 0, none⟩) n cap) n xs) (hin : i < n) (hfull : cap < n + 1) (hn : n ≤ 2 ^ 40) (hB0 : B ≤ w.heap.size) (hx1 : ∀ u ∈ xs, u.oneCell' = true) (hne : ne.length = 3) (hn1 : ∀ u ∈ ne, u.oneCell' = true) (hga : Has w ga ne.toArray 64) :
    Calls Try.prog 30 #[.slice (some ⟨g, 0, none⟩) n cap, .int .i64 (i : Int), .slice (some ⟨ga, 0, none⟩) 1 1] w fun e w' => ∃ cap', e = .returned (.slice (some ⟨w.heap.size, 0, none⟩) (n + 1) cap') ∧ w'.ownsRow B 64 3 (.slice (some ⟨w.heap.size, 0, none⟩) (n + 1) cap') (n + 1) (xs.take (i * 3) ++ ne ++ xs.drop (i * 3)) ∧ w.grownBy w' (some g) := by
  obtain ⟨ti, hi, hz, hs1, hby⟩ := info_parts info_rowT
  obtain ⟨cur, hg, hnc⟩ : ∃ cur, w.heap[g]? = some (.cells cur 64 (0, 0)) ∧ n ≤ cap := by
    rcases hown.2 with ⟨e, _⟩ | ⟨_, _, cur, e, h1, h2, h3, _⟩
    · cases e
    · cases e
      exact ⟨cur, h2, h3⟩
  have hxl : xs.length = n * 3 := hown.1
  have hgl : g < w.heap.size := (hown.lt g rfl).2
  have hal : ga < w.heap.size := hga.lt
  obtain ⟨H, hH⟩ : ∃ H, w.heap.size = H := ⟨_, rfl⟩
  obtain ⟨k, hk⟩ : ∃ k, n + 1 - i = k := ⟨_, rfl⟩
  have hik : i + k = n + 1 := by omega
  obtain ⟨gc, hgc⟩ : ∃ gc, grownCap w (n + 1) cap 64 = gc := ⟨_, rfl⟩
  have hge : n + 1 ≤ gc := by rw [← hgc]; exact grownCap_ge w (n + 1) cap 64
  have hgm : gc ≤ maxLen := by rw [← hgc]; exact grownCap_le_maxLen w (n + 1) cap 64 (by simp only [maxLen]; omega)
  obtain ⟨zs, hzs⟩ : ∃ zs : List Value, (Builtin.zeroCells (Value.agg #[.int .u64 0, .int .u64 0, .slice none 0 0]).cells k ++ Builtin.zeroCells (Value.agg #[.int .u64 0, .int .u64 0, .slice none 0 0]).cells (gc - (n + 1))).toList = zs := ⟨_, rfl⟩
  have hzl : zs.length = k * 3 + (gc - (n + 1)) * 3 := by
    rw [← hzs, Array.length_toList, Array.size_append, size_zeroCells, size_zeroCells]
    simp [Value.cells]
  have hap : ∀ ty z, z = (k : Int) → (Builtin.append_ #[57, 3] ty #[.slice (some ⟨g, 0, none⟩) i cap, .int .i64 z]).run Try.prog w = .ok (.slice (some ⟨H, 0, none⟩) (n + 1) gc) (w.drew.alloc (.cells (xs.take (i * 3) ++ zs).toArray 64)) := fun ty z ez => by
    subst ez
    have := run_append_grow_zeros (P := Try.prog) w 57 3 ty 64 ti _ .i64 .i64 Try.underlying57 Try.underlying3 hi hz (some ⟨g, 0, none⟩) i cap (xs.take (i * 3)) (by
      rw [hs1]
      exact run_firstCells_some w.drew 3 i ⟨g, 0, none⟩ i cap (xs.take (i * 3)) (by rw [List.length_take, hxl]; omega) (fun j v hj => by
        rw [Addr.add_mid, Nat.zero_add]
        have hjl : j < i * 3 := by have := (List.getElem?_eq_some_iff.1 hj).1; rw [List.length_take] at this; omega
        rw [List.getElem?_take_of_lt hjl] at hj
        exact (hown.cellAt j (by omega)).trans hj)) k (by omega) (by rw [hs1]; decide) (by omega) (by omega) (by rw [hby]; omega) (growslice_fits (by omega) (by rw [hby]; omega))
    rw [hik, hgc, hH] at this
    rw [this]
    have e : (xs.take (i * 3)).toArray ++ Builtin.zeroCells (Value.agg #[.int .u64 0, .int .u64 0, .slice none 0 0]).cells k ++ Builtin.zeroCells (Value.agg #[.int .u64 0, .int .u64 0, .slice none 0 0]).cells (gc - (n + 1)) = (xs.take (i * 3) ++ zs).toArray := by
      rw [← hzs]
      apply Array.ext'
      simp
    rw [e]
  obtain ⟨W0, hW0⟩ : ∃ W0, w.drew.alloc (.cells (xs.take (i * 3) ++ zs).toArray 64) = W0 := ⟨_, rfl⟩
  have hHW : W0.heap[H]? = some (.cells (xs.take (i * 3) ++ zs).toArray 64 (0, 0)) := by rw [← hW0, ← hH]; exact heap_alloc_new w.drew _
  have hold : ∀ b, b < H → W0.heap[b]? = w.heap[b]? := fun b hb => by rw [← hW0]; exact heap_alloc_old w.drew _ (by rw [← hH] at hb; exact hb)
  have hl0 : (xs.take (i * 3) ++ zs).length = gc * 3 := by rw [List.length_append, List.length_take, hxl, hzl]; omega
  have hga0 : Has W0 ga ne.toArray 64 := (hold ga (by omega)).trans hga
  have hcp1 : ∀ ty dc, (Builtin.copy_ #[57, 57] ty #[.slice (some ⟨H, i * 3, none⟩) (n + 1 - i) dc, .slice (some ⟨ga, 0, none⟩) 1 1]).run Try.prog W0 = .ok (goInt 1) (W0.setRow H (LAID5 (xs.take (i * 3) ++ zs) (i * 3) ne).toArray) := fun ty dc =>
    run_copy_at W0 57 57 ty 64 ti 3 Try.underlying57 hi hs1 H (i * 3) (n + 1 - i) dc ⟨ga, 0, none⟩ 1 1 (xs.take (i * 3) ++ zs).toArray 64 ne 1 (by simp only [Nat.min_def]; split <;> omega) hHW (by rw [hne]) (fun j v hj => by rw [Addr.add_mid, Nat.zero_add, hga0.cell, List.getElem?_toArray]; exact hj) (by rw [hne, List.size_toArray, hl0]; omega) hn1
  obtain ⟨W1, hW1⟩ : ∃ W1, W0.setRow H (LAID5 (xs.take (i * 3) ++ zs) (i * 3) ne).toArray = W1 := ⟨_, rfl⟩
  have hHW1 : W1.heap[H]? = some (.cells (LAID5 (xs.take (i * 3) ++ zs) (i * 3) ne).toArray 64 (0, 0)) := by rw [← hW1]; exact setRow_heap W0 H _ _ _ _ hHW
  have hl1 : (LAID5 (xs.take (i * 3) ++ zs) (i * 3) ne).length = gc * 3 := by rw [LAID5_length (by rw [hl0, hne]; omega), hl0]
  have hold1 : ∀ b, b < H → W1.heap[b]? = w.heap[b]? := fun b hb => by rw [← hW1]; exact (setRow_other W0 H b _ (by omega)).trans (hold b hb)
  have hcp2 : ∀ ty dc sc, (Builtin.copy_ #[57, 57] ty #[.slice (some ⟨H, (i + 1) * 3, none⟩) (n - i) dc, .slice (some ⟨g, i * 3, none⟩) (n - i) sc]).run Try.prog W1.drew = .ok (goInt ((n - i : Nat) : Int)) (W1.drew.setRow H (LAID5 (LAID5 (xs.take (i * 3) ++ zs) (i * 3) ne) ((i + 1) * 3) (xs.drop (i * 3))).toArray) := fun ty dc sc =>
    run_copy_at W1.drew 57 57 ty 64 ti 3 Try.underlying57 hi hs1 H ((i + 1) * 3) (n - i) dc ⟨g, i * 3, none⟩ (n - i) sc (LAID5 (xs.take (i * 3) ++ zs) (i * 3) ne).toArray 64 (xs.drop (i * 3)) (n - i) (by simp only [Nat.min_def]; split <;> omega) hHW1 (by rw [List.length_drop, hxl]; omega) (fun j v hj => by
      have hjl : j < xs.length - i * 3 := by have := (List.getElem?_eq_some_iff.1 hj).1; rwa [List.length_drop] at this
      rw [Addr.add_mid]
      rw [List.getElem?_drop] at hj
      have h1 := (hown.cellAt (i * 3 + j) (by omega)).trans hj
      exact (World.cell?_of_block (w := w) (a := ⟨g, i * 3 + j, none⟩) (hold1 g (by omega))).trans h1) (by rw [List.length_drop, hxl, List.size_toArray, hl1]; omega) (fun v hv => hx1 v (List.mem_of_mem_drop hv))
  have FIN : Aside ((W1.drew.setRow H (LAID5 (LAID5 (xs.take (i * 3) ++ zs) (i * 3) ne) ((i + 1) * 3) (xs.drop (i * 3))).toArray).ownsRow B 64 3 (.slice (some ⟨H, 0, none⟩) (n + 1) gc) (n + 1) (xs.take (i * 3) ++ ne ++ xs.drop (i * 3)) ∧ w.grownBy (W1.drew.setRow H (LAID5 (LAID5 (xs.take (i * 3) ++ zs) (i * 3) ne) ((i + 1) * 3) (xs.drop (i * 3))).toArray) (some g)) := by
    refine ⟨⟨?_, .inr ⟨H, gc, _, rfl, by omega, setRow_heap W1.drew H _ _ _ _ hHW1, hge, hgm, ?_, ?_⟩⟩, ?_, ?_, ?_, ?_, ?_⟩
    · simp only [List.length_append, List.length_take, List.length_drop, hne, hxl]
      omega
    · rw [List.size_toArray, LAID5_length (by rw [hl1, List.length_drop, hxl]; omega), hl1]
    · have := LAID5_grow (zs := zs) (a := i * 3) (s := 3) hxl hne (by omega)
      rw [show (i + 1) * 3 = i * 3 + 3 by omega, show (n + 1) * 3 = n * 3 + 3 by omega]
      exact this
    · rw [← hW1, ← hW0]; rfl
    · rw [← hW1, ← hW0]; rfl
    · rw [← hW1, ← hW0]; rfl
    · rw [← hW1, ← hW0]; simp [World.setRow]
    · intro b hb hbg
      exact (setRow_other W1.drew H b _ (by omega)).trans (hold1 b (by omega))
  rw [hW0] at hap
  rw [hW1] at hcp1
  have k1 : ¬ (i : Int) = (n : Int) := by omega
  have k2 : (i : Int) ≤ (n : Int) := by omega
  have k4 : (cap : Int) < (n : Int) + 1 := by omega
  have k5 : (n : Int) + 1 - (i : Int) = (k : Int) := by omega
  have q0 : IntKind.i64.wrap ((i : Int) + 1) = (i : Int) + 1 := by rw [IntKind.wrap_i64]; omega
  have q1 : (0 : Int) ≤ (i : Int) + 1 := by omega
  have q2 : (i : Int) + 1 ≤ (n : Int) + 1 := by omega
  have q3 : ((i : Int) + 1).toNat = i + 1 := by omega
  have q4 : ¬ gc = i + 1 := by omega
  have q5 : (i : Int) ≤ (n : Int) + 1 := by omega
  have q6 : ¬ cap = i := by omega
  have q7 : ¬ gc = i := by omega
  have sl1 := slo_insmidr g n cap i (i : Int) rfl (by omega) (by omega)
  have sl2 := shi_insmidr g n cap i (i : Int) rfl (by omega)
  have sl3 := slo_insmidr H (n + 1) gc (i + 1) ((i : Int) + 1) (by omega) (by omega) (by omega)
  rw [show n + 1 - (i + 1) = n - i by omega] at sl3
  have sl4 := slo_insmidr H (n + 1) gc i (i : Int) rfl (by omega) (by omega)
  rw [hk] at sl4 hcp1
  clear hk
  clear hown hx1 hn1 hga hg hnc hxl hgl hal hz hs1 hby hi hHW hHW1 hold hold1 hl0 hl1 hga0 hne hge hgm hzl hgc hzs hW0 hW1
  rw [hH]
  clear hH hB0
  go_enter Try.func30, Try.ntmps30
  go_wp2_with (first
    | (at_builtin; refine wpList_append_run _ rfl (.tmp 34) (.tmp 39) 57 3 rfl (.slice (some ⟨g, 0, none⟩) i cap) _ rfl rfl _ _ (hap _ _ (by first | rfl | omega)) ?_)
    | (at_builtin; refine list_copied _ rfl (.tmp 43) (.tmp 44) 57 57 rfl (.slice (some ⟨H, i * 3, none⟩) k (gc - i)) (.slice (some ⟨ga, 0, none⟩) 1 1) rfl rfl (hcp1 _ _) ?_))
  go_region_law (refine step_copied rfl (.tmp 50) (.tmp 53) 57 57 rfl (.slice (some ⟨H, (i + 1) * 3, none⟩) (n - i) (gc - (i + 1))) (.slice (some ⟨g, i * 3, none⟩) (n - i) (cap - i)) (by simp [Act.eval, Act.put]) (by simp [Act.eval, Act.put]) (hcp2 _ _ _) ?_)
  go_wp2
  go_ret
  exact ⟨gc, rfl, FIN.out⟩
/-- wherever it is. -/
theorem insmidh_ok (B ga n i : Nat) (v : Value) (xs : List Value) (h : Nat → Nat) (w : World) (hown : w.ownsRow B 32 32 v n xs) (hB : B ≤ w.heap.size) (hn : n ≤ 1000) (hi : i ≤ n) (hx1 : ∀ u ∈ xs, u.oneCell' = true) (hga : Has w ga (UARR .u8 32 h) 32) (hgg : v.ownBlock ≠ some ga) : Calls Try.prog 32 #[v, .int .i64 (i : Int), .slice (some ⟨ga, 0, none⟩) 1 1] w fun e w' =>
    ∃ g cap, e = .returned (.slice (some ⟨g, 0, none⟩) (n + 1) cap) ∧ w'.ownsRow B 32 32 (.slice (some ⟨g, 0, none⟩) (n + 1) cap) (n + 1) (xs.take (i * 32) ++ ULIST .u8 32 h ++ xs.drop (i * 32)) ∧ w.grownBy w' v.ownBlock ∧ (v.ownBlock = some g ∨ g = w.heap.size) := by
  by_cases hin : i = n
  · subst hin
    refine (inserth_ok B ga i v xs h w hown hB hn hga).mono ?_
    rintro e w' ⟨g, cap, h1, h2, h3, h4⟩
    refine ⟨g, cap, h1, ?_, h3, h4⟩
    rw [List.take_of_length_le (by rw [hown.1]; exact Nat.le_refl _), List.drop_eq_nil_of_le (by rw [hown.1]; exact Nat.le_refl _), List.append_nil]
    exact h2
  · obtain ⟨g, cap, rfl⟩ : ∃ g cap, v = .slice (some ⟨g, 0, none⟩) n cap := by
      rcases hown.2 with ⟨_, h0⟩ | ⟨g, cap, cur, e, _⟩
      · omega
      · exact ⟨g, cap, e⟩
    have hga' : Has w ga (ULIST .u8 32 h).toArray 32 := by rw [← UARR_list]; exact hga
    by_cases hr : n + 1 ≤ cap
    · refine (insmidh_room B g n cap i ga xs (ULIST .u8 32 h) w hown (by omega) hr (by omega) hx1 (by rw [ULIST_length]) (ULIST_one _ _ _) hga' (fun e => hgg (by rw [e]; rfl))).mono ?_
      rintro e w' ⟨h1, h2, h3⟩
      exact ⟨g, cap, h1, h2, h3, .inl rfl⟩
    · refine (insmidh_grow B g n cap i ga xs (ULIST .u8 32 h) w hown (by omega) (by omega) (by omega) hB hx1 (by rw [ULIST_length]) (ULIST_one _ _ _) hga').mono ?_
      rintro e w' ⟨cap', h1, h2, h3⟩
      exact ⟨w.heap.size, cap', h1, h2, h3, .inr rfl⟩
/-- wherever it is. -/
theorem insmidr_ok (B ga n i : Nat) (v : Value) (xs : List Value) (q : Nat) (w : World) (hown : w.ownsRow B 64 3 v n xs) (hB : B ≤ w.heap.size) (hn : n ≤ 2 ^ 40) (hi : i ≤ n) (hx1 : ∀ u ∈ xs, u.oneCell' = true) (hga : Has w ga (RQ q) 64) (hgg : v.ownBlock ≠ some ga) : Calls Try.prog 30 #[v, .int .i64 (i : Int), .slice (some ⟨ga, 0, none⟩) 1 1] w fun e w' =>
    ∃ g cap, e = .returned (.slice (some ⟨g, 0, none⟩) (n + 1) cap) ∧ w'.ownsRow B 64 3 (.slice (some ⟨g, 0, none⟩) (n + 1) cap) (n + 1) (xs.take (i * 3) ++ RQL q ++ xs.drop (i * 3)) ∧ w.grownBy w' v.ownBlock ∧ (v.ownBlock = some g ∨ g = w.heap.size) := by
  by_cases hin : i = n
  · subst hin
    refine (insertr_ok B ga i v xs q w hown hB hn hga).mono ?_
    rintro e w' ⟨g, cap, h1, h2, h3, h4⟩
    refine ⟨g, cap, h1, ?_, h3, h4⟩
    rw [List.take_of_length_le (by rw [hown.1]; exact Nat.le_refl _), List.drop_eq_nil_of_le (by rw [hown.1]; exact Nat.le_refl _), List.append_nil]
    exact h2
  · obtain ⟨g, cap, rfl⟩ : ∃ g cap, v = .slice (some ⟨g, 0, none⟩) n cap := by
      rcases hown.2 with ⟨_, h0⟩ | ⟨g, cap, cur, e, _⟩
      · omega
      · exact ⟨g, cap, e⟩
    have hga' : Has w ga (RQL q).toArray 64 := hga
    by_cases hr : n + 1 ≤ cap
    · refine (insmidr_room B g n cap i ga xs (RQL q) w hown (by omega) hr (by omega) hx1 rfl (RQL_one q) hga' (fun e => hgg (by rw [e]; rfl))).mono ?_
      rintro e w' ⟨h1, h2, h3⟩
      exact ⟨g, cap, h1, h2, h3, .inl rfl⟩
    · refine (insmidr_grow B g n cap i ga xs (RQL q) w hown (by omega) (by omega) (by omega) hB hx1 rfl (RQL_one q) hga').mono ?_
      rintro e w' ⟨cap', h1, h2, h3⟩
      exact ⟨w.heap.size, cap', h1, h2, h3, .inr rfl⟩
end Go.Proofs.Ytkhpaldbdpfpiaa
