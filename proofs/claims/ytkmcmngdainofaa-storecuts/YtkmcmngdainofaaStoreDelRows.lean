/- slices.DeleteFunc of the rows in which nothing lives. -/
import Derived.Test.YtkmcmngdainofaaStoreThinCalls
import Derived.Test.YtkmcmngdainofaaStoreDelete
namespace Go.Proofs.Ytkmcmngdainofaa
open Go.RowKit Go.Maps
set_option maxRecDepth 100000

/-- cells of a row of one's own are written over. -/
theorem own_written {w : World} {B g n cap s o : Nat} {t : TypeId} {xs vs : List Value} (h : w.ownsRow B t s (.slice (some ⟨g, 0, none⟩) n cap) n xs) (ho : o + vs.length ≤ n * s) :
    (w.setCells g o vs).ownsRow B t s (.slice (some ⟨g, 0, none⟩) n cap) n (xs.take o ++ vs ++ xs.drop (o + vs.length)) := by
  obtain ⟨hl, h | ⟨g', cap', cur, e, hB, hg, hn, hm, hz, hx⟩⟩ := h
  · obtain ⟨h, _⟩ := h; cases h
  · cases e
    have hcap : n * s ≤ cap * s := Nat.mul_le_mul_right _ hn
    obtain ⟨cur1, a1, a2, a3⟩ := cells_over vs o w cur hg
    refine ⟨by simp; omega, .inr ⟨g, cap, cur1, rfl, hB, a1, hn, hm, by rw [a2, hz], ?_⟩⟩
    have hxj : ∀ j, j < n * s → xs[j]? = cur[j]? := fun j hj => by rw [← hx, List.getElem?_take, if_pos hj, Array.getElem?_toList]
    apply List.ext_getElem?
    intro j
    by_cases hj : j < n * s
    · rw [List.getElem?_take, if_pos hj, Array.getElem?_toList, a3 j (by omega), List.append_assoc]
      by_cases e1 : j < o
      · rw [if_neg (by omega), List.getElem?_append_left (by simp; omega), List.getElem?_take, if_pos e1, hxj j hj]
      · rw [List.getElem?_append_right (by simp; omega)]
        have e2 : (xs.take o).length = o := by simp; omega
        rw [e2]
        by_cases e3 : j < o + vs.length
        · rw [if_pos ⟨by omega, e3⟩, List.getElem?_append_left (by omega)]
        · rw [if_neg (by omega), List.getElem?_append_right (by omega), List.getElem?_drop, ← hxj j hj]
          congr 1
          omega
    · rw [List.getElem?_eq_none (by simp; omega), List.getElem?_eq_none (by simp; omega)]
/-- the first i of a row of one's own, what is behind written over. -/
theorem own_first3 {w : World} {B g n cap s i : Nat} {t : TypeId} {xs zs : List Value} (h : w.ownsRow B t s (.slice (some ⟨g, 0, none⟩) n cap) n xs) (hi : i ≤ n) :
    (w.setCells g (i * s) zs).ownsRow B t s (.slice (some ⟨g, 0, none⟩) i cap) i (xs.take (i * s)) := by
  obtain ⟨hl, h | ⟨g', cap', cur, e, hB, hg, hn, hm, hz, hx⟩⟩ := h
  · obtain ⟨h, _⟩ := h; cases h
  · cases e
    have h1 : i * s ≤ n * s := Nat.mul_le_mul_right _ hi
    have h2 : n * s ≤ cap * s := Nat.mul_le_mul_right _ hn
    obtain ⟨cur1, a1, a2, a3⟩ := cells_over zs (i * s) w cur hg
    refine ⟨by simp; omega, .inr ⟨g, cap, cur1, rfl, hB, a1, by omega, hm, by rw [a2, hz], ?_⟩⟩
    apply List.ext_getElem?
    intro j
    by_cases hj : j < i * s
    · rw [List.getElem?_take, if_pos hj, Array.getElem?_toList, a3 j (by omega), if_neg (by omega), List.getElem?_take, if_pos hj, ← hx, List.getElem?_take, if_pos (by omega), Array.getElem?_toList]
    · rw [List.getElem?_eq_none (by simp; omega), List.getElem?_eq_none (by simp; omega)]
theorem cells_size (g : Nat) : ∀ (vs : List Value) (o : Nat) (w : World), (w.setCells g o vs).heap.size = w.heap.size
  | [], _, _ => rfl
  | v :: vs, o, w => (cells_size g vs (o + 1) _).trans (by simp)
/-- what lies outside of memory is as it was. -/
def OTO (w w' : World) : Prop := w'.os = w.os ∧ w'.tape = w.tape ∧ w'.output = w.output
theorem OTO.refl (w : World) : OTO w w := ⟨rfl, rfl, rfl⟩
theorem OTO.trans {w w' w'' : World} (h : OTO w w') (h' : OTO w' w'') : OTO w w'' := ⟨h'.1.trans h.1, h'.2.1.trans h.2.1, h'.2.2.trans h.2.2⟩
theorem OTO.of_below {w w' : World} {B : Nat} (h : Below B w w') : OTO w w' := ⟨h.os, h.tape, h.output⟩
theorem OTO.of_grown {w w' : World} {r : Option Nat} (h : w.grownBy w' r) : OTO w w' := ⟨h.os, h.tape, h.output⟩
theorem OTO.cell (w : World) (a : Addr) (v : Value) : OTO w (w.setCell a v) := OTO.of_below ((Below.refl 0 w).setCell (p := a) (Nat.zero_le _) v)
theorem OTO.cells (g : Nat) : ∀ (vs : List Value) (o : Nat) (w : World), OTO w (w.setCells g o vs)
  | [], _, w => OTO.refl w
  | v :: vs, o, w => (OTO.cell w _ v).trans (OTO.cells g vs (o + 1) _)
/-- clear of some elements. -/
theorem clear_some {P : Program} (w : World) (t e ty : TypeId) (z : Value) (zs : List Value) (k : Nat) (ht : P.underlying t = some (.slice e)) (hv : ∀ w, (zeroValue e).run P w = .ok z w) (hz : (Builtin.zeroCells z.cells (k + 1)).toList = zs) (h1 : ∀ v ∈ zs, v.oneCell' = true) (b o c : Nat)
    (hc : ∀ j, j < zs.length → (w.cell? ⟨b, o + j, none⟩).isSome = true) (hf : ∀ j, j < zs.length → w.frozen? ⟨b, o + j, none⟩ = false) :
    (Builtin.clear_ #[t] ty #[.slice (some ⟨b, o, none⟩) (k + 1) c]).run P w = .ok (.tuple #[]) (w.setCells b o zs) := by
  have hst := run_storeCells_cells (P := P) b o zs 0 w (by simpa using hc) (by simpa using hf) h1
  simp only [Nat.add_zero] at hst
  simp [Builtin.clear_, run_underlying ht, hv, hz, hst]
/-- the cells of one row. -/
abbrev RC1 (r : ROW) : List Value := [.int .u64 (r.num : Int), .int .u64 (r.live : Int), r.v]
theorem RC_append (a b : List ROW) : RC (a ++ b) = RC a ++ RC b := by simp [RC]
theorem RC_first (l : List ROW) (i : Nat) (h : i ≤ l.length) : (RC l).take (i * 3) = RC (l.take i) := by
  have e : l = l.take i ++ l.drop i := (List.take_append_drop i l).symm
  have hl : (RC (l.take i)).length = i * 3 := by rw [RC_length]; simp; omega
  conv => lhs; rw [e, RC_append]
  rw [← hl, List.take_left]
theorem RC_rest (l : List ROW) (i : Nat) (h : i ≤ l.length) : (RC l).drop (i * 3) = RC (l.drop i) := by
  have e : l = l.take i ++ l.drop i := (List.take_append_drop i l).symm
  have hl : (RC (l.take i)).length = i * 3 := by rw [RC_length]; simp; omega
  conv => lhs; rw [e, RC_append]
  rw [← hl, List.drop_left]
theorem RC_put3 (l : List ROW) (i : Nat) (r : ROW) (h : i < l.length) : (RC l).take (i * 3) ++ RC1 r ++ (RC l).drop (i * 3 + (RC1 r).length) = RC (l.set i r) := by
  rw [show i * 3 + (RC1 r).length = (i + 1) * 3 by simp; omega, RC_first l i (by omega), RC_rest l (i + 1) (by omega), List.set_eq_take_append_cons_drop, if_pos h, RC_append]
  simp [RC]
/-- the rows in which something lives. -/
def LVS (l : List ROW) : List ROW := l.filter fun r => decide (r.live ≠ 0)
theorem LVS_take {l : List ROW} {j : Nat} {r : ROW} (h : l[j]? = some r) : LVS (l.take (j + 1)) = LVS (l.take j) ++ if r.live ≠ 0 then [r] else [] := by
  unfold LVS
  rw [List.take_add_one, h, List.filter_append]
  simp [List.filter_cons]
theorem clear_rows (w : World) (ty : TypeId) (B g n cap i k : Nat) (xs : List Value) (h : w.ownsRow B 73 3 (.slice (some ⟨g, 0, none⟩) n cap) n xs) (hk : i + (k + 1) ≤ n) (c : Nat) : ∃ w', (Builtin.clear_ #[68] ty #[.slice (some ⟨g, i * 3, none⟩) (k + 1) c]).run Try.prog w = .ok (.tuple #[]) w' ∧ w'.ownsRow B 73 3 (.slice (some ⟨g, 0, none⟩) i cap) i (xs.take (i * 3)) ∧ (∀ x, x ≠ g → w'.heap[x]? = w.heap[x]?) ∧ w'.heap.size = w.heap.size ∧ OTO w w' := by
  obtain ⟨ti, hti, hz, hs1, hby⟩ := info_parts info_rowT
  obtain ⟨zs, hzs⟩ : ∃ zs, (Builtin.zeroCells (Value.agg #[.int .u64 0, .int .u64 0, .slice none 0 0]).cells (k + 1)).toList = zs := ⟨_, rfl⟩
  have hlen : zs.length = (k + 1) * 3 := by rw [← hzs, Array.length_toList, size_zeroCells]; rfl
  have h1 : ∀ v ∈ zs, v.oneCell' = true := fun v hv => by
    rw [← hzs] at hv
    simp [Builtin.zeroCells, Value.cells] at hv
    obtain ⟨a, ha, rfl⟩ := hv
    have hm : a % 3 < 3 := Nat.mod_lt _ (by decide)
    generalize a % 3 = b at *
    match b, hm with
    | 0, _ => rfl
    | 1, _ => rfl
    | 2, _ => rfl
  obtain ⟨o1, o2, o3, _⟩ := own_cell h
  have hb : ∀ j, j < zs.length → i * 3 + j < cap * 3 := fun j hj => by omega
  have hc := clear_some w 68 73 ty (.agg #[.int .u64 0, .int .u64 0, .slice none 0 0]) zs k Try.underlying68 (fun w => by simp [zeroValue, typeInfo, hti, hz]) hzs h1 g (i * 3) c (fun j hj => (o1 _ (hb j hj)).1) (fun j hj => (o1 _ (hb j hj)).2)
  exact ⟨_, hc, own_first3 h (by omega), fun x hx => cells_heap g zs (i * 3) w x hx, cells_size g zs (i * 3) w, OTO.cells g zs (i * 3) w⟩
theorem zeroRow : ∀ w, (zeroValue 73).run Try.prog w = .ok (.agg #[.int .u64 0, .int .u64 0, .slice none 0 0]) w := fun w => by
  obtain ⟨ti, hti, hz, _⟩ := info_parts info_rowT
  simp [zeroValue, typeInfo, hti, hz]
theorem info_row3 (r : ROW) : (Try.prog.info? 73).map (·.size) = some (#[Value.int .u64 (r.num : Int), .int .u64 (r.live : Int), r.v] : Array Value).size := by kernel_rfl
theorem row_one (r : ROW) : (#[Value.int .u64 (r.num : Int), .int .u64 (r.live : Int), r.v] : Array Value).all (·.oneCell') = true := all_oneCell_toArray (cs := RC1 r) (fun v hv => by simp at hv; rcases hv with rfl | rfl | rfl <;> rfl)
theorem rows_lie {w : World} {B gr n cap : Nat} {L : List ROW} (h : w.ownsRow B 73 3 (.slice (some ⟨gr, 0, none⟩) n cap) n (RC L)) {j : Nat} {r : ROW} (hj : L[j]? = some r) : w.cell? ⟨gr, j * 3, none⟩ = some (.int .u64 (r.num : Int)) ∧ w.cell? ⟨gr, j * 3 + 1, none⟩ = some (.int .u64 (r.live : Int)) ∧ w.cell? ⟨gr, j * 3 + 2, none⟩ = some r.v := by
  obtain ⟨_, o2, _⟩ := own_cell h
  exact ⟨o2 _ _ (RC_get L j 0 r hj (by decide)), o2 _ _ (RC_get L j 1 r hj (by decide)), o2 _ _ (RC_get L j 2 r hj (by decide))⟩
theorem rows_high {g n cap i : Nat} (h : i ≤ cap) (hm : cap ≤ maxLen) (w : World) : (Instr.slice 68 (.slice (some ⟨g, 0, none⟩) n cap) none (some (.int .i64 (i : Int))) none).run Try.prog w = .ok (.slice (some ⟨g, 0, none⟩) i cap) w := by
  obtain ⟨ti, hti, hz, hs1, hby⟩ := info_parts info_rowT
  have hsz : ∀ w : World, (sizeOf 73).run Try.prog w = .ok 3 w := fun w => by simp [sizeOf, typeInfo, hti, hs1]
  have hmx : cap ≤ 9223372036854775807 := by unfold maxLen at hm; omega
  exact (run_slice_h (P := Try.prog) w 68 (some ⟨g, 0, none⟩) n cap (by kernel_rfl) .i64 (i : Int) (by omega) (by omega)).trans (by rw [show Try.prog.elem 68 = 73 from by kernel_rfl, hsz]; simp [Result.andThen, sliced, Addr.add])
theorem rows_low {g n cap i : Nat} (hi : i < n) (h : n ≤ cap) (hm : cap ≤ maxLen) (w : World) : (Instr.slice 68 (.slice (some ⟨g, 0, none⟩) n cap) (some (.int .i64 (i : Int))) none none).run Try.prog w = .ok (.slice (some ⟨g, i * 3, none⟩) (n - i) (cap - i)) w := by
  obtain ⟨ti, hti, hz, hs1, hby⟩ := info_parts info_rowT
  have hsz : ∀ w : World, (sizeOf 73).run Try.prog w = .ok 3 w := fun w => by simp [sizeOf, typeInfo, hti, hs1]
  have hmx : cap ≤ 9223372036854775807 := by unfold maxLen at hm; omega
  have hne : cap ≠ i := by omega
  exact (run_slice_l (P := Try.prog) w 68 (some ⟨g, 0, none⟩) n cap (by kernel_rfl) .i64 (i : Int) (by omega) (by omega)).trans (by rw [show Try.prog.elem 68 = 73 from by kernel_rfl, hsz]; simp [Result.andThen, sliced, Addr.add_mid, hne])
theorem step_w64 {j n : Nat} (h : j < n) (hn : n < 2 ^ 40) : wrap64 ((j : Int) + 1) = ((j + 1 : Nat) : Int) := by unfold wrap64; omega
/-- what slices.DeleteFunc leaves. -/
def GONE (w : World) (B gr cap : Nat) (rs : List ROW) (e : Ending) (w' : World) : Prop := e = .returned (.slice (some ⟨gr, 0, none⟩) (LVS rs).length cap) ∧ w'.ownsRow B 73 3 (.slice (some ⟨gr, 0, none⟩) (LVS rs).length cap) (LVS rs).length (RC (LVS rs)) ∧ (∀ b, b < w.heap.size → b ≠ gr → w'.heap[b]? = w.heap[b]?) ∧ w.heap.size ≤ w'.heap.size ∧ OTO w w'
set_option maxHeartbeats 2000000 in
theorem delgone_ok (B gr n cap : Nat) (rs : List ROW) (hl : rs.length = n) (hn : n < 2 ^ 40) (w : World) (hO : w.ownsRow B 73 3 (.slice (some ⟨gr, 0, none⟩) n cap) n (RC rs)) : Calls Try.prog 37 #[.slice (some ⟨gr, 0, none⟩) n cap, .func (.func 38) #[] #[]] w fun e w' => GONE w B gr cap rs e w' := by
  have hgr : gr < w.heap.size := (hO.lt gr rfl).2
  have cI := indexgone_ok (some ⟨gr, 0, none⟩) n cap (rs.map ROW.rw) (by rw [List.length_map, hl]) hn w (fun _ => ⟨gr, 0, rfl, hgr, fun j q hq => by
    obtain ⟨r, hr, rfl⟩ := RW_get hq
    simp only [Nat.zero_add]
    exact rows_lie hO hr⟩)
  have H : Aside (rs.length = n ∧ n < 2 ^ 40 ∧ w.ownsRow B 73 3 (.slice (some ⟨gr, 0, none⟩) n cap) n (RC rs) ∧ gr < w.heap.size) := ⟨hl, hn, hO, hgr⟩
  clear hl hn hO hgr
  go_enter Try.func37, Try.ntmps37
  go_wp2_with fail
  refine cI.mono ?_
  rintro e w1 ⟨hb1, ⟨i, q, rfl, hq, hq0, hbef⟩ | ⟨rfl, hall⟩⟩
  · clear cI
    have Z0 : Aside (i < n ∧ LVS (rs.take (i + 1)) = rs.take i ∧ Below w.heap.size w w1) := by
      obtain ⟨a1, a2, a3, a4⟩ := H.out
      obtain ⟨r, hr, rfl⟩ := RW_get hq
      have hin : i < n := by have := (List.getElem?_eq_some_iff.1 hr).1; omega
      refine ⟨hin, ?_, hb1⟩
      rw [LVS_take hr, if_neg (by simpa [ROW.rw] using hq0), List.append_nil]
      refine List.filter_eq_self.2 (fun s hs => ?_)
      obtain ⟨k, hk⟩ := List.getElem?_of_mem hs
      have hki : k < i := by have := (List.getElem?_eq_some_iff.1 hk).1; simp at this; omega
      rw [List.getElem?_take, if_pos hki] at hk
      have := hbef k s.rw hki (by rw [List.getElem?_map, hk]; rfl)
      simpa [ROW.rw] using this
    have hi1 : wrap64 ((i : Int) + 1) = ((i + 1 : Nat) : Int) := by have := Z0.out.1; have := H.out.2.1; unfold wrap64; omega
    clear hq hq0 hbef hb1
    have hm1 : ((i : Int) == -1) = false := by simp
    go_wp2
    go_loopg [5, 6] (n - (i + 1)) (fun k s5 s6 wx => ∃ a j : Nat, j + k = n ∧ s5 = .int .i64 (a : Int) ∧ s6 = .int .i64 (j : Int) ∧ Aside (a < j ∧ ∃ L : List ROW, L.length = n ∧ L.take a = LVS (rs.take j) ∧ L.drop j = rs.drop j ∧ wx.ownsRow B 73 3 (.slice (some ⟨gr, 0, none⟩) n cap) n (RC L) ∧ (∀ b, b < w.heap.size → b ≠ gr → wx.heap[b]? = w.heap[b]?) ∧ w.heap.size ≤ wx.heap.size ∧ OTO w wx))
    case atStart => exact ⟨i, i + 1, by have := Z0.out.1; omega, rfl, by first | rfl | (rw [hi1]), by omega, rs, H.out.1, Z0.out.2.1.symm, rfl, own_keep H.out.2.2.1 Z0.out.2.2, fun b hb _ => Z0.out.2.2.block b hb, Z0.out.2.2.size, OTO.of_below Z0.out.2.2⟩
    case round =>
      clear hi1
      obtain ⟨a, j, hjk, rfl, rfl, Z⟩ := hrel
      cases gk with
      | zero =>
        obtain rfl : j = n := by omega
        have hlt : ¬ (j : Int) < (j : Int) := by omega
        obtain ⟨haj, L, l1, l2, l3, l4, l5, l6, l7⟩ := Z.out
        obtain ⟨k, hk⟩ : ∃ k, j - a = k + 1 := ⟨j - a - 1, by omega⟩
        obtain ⟨_, _, hcap, hmx, _⟩ := own_cell l4
        have r1 := rows_low (g := gr) haj hcap hmx
        have r2 := rows_high (g := gr) (n := j) (i := a) (by omega) hmx
        obtain ⟨w2, c1, c2, c3, c4, c5⟩ := clear_rows wr 0 B gr j cap a k (RC L) l4 (by omega) (cap - a)
        have hts : (RC L).take (a * 3) = RC (LVS rs) := by
          rw [RC_first L a (by omega), l2, List.take_of_length_le (by have := H.out.1; omega)]
        have hal : (LVS rs).length = a := by
          have := congrArg List.length l2
          rw [List.take_of_length_le (l := rs) (by have := H.out.1; omega)] at this
          rw [← this]
          simp
          omega
        have E : Aside (GONE w B gr cap rs (.returned (.slice (some ⟨gr, 0, none⟩) a cap)) w2) := by
          unfold GONE
          rw [hal, ← hts]
          exact ⟨rfl, c2, fun b hb hne => (c3 b hne).trans (l5 b hb hne), by rw [c4]; exact l6, l7.trans c5⟩
        rw [← hk] at c1
        have b1 : (a : Int) ≤ (j : Int) := by omega
        have b2 : (j : Int) ≤ (cap : Int) := by omega
        have b3 : (a : Int) ≤ (cap : Int) := by omega
        clear l1 l2 l3 l4 l5 l6 l7 c2 c3 c4 c5 hts hal Z hk hmx
        go_wp2
        go_ret
        exact E.out
      | succ k =>
        obtain ⟨haj, L, l1, l2, l3, l4, l5, l6, l7⟩ := Z.out
        have hjn : j < n := by omega
        have hlt : (j : Int) < (n : Int) := Int.ofNat_lt.2 hjn
        have han : (a : Int) < (n : Int) := Int.ofNat_lt.2 (Nat.lt_trans haj hjn)
        have hj1 := step_w64 hjn H.out.2.1
        have ha1 := step_w64 (Nat.lt_trans haj hjn) H.out.2.1
        clear hjn
        obtain ⟨r, hr⟩ : ∃ r, rs[j]? = some r := ⟨_, List.getElem?_eq_getElem (by have := H.out.1; omega)⟩
        have hLj : L[j]? = some r := by
          have := congrArg (fun l => l[0]?) l3
          simpa [hr] using this
        obtain ⟨x0, x1, x2⟩ := rows_lie l4 hLj
        obtain ⟨o1, _, hcap, _⟩ := own_cell l4
        have hz := zeroRow
        obtain ⟨w2, hw2⟩ : ∃ w2, wr.alloc (.cells #[.int .u64 (r.num : Int), .int .u64 (r.live : Int), r.v] 73) = w2 := ⟨_, rfl⟩
        have HW : Aside (wr.alloc (.cells #[.int .u64 (r.num : Int), .int .u64 (r.live : Int), r.v] 73) = w2) := hw2
        have hb2 : Below wr.heap.size wr w2 := by rw [← hw2]; exact (Below.refl _ _).alloc (Nat.le_refl _) _
        have h22 : Has w2 wr.heap.size #[.int .u64 (r.num : Int), .int .u64 (r.live : Int), r.v] 73 := by rw [← hw2]; exact Has.new wr _ _
        have cc := gone_ok r.num r.live (some ⟨r.gh, 0, none⟩) r.hs.length r.ch
        have R : Aside (rs[j]? = some r ∧ a < j ∧ L.length = n ∧ L.take a = LVS (rs.take j) ∧ L.drop j = rs.drop j ∧ wr.ownsRow B 73 3 (.slice (some ⟨gr, 0, none⟩) n cap) n (RC L) ∧ (∀ b, b < w.heap.size → b ≠ gr → wr.heap[b]? = w.heap[b]?) ∧ w.heap.size ≤ wr.heap.size ∧ Below wr.heap.size wr w2 ∧ Has w2 wr.heap.size #[.int .u64 (r.num : Int), .int .u64 (r.live : Int), r.v] 73 ∧ j + 1 + k = n) := ⟨hr, haj, l1, l2, l3, l4, l5, l6, hb2, h22, by omega⟩
        have RO : Aside (OTO w wr) := l7
        clear l1 l2 l3 l4 l5 l6 l7 Z hLj hr hw2 hb2 h22 o1 hcap
        by_cases hlv : r.live = 0
        · rw [decide_eq_true hlv] at cc
          have HV : Aside (r.live = 0) := hlv
          clear hlv
          go_wp2_with fail
          refine (cc _).mono ?_
          rintro e w3 ⟨rfl, hb3⟩
          replace hb3 : Below w2.heap.size w2 w3 := by rw [← HW.out]; exact hb3
          have R2 : Aside (Below wr.heap.size wr w3) := R.out.2.2.2.2.2.2.2.2.1.trans (hb3.mono R.out.2.2.2.2.2.2.2.2.1.size)
          clear hb3 cc x0 x1 x2
          go_wp2
          go_roundg k
          case measure => omega
          case rel =>
            obtain ⟨q1, q2, q3, q4, q5, q6, q7, q8, q9, q10, q11⟩ := R.out
            refine ⟨a, j + 1, q11, rfl, by first | rfl | (rw [hj1]), by omega, L, q3, ?_, ?_, own_keep q6 R2.out, fun b hb hne => (R2.out.block b (by omega)).trans (q7 b hb hne), by have := R2.out.size; omega, RO.out.trans (OTO.of_below R2.out)⟩
            · rw [LVS_take q1, if_neg (by rw [HV.out]; simp), List.append_nil, q4]
            · rw [← List.drop_drop, q5, List.drop_drop]
        · rw [decide_eq_false hlv] at cc
          have HV : Aside (r.live ≠ 0) := hlv
          clear hlv
          go_wp2_with fail
          refine (cc _).mono ?_
          rintro e w3 ⟨rfl, hb3⟩
          replace hb3 : Below w2.heap.size w2 w3 := by rw [← HW.out]; exact hb3
          have R2 : Aside (Below wr.heap.size wr w3 ∧ Has w3 wr.heap.size #[.int .u64 (r.num : Int), .int .u64 (r.live : Int), r.v] 73) := ⟨R.out.2.2.2.2.2.2.2.2.1.trans (hb3.mono R.out.2.2.2.2.2.2.2.2.1.size), R.out.2.2.2.2.2.2.2.2.2.1.keep hb3⟩
          clear hb3 cc x0 x1 x2
          have y0 : w3.cell? ⟨wr.heap.size, 0, none⟩ = some (.int .u64 (r.num : Int)) := R2.out.2.cell 0
          have y1 : w3.cell? ⟨wr.heap.size, 0 + 1, none⟩ = some (.int .u64 (r.live : Int)) := R2.out.2.cell 1
          have y2 : w3.cell? ⟨wr.heap.size, 0 + 2, none⟩ = some r.v := R2.out.2.cell 2
          have hth : Aside (w3.there gr (a * 3) 3) := fun x hx => by
            obtain ⟨q1, q2, q3, q4, q5, q6, q7, q8, q9, q10, q11⟩ := R.out
            obtain ⟨o1, _, hcap, _⟩ := own_cell (own_keep q6 R2.out.1)
            exact o1 _ (by omega)
          obtain ⟨w4, hw4⟩ : ∃ w4, w3.setCells gr (a * 3) (RC1 r) = w4 := ⟨_, rfl⟩
          have R3 : Aside (w4.ownsRow B 73 3 (.slice (some ⟨gr, 0, none⟩) n cap) n (RC (L.set a r)) ∧ (∀ b, b < w.heap.size → b ≠ gr → w4.heap[b]? = w.heap[b]?) ∧ w.heap.size ≤ w4.heap.size ∧ OTO w w4) := by
            obtain ⟨q1, q2, q3, q4, q5, q6, q7, q8, q9, q10, q11⟩ := R.out
            have h1 := own_written (o := a * 3) (vs := RC1 r) (own_keep q6 R2.out.1) (by simp; omega)
            rw [RC_put3 L a r (by omega), hw4] at h1
            refine ⟨h1, fun b hb hne => ?_, ?_, by rw [← hw4]; exact (RO.out.trans (OTO.of_below R2.out.1)).trans (OTO.cells gr _ _ _)⟩
            · rw [← hw4]
              exact ((cells_heap gr _ _ _ b hne).trans (R2.out.1.block b (by omega))).trans (q7 b hb hne)
            · rw [← hw4, cells_size]
              have := R2.out.1.size
              omega
          have HW4 : Aside (w3.setCells gr (a * 3) (RC1 r) = w4) := hw4
          clear hw4 R2
          go_wp2_with (first
            | (refine wpList_store_mid rfl 73 (.tmp 33) (.tmp 32) rfl gr (a * 3) #[.int .u64 (r.num : Int), .int .u64 (r.live : Int), r.v] rfl rfl hth.out (info_row3 r) (row_one r) ?_; rw [show w3.setCells gr (a * 3) (#[Value.int .u64 (r.num : Int), .int .u64 (r.live : Int), r.v] : Array Value).toList = w4 from HW4.out])
            | fail)
          go_roundg k
          case measure => omega
          case rel =>
            obtain ⟨q1, q2, q3, q4, q5, q6, q7, q8, q9, q10, q11⟩ := R.out
            refine ⟨a + 1, j + 1, q11, by first | rfl | (rw [ha1]), by first | rfl | (rw [hj1]), by omega, L.set a r, by rw [List.length_set, q3], ?_, ?_, R3.out⟩
            · rw [LVS_take q1, if_pos HV.out, ← q4, List.take_add_one, List.getElem?_set_self (by omega), List.take_set_of_le (Nat.le_refl _)]
              rfl
            · rw [List.drop_set_of_lt (by omega), ← List.drop_drop, q5, List.drop_drop]
  · clear cI
    have E : Aside (GONE w B gr cap rs (.returned (.slice (some ⟨gr, 0, none⟩) n cap)) w1) := by
      obtain ⟨a1, a2, a3, a4⟩ := H.out
      have hL : LVS rs = rs := List.filter_eq_self.2 (fun r hr => by
        obtain ⟨j, hj⟩ := List.getElem?_of_mem hr
        have := hall j r.rw (by rw [List.getElem?_map, hj]; rfl)
        simpa [ROW.rw] using this)
      unfold GONE
      rw [hL, a1]
      exact ⟨rfl, own_keep a3 hb1, fun b hb _ => hb1.block b hb, hb1.size, OTO.of_below hb1⟩
    clear hall hb1
    go_wp2
    go_ret
    exact E.out
end Go.Proofs.Ytkmcmngdainofaa
