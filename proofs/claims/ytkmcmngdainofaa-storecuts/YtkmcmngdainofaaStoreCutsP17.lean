/- Texts of StoreCuts, one behind the other: StoreDelRows, StoreTake. -/
import Derived.Test.YtkmcmngdainofaaStoreCutsP12
import Derived.Test.YtkmcmngdainofaaStoreCutsP13
import Derived.Test.YtkmcmngdainofaaStoreCutsP16
/- slices.DeleteFunc of the rows in which nothing lives. -/
namespace Go.Proofs.Ytkmcmngdainofaa
open Go.RowKit Go.Maps
set_option maxRecDepth 100000

/-- cells of a row of one's own are written over. -/
theorem own_written {w : World} {B g n cap s o : Nat} {t : TypeId} {xs vs : List Value} (h : w.ownsRow B t s (.slice (some ⟨g, 0, none⟩) n cap) n xs) (ho : o + vs.length ≤ n * s) :
    (w.setCells g o vs).ownsRow B t s (.slice (some ⟨g, 0, none⟩) n cap) n (xs.take o ++ vs ++ xs.drop (o + vs.length)) := by
  obtain ⟨hl, h | ⟨g', cap', cur, e, hB, hg, hn, hm, hz, hx⟩⟩ := h
  · obtain ⟨h, _⟩ := h; cases h
  · cases e
    have hcap : n * s ≤ cap * s := Nat.mul_le_mul_right _ hn
    obtain ⟨cur1, a1, a2, a3⟩ := cells_over vs o w cur hg
    refine ⟨by simp; omega, .inr ⟨g, cap, cur1, rfl, hB, a1, hn, hm, by rw [a2, hz], ?_⟩⟩
    have hxj : ∀ j, j < n * s → xs[j]? = cur[j]? := fun j hj => by rw [← hx, List.getElem?_take, if_pos hj, Array.getElem?_toList]
    apply List.ext_getElem?
    intro j
    by_cases hj : j < n * s
    · rw [List.getElem?_take, if_pos hj, Array.getElem?_toList, a3 j (by omega), List.append_assoc]
      by_cases e1 : j < o
      · rw [if_neg (by omega), List.getElem?_append_left (by simp; omega), List.getElem?_take, if_pos e1, hxj j hj]
      · rw [List.getElem?_append_right (by simp; omega)]
        have e2 : (xs.take o).length = o := by simp; omega
        rw [e2]
        by_cases e3 : j < o + vs.length
        · rw [if_pos ⟨by omega, e3⟩, List.getElem?_append_left (by omega)]
        · rw [if_neg (by omega), List.getElem?_append_right (by omega), List.getElem?_drop, ← hxj j hj]
          congr 1
          omega
    · rw [List.getElem?_eq_none (by simp; omega), List.getElem?_eq_none (by simp; omega)]
/-- the first i of a row of one's own, what is behind written over. -/
theorem own_first3 {w : World} {B g n cap s i : Nat} {t : TypeId} {xs zs : List Value} (h : w.ownsRow B t s (.slice (some ⟨g, 0, none⟩) n cap) n xs) (hi : i ≤ n) :
    (w.setCells g (i * s) zs).ownsRow B t s (.slice (some ⟨g, 0, none⟩) i cap) i (xs.take (i * s)) := by
  obtain ⟨hl, h | ⟨g', cap', cur, e, hB, hg, hn, hm, hz, hx⟩⟩ := h
  · obtain ⟨h, _⟩ := h; cases h
  · cases e
    have h1 : i * s ≤ n * s := Nat.mul_le_mul_right _ hi
    have h2 : n * s ≤ cap * s := Nat.mul_le_mul_right _ hn
    obtain ⟨cur1, a1, a2, a3⟩ := cells_over zs (i * s) w cur hg
    refine ⟨by simp; omega, .inr ⟨g, cap, cur1, rfl, hB, a1, by omega, hm, by rw [a2, hz], ?_⟩⟩
    apply List.ext_getElem?
    intro j
    by_cases hj : j < i * s
    · rw [List.getElem?_take, if_pos hj, Array.getElem?_toList, a3 j (by omega), if_neg (by omega), List.getElem?_take, if_pos hj, ← hx, List.getElem?_take, if_pos (by omega), Array.getElem?_toList]
    · rw [List.getElem?_eq_none (by simp; omega), List.getElem?_eq_none (by simp; omega)]
theorem cells_size (g : Nat) : ∀ (vs : List Value) (o : Nat) (w : World), (w.setCells g o vs).heap.size = w.heap.size
  | [], _, _ => rfl
  | v :: vs, o, w => (cells_size g vs (o + 1) _).trans (by simp)
/-- what lies outside of memory is as it was. -/
def OTO (w w' : World) : Prop := w'.os = w.os ∧ w'.tape = w.tape ∧ w'.output = w.output
theorem OTO.refl (w : World) : OTO w w := ⟨rfl, rfl, rfl⟩
theorem OTO.trans {w w' w'' : World} (h : OTO w w') (h' : OTO w' w'') : OTO w w'' := ⟨h'.1.trans h.1, h'.2.1.trans h.2.1, h'.2.2.trans h.2.2⟩
theorem OTO.of_below {w w' : World} {B : Nat} (h : Below B w w') : OTO w w' := ⟨h.os, h.tape, h.output⟩
theorem OTO.of_grown {w w' : World} {r : Option Nat} (h : w.grownBy w' r) : OTO w w' := ⟨h.os, h.tape, h.output⟩
theorem OTO.cell (w : World) (a : Addr) (v : Value) : OTO w (w.setCell a v) := OTO.of_below ((Below.refl 0 w).setCell (p := a) (Nat.zero_le _) v)
theorem OTO.cells (g : Nat) : ∀ (vs : List Value) (o : Nat) (w : World), OTO w (w.setCells g o vs)
  | [], _, w => OTO.refl w
  | v :: vs, o, w => (OTO.cell w _ v).trans (OTO.cells g vs (o + 1) _)
/-- clear of some elements. -/
theorem clear_some {P : Program} (w : World) (t e ty : TypeId) (z : Value) (zs : List Value) (k : Nat) (ht : P.underlying t = some (.slice e)) (hv : ∀ w, (zeroValue e).run P w = .ok z w) (hz : (Builtin.zeroCells z.cells (k + 1)).toList = zs) (h1 : ∀ v ∈ zs, v.oneCell' = true) (b o c : Nat)
    (hc : ∀ j, j < zs.length → (w.cell? ⟨b, o + j, none⟩).isSome = true) (hf : ∀ j, j < zs.length → w.frozen? ⟨b, o + j, none⟩ = false) :
    (Builtin.clear_ #[t] ty #[.slice (some ⟨b, o, none⟩) (k + 1) c]).run P w = .ok (.tuple #[]) (w.setCells b o zs) := by
  have hst := run_storeCells_cells (P := P) b o zs 0 w (by simpa using hc) (by simpa using hf) h1
  simp only [Nat.add_zero] at hst
  simp [Builtin.clear_, run_underlying ht, hv, hz, hst]
/-- the cells of one row. -/
abbrev RC1 (r : ROW) : List Value := [.int .u64 (r.num : Int), .int .u64 (r.live : Int), r.v]
theorem RC_append (a b : List ROW) : RC (a ++ b) = RC a ++ RC b := by simp [RC]
theorem RC_first (l : List ROW) (i : Nat) (h : i ≤ l.length) : (RC l).take (i * 3) = RC (l.take i) := by
  have e : l = l.take i ++ l.drop i := (List.take_append_drop i l).symm
  have hl : (RC (l.take i)).length = i * 3 := by rw [RC_length]; simp; omega
  conv => lhs; rw [e, RC_append]
  rw [← hl, List.take_left]
theorem RC_rest (l : List ROW) (i : Nat) (h : i ≤ l.length) : (RC l).drop (i * 3) = RC (l.drop i) := by
  have e : l = l.take i ++ l.drop i := (List.take_append_drop i l).symm
  have hl : (RC (l.take i)).length = i * 3 := by rw [RC_length]; simp; omega
  conv => lhs; rw [e, RC_append]
  rw [← hl, List.drop_left]
theorem RC_put3 (l : List ROW) (i : Nat) (r : ROW) (h : i < l.length) : (RC l).take (i * 3) ++ RC1 r ++ (RC l).drop (i * 3 + (RC1 r).length) = RC (l.set i r) := by
  rw [show i * 3 + (RC1 r).length = (i + 1) * 3 by simp; omega, RC_first l i (by omega), RC_rest l (i + 1) (by omega), List.set_eq_take_append_cons_drop, if_pos h, RC_append]
  simp [RC]
/-- the rows in which something lives. -/
def LVS (l : List ROW) : List ROW := l.filter fun r => decide (r.live ≠ 0)
theorem LVS_take {l : List ROW} {j : Nat} {r : ROW} (h : l[j]? = some r) : LVS (l.take (j + 1)) = LVS (l.take j) ++ if r.live ≠ 0 then [r] else [] := by
  unfold LVS
  rw [List.take_add_one, h, List.filter_append]
  simp [List.filter_cons]
theorem clear_rows (w : World) (ty : TypeId) (B g n cap i k : Nat) (xs : List Value) (h : w.ownsRow B 73 3 (.slice (some ⟨g, 0, none⟩) n cap) n xs) (hk : i + (k + 1) ≤ n) (c : Nat) : ∃ w', (Builtin.clear_ #[68] ty #[.slice (some ⟨g, i * 3, none⟩) (k + 1) c]).run Try.prog w = .ok (.tuple #[]) w' ∧ w'.ownsRow B 73 3 (.slice (some ⟨g, 0, none⟩) i cap) i (xs.take (i * 3)) ∧ (∀ x, x ≠ g → w'.heap[x]? = w.heap[x]?) ∧ w'.heap.size = w.heap.size ∧ OTO w w' := by
  obtain ⟨ti, hti, hz, hs1, hby⟩ := info_parts info_rowT
  obtain ⟨zs, hzs⟩ : ∃ zs, (Builtin.zeroCells (Value.agg #[.int .u64 0, .int .u64 0, .slice none 0 0]).cells (k + 1)).toList = zs := ⟨_, rfl⟩
  have hlen : zs.length = (k + 1) * 3 := by rw [← hzs, Array.length_toList, size_zeroCells]; rfl
  have h1 : ∀ v ∈ zs, v.oneCell' = true := fun v hv => by
    rw [← hzs] at hv
    simp [Builtin.zeroCells, Value.cells] at hv
    obtain ⟨a, ha, rfl⟩ := hv
    have hm : a % 3 < 3 := Nat.mod_lt _ (by decide)
    generalize a % 3 = b at *
    match b, hm with
    | 0, _ => rfl
    | 1, _ => rfl
    | 2, _ => rfl
  obtain ⟨o1, o2, o3, _⟩ := own_cell h
  have hb : ∀ j, j < zs.length → i * 3 + j < cap * 3 := fun j hj => by omega
  have hc := clear_some w 68 73 ty (.agg #[.int .u64 0, .int .u64 0, .slice none 0 0]) zs k Try.underlying68 (fun w => by simp [zeroValue, typeInfo, hti, hz]) hzs h1 g (i * 3) c (fun j hj => (o1 _ (hb j hj)).1) (fun j hj => (o1 _ (hb j hj)).2)
  exact ⟨_, hc, own_first3 h (by omega), fun x hx => cells_heap g zs (i * 3) w x hx, cells_size g zs (i * 3) w, OTO.cells g zs (i * 3) w⟩
theorem zeroRow : ∀ w, (zeroValue 73).run Try.prog w = .ok (.agg #[.int .u64 0, .int .u64 0, .slice none 0 0]) w := fun w => by
  obtain ⟨ti, hti, hz, _⟩ := info_parts info_rowT
  simp [zeroValue, typeInfo, hti, hz]
theorem info_row3 (r : ROW) : (Try.prog.info? 73).map (·.size) = some (#[Value.int .u64 (r.num : Int), .int .u64 (r.live : Int), r.v] : Array Value).size := by kernel_rfl
theorem row_one (r : ROW) : (#[Value.int .u64 (r.num : Int), .int .u64 (r.live : Int), r.v] : Array Value).all (·.oneCell') = true := all_oneCell_toArray (cs := RC1 r) (fun v hv => by simp at hv; rcases hv with rfl | rfl | rfl <;> rfl)
theorem rows_lie {w : World} {B gr n cap : Nat} {L : List ROW} (h : w.ownsRow B 73 3 (.slice (some ⟨gr, 0, none⟩) n cap) n (RC L)) {j : Nat} {r : ROW} (hj : L[j]? = some r) : w.cell? ⟨gr, j * 3, none⟩ = some (.int .u64 (r.num : Int)) ∧ w.cell? ⟨gr, j * 3 + 1, none⟩ = some (.int .u64 (r.live : Int)) ∧ w.cell? ⟨gr, j * 3 + 2, none⟩ = some r.v := by
  obtain ⟨_, o2, _⟩ := own_cell h
  exact ⟨o2 _ _ (RC_get L j 0 r hj (by decide)), o2 _ _ (RC_get L j 1 r hj (by decide)), o2 _ _ (RC_get L j 2 r hj (by decide))⟩
theorem rows_high {g n cap i : Nat} (h : i ≤ cap) (hm : cap ≤ maxLen) (w : World) : (Instr.slice 68 (.slice (some ⟨g, 0, none⟩) n cap) none (some (.int .i64 (i : Int))) none).run Try.prog w = .ok (.slice (some ⟨g, 0, none⟩) i cap) w := by
  obtain ⟨ti, hti, hz, hs1, hby⟩ := info_parts info_rowT
  have hsz : ∀ w : World, (sizeOf 73).run Try.prog w = .ok 3 w := fun w => by simp [sizeOf, typeInfo, hti, hs1]
  have hmx : cap ≤ 9223372036854775807 := by unfold maxLen at hm; omega
  exact (run_slice_h (P := Try.prog) w 68 (some ⟨g, 0, none⟩) n cap (by kernel_rfl) .i64 (i : Int) (by omega) (by omega)).trans (by rw [show Try.prog.elem 68 = 73 from by kernel_rfl, hsz]; simp [Result.andThen, sliced, Addr.add])
theorem rows_low {g n cap i : Nat} (hi : i < n) (h : n ≤ cap) (hm : cap ≤ maxLen) (w : World) : (Instr.slice 68 (.slice (some ⟨g, 0, none⟩) n cap) (some (.int .i64 (i : Int))) none none).run Try.prog w = .ok (.slice (some ⟨g, i * 3, none⟩) (n - i) (cap - i)) w := by
  obtain ⟨ti, hti, hz, hs1, hby⟩ := info_parts info_rowT
  have hsz : ∀ w : World, (sizeOf 73).run Try.prog w = .ok 3 w := fun w => by simp [sizeOf, typeInfo, hti, hs1]
  have hmx : cap ≤ 9223372036854775807 := by unfold maxLen at hm; omega
  have hne : cap ≠ i := by omega
  exact (run_slice_l (P := Try.prog) w 68 (some ⟨g, 0, none⟩) n cap (by kernel_rfl) .i64 (i : Int) (by omega) (by omega)).trans (by rw [show Try.prog.elem 68 = 73 from by kernel_rfl, hsz]; simp [Result.andThen, sliced, Addr.add_mid, hne])
theorem step_w64 {j n : Nat} (h : j < n) (hn : n < 2 ^ 40) : wrap64 ((j : Int) + 1) = ((j + 1 : Nat) : Int) := by unfold wrap64; omega
/-- what slices.DeleteFunc leaves. -/
def GONE (w : World) (B gr cap : Nat) (rs : List ROW) (e : Ending) (w' : World) : Prop := e = .returned (.slice (some ⟨gr, 0, none⟩) (LVS rs).length cap) ∧ w'.ownsRow B 73 3 (.slice (some ⟨gr, 0, none⟩) (LVS rs).length cap) (LVS rs).length (RC (LVS rs)) ∧ (∀ b, b < w.heap.size → b ≠ gr → w'.heap[b]? = w.heap[b]?) ∧ w.heap.size ≤ w'.heap.size ∧ OTO w w'
set_option maxHeartbeats 2000000 in
theorem delgone_ok (B gr n cap : Nat) (rs : List ROW) (hl : rs.length = n) (hn : n < 2 ^ 40) (w : World) (hO : w.ownsRow B 73 3 (.slice (some ⟨gr, 0, none⟩) n cap) n (RC rs)) : Calls Try.prog 37 #[.slice (some ⟨gr, 0, none⟩) n cap, .func (.func 38) #[] #[]] w fun e w' => GONE w B gr cap rs e w' := by
  have hgr : gr < w.heap.size := (hO.lt gr rfl).2
  have cI := indexgone_ok (some ⟨gr, 0, none⟩) n cap (rs.map ROW.rw) (by rw [List.length_map, hl]) hn w (fun _ => ⟨gr, 0, rfl, hgr, fun j q hq => by
    obtain ⟨r, hr, rfl⟩ := RW_get hq
    simp only [Nat.zero_add]
    exact rows_lie hO hr⟩)
  have H : Aside (rs.length = n ∧ n < 2 ^ 40 ∧ w.ownsRow B 73 3 (.slice (some ⟨gr, 0, none⟩) n cap) n (RC rs) ∧ gr < w.heap.size) := ⟨hl, hn, hO, hgr⟩
  clear hl hn hO hgr
  go_enter Try.func37, Try.ntmps37
  go_wp2_with fail
  refine cI.mono ?_
  rintro e w1 ⟨hb1, ⟨i, q, rfl, hq, hq0, hbef⟩ | ⟨rfl, hall⟩⟩
  · clear cI
    have Z0 : Aside (i < n ∧ LVS (rs.take (i + 1)) = rs.take i ∧ Below w.heap.size w w1) := by
      obtain ⟨a1, a2, a3, a4⟩ := H.out
      obtain ⟨r, hr, rfl⟩ := RW_get hq
      have hin : i < n := by have := (List.getElem?_eq_some_iff.1 hr).1; omega
      refine ⟨hin, ?_, hb1⟩
      rw [LVS_take hr, if_neg (by simpa [ROW.rw] using hq0), List.append_nil]
      refine List.filter_eq_self.2 (fun s hs => ?_)
      obtain ⟨k, hk⟩ := List.getElem?_of_mem hs
      have hki : k < i := by have := (List.getElem?_eq_some_iff.1 hk).1; simp at this; omega
      rw [List.getElem?_take, if_pos hki] at hk
      have := hbef k s.rw hki (by rw [List.getElem?_map, hk]; rfl)
      simpa [ROW.rw] using this
    have hi1 : wrap64 ((i : Int) + 1) = ((i + 1 : Nat) : Int) := by have := Z0.out.1; have := H.out.2.1; unfold wrap64; omega
    clear hq hq0 hbef hb1
    have hm1 : ((i : Int) == -1) = false := by simp
    go_wp2
    go_loopg [5, 6] (n - (i + 1)) (fun k s5 s6 wx => ∃ a j : Nat, j + k = n ∧ s5 = .int .i64 (a : Int) ∧ s6 = .int .i64 (j : Int) ∧ Aside (a < j ∧ ∃ L : List ROW, L.length = n ∧ L.take a = LVS (rs.take j) ∧ L.drop j = rs.drop j ∧ wx.ownsRow B 73 3 (.slice (some ⟨gr, 0, none⟩) n cap) n (RC L) ∧ (∀ b, b < w.heap.size → b ≠ gr → wx.heap[b]? = w.heap[b]?) ∧ w.heap.size ≤ wx.heap.size ∧ OTO w wx))
    case atStart => exact ⟨i, i + 1, by have := Z0.out.1; omega, rfl, by first | rfl | (rw [hi1]), by omega, rs, H.out.1, Z0.out.2.1.symm, rfl, own_keep H.out.2.2.1 Z0.out.2.2, fun b hb _ => Z0.out.2.2.block b hb, Z0.out.2.2.size, OTO.of_below Z0.out.2.2⟩
    case round =>
      clear hi1
      obtain ⟨a, j, hjk, rfl, rfl, Z⟩ := hrel
      cases gk with
      | zero =>
        obtain rfl : j = n := by omega
        have hlt : ¬ (j : Int) < (j : Int) := by omega
        obtain ⟨haj, L, l1, l2, l3, l4, l5, l6, l7⟩ := Z.out
        obtain ⟨k, hk⟩ : ∃ k, j - a = k + 1 := ⟨j - a - 1, by omega⟩
        obtain ⟨_, _, hcap, hmx, _⟩ := own_cell l4
        have r1 := rows_low (g := gr) haj hcap hmx
        have r2 := rows_high (g := gr) (n := j) (i := a) (by omega) hmx
        obtain ⟨w2, c1, c2, c3, c4, c5⟩ := clear_rows wr 0 B gr j cap a k (RC L) l4 (by omega) (cap - a)
        have hts : (RC L).take (a * 3) = RC (LVS rs) := by
          rw [RC_first L a (by omega), l2, List.take_of_length_le (by have := H.out.1; omega)]
        have hal : (LVS rs).length = a := by
          have := congrArg List.length l2
          rw [List.take_of_length_le (l := rs) (by have := H.out.1; omega)] at this
          rw [← this]
          simp
          omega
        have E : Aside (GONE w B gr cap rs (.returned (.slice (some ⟨gr, 0, none⟩) a cap)) w2) := by
          unfold GONE
          rw [hal, ← hts]
          exact ⟨rfl, c2, fun b hb hne => (c3 b hne).trans (l5 b hb hne), by rw [c4]; exact l6, l7.trans c5⟩
        rw [← hk] at c1
        have b1 : (a : Int) ≤ (j : Int) := by omega
        have b2 : (j : Int) ≤ (cap : Int) := by omega
        have b3 : (a : Int) ≤ (cap : Int) := by omega
        clear l1 l2 l3 l4 l5 l6 l7 c2 c3 c4 c5 hts hal Z hk hmx
        go_wp2
        go_ret
        exact E.out
      | succ k =>
        obtain ⟨haj, L, l1, l2, l3, l4, l5, l6, l7⟩ := Z.out
        have hjn : j < n := by omega
        have hlt : (j : Int) < (n : Int) := Int.ofNat_lt.2 hjn
        have han : (a : Int) < (n : Int) := Int.ofNat_lt.2 (Nat.lt_trans haj hjn)
        have hj1 := step_w64 hjn H.out.2.1
        have ha1 := step_w64 (Nat.lt_trans haj hjn) H.out.2.1
        clear hjn
        obtain ⟨r, hr⟩ : ∃ r, rs[j]? = some r := ⟨_, List.getElem?_eq_getElem (by have := H.out.1; omega)⟩
        have hLj : L[j]? = some r := by
          have := congrArg (fun l => l[0]?) l3
          simpa [hr] using this
        obtain ⟨x0, x1, x2⟩ := rows_lie l4 hLj
        obtain ⟨o1, _, hcap, _⟩ := own_cell l4
        have hz := zeroRow
        obtain ⟨w2, hw2⟩ : ∃ w2, wr.alloc (.cells #[.int .u64 (r.num : Int), .int .u64 (r.live : Int), r.v] 73) = w2 := ⟨_, rfl⟩
        have HW : Aside (wr.alloc (.cells #[.int .u64 (r.num : Int), .int .u64 (r.live : Int), r.v] 73) = w2) := hw2
        have hb2 : Below wr.heap.size wr w2 := by rw [← hw2]; exact (Below.refl _ _).alloc (Nat.le_refl _) _
        have h22 : Has w2 wr.heap.size #[.int .u64 (r.num : Int), .int .u64 (r.live : Int), r.v] 73 := by rw [← hw2]; exact Has.new wr _ _
        have cc := gone_ok r.num r.live (some ⟨r.gh, 0, none⟩) r.hs.length r.ch
        have R : Aside (rs[j]? = some r ∧ a < j ∧ L.length = n ∧ L.take a = LVS (rs.take j) ∧ L.drop j = rs.drop j ∧ wr.ownsRow B 73 3 (.slice (some ⟨gr, 0, none⟩) n cap) n (RC L) ∧ (∀ b, b < w.heap.size → b ≠ gr → wr.heap[b]? = w.heap[b]?) ∧ w.heap.size ≤ wr.heap.size ∧ Below wr.heap.size wr w2 ∧ Has w2 wr.heap.size #[.int .u64 (r.num : Int), .int .u64 (r.live : Int), r.v] 73 ∧ j + 1 + k = n) := ⟨hr, haj, l1, l2, l3, l4, l5, l6, hb2, h22, by omega⟩
        have RO : Aside (OTO w wr) := l7
        clear l1 l2 l3 l4 l5 l6 l7 Z hLj hr hw2 hb2 h22 o1 hcap
        by_cases hlv : r.live = 0
        · rw [decide_eq_true hlv] at cc
          have HV : Aside (r.live = 0) := hlv
          clear hlv
          go_wp2_with fail
          refine (cc _).mono ?_
          rintro e w3 ⟨rfl, hb3⟩
          replace hb3 : Below w2.heap.size w2 w3 := by rw [← HW.out]; exact hb3
          have R2 : Aside (Below wr.heap.size wr w3) := R.out.2.2.2.2.2.2.2.2.1.trans (hb3.mono R.out.2.2.2.2.2.2.2.2.1.size)
          clear hb3 cc x0 x1 x2
          go_wp2
          go_roundg k
          case measure => omega
          case rel =>
            obtain ⟨q1, q2, q3, q4, q5, q6, q7, q8, q9, q10, q11⟩ := R.out
            refine ⟨a, j + 1, q11, rfl, by first | rfl | (rw [hj1]), by omega, L, q3, ?_, ?_, own_keep q6 R2.out, fun b hb hne => (R2.out.block b (by omega)).trans (q7 b hb hne), by have := R2.out.size; omega, RO.out.trans (OTO.of_below R2.out)⟩
            · rw [LVS_take q1, if_neg (by rw [HV.out]; simp), List.append_nil, q4]
            · rw [← List.drop_drop, q5, List.drop_drop]
        · rw [decide_eq_false hlv] at cc
          have HV : Aside (r.live ≠ 0) := hlv
          clear hlv
          go_wp2_with fail
          refine (cc _).mono ?_
          rintro e w3 ⟨rfl, hb3⟩
          replace hb3 : Below w2.heap.size w2 w3 := by rw [← HW.out]; exact hb3
          have R2 : Aside (Below wr.heap.size wr w3 ∧ Has w3 wr.heap.size #[.int .u64 (r.num : Int), .int .u64 (r.live : Int), r.v] 73) := ⟨R.out.2.2.2.2.2.2.2.2.1.trans (hb3.mono R.out.2.2.2.2.2.2.2.2.1.size), R.out.2.2.2.2.2.2.2.2.2.1.keep hb3⟩
          clear hb3 cc x0 x1 x2
          have y0 : w3.cell? ⟨wr.heap.size, 0, none⟩ = some (.int .u64 (r.num : Int)) := R2.out.2.cell 0
          have y1 : w3.cell? ⟨wr.heap.size, 0 + 1, none⟩ = some (.int .u64 (r.live : Int)) := R2.out.2.cell 1
          have y2 : w3.cell? ⟨wr.heap.size, 0 + 2, none⟩ = some r.v := R2.out.2.cell 2
          have hth : Aside (w3.there gr (a * 3) 3) := fun x hx => by
            obtain ⟨q1, q2, q3, q4, q5, q6, q7, q8, q9, q10, q11⟩ := R.out
            obtain ⟨o1, _, hcap, _⟩ := own_cell (own_keep q6 R2.out.1)
            exact o1 _ (by omega)
          obtain ⟨w4, hw4⟩ : ∃ w4, w3.setCells gr (a * 3) (RC1 r) = w4 := ⟨_, rfl⟩
          have R3 : Aside (w4.ownsRow B 73 3 (.slice (some ⟨gr, 0, none⟩) n cap) n (RC (L.set a r)) ∧ (∀ b, b < w.heap.size → b ≠ gr → w4.heap[b]? = w.heap[b]?) ∧ w.heap.size ≤ w4.heap.size ∧ OTO w w4) := by
            obtain ⟨q1, q2, q3, q4, q5, q6, q7, q8, q9, q10, q11⟩ := R.out
            have h1 := own_written (o := a * 3) (vs := RC1 r) (own_keep q6 R2.out.1) (by simp; omega)
            rw [RC_put3 L a r (by omega), hw4] at h1
            refine ⟨h1, fun b hb hne => ?_, ?_, by rw [← hw4]; exact (RO.out.trans (OTO.of_below R2.out.1)).trans (OTO.cells gr _ _ _)⟩
            · rw [← hw4]
              exact ((cells_heap gr _ _ _ b hne).trans (R2.out.1.block b (by omega))).trans (q7 b hb hne)
            · rw [← hw4, cells_size]
              have := R2.out.1.size
              omega
          have HW4 : Aside (w3.setCells gr (a * 3) (RC1 r) = w4) := hw4
          clear hw4 R2
          go_wp2_with (first
            | (refine wpList_store_mid rfl 73 (.tmp 33) (.tmp 32) rfl gr (a * 3) #[.int .u64 (r.num : Int), .int .u64 (r.live : Int), r.v] rfl rfl hth.out (info_row3 r) (row_one r) ?_; rw [show w3.setCells gr (a * 3) (#[Value.int .u64 (r.num : Int), .int .u64 (r.live : Int), r.v] : Array Value).toList = w4 from HW4.out])
            | fail)
          go_roundg k
          case measure => omega
          case rel =>
            obtain ⟨q1, q2, q3, q4, q5, q6, q7, q8, q9, q10, q11⟩ := R.out
            refine ⟨a + 1, j + 1, q11, by first | rfl | (rw [ha1]), by first | rfl | (rw [hj1]), by omega, L.set a r, by rw [List.length_set, q3], ?_, ?_, R3.out⟩
            · rw [LVS_take q1, if_pos HV.out, ← q4, List.take_add_one, List.getElem?_set_self (by omega), List.take_set_of_le (Nat.le_refl _)]
              rfl
            · rw [List.drop_set_of_lt (by omega), ← List.drop_drop, q5, List.drop_drop]
  · clear cI
    have E : Aside (GONE w B gr cap rs (.returned (.slice (some ⟨gr, 0, none⟩) n cap)) w1) := by
      obtain ⟨a1, a2, a3, a4⟩ := H.out
      have hL : LVS rs = rs := List.filter_eq_self.2 (fun r hr => by
        obtain ⟨j, hj⟩ := List.getElem?_of_mem hr
        have := hall j r.rw (by rw [List.getElem?_map, hj]; rfl)
        simpa [ROW.rw] using this)
      unfold GONE
      rw [hL, a1]
      exact ⟨rfl, own_keep a3 hb1, fun b hb _ => hb1.block b hb, hb1.size, OTO.of_below hb1⟩
    clear hall hb1
    go_wp2
    go_ret
    exact E.out
end Go.Proofs.Ytkmcmngdainofaa

/- chunk.take, in raw memory. -/
namespace Go.Proofs.Ytkmcmngdainofaa
open Go.RowKit Go.Maps
set_option maxRecDepth 100000

/-- what chunk.take leaves in memory: the i-th row has one hash and one bit less; it is taken out if no bit is left. -/
def TOOK (w w' : World) (B g gr cap i m gh ch n1 lb : Nat) (xs ys : List Value) : Prop :=
  ((lb ≠ 0 ∧ Has w' g #[.slice (some ⟨gr, 0, none⟩) m cap] 70 ∧ w'.ownsRow B 73 3 (.slice (some ⟨gr, 0, none⟩) m cap) m xs) ∨
    (lb = 0 ∧ Has w' g #[.slice (some ⟨gr, 0, none⟩) (m - 1) cap] 70 ∧ w'.ownsRow B 73 3 (.slice (some ⟨gr, 0, none⟩) (m - 1) cap) (m - 1) (xs.take (i * 3) ++ xs.drop ((i + 1) * 3)))) ∧
  w'.ownsRow B 33 32 (.slice (some ⟨gh, 0, none⟩) n1 ch) n1 ys ∧ w.heap.size ≤ w'.heap.size ∧ Below B w w' ∧ ∀ b, b < w.heap.size → b ≠ g → b ≠ gr → b ≠ gh → w'.heap[b]? = w.heap[b]?
theorem own_here {w w' : World} {B s n cap b : Nat} {t : TypeId} {xs : List Value} (h : w.ownsRow B t s (.slice (some ⟨b, 0, none⟩) n cap) n xs) (hb : w'.heap[b]? = w.heap[b]?) : w'.ownsRow B t s (.slice (some ⟨b, 0, none⟩) n cap) n xs := own_same h fun b' e => by cases e; exact hb
theorem set_one {xs : List Value} (h : ∀ u ∈ xs, u.oneCell' = true) (j : Nat) (v : Value) (hv : v.oneCell' = true) : ∀ u ∈ xs.set j v, u.oneCell' = true := fun u hu => by
  rcases List.mem_or_eq_of_mem_set hu with h1 | h1
  · exact h u h1
  · rw [h1]; exact hv
set_option maxHeartbeats 4000000 in
theorem take_raw (B g gr i m cap p k live lb n0 n1 rk r1 gh ch : Nat) (xs ys : List Value) (w : World) (hbx : Has w g #[.slice (some ⟨gr, 0, none⟩) m cap] 70) (hrow : w.ownsRow B 73 3 (.slice (some ⟨gr, 0, none⟩) m cap) m xs) (him : i < m)
    (hl : xs[i * 3 + 1]? = some (.int .u64 (live : Int))) (hhv : xs[i * 3 + 2]? = some (.slice (some ⟨gh, 0, none⟩) n0 ch)) (hown : w.ownsRow B 33 32 (.slice (some ⟨gh, 0, none⟩) n0 ch) n0 ys) (hrk : RK live k = rk) (hr1 : rk + 1 = r1) (hn1 : n0 - 1 = n1) (hrn : rk < n0) (hn0 : n0 ≤ 1000) (hlive : live < 2 ^ 64) (hk : p % 64 = k) (hp : p < 2 ^ 64) (hBg : B ≤ g)
    (hlb : bits .andNot .u64 (live : Int) ((2 ^ k : Nat) : Int) = (lb : Int)) (hy1 : ∀ u ∈ ys, u.oneCell' = true) (hx1 : ∀ u ∈ xs, u.oneCell' = true) (hne : gh ≠ gr ∧ g ≠ gr ∧ g ≠ gh)
    (cf : Calls Try.prog 39 #[.pointer (some ⟨g, 0, none⟩), .int .u64 (p : Int)] w fun e w' => e = .returned (.tuple #[.int .i64 (i : Int), .bool true]) ∧ Below w.heap.size w w') :
    Calls Try.prog 41 #[.pointer (some ⟨g, 0, none⟩), .int .u64 (p : Int)] w fun e w' => (∃ v, e = .returned v) ∧ TOOK w w' B g gr cap i m gh ch n1 lb ((xs.set (i * 3 + 2) (.slice (some ⟨gh, 0, none⟩) n1 ch)).set (i * 3 + 1) (.int .u64 (lb : Int))) (ys.take (rk * 32) ++ ys.drop (r1 * 32)) := by
  have him' : (i : Int) < (m : Int) := by omega
  have H : Aside (Has w g #[.slice (some ⟨gr, 0, none⟩) m cap] 70 ∧ w.ownsRow B 73 3 (.slice (some ⟨gr, 0, none⟩) m cap) m xs ∧ i < m ∧ xs[i * 3 + 1]? = some (.int .u64 (live : Int)) ∧ xs[i * 3 + 2]? = some (.slice (some ⟨gh, 0, none⟩) n0 ch) ∧ w.ownsRow B 33 32 (.slice (some ⟨gh, 0, none⟩) n0 ch) n0 ys ∧ (RK live k = rk ∧ rk + 1 = r1 ∧ n0 - 1 = n1 ∧ rk < n0 ∧ n0 ≤ 1000) ∧ live < 2 ^ 64 ∧ p % 64 = k ∧ p < 2 ^ 64 ∧ B ≤ g ∧ (∀ u ∈ ys, u.oneCell' = true) ∧ (∀ u ∈ xs, u.oneCell' = true) ∧ gh ≠ gr ∧ g ≠ gr ∧ g ≠ gh) := ⟨hbx, hrow, him, hl, hhv, hown, ⟨hrk, hr1, hn1, hrn, hn0⟩, hlive, hk, hp, hBg, hy1, hx1, hne.1, hne.2.1, hne.2.2⟩
  have HB : Aside (bits .andNot .u64 (live : Int) ((2 ^ k : Nat) : Int) = (lb : Int)) := hlb
  clear hbx hrow him hl hhv hown hrk hr1 hn1 hrn hn0 hlive hk hp hBg hlb hy1 hx1 hne
  go_enter Try.func41, Try.ntmps41
  go_wp2_with fail
  refine cf.mono ?_
  rintro e w1 ⟨rfl, hb1⟩
  clear cf
  obtain ⟨a1, a2, a3, a4, a5, a6, ⟨a7, a8, a9, a10, a11⟩, a12, a13, a14, a15, a16, a17, a18, a19, a20⟩ := H.out
  have hbx1 := a1.keep hb1
  have hrow1 := own_keep a2 hb1
  have hown1 := own_keep a6 hb1
  have hcb := hbx1.cell 0
  obtain ⟨x1, x2, x3, x4⟩ := own_there hrow1 a4
  obtain ⟨y1, y2, y3, y4⟩ := own_there hrow1 a5
  have hkk : k < 64 := by rw [← a13]; exact Nat.mod_lt _ (by decide)
  have cB : ∀ w, Calls Try.prog 18 #[.int .u64 (p : Int)] w fun e w' => e = .returned (.int .u64 ((2 ^ k : Nat) : Int)) ∧ w = w' := fun w => by have := bitof_ok p a14 w; rw [a13] at this; exact this
  have cR : Calls Try.prog 40 #[.pointer (some ⟨gr, i * 3, none⟩), .int .u64 ((2 ^ k : Nat) : Int)] w1 fun e w' => e = .returned (.int .i64 (rk : Int)) ∧ w1 = w' := by
    have := rank_ok gr (i * 3) live k a12 hkk w1 x1
    rw [POP_mod (by omega), a7] at this
    exact this
  have cD := deleteh_ok B gh n0 ch rk r1 n1 ys w1 hown1 a16 a10 a8 a9
  have hwr : wrap64 ((rk : Int) + 1) = (r1 : Int) := by unfold wrap64; omega
  have hwr2 : IntKind.i64.wrap ((rk : Int) + 1) = (r1 : Int) := (IntWalk.i64_left _).trans hwr
  have hwi : Aside (wrap64 ((i : Int) + 1) = ((i + 1 : Nat) : Int)) := by
    have := (own_cell hrow1).2.2
    show wrap64 _ = _
    unfold wrap64
    unfold maxLen at this
    omega
  have hb2k : Aside (2 ^ k < 2 ^ 64) := Nat.pow_lt_pow_right (by decide) hkk
  obtain ⟨bt, hbt⟩ : ∃ bt, 2 ^ k = bt := ⟨_, rfl⟩
  have HBT : Aside (bits .andNot .u64 (live : Int) (bt : Int) = (lb : Int)) := by rw [← hbt]; exact HB.out
  rw [hbt] at cB cR
  have HH : Aside (Has w1 g #[.slice (some ⟨gr, 0, none⟩) m cap] 70 ∧ w1.ownsRow B 73 3 (.slice (some ⟨gr, 0, none⟩) m cap) m xs ∧ Below w.heap.size w w1 ∧ g < w.heap.size ∧ gr < w.heap.size ∧ gh < w.heap.size) := ⟨hbx1, hrow1, hb1, a1.lt, (own_there a2 a4).2.2.1, (own_cell a6).2.2.2.2.1⟩
  clear a1 a2 a3 a4 a5 a6 a7 a8 a9 a10 a11 a12 a13 a14 a15 a16 a17 a18 a19 a20 hbx1 hrow1 hown1 hbt hkk x2 x3 x4 y2 y3 y4 hb1
  go_wp2_with (first
    | (refine (cB _).mono ?_; rintro e w' ⟨rfl, rfl⟩)
    | (refine cR.mono ?_; rintro e w' ⟨rfl, rfl⟩)
    | fail)
  refine cD.mono ?_
  rintro e w2 ⟨rfl, d1, d2, d3⟩
  clear cD cR hwr hwr2 hcb x1 y1
  obtain ⟨b1, b2, b3, b4, b5, b6⟩ := HH.out
  obtain ⟨a1, a2, a3, a4, a5, a6, -, a12, a13, a14, a15, a16, a17, a18, a19, a20⟩ := H.out
  have hbx2 : Has w2 g #[.slice (some ⟨gr, 0, none⟩) m cap] 70 := (d2 g a20).trans b1
  have hrow2 := own_here b2 (d2 gr (fun e => a18 e.symm))
  obtain ⟨x1, x2, x3, x4⟩ := own_there hrow2 a4
  obtain ⟨y1, y2, y3, y4⟩ := own_there hrow2 a5
  have hrow3 := own_set hrow2 (i * 3 + 2) (.slice (some ⟨gh, 0, none⟩) n1 ch)
  obtain ⟨w3, hw3⟩ : ∃ w3, w2.setCell ⟨gr, i * 3 + 2, none⟩ (.slice (some ⟨gh, 0, none⟩) n1 ch) = w3 := ⟨_, rfl⟩
  rw [hw3] at hrow3
  have hset3 : ∀ b, b ≠ gr → w3.heap[b]? = w2.heap[b]? := fun b hb => by rw [← hw3]; exact Below.heap_setCell _ _ _ b (by exact hb)
  have hbx3 : Has w3 g #[.slice (some ⟨gr, 0, none⟩) m cap] 70 := (hset3 g a19).trans hbx2
  have hown3 := own_here d1 (hset3 gh a18)
  have l3 : (xs.set (i * 3 + 2) (.slice (some ⟨gh, 0, none⟩) n1 ch))[i * 3 + 1]? = some (.int .u64 (live : Int)) := by rw [List.getElem?_set_ne (by omega)]; exact a4
  obtain ⟨z1, z2, -, z4⟩ := own_there hrow3 l3
  have hB3 : Below B w w3 := by rw [← hw3]; exact ((b3.mono (by omega)).trans d3).setCell (p := ⟨gr, i * 3 + 2, none⟩) z4 _
  have HT : Aside (Has w3 g #[.slice (some ⟨gr, 0, none⟩) m cap] 70 ∧ w3.ownsRow B 73 3 (.slice (some ⟨gr, 0, none⟩) m cap) m (xs.set (i * 3 + 2) (.slice (some ⟨gh, 0, none⟩) n1 ch)) ∧ w3.ownsRow B 33 32 (.slice (some ⟨gh, 0, none⟩) n1 ch) n1 (ys.take (rk * 32) ++ ys.drop (r1 * 32)) ∧ Below B w w3 ∧ (∀ b, b < w.heap.size → b ≠ g → b ≠ gr → b ≠ gh → w3.heap[b]? = w.heap[b]?) ∧ B ≤ gr) := ⟨hbx3, hrow3, hown3, hB3, fun b hb _ h1 h2 => (hset3 b h1).trans ((d2 b h2).trans (b3.block b hb)), z4⟩
  clear hbx2 hrow2 hrow3 hset3 hbx3 hown3 hB3 d1 d2 d3 x1 x2 x3 x4 y3 y4 b1 b2 b3 b4 b5 b6 a1 a2 a3 a4 a5 a6 a12 a13 a14 a15 a16 a17 a18 a19 a20 l3 z4
  go_upto_region 4 with fail
  refine take4 _ _ _ _ _ _ _ _ _ _ _ _ _ _ _ _ _ _ _ _ _ _ _ _ _ _ _ _ _ _ _ _ _ _ _ _ _ _ _ _ _ _ _ _ _ _ _ _ _ _ _ _ _ _ _ _ _ _ w3 gr i p bt live lb z1 z2 HBT.out cB (fun _ _ _ _ _ h => h) ?_
  dsimp only
  clear cB hw3 y1 y2 z1 z2
  obtain ⟨c1, c2, c3, c4, c5, c6⟩ := HT.out
  have c2' : w3.drew.ownsRow B 73 3 (.slice (some ⟨gr, 0, none⟩) m cap) m (xs.set (i * 3 + 2) (.slice (some ⟨gh, 0, none⟩) n1 ch)) := c2
  have hrow4 := own_set c2' (i * 3 + 1) (.int .u64 (lb : Int))
  obtain ⟨w4, hw4⟩ : ∃ w4, w3.drew.setCell ⟨gr, i * 3 + 1, none⟩ (.int .u64 (lb : Int)) = w4 := ⟨_, rfl⟩
  rw [hw4] at hrow4 ⊢
  obtain ⟨xs1, hxs1⟩ : ∃ xs1, (xs.set (i * 3 + 2) (.slice (some ⟨gh, 0, none⟩) n1 ch)).set (i * 3 + 1) (.int .u64 (lb : Int)) = xs1 := ⟨_, rfl⟩
  rw [hxs1] at hrow4
  have HX : Aside ((xs.set (i * 3 + 2) (.slice (some ⟨gh, 0, none⟩) n1 ch)).set (i * 3 + 1) (.int .u64 (lb : Int)) = xs1) := hxs1
  have hone : Aside (∀ u ∈ xs1, u.oneCell' = true) := by
    rw [← hxs1]
    exact set_one (set_one H.out.2.2.2.2.2.2.2.2.2.2.2.2.1 _ _ rfl) _ _ rfl
  have hset4 : ∀ b, b ≠ gr → w4.heap[b]? = w3.heap[b]? := fun b hb => by rw [← hw4]; exact Below.heap_setCell _ _ _ b (by exact hb)
  have hlen : i * 3 + 1 < xs.length := (List.getElem?_eq_some_iff.1 H.out.2.2.2.1).1
  have l4 : xs1[i * 3 + 1]? = some (.int .u64 (lb : Int)) := by rw [← hxs1, List.getElem?_set_self (by simpa using hlen)]
  obtain ⟨z1, z2, -, -⟩ := own_there hrow4 l4
  obtain ⟨a1, a2, a3, a4, a5, a6, -, a12, a13, a14, a15, a16, a17, a18, a19, a20⟩ := H.out
  have hbx4 : Has w4 g #[.slice (some ⟨gr, 0, none⟩) m cap] 70 := (hset4 g a19).trans c1
  have hown4 := own_here c3 (hset4 gh a18)
  have hB4 : Below B w w4 := by rw [← hw4]; exact c4.drew.setCell (p := ⟨gr, i * 3 + 1, none⟩) c6 _
  have hfr4 : ∀ b, b < w.heap.size → b ≠ g → b ≠ gr → b ≠ gh → w4.heap[b]? = w.heap[b]? := fun b h1 h2 h3 h4 => (hset4 b h3).trans (c5 b h1 h2 h3 h4)
  by_cases hz : lb = 0
  · have hzb : ((lb : Int) == 0) = true := by simp; omega
    obtain ⟨i1, hi1⟩ : ∃ i1, i + 1 = i1 := ⟨_, rfl⟩
    obtain ⟨m1, hm1⟩ : ∃ m1, m - 1 = m1 := ⟨_, rfl⟩
    have cD := deleter_ok B gr m cap i i1 m1 xs1 w4 hrow4 hone.out a3 hi1 hm1
    have hcb := hbx4.cell 0
    have hwi1 : wrap64 ((i : Int) + 1) = (i1 : Int) := by rw [← hi1]; exact hwi.out
    have hwi2 : IntKind.i64.wrap ((i : Int) + 1) = (i1 : Int) := (IntWalk.i64_left _).trans hwi1
    have HI : Aside (i + 1 = i1 ∧ m - 1 = m1 ∧ lb = 0) := ⟨hi1, hm1, hz⟩
    have HF : Aside (Has w4 g #[.slice (some ⟨gr, 0, none⟩) m cap] 70 ∧ w4.ownsRow B 33 32 (.slice (some ⟨gh, 0, none⟩) n1 ch) n1 (ys.take (rk * 32) ++ ys.drop (r1 * 32)) ∧ Below B w w4 ∧ ∀ b, b < w.heap.size → b ≠ g → b ≠ gr → b ≠ gh → w4.heap[b]? = w.heap[b]?) := ⟨hbx4, hown4, hB4, hfr4⟩
    clear c1 c2 c3 c4 c5 c6 c2' hrow4 hset4 a1 a2 a3 a4 a5 a6 a12 a13 a14 a15 a16 a17 a18 a19 a20 hbx4 hown4 hB4 hfr4 hz l4 hlen hxs1 hw4 hi1 hm1 z2
    go_wp2_with fail
    refine cD.mono ?_
    rintro e w5 ⟨rfl, d1, d2, d3⟩
    clear cD
    obtain ⟨f1, f2, f3, f4⟩ := HF.out
    obtain ⟨a1, a2, a3, a4, a5, a6, -, a12, a13, a14, a15, a16, a17, a18, a19, a20⟩ := H.out
    have hbx5 : Has w5 g #[.slice (some ⟨gr, 0, none⟩) m cap] 70 := (d2 g a19).trans f1
    have hbx6 : Has (w5.setCell ⟨g, 0, none⟩ (.slice (some ⟨gr, 0, none⟩) m1 cap)) g #[.slice (some ⟨gr, 0, none⟩) m1 cap] 70 := hbx5.set 0 _
    have hset6 : ∀ b, b ≠ g → (w5.setCell ⟨g, 0, none⟩ (.slice (some ⟨gr, 0, none⟩) m1 cap)).heap[b]? = w5.heap[b]? := fun b hb => Below.heap_setCell _ _ _ b (by exact hb)
    have E : Aside (TOOK w (w5.setCell ⟨g, 0, none⟩ (.slice (some ⟨gr, 0, none⟩) m1 cap)) B g gr cap i m gh ch n1 lb xs1 (ys.take (rk * 32) ++ ys.drop (r1 * 32))) := by
      have hB6 : Below B w (w5.setCell ⟨g, 0, none⟩ (.slice (some ⟨gr, 0, none⟩) m1 cap)) := (f3.trans d3).setCell (p := ⟨g, 0, none⟩) a15 _
      refine ⟨.inr ⟨HI.out.2.2, by rw [HI.out.2.1]; exact hbx6, ?_⟩, own_here (own_here f2 (d2 gh a18)) (hset6 gh (fun e => a20 e.symm)), hB6.size, hB6, fun b h1 h2 h3 h4 => (hset6 b h2).trans ((d2 b h3).trans (f4 b h1 h2 h3 h4))⟩
      rw [HI.out.2.1, HI.out.1]
      exact own_here d1 (hset6 gr (fun e => a19 e.symm))
    have k1 := hbx5.cell 0
    have k2 := hbx5.frozen 0
    clear f1 f2 f3 f4 a1 a2 a3 a4 a5 a6 a12 a13 a14 a15 a16 a17 a18 a19 a20 d1 d2 d3 hset6 hbx6 hbx5 hwi1 hwi2 hcb z1 hzb
    go_wp2
    go_end0
    rw [HX.out]
    exact ⟨⟨_, rfl⟩, E.out⟩
  · have hzb : ((lb : Int) == 0) = false := by simp; omega
    have E : Aside (TOOK w w4 B g gr cap i m gh ch n1 lb xs1 (ys.take (rk * 32) ++ ys.drop (r1 * 32))) := ⟨.inl ⟨hz, hbx4, hrow4⟩, hown4, hB4.size, hB4, hfr4⟩
    clear c1 c2 c3 c4 c5 c6 c2' hrow4 hset4 a1 a2 a3 a4 a5 a6 a12 a13 a14 a15 a16 a17 a18 a19 a20 hbx4 hown4 hB4 hfr4 hz l4 hlen hxs1 hw4
    go_wp2
    go_end0
    rw [HX.out]
    exact ⟨⟨_, rfl⟩, E.out⟩
end Go.Proofs.Ytkmcmngdainofaa
