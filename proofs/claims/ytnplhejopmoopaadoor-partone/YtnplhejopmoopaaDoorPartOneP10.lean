/- Texts of PartOne, one behind the other: StorePlain, StoreGet. -/
import Derived.Deep.Cut
import Derived.Test.YtnplhejopmoopaaDoorPartOneP9
/- Bits and ranks; rows and what they hold. -/
namespace Go.Proofs.YtnplhejopmoopaaDoor.HX
open Go.RowKit
set_option maxRecDepth 100000

/-- how many of the first k bits are set. -/
def RK (X : Nat) : Nat → Nat
  | 0 => 0
  | k + 1 => RK X k + if X.testBit k then 1 else 0
theorem RK_shift (X : Nat) : ∀ k, RK X (k + 1) = (if X.testBit 0 then 1 else 0) + RK (X / 2) k
  | 0 => by simp [RK]
  | k + 1 => by rw [RK, RK_shift X k, RK, Nat.testBit_succ]; omega
theorem DSUM_RK : ∀ (n X : Nat), DSUM 1 n X = RK X n
  | 0, _ => rfl
  | n + 1, X => by
    rw [DSUM, RK_shift, DSUM_RK n, Nat.pow_one]
    congr 1
    rw [Nat.testBit_zero]
    rcases Nat.mod_two_eq_zero_or_one X with h | h <;> simp [h]
theorem POP_RK (X : Nat) : POP X = RK X 64 := DSUM_RK 64 X
theorem RK_congr {X Y : Nat} : ∀ {k : Nat}, (∀ i, i < k → X.testBit i = Y.testBit i) → RK X k = RK Y k
  | 0, _ => rfl
  | k + 1, h => by rw [RK, RK, RK_congr (fun i hi => h i (by omega)), h k (by omega)]
theorem RK_mono (X : Nat) {i j : Nat} (h : i ≤ j) : RK X i ≤ RK X j := by
  induction h with
  | refl => exact Nat.le_refl _
  | step _ ih => rw [RK]; omega
theorem RK_none {X : Nat} {k : Nat} : ∀ {j : Nat}, k ≤ j → (∀ i, k ≤ i → i < j → X.testBit i = false) → RK X j = RK X k
  | 0, h, _ => by
    have e : k = 0 := by omega
    subst e
    rfl
  | j + 1, h, hi => by
    by_cases e : k = j + 1
    · subst e; rfl
    · rw [RK, RK_none (j := j) (by omega) (fun i a b => hi i a (by omega)), hi j (by omega) (by omega)]
      simp
theorem POP_mod {X k : Nat} (hk : k ≤ 64) : POP (X % 2 ^ k) = RK X k := by
  rw [POP_RK, RK_none (k := k) hk (fun i a _ => by rw [Nat.testBit_mod_two_pow]; simp; omega)]
  exact RK_congr fun i hi => by rw [Nat.testBit_mod_two_pow]; simp [hi]
theorem RK_lt {X k : Nat} (hk : k < 64) (h : X.testBit k = true) : RK X k < POP X := by
  rw [POP_RK]
  have := RK_mono X (i := k + 1) (j := 64) (by omega)
  rw [RK, h] at this
  simp at this
  omega
theorem bit_zero {X k : Nat} : X &&& 2 ^ k = 0 ↔ X.testBit k = false := by
  constructor
  · intro h
    have := congrArg (fun x => x.testBit k) h
    simpa [Nat.testBit_and] using this
  · intro h
    apply Nat.eq_of_testBit_eq
    intro i
    rw [Nat.testBit_and, Nat.testBit_two_pow]
    by_cases e : k = i
    · subst e; simp [h]
    · simp [e]
/-- a row: its number, its bits, the block and the room of its hashes, and these. -/
structure ROW where
  num : Nat
  live : Nat
  gh : Nat
  ch : Nat
  hs : List (Nat → Nat)
/-- the hashes as a slice. -/
abbrev ROW.v (r : ROW) : Value := .slice (some ⟨r.gh, 0, none⟩) r.hs.length r.ch
def ROW.rw (r : ROW) : RW := ⟨r.num, r.live, some ⟨r.gh, 0, none⟩, r.hs.length, r.ch⟩
/-- hashes as cells. -/
def HL (hs : List (Nat → Nat)) : List Value := hs.flatMap fun h => ULIST .u8 32 h
/-- rows as cells. -/
def RC (rs : List ROW) : List Value := rs.flatMap fun r => [.int .u64 (r.num : Int), .int .u64 (r.live : Int), r.v]
theorem HL_get : ∀ (hs : List (Nat → Nat)) (k i : Nat) (h : Nat → Nat), hs[k]? = some h → i < 32 → (HL hs)[k * 32 + i]? = some (.int .u8 ((h i : Nat) : Int))
  | [], _, _, _, e, _ => by simp at e
  | x :: hs, 0, i, h, e, hi => by
    simp only [List.getElem?_cons_zero, Option.some.injEq] at e
    subst e
    unfold HL
    rw [List.flatMap_cons, List.getElem?_append_left (by rw [ULIST_length]; omega), Nat.zero_mul, Nat.zero_add, ULIST_get _ _ _ _ hi]
  | x :: hs, k + 1, i, h, e, hi => by
    simp only [List.getElem?_cons_succ] at e
    have ih := HL_get hs k i h e hi
    unfold HL at ih ⊢
    rw [List.flatMap_cons, List.getElem?_append_right (by rw [ULIST_length]; omega), ULIST_length, show (k + 1) * 32 + i - 32 = k * 32 + i by omega]
    exact ih
theorem RC_length : ∀ rs : List ROW, (RC rs).length = rs.length * 3
  | [] => rfl
  | r :: rs => by
    have ih := RC_length rs
    unfold RC at ih ⊢
    rw [List.flatMap_cons, List.length_append, ih, List.length_cons]
    simp
    omega
theorem RC_get : ∀ (rs : List ROW) (k i : Nat) (r : ROW), rs[k]? = some r → i < 3 → (RC rs)[k * 3 + i]? = [.int .u64 (r.num : Int), .int .u64 (r.live : Int), r.v][i]?
  | [], _, _, _, e, _ => by simp at e
  | x :: rs, 0, i, r, e, hi => by
    simp only [List.getElem?_cons_zero, Option.some.injEq] at e
    subst e
    unfold RC
    rw [List.flatMap_cons, List.getElem?_append_left (by simp; omega), Nat.zero_mul, Nat.zero_add]
  | x :: rs, k + 1, i, r, e, hi => by
    simp only [List.getElem?_cons_succ] at e
    have ih := RC_get rs k i r e hi
    unfold RC at ih ⊢
    rw [List.flatMap_cons, List.getElem?_append_right (by simp; omega)]
    simp only [List.length_cons, List.length_nil]
    rw [show (k + 1) * 3 + i - (0 + 1 + 1 + 1) = k * 3 + i by omega]
    exact ih
/-- a chunk in block g, its rows and their hashes in blocks from B on. -/
structure CHUNK (w : World) (B g : Nat) (rs : List ROW) : Prop where
  box : ∃ v, Has w g #[v] 115 ∧ w.ownsRow B 124 3 v rs.length (RC rs)
  far : B ≤ g
  few : rs.length < 2 ^ 40
  rise : ∀ (i j : Nat) (r s : ROW), i < j → rs[i]? = some r → rs[j]? = some s → r.num < s.num
  row : ∀ r ∈ rs, r.num < 2 ^ 58 ∧ r.live < 2 ^ 64 ∧ r.hs.length = POP r.live ∧ (∀ h ∈ r.hs, ∀ i, h i < 256) ∧ w.ownsRow B 27 32 r.v r.hs.length (HL r.hs)
  apart : ∀ (i j : Nat) (r s : ROW), i ≠ j → rs[i]? = some r → rs[j]? = some s → r.gh ≠ s.gh
  lives : ∀ r ∈ rs, ∃ j, j < 64 ∧ r.live.testBit j = true
/-- what a chunk has at the place p. -/
def LOOK (rs : List ROW) (p : Nat) : Option (Nat → Nat) := (rs.find? fun r => r.num == p / 64).bind fun r => if r.live.testBit (p % 64) then r.hs[RK r.live (p % 64)]? else none
theorem LOOK_none {rs : List ROW} {p : Nat} (h : ∀ r ∈ rs, r.num ≠ p / 64) : LOOK rs p = none := by
  unfold LOOK
  rw [List.find?_eq_none.2 (fun r hr => by simpa using h r hr)]
  rfl
theorem LOOK_at {rs : List ROW} {p i : Nat} {r : ROW} (hr : rs[i]? = some r) (hn : r.num = p / 64) (hd : ∀ (i j : Nat) (r s : ROW), i < j → rs[i]? = some r → rs[j]? = some s → r.num < s.num) : LOOK rs p = if r.live.testBit (p % 64) then r.hs[RK r.live (p % 64)]? else none := by
  have hf : (rs.find? fun r => r.num == p / 64) = some r := by
    cases hc : rs.find? fun r => r.num == p / 64 with
    | none => exact absurd (List.find?_eq_none.1 hc r (List.mem_of_getElem? hr)) (by simp [hn])
    | some s =>
      have hs := List.find?_some hc
      obtain ⟨j, hj⟩ := List.getElem?_of_mem (List.mem_of_find?_eq_some hc)
      have hs' : s.num = p / 64 := by simpa using hs
      rcases Nat.lt_trichotomy i j with h | h | h
      · have := hd i j r s h hr hj; omega
      · subst h; rw [hr] at hj; exact hj.symm
      · have := hd j i s r h hj hr; omega
  unfold LOOK
  rw [hf]
  rfl
theorem RW_get {rs : List ROW} {i : Nat} {q : RW} (h : (rs.map ROW.rw)[i]? = some q) : ∃ r, rs[i]? = some r ∧ q = r.rw := by
  rw [List.getElem?_map] at h
  obtain ⟨r, hr, rfl⟩ := Option.map_eq_some_iff.1 h
  exact ⟨r, hr, rfl⟩
theorem CHUNK.rises {w : World} {B g : Nat} {rs : List ROW} (h : CHUNK w B g rs) : Rises (rs.map ROW.rw) := fun i j q s hij hq hs => by
  obtain ⟨r, hr, rfl⟩ := RW_get hq
  obtain ⟨t, ht, rfl⟩ := RW_get hs
  exact h.rise i j r t hij hr ht
theorem CHUNK.lies {w : World} {B g : Nat} {rs : List ROW} (h : CHUNK w B g rs) : ∃ a cap, Has w g #[.slice a rs.length cap] 115 ∧ RowsLie w a (rs.map ROW.rw) ∧ (0 < rs.length → ∃ gr, a = some ⟨gr, 0, none⟩ ∧ B ≤ gr ∧ gr < w.heap.size) ∧ w.ownsRow B 124 3 (.slice a rs.length cap) rs.length (RC rs) := by
  obtain ⟨v, hv, ho⟩ := h.box
  rcases ho.2 with ⟨rfl, h0⟩ | ⟨gr, cap, cur, rfl, hb, hg, hle, hm, hsz, hx⟩
  · have hr : rs = [] := List.eq_nil_of_length_eq_zero h0
    subst hr
    exact ⟨none, 0, hv, fun h => by simp at h, fun h => by simp at h, ho⟩
  · have hlt : gr < w.heap.size := (Array.getElem?_eq_some_iff.1 hg).1
    refine ⟨_, cap, hv, fun _ => ⟨gr, 0, rfl, hlt, fun j q hq => ?_⟩, fun _ => ⟨gr, rfl, hb, hlt⟩, ho⟩
    obtain ⟨r, hr, rfl⟩ := RW_get hq
    have hj : j < rs.length := (List.getElem?_eq_some_iff.1 hr).1
    have g0 := RC_get rs j 0 r hr (by decide)
    have g1 := RC_get rs j 1 r hr (by decide)
    have g2 := RC_get rs j 2 r hr (by decide)
    refine ⟨?_, ?_, ?_⟩
    · rw [Nat.zero_add, ho.cellAt (j * 3) (by omega)]
      exact g0
    · rw [Nat.zero_add, ho.cellAt (j * 3 + 1) (by omega)]
      exact g1
    · rw [Nat.zero_add, ho.cellAt (j * 3 + 2) (by omega)]
      exact g2
theorem CHUNK.hash {w : World} {B g k : Nat} {rs : List ROW} {r : ROW} {h : Nat → Nat} (hC : CHUNK w B g rs) (hr : r ∈ rs) (hh : r.hs[k]? = some h) : w.rangeAt r.gh (k * 32) (ULIST .u8 32 h) := fun j v hv => by
  have hj : j < 32 := by have := (List.getElem?_eq_some_iff.1 hv).1; rw [ULIST_length] at this; exact this
  rw [ULIST_get _ _ _ _ hj] at hv
  have hk : k < r.hs.length := (List.getElem?_eq_some_iff.1 hh).1
  rw [(hC.row r hr).2.2.2.2.cellAt (k * 32 + j) (by omega), HL_get r.hs k j h hh hj, hv]
end Go.Proofs.YtnplhejopmoopaaDoor.HX

/- What chunk.get answers. -/
namespace Go.Proofs.YtnplhejopmoopaaDoor.HX
open Go.RowKit
set_option maxRecDepth 100000

theorem results_hash {fn : Func} {p q : Tmp} {ty : TypeId} (h : fn.results = #[.cell p ty, .tmp q]) (tmps : Array Value) (w : World) (g : Nat) (t : TypeId) (cs : Array Value) (fr : Nat × Nat) (n : Nat) (e : TypeId)
    (hp : tmps.getD p undef = .pointer (some ⟨g, 0, none⟩)) (hg : w.heap[g]? = some (.cells cs t fr)) (v : Value) (hq : tmps.getD q undef = v)
    (hu : Tryd.prog.underlying ty = some (.array n e)) (hi : (Tryd.prog.info? ty).map (·.size) = some cs.size) :
    (results fn tmps).run Tryd.prog w = .ok (.tuple #[.agg cs, v]) w := by
  have hp' : tmps[p]?.getD undef = .pointer (some ⟨g, 0, none⟩) := by simpa using hp
  have hq' : tmps[q]?.getD undef = v := by simpa using hq
  simp [results, h, hp', hq', asAddr, run_loadVar_row w g t ty cs fr (.array n e) hg hu rfl hi]
/-- a hash, or noughts. -/
def HASH0 : Option (Nat → Nat) → Nat → Nat
  | none => fun _ => 0
  | some h => h
theorem zeroHash : ∀ w, (zeroValue 27).run Tryd.prog w = .ok (.agg (UARR .u8 32 fun _ => 0)) w := (zero_of_info (P := Tryd.prog) (n := 32) (by kernel_rfl)).1
theorem buildHash (w : World) : (Instr.build 27 #[]).run Tryd.prog w = .ok (.agg (UARR .u8 32 fun _ => 0)) w := run_build (P := Tryd.prog) w 27 #[] _ (by kernel_rfl)
theorem store_cells32 {w : World} {g : Nat} {f : Nat → Nat} (h : Has w g (UARR .u8 32 f) 27) (F : Nat → Nat) : (storeCells ⟨g, 0, none⟩ (UARR .u8 32 F).toList 0).run Tryd.prog w = .ok () (w.setRow g (UARR .u8 32 F)) := by
  have := run_storeCells_from (P := Tryd.prog) g 27 (UARR .u8 32 F).toList 0 _ w h (by rw [UARR_size, Array.length_toList, UARR_size]) (fun v hv => by have := Array.all_eq_true_iff_forall_mem.1 (UARR_one .u8 32 F) v (by simpa using hv); exact this)
  simpa using this
set_option maxHeartbeats 2000000 in
theorem chunkget_ok (B g p : Nat) (rs : List ROW) (hp : p < 2 ^ 64) (w : World) (hC : CHUNK w B g rs) : Calls Tryd.prog 60 #[.pointer (some ⟨g, 0, none⟩), .int .u64 (p : Int)] w fun e w' =>
    e = .returned (.tuple #[.agg (UARR .u8 32 (HASH0 (LOOK rs p))), .bool (LOOK rs p).isSome]) ∧ Below w.heap.size w w' := by
  obtain ⟨a, cap, hbx, hlie, hfrm, ho⟩ := hC.lies
  have hz := zeroHash
  have hbn := buildHash
  obtain ⟨w0, hw0⟩ : ∃ w0, w.alloc (.cells (UARR .u8 32 fun _ => 0) 27) = w0 := ⟨_, rfl⟩
  have hb0 : Below w.heap.size w w0 := by rw [← hw0]; exact (Below.refl _ _).alloc (Nat.le_refl _) _
  have h40 : Has w0 w.heap.size (UARR .u8 32 fun _ => 0) 27 := by rw [← hw0]; exact Has.new w _ _
  have hlie0 : RowsLie w0 a (rs.map ROW.rw) := fun h => by
    obtain ⟨g1, o, e, hl, hc⟩ := hlie h
    exact ⟨g1, o, e, by have := hb0.size; omega, fun j r hr => by
      obtain ⟨c1, c2, c3⟩ := hc j r hr
      exact ⟨(hb0.cell (by exact hl)).trans c1, (hb0.cell (by exact hl)).trans c2, (hb0.cell (by exact hl)).trans c3⟩⟩
  have cf := find_ok g a rs.length cap (rs.map ROW.rw) p (by simp) hC.few hC.rises w0 hlie0 ((hbx.keep hb0).cell 0)
  have H : Aside (CHUNK w B g rs ∧ p < 2 ^ 64 ∧ Has w g #[.slice a rs.length cap] 115 ∧ RowsLie w a (rs.map ROW.rw) ∧ (0 < rs.length → ∃ gr, a = some ⟨gr, 0, none⟩ ∧ B ≤ gr ∧ gr < w.heap.size)) := ⟨hC, hp, hbx, hlie, hfrm⟩
  clear hC hp hbx hlie hfrm ho hlie0
  go_enter Tryd.func60, Tryd.ntmps60
  go_wp2_with fail
  refine cf.mono ?_
  rintro e w1 ⟨i, b, rfl, hst, hbi, hb1⟩
  clear cf
  have hb1' : Below w.heap.size w w1 := hb0.trans (hb1.mono hb0.size)
  have h41 := h40.keep hb1
  cases b with
  | false =>
    have hno : LOOK rs p = none := LOOK_none fun r hr e => by
      obtain ⟨j, hj⟩ := List.getElem?_of_mem hr
      have hq : (rs.map ROW.rw)[j]? = some r.rw := by rw [List.getElem?_map, hj]; rfl
      have hc := H.out.1.rises
      rcases Nat.lt_trichotomy j i with h | h | h
      · have := hst.2.1 j _ h hq
        have e2 : r.rw.num = p / 64 := e
        omega
      · subst h
        have := hbi.2 ⟨r.rw, hq, e⟩
        cases this
      · have h1 := hst.2.2 j _ (by omega) hq
        have hi : i < (rs.map ROW.rw).length := by have := (List.getElem?_eq_some_iff.1 hq).1; omega
        have h2 := hst.2.2 i _ (Nat.le_refl _) (List.getElem?_eq_getElem hi)
        have h3 := hc i j _ _ h (List.getElem?_eq_getElem hi) hq
        have e2 : r.rw.num = p / 64 := e
        omega
    have E : Aside (LOOK rs p = none) := hno
    clear hno hst hbi
    go_upto_region 2 with fail
    refine get2n _ _ _ _ _ _ _ _ _ _ _ _ _ _ _ _ _ _ _ _ _ _ _ _ _ _ _ _ _ _ _ _ _ _ _ _ _ _ _ _ _ _ _ _ _ w1 g p (fun _ _ _ _ _ h => h) ?_
    rintro _ rfl
    dsimp only
    have h42 : Has w1.drew w.heap.size (UARR .u8 32 fun _ => 0) 27 := h41
    have hstr := store_cells32 h42 (fun _ => 0)
    go_wp2
    refine bodyPost_ret (v := .tuple #[.agg (UARR .u8 32 fun _ => 0), .bool false]) ?_ rfl ⟨by rw [E.out]; rfl, below_row hb1'.drew (Nat.le_refl _) _⟩
    exact results_hash rfl _ _ w.heap.size 27 _ (0, 0) _ _ rfl (h42.row _) _ rfl Tryd.underlying27 (info_HASH _)
  | true =>
    obtain ⟨q, hq, hqn⟩ := hbi.1 rfl
    obtain ⟨r, hr, rfl⟩ := RW_get hq
    have hrm : r ∈ rs := List.mem_of_getElem? hr
    have hil : i < rs.length := (List.getElem?_eq_some_iff.1 hr).1
    obtain ⟨c1, c2, c3, c4, c5⟩ := H.out
    obtain ⟨gr, rfl, hBr, hgr⟩ := c5 (by omega)
    obtain ⟨g1, o, e1, hg1, hcells⟩ := c4 (by simp; omega)
    cases e1
    obtain ⟨x0, x1, x2⟩ := hcells i _ hq
    rw [Nat.zero_add] at x0 x1 x2
    have hL := LOOK_at hr (show r.num = p / 64 from hqn) c1.rise
    obtain ⟨r1, r2, r3, r4, r5⟩ := c1.row r hrm
    have hpm : p % 64 < 64 := Nat.mod_lt _ (by decide)
    obtain ⟨k, hk⟩ : ∃ k, p % 64 = k := ⟨_, rfl⟩
    rw [hk] at hpm hL
    have hp2 : 2 ^ k < 2 ^ 64 := Nat.pow_lt_pow_right (by decide) hpm
    have cB : ∀ w, Calls Tryd.prog 70 #[.int .u64 (p : Int)] w fun e w' => e = .returned (.int .u64 ((2 ^ k : Nat) : Int)) ∧ w = w' := fun w => by have := bitof_ok p c2 w; rw [hk] at this; exact this
    have hbits : bits .and .u64 (r.live : Int) ((2 ^ k : Nat) : Int) = ((r.live &&& 2 ^ k : Nat) : Int) := and_lit rfl rfl r2 hp2
    have heq : (((r.live &&& 2 ^ k : Nat) : Int) == 0) = decide (r.live &&& 2 ^ k = 0) := by
      by_cases e : r.live &&& 2 ^ k = 0
      · simp [e]
      · have e2 : ((r.live &&& 2 ^ k : Nat) : Int) ≠ 0 := by omega
        simp [e]
    have cRk := fun W (h : W.cell? ⟨gr, i * 3 + 1, none⟩ = some (.int .u64 (r.live : Int))) => rank_ok gr (i * 3) r.live k r2 hpm W h
    rw [POP_mod (by omega)] at cRk
    have y0 : w1.cell? ⟨g, 0, none⟩ = some (.slice (some ⟨gr, 0, none⟩) rs.length cap) := (c3.keep hb1').cell 0
    have y1 : w1.cell? ⟨gr, i * 3 + 1, none⟩ = some (.int .u64 (r.live : Int)) := (hb1'.cell (by exact hgr)).trans x1
    have y2 : w1.cell? ⟨gr, i * 3 + 2, none⟩ = some (.slice (some ⟨r.gh, 0, none⟩) r.hs.length r.ch) := (hb1'.cell (by exact hgr)).trans x2
    have hil' : (i : Int) < (rs.length : Int) := by omega
    obtain ⟨bt, hbt⟩ : ∃ bt, 2 ^ k = bt := ⟨_, rfl⟩
    obtain ⟨lb, hlb⟩ : ∃ lb, r.live &&& 2 ^ k = lb := ⟨_, rfl⟩
    have hzb := bit_zero (X := r.live) (k := k)
    rw [hlb] at hzb hbits heq
    rw [hbt] at cB hbits cRk
    have HH : Aside (CHUNK w B g rs ∧ r ∈ rs ∧ r.hs.length = POP r.live ∧ k < 64 ∧ gr < w.heap.size) := ⟨c1, hrm, r3, hpm, hgr⟩
    have HL : Aside (LOOK rs p = if r.live.testBit k then r.hs[RK r.live k]? else none) := hL
    have HZ : Aside (lb = 0 ↔ r.live.testBit k = false) := hzb
    clear hL hzb hst hbi hq hqn hcells x0 x1 x2 r1 r2 r3 r4 r5 c1 c2 c3 c4 c5 hlb hbt hp2 hpm hk hrm hr
    go_upto_region 2 with fail
    refine get2 _ _ _ _ _ _ _ _ _ _ _ _ _ _ _ _ _ _ _ _ _ _ _ _ _ _ _ _ _ _ _ _ _ _ _ _ _ _ _ _ _ _ _ _ w1 g gr rs.length cap i p r.live bt lb hil' y0 y1 cB hbits heq (fun _ _ _ _ _ h => h) ?_
    rintro w2 ⟨z0, z1, hb2⟩
    dsimp only
    have hb2' : Below w.heap.size w w2 := hb1'.trans (hb2.mono hb1'.size)
    have h42 := h41.keep hb2
    clear hbits heq y0 y1
    by_cases hl0 : lb = 0
    · have E : Aside (LOOK rs p = none) := by rw [HL.out, HZ.out.1 hl0]; rfl
      have hdec : decide (lb = 0) = true := decide_eq_true hl0
      rw [hdec]
      clear hl0 hdec cB cRk
      have hstr := store_cells32 h42 (fun _ => 0)
      go_wp2
      refine bodyPost_ret (v := .tuple #[.agg (UARR .u8 32 fun _ => 0), .bool false]) ?_ rfl ⟨by rw [E.out]; rfl, below_row hb2' (Nat.le_refl _) _⟩
      exact results_hash rfl _ _ w.heap.size 27 _ (0, 0) _ _ rfl (h42.row _) _ rfl Tryd.underlying27 (info_HASH _)
    · have htb : r.live.testBit k = true := by
        cases h : r.live.testBit k
        · exact absurd (HZ.out.2 h) hl0
        · rfl
      have hrl := RK_lt HH.out.2.2.2.1 htb
      rw [← HH.out.2.2.1] at hrl
      obtain ⟨h, hh⟩ : ∃ h, r.hs[RK r.live k]? = some h := ⟨_, List.getElem?_eq_getElem hrl⟩
      have E0 : LOOK rs p = some h := by rw [HL.out, htb, if_pos rfl, hh]
      have E : Aside (LOOK rs p = some h) := E0
      clear E0
      have hdec : decide (lb = 0) = false := decide_eq_false hl0
      rw [hdec]
      have hrg := HH.out.1.hash HH.out.2.1 hh
      have hgh : r.gh < w.heap.size := ((HH.out.1.row r HH.out.2.1).2.2.2.2.lt r.gh rfl).2
      have hrg2 : w2.rangeAt r.gh (RK r.live k * 32) (ULIST .u8 32 h) := fun j v hv => (hb2'.cell (by exact hgh)).trans (hrg j v hv)
      have y22 : w2.cell? ⟨gr, i * 3 + 2, none⟩ = some (.slice (some ⟨r.gh, 0, none⟩) r.hs.length r.ch) := (hb2.cell (by have := hb1'.size; have := HH.out.2.2.2.2; show gr < w1.heap.size; omega)).trans y2
      have hgr := HH.out.2.2.2.2
      have hrl' : ((RK r.live k : Nat) : Int) < ((r.hs.length : Nat) : Int) := by omega
      obtain ⟨rk, hrk⟩ : ∃ rk, RK r.live k = rk := ⟨_, rfl⟩
      rw [hrk] at hrg2 hrl' cRk
      clear hl0 hdec htb hrl hh hrg y2 hrk
      go_upto_region 5 with fail
      refine get5 _ _ _ _ _ _ _ _ _ _ _ _ _ _ _ _ _ _ _ _ _ _ _ _ _ _ _ _ _ _ _ _ _ _ _ _ _ _ _ _ _ _ _ _ _ w2 w.heap.size gr i p r.live bt r.hs.length r.ch r.gh rk w.heap.size h (fun _ => 0) hrl' z1 y22 hrg2 h42 (by omega) (by omega) (Nat.le_refl _) cB cRk (fun _ _ _ _ _ h => h) ?_
      rintro w3 ⟨-, -, -, hb3, z, hz3⟩
      dsimp only
      go_wp2
      refine bodyPost_ret (v := .tuple #[.agg (UARR .u8 32 h), .bool true]) ?_ rfl ⟨by rw [E.out]; rfl, below_row (hb2'.trans hb3) (Nat.le_refl _) _⟩
      exact results_hash rfl _ _ w.heap.size 27 _ (0, 0) _ _ rfl (hz3.row _) _ rfl Tryd.underlying27 (info_HASH _)
end Go.Proofs.YtnplhejopmoopaaDoor.HX
