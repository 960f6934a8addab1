/- Two inputs of a step, and two steps, held against each other; how they are built. -/
import Derived.Laws.StructEq
import Derived.Laws.BytesArg
import Derived.Lib.Bytes
import Derived.Test.YtihdhaamphdljaaDoorHashEq
import Derived.Test.YtihdhaamphdljaaDoorHashRefBlocks
namespace Go.Proofs.YtihdhaamphdljaaDoor
open Go.RowKit
set_option maxRecDepth 100000

theorem UARR_extract (k : IntKind) (n o m : Nat) (f : Nat → Nat) (h : o + m ≤ n) : (UARR k n f).extract o (o + m) = UARR k m fun i => f (o + i) := by
  apply Array.ext_getElem?
  intro i
  rw [Array.getElem?_extract]
  by_cases hi : i < m
  · rw [if_pos (by rw [UARR_size]; omega), UARR_get _ _ _ _ hi, UARR_get _ _ _ _ (by omega)]
  · rw [if_neg (by omega), Array.getElem?_eq_none (by rw [UARR_size]; omega)]
theorem equal_bytes (d n : Nat) (t : TypeId) (hu : Tryd.prog.underlying t = some (.array n 5)) (F G : Nat → Nat) (w : World) : (Op.equalIn (d + 2) t (.agg (UARR .u8 n F)) (.agg (UARR .u8 n G))).run Tryd.prog w = .ok ((List.range n).all fun i => F i == G i) w := by
  obtain ⟨i8, hi, _⟩ := Option.map_eq_some_iff.1 info_u8
  rw [run_equalIn_array (P := Tryd.prog) w (d + 1) (UARR .u8 n F) (UARR .u8 n G) hu hi]
  have hc : Tryd.prog.cellsOf 5 = 1 := by kernel_rfl
  rw [hc]
  exact items_u8 d n F G w _ (fun i hi => by simpa using hi)
theorem part_bytes (t : TypeId) (n o m : Nat) (F : Nat → Nat) (w : World) (ha : (isAgg t).run Tryd.prog w = .ok true w) (hs : (Go.sizeOf t).run Tryd.prog w = .ok m w) (h : o + m ≤ n) : (part t (UARR .u8 n F) o).run Tryd.prog w = .ok (.agg (UARR .u8 m fun i => F (o + i))) w := by
  unfold part
  simp [ha, hs, UARR_extract _ _ _ _ _ h]
theorem all_split (a b : Nat) (p : Nat → Bool) : (List.range (a + b)).all p = ((List.range a).all p && (List.range b).all fun i => p (a + i)) := by
  rw [List.range_add, List.all_append, List.all_map]
  rfl
theorem agg_hash (w : World) : (isAgg 35).run Tryd.prog w = .ok true w := by simp [go_sem]
theorem agg_block (w : World) : (isAgg 48).run Tryd.prog w = .ok true w := by simp [go_sem]
theorem size_hash (w : World) : (Go.sizeOf 35).run Tryd.prog w = .ok 32 w := by simp [go_sem]
theorem size_block (w : World) : (Go.sizeOf 48).run Tryd.prog w = .ok 64 w := by simp [go_sem]
theorem eq_fields (d n : Nat) (F G : Nat → Nat) (w : World) : ∀ (fs : List Field) (ps : List (TypeId × Nat × Nat)), fs.map (fun f => (f.name == "_", f.type, f.offset)) = ps.map (fun p => (false, p.1, p.2.1)) →
    (∀ p ∈ ps, (isAgg p.1).run Tryd.prog w = .ok true w ∧ (Go.sizeOf p.1).run Tryd.prog w = .ok p.2.2 w ∧ Tryd.prog.underlying p.1 = some (.array p.2.2 5) ∧ p.2.1 + p.2.2 ≤ n) →
    (Op.eqFields (d + 2) (UARR .u8 n F) (UARR .u8 n G) fs).run Tryd.prog w = .ok (ps.all fun p => (List.range p.2.2).all fun i => F (p.2.1 + i) == G (p.2.1 + i)) w
  | [], [], _, _ => by simp [Op.eqFields]
  | f :: fs, p :: ps, h, hp => by
    simp only [List.map_cons, List.cons.injEq, Prod.mk.injEq] at h
    obtain ⟨⟨h1, h2, h3⟩, h4⟩ := h
    obtain ⟨ha, hs, hu, hle⟩ := hp p (by simp)
    have ih := eq_fields d n F G w fs ps h4 (fun q hq => hp q (by simp [hq]))
    have hn : f.name ≠ "_" := by simpa using h1
    have q1 := part_bytes p.1 n p.2.1 p.2.2 F w ha hs hle
    have q2 := part_bytes p.1 n p.2.1 p.2.2 G w ha hs hle
    have q3 := equal_bytes d p.2.2 p.1 hu (fun i => F (p.2.1 + i)) (fun i => G (p.2.1 + i)) w
    rw [Op.eqFields, if_pos hn, h2, h3]
    simp only [Sem.run_bind, q1, q2, q3, Result.andThen_ok]
    cases hb : (List.range p.2.2).all fun i => F (p.2.1 + i) == G (p.2.1 + i)
    · simp [hb]
    · simp only [Bool.not_true, Bool.false_eq_true, if_false, ih, List.all_cons, hb, Bool.true_and]
  | [], _ :: _, h, _ => by simp at h
  | _ :: _, [], h, _ => by simp at h
/-- a state, and a block behind it. -/
def INP (s b : Nat → Nat) (i : Nat) : Nat := if i < 32 then s i else b (i - 32)
/-- two states, and two blocks behind them. -/
def STEPN (s t b c : Nat → Nat) (i : Nat) : Nat := if i < 32 then s i else if i < 64 then t (i - 32) else if i < 128 then b (i - 64) else c (i - 128)
theorem put_part (n o m : Nat) (f s : Nat → Nat) : ((UARR .u8 m s).zipIdx.foldl (fun cs (x : Value × Nat) => cs.setIfInBounds (o + x.2) x.1) (UARR .u8 n f)) = UARR .u8 n fun j => if o ≤ j ∧ j < o + m then s (j - o) else f j := by
  have h := Great.foldl_set o (UARR .u8 m s).toList 0 (UARR .u8 n f)
  rw [show ((UARR .u8 m s).zipIdx.foldl (fun cs (x : Value × Nat) => cs.setIfInBounds (o + x.2) x.1) (UARR .u8 n f)) = ((UARR .u8 m s).toList.zipIdx 0).foldl (fun cs (x : Value × Nat) => cs.setIfInBounds (o + x.2) x.1) (UARR .u8 n f) by rw [← Array.foldl_toList]; simp]
  apply Array.ext_getElem?
  intro k
  rw [h.2 k]
  have hl : (UARR .u8 m s).toList.length = m := by rw [Array.length_toList, UARR_size]
  rw [hl, UARR_size, Nat.add_zero]
  by_cases hk : k < n
  · rw [UARR_get _ _ _ _ hk, UARR_get _ _ _ _ hk]
    by_cases hi : o ≤ k ∧ k < o + m
    · rw [if_pos ⟨hi.1, hi.2, hk⟩, if_pos hi, Array.getElem?_toList, UARR_get _ _ _ _ (by omega)]
    · rw [if_neg (by omega), if_neg hi]
  · rw [if_neg (by omega), Array.getElem?_eq_none (by rw [UARR_size]; omega), Array.getElem?_eq_none (by rw [UARR_size]; omega)]
theorem fill_part (place : Nat → Option (Nat × Nat)) (n i o m : Nat) (f s : Nat → Nat) (rest : List (Nat × Value)) (hp : place i = some (o, m)) (h : o + m ≤ n) :
    Instr.fill place (UARR .u8 n f) ((i, .agg (UARR .u8 m s)) :: rest) = Instr.fill place (UARR .u8 n fun j => if o ≤ j ∧ j < o + m then s (j - o) else f j) rest := by
  rw [Instr.fill, hp]
  simp only [Value.cells, UARR_size]
  rw [if_neg (by simp; omega), put_part]
theorem bytes_string {w : World} {a : Option Addr} {n : Nat} {l : List Nat} (h : Text w a n l) (c : Nat) : (convert 23 9 (.slice a n c)).run Tryd.prog w = .ok (.string (strOfNums (INTS l))) w := by
  rcases Nat.eq_zero_or_pos n with hn | hn
  · subst hn
    obtain rfl : l = [] := List.eq_nil_of_length_eq_zero h.1
    rw [run_convert_bytes_string w 23 9 5 _ 0 c Tryd.underlying23 Tryd.underlying5 Tryd.underlying9]
    cases a <;> simp [Conv.bytesToString, loadCells]
    all_goals rfl
  · obtain ⟨b, o, rfl, -, hc⟩ := h.2.1 hn
    exact run_convert_bytes_arg (P := Tryd.prog) w 23 5 Tryd.underlying23 Tryd.underlying5 b o n c (INTS l) (by simp [INTS, h.1]) (fun i hi => by rw [hc i hi]; simp [INTS, List.getD_eq_getElem?_getD]; cases l[i]? <;> rfl) 9 Tryd.underlying9
theorem nums_same {l k : List Nat} (hl : Small8 l) (hk : Small8 k) : ((strOfNums (INTS l)).toList == (strOfNums (INTS k)).toList) = decide (l = k) := by
  rw [Lib.strOfNums_toList, Lib.strOfNums_toList]
  have key : ∀ (l k : List Nat), Small8 l → Small8 k → Lib.bytesOf (INTS l) = Lib.bytesOf (INTS k) → l = k := by
    intro l
    induction l with
    | nil => intro k _ _ h; cases k with | nil => rfl | cons y k => simp [Lib.bytesOf, INTS] at h
    | cons x l ih =>
      intro k h1 h2 h
      cases k with
      | nil => simp [Lib.bytesOf, INTS] at h
      | cons y k =>
        simp only [Lib.bytesOf, INTS, List.map_cons, List.cons.injEq] at h
        have hx := h1 x (by simp)
        have hy := h2 y (by simp)
        have e : x = y := by
          have := congrArg UInt8.toNat h.1
          simp at this
          omega
        rw [e, ih k (fun z hz => h1 z (by simp [hz])) (fun z hz => h2 z (by simp [hz])) h.2]
  by_cases e : l = k
  · subst e; simp
  · have : Lib.bytesOf (INTS l) ≠ Lib.bytesOf (INTS k) := fun h => e (key l k hl hk h)
    simp [e, this]
theorem bytesequal_ok (a : Option Addr) (n c : Nat) (l : List Nat) (b : Option Addr) (m c' : Nat) (k : List Nat) (w : World) (h1 : Text w a n l) (h2 : Text w b m k) : Calls Tryd.prog 27 #[.slice a n c, .slice b m c'] w fun e w' => e = .returned (.bool (decide (l = k))) ∧ w = w' := by
  have q1 := bytes_string h1 c
  have q2 := bytes_string h2 c'
  have q3 := nums_same h1.2.2 h2.2.2
  clear h1 h2
  generalize strOfNums (INTS l) = S at *
  generalize strOfNums (INTS k) = T at *
  go_enter Tryd.func27, Tryd.ntmps27
  go_wp2
  go_ret
  exact ⟨rfl, rfl⟩
end Go.Proofs.YtihdhaamphdljaaDoor
