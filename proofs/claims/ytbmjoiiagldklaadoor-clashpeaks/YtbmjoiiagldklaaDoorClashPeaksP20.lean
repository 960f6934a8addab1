/- Texts of ClashPeaks, one behind the other: HashGiven, HashWidthsWalk, ClashTexts, HashStepEq, VerifyCount, VerifyUnder, VerifyRooted, ClashTake. -/
import Derived.Laws.StructEq
import Derived.Laws.BytesArg
import Derived.Lib.Bytes
import Derived.Test.YtbmjoiiagldklaaDoorClashPeaksP12
import Derived.Test.YtbmjoiiagldklaaDoorClashPeaksP13
import Derived.Test.YtbmjoiiagldklaaDoorClashPeaksP14
import Derived.Test.YtbmjoiiagldklaaDoorClashPeaksP15
import Derived.Test.YtbmjoiiagldklaaDoorClashPeaksP16
import Derived.Test.YtbmjoiiagldklaaDoorClashPeaksP19
/- A list of texts of one's own, each with a mark behind it. -/
namespace Go.Proofs.YtbmjoiiagldklaaDoor.HX
open Go.RowKit
set_option maxRecDepth 100000

/-- one text of the list: its block, its room, what it reads as ahead of the mark. -/
structure GP where
  g : Nat
  c : Nat
  l : List Nat
def GCELLS (gs : List GP) : List Value := gs.map fun p => .slice (some ⟨p.g, 0, none⟩) p.l.length p.c
/-- the texts, with the mark behind each. -/
structure GIVEN (w : World) (B : Nat) (s : Value) (gs : List GP) : Prop where
  own : w.ownsRow B 30 1 s gs.length (GCELLS gs)
  row : ∀ (i : Nat) (p : GP), gs[i]? = some p → w.ownsRow B 5 1 (.slice (some ⟨p.g, 0, none⟩) (p.l.length + 1) p.c) (p.l.length + 1) (BY (p.l ++ [171]))
  far : ∀ (i : Nat) (p : GP), gs[i]? = some p → s.ownBlock ≠ some p.g
  apart : ∀ (i j : Nat) (p q : GP), gs[i]? = some p → gs[j]? = some q → i ≠ j → p.g ≠ q.g
  small : ∀ (i : Nat) (p : GP), gs[i]? = some p → Small8 p.l
theorem GIVEN.start (w : World) (B : Nat) : GIVEN w B (.slice none 0 0) [] :=
  ⟨⟨rfl, .inl ⟨rfl, rfl⟩⟩, fun i p h => by simp at h, fun i p h => by simp at h, fun i j p q h => by simp at h, fun i p h => by simp at h⟩
theorem GIVEN.keep {w w' : World} {B : Nat} {s : Value} {gs : List GP} (h : GIVEN w B s gs) (hb : Below w.heap.size w w') : GIVEN w' B s gs :=
  ⟨ref_keep h.own hb, fun i p hp => ref_keep (h.row i p hp) hb, h.far, h.apart, h.small⟩
theorem GIVEN.text {w : World} {B : Nat} {s : Value} {gs : List GP} (h : GIVEN w B s gs) {i : Nat} {p : GP} (hp : gs[i]? = some p) : Text w (some ⟨p.g, 0, none⟩) p.l.length p.l ∧ p.l.length + 1 ≤ p.c := by
  have hr := h.row i p hp
  have hb := own_bytes_any (l := INTS (p.l ++ [171])) hr (INTS_bounds (small_snoc (h.small i p hp)))
  have ht := Text.of_bytes hb.1
  refine ⟨⟨rfl, fun hn => ?_, h.small i p hp⟩, hb.2⟩
  obtain ⟨b, off, e, hl, hc⟩ := ht.2.1 (by omega)
  refine ⟨b, off, e, hl, fun j hj => ?_⟩
  rw [hc j (by omega), List.getD_eq_getElem?_getD, List.getElem?_append_left hj, ← List.getD_eq_getElem?_getD]
theorem BY_set (l : List Nat) (k x : Nat) : BY (l.set k x) = (BY l).set k (.int .u8 (x : Int)) := by simp [BY, CELLS, INTS, List.map_set]
theorem GCELLS_put (gs : List GP) (i k x : Nat) (p : GP) (hp : gs[i]? = some p) : GCELLS (gs.set i ⟨p.g, p.c, p.l.set k x⟩) = GCELLS gs := by
  obtain ⟨hi, he⟩ := List.getElem?_eq_some_iff.1 hp
  apply List.ext_getElem?
  intro j
  simp only [GCELLS, List.getElem?_map, List.getElem?_set]
  by_cases e : i = j
  · subst e
    simp [hi, he]
  · simp [e]
/-- a byte of one text is written. -/
theorem GIVEN.put {w : World} {B : Nat} {s : Value} {gs : List GP} (h : GIVEN w B s gs) {i k x : Nat} {p : GP} (hp : gs[i]? = some p) (hk : k < p.l.length) (hx : x < 256) :
    GIVEN (w.setCell ⟨p.g, k, none⟩ (.int .u8 (x : Int))) B s (gs.set i ⟨p.g, p.c, p.l.set k x⟩) ∧ w.frozen? ⟨p.g, k, none⟩ = false ∧ w.cell? ⟨p.g, k, none⟩ = some (.int .u8 ((p.l.getD k 0 : Nat) : Int)) := by
  have hi : i < gs.length := (List.getElem?_eq_some_iff.1 hp).1
  have hr := h.row i p hp
  have hst := hr.stored k (.int .u8 (x : Int))
  have hc : ∀ {j : Nat} {q : GP}, (gs.set i ⟨p.g, p.c, p.l.set k x⟩)[j]? = some q → (j = i ∧ q = ⟨p.g, p.c, p.l.set k x⟩) ∨ (j ≠ i ∧ gs[j]? = some q) := fun {j q} hq => by
    by_cases e : i = j
    · subst e
      rw [List.getElem?_set_self hi] at hq
      exact .inl ⟨rfl, (Option.some.inj hq).symm⟩
    · rw [List.getElem?_set_ne e] at hq
      exact .inr ⟨Ne.symm e, hq⟩
  refine ⟨⟨?_, fun j q hq => ?_, fun j q hq => ?_, fun j m q r hq hr' hne => ?_, fun j q hq => ?_⟩, ?_, ?_⟩
  · rw [GCELLS_put gs i k x p hp, List.length_set]
    exact h.own.kept hst.2 (.inr (h.far i p hp))
  · rcases hc hq with ⟨rfl, rfl⟩ | ⟨hji, hq⟩
    · have e : BY (p.l.set k x ++ [171]) = (BY (p.l ++ [171])).set k (.int .u8 (x : Int)) := by rw [← BY_set, List.set_append_left _ _ hk]
      show (w.setCell ⟨p.g, k, none⟩ (.int .u8 (x : Int))).ownsRow B 5 1 (.slice (some ⟨p.g, 0, none⟩) ((p.l.set k x).length + 1) p.c) ((p.l.set k x).length + 1) (BY (p.l.set k x ++ [171]))
      rw [e, List.length_set]
      exact hst.1
    · exact (h.row j q hq).kept hst.2 (.inr fun e => h.apart j i q p hq hp hji (by simpa [Value.ownBlock] using e))
  · rcases hc hq with ⟨rfl, rfl⟩ | ⟨hji, hq⟩
    · exact h.far j p hp
    · exact h.far j q hq
  · rcases hc hq with ⟨rfl, rfl⟩ | ⟨hji, hq2⟩
    · rcases hc hr' with ⟨rfl, rfl⟩ | ⟨hmi, hr2⟩
      · exact absurd rfl hne
      · exact h.apart _ _ p r hp hr2 hne
    · rcases hc hr' with ⟨rfl, rfl⟩ | ⟨hmi, hr2⟩
      · exact h.apart _ _ q p hq2 hp hne
      · exact h.apart _ _ q r hq2 hr2 hne
  · rcases hc hq with ⟨rfl, rfl⟩ | ⟨hji, hq⟩
    · intro y hy
      rcases List.mem_or_eq_of_mem_set hy with hy | rfl
      · exact h.small j p hp y hy
      · exact hx
    · exact h.small j q hq
  · rcases hr.2 with ⟨h', _⟩ | ⟨g', cap', cur, h', _, hg, _⟩
    · simp at h'
    · simp only [Value.slice.injEq, Option.some.injEq, Addr.mk.injEq, and_true, true_and] at h'
      obtain ⟨rfl, rfl⟩ := h'
      exact frozen_of_row w p.g k cur 5 hg
  · rw [hr.cellAt k (by omega), BY_get _ _ (by rw [List.length_append]; omega), List.getD_eq_getElem?_getD, List.getElem?_append_left hk, ← List.getD_eq_getElem?_getD]
end Go.Proofs.YtbmjoiiagldklaaDoor.HX

/- The law HashWidths returns true. -/
namespace Go.Proofs.YtbmjoiiagldklaaDoor.HX
open Go.RowKit

end Go.Proofs.YtbmjoiiagldklaaDoor.HX

/- A text of one's own with a mark behind it, and whether it is still as it was; the hash of a text that lies in a list of one. -/
namespace Go.Proofs.YtbmjoiiagldklaaDoor.HX
open Go.RowKit
set_option maxRecDepth 100000

/-- a list of one text. -/
theorem parts9 {W : World} {g : Nat} {a : Option Addr} {n c : Nat} {l : List Nat} (hg : Has W g #[.slice a n c] 30) (hT : Text W a n l) (hc : n ≤ c) (hx : ∀ x, a = some x → x.block < W.heap.size) : Parts W (some ⟨g, 0, none⟩) 1 [⟨a, n, c, l⟩] := by
  refine ⟨rfl, fun _ => ⟨g, 0, rfl, hg.lt, fun i p hp => ?_⟩, fun p hp => ?_⟩
  · cases i with
    | zero =>
      simp only [List.getElem?_cons_zero, Option.some.injEq] at hp
      subst hp
      rw [hg.cell]
      rfl
    | succ i => simp at hp
  · simp only [List.mem_singleton] at hp
    subst hp
    exact ⟨hT, hc, hx⟩
theorem sum9 (d : Int) (W : World) (g : Nat) (a : Option Addr) (n c : Nat) (l : List Nat) (hg : Has W g #[.slice a n c] 30) (hT : Text W a n l) (hc : n ≤ c) (hx : ∀ x, a = some x → x.block < W.heap.size) (hn : n < 2 ^ 60) (h : Tabled W) : Calls Tryd.prog 27 #[.int .i64 d, .slice (some ⟨g, 0, none⟩) 1 1] W fun e w' => e = .returned (.agg (UARR .u8 32 (HASHOF d l))) ∧ Below W.heap.size W w' := by
  have e : JOIN [⟨a, n, c, l⟩] = l := by simp [JOIN]
  have k := sum_ok d (some ⟨g, 0, none⟩) 1 1 _ _ (parts9 hg hT hc hx) h (by rw [e, hT.1]; exact hn) (by decide)
  rw [e] at k
  exact k
theorem refsum9 (d : Int) (W : World) (g : Nat) (a : Option Addr) (n c : Nat) (l : List Nat) (hg : Has W g #[.slice a n c] 30) (hT : Text W a n l) (hc : a = none → c = 0) (hn : n < 2 ^ 30) : Calls Tryd.prog 42 #[.int .i64 d, .slice (some ⟨g, 0, none⟩) 1 1] W fun e w' => e = .returned (.agg (UARR .u8 32 (HASHOF d l))) ∧ Below W.heap.size W w' := by
  have e : JOIN [⟨a, n, c, l⟩] = l := by simp [JOIN]
  have k := refsum_ok d (some ⟨g, 0, none⟩) 1 1 [⟨a, n, c, l⟩] W ⟨rfl, fun _ => ⟨g, 0, rfl, hg.lt, fun i p hp => by
    cases i with
    | zero =>
      simp only [List.getElem?_cons_zero, Option.some.injEq] at hp
      subst hp
      rw [hg.cell]
      rfl
    | succ i => simp at hp⟩, fun p hp => by simp only [List.mem_singleton] at hp; subst hp; exact hT⟩ (fun p hp => by simp only [List.mem_singleton] at hp; subst hp; exact hc) (by rw [e, hT.1]; exact hn) (by decide)
  rw [e] at k
  exact k
end Go.Proofs.YtbmjoiiagldklaaDoor.HX

/- Two inputs of a step, and two steps, held against each other; how they are built. -/
namespace Go.Proofs.YtbmjoiiagldklaaDoor.HX
open Go.RowKit
set_option maxRecDepth 100000

theorem bytes_string {w : World} {a : Option Addr} {n : Nat} {l : List Nat} (h : Text w a n l) (c : Nat) : (convert 30 9 (.slice a n c)).run Tryd.prog w = .ok (.string (strOfNums (INTS l))) w := by
  rcases Nat.eq_zero_or_pos n with hn | hn
  · subst hn
    obtain rfl : l = [] := List.eq_nil_of_length_eq_zero h.1
    rw [run_convert_bytes_string w 30 9 5 _ 0 c Tryd.underlying30 Tryd.underlying5 Tryd.underlying9]
    cases a <;> simp [Conv.bytesToString, loadCells]
    all_goals rfl
  · obtain ⟨b, o, rfl, -, hc⟩ := h.2.1 hn
    exact run_convert_bytes_arg (P := Tryd.prog) w 30 5 Tryd.underlying30 Tryd.underlying5 b o n c (INTS l) (by simp [INTS, h.1]) (fun i hi => by rw [hc i hi]; simp [INTS, List.getD_eq_getElem?_getD]; cases l[i]? <;> rfl) 9 Tryd.underlying9
theorem nums_same {l k : List Nat} (hl : Small8 l) (hk : Small8 k) : ((strOfNums (INTS l)).toList == (strOfNums (INTS k)).toList) = decide (l = k) := by
  rw [Lib.strOfNums_toList, Lib.strOfNums_toList]
  have key : ∀ (l k : List Nat), Small8 l → Small8 k → Lib.bytesOf (INTS l) = Lib.bytesOf (INTS k) → l = k := by
    intro l
    induction l with
    | nil => intro k _ _ h; cases k with | nil => rfl | cons y k => simp [Lib.bytesOf, INTS] at h
    | cons x l ih =>
      intro k h1 h2 h
      cases k with
      | nil => simp [Lib.bytesOf, INTS] at h
      | cons y k =>
        simp only [Lib.bytesOf, INTS, List.map_cons, List.cons.injEq] at h
        have hx := h1 x (by simp)
        have hy := h2 y (by simp)
        have e : x = y := by
          have := congrArg UInt8.toNat h.1
          simp at this
          omega
        rw [e, ih k (fun z hz => h1 z (by simp [hz])) (fun z hz => h2 z (by simp [hz])) h.2]
  by_cases e : l = k
  · subst e; simp
  · have : Lib.bytesOf (INTS l) ≠ Lib.bytesOf (INTS k) := fun h => e (key l k hl hk h)
    simp [e, this]
theorem bytesequal_ok (a : Option Addr) (n c : Nat) (l : List Nat) (b : Option Addr) (m c' : Nat) (k : List Nat) (w : World) (h1 : Text w a n l) (h2 : Text w b m k) : Calls Tryd.prog 32 #[.slice a n c, .slice b m c'] w fun e w' => e = .returned (.bool (decide (l = k))) ∧ w = w' := by
  have q1 := bytes_string h1 c
  have q2 := bytes_string h2 c'
  have q3 := nums_same h1.2.2 h2.2.2
  clear h1 h2
  generalize strOfNums (INTS l) = S at *
  generalize strOfNums (INTS k) = T at *
  go_enter Tryd.func32, Tryd.ntmps32
  go_wp2
  go_ret
  exact ⟨rfl, rfl⟩
end Go.Proofs.YtbmjoiiagldklaaDoor.HX

/- What Bag of package mmr answers where the number of peaks is another one. -/
namespace Go.Proofs.YtbmjoiiagldklaaDoor
open Go.RowKit
set_option maxRecDepth 100000

/-- what Bag answers: an error and a hash. -/
def BAGA (d : Int) (n k : Nat) (l : List Int) : Int × List Int :=
  if 4611686018427387904 < n then (30, ZND) else if k ≠ PC n then (70, ZND) else (0, ROOTH d n (FLD d l k))
theorem BAGA_is {d : Int} {n k : Nat} {l : List Int} : IsH (BAGA d n k l).2 := by
  unfold BAGA
  split
  · exact ZND_is
  · split
    · exact ZND_is
    · exact ROOTH_is _ _ _
theorem results_two {fn : Func} {p q : Tmp} {ty : TypeId} (h : fn.results = #[.cell p ty, .tmp q]) (tmps : Array Value) (w : World) (g : Nat) (t : TypeId) (cs : Array Value) (fr : Nat × Nat) (k : Nat) (el : TypeId) (v : Value)
    (hp : tmps.getD p undef = .pointer (some ⟨g, 0, none⟩)) (hv : tmps.getD q undef = v) (hg : w.heap[g]? = some (.cells cs t fr))
    (hu : Tryd.prog.underlying ty = some (.array k el)) (hi : (Tryd.prog.info? ty).map (·.size) = some cs.size) :
    (results fn tmps).run Tryd.prog w = .ok (.tuple #[.agg cs, v]) w := by
  have hp' : tmps[p]?.getD undef = .pointer (some ⟨g, 0, none⟩) := by simpa using hp
  have hv' : tmps[q]?.getD undef = v := by simpa using hv
  simp [results, h, hp', hv', asAddr, run_loadVar_row w g t ty cs fr (.array k el) hg hu rfl hi]
set_option maxHeartbeats 4000000 in
theorem bag_count (d : Int) (n : Nat) (hn : n < 2 ^ 64) (a : Option Addr) (k c : Nat) (w : World) (h1' : ¬ (4611686018427387904 : Int) < (n : Int)) (h2 : ¬ k = POP n) :
    Calls Tryd.prog 21 #[.int .i64 d, .int .u64 (n : Int), .slice a k c] w fun e w' => e = .returned (.tuple #[.agg (CELLS ZND).toArray, .int .i64 70]) ∧ Below w.heap.size w w' := by
  have R0 : Aside (Below w.heap.size w (w.alloc (.cells ZARR 26)) ∧ Has (w.alloc (.cells ZARR 26)) w.heap.size (CELLS ZND).toArray 26) := ⟨(Below.refl _ _).alloc (Nat.le_refl _) _, by rw [ZARR_eq]; exact Has.new _ _ _⟩
  have cO := onescount_ok n hn (w.alloc (.cells ZARR 26))
  generalize POP n = pp at *
  have e2 : ¬ (k : Int) = (pp : Int) := by omega
  clear hn
  go_enter Tryd.func21, Tryd.ntmps21
  go_upto_region 3 with fail
  rw [show (#[.int .u8 0, .int .u8 0, .int .u8 0, .int .u8 0, .int .u8 0, .int .u8 0, .int .u8 0, .int .u8 0, .int .u8 0, .int .u8 0, .int .u8 0, .int .u8 0, .int .u8 0, .int .u8 0, .int .u8 0, .int .u8 0, .int .u8 0, .int .u8 0, .int .u8 0, .int .u8 0, .int .u8 0, .int .u8 0, .int .u8 0, .int .u8 0, .int .u8 0, .int .u8 0, .int .u8 0, .int .u8 0, .int .u8 0, .int .u8 0, .int .u8 0, .int .u8 0] : Array Value) = ZARR from rfl]
  generalize w.alloc (.cells ZARR 26) = W0 at *
  go_wp2_with fail
  refine cO.mono ?_
  rintro e w1 ⟨rfl, rfl⟩
  clear cO
  go_upto_region 4 with fail
  go_wp2_with (rw [show (#[.int .u8 0, .int .u8 0, .int .u8 0, .int .u8 0, .int .u8 0, .int .u8 0, .int .u8 0, .int .u8 0, .int .u8 0, .int .u8 0, .int .u8 0, .int .u8 0, .int .u8 0, .int .u8 0, .int .u8 0, .int .u8 0, .int .u8 0, .int .u8 0, .int .u8 0, .int .u8 0, .int .u8 0, .int .u8 0, .int .u8 0, .int .u8 0, .int .u8 0, .int .u8 0, .int .u8 0, .int .u8 0, .int .u8 0, .int .u8 0, .int .u8 0, .int .u8 0] : Array Value) = (CELLS ZND).toArray from rfl]; refine wpList_store_row rfl 26 (.tmp 6) (.tmp 16) rfl _ _ rfl rfl 26 _ R0.out.2 (info_arr rfl) rfl (cells_one ZND) ?_)
  refine bodyPost_ret (v := .tuple #[.agg (CELLS ZND).toArray, .int .i64 70]) (results_two rfl _ _ w.heap.size 26 _ (0, 0) _ _ _ rfl rfl (Has.row R0.out.2 _) Tryd.underlying26 (info_arr rfl)) rfl ⟨rfl, below_row R0.out.1 (Nat.le_refl _) _⟩
end Go.Proofs.YtbmjoiiagldklaaDoor

/- What Bag of package mmr and under of package verify answer. -/
namespace Go.Proofs.YtbmjoiiagldklaaDoor
open Go.RowKit
set_option maxRecDepth 100000

set_option maxHeartbeats 4000000 in
theorem bag_ok (d : Int) (n : Nat) (hn : n < 2 ^ 64) (a : Option Addr) (k c : Nat) (l : List Int) (w : World) (hF : Flat w a k l) (hX : HX.Tabled w) :
    Calls Tryd.prog 21 #[.int .i64 d, .int .u64 (n : Int), .slice a k c] w fun e w' => e = .returned (.tuple #[.agg (CELLS (BAGA d n k l).2).toArray, .int .i64 (BAGA d n k l).1]) ∧ Below w.heap.size w w' := by
  have R0 : Aside (Below w.heap.size w (w.alloc (.cells ZARR 26)) ∧ Has (w.alloc (.cells ZARR 26)) w.heap.size (CELLS ZND).toArray 26) := ⟨(Below.refl _ _).alloc (Nat.le_refl _) _, by rw [ZARR_eq]; exact Has.new _ _ _⟩
  have HA : Aside (Flat w a k l ∧ HX.Tabled w ∧ n < 2 ^ 64) := ⟨hF, hX, hn⟩
  clear hF hX
  by_cases h1 : 4611686018427387904 < n
  · have e : BAGA d n k l = (30, ZND) := if_pos h1
    rw [e]
    have h1' : (4611686018427387904 : Int) < (n : Int) := by omega
    clear e HA hn
    go_enter Tryd.func21, Tryd.ntmps21
    go_upto_region 2 with fail
    rw [show (#[.int .u8 0, .int .u8 0, .int .u8 0, .int .u8 0, .int .u8 0, .int .u8 0, .int .u8 0, .int .u8 0, .int .u8 0, .int .u8 0, .int .u8 0, .int .u8 0, .int .u8 0, .int .u8 0, .int .u8 0, .int .u8 0, .int .u8 0, .int .u8 0, .int .u8 0, .int .u8 0, .int .u8 0, .int .u8 0, .int .u8 0, .int .u8 0, .int .u8 0, .int .u8 0, .int .u8 0, .int .u8 0, .int .u8 0, .int .u8 0, .int .u8 0, .int .u8 0] : Array Value) = ZARR from rfl]
    generalize w.alloc (.cells ZARR 26) = W0 at *
    go_wp2_with (rw [show (#[.int .u8 0, .int .u8 0, .int .u8 0, .int .u8 0, .int .u8 0, .int .u8 0, .int .u8 0, .int .u8 0, .int .u8 0, .int .u8 0, .int .u8 0, .int .u8 0, .int .u8 0, .int .u8 0, .int .u8 0, .int .u8 0, .int .u8 0, .int .u8 0, .int .u8 0, .int .u8 0, .int .u8 0, .int .u8 0, .int .u8 0, .int .u8 0, .int .u8 0, .int .u8 0, .int .u8 0, .int .u8 0, .int .u8 0, .int .u8 0, .int .u8 0, .int .u8 0] : Array Value) = (CELLS ZND).toArray from rfl]; refine wpList_store_row rfl 26 (.tmp 6) (.tmp 10) rfl _ _ rfl rfl 26 _ R0.out.2 (info_arr rfl) rfl (cells_one ZND) ?_)
    refine bodyPost_ret (v := .tuple #[.agg (CELLS ZND).toArray, .int .i64 30]) (results_two rfl _ _ w.heap.size 26 _ (0, 0) _ _ _ rfl rfl (Has.row R0.out.2 _) Tryd.underlying26 (info_arr rfl)) rfl ⟨rfl, below_row R0.out.1 (Nat.le_refl _) _⟩
  have h1' : ¬ (4611686018427387904 : Int) < (n : Int) := by omega
  have hpop := POP_PC hn
  by_cases h2 : k = PC n
  · have e : BAGA d n k l = (0, ROOTH d n (FLD d l k)) := by unfold BAGA; rw [if_neg h1, if_neg (by simpa using h2)]
    rw [e]
    have hk : Aside (k ≤ 64) := by have := PC_lt_pow 64 n hn; show k ≤ 64; omega
    have e2 : (k : Int) = ((POP n : Nat) : Int) := by rw [hpop, h2]
    clear e h2 hpop h1
    go_enter Tryd.func21, Tryd.ntmps21
    go_upto_region 3 with fail
    rw [show (#[.int .u8 0, .int .u8 0, .int .u8 0, .int .u8 0, .int .u8 0, .int .u8 0, .int .u8 0, .int .u8 0, .int .u8 0, .int .u8 0, .int .u8 0, .int .u8 0, .int .u8 0, .int .u8 0, .int .u8 0, .int .u8 0, .int .u8 0, .int .u8 0, .int .u8 0, .int .u8 0, .int .u8 0, .int .u8 0, .int .u8 0, .int .u8 0, .int .u8 0, .int .u8 0, .int .u8 0, .int .u8 0, .int .u8 0, .int .u8 0, .int .u8 0, .int .u8 0] : Array Value) = ZARR from rfl]
    generalize w.alloc (.cells ZARR 26) = W0 at *
    go_wp2_with fail
    refine (onescount_ok n hn W0).mono ?_
    rintro e w1 ⟨rfl, rfl⟩
    go_wp2_with fail
    refine (folded_ok d a k c (by have := hk.out; omega) l W0 (HA.out.1.below R0.out.1) (HA.out.2.1.below R0.out.1)).mono ?_
    rintro e w1 ⟨rfl, hb⟩
    have R1 : Aside (Below w.heap.size w w1 ∧ Has w1 w.heap.size (CELLS ZND).toArray 26) := ⟨R0.out.1.trans (hb.mono R0.out.1.size), R0.out.2.keep hb⟩
    clear hb R0
    have hI := FLD_is (d := d) HA.out.1.1 HA.out.1.2.2
    go_wp2_with fail
    refine (rooth_ok d n hn (FLD d l k) hI w1 (HA.out.2.1.below R1.out.1)).mono ?_
    rintro e w2 ⟨rfl, hb⟩
    have R2 : Aside (Below w.heap.size w w2 ∧ Has w2 w.heap.size (CELLS ZND).toArray 26) := ⟨R1.out.1.trans (hb.mono R1.out.1.size), R1.out.2.keep hb⟩
    clear hb R1 hI
    have y32 := (ROOTH_is d n (FLD d l k)).1
    generalize hY : ROOTH d n (FLD d l k) = Y at *
    go_wp2_with (refine wpList_store_row rfl 26 (.tmp 6) (.tmp 22) rfl _ _ rfl rfl 26 _ R2.out.2 (info_arr y32) (by simp [CELLS, y32]; rfl) (cells_one Y) ?_)
    refine bodyPost_ret (v := .tuple #[.agg (CELLS Y).toArray, .int .i64 0]) (results_two rfl _ _ w.heap.size 26 _ (0, 0) _ _ _ rfl rfl (Has.row R2.out.2 _) Tryd.underlying26 (info_arr y32)) rfl ⟨by rw [hY], below_row R2.out.1 (Nat.le_refl _) _⟩
  · have e : BAGA d n k l = (70, ZND) := by unfold BAGA; rw [if_neg h1, if_pos h2]
    rw [e]
    exact bag_count d n hn a k c w h1' (by rw [hpop]; exact h2)
end Go.Proofs.YtbmjoiiagldklaaDoor

/- What under of package verify answers. -/
namespace Go.Proofs.YtbmjoiiagldklaaDoor
open Go.RowKit
set_option maxRecDepth 100000

/-- a load of a whole row where a guard is met. -/
theorem load_row_if {ops : Array Oper} {rest : List Oper} {o : Oper} {a : Act} {w : World} {Q : Exit → Act → World → Prop} (hw : Region.wanted o (yielded ops a.tmps) = true) (ty : TypeId) (x : Operand) (ho : o.op = .load ty x) (n : Nat) (e : TypeId)
    (b : Nat) (hx : a.eval x = .pointer (some ⟨b, 0, none⟩)) (t : TypeId) (cs : Array Value) (fr : Nat × Nat) (hb : w.heap[b]? = some (.cells cs t fr)) (hu : Tryd.prog.underlying ty = some (.array n e)) (hi : (Tryd.prog.info? ty).map (·.size) = some cs.size)
    (h : wpList Tryd.prog ops Q rest (a.put o.dst (.agg cs)) w) : wpList Tryd.prog ops Q (o :: rest) a w := by
  simp only [wpList]
  rw [if_pos hw]
  exact .inl (wp_load_row ty x ho b hx t cs fr (.array n e) hb hu rfl hi h)
end Go.Proofs.YtbmjoiiagldklaaDoor

/- clash's take: a text is met. -/
namespace Go.Proofs.YtbmjoiiagldklaaDoor
open Go.RowKit
set_option maxRecDepth 100000

theorem sum9p (d : Int) (W : World) (g : Nat) (a : Option Addr) (n c : Nat) (l : List Nat) (hg : Has W g #[.slice a n c] 30) (hT : HX.Text W a n l) (hc : n ≤ c) (hx : ∀ x, a = some x → x.block < W.heap.size) (hn : n < 2 ^ 60) (h : HX.Tabled W) : Calls Tryd.prog 27 #[.int .i64 d, .slice (some ⟨g, 0, none⟩) 1 1] W fun e w' => e = .returned (.agg (CELLS (HSHT d l)).toArray) ∧ Below W.heap.size W w' :=
  (HX.sum9 d W g a n c l hg hT hc hx hn h).mono fun e w' ⟨h1, h2⟩ => ⟨by rw [h1, uarr_cells]; rfl, h2⟩
theorem met_row {w : World} {b g : Nat} {d : Int} {v2 v3 v4 x y : Value} (h : Has w b #[.int .i64 d, .map (some g), v2, v3, v4] 59) : ((w.setCell ⟨b, 2, none⟩ x).setCell ⟨b, 3, none⟩ y).setCell ⟨b, 4, none⟩ (.bool true) = w.setRow b #[.int .i64 d, .map (some g), x, y, .bool true] := by
  have h1 := h.set 2 x
  have h2 := h1.set 3 y
  rw [setCell_eq_setRow _ b 4 _ _ _ _ h2, setCell_eq_setRow _ b 3 _ _ _ _ h1, setCell_eq_setRow _ b 2 _ _ _ _ h, setRow_setRow, setRow_setRow]
  rfl
set_option maxHeartbeats 4000000 in
theorem take_ok (d : Int) (w : World) (base top b g : Nat) (ok : Nat → Prop) (T : List (List Nat)) (hM : MET w base top ok b g d T) (hT : T.length ≤ 100000) (gt c : Nat) (t : List Nat) (ho : OWNT w base gt c t) (htop : top ≤ gt) (hok : ok gt) (hX : HX.Tabled w) :
    Calls Tryd.prog 49 #[.pointer (some ⟨b, 0, none⟩), .slice (some ⟨gt, 0, none⟩) t.length c] w fun e w' => e = .returned (.agg (CELLS (HSHT d t)).toArray) ∧ MET w' base w.heap.size ok b g d (t :: T) ∧ STEPM b g w w' := by
  obtain ⟨n, hn⟩ : ∃ n, t.length = n := ⟨_, rfl⟩
  have iH := HSHT_is d t
  have R0 : Aside (Below w.heap.size w (w.alloc (.cells ZARR 26)) ∧ Has (w.alloc (.cells ZARR 26)) w.heap.size (CELLS ZND).toArray 26) := ⟨(Below.refl _ _).alloc (Nat.le_refl _) _, by rw [ZARR_eq]; exact Has.new _ _ _⟩
  have HA : Aside (MET w base top ok b g d T ∧ T.length ≤ 100000 ∧ OWNT w base gt c t ∧ (top ≤ gt ∧ ok gt) ∧ HX.Tabled w ∧ IsH (HSHT d t) ∧ t.length = n) := ⟨hM, hT, ho, ⟨htop, hok⟩, hX, iH, hn⟩
  obtain ⟨a1, n1, c1, a2, n2, c2, h1, -⟩ := hM.blk
  rw [hn]
  obtain ⟨H, hH⟩ : ∃ H, HSHT d t = H := ⟨_, rfl⟩
  have lH : H.length = 32 := by rw [← hH]; exact iH.1
  have x0 : (w.alloc (.cells ZARR 26)).cell? ⟨b, 0, none⟩ = some (.int .i64 d) := (h1.alloc _).cell 0
  rw [hH]
  clear hM hT ho htop hok hX iH hn h1
  go_enter Tryd.func49, Tryd.ntmps49
  go_upto_region 1 with fail
  rw [show (#[.int .u8 0, .int .u8 0, .int .u8 0, .int .u8 0, .int .u8 0, .int .u8 0, .int .u8 0, .int .u8 0, .int .u8 0, .int .u8 0, .int .u8 0, .int .u8 0, .int .u8 0, .int .u8 0, .int .u8 0, .int .u8 0, .int .u8 0, .int .u8 0, .int .u8 0, .int .u8 0, .int .u8 0, .int .u8 0, .int .u8 0, .int .u8 0, .int .u8 0, .int .u8 0, .int .u8 0, .int .u8 0, .int .u8 0, .int .u8 0, .int .u8 0, .int .u8 0] : Array Value) = ZARR from rfl]
  generalize w.alloc (.cells ZARR 26) = W0 at *
  have cs : Calls Tryd.prog 27 #[.int .i64 d, .slice (some ⟨W0.heap.size, 0, none⟩) 1 1] (W0.alloc (.cells #[.slice (some ⟨gt, 0, none⟩) n c] 30)) fun e w' => e = .returned (.agg (CELLS H).toArray) ∧ Below (W0.alloc (.cells #[.slice (some ⟨gt, 0, none⟩) n c] 30)).heap.size (W0.alloc (.cells #[.slice (some ⟨gt, 0, none⟩) n c] 30)) w' := by
    have hb1 : Below w.heap.size w (W0.alloc (.cells #[.slice (some ⟨gt, 0, none⟩) n c] 30)) := R0.out.1.alloc R0.out.1.size _
    have ho := HA.out.2.2.1
    have hh := HA.out.2.2.2.2.2.2
    have ht := ho.text
    rw [hh] at ht
    have hcp := ho.cap
    rw [hh] at hcp
    have k := sum9p d (W0.alloc (.cells #[.slice (some ⟨gt, 0, none⟩) n c] 30)) W0.heap.size (some ⟨gt, 0, none⟩) n c t (Has.new _ _ _) (ht.below hb1) hcp (fun x e => by cases e; exact Nat.lt_of_lt_of_le ho.lt.2 hb1.size) (by have := ho.2.2.2; omega) (HA.out.2.2.2.2.1.below hb1)
    rw [hH] at k
    exact k
  go_wp2_with fail
  refine cs.mono ?_
  rintro e w1 ⟨rfl, hb1⟩
  clear cs x0
  go_upto_region 2 with (first
    | (refine wpList_store_row rfl 26 (.tmp 5) (.tmp 14) rfl _ _ rfl rfl 26 _ (Has.new w1 _ _) (info_arr lH) (by simp [CELLS, lH]) (cells_one H) ?_; rw [World.setRow_alloc_new])
    | fail)
  obtain ⟨w2, hw2⟩ : ∃ w2, w1.alloc (.cells (CELLS H).toArray 26) = w2 := ⟨_, rfl⟩
  obtain ⟨bh, hbh⟩ : ∃ bh, w1.heap.size = bh := ⟨_, rfl⟩
  rw [hw2, hbh]
  have hb2 : Below W0.heap.size W0 w2 := by rw [← hw2]; exact (((Below.refl _ _).alloc (Nat.le_refl _) _).trans (hb1.mono (by simp))).alloc (by have := hb1.size; simp at this; omega) _
  have kh : Has w2 bh (CELLS H).toArray 26 := by rw [← hw2, ← hbh]; exact Has.new _ _ _
  have hbw : Below w.heap.size w w2 := R0.out.1.trans (hb2.mono R0.out.1.size)
  have kz : Has w2 w.heap.size (CELLS ZND).toArray 26 := R0.out.2.keep hb2
  have hM2 := HA.out.1.below hbw
  have ho2 : OWNT w2 base gt c t := HA.out.2.2.1.at (hbw.block _ HA.out.2.2.1.lt.2)
  have hbz : w.heap.size < bh := by have := R0.out.2.lt; have := hb1.size; simp at this; omega
  have iH : IsH H := by rw [← hH]; exact HA.out.2.2.2.2.2.1
  have hM2' := hM2
  have htp := hM2.htop
  have hbb := hM2.hb
  have hgg := hM2.hg
  have htw := HA.out.1.htop
  have R2 : Aside (Below w.heap.size w w2 ∧ Has w2 bh (CELLS H).toArray 26 ∧ Has w2 w.heap.size (CELLS ZND).toArray 26 ∧ MET w2 base top ok b g d T ∧ OWNT w2 base gt c t ∧ w.heap.size < bh ∧ b < w.heap.size ∧ g < w.heap.size ∧ b ≠ g) := ⟨hbw, kh, kz, hM2, ho2, hbz, by omega, by omega, hM2.ne⟩
  obtain ⟨a3, n3, c3, a4, n4, c4, h3, -⟩ := hM2.blk
  have y1 : w2.cell? ⟨b, 1, none⟩ = some (.map (some g)) := h3.cell 1
  clear hw2 hbh hb1 hb2 kh hbw kz hbz hM2 htp hbb hgg htw R0
  -- what is left: the hash is handed back
  have fin : ∀ (W : World), Has W bh (CELLS H).toArray 26 → Has W w.heap.size (CELLS ZND).toArray 26 → MET W base w.heap.size ok b g d (t :: T) → STEPM b g w W → MET (W.setRow w.heap.size (CELLS H).toArray) base w.heap.size ok b g d (t :: T) ∧ STEPM b g w (W.setRow w.heap.size (CELLS H).toArray) ∧ Has (W.setRow w.heap.size (CELLS H).toArray) w.heap.size (CELLS H).toArray 26 := fun W k1 k2 k3 k4 =>
    ⟨k3.keep (fun k hk => setRow_other W w.heap.size k _ (by omega)) (Nat.le_refl _) (by simpa using k3.htop), ⟨k4.os, k4.tape, k4.output, by simpa using k4.size, fun k q1 q2 q3 => (setRow_other W w.heap.size k _ (by omega)).trans (k4.block k q1 q2 q3)⟩, k2.row _⟩
  have FIN : Aside (∀ (W : World), Has W bh (CELLS H).toArray 26 → Has W w.heap.size (CELLS ZND).toArray 26 → MET W base w.heap.size ok b g d (t :: T) → STEPM b g w W → MET (W.setRow w.heap.size (CELLS H).toArray) base w.heap.size ok b g d (t :: T) ∧ STEPM b g w (W.setRow w.heap.size (CELLS H).toArray) ∧ Has (W.setRow w.heap.size (CELLS H).toArray) w.heap.size (CELLS H).toArray 26) := fin
  clear fin
  have hdr : MET w2.drew base top ok b g d T := hM2'.keep (w' := w2.drew) (fun _ _ => rfl) (Nat.le_refl _) hM2'.htop
  rcases hdr.look iH with ⟨gs, cs, s, f1, f2, f3, f4, f5, f6⟩ | ⟨f1, v, f6⟩
  · -- there is one
    refine take2 w2 b g bh n c (some ⟨gt, 0, none⟩) H lH _ _ (fun W => W = w2.drew) rfl (fun W e => by subst e; exact ⟨y1, (World.rangeAt_drew _ _ _ _).2 (has_range R2.out.2.1), f6⟩) (fun _ _ _ _ _ h => h) ?_
    intro W hWe
    dsimp only
    have kh : Has W bh (CELLS H).toArray 26 := by rw [hWe]; exact R2.out.2.1
    have kz : Has W w.heap.size (CELLS ZND).toArray 26 := by rw [hWe]; exact R2.out.2.2.1
    have hb2 : Below w.heap.size w W := by rw [hWe]; exact R2.out.1.drew
    have ho3 : OWNT W base gt c t := by rw [hWe]; exact R2.out.2.2.2.2.1.at rfl
    have hf2 : OWNT W base gs cs s := by rw [hWe]; exact f2
    have hdw : MET W base top ok b g d T := by rw [hWe]; exact hdr
    clear hdr hWe
    have hdr := hdw
    clear hdw
    have cq := HX.bytesequal_ok (some ⟨gs, 0, none⟩) s.length cs s (some ⟨gt, 0, none⟩) n c t W hf2.text (by have := ho3.text; rw [HA.out.2.2.2.2.2.2] at this; exact this)
    have F : Aside (FST d T H = some s ∧ OWNT W base gs cs s ∧ (gs < top ∧ ok gs) ∧ gs ≠ b ∧ gs ≠ g) := ⟨f1, hf2, f3, f4, f5⟩
    obtain ⟨ns, hns⟩ : ∃ ns, s.length = ns := ⟨_, rfl⟩
    rw [hns] at cq ⊢
    clear f1 f2 f3 f4 f5 f6 y1 hM2' ho2 hf2 h3
    by_cases est : s = t
    · rw [decide_eq_true est] at cq
      go_wp2_with fail
      refine cq.mono ?_
      rintro e w5 ⟨rfl, rfl⟩
      go_wp2_with (first
        | (refine wpList_load_row rfl 26 (.tmp 5) rfl bh rfl 26 (CELLS H).toArray (0, 0) _ kh Tryd.underlying26 rfl (info_arr lH) ?_)
        | (refine wpList_store_row rfl 26 (.tmp 4) (.tmp 45) rfl _ _ rfl rfl 26 _ kz (info_arr lH) (by simp [CELLS, lH]; rfl) (cells_one H) ?_)
        | fail)
      have hm : MET W base w.heap.size ok b g d (t :: T) := hdr.again (by rw [hH, F.out.1, est]) HA.out.1.htop hb2.size
      obtain ⟨q1, q2, q3⟩ := FIN.out W kh kz hm (STEPM.of_below hb2)
      refine bodyPost_ret (v := .agg (CELLS H).toArray) (results_one rfl _ _ w.heap.size 26 _ (0, 0) _ _ rfl q3 Tryd.underlying26 (info_arr lH)) rfl ⟨rfl, q1, q2⟩
    · rw [decide_eq_false est] at cq
      obtain ⟨a5, n5, c5, a6, n6, c6, h5, -⟩ := hdr.blk
      have hm : MET (W.setRow b #[.int .i64 d, .map (some g), .slice (some ⟨gs, 0, none⟩) ns cs, .slice (some ⟨gt, 0, none⟩) n c, .bool true]) base w.heap.size ok b g d (t :: T) := by
        have := hdr.found (top' := w.heap.size) F.out.2.1 ho3 est (by rw [hH, F.out.1]) F.out.2.2.1 F.out.2.2.2.1 F.out.2.2.2.2 HA.out.2.2.2.1.1 HA.out.2.2.2.1.2 HA.out.2.2.1.lt.2 hb2.size
        rw [hns, HA.out.2.2.2.2.2.2] at this
        exact this
      have em := met_row (x := .slice (some ⟨gs, 0, none⟩) ns cs) (y := .slice (some ⟨gt, 0, none⟩) n c) h5
      have sm : STEPM b g w (W.setRow b #[.int .i64 d, .map (some g), .slice (some ⟨gs, 0, none⟩) ns cs, .slice (some ⟨gt, 0, none⟩) n c, .bool true]) := (STEPM.of_below hb2).trans (STEPM.setRow _ _)
      have x2 : W.cell? ⟨b, 2, none⟩ = some (.slice a5 n5 c5) := h5.cell 2
      have x3 : W.cell? ⟨b, 3, none⟩ = some (.slice a6 n6 c6) := h5.cell 3
      have x4 : W.cell? ⟨b, 4, none⟩ = some (.bool (CLS d T).isSome) := h5.cell 4
      have z2 := h5.frozen 2
      have z3 := h5.frozen 3
      have z4 := h5.frozen 4
      have kh6 : Has (W.setRow b #[.int .i64 d, .map (some g), .slice (some ⟨gs, 0, none⟩) ns cs, .slice (some ⟨gt, 0, none⟩) n c, .bool true]) bh (CELLS H).toArray 26 := kh.row_other (by have := R2.out.2.2.2.2.2; omega) _
      have kz6 : Has (W.setRow b #[.int .i64 d, .map (some g), .slice (some ⟨gs, 0, none⟩) ns cs, .slice (some ⟨gt, 0, none⟩) n c, .bool true]) w.heap.size (CELLS ZND).toArray 26 := kz.row_other (by have := R2.out.2.2.2.2.2; omega) _
      clear h5 kh kz hdr
      go_wp2_with fail
      refine cq.mono ?_
      rintro e w5 ⟨rfl, rfl⟩
      clear cq
      go_upto_region 7 with fail
      obtain ⟨w6, hw6⟩ : ∃ w6, W.setRow b #[.int .i64 d, .map (some g), .slice (some ⟨gs, 0, none⟩) ns cs, .slice (some ⟨gt, 0, none⟩) n c, .bool true] = w6 := ⟨_, rfl⟩
      rw [hw6] at hm sm kh6 kz6 ⊢
      clear hw6 em x2 x3 x4 z2 z3 z4
      go_wp2_with (first
        | (refine wpList_load_row rfl 26 (.tmp 5) rfl bh rfl 26 (CELLS H).toArray (0, 0) _ kh6 Tryd.underlying26 rfl (info_arr lH) ?_)
        | (refine wpList_store_row rfl 26 (.tmp 4) (.tmp 45) rfl _ _ rfl rfl 26 _ kz6 (info_arr lH) (by simp [CELLS, lH]; rfl) (cells_one H) ?_)
        | fail)
      obtain ⟨q1, q2, q3⟩ := FIN.out w6 kh6 kz6 hm sm
      refine bodyPost_ret (v := .agg (CELLS H).toArray) (results_one rfl _ _ w.heap.size 26 _ (0, 0) _ _ rfl q3 Tryd.underlying26 (info_arr lH)) rfl ⟨rfl, q1, q2⟩
  · -- there is none
    refine take2 w2 b g bh n c (some ⟨gt, 0, none⟩) H lH _ _ (fun W => W = w2.drew) rfl (fun W e => by subst e; exact ⟨y1, (World.rangeAt_drew _ _ _ _).2 (has_range R2.out.2.1), f6⟩) (fun _ _ _ _ _ h => h) ?_
    rintro W rfl
    dsimp only
    have hU := (MET.keep (w' := w2.drew.drew) hdr (fun _ _ => rfl) (Nat.le_refl _) hdr.htop).store (top' := w.heap.size) HA.out.2.1 (R2.out.2.2.2.2.1.at (w' := w2.drew.drew) rfl) HA.out.2.2.2.1.1 HA.out.2.2.2.1.2 (by rw [hH, f1]) HA.out.2.2.1.lt.2 (by have := R2.out.1.size; exact this)
    rw [hH, HA.out.2.2.2.2.2.2] at hU
    obtain ⟨w6, u1, u2, u3, u4⟩ := hU
    have hbhs : bh < w2.drew.drew.heap.size := R2.out.2.1.lt
    have hne := R2.out.2.2.2.2.2
    have hzs : w.heap.size < w2.drew.drew.heap.size := R2.out.2.2.1.lt
    have kh6 : Has w6 bh (CELLS H).toArray 26 := (u4 bh hbhs (by omega)).trans R2.out.2.1
    have kz6 : Has w6 w.heap.size (CELLS ZND).toArray 26 := (u4 _ hzs (by omega)).trans R2.out.2.2.1
    have y6 : w6.cell? ⟨b, 1, none⟩ = some (.map (some g)) := (World.cell?_of_block (w := w2.drew.drew) (by exact u4 b (by omega) hne.2.2.2)).trans y1
    have sm : STEPM b g w w6 := (STEPM.of_below R2.out.1.drew.drew).trans u3
    go_upto_region 4 with fail
    refine take4 w2.drew b g bh n c (some ⟨gt, 0, none⟩) H lH (fun W => W = w2.drew.drew) (fun W => W = w6) rfl (fun W e => by subst e; exact ⟨y1, (World.rangeAt_drew _ _ _ _).2 ((World.rangeAt_drew _ _ _ _).2 (has_range R2.out.2.1))⟩) (fun W e => by subst e; exact ⟨y6, has_range kh6⟩) (fun W e => by subst e; exact ⟨w6, u1, rfl⟩) (fun _ _ _ _ _ h => h) ?_
    rintro W rfl
    dsimp only
    clear u1 u4 y6 y1 hne hzs hbhs f6 hdr hM2' h3
    go_wp2_with (first
      | (refine wpList_load_row rfl 26 (.tmp 5) rfl bh rfl 26 (CELLS H).toArray (0, 0) _ kh6 Tryd.underlying26 rfl (info_arr lH) ?_)
      | (refine wpList_store_row rfl 26 (.tmp 4) (.tmp 45) rfl _ _ rfl rfl 26 _ kz6 (info_arr lH) (by simp [CELLS, lH]; rfl) (cells_one H) ?_)
      | fail)
    obtain ⟨q1, q2, q3⟩ := FIN.out W kh6 kz6 u2 sm
    refine bodyPost_ret (v := .agg (CELLS H).toArray) (results_one rfl _ _ w.heap.size 26 _ (0, 0) _ _ rfl q3 Tryd.underlying26 (info_arr lH)) rfl ⟨rfl, q1, q2⟩
end Go.Proofs.YtbmjoiiagldklaaDoor
