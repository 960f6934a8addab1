/- Texts of SpanSets, one behind the other: PosHas, PosRefPath, PosAwake, PosFour, CutCalls, CutHas, CutSpan, CutOver, ProofPlaces, ProofBytes, ManySearch, ManyPlain, ManyPeaks, ManySetsPlain. -/
import Derived.Test.YtmkgldjocigffaaDoorProg
import Derived.WalkKit
import Derived.WalkLawsBesides
import Derived.Deep.WholeRow
import Derived.Deep.LoopGhost
import Derived.Laws.ResultCell
import Derived.Laws.Rows
import Derived.Laws.Tables
import Derived.Deep.QuietTactic
import Derived.BigQuiet
import Derived.Deep.MidRow
import Derived.Test.YtmkgldjocigffaaDoorSpanSetsP4
/- Blocks of one's own in a world that is a variable. -/
namespace Go.Proofs.YtmkgldjocigffaaDoor
open Go.RowKit

/-- the block g holds the cells c. -/
def Has (w : World) (g : Nat) (c : Array Value) (t : TypeId) : Prop := w.heap[g]? = some (.cells c t)
theorem Has.cell {w : World} {g : Nat} {c : Array Value} {t : TypeId} (h : Has w g c t) (i : Nat) : w.cell? ⟨g, i, none⟩ = c[i]? := cell_of_row w g i c t _ h
theorem Has.lt {w : World} {g : Nat} {c : Array Value} {t : TypeId} (h : Has w g c t) : g < w.heap.size := (Array.getElem?_eq_some_iff.1 h).1
theorem Has.frozen {w : World} {g : Nat} {c : Array Value} {t : TypeId} (h : Has w g c t) (i : Nat) : w.frozen? ⟨g, i, none⟩ = false := by
  have e : w.heap[g]? = some (.cells c t) := h
  simp [World.frozen?, e]
theorem Has.set {w : World} {g : Nat} {c : Array Value} {t : TypeId} (h : Has w g c t) (i : Nat) (v : Value) : Has (w.setCell ⟨g, i, none⟩ v) g (c.setIfInBounds i v) t := by
  have e : w.heap[g]? = some (.cells c t) := h
  unfold Has
  rw [setCell_eq_setRow w g i c t _ v e, setRow_heap w g c _ t _ e]
theorem Has.other {w : World} {g : Nat} {c : Array Value} {t : TypeId} (h : Has w g c t) {a : Addr} (ha : g ≠ a.block) (v : Value) : Has (w.setCell a v) g c t := by
  have e : w.heap[g]? = some (.cells c t) := h
  unfold Has
  rw [Below.heap_setCell w a v g ha, e]
theorem Has.below {B : Nat} {w w' : World} {g : Nat} {c : Array Value} {t : TypeId} (h : Has w g c t) (hb : Below B w w') (hg : g < B) : Has w' g c t := (hb.block g hg).trans h
theorem Has.keep {w w' : World} {g : Nat} {c : Array Value} {t : TypeId} (h : Has w g c t) (hb : Below w.heap.size w w') : Has w' g c t := h.below hb h.lt
theorem Has.alloc {w : World} {g : Nat} {c : Array Value} {t : TypeId} (h : Has w g c t) (o : Obj) : Has (w.alloc o) g c t := by
  have e : w.heap[g]? = some (.cells c t) := h
  unfold Has
  rw [Below.heap_alloc w o g h.lt, e]
theorem Has.new (w : World) (c : Array Value) (t : TypeId) : Has (w.alloc (.cells c t)) w.heap.size c t := heap_alloc_new w _
theorem Has.at (w : World) (c : Array Value) (t : TypeId) {g : Nat} (hg : g = w.heap.size) : Has (w.alloc (.cells c t)) g c t := by subst hg; exact Has.new w c t
theorem Has.row {w : World} {g : Nat} {c : Array Value} {t : TypeId} (h : Has w g c t) (c' : Array Value) : Has (w.setRow g c') g c' t := setRow_heap w g c c' t _ h
theorem Has.drewN {w : World} {g : Nat} {c : Array Value} {t : TypeId} (h : Has w g c t) (n : Nat) : Has (w.drewN n) g c t := h
end Go.Proofs.YtmkgldjocigffaaDoor

/- What the document's Path gives. -/
namespace Go.Proofs.YtmkgldjocigffaaDoor
open Go.RowKit

end Go.Proofs.YtmkgldjocigffaaDoor

/- awake answers true: the forest of seven leaves. -/
namespace Go.Proofs.YtmkgldjocigffaaDoor
open Go.RowKit

end Go.Proofs.YtmkgldjocigffaaDoor

/- Two lists that read the same; four lists of one's own, none of which shares a block with another. -/
namespace Go.Proofs.YtmkgldjocigffaaDoor
open Go.RowKit

/-- a list of numbers lies there. -/
def Nums (w : World) (v : Value) (l : List Nat) : Prop := ∃ a cap, v = .slice a l.length cap ∧ (0 < l.length → ∃ g, a = some ⟨g, 0, none⟩ ∧ g < w.heap.size ∧ ∀ (j : Nat), j < l.length → w.cell? ⟨g, j, none⟩ = some (.int .u64 ((l.getD j 0 : Nat) : Int)))
theorem Nums.below {w w' : World} {v : Value} {l : List Nat} {B : Nat} (h : Nums w v l) (hb : Below B w w') (hB : w.heap.size ≤ B) : Nums w' v l := by
  obtain ⟨a, cap, rfl, h⟩ := h
  refine ⟨a, cap, rfl, fun h0 => ?_⟩
  obtain ⟨g, e, hg, hc⟩ := h h0
  exact ⟨g, e, Nat.lt_of_lt_of_le hg hb.size, fun j hj => (hb.cell (p := ⟨g, j, none⟩) (Nat.lt_of_lt_of_le hg hB)).trans (hc j hj)⟩
/-- four lists of one's own: no two in one block, none in a block of K. -/
structure Four (w : World) (B : Nat) (K : Nat → Prop) (v : Nat → Value) (n : Nat → Nat) (xs : Nat → List Value) : Prop where
  row : ∀ x, x < 4 → w.ownsRow B 22 1 (v x) (n x) (xs x)
  apart : ∀ x y, x < 4 → y < 4 → x ≠ y → ∀ g, (v x).ownBlock = some g → (v y).ownBlock ≠ some g
  off : ∀ x, x < 4 → ∀ g, (v x).ownBlock = some g → ¬ K g
theorem Four.alloc {w : World} {B : Nat} {K : Nat → Prop} {v : Nat → Value} {n : Nat → Nat} {xs : Nat → List Value} (h : Four w B K v n xs) (o : Obj) : Four (w.alloc o) B K v n xs := ⟨fun x hx => (h.row x hx).alloc o, h.apart, h.off⟩
theorem Four.below {w w' : World} {B : Nat} {K : Nat → Prop} {v : Nat → Value} {n : Nat → Nat} {xs : Nat → List Value} (h : Four w B K v n xs) (hb : Below w.heap.size w w') : Four w' B K v n xs := ⟨fun x hx => own_below (h.row x hx) hb, h.apart, h.off⟩
theorem grown_set (W : World) (b j : Nat) (v : Value) : W.grownBy (W.setCell ⟨b, j, none⟩ v) (some b) :=
  ⟨rfl, rfl, rfl, (KeepsWalks.setCell W _ v).size, fun k _ hk => Below.heap_setCell _ _ _ k (fun e => hk (by rw [e]))⟩
/-- what is stored into a block of K. -/
theorem Four.other {w : World} {B : Nat} {K : Nat → Prop} {v : Nat → Value} {n : Nat → Nat} {xs : Nat → List Value} (h : Four w B K v n xs) {b : Nat} (hb : K b) (j : Nat) (u : Value) : Four (w.setCell ⟨b, j, none⟩ u) B K v n xs :=
  ⟨fun x hx => (h.row x hx).kept (grown_set w b j u) (.inr fun e => h.off x hx b e hb), h.apart, h.off⟩
theorem Has.grown {w w' : World} {g : Nat} {c : Array Value} {t : TypeId} {row : Option Nat} (h : Has w g c t) (hg : w.grownBy w' row) (hne : row ≠ some g) : Has w' g c t := by
  obtain ⟨_, _, _, _, hk⟩ := hg
  exact (hk g h.lt (fun e => hne e.symm)).trans h
end Go.Proofs.YtmkgldjocigffaaDoor

/- What the small functions of package cut answer. -/
namespace Go.Proofs.YtmkgldjocigffaaDoor
open Go.RowKit

end Go.Proofs.YtmkgldjocigffaaDoor

/- A block that stays while a list of one's own grows. -/
namespace Go.Proofs.YtmkgldjocigffaaDoor
open Go.RowKit

end Go.Proofs.YtmkgldjocigffaaDoor

/- What Span answers. -/
namespace Go.Proofs.YtmkgldjocigffaaDoor
open Go.RowKit

end Go.Proofs.YtmkgldjocigffaaDoor

/- What Over answers, of any list of spots. -/
namespace Go.Proofs.YtmkgldjocigffaaDoor
open Go.RowKit

/-- a list of spots lies there. -/
def Lie (w : World) (a : Option Addr) (l : List (Nat × Nat)) : Prop := 0 < l.length → ∃ g o, a = some ⟨g, o, none⟩ ∧ g < w.heap.size ∧ ∀ (j h k : Nat), l[j]? = some (h, k) → w.cell? ⟨g, o + j * 2, none⟩ = some (.int .u8 (h : Int)) ∧ w.cell? ⟨g, o + j * 2 + 1, none⟩ = some (.int .u64 (k : Int))
theorem Lie.below {w w' : World} {a : Option Addr} {l : List (Nat × Nat)} (h : Lie w a l) (hb : Below w.heap.size w w') : Lie w' a l := fun h0 => by
  obtain ⟨g, o, e, hg, hc⟩ := h h0
  exact ⟨g, o, e, Nat.lt_of_lt_of_le hg hb.size, fun j x y he => ⟨(hb.cell (p := ⟨g, o + j * 2, none⟩) hg).trans (hc j x y he).1, (hb.cell (p := ⟨g, o + j * 2 + 1, none⟩) hg).trans (hc j x y he).2⟩⟩
end Go.Proofs.YtmkgldjocigffaaDoor

/- What Places and PrefixPlaces of package proof answer. -/
namespace Go.Proofs.YtmkgldjocigffaaDoor
open Go.RowKit

end Go.Proofs.YtmkgldjocigffaaDoor

/- What written, Encode and EncodePrefix of package proof answer. -/
namespace Go.Proofs.YtmkgldjocigffaaDoor
open Go.RowKit
set_option maxRecDepth 100000

/-- so many hashes lie there, told as their bytes, one behind the other. -/
def Flat (w : World) (a : Option Addr) (n : Nat) (l : List Int) : Prop :=
  l.length = 32 * n ∧ (0 < n → ∃ b o, a = some ⟨b, o, none⟩ ∧ b < w.heap.size ∧ ∀ j, j < 32 * n → w.cell? ⟨b, o + j, none⟩ = some (.int .u8 (l.getD j 0))) ∧ ∀ x ∈ l, 0 ≤ x ∧ x ≤ 255
theorem Flat.below {w w' : World} {a : Option Addr} {n : Nat} {l : List Int} (h : Flat w a n l) (hb : Below w.heap.size w w') : Flat w' a n l :=
  ⟨h.1, fun hn => by
    obtain ⟨b, o, e, hl, hc⟩ := h.2.1 hn
    exact ⟨b, o, e, Nat.lt_of_lt_of_le hl hb.size, fun i hi => (hb.cell (by exact hl)).trans (hc i hi)⟩, h.2.2⟩
/-- the bytes of the i-th hash. -/
def HSH (l : List Int) (i : Nat) : List Int := (l.drop (32 * i)).take 32
theorem HSH_length {l : List Int} {n i : Nat} (hl : l.length = 32 * n) (hi : i < n) : (HSH l i).length = 32 := by
  unfold HSH
  rw [List.length_take, List.length_drop]
  omega
theorem HSH_at {l : List Int} {i j : Nat} (hj : j < 32) : (HSH l i).getD j 0 = l.getD (32 * i + j) 0 := by
  unfold HSH
  rw [List.getD_eq_getElem?_getD, List.getElem?_take, if_pos hj, List.getElem?_drop, List.getD_eq_getElem?_getD]
theorem HSH_mem {l : List Int} {i : Nat} {x : Int} (h : x ∈ HSH l i) : x ∈ l := List.mem_of_mem_drop (List.mem_of_mem_take h)
theorem HSH_next (l : List Int) (i : Nat) : l.take (32 * (i + 1)) = l.take (32 * i) ++ HSH l i := by
  unfold HSH
  rw [show 32 * (i + 1) = 32 * i + 32 by omega, List.take_add]
theorem info_hash32 : (Tryd.prog.info? 60).map (·.size) = some 32 := by kernel_rfl
theorem info_cells {h : List Int} (hl : h.length = 32) : (Tryd.prog.info? 60).map (·.size) = some (CELLS h).length := by
  rw [info_hash32, show (CELLS h).length = 32 by simp [CELLS, hl]]
theorem info_arr {h : List Int} (hl : h.length = 32) : (Tryd.prog.info? 60).map (·.size) = some (CELLS h).toArray.size := by
  rw [info_hash32, show (CELLS h).toArray.size = 32 by simp [CELLS, hl]]
theorem cells_one (h : List Int) : (CELLS h).toArray.all (·.oneCell') = true := by
  rw [Array.all_eq_true_iff_forall_mem]
  intro v hv
  exact CELLS_one h v (by simpa using hv)
theorem Flat.at {w : World} {b o n : Nat} {l : List Int} {i : Nat} (h : Flat w (some ⟨b, o, none⟩) n l) (hi : i < n) : w.rangeAt b (o + i * 32) (CELLS (HSH l i)) := by
  intro j v hv
  obtain ⟨b', o', e, _, hc⟩ := h.2.1 (by omega)
  simp only [Option.some.injEq, Addr.mk.injEq] at e
  obtain ⟨rfl, rfl, _⟩ := e
  have hj : j < 32 := by
    have := (List.getElem?_eq_some_iff.1 hv).1
    rw [show (CELLS (HSH l i)).length = 32 by simp [CELLS, HSH_length h.1 hi]] at this
    exact this
  rw [CELLS_get _ _ (by rw [HSH_length h.1 hi]; exact hj), HSH_at hj] at hv
  rw [show o + i * 32 + j = o + (32 * i + j) by omega, hc _ (by omega)]
  exact hv
/-- a box that holds a hash reads as its bytes. -/
theorem box_bytes (w : World) {h : List Int} (hl : h.length = 32) (hr : ∀ x ∈ h, 0 ≤ x ∧ x ≤ 255) (t : TypeId) : Bytes (w.alloc (.cells (CELLS h).toArray t)) (some ⟨w.heap.size, 0, none⟩) 32 h := by
  refine ⟨hl, fun _ => ⟨w.heap.size, 0, rfl, by simp, fun i hi => ?_⟩, hr⟩
  rw [Nat.zero_add, World.cell?_alloc_at _ _ _ _ rfl, List.getElem?_toArray, CELLS_get h i (by omega)]
theorem own_one (w : World) (x : Int) : (w.alloc (.cells #[.int .u8 x] 5)).ownsRow w.heap.size 5 1 (.slice (some ⟨w.heap.size, 0, none⟩) 1 1) 1 (CELLS [x]) :=
  World.ownsRow_lit w #[.int .u8 x] 1 (Nat.le_refl _) (by simp [maxLen]) rfl
theorem own_len {w : World} {base n : Nat} {v : Value} {l : List Int} (h : w.ownsRow base 5 1 v n (CELLS l)) : l.length = n := by
  have := h.1
  simpa [CELLS] using this

end Go.Proofs.YtmkgldjocigffaaDoor

/- A list of numbers that lies there; slices.BinarySearch over a rising one. -/
namespace Go.Proofs.YtmkgldjocigffaaDoor
open Go.RowKit
set_option maxRecDepth 100000

/-- numbers that lie there, at any place of a block. -/
def NUML (w : World) (a : Option Addr) (L : List Nat) : Prop := 0 < L.length → ∃ b o, a = some ⟨b, o, none⟩ ∧ b < w.heap.size ∧ ∀ i x, L[i]? = some x → w.cell? ⟨b, o + i, none⟩ = some (.int .u64 ((x : Nat) : Int))
theorem NUML.below {w w' : World} {a : Option Addr} {L : List Nat} {B : Nat} (h : NUML w a L) (hb : Below B w w') (hB : ∀ x, a = some x → x.block < B) : NUML w' a L := fun h0 => by
  obtain ⟨b, o, e, hl, hc⟩ := h h0
  have h1 : b < B := hB _ e
  exact ⟨b, o, e, by have := hb.size; omega, fun i x hx => (hb.cell (p := ⟨b, o + i, none⟩) h1).trans (hc i x hx)⟩
/-- each one above the one ahead. -/
def RISES (L : List Nat) : Prop := ∀ (i j x y : Nat), i < j → L[i]? = some x → L[j]? = some y → x < y
theorem mid_lt {i j : Nat} (h : i < j) : ∃ m, i ≤ m ∧ m < j ∧ m = (i + j) / 2 := ⟨(i + j) / 2, by omega, by omega, rfl⟩
theorem search_wraps (i j S m : Nat) (hj : j < 2 ^ 40) (hi : i < j) (hS : i + j = S) (hm : m = (i + j) / 2) : wrap64 ((i : Int) + (j : Int)) = (S : Int) ∧ IntKind.u64.wrap ((i : Int) + (j : Int)) = (S : Int) ∧ (S : Int) / 2 = (m : Int) ∧ wrap64 (m : Int) = (m : Int) ∧ wrap64 ((m : Int) + 1) = ((m + 1 : Nat) : Int) ∧ IntKind.u64.wrap (S : Int) = (S : Int) := by
  rw [wrapU, wrapU]
  unfold wrap64
  omega
theorem isnan_ok (x : Int) (w : World) : Calls Tryd.prog 75 #[.int .u64 x] w fun e w' => e = .returned (.bool false) ∧ w = w' := by
  go_enter Tryd.func75, Tryd.ntmps75
  go_wp2
  go_ret
  exact ⟨rfl, rfl⟩
theorem cmpnan_ok (x : Int) (w : World) : Calls Tryd.prog 79 #[.int .u64 x] w fun e w' => e = .returned (.bool false) ∧ w = w' := by
  go_enter Tryd.func79, Tryd.ntmps79
  go_wp2
  go_ret
  exact ⟨rfl, rfl⟩
theorem less_ok (x y : Nat) (w : World) : Calls Tryd.prog 74 #[.int .u64 (x : Int), .int .u64 (y : Int)] w fun e w' => e = .returned (.bool (decide (x < y))) ∧ w = w' := by
  have c := cmpnan_ok (x : Int) w
  go_enter Tryd.func74, Tryd.ntmps74
  go_wp2_with fail
  refine c.mono ?_
  rintro e w' ⟨rfl, rfl⟩
  clear c
  go_wp2_with fail
  go_ret
  exact ⟨rfl, rfl⟩
theorem less_yes (x y : Nat) (h : x < y) (w : World) : Calls Tryd.prog 74 #[.int .u64 (x : Int), .int .u64 (y : Int)] w fun e w' => e = .returned (.bool true) ∧ w = w' := by
  have := less_ok x y w
  rwa [decide_eq_true h] at this
theorem less_no (x y : Nat) (h : ¬ x < y) (w : World) : Calls Tryd.prog 74 #[.int .u64 (x : Int), .int .u64 (y : Int)] w fun e w' => e = .returned (.bool false) ∧ w = w' := by
  have := less_ok x y w
  rwa [decide_eq_false h] at this
/-- k of them are below t. -/
structure RANKS (L : List Nat) (t k : Nat) : Prop where
  le : k ≤ L.length
  lo : ∀ i x, i < k → L[i]? = some x → x < t
  hi : ∀ i x, k ≤ i → L[i]? = some x → t ≤ x
def SOUGHT (L : List Nat) (t : Nat) (w : World) (e : Ending) (w' : World) : Prop := ∃ (k : Nat) (b : Bool), e = .returned (.tuple #[.int .i64 (k : Int), .bool b]) ∧ RANKS L t k ∧ w = w'
set_option maxHeartbeats 1000000 in
theorem search_ok (a : Option Addr) (n cap : Nat) (L : List Nat) (t : Nat) (hl : L.length = n) (hn : n < 2 ^ 40) (hR : RISES L) (w : World) (hL : NUML w a L) : Calls Tryd.prog 69 #[.slice a n cap, .int .u64 (t : Int)] w fun e w' => SOUGHT L t w e w' := by
  have H : Aside (L.length = n ∧ n < 2 ^ 40 ∧ RISES L ∧ NUML w a L) := ⟨hl, hn, hR, hL⟩
  clear hl hn hR hL
  go_enter Tryd.func69, Tryd.ntmps69
  go_wp2
  go_loopg [7, 8] n (fun gg s7 s8 wx => ∃ i j : Nat, s7 = .int .i64 (i : Int) ∧ s8 = .int .i64 (j : Int) ∧ Aside (i + gg = j ∧ j ≤ n ∧ (∀ (k : Nat) (x : Nat), k < i → L[k]? = some x → x < t) ∧ (∀ (k : Nat) (x : Nat), j ≤ k → L[k]? = some x → t ≤ x)) ∧ wx = w)
  case atStart => exact ⟨0, n, rfl, rfl, ⟨by omega, Nat.le_refl _, fun k x h => by omega, fun k x h e => by have := (List.getElem?_eq_some_iff.1 e).1; have := H.out.1; omega⟩, rfl⟩
  case round =>
    obtain ⟨i, j, rfl, rfl, I, rfl⟩ := hrel
    cases gk with
    | zero =>
      obtain ⟨i1, i2, i3, i4⟩ := I.out
      obtain rfl : i = j := by omega
      have hlt : ¬ (i : Int) < (i : Int) := by omega
      rcases Nat.lt_or_ge i n with hin | hin
      · have hi2 : (i : Int) < (n : Int) := by omega
        have hi0 : (0 : Int) ≤ (i : Int) := by omega
        obtain ⟨h1, h2, h3, h4⟩ := H.out
        obtain ⟨x, ex⟩ : ∃ x, L[i]? = some x := ⟨_, List.getElem?_eq_getElem (by omega)⟩
        obtain ⟨g, o, rfl, hg, hc⟩ := h4 (by omega)
        have x0 := hc i x ex
        have cc := isnan_ok (x : Int)
        have R : Aside (RANKS L t i) := ⟨by omega, i3, i4⟩
        clear i1 i2 i3 i4 h1 h2 h3 h4 hc ex I H
        by_cases hx : x = t
        · subst hx
          go_wp2_with fail
          go_ret2
          exact ⟨i, _, rfl, R.out, rfl⟩
        · have hx' : ¬ (x : Int) = (t : Int) := by omega
          go_wp2_with fail
          refine (cc _).mono ?_
          rintro e w2 ⟨rfl, rfl⟩
          clear cc
          go_wp2_with fail
          go_ret2
          exact ⟨i, _, rfl, R.out, rfl⟩
      · have hi2 : ¬ (i : Int) < (n : Int) := by omega
        have R : Aside (RANKS L t i) := ⟨by have := H.out.1; omega, i3, i4⟩
        clear i1 i2 i3 i4 I H
        go_wp2
        go_ret2
        exact ⟨i, false, rfl, R.out, rfl⟩
    | succ gg =>
      obtain ⟨i1, i2, i3, i4⟩ := I.out
      have hij : (i : Int) < (j : Int) := by omega
      obtain ⟨h1, h2, h3, h4⟩ := H.out
      obtain ⟨m, m1, m2, m3⟩ := mid_lt (i := i) (j := j) (by omega)
      obtain ⟨S, hS⟩ : ∃ S, i + j = S := ⟨_, rfl⟩
      have HW : Aside _ := search_wraps i j S m (by omega) (by omega) hS m3
      clear hS
      have hm2 : (m : Int) < (n : Int) := by omega
      have hm0 : (0 : Int) ≤ (m : Int) := by omega
      obtain ⟨x, ex⟩ : ∃ x, L[m]? = some x := ⟨_, List.getElem?_eq_getElem (by omega)⟩
      obtain ⟨g, o, rfl, hg, hc⟩ := h4 (by omega)
      have x0 := hc m x ex
      have LO : Aside (x < t → ∀ (k : Nat) (y : Nat), k < m + 1 → L[k]? = some y → y < t) := fun h k y hk e => by
        rcases Nat.lt_or_ge k m with hkm | hkm
        · have := h3 k m y x hkm e ex
          omega
        · obtain rfl : k = m := by omega
          rw [ex] at e
          cases e
          exact h
      have HI : Aside (¬ x < t → ∀ (k : Nat) (y : Nat), m ≤ k → L[k]? = some y → t ≤ y) := fun h k y hk e => by
        rcases Nat.lt_or_ge m k with hkm | hkm
        · have := h3 m k x y hkm ex e
          omega
        · obtain rfl : k = m := by omega
          rw [ex] at e
          cases e
          omega
      have R : Aside (i ≤ m ∧ m < j ∧ j ≤ n ∧ i + (gg + 1) = j ∧ (∀ (k : Nat) (y : Nat), k < i → L[k]? = some y → y < t) ∧ (∀ (k : Nat) (y : Nat), j ≤ k → L[k]? = some y → t ≤ y)) := ⟨m1, m2, i2, i1, i3, i4⟩
      clear i1 i2 i3 i4 h1 h2 h3 h4 hc ex I m1 m2 m3
      obtain ⟨q1, q2, q3, q4, q5, q6⟩ := HW.out
      by_cases hlt : x < t
      · have cc := less_yes x t hlt
        have LL : Aside (∀ (k : Nat) (y : Nat), k < m + 1 → L[k]? = some y → y < t) := LO.out hlt
        clear hlt LO HI
        go_wp2_with fail
        refine (cc _).mono ?_
        rintro e w2 ⟨rfl, rfl⟩
        clear cc x0
        go_wp2
        go_roundg (j - (m + 1))
        case measure => have := R.out; clear q1 q2 q3 q4 q5 q6; omega
        case rel => exact ⟨m + 1, j, by first | rfl | (rw [q5]), rfl, ⟨by have := R.out; clear q1 q2 q3 q4 q5 q6; omega, R.out.2.2.1, LL.out, R.out.2.2.2.2.2⟩, rfl⟩
      · have cc := less_no x t hlt
        have LL : Aside (∀ (k : Nat) (y : Nat), m ≤ k → L[k]? = some y → t ≤ y) := HI.out hlt
        clear hlt LO HI
        go_wp2_with fail
        refine (cc _).mono ?_
        rintro e w2 ⟨rfl, rfl⟩
        clear cc x0
        go_wp2
        go_roundg (m - i)
        case measure => have := R.out; clear q1 q2 q3 q4 q5 q6; omega
        case rel => exact ⟨i, m, rfl, by first | rfl | (rw [q4]), ⟨by have := R.out; clear q1 q2 q3 q4 q5 q6; omega, by have := R.out; clear q1 q2 q3 q4 q5 q6; omega, R.out.2.2.2.2.1, LL.out⟩, rfl⟩
end Go.Proofs.YtmkgldjocigffaaDoor

/- Which nodes leaves need: plain. -/
namespace Go.Proofs.YtmkgldjocigffaaDoor
set_option maxRecDepth 100000

/-- the places that the leaves L under the k-th node of height h need, rising. -/
def NEED : Nat → Nat → List Nat → List Nat
  | h, k, [] => [PLC h k]
  | 0, _, _ :: _ => []
  | h + 1, k, x :: l => NEED h (2 * k) ((x :: l).filter fun y => decide (y < (2 * k + 1) * 2 ^ h)) ++ NEED h (2 * k + 1) ((x :: l).filter fun y => !decide (y < (2 * k + 1) * 2 ^ h))
theorem NEED_nil (h k : Nat) : NEED h k [] = [PLC h k] := by cases h <;> rfl
theorem NEED_node (h k x : Nat) (l : List Nat) : NEED (h + 1) k (x :: l) = NEED h (2 * k) ((x :: l).filter fun y => decide (y < (2 * k + 1) * 2 ^ h)) ++ NEED h (2 * k + 1) ((x :: l).filter fun y => !decide (y < (2 * k + 1) * 2 ^ h)) := rfl
/-- the first r of a rising list are those below t. -/
theorem RANKS.take : ∀ {L : List Nat} {t r : Nat}, RANKS L t r → L.take r = L.filter fun y => decide (y < t)
  | [], t, r, _ => by simp
  | x :: l, t, 0, h => by
    rw [List.take_zero]
    symm
    rw [List.filter_eq_nil_iff]
    intro y hy
    obtain ⟨i, hi⟩ := List.getElem?_of_mem hy
    have := h.hi i y (Nat.zero_le _) hi
    simp
    omega
  | x :: l, t, r + 1, h => by
    have hx : x < t := h.lo 0 x (by omega) rfl
    have h' : RANKS l t r := ⟨by have := h.le; simp at this; omega, fun i y hi hy => h.lo (i + 1) y (by omega) (by simpa using hy), fun i y hi hy => h.hi (i + 1) y (by omega) (by simpa using hy)⟩
    rw [List.take_succ_cons, List.filter_cons_of_pos (by simpa using hx), h'.take]
theorem RANKS.drop : ∀ {L : List Nat} {t r : Nat}, RANKS L t r → L.drop r = L.filter fun y => !decide (y < t)
  | [], t, r, _ => by simp
  | x :: l, t, 0, h => by
    rw [List.drop_zero]
    symm
    rw [List.filter_eq_self]
    intro y hy
    obtain ⟨i, hi⟩ := List.getElem?_of_mem hy
    have := h.hi i y (Nat.zero_le _) hi
    simp
    omega
  | x :: l, t, r + 1, h => by
    have hx : x < t := h.lo 0 x (by omega) rfl
    have h' : RANKS l t r := ⟨by have := h.le; simp at this; omega, fun i y hi hy => h.lo (i + 1) y (by omega) (by simpa using hy), fun i y hi hy => h.hi (i + 1) y (by omega) (by simpa using hy)⟩
    rw [List.drop_succ_cons, List.filter_cons_of_neg (by simpa using hx), h'.drop]
theorem RISES.take {L : List Nat} (h : RISES L) (r : Nat) : RISES (L.take r) := fun i j x y hij hx hy => by
  rw [List.getElem?_take] at hx hy
  split at hx
  · split at hy
    · exact h i j x y hij hx hy
    · cases hy
  · cases hx
theorem RISES.drop {L : List Nat} (h : RISES L) (r : Nat) : RISES (L.drop r) := fun i j x y hij hx hy => by
  rw [List.getElem?_drop] at hx hy
  exact h (r + i) (r + j) x y (by omega) hx hy
theorem NEED_take {h k r : Nat} {L : List Nat} (hL : L ≠ []) (hr : RANKS L ((2 * k + 1) * 2 ^ h) r) : NEED (h + 1) k L = NEED h (2 * k) (L.take r) ++ NEED h (2 * k + 1) (L.drop r) := by
  cases L with
  | nil => exact absurd rfl hL
  | cons x l => rw [NEED_node, hr.take, hr.drop]
/-- the peaks' leaves, one peak behind the other. -/
def NEEDS : List (Nat × Nat) → List Nat → List Nat
  | [], _ => []
  | (h, k) :: ps, L => NEED h k (L.filter fun y => decide (y < (k + 1) * 2 ^ h)) ++ NEEDS ps (L.filter fun y => !decide (y < (k + 1) * 2 ^ h))
theorem NEEDS_take {h k r : Nat} {L : List Nat} (ps : List (Nat × Nat)) (hr : RANKS L ((k + 1) * 2 ^ h) r) : NEEDS ((h, k) :: ps) L = NEED h k (L.take r) ++ NEEDS ps (L.drop r) := by
  rw [NEEDS, hr.take, hr.drop]
theorem filter_both (p : Nat → Bool) : ∀ l : List Nat, (l.filter p).length + (l.filter fun y => !p y).length = l.length
  | [] => rfl
  | x :: l => by
    have := filter_both p l
    cases h : p x <;> simp [List.filter, h] <;> omega
theorem NEED_bound : ∀ (h k : Nat) (L : List Nat), L ≠ [] → (NEED h k L).length ≤ L.length * h
  | _, _, [], hL => absurd rfl hL
  | 0, _, _ :: _, _ => by simp [NEED]
  | h + 1, k, x :: l, _ => by
    rw [NEED_node, List.length_append]
    generalize hA : ((x :: l).filter fun y => decide (y < (2 * k + 1) * 2 ^ h)) = A
    generalize hB : ((x :: l).filter fun y => !decide (y < (2 * k + 1) * 2 ^ h)) = B
    have hAB : A.length + B.length = (x :: l).length := by
      rw [← hA, ← hB]
      exact filter_both _ _
    have h1 : (NEED h (2 * k) A).length ≤ A.length * h + (if A.length = 0 then 1 else 0) := by
      cases A with
      | nil => rw [NEED_nil]; simp
      | cons y m => exact Nat.le_trans (NEED_bound h (2 * k) (y :: m) (by simp)) (Nat.le_add_right _ _)
    have h2 : (NEED h (2 * k + 1) B).length ≤ B.length * h + (if B.length = 0 then 1 else 0) := by
      cases B with
      | nil => rw [NEED_nil]; simp
      | cons y m => exact Nat.le_trans (NEED_bound h (2 * k + 1) (y :: m) (by simp)) (Nat.le_add_right _ _)
    have h3 : 0 < (x :: l).length := by simp
    have h4 : A.length * h + B.length * h = (x :: l).length * h := by rw [← Nat.add_mul, hAB]
    rw [Nat.mul_succ]
    generalize (NEED h (2 * k) A).length = u at *
    generalize (NEED h (2 * k + 1) B).length = v at *
    generalize A.length * h = p at *
    generalize B.length * h = q at *
    generalize (x :: l).length * h = s at *
    generalize (x :: l).length = m at *
    split at h1 <;> split at h2 <;> omega
theorem NEED_most (h k : Nat) (L : List Nat) : (NEED h k L).length ≤ L.length * h + 1 := by
  cases L with
  | nil => rw [NEED_nil]; simp
  | cons x l => exact Nat.le_trans (NEED_bound h k (x :: l) (by simp)) (Nat.le_add_right _ _)
end Go.Proofs.YtmkgldjocigffaaDoor

/- The peaks as spots. -/
namespace Go.Proofs.YtmkgldjocigffaaDoor
set_option maxRecDepth 100000

/-- the peaks of n leaves, from the left: height and index. -/
def TPS (n : Nat) : List (Nat × Nat) := (HS 0 n).map fun h => (h, 2 * (n / 2 ^ (h + 1)))
theorem drop_at {α : Type} : ∀ {l : List α} {j : Nat} {x : α}, l[j]? = some x → l.drop j = x :: l.drop (j + 1)
  | [], j, x, h => by simp at h
  | y :: l, 0, x, h => by
    simp only [List.getElem?_cons_zero, Option.some.injEq] at h
    rw [h]
    rfl
  | y :: l, j + 1, x, h => by
    rw [List.getElem?_cons_succ] at h
    rw [List.drop_succ_cons, List.drop_succ_cons]
    exact drop_at h
theorem TPS_length {n : Nat} (hn : n < 2 ^ 64) : (TPS n).length = PC n := by
  rw [TPS, List.length_map, HS_length hn 0 (by decide), Nat.pow_zero, Nat.div_one]
theorem TPS_peak {n j h k : Nat} (e : (TPS n)[j]? = some (h, k)) : (PEAKS n)[j]? = some (PLC h k) := by
  unfold TPS at e
  unfold PEAKS
  rw [List.getElem?_map] at e ⊢
  cases hj : (HS 0 n)[j]? with
  | none => rw [hj] at e; cases e
  | some x =>
    rw [hj] at e
    simp only [Option.map_some, Option.some.injEq, Prod.mk.injEq] at e
    obtain ⟨rfl, rfl⟩ := e
    rfl
theorem node_of_span {h k : Nat} (hh : h ≤ 62) (hs : (k + 1) * 2 ^ h ≤ 2 ^ 62) : Node h k := by
  refine ⟨hh, ?_⟩
  rcases Nat.lt_or_ge k (2 ^ (62 - h)) with h1 | h1
  · exact h1
  · have h2 : (2 ^ (62 - h) + 1) * 2 ^ h ≤ (k + 1) * 2 ^ h := Nat.mul_le_mul_right _ (by omega)
    rw [Nat.add_mul, ← Nat.pow_add, show 62 - h + h = 62 by omega] at h2
    have := Nat.two_pow_pos h
    omega
theorem TPS_span {n h k : Nat} (hn : n ≤ 2 ^ 62) (hm : (h, k) ∈ TPS n) : h ≤ 62 ∧ (k + 1) * 2 ^ h ≤ n ∧ Node h k := by
  unfold TPS at hm
  rw [List.mem_map] at hm
  obtain ⟨x, hx, e⟩ := hm
  simp only [Prod.mk.injEq] at e
  obtain ⟨rfl, rfl⟩ := e
  obtain ⟨_, h2, h3⟩ := HS_set_of 0 x (by decide) hx
  have h4 : 2 * (n / 2 ^ (x + 1)) + 1 = n / 2 ^ x := by
    rw [Nat.pow_succ, ← Nat.div_div_eq_div_mul]
    omega
  have h5 : (2 * (n / 2 ^ (x + 1)) + 1) * 2 ^ x ≤ n := by rw [h4]; exact Nat.div_mul_le_self n (2 ^ x)
  have h6 : x ≤ 62 := by
    rcases Nat.lt_or_ge 62 x with h7 | h7
    · have h8 : 2 ^ 63 ≤ 2 ^ x := Nat.pow_le_pow_right (by decide) h7
      have h9 : 1 * 2 ^ x ≤ (2 * (n / 2 ^ (x + 1)) + 1) * 2 ^ x := Nat.mul_le_mul_right _ (by omega)
      omega
    · exact h7
  exact ⟨h6, h5, node_of_span h6 (by omega)⟩
theorem NEEDS_most : ∀ (ps : List (Nat × Nat)) (L : List Nat), (∀ p ∈ ps, p.1 ≤ 62) → (NEEDS ps L).length ≤ L.length * 62 + ps.length
  | [], L, _ => by simp [NEEDS]
  | (h, k) :: ps, L, hp => by
    rw [NEEDS, List.length_append, List.length_cons]
    have h1 := NEED_most h k (L.filter fun y => decide (y < (k + 1) * 2 ^ h))
    have h2 := NEEDS_most ps (L.filter fun y => !decide (y < (k + 1) * 2 ^ h)) (fun p hm => hp p (List.mem_cons_of_mem _ hm))
    have h3 := filter_both (fun y => decide (y < (k + 1) * 2 ^ h)) L
    have h4 : h ≤ 62 := hp (h, k) (List.mem_cons_self ..)
    have h5 : (L.filter fun y => decide (y < (k + 1) * 2 ^ h)).length * h ≤ (L.filter fun y => decide (y < (k + 1) * 2 ^ h)).length * 62 := Nat.mul_le_mul_left _ h4
    generalize (L.filter fun y => decide (y < (k + 1) * 2 ^ h)).length * h = u at *
    generalize (L.filter fun y => decide (y < (k + 1) * 2 ^ h)).length = p at *
    generalize (L.filter fun y => !decide (y < (k + 1) * 2 ^ h)).length = q at *
    omega
end Go.Proofs.YtmkgldjocigffaaDoor

/- What leaves need, and they, are all leaves, none twice: plain. -/
namespace Go.Proofs.YtmkgldjocigffaaDoor
set_option maxRecDepth 100000

/-- the spots that leaves under a node need. -/
def NSP : Nat → Nat → List Nat → List (Nat × Nat)
  | h, k, [] => [(h, k)]
  | 0, _, _ :: _ => []
  | h + 1, k, x :: l => NSP h (2 * k) ((x :: l).filter fun y => decide (y < (2 * k + 1) * 2 ^ h)) ++ NSP h (2 * k + 1) ((x :: l).filter fun y => !decide (y < (2 * k + 1) * 2 ^ h))
def SPL (s : Nat × Nat) : Nat := PLC s.1 s.2
theorem NSP_nil (h k : Nat) : NSP h k [] = [(h, k)] := by cases h <;> rfl
theorem NEED_NSP : ∀ (h k : Nat) (L : List Nat), NEED h k L = (NSP h k L).map SPL
  | h, k, [] => by rw [NEED_nil, NSP_nil]; rfl
  | 0, _, _ :: _ => rfl
  | h + 1, k, x :: l => by rw [NEED_node, NSP, List.map_append, ← NEED_NSP h, ← NEED_NSP h]
def NSPS : List (Nat × Nat) → List Nat → List (Nat × Nat)
  | [], _ => []
  | (h, k) :: ps, L => NSP h k (L.filter fun y => decide (y < (k + 1) * 2 ^ h)) ++ NSPS ps (L.filter fun y => !decide (y < (k + 1) * 2 ^ h))
theorem NEEDS_NSPS : ∀ (ps : List (Nat × Nat)) (L : List Nat), NEEDS ps L = (NSPS ps L).map SPL
  | [], _ => rfl
  | (h, k) :: ps, L => by rw [NEEDS, NSPS, List.map_append, NEED_NSP, NEEDS_NSPS ps]
/-- where a spot's leaves begin, where they end. -/
def FRS (s : Nat × Nat) : Nat := s.2 * 2 ^ s.1
def TOE (s : Nat × Nat) : Nat := (s.2 + 1) * 2 ^ s.1
/-- spots and leaves that together are all from A up to B. -/
structure COVER (A B : Nat) (L : List Nat) (l : List (Nat × Nat)) : Prop where
  within : ∀ s ∈ l, A ≤ FRS s ∧ TOE s ≤ B
  off : ∀ s ∈ l, ∀ x ∈ L, ¬ (FRS s ≤ x ∧ x < TOE s)
  sum : (l.map fun s => 2 ^ s.1).sum + L.length = B - A
  order : l.Pairwise fun s t => TOE s ≤ FRS t
theorem FRS_lt (s : Nat × Nat) : FRS s + 2 ^ s.1 = TOE s := by unfold FRS TOE; rw [Nat.add_mul, Nat.one_mul]
theorem COVER.join {A B C : Nat} {L1 L2 L : List Nat} {l1 l2 : List (Nat × Nat)} (h1 : COVER A B L1 l1) (h2 : COVER B C L2 l2) (hAB : A ≤ B) (hBC : B ≤ C) (m1 : ∀ x ∈ L1, x < B) (m2 : ∀ x ∈ L2, B ≤ x) (hm : ∀ x ∈ L, x ∈ L1 ∨ x ∈ L2) (hl : L1.length + L2.length = L.length) : COVER A C L (l1 ++ l2) := by
  refine ⟨fun s hs => ?_, fun s hs x hx => ?_, ?_, ?_⟩
  · rcases List.mem_append.1 hs with h | h
    · have := h1.within s h; omega
    · have := h2.within s h; omega
  · rcases List.mem_append.1 hs with h | h
    · rcases hm x hx with hx | hx
      · exact h1.off s h x hx
      · have := (h1.within s h).2
        have := m2 x hx
        omega
    · rcases hm x hx with hx | hx
      · have := (h2.within s h).1
        have := m1 x hx
        omega
      · exact h2.off s h x hx
  · rw [List.map_append, List.sum_append]
    have e1 := h1.sum
    have e2 := h2.sum
    omega
  · rw [List.pairwise_append]
    refine ⟨h1.order, h2.order, fun s hs t ht => ?_⟩
    have e1 := (h1.within s hs).2
    have e2 := (h2.within t ht).1
    omega
theorem twice_pow (h k : Nat) : k * 2 ^ (h + 1) = 2 * k * 2 ^ h ∧ (k + 1) * 2 ^ (h + 1) = (2 * k + 1 + 1) * 2 ^ h := by
  constructor
  · rw [Nat.pow_succ, Nat.mul_comm (2 ^ h) 2, ← Nat.mul_assoc, Nat.mul_comm k 2]
  · rw [Nat.pow_succ, Nat.mul_comm (2 ^ h) 2, ← Nat.mul_assoc, Nat.mul_comm (k + 1) 2, show 2 * (k + 1) = 2 * k + 1 + 1 by omega]
theorem filter_parts (p : Nat → Bool) (L : List Nat) : ∀ x ∈ L, x ∈ L.filter p ∨ x ∈ L.filter fun y => !p y := fun x hx => by
  cases h : p x
  · exact .inr (List.mem_filter.2 ⟨hx, by simp [h]⟩)
  · exact .inl (List.mem_filter.2 ⟨hx, h⟩)
theorem nsp_cover : ∀ (h k : Nat) (L : List Nat), L.Pairwise (· < ·) → (∀ x ∈ L, k * 2 ^ h ≤ x ∧ x < (k + 1) * 2 ^ h) → COVER (k * 2 ^ h) ((k + 1) * 2 ^ h) L (NSP h k L)
  | h, k, [], _, _ => by
    rw [NSP_nil]
    refine ⟨fun s hs => ?_, fun s hs x hx => (by cases hx), ?_, List.pairwise_singleton ..⟩
    · rw [List.mem_singleton] at hs
      subst hs
      exact ⟨Nat.le_refl _, Nat.le_refl _⟩
    · have h1 : k * 2 ^ h + 2 ^ h = (k + 1) * 2 ^ h := FRS_lt (h, k)
      show ([2 ^ h] : List Nat).sum + 0 = (k + 1) * 2 ^ h - k * 2 ^ h
      rw [← h1, Nat.add_sub_cancel_left]
      simp
  | 0, k, x :: l, hp, hm => by
    have hx := hm x (List.mem_cons_self ..)
    have hl : l = [] := by
      cases l with
      | nil => rfl
      | cons y t =>
        have h1 := hm y (by simp)
        have h2 : x < y := (List.pairwise_cons.1 hp).1 y (by simp)
        simp at hx h1
        omega
    subst hl
    refine ⟨fun s hs => (by cases hs), fun s hs => (by cases hs), ?_, List.Pairwise.nil⟩
    simp [NSP]
  | h + 1, k, x :: l, hp, hm => by
    rw [NSP]
    obtain ⟨t1, t2⟩ := twice_pow h k
    have e1 : 2 * k * 2 ^ h ≤ (2 * k + 1) * 2 ^ h := Nat.mul_le_mul_right _ (by omega)
    have e2 : (2 * k + 1) * 2 ^ h ≤ (2 * k + 1 + 1) * 2 ^ h := Nat.mul_le_mul_right _ (by omega)
    rw [t1, t2] at hm ⊢
    have c1 := nsp_cover h (2 * k) ((x :: l).filter fun y => decide (y < (2 * k + 1) * 2 ^ h)) (hp.filter _) (fun y hy => by
      obtain ⟨a, b⟩ := List.mem_filter.1 hy
      exact ⟨(hm y a).1, of_decide_eq_true b⟩)
    have c2 := nsp_cover h (2 * k + 1) ((x :: l).filter fun y => !decide (y < (2 * k + 1) * 2 ^ h)) (hp.filter _) (fun y hy => by
      obtain ⟨a, b⟩ := List.mem_filter.1 hy
      have b : ¬ y < (2 * k + 1) * 2 ^ h := by simpa using b
      exact ⟨by omega, (hm y a).2⟩)
    exact c1.join c2 e1 e2 (fun y hy => of_decide_eq_true (List.mem_filter.1 hy).2) (fun y hy => by have b := (List.mem_filter.1 hy).2; have b : ¬ y < (2 * k + 1) * 2 ^ h := (by simpa using b); omega) (filter_parts _ _) (filter_both _ _)
/-- the parent has one of the leaves under it. -/
def MET (L : List Nat) (s : Nat × Nat) : Prop := ∃ x ∈ L, FRS (s.1 + 1, s.2 / 2) ≤ x ∧ x < TOE (s.1 + 1, s.2 / 2)
theorem MET.mono {L L' : List Nat} {s : Nat × Nat} (h : MET L s) (hm : ∀ x ∈ L, x ∈ L') : MET L' s := by
  obtain ⟨x, hx, h1⟩ := h
  exact ⟨x, hm x hx, h1⟩
theorem nsps_cover : ∀ (ps : List (Nat × Nat)) (A B : Nat) (L : List Nat), Tile A ps B → L.Pairwise (· < ·) → (∀ x ∈ L, A ≤ x ∧ x < B) → COVER A B L (NSPS ps L)
  | [], A, B, L, ht, _, hm => by
    have hAB : A = B := ht
    have hL : L = [] := by
      cases L with
      | nil => rfl
      | cons x l => have := hm x (List.mem_cons_self ..); omega
    subst hL
    refine ⟨fun s hs => (by cases hs), fun s hs => (by cases hs), by simp [NSPS]; omega, List.Pairwise.nil⟩
  | (h, k) :: ps, A, B, L, ht, hp, hm => by
    obtain ⟨hN, hA, ht⟩ : Node h k ∧ k * 2 ^ h = A ∧ Tile ((k + 1) * 2 ^ h) ps B := ht
    have hb := ht.bound.1
    have e1 : k * 2 ^ h ≤ (k + 1) * 2 ^ h := Nat.mul_le_mul_right _ (by omega)
    rw [NSPS, ← hA]
    have c1 := nsp_cover h k (L.filter fun y => decide (y < (k + 1) * 2 ^ h)) (hp.filter _) (fun y hy => by
      obtain ⟨a, b⟩ := List.mem_filter.1 hy
      exact ⟨by rw [hA]; exact (hm y a).1, of_decide_eq_true b⟩)
    have c2 := nsps_cover ps ((k + 1) * 2 ^ h) B (L.filter fun y => !decide (y < (k + 1) * 2 ^ h)) ht (hp.filter _) (fun y hy => by
      obtain ⟨a, b⟩ := List.mem_filter.1 hy
      have b : ¬ y < (k + 1) * 2 ^ h := by simpa using b
      exact ⟨by omega, (hm y a).2⟩)
    exact c1.join c2 e1 hb (fun y hy => of_decide_eq_true (List.mem_filter.1 hy).2) (fun y hy => by have b := (List.mem_filter.1 hy).2; have b : ¬ y < (k + 1) * 2 ^ h := (by simpa using b); omega) (filter_parts _ _) (filter_both _ _)
theorem TPS_eq {n : Nat} (hn : n ≤ 4611686018427387904) : TPS n = PKS n 0 (PC n) := by
  apply List.ext_getElem?
  intro i
  by_cases hi : i < PC n
  · rw [PKS_at hi]
    unfold TPS
    rw [List.getElem?_map, (HGT_at (by omega) hi).1]
    rfl
  · rw [List.getElem?_eq_none (by rw [TPS_length (by omega)]; omega), List.getElem?_eq_none (by simp [PKS]; omega)]
theorem TPS_tile {n : Nat} (hn : n ≤ 4611686018427387904) : Tile 0 (TPS n) n := by
  rw [TPS_eq hn]
  exact (PKS_tile hn (PC n) 0 (by omega)).1
theorem RISES.pairwise {L : List Nat} (h : RISES L) : L.Pairwise (· < ·) := by
  rw [List.pairwise_iff_getElem]
  intro i j hi hj hij
  exact h i j _ _ hij (List.getElem?_eq_getElem hi) (List.getElem?_eq_getElem hj)
theorem plc_under {h k n : Nat} (he : (k + 1) * 2 ^ h ≤ n) : PLC h k < NODES n := by
  have h1 := NODES_le he
  have e1 := NODES_add ((k + 1) * 2 ^ h)
  have e2 := NODES_add (k * 2 ^ h)
  rw [PC_shift] at e1 e2
  have h3 := PC_succ k
  have h4 := two_le h
  have e : (k + 1) * 2 ^ h = k * 2 ^ h + 2 ^ h := by rw [Nat.add_mul, Nat.one_mul]
  have hp := pow_up h
  unfold PLC
  omega
/-- places rise with the leaves under them. -/
theorem PLC_before {h k h' k' : Nat} (hle : (k + 1) * 2 ^ h ≤ k' * 2 ^ h') : PLC h k < PLC h' k' := by
  have h1 := plc_under hle
  have h2 := PLC_last h' k'
  have h3 := Nat.two_pow_pos h'
  have h4 : k' * 2 ^ h' ≤ (k' + 1) * 2 ^ h' - 1 := by rw [Nat.add_mul]; omega
  have h5 : NODES (k' * 2 ^ h') ≤ NODES ((k' + 1) * 2 ^ h' - 1) := NODES_le h4
  omega
end Go.Proofs.YtmkgldjocigffaaDoor
