/- Slices of bytes: rows of cells by a function; what a slice reads as. -/
import Derived.Test.YtkmcmngdainofaaProg
import Derived.Test.YtkmcmngdainofaaNumPlain
import Derived.WalkKit
import Derived.WalkLawsBesides
import Derived.Deep.LoopGhost
import Derived.Deep.OwnRows
import Derived.Deep.QuietTactic
import Derived.BigQuiet
namespace Go.Proofs.Ytkmcmngdainofaa
open Go.RowKit

/-- n cells, each a byte. -/
def BARR (n : Nat) (f : Nat → Int) : Array Value := ((List.range n).map fun i => Value.int .u8 (f i)).toArray
theorem BARR_size (n : Nat) (f : Nat → Int) : (BARR n f).size = n := by simp [BARR]
theorem BARR_get (n : Nat) (f : Nat → Int) (i : Nat) (h : i < n) : (BARR n f)[i]? = some (.int .u8 (f i)) := by simp [BARR, h]
theorem BARR_ext {n : Nat} {f g : Nat → Int} (h : ∀ i, i < n → f i = g i) : BARR n f = BARR n g := by
  unfold BARR
  congr 1
  apply List.map_congr_left
  intro i hi
  rw [h i (by simpa using hi)]
theorem BARR_set (n : Nat) (f : Nat → Int) (i : Nat) (v : Int) : (BARR n f).setIfInBounds i (.int .u8 v) = BARR n fun j => if j = i then v else f j := by
  apply Array.ext_getElem?
  intro j
  by_cases hj : j < n
  · rw [BARR_get _ _ j hj, Array.getElem?_setIfInBounds]
    by_cases h : i = j
    · subst h
      simp [BARR_size, hj]
    · have h' : ¬ j = i := fun e => h e.symm
      simp [h, h', BARR_get _ _ j hj]
  · rw [Array.getElem?_eq_none (by simp [BARR_size]; omega), Array.getElem?_eq_none (by simp [BARR_size]; omega)]
theorem BARR_made (n : Nat) : madeCells #[Value.int .u8 0] n = BARR n fun _ => 0 := by
  apply Array.ext_getElem?
  intro j
  by_cases hj : j < n
  · rw [BARR_get _ _ j hj]
    simp [madeCells, hj, Nat.mod_one]
  · rw [Array.getElem?_eq_none (by simp [madeCells]; omega), Array.getElem?_eq_none (by simp [BARR_size]; omega)]
theorem info_u8 : (Try.prog.info? 5).map (fun i => (i.zero, i.size, i.bytes)) = some (some (.int .u8 0), 1, 1) := by kernel_rfl
/-- a slice that came in: nil, or a row of cells, each a byte. -/
def IsRow (k : IntKind) (w : World) (a : Option Addr) (len cap : Nat) (zs : List Int) : Prop :=
  (a = none ∧ len = 0 ∧ cap = 0 ∧ zs = []) ∨
  ∃ x, a = some x ∧ len ≤ cap ∧ cap ≤ maxLen ∧ zs.length = cap ∧ (∀ i, i < zs.length → w.cell? (x.add i) = some (.int k (zs.getD i 0))) ∧ ∀ n ∈ zs, (Lit.int k n).wf = true

/-- a slice of n bytes reads as l. -/
def Bytes (w : World) (a : Option Addr) (n : Nat) (l : List Int) : Prop :=
  l.length = n ∧ (0 < n → ∃ b off, a = some ⟨b, off, none⟩ ∧ b < w.heap.size ∧ ∀ i, i < n → w.cell? ⟨b, off + i, none⟩ = some (.int .u8 (l.getD i 0))) ∧ ∀ x ∈ l, 0 ≤ x ∧ x ≤ 255
theorem Bytes.below {w w' : World} {a : Option Addr} {n : Nat} {l : List Int} (h : Bytes w a n l) (hb : Below w.heap.size w w') : Bytes w' a n l :=
  ⟨h.1, fun hn => by
    obtain ⟨b, off, e, hl, hc⟩ := h.2.1 hn
    exact ⟨b, off, e, Nat.lt_of_lt_of_le hl hb.size, fun i hi => (hb.cell (by exact hl)).trans (hc i hi)⟩, h.2.2⟩
theorem Bytes.get {w : World} {a : Option Addr} {n : Nat} {l : List Int} (h : Bytes w a n l) (i : Nat) : 0 ≤ l.getD i 0 ∧ l.getD i 0 ≤ 255 := by
  by_cases hi : i < l.length
  · rw [List.getD_eq_getElem?_getD, List.getElem?_eq_getElem hi]
    exact h.2.2 _ (List.getElem_mem hi)
  · rw [List.getD_eq_getElem?_getD, List.getElem?_eq_none (by omega)]
    simp
theorem addr_add (b off i : Nat) : (⟨b, off, none⟩ : Addr).add i = ⟨b, off + i, none⟩ := by unfold Addr.add; split <;> simp_all
theorem IsRow.bytes {w : World} {a : Option Addr} {n c : Nat} {zs : List Int} (h : IsRow .u8 w a n c zs) : Bytes w a n (zs.take n) := by
  rcases h with ⟨rfl, rfl, rfl, rfl⟩ | ⟨x, rfl, hl, _, hz, hcell, hwf⟩
  · exact ⟨rfl, fun h => by omega, fun x hx => by simp at hx⟩
  · refine ⟨by simp [hz, hl], fun hn => ?_, fun y hy => ?_⟩
    · obtain ⟨b, off, spot⟩ := x
      have hc := hcell 0 (by omega)
      have hspot : spot = none := by simpa [Addr.add] using World.cell?_spot hc
      subst hspot
      refine ⟨b, off, rfl, block_lt_of_cell (by simpa [Addr.add] using hc), fun i hi => ?_⟩
      have := hcell i (by omega)
      rw [addr_add] at this
      rw [this]
      congr 2
      simp [List.getD_eq_getElem?_getD, hi]
    · have := bounds_u8 (hwf y (List.mem_of_mem_take hy))
      exact this

/-- the number that bytes are, the highest first. -/
def BIGV (l : List Int) : Int := l.foldl (fun acc x => acc * 256 + x) 0
theorem BIGV_snoc (l : List Int) (x : Int) : BIGV (l ++ [x]) = BIGV l * 256 + x := by simp [BIGV]
theorem foldl_bounds : ∀ (l : List Int) (acc : Int) (k : Nat), 0 ≤ acc → acc < 256 ^ k → (∀ x ∈ l, 0 ≤ x ∧ x ≤ 255) → 0 ≤ l.foldl (fun acc x => acc * 256 + x) acc ∧ l.foldl (fun acc x => acc * 256 + x) acc < 256 ^ (k + l.length)
  | [], acc, k, h0, h1, _ => by simpa using ⟨h0, h1⟩
  | x :: l, acc, k, h0, h1, hl => by
    have hx := hl x (by simp)
    have hp : (256 : Int) ^ (k + 1) = 256 ^ k * 256 := Int.pow_succ 256 k
    have := foldl_bounds l (acc * 256 + x) (k + 1) (by omega) (by omega) (fun y hy => hl y (by simp [hy]))
    rw [List.length_cons, show k + (l.length + 1) = k + 1 + l.length by omega]
    exact this
theorem BIGV_bounds (l : List Int) (hl : ∀ x ∈ l, 0 ≤ x ∧ x ≤ 255) : 0 ≤ BIGV l ∧ BIGV l < 256 ^ l.length := by
  have := foldl_bounds l 0 0 (by decide) (by decide) hl
  simpa [BIGV] using this
end Go.Proofs.Ytkmcmngdainofaa
