/- Texts of FindPlays, one behind the other: FindPlain, NumPlain, NumCalls, NumSlice, NumByteCalls, NumAppend, NumShortCalls, NumPop, PosPlain, NumBitCalls, NumLowPlain, NumLowCalls, NumHighCalls, NumPlaces, NumListCalls, NumListPlain, PosPeaksPlain, CutPlain, PosCoversPlain, CutTopsPlain, ProofPlain, PosCalls, PosSpot, PosKin, PosPlace, PosRef, PosRefSpot, PosOk, PosRefKin, PosBackward, PosPeaksCall, PosPath, PosSpotRow, PosTops, PosRefPeaks, PosRefPeak, PosHas, PosRefPath, PosAwake. -/
import Derived.Test.YtlbcnaenhghieaaProg
import Derived.WalkKit
import Derived.WalkLawsBesides
import Derived.OpenShut
import Derived.Deep.LoopGhost
import Derived.Deep.OwnRows
import Derived.Deep.QuietTactic
import Derived.BigQuiet
import Derived.Deep.AppendLies
import Derived.Laws.AppendOwnNone
import Derived.Deep.RegionHeld3
import Derived.RangeFuncBox
import Derived.RangeFuncLeaves
import Derived.RangeFuncCalls
import Derived.Shelf.Abstract
import Derived.Shelf.RegionOpen
import Derived.OwnWalkIn
import Derived.TacticsInMore
import Derived.LoopNIn
import Derived.LoopIn
import Derived.Maps.AppendAt
import Derived.RangeFuncNested
import Derived.Deep.WholeRow
import Derived.Laws.ResultCell
import Derived.Laws.Rows
import Derived.Laws.Tables
/- Where hashes stand in a list: the last index, all indices, how many unlike ones, those that stand twice. -/
namespace Go.Proofs.Ytlbcnaenhghieaa

/-- the last index below n at which a hash stands, or -1. -/
def LSTI (f : Nat → List Int) : Nat → List Int → Int
  | 0, _ => -1
  | n + 1, h => if f n = h then (n : Int) else LSTI f n h
/-- all of them, rising. -/
def ATS (f : Nat → List Int) : Nat → List Int → List Nat
  | 0, _ => []
  | n + 1, h => ATS f n h ++ (if f n = h then [n] else [])
/-- how many unlike hashes there are. -/
def UNL (f : Nat → List Int) : Nat → Nat
  | 0 => 0
  | n + 1 => UNL f n + (if LSTI f n (f n) = -1 then 1 else 0)
/-- of the first m, the hashes that stand first there and stand again below n. -/
def TWS (f : Nat → List Int) (n : Nat) : Nat → List (List Int)
  | 0 => []
  | m + 1 => TWS f n m ++ (if LSTI f m (f m) = -1 ∧ LSTI f n (f m) ≠ (m : Int) then [f m] else [])
theorem LSTI_congr {f g : Nat → List Int} : ∀ {n : Nat} (h : List Int), (∀ i, i < n → f i = g i) → LSTI f n h = LSTI g n h
  | 0, _, _ => rfl
  | n + 1, h, e => by rw [LSTI, LSTI, e n (by omega), LSTI_congr h fun i hi => e i (by omega)]
theorem UNL_congr {f g : Nat → List Int} : ∀ {n : Nat}, (∀ i, i < n → f i = g i) → UNL f n = UNL g n
  | 0, _ => rfl
  | n + 1, e => by rw [UNL, UNL, e n (by omega), UNL_congr fun i hi => e i (by omega), LSTI_congr _ fun i hi => e i (by omega)]
theorem LSTI_range (f : Nat → List Int) (h : List Int) : ∀ n : Nat, -1 ≤ LSTI f n h ∧ LSTI f n h < n
  | 0 => by simp [LSTI]
  | n + 1 => by
    rw [LSTI]
    have := LSTI_range f h n
    split <;> omega
theorem LSTI_none {f : Nat → List Int} {h : List Int} : ∀ {n : Nat}, LSTI f n h = -1 ↔ ∀ i, i < n → f i ≠ h
  | 0 => ⟨fun _ i hi => by omega, fun _ => rfl⟩
  | n + 1 => by
    rw [LSTI]
    by_cases e : f n = h
    · rw [if_pos e]
      exact ⟨fun x => by omega, fun x => absurd e (x n (by omega))⟩
    · rw [if_neg e, LSTI_none (n := n)]
      refine ⟨fun x i hi => ?_, fun x i hi => x i (by omega)⟩
      by_cases ei : i = n
      · rw [ei]; exact e
      · exact x i (by omega)
theorem LSTI_some {f : Nat → List Int} {h : List Int} : ∀ {n i : Nat}, LSTI f n h = (i : Int) → i < n ∧ f i = h ∧ ATS f n h = ATS f i h ++ [i]
  | 0, i, e => by simp only [LSTI] at e; omega
  | n + 1, i, e => by
    rw [LSTI] at e
    by_cases c : f n = h
    · rw [if_pos c] at e
      have : n = i := by omega
      subst this
      exact ⟨by omega, c, by rw [ATS, if_pos c]⟩
    · rw [if_neg c] at e
      obtain ⟨h1, h2, h3⟩ := LSTI_some e
      exact ⟨by omega, h2, by rw [ATS, if_neg c, List.append_nil, h3]⟩
theorem ATS_none {f : Nat → List Int} {h : List Int} : ∀ {n : Nat}, LSTI f n h = -1 → ATS f n h = []
  | 0, _ => rfl
  | n + 1, e => by
    have hn := LSTI_none.1 e
    rw [ATS, if_neg (hn n (by omega)), List.append_nil]
    exact ATS_none (LSTI_none.2 fun i hi => hn i (by omega))
theorem ATS_mem {f : Nat → List Int} {h : List Int} {i : Nat} : ∀ {n : Nat}, i ∈ ATS f n h ↔ i < n ∧ f i = h
  | 0 => by simp [ATS]
  | n + 1 => by
    rw [ATS, List.mem_append, ATS_mem (n := n)]
    by_cases e : f n = h
    · rw [if_pos e, List.mem_singleton]
      constructor
      · rintro (⟨a, b⟩ | rfl)
        · exact ⟨by omega, b⟩
        · exact ⟨by omega, e⟩
      · rintro ⟨a, b⟩
        by_cases c : i = n
        · exact .inr c
        · exact .inl ⟨by omega, b⟩
    · rw [if_neg e]
      constructor
      · rintro (⟨a, b⟩ | h)
        · exact ⟨by omega, b⟩
        · simp at h
      · rintro ⟨a, b⟩
        refine .inl ⟨?_, b⟩
        have : i ≠ n := fun c => e (c ▸ b)
        omega
theorem ATS_length (f : Nat → List Int) (h : List Int) : ∀ n, (ATS f n h).length ≤ n
  | 0 => by simp [ATS]
  | n + 1 => by
    have := ATS_length f h n
    rw [ATS, List.length_append]
    split <;> simp <;> omega
theorem UNL_le (f : Nat → List Int) : ∀ n, UNL f n ≤ n
  | 0 => by simp [UNL]
  | n + 1 => by
    have := UNL_le f n
    rw [UNL]
    split <;> omega
theorem TWS_length (f : Nat → List Int) (n : Nat) : ∀ m, (TWS f n m).length ≤ m
  | 0 => by simp [TWS]
  | m + 1 => by
    have := TWS_length f n m
    rw [TWS, List.length_append]
    split <;> simp <;> omega
theorem TWS_mem {f : Nat → List Int} {n : Nat} {x : List Int} : ∀ {m : Nat}, x ∈ TWS f n m → ∃ i, i < m ∧ x = f i
  | 0, h => by simp [TWS] at h
  | m + 1, h => by
    rw [TWS, List.mem_append] at h
    rcases h with h | h
    · obtain ⟨i, hi, e⟩ := TWS_mem h
      exact ⟨i, by omega, e⟩
    · split at h
      · exact ⟨m, by omega, by simpa using h⟩
      · simp at h
/-- the first index of those: it is i just where no index ahead of i has the hash. -/
theorem ATS_first {f : Nat → List Int} {i : Nat} : ∀ {n : Nat}, i < n → ((ATS f n (f i))[0]? = some i ↔ LSTI f i (f i) = -1)
  | 0, h => by omega
  | n + 1, h => by
    by_cases e : i = n
    · subst e
      rw [ATS, if_pos rfl]
      by_cases c : LSTI f i (f i) = -1
      · rw [ATS_none c]
        simp [c]
      · have hr := LSTI_range f (f i) i
        obtain ⟨j, hj⟩ : ∃ j : Nat, LSTI f i (f i) = (j : Int) := ⟨(LSTI f i (f i)).toNat, by omega⟩
        obtain ⟨h1, h2, h3⟩ := LSTI_some hj
        have hm : j ∈ ATS f i (f i) := ATS_mem.2 ⟨h1, h2⟩
        have hp : 0 < (ATS f i (f i)).length := List.length_pos_of_mem hm
        rw [List.getElem?_append_left hp, List.getElem?_eq_getElem hp]
        have hlt := (ATS_mem.1 (List.getElem_mem hp)).1
        constructor
        · intro x
          simp only [Option.some.injEq] at x
          omega
        · exact fun x => absurd x c
    · have hp : 0 < (ATS f n (f i)).length := List.length_pos_of_mem (ATS_mem.2 ⟨by omega, rfl⟩)
      rw [ATS, List.getElem?_append_left hp]
      exact ATS_first (by omega)
theorem ATS_pos {f : Nat → List Int} {i n : Nat} (h : i < n) : 0 < (ATS f n (f i)).length := List.length_pos_of_mem (ATS_mem.2 ⟨h, rfl⟩)
/-- where the first is i: there are more just where the last is another one. -/
theorem ATS_more {f : Nat → List Int} {i n : Nat} (h : i < n) (h0 : LSTI f i (f i) = -1) : 1 < (ATS f n (f i)).length ↔ LSTI f n (f i) ≠ (i : Int) := by
  have hr := LSTI_range f (f i) n
  have hne : LSTI f n (f i) ≠ -1 := fun e => LSTI_none.1 e i h rfl
  obtain ⟨j, hj⟩ : ∃ j : Nat, LSTI f n (f i) = (j : Int) := ⟨(LSTI f n (f i)).toNat, by omega⟩
  obtain ⟨h1, h2, h3⟩ := LSTI_some hj
  rw [h3, hj, List.length_append]
  by_cases e : j = i
  · subst e
    rw [ATS_none h0]
    simp
  · have hj' : i < j := by
      rcases Nat.lt_trichotomy i j with c | c | c
      · exact c
      · exact absurd c.symm e
      · exact absurd h2 (LSTI_none.1 h0 j c)
    have := ATS_pos (f := f) hj'
    constructor
    · intro _ c; omega
    · intro _; simp; omega
end Go.Proofs.Ytlbcnaenhghieaa

/- Plain facts on numbers of 64 bits and their bits; no Go in sight. -/
namespace Go.Proofs.Ytlbcnaenhghieaa
open Go.RowKit

/-! bit by bit -/
/-! what the walk writes -/
/-! shifts in two parts -/
/-! fields -/
end Go.Proofs.Ytlbcnaenhghieaa

/- What the small functions of package num answer, call by call, and that awake answers true. -/
namespace Go.Proofs.Ytlbcnaenhghieaa
open Go.RowKit

end Go.Proofs.Ytlbcnaenhghieaa

/- Slices of bytes: rows of cells by a function; what a slice reads as. -/
namespace Go.Proofs.Ytlbcnaenhghieaa
open Go.RowKit

theorem info_u8 : (Try.prog.info? 5).map (fun i => (i.zero, i.size, i.bytes)) = some (some (.int .u8 0), 1, 1) := by kernel_rfl
/-- a slice that came in: nil, or a row of cells, each a byte. -/
def IsRow (k : IntKind) (w : World) (a : Option Addr) (len cap : Nat) (zs : List Int) : Prop :=
  (a = none ∧ len = 0 ∧ cap = 0 ∧ zs = []) ∨
  ∃ x, a = some x ∧ len ≤ cap ∧ cap ≤ maxLen ∧ zs.length = cap ∧ (∀ i, i < zs.length → w.cell? (x.add i) = some (.int k (zs.getD i 0))) ∧ ∀ n ∈ zs, (Lit.int k n).wf = true

/-- a slice of n bytes reads as l. -/
def Bytes (w : World) (a : Option Addr) (n : Nat) (l : List Int) : Prop :=
  l.length = n ∧ (0 < n → ∃ b off, a = some ⟨b, off, none⟩ ∧ b < w.heap.size ∧ ∀ i, i < n → w.cell? ⟨b, off + i, none⟩ = some (.int .u8 (l.getD i 0))) ∧ ∀ x ∈ l, 0 ≤ x ∧ x ≤ 255
theorem Bytes.below {w w' : World} {a : Option Addr} {n : Nat} {l : List Int} (h : Bytes w a n l) (hb : Below w.heap.size w w') : Bytes w' a n l :=
  ⟨h.1, fun hn => by
    obtain ⟨b, off, e, hl, hc⟩ := h.2.1 hn
    exact ⟨b, off, e, Nat.lt_of_lt_of_le hl hb.size, fun i hi => (hb.cell (by exact hl)).trans (hc i hi)⟩, h.2.2⟩
theorem Bytes.get {w : World} {a : Option Addr} {n : Nat} {l : List Int} (h : Bytes w a n l) (i : Nat) : 0 ≤ l.getD i 0 ∧ l.getD i 0 ≤ 255 := by
  by_cases hi : i < l.length
  · rw [List.getD_eq_getElem?_getD, List.getElem?_eq_getElem hi]
    exact h.2.2 _ (List.getElem_mem hi)
  · rw [List.getD_eq_getElem?_getD, List.getElem?_eq_none (by omega)]
    simp
theorem addr_add (b off i : Nat) : (⟨b, off, none⟩ : Addr).add i = ⟨b, off + i, none⟩ := by unfold Addr.add; split <;> simp_all
theorem IsRow.bytes {w : World} {a : Option Addr} {n c : Nat} {zs : List Int} (h : IsRow .u8 w a n c zs) : Bytes w a n (zs.take n) := by
  rcases h with ⟨rfl, rfl, rfl, rfl⟩ | ⟨x, rfl, hl, _, hz, hcell, hwf⟩
  · exact ⟨rfl, fun h => by omega, fun x hx => by simp at hx⟩
  · refine ⟨by simp [hz, hl], fun hn => ?_, fun y hy => ?_⟩
    · obtain ⟨b, off, spot⟩ := x
      have hc := hcell 0 (by omega)
      have hspot : spot = none := by simpa [Addr.add] using World.cell?_spot hc
      subst hspot
      refine ⟨b, off, rfl, block_lt_of_cell (by simpa [Addr.add] using hc), fun i hi => ?_⟩
      have := hcell i (by omega)
      rw [addr_add] at this
      rw [this]
      congr 2
      simp [List.getD_eq_getElem?_getD, hi]
    · have := bounds_u8 (hwf y (List.mem_of_mem_take hy))
      exact this

end Go.Proofs.Ytlbcnaenhghieaa

/- What FromBig and Big of package num and the law's same answer. -/
namespace Go.Proofs.Ytlbcnaenhghieaa
open Go.RowKit

end Go.Proofs.Ytlbcnaenhghieaa

/- append of bytes onto a row of the call's own. -/
namespace Go.Proofs.Ytlbcnaenhghieaa
open Go.RowKit

/-- bytes as cells. -/
def CELLS (l : List Int) : List Value := l.map (Value.int .u8)
theorem CELLS_append (a b : List Int) : CELLS (a ++ b) = CELLS a ++ CELLS b := by simp [CELLS]
theorem CELLS_get (l : List Int) (i : Nat) (h : i < l.length) : (CELLS l)[i]? = some (.int .u8 (l.getD i 0)) := by
  simp [CELLS, h, List.getD_eq_getElem?_getD]
theorem CELLS_one (l : List Int) : ∀ u ∈ CELLS l, u.oneCell' = true := fun u hu => by
  simp [CELLS] at hu
  obtain ⟨x, _, rfl⟩ := hu
  rfl
theorem grown_refl (w : World) (row : Option Nat) : w.grownBy w row := ⟨rfl, rfl, rfl, Nat.le_refl _, fun _ _ _ => rfl⟩
/-! bytes and their number -/
end Go.Proofs.Ytlbcnaenhghieaa

/- What Short of package num answers. -/
namespace Go.Proofs.Ytlbcnaenhghieaa
open Go.RowKit

end Go.Proofs.Ytlbcnaenhghieaa

/- How many bits are set: sums of digits, two at a time; no Go in sight. -/
namespace Go.Proofs.Ytlbcnaenhghieaa
open Go.RowKit

/-! all together -/
end Go.Proofs.Ytlbcnaenhghieaa

/- Places of the nodes of a forest, in plain numbers: how many bits are set, how many nodes there are, where the node of a height and an index stands. -/
namespace Go.Proofs.Ytlbcnaenhghieaa

/-- how many bits of a number are set, with so many steps at most. -/
def PCF : Nat → Nat → Nat
  | 0, _ => 0
  | f + 1, n => n % 2 + PCF f (n / 2)
/-- how many bits of a number are set. -/
def PC (n : Nat) : Nat := PCF n n
theorem PCF_zero : ∀ f, PCF f 0 = 0
  | 0 => rfl
  | f + 1 => by
    show 0 % 2 + PCF f (0 / 2) = 0
    rw [show 0 / 2 = 0 from rfl, PCF_zero f]
theorem PCF_more : ∀ f g n, n ≤ f → n ≤ g → PCF f n = PCF g n
  | 0, g, n, h, _ => by
    have h0 : n = 0 := by omega
    subst h0
    rw [PCF_zero, PCF_zero]
  | f + 1, 0, n, _, h => by
    have h0 : n = 0 := by omega
    subst h0
    rw [PCF_zero, PCF_zero]
  | f + 1, g + 1, n, h1, h2 => by
    show n % 2 + PCF f (n / 2) = n % 2 + PCF g (n / 2)
    rw [PCF_more f g (n / 2) (by omega) (by omega)]
theorem PC_zero : PC 0 = 0 := rfl
theorem PC_step (n : Nat) : PC n = n % 2 + PC (n / 2) := by
  show PCF n n = n % 2 + PCF (n / 2) (n / 2)
  rw [PCF_more n (n + 1) n (Nat.le_refl n) (Nat.le_succ n)]
  show n % 2 + PCF n (n / 2) = n % 2 + PCF (n / 2) (n / 2)
  rw [PCF_more n (n / 2) (n / 2) (by omega) (Nat.le_refl _)]
theorem PC_even (m : Nat) : PC (2 * m) = PC m := by
  rw [PC_step, show 2 * m % 2 = 0 by omega, show 2 * m / 2 = m by omega, Nat.zero_add]
theorem PC_odd (m : Nat) : PC (2 * m + 1) = PC m + 1 := by
  rw [PC_step, show (2 * m + 1) % 2 = 1 by omega, show (2 * m + 1) / 2 = m by omega, Nat.add_comm]
theorem PC_one : PC 1 = 1 := by rw [show (1 : Nat) = 2 * 0 + 1 from rfl, PC_odd, PC_zero]
theorem PC_le (n : Nat) : PC n ≤ n := by
  induction n using Nat.strongRecOn with
  | _ n ih =>
    by_cases h : n = 0
    · subst h
      rw [PC_zero]
      omega
    · have := ih (n / 2) (by omega)
      rw [PC_step]
      omega
theorem PC_add (h : Nat) : ∀ k r, r < 2 ^ h → PC (k * 2 ^ h + r) = PC k + PC r := by
  induction h with
  | zero =>
    intro k r hr
    have : r = 0 := by simpa using hr
    subst this
    rw [PC_zero]
    simp
  | succ h ih =>
    intro k r hr
    rw [Nat.pow_succ] at hr
    have e : k * 2 ^ (h + 1) + r = 2 * (k * 2 ^ h + r / 2) + r % 2 := by
      rw [Nat.pow_succ, ← Nat.mul_assoc]
      omega
    have hr2 : r / 2 < 2 ^ h := by omega
    rcases Nat.mod_two_eq_zero_or_one r with h0 | h0
    · rw [e, h0, Nat.add_zero, PC_even, ih _ _ hr2, PC_step r, h0]
      omega
    · rw [e, h0, PC_odd, ih _ _ hr2, PC_step r, h0]
      omega
theorem PC_shift (h k : Nat) : PC (k * 2 ^ h) = PC k := by
  have := PC_add h k 0 (Nat.two_pow_pos h)
  rw [PC_zero] at this
  exact this
/-- how many nodes a forest of n leaves has. -/
def NODES (n : Nat) : Nat := 2 * n - PC n
theorem NODES_add (n : Nat) : NODES n + PC n = 2 * n := by
  have := PC_le n
  unfold NODES
  omega
/-- how many nodes a node of height h has under it, with itself. -/
def TREE (h : Nat) : Nat := 2 ^ (h + 1) - 1
/-- the place of the node of height h and index k. -/
def PLC (h k : Nat) : Nat := NODES (k * 2 ^ h) + (2 ^ (h + 1) - 2)
theorem two_le (h : Nat) : 2 ≤ 2 ^ (h + 1) := by
  have := Nat.two_pow_pos h
  rw [Nat.pow_succ]
  omega
theorem PLC_eq (h k : Nat) : PLC h k + 2 + PC k = 2 ^ (h + 1) * (k + 1) := by
  have h1 := NODES_add (k * 2 ^ h)
  have h2 := two_le h
  rw [PC_shift] at h1
  unfold PLC
  rw [Nat.mul_add, Nat.mul_one, show 2 ^ (h + 1) * k = 2 * (k * 2 ^ h) by rw [Nat.pow_succ, Nat.mul_comm (2 ^ h) 2, Nat.mul_assoc, Nat.mul_comm k]]
  omega
/-- what comes further right by a whole tree. -/
theorem PLC_over {h H k : Nat} (hh : h ≤ H) (hk : k < 2 ^ (H - h)) : PLC h (2 ^ (H - h) + k) = TREE H + PLC h k := by
  have h1 := PLC_eq h (2 ^ (H - h) + k)
  have h2 := PLC_eq h k
  have h3 := PC_add (H - h) 1 k hk
  rw [Nat.one_mul, PC_one] at h3
  have e : 2 ^ (h + 1) * (2 ^ (H - h) + k + 1) = 2 ^ (H + 1) + 2 ^ (h + 1) * (k + 1) := by
    rw [Nat.add_assoc, Nat.mul_add, ← Nat.pow_add, show h + 1 + (H - h) = H + 1 by omega]
  have h4 := two_le H
  unfold TREE
  omega
theorem PLC_in {h H k : Nat} (hh : h ≤ H) (hk : k < 2 ^ (H - h)) : PLC h k + 2 ≤ 2 ^ (H + 1) := by
  have h1 := PLC_eq h k
  have e : 2 ^ (h + 1) * (k + 1) ≤ 2 ^ (h + 1) * 2 ^ (H - h) := Nat.mul_le_mul_left _ hk
  rw [← Nat.pow_add, show h + 1 + (H - h) = H + 1 by omega] at e
  omega
/-- what stands at a place of the tree of height H. -/
theorem PLC_inj (H : Nat) : ∀ h k h' k', h ≤ H → k < 2 ^ (H - h) → h' ≤ H → k' < 2 ^ (H - h') → PLC h k = PLC h' k' → h = h' ∧ k = k' := by
  induction H with
  | zero =>
    intro h k h' k' a b c d _
    obtain rfl : h = 0 := by omega
    obtain rfl : h' = 0 := by omega
    simp at b d
    omega
  | succ H ih =>
    have top : ∀ h k, h ≤ H + 1 → k < 2 ^ (H + 1 - h) → (h = H + 1 ∧ k = 0 ∧ PLC h k + 2 = 2 ^ (H + 2)) ∨ (h ≤ H ∧ k < 2 ^ (H - h) ∧ PLC h k + 2 ≤ 2 ^ (H + 1)) ∨ (h ≤ H ∧ ∃ q, k = 2 ^ (H - h) + q ∧ q < 2 ^ (H - h) ∧ PLC h k = TREE H + PLC h q ∧ PLC h q + 2 ≤ 2 ^ (H + 1)) := by
      intro h k a b
      rcases Nat.lt_or_ge H h with h1 | h1
      · obtain rfl : h = H + 1 := by omega
        have hk : k = 0 := by simpa using b
        subst hk
        have := PLC_eq (H + 1) 0
        rw [PC_zero] at this
        exact .inl ⟨rfl, rfl, by simpa using this⟩
      · rcases Nat.lt_or_ge k (2 ^ (H - h)) with h2 | h2
        · exact .inr (.inl ⟨h1, h2, PLC_in h1 h2⟩)
        · have hq : k - 2 ^ (H - h) < 2 ^ (H - h) := by
            rw [show H + 1 - h = H - h + 1 by omega, Nat.pow_succ] at b
            omega
          refine .inr (.inr ⟨h1, k - 2 ^ (H - h), by omega, hq, ?_, PLC_in h1 hq⟩)
          have := PLC_over h1 hq
          rw [show 2 ^ (H - h) + (k - 2 ^ (H - h)) = k by omega] at this
          exact this
    have hp := two_le H
    have hpp : 2 ^ (H + 2) = 2 * 2 ^ (H + 1) := by rw [Nat.pow_succ 2 (H + 1), Nat.mul_comm]
    intro h k h' k' a b c d e
    unfold TREE at top
    rcases top h k a b with ⟨r1, r2, r3⟩ | ⟨r1, r2, r3⟩ | ⟨r1, q, r2, r3, r4, r5⟩ <;> rcases top h' k' c d with ⟨s1, s2, s3⟩ | ⟨s1, s2, s3⟩ | ⟨s1, q', s2, s3, s4, s5⟩
    · omega
    · omega
    · omega
    · omega
    · exact ih h k h' k' r1 r2 s1 s2 e
    · omega
    · omega
    · omega
    · obtain ⟨rfl, rfl⟩ := ih h q h' q' r1 r3 s1 s3 (by omega)
      exact ⟨rfl, by omega⟩
/-- the node (h, k) is one of the forest of all leaves. -/
def Node (h k : Nat) : Prop := h ≤ 62 ∧ k < 2 ^ (62 - h)
theorem Node.one {h k h' k' : Nat} (a : Node h k) (b : Node h' k') (e : PLC h k = PLC h' k') : h = h' ∧ k = k' := PLC_inj 62 h k h' k' a.1 a.2 b.1 b.2 e
theorem Node.lt {h k : Nat} (a : Node h k) : PLC h k < 9223372036854775807 := by
  have := PLC_in a.1 a.2
  omega
theorem Node.span {h k : Nat} (a : Node h k) : (k + 1) * 2 ^ h ≤ 2 ^ 62 := by
  have : (k + 1) * 2 ^ h ≤ 2 ^ (62 - h) * 2 ^ h := Nat.mul_le_mul_right _ a.2
  rw [← Nat.pow_add, Nat.sub_add_cancel a.1] at this
  exact this
end Go.Proofs.Ytlbcnaenhghieaa

/- What OnesCount64, TrailingZeros64 and Len64, and num's Ones, Low and High answer. -/
namespace Go.Proofs.Ytlbcnaenhghieaa
open Go.RowKit

end Go.Proofs.Ytlbcnaenhghieaa

/- The lowest set bit, in plain numbers. -/
namespace Go.Proofs.Ytlbcnaenhghieaa
open Go.RowKit

end Go.Proofs.Ytlbcnaenhghieaa

/- What TrailingZeros64 and num's Low answer, where the table of math/bits lies as its text lays it. -/
namespace Go.Proofs.Ytlbcnaenhghieaa
open Go.RowKit

/-- the table by which the lowest set bit is found. -/
def TAB : List Nat := [0, 1, 56, 2, 57, 49, 28, 3, 61, 58, 42, 50, 38, 29, 17, 4, 62, 47, 59, 36, 45, 43, 51, 22, 53, 39, 33, 30, 24, 18, 12, 5, 63, 55, 48, 27, 60, 41, 37, 16, 46, 35, 44, 21, 52, 32, 23, 11, 54, 26, 40, 15, 34, 20, 31, 10, 25, 14, 19, 9, 13, 8, 7, 6]
/-- the table lies in the first block. -/
def Tabled (w : World) : Prop := ∀ i, i < 64 → w.cell? ⟨0, i, none⟩ = some (.int .u8 ((TAB.getD i 0 : Nat) : Int))
end Go.Proofs.Ytlbcnaenhghieaa

/- What Len64 and num's High answer. -/
namespace Go.Proofs.Ytlbcnaenhghieaa
open Go.RowKit

end Go.Proofs.Ytlbcnaenhghieaa

/- The places of the set bits, in plain numbers. -/
namespace Go.Proofs.Ytlbcnaenhghieaa
open Go.RowKit

end Go.Proofs.Ytlbcnaenhghieaa

/- What Bits of package num answers: the places of the set bits, the lowest first. -/
namespace Go.Proofs.Ytlbcnaenhghieaa
open Go.RowKit

theorem Tabled.below {w w' : World} (h : Tabled w) (_ : 0 < w.heap.size) (hb : Below w.heap.size w w') : Tabled w' := fun i hi => (hb.cell (by exact World.block_lt_of_cell? _ _ (h i hi))).trans (h i hi)
end Go.Proofs.Ytlbcnaenhghieaa

/- The places of the set bits: in order, and put together they are the number. -/
namespace Go.Proofs.Ytlbcnaenhghieaa
open Go.RowKit

end Go.Proofs.Ytlbcnaenhghieaa

/- Peaks in plain numbers: the heights of the peaks of n leaves, their places, which one stands over a leaf, the way there. -/
namespace Go.Proofs.Ytlbcnaenhghieaa

/-- what the loop over the heights makes: how many nodes, and the places. -/
def ST (l : List Nat) : Nat × List Nat := l.foldl (fun s h => ((s.1 + TREE h) % 2 ^ 64, s.2 ++ [((s.1 + TREE h) % 2 ^ 64 + (2 ^ 64 - 1)) % 2 ^ 64])) (0, [])
theorem Node.leaf {i : Nat} (hi : i < 4611686018427387904) : Node 0 i := ⟨by omega, by simpa using hi⟩
end Go.Proofs.Ytlbcnaenhghieaa

/- Spans of leaves as perfect trees, in plain numbers. -/
namespace Go.Proofs.Ytlbcnaenhghieaa

/-- a perfect tree of height h begins at a and does not reach beyond b. -/
abbrev Fit (a h b : Nat) : Prop := a % 2 ^ h = 0 ∧ a + 2 ^ h ≤ b
theorem Fit.down {a h b : Nat} (f : Fit a (h + 1) b) : Fit a h b := by
  have h1 : 2 ^ (h + 1) = 2 ^ h * 2 := Nat.pow_succ 2 h
  have h2 := f.2
  refine ⟨?_, by omega⟩
  have h3 := f.1
  have h4 : 2 ^ h ∣ 2 ^ (h + 1) := ⟨2, h1⟩
  exact Nat.mod_eq_zero_of_dvd (Nat.dvd_trans h4 (Nat.dvd_of_mod_eq_zero h3))
theorem Fit.le {a g b : Nat} : ∀ h, h ≤ g → Fit a g b → Fit a h b := by
  intro h hg f
  induction g with
  | zero => obtain rfl : h = 0 := by omega
            exact f
  | succ g ih =>
    rcases Nat.lt_or_ge h (g + 1) with h1 | h1
    · exact ih (by omega) f.down
    · obtain rfl : h = g + 1 := by omega
      exact f
theorem Fit.zero {a b : Nat} (h : a < b) : Fit a 0 b := ⟨Nat.mod_one a, by simp; omega⟩
/-- the greatest height up to f that fits. -/
def HTF : Nat → Nat → Nat → Nat
  | 0, _, _ => 0
  | f + 1, a, b => if Fit a (f + 1) b then f + 1 else HTF f a b
/-- the height of the greatest tree that begins at a and does not reach beyond b. -/
def HT (a b : Nat) : Nat := HTF 62 a b
/-- spots that lie over the leaves from a to b - 1, one behind the other. -/
def Tile : Nat → List (Nat × Nat) → Nat → Prop
  | a, [], b => a = b
  | a, s :: l, b => Node s.1 s.2 ∧ s.2 * 2 ^ s.1 = a ∧ Tile ((s.2 + 1) * 2 ^ s.1) l b
theorem Tile.bound {l : List (Nat × Nat)} : ∀ {a b : Nat}, Tile a l b → a ≤ b ∧ (l ≠ [] → a < b ∧ b ≤ 4611686018427387904) := by
  induction l with
  | nil => intro a b h; exact ⟨by have : a = b := h; omega, fun h => absurd rfl h⟩
  | cons s l ih =>
    intro a b ⟨h1, h2, h3⟩
    have i := ih h3
    have := Nat.two_pow_pos s.1
    have e : (s.2 + 1) * 2 ^ s.1 = s.2 * 2 ^ s.1 + 2 ^ s.1 := by rw [Nat.add_mul, Nat.one_mul]
    refine ⟨by omega, fun _ => ⟨by omega, ?_⟩⟩
    cases l with
    | nil =>
      have h4 : (s.2 + 1) * 2 ^ s.1 = b := h3
      have := h1.span
      simp at this
      omega
    | cons t l => exact (i.2 (by simp)).2
theorem Tile.append {l m : List (Nat × Nat)} : ∀ {a b c : Nat}, Tile a l b → Tile b m c → Tile a (l ++ m) c := by
  induction l with
  | nil => intro a b c h h2; have : a = b := h; rw [this]; exact h2
  | cons s l ih => intro a b c ⟨h1, h2, h3⟩ h4; exact ⟨h1, h2, ih h3 h4⟩
theorem Tile.one {s : Nat × Nat} {a b : Nat} : Tile a [s] b ↔ Node s.1 s.2 ∧ s.2 * 2 ^ s.1 = a ∧ (s.2 + 1) * 2 ^ s.1 = b := Iff.rfl
end Go.Proofs.Ytlbcnaenhghieaa

/- The peaks of n leaves, one behind the other, in plain numbers. -/
namespace Go.Proofs.Ytlbcnaenhghieaa

end Go.Proofs.Ytlbcnaenhghieaa

/- The spots of the peaks are the span of all leaves. -/
namespace Go.Proofs.Ytlbcnaenhghieaa

end Go.Proofs.Ytlbcnaenhghieaa

/- Which nodes a proof has, as spots: the siblings on the way up and the other peaks; the peaks of an earlier size and the spots behind it. -/
namespace Go.Proofs.Ytlbcnaenhghieaa

/-- two spots have no leaf together. -/
def Off (s t : Nat × Nat) : Prop := (s.2 + 1) * 2 ^ s.1 ≤ t.2 * 2 ^ t.1 ∨ (t.2 + 1) * 2 ^ t.1 ≤ s.2 * 2 ^ s.1
/-- how many leaves lie under spots. -/
def SIZE (l : List (Nat × Nat)) : Nat := (l.map fun s => 2 ^ s.1).sum
theorem succ_pow (k h : Nat) : (k + 1) * 2 ^ h = k * 2 ^ h + 2 ^ h := by rw [Nat.add_mul, Nat.one_mul]
theorem Tile.size {l : List (Nat × Nat)} : ∀ {a b : Nat}, Tile a l b → a + SIZE l = b := by
  induction l with
  | nil => intro a b h; have : a = b := h; simp [SIZE, this]
  | cons s l ih =>
    intro a b ⟨h1, h2, h3⟩
    have := ih h3
    rw [succ_pow, h2] at this
    simp only [SIZE, List.map_cons, List.sum_cons] at this ⊢
    omega
theorem Tile.within {l : List (Nat × Nat)} : ∀ {a b : Nat}, Tile a l b → ∀ s ∈ l, a ≤ s.2 * 2 ^ s.1 ∧ (s.2 + 1) * 2 ^ s.1 ≤ b ∧ Node s.1 s.2 := by
  induction l with
  | nil => intro a b _ s hs; simp at hs
  | cons t l ih =>
    intro a b ⟨h1, h2, h3⟩ s hs
    rcases List.mem_cons.1 hs with rfl | hs
    · exact ⟨by omega, h3.bound.1, h1⟩
    · have := ih h3 s hs
      have h4 := succ_pow t.2 t.1
      have h5 := Nat.two_pow_pos t.1
      exact ⟨by omega, this.2⟩
theorem Tile.off {l : List (Nat × Nat)} : ∀ {a b : Nat}, Tile a l b → l.Pairwise Off := by
  induction l with
  | nil => intro a b _; exact List.Pairwise.nil
  | cons t l ih =>
    intro a b ⟨h1, h2, h3⟩
    refine List.Pairwise.cons (fun s hs => ?_) (ih h3)
    exact .inl (h3.within s hs).1
end Go.Proofs.Ytlbcnaenhghieaa

/- What the small functions of package pos answer: tree, ahead, Nodes, over, beside, Leaf. -/
namespace Go.Proofs.Ytlbcnaenhghieaa
open Go.RowKit

end Go.Proofs.Ytlbcnaenhghieaa

/- What Spot answers: the node that stands at a place. -/
namespace Go.Proofs.Ytlbcnaenhghieaa
open Go.RowKit

end Go.Proofs.Ytlbcnaenhghieaa

/- What Index, Leaves, Parent, Sibling, Kids, Right, Under and Since answer. -/
namespace Go.Proofs.Ytlbcnaenhghieaa
open Go.RowKit

end Go.Proofs.Ytlbcnaenhghieaa

/- What Place answers. -/
namespace Go.Proofs.Ytlbcnaenhghieaa
open Go.RowKit

end Go.Proofs.Ytlbcnaenhghieaa

/- What the document's answers for layer 3 give: Power, Nodes, Leaf, Leaves. -/
namespace Go.Proofs.Ytlbcnaenhghieaa
open Go.RowKit

end Go.Proofs.Ytlbcnaenhghieaa

/- What the document's Spot gives. -/
namespace Go.Proofs.Ytlbcnaenhghieaa
open Go.RowKit

end Go.Proofs.Ytlbcnaenhghieaa

/- What the functions of package pos answer, node by node. -/
namespace Go.Proofs.Ytlbcnaenhghieaa
open Go.RowKit

end Go.Proofs.Ytlbcnaenhghieaa

/- What the document's answers give for a node's kin. -/
namespace Go.Proofs.Ytlbcnaenhghieaa
open Go.RowKit

end Go.Proofs.Ytlbcnaenhghieaa

/- slices.Backward over a list of heights: the heights come from the last to the first. -/
namespace Go.Proofs.Ytlbcnaenhghieaa
open Go.RowKit Go.Shelf

attribute [local go_sem] Oper.semAt_some

end Go.Proofs.Ytlbcnaenhghieaa

/- What Peaks answers: the places of the peaks, in a list of its own. -/
namespace Go.Proofs.Ytlbcnaenhghieaa
open Go.RowKit Go.Shelf

attribute [local go_sem] Oper.semAt_some

/-- numbers as cells. -/
def UCELLS (l : List Nat) : List Value := l.map fun (x : Nat) => Value.int .u64 (x : Int)
theorem UCELLS_snoc (l : List Nat) (x : Nat) : UCELLS (l ++ [x]) = UCELLS l ++ [.int .u64 (x : Int)] := by simp [UCELLS]
theorem UCELLS_length (l : List Nat) : (UCELLS l).length = l.length := by simp [UCELLS]
theorem info_u64 : (Try.prog.info? 31).map (fun i => (i.zero, i.size, i.bytes)) = some (some (.int .u64 0), 1, 8) := by kernel_rfl
theorem own_mono {w : World} {base base' : Nat} {t : TypeId} {s : Nat} {v : Value} {n : Nat} {xs : List Value} (h : w.ownsRow base t s v n xs) (hb : base' ≤ base) : w.ownsRow base' t s v n xs :=
  ⟨h.1, h.2.imp id fun ⟨g, c, cur, a, b, r⟩ => ⟨g, c, cur, a, Nat.le_trans hb b, r⟩⟩
end Go.Proofs.Ytlbcnaenhghieaa

/- What rise, Peak and Path answer. -/
namespace Go.Proofs.Ytlbcnaenhghieaa
open Go.RowKit

end Go.Proofs.Ytlbcnaenhghieaa

/- Lists of spots of one's own. -/
namespace Go.Proofs.Ytlbcnaenhghieaa
open Go.RowKit

/-- a list of spots lies there. -/
def Spots (w : World) (a : Option Addr) (l : List (Nat × Nat)) : Prop := 0 < l.length → ∃ g, a = some ⟨g, 0, none⟩ ∧ g < w.heap.size ∧ ∀ (j h k : Nat), l[j]? = some (h, k) → w.cell? ⟨g, j * 2, none⟩ = some (.int .u8 (h : Int)) ∧ w.cell? ⟨g, j * 2 + 1, none⟩ = some (.int .u64 (k : Int))
theorem Spots.below {w w' : World} {a : Option Addr} {l : List (Nat × Nat)} (h : Spots w a l) (hb : Below w.heap.size w w') : Spots w' a l := fun h0 => by
  obtain ⟨g, e, hg, hc⟩ := h h0
  exact ⟨g, e, Nat.lt_of_lt_of_le hg hb.size, fun j x y he => ⟨(hb.cell (p := ⟨g, j * 2, none⟩) hg).trans (hc j x y he).1, (hb.cell (p := ⟨g, j * 2 + 1, none⟩) hg).trans (hc j x y he).2⟩⟩
theorem own_below {w w' : World} {base : Nat} {t : TypeId} {s : Nat} {v : Value} {n : Nat} {xs : List Value} (h : w.ownsRow base t s v n xs) (hb : Below w.heap.size w w') : w'.ownsRow base t s v n xs := by
  refine ⟨h.1, h.2.imp id ?_⟩
  rintro ⟨g, c, cur, a, b, r, rest⟩
  exact ⟨g, c, cur, a, b, (hb.block g (Array.getElem?_eq_some_iff.1 r).1).trans r, rest⟩
end Go.Proofs.Ytlbcnaenhghieaa

/- What the document's Tops gives: the spots of the peaks. -/
namespace Go.Proofs.Ytlbcnaenhghieaa
open Go.RowKit

end Go.Proofs.Ytlbcnaenhghieaa

/- What the document's Peaks gives. -/
namespace Go.Proofs.Ytlbcnaenhghieaa
open Go.RowKit

end Go.Proofs.Ytlbcnaenhghieaa

/- What the document's Peak gives. -/
namespace Go.Proofs.Ytlbcnaenhghieaa
open Go.RowKit

end Go.Proofs.Ytlbcnaenhghieaa

/- Blocks of one's own in a world that is a variable. -/
namespace Go.Proofs.Ytlbcnaenhghieaa
open Go.RowKit

/-- the block g holds the cells c. -/
def Has (w : World) (g : Nat) (c : Array Value) (t : TypeId) : Prop := w.heap[g]? = some (.cells c t)
theorem Has.cell {w : World} {g : Nat} {c : Array Value} {t : TypeId} (h : Has w g c t) (i : Nat) : w.cell? ⟨g, i, none⟩ = c[i]? := cell_of_row w g i c t _ h
theorem Has.lt {w : World} {g : Nat} {c : Array Value} {t : TypeId} (h : Has w g c t) : g < w.heap.size := (Array.getElem?_eq_some_iff.1 h).1
theorem Has.frozen {w : World} {g : Nat} {c : Array Value} {t : TypeId} (h : Has w g c t) (i : Nat) : w.frozen? ⟨g, i, none⟩ = false := by
  have e : w.heap[g]? = some (.cells c t) := h
  simp [World.frozen?, e]
theorem Has.set {w : World} {g : Nat} {c : Array Value} {t : TypeId} (h : Has w g c t) (i : Nat) (v : Value) : Has (w.setCell ⟨g, i, none⟩ v) g (c.setIfInBounds i v) t := by
  have e : w.heap[g]? = some (.cells c t) := h
  unfold Has
  rw [setCell_eq_setRow w g i c t _ v e, setRow_heap w g c _ t _ e]
theorem Has.below {B : Nat} {w w' : World} {g : Nat} {c : Array Value} {t : TypeId} (h : Has w g c t) (hb : Below B w w') (hg : g < B) : Has w' g c t := (hb.block g hg).trans h
theorem Has.keep {w w' : World} {g : Nat} {c : Array Value} {t : TypeId} (h : Has w g c t) (hb : Below w.heap.size w w') : Has w' g c t := h.below hb h.lt
theorem Has.alloc {w : World} {g : Nat} {c : Array Value} {t : TypeId} (h : Has w g c t) (o : Obj) : Has (w.alloc o) g c t := by
  have e : w.heap[g]? = some (.cells c t) := h
  unfold Has
  rw [Below.heap_alloc w o g h.lt, e]
theorem Has.new (w : World) (c : Array Value) (t : TypeId) : Has (w.alloc (.cells c t)) w.heap.size c t := heap_alloc_new w _
theorem Has.at (w : World) (c : Array Value) (t : TypeId) {g : Nat} (hg : g = w.heap.size) : Has (w.alloc (.cells c t)) g c t := by subst hg; exact Has.new w c t
theorem Has.row {w : World} {g : Nat} {c : Array Value} {t : TypeId} (h : Has w g c t) (c' : Array Value) : Has (w.setRow g c') g c' t := setRow_heap w g c c' t _ h
theorem Has.row_other {w : World} {g k : Nat} {c : Array Value} {t : TypeId} (h : Has w g c t) (hk : g ≠ k) (c' : Array Value) : Has (w.setRow k c') g c t := by
  have e : w.heap[g]? = some (.cells c t) := h
  unfold Has
  rw [setRow_other w k g c' hk, e]
theorem Has.drewN {w : World} {g : Nat} {c : Array Value} {t : TypeId} (h : Has w g c t) (n : Nat) : Has (w.drewN n) g c t := h
theorem below_row {B g : Nat} {w0 w : World} (hb : Below B w0 w) (hBg : B ≤ g) (cs : Array Value) : Below B w0 (w.setRow g cs) :=
  ⟨hb.os, hb.tape, hb.output, by have := hb.size; simpa [World.setRow] using this, fun k hk => by rw [setRow_other w g k cs (by omega)]; exact hb.block k hk⟩
end Go.Proofs.Ytlbcnaenhghieaa

/- What the document's Path gives. -/
namespace Go.Proofs.Ytlbcnaenhghieaa
open Go.RowKit

end Go.Proofs.Ytlbcnaenhghieaa

/- awake answers true: the forest of seven leaves. -/
namespace Go.Proofs.Ytlbcnaenhghieaa
open Go.RowKit

end Go.Proofs.Ytlbcnaenhghieaa
