/- Texts of SpanBytes, one behind the other: PosPlace, PosOk, ManySearch, ManyPlain, ManyPeaks, CutPlain, PosCoversPlain, CutTopsPlain, ManySetsPlain, ProofPlain, ManySplit, ManyRise, ManyRefPlain, PosPath, PosHas, ManyTake, PosRef. -/
import Derived.BigQuiet
import Derived.Deep.Cut
import Derived.WalkLawsBesides
import Derived.Deep.AppendLies
import Derived.Test.YtmkgldjocigffaaDoorProg
import Derived.WalkKit
import Derived.Deep.WholeRow
import Derived.Deep.LoopGhost
import Derived.Laws.ResultCell
import Derived.Laws.Rows
import Derived.Laws.Tables
import Derived.Test.YtmkgldjocigffaaDoorSpanBytesP3
/- What Place answers. -/
namespace Go.Proofs.YtmkgldjocigffaaDoor
open Go.RowKit

theorem quiet_eq {P : Program} {f : FuncId} {args : Array Value} {w : World} {n : Nat} {v : Value}
    (h : Calls P f args (w.drewN n) fun e w' => e = .returned v ∧ w.drewN n = w') : Calls P f args (w.drewN n) fun e w'' => e = .returned v ∧ ∃ m, w'' = w.drewN m :=
  h.mono fun _ _ ⟨he, hm⟩ => ⟨he, n, hm.symm⟩
end Go.Proofs.YtmkgldjocigffaaDoor

/- What the functions of package pos answer, node by node. -/
namespace Go.Proofs.YtmkgldjocigffaaDoor
open Go.RowKit

theorem shift_eq (a h : Nat) (hh : h ≤ 62) (hl : a * 2 ^ h < 2 ^ 64) : IntKind.u64.wrap ((a : Int) * 2 ^ min h 64) = ((a * 2 ^ h : Nat) : Int) := by
  rw [show min h 64 = h by omega, mul_cast, Nat.mod_eq_of_lt hl]
theorem Node.kid {h k : Nat} (a : Node (h + 1) k) : Node h (2 * k) ∧ Node h (2 * k + 1) := by
  have h1 := a.1
  have h2 := a.2
  have e : 2 ^ (62 - h) = 2 ^ (62 - (h + 1)) * 2 := by rw [← Nat.pow_succ]; congr 1; omega
  exact ⟨⟨by omega, by rw [e]; omega⟩, ⟨by omega, by rw [e]; omega⟩⟩
theorem kids_ok (h k : Nat) (hN : Node (h + 1) k) (w : World) : Calls Tryd.prog 65 #[.int .u64 ((PLC (h + 1) k : Nat) : Int)] w fun e w' => e = .returned (.tuple #[.int .u64 ((PLC h (2 * k) : Nat) : Int), .int .u64 ((PLC h (2 * k + 1) : Nat) : Int), .bool true]) ∧ Below w.heap.size w w' := by
  have h1 := hN.1
  have h2 := PLC_up_right h k
  have h3 := PLC_sib h k
  have h4 := hN.lt
  refine kids_raw _ ((PLC h (2 * k + 1) : Nat) : Int) (h + 1) h k _ w (by simp; omega) (by unfold wrap64; omega) (by unfold wrap64; omega) (by rw [wrapU]; omega) (.node hN) (fun w => ?_)
  have := beside_right (PLC h (2 * k + 1) : Nat) (h : Int) (TREE h : Nat) w (fun w => tree_ok h (by omega) w)
  rw [show IntKind.u64.wrap (((PLC h (2 * k + 1) : Nat) : Int) - ((TREE h : Nat) : Int)) = ((PLC h (2 * k) : Nat) : Int) by rw [wrapU]; omega] at this
  exact this
theorem under_ok (h k : Nat) (hN : Node h k) (w : World) : Calls Tryd.prog 12 #[.int .u64 ((PLC h k : Nat) : Int)] w fun e w' => e = .returned (.tuple #[.int .u64 ((k * 2 ^ h : Nat) : Int), .int .u64 (((k + 1) * 2 ^ h : Nat) : Int), .bool true]) ∧ Below w.heap.size w w' := by
  have h1 := hN.1
  have h3 := hN.span
  have h4 := hN.index_lt
  have h5 : k * 2 ^ h ≤ (k + 1) * 2 ^ h := Nat.mul_le_mul_right _ (by omega)
  refine under_raw _ h k _ _ w (by rw [wrapU]; omega) (shift_eq k h h1 (by omega)) ?_ (.node hN)
  have := shift_eq (k + 1) h h1 (by omega)
  rw [show (((k + 1 : Nat)) : Int) = (k : Int) + 1 by omega] at this
  exact this
end Go.Proofs.YtmkgldjocigffaaDoor

/- A list of numbers that lies there; slices.BinarySearch over a rising one. -/
namespace Go.Proofs.YtmkgldjocigffaaDoor
open Go.RowKit
set_option maxRecDepth 100000

/-- numbers that lie there, at any place of a block. -/
def NUML (w : World) (a : Option Addr) (L : List Nat) : Prop := 0 < L.length → ∃ b o, a = some ⟨b, o, none⟩ ∧ b < w.heap.size ∧ ∀ i x, L[i]? = some x → w.cell? ⟨b, o + i, none⟩ = some (.int .u64 ((x : Nat) : Int))
theorem NUML.below {w w' : World} {a : Option Addr} {L : List Nat} {B : Nat} (h : NUML w a L) (hb : Below B w w') (hB : ∀ x, a = some x → x.block < B) : NUML w' a L := fun h0 => by
  obtain ⟨b, o, e, hl, hc⟩ := h h0
  have h1 : b < B := hB _ e
  exact ⟨b, o, e, by have := hb.size; omega, fun i x hx => (hb.cell (p := ⟨b, o + i, none⟩) h1).trans (hc i x hx)⟩
/-- each one above the one ahead. -/
def RISES (L : List Nat) : Prop := ∀ (i j x y : Nat), i < j → L[i]? = some x → L[j]? = some y → x < y
/-- k of them are below t. -/
structure RANKS (L : List Nat) (t k : Nat) : Prop where
  le : k ≤ L.length
  lo : ∀ i x, i < k → L[i]? = some x → x < t
  hi : ∀ i x, k ≤ i → L[i]? = some x → t ≤ x
end Go.Proofs.YtmkgldjocigffaaDoor

/- Which nodes leaves need: plain. -/
namespace Go.Proofs.YtmkgldjocigffaaDoor
set_option maxRecDepth 100000

/-- the places that the leaves L under the k-th node of height h need, rising. -/
def NEED : Nat → Nat → List Nat → List Nat
  | h, k, [] => [PLC h k]
  | 0, _, _ :: _ => []
  | h + 1, k, x :: l => NEED h (2 * k) ((x :: l).filter fun y => decide (y < (2 * k + 1) * 2 ^ h)) ++ NEED h (2 * k + 1) ((x :: l).filter fun y => !decide (y < (2 * k + 1) * 2 ^ h))
theorem NEED_nil (h k : Nat) : NEED h k [] = [PLC h k] := by cases h <;> rfl
theorem NEED_node (h k x : Nat) (l : List Nat) : NEED (h + 1) k (x :: l) = NEED h (2 * k) ((x :: l).filter fun y => decide (y < (2 * k + 1) * 2 ^ h)) ++ NEED h (2 * k + 1) ((x :: l).filter fun y => !decide (y < (2 * k + 1) * 2 ^ h)) := rfl
/-- the first r of a rising list are those below t. -/
theorem RANKS.take : ∀ {L : List Nat} {t r : Nat}, RANKS L t r → L.take r = L.filter fun y => decide (y < t)
  | [], t, r, _ => by simp
  | x :: l, t, 0, h => by
    rw [List.take_zero]
    symm
    rw [List.filter_eq_nil_iff]
    intro y hy
    obtain ⟨i, hi⟩ := List.getElem?_of_mem hy
    have := h.hi i y (Nat.zero_le _) hi
    simp
    omega
  | x :: l, t, r + 1, h => by
    have hx : x < t := h.lo 0 x (by omega) rfl
    have h' : RANKS l t r := ⟨by have := h.le; simp at this; omega, fun i y hi hy => h.lo (i + 1) y (by omega) (by simpa using hy), fun i y hi hy => h.hi (i + 1) y (by omega) (by simpa using hy)⟩
    rw [List.take_succ_cons, List.filter_cons_of_pos (by simpa using hx), h'.take]
theorem RANKS.drop : ∀ {L : List Nat} {t r : Nat}, RANKS L t r → L.drop r = L.filter fun y => !decide (y < t)
  | [], t, r, _ => by simp
  | x :: l, t, 0, h => by
    rw [List.drop_zero]
    symm
    rw [List.filter_eq_self]
    intro y hy
    obtain ⟨i, hi⟩ := List.getElem?_of_mem hy
    have := h.hi i y (Nat.zero_le _) hi
    simp
    omega
  | x :: l, t, r + 1, h => by
    have hx : x < t := h.lo 0 x (by omega) rfl
    have h' : RANKS l t r := ⟨by have := h.le; simp at this; omega, fun i y hi hy => h.lo (i + 1) y (by omega) (by simpa using hy), fun i y hi hy => h.hi (i + 1) y (by omega) (by simpa using hy)⟩
    rw [List.drop_succ_cons, List.filter_cons_of_neg (by simpa using hx), h'.drop]
theorem RISES.take {L : List Nat} (h : RISES L) (r : Nat) : RISES (L.take r) := fun i j x y hij hx hy => by
  rw [List.getElem?_take] at hx hy
  split at hx
  · split at hy
    · exact h i j x y hij hx hy
    · cases hy
  · cases hx
theorem RISES.drop {L : List Nat} (h : RISES L) (r : Nat) : RISES (L.drop r) := fun i j x y hij hx hy => by
  rw [List.getElem?_drop] at hx hy
  exact h (r + i) (r + j) x y (by omega) hx hy
/-- the peaks' leaves, one peak behind the other. -/
def NEEDS : List (Nat × Nat) → List Nat → List Nat
  | [], _ => []
  | (h, k) :: ps, L => NEED h k (L.filter fun y => decide (y < (k + 1) * 2 ^ h)) ++ NEEDS ps (L.filter fun y => !decide (y < (k + 1) * 2 ^ h))
end Go.Proofs.YtmkgldjocigffaaDoor

/- The peaks as spots. -/
namespace Go.Proofs.YtmkgldjocigffaaDoor
set_option maxRecDepth 100000

/-- the peaks of n leaves, from the left: height and index. -/
def TPS (n : Nat) : List (Nat × Nat) := (HS 0 n).map fun h => (h, 2 * (n / 2 ^ (h + 1)))
theorem drop_at {α : Type} : ∀ {l : List α} {j : Nat} {x : α}, l[j]? = some x → l.drop j = x :: l.drop (j + 1)
  | [], j, x, h => by simp at h
  | y :: l, 0, x, h => by
    simp only [List.getElem?_cons_zero, Option.some.injEq] at h
    rw [h]
    rfl
  | y :: l, j + 1, x, h => by
    rw [List.getElem?_cons_succ] at h
    rw [List.drop_succ_cons, List.drop_succ_cons]
    exact drop_at h
theorem TPS_length {n : Nat} (hn : n < 2 ^ 64) : (TPS n).length = PC n := by
  rw [TPS, List.length_map, HS_length hn 0 (by decide), Nat.pow_zero, Nat.div_one]
theorem TPS_peak {n j h k : Nat} (e : (TPS n)[j]? = some (h, k)) : (PEAKS n)[j]? = some (PLC h k) := by
  unfold TPS at e
  unfold PEAKS
  rw [List.getElem?_map] at e ⊢
  cases hj : (HS 0 n)[j]? with
  | none => rw [hj] at e; cases e
  | some x =>
    rw [hj] at e
    simp only [Option.map_some, Option.some.injEq, Prod.mk.injEq] at e
    obtain ⟨rfl, rfl⟩ := e
    rfl
theorem node_of_span {h k : Nat} (hh : h ≤ 62) (hs : (k + 1) * 2 ^ h ≤ 2 ^ 62) : Node h k := by
  refine ⟨hh, ?_⟩
  rcases Nat.lt_or_ge k (2 ^ (62 - h)) with h1 | h1
  · exact h1
  · have h2 : (2 ^ (62 - h) + 1) * 2 ^ h ≤ (k + 1) * 2 ^ h := Nat.mul_le_mul_right _ (by omega)
    rw [Nat.add_mul, ← Nat.pow_add, show 62 - h + h = 62 by omega] at h2
    have := Nat.two_pow_pos h
    omega
theorem TPS_span {n h k : Nat} (hn : n ≤ 2 ^ 62) (hm : (h, k) ∈ TPS n) : h ≤ 62 ∧ (k + 1) * 2 ^ h ≤ n ∧ Node h k := by
  unfold TPS at hm
  rw [List.mem_map] at hm
  obtain ⟨x, hx, e⟩ := hm
  simp only [Prod.mk.injEq] at e
  obtain ⟨rfl, rfl⟩ := e
  obtain ⟨_, h2, h3⟩ := HS_set_of 0 x (by decide) hx
  have h4 : 2 * (n / 2 ^ (x + 1)) + 1 = n / 2 ^ x := by
    rw [Nat.pow_succ, ← Nat.div_div_eq_div_mul]
    omega
  have h5 : (2 * (n / 2 ^ (x + 1)) + 1) * 2 ^ x ≤ n := by rw [h4]; exact Nat.div_mul_le_self n (2 ^ x)
  have h6 : x ≤ 62 := by
    rcases Nat.lt_or_ge 62 x with h7 | h7
    · have h8 : 2 ^ 63 ≤ 2 ^ x := Nat.pow_le_pow_right (by decide) h7
      have h9 : 1 * 2 ^ x ≤ (2 * (n / 2 ^ (x + 1)) + 1) * 2 ^ x := Nat.mul_le_mul_right _ (by omega)
      omega
    · exact h7
  exact ⟨h6, h5, node_of_span h6 (by omega)⟩
end Go.Proofs.YtmkgldjocigffaaDoor

/- Spans of leaves as perfect trees, in plain numbers. -/
namespace Go.Proofs.YtmkgldjocigffaaDoor

/-- a perfect tree of height h begins at a and does not reach beyond b. -/
abbrev Fit (a h b : Nat) : Prop := a % 2 ^ h = 0 ∧ a + 2 ^ h ≤ b
theorem Fit.down {a h b : Nat} (f : Fit a (h + 1) b) : Fit a h b := by
  have h1 : 2 ^ (h + 1) = 2 ^ h * 2 := Nat.pow_succ 2 h
  have h2 := f.2
  refine ⟨?_, by omega⟩
  have h3 := f.1
  have h4 : 2 ^ h ∣ 2 ^ (h + 1) := ⟨2, h1⟩
  exact Nat.mod_eq_zero_of_dvd (Nat.dvd_trans h4 (Nat.dvd_of_mod_eq_zero h3))
theorem Fit.le {a g b : Nat} : ∀ h, h ≤ g → Fit a g b → Fit a h b := by
  intro h hg f
  induction g with
  | zero => obtain rfl : h = 0 := by omega
            exact f
  | succ g ih =>
    rcases Nat.lt_or_ge h (g + 1) with h1 | h1
    · exact ih (by omega) f.down
    · obtain rfl : h = g + 1 := by omega
      exact f
theorem Fit.zero {a b : Nat} (h : a < b) : Fit a 0 b := ⟨Nat.mod_one a, by simp; omega⟩
/-- the greatest height up to f that fits. -/
def HTF : Nat → Nat → Nat → Nat
  | 0, _, _ => 0
  | f + 1, a, b => if Fit a (f + 1) b then f + 1 else HTF f a b
/-- the height of the greatest tree that begins at a and does not reach beyond b. -/
def HT (a b : Nat) : Nat := HTF 62 a b
/-- spots that lie over the leaves from a to b - 1, one behind the other. -/
def Tile : Nat → List (Nat × Nat) → Nat → Prop
  | a, [], b => a = b
  | a, s :: l, b => Node s.1 s.2 ∧ s.2 * 2 ^ s.1 = a ∧ Tile ((s.2 + 1) * 2 ^ s.1) l b
/-- two neighbours that are siblings. -/
abbrev Sibs (x y : Nat × Nat) : Prop := x.1 = y.1 ∧ x.2 % 2 = 0 ∧ y.2 = x.2 + 1
/-- no two neighbours are siblings. -/
def Irr : List (Nat × Nat) → Prop
  | [] => True
  | x :: l => (∀ y, l.head? = some y → ¬ Sibs x y) ∧ Irr l
theorem Fit.node {a h b : Nat} (f : Fit a h b) (hh : h ≤ 62) (hb : b ≤ 4611686018427387904) : Node h (a / 2 ^ h) ∧ a / 2 ^ h * 2 ^ h = a ∧ (a / 2 ^ h + 1) * 2 ^ h = a + 2 ^ h := by
  have h1 : a / 2 ^ h * 2 ^ h = a := Nat.div_mul_cancel (Nat.dvd_of_mod_eq_zero f.1)
  have h2 : (a / 2 ^ h + 1) * 2 ^ h = a + 2 ^ h := by rw [Nat.add_mul, Nat.one_mul, h1]
  refine ⟨⟨hh, ?_⟩, h1, h2⟩
  have h3 : (a / 2 ^ h + 1) * 2 ^ h ≤ 2 ^ (62 - h) * 2 ^ h := by
    rw [h2, ← Nat.pow_add, show 62 - h + h = 62 by omega]
    have := f.2
    simp
    omega
  exact Nat.le_of_mul_le_mul_right h3 (Nat.two_pow_pos h)
theorem Tile.bound {l : List (Nat × Nat)} : ∀ {a b : Nat}, Tile a l b → a ≤ b ∧ (l ≠ [] → a < b ∧ b ≤ 4611686018427387904) := by
  induction l with
  | nil => intro a b h; exact ⟨by have : a = b := h; omega, fun h => absurd rfl h⟩
  | cons s l ih =>
    intro a b ⟨h1, h2, h3⟩
    have i := ih h3
    have := Nat.two_pow_pos s.1
    have e : (s.2 + 1) * 2 ^ s.1 = s.2 * 2 ^ s.1 + 2 ^ s.1 := by rw [Nat.add_mul, Nat.one_mul]
    refine ⟨by omega, fun _ => ⟨by omega, ?_⟩⟩
    cases l with
    | nil =>
      have h4 : (s.2 + 1) * 2 ^ s.1 = b := h3
      have := h1.span
      simp at this
      omega
    | cons t l => exact (i.2 (by simp)).2
theorem Tile.append {l m : List (Nat × Nat)} : ∀ {a b c : Nat}, Tile a l b → Tile b m c → Tile a (l ++ m) c := by
  induction l with
  | nil => intro a b c h h2; have : a = b := h; rw [this]; exact h2
  | cons s l ih => intro a b c ⟨h1, h2, h3⟩ h4; exact ⟨h1, h2, ih h3 h4⟩
theorem Tile.node {l : List (Nat × Nat)} : ∀ {a b i h k : Nat}, Tile a l b → l[i]? = some (h, k) → Node h k := by
  induction l with
  | nil => intro a b i h k _ e; simp at e
  | cons s l ih =>
    intro a b i h k ⟨h1, h2, h3⟩ e
    cases i with
    | zero => simp at e; subst e; exact h1
    | succ i => exact ih h3 (by simpa using e)
theorem Tile.one {s : Nat × Nat} {a b : Nat} : Tile a [s] b ↔ Node s.1 s.2 ∧ s.2 * 2 ^ s.1 = a ∧ (s.2 + 1) * 2 ^ s.1 = b := Iff.rfl
end Go.Proofs.YtmkgldjocigffaaDoor

/- The peaks of n leaves, one behind the other, in plain numbers. -/
namespace Go.Proofs.YtmkgldjocigffaaDoor

theorem PC_eq_zero {n : Nat} (h : PC n = 0) : n = 0 := by
  induction n using Nat.strongRecOn with
  | _ n ih =>
    by_cases h0 : n = 0
    · exact h0
    · rw [PC_step] at h
      have := ih (n / 2) (by omega) (by omega)
      omega
theorem PC_split (n a b : Nat) (hab : a ≤ b) : n / 2 ^ a = n / 2 ^ b * 2 ^ (b - a) + n / 2 ^ a % 2 ^ (b - a) ∧ PC (n / 2 ^ a) = PC (n / 2 ^ b) + PC (n / 2 ^ a % 2 ^ (b - a)) := by
  have e : n / 2 ^ b = n / 2 ^ a / 2 ^ (b - a) := by rw [Nat.div_div_eq_div_mul, ← Nat.pow_add, show a + (b - a) = b by omega]
  have h1 : n / 2 ^ a = n / 2 ^ b * 2 ^ (b - a) + n / 2 ^ a % 2 ^ (b - a) := by
    rw [e, Nat.mul_comm]
    exact (Nat.div_add_mod _ _).symm
  refine ⟨h1, ?_⟩
  have h2 := PC_add (b - a) (n / 2 ^ b) (n / 2 ^ a % 2 ^ (b - a)) (Nat.mod_lt _ (Nat.two_pow_pos _))
  rw [← h1] at h2
  exact h2
theorem PC_mono (n : Nat) {a b : Nat} (hab : a ≤ b) : PC (n / 2 ^ b) ≤ PC (n / 2 ^ a) := by
  have := (PC_split n a b hab).2
  omega
theorem trunc_eq (n : Nat) {a b : Nat} (hab : a ≤ b) (h : PC (n / 2 ^ a) = PC (n / 2 ^ b)) : n / 2 ^ a * 2 ^ a = n / 2 ^ b * 2 ^ b := by
  obtain ⟨h1, h2⟩ := PC_split n a b hab
  have h3 : n / 2 ^ a % 2 ^ (b - a) = 0 := PC_eq_zero (by omega)
  rw [h3, Nat.add_zero] at h1
  rw [h1, Nat.mul_assoc, ← Nat.pow_add, show b - a + a = b by omega]
theorem HS_index {n : Nat} (hn : n < 2 ^ 64) : ∀ h, h ≤ 64 → ∀ i, i < PC (n / 2 ^ h) → ∃ g, h ≤ g ∧ g < 64 ∧ (HS h n)[i]? = some g ∧ n / 2 ^ g % 2 = 1 ∧ i = PC (n / 2 ^ (g + 1)) := by
  have key : ∀ d h, h + d = 64 → ∀ i, i < PC (n / 2 ^ h) → ∃ g, h ≤ g ∧ g < 64 ∧ (HS h n)[i]? = some g ∧ n / 2 ^ g % 2 = 1 ∧ i = PC (n / 2 ^ (g + 1)) := by
    intro d
    induction d with
    | zero =>
      intro h e i hi
      obtain rfl : h = 64 := by omega
      rw [Nat.div_eq_of_lt hn, PC_zero] at hi
      omega
    | succ d ih =>
      intro h e i hi
      have hl := HS_length hn (h + 1) (by omega)
      have hs : PC (n / 2 ^ h) = n / 2 ^ h % 2 + PC (n / 2 ^ (h + 1)) := by rw [PC_step, half_pow]
      rcases Nat.lt_or_ge i (PC (n / 2 ^ (h + 1))) with h1 | h1
      · obtain ⟨g, a, b, c, r⟩ := ih (h + 1) (by omega) i h1
        refine ⟨g, by omega, b, ?_, r⟩
        by_cases hb : n / 2 ^ h % 2 = 1
        · rw [HS_set (by omega) hb, List.getElem?_append_left (by omega)]
          exact c
        · rw [HS_clear (by omega) hb]
          exact c
      · have hb : n / 2 ^ h % 2 = 1 := by omega
        have hi' : i = PC (n / 2 ^ (h + 1)) := by omega
        refine ⟨h, Nat.le_refl _, by omega, ?_, hb, hi'⟩
        rw [HS_set (by omega) hb, List.getElem?_append_right (by omega), hl, hi']
        simp
  intro h hh
  exact key (64 - h) h (by omega)
/-- the height of the peak i of n leaves; the leaves ahead of it. -/
def HGT (n i : Nat) : Nat := (HS 0 n).getD i 0
def AHEAD (n : Nat) : Nat → Nat
  | 0 => 0
  | i + 1 => n / 2 ^ HGT n i * 2 ^ HGT n i
theorem HGT_at {n i : Nat} (hn : n < 2 ^ 64) (hi : i < PC n) : (HS 0 n)[i]? = some (HGT n i) ∧ n / 2 ^ HGT n i % 2 = 1 ∧ i = PC (n / 2 ^ (HGT n i + 1)) := by
  obtain ⟨g, _, _, c, d, e⟩ := HS_index hn 0 (by omega) i (by rw [Nat.pow_zero, Nat.div_one]; exact hi)
  have hg : HGT n i = g := by unfold HGT; rw [List.getD_eq_getElem?_getD, c]; rfl
  rw [hg]
  exact ⟨c, d, e⟩
/-- the index of the peak i among the nodes of its height. -/
def KGT (n i : Nat) : Nat := 2 * (n / 2 ^ (HGT n i + 1))
theorem PEAK_node {n i : Nat} (hn : n ≤ 4611686018427387904) (hi : i < PC n) : Node (HGT n i) (KGT n i) := Node.peak hn (HGT_at (by omega) hi).2.1
theorem PC_after {n i : Nat} (hn : n < 2 ^ 64) (hi : i < PC n) : PC (n / 2 ^ HGT n i) = i + 1 := by
  obtain ⟨_, h2, h3⟩ := HGT_at hn hi
  rw [PC_step, ← half_pow]
  omega
theorem HGT_falls {n i : Nat} (hn : n < 2 ^ 64) (hi : i + 1 < PC n) : HGT n (i + 1) < HGT n i := by
  have h1 := PC_after hn (i := i) (by omega)
  have h2 := (HGT_at hn hi).2.2
  rcases Nat.lt_or_ge (HGT n (i + 1)) (HGT n i) with h | h
  · exact h
  · have h3 := PC_mono n (a := HGT n i + 1) (b := HGT n (i + 1) + 1) (by omega)
    have h4 := (HGT_at hn (i := i) (by omega)).2.2
    omega
theorem AHEAD_from {n i : Nat} (hn : n < 2 ^ 64) (hi : i < PC n) : KGT n i * 2 ^ HGT n i = AHEAD n i := by
  have hk : KGT n i * 2 ^ HGT n i = n / 2 ^ (HGT n i + 1) * 2 ^ (HGT n i + 1) := double_pow _ _
  have h2 := (HGT_at hn hi).2.2
  cases i with
  | zero =>
    rw [hk, PC_eq_zero h2.symm, Nat.zero_mul]
    rfl
  | succ i =>
    have h1 := PC_after hn (i := i) (by omega)
    have h3 := HGT_falls hn hi
    rw [hk]
    exact trunc_eq n (by omega) (by omega)
theorem AHEAD_to {n i : Nat} (hn : n < 2 ^ 64) (hi : i < PC n) : (KGT n i + 1) * 2 ^ HGT n i = AHEAD n (i + 1) := by
  have := at_set (HGT_at hn hi).2.1
  show (2 * (n / 2 ^ (HGT n i + 1)) + 1) * 2 ^ HGT n i = n / 2 ^ HGT n i * 2 ^ HGT n i
  rw [← this]
theorem AHEAD_all {n : Nat} (hn : n < 2 ^ 64) : AHEAD n (PC n) = n := by
  cases h : PC n with
  | zero =>
    rw [PC_eq_zero h]
    rfl
  | succ i =>
    have h1 := PC_after hn (i := i) (by omega)
    have h2 := trunc_eq n (a := 0) (b := HGT n i) (by omega) (by rw [Nat.pow_zero, Nat.div_one]; omega)
    rw [Nat.pow_zero, Nat.div_one, Nat.mul_one] at h2
    exact h2.symm
end Go.Proofs.YtmkgldjocigffaaDoor

/- The spots of the peaks are the span of all leaves. -/
namespace Go.Proofs.YtmkgldjocigffaaDoor

/-- the peaks' spots from the j-th on. -/
def PKS (n j c : Nat) : List (Nat × Nat) := (List.range' j c).map fun i => (HGT n i, KGT n i)
theorem PKS_step (n j c : Nat) : PKS n j (c + 1) = (HGT n j, KGT n j) :: PKS n (j + 1) c := by simp [PKS, List.range'_succ]
theorem PKS_at {n c i : Nat} (h : i < c) : (PKS n 0 c)[i]? = some (HGT n i, KGT n i) := by
  simp [PKS, h]
theorem PKS_tile {n : Nat} (hn : n ≤ 4611686018427387904) : ∀ c j, j + c = PC n → Tile (AHEAD n j) (PKS n j c) n ∧ Irr (PKS n j c) := by
  intro c
  induction c with
  | zero =>
    intro j e
    obtain rfl : j = PC n := by omega
    exact ⟨AHEAD_all (by omega), trivial⟩
  | succ c ih =>
    intro j e
    obtain ⟨i1, i2⟩ := ih (j + 1) (by omega)
    rw [PKS_step]
    refine ⟨⟨PEAK_node hn (by omega), AHEAD_from (by omega) (by omega), ?_⟩, ?_, i2⟩
    · show Tile ((KGT n j + 1) * 2 ^ HGT n j) _ n
      rw [AHEAD_to (by omega) (by omega)]
      exact i1
    · intro y hy ⟨h1, _, _⟩
      cases c with
      | zero => simp [PKS] at hy
      | succ c =>
        rw [PKS_step] at hy
        simp at hy
        subst hy
        have := HGT_falls (n := n) (i := j) (by omega) (by omega)
        dsimp only at h1
        omega
end Go.Proofs.YtmkgldjocigffaaDoor

/- What leaves need, and they, are all leaves, none twice: plain. -/
namespace Go.Proofs.YtmkgldjocigffaaDoor
set_option maxRecDepth 100000

/-- the spots that leaves under a node need. -/
def NSP : Nat → Nat → List Nat → List (Nat × Nat)
  | h, k, [] => [(h, k)]
  | 0, _, _ :: _ => []
  | h + 1, k, x :: l => NSP h (2 * k) ((x :: l).filter fun y => decide (y < (2 * k + 1) * 2 ^ h)) ++ NSP h (2 * k + 1) ((x :: l).filter fun y => !decide (y < (2 * k + 1) * 2 ^ h))
def SPL (s : Nat × Nat) : Nat := PLC s.1 s.2
theorem NSP_nil (h k : Nat) : NSP h k [] = [(h, k)] := by cases h <;> rfl
theorem NEED_NSP : ∀ (h k : Nat) (L : List Nat), NEED h k L = (NSP h k L).map SPL
  | h, k, [] => by rw [NEED_nil, NSP_nil]; rfl
  | 0, _, _ :: _ => rfl
  | h + 1, k, x :: l => by rw [NEED_node, NSP, List.map_append, ← NEED_NSP h, ← NEED_NSP h]
/-- where a spot's leaves begin, where they end. -/
def FRS (s : Nat × Nat) : Nat := s.2 * 2 ^ s.1
def TOE (s : Nat × Nat) : Nat := (s.2 + 1) * 2 ^ s.1
/-- spots and leaves that together are all from A up to B. -/
structure COVER (A B : Nat) (L : List Nat) (l : List (Nat × Nat)) : Prop where
  within : ∀ s ∈ l, A ≤ FRS s ∧ TOE s ≤ B
  off : ∀ s ∈ l, ∀ x ∈ L, ¬ (FRS s ≤ x ∧ x < TOE s)
  sum : (l.map fun s => 2 ^ s.1).sum + L.length = B - A
  order : l.Pairwise fun s t => TOE s ≤ FRS t
theorem twice_pow (h k : Nat) : k * 2 ^ (h + 1) = 2 * k * 2 ^ h ∧ (k + 1) * 2 ^ (h + 1) = (2 * k + 1 + 1) * 2 ^ h := by
  constructor
  · rw [Nat.pow_succ, Nat.mul_comm (2 ^ h) 2, ← Nat.mul_assoc, Nat.mul_comm k 2]
  · rw [Nat.pow_succ, Nat.mul_comm (2 ^ h) 2, ← Nat.mul_assoc, Nat.mul_comm (k + 1) 2, show 2 * (k + 1) = 2 * k + 1 + 1 by omega]
/-- the parent has one of the leaves under it. -/
def MET (L : List Nat) (s : Nat × Nat) : Prop := ∃ x ∈ L, FRS (s.1 + 1, s.2 / 2) ≤ x ∧ x < TOE (s.1 + 1, s.2 / 2)
theorem MET.mono {L L' : List Nat} {s : Nat × Nat} (h : MET L s) (hm : ∀ x ∈ L, x ∈ L') : MET L' s := by
  obtain ⟨x, hx, h1⟩ := h
  exact ⟨x, hm x hx, h1⟩
theorem TPS_eq {n : Nat} (hn : n ≤ 4611686018427387904) : TPS n = PKS n 0 (PC n) := by
  apply List.ext_getElem?
  intro i
  by_cases hi : i < PC n
  · rw [PKS_at hi]
    unfold TPS
    rw [List.getElem?_map, (HGT_at (by omega) hi).1]
    rfl
  · rw [List.getElem?_eq_none (by rw [TPS_length (by omega)]; omega), List.getElem?_eq_none (by simp [PKS]; omega)]
theorem TPS_tile {n : Nat} (hn : n ≤ 4611686018427387904) : Tile 0 (TPS n) n := by
  rw [TPS_eq hn]
  exact (PKS_tile hn (PC n) 0 (by omega)).1
end Go.Proofs.YtmkgldjocigffaaDoor

/- Which nodes a proof has, as spots: the siblings on the way up and the other peaks; the peaks of an earlier size and the spots behind it. -/
namespace Go.Proofs.YtmkgldjocigffaaDoor

/-- two spots have no leaf together. -/
def Off (s t : Nat × Nat) : Prop := (s.2 + 1) * 2 ^ s.1 ≤ t.2 * 2 ^ t.1 ∨ (t.2 + 1) * 2 ^ t.1 ≤ s.2 * 2 ^ s.1
/-- how many leaves lie under spots. -/
def SIZE (l : List (Nat × Nat)) : Nat := (l.map fun s => 2 ^ s.1).sum
theorem succ_pow (k h : Nat) : (k + 1) * 2 ^ h = k * 2 ^ h + 2 ^ h := by rw [Nat.add_mul, Nat.one_mul]
theorem Tile.size {l : List (Nat × Nat)} : ∀ {a b : Nat}, Tile a l b → a + SIZE l = b := by
  induction l with
  | nil => intro a b h; have : a = b := h; simp [SIZE, this]
  | cons s l ih =>
    intro a b ⟨h1, h2, h3⟩
    have := ih h3
    rw [succ_pow, h2] at this
    simp only [SIZE, List.map_cons, List.sum_cons] at this ⊢
    omega
theorem Tile.within {l : List (Nat × Nat)} : ∀ {a b : Nat}, Tile a l b → ∀ s ∈ l, a ≤ s.2 * 2 ^ s.1 ∧ (s.2 + 1) * 2 ^ s.1 ≤ b ∧ Node s.1 s.2 := by
  induction l with
  | nil => intro a b _ s hs; simp at hs
  | cons t l ih =>
    intro a b ⟨h1, h2, h3⟩ s hs
    rcases List.mem_cons.1 hs with rfl | hs
    · exact ⟨by omega, h3.bound.1, h1⟩
    · have := ih h3 s hs
      have h4 := succ_pow t.2 t.1
      have h5 := Nat.two_pow_pos t.1
      exact ⟨by omega, this.2⟩
theorem Tile.off {l : List (Nat × Nat)} : ∀ {a b : Nat}, Tile a l b → l.Pairwise Off := by
  induction l with
  | nil => intro a b _; exact List.Pairwise.nil
  | cons t l ih =>
    intro a b ⟨h1, h2, h3⟩
    refine List.Pairwise.cons (fun s hs => ?_) (ih h3)
    exact .inl (h3.within s hs).1
end Go.Proofs.YtmkgldjocigffaaDoor

/- What split of package many answers. -/
namespace Go.Proofs.YtmkgldjocigffaaDoor
open Go.RowKit
set_option maxRecDepth 100000

/-- what split answers. -/
structure SPLIT (w w' : World) (a : Option Addr) (n c : Nat) (L : List Nat) (t r : Nat) (a' : Option Addr) : Prop where
  rank : RANKS L t r
  lies : NUML w a' (L.drop r)
  nil : a' = none → c - r = 0
  block : ∀ x, a' = some x → ∃ y, a = some y ∧ x.block = y.block
  spot : ∀ x, a' = some x → x.spot = none
  below : Below w.heap.size w w'
end Go.Proofs.YtmkgldjocigffaaDoor

/- mustRise of package many: it gives up where leaves are not those of n, or do not rise. -/
namespace Go.Proofs.YtmkgldjocigffaaDoor
open Go.RowKit
set_option maxRecDepth 100000

/-- the panic of a wrong proof. -/
def WRONG (x : Int) : List PanicEntry := [{ v := .iface 83 (.int .i64 x), recovered := false }]
end Go.Proofs.YtmkgldjocigffaaDoor

/- Which spots leaves need, as the document says it: plain. -/
namespace Go.Proofs.YtmkgldjocigffaaDoor
set_option maxRecDepth 100000

/-- the spots are nodes of the forest. -/
theorem NSP_node : ∀ (h k : Nat) (L : List Nat), Node h k → ∀ s ∈ NSP h k L, Node s.1 s.2
  | h, k, [], hN, s, hs => by
    rw [NSP_nil, List.mem_singleton] at hs
    subst hs
    exact hN
  | 0, _, _ :: _, _, s, hs => by cases hs
  | h + 1, k, x :: l, hN, s, hs => by
    rw [NSP] at hs
    rcases List.mem_append.1 hs with hs | hs
    · exact NSP_node h (2 * k) _ hN.kid.1 s hs
    · exact NSP_node h (2 * k + 1) _ hN.kid.2 s hs
end Go.Proofs.YtmkgldjocigffaaDoor

/- What rise, Peak and Path answer. -/
namespace Go.Proofs.YtmkgldjocigffaaDoor
open Go.RowKit

end Go.Proofs.YtmkgldjocigffaaDoor

/- Blocks of one's own in a world that is a variable. -/
namespace Go.Proofs.YtmkgldjocigffaaDoor
open Go.RowKit

/-- the block g holds the cells c. -/
def Has (w : World) (g : Nat) (c : Array Value) (t : TypeId) : Prop := w.heap[g]? = some (.cells c t)
theorem Has.cell {w : World} {g : Nat} {c : Array Value} {t : TypeId} (h : Has w g c t) (i : Nat) : w.cell? ⟨g, i, none⟩ = c[i]? := cell_of_row w g i c t _ h
theorem Has.lt {w : World} {g : Nat} {c : Array Value} {t : TypeId} (h : Has w g c t) : g < w.heap.size := (Array.getElem?_eq_some_iff.1 h).1
theorem Has.frozen {w : World} {g : Nat} {c : Array Value} {t : TypeId} (h : Has w g c t) (i : Nat) : w.frozen? ⟨g, i, none⟩ = false := by
  have e : w.heap[g]? = some (.cells c t) := h
  simp [World.frozen?, e]
theorem Has.set {w : World} {g : Nat} {c : Array Value} {t : TypeId} (h : Has w g c t) (i : Nat) (v : Value) : Has (w.setCell ⟨g, i, none⟩ v) g (c.setIfInBounds i v) t := by
  have e : w.heap[g]? = some (.cells c t) := h
  unfold Has
  rw [setCell_eq_setRow w g i c t _ v e, setRow_heap w g c _ t _ e]
theorem Has.other {w : World} {g : Nat} {c : Array Value} {t : TypeId} (h : Has w g c t) {a : Addr} (ha : g ≠ a.block) (v : Value) : Has (w.setCell a v) g c t := by
  have e : w.heap[g]? = some (.cells c t) := h
  unfold Has
  rw [Below.heap_setCell w a v g ha, e]
theorem Has.below {B : Nat} {w w' : World} {g : Nat} {c : Array Value} {t : TypeId} (h : Has w g c t) (hb : Below B w w') (hg : g < B) : Has w' g c t := (hb.block g hg).trans h
theorem Has.keep {w w' : World} {g : Nat} {c : Array Value} {t : TypeId} (h : Has w g c t) (hb : Below w.heap.size w w') : Has w' g c t := h.below hb h.lt
theorem Has.alloc {w : World} {g : Nat} {c : Array Value} {t : TypeId} (h : Has w g c t) (o : Obj) : Has (w.alloc o) g c t := by
  have e : w.heap[g]? = some (.cells c t) := h
  unfold Has
  rw [Below.heap_alloc w o g h.lt, e]
theorem Has.new (w : World) (c : Array Value) (t : TypeId) : Has (w.alloc (.cells c t)) w.heap.size c t := heap_alloc_new w _
theorem Has.at (w : World) (c : Array Value) (t : TypeId) {g : Nat} (hg : g = w.heap.size) : Has (w.alloc (.cells c t)) g c t := by subst hg; exact Has.new w c t
theorem Has.row {w : World} {g : Nat} {c : Array Value} {t : TypeId} (h : Has w g c t) (c' : Array Value) : Has (w.setRow g c') g c' t := setRow_heap w g c c' t _ h
theorem Has.drewN {w : World} {g : Nat} {c : Array Value} {t : TypeId} (h : Has w g c t) (n : Nat) : Has (w.drewN n) g c t := h
theorem below_row {B g : Nat} {w0 w : World} (hb : Below B w0 w) (hBg : B ≤ g) (cs : Array Value) : Below B w0 (w.setRow g cs) :=
  ⟨hb.os, hb.tape, hb.output, by have := hb.size; simpa [World.setRow] using this, fun k hk => by rw [setRow_other w g k cs (by omega)]; exact hb.block k hk⟩
end Go.Proofs.YtmkgldjocigffaaDoor

/- The places that are told are put behind one another: the closure of Places of package many. -/
namespace Go.Proofs.YtmkgldjocigffaaDoor
open Go.RowKit
set_option maxRecDepth 100000

/-- a number is appended. -/
theorem app_num {ops : Array Oper} {rest : List Oper} {o : Oper} {a : Act} {Q : Exit → Act → World → Prop} (w : World) (hgd : o.guard = none) (s x : Operand)
    (ho : o.op = .call { callee := .builtin .append, args := #[s, x], argTypes := #[23, 23] })
    (base : Nat) (v : Value) (n : Nat) (xs : List Nat) (hs : a.eval s = v) (hown : w.ownsRow base 22 1 v n (UCELLS xs))
    (b c : Nat) (y : Nat) (hx : a.eval x = .slice (some ⟨b, 0, none⟩) 1 c) (hc : w.cell? ⟨b, 0, none⟩ = some (.int .u64 (y : Int)))
    (hb : n ≤ 2 ^ 30) (hbase : base ≤ w.heap.size)
    (h : ∀ g cap w', w'.ownsRow base 22 1 (.slice (some ⟨g, 0, none⟩) (n + 1) cap) (n + 1) (UCELLS (xs ++ [y])) → w.grownBy w' v.ownBlock → g < w'.heap.size → wpList Tryd.prog ops Q rest (a.put o.dst (.slice (some ⟨g, 0, none⟩) (n + 1) cap)) w') : wpList Tryd.prog ops Q (o :: rest) a w := by
  obtain ⟨i, hi, hz, hs1, hby⟩ := info_parts info_u64
  refine wpList_append_lies w hgd s x 23 ho base 22 i (.int .u64 0) 1 8 Tryd.underlying23 hi hz hs1 hby rfl (by decide) v n (UCELLS xs) hs hown ⟨b, 0, none⟩ 1 c [.int .u64 (y : Int)] hx rfl ?_ (fun u hu => by simp at hu; subst hu; rfl) (by decide) (by simp only [maxLen]; omega) (by omega) hbase w.heap.size rfl ?_
  · intro j u hj
    cases j with
    | zero =>
      simp only [List.getElem?_cons_zero, Option.some.injEq] at hj
      subst hj
      exact hc
    | succ j => simp at hj
  · intro g cap w' h1 h2 _ h4
    rw [← UCELLS_snoc] at h1
    exact h g cap w' h1 h2 h4
/-- the list that lies in bp has been told acc since w0. -/
structure TAKING (w0 w : World) (bp : Nat) (acc : List Nat) : Prop where
  row : ∃ v, Has w bp #[v] 23 ∧ w.ownsRow w0.heap.size 22 1 v acc.length (UCELLS acc)
  keep : ∀ b, b < w0.heap.size → b ≠ bp → w.heap[b]? = w0.heap[b]?
  lt : bp < w0.heap.size
  below : Below bp w0 w
theorem own_sliced {w : World} {B s n : Nat} {t : TypeId} {v : Value} {xs : List Value} (h : w.ownsRow B t s v n xs) : ∃ a c, v = .slice a n c := by
  rcases h.2 with ⟨e, h0⟩ | ⟨g, cap, cur, e, _⟩
  · exact ⟨none, 0, by rw [e, h0]⟩
  · exact ⟨_, _, e⟩
end Go.Proofs.YtmkgldjocigffaaDoor

/- What the document's answers for layer 3 give: Power, Nodes, Leaf, Leaves. -/
namespace Go.Proofs.YtmkgldjocigffaaDoor
open Go.RowKit

theorem power_ok (n : Nat) (hn : n < 64) (w : World) : Calls Tryd.prog 46 #[.int .i64 (n : Int)] w fun e w' => e = .returned (.int .u64 ((2 ^ n : Nat) : Int)) ∧ w = w' := by
  have HN : Aside (n < 64) := hn
  clear hn
  go_enter Tryd.func46, Tryd.ntmps46
  go_wp2
  go_loopg [3, 4] n (fun g s3 s4 wx => ∃ i v : Nat, s3 = .int .u64 (v : Int) ∧ s4 = .int .i64 (i : Int) ∧ Aside (v = 2 ^ i ∧ i + g = n) ∧ wx = w)
  case atStart => exact ⟨0, 1, rfl, rfl, ⟨rfl, by omega⟩, rfl⟩
  case round =>
    obtain ⟨i, v, rfl, rfl, A, hw⟩ := hrel
    subst hw
    cases gk with
    | zero =>
      have hi : ¬ (i : Int) < (n : Int) := by have := A.out.2; omega
      go_wp2
      go_ret
      obtain ⟨r1, r2⟩ := A.out
      refine ⟨?_, rfl⟩
      rw [r1, show i = n by omega]
      rfl
    | succ g =>
      have hi : (i : Int) < (n : Int) := by have := A.out.2; omega
      go_wp2
      go_roundg g
      case measure => omega
      case rel =>
        obtain ⟨r1, r2⟩ := A.out
        have h64 := HN.out
        have hp : 2 ^ (i + 1) ≤ 2 ^ 63 := Nat.pow_le_pow_right (by decide) (by omega)
        refine ⟨i + 1, 2 ^ (i + 1), ?_, ?_, ⟨rfl, by omega⟩, rfl⟩
        · congr 1
          rw [wrapU, r1]
          rw [Nat.pow_succ] at hp ⊢
          omega
        · congr 1
          unfold wrap64
          omega
theorem refnodes_ok (n : Nat) (hn : n ≤ 4611686018427387904) (w : World) : Calls Tryd.prog 49 #[.int .u64 (n : Int)] w fun e w' => e = .returned (.tuple #[.int .u64 ((NODES n : Nat) : Int), .bool true]) ∧ w = w' := by
  have HN : Aside (n ≤ 4611686018427387904) := hn
  have hd : ¬ (4611686018427387904 : Int) < (n : Int) := by omega
  clear hn
  go_enter Tryd.func49, Tryd.ntmps49
  go_wp2
  go_loopg [0, 4] n (fun g s0 s4 wx => ∃ v : Nat, s0 = .int .u64 (g : Int) ∧ s4 = .int .u64 (v : Int) ∧ Aside (v + NODES g = NODES n) ∧ wx = w)
  case atStart => exact ⟨0, rfl, rfl, by unfold Aside; omega, rfl⟩
  case round =>
    obtain ⟨v, rfl, rfl, A, hw⟩ := hrel
    subst hw
    cases gk with
    | zero =>
      go_wp2
      go_ret2
      have r1 := A.out
      rw [NODES_zero] at r1
      refine ⟨?_, rfl⟩
      rw [← r1]
      rfl
    | succ g =>
      have hi : (0 : Int) < (((g + 1 : Nat)) : Int) := by omega
      have e1 : Aside (IntKind.u64.wrap ((v : Int) + ((g + 1 : Nat) : Int)) = ((v + (g + 1) : Nat) : Int)) := by
        have h1 := NODES_half (g + 1)
        have h2 := A.out
        have h3 := NODES_top HN.out
        unfold Aside
        rw [wrapU]
        omega
      have e2 : Aside (IntKind.u64.wrap (((g + 1 : Nat) : Int) / 2) = (((g + 1) / 2 : Nat) : Int)) := by
        have h1 := NODES_ge (g + 1)
        have h2 := A.out
        have h3 := NODES_top HN.out
        unfold Aside
        rw [wrapU]
        omega
      generalize hG : g + 1 = G at *
      go_wp2
      go_roundg (G / 2)
      case measure => omega
      case rel =>
        refine ⟨v + G, ?_, ?_, ?_, rfl⟩
        · first | rfl | (congr 1; omega) | (rw [e2.out])
        · rw [e1.out]
        · have h1 := NODES_half G
          have h2 := A.out
          unfold Aside
          omega
end Go.Proofs.YtmkgldjocigffaaDoor
