/- Texts of ManyOne, one behind the other: ProofPlain, PosRef, PosRefSpot, PosRefKin, PosSpotRow, PosTops, PosRefPeaks, PosRefPeak, PosRefPath, PosAwake, PosFour, CutCalls, CutHas, CutSpan. -/
import Derived.Deep.QuietTactic
import Derived.BigQuiet
import Derived.Test.YtadpfcpipklmbabDoorManyOneP5
import Derived.Test.YtadpfcpipklmbabDoorManyOneP6
import Derived.Test.YtadpfcpipklmbabDoorManyOneP7
/- Which nodes a proof has, as spots: the siblings on the way up and the other peaks; the peaks of an earlier size and the spots behind it. -/
namespace Go.Proofs.YtadpfcpipklmbabDoor

/-- the places of spots. -/
def PLCS (l : List (Nat × Nat)) : List Nat := l.map fun s => PLC s.1 s.2
theorem PLCS_length (l : List (Nat × Nat)) : (PLCS l).length = l.length := by simp [PLCS]
theorem PLCS_append (l m : List (Nat × Nat)) : PLCS (l ++ m) = PLCS l ++ PLCS m := by simp [PLCS]
theorem PLCS_at {l : List (Nat × Nat)} {j h k : Nat} (e : l[j]? = some (h, k)) : (PLCS l).getD j 0 = PLC h k := by
  simp [PLCS, List.getD, e]
theorem PEAKS_spots {n : Nat} (hn : n ≤ 4611686018427387904) : PEAKS n = PLCS (SPAN 0 n) := by
  have hl := PEAKS_length (n := n) (by omega)
  apply List.ext_getElem?
  intro j
  by_cases hj : j < PC n
  · have h1 := PEAKS_at (n := n) (by omega) hj
    have h2 := SPAN_zero_at hn hj
    rw [List.getD, List.getElem?_eq_getElem (by omega)] at h1
    rw [List.getElem?_eq_getElem (by omega)]
    simp only [Option.getD_some] at h1
    rw [h1]
    simp [PLCS, h2]
  · rw [List.getElem?_eq_none (by omega), List.getElem?_eq_none (by rw [PLCS_length, SPAN_zero_length hn]; omega)]
/-- the siblings on the way up from the leaf i, the first H of them. -/
def WAYS (i H : Nat) : List (Nat × Nat) := (List.range H).map fun h => (h, SIB (i / 2 ^ h))
theorem WAYS_succ (i H : Nat) : WAYS i (H + 1) = WAYS i H ++ [(H, SIB (i / 2 ^ H))] := by simp [WAYS, List.range_succ]
theorem WAYS_length (i H : Nat) : (WAYS i H).length = H := by simp [WAYS]
theorem WAY_spots (i H : Nat) : WAY i H = PLCS (WAYS i H) := by simp [WAY, WAYS, PLCS]
theorem erase_map {α β : Type} (f : α → β) : ∀ (l : List α) (k : Nat), (l.map f).eraseIdx k = (l.eraseIdx k).map f := by
  intro l
  induction l with
  | nil => intro k; simp
  | cons a l ih =>
    intro k
    cases k with
    | zero => simp
    | succ k => simp [ih]
theorem erase_snoc {α : Type} (x : α) : ∀ (l : List α) (k : Nat), (l ++ [x]).eraseIdx k = if k = l.length then l.eraseIdx k else l.eraseIdx k ++ [x] := by
  intro l
  induction l with
  | nil =>
    intro k
    cases k with
    | zero => simp
    | succ k => simp
  | cons a l ih =>
    intro k
    cases k with
    | zero => simp
    | succ k =>
      have := ih k
      rw [List.cons_append, List.eraseIdx_cons_succ, this, List.length_cons, List.eraseIdx_cons_succ]
      by_cases e : k = l.length
      · rw [if_pos e, if_pos (by omega)]
      · rw [if_neg e, if_neg (by omega)]
        rfl
/-- the spots of the nodes of the proof of the leaf i of n. -/
def PSP (i n : Nat) : List (Nat × Nat) := WAYS i (RISE i n) ++ (SPAN 0 n).eraseIdx (KTH i n)
theorem PSP_places {i n : Nat} (hn : n ≤ 4611686018427387904) : PLCS (PSP i n) = WAY i (RISE i n) ++ (PEAKS n).eraseIdx (KTH i n) := by
  unfold PSP
  rw [PLCS_append, WAY_spots, PEAKS_spots hn]
  unfold PLCS
  rw [erase_map]
/-- the spots of the nodes of the proof that n leaves begin with m of them. -/
def PXS (m n : Nat) : List (Nat × Nat) := SPAN 0 m ++ SPAN m n
theorem PXS_tile {m n : Nat} (hmn : m ≤ n) (hn : n ≤ 4611686018427387904) : Tile 0 (PXS m n) n := (tile_span (by omega) (Nat.zero_le _)).append (tile_span hn hmn)
theorem PXS_places {m n : Nat} (hmn : m ≤ n) (hn : n ≤ 4611686018427387904) : PLCS (PXS m n) = PEAKS m ++ PLCS (SPAN m n) := by
  unfold PXS
  rw [PLCS_append, PEAKS_spots (by omega)]
theorem PXS_length {m n : Nat} (hmn : m ≤ n) (hn : n ≤ 4611686018427387904) : (PXS m n).length ≤ 188 := by
  have h1 := SPAN_zero_length (n := m) (by omega)
  have h2 := PC_lt_pow 64 m (by omega)
  have h3 := SPAN_length (a := m) hn
  unfold PXS
  rw [List.length_append]
  omega
theorem PSP_length {i n : Nat} (hi : i < n) (hn : n ≤ 4611686018427387904) : (PSP i n).length + 1 = RISE i n + PC n := by
  have h1 := KTH_lt hi hn
  have h2 := SPAN_zero_length hn
  unfold PSP
  rw [List.length_append, WAYS_length, List.length_eraseIdx, if_pos (by omega)]
  omega
theorem PSP_few {i n : Nat} (hi : i < n) (hn : n ≤ 4611686018427387904) : (PSP i n).length ≤ 126 := by
  have h1 := PSP_length hi hn
  have h2 := (RISE_spec hi hn).2.1
  have h3 := PC_lt_pow 64 n (by omega)
  omega
/-- two spots have no leaf together. -/
def Off (s t : Nat × Nat) : Prop := (s.2 + 1) * 2 ^ s.1 ≤ t.2 * 2 ^ t.1 ∨ (t.2 + 1) * 2 ^ t.1 ≤ s.2 * 2 ^ s.1
/-- how many leaves lie under spots. -/
def SIZE (l : List (Nat × Nat)) : Nat := (l.map fun s => 2 ^ s.1).sum
theorem SIZE_append (l m : List (Nat × Nat)) : SIZE (l ++ m) = SIZE l + SIZE m := by simp [SIZE]
theorem SIZE_snoc (l : List (Nat × Nat)) (s : Nat × Nat) : SIZE (l ++ [s]) = SIZE l + 2 ^ s.1 := by simp [SIZE]
theorem succ_pow (k h : Nat) : (k + 1) * 2 ^ h = k * 2 ^ h + 2 ^ h := by rw [Nat.add_mul, Nat.one_mul]
theorem Tile.size {l : List (Nat × Nat)} : ∀ {a b : Nat}, Tile a l b → a + SIZE l = b := by
  induction l with
  | nil => intro a b h; have : a = b := h; simp [SIZE, this]
  | cons s l ih =>
    intro a b ⟨h1, h2, h3⟩
    have := ih h3
    rw [succ_pow, h2] at this
    simp only [SIZE, List.map_cons, List.sum_cons] at this ⊢
    omega
theorem Tile.within {l : List (Nat × Nat)} : ∀ {a b : Nat}, Tile a l b → ∀ s ∈ l, a ≤ s.2 * 2 ^ s.1 ∧ (s.2 + 1) * 2 ^ s.1 ≤ b ∧ Node s.1 s.2 := by
  induction l with
  | nil => intro a b _ s hs; simp at hs
  | cons t l ih =>
    intro a b ⟨h1, h2, h3⟩ s hs
    rcases List.mem_cons.1 hs with rfl | hs
    · exact ⟨by omega, h3.bound.1, h1⟩
    · have := ih h3 s hs
      have h4 := succ_pow t.2 t.1
      have h5 := Nat.two_pow_pos t.1
      exact ⟨by omega, this.2⟩
theorem Tile.off {l : List (Nat × Nat)} : ∀ {a b : Nat}, Tile a l b → l.Pairwise Off := by
  induction l with
  | nil => intro a b _; exact List.Pairwise.nil
  | cons t l ih =>
    intro a b ⟨h1, h2, h3⟩
    refine List.Pairwise.cons (fun s hs => ?_) (ih h3)
    exact .inl (h3.within s hs).1
theorem pow_split (i H : Nat) : i / 2 ^ H * 2 ^ H ≤ i ∧ i < (i / 2 ^ H + 1) * 2 ^ H := by
  have h1 := Nat.div_add_mod i (2 ^ H)
  have h2 := Nat.mod_lt i (Nat.two_pow_pos H)
  rw [Nat.mul_comm] at h1
  rw [succ_pow]
  omega
/-- the sibling and the node itself are the halves of the node over them. -/
theorem sib_halves (k h : Nat) : (SIB k % 2 ≠ k % 2) ∧ k / 2 * 2 ^ (h + 1) ≤ SIB k * 2 ^ h ∧ (SIB k + 1) * 2 ^ h ≤ (k / 2 + 1) * 2 ^ (h + 1) ∧ k / 2 * 2 ^ (h + 1) ≤ k * 2 ^ h ∧ (k + 1) * 2 ^ h ≤ (k / 2 + 1) * 2 ^ (h + 1) ∧ ((SIB k + 1) * 2 ^ h ≤ k * 2 ^ h ∨ (k + 1) * 2 ^ h ≤ SIB k * 2 ^ h) := by
  have e := pow_up h
  have up : ∀ m, m * 2 ^ (h + 1) = (2 * m) * 2 ^ h := fun m => by rw [e, Nat.mul_comm 2 m, Nat.mul_assoc]
  rw [up, up]
  have mono : ∀ {a b : Nat}, a ≤ b → a * 2 ^ h ≤ b * 2 ^ h := fun hab => Nat.mul_le_mul_right _ hab
  unfold SIB
  split
  · exact ⟨by omega, mono (by omega), mono (by omega), mono (by omega), mono (by omega), .inl (mono (by omega))⟩
  · exact ⟨by omega, mono (by omega), mono (by omega), mono (by omega), mono (by omega), .inr (mono (by omega))⟩
theorem WAYS_within (i : Nat) : ∀ H, ∀ s ∈ WAYS i H, i / 2 ^ H * 2 ^ H ≤ s.2 * 2 ^ s.1 ∧ (s.2 + 1) * 2 ^ s.1 ≤ (i / 2 ^ H + 1) * 2 ^ H := by
  intro H
  induction H with
  | zero => intro s hs; simp [WAYS] at hs
  | succ H ih =>
    intro s hs
    rw [WAYS_succ, List.mem_append, List.mem_singleton] at hs
    have h1 := sib_halves (i / 2 ^ H) H
    rw [half_pow]
    rcases hs with hs | rfl
    · have := ih s hs
      omega
    · exact ⟨h1.2.1, h1.2.2.1⟩
theorem WAYS_off (i : Nat) : ∀ H, (WAYS i H).Pairwise Off := by
  intro H
  induction H with
  | zero => simp [WAYS]
  | succ H ih =>
    rw [WAYS_succ, List.pairwise_append]
    refine ⟨ih, by simp, fun s hs t ht => ?_⟩
    rw [List.mem_singleton] at ht
    subst ht
    have h1 := (sib_halves (i / 2 ^ H) H).2.2.2.2.2
    have h2 := WAYS_within i H s hs
    unfold Off
    dsimp only
    omega
theorem WAYS_size (i : Nat) : ∀ H, SIZE (WAYS i H) + 1 = 2 ^ H := by
  intro H
  induction H with
  | zero => simp [WAYS, SIZE]
  | succ H ih =>
    rw [WAYS_succ, SIZE_snoc, pow_up]
    dsimp only
    omega
theorem WAYS_leaf (i : Nat) : ∀ H, ∀ s ∈ WAYS i H, ¬ (s.2 * 2 ^ s.1 ≤ i ∧ i < (s.2 + 1) * 2 ^ s.1) := by
  intro H
  induction H with
  | zero => intro s hs; simp [WAYS] at hs
  | succ H ih =>
    intro s hs
    rw [WAYS_succ, List.mem_append, List.mem_singleton] at hs
    rcases hs with hs | rfl
    · exact ih s hs
    · have h1 := (sib_halves (i / 2 ^ H) H).2.2.2.2.2
      have h2 := pow_split i H
      dsimp only
      omega
theorem WAYS_node {i : Nat} (hi : i < 4611686018427387904) : ∀ H, H ≤ 62 → ∀ s ∈ WAYS i H, Node s.1 s.2 := by
  intro H hH s hs
  simp only [WAYS, List.mem_map, List.mem_range] at hs
  obtain ⟨h, hh, rfl⟩ := hs
  exact (Node.over hi h (by omega)).sib (by omega)
theorem node_lt {h k n : Nat} (hn : (k + 1) * 2 ^ h ≤ n) : PLC h k < NODES n := by
  have h1 := NODES_le hn
  have h2 := NODES_add ((k + 1) * 2 ^ h)
  rw [PC_shift] at h2
  have h3 := PLC_eq h k
  have h4 := PC_succ k
  have h5 : 2 ^ (h + 1) * (k + 1) = 2 * ((k + 1) * 2 ^ h) := by rw [pow_up, Nat.mul_assoc, Nat.mul_comm (2 ^ h)]
  omega
/-- the peak over the leaf. -/
theorem KTH_spot {i n : Nat} (hi : i < n) (hn : n ≤ 4611686018427387904) : (SPAN 0 n)[KTH i n]? = some (RISE i n, i / 2 ^ RISE i n) ∧ (PEAKS n).getD (KTH i n) 0 = PLC (RISE i n) (i / 2 ^ RISE i n) := by
  have h1 := KTH_at hi hn
  have h2 := KTH_lt hi hn
  have h3 := SPAN_zero_at hn h2
  have h4 : HGT n (KTH i n) = RISE i n := by simp [HGT, List.getD, h1]
  have h5 : KGT n (KTH i n) = i / 2 ^ RISE i n := by
    unfold KGT
    rw [h4]
    exact (RISE_spec hi hn).2.2.2.2.symm
  rw [h4, h5] at h3
  refine ⟨h3, ?_⟩
  rw [PEAKS_spots hn]
  exact PLCS_at h3
theorem Pairwise.at_lt {α : Type} {R : α → α → Prop} {l : List α} (h : l.Pairwise R) {a b : Nat} {x y : α} (hab : a < b) (ha : l[a]? = some x) (hb : l[b]? = some y) : R x y := by
  obtain ⟨h1, rfl⟩ := List.getElem?_eq_some_iff.1 ha
  obtain ⟨h2, rfl⟩ := List.getElem?_eq_some_iff.1 hb
  exact (List.pairwise_iff_getElem.1 h) a b h1 h2 hab
theorem erase_mem {α : Type} {l : List α} {k : Nat} {x : α} (h : x ∈ l.eraseIdx k) : ∃ j, j ≠ k ∧ l[j]? = some x := by
  obtain ⟨j, hj⟩ := List.mem_iff_getElem?.1 h
  rw [List.getElem?_eraseIdx] at hj
  split at hj
  · exact ⟨j, by omega, hj⟩
  · exact ⟨j + 1, by omega, hj⟩
theorem off_symm {s t : Nat × Nat} (h : Off s t) : Off t s := h.elim .inr .inl
theorem erase_size : ∀ (l : List (Nat × Nat)) (k : Nat) (s : Nat × Nat), l[k]? = some s → SIZE (l.eraseIdx k) + 2 ^ s.1 = SIZE l := by
  intro l
  induction l with
  | nil => intro k s h; simp at h
  | cons a l ih =>
    intro k s h
    cases k with
    | zero =>
      simp at h
      subst h
      simp [SIZE]
      omega
    | succ k =>
      have := ih k s (by simpa using h)
      simp only [SIZE, List.eraseIdx_cons_succ, List.map_cons, List.sum_cons] at this ⊢
      omega
/-- what the nodes of a proof are: nodes of the forest, none over the leaf, no two over one leaf, all others under them. -/
theorem PSP_spec {i n : Nat} (hi : i < n) (hn : n ≤ 4611686018427387904) :
    (∀ s ∈ PSP i n, Node s.1 s.2 ∧ PLC s.1 s.2 < NODES n ∧ ¬ (s.2 * 2 ^ s.1 ≤ i ∧ i < (s.2 + 1) * 2 ^ s.1)) ∧ (PSP i n).Pairwise Off ∧ SIZE (PSP i n) + 1 = n := by
  obtain ⟨hK, _⟩ := KTH_spot hi hn
  have h62 := (RISE_spec hi hn).2.1
  have hT := tile_span hn (Nat.zero_le n)
  have hp := pow_split i (RISE i n)
  have hin := hT.within _ (List.mem_of_getElem? hK)
  dsimp only at hin
  have hoff := hT.off
  have hother : ∀ s ∈ (SPAN 0 n).eraseIdx (KTH i n), Off s (RISE i n, i / 2 ^ RISE i n) := by
    intro s hs
    obtain ⟨j, hj, e⟩ := erase_mem hs
    rcases Nat.lt_or_ge j (KTH i n) with h | h
    · exact Pairwise.at_lt hoff h e hK
    · exact off_symm (Pairwise.at_lt hoff (by omega : KTH i n < j) hK e)
  refine ⟨fun s hs => ?_, ?_, ?_⟩
  · unfold PSP at hs
    rcases List.mem_append.1 hs with hs | hs
    · have h1 := WAYS_within i _ s hs
      exact ⟨WAYS_node (by omega) _ h62 s hs, node_lt (by omega), WAYS_leaf i _ s hs⟩
    · have h1 := hT.within s (List.mem_of_mem_eraseIdx hs)
      have h2 := hother s hs
      unfold Off at h2
      dsimp only at h2
      exact ⟨h1.2.2, node_lt h1.2.1, by omega⟩
  · unfold PSP
    rw [List.pairwise_append]
    refine ⟨WAYS_off i _, hoff.sublist (List.eraseIdx_sublist _ _), fun s hs t ht => ?_⟩
    have h1 := WAYS_within i _ s hs
    have h2 := hother t ht
    unfold Off at h2 ⊢
    dsimp only at h2
    omega
  · unfold PSP
    rw [SIZE_append]
    have h1 := WAYS_size i (RISE i n)
    have h2 := erase_size _ _ _ hK
    have h3 := hT.size
    dsimp only at h2
    omega
end Go.Proofs.YtadpfcpipklmbabDoor

/- What the document's answers for layer 3 give: Power, Nodes, Leaf, Leaves. -/
namespace Go.Proofs.YtadpfcpipklmbabDoor
open Go.RowKit

end Go.Proofs.YtadpfcpipklmbabDoor

/- What the document's Spot gives. -/
namespace Go.Proofs.YtadpfcpipklmbabDoor
open Go.RowKit

theorem wr_add {a b c : Nat} (h : a + b = c) (hc : c < 2 ^ 64) : IntKind.u64.wrap ((a : Int) + (b : Int)) = (c : Int) := by rw [wrapU]; omega
theorem wr_inc {a c : Nat} (h : a + 1 = c) (hc : c < 2 ^ 64) : IntKind.u64.wrap ((a : Int) + 1) = (c : Int) := by rw [wrapU]; omega
theorem wr_dec {a c : Nat} (h : c + 1 = a) (hc : c < 2 ^ 64) : IntKind.u64.wrap ((a : Int) - 1) = (c : Int) := by rw [wrapU]; omega
theorem wr_two {a c : Nat} (h : 2 * a = c) (hc : c < 2 ^ 64) : IntKind.u64.wrap (2 * (a : Int)) = (c : Int) := by rw [wrapU]; omega
theorem wr_half {a c : Nat} (h : 2 * c = a) (hc : c < 2 ^ 64) : IntKind.u64.wrap ((a : Int) / 2) = (c : Int) := by rw [wrapU]; omega
theorem half_int {a c : Nat} (h : 2 * c = a) : (a : Int) / 2 = (c : Int) := by omega
/-- one step down from the node (g + 1, m), which p stands under. -/
theorem rs_plain {g m b p z1 bz : Nat} (hg : g + 1 ≤ 62) (hN : Node (g + 1) m) (hb : b = NODES (m * 2 ^ (g + 1))) (hbp : b ≤ p) (hpu : p + 2 ≤ b + 2 ^ (g + 1 + 1)) (hz : 2 ^ (g + 1) = z1 + 1) (hbz : b + z1 = bz) (hT : p ≠ b + 2 * z1) :
    Node g (2 * m) ∧ Node g (2 * m + 1) ∧ b = NODES (2 * m * 2 ^ g) ∧ bz = NODES ((2 * m + 1) * 2 ^ g) ∧ (bz ≤ p → p + 2 ≤ bz + 2 ^ (g + 1)) ∧ (p < bz → p + 2 ≤ b + 2 ^ (g + 1)) := by
  have h2 := hN.2
  have e : 2 ^ (62 - g) = 2 ^ (62 - (g + 1)) * 2 := by rw [← Nat.pow_succ]; congr 1; omega
  have e2 : 2 ^ (g + 1 + 1) = 2 * (z1 + 1) := by rw [Nat.pow_succ, hz, Nat.mul_comm]
  refine ⟨⟨by omega, by rw [e]; omega⟩, ⟨by omega, by rw [e]; omega⟩, by rw [hb, double_pow], ?_, fun h => by omega, fun h => by omega⟩
  rw [NODES_plus, double_pow, ← hb]
  unfold TREE
  omega
end Go.Proofs.YtadpfcpipklmbabDoor

/- What the document's answers give for a node's kin. -/
namespace Go.Proofs.YtadpfcpipklmbabDoor
open Go.RowKit

theorem odd_mod (k : Nat) : ((k : Int) % 2 == 1) = decide (k % 2 = 1) := by
  rw [Bool.eq_iff_iff]
  simp
  omega
end Go.Proofs.YtadpfcpipklmbabDoor

/- Lists of spots of one's own. -/
namespace Go.Proofs.YtadpfcpipklmbabDoor
open Go.RowKit

/-- spots as cells. -/
def SCELLS (l : List (Nat × Nat)) : List Value := l.flatMap fun x => [Value.int .u8 (x.1 : Int), Value.int .u64 (x.2 : Int)]
theorem SCELLS_snoc (l : List (Nat × Nat)) (h k : Nat) : SCELLS (l ++ [(h, k)]) = SCELLS l ++ [Value.int .u8 (h : Int), Value.int .u64 (k : Int)] := by simp [SCELLS]
theorem SCELLS_at : ∀ (l : List (Nat × Nat)) (j h k : Nat), l[j]? = some (h, k) → (SCELLS l)[j * 2]? = some (.int .u8 (h : Int)) ∧ (SCELLS l)[j * 2 + 1]? = some (.int .u64 (k : Int))
  | [], j, h, k, e => by simp at e
  | x :: l, 0, h, k, e => by
    simp at e
    subst e
    simp [SCELLS]
  | x :: l, j + 1, h, k, e => by
    have := SCELLS_at l j h k (by simpa using e)
    have e1 : (j + 1) * 2 = j * 2 + 1 + 1 := by omega
    simp only [SCELLS, List.flatMap_cons, List.cons_append, List.nil_append, e1, List.getElem?_cons_succ]
    exact this
theorem info_spot : (Tryd.prog.info? 59).map (fun i => (i.zero, i.size, i.bytes)) = some (some (.agg #[.int .u8 0, .int .u64 0]), 2, 16) := by kernel_rfl
/-- a list of spots lies there. -/
def Spots (w : World) (a : Option Addr) (l : List (Nat × Nat)) : Prop := 0 < l.length → ∃ g, a = some ⟨g, 0, none⟩ ∧ g < w.heap.size ∧ ∀ (j h k : Nat), l[j]? = some (h, k) → w.cell? ⟨g, j * 2, none⟩ = some (.int .u8 (h : Int)) ∧ w.cell? ⟨g, j * 2 + 1, none⟩ = some (.int .u64 (k : Int))
theorem Spots.below {w w' : World} {a : Option Addr} {l : List (Nat × Nat)} (h : Spots w a l) (hb : Below w.heap.size w w') : Spots w' a l := fun h0 => by
  obtain ⟨g, e, hg, hc⟩ := h h0
  exact ⟨g, e, Nat.lt_of_lt_of_le hg hb.size, fun j x y he => ⟨(hb.cell (p := ⟨g, j * 2, none⟩) hg).trans (hc j x y he).1, (hb.cell (p := ⟨g, j * 2 + 1, none⟩) hg).trans (hc j x y he).2⟩⟩
theorem spots_own {w : World} {base n : Nat} {v : Value} {l : List (Nat × Nat)} (hl : l.length = n) (h : w.ownsRow base 59 2 v n (SCELLS l)) : ∃ a cap, v = .slice a n cap ∧ Spots w a l := by
  rcases h.2 with ⟨rfl, h0⟩ | ⟨g, cap, cur, rfl, hb, hg, r⟩
  · subst h0
    exact ⟨none, 0, rfl, fun h => by omega⟩
  · refine ⟨_, cap, rfl, fun h0 => ⟨g, rfl, ?_, fun j x y he => ?_⟩⟩
    · exact (Array.getElem?_eq_some_iff.1 hg).1
    · have hj : j < n := by rw [← hl]; exact (List.getElem?_eq_some_iff.1 he).1
      have h1 := SCELLS_at l j x y he
      exact ⟨(h.cellAt (j * 2) (by omega)).trans h1.1, (h.cellAt (j * 2 + 1) (by omega)).trans h1.2⟩
theorem own_below {w w' : World} {base : Nat} {t : TypeId} {s : Nat} {v : Value} {n : Nat} {xs : List Value} (h : w.ownsRow base t s v n xs) (hb : Below w.heap.size w w') : w'.ownsRow base t s v n xs := by
  refine ⟨h.1, h.2.imp id ?_⟩
  rintro ⟨g, c, cur, a, b, r, rest⟩
  exact ⟨g, c, cur, a, b, (hb.block g (Array.getElem?_eq_some_iff.1 r).1).trans r, rest⟩
end Go.Proofs.YtadpfcpipklmbabDoor

/- What the document's Tops gives: the spots of the peaks. -/
namespace Go.Proofs.YtadpfcpipklmbabDoor
open Go.RowKit

/-- the spots of the peaks of n leaves whose height is at least h. -/
def TOPS (h n : Nat) : List (Nat × Nat) := (HS h n).map fun g => (g, 2 * (n / 2 ^ (g + 1)))
theorem TOPS_set {h n : Nat} (hh : h < 64) (hb : n / 2 ^ h % 2 = 1) : TOPS h n = TOPS (h + 1) n ++ [(h, 2 * (n / 2 ^ (h + 1)))] := by
  unfold TOPS
  rw [HS_set hh hb, List.map_append]
  rfl
theorem TOPS_clear {h n : Nat} (hh : h < 64) (hb : ¬ n / 2 ^ h % 2 = 1) : TOPS h n = TOPS (h + 1) n := by
  unfold TOPS
  rw [HS_clear hh hb]
theorem TOPS_length {n : Nat} (hn : n < 2 ^ 64) (h : Nat) (hh : h ≤ 64) : (TOPS h n).length = PC (n / 2 ^ h) := by
  unfold TOPS
  rw [List.length_map]
  exact HS_length hn h hh
/-- one height of Tops. -/
theorem tops_plain {n h at' r : Nat} (ha : at' = n / 2 ^ (h + 1) * 2 ^ (h + 1)) (hr : r = n - at') : at' ≤ n ∧ (2 ^ h ≤ r ↔ n / 2 ^ h % 2 = 1) ∧ at' / 2 ^ h = 2 * (n / 2 ^ (h + 1)) ∧ (n / 2 ^ h % 2 = 1 → at' + 2 ^ h = n / 2 ^ h * 2 ^ h) ∧ (¬ n / 2 ^ h % 2 = 1 → at' = n / 2 ^ h * 2 ^ h) := by
  have hp := Nat.two_pow_pos h
  have e1 : at' = 2 * (n / 2 ^ (h + 1)) * 2 ^ h := by rw [ha, double_pow]
  have hd := Nat.div_add_mod n (2 ^ h)
  have hm := Nat.mod_lt n hp
  rw [Nat.mul_comm] at hd
  have hq : at' / 2 ^ h = 2 * (n / 2 ^ (h + 1)) := by rw [e1, Nat.mul_div_cancel _ hp]
  by_cases hb : n / 2 ^ h % 2 = 1
  · have h2 := at_set hb
    have e2 : n / 2 ^ h * 2 ^ h = at' + 2 ^ h := by rw [h2, Nat.add_mul, Nat.one_mul, ← e1]
    exact ⟨by omega, ⟨fun _ => hb, fun _ => by omega⟩, hq, fun _ => e2.symm, fun h => absurd hb h⟩
  · have h2 := at_clear hb
    have e2 : n / 2 ^ h * 2 ^ h = at' := by rw [h2, ← e1]
    exact ⟨by omega, ⟨fun _ => by omega, fun h => absurd h hb⟩, hq, fun h => absurd h hb, fun _ => e2.symm⟩
end Go.Proofs.YtadpfcpipklmbabDoor

/- What the document's Peaks gives. -/
namespace Go.Proofs.YtadpfcpipklmbabDoor
open Go.RowKit

theorem TOPS_node {n : Nat} (hn : n ≤ 4611686018427387904) {j h k : Nat} (e : (TOPS 0 n)[j]? = some (h, k)) : Node h k ∧ h < 64 := by
  unfold TOPS at e
  rw [List.getElem?_map] at e
  obtain ⟨g, hg, e2⟩ := Option.map_eq_some_iff.1 e
  simp only [Prod.mk.injEq] at e2
  obtain ⟨rfl, rfl⟩ := e2
  obtain ⟨_, h1, h2⟩ := HS_set_of 0 g (by omega) (List.mem_of_getElem? hg)
  exact ⟨Node.peak hn h2, h1⟩
theorem PEAKS_TOPS (n : Nat) : PEAKS n = (TOPS 0 n).map fun x => PLC x.1 x.2 := by
  unfold PEAKS TOPS
  rw [List.map_map]
  rfl
end Go.Proofs.YtadpfcpipklmbabDoor

/- What the document's Peak gives. -/
namespace Go.Proofs.YtadpfcpipklmbabDoor
open Go.RowKit

theorem wr_id {x : Nat} (h : x < 2 ^ 64) : IntKind.u64.wrap (x : Int) = (x : Int) := by
  rw [wrapU]
  omega
theorem TOPS_at {n j : Nat} (hn : n < 2 ^ 64) (hj : j < PC n) : (TOPS 0 n)[j]? = some (HGT n j, KGT n j) := by
  unfold TOPS
  rw [List.getElem?_map, (HGT_at hn hj).1]
  rfl
theorem HGT_KTH {i n : Nat} (hi : i < n) (hn : n ≤ 4611686018427387904) : HGT n (KTH i n) = RISE i n := by
  unfold HGT
  rw [List.getD_eq_getElem?_getD, KTH_at hi hn]
  rfl
/-- ahead of its peak no peak is over the leaf. -/
theorem ahead_not {i n k : Nat} (hi : i < n) (hn : n ≤ 4611686018427387904) (hk : k < KTH i n) : i / 2 ^ HGT n k ≠ KGT n k := by
  have hK := KTH_lt hi hn
  obtain ⟨_, h62, hb, hq, _⟩ := RISE_spec hi hn
  obtain ⟨_, h2, h3⟩ := HGT_at (n := n) (i := k) (by omega) (by omega)
  have hlt : RISE i n < HGT n k := by
    rcases Nat.lt_or_ge (RISE i n) (HGT n k) with h | h
    · exact h
    · have := PC_mono n (a := HGT n k + 1) (b := RISE i n + 1) (by omega)
      unfold KTH at hk
      omega
  have e : ∀ x : Nat, x / 2 ^ HGT n k = x / 2 ^ (RISE i n + 1) / 2 ^ (HGT n k - (RISE i n + 1)) := fun x => by rw [Nat.div_div_eq_div_mul, ← Nat.pow_add, show RISE i n + 1 + (HGT n k - (RISE i n + 1)) = HGT n k by omega]
  have h4 := at_set h2
  rw [e i, hq, ← e n, h4]
  unfold KGT
  omega
theorem at_peak {i n : Nat} (hi : i < n) (hn : n ≤ 4611686018427387904) : i / 2 ^ HGT n (KTH i n) = KGT n (KTH i n) := by
  unfold KGT
  rw [HGT_KTH hi hn]
  exact (RISE_spec hi hn).2.2.2.2
end Go.Proofs.YtadpfcpipklmbabDoor

/- What the document's Path gives. -/
namespace Go.Proofs.YtadpfcpipklmbabDoor
open Go.RowKit

end Go.Proofs.YtadpfcpipklmbabDoor

/- awake answers true: the forest of seven leaves. -/
namespace Go.Proofs.YtadpfcpipklmbabDoor
open Go.RowKit

theorem PEAKS_seven : PEAKS 7 = [6, 9, 10] := by
  have h : HS 0 7 = [2, 1, 0] := by rw [HS_zero]; decide
  have p2 : PKP 7 2 = 6 := by
    unfold PKP PLC NODES
    simp [PC_zero]
  have p1 : PKP 7 1 = 9 := by
    unfold PKP PLC NODES
    have := PC_pow 2
    simp at this
    simp [this]
  have p0 : PKP 7 0 = 10 := by
    unfold PKP PLC NODES
    have h1 := PC_even 3
    have h2 := PC_ones 2
    simp at h1 h2
    simp [h1, h2]
  unfold PEAKS
  rw [h]
  simp [p0, p1, p2]
theorem PC_seven : PC 7 = 3 := PC_ones 3
theorem NODES_seven : NODES 7 = 11 := by
  unfold NODES
  rw [PC_seven]
theorem PLC_nine : PLC 1 2 = 9 := by
  unfold PLC NODES
  have := PC_pow 2
  simp at this
  simp [this]
/-- a list of numbers, cell by cell. -/
theorem row_at {w : World} {base g n cap : Nat} {l : List Nat} (h : w.ownsRow base 23 1 (.slice (some ⟨g, 0, none⟩) n cap) n (UCELLS l)) (i : Nat) (hi : i < l.length) : w.cell? ⟨g, i, none⟩ = some (.int .u64 (l.getD i 0 : Nat)) := by
  have hlen : l.length = n := by have := h.1; simpa [UCELLS] using this
  rw [h.cellAt i (by omega)]
  unfold UCELLS
  rw [List.getElem?_map, List.getD_eq_getElem?_getD, List.getElem?_eq_getElem hi]
  rfl
end Go.Proofs.YtadpfcpipklmbabDoor

/- Two lists that read the same; four lists of one's own, none of which shares a block with another. -/
namespace Go.Proofs.YtadpfcpipklmbabDoor
open Go.RowKit

/-- a list of numbers lies there. -/
def Nums (w : World) (v : Value) (l : List Nat) : Prop := ∃ a cap, v = .slice a l.length cap ∧ (0 < l.length → ∃ g, a = some ⟨g, 0, none⟩ ∧ g < w.heap.size ∧ ∀ (j : Nat), j < l.length → w.cell? ⟨g, j, none⟩ = some (.int .u64 ((l.getD j 0 : Nat) : Int)))
theorem Nums.below {w w' : World} {v : Value} {l : List Nat} {B : Nat} (h : Nums w v l) (hb : Below B w w') (hB : w.heap.size ≤ B) : Nums w' v l := by
  obtain ⟨a, cap, rfl, h⟩ := h
  refine ⟨a, cap, rfl, fun h0 => ?_⟩
  obtain ⟨g, e, hg, hc⟩ := h h0
  exact ⟨g, e, Nat.lt_of_lt_of_le hg hb.size, fun j hj => (hb.cell (p := ⟨g, j, none⟩) (Nat.lt_of_lt_of_le hg hB)).trans (hc j hj)⟩
theorem nums_own {w : World} {base : Nat} {v : Value} {l : List Nat} (h : w.ownsRow base 23 1 v l.length (UCELLS l)) : Nums w v l := by
  rcases h.2 with ⟨rfl, h0⟩ | ⟨g, cap, cur, rfl, hb, hg, r⟩
  · rw [List.length_eq_zero_iff] at h0
    subst h0
    exact ⟨none, 0, rfl, fun h => absurd h (by simp)⟩
  · exact ⟨_, cap, rfl, fun h0 => ⟨g, rfl, (Array.getElem?_eq_some_iff.1 hg).1, fun j hj => row_at h j hj⟩⟩
/-- four lists of one's own: no two in one block, none in a block of K. -/
structure Four (w : World) (B : Nat) (K : Nat → Prop) (v : Nat → Value) (n : Nat → Nat) (xs : Nat → List Value) : Prop where
  row : ∀ x, x < 4 → w.ownsRow B 23 1 (v x) (n x) (xs x)
  apart : ∀ x y, x < 4 → y < 4 → x ≠ y → ∀ g, (v x).ownBlock = some g → (v y).ownBlock ≠ some g
  off : ∀ x, x < 4 → ∀ g, (v x).ownBlock = some g → ¬ K g
/-- a function that is another one at one place. -/
def UPD {α : Type} (f : Nat → α) (x : Nat) (a : α) : Nat → α := fun z => if z = x then a else f z
theorem UPD_at {α : Type} (f : Nat → α) (x : Nat) (a : α) : UPD f x a x = a := by simp [UPD]
theorem UPD_other {α : Type} (f : Nat → α) {x z : Nat} (a : α) (h : z ≠ x) : UPD f x a z = f z := by simp [UPD, h]
theorem Four.alloc {w : World} {B : Nat} {K : Nat → Prop} {v : Nat → Value} {n : Nat → Nat} {xs : Nat → List Value} (h : Four w B K v n xs) (o : Obj) : Four (w.alloc o) B K v n xs := ⟨fun x hx => (h.row x hx).alloc o, h.apart, h.off⟩
theorem Four.more {w : World} {B : Nat} {K K' : Nat → Prop} {v : Nat → Value} {n : Nat → Nat} {xs : Nat → List Value} (h : Four w B K v n xs) (hK : ∀ g, g < w.heap.size → K' g → K g) : Four w B K' v n xs :=
  ⟨h.row, h.apart, fun x hx g hg hk => h.off x hx g hg (hK g ((h.row x hx).lt g hg).2 hk)⟩
theorem Four.below {w w' : World} {B : Nat} {K : Nat → Prop} {v : Nat → Value} {n : Nat → Nat} {xs : Nat → List Value} (h : Four w B K v n xs) (hb : Below w.heap.size w w') : Four w' B K v n xs := ⟨fun x hx => own_below (h.row x hx) hb, h.apart, h.off⟩
theorem grown_set (W : World) (b j : Nat) (v : Value) : W.grownBy (W.setCell ⟨b, j, none⟩ v) (some b) :=
  ⟨rfl, rfl, rfl, (KeepsWalks.setCell W _ v).size, fun k _ hk => Below.heap_setCell _ _ _ k (fun e => hk (by rw [e]))⟩
/-- what is stored into a block of K. -/
theorem Four.other {w : World} {B : Nat} {K : Nat → Prop} {v : Nat → Value} {n : Nat → Nat} {xs : Nat → List Value} (h : Four w B K v n xs) {b : Nat} (hb : K b) (j : Nat) (u : Value) : Four (w.setCell ⟨b, j, none⟩ u) B K v n xs :=
  ⟨fun x hx => (h.row x hx).kept (grown_set w b j u) (.inr fun e => h.off x hx b e hb), h.apart, h.off⟩
/-- what is stored into one of the four. -/
theorem Four.store {w : World} {B : Nat} {K : Nat → Prop} {v : Nat → Value} {n : Nat → Nat} {xs : Nat → List Value} (h : Four w B K v n xs) {x g m cap : Nat} (hx : x < 4) (hv : v x = .slice (some ⟨g, 0, none⟩) m cap) (j : Nat) (u : Value) :
    Four (w.setCell ⟨g, j, none⟩ u) B K v n (UPD xs x ((xs x).set j u)) := by
  refine ⟨fun z hz => ?_, h.apart, h.off⟩
  by_cases e : z = x
  · subst e
    have hr := h.row z hz
    rw [hv] at hr ⊢
    have hm : m = n z := by
      rcases hr.2 with ⟨e, _⟩ | ⟨_, _, _, e, _⟩
      · simp at e
      · simp at e
        omega
    subst hm
    rw [UPD_at]
    exact (hr.stored j u).1
  · rw [UPD_other xs _ e]
    refine (h.row z hz).kept (grown_set w g j u) (.inr fun e2 => ?_)
    exact h.apart x z hx hz (fun e3 => e e3.symm) g (by rw [hv]; rfl) e2
/-- one of the four is appended to. -/
theorem Four.app {w w' : World} {B : Nat} {K : Nat → Prop} {v : Nat → Value} {n : Nat → Nat} {xs : Nat → List Value} (h : Four w B K v n xs) {x g cap : Nat} {u : Value} (hx : x < 4) (hK : ∀ k, K k → k < w.heap.size)
    (hown : w'.ownsRow B 23 1 (.slice (some ⟨g, 0, none⟩) (n x + 1) cap) (n x + 1) (xs x ++ [u])) (hgrow : w.grownBy w' (v x).ownBlock) (hg : (v x).ownBlock = some g ∨ g = w.heap.size) :
    Four w' B K (UPD v x (.slice (some ⟨g, 0, none⟩) (n x + 1) cap)) (UPD n x (n x + 1)) (UPD xs x (xs x ++ [u])) := by
  refine ⟨fun z hz => ?_, fun y z hy hz hne k hk => ?_, fun z hz k hk => ?_⟩
  · by_cases e : z = x
    · subst e
      rw [UPD_at, UPD_at, UPD_at]
      exact hown
    · rw [UPD_other v _ e, UPD_other n _ e, UPD_other xs _ e]
      refine (h.row z hz).kept hgrow ?_
      cases hb : (v z).ownBlock with
      | none => exact .inl rfl
      | some k => exact .inr fun e2 => h.apart z x hz hx e k hb e2.symm
  · by_cases ey : y = x
    · subst ey
      rw [UPD_at] at hk
      have hkg : g = k := by simpa [Value.ownBlock] using hk
      subst hkg
      rw [UPD_other v _ (fun e => hne e.symm)]
      intro e2
      rcases hg with hg | hg
      · exact h.apart y z hx hz hne g hg e2
      · have := ((h.row z hz).lt g e2).2
        omega
    · rw [UPD_other v _ ey] at hk
      by_cases ez : z = x
      · subst ez
        rw [UPD_at]
        intro e2
        have hkg : g = k := by simpa [Value.ownBlock] using e2
        subst hkg
        rcases hg with hg | hg
        · exact h.apart y z hy hz hne g hk hg
        · have := ((h.row y hy).lt g hk).2
          omega
      · rw [UPD_other v _ ez]
        exact h.apart y z hy hz hne k hk
  · by_cases ez : z = x
    · subst ez
      rw [UPD_at] at hk
      have hkg : g = k := by simpa [Value.ownBlock] using hk
      subst hkg
      rcases hg with hg | hg
      · exact h.off z hz g hg
      · intro hkk
        have := hK g hkk
        omega
    · rw [UPD_other v _ ez] at hk
      exact h.off z hz k hk
/-- a list's form. -/
theorem own_slice {w : World} {B n : Nat} {v : Value} {xs : List Value} (h : w.ownsRow B 23 1 v n xs) : ∃ a cap, v = .slice a n cap ∧ (0 < n → ∃ g, a = some ⟨g, 0, none⟩ ∧ g < w.heap.size ∧ B ≤ g) := by
  rcases h.2 with ⟨rfl, h0⟩ | ⟨g, cap, cur, rfl, hb, hg, r⟩
  · subst h0
    exact ⟨none, 0, rfl, fun h => by omega⟩
  · exact ⟨_, cap, rfl, fun _ => ⟨g, rfl, (Array.getElem?_eq_some_iff.1 hg).1, hb⟩⟩
theorem app_more {ops : Array Oper} {rest : List Oper} {o : Oper} {a : Act} {Q : Exit → Act → World → Prop} (w : World) (hgd : o.guard = none) (s x : Operand)
    (ho : o.op = .call { callee := .builtin .append, args := #[s, x], argTypes := #[22, 22] })
    (base : Nat) (v : Value) (n : Nat) (xs : List Value) (hs : a.eval s = v) (hown : w.ownsRow base 23 1 v n xs)
    (b c : Nat) (y : Int) (hx : a.eval x = .slice (some ⟨b, 0, none⟩) 1 c) (hc : w.cell? ⟨b, 0, none⟩ = some (.int .u64 y))
    (hb : n ≤ 1000) (hbase : base ≤ w.heap.size)
    (h : ∀ g cap w', w'.ownsRow base 23 1 (.slice (some ⟨g, 0, none⟩) (n + 1) cap) (n + 1) (xs ++ [.int .u64 y]) → w.grownBy w' v.ownBlock → (v.ownBlock = some g ∨ g = w.heap.size) → g < w'.heap.size → wpList Tryd.prog ops Q rest (a.put o.dst (.slice (some ⟨g, 0, none⟩) (n + 1) cap)) w') : wpList Tryd.prog ops Q (o :: rest) a w := by
  obtain ⟨i, hi, hz, hs1, hby⟩ := info_parts info_u64
  refine wpList_append_lies w hgd s x 22 ho base 23 i (.int .u64 0) 1 8 Tryd.underlying22 hi hz hs1 hby rfl (by decide) v n xs hs hown ⟨b, 0, none⟩ 1 c [.int .u64 y] hx rfl ?_ (fun u hu => by simp at hu; subst hu; rfl) (by decide) (by simp only [maxLen]; omega) (by omega) hbase w.heap.size rfl h
  intro j u hj
  cases j with
  | zero =>
    simp only [List.getElem?_cons_zero, Option.some.injEq] at hj
    subst hj
    exact hc
  | succ j => simp at hj
theorem Has.grown {w w' : World} {g : Nat} {c : Array Value} {t : TypeId} {row : Option Nat} (h : Has w g c t) (hg : w.grownBy w' row) (hne : row ≠ some g) : Has w' g c t := by
  obtain ⟨_, _, _, _, hk⟩ := hg
  exact (hk g h.lt (fun e => hne e.symm)).trans h
/-- the four as they come: each in a world of its own. -/
theorem Four.of {w : World} {B b1 b2 b3 b4 : Nat} {K : Nat → Prop} {v0 v1 v2 v3 : Value} {n m : Nat} {xs ys : List Value} (h0 : w.ownsRow B 23 1 v0 n xs) (h1 : w.ownsRow b1 23 1 v1 n xs) (h2 : w.ownsRow b2 23 1 v2 m ys) (h3 : w.ownsRow b3 23 1 v3 m ys)
    (l0 : ∀ k, v0.ownBlock = some k → k < b1) (l1 : ∀ k, v1.ownBlock = some k → k < b2) (l2 : ∀ k, v2.ownBlock = some k → k < b3) (l3 : ∀ k, v3.ownBlock = some k → k < b4) (o1 : B ≤ b1) (o2 : b1 ≤ b2) (o3 : b2 ≤ b3) (o4 : b3 ≤ b4) (hK : ∀ k, K k → b4 ≤ k) :
    ∃ (V : Nat → Value) (N : Nat → Nat) (XS : Nat → List Value), Four w B K V N XS ∧ V 0 = v0 ∧ V 1 = v1 ∧ V 2 = v2 ∧ V 3 = v3 ∧ (∀ x, x < 4 → N x = n ∨ N x = m) := by
  have key : ∀ x, x < 4 → x = 0 ∨ x = 1 ∨ x = 2 ∨ x = 3 := fun x hx => by omega
  have bnd : ∀ x, x < 4 → ∀ k, ((if x = 0 then v0 else if x = 1 then v1 else if x = 2 then v2 else v3 : Value)).ownBlock = some k → (if x = 0 then B else if x = 1 then b1 else if x = 2 then b2 else b3) ≤ k ∧ k < (if x = 0 then b1 else if x = 1 then b2 else if x = 2 then b3 else b4) := fun x hx k hk => by
    rcases key x hx with rfl | rfl | rfl | rfl
    · exact ⟨(h0.lt k hk).1, l0 k hk⟩
    · exact ⟨(h1.lt k hk).1, l1 k hk⟩
    · exact ⟨(h2.lt k hk).1, l2 k hk⟩
    · exact ⟨(h3.lt k hk).1, l3 k hk⟩
  refine ⟨fun x => if x = 0 then v0 else if x = 1 then v1 else if x = 2 then v2 else v3, fun x => if x < 2 then n else m, fun x => if x < 2 then xs else ys, ⟨fun x hx => ?_, fun x y hx hy hne k hk hk2 => ?_, fun x hx k hk hkk => ?_⟩, rfl, rfl, rfl, rfl, fun x hx => ?_⟩
  · rcases key x hx with rfl | rfl | rfl | rfl
    · exact h0
    · exact own_mono h1 o1
    · exact own_mono h2 (Nat.le_trans o1 o2)
    · exact own_mono h3 (Nat.le_trans o1 (Nat.le_trans o2 o3))
  · have hx' := bnd x hx k hk
    have hy' := bnd y hy k hk2
    rcases key x hx with rfl | rfl | rfl | rfl <;> rcases key y hy with rfl | rfl | rfl | rfl <;> simp at hx' hy' hne <;> omega
  · have hx' := bnd x hx k hk
    have := hK k hkk
    rcases key x hx with rfl | rfl | rfl | rfl <;> simp at hx' <;> omega
  · rcases key x hx with rfl | rfl | rfl | rfl <;> simp
end Go.Proofs.YtadpfcpipklmbabDoor

/- What the small functions of package cut answer. -/
namespace Go.Proofs.YtadpfcpipklmbabDoor
open Go.RowKit

theorem low_nat (X : Nat) (hX : X < 2 ^ 64) : ∃ t : Nat, t ≤ 64 ∧ (X = 0 → t = 64) ∧ (∀ h, h ≤ 64 → (X % 2 ^ h = 0 ↔ h ≤ t)) ∧ ∀ w, Tabled w → Calls Tryd.prog 48 #[.int .u64 (X : Int)] w fun e w' => e = .returned (.int .i64 (t : Int)) ∧ w = w' := by
  by_cases h0 : X = 0
  · subst h0
    exact ⟨64, Nat.le_refl _, fun _ => rfl, fun h hh => by simp [hh], fun w _ => low_raw _ _ w (tz_zero w)⟩
  · obtain ⟨t, q, e⟩ := low_split X h0
    have ht := (neg_and hX e).2
    refine ⟨t, by omega, fun c => absurd c h0, ?_, fun w hT => low_raw _ _ w (tz_ok X t q hX e w hT)⟩
    intro h _
    constructor
    · intro hm
      rcases Nat.lt_or_ge t h with c | c
      · have h1 : 2 ^ (t + 1) ∣ 2 ^ h := Nat.pow_dvd_pow 2 c
        have h2 : X % 2 ^ (t + 1) = 0 := Nat.mod_eq_zero_of_dvd (Nat.dvd_trans h1 (Nat.dvd_of_mod_eq_zero hm))
        rw [e, Nat.mul_comm] at h2
        have := even_up.1 h2
        omega
      · exact c
    · intro hm
      have h1 : 2 ^ h ∣ 2 ^ t := Nat.pow_dvd_pow 2 hm
      exact Nat.mod_eq_zero_of_dvd (Nat.dvd_trans h1 ⟨_, e⟩)
theorem HT_min {a b t : Nat} (hab : a < b) (hb : b ≤ 4611686018427387904) (ht : t ≤ 64) (hd : ∀ h, h ≤ 64 → (a % 2 ^ h = 0 ↔ h ≤ t)) : min (t : Int) ((LEN (b - a) : Nat) - 1 : Int) = ((HT a b : Nat) : Int) := by
  obtain ⟨l1, l2, l3⟩ := LEN_span (b - a) (by omega) (by omega)
  have l4 : LEN (b - a) - 1 ≤ 62 := by
    rcases Nat.lt_or_ge 62 (LEN (b - a) - 1) with h | h
    · have : 2 ^ 63 ≤ 2 ^ (LEN (b - a) - 1) := Nat.pow_le_pow_right (by decide) h
      omega
    · exact h
  have : min t (LEN (b - a) - 1) = HT a b := by
    refine HT_only hab hb ⟨(hd _ (by omega)).2 (by omega), ?_⟩ ?_
    · have : 2 ^ min t (LEN (b - a) - 1) ≤ 2 ^ (LEN (b - a) - 1) := Nat.pow_le_pow_right (by decide) (by omega)
      omega
    · intro c
      rcases Nat.lt_or_ge t (LEN (b - a) - 1) with h | h
      · have := (hd _ (by omega)).1 c.1
        omega
      · have h1 := c.2
        have : 2 ^ LEN (b - a) ≤ 2 ^ (min t (LEN (b - a) - 1) + 1) := Nat.pow_le_pow_right (by decide) (by omega)
        omega
  rw [← this]
  omega
theorem xor_one (k : Nat) (hk : k < 2 ^ 64) : bits .xor .u64 (k : Int) 1 = ((SIB k : Nat) : Int) := by
  have : bits .xor .u64 (k : Int) ((1 : Nat) : Int) = ((k ^^^ 1 : Nat) : Int) := bits_xor_u64_nat k 1 (by omega) (by omega)
  have e : k ^^^ 1 = SIB k := by
    apply Nat.eq_of_testBit_eq
    intro i
    unfold SIB
    cases i with
    | zero =>
      rw [Nat.testBit_xor]
      simp only [Nat.testBit_zero]
      split <;> rw [Bool.eq_iff_iff] <;> simp <;> omega
    | succ i =>
      rw [Nat.testBit_xor, Nat.testBit_succ, Nat.testBit_succ, Nat.testBit_succ]
      have : (1 : Nat) / 2 = 0 := by decide
      rw [this, Nat.zero_testBit, Bool.xor_false]
      congr 1
      split <;> omega
  rw [e] at this
  exact this
end Go.Proofs.YtadpfcpipklmbabDoor

/- A block that stays while a list of one's own grows. -/
namespace Go.Proofs.YtadpfcpipklmbabDoor
open Go.RowKit

theorem Has.grew {w w' : World} {g : Nat} {c : Array Value} {t : TypeId} {row : Option Nat} (h : Has w g c t) (hg : w.grownBy w' row) (hne : row ≠ some g) : Has w' g c t := by
  obtain ⟨_, _, _, _, hk⟩ := hg
  exact (hk g h.lt (fun e => hne e.symm)).trans h
theorem kept_new {wr w1 : World} {c : Array Value} {t t' : TypeId} {base s n : Nat} {v : Value} {xs : List Value} {o : Obj} (hown : wr.ownsRow base t' s v n xs) (hgrow : ((wr.alloc (.cells c t)).alloc o).grownBy w1 v.ownBlock) : Has w1 wr.heap.size c t :=
  ((Has.new wr c t).alloc o).grew hgrow (fun e => by have := (hown.lt _ e).2; omega)
end Go.Proofs.YtadpfcpipklmbabDoor

/- What Span answers. -/
namespace Go.Proofs.YtadpfcpipklmbabDoor
open Go.RowKit

end Go.Proofs.YtadpfcpipklmbabDoor
