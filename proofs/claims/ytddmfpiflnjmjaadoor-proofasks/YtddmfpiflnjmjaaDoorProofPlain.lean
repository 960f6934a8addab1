/- Which nodes a proof has, as spots: the siblings on the way up and the other peaks; the peaks of an earlier size and the spots behind it. -/
import Derived.Test.YtddmfpiflnjmjaaDoorCutTopsPlain
namespace Go.Proofs.YtddmfpiflnjmjaaDoor

/-- the places of spots. -/
def PLCS (l : List (Nat × Nat)) : List Nat := l.map fun s => PLC s.1 s.2
theorem PLCS_length (l : List (Nat × Nat)) : (PLCS l).length = l.length := by simp [PLCS]
theorem PLCS_append (l m : List (Nat × Nat)) : PLCS (l ++ m) = PLCS l ++ PLCS m := by simp [PLCS]
theorem PLCS_at {l : List (Nat × Nat)} {j h k : Nat} (e : l[j]? = some (h, k)) : (PLCS l).getD j 0 = PLC h k := by
  simp [PLCS, List.getD, e]
theorem PEAKS_spots {n : Nat} (hn : n ≤ 4611686018427387904) : PEAKS n = PLCS (SPAN 0 n) := by
  have hl := PEAKS_length (n := n) (by omega)
  apply List.ext_getElem?
  intro j
  by_cases hj : j < PC n
  · have h1 := PEAKS_at (n := n) (by omega) hj
    have h2 := SPAN_zero_at hn hj
    rw [List.getD, List.getElem?_eq_getElem (by omega)] at h1
    rw [List.getElem?_eq_getElem (by omega)]
    simp only [Option.getD_some] at h1
    rw [h1]
    simp [PLCS, h2]
  · rw [List.getElem?_eq_none (by omega), List.getElem?_eq_none (by rw [PLCS_length, SPAN_zero_length hn]; omega)]
/-- the siblings on the way up from the leaf i, the first H of them. -/
def WAYS (i H : Nat) : List (Nat × Nat) := (List.range H).map fun h => (h, SIB (i / 2 ^ h))
theorem WAYS_succ (i H : Nat) : WAYS i (H + 1) = WAYS i H ++ [(H, SIB (i / 2 ^ H))] := by simp [WAYS, List.range_succ]
theorem WAYS_length (i H : Nat) : (WAYS i H).length = H := by simp [WAYS]
theorem WAY_spots (i H : Nat) : WAY i H = PLCS (WAYS i H) := by simp [WAY, WAYS, PLCS]
theorem erase_map {α β : Type} (f : α → β) : ∀ (l : List α) (k : Nat), (l.map f).eraseIdx k = (l.eraseIdx k).map f := by
  intro l
  induction l with
  | nil => intro k; simp
  | cons a l ih =>
    intro k
    cases k with
    | zero => simp
    | succ k => simp [ih]
theorem erase_snoc {α : Type} (x : α) : ∀ (l : List α) (k : Nat), (l ++ [x]).eraseIdx k = if k = l.length then l.eraseIdx k else l.eraseIdx k ++ [x] := by
  intro l
  induction l with
  | nil =>
    intro k
    cases k with
    | zero => simp
    | succ k => simp
  | cons a l ih =>
    intro k
    cases k with
    | zero => simp
    | succ k =>
      have := ih k
      rw [List.cons_append, List.eraseIdx_cons_succ, this, List.length_cons, List.eraseIdx_cons_succ]
      by_cases e : k = l.length
      · rw [if_pos e, if_pos (by omega)]
      · rw [if_neg e, if_neg (by omega)]
        rfl
/-- the spots of the nodes of the proof of the leaf i of n. -/
def PSP (i n : Nat) : List (Nat × Nat) := WAYS i (RISE i n) ++ (SPAN 0 n).eraseIdx (KTH i n)
theorem PSP_places {i n : Nat} (hn : n ≤ 4611686018427387904) : PLCS (PSP i n) = WAY i (RISE i n) ++ (PEAKS n).eraseIdx (KTH i n) := by
  unfold PSP
  rw [PLCS_append, WAY_spots, PEAKS_spots hn]
  unfold PLCS
  rw [erase_map]
/-- the spots of the nodes of the proof that n leaves begin with m of them. -/
def PXS (m n : Nat) : List (Nat × Nat) := SPAN 0 m ++ SPAN m n
theorem PXS_tile {m n : Nat} (hmn : m ≤ n) (hn : n ≤ 4611686018427387904) : Tile 0 (PXS m n) n := (tile_span (by omega) (Nat.zero_le _)).append (tile_span hn hmn)
theorem PXS_places {m n : Nat} (hmn : m ≤ n) (hn : n ≤ 4611686018427387904) : PLCS (PXS m n) = PEAKS m ++ PLCS (SPAN m n) := by
  unfold PXS
  rw [PLCS_append, PEAKS_spots (by omega)]
theorem PXS_length {m n : Nat} (hmn : m ≤ n) (hn : n ≤ 4611686018427387904) : (PXS m n).length ≤ 188 := by
  have h1 := SPAN_zero_length (n := m) (by omega)
  have h2 := PC_lt_pow 64 m (by omega)
  have h3 := SPAN_length (a := m) hn
  unfold PXS
  rw [List.length_append]
  omega
theorem PSP_length {i n : Nat} (hi : i < n) (hn : n ≤ 4611686018427387904) : (PSP i n).length + 1 = RISE i n + PC n := by
  have h1 := KTH_lt hi hn
  have h2 := SPAN_zero_length hn
  unfold PSP
  rw [List.length_append, WAYS_length, List.length_eraseIdx, if_pos (by omega)]
  omega
theorem PSP_few {i n : Nat} (hi : i < n) (hn : n ≤ 4611686018427387904) : (PSP i n).length ≤ 126 := by
  have h1 := PSP_length hi hn
  have h2 := (RISE_spec hi hn).2.1
  have h3 := PC_lt_pow 64 n (by omega)
  omega
/-- two spots have no leaf together. -/
def Off (s t : Nat × Nat) : Prop := (s.2 + 1) * 2 ^ s.1 ≤ t.2 * 2 ^ t.1 ∨ (t.2 + 1) * 2 ^ t.1 ≤ s.2 * 2 ^ s.1
/-- how many leaves lie under spots. -/
def SIZE (l : List (Nat × Nat)) : Nat := (l.map fun s => 2 ^ s.1).sum
theorem SIZE_append (l m : List (Nat × Nat)) : SIZE (l ++ m) = SIZE l + SIZE m := by simp [SIZE]
theorem SIZE_snoc (l : List (Nat × Nat)) (s : Nat × Nat) : SIZE (l ++ [s]) = SIZE l + 2 ^ s.1 := by simp [SIZE]
theorem succ_pow (k h : Nat) : (k + 1) * 2 ^ h = k * 2 ^ h + 2 ^ h := by rw [Nat.add_mul, Nat.one_mul]
theorem Tile.size {l : List (Nat × Nat)} : ∀ {a b : Nat}, Tile a l b → a + SIZE l = b := by
  induction l with
  | nil => intro a b h; have : a = b := h; simp [SIZE, this]
  | cons s l ih =>
    intro a b ⟨h1, h2, h3⟩
    have := ih h3
    rw [succ_pow, h2] at this
    simp only [SIZE, List.map_cons, List.sum_cons] at this ⊢
    omega
theorem Tile.within {l : List (Nat × Nat)} : ∀ {a b : Nat}, Tile a l b → ∀ s ∈ l, a ≤ s.2 * 2 ^ s.1 ∧ (s.2 + 1) * 2 ^ s.1 ≤ b ∧ Node s.1 s.2 := by
  induction l with
  | nil => intro a b _ s hs; simp at hs
  | cons t l ih =>
    intro a b ⟨h1, h2, h3⟩ s hs
    rcases List.mem_cons.1 hs with rfl | hs
    · exact ⟨by omega, h3.bound.1, h1⟩
    · have := ih h3 s hs
      have h4 := succ_pow t.2 t.1
      have h5 := Nat.two_pow_pos t.1
      exact ⟨by omega, this.2⟩
theorem Tile.off {l : List (Nat × Nat)} : ∀ {a b : Nat}, Tile a l b → l.Pairwise Off := by
  induction l with
  | nil => intro a b _; exact List.Pairwise.nil
  | cons t l ih =>
    intro a b ⟨h1, h2, h3⟩
    refine List.Pairwise.cons (fun s hs => ?_) (ih h3)
    exact .inl (h3.within s hs).1
theorem pow_split (i H : Nat) : i / 2 ^ H * 2 ^ H ≤ i ∧ i < (i / 2 ^ H + 1) * 2 ^ H := by
  have h1 := Nat.div_add_mod i (2 ^ H)
  have h2 := Nat.mod_lt i (Nat.two_pow_pos H)
  rw [Nat.mul_comm] at h1
  rw [succ_pow]
  omega
/-- the sibling and the node itself are the halves of the node over them. -/
theorem sib_halves (k h : Nat) : (SIB k % 2 ≠ k % 2) ∧ k / 2 * 2 ^ (h + 1) ≤ SIB k * 2 ^ h ∧ (SIB k + 1) * 2 ^ h ≤ (k / 2 + 1) * 2 ^ (h + 1) ∧ k / 2 * 2 ^ (h + 1) ≤ k * 2 ^ h ∧ (k + 1) * 2 ^ h ≤ (k / 2 + 1) * 2 ^ (h + 1) ∧ ((SIB k + 1) * 2 ^ h ≤ k * 2 ^ h ∨ (k + 1) * 2 ^ h ≤ SIB k * 2 ^ h) := by
  have e := pow_up h
  have up : ∀ m, m * 2 ^ (h + 1) = (2 * m) * 2 ^ h := fun m => by rw [e, Nat.mul_comm 2 m, Nat.mul_assoc]
  rw [up, up]
  have mono : ∀ {a b : Nat}, a ≤ b → a * 2 ^ h ≤ b * 2 ^ h := fun hab => Nat.mul_le_mul_right _ hab
  unfold SIB
  split
  · exact ⟨by omega, mono (by omega), mono (by omega), mono (by omega), mono (by omega), .inl (mono (by omega))⟩
  · exact ⟨by omega, mono (by omega), mono (by omega), mono (by omega), mono (by omega), .inr (mono (by omega))⟩
theorem WAYS_within (i : Nat) : ∀ H, ∀ s ∈ WAYS i H, i / 2 ^ H * 2 ^ H ≤ s.2 * 2 ^ s.1 ∧ (s.2 + 1) * 2 ^ s.1 ≤ (i / 2 ^ H + 1) * 2 ^ H := by
  intro H
  induction H with
  | zero => intro s hs; simp [WAYS] at hs
  | succ H ih =>
    intro s hs
    rw [WAYS_succ, List.mem_append, List.mem_singleton] at hs
    have h1 := sib_halves (i / 2 ^ H) H
    rw [half_pow]
    rcases hs with hs | rfl
    · have := ih s hs
      omega
    · exact ⟨h1.2.1, h1.2.2.1⟩
theorem WAYS_off (i : Nat) : ∀ H, (WAYS i H).Pairwise Off := by
  intro H
  induction H with
  | zero => simp [WAYS]
  | succ H ih =>
    rw [WAYS_succ, List.pairwise_append]
    refine ⟨ih, by simp, fun s hs t ht => ?_⟩
    rw [List.mem_singleton] at ht
    subst ht
    have h1 := (sib_halves (i / 2 ^ H) H).2.2.2.2.2
    have h2 := WAYS_within i H s hs
    unfold Off
    dsimp only
    omega
theorem WAYS_size (i : Nat) : ∀ H, SIZE (WAYS i H) + 1 = 2 ^ H := by
  intro H
  induction H with
  | zero => simp [WAYS, SIZE]
  | succ H ih =>
    rw [WAYS_succ, SIZE_snoc, pow_up]
    dsimp only
    omega
theorem WAYS_leaf (i : Nat) : ∀ H, ∀ s ∈ WAYS i H, ¬ (s.2 * 2 ^ s.1 ≤ i ∧ i < (s.2 + 1) * 2 ^ s.1) := by
  intro H
  induction H with
  | zero => intro s hs; simp [WAYS] at hs
  | succ H ih =>
    intro s hs
    rw [WAYS_succ, List.mem_append, List.mem_singleton] at hs
    rcases hs with hs | rfl
    · exact ih s hs
    · have h1 := (sib_halves (i / 2 ^ H) H).2.2.2.2.2
      have h2 := pow_split i H
      dsimp only
      omega
theorem WAYS_node {i : Nat} (hi : i < 4611686018427387904) : ∀ H, H ≤ 62 → ∀ s ∈ WAYS i H, Node s.1 s.2 := by
  intro H hH s hs
  simp only [WAYS, List.mem_map, List.mem_range] at hs
  obtain ⟨h, hh, rfl⟩ := hs
  exact (Node.over hi h (by omega)).sib (by omega)
theorem node_lt {h k n : Nat} (hn : (k + 1) * 2 ^ h ≤ n) : PLC h k < NODES n := by
  have h1 := NODES_le hn
  have h2 := NODES_add ((k + 1) * 2 ^ h)
  rw [PC_shift] at h2
  have h3 := PLC_eq h k
  have h4 := PC_succ k
  have h5 : 2 ^ (h + 1) * (k + 1) = 2 * ((k + 1) * 2 ^ h) := by rw [pow_up, Nat.mul_assoc, Nat.mul_comm (2 ^ h)]
  omega
/-- the peak over the leaf. -/
theorem KTH_spot {i n : Nat} (hi : i < n) (hn : n ≤ 4611686018427387904) : (SPAN 0 n)[KTH i n]? = some (RISE i n, i / 2 ^ RISE i n) ∧ (PEAKS n).getD (KTH i n) 0 = PLC (RISE i n) (i / 2 ^ RISE i n) := by
  have h1 := KTH_at hi hn
  have h2 := KTH_lt hi hn
  have h3 := SPAN_zero_at hn h2
  have h4 : HGT n (KTH i n) = RISE i n := by simp [HGT, List.getD, h1]
  have h5 : KGT n (KTH i n) = i / 2 ^ RISE i n := by
    unfold KGT
    rw [h4]
    exact (RISE_spec hi hn).2.2.2.2.symm
  rw [h4, h5] at h3
  refine ⟨h3, ?_⟩
  rw [PEAKS_spots hn]
  exact PLCS_at h3
theorem Pairwise.at_lt {α : Type} {R : α → α → Prop} {l : List α} (h : l.Pairwise R) {a b : Nat} {x y : α} (hab : a < b) (ha : l[a]? = some x) (hb : l[b]? = some y) : R x y := by
  obtain ⟨h1, rfl⟩ := List.getElem?_eq_some_iff.1 ha
  obtain ⟨h2, rfl⟩ := List.getElem?_eq_some_iff.1 hb
  exact (List.pairwise_iff_getElem.1 h) a b h1 h2 hab
theorem erase_mem {α : Type} {l : List α} {k : Nat} {x : α} (h : x ∈ l.eraseIdx k) : ∃ j, j ≠ k ∧ l[j]? = some x := by
  obtain ⟨j, hj⟩ := List.mem_iff_getElem?.1 h
  rw [List.getElem?_eraseIdx] at hj
  split at hj
  · exact ⟨j, by omega, hj⟩
  · exact ⟨j + 1, by omega, hj⟩
theorem off_symm {s t : Nat × Nat} (h : Off s t) : Off t s := h.elim .inr .inl
theorem erase_size : ∀ (l : List (Nat × Nat)) (k : Nat) (s : Nat × Nat), l[k]? = some s → SIZE (l.eraseIdx k) + 2 ^ s.1 = SIZE l := by
  intro l
  induction l with
  | nil => intro k s h; simp at h
  | cons a l ih =>
    intro k s h
    cases k with
    | zero =>
      simp at h
      subst h
      simp [SIZE]
      omega
    | succ k =>
      have := ih k s (by simpa using h)
      simp only [SIZE, List.eraseIdx_cons_succ, List.map_cons, List.sum_cons] at this ⊢
      omega
/-- what the nodes of a proof are: nodes of the forest, none over the leaf, no two over one leaf, all others under them. -/
theorem PSP_spec {i n : Nat} (hi : i < n) (hn : n ≤ 4611686018427387904) :
    (∀ s ∈ PSP i n, Node s.1 s.2 ∧ PLC s.1 s.2 < NODES n ∧ ¬ (s.2 * 2 ^ s.1 ≤ i ∧ i < (s.2 + 1) * 2 ^ s.1)) ∧ (PSP i n).Pairwise Off ∧ SIZE (PSP i n) + 1 = n := by
  obtain ⟨hK, _⟩ := KTH_spot hi hn
  have h62 := (RISE_spec hi hn).2.1
  have hT := tile_span hn (Nat.zero_le n)
  have hp := pow_split i (RISE i n)
  have hin := hT.within _ (List.mem_of_getElem? hK)
  dsimp only at hin
  have hoff := hT.off
  have hother : ∀ s ∈ (SPAN 0 n).eraseIdx (KTH i n), Off s (RISE i n, i / 2 ^ RISE i n) := by
    intro s hs
    obtain ⟨j, hj, e⟩ := erase_mem hs
    rcases Nat.lt_or_ge j (KTH i n) with h | h
    · exact Pairwise.at_lt hoff h e hK
    · exact off_symm (Pairwise.at_lt hoff (by omega : KTH i n < j) hK e)
  refine ⟨fun s hs => ?_, ?_, ?_⟩
  · unfold PSP at hs
    rcases List.mem_append.1 hs with hs | hs
    · have h1 := WAYS_within i _ s hs
      exact ⟨WAYS_node (by omega) _ h62 s hs, node_lt (by omega), WAYS_leaf i _ s hs⟩
    · have h1 := hT.within s (List.mem_of_mem_eraseIdx hs)
      have h2 := hother s hs
      unfold Off at h2
      dsimp only at h2
      exact ⟨h1.2.2, node_lt h1.2.1, by omega⟩
  · unfold PSP
    rw [List.pairwise_append]
    refine ⟨WAYS_off i _, hoff.sublist (List.eraseIdx_sublist _ _), fun s hs t ht => ?_⟩
    have h1 := WAYS_within i _ s hs
    have h2 := hother t ht
    unfold Off at h2 ⊢
    dsimp only at h2
    omega
  · unfold PSP
    rw [SIZE_append]
    have h1 := WAYS_size i (RISE i n)
    have h2 := erase_size _ _ _ hK
    have h3 := hT.size
    dsimp only at h2
    omega
end Go.Proofs.YtddmfpiflnjmjaaDoor
