/- Texts of ProofWrites, one behind the other: ProofPlain, PosCalls, PosSpot, PosKin. -/
import Derived.WalkKit
import Derived.WalkLawsBesides
import Derived.Deep.LoopGhost
import Derived.Deep.QuietTactic
import Derived.BigQuiet
import Derived.Deep.RegionHeld3
import Derived.Test.YtfjmbfppilfepaaDoorProofWritesP1
import Derived.Test.YtfjmbfppilfepaaDoorProofWritesP3
import Derived.Test.YtfjmbfppilfepaaDoorProofWritesP5
import Derived.Test.YtfjmbfppilfepaaDoorProofWritesP6
import Derived.Test.YtfjmbfppilfepaaDoorProofWritesP7
/- Which nodes a proof has, as spots: the siblings on the way up and the other peaks; the peaks of an earlier size and the spots behind it. -/
namespace Go.Proofs.YtfjmbfppilfepaaDoor

/-- the places of spots. -/
def PLCS (l : List (Nat × Nat)) : List Nat := l.map fun s => PLC s.1 s.2
theorem PLCS_length (l : List (Nat × Nat)) : (PLCS l).length = l.length := by simp [PLCS]
theorem PLCS_append (l m : List (Nat × Nat)) : PLCS (l ++ m) = PLCS l ++ PLCS m := by simp [PLCS]
theorem PLCS_at {l : List (Nat × Nat)} {j h k : Nat} (e : l[j]? = some (h, k)) : (PLCS l).getD j 0 = PLC h k := by
  simp [PLCS, List.getD, e]
theorem PEAKS_spots {n : Nat} (hn : n ≤ 4611686018427387904) : PEAKS n = PLCS (SPAN 0 n) := by
  have hl := PEAKS_length (n := n) (by omega)
  apply List.ext_getElem?
  intro j
  by_cases hj : j < PC n
  · have h1 := PEAKS_at (n := n) (by omega) hj
    have h2 := SPAN_zero_at hn hj
    rw [List.getD, List.getElem?_eq_getElem (by omega)] at h1
    rw [List.getElem?_eq_getElem (by omega)]
    simp only [Option.getD_some] at h1
    rw [h1]
    simp [PLCS, h2]
  · rw [List.getElem?_eq_none (by omega), List.getElem?_eq_none (by rw [PLCS_length, SPAN_zero_length hn]; omega)]
/-- the siblings on the way up from the leaf i, the first H of them. -/
def WAYS (i H : Nat) : List (Nat × Nat) := (List.range H).map fun h => (h, SIB (i / 2 ^ h))
theorem WAYS_succ (i H : Nat) : WAYS i (H + 1) = WAYS i H ++ [(H, SIB (i / 2 ^ H))] := by simp [WAYS, List.range_succ]
theorem WAYS_length (i H : Nat) : (WAYS i H).length = H := by simp [WAYS]
theorem WAY_spots (i H : Nat) : WAY i H = PLCS (WAYS i H) := by simp [WAY, WAYS, PLCS]
theorem erase_map {α β : Type} (f : α → β) : ∀ (l : List α) (k : Nat), (l.map f).eraseIdx k = (l.eraseIdx k).map f := by
  intro l
  induction l with
  | nil => intro k; simp
  | cons a l ih =>
    intro k
    cases k with
    | zero => simp
    | succ k => simp [ih]
theorem erase_snoc {α : Type} (x : α) : ∀ (l : List α) (k : Nat), (l ++ [x]).eraseIdx k = if k = l.length then l.eraseIdx k else l.eraseIdx k ++ [x] := by
  intro l
  induction l with
  | nil =>
    intro k
    cases k with
    | zero => simp
    | succ k => simp
  | cons a l ih =>
    intro k
    cases k with
    | zero => simp
    | succ k =>
      have := ih k
      rw [List.cons_append, List.eraseIdx_cons_succ, this, List.length_cons, List.eraseIdx_cons_succ]
      by_cases e : k = l.length
      · rw [if_pos e, if_pos (by omega)]
      · rw [if_neg e, if_neg (by omega)]
        rfl
/-- the spots of the nodes of the proof of the leaf i of n. -/
def PSP (i n : Nat) : List (Nat × Nat) := WAYS i (RISE i n) ++ (SPAN 0 n).eraseIdx (KTH i n)
theorem PSP_places {i n : Nat} (hn : n ≤ 4611686018427387904) : PLCS (PSP i n) = WAY i (RISE i n) ++ (PEAKS n).eraseIdx (KTH i n) := by
  unfold PSP
  rw [PLCS_append, WAY_spots, PEAKS_spots hn]
  unfold PLCS
  rw [erase_map]
/-- the spots of the nodes of the proof that n leaves begin with m of them. -/
def PXS (m n : Nat) : List (Nat × Nat) := SPAN 0 m ++ SPAN m n
theorem PXS_tile {m n : Nat} (hmn : m ≤ n) (hn : n ≤ 4611686018427387904) : Tile 0 (PXS m n) n := (tile_span (by omega) (Nat.zero_le _)).append (tile_span hn hmn)
theorem PXS_places {m n : Nat} (hmn : m ≤ n) (hn : n ≤ 4611686018427387904) : PLCS (PXS m n) = PEAKS m ++ PLCS (SPAN m n) := by
  unfold PXS
  rw [PLCS_append, PEAKS_spots (by omega)]
theorem PXS_length {m n : Nat} (hmn : m ≤ n) (hn : n ≤ 4611686018427387904) : (PXS m n).length ≤ 188 := by
  have h1 := SPAN_zero_length (n := m) (by omega)
  have h2 := PC_lt_pow 64 m (by omega)
  have h3 := SPAN_length (a := m) hn
  unfold PXS
  rw [List.length_append]
  omega
theorem PSP_length {i n : Nat} (hi : i < n) (hn : n ≤ 4611686018427387904) : (PSP i n).length + 1 = RISE i n + PC n := by
  have h1 := KTH_lt hi hn
  have h2 := SPAN_zero_length hn
  unfold PSP
  rw [List.length_append, WAYS_length, List.length_eraseIdx, if_pos (by omega)]
  omega
theorem PSP_few {i n : Nat} (hi : i < n) (hn : n ≤ 4611686018427387904) : (PSP i n).length ≤ 126 := by
  have h1 := PSP_length hi hn
  have h2 := (RISE_spec hi hn).2.1
  have h3 := PC_lt_pow 64 n (by omega)
  omega
/-- two spots have no leaf together. -/
def Off (s t : Nat × Nat) : Prop := (s.2 + 1) * 2 ^ s.1 ≤ t.2 * 2 ^ t.1 ∨ (t.2 + 1) * 2 ^ t.1 ≤ s.2 * 2 ^ s.1
/-- how many leaves lie under spots. -/
def SIZE (l : List (Nat × Nat)) : Nat := (l.map fun s => 2 ^ s.1).sum
theorem SIZE_append (l m : List (Nat × Nat)) : SIZE (l ++ m) = SIZE l + SIZE m := by simp [SIZE]
theorem SIZE_snoc (l : List (Nat × Nat)) (s : Nat × Nat) : SIZE (l ++ [s]) = SIZE l + 2 ^ s.1 := by simp [SIZE]
theorem succ_pow (k h : Nat) : (k + 1) * 2 ^ h = k * 2 ^ h + 2 ^ h := by rw [Nat.add_mul, Nat.one_mul]
theorem Tile.size {l : List (Nat × Nat)} : ∀ {a b : Nat}, Tile a l b → a + SIZE l = b := by
  induction l with
  | nil => intro a b h; have : a = b := h; simp [SIZE, this]
  | cons s l ih =>
    intro a b ⟨h1, h2, h3⟩
    have := ih h3
    rw [succ_pow, h2] at this
    simp only [SIZE, List.map_cons, List.sum_cons] at this ⊢
    omega
theorem Tile.within {l : List (Nat × Nat)} : ∀ {a b : Nat}, Tile a l b → ∀ s ∈ l, a ≤ s.2 * 2 ^ s.1 ∧ (s.2 + 1) * 2 ^ s.1 ≤ b ∧ Node s.1 s.2 := by
  induction l with
  | nil => intro a b _ s hs; simp at hs
  | cons t l ih =>
    intro a b ⟨h1, h2, h3⟩ s hs
    rcases List.mem_cons.1 hs with rfl | hs
    · exact ⟨by omega, h3.bound.1, h1⟩
    · have := ih h3 s hs
      have h4 := succ_pow t.2 t.1
      have h5 := Nat.two_pow_pos t.1
      exact ⟨by omega, this.2⟩
theorem Tile.off {l : List (Nat × Nat)} : ∀ {a b : Nat}, Tile a l b → l.Pairwise Off := by
  induction l with
  | nil => intro a b _; exact List.Pairwise.nil
  | cons t l ih =>
    intro a b ⟨h1, h2, h3⟩
    refine List.Pairwise.cons (fun s hs => ?_) (ih h3)
    exact .inl (h3.within s hs).1
theorem pow_split (i H : Nat) : i / 2 ^ H * 2 ^ H ≤ i ∧ i < (i / 2 ^ H + 1) * 2 ^ H := by
  have h1 := Nat.div_add_mod i (2 ^ H)
  have h2 := Nat.mod_lt i (Nat.two_pow_pos H)
  rw [Nat.mul_comm] at h1
  rw [succ_pow]
  omega
/-- the sibling and the node itself are the halves of the node over them. -/
theorem sib_halves (k h : Nat) : (SIB k % 2 ≠ k % 2) ∧ k / 2 * 2 ^ (h + 1) ≤ SIB k * 2 ^ h ∧ (SIB k + 1) * 2 ^ h ≤ (k / 2 + 1) * 2 ^ (h + 1) ∧ k / 2 * 2 ^ (h + 1) ≤ k * 2 ^ h ∧ (k + 1) * 2 ^ h ≤ (k / 2 + 1) * 2 ^ (h + 1) ∧ ((SIB k + 1) * 2 ^ h ≤ k * 2 ^ h ∨ (k + 1) * 2 ^ h ≤ SIB k * 2 ^ h) := by
  have e := pow_up h
  have up : ∀ m, m * 2 ^ (h + 1) = (2 * m) * 2 ^ h := fun m => by rw [e, Nat.mul_comm 2 m, Nat.mul_assoc]
  rw [up, up]
  have mono : ∀ {a b : Nat}, a ≤ b → a * 2 ^ h ≤ b * 2 ^ h := fun hab => Nat.mul_le_mul_right _ hab
  unfold SIB
  split
  · exact ⟨by omega, mono (by omega), mono (by omega), mono (by omega), mono (by omega), .inl (mono (by omega))⟩
  · exact ⟨by omega, mono (by omega), mono (by omega), mono (by omega), mono (by omega), .inr (mono (by omega))⟩
theorem WAYS_within (i : Nat) : ∀ H, ∀ s ∈ WAYS i H, i / 2 ^ H * 2 ^ H ≤ s.2 * 2 ^ s.1 ∧ (s.2 + 1) * 2 ^ s.1 ≤ (i / 2 ^ H + 1) * 2 ^ H := by
  intro H
  induction H with
  | zero => intro s hs; simp [WAYS] at hs
  | succ H ih =>
    intro s hs
    rw [WAYS_succ, List.mem_append, List.mem_singleton] at hs
    have h1 := sib_halves (i / 2 ^ H) H
    rw [half_pow]
    rcases hs with hs | rfl
    · have := ih s hs
      omega
    · exact ⟨h1.2.1, h1.2.2.1⟩
theorem WAYS_off (i : Nat) : ∀ H, (WAYS i H).Pairwise Off := by
  intro H
  induction H with
  | zero => simp [WAYS]
  | succ H ih =>
    rw [WAYS_succ, List.pairwise_append]
    refine ⟨ih, by simp, fun s hs t ht => ?_⟩
    rw [List.mem_singleton] at ht
    subst ht
    have h1 := (sib_halves (i / 2 ^ H) H).2.2.2.2.2
    have h2 := WAYS_within i H s hs
    unfold Off
    dsimp only
    omega
theorem WAYS_size (i : Nat) : ∀ H, SIZE (WAYS i H) + 1 = 2 ^ H := by
  intro H
  induction H with
  | zero => simp [WAYS, SIZE]
  | succ H ih =>
    rw [WAYS_succ, SIZE_snoc, pow_up]
    dsimp only
    omega
theorem WAYS_leaf (i : Nat) : ∀ H, ∀ s ∈ WAYS i H, ¬ (s.2 * 2 ^ s.1 ≤ i ∧ i < (s.2 + 1) * 2 ^ s.1) := by
  intro H
  induction H with
  | zero => intro s hs; simp [WAYS] at hs
  | succ H ih =>
    intro s hs
    rw [WAYS_succ, List.mem_append, List.mem_singleton] at hs
    rcases hs with hs | rfl
    · exact ih s hs
    · have h1 := (sib_halves (i / 2 ^ H) H).2.2.2.2.2
      have h2 := pow_split i H
      dsimp only
      omega
theorem WAYS_node {i : Nat} (hi : i < 4611686018427387904) : ∀ H, H ≤ 62 → ∀ s ∈ WAYS i H, Node s.1 s.2 := by
  intro H hH s hs
  simp only [WAYS, List.mem_map, List.mem_range] at hs
  obtain ⟨h, hh, rfl⟩ := hs
  exact (Node.over hi h (by omega)).sib (by omega)
theorem node_lt {h k n : Nat} (hn : (k + 1) * 2 ^ h ≤ n) : PLC h k < NODES n := by
  have h1 := NODES_le hn
  have h2 := NODES_add ((k + 1) * 2 ^ h)
  rw [PC_shift] at h2
  have h3 := PLC_eq h k
  have h4 := PC_succ k
  have h5 : 2 ^ (h + 1) * (k + 1) = 2 * ((k + 1) * 2 ^ h) := by rw [pow_up, Nat.mul_assoc, Nat.mul_comm (2 ^ h)]
  omega
/-- the peak over the leaf. -/
theorem KTH_spot {i n : Nat} (hi : i < n) (hn : n ≤ 4611686018427387904) : (SPAN 0 n)[KTH i n]? = some (RISE i n, i / 2 ^ RISE i n) ∧ (PEAKS n).getD (KTH i n) 0 = PLC (RISE i n) (i / 2 ^ RISE i n) := by
  have h1 := KTH_at hi hn
  have h2 := KTH_lt hi hn
  have h3 := SPAN_zero_at hn h2
  have h4 : HGT n (KTH i n) = RISE i n := by simp [HGT, List.getD, h1]
  have h5 : KGT n (KTH i n) = i / 2 ^ RISE i n := by
    unfold KGT
    rw [h4]
    exact (RISE_spec hi hn).2.2.2.2.symm
  rw [h4, h5] at h3
  refine ⟨h3, ?_⟩
  rw [PEAKS_spots hn]
  exact PLCS_at h3
theorem Pairwise.at_lt {α : Type} {R : α → α → Prop} {l : List α} (h : l.Pairwise R) {a b : Nat} {x y : α} (hab : a < b) (ha : l[a]? = some x) (hb : l[b]? = some y) : R x y := by
  obtain ⟨h1, rfl⟩ := List.getElem?_eq_some_iff.1 ha
  obtain ⟨h2, rfl⟩ := List.getElem?_eq_some_iff.1 hb
  exact (List.pairwise_iff_getElem.1 h) a b h1 h2 hab
theorem erase_mem {α : Type} {l : List α} {k : Nat} {x : α} (h : x ∈ l.eraseIdx k) : ∃ j, j ≠ k ∧ l[j]? = some x := by
  obtain ⟨j, hj⟩ := List.mem_iff_getElem?.1 h
  rw [List.getElem?_eraseIdx] at hj
  split at hj
  · exact ⟨j, by omega, hj⟩
  · exact ⟨j + 1, by omega, hj⟩
theorem off_symm {s t : Nat × Nat} (h : Off s t) : Off t s := h.elim .inr .inl
theorem erase_size : ∀ (l : List (Nat × Nat)) (k : Nat) (s : Nat × Nat), l[k]? = some s → SIZE (l.eraseIdx k) + 2 ^ s.1 = SIZE l := by
  intro l
  induction l with
  | nil => intro k s h; simp at h
  | cons a l ih =>
    intro k s h
    cases k with
    | zero =>
      simp at h
      subst h
      simp [SIZE]
      omega
    | succ k =>
      have := ih k s (by simpa using h)
      simp only [SIZE, List.eraseIdx_cons_succ, List.map_cons, List.sum_cons] at this ⊢
      omega
/-- what the nodes of a proof are: nodes of the forest, none over the leaf, no two over one leaf, all others under them. -/
theorem PSP_spec {i n : Nat} (hi : i < n) (hn : n ≤ 4611686018427387904) :
    (∀ s ∈ PSP i n, Node s.1 s.2 ∧ PLC s.1 s.2 < NODES n ∧ ¬ (s.2 * 2 ^ s.1 ≤ i ∧ i < (s.2 + 1) * 2 ^ s.1)) ∧ (PSP i n).Pairwise Off ∧ SIZE (PSP i n) + 1 = n := by
  obtain ⟨hK, _⟩ := KTH_spot hi hn
  have h62 := (RISE_spec hi hn).2.1
  have hT := tile_span hn (Nat.zero_le n)
  have hp := pow_split i (RISE i n)
  have hin := hT.within _ (List.mem_of_getElem? hK)
  dsimp only at hin
  have hoff := hT.off
  have hother : ∀ s ∈ (SPAN 0 n).eraseIdx (KTH i n), Off s (RISE i n, i / 2 ^ RISE i n) := by
    intro s hs
    obtain ⟨j, hj, e⟩ := erase_mem hs
    rcases Nat.lt_or_ge j (KTH i n) with h | h
    · exact Pairwise.at_lt hoff h e hK
    · exact off_symm (Pairwise.at_lt hoff (by omega : KTH i n < j) hK e)
  refine ⟨fun s hs => ?_, ?_, ?_⟩
  · unfold PSP at hs
    rcases List.mem_append.1 hs with hs | hs
    · have h1 := WAYS_within i _ s hs
      exact ⟨WAYS_node (by omega) _ h62 s hs, node_lt (by omega), WAYS_leaf i _ s hs⟩
    · have h1 := hT.within s (List.mem_of_mem_eraseIdx hs)
      have h2 := hother s hs
      unfold Off at h2
      dsimp only at h2
      exact ⟨h1.2.2, node_lt h1.2.1, by omega⟩
  · unfold PSP
    rw [List.pairwise_append]
    refine ⟨WAYS_off i _, hoff.sublist (List.eraseIdx_sublist _ _), fun s hs t ht => ?_⟩
    have h1 := WAYS_within i _ s hs
    have h2 := hother t ht
    unfold Off at h2 ⊢
    dsimp only at h2
    omega
  · unfold PSP
    rw [SIZE_append]
    have h1 := WAYS_size i (RISE i n)
    have h2 := erase_size _ _ _ hK
    have h3 := hT.size
    dsimp only at h2
    omega
end Go.Proofs.YtfjmbfppilfepaaDoor

/- What the small functions of package pos answer: tree, ahead, Nodes, over, beside, Leaf. -/
namespace Go.Proofs.YtfjmbfppilfepaaDoor
open Go.RowKit

theorem MASK_TREE {h : Nat} (hh : h ≤ 63) : MASK ((h : Int) + 1) = TREE h := by
  unfold MASK TREE
  rw [show min ((h : Int) + 1).toNat 64 = h + 1 by omega]
theorem TREE_lt {h : Nat} (hh : h ≤ 63) : TREE h < 2 ^ 64 := by
  have : 2 ^ (h + 1) ≤ 2 ^ 64 := Nat.pow_le_pow_right (by decide) (by omega)
  have := two_le h
  unfold TREE
  omega
theorem tree_raw (h r : Int) (w : World) (e : wrap64 (h + 1) = h + 1) (c : ∀ w, Calls Tryd.prog 87 #[.int .i64 (h + 1)] w fun e w' => e = .returned (.int .u64 r) ∧ w = w') :
    Calls Tryd.prog 82 #[.int .i64 h] w fun e w' => e = .returned (.int .u64 r) ∧ w = w' := by
  go_enter Tryd.func82, Tryd.ntmps82
  go_wp2_with fail
  refine (c _).mono ?_
  rintro e w' ⟨rfl, rfl⟩
  go_wp2
  go_ret
  exact ⟨rfl, rfl⟩
theorem tree_ok (h : Nat) (hh : h ≤ 63) (w : World) : Calls Tryd.prog 82 #[.int .i64 (h : Int)] w fun e w' => e = .returned (.int .u64 ((TREE h : Nat) : Int)) ∧ w = w' := by
  refine tree_raw h _ w (by unfold wrap64; omega) (fun w => ?_)
  rw [← MASK_TREE hh]
  exact mask_ok ((h : Int) + 1) (by omega) w
theorem ahead_raw (n c r : Int) (w : World) (e : IntKind.u64.wrap (IntKind.u64.wrap (n * 2) - IntKind.u64.wrap c) = r) (k : ∀ w, Calls Tryd.prog 79 #[.int .u64 n] w fun e w' => e = .returned (.int .i64 c) ∧ w = w') :
    Calls Tryd.prog 76 #[.int .u64 n] w fun e w' => e = .returned (.int .u64 r) ∧ w = w' := by
  go_enter Tryd.func76, Tryd.ntmps76
  go_wp2_with fail
  refine (k _).mono ?_
  rintro e w' ⟨rfl, rfl⟩
  go_wp2
  go_ret
  exact ⟨rfl, rfl⟩
theorem ahead_ok (n : Nat) (hn : n < 2 ^ 63) (w : World) : Calls Tryd.prog 76 #[.int .u64 (n : Int)] w fun e w' => e = .returned (.int .u64 ((NODES n : Nat) : Int)) ∧ w = w' := by
  refine ahead_raw n (POP n : Nat) _ w ?_ (fun w => ones_ok n (by omega) w)
  rw [POP_PC (by omega), wrapU, wrapU, wrapU]
  have := NODES_add n
  have := PC_le n
  omega
theorem over_right (p h : Int) (w : World) : Calls Tryd.prog 78 #[.int .u64 p, .int .i64 h, .bool true] w fun e w' => e = .returned (.int .u64 (IntKind.u64.wrap (p + 1))) ∧ w = w' := by
  go_enter Tryd.func78, Tryd.ntmps78
  go_wp2
  go_ret
  exact ⟨rfl, rfl⟩
theorem over_left (p h t : Int) (w : World) (c : ∀ w, Calls Tryd.prog 82 #[.int .i64 h] w fun e w' => e = .returned (.int .u64 t) ∧ w = w') :
    Calls Tryd.prog 78 #[.int .u64 p, .int .i64 h, .bool false] w fun e w' => e = .returned (.int .u64 (IntKind.u64.wrap (IntKind.u64.wrap (p + t) + 1))) ∧ w = w' := by
  go_enter Tryd.func78, Tryd.ntmps78
  go_wp2_with fail
  refine (c _).mono ?_
  rintro e w' ⟨rfl, rfl⟩
  go_wp2
  go_ret
  exact ⟨rfl, rfl⟩
theorem beside_right (p h t : Int) (w : World) (c : ∀ w, Calls Tryd.prog 82 #[.int .i64 h] w fun e w' => e = .returned (.int .u64 t) ∧ w = w') :
    Calls Tryd.prog 77 #[.int .u64 p, .int .i64 h, .bool true] w fun e w' => e = .returned (.int .u64 (IntKind.u64.wrap (p - t))) ∧ w = w' := by
  go_enter Tryd.func77, Tryd.ntmps77
  go_wp2_with fail
  refine (c _).mono ?_
  rintro e w' ⟨rfl, rfl⟩
  go_wp2
  go_ret
  exact ⟨rfl, rfl⟩
theorem beside_left (p h t : Int) (w : World) (c : ∀ w, Calls Tryd.prog 82 #[.int .i64 h] w fun e w' => e = .returned (.int .u64 t) ∧ w = w') :
    Calls Tryd.prog 77 #[.int .u64 p, .int .i64 h, .bool false] w fun e w' => e = .returned (.int .u64 (IntKind.u64.wrap (p + t))) ∧ w = w' := by
  go_enter Tryd.func77, Tryd.ntmps77
  go_wp2_with fail
  refine (c _).mono ?_
  rintro e w' ⟨rfl, rfl⟩
  go_wp2
  go_ret
  exact ⟨rfl, rfl⟩
end Go.Proofs.YtfjmbfppilfepaaDoor

/- What Spot answers: the node that stands at a place. -/
namespace Go.Proofs.YtfjmbfppilfepaaDoor
open Go.RowKit

/-- the spot (h, k) as a value. -/
abbrev SPOT (h k : Nat) : Value := .agg #[.int .u8 (h : Int), .int .u64 (k : Int)]
theorem high_ok (X : Nat) (hX : X < 2 ^ 64) (w : World) : Calls Tryd.prog 85 #[.int .u64 (X : Int)] w fun e w' => e = .returned (.int .i64 ((LEN X : Nat) - 1 : Int)) ∧ w = w' := by
  have hl : LEN X ≤ 64 := by
    unfold LEN
    have := L8_le (X / 72057594037927936)
    have := L8_le (X / 281474976710656)
    have := L8_le (X / 1099511627776)
    have := L8_le (X / 4294967296)
    have := L8_le (X / 16777216)
    have := L8_le (X / 65536)
    have := L8_le (X / 256)
    have := L8_le X
    repeat' split
    all_goals omega
  exact high_raw X _ w (fun w => len_ok X hX w) (by omega) (by omega)

theorem spot_not (p : Int) (hp : 9223372036854775807 ≤ p) (w : World) : Calls Tryd.prog 93 #[.int .u64 p] w fun e w' => e = .returned (.tuple #[SPOT 0 0, .bool false]) ∧ Below w.heap.size w w' := by
  go_enter Tryd.func93, Tryd.ntmps93
  go_wp2
  refine bodyPost_ret (v := .tuple #[SPOT 0 0, .bool false]) ?_ rfl ⟨rfl, (Below.refl _ _).alloc (Nat.le_refl _) _⟩
  simp [results, Tryd.f93, go_sem]
theorem or_low {m H : Nat} (hH : 1 ≤ H) : m * 2 ^ H ||| 2 ^ (H - 1) = (2 * m + 1) * 2 ^ (H - 1) := by
  have h1 : 2 ^ (H - 1) < 2 ^ H := Nat.pow_lt_pow_right (by decide) (by omega)
  have h2 := Nat.shiftLeft_add_eq_or_of_lt h1 m
  rw [Nat.shiftLeft_eq] at h2
  rw [← h2, Nat.add_mul, Nat.one_mul]
  congr 1
  obtain ⟨j, rfl⟩ : ∃ j, H = j + 1 := ⟨H - 1, by omega⟩
  rw [Nat.add_sub_cancel, Nat.pow_succ, Nat.mul_comm 2 m, Nat.mul_assoc, Nat.mul_comm 2]
theorem spot_ok (h k : Nat) (hN : Node h k) (w : World) : Calls Tryd.prog 93 #[.int .u64 ((PLC h k : Nat) : Int)] w fun e w' => e = .returned (.tuple #[SPOT h k, .bool true]) ∧ Below w.heap.size w w' := by
  have hp := hN.lt
  obtain ⟨p, hpe⟩ : ∃ p, p = PLC h k := ⟨_, rfl⟩
  rw [← hpe] at hp ⊢
  have HN : Aside (Node h k ∧ p = PLC h k ∧ p < 9223372036854775807) := ⟨hN, hpe, hp⟩
  have hd : decide ((9223372036854775807 : Int) ≤ (p : Int)) = false := by simp; omega
  have e1 : IntKind.u64.wrap ((p : Int) + 1) = (p : Int) + 1 := by rw [wrapU]; omega
  have c1 := high_ok (p + 1) (by omega)
  obtain ⟨h1, h2, h3⟩ := LEN_span (p + 1) (by omega) (by omega)
  obtain ⟨H, hH⟩ : ∃ H, LEN (p + 1) = H + 1 := ⟨LEN (p + 1) - 1, by omega⟩
  rw [hH] at h2 h3 c1
  rw [show (((H + 1 : Nat) : Int) - 1) = (H : Int) by omega, show ((p + 1 : Nat) : Int) = (p : Int) + 1 by omega] at c1
  have HH : Aside (H ≤ 62 ∧ p + 2 ≤ 2 ^ (H + 1)) := by
    refine ⟨?_, by omega⟩
    rcases Nat.lt_or_ge 62 H with h | h
    · have : 2 ^ 63 ≤ 2 ^ H := Nat.pow_le_pow_right (by decide) h
      simp at h2
      omega
    · exact h
  clear hN hpe hp h1 h2 h3 hH
  go_enter Tryd.func93, Tryd.ntmps93
  go_wp2_with fail
  refine (c1 _).mono ?_
  rintro e w' ⟨rfl, rfl⟩
  clear c1
  go_wp2
  go_loopg [0, 4, 5] H (fun g s0 s4 s5 wx => ∃ q L : Nat, s0 = .int .u64 (q : Int) ∧ s4 = .int .i64 (g : Int) ∧ s5 = .int .u64 (L : Int) ∧ Aside (wx = w.alloc (.cells #[.int .u8 0, .int .u64 0] 99) ∧ g ≤ 62 ∧ q + 2 ≤ 2 ^ (g + 1) ∧ ∃ m, L = m * 2 ^ g ∧ Node g m ∧ p = NODES L + q))
  case atStart => exact ⟨p, 0, rfl, rfl, rfl, rfl, HH.out.1, HH.out.2, 0, by simp, ⟨HH.out.1, Nat.two_pow_pos _⟩, by rw [NODES_zero]; omega⟩
  case round =>
    obtain ⟨q, L, rfl, rfl, rfl, A⟩ := hrel
    obtain ⟨hw, hg, hq, m, hL, hNm, hpL⟩ := A.out
    clear A
    have e2 : IntKind.u64.wrap ((q : Int) + 1) = (q : Int) + 1 := by
      have : 2 ^ (gk + 1) ≤ 2 ^ 63 := Nat.pow_le_pow_right (by decide) (by omega)
      rw [wrapU]
      omega
    have c1 := tree_ok gk (by omega)
    by_cases hT : q + 1 = TREE gk
    · have hmk : h = gk ∧ k = m := by
        refine HN.out.1.one hNm ?_
        rw [← HN.out.2.1, hpL, hL]
        unfold PLC
        unfold TREE at hT
        have := two_le gk
        omega
      obtain ⟨rfl, rfl⟩ := hmk
      have hLk : (L : Int) / 2 ^ h = (k : Int) := by
        rw [hL, div_cast, Nat.mul_div_cancel _ (Nat.two_pow_pos h)]
      rw [← hT, show ((q + 1 : Nat) : Int) = (q : Int) + 1 by omega] at c1
      have R : Aside (L = k * 2 ^ h ∧ h ≤ 62 ∧ (L : Int) / 2 ^ h = (k : Int)) := ⟨hL, hg, hLk⟩
      clear hg hq hL hNm hpL HN HH hT hLk
      subst hw
      go_wp2_with fail
      refine (c1 _).mono ?_
      rintro e w' ⟨rfl, rfl⟩
      clear c1
      go_wp2
      obtain ⟨hL, hg, hLk⟩ := R.out
      rw [show (h : Int) % 256 = (h : Int) by omega, show min h 64 = h by omega, hLk]
      refine bodyPost_ret (v := .tuple #[SPOT h k, .bool true]) ?_ rfl ⟨rfl, (Below.refl _ _).alloc (Nat.le_refl _) _⟩
      simp [results, Tryd.f93, go_sem]
    · have h1 : 1 ≤ gk := by
        rcases Nat.eq_zero_or_pos gk with h0 | h0
        · subst h0
          simp at hq
          unfold TREE at hT
          simp at hT
          omega
        · exact h0
      obtain ⟨g, rfl⟩ : ∃ g, gk = g + 1 := ⟨gk - 1, by omega⟩
      have c2 := tree_ok g (by omega)
      have hb : ((q : Int) + 1 == ((TREE (g + 1) : Nat) : Int)) = false := by simp; omega
      generalize hT1 : TREE (g + 1) = t1 at *
      have e3 : wrap64 (g : Int) = (g : Int) := by unfold wrap64; omega
      rw [show (((g + 1 : Nat) : Int)) = (g : Int) + 1 by omega] at c1 ⊢
      have R : Aside (wr = w.alloc (.cells #[.int .u8 0, .int .u64 0] 99) ∧ g + 1 ≤ 62 ∧ q + 2 ≤ 2 ^ (g + 1 + 1) ∧ L = m * 2 ^ (g + 1) ∧ Node (g + 1) m ∧ p = NODES L + q ∧ q + 1 ≠ t1 ∧ TREE (g + 1) = t1) := ⟨hw, hg, hq, hL, hNm, hpL, hT, hT1⟩
      clear hw hg hq hL hNm hpL hT hT1 h1 HN HH
      by_cases hlt : TREE g ≤ q
      · have hd2 : decide (((TREE g : Nat) : Int) ≤ (q : Int)) = true := by simp; omega
        obtain ⟨t2, ht2⟩ : ∃ t2, TREE g = t2 := ⟨_, rfl⟩
        rw [ht2] at c2 hd2
        have hd3 : (t2 : Int) ≤ (q : Int) := by simpa using hd2
        have R2 : Aside (TREE g = t2 ∧ t2 ≤ q) := ⟨ht2, by omega⟩
        clear hlt ht2 hd2
        go_wp2_with fail
        refine (c1 _).mono ?_
        rintro e w' ⟨rfl, rfl⟩
        clear c1
        go_wp2_with fail
        refine (c2 _).mono ?_
        rintro e w' ⟨rfl, rfl⟩
        clear c2
        go_wp2
        go_roundg g
        case measure => omega
        case rel =>
          obtain ⟨r1, r2, r3, r4, r5, r6, r7, r8⟩ := R.out
          obtain ⟨s1, s2⟩ := R2.out
          have hpw := two_le g
          have hpp : 2 ^ (g + 1 + 1) = 2 * 2 ^ (g + 1) := by rw [Nat.pow_succ 2 (g + 1), Nat.mul_comm]
          have hp63 : 2 ^ (g + 1 + 1) ≤ 2 ^ 63 := Nat.pow_le_pow_right (by decide) (by omega)
          have hg64 : 2 ^ g < 2 ^ 64 := Nat.pow_lt_pow_right (by decide) (by omega)
          have hL64 : L < 2 ^ 64 := by
            have := r5.span
            rw [Nat.add_mul, ← r4] at this
            omega
          have ea : IntKind.u64.wrap ((q : Int) - t2) = ((q - t2 : Nat) : Int) := by rw [wrapU]; omega
          have eb : bits .or .u64 (L : Int) (IntKind.u64.wrap (2 ^ min g 64)) = (((2 * m + 1) * 2 ^ g : Nat) : Int) := by
            have e5 : IntKind.u64.wrap (2 ^ min g 64) = ((2 ^ g : Nat) : Int) := by
              rw [wrapU, show min g 64 = g by omega, Int.natCast_pow]
              have : ((2 ^ g : Nat) : Int) = (2 : Int) ^ g := by simp
              have h7 : ((2 : Nat) : Int) = 2 := rfl
              rw [h7, ← this]
              omega
            rw [e5, or_eq hL64 hg64, r4]
            exact congrArg (fun x : Nat => (x : Int)) (or_low (m := m) (H := g + 1) (by omega))
          unfold TREE at s1 r8
          rw [ea, eb, e3]
          refine ⟨q - t2, (2 * m + 1) * 2 ^ g, rfl, rfl, rfl, r1, by omega, by omega, 2 * m + 1, rfl, ⟨by omega, ?_⟩, ?_⟩
          · have := r5.2
            rw [show 62 - g = 62 - (g + 1) + 1 by omega, Nat.pow_succ]
            omega
          · have e6 := NODES_plus m g
            rw [double_pow, ← r4] at e6
            rw [e6, r6]
            unfold TREE
            omega
      · have hd3 : ¬ ((TREE g : Nat) : Int) ≤ (q : Int) := by omega
        obtain ⟨t2, ht2⟩ : ∃ t2, TREE g = t2 := ⟨_, rfl⟩
        rw [ht2] at c2 hd3
        have R2 : Aside (TREE g = t2 ∧ q < t2) := ⟨ht2, by omega⟩
        clear hlt ht2
        go_wp2_with fail
        refine (c1 _).mono ?_
        rintro e w' ⟨rfl, rfl⟩
        clear c1
        go_wp2_with fail
        refine (c2 _).mono ?_
        rintro e w' ⟨rfl, rfl⟩
        clear c2
        go_wp2
        go_roundg g
        case measure => omega
        case rel =>
          obtain ⟨r1, r2, r3, r4, r5, r6, r7, r8⟩ := R.out
          obtain ⟨s1, s2⟩ := R2.out
          have hpw := two_le g
          unfold TREE at s1
          rw [e3]
          refine ⟨q, L, rfl, rfl, rfl, r1, by omega, by omega, 2 * m, by rw [double_pow, ← r4], ⟨by omega, ?_⟩, r6⟩
          have := r5.2
          rw [show 62 - g = 62 - (g + 1) + 1 by omega, Nat.pow_succ]
          omega
end Go.Proofs.YtfjmbfppilfepaaDoor

/- What Index, Leaves, Parent, Sibling, Kids, Right, Under and Since answer. -/
namespace Go.Proofs.YtfjmbfppilfepaaDoor
open Go.RowKit

/-- Spot answers so at p. -/
def SpotAt (p : Int) (h k : Nat) (ok : Bool) : Prop := ∀ w, Calls Tryd.prog 93 #[.int .u64 p] w fun e w' => e = .returned (.tuple #[SPOT h k, .bool ok]) ∧ Below w.heap.size w w'
theorem SpotAt.node {h k : Nat} (hN : Node h k) : SpotAt ((PLC h k : Nat) : Int) h k true := fun w => spot_ok h k hN w
theorem SpotAt.out {p : Int} (hp : 9223372036854775807 ≤ p) : SpotAt p 0 0 false := fun w => spot_not p hp w

end Go.Proofs.YtfjmbfppilfepaaDoor
