/- Texts of VerifyBinds, one behind the other: ProofPlain, PosRef, PosRefSpot, PosRefKin, PosTops, PosRefPeaks, PosRefPeak, PosRefPath, PosAwake. -/
import Derived.Test.YtccghfpnakkmaaaDoorVerifyBindsP5
import Derived.Test.YtccghfpnakkmaaaDoorVerifyBindsP6
import Derived.Test.YtccghfpnakkmaaaDoorVerifyBindsP7
/- Which nodes a proof has, as spots: the siblings on the way up and the other peaks; the peaks of an earlier size and the spots behind it. -/
namespace Go.Proofs.YtccghfpnakkmaaaDoor

/-- the places of spots. -/
def PLCS (l : List (Nat × Nat)) : List Nat := l.map fun s => PLC s.1 s.2
theorem PLCS_length (l : List (Nat × Nat)) : (PLCS l).length = l.length := by simp [PLCS]
theorem PLCS_append (l m : List (Nat × Nat)) : PLCS (l ++ m) = PLCS l ++ PLCS m := by simp [PLCS]
theorem PLCS_at {l : List (Nat × Nat)} {j h k : Nat} (e : l[j]? = some (h, k)) : (PLCS l).getD j 0 = PLC h k := by
  simp [PLCS, List.getD, e]
theorem PEAKS_spots {n : Nat} (hn : n ≤ 4611686018427387904) : PEAKS n = PLCS (SPAN 0 n) := by
  have hl := PEAKS_length (n := n) (by omega)
  apply List.ext_getElem?
  intro j
  by_cases hj : j < PC n
  · have h1 := PEAKS_at (n := n) (by omega) hj
    have h2 := SPAN_zero_at hn hj
    rw [List.getD, List.getElem?_eq_getElem (by omega)] at h1
    rw [List.getElem?_eq_getElem (by omega)]
    simp only [Option.getD_some] at h1
    rw [h1]
    simp [PLCS, h2]
  · rw [List.getElem?_eq_none (by omega), List.getElem?_eq_none (by rw [PLCS_length, SPAN_zero_length hn]; omega)]
/-- the siblings on the way up from the leaf i, the first H of them. -/
def WAYS (i H : Nat) : List (Nat × Nat) := (List.range H).map fun h => (h, SIB (i / 2 ^ h))
theorem WAYS_succ (i H : Nat) : WAYS i (H + 1) = WAYS i H ++ [(H, SIB (i / 2 ^ H))] := by simp [WAYS, List.range_succ]
theorem WAYS_length (i H : Nat) : (WAYS i H).length = H := by simp [WAYS]
theorem WAY_spots (i H : Nat) : WAY i H = PLCS (WAYS i H) := by simp [WAY, WAYS, PLCS]
theorem erase_map {α β : Type} (f : α → β) : ∀ (l : List α) (k : Nat), (l.map f).eraseIdx k = (l.eraseIdx k).map f := by
  intro l
  induction l with
  | nil => intro k; simp
  | cons a l ih =>
    intro k
    cases k with
    | zero => simp
    | succ k => simp [ih]
theorem erase_snoc {α : Type} (x : α) : ∀ (l : List α) (k : Nat), (l ++ [x]).eraseIdx k = if k = l.length then l.eraseIdx k else l.eraseIdx k ++ [x] := by
  intro l
  induction l with
  | nil =>
    intro k
    cases k with
    | zero => simp
    | succ k => simp
  | cons a l ih =>
    intro k
    cases k with
    | zero => simp
    | succ k =>
      have := ih k
      rw [List.cons_append, List.eraseIdx_cons_succ, this, List.length_cons, List.eraseIdx_cons_succ]
      by_cases e : k = l.length
      · rw [if_pos e, if_pos (by omega)]
      · rw [if_neg e, if_neg (by omega)]
        rfl
/-- the spots of the nodes of the proof of the leaf i of n. -/
def PSP (i n : Nat) : List (Nat × Nat) := WAYS i (RISE i n) ++ (SPAN 0 n).eraseIdx (KTH i n)
theorem PSP_places {i n : Nat} (hn : n ≤ 4611686018427387904) : PLCS (PSP i n) = WAY i (RISE i n) ++ (PEAKS n).eraseIdx (KTH i n) := by
  unfold PSP
  rw [PLCS_append, WAY_spots, PEAKS_spots hn]
  unfold PLCS
  rw [erase_map]
/-- the spots of the nodes of the proof that n leaves begin with m of them. -/
def PXS (m n : Nat) : List (Nat × Nat) := SPAN 0 m ++ SPAN m n
theorem PXS_tile {m n : Nat} (hmn : m ≤ n) (hn : n ≤ 4611686018427387904) : Tile 0 (PXS m n) n := (tile_span (by omega) (Nat.zero_le _)).append (tile_span hn hmn)
theorem PXS_places {m n : Nat} (hmn : m ≤ n) (hn : n ≤ 4611686018427387904) : PLCS (PXS m n) = PEAKS m ++ PLCS (SPAN m n) := by
  unfold PXS
  rw [PLCS_append, PEAKS_spots (by omega)]
theorem PXS_length {m n : Nat} (hmn : m ≤ n) (hn : n ≤ 4611686018427387904) : (PXS m n).length ≤ 188 := by
  have h1 := SPAN_zero_length (n := m) (by omega)
  have h2 := PC_lt_pow 64 m (by omega)
  have h3 := SPAN_length (a := m) hn
  unfold PXS
  rw [List.length_append]
  omega
theorem PSP_length {i n : Nat} (hi : i < n) (hn : n ≤ 4611686018427387904) : (PSP i n).length + 1 = RISE i n + PC n := by
  have h1 := KTH_lt hi hn
  have h2 := SPAN_zero_length hn
  unfold PSP
  rw [List.length_append, WAYS_length, List.length_eraseIdx, if_pos (by omega)]
  omega
theorem PSP_few {i n : Nat} (hi : i < n) (hn : n ≤ 4611686018427387904) : (PSP i n).length ≤ 126 := by
  have h1 := PSP_length hi hn
  have h2 := (RISE_spec hi hn).2.1
  have h3 := PC_lt_pow 64 n (by omega)
  omega
/-- two spots have no leaf together. -/
def Off (s t : Nat × Nat) : Prop := (s.2 + 1) * 2 ^ s.1 ≤ t.2 * 2 ^ t.1 ∨ (t.2 + 1) * 2 ^ t.1 ≤ s.2 * 2 ^ s.1
/-- how many leaves lie under spots. -/
def SIZE (l : List (Nat × Nat)) : Nat := (l.map fun s => 2 ^ s.1).sum
theorem SIZE_append (l m : List (Nat × Nat)) : SIZE (l ++ m) = SIZE l + SIZE m := by simp [SIZE]
theorem SIZE_snoc (l : List (Nat × Nat)) (s : Nat × Nat) : SIZE (l ++ [s]) = SIZE l + 2 ^ s.1 := by simp [SIZE]
theorem succ_pow (k h : Nat) : (k + 1) * 2 ^ h = k * 2 ^ h + 2 ^ h := by rw [Nat.add_mul, Nat.one_mul]
theorem Tile.size {l : List (Nat × Nat)} : ∀ {a b : Nat}, Tile a l b → a + SIZE l = b := by
  induction l with
  | nil => intro a b h; have : a = b := h; simp [SIZE, this]
  | cons s l ih =>
    intro a b ⟨h1, h2, h3⟩
    have := ih h3
    rw [succ_pow, h2] at this
    simp only [SIZE, List.map_cons, List.sum_cons] at this ⊢
    omega
theorem Tile.within {l : List (Nat × Nat)} : ∀ {a b : Nat}, Tile a l b → ∀ s ∈ l, a ≤ s.2 * 2 ^ s.1 ∧ (s.2 + 1) * 2 ^ s.1 ≤ b ∧ Node s.1 s.2 := by
  induction l with
  | nil => intro a b _ s hs; simp at hs
  | cons t l ih =>
    intro a b ⟨h1, h2, h3⟩ s hs
    rcases List.mem_cons.1 hs with rfl | hs
    · exact ⟨by omega, h3.bound.1, h1⟩
    · have := ih h3 s hs
      have h4 := succ_pow t.2 t.1
      have h5 := Nat.two_pow_pos t.1
      exact ⟨by omega, this.2⟩
theorem Tile.off {l : List (Nat × Nat)} : ∀ {a b : Nat}, Tile a l b → l.Pairwise Off := by
  induction l with
  | nil => intro a b _; exact List.Pairwise.nil
  | cons t l ih =>
    intro a b ⟨h1, h2, h3⟩
    refine List.Pairwise.cons (fun s hs => ?_) (ih h3)
    exact .inl (h3.within s hs).1
theorem pow_split (i H : Nat) : i / 2 ^ H * 2 ^ H ≤ i ∧ i < (i / 2 ^ H + 1) * 2 ^ H := by
  have h1 := Nat.div_add_mod i (2 ^ H)
  have h2 := Nat.mod_lt i (Nat.two_pow_pos H)
  rw [Nat.mul_comm] at h1
  rw [succ_pow]
  omega
/-- the sibling and the node itself are the halves of the node over them. -/
theorem sib_halves (k h : Nat) : (SIB k % 2 ≠ k % 2) ∧ k / 2 * 2 ^ (h + 1) ≤ SIB k * 2 ^ h ∧ (SIB k + 1) * 2 ^ h ≤ (k / 2 + 1) * 2 ^ (h + 1) ∧ k / 2 * 2 ^ (h + 1) ≤ k * 2 ^ h ∧ (k + 1) * 2 ^ h ≤ (k / 2 + 1) * 2 ^ (h + 1) ∧ ((SIB k + 1) * 2 ^ h ≤ k * 2 ^ h ∨ (k + 1) * 2 ^ h ≤ SIB k * 2 ^ h) := by
  have e := pow_up h
  have up : ∀ m, m * 2 ^ (h + 1) = (2 * m) * 2 ^ h := fun m => by rw [e, Nat.mul_comm 2 m, Nat.mul_assoc]
  rw [up, up]
  have mono : ∀ {a b : Nat}, a ≤ b → a * 2 ^ h ≤ b * 2 ^ h := fun hab => Nat.mul_le_mul_right _ hab
  unfold SIB
  split
  · exact ⟨by omega, mono (by omega), mono (by omega), mono (by omega), mono (by omega), .inl (mono (by omega))⟩
  · exact ⟨by omega, mono (by omega), mono (by omega), mono (by omega), mono (by omega), .inr (mono (by omega))⟩
theorem WAYS_within (i : Nat) : ∀ H, ∀ s ∈ WAYS i H, i / 2 ^ H * 2 ^ H ≤ s.2 * 2 ^ s.1 ∧ (s.2 + 1) * 2 ^ s.1 ≤ (i / 2 ^ H + 1) * 2 ^ H := by
  intro H
  induction H with
  | zero => intro s hs; simp [WAYS] at hs
  | succ H ih =>
    intro s hs
    rw [WAYS_succ, List.mem_append, List.mem_singleton] at hs
    have h1 := sib_halves (i / 2 ^ H) H
    rw [half_pow]
    rcases hs with hs | rfl
    · have := ih s hs
      omega
    · exact ⟨h1.2.1, h1.2.2.1⟩
theorem WAYS_off (i : Nat) : ∀ H, (WAYS i H).Pairwise Off := by
  intro H
  induction H with
  | zero => simp [WAYS]
  | succ H ih =>
    rw [WAYS_succ, List.pairwise_append]
    refine ⟨ih, by simp, fun s hs t ht => ?_⟩
    rw [List.mem_singleton] at ht
    subst ht
    have h1 := (sib_halves (i / 2 ^ H) H).2.2.2.2.2
    have h2 := WAYS_within i H s hs
    unfold Off
    dsimp only
    omega
theorem WAYS_size (i : Nat) : ∀ H, SIZE (WAYS i H) + 1 = 2 ^ H := by
  intro H
  induction H with
  | zero => simp [WAYS, SIZE]
  | succ H ih =>
    rw [WAYS_succ, SIZE_snoc, pow_up]
    dsimp only
    omega
theorem WAYS_leaf (i : Nat) : ∀ H, ∀ s ∈ WAYS i H, ¬ (s.2 * 2 ^ s.1 ≤ i ∧ i < (s.2 + 1) * 2 ^ s.1) := by
  intro H
  induction H with
  | zero => intro s hs; simp [WAYS] at hs
  | succ H ih =>
    intro s hs
    rw [WAYS_succ, List.mem_append, List.mem_singleton] at hs
    rcases hs with hs | rfl
    · exact ih s hs
    · have h1 := (sib_halves (i / 2 ^ H) H).2.2.2.2.2
      have h2 := pow_split i H
      dsimp only
      omega
theorem WAYS_node {i : Nat} (hi : i < 4611686018427387904) : ∀ H, H ≤ 62 → ∀ s ∈ WAYS i H, Node s.1 s.2 := by
  intro H hH s hs
  simp only [WAYS, List.mem_map, List.mem_range] at hs
  obtain ⟨h, hh, rfl⟩ := hs
  exact (Node.over hi h (by omega)).sib (by omega)
theorem node_lt {h k n : Nat} (hn : (k + 1) * 2 ^ h ≤ n) : PLC h k < NODES n := by
  have h1 := NODES_le hn
  have h2 := NODES_add ((k + 1) * 2 ^ h)
  rw [PC_shift] at h2
  have h3 := PLC_eq h k
  have h4 := PC_succ k
  have h5 : 2 ^ (h + 1) * (k + 1) = 2 * ((k + 1) * 2 ^ h) := by rw [pow_up, Nat.mul_assoc, Nat.mul_comm (2 ^ h)]
  omega
/-- the peak over the leaf. -/
theorem KTH_spot {i n : Nat} (hi : i < n) (hn : n ≤ 4611686018427387904) : (SPAN 0 n)[KTH i n]? = some (RISE i n, i / 2 ^ RISE i n) ∧ (PEAKS n).getD (KTH i n) 0 = PLC (RISE i n) (i / 2 ^ RISE i n) := by
  have h1 := KTH_at hi hn
  have h2 := KTH_lt hi hn
  have h3 := SPAN_zero_at hn h2
  have h4 : HGT n (KTH i n) = RISE i n := by simp [HGT, List.getD, h1]
  have h5 : KGT n (KTH i n) = i / 2 ^ RISE i n := by
    unfold KGT
    rw [h4]
    exact (RISE_spec hi hn).2.2.2.2.symm
  rw [h4, h5] at h3
  refine ⟨h3, ?_⟩
  rw [PEAKS_spots hn]
  exact PLCS_at h3
theorem Pairwise.at_lt {α : Type} {R : α → α → Prop} {l : List α} (h : l.Pairwise R) {a b : Nat} {x y : α} (hab : a < b) (ha : l[a]? = some x) (hb : l[b]? = some y) : R x y := by
  obtain ⟨h1, rfl⟩ := List.getElem?_eq_some_iff.1 ha
  obtain ⟨h2, rfl⟩ := List.getElem?_eq_some_iff.1 hb
  exact (List.pairwise_iff_getElem.1 h) a b h1 h2 hab
theorem erase_mem {α : Type} {l : List α} {k : Nat} {x : α} (h : x ∈ l.eraseIdx k) : ∃ j, j ≠ k ∧ l[j]? = some x := by
  obtain ⟨j, hj⟩ := List.mem_iff_getElem?.1 h
  rw [List.getElem?_eraseIdx] at hj
  split at hj
  · exact ⟨j, by omega, hj⟩
  · exact ⟨j + 1, by omega, hj⟩
theorem off_symm {s t : Nat × Nat} (h : Off s t) : Off t s := h.elim .inr .inl
theorem erase_size : ∀ (l : List (Nat × Nat)) (k : Nat) (s : Nat × Nat), l[k]? = some s → SIZE (l.eraseIdx k) + 2 ^ s.1 = SIZE l := by
  intro l
  induction l with
  | nil => intro k s h; simp at h
  | cons a l ih =>
    intro k s h
    cases k with
    | zero =>
      simp at h
      subst h
      simp [SIZE]
      omega
    | succ k =>
      have := ih k s (by simpa using h)
      simp only [SIZE, List.eraseIdx_cons_succ, List.map_cons, List.sum_cons] at this ⊢
      omega
/-- what the nodes of a proof are: nodes of the forest, none over the leaf, no two over one leaf, all others under them. -/
theorem PSP_spec {i n : Nat} (hi : i < n) (hn : n ≤ 4611686018427387904) :
    (∀ s ∈ PSP i n, Node s.1 s.2 ∧ PLC s.1 s.2 < NODES n ∧ ¬ (s.2 * 2 ^ s.1 ≤ i ∧ i < (s.2 + 1) * 2 ^ s.1)) ∧ (PSP i n).Pairwise Off ∧ SIZE (PSP i n) + 1 = n := by
  obtain ⟨hK, _⟩ := KTH_spot hi hn
  have h62 := (RISE_spec hi hn).2.1
  have hT := tile_span hn (Nat.zero_le n)
  have hp := pow_split i (RISE i n)
  have hin := hT.within _ (List.mem_of_getElem? hK)
  dsimp only at hin
  have hoff := hT.off
  have hother : ∀ s ∈ (SPAN 0 n).eraseIdx (KTH i n), Off s (RISE i n, i / 2 ^ RISE i n) := by
    intro s hs
    obtain ⟨j, hj, e⟩ := erase_mem hs
    rcases Nat.lt_or_ge j (KTH i n) with h | h
    · exact Pairwise.at_lt hoff h e hK
    · exact off_symm (Pairwise.at_lt hoff (by omega : KTH i n < j) hK e)
  refine ⟨fun s hs => ?_, ?_, ?_⟩
  · unfold PSP at hs
    rcases List.mem_append.1 hs with hs | hs
    · have h1 := WAYS_within i _ s hs
      exact ⟨WAYS_node (by omega) _ h62 s hs, node_lt (by omega), WAYS_leaf i _ s hs⟩
    · have h1 := hT.within s (List.mem_of_mem_eraseIdx hs)
      have h2 := hother s hs
      unfold Off at h2
      dsimp only at h2
      exact ⟨h1.2.2, node_lt h1.2.1, by omega⟩
  · unfold PSP
    rw [List.pairwise_append]
    refine ⟨WAYS_off i _, hoff.sublist (List.eraseIdx_sublist _ _), fun s hs t ht => ?_⟩
    have h1 := WAYS_within i _ s hs
    have h2 := hother t ht
    unfold Off at h2 ⊢
    dsimp only at h2
    omega
  · unfold PSP
    rw [SIZE_append]
    have h1 := WAYS_size i (RISE i n)
    have h2 := erase_size _ _ _ hK
    have h3 := hT.size
    dsimp only at h2
    omega
end Go.Proofs.YtccghfpnakkmaaaDoor

/- What the document's answers for layer 3 give: Power, Nodes, Leaf, Leaves. -/
namespace Go.Proofs.YtccghfpnakkmaaaDoor
open Go.RowKit

theorem power_ok (n : Nat) (hn : n < 64) (w : World) : Calls Tryd.prog 69 #[.int .i64 (n : Int)] w fun e w' => e = .returned (.int .u64 ((2 ^ n : Nat) : Int)) ∧ w = w' := by
  have HN : Aside (n < 64) := hn
  clear hn
  go_enter Tryd.func69, Tryd.ntmps69
  go_wp2
  go_loopg [3, 4] n (fun g s3 s4 wx => ∃ i v : Nat, s3 = .int .u64 (v : Int) ∧ s4 = .int .i64 (i : Int) ∧ Aside (v = 2 ^ i ∧ i + g = n) ∧ wx = w)
  case atStart => exact ⟨0, 1, rfl, rfl, ⟨rfl, by omega⟩, rfl⟩
  case round =>
    obtain ⟨i, v, rfl, rfl, A, hw⟩ := hrel
    subst hw
    cases gk with
    | zero =>
      have hi : ¬ (i : Int) < (n : Int) := by have := A.out.2; omega
      go_wp2
      go_ret
      obtain ⟨r1, r2⟩ := A.out
      refine ⟨?_, rfl⟩
      rw [r1, show i = n by omega]
      rfl
    | succ g =>
      have hi : (i : Int) < (n : Int) := by have := A.out.2; omega
      go_wp2
      go_roundg g
      case measure => omega
      case rel =>
        obtain ⟨r1, r2⟩ := A.out
        have h64 := HN.out
        have hp : 2 ^ (i + 1) ≤ 2 ^ 63 := Nat.pow_le_pow_right (by decide) (by omega)
        refine ⟨i + 1, 2 ^ (i + 1), ?_, ?_, ⟨rfl, by omega⟩, rfl⟩
        · congr 1
          rw [wrapU, r1]
          rw [Nat.pow_succ] at hp ⊢
          omega
        · congr 1
          unfold wrap64
          omega
end Go.Proofs.YtccghfpnakkmaaaDoor

/- What the document's Spot gives. -/
namespace Go.Proofs.YtccghfpnakkmaaaDoor
open Go.RowKit

theorem wr_add {a b c : Nat} (h : a + b = c) (hc : c < 2 ^ 64) : IntKind.u64.wrap ((a : Int) + (b : Int)) = (c : Int) := by rw [wrapU]; omega
theorem wr_inc {a c : Nat} (h : a + 1 = c) (hc : c < 2 ^ 64) : IntKind.u64.wrap ((a : Int) + 1) = (c : Int) := by rw [wrapU]; omega
theorem wr_dec {a c : Nat} (h : c + 1 = a) (hc : c < 2 ^ 64) : IntKind.u64.wrap ((a : Int) - 1) = (c : Int) := by rw [wrapU]; omega
theorem wr_two {a c : Nat} (h : 2 * a = c) (hc : c < 2 ^ 64) : IntKind.u64.wrap (2 * (a : Int)) = (c : Int) := by rw [wrapU]; omega
theorem wr_half {a c : Nat} (h : 2 * c = a) (hc : c < 2 ^ 64) : IntKind.u64.wrap ((a : Int) / 2) = (c : Int) := by rw [wrapU]; omega
theorem half_int {a c : Nat} (h : 2 * c = a) : (a : Int) / 2 = (c : Int) := by omega
/-- one step down from the node (g + 1, m), which p stands under. -/
theorem rs_plain {g m b p z1 bz : Nat} (hg : g + 1 ≤ 62) (hN : Node (g + 1) m) (hb : b = NODES (m * 2 ^ (g + 1))) (hbp : b ≤ p) (hpu : p + 2 ≤ b + 2 ^ (g + 1 + 1)) (hz : 2 ^ (g + 1) = z1 + 1) (hbz : b + z1 = bz) (hT : p ≠ b + 2 * z1) :
    Node g (2 * m) ∧ Node g (2 * m + 1) ∧ b = NODES (2 * m * 2 ^ g) ∧ bz = NODES ((2 * m + 1) * 2 ^ g) ∧ (bz ≤ p → p + 2 ≤ bz + 2 ^ (g + 1)) ∧ (p < bz → p + 2 ≤ b + 2 ^ (g + 1)) := by
  have h2 := hN.2
  have e : 2 ^ (62 - g) = 2 ^ (62 - (g + 1)) * 2 := by rw [← Nat.pow_succ]; congr 1; omega
  have e2 : 2 ^ (g + 1 + 1) = 2 * (z1 + 1) := by rw [Nat.pow_succ, hz, Nat.mul_comm]
  refine ⟨⟨by omega, by rw [e]; omega⟩, ⟨by omega, by rw [e]; omega⟩, by rw [hb, double_pow], ?_, fun h => by omega, fun h => by omega⟩
  rw [NODES_plus, double_pow, ← hb]
  unfold TREE
  omega
end Go.Proofs.YtccghfpnakkmaaaDoor

/- What the document's answers give for a node's kin. -/
namespace Go.Proofs.YtccghfpnakkmaaaDoor
open Go.RowKit

theorem odd_mod (k : Nat) : ((k : Int) % 2 == 1) = decide (k % 2 = 1) := by
  rw [Bool.eq_iff_iff]
  simp
  omega
end Go.Proofs.YtccghfpnakkmaaaDoor

/- What the document's Tops gives: the spots of the peaks. -/
namespace Go.Proofs.YtccghfpnakkmaaaDoor
open Go.RowKit

/-- the spots of the peaks of n leaves whose height is at least h. -/
def TOPS (h n : Nat) : List (Nat × Nat) := (HS h n).map fun g => (g, 2 * (n / 2 ^ (g + 1)))
theorem TOPS_set {h n : Nat} (hh : h < 64) (hb : n / 2 ^ h % 2 = 1) : TOPS h n = TOPS (h + 1) n ++ [(h, 2 * (n / 2 ^ (h + 1)))] := by
  unfold TOPS
  rw [HS_set hh hb, List.map_append]
  rfl
theorem TOPS_clear {h n : Nat} (hh : h < 64) (hb : ¬ n / 2 ^ h % 2 = 1) : TOPS h n = TOPS (h + 1) n := by
  unfold TOPS
  rw [HS_clear hh hb]
theorem TOPS_length {n : Nat} (hn : n < 2 ^ 64) (h : Nat) (hh : h ≤ 64) : (TOPS h n).length = PC (n / 2 ^ h) := by
  unfold TOPS
  rw [List.length_map]
  exact HS_length hn h hh
/-- one height of Tops. -/
theorem tops_plain {n h at' r : Nat} (ha : at' = n / 2 ^ (h + 1) * 2 ^ (h + 1)) (hr : r = n - at') : at' ≤ n ∧ (2 ^ h ≤ r ↔ n / 2 ^ h % 2 = 1) ∧ at' / 2 ^ h = 2 * (n / 2 ^ (h + 1)) ∧ (n / 2 ^ h % 2 = 1 → at' + 2 ^ h = n / 2 ^ h * 2 ^ h) ∧ (¬ n / 2 ^ h % 2 = 1 → at' = n / 2 ^ h * 2 ^ h) := by
  have hp := Nat.two_pow_pos h
  have e1 : at' = 2 * (n / 2 ^ (h + 1)) * 2 ^ h := by rw [ha, double_pow]
  have hd := Nat.div_add_mod n (2 ^ h)
  have hm := Nat.mod_lt n hp
  rw [Nat.mul_comm] at hd
  have hq : at' / 2 ^ h = 2 * (n / 2 ^ (h + 1)) := by rw [e1, Nat.mul_div_cancel _ hp]
  by_cases hb : n / 2 ^ h % 2 = 1
  · have h2 := at_set hb
    have e2 : n / 2 ^ h * 2 ^ h = at' + 2 ^ h := by rw [h2, Nat.add_mul, Nat.one_mul, ← e1]
    exact ⟨by omega, ⟨fun _ => hb, fun _ => by omega⟩, hq, fun _ => e2.symm, fun h => absurd hb h⟩
  · have h2 := at_clear hb
    have e2 : n / 2 ^ h * 2 ^ h = at' := by rw [h2, ← e1]
    exact ⟨by omega, ⟨fun _ => by omega, fun h => absurd h hb⟩, hq, fun h => absurd h hb, fun _ => e2.symm⟩
theorem tops_not (n : Int) (hn : 4611686018427387904 < n) (w : World) : Calls Tryd.prog 30 #[.int .u64 n] w fun e w' => e = .returned (.slice none 0 0) ∧ w = w' := by
  go_enter Tryd.func30, Tryd.ntmps30
  go_wp2
  go_ret
  exact ⟨rfl, rfl⟩
set_option maxHeartbeats 1000000 in
theorem tops_ok (n : Nat) (hn : n ≤ 4611686018427387904) (w : World) : Calls Tryd.prog 30 #[.int .u64 (n : Int)] w fun e w' =>
    ∃ v, e = .returned v ∧ w'.ownsRow w.heap.size 108 2 v (PC n) (SCELLS (TOPS 0 n)) ∧ Below w.heap.size w w' := by
  have HN : Aside (n ≤ 4611686018427387904) := hn
  have hd : ¬ (4611686018427387904 : Int) < (n : Int) := by omega
  clear hn
  go_enter Tryd.func30, Tryd.ntmps30
  go_wp2
  go_loopg [3, 4, 5] 63 (fun q s3 s4 s5 wx => ∃ a : Nat, s4 = .int .u64 (a : Int) ∧ s5 = .int .i64 ((q : Int) - 1) ∧ Aside (q ≤ 63 ∧ a = n / 2 ^ q * 2 ^ q ∧ wx.ownsRow w.heap.size 108 2 s3 (PC (n / 2 ^ q)) (SCELLS (TOPS q n)) ∧ Below w.heap.size w wx))
  case atStart =>
    have hz : n / 2 ^ 63 = 0 := Nat.div_eq_of_lt (by have := HN.out; omega)
    refine ⟨0, rfl, rfl, by omega, by rw [hz, Nat.zero_mul], ?_, Below.refl _ _⟩
    rw [hz, PC_zero]
    have ht : TOPS 63 n = [] := by
      unfold TOPS
      rw [HS_top (by have := HN.out; omega)]
      rfl
    rw [ht]
    exact ⟨rfl, .inl ⟨rfl, rfl⟩⟩
  case round =>
    obtain ⟨a, rfl, rfl, A⟩ := hrel
    cases gk with
    | zero =>
      have hlt : ¬ (0 : Int) ≤ ((0 : Nat) : Int) - 1 := by omega
      go_wp2
      go_ret
      obtain ⟨_, _, hown, hbel⟩ := A.out
      rw [Nat.pow_zero, Nat.div_one] at hown
      exact ⟨_, rfl, hown, hbel⟩
    | succ h =>
      obtain ⟨h63, ha, hown, hbel⟩ := A.out
      have hnn := HN.out
      obtain ⟨r, hr⟩ : ∃ r, r = n - a := ⟨_, rfl⟩
      obtain ⟨p1, p2, p3, p4, p5⟩ := tops_plain ha hr
      have c := power_ok h (by omega)
      have hpw : 2 ^ h ≤ 2 ^ 62 := Nat.pow_le_pow_right (by decide) (by omega)
      have hp0 := Nat.two_pow_pos h
      have e0 : ((h + 1 : Nat) : Int) - 1 = (h : Int) := by omega
      have e0' : ¬ (h : Int) < 0 := by omega
      have e1 : IntKind.u64.wrap ((n : Int) - (a : Int)) = (r : Int) := by rw [wrapU]; omega
      have e3 : (h : Int) % 256 = (h : Int) := by omega
      have e4 : wrap64 ((h : Int) - 1) = (h : Int) - 1 := by unfold wrap64; omega
      rw [e0]
      by_cases hb : n / 2 ^ h % 2 = 1
      · have hge : 2 ^ h ≤ r := p2.2 hb
        have pq := p4 hb
        have e5 : (a : Int) / ((2 ^ h : Nat) : Int) = ((2 * (n / 2 ^ (h + 1)) : Nat) : Int) := by rw [← p3, Int.natCast_ediv]
        have hT := TOPS_set (n := n) (h := h) (by omega) hb
        have hPC : PC (n / 2 ^ h) = PC (n / 2 ^ (h + 1)) + 1 := by rw [PC_step, ← half_pow]; omega
        have hlen : PC (n / 2 ^ (h + 1)) ≤ 1000 := by have := PC_lt_pow 64 (n / 2 ^ (h + 1)) (Nat.lt_of_le_of_lt (Nat.div_le_self _ _) (by omega)); omega
        have hk64 : 2 * (n / 2 ^ (h + 1)) < 2 ^ 64 := by rw [← p3]; exact Nat.lt_of_le_of_lt (Nat.div_le_self _ _) (by omega)
        generalize 2 * (n / 2 ^ (h + 1)) = k at *
        have e7 : IntKind.u64.wrap (k : Int) = (k : Int) := by rw [wrapU]; omega
        have e6 : IntKind.u64.wrap ((a : Int) + ((2 ^ h : Nat) : Int)) = ((n / 2 ^ h * 2 ^ h : Nat) : Int) := by rw [wrapU, ← pq]; omega
        have hge' : ((2 ^ h : Nat) : Int) ≤ (r : Int) := by omega
        have hz0 : ¬ ((2 ^ h : Nat) : Int) = 0 := by omega
        generalize hm : PC (n / 2 ^ (h + 1)) = m at *
        generalize hl : TOPS (h + 1) n = l at *
        generalize ((2 ^ h : Nat) : Int) = z at *
        generalize hx : n / 2 ^ h * 2 ^ h = x at *
        have R : Aside (h ≤ 62 ∧ x = n / 2 ^ h * 2 ^ h ∧ wr.ownsRow w.heap.size 108 2 u3 m (SCELLS l) ∧ Below w.heap.size w wr ∧ m ≤ 1000 ∧ PC (n / 2 ^ h) = m + 1 ∧ TOPS h n = l ++ [(h, k)]) := ⟨by omega, hx.symm, hown, hbel, hlen, hPC, hT⟩
        clear A HN h63 ha hown hbel hnn hr p1 p2 p3 p4 p5 hpw hp0 hb hge pq hT hPC hlen hk64 hm hl hx
        go_wp2_with fail
        refine (c _).mono ?_
        rintro e w' ⟨rfl, rfl⟩
        go_wp2_with fail
        refine (c _).mono ?_
        rintro e w' ⟨rfl, rfl⟩
        go_wp2_with (at_builtin; refine app_spot _ rfl (.tmp 19) (.tmp 27) rfl w.heap.size u3 m l rfl (R.out.2.2.1.alloc _) wr.heap.size 1 h k rfl (by rw [World.cell?_alloc_at _ _ _ _ rfl]; rfl) (by rw [World.cell?_alloc_at _ _ _ _ rfl]; rfl) R.out.2.2.2.2.1 (by have := R.out.2.2.2.1.size; simp; omega) ?_; intro g' cap w1 hown hgrow hg)
        obtain ⟨r1, r2, r3, r4, r5, r6, r7⟩ := R.out
        have R2 : Aside (h ≤ 63 ∧ x = n / 2 ^ h * 2 ^ h ∧ w1.ownsRow w.heap.size 108 2 (.slice (some ⟨g', 0, none⟩) (m + 1) cap) (PC (n / 2 ^ h)) (SCELLS (TOPS h n)) ∧ Below w.heap.size w w1) := ⟨by omega, r2, by rw [r6, r7]; exact hown, (r4.alloc r4.size _).grown hgrow (by have := r4.size; simp; omega) (fun k e => (r3.lt k e).1)⟩
        clear hown hgrow hg R r1 r2 r3 r4 r5 r6 r7
        refine (c _).mono ?_
        rintro e w' ⟨rfl, rfl⟩
        clear c
        go_wp2
        go_roundg h
        case measure => omega
        case rel => exact ⟨x, by first | rfl | (rw [e6]), by first | rfl | (rw [e4]), R2.out⟩
      · have hge : ¬ 2 ^ h ≤ r := fun h => hb (p2.1 h)
        have pq := p5 hb
        have hge' : ¬ ((2 ^ h : Nat) : Int) ≤ (r : Int) := by omega
        have hT := TOPS_clear (n := n) (h := h) (by omega) hb
        have hPC : PC (n / 2 ^ h) = PC (n / 2 ^ (h + 1)) := by rw [PC_step, ← half_pow]; omega
        generalize ((2 ^ h : Nat) : Int) = z at *
        have R : Aside (h ≤ 63 ∧ a = n / 2 ^ h * 2 ^ h ∧ wr.ownsRow w.heap.size 108 2 u3 (PC (n / 2 ^ h)) (SCELLS (TOPS h n)) ∧ Below w.heap.size w wr) := ⟨by omega, pq, by rw [hT, hPC]; exact hown, hbel⟩
        clear A HN h63 ha hown hbel hnn hr p1 p2 p3 p4 p5 hpw hp0 hb hge pq hT hPC
        go_wp2_with fail
        refine (c _).mono ?_
        rintro e w' ⟨rfl, rfl⟩
        clear c
        go_wp2
        go_roundg h
        case measure => omega
        case rel => exact ⟨a, rfl, by first | rfl | (rw [e4]), R.out⟩
end Go.Proofs.YtccghfpnakkmaaaDoor

/- What the document's Peaks gives. -/
namespace Go.Proofs.YtccghfpnakkmaaaDoor
open Go.RowKit

theorem tops_spots (n : Nat) (hn : n ≤ 4611686018427387904) (w : World) : Calls Tryd.prog 30 #[.int .u64 (n : Int)] w fun e w' =>
    ∃ a cap, e = .returned (.slice a (PC n) cap) ∧ Spots w' a (TOPS 0 n) ∧ Below w.heap.size w w' := by
  refine (tops_ok n hn w).mono ?_
  rintro e w' ⟨v, rfl, hown, hb⟩
  have hl := TOPS_length (n := n) (by omega) 0 (by omega)
  rw [Nat.pow_zero, Nat.div_one] at hl
  obtain ⟨a, cap, rfl, hs⟩ := spots_own hl hown
  exact ⟨a, cap, rfl, hs, hb⟩
theorem TOPS_node {n : Nat} (hn : n ≤ 4611686018427387904) {j h k : Nat} (e : (TOPS 0 n)[j]? = some (h, k)) : Node h k ∧ h < 64 := by
  unfold TOPS at e
  rw [List.getElem?_map] at e
  obtain ⟨g, hg, e2⟩ := Option.map_eq_some_iff.1 e
  simp only [Prod.mk.injEq] at e2
  obtain ⟨rfl, rfl⟩ := e2
  obtain ⟨_, h1, h2⟩ := HS_set_of 0 g (by omega) (List.mem_of_getElem? hg)
  exact ⟨Node.peak hn h2, h1⟩
theorem PEAKS_TOPS (n : Nat) : PEAKS n = (TOPS 0 n).map fun x => PLC x.1 x.2 := by
  unfold PEAKS TOPS
  rw [List.map_map]
  rfl
end Go.Proofs.YtccghfpnakkmaaaDoor

/- What the document's Peak gives. -/
namespace Go.Proofs.YtccghfpnakkmaaaDoor
open Go.RowKit

theorem wr_id {x : Nat} (h : x < 2 ^ 64) : IntKind.u64.wrap (x : Int) = (x : Int) := by
  rw [wrapU]
  omega
theorem TOPS_at {n j : Nat} (hn : n < 2 ^ 64) (hj : j < PC n) : (TOPS 0 n)[j]? = some (HGT n j, KGT n j) := by
  unfold TOPS
  rw [List.getElem?_map, (HGT_at hn hj).1]
  rfl
theorem HGT_KTH {i n : Nat} (hi : i < n) (hn : n ≤ 4611686018427387904) : HGT n (KTH i n) = RISE i n := by
  unfold HGT
  rw [List.getD_eq_getElem?_getD, KTH_at hi hn]
  rfl
/-- ahead of its peak no peak is over the leaf. -/
theorem ahead_not {i n k : Nat} (hi : i < n) (hn : n ≤ 4611686018427387904) (hk : k < KTH i n) : i / 2 ^ HGT n k ≠ KGT n k := by
  have hK := KTH_lt hi hn
  obtain ⟨_, h62, hb, hq, _⟩ := RISE_spec hi hn
  obtain ⟨_, h2, h3⟩ := HGT_at (n := n) (i := k) (by omega) (by omega)
  have hlt : RISE i n < HGT n k := by
    rcases Nat.lt_or_ge (RISE i n) (HGT n k) with h | h
    · exact h
    · have := PC_mono n (a := HGT n k + 1) (b := RISE i n + 1) (by omega)
      unfold KTH at hk
      omega
  have e : ∀ x : Nat, x / 2 ^ HGT n k = x / 2 ^ (RISE i n + 1) / 2 ^ (HGT n k - (RISE i n + 1)) := fun x => by rw [Nat.div_div_eq_div_mul, ← Nat.pow_add, show RISE i n + 1 + (HGT n k - (RISE i n + 1)) = HGT n k by omega]
  have h4 := at_set h2
  rw [e i, hq, ← e n, h4]
  unfold KGT
  omega
theorem at_peak {i n : Nat} (hi : i < n) (hn : n ≤ 4611686018427387904) : i / 2 ^ HGT n (KTH i n) = KGT n (KTH i n) := by
  unfold KGT
  rw [HGT_KTH hi hn]
  exact (RISE_spec hi hn).2.2.2.2
end Go.Proofs.YtccghfpnakkmaaaDoor

/- What the document's Path gives. -/
namespace Go.Proofs.YtccghfpnakkmaaaDoor
open Go.RowKit

end Go.Proofs.YtccghfpnakkmaaaDoor

/- awake answers true: the forest of seven leaves. -/
namespace Go.Proofs.YtccghfpnakkmaaaDoor
open Go.RowKit

theorem PEAKS_seven : PEAKS 7 = [6, 9, 10] := by
  have h : HS 0 7 = [2, 1, 0] := by rw [HS_zero]; decide
  have p2 : PKP 7 2 = 6 := by
    unfold PKP PLC NODES
    simp [PC_zero]
  have p1 : PKP 7 1 = 9 := by
    unfold PKP PLC NODES
    have := PC_pow 2
    simp at this
    simp [this]
  have p0 : PKP 7 0 = 10 := by
    unfold PKP PLC NODES
    have h1 := PC_even 3
    have h2 := PC_ones 2
    simp at h1 h2
    simp [h1, h2]
  unfold PEAKS
  rw [h]
  simp [p0, p1, p2]
theorem PC_seven : PC 7 = 3 := PC_ones 3
theorem NODES_seven : NODES 7 = 11 := by
  unfold NODES
  rw [PC_seven]
theorem PLC_nine : PLC 1 2 = 9 := by
  unfold PLC NODES
  have := PC_pow 2
  simp at this
  simp [this]
/-- a list of numbers, cell by cell. -/
theorem row_at {w : World} {base g n cap : Nat} {l : List Nat} (h : w.ownsRow base 22 1 (.slice (some ⟨g, 0, none⟩) n cap) n (UCELLS l)) (i : Nat) (hi : i < l.length) : w.cell? ⟨g, i, none⟩ = some (.int .u64 (l.getD i 0 : Nat)) := by
  have hlen : l.length = n := by have := h.1; simpa [UCELLS] using this
  rw [h.cellAt i (by omega)]
  unfold UCELLS
  rw [List.getElem?_map, List.getD_eq_getElem?_getD, List.getElem?_eq_getElem hi]
  rfl
end Go.Proofs.YtccghfpnakkmaaaDoor
