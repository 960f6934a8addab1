/- Texts of ManySets, one behind the other: NumShortCalls, ProofPlain, PosRef, PosRefSpot, PosRefKin, PosPath, PosSpotRow, PosTops, PosRefPeaks. -/
import Derived.Deep.AppendLies
import Derived.Test.YtadpfcpipklmbabDoorManySetsP5
import Derived.Test.YtadpfcpipklmbabDoorManySetsP7
import Derived.Test.YtadpfcpipklmbabDoorManySetsP8
/- What Short of package num answers. -/
namespace Go.Proofs.YtadpfcpipklmbabDoor
open Go.RowKit

/-- the j lowest groups of 7 bits, 128 added to each. -/
def GROUPS (X j : Nat) : List Int := (List.range j).map fun i => ((X / 128 ^ i % 128 + 128 : Nat) : Int)
theorem GROUPS_succ (X j : Nat) : GROUPS X (j + 1) = GROUPS X j ++ [((X / 128 ^ j % 128 + 128 : Nat) : Int)] := by simp [GROUPS, List.range_succ]
theorem GROUPS_length (X j : Nat) : (GROUPS X j).length = j := by simp [GROUPS]
/-- how many groups but the last one X has. -/
def TOPG (X : Nat) : Nat → Nat
  | 0 => 0
  | k + 1 => if X < 128 then 0 else TOPG (X / 128) k + 1
def NTOP (X : Nat) : Nat := TOPG X 9
/-- X in groups of 7 bits, the lowest first. -/
def SHORT (X : Nat) : List Int := GROUPS X (NTOP X) ++ [((X / 128 ^ NTOP X : Nat) : Int)]
theorem SHORT_length (X : Nat) : (SHORT X).length = NTOP X + 1 := by simp [SHORT, GROUPS_length]
theorem TOPG_le : ∀ (k X : Nat), TOPG X k ≤ k
  | 0, _ => Nat.le_refl _
  | k + 1, X => by
    unfold TOPG
    split
    · omega
    · have := TOPG_le k (X / 128)
      omega
theorem TOPG_below : ∀ (k X j : Nat), j < TOPG X k → 128 ≤ X / 128 ^ j
  | 0, _, _, h => by simp [TOPG] at h
  | k + 1, X, j, h => by
    unfold TOPG at h
    split at h
    · omega
    · cases j with
      | zero => simp; omega
      | succ j =>
        have := TOPG_below k (X / 128) j (by omega)
        rw [Nat.div_div_eq_div_mul, Nat.mul_comm, ← Nat.pow_succ] at this
        exact this
theorem TOPG_at : ∀ (k X : Nat), X < 128 ^ (k + 1) → X / 128 ^ TOPG X k < 128
  | 0, X, h => by simpa [TOPG] using h
  | k + 1, X, h => by
    unfold TOPG
    split
    · simpa using ‹X < 128›
    · have := TOPG_at k (X / 128) (by rw [Nat.pow_succ] at h; exact Nat.div_lt_of_lt_mul (by omega))
      rw [Nat.div_div_eq_div_mul, Nat.mul_comm, ← Nat.pow_succ] at this
      exact this
theorem NTOP_le (X : Nat) : NTOP X ≤ 9 := TOPG_le 9 X
theorem NTOP_at {X : Nat} (hX : X < 2 ^ 64) : X / 128 ^ NTOP X < 128 := TOPG_at 9 X (Nat.lt_of_lt_of_le hX (by decide))
theorem NTOP_eq {X : Nat} (hX : X < 2 ^ 64) {j : Nat} (hj : ∀ i, i < j → 128 ≤ X / 128 ^ i) (h : X / 128 ^ j < 128) : NTOP X = j := by
  rcases Nat.lt_trichotomy (NTOP X) j with h1 | h1 | h1
  · have := hj _ h1
    have := NTOP_at hX
    omega
  · exact h1
  · have := TOPG_below 9 X j h1
    omega
theorem div_anti (X : Nat) {i j : Nat} (h : i ≤ j) : X / 128 ^ j ≤ X / 128 ^ i := Nat.div_le_div_left (Nat.pow_le_pow_right (by decide) h) (Nat.pow_pos (by decide))
theorem GROUPS_range (X j : Nat) : ∀ x ∈ GROUPS X j, 0 ≤ x ∧ x ≤ 255 := fun x hx => by
  simp only [GROUPS, List.mem_map] at hx
  obtain ⟨i, _, rfl⟩ := hx
  omega
theorem SHORT_range {X : Nat} (hX : X < 2 ^ 64) : ∀ x ∈ SHORT X, 0 ≤ x ∧ x ≤ 255 := fun x hx => by
  simp only [SHORT, List.mem_append, List.mem_singleton] at hx
  rcases hx with hx | rfl
  · exact GROUPS_range X _ x hx
  · have := NTOP_at hX
    generalize X / 128 ^ NTOP X = y at *
    omega

theorem one_bytes (w : World) (v : Int) (h0 : 0 ≤ v) (h1 : v ≤ 255) : Bytes (w.alloc (.cells #[.int .u8 v] 5)) (some ⟨w.heap.size, 0, none⟩) 1 [v] := by
  refine ⟨rfl, fun _ => ⟨w.heap.size, 0, rfl, by simp, fun i hi => ?_⟩, fun x hx => by simp at hx; omega⟩
  obtain rfl : i = 0 := by omega
  rw [Nat.zero_add, World.cell?_alloc_at _ _ _ _ rfl]
  rfl
theorem own_made (w : World) (base : Nat) (hb : base ≤ w.heap.size) (cur : Array Value) (cap : Nat) (hm : cap ≤ 1000) (hs : cur.size = cap) : (w.alloc (.cells cur 5)).ownsRow base 5 1 (.slice (some ⟨w.heap.size, 0, none⟩) 0 cap) 0 (CELLS []) :=
  World.ownsRow_made w cur cap hb (by simp only [maxLen]; omega) (by omega)

set_option maxHeartbeats 1000000 in
theorem short_ok (X : Nat) (hX : X < 2 ^ 64) (w : World) : Calls Tryd.prog 52 #[.int .u64 (X : Int)] w fun e w' =>
    ∃ g cap, e = .returned (.slice (some ⟨g, 0, none⟩) (NTOP X + 1) cap) ∧ w'.ownsRow w.heap.size 5 1 (.slice (some ⟨g, 0, none⟩) (NTOP X + 1) cap) (NTOP X + 1) (CELLS (SHORT X)) ∧ g < w'.heap.size ∧ Below w.heap.size w w' := by
  have hmk : ∀ w : World, (Instr.makeSlice 41 (.int .i64 0) (.int .i64 10)).run Tryd.prog w = .ok (.slice (some ⟨w.heap.size, 0, none⟩) 0 10) (w.alloc (.cells #[.int .u8 0, .int .u8 0, .int .u8 0, .int .u8 0, .int .u8 0, .int .u8 0, .int .u8 0, .int .u8 0, .int .u8 0, .int .u8 0] 5)) := fun _ => by kernel_rfl
  have HX : Aside (X < 2 ^ 64) := hX
  clear hX
  go_enter Tryd.func52, Tryd.ntmps52
  go_wp2
  go_loopg [0, 3] 10 (fun g s0 s3 wx => ∃ (j x : Nat), j + g = 10 ∧ Aside (x = X / 128 ^ j ∧ (∀ i, i < j → 128 ≤ X / 128 ^ i) ∧ wx.ownsRow w.heap.size 5 1 s3 j (CELLS (GROUPS X j)) ∧ Below w.heap.size w wx) ∧ s0 = .int .u64 (x : Int))
  case atStart => exact ⟨0, X, by omega, ⟨by simp, fun i hi => by omega, own_made w _ (Nat.le_refl _) _ 10 (by decide) rfl, (Below.refl _ _).alloc (Nat.le_refl _) _⟩, rfl⟩
  case round =>
    obtain ⟨j, x, hjg, A, rfl⟩ := hrel
    by_cases hx : 128 ≤ (x : Int)
    · go_wp2_with (at_builtin; refine app_u8 _ rfl (.tmp 9) (.tmp 14) rfl w.heap.size u3 j (GROUPS X j) rfl (A.out.2.2.1.alloc _) wr.heap.size 0 1 1 [(x : Int) % 128 + 128] rfl (one_bytes wr _ (by omega) (by omega)) (by omega) (by omega) (by have := A.out.2.2.2.size; simp; omega) ?_; intro g cap w1 hown hgrow hg)
      have R : (x / 128 = X / 128 ^ (j + 1)) ∧ (∀ i, i < j + 1 → 128 ≤ X / 128 ^ i) ∧ w1.ownsRow w.heap.size 5 1 (.slice (some ⟨g, 0, none⟩) (j + 1) cap) (j + 1) (CELLS (GROUPS X (j + 1))) ∧ Below w.heap.size w w1 := by
        obtain ⟨hxe, hall, hown0, hb⟩ := A.out
        refine ⟨by rw [hxe, Nat.div_div_eq_div_mul, ← Nat.pow_succ], fun i hi => ?_, ?_, ?_⟩
        · by_cases e : i = j
          · rw [e, ← hxe]; omega
          · exact hall i (by omega)
        · rw [GROUPS_succ, show ((X / 128 ^ j % 128 + 128 : Nat) : Int) = (x : Int) % 128 + 128 by rw [← hxe]; omega]
          exact hown
        · exact (hb.alloc hb.size _).grown hgrow (by have := hb.size; simp; omega) (fun k e => (hown0.lt k e).1)
      have HR : Aside ((x / 128 = X / 128 ^ (j + 1)) ∧ (∀ i, i < j + 1 → 128 ≤ X / 128 ^ i) ∧ w1.ownsRow w.heap.size 5 1 (.slice (some ⟨g, 0, none⟩) (j + 1) cap) (j + 1) (CELLS (GROUPS X (j + 1))) ∧ Below w.heap.size w w1) := R
      have hj9 : j < 9 := by
        obtain ⟨hxe, hall, _, _⟩ := A.out
        rcases Nat.lt_or_ge j 9 with h | h
        · exact h
        · have h1 := div_anti X h
          have h2 : X / 128 ^ 9 < 2 := Nat.div_lt_of_lt_mul (Nat.lt_of_lt_of_le HX.out (by decide))
          omega
      clear hown hgrow hg R A
      go_wp2
      go_roundg (gk - 1)
      case measure => omega
      case rel => exact ⟨j + 1, x / 128, by omega, HR, by first | rfl | go_num⟩
    · go_wp2_with (at_builtin; refine app_u8 _ rfl (.tmp 16) (.tmp 19) rfl w.heap.size u3 j (GROUPS X j) rfl (A.out.2.2.1.alloc _) wr.heap.size 0 1 1 [(x : Int)] rfl (one_bytes wr _ (by omega) (by omega)) (by omega) (by omega) (by have := A.out.2.2.2.size; simp; omega) ?_; intro g cap w1 hown hgrow hg)
      obtain ⟨hxe, hall, hown0, hb⟩ := A.out
      have hN : NTOP X = j := NTOP_eq HX.out hall (by rw [← hxe]; omega)
      have R : w1.ownsRow w.heap.size 5 1 (.slice (some ⟨g, 0, none⟩) (NTOP X + 1) cap) (NTOP X + 1) (CELLS (SHORT X)) ∧ g < w1.heap.size ∧ Below w.heap.size w w1 := by
        refine ⟨?_, hg, (hb.alloc hb.size _).grown hgrow (by have := hb.size; simp; omega) (fun k e => (hown0.lt k e).1)⟩
        unfold SHORT
        rw [hN, ← hxe]
        exact hown
      have HR : Aside (w1.ownsRow w.heap.size 5 1 (.slice (some ⟨g, 0, none⟩) (NTOP X + 1) cap) (NTOP X + 1) (CELLS (SHORT X)) ∧ g < w1.heap.size ∧ Below w.heap.size w w1) := R
      have HN : Aside (NTOP X = j) := hN
      clear hown hgrow hg R A hxe hall hown0 hb hN
      go_wp2
      go_ret
      obtain ⟨h1, h2, h3⟩ := HR.out
      refine ⟨g, cap, ?_, h1, h2, h3⟩
      rw [HN.out]
      rfl
end Go.Proofs.YtadpfcpipklmbabDoor

/- Which nodes a proof has, as spots: the siblings on the way up and the other peaks; the peaks of an earlier size and the spots behind it. -/
namespace Go.Proofs.YtadpfcpipklmbabDoor

/-- the places of spots. -/
def PLCS (l : List (Nat × Nat)) : List Nat := l.map fun s => PLC s.1 s.2
theorem PLCS_length (l : List (Nat × Nat)) : (PLCS l).length = l.length := by simp [PLCS]
theorem PLCS_append (l m : List (Nat × Nat)) : PLCS (l ++ m) = PLCS l ++ PLCS m := by simp [PLCS]
theorem PLCS_at {l : List (Nat × Nat)} {j h k : Nat} (e : l[j]? = some (h, k)) : (PLCS l).getD j 0 = PLC h k := by
  simp [PLCS, List.getD, e]
theorem PEAKS_spots {n : Nat} (hn : n ≤ 4611686018427387904) : PEAKS n = PLCS (SPAN 0 n) := by
  have hl := PEAKS_length (n := n) (by omega)
  apply List.ext_getElem?
  intro j
  by_cases hj : j < PC n
  · have h1 := PEAKS_at (n := n) (by omega) hj
    have h2 := SPAN_zero_at hn hj
    rw [List.getD, List.getElem?_eq_getElem (by omega)] at h1
    rw [List.getElem?_eq_getElem (by omega)]
    simp only [Option.getD_some] at h1
    rw [h1]
    simp [PLCS, h2]
  · rw [List.getElem?_eq_none (by omega), List.getElem?_eq_none (by rw [PLCS_length, SPAN_zero_length hn]; omega)]
/-- the siblings on the way up from the leaf i, the first H of them. -/
def WAYS (i H : Nat) : List (Nat × Nat) := (List.range H).map fun h => (h, SIB (i / 2 ^ h))
theorem WAYS_succ (i H : Nat) : WAYS i (H + 1) = WAYS i H ++ [(H, SIB (i / 2 ^ H))] := by simp [WAYS, List.range_succ]
theorem WAYS_length (i H : Nat) : (WAYS i H).length = H := by simp [WAYS]
theorem WAY_spots (i H : Nat) : WAY i H = PLCS (WAYS i H) := by simp [WAY, WAYS, PLCS]
theorem erase_map {α β : Type} (f : α → β) : ∀ (l : List α) (k : Nat), (l.map f).eraseIdx k = (l.eraseIdx k).map f := by
  intro l
  induction l with
  | nil => intro k; simp
  | cons a l ih =>
    intro k
    cases k with
    | zero => simp
    | succ k => simp [ih]
theorem erase_snoc {α : Type} (x : α) : ∀ (l : List α) (k : Nat), (l ++ [x]).eraseIdx k = if k = l.length then l.eraseIdx k else l.eraseIdx k ++ [x] := by
  intro l
  induction l with
  | nil =>
    intro k
    cases k with
    | zero => simp
    | succ k => simp
  | cons a l ih =>
    intro k
    cases k with
    | zero => simp
    | succ k =>
      have := ih k
      rw [List.cons_append, List.eraseIdx_cons_succ, this, List.length_cons, List.eraseIdx_cons_succ]
      by_cases e : k = l.length
      · rw [if_pos e, if_pos (by omega)]
      · rw [if_neg e, if_neg (by omega)]
        rfl
/-- the spots of the nodes of the proof of the leaf i of n. -/
def PSP (i n : Nat) : List (Nat × Nat) := WAYS i (RISE i n) ++ (SPAN 0 n).eraseIdx (KTH i n)
theorem PSP_places {i n : Nat} (hn : n ≤ 4611686018427387904) : PLCS (PSP i n) = WAY i (RISE i n) ++ (PEAKS n).eraseIdx (KTH i n) := by
  unfold PSP
  rw [PLCS_append, WAY_spots, PEAKS_spots hn]
  unfold PLCS
  rw [erase_map]
/-- the spots of the nodes of the proof that n leaves begin with m of them. -/
def PXS (m n : Nat) : List (Nat × Nat) := SPAN 0 m ++ SPAN m n
theorem PXS_tile {m n : Nat} (hmn : m ≤ n) (hn : n ≤ 4611686018427387904) : Tile 0 (PXS m n) n := (tile_span (by omega) (Nat.zero_le _)).append (tile_span hn hmn)
theorem PXS_places {m n : Nat} (hmn : m ≤ n) (hn : n ≤ 4611686018427387904) : PLCS (PXS m n) = PEAKS m ++ PLCS (SPAN m n) := by
  unfold PXS
  rw [PLCS_append, PEAKS_spots (by omega)]
theorem PXS_length {m n : Nat} (hmn : m ≤ n) (hn : n ≤ 4611686018427387904) : (PXS m n).length ≤ 188 := by
  have h1 := SPAN_zero_length (n := m) (by omega)
  have h2 := PC_lt_pow 64 m (by omega)
  have h3 := SPAN_length (a := m) hn
  unfold PXS
  rw [List.length_append]
  omega
theorem PSP_length {i n : Nat} (hi : i < n) (hn : n ≤ 4611686018427387904) : (PSP i n).length + 1 = RISE i n + PC n := by
  have h1 := KTH_lt hi hn
  have h2 := SPAN_zero_length hn
  unfold PSP
  rw [List.length_append, WAYS_length, List.length_eraseIdx, if_pos (by omega)]
  omega
theorem PSP_few {i n : Nat} (hi : i < n) (hn : n ≤ 4611686018427387904) : (PSP i n).length ≤ 126 := by
  have h1 := PSP_length hi hn
  have h2 := (RISE_spec hi hn).2.1
  have h3 := PC_lt_pow 64 n (by omega)
  omega
/-- two spots have no leaf together. -/
def Off (s t : Nat × Nat) : Prop := (s.2 + 1) * 2 ^ s.1 ≤ t.2 * 2 ^ t.1 ∨ (t.2 + 1) * 2 ^ t.1 ≤ s.2 * 2 ^ s.1
/-- how many leaves lie under spots. -/
def SIZE (l : List (Nat × Nat)) : Nat := (l.map fun s => 2 ^ s.1).sum
theorem SIZE_append (l m : List (Nat × Nat)) : SIZE (l ++ m) = SIZE l + SIZE m := by simp [SIZE]
theorem SIZE_snoc (l : List (Nat × Nat)) (s : Nat × Nat) : SIZE (l ++ [s]) = SIZE l + 2 ^ s.1 := by simp [SIZE]
theorem succ_pow (k h : Nat) : (k + 1) * 2 ^ h = k * 2 ^ h + 2 ^ h := by rw [Nat.add_mul, Nat.one_mul]
theorem Tile.size {l : List (Nat × Nat)} : ∀ {a b : Nat}, Tile a l b → a + SIZE l = b := by
  induction l with
  | nil => intro a b h; have : a = b := h; simp [SIZE, this]
  | cons s l ih =>
    intro a b ⟨h1, h2, h3⟩
    have := ih h3
    rw [succ_pow, h2] at this
    simp only [SIZE, List.map_cons, List.sum_cons] at this ⊢
    omega
theorem Tile.within {l : List (Nat × Nat)} : ∀ {a b : Nat}, Tile a l b → ∀ s ∈ l, a ≤ s.2 * 2 ^ s.1 ∧ (s.2 + 1) * 2 ^ s.1 ≤ b ∧ Node s.1 s.2 := by
  induction l with
  | nil => intro a b _ s hs; simp at hs
  | cons t l ih =>
    intro a b ⟨h1, h2, h3⟩ s hs
    rcases List.mem_cons.1 hs with rfl | hs
    · exact ⟨by omega, h3.bound.1, h1⟩
    · have := ih h3 s hs
      have h4 := succ_pow t.2 t.1
      have h5 := Nat.two_pow_pos t.1
      exact ⟨by omega, this.2⟩
theorem Tile.off {l : List (Nat × Nat)} : ∀ {a b : Nat}, Tile a l b → l.Pairwise Off := by
  induction l with
  | nil => intro a b _; exact List.Pairwise.nil
  | cons t l ih =>
    intro a b ⟨h1, h2, h3⟩
    refine List.Pairwise.cons (fun s hs => ?_) (ih h3)
    exact .inl (h3.within s hs).1
theorem pow_split (i H : Nat) : i / 2 ^ H * 2 ^ H ≤ i ∧ i < (i / 2 ^ H + 1) * 2 ^ H := by
  have h1 := Nat.div_add_mod i (2 ^ H)
  have h2 := Nat.mod_lt i (Nat.two_pow_pos H)
  rw [Nat.mul_comm] at h1
  rw [succ_pow]
  omega
/-- the sibling and the node itself are the halves of the node over them. -/
theorem sib_halves (k h : Nat) : (SIB k % 2 ≠ k % 2) ∧ k / 2 * 2 ^ (h + 1) ≤ SIB k * 2 ^ h ∧ (SIB k + 1) * 2 ^ h ≤ (k / 2 + 1) * 2 ^ (h + 1) ∧ k / 2 * 2 ^ (h + 1) ≤ k * 2 ^ h ∧ (k + 1) * 2 ^ h ≤ (k / 2 + 1) * 2 ^ (h + 1) ∧ ((SIB k + 1) * 2 ^ h ≤ k * 2 ^ h ∨ (k + 1) * 2 ^ h ≤ SIB k * 2 ^ h) := by
  have e := pow_up h
  have up : ∀ m, m * 2 ^ (h + 1) = (2 * m) * 2 ^ h := fun m => by rw [e, Nat.mul_comm 2 m, Nat.mul_assoc]
  rw [up, up]
  have mono : ∀ {a b : Nat}, a ≤ b → a * 2 ^ h ≤ b * 2 ^ h := fun hab => Nat.mul_le_mul_right _ hab
  unfold SIB
  split
  · exact ⟨by omega, mono (by omega), mono (by omega), mono (by omega), mono (by omega), .inl (mono (by omega))⟩
  · exact ⟨by omega, mono (by omega), mono (by omega), mono (by omega), mono (by omega), .inr (mono (by omega))⟩
theorem WAYS_within (i : Nat) : ∀ H, ∀ s ∈ WAYS i H, i / 2 ^ H * 2 ^ H ≤ s.2 * 2 ^ s.1 ∧ (s.2 + 1) * 2 ^ s.1 ≤ (i / 2 ^ H + 1) * 2 ^ H := by
  intro H
  induction H with
  | zero => intro s hs; simp [WAYS] at hs
  | succ H ih =>
    intro s hs
    rw [WAYS_succ, List.mem_append, List.mem_singleton] at hs
    have h1 := sib_halves (i / 2 ^ H) H
    rw [half_pow]
    rcases hs with hs | rfl
    · have := ih s hs
      omega
    · exact ⟨h1.2.1, h1.2.2.1⟩
theorem WAYS_off (i : Nat) : ∀ H, (WAYS i H).Pairwise Off := by
  intro H
  induction H with
  | zero => simp [WAYS]
  | succ H ih =>
    rw [WAYS_succ, List.pairwise_append]
    refine ⟨ih, by simp, fun s hs t ht => ?_⟩
    rw [List.mem_singleton] at ht
    subst ht
    have h1 := (sib_halves (i / 2 ^ H) H).2.2.2.2.2
    have h2 := WAYS_within i H s hs
    unfold Off
    dsimp only
    omega
theorem WAYS_size (i : Nat) : ∀ H, SIZE (WAYS i H) + 1 = 2 ^ H := by
  intro H
  induction H with
  | zero => simp [WAYS, SIZE]
  | succ H ih =>
    rw [WAYS_succ, SIZE_snoc, pow_up]
    dsimp only
    omega
theorem WAYS_leaf (i : Nat) : ∀ H, ∀ s ∈ WAYS i H, ¬ (s.2 * 2 ^ s.1 ≤ i ∧ i < (s.2 + 1) * 2 ^ s.1) := by
  intro H
  induction H with
  | zero => intro s hs; simp [WAYS] at hs
  | succ H ih =>
    intro s hs
    rw [WAYS_succ, List.mem_append, List.mem_singleton] at hs
    rcases hs with hs | rfl
    · exact ih s hs
    · have h1 := (sib_halves (i / 2 ^ H) H).2.2.2.2.2
      have h2 := pow_split i H
      dsimp only
      omega
theorem WAYS_node {i : Nat} (hi : i < 4611686018427387904) : ∀ H, H ≤ 62 → ∀ s ∈ WAYS i H, Node s.1 s.2 := by
  intro H hH s hs
  simp only [WAYS, List.mem_map, List.mem_range] at hs
  obtain ⟨h, hh, rfl⟩ := hs
  exact (Node.over hi h (by omega)).sib (by omega)
theorem node_lt {h k n : Nat} (hn : (k + 1) * 2 ^ h ≤ n) : PLC h k < NODES n := by
  have h1 := NODES_le hn
  have h2 := NODES_add ((k + 1) * 2 ^ h)
  rw [PC_shift] at h2
  have h3 := PLC_eq h k
  have h4 := PC_succ k
  have h5 : 2 ^ (h + 1) * (k + 1) = 2 * ((k + 1) * 2 ^ h) := by rw [pow_up, Nat.mul_assoc, Nat.mul_comm (2 ^ h)]
  omega
/-- the peak over the leaf. -/
theorem KTH_spot {i n : Nat} (hi : i < n) (hn : n ≤ 4611686018427387904) : (SPAN 0 n)[KTH i n]? = some (RISE i n, i / 2 ^ RISE i n) ∧ (PEAKS n).getD (KTH i n) 0 = PLC (RISE i n) (i / 2 ^ RISE i n) := by
  have h1 := KTH_at hi hn
  have h2 := KTH_lt hi hn
  have h3 := SPAN_zero_at hn h2
  have h4 : HGT n (KTH i n) = RISE i n := by simp [HGT, List.getD, h1]
  have h5 : KGT n (KTH i n) = i / 2 ^ RISE i n := by
    unfold KGT
    rw [h4]
    exact (RISE_spec hi hn).2.2.2.2.symm
  rw [h4, h5] at h3
  refine ⟨h3, ?_⟩
  rw [PEAKS_spots hn]
  exact PLCS_at h3
theorem Pairwise.at_lt {α : Type} {R : α → α → Prop} {l : List α} (h : l.Pairwise R) {a b : Nat} {x y : α} (hab : a < b) (ha : l[a]? = some x) (hb : l[b]? = some y) : R x y := by
  obtain ⟨h1, rfl⟩ := List.getElem?_eq_some_iff.1 ha
  obtain ⟨h2, rfl⟩ := List.getElem?_eq_some_iff.1 hb
  exact (List.pairwise_iff_getElem.1 h) a b h1 h2 hab
theorem erase_mem {α : Type} {l : List α} {k : Nat} {x : α} (h : x ∈ l.eraseIdx k) : ∃ j, j ≠ k ∧ l[j]? = some x := by
  obtain ⟨j, hj⟩ := List.mem_iff_getElem?.1 h
  rw [List.getElem?_eraseIdx] at hj
  split at hj
  · exact ⟨j, by omega, hj⟩
  · exact ⟨j + 1, by omega, hj⟩
theorem off_symm {s t : Nat × Nat} (h : Off s t) : Off t s := h.elim .inr .inl
theorem erase_size : ∀ (l : List (Nat × Nat)) (k : Nat) (s : Nat × Nat), l[k]? = some s → SIZE (l.eraseIdx k) + 2 ^ s.1 = SIZE l := by
  intro l
  induction l with
  | nil => intro k s h; simp at h
  | cons a l ih =>
    intro k s h
    cases k with
    | zero =>
      simp at h
      subst h
      simp [SIZE]
      omega
    | succ k =>
      have := ih k s (by simpa using h)
      simp only [SIZE, List.eraseIdx_cons_succ, List.map_cons, List.sum_cons] at this ⊢
      omega
/-- what the nodes of a proof are: nodes of the forest, none over the leaf, no two over one leaf, all others under them. -/
theorem PSP_spec {i n : Nat} (hi : i < n) (hn : n ≤ 4611686018427387904) :
    (∀ s ∈ PSP i n, Node s.1 s.2 ∧ PLC s.1 s.2 < NODES n ∧ ¬ (s.2 * 2 ^ s.1 ≤ i ∧ i < (s.2 + 1) * 2 ^ s.1)) ∧ (PSP i n).Pairwise Off ∧ SIZE (PSP i n) + 1 = n := by
  obtain ⟨hK, _⟩ := KTH_spot hi hn
  have h62 := (RISE_spec hi hn).2.1
  have hT := tile_span hn (Nat.zero_le n)
  have hp := pow_split i (RISE i n)
  have hin := hT.within _ (List.mem_of_getElem? hK)
  dsimp only at hin
  have hoff := hT.off
  have hother : ∀ s ∈ (SPAN 0 n).eraseIdx (KTH i n), Off s (RISE i n, i / 2 ^ RISE i n) := by
    intro s hs
    obtain ⟨j, hj, e⟩ := erase_mem hs
    rcases Nat.lt_or_ge j (KTH i n) with h | h
    · exact Pairwise.at_lt hoff h e hK
    · exact off_symm (Pairwise.at_lt hoff (by omega : KTH i n < j) hK e)
  refine ⟨fun s hs => ?_, ?_, ?_⟩
  · unfold PSP at hs
    rcases List.mem_append.1 hs with hs | hs
    · have h1 := WAYS_within i _ s hs
      exact ⟨WAYS_node (by omega) _ h62 s hs, node_lt (by omega), WAYS_leaf i _ s hs⟩
    · have h1 := hT.within s (List.mem_of_mem_eraseIdx hs)
      have h2 := hother s hs
      unfold Off at h2
      dsimp only at h2
      exact ⟨h1.2.2, node_lt h1.2.1, by omega⟩
  · unfold PSP
    rw [List.pairwise_append]
    refine ⟨WAYS_off i _, hoff.sublist (List.eraseIdx_sublist _ _), fun s hs t ht => ?_⟩
    have h1 := WAYS_within i _ s hs
    have h2 := hother t ht
    unfold Off at h2 ⊢
    dsimp only at h2
    omega
  · unfold PSP
    rw [SIZE_append]
    have h1 := WAYS_size i (RISE i n)
    have h2 := erase_size _ _ _ hK
    have h3 := hT.size
    dsimp only at h2
    omega
end Go.Proofs.YtadpfcpipklmbabDoor

/- What the document's answers for layer 3 give: Power, Nodes, Leaf, Leaves. -/
namespace Go.Proofs.YtadpfcpipklmbabDoor
open Go.RowKit

end Go.Proofs.YtadpfcpipklmbabDoor

/- What the document's Spot gives. -/
namespace Go.Proofs.YtadpfcpipklmbabDoor
open Go.RowKit

theorem wr_add {a b c : Nat} (h : a + b = c) (hc : c < 2 ^ 64) : IntKind.u64.wrap ((a : Int) + (b : Int)) = (c : Int) := by rw [wrapU]; omega
theorem wr_inc {a c : Nat} (h : a + 1 = c) (hc : c < 2 ^ 64) : IntKind.u64.wrap ((a : Int) + 1) = (c : Int) := by rw [wrapU]; omega
theorem wr_dec {a c : Nat} (h : c + 1 = a) (hc : c < 2 ^ 64) : IntKind.u64.wrap ((a : Int) - 1) = (c : Int) := by rw [wrapU]; omega
theorem wr_two {a c : Nat} (h : 2 * a = c) (hc : c < 2 ^ 64) : IntKind.u64.wrap (2 * (a : Int)) = (c : Int) := by rw [wrapU]; omega
theorem wr_half {a c : Nat} (h : 2 * c = a) (hc : c < 2 ^ 64) : IntKind.u64.wrap ((a : Int) / 2) = (c : Int) := by rw [wrapU]; omega
theorem half_int {a c : Nat} (h : 2 * c = a) : (a : Int) / 2 = (c : Int) := by omega
/-- one step down from the node (g + 1, m), which p stands under. -/
theorem rs_plain {g m b p z1 bz : Nat} (hg : g + 1 ≤ 62) (hN : Node (g + 1) m) (hb : b = NODES (m * 2 ^ (g + 1))) (hbp : b ≤ p) (hpu : p + 2 ≤ b + 2 ^ (g + 1 + 1)) (hz : 2 ^ (g + 1) = z1 + 1) (hbz : b + z1 = bz) (hT : p ≠ b + 2 * z1) :
    Node g (2 * m) ∧ Node g (2 * m + 1) ∧ b = NODES (2 * m * 2 ^ g) ∧ bz = NODES ((2 * m + 1) * 2 ^ g) ∧ (bz ≤ p → p + 2 ≤ bz + 2 ^ (g + 1)) ∧ (p < bz → p + 2 ≤ b + 2 ^ (g + 1)) := by
  have h2 := hN.2
  have e : 2 ^ (62 - g) = 2 ^ (62 - (g + 1)) * 2 := by rw [← Nat.pow_succ]; congr 1; omega
  have e2 : 2 ^ (g + 1 + 1) = 2 * (z1 + 1) := by rw [Nat.pow_succ, hz, Nat.mul_comm]
  refine ⟨⟨by omega, by rw [e]; omega⟩, ⟨by omega, by rw [e]; omega⟩, by rw [hb, double_pow], ?_, fun h => by omega, fun h => by omega⟩
  rw [NODES_plus, double_pow, ← hb]
  unfold TREE
  omega
end Go.Proofs.YtadpfcpipklmbabDoor

/- What the document's answers give for a node's kin. -/
namespace Go.Proofs.YtadpfcpipklmbabDoor
open Go.RowKit

theorem odd_mod (k : Nat) : ((k : Int) % 2 == 1) = decide (k % 2 = 1) := by
  rw [Bool.eq_iff_iff]
  simp
  omega
end Go.Proofs.YtadpfcpipklmbabDoor

/- What rise, Peak and Path answer. -/
namespace Go.Proofs.YtadpfcpipklmbabDoor
open Go.RowKit

theorem app_u64 {ops : Array Oper} {rest : List Oper} {o : Oper} {a : Act} {Q : Exit → Act → World → Prop} (w : World) (hgd : o.guard = none) (s x : Operand)
    (ho : o.op = .call { callee := .builtin .append, args := #[s, x], argTypes := #[22, 22] })
    (base : Nat) (v : Value) (n : Nat) (xs : List Nat) (hs : a.eval s = v) (hown : w.ownsRow base 23 1 v n (UCELLS xs))
    (b c : Nat) (y : Nat) (hx : a.eval x = .slice (some ⟨b, 0, none⟩) 1 c) (hc : w.cell? ⟨b, 0, none⟩ = some (.int .u64 (y : Int)))
    (hb : n ≤ 1000) (hbase : base ≤ w.heap.size)
    (h : ∀ g cap w', w'.ownsRow base 23 1 (.slice (some ⟨g, 0, none⟩) (n + 1) cap) (n + 1) (UCELLS (xs ++ [y])) → w.grownBy w' v.ownBlock → g < w'.heap.size → wpList Tryd.prog ops Q rest (a.put o.dst (.slice (some ⟨g, 0, none⟩) (n + 1) cap)) w') : wpList Tryd.prog ops Q (o :: rest) a w := by
  obtain ⟨i, hi, hz, hs1, hby⟩ := info_parts info_u64
  refine wpList_append_lies w hgd s x 22 ho base 23 i (.int .u64 0) 1 8 Tryd.underlying22 hi hz hs1 hby rfl (by decide) v n (UCELLS xs) hs hown ⟨b, 0, none⟩ 1 c [.int .u64 (y : Int)] hx rfl ?_ (fun u hu => by simp at hu; subst hu; rfl) (by decide) (by simp only [maxLen]; omega) (by omega) hbase w.heap.size rfl ?_
  · intro j u hj
    cases j with
    | zero =>
      simp only [List.getElem?_cons_zero, Option.some.injEq] at hj
      subst hj
      exact hc
    | succ j => simp at hj
  · intro g cap w' h1 h2 _ h4
    rw [← UCELLS_snoc] at h1
    exact h g cap w' h1 h2 h4

theorem rise_raw (i n x r : Int) (w : World) (hd : decide (4611686018427387904 < n) = false) (hi : decide (n ≤ i) = false) (hx : bits .xor .u64 i n = x) (c : ∀ w, Calls Tryd.prog 45 #[.int .u64 x] w fun e w' => e = .returned (.int .i64 r) ∧ w = w') :
    Calls Tryd.prog 46 #[.int .u64 i, .int .u64 n] w fun e w' => e = .returned (.tuple #[.int .i64 r, .bool true]) ∧ w = w' := by
  go_enter Tryd.func46, Tryd.ntmps46
  have hd' : ¬ 4611686018427387904 < n := by simpa using hd
  have hi' : ¬ n ≤ i := by simpa using hi
  go_wp2_with fail
  refine (c _).mono ?_
  rintro e w' ⟨rfl, rfl⟩
  go_wp2
  go_ret2
  exact ⟨rfl, rfl⟩
theorem rise_ok (i n : Nat) (hi : i < n) (hn : n ≤ 4611686018427387904) (w : World) : Calls Tryd.prog 46 #[.int .u64 (i : Int), .int .u64 (n : Int)] w fun e w' => e = .returned (.tuple #[.int .i64 ((RISE i n : Nat) : Int), .bool true]) ∧ w = w' := by
  have hX : i ^^^ n < 2 ^ 63 := Nat.xor_lt_two_pow (by omega) (by omega)
  have h1 := (RISE_spec hi hn).1
  refine rise_raw i n ((i ^^^ n : Nat) : Int) _ w (by simp; omega) (by simp; omega) (bits_xor_u64_nat i n (by omega) (by omega)) (fun w => ?_)
  have := high_ok (i ^^^ n) (by omega) w
  rw [show ((LEN (i ^^^ n) : Nat) : Int) - 1 = ((RISE i n : Nat) : Int) by unfold RISE; omega] at this
  exact this
theorem rise_not (i n : Int) (h : ¬ (i < n ∧ n ≤ 4611686018427387904)) (w : World) : Calls Tryd.prog 46 #[.int .u64 i, .int .u64 n] w fun e w' => e = .returned (.tuple #[.int .i64 0, .bool false]) ∧ w = w' := by
  by_cases hd : 4611686018427387904 < n
  · clear h
    go_enter Tryd.func46, Tryd.ntmps46
    go_wp2
    go_ret2
    exact ⟨rfl, rfl⟩
  · have hi : n ≤ i := by omega
    clear h
    go_enter Tryd.func46, Tryd.ntmps46
    go_wp2
    go_ret2
    exact ⟨rfl, rfl⟩
theorem peak_raw (i n r x y k : Int) (w : World) (h : Nat) (hr : r = (h : Int)) (e1 : n / 2 ^ min h 64 = x) (e2 : x / 2 = y) (c : ∀ w, Calls Tryd.prog 46 #[.int .u64 i, .int .u64 n] w fun e w' => e = .returned (.tuple #[.int .i64 r, .bool true]) ∧ w = w') (co : ∀ w, Calls Tryd.prog 44 #[.int .u64 y] w fun e w' => e = .returned (.int .i64 k) ∧ w = w') :
    Calls Tryd.prog 30 #[.int .u64 i, .int .u64 n] w fun e w' => e = .returned (.tuple #[.int .i64 k, .bool true]) ∧ w = w' := by
  subst hr
  go_enter Tryd.func30, Tryd.ntmps30
  go_wp2_with fail
  refine (c _).mono ?_
  rintro e w' ⟨rfl, rfl⟩
  clear c
  go_wp2_with fail
  refine (co _).mono ?_
  rintro e w' ⟨rfl, rfl⟩
  go_wp2
  go_ret2
  exact ⟨rfl, rfl⟩
theorem peak_ok (i n : Nat) (hi : i < n) (hn : n ≤ 4611686018427387904) (w : World) : Calls Tryd.prog 30 #[.int .u64 (i : Int), .int .u64 (n : Int)] w fun e w' => e = .returned (.tuple #[.int .i64 ((KTH i n : Nat) : Int), .bool true]) ∧ w = w' := by
  have h2 := (RISE_spec hi hn).2.1
  refine peak_raw i n _ ((n / 2 ^ RISE i n : Nat) : Int) ((n / 2 ^ (RISE i n + 1) : Nat) : Int) _ w (RISE i n) rfl ?_ ?_ (fun w => rise_ok i n hi hn w) (fun w => ?_)
  · rw [show min (RISE i n) 64 = RISE i n by omega, div_cast]
  · rw [half_pow]
    omega
  · have hl : n / 2 ^ (RISE i n + 1) < 2 ^ 64 := Nat.lt_of_le_of_lt (Nat.div_le_self _ _) (by omega)
    have := ones_ok (n / 2 ^ (RISE i n + 1)) hl w
    rw [POP_PC hl] at this
    exact this
theorem peak_not (i n : Int) (h : ¬ (i < n ∧ n ≤ 4611686018427387904)) (w : World) : Calls Tryd.prog 30 #[.int .u64 i, .int .u64 n] w fun e w' => e = .returned (.tuple #[.int .i64 0, .bool false]) ∧ w = w' := by
  have c := rise_not i n h
  clear h
  go_enter Tryd.func30, Tryd.ntmps30
  go_wp2_with fail
  refine (c _).mono ?_
  rintro e w' ⟨rfl, rfl⟩
  clear c
  go_wp2
  go_ret2
  exact ⟨rfl, rfl⟩
theorem path_not (i n : Int) (h : ¬ (i < n ∧ n ≤ 4611686018427387904)) (w : World) : Calls Tryd.prog 29 #[.int .u64 i, .int .u64 n] w fun e w' => e = .returned (.tuple #[.slice none 0 0, .bool false]) ∧ w = w' := by
  have c := rise_not i n h
  clear h
  go_enter Tryd.func29, Tryd.ntmps29
  go_wp2_with fail
  refine (c _).mono ?_
  rintro e w' ⟨rfl, rfl⟩
  clear c
  go_wp2
  go_ret2
  exact ⟨rfl, rfl⟩
set_option maxHeartbeats 1000000 in
theorem path_ok (i n : Nat) (hi : i < n) (hn : n ≤ 4611686018427387904) (w : World) : Calls Tryd.prog 29 #[.int .u64 (i : Int), .int .u64 (n : Int)] w fun e w' =>
    ∃ g cap, e = .returned (.tuple #[.slice (some ⟨g, 0, none⟩) (RISE i n) cap, .bool true]) ∧ w'.ownsRow w.heap.size 23 1 (.slice (some ⟨g, 0, none⟩) (RISE i n) cap) (RISE i n) (UCELLS (WAY i (RISE i n))) ∧ g < w'.heap.size ∧ Below w.heap.size w w' := by
  have c1 := rise_ok i n hi hn
  have h62 := (RISE_spec hi hn).2.1
  have c2 := ahead_ok i (by omega)
  generalize RISE i n = H at *
  obtain ⟨cur, hcs, hmk⟩ := make_u64 H (by omega) w
  have HA : Aside (i < 4611686018427387904 ∧ H ≤ 62 ∧ cur.size = H) := ⟨by omega, h62, hcs⟩
  have hp : (NODES i : Nat) = PLC 0 (i / 2 ^ 0) := by rw [PLC_leaf, Nat.pow_zero, Nat.div_one]
  rw [hp] at c2
  clear hi hn h62 hcs hp
  go_enter Tryd.func29, Tryd.ntmps29
  go_wp2_with fail
  refine (c1 _).mono ?_
  rintro e w' ⟨rfl, rfl⟩
  clear c1
  go_wp2_with fail
  refine (c2 _).mono ?_
  rintro e w' ⟨rfl, rfl⟩
  clear c2
  go_wp2
  go_loopg [8, 9, 25] H (fun g s8 s9 s25 wx => ∃ j : Nat, s25 = .int .i64 (j : Int) ∧ s9 = .int .u64 ((PLC j (i / 2 ^ j) : Nat) : Int) ∧ Aside (j + g = H ∧ wx.ownsRow w.heap.size 23 1 s8 j (UCELLS (WAY i j)) ∧ (∃ b cap, s8 = .slice (some ⟨b, 0, none⟩) j cap ∧ b < wx.heap.size) ∧ Below w.heap.size w wx))
  case atStart => exact ⟨0, rfl, by rw [Nat.pow_zero, Nat.div_one], by omega, World.ownsRow_made w cur H (Nat.le_refl _) (by have := HA.out.2.1; simp only [maxLen]; omega) (by rw [HA.out.2.2]; omega), ⟨_, _, rfl, by simp⟩, (Below.refl _ _).alloc (Nat.le_refl _) _⟩
  case round =>
    obtain ⟨j, rfl, rfl, A⟩ := hrel
    clear hmk
    cases gk with
    | zero =>
      obtain ⟨hj, hown, ⟨b, cap, hs, hb⟩, hbel⟩ := A.out
      obtain rfl : j = H := by omega
      subst hs
      have hlt : ¬ (j : Int) < (j : Int) := by omega
      clear hj hown hb hbel HA
      go_wp2
      go_ret2
      obtain ⟨hj, hown, ⟨b', cap', hs, hb⟩, hbel⟩ := A.out
      cases hs
      exact ⟨b, cap, rfl, hown, hb, hbel⟩
    | succ g =>
      obtain ⟨hj, hown, ⟨b, cap, hs, hb⟩, hbel⟩ := A.out
      have hlt : (j : Int) < (H : Int) := by omega
      have h62 := HA.out.2.1
      have hN := Node.over HA.out.1 j (by omega)
      have cb := beside_ok j (i / 2 ^ j) hN (by omega)
      have co := over_ok j (i / 2 ^ j) hN (by omega)
      have hR : (bits .and .u64 ((i : Int) / 2 ^ min j 64) 1 == 1) = decide (i / 2 ^ j % 2 = 1) := by
        rw [show min j 64 = j by omega, div_cast]
        exact odd_eq _ (Nat.lt_of_le_of_lt (Nat.div_le_self _ _) (by have := HA.out.1; omega))
      have e1 : wrap64 ((j : Int) + 1) = ((j + 1 : Nat) : Int) := by unfold wrap64; omega
      have hj0 : ¬ (j : Int) < 0 := by omega
      rw [← half_pow] at co
      have hw := WAY_succ i j
      generalize hz : decide (i / 2 ^ j % 2 = 1) = z at *
      clear hz
      generalize PLC j (i / 2 ^ j) = x at *
      generalize PLC j (SIB (i / 2 ^ j)) = y at *
      generalize hv : PLC (j + 1) (i / 2 ^ (j + 1)) = v at *
      have R : Aside (j + 1 + g = H ∧ wr.ownsRow w.heap.size 23 1 u8 j (UCELLS (WAY i j)) ∧ Below w.heap.size w wr ∧ j ≤ 1000 ∧ WAY i (j + 1) = WAY i j ++ [y] ∧ PLC (j + 1) (i / 2 ^ (j + 1)) = v) := ⟨by omega, hown, hbel, by omega, hw, hv⟩
      clear A hj hown hs hb hbel h62 hN hw hv HA
      go_wp2_with fail
      refine (cb _).mono ?_
      rintro e w' ⟨rfl, rfl⟩
      clear cb
      go_wp2_with (at_builtin; refine app_u64 _ rfl (.tmp 33) (.tmp 38) rfl w.heap.size u8 j (WAY i j) rfl (R.out.2.1.alloc _) wr.heap.size 1 y rfl (by rw [World.cell?_alloc_at _ _ _ _ rfl]; rfl) R.out.2.2.2.1 (by have := R.out.2.2.1.size; simp; omega) ?_; intro g' cap w1 hown hgrow hg)
      obtain ⟨r1, r2, r3, r4, r5, r6⟩ := R.out
      have R2 : Aside (j + 1 + g = H ∧ w1.ownsRow w.heap.size 23 1 (.slice (some ⟨g', 0, none⟩) (j + 1) cap) (j + 1) (UCELLS (WAY i (j + 1))) ∧ g' < w1.heap.size ∧ Below w.heap.size w w1 ∧ PLC (j + 1) (i / 2 ^ (j + 1)) = v) := ⟨r1, by rw [r5]; exact hown, hg, (r3.alloc r3.size _).grown hgrow (by have := r3.size; simp; omega) (fun k e => (r2.lt k e).1), r6⟩
      clear hown hgrow hg R r1 r2 r3 r4 r5 r6
      refine (co _).mono ?_
      rintro e w' ⟨rfl, rfl⟩
      clear co
      go_wp2
      go_roundg g
      case measure => omega
      case rel =>
        obtain ⟨r1, r2, r3, r4, r6⟩ := R2.out
        exact ⟨j + 1, by first | rfl | (rw [e1]), by rw [r6], r1, r2, ⟨_, _, rfl, r3⟩, r4⟩
end Go.Proofs.YtadpfcpipklmbabDoor

/- Lists of spots of one's own. -/
namespace Go.Proofs.YtadpfcpipklmbabDoor
open Go.RowKit

/-- spots as cells. -/
def SCELLS (l : List (Nat × Nat)) : List Value := l.flatMap fun x => [Value.int .u8 (x.1 : Int), Value.int .u64 (x.2 : Int)]
theorem SCELLS_snoc (l : List (Nat × Nat)) (h k : Nat) : SCELLS (l ++ [(h, k)]) = SCELLS l ++ [Value.int .u8 (h : Int), Value.int .u64 (k : Int)] := by simp [SCELLS]
theorem SCELLS_at : ∀ (l : List (Nat × Nat)) (j h k : Nat), l[j]? = some (h, k) → (SCELLS l)[j * 2]? = some (.int .u8 (h : Int)) ∧ (SCELLS l)[j * 2 + 1]? = some (.int .u64 (k : Int))
  | [], j, h, k, e => by simp at e
  | x :: l, 0, h, k, e => by
    simp at e
    subst e
    simp [SCELLS]
  | x :: l, j + 1, h, k, e => by
    have := SCELLS_at l j h k (by simpa using e)
    have e1 : (j + 1) * 2 = j * 2 + 1 + 1 := by omega
    simp only [SCELLS, List.flatMap_cons, List.cons_append, List.nil_append, e1, List.getElem?_cons_succ]
    exact this
theorem info_spot : (Tryd.prog.info? 59).map (fun i => (i.zero, i.size, i.bytes)) = some (some (.agg #[.int .u8 0, .int .u64 0]), 2, 16) := by kernel_rfl
/-- a list of spots lies there. -/
def Spots (w : World) (a : Option Addr) (l : List (Nat × Nat)) : Prop := 0 < l.length → ∃ g, a = some ⟨g, 0, none⟩ ∧ g < w.heap.size ∧ ∀ (j h k : Nat), l[j]? = some (h, k) → w.cell? ⟨g, j * 2, none⟩ = some (.int .u8 (h : Int)) ∧ w.cell? ⟨g, j * 2 + 1, none⟩ = some (.int .u64 (k : Int))
theorem Spots.below {w w' : World} {a : Option Addr} {l : List (Nat × Nat)} (h : Spots w a l) (hb : Below w.heap.size w w') : Spots w' a l := fun h0 => by
  obtain ⟨g, e, hg, hc⟩ := h h0
  exact ⟨g, e, Nat.lt_of_lt_of_le hg hb.size, fun j x y he => ⟨(hb.cell (p := ⟨g, j * 2, none⟩) hg).trans (hc j x y he).1, (hb.cell (p := ⟨g, j * 2 + 1, none⟩) hg).trans (hc j x y he).2⟩⟩
theorem spots_own {w : World} {base n : Nat} {v : Value} {l : List (Nat × Nat)} (hl : l.length = n) (h : w.ownsRow base 59 2 v n (SCELLS l)) : ∃ a cap, v = .slice a n cap ∧ Spots w a l := by
  rcases h.2 with ⟨rfl, h0⟩ | ⟨g, cap, cur, rfl, hb, hg, r⟩
  · subst h0
    exact ⟨none, 0, rfl, fun h => by omega⟩
  · refine ⟨_, cap, rfl, fun h0 => ⟨g, rfl, ?_, fun j x y he => ?_⟩⟩
    · exact (Array.getElem?_eq_some_iff.1 hg).1
    · have hj : j < n := by rw [← hl]; exact (List.getElem?_eq_some_iff.1 he).1
      have h1 := SCELLS_at l j x y he
      exact ⟨(h.cellAt (j * 2) (by omega)).trans h1.1, (h.cellAt (j * 2 + 1) (by omega)).trans h1.2⟩
theorem own_below {w w' : World} {base : Nat} {t : TypeId} {s : Nat} {v : Value} {n : Nat} {xs : List Value} (h : w.ownsRow base t s v n xs) (hb : Below w.heap.size w w') : w'.ownsRow base t s v n xs := by
  refine ⟨h.1, h.2.imp id ?_⟩
  rintro ⟨g, c, cur, a, b, r, rest⟩
  exact ⟨g, c, cur, a, b, (hb.block g (Array.getElem?_eq_some_iff.1 r).1).trans r, rest⟩
end Go.Proofs.YtadpfcpipklmbabDoor

/- What the document's Tops gives: the spots of the peaks. -/
namespace Go.Proofs.YtadpfcpipklmbabDoor
open Go.RowKit

/-- the spots of the peaks of n leaves whose height is at least h. -/
def TOPS (h n : Nat) : List (Nat × Nat) := (HS h n).map fun g => (g, 2 * (n / 2 ^ (g + 1)))
theorem TOPS_set {h n : Nat} (hh : h < 64) (hb : n / 2 ^ h % 2 = 1) : TOPS h n = TOPS (h + 1) n ++ [(h, 2 * (n / 2 ^ (h + 1)))] := by
  unfold TOPS
  rw [HS_set hh hb, List.map_append]
  rfl
theorem TOPS_clear {h n : Nat} (hh : h < 64) (hb : ¬ n / 2 ^ h % 2 = 1) : TOPS h n = TOPS (h + 1) n := by
  unfold TOPS
  rw [HS_clear hh hb]
theorem TOPS_length {n : Nat} (hn : n < 2 ^ 64) (h : Nat) (hh : h ≤ 64) : (TOPS h n).length = PC (n / 2 ^ h) := by
  unfold TOPS
  rw [List.length_map]
  exact HS_length hn h hh
/-- one height of Tops. -/
theorem tops_plain {n h at' r : Nat} (ha : at' = n / 2 ^ (h + 1) * 2 ^ (h + 1)) (hr : r = n - at') : at' ≤ n ∧ (2 ^ h ≤ r ↔ n / 2 ^ h % 2 = 1) ∧ at' / 2 ^ h = 2 * (n / 2 ^ (h + 1)) ∧ (n / 2 ^ h % 2 = 1 → at' + 2 ^ h = n / 2 ^ h * 2 ^ h) ∧ (¬ n / 2 ^ h % 2 = 1 → at' = n / 2 ^ h * 2 ^ h) := by
  have hp := Nat.two_pow_pos h
  have e1 : at' = 2 * (n / 2 ^ (h + 1)) * 2 ^ h := by rw [ha, double_pow]
  have hd := Nat.div_add_mod n (2 ^ h)
  have hm := Nat.mod_lt n hp
  rw [Nat.mul_comm] at hd
  have hq : at' / 2 ^ h = 2 * (n / 2 ^ (h + 1)) := by rw [e1, Nat.mul_div_cancel _ hp]
  by_cases hb : n / 2 ^ h % 2 = 1
  · have h2 := at_set hb
    have e2 : n / 2 ^ h * 2 ^ h = at' + 2 ^ h := by rw [h2, Nat.add_mul, Nat.one_mul, ← e1]
    exact ⟨by omega, ⟨fun _ => hb, fun _ => by omega⟩, hq, fun _ => e2.symm, fun h => absurd hb h⟩
  · have h2 := at_clear hb
    have e2 : n / 2 ^ h * 2 ^ h = at' := by rw [h2, ← e1]
    exact ⟨by omega, ⟨fun _ => by omega, fun h => absurd h hb⟩, hq, fun h => absurd h hb, fun _ => e2.symm⟩
end Go.Proofs.YtadpfcpipklmbabDoor

/- What the document's Peaks gives. -/
namespace Go.Proofs.YtadpfcpipklmbabDoor
open Go.RowKit

theorem TOPS_node {n : Nat} (hn : n ≤ 4611686018427387904) {j h k : Nat} (e : (TOPS 0 n)[j]? = some (h, k)) : Node h k ∧ h < 64 := by
  unfold TOPS at e
  rw [List.getElem?_map] at e
  obtain ⟨g, hg, e2⟩ := Option.map_eq_some_iff.1 e
  simp only [Prod.mk.injEq] at e2
  obtain ⟨rfl, rfl⟩ := e2
  obtain ⟨_, h1, h2⟩ := HS_set_of 0 g (by omega) (List.mem_of_getElem? hg)
  exact ⟨Node.peak hn h2, h1⟩
theorem PEAKS_TOPS (n : Nat) : PEAKS n = (TOPS 0 n).map fun x => PLC x.1 x.2 := by
  unfold PEAKS TOPS
  rw [List.map_map]
  rfl
end Go.Proofs.YtadpfcpipklmbabDoor
