/- Texts of VerifyPrefixes, one behind the other: PosCoversPlain, CutTopsPlain, ProofPlain, PosRef, PosRefSpot, PosRefKin. -/
import Derived.Test.YtkcfhgflgkejoaaGreatDoorVerifyPrefixesP3
import Derived.Test.YtkcfhgflgkejoaaGreatDoorVerifyPrefixesP4
import Derived.Test.YtkcfhgflgkejoaaGreatDoorVerifyPrefixesP5
/- The peaks of n leaves, one behind the other, in plain numbers. -/
namespace Go.Proofs.YtkcfhgflgkejoaaGreatDoor

theorem PC_eq_zero {n : Nat} (h : PC n = 0) : n = 0 := by
  induction n using Nat.strongRecOn with
  | _ n ih =>
    by_cases h0 : n = 0
    · exact h0
    · rw [PC_step] at h
      have := ih (n / 2) (by omega) (by omega)
      omega
theorem PC_split (n a b : Nat) (hab : a ≤ b) : n / 2 ^ a = n / 2 ^ b * 2 ^ (b - a) + n / 2 ^ a % 2 ^ (b - a) ∧ PC (n / 2 ^ a) = PC (n / 2 ^ b) + PC (n / 2 ^ a % 2 ^ (b - a)) := by
  have e : n / 2 ^ b = n / 2 ^ a / 2 ^ (b - a) := by rw [Nat.div_div_eq_div_mul, ← Nat.pow_add,show a + (b - a) = b by omega]
  have h1 : n / 2 ^ a = n / 2 ^ b * 2 ^ (b - a) + n / 2 ^ a % 2 ^ (b - a) := by
    rw [e,Nat.mul_comm]
    exact (Nat.div_add_mod _ _).symm
  refine ⟨h1, ?_⟩
  have h2 := PC_add (b - a) (n / 2 ^ b) (n / 2 ^ a % 2 ^ (b - a)) (Nat.mod_lt _ (Nat.two_pow_pos _))
  rw [← h1] at h2
  exact h2
theorem PC_mono (n : Nat) {a b : Nat} (hab : a ≤ b) : PC (n / 2 ^ b) ≤ PC (n / 2 ^ a) := by
  have := (PC_split n a b hab).2
  omega
theorem trunc_eq (n : Nat) {a b : Nat} (hab : a ≤ b) (h : PC (n / 2 ^ a) = PC (n / 2 ^ b)) : n / 2 ^ a * 2 ^ a = n / 2 ^ b * 2 ^ b := by
  obtain ⟨h1,h2⟩ := PC_split n a b hab
  have h3 : n / 2 ^ a % 2 ^ (b - a) = 0 := PC_eq_zero (by omega)
  rw [h3,Nat.add_zero] at h1
  rw [h1,Nat.mul_assoc, ← Nat.pow_add,show b - a + a = b by omega]
theorem HS_index {n : Nat} (hn : n < 2 ^ 64) : ∀ h,h ≤ 64 → ∀ i,i < PC (n / 2 ^ h) → ∃ g,h ≤ g ∧ g < 64 ∧ (HS h n)[i]? = some g ∧ n / 2 ^ g % 2 = 1 ∧ i = PC (n / 2 ^ (g + 1)) := by
  have key : ∀ d h,h + d = 64 → ∀ i,i < PC (n / 2 ^ h) → ∃ g,h ≤ g ∧ g < 64 ∧ (HS h n)[i]? = some g ∧ n / 2 ^ g % 2 = 1 ∧ i = PC (n / 2 ^ (g + 1)) := by
    intro d
    induction d with
    | zero =>
      intro h e i hi
      obtain rfl : h = 64 := by omega
      rw [Nat.div_eq_of_lt hn,PC_zero] at hi
      omega
    | succ d ih =>
      intro h e i hi
      have hl := HS_length hn (h + 1) (by omega)
      have hs : PC (n / 2 ^ h) = n / 2 ^ h % 2 + PC (n / 2 ^ (h + 1)) := by rw [PC_step,half_pow]
      rcases Nat.lt_or_ge i (PC (n / 2 ^ (h + 1))) with h1 | h1
      · obtain ⟨g,a,b,c,r⟩ := ih (h + 1) (by omega) i h1
        refine ⟨g,by omega,b, ?_,r⟩
        by_cases hb : n / 2 ^ h % 2 = 1
        · rw [HS_set (by omega) hb,List.getElem?_append_left (by omega)]
          exact c
        · rw [HS_clear (by omega) hb]
          exact c
      · have hb : n / 2 ^ h % 2 = 1 := by omega
        have hi' : i = PC (n / 2 ^ (h + 1)) := by omega
        refine ⟨h,Nat.le_refl _,by omega, ?_,hb,hi'⟩
        rw [HS_set (by omega) hb,List.getElem?_append_right (by omega),hl,hi']
        simp
  intro h hh
  exact key (64 - h) h (by omega)
/-- the height of the peak i of n leaves; the leaves ahead of it. -/
def HGT (n i : Nat) : Nat := (HS 0 n).getD i 0
def AHEAD (n : Nat) : Nat → Nat
  | 0 => 0
  | i + 1 => n / 2 ^ HGT n i * 2 ^ HGT n i
theorem HGT_at {n i : Nat} (hn : n < 2 ^ 64) (hi : i < PC n) : (HS 0 n)[i]? = some (HGT n i) ∧ n / 2 ^ HGT n i % 2 = 1 ∧ i = PC (n / 2 ^ (HGT n i + 1)) := by
  obtain ⟨g,_,_,c,d,e⟩ := HS_index hn 0 (by omega) i (by rw [Nat.pow_zero,Nat.div_one]; exact hi)
  have hg : HGT n i = g := by unfold HGT; rw [List.getD_eq_getElem?_getD,c]; rfl
  rw [hg]
  exact ⟨c,d,e⟩
/-- the index of the peak i among the nodes of its height. -/
def KGT (n i : Nat) : Nat := 2 * (n / 2 ^ (HGT n i + 1))
theorem PEAKS_at {n i : Nat} (hn : n < 2 ^ 64) (hi : i < PC n) : (PEAKS n).getD i 0 = PLC (HGT n i) (KGT n i) := by
  unfold PEAKS
  rw [List.getD_eq_getElem?_getD,List.getElem?_map,(HGT_at hn hi).1]
  rfl
theorem PEAK_node {n i : Nat} (hn : n ≤ 4611686018427387904) (hi : i < PC n) : Node (HGT n i) (KGT n i) := Node.peak hn (HGT_at (by omega) hi).2.1
theorem PC_after {n i : Nat} (hn : n < 2 ^ 64) (hi : i < PC n) : PC (n / 2 ^ HGT n i) = i + 1 := by
  obtain ⟨_,h2,h3⟩ := HGT_at hn hi
  rw [PC_step, ← half_pow]
  omega
theorem HGT_falls {n i : Nat} (hn : n < 2 ^ 64) (hi : i + 1 < PC n) : HGT n (i + 1) < HGT n i := by
  have h1 := PC_after hn (i := i) (by omega)
  have h2 := (HGT_at hn hi).2.2
  rcases Nat.lt_or_ge (HGT n (i + 1)) (HGT n i) with h | h
  · exact h
  · have h3 := PC_mono n (a := HGT n i + 1) (b := HGT n (i + 1) + 1) (by omega)
    have h4 := (HGT_at hn (i := i) (by omega)).2.2
    omega
theorem AHEAD_from {n i : Nat} (hn : n < 2 ^ 64) (hi : i < PC n) : KGT n i * 2 ^ HGT n i = AHEAD n i := by
  have hk : KGT n i * 2 ^ HGT n i = n / 2 ^ (HGT n i + 1) * 2 ^ (HGT n i + 1) := double_pow _ _
  have h2 := (HGT_at hn hi).2.2
  cases i with
  | zero =>
    rw [hk,PC_eq_zero h2.symm,Nat.zero_mul]
    rfl
  | succ i =>
    have h1 := PC_after hn (i := i) (by omega)
    have h3 := HGT_falls hn hi
    rw [hk]
    exact trunc_eq n (by omega) (by omega)
theorem AHEAD_to {n i : Nat} (hn : n < 2 ^ 64) (hi : i < PC n) : (KGT n i + 1) * 2 ^ HGT n i = AHEAD n (i + 1) := by
  have := at_set (HGT_at hn hi).2.1
  show (2 * (n / 2 ^ (HGT n i + 1)) + 1) * 2 ^ HGT n i = n / 2 ^ HGT n i * 2 ^ HGT n i
  rw [← this]
theorem AHEAD_all {n : Nat} (hn : n < 2 ^ 64) : AHEAD n (PC n) = n := by
  cases h : PC n with
  | zero =>
    rw [PC_eq_zero h]
    rfl
  | succ i =>
    have h1 := PC_after hn (i := i) (by omega)
    have h2 := trunc_eq n (a := 0) (b := HGT n i) (by omega) (by rw [Nat.pow_zero,Nat.div_one]; omega)
    rw [Nat.pow_zero,Nat.div_one,Nat.mul_one] at h2
    exact h2.symm
theorem PEAK_parent {n i : Nat} : NODES n ≤ PLC (HGT n i + 1) (KGT n i / 2) := by
  have e : KGT n i / 2 = n / 2 ^ (HGT n i + 1) := by unfold KGT; omega
  rw [e]
  have h1 := PLC_last (HGT n i + 1) (n / 2 ^ (HGT n i + 1))
  have h2 : n ≤ (n / 2 ^ (HGT n i + 1) + 1) * 2 ^ (HGT n i + 1) - 1 := by
    have := Nat.lt_mul_div_succ n (Nat.two_pow_pos (HGT n i + 1))
    rw [Nat.mul_comm] at this
    omega
  have h3 := NODES_le h2
  omega
end Go.Proofs.YtkcfhgflgkejoaaGreatDoor

/- The spots of the peaks are the span of all leaves. -/
namespace Go.Proofs.YtkcfhgflgkejoaaGreatDoor

/-- the peaks' spots from the j-th on. -/
def PKS (n j c : Nat) : List (Nat × Nat) := (List.range' j c).map fun i => (HGT n i,KGT n i)
theorem PKS_step (n j c : Nat) : PKS n j (c + 1) = (HGT n j,KGT n j) :: PKS n (j + 1) c := by simp [PKS,List.range'_succ]
theorem PKS_at {n c i : Nat} (h : i < c) : (PKS n 0 c)[i]? = some (HGT n i,KGT n i) := by
  simp [PKS,h]
theorem PKS_tile {n : Nat} (hn : n ≤ 4611686018427387904) : ∀ c j,j + c = PC n → Tile (AHEAD n j) (PKS n j c) n ∧ Irr (PKS n j c) := by
  intro c
  induction c with
  | zero =>
    intro j e
    obtain rfl : j = PC n := by omega
    exact ⟨AHEAD_all (by omega),trivial⟩
  | succ c ih =>
    intro j e
    obtain ⟨i1,i2⟩ := ih (j + 1) (by omega)
    rw [PKS_step]
    refine ⟨⟨PEAK_node hn (by omega),AHEAD_from (by omega) (by omega), ?_⟩, ?_,i2⟩
    · show Tile ((KGT n j + 1) * 2 ^ HGT n j) _ n
      rw [AHEAD_to (by omega) (by omega)]
      exact i1
    · intro y hy ⟨h1,_,_⟩
      cases c with
      | zero => simp [PKS] at hy
      | succ c =>
        rw [PKS_step] at hy
        simp at hy
        subst hy
        have := HGT_falls (n := n) (i := j) (by omega) (by omega)
        dsimp only at h1
        omega
theorem SPAN_peaks {n : Nat} (hn : n ≤ 4611686018427387904) : SPAN 0 n = PKS n 0 (PC n) := by
  obtain ⟨h1,h2⟩ := PKS_tile hn (PC n) 0 (by omega)
  exact (span_only h1 h2).symm
theorem SPAN_zero_length {n : Nat} (hn : n ≤ 4611686018427387904) : (SPAN 0 n).length = PC n := by
  rw [SPAN_peaks hn]
  simp [PKS]
theorem SPAN_zero_at {n i : Nat} (hn : n ≤ 4611686018427387904) (hi : i < PC n) : (SPAN 0 n)[i]? = some (HGT n i,KGT n i) := by
  rw [SPAN_peaks hn]
  exact PKS_at hi
end Go.Proofs.YtkcfhgflgkejoaaGreatDoor

/- Which nodes a proof has, as spots: the siblings on the way up and the other peaks; the peaks of an earlier size and the spots behind it. -/
namespace Go.Proofs.YtkcfhgflgkejoaaGreatDoor

/-- the places of spots. -/
def PLCS (l : List (Nat × Nat)) : List Nat := l.map fun s => PLC s.1 s.2
theorem PLCS_length (l : List (Nat × Nat)) : (PLCS l).length = l.length := by simp [PLCS]
theorem PLCS_append (l m : List (Nat × Nat)) : PLCS (l ++ m) = PLCS l ++ PLCS m := by simp [PLCS]
theorem PLCS_at {l : List (Nat × Nat)} {j h k : Nat} (e : l[j]? = some (h,k)) : (PLCS l).getD j 0 = PLC h k := by
  simp [PLCS,List.getD,e]
theorem PEAKS_spots {n : Nat} (hn : n ≤ 4611686018427387904) : PEAKS n = PLCS (SPAN 0 n) := by
  have hl := PEAKS_length (n := n) (by omega)
  apply List.ext_getElem?
  intro j
  by_cases hj : j < PC n
  · have h1 := PEAKS_at (n := n) (by omega) hj
    have h2 := SPAN_zero_at hn hj
    rw [List.getD,List.getElem?_eq_getElem (by omega)] at h1
    rw [List.getElem?_eq_getElem (by omega)]
    simp only [Option.getD_some] at h1
    rw [h1]
    simp [PLCS,h2]
  · rw [List.getElem?_eq_none (by omega),List.getElem?_eq_none (by rw [PLCS_length,SPAN_zero_length hn]; omega)]
/-- the siblings on the way up from the leaf i, the first H of them. -/
def WAYS (i H : Nat) : List (Nat × Nat) := (List.range H).map fun h => (h,SIB (i / 2 ^ h))
theorem WAYS_succ (i H : Nat) : WAYS i (H + 1) = WAYS i H ++ [(H,SIB (i / 2 ^ H))] := by simp [WAYS,List.range_succ]
theorem WAYS_length (i H : Nat) : (WAYS i H).length = H := by simp [WAYS]
theorem WAY_spots (i H : Nat) : WAY i H = PLCS (WAYS i H) := by simp [WAY,WAYS,PLCS]
theorem erase_map {α β : Type} (f : α → β) : ∀ (l : List α) (k : Nat),(l.map f).eraseIdx k = (l.eraseIdx k).map f := by
  intro l
  induction l with
  | nil => intro k; simp
  | cons a l ih =>
    intro k
    cases k with
    | zero => simp
    | succ k => simp [ih]
theorem erase_snoc {α : Type} (x : α) : ∀ (l : List α) (k : Nat),(l ++ [x]).eraseIdx k = if k = l.length then l.eraseIdx k else l.eraseIdx k ++ [x] := by
  intro l
  induction l with
  | nil =>
    intro k
    cases k with
    | zero => simp
    | succ k => simp
  | cons a l ih =>
    intro k
    cases k with
    | zero => simp
    | succ k =>
      have := ih k
      rw [List.cons_append,List.eraseIdx_cons_succ,this,List.length_cons,List.eraseIdx_cons_succ]
      by_cases e : k = l.length
      · rw [if_pos e,if_pos (by omega)]
      · rw [if_neg e,if_neg (by omega)]
        rfl
/-- the spots of the nodes of the proof of the leaf i of n. -/
def PSP (i n : Nat) : List (Nat × Nat) := WAYS i (RISE i n) ++ (SPAN 0 n).eraseIdx (KTH i n)
theorem PSP_places {i n : Nat} (hn : n ≤ 4611686018427387904) : PLCS (PSP i n) = WAY i (RISE i n) ++ (PEAKS n).eraseIdx (KTH i n) := by
  unfold PSP
  rw [PLCS_append,WAY_spots,PEAKS_spots hn]
  unfold PLCS
  rw [erase_map]
/-- the spots of the nodes of the proof that n leaves begin with m of them. -/
def PXS (m n : Nat) : List (Nat × Nat) := SPAN 0 m ++ SPAN m n
theorem PXS_tile {m n : Nat} (hmn : m ≤ n) (hn : n ≤ 4611686018427387904) : Tile 0 (PXS m n) n := (tile_span (by omega) (Nat.zero_le _)).append (tile_span hn hmn)
theorem PXS_places {m n : Nat} (hmn : m ≤ n) (hn : n ≤ 4611686018427387904) : PLCS (PXS m n) = PEAKS m ++ PLCS (SPAN m n) := by
  unfold PXS
  rw [PLCS_append,PEAKS_spots (by omega)]
theorem PXS_length {m n : Nat} (hmn : m ≤ n) (hn : n ≤ 4611686018427387904) : (PXS m n).length ≤ 188 := by
  have h1 := SPAN_zero_length (n := m) (by omega)
  have h2 := PC_lt_pow 64 m (by omega)
  have h3 := SPAN_length (a := m) hn
  unfold PXS
  rw [List.length_append]
  omega
theorem PSP_length {i n : Nat} (hi : i < n) (hn : n ≤ 4611686018427387904) : (PSP i n).length + 1 = RISE i n + PC n := by
  have h1 := KTH_lt hi hn
  have h2 := SPAN_zero_length hn
  unfold PSP
  rw [List.length_append,WAYS_length,List.length_eraseIdx,if_pos (by omega)]
  omega
theorem PSP_few {i n : Nat} (hi : i < n) (hn : n ≤ 4611686018427387904) : (PSP i n).length ≤ 126 := by
  have h1 := PSP_length hi hn
  have h2 := (RISE_spec hi hn).2.1
  have h3 := PC_lt_pow 64 n (by omega)
  omega
/-- two spots have no leaf together. -/
def Off (s t : Nat × Nat) : Prop := (s.2 + 1) * 2 ^ s.1 ≤ t.2 * 2 ^ t.1 ∨ (t.2 + 1) * 2 ^ t.1 ≤ s.2 * 2 ^ s.1
/-- how many leaves lie under spots. -/
def SIZE (l : List (Nat × Nat)) : Nat := (l.map fun s => 2 ^ s.1).sum
theorem SIZE_append (l m : List (Nat × Nat)) : SIZE (l ++ m) = SIZE l + SIZE m := by simp [SIZE]
theorem SIZE_snoc (l : List (Nat × Nat)) (s : Nat × Nat) : SIZE (l ++ [s]) = SIZE l + 2 ^ s.1 := by simp [SIZE]
theorem succ_pow (k h : Nat) : (k + 1) * 2 ^ h = k * 2 ^ h + 2 ^ h := by rw [Nat.add_mul,Nat.one_mul]
theorem Tile.size {l : List (Nat × Nat)} : ∀ {a b : Nat},Tile a l b → a + SIZE l = b := by
  induction l with
  | nil => intro a b h; have : a = b := h; simp [SIZE,this]
  | cons s l ih =>
    intro a b ⟨h1,h2,h3⟩
    have := ih h3
    rw [succ_pow,h2] at this
    simp only [SIZE,List.map_cons,List.sum_cons] at this ⊢
    omega
theorem Tile.within {l : List (Nat × Nat)} : ∀ {a b : Nat},Tile a l b → ∀ s ∈ l,a ≤ s.2 * 2 ^ s.1 ∧ (s.2 + 1) * 2 ^ s.1 ≤ b ∧ Node s.1 s.2 := by
  induction l with
  | nil => intro a b _ s hs; simp at hs
  | cons t l ih =>
    intro a b ⟨h1,h2,h3⟩ s hs
    rcases List.mem_cons.1 hs with rfl | hs
    · exact ⟨by omega,h3.bound.1,h1⟩
    · have := ih h3 s hs
      have h4 := succ_pow t.2 t.1
      have h5 := Nat.two_pow_pos t.1
      exact ⟨by omega,this.2⟩
theorem Tile.off {l : List (Nat × Nat)} : ∀ {a b : Nat},Tile a l b → l.Pairwise Off := by
  induction l with
  | nil => intro a b _; exact List.Pairwise.nil
  | cons t l ih =>
    intro a b ⟨h1,h2,h3⟩
    refine List.Pairwise.cons (fun s hs => ?_) (ih h3)
    exact .inl (h3.within s hs).1
theorem pow_split (i H : Nat) : i / 2 ^ H * 2 ^ H ≤ i ∧ i < (i / 2 ^ H + 1) * 2 ^ H := by
  have h1 := Nat.div_add_mod i (2 ^ H)
  have h2 := Nat.mod_lt i (Nat.two_pow_pos H)
  rw [Nat.mul_comm] at h1
  rw [succ_pow]
  omega
/-- the sibling and the node itself are the halves of the node over them. -/
theorem sib_halves (k h : Nat) : (SIB k % 2 ≠ k % 2) ∧ k / 2 * 2 ^ (h + 1) ≤ SIB k * 2 ^ h ∧ (SIB k + 1) * 2 ^ h ≤ (k / 2 + 1) * 2 ^ (h + 1) ∧ k / 2 * 2 ^ (h + 1) ≤ k * 2 ^ h ∧ (k + 1) * 2 ^ h ≤ (k / 2 + 1) * 2 ^ (h + 1) ∧ ((SIB k + 1) * 2 ^ h ≤ k * 2 ^ h ∨ (k + 1) * 2 ^ h ≤ SIB k * 2 ^ h) := by
  have e := pow_up h
  have up : ∀ m,m * 2 ^ (h + 1) = (2 * m) * 2 ^ h := fun m => by rw [e,Nat.mul_comm 2 m,Nat.mul_assoc]
  rw [up,up]
  have mono : ∀ {a b : Nat},a ≤ b → a * 2 ^ h ≤ b * 2 ^ h := fun hab => Nat.mul_le_mul_right _ hab
  unfold SIB
  split
  · exact ⟨by omega,mono (by omega),mono (by omega),mono (by omega),mono (by omega),.inl (mono (by omega))⟩
  · exact ⟨by omega,mono (by omega),mono (by omega),mono (by omega),mono (by omega),.inr (mono (by omega))⟩
theorem WAYS_within (i : Nat) : ∀ H, ∀ s ∈ WAYS i H,i / 2 ^ H * 2 ^ H ≤ s.2 * 2 ^ s.1 ∧ (s.2 + 1) * 2 ^ s.1 ≤ (i / 2 ^ H + 1) * 2 ^ H := by
  intro H
  induction H with
  | zero => intro s hs; simp [WAYS] at hs
  | succ H ih =>
    intro s hs
    rw [WAYS_succ,List.mem_append,List.mem_singleton] at hs
    have h1 := sib_halves (i / 2 ^ H) H
    rw [half_pow]
    rcases hs with hs | rfl
    · have := ih s hs
      omega
    · exact ⟨h1.2.1,h1.2.2.1⟩
theorem WAYS_off (i : Nat) : ∀ H,(WAYS i H).Pairwise Off := by
  intro H
  induction H with
  | zero => simp [WAYS]
  | succ H ih =>
    rw [WAYS_succ,List.pairwise_append]
    refine ⟨ih,by simp,fun s hs t ht => ?_⟩
    rw [List.mem_singleton] at ht
    subst ht
    have h1 := (sib_halves (i / 2 ^ H) H).2.2.2.2.2
    have h2 := WAYS_within i H s hs
    unfold Off
    dsimp only
    omega
theorem WAYS_size (i : Nat) : ∀ H,SIZE (WAYS i H) + 1 = 2 ^ H := by
  intro H
  induction H with
  | zero => simp [WAYS,SIZE]
  | succ H ih =>
    rw [WAYS_succ,SIZE_snoc,pow_up]
    dsimp only
    omega
theorem WAYS_leaf (i : Nat) : ∀ H, ∀ s ∈ WAYS i H, ¬ (s.2 * 2 ^ s.1 ≤ i ∧ i < (s.2 + 1) * 2 ^ s.1) := by
  intro H
  induction H with
  | zero => intro s hs; simp [WAYS] at hs
  | succ H ih =>
    intro s hs
    rw [WAYS_succ,List.mem_append,List.mem_singleton] at hs
    rcases hs with hs | rfl
    · exact ih s hs
    · have h1 := (sib_halves (i / 2 ^ H) H).2.2.2.2.2
      have h2 := pow_split i H
      dsimp only
      omega
theorem WAYS_node {i : Nat} (hi : i < 4611686018427387904) : ∀ H,H ≤ 62 → ∀ s ∈ WAYS i H,Node s.1 s.2 := by
  intro H hH s hs
  simp only [WAYS,List.mem_map,List.mem_range] at hs
  obtain ⟨h,hh,rfl⟩ := hs
  exact (Node.over hi h (by omega)).sib (by omega)
theorem node_lt {h k n : Nat} (hn : (k + 1) * 2 ^ h ≤ n) : PLC h k < NODES n := by
  have h1 := NODES_le hn
  have h2 := NODES_add ((k + 1) * 2 ^ h)
  rw [PC_shift] at h2
  have h3 := PLC_eq h k
  have h4 := PC_succ k
  have h5 : 2 ^ (h + 1) * (k + 1) = 2 * ((k + 1) * 2 ^ h) := by rw [pow_up,Nat.mul_assoc,Nat.mul_comm (2 ^ h)]
  omega
/-- the peak over the leaf. -/
theorem KTH_spot {i n : Nat} (hi : i < n) (hn : n ≤ 4611686018427387904) : (SPAN 0 n)[KTH i n]? = some (RISE i n,i / 2 ^ RISE i n) ∧ (PEAKS n).getD (KTH i n) 0 = PLC (RISE i n) (i / 2 ^ RISE i n) := by
  have h1 := KTH_at hi hn
  have h2 := KTH_lt hi hn
  have h3 := SPAN_zero_at hn h2
  have h4 : HGT n (KTH i n) = RISE i n := by simp [HGT,List.getD,h1]
  have h5 : KGT n (KTH i n) = i / 2 ^ RISE i n := by
    unfold KGT
    rw [h4]
    exact (RISE_spec hi hn).2.2.2.2.symm
  rw [h4,h5] at h3
  refine ⟨h3, ?_⟩
  rw [PEAKS_spots hn]
  exact PLCS_at h3
theorem Pairwise.at_lt {α : Type} {R : α → α → Prop} {l : List α} (h : l.Pairwise R) {a b : Nat} {x y : α} (hab : a < b) (ha : l[a]? = some x) (hb : l[b]? = some y) : R x y := by
  obtain ⟨h1,rfl⟩ := List.getElem?_eq_some_iff.1 ha
  obtain ⟨h2,rfl⟩ := List.getElem?_eq_some_iff.1 hb
  exact (List.pairwise_iff_getElem.1 h) a b h1 h2 hab
theorem erase_mem {α : Type} {l : List α} {k : Nat} {x : α} (h : x ∈ l.eraseIdx k) : ∃ j,j ≠ k ∧ l[j]? = some x := by
  obtain ⟨j,hj⟩ := List.mem_iff_getElem?.1 h
  rw [List.getElem?_eraseIdx] at hj
  split at hj
  · exact ⟨j,by omega,hj⟩
  · exact ⟨j + 1,by omega,hj⟩
theorem off_symm {s t : Nat × Nat} (h : Off s t) : Off t s := h.elim .inr .inl
theorem erase_size : ∀ (l : List (Nat × Nat)) (k : Nat) (s : Nat × Nat),l[k]? = some s → SIZE (l.eraseIdx k) + 2 ^ s.1 = SIZE l := by
  intro l
  induction l with
  | nil => intro k s h; simp at h
  | cons a l ih =>
    intro k s h
    cases k with
    | zero =>
      simp at h
      subst h
      simp [SIZE]
      omega
    | succ k =>
      have := ih k s (by simpa using h)
      simp only [SIZE,List.eraseIdx_cons_succ,List.map_cons,List.sum_cons] at this ⊢
      omega
/-- what the nodes of a proof are: nodes of the forest, none over the leaf, no two over one leaf, all others under them. -/
theorem PSP_spec {i n : Nat} (hi : i < n) (hn : n ≤ 4611686018427387904) :
    (∀ s ∈ PSP i n,Node s.1 s.2 ∧ PLC s.1 s.2 < NODES n ∧ ¬ (s.2 * 2 ^ s.1 ≤ i ∧ i < (s.2 + 1) * 2 ^ s.1)) ∧ (PSP i n).Pairwise Off ∧ SIZE (PSP i n) + 1 = n := by
  obtain ⟨hK,_⟩ := KTH_spot hi hn
  have h62 := (RISE_spec hi hn).2.1
  have hT := tile_span hn (Nat.zero_le n)
  have hp := pow_split i (RISE i n)
  have hin := hT.within _ (List.mem_of_getElem? hK)
  dsimp only at hin
  have hoff := hT.off
  have hother : ∀ s ∈ (SPAN 0 n).eraseIdx (KTH i n),Off s (RISE i n,i / 2 ^ RISE i n) := by
    intro s hs
    obtain ⟨j,hj,e⟩ := erase_mem hs
    rcases Nat.lt_or_ge j (KTH i n) with h | h
    · exact Pairwise.at_lt hoff h e hK
    · exact off_symm (Pairwise.at_lt hoff (by omega : KTH i n < j) hK e)
  refine ⟨fun s hs => ?_, ?_, ?_⟩
  · unfold PSP at hs
    rcases List.mem_append.1 hs with hs | hs
    · have h1 := WAYS_within i _ s hs
      exact ⟨WAYS_node (by omega) _ h62 s hs,node_lt (by omega),WAYS_leaf i _ s hs⟩
    · have h1 := hT.within s (List.mem_of_mem_eraseIdx hs)
      have h2 := hother s hs
      unfold Off at h2
      dsimp only at h2
      exact ⟨h1.2.2,node_lt h1.2.1,by omega⟩
  · unfold PSP
    rw [List.pairwise_append]
    refine ⟨WAYS_off i _,hoff.sublist (List.eraseIdx_sublist _ _),fun s hs t ht => ?_⟩
    have h1 := WAYS_within i _ s hs
    have h2 := hother t ht
    unfold Off at h2 ⊢
    dsimp only at h2
    omega
  · unfold PSP
    rw [SIZE_append]
    have h1 := WAYS_size i (RISE i n)
    have h2 := erase_size _ _ _ hK
    have h3 := hT.size
    dsimp only at h2
    omega
end Go.Proofs.YtkcfhgflgkejoaaGreatDoor

/- What the document's answers for layer 3 give: Power, Nodes, Leaf, Leaves. -/
namespace Go.Proofs.YtkcfhgflgkejoaaGreatDoor
open Go.RowKit

theorem power_ok (n : Nat) (hn : n < 64) (w : World) : Calls Tryz.prog 64 #[.int .i64 (n : Int)] w fun e w' => e = .returned (.int .u64 ((2 ^ n : Nat) : Int)) ∧ w = w' := by
  have HN : Aside (n < 64) := hn
  clear hn
  go_enter Tryz.func64,Tryz.ntmps64
  go_wp2
  go_loopg [3,4] n (fun g s3 s4 wx => ∃ i v : Nat,s3 = .int .u64 (v : Int) ∧ s4 = .int .i64 (i : Int) ∧ Aside (v = 2 ^ i ∧ i + g = n) ∧ wx = w)
  case atStart => exact ⟨0,1,rfl,rfl,⟨rfl,by omega⟩,rfl⟩
  case round =>
    obtain ⟨i,v,rfl,rfl,A,hw⟩ := hrel
    subst hw
    cases gk with
    | zero =>
      have hi : ¬ (i : Int) < (n : Int) := by have := A.out.2; omega
      go_wp2
      go_ret
      obtain ⟨r1,r2⟩ := A.out
      refine ⟨?_,rfl⟩
      rw [r1,show i = n by omega]
      rfl
    | succ g =>
      have hi : (i : Int) < (n : Int) := by have := A.out.2; omega
      go_wp2
      go_roundg g
      case measure => omega
      case rel =>
        obtain ⟨r1,r2⟩ := A.out
        have h64 := HN.out
        have hp : 2 ^ (i + 1) ≤ 2 ^ 63 := Nat.pow_le_pow_right (by decide) (by omega)
        refine ⟨i + 1,2 ^ (i + 1), ?_, ?_,⟨rfl,by omega⟩,rfl⟩
        · congr 1
          rw [wrapU,r1]
          rw [Nat.pow_succ] at hp ⊢
          omega
        · congr 1
          unfold wrap64
          omega
theorem refnodes_ok (n : Nat) (hn : n ≤ 4611686018427387904) (w : World) : Calls Tryz.prog 127 #[.int .u64 (n : Int)] w fun e w' => e = .returned (.tuple #[.int .u64 ((NODES n : Nat) : Int),.bool true]) ∧ w = w' := by
  have HN : Aside (n ≤ 4611686018427387904) := hn
  have hd : ¬ (4611686018427387904 : Int) < (n : Int) := by omega
  clear hn
  go_enter Tryz.func127,Tryz.ntmps127
  go_wp2
  go_loopg [0,4] n (fun g s0 s4 wx => ∃ v : Nat,s0 = .int .u64 (g : Int) ∧ s4 = .int .u64 (v : Int) ∧ Aside (v + NODES g = NODES n) ∧ wx = w)
  case atStart => exact ⟨0,rfl,rfl,by unfold Aside; omega,rfl⟩
  case round =>
    obtain ⟨v,rfl,rfl,A,hw⟩ := hrel
    subst hw
    cases gk with
    | zero =>
      go_wp2
      go_ret2
      have r1 := A.out
      rw [NODES_zero] at r1
      refine ⟨?_,rfl⟩
      rw [← r1]
      rfl
    | succ g =>
      have hi : (0 : Int) < (((g + 1 : Nat)) : Int) := by omega
      have e1 : Aside (IntKind.u64.wrap ((v : Int) + ((g + 1 : Nat) : Int)) = ((v + (g + 1) : Nat) : Int)) := by
        have h1 := NODES_half (g + 1)
        have h2 := A.out
        have h3 := NODES_top HN.out
        unfold Aside
        rw [wrapU]
        omega
      have e2 : Aside (IntKind.u64.wrap (((g + 1 : Nat) : Int) / 2) = (((g + 1) / 2 : Nat) : Int)) := by
        have h1 := NODES_ge (g + 1)
        have h2 := A.out
        have h3 := NODES_top HN.out
        unfold Aside
        rw [wrapU]
        omega
      generalize hG : g + 1 = G at *
      go_wp2
      go_roundg (G / 2)
      case measure => omega
      case rel =>
        refine ⟨v + G, ?_, ?_, ?_,rfl⟩
        · first | rfl | (congr 1; omega) | (rw [e2.out])
        · rw [e1.out]
        · have h1 := NODES_half G
          have h2 := A.out
          unfold Aside
          omega
end Go.Proofs.YtkcfhgflgkejoaaGreatDoor

/- What the document's Spot gives. -/
namespace Go.Proofs.YtkcfhgflgkejoaaGreatDoor
open Go.RowKit

theorem refspot_not (p : Int) (hp : 9223372036854775807 ≤ p) (w : World) : Calls Tryz.prog 128 #[.int .u64 p] w fun e w' => e = .returned (.tuple #[SPOT 0 0,.bool false]) ∧ Below w.heap.size w w' := by
  have c1 := power_ok 62 (by omega)
  rw [show (((2 ^ 62 : Nat) : Int)) = 4611686018427387904 by decide,show (((62 : Nat) : Int)) = 62 from rfl] at c1
  have hd : (9223372036854775806 : Int) < p := by omega
  go_enter Tryz.func128,Tryz.ntmps128
  go_wp2_with fail
  refine (c1 _).mono ?_
  rintro e w' ⟨rfl,rfl⟩
  clear c1
  go_wp2
  refine bodyPost_ret (v := .tuple #[SPOT 0 0,.bool false]) ?_ rfl ⟨rfl,(Below.refl _ _).alloc (Nat.le_refl _) _⟩
  simp [results,Tryz.f128,go_sem]
theorem wr_add {a b c : Nat} (h : a + b = c) (hc : c < 2 ^ 64) : IntKind.u64.wrap ((a : Int) + (b : Int)) = (c : Int) := by rw [wrapU]; omega
theorem wr_inc {a c : Nat} (h : a + 1 = c) (hc : c < 2 ^ 64) : IntKind.u64.wrap ((a : Int) + 1) = (c : Int) := by rw [wrapU]; omega
theorem wr_dec {a c : Nat} (h : c + 1 = a) (hc : c < 2 ^ 64) : IntKind.u64.wrap ((a : Int) - 1) = (c : Int) := by rw [wrapU]; omega
theorem wr_two {a c : Nat} (h : 2 * a = c) (hc : c < 2 ^ 64) : IntKind.u64.wrap (2 * (a : Int)) = (c : Int) := by rw [wrapU]; omega
theorem wr_half {a c : Nat} (h : 2 * c = a) (hc : c < 2 ^ 64) : IntKind.u64.wrap ((a : Int) / 2) = (c : Int) := by rw [wrapU]; omega
theorem half_int {a c : Nat} (h : 2 * c = a) : (a : Int) / 2 = (c : Int) := by omega
/-- one step down from the node (g + 1, m), which p stands under. -/
theorem rs_plain {g m b p z1 bz : Nat} (hg : g + 1 ≤ 62) (hN : Node (g + 1) m) (hb : b = NODES (m * 2 ^ (g + 1))) (hbp : b ≤ p) (hpu : p + 2 ≤ b + 2 ^ (g + 1 + 1)) (hz : 2 ^ (g + 1) = z1 + 1) (hbz : b + z1 = bz) (hT : p ≠ b + 2 * z1) :
    Node g (2 * m) ∧ Node g (2 * m + 1) ∧ b = NODES (2 * m * 2 ^ g) ∧ bz = NODES ((2 * m + 1) * 2 ^ g) ∧ (bz ≤ p → p + 2 ≤ bz + 2 ^ (g + 1)) ∧ (p < bz → p + 2 ≤ b + 2 ^ (g + 1)) := by
  have h2 := hN.2
  have e : 2 ^ (62 - g) = 2 ^ (62 - (g + 1)) * 2 := by rw [← Nat.pow_succ]; congr 1; omega
  have e2 : 2 ^ (g + 1 + 1) = 2 * (z1 + 1) := by rw [Nat.pow_succ,hz,Nat.mul_comm]
  refine ⟨⟨by omega,by rw [e]; omega⟩,⟨by omega,by rw [e]; omega⟩,by rw [hb,double_pow], ?_,fun h => by omega,fun h => by omega⟩
  rw [NODES_plus,double_pow, ← hb]
  unfold TREE
  omega
theorem refspot_ok (h k : Nat) (hN : Node h k) (w : World) : Calls Tryz.prog 128 #[.int .u64 ((PLC h k : Nat) : Int)] w fun e w' => e = .returned (.tuple #[SPOT h k,.bool true]) ∧ Below w.heap.size w w' := by
  have hp := hN.lt
  obtain ⟨p,hpe⟩ : ∃ p,p = PLC h k := ⟨_,rfl⟩
  rw [← hpe] at hp ⊢
  have HN : Aside (Node h k ∧ p = PLC h k ∧ p < 9223372036854775807) := ⟨hN,hpe,hp⟩
  have c1 := power_ok 62 (by omega)
  rw [show (((2 ^ 62 : Nat) : Int)) = 4611686018427387904 by decide,show (((62 : Nat) : Int)) = 62 from rfl] at c1
  have hd : ¬ (9223372036854775806 : Int) < (p : Int) := by omega
  clear hN hpe hp
  go_enter Tryz.func128,Tryz.ntmps128
  go_wp2_with fail
  refine (c1 _).mono ?_
  rintro e w' ⟨rfl,rfl⟩
  clear c1
  go_wp2
  go_loopg [4,5,6] 62 (fun g s4 s5 s6 wx => ∃ b m : Nat,s4 = .int .u64 (b : Int) ∧ s5 = .int .i64 (g : Int) ∧ s6 = .int .u64 (m : Int) ∧ Aside (wx = w.alloc (.cells #[.int .u8 0,.int .u64 0] 64) ∧ g ≤ 62 ∧ b = NODES (m * 2 ^ g) ∧ Node g m ∧ b ≤ p ∧ p + 2 ≤ b + 2 ^ (g + 1)))
  case atStart => exact ⟨0,0,rfl,rfl,rfl,rfl,by omega,by simp [NODES_zero],⟨by omega,by simp⟩,by omega,by have := HN.out.2.2; omega⟩
  case round =>
    obtain ⟨b,m,rfl,rfl,rfl,A⟩ := hrel
    obtain ⟨hw,hg,hb,hNm,hbp,hpu⟩ := A.out
    clear A
    have hpl : 2 ^ gk ≤ 2 ^ 62 := Nat.pow_le_pow_right (by decide) hg
    obtain ⟨z1,hz⟩ : ∃ z1,2 ^ gk = z1 + 1 := ⟨2 ^ gk - 1,by have := Nat.two_pow_pos gk; omega⟩
    have c1 := power_ok gk (by omega)
    rw [hz] at c1 hpl
    have hbl : b < 9223372036854775807 := by have := HN.out.2.2; omega
    obtain ⟨u,hu⟩ : ∃ u,2 * z1 = u := ⟨_,rfl⟩
    obtain ⟨bu,hbu⟩ : ∃ bu,b + u = bu := ⟨_,rfl⟩
    have e1 : IntKind.u64.wrap (((z1 + 1 : Nat) : Int) - 1) = (z1 : Int) := wr_dec rfl (by omega)
    have e1' : IntKind.u64.wrap (z1 : Int) = (z1 : Int) := by rw [wrapU]; omega
    rw [show ((z1 + 1 : Nat) : Int) = (z1 : Int) + 1 by omega] at c1 e1
    have e2 : IntKind.u64.wrap (2 * (z1 : Int)) = (u : Int) := wr_two hu (by omega)
    have e3 : IntKind.u64.wrap ((b : Int) + (u : Int)) = (bu : Int) := wr_add hbu (by omega)
    by_cases hT : p = bu
    · have hmk : h = gk ∧ k = m := by
        refine HN.out.1.one hNm ?_
        rw [← HN.out.2.1]
        unfold PLC
        rw [hz] at hb
        rw [Nat.pow_succ,hz, ← hb]
        omega
      obtain ⟨rfl,rfl⟩ := hmk
      have hT' : ((p : Int) == (bu : Int)) = true := by simp; omega
      have hh : (h : Int) % 256 = (h : Int) := by omega
      clear hg hb hNm hbp hpu HN hpl hbl hz hu hbu hT
      subst hw
      go_wp2_with fail
      refine (c1 _).mono ?_
      rintro e w' ⟨rfl,rfl⟩
      clear c1
      go_wp2
      refine bodyPost_ret (v := .tuple #[SPOT h k,.bool true]) ?_ rfl ⟨rfl,(Below.refl _ _).alloc (Nat.le_refl _) _⟩
      simp [results,Tryz.f128,go_sem]
    · have hT' : ((p : Int) == (bu : Int)) = false := by simp; omega
      have h1 : 1 ≤ gk := by
        rcases Nat.eq_zero_or_pos gk with h0 | h0
        · subst h0
          simp at hz
          omega
        · exact h0
      obtain ⟨g,rfl⟩ : ∃ g,gk = g + 1 := ⟨gk - 1,by omega⟩
      have hm62 := hNm.index_lt
      obtain ⟨bz,hbz⟩ : ∃ bz,b + z1 = bz := ⟨_,rfl⟩
      obtain ⟨m2,hm2⟩ : ∃ m2,2 * m = m2 := ⟨_,rfl⟩
      obtain ⟨m3,hm3⟩ : ∃ m3,m2 + 1 = m3 := ⟨_,rfl⟩
      have RR := rs_plain hg hNm hb hbp hpu hz hbz (by omega)
      rw [hm2,hm3] at RR
      have e4 : IntKind.u64.wrap (2 * (m : Int)) = (m2 : Int) := wr_two hm2 (by omega)
      have e5 : IntKind.u64.wrap ((u : Int) / 2) = (z1 : Int) := wr_half hu (by omega)
      have e5' : (u : Int) / 2 = (z1 : Int) := half_int hu
      have e6 : wrap64 (g : Int) = (g : Int) := by unfold wrap64; omega
      have e7 : IntKind.u64.wrap ((b : Int) + (z1 : Int)) = (bz : Int) := wr_add hbz (by omega)
      have e8 : IntKind.u64.wrap ((m2 : Int) + 1) = (m3 : Int) := wr_inc hm3 (by omega)
      have R : Aside (wr = w.alloc (.cells #[.int .u8 0,.int .u64 0] 64) ∧ g + 1 ≤ 62 ∧ b ≤ p ∧ Node g m2 ∧ Node g m3 ∧ b = NODES (m2 * 2 ^ g) ∧ bz = NODES (m3 * 2 ^ g) ∧ (bz ≤ p → p + 2 ≤ bz + 2 ^ (g + 1)) ∧ (p < bz → p + 2 ≤ b + 2 ^ (g + 1))) := ⟨hw,hg,hbp,RR⟩
      rw [show (((g + 1 : Nat) : Int)) = (g : Int) + 1 by omega] at c1 ⊢
      clear RR hw hg hNm hbp hb hpu hT hz hbz hbu hu HN hpl hbl h1 hm62 hm2 hm3 hd
      by_cases hlt : bz ≤ p
      · have hd3 : (bz : Int) ≤ (p : Int) := by omega
        have R2 : Aside (bz ≤ p) := hlt
        clear hlt
        go_wp2_with fail
        refine (c1 _).mono ?_
        rintro e w' ⟨rfl,rfl⟩
        clear c1
        go_wp2
        go_roundg g
        case measure => omega
        case rel =>
          obtain ⟨r1,r2,r3,r4,r5,r6,r7,r8,r9⟩ := R.out
          have s1 := R2.out
          rw [e6]
          exact ⟨bz,m3,rfl,rfl,rfl,r1,by omega,r7,r5,s1,r8 s1⟩
      · have hd3 : ¬ (bz : Int) ≤ (p : Int) := by omega
        have R2 : Aside (p < bz) := by unfold Aside; omega
        clear hlt
        go_wp2_with fail
        refine (c1 _).mono ?_
        rintro e w' ⟨rfl,rfl⟩
        clear c1
        go_wp2
        go_roundg g
        case measure => omega
        case rel =>
          obtain ⟨r1,r2,r3,r4,r5,r6,r7,r8,r9⟩ := R.out
          have s1 := R2.out
          rw [e6]
          exact ⟨b,m2,rfl,rfl,rfl,r1,by omega,r6,r4,r3,r9 s1⟩
end Go.Proofs.YtkcfhgflgkejoaaGreatDoor

/- What the document's answers give for a node's kin. -/
namespace Go.Proofs.YtkcfhgflgkejoaaGreatDoor
open Go.RowKit

/-- the document's Spot answers so at p. -/
def RefAt (p : Int) (h k : Nat) (ok : Bool) : Prop := ∀ w,Calls Tryz.prog 128 #[.int .u64 p] w fun e w' => e = .returned (.tuple #[SPOT h k,.bool ok]) ∧ Below w.heap.size w w'
theorem RefAt.node {h k : Nat} (hN : Node h k) : RefAt ((PLC h k : Nat) : Int) h k true := fun w => refspot_ok h k hN w
theorem RefAt.out {p : Int} (hp : 9223372036854775807 ≤ p) : RefAt p 0 0 false := fun w => refspot_not p hp w
theorem refplace_raw (h k : Nat) (t z y l a r : Int) (w : World) (hh : h ≤ 62) (hm : wrap64 (h : Int) = (h : Int)) (hm2 : IntKind.u64.wrap (h : Int) = (h : Int)) (ht : wrap64 (62 - (h : Int)) = t) (hk : decide (y ≤ (k : Int)) = false)
    (cy : ∀ w,Calls Tryz.prog 64 #[.int .i64 t] w fun e w' => e = .returned (.int .u64 y) ∧ w = w') (cz : ∀ w,Calls Tryz.prog 64 #[.int .i64 (h : Int)] w fun e w' => e = .returned (.int .u64 z) ∧ w = w')
    (e0 : IntKind.u64.wrap ((k : Int) + 1) = (k : Int) + 1) (e1 : IntKind.u64.wrap (IntKind.u64.wrap (((k : Int) + 1) * z) - 1) = l) (ca : ∀ w,Calls Tryz.prog 127 #[.int .u64 l] w fun e w' => e = .returned (.tuple #[.int .u64 a,.bool true]) ∧ w = w') (e2 : IntKind.u64.wrap (a + (h : Int)) = r) :
    Calls Tryz.prog 113 #[SPOT h k] w fun e w' => e = .returned (.tuple #[.int .u64 r,.bool true]) ∧ Below w.heap.size w w' := by
  have hd : decide ((62 : Int) < (h : Int)) = false := by simp; omega
  go_enter Tryz.func113,Tryz.ntmps113
  go_wp2
  have hc0 : (w.alloc (.cells #[.int .u8 (h : Int),.int .u64 (k : Int)] 64)).cell? ⟨w.heap.size,0,none⟩ = some (.int .u8 (h : Int)) := by simp
  have hc1 : (w.alloc (.cells #[.int .u8 (h : Int),.int .u64 (k : Int)] 64)).cell? ⟨w.heap.size,1,none⟩ = some (.int .u64 (k : Int)) := by simp
  have R2 : Aside (Below w.heap.size w (w.alloc (.cells #[.int .u8 (h : Int),.int .u64 (k : Int)] 64))) := (Below.refl _ _).alloc (Nat.le_refl _) _
  generalize w.alloc (.cells #[.int .u8 (h : Int),.int .u64 (k : Int)] 64) = W at *
  generalize hb : w.heap.size = b at *
  clear hh
  go_quiet ((go_at_call 64; exact quiet_eq (cy _)))
  have R3 : Aside (Below b w (W.drewN nq)) := below_drewN R2.out nq
  have hc0' : (W.drewN nq).cell? ⟨b,0,none⟩ = some (.int .u8 (h : Int)) := hc0
  have hc1' : (W.drewN nq).cell? ⟨b,1,none⟩ = some (.int .u64 (k : Int)) := hc1
  clear hc0 hc1 R2 cy
  generalize W.drewN nq = W2 at *
  go_wp2
  go_quiet (first | (go_at_call 64; exact quiet_eq (cz _)) | (go_at_call 127; exact quiet_eq (ca _)))
  go_wp2
  go_ret2
  exact ⟨rfl,by rw [hb]; exact below_drewN R3.out _⟩
theorem refplace_ok (h k : Nat) (hN : Node h k) (w : World) : Calls Tryz.prog 113 #[SPOT h k] w fun e w' => e = .returned (.tuple #[.int .u64 ((PLC h k : Nat) : Int),.bool true]) ∧ Below w.heap.size w w' := by
  have h1 := hN.1
  have h2 := hN.2
  have h3 := hN.span
  have h4 := hN.index_lt
  have h5 := hN.lt
  have h7 := PLC_last h k
  have h8 := last_lt h k
  refine refplace_raw h k ((62 - h : Nat) : Int) ((2 ^ h : Nat) : Int) ((2 ^ (62 - h) : Nat) : Int) (((k + 1) * 2 ^ h - 1 : Nat) : Int) ((NODES ((k + 1) * 2 ^ h - 1) : Nat) : Int) _ w h1 (by unfold wrap64; omega) (by rw [wrapU]; omega) (by unfold wrap64; omega) (by simp only [decide_eq_false_iff_not]; omega) (fun w => power_ok _ (by omega) w) (fun w => power_ok _ (by omega) w) (by rw [wrapU]; omega) ?_ (fun w => refnodes_ok _ (by omega) w) ?_
  · rw [show (((k : Int) + 1) * ((2 ^ h : Nat) : Int)) = (((k + 1) * 2 ^ h : Nat) : Int) by rw [Int.natCast_mul]; rfl]
    generalize (k + 1) * 2 ^ h = x at *
    rw [wrapU,wrapU]
    omega
  · rw [wrapU]
    omega
end Go.Proofs.YtkcfhgflgkejoaaGreatDoor
