/- Texts of ProofWrites, one behind the other: ProofOwned, ProofFours, ProofFoursMore, NumRefBytes. -/
import Derived.Test.YtfjmbfppilfepaaDoorProofWritesP18
import Derived.Test.YtfjmbfppilfepaaDoorProofWritesP21
import Derived.Test.YtfjmbfppilfepaaDoorProofWritesP23
import Derived.Test.YtfjmbfppilfepaaDoorProofWritesP26
/- What is read stands in rows of one's own; families of such rows, none in another's block. -/
namespace Go.Proofs.YtfjmbfppilfepaaDoor
open Go.RowKit
set_option maxRecDepth 100000

theorem DC3_err (PF : Nat → Nat → Int × List Nat) (X Y : Nat) (t : List Int) : DC3 PF X Y t = DERR (DC3 PF X Y t).1 ∨ (DC3 PF X Y t).1 = 0 := by
  unfold DC3
  split
  · exact .inl rfl
  · split
    · exact .inl rfl
    · split
      · exact .inl rfl
      · exact .inr rfl
theorem DC2_err (PF : Nat → Nat → Int × List Nat) (X : Nat) (t : List Int) : DC2 PF X t = DERR (DC2 PF X t).1 ∨ (DC2 PF X t).1 = 0 := by
  unfold DC2
  split
  · exact .inl rfl
  · exact DC3_err _ _ _ _
theorem DC1_err (chk : Nat → Bool) (PF : Nat → Nat → Int × List Nat) (t : List Int) : DC1 chk PF t = DERR (DC1 chk PF t).1 ∨ (DC1 chk PF t).1 = 0 := by
  unfold DC1
  split
  · exact .inl rfl
  · split
    · exact .inl rfl
    · exact DC2_err _ _ _
theorem DC0_err {K : Int} {chk : Nat → Bool} {PF : Nat → Nat → Int × List Nat} {l : List Int} (h : (DC0 K chk PF l).1 ≠ 0) : DC0 K chk PF l = DERR (DC0 K chk PF l).1 := by
  have : DC0 K chk PF l = DERR (DC0 K chk PF l).1 ∨ (DC0 K chk PF l).1 = 0 := by
    unfold DC0
    split
    · exact .inl rfl
    · split
      · exact .inl rfl
      · exact DC1_err _ _ _
  rcases this with h1 | h1
  · exact h1
  · exact absurd h1 h
theorem own_of_has {w : World} {B g N : Nat} {l : List Int} (h : Has w g (CELLS l).toArray 53) (hl : l.length = 32 * N) (hB : B ≤ g) (hN : N ≤ 1000) : w.ownsRow B 53 32 (.slice (some ⟨g, 0, none⟩) N N) N (CELLS l) := by
  refine ⟨by rw [CELLS, List.length_map, hl, Nat.mul_comm], .inr ⟨g, N, _, rfl, hB, h, Nat.le_refl _, by simp [maxLen]; omega, ?_, ?_⟩⟩
  · simp [CELLS, hl, Nat.mul_comm]
  · rw [List.take_of_length_le (by simp [CELLS, hl]; omega)]
/-- a proof is answered, its nodes in a row of one's own; or an error, and all is zero. -/
def DECO (w : World) (D : DANS) (e : Ending) (w' : World) : Prop :=
  ∃ a c, e = .returned (.tuple #[.agg #[.int .u64 (D.2.1 : Int), .int .u64 (D.2.2.1 : Int), .slice a D.2.2.2.1 c], .int .i64 D.1]) ∧ w'.ownsRow w.heap.size 53 32 (.slice a D.2.2.2.1 c) D.2.2.2.1 (CELLS D.2.2.2.2) ∧ (∀ x ∈ D.2.2.2.2, 0 ≤ x ∧ x ≤ 255) ∧ Below w.heap.size w w'
theorem DECD.own {w w' : World} {K : Int} {chk : Nat → Bool} {PF : Nat → Nat → Int × List Nat} {l : List Int} {e : Ending} (h : DECD w (DC0 K chk PF l) e w') (hf : (DC0 K chk PF l).1 = 0 → (DC0 K chk PF l).2.2.2.1 ≤ 1000) : DECO w (DC0 K chk PF l) e w' := by
  obtain ⟨v, rfl, hb, h⟩ := h
  rcases h with ⟨hE, rfl⟩ | ⟨hE, h1, h2, h3, h4, g, rfl, hg, hh⟩
  · have hD := DC0_err hE
    rw [hD]
    refine ⟨none, 0, rfl, World.ownsRow_nil _ _ _ _, by simp [DERR], hb⟩
  · exact ⟨_, _, rfl, own_of_has hh h3 hg (hf hE), h4, hb⟩
theorem DEC_few {l : List Int} (hr : ∀ x ∈ l, 0 ≤ x ∧ x ≤ 255) (h : (DEC l).1 = 0) : (DEC l).2.2.2.1 ≤ 188 := by
  obtain ⟨E, S, I, N, t, hD⟩ : ∃ E S I N t, DEC l = (E, S, I, N, t) := ⟨_, _, _, _, _, rfl⟩
  rw [hD] at h ⊢
  obtain rfl : E = 0 := h
  obtain ⟨_, _, _, _, h5, _⟩ := DC_back hr hD
  have := PLA_few I S
  show N ≤ 188
  omega
theorem DEX_few {l : List Int} (hr : ∀ x ∈ l, 0 ≤ x ∧ x ≤ 255) (h : (DEX l).1 = 0) : (DEX l).2.2.2.1 ≤ 188 := by
  obtain ⟨E, S, I, N, t, hD⟩ : ∃ E S I N t, DEX l = (E, S, I, N, t) := ⟨_, _, _, _, _, rfl⟩
  rw [hD] at h ⊢
  obtain rfl : E = 0 := h
  obtain ⟨_, _, _, _, h5, _⟩ := DC_back hr hD
  have := PPA_few S I
  show N ≤ 188
  omega
theorem DC0_few {K : Int} {chk : Nat → Bool} {PF : Nat → Nat → Int × List Nat} {l : List Int} {k : Nat} (h : (DC0 K chk PF l).1 = 0 → (DC0 K chk PF l).2.2.2.1 ≤ k) : (DC0 K chk PF l).2.2.2.1 ≤ k := by
  by_cases hE : (DC0 K chk PF l).1 = 0
  · exact h hE
  · rw [DC0_err hE]
    exact Nat.zero_le _
theorem decode_own (a : Option Addr) (n c : Nat) (hn : n ≤ 1000000) (l : List Int) (w : World) (hB : Bytes w a n l) (hc : n ≤ c) (hT : Tabled w) (h0 : 0 < w.heap.size) : Calls Tryd.prog 9 #[.slice a n c] w (DECO w (DEC l)) :=
  (decode_ok a n c hn l w hB hc hT h0).mono fun _ _ h => DECD.own h fun hE => Nat.le_trans (DEC_few hB.2.2 hE) (by decide)
theorem decodeprefix_own (a : Option Addr) (n c : Nat) (hn : n ≤ 1000000) (l : List Int) (w : World) (hB : Bytes w a n l) (hc : n ≤ c) (hT : Tabled w) (h0 : 0 < w.heap.size) : Calls Tryd.prog 13 #[.slice a n c] w (DECO w (DEX l)) :=
  (decodeprefix_ok a n c hn l w hB hc hT h0).mono fun _ _ h => DECD.own h fun hE => Nat.le_trans (DEX_few hB.2.2 hE) (by decide)
/-- M rows of one's own, of one kind, none in another's block, none in a block of K. -/
structure FAM (M : Nat) (t : TypeId) (s : Nat) (w : World) (B : Nat) (K : Nat → Prop) (v : Nat → Value) (n : Nat → Nat) (xs : Nat → List Value) : Prop where
  row : ∀ x, x < M → w.ownsRow B t s (v x) (n x) (xs x)
  apart : ∀ x y, x < M → y < M → x ≠ y → ∀ g, (v x).ownBlock = some g → (v y).ownBlock ≠ some g
  off : ∀ x, x < M → ∀ g, (v x).ownBlock = some g → ¬ K g
theorem FAM.below {M : Nat} {t : TypeId} {s : Nat} {w w' : World} {B : Nat} {K : Nat → Prop} {v : Nat → Value} {n : Nat → Nat} {xs : Nat → List Value} (h : FAM M t s w B K v n xs) (hb : Below w.heap.size w w') : FAM M t s w' B K v n xs := ⟨fun x hx => own_below (h.row x hx) hb, h.apart, h.off⟩
theorem FAM.heap {M : Nat} {t : TypeId} {s : Nat} {w w' : World} {B : Nat} {K : Nat → Prop} {v : Nat → Value} {n : Nat → Nat} {xs : Nat → List Value} (h : FAM M t s w B K v n xs) (hk : ∀ k, k < w.heap.size → ¬ K k → w'.heap[k]? = w.heap[k]?) : FAM M t s w' B K v n xs := ⟨fun x hx => own_heap (h.row x hx) fun k e => hk k ((h.row x hx).lt k e).2 (h.off x hx k e), h.apart, h.off⟩
/-- one of them is turned. -/
theorem FAM.turn {M : Nat} {t : TypeId} {s : Nat} {w w' : World} {B : Nat} {K : Nat → Prop} {v : Nat → Value} {n : Nat → Nat} {xs : Nat → List Value} (h : FAM M t s w B K v n xs) {x g m c : Nat} {ys : List Value} (hx : x < M) (hK : ∀ k, K k → k < w.heap.size)
    (hown : w'.ownsRow B t s (.slice (some ⟨g, 0, none⟩) m c) m ys) (hg : w.grownBy w' (v x).ownBlock) (hat : (v x).ownBlock = some g ∨ w.heap.size ≤ g) : FAM M t s w' B K (UPD v x (.slice (some ⟨g, 0, none⟩) m c)) (UPD n x m) (UPD xs x ys) ∧ ∀ k, K k → w'.heap[k]? = w.heap[k]? := by
  have hgx : ∀ y, y < M → y ≠ x → (v y).ownBlock ≠ some g := fun y hy hne e => by
    rcases hat with h1 | h1
    · exact h.apart x y hx hy (fun e => hne e.symm) g h1 e
    · have := ((h.row y hy).lt g e).2
      omega
  refine ⟨⟨fun y hy => ?_, fun y z hy hz hne k e => ?_, fun y hy k e hk => ?_⟩, fun k hk => hg.block k (hK k hk) fun e => h.off x hx k e.symm hk⟩
  · by_cases e : y = x
    · subst e
      rw [UPD_at, UPD_at, UPD_at]
      exact hown
    · rw [UPD_other _ _ e, UPD_other _ _ e, UPD_other _ _ e]
      exact own_heap (h.row y hy) fun k hk => hg.block k ((h.row y hy).lt k hk).2 fun e2 => h.apart x y hx hy (fun e3 => e e3.symm) k e2.symm hk
  · by_cases e1 : y = x
    · subst e1
      rw [UPD_at] at e
      have e : g = k := by simpa [Value.ownBlock] using e
      subst e
      rw [UPD_other _ _ (fun e2 => hne e2.symm)]
      exact hgx z hz fun e2 => hne e2.symm
    · rw [UPD_other _ _ e1] at e
      by_cases e2 : z = x
      · subst e2
        rw [UPD_at]
        intro e3
        have e3 : g = k := by simpa [Value.ownBlock] using e3
        subst e3
        exact hgx y hy e1 e
      · rw [UPD_other _ _ e2]
        exact h.apart y z hy hz hne k e
  · by_cases e1 : y = x
    · subst e1
      rw [UPD_at] at e
      have e : g = k := by simpa [Value.ownBlock] using e
      subst e
      rcases hat with h1 | h1
      · exact h.off y hy g h1 hk
      · have := hK g hk
        omega
    · rw [UPD_other _ _ e1] at e
      exact h.off y hy k e hk
end Go.Proofs.YtfjmbfppilfepaaDoor

/- Four rows of one's own, one behind the other; one of them turned, written over. -/
namespace Go.Proofs.YtfjmbfppilfepaaDoor
open Go.RowKit
set_option maxRecDepth 100000

def V4 {α : Type} (p q r s : α) (x : Nat) : α := if x = 0 then p else if x = 1 then q else if x = 2 then r else s
theorem four_cases {P : Nat → Prop} (h0 : P 0) (h1 : P 1) (h2 : P 2) (h3 : P 3) : ∀ x, x < 4 → P x := fun x hx => by
  match x, hx with
  | 0, _ => exact h0
  | 1, _ => exact h1
  | 2, _ => exact h2
  | 3, _ => exact h3
theorem UPD_0 {α : Type} (p q r s a : α) : UPD (V4 p q r s) 0 a = V4 a q r s := by
  funext x
  unfold UPD V4
  split <;> simp_all
theorem UPD_1 {α : Type} (p q r s a : α) : UPD (V4 p q r s) 1 a = V4 p a r s := by
  funext x
  unfold UPD V4
  split <;> simp_all
theorem UPD_2 {α : Type} (p q r s a : α) : UPD (V4 p q r s) 2 a = V4 p q a s := by
  funext x
  unfold UPD V4
  split <;> simp_all
theorem FAM.same {M : Nat} {t : TypeId} {s : Nat} {w : World} {B : Nat} {K : Nat → Prop} {v v' : Nat → Value} {n n' : Nat → Nat} {xs xs' : Nat → List Value} (h : FAM M t s w B K v n xs) (hv : ∀ x, x < M → v x = v' x) (hn : ∀ x, x < M → n x = n' x) (hx : ∀ x, x < M → xs x = xs' x) : FAM M t s w B K v' n' xs' :=
  ⟨fun x h0 => by rw [← hv x h0, ← hn x h0, ← hx x h0]; exact h.row x h0, fun x y h0 h1 hne g => by rw [← hv x h0, ← hv y h1]; exact h.apart x y h0 h1 hne g, fun x h0 g => by rw [← hv x h0]; exact h.off x h0 g⟩
/-- four rows, one behind the other. -/
theorem FAM.behind {t : TypeId} {s : Nat} {w : World} {B : Nat} {K : Nat → Prop} {v0 v1 v2 v3 : Value} {n0 n1 n2 n3 : Nat} {x0 x1 x2 x3 : List Value} {p0 p1 p2 p3 p4 : Nat}
    (r0 : w.ownsRow B t s v0 n0 x0) (r1 : w.ownsRow B t s v1 n1 x1) (r2 : w.ownsRow B t s v2 n2 x2) (r3 : w.ownsRow B t s v3 n3 x3)
    (s0 : ∀ g, v0.ownBlock = some g → p0 ≤ g ∧ g < p1) (s1 : ∀ g, v1.ownBlock = some g → p1 ≤ g ∧ g < p2) (s2 : ∀ g, v2.ownBlock = some g → p2 ≤ g ∧ g < p3) (s3 : ∀ g, v3.ownBlock = some g → p3 ≤ g ∧ g < p4) (hp : p1 ≤ p2 ∧ p2 ≤ p3 ∧ p3 ≤ p4)
    (hK : ∀ k, K k → p4 ≤ k) : FAM 4 t s w B K (V4 v0 v1 v2 v3) (V4 n0 n1 n2 n3) (V4 x0 x1 x2 x3) := by
  refine ⟨four_cases r0 r1 r2 r3, ?_, ?_⟩
  · intro x y hx hy hne g h1 h2
    have key : ∀ z, z < 4 → (V4 v0 v1 v2 v3 z).ownBlock = some g → V4 p0 p1 p2 p3 z ≤ g ∧ g < V4 p1 p2 p3 p4 z := four_cases (s0 g) (s1 g) (s2 g) (s3 g)
    have k1 := key x hx h1
    have k2 := key y hy h2
    match x, y, hx, hy with
    | 0, 0, _, _ => exact hne rfl
    | 1, 1, _, _ => exact hne rfl
    | 2, 2, _, _ => exact hne rfl
    | 3, 3, _, _ => exact hne rfl
    | 0, 1, _, _ | 0, 2, _, _ | 0, 3, _, _ | 1, 0, _, _ | 1, 2, _, _ | 1, 3, _, _ | 2, 0, _, _ | 2, 1, _, _ | 2, 3, _, _ | 3, 0, _, _ | 3, 1, _, _ | 3, 2, _, _ =>
      simp only [V4] at k1 k2
      simp at k1 k2
      omega
  · have key : ∀ z, z < 4 → ∀ g, (V4 v0 v1 v2 v3 z).ownBlock = some g → g < V4 p1 p2 p3 p4 z := four_cases (fun g e => (s0 g e).2) (fun g e => (s1 g e).2) (fun g e => (s2 g e).2) (fun g e => (s3 g e).2)
    intro x hx g e hk
    have h1 := key x hx g e
    have h2 := hK g hk
    match x, hx with
    | 0, _ | 1, _ | 2, _ | 3, _ =>
      simp only [V4] at h1
      simp at h1
      omega
/-- one of them is written over. -/
theorem FAM.over {M : Nat} {t : TypeId} {s : Nat} {w w' : World} {B : Nat} {K : Nat → Prop} {v : Nat → Value} {n : Nat → Nat} {xs : Nat → List Value} (h : FAM M t s w B K v n xs) {x : Nat} {ys : List Value} (hx : x < M) (hK : ∀ k, K k → k < w.heap.size)
    (hown : w'.ownsRow B t s (v x) (n x) ys) (hg : w.grownBy w' (v x).ownBlock) : FAM M t s w' B K v n (UPD xs x ys) ∧ ∀ k, K k → w'.heap[k]? = w.heap[k]? := by
  refine ⟨⟨fun y hy => ?_, h.apart, h.off⟩, fun k hk => hg.block k (hK k hk) fun e => h.off x hx k e.symm hk⟩
  by_cases e : y = x
  · subst e
    rw [UPD_at]
    exact hown
  · rw [UPD_other _ _ e]
    exact own_heap (h.row y hy) fun k hk => hg.block k ((h.row y hy).lt k hk).2 fun e2 => h.apart x y hx hy (fun e3 => e e3.symm) k e2.symm hk
end Go.Proofs.YtfjmbfppilfepaaDoor

/- Four lists of bytes that are written over, grown and read again. -/
namespace Go.Proofs.YtfjmbfppilfepaaDoor
open Go.RowKit
set_option maxRecDepth 100000

/-- the mark of the x-th list. -/
def MKB (x : Nat) : Int := 201 + (x : Int)
/-- n marks. -/
def RPB (n x : Nat) : List Value := CELLS (List.replicate n (MKB x))
theorem RPB_eq (n x : Nat) : RPB n x = List.replicate n (.int .u8 (MKB x)) := by simp [RPB, CELLS]
theorem RPB_length (n x : Nat) : (RPB n x).length = n := by simp [RPB_eq]
theorem RPB_at {n x j : Nat} (h : j < n) : (RPB n x)[j]? = some (.int .u8 (MKB x)) := by rw [RPB_eq, List.getElem?_replicate, if_pos h]
theorem RPB_snoc (n x : Nat) : RPB n x ++ [.int .u8 (MKB x)] = RPB (n + 1) x := by rw [RPB_eq, RPB_eq, List.replicate_succ']
/-- the lists below m are marks. -/
def XM (X0 : Nat → List Value) (NN : Nat → Nat) (m : Nat) (x : Nat) : List Value := if x < m then RPB (NN x) x else X0 x
/-- the lists below m are the new ones. -/
def VM (V V' : Nat → Value) (m : Nat) (x : Nat) : Value := if x < m then V' x else V x
def NM (NN : Nat → Nat) (m : Nat) (x : Nat) : Nat := if x < m then NN x + 1 + 1 else NN x
def XN (NN : Nat → Nat) (m : Nat) (x : Nat) : List Value := RPB (NM NN m x) x
theorem XM_next {X0 : Nat → List Value} {NN : Nat → Nat} {m : Nat} (x : Nat) : UPD (XM X0 NN m) m (RPB (NN m) m) x = XM X0 NN (m + 1) x := by
  unfold UPD XM
  by_cases h : x = m
  · subst h
    rw [if_pos rfl, if_pos (by omega)]
  · rw [if_neg h]
    by_cases h1 : x < m
    · rw [if_pos h1, if_pos (by omega)]
    · rw [if_neg h1, if_neg (by omega)]
theorem VM_next {V V' : Nat → Value} {m : Nat} {v : Value} (x : Nat) : UPD (VM V V' m) m v x = VM V (UPD V' m v) (m + 1) x := by
  unfold UPD VM
  by_cases h : x = m
  · subst h
    rw [if_pos rfl, if_pos (by omega)]
    simp
  · rw [if_neg h]
    by_cases h1 : x < m
    · rw [if_pos h1, if_pos (by omega)]
      simp [h]
    · rw [if_neg h1, if_neg (by omega)]
theorem NM_next {NN : Nat → Nat} {m : Nat} (x : Nat) : UPD (NM NN m) m (NN m + 1 + 1) x = NM NN (m + 1) x := by
  unfold UPD NM
  by_cases h : x = m
  · subst h
    rw [if_pos rfl, if_pos (by omega)]
  · rw [if_neg h]
    by_cases h1 : x < m
    · rw [if_pos h1, if_pos (by omega)]
    · rw [if_neg h1, if_neg (by omega)]
theorem XN_next {NN : Nat → Nat} {m : Nat} (x : Nat) : UPD (XN NN m) m (RPB (NN m + 1 + 1) m) x = XN NN (m + 1) x := by
  unfold XN
  rw [← NM_next]
  unfold UPD
  by_cases h : x = m
  · subst h
    rw [if_pos rfl, if_pos rfl]
  · rw [if_neg h, if_neg h]
/-- four cells by a function. -/
def ARR4 (f : Nat → Value) : Array Value := #[f 0, f 1, f 2, f 3]
theorem ARR4_at (f : Nat → Value) : ∀ m, m < 4 → (ARR4 f)[m]? = some (f m) := four_cases rfl rfl rfl rfl
theorem ARR4_set (f : Nat → Value) (v : Value) : ∀ m, m < 4 → (ARR4 f).setIfInBounds m v = ARR4 (UPD f m v) := four_cases (by simp [ARR4, UPD]) (by simp [ARR4, UPD]) (by simp [ARR4, UPD]) (by simp [ARR4, UPD])
theorem ARR4_ext {f g : Nat → Value} (h : ∀ x, x < 4 → f x = g x) : ARR4 f = ARR4 g := by
  unfold ARR4
  rw [h 0 (by decide), h 1 (by decide), h 2 (by decide), h 3 (by decide)]
theorem VM_set {V V' : Nat → Value} {m : Nat} {v : Value} (hm : m < 4) : (ARR4 (VM V V' m)).setIfInBounds m v = ARR4 (VM V (UPD V' m v) (m + 1)) := by
  rw [ARR4_set _ _ m hm]
  exact ARR4_ext fun x _ => VM_next x
theorem app_byte {ops : Array Oper} {rest : List Oper} {o : Oper} {a : Act} {Q : Exit → Act → World → Prop} (w : World) (hgd : o.guard = none) (s x : Operand)
    (ho : o.op = .call { callee := .builtin .append, args := #[s, x], argTypes := #[28, 28] })
    (base : Nat) (v : Value) (n : Nat) (xs : List Value) (hs : a.eval s = v) (hown : w.ownsRow base 5 1 v n xs)
    (b c : Nat) (y : Int) (hx : a.eval x = .slice (some ⟨b, 0, none⟩) 1 c) (hc : w.cell? ⟨b, 0, none⟩ = some (.int .u8 y))
    (hb : n ≤ 1000000) (hbase : base ≤ w.heap.size)
    (h : ∀ g cap w', w'.ownsRow base 5 1 (.slice (some ⟨g, 0, none⟩) (n + 1) cap) (n + 1) (xs ++ [.int .u8 y]) → w.grownBy w' v.ownBlock → (v.ownBlock = some g ∨ g = w.heap.size) → g < w'.heap.size → wpList Tryd.prog ops Q rest (a.put o.dst (.slice (some ⟨g, 0, none⟩) (n + 1) cap)) w') : wpList Tryd.prog ops Q (o :: rest) a w := by
  obtain ⟨i, hi, hz, hs1, hby⟩ := info_parts_u8
  refine wpList_append_lies w hgd s x 28 ho base 5 i (.int .u8 0) 1 1 Tryd.underlying28 hi hz hs1 hby rfl (by decide) v n xs hs hown ⟨b, 0, none⟩ 1 c [.int .u8 y] hx rfl ?_ (fun v hv => by simp at hv; subst hv; rfl) (by decide) (by simp only [maxLen]; omega) (by omega) hbase w.heap.size rfl h
  intro j u hj
  have hj0 : j = 0 := by
    have := (List.getElem?_eq_some_iff.1 hj).1
    simp at this
    exact this
  subst hj0
  rw [addr_add, Nat.zero_add, hc]
  exact hj
end Go.Proofs.YtfjmbfppilfepaaDoor

/- What the document's Big, FromBig, Short and Long give. -/
namespace Go.Proofs.YtfjmbfppilfepaaDoor
open Go.RowKit

theorem pow8 (t : Nat) : (2 : Nat) ^ (8 * t) = 256 ^ t := by rw [Nat.pow_mul]
/-- an array that is filled from its end on. -/
theorem bback_put {X n t i : Nat} {f : Nat → Int} {v : Int} (A : ∀ j, j < n → f j = if n - t ≤ j then BYTE X n j else 0) (hi : i + t + 1 = n) (hv : v = ((X / 256 ^ t % 256 : Nat) : Int)) :
    ∀ j, j < n → (if j = i then v else f j) = if n - (t + 1) ≤ j then BYTE X n j else 0 := fun j hj => by
  by_cases e : j = i
  · subst e
    rw [if_pos rfl, if_pos (by omega), hv]
    unfold BYTE
    rw [show n - 1 - j = t by omega, pow8]
  · rw [if_neg e, A j hj]
    by_cases e2 : n - t ≤ j
    · rw [if_pos e2, if_pos (by omega)]
    · rw [if_neg e2, if_neg (by omega)]
theorem reffrombig_step {w : World} {a : Option Addr} {n k : Nat} {l : List Int} {x v : Int} (hB : Bytes w a n l) (hn : n ≤ 8) (hk : k < n) (hx : x = BIGV (l.take k)) (hv : l.getD k 0 = v) :
    IntKind.u64.wrap (IntKind.u64.wrap (256 * x) + IntKind.u64.wrap v) = BIGV (l.take (k + 1)) := by
  have hb := BIGV_bounds (l.take k) (fun y hy => hB.2.2 y (List.mem_of_mem_take hy))
  have hl : (l.take k).length = k := by rw [List.length_take, hB.1]; omega
  rw [hl] at hb
  have hp : (256 : Int) ^ k ≤ 72057594037927936 := by
    have h7 := Nat.pow_le_pow_right (n := 256) (by decide) (show k ≤ 7 by omega)
    have e : ((256 ^ k : Nat) : Int) = 256 ^ k := by rw [Int.natCast_pow]; rfl
    omega
  have hg := hB.get k
  rw [hv] at hg
  rw [take_next l k (by rw [hB.1]; exact hk), BIGV_snoc, hv, ← hx, wrapU, wrapU, wrapU]
  rw [← hx] at hb
  omega
set_option maxHeartbeats 1000000 in
theorem refshort_ok (X : Nat) (hX : X < 2 ^ 64) (w : World) : Calls Tryd.prog 47 #[.int .u64 (X : Int)] w fun e w' =>
    ∃ g cap, e = .returned (.slice (some ⟨g, 0, none⟩) (NTOP X + 1) cap) ∧ w'.ownsRow w.heap.size 5 1 (.slice (some ⟨g, 0, none⟩) (NTOP X + 1) cap) (NTOP X + 1) (CELLS (SHORT X)) ∧ g < w'.heap.size ∧ Below w.heap.size w w' := by
  have HX : Aside (X < 2 ^ 64) := hX
  clear hX
  go_enter Tryd.func47, Tryd.ntmps47
  go_wp2
  go_loopg [0, 3] 10 (fun g s0 s3 wx => ∃ (j x : Nat), j + g = 10 ∧ Aside (x = X / 128 ^ j ∧ (∀ i, i < j → 128 ≤ X / 128 ^ i) ∧ wx.ownsRow w.heap.size 5 1 s3 j (CELLS (GROUPS X j)) ∧ Below w.heap.size w wx) ∧ s0 = .int .u64 (x : Int))
  case atStart => exact ⟨0, X, by omega, ⟨by simp, fun i hi => by omega, World.ownsRow_nil _ _ _ _, Below.refl _ _⟩, rfl⟩
  case round =>
    obtain ⟨j, x, hjg, A, rfl⟩ := hrel
    have hxl : (x : Int) ≤ 18446744073709551615 := by
      have := Nat.div_le_self X (128 ^ j)
      have h1 := A.out.1
      have h2 := HX.out
      omega
    have HXL : Aside ((x : Int) ≤ 18446744073709551615) := hxl
    clear hxl
    by_cases hx : 128 ≤ (x : Int)
    · go_wp2_with (at_builtin; refine app_u8 _ rfl (.tmp 6) (.tmp 11) rfl w.heap.size u3 j (GROUPS X j) rfl (A.out.2.2.1.alloc _) wr.heap.size 0 1 1 [(x : Int) % 128 + 128] rfl (one_bytes wr _ (by omega) (by omega)) (by omega) (by omega) (by have := A.out.2.2.2.size; simp; omega) ?_; intro g cap w1 hown hgrow hg)
      have R : (x / 128 = X / 128 ^ (j + 1)) ∧ (∀ i, i < j + 1 → 128 ≤ X / 128 ^ i) ∧ w1.ownsRow w.heap.size 5 1 (.slice (some ⟨g, 0, none⟩) (j + 1) cap) (j + 1) (CELLS (GROUPS X (j + 1))) ∧ Below w.heap.size w w1 := by
        obtain ⟨hxe, hall, hown0, hb⟩ := A.out
        refine ⟨by rw [hxe, Nat.div_div_eq_div_mul, ← Nat.pow_succ], fun i hi => ?_, ?_, ?_⟩
        · by_cases e : i = j
          · rw [e, ← hxe]; omega
          · exact hall i (by omega)
        · rw [GROUPS_succ, show ((X / 128 ^ j % 128 + 128 : Nat) : Int) = (x : Int) % 128 + 128 by rw [← hxe]; omega]
          exact hown
        · exact (hb.alloc hb.size _).grown hgrow (by have := hb.size; simp; omega) (fun k e => (hown0.lt k e).1)
      have HR : Aside ((x / 128 = X / 128 ^ (j + 1)) ∧ (∀ i, i < j + 1 → 128 ≤ X / 128 ^ i) ∧ w1.ownsRow w.heap.size 5 1 (.slice (some ⟨g, 0, none⟩) (j + 1) cap) (j + 1) (CELLS (GROUPS X (j + 1))) ∧ Below w.heap.size w w1) := R
      have hj9 : j < 9 := by
        obtain ⟨hxe, hall, _, _⟩ := A.out
        rcases Nat.lt_or_ge j 9 with h | h
        · exact h
        · have h1 := div_anti X h
          have h2 : X / 128 ^ 9 < 2 := Nat.div_lt_of_lt_mul (Nat.lt_of_lt_of_le HX.out (by decide))
          omega
      clear hown hgrow hg R A
      go_wp2
      go_roundg (gk - 1)
      case measure => omega
      case rel => exact ⟨j + 1, x / 128, by omega, HR, by have := HXL.out; rw [show IntKind.u64.wrap ((x : Int) / 128) = ((x / 128 : Nat) : Int) by rw [wrapU]; omega]⟩
    · go_wp2_with (at_builtin; refine app_u8 _ rfl (.tmp 15) (.tmp 18) rfl w.heap.size u3 j (GROUPS X j) rfl (A.out.2.2.1.alloc _) wr.heap.size 0 1 1 [(x : Int)] rfl (one_bytes wr _ (by omega) (by omega)) (by omega) (by omega) (by have := A.out.2.2.2.size; simp; omega) ?_; intro g cap w1 hown hgrow hg)
      obtain ⟨hxe, hall, hown0, hb⟩ := A.out
      have hN : NTOP X = j := NTOP_eq HX.out hall (by rw [← hxe]; omega)
      have R : w1.ownsRow w.heap.size 5 1 (.slice (some ⟨g, 0, none⟩) (NTOP X + 1) cap) (NTOP X + 1) (CELLS (SHORT X)) ∧ g < w1.heap.size ∧ Below w.heap.size w w1 := by
        refine ⟨?_, hg, (hb.alloc hb.size _).grown hgrow (by have := hb.size; simp; omega) (fun k e => (hown0.lt k e).1)⟩
        unfold SHORT
        rw [hN, ← hxe]
        exact hown
      have HR : Aside (w1.ownsRow w.heap.size 5 1 (.slice (some ⟨g, 0, none⟩) (NTOP X + 1) cap) (NTOP X + 1) (CELLS (SHORT X)) ∧ g < w1.heap.size ∧ Below w.heap.size w w1) := R
      have HN : Aside (NTOP X = j) := hN
      clear hown hgrow hg R A hxe hall hown0 hb hN
      go_wp2
      go_ret
      obtain ⟨h1, h2, h3⟩ := HR.out
      refine ⟨g, cap, ?_, h1, h2, h3⟩
      rw [HN.out]
      rfl
end Go.Proofs.YtfjmbfppilfepaaDoor
