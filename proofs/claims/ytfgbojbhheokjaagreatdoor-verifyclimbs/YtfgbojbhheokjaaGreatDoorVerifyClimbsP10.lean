/- Texts of VerifyClimbs, one behind the other: PosFour, CutCalls, CutHas, CutSpan, CutOver, ProofPlaces, ProofBytes, ProofEncode, CutRefSpan. -/
import Derived.Deep.QuietTactic
import Derived.BigQuiet
import Derived.Deep.MidRow
import Derived.Test.YtfgbojbhheokjaaGreatDoorVerifyClimbsP6
import Derived.Test.YtfgbojbhheokjaaGreatDoorVerifyClimbsP7
import Derived.Test.YtfgbojbhheokjaaGreatDoorVerifyClimbsP8
import Derived.Test.YtfgbojbhheokjaaGreatDoorVerifyClimbsP9
/- Two lists that read the same; four lists of one's own, none of which shares a block with another. -/
namespace Go.Proofs.YtfgbojbhheokjaaGreatDoor
open Go.RowKit

/-- a list of numbers lies there. -/
def Nums (w : World) (v : Value) (l : List Nat) : Prop := ∃ a cap, v = .slice a l.length cap ∧ (0 < l.length → ∃ g, a = some ⟨g, 0, none⟩ ∧ g < w.heap.size ∧ ∀ (j : Nat), j < l.length → w.cell? ⟨g, j, none⟩ = some (.int .u64 ((l.getD j 0 : Nat) : Int)))
theorem Nums.below {w w' : World} {v : Value} {l : List Nat} {B : Nat} (h : Nums w v l) (hb : Below B w w') (hB : w.heap.size ≤ B) : Nums w' v l := by
  obtain ⟨a, cap, rfl, h⟩ := h
  refine ⟨a, cap, rfl, fun h0 => ?_⟩
  obtain ⟨g, e, hg, hc⟩ := h h0
  exact ⟨g, e, Nat.lt_of_lt_of_le hg hb.size, fun j hj => (hb.cell (p := ⟨g, j, none⟩) (Nat.lt_of_lt_of_le hg hB)).trans (hc j hj)⟩
theorem nums_own {w : World} {base : Nat} {v : Value} {l : List Nat} (h : w.ownsRow base 24 1 v l.length (UCELLS l)) : Nums w v l := by
  rcases h.2 with ⟨rfl, h0⟩ | ⟨g, cap, cur, rfl, hb, hg, r⟩
  · rw [List.length_eq_zero_iff] at h0
    subst h0
    exact ⟨none, 0, rfl, fun h => absurd h (by simp)⟩
  · exact ⟨_, cap, rfl, fun h0 => ⟨g, rfl, (Array.getElem?_eq_some_iff.1 hg).1, fun j hj => row_at h j hj⟩⟩
/-- four lists of one's own: no two in one block, none in a block of K. -/
structure Four (w : World) (B : Nat) (K : Nat → Prop) (v : Nat → Value) (n : Nat → Nat) (xs : Nat → List Value) : Prop where
  row : ∀ x, x < 4 → w.ownsRow B 24 1 (v x) (n x) (xs x)
  apart : ∀ x y, x < 4 → y < 4 → x ≠ y → ∀ g, (v x).ownBlock = some g → (v y).ownBlock ≠ some g
  off : ∀ x, x < 4 → ∀ g, (v x).ownBlock = some g → ¬ K g
/-- a function that is another one at one place. -/
def UPD {α : Type} (f : Nat → α) (x : Nat) (a : α) : Nat → α := fun z => if z = x then a else f z
theorem UPD_at {α : Type} (f : Nat → α) (x : Nat) (a : α) : UPD f x a x = a := by simp [UPD]
theorem UPD_other {α : Type} (f : Nat → α) {x z : Nat} (a : α) (h : z ≠ x) : UPD f x a z = f z := by simp [UPD, h]
theorem Four.alloc {w : World} {B : Nat} {K : Nat → Prop} {v : Nat → Value} {n : Nat → Nat} {xs : Nat → List Value} (h : Four w B K v n xs) (o : Obj) : Four (w.alloc o) B K v n xs := ⟨fun x hx => (h.row x hx).alloc o, h.apart, h.off⟩
theorem Four.more {w : World} {B : Nat} {K K' : Nat → Prop} {v : Nat → Value} {n : Nat → Nat} {xs : Nat → List Value} (h : Four w B K v n xs) (hK : ∀ g, g < w.heap.size → K' g → K g) : Four w B K' v n xs :=
  ⟨h.row, h.apart, fun x hx g hg hk => h.off x hx g hg (hK g ((h.row x hx).lt g hg).2 hk)⟩
theorem Four.below {w w' : World} {B : Nat} {K : Nat → Prop} {v : Nat → Value} {n : Nat → Nat} {xs : Nat → List Value} (h : Four w B K v n xs) (hb : Below w.heap.size w w') : Four w' B K v n xs := ⟨fun x hx => own_below (h.row x hx) hb, h.apart, h.off⟩
theorem grown_set (W : World) (b j : Nat) (v : Value) : W.grownBy (W.setCell ⟨b, j, none⟩ v) (some b) :=
  ⟨rfl, rfl, rfl, (KeepsWalks.setCell W _ v).size, fun k _ hk => Below.heap_setCell _ _ _ k (fun e => hk (by rw [e]))⟩
/-- what is stored into a block of K. -/
theorem Four.other {w : World} {B : Nat} {K : Nat → Prop} {v : Nat → Value} {n : Nat → Nat} {xs : Nat → List Value} (h : Four w B K v n xs) {b : Nat} (hb : K b) (j : Nat) (u : Value) : Four (w.setCell ⟨b, j, none⟩ u) B K v n xs :=
  ⟨fun x hx => (h.row x hx).kept (grown_set w b j u) (.inr fun e => h.off x hx b e hb), h.apart, h.off⟩
/-- what is stored into one of the four. -/
theorem Four.store {w : World} {B : Nat} {K : Nat → Prop} {v : Nat → Value} {n : Nat → Nat} {xs : Nat → List Value} (h : Four w B K v n xs) {x g m cap : Nat} (hx : x < 4) (hv : v x = .slice (some ⟨g, 0, none⟩) m cap) (j : Nat) (u : Value) :
    Four (w.setCell ⟨g, j, none⟩ u) B K v n (UPD xs x ((xs x).set j u)) := by
  refine ⟨fun z hz => ?_, h.apart, h.off⟩
  by_cases e : z = x
  · subst e
    have hr := h.row z hz
    rw [hv] at hr ⊢
    have hm : m = n z := by
      rcases hr.2 with ⟨e, _⟩ | ⟨_, _, _, e, _⟩
      · simp at e
      · simp at e
        omega
    subst hm
    rw [UPD_at]
    exact (hr.stored j u).1
  · rw [UPD_other xs _ e]
    refine (h.row z hz).kept (grown_set w g j u) (.inr fun e2 => ?_)
    exact h.apart x z hx hz (fun e3 => e e3.symm) g (by rw [hv]; rfl) e2
/-- one of the four is appended to. -/
theorem Four.app {w w' : World} {B : Nat} {K : Nat → Prop} {v : Nat → Value} {n : Nat → Nat} {xs : Nat → List Value} (h : Four w B K v n xs) {x g cap : Nat} {u : Value} (hx : x < 4) (hK : ∀ k, K k → k < w.heap.size)
    (hown : w'.ownsRow B 24 1 (.slice (some ⟨g, 0, none⟩) (n x + 1) cap) (n x + 1) (xs x ++ [u])) (hgrow : w.grownBy w' (v x).ownBlock) (hg : (v x).ownBlock = some g ∨ g = w.heap.size) :
    Four w' B K (UPD v x (.slice (some ⟨g, 0, none⟩) (n x + 1) cap)) (UPD n x (n x + 1)) (UPD xs x (xs x ++ [u])) := by
  refine ⟨fun z hz => ?_, fun y z hy hz hne k hk => ?_, fun z hz k hk => ?_⟩
  · by_cases e : z = x
    · subst e
      rw [UPD_at, UPD_at, UPD_at]
      exact hown
    · rw [UPD_other v _ e, UPD_other n _ e, UPD_other xs _ e]
      refine (h.row z hz).kept hgrow ?_
      cases hb : (v z).ownBlock with
      | none => exact .inl rfl
      | some k => exact .inr fun e2 => h.apart z x hz hx e k hb e2.symm
  · by_cases ey : y = x
    · subst ey
      rw [UPD_at] at hk
      have hkg : g = k := by simpa [Value.ownBlock] using hk
      subst hkg
      rw [UPD_other v _ (fun e => hne e.symm)]
      intro e2
      rcases hg with hg | hg
      · exact h.apart y z hx hz hne g hg e2
      · have := ((h.row z hz).lt g e2).2
        omega
    · rw [UPD_other v _ ey] at hk
      by_cases ez : z = x
      · subst ez
        rw [UPD_at]
        intro e2
        have hkg : g = k := by simpa [Value.ownBlock] using e2
        subst hkg
        rcases hg with hg | hg
        · exact h.apart y z hy hz hne g hk hg
        · have := ((h.row y hy).lt g hk).2
          omega
      · rw [UPD_other v _ ez]
        exact h.apart y z hy hz hne k hk
  · by_cases ez : z = x
    · subst ez
      rw [UPD_at] at hk
      have hkg : g = k := by simpa [Value.ownBlock] using hk
      subst hkg
      rcases hg with hg | hg
      · exact h.off z hz g hg
      · intro hkk
        have := hK g hkk
        omega
    · rw [UPD_other v _ ez] at hk
      exact h.off z hz k hk
/-- a list's form. -/
theorem own_slice {w : World} {B n : Nat} {v : Value} {xs : List Value} (h : w.ownsRow B 24 1 v n xs) : ∃ a cap, v = .slice a n cap ∧ (0 < n → ∃ g, a = some ⟨g, 0, none⟩ ∧ g < w.heap.size ∧ B ≤ g) := by
  rcases h.2 with ⟨rfl, h0⟩ | ⟨g, cap, cur, rfl, hb, hg, r⟩
  · subst h0
    exact ⟨none, 0, rfl, fun h => by omega⟩
  · exact ⟨_, cap, rfl, fun _ => ⟨g, rfl, (Array.getElem?_eq_some_iff.1 hg).1, hb⟩⟩
theorem app_more {ops : Array Oper} {rest : List Oper} {o : Oper} {a : Act} {Q : Exit → Act → World → Prop} (w : World) (hgd : o.guard = none) (s x : Operand)
    (ho : o.op = .call { callee := .builtin .append, args := #[s, x], argTypes := #[52, 52] })
    (base : Nat) (v : Value) (n : Nat) (xs : List Value) (hs : a.eval s = v) (hown : w.ownsRow base 24 1 v n xs)
    (b c : Nat) (y : Int) (hx : a.eval x = .slice (some ⟨b, 0, none⟩) 1 c) (hc : w.cell? ⟨b, 0, none⟩ = some (.int .u64 y))
    (hb : n ≤ 1000) (hbase : base ≤ w.heap.size)
    (h : ∀ g cap w', w'.ownsRow base 24 1 (.slice (some ⟨g, 0, none⟩) (n + 1) cap) (n + 1) (xs ++ [.int .u64 y]) → w.grownBy w' v.ownBlock → (v.ownBlock = some g ∨ g = w.heap.size) → g < w'.heap.size → wpList Tryz.prog ops Q rest (a.put o.dst (.slice (some ⟨g, 0, none⟩) (n + 1) cap)) w') : wpList Tryz.prog ops Q (o :: rest) a w := by
  obtain ⟨i, hi, hz, hs1, hby⟩ := info_parts info_u64
  refine wpList_append_lies w hgd s x 52 ho base 24 i (.int .u64 0) 1 8 Tryz.underlying52 hi hz hs1 hby rfl (by decide) v n xs hs hown ⟨b, 0, none⟩ 1 c [.int .u64 y] hx rfl ?_ (fun u hu => by simp at hu; subst hu; rfl) (by decide) (by simp only [maxLen]; omega) (by omega) hbase w.heap.size rfl h
  intro j u hj
  cases j with
  | zero =>
    simp only [List.getElem?_cons_zero, Option.some.injEq] at hj
    subst hj
    exact hc
  | succ j => simp at hj
theorem Has.grown {w w' : World} {g : Nat} {c : Array Value} {t : TypeId} {row : Option Nat} (h : Has w g c t) (hg : w.grownBy w' row) (hne : row ≠ some g) : Has w' g c t := by
  obtain ⟨_, _, _, _, hk⟩ := hg
  exact (hk g h.lt (fun e => hne e.symm)).trans h
/-- the four as they come: each in a world of its own. -/
theorem Four.of {w : World} {B b1 b2 b3 b4 : Nat} {K : Nat → Prop} {v0 v1 v2 v3 : Value} {n m : Nat} {xs ys : List Value} (h0 : w.ownsRow B 24 1 v0 n xs) (h1 : w.ownsRow b1 24 1 v1 n xs) (h2 : w.ownsRow b2 24 1 v2 m ys) (h3 : w.ownsRow b3 24 1 v3 m ys)
    (l0 : ∀ k, v0.ownBlock = some k → k < b1) (l1 : ∀ k, v1.ownBlock = some k → k < b2) (l2 : ∀ k, v2.ownBlock = some k → k < b3) (l3 : ∀ k, v3.ownBlock = some k → k < b4) (o1 : B ≤ b1) (o2 : b1 ≤ b2) (o3 : b2 ≤ b3) (o4 : b3 ≤ b4) (hK : ∀ k, K k → b4 ≤ k) :
    ∃ (V : Nat → Value) (N : Nat → Nat) (XS : Nat → List Value), Four w B K V N XS ∧ V 0 = v0 ∧ V 1 = v1 ∧ V 2 = v2 ∧ V 3 = v3 ∧ (∀ x, x < 4 → N x = n ∨ N x = m) := by
  have key : ∀ x, x < 4 → x = 0 ∨ x = 1 ∨ x = 2 ∨ x = 3 := fun x hx => by omega
  have bnd : ∀ x, x < 4 → ∀ k, ((if x = 0 then v0 else if x = 1 then v1 else if x = 2 then v2 else v3 : Value)).ownBlock = some k → (if x = 0 then B else if x = 1 then b1 else if x = 2 then b2 else b3) ≤ k ∧ k < (if x = 0 then b1 else if x = 1 then b2 else if x = 2 then b3 else b4) := fun x hx k hk => by
    rcases key x hx with rfl | rfl | rfl | rfl
    · exact ⟨(h0.lt k hk).1, l0 k hk⟩
    · exact ⟨(h1.lt k hk).1, l1 k hk⟩
    · exact ⟨(h2.lt k hk).1, l2 k hk⟩
    · exact ⟨(h3.lt k hk).1, l3 k hk⟩
  refine ⟨fun x => if x = 0 then v0 else if x = 1 then v1 else if x = 2 then v2 else v3, fun x => if x < 2 then n else m, fun x => if x < 2 then xs else ys, ⟨fun x hx => ?_, fun x y hx hy hne k hk hk2 => ?_, fun x hx k hk hkk => ?_⟩, rfl, rfl, rfl, rfl, fun x hx => ?_⟩
  · rcases key x hx with rfl | rfl | rfl | rfl
    · exact h0
    · exact own_mono h1 o1
    · exact own_mono h2 (Nat.le_trans o1 o2)
    · exact own_mono h3 (Nat.le_trans o1 (Nat.le_trans o2 o3))
  · have hx' := bnd x hx k hk
    have hy' := bnd y hy k hk2
    rcases key x hx with rfl | rfl | rfl | rfl <;> rcases key y hy with rfl | rfl | rfl | rfl <;> simp at hx' hy' hne <;> omega
  · have hx' := bnd x hx k hk
    have := hK k hkk
    rcases key x hx with rfl | rfl | rfl | rfl <;> simp at hx' <;> omega
  · rcases key x hx with rfl | rfl | rfl | rfl <;> simp
end Go.Proofs.YtfgbojbhheokjaaGreatDoor

/- What the small functions of package cut answer. -/
namespace Go.Proofs.YtfgbojbhheokjaaGreatDoor
open Go.RowKit

theorem low_nat (X : Nat) (hX : X < 2 ^ 64) : ∃ t : Nat, t ≤ 64 ∧ (X = 0 → t = 64) ∧ (∀ h, h ≤ 64 → (X % 2 ^ h = 0 ↔ h ≤ t)) ∧ ∀ w, Tabled w → Calls Tryz.prog 85 #[.int .u64 (X : Int)] w fun e w' => e = .returned (.int .i64 (t : Int)) ∧ w = w' := by
  by_cases h0 : X = 0
  · subst h0
    exact ⟨64, Nat.le_refl _, fun _ => rfl, fun h hh => by simp [hh], fun w _ => low_raw _ _ w (tz_zero w)⟩
  · obtain ⟨t, q, e⟩ := low_split X h0
    have ht := (neg_and hX e).2
    refine ⟨t, by omega, fun c => absurd c h0, ?_, fun w hT => low_raw _ _ w (tz_ok X t q hX e w hT)⟩
    intro h _
    constructor
    · intro hm
      rcases Nat.lt_or_ge t h with c | c
      · have h1 : 2 ^ (t + 1) ∣ 2 ^ h := Nat.pow_dvd_pow 2 c
        have h2 : X % 2 ^ (t + 1) = 0 := Nat.mod_eq_zero_of_dvd (Nat.dvd_trans h1 (Nat.dvd_of_mod_eq_zero hm))
        rw [e, Nat.mul_comm] at h2
        have := even_up.1 h2
        omega
      · exact c
    · intro hm
      have h1 : 2 ^ h ∣ 2 ^ t := Nat.pow_dvd_pow 2 hm
      exact Nat.mod_eq_zero_of_dvd (Nat.dvd_trans h1 ⟨_, e⟩)
theorem HT_min {a b t : Nat} (hab : a < b) (hb : b ≤ 4611686018427387904) (ht : t ≤ 64) (hd : ∀ h, h ≤ 64 → (a % 2 ^ h = 0 ↔ h ≤ t)) : min (t : Int) ((LEN (b - a) : Nat) - 1 : Int) = ((HT a b : Nat) : Int) := by
  obtain ⟨l1, l2, l3⟩ := LEN_span (b - a) (by omega) (by omega)
  have l4 : LEN (b - a) - 1 ≤ 62 := by
    rcases Nat.lt_or_ge 62 (LEN (b - a) - 1) with h | h
    · have : 2 ^ 63 ≤ 2 ^ (LEN (b - a) - 1) := Nat.pow_le_pow_right (by decide) h
      omega
    · exact h
  have : min t (LEN (b - a) - 1) = HT a b := by
    refine HT_only hab hb ⟨(hd _ (by omega)).2 (by omega), ?_⟩ ?_
    · have : 2 ^ min t (LEN (b - a) - 1) ≤ 2 ^ (LEN (b - a) - 1) := Nat.pow_le_pow_right (by decide) (by omega)
      omega
    · intro c
      rcases Nat.lt_or_ge t (LEN (b - a) - 1) with h | h
      · have := (hd _ (by omega)).1 c.1
        omega
      · have h1 := c.2
        have : 2 ^ LEN (b - a) ≤ 2 ^ (min t (LEN (b - a) - 1) + 1) := Nat.pow_le_pow_right (by decide) (by omega)
        omega
  rw [← this]
  omega
theorem xor_one (k : Nat) (hk : k < 2 ^ 64) : bits .xor .u64 (k : Int) 1 = ((SIB k : Nat) : Int) := by
  have : bits .xor .u64 (k : Int) ((1 : Nat) : Int) = ((k ^^^ 1 : Nat) : Int) := bits_xor_u64_nat k 1 (by omega) (by omega)
  have e : k ^^^ 1 = SIB k := by
    apply Nat.eq_of_testBit_eq
    intro i
    unfold SIB
    cases i with
    | zero =>
      rw [Nat.testBit_xor]
      simp only [Nat.testBit_zero]
      split <;> rw [Bool.eq_iff_iff] <;> simp <;> omega
    | succ i =>
      rw [Nat.testBit_xor, Nat.testBit_succ, Nat.testBit_succ, Nat.testBit_succ]
      have : (1 : Nat) / 2 = 0 := by decide
      rw [this, Nat.zero_testBit, Bool.xor_false]
      congr 1
      split <;> omega
  rw [e] at this
  exact this
end Go.Proofs.YtfgbojbhheokjaaGreatDoor

/- A block that stays while a list of one's own grows. -/
namespace Go.Proofs.YtfgbojbhheokjaaGreatDoor
open Go.RowKit

theorem Has.grew {w w' : World} {g : Nat} {c : Array Value} {t : TypeId} {row : Option Nat} (h : Has w g c t) (hg : w.grownBy w' row) (hne : row ≠ some g) : Has w' g c t := by
  obtain ⟨_, _, _, _, hk⟩ := hg
  exact (hk g h.lt (fun e => hne e.symm)).trans h
theorem kept_new {wr w1 : World} {c : Array Value} {t t' : TypeId} {base s n : Nat} {v : Value} {xs : List Value} {o : Obj} (hown : wr.ownsRow base t' s v n xs) (hgrow : ((wr.alloc (.cells c t)).alloc o).grownBy w1 v.ownBlock) : Has w1 wr.heap.size c t :=
  ((Has.new wr c t).alloc o).grew hgrow (fun e => by have := (hown.lt _ e).2; omega)
end Go.Proofs.YtfgbojbhheokjaaGreatDoor

/- What Span answers. -/
namespace Go.Proofs.YtfgbojbhheokjaaGreatDoor
open Go.RowKit

end Go.Proofs.YtfgbojbhheokjaaGreatDoor

/- What Over answers, of any list of spots. -/
namespace Go.Proofs.YtfgbojbhheokjaaGreatDoor
open Go.RowKit

/-- a list of spots lies there. -/
def Lie (w : World) (a : Option Addr) (l : List (Nat × Nat)) : Prop := 0 < l.length → ∃ g o, a = some ⟨g, o, none⟩ ∧ g < w.heap.size ∧ ∀ (j h k : Nat), l[j]? = some (h, k) → w.cell? ⟨g, o + j * 2, none⟩ = some (.int .u8 (h : Int)) ∧ w.cell? ⟨g, o + j * 2 + 1, none⟩ = some (.int .u64 (k : Int))
theorem Lie.below {w w' : World} {a : Option Addr} {l : List (Nat × Nat)} (h : Lie w a l) (hb : Below w.heap.size w w') : Lie w' a l := fun h0 => by
  obtain ⟨g, o, e, hg, hc⟩ := h h0
  exact ⟨g, o, e, Nat.lt_of_lt_of_le hg hb.size, fun j x y he => ⟨(hb.cell (p := ⟨g, o + j * 2, none⟩) hg).trans (hc j x y he).1, (hb.cell (p := ⟨g, o + j * 2 + 1, none⟩) hg).trans (hc j x y he).2⟩⟩
theorem Lie.of {w : World} {a : Option Addr} {l : List (Nat × Nat)} (h : Spots w a l) : Lie w a l := fun h0 => by
  obtain ⟨g, e, hg, hc⟩ := h h0
  refine ⟨g, 0, e, hg, fun j x y he => ?_⟩
  rw [Nat.zero_add]
  exact hc j x y he
theorem lie_own {w : World} {base n : Nat} {v : Value} {l : List (Nat × Nat)} (hl : l.length = n) (h : w.ownsRow base 50 2 v n (SCELLS l)) : ∃ a cap, v = .slice a n cap ∧ Lie w a l := by
  obtain ⟨a, cap, e, hs⟩ := spots_own hl h
  exact ⟨a, cap, e, Lie.of hs⟩
theorem Tile.same {l : List (Nat × Nat)} : ∀ {a b a' b' : Nat}, l ≠ [] → Tile a l b → Tile a' l b' → a = a' ∧ b = b' := by
  have key : ∀ (l : List (Nat × Nat)) (a b b' : Nat), Tile a l b → Tile a l b' → b = b' := by
    intro l
    induction l with
    | nil => intro a b b' h h'; exact Eq.trans (Eq.symm h) h'
    | cons s l ih => intro a b b' h h'; exact ih _ _ _ h.2.2 h'.2.2
  intro a b a' b' h0 h h'
  cases l with
  | nil => exact absurd rfl h0
  | cons s l => exact ⟨h.2.1.symm.trans h'.2.1, key l _ _ _ h.2.2 h'.2.2⟩
/-- where the first spot begins, if it is right. -/
theorem tile_not {l rest : List (Nat × Nat)} {F c h k : Nat} {i : Nat} (hl : l = l.take i ++ (h, k) :: rest) (hi : Tile F (l.take i) c) (hF : ∀ x y, l[0]? = some (x, y) → Node x y → F = y * 2 ^ x) (hn : ¬ (Node h k ∧ k * 2 ^ h = c)) : ¬ ∃ a b, l ≠ [] ∧ Tile a l b := by
  rintro ⟨a, b, _, ht⟩
  rw [hl] at ht
  obtain ⟨c', h1, h2, h3, h4⟩ := ht.split
  dsimp only at h2 h3
  apply hn
  refine ⟨h2, ?_⟩
  by_cases h0 : l.take i = []
  · rw [h0] at hi hl
    have e : F = c := hi
    rw [← e]
    exact (hF h k (by rw [hl]; rfl) h2).symm
  · rw [(Tile.same h0 h1 hi).2] at h3
    exact h3
theorem take_at {l : List (Nat × Nat)} {i h k : Nat} (e : l[i]? = some (h, k)) : l = l.take i ++ (h, k) :: l.drop (i + 1) ∧ l.take (i + 1) = l.take i ++ [(h, k)] := by
  obtain ⟨hi, e2⟩ := List.getElem?_eq_some_iff.1 e
  refine ⟨?_, ?_⟩
  · rw [← e2, List.getElem_cons_drop, List.take_append_drop]
  · rw [List.take_add_one, e]
    rfl
theorem at_lt {l : List (Nat × Nat)} {i : Nat} (h : i < l.length) : ∃ x y, l[i]? = some (x, y) := ⟨_, _, List.getElem?_eq_getElem h⟩
end Go.Proofs.YtfgbojbhheokjaaGreatDoor

/- What Places and PrefixPlaces of package proof answer. -/
namespace Go.Proofs.YtfgbojbhheokjaaGreatDoor
open Go.RowKit

/-- the places so far: the earlier peaks, and of the spots behind them the first j. -/
def SOFARP (PK : List Nat) (S : List (Nat × Nat)) (j : Nat) : List Nat := PK ++ PLCS (S.take j)
theorem places_size (i n : Int) (hn : 4611686018427387904 < n) (w : World) : Calls Tryz.prog 21 #[.int .u64 i, .int .u64 n] w fun e w' => e = .returned (.tuple #[.slice none 0 0, .int .i64 30]) ∧ w = w' := by
  go_enter Tryz.func21, Tryz.ntmps21
  go_wp2
  go_ret2
  exact ⟨rfl, rfl⟩
theorem places_index (i n : Int) (hn : ¬ 4611686018427387904 < n) (hi : ¬ i < n) (w : World) : Calls Tryz.prog 21 #[.int .u64 i, .int .u64 n] w fun e w' => e = .returned (.tuple #[.slice none 0 0, .int .i64 32]) ∧ w = w' := by
  have c := path_not i n (by omega)
  clear hi
  go_enter Tryz.func21, Tryz.ntmps21
  go_wp2_with fail
  refine (c _).mono ?_
  rintro e w' ⟨rfl, rfl⟩
  clear c
  go_wp2
  go_ret2
  exact ⟨rfl, rfl⟩
theorem app_apart {w : World} {v : Value} {g gp : Nat} (hne : v.ownBlock ≠ some gp) (hgp : gp < w.heap.size) (hat : v.ownBlock = some g ∨ g = w.heap.size) : some g ≠ some gp := by
  intro e
  have e : g = gp := by simpa using e
  subst e
  rcases hat with h | h
  · exact hne h
  · omega
/-- the places so far: the way, and of the peaks the first j but the one over the leaf. -/
def SOFAR (A P : List Nat) (K j : Nat) : List Nat := A ++ (P.take j).eraseIdx K
theorem SOFAR_zero (A P : List Nat) (K : Nat) : SOFAR A P K 0 = A := by simp [SOFAR]
theorem SOFAR_all (A P : List Nat) (K : Nat) : SOFAR A P K P.length = A ++ P.eraseIdx K := by simp [SOFAR]
theorem take_getD {P : List Nat} {j : Nat} (hj : j < P.length) : P.take (j + 1) = P.take j ++ [P.getD j 0] := by
  rw [List.take_add_one, List.getD, List.getElem?_eq_getElem hj]
  rfl
theorem SOFAR_skip (A P : List Nat) (K : Nat) (hK : K < P.length) : SOFAR A P K (K + 1) = SOFAR A P K K := by
  unfold SOFAR
  rw [take_getD hK, erase_snoc, if_pos (by rw [List.length_take]; omega)]
theorem SOFAR_next (A P : List Nat) (K j : Nat) (hj : j < P.length) (hK : j ≠ K) : SOFAR A P K (j + 1) = SOFAR A P K j ++ [P.getD j 0] := by
  unfold SOFAR
  rw [take_getD hj, erase_snoc, if_neg (by rw [List.length_take]; omega), List.append_assoc]
theorem SOFAR_length (A P : List Nat) (K j : Nat) : (SOFAR A P K j).length ≤ A.length + P.length := by
  unfold SOFAR
  rw [List.length_append]
  have h1 := List.length_eraseIdx_le (P.take j) K
  have h2 := List.length_take_le' j P
  omega
set_option maxHeartbeats 1000000 in
theorem places_ok (i n : Nat) (hi : i < n) (hn : n ≤ 4611686018427387904) (w : World) (hT : Tabled w) (h0 : 0 < w.heap.size) : Calls Tryz.prog 21 #[.int .u64 (i : Int), .int .u64 (n : Int)] w fun e w' =>
    ∃ v, e = .returned (.tuple #[v, .int .i64 0]) ∧ w'.ownsRow w.heap.size 24 1 v (PLCS (PSP i n)).length (UCELLS (PLCS (PSP i n))) ∧ Below w.heap.size w w' := by
  have c1 := path_ok i n hi hn w
  have c2 := peak_ok i n hi hn
  have hd : ¬ (4611686018427387904 : Int) < (n : Int) := by omega
  have C3 : Aside (∀ W, Below w.heap.size w W → Calls Tryz.prog 41 #[.int .u64 (n : Int)] W fun e w' => ∃ g cap, e = .returned (.slice (some ⟨g, 0, none⟩) (PC n) cap) ∧ w'.ownsRow W.heap.size 24 1 (.slice (some ⟨g, 0, none⟩) (PC n) cap) (PC n) (UCELLS (PEAKS n)) ∧ Below W.heap.size W w') :=
    fun W h => peaks_ok n hn W (hT.below h0 h) (Nat.lt_of_lt_of_le h0 h.size)
  have hP := PEAKS_length (n := n) (by omega)
  have hP6 := PC_lt_pow 64 n (by omega)
  have hR6 := (RISE_spec hi hn).2.1
  have hKl := KTH_lt hi hn
  rw [PSP_places hn]
  have hWl := WAY_length i (RISE i n)
  generalize WAY i (RISE i n) = A at *
  generalize PEAKS n = PK at *
  generalize RISE i n = R at *
  generalize KTH i n = K at *
  generalize PC n = P at *
  obtain ⟨X, hX⟩ : ∃ X, A ++ PK.eraseIdx K = X := ⟨_, rfl⟩
  rw [hX]
  obtain ⟨N, hN⟩ : ∃ N, X.length = N := ⟨_, rfl⟩
  rw [hN]
  have HA : Aside (PK.length = P ∧ P ≤ 64 ∧ R ≤ 62 ∧ K < P ∧ A.length = R) := ⟨hP, hP6, hR6, hKl, hWl⟩
  have HX : Aside (SOFAR A PK K P = X ∧ X.length = N) := ⟨by rw [← hX, ← hP]; exact SOFAR_all _ _ _, hN⟩
  clear hX hN
  clear hP hP6 hR6 hKl hWl hT h0 hi hn
  go_enter Tryz.func21, Tryz.ntmps21
  go_wp2_with fail
  refine c1.mono ?_
  rintro e w1 ⟨g, cap, rfl, hown, hg, hb⟩
  clear c1
  have R1 : Aside (w1.ownsRow w.heap.size 24 1 (.slice (some ⟨g, 0, none⟩) R cap) R (UCELLS A) ∧ Below w.heap.size w w1 ∧ g < w1.heap.size) := ⟨hown, hb, hg⟩
  clear hown hg hb
  go_wp2_with fail
  refine (c2 _).mono ?_
  rintro e w' ⟨rfl, rfl⟩
  clear c2
  go_wp2_with fail
  refine (C3.out _ R1.out.2.1).mono ?_
  rintro e w2 ⟨gp, capp, rfl, hrow, hb2⟩
  have R2 : Aside (w2.ownsRow w.heap.size 24 1 (.slice (some ⟨g, 0, none⟩) R cap) (SOFAR A PK K 0).length (UCELLS (SOFAR A PK K 0)) ∧ Below w.heap.size w w2 ∧ some g ≠ some gp ∧ w2.ownsRow w1.heap.size 24 1 (.slice (some ⟨gp, 0, none⟩) P capp) P (UCELLS PK)) := by
    obtain ⟨a1, a2, a3⟩ := R1.out
    have hgp := hrow.lt gp rfl
    refine ⟨?_, a2.trans (hb2.mono a2.size), fun e => ?_, hrow⟩
    · rw [SOFAR_zero, HA.out.2.2.2.2]
      exact own_below a1 hb2
    · have e : g = gp := by simpa using e
      omega
  clear R1 hrow hb2 C3
  go_wp2
  go_loopg [6, 31] P (fun q s6 s31 wx => ∃ j : Nat, s31 = .int .i64 (j : Int) ∧ Aside (j + q = P ∧ wx.ownsRow w.heap.size 24 1 s6 (SOFAR A PK K j).length (UCELLS (SOFAR A PK K j)) ∧ Below w.heap.size w wx ∧ s6.ownBlock ≠ some gp ∧ wx.ownsRow w1.heap.size 24 1 (.slice (some ⟨gp, 0, none⟩) P capp) P (UCELLS PK)))
  case atStart => exact ⟨0, rfl, by omega, R2.out.1, R2.out.2.1, R2.out.2.2.1, R2.out.2.2.2⟩
  case round =>
    obtain ⟨j, rfl, A1⟩ := hrel
    clear R2
    cases gk with
    | zero =>
      obtain ⟨hj, hown, hbel, hne, hrow⟩ := A1.out
      obtain rfl : j = P := by omega
      have hlt : ¬ (j : Int) < (j : Int) := by omega
      have R : Aside (wr.ownsRow w.heap.size 24 1 u6 N (UCELLS X) ∧ Below w.heap.size w wr) := by
        rw [HX.out.1, HX.out.2] at hown
        exact ⟨hown, hbel⟩
      clear hj hown hbel hne hrow A1 HA
      go_wp2
      go_ret2
      exact ⟨_, rfl, R.out.1, R.out.2⟩
    | succ q =>
      obtain ⟨hj, hown, hbel, hne, hrow⟩ := A1.out
      obtain ⟨a1, a2, a3, a4, a5⟩ := HA.out
      have hlt : (j : Int) < (P : Int) := by omega
      have hc : wr.cell? ⟨gp, j, none⟩ = some (.int .u64 ((PK.getD j 0 : Nat) : Int)) := by
        have hrow' := hrow
        rw [← a1] at hrow'
        exact row_at hrow' j (by omega)
      have e1 : wrap64 ((j : Int) + 1) = ((j + 1 : Nat) : Int) := by unfold wrap64; omega
      by_cases hk : j = K
      · subst hk
        have R : Aside (j + 1 + q = P ∧ wr.ownsRow w.heap.size 24 1 u6 (SOFAR A PK j (j + 1)).length (UCELLS (SOFAR A PK j (j + 1))) ∧ Below w.heap.size w wr ∧ u6.ownBlock ≠ some gp ∧ wr.ownsRow w1.heap.size 24 1 (.slice (some ⟨gp, 0, none⟩) P capp) P (UCELLS PK)) := ⟨by omega, by rw [SOFAR_skip _ _ _ (by omega)]; exact hown, hbel, hne, hrow⟩
        clear hj hown hbel hne hrow a1 a2 a3 a4 a5 A1
        generalize PK.getD j 0 = y at hc
        go_wp2
        go_roundg q
        case measure => omega
        case rel => exact ⟨j + 1, by first | rfl | (rw [e1]), R.out⟩
      · have hk' : ((j : Int) != (K : Int)) = true := by simp; omega
        have hnx := SOFAR_next A PK K j (by omega) hk
        have hll := SOFAR_length A PK K j
        generalize PK.getD j 0 = y at *
        have R : Aside (j + 1 + q = P ∧ wr.ownsRow w.heap.size 24 1 u6 (SOFAR A PK K j).length (UCELLS (SOFAR A PK K j)) ∧ Below w.heap.size w wr ∧ u6.ownBlock ≠ some gp ∧ wr.ownsRow w1.heap.size 24 1 (.slice (some ⟨gp, 0, none⟩) P capp) P (UCELLS PK) ∧ SOFAR A PK K (j + 1) = SOFAR A PK K j ++ [y] ∧ (SOFAR A PK K j).length ≤ 1000) := ⟨by omega, hown, hbel, hne, hrow, hnx, by omega⟩
        clear hj hown hbel hne hrow a1 a2 a3 a4 a5 A1 hnx hll
        go_wp2_with (at_builtin; refine app_more _ rfl (.tmp 39) (.tmp 41) rfl w.heap.size u6 _ (UCELLS (SOFAR A PK K j)) rfl (R.out.2.1.alloc _) wr.heap.size 1 (y : Int) rfl (by rw [World.cell?_alloc_at _ _ _ _ rfl]; rfl) R.out.2.2.2.2.2.2 (by have := R.out.2.2.1.size; simp; omega) ?_; intro g' cap' w3 hown hgrow hat hg)
        have R3 : Aside (j + 1 + q = P ∧ w3.ownsRow w.heap.size 24 1 (.slice (some ⟨g', 0, none⟩) ((SOFAR A PK K j).length + 1) cap') (SOFAR A PK K (j + 1)).length (UCELLS (SOFAR A PK K (j + 1))) ∧ Below w.heap.size w w3 ∧ some g' ≠ some gp ∧ w3.ownsRow w1.heap.size 24 1 (.slice (some ⟨gp, 0, none⟩) P capp) P (UCELLS PK)) := by
          obtain ⟨r1, r2, r3, r4, r5, r6, r7⟩ := R.out
          have hgp := r5.lt gp rfl
          refine ⟨r1, ?_, (r3.alloc r3.size _).grown hgrow (by have := r3.size; simp; omega) (fun k e => (r2.lt k e).1), app_apart r4 (by simp; omega) hat, (r5.alloc _).kept hgrow (.inr fun e => r4 e.symm)⟩
          rw [r6, UCELLS_snoc, List.length_append]
          exact hown
        clear R hown hgrow hat hg hc
        go_wp2
        go_roundg q
        case measure => omega
        case rel => exact ⟨j + 1, by first | rfl | (rw [e1]), R3.out⟩

theorem PLCS_next {l : List (Nat × Nat)} {j h k : Nat} (e : l[j]? = some (h, k)) : PLCS (l.take (j + 1)) = PLCS (l.take j) ++ [PLC h k] := by
  rw [(take_at e).2, PLCS_append]
  rfl
end Go.Proofs.YtfgbojbhheokjaaGreatDoor

/- What written, Encode and EncodePrefix of package proof answer. -/
namespace Go.Proofs.YtfgbojbhheokjaaGreatDoor
open Go.RowKit
set_option maxRecDepth 100000

/-- so many hashes lie there, told as their bytes, one behind the other. -/
def Flat (w : World) (a : Option Addr) (n : Nat) (l : List Int) : Prop :=
  l.length = 32 * n ∧ (0 < n → ∃ b o, a = some ⟨b, o, none⟩ ∧ b < w.heap.size ∧ ∀ j, j < 32 * n → w.cell? ⟨b, o + j, none⟩ = some (.int .u8 (l.getD j 0))) ∧ ∀ x ∈ l, 0 ≤ x ∧ x ≤ 255
theorem Flat.below {w w' : World} {a : Option Addr} {n : Nat} {l : List Int} (h : Flat w a n l) (hb : Below w.heap.size w w') : Flat w' a n l :=
  ⟨h.1, fun hn => by
    obtain ⟨b, o, e, hl, hc⟩ := h.2.1 hn
    exact ⟨b, o, e, Nat.lt_of_lt_of_le hl hb.size, fun i hi => (hb.cell (by exact hl)).trans (hc i hi)⟩, h.2.2⟩
/-- the bytes of the i-th hash. -/
def HSH (l : List Int) (i : Nat) : List Int := (l.drop (32 * i)).take 32
theorem HSH_length {l : List Int} {n i : Nat} (hl : l.length = 32 * n) (hi : i < n) : (HSH l i).length = 32 := by
  unfold HSH
  rw [List.length_take, List.length_drop]
  omega
theorem HSH_at {l : List Int} {i j : Nat} (hj : j < 32) : (HSH l i).getD j 0 = l.getD (32 * i + j) 0 := by
  unfold HSH
  rw [List.getD_eq_getElem?_getD, List.getElem?_take, if_pos hj, List.getElem?_drop, List.getD_eq_getElem?_getD]
theorem HSH_mem {l : List Int} {i : Nat} {x : Int} (h : x ∈ HSH l i) : x ∈ l := List.mem_of_mem_drop (List.mem_of_mem_take h)
theorem HSH_next (l : List Int) (i : Nat) : l.take (32 * (i + 1)) = l.take (32 * i) ++ HSH l i := by
  unfold HSH
  rw [show 32 * (i + 1) = 32 * i + 32 by omega, List.take_add]
theorem info_hash32 : (Tryz.prog.info? 23).map (·.size) = some 32 := by kernel_rfl
theorem info_cells {h : List Int} (hl : h.length = 32) : (Tryz.prog.info? 23).map (·.size) = some (CELLS h).length := by
  rw [info_hash32, show (CELLS h).length = 32 by simp [CELLS, hl]]
theorem info_arr {h : List Int} (hl : h.length = 32) : (Tryz.prog.info? 23).map (·.size) = some (CELLS h).toArray.size := by
  rw [info_hash32, show (CELLS h).toArray.size = 32 by simp [CELLS, hl]]
theorem cells_one (h : List Int) : (CELLS h).toArray.all (·.oneCell') = true := by
  rw [Array.all_eq_true_iff_forall_mem]
  intro v hv
  exact CELLS_one h v (by simpa using hv)
theorem Flat.at {w : World} {b o n : Nat} {l : List Int} {i : Nat} (h : Flat w (some ⟨b, o, none⟩) n l) (hi : i < n) : w.rangeAt b (o + i * 32) (CELLS (HSH l i)) := by
  intro j v hv
  obtain ⟨b', o', e, _, hc⟩ := h.2.1 (by omega)
  simp only [Option.some.injEq, Addr.mk.injEq] at e
  obtain ⟨rfl, rfl, _⟩ := e
  have hj : j < 32 := by
    have := (List.getElem?_eq_some_iff.1 hv).1
    rw [show (CELLS (HSH l i)).length = 32 by simp [CELLS, HSH_length h.1 hi]] at this
    exact this
  rw [CELLS_get _ _ (by rw [HSH_length h.1 hi]; exact hj), HSH_at hj] at hv
  rw [show o + i * 32 + j = o + (32 * i + j) by omega, hc _ (by omega)]
  exact hv
/-- a box that holds a hash reads as its bytes. -/
theorem box_bytes (w : World) {h : List Int} (hl : h.length = 32) (hr : ∀ x ∈ h, 0 ≤ x ∧ x ≤ 255) (t : TypeId) : Bytes (w.alloc (.cells (CELLS h).toArray t)) (some ⟨w.heap.size, 0, none⟩) 32 h := by
  refine ⟨hl, fun _ => ⟨w.heap.size, 0, rfl, by simp, fun i hi => ?_⟩, hr⟩
  rw [Nat.zero_add, World.cell?_alloc_at _ _ _ _ rfl, List.getElem?_toArray, CELLS_get h i (by omega)]
theorem own_one (w : World) (x : Int) : (w.alloc (.cells #[.int .u8 x] 5)).ownsRow w.heap.size 5 1 (.slice (some ⟨w.heap.size, 0, none⟩) 1 1) 1 (CELLS [x]) :=
  World.ownsRow_lit w #[.int .u8 x] 1 (Nat.le_refl _) (by simp [maxLen]) rfl
theorem own_len {w : World} {base n : Nat} {v : Value} {l : List Int} (h : w.ownsRow base 5 1 v n (CELLS l)) : l.length = n := by
  have := h.1
  simpa [CELLS] using this

end Go.Proofs.YtfgbojbhheokjaaGreatDoor

/- What Encode and EncodePrefix answer, of any proof; the law's awake. -/
namespace Go.Proofs.YtfgbojbhheokjaaGreatDoor
open Go.RowKit
set_option maxRecDepth 100000

/-- what Places answers: the error, the places. -/
def PLA (i n : Nat) : Int × List Nat := if 4611686018427387904 < n then (30, []) else if n ≤ i then (32, []) else (0, PLCS (PSP i n))
/-- what PrefixPlaces answers. -/
def PPA (m n : Nat) : Int × List Nat := if 4611686018427387904 < n ∨ n < m then (30, []) else (0, PLCS (PXS m n))
theorem PLA_few (i n : Nat) : (PLA i n).2.length ≤ 188 := by
  unfold PLA
  split
  · simp
  · split
    · simp
    · have := PSP_few (i := i) (n := n) (by omega) (by omega)
      simp only [PLCS_length]
      omega
theorem PPA_few (m n : Nat) : (PPA m n).2.length ≤ 188 := by
  unfold PPA
  split
  · simp
  · have := PXS_length (m := m) (n := n) (by omega) (by omega)
    simp only [PLCS_length]
    omega
theorem nil_row (w : World) : w.ownsRow w.heap.size 24 1 (.slice none 0 0) ([] : List Nat).length (UCELLS []) := World.ownsRow_nil _ _ _ _
theorem pla_ok (i n : Nat) (w : World) (hT : Tabled w) (h0 : 0 < w.heap.size) : Calls Tryz.prog 21 #[.int .u64 (i : Int), .int .u64 (n : Int)] w fun e w' =>
    ∃ v, e = .returned (.tuple #[v, .int .i64 (PLA i n).1]) ∧ w'.ownsRow w.heap.size 24 1 v (PLA i n).2.length (UCELLS (PLA i n).2) ∧ Below w.heap.size w w' := by
  unfold PLA
  split
  · refine (places_size _ _ (by omega) w).mono ?_
    rintro e w' ⟨rfl, rfl⟩
    exact ⟨_, rfl, nil_row w, Below.refl _ _⟩
  · split
    · refine (places_index _ _ (by omega) (by omega) w).mono ?_
      rintro e w' ⟨rfl, rfl⟩
      exact ⟨_, rfl, nil_row w, Below.refl _ _⟩
    · exact places_ok i n (by omega) (by omega) w hT h0
/-- the bytes of a proof that needs P nodes (or none, by the error E) and has n, or what is wrong. -/
def ENCB (k E : Int) (P n X Y : Nat) (l : List Int) : Int × List Int := if E ≠ 0 then (E, []) else if n ≠ P then (70, []) else (0, k :: (SHORT X ++ SHORT Y ++ l))
/-- what Encode answers. -/
def ENC (S I n : Nat) (l : List Int) : Int × List Int := ENCB 77 (PLA I S).1 (PLA I S).2.length n S I l
/-- what EncodePrefix answers. -/
def ENX (F S n : Nat) (l : List Int) : Int × List Int := ENCB 80 (PPA F S).1 (PPA F S).2.length n F S l
theorem nil_bytes (w : World) : w.ownsRow w.heap.size 5 1 (.slice none 0 0) ([] : List Int).length (CELLS []) := World.ownsRow_nil _ _ _ _
theorem nil_bytes' (w : World) (b : Nat) : w.ownsRow b 5 1 (.slice none 0 0) ([] : List Int).length (CELLS []) := World.ownsRow_nil _ _ _ _
/-- an error and bytes of one's own are answered. -/
def ANSB (w : World) (A : Int × List Int) (e : Ending) (w' : World) : Prop := ∃ v, e = .returned (.tuple #[v, .int .i64 A.1]) ∧ w'.ownsRow w.heap.size 5 1 v A.2.length (CELLS A.2) ∧ Below w.heap.size w w'
/-! the law's awake -/
theorem PLA_awake : PLA 1 7 = (0, [0, 5, 9, 10]) := by decide
theorem ENC_awake : ENC 1 0 0 [] = (0, [77, 1, 0]) := by decide
theorem row_at_u64 {w : World} {base : Nat} {v : Value} {l : List Nat} (h : w.ownsRow base 24 1 v l.length (UCELLS l)) (h0 : 0 < l.length) : ∃ g c, v = .slice (some ⟨g, 0, none⟩) l.length c ∧ g < w.heap.size ∧ ∀ j, j < l.length → w.cell? ⟨g, j, none⟩ = some (.int .u64 ((l.getD j 0 : Nat) : Int)) := by
  obtain ⟨a, c, e, hh⟩ := nums_own h
  obtain ⟨g, rfl, hg, hc⟩ := hh h0
  exact ⟨g, c, e, hg, hc⟩
end Go.Proofs.YtfgbojbhheokjaaGreatDoor

/- What the document's Span answers. -/
namespace Go.Proofs.YtfgbojbhheokjaaGreatDoor
open Go.RowKit

theorem wrap_near' (h : Nat) (hh : h < 62) : wrap64 ((h + 1 : Nat) : Int) = ((h + 1 : Nat) : Int) := by unfold wrap64; omega
theorem wrap_pow (h : Nat) (hh : h ≤ 62) : wrap64 ((h : Int) + 1) = ((h + 1 : Nat) : Int) := by unfold wrap64; omega
end Go.Proofs.YtfgbojbhheokjaaGreatDoor
