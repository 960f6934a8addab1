/- Texts of ClashPeaks, one behind the other: ClashHoldsCall, ClashFairState. -/
import Derived.Deep.Cut
import Derived.Deep.QuietTactic
import Derived.BigQuiet
import Derived.Test.YtbmjoiiagldklaaDoorClashPeaksP13
import Derived.Test.YtbmjoiiagldklaaDoorClashPeaksP14
import Derived.Test.YtbmjoiiagldklaaDoorClashPeaksP20
import Derived.Test.YtbmjoiiagldklaaDoorClashPeaksP24
/- clash.Holds and the document's answer to it. -/
namespace Go.Proofs.YtbmjoiiagldklaaDoor.HX
open Go.RowKit
set_option maxRecDepth 100000

/-- two unlike texts with one hash. -/
def HOLDS (d : Int) (l k : List Nat) : Bool := !decide (l = k) && (List.range 32).all fun i => HASHOF d l i == HASHOF d k i
theorem kept9 {w w' : World} (hb : Below w.heap.size w w') : ∀ (j : Nat) C t, Has w j C t → Has w' j C t := fun _ _ _ h => h.keep hb
theorem HOLDS_eq (d : Int) (l : List Nat) : HOLDS d l l = false := by simp [HOLDS]
theorem HOLDS_ne (d : Int) {l k : List Nat} (h : l ≠ k) : HOLDS d l k = (List.range 32).all fun i => HASHOF d l i == HASHOF d k i := by simp [HOLDS, h]
theorem holds9_ok (d : Int) (a : Option Addr) (n c : Nat) (l : List Nat) (b : Option Addr) (m c' : Nat) (k : List Nat) (w : World) (h1 : Text w a n l) (hc1 : n ≤ c) (hx1 : ∀ x, a = some x → x.block < w.heap.size) (hn : n < 2 ^ 60) (h2 : Text w b m k) (hc2 : m ≤ c') (hx2 : ∀ x, b = some x → x.block < w.heap.size) (hm : m < 2 ^ 60) (hT : Tabled w) : Calls Tryd.prog 16 #[.int .i64 d, .agg #[.slice a n c, .slice b m c']] w fun e w' => e = .returned (.bool (HOLDS d l k)) ∧ Below w.heap.size w w' := by
  have hb0 : Below w.heap.size w (w.alloc (.cells #[.slice a n c, .slice b m c'] 32)) := (Below.refl _ _).alloc (Nat.le_refl _) _
  have hbox : Has (w.alloc (.cells #[.slice a n c, .slice b m c'] 32)) w.heap.size #[.slice a n c, .slice b m c'] 32 := Has.new w _ _
  have H : Aside (Text w a n l ∧ n ≤ c ∧ (∀ x, a = some x → x.block < w.heap.size) ∧ n < 2 ^ 60 ∧ Text w b m k ∧ m ≤ c' ∧ (∀ x, b = some x → x.block < w.heap.size) ∧ m < 2 ^ 60 ∧ Tabled w) := ⟨h1, hc1, hx1, hn, h2, hc2, hx2, hm, hT⟩
  clear h1 hc1 hx1 hn h2 hc2 hx2 hm hT
  have HR : Aside ((l = k → HOLDS d l k = false) ∧ (l ≠ k → HOLDS d l k = (List.range 32).all fun i => HASHOF d l i == HASHOF d k i)) := ⟨fun h => by subst h; exact HOLDS_eq d l, fun h => HOLDS_ne d h⟩
  generalize HOLDS d l k = hr at *
  go_enter Tryd.func16, Tryd.ntmps16
  go_upto_region 1 with fail
  generalize hw1 : w.alloc (.cells #[.slice a n c, .slice b m c'] 32) = w1 at *
  have hs : ∀ W, Below w1.heap.size w1 W → W.cell? ⟨w.heap.size, 0, none⟩ = some (.slice a n c) ∧ W.cell? ⟨w.heap.size, 1, none⟩ = some (.slice b m c') := fun W hb => by
    have h := hbox.keep hb
    exact ⟨(h.cell 0).trans rfl, (h.cell 1).trans rfl⟩
  have hbw : ∀ W, Below w1.heap.size w1 W → Below w.heap.size w W := fun W hb => hb0.trans (hb.mono hb0.size)
  by_cases e : l = k
  · have hr0 := HR.out.1 e
    subst e
    refine HA_off _ _ _ _ _ _ _ _ _ _ _ _ _ _ _ _ _ _ _ _ _ w1 d w.heap.size a n c b m c' (fun W => Below w1.heap.size w1 W) hs (Below.refl _ _).drew (fun W hW => ?_) (fun _ _ _ _ _ h => h) ?_
    · refine (bytesequal_ok a n c l b m c' l W (H.out.1.below (hbw W hW)) (H.out.2.2.2.2.1.below (hbw W hW))).mono ?_
      rintro e w' ⟨rfl, rfl⟩
      exact ⟨by rw [decide_eq_true rfl], hW⟩
    · intro W hW
      have R := hbw W hW
      clear hW hs hbw hbox hb0 hw1
      go_wp2
      go_ret
      exact ⟨by first | rfl | (subst hr0; rfl) | (rw [hr0]; rfl), R⟩
  · have hr0 := HR.out.2 e
    clear HR
    refine HA_on _ _ _ _ _ _ _ _ _ _ _ _ _ _ _ _ _ _ _ _ _ w1 d w.heap.size a n c b m c' (fun W => Below w1.heap.size w1 W) hs (Below.refl _ _).drew (HASHOF d l) (HASHOF d k) ((List.range 32).all fun i => HASHOF d l i == HASHOF d k i) (fun W o hW => hW.alloc hW.size _) (fun W => equal_hash _ _ W) (fun W hW => ?_) (fun W g hW hg => ?_) (fun W g hW hg => ?_) (fun _ _ _ _ _ h => h) ?_
    · refine (bytesequal_ok a n c l b m c' k W (H.out.1.below (hbw W hW)) (H.out.2.2.2.2.1.below (hbw W hW))).mono ?_
      rintro e' w' ⟨rfl, rfl⟩
      exact ⟨by rw [decide_eq_false e], hW⟩
    · have hb := hbw W hW
      refine (sum9 d W g a n c l hg (H.out.1.below hb) H.out.2.1 (fun x hx => Nat.lt_of_lt_of_le (H.out.2.2.1 x hx) hb.size) H.out.2.2.2.1 (H.out.2.2.2.2.2.2.2.2.below hb)).mono ?_
      rintro e' w' ⟨rfl, hb'⟩
      exact ⟨rfl, hW.trans (hb'.mono hW.size), kept9 hb'⟩
    · have hb := hbw W hW
      refine (sum9 d W g b m c' k hg (H.out.2.2.2.2.1.below hb) H.out.2.2.2.2.2.1 (fun x hx => Nat.lt_of_lt_of_le (H.out.2.2.2.2.2.2.1 x hx) hb.size) H.out.2.2.2.2.2.2.2.1 (H.out.2.2.2.2.2.2.2.2.below hb)).mono ?_
      rintro e' w' ⟨rfl, hb'⟩
      exact ⟨rfl, hW.trans (hb'.mono hW.size), kept9 hb'⟩
    · intro g g2 W hW
      have R := hbw W hW
      clear hW hs hbw hbox hb0 hw1 e
      generalize ((List.range 32).all fun i => HASHOF d l i == HASHOF d k i) = r at *
      go_wp2
      go_ret
      exact ⟨by first | rfl | (subst hr0; rfl) | (rw [hr0]; rfl), R⟩
theorem lawholds9_ok (d : Int) (a : Option Addr) (n c : Nat) (l : List Nat) (b : Option Addr) (m c' : Nat) (k : List Nat) (w : World) (h1 : Text w a n l) (hc1 : a = none → c = 0) (hn : n < 2 ^ 30) (h2 : Text w b m k) (hc2 : b = none → c' = 0) (hm : m < 2 ^ 30) : Calls Tryd.prog 25 #[.int .i64 d, .agg #[.slice a n c, .slice b m c']] w fun e w' => e = .returned (.bool (HOLDS d l k)) ∧ Below w.heap.size w w' := by
  have hb0 : Below w.heap.size w (w.alloc (.cells #[.slice a n c, .slice b m c'] 32)) := (Below.refl _ _).alloc (Nat.le_refl _) _
  have hbox : Has (w.alloc (.cells #[.slice a n c, .slice b m c'] 32)) w.heap.size #[.slice a n c, .slice b m c'] 32 := Has.new w _ _
  have H : Aside (Text w a n l ∧ (a = none → c = 0) ∧ n < 2 ^ 30 ∧ Text w b m k ∧ (b = none → c' = 0) ∧ m < 2 ^ 30) := ⟨h1, hc1, hn, h2, hc2, hm⟩
  clear h1 hc1 hn h2 hc2 hm
  have HR : Aside ((l = k → HOLDS d l k = false) ∧ (l ≠ k → HOLDS d l k = (List.range 32).all fun i => HASHOF d l i == HASHOF d k i)) := ⟨fun h => by subst h; exact HOLDS_eq d l, fun h => HOLDS_ne d h⟩
  generalize HOLDS d l k = hr at *
  go_enter Tryd.func25, Tryd.ntmps25
  go_upto_region 1 with fail
  generalize hw1 : w.alloc (.cells #[.slice a n c, .slice b m c'] 32) = w1 at *
  have hs : ∀ W, Below w1.heap.size w1 W → W.cell? ⟨w.heap.size, 0, none⟩ = some (.slice a n c) ∧ W.cell? ⟨w.heap.size, 1, none⟩ = some (.slice b m c') := fun W hb => by
    have h := hbox.keep hb
    exact ⟨(h.cell 0).trans rfl, (h.cell 1).trans rfl⟩
  have hbw : ∀ W, Below w1.heap.size w1 W → Below w.heap.size w W := fun W hb => hb0.trans (hb.mono hb0.size)
  by_cases e : l = k
  · have hr0 := HR.out.1 e
    subst e
    refine HB_off _ _ _ _ _ _ _ _ _ _ _ _ _ _ _ _ _ _ _ _ _ w1 d w.heap.size a n c b m c' (fun W => Below w1.heap.size w1 W) hs (Below.refl _ _).drew (fun W hW => ?_) (fun _ _ _ _ _ h => h) ?_
    · refine (samebytes_ok a b n m c c' l l W (H.out.1.below (hbw W hW)) (H.out.2.2.2.1.below (hbw W hW)) (by have := H.out.2.2.1; omega)).mono ?_
      rintro e w' ⟨rfl, hb', -⟩
      exact ⟨by rw [decide_eq_true rfl], hW.trans (hb'.mono hW.size)⟩
    · intro W hW
      have R := hbw W hW
      clear hW hs hbw hbox hb0 hw1
      go_wp2
      go_ret
      exact ⟨by first | rfl | (subst hr0; rfl) | (rw [hr0]; rfl), R⟩
  · have hr0 := HR.out.2 e
    clear HR
    refine HB_on _ _ _ _ _ _ _ _ _ _ _ _ _ _ _ _ _ _ _ _ _ w1 d w.heap.size a n c b m c' (fun W => Below w1.heap.size w1 W) hs (Below.refl _ _).drew (HASHOF d l) (HASHOF d k) ((List.range 32).all fun i => HASHOF d l i == HASHOF d k i) (fun W o hW => hW.alloc hW.size _) (fun W => equal_hash _ _ W) (fun W hW => ?_) (fun W g hW hg => ?_) (fun W g hW hg => ?_) (fun _ _ _ _ _ h => h) ?_
    · refine (samebytes_ok a b n m c c' l k W (H.out.1.below (hbw W hW)) (H.out.2.2.2.1.below (hbw W hW)) (by have := H.out.2.2.1; omega)).mono ?_
      rintro e' w' ⟨rfl, hb', -⟩
      exact ⟨by rw [decide_eq_false e], hW.trans (hb'.mono hW.size)⟩
    · refine (refsum9 d W g a n c l hg (H.out.1.below (hbw W hW)) H.out.2.1 H.out.2.2.1).mono ?_
      rintro e' w' ⟨rfl, hb'⟩
      exact ⟨rfl, hW.trans (hb'.mono hW.size), kept9 hb'⟩
    · refine (refsum9 d W g b m c' k hg (H.out.2.2.2.1.below (hbw W hW)) H.out.2.2.2.2.1 H.out.2.2.2.2.2).mono ?_
      rintro e' w' ⟨rfl, hb'⟩
      exact ⟨rfl, hW.trans (hb'.mono hW.size), kept9 hb'⟩
    · intro g g2 W hW
      have R := hbw W hW
      clear hW hs hbw hbox hb0 hw1 e
      generalize ((List.range 32).all fun i => HASHOF d l i == HASHOF d k i) = r at *
      go_wp2
      go_ret
      exact ⟨by first | rfl | (subst hr0; rfl) | (rw [hr0]; rfl), R⟩
end Go.Proofs.YtbmjoiiagldklaaDoor.HX

/- massiflaw9.fair: what is told is right, told twice the same, in memory of its own. -/
namespace Go.Proofs.YtbmjoiiagldklaaDoor
open Go.RowKit
set_option maxRecDepth 100000

/-- four lists of one's own: no two in one block, none in a block of K. -/
structure FourT (w : World) (B : Nat) (K : Nat → Prop) (v : Nat → Value) (n : Nat → Nat) (xs : Nat → List Value) : Prop where
  row : ∀ x, x < 4 → w.ownsRow B 5 1 (v x) (n x) (xs x)
  apart : ∀ x y, x < 4 → y < 4 → x ≠ y → ∀ g, (v x).ownBlock = some g → (v y).ownBlock ≠ some g
  off : ∀ x, x < 4 → ∀ g, (v x).ownBlock = some g → ¬ K g
/-- a function that is another one at one place. -/
def UPT {α : Type} (f : Nat → α) (x : Nat) (a : α) : Nat → α := fun z => if z = x then a else f z
theorem UPT_at {α : Type} (f : Nat → α) (x : Nat) (a : α) : UPT f x a x = a := by simp [UPT]
theorem UPT_other {α : Type} (f : Nat → α) {x z : Nat} (a : α) (h : z ≠ x) : UPT f x a z = f z := by simp [UPT, h]
theorem info_u8_9 : (Tryd.prog.info? 5).map (fun i => (i.zero, i.size, i.bytes)) = some (some (.int .u8 0), 1, 1) := by kernel_rfl
theorem own_below9 {w w' : World} {B : Nat} {t : TypeId} {s n : Nat} {v : Value} {xs : List Value} (h : w.ownsRow B t s v n xs) (hb : Below w.heap.size w w') : w'.ownsRow B t s v n xs := by
  refine ⟨h.1, h.2.imp id ?_⟩
  rintro ⟨g, c, cur, a1, a2, a3, a4⟩
  exact ⟨g, c, cur, a1, a2, (hb.block g (Array.getElem?_eq_some_iff.1 a3).1).trans a3, a4⟩
theorem FourT.alloc {w : World} {B : Nat} {K : Nat → Prop} {v : Nat → Value} {n : Nat → Nat} {xs : Nat → List Value} (h : FourT w B K v n xs) (o : Obj) : FourT (w.alloc o) B K v n xs := ⟨fun x hx => (h.row x hx).alloc o, h.apart, h.off⟩
theorem FourT.below {w w' : World} {B : Nat} {K : Nat → Prop} {v : Nat → Value} {n : Nat → Nat} {xs : Nat → List Value} (h : FourT w B K v n xs) (hb : Below w.heap.size w w') : FourT w' B K v n xs := ⟨fun x hx => own_below9 (h.row x hx) hb, h.apart, h.off⟩
theorem grown_set9 (W : World) (b j : Nat) (v : Value) : W.grownBy (W.setCell ⟨b, j, none⟩ v) (some b) :=
  ⟨rfl, rfl, rfl, (KeepsWalks.setCell W _ v).size, fun k _ hk => Below.heap_setCell _ _ _ k (fun e => hk (by rw [e]))⟩
/-- what is stored into a block of K. -/
theorem FourT.other {w : World} {B : Nat} {K : Nat → Prop} {v : Nat → Value} {n : Nat → Nat} {xs : Nat → List Value} (h : FourT w B K v n xs) {b : Nat} (hb : K b) (j : Nat) (u : Value) : FourT (w.setCell ⟨b, j, none⟩ u) B K v n xs :=
  ⟨fun x hx => (h.row x hx).kept (grown_set9 w b j u) (.inr fun e => h.off x hx b e hb), h.apart, h.off⟩
/-- what is stored into one of the four. -/
theorem FourT.store {w : World} {B : Nat} {K : Nat → Prop} {v : Nat → Value} {n : Nat → Nat} {xs : Nat → List Value} (h : FourT w B K v n xs) {x g m cap : Nat} (hx : x < 4) (hv : v x = .slice (some ⟨g, 0, none⟩) m cap) (j : Nat) (u : Value) :
    FourT (w.setCell ⟨g, j, none⟩ u) B K v n (UPT xs x ((xs x).set j u)) := by
  refine ⟨fun z hz => ?_, h.apart, h.off⟩
  by_cases e : z = x
  · subst e
    have hr := h.row z hz
    rw [hv] at hr ⊢
    have hm : m = n z := by
      rcases hr.2 with ⟨e, _⟩ | ⟨_, _, _, e, _⟩
      · simp at e
      · simp at e
        omega
    subst hm
    rw [UPT_at]
    exact (hr.stored j u).1
  · rw [UPT_other xs _ e]
    refine (h.row z hz).kept (grown_set9 w g j u) (.inr fun e2 => ?_)
    exact h.apart x z hx hz (fun e3 => e e3.symm) g (by rw [hv]; rfl) e2
/-- one of the four is appended to. -/
theorem FourT.app {w w' : World} {B : Nat} {K : Nat → Prop} {v : Nat → Value} {n : Nat → Nat} {xs : Nat → List Value} (h : FourT w B K v n xs) {x g cap : Nat} {u : Value} (hx : x < 4) (hK : ∀ k, K k → k < w.heap.size)
    (hown : w'.ownsRow B 5 1 (.slice (some ⟨g, 0, none⟩) (n x + 1) cap) (n x + 1) (xs x ++ [u])) (hgrow : w.grownBy w' (v x).ownBlock) (hg : (v x).ownBlock = some g ∨ g = w.heap.size) :
    FourT w' B K (UPT v x (.slice (some ⟨g, 0, none⟩) (n x + 1) cap)) (UPT n x (n x + 1)) (UPT xs x (xs x ++ [u])) := by
  refine ⟨fun z hz => ?_, fun y z hy hz hne k hk => ?_, fun z hz k hk => ?_⟩
  · by_cases e : z = x
    · subst e
      rw [UPT_at, UPT_at, UPT_at]
      exact hown
    · rw [UPT_other v _ e, UPT_other n _ e, UPT_other xs _ e]
      refine (h.row z hz).kept hgrow ?_
      cases hb : (v z).ownBlock with
      | none => exact .inl rfl
      | some k => exact .inr fun e2 => h.apart z x hz hx e k hb e2.symm
  · by_cases ey : y = x
    · subst ey
      rw [UPT_at] at hk
      have hkg : g = k := by simpa [Value.ownBlock] using hk
      subst hkg
      rw [UPT_other v _ (fun e => hne e.symm)]
      intro e2
      rcases hg with hg | hg
      · exact h.apart y z hx hz hne g hg e2
      · have := ((h.row z hz).lt g e2).2
        omega
    · rw [UPT_other v _ ey] at hk
      by_cases ez : z = x
      · subst ez
        rw [UPT_at]
        intro e2
        have hkg : g = k := by simpa [Value.ownBlock] using e2
        subst hkg
        rcases hg with hg | hg
        · exact h.apart y z hy hz hne g hk hg
        · have := ((h.row y hy).lt g hk).2
          omega
      · rw [UPT_other v _ ez]
        exact h.apart y z hy hz hne k hk
  · by_cases ez : z = x
    · subst ez
      rw [UPT_at] at hk
      have hkg : g = k := by simpa [Value.ownBlock] using hk
      subst hkg
      rcases hg with hg | hg
      · exact h.off z hz g hg
      · intro hkk
        have := hK g hkk
        omega
    · rw [UPT_other v _ ez] at hk
      exact h.off z hz k hk
/-- a list's form. -/
theorem own_slice9 {w : World} {B n : Nat} {v : Value} {xs : List Value} (h : w.ownsRow B 5 1 v n xs) : ∃ a cap, v = .slice a n cap ∧ (0 < n → ∃ g, a = some ⟨g, 0, none⟩ ∧ g < w.heap.size ∧ B ≤ g) := by
  rcases h.2 with ⟨rfl, h0⟩ | ⟨g, cap, cur, rfl, hb, hg, r⟩
  · subst h0
    exact ⟨none, 0, rfl, fun h => by omega⟩
  · exact ⟨_, cap, rfl, fun _ => ⟨g, rfl, (Array.getElem?_eq_some_iff.1 hg).1, hb⟩⟩
theorem app_more9 {ops : Array Oper} {rest : List Oper} {o : Oper} {a : Act} {Q : Exit → Act → World → Prop} (w : World) (hgd : o.guard = none) (s x : Operand)
    (ho : o.op = .call { callee := .builtin .append, args := #[s, x], argTypes := #[30, 30] })
    (base : Nat) (v : Value) (n : Nat) (xs : List Value) (hs : a.eval s = v) (hown : w.ownsRow base 5 1 v n xs)
    (b c : Nat) (y : Int) (hx : a.eval x = .slice (some ⟨b, 0, none⟩) 1 c) (hc : w.cell? ⟨b, 0, none⟩ = some (.int .u8 y))
    (hb : n ≤ 100000) (hbase : base ≤ w.heap.size)
    (h : ∀ g cap w', w'.ownsRow base 5 1 (.slice (some ⟨g, 0, none⟩) (n + 1) cap) (n + 1) (xs ++ [.int .u8 y]) → w.grownBy w' v.ownBlock → (v.ownBlock = some g ∨ g = w.heap.size) → g < w'.heap.size → wpList Tryd.prog ops Q rest (a.put o.dst (.slice (some ⟨g, 0, none⟩) (n + 1) cap)) w') : wpList Tryd.prog ops Q (o :: rest) a w := by
  obtain ⟨i, hi, hz, hs1, hby⟩ := info_parts info_u8_9
  refine wpList_append_lies w hgd s x 30 ho base 5 i (.int .u8 0) 1 1 Tryd.underlying30 hi hz hs1 hby rfl (by decide) v n xs hs hown ⟨b, 0, none⟩ 1 c [.int .u8 y] hx rfl ?_ (fun u hu => by simp at hu; subst hu; rfl) (by decide) (by simp only [maxLen]; omega) (by omega) hbase w.heap.size rfl h
  intro j u hj
  cases j with
  | zero =>
    simp only [List.getElem?_cons_zero, Option.some.injEq] at hj
    subst hj
    exact hc
  | succ j => simp at hj
theorem Has.grown9 {w w' : World} {g : Nat} {c : Array Value} {t : TypeId} {row : Option Nat} (h : Has w g c t) (hg : w.grownBy w' row) (hne : row ≠ some g) : Has w' g c t := by
  obtain ⟨_, _, _, _, hk⟩ := hg
  exact (hk g h.lt (fun e => hne e.symm)).trans h
/-- what stands behind the writing. -/
abbrev CX9 (x : Nat) : Value := .int .u8 (((201 + x : Nat)) : Int)
/-- the writing, so far: the lists ahead of x are written over, of list x the first y. -/
def STA (w2 : World) (B9 lb gb : Nat) (c0 cg : Array Value) (V : Nat → Value) (N : Nat → Nat) (x y : Nat) (wx : World) : Prop :=
  ∃ xs : Nat → List Value, FourT wx B9 (fun g => g = lb ∨ g = gb) V N xs ∧ (Has wx lb c0 30 ∧ Has wx gb cg 62) ∧ Below B9 w2 wx ∧ (B9 ≤ w2.heap.size ∧ B9 ≤ lb ∧ B9 ≤ gb) ∧ (∀ z, z < x → ∀ j, j < N z → (xs z)[j]? = some (CX9 z)) ∧ (∀ j, j < y → (xs x)[j]? = some (CX9 x))
theorem STA.next {w2 : World} {B9 lb gb : Nat} {c0 cg : Array Value} {V : Nat → Value} {N : Nat → Nat} {x : Nat} {wx : World} (h : STA w2 B9 lb gb c0 cg V N x (N x) wx) : STA w2 B9 lb gb c0 cg V N (x + 1) 0 wx := by
  obtain ⟨xs, h1, h2, h3, h4, h5, h6⟩ := h
  refine ⟨xs, h1, h2, h3, h4, fun z hz j hj => ?_, fun j hj => by omega⟩
  rcases Nat.lt_or_ge z x with h | h
  · exact h5 z h j hj
  · obtain rfl : z = x := by omega
    exact h6 j hj
theorem STA.store {w2 : World} {B9 lb gb : Nat} {c0 cg : Array Value} {V : Nat → Value} {N : Nat → Nat} {x y g m cap : Nat} {wx : World} (h : STA w2 B9 lb gb c0 cg V N x y wx) (hx : x < 4) (hy : y < N x) (hv : V x = .slice (some ⟨g, 0, none⟩) m cap) : STA w2 B9 lb gb c0 cg V N x (y + 1) (wx.setCell ⟨g, y, none⟩ (CX9 x)) := by
  obtain ⟨xs, h1, h2, h3, h4, h5, h6⟩ := h
  have hg := (h1.row x hx).lt g (by rw [hv]; rfl)
  refine ⟨_, h1.store hx hv y (CX9 x), ⟨h2.1.other (fun e => h1.off x hx g (by rw [hv]; rfl) (.inl e.symm)) _, h2.2.other (fun e => h1.off x hx g (by rw [hv]; rfl) (.inr e.symm)) _⟩, h3.setCell hg.1 _, h4, fun z hz j hj => ?_, fun j hj => ?_⟩
  · rw [UPT_other xs _ (by omega)]
    exact h5 z hz j hj
  · rw [UPT_at, List.getElem?_set]
    have hl : (xs x).length = N x := by have := (h1.row x hx).1; omega
    split
    · rw [if_pos (by omega)]
    · exact h6 j (by omega)
/-- the lists are grown, so far: those ahead of x. -/
structure STB (w2 : World) (B9 lb gb : Nat) (c0 : Array Value) (x : Nat) (wx : World) (V : Nat → Value) (N : Nat → Nat) (xs : Nat → List Value) (cg : Array Value) : Prop where
  four : FourT wx B9 (fun g => g = lb ∨ g = gb) V N xs
  hl : Has wx lb c0 30
  hg : Has wx gb cg 62
  size : cg.size = 4
  bel : Below B9 w2 wx
  hB : B9 ≤ w2.heap.size
  ol : B9 ≤ lb
  og : B9 ≤ gb
  old : ∀ z, x ≤ z → z < 4 → c0[z]? = some (V z)
  new : ∀ z, z < x → cg[z]? = some (V z)
  cell : ∀ z, z < 4 → ∀ j, j < N z → (xs z)[j]? = some (CX9 z)
  len : ∀ z, z < 4 → N z ≤ 202
  few : ∀ z, x ≤ z → z < 4 → N z ≤ 200
theorem STB.step {w2 : World} {B9 lb gb : Nat} {c0 : Array Value} {x : Nat} {wx : World} {V : Nat → Value} {N : Nat → Nat} {xs : Nat → List Value} {cg : Array Value} (h : STB w2 B9 lb gb c0 x wx V N xs cg) (hx : x < 4) (o1 o2 : Obj) {g1 q1 g2 q2 : Nat} {w5 w6 : World}
    (own1 : w5.ownsRow B9 5 1 (.slice (some ⟨g1, 0, none⟩) (N x + 1) q1) (N x + 1) (xs x ++ [CX9 x])) (grow1 : (wx.alloc o1).grownBy w5 (V x).ownBlock) (at1 : (V x).ownBlock = some g1 ∨ g1 = (wx.alloc o1).heap.size)
    (own2 : w6.ownsRow B9 5 1 (.slice (some ⟨g2, 0, none⟩) (N x + 1 + 1) q2) (N x + 1 + 1) (xs x ++ [CX9 x] ++ [CX9 x])) (grow2 : (w5.alloc o2).grownBy w6 (some g1)) (at2 : some g1 = some g2 ∨ g2 = (w5.alloc o2).heap.size) :
    Has w6 gb cg 62 ∧ ∃ V' N' xs', STB w2 B9 lb gb c0 (x + 1) (w6.setCell ⟨gb, x, none⟩ (.slice (some ⟨g2, 0, none⟩) (N x + 1 + 1) q2)) V' N' xs' (cg.setIfInBounds x (.slice (some ⟨g2, 0, none⟩) (N x + 1 + 1) q2)) := by
  have hK : ∀ k, (k = lb ∨ k = gb) → k < (wx.alloc o1).heap.size := fun k hk => by
    rcases hk with rfl | rfl
    · exact (h.hl.alloc o1).lt
    · exact (h.hg.alloc o1).lt
  have F1 := (h.four.alloc o1).app hx hK own1 grow1 at1
  have hr1 : ∀ k, (k = lb ∨ k = gb) → (V x).ownBlock ≠ some k := fun k hk e => h.four.off x hx k e hk
  have l5 := (h.hl.alloc o1).grown9 grow1 (hr1 lb (.inl rfl))
  have g5 := (h.hg.alloc o1).grown9 grow1 (hr1 gb (.inr rfl))
  have hr2 : ∀ k, (k = lb ∨ k = gb) → (some g1 : Option Nat) ≠ some k := fun k hk e => F1.off x hx k (by rw [UPT_at]; exact e) hk
  have hK2 : ∀ k, (k = lb ∨ k = gb) → k < (w5.alloc o2).heap.size := fun k hk => by
    rcases hk with rfl | rfl
    · exact (l5.alloc o2).lt
    · exact (g5.alloc o2).lt
  have l6 := (l5.alloc o2).grown9 grow2 (hr2 lb (.inl rfl))
  have g6 := (g5.alloc o2).grown9 grow2 (hr2 gb (.inr rfl))
  have F2 := (F1.alloc o2).app (x := x) (g := g2) (cap := q2) (u := CX9 x) (w' := w6) hx hK2 (by rw [UPT_at, UPT_at]; exact own2) (by rw [UPT_at]; exact grow2) (by rw [UPT_at]; exact at2)
  have F3 := F2.other (b := gb) (.inr rfl) x (.slice (some ⟨g2, 0, none⟩) (N x + 1 + 1) q2)
  have b5 : Below B9 w2 w5 := (h.bel.alloc (Nat.le_trans h.hB h.bel.size) _).grown grow1 (by have := h.bel.size; have := h.hB; simp; omega) (fun k e => ((h.four.row x hx).lt k e).1)
  have b6 : Below B9 w2 w6 := (b5.alloc (Nat.le_trans h.hB b5.size) _).grown grow2 (by have := b5.size; have := h.hB; simp; omega) (fun k e => (own1.lt k e).1)
  have hlen : (xs x).length = N x := by have := (h.four.row x hx).1; omega
  refine ⟨g6, _, _, _, ⟨F3, l6.other (a := ⟨gb, x, none⟩) (fun e => ?_) _, g6.set x _, by simpa using h.size, b6.setCell (p := ⟨gb, x, none⟩) h.og _, h.hB, h.ol, h.og, fun z hz hz4 => ?_, fun z hz => ?_, fun z hz j hj => ?_, fun z hz => ?_, fun z hz hz4 => ?_⟩⟩
  · have e' : lb = gb := e
    have h1 : wx.heap[lb]? = some (.cells c0 30) := h.hl
    have h2 : wx.heap[gb]? = some (.cells cg 62) := h.hg
    rw [e', h2] at h1
    simp at h1
  · rw [UPT_other _ _ (by omega), UPT_other _ _ (by omega)]
    exact h.old z (by omega) hz4
  · rw [Array.getElem?_setIfInBounds]
    by_cases e : z = x
    · subst e
      rw [if_pos rfl, if_pos (by rw [h.size]; exact hx), UPT_at, UPT_at]
    · rw [if_neg (fun e2 => e e2.symm), UPT_other _ _ e, UPT_other _ _ e]
      exact h.new z (by omega)
  · by_cases e : z = x
    · subst e
      rw [UPT_at, UPT_at] at hj
      rw [UPT_at, UPT_at]
      rcases Nat.lt_or_ge j (N z) with h1 | h1
      · rw [List.append_assoc, List.getElem?_append_left (by omega)]
        exact h.cell z hz j h1
      · rw [List.append_assoc, List.getElem?_append_right (by omega), hlen]
        rcases (show j - N z = 0 ∨ j - N z = 1 by omega) with h2 | h2 <;> rw [h2] <;> rfl
    · rw [UPT_other _ _ e, UPT_other _ _ e] at hj
      rw [UPT_other _ _ e, UPT_other _ _ e]
      exact h.cell z hz j hj
  · by_cases e : z = x
    · subst e
      rw [UPT_at, UPT_at]
      have := h.few z (Nat.le_refl _) hz
      omega
    · rw [UPT_other _ _ e, UPT_other _ _ e]
      exact h.len z hz
  · rw [UPT_other _ _ (by omega), UPT_other _ _ (by omega)]
    exact h.few z (by omega) hz4
theorem STB.start {w2 : World} {B9 lb gb : Nat} {c0 cg : Array Value} {V : Nat → Value} {N : Nat → Nat} {wx : World} (h : STA w2 B9 lb gb c0 cg V N 4 0 wx) (hV : ∀ x, x < 4 → c0[x]? = some (V x)) (hN : ∀ x, x < 4 → N x ≤ 200) (hcg : cg.size = 4) : ∃ xs, STB w2 B9 lb gb c0 0 wx V N xs cg := by
  obtain ⟨xs, h1, h2, h3, h4, h5, h6⟩ := h
  refine ⟨xs, h1, h2.1, h2.2, hcg, h3, h4.1, h4.2.1, h4.2.2, fun z _ hz => hV z hz, fun z hz => by omega, fun z hz j hj => h5 z hz j hj, fun z hz => ?_, fun z _ hz => hN z hz⟩
  have := hN z hz
  omega
end Go.Proofs.YtbmjoiiagldklaaDoor
