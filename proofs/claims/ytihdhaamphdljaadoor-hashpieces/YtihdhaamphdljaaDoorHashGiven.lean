/- A list of texts of one's own, each with a mark behind it. -/
import Derived.Test.YtihdhaamphdljaaDoorHashRow
import Derived.Test.YtihdhaamphdljaaDoorHashRefBlocks
import Derived.Test.YtihdhaamphdljaaDoorHashRefSum
namespace Go.Proofs.YtihdhaamphdljaaDoor
open Go.RowKit
set_option maxRecDepth 100000

/-- as row_ok, and the list is one's own. -/
theorem row_own (a : Option Addr) (n c : Nat) (l : List Nat) (w : World) (hA : Text w a n l) (hc : a = none → c = 0) (hn : n < 2 ^ 40) : Calls Tryd.prog 6 #[.slice a n c] w fun e w' =>
    ∃ g c', e = .returned (.slice (some ⟨g, 0, none⟩) n c') ∧ w'.ownsRow w.heap.size 5 1 (.slice (some ⟨g, 0, none⟩) (n + 1) c') (n + 1) (BY (l ++ [171])) ∧ Below w.heap.size w w' := by
  have H : Aside (Text w a n l ∧ (a = none → c = 0) ∧ n < 2 ^ 40) := ⟨hA, hc, hn⟩
  clear hA hc hn
  go_enter Tryd.func6, Tryd.ntmps6
  have HE1 : Aside (Bytes (w.alloc (.cells #[] 5)) a n (INTS l)) := (H.out.1.below ((Below.refl _ _).alloc (Nat.le_refl _) _)).bytes
  have HE2 : Aside (∀ w4, (w.alloc (.cells #[] 5)).grownBy w4 (some w.heap.size) → Below w.heap.size w w4) := fun w4 h => ((Below.refl _ _).alloc (Nat.le_refl _) _).grown h (by simp) (fun k e => by cases e; exact Nat.le_refl _)
  have HM : Aside (∀ w4 : World, Bytes (w4.alloc (.cells #[.int .u8 171] 5)) (some ⟨w4.heap.size, 0, none⟩) 1 [171]) := fun w4 => row_bytes w4 1 (fun _ => 171) [171] rfl (fun i hi => by obtain rfl : i = 0 := (by omega); rfl) (fun x hx => by simp at hx; omega)
  go_wp2_with (first | (at_builtin; refine app_any _ rfl (.tmp 3) (.tmp 4) rfl w.heap.size _ 0 [] rfl (own_empty w _ (Nat.le_refl _)) a n c (INTS l) rfl HE1.out H.out.2.1 n (INTS l) (by omega) rfl (by have := H.out.2.2; omega) (by simp) ?_; intro a4 c4 w4 hown4 hgrow4) | (at_builtin; refine app_u8 _ rfl (.tmp 5) (.tmp 6) rfl w.heap.size (.slice a4 n c4) n (INTS l) rfl (hown4.alloc _) w4.heap.size 0 1 1 [171] rfl (HM.out w4) (by decide) (by have := H.out.2.2; omega) (by have := (HE2.out _ hgrow4).size; simp; omega) ?_; intro g5 cap5 w5 hown5 hgrow5 hg5; have hcap5 := (own_bytes_any (l := INTS (l ++ [171])) (by rw [INTS_append]; exact hown5) (INTS_bounds (small_snoc H.out.1.2.2))); have hsl := slice_front (some ⟨g5, 0, none⟩) (n + 1) cap5 n (by have := hcap5.2; omega)))
  have hb4 := HE2.out _ hgrow4
  have hb5 : Below w.heap.size w w5 := (hb4.alloc hb4.size _).grown hgrow5 (by have := hb4.size; simp; omega) (fun k e => (hown4.lt k e).1)
  go_ret
  refine ⟨_, _, rfl, ?_, hb5⟩
  rw [BY_append]
  rw [CELLS_append] at hown5
  exact hown5
/-- one text of the list: its block, its room, what it reads as ahead of the mark. -/
structure GP where
  g : Nat
  c : Nat
  l : List Nat
def GCELLS (gs : List GP) : List Value := gs.map fun p => .slice (some ⟨p.g, 0, none⟩) p.l.length p.c
theorem GCELLS_snoc (gs : List GP) (p : GP) : GCELLS (gs ++ [p]) = GCELLS gs ++ [.slice (some ⟨p.g, 0, none⟩) p.l.length p.c] := by simp [GCELLS]
theorem GCELLS_get (gs : List GP) (i : Nat) (p : GP) (h : gs[i]? = some p) : (GCELLS gs)[i]? = some (.slice (some ⟨p.g, 0, none⟩) p.l.length p.c) := by simp [GCELLS, h]
/-- the texts, with the mark behind each. -/
structure GIVEN (w : World) (B : Nat) (s : Value) (gs : List GP) : Prop where
  own : w.ownsRow B 23 1 s gs.length (GCELLS gs)
  row : ∀ (i : Nat) (p : GP), gs[i]? = some p → w.ownsRow B 5 1 (.slice (some ⟨p.g, 0, none⟩) (p.l.length + 1) p.c) (p.l.length + 1) (BY (p.l ++ [171]))
  far : ∀ (i : Nat) (p : GP), gs[i]? = some p → s.ownBlock ≠ some p.g
  apart : ∀ (i j : Nat) (p q : GP), gs[i]? = some p → gs[j]? = some q → i ≠ j → p.g ≠ q.g
  small : ∀ (i : Nat) (p : GP), gs[i]? = some p → Small8 p.l
theorem GIVEN.start (w : World) (B : Nat) : GIVEN w B (.slice none 0 0) [] :=
  ⟨⟨rfl, .inl ⟨rfl, rfl⟩⟩, fun i p h => by simp at h, fun i p h => by simp at h, fun i j p q h => by simp at h, fun i p h => by simp at h⟩
theorem GIVEN.keep {w w' : World} {B : Nat} {s : Value} {gs : List GP} (h : GIVEN w B s gs) (hb : Below w.heap.size w w') : GIVEN w' B s gs :=
  ⟨own_keep h.own hb, fun i p hp => own_keep (h.row i p hp) hb, h.far, h.apart, h.small⟩
/-- a text more. -/
theorem GIVEN.push {w w2 w3 : World} {B : Nat} {s : Value} {gs : List GP} {g c g' cap : Nat} {l : List Nat} {o : Obj} (h : GIVEN w B s gs) (hB : B ≤ w.heap.size) (hb : Below w.heap.size w w2)
    (hr : w2.ownsRow w.heap.size 5 1 (.slice (some ⟨g, 0, none⟩) (l.length + 1) c) (l.length + 1) (BY (l ++ [171]))) (hl : Small8 l) (hg : (w2.alloc o).grownBy w3 s.ownBlock)
    (hown : w3.ownsRow B 23 1 (.slice (some ⟨g', 0, none⟩) (gs.length + 1) cap) (gs.length + 1) (GCELLS (gs ++ [⟨g, c, l⟩]))) (hat : s.ownBlock = some g' ∨ g' = w2.heap.size + 1) : GIVEN w3 B (.slice (some ⟨g', 0, none⟩) (gs.length + 1) cap) (gs ++ [⟨g, c, l⟩]) := by
  have hs := hb.size
  have hgl := hr.lt g rfl
  have old : ∀ (i : Nat) (p : GP), gs[i]? = some p → p.g < w.heap.size := fun i p hp => ((h.row i p hp).lt p.g rfl).2
  have ho : ∀ k, s.ownBlock = some k → k < w.heap.size := fun k e => (h.own.lt k e).2
  have cases' : ∀ {i : Nat} {p : GP}, (gs ++ [(⟨g, c, l⟩ : GP)])[i]? = some p → gs[i]? = some p ∨ (i = gs.length ∧ p = ⟨g, c, l⟩) := fun {i p} hp => by
    by_cases hi : i < gs.length
    · rw [List.getElem?_append_left hi] at hp
      exact .inl hp
    · rw [List.getElem?_append_right (by omega)] at hp
      obtain hj : i - gs.length = 0 := by
        have := (List.getElem?_eq_some_iff.1 hp).1
        simp at this
        omega
      rw [hj] at hp
      simp at hp
      exact .inr ⟨by omega, hp.symm⟩
  refine ⟨by simpa using hown, fun i p hp => ?_, fun i p hp e => ?_, fun i j p q hp hq hij e => ?_, fun i p hp => ?_⟩
  · rcases cases' hp with hp | ⟨_, rfl⟩
    · exact ((own_keep (h.row i p hp) hb).alloc o).kept hg (.inr fun e => h.far i p hp e.symm)
    · exact ((own_mono hr hB).alloc o).kept hg (.inr fun e => by have := ho g e.symm; omega)
  · simp only [Value.ownBlock, Option.some.injEq] at e
    rcases cases' hp with hp | ⟨_, rfl⟩
    · have h1 := old i p hp
      rcases hat with e2 | e2
      · exact h.far i p hp (by rw [e2, e])
      · omega
    · rcases hat with e2 | e2
      · have h1 := ho _ e2
        have h2 : g' = g := e
        omega
      · have h2 : g' = g := e
        omega
  · rcases cases' hp with hp | ⟨hi, rfl⟩
    · rcases cases' hq with hq | ⟨hj, rfl⟩
      · exact h.apart i j p q hp hq hij e
      · have h1 := old i p hp
        have h2 : p.g = g := e
        omega
    · rcases cases' hq with hq | ⟨hj, rfl⟩
      · have h1 := old j q hq
        have h2 : g = q.g := e
        omega
      · omega
  · rcases cases' hp with hp | ⟨_, rfl⟩
    · exact h.small i p hp
    · exact hl
/-- as parts of a hash. -/
def GPARTS (gs : List GP) : List PART := gs.map fun p => ⟨some ⟨p.g, 0, none⟩, p.l.length, p.c, p.l⟩
theorem GIVEN.text {w : World} {B : Nat} {s : Value} {gs : List GP} (h : GIVEN w B s gs) {i : Nat} {p : GP} (hp : gs[i]? = some p) : Text w (some ⟨p.g, 0, none⟩) p.l.length p.l ∧ p.l.length + 1 ≤ p.c := by
  have hr := h.row i p hp
  have hb := own_bytes_any (l := INTS (p.l ++ [171])) hr (INTS_bounds (small_snoc (h.small i p hp)))
  have ht := Text.of_bytes hb.1
  refine ⟨⟨rfl, fun hn => ?_, h.small i p hp⟩, hb.2⟩
  obtain ⟨b, off, e, hl, hc⟩ := ht.2.1 (by omega)
  refine ⟨b, off, e, hl, fun j hj => ?_⟩
  rw [hc j (by omega), List.getD_eq_getElem?_getD, List.getElem?_append_left hj, ← List.getD_eq_getElem?_getD]
theorem GIVEN.parts {w : World} {B cap : Nat} {a : Option Addr} {gs : List GP} {k : Nat} (h : GIVEN w B (.slice a k cap) gs) (hk : gs.length = k) : Parts w a k (GPARTS gs) := by
  refine ⟨by simp [GPARTS, hk], fun h0 => ?_, fun p hp => ?_⟩
  · obtain ⟨g, c2, hv, -, hg⟩ := h.own.form (by omega)
    simp only [Value.slice.injEq] at hv
    refine ⟨g, 0, hv.1, hg, fun i p hp => ?_⟩
    simp only [GPARTS, List.getElem?_map, Option.map_eq_some_iff] at hp
    obtain ⟨q, hq, rfl⟩ := hp
    have hi : i < gs.length := (List.getElem?_eq_some_iff.1 hq).1
    have ho := h.own
    rw [hv.1, hk] at ho
    rw [Nat.zero_add, ho.cellAt i (by omega), GCELLS_get gs i q hq]
  · obtain ⟨i, hi⟩ := List.mem_iff_getElem?.1 hp
    simp only [GPARTS, List.getElem?_map, Option.map_eq_some_iff] at hi
    obtain ⟨q, hq, rfl⟩ := hi
    have ht := h.text hq
    refine ⟨ht.1, by show q.l.length ≤ q.c; omega, fun x hx => ?_⟩
    simp only [Option.some.injEq] at hx
    subst hx
    exact ((h.row i q hq).lt q.g rfl).2
theorem BY_set (l : List Nat) (k x : Nat) : BY (l.set k x) = (BY l).set k (.int .u8 (x : Int)) := by simp [BY, CELLS, INTS, List.map_set]
theorem GCELLS_put (gs : List GP) (i k x : Nat) (p : GP) (hp : gs[i]? = some p) : GCELLS (gs.set i ⟨p.g, p.c, p.l.set k x⟩) = GCELLS gs := by
  obtain ⟨hi, he⟩ := List.getElem?_eq_some_iff.1 hp
  apply List.ext_getElem?
  intro j
  simp only [GCELLS, List.getElem?_map, List.getElem?_set]
  by_cases e : i = j
  · subst e
    simp [hi, he]
  · simp [e]
/-- a byte of one text is written. -/
theorem GIVEN.put {w : World} {B : Nat} {s : Value} {gs : List GP} (h : GIVEN w B s gs) {i k x : Nat} {p : GP} (hp : gs[i]? = some p) (hk : k < p.l.length) (hx : x < 256) :
    GIVEN (w.setCell ⟨p.g, k, none⟩ (.int .u8 (x : Int))) B s (gs.set i ⟨p.g, p.c, p.l.set k x⟩) ∧ w.frozen? ⟨p.g, k, none⟩ = false ∧ w.cell? ⟨p.g, k, none⟩ = some (.int .u8 ((p.l.getD k 0 : Nat) : Int)) := by
  have hi : i < gs.length := (List.getElem?_eq_some_iff.1 hp).1
  have hr := h.row i p hp
  have hst := hr.stored k (.int .u8 (x : Int))
  have hc : ∀ {j : Nat} {q : GP}, (gs.set i ⟨p.g, p.c, p.l.set k x⟩)[j]? = some q → (j = i ∧ q = ⟨p.g, p.c, p.l.set k x⟩) ∨ (j ≠ i ∧ gs[j]? = some q) := fun {j q} hq => by
    by_cases e : i = j
    · subst e
      rw [List.getElem?_set_self hi] at hq
      exact .inl ⟨rfl, (Option.some.inj hq).symm⟩
    · rw [List.getElem?_set_ne e] at hq
      exact .inr ⟨Ne.symm e, hq⟩
  refine ⟨⟨?_, fun j q hq => ?_, fun j q hq => ?_, fun j m q r hq hr' hne => ?_, fun j q hq => ?_⟩, ?_, ?_⟩
  · rw [GCELLS_put gs i k x p hp, List.length_set]
    exact h.own.kept hst.2 (.inr (h.far i p hp))
  · rcases hc hq with ⟨rfl, rfl⟩ | ⟨hji, hq⟩
    · have e : BY (p.l.set k x ++ [171]) = (BY (p.l ++ [171])).set k (.int .u8 (x : Int)) := by rw [← BY_set, List.set_append_left _ _ hk]
      show (w.setCell ⟨p.g, k, none⟩ (.int .u8 (x : Int))).ownsRow B 5 1 (.slice (some ⟨p.g, 0, none⟩) ((p.l.set k x).length + 1) p.c) ((p.l.set k x).length + 1) (BY (p.l.set k x ++ [171]))
      rw [e, List.length_set]
      exact hst.1
    · exact (h.row j q hq).kept hst.2 (.inr fun e => h.apart j i q p hq hp hji (by simpa [Value.ownBlock] using e))
  · rcases hc hq with ⟨rfl, rfl⟩ | ⟨hji, hq⟩
    · exact h.far j p hp
    · exact h.far j q hq
  · rcases hc hq with ⟨rfl, rfl⟩ | ⟨hji, hq2⟩
    · rcases hc hr' with ⟨rfl, rfl⟩ | ⟨hmi, hr2⟩
      · exact absurd rfl hne
      · exact h.apart _ _ p r hp hr2 hne
    · rcases hc hr' with ⟨rfl, rfl⟩ | ⟨hmi, hr2⟩
      · exact h.apart _ _ q p hq2 hp hne
      · exact h.apart _ _ q r hq2 hr2 hne
  · rcases hc hq with ⟨rfl, rfl⟩ | ⟨hji, hq⟩
    · intro y hy
      rcases List.mem_or_eq_of_mem_set hy with hy | rfl
      · exact h.small j p hp y hy
      · exact hx
    · exact h.small j q hq
  · rcases hr.2 with ⟨h', _⟩ | ⟨g', cap', cur, h', _, hg, _⟩
    · simp at h'
    · simp only [Value.slice.injEq, Option.some.injEq, Addr.mk.injEq, and_true, true_and] at h'
      obtain ⟨rfl, rfl⟩ := h'
      exact frozen_of_row w p.g k cur 5 hg
  · rw [hr.cellAt k (by omega), BY_get _ _ (by rw [List.length_append]; omega), List.getD_eq_getElem?_getD, List.getElem?_append_left hk, ← List.getD_eq_getElem?_getD]
/-- the mark is there. -/
theorem marked_ok {w : World} {B : Nat} {s : Value} {gs : List GP} (h : GIVEN w B s gs) {i : Nat} {p : GP} (hp : gs[i]? = some p) (hn : p.l.length < 2 ^ 40) : Calls Tryd.prog 9 #[.slice (some ⟨p.g, 0, none⟩) p.l.length p.c] w fun e w' => e = .returned (.bool true) ∧ w = w' := by
  have hr := h.row i p hp
  have ht := (h.text hp).2
  obtain ⟨n, hnn⟩ : ∃ n, p.l.length = n := ⟨_, rfl⟩
  have x0 : w.cell? ⟨p.g, n, none⟩ = some (.int .u8 171) := by
    rw [hr.cellAt n (by omega), BY_get _ _ (by rw [List.length_append]; simp; omega), List.getD_eq_getElem?_getD, List.getElem?_append_right (by omega), hnn]
    simp
  rw [hnn] at ht hn ⊢
  have e1 : wrap64 ((n : Int) + 1) = ((n + 1 : Nat) : Int) := by unfold wrap64; omega
  have hsl := slice_front (some ⟨p.g, 0, none⟩) n p.c (n + 1) ht
  have h0 : ¬ (n : Int) < 0 := by omega
  have h1 : (n : Int) < ((n + 1 : Nat) : Int) := by omega
  obtain ⟨m, hm⟩ : ∃ m, n + 1 = m := ⟨_, rfl⟩
  rw [hm] at e1 hsl h1
  clear hm ht hn hr hp h hnn
  go_enter Tryd.func9, Tryd.ntmps9
  go_wp2
  go_ret
  exact ⟨rfl, rfl⟩
theorem info_part : (Tryd.prog.info? 23).map (fun i => (i.zero, i.size, i.bytes)) = some (some (.slice none 0 0), 1, 24) := by kernel_rfl
/-- append of one text. -/
theorem app_given {ops : Array Oper} {rest : List Oper} {o : Oper} {a : Act} {Q : Exit → Act → World → Prop} (w : World) (p : GP) (hgd : o.guard = none) (s x : Operand)
    (ho : o.op = .call { callee := .builtin .append, args := #[s, x], argTypes := #[29, 29] })
    (base : Nat) (v : Value) (n : Nat) (gs : List GP) (hs : a.eval s = v) (hown : w.ownsRow base 23 1 v n (GCELLS gs))
    (hx : a.eval x = .slice (some ⟨w.heap.size, 0, none⟩) 1 1) (hb : n ≤ 2 ^ 20) (hbase : base ≤ w.heap.size)
    (h : ∀ g cap w', w'.ownsRow base 23 1 (.slice (some ⟨g, 0, none⟩) (n + 1) cap) (n + 1) (GCELLS (gs ++ [p])) → (w.alloc (.cells #[.slice (some ⟨p.g, 0, none⟩) p.l.length p.c] 23)).grownBy w' v.ownBlock → (v.ownBlock = some g ∨ g = w.heap.size + 1) → wpList Tryd.prog ops Q rest (a.put o.dst (.slice (some ⟨g, 0, none⟩) (n + 1) cap)) w') : wpList Tryd.prog ops Q (o :: rest) a (w.alloc (.cells #[.slice (some ⟨p.g, 0, none⟩) p.l.length p.c] 23)) := by
  obtain ⟨i, hi, hz, hs1, hby⟩ := info_parts info_part
  refine wpList_append_lies _ hgd s x 29 ho base 23 i (.slice none 0 0) 1 24 Tryd.underlying29 hi hz hs1 hby rfl (by decide) v n (GCELLS gs) hs (hown.alloc _) ⟨w.heap.size, 0, none⟩ 1 1 [.slice (some ⟨p.g, 0, none⟩) p.l.length p.c] hx rfl ?_ (fun u hu => by simp at hu; subst hu; rfl) (by decide) (by simp only [maxLen]; omega) (by omega) (by simp; omega) (w.heap.size + 1) (by simp) ?_
  · intro j u hj
    cases j with
    | zero =>
      simp only [List.getElem?_cons_zero, Option.some.injEq] at hj
      subst hj
      rw [addr_add, World.cell?_alloc_at _ _ _ _ rfl]
      rfl
    | succ j => simp at hj
  · intro g cap w' h1 h2 h3 _
    rw [← GCELLS_snoc] at h1
    exact h g cap w' h1 h2 h3
end Go.Proofs.YtihdhaamphdljaaDoor
