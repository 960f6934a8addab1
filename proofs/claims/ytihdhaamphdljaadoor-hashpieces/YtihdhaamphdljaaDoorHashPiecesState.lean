/- Hashers in turns: what lies in memory while they are written to, cloned and asked. -/
import Derived.Test.YtihdhaamphdljaaDoorHashTexts2
import Derived.Test.YtihdhaamphdljaaDoorHashSame
import Derived.Test.YtihdhaamphdljaaDoorHashEq
import Derived.Test.YtihdhaamphdljaaDoorStepLists
import Derived.Test.YtihdhaamphdljaaDoorHashMarkText
namespace Go.Proofs.YtihdhaamphdljaaDoor
open Go.RowKit
set_option maxRecDepth 100000

/-- one hasher: its block, what it has taken; and the text beside it. -/
structure HP where
  g : Nat
  h : List Nat
  a : Option Addr
  c : Nat
  t : List Nat
def HPL (hs : List HP) : List Value := hs.map fun p => Value.pointer (some ⟨p.g, 0, none⟩)
def HPT (hs : List HP) : List Value := hs.map fun p => Value.slice p.a p.t.length p.c
/-- the hashers and the texts, all apart. -/
structure PIECES (w : World) (B : Nat) (d : Int) (sl st : Value) (hs : List HP) : Prop where
  ownl : w.ownsRow B 26 1 sl hs.length (HPL hs)
  ownt : w.ownsRow B 23 1 st hs.length (HPT hs)
  hsh : ∀ (i : Nat) (p : HP), hs[i]? = some p → HASHER w p.g d p.h ∧ B ≤ p.g ∧ p.g < w.heap.size ∧ Small8 p.h
  txt : ∀ (i : Nat) (p : HP), hs[i]? = some p → Text w p.a p.t.length p.t ∧ (p.a = none → p.c = 0) ∧ p.t.length ≤ p.c
  lies : ∀ (i : Nat) (p : HP) (x : Addr), hs[i]? = some p → p.a = some x → x.block < w.heap.size
  apart : ∀ (i j : Nat) (p q : HP), hs[i]? = some p → hs[j]? = some q → i ≠ j → p.g ≠ q.g
  off : ∀ (i : Nat) (p : HP), hs[i]? = some p → sl.ownBlock ≠ some p.g ∧ st.ownBlock ≠ some p.g
  two : ∀ k, sl.ownBlock = some k → st.ownBlock ≠ some k
  toff : ∀ (i : Nat) (p : HP) (x : Addr), hs[i]? = some p → p.a = some x → sl.ownBlock ≠ some x.block ∧ st.ownBlock ≠ some x.block ∧ ∀ (j : Nat) (q : HP), hs[j]? = some q → q.g ≠ x.block
/-- the blocks that they have. -/
def PFOOT (sl st : Value) (hs : List HP) (b : Nat) : Prop := sl.ownBlock = some b ∨ st.ownBlock = some b ∨ ∃ (i : Nat) (p : HP), hs[i]? = some p ∧ (p.g = b ∨ ∃ x, p.a = some x ∧ x.block = b)
theorem own_turn {w w' : World} {base : Nat} {t : TypeId} {s : Nat} {v : Value} {n : Nat} {xs : List Value} (h : w.ownsRow base t s v n xs) (hb : ∀ b, v.ownBlock = some b → w'.heap[b]? = w.heap[b]?) : w'.ownsRow base t s v n xs := by
  refine ⟨h.1, h.2.imp id ?_⟩
  rintro ⟨g, c, cur, rfl, b, r, rest⟩
  exact ⟨g, c, cur, rfl, b, (hb g rfl).trans r, rest⟩
theorem HASHER.turn {w w' : World} {g : Nat} {d : Int} {l : List Nat} (h : HASHER w g d l) (hb : w'.heap[g]? = w.heap[g]?) : HASHER w' g d l := by
  obtain ⟨b, h1, h2⟩ := h
  exact ⟨b, hb.trans h1, h2⟩
theorem PIECES.lt {w : World} {B : Nat} {d : Int} {sl st : Value} {hs : List HP} (h : PIECES w B d sl st hs) {b : Nat} (hb : PFOOT sl st hs b) : b < w.heap.size := by
  rcases hb with e | e | ⟨i, p, hp, rfl | ⟨x, hx, rfl⟩⟩
  · exact (h.ownl.lt b e).2
  · exact (h.ownt.lt b e).2
  · exact (h.hsh i p hp).2.2.1
  · exact h.lies i p x hp hx
theorem PIECES.turn {w w' : World} {B : Nat} {d : Int} {sl st : Value} {hs : List HP} (h : PIECES w B d sl st hs) (hz : w.heap.size ≤ w'.heap.size) (hk : ∀ b, PFOOT sl st hs b → w'.heap[b]? = w.heap[b]?) : PIECES w' B d sl st hs :=
  ⟨own_turn h.ownl fun b e => hk b (.inl e), own_turn h.ownt fun b e => hk b (.inr (.inl e)),
    fun i p hp => ⟨(h.hsh i p hp).1.turn (hk _ (.inr (.inr ⟨i, p, hp, .inl rfl⟩))), (h.hsh i p hp).2.1, Nat.lt_of_lt_of_le (h.hsh i p hp).2.2.1 hz, (h.hsh i p hp).2.2.2⟩,
    fun i p hp => ⟨(h.txt i p hp).1.keep fun b _ e hl => ⟨hk b (.inr (.inr ⟨i, p, hp, .inr ⟨_, e, rfl⟩⟩)), Nat.lt_of_lt_of_le hl hz⟩, (h.txt i p hp).2⟩,
    fun i p x hp hx => Nat.lt_of_lt_of_le (h.lies i p x hp hx) hz, h.apart, h.off, h.two, h.toff⟩
theorem PIECES.below {w w' : World} {B : Nat} {d : Int} {sl st : Value} {hs : List HP} (h : PIECES w B d sl st hs) (hb : Below w.heap.size w w') : PIECES w' B d sl st hs :=
  h.turn hb.size fun b e => hb.block b (h.lt e)
theorem hs_set {hs : List HP} {i j : Nat} {p q r : HP} (hp : hs[i]? = some p) (hq : (hs.set i r)[j]? = some q) : (j = i ∧ q = r) ∨ (j ≠ i ∧ hs[j]? = some q) := by
  by_cases e : j = i
  · subst e
    rw [List.getElem?_set_self (List.getElem?_eq_some_iff.1 hp).1, Option.some.injEq] at hq
    exact .inl ⟨rfl, hq.symm⟩
  · rw [List.getElem?_set_ne (fun e2 => e e2.symm)] at hq
    exact .inr ⟨e, hq⟩
/-- one hasher has taken more. -/
theorem PIECES.write {w w' : World} {B : Nat} {d : Int} {sl st : Value} {hs : List HP} (h : PIECES w B d sl st hs) {i : Nat} {p : HP} {q : List Nat} (hp : hs[i]? = some p) (hg : w.grownBy w' (some p.g)) (hH : HASHER w' p.g d q) (hq : Small8 q) :
    PIECES w' B d sl st (hs.set i ⟨p.g, q, p.a, p.c, p.t⟩) := by
  have blk : ∀ b, b < w.heap.size → b ≠ p.g → w'.heap[b]? = w.heap[b]? := fun b hb hne => hg.block b hb (fun e => hne (by simpa using e))
  have old : ∀ {j : Nat} {r : HP}, (hs.set i ⟨p.g, q, p.a, p.c, p.t⟩)[j]? = some r → ∃ r0, hs[j]? = some r0 ∧ r.g = r0.g ∧ r.a = r0.a ∧ r.c = r0.c ∧ r.t = r0.t := fun {j r} hr => by
    rcases hs_set hp hr with ⟨rfl, rfl⟩ | ⟨_, h2⟩
    · exact ⟨p, hp, rfl, rfl, rfl, rfl⟩
    · exact ⟨r, h2, rfl, rfl, rfl, rfl⟩
  have e1 : HPL (hs.set i ⟨p.g, q, p.a, p.c, p.t⟩) = HPL hs := by
    unfold HPL
    rw [List.map_set]
    refine List.ext_getElem? fun j => ?_
    by_cases e : j = i
    · subst e
      rw [List.getElem?_set_self (by simpa using (List.getElem?_eq_some_iff.1 hp).1), List.getElem?_map, hp]
      rfl
    · rw [List.getElem?_set_ne (fun e2 => e e2.symm)]
  have e2 : HPT (hs.set i ⟨p.g, q, p.a, p.c, p.t⟩) = HPT hs := by
    unfold HPT
    rw [List.map_set]
    refine List.ext_getElem? fun j => ?_
    by_cases e : j = i
    · subst e
      rw [List.getElem?_set_self (by simpa using (List.getElem?_eq_some_iff.1 hp).1), List.getElem?_map, hp]
      rfl
    · rw [List.getElem?_set_ne (fun e2 => e e2.symm)]
  refine ⟨?_, ?_, fun j r hr => ?_, fun j r hr => ?_, fun j r x hr hx => ?_, fun j k r s hr hs2 hne => ?_, fun j r hr => ?_, h.two, fun j r x hr hx => ?_⟩
  · rw [List.length_set, e1]
    exact own_turn h.ownl fun b e => blk b (h.ownl.lt b e).2 fun e3 => (h.off i p hp).1 (e3 ▸ e)
  · rw [List.length_set, e2]
    exact own_turn h.ownt fun b e => blk b (h.ownt.lt b e).2 fun e3 => (h.off i p hp).2 (e3 ▸ e)
  · rcases hs_set hp hr with ⟨rfl, rfl⟩ | ⟨hne, h2⟩
    · exact ⟨hH, (h.hsh j p hp).2.1, Nat.lt_of_lt_of_le (h.hsh j p hp).2.2.1 hg.size, hq⟩
    · have h3 := h.hsh j r h2
      exact ⟨h3.1.turn (blk _ h3.2.2.1 (h.apart j i r p h2 hp hne)), h3.2.1, Nat.lt_of_lt_of_le h3.2.2.1 hg.size, h3.2.2.2⟩
  · obtain ⟨r0, h0, e3, e4, e5, e6⟩ := old hr
    rw [e4, e5, e6]
    refine ⟨(h.txt j r0 h0).1.keep fun b off e hl => ⟨blk b hl fun e7 => ?_, Nat.lt_of_lt_of_le hl hg.size⟩, (h.txt j r0 h0).2⟩
    exact (h.toff j r0 _ h0 e).2.2 i p hp e7.symm
  · obtain ⟨r0, h0, e3, e4, e5, e6⟩ := old hr
    exact Nat.lt_of_lt_of_le (h.lies j r0 x h0 (e4 ▸ hx)) hg.size
  · obtain ⟨r0, h0, e3, -⟩ := old hr
    obtain ⟨s0, g0, f3, -⟩ := old hs2
    rw [e3, f3]
    exact h.apart j k r0 s0 h0 g0 hne
  · obtain ⟨r0, h0, e3, -⟩ := old hr
    rw [e3]
    exact h.off j r0 h0
  · obtain ⟨r0, h0, e3, e4, -⟩ := old hr
    obtain ⟨h1, h2, h3⟩ := h.toff j r0 x h0 (e4 ▸ hx)
    refine ⟨h1, h2, fun k s hs2 => ?_⟩
    obtain ⟨s0, g0, f3, -⟩ := old hs2
    rw [f3]
    exact h3 k s0 g0
/-- another text is laid beside one. -/
theorem PIECES.retext {w : World} {B : Nat} {d : Int} {sl : Value} {g n cap : Nat} {hs : List HP} (h : PIECES w B d sl (.slice (some ⟨g, 0, none⟩) n cap) hs) {i : Nat} {p : HP} {a : Option Addr} {c : Nat} {t : List Nat} (hp : hs[i]? = some p)
    (hT : Text w a t.length t) (hc : a = none → c = 0) (hc2 : t.length ≤ c) (ha : ∀ x, a = some x → x.block < w.heap.size ∧ ¬ PFOOT sl (.slice (some ⟨g, 0, none⟩) n cap) hs x.block) :
    PIECES (w.setCell ⟨g, i, none⟩ (.slice a t.length c)) B d sl (.slice (some ⟨g, 0, none⟩) n cap) (hs.set i ⟨p.g, p.h, a, c, t⟩) := by
  have hz : (w.setCell ⟨g, i, none⟩ (.slice a t.length c)).heap.size = w.heap.size := by simp
  have hil := (List.getElem?_eq_some_iff.1 hp).1
  obtain rfl : n = hs.length := by
    rcases h.ownt.2 with ⟨e, _⟩ | ⟨_, _, _, e, _⟩
    · simp at e
    · simp at e
      omega
  have blk : ∀ b, b ≠ g → (w.setCell ⟨g, i, none⟩ (.slice a t.length c)).heap[b]? = w.heap[b]? := fun b hne => Below.heap_setCell _ _ _ b (fun e => hne e)
  have old : ∀ {j : Nat} {r : HP}, (hs.set i ⟨p.g, p.h, a, c, t⟩)[j]? = some r → ∃ r0, hs[j]? = some r0 ∧ r.g = r0.g ∧ r.h = r0.h := fun {j r} hr => by
    rcases hs_set hp hr with ⟨rfl, rfl⟩ | ⟨_, h2⟩
    · exact ⟨p, hp, rfl, rfl⟩
    · exact ⟨r, h2, rfl, rfl⟩
  have e1 : HPL (hs.set i ⟨p.g, p.h, a, c, t⟩) = HPL hs := by
    unfold HPL
    rw [List.map_set]
    refine List.ext_getElem? fun j => ?_
    by_cases e : j = i
    · subst e
      rw [List.getElem?_set_self (by simpa using hil), List.getElem?_map, hp]
      rfl
    · rw [List.getElem?_set_ne (fun e2 => e e2.symm)]
  have e2 : HPT (hs.set i ⟨p.g, p.h, a, c, t⟩) = (HPT hs).set i (.slice a t.length c) := by
    unfold HPT
    rw [List.map_set]
  refine ⟨?_, ?_, fun j r hr => ?_, fun j r hr => ?_, fun j r x hr hx => ?_, fun j k r s hr hs2 hne => ?_, fun j r hr => ?_, h.two, fun j r x hr hx => ?_⟩
  · rw [List.length_set, e1]
    exact own_turn h.ownl fun b e => blk b fun e3 => h.two b e (by rw [e3]; rfl)
  · rw [List.length_set, e2]
    exact (h.ownt.stored i _).1
  · obtain ⟨r0, h0, e3, e4⟩ := old hr
    have h3 := h.hsh j r0 h0
    rw [e3, e4, hz]
    exact ⟨h3.1.turn (blk _ fun e5 => (h.off j r0 h0).2 (by rw [e5]; rfl)), h3.2⟩
  · rcases hs_set hp hr with ⟨rfl, rfl⟩ | ⟨hne, h2⟩
    · refine ⟨hT.keep fun b off e hl => ⟨blk b fun e5 => ?_, by rw [hz]; exact hl⟩, hc, hc2⟩
      exact (ha _ e).2 (.inr (.inl (by rw [e5]; rfl)))
    · refine ⟨(h.txt j r h2).1.keep fun b off e hl => ⟨blk b fun e5 => ?_, by rw [hz]; exact hl⟩, (h.txt j r h2).2⟩
      exact (h.toff j r _ h2 e).2.1 (by rw [e5]; rfl)
  · rw [hz]
    rcases hs_set hp hr with ⟨rfl, rfl⟩ | ⟨hne, h2⟩
    · exact (ha x hx).1
    · exact h.lies j r x h2 hx
  · obtain ⟨r0, h0, e3, -⟩ := old hr
    obtain ⟨s0, g0, f3, -⟩ := old hs2
    rw [e3, f3]
    exact h.apart j k r0 s0 h0 g0 hne
  · obtain ⟨r0, h0, e3, -⟩ := old hr
    rw [e3]
    exact h.off j r0 h0
  · have h3 : ∀ (k : Nat) (s : HP), (hs.set i ⟨p.g, p.h, a, c, t⟩)[k]? = some s → ∃ s0, hs[k]? = some s0 ∧ s.g = s0.g := fun k s hs2 => by
      obtain ⟨s0, g0, f3, -⟩ := old hs2
      exact ⟨s0, g0, f3⟩
    rcases hs_set hp hr with ⟨rfl, rfl⟩ | ⟨hne, h2⟩
    · refine ⟨fun e => (ha x hx).2 (.inl e), fun e => (ha x hx).2 (.inr (.inl e)), fun k s hs2 e => ?_⟩
      obtain ⟨s0, g0, f3⟩ := h3 k s hs2
      exact (ha x hx).2 (.inr (.inr ⟨k, s0, g0, .inl (f3 ▸ e)⟩))
    · obtain ⟨h4, h5, h6⟩ := h.toff j r x h2 hx
      refine ⟨h4, h5, fun k s hs2 => ?_⟩
      obtain ⟨s0, g0, f3⟩ := h3 k s hs2
      rw [f3]
      exact h6 k s0 g0
/-- one more. -/
theorem PIECES.push {w w' : World} {B : Nat} {d : Int} {sl st sl' st' : Value} {hs : List HP} (h : PIECES w B d sl st hs) {i g : Nat} {p : HP} {q : List Nat} (hp : hs[i]? = some p)
    (hH : HASHER w g d q) (hgB : B ≤ g) (hgf : ¬ PFOOT sl st hs g) (hq : Small8 q)
    (hz : w.heap.size ≤ w'.heap.size) (hk : ∀ b, b < w.heap.size → sl.ownBlock ≠ some b → st.ownBlock ≠ some b → w'.heap[b]? = w.heap[b]?)
    (hl : w'.ownsRow B 26 1 sl' (hs.length + 1) (HPL (hs ++ [⟨g, q, p.a, p.c, p.t⟩]))) (ht : w'.ownsRow B 23 1 st' (hs.length + 1) (HPT (hs ++ [⟨g, q, p.a, p.c, p.t⟩])))
    (hl2 : ∀ b, sl'.ownBlock = some b → sl.ownBlock = some b ∨ w.heap.size ≤ b) (ht2 : ∀ b, st'.ownBlock = some b → st.ownBlock = some b ∨ w.heap.size ≤ b) (h2 : ∀ b, sl'.ownBlock = some b → st'.ownBlock ≠ some b) :
    PIECES w' B d sl' st' (hs ++ [⟨g, q, p.a, p.c, p.t⟩]) := by
  obtain ⟨bb, hHas, hrest⟩ := hH
  have hgl : g < w.heap.size := hHas.lt
  have hH : HASHER w g d q := ⟨bb, hHas, hrest⟩
  have cases' : ∀ {j : Nat} {r : HP}, (hs ++ [(⟨g, q, p.a, p.c, p.t⟩ : HP)])[j]? = some r → hs[j]? = some r ∨ (j = hs.length ∧ r = ⟨g, q, p.a, p.c, p.t⟩) := fun {j r} hr => by
    by_cases hi : j < hs.length
    · rw [List.getElem?_append_left hi] at hr
      exact .inl hr
    · rw [List.getElem?_append_right (by omega)] at hr
      obtain hj : j - hs.length = 0 := by
        have := (List.getElem?_eq_some_iff.1 hr).1
        simp at this
        omega
      rw [hj] at hr
      simp at hr
      exact .inr ⟨by omega, hr.symm⟩
  have gof : sl.ownBlock ≠ some g ∧ st.ownBlock ≠ some g := ⟨fun e => hgf (.inl e), fun e => hgf (.inr (.inl e))⟩
  have offl : ∀ b, b < w.heap.size → sl.ownBlock ≠ some b → sl'.ownBlock ≠ some b := fun b hb hne e => (hl2 b e).elim hne fun h3 => by omega
  have offt : ∀ b, b < w.heap.size → st.ownBlock ≠ some b → st'.ownBlock ≠ some b := fun b hb hne e => (ht2 b e).elim hne fun h3 => by omega
  refine ⟨by simpa using hl, by simpa using ht, fun j r hr => ?_, fun j r hr => ?_, fun j r x hr hx => ?_, fun j k r s hr hs2 hne => ?_, fun j r hr => ?_, h2, fun j r x hr hx => ?_⟩
  · rcases cases' hr with h0 | ⟨_, rfl⟩
    · have h3 := h.hsh j r h0
      exact ⟨h3.1.turn (hk _ h3.2.2.1 (h.off j r h0).1 (h.off j r h0).2), h3.2.1, Nat.lt_of_lt_of_le h3.2.2.1 hz, h3.2.2.2⟩
    · exact ⟨hH.turn (hk _ hgl gof.1 gof.2), hgB, Nat.lt_of_lt_of_le hgl hz, hq⟩
  · have key : ∀ (k : Nat) (s : HP), hs[k]? = some s → Text w' s.a s.t.length s.t ∧ (s.a = none → s.c = 0) ∧ s.t.length ≤ s.c := fun k s h0 =>
      ⟨(h.txt k s h0).1.keep fun b off e hl => ⟨hk b hl (h.toff k s _ h0 e).1 (h.toff k s _ h0 e).2.1, Nat.lt_of_lt_of_le hl hz⟩, (h.txt k s h0).2⟩
    rcases cases' hr with h0 | ⟨_, rfl⟩
    · exact key j r h0
    · exact key i p hp
  · rcases cases' hr with h0 | ⟨_, rfl⟩
    · exact Nat.lt_of_lt_of_le (h.lies j r x h0 hx) hz
    · exact Nat.lt_of_lt_of_le (h.lies i p x hp hx) hz
  · rcases cases' hr with h0 | ⟨e0, rfl⟩
    · rcases cases' hs2 with g0 | ⟨_, rfl⟩
      · exact h.apart j k r s h0 g0 hne
      · exact fun e => hgf (.inr (.inr ⟨j, r, h0, .inl e⟩))
    · rcases cases' hs2 with g0 | ⟨e1, rfl⟩
      · exact fun e => hgf (.inr (.inr ⟨k, s, g0, .inl e.symm⟩))
      · exact absurd (e0.trans e1.symm) hne
  · rcases cases' hr with h0 | ⟨_, rfl⟩
    · have h3 := (h.hsh j r h0).2.2.1
      exact ⟨offl _ h3 (h.off j r h0).1, offt _ h3 (h.off j r h0).2⟩
    · exact ⟨offl _ hgl gof.1, offt _ hgl gof.2⟩
  · have key : ∀ (k : Nat) (s : HP), hs[k]? = some s → s.a = some x → sl'.ownBlock ≠ some x.block ∧ st'.ownBlock ≠ some x.block ∧ ∀ (j : Nat) (q2 : HP), (hs ++ [(⟨g, q, p.a, p.c, p.t⟩ : HP)])[j]? = some q2 → q2.g ≠ x.block := fun k s h0 hx => by
      obtain ⟨h4, h5, h6⟩ := h.toff k s x h0 hx
      have h3 := h.lies k s x h0 hx
      refine ⟨offl _ h3 h4, offt _ h3 h5, fun j q2 hq2 => ?_⟩
      rcases cases' hq2 with g0 | ⟨_, rfl⟩
      · exact h6 j q2 g0
      · exact fun e => hgf (.inr (.inr ⟨k, s, h0, .inr ⟨x, hx, e.symm⟩⟩))
    rcases cases' hr with h0 | ⟨_, rfl⟩
    · exact key j r h0 hx
    · exact key i p hp hx
end Go.Proofs.YtihdhaamphdljaaDoor
