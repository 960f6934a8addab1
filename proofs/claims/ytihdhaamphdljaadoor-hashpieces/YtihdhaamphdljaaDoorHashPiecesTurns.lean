/- What holds ahead of each act of HashPieces. -/
import Derived.Test.YtihdhaamphdljaaDoorHashPiecesCalls
import Derived.Test.YtihdhaamphdljaaDoorHashRefSum
import Derived.Test.YtihdhaamphdljaaDoorHashTurn
namespace Go.Proofs.YtihdhaamphdljaaDoor
open Go.RowKit
set_option maxRecDepth 100000

theorem small_app {l k : List Nat} (h1 : Small8 l) (h2 : Small8 k) : Small8 (l ++ k) := fun y hy => by
  rcases List.mem_append.1 hy with h | h
  · exact h1 y h
  · exact h2 y h
theorem len_ok (g : Nat) (d : Int) (l : List Nat) (w : World) (hH : HASHER w g d l) : Calls Tryd.prog 12 #[.pointer (some ⟨g, 0, none⟩)] w fun e w' => e = .returned (.int .u64 (l.length : Nat)) ∧ w = w' := by
  obtain ⟨b, h, _⟩ := hH
  have ct : w.cell? ⟨g, 97, none⟩ = some (.int .u64 (l.length : Nat)) := by rw [h.cell, HARR_taken]
  clear h
  go_enter Tryd.func12, Tryd.ntmps12
  go_wp2
  go_ret
  exact ⟨rfl, rfl⟩
/-- what holds ahead of each act. -/
structure TURNS (w wx : World) (d : Int) (sl st : Value) (hs : List HP) (at' n : Nat) : Prop where
  below : Below w.heap.size w wx
  pieces : PIECES wx w.heap.size d sl st hs
  same : ∀ (i : Nat) (p : HP), hs[i]? = some p → p.h = p.t ∧ p.t.length ≤ n
  lt : at' < hs.length
  few : hs.length ≤ 6
theorem turns_start {w w1 : World} {d : Int} {g0 : Nat} (hg : w.heap.size ≤ g0) (hH : HASHER w1 g0 d []) (hb : Below w.heap.size w w1) :
    TURNS w ((w1.alloc (.cells #[.pointer (some ⟨g0, 0, none⟩)] 26)).alloc (.cells #[.slice none 0 0] 23)) d (.slice (some ⟨w1.heap.size, 0, none⟩) 1 1) (.slice (some ⟨w1.heap.size + 1, 0, none⟩) 1 1) [⟨g0, [], none, 0, []⟩] 0 0 := by
  obtain ⟨bb, hHas, hrest⟩ := hH
  have hgl := hHas.lt
  have one : ∀ {i : Nat} {p : HP}, [(⟨g0, [], none, 0, []⟩ : HP)][i]? = some p → i = 0 ∧ p = ⟨g0, [], none, 0, []⟩ := fun {i p} h => by
    cases i with
    | zero => simpa using h.symm
    | succ i => simp at h
  refine ⟨(hb.alloc hb.size _).alloc (by simp; have := hb.size; omega) _, ⟨?_, ?_, fun i p h => ?_, fun i p h => ?_, fun i p x h hx => ?_, fun i j p q h h2 hne => ?_, fun i p h => ?_, fun k h => ?_, fun i p x h hx => ?_⟩, fun i p h => ?_, by simp, by simp⟩
  · exact own_alloc ⟨rfl, .inr ⟨w1.heap.size, 1, _, rfl, hb.size, Has.new w1 _ _, by simp, by decide, rfl, rfl⟩⟩ _
  · exact ⟨rfl, .inr ⟨w1.heap.size + 1, 1, _, rfl, by have := hb.size; omega, by have := Has.new (w1.alloc (.cells #[.pointer (some ⟨g0, 0, none⟩)] 26)) #[.slice none 0 0] 23; simpa [Has] using this, by simp, by decide, rfl, rfl⟩⟩
  · obtain ⟨rfl, rfl⟩ := one h
    exact ⟨⟨bb, (hHas.alloc _).alloc _, hrest⟩, hg, by simp; omega, fun x hx => by simp at hx⟩
  · obtain ⟨rfl, rfl⟩ := one h
    exact ⟨⟨rfl, fun h => by simp at h, fun x hx => by simp at hx⟩, fun _ => rfl, Nat.le_refl _⟩
  · obtain ⟨rfl, rfl⟩ := one h
    cases hx
  · exact absurd ((one h).1.trans (one h2).1.symm) hne
  · obtain ⟨rfl, rfl⟩ := one h
    simp [Value.ownBlock]
    omega
  · simp [Value.ownBlock] at h ⊢
    omega
  · obtain ⟨rfl, rfl⟩ := one h
    cases hx
  · obtain ⟨rfl, rfl⟩ := one h
    exact ⟨rfl, Nat.le_refl _⟩
theorem TURNS.keep {w wx w' : World} {d : Int} {sl st : Value} {hs : List HP} {at' n : Nat} (h : TURNS w wx d sl st hs at' n) (hb : Below wx.heap.size wx w') : TURNS w w' d sl st hs at' n :=
  ⟨h.below.trans (hb.mono h.below.size), h.pieces.below hb, h.same, h.lt, h.few⟩
theorem TURNS.more {w wx : World} {d : Int} {sl st : Value} {hs : List HP} {at' n n' : Nat} (h : TURNS w wx d sl st hs at' n) (hn : n ≤ n') : TURNS w wx d sl st hs at' n' :=
  ⟨h.below, h.pieces, fun i p hp => ⟨(h.same i p hp).1, Nat.le_trans (h.same i p hp).2 hn⟩, h.lt, h.few⟩
theorem TURNS.to {w wx : World} {d : Int} {sl st : Value} {hs : List HP} {at' n k : Nat} (h : TURNS w wx d sl st hs at' n) (hk : k < hs.length) : TURNS w wx d sl st hs k n :=
  ⟨h.below, h.pieces, h.same, hk, h.few⟩
theorem TURNS.form {w wx : World} {d : Int} {sl st : Value} {hs : List HP} {at' n : Nat} (h : TURNS w wx d sl st hs at' n) : ∃ lb cl tb ct, sl = .slice (some ⟨lb, 0, none⟩) hs.length cl ∧ st = .slice (some ⟨tb, 0, none⟩) hs.length ct ∧ lb ≠ tb := by
  have hl := h.lt
  obtain ⟨a7, cl, hv7, hg7⟩ := own_form h.pieces.ownl
  obtain ⟨a8, ct, hv8, hg8⟩ := own_form h.pieces.ownt
  obtain ⟨lb, rfl⟩ := hg7 (by omega)
  obtain ⟨tb, rfl⟩ := hg8 (by omega)
  refine ⟨lb, cl, tb, ct, hv7, hv8, fun e => ?_⟩
  subst e
  exact h.pieces.two lb (by rw [hv7]; rfl) (by rw [hv8]; rfl)
theorem PIECES.at {w : World} {B : Nat} {d : Int} {lb cl tb ct M : Nat} {hs : List HP} (h : PIECES w B d (.slice (some ⟨lb, 0, none⟩) M cl) (.slice (some ⟨tb, 0, none⟩) M ct) hs) (hM : hs.length = M) {i : Nat} {p : HP} (hp : hs[i]? = some p) :
    w.cell? ⟨lb, i, none⟩ = some (.pointer (some ⟨p.g, 0, none⟩)) ∧ w.cell? ⟨tb, i, none⟩ = some (.slice p.a p.t.length p.c) ∧ w.frozen? ⟨tb, i, none⟩ = false := by
  have hi := (List.getElem?_eq_some_iff.1 hp).1
  subst hM
  refine ⟨?_, ?_, h.ownt.frozenAt i⟩
  · rw [h.ownl.cellAt i (by omega), HPL, List.getElem?_map, hp]
    rfl
  · rw [h.ownt.cellAt i (by omega), HPT, List.getElem?_map, hp]
    rfl
/-- the hash of one text, by the document. -/
theorem refsum_one (d : Int) (a : Option Addr) (n c b : Nat) (l : List Nat) (w : World) (hb : Has w b #[.slice a n c] 23) (hT : Text w a n l) (hc : a = none → c = 0) (hn : n < 2 ^ 20) : Calls Tryd.prog 11 #[.int .i64 d, .slice (some ⟨b, 0, none⟩) 1 1] w fun e w' => e = .returned (.agg (UARR .u8 32 (HASHOF d l))) ∧ Below w.heap.size w w' := by
  have h := refsum_ok d (some ⟨b, 0, none⟩) 1 1 [⟨a, n, c, l⟩] w ⟨rfl, fun _ => ⟨b, 0, rfl, hb.lt, fun i p hp => ?_⟩, fun p hp => ?_⟩ (fun p hp => ?_) ?_ (by decide)
  · have hj : JOIN [(⟨a, n, c, l⟩ : PART)] = l := by simp [JOIN]
    rw [hj] at h
    exact h
  · cases i with
    | zero =>
      simp only [List.getElem?_cons_zero, Option.some.injEq] at hp
      subst hp
      exact hb.cell 0
    | succ i => simp at hp
  · obtain rfl := List.mem_singleton.1 hp
    exact hT
  · obtain rfl := List.mem_singleton.1 hp
    exact hc
  · have hj : JOIN [(⟨a, n, c, l⟩ : PART)] = l := by simp [JOIN]
    rw [hj, hT.1]
    omega
/-- what the calls ask of a hasher and its text. -/
theorem PIECES.sums {w : World} {B : Nat} {d : Int} {lb cl tb ct M : Nat} {hs : List HP} {i : Nat} {p : HP} (hM : hs.length = M) (hp : hs[i]? = some p) (hpt : p.h = p.t) (hn : p.t.length < 2 ^ 20) (hT : Tabled w) (S : World → Prop) (hS : ∀ W, S W ↔ Below w.heap.size w W ∧ PIECES W B d (.slice (some ⟨lb, 0, none⟩) M cl) (.slice (some ⟨tb, 0, none⟩) M ct) hs) :
    (∀ W, S W → W.cell? ⟨lb, i, none⟩ = some (.pointer (some ⟨p.g, 0, none⟩)) ∧ W.cell? ⟨tb, i, none⟩ = some (.slice p.a p.t.length p.c)) ∧ (∀ W o, S W → S (W.alloc o)) ∧ (∀ W, S W → S W.drew) ∧ (∀ W, S W → Calls Tryd.prog 10 #[.pointer (some ⟨p.g, 0, none⟩)] W fun e w' => e = .returned (.agg (UARR .u8 32 (HASHOF d p.t))) ∧ S w' ∧ ∀ (j : Nat) C t, Has W j C t → Has w' j C t) ∧
    (∀ W b, S W → Has W b #[.slice p.a p.t.length p.c] 23 → Calls Tryd.prog 11 #[.int .i64 d, .slice (some ⟨b, 0, none⟩) 1 1] W fun e w' => e = .returned (.agg (UARR .u8 32 (HASHOF d p.t))) ∧ S w') ∧
    (∀ W, S W → Calls Tryd.prog 12 #[.pointer (some ⟨p.g, 0, none⟩)] W fun e w' => e = .returned (.int .u64 (p.t.length : Int)) ∧ S w') := by
  have go : ∀ {W w' : World}, S W → Below W.heap.size W w' → S w' := fun {W w'} h hb => by
    obtain ⟨h1, h2⟩ := (hS W).1 h
    exact (hS w').2 ⟨h1.trans (hb.mono h1.size), h2.below hb⟩
  refine ⟨fun W h => ?_, fun W o h => go h ((Below.refl _ _).alloc (Nat.le_refl _) _), fun W h => go h (Below.refl _ _).drew, fun W h => ?_, fun W b h hb => ?_, fun W h => ?_⟩
  · obtain ⟨h1, h2⟩ := (hS W).1 h
    exact ⟨(h2.at hM hp).1, (h2.at hM hp).2.1⟩
  · obtain ⟨h1, h2⟩ := (hS W).1 h
    have h3 := h2.hsh i p hp
    refine (sumh_ok p.g d p.h W h3.1 (hT.below h1) h3.2.2.2 (by rw [hpt]; omega)).mono ?_
    rintro e w' ⟨rfl, hb⟩
    exact ⟨by rw [hpt], go h hb, fun j C t hj => hj.keep hb⟩
  · obtain ⟨h1, h2⟩ := (hS W).1 h
    have h3 := h2.txt i p hp
    refine (refsum_one d p.a p.t.length p.c b p.t W hb h3.1 h3.2.1 hn).mono ?_
    rintro e w' ⟨rfl, hb⟩
    exact ⟨rfl, go h hb⟩
  · obtain ⟨h1, h2⟩ := (hS W).1 h
    refine (len_ok p.g d p.h W (h2.hsh i p hp).1).mono ?_
    rintro e w' ⟨rfl, rfl⟩
    exact ⟨by rw [hpt], h⟩
/-- one more hasher, a clone. -/
theorem TURNS.push {w w3 W : World} {d : Int} {lb cl tb ct M g' g1 c1 g2 c2 H : Nat} {hs : List HP} {at' n : Nat} {p : HP} (h : TURNS w w3 d (.slice (some ⟨lb, 0, none⟩) M cl) (.slice (some ⟨tb, 0, none⟩) M ct) hs at' n) (hM : hs.length = M) (hp : hs[at']? = some p) (hH : HASHER w3 g' d p.h) (hg : H ≤ g') (hwH : w.heap.size ≤ H) (hf : ∀ b, PFOOT (.slice (some ⟨lb, 0, none⟩) M cl) (.slice (some ⟨tb, 0, none⟩) M ct) hs b → b < H) (h5 : M ≤ 5)
    (hk : KP w3 W (.slice (some ⟨lb, 0, none⟩) M cl) (.slice (some ⟨tb, 0, none⟩) M ct)) (hl : ST2 w3.heap.size W w.heap.size 26 (.slice (some ⟨lb, 0, none⟩) M cl) M (HPL hs) g1 c1 (.pointer (some ⟨g', 0, none⟩)))
    (ht : ST2 w3.heap.size W w.heap.size 23 (.slice (some ⟨tb, 0, none⟩) M ct) M (HPT hs) g2 c2 (.slice p.a p.t.length p.c)) (h12 : g1 ≠ g2) :
    TURNS w W d (.slice (some ⟨g1, 0, none⟩) (M + 1) c1) (.slice (some ⟨g2, 0, none⟩) (M + 1) c2) (hs ++ [⟨g', p.h, p.a, p.c, p.t⟩]) at' n := by
  subst hM
  have hlb := h.pieces.ownl.lt lb rfl
  have htb := h.pieces.ownt.lt tb rfl
  have e1 : HPL (hs ++ [(⟨g', p.h, p.a, p.c, p.t⟩ : HP)]) = HPL hs ++ [.pointer (some ⟨g', 0, none⟩)] := by simp [HPL]
  have e2 : HPT (hs ++ [(⟨g', p.h, p.a, p.c, p.t⟩ : HP)]) = HPT hs ++ [.slice p.a p.t.length p.c] := by simp [HPT]
  have own1 : ∀ {b g n c : Nat}, (Value.slice (some ⟨g, 0, none⟩) n c).ownBlock = some b → g = b := fun {b g n c} e => by simpa [Value.ownBlock] using e
  have hsz := h.below.size
  refine ⟨h.below.trans ⟨hk.2.2.1, hk.2.2.2.1, hk.2.2.2.2, hk.1, fun b hb => hk.2.1 b (Nat.lt_of_lt_of_le hb hsz) (fun e => by have := own1 e; omega) (fun e => by have := own1 e; omega)⟩, ?_, fun i q hq => ?_, by rw [List.length_append]; have := h.lt; omega, by rw [List.length_append]; simp; omega⟩
  · refine h.pieces.push hp hH (by omega) (fun hff => by have := hf g' hff; omega) (h.pieces.hsh at' p hp).2.2.2 hk.1 hk.2.1 (by rw [e1]; exact hl.1) (by rw [e2]; exact ht.1) (fun b e => ?_) (fun b e => ?_) (fun b e e' => ?_)
    · obtain rfl := own1 e
      exact hl.2
    · obtain rfl := own1 e
      exact ht.2
    · exact h12 ((own1 e).trans (own1 e').symm)
  · by_cases hi : i < hs.length
    · rw [List.getElem?_append_left hi] at hq
      exact h.same i q hq
    · rw [List.getElem?_append_right (by omega)] at hq
      obtain hj : i - hs.length = 0 := by
        have := (List.getElem?_eq_some_iff.1 hq).1
        simp at this
        omega
      rw [hj] at hq
      simp only [List.getElem?_cons_zero, Option.some.injEq] at hq
      subst hq
      exact h.same at' p hp
/-- a list of bytes of one's own is a text. -/
theorem own_reads {w : World} {B n c : Nat} {a : Option Addr} {l : List Nat} (h : w.ownsRow B 5 1 (.slice a n c) n (CELLS (INTS l))) (hs : Small8 l) : Text w a n l ∧ n ≤ c ∧ (a = none → c = 0) ∧ ∀ x, a = some x → B ≤ x.block ∧ x.block < w.heap.size := by
  have hl : l.length = n := by have := h.1; simpa [CELLS, INTS] using this
  rcases h.2 with ⟨e, h0⟩ | ⟨g, cap, cur, e, _, hg, hc, _⟩
  · simp only [Value.slice.injEq] at e
    obtain ⟨rfl, rfl, rfl⟩ := e
    exact ⟨⟨hl, fun h => by omega, hs⟩, Nat.le_refl _, fun _ => rfl, fun x hx => by cases hx⟩
  · simp only [Value.slice.injEq] at e
    obtain ⟨rfl, _, rfl⟩ := e
    have h2 : w.ownsRow B 5 1 (.slice (some ⟨g, 0, none⟩) n c) n (BY l) := h
    refine ⟨⟨hl, fun _ => ⟨g, 0, rfl, (h.lt g rfl).2, fun i hi => ?_⟩, hs⟩, hc, (fun h => by cases h), (fun x hx => by cases hx; exact h.lt g rfl)⟩
    rw [Nat.zero_add, h2.cellAt i (by omega), BY_get _ _ (by omega)]
/-- a hasher has taken a text, the text's copy is counted up, byte by byte. -/
structure GV (w wx : World) (d : Int) (lb cl tb ct M : Nat) (hs : List HP) (ab HZ g2 c2 : Nat) (pa : Option Addr) (pn pc : Nat) (l : List Nat) : Prop where
  below : Below w.heap.size w wx
  pieces : PIECES wx w.heap.size d (.slice (some ⟨lb, 0, none⟩) M cl) (.slice (some ⟨tb, 0, none⟩) M ct) hs
  own : wx.ownsRow HZ 5 1 (.slice (some ⟨g2, 0, none⟩) (pn + 1) c2) (pn + 1) (BY (l ++ [171]))
  box : wx.cell? ⟨ab, 1, none⟩ = some (.slice pa pn pc)
theorem GV.keep {w wx w' : World} {d : Int} {lb cl tb ct M : Nat} {hs : List HP} {ab HZ g2 c2 : Nat} {pa : Option Addr} {pn pc : Nat} {l : List Nat} (h : GV w wx d lb cl tb ct M hs ab HZ g2 c2 pa pn pc l) (hb : Below wx.heap.size wx w') : GV w w' d lb cl tb ct M hs ab HZ g2 c2 pa pn pc l :=
  ⟨h.below.trans (hb.mono h.below.size), h.pieces.below hb, own_keep h.own hb, (hb.cell (p := ⟨ab, 1, none⟩) (World.block_lt_of_cell? _ _ h.box)).trans h.box⟩
theorem GV.put {w wx : World} {d : Int} {lb cl tb ct M : Nat} {hs : List HP} {ab HZ g2 c2 : Nat} {pa : Option Addr} {pn pc : Nat} {l : List Nat} (h : GV w wx d lb cl tb ct M hs ab HZ g2 c2 pa pn pc l) (hl : l.length = pn) (hw : w.heap.size ≤ HZ) (hab : ab < HZ) (hf : ∀ b, PFOOT (.slice (some ⟨lb, 0, none⟩) M cl) (.slice (some ⟨tb, 0, none⟩) M ct) hs b → b < HZ) {q x : Nat} (hq : q < pn) :
    GV w (wx.setCell ⟨g2, q, none⟩ (.int .u8 (x : Int))) d lb cl tb ct M hs ab HZ g2 c2 pa pn pc (l.set q x) ∧ wx.frozen? ⟨g2, q, none⟩ = false ∧ wx.cell? ⟨g2, q, none⟩ = some (.int .u8 ((l.getD q 0 : Nat) : Int)) := by
  have hg := h.own.lt g2 rfl
  refine ⟨⟨h.below.setCell (p := ⟨g2, q, none⟩) (Nat.le_trans hw hg.1) _, h.pieces.turn (by simp) fun b hb => ?_, ?_, ?_⟩, h.own.frozenAt q, ?_⟩
  · have h1 := hf b hb
    exact Below.heap_setCell _ _ _ b (fun e => by have e2 : b = g2 := e; omega)
  · have h1 := (h.own.stored q (.int .u8 (x : Int))).1
    rw [← BY_set, List.set_append_left _ _ (by omega)] at h1
    exact h1
  · rw [World.cell?_setCell_other _ _ _ _ (fun e => by have e2 := congrArg Addr.block e; simp at e2; omega)]
    exact h.box
  · rw [h.own.cellAt q (by omega), BY_get _ _ (by rw [List.length_append]; omega), List.getD_eq_getElem?_getD, List.getElem?_append_left (by omega), ← List.getD_eq_getElem?_getD]
/-- the text beside it is the longer one, too. -/
theorem TURNS.wrote {w W w0 : World} {d : Int} {lb cl tb ct M : Nat} {hs : List HP} {at' n n' : Nat} {p : HP} {pn c5 : Nat} {a5 : Option Addr} {q : List Nat} (hsame : ∀ (i : Nat) (p : HP), hs[i]? = some p → p.h = p.t ∧ p.t.length ≤ n) (hlt : at' < hs.length) (hfew : hs.length ≤ 6) (hp : hs[at']? = some p)
    (hb : Below w.heap.size w W) (hP : PIECES W w.heap.size d (.slice (some ⟨lb, 0, none⟩) M cl) (.slice (some ⟨tb, 0, none⟩) M ct) (hs.set at' ⟨p.g, p.h ++ q, p.a, p.c, p.t⟩)) (hq : q.length = pn) (hs8 : Small8 q) (hn : n + pn ≤ n')
    (hb0 : Below W.heap.size W w0) (hown : w0.ownsRow W.heap.size 5 1 (.slice a5 (p.t.length + pn) c5) (p.t.length + pn) (CELLS (INTS (p.t ++ q)))) :
    TURNS w (w0.setCell ⟨tb, at', none⟩ (.slice a5 (p.t.length + pn) c5)) d (.slice (some ⟨lb, 0, none⟩) M cl) (.slice (some ⟨tb, 0, none⟩) M ct) (hs.set at' ⟨p.g, p.h ++ q, a5, c5, p.t ++ q⟩) at' n' := by
  have hget : (hs.set at' ⟨p.g, p.h ++ q, p.a, p.c, p.t⟩)[at']? = some (⟨p.g, p.h ++ q, p.a, p.c, p.t⟩ : HP) := List.getElem?_set_self hlt
  have ht8 : Small8 (p.t ++ q) := small_app (hP.txt at' _ hget).1.2.2 hs8
  obtain ⟨h1, h2, h3, h4⟩ := own_reads hown ht8
  have hlen : (p.t ++ q).length = p.t.length + pn := by rw [List.length_append, hq]
  have hP0 := hP.below hb0
  have hr := hP0.retext (i := at') (a := a5) (c := c5) (t := p.t ++ q) hget (by rw [hlen]; exact h1) h3 (by rw [hlen]; exact h2) (fun x hx => ⟨(h4 x hx).2, fun hf => by have h5 := hP.lt hf; have := (h4 x hx).1; omega⟩)
  rw [List.set_set, hlen] at hr
  have hb1 := hb.trans (hb0.mono hb.size)
  refine ⟨hb1.setCell (p := ⟨tb, at', none⟩) (hP.ownt.lt tb rfl).1 _, hr, fun i r hr => ?_, by rw [List.length_set]; exact hlt, by rw [List.length_set]; exact hfew⟩
  rcases hs_set hp hr with ⟨rfl, rfl⟩ | ⟨_, h6⟩
  · obtain ⟨e1, e2⟩ := hsame i p hp
    exact ⟨by rw [e1], by rw [List.length_append]; omega⟩
  · obtain ⟨e1, e2⟩ := hsame i r h6
    exact ⟨e1, by omega⟩
end Go.Proofs.YtihdhaamphdljaaDoor
