/- The law HashCuts returns true. -/
import Derived.Test.YtgmoebopnmaebabDoorHashWidthsWalk
namespace Go.Proofs.YtgmoebopnmaebabDoor
open Go.RowKit

/-- parts as cells. -/
def PCELLS (ps : List PART) : List Value := ps.map fun p => Value.slice p.a p.n p.c
theorem PCELLS_snoc (ps : List PART) (p : PART) : PCELLS (ps ++ [p]) = PCELLS ps ++ [.slice p.a p.n p.c] := by simp [PCELLS]
theorem info_part : ∃ i, Tryd.prog.info? 22 = some i ∧ i.zero = some (.slice none 0 0) ∧ i.size = 1 ∧ i.bytes = 24 := by
  have h : (Tryd.prog.info? 22).map (fun i => (i.zero, i.size, i.bytes)) = some (some (.slice none 0 0), 1, 24) := by kernel_rfl
  obtain ⟨i, hi, h⟩ := Option.map_eq_some_iff.1 h
  simp only [Prod.mk.injEq] at h
  exact ⟨i, hi, h.1, h.2.1, h.2.2⟩
theorem app_part {ops : Array Oper} {rest : List Oper} {o : Oper} {a : Act} {Q : Exit → Act → World → Prop} (w : World) (p : PART) (hgd : o.guard = none) (s x : Operand)
    (ho : o.op = .call { callee := .builtin .append, args := #[s, x], argTypes := #[32, 32] })
    (base : Nat) (v : Value) (n : Nat) (ps : List PART) (hs : a.eval s = v) (hown : w.ownsRow base 22 1 v n (PCELLS ps))
    (hx : a.eval x = .slice (some ⟨w.heap.size, 0, none⟩) 1 1) (hb : n ≤ 1000) (hbase : base ≤ w.heap.size)
    (h : ∀ g cap w', w'.ownsRow base 22 1 (.slice (some ⟨g, 0, none⟩) (n + 1) cap) (n + 1) (PCELLS (ps ++ [p])) → (w.alloc (.cells #[.slice p.a p.n p.c] 22)).grownBy w' v.ownBlock → g < w'.heap.size → wpList Tryd.prog ops Q rest (a.put o.dst (.slice (some ⟨g, 0, none⟩) (n + 1) cap)) w') : wpList Tryd.prog ops Q (o :: rest) a (w.alloc (.cells #[.slice p.a p.n p.c] 22)) := by
  obtain ⟨i, hi, hz, hs1, hby⟩ := info_part
  refine wpList_append_lies _ hgd s x 32 ho base 22 i (.slice none 0 0) 1 24 Tryd.underlying32 hi hz hs1 hby rfl (by decide) v n (PCELLS ps) hs (hown.alloc _) ⟨w.heap.size, 0, none⟩ 1 1 [.slice p.a p.n p.c] hx rfl ?_ (fun u hu => by simp at hu; subst hu; rfl) (by decide) (by simp only [maxLen]; omega) (by omega) (by simp; omega) (w.heap.size + 1) (by simp) ?_
  · intro j u hj
    cases j with
    | zero =>
      simp only [List.getElem?_cons_zero, Option.some.injEq] at hj
      subst hj
      rw [addr_add, World.cell?_alloc_at _ _ _ _ rfl]
      rfl
    | succ j => simp at hj
  · intro g cap w' h1 h2 _ h4
    rw [← PCELLS_snoc] at h1
    exact h g cap w' h1 h2 h4
/-- what the loop of HashCuts keeps. -/
structure CUTS (w wx : World) (d : Int) (l : List Nat) (g br B : Nat) (ps : List PART) (q : List Nat) (v7 : Value) (ad : Addr) (r c : Nat) : Prop where
  below : Below w.heap.size w wx
  lt1 : w.heap.size ≤ g
  lt2 : w.heap.size ≤ br
  ne : g ≠ br
  gB : g < B
  brB : br < B
  Bx : B ≤ wx.heap.size
  join : JOIN ps ++ q = l
  rest : Text wx (some ad) r q
  cap : r ≤ c
  blk : ad.block = br
  hasher : HASHER wx g d (JOIN ps)
  own : wx.ownsRow B 22 1 v7 ps.length (PCELLS ps)
  parts : ∀ p ∈ ps, Text wx p.a p.n p.l ∧ p.n ≤ p.c ∧ ∀ x, p.a = some x → x.block = br
theorem Text.keepBlock {w w' : World} {a : Option Addr} {n br : Nat} {l : List Nat} (h : Text w a n l) (hb : ∀ x, a = some x → x.block = br) (hk : w'.heap[br]? = w.heap[br]?) (hs : w.heap.size ≤ w'.heap.size) : Text w' a n l :=
  h.keep fun b off e hl => by
    obtain rfl : b = br := hb _ e
    exact ⟨hk, Nat.lt_of_lt_of_le hl hs⟩
theorem Text.take {w : World} {ad : Addr} {r k : Nat} {q : List Nat} (h : Text w (some ad) r q) (hk : k ≤ r) : Text w (some ad) k (q.take k) := by
  refine ⟨by rw [List.length_take, h.1]; omega, fun hn => ?_, fun x hx => h.2.2 x (List.mem_of_mem_take hx)⟩
  obtain ⟨b, off, e, hl, hc⟩ := h.2.1 (by omega)
  refine ⟨b, off, e, hl, fun i hi => ?_⟩
  rw [hc i (by omega)]
  have e : (q.take k).getD i 0 = q.getD i 0 := by rw [List.getD_eq_getElem?_getD, List.getD_eq_getElem?_getD, List.getElem?_take_of_lt hi]
  rw [e]
theorem Text.drop {w : World} {ad ad' : Addr} {r k c : Nat} {q : List Nat} (h : Text w (some ad) r q) (hk : k ≤ r) (hr : r ≤ c) (had : ad' = if c = k then ad else ad.add k) : Text w (some ad') (r - k) (q.drop k) ∧ ad'.block = ad.block := by
  by_cases e : c = k
  · rw [if_pos e] at had
    subst had
    exact ⟨⟨by rw [List.length_drop, h.1], fun hn => by omega, fun x hx => h.2.2 x (List.mem_of_mem_drop hx)⟩, rfl⟩
  · rw [if_neg e] at had
    refine ⟨⟨by rw [List.length_drop, h.1], fun hn => ?_, fun x hx => h.2.2 x (List.mem_of_mem_drop hx)⟩, by rw [had]; unfold Addr.add; split <;> rfl⟩
    obtain ⟨b, off, e2, hl, hc⟩ := h.2.1 (by omega)
    simp only [Option.some.injEq] at e2
    subst e2
    rw [addr_add] at had
    refine ⟨b, off + k, by rw [had], hl, fun i hi => ?_⟩
    rw [Nat.add_assoc, hc (k + i) (by omega)]
    have e : q.getD (k + i) 0 = (q.drop k).getD i 0 := by rw [List.getD_eq_getElem?_getD, List.getD_eq_getElem?_getD, List.getElem?_drop]
    rw [e]
/-- a new part is laid down, and the hasher takes it. -/
theorem CUTS.step {w wx w2 w3 : World} {d : Int} {l : List Nat} {g br B : Nat} {ps : List PART} {q : List Nat} {v7 v8 : Value} {ad ad' : Addr} {r c k : Nat} (h : CUTS w wx d l g br B ps q v7 ad r c) (hk : k ≤ r)
    (hv : v8.ownBlock ≠ none)
    (hg : (wx.alloc (.cells #[.slice (some ad) k c] 22)).grownBy w2 v7.ownBlock) (ho : w2.ownsRow B 22 1 v8 (ps.length + 1) (PCELLS (ps ++ [⟨some ad, k, c, q.take k⟩])))
    (hG : w2.grownBy w3 (some g)) (hH : HASHER w3 g d (JOIN ps ++ q.take k)) (had : ad' = if c = k then ad else ad.add k) : CUTS w w3 d l g br B (ps ++ [⟨some ad, k, c, q.take k⟩]) (q.drop k) v8 ad' (r - k) (c - k) := by
  have hB7 : ∀ j, v7.ownBlock = some j → B ≤ j := fun j e => (h.own.lt j e).1
  have hsz1 : (wx.alloc (.cells #[.slice (some ad) k c] 22)).heap.size = wx.heap.size + 1 := by simp
  have s2 := hg.size
  have s3 := hG.size
  rw [hsz1] at s2
  have hBx := h.Bx
  have hgB := h.gB
  have hbrB := h.brB
  have blk2 : ∀ j, j < B → w2.heap[j]? = wx.heap[j]? := fun j hj => (hg.block j (by rw [hsz1]; omega) (fun e => by have := hB7 j e.symm; omega)).trans (Below.heap_alloc wx _ j (by omega))
  have kbr : w3.heap[br]? = wx.heap[br]? := (hG.block br (by omega) (fun e => h.ne (by simpa using e.symm))).trans (blk2 br hbrB)
  have hb2 : Below w.heap.size w w2 := (h.below.alloc h.below.size _).grown hg (by rw [hsz1]; have := h.below.size; omega) (fun j e => by have := hB7 j e; have := h.lt1; omega)
  have hd := (h.rest.keepBlock (w' := w3) (br := br) (fun x hx => by simp only [Option.some.injEq] at hx; rw [← hx]; exact h.blk) kbr (by omega)).drop hk h.cap had
  have ht := (h.rest.keepBlock (w' := w3) (br := br) (fun x hx => by simp only [Option.some.injEq] at hx; rw [← hx]; exact h.blk) kbr (by omega)).take hk
  refine ⟨hb2.grown hG hb2.size (fun j e => by simp at e; have := h.lt1; omega), h.lt1, h.lt2, h.ne, hgB, hbrB, by omega, ?_, hd.1, by have := h.cap; omega, hd.2.trans h.blk, ?_, ?_, fun p hp => ?_⟩
  · rw [JOIN_snoc, List.append_assoc, List.take_append_drop, h.join]
  · rw [JOIN_snoc]
    exact hH
  · rw [List.length_append]
    refine ho.kept hG ?_
    cases e : v8.ownBlock with
    | none => exact absurd e hv
    | some j =>
      refine Or.inr (fun e2 => ?_)
      have := (ho.lt j e).1
      simp only [Option.some.injEq] at e2
      omega
  · rcases List.mem_append.1 hp with hp | hp
    · obtain ⟨p1, p2, p3⟩ := h.parts p hp
      exact ⟨p1.keepBlock p3 kbr (by omega), p2, p3⟩
    · simp only [List.mem_singleton] at hp
      subst hp
      exact ⟨ht, by have := h.cap; show k ≤ c; omega, fun x hx => by simp only [Option.some.injEq] at hx; rw [← hx]; exact h.blk⟩
/-- behind the append, ahead of Write. -/
theorem CUTS.mid {w wx w2 : World} {d : Int} {l : List Nat} {g br B : Nat} {ps : List PART} {q : List Nat} {v7 : Value} {ad : Addr} {r c k : Nat} {o : Obj} (h : CUTS w wx d l g br B ps q v7 ad r c) (hk : k ≤ r) (hT : Tabled w)
    (hg : (wx.alloc o).grownBy w2 v7.ownBlock) : HASHER w2 g d (JOIN ps) ∧ Tabled w2 ∧ Text w2 (some ad) k (q.take k) := by
  have hB7 : ∀ j, v7.ownBlock = some j → B ≤ j := fun j e => (h.own.lt j e).1
  have hsz1 : (wx.alloc o).heap.size = wx.heap.size + 1 := by simp
  have s2 := hg.size
  rw [hsz1] at s2
  have hBx := h.Bx
  have hgB := h.gB
  have hbrB := h.brB
  have blk2 : ∀ j, j < B → w2.heap[j]? = wx.heap[j]? := fun j hj => (hg.block j (by rw [hsz1]; omega) (fun e => by have := hB7 j e.symm; omega)).trans (Below.heap_alloc wx _ j (by omega))
  have hb2 : Below w.heap.size w w2 := (h.below.alloc h.below.size _).grown hg (by rw [hsz1]; have := h.below.size; omega) (fun j e => by have := hB7 j e; have := h.lt1; omega)
  refine ⟨?_, hT.below hb2, (h.rest.keepBlock (w' := w2) (br := br) (fun x hx => by simp only [Option.some.injEq] at hx; rw [← hx]; exact h.blk) (blk2 br hbrB) (by omega)).take hk⟩
  obtain ⟨b, h1, h2⟩ := h.hasher
  exact ⟨b, (blk2 g hgB).trans h1, h2⟩
theorem CUTS.toParts {w wx : World} {d : Int} {l : List Nat} {g br B : Nat} {ps : List PART} {q : List Nat} {ad : Addr} {r c g8 cap8 k : Nat} (h : CUTS w wx d l g br B ps q (.slice (some ⟨g8, 0, none⟩) k cap8) ad r c) (hk : ps.length = k) : Parts wx (some ⟨g8, 0, none⟩) k ps := by
  refine ⟨hk, fun _ => ⟨g8, 0, rfl, (h.own.lt g8 rfl).2, fun i p hp => ?_⟩, fun p hp => ?_⟩
  · have hi : i < ps.length := (List.getElem?_eq_some_iff.1 hp).1
    have ho := h.own
    rw [hk] at ho
    rw [Nat.zero_add, ho.cellAt i (by omega)]
    simp [PCELLS, hp]
  · obtain ⟨p1, p2, p3⟩ := h.parts p hp
    exact ⟨p1, p2, fun x hx => by have := p3 x hx; have := h.brB; have := h.Bx; omega⟩
theorem Parts.below {w w' : World} {a : Option Addr} {k : Nat} {ps : List PART} (h : Parts w a k ps) (hb : Below w.heap.size w w') : Parts w' a k ps :=
  ⟨h.1, fun hk => by
    obtain ⟨b, off, e, hl, hc⟩ := h.2.1 hk
    exact ⟨b, off, e, Nat.lt_of_lt_of_le hl hb.size, fun i p hp => (hb.cell (by exact hl)).trans (hc i p hp)⟩, fun p hp => by
    obtain ⟨h1, h2, h3⟩ := h.2.2 p hp
    exact ⟨h1.below hb, h2, fun x hx => Nat.lt_of_lt_of_le (h3 x hx) hb.size⟩⟩
theorem Parts.drew {w : World} {a : Option Addr} {k : Nat} {ps : List PART} (h : Parts w a k ps) : Parts w.drew a k ps := h.below (Below.refl _ _).drew
theorem len_ok (g : Nat) (d : Int) (l : List Nat) (w : World) (hH : HASHER w g d l) : Calls Tryd.prog 13 #[.pointer (some ⟨g, 0, none⟩)] w fun e w' => e = .returned (.int .u64 (l.length : Nat)) ∧ w = w' := by
  obtain ⟨b, h, _⟩ := hH
  have ct : w.cell? ⟨g, 97, none⟩ = some (.int .u64 (l.length : Nat)) := by rw [h.cell, HARR_taken]
  clear h
  go_enter Tryd.func13, Tryd.ntmps13
  go_wp2
  go_ret
  exact ⟨rfl, rfl⟩
theorem cuts_long (d : Int) (a : Option Addr) (n c : Nat) (a3 : Option Addr) (m c3 : Nat) (w : World) (hn : 3000 < (n : Int)) :
    Calls Tryd.prog 4 #[.int .i64 d, .slice a n c, .slice a3 m c3] w fun e w' => e = .returned (.bool true) ∧ Below w.heap.size w w' := by
  go_enter Tryd.func4, Tryd.ntmps4
  go_wp2
  go_ret
  exact ⟨rfl, Below.refl _ _⟩
theorem cuts_many (d : Int) (a : Option Addr) (n c : Nat) (a3 : Option Addr) (m c3 : Nat) (w : World) (hn : ¬ 3000 < (n : Int)) (hm : 100 < (m : Int)) :
    Calls Tryd.prog 4 #[.int .i64 d, .slice a n c, .slice a3 m c3] w fun e w' => e = .returned (.bool true) ∧ Below w.heap.size w w' := by
  go_enter Tryd.func4, Tryd.ntmps4
  go_wp2
  go_ret
  exact ⟨rfl, Below.refl _ _⟩
set_option maxHeartbeats 1000000 in
theorem cuts_walk (d : Int) (a : Option Addr) (n c : Nat) (l : List Nat) (a3 : Option Addr) (m c3 : Nat) (z : Nat → Int) (w : World) (hn : ¬ 3000 < (n : Int)) (hm : ¬ 100 < (m : Int)) (hA : Text w a n l) (hc : a = none → c = 0)
    (hz : 0 < m → ∃ cb co, a3 = some ⟨cb, co, none⟩ ∧ cb < w.heap.size ∧ ∀ i, i < m → w.cell? ⟨cb, co + i, none⟩ = some (.int .i64 (z i)) ∧ -(2 ^ 63) ≤ z i ∧ z i < 2 ^ 63) (hT : Tabled w) :
    Calls Tryd.prog 4 #[.int .i64 d, .slice a n c, .slice a3 m c3] w fun e w' => e = .returned (.bool true) ∧ Below w.heap.size w w' := by
  have cr := fun (w : World) (h : Text w a n l) => row_ok a n c l w h hc (by omega)
  have H : Aside (Text w a n l ∧ Tabled w ∧ n ≤ 3000 ∧ m ≤ 100 ∧ (0 < m → ∃ cb co, a3 = some ⟨cb, co, none⟩ ∧ cb < w.heap.size ∧ ∀ i, i < m → w.cell? ⟨cb, co + i, none⟩ = some (.int .i64 (z i)) ∧ -(2 ^ 63) ≤ z i ∧ z i < 2 ^ 63)) := ⟨hA, hT, by omega, by omega, hz⟩
  have cn := new_ok d w hT
  clear hA hT hc hz
  go_enter Tryd.func4, Tryd.ntmps4
  go_wp2_with fail
  refine cn.mono ?_
  rintro e w1 ⟨g, rfl, hg, hH, hb1⟩
  clear cn
  have R1 : Aside (w.heap.size ≤ g ∧ HASHER w1 g d [] ∧ Below w.heap.size w w1 ∧ g < w1.heap.size) := ⟨hg, hH, hb1, by obtain ⟨b, h, _⟩ := hH; exact h.lt⟩
  clear hg hH hb1
  go_wp2_with fail
  refine (cr _ (H.out.1.below R1.out.2.2.1)).mono ?_
  rintro e w2 ⟨a2, c2, rfl, ht2, hc2, hx2, hb2⟩
  obtain ⟨br, bo, rfl, hbr, _⟩ := ht2.2.1 (by omega)
  have hbe := hx2 _ rfl
  have hC : CUTS w w2 d l g br w2.heap.size [] l (.slice none 0 0) ⟨br, bo, none⟩ n c2 :=
    ⟨R1.out.2.2.1.trans (hb2.mono R1.out.2.2.1.size), R1.out.1, by have := R1.out.2.2.1.size; have := hbe.1; simp only at this; omega, by have := R1.out.2.2.2; have := hbe.1; simp only at this; omega, Nat.lt_of_lt_of_le R1.out.2.2.2 hb2.size, hbr, Nat.le_refl _, rfl, ht2.front, by omega, rfl, R1.out.2.1.below hb2, World.ownsRow_nil _ _ _ _, fun p hp => by simp at hp⟩
  have HC : Aside (CUTS w w2 d l g br w2.heap.size [] l (.slice none 0 0) ⟨br, bo, none⟩ n c2) := hC
  generalize w2.heap.size = B at HC
  clear hC ht2 hc2 hx2 hb2 hbr hbe R1
  go_wp2
  go_loopg [7, 9, 10] m (fun r s7 s9 s10 wx => ∃ (i : Nat) (ps : List PART) (q : List Nat) (ad : Addr) (rl rc : Nat), i + r = m ∧ s10 = .int .i64 i ∧ s9 = .slice (some ad) rl rc ∧ Aside (ps.length = i ∧ CUTS w wx d l g br B ps q s7 ad rl rc))
  case atStart => exact ⟨0, [], l, _, n, c2, by omega, rfl, rfl, rfl, HC.out⟩
  case round =>
    obtain ⟨i, ps, q, ad, rl, rc, hir, rfl, rfl, A⟩ := hrel
    clear HC
    cases gk with
    | zero =>
      obtain rfl : i = m := by omega
      have hzz := zero32
      obtain ⟨ad2, had2⟩ : ∃ ad2 : Addr, ad2 = (if rc = rl then ad else ad.add rl) := ⟨_, rfl⟩
      have hqt : q.take rl = q := List.take_of_length_le (by rw [A.out.2.rest.1]; exact Nat.le_refl _)
      go_wp2_with (at_builtin; refine app_part wr ⟨some ad, rl, rc, q.take rl⟩ rfl (.tmp 57) (.tmp 59) rfl B u7 ps.length ps rfl A.out.2.own rfl (by have := A.out.1; have := H.out.2.2.2.1; omega) A.out.2.Bx ?_; intro g8 cap8 w8 hown8 hgrow8 hg8)
      have hmid := A.out.2.mid (Nat.le_refl _) H.out.2.1 hgrow8
      have cw := write_ok g d (JOIN ps) (q.take rl) (some ad) rl rc w8 hmid.1 hmid.2.1 (by have := A.out.2.lt1; have := H.out.2.1.2.2; omega) hmid.2.2 (fun x hx => by simp only [Option.some.injEq] at hx; rw [← hx, A.out.2.blk]; exact A.out.2.ne.symm) A.out.2.cap (fun x hx => H.out.1.2.2 x (by rw [← A.out.2.join]; exact List.mem_append_left _ hx)) (by
        have h1 := congrArg List.length A.out.2.join
        rw [List.length_append, A.out.2.rest.1, H.out.1.1] at h1
        have := H.out.2.2.1
        omega)
      refine cw.mono ?_
      rintro e w9 ⟨rfl, hH9, hG9⟩
      have hst := A.out.2.step (Nat.le_refl _) (by simp [Value.ownBlock]) hgrow8 hown8 hG9 hH9 had2
      rw [A.out.1] at hst
      have hJ : JOIN (ps ++ [⟨some ad, rl, rc, q.take rl⟩]) = l := by rw [JOIN_snoc, hqt]; exact A.out.2.join
      have hP : Parts w9 (some ⟨g8, 0, none⟩) (i + 1) (ps ++ [⟨some ad, rl, rc, q.take rl⟩]) := hst.toParts (by rw [List.length_append, A.out.1]; rfl)
      have V : Aside (Below w.heap.size w w9 ∧ HASHER w9 g d l ∧ Parts w9 (some ⟨g8, 0, none⟩) (i + 1) (ps ++ [⟨some ad, rl, rc, q.take rl⟩]) ∧ JOIN (ps ++ [⟨some ad, rl, rc, q.take rl⟩]) = l) := ⟨hst.below, by have := hst.hasher; rw [hJ] at this; exact this, hP, hJ⟩
      clear hP hJ hst cw hmid hown8 hgrow8 hg8 hH9 hG9 hqt had2
      rw [A.out.1]
      go_wp2_with fail
      refine (cr _ (H.out.1.below V.out.1)).mono ?_
      rintro e w10 ⟨a10, c10, rfl, ht10, hc10, hx10, hb10⟩
      have hb10' : Below w.heap.size w w10 := V.out.1.trans (hb10.mono V.out.1.size)
      have cs := sum_one d w10 a10 n c10 l ht10.front (by omega) (fun x h => (hx10 x h).2) (by have := H.out.2.2.1; omega) (H.out.2.1.below hb10')
      have W1 : Aside (Below w.heap.size w w10 ∧ Below w9.heap.size w9 w10) := ⟨hb10', hb10⟩
      clear ht10 hc10 hx10 hb10 hb10'
      go_wp2_with fail
      refine cs.mono ?_
      rintro e w11 ⟨rfl, hb11⟩
      clear cs
      generalize hF : HASHOF d l = F at *
      have HF : Aside (HASHOF d l = F) := hF
      clear hF
      have hb12 : Below w9.heap.size w9 (w11.alloc (.cells (UARR .u8 32 F) 24)) := (W1.out.2.trans (hb11.mono W1.out.2.size)).alloc (Nat.le_trans W1.out.2.size hb11.size) _
      have X : Aside (Below w9.heap.size w9 (w11.alloc (.cells (UARR .u8 32 F) 24)) ∧ Has (w11.alloc (.cells (UARR .u8 32 F) 24)) w11.heap.size (UARR .u8 32 F) 24) := ⟨hb12, Has.new _ _ _⟩
      clear hb11 hb12 W1
      go_wp2_with (first
        | (refine wpList_store_row rfl 24 _ _ rfl _ _ rfl rfl 24 (UARR .u8 32 fun _ => 0) (Has.new w11 _ _) (info_HASH _) (by rw [UARR_size, UARR_size]) (UARR_one _ _ _) ?_; rw [World.setRow_alloc_new]; generalize w11.alloc (.cells (UARR .u8 32 F) 24) = w12 at *; generalize w11.heap.size = g12 at *))
      have hS : w12.drew.rangeAt g12 0 (ULIST .u8 32 F) := X.out.2.whole
      have hgl : g12 < w12.heap.size := X.out.2.lt
      have hi1 : (Tryd.prog.info? 24).map (·.size) = some (ULIST .u8 32 F).length := by rw [ULIST_length]; exact info_hash
      have heq1 : ∀ w, (Op.equalIn 10000 24 (.agg (UARR .u8 32 F)) (.agg (ULIST .u8 32 F).toArray)).run Tryd.prog w = .ok true w := equal_same F
      have hwn : IntKind.u64.wrap (n : Int) = (n : Int) := by rw [wrapU]; omega
      have hbW : Below w.heap.size w w12 := V.out.1.trans (X.out.1.mono V.out.1.size)
      have hll : l.length = n := H.out.1.1
      have c13 : Calls Tryd.prog 6 #[.int .i64 d, .slice (some ⟨g8, 0, none⟩) (i + 1) cap8] w12.drew fun e w' => e = .returned (.agg (UARR .u8 32 F)) ∧ Below w12.heap.size w12.drew w' := by
        have k := sum_ok d (some ⟨g8, 0, none⟩) (i + 1) cap8 _ w12.drew ((V.out.2.2.1.below X.out.1).drew) ((H.out.2.1.below hbW).below (Below.refl _ _).drew) (by rw [V.out.2.2.2, hll]; have := H.out.2.2.1; omega) (by have := H.out.2.2.2.1; omega)
        rw [V.out.2.2.2, HF.out] at k
        exact k
      have hH12 : HASHER w12 g d l := V.out.2.1.below X.out.1
      have hT12 : Tabled w12 := H.out.2.1.below hbW
      have c14 : ∀ w', Below w12.heap.size w12.drew w' → Calls Tryd.prog 12 #[.pointer (some ⟨g, 0, none⟩)] w' fun e w'' => e = .returned (.agg (UARR .u8 32 F)) ∧ Below w'.heap.size w' w'' := fun w' hb => by
        have k := sumh_ok g d l w' ((show HASHER w12.drew g d l from hH12).below hb) ((show Tabled w12.drew from hT12).below hb) H.out.1.2.2 (by rw [hll]; have := H.out.2.2.1; omega)
        rw [HF.out] at k
        exact k
      have c15 : ∀ w', Below w12.heap.size w12.drew w' → Calls Tryd.prog 13 #[.pointer (some ⟨g, 0, none⟩)] w' fun e w'' => e = .returned (.int .u64 (n : Int)) ∧ w' = w'' := fun w' hb => by
        have k := len_ok g d l w' ((show HASHER w12.drew g d l from hH12).below hb)
        rw [hll] at k
        exact k
      have c16 : ∀ w', Below w12.heap.size w12.drew w' → Calls Tryd.prog 9 #[] w' fun e w'' => e = .returned (.bool true) ∧ Below w'.heap.size w' w'' := fun w' hb => awake_ok w' ((show Tabled w12.drew from hT12).below hb)
      have HB : Aside (Below w.heap.size w w12) := hbW
      clear hbW hH12 hT12 hll A
      refine wp_region_held_drew (S := fun W : World => W.rangeAt g12 0 (ULIST .u8 32 F)) (by kernel_rfl) hS (fun hHeld => ?_)
      change wpAnyH _ _ _ _ _ 23 (Array.replicate 23 false) _ (World.drew _)
      refine wpAnyH_take (i := 0) (oi := { dst := some 69, op := Op.move (Operand.tmp 0), type := 3, pos := "outright.go:71", after := #[], guard := none }) (v := .int .i64 d) rfl (by kernel_rfl) (by kernel_rfl) (by kernel_rfl) (fun _ _ _ h => h) (Or.inl ⟨by rfl, fun w hSw => by go_simp⟩) (by assumption) ?_
      simp only [Act.put, List.setIfInBounds_toArray, List.set_cons_zero, List.set_cons_succ]
      refine wpAnyH_take (i := 1) (oi := { dst := some 70, op := Op.move (Operand.tmp 7), type := 32, pos := "outright.go:71", after := #[], guard := none }) (v := .slice (some ⟨g8, 0, none⟩) (i + 1) cap8) rfl (by kernel_rfl) (by kernel_rfl) (by kernel_rfl) (fun _ _ _ h => h) (Or.inl ⟨by rfl, fun w hSw => by go_simp⟩) (by assumption) ?_
      simp only [Act.put, List.setIfInBounds_toArray, List.set_cons_zero, List.set_cons_succ]
      refine wpAnyH_take (i := 3) (oi := { dst := some 72, op := Op.load 24 (Operand.tmp 12), type := 24, pos := "outright.go:71", after := #[], guard := none }) (v := .agg (ULIST .u8 32 F).toArray) rfl (by kernel_rfl) (by kernel_rfl) (by kernel_rfl) (fun _ _ _ h => h) (yieldsIf_load_mid (by rfl) _ _ rfl _ _ rfl (ULIST .u8 32 F) _ (fun w h => h) Tryd.underlying24 rfl hi1) (by assumption) ?_
      simp only [Act.put, List.setIfInBounds_toArray, List.set_cons_zero, List.set_cons_succ]
      refine wpAnyH_ready (rs := [2]) (by kernel_rfl) (by simp) ?_
      refine AllReadyH.cons (o := { dst := some 71, op := Op.call { callee := Callee.value (Operand.func 6), args := #[Operand.tmp 69, Operand.tmp 70], argTypes := #[3, 32] }, type := 24, pos := "outright.go:71", after := #[{ on := 0, ground := Ground.data }, { on := 1, ground := Ground.data }], guard := none }) rfl (fun K hK => ?_) AllReadyH.nil
      rw [if_pos (by rfl)]
      go_simp
      refine (c13).mono ?_
      rintro e w13 ⟨rfl, hb13⟩
      have q13 : w13.rangeAt g12 0 (ULIST .u8 32 F) := range_below (by exact hS) hb13 (by exact hgl)
      refine hK.out _ _ (by assumption) (fun hHeld => ?_)
      clear hK K
      refine wpAnyH_take (i := 4) (oi := { dst := some 73, op := Op.binOp BinOp.eql 24 (Operand.tmp 71) (Operand.tmp 72) 24, type := 4, pos := "outright.go:71", after := #[{ on := 2, ground := Ground.data }, { on := 3, ground := Ground.data }], guard := none }) (v := .bool true) rfl (by kernel_rfl) (by kernel_rfl) (by kernel_rfl) (fun _ _ _ h => h) (Or.inl ⟨by rfl, fun w hSw => by go_simp⟩) (by assumption) ?_
      simp only [Act.put, List.setIfInBounds_toArray, List.set_cons_zero, List.set_cons_succ]
      refine wpAnyH_take (i := 5) (oi := { dst := some 74, op := Op.move (Operand.tmp 73), type := 4, pos := "outright.go:71", after := #[{ on := 4, ground := Ground.data }, { on := 2, ground := Ground.chain }], guard := none }) (v := .bool true) rfl (by kernel_rfl) (by kernel_rfl) (by kernel_rfl) (fun _ _ _ h => h) (Or.inl ⟨by rfl, fun w hSw => by go_simp⟩) (by assumption) ?_
      simp only [Act.put, List.setIfInBounds_toArray, List.set_cons_zero, List.set_cons_succ]
      refine wpAnyH_take (i := 6) (oi := { dst := some 75, op := Op.move (Operand.tmp 8), type := 33, pos := "outright.go:71", after := #[{ on := 5, ground := Ground.guard }], guard := some (5, true) }) (v := .pointer (some ⟨g, 0, none⟩)) rfl (by kernel_rfl) (by kernel_rfl) (by kernel_rfl) (fun _ _ _ h => h) (Or.inl ⟨by rfl, fun w hSw => by go_simp⟩) (by assumption) ?_
      simp only [Act.put, List.setIfInBounds_toArray, List.set_cons_zero, List.set_cons_succ]
      refine wpAnyH_take (i := 8) (oi := { dst := some 77, op := Op.load 24 (Operand.tmp 12), type := 24, pos := "outright.go:71", after := #[{ on := 5, ground := Ground.guard }], guard := some (5, true) }) (v := .agg (ULIST .u8 32 F).toArray) rfl (by kernel_rfl) (by kernel_rfl) (by kernel_rfl) (fun _ _ _ h => h) (yieldsIf_load_mid (by rfl) _ _ rfl _ _ rfl (ULIST .u8 32 F) _ (fun w h => h) Tryd.underlying24 rfl hi1) (by assumption) ?_
      simp only [Act.put, List.setIfInBounds_toArray, List.set_cons_zero, List.set_cons_succ]
      refine wpAnyH_ready (rs := [7]) (by kernel_rfl) (by simp) ?_
      refine AllReadyH.cons (o := { dst := some 76, op := Op.call { callee := Callee.value (Operand.func 12), args := #[Operand.tmp 75], argTypes := #[33] }, type := 24, pos := "outright.go:71", after := #[{ on := 6, ground := Ground.data }, { on := 5, ground := Ground.chain }, { on := 5, ground := Ground.guard }], guard := some (5, true) }) rfl (fun K hK => ?_) AllReadyH.nil
      rw [if_pos (by rfl)]
      go_simp
      refine (c14 w13 (by exact hb13)).mono ?_
      rintro e w14 ⟨rfl, hb14⟩
      have q14 : w14.rangeAt g12 0 (ULIST .u8 32 F) := range_below q13 hb14 (Nat.lt_of_lt_of_le hgl hb13.size)
      refine hK.out _ _ (by assumption) (fun hHeld => ?_)
      clear hK K
      refine wpAnyH_take (i := 9) (oi := { dst := some 78, op := Op.binOp BinOp.eql 24 (Operand.tmp 76) (Operand.tmp 77) 24, type := 4, pos := "outright.go:71", after := #[{ on := 7, ground := Ground.data }, { on := 8, ground := Ground.data }, { on := 5, ground := Ground.guard }], guard := some (5, true) }) (v := .bool true) rfl (by kernel_rfl) (by kernel_rfl) (by kernel_rfl) (fun _ _ _ h => h) (Or.inl ⟨by rfl, fun w hSw => by go_simp⟩) (by assumption) ?_
      simp only [Act.put, List.setIfInBounds_toArray, List.set_cons_zero, List.set_cons_succ]
      refine wpAnyH_take (i := 10) (oi := { dst := some 79, op := Op.pick (Operand.tmp 74) (Operand.tmp 78) (Operand.const (Value.bool false)), type := 4, pos := "outright.go:71", after := #[{ on := 5, ground := Ground.data }, { on := 9, ground := Ground.data }], guard := none }) (v := .bool true) rfl (by kernel_rfl) (by kernel_rfl) (by kernel_rfl) (fun _ _ _ h => h) (Or.inl ⟨by rfl, fun w hSw => by go_simp⟩) (by assumption) ?_
      simp only [Act.put, List.setIfInBounds_toArray, List.set_cons_zero, List.set_cons_succ]
      refine wpAnyH_take (i := 11) (oi := { dst := some 80, op := Op.move (Operand.tmp 79), type := 4, pos := "outright.go:71", after := #[{ on := 10, ground := Ground.data }, { on := 7, ground := Ground.chain }], guard := none }) (v := .bool true) rfl (by kernel_rfl) (by kernel_rfl) (by kernel_rfl) (fun _ _ _ h => h) (Or.inl ⟨by rfl, fun w hSw => by go_simp⟩) (by assumption) ?_
      simp only [Act.put, List.setIfInBounds_toArray, List.set_cons_zero, List.set_cons_succ]
      refine wpAnyH_take (i := 12) (oi := { dst := some 81, op := Op.move (Operand.tmp 8), type := 33, pos := "outright.go:71", after := #[{ on := 11, ground := Ground.guard }], guard := some (11, true) }) (v := .pointer (some ⟨g, 0, none⟩)) rfl (by kernel_rfl) (by kernel_rfl) (by kernel_rfl) (fun _ _ _ h => h) (Or.inl ⟨by rfl, fun w hSw => by go_simp⟩) (by assumption) ?_
      simp only [Act.put, List.setIfInBounds_toArray, List.set_cons_zero, List.set_cons_succ]
      refine wpAnyH_take (i := 14) (oi := { dst := some 83, op := Op.move (Operand.tmp 1), type := 22, pos := "outright.go:71", after := #[{ on := 11, ground := Ground.guard }], guard := some (11, true) }) (v := .slice a n c) rfl (by kernel_rfl) (by kernel_rfl) (by kernel_rfl) (fun _ _ _ h => h) (Or.inl ⟨by rfl, fun w hSw => by go_simp⟩) (by assumption) ?_
      simp only [Act.put, List.setIfInBounds_toArray, List.set_cons_zero, List.set_cons_succ]
      refine wpAnyH_take (i := 15) (oi := { dst := some 84, op := Op.call { callee := Callee.builtin Builtin.len, args := #[Operand.tmp 83], argTypes := #[22] }, type := 3, pos := "outright.go:71", after := #[{ on := 14, ground := Ground.data }, { on := 11, ground := Ground.guard }], guard := some (11, true) }) (v := .int .i64 (n : Int)) rfl (by kernel_rfl) (by kernel_rfl) (by kernel_rfl) (fun _ _ _ h => h) (Or.inl ⟨by rfl, fun w hSw => by go_simp⟩) (by assumption) ?_
      simp only [Act.put, List.setIfInBounds_toArray, List.set_cons_zero, List.set_cons_succ]
      refine wpAnyH_take (i := 16) (oi := { dst := some 85, op := Op.convert 3 37 (Operand.tmp 84), type := 37, pos := "outright.go:71", after := #[{ on := 15, ground := Ground.data }, { on := 11, ground := Ground.guard }], guard := some (11, true) }) (v := .int .u64 (n : Int)) rfl (by kernel_rfl) (by kernel_rfl) (by kernel_rfl) (fun _ _ _ h => h) (Or.inl ⟨by rfl, fun w hSw => by go_simp⟩) (by assumption) ?_
      simp only [Act.put, List.setIfInBounds_toArray, List.set_cons_zero, List.set_cons_succ]
      refine wpAnyH_ready (rs := [13]) (by kernel_rfl) (by simp) ?_
      refine AllReadyH.cons (o := { dst := some 82, op := Op.call { callee := Callee.value (Operand.func 13), args := #[Operand.tmp 81], argTypes := #[33] }, type := 37, pos := "outright.go:71", after := #[{ on := 12, ground := Ground.data }, { on := 11, ground := Ground.chain }, { on := 11, ground := Ground.guard }], guard := some (11, true) }) rfl (fun K hK => ?_) AllReadyH.nil
      rw [if_pos (by rfl)]
      go_simp
      refine (c15 w14 (by exact hb13.trans (hb14.mono hb13.size))).mono ?_
      rintro e w15 ⟨rfl, rfl⟩
      have q15 := q14
      refine hK.out _ _ (by assumption) (fun hHeld => ?_)
      clear hK K
      refine wpAnyH_take (i := 17) (oi := { dst := some 86, op := Op.binOp BinOp.eql 37 (Operand.tmp 82) (Operand.tmp 85) 37, type := 4, pos := "outright.go:71", after := #[{ on := 13, ground := Ground.data }, { on := 16, ground := Ground.data }, { on := 11, ground := Ground.guard }], guard := some (11, true) }) (v := .bool true) rfl (by kernel_rfl) (by kernel_rfl) (by kernel_rfl) (fun _ _ _ h => h) (Or.inl ⟨by rfl, fun w hSw => by go_simp⟩) (by assumption) ?_
      simp only [Act.put, List.setIfInBounds_toArray, List.set_cons_zero, List.set_cons_succ]
      refine wpAnyH_take (i := 18) (oi := { dst := some 87, op := Op.pick (Operand.tmp 80) (Operand.tmp 86) (Operand.const (Value.bool false)), type := 4, pos := "outright.go:71", after := #[{ on := 11, ground := Ground.data }, { on := 17, ground := Ground.data }], guard := none }) (v := .bool true) rfl (by kernel_rfl) (by kernel_rfl) (by kernel_rfl) (fun _ _ _ h => h) (Or.inl ⟨by rfl, fun w hSw => by go_simp⟩) (by assumption) ?_
      simp only [Act.put, List.setIfInBounds_toArray, List.set_cons_zero, List.set_cons_succ]
      refine wpAnyH_take (i := 19) (oi := { dst := some 88, op := Op.move (Operand.tmp 87), type := 4, pos := "outright.go:71", after := #[{ on := 18, ground := Ground.data }, { on := 13, ground := Ground.chain }], guard := none }) (v := .bool true) rfl (by kernel_rfl) (by kernel_rfl) (by kernel_rfl) (fun _ _ _ h => h) (Or.inl ⟨by rfl, fun w hSw => by go_simp⟩) (by assumption) ?_
      simp only [Act.put, List.setIfInBounds_toArray, List.set_cons_zero, List.set_cons_succ]
      refine wpAnyH_ready (rs := [20]) (by kernel_rfl) (by simp) ?_
      refine AllReadyH.cons (o := { dst := some 89, op := Op.call { callee := Callee.value (Operand.func 9), args := #[], argTypes := #[] }, type := 4, pos := "outright.go:71", after := #[{ on := 19, ground := Ground.chain }, { on := 19, ground := Ground.guard }], guard := some (19, true) }) rfl (fun K hK => ?_) AllReadyH.nil
      rw [if_pos (by rfl)]
      go_simp
      refine (c16 w14 (by exact hb13.trans (hb14.mono hb13.size))).mono ?_
      rintro e w16 ⟨rfl, hb16⟩
      have q16 : w16.rangeAt g12 0 (ULIST .u8 32 F) := range_below q14 hb16 (Nat.lt_of_lt_of_le hgl (Nat.le_trans hb13.size hb14.size))
      refine hK.out _ _ (by assumption) (fun hHeld => ?_)
      clear hK K
      refine wpAnyH_take (i := 21) (oi := { dst := some 90, op := Op.pick (Operand.tmp 88) (Operand.tmp 89) (Operand.const (Value.bool false)), type := 4, pos := "outright.go:71", after := #[{ on := 19, ground := Ground.data }, { on := 20, ground := Ground.data }], guard := none }) (v := .bool true) rfl (by kernel_rfl) (by kernel_rfl) (by kernel_rfl) (fun _ _ _ h => h) (Or.inl ⟨by rfl, fun w hSw => by go_simp⟩) (by assumption) ?_
      simp only [Act.put, List.setIfInBounds_toArray, List.set_cons_zero, List.set_cons_succ]
      refine wpAnyH_take (i := 22) (oi := { dst := some 6, op := Op.assign (Operand.tmp 90), type := 4, pos := "outright.go:71", after := #[{ on := 21, ground := Ground.data }, { on := 20, ground := Ground.chain }, { on := 0, ground := Ground.phase }, { on := 1, ground := Ground.phase }, { on := 2, ground := Ground.phase }, { on := 3, ground := Ground.phase }, { on := 4, ground := Ground.phase }, { on := 5, ground := Ground.phase }, { on := 6, ground := Ground.phase }, { on := 7, ground := Ground.phase }, { on := 8, ground := Ground.phase }, { on := 9, ground := Ground.phase }, { on := 10, ground := Ground.phase }, { on := 11, ground := Ground.phase }, { on := 12, ground := Ground.phase }, { on := 13, ground := Ground.phase }, { on := 14, ground := Ground.phase }, { on := 15, ground := Ground.phase }, { on := 16, ground := Ground.phase }, { on := 17, ground := Ground.phase }, { on := 18, ground := Ground.phase }, { on := 19, ground := Ground.phase }, { on := 20, ground := Ground.phase }, { on := 21, ground := Ground.phase }], guard := none }) (v := .bool true) rfl (by kernel_rfl) (by kernel_rfl) (by kernel_rfl) (fun _ _ _ h => h) (Or.inl ⟨by rfl, fun w hSw => by go_simp⟩) (by assumption) ?_
      simp only [Act.put, List.setIfInBounds_toArray, List.set_cons_zero, List.set_cons_succ]
      refine wpAnyH_done (by kernel_rfl) ?_ _
      have hbe : Below w.heap.size w w16 := (HB.out.drew.trans (hb13.mono HB.out.size)).trans ((hb14.mono (Nat.le_trans HB.out.size hb13.size)).trans (hb16.mono (Nat.le_trans HB.out.size (Nat.le_trans hb13.size hb14.size))))
      have HE : Aside (Below w.heap.size w w16) := hbe
      clear hbe
      go_wp2
      go_ret
      exact ⟨rfl, HE.out⟩
    | succ r =>
      have hlt : (i : Int) < (m : Int) := by omega
      obtain ⟨cb, co, rfl, hcb, hcell⟩ := H.out.2.2.2.2 (by omega)
      obtain ⟨hi1, hi2, hi3⟩ := hcell i (by omega)
      have hci := (A.out.2.below.cell (p := ⟨cb, co + i, none⟩) (by exact hcb)).trans hi1
      generalize z i = Z at *
      have hrl : rl ≤ 3000 := by
        have h1 := congrArg List.length A.out.2.join
        rw [List.length_append, A.out.2.rest.1, H.out.1.1] at h1
        have := H.out.2.2.1
        omega
      have hw1 : wrap64 ((rl : Int) + 1) = (rl : Int) + 1 := by unfold wrap64; omega
      obtain ⟨T, hTe⟩ : ∃ T, Z.tmod ((rl : Int) + 1) = T := ⟨_, rfl⟩
      have hTb : -((rl : Int) + 1) < T ∧ T < (rl : Int) + 1 := by
        rw [← hTe]
        have h1 := Int.tmod_lt_of_pos Z (show (0 : Int) < (rl : Int) + 1 by omega)
        have h2 : -((rl : Int) + 1) < Z.tmod ((rl : Int) + 1) := by
          rcases Int.le_total 0 Z with hz | hz
          · have := Int.tmod_nonneg ((rl : Int) + 1) hz
            omega
          · have e : Z.tmod ((rl : Int) + 1) = -((-Z).tmod ((rl : Int) + 1)) := by rw [Int.neg_tmod, Int.neg_neg]
            have := Int.tmod_lt_of_pos (-Z) (show (0 : Int) < (rl : Int) + 1 by omega)
            omega
        omega
      have hne : ¬ (rl : Int) + 1 = 0 := by omega
      clear hcell hi1
      by_cases hT0 : T < 0
      · obtain ⟨ad2, had2⟩ : ∃ ad2 : Addr, ad2 = (if rc = 0 then ad else ad.add 0) := ⟨_, rfl⟩
        have hsR : ∀ w, (Instr.slice 22 (.slice (some ad) rl rc) (some (.int .i64 0)) none none).run Tryd.prog w = .ok (.slice (some ad2) rl rc) w := fun w => by rw [had2]; exact slice_rest ad rl rc 0 (by omega) w
        have hsF : ∀ w, (Instr.slice 22 (.slice (some ad) rl rc) none (some (.int .i64 0)) none).run Tryd.prog w = .ok (.slice (some ad) 0 rc) w := fun w => slice_front (some ad) rl rc 0 (by have := A.out.2.cap; omega) w
        have E : Aside (ad2 = (if rc = 0 then ad else ad.add 0) ∧ 0 ≤ rl ∧ i + (r + 1) = m) := ⟨had2, by omega, hir⟩
        clear had2
        go_wp2_with (at_builtin; refine app_part wr ⟨some ad, 0, rc, q.take 0⟩ rfl (.tmp 43) (.tmp 47) rfl B u7 ps.length ps rfl A.out.2.own rfl (by have := A.out.1; have := H.out.2.2.2.1; have := E.out.2.2; omega) A.out.2.Bx ?_; intro g8 cap8 w8 hown8 hgrow8 hg8)
        have hmid := A.out.2.mid E.out.2.1 H.out.2.1 hgrow8
        have cw := write_ok g d (JOIN ps) (q.take 0) (some ad) 0 rc w8 hmid.1 hmid.2.1 (by have := A.out.2.lt1; have := H.out.2.1.2.2; omega) hmid.2.2 (fun x hx => by simp only [Option.some.injEq] at hx; rw [← hx, A.out.2.blk]; exact A.out.2.ne.symm) (by have := A.out.2.cap; have := E.out.2.1; omega) (fun x hx => H.out.1.2.2 x (by rw [← A.out.2.join]; exact List.mem_append_left _ hx)) (by
          have h1 := congrArg List.length A.out.2.join
          rw [List.length_append, A.out.2.rest.1, H.out.1.1] at h1
          have := H.out.2.2.1
          have := E.out.2.1
          omega)
        have S : Aside ((wr.alloc (.cells #[.slice (some ad) 0 rc] 22)).grownBy w8 u7.ownBlock ∧ w8.ownsRow B 22 1 (.slice (some ⟨g8, 0, none⟩) (ps.length + 1) cap8) (ps.length + 1) (PCELLS (ps ++ [⟨some ad, 0, rc, q.take 0⟩]))) := ⟨hgrow8, hown8⟩
        clear hmid hown8 hgrow8 hg8
        refine cw.mono ?_
        rintro e w9 ⟨rfl, hH9, hG9⟩
        clear cw
        have hst := A.out.2.step E.out.2.1 (by simp [Value.ownBlock]) S.out.1 S.out.2 hG9 hH9 E.out.1
        have U : Aside (CUTS w w9 d l g br B (ps ++ [⟨some ad, 0, rc, q.take 0⟩]) (q.drop 0) (.slice (some ⟨g8, 0, none⟩) (ps.length + 1) cap8) ad2 (rl - 0) (rc - 0) ∧ ps.length = i) := ⟨hst, A.out.1⟩
        clear hst hH9 hG9 S A
        go_wp2
        go_roundg r
        case measure => omega
        case rel =>
          refine ⟨i + 1, ps ++ [⟨some ad, 0, rc, q.take 0⟩], q.drop 0, ad2, rl, rc, by have := E.out.2.2; omega, by go_num, rfl, ?_⟩
          exact ⟨by rw [List.length_append]; have := U.out.2; simp; omega, U.out.1⟩
      · obtain ⟨k, rfl⟩ : ∃ k : Nat, T = (k : Int) := ⟨T.toNat, by omega⟩
        obtain ⟨ad2, had2⟩ : ∃ ad2 : Addr, ad2 = (if rc = k then ad else ad.add k) := ⟨_, rfl⟩
        have hsR : ∀ w, (Instr.slice 22 (.slice (some ad) rl rc) (some (.int .i64 (k : Int))) none none).run Tryd.prog w = .ok (.slice (some ad2) (rl - k) (rc - k)) w := fun w => by rw [had2]; exact slice_rest ad rl rc k (by omega) w
        have hsF : ∀ w, (Instr.slice 22 (.slice (some ad) rl rc) none (some (.int .i64 (k : Int))) none).run Tryd.prog w = .ok (.slice (some ad) k rc) w := fun w => slice_front (some ad) rl rc k (by have := A.out.2.cap; omega) w
        have E : Aside (ad2 = (if rc = k then ad else ad.add k) ∧ k ≤ rl ∧ i + (r + 1) = m) := ⟨had2, by omega, hir⟩
        clear had2
        go_wp2_with (at_builtin; refine app_part wr ⟨some ad, k, rc, q.take k⟩ rfl (.tmp 43) (.tmp 47) rfl B u7 ps.length ps rfl A.out.2.own rfl (by have := A.out.1; have := H.out.2.2.2.1; have := E.out.2.2; omega) A.out.2.Bx ?_; intro g8 cap8 w8 hown8 hgrow8 hg8)
        have hmid := A.out.2.mid E.out.2.1 H.out.2.1 hgrow8
        have cw := write_ok g d (JOIN ps) (q.take k) (some ad) k rc w8 hmid.1 hmid.2.1 (by have := A.out.2.lt1; have := H.out.2.1.2.2; omega) hmid.2.2 (fun x hx => by simp only [Option.some.injEq] at hx; rw [← hx, A.out.2.blk]; exact A.out.2.ne.symm) (by have := A.out.2.cap; have := E.out.2.1; omega) (fun x hx => H.out.1.2.2 x (by rw [← A.out.2.join]; exact List.mem_append_left _ hx)) (by
          have h1 := congrArg List.length A.out.2.join
          rw [List.length_append, A.out.2.rest.1, H.out.1.1] at h1
          have := H.out.2.2.1
          have := E.out.2.1
          omega)
        have S : Aside ((wr.alloc (.cells #[.slice (some ad) k rc] 22)).grownBy w8 u7.ownBlock ∧ w8.ownsRow B 22 1 (.slice (some ⟨g8, 0, none⟩) (ps.length + 1) cap8) (ps.length + 1) (PCELLS (ps ++ [⟨some ad, k, rc, q.take k⟩]))) := ⟨hgrow8, hown8⟩
        clear hmid hown8 hgrow8 hg8
        refine cw.mono ?_
        rintro e w9 ⟨rfl, hH9, hG9⟩
        clear cw
        have hst := A.out.2.step E.out.2.1 (by simp [Value.ownBlock]) S.out.1 S.out.2 hG9 hH9 E.out.1
        have U : Aside (CUTS w w9 d l g br B (ps ++ [⟨some ad, k, rc, q.take k⟩]) (q.drop k) (.slice (some ⟨g8, 0, none⟩) (ps.length + 1) cap8) ad2 (rl - k) (rc - k) ∧ ps.length = i) := ⟨hst, A.out.1⟩
        clear hst hH9 hG9 S A
        go_wp2
        go_roundg r
        case measure => omega
        case rel =>
          refine ⟨i + 1, ps ++ [⟨some ad, k, rc, q.take k⟩], q.drop k, ad2, rl - k, rc - k, by have := E.out.2.2; omega, by go_num, rfl, ?_⟩
          exact ⟨by rw [List.length_append]; have := U.out.2; simp; omega, U.out.1⟩
theorem hashCuts_walk (d : Int) (a : Option Addr) (n c : Nat) (l : List Nat) (a3 : Option Addr) (m c3 : Nat) (z : Nat → Int) (w : World) (hA : Text w a n l) (hc : a = none → c = 0)
    (hz : 0 < m → ∃ cb co, a3 = some ⟨cb, co, none⟩ ∧ cb < w.heap.size ∧ ∀ i, i < m → w.cell? ⟨cb, co + i, none⟩ = some (.int .i64 (z i)) ∧ -(2 ^ 63) ≤ z i ∧ z i < 2 ^ 63) (hT : Tabled w) :
    Calls Tryd.prog 4 #[.int .i64 d, .slice a n c, .slice a3 m c3] w fun e w' => e = .returned (.bool true) ∧ Below w.heap.size w w' := by
  by_cases hn : 3000 < (n : Int)
  · exact cuts_long d a n c a3 m c3 w hn
  · by_cases hm : 100 < (m : Int)
    · exact cuts_many d a n c a3 m c3 w hn hm
    · exact cuts_walk d a n c l a3 m c3 z w hn hm hA hc hz hT
end Go.Proofs.YtgmoebopnmaebabDoor
