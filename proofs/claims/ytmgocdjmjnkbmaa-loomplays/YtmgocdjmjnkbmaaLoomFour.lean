/- Two lists of moves and two lists of numbers of one's own, none in another's block. -/
import Derived.Test.YtmgocdjmjnkbmaaLoomBoth
namespace Go.Proofs.Ytmgocdjmjnkbmaa
open Go.RowKit
set_option maxRecDepth 100000

theorem MCELLS_set : ∀ (l : List MV) (i : Nat) (m : MV), i < l.length → MCELLS (l.set i m) = (((MCELLS l).set (i * 3) (.int .i64 (m.1 : Int))).set (i * 3 + 1) (.int .i64 m.2.1)).set (i * 3 + 2) (.int .i64 (m.2.2 : Int))
  | [], i, m, h => absurd h (Nat.not_lt_zero _)
  | x :: l, 0, m, _ => rfl
  | x :: l, i + 1, m, h => by
    have ih := MCELLS_set l i m (by simpa using h)
    have e1 : MCELLS ((x :: l).set (i + 1) m) = MCELL x ++ MCELLS (l.set i m) := rfl
    have e2 : MCELLS (x :: l) = MCELL x ++ MCELLS l := rfl
    rw [e1, e2, ih, show (i + 1) * 3 = i * 3 + 3 by omega]
    rfl
theorem ICELLS_set (l : List Nat) (i v : Nat) : ICELLS (l.set i v) = (ICELLS l).set i (.int .i64 (v : Int)) := by simp [ICELLS, List.map_set]
theorem off_sym {a b : Value} (h : ∀ g, a.ownBlock = some g → b.ownBlock ≠ some g) : ∀ g, b.ownBlock = some g → a.ownBlock ≠ some g := fun g e1 e2 => h g e2 e1
/-- four lists of one's own, all above w1. -/
structure FOUR (w1 w : World) (a : Value) (la : List MV) (b : Value) (lb : List MV) (x : Value) (lx : List Nat) (y : Value) (ly : List Nat) : Prop where
  ra : w.ownsRow w1.heap.size 42 3 a la.length (MCELLS la)
  rb : w.ownsRow w1.heap.size 42 3 b lb.length (MCELLS lb)
  rx : w.ownsRow w1.heap.size 3 1 x lx.length (ICELLS lx)
  ry : w.ownsRow w1.heap.size 3 1 y ly.length (ICELLS ly)
  ab : ∀ g, a.ownBlock = some g → b.ownBlock ≠ some g
  ax : ∀ g, a.ownBlock = some g → x.ownBlock ≠ some g
  ay : ∀ g, a.ownBlock = some g → y.ownBlock ≠ some g
  bx : ∀ g, b.ownBlock = some g → x.ownBlock ≠ some g
  bY : ∀ g, b.ownBlock = some g → y.ownBlock ≠ some g
  xy : ∀ g, x.ownBlock = some g → y.ownBlock ≠ some g
  bl : Below w1.heap.size w1 w
section
variable {w1 w : World} {a : Value} {la : List MV} {b : Value} {lb : List MV} {x : Value} {lx : List Nat} {y : Value} {ly : List Nat}
theorem FOUR.swab (h : FOUR w1 w a la b lb x lx y ly) : FOUR w1 w b lb a la x lx y ly := ⟨h.rb, h.ra, h.rx, h.ry, off_sym h.ab, h.bx, h.bY, h.ax, h.ay, h.xy, h.bl⟩
theorem FOUR.swxy (h : FOUR w1 w a la b lb x lx y ly) : FOUR w1 w a la b lb y ly x lx := ⟨h.ra, h.rb, h.ry, h.rx, h.ab, h.ay, h.ax, h.bY, h.bx, off_sym h.xy, h.bl⟩
theorem own_off {w w' : World} {B s n : Nat} {t : TypeId} {v : Value} {xs : List Value} {r : Option Nat} (h : w.ownsRow B t s v n xs) (hg : w.grownBy w' r) (ho : ∀ g, r = some g → v.ownBlock ≠ some g) : w'.ownsRow B t s v n xs := own_turn h fun k e => hg.block k (h.lt k e).2 fun e2 => ho k e2.symm e
theorem below_grown {w1 w w' : World} {r : Option Nat} (h : Below w1.heap.size w1 w) (hg : w.grownBy w' r) (hr : ∀ k, r = some k → w1.heap.size ≤ k) : Below w1.heap.size w1 w' :=
  ⟨hg.os.trans h.os, hg.tape.trans h.tape, hg.output.trans h.output, Nat.le_trans h.size hg.size, fun k hk => (hg.block k (by have := h.size; omega) (fun e => by have := hr k e.symm; omega)).trans (h.block k hk)⟩
theorem FOUR.stepa (h : FOUR w1 w a la b lb x lx y ly) {w' : World} {a' : Value} {la' : List MV} (hown : w'.ownsRow w1.heap.size 42 3 a' la'.length (MCELLS la')) (hg : w.grownBy w' a.ownBlock) (hat : ∀ g, a'.ownBlock = some g → a.ownBlock = some g ∨ w.heap.size ≤ g) : FOUR w1 w' a' la' b lb x lx y ly := by
  have far : ∀ {v : Value} {t : TypeId} {s n : Nat} {xs : List Value}, w.ownsRow w1.heap.size t s v n xs → (∀ g, a.ownBlock = some g → v.ownBlock ≠ some g) → ∀ g, a'.ownBlock = some g → v.ownBlock ≠ some g := fun hr ho g e1 e2 => by
    rcases hat g e1 with h1 | h1
    · exact ho g h1 e2
    · have := (hr.lt g e2).2
      omega
  exact ⟨hown, own_off h.rb hg h.ab, own_off h.rx hg h.ax, own_off h.ry hg h.ay, far h.rb h.ab, far h.rx h.ax, far h.ry h.ay, h.bx, h.bY, h.xy, below_grown h.bl hg (fun k e => (h.ra.lt k e).1)⟩
theorem FOUR.stepx (h : FOUR w1 w a la b lb x lx y ly) {w' : World} {x' : Value} {lx' : List Nat} (hown : w'.ownsRow w1.heap.size 3 1 x' lx'.length (ICELLS lx')) (hg : w.grownBy w' x.ownBlock) (hat : ∀ g, x'.ownBlock = some g → x.ownBlock = some g ∨ w.heap.size ≤ g) : FOUR w1 w' a la b lb x' lx' y ly := by
  have far : ∀ {v : Value} {t : TypeId} {s n : Nat} {xs : List Value}, w.ownsRow w1.heap.size t s v n xs → (∀ g, x.ownBlock = some g → v.ownBlock ≠ some g) → ∀ g, x'.ownBlock = some g → v.ownBlock ≠ some g := fun hr ho g e1 e2 => by
    rcases hat g e1 with h1 | h1
    · exact ho g h1 e2
    · have := (hr.lt g e2).2
      omega
  exact ⟨own_off h.ra hg (off_sym h.ax), own_off h.rb hg (off_sym h.bx), hown, own_off h.ry hg h.xy, h.ab, off_sym (far h.ra (off_sym h.ax)), h.ay, off_sym (far h.rb (off_sym h.bx)), h.bY, far h.ry h.xy, below_grown h.bl hg (fun k e => (h.rx.lt k e).1)⟩
theorem FOUR.on (h : FOUR w1 w a la b lb x lx y ly) {w' : World} (hb : Below w.heap.size w w') : FOUR w1 w' a la b lb x lx y ly :=
  ⟨own_turn h.ra (fun k e => hb.block k (h.ra.lt k e).2), own_turn h.rb (fun k e => hb.block k (h.rb.lt k e).2), own_turn h.rx (fun k e => hb.block k (h.rx.lt k e).2), own_turn h.ry (fun k e => hb.block k (h.ry.lt k e).2), h.ab, h.ax, h.ay, h.bx, h.bY, h.xy, h.bl.trans (hb.mono h.bl.size)⟩
theorem FOUR.alloc (h : FOUR w1 w a la b lb x lx y ly) (o : Obj) : FOUR w1 (w.alloc o) a la b lb x lx y ly := h.on ((Below.refl _ _).alloc (Nat.le_refl _) _)
end
/-- a move is written over. -/
theorem FOUR.seta {w1 w : World} {g n c : Nat} {la : List MV} {b : Value} {lb : List MV} {x : Value} {lx : List Nat} {y : Value} {ly : List Nat} (h : FOUR w1 w (.slice (some ⟨g, 0, none⟩) n c) la b lb x lx y ly) (i : Nat) (m : MV) (hi : i < la.length) : FOUR w1 (((w.setCell ⟨g, i * 3, none⟩ (.int .i64 (m.1 : Int))).setCell ⟨g, i * 3 + 1, none⟩ (.int .i64 m.2.1)).setCell ⟨g, i * 3 + 2, none⟩ (.int .i64 (m.2.2 : Int))) (.slice (some ⟨g, 0, none⟩) n c) (la.set i m) b lb x lx y ly := by
  have hn : n = la.length := by
    obtain ⟨a', c', e, _⟩ := own_slice h.ra
    cases e
    rfl
  subst hn
  have s1 := h.ra.stored (i * 3) (.int .i64 (m.1 : Int))
  have s2 := s1.1.stored (i * 3 + 1) (.int .i64 m.2.1)
  have s3 := s2.1.stored (i * 3 + 2) (.int .i64 (m.2.2 : Int))
  refine h.stepa ?_ ?_ (fun k e => .inl e)
  · rw [MCELLS_set la i m hi, List.length_set]
    exact s3.1
  · have t1 := s1.2
    have t2 := s2.2
    have t3 := s3.2
    exact ⟨t3.os.trans (t2.os.trans t1.os), t3.tape.trans (t2.tape.trans t1.tape), t3.output.trans (t2.output.trans t1.output), Nat.le_trans t1.size (Nat.le_trans t2.size t3.size), fun k hk e => (t3.block k (Nat.lt_of_lt_of_le hk (Nat.le_trans t1.size t2.size)) e).trans ((t2.block k (Nat.lt_of_lt_of_le hk t1.size) e).trans (t1.block k hk e))⟩
theorem FOUR.setx {w1 w : World} {g n c : Nat} {a : Value} {la : List MV} {b : Value} {lb : List MV} {lx : List Nat} {y : Value} {ly : List Nat} (h : FOUR w1 w a la b lb (.slice (some ⟨g, 0, none⟩) n c) lx y ly) (i v : Nat) : FOUR w1 (w.setCell ⟨g, i, none⟩ (.int .i64 (v : Int))) a la b lb (.slice (some ⟨g, 0, none⟩) n c) (lx.set i v) y ly := by
  have hn : n = lx.length := by
    obtain ⟨a', c', e, _⟩ := own_slice h.rx
    cases e
    rfl
  subst hn
  have s1 := h.rx.stored i (.int .i64 (v : Int))
  refine h.stepx ?_ s1.2 (fun k e => .inl e)
  rw [ICELLS_set, List.length_set]
  exact s1.1
theorem info_int13 : (Try.prog.info? 3).map (fun i => (i.zero, i.size, i.bytes)) = some (some (.int .i64 0), 1, 8) := by kernel_rfl
/-- one number more. -/
theorem app_int {ops : Array Oper} {rest : List Oper} {o : Oper} {a : Act} {Q : Exit → Act → World → Prop} (w : World) (hgd : o.guard = none) (s x : Operand)
    (ho : o.op = .call { callee := .builtin .append, args := #[s, x], argTypes := #[22, 22] })
    (base : Nat) (v : Value) (n : Nat) (xs : List Nat) (hs : a.eval s = v) (hown : w.ownsRow base 3 1 v n (ICELLS xs))
    (b c m : Nat) (hx : a.eval x = .slice (some ⟨b, 0, none⟩) 1 c) (hc0 : w.cell? ⟨b, 0, none⟩ = some (.int .i64 (m : Int)))
    (hb : n ≤ 100000) (hbase : base ≤ w.heap.size)
    (hh : ∀ g cap w', w'.ownsRow base 3 1 (.slice (some ⟨g, 0, none⟩) (n + 1) cap) (n + 1) (ICELLS (xs ++ [m])) → w.grownBy w' v.ownBlock → (v.ownBlock = some g ∨ w.heap.size ≤ g) → wpList Try.prog ops Q rest (a.put o.dst (.slice (some ⟨g, 0, none⟩) (n + 1) cap)) w') : wpList Try.prog ops Q (o :: rest) a w := by
  obtain ⟨i, hi, hz, hs1, hby⟩ := info_parts info_int13
  refine wpList_append_lies w hgd s x 22 ho base 3 i _ 1 8 Try.underlying22 hi hz hs1 hby rfl (by decide) v n (ICELLS xs) hs hown ⟨b, 0, none⟩ 1 c [.int .i64 (m : Int)] hx rfl ?_ (fun u hu => by simp at hu; rw [hu]; rfl) (by decide) (by simp only [maxLen]; omega) (by omega) hbase w.heap.size rfl ?_
  · intro j u hj
    rw [addr_add13]
    match j, hj with
    | 0, hj =>
      simp only [List.getElem?_cons_zero, Option.some.injEq] at hj
      subst hj
      exact hc0
    | j + 1, hj => simp at hj
  · intro g cap w' h1 h2 h3 h4
    have e : ICELLS (xs ++ [m]) = ICELLS xs ++ [.int .i64 (m : Int)] := by simp [ICELLS]
    rw [← e] at h1
    exact hh g cap w' h1 h2 (h3.imp id (fun e => by omega))
end Go.Proofs.Ytmgocdjmjnkbmaa
