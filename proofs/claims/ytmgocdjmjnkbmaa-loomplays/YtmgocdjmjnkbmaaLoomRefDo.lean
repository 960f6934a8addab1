/- What a move makes of the document's loom: Make. -/
import Derived.Test.YtmgocdjmjnkbmaaLoomRefMake
namespace Go.Proofs.Ytmgocdjmjnkbmaa
open Go.RowKit
set_option maxRecDepth 100000

theorem wrel_jb {s : LM} {R : RR} (hr : REL s R) (i v : Nat) (x : Int) (hv : WREL v x (R.gn i)) : ∀ k, k < s.W → WREL (UPD s.ws i v k) (if k = i then x else R.jb k) (R.gn k) := fun k hk => by
  by_cases e : k = i
  · subst e
    rw [UPD_same, if_pos rfl]
    exact hv
  · rw [UPD_other e, if_neg e]
    exact hr.ws k hk
theorem wrel_gn {s : LM} {R : RR} (hr : REL s R) (i : Nat) : ∀ k, k < s.W → WREL (UPD s.ws i 1 k) (R.jb k) (if k = i then true else R.gn k) := fun k hk => by
  by_cases e : k = i
  · subst e
    rw [UPD_same, if_pos rfl]
    exact .inl ⟨rfl, rfl⟩
  · rw [UPD_other e, if_neg e]
    exact hr.ws k hk
theorem rel_put {s : LM} {R : RR} (hr : REL s R) (h2 : 2 ≤ s.fd) : REL1 (PUTS s) { R with count := R.count + 1, qs := R.qs ++ [s.first + s.held], next := R.next + 1 } :=
  ⟨hr.jobs, hr.room, by show R.next + 1 = s.first + (s.held + 1); rw [hr.next]; omega, by show R.fg = decide (NEXTF _ _ = 1); rw [hr.fg, decide_eq_false (by omega), decide_eq_false (NEXTF_ne _ _)], by show R.qs ++ _ = QL s.first (s.held + 1); rw [hr.qs, QL_snoc], by show R.sh = decide (NEXTF _ _ = 1); rw [hr.sh, decide_eq_false (by omega), decide_eq_false (NEXTF_ne _ _)], hr.W, hr.ws, hr.dn, hr.got, hr.out, hr.canc, by show R.count + 1 = s.made + 1; rw [hr.count], hr.top⟩
theorem rel_give0 {s : LM} {R : RR} (hr : REL s R) (hh : s.held = 0) (h2 : 2 ≤ s.fd) (i j : Nat) (hi : i < s.W) (hw : s.ws i = 0) : REL1 (GIVES (PUTS s) i j) { R with count := R.count + 1, next := R.next + 1, jb := fun k => if k = i then (j : Int) else R.jb k } := by
  have hg : R.gn i = false := by rcases hr.ws i hi with ⟨q, _⟩ | ⟨_, q, _⟩ | ⟨q, _⟩ <;> first | omega | exact q
  exact ⟨hr.jobs, hr.room, by show R.next + 1 = s.first + 1 + (s.held + 1 - 1); rw [hr.next]; omega, by show R.fg = decide (NEXTF _ _ = 1); rw [hr.fg, decide_eq_false (by omega), decide_eq_false (NEXTF_ne _ _)], by show R.qs = QL (s.first + 1) (s.held + 1 - 1); rw [hr.qs, hh]; rfl, by show R.sh = decide (NEXTF _ _ = 1); rw [hr.sh, decide_eq_false (by omega), decide_eq_false (NEXTF_ne _ _)], hr.W, wrel_jb hr i (j + 2) (j : Int) (.inr (.inr ⟨by omega, hg, by omega⟩)), hr.dn, hr.got, hr.out, hr.canc, by show R.count + 1 = s.made + 1; rw [hr.count], hr.top⟩
theorem rel_give {s : LM} {R : RR} (hr : REL s R) (hh : 0 < s.held) (i j : Nat) (hi : i < s.W) (hw : s.ws i = 0) : REL1 (GIVES s i j) { R with count := R.count + 1, qs := QL (s.first + 1) (s.held - 1), jb := fun k => if k = i then (j : Int) else R.jb k } := by
  have hg : R.gn i = false := by rcases hr.ws i hi with ⟨q, _⟩ | ⟨_, q, _⟩ | ⟨q, _⟩ <;> first | omega | exact q
  exact ⟨hr.jobs, hr.room, by show R.next = s.first + 1 + (s.held - 1); rw [hr.next]; omega, hr.fg, rfl, hr.sh, hr.W, wrel_jb hr i (j + 2) (j : Int) (.inr (.inr ⟨by omega, hg, by omega⟩)), hr.dn, hr.got, hr.out, hr.canc, by show R.count + 1 = s.made + 1; rw [hr.count], hr.top⟩
theorem rel_shut {s : LM} {R : RR} (hr : REL s R) : REL1 { s with fd := 1 } { R with count := R.count + 1, sh := true, fg := true } :=
  ⟨hr.jobs, hr.room, hr.next, rfl, hr.qs, rfl, hr.W, hr.ws, hr.dn, hr.got, hr.out, hr.canc, by show R.count + 1 = s.made + 1; rw [hr.count], hr.top⟩
theorem rel_left {s : LM} {R : RR} (hr : REL s R) (i : Nat) : REL1 { s with ws := UPD s.ws i 1 } { R with count := R.count + 1, gn := fun k => if k = i then true else R.gn k } :=
  ⟨hr.jobs, hr.room, hr.next, hr.fg, hr.qs, hr.sh, hr.W, wrel_gn hr i, hr.dn, hr.got, hr.out, hr.canc, by show R.count + 1 = s.made + 1; rw [hr.count], hr.top⟩
theorem rel_col {s : LM} {R : RR} (hr : REL s R) (ha : s.ans.length ≠ s.jobs) : REL1 { s with col := 1 } { R with count := R.count + 1, dn := true, out := 2 } :=
  ⟨hr.jobs, hr.room, hr.next, hr.fg, hr.qs, hr.sh, hr.W, hr.ws, rfl, hr.got, by show 2 = (if 1 = 1 then (if s.ans.length = s.jobs then 1 else 2) else 0); rw [if_pos rfl, if_neg ha], hr.canc, by show R.count + 1 = s.made + 1; rw [hr.count], hr.top⟩
theorem rel_answer1 {s : LM} {R : RR} (hr : REL s R) (i j : Nat) (hi : i < s.W) (hw : 2 ≤ s.ws i) (he : s.ans.length + 1 = s.jobs) : REL1 (ANSWERS s i j) { R with count := R.count + 1, jb := (fun k => if k = i then (-1 : Int) else R.jb k), got := R.got ++ [j], dn := true, out := 1 } := by
  have hg : R.gn i = false := by rcases hr.ws i hi with ⟨q, _⟩ | ⟨q, _⟩ | ⟨_, q, _⟩ <;> first | omega | exact q
  have hc : (ANSWERS s i j).col = 1 := if_pos he
  exact ⟨hr.jobs, hr.room, hr.next, hr.fg, hr.qs, hr.sh, hr.W, wrel_jb hr i 0 (-1) (.inr (.inl ⟨rfl, hg, rfl⟩)), by show true = decide ((ANSWERS s i j).col = 1); rw [hc]; rfl, by show R.got ++ [j] = s.ans ++ [j]; rw [hr.got], by show 1 = (if (ANSWERS s i j).col = 1 then (if (s.ans ++ [j]).length = s.jobs then 1 else 2) else 0); rw [if_pos hc, if_pos (by rw [List.length_append]; exact he)], hr.canc, by show R.count + 1 = s.made + 1; rw [hr.count], hr.top⟩
theorem rel_answer0 {s : LM} {R : RR} (hr : REL s R) (i j : Nat) (hi : i < s.W) (hw : 2 ≤ s.ws i) (hc0 : s.col ≠ 1) (he : s.ans.length + 1 ≠ s.jobs) : REL1 (ANSWERS s i j) { R with count := R.count + 1, jb := (fun k => if k = i then (-1 : Int) else R.jb k), got := R.got ++ [j] } := by
  have hg : R.gn i = false := by rcases hr.ws i hi with ⟨q, _⟩ | ⟨q, _⟩ | ⟨_, q, _⟩ <;> first | omega | exact q
  have hc : (ANSWERS s i j).col = s.col := if_neg he
  exact ⟨hr.jobs, hr.room, hr.next, hr.fg, hr.qs, hr.sh, hr.W, wrel_jb hr i 0 (-1) (.inr (.inl ⟨rfl, hg, rfl⟩)), by show R.dn = decide ((ANSWERS s i j).col = 1); rw [hc]; exact hr.dn, by show R.got ++ [j] = s.ans ++ [j]; rw [hr.got], by show R.out = (if (ANSWERS s i j).col = 1 then (if (s.ans ++ [j]).length = s.jobs then 1 else 2) else 0); rw [hc, if_neg hc0, hr.out]; exact if_neg hc0, hr.canc, by show R.count + 1 = s.made + 1; rw [hr.count], hr.top⟩
/-- q[1:]. -/
theorem slice_tail (b n c : Nat) (hn : 1 ≤ n) (hc : n ≤ c) : ∃ ad, (∀ w, (Instr.slice 22 (.slice (some ⟨b, 0, none⟩) n c) (some (.int .i64 1)) none none).run Try.prog w = .ok (.slice (some ad) (n - 1) (c - 1)) w) ∧ (1 < n → ad = ⟨b, 1, none⟩) := by
  have k1 : (1 : Int) ≤ (n : Int) := by omega
  have k2 : (n : Int) ≤ (c : Int) := by omega
  have k4 : (1 : Int) ≤ (c : Int) := by omega
  by_cases hck : c = 1
  · obtain rfl : n = 1 := by omega
    subst hck
    exact ⟨⟨b, 0, none⟩, fun w => by go_simp, fun h => by omega⟩
  · have hc1 : ¬ c - 1 = 0 := by omega
    exact ⟨⟨b, 1, none⟩, fun w => by go_simp, fun _ => rfl⟩
theorem own_base {w : World} {B C n : Nat} {t : TypeId} {z : Nat} {v : Value} {xs : List Value} (h : w.ownsRow C t z v n xs) (hB : B ≤ C) : w.ownsRow B t z v n xs :=
  ⟨h.1, h.2.imp id (fun ⟨g, c, cur, e, hb, r⟩ => ⟨g, c, cur, e, Nat.le_trans hB hb, r⟩)⟩
/-- another list is the queue. -/
theorem rqueue {w w2 w3 : World} {B r bw cw : Nat} {vq vg v' : Value} {R1 : RR} (h : RAFTER w B r bw cw vq vg vq vg R1 w2) (l : List Nat) (ho : w3.ownsRow w2.heap.size 3 1 v' l.length (ICELLS l)) (hb : Below w2.heap.size w2 w3) : RAFTER w B r bw cw vq vg v' vg { R1 with qs := l } (w3.setCell ⟨r, 4, none⟩ v') := by
  obtain ⟨h1, hs⟩ := h
  have hlt := h1.lt
  have hst : ∀ k, k ≠ r → (w3.setCell ⟨r, 4, none⟩ v').heap[k]? = w3.heap[k]? := fun k hk => Below.heap_setCell _ _ _ k hk
  have f2 := (hst bw (fun e => h1.ne e.symm)).trans (hb.block bw hlt.2)
  obtain ⟨c, hc⟩ := h1.wk
  have hge : ∀ k, v'.ownBlock = some k → w2.heap.size ≤ k := fun k e => (own_lt ho e).1
  refine ⟨⟨Has.set ((hb.block r hlt.1).trans h1.row) 4 v', ⟨c, f2.trans hc⟩, fun i hi => (World.cell?_of_block (w := w2) f2).trans (h1.jb i hi), fun i hi => (World.cell?_of_block (w := w2) f2).trans (h1.gn i hi), own_base (own_turn ho (fun k e => hst k (fun e' => by have := hge k e; omega))) (by have := h1.br; omega), own_turn h1.og (fun k e => (hst k (fun e' => h1.gr (e' ▸ e))).trans (hb.block k (own_lt h1.og e).2)), h1.ne, (fun e => by have := hge r e; omega), (fun e => by have := hge bw e; omega), h1.gr, h1.gw, (fun k e e' => by have := hge k e; have := (own_lt h1.og e').2; omega), h1.br, h1.bb⟩, ?_⟩
  refine ⟨hb.os.trans hs.os, hb.tape.trans hs.tape, hb.output.trans hs.output, Nat.le_trans hs.size (Nat.le_trans hb.size (by simp [World.setCell])), fun k hkw hf => ?_, fun k hf => ?_⟩
  · exact ((hst k (fun e => hf (.inl e))).trans (hb.block k (Nat.lt_of_lt_of_le hkw hs.size))).trans (hs.block k hkw hf)
  · rcases hf with hf | hf | hf | hf
    · exact .inl (.inl hf)
    · exact .inl (.inr (.inl hf))
    · exact .inr (by have := hge k hf; have := hs.size; omega)
    · exact .inl (.inr (.inr (.inr hf)))
end Go.Proofs.Ytmgocdjmjnkbmaa
