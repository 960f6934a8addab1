/- The answers that a loom tells. -/
import Derived.Test.YtmgocdjmjnkbmaaLoomHold
import Derived.Laws.AppendOwn
namespace Go.Proofs.Ytmgocdjmjnkbmaa
open Go.RowKit
set_option maxRecDepth 100000

theorem eql_nil_ints (a : Option Addr) (n c : Nat) (w : World) : (binOp .eql 22 (.slice a n c) (.slice none 0 0)).run Try.prog w = .ok (.bool a.isNone) w := by
  simp [binOp, run_equal_slice_nil w 22 3 a n c Try.underlying22]
theorem ICELLS_length (l : List Nat) : (ICELLS l).length = l.length := by simp [ICELLS]
/-- what Clone and Answers answer: the same numbers in a list of one's own. -/
def TOLD (w : World) (l : List Nat) (e : Ending) (w' : World) : Prop := ∃ a c, e = .returned (.slice a l.length c) ∧ w'.ownsRow w.heap.size 3 1 (.slice a l.length c) l.length (ICELLS l) ∧ Below w.heap.size w w'
set_option maxHeartbeats 1000000 in
theorem clonei_ok (v : Value) (B : Nat) (l : List Nat) (hn : l.length ≤ 100000) (w : World) (ho : w.ownsRow B 3 1 v l.length (ICELLS l)) : Calls Try.prog 43 #[v] w (TOLD w l) := by
  obtain ⟨a, c, rfl, hac⟩ := own_slice ho
  cases a with
  | none =>
    obtain ⟨h0, rfl⟩ := hac rfl
    have hl : l = [] := List.length_eq_zero_iff.1 h0
    subst hl
    clear ho hn hac h0
    have hnil := eql_nil_ints none 0 0
    show Calls Try.prog 43 #[.slice none 0 0] w _
    go_enter Try.func43, Try.ntmps43
    go_wp2
    go_ret
    exact ⟨none, 0, rfl, World.ownsRow_nil _ _ _ _, Below.refl _ _⟩
  | some ad =>
    have HA : Aside (l.length ≤ 100000 ∧ w.ownsRow B 3 1 (.slice (some ad) l.length c) l.length (ICELLS l)) := ⟨hn, ho⟩
    have HC : Aside (∀ j u, (ICELLS l)[j]? = some u → (w.alloc (.cells #[] 3)).cell? (ad.add j) = some u) := by
      intro j u hu
      have hj : j < l.length := by
        have := (List.getElem?_eq_some_iff.1 hu).1
        rw [ICELLS_length] at this
        exact this
      rcases ho.2 with ⟨e, _⟩ | ⟨g, c', cur, e, hb, hg, r⟩
      · cases e
      · cases e
        have h1 := ho.cellAt j (by omega)
        have hg' : g < w.heap.size := (Array.getElem?_eq_some_iff.1 hg).1
        have hadd : (⟨g, 0, none⟩ : Addr).add j = ⟨g, j, none⟩ := by unfold Addr.add; split <;> simp_all
        rw [hadd]
        have h2 : (w.alloc (.cells #[] 3)).cell? ⟨g, j, none⟩ = w.cell? ⟨g, j, none⟩ := World.cell?_of_block (w := w) (Below.heap_alloc w _ g hg')
        rw [h2, h1]
        exact hu
    clear hn ho hac
    obtain ⟨i, hi, hz, hs1, hby⟩ := info_parts info_int
    have HI : Aside (Try.prog.info? 3 = some i ∧ i.zero = some (.int .i64 0) ∧ i.size = 1 ∧ i.bytes = 8) := ⟨hi, hz, hs1, hby⟩
    have H1 : Aside (∀ u ∈ ICELLS l, u.oneCell' = true) := fun u hu => by
      obtain ⟨x, _, rfl⟩ := List.mem_map.1 hu
      rfl
    clear hi hz hs1 hby
    have hnil := eql_nil_ints (some ad) l.length c
    have hlen : (ICELLS l).length = l.length * 1 := by rw [ICELLS_length]; omega
    have HE : Aside ((ICELLS l).length = l.length * 1) := hlen
    obtain ⟨n, hn⟩ : ∃ n, l.length = n := ⟨_, rfl⟩
    have HN : Aside (l.length = n) := hn
    rw [hn] at hnil ⊢
    clear hn hlen
    go_enter Try.func43, Try.ntmps43
    go_wp2_with (at_builtin; refine wpList_append_own (w.alloc (.cells #[] 3)) rfl (.tmp 5) (.tmp 6) 22 rfl w.heap.size 3 i (.int .i64 0) 1 8 Try.underlying22 HI.out.1 HI.out.2.1 HI.out.2.2.1 HI.out.2.2.2 rfl (by decide) (.slice (some ⟨w.heap.size, 0, none⟩) 0 0) 0 [] rfl (World.ownsRow_lit w #[] 0 (Nat.le_refl _) (by simp [maxLen]) rfl) ad n c (ICELLS l) rfl (by rw [HE.out, HN.out]) HC.out H1.out (by have := HA.out.1; have := HN.out; simp only [maxLen]; omega) (by have := HA.out.1; have := HN.out; omega) (by simp) ?_; intro v' w' q1 q2 _; have R : Aside (w'.ownsRow w.heap.size 3 1 v' n (ICELLS l) ∧ Below w.heap.size w w') := ⟨by simpa using q1, ((Below.refl _ w).alloc (Nat.le_refl _) _).grown q2 (by simp) (fun k e => by cases e; exact Nat.le_refl _)⟩; clear q1 q2)
    go_ret
    obtain ⟨a', c', rfl, _⟩ := own_slice R.out.1
    exact ⟨a', c', by rw [HN.out]; rfl, by rw [HN.out]; exact R.out.1, R.out.2⟩
theorem answers_ok {w : World} {B g gw : Nat} {va : Value} {s : LM} (h : LOOM w B g gw va s) (hl : s.ans.length ≤ 100000) : Calls Try.prog 24 #[.pointer (some ⟨g, 0, none⟩)] w (TOLD w s.ans) := by
  have x := h.c12
  have cc := clonei_ok va B s.ans hl w h.own
  clear h hl
  go_enter Try.func24, Try.ntmps24
  go_wp2_with fail
  refine cc.mono ?_
  rintro e w1 ⟨a, c, rfl, ho, hb⟩
  clear cc
  have R : Aside (w1.ownsRow w.heap.size 3 1 (.slice a s.ans.length c) s.ans.length (ICELLS s.ans) ∧ Below w.heap.size w w1) := ⟨ho, hb⟩
  clear ho hb
  go_wp2
  go_ret
  exact ⟨a, c, rfl, R.out.1, R.out.2⟩
theorem h_answers {w0 w : World} {g : Nat} {s : LM} (h : HOLD w0 g s w) : Calls Try.prog 24 #[.pointer (some ⟨g, 0, none⟩)] w fun e w' => ∃ a c, e = .returned (.slice a s.ans.length c) ∧ w'.ownsRow w.heap.size 3 1 (.slice a s.ans.length c) s.ans.length (ICELLS s.ans) ∧ HOLD w0 g s w' := by
  obtain ⟨gw, va, hl⟩ := h.loom
  refine (answers_ok hl (by have := (h.inv.small h.few.2 h.jobs).ans; omega)).mono ?_
  rintro e w' ⟨a, c, rfl, ho, hb⟩
  exact ⟨a, c, rfl, ho, h.on hb⟩
end Go.Proofs.Ytmgocdjmjnkbmaa
