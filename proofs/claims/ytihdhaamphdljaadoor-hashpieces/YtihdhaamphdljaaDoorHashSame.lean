/- What the document's SameBytes and the law's same answer: are these the same bytes? -/
import Derived.Test.YtihdhaamphdljaaDoorHashRow
namespace Go.Proofs.YtihdhaamphdljaaDoor
open Go.RowKit
set_option maxRecDepth 100000

theorem getD_ext {l k : List Nat} {n : Nat} (hl : l.length = n) (hk : k.length = n) (h : ∀ j, j < n → l.getD j 0 = k.getD j 0) : l = k := by
  apply List.ext_getElem (by omega)
  intro i h1 h2
  have := h i (by omega)
  simpa [List.getD, h1, h2] using this

theorem samebytes_ok (a b : Option Addr) (n m ca cb : Nat) (l k : List Nat) (w : World) (hA : Text w a n l) (hB : Text w b m k) (hn : n < 2 ^ 40) : Calls Tryd.prog 22 #[.slice a n ca, .slice b m cb] w fun e w' => e = .returned (.bool (decide (l = k))) ∧ Below w.heap.size w w' ∧ w'.heap.size = w.heap.size := by
  by_cases hnm : n = m
  · subst hnm
    rcases Nat.eq_zero_or_pos n with h | h
    · subst h
      have hd : decide (l = k) = true := by
        rw [List.eq_nil_of_length_eq_zero hA.1, List.eq_nil_of_length_eq_zero hB.1]
        rfl
      rw [hd]
      clear hA hB hd
      go_enter Tryd.func22, Tryd.ntmps22
      go_wp2
      refine wp_loop_rounds 1 ?_
      rw [rounds_succ]
      go_wp2
      go_ret
      exact ⟨rfl, Below.refl _ _, rfl⟩
    · obtain ⟨ba, oa, rfl, la, hca⟩ := hA.2.1 h
      obtain ⟨bb, ob, rfl, lb, hcb⟩ := hB.2.1 h
      have HC : Aside ((∀ i, i < n → w.cell? ⟨ba, oa + i, none⟩ = some (.int .u8 ((l.getD i 0 : Nat) : Int))) ∧ (∀ i, i < n → w.cell? ⟨bb, ob + i, none⟩ = some (.int .u8 ((k.getD i 0 : Nat) : Int))) ∧ ba < w.heap.size ∧ bb < w.heap.size ∧ l.length = n ∧ k.length = n) := ⟨hca, hcb, la, lb, hA.1, hB.1⟩
      clear hA hB hca hcb la lb
      obtain ⟨D, hD⟩ : ∃ D, D = decide (l = k) := ⟨_, rfl⟩
      rw [← hD]
      go_enter Tryd.func22, Tryd.ntmps22
      go_wp2
      go_loopg [5] n (fun g s5 wx => ∃ i : Nat, i + g = n ∧ s5 = .int .i64 i ∧ Aside (Below w.heap.size w wx ∧ wx.heap.size = w.heap.size ∧ ∀ j, j < i → l.getD j 0 = k.getD j 0))
      case atStart => exact ⟨0, by omega, rfl, Below.refl _ _, rfl, fun j hj => by omega⟩
      case round =>
        obtain ⟨i, hig, rfl, A⟩ := hrel
        cases gk with
        | zero =>
          obtain rfl : i = n := by omega
          have hd : Aside (D = true) := by
            show D = true
            rw [hD, decide_eq_true_iff]
            exact getD_ext HC.out.2.2.2.2.1 HC.out.2.2.2.2.2 A.out.2.2
          go_wp2
          go_ret
          exact ⟨by rw [hd.out]; rfl, A.out.1, A.out.2.1⟩
        | succ g =>
          have hlt : (i : Int) < (n : Int) := by omega
          have h1 : wr.cell? ⟨ba, oa + i, none⟩ = some (.int .u8 ((l.getD i 0 : Nat) : Int)) := (A.out.1.cell (by exact HC.out.2.2.1)).trans (HC.out.1 i (by omega))
          have h2 : wr.cell? ⟨bb, ob + i, none⟩ = some (.int .u8 ((k.getD i 0 : Nat) : Int)) := (A.out.1.cell (by exact HC.out.2.2.2.1)).trans (HC.out.2.1 i (by omega))
          by_cases he : l.getD i 0 = k.getD i 0
          · have B : Aside (l.getD i 0 = k.getD i 0 ∧ i + (g + 1) = n) := ⟨he, hig⟩
            rw [← he] at h2
            clear he hig
            generalize l.getD i 0 = v at h1 h2
            go_wp2
            go_quiet (fail)
            go_wp2
            go_roundg g
            case measure => omega
            case rel =>
              refine ⟨i + 1, by have := B.out.2; omega, by go_num, below_drewN A.out.1 _, A.out.2.1, fun j hj => ?_⟩
              by_cases e : j = i
              · rw [e]
                exact B.out.1
              · exact A.out.2.2 j (by omega)
          · have hd : Aside (D = false) := by
              show D = false
              rw [hD, decide_eq_false_iff_not]
              intro e
              rw [e] at he
              exact he rfl
            have hne : ¬ ((l.getD i 0 : Nat) : Int) = ((k.getD i 0 : Nat) : Int) := by omega
            clear he
            generalize l.getD i 0 = v1 at h1 hne
            generalize k.getD i 0 = v2 at h2 hne
            go_wp2
            go_quiet (fail)
            go_wp2
            go_ret
            exact ⟨by rw [hd.out]; rfl, below_drewN A.out.1 _, A.out.2.1⟩
  · have hne : ¬ (n : Int) = (m : Int) := by omega
    have hd : decide (l = k) = false := by
      rw [decide_eq_false_iff_not]
      intro e
      rw [e] at hA
      exact hnm (hA.1.symm.trans hB.1)
    rw [hd]
    clear hA hB hd
    go_enter Tryd.func22, Tryd.ntmps22
    go_wp2
    go_ret
    exact ⟨rfl, Below.refl _ _, rfl⟩
theorem same_ok (a b : Option Addr) (n m ca cb : Nat) (l k : List Nat) (w : World) (hA : Text w a n l) (hB : Text w b m k) (hn : n < 2 ^ 40) : Calls Tryd.prog 8 #[.slice a n ca, .slice b m cb] w fun e w' => e = .returned (.bool (decide (l = k))) ∧ Below w.heap.size w w' ∧ w'.heap.size = w.heap.size := by
  have c := samebytes_ok a b n m ca cb l k w hA hB hn
  clear hA hB
  go_enter Tryd.func8, Tryd.ntmps8
  go_wp2_with (go_at_call 22; refine c.mono ?_; rintro e w5 ⟨rfl, hb5, hs5⟩)
  go_ret
  exact ⟨rfl, hb5, hs5⟩
end Go.Proofs.YtihdhaamphdljaaDoor
