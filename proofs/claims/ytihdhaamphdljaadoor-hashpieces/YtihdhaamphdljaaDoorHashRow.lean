/- What the law's row answers: the same bytes in a list of their own that goes on behind them. -/
import Derived.Test.YtihdhaamphdljaaDoorHashAwake
namespace Go.Proofs.YtihdhaamphdljaaDoor
open Go.RowKit
set_option maxRecDepth 100000

theorem slice_front (a : Option Addr) (r c k : Nat) (hk : k ≤ c) (w : World) : (Instr.slice 23 (.slice a r c) none (some (.int .i64 (k : Int))) none).run Tryd.prog w = .ok (.slice a k c) w := by
  obtain ⟨i8, hi, h8⟩ := Option.map_eq_some_iff.1 info_u8
  simp only [Prod.mk.injEq] at h8
  have he : Tryd.prog.elem 23 = 5 := by kernel_rfl
  have hu : Tryd.prog.underlying 23 = some (.slice (Tryd.prog.elem 23)) := by kernel_rfl
  rw [run_slice_h (P := Tryd.prog) w 23 a r c hu .i64 (k : Int) (by omega) (by omega), he]
  cases a <;> simp [sizeOf, typeInfo, hi, h8.2.1, sliced, Addr.add]
theorem small_snoc {l : List Nat} (h : Small8 l) : Small8 (l ++ [171]) := fun x hx => by
  rcases List.mem_append.1 hx with hx | hx
  · exact h x hx
  · simp at hx
    omega
theorem row_ok (a : Option Addr) (n c : Nat) (l : List Nat) (w : World) (hA : Text w a n l) (hc : a = none → c = 0) (hn : n < 2 ^ 40) : Calls Tryd.prog 6 #[.slice a n c] w fun e w' =>
    ∃ a' c', e = .returned (.slice a' n c') ∧ Text w' a' (n + 1) (l ++ [171]) ∧ n + 1 ≤ c' ∧ (∀ x, a' = some x → w.heap.size ≤ x.block ∧ x.block < w'.heap.size) ∧ Below w.heap.size w w' := by
  have H : Aside (Text w a n l ∧ (a = none → c = 0) ∧ n < 2 ^ 40) := ⟨hA, hc, hn⟩
  clear hA hc hn
  go_enter Tryd.func6, Tryd.ntmps6
  have HE1 : Aside (Bytes (w.alloc (.cells #[] 5)) a n (INTS l)) := (H.out.1.below ((Below.refl _ _).alloc (Nat.le_refl _) _)).bytes
  have HE2 : Aside (∀ w4, (w.alloc (.cells #[] 5)).grownBy w4 (some w.heap.size) → Below w.heap.size w w4) := fun w4 h => ((Below.refl _ _).alloc (Nat.le_refl _) _).grown h (by simp) (fun k e => by cases e; exact Nat.le_refl _)
  have HM : Aside (∀ w4 : World, Bytes (w4.alloc (.cells #[.int .u8 171] 5)) (some ⟨w4.heap.size, 0, none⟩) 1 [171]) := fun w4 => row_bytes w4 1 (fun _ => 171) [171] rfl (fun i hi => by obtain rfl : i = 0 := (by omega); rfl) (fun x hx => by simp at hx; omega)
  go_wp2_with (first | (at_builtin; refine app_any _ rfl (.tmp 3) (.tmp 4) rfl w.heap.size _ 0 [] rfl (own_empty w _ (Nat.le_refl _)) a n c (INTS l) rfl HE1.out H.out.2.1 n (INTS l) (by omega) rfl (by have := H.out.2.2; omega) (by simp) ?_; intro a4 c4 w4 hown4 hgrow4) | (at_builtin; refine app_u8 _ rfl (.tmp 5) (.tmp 6) rfl w.heap.size (.slice a4 n c4) n (INTS l) rfl (hown4.alloc _) w4.heap.size 0 1 1 [171] rfl (HM.out w4) (by decide) (by have := H.out.2.2; omega) (by have := (HE2.out _ hgrow4).size; simp; omega) ?_; intro g5 cap5 w5 hown5 hgrow5 hg5; have hcap5 := (own_bytes_any (l := INTS (l ++ [171])) (by rw [INTS_append]; exact hown5) (INTS_bounds (small_snoc H.out.1.2.2))); have hsl := slice_front (some ⟨g5, 0, none⟩) (n + 1) cap5 n (by have := hcap5.2; omega)))
  have hge : w.heap.size ≤ g5 := by
    rcases hown5.2 with ⟨h, _⟩ | ⟨g2, c2, cur, h, hle, _⟩
    · simp at h
    · simp only [Value.slice.injEq, Option.some.injEq, Addr.mk.injEq] at h
      omega
  have hb4 := HE2.out _ hgrow4
  have hb5 : Below w.heap.size w w5 := (hb4.alloc hb4.size _).grown hgrow5 (by have := hb4.size; simp; omega) (fun k e => (hown4.lt k e).1)
  go_ret
  exact ⟨_, _, rfl, Text.of_bytes hcap5.1, hcap5.2, fun x hx => by simp only [Option.some.injEq] at hx; rw [← hx]; exact ⟨hge, hg5⟩, hb5⟩
end Go.Proofs.YtihdhaamphdljaaDoor
