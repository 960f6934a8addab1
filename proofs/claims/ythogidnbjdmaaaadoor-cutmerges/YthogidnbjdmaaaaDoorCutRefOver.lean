/- What the document's Right, ends and Over answer. -/
import Derived.Test.YthogidnbjdmaaaaDoorCutMerge
import Derived.Test.YthogidnbjdmaaaaDoorPosRefKin
import Derived.Deep.QuietTactic
import Derived.BigQuiet
namespace Go.Proofs.YthogidnbjdmaaaaDoor
open Go.RowKit

theorem refright_raw (h k : Nat) (q : Int) (b : Bool) (w : World) (c : ∀ w, Calls Tryd.prog 30 #[SPOT h k] w fun e w' => e = .returned (.tuple #[.int .u64 q, .bool b]) ∧ Below w.heap.size w w') : Calls Tryd.prog 23 #[SPOT h k] w fun e w' => e = .returned (.bool b) ∧ Below w.heap.size w w' := by
  go_enter Tryd.func23, Tryd.ntmps23
  go_wp2_with fail
  refine (c _).mono ?_
  rintro e w' ⟨rfl, hb⟩
  go_wp2
  go_ret
  exact ⟨rfl, ((Below.refl _ _).alloc (Nat.le_refl _) _).trans (hb.mono (by simp))⟩
theorem refends_raw (h k : Nat) (z r s : Int) (w : World) (hm : wrap64 (h : Int) = (h : Int)) (e0 : IntKind.u64.wrap ((k : Int) + 1) = (k : Int) + 1) (e1 : IntKind.u64.wrap ((k : Int) * z) = r) (e2 : IntKind.u64.wrap (((k : Int) + 1) * z) = s)
    (cp : ∀ w, Calls Tryd.prog 17 #[.int .i64 (h : Int)] w fun e w' => e = .returned (.int .u64 z) ∧ w = w') : Calls Tryd.prog 24 #[SPOT h k] w fun e w' => e = .returned (.tuple #[.int .u64 r, .int .u64 s]) ∧ Below w.heap.size w w' := by
  go_enter Tryd.func24, Tryd.ntmps24
  go_wp2_with fail
  refine (cp _).mono ?_
  rintro e w' ⟨rfl, rfl⟩
  have hb : Aside (Below w.heap.size w (w.alloc (.cells #[.int .u8 (h : Int), .int .u64 (k : Int)] 28))) := (Below.refl _ _).alloc (Nat.le_refl _) _
  go_wp2_with fail
  go_quiet (fail)
  go_wp2
  go_ret2
  exact ⟨rfl, below_drewN hb.out _⟩
theorem refends_ok (h k : Nat) (hN : Node h k) (w : World) : Calls Tryd.prog 24 #[SPOT h k] w fun e w' => e = .returned (.tuple #[.int .u64 ((k * 2 ^ h : Nat) : Int), .int .u64 (((k + 1) * 2 ^ h : Nat) : Int)]) ∧ Below w.heap.size w w' := by
  have h62 := hN.1
  have hs := hN.span
  have h1 : k * 2 ^ h ≤ (k + 1) * 2 ^ h := Nat.mul_le_mul_right _ (by omega)
  have h2 : k + 1 ≤ (k + 1) * 2 ^ h := Nat.le_mul_of_pos_right _ (Nat.two_pow_pos _)
  have e1 : ((k : Int)) * ((2 ^ h : Nat) : Int) = ((k * 2 ^ h : Nat) : Int) := by push_cast; rfl
  have e2 : ((k : Int) + 1) * ((2 ^ h : Nat) : Int) = (((k + 1) * 2 ^ h : Nat) : Int) := by push_cast; rfl
  refine refends_raw h k ((2 ^ h : Nat) : Int) _ _ w (by unfold wrap64; omega) (by rw [wrapU]; omega) (by rw [e1, wrapU]; omega) (by rw [e2, wrapU]; omega) (fun w => power_ok h (by omega) w)
theorem refover_none (cap : Nat) (a : Option Addr) (w : World) : Calls Tryd.prog 13 #[.slice a 0 cap] w fun e w' => e = .returned (.tuple #[.int .u64 0, .int .u64 0, .bool false]) ∧ w = w' := by
  go_enter Tryd.func13, Tryd.ntmps13
  go_wp2
  go_ret3
  exact ⟨rfl, rfl⟩
theorem Tile.from {l : List (Nat × Nat)} {f c i x y : Nat} (hT : Tile f (l.take i) c) (hi : 0 < i) (e : l[0]? = some (x, y)) : f = y * 2 ^ x := by
  cases l with
  | nil => simp at e
  | cons s l =>
    simp at e
    subst e
    cases i with
    | zero => omega
    | succ i => exact hT.2.1.symm
set_option maxHeartbeats 1000000 in
theorem refover_some (n cap : Nat) (a : Option Addr) (l : List (Nat × Nat)) (hl : l.length = n) (hn : 0 < n) (hn2 : n < 2 ^ 40) (w : World) (hL : Lie w a l) (h256 : ∀ x ∈ l, x.1 < 256) : Calls Tryd.prog 13 #[.slice a n cap] w fun e w' =>
    ((∃ x y : Nat, Tile x l y ∧ e = .returned (.tuple #[.int .u64 (x : Int), .int .u64 (y : Int), .bool true])) ∨ ((¬ ∃ x y, l ≠ [] ∧ Tile x l y) ∧ e = .returned (.tuple #[.int .u64 0, .int .u64 0, .bool false]))) ∧ Below w.heap.size w w' := by
  obtain ⟨g, o, rfl, hg, hc⟩ := hL (by omega)
  have HA : Aside (l.length = n ∧ g < w.heap.size ∧ n < 2 ^ 40 ∧ (∀ (j h k : Nat), l[j]? = some (h, k) → w.cell? ⟨g, o + j * 2, none⟩ = some (.int .u8 (h : Int)) ∧ w.cell? ⟨g, o + j * 2 + 1, none⟩ = some (.int .u64 (k : Int))) ∧ ∀ x ∈ l, x.1 < 256) := ⟨hl, hg, hn2, hc, h256⟩
  have HN : Aside (0 < n) := hn
  have hn0 : ((n : Int) == 0) = false := by simp; omega
  clear hl hg hc hn2 hL h256 hn
  go_enter Tryd.func13, Tryd.ntmps13
  go_wp2
  go_loopg [5, 6, 7] n (fun gg s5 s6 s7 wx => ∃ (i c f : Nat), s7 = .int .i64 (i : Int) ∧ s6 = .int .u64 (c : Int) ∧ s5 = .int .u64 (f : Int) ∧ Aside (i + gg = n ∧ (0 < i → Tile f (l.take i) c) ∧ Below w.heap.size w wx))
  case atStart => exact ⟨0, 0, 0, rfl, rfl, rfl, by omega, fun h => by omega, Below.refl _ _⟩
  case round =>
    obtain ⟨i, c, f, rfl, rfl, rfl, A⟩ := hrel
    obtain ⟨hi, hT, hbel⟩ := A.out
    obtain ⟨a1, a2, a3, a4, a5⟩ := HA.out
    cases gk with
    | zero =>
      obtain rfl : i = n := by omega
      have hlt : ¬ (i : Int) < (i : Int) := by omega
      have hT := hT HN.out
      rw [List.take_of_length_le (by omega)] at hT
      have R : Aside (Tile f l c ∧ Below w.heap.size w wr) := ⟨hT, hbel⟩
      clear hi hT hbel a1 a2 a3 a4 a5 HA A
      go_wp2
      go_ret3
      exact ⟨.inl ⟨f, c, R.out.1, rfl⟩, R.out.2⟩
    | succ gg =>
      have hlt : (i : Int) < (n : Int) := by omega
      obtain ⟨h, k, eh⟩ := at_lt (l := l) (i := i) (by omega)
      obtain ⟨hx0, hx1⟩ := a4 i h k eh
      have hy0 : wr.cell? ⟨g, o + i * 2, none⟩ = some (.int .u8 (h : Int)) := (hbel.cell (p := ⟨g, o + i * 2, none⟩) a2).trans hx0
      have hy1 : wr.cell? ⟨g, o + i * 2 + 1, none⟩ = some (.int .u64 (k : Int)) := (hbel.cell (p := ⟨g, o + i * 2 + 1, none⟩) a2).trans hx1
      obtain ⟨t1, t2⟩ := take_at eh
      have hh : h < 256 := a5 (h, k) (List.mem_of_getElem? eh)
      have hi1 : wrap64 ((i : Int) + 1) = ((i + 1 : Nat) : Int) := by unfold wrap64; omega
      have NO : Aside (¬ (Node h k ∧ (0 < i → k * 2 ^ h = c)) → ¬ ∃ x y, l ≠ [] ∧ Tile x l y) := by
        intro hno
        rcases Nat.eq_zero_or_pos i with h0 | h0
        · subst h0
          refine tile_not (F := k * 2 ^ h) (c := k * 2 ^ h) t1 rfl (fun x y e _ => ?_) (fun hc => hno ⟨hc.1, fun h => by omega⟩)
          rw [eh] at e
          cases e
          rfl
        · exact tile_not t1 (hT h0) (fun x y e _ => (hT h0).from h0 e) (fun hc => hno ⟨hc.1, fun _ => hc.2⟩)
      have R : Aside (i + 1 + gg = n ∧ (0 < i → Tile f (l.take i) c) ∧ Below w.heap.size w wr ∧ l.take (i + 1) = l.take i ++ [(h, k)] ∧ g < wr.heap.size) := ⟨by omega, hT, hbel, t2, Nat.lt_of_lt_of_le a2 hbel.size⟩
      clear hi hT hbel a1 a2 a3 a4 a5 hx0 hx1 t1 t2 A HA eh
      by_cases hN : Node h k
      · have cr := fun w => refright_raw h k _ true w (fun w => refplace_ok h k hN w)
        have ce := fun w => refends_ok h k hN w
        have R1 : Aside (Node h k) := hN
        clear hN
        have fin : Aside (∀ w' f', Below w.heap.size w w' → (0 < i → k * 2 ^ h = c ∧ f' = f) → (i = 0 → f' = k * 2 ^ h) → Tile f' (l.take (i + 1)) ((k + 1) * 2 ^ h)) := by
          intro w' f' _ h1 h2
          obtain ⟨r1, r2, r3, r4, r5⟩ := R.out
          rw [r4]
          rcases Nat.eq_zero_or_pos i with h0 | h0
          · subst h0
            exact ⟨R1.out, (h2 rfl).symm, rfl⟩
          · obtain ⟨h3, rfl⟩ := h1 h0
            exact (r2 h0).append ⟨R1.out, h3, rfl⟩
        go_wp2_with fail
        refine (cr _).mono ?_
        rintro e w2 ⟨rfl, hb2⟩
        have hz0 : w2.cell? ⟨g, o + i * 2, none⟩ = some (.int .u8 (h : Int)) := (hb2.cell (p := ⟨g, o + i * 2, none⟩) R.out.2.2.2.2).trans hy0
        have hz1 : w2.cell? ⟨g, o + i * 2 + 1, none⟩ = some (.int .u64 (k : Int)) := (hb2.cell (p := ⟨g, o + i * 2 + 1, none⟩) R.out.2.2.2.2).trans hy1
        have R2 : Aside (Below w.heap.size w w2) := R.out.2.2.1.trans (hb2.mono R.out.2.2.1.size)
        clear cr hy0 hy1 hb2
        go_wp2_with fail
        refine (ce _).mono ?_
        rintro e w3 ⟨rfl, hb3⟩
        have R3 : Aside (Below w.heap.size w w3) := R2.out.trans (hb3.mono R2.out.size)
        clear ce hz0 hz1 hb3 R2
        generalize hB : k * 2 ^ h = B at *
        generalize hE : (k + 1) * 2 ^ h = E at *
        rcases Nat.eq_zero_or_pos i with h0 | h0
        · subst h0
          go_wp2
          go_roundg gg
          case measure => omega
          case rel => exact ⟨0 + 1, E, B, by first | rfl | (rw [hi1]), rfl, rfl, R.out.1, fun _ => fin.out _ _ R3.out (fun h => by omega) (fun _ => rfl), R3.out⟩
        · have hi0 : ((i : Int) == 0) = false := by simp; omega
          by_cases hcc : B = c
          · subst hcc
            go_wp2
            go_roundg gg
            case measure => omega
            case rel => exact ⟨i + 1, E, f, by first | rfl | (rw [hi1]), rfl, rfl, R.out.1, fun _ => fin.out _ _ R3.out (fun h => ⟨by first | rfl | trivial, rfl⟩) (fun h => by omega), R3.out⟩
          · have hne : ((B : Int) != (c : Int)) = true := by simp; omega
            have RB : Aside (0 < i ∧ B ≠ c) := ⟨h0, hcc⟩
            clear hcc
            go_wp2
            go_ret3
            exact ⟨.inr ⟨NO.out (fun hc => RB.out.2 (hc.2 RB.out.1)), rfl⟩, R3.out⟩
      · have cr := fun w => refright_raw h k _ false w (fun w => refplace_not h k hh hN w)
        have R1 : Aside (¬ Node h k) := hN
        clear hN
        go_wp2_with fail
        refine (cr _).mono ?_
        rintro e w2 ⟨rfl, hb2⟩
        have R2 : Aside (Below w.heap.size w w2) := R.out.2.2.1.trans (hb2.mono R.out.2.2.1.size)
        clear cr hy0 hy1 hb2
        go_wp2
        go_ret3
        exact ⟨.inr ⟨NO.out (fun hc => R1.out hc.1), rfl⟩, R2.out⟩
end Go.Proofs.YthogidnbjdmaaaaDoor
