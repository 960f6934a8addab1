/- What Over answers, of any list of spots. -/
import Derived.Test.YtddmfpiflnjmjabDoorCutHas
namespace Go.Proofs.YtddmfpiflnjmjabDoor
open Go.RowKit

/-- a list of spots lies there. -/
def Lie (w : World) (a : Option Addr) (l : List (Nat × Nat)) : Prop := 0 < l.length → ∃ g o, a = some ⟨g, o, none⟩ ∧ g < w.heap.size ∧ ∀ (j h k : Nat), l[j]? = some (h, k) → w.cell? ⟨g, o + j * 2, none⟩ = some (.int .u8 (h : Int)) ∧ w.cell? ⟨g, o + j * 2 + 1, none⟩ = some (.int .u64 (k : Int))
theorem Lie.below {w w' : World} {a : Option Addr} {l : List (Nat × Nat)} (h : Lie w a l) (hb : Below w.heap.size w w') : Lie w' a l := fun h0 => by
  obtain ⟨g, o, e, hg, hc⟩ := h h0
  exact ⟨g, o, e, Nat.lt_of_lt_of_le hg hb.size, fun j x y he => ⟨(hb.cell (p := ⟨g, o + j * 2, none⟩) hg).trans (hc j x y he).1, (hb.cell (p := ⟨g, o + j * 2 + 1, none⟩) hg).trans (hc j x y he).2⟩⟩
theorem Lie.of {w : World} {a : Option Addr} {l : List (Nat × Nat)} (h : Spots w a l) : Lie w a l := fun h0 => by
  obtain ⟨g, e, hg, hc⟩ := h h0
  refine ⟨g, 0, e, hg, fun j x y he => ?_⟩
  rw [Nat.zero_add]
  exact hc j x y he
theorem lie_own {w : World} {base n : Nat} {v : Value} {l : List (Nat × Nat)} (hl : l.length = n) (h : w.ownsRow base 36 2 v n (SCELLS l)) : ∃ a cap, v = .slice a n cap ∧ Lie w a l := by
  obtain ⟨a, cap, e, hs⟩ := spots_own hl h
  exact ⟨a, cap, e, Lie.of hs⟩
theorem Tile.same {l : List (Nat × Nat)} : ∀ {a b a' b' : Nat}, l ≠ [] → Tile a l b → Tile a' l b' → a = a' ∧ b = b' := by
  have key : ∀ (l : List (Nat × Nat)) (a b b' : Nat), Tile a l b → Tile a l b' → b = b' := by
    intro l
    induction l with
    | nil => intro a b b' h h'; exact Eq.trans (Eq.symm h) h'
    | cons s l ih => intro a b b' h h'; exact ih _ _ _ h.2.2 h'.2.2
  intro a b a' b' h0 h h'
  cases l with
  | nil => exact absurd rfl h0
  | cons s l => exact ⟨h.2.1.symm.trans h'.2.1, key l _ _ _ h.2.2 h'.2.2⟩
/-- where the first spot begins, if it is right. -/
theorem tile_not {l rest : List (Nat × Nat)} {F c h k : Nat} {i : Nat} (hl : l = l.take i ++ (h, k) :: rest) (hi : Tile F (l.take i) c) (hF : ∀ x y, l[0]? = some (x, y) → Node x y → F = y * 2 ^ x) (hn : ¬ (Node h k ∧ k * 2 ^ h = c)) : ¬ ∃ a b, l ≠ [] ∧ Tile a l b := by
  rintro ⟨a, b, _, ht⟩
  rw [hl] at ht
  obtain ⟨c', h1, h2, h3, h4⟩ := ht.split
  dsimp only at h2 h3
  apply hn
  refine ⟨h2, ?_⟩
  by_cases h0 : l.take i = []
  · rw [h0] at hi hl
    have e : F = c := hi
    rw [← e]
    exact (hF h k (by rw [hl]; rfl) h2).symm
  · rw [(Tile.same h0 h1 hi).2] at h3
    exact h3
theorem take_at {l : List (Nat × Nat)} {i h k : Nat} (e : l[i]? = some (h, k)) : l = l.take i ++ (h, k) :: l.drop (i + 1) ∧ l.take (i + 1) = l.take i ++ [(h, k)] := by
  obtain ⟨hi, e2⟩ := List.getElem?_eq_some_iff.1 e
  refine ⟨?_, ?_⟩
  · rw [← e2, List.getElem_cons_drop, List.take_append_drop]
  · rw [List.take_add_one, e]
    rfl
theorem at_lt {l : List (Nat × Nat)} {i : Nat} (h : i < l.length) : ∃ x y, l[i]? = some (x, y) := ⟨_, _, List.getElem?_eq_getElem h⟩
theorem over_none (cap : Nat) (a : Option Addr) (w : World) : Calls Tryd.prog 25 #[.slice a 0 cap] w fun e w' => e = .returned (.tuple #[.int .u64 0, .int .u64 0, .bool false]) ∧ w = w' := by
  go_enter Tryd.func25, Tryd.ntmps25
  go_wp2
  go_ret3
  exact ⟨rfl, rfl⟩
set_option maxHeartbeats 1000000 in
theorem over_some (n cap : Nat) (a : Option Addr) (l : List (Nat × Nat)) (hl : l.length = n) (hn : 0 < n) (hn2 : n < 2 ^ 40) (w : World) (hL : Lie w a l) : Calls Tryd.prog 25 #[.slice a n cap] w fun e w' =>
    ((∃ x y : Nat, Tile x l y ∧ e = .returned (.tuple #[.int .u64 (x : Int), .int .u64 (y : Int), .bool true])) ∨ ((¬ ∃ x y, l ≠ [] ∧ Tile x l y) ∧ e = .returned (.tuple #[.int .u64 0, .int .u64 0, .bool false]))) ∧ Below w.heap.size w w' := by
  obtain ⟨g, o, rfl, hg, hc⟩ := hL (by omega)
  obtain ⟨h0, k0, e0⟩ := at_lt (l := l) (i := 0) (by omega)
  obtain ⟨F, hF⟩ : ∃ F : Nat, IntKind.u64.wrap ((k0 : Int) * 2 ^ min h0 64) = (F : Int) := ⟨(IntKind.u64.wrap ((k0 : Int) * 2 ^ min h0 64)).toNat, by rw [wrapU]; omega⟩
  have cb := fun w => begin_raw h0 k0 _ w hF
  have HF : Aside (∀ x y, l[0]? = some (x, y) → Node x y → F = y * 2 ^ x) := by
    intro x y e hN
    rw [e0] at e
    cases e
    have h1 := hN.span
    have h2 : k0 * 2 ^ h0 ≤ (k0 + 1) * 2 ^ h0 := Nat.mul_le_mul_right _ (by omega)
    have := shift_eq k0 h0 hN.1 (by omega)
    rw [hF] at this
    omega
  obtain ⟨hz0, hz1⟩ := hc 0 h0 k0 e0
  rw [Nat.zero_mul, Nat.add_zero] at hz0 hz1
  have HA : Aside (l.length = n ∧ g < w.heap.size ∧ n < 2 ^ 40 ∧ ∀ (j h k : Nat), l[j]? = some (h, k) → w.cell? ⟨g, o + j * 2, none⟩ = some (.int .u8 (h : Int)) ∧ w.cell? ⟨g, o + j * 2 + 1, none⟩ = some (.int .u64 (k : Int))) := ⟨hl, hg, hn2, hc⟩
  have hn0 : ((n : Int) == 0) = false := by simp; omega
  clear hl hg hc hF e0 hn2 hL
  go_enter Tryd.func25, Tryd.ntmps25
  go_wp2_with fail
  refine (cb _).mono ?_
  rintro e w1 ⟨rfl, hb1⟩
  clear cb
  have B1 : Aside (Below w.heap.size w w1) := hb1
  clear hb1 hz0 hz1
  go_wp2
  go_loopg [6, 19] n (fun gg s6 s19 wx => ∃ (i c : Nat), s19 = .int .i64 (i : Int) ∧ s6 = .int .u64 (c : Int) ∧ Aside (i + gg = n ∧ Tile F (l.take i) c ∧ Below w.heap.size w wx))
  case atStart => exact ⟨0, F, rfl, rfl, by omega, rfl, B1.out⟩
  case round =>
    obtain ⟨i, c, rfl, rfl, A⟩ := hrel
    obtain ⟨hi, hT, hbel⟩ := A.out
    obtain ⟨a1, a2, a3, a4⟩ := HA.out
    cases gk with
    | zero =>
      obtain rfl : i = n := by omega
      have hlt : ¬ (i : Int) < (i : Int) := by omega
      rw [List.take_of_length_le (by omega)] at hT
      have R : Aside (Tile F l c ∧ Below w.heap.size w wr) := ⟨hT, hbel⟩
      clear hi hT hbel a1 a2 a3 a4 HA HF A
      go_wp2
      go_ret3
      exact ⟨.inl ⟨F, c, R.out.1, rfl⟩, R.out.2⟩
    | succ gg =>
      have hlt : (i : Int) < (n : Int) := by omega
      obtain ⟨h, k, eh⟩ := at_lt (l := l) (i := i) (by omega)
      obtain ⟨hx0, hx1⟩ := a4 i h k eh
      have hy0 : wr.cell? ⟨g, o + i * 2, none⟩ = some (.int .u8 (h : Int)) := (hbel.cell (p := ⟨g, o + i * 2, none⟩) a2).trans hx0
      have hy1 : wr.cell? ⟨g, o + i * 2 + 1, none⟩ = some (.int .u64 (k : Int)) := (hbel.cell (p := ⟨g, o + i * 2 + 1, none⟩) a2).trans hx1
      obtain ⟨t1, t2⟩ := take_at eh
      have hi1 : wrap64 ((i : Int) + 1) = ((i + 1 : Nat) : Int) := by unfold wrap64; omega
      have R : Aside (i + 1 + gg = n ∧ Tile F (l.take i) c ∧ Below w.heap.size w wr ∧ l = l.take i ++ (h, k) :: l.drop (i + 1) ∧ l.take (i + 1) = l.take i ++ [(h, k)]) := ⟨by omega, hT, hbel, t1, t2⟩
      clear hi hT hbel a1 a2 a3 a4 hx0 hx1 t1 t2 A HA eh
      by_cases hN : Node h k
      · have cr := fun w => right_raw h k _ true w (fun w => place_ok h k hN w)
        have cb := fun w => begin_ok h k hN w
        have ce := fun w => end_ok h k hN w
        have R1 : Aside (Node h k) := hN
        clear hN
        by_cases hcc : k * 2 ^ h = c
        · have hne : ((k * 2 ^ h : Nat) : Int) = (c : Int) := by omega
          go_wp2_with fail
          refine (cr _).mono ?_
          rintro e w2 ⟨rfl, hb2⟩
          clear cr hy0 hy1
          have hH := (Has.new wr #[.int .u8 (h : Int), .int .u64 (k : Int)] 36).keep hb2
          have hz0 : w2.cell? ⟨wr.heap.size, 0, none⟩ = some (.int .u8 (h : Int)) := hH.cell 0
          have hz1 : w2.cell? ⟨wr.heap.size, 1, none⟩ = some (.int .u64 (k : Int)) := hH.cell 1
          have R2 : Aside (Below w.heap.size w w2) := by
            have r3 := R.out.2.2.1
            exact (r3.alloc r3.size _).trans (hb2.mono (by have := r3.size; simp; omega))
          clear hb2
          go_wp2_with fail
          refine (cb _).mono ?_
          rintro e w3 ⟨rfl, hb3⟩
          clear cb hz0 hz1
          have hH := hH.keep hb3
          have hz0 : w3.cell? ⟨wr.heap.size, 0, none⟩ = some (.int .u8 (h : Int)) := hH.cell 0
          have hz1 : w3.cell? ⟨wr.heap.size, 1, none⟩ = some (.int .u64 (k : Int)) := hH.cell 1
          have R3 : Aside (Below w.heap.size w w3) := R2.out.trans (hb3.mono R2.out.size)
          clear hb3
          go_wp2_with fail
          refine (ce _).mono ?_
          rintro e w4 ⟨rfl, hb4⟩
          clear ce hz0 hz1
          have R4 : Aside (Below w.heap.size w w4) := R3.out.trans (hb4.mono R3.out.size)
          clear hb4
          go_wp2
          go_roundg gg
          case measure => omega
          case rel =>
            obtain ⟨r1, r2, r3, r4, r5⟩ := R.out
            refine ⟨i + 1, (k + 1) * 2 ^ h, by first | rfl | (rw [hi1]), rfl, r1, ?_, R4.out⟩
            rw [r5]
            exact r2.append ⟨R1.out, hcc, rfl⟩
        · obtain ⟨B, hB⟩ : ∃ B, k * 2 ^ h = B := ⟨_, rfl⟩
          rw [hB] at cb hcc
          have hne : ((B : Int) != (c : Int)) = true := by simp; omega
          have RB : Aside (k * 2 ^ h = B ∧ B ≠ c) := ⟨hB, hcc⟩
          clear hB hcc
          go_wp2_with fail
          refine (cr _).mono ?_
          rintro e w2 ⟨rfl, hb2⟩
          clear cr hy0 hy1
          have hH := (Has.new wr #[.int .u8 (h : Int), .int .u64 (k : Int)] 36).keep hb2
          have hz0 : w2.cell? ⟨wr.heap.size, 0, none⟩ = some (.int .u8 (h : Int)) := hH.cell 0
          have hz1 : w2.cell? ⟨wr.heap.size, 1, none⟩ = some (.int .u64 (k : Int)) := hH.cell 1
          have R2 : Aside (Below w.heap.size w w2) := by
            have r3 := R.out.2.2.1
            exact (r3.alloc r3.size _).trans (hb2.mono (by have := r3.size; simp; omega))
          clear hb2
          go_wp2_with fail
          refine (cb _).mono ?_
          rintro e w3 ⟨rfl, hb3⟩
          clear cb hz0 hz1
          have hH := hH.keep hb3
          have hz0 : w3.cell? ⟨wr.heap.size, 0, none⟩ = some (.int .u8 (h : Int)) := hH.cell 0
          have hz1 : w3.cell? ⟨wr.heap.size, 1, none⟩ = some (.int .u64 (k : Int)) := hH.cell 1
          have R3 : Aside (Below w.heap.size w w3) := R2.out.trans (hb3.mono R2.out.size)
          clear hb3
          go_wp2
          go_ret3
          obtain ⟨r1, r2, r3, r4, r5⟩ := R.out
          exact ⟨.inr ⟨tile_not r4 r2 HF.out (fun c => RB.out.2 (RB.out.1.symm.trans c.2)), rfl⟩, R3.out⟩
      · have cr := fun w => right_raw h k _ false w (fun w => place_not h k hN w)
        have R1 : Aside (¬ Node h k) := hN
        clear hN
        go_wp2_with fail
        refine (cr _).mono ?_
        rintro e w2 ⟨rfl, hb2⟩
        clear cr hy0 hy1
        have R2 : Aside (Below w.heap.size w w2) := by
          have r3 := R.out.2.2.1
          exact (r3.alloc r3.size _).trans (hb2.mono (by have := r3.size; simp; omega))
        clear hb2
        go_wp2
        go_ret3
        obtain ⟨r1, r2, r3, r4, r5⟩ := R.out
        exact ⟨.inr ⟨tile_not r4 r2 HF.out (fun c => R1.out c.1), rfl⟩, R2.out⟩
end Go.Proofs.YtddmfpiflnjmjabDoor
