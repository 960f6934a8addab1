/- Texts of ManySets, one behind the other: ManySearch, ManyPlain, ManyPeaks, CutPlain. -/
import Derived.Test.YtadpfcpipklmbabDoorManySetsP4
import Derived.Test.YtadpfcpipklmbabDoorManySetsP5
/- A list of numbers that lies there; slices.BinarySearch over a rising one. -/
namespace Go.Proofs.YtadpfcpipklmbabDoor
open Go.RowKit
set_option maxRecDepth 100000

/-- numbers that lie there, at any place of a block. -/
def NUML (w : World) (a : Option Addr) (L : List Nat) : Prop := 0 < L.length → ∃ b o, a = some ⟨b, o, none⟩ ∧ b < w.heap.size ∧ ∀ i x, L[i]? = some x → w.cell? ⟨b, o + i, none⟩ = some (.int .u64 ((x : Nat) : Int))
theorem NUML.below {w w' : World} {a : Option Addr} {L : List Nat} {B : Nat} (h : NUML w a L) (hb : Below B w w') (hB : ∀ x, a = some x → x.block < B) : NUML w' a L := fun h0 => by
  obtain ⟨b, o, e, hl, hc⟩ := h h0
  have h1 : b < B := hB _ e
  exact ⟨b, o, e, by have := hb.size; omega, fun i x hx => (hb.cell (p := ⟨b, o + i, none⟩) h1).trans (hc i x hx)⟩
/-- each one above the one ahead. -/
def RISES (L : List Nat) : Prop := ∀ (i j x y : Nat), i < j → L[i]? = some x → L[j]? = some y → x < y
theorem mid_lt {i j : Nat} (h : i < j) : ∃ m, i ≤ m ∧ m < j ∧ m = (i + j) / 2 := ⟨(i + j) / 2, by omega, by omega, rfl⟩
theorem search_wraps (i j S m : Nat) (hj : j < 2 ^ 40) (hi : i < j) (hS : i + j = S) (hm : m = (i + j) / 2) : wrap64 ((i : Int) + (j : Int)) = (S : Int) ∧ IntKind.u64.wrap ((i : Int) + (j : Int)) = (S : Int) ∧ (S : Int) / 2 = (m : Int) ∧ wrap64 (m : Int) = (m : Int) ∧ wrap64 ((m : Int) + 1) = ((m + 1 : Nat) : Int) ∧ IntKind.u64.wrap (S : Int) = (S : Int) := by
  rw [wrapU, wrapU]
  unfold wrap64
  omega
theorem isnan_ok (x : Int) (w : World) : Calls Tryd.prog 66 #[.int .u64 x] w fun e w' => e = .returned (.bool false) ∧ w = w' := by
  go_enter Tryd.func66, Tryd.ntmps66
  go_wp2
  go_ret
  exact ⟨rfl, rfl⟩
theorem cmpnan_ok (x : Int) (w : World) : Calls Tryd.prog 68 #[.int .u64 x] w fun e w' => e = .returned (.bool false) ∧ w = w' := by
  go_enter Tryd.func68, Tryd.ntmps68
  go_wp2
  go_ret
  exact ⟨rfl, rfl⟩
theorem less_ok (x y : Nat) (w : World) : Calls Tryd.prog 65 #[.int .u64 (x : Int), .int .u64 (y : Int)] w fun e w' => e = .returned (.bool (decide (x < y))) ∧ w = w' := by
  have c := cmpnan_ok (x : Int) w
  go_enter Tryd.func65, Tryd.ntmps65
  go_wp2_with fail
  refine c.mono ?_
  rintro e w' ⟨rfl, rfl⟩
  clear c
  go_wp2_with fail
  go_ret
  exact ⟨rfl, rfl⟩
theorem less_yes (x y : Nat) (h : x < y) (w : World) : Calls Tryd.prog 65 #[.int .u64 (x : Int), .int .u64 (y : Int)] w fun e w' => e = .returned (.bool true) ∧ w = w' := by
  have := less_ok x y w
  rwa [decide_eq_true h] at this
theorem less_no (x y : Nat) (h : ¬ x < y) (w : World) : Calls Tryd.prog 65 #[.int .u64 (x : Int), .int .u64 (y : Int)] w fun e w' => e = .returned (.bool false) ∧ w = w' := by
  have := less_ok x y w
  rwa [decide_eq_false h] at this
/-- k of them are below t. -/
structure RANKS (L : List Nat) (t k : Nat) : Prop where
  le : k ≤ L.length
  lo : ∀ i x, i < k → L[i]? = some x → x < t
  hi : ∀ i x, k ≤ i → L[i]? = some x → t ≤ x
def SOUGHT (L : List Nat) (t : Nat) (w : World) (e : Ending) (w' : World) : Prop := ∃ (k : Nat) (b : Bool), e = .returned (.tuple #[.int .i64 (k : Int), .bool b]) ∧ RANKS L t k ∧ w = w'
set_option maxHeartbeats 1000000 in
theorem search_ok (a : Option Addr) (n cap : Nat) (L : List Nat) (t : Nat) (hl : L.length = n) (hn : n < 2 ^ 40) (hR : RISES L) (w : World) (hL : NUML w a L) : Calls Tryd.prog 59 #[.slice a n cap, .int .u64 (t : Int)] w fun e w' => SOUGHT L t w e w' := by
  have H : Aside (L.length = n ∧ n < 2 ^ 40 ∧ RISES L ∧ NUML w a L) := ⟨hl, hn, hR, hL⟩
  clear hl hn hR hL
  go_enter Tryd.func59, Tryd.ntmps59
  go_wp2
  go_loopg [7, 8] n (fun gg s7 s8 wx => ∃ i j : Nat, s7 = .int .i64 (i : Int) ∧ s8 = .int .i64 (j : Int) ∧ Aside (i + gg = j ∧ j ≤ n ∧ (∀ (k : Nat) (x : Nat), k < i → L[k]? = some x → x < t) ∧ (∀ (k : Nat) (x : Nat), j ≤ k → L[k]? = some x → t ≤ x)) ∧ wx = w)
  case atStart => exact ⟨0, n, rfl, rfl, ⟨by omega, Nat.le_refl _, fun k x h => by omega, fun k x h e => by have := (List.getElem?_eq_some_iff.1 e).1; have := H.out.1; omega⟩, rfl⟩
  case round =>
    obtain ⟨i, j, rfl, rfl, I, rfl⟩ := hrel
    cases gk with
    | zero =>
      obtain ⟨i1, i2, i3, i4⟩ := I.out
      obtain rfl : i = j := by omega
      have hlt : ¬ (i : Int) < (i : Int) := by omega
      rcases Nat.lt_or_ge i n with hin | hin
      · have hi2 : (i : Int) < (n : Int) := by omega
        have hi0 : (0 : Int) ≤ (i : Int) := by omega
        obtain ⟨h1, h2, h3, h4⟩ := H.out
        obtain ⟨x, ex⟩ : ∃ x, L[i]? = some x := ⟨_, List.getElem?_eq_getElem (by omega)⟩
        obtain ⟨g, o, rfl, hg, hc⟩ := h4 (by omega)
        have x0 := hc i x ex
        have cc := isnan_ok (x : Int)
        have R : Aside (RANKS L t i) := ⟨by omega, i3, i4⟩
        clear i1 i2 i3 i4 h1 h2 h3 h4 hc ex I H
        by_cases hx : x = t
        · subst hx
          go_wp2_with fail
          go_ret2
          exact ⟨i, _, rfl, R.out, rfl⟩
        · have hx' : ¬ (x : Int) = (t : Int) := by omega
          go_wp2_with fail
          refine (cc _).mono ?_
          rintro e w2 ⟨rfl, rfl⟩
          clear cc
          go_wp2_with fail
          go_ret2
          exact ⟨i, _, rfl, R.out, rfl⟩
      · have hi2 : ¬ (i : Int) < (n : Int) := by omega
        have R : Aside (RANKS L t i) := ⟨by have := H.out.1; omega, i3, i4⟩
        clear i1 i2 i3 i4 I H
        go_wp2
        go_ret2
        exact ⟨i, false, rfl, R.out, rfl⟩
    | succ gg =>
      obtain ⟨i1, i2, i3, i4⟩ := I.out
      have hij : (i : Int) < (j : Int) := by omega
      obtain ⟨h1, h2, h3, h4⟩ := H.out
      obtain ⟨m, m1, m2, m3⟩ := mid_lt (i := i) (j := j) (by omega)
      obtain ⟨S, hS⟩ : ∃ S, i + j = S := ⟨_, rfl⟩
      have HW : Aside _ := search_wraps i j S m (by omega) (by omega) hS m3
      clear hS
      have hm2 : (m : Int) < (n : Int) := by omega
      have hm0 : (0 : Int) ≤ (m : Int) := by omega
      obtain ⟨x, ex⟩ : ∃ x, L[m]? = some x := ⟨_, List.getElem?_eq_getElem (by omega)⟩
      obtain ⟨g, o, rfl, hg, hc⟩ := h4 (by omega)
      have x0 := hc m x ex
      have LO : Aside (x < t → ∀ (k : Nat) (y : Nat), k < m + 1 → L[k]? = some y → y < t) := fun h k y hk e => by
        rcases Nat.lt_or_ge k m with hkm | hkm
        · have := h3 k m y x hkm e ex
          omega
        · obtain rfl : k = m := by omega
          rw [ex] at e
          cases e
          exact h
      have HI : Aside (¬ x < t → ∀ (k : Nat) (y : Nat), m ≤ k → L[k]? = some y → t ≤ y) := fun h k y hk e => by
        rcases Nat.lt_or_ge m k with hkm | hkm
        · have := h3 m k x y hkm ex e
          omega
        · obtain rfl : k = m := by omega
          rw [ex] at e
          cases e
          omega
      have R : Aside (i ≤ m ∧ m < j ∧ j ≤ n ∧ i + (gg + 1) = j ∧ (∀ (k : Nat) (y : Nat), k < i → L[k]? = some y → y < t) ∧ (∀ (k : Nat) (y : Nat), j ≤ k → L[k]? = some y → t ≤ y)) := ⟨m1, m2, i2, i1, i3, i4⟩
      clear i1 i2 i3 i4 h1 h2 h3 h4 hc ex I m1 m2 m3
      obtain ⟨q1, q2, q3, q4, q5, q6⟩ := HW.out
      by_cases hlt : x < t
      · have cc := less_yes x t hlt
        have LL : Aside (∀ (k : Nat) (y : Nat), k < m + 1 → L[k]? = some y → y < t) := LO.out hlt
        clear hlt LO HI
        go_wp2_with fail
        refine (cc _).mono ?_
        rintro e w2 ⟨rfl, rfl⟩
        clear cc x0
        go_wp2
        go_roundg (j - (m + 1))
        case measure => have := R.out; clear q1 q2 q3 q4 q5 q6; omega
        case rel => exact ⟨m + 1, j, by first | rfl | (rw [q5]), rfl, ⟨by have := R.out; clear q1 q2 q3 q4 q5 q6; omega, R.out.2.2.1, LL.out, R.out.2.2.2.2.2⟩, rfl⟩
      · have cc := less_no x t hlt
        have LL : Aside (∀ (k : Nat) (y : Nat), m ≤ k → L[k]? = some y → t ≤ y) := HI.out hlt
        clear hlt LO HI
        go_wp2_with fail
        refine (cc _).mono ?_
        rintro e w2 ⟨rfl, rfl⟩
        clear cc x0
        go_wp2
        go_roundg (m - i)
        case measure => have := R.out; clear q1 q2 q3 q4 q5 q6; omega
        case rel => exact ⟨i, m, rfl, by first | rfl | (rw [q4]), ⟨by have := R.out; clear q1 q2 q3 q4 q5 q6; omega, by have := R.out; clear q1 q2 q3 q4 q5 q6; omega, R.out.2.2.2.2.1, LL.out⟩, rfl⟩
end Go.Proofs.YtadpfcpipklmbabDoor

/- Which nodes leaves need: plain. -/
namespace Go.Proofs.YtadpfcpipklmbabDoor
set_option maxRecDepth 100000

/-- the places that the leaves L under the k-th node of height h need, rising. -/
def NEED : Nat → Nat → List Nat → List Nat
  | h, k, [] => [PLC h k]
  | 0, _, _ :: _ => []
  | h + 1, k, x :: l => NEED h (2 * k) ((x :: l).filter fun y => decide (y < (2 * k + 1) * 2 ^ h)) ++ NEED h (2 * k + 1) ((x :: l).filter fun y => !decide (y < (2 * k + 1) * 2 ^ h))
theorem NEED_nil (h k : Nat) : NEED h k [] = [PLC h k] := by cases h <;> rfl
theorem NEED_leaf (k x : Nat) (l : List Nat) : NEED 0 k (x :: l) = [] := rfl
theorem NEED_node (h k x : Nat) (l : List Nat) : NEED (h + 1) k (x :: l) = NEED h (2 * k) ((x :: l).filter fun y => decide (y < (2 * k + 1) * 2 ^ h)) ++ NEED h (2 * k + 1) ((x :: l).filter fun y => !decide (y < (2 * k + 1) * 2 ^ h)) := rfl
/-- the first r of a rising list are those below t. -/
theorem RANKS.take : ∀ {L : List Nat} {t r : Nat}, RANKS L t r → L.take r = L.filter fun y => decide (y < t)
  | [], t, r, _ => by simp
  | x :: l, t, 0, h => by
    rw [List.take_zero]
    symm
    rw [List.filter_eq_nil_iff]
    intro y hy
    obtain ⟨i, hi⟩ := List.getElem?_of_mem hy
    have := h.hi i y (Nat.zero_le _) hi
    simp
    omega
  | x :: l, t, r + 1, h => by
    have hx : x < t := h.lo 0 x (by omega) rfl
    have h' : RANKS l t r := ⟨by have := h.le; simp at this; omega, fun i y hi hy => h.lo (i + 1) y (by omega) (by simpa using hy), fun i y hi hy => h.hi (i + 1) y (by omega) (by simpa using hy)⟩
    rw [List.take_succ_cons, List.filter_cons_of_pos (by simpa using hx), h'.take]
theorem RANKS.drop : ∀ {L : List Nat} {t r : Nat}, RANKS L t r → L.drop r = L.filter fun y => !decide (y < t)
  | [], t, r, _ => by simp
  | x :: l, t, 0, h => by
    rw [List.drop_zero]
    symm
    rw [List.filter_eq_self]
    intro y hy
    obtain ⟨i, hi⟩ := List.getElem?_of_mem hy
    have := h.hi i y (Nat.zero_le _) hi
    simp
    omega
  | x :: l, t, r + 1, h => by
    have hx : x < t := h.lo 0 x (by omega) rfl
    have h' : RANKS l t r := ⟨by have := h.le; simp at this; omega, fun i y hi hy => h.lo (i + 1) y (by omega) (by simpa using hy), fun i y hi hy => h.hi (i + 1) y (by omega) (by simpa using hy)⟩
    rw [List.drop_succ_cons, List.filter_cons_of_neg (by simpa using hx), h'.drop]
theorem RISES.take {L : List Nat} (h : RISES L) (r : Nat) : RISES (L.take r) := fun i j x y hij hx hy => by
  rw [List.getElem?_take] at hx hy
  split at hx
  · split at hy
    · exact h i j x y hij hx hy
    · cases hy
  · cases hx
theorem RISES.drop {L : List Nat} (h : RISES L) (r : Nat) : RISES (L.drop r) := fun i j x y hij hx hy => by
  rw [List.getElem?_drop] at hx hy
  exact h (r + i) (r + j) x y (by omega) hx hy
theorem NEED_take {h k r : Nat} {L : List Nat} (hL : L ≠ []) (hr : RANKS L ((2 * k + 1) * 2 ^ h) r) : NEED (h + 1) k L = NEED h (2 * k) (L.take r) ++ NEED h (2 * k + 1) (L.drop r) := by
  cases L with
  | nil => exact absurd rfl hL
  | cons x l => rw [NEED_node, hr.take, hr.drop]
/-- the peaks' leaves, one peak behind the other. -/
def NEEDS : List (Nat × Nat) → List Nat → List Nat
  | [], _ => []
  | (h, k) :: ps, L => NEED h k (L.filter fun y => decide (y < (k + 1) * 2 ^ h)) ++ NEEDS ps (L.filter fun y => !decide (y < (k + 1) * 2 ^ h))
theorem NEEDS_take {h k r : Nat} {L : List Nat} (ps : List (Nat × Nat)) (hr : RANKS L ((k + 1) * 2 ^ h) r) : NEEDS ((h, k) :: ps) L = NEED h k (L.take r) ++ NEEDS ps (L.drop r) := by
  rw [NEEDS, hr.take, hr.drop]
theorem filter_both (p : Nat → Bool) : ∀ l : List Nat, (l.filter p).length + (l.filter fun y => !p y).length = l.length
  | [] => rfl
  | x :: l => by
    have := filter_both p l
    cases h : p x <;> simp [List.filter, h] <;> omega
theorem NEED_bound : ∀ (h k : Nat) (L : List Nat), L ≠ [] → (NEED h k L).length ≤ L.length * h
  | _, _, [], hL => absurd rfl hL
  | 0, _, _ :: _, _ => by simp [NEED]
  | h + 1, k, x :: l, _ => by
    rw [NEED_node, List.length_append]
    generalize hA : ((x :: l).filter fun y => decide (y < (2 * k + 1) * 2 ^ h)) = A
    generalize hB : ((x :: l).filter fun y => !decide (y < (2 * k + 1) * 2 ^ h)) = B
    have hAB : A.length + B.length = (x :: l).length := by
      rw [← hA, ← hB]
      exact filter_both _ _
    have h1 : (NEED h (2 * k) A).length ≤ A.length * h + (if A.length = 0 then 1 else 0) := by
      cases A with
      | nil => rw [NEED_nil]; simp
      | cons y m => exact Nat.le_trans (NEED_bound h (2 * k) (y :: m) (by simp)) (Nat.le_add_right _ _)
    have h2 : (NEED h (2 * k + 1) B).length ≤ B.length * h + (if B.length = 0 then 1 else 0) := by
      cases B with
      | nil => rw [NEED_nil]; simp
      | cons y m => exact Nat.le_trans (NEED_bound h (2 * k + 1) (y :: m) (by simp)) (Nat.le_add_right _ _)
    have h3 : 0 < (x :: l).length := by simp
    have h4 : A.length * h + B.length * h = (x :: l).length * h := by rw [← Nat.add_mul, hAB]
    rw [Nat.mul_succ]
    generalize (NEED h (2 * k) A).length = u at *
    generalize (NEED h (2 * k + 1) B).length = v at *
    generalize A.length * h = p at *
    generalize B.length * h = q at *
    generalize (x :: l).length * h = s at *
    generalize (x :: l).length = m at *
    split at h1 <;> split at h2 <;> omega
theorem NEED_most (h k : Nat) (L : List Nat) : (NEED h k L).length ≤ L.length * h + 1 := by
  cases L with
  | nil => rw [NEED_nil]; simp
  | cons x l => exact Nat.le_trans (NEED_bound h k (x :: l) (by simp)) (Nat.le_add_right _ _)
end Go.Proofs.YtadpfcpipklmbabDoor

/- The peaks as spots. -/
namespace Go.Proofs.YtadpfcpipklmbabDoor
set_option maxRecDepth 100000

/-- the peaks of n leaves, from the left: height and index. -/
def TPS (n : Nat) : List (Nat × Nat) := (HS 0 n).map fun h => (h, 2 * (n / 2 ^ (h + 1)))
theorem drop_at {α : Type} : ∀ {l : List α} {j : Nat} {x : α}, l[j]? = some x → l.drop j = x :: l.drop (j + 1)
  | [], j, x, h => by simp at h
  | y :: l, 0, x, h => by
    simp only [List.getElem?_cons_zero, Option.some.injEq] at h
    rw [h]
    rfl
  | y :: l, j + 1, x, h => by
    rw [List.getElem?_cons_succ] at h
    rw [List.drop_succ_cons, List.drop_succ_cons]
    exact drop_at h
theorem TPS_length {n : Nat} (hn : n < 2 ^ 64) : (TPS n).length = PC n := by
  rw [TPS, List.length_map, HS_length hn 0 (by decide), Nat.pow_zero, Nat.div_one]
theorem TPS_peak {n j h k : Nat} (e : (TPS n)[j]? = some (h, k)) : (PEAKS n)[j]? = some (PLC h k) := by
  unfold TPS at e
  unfold PEAKS
  rw [List.getElem?_map] at e ⊢
  cases hj : (HS 0 n)[j]? with
  | none => rw [hj] at e; cases e
  | some x =>
    rw [hj] at e
    simp only [Option.map_some, Option.some.injEq, Prod.mk.injEq] at e
    obtain ⟨rfl, rfl⟩ := e
    rfl
theorem node_of_span {h k : Nat} (hh : h ≤ 62) (hs : (k + 1) * 2 ^ h ≤ 2 ^ 62) : Node h k := by
  refine ⟨hh, ?_⟩
  rcases Nat.lt_or_ge k (2 ^ (62 - h)) with h1 | h1
  · exact h1
  · have h2 : (2 ^ (62 - h) + 1) * 2 ^ h ≤ (k + 1) * 2 ^ h := Nat.mul_le_mul_right _ (by omega)
    rw [Nat.add_mul, ← Nat.pow_add, show 62 - h + h = 62 by omega] at h2
    have := Nat.two_pow_pos h
    omega
theorem TPS_span {n h k : Nat} (hn : n ≤ 2 ^ 62) (hm : (h, k) ∈ TPS n) : h ≤ 62 ∧ (k + 1) * 2 ^ h ≤ n ∧ Node h k := by
  unfold TPS at hm
  rw [List.mem_map] at hm
  obtain ⟨x, hx, e⟩ := hm
  simp only [Prod.mk.injEq] at e
  obtain ⟨rfl, rfl⟩ := e
  obtain ⟨_, h2, h3⟩ := HS_set_of 0 x (by decide) hx
  have h4 : 2 * (n / 2 ^ (x + 1)) + 1 = n / 2 ^ x := by
    rw [Nat.pow_succ, ← Nat.div_div_eq_div_mul]
    omega
  have h5 : (2 * (n / 2 ^ (x + 1)) + 1) * 2 ^ x ≤ n := by rw [h4]; exact Nat.div_mul_le_self n (2 ^ x)
  have h6 : x ≤ 62 := by
    rcases Nat.lt_or_ge 62 x with h7 | h7
    · have h8 : 2 ^ 63 ≤ 2 ^ x := Nat.pow_le_pow_right (by decide) h7
      have h9 : 1 * 2 ^ x ≤ (2 * (n / 2 ^ (x + 1)) + 1) * 2 ^ x := Nat.mul_le_mul_right _ (by omega)
      omega
    · exact h7
  exact ⟨h6, h5, node_of_span h6 (by omega)⟩
theorem NEEDS_most : ∀ (ps : List (Nat × Nat)) (L : List Nat), (∀ p ∈ ps, p.1 ≤ 62) → (NEEDS ps L).length ≤ L.length * 62 + ps.length
  | [], L, _ => by simp [NEEDS]
  | (h, k) :: ps, L, hp => by
    rw [NEEDS, List.length_append, List.length_cons]
    have h1 := NEED_most h k (L.filter fun y => decide (y < (k + 1) * 2 ^ h))
    have h2 := NEEDS_most ps (L.filter fun y => !decide (y < (k + 1) * 2 ^ h)) (fun p hm => hp p (List.mem_cons_of_mem _ hm))
    have h3 := filter_both (fun y => decide (y < (k + 1) * 2 ^ h)) L
    have h4 : h ≤ 62 := hp (h, k) (List.mem_cons_self ..)
    have h5 : (L.filter fun y => decide (y < (k + 1) * 2 ^ h)).length * h ≤ (L.filter fun y => decide (y < (k + 1) * 2 ^ h)).length * 62 := Nat.mul_le_mul_left _ h4
    generalize (L.filter fun y => decide (y < (k + 1) * 2 ^ h)).length * h = u at *
    generalize (L.filter fun y => decide (y < (k + 1) * 2 ^ h)).length = p at *
    generalize (L.filter fun y => !decide (y < (k + 1) * 2 ^ h)).length = q at *
    omega
end Go.Proofs.YtadpfcpipklmbabDoor

/- Spans of leaves as perfect trees, in plain numbers. -/
namespace Go.Proofs.YtadpfcpipklmbabDoor

/-- a perfect tree of height h begins at a and does not reach beyond b. -/
abbrev Fit (a h b : Nat) : Prop := a % 2 ^ h = 0 ∧ a + 2 ^ h ≤ b
theorem Fit.down {a h b : Nat} (f : Fit a (h + 1) b) : Fit a h b := by
  have h1 : 2 ^ (h + 1) = 2 ^ h * 2 := Nat.pow_succ 2 h
  have h2 := f.2
  refine ⟨?_, by omega⟩
  have h3 := f.1
  have h4 : 2 ^ h ∣ 2 ^ (h + 1) := ⟨2, h1⟩
  exact Nat.mod_eq_zero_of_dvd (Nat.dvd_trans h4 (Nat.dvd_of_mod_eq_zero h3))
theorem Fit.le {a g b : Nat} : ∀ h, h ≤ g → Fit a g b → Fit a h b := by
  intro h hg f
  induction g with
  | zero => obtain rfl : h = 0 := by omega
            exact f
  | succ g ih =>
    rcases Nat.lt_or_ge h (g + 1) with h1 | h1
    · exact ih (by omega) f.down
    · obtain rfl : h = g + 1 := by omega
      exact f
theorem Fit.zero {a b : Nat} (h : a < b) : Fit a 0 b := ⟨Nat.mod_one a, by simp; omega⟩
/-- the greatest height up to f that fits. -/
def HTF : Nat → Nat → Nat → Nat
  | 0, _, _ => 0
  | f + 1, a, b => if Fit a (f + 1) b then f + 1 else HTF f a b
/-- the height of the greatest tree that begins at a and does not reach beyond b. -/
def HT (a b : Nat) : Nat := HTF 62 a b
theorem HTF_spec {a b : Nat} (hab : a < b) : ∀ f, ¬ Fit a (f + 1) b → HTF f a b ≤ f ∧ Fit a (HTF f a b) b ∧ ¬ Fit a (HTF f a b + 1) b := by
  intro f
  induction f with
  | zero => intro h; exact ⟨Nat.le_refl _, Fit.zero hab, h⟩
  | succ f ih =>
    intro h
    unfold HTF
    split
    · rename_i h1
      exact ⟨Nat.le_refl _, h1, h⟩
    · rename_i h1
      have := ih h1
      exact ⟨by omega, this.2⟩
theorem HT_spec {a b : Nat} (hab : a < b) (hb : b ≤ 4611686018427387904) : HT a b ≤ 62 ∧ Fit a (HT a b) b ∧ ¬ Fit a (HT a b + 1) b := by
  refine HTF_spec hab 62 ?_
  intro h
  have := h.2
  simp at this
  omega
theorem HT_only {a b h : Nat} (hab : a < b) (hb : b ≤ 4611686018427387904) (h1 : Fit a h b) (h2 : ¬ Fit a (h + 1) b) : h = HT a b := by
  obtain ⟨_, a1, a2⟩ := HT_spec hab hb
  rcases Nat.lt_trichotomy h (HT a b) with c | c | c
  · exact absurd (a1.le (h + 1) (by omega)) h2
  · exact c
  · exact absurd (h1.le (HT a b + 1) (by omega)) a2
def SPANF : Nat → Nat → Nat → List (Nat × Nat)
  | 0, _, _ => []
  | f + 1, a, b => if a < b then (HT a b, a / 2 ^ HT a b) :: SPANF f (a + 2 ^ HT a b) b else []
/-- the fewest spots over the leaves from a to b - 1. -/
def SPAN (a b : Nat) : List (Nat × Nat) := SPANF (b - a) a b
theorem SPANF_more : ∀ f g a b, b - a ≤ f → b - a ≤ g → SPANF f a b = SPANF g a b := by
  intro f
  induction f with
  | zero =>
    intro g a b h1 h2
    cases g with
    | zero => rfl
    | succ g => simp [SPANF]; omega
  | succ f ih =>
    intro g a b h1 h2
    cases g with
    | zero => simp [SPANF]; omega
    | succ g =>
      unfold SPANF
      have := Nat.two_pow_pos (HT a b)
      rw [ih g (a + 2 ^ HT a b) b (by omega) (by omega)]
theorem SPAN_end {a b : Nat} (h : b ≤ a) : SPAN a b = [] := by
  unfold SPAN
  rw [show b - a = 0 by omega]
  rfl
theorem SPAN_step {a b : Nat} (h : a < b) : SPAN a b = (HT a b, a / 2 ^ HT a b) :: SPAN (a + 2 ^ HT a b) b := by
  unfold SPAN
  obtain ⟨f, hf⟩ : ∃ f, b - a = f + 1 := ⟨b - a - 1, by omega⟩
  have := Nat.two_pow_pos (HT a b)
  rw [hf]
  show (if a < b then _ else _) = _
  rw [if_pos h]
  congr 1
  exact SPANF_more _ _ _ _ (by omega) (by omega)
/-- spots that lie over the leaves from a to b - 1, one behind the other. -/
def Tile : Nat → List (Nat × Nat) → Nat → Prop
  | a, [], b => a = b
  | a, s :: l, b => Node s.1 s.2 ∧ s.2 * 2 ^ s.1 = a ∧ Tile ((s.2 + 1) * 2 ^ s.1) l b
/-- two neighbours that are siblings. -/
abbrev Sibs (x y : Nat × Nat) : Prop := x.1 = y.1 ∧ x.2 % 2 = 0 ∧ y.2 = x.2 + 1
/-- no two neighbours are siblings. -/
def Irr : List (Nat × Nat) → Prop
  | [] => True
  | x :: l => (∀ y, l.head? = some y → ¬ Sibs x y) ∧ Irr l
theorem Fit.node {a h b : Nat} (f : Fit a h b) (hh : h ≤ 62) (hb : b ≤ 4611686018427387904) : Node h (a / 2 ^ h) ∧ a / 2 ^ h * 2 ^ h = a ∧ (a / 2 ^ h + 1) * 2 ^ h = a + 2 ^ h := by
  have h1 : a / 2 ^ h * 2 ^ h = a := Nat.div_mul_cancel (Nat.dvd_of_mod_eq_zero f.1)
  have h2 : (a / 2 ^ h + 1) * 2 ^ h = a + 2 ^ h := by rw [Nat.add_mul, Nat.one_mul, h1]
  refine ⟨⟨hh, ?_⟩, h1, h2⟩
  have h3 : (a / 2 ^ h + 1) * 2 ^ h ≤ 2 ^ (62 - h) * 2 ^ h := by
    rw [h2, ← Nat.pow_add, show 62 - h + h = 62 by omega]
    have := f.2
    simp
    omega
  exact Nat.le_of_mul_le_mul_right h3 (Nat.two_pow_pos h)
theorem pow_up (h : Nat) : 2 ^ (h + 1) = 2 * 2 ^ h := by rw [Nat.pow_succ, Nat.mul_comm]
theorem even_up {k h : Nat} : k * 2 ^ h % 2 ^ (h + 1) = 0 ↔ k % 2 = 0 := by
  rw [Nat.pow_succ, Nat.mul_comm (2 ^ h) 2, Nat.mul_mod_mul_right]
  have := Nat.two_pow_pos h
  constructor
  · intro e
    rcases Nat.mul_eq_zero.1 e with e | e
    · exact e
    · omega
  · intro e
    rw [e, Nat.zero_mul]
theorem Tile_span {b : Nat} (hb : b ≤ 4611686018427387904) : ∀ f a, b - a ≤ f → a ≤ b → Tile a (SPAN a b) b := by
  intro f
  induction f with
  | zero =>
    intro a h1 h2
    rw [SPAN_end (by omega)]
    exact (by omega : a = b)
  | succ f ih =>
    intro a h1 h2
    rcases Nat.lt_or_ge a b with h | h
    · obtain ⟨s1, s2, _⟩ := HT_spec h hb
      obtain ⟨n1, n2, n3⟩ := s2.node s1 hb
      rw [SPAN_step h]
      refine ⟨n1, n2, ?_⟩
      show Tile ((a / 2 ^ HT a b + 1) * 2 ^ HT a b) _ b
      rw [n3]
      have := Nat.two_pow_pos (HT a b)
      exact ih _ (by omega) s2.2
    · rw [SPAN_end h]
      exact (by omega : a = b)
theorem tile_span {a b : Nat} (hb : b ≤ 4611686018427387904) (h : a ≤ b) : Tile a (SPAN a b) b := Tile_span hb (b - a) a (Nat.le_refl _) h
theorem Tile.bound {l : List (Nat × Nat)} : ∀ {a b : Nat}, Tile a l b → a ≤ b ∧ (l ≠ [] → a < b ∧ b ≤ 4611686018427387904) := by
  induction l with
  | nil => intro a b h; exact ⟨by have : a = b := h; omega, fun h => absurd rfl h⟩
  | cons s l ih =>
    intro a b ⟨h1, h2, h3⟩
    have i := ih h3
    have := Nat.two_pow_pos s.1
    have e : (s.2 + 1) * 2 ^ s.1 = s.2 * 2 ^ s.1 + 2 ^ s.1 := by rw [Nat.add_mul, Nat.one_mul]
    refine ⟨by omega, fun _ => ⟨by omega, ?_⟩⟩
    cases l with
    | nil =>
      have h4 : (s.2 + 1) * 2 ^ s.1 = b := h3
      have := h1.span
      simp at this
      omega
    | cons t l => exact (i.2 (by simp)).2
theorem span_only {l : List (Nat × Nat)} : ∀ {a b : Nat}, Tile a l b → Irr l → l = SPAN a b := by
  induction l with
  | nil =>
    intro a b h _
    have : a = b := h
    rw [SPAN_end (by omega)]
  | cons s l ih =>
    intro a b ht hi
    obtain ⟨h1, h2, h3⟩ := ht
    obtain ⟨hab, hb⟩ := (Tile.bound (l := s :: l) ⟨h1, h2, h3⟩).2 (by simp)
    have e : (s.2 + 1) * 2 ^ s.1 = s.2 * 2 ^ s.1 + 2 ^ s.1 := by rw [Nat.add_mul, Nat.one_mul]
    have hl := ih h3 hi.2
    have hle := h3.bound.1
    have hpos := Nat.two_pow_pos s.1
    have hf : Fit a s.1 b := ⟨by rw [← h2]; exact Nat.mul_mod_left _ _, by omega⟩
    have hn : ¬ Fit a (s.1 + 1) b := by
      intro hf2
      have hk : s.2 % 2 = 0 := even_up.1 (by rw [h2]; exact hf2.1)
      have p2 := pow_up s.1
      have hf3 := hf2.2
      have hlt : (s.2 + 1) * 2 ^ s.1 < b := by omega
      have hF1 : Fit ((s.2 + 1) * 2 ^ s.1) s.1 b := ⟨Nat.mul_mod_left _ _, by omega⟩
      have hF2 : ¬ Fit ((s.2 + 1) * 2 ^ s.1) (s.1 + 1) b := by
        intro h
        have := even_up.1 h.1
        omega
      have hH := HT_only hlt hb hF1 hF2
      rw [SPAN_step hlt, ← hH, Nat.mul_div_cancel _ hpos] at hl
      refine hi.1 (s.1, s.2 + 1) (by rw [hl]; rfl) ⟨rfl, hk, rfl⟩
    have hH := HT_only hab hb hf hn
    rw [SPAN_step hab, ← hH, hl]
    congr 1
    · rw [← h2, Nat.mul_div_cancel _ hpos]
    · rw [e, h2]
theorem Irr_span {b : Nat} (hb : b ≤ 4611686018427387904) : ∀ f a, b - a ≤ f → Irr (SPAN a b) := by
  intro f
  induction f with
  | zero =>
    intro a h1
    rw [SPAN_end (by omega)]
    trivial
  | succ f ih =>
    intro a h1
    rcases Nat.lt_or_ge a b with h | h
    · obtain ⟨s1, s2, s3⟩ := HT_spec h hb
      obtain ⟨n1, n2, n3⟩ := s2.node s1 hb
      have hp := Nat.two_pow_pos (HT a b)
      rw [SPAN_step h]
      refine ⟨?_, ih _ (by omega)⟩
      intro y hy ⟨y1, y2, y3⟩
      rcases Nat.lt_or_ge (a + 2 ^ HT a b) b with h2 | h2
      · rw [SPAN_step h2] at hy
        simp at hy
        subst hy
        obtain ⟨t1, t2, t3⟩ := HT_spec h2 hb
        dsimp only at y1 y2 y3
        apply s3
        refine ⟨?_, ?_⟩
        · have := even_up (h := HT a b).2 y2
          rw [n2] at this
          exact this
        · have := t2.2
          rw [← y1] at this
          rw [pow_up]
          omega
      · rw [SPAN_end h2] at hy
        simp at hy
    · rw [SPAN_end h]
      trivial
theorem irr_span {a b : Nat} (hb : b ≤ 4611686018427387904) : Irr (SPAN a b) := Irr_span hb (b - a) a (Nat.le_refl _)
theorem Tile.append {l m : List (Nat × Nat)} : ∀ {a b c : Nat}, Tile a l b → Tile b m c → Tile a (l ++ m) c := by
  induction l with
  | nil => intro a b c h h2; have : a = b := h; rw [this]; exact h2
  | cons s l ih => intro a b c ⟨h1, h2, h3⟩ h4; exact ⟨h1, h2, ih h3 h4⟩
theorem Tile.node {l : List (Nat × Nat)} : ∀ {a b i h k : Nat}, Tile a l b → l[i]? = some (h, k) → Node h k := by
  induction l with
  | nil => intro a b i h k _ e; simp at e
  | cons s l ih =>
    intro a b i h k ⟨h1, h2, h3⟩ e
    cases i with
    | zero => simp at e; subst e; exact h1
    | succ i => exact ih h3 (by simpa using e)
theorem Tile.split {l m : List (Nat × Nat)} : ∀ {a c : Nat}, Tile a (l ++ m) c → ∃ b, Tile a l b ∧ Tile b m c := by
  induction l with
  | nil => intro a c h; exact ⟨a, rfl, h⟩
  | cons s l ih =>
    intro a c ⟨h1, h2, h3⟩
    obtain ⟨b, h4, h5⟩ := ih h3
    exact ⟨b, ⟨h1, h2, h4⟩, h5⟩
theorem Tile.one {s : Nat × Nat} {a b : Nat} : Tile a [s] b ↔ Node s.1 s.2 ∧ s.2 * 2 ^ s.1 = a ∧ (s.2 + 1) * 2 ^ s.1 = b := Iff.rfl
theorem Irr.snoc {l : List (Nat × Nat)} {x : Nat × Nat} (hi : Irr l) (hx : ∀ y, l.getLast? = some y → ¬ Sibs y x) : Irr (l ++ [x]) := by
  induction l with
  | nil => exact ⟨by simp, trivial⟩
  | cons s l ih =>
    refine ⟨?_, ih hi.2 ?_⟩
    · intro y hy
      cases l with
      | nil =>
        simp at hy
        subst hy
        exact hx s (by simp)
      | cons t l => exact hi.1 y (by simpa using hy)
    · intro y hy
      cases l with
      | nil => simp at hy
      | cons t l => exact hx y (by rw [List.getLast?_cons_cons]; exact hy)
theorem Irr.init {l m : List (Nat × Nat)} (hi : Irr (l ++ m)) : Irr l := by
  induction l with
  | nil => trivial
  | cons s l ih =>
    refine ⟨fun y hy => hi.1 y ?_, ih hi.2⟩
    cases l with
    | nil => simp at hy
    | cons t l => simpa using hy
/-- two siblings become their parent. -/
theorem Tile.pair {h k a b : Nat} (hh : Tile a [(h, k), (h, k + 1)] b) (hk : k % 2 = 0) : h < 62 ∧ Tile a [(h + 1, k / 2)] b := by
  obtain ⟨h1, h2, h3, h4, h5⟩ := hh
  dsimp only at h1 h2 h3 h4 h5
  have h5' : (k + 1 + 1) * 2 ^ h = b := h5
  have hlt : h < 62 := by
    rcases Nat.lt_or_ge h 62 with c | c
    · exact c
    · have := h3.2
      rw [show 62 - h = 0 by omega] at this
      omega
  refine ⟨hlt, h1.up hlt, ?_, ?_⟩
  · show k / 2 * 2 ^ (h + 1) = a
    rw [← double_pow, show 2 * (k / 2) = k by omega, h2]
  · show (k / 2 + 1) * 2 ^ (h + 1) = b
    rw [← double_pow, show 2 * (k / 2 + 1) = k + 1 + 1 by omega, h5']
/-- a spot is broken into its kids. -/
theorem Tile.kids {h k a b : Nat} (hh : Tile a [(h + 1, k)] b) : Tile a [(h, 2 * k), (h, 2 * k + 1)] b := by
  obtain ⟨h1, h2, h3⟩ := hh
  dsimp only at h1 h2 h3
  have h3' : (k + 1) * 2 ^ (h + 1) = b := h3
  have e1 := h1.1
  have e2 := h1.2
  have e : 2 ^ (62 - h) = 2 ^ (62 - (h + 1)) * 2 := by rw [← Nat.pow_succ]; congr 1; omega
  refine ⟨⟨by show h ≤ 62; omega, by show 2 * k < _; rw [e]; omega⟩, ?_, ⟨by show h ≤ 62; omega, by show 2 * k + 1 < _; rw [e]; omega⟩, rfl, ?_⟩
  · show 2 * k * 2 ^ h = a
    rw [double_pow, h2]
  · show (2 * k + 1 + 1) * 2 ^ h = b
    rw [show 2 * k + 1 + 1 = 2 * (k + 1) by omega, double_pow, h3']
theorem SPAN_down {b : Nat} : ∀ g f a, b - a ≤ f → a % 2 ^ g = 0 → b - a < 2 ^ g → b ≤ 4611686018427387904 → (SPAN a b).length ≤ g := by
  intro g f
  induction f generalizing g with
  | zero => intro a h1 _ _ _; rw [SPAN_end (by omega)]; simp
  | succ f ih =>
    intro a h1 h2 h3 hb
    rcases Nat.lt_or_ge a b with h | h
    · obtain ⟨s1, s2, s3⟩ := HT_spec h hb
      rw [SPAN_step h]
      have hp := Nat.two_pow_pos (HT a b)
      have hlt : HT a b < g := by
        rcases Nat.lt_or_ge (HT a b) g with c | c
        · exact c
        · have := (s2.le g c).2
          omega
      have hd : a % 2 ^ (HT a b + 1) = 0 := by
        have h4 : 2 ^ (HT a b + 1) ∣ 2 ^ g := Nat.pow_dvd_pow 2 hlt
        exact Nat.mod_eq_zero_of_dvd (Nat.dvd_trans h4 (Nat.dvd_of_mod_eq_zero h2))
      have hs : ¬ a + 2 ^ (HT a b + 1) ≤ b := fun c => s3 ⟨hd, c⟩
      rw [pow_up] at hs
      have := ih (HT a b) (a + 2 ^ HT a b) (by omega) (by rw [Nat.add_mod_right]; exact s2.1) (by omega) hb
      rw [List.length_cons]
      omega
    · rw [SPAN_end h]; simp
theorem SPAN_up {b : Nat} : ∀ f g e a, b - a ≤ f → a % 2 ^ g = 0 → b - a < 2 ^ e → g ≤ e → b ≤ 4611686018427387904 → (SPAN a b).length ≤ (e - g) + e := by
  intro f
  induction f with
  | zero => intro g e a h1 _ _ _ _; rw [SPAN_end (by omega)]; simp
  | succ f ih =>
    intro g e a h1 h2 h3 hge hb
    rcases Nat.lt_or_ge a b with h | h
    · obtain ⟨s1, s2, s3⟩ := HT_spec h hb
      rw [SPAN_step h, List.length_cons]
      have hp := Nat.two_pow_pos (HT a b)
      have hlt : HT a b < e := by
        rcases Nat.lt_or_ge (HT a b) e with c | c
        · exact c
        · have := (s2.le e c).2
          omega
      by_cases hd : a % 2 ^ (HT a b + 1) = 0
      · have hs : ¬ a + 2 ^ (HT a b + 1) ≤ b := fun c => s3 ⟨hd, c⟩
        rw [pow_up] at hs
        have := SPAN_down (HT a b) f (a + 2 ^ HT a b) (by omega) (by rw [Nat.add_mod_right]; exact s2.1) (by omega) hb
        omega
      · have hg : g ≤ HT a b := by
          rcases Nat.lt_or_ge (HT a b) g with c | c
          · have h4 : 2 ^ (HT a b + 1) ∣ 2 ^ g := Nat.pow_dvd_pow 2 c
            exact absurd (Nat.mod_eq_zero_of_dvd (Nat.dvd_trans h4 (Nat.dvd_of_mod_eq_zero h2))) hd
          · exact c
        obtain ⟨n1, n2, n3⟩ := s2.node s1 hb
        have hodd : (a / 2 ^ HT a b + 1) % 2 = 0 := by
          have : ¬ a / 2 ^ HT a b % 2 = 0 := fun c => hd (by have := even_up (h := HT a b).2 c; rw [n2] at this; exact this)
          omega
        have := ih (HT a b + 1) e (a + 2 ^ HT a b) (by omega) (by rw [← n3]; exact even_up.2 hodd) (by omega) (by omega) hb
        omega
    · rw [SPAN_end h]; simp
theorem SPAN_length {a b : Nat} (hb : b ≤ 4611686018427387904) : (SPAN a b).length ≤ 124 := by
  rcases Nat.eq_zero_or_pos a with h | h
  · subst h
    have := SPAN_down (b := b) 63 b 0 (by omega) (by simp) (by simp; omega) hb
    omega
  · exact SPAN_up (b := b) b 0 62 a (by omega) (by simp [Nat.mod_one]) (by simp; omega) (by omega) hb
end Go.Proofs.YtadpfcpipklmbabDoor
