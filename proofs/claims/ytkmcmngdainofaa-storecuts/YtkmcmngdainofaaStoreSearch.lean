/- What slices.BinarySearchFunc answers of rising rows. -/
import Derived.Test.YtkmcmngdainofaaStoreCalls
namespace Go.Proofs.Ytkmcmngdainofaa
open Go.RowKit

/-- a row as it lies in memory: its number, its bits, the slice of its hashes. -/
structure RW where
  num : Nat
  live : Nat
  a : Option Addr
  n : Nat
  c : Nat
/-- rows lie there. -/
def RowsLie (w : World) (a : Option Addr) (rs : List RW) : Prop := 0 < rs.length → ∃ g o, a = some ⟨g, o, none⟩ ∧ g < w.heap.size ∧ ∀ (j : Nat) (r : RW), rs[j]? = some r → w.cell? ⟨g, o + j * 3, none⟩ = some (.int .u64 (r.num : Int)) ∧ w.cell? ⟨g, o + j * 3 + 1, none⟩ = some (.int .u64 (r.live : Int)) ∧ w.cell? ⟨g, o + j * 3 + 2, none⟩ = some (.slice r.a r.n r.c)
/-- rising. -/
def Rises (rs : List RW) : Prop := ∀ (i j : Nat) (r s : RW), i < j → rs[i]? = some r → rs[j]? = some s → r.num < s.num
/-- where a number stands, or is to stand. -/
def Stands (rs : List RW) (t i : Nat) : Prop := i ≤ rs.length ∧ (∀ (j : Nat) (r : RW), j < i → rs[j]? = some r → r.num < t) ∧ (∀ (j : Nat) (r : RW), i ≤ j → rs[j]? = some r → t ≤ r.num)
theorem mid_lt {i j : Nat} (h : i < j) : ∃ m, i ≤ m ∧ m < j ∧ m = (i + j) / 2 := ⟨(i + j) / 2, by omega, by omega, rfl⟩
theorem search_wraps (i j S m : Nat) (hj : j < 2 ^ 40) (hi : i < j) (hS : i + j = S) (hm : m = (i + j) / 2) : wrap64 ((i : Int) + (j : Int)) = (S : Int) ∧ IntKind.u64.wrap ((i : Int) + (j : Int)) = (S : Int) ∧ (S : Int) / 2 = (m : Int) ∧ wrap64 (m : Int) = (m : Int) ∧ wrap64 ((m : Int) + 1) = ((m + 1 : Nat) : Int) ∧ IntKind.u64.wrap (S : Int) = (S : Int) := by
  rw [wrapU, wrapU]
  unfold wrap64
  omega
/-- what the search tells. -/
def SEARCHED (rs : List RW) (t : Nat) (w : World) (e : Ending) (w' : World) : Prop := ∃ (i : Nat) (b : Bool), e = .returned (.tuple #[.int .i64 (i : Int), .bool b]) ∧ Stands rs t i ∧ (b = true ↔ ∃ r : RW, rs[i]? = some r ∧ r.num = t) ∧ Below w.heap.size w w'
set_option maxHeartbeats 1000000 in
theorem search_ok (a : Option Addr) (n cap : Nat) (rs : List RW) (t : Nat) (hl : rs.length = n) (hn : n < 2 ^ 40) (hR : Rises rs) (w : World) (hL : RowsLie w a rs) : Calls Try.prog 49 #[.slice a n cap, .int .u64 (t : Int), .func (.func 50) #[] #[]] w fun e w' => SEARCHED rs t w e w' := by
  have H : Aside (rs.length = n ∧ n < 2 ^ 40 ∧ Rises rs ∧ RowsLie w a rs) := ⟨hl, hn, hR, hL⟩
  clear hl hn hR hL
  go_enter Try.func49, Try.ntmps49
  go_wp2
  go_loopg [9, 10] n (fun gg s9 s10 wx => ∃ i j : Nat, s9 = .int .i64 (i : Int) ∧ s10 = .int .i64 (j : Int) ∧ Aside (i + gg = j ∧ j ≤ n ∧ (∀ (k : Nat) (r : RW), k < i → rs[k]? = some r → r.num < t) ∧ (∀ (k : Nat) (r : RW), j ≤ k → rs[k]? = some r → t ≤ r.num) ∧ Below w.heap.size w wx))
  case atStart => exact ⟨0, n, rfl, rfl, by omega, Nat.le_refl _, fun k r h => by omega, fun k r h e => by have := (List.getElem?_eq_some_iff.1 e).1; have := H.out.1; omega, Below.refl _ _⟩
  case round =>
    obtain ⟨i, j, rfl, rfl, I⟩ := hrel
    cases gk with
    | zero =>
      obtain ⟨i1, i2, i3, i4, i5⟩ := I.out
      obtain rfl : i = j := by omega
      have hlt : ¬ (i : Int) < (i : Int) := by omega
      rcases Nat.lt_or_ge i n with hin | hin
      · have hi2 : (i : Int) < (n : Int) := by omega
        have hi0 : (0 : Int) ≤ (i : Int) := by omega
        obtain ⟨h1, h2, h3, h4⟩ := H.out
        obtain ⟨r, er⟩ : ∃ r, rs[i]? = some r := ⟨_, List.getElem?_eq_getElem (by omega)⟩
        obtain ⟨g, o, rfl, hg, hc⟩ := h4 (by omega)
        obtain ⟨y0, y1, y2⟩ := hc i r er
        have x0 := (i5.cell (p := ⟨g, o + i * 3, none⟩) hg).trans y0
        have x1 := (i5.cell (p := ⟨g, o + i * 3 + 1, none⟩) hg).trans y1
        have x2 := (i5.cell (p := ⟨g, o + i * 3 + 2, none⟩) hg).trans y2
        have cc := rowcmp_ok r.num t (r.live : Int) r.a r.n r.c
        have R : Aside (Stands rs t i ∧ rs[i]? = some r ∧ Below w.heap.size w wr) := ⟨⟨by omega, i3, i4⟩, er, i5⟩
        clear i1 i2 i3 i4 i5 h1 h2 h3 h4 y0 y1 y2 hc er I
        go_wp2_with fail
        refine (cc _).mono ?_
        rintro e w2 ⟨rfl, hb⟩
        have R2 : Aside (Below w.heap.size w w2) := R.out.2.2.trans (hb.mono R.out.2.2.size)
        clear hb cc
        generalize hcmp : CMP r.num t = cv at *
        have HC : Aside (CMP r.num t = cv) := hcmp
        clear hcmp
        go_wp2
        go_ret2
        refine ⟨i, _, rfl, R.out.1, ?_, R2.out⟩
        have hc := HC.out
        unfold CMP at hc
        constructor
        · intro h
          refine ⟨r, R.out.2.1, ?_⟩
          have h' : cv = 0 := by simpa using h
          split at hc
          · omega
          · split at hc <;> omega
        · rintro ⟨r', e, rfl⟩
          rw [R.out.2.1] at e
          cases e
          have h' : cv = 0 := by rw [← hc, if_neg (by omega), if_neg (by omega)]
          simp [h']
      · have hi2 : ¬ (i : Int) < (n : Int) := by omega
        have R : Aside (Stands rs t i ∧ rs[i]? = none ∧ Below w.heap.size w wr) := ⟨⟨by have := H.out.1; omega, i3, i4⟩, List.getElem?_eq_none (by have := H.out.1; omega), i5⟩
        clear i1 i2 i3 i4 i5 I
        go_wp2
        go_ret2
        refine ⟨i, false, rfl, R.out.1, ⟨(fun h => by cases h), fun ⟨r, e, _⟩ => by rw [R.out.2.1] at e; cases e⟩, R.out.2.2⟩
    | succ gg =>
      obtain ⟨i1, i2, i3, i4, i5⟩ := I.out
      have hij : (i : Int) < (j : Int) := by omega
      obtain ⟨h1, h2, h3, h4⟩ := H.out
      obtain ⟨m, m1, m2, m3⟩ := mid_lt (i := i) (j := j) (by omega)
      obtain ⟨S, hS⟩ : ∃ S, i + j = S := ⟨_, rfl⟩
      have HW : Aside _ := search_wraps i j S m (by omega) (by omega) hS m3
      clear hS
      have hm2 : (m : Int) < (n : Int) := by omega
      have hm0 : (0 : Int) ≤ (m : Int) := by omega
      obtain ⟨r, er⟩ : ∃ r, rs[m]? = some r := ⟨_, List.getElem?_eq_getElem (by omega)⟩
      obtain ⟨g, o, rfl, hg, hc⟩ := h4 (by omega)
      obtain ⟨y0, y1, y2⟩ := hc m r er
      have x0 := (i5.cell (p := ⟨g, o + m * 3, none⟩) hg).trans y0
      have x1 := (i5.cell (p := ⟨g, o + m * 3 + 1, none⟩) hg).trans y1
      have x2 := (i5.cell (p := ⟨g, o + m * 3 + 2, none⟩) hg).trans y2
      have cc := rowcmp_ok r.num t (r.live : Int) r.a r.n r.c
      have LO : Aside (r.num < t → ∀ (k : Nat) (s : RW), k < m + 1 → rs[k]? = some s → s.num < t) := fun h k s hk e => by
        rcases Nat.lt_or_ge k m with hkm | hkm
        · have := h3 k m s r hkm e er
          omega
        · obtain rfl : k = m := by omega
          rw [er] at e
          cases e
          exact h
      have HI : Aside (¬ r.num < t → ∀ (k : Nat) (s : RW), m ≤ k → rs[k]? = some s → t ≤ s.num) := fun h k s hk e => by
        rcases Nat.lt_or_ge m k with hkm | hkm
        · have := h3 m k r s hkm er e
          omega
        · obtain rfl : k = m := by omega
          rw [er] at e
          cases e
          omega
      have R : Aside (i ≤ m ∧ m < j ∧ j ≤ n ∧ i + (gg + 1) = j ∧ (∀ (k : Nat) (r : RW), k < i → rs[k]? = some r → r.num < t) ∧ (∀ (k : Nat) (r : RW), j ≤ k → rs[k]? = some r → t ≤ r.num) ∧ Below w.heap.size w wr) := ⟨m1, m2, i2, i1, i3, i4, i5⟩
      clear i1 i2 i3 i4 i5 h1 h2 h3 h4 y0 y1 y2 hc er I m1 m2 m3
      obtain ⟨q1, q2, q3, q4, q5, q6⟩ := HW.out
      go_wp2_with fail
      refine (cc _).mono ?_
      rintro e w2 ⟨rfl, hb⟩
      have R2 : Aside (Below w.heap.size w w2) := R.out.2.2.2.2.2.2.trans (hb.mono R.out.2.2.2.2.2.2.size)
      clear hb cc x0 x1 x2
      by_cases hlt : r.num < t
      · have e : CMP r.num t = -1 := by unfold CMP; rw [if_pos hlt]
        rw [e]
        have L := LO.out hlt
        have LL : Aside (∀ (k : Nat) (s : RW), k < m + 1 → rs[k]? = some s → s.num < t) := L
        clear L hlt e
        go_wp2
        go_roundg (j - (m + 1))
        case measure => have := R.out; clear q1 q2 q3 q4 q5 q6; omega
        case rel => exact ⟨m + 1, j, by first | rfl | (rw [q5]), rfl, by have := R.out; clear q1 q2 q3 q4 q5 q6; omega, R.out.2.2.1, LL.out, R.out.2.2.2.2.2.1, R2.out⟩
      · have e : ¬ CMP r.num t < 0 := by unfold CMP; rw [if_neg hlt]; split <;> omega
        have L := HI.out hlt
        have LL : Aside (∀ (k : Nat) (s : RW), m ≤ k → rs[k]? = some s → t ≤ s.num) := L
        generalize CMP r.num t = cv at *
        clear L hlt
        go_wp2
        go_roundg (m - i)
        case measure => have := R.out; clear q1 q2 q3 q4 q5 q6; omega
        case rel => exact ⟨i, m, rfl, by first | rfl | (rw [q4]), by have := R.out; clear q1 q2 q3 q4 q5 q6; omega, by have := R.out; clear q1 q2 q3 q4 q5 q6; omega, R.out.2.2.2.2.1, LL.out, R2.out⟩
end Go.Proofs.Ytkmcmngdainofaa
