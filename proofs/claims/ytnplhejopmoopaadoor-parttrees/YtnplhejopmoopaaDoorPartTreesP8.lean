/- Texts of PartTrees, one behind the other: StoreCalls, StoreSearch, StoreFind, StoreMap. -/
import Derived.Deep.RegionHeld3
import Derived.Maps.OwnSet
import Derived.DeepKeys4
import Derived.Test.YtnplhejopmoopaaDoorPartTreesP7
/- What the small functions under package store answer: cmp.Compare, rowOf, bitOf, New, the comparison of a row. -/
namespace Go.Proofs.YtnplhejopmoopaaDoor.HX
open Go.RowKit

theorem isnan_ok (x : Int) (w : World) : Calls Tryd.prog 96 #[.int .u64 x] w fun e w' => e = .returned (.bool false) ∧ w = w' := by
  go_enter Tryd.func96, Tryd.ntmps96
  go_wp2
  go_ret
  exact ⟨rfl, rfl⟩
/-- three ways. -/
def CMP (x y : Nat) : Int := if x < y then -1 else if y < x then 1 else 0
theorem compare_ok (x y : Nat) (w : World) : Calls Tryd.prog 82 #[.int .u64 (x : Int), .int .u64 (y : Int)] w fun e w' => e = .returned (.int .i64 (CMP x y)) ∧ w = w' := by
  have c1 := fun w => isnan_ok (x : Int) w
  have c2 := fun w => isnan_ok (y : Int) w
  rcases Nat.lt_trichotomy x y with h | h | h
  · have h1 : (x : Int) < (y : Int) := by omega
    have e : CMP x y = -1 := by unfold CMP; rw [if_pos h]
    rw [e]
    go_enter Tryd.func82, Tryd.ntmps82
    go_wp2_with fail
    refine (c1 _).mono ?_
    rintro e w' ⟨rfl, rfl⟩
    go_wp2_with fail
    refine (c2 _).mono ?_
    rintro e w' ⟨rfl, rfl⟩
    go_wp2
    go_ret
    exact ⟨rfl, rfl⟩
  · subst h
    have e : CMP x x = 0 := by unfold CMP; rw [if_neg (by omega), if_neg (by omega)]
    rw [e]
    go_enter Tryd.func82, Tryd.ntmps82
    go_wp2_with fail
    refine (c1 _).mono ?_
    rintro e w' ⟨rfl, rfl⟩
    go_wp2_with fail
    refine (c1 _).mono ?_
    rintro e w' ⟨rfl, rfl⟩
    go_wp2
    go_ret
    exact ⟨rfl, rfl⟩
  · have h1 : ¬ (x : Int) < (y : Int) := by omega
    have h2 : (y : Int) < (x : Int) := by omega
    have e : CMP x y = 1 := by unfold CMP; rw [if_neg (by omega), if_pos h]
    rw [e]
    go_enter Tryd.func82, Tryd.ntmps82
    go_wp2_with fail
    refine (c1 _).mono ?_
    rintro e w' ⟨rfl, rfl⟩
    go_wp2_with fail
    refine (c2 _).mono ?_
    rintro e w' ⟨rfl, rfl⟩
    go_wp2
    go_ret
    exact ⟨rfl, rfl⟩
theorem rowof_raw (p r : Int) (h : p / 64 = r) (w : World) : Calls Tryd.prog 75 #[.int .u64 p] w fun e w' => e = .returned (.int .u64 r) ∧ w = w' := by
  go_enter Tryd.func75, Tryd.ntmps75
  go_wp2
  go_ret
  exact ⟨rfl, rfl⟩
theorem rowof_ok (p : Nat) (w : World) : Calls Tryd.prog 75 #[.int .u64 (p : Int)] w fun e w' => e = .returned (.int .u64 ((p / 64 : Nat) : Int)) ∧ w = w' := rowof_raw _ _ (by omega) w
theorem bitof_raw (p k r : Int) (h0 : bits .and .u64 p 63 = k) (hk : ¬ k < 0) (h : IntKind.u64.wrap (2 ^ min k.toNat 64) = r) (w : World) : Calls Tryd.prog 70 #[.int .u64 p] w fun e w' => e = .returned (.int .u64 r) ∧ w = w' := by
  subst h
  go_enter Tryd.func70, Tryd.ntmps70
  go_wp2
  go_ret
  exact ⟨rfl, rfl⟩
theorem bitof_ok (p : Nat) (hp : p < 2 ^ 64) (w : World) : Calls Tryd.prog 70 #[.int .u64 (p : Int)] w fun e w' => e = .returned (.int .u64 ((2 ^ (p % 64) : Nat) : Int)) ∧ w = w' := by
  have hk : p % 64 < 64 := Nat.mod_lt _ (by decide)
  have e : (p &&& 63 : Nat) = p % 64 := Nat.and_two_pow_sub_one_eq_mod p 6
  have h2 : 2 ^ (p % 64) < 2 ^ 64 := Nat.pow_lt_pow_right (by decide) hk
  refine bitof_raw _ ((p % 64 : Nat) : Int) _ ((and_lit rfl rfl hp (by decide)).trans (by rw [e])) (by omega) ?_ w
  rw [Int.toNat_natCast, Nat.min_eq_left (by omega)]
  exact wrap_nat (by push_cast; rfl) h2
/-- an empty store, as cells. -/
abbrev FRESH (log : Nat) : Array Value := #[.int .i64 (log : Int), .int .u64 0, .int .u64 0, .map none, .map none]
theorem storenew_ok (log : Nat) (h : log ≤ 16) (w : World) : Calls Tryd.prog 40 #[.int .i64 (log : Int)] w fun e w' => e = .returned (.tuple #[.pointer (some ⟨w.heap.size, 0, none⟩), .int .i64 0]) ∧ w' = w.alloc (.cells (FRESH log) 75) := by
  have h1 : ¬ (log : Int) < 0 := by omega
  have h2 : ¬ (16 : Int) < (log : Int) := by omega
  go_enter Tryd.func40, Tryd.ntmps40
  go_wp2
  go_ret2
  exact ⟨rfl, rfl⟩
/-- the comparison of a row with a number. -/
theorem rowcmp_ok (x y : Nat) (lv : Int) (a : Option Addr) (n c : Nat) (w : World) : Calls Tryd.prog 81 #[.agg #[.int .u64 (x : Int), .int .u64 lv, .slice a n c], .int .u64 (y : Int)] w fun e w' => e = .returned (.int .i64 (CMP x y)) ∧ Below w.heap.size w w' := by
  have cc := fun w => compare_ok x y w
  go_enter Tryd.func81, Tryd.ntmps81
  go_wp2_with fail
  refine (cc _).mono ?_
  rintro e w' ⟨rfl, rfl⟩
  go_wp2
  go_ret
  exact ⟨rfl, (Below.refl _ _).alloc (Nat.le_refl _) _⟩
end Go.Proofs.YtnplhejopmoopaaDoor.HX

/- What slices.BinarySearchFunc answers of rising rows. -/
namespace Go.Proofs.YtnplhejopmoopaaDoor.HX
open Go.RowKit

/-- a row as it lies in memory: its number, its bits, the slice of its hashes. -/
structure RW where
  num : Nat
  live : Nat
  a : Option Addr
  n : Nat
  c : Nat
/-- rows lie there. -/
def RowsLie (w : World) (a : Option Addr) (rs : List RW) : Prop := 0 < rs.length → ∃ g o, a = some ⟨g, o, none⟩ ∧ g < w.heap.size ∧ ∀ (j : Nat) (r : RW), rs[j]? = some r → w.cell? ⟨g, o + j * 3, none⟩ = some (.int .u64 (r.num : Int)) ∧ w.cell? ⟨g, o + j * 3 + 1, none⟩ = some (.int .u64 (r.live : Int)) ∧ w.cell? ⟨g, o + j * 3 + 2, none⟩ = some (.slice r.a r.n r.c)
/-- rising. -/
def Rises (rs : List RW) : Prop := ∀ (i j : Nat) (r s : RW), i < j → rs[i]? = some r → rs[j]? = some s → r.num < s.num
/-- where a number stands, or is to stand. -/
def Stands (rs : List RW) (t i : Nat) : Prop := i ≤ rs.length ∧ (∀ (j : Nat) (r : RW), j < i → rs[j]? = some r → r.num < t) ∧ (∀ (j : Nat) (r : RW), i ≤ j → rs[j]? = some r → t ≤ r.num)
theorem mid_lt {i j : Nat} (h : i < j) : ∃ m, i ≤ m ∧ m < j ∧ m = (i + j) / 2 := ⟨(i + j) / 2, by omega, by omega, rfl⟩
theorem search_wraps (i j S m : Nat) (hj : j < 2 ^ 40) (hi : i < j) (hS : i + j = S) (hm : m = (i + j) / 2) : wrap64 ((i : Int) + (j : Int)) = (S : Int) ∧ IntKind.u64.wrap ((i : Int) + (j : Int)) = (S : Int) ∧ (S : Int) / 2 = (m : Int) ∧ wrap64 (m : Int) = (m : Int) ∧ wrap64 ((m : Int) + 1) = ((m + 1 : Nat) : Int) ∧ IntKind.u64.wrap (S : Int) = (S : Int) := by
  rw [wrapU, wrapU]
  unfold wrap64
  omega
/-- what the search tells. -/
def SEARCHED (rs : List RW) (t : Nat) (w : World) (e : Ending) (w' : World) : Prop := ∃ (i : Nat) (b : Bool), e = .returned (.tuple #[.int .i64 (i : Int), .bool b]) ∧ Stands rs t i ∧ (b = true ↔ ∃ r : RW, rs[i]? = some r ∧ r.num = t) ∧ Below w.heap.size w w'
set_option maxHeartbeats 1000000 in
theorem search_ok (a : Option Addr) (n cap : Nat) (rs : List RW) (t : Nat) (hl : rs.length = n) (hn : n < 2 ^ 40) (hR : Rises rs) (w : World) (hL : RowsLie w a rs) : Calls Tryd.prog 80 #[.slice a n cap, .int .u64 (t : Int), .func (.func 81) #[] #[]] w fun e w' => SEARCHED rs t w e w' := by
  have H : Aside (rs.length = n ∧ n < 2 ^ 40 ∧ Rises rs ∧ RowsLie w a rs) := ⟨hl, hn, hR, hL⟩
  clear hl hn hR hL
  go_enter Tryd.func80, Tryd.ntmps80
  go_wp2
  go_loopg [9, 10] n (fun gg s9 s10 wx => ∃ i j : Nat, s9 = .int .i64 (i : Int) ∧ s10 = .int .i64 (j : Int) ∧ Aside (i + gg = j ∧ j ≤ n ∧ (∀ (k : Nat) (r : RW), k < i → rs[k]? = some r → r.num < t) ∧ (∀ (k : Nat) (r : RW), j ≤ k → rs[k]? = some r → t ≤ r.num) ∧ Below w.heap.size w wx))
  case atStart => exact ⟨0, n, rfl, rfl, by omega, Nat.le_refl _, fun k r h => by omega, fun k r h e => by have := (List.getElem?_eq_some_iff.1 e).1; have := H.out.1; omega, Below.refl _ _⟩
  case round =>
    obtain ⟨i, j, rfl, rfl, I⟩ := hrel
    cases gk with
    | zero =>
      obtain ⟨i1, i2, i3, i4, i5⟩ := I.out
      obtain rfl : i = j := by omega
      have hlt : ¬ (i : Int) < (i : Int) := by omega
      rcases Nat.lt_or_ge i n with hin | hin
      · have hi2 : (i : Int) < (n : Int) := by omega
        have hi0 : (0 : Int) ≤ (i : Int) := by omega
        obtain ⟨h1, h2, h3, h4⟩ := H.out
        obtain ⟨r, er⟩ : ∃ r, rs[i]? = some r := ⟨_, List.getElem?_eq_getElem (by omega)⟩
        obtain ⟨g, o, rfl, hg, hc⟩ := h4 (by omega)
        obtain ⟨y0, y1, y2⟩ := hc i r er
        have x0 := (i5.cell (p := ⟨g, o + i * 3, none⟩) hg).trans y0
        have x1 := (i5.cell (p := ⟨g, o + i * 3 + 1, none⟩) hg).trans y1
        have x2 := (i5.cell (p := ⟨g, o + i * 3 + 2, none⟩) hg).trans y2
        have cc := rowcmp_ok r.num t (r.live : Int) r.a r.n r.c
        have R : Aside (Stands rs t i ∧ rs[i]? = some r ∧ Below w.heap.size w wr) := ⟨⟨by omega, i3, i4⟩, er, i5⟩
        clear i1 i2 i3 i4 i5 h1 h2 h3 h4 y0 y1 y2 hc er I
        go_wp2_with fail
        refine (cc _).mono ?_
        rintro e w2 ⟨rfl, hb⟩
        have R2 : Aside (Below w.heap.size w w2) := R.out.2.2.trans (hb.mono R.out.2.2.size)
        clear hb cc
        generalize hcmp : CMP r.num t = cv at *
        have HC : Aside (CMP r.num t = cv) := hcmp
        clear hcmp
        go_wp2
        go_ret2
        refine ⟨i, _, rfl, R.out.1, ?_, R2.out⟩
        have hc := HC.out
        unfold CMP at hc
        constructor
        · intro h
          refine ⟨r, R.out.2.1, ?_⟩
          have h' : cv = 0 := by simpa using h
          split at hc
          · omega
          · split at hc <;> omega
        · rintro ⟨r', e, rfl⟩
          rw [R.out.2.1] at e
          cases e
          have h' : cv = 0 := by rw [← hc, if_neg (by omega), if_neg (by omega)]
          simp [h']
      · have hi2 : ¬ (i : Int) < (n : Int) := by omega
        have R : Aside (Stands rs t i ∧ rs[i]? = none ∧ Below w.heap.size w wr) := ⟨⟨by have := H.out.1; omega, i3, i4⟩, List.getElem?_eq_none (by have := H.out.1; omega), i5⟩
        clear i1 i2 i3 i4 i5 I
        go_wp2
        go_ret2
        refine ⟨i, false, rfl, R.out.1, ⟨(fun h => by cases h), fun ⟨r, e, _⟩ => by rw [R.out.2.1] at e; cases e⟩, R.out.2.2⟩
    | succ gg =>
      obtain ⟨i1, i2, i3, i4, i5⟩ := I.out
      have hij : (i : Int) < (j : Int) := by omega
      obtain ⟨h1, h2, h3, h4⟩ := H.out
      obtain ⟨m, m1, m2, m3⟩ := mid_lt (i := i) (j := j) (by omega)
      obtain ⟨S, hS⟩ : ∃ S, i + j = S := ⟨_, rfl⟩
      have HW : Aside _ := search_wraps i j S m (by omega) (by omega) hS m3
      clear hS
      have hm2 : (m : Int) < (n : Int) := by omega
      have hm0 : (0 : Int) ≤ (m : Int) := by omega
      obtain ⟨r, er⟩ : ∃ r, rs[m]? = some r := ⟨_, List.getElem?_eq_getElem (by omega)⟩
      obtain ⟨g, o, rfl, hg, hc⟩ := h4 (by omega)
      obtain ⟨y0, y1, y2⟩ := hc m r er
      have x0 := (i5.cell (p := ⟨g, o + m * 3, none⟩) hg).trans y0
      have x1 := (i5.cell (p := ⟨g, o + m * 3 + 1, none⟩) hg).trans y1
      have x2 := (i5.cell (p := ⟨g, o + m * 3 + 2, none⟩) hg).trans y2
      have cc := rowcmp_ok r.num t (r.live : Int) r.a r.n r.c
      have LO : Aside (r.num < t → ∀ (k : Nat) (s : RW), k < m + 1 → rs[k]? = some s → s.num < t) := fun h k s hk e => by
        rcases Nat.lt_or_ge k m with hkm | hkm
        · have := h3 k m s r hkm e er
          omega
        · obtain rfl : k = m := by omega
          rw [er] at e
          cases e
          exact h
      have HI : Aside (¬ r.num < t → ∀ (k : Nat) (s : RW), m ≤ k → rs[k]? = some s → t ≤ s.num) := fun h k s hk e => by
        rcases Nat.lt_or_ge m k with hkm | hkm
        · have := h3 m k r s hkm er e
          omega
        · obtain rfl : k = m := by omega
          rw [er] at e
          cases e
          omega
      have R : Aside (i ≤ m ∧ m < j ∧ j ≤ n ∧ i + (gg + 1) = j ∧ (∀ (k : Nat) (r : RW), k < i → rs[k]? = some r → r.num < t) ∧ (∀ (k : Nat) (r : RW), j ≤ k → rs[k]? = some r → t ≤ r.num) ∧ Below w.heap.size w wr) := ⟨m1, m2, i2, i1, i3, i4, i5⟩
      clear i1 i2 i3 i4 i5 h1 h2 h3 h4 y0 y1 y2 hc er I m1 m2 m3
      obtain ⟨q1, q2, q3, q4, q5, q6⟩ := HW.out
      go_wp2_with fail
      refine (cc _).mono ?_
      rintro e w2 ⟨rfl, hb⟩
      have R2 : Aside (Below w.heap.size w w2) := R.out.2.2.2.2.2.2.trans (hb.mono R.out.2.2.2.2.2.2.size)
      clear hb cc x0 x1 x2
      by_cases hlt : r.num < t
      · have e : CMP r.num t = -1 := by unfold CMP; rw [if_pos hlt]
        rw [e]
        have L := LO.out hlt
        have LL : Aside (∀ (k : Nat) (s : RW), k < m + 1 → rs[k]? = some s → s.num < t) := L
        clear L hlt e
        go_wp2
        go_roundg (j - (m + 1))
        case measure => have := R.out; clear q1 q2 q3 q4 q5 q6; omega
        case rel => exact ⟨m + 1, j, by first | rfl | (rw [q5]), rfl, by have := R.out; clear q1 q2 q3 q4 q5 q6; omega, R.out.2.2.1, LL.out, R.out.2.2.2.2.2.1, R2.out⟩
      · have e : ¬ CMP r.num t < 0 := by unfold CMP; rw [if_neg hlt]; split <;> omega
        have L := HI.out hlt
        have LL : Aside (∀ (k : Nat) (s : RW), m ≤ k → rs[k]? = some s → t ≤ s.num) := L
        generalize CMP r.num t = cv at *
        clear L hlt
        go_wp2
        go_roundg (m - i)
        case measure => have := R.out; clear q1 q2 q3 q4 q5 q6; omega
        case rel => exact ⟨i, m, rfl, by first | rfl | (rw [q4]), by have := R.out; clear q1 q2 q3 q4 q5 q6; omega, by have := R.out; clear q1 q2 q3 q4 q5 q6; omega, R.out.2.2.2.2.1, LL.out, R2.out⟩
end Go.Proofs.YtnplhejopmoopaaDoor.HX

/- chunkOf, rank, chunk.find. -/
namespace Go.Proofs.YtnplhejopmoopaaDoor.HX
open Go.RowKit

theorem chunkof_raw (g : Nat) (p log r : Int) (hl : ¬ log < 0) (w : World) (h : w.cell? ⟨g, 0, none⟩ = some (.int .i64 log)) (e : p / 2 ^ min log.toNat 64 = r) : Calls Tryd.prog 59 #[.pointer (some ⟨g, 0, none⟩), .int .u64 p] w fun e w' => e = .returned (.agg #[.int .u64 r]) ∧ Below w.heap.size w w' := by
  have hg := World.block_lt_of_cell? w _ h
  have h2 : (w.alloc (.cells #[.int .u64 0] 109)).cell? ⟨g, 0, none⟩ = some (.int .i64 log) := (Below.cell (B := w.heap.size) ((Below.refl _ _).alloc (Nat.le_refl _) _) hg).trans h
  go_enter Tryd.func59, Tryd.ntmps59
  go_wp2
  refine bodyPost_ret (v := .agg #[.int .u64 r]) ?_ rfl ⟨rfl, (Below.refl _ _).alloc (Nat.le_refl _) _⟩
  simp [results, Tryd.f59, go_sem]
theorem rank_raw (g o : Nat) (lv bit k x : Int) (r : Nat) (w : World) (h : w.cell? ⟨g, o + 1, none⟩ = some (.int .u64 lv)) (e1 : IntKind.u64.wrap (bit - 1) = k) (e2 : bits .and .u64 lv k = x) (c : ∀ w, Calls Tryd.prog 58 #[.int .u64 x] w fun e w' => e = .returned (.int .i64 (r : Int)) ∧ w = w') : Calls Tryd.prog 71 #[.pointer (some ⟨g, o, none⟩), .int .u64 bit] w fun e w' => e = .returned (.int .i64 (r : Int)) ∧ w = w' := by
  go_enter Tryd.func71, Tryd.ntmps71
  go_wp2_with fail
  refine (c _).mono ?_
  rintro e w' ⟨rfl, rfl⟩
  go_wp2
  go_ret
  exact ⟨rfl, rfl⟩
/-- how many of the bits below the place k are set. -/
theorem rank_ok (g o lv k : Nat) (hlv : lv < 2 ^ 64) (hk : k < 64) (w : World) (h : w.cell? ⟨g, o + 1, none⟩ = some (.int .u64 (lv : Int))) : Calls Tryd.prog 71 #[.pointer (some ⟨g, o, none⟩), .int .u64 ((2 ^ k : Nat) : Int)] w fun e w' => e = .returned (.int .i64 ((POP (lv % 2 ^ k) : Nat) : Int)) ∧ w = w' := by
  have hp := Nat.two_pow_pos k
  have h2 : 2 ^ k < 2 ^ 64 := Nat.pow_lt_pow_right (by decide) hk
  have e1 : IntKind.u64.wrap (((2 ^ k : Nat) : Int) - 1) = ((2 ^ k - 1 : Nat) : Int) := wrap_nat (by omega) (by omega)
  have e2 : bits .and .u64 (lv : Int) ((2 ^ k - 1 : Nat) : Int) = ((lv % 2 ^ k : Nat) : Int) := by
    rw [and_lit rfl rfl hlv (by omega), Nat.and_two_pow_sub_one_eq_mod]
  exact rank_raw g o lv _ _ _ _ w h e1 e2 (fun w => onescount_ok _ (Nat.lt_of_le_of_lt (Nat.mod_le _ _) hlv) w)
/-- where the row of a place stands in a chunk. -/
theorem find_ok (g : Nat) (a : Option Addr) (n cap : Nat) (rs : List RW) (p : Nat) (hl : rs.length = n) (hn : n < 2 ^ 40) (hR : Rises rs) (w : World) (hL : RowsLie w a rs) (hc : w.cell? ⟨g, 0, none⟩ = some (.slice a n cap)) : Calls Tryd.prog 69 #[.pointer (some ⟨g, 0, none⟩), .int .u64 (p : Int)] w fun e w' => SEARCHED rs (p / 64) w e w' := by
  have cs : Calls Tryd.prog 80 #[.slice a n cap, .int .u64 ((p / 64 : Nat) : Int), .func (.func 81) #[] #[]] w.drew fun e w' => SEARCHED rs (p / 64) w e w' := (search_ok a n cap rs (p / 64) hl hn hR w.drew hL).mono fun e w' ⟨i, b, h1, h2, h3, h4⟩ => ⟨i, b, h1, h2, h3, (Below.refl w.heap.size w).drew.trans h4⟩
  have cr := fun w => rowof_ok p w
  clear hL hR hn
  go_enter Tryd.func69, Tryd.ntmps69
  go_wp2_with fail
  go_region_held3 (fun W : World => W.cell? ⟨g, 0, none⟩ = some (.slice a n cap)) (first | assumption | go_keep) (first
    | (go_at_call 75; refine (cr _).mono ?_; rintro e w2 ⟨rfl, rfl⟩)
    | (go_at_call 80; refine cs.mono ?_; rintro e w3 ⟨i, b, rfl, s1, s2, s3⟩; have S : Aside (Stands rs (p / 64) i ∧ (b = true ↔ ∃ r : RW, rs[i]? = some r ∧ r.num = p / 64) ∧ Below w.heap.size w w3) := ⟨s1, s2, s3⟩; have hc3 : w3.cell? ⟨g, 0, none⟩ = some (.slice a n cap) := (s3.cell (World.block_lt_of_cell? w _ hc)).trans hc; clear s1 s2 s3))
  go_wp2
  go_ret2
  exact ⟨i, b, rfl, S.out⟩
end Go.Proofs.YtnplhejopmoopaaDoor.HX

/- The map from keys to chunks: which block the chunk of a number is in. -/
namespace Go.Proofs.YtnplhejopmoopaaDoor.HX
open Go.RowKit Go.Maps
set_option maxRecDepth 100000

theorem laidOutP : laidOutB Tryd.prog = true := by kernel_rfl
theorem rowKey : (109 : TypeId) < Tryd.prog.types.size := of_decide_eq_true (by kernel_rfl)
theorem wideKey : (match Tryd.prog.underlying 109 with | some (.array _ _) | some (.struct _) => true | _ => false) = true := by rw [Tryd.underlying109]
theorem lawKey : Keyed Tryd.prog 109 := Keyed.of_law (deep_law_laid laidOutP (m := 2) (by omega) rowKey (by kernel_rfl) wideKey)
/-- a key as a value. -/
abbrev KEY (k : Nat) : Value := .agg #[.int .u64 (k : Int)]
/-- what a key reads as. -/
def KK (k : Nat) : Lit := .string (keyBytes [.int .u64 (k : Int)])
theorem keyk_ok {k : Nat} (hk : k < 2 ^ 64) : keyOf Tryd.prog 109 (KEY k) = some (KK k) := by
  have w1 : (Lit.int .u64 (k : Int)).wf = true := WalkArith.wf_u64 (by omega)
  have c3 : Tryd.prog.cellsOf 109 = 1 := by kernel_rfl
  have c2 : Tryd.prog.cellsOf 25 = 1 := by kernel_rfl
  have ht : Tryd.prog.keyType 109 = true := by kernel_rfl
  have hf : (KEY k).formed Tryd.prog 109 = true := by simp [Value.formed, Tryd.underlying109, c3]
  obtain ⟨m, hm⟩ : ∃ m, Tryd.prog.types.size = m + 1 := ⟨Tryd.prog.types.size - 1, (Nat.succ_pred_eq_of_pos (Nat.lt_of_le_of_lt (Nat.zero_le _) rowKey)).symm⟩
  unfold keyOf
  simp only [Tryd.underlying109, ht, hf, hm]
  simp [Program.keyLits, Tryd.underlying109, Tryd.underlying25, c2, c3, Value.cells, w1, KK]
theorem KK_inj {k k' : Nat} (hk : k < 2 ^ 64) (hk' : k' < 2 ^ 64) (e : KK k = KK k') : k = k' := by
  have h1 := keyk_ok hk
  have h2 := keyk_ok hk'
  rw [← e] at h2
  have := lawKey.inj h1 h2
  simp at this
  omega
/-- a number as a datum. -/
abbrev UD (n : Nat) : DataW Unit := .lit (.int .u64 (n : Int))
/-- how a pointer to a block reads: nil as 0, the block g as g + 1. -/
def PE : Value → Option (DataW Unit × List MemPlace)
  | .pointer none => some (UD 0, [])
  | .pointer (some ⟨g, 0, none⟩) => some (UD (g + 1), [])
  | _ => none
theorem PE_some {g : Nat} : PE (.pointer (some ⟨g, 0, none⟩)) = some (UD (g + 1), []) := rfl
theorem PE_inv {v : Value} {g : Nat} {ps : List MemPlace} (h : PE v = some (UD (g + 1), ps)) : v = .pointer (some ⟨g, 0, none⟩) := by
  unfold PE at h
  split at h
  · simp at h
    omega
  · simp at h
    obtain ⟨h, -⟩ := h
    rw [Int.ofNat.inj h]
  · cases h
theorem PE_zero {v : Value} {ps : List MemPlace} (h : PE v = some (UD 0, ps)) : v = .pointer none := by
  unfold PE at h
  split at h
  · rfl
  · simp at h
    omega
  · cases h
/-- the map has just the chunks of M. -/
def ChunkMap (w : World) (b n : Nat) (M : Nat → Option Nat) : Prop := ∃ D : DataW Unit, w.ownsMap Tryd.prog 109 PE b n D ∧ ∀ k, k < 2 ^ 64 → (Maps.has D (KK k) = (M k).isSome) ∧ ∀ g, M k = some g → D.atKey (KK k) (UD 0) = UD (g + 1)
theorem ChunkMap.made (w : World) : ChunkMap (w.alloc (.map #[] 0)) w.heap.size 0 (fun _ => none) := ⟨_, World.ownsMap_made w _ _ _, fun k _ => ⟨by simp [Maps.has], fun g h => by cases h⟩⟩
theorem ChunkMap.lt {w : World} {b n : Nat} {M : Nat → Option Nat} (h : ChunkMap w b n M) : b < w.heap.size := let ⟨_, h1, _⟩ := h; h1.lt
theorem ChunkMap.kept {w w' : World} {b n : Nat} {M : Nat → Option Nat} {row : Option Nat} (h : ChunkMap w b n M) (hg : w.grownBy w' row) (hne : some b ≠ row) : ChunkMap w' b n M := let ⟨D, h1, h2⟩ := h; ⟨D, h1.kept hg hne, h2⟩
theorem ChunkMap.at {w w' : World} {b n : Nat} {M : Nat → Option Nat} (h : ChunkMap w b n M) (hb : w'.heap[b]? = w.heap[b]?) : ChunkMap w' b n M := by
  obtain ⟨D, ⟨es, clock, h1, r⟩, h2⟩ := h
  exact ⟨D, ⟨es, clock, hb.trans h1, r⟩, h2⟩
theorem ChunkMap.below {w w' : World} {b n : Nat} {M : Nat → Option Nat} (h : ChunkMap w b n M) (hb : Below w.heap.size w w') : ChunkMap w' b n M := h.at (hb.block b h.lt)
theorem ChunkMap.setCell {w : World} {b n : Nat} {M : Nat → Option Nat} (h : ChunkMap w b n M) {a : Addr} (ha : b ≠ a.block) (u : Value) : ChunkMap (w.setCell a u) b n M := let ⟨D, h1, h2⟩ := h; ⟨D, h1.setCell ha u, h2⟩
theorem zeroPtr (w : World) : (zeroValue 106).run Tryd.prog w = .ok (.pointer none) w := by kernel_rfl
/-- v, ok := m[k]. -/
theorem ChunkMap.look {w : World} {b n k : Nat} {M : Nat → Option Nat} (h : ChunkMap w b n M) (hk : k < 2 ^ 64) : ∃ v, (Instr.lookup 72 (.map (some b)) (KEY k) true).run Tryd.prog w = .ok (.tuple #[v, .bool (M k).isSome]) w ∧ (∀ g, M k = some g → v = .pointer (some ⟨g, 0, none⟩)) ∧ (M k = none → v = .pointer none) := by
  obtain ⟨D, h1, h2⟩ := h
  obtain ⟨v, ps, r1, r2⟩ := h1.look_ok lawKey Tryd.underlying72 (zeroPtr w) (show PE (.pointer none) = some (UD 0, []) from rfl) (keyk_ok hk)
  refine ⟨v, by rw [r1, (h2 k hk).1], fun g hg => ?_, fun hg => ?_⟩
  · rw [(h2 k hk).2 g hg] at r2
    exact PE_inv r2
  · have hn : Maps.has D (KK k) = false := by rw [(h2 k hk).1, hg]; rfl
    rw [Maps.atKey_of_not_has hn] at r2
    exact PE_zero r2
/-- m[k] of a key that is there. -/
theorem ChunkMap.get {w : World} {b n k g : Nat} {M : Nat → Option Nat} (h : ChunkMap w b n M) (hk : k < 2 ^ 64) (hg : M k = some g) : (Instr.lookup 72 (.map (some b)) (KEY k) false).run Tryd.prog w = .ok (.pointer (some ⟨g, 0, none⟩)) w := by
  obtain ⟨D, h1, h2⟩ := h
  obtain ⟨v, ps, r1, r2⟩ := h1.lookup lawKey Tryd.underlying72 (zeroPtr w) (show PE (.pointer none) = some (UD 0, []) from rfl) (keyk_ok hk)
  rw [(h2 k hk).2 g hg] at r2
  rw [r1, PE_inv r2]
/-- m[k] = c. -/
theorem ChunkMap.store {w : World} {b n k g : Nat} {M : Nat → Option Nat} (h : ChunkMap w b n M) (hn : n < 2 ^ 40) (hk : k < 2 ^ 64) : ∃ w', (Instr.mapUpdate 72 (.map (some b)) (KEY k) (.pointer (some ⟨g, 0, none⟩))).run Tryd.prog w = .ok () w' ∧ ChunkMap w' b (n + 1) (fun j => if j = k then some g else M j) ∧ w.grownBy w' (some b) := by
  obtain ⟨D, h1, h2⟩ := h
  obtain ⟨w', r1, r2, r3⟩ := h1.update lawKey Tryd.underlying72 (by unfold maxLen; omega) (keyk_ok hk) (PE_some (g := g))
  refine ⟨w', r1, ⟨_, r2, fun j hj => ?_⟩, r3⟩
  dsimp only
  have hkey : WideAt.IsKeyLit (KK k) := lawKey.key (keyk_ok hk)
  by_cases e : j = k
  · subst e
    rw [if_pos rfl]
    exact ⟨by rw [Maps.has_put_same h1.isMap hkey]; rfl, fun g' hg' => by cases hg'; rw [Maps.atKey_put_same h1.isMap hkey]⟩
  · rw [if_neg e, Maps.has_put_other (fun h => e (KK_inj hj hk h)), Maps.atKey_put_other (fun h => e (KK_inj hj hk h))]
    exact h2 j hj
end Go.Proofs.YtnplhejopmoopaaDoor.HX
