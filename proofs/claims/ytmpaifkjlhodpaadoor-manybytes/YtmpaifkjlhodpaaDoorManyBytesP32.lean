/- Texts of ManyBytes, one behind the other: ManyBytesWalk. -/
import Derived.Test.YtmpaifkjlhodpaaDoorManyBytesP19
import Derived.Test.YtmpaifkjlhodpaaDoorManyBytesP21
import Derived.Test.YtmpaifkjlhodpaaDoorManyBytesP22
import Derived.Test.YtmpaifkjlhodpaaDoorManyBytesP23
import Derived.Test.YtmpaifkjlhodpaaDoorManyBytesP28
import Derived.Test.YtmpaifkjlhodpaaDoorManyBytesP31
/- The law ManyBytes returns true. -/
namespace Go.Proofs.YtmpaifkjlhodpaaDoor
open Go.RowKit
set_option maxRecDepth 100000

theorem bytes_long (N : Int) (a : Option Addr) (n ca : Nat) (x : Option Addr) (m cx : Nat) (y : Option Addr) (k cy : Nat) (w : World) (h : (200 : Int) < (n : Int) ∨ (200 : Int) < (m : Int) ∨ (6400 : Int) < (k : Int)) :
    Calls Tryd.prog 4 #[.agg #[.int .u64 N, .slice a n ca, .slice x m cx], .slice y k cy] w fun e w' => e = .returned (.bool true) ∧ Below w.heap.size w w' := by
  have FN : Aside (Below w.heap.size w (w.alloc (.cells #[.int .u64 N, .slice a n ca, .slice x m cx] 32))) := (Below.refl _ _).alloc (Nat.le_refl _) _
  by_cases h1 : (200 : Int) < (n : Int)
  · go_enter Tryd.func4, Tryd.ntmps4
    go_wp2_with fail
    go_ret
    exact ⟨rfl, FN.out⟩
  · by_cases h2 : (200 : Int) < (m : Int)
    · clear h
      go_enter Tryd.func4, Tryd.ntmps4
      go_wp2_with fail
      go_ret
      exact ⟨rfl, FN.out⟩
    · have h3 : (6400 : Int) < (k : Int) := by omega
      clear h
      go_enter Tryd.func4, Tryd.ntmps4
      go_wp2_with fail
      go_ret
      exact ⟨rfl, FN.out⟩
theorem MENC_range {L : List Nat} {N K : Nat} {l : List Int} (hN : N < 2 ^ 64) (hm : L.length ≤ 200) (hL : ∀ x ∈ L, x < 2 ^ 64) (hl : ∀ x ∈ l, 0 ≤ x ∧ x ≤ 255) (hk : l.length ≤ 6400) : (∀ x ∈ (MENC L N K l).2, 0 ≤ x ∧ x ≤ 255) ∧ (MENC L N K l).2.length ≤ 90000 := by
  unfold MENC
  split
  · exact ⟨MWRT_range hN (by omega) hL hl, by have := MWRT_length (L := L) (N := N) (l := l); show (MWRT L N l).length ≤ 90000; omega⟩
  · exact ⟨(fun x h => by cases h), Nat.zero_le _⟩
theorem OVER_grow8 {xs : List Value} {u : Value} {n : Nat} (hl : xs.length = n) : OVER xs u n ++ [u] = List.replicate (n + 1) u := by
  have := OVER_all xs u
  rw [hl] at this
  rw [this, List.replicate_succ']
/-- one byte of a list of one's own. -/
theorem app_byte8 {ops : Array Oper} {rest : List Oper} {o : Oper} {a : Act} {Q : Exit → Act → World → Prop} (w : World) (hgd : o.guard = none) (s x : Operand)
    (ho : o.op = .call { callee := .builtin .append, args := #[s, x], argTypes := #[35, 35] })
    (base : Nat) (v : Value) (n : Nat) (xs : List Value) (hs : a.eval s = v) (hown : w.ownsRow base 5 1 v n xs)
    (b c : Nat) (y : Int) (hx : a.eval x = .slice (some ⟨b, 0, none⟩) 1 c) (hc : w.cell? ⟨b, 0, none⟩ = some (.int .u8 y))
    (hb : n ≤ 2 ^ 30) (hbase : base ≤ w.heap.size)
    (h : ∀ g cap w', w'.ownsRow base 5 1 (.slice (some ⟨g, 0, none⟩) (n + 1) cap) (n + 1) (xs ++ [.int .u8 y]) → w.grownBy w' v.ownBlock → (v.ownBlock = some g ∨ g = w.heap.size) → g < w'.heap.size → wpList Tryd.prog ops Q rest (a.put o.dst (.slice (some ⟨g, 0, none⟩) (n + 1) cap)) w') : wpList Tryd.prog ops Q (o :: rest) a w := by
  obtain ⟨i, hi, h8⟩ := Option.map_eq_some_iff.1 (show (Tryd.prog.info? 5).map (fun i => (i.zero, i.size, i.bytes)) = some (some (.int .u8 0), 1, 1) by kernel_rfl)
  simp only [Prod.mk.injEq] at h8
  refine wpList_append_lies w hgd s x 35 ho base 5 i (.int .u8 0) 1 1 Tryd.underlying35 hi h8.1 h8.2.1 h8.2.2 rfl (by decide) v n xs hs hown ⟨b, 0, none⟩ 1 c [.int .u8 y] hx rfl ?_ (fun u hu => by simp at hu; subst hu; rfl) (by decide) (by simp only [maxLen]; omega) (by omega) hbase w.heap.size rfl h
  intro j u hj
  cases j with
  | zero =>
    simp only [List.getElem?_cons_zero, Option.some.injEq] at hj
    subst hj
    exact hc
  | succ j => simp at hj
/-- the first j bytes are one more. -/
def INCB (l : List Int) (j : Nat) : List Value := (l.take j).map (fun x => Value.int .u8 ((x + 1) % 256)) ++ CELLS (l.drop j)
theorem INCB_zero (l : List Int) : INCB l 0 = CELLS l := by simp [INCB]
theorem INCB_at {l : List Int} {j : Nat} {x : Int} (e : l[j]? = some x) : (INCB l j)[j]? = some (.int .u8 x) ∧ (INCB l j).set j (.int .u8 ((x + 1) % 256)) = INCB l (j + 1) := by
  have hj : j < l.length := (List.getElem?_eq_some_iff.1 e).1
  have hl : ((l.take j).map (fun x => Value.int .u8 ((x + 1) % 256))).length = j := by simp; omega
  have hd : l.drop j = x :: l.drop (j + 1) := by
    rw [List.drop_eq_getElem_cons hj]
    congr 1
    have := List.getElem?_eq_getElem hj
    rw [this] at e
    simpa using e
  unfold INCB
  rw [hd]
  constructor
  · rw [List.getElem?_append_right (by omega), hl, Nat.sub_self]
    rfl
  · rw [List.set_append_right _ _ (by omega), hl, Nat.sub_self, List.take_add_one, e]
    simp [CELLS]
set_option maxHeartbeats 32000000 in
theorem bytes_core (N : Nat) (a : Option Addr) (n ca : Nat) (L : List Nat) (x : Option Addr) (m cx : Nat) (l : List Int) (y : Option Addr) (k cy : Nat) (l2 : List Int) (w : World) (hN : N < 2 ^ 64) (hl : L.length = n) (hn : n ≤ 200) (hc : a = none → ca = 0) (hL : NUML w a L) (hx : ∀ x ∈ L, x < 2 ^ 64) (hm : m ≤ 200) (hcx : x = none → cx = 0) (hF : Flat w x m l) (hB : Bytes w y k l2) (hk : k ≤ 6400) (hcy : y = none → cy = 0) (hky : k ≤ cy) (hT : Tabled w) (h0 : 0 < w.heap.size) :
    Calls Tryd.prog 4 #[.agg #[.int .u64 (N : Int), .slice a n ca, .slice x m cx], .slice y k cy] w fun e w' => e = .returned (.bool true) ∧ Below w.heap.size w w' := by
  have tab : Aside (∀ W, Below w.heap.size w W → Tabled W ∧ 0 < W.heap.size) := fun W hb => ⟨hT.below h0 hb, by have := hb.size; omega⟩
  obtain ⟨w1, e1⟩ : ∃ w1, w.alloc (.cells #[.int .u64 (N : Int), .slice a n ca, .slice x m cx] 32) = w1 := ⟨_, rfl⟩
  have hb1 : Below w.heap.size w w1 := by rw [← e1]; exact (Below.refl _ _).alloc (Nat.le_refl _) _
  have hs1 : Has w1 w.heap.size #[.int .u64 (N : Int), .slice a n ca, .slice x m cx] 32 := by rw [← e1]; exact Has.new w _ _
  have cg := given10_ok (N : Int) a n ca L x m cx l hl hn hc hm hcx w1 (hL.keep hb1) (hF.below hb1)
  have i1 : ¬ (200 : Int) < (n : Int) := by omega
  have i2 : ¬ (200 : Int) < (m : Int) := by omega
  have i3 : ¬ (6400 : Int) < (k : Int) := by omega
  have HA : Aside (N < 2 ^ 64 ∧ L.length = n ∧ n ≤ 200 ∧ NUML w a L ∧ (∀ x ∈ L, x < 2 ^ 64) ∧ m ≤ 200 ∧ Flat w x m l ∧ Below w.heap.size w w1 ∧ Has w1 w.heap.size #[.int .u64 (N : Int), .slice a n ca, .slice x m cx] 32) := ⟨hN, hl, hn, hL, hx, hm, hF, hb1, hs1⟩
  have HB : Aside (Bytes w y k l2 ∧ k ≤ 6400 ∧ (y = none → cy = 0) ∧ k ≤ cy) := ⟨hB, hk, hcy, hky⟩
  have hMR := MENC_range (K := m) hN (by omega) hx hF.2.2 (by have := hF.1; omega)
  obtain ⟨M, hM⟩ : ∃ M, MENC L N m l = M := ⟨_, rfl⟩
  rw [hM] at hMR
  have MR : Aside (MENC L N m l = M ∧ (∀ x ∈ M.2, 0 ≤ x ∧ x ≤ 255) ∧ M.2.length ≤ 90000) := ⟨hM, hMR⟩
  have x1 := hs1.cell 1
  have x2 := hs1.cell 2
  have x0 := hs1.cell 0
  clear hN hl hn hc hL hx hm hcx hF hB hk hcy hky hT h0 hb1 hs1 hM hMR
  go_enter Tryd.func4, Tryd.ntmps4
  go_wp2_with fail
  refine cg.mono ?_
  rintro e w2 ⟨g1, q1, g2, q2, rfl, G⟩
  have GG : Aside (GIVM w1 w2 g1 n q1 L g2 m q2 l) := G
  clear cg G e1 x0 x1 x2
  go_upto_region 4 with fail
  obtain ⟨w3, e3⟩ : ∃ w3, w2.alloc (.cells #[.int .u64 (N : Int), .slice (some ⟨g1, 0, none⟩) n q1, .slice (some ⟨g2, 0, none⟩) m q2] 32) = w3 := ⟨_, rfl⟩
  rw [e3]
  have hb3 : Below w2.heap.size w2 w3 := by rw [← e3]; exact (Below.refl _ _).alloc (Nat.le_refl _) _
  have hs3 : Has w3 w2.heap.size #[.int .u64 (N : Int), .slice (some ⟨g1, 0, none⟩) n q1, .slice (some ⟨g2, 0, none⟩) m q2] 32 := by rw [← e3]; exact Has.new w2 _ _
  have b13 : Below w1.heap.size w1 w3 := GG.out.below.trans (hb3.mono GG.out.below.size)
  have W3 : Aside (Below w.heap.size w w3 ∧ Has w3 w.heap.size #[.int .u64 (N : Int), .slice a n ca, .slice x m cx] 32 ∧ Has w3 w2.heap.size #[.int .u64 (N : Int), .slice (some ⟨g1, 0, none⟩) n q1, .slice (some ⟨g2, 0, none⟩) m q2] 32 ∧ NUML w3 (some ⟨g1, 0, none⟩) L ∧ Flat w3 (some ⟨g2, 0, none⟩) m l ∧ w3.cell? ⟨g1, n, none⟩ = some (.int .u64 171) ∧ w3.rangeAt g2 (m * 32) (CELLS MRK) ∧ g1 < w3.heap.size ∧ g2 < w3.heap.size ∧ n + 1 ≤ q1 ∧ m + 1 ≤ q2) := ⟨HA.out.2.2.2.2.2.2.2.1.trans (b13.mono HA.out.2.2.2.2.2.2.2.1.size), HA.out.2.2.2.2.2.2.2.2.keep b13, hs3, (own_lies GG.out.own1 HA.out.2.1).keep hb3, (own_flat GG.out.own2 HA.out.2.2.2.2.2.2.1.2.2).below hb3, (hb3.cell (p := ⟨g1, n, none⟩) GG.out.lt1).trans GG.out.mark1, range_below GG.out.mark2 hb3 GG.out.lt2, Nat.lt_of_lt_of_le GG.out.lt1 hb3.size, Nat.lt_of_lt_of_le GG.out.lt2 hb3.size, GG.out.room1, GG.out.room2⟩
  clear hb3 hs3 b13 e3 GG
  have x30 := W3.out.2.1.cell 0
  have x31 := W3.out.2.1.cell 1
  have x32 := W3.out.2.1.cell 2
  have cr := refencode10_ok L N HA.out.1 a n ca x m cx l w3 HA.out.2.1 HA.out.2.2.1 HA.out.2.2.2.2.1 HA.out.2.2.2.2.2.1 (HA.out.2.2.2.1.keep W3.out.1) (HA.out.2.2.2.2.2.2.1.below W3.out.1)
  rw [MR.out.1] at cr
  unfold ANSY at cr
  obtain ⟨Z, hZ⟩ : ∃ Z, M.2 = Z := ⟨_, rfl⟩
  obtain ⟨E, hE⟩ : ∃ E, M.1 = E := ⟨_, rfl⟩
  obtain ⟨zl, hzl⟩ : ∃ zl, Z.length = zl := ⟨_, rfl⟩
  rw [hZ, hE, hzl] at cr
  have MZ : Aside (M.2 = Z ∧ M.1 = E ∧ Z.length = zl ∧ (∀ x ∈ Z, 0 ≤ x ∧ x ≤ 255) ∧ zl ≤ 90000) := ⟨hZ, hE, hzl, by rw [← hZ]; exact MR.out.2.1, by rw [← hzl, ← hZ]; exact MR.out.2.2⟩
  clear hZ hE hzl
  have EN : Aside (∀ W, Below w3.heap.size w3 W → Calls Tryd.prog 15 #[.agg #[.int .u64 (N : Int), .slice (some ⟨g1, 0, none⟩) n q1, .slice (some ⟨g2, 0, none⟩) m q2]] W fun e w' => ∃ a c, e = .returned (.tuple #[.slice a zl c, .int .i64 E]) ∧ w'.ownsRow W.heap.size 5 1 (.slice a zl c) zl (CELLS Z) ∧ Below W.heap.size W w') := fun W hb => by
    have hbw : Below w.heap.size w W := W3.out.1.trans (hb.mono W3.out.1.size)
    have h := manyencode_ok L N (some ⟨g1, 0, none⟩) n q1 (some ⟨g2, 0, none⟩) m q2 l W HA.out.2.1 (by have := HA.out.2.2.1; omega) (by have := W3.out.2.2.2.2.2.2.2.2.2.1; omega) (fun e => by cases e) (fun x e => by cases e; exact ⟨Nat.lt_of_lt_of_le W3.out.2.2.2.2.2.2.2.1 hb.size, rfl⟩) (by have := HA.out.2.2.2.2.2.1; omega) (W3.out.2.2.2.1.keep hb) (W3.out.2.2.2.2.1.below hb) (tab.out W hbw).1 (tab.out W hbw).2
    rw [MR.out.1] at h
    unfold ANSY at h
    rw [MZ.out.1, MZ.out.2.1, MZ.out.2.2.1] at h
    exact h
  go_wp2_with fail
  refine cr.mono ?_
  rintro e w4 ⟨a4, c4, rfl, o4, hb4⟩
  have W4 : Aside (Below w3.heap.size w3 w4 ∧ w4.ownsRow w3.heap.size 5 1 (.slice a4 zl c4) zl (CELLS Z) ∧ Has w4 w2.heap.size #[.int .u64 (N : Int), .slice (some ⟨g1, 0, none⟩) n q1, .slice (some ⟨g2, 0, none⟩) m q2] 32) := ⟨hb4, o4, W3.out.2.2.1.keep hb4⟩
  clear cr o4 hb4 x30 x31 x32
  have y40 := W4.out.2.2.cell 0
  have y41 := W4.out.2.2.cell 1
  have y42 := W4.out.2.2.cell 2
  have ce1 := EN.out w4 W4.out.1
  go_wp2_with fail
  refine ce1.mono ?_
  rintro e w5 ⟨a5, c5, rfl, o5, hb5⟩
  have W5 : Aside (Below w3.heap.size w3 w5 ∧ Below w4.heap.size w4 w5 ∧ w5.ownsRow w4.heap.size 5 1 (.slice a5 zl c5) zl (CELLS Z) ∧ Has w5 w2.heap.size #[.int .u64 (N : Int), .slice (some ⟨g1, 0, none⟩) n q1, .slice (some ⟨g2, 0, none⟩) m q2] 32) := ⟨W4.out.1.trans (hb5.mono W4.out.1.size), hb5, o5, W4.out.2.2.keep hb5⟩
  clear ce1 o5 hb5 y40 y41 y42
  have y50 := W5.out.2.2.2.cell 0
  have y51 := W5.out.2.2.2.cell 1
  have y52 := W5.out.2.2.2.cell 2
  have ce2 := EN.out w5 W5.out.1
  go_wp2_with fail
  refine ce2.mono ?_
  rintro e w6 ⟨a6, c6, rfl, o6, hb6⟩
  have W6 : Aside (Below w3.heap.size w3 w6 ∧ Below w4.heap.size w4 w6 ∧ w6.ownsRow w4.heap.size 5 1 (.slice a5 zl c5) zl (CELLS Z) ∧ w6.ownsRow w4.heap.size 5 1 (.slice a6 zl c6) zl (CELLS Z) ∧ (∀ g, (Value.slice a5 zl c5).ownBlock = some g → (Value.slice a6 zl c6).ownBlock ≠ some g) ∧ w6.ownsRow w3.heap.size 5 1 (.slice a4 zl c4) zl (CELLS Z)) := ⟨W5.out.1.trans (hb6.mono W5.out.1.size), W5.out.2.1.trans (hb6.mono W5.out.2.1.size), own_below W5.out.2.2.1 hb6, own_mono o6 W5.out.2.1.size, fun g e1 e2 => by have h1 := (W5.out.2.2.1.lt g e1).2; have h2 := (o6.lt g e2).1; omega, own_below (own_below W4.out.2.1 W5.out.2.1) hb6⟩
  clear ce2 o6 hb6 y50 y51 y52 W5 EN
  -- the bytes are the document's
  have SB : Aside (∀ W av cv, Below w6.heap.size w6 W → Bytes W av zl Z → Calls Tryd.prog 16 #[.slice av zl cv, .slice a4 zl c4] W fun e w' => e = .returned (.bool true) ∧ Below W.heap.size W w') := fun W av cv hb h => by
    have h1 := samebytes_ok av a4 zl zl cv c4 Z Z W h (((own_bytes_any W6.out.2.2.2.2.2 MZ.out.2.2.2.1).1).below hb) (by have := MZ.out.2.2.2.2; omega)
    rw [decide_eq_true rfl] at h1
    exact h1
  have cs1 := SB.out w6 a5 c5 (Below.refl _ _) (own_bytes_any W6.out.2.2.1 MZ.out.2.2.2.1).1
  go_wp2_with fail
  refine cs1.mono ?_
  rintro e w7 ⟨rfl, hb7⟩
  have W7 : Aside (Below w6.heap.size w6 w7) := hb7
  clear cs1 hb7
  have cs2 := SB.out w7 a6 c6 W7.out ((own_bytes_any W6.out.2.2.2.1 MZ.out.2.2.2.1).1.below W7.out)
  go_wp2_with fail
  refine cs2.mono ?_
  rintro e w8 ⟨rfl, hb8⟩
  have W8 : Aside (Below w6.heap.size w6 w8 ∧ Below w3.heap.size w3 w8) := by
    have h1 : Below w6.heap.size w6 w8 := W7.out.trans (hb8.mono W7.out.size)
    exact ⟨h1, W6.out.1.trans (h1.mono W6.out.1.size)⟩
  clear cs2 hb8 W7 SB
  have z81 : w8.cell? ⟨w2.heap.size, 1, none⟩ = some (.slice (some ⟨g1, 0, none⟩) n q1) := (W3.out.2.2.1.keep W8.out.2).cell 1
  have z82 : w8.cell? ⟨w.heap.size, 1, none⟩ = some (.slice a n ca) := (W3.out.2.1.keep W8.out.2).cell 1
  have cst := stays_ok g1 n q1 a ca L HA.out.2.1 (by have := HA.out.2.2.1; omega) W3.out.2.2.2.2.2.2.2.2.2.1 w8 (W3.out.2.2.2.1.keep W8.out.2) (HA.out.2.2.2.1.keep (W3.out.1.trans (W8.out.2.mono W3.out.1.size))) (Nat.lt_of_lt_of_le W3.out.2.2.2.2.2.2.2.1 W8.out.2.size) ((W8.out.2.cell (p := ⟨g1, n, none⟩) W3.out.2.2.2.2.2.2.2.1).trans W3.out.2.2.2.2.2.1)
  go_wp2_with fail
  refine cst.mono ?_
  rintro e w9 ⟨rfl, hb9⟩
  have W9 : Aside (Below w6.heap.size w6 w9 ∧ Below w3.heap.size w3 w9) := ⟨W8.out.1.trans (hb9.mono W8.out.1.size), W8.out.2.trans (hb9.mono W8.out.2.size)⟩
  clear cst hb9 W8 z81 z82
  have z91 : w9.cell? ⟨w2.heap.size, 2, none⟩ = some (.slice (some ⟨g2, 0, none⟩) m q2) := (W3.out.2.2.1.keep W9.out.2).cell 2
  have z92 : w9.cell? ⟨w.heap.size, 2, none⟩ = some (.slice x m cx) := (W3.out.2.1.keep W9.out.2).cell 2
  have ckp := kept10_ok g2 m q2 x cx l (by have := HA.out.2.2.2.2.2.1; omega) W3.out.2.2.2.2.2.2.2.2.2.2 w9 (W3.out.2.2.2.2.1.below W9.out.2) (HA.out.2.2.2.2.2.2.1.below (W3.out.1.trans (W9.out.2.mono W3.out.1.size))) (Nat.lt_of_lt_of_le W3.out.2.2.2.2.2.2.2.2.1 W9.out.2.size) (range_below W3.out.2.2.2.2.2.2.1 W9.out.2 W3.out.2.2.2.2.2.2.2.2.1)
  go_wp2_with fail
  refine ckp.mono ?_
  rintro e w10 ⟨rfl, hb10⟩
  have PP : Aside (BPAIR w4 w10 w4.heap.size (.slice a5 zl c5) zl (CELLS Z) (.slice a6 zl c6) zl (CELLS Z) ∧ (CELLS Z).length = zl) := by
    have h1 : Below w6.heap.size w6 w10 := W9.out.1.trans (hb10.mono W9.out.1.size)
    refine ⟨⟨own_below W6.out.2.2.1 h1, own_below W6.out.2.2.2.1 h1, W6.out.2.2.2.2.1, W6.out.2.1.trans (h1.mono W6.out.2.1.size), Nat.le_refl _⟩, by rw [CELLS, List.length_map, MZ.out.2.2.1]⟩
  have B4 : Aside (Below w.heap.size w w4) := W3.out.1.trans (W4.out.1.mono W3.out.1.size)
  have HZ : Aside (zl ≤ 90000) := MZ.out.2.2.2.2
  clear ckp hb10 W9 z91 z92 W6 W4 W3 MZ MR HA
  go_wp2_with fail
  go_loopg [12] zl (fun q s12 wx => ∃ j : Nat, s12 = .int .i64 (j : Int) ∧ Aside (j + q = zl ∧ BPAIR w4 wx w4.heap.size (.slice a5 zl c5) zl (OVER (CELLS Z) (.int .u8 201) j) (.slice a6 zl c6) zl (OVER (CELLS Z) (.int .u8 202) j)))
  case atStart => exact ⟨0, rfl, by omega, by rw [OVER_zero, OVER_zero]; exact PP.out.1⟩
  case round =>
    obtain ⟨j, rfl, A⟩ := hrel
    cases gk with
    | succ q =>
      have hjn : j < zl := by have := A.out.1; omega
      have hlt : (j : Int) < (zl : Int) := by omega
      obtain ⟨ga, rfl⟩ := own_some A.out.2.ra (by omega)
      obtain ⟨gb, rfl⟩ := own_some A.out.2.rb (by omega)
      obtain ⟨⟨u1, y1⟩, f1, o1, r1⟩ := own_put8 (v := .int .u8 201) A.out.2.ra hjn
      have st1 := A.out.2.step o1 r1 (fun _ e => .inl e)
      obtain ⟨⟨u2, y2⟩, f2, o2, r2⟩ := own_put8 (v := .int .u8 202) st1.rb hjn
      have st2 := (st1.swap.step o2 r2 (fun _ e => .inl e)).swap
      have ej : wrap64 ((j : Int) + 1) = ((j + 1 : Nat) : Int) := by have := HZ.out; unfold wrap64; omega
      have S1 := OVER_next (u := .int .u8 201) (show j < (CELLS Z).length by have := PP.out.2; omega)
      have S2 := OVER_next (u := .int .u8 202) (show j < (CELLS Z).length by have := PP.out.2; omega)
      rw [S1, S2] at st2
      have ZZ : Aside (j + 1 + q = zl ∧ BPAIR w4 ((wr.setCell ⟨ga, j, none⟩ (.int .u8 201)).setCell ⟨gb, j, none⟩ (.int .u8 202)) w4.heap.size (.slice (some ⟨ga, 0, none⟩) zl c5) zl (OVER (CELLS Z) (.int .u8 201) (j + 1)) (.slice (some ⟨gb, 0, none⟩) zl c6) zl (OVER (CELLS Z) (.int .u8 202) (j + 1))) := ⟨by have := A.out.1; clear ej; omega, st2⟩
      clear A o1 r1 st1 o2 r2 st2 S1 S2 hjn
      go_wp2_with fail
      go_roundg q
      case measure => exact Nat.lt_succ_self _
      case rel => exact ⟨j + 1, by first | rfl | (rw [ej]), ZZ.out⟩
    | zero =>
      obtain rfl : j = zl := by have := A.out.1; omega
      have hlt : ¬ (j : Int) < (j : Int) := by omega
      have P1 : Aside (BPAIR w4 wr w4.heap.size (.slice a5 j c5) j (OVER (CELLS Z) (.int .u8 201) j) (.slice a6 j c6) j (OVER (CELLS Z) (.int .u8 202) j)) := A.out.2
      clear A
      go_wp2_with (first
        | (at_builtin; refine app_byte8 _ rfl (.tmp 102) (.tmp 103) rfl w4.heap.size (.slice a5 j c5) j _ rfl (P1.out.alloc _).ra wr.heap.size 1 201 rfl ((Has.new _ _ _).cell 0) (by have := HZ.out; omega) (by have := P1.out.bl.size; simp; omega) ?_; intro g11 c11 w11 ho11 hg11 hat11 hl11
           have P2 : Aside (BPAIR w4 w11 w4.heap.size (.slice (some ⟨g11, 0, none⟩) (j + 1) c11) (j + 1) (List.replicate (j + 1) (.int .u8 201)) (.slice a6 j c6) j (OVER (CELLS Z) (.int .u8 202) j)) := by
             have h1 := (P1.out.alloc (.cells #[.int .u8 201] 5)).step ho11 hg11 (fun g e => by have e : g11 = g := (by simpa [Value.ownBlock] using e); subst e; exact hat11.imp id (fun e => Nat.le_of_eq e.symm))
             rw [OVER_grow8 PP.out.2] at h1
             exact h1
           clear ho11 hg11 hat11 hl11 P1)
        | (at_builtin; refine app_byte8 _ rfl (.tmp 105) (.tmp 106) rfl w4.heap.size (.slice a6 j c6) j _ rfl (P2.out.alloc _).rb w11.heap.size 1 202 rfl ((Has.new _ _ _).cell 0) (by have := HZ.out; omega) (by have := P2.out.bl.size; simp; omega) ?_; intro g12 c12 w12 ho12 hg12 hat12 hl12
           have P3 : Aside (BPAIR w4 w12 w4.heap.size (.slice (some ⟨g11, 0, none⟩) (j + 1) c11) (j + 1) (List.replicate (j + 1) (.int .u8 201)) (.slice (some ⟨g12, 0, none⟩) (j + 1) c12) (j + 1) (List.replicate (j + 1) (.int .u8 202))) := by
             have h1 := ((P2.out.alloc (.cells #[.int .u8 202] 5)).swap.step ho12 hg12 (fun g e => by have e : g12 = g := (by simpa [Value.ownBlock] using e); subst e; exact hat12.imp id (fun e => Nat.le_of_eq e.symm))).swap
             rw [OVER_grow8 PP.out.2] at h1
             exact h1
           clear ho12 hg12 hat12 hl12 P2))
      go_loopg [13] (j + 1) (fun q s13 wx => ∃ t : Nat, s13 = .int .i64 (t : Int) ∧ Aside (t + q = j + 1) ∧ wx = w12)
      case atStart => exact ⟨0, rfl, by show 0 + (j + 1) = j + 1; omega, rfl⟩
      case round =>
        obtain ⟨t, rfl, A, rfl⟩ := hrel
        cases gk with
        | succ q =>
          have hlt3 : (t : Int) < (j : Int) + 1 := by have := A.out; omega
          have hltn : t < j + 1 := by have := A.out; omega
          have z1 : wr.cell? ⟨g11, t, none⟩ = some (.int .u8 201) := by
            have := P3.out.ra.cellAt t (by omega)
            rw [this, List.getElem?_replicate, if_pos hltn]
          have z2 : wr.cell? ⟨g12, t, none⟩ = some (.int .u8 202) := by
            have := P3.out.rb.cellAt t (by omega)
            rw [this, List.getElem?_replicate, if_pos hltn]
          have et : wrap64 ((t : Int) + 1) = ((t + 1 : Nat) : Int) := by have := HZ.out; unfold wrap64; omega
          have ZZ : Aside (t + 1 + q = j + 1) := by have := A.out; show t + 1 + q = j + 1; clear et; omega
          clear A hltn
          go_wp2_with fail
          go_roundg q
          case measure => exact Nat.lt_succ_self _
          case rel => exact ⟨t + 1, by first | rfl | (rw [et]), ZZ.out, rfl⟩
        | zero =>
          have ht : (t : Int) = (j : Int) + 1 := by have := A.out; omega
          have hlt3 : ¬ (t : Int) < (j : Int) + 1 := by omega
          have hlt4 : ¬ t < j + 1 := by omega
          have WB : Aside (Below w.heap.size w wr) := B4.out.trans (P3.out.bl.mono B4.out.size)
          clear A ht PP HZ P3 B4
          obtain ⟨wv, hwv⟩ : ∃ wv, wv = wr := ⟨_, rfl⟩
          rw [← hwv] at WB ⊢
          clear hwv
          obtain ⟨A, hA⟩ : ∃ A, MDC l2 = A := ⟨_, rfl⟩
          obtain ⟨d1, d2, d3⟩ := MDC_sub HB.out.1.2.2
          rw [hA] at d1 d2 d3
          have DD : Aside (MDC l2 = A ∧ (∀ x ∈ A.2.2.2, 0 ≤ x ∧ x ≤ 255) ∧ A.2.2.1.length ≤ 6400 ∧ A.2.2.2.length ≤ 6400) := ⟨hA, d1, by have := HB.out.1.1; have := HB.out.2.1; omega, by have := HB.out.1.1; have := HB.out.2.1; omega⟩
          clear d1 d2 d3
          have ct := text10_ok y k cy (by have := HB.out.2.1; omega) HB.out.2.2.1 l2 wv (HB.out.1.below WB.out)
          go_wp2_with fail
          refine ct.mono ?_
          rintro e w20 ⟨gc, qc, rfl, o20, r20, mk20, lt20, hb20⟩
          have W20 : Aside (Below w.heap.size w w20 ∧ w20.ownsRow wv.heap.size 5 1 (.slice (some ⟨gc, 0, none⟩) k qc) k (CELLS l2) ∧ k + 1 ≤ qc ∧ w20.cell? ⟨gc, k, none⟩ = some (.int .u8 171) ∧ gc < w20.heap.size ∧ wv.heap.size ≤ gc) := ⟨WB.out.trans (hb20.mono WB.out.size), o20, r20, mk20, lt20, (o20.lt gc rfl).1⟩
          have WR : Aside (w.heap.size ≤ wv.heap.size) := WB.out.size
          clear ct o20 r20 mk20 lt20 hb20 WB
          have cq := refdecode10_ok y k cy l2 w20 (HB.out.1.below W20.out.1) HB.out.2.2.2 (by have := HB.out.2.1; omega)
          rw [hA] at cq
          unfold DECM at cq
          obtain ⟨ML, hML⟩ : ∃ ML, A.2.2.1.length = ML := ⟨_, rfl⟩
          obtain ⟨SZ, hSZ⟩ : ∃ SZ, A.2.1 = SZ := ⟨_, rfl⟩
          obtain ⟨E2, hE2⟩ : ∃ E2, A.1 = E2 := ⟨_, rfl⟩
          rw [hML, hSZ, hE2] at cq
          have DC : Aside (∀ W, Below w20.heap.size w20 W → Calls Tryd.prog 20 #[.slice (some ⟨gc, 0, none⟩) k qc] W fun e w' => ∃ a c a2 K c2, e = .returned (.tuple #[.agg #[.int .u64 (SZ : Int), .slice a ML c, .slice a2 K c2], .int .i64 E2]) ∧ w'.ownsRow W.heap.size 23 1 (.slice a ML c) ML (UCELLS A.2.2.1) ∧ w'.ownsRow W.heap.size 57 32 (.slice a2 K c2) K (CELLS A.2.2.2) ∧ A.2.2.2.length = 32 * K ∧ Below W.heap.size W w') := fun W hb => by
            have hbw : Below w.heap.size w W := W20.out.1.trans (hb.mono W20.out.1.size)
            have h := manydecode_ok (some ⟨gc, 0, none⟩) k qc l2 W ((own_bytes W20.out.2.1 W20.out.2.2.2.2.1 HB.out.1.2.2).below hb) (by have := W20.out.2.2.1; omega) (by have := HB.out.2.1; omega) (tab.out W hbw).1 (tab.out W hbw).2
            rw [hA] at h
            unfold DECM at h
            rw [hML, hSZ, hE2] at h
            exact h
          have DL : Aside (A.2.2.1.length = ML) := hML
          clear hA hML hSZ hE2
          go_wp2_with fail
          refine cq.mono ?_
          rintro e w21 ⟨aq, kq, aq2, K, kq2, rfl, oq1, oq2, hK, hb21⟩
          clear cq
          go_upto_region 21 with fail
          obtain ⟨w22, e22⟩ : ∃ w22, w21.alloc (.cells #[.int .u64 (SZ : Int), .slice aq ML kq, .slice aq2 K kq2] 32) = w22 := ⟨_, rfl⟩
          rw [e22]
          have hb22 : Below w21.heap.size w21 w22 := by rw [← e22]; exact (Below.refl _ _).alloc (Nat.le_refl _) _
          have W22 : Aside (Below w20.heap.size w20 w22 ∧ NUML w22 aq A.2.2.1 ∧ Flat w22 aq2 K A.2.2.2 ∧ Has w22 w21.heap.size #[.int .u64 (SZ : Int), .slice aq ML kq, .slice aq2 K kq2] 32 ∧ A.2.2.2.length = 32 * K ∧ K ≤ 200 ∧ w20.heap.size ≤ w21.heap.size ∧ w22.ownsRow w20.heap.size 23 1 (.slice aq ML kq) ML (UCELLS A.2.2.1) ∧ w22.ownsRow w20.heap.size 57 32 (.slice aq2 K kq2) K (CELLS A.2.2.2)) := ⟨hb21.trans (hb22.mono hb21.size), (own_lies oq1 DL.out).keep hb22, (own_flat oq2 DD.out.2.1).below hb22, by rw [← e22]; exact Has.new w21 _ _, hK, by have := DD.out.2.2.2; omega, hb21.size, own_below oq1 hb22, own_below oq2 hb22⟩
          clear oq1 oq2 hb21 hb22 e22 hK
          have cd1 := DC.out w22 W22.out.1
          go_wp2_with fail
          refine cd1.mono ?_
          rintro e w23 ⟨ar, kr, ar2, K1, kr2, rfl, or1, or2, hK1, hb23⟩
          obtain rfl : K1 = K := by have := W22.out.2.2.2.2.1; omega
          clear cd1 hK1
          go_upto_region 22 with fail
          obtain ⟨w24, e24⟩ : ∃ w24, w23.alloc (.cells #[.int .u64 (SZ : Int), .slice ar ML kr, .slice ar2 K1 kr2] 32) = w24 := ⟨_, rfl⟩
          rw [e24]
          have hb24 : Below w23.heap.size w23 w24 := by rw [← e24]; exact (Below.refl _ _).alloc (Nat.le_refl _) _
          have b224 : Below w22.heap.size w22 w24 := hb23.trans (hb24.mono hb23.size)
          have W24 : Aside (Below w22.heap.size w22 w24 ∧ w24.ownsRow w22.heap.size 23 1 (.slice ar ML kr) ML (UCELLS A.2.2.1) ∧ w24.ownsRow w22.heap.size 57 32 (.slice ar2 K1 kr2) K1 (CELLS A.2.2.2) ∧ Has w24 w23.heap.size #[.int .u64 (SZ : Int), .slice ar ML kr, .slice ar2 K1 kr2] 32 ∧ w22.heap.size ≤ w23.heap.size) := ⟨b224, own_below or1 hb24, own_below or2 hb24, by rw [← e24]; exact Has.new w23 _ _, hb23.size⟩
          clear or1 or2 hb23 hb24 e24 b224
          have b204 : Below w20.heap.size w20 w24 := W22.out.1.trans (W24.out.1.mono W22.out.1.size)
          have cd2 := DC.out w24 b204
          go_wp2_with fail
          refine cd2.mono ?_
          rintro e w25 ⟨az, ks, az2, K2, ks2, rfl, os1, os2, hK2, hb25⟩
          obtain rfl : K2 = K1 := by have := W22.out.2.2.2.2.1; omega
          clear cd2 hK2 DC
          go_upto_region 23 with fail
          obtain ⟨w26, e26⟩ : ∃ w26, w25.alloc (.cells #[.int .u64 (SZ : Int), .slice az ML ks, .slice az2 K2 ks2] 32) = w26 := ⟨_, rfl⟩
          rw [e26]
          have hb26 : Below w25.heap.size w25 w26 := by rw [← e26]; exact (Below.refl _ _).alloc (Nat.le_refl _) _
          have b246 : Below w24.heap.size w24 w26 := hb25.trans (hb26.mono hb25.size)
          have sz24 := W24.out.1.size
          have W26 : Aside (Below w22.heap.size w22 w26 ∧ w26.ownsRow w22.heap.size 23 1 (.slice ar ML kr) ML (UCELLS A.2.2.1) ∧ w26.ownsRow w22.heap.size 57 32 (.slice ar2 K2 kr2) K2 (CELLS A.2.2.2) ∧ w26.ownsRow w22.heap.size 23 1 (.slice az ML ks) ML (UCELLS A.2.2.1) ∧ w26.ownsRow w22.heap.size 57 32 (.slice az2 K2 ks2) K2 (CELLS A.2.2.2) ∧ Has w26 w23.heap.size #[.int .u64 (SZ : Int), .slice ar ML kr, .slice ar2 K2 kr2] 32 ∧ Has w26 w25.heap.size #[.int .u64 (SZ : Int), .slice az ML ks, .slice az2 K2 ks2] 32 ∧ APT (.slice ar ML kr) (.slice az ML ks) (.slice ar2 K2 kr2) (.slice az2 K2 ks2) ∧ w22.heap.size ≤ w25.heap.size ∧ w22.heap.size ≤ w23.heap.size) := by
            have r1 := own_below W24.out.2.1 b246
            have r2 := own_below W24.out.2.2.1 b246
            have s1 := own_mono (own_below os1 hb26) sz24
            have s2 := own_mono (own_below os2 hb26) sz24
            refine ⟨W24.out.1.trans (b246.mono sz24), r1, r2, s1, s2, W24.out.2.2.2.1.keep b246, by rw [← e26]; exact Has.new w25 _ _, ⟨fun g e1 e2 => ?_, own_types r1 r2, own_types r1 s2, own_types s1 r2, own_types s1 s2, fun g e1 e2 => ?_⟩, Nat.le_trans sz24 hb25.size, W24.out.2.2.2.2⟩
            · have h1 := (W24.out.2.1.lt g e1).2
              have h2 := (os1.lt g e2).1
              omega
            · have h1 := (W24.out.2.2.1.lt g e1).2
              have h2 := (os2.lt g e2).1
              omega
          clear os1 os2 hb25 hb26 e26 b246 b204 sz24 W24
          have Q26 : Aside (∀ W, Below w26.heap.size w26 W → (W.cell? ⟨w21.heap.size, 0, none⟩ = some (.int .u64 (SZ : Int)) ∧ W.cell? ⟨w21.heap.size, 1, none⟩ = some (.slice aq ML kq) ∧ W.cell? ⟨w21.heap.size, 2, none⟩ = some (.slice aq2 K2 kq2)) ∧ (W.cell? ⟨w23.heap.size, 0, none⟩ = some (.int .u64 (SZ : Int)) ∧ W.cell? ⟨w23.heap.size, 1, none⟩ = some (.slice ar ML kr) ∧ W.cell? ⟨w23.heap.size, 2, none⟩ = some (.slice ar2 K2 kr2)) ∧ (W.cell? ⟨w25.heap.size, 0, none⟩ = some (.int .u64 (SZ : Int)) ∧ W.cell? ⟨w25.heap.size, 1, none⟩ = some (.slice az ML ks) ∧ W.cell? ⟨w25.heap.size, 2, none⟩ = some (.slice az2 K2 ks2))) := fun W hb => by
            have b := W26.out.1.trans (hb.mono W26.out.1.size)
            have hq := W22.out.2.2.2.1.keep b
            have hr := W26.out.2.2.2.2.2.1.keep hb
            have hs := W26.out.2.2.2.2.2.2.1.keep hb
            exact ⟨⟨hq.cell 0, hq.cell 1, hq.cell 2⟩, ⟨hr.cell 0, hr.cell 1, hr.cell 2⟩, ⟨hs.cell 0, hs.cell 1, hs.cell 2⟩⟩
          have SA : Aside (∀ W av cv av2 cv2, Below w22.heap.size w22 W → NUML W av A.2.2.1 → Flat W av2 K2 A.2.2.2 → Calls Tryd.prog 21 #[.agg #[.int .u64 (SZ : Int), .slice av ML cv, .slice av2 K2 cv2], .agg #[.int .u64 (SZ : Int), .slice aq ML kq, .slice aq2 K2 kq2]] W fun e w' => e = .returned (.bool true) ∧ Below W.heap.size W w') := fun W av cv av2 cv2 hb h1 h2 => same10_ok (SZ : Int) av aq ML cv kq A.2.2.1 av2 aq2 K2 K2 cv2 kq2 A.2.2.2 DL.out (by have := DL.out; have := DD.out.2.2.1; omega) W h1 (W22.out.2.1.keep hb) h2 (W22.out.2.2.1.below hb) (by have := W22.out.2.2.2.2.2.1; omega)
          obtain ⟨⟨p0, p1, p2⟩, ⟨p3, p4, p5⟩, _⟩ := Q26.out w26 (Below.refl _ _)
          have cs1 := SA.out w26 ar kr ar2 kr2 W26.out.1 (own_lies W26.out.2.1 DL.out) (own_flat W26.out.2.2.1 DD.out.2.1)
          go_wp2_with fail
          refine cs1.mono ?_
          rintro e w27 ⟨rfl, hb27⟩
          have B27 : Aside (Below w26.heap.size w26 w27) := hb27
          clear cs1 hb27 p0 p1 p2 p3 p4 p5
          obtain ⟨⟨p0, p1, p2⟩, _, ⟨p3, p4, p5⟩⟩ := Q26.out w27 B27.out
          have cs2 := SA.out w27 az ks az2 ks2 (W26.out.1.trans (B27.out.mono W26.out.1.size)) ((own_lies W26.out.2.2.2.1 DL.out).keep B27.out) ((own_flat W26.out.2.2.2.2.1 DD.out.2.1).below B27.out)
          go_wp2_with fail
          refine cs2.mono ?_
          rintro e w28 ⟨rfl, hb28⟩
          have B28 : Aside (Below w26.heap.size w26 w28 ∧ Below w20.heap.size w20 w28) := by
            have h1 : Below w26.heap.size w26 w28 := B27.out.trans (hb28.mono B27.out.size)
            have h2 : Below w22.heap.size w22 w28 := W26.out.1.trans (h1.mono W26.out.1.size)
            exact ⟨h1, W22.out.1.trans (h2.mono W22.out.1.size)⟩
          clear cs2 hb28 B27 p0 p1 p2 p3 p4 p5
          have csl := still10_ok gc k qc y cy l2 (by have := HB.out.2.1; omega) W20.out.2.2.1 w28 ((own_bytes W20.out.2.1 W20.out.2.2.2.2.1 HB.out.1.2.2).below B28.out.2) (HB.out.1.below (W20.out.1.trans (B28.out.2.mono W20.out.1.size))) (Nat.lt_of_lt_of_le W20.out.2.2.2.2.1 B28.out.2.size) ((B28.out.2.cell (p := ⟨gc, k, none⟩) W20.out.2.2.2.2.1).trans W20.out.2.2.2.1)
          go_wp2_with fail
          refine csl.mono ?_
          rintro e w29 ⟨rfl, hb29⟩
          have B29 : Aside (Below w26.heap.size w26 w29 ∧ Below w20.heap.size w20 w29) := ⟨B28.out.1.trans (hb29.mono B28.out.1.size), B28.out.2.trans (hb29.mono B28.out.2.size)⟩
          clear csl hb29 B28
          go_wp2_with fail
          go_loopg [21] k (fun q s21 wx => ∃ t : Nat, s21 = .int .i64 (t : Int) ∧ Aside (t + q = k ∧ wx.ownsRow wv.heap.size 5 1 (.slice (some ⟨gc, 0, none⟩) k qc) k (INCB l2 t) ∧ w29.grownBy wx (some gc)))
          case atStart => exact ⟨0, rfl, by omega, by rw [INCB_zero]; exact own_below W20.out.2.1 B29.out.2, grown_refl _ _⟩
          case round =>
            obtain ⟨t, rfl, AA⟩ := hrel
            cases gk with
            | succ q =>
              have htk : t < k := by have := AA.out.1; omega
              have hltk : (t : Int) < (k : Int) := by omega
              obtain ⟨xb, exb⟩ : ∃ xb, l2[t]? = some xb := ⟨_, List.getElem?_eq_getElem (by have := HB.out.1.1; omega)⟩
              obtain ⟨n1, n2⟩ := INCB_at exb
              have hxb := HB.out.1.2.2 xb (List.mem_of_getElem? exb)
              have v0 := AA.out.2.1.cellAt t (by omega)
              rw [n1] at v0
              have v1 := AA.out.2.1.frozenAt t
              have ex1 : IntKind.u8.wrap (xb + 1) = (xb + 1) % 256 := rfl
              have et : wrap64 ((t : Int) + 1) = ((t + 1 : Nat) : Int) := by have := HB.out.2.1; unfold wrap64; omega
              obtain ⟨o1, r1⟩ := AA.out.2.1.stored t (.int .u8 ((xb + 1) % 256))
              rw [n2] at o1
              have ZZ : Aside (t + 1 + q = k ∧ (wr.setCell ⟨gc, t, none⟩ (.int .u8 ((xb + 1) % 256))).ownsRow wv.heap.size 5 1 (.slice (some ⟨gc, 0, none⟩) k qc) k (INCB l2 (t + 1)) ∧ w29.grownBy (wr.setCell ⟨gc, t, none⟩ (.int .u8 ((xb + 1) % 256))) (some gc)) := ⟨by have := AA.out.1; clear et; omega, o1, grown_trans AA.out.2.2 r1 (.inl rfl)⟩
              clear AA n1 n2 exb hxb o1 r1 htk
              generalize (xb + 1) % 256 = xc at *
              go_wp2_with fail
              go_roundg q
              case measure => exact Nat.lt_succ_self _
              case rel => exact ⟨t + 1, by first | rfl | (rw [et]), ZZ.out⟩
            | zero =>
              obtain rfl : t = k := by have := AA.out.1; omega
              have hltk : ¬ (t : Int) < (t : Int) := by omega
              have KP : Aside (∀ g, g ≠ gc → g < w29.heap.size → wr.heap[g]? = w29.heap[g]?) := fun g hne hlt => AA.out.2.2.block g hlt (fun e => hne (by simpa using e))
              have hgc : gc < w20.heap.size := W20.out.2.2.2.2.1
              have sz29 : w26.heap.size ≤ w29.heap.size := B29.out.1.size
              have sz26 : w22.heap.size ≤ w26.heap.size := W26.out.1.size
              have sz22 : w20.heap.size ≤ w22.heap.size := W22.out.1.size
              have hfull : Below wv.heap.size w29 wr := (Below.refl _ w29).grown AA.out.2.2 (by have := W20.out.2.2.2.2.2; omega) (fun k e => by have e : gc = k := (by simpa using e); have := W20.out.2.2.2.2.2; omega)
              have BW : Aside (Below w.heap.size w wr) := by
                have h1 : Below w.heap.size w w29 := W20.out.1.trans (B29.out.2.mono W20.out.1.size)
                exact h1.trans (hfull.mono WR.out)
              have HH : ∀ {g : Nat} {C : Array Value} {tt : TypeId}, Has w29 g C tt → g ≠ gc → Has wr g C tt := fun h hne => (KP.out _ hne h.lt).trans h
              have hq := HH ((W22.out.2.2.2.1.keep W26.out.1).keep B29.out.1) (by have := W22.out.2.2.2.2.2.2.1; omega)
              have hr := HH (W26.out.2.2.2.2.2.1.keep B29.out.1) (by have := W26.out.2.2.2.2.2.2.2.2.2; omega)
              have hs := HH (W26.out.2.2.2.2.2.2.1.keep B29.out.1) (by have := W26.out.2.2.2.2.2.2.2.2.1; omega)
              have OH : ∀ {B s n : Nat} {t : TypeId} {v : Value} {xs : List Value}, w29.ownsRow B t s v n xs → gc < B → wr.ownsRow B t s v n xs := fun h hlt => own_hold h fun k e => KP.out k (by have := (h.lt k e).1; omega) (h.lt k e).2
              have oq1 := OH (own_below (own_below W22.out.2.2.2.2.2.2.2.1 W26.out.1) B29.out.1) hgc
              have oq2 := OH (own_below (own_below W22.out.2.2.2.2.2.2.2.2 W26.out.1) B29.out.1) hgc
              have or1 := OH (own_below W26.out.2.1 B29.out.1) (by omega)
              have or2 := OH (own_below W26.out.2.2.1 B29.out.1) (by omega)
              have os1 := OH (own_below W26.out.2.2.2.1 B29.out.1) (by omega)
              have os2 := OH (own_below W26.out.2.2.2.2.1 B29.out.1) (by omega)
              have szr : w22.heap.size ≤ wr.heap.size := by have := AA.out.2.2.size; omega
              have bml : ML ≤ 6400 ∧ K2 ≤ 200 := ⟨by have := DL.out; have := DD.out.2.2.1; have := HB.out.2.1; omega, W22.out.2.2.2.2.2.1⟩
              have cs := same10_ok (SZ : Int) ar aq ML kr kq A.2.2.1 ar2 aq2 K2 K2 kr2 kq2 A.2.2.2 DL.out (by omega) wr (own_lies or1 DL.out) (own_lies oq1 DL.out) (own_flat or2 DD.out.2.1) (own_flat oq2 DD.out.2.1) (by omega)
              have sz0 : w.heap.size ≤ w22.heap.size := by have := W20.out.1.size; omega
              have PW : Aside (w22.heap.size ≤ wr.heap.size ∧ Has wr w23.heap.size #[.int .u64 (SZ : Int), .slice ar ML kr, .slice ar2 K2 kr2] 32 ∧ Has wr w25.heap.size #[.int .u64 (SZ : Int), .slice az ML ks, .slice az2 K2 ks2] 32 ∧ wr.ownsRow w22.heap.size 23 1 (.slice ar ML kr) ML (UCELLS A.2.2.1) ∧ wr.ownsRow w22.heap.size 23 1 (.slice az ML ks) ML (UCELLS A.2.2.1) ∧ wr.ownsRow w22.heap.size 57 32 (.slice ar2 K2 kr2) K2 (CELLS A.2.2.2) ∧ wr.ownsRow w22.heap.size 57 32 (.slice az2 K2 ks2) K2 (CELLS A.2.2.2) ∧ APT (.slice ar ML kr) (.slice az ML ks) (.slice ar2 K2 kr2) (.slice az2 K2 ks2) ∧ ML ≤ 6400 ∧ K2 ≤ 200 ∧ w.heap.size ≤ w22.heap.size) := ⟨szr, hr, hs, or1, os1, or2, os2, W26.out.2.2.2.2.2.2.2.1, bml.1, bml.2, sz0⟩
              have p0 := hq.cell 0
              have p1 := hq.cell 1
              have p2 := hq.cell 2
              have p3 := hr.cell 0
              have p4 := hr.cell 1
              have p5 := hr.cell 2
              clear AA KP hgc sz29 sz26 sz22 hfull HH hq hr hs OH oq1 oq2 or1 or2 os1 os2 szr bml sz0 W20 W22 W26 B29 Q26 SA DD DL
              go_wp2_with fail
              refine cs.mono ?_
              rintro e w30 ⟨rfl, hb30⟩
              have W30 : Aside (Below wr.heap.size wr w30) := hb30
              clear cs hb30 p0 p1 p2 p3 p4 p5
              have cap := apart_ok (SZ : Int) (SZ : Int) ar az ar2 az2 ML K2 kr ks kr2 ks2 w22.heap.size _ _ _ _ w30 (Nat.le_trans PW.out.1 W30.out.size) (own_below PW.out.2.2.2.1 W30.out) (own_below PW.out.2.2.2.2.1 W30.out) (own_below PW.out.2.2.2.2.2.1 W30.out) (own_below PW.out.2.2.2.2.2.2.1 W30.out) PW.out.2.2.2.2.2.2.2.1 (by have := PW.out.2.2.2.2.2.2.2.2.1; omega) (by have := PW.out.2.2.2.2.2.2.2.2.2.1; omega)
              have p0 := (PW.out.2.1.keep W30.out).cell 0
              have p1 := (PW.out.2.1.keep W30.out).cell 1
              have p2 := (PW.out.2.1.keep W30.out).cell 2
              have p3 := (PW.out.2.2.1.keep W30.out).cell 0
              have p4 := (PW.out.2.2.1.keep W30.out).cell 1
              have p5 := (PW.out.2.2.1.keep W30.out).cell 2
              go_wp2_with fail
              refine cap.mono ?_
              rintro e w31 ⟨rfl, hb31, _⟩
              have W31 : Aside (Below w.heap.size w w31) := (BW.out.trans (W30.out.mono BW.out.size)).trans (hb31.mono PW.out.2.2.2.2.2.2.2.2.2.2)
              clear cap hb31 p0 p1 p2 p3 p4 p5
              have caw := awake10_ok w31 (tab.out w31 W31.out).1 (tab.out w31 W31.out).2
              go_wp2_with fail
              refine caw.mono ?_
              rintro e w32 ⟨rfl, hb32⟩
              have W32 : Aside (Below w.heap.size w w32) := W31.out.trans (hb32.mono W31.out.size)
              clear caw hb32
              go_wp2_with fail
              go_ret
              exact ⟨rfl, W32.out⟩
theorem manyBytes_walk (N : Nat) (a : Option Addr) (n ca : Nat) (L : List Nat) (x : Option Addr) (m cx : Nat) (l : List Int) (y : Option Addr) (k cy : Nat) (l2 : List Int) (w : World) (hN : N < 2 ^ 64) (hl : L.length = n) (hc : a = none → ca = 0) (hL : NUML w a L) (hx : ∀ x ∈ L, x < 2 ^ 64) (hcx : x = none → cx = 0) (hF : Flat w x m l) (hB : Bytes w y k l2) (hcy : y = none → cy = 0) (hky : k ≤ cy) (hT : Tabled w) (h0 : 0 < w.heap.size) :
    Calls Tryd.prog 4 #[.agg #[.int .u64 (N : Int), .slice a n ca, .slice x m cx], .slice y k cy] w fun e w' => e = .returned (.bool true) ∧ Below w.heap.size w w' := by
  by_cases h : n ≤ 200 ∧ m ≤ 200 ∧ k ≤ 6400
  · exact bytes_core N a n ca L x m cx l y k cy l2 w hN hl h.1 hc hL hx h.2.1 hcx hF hB h.2.2 hcy hky hT h0
  · exact bytes_long N a n ca x m cx y k cy w (by omega)
end Go.Proofs.YtmpaifkjlhodpaaDoor
