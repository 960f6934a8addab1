/- The law NumRounds: walked. -/
import Derived.Test.YtlklnljgmkagoabNumLongPlain
import Derived.Deep.RegionHeld3
namespace Go.Proofs.Ytlklnljgmkagoab
open Go.RowKit

theorem IsRow.cap {w : World} {a : Option Addr} {n c : Nat} {zs : List Int} (h : IsRow .u8 w a n c zs) : (a = none → c = 0) ∧ n ≤ c := by
  rcases h with ⟨_, rfl, rfl, _⟩ | ⟨x, rfl, hl, _⟩
  · exact ⟨fun _ => rfl, Nat.le_refl _⟩
  · exact ⟨fun h => (by cases h), hl⟩
/-- the n lowest bytes of X, the highest first. -/
def BLIST (X : Nat) : Nat → List Int
  | 0 => []
  | n + 1 => BLIST (X / 256) n ++ [((X % 256 : Nat) : Int)]
theorem BLIST_length : ∀ (n X : Nat), (BLIST X n).length = n
  | 0, _ => rfl
  | n + 1, X => by simp [BLIST, BLIST_length n]
theorem BLIST_range : ∀ (n X : Nat), ∀ y ∈ BLIST X n, 0 ≤ y ∧ y ≤ 255
  | 0, _, y, h => by simp [BLIST] at h
  | n + 1, X, y, h => by
    simp only [BLIST, List.mem_append, List.mem_singleton] at h
    rcases h with h | rfl
    · exact BLIST_range n _ y h
    · omega
theorem BLIST_val : ∀ (n X : Nat), BIGV (BLIST X n) = ((X % 256 ^ n : Nat) : Int)
  | 0, X => by simp [BLIST, BIGV, Nat.mod_one]
  | n + 1, X => by
    rw [BLIST, BIGV_snoc, BLIST_val n, Nat.pow_succ, Nat.mul_comm (256 ^ n), Nat.mod_mul]
    generalize X / 256 % 256 ^ n = y
    omega
theorem big_list (X : Nat) (hX : X < 2 ^ 64) : ∃ l : List Int, l.length = 8 ∧ (∀ y ∈ l, 0 ≤ y ∧ y ≤ 255) ∧ (∀ i, i < 8 → BYTE X 8 i = l.getD i 0) ∧ BIGV l = (X : Int) := by
  have hv : BIGV (BLIST X 8) = (X : Int) := by rw [BLIST_val, Nat.mod_eq_of_lt (Nat.lt_of_lt_of_le hX (by decide))]
  refine ⟨BLIST X 8, BLIST_length 8 X, BLIST_range 8 X, fun i hi => ?_, hv⟩
  have := BIGV_byte (BLIST X 8) (BLIST_range 8 X) X hv i (by rw [BLIST_length]; exact hi)
  rw [BLIST_length] at this
  exact this
theorem bytes_take {w : World} {a : Option Addr} {n k : Nat} {l : List Int} (h : Bytes w a n l) (hk : k ≤ n) : Bytes w a k (l.take k) := by
  refine ⟨by rw [List.length_take, h.1]; omega, fun hk0 => ?_, fun y hy => h.2.2 y (List.mem_of_mem_take hy)⟩
  obtain ⟨b, off, e, hl, hc⟩ := h.2.1 (by omega)
  refine ⟨b, off, e, hl, fun i hi => ?_⟩
  rw [hc i (by omega)]
  congr 2
  simp [List.getD_eq_getElem?_getD, hi]

set_option maxHeartbeats 2000000 in
theorem numRounds_bad (x z k f : Int) (K n1 c1 n2 c2 : Nat) (S l1 l2 : List Int) (a1 a2 : Option Addr) (F : Nat → Int) (w : World) (hf : (f == 0) = false)
    (cS : ∀ w, Calls Try.prog 8 #[.int .u64 x] w fun e w' => ∃ g cap, e = .returned (.slice (some ⟨g, 0, none⟩) K cap) ∧ w'.ownsRow w.heap.size 5 1 (.slice (some ⟨g, 0, none⟩) K cap) K (CELLS S) ∧ g < w'.heap.size ∧ Below w.heap.size w w')
    (hS : Aside (∀ y ∈ S, 0 ≤ y ∧ y ≤ 255)) (hK1 : 1 ≤ (K : Int)) (hK10 : (K : Int) ≤ 10)
    (HB1 : Aside (Bytes w a1 n1 l1 ∧ (a1 = none → c1 = 0) ∧ n1 ≤ 140737488351232)) (HB2 : Aside (Bytes w a2 n2 l2 ∧ (a2 = none → c2 = 0) ∧ n2 ≤ 140737488351232 ∧ n2 ≤ c2))
    (cL1 : Aside (∀ w a c, Bytes w a (K + n1) (S ++ l1) → K + n1 ≤ c → Calls Try.prog 9 #[.slice a (K + n1) c] w fun e w' => e = .returned (.tuple #[.int .u64 x, .int .i64 (K : Int), .int .i64 0]) ∧ w = w'))
    (cL2 : Aside (∀ w a c, Bytes w a n2 l2 → n2 ≤ c → Calls Try.prog 9 #[.slice a n2 c] w fun e w' => e = .returned (.tuple #[.int .u64 z, .int .i64 k, .int .i64 f]) ∧ w = w'))
    (cB : ∀ w, Calls Try.prog 11 #[.int .u64 x, .int .i64 8] w fun e w' => e = .returned (.tuple #[.slice (some ⟨w.heap.size, 0, none⟩) 8 8, .int .i64 0]) ∧ w.alloc (.cells (BARR 8 F) 5) = w')
    (cF : Aside (∀ w : World, Calls Try.prog 12 #[.slice (some ⟨w.heap.size, 0, none⟩) 8 8] (w.alloc (.cells (BARR 8 F) 5)) fun e w' => e = .returned (.tuple #[.int .u64 x, .int .i64 0]) ∧ w.alloc (.cells (BARR 8 F) 5) = w')) :
    Calls Try.prog 3 #[.int .u64 x, .slice a1 n1 c1, .slice a2 n2 c2] w fun e w' => e = .returned (.bool true) ∧ Below w.heap.size w w' := by
  go_enter Try.func3, Try.ntmps3
  go_wp2_with fail
  refine (cS _).mono ?_
  rintro e w1 ⟨g, cap, rfl, hown1, hg1, hb1⟩
  have HW1 : Aside (Bytes w1 (some ⟨g, 0, none⟩) K S ∧ Below w.heap.size w w1) := ⟨own_bytes hown1 hg1 hS.out, hb1⟩
  clear hown1 hg1 hb1
  have E1 : Below w1.heap.size w1 (w1.alloc (.cells #[] 5)) := (Below.refl _ _).alloc (Nat.le_refl _) _
  have HE1 : Aside (Bytes (w1.alloc (.cells #[] 5)) (some ⟨g, 0, none⟩) K S) := HW1.out.1.below E1
  have HE2 : Aside (∀ w2, (w1.alloc (.cells #[] 5)).grownBy w2 (some w1.heap.size) → Below w1.heap.size w1 w2) := fun w2 h => E1.grown h (by simp) (fun k e => by cases e; exact Nat.le_refl _)
  have HE3 : Aside (∀ w2, Below w1.heap.size w1 w2 → Bytes w2 a1 n1 l1) := fun w2 h => (HB1.out.1.below HW1.out.2).below h
  clear E1
  go_wp2_with (first | (at_builtin; refine app_any _ rfl (.tmp 21) (.tmp 22) rfl w1.heap.size _ 0 [] rfl (own_empty w1 _ (Nat.le_refl _)) (some ⟨g, 0, none⟩) K cap S rfl HE1.out (fun h => by cases h) K S (by omega) rfl (by omega) (by simp) ?_; intro a3 c3 w2 hown2 hgrow2) | (at_builtin; refine app_any _ rfl (.tmp 23) (.tmp 24) rfl w1.heap.size (.slice a3 K c3) K S rfl hown2 a1 n1 c1 l1 rfl (HE3.out _ (HE2.out _ hgrow2)) HB1.out.2.1 (K + n1) (S ++ l1) rfl rfl (by have := HB1.out.2.2; omega) (by have := (HE2.out _ hgrow2).size; omega) ?_; intro a4 c4 w3 hown3 hgrow3))
  have hb13 : Below w1.heap.size w1 w3 := (HE2.out _ hgrow2).grown hgrow3 (HE2.out _ hgrow2).size (fun k e => (hown2.lt k e).1)
  have hb3 : Below w.heap.size w w3 := HW1.out.2.trans (hb13.mono HW1.out.2.size)
  have hby3 := own_bytes_any hown3 (fun y hy => by
    rcases List.mem_append.1 hy with h | h
    · exact hS.out y h
    · exact HB1.out.1.2.2 y h)
  have HB3 : Aside (Below w.heap.size w w3) := hb3
  have HL1 := cL1.out w3 a4 c4 hby3.1 hby3.2
  clear hown2 hgrow2 hown3 hgrow3 hb13 hb3 hby3 HE1 HE2 HE3
  refine HL1.mono ?_
  clear HL1
  rintro e w' ⟨rfl, rfl⟩
  have E1 : Below w3.heap.size w3 (w3.alloc (.cells #[] 5)) := (Below.refl _ _).alloc (Nat.le_refl _) _
  have HE1 : Aside (Bytes (w3.alloc (.cells #[] 5)) a2 n2 l2) := (HB2.out.1.below HB3.out).below E1
  have HE2 : Aside (∀ w4, (w3.alloc (.cells #[] 5)).grownBy w4 (some w3.heap.size) → Below w3.heap.size w3 w4) := fun w4 h => E1.grown h (by simp) (fun k e => by cases e; exact Nat.le_refl _)
  clear E1
  go_wp2_with (at_builtin; refine app_any _ rfl (.tmp 52) (.tmp 53) rfl w3.heap.size _ 0 [] rfl (own_empty w3 _ (Nat.le_refl _)) a2 n2 c2 l2 rfl HE1.out HB2.out.2.1 n2 l2 (by omega) rfl (by have := HB2.out.2.2.1; omega) (by simp) ?_; intro a5 c5 w4 hown4 hgrow4)
  have hb4 : Below w.heap.size w w4 := HB3.out.trans ((HE2.out _ hgrow4).mono HB3.out.size)
  have hby4 := own_bytes_any hown4 HB2.out.1.2.2
  have HB4 : Aside (Below w.heap.size w w4) := hb4
  have HL2 := cL2.out w4 a5 c5 hby4.1 hby4.2
  clear hown4 hgrow4 hb4 hby4 HE1 HE2
  refine HL2.mono ?_
  clear HL2
  rintro e w' ⟨rfl, rfl⟩
  go_wp2_with fail
  go_quiet (fail)
  go_wp2_with fail
  refine (cB _).mono ?_
  rintro e w5 ⟨rfl, rfl⟩
  go_wp2_with fail
  refine (cF.out _).mono ?_
  rintro e w5 ⟨rfl, rfl⟩
  go_wp2_with fail
  refine (awake_ok _).mono ?_
  rintro e w6 ⟨rfl, hg, hb⟩
  go_wp2
  go_ret
  refine ⟨rfl, ?_⟩
  have h5 := (below_drewN HB4.out nq).alloc (below_drewN HB4.out nq).size (.cells (BARR 8 F) 5)
  exact h5.trans (hb.mono h5.size)

set_option maxHeartbeats 1000000 in
theorem numRounds_good (x z : Int) (K n1 c1 n2 c2 kk b off : Nat) (S l1 l2 : List Int) (a1 : Option Addr) (F : Nat → Int) (w : World) (hk1 : 1 ≤ (kk : Int)) (hk2 : (kk : Int) ≤ (n2 : Int)) (hn2c : (n2 : Int) ≤ (c2 : Int))
    (cS : ∀ w, Calls Try.prog 8 #[.int .u64 x] w fun e w' => ∃ g cap, e = .returned (.slice (some ⟨g, 0, none⟩) K cap) ∧ w'.ownsRow w.heap.size 5 1 (.slice (some ⟨g, 0, none⟩) K cap) K (CELLS S) ∧ g < w'.heap.size ∧ Below w.heap.size w w')
    (hS : Aside (∀ y ∈ S, 0 ≤ y ∧ y ≤ 255)) (hK1 : 1 ≤ (K : Int)) (hK10 : (K : Int) ≤ 10)
    (HB1 : Aside (Bytes w a1 n1 l1 ∧ (a1 = none → c1 = 0) ∧ n1 ≤ 140737488351232)) (HB2 : Aside (Bytes w (some (⟨b, off, none⟩ : Addr)) n2 l2 ∧ ((some (⟨b, off, none⟩ : Addr)) = none → c2 = 0) ∧ n2 ≤ 140737488351232 ∧ n2 ≤ c2))
    (cL1 : Aside (∀ w a c, Bytes w a (K + n1) (S ++ l1) → K + n1 ≤ c → Calls Try.prog 9 #[.slice a (K + n1) c] w fun e w' => e = .returned (.tuple #[.int .u64 x, .int .i64 (K : Int), .int .i64 0]) ∧ w = w'))
    (cL2 : Aside (∀ w a c, Bytes w a n2 l2 → n2 ≤ c → Calls Try.prog 9 #[.slice a n2 c] w fun e w' => e = .returned (.tuple #[.int .u64 z, .int .i64 (kk : Int), .int .i64 0]) ∧ w = w'))
    (cB : ∀ w, Calls Try.prog 11 #[.int .u64 x, .int .i64 8] w fun e w' => e = .returned (.tuple #[.slice (some ⟨w.heap.size, 0, none⟩) 8 8, .int .i64 0]) ∧ w.alloc (.cells (BARR 8 F) 5) = w')
    (cF : Aside (∀ w : World, Calls Try.prog 12 #[.slice (some ⟨w.heap.size, 0, none⟩) 8 8] (w.alloc (.cells (BARR 8 F) 5)) fun e w' => e = .returned (.tuple #[.int .u64 x, .int .i64 0]) ∧ w.alloc (.cells (BARR 8 F) 5) = w'))
    (cS2 : ∀ w, Calls Try.prog 8 #[.int .u64 z] w fun e w' => ∃ g cap, e = .returned (.slice (some ⟨g, 0, none⟩) kk cap) ∧ w'.ownsRow w.heap.size 5 1 (.slice (some ⟨g, 0, none⟩) kk cap) kk (CELLS (l2.take kk)) ∧ g < w'.heap.size ∧ Below w.heap.size w w') :
    Calls Try.prog 3 #[.int .u64 x, .slice a1 n1 c1, .slice (some ⟨b, off, none⟩) n2 c2] w fun e w' => e = .returned (.bool true) ∧ Below w.heap.size w w' := by
  go_enter Try.func3, Try.ntmps3
  go_wp2_with fail
  refine (cS _).mono ?_
  rintro e w1 ⟨g, cap, rfl, hown1, hg1, hb1⟩
  have HW1 : Aside (Bytes w1 (some ⟨g, 0, none⟩) K S ∧ Below w.heap.size w w1) := ⟨own_bytes hown1 hg1 hS.out, hb1⟩
  clear hown1 hg1 hb1
  have E1 : Below w1.heap.size w1 (w1.alloc (.cells #[] 5)) := (Below.refl _ _).alloc (Nat.le_refl _) _
  have HE1 : Aside (Bytes (w1.alloc (.cells #[] 5)) (some ⟨g, 0, none⟩) K S) := HW1.out.1.below E1
  have HE2 : Aside (∀ w2, (w1.alloc (.cells #[] 5)).grownBy w2 (some w1.heap.size) → Below w1.heap.size w1 w2) := fun w2 h => E1.grown h (by simp) (fun k e => by cases e; exact Nat.le_refl _)
  have HE3 : Aside (∀ w2, Below w1.heap.size w1 w2 → Bytes w2 a1 n1 l1) := fun w2 h => (HB1.out.1.below HW1.out.2).below h
  clear E1
  go_wp2_with (first | (at_builtin; refine app_any _ rfl (.tmp 21) (.tmp 22) rfl w1.heap.size _ 0 [] rfl (own_empty w1 _ (Nat.le_refl _)) (some ⟨g, 0, none⟩) K cap S rfl HE1.out (fun h => by cases h) K S (by omega) rfl (by omega) (by simp) ?_; intro a3 c3 w2 hown2 hgrow2) | (at_builtin; refine app_any _ rfl (.tmp 23) (.tmp 24) rfl w1.heap.size (.slice a3 K c3) K S rfl hown2 a1 n1 c1 l1 rfl (HE3.out _ (HE2.out _ hgrow2)) HB1.out.2.1 (K + n1) (S ++ l1) rfl rfl (by have := HB1.out.2.2; omega) (by have := (HE2.out _ hgrow2).size; omega) ?_; intro a4 c4 w3 hown3 hgrow3))
  have hb13 : Below w1.heap.size w1 w3 := (HE2.out _ hgrow2).grown hgrow3 (HE2.out _ hgrow2).size (fun k e => (hown2.lt k e).1)
  have hb3 : Below w.heap.size w w3 := HW1.out.2.trans (hb13.mono HW1.out.2.size)
  have hby3 := own_bytes_any hown3 (fun y hy => by
    rcases List.mem_append.1 hy with h | h
    · exact hS.out y h
    · exact HB1.out.1.2.2 y h)
  have HB3 : Aside (Below w.heap.size w w3) := hb3
  have HL1 := cL1.out w3 a4 c4 hby3.1 hby3.2
  clear hown2 hgrow2 hown3 hgrow3 hb13 hb3 hby3 HE1 HE2 HE3
  refine HL1.mono ?_
  clear HL1
  rintro e w' ⟨rfl, rfl⟩
  have E1 : Below w3.heap.size w3 (w3.alloc (.cells #[] 5)) := (Below.refl _ _).alloc (Nat.le_refl _) _
  have HE1 : Aside (Bytes (w3.alloc (.cells #[] 5)) (some ⟨b, off, none⟩) n2 l2) := (HB2.out.1.below HB3.out).below E1
  have HE2 : Aside (∀ w4, (w3.alloc (.cells #[] 5)).grownBy w4 (some w3.heap.size) → Below w3.heap.size w3 w4) := fun w4 h => E1.grown h (by simp) (fun k e => by cases e; exact Nat.le_refl _)
  clear E1
  go_wp2_with (at_builtin; refine app_any _ rfl (.tmp 52) (.tmp 53) rfl w3.heap.size _ 0 [] rfl (own_empty w3 _ (Nat.le_refl _)) (some ⟨b, off, none⟩) n2 c2 l2 rfl HE1.out HB2.out.2.1 n2 l2 (by omega) rfl (by have := HB2.out.2.2.1; omega) (by simp) ?_; intro a5 c5 w4 hown4 hgrow4)
  have hb4 : Below w.heap.size w w4 := HB3.out.trans ((HE2.out _ hgrow4).mono HB3.out.size)
  have hby4 := own_bytes_any hown4 HB2.out.1.2.2
  have HB4 : Aside (Below w.heap.size w w4) := hb4
  have HL2 := cL2.out w4 a5 c5 hby4.1 hby4.2
  clear hown4 hgrow4 hb4 hby4 HE1 HE2
  refine HL2.mono ?_
  clear HL2
  rintro e w' ⟨rfl, rfl⟩
  have hd1 : decide ((kk : Int) < 1) = false := by simp; omega
  have hd2 : decide ((n2 : Int) < (kk : Int)) = false := by simp; omega
  have hd3 : decide (n2 < kk) = false := by simp; omega
  have hkc : (kk : Int) ≤ (c2 : Int) := by omega
  have hkn : kk ≤ c2 := by omega
  have hk0 : (0 : Int) ≤ (kk : Int) := by omega
  have HT : Aside (∀ W, Below w.heap.size w W → Bytes W (some ⟨b, off, none⟩) kk (l2.take kk)) := fun W h => bytes_take (HB2.out.1.below h) (by omega)
  go_wp2_with fail
  go_region_held3 (fun _ => True) (trivial) (first | (go_at_call 8; refine (cS2 _).mono ?_; rintro e w5 ⟨g5, cap5, rfl, hown5, hg5, hb5⟩) | (go_at_call 10; refine (same_ok _ _ kk cap5 c2 (l2.take kk) _ (own_bytes hown5 hg5 (fun y hy => HB2.out.1.2.2 y (List.mem_of_mem_take hy))) (HT.out _ (HB4.out.drew.trans (hb5.mono HB4.out.size))) (by have := HB2.out.2.2.1; omega)).mono ?_; rintro e w6 ⟨rfl, hb6, hs6⟩))
  have h5 : Below w.heap.size w w5 := HB4.out.drew.trans (hb5.mono HB4.out.size)
  have HB6 : Aside (Below w.heap.size w w6) := h5.trans (hb6.mono h5.size)
  clear hown5 hg5 hb5 hb6 hs6 h5
  go_wp2_with fail
  refine (cB _).mono ?_
  rintro e w7 ⟨rfl, rfl⟩
  go_wp2_with fail
  refine (cF.out _).mono ?_
  rintro e w7 ⟨rfl, rfl⟩
  go_wp2_with fail
  refine (awake_ok _).mono ?_
  rintro e w8 ⟨rfl, hg, hb⟩
  go_wp2
  go_ret
  refine ⟨rfl, ?_⟩
  have h7 := HB6.out.alloc HB6.out.size (.cells (BARR 8 F) 5)
  exact h7.trans (hb.mono h7.size)

theorem numRounds_walk (a0 : Int) (a1 : Option Addr) (len1 cap1 : Nat) (z1 : List Int) (a2 : Option Addr) (len2 cap2 : Nat) (z2 : List Int) (w : World) (w0 : (Lit.int .u64 a0).wf = true) (w1 : IsRow .u8 w a1 len1 cap1 z1) (s1 : cap1 ≤ 140737488351232) (w2 : IsRow .u8 w a2 len2 cap2 z2) (s2 : cap2 ≤ 140737488351232) :
    Calls Try.prog 3 #[.int .u64 a0, .slice a1 len1 cap1, .slice a2 len2 cap2] w fun e w' => e = .returned (.bool true) ∧ Below w.heap.size w w' := by
  have b0 := wf_u64 w0
  obtain ⟨X, rfl⟩ : ∃ X : Nat, a0 = (X : Int) := ⟨a0.toNat, by omega⟩
  have hX : X < 2 ^ 64 := by omega
  have hB1 := w1.bytes
  have hB2 := w2.bytes
  have r1 := w1.cap
  have r2 := w2.cap
  have hN := NTOP_le X
  have cS := fun w => short_ok X hX w
  have hS : ∀ y ∈ SHORT X, 0 ≤ y ∧ y ≤ 255 := SHORT_range hX
  have cL1 : ∀ w a c, Bytes w a (NTOP X + 1 + len1) (SHORT X ++ z1.take len1) → NTOP X + 1 + len1 ≤ c → Calls Try.prog 9 #[.slice a (NTOP X + 1 + len1) c] w fun e w' => e = .returned (.tuple #[.int .u64 (X : Int), .int .i64 ((NTOP X + 1 : Nat) : Int), .int .i64 0]) ∧ w = w' := fun w a c hB hc => by
    have h := long_ok a (NTOP X + 1 + len1) c _ w hB hc (by omega)
    rw [LG_SHORT hX _ _ (by rw [hB1.1])] at h
    exact h
  have h8 : X / 2 ^ (8 * 8) = 0 := Nat.div_eq_of_lt hX
  have cB := fun w => big_ok X 8 hX (by decide) h8 w
  have hbig : ∃ l : List Int, l.length = 8 ∧ (∀ y ∈ l, 0 ≤ y ∧ y ≤ 255) ∧ (∀ i, i < 8 → BYTE X 8 i = l.getD i 0) ∧ BIGV l = (X : Int) := big_list X hX
  obtain ⟨l8, hl8, hr8, hb8, hv8⟩ := hbig
  have cF : ∀ w : World, Calls Try.prog 12 #[.slice (some ⟨w.heap.size, 0, none⟩) 8 8] (w.alloc (.cells (BARR 8 (BYTE X 8)) 5)) fun e w' => e = .returned (.tuple #[.int .u64 (X : Int), .int .i64 0]) ∧ w.alloc (.cells (BARR 8 (BYTE X 8)) 5) = w' := fun w =>
    frombig_raw _ 8 8 l8 X hv8.symm _ (row_bytes w 8 _ l8 hl8 hb8 hr8) (by decide)
  by_cases hf : (LG (z2.take len2) len2 10 0 0).2.2 = 0
  · obtain ⟨Z, m, hZ, hm, _, hR, hNZ, hSZ⟩ := LG_back hB2.1 hB2.get hf
    have hpos : 0 < len2 := by omega
    obtain ⟨b, off, rfl, _, _⟩ := hB2.2.1 hpos
    have cS2 := fun w => short_ok Z hZ w
    rw [hNZ, hSZ] at cS2
    refine numRounds_good X Z (NTOP X + 1) len1 cap1 len2 cap2 (m + 1) b off (SHORT X) (z1.take len1) (z2.take len2) a1 (BYTE X 8) w (by omega) (by omega) (by omega) cS hS (by omega) (by omega) ⟨hB1, r1.1, by omega⟩ ⟨hB2, r2.1, by omega, r2.2⟩ cL1 (fun w a c hB hc => ?_) cB cF cS2
    have h := long_ok a len2 c _ w hB hc (by omega)
    rw [hR] at h
    exact h
  · exact numRounds_bad X _ _ _ (NTOP X + 1) len1 cap1 len2 cap2 (SHORT X) (z1.take len1) (z2.take len2) a1 a2 (BYTE X 8) w (by simp [hf]) cS hS (by omega) (by omega) ⟨hB1, r1.1, by omega⟩ ⟨hB2, r2.1, by omega, r2.2⟩ cL1 (fun w a c hB hc => long_ok a len2 c _ w hB hc (by omega)) cB cF
end Go.Proofs.Ytlklnljgmkagoab
