/- What ending, New and the Sum of a Hasher answer. -/
import Derived.Test.YtihdhaamphdljaaDoorHashWrite
import Derived.Test.YtihdhaamphdljaaDoorHashAppend
namespace Go.Proofs.YtihdhaamphdljaaDoor
open Go.RowKit
set_option maxRecDepth 100000

/-! bytes as natural numbers -/
def INTS (l : List Nat) : List Int := l.map fun (x : Nat) => (x : Int)
theorem INTS_get (l : List Nat) (i : Nat) : (INTS l).getD i 0 = ((l.getD i 0 : Nat) : Int) := by
  unfold INTS
  rw [List.getD_eq_getElem?_getD, List.getElem?_map, List.getD_eq_getElem?_getD]
  cases l[i]? <;> rfl
theorem Text.bytes {w : World} {a : Option Addr} {n : Nat} {l : List Nat} (h : Text w a n l) : Bytes w a n (INTS l) :=
  ⟨by rw [INTS, List.length_map]; exact h.1, fun hn => by
    obtain ⟨b, off, e, hl, hc⟩ := h.2.1 hn
    exact ⟨b, off, e, hl, fun i hi => by rw [INTS_get]; exact hc i hi⟩, fun x hx => by
    obtain ⟨y, hy, rfl⟩ := List.mem_map.1 hx
    have := h.2.2 y hy
    omega⟩
theorem Text.of_bytes {w : World} {a : Option Addr} {n : Nat} {l : List Nat} (h : Bytes w a n (INTS l)) : Text w a n l :=
  ⟨by have := h.1; rwa [INTS, List.length_map] at this, fun hn => by
    obtain ⟨b, off, e, hl, hc⟩ := h.2.1 hn
    exact ⟨b, off, e, hl, fun i hi => by rw [← INTS_get]; exact hc i hi⟩, fun x hx => by
    have := h.2.2 (x : Int) (List.mem_map.2 ⟨x, hx, rfl⟩)
    omega⟩
theorem INTS_bounds {l : List Nat} (h : Small8 l) : ∀ x ∈ INTS l, 0 ≤ x ∧ x ≤ 255 := fun x hx => by
  obtain ⟨y, hy, rfl⟩ := List.mem_map.1 hx
  have := h y hy
  omega
theorem INTS_append (a b : List Nat) : INTS (a ++ b) = INTS a ++ INTS b := by simp [INTS]

/-- the i-th of the eight bytes of X, the highest first. -/
def BE8 (X : Nat) : List Nat := (List.range 8).map fun i => X / 2 ^ (8 * (7 - i)) % 256
/-- how many noughts stand behind a text of n bytes. -/
def NOUGHTS (n : Nat) : Nat := (119 - n % 64) % 64
/-- what stands behind a text of n bytes. -/
def HEAD (n : Nat) : List Nat := 128 :: List.replicate (NOUGHTS n) 0
def END (n : Nat) : List Nat := HEAD n ++ BE8 (8 * n)
theorem BE8_length (X : Nat) : (BE8 X).length = 8 := by simp [BE8]
theorem HEAD_length (n : Nat) : (HEAD n).length = NOUGHTS n + 1 := by simp [HEAD]
theorem END_length (n : Nat) : (END n).length = NOUGHTS n + 9 := by rw [END, List.length_append, HEAD_length, BE8_length]
theorem BE8_small (X : Nat) : Small8 (BE8 X) := fun x hx => by
  simp [BE8] at hx
  obtain ⟨i, _, rfl⟩ := hx
  exact Nat.mod_lt _ (by decide)
theorem END_small (n : Nat) : Small8 (END n) := fun x hx => by
  rcases List.mem_append.1 hx with hx | hx
  · rcases List.mem_cons.1 hx with rfl | hx
    · decide
    · rw [List.eq_of_mem_replicate hx]
      decide
  · exact BE8_small _ x hx
theorem NOUGHTS_raw (n : Nat) : (IntKind.u64.wrap (55 - (n : Int))).tmod 64 = ((NOUGHTS n : Nat) : Int) := by
  unfold NOUGHTS
  rw [wrapU]
  rw [Int.tmod_eq_emod_of_nonneg (by omega)]
  omega
theorem HEAD_get (n i : Nat) : (HEAD n).getD i 0 = if i = 0 then 128 else 0 := by
  unfold HEAD
  cases i with
  | zero => rfl
  | succ i =>
    rw [if_neg (by omega)]
    show (List.replicate (NOUGHTS n) 0).getD i 0 = 0
    rw [List.getD_eq_getElem?_getD, List.getElem?_replicate]
    split <;> rfl

theorem ineight_ok (X : Nat) (hX : X < 2 ^ 64) (w : World) : Calls Tryd.prog 35 #[.int .u64 (X : Int)] w fun e w' => e = .returned (.slice (some ⟨w.heap.size, 0, none⟩) 8 8) ∧ w.alloc (.cells (BARR 8 (BYTE X 8)) 5) = w' := by
  have cb : ∀ w, Calls Tryd.prog 41 #[.int .u64 (X : Int), .int .i64 8] w fun e w' => e = .returned (.tuple #[.slice (some ⟨w.heap.size, 0, none⟩) 8 8, .int .i64 0]) ∧ w.alloc (.cells (BARR 8 (BYTE X 8)) 5) = w' := fun w => big_ok X 8 hX (by decide) (Nat.div_eq_of_lt hX) w
  clear hX
  go_enter Tryd.func35, Tryd.ntmps35
  go_wp2_with fail
  refine (cb _).mono ?_
  rintro e w' ⟨rfl, rfl⟩
  go_wp2
  go_ret
  exact ⟨rfl, rfl⟩
theorem owns_has {w : World} {base g m k : Nat} {f : Nat → Int} {xs : List Int} (h : Has w g (BARR k f) 5) (hb : base ≤ g) (hm : m ≤ k) (hk : k ≤ 1000) (hx : xs.length = m) (hf : ∀ i, i < m → f i = xs.getD i 0) : w.ownsRow base 5 1 (.slice (some ⟨g, 0, none⟩) m k) m (CELLS xs) := by
  refine ⟨by simp [CELLS, hx], Or.inr ⟨g, k, BARR k f, rfl, hb, h, hm, by simp only [maxLen]; omega, by rw [BARR_size]; omega, ?_⟩⟩
  rw [Nat.mul_one]
  apply List.ext_getElem?
  intro i
  by_cases hi : i < m
  · rw [CELLS_get _ _ (by omega), List.getElem?_take_of_lt hi]
    have := BARR_get k f i (by omega)
    rw [← Array.getElem?_toList] at this
    rw [this, hf i hi]
  · rw [List.getElem?_eq_none (by rw [List.length_take]; omega), List.getElem?_eq_none (by simp [CELLS]; omega)]
theorem ending_ok (n : Nat) (hn : n < 2 ^ 60) (w : World) : Calls Tryd.prog 23 #[.int .u64 (n : Int)] w fun e w' =>
    ∃ a c, e = .returned (.slice a (NOUGHTS n + 9) c) ∧ Text w' a (NOUGHTS n + 9) (END n) ∧ NOUGHTS n + 9 ≤ c ∧ (∀ x, a = some x → w.heap.size ≤ x.block) ∧ Below w.heap.size w w' := by
  have hN := NOUGHTS_raw n
  obtain ⟨m, hm⟩ : ∃ m, m = NOUGHTS n + 1 := ⟨_, rfl⟩
  have hz : NOUGHTS n < 64 := Nat.mod_lt _ (by decide)
  have hw1 : IntKind.u64.wrap (1 + ((NOUGHTS n : Nat) : Int)) = (m : Int) := by rw [wrapU]; omega
  have hmk : ∀ w : World, (Instr.makeSlice 23 (.int .u64 (m : Int)) (.int .i64 73)).run Tryd.prog w = .ok (.slice (some ⟨w.heap.size, 0, none⟩) m 73) (w.alloc (.cells (BARR 73 fun _ => 0) 5)) := fun w => by
    obtain ⟨i8, hi, h8⟩ := Option.map_eq_some_iff.1 info_u8
    simp only [Prod.mk.injEq] at h8
    have h := run_make (P := Tryd.prog) w 23 5 i8 (.int .u8 0) Tryd.underlying23 hi h8.1 .u64 .i64 (m : Int) 73 (by omega) (by omega) (by rw [h8.2.2]; decide) (by decide)
    rw [h8.2.1] at h
    have e : madeCells (Value.int .u8 0).cells (((73 : Int).toNat) * 1) = BARR 73 fun _ => 0 := BARR_made 73
    rw [e] at h
    exact h
  have hX : IntKind.u64.wrap (8 * (n : Int)) = ((8 * n : Nat) : Int) := by rw [wrapU]; omega
  have ci := ineight_ok (8 * n) (by omega)
  generalize hx8 : 8 * n = X at *
  have H : Aside (8 * n = X ∧ m = NOUGHTS n + 1 ∧ NOUGHTS n < 64) := ⟨hx8, hm, hz⟩
  have hm0 : (0 : Int) < (m : Int) := by omega
  clear hx8 hm hz hn
  generalize hz2 : NOUGHTS n = z at *
  have HZ : Aside (NOUGHTS n = z) := hz2
  clear hz2
  go_enter Tryd.func23, Tryd.ntmps23
  go_wp2_with fail
  refine (ci _).mono ?_
  rintro e w1 ⟨rfl, rfl⟩
  clear ci
  have e0 : (BARR 73 fun _ => 0).setIfInBounds 0 (Value.int .u8 128) = BARR 73 fun j => if j = 0 then 128 else 0 := BARR_set 73 _ 0 128
  rw [e0]
  clear e0
  have hH : Has ((w.alloc (.cells (BARR 73 fun j => if j = 0 then 128 else 0) 5)).alloc (.cells (BARR 8 (BYTE X 8)) 5)) w.heap.size (BARR 73 fun j => if j = 0 then 128 else 0) 5 := (Has.new w _ _).alloc _
  have hO : ((w.alloc (.cells (BARR 73 fun j => if j = 0 then 128 else 0) 5)).alloc (.cells (BARR 8 (BYTE X 8)) 5)).ownsRow w.heap.size 5 1 (.slice (some ⟨w.heap.size, 0, none⟩) m 73) m (CELLS (INTS (HEAD n))) := by
    refine owns_has hH (Nat.le_refl _) (by have := H.out; omega) (by decide) (by rw [INTS, List.length_map, HEAD_length, HZ.out]; exact H.out.2.1.symm) (fun i _ => ?_)
    rw [INTS_get, HEAD_get]
    split <;> rfl
  have hT : Bytes ((w.alloc (.cells (BARR 73 fun j => if j = 0 then 128 else 0) 5)).alloc (.cells (BARR 8 (BYTE X 8)) 5)) (some ⟨w.heap.size + 1, 0, none⟩) 8 (INTS (BE8 X)) := by
    have h := row_bytes (w.alloc (.cells (BARR 73 fun j => if j = 0 then 128 else 0) 5)) 8 (BYTE X 8) (INTS (BE8 X)) (by rw [INTS, List.length_map, BE8_length]) (fun i hi => by
      rw [INTS_get]
      unfold BYTE BE8
      rw [List.getD_eq_getElem?_getD, List.getElem?_map, List.getElem?_range hi]
      rfl) (INTS_bounds (BE8_small X))
    have e : (w.alloc (.cells (BARR 73 fun j => if j = 0 then 128 else 0) 5)).heap.size = w.heap.size + 1 := by simp
    rw [e] at h
    exact h
  have hB : Below w.heap.size w ((w.alloc (.cells (BARR 73 fun j => if j = 0 then 128 else 0) 5)).alloc (.cells (BARR 8 (BYTE X 8)) 5)) := ((Below.refl _ _).alloc (Nat.le_refl _) _).alloc (by simp) _
  have R : Aside (_ ∧ _ ∧ _) := ⟨hO, hT, hB⟩
  clear hH hO hT hB
  go_wp2_with (at_builtin; refine app_u8 _ rfl (.tmp 13) (.tmp 16) rfl w.heap.size (.slice (some ⟨w.heap.size, 0, none⟩) m 73) m (INTS (HEAD n)) rfl R.out.1 (w.heap.size + 1) 0 8 8 (INTS (BE8 X)) rfl R.out.2.1 (by decide) (by have := H.out; omega) (by simp; omega) ?_; intro g cap w' hown hgrow hg)
  have hb2 : Below w.heap.size w w' := R.out.2.2.grown hgrow (by simp; omega) (fun k e => by simp [Value.ownBlock] at e; omega)
  have hge : w.heap.size ≤ g := by
    rcases hown.2 with ⟨h, _⟩ | ⟨g2, c2, cur, h, hle, _⟩
    · simp at h
    · simp only [Value.slice.injEq, Option.some.injEq, Addr.mk.injEq] at h
      omega
  rw [← INTS_append, ← H.out.1] at hown
  have hown2 : w'.ownsRow w.heap.size 5 1 (.slice (some ⟨g, 0, none⟩) (m + 8) cap) (m + 8) (CELLS (INTS (END n))) := hown
  obtain ⟨hby, hle⟩ := own_bytes_any hown2 (INTS_bounds (END_small n))
  have S : Aside (Bytes w' (some ⟨g, 0, none⟩) (m + 8) (INTS (END n)) ∧ m + 8 ≤ cap ∧ w.heap.size ≤ g ∧ Below w.heap.size w w') := ⟨hby, hle, hge, hb2⟩
  clear hb2 hge hown hown2 hby hle hgrow hg R
  go_wp2
  go_ret
  obtain ⟨s1, s2, s3, s4⟩ := S.out
  have e : m + 8 = z + 9 := by have := H.out; omega
  rw [e] at s1 s2
  refine ⟨some ⟨g, 0, none⟩, cap, ?_, Text.of_bytes s1, s2, fun x hx => by simp only [Option.some.injEq] at hx; rw [← hx]; exact s3, s4⟩
  rw [← e]
  rfl
end Go.Proofs.YtihdhaamphdljaaDoor
