/- What Bits, Ones, Low and High of the document's answers give; two lists that are the same. -/
import Derived.Test.YtlklnljgmkagoaaDoorNumListPlain
import Derived.Test.YtlklnljgmkagoaaDoorNumRowCalls
import Derived.Deep.QuietTactic
import Derived.BigQuiet
namespace Go.Proofs.YtlklnljgmkagoaaDoor
open Go.RowKit

theorem PL_snoc : ∀ k o X, PL (k + 1) o X = PL k o X ++ if X / 2 ^ k % 2 = 1 then [o + k] else []
  | 0, o, X => by simp [PL]
  | k + 1, o, X => by
    have ih := PL_snoc k (o + 1) (X / 2)
    rw [Nat.div_div_eq_div_mul, Nat.mul_comm, ← Nat.pow_succ, show o + 1 + k = o + (k + 1) by omega] at ih
    have hl : PL (k + 1 + 1) o X = if X % 2 = 1 then o :: PL (k + 1) (o + 1) (X / 2) else PL (k + 1) (o + 1) (X / 2) := rfl
    have hr : PL (k + 1) o X = if X % 2 = 1 then o :: PL k (o + 1) (X / 2) else PL k (o + 1) (X / 2) := rfl
    rw [hl, hr, ih]
    by_cases h : X % 2 = 1
    · simp only [h, if_true, List.cons_append]
    · simp only [h, if_false]
theorem PL_len_le (k o X : Nat) : (PL k o X).length ≤ k := by
  induction k generalizing o X with
  | zero => simp [PL]
  | succ k ih =>
    have := ih (o + 1) (X / 2)
    unfold PL
    split
    · rw [List.length_cons]; omega
    · omega
theorem own_nil (w : World) (base : Nat) : w.ownsRow base 3 1 (.slice none 0 0) 0 (ICELLS []) := ⟨rfl, .inl ⟨rfl, rfl⟩⟩

theorem own_wider {w : World} {base base' : Nat} {v : Value} {n : Nat} {xs : List Value} (h : w.ownsRow base 3 1 v n xs) (hb : base' ≤ base) : w.ownsRow base' 3 1 v n xs :=
  ⟨h.1, h.2.imp id fun ⟨g, cap, cur, hv, h1, r⟩ => ⟨g, cap, cur, hv, Nat.le_trans hb h1, r⟩⟩
set_option maxHeartbeats 1000000 in
theorem refbits_ok (X : Nat) (hX : X < 2 ^ 64) (w : World) : Calls Tryd.prog 12 #[.int .u64 (X : Int)] w fun e w' =>
    ∃ v, e = .returned v ∧ w'.ownsRow w.heap.size 3 1 v (POP X) (ICELLS (PLACES X)) ∧ Below w.heap.size w w' := by
  have hz := ARR_zero
  have c1 := row_ok X hX
  clear hX
  go_enter Tryd.func12, Tryd.ntmps12
  go_wp2_with fail
  refine (c1 _).mono ?_
  rintro e w1 ⟨rfl, hF⟩
  have HF : Aside (Below w.heap.size w w1) := hF.2
  clear hF c1
  go_wp2_with (refine wpList_store_row rfl 29 _ _ rfl _ _ rfl rfl _ _ (heap_one w1 _) (info_ARR _) (by rw [ARR_size, ARR_size]) (ARR_one _) ?_; rw [World.setRow_alloc_new])
  obtain ⟨wB, hwB⟩ : ∃ wB, wB = w1.alloc (.cells (ARR (BITS X)) 29) := ⟨_, rfl⟩
  have HB : Aside ((∀ i, i < 64 → wB.cell? ⟨w1.heap.size, i, none⟩ = some (.int .i64 (BITS X i))) ∧ w1.heap.size < wB.heap.size ∧ Below w.heap.size w wB) := by
    subst hwB
    exact ⟨fun i hi => by rw [World.cell?_alloc_at _ _ _ _ rfl]; exact ARR_get _ i hi, by simp, HF.out.alloc HF.out.size _⟩
  rw [← hwB]
  clear hwB HF
  go_loopg [4, 5] 64 (fun n s5 s6 wx => ∃ i : Nat, i + n = 64 ∧ s6 = .int .i64 i ∧ Aside (wx.ownsRow wB.heap.size 3 1 s5 (PL i 0 X).length (ICELLS (PL i 0 X)) ∧ Below wB.heap.size wB wx))
  case atStart => exact ⟨0, by omega, rfl, own_nil _ _, Below.refl _ _⟩
  case round =>
    obtain ⟨i, hin, rfl, A⟩ := hrel
    cases gk with
    | zero =>
      obtain rfl : i = 64 := by omega
      have R : Aside (wr.ownsRow w.heap.size 3 1 u4 (POP X) (ICELLS (PLACES X)) ∧ Below w.heap.size w wr) := by
        have h1 := own_wider A.out.1 HB.out.2.2.size
        have e : (PL 64 0 X).length = POP X := PLACES_length X
        rw [e] at h1
        exact ⟨h1, HB.out.2.2.trans (A.out.2.mono HB.out.2.2.size)⟩
      clear A HB
      go_wp2
      go_ret
      exact ⟨_, rfl, R.out.1, R.out.2⟩
    | succ n =>
      have hi : (i : Int) < 64 := by omega
      have hi0 : (0 : Int) ≤ (i : Int) := by omega
      have hc : wr.cell? ⟨w1.heap.size, i, none⟩ = some (.int .i64 (BITS X i)) := (A.out.2.cell (by exact HB.out.2.1)).trans (HB.out.1 i (by omega))
      have hlen := PL_len_le i 0 X
      rcases BITS_01 X i (by omega) with hb | hb
      · rw [hb] at hc
        have hs : PL (i + 1) 0 X = PL i 0 X := by
          rw [PL_snoc, if_neg (by unfold BITS at hb; omega), List.append_nil]
        have R : Aside (wr.ownsRow wB.heap.size 3 1 u4 (PL (i + 1) 0 X).length (ICELLS (PL (i + 1) 0 X)) ∧ Below wB.heap.size wB wr) := by rw [hs]; exact A.out
        clear A HB hs hb hlen
        go_wp2
        go_roundg n
        case measure => omega
        case rel => exact ⟨i + 1, by omega, by go_num, R⟩
      · rw [hb] at hc
        have hs : PL (i + 1) 0 X = PL i 0 X ++ [i] := by
          rw [PL_snoc, if_pos (by unfold BITS at hb; omega), Nat.zero_add]
        have HS : Aside (PL (i + 1) 0 X = PL i 0 X ++ [i]) := hs
        have HA : Aside ((PL i 0 X).length ≤ 1000) := by unfold Aside; omega
        generalize PL i 0 X = l at *
        clear hs hb hlen HB
        go_wp2_with (at_builtin; refine app_int _ rfl (.tmp 16) (.tmp 18) rfl wB.heap.size u4 l.length l rfl (A.out.1.alloc _) wr.heap.size 1 i rfl (by rw [World.cell?_alloc_at _ _ _ _ rfl]; rfl) HA.out (by have := A.out.2.size; simp; omega) ?_; intro g cap w2 hown hgrow hg)
        have R : Aside (w2.ownsRow wB.heap.size 3 1 (.slice (some ⟨g, 0, none⟩) (l.length + 1) cap) (PL (i + 1) 0 X).length (ICELLS (PL (i + 1) 0 X)) ∧ Below wB.heap.size wB w2) := by
          rw [HS.out, show (l ++ [i]).length = l.length + 1 by simp]
          exact ⟨hown, (A.out.2.alloc A.out.2.size _).grown hgrow (by have := A.out.2.size; simp; omega) (fun k e => (A.out.1.lt k e).1)⟩
        clear hown hgrow hg A HS HA
        go_wp2
        go_roundg n
        case measure => omega
        case rel => exact ⟨i + 1, by omega, by go_num, R⟩

theorem own_form {w : World} {base n : Nat} {v : Value} {xs : List Value} (h : w.ownsRow base 3 1 v n xs) : ∃ a c, v = .slice a n c := by
  rcases h.2 with ⟨rfl, rfl⟩ | ⟨g, cap, cur, rfl, _⟩
  · exact ⟨none, 0, rfl⟩
  · exact ⟨_, cap, rfl⟩
theorem own_pos {w : World} {base n : Nat} {v : Value} {xs : List Value} (h : w.ownsRow base 3 1 v n xs) (hn : 0 < n) : ∃ g c, v = .slice (some ⟨g, 0, none⟩) n c ∧ g < w.heap.size := by
  rcases h.2 with ⟨rfl, rfl⟩ | ⟨g, cap, cur, rfl, _, hg, _⟩
  · omega
  · exact ⟨g, cap, rfl, (Array.getElem?_eq_some_iff.1 hg).1⟩
theorem refones_ok (X : Nat) (hX : X < 2 ^ 64) (w : World) : Calls Tryd.prog 5 #[.int .u64 (X : Int)] w fun e w' => e = .returned (.int .i64 (POP X : Nat)) ∧ Below w.heap.size w w' := by
  have c := refbits_ok X hX
  clear hX
  go_enter Tryd.func5, Tryd.ntmps5
  go_wp2_with fail
  refine (c _).mono ?_
  rintro e w1 ⟨v, rfl, hown, hb⟩
  obtain ⟨a, cp, rfl⟩ := own_form hown
  clear hown c
  have HB : Aside (Below w.heap.size w w1) := hb
  clear hb
  go_wp2
  go_ret
  exact ⟨rfl, HB.out⟩
theorem reflow_ok (X : Nat) (hX : X < 2 ^ 64) (w : World) : Calls Tryd.prog 7 #[.int .u64 (X : Int)] w fun e w' => e = .returned (.int .i64 (if X = 0 then 64 else ((PLACE X 0 : Nat) : Int))) ∧ Below w.heap.size w w' := by
  have c := refbits_ok X hX
  by_cases hz : X = 0
  · rw [if_pos hz]
    have hp : POP X = 0 := by subst hz; decide
    rw [hp] at c
    clear hX hz hp
    go_enter Tryd.func7, Tryd.ntmps7
    go_wp2_with fail
    refine (c _).mono ?_
    rintro e w1 ⟨v, rfl, hown, hb⟩
    obtain ⟨a, cp, rfl⟩ := own_form hown
    clear hown c
    have HB : Aside (Below w.heap.size w w1) := hb
    clear hb
    go_wp2
    go_ret
    exact ⟨rfl, HB.out⟩
  · rw [if_neg hz]
    have hp := POP_pos hX hz
    have hpi : (0 : Int) < ((POP X : Nat) : Int) := by omega
    have hpe : (((POP X : Nat) : Int) == 0) = false := by simp; omega
    clear hX hz
    go_enter Tryd.func7, Tryd.ntmps7
    go_wp2_with fail
    refine (c _).mono ?_
    rintro e w1 ⟨v, rfl, hown, hb⟩
    obtain ⟨g, cp, rfl, hg⟩ := own_pos hown hp
    have hc := places_at hown 0 hp
    have HB : Aside (Below w.heap.size w w1) := hb
    clear hb hown c hg
    generalize hv : PLACE X 0 = v0 at *
    have HV : Aside (PLACE X 0 = v0) := hv
    clear hv
    generalize POP X = n at *
    go_wp2
    go_ret
    exact ⟨by rw [HV.out]; rfl, HB.out⟩
theorem refhigh_ok (X : Nat) (hX : X < 2 ^ 64) (w : World) : Calls Tryd.prog 9 #[.int .u64 (X : Int)] w fun e w' => e = .returned (.int .i64 (if X = 0 then -1 else ((PLACE X (POP X - 1) : Nat) : Int))) ∧ Below w.heap.size w w' := by
  have c := refbits_ok X hX
  by_cases hz : X = 0
  · rw [if_pos hz]
    have hp : POP X = 0 := by subst hz; decide
    rw [hp] at c
    clear hX hz hp
    go_enter Tryd.func9, Tryd.ntmps9
    go_wp2_with fail
    refine (c _).mono ?_
    rintro e w1 ⟨v, rfl, hown, hb⟩
    obtain ⟨a, cp, rfl⟩ := own_form hown
    clear hown c
    have HB : Aside (Below w.heap.size w w1) := hb
    clear hb
    go_wp2
    go_ret
    exact ⟨rfl, HB.out⟩
  · rw [if_neg hz]
    have hp := POP_pos hX hz
    have hpe : (((POP X : Nat) : Int) == 0) = false := by simp; omega
    have hle := POP_le X
    clear hX hz
    obtain ⟨j, hj⟩ : ∃ j, j = POP X - 1 := ⟨_, rfl⟩
    rw [← hj]
    go_enter Tryd.func9, Tryd.ntmps9
    go_wp2_with fail
    refine (c _).mono ?_
    rintro e w1 ⟨v, rfl, hown, hb⟩
    obtain ⟨g, cp, rfl, hg⟩ := own_pos hown hp
    have hc := places_at hown j (by omega)
    have HB : Aside (Below w.heap.size w w1) := hb
    clear hb hown c hg
    generalize hv : PLACE X j = v0 at *
    have HV : Aside (PLACE X j = v0) := hv
    clear hv
    generalize POP X = n at *
    have hj1 : (n : Int) - 1 = (j : Int) := by omega
    have hjP : (j : Int) < (n : Int) := by omega
    have hj0 : (0 : Int) ≤ (j : Int) := by omega
    have hwj : IntKind.i64.wrap (j : Int) = (j : Int) := by rw [IntKind.wrap_i64]; omega
    clear hj hp
    go_wp2
    go_ret
    exact ⟨by rw [HV.out]; rfl, HB.out⟩
/-- two lists that read the same. -/
theorem list_ok (va vb : Value) (n : Nat) (f : Nat → Nat) (w : World) (hn : n ≤ 64) (ha : ∃ a c, va = .slice a n c) (hb : ∃ a c, vb = .slice a n c)
    (hA : 0 < n → ∃ g c, va = .slice (some ⟨g, 0, none⟩) n c ∧ g < w.heap.size ∧ ∀ i, i < n → w.cell? ⟨g, i, none⟩ = some (.int .i64 (f i : Nat)))
    (hB : 0 < n → ∃ g c, vb = .slice (some ⟨g, 0, none⟩) n c ∧ g < w.heap.size ∧ ∀ i, i < n → w.cell? ⟨g, i, none⟩ = some (.int .i64 (f i : Nat))) :
    Calls Tryd.prog 10 #[va, vb] w fun e w' => e = .returned (.bool true) ∧ Below w.heap.size w w' := by
  rcases Nat.eq_zero_or_pos n with h | h
  · subst h
    obtain ⟨a, ca, rfl⟩ := ha
    obtain ⟨b, cb, rfl⟩ := hb
    clear hA hB
    go_enter Tryd.func10, Tryd.ntmps10
    go_wp2
    refine wp_loop_rounds 1 ?_
    rw [rounds_succ]
    go_wp2
    go_ret
    exact ⟨rfl, Below.refl _ _⟩
  · obtain ⟨ga, ca, rfl, la, hca⟩ := hA h
    obtain ⟨gb, cb, rfl, lb, hcb⟩ := hB h
    have HC : Aside ((∀ i, i < n → w.cell? ⟨ga, i, none⟩ = some (.int .i64 (f i : Nat))) ∧ (∀ i, i < n → w.cell? ⟨gb, i, none⟩ = some (.int .i64 (f i : Nat))) ∧ ga < w.heap.size ∧ gb < w.heap.size) := ⟨hca, hcb, la, lb⟩
    clear hA hB hca hcb la lb ha hb
    go_enter Tryd.func10, Tryd.ntmps10
    go_wp2
    go_loopg [5] n (fun g s5 wx => ∃ k : Nat, k + g = n ∧ s5 = .int .i64 k ∧ Aside (Below w.heap.size w wx))
    case atStart => exact ⟨0, by omega, rfl, Below.refl _ _⟩
    case round =>
      obtain ⟨k, hkg, rfl, A⟩ := hrel
      cases gk with
      | zero =>
        obtain rfl : k = n := by omega
        go_wp2
        go_ret
        exact ⟨rfl, A.out⟩
      | succ g =>
        have hlt : (k : Int) < (n : Int) := by omega
        have h1 : wr.cell? ⟨ga, k, none⟩ = some (.int .i64 (f k : Nat)) := (A.out.cell (by exact HC.out.2.2.1)).trans (HC.out.1 k (by omega))
        have h2 : wr.cell? ⟨gb, k, none⟩ = some (.int .i64 (f k : Nat)) := (A.out.cell (by exact HC.out.2.2.2)).trans (HC.out.2.1 k (by omega))
        generalize f k = v at h1 h2
        go_wp2
        go_quiet (fail)
        go_wp2
        go_roundg g
        case measure => omega
        case rel => exact ⟨k + 1, by omega, by go_num, below_drewN A.out _⟩
end Go.Proofs.YtlklnljgmkagoaaDoor
