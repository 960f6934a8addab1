/- What Joins answers. -/
import Derived.Test.YthogidnbjdmaaaaDoorCutSpan
namespace Go.Proofs.YthogidnbjdmaaaaDoor
open Go.RowKit

/-- the spots over the leaves n - 1 and n from the height h on, as long as they end within n + k leaves, at most f of them. -/
def JF (n k : Nat) : Nat → Nat → List (Nat × Nat)
  | 0, _ => []
  | f + 1, h => if (n / 2 ^ h + 1) * 2 ^ h ≤ n + k then (h, n / 2 ^ h) :: JF n k f (h + 1) else []
theorem JF_length (n k : Nat) : ∀ f h, (JF n k f h).length ≤ f := by
  intro f
  induction f with
  | zero => intro h; exact Nat.le_refl _
  | succ f ih =>
    intro h
    unfold JF
    split
    · have := ih (h + 1)
      simp
      exact this
    · simp
/-- the noughts at the end of n. -/
def LOWS (n t : Nat) : Prop := t ≤ 64 ∧ (n = 0 → t = 64) ∧ ∀ h, h ≤ 64 → (n % 2 ^ h = 0 ↔ h ≤ t)
theorem LEN_most : LEN 4611686018427387904 = 63 := by decide +kernel
theorem joins_great (n k : Int) (h : 4611686018427387904 < n) (w : World) : Calls Tryd.prog 8 #[.int .u64 n, .int .u64 k] w fun e w' => e = .returned (.slice none 0 0) ∧ w = w' := by
  go_enter Tryd.func8, Tryd.ntmps8
  go_wp2
  go_ret
  exact ⟨rfl, rfl⟩
theorem joins_far (n k d : Int) (h : ¬ 4611686018427387904 < n) (e : IntKind.u64.wrap (4611686018427387904 - n) = d) (h2 : d < k) (w : World) : Calls Tryd.prog 8 #[.int .u64 n, .int .u64 k] w fun e w' => e = .returned (.slice none 0 0) ∧ w = w' := by
  go_enter Tryd.func8, Tryd.ntmps8
  go_wp2
  go_ret
  exact ⟨rfl, rfl⟩
theorem wrap_up (t : Nat) (h : t ≤ 64) : wrap64 ((t : Int) + 1) = ((t + 1 : Nat) : Int) := by unfold wrap64; omega
set_option maxHeartbeats 1000000 in
theorem joins_ok (n k : Nat) (hnk : n + k ≤ 4611686018427387904) : ∃ t, LOWS n t ∧ ∀ w, Tabled w → 0 < w.heap.size → Calls Tryd.prog 8 #[.int .u64 (n : Int), .int .u64 (k : Int)] w fun e w' =>
    ∃ v, e = .returned v ∧ w'.ownsRow w.heap.size 28 2 v (JF n k (62 - t) (t + 1)).length (SCELLS (JF n k (62 - t) (t + 1))) ∧ Below w.heap.size w w' := by
  obtain ⟨t, ht, ht0, hd, cl⟩ := low_nat n (by omega)
  refine ⟨t, ⟨ht, ht0, hd⟩, fun w hT h0 => ?_⟩
  have cl := cl w hT
  have ch := high_ok 4611686018427387904 (by decide)
  rw [LEN_most] at ch
  have hsm : n < 4611686018427387904 ∨ 62 ≤ t := by
    rcases Nat.lt_or_ge n 4611686018427387904 with h | h
    · exact .inl h
    · right
      obtain rfl : n = 4611686018427387904 := by omega
      exact (hd 62 (by omega)).1 (by decide)
  have HA : Aside (n + k ≤ 4611686018427387904 ∧ t ≤ 64 ∧ (n < 4611686018427387904 ∨ 62 ≤ t)) := ⟨hnk, ht, hsm⟩
  have hg1 : ¬ (4611686018427387904 : Int) < (n : Int) := by omega
  have hg2 : IntKind.u64.wrap (4611686018427387904 - (n : Int)) = ((4611686018427387904 - n : Nat) : Int) := by rw [wrapU]; omega
  have hg3 : ¬ ((4611686018427387904 - n : Nat) : Int) < (k : Int) := by omega
  obtain ⟨d, hdd⟩ : ∃ d, 4611686018427387904 - n = d := ⟨_, rfl⟩
  rw [hdd] at hg2 hg3
  obtain ⟨t1, ht1⟩ : ∃ t1, t + 1 = t1 := ⟨_, rfl⟩
  have hw : wrap64 ((t : Int) + 1) = (t1 : Int) := by rw [← ht1]; exact wrap_up t ht
  have HT1 : Aside (t + 1 = t1) := ht1
  clear hnk ht hsm hd ht0 hT h0 hdd ht1
  go_enter Tryd.func8, Tryd.ntmps8
  go_wp2_with fail
  refine cl.mono ?_
  rintro e w' ⟨rfl, rfl⟩
  clear cl
  go_wp2
  clear hw hg1 hg2 hg3
  go_loopg [5, 6] (65 - t) (fun g s5 s6 wx => ∃ (h : Nat) (pre : List (Nat × Nat)), s6 = .int .i64 (h : Int) ∧ Aside (h ≤ 65 ∧ g + h = 66 ∧ t + 1 ≤ h ∧ pre ++ JF n k (63 - h) h = JF n k (62 - t) (t + 1) ∧ pre.length ≤ 66 ∧ wx.ownsRow w.heap.size 28 2 s5 pre.length (SCELLS pre) ∧ Below w.heap.size w wx))
  case atStart =>
    have h64 := HA.out.2.1
    refine ⟨t + 1, [], by first | rfl | rw [wrap_up t h64], by omega, by omega, Nat.le_refl _, ?_, by simp, World.ownsRow_nil _ _ _ _, Below.refl _ _⟩
    rw [show 63 - (t + 1) = 62 - t by omega]
    rfl
  case round =>
    obtain ⟨h, pre, rfl, A⟩ := hrel
    obtain ⟨r1, r2, r3, r4, r5, r6, r7⟩ := A.out
    obtain ⟨a1, a2, a3⟩ := HA.out
    by_cases hle : h ≤ 62
    · have hle' : (h : Int) ≤ 62 := by omega
      have hN := Node.over (i := n) (by omega) h hle
      have ce := fun w => end_ok h (n / 2 ^ h) hN w
      obtain ⟨f, hf⟩ : ∃ f, 63 - h = f + 1 := ⟨62 - h, by omega⟩
      obtain ⟨E, hE⟩ : ∃ E, (n / 2 ^ h + 1) * 2 ^ h = E := ⟨_, rfl⟩
      obtain ⟨K, hK⟩ : ∃ K, n / 2 ^ h = K := ⟨_, rfl⟩
      have hJ : JF n k (63 - h) h = if E ≤ n + k then (h, K) :: JF n k (63 - (h + 1)) (h + 1) else [] := by
        rw [hf, ← hE, ← hK, show 63 - (h + 1) = f by omega]
        rfl
      rw [hJ] at r4
      rw [hE, hK] at ce
      have e8 : (h : Int) % 256 = (h : Int) := by omega
      have e9 : (n : Int) / 2 ^ min h 64 = (K : Int) := by rw [show min h 64 = h by omega, div_cast, hK]
      have e9' : (n : Int) / 2 ^ h = (K : Int) := by rw [div_cast, hK]
      have h00 : ¬ (h : Int) < 0 := by omega
      obtain ⟨S, hS⟩ : ∃ S, n + k = S := ⟨_, rfl⟩
      have hs : IntKind.u64.wrap ((n : Int) + (k : Int)) = (S : Int) := by rw [wrapU]; omega
      rw [hS] at r4
      by_cases hES : E ≤ S
      · have hES' : ¬ (S : Int) < (E : Int) := by omega
        have hES2 : ¬ S < E := by omega
        rw [if_pos hES] at r4
        have R : Aside (h + 1 ≤ 65 ∧ gk + h = 66 ∧ t + 1 ≤ h + 1 ∧ (pre ++ [(h, K)]) ++ JF n k (63 - (h + 1)) (h + 1) = JF n k (62 - t) (t + 1) ∧ pre.length + 1 ≤ 66 ∧ wr.ownsRow w.heap.size 28 2 u5 pre.length (SCELLS pre) ∧ Below w.heap.size w wr ∧ pre.length ≤ 1000 ∧ wrap64 ((h : Int) + 1) = ((h + 1 : Nat) : Int)) := ⟨by omega, r2, by omega, by rw [← r4]; simp, by have := congrArg List.length r4; have := JF_length n k (62 - t) (t + 1); simp at *; omega, r6, r7, by omega, wrap_up h (by omega)⟩
        clear r1 r2 r3 r4 r5 r6 r7 a1 a2 a3 hN hf hE hK hJ hS A hES hle
        go_wp2_with fail
        refine (ch _).mono ?_
        rintro e w' ⟨rfl, rfl⟩
        go_wp2_with fail
        refine (ce _).mono ?_
        rintro e w2 ⟨rfl, hb2⟩
        clear ce
        have hH := (Has.new wr #[.int .u8 (h : Int), .int .u64 (K : Int)] 28).keep hb2
        have hz0 : w2.cell? ⟨wr.heap.size, 0, none⟩ = some (.int .u8 (h : Int)) := hH.cell 0
        have hz1 : w2.cell? ⟨wr.heap.size, 1, none⟩ = some (.int .u64 (K : Int)) := hH.cell 1
        have O2 : Aside (Below w.heap.size w w2 ∧ w2.ownsRow w.heap.size 28 2 u5 pre.length (SCELLS pre)) := by
          have r7 := R.out.2.2.2.2.2.2.1
          exact ⟨(r7.alloc r7.size _).trans (hb2.mono (Nat.le_trans r7.size (by simp))), own_below (R.out.2.2.2.2.2.1.alloc _) hb2⟩
        clear hb2 hH
        go_wp2_with (at_builtin; refine app_spot _ rfl (.tmp 36) (.tmp 38) rfl w.heap.size u5 pre.length pre rfl (O2.out.2.alloc _) w2.heap.size 1 h K rfl ((Has.at _ _ _ (by simp)).cell 0) ((Has.at _ _ _ (by simp)).cell 1) R.out.2.2.2.2.2.2.2.1 (by have := O2.out.1.size; simp; omega) ?_; intro g' cap w3 hown hgrow hg)
        go_roundg (gk - 1)
        case measure => have := R.out.1; have := R.out.2.1; omega
        case rel =>
          obtain ⟨q1, q2, q3, q4, q5, q6, q7, q8, q9⟩ := R.out
          refine ⟨h + 1, pre ++ [(h, K)], by first | rfl | rw [q9], q1, ?_, q3, q4, by simpa using q5, by rw [List.length_append]; exact hown, (O2.out.1.alloc O2.out.1.size _).grown hgrow (by have := O2.out.1.size; simp; omega) (fun k e => (O2.out.2.lt k e).1)⟩
          clear q9
          omega
      · have hES' : (S : Int) < (E : Int) := by omega
        have hES2 : S < E := by omega
        rw [if_neg hES, List.append_nil] at r4
        have R : Aside (wr.ownsRow w.heap.size 28 2 u5 (JF n k (62 - t) (t + 1)).length (SCELLS (JF n k (62 - t) (t + 1))) ∧ Below w.heap.size w wr) := ⟨by rw [← r4]; exact r6, r7⟩
        clear r1 r2 r3 r4 r5 r6 r7 a1 a2 a3 hN hf hE hK hJ hS A hES hle
        go_wp2_with fail
        refine (ch _).mono ?_
        rintro e w' ⟨rfl, rfl⟩
        go_wp2_with fail
        refine (ce _).mono ?_
        rintro e w2 ⟨rfl, hb2⟩
        clear ce
        have O2 : Aside (Below w.heap.size w w2 ∧ w2.ownsRow w.heap.size 28 2 u5 (JF n k (62 - t) (t + 1)).length (SCELLS (JF n k (62 - t) (t + 1)))) := by
          have r7 := R.out.2
          exact ⟨(r7.alloc r7.size _).trans (hb2.mono (Nat.le_trans r7.size (by simp))), own_below (R.out.1.alloc _) hb2⟩
        clear hb2
        go_wp2
        go_ret
        exact ⟨_, rfl, O2.out.2, O2.out.1⟩
    · have hle' : ¬ (h : Int) ≤ 62 := by omega
      rw [show 63 - h = 0 by omega] at r4
      have r4' : pre = JF n k (62 - t) (t + 1) := by rw [← r4]; simp [JF]
      have R : Aside (wr.ownsRow w.heap.size 28 2 u5 (JF n k (62 - t) (t + 1)).length (SCELLS (JF n k (62 - t) (t + 1))) ∧ Below w.heap.size w wr) := ⟨by rw [← r4']; exact r6, r7⟩
      clear r1 r2 r3 r4 r5 r6 r7 a1 a2 a3 A hle r4'
      go_wp2_with fail
      refine (ch _).mono ?_
      rintro e w' ⟨rfl, rfl⟩
      go_wp2
      go_ret
      exact ⟨_, rfl, R.out.1, R.out.2⟩
end Go.Proofs.YthogidnbjdmaaaaDoor
