/- Texts of ProofWrites, one behind the other: CutRefSpan. -/
import Derived.Test.YtfjmbfppilfepaaDoorProofWritesP9
import Derived.Test.YtfjmbfppilfepaaDoorProofWritesP14
/- What the document's Span answers. -/
namespace Go.Proofs.YtfjmbfppilfepaaDoor
open Go.RowKit

theorem refspan_none (a b : Nat) (h : b ≤ a ∨ 4611686018427387904 < b) (w : World) : Calls Tryd.prog 91 #[.int .u64 (a : Int), .int .u64 (b : Int)] w fun e w' => e = .returned (.slice none 0 0) ∧ w = w' := by
  have hg1 : b ≤ a ∨ (¬ b ≤ a ∧ (4611686018427387904 : Int) < (b : Int)) := by
    by_cases c : b ≤ a
    · exact .inl c
    · exact .inr ⟨c, by omega⟩
  clear h
  rcases hg1 with hg1 | ⟨hg1, hg2⟩
  all_goals
    go_enter Tryd.func91, Tryd.ntmps91
    go_wp2
    go_ret
    exact ⟨rfl, rfl⟩
theorem wrap_near' (h : Nat) (hh : h < 62) : wrap64 ((h + 1 : Nat) : Int) = ((h + 1 : Nat) : Int) := by unfold wrap64; omega
theorem wrap_pow (h : Nat) (hh : h ≤ 62) : wrap64 ((h : Int) + 1) = ((h + 1 : Nat) : Int) := by unfold wrap64; omega
set_option maxHeartbeats 1000000 in
theorem refspan_ok (a b : Nat) (hab : a < b) (hb : b ≤ 4611686018427387904) (w : World) : Calls Tryd.prog 91 #[.int .u64 (a : Int), .int .u64 (b : Int)] w fun e w' =>
    ∃ v, e = .returned v ∧ w'.ownsRow w.heap.size 99 2 v (SPAN a b).length (SCELLS (SPAN a b)) ∧ Below w.heap.size w w' := by
  have HB : Aside (b ≤ 4611686018427387904) := hb
  have hg1 : ¬ b ≤ a := by omega
  have hg2 : ¬ (4611686018427387904 : Int) < (b : Int) := by omega
  go_enter Tryd.func91, Tryd.ntmps91
  go_wp2
  clear hg1 hg2
  go_loopg [0, 5] (b - a) (fun g s0 s5 wx => ∃ (c : Nat) (pre : List (Nat × Nat)), s0 = .int .u64 (c : Int) ∧ Aside (g = b - c ∧ c ≤ b ∧ pre ++ SPAN c b = SPAN a b ∧ wx.ownsRow w.heap.size 99 2 s5 pre.length (SCELLS pre) ∧ Below w.heap.size w wx))
  case atStart => exact ⟨a, [], rfl, rfl, Nat.le_of_lt hab, rfl, World.ownsRow_nil _ _ _ _, Below.refl _ _⟩
  case round =>
    obtain ⟨c, pre, rfl, A⟩ := hrel
    obtain ⟨hg, hc, hp, hown, hbel⟩ := A.out
    by_cases hlt : c < b
    · have hlt' : (c : Int) < (b : Int) := by omega
      obtain ⟨s1, s2, s3⟩ := HT_spec hlt hb
      have hsp := SPAN_step hlt
      have hpos := Nat.two_pow_pos (HT c b)
      have hpl : pre.length ≤ 1000 := by
        have := congrArg List.length hp
        have := SPAN_length (a := a) hb
        rw [List.length_append] at *
        omega
      obtain ⟨HH, hHH⟩ : ∃ HH, HT c b = HH := ⟨_, rfl⟩
      rw [hHH] at s1 s2 s3 hsp hpos
      have R : Aside (gk = b - c ∧ c ≤ b ∧ pre ++ SPAN c b = SPAN a b ∧ wr.ownsRow w.heap.size 99 2 u5 pre.length (SCELLS pre) ∧ Below w.heap.size w wr ∧ HH ≤ 62 ∧ Fit c HH b ∧ ¬ Fit c (HH + 1) b ∧ 0 < 2 ^ HH ∧ pre.length ≤ 1000 ∧ SPAN c b = (HH, c / 2 ^ HH) :: SPAN (c + 2 ^ HH) b) := ⟨hg, hc, hp, hown, hbel, s1, s2, s3, hpos, hpl, hsp⟩
      clear s1 s2 s3 hsp hpos hpl hg hc hp hown hbel A hHH hlt
      go_wp2
      go_loopg [6] HH (fun g s6 wx => ∃ h : Nat, s6 = .int .i64 (h : Int) ∧ h + g = HH ∧ wx = wr)
      case atStart => exact ⟨0, rfl, by omega, rfl⟩
      case round =>
        obtain ⟨h, rfl, hh, rfl⟩ := hrel
        obtain ⟨q1, q2, q3, q4, q5, q6, q7, q8, q9, q10, q11⟩ := R.out
        obtain ⟨d, hd⟩ : ∃ d, b - c = d := ⟨_, rfl⟩
        have HES : Aside (IntKind.u64.wrap ((b : Int) - (c : Int)) = (d : Int)) := by
          show IntKind.u64.wrap ((b : Int) - (c : Int)) = (d : Int)
          rw [wrapU]
          omega
        have hz0 : (0 : Int) ≤ (h : Int) := Int.natCast_nonneg h
        have cp0 := power_ok h (by omega)
        obtain ⟨P0, hP0⟩ : ∃ P0, 2 ^ h = P0 := ⟨_, rfl⟩
        rw [hP0] at cp0
        cases gk with
        | zero =>
          obtain rfl : h = HH := by omega
          have hP0p : 0 < P0 := by rw [← hP0]; exact q9
          have hP0n : ¬ P0 = 0 := Nat.ne_of_gt hP0p
          have hP0i : ¬ (P0 : Int) = 0 := fun e => hP0n (Int.ofNat.inj e)
          have hP0' : ((P0 : Int) == 0) = false := by simp; exact hP0n
          obtain ⟨K, hK⟩ : ∃ K, c / P0 = K := ⟨_, rfl⟩
          have hq1 : (c : Int) / (P0 : Int) = (K : Int) := by rw [← Int.natCast_ediv, hK]
          have hq2 : (c : Int).tdiv (P0 : Int) = (K : Int) := by rw [Int.tdiv_eq_ediv_of_nonneg (Int.natCast_nonneg c)]; exact hq1
          have hKc : K ≤ c := by rw [← hK]; exact Nat.div_le_self _ _
          have hb62 := HB.out
          have hf2 := q7.2
          rw [hP0] at hf2 q11 q9
          rw [hK] at q11
          obtain ⟨c', hc'⟩ : ∃ c', c + P0 = c' := ⟨_, rfl⟩
          rw [hc'] at q11 hf2
          have hc2 : c' < 2 ^ 64 := by omega
          have e8 : (h : Int) % 256 = (h : Int) := by omega
          have HQ : Aside (IntKind.u64.wrap (K : Int) = (K : Int) ∧ IntKind.u64.wrap ((c : Int) + (P0 : Int)) = (c' : Int)) := ⟨by rw [wrapU]; omega, by rw [wrapU]; omega⟩
          have U : Aside (gk = b - c ∧ c' ≤ b ∧ b - c' < gk ∧ (pre ++ [(h, K)]) ++ SPAN c' b = SPAN a b) := ⟨q1, hf2, by omega, by rw [← q3, q11]; simp⟩
          have hcase : (¬ (h : Int) < 62) ∨ ((h : Int) < 62 ∧ ∃ (h1 P1 r : Nat), (h : Int) + 1 = (h1 : Int) ∧ Aside (wrap64 (h1 : Int) = (h1 : Int)) ∧ ¬ P1 = 0 ∧ ¬ (P1 : Int) = 0 ∧ ((P1 : Int) == 0) = false ∧ (∀ w, Calls Tryd.prog 108 #[.int .i64 (h1 : Int)] w fun e w' => e = .returned (.int .u64 (P1 : Int)) ∧ w = w') ∧ (c : Int) % (P1 : Int) = (r : Int) ∧ (c : Int).tmod (P1 : Int) = (r : Int) ∧ (((r : Int) == 0) = false ∧ ¬ r = 0 ∨ r = 0 ∧ ¬ P1 ≤ d ∧ ¬ (P1 : Int) ≤ (d : Int) ∧ ¬ (P1 : Int) ≤ (b : Int) - (c : Int))) := by
            by_cases h62 : (h : Int) < 62
            · right
              have hpp := Nat.two_pow_pos (h + 1)
              have e1 : (c : Int) % ((2 ^ (h + 1) : Nat) : Int) = ((c % 2 ^ (h + 1) : Nat) : Int) := (Int.natCast_emod _ _).symm
              refine ⟨h62, h + 1, 2 ^ (h + 1), c % 2 ^ (h + 1), rfl, wrap_near' h (by omega), Nat.ne_of_gt hpp, fun e => Nat.ne_of_gt hpp (Int.ofNat.inj e), ?_, power_ok (h + 1) (by omega), e1, by rw [Int.tmod_eq_emod_of_nonneg (Int.natCast_nonneg c)]; exact e1, ?_⟩
              · rw [beq_eq_false_iff_ne]
                exact fun e => Nat.ne_of_gt hpp (Int.ofNat.inj e)
              · by_cases hm : c % 2 ^ (h + 1) = 0
                · right
                  have hn : ¬ 2 ^ (h + 1) ≤ d := fun hle => q8 ⟨hm, by omega⟩
                  exact ⟨hm, hn, fun e => hn (Int.ofNat_le.1 e), by omega⟩
                · left
                  refine ⟨?_, hm⟩
                  rw [beq_eq_false_iff_ne]
                  exact fun e => hm (Int.ofNat.inj e)
            · exact .inl h62
          clear q1 q2 q3 q6 q7 q8 q9 q11 hP0p hK hKc hb62 hf2 hc2 hd hh hP0 hc'
          rcases hcase with h62 | ⟨h62, h1, P1, r, hh1', HH2, hp1, hp2, hp3, cp1, hr1, hr2, hh3⟩
          · clear q4 q5 q10
            have hq3 := HQ.out.1
            have hq4 := HQ.out.2
            go_wp2_with fail
            refine (cp0 _).mono ?_
            rintro e w' ⟨rfl, rfl⟩
            go_wp2_with (at_builtin; refine app_spot _ rfl (.tmp 39) (.tmp 47) rfl w.heap.size u5 pre.length pre rfl (R.out.2.2.2.1.alloc _) _ 1 h K rfl ((Has.at _ _ _ (by simp)).cell 0) ((Has.at _ _ _ (by simp)).cell 1) R.out.2.2.2.2.2.2.2.2.2.1 (Nat.le_trans R.out.2.2.2.2.1.size (by simp)) ?_; intro g' cap w1 hown hgrow hg)
            refine (cp0 _).mono ?_
            rintro e w' ⟨rfl, rfl⟩
            clear hq3
            go_wp2
            go_roundg (b - c')
            case measure => exact U.out.2.2.1
            case rel =>
              obtain ⟨u1, u2, u3, u4⟩ := U.out
              have r5 := R.out.2.2.2.2.1
              exact ⟨c', pre ++ [(h, K)], rfl, rfl, u2, u4, by rw [List.length_append]; exact hown, (r5.alloc r5.size _).grown hgrow (Nat.le_trans r5.size (by simp)) (fun k e => (R.out.2.2.2.1.lt k e).1)⟩
          · have hh2' := HH2.out
            clear q4 q5 q10
            rcases hh3 with ⟨hr3, hr4⟩ | ⟨rfl, hd1, hd2, hd3⟩
            · have hr5 : ¬ (c : Int).tmod (P1 : Int) = 0 := fun e => hr4 (Int.ofNat.inj (hr2.symm.trans e))
              have hr6 : ¬ (c : Int) % (P1 : Int) = 0 := fun e => hr4 (Int.ofNat.inj (hr1.symm.trans e))
              clear hr1 hr2 hr3 hr4
              go_wp2_with fail
              refine (cp1 _).mono ?_
              rintro e w' ⟨rfl, rfl⟩
              clear hh2' hh1'
              have hq3 := HQ.out.1
              have hq4 := HQ.out.2
              go_wp2_with fail
              refine (cp0 _).mono ?_
              rintro e w' ⟨rfl, rfl⟩
              go_wp2_with (at_builtin; refine app_spot _ rfl (.tmp 39) (.tmp 47) rfl w.heap.size u5 pre.length pre rfl (R.out.2.2.2.1.alloc _) _ 1 h K rfl ((Has.at _ _ _ (by simp)).cell 0) ((Has.at _ _ _ (by simp)).cell 1) R.out.2.2.2.2.2.2.2.2.2.1 (Nat.le_trans R.out.2.2.2.2.1.size (by simp)) ?_; intro g' cap w1 hown hgrow hg)
              refine (cp0 _).mono ?_
              rintro e w' ⟨rfl, rfl⟩
              clear hq3
              go_wp2
              go_roundg (b - c')
              case measure => exact U.out.2.2.1
              case rel =>
                obtain ⟨u1, u2, u3, u4⟩ := U.out
                have r5 := R.out.2.2.2.2.1
                exact ⟨c', pre ++ [(h, K)], rfl, rfl, u2, u4, by rw [List.length_append]; exact hown, (r5.alloc r5.size _).grown hgrow (Nat.le_trans r5.size (by simp)) (fun k e => (R.out.2.2.2.1.lt k e).1)⟩
            · have hes := HES.out
              go_wp2_with fail
              refine (cp1 _).mono ?_
              rintro e w' ⟨rfl, rfl⟩
              go_wp2_with fail
              refine (cp1 _).mono ?_
              rintro e w' ⟨rfl, rfl⟩
              clear hh2' hh1' hes
              have hq3 := HQ.out.1
              have hq4 := HQ.out.2
              go_wp2_with fail
              refine (cp0 _).mono ?_
              rintro e w' ⟨rfl, rfl⟩
              go_wp2_with (at_builtin; refine app_spot _ rfl (.tmp 39) (.tmp 47) rfl w.heap.size u5 pre.length pre rfl (R.out.2.2.2.1.alloc _) _ 1 h K rfl ((Has.at _ _ _ (by simp)).cell 0) ((Has.at _ _ _ (by simp)).cell 1) R.out.2.2.2.2.2.2.2.2.2.1 (Nat.le_trans R.out.2.2.2.2.1.size (by simp)) ?_; intro g' cap w1 hown hgrow hg)
              refine (cp0 _).mono ?_
              rintro e w' ⟨rfl, rfl⟩
              clear hq3
              go_wp2
              go_roundg (b - c')
              case measure => exact U.out.2.2.1
              case rel =>
                obtain ⟨u1, u2, u3, u4⟩ := U.out
                have r5 := R.out.2.2.2.2.1
                exact ⟨c', pre ++ [(h, K)], rfl, rfl, u2, u4, by rw [List.length_append]; exact hown, (r5.alloc r5.size _).grown hgrow (Nat.le_trans r5.size (by simp)) (fun k e => (R.out.2.2.2.1.lt k e).1)⟩
        | succ g =>
          have h62 : (h : Int) < 62 := by omega
          have hf := q7.le (h + 1) (by omega)
          have cp1 := power_ok (h + 1) (by omega)
          have HW : Aside (wrap64 ((h : Int) + 1) = ((h + 1 : Nat) : Int)) := wrap_pow h (by omega)
          obtain ⟨P1, hP1⟩ : ∃ P1, 2 ^ (h + 1) = P1 := ⟨_, rfl⟩
          obtain ⟨h1, hh1⟩ : ∃ h1, h + 1 = h1 := ⟨_, rfl⟩
          have hf1 := hf.1
          have hf2 := hf.2
          rw [hP1] at hf1 hf2 cp1
          rw [hh1] at cp1 HW
          have hP1p : 0 < P1 := by rw [← hP1]; exact Nat.two_pow_pos _
          have hr1 : (c : Int) % (P1 : Int) = 0 := by rw [← Int.natCast_emod, hf1]; rfl
          clear hf1
          have hr2 : (c : Int).tmod (P1 : Int) = 0 := by rw [Int.tmod_eq_emod_of_nonneg (Int.natCast_nonneg c)]; exact hr1
          have hP0n : ¬ P1 = 0 := Nat.ne_of_gt hP1p
          have hP0i : ¬ (P1 : Int) = 0 := fun e => hP0n (Int.ofNat.inj e)
          have hP0' : ((P1 : Int) == 0) = false := by simp; exact hP0n
          have hle : P1 ≤ d := Nat.le_of_add_le_add_left (a := c) (by rw [← hd, Nat.add_sub_cancel' q2]; exact hf2)
          have hle' : (P1 : Int) ≤ (d : Int) := Int.ofNat_le.2 hle
          have hh1' : (h : Int) + 1 = (h1 : Int) := by rw [← hh1]; rfl
          have hh2' : wrap64 (h1 : Int) = (h1 : Int) := by have := HW.out; rw [hh1'] at this; exact this
          have V : Aside (h1 + g = HH) := by rw [← hh, ← hh1, Nat.add_assoc, Nat.add_comm 1 g]; rfl
          clear q1 q2 q3 q4 q5 q6 q7 q8 q9 q10 q11 hf hf2 hP1 hh1 hP1p hd hh hP0 cp0
          have hes := HES.out
          go_wp2_with fail
          refine (cp1 _).mono ?_
          rintro e w' ⟨rfl, rfl⟩
          go_wp2_with fail
          refine (cp1 _).mono ?_
          rintro e w' ⟨rfl, rfl⟩
          go_wp2
          go_roundg g
          case measure => exact Nat.lt_succ_self _
          case rel => exact ⟨h1, rfl, V.out, rfl⟩
    · have hlt' : ¬ (c : Int) < (b : Int) := by omega
      rw [SPAN_end (a := c) (by omega), List.append_nil] at hp
      have R : Aside (wr.ownsRow w.heap.size 99 2 u5 (SPAN a b).length (SCELLS (SPAN a b)) ∧ Below w.heap.size w wr) := ⟨by rw [← hp]; exact hown, hbel⟩
      clear hg hc hp hown hbel A
      go_wp2
      go_ret
      exact ⟨u5, rfl, R.out.1, R.out.2⟩
end Go.Proofs.YtfjmbfppilfepaaDoor
