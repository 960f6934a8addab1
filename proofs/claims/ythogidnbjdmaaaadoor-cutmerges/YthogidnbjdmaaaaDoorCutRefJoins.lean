/- What the document's Joins answers. -/
import Derived.Test.YthogidnbjdmaaaaDoorCutJoins
import Derived.Test.YthogidnbjdmaaaaDoorPosRef
namespace Go.Proofs.YthogidnbjdmaaaaDoor
open Go.RowKit

theorem refjoins_great (n k : Int) (h : 4611686018427387904 < n) (w : World) : Calls Tryd.prog 6 #[.int .u64 n, .int .u64 k] w fun e w' => e = .returned (.slice none 0 0) ∧ w = w' := by
  go_enter Tryd.func6, Tryd.ntmps6
  go_wp2
  go_ret
  exact ⟨rfl, rfl⟩
theorem refjoins_far (n k d : Int) (h : ¬ 4611686018427387904 < n) (e : IntKind.u64.wrap (4611686018427387904 - n) = d) (h2 : d < k) (w : World) : Calls Tryd.prog 6 #[.int .u64 n, .int .u64 k] w fun e w' => e = .returned (.slice none 0 0) ∧ w = w' := by
  go_enter Tryd.func6, Tryd.ntmps6
  go_wp2
  go_ret
  exact ⟨rfl, rfl⟩
theorem JF_stop {n k h : Nat} (hk : n + k < (n / 2 ^ h + 1) * 2 ^ h) (f : Nat) : JF n k f h = [] ∧ ∀ f', JF n k f' (h + 1) = [] := by
  have key : ∀ g, n + k < (n / 2 ^ g + 1) * 2 ^ g → ∀ f, JF n k f g = [] := by
    intro g hg f
    cases f with
    | zero => rfl
    | succ f =>
      show (if _ then _ else _) = _
      rw [if_neg (by omega)]
  refine ⟨key h hk f, key (h + 1) ?_⟩
  have e : (n / 2 ^ (h + 1) + 1) * 2 ^ (h + 1) = (2 * (n / 2 ^ (h + 1) + 1)) * 2 ^ h := (double_pow _ _).symm
  have hle : (n / 2 ^ h + 1) * 2 ^ h ≤ (2 * (n / 2 ^ (h + 1) + 1)) * 2 ^ h := Nat.mul_le_mul_right _ (by rw [half_pow]; omega)
  omega
/-- what is left to come from the height h on. -/
def REST (n k t h : Nat) : List (Nat × Nat) := if h ≤ t then JF n k (62 - t) (t + 1) else JF n k (63 - h) h
theorem wrap_h (h : Nat) (hh : h ≤ 64) : wrap64 ((h : Int) + 1) = ((h + 1 : Nat) : Int) := by unfold wrap64; omega
theorem REST_step {n k t h : Nat} (hL : LOWS n t) (h1 : 1 ≤ h) (h2 : h ≤ 62) : REST n k t h = if n % 2 ^ h ≠ 0 ∧ (n / 2 ^ h + 1) * 2 ^ h ≤ n + k then (h, n / 2 ^ h) :: REST n k t (h + 1) else REST n k t (h + 1) := by
  have hm := hL.2.2 h (by omega)
  unfold REST
  by_cases hle : h ≤ t
  · rw [if_pos hle, if_neg (fun c => c.1 (hm.2 hle))]
    by_cases hle2 : h + 1 ≤ t
    · rw [if_pos hle2]
    · rw [if_neg hle2]
      obtain rfl : h = t := by omega
      rw [show 63 - (h + 1) = 62 - h by omega]
  · rw [if_neg hle, if_neg (show ¬ h + 1 ≤ t by omega)]
    by_cases hf : (n / 2 ^ h + 1) * 2 ^ h ≤ n + k
    · rw [if_pos ⟨fun c => hle (hm.1 c), hf⟩, show 63 - h = (63 - (h + 1)) + 1 by omega]
      show (if _ then _ else _) = _
      rw [if_pos hf]
    · rw [if_neg (fun c => hf c.2), (JF_stop (by omega) _).1, (JF_stop (by omega) 0).2]
set_option maxHeartbeats 1000000 in
theorem refjoins_ok (n k t : Nat) (hL : LOWS n t) (hnk : n + k ≤ 4611686018427387904) (w : World) : Calls Tryd.prog 6 #[.int .u64 (n : Int), .int .u64 (k : Int)] w fun e w' =>
    ∃ v, e = .returned v ∧ w'.ownsRow w.heap.size 28 2 v (JF n k (62 - t) (t + 1)).length (SCELLS (JF n k (62 - t) (t + 1))) ∧ Below w.heap.size w w' := by
  have HA : Aside (LOWS n t ∧ n + k ≤ 4611686018427387904) := ⟨hL, hnk⟩
  have hg1 : ¬ (4611686018427387904 : Int) < (n : Int) := by omega
  have hg2 : IntKind.u64.wrap (4611686018427387904 - (n : Int)) = ((4611686018427387904 - n : Nat) : Int) := by rw [wrapU]; omega
  have hg3 : ¬ ((4611686018427387904 - n : Nat) : Int) < (k : Int) := by omega
  obtain ⟨d, hdd⟩ : ∃ d, 4611686018427387904 - n = d := ⟨_, rfl⟩
  rw [hdd] at hg2 hg3
  clear hdd hL hnk
  go_enter Tryd.func6, Tryd.ntmps6
  go_wp2
  clear hg1 hg2 hg3
  go_loopg [5, 6] 62 (fun g s5 s6 wx => ∃ (h : Nat) (pre : List (Nat × Nat)), s6 = .int .i64 (h : Int) ∧ Aside (1 ≤ h ∧ h + g = 63 ∧ pre ++ REST n k t h = JF n k (62 - t) (t + 1) ∧ wx.ownsRow w.heap.size 28 2 s5 pre.length (SCELLS pre) ∧ Below w.heap.size w wx))
  case atStart =>
    refine ⟨1, [], rfl, Nat.le_refl _, rfl, ?_, World.ownsRow_nil _ _ _ _, Below.refl _ _⟩
    unfold REST
    by_cases h : 1 ≤ t
    · rw [if_pos h]; rfl
    · rw [if_neg h]
      obtain rfl : t = 0 := by omega
      rfl
  case round =>
    obtain ⟨h, pre, rfl, A⟩ := hrel
    obtain ⟨r1, r2, r3, r4, r5⟩ := A.out
    cases gk with
    | zero =>
      obtain rfl : h = 63 := by omega
      have e : REST n k t 63 = [] := by
        unfold REST
        by_cases c : 63 ≤ t
        · rw [if_pos c, show 62 - t = 0 by omega]; rfl
        · rw [if_neg c]; rfl
      rw [e, List.append_nil] at r3
      have R : Aside (wr.ownsRow w.heap.size 28 2 u5 (JF n k (62 - t) (t + 1)).length (SCELLS (JF n k (62 - t) (t + 1))) ∧ Below w.heap.size w wr) := ⟨by rw [← r3]; exact r4, r5⟩
      clear r1 r2 r3 r4 r5 A e
      go_wp2
      go_ret
      exact ⟨_, rfl, R.out.1, R.out.2⟩
    | succ g =>
      have hle' : (h : Int) ≤ 62 := by omega
      obtain ⟨a1, a2⟩ := HA.out
      have hst := REST_step (k := k) a1 r1 (show h ≤ 62 by omega)
      have cp := power_ok h (by omega)
      have hpp := Nat.two_pow_pos h
      have hp62 : 2 ^ h ≤ 4611686018427387904 := Nat.le_trans (Nat.pow_le_pow_right (by decide) (show h ≤ 62 by omega)) (by decide)
      have hmul : n / 2 ^ h * 2 ^ h ≤ n := Nat.div_mul_le_self _ _
      have hE1 : (n / 2 ^ h + 1) * 2 ^ h = n / 2 ^ h * 2 ^ h + 2 ^ h := by rw [Nat.add_mul, Nat.one_mul]
      obtain ⟨P, hP⟩ : ∃ P, 2 ^ h = P := ⟨_, rfl⟩
      rw [hP] at hst cp hpp hp62 hmul hE1
      obtain ⟨K, hK⟩ : ∃ K, n / P = K := ⟨_, rfl⟩
      obtain ⟨r, hr⟩ : ∃ r, n % P = r := ⟨_, rfl⟩
      have hq1 : (n : Int) / (P : Int) = (K : Int) := by rw [← Int.natCast_ediv, hK]
      have hq2 : (n : Int).tdiv (P : Int) = (K : Int) := by rw [Int.tdiv_eq_ediv_of_nonneg (Int.natCast_nonneg n)]; exact hq1
      have hr1 : (n : Int) % (P : Int) = (r : Int) := by rw [← Int.natCast_emod, hr]
      have hr2 : (n : Int).tmod (P : Int) = (r : Int) := by rw [Int.tmod_eq_emod_of_nonneg (Int.natCast_nonneg n)]; exact hr1
      have hKn : K ≤ n := by rw [← hK]; exact Nat.div_le_self _ _
      rw [hK] at hst hmul hE1
      rw [hr] at hst
      obtain ⟨E, hE⟩ : ∃ E, (K + 1) * P = E := ⟨_, rfl⟩
      obtain ⟨M, hM⟩ : ∃ M, K * P = M := ⟨_, rfl⟩
      rw [hE, hM] at hE1
      rw [hM] at hmul
      rw [hE] at hst
      obtain ⟨S, hS⟩ : ∃ S, n + k = S := ⟨_, rfl⟩
      rw [hS] at hst
      obtain ⟨K1, hK1⟩ : ∃ K1, K + 1 = K1 := ⟨_, rfl⟩
      have hmi : (K1 : Int) * (P : Int) = (E : Int) := by rw [← hE, ← hK1]; exact (Int.natCast_mul _ _).symm
      have hpn : ¬ P = 0 := by omega
      have hpi : ¬ (P : Int) = 0 := by omega
      have hpb : ((P : Int) == 0) = false := by simp; omega
      have e8 : (h : Int) % 256 = (h : Int) := by omega
      have hpre : pre.length ≤ 1000 := by
        have h1 := congrArg List.length r3
        have h2 := JF_length n k (62 - t) (t + 1)
        rw [List.length_append] at h1
        omega
      have HQ : Aside (IntKind.u64.wrap (K : Int) = (K : Int) ∧ IntKind.u64.wrap ((K : Int) + 1) = (K1 : Int) ∧ IntKind.u64.wrap (E : Int) = (E : Int) ∧ IntKind.u64.wrap ((n : Int) + (k : Int)) = (S : Int) ∧ IntKind.u64.wrap (r : Int) = (r : Int)) := by
        have hrn : r ≤ n := by rw [← hr]; exact Nat.mod_le _ _
        exact ⟨by rw [wrapU]; omega, by rw [wrapU]; omega, by rw [wrapU]; omega, by rw [wrapU]; omega, by rw [wrapU]; omega⟩
      have R : Aside (h + 1 + g = 63 ∧ wr.ownsRow w.heap.size 28 2 u5 pre.length (SCELLS pre) ∧ Below w.heap.size w wr ∧ pre.length ≤ 1000 ∧ wrap64 ((h : Int) + 1) = ((h + 1 : Nat) : Int)) := ⟨by omega, r4, r5, hpre, wrap_h h (by omega)⟩
      by_cases hc : r ≠ 0 ∧ E ≤ S
      · rw [if_pos hc] at hst
        have V : Aside ((pre ++ [(h, K)]) ++ REST n k t (h + 1) = JF n k (62 - t) (t + 1)) := by
          show (pre ++ [(h, K)]) ++ REST n k t (h + 1) = JF n k (62 - t) (t + 1)
          rw [← r3, hst]
          simp
        have c1 : ¬ r = 0 := hc.1
        have c1' : ¬ (r : Int) = 0 := by omega
        have c2 : E ≤ S := hc.2
        have c2' : (E : Int) ≤ (S : Int) := by omega
        clear r1 r2 r3 r4 r5 A a1 a2 hst hpp hp62 hmul hE1 hP hK hr hKn hE hM hS hK1 hpre hc
        have hs1 := HQ.out.1
        have hs2 := HQ.out.2.1
        have hs3 := HQ.out.2.2.1
        have hs4 := HQ.out.2.2.2.1
        have hs5 := HQ.out.2.2.2.2
        go_wp2_with fail
        refine (cp _).mono ?_
        rintro e w' ⟨rfl, rfl⟩
        go_wp2_with (at_builtin; refine app_spot _ rfl (.tmp 45) (.tmp 47) rfl w.heap.size u5 pre.length pre rfl ((R.out.2.1.alloc _).alloc _) _ 1 h K rfl ((Has.at _ _ _ (by simp)).cell 0) ((Has.at _ _ _ (by simp)).cell 1) R.out.2.2.2.1 (Nat.le_trans R.out.2.2.1.size (by simp; omega)) ?_; intro g' cap w1 hown hgrow hg)
        go_roundg g
        case measure => exact Nat.lt_succ_self _
        case rel =>
          obtain ⟨q1, q2, q3, q4, q5⟩ := R.out
          exact ⟨h + 1, pre ++ [(h, K)], by first | rfl | rw [q5], Nat.le_add_left _ _, q1, V.out, by rw [List.length_append]; exact hown, ((q3.alloc q3.size _).alloc (Nat.le_trans q3.size (by simp)) _).grown hgrow (Nat.le_trans q3.size (by simp; omega)) (fun k e => (q2.lt k e).1)⟩
      · rw [if_neg hc] at hst
        have V : Aside (pre ++ REST n k t (h + 1) = JF n k (62 - t) (t + 1)) := by
          show pre ++ REST n k t (h + 1) = JF n k (62 - t) (t + 1)
          rw [← r3, hst]
        have hcase : r = 0 ∨ (¬ r = 0 ∧ ¬ (r : Int) = 0 ∧ ¬ E ≤ S ∧ ¬ (E : Int) ≤ (S : Int)) := by
          by_cases c : r = 0
          · exact .inl c
          · have : ¬ E ≤ S := fun c2 => hc ⟨c, c2⟩
            exact .inr ⟨c, by omega, this, by omega⟩
        clear r1 r2 r3 r4 r5 A a1 a2 hst hpp hp62 hmul hE1 hP hK hr hKn hE hM hS hK1 hpre hc
        rcases hcase with rfl | ⟨c1, c1', c2, c2'⟩
        all_goals
          have hs1 := HQ.out.1
          have hs2 := HQ.out.2.1
          have hs3 := HQ.out.2.2.1
          have hs4 := HQ.out.2.2.2.1
          have hs5 := HQ.out.2.2.2.2
          go_wp2_with fail
          refine (cp _).mono ?_
          rintro e w' ⟨rfl, rfl⟩
          go_wp2
          go_roundg g
          case measure => exact Nat.lt_succ_self _
          case rel =>
            obtain ⟨q1, q2, q3, q4, q5⟩ := R.out
            exact ⟨h + 1, pre, by first | rfl | rw [q5], Nat.le_add_left _ _, q1, V.out, q2.alloc _, q3.alloc q3.size _⟩
end Go.Proofs.YthogidnbjdmaaaaDoor
