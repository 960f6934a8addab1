/- What Span answers. -/
import Derived.Test.YtddmfpiflnjmjaaDoorCutHas
namespace Go.Proofs.YtddmfpiflnjmjaaDoor
open Go.RowKit

theorem span_not (a b : Int) (hb : 4611686018427387904 < b) (w : World) : Calls Tryd.prog 45 #[.int .u64 a, .int .u64 b] w fun e w' => e = .returned (.slice none 0 0) ∧ w = w' := by
  go_enter Tryd.func45, Tryd.ntmps45
  go_wp2
  go_ret
  exact ⟨rfl, rfl⟩
set_option maxHeartbeats 1000000 in
theorem span_ok (a b : Nat) (ha : a < 2 ^ 64) (hb : b ≤ 4611686018427387904) (w : World) (hT : Tabled w) (h0 : 0 < w.heap.size) : Calls Tryd.prog 45 #[.int .u64 (a : Int), .int .u64 (b : Int)] w fun e w' =>
    ∃ v, e = .returned v ∧ w'.ownsRow w.heap.size 76 2 v (SPAN a b).length (SCELLS (SPAN a b)) ∧ Below w.heap.size w w' := by
  have HA : Aside (b ≤ 4611686018427387904 ∧ Tabled w ∧ 0 < w.heap.size) := ⟨hb, hT, h0⟩
  have hd : ¬ (4611686018427387904 : Int) < (b : Int) := by omega
  clear hT h0
  go_enter Tryd.func45, Tryd.ntmps45
  go_wp2
  go_loopg [0, 5] (b - a) (fun g s0 s5 wx => ∃ (c : Nat) (pre : List (Nat × Nat)), s0 = .int .u64 (c : Int) ∧ Aside (g = b - c ∧ c < 2 ^ 64 ∧ pre ++ SPAN c b = SPAN a b ∧ wx.ownsRow w.heap.size 76 2 s5 pre.length (SCELLS pre) ∧ Below w.heap.size w wx))
  case atStart => exact ⟨a, [], rfl, rfl, ha, rfl, World.ownsRow_nil _ _ _ _, Below.refl _ _⟩
  case round =>
    obtain ⟨c, pre, rfl, A⟩ := hrel
    obtain ⟨hg, hc, hp, hown, hbel⟩ := A.out
    by_cases hlt : c < b
    · have hlt' : (c : Int) < (b : Int) := by omega
      obtain ⟨t, ht, _, hd2, cl⟩ := low_nat c hc
      have hm := HT_min hlt hb ht hd2
      have ch := high_ok (b - c) (by omega)
      obtain ⟨s1, s2, s3⟩ := HT_spec hlt hb
      obtain ⟨n1, n2, n3⟩ := s2.node s1 hb
      have es : IntKind.u64.wrap ((b : Int) - (c : Int)) = ((b - c : Nat) : Int) := by rw [wrapU]; omega
      replace cl := cl wr (HA.out.2.1.below HA.out.2.2 hbel)
      have ce := fun w => end_ok (HT c b) (c / 2 ^ HT c b) n1 w
      rw [n3] at ce
      have hsp := SPAN_step hlt
      have e8 : ((HT c b : Nat) : Int) % 256 = ((HT c b : Nat) : Int) := by omega
      have e9 : (c : Int) / 2 ^ min (HT c b) 64 = ((c / 2 ^ HT c b : Nat) : Int) := by rw [show min (HT c b) 64 = HT c b by omega, div_cast]
      have hpos := Nat.two_pow_pos (HT c b)
      have R : Aside (gk = b - c ∧ c < 2 ^ 64 ∧ pre ++ SPAN c b = SPAN a b ∧ wr.ownsRow w.heap.size 76 2 u5 pre.length (SCELLS pre) ∧ Below w.heap.size w wr ∧ c + 2 ^ HT c b ≤ b ∧ 0 < 2 ^ HT c b ∧ pre.length ≤ 1000 ∧ SPAN c b = (HT c b, c / 2 ^ HT c b) :: SPAN (c + 2 ^ HT c b) b) := ⟨hg, hc, hp, hown, hbel, s2.2, hpos, by have := congrArg List.length hp; have := SPAN_length (a := a) hb; rw [List.length_append] at *; omega, hsp⟩
      have h0 : ¬ ((HT c b : Nat) : Int) < 0 := by omega
      obtain ⟨u, hu⟩ : ∃ u : Int, ((LEN (b - c) : Nat) : Int) - 1 = u := ⟨_, rfl⟩
      rw [hu] at hm ch
      obtain ⟨H, hH⟩ : ∃ H, HT c b = H := ⟨_, rfl⟩
      obtain ⟨K, hK⟩ : ∃ K, c / 2 ^ H = K := ⟨_, rfl⟩
      obtain ⟨c', hc'⟩ : ∃ c', c + 2 ^ H = c' := ⟨_, rfl⟩
      rw [hH] at hm ce e8 e9 R h0
      rw [hK] at ce e9 R
      rw [hc'] at ce R
      have hcase : (H = t ∧ (H : Int) ≤ u) ∨ (u = (H : Int) ∧ ¬ (t : Int) ≤ (H : Int)) := by
        rcases Int.le_total (t : Int) u with h | h
        · rw [Int.min_eq_left h] at hm
          exact .inl ⟨by omega, by omega⟩
        · rw [Int.min_eq_right h] at hm
          by_cases h2 : (t : Int) = u
          · exact .inl ⟨by omega, by omega⟩
          · exact .inr ⟨by omega, by omega⟩
      have R2 : Aside (c + 2 ^ H = c') := hc'
      clear hd2 ht s1 s2 s3 n1 n2 n3 hg hc hp hown hbel hm hu hH hK hc' hsp hpos A hlt
      rcases hcase with ⟨rfl, hle⟩ | ⟨rfl, hle⟩
      all_goals
        go_wp2_with fail
        refine cl.mono ?_
        rintro e w' ⟨rfl, rfl⟩
        clear cl
        go_wp2_with fail
        refine (ch _).mono ?_
        rintro e w' ⟨rfl, rfl⟩
        clear ch
        go_wp2_with (at_builtin; refine app_spot _ rfl (.tmp 26) (.tmp 28) rfl w.heap.size u5 pre.length pre rfl ((R.out.2.2.2.1.alloc _).alloc _) (wr.heap.size + 1) 1 H K rfl ((Has.at _ _ _ (by simp)).cell 0) ((Has.at _ _ _ (by simp)).cell 1) R.out.2.2.2.2.2.2.2.1 (by have := R.out.2.2.2.2.1.size; simp; omega) ?_; intro g' cap w1 hown hgrow hg; have hH1 := kept_new R.out.2.2.2.1 hgrow; have hx0 : w1.cell? ⟨wr.heap.size, 0, none⟩ = some (.int .u8 (H : Int)) := hH1.cell 0; have hx1 : w1.cell? ⟨wr.heap.size, 1, none⟩ = some (.int .u64 (K : Int)) := hH1.cell 1)
        obtain ⟨r1, r2, r3, r4, r5, r6, r7, r8, r9⟩ := R.out
        have hr2 := R2.out
        have R3 : Aside (c' < 2 ^ 64 ∧ b - c' < gk ∧ (pre ++ [(H, K)]) ++ SPAN c' b = SPAN a b ∧ w1.ownsRow w.heap.size 76 2 (.slice (some ⟨g', 0, none⟩) (pre.length + 1) cap) (pre.length + 1) (SCELLS (pre ++ [(H, K)])) ∧ Below w.heap.size w w1) := ⟨by have := HA.out.1; omega, by omega, by rw [← r3, r9]; simp, hown, ((r5.alloc r5.size _).alloc (by have := r5.size; simp; omega) _).grown hgrow (by have := r5.size; simp; omega) (fun k e => (r4.lt k e).1)⟩
        clear r1 r2 r3 r4 r5 r6 r7 r8 r9 hr2 hown R R2 hgrow hg
        refine (ce _).mono ?_
        rintro e w2 ⟨rfl, hb2⟩
        clear ce hx0 hx1 hH1
        go_wp2
        go_roundg (b - c')
        case measure => exact R3.out.2.1
        case rel =>
          obtain ⟨r1, r2, r3, r4, r5⟩ := R3.out
          exact ⟨c', pre ++ [(H, K)], rfl, rfl, r1, r3, by rw [List.length_append]; exact own_below r4 hb2, r5.trans (hb2.mono r5.size)⟩
    · have hlt' : ¬ (c : Int) < (b : Int) := by omega
      rw [SPAN_end (a := c) (by omega), List.append_nil] at hp
      have R : Aside (wr.ownsRow w.heap.size 76 2 u5 (SPAN a b).length (SCELLS (SPAN a b)) ∧ Below w.heap.size w wr) := ⟨by rw [← hp]; exact hown, hbel⟩
      clear hg hc hp hown hbel A HA
      go_wp2
      go_ret
      exact ⟨u5, rfl, R.out.1, R.out.2⟩
end Go.Proofs.YtddmfpiflnjmjaaDoor
