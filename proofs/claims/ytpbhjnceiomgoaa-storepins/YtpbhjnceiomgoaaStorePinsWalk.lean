/- The walk of the law StorePins. -/
import Derived.Test.YtpbhjnceiomgoaaStoreAwake
namespace Go.Proofs.Ytpbhjnceiomgoaa
open Go.RowKit Go.Maps
set_option maxRecDepth 100000

/-- inputs that the law leaves out. -/
theorem pins_out (log pins : Int) (p : Nat) (a : Option Addr) (n c : Nat) (w : World) (h : log < 0 ∨ 16 < log ∨ 200 < n ∨ pins < 0 ∨ 300 < pins) : Calls Try.prog 6 #[.int .i64 log, .slice a n c, .int .u64 (p : Int), .int .i64 pins] w fun e w' => e = .returned (.bool true) ∧ Below w.heap.size w w' := by
  by_cases h1 : log < 0
  · clear h
    go_enter Try.func6, Try.ntmps6
    go_wp2
    go_ret
    exact ⟨rfl, Below.refl _ _⟩
  · by_cases h2 : 16 < log
    · clear h
      go_enter Try.func6, Try.ntmps6
      go_wp2
      go_ret
      exact ⟨rfl, Below.refl _ _⟩
    · by_cases h3 : (200 : Int) < (n : Int)
      · clear h
        go_enter Try.func6, Try.ntmps6
        go_wp2
        go_ret
        exact ⟨rfl, Below.refl _ _⟩
      · by_cases h4 : pins < 0
        · clear h
          go_enter Try.func6, Try.ntmps6
          go_wp2
          go_ret
          exact ⟨rfl, Below.refl _ _⟩
        · have h5 : 300 < pins := by omega
          clear h
          go_enter Try.func6, Try.ntmps6
          go_wp2
          go_ret
          exact ⟨rfl, Below.refl _ _⟩
/-- a store, its pins, and what it has. -/
def HAS (w0 w : World) (g log n m : Nat) (C : CHUNKS) (P : Nat → Nat) : Prop := STORE w g g log n n n C ∧ PINS w g g m C P ∧ Below g w0 w
theorem HAS.below {w0 w w' : World} {g log n m : Nat} {C : CHUNKS} {P : Nat → Nat} (h : HAS w0 w g log n m C P) (hb : Below w.heap.size w w') : HAS w0 w' g log n m C P := ⟨h.1.below hb, h.2.1.below h.1 hb, h.2.2.trans (hb.mono (by have := h.1.lt; omega))⟩
/-- so many pins at p, none elsewhere. -/
def ATP (p k : Nat) : Nat → Nat := fun j => if j = p then k else 0
theorem ATP_zero (p : Nat) : ATP p 0 = fun _ => 0 := funext fun j => by unfold ATP; split <;> rfl
theorem ATP_self (p k : Nat) : ATP p k p = k := if_pos rfl
theorem ATP_lt {p k x : Nat} (h : k < x) : ∀ j, ATP p k j < x := fun j => by unfold ATP; split <;> omega
theorem has_pin {w0 w : World} {g log n m k p : Nat} {C : CHUNKS} (h : HAS w0 w g log n m C (ATP p k)) (hG : GOT C log n p = 0) (hp : p < 2 ^ 64) (hm : m < 2 ^ 40) (hk : k < 1000) : Calls Try.prog 8 #[.pointer (some ⟨g, 0, none⟩), .int .u64 (p : Int)] w fun e w' => e = .returned (.int .i64 0) ∧ HAS w0 w' g log n (m + 1) C (ATP p (k + 1)) := by
  obtain ⟨h1, h2, h3⟩ := h
  refine (pin_ok h1 h2 p hp hm (Nat.le_refl _) (by rw [ATP_self]; omega)).mono ?_
  rintro e w' ⟨rfl, d1, d2, d3⟩
  refine ⟨by rw [hG], d1, ?_, h3.trans d3⟩
  rw [PINNED_at hG] at d2
  have e : (fun j => if j = p then ATP p k p + 1 else ATP p k j) = ATP p (k + 1) := funext fun j => by
    unfold ATP
    by_cases e : j = p
    · simp [e]
    · simp [e]
  rw [e] at d2
  exact d2
theorem has_unpin {w0 w : World} {g log n m k p : Nat} {C : CHUNKS} (h : HAS w0 w g log n m C (ATP p (k + 1))) (hl : p < n) (hp : p < 2 ^ 64) (hm : m < 2 ^ 40) (hk : k < 1000) : Calls Try.prog 21 #[.pointer (some ⟨g, 0, none⟩), .int .u64 (p : Int)] w fun e w' => e = .returned (.int .i64 0) ∧ HAS w0 w' g log n (m + 1) C (ATP p k) := by
  obtain ⟨h1, h2, h3⟩ := h
  refine (unpin_ok h1 h2 p hp hm (Nat.le_refl _) (ATP_lt (by omega))).mono ?_
  rintro e w' ⟨rfl, d1, d2, d3⟩
  refine ⟨by unfold UNPIN; rw [if_neg (by omega), ATP_self, if_neg (by omega)]; rfl, d1, ?_, h3.trans d3⟩
  rw [LESS_at hl] at d2
  have e : (fun j => if j = p then ATP p (k + 1) p - 1 else ATP p (k + 1) j) = ATP p k := funext fun j => by
    unfold ATP
    by_cases e : j = p
    · simp [e]
    · simp [e]
  rw [e] at d2
  exact d2
theorem has_unpin0 {w0 w : World} {g log n m p : Nat} {C : CHUNKS} (h : HAS w0 w g log n m C (ATP p 0)) (hl : p < n) (hp : p < 2 ^ 64) (hm : m < 2 ^ 40) : Calls Try.prog 21 #[.pointer (some ⟨g, 0, none⟩), .int .u64 (p : Int)] w fun e w' => e = .returned (.int .i64 52) ∧ HAS w0 w' g log n (m + 1) C (ATP p 0) := by
  obtain ⟨h1, h2, h3⟩ := h
  refine (unpin_ok h1 h2 p hp hm (Nat.le_refl _) (ATP_lt (by omega))).mono ?_
  rintro e w' ⟨rfl, d1, d2, d3⟩
  refine ⟨by unfold UNPIN; rw [if_neg (by omega), ATP_self, if_pos rfl]; rfl, d1, ?_, h3.trans d3⟩
  rw [LESS_none (ATP_self p 0)] at d2
  exact d2
theorem has_pin_far {w0 w : World} {g log n m p : Nat} {C : CHUNKS} (h : HAS w0 w g log n m C (ATP p 0)) (hl : n ≤ p) (hp : p < 2 ^ 64) (hm : m < 2 ^ 40) : Calls Try.prog 8 #[.pointer (some ⟨g, 0, none⟩), .int .u64 (p : Int)] w fun e w' => e = .returned (.int .i64 31) ∧ HAS w0 w' g log n (m + 1) C (ATP p 0) := by
  obtain ⟨h1, h2, h3⟩ := h
  have hG : GOT C log n p = 31 := by unfold GOT; rw [if_neg (by omega)]
  refine (pin_ok h1 h2 p hp hm (Nat.le_refl _) (by rw [ATP_self]; omega)).mono ?_
  rintro e w' ⟨rfl, d1, d2, d3⟩
  refine ⟨by rw [hG], d1, ?_, h3.trans d3⟩
  rw [PINNED_not (by rw [hG]; decide)] at d2
  exact d2
theorem has_unpin_far {w0 w : World} {g log n m p : Nat} {C : CHUNKS} (h : HAS w0 w g log n m C (ATP p 0)) (hl : n ≤ p) (hp : p < 2 ^ 64) (hm : m < 2 ^ 40) : Calls Try.prog 21 #[.pointer (some ⟨g, 0, none⟩), .int .u64 (p : Int)] w fun e w' => e = .returned (.int .i64 31) ∧ HAS w0 w' g log n (m + 1) C (ATP p 0) := by
  obtain ⟨h1, h2, h3⟩ := h
  refine (unpin_ok h1 h2 p hp hm (Nat.le_refl _) (ATP_lt (by omega))).mono ?_
  rintro e w' ⟨rfl, d1, d2, d3⟩
  refine ⟨by unfold UNPIN; rw [if_pos hl]; rfl, d1, ?_, h3.trans d3⟩
  rw [LESS_far hl] at d2
  exact d2
theorem has_pins {w0 w : World} {g log n m k p : Nat} {C : CHUNKS} (h : HAS w0 w g log n m C (ATP p k)) (hp : p < 2 ^ 64) : Calls Try.prog 18 #[.pointer (some ⟨g, 0, none⟩), .int .u64 (p : Int)] w fun e w' => e = .returned (.int .i64 (k : Int)) ∧ w = w' := by
  have := pins_ok h.2.1 p hp
  rw [ATP_self] at this
  exact this
theorem has_live {w0 w : World} {g log n m p : Nat} {C : CHUNKS} {P : Nat → Nat} (h : HAS w0 w g log n m C P) (hp : p < 2 ^ 64) (b : Bool) (hb : (AT C log p).isSome = b) : Calls Try.prog 13 #[.pointer (some ⟨g, 0, none⟩), .int .u64 (p : Int)] w fun e w' => e = .returned (.bool b) ∧ HAS w0 w' g log n m C P := by
  refine (live_ok h.1 p hp).mono ?_
  rintro e w' ⟨rfl, hb'⟩
  exact ⟨by rw [hb], h.below hb'⟩
theorem filled_has {w0 w : World} {g log n : Nat} {hs : Nat → Nat → Nat} (p : Nat) (h : FILLED w g g log n hs) (hb : Below g w0 w) : ∃ C, HAS w0 w g log n 0 C (ATP p 0) ∧ ∀ q, AT C log q = if q < n then some (hs q) else none := by
  obtain ⟨C, h1, h2, h3⟩ := h
  exact ⟨C, ⟨h1, by rw [ATP_zero]; exact h2, hb⟩, h3⟩
set_option maxHeartbeats 4000000 in
theorem pins_core (log pins p : Nat) (a : Option Addr) (n c : Nat) (hs : Nat → Nat → Nat) (w : World) (hlog : log ≤ 16) (hn : n ≤ 200) (hpins : pins ≤ 300) (hp : p < 2 ^ 64) (h8 : ∀ i, i < n → ∀ j, hs i j < 256) (hL : HLIE w a n hs) : Calls Try.prog 6 #[.int .i64 (log : Int), .slice a n c, .int .u64 (p : Int), .int .i64 (pins : Int)] w fun e w' => e = .returned (.bool true) ∧ Below w.heap.size w w' := by
  have cF := fill_ok log hlog a n c hn hs h8 w hL
  have g1 : ¬ (log : Int) < 0 := by omega
  have g2 : ¬ (16 : Int) < (log : Int) := by omega
  have g3 : ¬ (200 : Int) < (n : Int) := by omega
  have g4 : ¬ (pins : Int) < 0 := by omega
  have g5 : ¬ (300 : Int) < (pins : Int) := by omega
  have g6 : IntKind.u64.wrap (n : Int) = (n : Int) := wrap_nat rfl (by omega)
  have H : Aside (n ≤ 200 ∧ pins ≤ 300 ∧ p < 2 ^ 64) := ⟨hn, hpins, hp⟩
  clear hL h8 hlog hn hpins hp
  go_enter Try.func6, Try.ntmps6
  go_wp2_with fail
  refine cF.mono ?_
  rintro e w1 ⟨rfl, hF, hb⟩
  clear cF g1 g2 g3 g4 g5
  obtain ⟨g, hg⟩ : ∃ g, w.heap.size = g := ⟨_, rfl⟩
  have HG : Aside (w.heap.size = g) := hg
  rw [hg] at hF hb ⊢
  clear hg
  obtain ⟨C, hH, hA⟩ := filled_has p hF hb
  have HA : Aside (∀ q, AT C log q = if q < n then some (hs q) else none) := hA
  have H1 : Aside (HAS w w1 g log n 0 C (ATP p 0)) := hH
  clear hF hb hA hH
  by_cases hpn : n ≤ p
  · have hge : (n : Int) ≤ (p : Int) := by omega
    have HN : Aside (n ≤ p) := hpn
    clear hpn
    go_wp2_with fail
    refine (has_pin_far H1.out HN.out H.out.2.2 (by decide)).mono ?_
    rintro e w2 ⟨rfl, h2⟩
    have H2 : Aside (HAS w w2 g log n 1 C (ATP p 0)) := h2
    clear H1 h2
    go_wp2_with fail
    refine (has_unpin_far H2.out HN.out H.out.2.2 (by decide)).mono ?_
    rintro e w3 ⟨rfl, h3⟩
    have H3 : Aside (HAS w w3 g log n 2 C (ATP p 0)) := h3
    clear H2 h3
    go_wp2_with fail
    refine (drop_far H3.out.1 p HN.out).mono ?_
    rintro e w4 ⟨rfl, rfl⟩
    go_wp2_with fail
    refine (has_pins H3.out H.out.2.2).mono ?_
    rintro e w4 ⟨rfl, rfl⟩
    go_wp2_with fail
    refine (has_live H3.out H.out.2.2 false (by rw [HA.out, if_neg (by have := HN.out; omega)]; rfl)).mono ?_
    rintro e w5 ⟨rfl, h5⟩
    have H5 : Aside (HAS w w5 g log n 2 C (ATP p 0)) := h5
    clear H3 h5
    go_wp2_with fail
    refine (awake_ok w5).mono ?_
    rintro e w6 ⟨rfl, hb6⟩
    have H6 : Aside (Below g w w6) := (H5.out.below hb6).2.2
    clear H5 hb6
    go_wp2
    go_ret
    rw [HG.out]
    exact ⟨rfl, H6.out⟩
  · have hge : ¬ (n : Int) ≤ (p : Int) := by omega
    have HN : Aside (p < n ∧ GOT C log n p = 0 ∧ AT C log p = some (hs p)) := by
      have h1 : AT C log p = some (hs p) := by rw [HA.out, if_pos (by omega)]
      exact ⟨by omega, by unfold GOT; rw [if_pos (by omega), h1]; rfl, h1⟩
    have hd : decide (n ≤ p) = false := decide_eq_false hpn
    go_wp2
    go_loopg [11] pins (fun k s11 wx => ∃ i : Nat, i + k = pins ∧ s11 = .int .i64 i ∧ Aside (HAS w wx g log n i C (ATP p i)))
    case atStart => exact ⟨0, by omega, rfl, H1⟩
    case round =>
      obtain ⟨i, hik, rfl, A⟩ := hrel
      cases gk with
      | succ k =>
        have hlt : (i : Int) < (pins : Int) := by omega
        have hi1 : wrap64 ((i : Int) + 1) = ((i + 1 : Nat) : Int) := by have := H.out.2.1; unfold wrap64; omega
        go_wp2_with fail
        refine (has_pin A.out HN.out.2.1 H.out.2.2 (by have := H.out.2.1; omega) (by have := H.out.2.1; omega)).mono ?_
        rintro e w2 ⟨rfl, h2⟩
        have H2 : Aside (HAS w w2 g log n (i + 1) C (ATP p (i + 1))) := h2
        clear A h2
        go_wp2
        go_roundg k
        case measure => omega
        case rel => exact ⟨i + 1, by omega, by first | rfl | (rw [hi1]), H2⟩
      | zero =>
        obtain rfl : i = pins := by omega
        go_wp2
        go_loopg [12] i (fun k s12 wx => k ≤ i ∧ s12 = .int .i64 k ∧ ∃ m, m + k = 2 * i ∧ Aside (HAS w wx g log n m C (ATP p k)))
        case atStart => exact ⟨Nat.le_refl _, rfl, i, by omega, A⟩
        case round =>
          obtain ⟨hki, rfl, m, hm, B2⟩ := hrel
          cases gk with
          | succ k =>
            obtain ⟨K1, hK1⟩ : ∃ K1, k + 1 = K1 := ⟨_, rfl⟩
            have HK : Aside (k + 1 = K1 ∧ k + 1 ≤ i ∧ i ≤ 300 ∧ m + (k + 1) = 2 * i ∧ p < n ∧ p < 2 ^ 64) := ⟨hK1, hki, H.out.2.1, hm, HN.out.1, H.out.2.2⟩
            have hgt : (0 : Int) < (K1 : Int) := by omega
            have hk1 : wrap64 ((K1 : Int) - 1) = (k : Int) := by have := H.out.2.1; unfold wrap64; omega
            rw [hK1] at hki B2 ⊢
            clear hK1
            have c1 := has_pins B2.out HK.out.2.2.2.2.2
            have c2 := drop_pinned B2.out.1 B2.out.2.1 p HK.out.2.2.2.2.2 HK.out.2.2.2.2.1 (by rw [ATP_self]; omega)
            have c3 := has_unpin (k := k) (by rw [HK.out.1]; exact B2.out) HK.out.2.2.2.2.1 HK.out.2.2.2.2.2 (by have := HK.out; omega) (by have := HK.out; omega)
            go_wp2_with (first
              | (refine c1.mono ?_; rintro e w' ⟨rfl, rfl⟩)
              | (refine c2.mono ?_; rintro e w' ⟨rfl, rfl⟩)
              | fail)
            refine c3.mono ?_
            rintro e w2 ⟨rfl, h2⟩
            have H2 : Aside (HAS w w2 g log n (m + 1) C (ATP p k)) := h2
            clear B2 h2 c1 c2 c3
            go_wp2
            go_roundg k
            case measure => omega
            case rel => exact ⟨by have := HK.out; omega, by first | rfl | (rw [hk1]), m + 1, by have := HK.out; omega, H2⟩
          | zero =>
            have HM : Aside (m = 2 * i ∧ i ≤ 300 ∧ p < n ∧ p < 2 ^ 64 ∧ n ≤ 200) := ⟨by omega, H.out.2.1, HN.out.1, H.out.2.2, H.out.1⟩
            have c1 := has_pins B2.out HM.out.2.2.2.1
            have c2 := has_unpin0 B2.out HM.out.2.2.1 HM.out.2.2.2.1 (by have := HM.out; omega)
            clear hm hki
            go_wp2_with (first
              | (refine c1.mono ?_; rintro e w' ⟨rfl, rfl⟩)
              | fail)
            refine c2.mono ?_
            rintro e w2 ⟨rfl, h2⟩
            have H2 : Aside (HAS w w2 g log n (m + 1) C (ATP p 0)) := h2
            clear B2 h2 c1 c2
            go_wp2_with fail
            refine (has_live H2.out HM.out.2.2.2.1 true (by rw [HN.out.2.2]; rfl)).mono ?_
            rintro e w3 ⟨rfl, h3⟩
            have H3 : Aside (HAS w w3 g log n (m + 1) C (ATP p 0)) := h3
            clear H2 h3
            go_wp2_with fail
            refine (drop_live H3.out.1 H3.out.2.1 p (n - 1) (hs p) HM.out.2.2.2.1 HM.out.2.2.1 (ATP_self p 0) HN.out.2.2 (by have := HM.out; omega) (by have := HM.out; omega) (Nat.le_refl _)).mono ?_
            rintro e w4 ⟨rfl, hD⟩
            have H4 : Aside (∃ C', STORE w4 g g log n (n - 1) n C' ∧ AT C' log p = none ∧ Below g w w4) := by
              obtain ⟨C', d1, d2, d3, d4, d5⟩ := hD
              exact ⟨C', d1, by rw [d2, if_pos rfl], H3.out.2.2.trans d5⟩
            clear H3 hD
            have c5 : Calls Try.prog 13 #[.pointer (some ⟨g, 0, none⟩), .int .u64 (p : Int)] w4 fun e w' => e = .returned (.bool false) ∧ Below g w w' := by
              obtain ⟨C', d1, d2, d3⟩ := H4.out
              have := live_ok d1 p HM.out.2.2.2.1
              rw [d2] at this
              refine this.mono ?_
              rintro e w' ⟨rfl, hb⟩
              exact ⟨rfl, d3.trans (hb.mono (by have := d1.lt; omega))⟩
            clear H4
            go_wp2_with fail
            refine c5.mono ?_
            rintro e w5 ⟨rfl, hb5⟩
            have H5 : Aside (Below g w w5) := hb5
            clear c5 hb5
            go_wp2_with fail
            refine (awake_ok w5).mono ?_
            rintro e w6 ⟨rfl, hb6⟩
            have H6 : Aside (Below g w w6) := H5.out.trans (hb6.mono (by rw [← HG.out]; exact H5.out.size))
            clear H5 hb6
            go_wp2
            go_ret
            rw [HG.out]
            exact ⟨rfl, H6.out⟩
theorem storePins_walk (log pins : Int) (p : Nat) (a : Option Addr) (n c : Nat) (hs : Nat → Nat → Nat) (w : World) (hp : p < 2 ^ 64) (h8 : ∀ i, i < n → ∀ j, hs i j < 256) (hL : HLIE w a n hs) : Calls Try.prog 6 #[.int .i64 log, .slice a n c, .int .u64 (p : Int), .int .i64 pins] w fun e w' => e = .returned (.bool true) ∧ Below w.heap.size w w' := by
  by_cases h : log < 0 ∨ 16 < log ∨ 200 < n ∨ pins < 0 ∨ 300 < pins
  · exact pins_out log pins p a n c w h
  · have e1 : ((log.toNat : Nat) : Int) = log := Int.toNat_of_nonneg (by omega)
    have e2 : ((pins.toNat : Nat) : Int) = pins := Int.toNat_of_nonneg (by omega)
    rw [← e1, ← e2]
    exact pins_core log.toNat pins.toNat p a n c hs w (by omega) (by omega) (by omega) hp h8 hL
end Go.Proofs.Ytpbhjnceiomgoaa
