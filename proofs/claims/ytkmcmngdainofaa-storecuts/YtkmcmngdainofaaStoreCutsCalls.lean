/- The calls of the law StoreCuts. -/
import Derived.Test.YtkmcmngdainofaaStoreCutWalk
import Derived.Test.YtkmcmngdainofaaStoreAwake
namespace Go.Proofs.Ytkmcmngdainofaa
open Go.RowKit Go.Maps
set_option maxRecDepth 100000

theorem LCT_whole {P : Nat → Bool} : ∀ {n : Nat}, (∀ p, p < n → P p = true) → LCT P n = n
  | 0, _ => rfl
  | n + 1, h => by
    rw [LCT, LCT_whole (fun p hp => h p (by omega)), h n (by omega)]
    simp
set_option maxHeartbeats 4000000 in
/-- Cut of more than there is. -/
theorem cut_far {w : World} {B g log len N n : Nat} {C : CHUNKS} (hS : STORE w B g log len len N C) (hn : len < n) : Calls Try.prog 14 #[.pointer (some ⟨g, 0, none⟩), .int .u64 (n : Int)] w fun e w' => e = .returned (.int .i64 31) ∧ Below w.heap.size w w' := by
  have H : Aside (STORE w B g log len len N C) := hS
  obtain ⟨bn, hbn⟩ : ∃ bn, w.heap.size = bn := ⟨_, rfl⟩
  obtain ⟨w0, hw0⟩ : ∃ w0, w.alloc (.cells #[.int .u64 (n : Int)] 29) = w0 := ⟨_, rfl⟩
  have hb0 : Below w.heap.size w w0 := by rw [← hw0]; exact (Below.refl _ _).alloc (Nat.le_refl _) _
  have kn : Has w0 bn #[.int .u64 (n : Int)] 29 := by rw [← hw0, ← hbn]; exact Has.new _ _ _
  have K0 : Aside (Below w.heap.size w w0) := hb0
  have hdec : decide (len < n) = true := decide_eq_true hn
  clear hS hn
  go_enter Try.func14, Try.ntmps14
  go_upto_region 1 with fail
  clear hw0 hbn
  refine cut1 w0 g bn n len true hdec (fun W => Below w0.heap.size w0 W) (Below.refl _ _).drew (fun W h => ⟨(kn.keep h).cell 0, ((H.out.below hb0).below h).c1⟩) (fun _ _ _ _ _ h => h) ?_
  intro w1 hb1
  dsimp only
  have E : Aside (Below w.heap.size w w1) := K0.out.trans (hb1.mono K0.out.size)
  clear kn hb0 hdec hb1
  go_wp2
  go_ret
  exact ⟨rfl, E.out⟩
/-- a store that has its first q hashes. -/
def CLV (w0 w : World) (g log q M : Nat) (hs : Nat → Nat → Nat) : Prop := ∃ C N, N ≤ M ∧ STORE w g g log q q N C ∧ (∀ p, AT C log p = if p < q then some (hs p) else none) ∧ Below g w0 w
theorem CLV.below {w0 w w' : World} {g log q M : Nat} {hs : Nat → Nat → Nat} (h : CLV w0 w g log q M hs) (hb : Below w.heap.size w w') : CLV w0 w' g log q M hs := by
  obtain ⟨C, N, h1, h2, h3, h4⟩ := h
  exact ⟨C, N, h1, h2.below hb, h3, h4.trans (hb.mono (by have := h2.lt; omega))⟩
theorem CLV.low {w0 w : World} {g log q M : Nat} {hs : Nat → Nat → Nat} (h : CLV w0 w g log q M hs) : Below g w0 w := let ⟨_, _, _, _, _, h⟩ := h; h
theorem c_push {w0 w : World} {g log q M : Nat} {hs : Nat → Nat → Nat} (h : CLV w0 w g log q M hs) (h8 : ∀ i, hs q i < 256) (hq : q ≤ 1000) (hM : M ≤ 1000) : Calls Try.prog 15 #[.pointer (some ⟨g, 0, none⟩), .agg (UARR .u8 32 (hs q))] w fun e w' => e = .returned (.int .u64 (q : Int)) ∧ CLV w0 w' g log (q + 1) (M + 1) hs := by
  obtain ⟨C, N, h1, h2, h3, h4⟩ := h
  refine (push_ok h2 (hs q) h8 (by omega) (by omega) (Nat.le_refl _) (by omega)).mono ?_
  rintro e w' ⟨rfl, C', p1, p2, p3, p4⟩
  refine ⟨rfl, C', N + 1, by omega, p1, fun p => ?_, h4.trans p4⟩
  rw [p2 p, h3 p]
  by_cases e1 : p = q
  · rw [if_pos e1, if_pos (by omega), e1]
  · rw [if_neg e1]
    by_cases e2 : p < q
    · rw [if_pos e2, if_pos (by omega)]
    · rw [if_neg e2, if_neg (by omega)]
theorem c_live {w0 w : World} {g log q M : Nat} {hs : Nat → Nat → Nat} (h : CLV w0 w g log q M hs) (hq : q < 2 ^ 64) : Calls Try.prog 11 #[.pointer (some ⟨g, 0, none⟩), .int .u64 (q : Int)] w fun e w' => e = .returned (.bool false) ∧ CLV w0 w' g log q M hs := by
  have h' := h
  obtain ⟨C, N, h1, h2, h3, h4⟩ := h'
  refine (live_ok h2 q hq).mono ?_
  rintro e w' ⟨rfl, hb⟩
  exact ⟨by rw [h3 q, if_neg (by omega)]; rfl, h.below hb⟩
theorem c_get {w0 w : World} {g log q M p : Nat} {hs : Nat → Nat → Nat} (h : CLV w0 w g log q M hs) (hp : p < q) (hq : q < 2 ^ 64) : Calls Try.prog 10 #[.pointer (some ⟨g, 0, none⟩), .int .u64 (p : Int)] w fun e w' => e = .returned (.tuple #[.agg (UARR .u8 32 (hs p)), .int .i64 0]) ∧ Below w.heap.size w w' := by
  obtain ⟨C, N, h1, h2, h3, h4⟩ := h
  refine (get_ok h2 p (by omega)).mono ?_
  rintro e w' ⟨rfl, hb⟩
  refine ⟨?_, hb⟩
  unfold GOTH GOT
  rw [if_pos hp, if_pos hp, h3 p, if_pos hp]
  rfl
theorem c_len {w0 w : World} {g log q M : Nat} {hs : Nat → Nat → Nat} (h : CLV w0 w g log q M hs) : Calls Try.prog 9 #[.pointer (some ⟨g, 0, none⟩)] w fun e w' => e = .returned (.int .u64 (q : Int)) ∧ w = w' := by
  obtain ⟨C, N, h1, h2, h3, h4⟩ := h
  exact len_ok g q w h2.c1
theorem c_alive {w0 w : World} {g log q M : Nat} {hs : Nat → Nat → Nat} (h : CLV w0 w g log q M hs) : Calls Try.prog 7 #[.pointer (some ⟨g, 0, none⟩)] w fun e w' => e = .returned (.int .u64 (q : Int)) ∧ w = w' := by
  obtain ⟨C, N, h1, h2, h3, h4⟩ := h
  exact alive_ok g q w h2.c2
/-- a store that was filled, behind one Pin. -/
def PND (w0 w : World) (g log n p : Nat) (hs : Nat → Nat → Nat) : Prop := ∃ C P, STORE w g g log n n n C ∧ PINS w g g 1 C P ∧ (∀ q, AT C log q = if q < n then some (hs q) else none) ∧ FULL C ∧ Below g w0 w ∧ (p < n → ∀ q, P q ≠ 0 ↔ q = p) ∧ (n ≤ p → ∀ q, P q = 0)
theorem c_pin {w0 w : World} {g log n p : Nat} {hs : Nat → Nat → Nat} (h : FILLED w g g log n hs) (hb : Below g w0 w) (hp : p < 2 ^ 64) (x : Int) (hx : (if p < n then 0 else 31) = x) : Calls Try.prog 6 #[.pointer (some ⟨g, 0, none⟩), .int .u64 (p : Int)] w fun e w' => e = .returned (.int .i64 x) ∧ PND w0 w' g log n p hs := by
  obtain ⟨C, h1, h2, h3, h4⟩ := h
  have hG : GOT C log n p = x := by
    rw [← hx]
    unfold GOT
    by_cases c : p < n
    · rw [if_pos c, if_pos c, h3 p, if_pos c]
      rfl
    · rw [if_neg c, if_neg c]
  refine (pin_ok h1 h2 p hp (by decide) (Nat.le_refl _) (by decide)).mono ?_
  rintro e w' ⟨rfl, d1, d2, d3⟩
  refine ⟨by rw [hG], C, _, d1, d2, h3, h4, hb.trans d3, fun c q => ?_, fun c q => ?_⟩
  · have hG0 : GOT C log n p = 0 := by rw [hG, ← hx, if_pos c]
    rw [PINNED_at hG0]
    by_cases e : q = p
    · simp [e]
    · simp [e]
  · have hG0 : GOT C log n p ≠ 0 := by rw [hG, ← hx, if_neg (by omega)]; decide
    rw [PINNED_not hG0]
theorem PND.clv {w0 w : World} {g log n p : Nat} {hs : Nat → Nat → Nat} (h : PND w0 w g log n p hs) : CLV w0 w g log n n hs := by
  obtain ⟨C, P, h1, h2, h3, h4, h5, _⟩ := h
  exact ⟨C, n, Nat.le_refl _, h1, h3, h5⟩
theorem c_cut_far {w0 w : World} {g log n p m : Nat} {hs : Nat → Nat → Nat} (h : PND w0 w g log n p hs) (hm : n < m) : Calls Try.prog 14 #[.pointer (some ⟨g, 0, none⟩), .int .u64 (m : Int)] w fun e w' => e = .returned (.int .i64 31) ∧ CLV w0 w' g log n n hs := by
  have hc := h.clv
  obtain ⟨C, P, h1, h2, h3, h4, h5, _⟩ := h
  refine (cut_far h1 hm).mono ?_
  rintro e w' ⟨rfl, hb⟩
  exact ⟨rfl, hc.below hb⟩
theorem c_cut_pinned {w0 w : World} {g log n p m : Nat} {hs : Nat → Nat → Nat} (h : PND w0 w g log n p hs) (hn : n ≤ 200) (hm : m ≤ n) (hp : p < n) (hmp : m ≤ p) : Calls Try.prog 14 #[.pointer (some ⟨g, 0, none⟩), .int .u64 (m : Int)] w fun e w' => e = .returned (.int .i64 51) ∧ CLV w0 w' g log n n hs := by
  have hc := h.clv
  obtain ⟨C, P, h1, h2, h3, h4, h5, h6, h7⟩ := h
  refine (cut_ok h1 h2 (Nat.le_refl _) (fun q hq => by rw [h3 q, if_pos hq]; rfl) h4 (by omega) (by omega) hm).mono ?_
  rintro e w' (⟨_, rfl, hb⟩ | ⟨hno, _, _⟩)
  · exact ⟨rfl, hc.below hb⟩
  · have := hno p (by omega) ((h6 hp p).2 rfl)
    omega
theorem c_cut {w0 w : World} {g log n p m : Nat} {hs : Nat → Nat → Nat} (h : PND w0 w g log n p hs) (hn : n ≤ 200) (hm : m ≤ n) (hp : p < n → p < m) : Calls Try.prog 14 #[.pointer (some ⟨g, 0, none⟩), .int .u64 (m : Int)] w fun e w' => e = .returned (.int .i64 0) ∧ CLV w0 w' g log m n hs := by
  obtain ⟨C, P, h1, h2, h3, h4, h5, h6, h7⟩ := h
  refine (cut_ok h1 h2 (Nat.le_refl _) (fun q hq => by rw [h3 q, if_pos hq]; rfl) h4 (by omega) (by omega) hm).mono ?_
  rintro e w' (⟨⟨q, hq, hPq, hmq⟩, rfl, hb⟩ | ⟨_, rfl, C', al, q1, q2, q3, q4, q5⟩)
  · exfalso
    rcases Nat.lt_or_ge p n with c | c
    · have := (h6 c q).1 hPq
      have := hp c
      omega
    · exact hPq (h7 c q)
  · have hA : ∀ x, AT C' log x = if x < m then some (hs x) else none := fun x => by
      rw [q4 x, h3 x]
      by_cases c : x < m
      · rw [if_pos c, if_pos c, if_pos (by omega)]
      · rw [if_neg c, if_neg c]
    have hal : al = m := by
      rw [show al = LIVES C' log m from q2]
      exact LCT_whole (fun x hx => by show (AT C' log x).isSome = true; rw [hA x, if_pos hx]; rfl)
    rw [hal] at q1
    exact ⟨rfl, C', n, Nat.le_refl _, q1, hA, h5.trans (STEP.under h1 (Nat.le_refl _) (Nat.le_of_lt h1.lt) q3 q5)⟩
end Go.Proofs.Ytkmcmngdainofaa
