/- Texts of StoreCuts, one behind the other: StoreCutsCalls, StoreCutsWalk, StoreDoor. -/
import Derived.Test.YtkmcmngdainofaaRows
import Derived.WalkKit
import Derived.ProofKit
import Derived.OpenShut
import Derived.ShutString
import Derived.ChangeOld
import Derived.Below
import Derived.Test.YtkmcmngdainofaaStoreCutsP25
import Derived.Test.YtkmcmngdainofaaStoreCutsP26
/- The calls of the law StoreCuts. -/
namespace Go.Proofs.Ytkmcmngdainofaa
open Go.RowKit Go.Maps
set_option maxRecDepth 100000

theorem LCT_whole {P : Nat → Bool} : ∀ {n : Nat}, (∀ p, p < n → P p = true) → LCT P n = n
  | 0, _ => rfl
  | n + 1, h => by
    rw [LCT, LCT_whole (fun p hp => h p (by omega)), h n (by omega)]
    simp
set_option maxHeartbeats 4000000 in
/-- Cut of more than there is. -/
theorem cut_far {w : World} {B g log len N n : Nat} {C : CHUNKS} (hS : STORE w B g log len len N C) (hn : len < n) : Calls Try.prog 14 #[.pointer (some ⟨g, 0, none⟩), .int .u64 (n : Int)] w fun e w' => e = .returned (.int .i64 31) ∧ Below w.heap.size w w' := by
  have H : Aside (STORE w B g log len len N C) := hS
  obtain ⟨bn, hbn⟩ : ∃ bn, w.heap.size = bn := ⟨_, rfl⟩
  obtain ⟨w0, hw0⟩ : ∃ w0, w.alloc (.cells #[.int .u64 (n : Int)] 29) = w0 := ⟨_, rfl⟩
  have hb0 : Below w.heap.size w w0 := by rw [← hw0]; exact (Below.refl _ _).alloc (Nat.le_refl _) _
  have kn : Has w0 bn #[.int .u64 (n : Int)] 29 := by rw [← hw0, ← hbn]; exact Has.new _ _ _
  have K0 : Aside (Below w.heap.size w w0) := hb0
  have hdec : decide (len < n) = true := decide_eq_true hn
  clear hS hn
  go_enter Try.func14, Try.ntmps14
  go_upto_region 1 with fail
  clear hw0 hbn
  refine cut1 w0 g bn n len true hdec (fun W => Below w0.heap.size w0 W) (Below.refl _ _).drew (fun W h => ⟨(kn.keep h).cell 0, ((H.out.below hb0).below h).c1⟩) (fun _ _ _ _ _ h => h) ?_
  intro w1 hb1
  dsimp only
  have E : Aside (Below w.heap.size w w1) := K0.out.trans (hb1.mono K0.out.size)
  clear kn hb0 hdec hb1
  go_wp2
  go_ret
  exact ⟨rfl, E.out⟩
/-- a store that has its first q hashes. -/
def CLV (w0 w : World) (g log q M : Nat) (hs : Nat → Nat → Nat) : Prop := ∃ C N, N ≤ M ∧ STORE w g g log q q N C ∧ (∀ p, AT C log p = if p < q then some (hs p) else none) ∧ Below g w0 w
theorem CLV.below {w0 w w' : World} {g log q M : Nat} {hs : Nat → Nat → Nat} (h : CLV w0 w g log q M hs) (hb : Below w.heap.size w w') : CLV w0 w' g log q M hs := by
  obtain ⟨C, N, h1, h2, h3, h4⟩ := h
  exact ⟨C, N, h1, h2.below hb, h3, h4.trans (hb.mono (by have := h2.lt; omega))⟩
theorem CLV.low {w0 w : World} {g log q M : Nat} {hs : Nat → Nat → Nat} (h : CLV w0 w g log q M hs) : Below g w0 w := let ⟨_, _, _, _, _, h⟩ := h; h
theorem c_push {w0 w : World} {g log q M : Nat} {hs : Nat → Nat → Nat} (h : CLV w0 w g log q M hs) (h8 : ∀ i, hs q i < 256) (hq : q ≤ 1000) (hM : M ≤ 1000) : Calls Try.prog 15 #[.pointer (some ⟨g, 0, none⟩), .agg (UARR .u8 32 (hs q))] w fun e w' => e = .returned (.int .u64 (q : Int)) ∧ CLV w0 w' g log (q + 1) (M + 1) hs := by
  obtain ⟨C, N, h1, h2, h3, h4⟩ := h
  refine (push_ok h2 (hs q) h8 (by omega) (by omega) (Nat.le_refl _) (by omega)).mono ?_
  rintro e w' ⟨rfl, C', p1, p2, p3, p4⟩
  refine ⟨rfl, C', N + 1, by omega, p1, fun p => ?_, h4.trans p4⟩
  rw [p2 p, h3 p]
  by_cases e1 : p = q
  · rw [if_pos e1, if_pos (by omega), e1]
  · rw [if_neg e1]
    by_cases e2 : p < q
    · rw [if_pos e2, if_pos (by omega)]
    · rw [if_neg e2, if_neg (by omega)]
theorem c_live {w0 w : World} {g log q M : Nat} {hs : Nat → Nat → Nat} (h : CLV w0 w g log q M hs) (hq : q < 2 ^ 64) : Calls Try.prog 11 #[.pointer (some ⟨g, 0, none⟩), .int .u64 (q : Int)] w fun e w' => e = .returned (.bool false) ∧ CLV w0 w' g log q M hs := by
  have h' := h
  obtain ⟨C, N, h1, h2, h3, h4⟩ := h'
  refine (live_ok h2 q hq).mono ?_
  rintro e w' ⟨rfl, hb⟩
  exact ⟨by rw [h3 q, if_neg (by omega)]; rfl, h.below hb⟩
theorem c_get {w0 w : World} {g log q M p : Nat} {hs : Nat → Nat → Nat} (h : CLV w0 w g log q M hs) (hp : p < q) (hq : q < 2 ^ 64) : Calls Try.prog 10 #[.pointer (some ⟨g, 0, none⟩), .int .u64 (p : Int)] w fun e w' => e = .returned (.tuple #[.agg (UARR .u8 32 (hs p)), .int .i64 0]) ∧ Below w.heap.size w w' := by
  obtain ⟨C, N, h1, h2, h3, h4⟩ := h
  refine (get_ok h2 p (by omega)).mono ?_
  rintro e w' ⟨rfl, hb⟩
  refine ⟨?_, hb⟩
  unfold GOTH GOT
  rw [if_pos hp, if_pos hp, h3 p, if_pos hp]
  rfl
theorem c_len {w0 w : World} {g log q M : Nat} {hs : Nat → Nat → Nat} (h : CLV w0 w g log q M hs) : Calls Try.prog 9 #[.pointer (some ⟨g, 0, none⟩)] w fun e w' => e = .returned (.int .u64 (q : Int)) ∧ w = w' := by
  obtain ⟨C, N, h1, h2, h3, h4⟩ := h
  exact len_ok g q w h2.c1
theorem c_alive {w0 w : World} {g log q M : Nat} {hs : Nat → Nat → Nat} (h : CLV w0 w g log q M hs) : Calls Try.prog 7 #[.pointer (some ⟨g, 0, none⟩)] w fun e w' => e = .returned (.int .u64 (q : Int)) ∧ w = w' := by
  obtain ⟨C, N, h1, h2, h3, h4⟩ := h
  exact alive_ok g q w h2.c2
/-- a store that was filled, behind one Pin. -/
def PND (w0 w : World) (g log n p : Nat) (hs : Nat → Nat → Nat) : Prop := ∃ C P, STORE w g g log n n n C ∧ PINS w g g 1 C P ∧ (∀ q, AT C log q = if q < n then some (hs q) else none) ∧ FULL C ∧ Below g w0 w ∧ (p < n → ∀ q, P q ≠ 0 ↔ q = p) ∧ (n ≤ p → ∀ q, P q = 0)
theorem c_pin {w0 w : World} {g log n p : Nat} {hs : Nat → Nat → Nat} (h : FILLED w g g log n hs) (hb : Below g w0 w) (hp : p < 2 ^ 64) (x : Int) (hx : (if p < n then 0 else 31) = x) : Calls Try.prog 6 #[.pointer (some ⟨g, 0, none⟩), .int .u64 (p : Int)] w fun e w' => e = .returned (.int .i64 x) ∧ PND w0 w' g log n p hs := by
  obtain ⟨C, h1, h2, h3, h4⟩ := h
  have hG : GOT C log n p = x := by
    rw [← hx]
    unfold GOT
    by_cases c : p < n
    · rw [if_pos c, if_pos c, h3 p, if_pos c]
      rfl
    · rw [if_neg c, if_neg c]
  refine (pin_ok h1 h2 p hp (by decide) (Nat.le_refl _) (by decide)).mono ?_
  rintro e w' ⟨rfl, d1, d2, d3⟩
  refine ⟨by rw [hG], C, _, d1, d2, h3, h4, hb.trans d3, fun c q => ?_, fun c q => ?_⟩
  · have hG0 : GOT C log n p = 0 := by rw [hG, ← hx, if_pos c]
    rw [PINNED_at hG0]
    by_cases e : q = p
    · simp [e]
    · simp [e]
  · have hG0 : GOT C log n p ≠ 0 := by rw [hG, ← hx, if_neg (by omega)]; decide
    rw [PINNED_not hG0]
theorem PND.clv {w0 w : World} {g log n p : Nat} {hs : Nat → Nat → Nat} (h : PND w0 w g log n p hs) : CLV w0 w g log n n hs := by
  obtain ⟨C, P, h1, h2, h3, h4, h5, _⟩ := h
  exact ⟨C, n, Nat.le_refl _, h1, h3, h5⟩
theorem c_cut_far {w0 w : World} {g log n p m : Nat} {hs : Nat → Nat → Nat} (h : PND w0 w g log n p hs) (hm : n < m) : Calls Try.prog 14 #[.pointer (some ⟨g, 0, none⟩), .int .u64 (m : Int)] w fun e w' => e = .returned (.int .i64 31) ∧ CLV w0 w' g log n n hs := by
  have hc := h.clv
  obtain ⟨C, P, h1, h2, h3, h4, h5, _⟩ := h
  refine (cut_far h1 hm).mono ?_
  rintro e w' ⟨rfl, hb⟩
  exact ⟨rfl, hc.below hb⟩
theorem c_cut_pinned {w0 w : World} {g log n p m : Nat} {hs : Nat → Nat → Nat} (h : PND w0 w g log n p hs) (hn : n ≤ 200) (hm : m ≤ n) (hp : p < n) (hmp : m ≤ p) : Calls Try.prog 14 #[.pointer (some ⟨g, 0, none⟩), .int .u64 (m : Int)] w fun e w' => e = .returned (.int .i64 51) ∧ CLV w0 w' g log n n hs := by
  have hc := h.clv
  obtain ⟨C, P, h1, h2, h3, h4, h5, h6, h7⟩ := h
  refine (cut_ok h1 h2 (Nat.le_refl _) (fun q hq => by rw [h3 q, if_pos hq]; rfl) h4 (by omega) (by omega) hm).mono ?_
  rintro e w' (⟨_, rfl, hb⟩ | ⟨hno, _, _⟩)
  · exact ⟨rfl, hc.below hb⟩
  · have := hno p (by omega) ((h6 hp p).2 rfl)
    omega
theorem c_cut {w0 w : World} {g log n p m : Nat} {hs : Nat → Nat → Nat} (h : PND w0 w g log n p hs) (hn : n ≤ 200) (hm : m ≤ n) (hp : p < n → p < m) : Calls Try.prog 14 #[.pointer (some ⟨g, 0, none⟩), .int .u64 (m : Int)] w fun e w' => e = .returned (.int .i64 0) ∧ CLV w0 w' g log m n hs := by
  obtain ⟨C, P, h1, h2, h3, h4, h5, h6, h7⟩ := h
  refine (cut_ok h1 h2 (Nat.le_refl _) (fun q hq => by rw [h3 q, if_pos hq]; rfl) h4 (by omega) (by omega) hm).mono ?_
  rintro e w' (⟨⟨q, hq, hPq, hmq⟩, rfl, hb⟩ | ⟨_, rfl, C', al, q1, q2, q3, q4, q5⟩)
  · exfalso
    rcases Nat.lt_or_ge p n with c | c
    · have := (h6 c q).1 hPq
      have := hp c
      omega
    · exact hPq (h7 c q)
  · have hA : ∀ x, AT C' log x = if x < m then some (hs x) else none := fun x => by
      rw [q4 x, h3 x]
      by_cases c : x < m
      · rw [if_pos c, if_pos c, if_pos (by omega)]
      · rw [if_neg c, if_neg c]
    have hal : al = m := by
      rw [show al = LIVES C' log m from q2]
      exact LCT_whole (fun x hx => by show (AT C' log x).isSome = true; rw [hA x, if_pos hx]; rfl)
    rw [hal] at q1
    exact ⟨rfl, C', n, Nat.le_refl _, q1, hA, h5.trans (STEP.under h1 (Nat.le_refl _) (Nat.le_of_lt h1.lt) q3 q5)⟩
end Go.Proofs.Ytkmcmngdainofaa

/- The walk of the law StoreCuts. Printed by wip/tools/gen_cuts.py. -/
namespace Go.Proofs.Ytkmcmngdainofaa
open Go.RowKit Go.Maps
set_option maxRecDepth 100000

theorem items7 (d n : Nat) (F : Nat → Nat) (w : World) : ∀ is : List Nat, (∀ i ∈ is, i < n) → (Op.eqItems (d + 1) 5 1 (UARR .u8 n F) (UARR .u8 n F) is).run Try.prog w = .ok true w
  | [], _ => by simp [Op.eqItems]
  | i :: is, h => by
    have hp : Try.prog.plainKey 5 = true := by kernel_rfl
    have hi : i < n := h i (by simp)
    have h1 := run_part_plain (P := Try.prog) w hp (UARR_get .u8 n F i hi)
    have h3 := run_equalIn_int (P := Try.prog) w d 5 .u8 .u8 (F i : Nat) (F i : Nat) Try.underlying5
    have ih := items7 d n F w is (fun j hj => h j (by simp [hj]))
    rw [Op.eqItems, Nat.mul_one]
    simp only [Sem.run_bind, h1, h3, Result.andThen_ok]
    simp [ih]
theorem same7 (F : Nat → Nat) (w : World) : (Op.equalIn 10000 33 (.agg (UARR .u8 32 F)) (.agg (UARR .u8 32 F))).run Try.prog w = .ok true w := by
  obtain ⟨i8, hi, _⟩ := Option.map_eq_some_iff.1 info_u8
  rw [run_equalIn_array (P := Try.prog) w 9999 (UARR .u8 32 F) (UARR .u8 32 F) Try.underlying33 hi]
  have hc : Try.prog.cellsOf 5 = 1 := by kernel_rfl
  rw [hc]
  exact items7 9998 32 F w _ (fun i hi => by simpa using hi)
theorem CLV.more {w0 w : World} {g log q M M' : Nat} {hs : Nat → Nat → Nat} (h : CLV w0 w g log q M hs) (hM : M ≤ M') : CLV w0 w g log q M' hs := by
  obtain ⟨C, N, h1, h2⟩ := h
  exact ⟨C, N, Nat.le_trans h1 hM, h2⟩
theorem Has.range6 {w : World} {g : Nat} {F : Nat → Nat} {k : IntKind} {n : Nat} {t : TypeId} (h : Has w g (UARR k n F) t) : w.rangeAt g 0 (ULIST k n F) := fun j v hv => by
  have hj : j < n := by have := (List.getElem?_eq_some_iff.1 hv).1; rw [ULIST_length] at this; exact this
  rw [ULIST_get _ _ _ _ hj] at hv
  rw [Nat.zero_add, h.cell, UARR_get _ _ _ _ hj, hv]
/-- inputs that the law leaves out. -/
theorem cuts_out (log : Int) (a : Option Addr) (n c m p : Nat) (w : World) (h : log < 0 ∨ 16 < log ∨ 200 < n) : Calls Try.prog 4 #[.int .i64 log, .slice a n c, .int .u64 (m : Int), .int .u64 (p : Int)] w fun e w' => e = .returned (.bool true) ∧ Below w.heap.size w w' := by
  by_cases h1 : log < 0
  · clear h
    go_enter Try.func4, Try.ntmps4
    go_wp2
    go_ret
    exact ⟨rfl, Below.refl _ _⟩
  · by_cases h2 : 16 < log
    · clear h
      go_enter Try.func4, Try.ntmps4
      go_wp2
      go_ret
      exact ⟨rfl, Below.refl _ _⟩
    · have h3 : (200 : Int) < (n : Int) := by omega
      clear h
      go_enter Try.func4, Try.ntmps4
      go_wp2
      go_ret
      exact ⟨rfl, Below.refl _ _⟩
set_option maxHeartbeats 8000000 in
theorem cuts_core (log : Nat) (a : Option Addr) (n c m p : Nat) (hs : Nat → Nat → Nat) (w : World) (hlog : log ≤ 16) (hn : n ≤ 200) (hp : p < 2 ^ 64) (h8 : ∀ i, i < n → ∀ j, hs i j < 256) (hL : HLIE w a n hs) : Calls Try.prog 4 #[.int .i64 (log : Int), .slice a n c, .int .u64 (m : Int), .int .u64 (p : Int)] w fun e w' => e = .returned (.bool true) ∧ Below w.heap.size w w' := by
  have cF := fill_ok log hlog a n c hn hs h8 w hL
  have g1 : ¬ (log : Int) < 0 := by omega
  have g2 : ¬ (16 : Int) < (log : Int) := by omega
  have g3 : ¬ (200 : Int) < (n : Int) := by omega
  have g6 : IntKind.u64.wrap (n : Int) = (n : Int) := wrap_nat rfl (by omega)
  have H : Aside (n ≤ 200 ∧ p < 2 ^ 64 ∧ (∀ i, i < n → ∀ j, hs i j < 256) ∧ HLIE w a n hs) := ⟨hn, hp, h8, hL⟩
  obtain ⟨x, hx⟩ : ∃ x : Int, (if p < n then (0 : Int) else 31) = x := ⟨_, rfl⟩
  have HX : Aside ((if p < n then (0 : Int) else 31) = x) := hx
  clear hL h8 hlog hn hp hx
  go_enter Try.func4, Try.ntmps4
  go_wp2_with fail
  refine cF.mono ?_
  rintro e w1 ⟨rfl, hF, hb⟩
  clear cF g1 g2 g3
  obtain ⟨g, hg⟩ : ∃ g, w.heap.size = g := ⟨_, rfl⟩
  have HG : Aside (w.heap.size = g) := hg
  rw [hg] at hF hb ⊢
  clear hg
  have HF : Aside (FILLED w1 g g log n hs ∧ Below g w w1) := ⟨hF, hb⟩
  clear hF hb
  by_cases hc : n < m
  · have ha : (n : Int) < (m : Int) := by omega
    have hd : decide (n < m) = true := decide_eq_true hc
    have HC : Aside (n < m) := hc
    clear hc
    go_wp2_with fail
    refine (c_pin HF.out.1 HF.out.2 H.out.2.1 x HX.out).mono ?_
    rintro e w2 ⟨rfl, h2⟩
    have Z2 : Aside (PND w w2 g log n p hs) := h2
    clear h2 HF
    go_wp2_with fail
    refine (c_cut_far Z2.out HC.out).mono ?_
    rintro e w3 ⟨rfl, h3⟩
    have Z3 : Aside (CLV w w3 g log n n hs) := h3
    clear h3 Z2
    go_wp2
    go_loopg [16] n (fun k s16 wx => ∃ q : Nat, q + k = n ∧ s16 = .int .u64 q ∧ Aside (CLV w wx g log n n hs))
    case atStart => exact ⟨0, by omega, rfl, Z3⟩
    case round =>
      obtain ⟨q, hqk, rfl, Z⟩ := hrel
      clear Z3
      cases gk with
      | succ k =>
        have hqn : (q : Int) < (n : Int) := by omega
        have HQ : Aside (q < n ∧ q + 1 + k = n) := ⟨by omega, by omega⟩
        have hq1 : IntKind.u64.wrap ((q : Int) + 1) = ((q + 1 : Nat) : Int) := wrap_nat rfl (by have := H.out.1; omega)
        have hz := zeroHash
        clear hqk
        go_wp2_with fail
        refine (c_get Z.out HQ.out.1 (by have := H.out.1; omega)).mono ?_
        rintro e w3 ⟨rfl, hb3⟩
        obtain ⟨F, hF⟩ : ∃ F, hs q = F := ⟨_, rfl⟩
        have HF : Aside (hs q = F) := hF
        rw [hF]
        clear hF
        have hst := run_storeCells_new (P := Try.prog) w3 33 (UARR .u8 32 fun _ => 0) (UARR .u8 32 F) (info_HASH _) (by rw [UARR_size, UARR_size]) (UARR_one _ _ _)
        have hsu := UARR_size .u8 32 F
        obtain ⟨w4, hw4⟩ : ∃ w4, w3.alloc (.cells (UARR .u8 32 F) 33) = w4 := ⟨_, rfl⟩
        rw [hw4] at hst
        have h44 : Has w4 w3.heap.size (UARR .u8 32 F) 33 := by rw [← hw4]; exact Has.new w3 _ _
        have T3 : Aside (CLV w w4 g log n n hs ∧ Has w4 w3.heap.size (UARR .u8 32 F) 33) := ⟨Z.out.below (by rw [← hw4]; exact hb3.alloc hb3.size _), h44⟩
        clear hw4 h44 hb3 Z
        obtain ⟨lb, lo, rfl, hlb, hlr⟩ := H.out.2.2.2 (by have := HQ.out; omega)
        have HL : Aside (lb < w.heap.size ∧ w.rangeAt lb (lo + q * 32) (ULIST .u8 32 F)) := ⟨hlb, by rw [← HF.out]; exact hlr q HQ.out.1⟩
        clear hlb hlr
        go_upto_region 28 with fail
        clear hst hsu hz
        refine cuts28 w4 lb lo n c q w3.heap.size F hqn (same7 F) (fun W => CLV w W g log n n hs ∧ Has W w3.heap.size (UARR .u8 32 F) 33) ⟨T3.out.1.below (Below.refl _ _).drew, T3.out.2.keep (Below.refl _ _).drew⟩ (fun W h => ⟨h.2.range6, fun x v hv => (h.1.low.cell (by rw [← HG.out]; exact HL.out.1)).trans (HL.out.2 x v hv)⟩) (fun _ _ _ _ _ h => h) ?_
        intro W hW
        have T5 : Aside (CLV w W g log n n hs) := hW.1
        clear hW T3 HL
        go_wp2
        go_roundg k
        case measure => omega
        case rel => exact ⟨q + 1, by have := HQ.out.2; omega, by first | rfl | (rw [hq1]), T5⟩
      | zero =>
        obtain rfl : q = n := by omega
        have hlt : ¬ (q : Int) < (q : Int) := by omega
        have c1 := c_len Z.out
        have c2 := c_alive Z.out
        go_wp2_with (first
          | (refine c1.mono ?_; rintro e w' ⟨rfl, rfl⟩)
          | (refine c2.mono ?_; rintro e w' ⟨rfl, rfl⟩)
          | fail)
        refine (awake_ok wr).mono ?_
        rintro e w6 ⟨rfl, hb6⟩
        have H6 : Aside (Below g w w6) := (Z.out.below hb6).low
        clear hb6 c1 c2
        go_wp2
        go_ret
        rw [HG.out]
        exact ⟨rfl, H6.out⟩
  · by_cases hpn : p < n
    · by_cases hpm : m ≤ p
      · have ha : ¬ (n : Int) < (m : Int) := by omega
        have hd : decide (n < m) = false := decide_eq_false (by omega)
        have hd2 : decide (m ≤ p) = true := decide_eq_true hpm
        have ha2 : (m : Int) ≤ (p : Int) := by omega
        have HC : Aside (m ≤ n ∧ p < n ∧ m ≤ p) := ⟨by omega, hpn, hpm⟩
        clear hc hpn hpm
        go_wp2_with fail
        refine (c_pin HF.out.1 HF.out.2 H.out.2.1 0 (if_pos HC.out.2.1)).mono ?_
        rintro e w2 ⟨rfl, h2⟩
        have Z2 : Aside (PND w w2 g log n p hs) := h2
        clear h2 HF
        go_wp2_with fail
        refine (c_cut_pinned Z2.out H.out.1 HC.out.1 HC.out.2.1 HC.out.2.2).mono ?_
        rintro e w3 ⟨rfl, h3⟩
        have Z3 : Aside (CLV w w3 g log n n hs) := h3
        clear h3 Z2
        go_wp2
        go_loopg [16] n (fun k s16 wx => ∃ q : Nat, q + k = n ∧ s16 = .int .u64 q ∧ Aside (CLV w wx g log n n hs))
        case atStart => exact ⟨0, by omega, rfl, Z3⟩
        case round =>
          obtain ⟨q, hqk, rfl, Z⟩ := hrel
          clear Z3
          cases gk with
          | succ k =>
            have hqn : (q : Int) < (n : Int) := by omega
            have HQ : Aside (q < n ∧ q + 1 + k = n) := ⟨by omega, by omega⟩
            have hq1 : IntKind.u64.wrap ((q : Int) + 1) = ((q + 1 : Nat) : Int) := wrap_nat rfl (by have := H.out.1; omega)
            have hz := zeroHash
            clear hqk
            go_wp2_with fail
            refine (c_get Z.out HQ.out.1 (by have := H.out.1; omega)).mono ?_
            rintro e w3 ⟨rfl, hb3⟩
            obtain ⟨F, hF⟩ : ∃ F, hs q = F := ⟨_, rfl⟩
            have HF : Aside (hs q = F) := hF
            rw [hF]
            clear hF
            have hst := run_storeCells_new (P := Try.prog) w3 33 (UARR .u8 32 fun _ => 0) (UARR .u8 32 F) (info_HASH _) (by rw [UARR_size, UARR_size]) (UARR_one _ _ _)
            have hsu := UARR_size .u8 32 F
            obtain ⟨w4, hw4⟩ : ∃ w4, w3.alloc (.cells (UARR .u8 32 F) 33) = w4 := ⟨_, rfl⟩
            rw [hw4] at hst
            have h44 : Has w4 w3.heap.size (UARR .u8 32 F) 33 := by rw [← hw4]; exact Has.new w3 _ _
            have T3 : Aside (CLV w w4 g log n n hs ∧ Has w4 w3.heap.size (UARR .u8 32 F) 33) := ⟨Z.out.below (by rw [← hw4]; exact hb3.alloc hb3.size _), h44⟩
            clear hw4 h44 hb3 Z
            obtain ⟨lb, lo, rfl, hlb, hlr⟩ := H.out.2.2.2 (by have := HQ.out; omega)
            have HL : Aside (lb < w.heap.size ∧ w.rangeAt lb (lo + q * 32) (ULIST .u8 32 F)) := ⟨hlb, by rw [← HF.out]; exact hlr q HQ.out.1⟩
            clear hlb hlr
            go_upto_region 28 with fail
            clear hst hsu hz
            refine cuts28 w4 lb lo n c q w3.heap.size F hqn (same7 F) (fun W => CLV w W g log n n hs ∧ Has W w3.heap.size (UARR .u8 32 F) 33) ⟨T3.out.1.below (Below.refl _ _).drew, T3.out.2.keep (Below.refl _ _).drew⟩ (fun W h => ⟨h.2.range6, fun x v hv => (h.1.low.cell (by rw [← HG.out]; exact HL.out.1)).trans (HL.out.2 x v hv)⟩) (fun _ _ _ _ _ h => h) ?_
            intro W hW
            have T5 : Aside (CLV w W g log n n hs) := hW.1
            clear hW T3 HL
            go_wp2
            go_roundg k
            case measure => omega
            case rel => exact ⟨q + 1, by have := HQ.out.2; omega, by first | rfl | (rw [hq1]), T5⟩
          | zero =>
            obtain rfl : q = n := by omega
            have hlt : ¬ (q : Int) < (q : Int) := by omega
            have c1 := c_len Z.out
            have c2 := c_alive Z.out
            go_wp2_with (first
              | (refine c1.mono ?_; rintro e w' ⟨rfl, rfl⟩)
              | (refine c2.mono ?_; rintro e w' ⟨rfl, rfl⟩)
              | fail)
            refine (awake_ok wr).mono ?_
            rintro e w6 ⟨rfl, hb6⟩
            have H6 : Aside (Below g w w6) := (Z.out.below hb6).low
            clear hb6 c1 c2
            go_wp2
            go_ret
            rw [HG.out]
            exact ⟨rfl, H6.out⟩
      · have ha : ¬ (n : Int) < (m : Int) := by omega
        have hd : decide (n < m) = false := decide_eq_false (by omega)
        have hd2 : decide (m ≤ p) = false := decide_eq_false hpm
        have ha2 : ¬ (m : Int) ≤ (p : Int) := by omega
        have HC : Aside (m ≤ n ∧ p < n ∧ p < m) := ⟨by omega, hpn, by omega⟩
        clear hc hpn hpm
        go_wp2_with fail
        refine (c_pin HF.out.1 HF.out.2 H.out.2.1 0 (if_pos HC.out.2.1)).mono ?_
        rintro e w2 ⟨rfl, h2⟩
        have Z2 : Aside (PND w w2 g log n p hs) := h2
        clear h2 HF
        go_wp2_with fail
        refine (c_cut Z2.out H.out.1 HC.out.1 (fun _ => HC.out.2.2)).mono ?_
        rintro e w3 ⟨rfl, h3⟩
        have Z3 : Aside (CLV w w3 g log m n hs) := h3
        clear h3 Z2
        go_wp2_with (first
          | (refine (c_len Z3.out).mono ?_; rintro e w' ⟨rfl, rfl⟩)
          | fail)
        refine (c_live Z3.out (by have := H.out.1; have := HC.out.1; omega)).mono ?_
        rintro e w4 ⟨rfl, h4⟩
        have Z4 : Aside (CLV w w4 g log m (n + m) hs) := h4.more (by omega)
        clear h4 Z3
        go_wp2
        go_loopg [15] (n - m) (fun k s15 wx => ∃ q : Nat, q + k = n ∧ s15 = .int .u64 q ∧ Aside (CLV w wx g log q (n + q) hs))
        case atStart => exact ⟨m, by have := HC.out.1; omega, rfl, Z4⟩
        case round =>
          obtain ⟨q, hqk, rfl, Z⟩ := hrel
          clear Z4
          cases gk with
          | succ k =>
            have hqn : (q : Int) < (n : Int) := by omega
            have HQ : Aside (q < n ∧ q + 1 + k = n) := ⟨by omega, by omega⟩
            have hq1 : IntKind.u64.wrap ((q : Int) + 1) = ((q + 1 : Nat) : Int) := wrap_nat rfl (by have := H.out.1; omega)
            clear hqk
            obtain ⟨lb, lo, rfl, hlb, hlr⟩ := H.out.2.2.2 (by have := HQ.out; omega)
            have hr2 : wr.rangeAt lb (lo + q * 32) (ULIST .u8 32 (hs q)) := fun x v hv => (Z.out.low.cell (by rw [← HG.out]; exact hlb)).trans (hlr q HQ.out.1 x v hv)
            clear hlb hlr
            go_wp2_with (first
              | (refine wpList_load_mid rfl 33 (.tmp 80) rfl lb (lo + q * 32) rfl (ULIST .u8 32 (hs q)) _ hr2 Try.underlying33 rfl (by rw [ULIST_length]; exact info_hash) ?_)
              | fail)
            rw [← UARR_list]
            refine (c_push Z.out (H.out.2.2.1 q HQ.out.1) (by have := H.out.1; have := HQ.out.1; omega) (by have := H.out.1; have := HQ.out.1; omega)).mono ?_
            rintro e w5 ⟨rfl, h5⟩
            have T5 : Aside (CLV w w5 g log (q + 1) (n + (q + 1)) hs) := h5
            clear h5 Z hr2
            go_wp2
            go_roundg k
            case measure => omega
            case rel => exact ⟨q + 1, by have := HQ.out.2; omega, by first | rfl | (rw [hq1]), T5⟩
          | zero =>
            have hqe : q = n := by omega
            have Z5 : Aside (CLV w wr g log n (n + n) hs) := by have := Z.out; rw [hqe] at this; exact this
            have hlt : ¬ (q : Int) < (n : Int) := by omega
            clear hqk hqe Z
            go_wp2
            go_loopg [16] n (fun k s16 wx => ∃ q : Nat, q + k = n ∧ s16 = .int .u64 q ∧ Aside (CLV w wx g log n (n + n) hs))
            case atStart => exact ⟨0, by omega, rfl, Z5⟩
            case round =>
              obtain ⟨q, hqk, rfl, Z⟩ := hrel
              clear Z5
              cases gk with
              | succ k =>
                have hqn : (q : Int) < (n : Int) := by omega
                have HQ : Aside (q < n ∧ q + 1 + k = n) := ⟨by omega, by omega⟩
                have hq1 : IntKind.u64.wrap ((q : Int) + 1) = ((q + 1 : Nat) : Int) := wrap_nat rfl (by have := H.out.1; omega)
                have hz := zeroHash
                clear hqk
                go_wp2_with fail
                refine (c_get Z.out HQ.out.1 (by have := H.out.1; omega)).mono ?_
                rintro e w3 ⟨rfl, hb3⟩
                obtain ⟨F, hF⟩ : ∃ F, hs q = F := ⟨_, rfl⟩
                have HF : Aside (hs q = F) := hF
                rw [hF]
                clear hF
                have hst := run_storeCells_new (P := Try.prog) w3 33 (UARR .u8 32 fun _ => 0) (UARR .u8 32 F) (info_HASH _) (by rw [UARR_size, UARR_size]) (UARR_one _ _ _)
                have hsu := UARR_size .u8 32 F
                obtain ⟨w4, hw4⟩ : ∃ w4, w3.alloc (.cells (UARR .u8 32 F) 33) = w4 := ⟨_, rfl⟩
                rw [hw4] at hst
                have h44 : Has w4 w3.heap.size (UARR .u8 32 F) 33 := by rw [← hw4]; exact Has.new w3 _ _
                have T3 : Aside (CLV w w4 g log n (n + n) hs ∧ Has w4 w3.heap.size (UARR .u8 32 F) 33) := ⟨Z.out.below (by rw [← hw4]; exact hb3.alloc hb3.size _), h44⟩
                clear hw4 h44 hb3 Z
                obtain ⟨lb, lo, rfl, hlb, hlr⟩ := H.out.2.2.2 (by have := HQ.out; omega)
                have HL : Aside (lb < w.heap.size ∧ w.rangeAt lb (lo + q * 32) (ULIST .u8 32 F)) := ⟨hlb, by rw [← HF.out]; exact hlr q HQ.out.1⟩
                clear hlb hlr
                go_upto_region 28 with fail
                clear hst hsu hz
                refine cuts28 w4 lb lo n c q w3.heap.size F hqn (same7 F) (fun W => CLV w W g log n (n + n) hs ∧ Has W w3.heap.size (UARR .u8 32 F) 33) ⟨T3.out.1.below (Below.refl _ _).drew, T3.out.2.keep (Below.refl _ _).drew⟩ (fun W h => ⟨h.2.range6, fun x v hv => (h.1.low.cell (by rw [← HG.out]; exact HL.out.1)).trans (HL.out.2 x v hv)⟩) (fun _ _ _ _ _ h => h) ?_
                intro W hW
                have T5 : Aside (CLV w W g log n (n + n) hs) := hW.1
                clear hW T3 HL
                go_wp2
                go_roundg k
                case measure => omega
                case rel => exact ⟨q + 1, by have := HQ.out.2; omega, by first | rfl | (rw [hq1]), T5⟩
              | zero =>
                obtain rfl : q = n := by omega
                have hlt : ¬ (q : Int) < (q : Int) := by omega
                have c1 := c_len Z.out
                have c2 := c_alive Z.out
                go_wp2_with (first
                  | (refine c1.mono ?_; rintro e w' ⟨rfl, rfl⟩)
                  | (refine c2.mono ?_; rintro e w' ⟨rfl, rfl⟩)
                  | fail)
                refine (awake_ok wr).mono ?_
                rintro e w6 ⟨rfl, hb6⟩
                have H6 : Aside (Below g w w6) := (Z.out.below hb6).low
                clear hb6 c1 c2
                go_wp2
                go_ret
                rw [HG.out]
                exact ⟨rfl, H6.out⟩
    · have ha : ¬ (n : Int) < (m : Int) := by omega
      have hd : decide (n < m) = false := decide_eq_false (by omega)
      have HC : Aside (m ≤ n ∧ n ≤ p) := ⟨by omega, by omega⟩
      clear hc hpn
      go_wp2_with fail
      refine (c_pin HF.out.1 HF.out.2 H.out.2.1 31 (if_neg (by have := HC.out.2; omega))).mono ?_
      rintro e w2 ⟨rfl, h2⟩
      have Z2 : Aside (PND w w2 g log n p hs) := h2
      clear h2 HF
      go_wp2_with fail
      refine (c_cut Z2.out H.out.1 HC.out.1 (fun c => by have := HC.out.2; omega)).mono ?_
      rintro e w3 ⟨rfl, h3⟩
      have Z3 : Aside (CLV w w3 g log m n hs) := h3
      clear h3 Z2
      go_wp2_with (first
        | (refine (c_len Z3.out).mono ?_; rintro e w' ⟨rfl, rfl⟩)
        | fail)
      refine (c_live Z3.out (by have := H.out.1; have := HC.out.1; omega)).mono ?_
      rintro e w4 ⟨rfl, h4⟩
      have Z4 : Aside (CLV w w4 g log m (n + m) hs) := h4.more (by omega)
      clear h4 Z3
      go_wp2
      go_loopg [15] (n - m) (fun k s15 wx => ∃ q : Nat, q + k = n ∧ s15 = .int .u64 q ∧ Aside (CLV w wx g log q (n + q) hs))
      case atStart => exact ⟨m, by have := HC.out.1; omega, rfl, Z4⟩
      case round =>
        obtain ⟨q, hqk, rfl, Z⟩ := hrel
        clear Z4
        cases gk with
        | succ k =>
          have hqn : (q : Int) < (n : Int) := by omega
          have HQ : Aside (q < n ∧ q + 1 + k = n) := ⟨by omega, by omega⟩
          have hq1 : IntKind.u64.wrap ((q : Int) + 1) = ((q + 1 : Nat) : Int) := wrap_nat rfl (by have := H.out.1; omega)
          clear hqk
          obtain ⟨lb, lo, rfl, hlb, hlr⟩ := H.out.2.2.2 (by have := HQ.out; omega)
          have hr2 : wr.rangeAt lb (lo + q * 32) (ULIST .u8 32 (hs q)) := fun x v hv => (Z.out.low.cell (by rw [← HG.out]; exact hlb)).trans (hlr q HQ.out.1 x v hv)
          clear hlb hlr
          go_wp2_with (first
            | (refine wpList_load_mid rfl 33 (.tmp 80) rfl lb (lo + q * 32) rfl (ULIST .u8 32 (hs q)) _ hr2 Try.underlying33 rfl (by rw [ULIST_length]; exact info_hash) ?_)
            | fail)
          rw [← UARR_list]
          refine (c_push Z.out (H.out.2.2.1 q HQ.out.1) (by have := H.out.1; have := HQ.out.1; omega) (by have := H.out.1; have := HQ.out.1; omega)).mono ?_
          rintro e w5 ⟨rfl, h5⟩
          have T5 : Aside (CLV w w5 g log (q + 1) (n + (q + 1)) hs) := h5
          clear h5 Z hr2
          go_wp2
          go_roundg k
          case measure => omega
          case rel => exact ⟨q + 1, by have := HQ.out.2; omega, by first | rfl | (rw [hq1]), T5⟩
        | zero =>
          have hqe : q = n := by omega
          have Z5 : Aside (CLV w wr g log n (n + n) hs) := by have := Z.out; rw [hqe] at this; exact this
          have hlt : ¬ (q : Int) < (n : Int) := by omega
          clear hqk hqe Z
          go_wp2
          go_loopg [16] n (fun k s16 wx => ∃ q : Nat, q + k = n ∧ s16 = .int .u64 q ∧ Aside (CLV w wx g log n (n + n) hs))
          case atStart => exact ⟨0, by omega, rfl, Z5⟩
          case round =>
            obtain ⟨q, hqk, rfl, Z⟩ := hrel
            clear Z5
            cases gk with
            | succ k =>
              have hqn : (q : Int) < (n : Int) := by omega
              have HQ : Aside (q < n ∧ q + 1 + k = n) := ⟨by omega, by omega⟩
              have hq1 : IntKind.u64.wrap ((q : Int) + 1) = ((q + 1 : Nat) : Int) := wrap_nat rfl (by have := H.out.1; omega)
              have hz := zeroHash
              clear hqk
              go_wp2_with fail
              refine (c_get Z.out HQ.out.1 (by have := H.out.1; omega)).mono ?_
              rintro e w3 ⟨rfl, hb3⟩
              obtain ⟨F, hF⟩ : ∃ F, hs q = F := ⟨_, rfl⟩
              have HF : Aside (hs q = F) := hF
              rw [hF]
              clear hF
              have hst := run_storeCells_new (P := Try.prog) w3 33 (UARR .u8 32 fun _ => 0) (UARR .u8 32 F) (info_HASH _) (by rw [UARR_size, UARR_size]) (UARR_one _ _ _)
              have hsu := UARR_size .u8 32 F
              obtain ⟨w4, hw4⟩ : ∃ w4, w3.alloc (.cells (UARR .u8 32 F) 33) = w4 := ⟨_, rfl⟩
              rw [hw4] at hst
              have h44 : Has w4 w3.heap.size (UARR .u8 32 F) 33 := by rw [← hw4]; exact Has.new w3 _ _
              have T3 : Aside (CLV w w4 g log n (n + n) hs ∧ Has w4 w3.heap.size (UARR .u8 32 F) 33) := ⟨Z.out.below (by rw [← hw4]; exact hb3.alloc hb3.size _), h44⟩
              clear hw4 h44 hb3 Z
              obtain ⟨lb, lo, rfl, hlb, hlr⟩ := H.out.2.2.2 (by have := HQ.out; omega)
              have HL : Aside (lb < w.heap.size ∧ w.rangeAt lb (lo + q * 32) (ULIST .u8 32 F)) := ⟨hlb, by rw [← HF.out]; exact hlr q HQ.out.1⟩
              clear hlb hlr
              go_upto_region 28 with fail
              clear hst hsu hz
              refine cuts28 w4 lb lo n c q w3.heap.size F hqn (same7 F) (fun W => CLV w W g log n (n + n) hs ∧ Has W w3.heap.size (UARR .u8 32 F) 33) ⟨T3.out.1.below (Below.refl _ _).drew, T3.out.2.keep (Below.refl _ _).drew⟩ (fun W h => ⟨h.2.range6, fun x v hv => (h.1.low.cell (by rw [← HG.out]; exact HL.out.1)).trans (HL.out.2 x v hv)⟩) (fun _ _ _ _ _ h => h) ?_
              intro W hW
              have T5 : Aside (CLV w W g log n (n + n) hs) := hW.1
              clear hW T3 HL
              go_wp2
              go_roundg k
              case measure => omega
              case rel => exact ⟨q + 1, by have := HQ.out.2; omega, by first | rfl | (rw [hq1]), T5⟩
            | zero =>
              obtain rfl : q = n := by omega
              have hlt : ¬ (q : Int) < (q : Int) := by omega
              have c1 := c_len Z.out
              have c2 := c_alive Z.out
              go_wp2_with (first
                | (refine c1.mono ?_; rintro e w' ⟨rfl, rfl⟩)
                | (refine c2.mono ?_; rintro e w' ⟨rfl, rfl⟩)
                | fail)
              refine (awake_ok wr).mono ?_
              rintro e w6 ⟨rfl, hb6⟩
              have H6 : Aside (Below g w w6) := (Z.out.below hb6).low
              clear hb6 c1 c2
              go_wp2
              go_ret
              rw [HG.out]
              exact ⟨rfl, H6.out⟩
theorem storeCuts_walk (log : Int) (a : Option Addr) (n c m p : Nat) (hs : Nat → Nat → Nat) (w : World) (hp : p < 2 ^ 64) (h8 : ∀ i, i < n → ∀ j, hs i j < 256) (hL : HLIE w a n hs) : Calls Try.prog 4 #[.int .i64 log, .slice a n c, .int .u64 (m : Int), .int .u64 (p : Int)] w fun e w' => e = .returned (.bool true) ∧ Below w.heap.size w w' := by
  by_cases h : log < 0 ∨ 16 < log ∨ 200 < n
  · exact cuts_out log a n c m p w h
  · have e1 : ((log.toNat : Nat) : Int) = log := Int.toNat_of_nonneg (by omega)
    rw [← e1]
    exact cuts_core log.toNat a n c m p hs w (by omega) (by omega) hp h8 hL
end Go.Proofs.Ytkmcmngdainofaa

/- What a row gives the walks of the store's laws: a slice of hashes that came in. -/
namespace Go.Proofs.Ytkmcmngdainofaa
open Go.ChangeShapes Go.WideShapes Go.ChangeAt Go.RowKit
set_option maxRecDepth 100000

theorem own : ownKnob Try.prog.godebug = none := by kernel_rfl
theorem laidOut : laidOutB Try.prog = true := by kernel_rfl
/-- one hash, by its cells. -/
theorem open_hash {H : Type} {enc : TypeId × Value → H} {W : World} {fuel : Nat} {cs : List Value} {x : DataW H × List MemPlace} (hf : DataW.trod enc Try.prog W 0 (fun _ => true) true fuel 33 cs = some x) : ∃ h : Nat → Nat, (∀ i, h i < 256) ∧ cs = ULIST .u8 32 h := by
  obtain ⟨xs, m, rfl, _, hl, hn, hel⟩ := DataW.trod_array Try.underlying33 hf
  have c5 : Try.prog.cellsOf 5 = 1 := by kernel_rfl
  have c32 : Try.prog.cellsOf 33 = 32 := by kernel_rfl
  rw [c32] at hl
  have hx : ∀ i, i < 32 → ∃ k : Nat, cs[i]? = some (.int .u8 (k : Int)) ∧ k < 256 := fun i hi => by
    have h0 := hel i hi
    rw [List.getElem?_eq_getElem (by omega), c5, Nat.mul_one] at h0
    obtain ⟨k, e1, _, e3⟩ := DataW.trod_int Try.underlying5 h0
    have hb := bounds_u8 e3
    refine ⟨k.toNat, ?_, by omega⟩
    have := congrArg (fun l => l[0]?) e1
    rw [Int.toNat_of_nonneg hb.1]
    simpa using this
  have F : ∃ f : Nat → Nat, (∀ i, f i < 256) ∧ ∀ i, i < 32 → cs[i]? = some (.int .u8 ((f i : Nat) : Int)) := by
    refine ⟨fun i => if hi : i < 32 then (hx i hi).choose else 0, fun i => ?_, fun i hi => ?_⟩
    · by_cases hi : i < 32
      · simp only [hi, dif_pos]; exact (hx i hi).choose_spec.2
      · simp only [hi, dif_neg, not_false_iff]; decide
    · simp only [hi, dif_pos]; exact (hx i hi).choose_spec.1
  obtain ⟨f, hf1, hf2⟩ := F
  refine ⟨f, hf1, ?_⟩
  apply List.ext_getElem?
  intro i
  by_cases hi : i < 32
  · rw [hf2 i hi, ULIST_get _ _ _ _ hi]
  · rw [List.getElem?_eq_none (by omega), List.getElem?_eq_none (by rw [ULIST_length]; omega)]
/-- a slice of hashes that came in. -/
theorem open_hashes {H : Type} {enc : TypeId × Value → H} {W : World} {a : Option Addr} {k c : Nat} {d : DataW H} {ps : List MemPlace} (hd : DataW.Trod enc Try.prog W 0 (fun _ => true) true 22 (.slice a k c) d ps) :
    ∃ hs : Nat → Nat → Nat, (∀ i, i < k → ∀ j, hs i j < 256) ∧ HLIE W a k hs := by
  obtain ⟨fuel, hf⟩ := hd
  rcases DataW.trod_slice Try.underlying22 hf with ⟨h0, _⟩ | ⟨ad, len, cap, elems, rest, n, _, h0, hx, _, hl, hm, hlen, hel, _, _⟩
  · simp [Value.cells] at h0
    obtain ⟨rfl, rfl, rfl⟩ := h0
    exact ⟨fun _ _ => 0, fun i hi => by omega, fun h => by omega⟩
  · simp [Value.cells] at h0
    obtain ⟨rfl, rfl, rfl⟩ := h0
    have c32 : Try.prog.cellsOf 33 = 32 := by kernel_rfl
    have each : ∀ i, i < k → ∃ h : Nat → Nat, (∀ j, h j < 256) ∧ ∀ j, j < 32 → W.cell? ((ad.add (i * 32)).add j) = some (.int .u8 ((h j : Nat) : Int)) := fun i hi => by
      have h := hel i hi
      rw [List.getElem?_eq_getElem (by omega), c32, Option.bind_eq_some_iff] at h
      obtain ⟨cs, hcs, ht⟩ := h
      obtain ⟨f, h1, rfl⟩ := open_hash ht
      have hs := (World.cells?_some hcs).2.2
      refine ⟨f, h1, fun j hj => ?_⟩
      have s := hs j hj
      rw [s]
      exact ULIST_get .u8 32 f j hj
    have F : ∃ f : Nat → Nat → Nat, ∀ i, i < k → (∀ j, f i j < 256) ∧ ∀ j, j < 32 → W.cell? ((ad.add (i * 32)).add j) = some (.int .u8 ((f i j : Nat) : Int)) := by
      refine ⟨fun i => if hi : i < k then (each i hi).choose else fun _ => 0, fun i hi => ?_⟩
      simp only [hi, dif_pos]
      exact (each i hi).choose_spec
    obtain ⟨f, hf2⟩ := F
    refine ⟨f, fun i hi => (hf2 i hi).1, fun h0k => ?_⟩
    obtain ⟨b, off, spot⟩ := ad
    have hc := (hf2 0 h0k).2 0 (by decide)
    have hspot : spot = none := by simpa [Addr.add] using World.cell?_spot hc
    subst hspot
    refine ⟨b, off, rfl, ?_, fun i hi j v hv => ?_⟩
    · have := World.block_lt_of_cell? W _ hc
      simpa [Addr.add] using this
    · have hj : j < 32 := by have := (List.getElem?_eq_some_iff.1 hv).1; rw [ULIST_length] at this; exact this
      have h1 := (hf2 i hi).2 j hj
      rw [addr_add, addr_add] at h1
      rw [ULIST_get _ _ _ _ hj] at hv
      rw [h1, ← hv]
end Go.Proofs.Ytkmcmngdainofaa
