/- The walk of the law StoreCuts. Printed by wip/tools/gen_cuts.py. -/
import Derived.Test.YtkmcmngdainofaaStoreCutsCalls
namespace Go.Proofs.Ytkmcmngdainofaa
open Go.RowKit Go.Maps
set_option maxRecDepth 100000

theorem items7 (d n : Nat) (F : Nat → Nat) (w : World) : ∀ is : List Nat, (∀ i ∈ is, i < n) → (Op.eqItems (d + 1) 5 1 (UARR .u8 n F) (UARR .u8 n F) is).run Try.prog w = .ok true w
  | [], _ => by simp [Op.eqItems]
  | i :: is, h => by
    have hp : Try.prog.plainKey 5 = true := by kernel_rfl
    have hi : i < n := h i (by simp)
    have h1 := run_part_plain (P := Try.prog) w hp (UARR_get .u8 n F i hi)
    have h3 := run_equalIn_int (P := Try.prog) w d 5 .u8 .u8 (F i : Nat) (F i : Nat) Try.underlying5
    have ih := items7 d n F w is (fun j hj => h j (by simp [hj]))
    rw [Op.eqItems, Nat.mul_one]
    simp only [Sem.run_bind, h1, h3, Result.andThen_ok]
    simp [ih]
theorem same7 (F : Nat → Nat) (w : World) : (Op.equalIn 10000 33 (.agg (UARR .u8 32 F)) (.agg (UARR .u8 32 F))).run Try.prog w = .ok true w := by
  obtain ⟨i8, hi, _⟩ := Option.map_eq_some_iff.1 info_u8
  rw [run_equalIn_array (P := Try.prog) w 9999 (UARR .u8 32 F) (UARR .u8 32 F) Try.underlying33 hi]
  have hc : Try.prog.cellsOf 5 = 1 := by kernel_rfl
  rw [hc]
  exact items7 9998 32 F w _ (fun i hi => by simpa using hi)
theorem CLV.more {w0 w : World} {g log q M M' : Nat} {hs : Nat → Nat → Nat} (h : CLV w0 w g log q M hs) (hM : M ≤ M') : CLV w0 w g log q M' hs := by
  obtain ⟨C, N, h1, h2⟩ := h
  exact ⟨C, N, Nat.le_trans h1 hM, h2⟩
theorem Has.range6 {w : World} {g : Nat} {F : Nat → Nat} {k : IntKind} {n : Nat} {t : TypeId} (h : Has w g (UARR k n F) t) : w.rangeAt g 0 (ULIST k n F) := fun j v hv => by
  have hj : j < n := by have := (List.getElem?_eq_some_iff.1 hv).1; rw [ULIST_length] at this; exact this
  rw [ULIST_get _ _ _ _ hj] at hv
  rw [Nat.zero_add, h.cell, UARR_get _ _ _ _ hj, hv]
/-- inputs that the law leaves out. -/
theorem cuts_out (log : Int) (a : Option Addr) (n c m p : Nat) (w : World) (h : log < 0 ∨ 16 < log ∨ 200 < n) : Calls Try.prog 4 #[.int .i64 log, .slice a n c, .int .u64 (m : Int), .int .u64 (p : Int)] w fun e w' => e = .returned (.bool true) ∧ Below w.heap.size w w' := by
  by_cases h1 : log < 0
  · clear h
    go_enter Try.func4, Try.ntmps4
    go_wp2
    go_ret
    exact ⟨rfl, Below.refl _ _⟩
  · by_cases h2 : 16 < log
    · clear h
      go_enter Try.func4, Try.ntmps4
      go_wp2
      go_ret
      exact ⟨rfl, Below.refl _ _⟩
    · have h3 : (200 : Int) < (n : Int) := by omega
      clear h
      go_enter Try.func4, Try.ntmps4
      go_wp2
      go_ret
      exact ⟨rfl, Below.refl _ _⟩
set_option maxHeartbeats 8000000 in
theorem cuts_core (log : Nat) (a : Option Addr) (n c m p : Nat) (hs : Nat → Nat → Nat) (w : World) (hlog : log ≤ 16) (hn : n ≤ 200) (hp : p < 2 ^ 64) (h8 : ∀ i, i < n → ∀ j, hs i j < 256) (hL : HLIE w a n hs) : Calls Try.prog 4 #[.int .i64 (log : Int), .slice a n c, .int .u64 (m : Int), .int .u64 (p : Int)] w fun e w' => e = .returned (.bool true) ∧ Below w.heap.size w w' := by
  have cF := fill_ok log hlog a n c hn hs h8 w hL
  have g1 : ¬ (log : Int) < 0 := by omega
  have g2 : ¬ (16 : Int) < (log : Int) := by omega
  have g3 : ¬ (200 : Int) < (n : Int) := by omega
  have g6 : IntKind.u64.wrap (n : Int) = (n : Int) := wrap_nat rfl (by omega)
  have H : Aside (n ≤ 200 ∧ p < 2 ^ 64 ∧ (∀ i, i < n → ∀ j, hs i j < 256) ∧ HLIE w a n hs) := ⟨hn, hp, h8, hL⟩
  obtain ⟨x, hx⟩ : ∃ x : Int, (if p < n then (0 : Int) else 31) = x := ⟨_, rfl⟩
  have HX : Aside ((if p < n then (0 : Int) else 31) = x) := hx
  clear hL h8 hlog hn hp hx
  go_enter Try.func4, Try.ntmps4
  go_wp2_with fail
  refine cF.mono ?_
  rintro e w1 ⟨rfl, hF, hb⟩
  clear cF g1 g2 g3
  obtain ⟨g, hg⟩ : ∃ g, w.heap.size = g := ⟨_, rfl⟩
  have HG : Aside (w.heap.size = g) := hg
  rw [hg] at hF hb ⊢
  clear hg
  have HF : Aside (FILLED w1 g g log n hs ∧ Below g w w1) := ⟨hF, hb⟩
  clear hF hb
  by_cases hc : n < m
  · have ha : (n : Int) < (m : Int) := by omega
    have hd : decide (n < m) = true := decide_eq_true hc
    have HC : Aside (n < m) := hc
    clear hc
    go_wp2_with fail
    refine (c_pin HF.out.1 HF.out.2 H.out.2.1 x HX.out).mono ?_
    rintro e w2 ⟨rfl, h2⟩
    have Z2 : Aside (PND w w2 g log n p hs) := h2
    clear h2 HF
    go_wp2_with fail
    refine (c_cut_far Z2.out HC.out).mono ?_
    rintro e w3 ⟨rfl, h3⟩
    have Z3 : Aside (CLV w w3 g log n n hs) := h3
    clear h3 Z2
    go_wp2
    go_loopg [16] n (fun k s16 wx => ∃ q : Nat, q + k = n ∧ s16 = .int .u64 q ∧ Aside (CLV w wx g log n n hs))
    case atStart => exact ⟨0, by omega, rfl, Z3⟩
    case round =>
      obtain ⟨q, hqk, rfl, Z⟩ := hrel
      clear Z3
      cases gk with
      | succ k =>
        have hqn : (q : Int) < (n : Int) := by omega
        have HQ : Aside (q < n ∧ q + 1 + k = n) := ⟨by omega, by omega⟩
        have hq1 : IntKind.u64.wrap ((q : Int) + 1) = ((q + 1 : Nat) : Int) := wrap_nat rfl (by have := H.out.1; omega)
        have hz := zeroHash
        clear hqk
        go_wp2_with fail
        refine (c_get Z.out HQ.out.1 (by have := H.out.1; omega)).mono ?_
        rintro e w3 ⟨rfl, hb3⟩
        obtain ⟨F, hF⟩ : ∃ F, hs q = F := ⟨_, rfl⟩
        have HF : Aside (hs q = F) := hF
        rw [hF]
        clear hF
        have hst := run_storeCells_new (P := Try.prog) w3 33 (UARR .u8 32 fun _ => 0) (UARR .u8 32 F) (info_HASH _) (by rw [UARR_size, UARR_size]) (UARR_one _ _ _)
        have hsu := UARR_size .u8 32 F
        obtain ⟨w4, hw4⟩ : ∃ w4, w3.alloc (.cells (UARR .u8 32 F) 33) = w4 := ⟨_, rfl⟩
        rw [hw4] at hst
        have h44 : Has w4 w3.heap.size (UARR .u8 32 F) 33 := by rw [← hw4]; exact Has.new w3 _ _
        have T3 : Aside (CLV w w4 g log n n hs ∧ Has w4 w3.heap.size (UARR .u8 32 F) 33) := ⟨Z.out.below (by rw [← hw4]; exact hb3.alloc hb3.size _), h44⟩
        clear hw4 h44 hb3 Z
        obtain ⟨lb, lo, rfl, hlb, hlr⟩ := H.out.2.2.2 (by have := HQ.out; omega)
        have HL : Aside (lb < w.heap.size ∧ w.rangeAt lb (lo + q * 32) (ULIST .u8 32 F)) := ⟨hlb, by rw [← HF.out]; exact hlr q HQ.out.1⟩
        clear hlb hlr
        go_upto_region 28 with fail
        clear hst hsu hz
        refine cuts28 w4 lb lo n c q w3.heap.size F hqn (same7 F) (fun W => CLV w W g log n n hs ∧ Has W w3.heap.size (UARR .u8 32 F) 33) ⟨T3.out.1.below (Below.refl _ _).drew, T3.out.2.keep (Below.refl _ _).drew⟩ (fun W h => ⟨h.2.range6, fun x v hv => (h.1.low.cell (by rw [← HG.out]; exact HL.out.1)).trans (HL.out.2 x v hv)⟩) (fun _ _ _ _ _ h => h) ?_
        intro W hW
        have T5 : Aside (CLV w W g log n n hs) := hW.1
        clear hW T3 HL
        go_wp2
        go_roundg k
        case measure => omega
        case rel => exact ⟨q + 1, by have := HQ.out.2; omega, by first | rfl | (rw [hq1]), T5⟩
      | zero =>
        obtain rfl : q = n := by omega
        have hlt : ¬ (q : Int) < (q : Int) := by omega
        have c1 := c_len Z.out
        have c2 := c_alive Z.out
        go_wp2_with (first
          | (refine c1.mono ?_; rintro e w' ⟨rfl, rfl⟩)
          | (refine c2.mono ?_; rintro e w' ⟨rfl, rfl⟩)
          | fail)
        refine (awake_ok wr).mono ?_
        rintro e w6 ⟨rfl, hb6⟩
        have H6 : Aside (Below g w w6) := (Z.out.below hb6).low
        clear hb6 c1 c2
        go_wp2
        go_ret
        rw [HG.out]
        exact ⟨rfl, H6.out⟩
  · by_cases hpn : p < n
    · by_cases hpm : m ≤ p
      · have ha : ¬ (n : Int) < (m : Int) := by omega
        have hd : decide (n < m) = false := decide_eq_false (by omega)
        have hd2 : decide (m ≤ p) = true := decide_eq_true hpm
        have ha2 : (m : Int) ≤ (p : Int) := by omega
        have HC : Aside (m ≤ n ∧ p < n ∧ m ≤ p) := ⟨by omega, hpn, hpm⟩
        clear hc hpn hpm
        go_wp2_with fail
        refine (c_pin HF.out.1 HF.out.2 H.out.2.1 0 (if_pos HC.out.2.1)).mono ?_
        rintro e w2 ⟨rfl, h2⟩
        have Z2 : Aside (PND w w2 g log n p hs) := h2
        clear h2 HF
        go_wp2_with fail
        refine (c_cut_pinned Z2.out H.out.1 HC.out.1 HC.out.2.1 HC.out.2.2).mono ?_
        rintro e w3 ⟨rfl, h3⟩
        have Z3 : Aside (CLV w w3 g log n n hs) := h3
        clear h3 Z2
        go_wp2
        go_loopg [16] n (fun k s16 wx => ∃ q : Nat, q + k = n ∧ s16 = .int .u64 q ∧ Aside (CLV w wx g log n n hs))
        case atStart => exact ⟨0, by omega, rfl, Z3⟩
        case round =>
          obtain ⟨q, hqk, rfl, Z⟩ := hrel
          clear Z3
          cases gk with
          | succ k =>
            have hqn : (q : Int) < (n : Int) := by omega
            have HQ : Aside (q < n ∧ q + 1 + k = n) := ⟨by omega, by omega⟩
            have hq1 : IntKind.u64.wrap ((q : Int) + 1) = ((q + 1 : Nat) : Int) := wrap_nat rfl (by have := H.out.1; omega)
            have hz := zeroHash
            clear hqk
            go_wp2_with fail
            refine (c_get Z.out HQ.out.1 (by have := H.out.1; omega)).mono ?_
            rintro e w3 ⟨rfl, hb3⟩
            obtain ⟨F, hF⟩ : ∃ F, hs q = F := ⟨_, rfl⟩
            have HF : Aside (hs q = F) := hF
            rw [hF]
            clear hF
            have hst := run_storeCells_new (P := Try.prog) w3 33 (UARR .u8 32 fun _ => 0) (UARR .u8 32 F) (info_HASH _) (by rw [UARR_size, UARR_size]) (UARR_one _ _ _)
            have hsu := UARR_size .u8 32 F
            obtain ⟨w4, hw4⟩ : ∃ w4, w3.alloc (.cells (UARR .u8 32 F) 33) = w4 := ⟨_, rfl⟩
            rw [hw4] at hst
            have h44 : Has w4 w3.heap.size (UARR .u8 32 F) 33 := by rw [← hw4]; exact Has.new w3 _ _
            have T3 : Aside (CLV w w4 g log n n hs ∧ Has w4 w3.heap.size (UARR .u8 32 F) 33) := ⟨Z.out.below (by rw [← hw4]; exact hb3.alloc hb3.size _), h44⟩
            clear hw4 h44 hb3 Z
            obtain ⟨lb, lo, rfl, hlb, hlr⟩ := H.out.2.2.2 (by have := HQ.out; omega)
            have HL : Aside (lb < w.heap.size ∧ w.rangeAt lb (lo + q * 32) (ULIST .u8 32 F)) := ⟨hlb, by rw [← HF.out]; exact hlr q HQ.out.1⟩
            clear hlb hlr
            go_upto_region 28 with fail
            clear hst hsu hz
            refine cuts28 w4 lb lo n c q w3.heap.size F hqn (same7 F) (fun W => CLV w W g log n n hs ∧ Has W w3.heap.size (UARR .u8 32 F) 33) ⟨T3.out.1.below (Below.refl _ _).drew, T3.out.2.keep (Below.refl _ _).drew⟩ (fun W h => ⟨h.2.range6, fun x v hv => (h.1.low.cell (by rw [← HG.out]; exact HL.out.1)).trans (HL.out.2 x v hv)⟩) (fun _ _ _ _ _ h => h) ?_
            intro W hW
            have T5 : Aside (CLV w W g log n n hs) := hW.1
            clear hW T3 HL
            go_wp2
            go_roundg k
            case measure => omega
            case rel => exact ⟨q + 1, by have := HQ.out.2; omega, by first | rfl | (rw [hq1]), T5⟩
          | zero =>
            obtain rfl : q = n := by omega
            have hlt : ¬ (q : Int) < (q : Int) := by omega
            have c1 := c_len Z.out
            have c2 := c_alive Z.out
            go_wp2_with (first
              | (refine c1.mono ?_; rintro e w' ⟨rfl, rfl⟩)
              | (refine c2.mono ?_; rintro e w' ⟨rfl, rfl⟩)
              | fail)
            refine (awake_ok wr).mono ?_
            rintro e w6 ⟨rfl, hb6⟩
            have H6 : Aside (Below g w w6) := (Z.out.below hb6).low
            clear hb6 c1 c2
            go_wp2
            go_ret
            rw [HG.out]
            exact ⟨rfl, H6.out⟩
      · have ha : ¬ (n : Int) < (m : Int) := by omega
        have hd : decide (n < m) = false := decide_eq_false (by omega)
        have hd2 : decide (m ≤ p) = false := decide_eq_false hpm
        have ha2 : ¬ (m : Int) ≤ (p : Int) := by omega
        have HC : Aside (m ≤ n ∧ p < n ∧ p < m) := ⟨by omega, hpn, by omega⟩
        clear hc hpn hpm
        go_wp2_with fail
        refine (c_pin HF.out.1 HF.out.2 H.out.2.1 0 (if_pos HC.out.2.1)).mono ?_
        rintro e w2 ⟨rfl, h2⟩
        have Z2 : Aside (PND w w2 g log n p hs) := h2
        clear h2 HF
        go_wp2_with fail
        refine (c_cut Z2.out H.out.1 HC.out.1 (fun _ => HC.out.2.2)).mono ?_
        rintro e w3 ⟨rfl, h3⟩
        have Z3 : Aside (CLV w w3 g log m n hs) := h3
        clear h3 Z2
        go_wp2_with (first
          | (refine (c_len Z3.out).mono ?_; rintro e w' ⟨rfl, rfl⟩)
          | fail)
        refine (c_live Z3.out (by have := H.out.1; have := HC.out.1; omega)).mono ?_
        rintro e w4 ⟨rfl, h4⟩
        have Z4 : Aside (CLV w w4 g log m (n + m) hs) := h4.more (by omega)
        clear h4 Z3
        go_wp2
        go_loopg [15] (n - m) (fun k s15 wx => ∃ q : Nat, q + k = n ∧ s15 = .int .u64 q ∧ Aside (CLV w wx g log q (n + q) hs))
        case atStart => exact ⟨m, by have := HC.out.1; omega, rfl, Z4⟩
        case round =>
          obtain ⟨q, hqk, rfl, Z⟩ := hrel
          clear Z4
          cases gk with
          | succ k =>
            have hqn : (q : Int) < (n : Int) := by omega
            have HQ : Aside (q < n ∧ q + 1 + k = n) := ⟨by omega, by omega⟩
            have hq1 : IntKind.u64.wrap ((q : Int) + 1) = ((q + 1 : Nat) : Int) := wrap_nat rfl (by have := H.out.1; omega)
            clear hqk
            obtain ⟨lb, lo, rfl, hlb, hlr⟩ := H.out.2.2.2 (by have := HQ.out; omega)
            have hr2 : wr.rangeAt lb (lo + q * 32) (ULIST .u8 32 (hs q)) := fun x v hv => (Z.out.low.cell (by rw [← HG.out]; exact hlb)).trans (hlr q HQ.out.1 x v hv)
            clear hlb hlr
            go_wp2_with (first
              | (refine wpList_load_mid rfl 33 (.tmp 80) rfl lb (lo + q * 32) rfl (ULIST .u8 32 (hs q)) _ hr2 Try.underlying33 rfl (by rw [ULIST_length]; exact info_hash) ?_)
              | fail)
            rw [← UARR_list]
            refine (c_push Z.out (H.out.2.2.1 q HQ.out.1) (by have := H.out.1; have := HQ.out.1; omega) (by have := H.out.1; have := HQ.out.1; omega)).mono ?_
            rintro e w5 ⟨rfl, h5⟩
            have T5 : Aside (CLV w w5 g log (q + 1) (n + (q + 1)) hs) := h5
            clear h5 Z hr2
            go_wp2
            go_roundg k
            case measure => omega
            case rel => exact ⟨q + 1, by have := HQ.out.2; omega, by first | rfl | (rw [hq1]), T5⟩
          | zero =>
            have hqe : q = n := by omega
            have Z5 : Aside (CLV w wr g log n (n + n) hs) := by have := Z.out; rw [hqe] at this; exact this
            have hlt : ¬ (q : Int) < (n : Int) := by omega
            clear hqk hqe Z
            go_wp2
            go_loopg [16] n (fun k s16 wx => ∃ q : Nat, q + k = n ∧ s16 = .int .u64 q ∧ Aside (CLV w wx g log n (n + n) hs))
            case atStart => exact ⟨0, by omega, rfl, Z5⟩
            case round =>
              obtain ⟨q, hqk, rfl, Z⟩ := hrel
              clear Z5
              cases gk with
              | succ k =>
                have hqn : (q : Int) < (n : Int) := by omega
                have HQ : Aside (q < n ∧ q + 1 + k = n) := ⟨by omega, by omega⟩
                have hq1 : IntKind.u64.wrap ((q : Int) + 1) = ((q + 1 : Nat) : Int) := wrap_nat rfl (by have := H.out.1; omega)
                have hz := zeroHash
                clear hqk
                go_wp2_with fail
                refine (c_get Z.out HQ.out.1 (by have := H.out.1; omega)).mono ?_
                rintro e w3 ⟨rfl, hb3⟩
                obtain ⟨F, hF⟩ : ∃ F, hs q = F := ⟨_, rfl⟩
                have HF : Aside (hs q = F) := hF
                rw [hF]
                clear hF
                have hst := run_storeCells_new (P := Try.prog) w3 33 (UARR .u8 32 fun _ => 0) (UARR .u8 32 F) (info_HASH _) (by rw [UARR_size, UARR_size]) (UARR_one _ _ _)
                have hsu := UARR_size .u8 32 F
                obtain ⟨w4, hw4⟩ : ∃ w4, w3.alloc (.cells (UARR .u8 32 F) 33) = w4 := ⟨_, rfl⟩
                rw [hw4] at hst
                have h44 : Has w4 w3.heap.size (UARR .u8 32 F) 33 := by rw [← hw4]; exact Has.new w3 _ _
                have T3 : Aside (CLV w w4 g log n (n + n) hs ∧ Has w4 w3.heap.size (UARR .u8 32 F) 33) := ⟨Z.out.below (by rw [← hw4]; exact hb3.alloc hb3.size _), h44⟩
                clear hw4 h44 hb3 Z
                obtain ⟨lb, lo, rfl, hlb, hlr⟩ := H.out.2.2.2 (by have := HQ.out; omega)
                have HL : Aside (lb < w.heap.size ∧ w.rangeAt lb (lo + q * 32) (ULIST .u8 32 F)) := ⟨hlb, by rw [← HF.out]; exact hlr q HQ.out.1⟩
                clear hlb hlr
                go_upto_region 28 with fail
                clear hst hsu hz
                refine cuts28 w4 lb lo n c q w3.heap.size F hqn (same7 F) (fun W => CLV w W g log n (n + n) hs ∧ Has W w3.heap.size (UARR .u8 32 F) 33) ⟨T3.out.1.below (Below.refl _ _).drew, T3.out.2.keep (Below.refl _ _).drew⟩ (fun W h => ⟨h.2.range6, fun x v hv => (h.1.low.cell (by rw [← HG.out]; exact HL.out.1)).trans (HL.out.2 x v hv)⟩) (fun _ _ _ _ _ h => h) ?_
                intro W hW
                have T5 : Aside (CLV w W g log n (n + n) hs) := hW.1
                clear hW T3 HL
                go_wp2
                go_roundg k
                case measure => omega
                case rel => exact ⟨q + 1, by have := HQ.out.2; omega, by first | rfl | (rw [hq1]), T5⟩
              | zero =>
                obtain rfl : q = n := by omega
                have hlt : ¬ (q : Int) < (q : Int) := by omega
                have c1 := c_len Z.out
                have c2 := c_alive Z.out
                go_wp2_with (first
                  | (refine c1.mono ?_; rintro e w' ⟨rfl, rfl⟩)
                  | (refine c2.mono ?_; rintro e w' ⟨rfl, rfl⟩)
                  | fail)
                refine (awake_ok wr).mono ?_
                rintro e w6 ⟨rfl, hb6⟩
                have H6 : Aside (Below g w w6) := (Z.out.below hb6).low
                clear hb6 c1 c2
                go_wp2
                go_ret
                rw [HG.out]
                exact ⟨rfl, H6.out⟩
    · have ha : ¬ (n : Int) < (m : Int) := by omega
      have hd : decide (n < m) = false := decide_eq_false (by omega)
      have HC : Aside (m ≤ n ∧ n ≤ p) := ⟨by omega, by omega⟩
      clear hc hpn
      go_wp2_with fail
      refine (c_pin HF.out.1 HF.out.2 H.out.2.1 31 (if_neg (by have := HC.out.2; omega))).mono ?_
      rintro e w2 ⟨rfl, h2⟩
      have Z2 : Aside (PND w w2 g log n p hs) := h2
      clear h2 HF
      go_wp2_with fail
      refine (c_cut Z2.out H.out.1 HC.out.1 (fun c => by have := HC.out.2; omega)).mono ?_
      rintro e w3 ⟨rfl, h3⟩
      have Z3 : Aside (CLV w w3 g log m n hs) := h3
      clear h3 Z2
      go_wp2_with (first
        | (refine (c_len Z3.out).mono ?_; rintro e w' ⟨rfl, rfl⟩)
        | fail)
      refine (c_live Z3.out (by have := H.out.1; have := HC.out.1; omega)).mono ?_
      rintro e w4 ⟨rfl, h4⟩
      have Z4 : Aside (CLV w w4 g log m (n + m) hs) := h4.more (by omega)
      clear h4 Z3
      go_wp2
      go_loopg [15] (n - m) (fun k s15 wx => ∃ q : Nat, q + k = n ∧ s15 = .int .u64 q ∧ Aside (CLV w wx g log q (n + q) hs))
      case atStart => exact ⟨m, by have := HC.out.1; omega, rfl, Z4⟩
      case round =>
        obtain ⟨q, hqk, rfl, Z⟩ := hrel
        clear Z4
        cases gk with
        | succ k =>
          have hqn : (q : Int) < (n : Int) := by omega
          have HQ : Aside (q < n ∧ q + 1 + k = n) := ⟨by omega, by omega⟩
          have hq1 : IntKind.u64.wrap ((q : Int) + 1) = ((q + 1 : Nat) : Int) := wrap_nat rfl (by have := H.out.1; omega)
          clear hqk
          obtain ⟨lb, lo, rfl, hlb, hlr⟩ := H.out.2.2.2 (by have := HQ.out; omega)
          have hr2 : wr.rangeAt lb (lo + q * 32) (ULIST .u8 32 (hs q)) := fun x v hv => (Z.out.low.cell (by rw [← HG.out]; exact hlb)).trans (hlr q HQ.out.1 x v hv)
          clear hlb hlr
          go_wp2_with (first
            | (refine wpList_load_mid rfl 33 (.tmp 80) rfl lb (lo + q * 32) rfl (ULIST .u8 32 (hs q)) _ hr2 Try.underlying33 rfl (by rw [ULIST_length]; exact info_hash) ?_)
            | fail)
          rw [← UARR_list]
          refine (c_push Z.out (H.out.2.2.1 q HQ.out.1) (by have := H.out.1; have := HQ.out.1; omega) (by have := H.out.1; have := HQ.out.1; omega)).mono ?_
          rintro e w5 ⟨rfl, h5⟩
          have T5 : Aside (CLV w w5 g log (q + 1) (n + (q + 1)) hs) := h5
          clear h5 Z hr2
          go_wp2
          go_roundg k
          case measure => omega
          case rel => exact ⟨q + 1, by have := HQ.out.2; omega, by first | rfl | (rw [hq1]), T5⟩
        | zero =>
          have hqe : q = n := by omega
          have Z5 : Aside (CLV w wr g log n (n + n) hs) := by have := Z.out; rw [hqe] at this; exact this
          have hlt : ¬ (q : Int) < (n : Int) := by omega
          clear hqk hqe Z
          go_wp2
          go_loopg [16] n (fun k s16 wx => ∃ q : Nat, q + k = n ∧ s16 = .int .u64 q ∧ Aside (CLV w wx g log n (n + n) hs))
          case atStart => exact ⟨0, by omega, rfl, Z5⟩
          case round =>
            obtain ⟨q, hqk, rfl, Z⟩ := hrel
            clear Z5
            cases gk with
            | succ k =>
              have hqn : (q : Int) < (n : Int) := by omega
              have HQ : Aside (q < n ∧ q + 1 + k = n) := ⟨by omega, by omega⟩
              have hq1 : IntKind.u64.wrap ((q : Int) + 1) = ((q + 1 : Nat) : Int) := wrap_nat rfl (by have := H.out.1; omega)
              have hz := zeroHash
              clear hqk
              go_wp2_with fail
              refine (c_get Z.out HQ.out.1 (by have := H.out.1; omega)).mono ?_
              rintro e w3 ⟨rfl, hb3⟩
              obtain ⟨F, hF⟩ : ∃ F, hs q = F := ⟨_, rfl⟩
              have HF : Aside (hs q = F) := hF
              rw [hF]
              clear hF
              have hst := run_storeCells_new (P := Try.prog) w3 33 (UARR .u8 32 fun _ => 0) (UARR .u8 32 F) (info_HASH _) (by rw [UARR_size, UARR_size]) (UARR_one _ _ _)
              have hsu := UARR_size .u8 32 F
              obtain ⟨w4, hw4⟩ : ∃ w4, w3.alloc (.cells (UARR .u8 32 F) 33) = w4 := ⟨_, rfl⟩
              rw [hw4] at hst
              have h44 : Has w4 w3.heap.size (UARR .u8 32 F) 33 := by rw [← hw4]; exact Has.new w3 _ _
              have T3 : Aside (CLV w w4 g log n (n + n) hs ∧ Has w4 w3.heap.size (UARR .u8 32 F) 33) := ⟨Z.out.below (by rw [← hw4]; exact hb3.alloc hb3.size _), h44⟩
              clear hw4 h44 hb3 Z
              obtain ⟨lb, lo, rfl, hlb, hlr⟩ := H.out.2.2.2 (by have := HQ.out; omega)
              have HL : Aside (lb < w.heap.size ∧ w.rangeAt lb (lo + q * 32) (ULIST .u8 32 F)) := ⟨hlb, by rw [← HF.out]; exact hlr q HQ.out.1⟩
              clear hlb hlr
              go_upto_region 28 with fail
              clear hst hsu hz
              refine cuts28 w4 lb lo n c q w3.heap.size F hqn (same7 F) (fun W => CLV w W g log n (n + n) hs ∧ Has W w3.heap.size (UARR .u8 32 F) 33) ⟨T3.out.1.below (Below.refl _ _).drew, T3.out.2.keep (Below.refl _ _).drew⟩ (fun W h => ⟨h.2.range6, fun x v hv => (h.1.low.cell (by rw [← HG.out]; exact HL.out.1)).trans (HL.out.2 x v hv)⟩) (fun _ _ _ _ _ h => h) ?_
              intro W hW
              have T5 : Aside (CLV w W g log n (n + n) hs) := hW.1
              clear hW T3 HL
              go_wp2
              go_roundg k
              case measure => omega
              case rel => exact ⟨q + 1, by have := HQ.out.2; omega, by first | rfl | (rw [hq1]), T5⟩
            | zero =>
              obtain rfl : q = n := by omega
              have hlt : ¬ (q : Int) < (q : Int) := by omega
              have c1 := c_len Z.out
              have c2 := c_alive Z.out
              go_wp2_with (first
                | (refine c1.mono ?_; rintro e w' ⟨rfl, rfl⟩)
                | (refine c2.mono ?_; rintro e w' ⟨rfl, rfl⟩)
                | fail)
              refine (awake_ok wr).mono ?_
              rintro e w6 ⟨rfl, hb6⟩
              have H6 : Aside (Below g w w6) := (Z.out.below hb6).low
              clear hb6 c1 c2
              go_wp2
              go_ret
              rw [HG.out]
              exact ⟨rfl, H6.out⟩
theorem storeCuts_walk (log : Int) (a : Option Addr) (n c m p : Nat) (hs : Nat → Nat → Nat) (w : World) (hp : p < 2 ^ 64) (h8 : ∀ i, i < n → ∀ j, hs i j < 256) (hL : HLIE w a n hs) : Calls Try.prog 4 #[.int .i64 log, .slice a n c, .int .u64 (m : Int), .int .u64 (p : Int)] w fun e w' => e = .returned (.bool true) ∧ Below w.heap.size w w' := by
  by_cases h : log < 0 ∨ 16 < log ∨ 200 < n
  · exact cuts_out log a n c m p w h
  · have e1 : ((log.toNat : Nat) : Int) = log := Int.toNat_of_nonneg (by omega)
    rw [← e1]
    exact cuts_core log.toNat a n c m p hs w (by omega) (by omega) hp h8 hL
end Go.Proofs.Ytkmcmngdainofaa
