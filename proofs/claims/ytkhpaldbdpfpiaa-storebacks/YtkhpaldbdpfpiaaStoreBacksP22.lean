/- Texts of StoreBacks, one behind the other: StoreBacksWalk, StoreDoor. -/
import Derived.Test.YtkhpaldbdpfpiaaRows
import Derived.WalkKit
import Derived.ProofKit
import Derived.OpenShut
import Derived.ShutString
import Derived.ChangeOld
import Derived.Below
import Derived.Test.YtkhpaldbdpfpiaaStoreBacksP19
import Derived.Test.YtkhpaldbdpfpiaaStoreBacksP20
import Derived.Test.YtkhpaldbdpfpiaaStoreBacksP21
/- The walk of the law StoreBacks. -/
namespace Go.Proofs.Ytkhpaldbdpfpiaa
open Go.RowKit Go.Maps
set_option maxRecDepth 100000

/-- inputs that the law leaves out. -/
theorem backs_out (log : Int) (a : Option Addr) (n c : Nat) (ad : Option Addr) (m cd : Nat) (w : World) (h : log < 0 ∨ 16 < log ∨ 200 < n ∨ 200 < m) : Calls Try.prog 3 #[.int .i64 log, .slice a n c, .slice ad m cd] w fun e w' => e = .returned (.bool true) ∧ Below w.heap.size w w' := by
  by_cases h1 : log < 0
  · clear h
    go_enter Try.func3, Try.ntmps3
    go_wp2
    go_ret
    exact ⟨rfl, Below.refl _ _⟩
  · by_cases h2 : 16 < log
    · clear h
      go_enter Try.func3, Try.ntmps3
      go_wp2
      go_ret
      exact ⟨rfl, Below.refl _ _⟩
    · by_cases h3 : (200 : Int) < (n : Int)
      · clear h
        go_enter Try.func3, Try.ntmps3
        go_wp2
        go_ret
        exact ⟨rfl, Below.refl _ _⟩
      · have h4 : (200 : Int) < (m : Int) := by omega
        clear h
        go_enter Try.func3, Try.ntmps3
        go_wp2
        go_ret
        exact ⟨rfl, Below.refl _ _⟩
/-- a slice of numbers lies there. -/
def DLIE (w : World) (a : Option Addr) (n : Nat) (ds : Nat → Nat) : Prop := 0 < n → ∃ b o, a = some ⟨b, o, none⟩ ∧ b < w.heap.size ∧ ∀ i, i < n → w.cell? ⟨b, o + i, none⟩ = some (.int .u64 (ds i : Int))
theorem build1 (w : World) : (Instr.build 32 #[(0, .int .u8 1)]).run Try.prog w = .ok (.agg (UARR .u8 32 (HB 1))) w := run_build (P := Try.prog) w 32 _ _ (by kernel_rfl)
theorem Has.range5 {w : World} {g : Nat} {F : Nat → Nat} {k : IntKind} {n : Nat} {t : TypeId} (h : Has w g (UARR k n F) t) : w.rangeAt g 0 (ULIST k n F) := fun j v hv => by
  have hj : j < n := by have := (List.getElem?_eq_some_iff.1 hv).1; rw [ULIST_length] at this; exact this
  rw [ULIST_get _ _ _ _ hj] at hv
  rw [Nat.zero_add, h.cell, UARR_get _ _ _ _ hj, hv]
theorem TWO.low {w0 w : World} {g t log n M : Nat} {A : Nat → Bool} {hs : Nat → Nat → Nat} (h : TWO w0 w g t log n M A hs) : Below g w0 w := by
  obtain ⟨C, D, h⟩ := h
  exact h.low
theorem TWO.more {w0 w : World} {g t log n M M' : Nat} {A : Nat → Bool} {hs : Nat → Nat → Nat} (h : TWO w0 w g t log n M A hs) (hM : M ≤ M') : TWO w0 w g t log n M' A hs := by
  obtain ⟨C, D, h⟩ := h
  obtain ⟨N, hN, h1⟩ := h.one
  exact ⟨C, D, ⟨N, Nat.le_trans hN hM, h1⟩, h.pins, h.has, h.full, h.two, h.has2, h.full2, h.apart, h.low, h.small⟩
/-- in the first loop: what does not live was named ahead of i. -/
def LOST (n i : Nat) (A : Nat → Bool) (ds : Nat → Nat) : Prop := ∀ p, p < n → A p = false → ∃ j, j < i ∧ ds j = p
/-- in the second loop: what does not live is named from i on. -/
def LEFT (n m i : Nat) (A : Nat → Bool) (ds : Nat → Nat) : Prop := ∀ p, p < n → A p = false → ∃ j, i ≤ j ∧ j < m ∧ ds j = p
theorem LOST.mono {n i : Nat} {A : Nat → Bool} {ds : Nat → Nat} (h : LOST n i A ds) : LOST n (i + 1) A ds := fun p hp hA => by
  obtain ⟨j, hj, e⟩ := h p hp hA
  exact ⟨j, by omega, e⟩
theorem LOST.drop {n i p : Nat} {A : Nat → Bool} {ds : Nat → Nat} (h : LOST n i A ds) (hp : ds i = p) : LOST n (i + 1) (SETB A p false) ds := fun q hq hA => by
  by_cases e : q = p
  · exact ⟨i, by omega, by rw [hp, e]⟩
  · rw [SETB_ne e] at hA
    exact h.mono q hq hA
theorem LOST.left {n m : Nat} {A : Nat → Bool} {ds : Nat → Nat} (h : LOST n m A ds) : LEFT n m 0 A ds := fun p hp hA => by
  obtain ⟨j, hj, e⟩ := h p hp hA
  exact ⟨j, by omega, hj, e⟩
theorem LEFT.skip {n m i : Nat} {A : Nat → Bool} {ds : Nat → Nat} (h : LEFT n m i A ds) (hp : ds i < n → A (ds i) = true) : LEFT n m (i + 1) A ds := fun p hq hA => by
  obtain ⟨j, h1, h2, e⟩ := h p hq hA
  by_cases hj : j = i
  · subst hj
    rw [e] at hp
    rw [hp hq] at hA
    cases hA
  · exact ⟨j, by omega, h2, e⟩
theorem LEFT.back {n m i p : Nat} {A : Nat → Bool} {ds : Nat → Nat} (h : LEFT n m i A ds) (hp : ds i = p) : LEFT n m (i + 1) (SETB A p true) ds := fun q hq hA => by
  by_cases e : q = p
  · subst e; rw [SETB_at] at hA; cases hA
  · rw [SETB_ne e] at hA
    obtain ⟨j, h1, h2, e'⟩ := h q hq hA
    refine ⟨j, ?_, h2, e'⟩
    by_cases hj : j = i
    · subst hj; rw [hp] at e'; exact absurd e'.symm e
    · omega
set_option maxHeartbeats 4000000 in
theorem backs_core (log : Nat) (a : Option Addr) (n c : Nat) (hs : Nat → Nat → Nat) (ad : Option Addr) (m cd : Nat) (ds : Nat → Nat) (w : World) (hlog : log ≤ 16) (hn : n ≤ 200) (hm : m ≤ 200) (h8 : ∀ i, i < n → ∀ j, hs i j < 256) (hL : HLIE w a n hs) (hD : DLIE w ad m ds) : Calls Try.prog 3 #[.int .i64 (log : Int), .slice a n c, .slice ad m cd] w fun e w' => e = .returned (.bool true) ∧ Below w.heap.size w w' := by
  have cF := fill_ok log hlog a n c hn hs h8 w hL
  have g1 : ¬ (log : Int) < 0 := by omega
  have g2 : ¬ (16 : Int) < (log : Int) := by omega
  have g3 : ¬ (200 : Int) < (n : Int) := by omega
  have g4 : ¬ (200 : Int) < (m : Int) := by omega
  have g6 : IntKind.u64.wrap (n : Int) = (n : Int) := wrap_nat rfl (by omega)
  have H : Aside (log ≤ 16 ∧ n ≤ 200 ∧ m ≤ 200 ∧ (∀ i, i < n → ∀ j, hs i j < 256) ∧ HLIE w a n hs ∧ DLIE w ad m ds) := ⟨hlog, hn, hm, h8, hL, hD⟩
  clear hL h8 hlog hn hm hD
  go_enter Try.func3, Try.ntmps3
  go_wp2_with fail
  refine cF.mono ?_
  rintro e w1 ⟨rfl, hF, hb⟩
  clear cF g1 g2 g3 g4
  have cF : Calls Try.prog 4 #[.int .i64 (log : Int), .slice a n c] w1 _ := fill_ok log H.out.1 a n c H.out.2.1 hs H.out.2.2.2.1 w1 (fun h0 => by
    obtain ⟨b, o, e, h1, h2⟩ := H.out.2.2.2.2.1 h0
    exact ⟨b, o, e, Nat.lt_of_lt_of_le h1 hb.size, fun i hi j v hv => (hb.cell (by exact h1)).trans (h2 i hi j v hv)⟩)
  have HF : Aside (FILLED w1 w.heap.size w.heap.size log n hs ∧ Below w.heap.size w w1) := ⟨hF, hb⟩
  clear hF hb
  go_wp2_with fail
  refine cF.mono ?_
  rintro e w2 ⟨rfl, hF2, hb2⟩
  have T0 : Aside (TWO w w2 w.heap.size w1.heap.size log n 200 (fun _ => true) hs) := TWO.made H.out.2.1 HF.out.1 HF.out.2 hF2 hb2
  clear hF2 hb2 HF cF
  obtain ⟨g, hg⟩ : ∃ g, w.heap.size = g := ⟨_, rfl⟩
  obtain ⟨t, ht⟩ : ∃ t, w1.heap.size = t := ⟨_, rfl⟩
  have HG : Aside (w.heap.size = g) := hg
  rw [hg, ht] at T0
  rw [hg, ht]
  clear hg ht
  go_wp2
  go_loopg [11] m (fun k s11 wx => ∃ i : Nat, i + k = m ∧ s11 = .int .i64 i ∧ Aside (∃ A, TWO w wx g t log n 200 A hs ∧ LOST n i A ds))
  case atStart => exact ⟨0, by omega, rfl, _, T0.out, fun p _ h => by cases h⟩
  case round =>
    obtain ⟨i, hik, rfl, Z⟩ := hrel
    cases gk with
    | succ k =>
      have hlt : (i : Int) < (m : Int) := by omega
      have hi1 : wrap64 ((i : Int) + 1) = ((i + 1 : Nat) : Int) := by have := H.out.2.2.1; unfold wrap64; omega
      obtain ⟨A, hT, hLo⟩ := Z.out
      obtain ⟨db, dof, rfl, hdb, hdc⟩ := H.out.2.2.2.2.2 (by omega)
      have hcell : wr.cell? ⟨db, dof + i, none⟩ = some (.int .u64 (ds i : Int)) := (hT.low.cell (by rw [← HG.out]; exact hdb)).trans (hdc i (by omega))
      obtain ⟨p, hp⟩ : ∃ p, ds i = p := ⟨_, rfl⟩
      rw [hp] at hcell
      have T1 : Aside (TWO w wr g t log n 200 A hs ∧ LOST n i A ds ∧ ds i = p ∧ i + 1 + k = m) := ⟨hT, hLo, hp, by omega⟩
      clear hT hLo hp hdb hdc Z
      by_cases hpn : n ≤ p
      · have hge : (n : Int) ≤ (p : Int) := by omega
        have HN : Aside (n ≤ p) := hpn
        clear hpn
        have hbd := build1
        go_wp2_with fail
        refine (t_drop_far T1.out.1 HN.out).mono ?_
        rintro e w' ⟨rfl, rfl⟩
        go_wp2_with fail
        refine (t_back_far T1.out.1 HN.out (HB 1)).mono ?_
        rintro e w3 ⟨rfl, h3⟩
        have T2 : Aside (TWO w w3 g t log n 200 A hs) := h3
        clear h3 hcell hbd
        go_wp2
        go_roundg k
        case measure => omega
        case rel => exact ⟨i + 1, by have := T1.out.2.2.2; omega, by first | rfl | (rw [hi1]), _, T2.out, T1.out.2.1.mono⟩
      · have hge : ¬ (n : Int) ≤ (p : Int) := by omega
        have HN : Aside (p < n) := by show p < n; omega
        have hd : decide (n ≤ p) = false := decide_eq_false hpn
        clear hpn
        go_wp2_with fail
        refine (t_drop T1.out.1 HN.out).mono ?_
        rintro e w3 ⟨rfl, h3⟩
        have T2 : Aside (TWO w w3 g t log n 200 (SETB A p false) hs) := h3
        clear h3 hcell
        go_wp2_with fail
        have cl := t_live T2.out HN.out
        rw [SETB_at] at cl
        refine cl.mono ?_
        rintro e w4 ⟨rfl, h4⟩
        have T3 : Aside (TWO w w4 g t log n 200 (SETB A p false) hs) := h4
        clear h4 cl T2
        go_wp2_with fail
        refine (t_pin T3.out HN.out (SETB_at _ _ _)).mono ?_
        rintro e w5 ⟨rfl, h5⟩
        have T4 : Aside (TWO w w5 g t log n 200 (SETB A p false) hs) := h5
        clear h5 T3
        go_wp2_with fail
        refine (t_drop T4.out HN.out).mono ?_
        rintro e w6 ⟨rfl, h6⟩
        rw [SETB_id (SETB_at A p false)] at h6
        have T5 : Aside (TWO w w6 g t log n 200 (SETB A p false) hs) := h6
        clear h6 T4
        go_wp2
        go_roundg k
        case measure => omega
        case rel => exact ⟨i + 1, by have := T1.out.2.2.2; omega, by first | rfl | (rw [hi1]), _, T5.out, T1.out.2.1.drop T1.out.2.2.1⟩
    | zero =>
      obtain rfl : i = m := by omega
      have T1 : Aside (∃ A, TWO w wr g t log n 200 A hs ∧ LEFT n i 0 A ds) := by
        obtain ⟨A, h1, h2⟩ := Z.out
        exact ⟨A, h1, h2.left⟩
      clear Z hik
      go_wp2
      go_loopg [14] i (fun k s14 wx => ∃ j : Nat, j + k = i ∧ s14 = .int .i64 j ∧ Aside (∃ A, TWO w wx g t log n (200 + j) A hs ∧ LEFT n i j A ds))
      case atStart => exact ⟨0, by omega, rfl, T1.out⟩
      case round =>
        obtain ⟨j, hjk, rfl, Z⟩ := hrel
        cases gk with
        | succ k =>
          have hlt : (j : Int) < (i : Int) := by omega
          have hj1 : wrap64 ((j : Int) + 1) = ((j + 1 : Nat) : Int) := by have := H.out.2.2.1; unfold wrap64; omega
          obtain ⟨A, hT, hLe⟩ := Z.out
          obtain ⟨db, dof, rfl, hdb, hdc⟩ := H.out.2.2.2.2.2 (by omega)
          have hcell : wr.cell? ⟨db, dof + j, none⟩ = some (.int .u64 (ds j : Int)) := (hT.low.cell (by rw [← HG.out]; exact hdb)).trans (hdc j (by omega))
          obtain ⟨p, hp⟩ : ∃ p, ds j = p := ⟨_, rfl⟩
          rw [hp] at hcell
          have T2 : Aside (TWO w wr g t log n (200 + j) A hs ∧ LEFT n i j A ds ∧ ds j = p ∧ j + 1 + k = i) := ⟨hT, hLe, hp, by omega⟩
          clear hT hLe hp hdb hdc Z T1
          by_cases hpn : p < n
          · have hpl : (p : Int) < (n : Int) := by omega
            have hd : decide (p < n) = true := decide_eq_true hpn
            have HN : Aside (p < n) := hpn
            clear hpn
            cases hA : A p with
            | true =>
              have HA : Aside (A p = true) := hA
              go_wp2_with fail
              have cl := t_live T2.out.1 HN.out
              rw [hA] at cl
              refine cl.mono ?_
              rintro e w4 ⟨rfl, h4⟩
              have T3 : Aside (TWO w w4 g t log n (200 + j) A hs) := h4
              clear h4 cl hcell hA
              go_wp2
              go_roundg k
              case measure => omega
              case rel => exact ⟨j + 1, by have := T2.out.2.2.2; omega, by first | rfl | (rw [hj1]), _, T3.out.more (by omega), T2.out.2.1.skip (fun _ => by rw [T2.out.2.2.1]; exact HA.out)⟩
            | false =>
              have HA : Aside (A p = false) := hA
              go_wp2_with fail
              have cl := t_live T2.out.1 HN.out
              rw [hA] at cl
              refine cl.mono ?_
              rintro e w4 ⟨rfl, h4⟩
              have T3 : Aside (TWO w w4 g t log n (200 + j) A hs) := h4
              clear h4 cl hcell hA
              obtain ⟨lb, lo, rfl, hlb, hlr⟩ := H.out.2.2.2.2.1 (by have := HN.out; omega)
              have hr2 : w4.rangeAt lb (lo + p * 32) (ULIST .u8 32 (hs p)) := fun x v hv => (T3.out.low.cell (by rw [← HG.out]; exact hlb)).trans (hlr p HN.out x v hv)
              have hbd := build1
              clear hlb hlr
              go_wp2_with (first
                | (refine wpList_load_mid rfl 32 (.tmp 126) rfl lb (lo + p * 32) rfl (ULIST .u8 32 (hs p)) _ hr2 Try.underlying32 rfl (by rw [ULIST_length]; exact info_hash) ?_)
                | fail)
              rw [← UARR_list]
              refine (t_back T3.out HN.out HA.out (H.out.2.2.2.1 p HN.out) (by have := H.out.2.2.1; have := T2.out.2.2.2; omega)).mono ?_
              rintro e w5 ⟨rfl, h5⟩
              have T4 : Aside (TWO w w5 g t log n (200 + j + 1) (SETB A p true) hs) := h5
              clear h5 T3 hr2
              go_wp2_with fail
              refine (t_back_live T4.out HN.out (SETB_at _ _ _) (HB 1)).mono ?_
              rintro e w6 ⟨rfl, h6⟩
              have T5 : Aside (TWO w w6 g t log n (200 + j + 1) (SETB A p true) hs) := h6
              clear h6 T4 hbd
              go_wp2
              go_roundg k
              case measure => omega
              case rel => exact ⟨j + 1, by have := T2.out.2.2.2; omega, by first | rfl | (rw [hj1]), _, T5.out, T2.out.2.1.back T2.out.2.2.1⟩
          · have hpl : ¬ (p : Int) < (n : Int) := by omega
            have hd : decide (p < n) = false := decide_eq_false hpn
            have HN : Aside (¬ p < n) := hpn
            clear hpn
            go_wp2
            go_roundg k
            case measure => omega
            case rel => exact ⟨j + 1, by have := T2.out.2.2.2; omega, by first | rfl | (rw [hj1]), _, T2.out.1.more (by omega), T2.out.2.1.skip (fun h => by rw [T2.out.2.2.1] at h; exact absurd h HN.out)⟩
        | zero =>
          obtain rfl : j = i := by omega
          obtain ⟨A, hT, hLe⟩ := Z.out
          have T2 : Aside (TWO w wr g t log n (200 + j) A hs) := hT
          have HA : Aside (∀ p, p < n → A p = true) := fun p hp => by
            cases h : A p with
            | true => rfl
            | false =>
              obtain ⟨x, h1, h2, _⟩ := hLe p hp h
              omega
          clear Z hjk hT hLe T1
          go_wp2
          go_loopg [16] n (fun k s16 wx => ∃ q : Nat, q + k = n ∧ s16 = .int .u64 q ∧ Aside (TWO w wx g t log n (200 + j) A hs))
          case atStart => exact ⟨0, by omega, rfl, T2⟩
          case round =>
            obtain ⟨q, hqk, rfl, Z⟩ := hrel
            cases gk with
            | succ k =>
              have hqn : (q : Int) < (n : Int) := by omega
              have HQ : Aside (q < n ∧ q + 1 + k = n) := ⟨by omega, by omega⟩
              have hq1 : IntKind.u64.wrap ((q : Int) + 1) = ((q + 1 : Nat) : Int) := wrap_nat rfl (by have := H.out.2.1; omega)
              have hz := zeroHash
              go_wp2_with fail
              refine (t_get Z.out HQ.out.1 (HA.out q HQ.out.1)).mono ?_
              rintro e w3 ⟨rfl, hb3⟩
              obtain ⟨F, hF⟩ : ∃ F, hs q = F := ⟨_, rfl⟩
              have HF : Aside (hs q = F) := hF
              rw [hF]
              clear hF
              have hst := run_storeCells_new (P := Try.prog) w3 32 (UARR .u8 32 fun _ => 0) (UARR .u8 32 F) (info_HASH _) (by rw [UARR_size, UARR_size]) (UARR_one _ _ _)
              have hsu := UARR_size .u8 32 F
              obtain ⟨w4, hw4⟩ : ∃ w4, w3.alloc (.cells (UARR .u8 32 F) 32) = w4 := ⟨_, rfl⟩
              rw [hw4] at hst
              have h44 : Has w4 w3.heap.size (UARR .u8 32 F) 32 := by rw [← hw4]; exact Has.new w3 _ _
              have T3 : Aside (TWO w w4 g t log n (200 + j) A hs ∧ Has w4 w3.heap.size (UARR .u8 32 F) 32) := ⟨Z.out.below (by rw [← hw4]; exact hb3.alloc hb3.size _), h44⟩
              clear hw4 h44 hb3 Z
              go_wp2_with fail
              refine (t_get2 T3.out.1 HQ.out.1).mono ?_
              rintro e w5 ⟨rfl, hb5⟩
              rw [HF.out]
              clear hst
              have hst := run_storeCells_new (P := Try.prog) w5 32 (UARR .u8 32 fun _ => 0) (UARR .u8 32 F) (info_HASH _) (by rw [UARR_size, UARR_size]) (UARR_one _ _ _)
              obtain ⟨w6, hw6⟩ : ∃ w6, w5.alloc (.cells (UARR .u8 32 F) 32) = w6 := ⟨_, rfl⟩
              rw [hw6] at hst
              have hb6 : Below w4.heap.size w4 w6 := by rw [← hw6]; exact hb5.alloc hb5.size _
              have h66 : Has w6 w5.heap.size (UARR .u8 32 F) 32 := by rw [← hw6]; exact Has.new w5 _ _
              have T4 : Aside (TWO w w6 g t log n (200 + j) A hs ∧ Has w6 w3.heap.size (UARR .u8 32 F) 32 ∧ Has w6 w5.heap.size (UARR .u8 32 F) 32) := ⟨T3.out.1.below hb6, T3.out.2.keep hb6, h66⟩
              clear hw6 h66 hb6 hb5 T3
              obtain ⟨lb, lo, rfl, hlb, hlr⟩ := H.out.2.2.2.2.1 (by have := HQ.out; omega)
              have HL : Aside (lb < w.heap.size ∧ w.rangeAt lb (lo + q * 32) (ULIST .u8 32 F)) := ⟨hlb, by rw [← HF.out]; exact hlr q HQ.out.1⟩
              clear hlb hlr
              go_upto_region 29 with fail
              clear hst hsu hz
              refine backs29 w6 lb lo n c g w3.heap.size w5.heap.size q F hqn (fun W => TWO w W g t log n (200 + j) A hs ∧ Has W w3.heap.size (UARR .u8 32 F) 32 ∧ Has W w5.heap.size (UARR .u8 32 F) 32) ⟨T4.out.1.below (Below.refl _ _).drew, T4.out.2.1.keep (Below.refl _ _).drew, T4.out.2.2.keep (Below.refl _ _).drew⟩ (fun W h => ⟨h.2.1.range5, h.2.2.range5, fun x v hv => (h.1.low.cell (by rw [← HG.out]; exact HL.out.1)).trans (HL.out.2 x v hv)⟩) (same5 F) (fun W h => (t_pins h.1 HQ.out.1).mono (fun e W' ⟨h1, h2⟩ => ⟨h1, by rw [← h2]; exact h⟩)) (fun _ _ _ _ _ h => h) ?_
              intro W hW
              have T5 : Aside (TWO w W g t log n (200 + j) A hs) := hW.1
              clear hW T4 HL
              go_wp2
              go_roundg k
              case measure => omega
              case rel => exact ⟨q + 1, by have := HQ.out.2; omega, by first | rfl | (rw [hq1]), T5⟩
            | zero =>
              obtain rfl : q = n := by omega
              have hlt : ¬ (q : Int) < (q : Int) := by omega
              obtain ⟨z, z1, z2, z3, z4, z5, z6⟩ := t_last Z.out HA.out
              have c1 := alive_ok g q wr z3
              have c2 := alive_ok t q wr z4
              have c3 := chunks_ok z5
              have c4 := chunks_ok z6
              have c5 := len_ok g q wr z1
              have c6 := len_ok t q wr z2
              clear z1 z2 z3 z4 z5 z6
              go_wp2_with (first
                | (refine c1.mono ?_; rintro e w' ⟨rfl, rfl⟩)
                | (refine c2.mono ?_; rintro e w' ⟨rfl, rfl⟩)
                | (refine c3.mono ?_; rintro e w' ⟨rfl, rfl⟩)
                | (refine c4.mono ?_; rintro e w' ⟨rfl, rfl⟩)
                | (refine c5.mono ?_; rintro e w' ⟨rfl, rfl⟩)
                | (refine c6.mono ?_; rintro e w' ⟨rfl, rfl⟩)
                | fail)
              refine (awake_ok wr).mono ?_
              rintro e w6 ⟨rfl, hb6⟩
              have H6 : Aside (Below g w w6) := (Z.out.below hb6).low
              clear hb6
              go_wp2
              go_ret
              rw [HG.out]
              exact ⟨rfl, H6.out⟩
theorem storeBacks_walk (log : Int) (a : Option Addr) (n c : Nat) (hs : Nat → Nat → Nat) (ad : Option Addr) (m cd : Nat) (ds : Nat → Nat) (w : World) (h8 : ∀ i, i < n → ∀ j, hs i j < 256) (hL : HLIE w a n hs) (hD : DLIE w ad m ds) : Calls Try.prog 3 #[.int .i64 log, .slice a n c, .slice ad m cd] w fun e w' => e = .returned (.bool true) ∧ Below w.heap.size w w' := by
  by_cases h : log < 0 ∨ 16 < log ∨ 200 < n ∨ 200 < m
  · exact backs_out log a n c ad m cd w h
  · have e1 : ((log.toNat : Nat) : Int) = log := Int.toNat_of_nonneg (by omega)
    rw [← e1]
    exact backs_core log.toNat a n c hs ad m cd ds w (by omega) (by omega) (by omega) h8 hL hD
end Go.Proofs.Ytkhpaldbdpfpiaa

/- What a row gives the walks of the store's laws: a slice of hashes that came in. -/
namespace Go.Proofs.Ytkhpaldbdpfpiaa
open Go.ChangeShapes Go.WideShapes Go.ChangeAt Go.RowKit
set_option maxRecDepth 100000

theorem own : ownKnob Try.prog.godebug = none := by kernel_rfl
theorem laidOut : laidOutB Try.prog = true := by kernel_rfl
/-- one hash, by its cells. -/
theorem open_hash {H : Type} {enc : TypeId × Value → H} {W : World} {fuel : Nat} {cs : List Value} {x : DataW H × List MemPlace} (hf : DataW.trod enc Try.prog W 0 (fun _ => true) true fuel 32 cs = some x) : ∃ h : Nat → Nat, (∀ i, h i < 256) ∧ cs = ULIST .u8 32 h := by
  obtain ⟨xs, m, rfl, _, hl, hn, hel⟩ := DataW.trod_array Try.underlying32 hf
  have c5 : Try.prog.cellsOf 5 = 1 := by kernel_rfl
  have c32 : Try.prog.cellsOf 32 = 32 := by kernel_rfl
  rw [c32] at hl
  have hx : ∀ i, i < 32 → ∃ k : Nat, cs[i]? = some (.int .u8 (k : Int)) ∧ k < 256 := fun i hi => by
    have h0 := hel i hi
    rw [List.getElem?_eq_getElem (by omega), c5, Nat.mul_one] at h0
    obtain ⟨k, e1, _, e3⟩ := DataW.trod_int Try.underlying5 h0
    have hb := bounds_u8 e3
    refine ⟨k.toNat, ?_, by omega⟩
    have := congrArg (fun l => l[0]?) e1
    rw [Int.toNat_of_nonneg hb.1]
    simpa using this
  have F : ∃ f : Nat → Nat, (∀ i, f i < 256) ∧ ∀ i, i < 32 → cs[i]? = some (.int .u8 ((f i : Nat) : Int)) := by
    refine ⟨fun i => if hi : i < 32 then (hx i hi).choose else 0, fun i => ?_, fun i hi => ?_⟩
    · by_cases hi : i < 32
      · simp only [hi, dif_pos]; exact (hx i hi).choose_spec.2
      · simp only [hi, dif_neg, not_false_iff]; decide
    · simp only [hi, dif_pos]; exact (hx i hi).choose_spec.1
  obtain ⟨f, hf1, hf2⟩ := F
  refine ⟨f, hf1, ?_⟩
  apply List.ext_getElem?
  intro i
  by_cases hi : i < 32
  · rw [hf2 i hi, ULIST_get _ _ _ _ hi]
  · rw [List.getElem?_eq_none (by omega), List.getElem?_eq_none (by rw [ULIST_length]; omega)]
/-- a slice of hashes that came in. -/
theorem open_hashes {H : Type} {enc : TypeId × Value → H} {W : World} {a : Option Addr} {k c : Nat} {d : DataW H} {ps : List MemPlace} (hd : DataW.Trod enc Try.prog W 0 (fun _ => true) true 22 (.slice a k c) d ps) :
    ∃ hs : Nat → Nat → Nat, (∀ i, i < k → ∀ j, hs i j < 256) ∧ HLIE W a k hs := by
  obtain ⟨fuel, hf⟩ := hd
  rcases DataW.trod_slice Try.underlying22 hf with ⟨h0, _⟩ | ⟨ad, len, cap, elems, rest, n, _, h0, hx, _, hl, hm, hlen, hel, _, _⟩
  · simp [Value.cells] at h0
    obtain ⟨rfl, rfl, rfl⟩ := h0
    exact ⟨fun _ _ => 0, fun i hi => by omega, fun h => by omega⟩
  · simp [Value.cells] at h0
    obtain ⟨rfl, rfl, rfl⟩ := h0
    have c32 : Try.prog.cellsOf 32 = 32 := by kernel_rfl
    have each : ∀ i, i < k → ∃ h : Nat → Nat, (∀ j, h j < 256) ∧ ∀ j, j < 32 → W.cell? ((ad.add (i * 32)).add j) = some (.int .u8 ((h j : Nat) : Int)) := fun i hi => by
      have h := hel i hi
      rw [List.getElem?_eq_getElem (by omega), c32, Option.bind_eq_some_iff] at h
      obtain ⟨cs, hcs, ht⟩ := h
      obtain ⟨f, h1, rfl⟩ := open_hash ht
      have hs := (World.cells?_some hcs).2.2
      refine ⟨f, h1, fun j hj => ?_⟩
      have s := hs j hj
      rw [s]
      exact ULIST_get .u8 32 f j hj
    have F : ∃ f : Nat → Nat → Nat, ∀ i, i < k → (∀ j, f i j < 256) ∧ ∀ j, j < 32 → W.cell? ((ad.add (i * 32)).add j) = some (.int .u8 ((f i j : Nat) : Int)) := by
      refine ⟨fun i => if hi : i < k then (each i hi).choose else fun _ => 0, fun i hi => ?_⟩
      simp only [hi, dif_pos]
      exact (each i hi).choose_spec
    obtain ⟨f, hf2⟩ := F
    refine ⟨f, fun i hi => (hf2 i hi).1, fun h0k => ?_⟩
    obtain ⟨b, off, spot⟩ := ad
    have hc := (hf2 0 h0k).2 0 (by decide)
    have hspot : spot = none := by simpa [Addr.add] using World.cell?_spot hc
    subst hspot
    refine ⟨b, off, rfl, ?_, fun i hi j v hv => ?_⟩
    · have := World.block_lt_of_cell? W _ hc
      simpa [Addr.add] using this
    · have hj : j < 32 := by have := (List.getElem?_eq_some_iff.1 hv).1; rw [ULIST_length] at this; exact this
      have h1 := (hf2 i hi).2 j hj
      rw [addr_add, addr_add] at h1
      rw [ULIST_get _ _ _ _ hj] at hv
      rw [h1, ← hv]
end Go.Proofs.Ytkhpaldbdpfpiaa
