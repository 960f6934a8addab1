/- Store.put at any place without a node; Store.Back. -/
import Derived.Test.YtcpgkhagbinmoaaStoreSputMid
import Derived.Test.YtcpgkhagbinmoaaStoreDrop
import Derived.Test.YtcpgkhagbinmoaaStorePin
namespace Go.Proofs.Ytcpgkhagbinmoaa
open Go.RowKit Go.Maps
set_option maxRecDepth 100000

theorem storeput_mid {w : World} {B g log len alive N : Nat} {C : CHUNKS} (hS : STORE w B g log len alive N C) (p : Nat) (h : Nat → Nat) (h8 : ∀ i, h i < 256) (hp : p < len) (hA : AT C log p = none) (hal : alive < 2 ^ 40) (hBg : B ≤ g) (hN : N < 2 ^ 40) : Calls Try.prog 18 #[.pointer (some ⟨g, 0, none⟩), .int .u64 (p : Int), .agg (UARR .u8 32 h)] w fun e w' =>
    (∃ v, e = .returned v) ∧ SPUTM w B g log len alive N p C h w' := by
  obtain ⟨mv, m1, _⟩ := hS.map
  cases mv with
  | none => exact sputm_first hS p h h8 hp hal hBg hN m1
  | some b =>
    cases hK : C (p / 2 ^ log) with
    | none => exact sputm_new hS p h h8 hp hal hBg hN m1 hK
    | some c => exact sputm_there (gc := c.1) (rs := c.2) hS p h h8 hp hA hal hBg m1 hK
theorem back_far {w : World} {B g log len alive N : Nat} {C : CHUNKS} (hS : STORE w B g log len alive N C) (p : Nat) (h : Nat → Nat) (hp : len ≤ p) : Calls Try.prog 6 #[.pointer (some ⟨g, 0, none⟩), .int .u64 (p : Int), .agg (UARR .u8 32 h)] w fun e w' => e = .returned (.int .i64 31) ∧ Below w.heap.size w w' := by
  obtain ⟨w0, hw0⟩ : ∃ w0, w.alloc (.cells (UARR .u8 32 h) 32) = w0 := ⟨_, rfl⟩
  have hb0 : Below w.heap.size w w0 := by rw [← hw0]; exact (Below.refl _ _).alloc (Nat.le_refl _) _
  have hc1 := (hS.below hb0).c1
  have hge : (len : Int) ≤ (p : Int) := by omega
  have HB : Aside (Below w.heap.size w w0) := hb0
  clear hS hb0
  go_enter Try.func6, Try.ntmps6
  go_wp2
  go_ret
  exact ⟨rfl, HB.out⟩
theorem back_live {w : World} {B g log len alive N : Nat} {C : CHUNKS} (hS : STORE w B g log len alive N C) (p : Nat) (h h' : Nat → Nat) (hp : p < 2 ^ 64) (hl : p < len) (hA : AT C log p = some h') : Calls Try.prog 6 #[.pointer (some ⟨g, 0, none⟩), .int .u64 (p : Int), .agg (UARR .u8 32 h)] w fun e w' => e = .returned (.int .i64 53) ∧ Below w.heap.size w w' := by
  obtain ⟨w0, hw0⟩ : ∃ w0, w.alloc (.cells (UARR .u8 32 h) 32) = w0 := ⟨_, rfl⟩
  have hb0 : Below w.heap.size w w0 := by rw [← hw0]; exact (Below.refl _ _).alloc (Nat.le_refl _) _
  have hS0 := hS.below hb0
  have hc1 := hS0.c1
  have hge : ¬ (len : Int) ≤ (p : Int) := by omega
  have cL := live_ok hS0 p hp
  rw [hA] at cL
  have HB : Aside (Below w.heap.size w w0) := hb0
  clear hS hS0 hb0
  go_enter Try.func6, Try.ntmps6
  go_wp2_with (refine cL.mono ?_; rintro e w1 ⟨rfl, hb⟩; clear cL)
  go_ret
  exact ⟨rfl, HB.out.trans (hb.mono HB.out.size)⟩
set_option maxHeartbeats 1000000 in
theorem back_ok {w : World} {B g log len alive N : Nat} {C : CHUNKS} (hS : STORE w B g log len alive N C) (p : Nat) (h : Nat → Nat) (h8 : ∀ i, h i < 256) (hp : p < 2 ^ 64) (hl : p < len) (hA : AT C log p = none) (hal : alive < 2 ^ 40) (hBg : B ≤ g) (hN : N < 2 ^ 40) : Calls Try.prog 6 #[.pointer (some ⟨g, 0, none⟩), .int .u64 (p : Int), .agg (UARR .u8 32 h)] w fun e w' => e = .returned (.int .i64 0) ∧ SPUTM w B g log len alive N p C h w' := by
  obtain ⟨w0, hw0⟩ : ∃ w0, w.alloc (.cells (UARR .u8 32 h) 32) = w0 := ⟨_, rfl⟩
  have hb0 : Below w.heap.size w w0 := by rw [← hw0]; exact (Below.refl _ _).alloc (Nat.le_refl _) _
  have h50 : Has w0 w.heap.size (UARR .u8 32 h) 32 := by rw [← hw0]; exact Has.new w _ _
  have hS0 := hS.below hb0
  have hc1 := hS0.c1
  have hge : ¬ (len : Int) ≤ (p : Int) := by omega
  have cL := live_ok hS0 p hp
  rw [hA] at cL
  have H : Aside (STORE w0 B g log len alive N C ∧ p < len ∧ AT C log p = none ∧ alive < 2 ^ 40 ∧ B ≤ g ∧ N < 2 ^ 40 ∧ (∀ i, h i < 256) ∧ Below w.heap.size w w0 ∧ g < w.heap.size ∧ STEP w w0 g C C ∧ Has w0 w.heap.size (UARR .u8 32 h) 32) := ⟨hS0, hl, hA, hal, hBg, hN, h8, hb0, hS.lt, STEP.below hS hb0, h50⟩
  clear hS hS0 hb0 hl hA hal hBg hN h8 h50
  go_enter Try.func6, Try.ntmps6
  go_wp2_with (first
    | (refine cL.mono ?_; rintro e w1 ⟨rfl, hb⟩; clear cL; have h51 := H.out.2.2.2.2.2.2.2.2.2.2.keep hb; have HB : Aside (Below w0.heap.size w0 w1) := hb; clear hb)
    | (refine wpList_load_row rfl 32 (.tmp 5) rfl w.heap.size rfl 32 (UARR .u8 32 h) (0, 0) (.array 32 5) h51 Try.underlying32 rfl (info_HASH _) ?_))
  obtain ⟨a1, a2, a3, a4, a5, a6, a7, a8, a9, a10, a11⟩ := H.out
  have cP := storeput_mid (a1.below HB.out) p h a7 a2 a3 a4 a5 a6
  clear a1 a2 a3 a4 a5 a6 a7 a8 a9 a10 a11 h51
  refine cP.mono ?_
  rintro e w2 ⟨⟨v, rfl⟩, hP⟩
  have HP : Aside (SPUTM w1 B g log len alive N p C h w2) := hP
  clear hP cP
  go_wp2
  go_ret
  obtain ⟨a1, a2, a3, a4, a5, a6, a7, a8, a9, a10, a11⟩ := H.out
  obtain ⟨C', c1, c2, c3, c4⟩ := HP.out
  exact ⟨rfl, C', c1, c2, (a10.trans (STEP.below a1 HB.out)).trans c3, ((a8.mono (by omega)).trans (HB.out.mono (by have := a8.size; omega))).trans c4⟩
end Go.Proofs.Ytcpgkhagbinmoaa
