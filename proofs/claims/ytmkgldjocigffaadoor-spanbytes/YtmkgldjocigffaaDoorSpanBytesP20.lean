/- Texts of SpanBytes, one behind the other: SpanTexts, SpanAwake, SpanPairs. -/
import Derived.Test.YtmkgldjocigffaaDoorSpanBytesP19
/- row, text, kept, still of the laws of layer 20; are these two proofs alike? -/
namespace Go.Proofs.YtmkgldjocigffaaDoor
open Go.RowKit
set_option maxRecDepth 100000

set_option maxHeartbeats 1000000 in
theorem row20_ok (a : Option Addr) (n c : Nat) (hn : n ≤ 1000) (hc : a = none → c = 0) (l : List Int) (w : World) (hF : Flat w a n l) : Calls Tryd.prog 14 #[.slice a n c] w (ROWED w n l) := by
  have HA : Aside (n ≤ 1000 ∧ (a = none → c = 0) ∧ Flat w a n l) := ⟨hn, hc, hF⟩
  clear hn hc hF
  go_enter Tryd.func14, Tryd.ntmps14
  go_wp2_with (first
    | (at_builtin; refine app_hashes _ rfl (.tmp 3) (.tmp 4) rfl w.heap.size (.slice (some ⟨w.heap.size, 0, none⟩) 0 0) 0 [] rfl (own_empty32 w) a n c l rfl (HA.out.2.2.below ((Below.refl _ _).alloc (Nat.le_refl _) _)) HA.out.2.1 (by have := HA.out.1; omega) (by simp) ?_; rw [Nat.zero_add, List.nil_append]; intro a1 c1 w1 hown1 hgrow1
       have R1 : Aside (w1.ownsRow w.heap.size 60 32 (.slice a1 n c1) n (CELLS l) ∧ Below w.heap.size w w1) := ⟨hown1, ((Below.refl _ w).alloc (Nat.le_refl _) _).grown hgrow1 (by simp) (fun k e => by cases e; exact Nat.le_refl _)⟩
       clear hown1 hgrow1)
    | (rw [← MRK_arr]; refine build_one _ rfl 35 60 (.tmp 6) rfl (CELLS MRK).toArray rfl 32 _ _ Tryd.underlying35 info_hashv (by rfl) rfl (by decide) (by decide) ?_)
    | (at_builtin; refine app_hash _ rfl (.tmp 5) (.tmp 7) rfl w.heap.size (.slice a1 n c1) n (CELLS l) rfl (R1.out.1.alloc _) w1.heap.size 1 MRK rfl rfl (Has.new _ _ _) (by have := HA.out.1; omega) (by have := R1.out.2.size; simp; omega) ?_; intro g2 c2 w2 hown2 hgrow2 hat2 hg2
       obtain ⟨f1, f2, f3, f4⟩ := own_front32 hown2 HA.out.2.2.1 rfl
       have hcap : (n : Int) ≤ (c2 : Int) := by omega
       have R2 : Aside (w2.ownsRow w.heap.size 60 32 (.slice (some ⟨g2, 0, none⟩) n c2) n (CELLS l) ∧ n + 1 ≤ c2 ∧ w2.rangeAt g2 (n * 32) (CELLS MRK) ∧ g2 < w2.heap.size ∧ Below w.heap.size w w2) := ⟨f1, f2, f3, f4, (R1.out.2.alloc R1.out.2.size _).grown hgrow2 (by have := R1.out.2.size; simp; omega) (fun k e => (R1.out.1.lt k e).1)⟩
       clear hown2 hgrow2 hat2 hg2 f1 f2 f3 f4))
  go_ret
  exact ⟨_, _, rfl, R2.out⟩
set_option maxHeartbeats 1000000 in
theorem text20_ok (a : Option Addr) (n c : Nat) (hn : n ≤ 1000000) (hc : a = none → c = 0) (l : List Int) (w : World) (hB : Bytes w a n l) : Calls Tryd.prog 19 #[.slice a n c] w (TEXTED w n l) := by
  have HA : Aside (n ≤ 1000000 ∧ (a = none → c = 0) ∧ Bytes w a n l) := ⟨hn, hc, hB⟩
  clear hn hc hB
  go_enter Tryd.func19, Tryd.ntmps19
  go_wp2_with (at_builtin; first
    | (refine app_any _ rfl (.tmp 3) (.tmp 4) rfl w.heap.size (.slice (some ⟨w.heap.size, 0, none⟩) 0 0) 0 [] rfl (own_empty w _ (Nat.le_refl _)) a n c l rfl (HA.out.2.2.below ((Below.refl _ _).alloc (Nat.le_refl _) _)) HA.out.2.1 n l (Nat.zero_add n) rfl (by have := HA.out.1; omega) (by simp) ?_; intro a1 c1 w1 hown1 hgrow1
       have R1 : Aside (w1.ownsRow w.heap.size 5 1 (.slice a1 n c1) n (CELLS l) ∧ Below w.heap.size w w1) := ⟨hown1, ((Below.refl _ w).alloc (Nat.le_refl _) _).grown hgrow1 (by simp) (fun k e => by cases e; exact Nat.le_refl _)⟩
       clear hown1 hgrow1)
    | (refine app_u8 _ rfl (.tmp 5) (.tmp 6) rfl w.heap.size (.slice a1 n c1) n l rfl (R1.out.1.alloc _) w1.heap.size 0 1 1 [171] rfl (one_bytes w1 171 (by decide) (by decide)) (by decide) (by have := HA.out.1; omega) (by have := R1.out.2.size; simp; omega) ?_; intro g2 c2 w2 hown2 hgrow2 hg2
       obtain ⟨f1, f2, f3⟩ := own_front hown2 HA.out.2.2.1
       have hcap : (n : Int) ≤ (c2 : Int) := by omega
       have R2 : Aside (w2.ownsRow w.heap.size 5 1 (.slice (some ⟨g2, 0, none⟩) n c2) n (CELLS l) ∧ n + 1 ≤ c2 ∧ w2.cell? ⟨g2, n, none⟩ = some (.int .u8 171) ∧ g2 < w2.heap.size ∧ Below w.heap.size w w2) := ⟨f1, f2, f3, hg2, (R1.out.2.alloc R1.out.2.size _).grown hgrow2 (by have := R1.out.2.size; simp; omega) (fun k e => (R1.out.1.lt k e).1)⟩
       clear hown2 hgrow2 hg2 f1 f2 f3))
  go_ret
  exact ⟨_, _, rfl, R2.out⟩
set_option maxHeartbeats 1000000 in
theorem kept20_ok (g n cap : Nat) (y : Option Addr) (cy : Nat) (l : List Int) (hn : n ≤ 1000) (hc : n + 1 ≤ cap) (w : World) (hA : Flat w (some ⟨g, 0, none⟩) n l) (hB : Flat w y n l) (hg : g < w.heap.size) (hm : w.rangeAt g (n * 32) (CELLS MRK)) :
    Calls Tryd.prog 18 #[.slice (some ⟨g, 0, none⟩) n cap, .slice y n cy] w fun e w' => e = .returned (.bool true) ∧ Below w.heap.size w w' := by
  have cs := samehashes_ok (some ⟨g, 0, none⟩) y n n cap cy l l w hA hB (by omega)
  rw [decide_eq_true rfl] at cs
  have e1 : wrap64 ((n : Int) + 1) = ((n + 1 : Nat) : Int) := by unfold wrap64; omega
  have k0 : ((n + 1 : Nat) : Int) ≤ (cap : Int) := by omega
  have k1 : (n : Int) + 1 ≤ (cap : Int) := by omega
  have k2 : (n : Int) < (n : Int) + 1 := by omega
  have HM : Aside (g < w.heap.size ∧ w.rangeAt g (n * 32) (CELLS MRK)) := ⟨hg, hm⟩
  have hnq : ∀ x y (W : World), (do eqGuard .eql 60 x y (.agg (CELLS MRK).toArray) (.agg (CELLS MRK).toArray); binOp .eql 60 (.agg (CELLS MRK).toArray) (.agg (CELLS MRK).toArray) : Sem Value).run Tryd.prog W = .ok (.bool true) W := fun x y W => by
    have := eql_hashes (h := MRK) (g := MRK) rfl rfl x y W
    rw [this]
    simp
  clear hn hA hB hg hm
  go_enter Tryd.func18, Tryd.ntmps18
  go_wp2_with fail
  refine cs.mono ?_
  rintro e w1 ⟨rfl, hb1⟩
  have hr1 : w1.rangeAt g (n * 32) (CELLS MRK) := range_below HM.out.2 hb1 HM.out.1
  have FN : Aside (Below w.heap.size w w1) := hb1
  clear cs hb1 HM
  go_wp2_with (first
    | (refine load_mid_if (by rfl) 60 (.tmp 16) rfl g (n * 32) rfl (CELLS MRK) _ hr1 Tryd.underlying60 rfl (info_cells rfl) ?_)
    | (rw [← MRK_arr]; refine plain_if (by rfl) (run_value (hnq _ _ _)) ?_))
  go_ret
  exact ⟨rfl, FN.out⟩
set_option maxHeartbeats 1000000 in
theorem still20_ok (g n cap : Nat) (y : Option Addr) (cy : Nat) (l : List Int) (hn : n ≤ 100000) (hc : n + 1 ≤ cap) (w : World) (hA : Bytes w (some ⟨g, 0, none⟩) n l) (hB : Bytes w y n l) (hg : g < w.heap.size) (hm : w.cell? ⟨g, n, none⟩ = some (.int .u8 171)) :
    Calls Tryd.prog 23 #[.slice (some ⟨g, 0, none⟩) n cap, .slice y n cy] w fun e w' => e = .returned (.bool true) ∧ Below w.heap.size w w' := by
  have cs := samebytes_ok (some ⟨g, 0, none⟩) y n n cap cy l l w hA hB (by omega)
  rw [decide_eq_true rfl] at cs
  have e1 : wrap64 ((n : Int) + 1) = ((n + 1 : Nat) : Int) := by unfold wrap64; omega
  have k1 : (n : Int) + 1 ≤ (cap : Int) := by omega
  have k2 : (n : Int) < (n : Int) + 1 := by omega
  have HM : Aside (g < w.heap.size ∧ w.cell? ⟨g, n, none⟩ = some (.int .u8 171)) := ⟨hg, hm⟩
  clear hn hA hB hg hm
  go_enter Tryd.func23, Tryd.ntmps23
  go_wp2_with fail
  refine cs.mono ?_
  rintro e w1 ⟨rfl, hb1⟩
  have x0 : w1.cell? ⟨g, n, none⟩ = some (.int .u8 171) := (hb1.cell (p := ⟨g, n, none⟩) HM.out.1).trans HM.out.2
  have FN : Aside (Below w.heap.size w w1) := hb1
  clear cs hb1 HM
  go_wp2_with fail
  go_ret
  exact ⟨rfl, FN.out⟩
set_option maxHeartbeats 1000000 in
/-- two proofs that are alike. -/
theorem same20_ok (S F T : Nat) (x y : Option Addr) (m k cx cy : Nat) (l : List Int) (w : World) (hX : Flat w x m l) (hY : Flat w y k l) (hm : m ≤ 1000000) :
    Calls Tryd.prog 22 #[.agg #[.int .u64 (S : Int), .int .u64 (F : Int), .int .u64 (T : Int), .slice x m cx], .agg #[.int .u64 (S : Int), .int .u64 (F : Int), .int .u64 (T : Int), .slice y k cy]] w fun e w' => e = .returned (.bool true) ∧ Below w.heap.size w w' := by
  obtain ⟨w1, e1⟩ : ∃ w1, w.alloc (.cells #[.int .u64 (S : Int), .int .u64 (F : Int), .int .u64 (T : Int), .slice x m cx] 37) = w1 := ⟨_, rfl⟩
  obtain ⟨w2, e2⟩ : ∃ w2, w1.alloc (.cells #[.int .u64 (S : Int), .int .u64 (F : Int), .int .u64 (T : Int), .slice y k cy] 37) = w2 := ⟨_, rfl⟩
  have hb2 : Below w.heap.size w w2 := by rw [← e2, ← e1]; exact ((Below.refl _ _).alloc (Nat.le_refl _) _).alloc (by simp) _
  have h1 : Has w2 w.heap.size #[.int .u64 (S : Int), .int .u64 (F : Int), .int .u64 (T : Int), .slice x m cx] 37 := by rw [← e2, ← e1]; exact (Has.new w _ _).alloc _
  have h2 : Has w2 w1.heap.size #[.int .u64 (S : Int), .int .u64 (F : Int), .int .u64 (T : Int), .slice y k cy] 37 := by rw [← e2]; exact Has.new w1 _ _
  have x0 := h1.cell 0
  have x1 := h1.cell 1
  have x2 := h1.cell 2
  have x3 := h1.cell 3
  have y0 := h2.cell 0
  have y1 := h2.cell 1
  have y2 := h2.cell 2
  have y3 := h2.cell 3
  have ch := samehashes_ok x y m k cx cy l l w2 (hX.below hb2) (hY.below hb2) hm
  rw [decide_eq_true rfl] at ch
  have HB : Aside (Below w.heap.size w w2) := hb2
  clear hX hY hm hb2 h1 h2
  go_enter Tryd.func22, Tryd.ntmps22
  go_wp2_with fail
  refine ch.mono ?_
  rintro e w4 ⟨rfl, hb4⟩
  have B4 : Aside (Below w.heap.size w w4) := HB.out.trans (hb4.mono HB.out.size)
  clear ch hb4 HB
  go_wp2_with fail
  go_ret
  exact ⟨rfl, B4.out⟩
end Go.Proofs.YtmkgldjocigffaaDoor

/- massiflaw20.awake: what two leaves of seven need; the bytes of a proof. -/
namespace Go.Proofs.YtmkgldjocigffaaDoor
open Go.RowKit
set_option maxRecDepth 100000

/-- the hash 7 0 0 .. -/
def HSV : List Int := 7 :: List.replicate 31 0
theorem HSV_arr : (CELLS HSV).toArray = #[.int .u8 7, .int .u8 0, .int .u8 0, .int .u8 0, .int .u8 0, .int .u8 0, .int .u8 0, .int .u8 0, .int .u8 0, .int .u8 0, .int .u8 0, .int .u8 0, .int .u8 0, .int .u8 0, .int .u8 0, .int .u8 0, .int .u8 0, .int .u8 0, .int .u8 0, .int .u8 0, .int .u8 0, .int .u8 0, .int .u8 0, .int .u8 0, .int .u8 0, .int .u8 0, .int .u8 0, .int .u8 0, .int .u8 0, .int .u8 0, .int .u8 0, .int .u8 0] := rfl
theorem SPA_awake : SPA 1 3 7 = [0, 4, 9, 10] := by decide +kernel
theorem SPE_awake : SPE 1 3 7 = 0 := by decide +kernel
theorem SENC_awake : SENC 3 0 2 1 HSV = (0, 83 :: 3 :: 0 :: 2 :: HSV) := by decide +kernel
theorem own_some20 {w : World} {B s n c : Nat} {t : TypeId} {a : Option Addr} {xs : List Value} (h : w.ownsRow B t s (.slice a n c) n xs) (hn : 0 < n) : ∃ g, a = some ⟨g, 0, none⟩ := by
  rcases h.2 with ⟨e, h0⟩ | ⟨g, cap, cur, e, _⟩
  · omega
  · simp only [Value.slice.injEq] at e
    exact ⟨g, e.1⟩
theorem flat_seven20 (w : World) : Flat (w.alloc (.cells (CELLS HSV).toArray 60)) (some ⟨w.heap.size, 0, none⟩) 1 HSV := by
  refine ⟨rfl, fun _ => ⟨w.heap.size, 0, rfl, by simp, fun j hj => ?_⟩, by decide⟩
  rw [(Has.new w (CELLS HSV).toArray 60).cell (0 + j), Nat.zero_add, List.getElem?_toArray]
  exact CELLS_get HSV j hj
set_option maxHeartbeats 2000000 in
theorem awake20_ok (w : World) (hT : Tabled w) (h0 : 0 < w.heap.size) : Calls Tryd.prog 10 #[] w fun e w' => e = .returned (.bool true) ∧ Below w.heap.size w w' := by
  have cp := spanplaces_ok 1 3 7 w hT h0
  rw [SPA_awake, SPE_awake] at cp
  have B1 : Aside (Tabled w ∧ 0 < w.heap.size) := ⟨hT, h0⟩
  clear hT h0
  go_enter Tryd.func10, Tryd.ntmps10
  go_wp2_with fail
  refine cp.mono ?_
  rintro e w2 ⟨a2, c2, rfl, hown2, hb2⟩
  clear cp
  have R2 : Aside (w2.ownsRow w.heap.size 22 1 (.slice a2 4 c2) 4 (UCELLS [0, 4, 9, 10]) ∧ Below w.heap.size w w2) := ⟨hown2, hb2⟩
  clear hown2 hb2
  obtain ⟨w4, e4⟩ : ∃ w4, w2.alloc (.cells (CELLS HSV).toArray 60) = w4 := ⟨_, rfl⟩
  have hb4 : Below w2.heap.size w2 w4 := by rw [← e4]; exact (Below.refl _ _).alloc (Nat.le_refl _) _
  have hbw4 : Below w.heap.size w w4 := R2.out.2.trans (hb4.mono R2.out.2.size)
  have hF4 : Flat w4 (some ⟨w2.heap.size, 0, none⟩) 1 HSV := by rw [← e4]; exact flat_seven20 w2
  have ce := spanencode_ok 3 0 2 (some ⟨w2.heap.size, 0, none⟩) 1 1 HSV w4 (by decide) hF4 (B1.out.1.below B1.out.2 hbw4) (by have := B1.out.2; have := hbw4.size; omega)
  rw [SENC_awake] at ce
  rw [HSV_arr] at e4
  have hM : RBOX 3 0 2 (some ⟨w2.heap.size, 0, none⟩) 1 1 = #[.int .u64 3, .int .u64 0, .int .u64 2, .slice (some ⟨w2.heap.size, 0, none⟩) 1 1] := rfl
  rw [hM] at ce
  have R4 : Aside (w4.ownsRow w.heap.size 22 1 (.slice a2 4 c2) 4 (UCELLS [0, 4, 9, 10]) ∧ Below w.heap.size w w4) := ⟨own_below R2.out.1 hb4, hbw4⟩
  clear hM hb4 hbw4 hF4 R2 B1
  go_wp2_with fail
  refine ce.mono ?_
  rintro e w5 ⟨a5, c5, rfl, hown5, hb5⟩
  clear ce e4
  have o2 := own_below R4.out.1 hb5
  obtain ⟨g2, rfl⟩ := own_some20 o2 (by decide)
  obtain ⟨g5, rfl⟩ := own_some20 hown5 (by decide)
  have y0 : w5.cell? ⟨g2, 0, none⟩ = some (.int .u64 0) := o2.cellAt 0 (by decide)
  have y1 : w5.cell? ⟨g2, 1, none⟩ = some (.int .u64 4) := o2.cellAt 1 (by decide)
  have y2 : w5.cell? ⟨g2, 2, none⟩ = some (.int .u64 9) := o2.cellAt 2 (by decide)
  have z0 : w5.cell? ⟨g5, 0, none⟩ = some (.int .u8 83) := hown5.cellAt 0 (by decide)
  have z3 : w5.cell? ⟨g5, 3, none⟩ = some (.int .u8 2) := hown5.cellAt 3 (by decide)
  have z4 : w5.cell? ⟨g5, 4, none⟩ = some (.int .u8 7) := hown5.cellAt 4 (by decide)
  have FN : Aside (Below w.heap.size w w5) := R4.out.2.trans (hb5.mono R4.out.2.size)
  have hlen : (83 :: 3 :: 0 :: 2 :: HSV).length = 36 := rfl
  rw [hlen]
  clear o2 hown5 hb5 R4
  go_wp2_with fail
  go_ret
  exact ⟨rfl, FN.out⟩
end Go.Proofs.YtmkgldjocigffaaDoor

/- Two lists of one's own, neither in the other's block. -/
namespace Go.Proofs.YtmkgldjocigffaaDoor
open Go.RowKit
set_option maxRecDepth 100000

/-- two lists of elements of type t, z cells each. -/
structure DPAIR (t : TypeId) (z : Nat) (w0 w : World) (B : Nat) (a : Value) (na : Nat) (xa : List Value) (b : Value) (nb : Nat) (xb : List Value) : Prop where
  ra : w.ownsRow B t z a na xa
  rb : w.ownsRow B t z b nb xb
  ap : ∀ g, a.ownBlock = some g → b.ownBlock ≠ some g
  bl : Below B w0 w
  bs : B ≤ w0.heap.size
section
variable {t : TypeId} {z : Nat} {w0 w : World} {B : Nat} {a : Value} {na : Nat} {xa : List Value} {b : Value} {nb : Nat} {xb : List Value}
theorem DPAIR.swap (h : DPAIR t z w0 w B a na xa b nb xb) : DPAIR t z w0 w B b nb xb a na xa := ⟨h.rb, h.ra, off_sym h.ap, h.bl, h.bs⟩
theorem DPAIR.step {w' : World} (h : DPAIR t z w0 w B a na xa b nb xb) {a' : Value} {na' : Nat} {xa' : List Value} (hown : w'.ownsRow B t z a' na' xa') (hg : w.grownBy w' a.ownBlock) (hat : ∀ g, a'.ownBlock = some g → a.ownBlock = some g ∨ w.heap.size ≤ g) : DPAIR t z w0 w' B a' na' xa' b nb xb := by
  refine ⟨hown, own_off h.rb hg h.ap, fun g e1 e2 => ?_, h.bl.grown hg (Nat.le_trans h.bs h.bl.size) (fun k e => (h.ra.lt k e).1), h.bs⟩
  rcases hat g e1 with h1 | h1
  · exact h.ap g h1 e2
  · have := (h.rb.lt g e2).2
    omega
theorem DPAIR.alloc (h : DPAIR t z w0 w B a na xa b nb xb) (o : Obj) : DPAIR t z w0 (w.alloc o) B a na xa b nb xb := ⟨own_alloc h.ra o, own_alloc h.rb o, h.ap, h.bl.alloc (Nat.le_trans h.bs h.bl.size) o, h.bs⟩
end
theorem own_putd {t : TypeId} {w : World} {B g n c j : Nat} {xs : List Value} {v : Value} (h : w.ownsRow B t 1 (.slice (some ⟨g, 0, none⟩) n c) n xs) (hj : j < n) : (∃ u, w.cell? ⟨g, j, none⟩ = some u) ∧ w.frozen? ⟨g, j, none⟩ = false ∧ (w.setCell ⟨g, j, none⟩ v).ownsRow B t 1 (.slice (some ⟨g, 0, none⟩) n c) n (xs.set j v) ∧ w.grownBy (w.setCell ⟨g, j, none⟩ v) (Value.slice (some ⟨g, 0, none⟩) n c).ownBlock := by
  refine ⟨?_, h.frozenAt j, (h.stored j v).1, (h.stored j v).2⟩
  have := h.cellAt j (by omega)
  obtain ⟨u, hu⟩ : ∃ u, xs[j]? = some u := ⟨_, List.getElem?_eq_getElem (by have := h.1; omega)⟩
  exact ⟨u, this.trans hu⟩
theorem OVER_growd {xs : List Value} {u : Value} {n : Nat} (hl : xs.length = n) : OVER xs u n ++ [u] = List.replicate (n + 1) u := by
  have := OVER_all xs u
  rw [hl] at this
  rw [this, List.replicate_succ']
/-- one byte of a list of one's own. -/
theorem app_byted {ops : Array Oper} {rest : List Oper} {o : Oper} {a : Act} {Q : Exit → Act → World → Prop} (w : World) (hgd : o.guard = none) (s x : Operand)
    (ho : o.op = .call { callee := .builtin .append, args := #[s, x], argTypes := #[38, 38] })
    (base : Nat) (v : Value) (n : Nat) (xs : List Value) (hs : a.eval s = v) (hown : w.ownsRow base 5 1 v n xs)
    (b c : Nat) (y : Int) (hx : a.eval x = .slice (some ⟨b, 0, none⟩) 1 c) (hc : w.cell? ⟨b, 0, none⟩ = some (.int .u8 y))
    (hb : n ≤ 2 ^ 30) (hbase : base ≤ w.heap.size)
    (h : ∀ g cap w', w'.ownsRow base 5 1 (.slice (some ⟨g, 0, none⟩) (n + 1) cap) (n + 1) (xs ++ [.int .u8 y]) → w.grownBy w' v.ownBlock → (v.ownBlock = some g ∨ g = w.heap.size) → g < w'.heap.size → wpList Tryd.prog ops Q rest (a.put o.dst (.slice (some ⟨g, 0, none⟩) (n + 1) cap)) w') : wpList Tryd.prog ops Q (o :: rest) a w := by
  obtain ⟨i, hi, h8⟩ := Option.map_eq_some_iff.1 (show (Tryd.prog.info? 5).map (fun i => (i.zero, i.size, i.bytes)) = some (some (.int .u8 0), 1, 1) by kernel_rfl)
  simp only [Prod.mk.injEq] at h8
  refine wpList_append_lies w hgd s x 38 ho base 5 i (.int .u8 0) 1 1 Tryd.underlying38 hi h8.1 h8.2.1 h8.2.2 rfl (by decide) v n xs hs hown ⟨b, 0, none⟩ 1 c [.int .u8 y] hx rfl ?_ (fun u hu => by simp at hu; subst hu; rfl) (by decide) (by simp only [maxLen]; omega) (by omega) hbase w.heap.size rfl h
  intro j u hj
  cases j with
  | zero =>
    simp only [List.getElem?_cons_zero, Option.some.injEq] at hj
    subst hj
    exact hc
  | succ j => simp at hj
/-- the first j bytes are one more. -/
def INCS (l : List Int) (j : Nat) : List Value := (l.take j).map (fun x => Value.int .u8 ((x + 1) % 256)) ++ CELLS (l.drop j)
theorem INCS_zero (l : List Int) : INCS l 0 = CELLS l := by simp [INCS]
theorem INCS_at {l : List Int} {j : Nat} {x : Int} (e : l[j]? = some x) : (INCS l j)[j]? = some (.int .u8 x) ∧ (INCS l j).set j (.int .u8 ((x + 1) % 256)) = INCS l (j + 1) := by
  have hj : j < l.length := (List.getElem?_eq_some_iff.1 e).1
  have hl : ((l.take j).map (fun x => Value.int .u8 ((x + 1) % 256))).length = j := by simp; omega
  have hd : l.drop j = x :: l.drop (j + 1) := by
    rw [List.drop_eq_getElem_cons hj]
    congr 1
    have := List.getElem?_eq_getElem hj
    rw [this] at e
    simpa using e
  unfold INCS
  rw [hd]
  constructor
  · rw [List.getElem?_append_right (by omega), hl, Nat.sub_self]
    rfl
  · rw [List.set_append_right _ _ (by omega), hl, Nat.sub_self, List.take_add_one, e]
    simp [CELLS]
end Go.Proofs.YtmkgldjocigffaaDoor
