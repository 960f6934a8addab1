/- Texts of VerifyPrefixes, one behind the other: VerifyPrefixesWalk, PosDoor, ProofDoor, HashDoor, VerifyLaid3, VerifyDoorProof. -/
import Derived.Test.YtkcfhgflgkejoaaGreatDoorRows
import Derived.ProofKit
import Derived.LaidMore
import Derived.OpenShut
import Derived.Stop.Joined
import Derived.Deep.Strs
import Derived.Test.YtkcfhgflgkejoaaGreatDoorVerifyPrefixesP7
import Derived.Test.YtkcfhgflgkejoaaGreatDoorVerifyPrefixesP15
import Derived.Test.YtkcfhgflgkejoaaGreatDoorVerifyPrefixesP17
import Derived.Test.YtkcfhgflgkejoaaGreatDoorVerifyPrefixesP37
import Derived.Test.YtkcfhgflgkejoaaGreatDoorVerifyPrefixesP40
import Derived.Test.YtkcfhgflgkejoaaGreatDoorVerifyPrefixesP41
/- The law VerifyPrefixes returns true. -/
namespace Go.Proofs.YtkcfhgflgkejoaaGreatDoor
open Go.RowKit
set_option maxRecDepth 100000

theorem prefixes_long (d : Int) (n : Nat) (R : List Int) (i : Nat) (L : List Int) (a : Option Addr) (m c : Nat) (hm : (9600 : Int) < (m : Int)) (w : World) :
    Calls Tryz.prog 5 #[.int .i64 d,.int .u64 (n : Int),.agg (CELLS R).toArray,.int .u64 (i : Int),.agg (CELLS L).toArray,.slice a m c] w fun e w' => e = .returned (.bool true) ∧ Below w.heap.size w w' := by
  have HB : Aside (Below w.heap.size w ((w.alloc (.cells (CELLS R).toArray 23)).alloc (.cells (CELLS L).toArray 23))) := ((Below.refl _ _).alloc (Nat.le_refl _) _).alloc (by simp) _
  go_enter Tryz.func5,Tryz.ntmps5
  go_wp2
  go_ret
  exact ⟨rfl,HB.out⟩
set_option maxHeartbeats 16000000 in
theorem prefixes_core (d : Int) (n : Nat) (hn : n < 2 ^ 64) (R : List Int) (hR : IsH R) (i : Nat) (hi : i < 2 ^ 64) (L : List Int) (hL : IsH L) (a : Option Addr) (m c : Nat) (hm : m ≤ 9600) (hc : a = none → c = 0) (hmc : m ≤ c) (l : List Int) (w : World) (hB : Bytes w a m l) (hT : Tabled w) (hX : HX.Tabled w) (h0 : 2 < w.heap.size) :
    Calls Tryz.prog 5 #[.int .i64 d,.int .u64 (n : Int),.agg (CELLS R).toArray,.int .u64 (i : Int),.agg (CELLS L).toArray,.slice a m c] w fun e w' => e = .returned (.bool true) ∧ Below w.heap.size w w' := by
  obtain ⟨TS,hTS⟩ := joins_pick
  have i1 : ¬ (9600 : Int) < (m : Int) := by omega
  have CM : Aside (∀ W g q K,Below w.heap.size w W → Bytes W (some ⟨g,0,none⟩) m K → m ≤ q → Calls Tryz.prog 19 #[.int .i64 d,.int .u64 (n : Int),.agg (CELLS R).toArray,.int .u64 (i : Int),.agg (CELLS L).toArray,.slice (some ⟨g,0,none⟩) m q] W fun e w' => e = .returned (.int .i64 ((fun K => PFXA d (JSX (DEX K).2.1 (DEX K).2.2.1 (TS K)) n R i L K) K)) ∧ Below W.heap.size W w') := fun W g q K h hb hq => by
    exact prefix_ok d n hn R hR i hi L hL (some ⟨g,0,none⟩) m q (by omega) hq K _ (hTS K hb.2.2).2 W hb (hT.below (by omega) h) (hX.below h) (Nat.lt_of_lt_of_le h0 h.size)
  have CR : Aside (∀ W ad q K,Below w.heap.size w W → Bytes W ad m K → m ≤ q → Calls Tryz.prog 18 #[.int .i64 d,.int .u64 (n : Int),.agg (CELLS R).toArray,.int .u64 (i : Int),.agg (CELLS L).toArray,.slice ad m q] W fun e w' => e = .returned (.int .i64 ((fun K => PFXA d (JSX (DEX K).2.1 (DEX K).2.2.1 (TS K)) n R i L K) K)) ∧ Below W.heap.size W w') := fun W ad q K h hb hq => by
    exact refprefix8_ok d n R hR i L hL ad m q (by omega) hq K (TS K) (hTS K hb.2.2).1 W hb (DEX_small hb.2.2).1 (DEX_small hb.2.2).2
  have CA : Aside (∀ W,Below w.heap.size w W → Calls Tryz.prog 10 #[] W fun e w' => e = .returned (.bool true) ∧ Below W.heap.size W w') := fun W hb => awake8_ok W (hT.below (by omega) hb) (hX.below hb) (Nat.lt_of_lt_of_le h0 hb.size)
  generalize (fun K => PFXA d (JSX (DEX K).2.1 (DEX K).2.2.1 (TS K)) n R i L K) = V at *
  have r32 := hR.1
  have l32 := hL.1
  obtain ⟨W0,hW0⟩ : ∃ W0,(w.alloc (.cells (CELLS R).toArray 23)).alloc (.cells (CELLS L).toArray 23) = W0 := ⟨_,rfl⟩
  obtain ⟨br,hbr⟩ : ∃ br,w.heap.size = br := ⟨_,rfl⟩
  obtain ⟨bl,hbl⟩ : ∃ bl,br + 1 = bl := ⟨_,rfl⟩
  have R0 : Aside (Below w.heap.size w W0 ∧ Has W0 br (CELLS R).toArray 23 ∧ Has W0 bl (CELLS L).toArray 23) := by
    rw [← hW0, ← hbl, ← hbr]
    exact ⟨((Below.refl _ _).alloc (Nat.le_refl _) _).alloc (by simp) _,(Has.new _ _ _).alloc _,Has.at _ _ _ (by simp)⟩
  have HA : Aside (m ≤ 9600 ∧ Bytes w a m l ∧ m ≤ c) := ⟨hm,hB,hmc⟩
  have ct := text8_ok a m c (by omega) hc l W0 (hB.below R0.out.1)
  clear hR hL hm hc hmc hB hT hX h0 hn hi hTS
  go_enter Tryz.func5,Tryz.ntmps5
  go_upto_region 1 with fail
  clear hW0 hbr hbl
  go_wp2_with fail
  refine ct.mono ?_
  rintro e w1 ⟨g,q,rfl,og,hq,hmk,hg,hb1⟩
  have R1 : Aside (Below w.heap.size w w1 ∧ Has w1 br (CELLS R).toArray 23 ∧ Has w1 bl (CELLS L).toArray 23 ∧ w1.ownsRow W0.heap.size 5 1 (.slice (some ⟨g,0,none⟩) m q) m (CELLS l) ∧ m + 1 ≤ q ∧ w1.cell? ⟨g,m,none⟩ = some (.int .u8 171) ∧ g < w1.heap.size ∧ w.heap.size ≤ W0.heap.size ∧ br < W0.heap.size ∧ bl < W0.heap.size) := ⟨R0.out.1.trans (hb1.mono R0.out.1.size),R0.out.2.1.keep hb1,R0.out.2.2.keep hb1,og,hq,hmk,hg,R0.out.1.size,R0.out.2.1.lt,R0.out.2.2.lt⟩
  clear ct og hq hmk hg hb1 R0
  have K1 : Aside (∀ W,Below w1.heap.size w1 W → Below w.heap.size w W ∧ Has W br (CELLS R).toArray 23 ∧ Has W bl (CELLS L).toArray 23 ∧ Bytes W (some ⟨g,0,none⟩) m l ∧ Bytes W a m l ∧ W.cell? ⟨g,m,none⟩ = some (.int .u8 171) ∧ g < W.heap.size ∧ W.ownsRow W0.heap.size 5 1 (.slice (some ⟨g,0,none⟩) m q) m (CELLS l)) := fun W hb => by
    obtain ⟨r1,r2,r3,r4,r5,r6,r7,_⟩ := R1.out
    have h := r1.trans (hb.mono r1.size)
    exact ⟨h,r2.keep hb,r3.keep hb,(own_bytes_any (own_below r4 hb) HA.out.2.1.2.2).1,HA.out.2.1.below h,(hb.cell (p := ⟨g,m,none⟩) r7).trans r6,Nat.lt_of_lt_of_le r7 hb.size,own_below r4 hb⟩
  have Q1 : Aside (m + 1 ≤ q) := R1.out.2.2.2.2.1
  have M1 : Aside (w.heap.size ≤ W0.heap.size ∧ br < W0.heap.size ∧ bl < W0.heap.size) := R1.out.2.2.2.2.2.2.2
  clear R1
  obtain ⟨_,hsr,hsl,_⟩ := K1.out w1 (Below.refl _ _)
  have cc := CR.out w1 a c l (K1.out w1 (Below.refl _ _)).1 (K1.out w1 (Below.refl _ _)).2.2.2.2.1 HA.out.2.2
  go_wp2_with (first
    | (refine wpList_load_row rfl 23 (.tmp 8) rfl br rfl 23 (CELLS R).toArray (0,0) _ hsr Tryz.underlying23 rfl (info_arr r32) ?_)
    | (refine wpList_load_row rfl 23 (.tmp 10) rfl bl rfl 23 (CELLS L).toArray (0,0) _ hsl Tryz.underlying23 rfl (info_arr l32) ?_))
  refine cc.mono ?_
  rintro e w2 ⟨rfl,hb2⟩
  have B2 : Aside (Below w1.heap.size w1 w2) := hb2
  clear cc hb2 hsr hsl
  have hVV : (V l == V l) = true := beq_self_eq_true _
  obtain ⟨_,hsr,hsl,fg,_⟩ := K1.out w2 B2.out
  have cc := CM.out w2 g q l (K1.out w2 B2.out).1 fg (by have := Q1.out; omega)
  clear fg
  go_wp2_with (first
    | (refine wpList_load_row rfl 23 (.tmp 8) rfl br rfl 23 (CELLS R).toArray (0,0) _ hsr Tryz.underlying23 rfl (info_arr r32) ?_)
    | (refine wpList_load_row rfl 23 (.tmp 10) rfl bl rfl 23 (CELLS L).toArray (0,0) _ hsl Tryz.underlying23 rfl (info_arr l32) ?_))
  refine cc.mono ?_
  rintro e w3 ⟨rfl,hb3⟩
  have B3 : Aside (Below w1.heap.size w1 w3) := B2.out.trans (hb3.mono B2.out.size)
  clear cc hb3 hsr hsl B2
  obtain ⟨_,hsr,hsl,fg,_⟩ := K1.out w3 B3.out
  have cc := CM.out w3 g q l (K1.out w3 B3.out).1 fg (by have := Q1.out; omega)
  clear fg
  go_wp2_with (first
    | (refine load_row_if (by rfl) 23 (.tmp 8) rfl 32 5 br rfl 23 (CELLS R).toArray (0,0) hsr Tryz.underlying23 (info_arr r32) ?_)
    | (refine load_row_if (by rfl) 23 (.tmp 10) rfl 32 5 bl rfl 23 (CELLS L).toArray (0,0) hsl Tryz.underlying23 (info_arr l32) ?_))
  refine cc.mono ?_
  rintro e w4 ⟨rfl,hb4⟩
  have B4 : Aside (Below w1.heap.size w1 w4) := B3.out.trans (hb4.mono B3.out.size)
  clear cc hb4 hsr hsl B3
  obtain ⟨_,_,_,fg,fa,hmk,hg,_⟩ := K1.out w4 B4.out
  have cc := still8_ok g m q a c l (by have := HA.out.1; omega) Q1.out w4 fg fa hg hmk
  clear fg fa hmk hg
  go_wp2_with fail
  refine cc.mono ?_
  rintro e w5 ⟨rfl,hb5⟩
  have B5 : Aside (Below w1.heap.size w1 w5) := B4.out.trans (hb5.mono B4.out.size)
  clear cc hb5 B4
  rcases Nat.eq_zero_or_pos m with hm0 | hm0

  · have i2 : ¬ (0 : Int) < (m : Int) := by omega
    have Z6 : Aside (Below w.heap.size w w5 ∧ Has w5 br (CELLS R).toArray 23 ∧ Has w5 bl (CELLS L).toArray 23 ∧ Bytes w5 (some ⟨g,0,none⟩) m l) := by
      obtain ⟨k1,k2,k3,k4,_⟩ := K1.out w5 B5.out
      exact ⟨k1,k2,k3,k4⟩
    clear hm0
    go_upto_region 9 with fail
    have PS : Aside (Below w.heap.size w w5 ∧ Has w5 br (CELLS R).toArray 23 ∧ Has w5 bl (CELLS L).toArray 23 ∧ Bytes w5 (some ⟨g,0,none⟩) m l) := Z6.out
    have VK : Aside (∀ W ad q2,Below w5.heap.size w5 W → W.ownsRow w5.heap.size 5 1 (.slice ad m q2) m (CELLS l) → Calls Tryz.prog 18 #[.int .i64 d,.int .u64 (n : Int),.agg (CELLS R).toArray,.int .u64 (i : Int),.agg (CELLS L).toArray,.slice ad m q2] W fun e w' => e = .returned (.int .i64 (V l)) ∧ Below w5.heap.size w5 w') := fun W ad q2 hb ho => by
      obtain ⟨z1,z2,z3,z4⟩ := PS.out
      obtain ⟨h1,h2⟩ := own_bytes_any ho z4.2.2
      exact (CR.out W ad q2 l (z1.trans (hb.mono z1.size)) h1 h2).mono fun e w' h => ⟨h.1,hb.trans (h.2.mono hb.size)⟩
    have VC : Aside (∀ W,Below w5.heap.size w5 W → Calls Tryz.prog 19 #[.int .i64 d,.int .u64 (n : Int),.agg (CELLS R).toArray,.int .u64 (i : Int),.agg (CELLS L).toArray,.slice (some ⟨g,0,none⟩) m q] W fun e w' => e = .returned (.int .i64 (V l)) ∧ Below w5.heap.size w5 w' ∧ Below W.heap.size W w') := fun W hb => by
      obtain ⟨z1,z2,z3,z4⟩ := PS.out
      exact (CM.out W g q l (z1.trans (hb.mono z1.size)) (z4.below hb) (by have := Q1.out; omega)).mono fun e w' h => ⟨h.1,hb.trans (h.2.mono hb.size),h.2⟩
    have VA : Aside (∀ W,Below w5.heap.size w5 W → Calls Tryz.prog 10 #[] W fun e w' => e = .returned (.bool true) ∧ Below w5.heap.size w5 w') := fun W hb => by
      obtain ⟨z1,z2,z3,z4⟩ := PS.out
      exact (CA.out W (z1.trans (hb.mono z1.size))).mono fun e w' h => ⟨h.1,hb.trans (h.2.mono hb.size)⟩
    refine verifyPrefixes9 _ d n i br bl g m q w5.heap.size R L l (V l) r32 l32 (by have := HA.out.1; omega) (fun W => Below w5.heap.size w5 W) (Below.refl _ _).drew (fun W h => ⟨has_range (PS.out.2.1.keep h),has_range (PS.out.2.2.1.keep h)⟩) (fun W h => h.size) (fun W h => PS.out.2.2.2.below h) (fun W ob h => h.alloc h.size ob) (fun W W' z h hgr hz => h.grown hgr h.size hz) VC.out VK.out VA.out (fun _ _ _ _ _ h => h) ?_
    intro _ _ _ w7 hb7
    have FN : Aside (Below w.heap.size w w7) := PS.out.1.trans (hb7.mono PS.out.1.size)
    clear hb7
    go_wp2_with fail
    go_ret
    exact ⟨rfl,FN.out⟩
  · have i2 : (0 : Int) < (m : Int) := by omega
    obtain ⟨_,_,_,_,_,_,_,og⟩ := K1.out w5 B5.out
    obtain ⟨u8,f8,_,_⟩ := own_put8l og (j := m - 1) (v := .int .u8 0) (by omega)
    rw [CELLS_get l (m - 1) (by have := HA.out.2.1.1; omega)] at u8
    have SB : Aside (m - 1 < m) := by show m - 1 < m; omega
    clear og hm0
    generalize l.getD (m - 1) 0 = x at *
    go_upto_region 9 with fail
    obtain ⟨w6,e6⟩ : ∃ w6,w5.setCell ⟨g,m - 1,none⟩ (.int .u8 (bits .xor .u8 x 1)) = w6 := ⟨_,rfl⟩
    rw [e6]
    have Z6 : Aside (Below w.heap.size w w6 ∧ Has w6 br (CELLS R).toArray 23 ∧ Has w6 bl (CELLS L).toArray 23 ∧ Bytes w6 (some ⟨g,0,none⟩) m (l.set (m - 1) (bits .xor .u8 x 1))) := by
      obtain ⟨k1,k2,k3,k4,_,_,k7,k8⟩ := K1.out w5 B5.out
      have hgb := (k8.lt g rfl).1
      obtain ⟨_,_,o6,_⟩ := own_put8l k8 (j := m - 1) (v := .int .u8 (bits .xor .u8 x 1)) SB.out
      rw [e6, ← CELLS_set] at o6
      refine ⟨?_, ?_, ?_,(own_bytes_any o6 (range_set k4.2.2 (xor8_range x 1))).1⟩
      · rw [← e6]
        exact k1.setCell (p := ⟨g,m - 1,none⟩) (by have := M1.out.1; show w.heap.size ≤ g; omega) _
      · rw [← e6]
        exact k2.other (a := ⟨g,m - 1,none⟩) (by have := M1.out.2.1; show br ≠ g; omega) _
      · rw [← e6]
        exact k3.other (a := ⟨g,m - 1,none⟩) (by have := M1.out.2.2; show bl ≠ g; omega) _
    clear e6 u8 f8
    generalize l.set (m - 1) (bits .xor .u8 x 1) = K6 at *
    have PS : Aside (Below w.heap.size w w6 ∧ Has w6 br (CELLS R).toArray 23 ∧ Has w6 bl (CELLS L).toArray 23 ∧ Bytes w6 (some ⟨g,0,none⟩) m K6) := Z6.out
    have VK : Aside (∀ W ad q2,Below w6.heap.size w6 W → W.ownsRow w6.heap.size 5 1 (.slice ad m q2) m (CELLS K6) → Calls Tryz.prog 18 #[.int .i64 d,.int .u64 (n : Int),.agg (CELLS R).toArray,.int .u64 (i : Int),.agg (CELLS L).toArray,.slice ad m q2] W fun e w' => e = .returned (.int .i64 (V K6)) ∧ Below w6.heap.size w6 w') := fun W ad q2 hb ho => by
      obtain ⟨z1,z2,z3,z4⟩ := PS.out
      obtain ⟨h1,h2⟩ := own_bytes_any ho z4.2.2
      exact (CR.out W ad q2 K6 (z1.trans (hb.mono z1.size)) h1 h2).mono fun e w' h => ⟨h.1,hb.trans (h.2.mono hb.size)⟩
    have VC : Aside (∀ W,Below w6.heap.size w6 W → Calls Tryz.prog 19 #[.int .i64 d,.int .u64 (n : Int),.agg (CELLS R).toArray,.int .u64 (i : Int),.agg (CELLS L).toArray,.slice (some ⟨g,0,none⟩) m q] W fun e w' => e = .returned (.int .i64 (V K6)) ∧ Below w6.heap.size w6 w' ∧ Below W.heap.size W w') := fun W hb => by
      obtain ⟨z1,z2,z3,z4⟩ := PS.out
      exact (CM.out W g q K6 (z1.trans (hb.mono z1.size)) (z4.below hb) (by have := Q1.out; omega)).mono fun e w' h => ⟨h.1,hb.trans (h.2.mono hb.size),h.2⟩
    have VA : Aside (∀ W,Below w6.heap.size w6 W → Calls Tryz.prog 10 #[] W fun e w' => e = .returned (.bool true) ∧ Below w6.heap.size w6 w') := fun W hb => by
      obtain ⟨z1,z2,z3,z4⟩ := PS.out
      exact (CA.out W (z1.trans (hb.mono z1.size))).mono fun e w' h => ⟨h.1,hb.trans (h.2.mono hb.size)⟩
    refine verifyPrefixes9 _ d n i br bl g m q w6.heap.size R L K6 (V K6) r32 l32 (by have := HA.out.1; omega) (fun W => Below w6.heap.size w6 W) (Below.refl _ _).drew (fun W h => ⟨has_range (PS.out.2.1.keep h),has_range (PS.out.2.2.1.keep h)⟩) (fun W h => h.size) (fun W h => PS.out.2.2.2.below h) (fun W ob h => h.alloc h.size ob) (fun W W' z h hgr hz => h.grown hgr h.size hz) VC.out VK.out VA.out (fun _ _ _ _ _ h => h) ?_
    intro _ _ _ w7 hb7
    have FN : Aside (Below w.heap.size w w7) := PS.out.1.trans (hb7.mono PS.out.1.size)
    clear hb7
    go_wp2_with fail
    go_ret
    exact ⟨rfl,FN.out⟩

theorem verifyPrefixes_walk (d : Int) (n : Nat) (R : List Int) (i : Nat) (L : List Int) (a : Option Addr) (m c : Nat) (l : List Int) (w : World) (hn : n < 2 ^ 64) (hR1 : R.length = 32) (hR2 : ∀ x ∈ R,0 ≤ x ∧ x ≤ 255) (hi : i < 2 ^ 64) (hL1 : L.length = 32) (hL2 : ∀ x ∈ L,0 ≤ x ∧ x ≤ 255) (hB : Bytes w a m l) (hc : a = none → c = 0) (hmc : m ≤ c) (hT : Tabled w) (hX : HX.Tabled w) (h0 : 2 < w.heap.size) :
    Calls Tryz.prog 5 #[.int .i64 d,.int .u64 (n : Int),.agg (CELLS R).toArray,.int .u64 (i : Int),.agg (CELLS L).toArray,.slice a m c] w fun e w' => e = .returned (.bool true) ∧ Below w.heap.size w w' := by
  by_cases h : m ≤ 9600
  · exact prefixes_core d n hn R ⟨hR1,hR2⟩ i hi L ⟨hL1,hL2⟩ a m c h hc hmc l w hB hT hX h0
  · exact prefixes_long d n R i L a m c (by omega) w
end Go.Proofs.YtkcfhgflgkejoaaGreatDoor

/- What the card's row gives the walks of layer 3: spots that came in; the table of math/bits. -/
namespace Go.Proofs.YtkcfhgflgkejoaaGreatDoor
open Go.ChangeShapes Go.WideShapes Go.ChangeAt Go.WideMaps Go.WideElems Go.RowKit
set_option maxRecDepth 100000

theorem own : ownKnob Tryz.prog.godebug = none := by kernel_rfl
theorem laidOut : laidOutB Tryz.prog = true := by kernel_rfl
theorem gTab : Tryz.prog.globalNamed "math/bits.deBruijn64tab" = some 0 := by kernel_rfl
theorem tTab : (Tryz.prog.globals[0]?).map (·.type) = some 137 := by kernel_rfl
theorem tabData {H : Type} : (Rows.laid_math_bits_deBruijn64tab : DataW H) = .agg (TAB.map fun n => .lit (.int .u8 (n : Nat))) := rfl
end Go.Proofs.YtkcfhgflgkejoaaGreatDoor

/- What the card's row gives the walks of layer 7: hashes, lists of hashes, proofs and bytes that came in. -/
namespace Go.Proofs.YtkcfhgflgkejoaaGreatDoor
open Go.ChangeShapes Go.WideShapes Go.ChangeAt Go.WideMaps Go.WideElems Go.RowKit Go.Deep
set_option maxRecDepth 100000

/-- one hash, by its cells. -/
theorem open_hash {H : Type} {enc : TypeId × Value → H} {W : World} {fuel : Nat} {cs : List Value} {x : DataW H × List MemPlace} (hf : DataW.trod enc Tryz.prog W 0 (fun _ => true) true fuel 23 cs = some x) : ∃ h : List Int,h.length = 32 ∧ (∀ x ∈ h,0 ≤ x ∧ x ≤ 255) ∧ cs = CELLS h := by
  obtain ⟨xs,m,rfl,_,hl,hn,hel⟩ := DataW.trod_array Tryz.underlying23 hf
  have c5 : Tryz.prog.cellsOf 5 = 1 := by kernel_rfl
  have c32 : Tryz.prog.cellsOf 23 = 32 := by kernel_rfl
  rw [c32] at hl
  have hx : ∀ i,i < 32 → ∃ k : Int,cs[i]? = some (.int .u8 k) ∧ 0 ≤ k ∧ k ≤ 255 := fun i hi => by
    have h0 := hel i hi
    rw [List.getElem?_eq_getElem (by omega),c5,Nat.mul_one] at h0
    obtain ⟨k,e1,_,e3⟩ := DataW.trod_int Tryz.underlying5 h0
    have hb := bounds_u8 e3
    refine ⟨k, ?_,by omega,by omega⟩
    have := congrArg (fun l => l[0]?) e1
    simpa using this
  have F : ∃ f : Nat → Int, ∀ i,i < 32 → cs[i]? = some (.int .u8 (f i)) ∧ 0 ≤ f i ∧ f i ≤ 255 := by
    refine ⟨fun i => if hi : i < 32 then (hx i hi).choose else 0,fun i hi => ?_⟩
    simp only [hi,dif_pos]
    exact (hx i hi).choose_spec
  obtain ⟨f,hf1⟩ := F
  refine ⟨(List.range 32).map f,by simp,fun x hx => ?_, ?_⟩
  · simp only [List.mem_map,List.mem_range] at hx
    obtain ⟨i,hi,rfl⟩ := hx
    exact (hf1 i hi).2
  · apply List.ext_getElem?
    intro i
    by_cases hi : i < 32
    · rw [(hf1 i hi).1,CELLS_get _ i (by simp; exact hi),List.getD_eq_getElem?_getD,List.getElem?_map,List.getElem?_range hi]
      rfl
    · rw [List.getElem?_eq_none (by omega),List.getElem?_eq_none (by simp [CELLS]; omega)]
/-- a hash that came in. -/
theorem open_one {H : Type} {enc : TypeId × Value → H} {W : World} {r : Reach} {b0 : Nat} {v : Value} {d : DataW H} {ps : List MemPlace} (hval : Value.okWide Tryz.prog W r b0 23 v) (hd : DataW.Trod enc Tryz.prog W 0 (fun _ => true) true 23 v d ps) : ∃ h : List Int,h.length = 32 ∧ (∀ x ∈ h,0 ≤ x ∧ x ≤ 255) ∧ v = .agg (CELLS h).toArray := by
  simp only [Value.okWide,Tryz.underlying23] at hval
  obtain ⟨cs,rfl,hsz,_⟩ := hval
  obtain ⟨fuel,hf⟩ := hd
  obtain ⟨h,h1,h2,h3⟩ := open_hash hf
  refine ⟨h,h1,h2, ?_⟩
  congr 1
  apply Array.ext'
  simpa [Value.cells] using h3
/-- a list of bytes that came in. -/
theorem open_text {H : Type} {enc : TypeId × Value → H} {W : World} {a : Option Addr} {len cap : Nat} {d : DataW H} {ps : List MemPlace} (hd : DataW.Trod enc Tryz.prog W 0 (fun _ => true) true 25 (.slice a len cap) d ps) :
    ∃ l : List Int,Bytes W a len l ∧ (a = none → cap = 0) ∧ len ≤ cap := by
  obtain ⟨fuel,hf⟩ := hd
  rcases open_ints Tryz.underlying25 Tryz.underlying5 (by kernel_rfl) hf with ⟨hcs,_⟩ | ⟨x,l,c,zs,hcs,_,hl,hm,hz,hx,hcell,hwz⟩
  · simp [Value.cells] at hcs
    obtain ⟨rfl,rfl,rfl⟩ := hcs
    exact ⟨[],⟨rfl,fun h => by omega,by simp⟩,fun _ => rfl,Nat.le_refl _⟩
  · simp [Value.cells] at hcs
    obtain ⟨rfl,rfl,rfl⟩ := hcs
    have hr : IsRow .u8 W (some x) len cap zs := .inr ⟨_,rfl,hl,hm,by simpa using hz,hcell,hwz⟩
    exact ⟨_,hr.bytes,(fun e => by cases e),hl⟩
end Go.Proofs.YtkcfhgflgkejoaaGreatDoor

/- What the card's row gives the walks: arrays and slices of bytes that came in; the two tables. -/
namespace Go.Proofs.YtkcfhgflgkejoaaGreatDoor.HX
set_option maxRecDepth 100000
open Go.ChangeShapes Go.WideShapes Go.ChangeAt Go.WideMaps Go.WideElems Go.RowKit

theorem own : ownKnob Tryz.prog.godebug = none := by kernel_rfl
theorem laidOut : laidOutB Tryz.prog = true := by kernel_rfl
theorem gRounds : Tryz.prog.globalNamed "massif/hash.rounds" = some 2 := by kernel_rfl
theorem gBegin : Tryz.prog.globalNamed "massif/hash.begin" = some 1 := by kernel_rfl
theorem tRounds : (Tryz.prog.globals[2]?).map (·.type) = some 150 := by kernel_rfl
theorem tBegin : (Tryz.prog.globals[1]?).map (·.type) = some 148 := by kernel_rfl
theorem roundsData {H : Type} : (Rows.laid_massif_hash_rounds : DataW H) = .agg (KLIST.map fun n => .lit (.int .u32 (n : Nat))) := rfl
theorem beginData {H : Type} : (Rows.laid_massif_hash_begin : DataW H) = .agg (BEGIN.map fun n => .lit (.int .u32 (n : Nat))) := rfl

/-- a slice of bytes that came in. -/
theorem open_text {H : Type} {enc : TypeId × Value → H} {W : World} {a : Option Addr} {len cap : Nat} {d : DataW H} {ps : List MemPlace} (hd : DataW.Trod enc Tryz.prog W 0 (fun _ => true) true 25 (.slice a len cap) d ps) :
    ∃ l : List Nat,Text W a len l ∧ (a = none → cap = 0) := by
  have hr : ∃ zs,IsRow .u8 W a len cap zs := by
    obtain ⟨fuel,hf⟩ := hd
    rcases open_ints Tryz.underlying25 Tryz.underlying5 (by kernel_rfl) hf with ⟨hcs,_⟩ | ⟨x,l,c,zs,hcs,_,hl,hm,hz,hx,hcell,hwz⟩
    · simp [Value.cells] at hcs
      obtain ⟨rfl,rfl,rfl⟩ := hcs
      exact ⟨[],.inl ⟨rfl,rfl,rfl,rfl⟩⟩
    · simp [Value.cells] at hcs
      obtain ⟨rfl,rfl,rfl⟩ := hcs
      exact ⟨zs,.inr ⟨_,rfl,hl,hm,by simpa using hz,hcell,hwz⟩⟩
  obtain ⟨zs,hr⟩ := hr
  have hb := hr.bytes
  have e : INTS ((zs.take len).map Int.toNat) = zs.take len := by
    unfold INTS
    rw [List.map_map]
    conv => rhs; rw [← List.map_id (zs.take len)]
    apply List.map_congr_left
    intro x hx
    have := hb.2.2 x hx
    simp
    omega
  refine ⟨(zs.take len).map Int.toNat,Text.of_bytes (by rw [e]; exact hb),fun h => ?_⟩
  rcases hr with ⟨_,_,h3,_⟩ | ⟨x,h1,_⟩
  · exact h3
  · rw [h] at h1
    cases h1
theorem table_at {H : Type} {enc : TypeId × Value → H} {W : World} {base fuel n : Nat} {sp : Nat → Bool} {held : Bool} {t : TypeId} {cs : List Value} {ps : List MemPlace} (L : List Nat) (hL : L.length = n) (ht : Tryz.prog.underlying t = some (.array n 147))
    (hd : DataW.trod enc Tryz.prog W base sp held fuel t cs = some (.agg (L.map fun n => .lit (.int .u32 (n : Nat))),ps)) (i : Nat) (hi : i < n) : cs[i]? = some (.int .u32 (L.getD i 0 : Nat)) := by
  obtain ⟨xs,m1,rfl,hx1,hlen,hn,hel⟩ := DataW.trod_array ht hd
  have c5 : Tryz.prog.cellsOf 147 = 1 := by kernel_rfl
  simp only [Prod.mk.injEq,DataW.agg.injEq] at hx1
  have hx := hx1.1
  have h0 := hel i hi
  have hi' : i < xs.length := by omega
  rw [List.getElem?_eq_getElem hi',c5,Nat.mul_one] at h0
  obtain ⟨k,e1,e2,_⟩ := DataW.trod_int Tryz.underlying147 h0
  have hk : (k : Int) = ((L.getD i 0 : Nat) : Int) := by
    have hz := congrArg (fun l => l[i]?) hx
    have hT : i < L.length := by omega
    simp only [List.getElem?_map,List.getElem?_eq_getElem hi',List.getElem?_eq_getElem hT,Option.map_some,e2] at hz
    simp at hz
    rw [List.getD_eq_getElem?_getD,List.getElem?_eq_getElem hT]
    simpa using hz.symm
  rw [← hk]
  have := congrArg (fun l => l[0]?) e1
  simpa using this
end Go.Proofs.YtkcfhgflgkejoaaGreatDoor.HX

/- What the card's row gives a walk of chapter 8: the three tables. -/
namespace Go.Proofs.YtkcfhgflgkejoaaGreatDoor
open Go.ChangeShapes Go.WideShapes Go.ChangeAt Go.WideMaps Go.WideElems Go.RowKit
set_option maxRecDepth 100000

theorem of_laid3 {W : World} (h : laidMetH Tryz.prog [("math/bits.deBruijn64tab",Rows.laid_math_bits_deBruijn64tab),("massif/hash.begin",Rows.laid_massif_hash_begin),("massif/hash.rounds",Rows.laid_massif_hash_rounds)] W) : Tabled W ∧ HX.Tabled W ∧ 2 < W.heap.size := by
  rw [MakeChecks.laidMetH_plain _ _ _ (by kernel_rfl)] at h
  obtain ⟨ps,⟨g0,t0,cs0,f0,p0,q0,hg0,ht0,hv0,hd0,⟨g1,t1,cs1,f1,p1,q1,hg1,ht1,hv1,hd1,⟨g2,t2,cs2,f2,p2,q2,hg2,ht2,hv2,hd2,_,_⟩,_⟩,_⟩,_,_⟩ := h
  obtain rfl := Option.some.inj (gTab.symm.trans hg0)
  obtain rfl := Option.some.inj (tTab.symm.trans ht0)
  obtain rfl := Option.some.inj (HX.gBegin.symm.trans hg1)
  obtain rfl := Option.some.inj (HX.tBegin.symm.trans ht1)
  obtain rfl := Option.some.inj (HX.gRounds.symm.trans hg2)
  obtain rfl := Option.some.inj (HX.tRounds.symm.trans ht2)
  rw [HX.beginData] at hd1
  rw [HX.roundsData] at hd2
  have A : ∀ i,i < 8 → W.cell? ⟨1,i,none⟩ = some (.int .u32 (HX.BEGIN.getD i 0 : Nat)) := fun i hi => (World.var?_cell hg1 hv1 i).trans (Array.getElem?_toList.symm.trans (HX.table_at HX.BEGIN rfl Tryz.underlying148 hd1 i hi))
  have B : ∀ i,i < 64 → W.cell? ⟨2,i,none⟩ = some (.int .u32 (HX.KC i : Nat)) := fun i hi => (World.var?_cell hg2 hv2 i).trans (Array.getElem?_toList.symm.trans (HX.table_at HX.KLIST rfl Tryz.underlying150 hd2 i hi))
  obtain ⟨xs,m1,rfl,hx1,hlen,hn,hel⟩ := DataW.trod_array Tryz.underlying137 hd0
  have c5 : Tryz.prog.cellsOf 5 = 1 := by kernel_rfl
  simp only [Prod.mk.injEq] at hx1
  have hx := hx1.1
  rw [tabData] at hx
  simp only [DataW.agg.injEq] at hx
  have T : Tabled W := fun i hi => by
    have h0 := hel i hi
    have hi' : i < xs.length := by omega
    rw [List.getElem?_eq_getElem hi',c5,Nat.mul_one] at h0
    obtain ⟨k,e1,e2,_⟩ := DataW.trod_int Tryz.underlying5 h0
    have hk : (k : Int) = ((TAB.getD i 0 : Nat) : Int) := by
      have hz := congrArg (fun l => l[i]?) hx
      have hT : i < TAB.length := hi
      simp only [List.getElem?_map,List.getElem?_eq_getElem hi',List.getElem?_eq_getElem hT,Option.map_some,e2] at hz
      simp at hz
      rw [List.getD_eq_getElem?_getD,List.getElem?_eq_getElem hT]
      simpa using hz.symm
    have hv := World.var?_cell hg0 hv0 i
    rw [hv, ← hk]
    have := congrArg (fun l => l[0]?) e1
    simp at this
    simpa using this
  have z0 : 0 < W.heap.size := World.block_lt_of_cell? W _ (T 0 (by decide))
  have z1 : 1 < W.heap.size := World.block_lt_of_cell? W _ (A 0 (by decide))
  have z2 : 2 < W.heap.size := World.block_lt_of_cell? W _ (B 0 (by decide))
  exact ⟨T,⟨B,A,by omega⟩,by omega⟩
end Go.Proofs.YtkcfhgflgkejoaaGreatDoor

/- A proof of one leaf that came in. -/
namespace Go.Proofs.YtkcfhgflgkejoaaGreatDoor
open Go.ChangeShapes Go.WideShapes Go.ChangeAt Go.WideMaps Go.WideElems Go.RowKit Go.Deep
set_option maxRecDepth 100000

end Go.Proofs.YtkcfhgflgkejoaaGreatDoor
