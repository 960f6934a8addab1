/- Texts of CarryEvents, one behind the other: CarryTexts, CarryEncode, ProofHashPlain, CarryHashes. -/
import Derived.Deep.RegionLaw
import Derived.Laws.CopyOwn
import Derived.Test.YtkpgbhokoohimaaDoorCarryEventsP2
import Derived.Test.YtkpgbhokoohimaaDoorCarryEventsP7
import Derived.Test.YtkpgbhokoohimaaDoorCarryEventsP8
import Derived.Test.YtkpgbhokoohimaaDoorCarryEventsP24
/- Lists of their own that go on behind what they hold (chapter 12). -/
namespace Go.Proofs.YtkpgbhokoohimaaDoor
open Go.RowKit
set_option maxRecDepth 100000

set_option maxHeartbeats 1000000 in
theorem text12_ok (a : Option Addr) (n c : Nat) (hn : n ≤ 1000000) (hc : a = none → c = 0) (l : List Int) (w : World) (hB : Bytes w a n l) : Calls Tryd.prog 9 #[.slice a n c] w (TEXTED w n l) := by
  have HA : Aside (n ≤ 1000000 ∧ (a = none → c = 0) ∧ Bytes w a n l) := ⟨hn,hc,hB⟩
  clear hn hc hB
  go_enter Tryd.func9,Tryd.ntmps9
  go_wp2_with (at_builtin; first
    | (refine app_any _ rfl (.tmp 3) (.tmp 4) rfl w.heap.size (.slice (some ⟨w.heap.size,0,none⟩) 0 0) 0 [] rfl (own_empty w _ (Nat.le_refl _)) a n c l rfl (HA.out.2.2.below ((Below.refl _ _).alloc (Nat.le_refl _) _)) HA.out.2.1 n l (Nat.zero_add n) rfl (by have := HA.out.1; omega) (by simp) ?_; intro a1 c1 w1 hown1 hgrow1
       have R1 : Aside (w1.ownsRow w.heap.size 5 1 (.slice a1 n c1) n (CELLS l) ∧ Below w.heap.size w w1) := ⟨hown1,((Below.refl _ w).alloc (Nat.le_refl _) _).grown hgrow1 (by simp) (fun k e => by cases e; exact Nat.le_refl _)⟩
       clear hown1 hgrow1)
    | (refine app_u8 _ rfl (.tmp 5) (.tmp 6) rfl w.heap.size (.slice a1 n c1) n l rfl (R1.out.1.alloc _) w1.heap.size 0 1 1 [171] rfl (one_bytes w1 171 (by decide) (by decide)) (by decide) (by have := HA.out.1; omega) (by have := R1.out.2.size; simp; omega) ?_; intro g2 c2 w2 hown2 hgrow2 hg2
       obtain ⟨f1,f2,f3⟩ := own_front hown2 HA.out.2.2.1
       have hcap : (n : Int) ≤ (c2 : Int) := by omega
       have R2 : Aside (w2.ownsRow w.heap.size 5 1 (.slice (some ⟨g2,0,none⟩) n c2) n (CELLS l) ∧ n + 1 ≤ c2 ∧ w2.cell? ⟨g2,n,none⟩ = some (.int .u8 171) ∧ g2 < w2.heap.size ∧ Below w.heap.size w w2) := ⟨f1,f2,f3,hg2,(R1.out.2.alloc R1.out.2.size _).grown hgrow2 (by have := R1.out.2.size; simp; omega) (fun k e => (R1.out.1.lt k e).1)⟩
       clear hown2 hgrow2 hg2 f1 f2 f3))
  go_ret
  exact ⟨_,_,rfl,R2.out⟩
set_option maxHeartbeats 1000000 in
theorem row12_ok (a : Option Addr) (n c : Nat) (hn : n ≤ 1000) (hc : a = none → c = 0) (l : List Int) (w : World) (hF : Flat w a n l) : Calls Tryd.prog 4 #[.slice a n c] w (ROWED w n l) := by
  have HA : Aside (n ≤ 1000 ∧ (a = none → c = 0) ∧ Flat w a n l) := ⟨hn,hc,hF⟩
  clear hn hc hF
  go_enter Tryd.func4,Tryd.ntmps4
  go_wp2_with (first
    | (at_builtin; refine app_hashes _ rfl (.tmp 3) (.tmp 4) rfl w.heap.size (.slice (some ⟨w.heap.size,0,none⟩) 0 0) 0 [] rfl (own_empty32 w) a n c l rfl (HA.out.2.2.below ((Below.refl _ _).alloc (Nat.le_refl _) _)) HA.out.2.1 (by have := HA.out.1; omega) (by simp) ?_; rw [Nat.zero_add,List.nil_append]; intro a1 c1 w1 hown1 hgrow1
       have R1 : Aside (w1.ownsRow w.heap.size 24 32 (.slice a1 n c1) n (CELLS l) ∧ Below w.heap.size w w1) := ⟨hown1,((Below.refl _ w).alloc (Nat.le_refl _) _).grown hgrow1 (by simp) (fun k e => by cases e; exact Nat.le_refl _)⟩
       clear hown1 hgrow1)
    | (rw [← MRK_arr]; refine build_one _ rfl 25 24 (.tmp 6) rfl (CELLS MRK).toArray rfl 32 _ _ Tryd.underlying25 info_hashv (by rfl) rfl (by decide) (by decide) ?_)
    | (at_builtin; refine app_hash _ rfl (.tmp 5) (.tmp 7) rfl w.heap.size (.slice a1 n c1) n (CELLS l) rfl (R1.out.1.alloc _) w1.heap.size 1 MRK rfl rfl (Has.new _ _ _) (by have := HA.out.1; omega) (by have := R1.out.2.size; simp; omega) ?_; intro g2 c2 w2 hown2 hgrow2 hat2 hg2
       obtain ⟨f1,f2,f3,f4⟩ := own_front32 hown2 HA.out.2.2.1 rfl
       have hcap : (n : Int) ≤ (c2 : Int) := by omega
       have R2 : Aside (w2.ownsRow w.heap.size 24 32 (.slice (some ⟨g2,0,none⟩) n c2) n (CELLS l) ∧ n + 1 ≤ c2 ∧ w2.rangeAt g2 (n * 32) (CELLS MRK) ∧ g2 < w2.heap.size ∧ Below w.heap.size w w2) := ⟨f1,f2,f3,f4,(R1.out.2.alloc R1.out.2.size _).grown hgrow2 (by have := R1.out.2.size; simp; omega) (fun k e => (R1.out.1.lt k e).1)⟩
       clear hown2 hgrow2 hat2 hg2 f1 f2 f3 f4))
  go_ret
  exact ⟨_,_,rfl,R2.out⟩
end Go.Proofs.YtkpgbhokoohimaaDoor

/- An event in bytes. -/
namespace Go.Proofs.YtkpgbhokoohimaaDoor
open Go.RowKit
set_option maxRecDepth 100000

/-- what EncodeEvent answers. -/
def EVE (X n : Nat) (leaf l : List Int) : Int × List Int := if 4611686018427387904 ≤ X then (30, []) else if n ≠ POP X then (70, []) else (0, [69] ++ SHORT X ++ leaf ++ l)
theorem event_leaf {w : World} {be X : Nat} {leaf : List Int} {v : Value} (h : Has w be (EVT X leaf v) 27) (hl : IsH leaf) : Bytes w (some ⟨be,1,none⟩) 32 leaf := by
  have hr := (EVT_at h hl.1).2.1
  refine ⟨hl.1,fun _ => ⟨be,1,rfl,h.lt,fun i hi => ?_⟩,hl.2⟩
  exact hr i _ (CELLS_get leaf i (by rw [hl.1]; exact hi))
set_option maxHeartbeats 4000000 in
theorem encodeevent_ok (X : Nat) (hX : X < 2 ^ 64) (leaf : List Int) (hleaf : IsH leaf) (a : Option Addr) (n c : Nat) (hn : n ≤ 1000) (l : List Int) (w : World) (hF : Flat w a n l) :
    Calls Tryd.prog 6 #[.agg (EVT X leaf (.slice a n c))] w (ANSB w (EVE X n leaf l)) := by
  obtain ⟨W0,hW0⟩ : ∃ W0,w.alloc (.cells (EVT X leaf (.slice a n c)) 27) = W0 := ⟨_,rfl⟩
  obtain ⟨be,hbe⟩ : ∃ be,w.heap.size = be := ⟨_,rfl⟩
  have R0 : Aside (Below w.heap.size w W0 ∧ Has W0 be (EVT X leaf (.slice a n c)) 27) := by
    rw [← hW0, ← hbe]
    exact ⟨(Below.refl _ _).alloc (Nat.le_refl _) _,Has.new _ _ _⟩
  have VE : Aside (∀ W,Below W0.heap.size W0 W → W.cell? ⟨be,33,none⟩ = some (.slice a n c) ∧ W.cell? ⟨be,0,none⟩ = some (.int .u64 (X : Int)) ∧ Bytes W (some ⟨be,1,none⟩) 32 leaf ∧ Below w.heap.size w W ∧ Flat W a n l) := fun W hb => by
    have h := R0.out.2.keep hb
    have h2 := EVT_at h hleaf.1
    have h3 := R0.out.1.trans (hb.mono R0.out.1.size)
    exact ⟨h2.2.2,h2.1,event_leaf h hleaf,h3,hF.below h3⟩
  have CO : Aside (∀ W,Calls Tryd.prog 20 #[.int .u64 (X : Int)] W fun e w' => e = .returned (.int .i64 ((POP X : Nat) : Int)) ∧ W = w') := fun W => ones_ok X hX W
  have CS := short_ok X hX
  have HV : Aside ((4611686018427387904 ≤ X → EVE X n leaf l = (30, [])) ∧ (¬ 4611686018427387904 ≤ X → n ≠ POP X → EVE X n leaf l = (70, [])) ∧ (¬ 4611686018427387904 ≤ X → n = POP X → EVE X n leaf l = (0, [69] ++ SHORT X ++ leaf ++ l))) := by
    unfold EVE
    exact ⟨fun h => if_pos h,fun h h2 => by rw [if_neg h,if_pos h2],fun h h2 => by rw [if_neg h,if_neg (by simpa using h2)]⟩
  have hl1 := SHORT_length X
  have h91 := NTOP_le X
  have hr1 := SHORT_range hX
  generalize EVE X n leaf l = V at *
  generalize SHORT X = SX at *
  have hn1 : 0 < NTOP X + 1 := by omega
  have hm1 : NTOP X + 1 ≤ 10 := by omega
  clear h91
  generalize NTOP X + 1 = nx at *
  have HA : Aside (Flat w a n l ∧ n ≤ 1000 ∧ SX.length = nx ∧ nx ≤ 10 ∧ (∀ x ∈ SX,0 ≤ x ∧ x ≤ 255) ∧ leaf.length = 32) := ⟨hF,hn,hl1,hm1,hr1,hleaf.1⟩
  have y0 := (VE.out W0 (Below.refl _ _)).2.1
  clear hF hn hl1 hm1 hr1 hX hleaf
  generalize POP X = K at *
  generalize EVT X leaf (.slice a n c) = VV at *
  by_cases h1 : 4611686018427387904 ≤ X
  · have i1 : (4611686018427387904 : Int) ≤ (X : Int) := by omega
    have FN : Aside (V = (30, []) ∧ Below w.heap.size w W0) := ⟨HV.out.1 h1,R0.out.1⟩
    clear h1 HV R0 VE CO CS HA
    go_enter Tryd.func6,Tryd.ntmps6
    go_wp2
    go_ret2
    rw [FN.out.1]
    exact ⟨_,rfl,nil_bytes' _ _,FN.out.2⟩
  · have i1 : ¬ (4611686018427387904 : Int) ≤ (X : Int) := by omega
    go_enter Tryd.func6,Tryd.ntmps6
    go_upto_region 3 with fail
    clear hW0 hbe y0
    refine encev3 _ be X K a n c _ rfl (fun W => Below W0.heap.size W0 W) (Below.refl _ _).drew (fun W hb => ⟨(VE.out W hb).1,(VE.out W hb).2.1⟩) (fun W hb => (CO.out W).mono fun e w' h => ⟨h.1,h.2 ▸ hb⟩) (fun _ _ _ _ _ h => h) ?_
    intro w1 hb1
    by_cases h2 : n = K
    · have h2' : ((n : Int) != (K : Int)) = false := by simp [h2]
      have HN : Aside (V = (0, [69] ++ SX ++ leaf ++ l)) := HV.out.2.2 h1 h2
      rw [h2']
      clear h1 h2 h2' HV CO
      have y0 := (VE.out w1 hb1).2.1
      have R1 : Aside ((w1.alloc (.cells #[.int .u8 69] 5)).ownsRow W0.heap.size 5 1 (.slice (some ⟨w1.heap.size,0,none⟩) 1 1) 1 (CELLS [69]) ∧ Below W0.heap.size W0 (w1.alloc (.cells #[.int .u8 69] 5))) := ⟨own_mono (own_one w1 69) hb1.size,hb1.alloc hb1.size _⟩
      obtain ⟨g0,hg0⟩ : ∃ g0,w1.heap.size = g0 := ⟨_,rfl⟩
      have y0' := (VE.out _ R1.out.2).2.1
      rw [hg0] at R1
      clear hb1
      go_wp2_with fail
      clear hg0 y0 y0'
      generalize w1.alloc (.cells #[.int .u8 69] 5) = w2 at *
      refine (CS _).mono ?_
      rintro e w3 ⟨g,cap,rfl,hown,hg,hb⟩
      clear CS
      have R2 : Aside (w3.ownsRow W0.heap.size 5 1 (.slice (some ⟨g0,0,none⟩) 1 1) 1 (CELLS [69]) ∧ Below W0.heap.size W0 w3 ∧ Bytes w3 (some ⟨g,0,none⟩) nx SX) := ⟨own_below R1.out.1 hb,R1.out.2.trans (hb.mono R1.out.2.size),own_bytes hown hg HA.out.2.2.2.2.1⟩
      clear hown hg hb R1
      go_upto_region 6 with (at_builtin; refine app_u8 _ rfl (.tmp 17) (.tmp 20) rfl W0.heap.size _ 1 [69] rfl R2.out.1 g 0 nx cap SX rfl R2.out.2.2 hn1 (by have := HA.out.2.2.2.1; omega) R2.out.2.1.size ?_; intro g4 cap4 w4 hown hgrow hg)
      have R3 : Aside (w4.ownsRow W0.heap.size 5 1 (.slice (some ⟨g4,0,none⟩) (1 + nx) cap4) (1 + nx) (CELLS ([69] ++ SX)) ∧ Below W0.heap.size W0 w4) := ⟨hown,R2.out.2.1.grown hgrow R2.out.2.1.size (fun k e => (R2.out.1.lt k e).1)⟩
      clear hown hgrow hg R2
      have hLf := (VE.out w4 R3.out.2).2.2.1
      go_upto_region 7 with (at_builtin; refine app_u8 _ rfl (.tmp 22) (.tmp 24) rfl W0.heap.size _ (1 + nx) ([69] ++ SX) rfl R3.out.1 be 1 32 32 leaf rfl hLf (by decide) (by have := HA.out.2.2.2.1; omega) R3.out.2.size ?_; intro g5 cap5 w5 hown hgrow hg)
      have R4 : Aside (w5.ownsRow W0.heap.size 5 1 (.slice (some ⟨g5,0,none⟩) (1 + nx + 32) cap5) (1 + nx + 32) (CELLS ([69] ++ SX ++ leaf)) ∧ Below W0.heap.size W0 w5) := ⟨hown,R3.out.2.grown hgrow R3.out.2.size (fun k e => (R3.out.1.lt k e).1)⟩
      clear hown hgrow hg R3 hLf
      have HP : Aside (1 + nx + 32 ≤ 43) := by
        have := HA.out.2.2.2.1
        show 1 + nx + 32 ≤ 43
        omega
      have y2 := (VE.out w5 R4.out.2).1
      generalize [69] ++ SX ++ leaf = PRE at *
      generalize 1 + nx + 32 = np at *
      go_wp2_with fail
      clear y2
      go_loopg [4,29] n (fun q s4 s29 wx => ∃ i : Nat,s29 = .int .i64 (i : Int) ∧ Aside (i + q = n ∧ wx.ownsRow W0.heap.size 5 1 s4 (np + 32 * i) (CELLS (PRE ++ l.take (32 * i))) ∧ Below W0.heap.size W0 wx))
      case atStart => exact ⟨0,rfl,by omega,by simpa using R4.out.1,R4.out.2⟩
      case round =>
        obtain ⟨i,rfl,A⟩ := hrel
        clear R4
        cases gk with
        | zero =>
          obtain ⟨hi,hown,hbel⟩ := A.out
          obtain rfl : i = n := by omega
          have hlt : ¬ (i : Int) < (i : Int) := by omega
          have R : Aside (wr.ownsRow w.heap.size 5 1 u4 (PRE ++ l).length (CELLS (PRE ++ l)) ∧ Below w.heap.size w wr) := by
            rw [List.take_of_length_le (by have := HA.out.1.1; omega)] at hown
            have := own_len hown
            rw [← this] at hown
            exact ⟨own_mono hown R0.out.1.size,(VE.out wr hbel).2.2.2.1⟩
          clear hi hown hbel A HA HP VE R0
          go_wp2
          go_ret2
          rw [HN.out]
          exact ⟨_,rfl,R.out.1,R.out.2⟩
        | succ q =>
          obtain ⟨hi,hown,hbel⟩ := A.out
          have a1 := (VE.out wr hbel).2.2.2.2
          have a2 := HA.out.2.1
          have hlt : (i : Int) < (n : Int) := by omega
          obtain ⟨b,o,rfl,hbl,hc⟩ := a1.2.1 (by omega)
          have hat := a1.at (show i < n by omega)
          have h32 := HSH_length a1.1 (show i < n by omega)
          have hrr : ∀ x ∈ HSH l i,0 ≤ x ∧ x ≤ 255 := fun x hx => a1.2.2 x (HSH_mem hx)
          have hnx := HSH_next l i
          have e1 : wrap64 ((i : Int) + 1) = ((i + 1 : Nat) : Int) := by unfold wrap64; omega
          have R : Aside (i + 1 + q = n ∧ n ≤ 1000 ∧ np ≤ 43 ∧ wr.ownsRow W0.heap.size 5 1 u4 (np + 32 * i) (CELLS (PRE ++ l.take (32 * i))) ∧ Below W0.heap.size W0 wr ∧ (HSH l i).length = 32 ∧ (∀ x ∈ HSH l i,0 ≤ x ∧ x ≤ 255) ∧ PRE ++ l.take (32 * (i + 1)) = PRE ++ l.take (32 * i) ++ HSH l i) := ⟨by omega,a2,HP.out,hown,hbel,h32,hrr,by rw [hnx,List.append_assoc]⟩
          generalize HSH l i = H at *
          clear hi hown hbel a1 a2 hbl hc hrr hnx A HA HP VE R0
          go_wp2_with (first
            | (refine wpList_load_mid rfl 24 (.tmp 31) rfl b (o + i * 32) rfl (CELLS H) _ hat Tryd.underlying24 rfl (info_cells h32) ?_)
            | (refine wpList_store_row rfl 24 (.tmp 6) (.tmp 32) rfl _ _ rfl rfl 24 _ (Has.new wr _ _) (info_arr h32) (by simp [CELLS,h32]) (cells_one H) ?_; rw [World.setRow_alloc_new])
            | (at_builtin; refine app_u8 _ rfl (.tmp 33) (.tmp 34) rfl W0.heap.size u4 (np + 32 * i) _ rfl (R.out.2.2.2.1.alloc _) wr.heap.size 0 32 32 H rfl (box_bytes wr R.out.2.2.2.2.2.1 R.out.2.2.2.2.2.2.1 _) (by omega) (by have := R.out; omega) (by have := R.out.2.2.2.2.1.size; simp; omega) ?_; intro g6 cap6 w6 hown hgrow hg))
          have R2 : Aside (i + 1 + q = n ∧ w6.ownsRow W0.heap.size 5 1 (.slice (some ⟨g6,0,none⟩) (np + 32 * i + 32) cap6) (np + 32 * (i + 1)) (CELLS (PRE ++ l.take (32 * (i + 1)))) ∧ Below W0.heap.size W0 w6) := by
            obtain ⟨r1,r2,r3,r4,r5,r6,r7,r8⟩ := R.out
            refine ⟨r1, ?_,(r5.alloc r5.size _).grown hgrow (by have := r5.size; simp; omega) (fun k e => (r4.lt k e).1)⟩
            rw [r8,show np + 32 * (i + 1) = np + 32 * i + 32 by omega]
            exact hown
          clear hown hgrow hg R hat h32
          go_wp2
          go_roundg q
          case measure => omega
          case rel => exact ⟨i + 1,by first | rfl | (rw [e1]),R2.out⟩
    · have h2' : ((n : Int) != (K : Int)) = true := by simp; omega
      have FN : Aside (V = (70, []) ∧ Below w.heap.size w w1) := ⟨HV.out.2.1 h1 h2,(VE.out w1 hb1).2.2.2.1⟩
      rw [h2']
      clear h1 h2 h2' HV R0 VE CO CS HA hb1
      go_wp2_with fail
      go_ret2
      rw [FN.out.1]
      exact ⟨_,rfl,nil_bytes' _ _,FN.out.2⟩
end Go.Proofs.YtkpgbhokoohimaaDoor

/- A list of hashes that is made, and filled node by node. -/
namespace Go.Proofs.YtkpgbhokoohimaaDoor
open Go.RowKit
set_option maxRecDepth 100000

theorem info_hashz : (Tryd.prog.info? 24).map (fun i => (i.size,i.bytes,i.zero.isSome)) = some (32,32,true) := by kernel_rfl
theorem make_hashes (N : Nat) (hN : N ≤ 1000) (w : World) : ∃ Z : List Value,Z.length = 32 * N ∧ (Instr.makeSlice 25 (.int .i64 (N : Int)) (.int .i64 (N : Int))).run Tryd.prog w = .ok (.slice (some ⟨w.heap.size,0,none⟩) N N) (w.alloc (.cells Z.toArray 24)) := by
  obtain ⟨i,hi,h⟩ := Option.map_eq_some_iff.1 info_hashz
  simp only [Prod.mk.injEq] at h
  obtain ⟨h1,h2,h3⟩ := h
  obtain ⟨z,hz⟩ := Option.isSome_iff_exists.1 h3
  have h := run_make (P := Tryd.prog) w 25 24 i z Tryd.underlying25 hi hz .i64 .i64 N N (by omega) (by omega) (by rw [h2]; omega) (by omega)
  refine ⟨(madeCells z.cells (N * i.size)).toList, ?_, ?_⟩
  · rw [Array.length_toList,size_madeCells,h1]
    omega
  · simpa using h
/-- the first i nodes are there. -/
def PARTH (l : List Int) (Z : List Value) (i : Nat) : List Value := CELLS (l.take (32 * i)) ++ Z.drop (32 * i)
theorem PARTH_zero (l : List Int) (Z : List Value) : PARTH l Z 0 = Z := by simp [PARTH,CELLS]
theorem PARTH_all {l : List Int} {Z : List Value} {N : Nat} (hl : l.length = 32 * N) (hZ : Z.length = 32 * N) : PARTH l Z N = CELLS l := by
  unfold PARTH
  rw [List.take_of_length_le (by omega),List.drop_of_length_le (by omega),List.append_nil]
theorem PARTH_length {l : List Int} {Z : List Value} {N i : Nat} (hl : l.length = 32 * N) (hZ : Z.length = 32 * N) (hi : i ≤ N) : (PARTH l Z i).length = 32 * N := by
  unfold PARTH
  rw [List.length_append,List.length_drop,CELLS,List.length_map,List.length_take]
  omega
theorem PARTH_next {l : List Int} (Z : List Value) {N i : Nat} (hl : l.length = 32 * N) (hi : i < N) : splice (PARTH l Z i) (i * 32) (CELLS (HSH l i)) = PARTH l Z (i + 1) := by
  have h1 : (CELLS (l.take (32 * i))).length = i * 32 := by
    rw [CELLS,List.length_map,List.length_take]
    omega
  have h2 : (CELLS (HSH l i)).length = 32 := by
    rw [CELLS,List.length_map]
    exact HSH_length hl hi
  unfold splice PARTH
  rw [List.take_append_of_le_length (by omega),List.take_of_length_le (by omega),HSH_next,CELLS_append,h2,List.append_assoc]
  congr 2
  rw [List.drop_append,List.drop_of_length_le (by omega),List.nil_append,h1,List.drop_drop]
  congr 1
  omega
end Go.Proofs.YtkpgbhokoohimaaDoor

/- The hashes that bytes hold (package carry). -/
namespace Go.Proofs.YtkpgbhokoohimaaDoor
open Go.RowKit
set_option maxRecDepth 100000

theorem chashes_cut (N n c : Nat) (a : Option Addr) (hN : N ≤ 1000) (hn : n < 32 * N) (w : World) :
    Calls Tryd.prog 26 #[.slice a n c,.int .i64 (N : Int)] w fun e w' => e = .returned (.tuple #[.slice none 0 0,.int .i64 11]) ∧ w = w' := by
  have e1 : wrap64 ((N : Int) * 32) = (N : Int) * 32 := by unfold wrap64; omega
  have h1 : (n : Int) < (N : Int) * 32 := by omega
  clear hN hn
  go_enter Tryd.func26,Tryd.ntmps26
  go_wp2
  go_ret2
  exact ⟨rfl,rfl⟩
theorem chashes_tail (N n c : Nat) (a : Option Addr) (hN : N ≤ 1000) (hn : 32 * N < n) (w : World) :
    Calls Tryd.prog 26 #[.slice a n c,.int .i64 (N : Int)] w fun e w' => e = .returned (.tuple #[.slice none 0 0,.int .i64 13]) ∧ w = w' := by
  have e1 : wrap64 ((N : Int) * 32) = (N : Int) * 32 := by unfold wrap64; omega
  have h1 : ¬ (n : Int) < (N : Int) * 32 := by omega
  have h2 : (N : Int) * 32 < (n : Int) := by omega
  clear hN hn
  go_enter Tryd.func26,Tryd.ntmps26
  go_wp2
  go_ret2
  exact ⟨rfl,rfl⟩
set_option maxHeartbeats 4000000 in
theorem chashes_ok (N c : Nat) (a : Option Addr) (hN : N ≤ 1000) (l : List Int) (w : World) (hB : Bytes w a (32 * N) l) (hc : 32 * N ≤ c) :
    Calls Tryd.prog 26 #[.slice a (32 * N) c,.int .i64 (N : Int)] w fun e w' => e = .returned (.tuple #[.slice (some ⟨w.heap.size,0,none⟩) N N,.int .i64 0]) ∧ Below w.heap.size w w' ∧ w.heap.size < w'.heap.size ∧ Has w' w.heap.size (CELLS l).toArray 24 := by
  have e1 : wrap64 ((N : Int) * 32) = (N : Int) * 32 := by unfold wrap64; omega
  have k1 : ¬ ((32 * N : Nat) : Int) < (N : Int) * 32 := by omega
  have k2 : ¬ (N : Int) * 32 < ((32 * N : Nat) : Int) := by omega
  obtain ⟨M,hM⟩ : ∃ M,32 * N = M := ⟨_,rfl⟩
  rw [hM] at k1 k2 hB hc ⊢
  obtain ⟨Z,hZ,hmk⟩ := make_hashes N hN w
  have HA : Aside (l.length = 32 * N ∧ Z.length = 32 * N ∧ N ≤ 1000 ∧ 32 * N = M ∧ M ≤ c ∧ Bytes w a M l) := ⟨by rw [hM]; exact hB.1,hZ,hN,hM,hc,hB⟩
  clear hN hZ hB hc hM
  go_enter Tryd.func26,Tryd.ntmps26
  go_wp2
  clear e1 hmk
  go_loopg [22] N (fun q s22 wx => ∃ i : Nat,s22 = .int .i64 (i : Int) ∧ Aside (i + q = N ∧ Below w.heap.size w wx ∧ w.heap.size < wx.heap.size ∧ Has wx w.heap.size (PARTH l Z i).toArray 24))
  case atStart => exact ⟨0,rfl,by omega,(Below.refl _ _).alloc (Nat.le_refl _) _,by simp,by rw [PARTH_zero]; exact Has.new _ _ _⟩
  case round =>
    obtain ⟨i,rfl,A⟩ := hrel
    obtain ⟨hi,hbel,hsz,hhas⟩ := A.out
    obtain ⟨a1,a2,a3,a4,a5,a6⟩ := HA.out
    cases gk with
    | zero =>
      obtain rfl : i = N := by omega
      have hlt : ¬ (i : Int) < (i : Int) := by omega
      have R : Aside (Below w.heap.size w wr ∧ w.heap.size < wr.heap.size ∧ Has wr w.heap.size (CELLS l).toArray 24) := by
        rw [PARTH_all a1 a2] at hhas
        exact ⟨hbel,hsz,hhas⟩
      clear hi hbel hsz hhas a1 a2 a3 a4 a5 a6 A HA
      go_wp2
      go_ret2
      exact ⟨rfl,R.out⟩
    | succ q =>
      have hlt : (i : Int) < (N : Int) := by omega
      obtain ⟨b,o,rfl,hbl,hcs⟩ := a6.2.1 (by omega)
      obtain ⟨I,hI⟩ : ∃ I,i * 32 = I := ⟨_,rfl⟩
      have m2 : (I : Int) ≤ (M : Int) := by omega
      have m3 : (M : Int) ≤ (c : Int) := by omega
      have m4 : ¬ c = I := by omega
      have h32 : (CELLS (HSH l i)).length = 32 := by
        rw [CELLS,List.length_map]
        exact HSH_length a1 (by omega)
      have hsrc : ∀ j v,(CELLS (HSH l i))[j]? = some v → wr.cell? ((⟨b,o + I,none⟩ : Addr).add j) = some v := by
        intro j v hv
        have hj : j < 32 := by
          have := (List.getElem?_eq_some_iff.1 hv).1
          omega
        rw [CELLS_get _ _ (by rw [HSH_length a1 (by omega)]; exact hj),HSH_at hj] at hv
        rw [addr_add,show o + I + j = o + (32 * i + j) by omega]
        exact ((hbel.cell (p := ⟨b,o + (32 * i + j),none⟩) hbl).trans (hcs (32 * i + j) (by omega))).trans hv
      have hpl := PARTH_length a1 a2 (show i ≤ N by omega)
      have hnx := PARTH_next Z a1 (show i < N by omega)
      have hone := CELLS_one (HSH l i)
      have R : Aside (i + 1 + q = N ∧ Below w.heap.size w wr ∧ w.heap.size < wr.heap.size ∧ Has wr w.heap.size (PARTH l Z i).toArray 24 ∧ splice (PARTH l Z i) (i * 32) (CELLS (HSH l i)) = PARTH l Z (i + 1)) := ⟨by omega,hbel,hsz,hhas,hnx⟩
      have S : Aside ((CELLS (HSH l i)).length = Nat.min (M - I) 32 ∧ i * 32 + (CELLS (HSH l i)).length ≤ (PARTH l Z i).length) := ⟨by rw [h32]; exact (Nat.min_eq_right (show 32 ≤ M - I by omega)).symm,by omega⟩
      have E2 : Aside (wrap64 ((i : Int) * 32) = (I : Int)) := by show wrap64 ((i : Int) * 32) = (I : Int); unfold wrap64; omega
      have E3 : Aside (IntKind.i64.wrap ((i : Int) * 32) = (I : Int)) := by show IntKind.i64.wrap ((i : Int) * 32) = (I : Int); rw [IntKind.wrap_i64]; omega
      have E1 : Aside (wrap64 ((i : Int) + 1) = ((i + 1 : Nat) : Int)) := by show wrap64 ((i : Int) + 1) = ((i + 1 : Nat) : Int); unfold wrap64; omega
      clear hi hbel hsz hhas a1 a2 a3 a4 a5 a6 A HA hbl hcs hpl hnx hI
      generalize CELLS (HSH l i) = H at *
      have hu8 : (Tryd.prog.info? 5).map (·.size) = some 1 := by kernel_rfl
      have m1 := E2.out
      have m5 := E3.out
      go_wp2
      go_region_law (refine step_copy_splice rfl (.tmp 28) (.tmp 32) 28 28 rfl 5 Tryd.underlying28 hu8 (some ⟨w.heap.size,i * 32,none⟩) (some ⟨b,o + I,none⟩) 32 32 (M - I) (c - I) (by simp [Act.eval,Act.put]) (by simp [Act.eval,Act.put]) w.heap.size (i * 32) (PARTH l Z i) 24 (by exact R.out.2.2.2.1) H S.out.1 (fun _ => ⟨rfl,_,rfl,hsrc⟩) S.out.2 hone w.heap.size w (by exact R.out.2.1.drew) (Nat.le_refl _) ?_; intro w4 hg4 hb4)
      have R2 : Aside (i + 1 + q = N ∧ Below w.heap.size w w4 ∧ w.heap.size < w4.heap.size ∧ Has w4 w.heap.size (PARTH l Z (i + 1)).toArray 24) := by
        obtain ⟨r1,r2,r3,r4,r5⟩ := R.out
        have hg5 : w4.heap[w.heap.size]? = some (.cells (splice (PARTH l Z i) (i * 32) H).toArray 24 (0,0)) := hg4
        rw [r5] at hg5
        exact ⟨r1,hb4,(Array.getElem?_eq_some_iff.1 hg5).1,hg5⟩
      clear R S hg4 hb4 hsrc hone h32 m1 m5
      have e1 := E1.out
      go_wp2
      go_roundg q
      case measure => exact Nat.lt_succ_self _
      case rel => exact ⟨i + 1,by first | rfl | (rw [E1.out]),R2.out⟩
end Go.Proofs.YtkpgbhokoohimaaDoor
