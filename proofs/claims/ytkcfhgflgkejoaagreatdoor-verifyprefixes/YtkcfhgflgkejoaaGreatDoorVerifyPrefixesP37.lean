/- Texts of VerifyPrefixes, one behind the other: VerifyRefPrefix, VerifyLast8, VerifyJoinsPick, HashFast. -/
import Derived.Test.YtkcfhgflgkejoaaGreatDoorVerifyPrefixesP15
import Derived.Test.YtkcfhgflgkejoaaGreatDoorVerifyPrefixesP17
import Derived.Test.YtkcfhgflgkejoaaGreatDoorVerifyPrefixesP27
import Derived.Test.YtkcfhgflgkejoaaGreatDoorVerifyPrefixesP32
import Derived.Test.YtkcfhgflgkejoaaGreatDoorVerifyPrefixesP33
import Derived.Test.YtkcfhgflgkejoaaGreatDoorVerifyPrefixesP36
/- What the document's Prefix answers: what the program's does. -/
namespace Go.Proofs.YtkcfhgflgkejoaaGreatDoor
open Go.RowKit
set_option maxRecDepth 100000

set_option maxHeartbeats 4000000 in
theorem refbag8_zero (d : Int) (a : Option Addr) (c : Nat) (w : World) :
    Calls Tryz.prog 22 #[.int .i64 d,.int .u64 ((0 : Nat) : Int),.slice a 0 c] w fun e w' => e = .returned (.tuple #[.agg (CELLS (ROOTH d 0 ZND)).toArray,.int .i64 0]) ∧ Below w.heap.size w w' := by
  obtain ⟨w0,hw0⟩ : ∃ w0,w.alloc (.cells ZARR 23) = w0 := ⟨_,rfl⟩
  have hb0 : Below w.heap.size w w0 := by rw [← hw0]; exact (Below.refl _ _).alloc (Nat.le_refl _) _
  have h40 : Has w0 w.heap.size (CELLS ZND).toArray 23 := by rw [← hw0, ← ZARR_eq]; exact Has.new w _ _
  have co := tops8_ok 0 (by omega) w0
  rw [show PC 0 = 0 from rfl] at co
  have CR : Aside (∀ W,Calls Tryz.prog 47 #[.int .i64 d,.int .u64 0,.agg (CELLS ZND).toArray] W fun e w' => e = .returned (.agg (CELLS (ROOTH d 0 ZND)).toArray) ∧ Below W.heap.size W w') := fun W => refrooth_ok d 0 (by omega) ZND ZND_is W
  have hYH : IsH (ROOTH d 0 ZND) := ROOTH_is _ _ _
  generalize ROOTH d 0 ZND = Y at *
  have y32 := hYH.1
  have R0 : Aside (Below w.heap.size w w0 ∧ Has w0 w.heap.size (CELLS ZND).toArray 23) := ⟨hb0,h40⟩
  clear hb0 h40 hYH
  go_enter Tryz.func22,Tryz.ntmps22
  go_upto_region 1 with fail
  go_wp2_with fail
  refine co.mono ?_
  rintro e w1 ⟨a1,c1,rfl,_,hb1⟩
  have R1 : Aside (Below w.heap.size w w1 ∧ Has w1 w.heap.size (CELLS ZND).toArray 23) := ⟨R0.out.1.trans (hb1.mono R0.out.1.size),R0.out.2.keep hb1⟩
  clear co hb1 R0 hw0
  have cr := CR.out w1
  go_wp2_with fail
  refine cr.mono ?_
  rintro e w2 ⟨rfl,hb2⟩
  have h42 := R1.out.2.keep hb2
  have hb3 : Below w.heap.size w w2 := R1.out.1.trans (hb2.mono R1.out.1.size)
  clear hb2 R1 cr CR
  go_wp2_with (refine wpList_store_row rfl 23 (.tmp 6) (.tmp 25) rfl _ _ rfl rfl 23 _ h42 (info_arr y32) (by simp [CELLS,y32]; rfl) (cells_one Y) ?_)
  refine bodyPost_ret (v := .tuple #[.agg (CELLS Y).toArray,.int .i64 0]) (results_two rfl _ _ w.heap.size 23 _ (0,0) _ _ _ rfl rfl (Has.row h42 _) Tryz.underlying23 (info_arr y32)) rfl ⟨rfl,below_row hb3 (Nat.le_refl _) _⟩
theorem refbag8_any (d : Int) (n : Nat) (hn : n ≤ 4611686018427387904) (a : Option Addr) (k c : Nat) (hk : k = PC n) (l : List Int) (w : World) (hF : Flat w a k l) :
    Calls Tryz.prog 22 #[.int .i64 d,.int .u64 (n : Int),.slice a k c] w fun e w' => e = .returned (.tuple #[.agg (CELLS (ROOTH d n (FLD d l k))).toArray,.int .i64 0]) ∧ Below w.heap.size w w' := by
  by_cases h0 : k = 0
  · have hn0 : n = 0 := PC_eq_zero (by omega)
    subst h0 hn0
    have e : FLD d l 0 = ZND := by unfold FLD; rw [if_pos rfl]
    rw [e]
    exact refbag8_zero d a c w
  · exact refbag8_ok d n hn a k c hk h0 l w hF
theorem DEX_there {b t : List Int} (hr : ∀ x ∈ b,0 ≤ x ∧ x ≤ 255) {F S N : Nat} (hF : F < 2 ^ 64) (hS : S < 2 ^ 64) (h : DEX b = (0,F,S,N,t)) : F ≤ S ∧ S ≤ 4611686018427387904 ∧ N = (PXS F S).length := by
  obtain ⟨_,h3,h4,_⟩ := ENX_there hF hS (round_back_prefix hr h)
  have hb : F ≤ S ∧ S ≤ 4611686018427387904 := by
    unfold PPA at h3
    split at h3
    · simp at h3
    · omega
  have hPL : PPA F S = (0,PLCS (PXS F S)) := by
    unfold PPA
    rw [if_neg (by omega)]
  refine ⟨hb.1,hb.2, ?_⟩
  rw [h4,hPL]
  exact PLCS_length _
set_option maxHeartbeats 8000000 in
theorem refprefix8_ok (d : Int) (m : Nat) (r1 : List Int) (hr1 : IsH r1) (n : Nat) (r2 : List Int) (hr2 : IsH r2) (ba : Option Addr) (bn bc : Nat) (hbn : bn ≤ 1000000) (hbc : bn ≤ bc) (bl : List Int) (t : Nat) (hLW : LOWS (DEX bl).2.1 t) (w : World) (hB : Bytes w ba bn bl) (hF : (DEX bl).2.1 < 2 ^ 64) (hS : (DEX bl).2.2.1 < 2 ^ 64) :
    Calls Tryz.prog 18 #[.int .i64 d,.int .u64 (m : Int),.agg (CELLS r1).toArray,.int .u64 (n : Int),.agg (CELLS r2).toArray,.slice ba bn bc] w fun e w' => e = .returned (.int .i64 (PFXA d (JSX (DEX bl).2.1 (DEX bl).2.2.1 t) m r1 n r2 bl)) ∧ Below w.heap.size w w' := by
  have l1 := hr1.1
  have l2 := hr2.1
  obtain ⟨W0,hW0⟩ : ∃ W0,(w.alloc (.cells (CELLS r1).toArray 23)).alloc (.cells (CELLS r2).toArray 23) = W0 := ⟨_,rfl⟩
  obtain ⟨b8,hb8⟩ : ∃ b,w.heap.size = b := ⟨_,rfl⟩
  obtain ⟨b10,hb10⟩ : ∃ b,b8 + 1 = b := ⟨_,rfl⟩
  have R0 : Aside (Below w.heap.size w W0 ∧ Has W0 b8 (CELLS r1).toArray 23 ∧ Has W0 b10 (CELLS r2).toArray 23) := by
    rw [← hW0, ← hb10, ← hb8]
    exact ⟨((Below.refl _ _).alloc (Nat.le_refl _) _).alloc (by simp) _,(Has.new _ _ _).alloc _,Has.at _ _ _ (by simp)⟩
  have cd := refdecodeprefix_ok ba bn bc hbn bl W0 (hB.below R0.out.1) hbc
  have hth : (DEX bl).1 = 0 → (DEX bl).2.1 ≤ (DEX bl).2.2.1 ∧ (DEX bl).2.2.1 ≤ 4611686018427387904 ∧ (DEX bl).2.2.2.1 = (PXS (DEX bl).2.1 (DEX bl).2.2.1).length := fun h => DEX_there hB.2.2 hF hS (t := (DEX bl).2.2.2.2) (by rw [← h])
  unfold PFXA
  unfold DECF at cd
  generalize DEX bl = D at *
  obtain ⟨E,F,S,N,L⟩ := D
  dsimp only at *
  have HA : Aside (IsH r1 ∧ IsH r2 ∧ (E = 0 → F ≤ S ∧ S ≤ 4611686018427387904 ∧ N = (PXS F S).length) ∧ LOWS F t ∧ F < 2 ^ 64 ∧ S < 2 ^ 64) := ⟨hr1,hr2,hth,hLW,hF,hS⟩
  clear hr1 hr2 hbn hbc hB hth hF hS hLW
  obtain ⟨V,hV⟩ : ∃ V,(if E ≠ 0 then E else if F ≠ m then 30 else if S ≠ n then 30 else if UNDA d m (RCA d (JSX F S t) F S N L).2.1.1 (RCA d (JSX F S t) F S N L).2.1.2 r1 ≠ 0 then UNDA d m (RCA d (JSX F S t) F S N L).2.1.1 (RCA d (JSX F S t) F S N L).2.1.2 r1 else UNDA d n (RCA d (JSX F S t) F S N L).2.2.1 (RCA d (JSX F S t) F S N L).2.2.2 r2) = V := ⟨_,rfl⟩
  rw [hV]
  have HV : Aside ((¬ E = 0 → V = E) ∧ (E = 0 → ¬ F = m → V = 30) ∧ (E = 0 → F = m → ¬ S = n → V = 30) ∧ (E = 0 → F = m → S = n → V = if UNDA d m (RCA d (JSX F S t) F S N L).2.1.1 (RCA d (JSX F S t) F S N L).2.1.2 r1 ≠ 0 then UNDA d m (RCA d (JSX F S t) F S N L).2.1.1 (RCA d (JSX F S t) F S N L).2.1.2 r1 else UNDA d n (RCA d (JSX F S t) F S N L).2.2.1 (RCA d (JSX F S t) F S N L).2.2.2 r2)) := by
    rw [← hV]
    exact ⟨fun h => if_pos h,fun h h2 => by rw [if_neg (by simpa using h),if_pos h2],fun h h2 h3 => by rw [if_neg (by simpa using h),if_neg (by simpa using h2),if_pos h3],fun h h2 h3 => by rw [if_neg (by simpa using h),if_neg (by simpa using h2),if_neg (by simpa using h3)]⟩
  clear hV
  go_enter Tryz.func18,Tryz.ntmps18
  go_upto_region 1 with fail
  clear hW0
  go_wp2_with fail
  refine cd.mono ?_
  rintro e w1 ⟨a1,c1,rfl,f1,hb1,_,k1,k2⟩
  have R1 : Aside (Below w.heap.size w w1 ∧ Has w1 b8 (CELLS r1).toArray 23 ∧ Has w1 b10 (CELLS r2).toArray 23 ∧ Flat w1 a1 N L ∧ N ≤ c1 ∧ (a1 = none → c1 = 0)) := ⟨R0.out.1.trans (hb1.mono R0.out.1.size),R0.out.2.1.keep hb1,R0.out.2.2.keep hb1,f1,k1,k2⟩
  clear cd R0 hb1 f1 hb8 hb10 k1 k2
  go_upto_region 2 with fail
  obtain ⟨w2,e2⟩ : ∃ w2,w1.alloc (.cells #[.int .u64 (F : Int),.int .u64 (S : Int),.slice a1 N c1] 34) = w2 := ⟨_,rfl⟩
  obtain ⟨b13,hb13⟩ : ∃ b13,w1.heap.size = b13 := ⟨_,rfl⟩
  rw [e2,hb13]
  have hb2 : Below w1.heap.size w1 w2 := by rw [← e2]; exact (Below.refl _ _).alloc (Nat.le_refl _) _
  have R2 : Aside (Below w.heap.size w w2 ∧ Has w2 b8 (CELLS r1).toArray 23 ∧ Has w2 b10 (CELLS r2).toArray 23 ∧ Flat w2 a1 N L ∧ Has w2 b13 #[.int .u64 (F : Int),.int .u64 (S : Int),.slice a1 N c1] 34 ∧ N ≤ c1 ∧ (a1 = none → c1 = 0)) := ⟨R1.out.1.trans (hb2.mono R1.out.1.size),R1.out.2.1.keep hb2,R1.out.2.2.1.keep hb2,R1.out.2.2.2.1.below hb2,by rw [← e2, ← hb13]; exact Has.new _ _ _,R1.out.2.2.2.2⟩
  clear e2 hb13 hb2 R1
  have hb := R2.out.1
  by_cases hE : E = 0
  · subst hE
    have p0 := R2.out.2.2.2.2.1.cell 0
    have p1 := R2.out.2.2.2.2.1.cell 1
    have p2 := R2.out.2.2.2.2.1.cell 2
    by_cases hFm : F = m
    · subst hFm
      by_cases hSn : S = n
      · subst hSn
        have hV := HV.out.2.2.2 rfl rfl rfl
        obtain ⟨t1,t2,t3⟩ := HA.out.2.2.1 rfl
        have hfew := PXS_length t1 t2
        have cc := refreach_ok d F S t HA.out.2.2.2.2.1 HA.out.2.2.2.2.2 HA.out.2.2.2.1 a1 N c1 (by omega) R2.out.2.2.2.2.2.1 R2.out.2.2.2.2.2.2 L w2 R2.out.2.2.2.1
        have hPL : PPA F S = (0,PLCS (PXS F S)) := by
          unfold PPA
          rw [if_neg (by omega)]
        have hRC : RCA d (JSX F S t) F S N L = (0,(PC F,CAT (RCM d (JSX F S t) F S L) (SPAN 0 F)),(PC S,CAT (RCM d (JSX F S t) F S L) (SPAN 0 S))) := by
          unfold RCA
          rw [hPL,if_neg (by simp),if_neg (by rw [PLCS_length]; simpa using t3)]
        have hrg := RCA_range (d := d) (js := JSX F S t) (F := F) (S := S) R2.out.2.2.2.1.1 R2.out.2.2.2.1.2.2
        rw [hRC] at cc hrg hV
        unfold ANSR at cc
        dsimp only at hrg hV cc
        generalize CAT (RCM d (JSX F S t) F S L) (SPAN 0 F) = P at *
        generalize CAT (RCM d (JSX F S t) F S L) (SPAN 0 S) = Q at *
        have hUN : ∀ z (T r : List Int),z ≤ 4611686018427387904 → UNDA d z (PC z) T r = if ROOTH d z (FLD d T (PC z)) = r then 0 else 80 := fun z T r hz => by
          have hBA : BAGA d z (PC z) T = (0,ROOTH d z (FLD d T (PC z))) := by
            unfold BAGA
            rw [if_neg (by omega),if_neg (by simp)]
          unfold UNDA
          rw [hBA]
          simp
        rw [hUN F P r1 (by omega),hUN S Q r2 t2] at hV
        have CB1 : Aside (∀ W a c,Flat W a (PC F) P → Calls Tryz.prog 22 #[.int .i64 d,.int .u64 (F : Int),.slice a (PC F) c] W fun e w' => e = .returned (.tuple #[.agg (CELLS (ROOTH d F (FLD d P (PC F)))).toArray,.int .i64 0]) ∧ Below W.heap.size W w') := fun W a c hf => refbag8_any d F (by omega) a (PC F) c rfl P W hf
        have CB2 : Aside (∀ W a c,Flat W a (PC S) Q → Calls Tryz.prog 22 #[.int .i64 d,.int .u64 (S : Int),.slice a (PC S) c] W fun e w' => e = .returned (.tuple #[.agg (CELLS (ROOTH d S (FLD d Q (PC S)))).toArray,.int .i64 0]) ∧ Below W.heap.size W w') := fun W a c hf => refbag8_any d S t2 a (PC S) c rfl Q W hf
        have hY1 : IsH (ROOTH d F (FLD d P (PC F))) := ROOTH_is _ _ _
        have hY2 : IsH (ROOTH d S (FLD d Q (PC S))) := ROOTH_is _ _ _
        generalize ROOTH d F (FLD d P (PC F)) = Y1 at *
        generalize ROOTH d S (FLD d Q (PC S)) = Y2 at *
        generalize PC F = mf at *
        generalize PC S = ms at *
        have HP : Aside ((∀ x ∈ P,0 ≤ x ∧ x ≤ 255) ∧ ∀ x ∈ Q,0 ≤ x ∧ x ≤ 255) := hrg
        have HW : Aside (V = if Y1 = r1 then (if Y2 = r2 then 0 else 80) else 80) := by
          show V = _
          rw [hV]
          by_cases h1 : Y1 = r1
          · rw [if_pos h1,if_neg (by simp),if_pos h1]
          · rw [if_neg h1,if_pos (by simp),if_neg h1]
        clear t1 t2 t3 hPL hRC hrg hUN hV HV hfew
        go_wp2_with fail
        refine cc.mono ?_
        rintro e w3 ⟨a3,c3,a4,c4,rfl,o3,o4,hb3⟩
        have R3 : Aside (Below w.heap.size w w3 ∧ Has w3 b8 (CELLS r1).toArray 23 ∧ Has w3 b10 (CELLS r2).toArray 23 ∧ Flat w3 a3 mf P ∧ Flat w3 a4 ms Q) := ⟨R2.out.1.trans (hb3.mono R2.out.1.size),R2.out.2.1.keep hb3,R2.out.2.2.1.keep hb3,own_flat o3 HP.out.1,own_flat o4 HP.out.2⟩
        clear cc o3 o4 hb3 p0 p1 p2 R2 hb HP
        have cb := CB1.out w3 a3 c3 R3.out.2.2.2.1
        have y1 := hY1.1
        have y2 := hY2.1
        go_wp2_with fail
        refine cb.mono ?_
        rintro e w4 ⟨rfl,hb4⟩
        have R4 : Aside (Below w.heap.size w w4 ∧ Has w4 b8 (CELLS r1).toArray 23 ∧ Has w4 b10 (CELLS r2).toArray 23 ∧ Flat w4 a4 ms Q) := ⟨R3.out.1.trans (hb4.mono R3.out.1.size),R3.out.2.1.keep hb4,R3.out.2.2.1.keep hb4,R3.out.2.2.2.2.below hb4⟩
        clear cb hb4 R3 CB1
        go_upto_region 8 with (refine wpList_store_row rfl 23 (.tmp 18) (.tmp 52) rfl _ _ rfl rfl 23 _ (Has.new w4 _ _) (info_arr y1) (by simp [CELLS,y1]) (cells_one Y1) ?_; rw [World.setRow_alloc_new])
        have R5 : Aside (Below w.heap.size w (w4.alloc (.cells (CELLS Y1).toArray 23)) ∧ Has (w4.alloc (.cells (CELLS Y1).toArray 23)) b8 (CELLS r1).toArray 23 ∧ Has (w4.alloc (.cells (CELLS Y1).toArray 23)) b10 (CELLS r2).toArray 23 ∧ Flat (w4.alloc (.cells (CELLS Y1).toArray 23)) a4 ms Q ∧ Has (w4.alloc (.cells (CELLS Y1).toArray 23)) w4.heap.size (CELLS Y1).toArray 23) := ⟨R4.out.1.alloc R4.out.1.size _,R4.out.2.1.alloc _,R4.out.2.2.1.alloc _,R4.out.2.2.2.below ((Below.refl _ _).alloc (Nat.le_refl _) _),Has.new _ _ _⟩
        generalize w4.alloc (.cells (CELLS Y1).toArray 23) = w5 at *
        generalize w4.heap.size = b18 at *
        clear R4
        have cb := CB2.out w5 a4 c4 R5.out.2.2.2.1
        go_wp2_with fail
        refine cb.mono ?_
        rintro e w6 ⟨rfl,hb6⟩
        have R6 : Aside (Below w.heap.size w w6 ∧ Has w6 b8 (CELLS r1).toArray 23 ∧ Has w6 b10 (CELLS r2).toArray 23 ∧ Has w6 b18 (CELLS Y1).toArray 23) := ⟨R5.out.1.trans (hb6.mono R5.out.1.size),R5.out.2.1.keep hb6,R5.out.2.2.1.keep hb6,R5.out.2.2.2.2.keep hb6⟩
        clear cb hb6 R5 CB2
        go_upto_region 9 with (refine wpList_store_row rfl 23 (.tmp 20) (.tmp 59) rfl _ _ rfl rfl 23 _ (Has.new w6 _ _) (info_arr y2) (by simp [CELLS,y2]) (cells_one Y2) ?_; rw [World.setRow_alloc_new])
        have R7 : Aside (Below w.heap.size w (w6.alloc (.cells (CELLS Y2).toArray 23)) ∧ Has (w6.alloc (.cells (CELLS Y2).toArray 23)) b8 (CELLS r1).toArray 23 ∧ Has (w6.alloc (.cells (CELLS Y2).toArray 23)) b10 (CELLS r2).toArray 23 ∧ Has (w6.alloc (.cells (CELLS Y2).toArray 23)) b18 (CELLS Y1).toArray 23 ∧ Has (w6.alloc (.cells (CELLS Y2).toArray 23)) w6.heap.size (CELLS Y2).toArray 23) := ⟨R6.out.1.alloc R6.out.1.size _,R6.out.2.1.alloc _,R6.out.2.2.1.alloc _,R6.out.2.2.2.alloc _,Has.new _ _ _⟩
        generalize w6.alloc (.cells (CELLS Y2).toArray 23) = w7 at *
        generalize w6.heap.size = b20 at *
        clear R6
        obtain ⟨_,h8,h10,h18,h20⟩ := R7.out
        have q1 := equalh hY1 HA.out.1
        have q2 := equalh hY2 HA.out.2.1
        by_cases hq1 : Y1 = r1
        · rw [decide_eq_true hq1] at q1
          by_cases hq2 : Y2 = r2
          · rw [decide_eq_true hq2] at q2
            have HZ : Aside (V = 0) := by show V = 0; rw [HW.out,if_pos hq1,if_pos hq2]
            clear hq1 hq2 HW hY1 hY2
            go_wp2_with (first
              | (refine wpList_load_row rfl 23 (.tmp 18) rfl b18 rfl 23 (CELLS Y1).toArray (0,0) _ h18 Tryz.underlying23 rfl (info_arr y1) ?_)
              | (refine wpList_load_row rfl 23 (.tmp 8) rfl b8 rfl 23 (CELLS r1).toArray (0,0) _ h8 Tryz.underlying23 rfl (info_arr l1) ?_)
              | (refine load_row_if (by rfl) 23 (.tmp 20) rfl 32 5 b20 rfl 23 (CELLS Y2).toArray (0,0) h20 Tryz.underlying23 (info_arr y2) ?_)
              | (refine load_row_if (by rfl) 23 (.tmp 10) rfl 32 5 b10 rfl 23 (CELLS r2).toArray (0,0) h10 Tryz.underlying23 (info_arr l2) ?_))
            go_ret
            exact ⟨by rw [HZ.out]; rfl,R7.out.1⟩
          · rw [decide_eq_false hq2] at q2
            have HZ : Aside (V = 80) := by show V = 80; rw [HW.out,if_pos hq1,if_neg hq2]
            clear hq1 hq2 HW hY1 hY2
            go_wp2_with (first
              | (refine wpList_load_row rfl 23 (.tmp 18) rfl b18 rfl 23 (CELLS Y1).toArray (0,0) _ h18 Tryz.underlying23 rfl (info_arr y1) ?_)
              | (refine wpList_load_row rfl 23 (.tmp 8) rfl b8 rfl 23 (CELLS r1).toArray (0,0) _ h8 Tryz.underlying23 rfl (info_arr l1) ?_)
              | (refine load_row_if (by rfl) 23 (.tmp 20) rfl 32 5 b20 rfl 23 (CELLS Y2).toArray (0,0) h20 Tryz.underlying23 (info_arr y2) ?_)
              | (refine load_row_if (by rfl) 23 (.tmp 10) rfl 32 5 b10 rfl 23 (CELLS r2).toArray (0,0) h10 Tryz.underlying23 (info_arr l2) ?_))
            go_ret
            exact ⟨by rw [HZ.out]; rfl,R7.out.1⟩
        · rw [decide_eq_false hq1] at q1
          have HZ : Aside (V = 80) := by show V = 80; rw [HW.out,if_neg hq1]
          clear hq1 HW hY1 hY2 q2
          go_wp2_with (first
            | (refine wpList_load_row rfl 23 (.tmp 18) rfl b18 rfl 23 (CELLS Y1).toArray (0,0) _ h18 Tryz.underlying23 rfl (info_arr y1) ?_)
            | (refine wpList_load_row rfl 23 (.tmp 8) rfl b8 rfl 23 (CELLS r1).toArray (0,0) _ h8 Tryz.underlying23 rfl (info_arr l1) ?_))
          go_ret
          exact ⟨by rw [HZ.out]; rfl,R7.out.1⟩
      · have hV : Aside (V = 30) := HV.out.2.2.1 rfl rfl hSn
        have hne : ((S : Int) == (n : Int)) = false := beq_eq_false_iff_ne.2 (by omega)
        clear hSn R2 HA HV
        go_wp2_with fail
        go_ret
        exact ⟨by rw [hV.out]; rfl,hb⟩
    · have hV : Aside (V = 30) := HV.out.2.1 rfl hFm
      have hne : ((F : Int) == (m : Int)) = false := beq_eq_false_iff_ne.2 (by omega)
      clear hFm R2 HA HV
      go_wp2_with fail
      go_ret
      exact ⟨by rw [hV.out]; rfl,hb⟩
  · have hV : Aside (V = E) := HV.out.1 hE
    have hne : (E == 0) = false := beq_eq_false_iff_ne.2 hE
    clear R2 HA hE HV
    go_wp2_with fail
    go_ret
    exact ⟨by rw [hV.out]; rfl,hb⟩
end Go.Proofs.YtkcfhgflgkejoaaGreatDoor

/- A list of bytes of one's own, one of them turned; numbers that were read are of 64 bits. -/
namespace Go.Proofs.YtkcfhgflgkejoaaGreatDoor
open Go.RowKit

theorem own_put8l {w : World} {B g n c j : Nat} {xs : List Value} {v : Value} (h : w.ownsRow B 5 1 (.slice (some ⟨g,0,none⟩) n c) n xs) (hj : j < n) : w.cell? ⟨g,j,none⟩ = xs[j]? ∧ w.frozen? ⟨g,j,none⟩ = false ∧ (w.setCell ⟨g,j,none⟩ v).ownsRow B 5 1 (.slice (some ⟨g,0,none⟩) n c) n (xs.set j v) ∧ w.grownBy (w.setCell ⟨g,j,none⟩ v) (Value.slice (some ⟨g,0,none⟩) n c).ownBlock :=
  ⟨h.cellAt j (by omega),h.frozenAt j,(h.stored j v).1,(h.stored j v).2⟩
theorem CELLS_set (l : List Int) (j : Nat) (x : Int) : CELLS (l.set j x) = (CELLS l).set j (.int .u8 x) := by simp [CELLS,List.map_set]
theorem range_set {l : List Int} {j : Nat} {x : Int} (h : ∀ y ∈ l,0 ≤ y ∧ y ≤ 255) (hx : 0 ≤ x ∧ x ≤ 255) : ∀ y ∈ l.set j x,0 ≤ y ∧ y ≤ 255 := fun y hy => by
  rcases List.mem_or_eq_of_mem_set hy with hy | rfl
  · exact h y hy
  · exact hx
theorem xor8_range (x y : Int) : 0 ≤ bits .xor .u8 x y ∧ bits .xor .u8 x y ≤ 255 := by
  unfold bits
  simp only [IntKind.wrap,IntKind.bits,IntKind.signed]
  simp
  omega
theorem DC0_small {K : Int} {chk : Nat → Bool} {PF : Nat → Nat → Int × List Nat} {l : List Int} (hr : ∀ x ∈ l,0 ≤ x ∧ x ≤ 255) : (DC0 K chk PF l).2.1 < 2 ^ 64 ∧ (DC0 K chk PF l).2.2.1 < 2 ^ 64 := by
  have hz : ∀ E,(DERR E).2.1 < 2 ^ 64 ∧ (DERR E).2.2.1 < 2 ^ 64 := fun E => ⟨by simp [DERR],by simp [DERR]⟩
  unfold DC0
  split
  · exact hz _
  · split
    · exact hz _
    · unfold DC1
      have hr1 : ∀ x ∈ l.drop 1,0 ≤ x ∧ x ≤ 255 := fun x hx => hr x (List.mem_of_mem_drop hx)
      generalize l.drop 1 = t at *
      split
      · exact hz _
      · rename_i h1
        obtain ⟨Z,m,hZ,_,_,e,_⟩ := LNG_back hr1 (Decidable.not_not.1 h1)
        split
        · exact hz _
        · have hr2 : ∀ x ∈ t.drop (LNG t).2.1.toNat,0 ≤ x ∧ x ≤ 255 := fun x hx => hr1 x (List.mem_of_mem_drop hx)
          have hX : (LNG t).1.toNat < 2 ^ 64 := by rw [e]; simpa using hZ
          unfold DC2
          generalize t.drop (LNG t).2.1.toNat = s at *
          split
          · exact hz _
          · rename_i h2
            obtain ⟨Z',m',hZ',_,_,e',_⟩ := LNG_back hr2 (Decidable.not_not.1 h2)
            have hY : (LNG s).1.toNat < 2 ^ 64 := by rw [e']; simpa using hZ'
            unfold DC3
            split
            · exact hz _
            · split
              · exact hz _
              · split
                · exact hz _
                · exact ⟨hX,hY⟩
theorem DEX_small {l : List Int} (hr : ∀ x ∈ l,0 ≤ x ∧ x ≤ 255) : (DEX l).2.1 < 2 ^ 64 ∧ (DEX l).2.2.1 < 2 ^ 64 := DC0_small hr
end Go.Proofs.YtkcfhgflgkejoaaGreatDoor

/- For all bytes, how many noughts the first number that they hold ends with: picked once. -/
namespace Go.Proofs.YtkcfhgflgkejoaaGreatDoor
open Go.RowKit
set_option maxRecDepth 100000

theorem lows_any (F : Nat) (hF : F < 2 ^ 64) : ∃ t,LOWS F t := by
  obtain ⟨t,h1,h2,h3,_⟩ := low_nat F hF
  exact ⟨t,h1,h2,h3⟩
theorem joins_at (F S : Nat) (hF : F < 2 ^ 64) : ∃ t,LOWS F t ∧ (F ≤ S → S ≤ 4611686018427387904 → JSOK F (S - F) (JSX F S t)) := by
  by_cases h : F ≤ S ∧ S ≤ 4611686018427387904
  · obtain ⟨t,ht,hc⟩ := joins_ok F (S - F) (by omega)
    refine ⟨t,ht,fun _ _ => ⟨Nat.le_trans (JF_length _ _ _ _) (by omega),fun i x y e => ?_,hc⟩⟩
    obtain ⟨h1,h2,h3,h4⟩ := join_at e
    have h5 : y ≤ (y + 1) * 2 ^ x := by
      have := Nat.pos_of_ne_zero (n := 2 ^ x) (by simp)
      calc y ≤ y + 1 := by omega
        _ = (y + 1) * 1 := by omega
        _ ≤ (y + 1) * 2 ^ x := Nat.mul_le_mul_left _ this
    exact ⟨by omega,by omega,by omega⟩
  · obtain ⟨t,ht⟩ := lows_any F hF
    exact ⟨t,ht,fun h1 h2 => absurd ⟨h1,h2⟩ h⟩
theorem joins_pick : ∃ TS : List Int → Nat, ∀ K,(∀ x ∈ K,0 ≤ x ∧ x ≤ 255) → LOWS (DEX K).2.1 (TS K) ∧ ((DEX K).2.1 ≤ (DEX K).2.2.1 → (DEX K).2.2.1 ≤ 4611686018427387904 → JSOK (DEX K).2.1 ((DEX K).2.2.1 - (DEX K).2.1) (JSX (DEX K).2.1 (DEX K).2.2.1 (TS K))) := by
  have h : ∀ K : List Int, ∃ t,(∀ x ∈ K,0 ≤ x ∧ x ≤ 255) → LOWS (DEX K).2.1 t ∧ ((DEX K).2.1 ≤ (DEX K).2.2.1 → (DEX K).2.2.1 ≤ 4611686018427387904 → JSOK (DEX K).2.1 ((DEX K).2.2.1 - (DEX K).2.1) (JSX (DEX K).2.1 (DEX K).2.2.1 t)) := fun K => by
    by_cases hr : ∀ x ∈ K,0 ≤ x ∧ x ≤ 255
    · obtain ⟨t,ht⟩ := joins_at (DEX K).2.1 (DEX K).2.2.1 (DEX_small hr).1
      exact ⟨t,fun _ => ht⟩
    · exact ⟨0,fun h => absurd h hr⟩
  exact Classical.axiomOfChoice h
end Go.Proofs.YtkcfhgflgkejoaaGreatDoor

/- One step of the hash reckoned out by the kernel from lists: the words, the states eight rounds apart. -/
namespace Go.Proofs.YtkcfhgflgkejoaaGreatDoor.HX
open Go.RowKit
set_option maxRecDepth 100000

/-- are these the words of a block? -/
def SCHK (b : Nat → Nat) (L : List Nat) : Bool := (List.range 16).all (fun t => L.getD t 0 == WORDAT b (4 * t)) && (List.range 48).all (fun k => L.getD (16 + k) 0 == (SPILL 17 19 10 (L.getD (14 + k) 0) + L.getD (9 + k) 0 + SPILL 7 18 3 (L.getD (1 + k) 0) + L.getD k 0) % 4294967296)
theorem SCHK_ok {b : Nat → Nat} {L : List Nat} (h : SCHK b L = true) : ∀ t,t < 64 → SCH b t = L.getD t 0 := by
  unfold SCHK at h
  rw [Bool.and_eq_true,List.all_eq_true,List.all_eq_true] at h
  obtain ⟨h1,h2⟩ := h
  intro t
  induction t using Nat.strongRecOn with
  | ind t ih =>
    intro ht
    by_cases h16 : t < 16
    · have := h1 t (List.mem_range.2 h16)
      rw [SCH_first b t h16]
      exact (beq_iff_eq.1 this).symm
    · obtain ⟨k,rfl⟩ : ∃ k,t = 16 + k := ⟨t - 16,by omega⟩
      have := h2 k (List.mem_range.2 (by omega))
      rw [SCH_next b k (by omega),ih (14 + k) (by omega) (by omega),ih (9 + k) (by omega) (by omega),ih (1 + k) (by omega) (by omega),ih k (by omega) (by omega)]
      exact (beq_iff_eq.1 this).symm
/-- eight rounds. -/
def R8 (L : List Nat) (t : Nat) (S : ST) : ST := RND (KC (t + 7)) (L.getD (t + 7) 0) (RND (KC (t + 6)) (L.getD (t + 6) 0) (RND (KC (t + 5)) (L.getD (t + 5) 0) (RND (KC (t + 4)) (L.getD (t + 4) 0) (RND (KC (t + 3)) (L.getD (t + 3) 0) (RND (KC (t + 2)) (L.getD (t + 2) 0) (RND (KC (t + 1)) (L.getD (t + 1) 0) (RND (KC t) (L.getD t 0) S)))))))
theorem R8_run {x : Nat → Nat} {L : List Nat} (hx : ∀ t,t < 64 → x t = L.getD t 0) (s : ST) (t : Nat) (ht : t + 8 ≤ 64) : RUN x s (t + 8) = R8 L t (RUN x s t) := by
  unfold R8
  rw [← hx t (by omega), ← hx (t + 1) (by omega), ← hx (t + 2) (by omega), ← hx (t + 3) (by omega), ← hx (t + 4) (by omega), ← hx (t + 5) (by omega), ← hx (t + 6) (by omega), ← hx (t + 7) (by omega)]
  rfl
theorem run_fast {x : Nat → Nat} {L : List Nat} (hx : ∀ t,t < 64 → x t = L.getD t 0) {s s0 s1 s2 s3 s4 s5 s6 s7 s8 : ST} (h0 : s = s0) (h1 : R8 L 0 s0 = s1) (h2 : R8 L 8 s1 = s2) (h3 : R8 L 16 s2 = s3) (h4 : R8 L 24 s3 = s4) (h5 : R8 L 32 s4 = s5) (h6 : R8 L 40 s5 = s6) (h7 : R8 L 48 s6 = s7) (h8 : R8 L 56 s7 = s8) : RUN x s 64 = s8 := by
  rw [R8_run hx s 56 (by decide),R8_run hx s 48 (by decide),R8_run hx s 40 (by decide),R8_run hx s 32 (by decide),R8_run hx s 24 (by decide),R8_run hx s 16 (by decide),R8_run hx s 8 (by decide),R8_run hx s 0 (by decide),RUN,h0,h1,h2,h3,h4,h5,h6,h7,h8]
theorem comp_fast (s b : Nat → Nat) (L : List Nat) (s0 s1 s2 s3 s4 s5 s6 s7 s8 : ST) (O : List Nat) (hL : SCHK b L = true) (h0 : STOF s = s0) (h1 : R8 L 0 s0 = s1) (h2 : R8 L 8 s1 = s2) (h3 : R8 L 16 s2 = s3) (h4 : R8 L 24 s3 = s4) (h5 : R8 L 32 s4 = s5) (h6 : R8 L 40 s5 = s6) (h7 : R8 L 48 s6 = s7) (h8 : R8 L 56 s7 = s8)
    (hO : (List.range 32).map (NARROW 32 (BYTEW fun i => (WORDAT s (4 * i) + s8.at i) % 4294967296)) = O) : (List.range 32).map (COMP 32 s b) = O := by
  rw [← hO]
  have h := run_fast (SCHK_ok hL) h0 h1 h2 h3 h4 h5 h6 h7 h8
  unfold COMP
  have e : OUTW s b = fun i => (WORDAT s (4 * i) + s8.at i) % 4294967296 := funext fun i => by rw [OUTW,h]
  rw [e]
end Go.Proofs.YtkcfhgflgkejoaaGreatDoor.HX
