/- Texts of CarryEvents, one behind the other: CarryGrow. -/
import Derived.Test.YtkpgbhokoohimaaDoorCarryEventsP6
import Derived.Test.YtkpgbhokoohimaaDoorCarryEventsP19
/- What an append does to a carry's forest. -/
namespace Go.Proofs.YtkpgbhokoohimaaDoor
open Go.RowKit
set_option maxRecDepth 100000

theorem not_u64 (S : Nat) (hS : S < 2 ^ 64) : bits .xor .u64 (if IntKind.u64.signed = true then -1 else IntKind.u64.max) (S : Int) = ((18446744073709551615 - S : Nat) : Int) := by
  have h1 : BitVec.ofInt 64 (if IntKind.u64.signed = true then -1 else IntKind.u64.max) = BitVec.allOnes 64 := by decide
  show IntKind.u64.wrap ((BitVec.ofInt 64 (if IntKind.u64.signed = true then -1 else IntKind.u64.max) ^^^ BitVec.ofInt 64 (S : Int)).toNat : Int) = _
  rw [h1,BitVec.allOnes_xor,BitVec.toNat_not,BitVec.ofInt_natCast,BitVec.toNat_ofNat,Nat.mod_eq_of_lt hS,IntKind.wrap_u64]
  omega
theorem w64_small (n : Nat) (h : n ≤ 1000) : wrap64 (n : Int) = (n : Int) := by unfold wrap64; omega
theorem own_has {w : World} {B g : Nat} {l : List Int} (h : Has w g (CELLS l).toArray 24) (hB : B ≤ g) (hl : l.length = 32) : w.ownsRow B 24 32 (.slice (some ⟨g,0,none⟩) (0 + 1) 1) (0 + 1) (CELLS l) :=
  ⟨by simp [CELLS,hl],.inr ⟨g,1,_,rfl,hB,h,Nat.le_refl _,by simp [maxLen],by simp [CELLS,hl],by simp [CELLS]; exact List.take_of_length_le (by simp [hl])⟩⟩
theorem slice_first (a : Option Addr) (n c k : Nat) (hk : k ≤ c) (w : World) : (Instr.slice 25 (.slice a n c) none (some (.int .i64 (k : Int))) none).run Tryd.prog w = .ok (.slice a k c) w := by
  have k1 : (k : Int) ≤ (c : Int) := by omega
  simp [go_sem,k1]
theorem kept_row (w : World) (g : Nat) (cs : Array Value) : KEPT (fun k => k = g) w (w.setRow g cs) := by
  have hb := below_row (Below.refl 0 w) (Nat.zero_le g) cs
  exact ⟨hb.os,hb.tape,hb.output,hb.size,fun k _ hn => setRow_other w g k cs hn⟩
/-- what grow answers: what was merged, what was made; the peaks are those behind the append. -/
def GROWN (w : World) (b B : Nat) (C : Array Value) (S : Nat) (pv : Value) (st t : Nat) (P LR M F : List Int) (e : Ending) (w' : World) : Prop :=
  ∃ la lc ma mc pa' pc',e = .returned (.agg #[.slice la t lc,.slice ma (t + 1) mc]) ∧ w'.ownsRow w.heap.size 24 32 (.slice la t lc) t (CELLS LR) ∧ w'.ownsRow w.heap.size 24 32 (.slice ma (t + 1) mc) (t + 1) (CELLS M) ∧ (∀ k,(Value.slice la t lc).ownBlock = some k → (Value.slice ma (t + 1) mc).ownBlock ≠ some k) ∧
    w'.ownsRow B 24 32 (.slice pa' (st + 1) pc') (st + 1) (CELLS (P.take (32 * st) ++ F)) ∧ Has w' b ((C.setIfInBounds 2 (.slice pa' (st + 1) pc')).setIfInBounds 1 (.int .u64 ((S + 1 : Nat) : Int))) 71 ∧
    (∀ k,(Value.slice pa' (st + 1) pc').ownBlock = some k → pv.ownBlock = some k ∨ w.heap.size ≤ k) ∧ (∀ k,(Value.slice pa' (st + 1) pc').ownBlock = some k → (Value.slice la t lc).ownBlock ≠ some k ∧ (Value.slice ma (t + 1) mc).ownBlock ≠ some k) ∧ KEPT (fun k => k = b ∨ pv.ownBlock = some k) w w'
set_option maxHeartbeats 16000000 in
theorem grow_ok (d : Int) (S b B : Nat) (C : Array Value) (H : List Int) (hH : IsH H) (pa : Option Addr) (np pc st t : Nat) (P : List Int) (hPr : ∀ x ∈ P,0 ≤ x ∧ x ≤ 255) (hnt : np = st + t) (hnp : np ≤ 64) (hS : S < 4611686018427387904) (w : World) (hC : Has w b C 71) (c0 : C[0]? = some (.int .i64 d)) (c1 : C[1]? = some (.int .u64 (S : Int))) (c2 : C[2]? = some (.slice pa np pc)) (hP : w.ownsRow B 24 32 (.slice pa np pc) np (CELLS P)) (hB : B ≤ w.heap.size) (hap : ∀ k,(Value.slice pa np pc).ownBlock = some k → k ≠ b)
    (hT : Tabled w) (hX : HX.Tabled w) (h0 : 2 < w.heap.size) (hlow : ∀ W,Tabled W → Calls Tryd.prog 45 #[.int .u64 ((18446744073709551615 - S : Nat) : Int)] W fun e w' => e = .returned (.int .i64 (t : Int)) ∧ W = w')
    (hrev : ∀ W BB a c X,X.length = 32 * t → W.ownsRow BB 24 32 (.slice a t c) t (CELLS X) → Calls Tryd.prog 46 #[.slice a t c] W fun e w' => e = .returned (.tuple #[]) ∧ w'.ownsRow BB 24 32 (.slice a t c) t (CELLS (REVH t X)) ∧ W.grownBy w' (Value.slice a t c).ownBlock) :
    Calls Tryd.prog 38 #[.pointer (some ⟨b,0,none⟩),.agg (CELLS H).toArray] w (GROWN w b B C S (.slice pa np pc) st t P (REVH t (P.drop (32 * st))) (MDS d H (REVH t (P.drop (32 * st))) t) (MDF d H (REVH t (P.drop (32 * st))) t)) := by
  have lP : P.length = 32 * np := by have := hP.1; simp [CELLS] at this; omega
  have e1 := w64_small st (by omega)
  have e2 : (np : Int) - (t : Int) = (st : Int) := by omega
  obtain ⟨W0,hW0⟩ : ∃ W0,(w.alloc (.cells (CELLS H).toArray 24)).alloc (.cells #[.slice none 0 0,.slice none 0 0] 73) = W0 := ⟨_,rfl⟩
  obtain ⟨bl,hbl⟩ : ∃ bl,w.heap.size = bl := ⟨_,rfl⟩
  obtain ⟨rs,hrs⟩ : ∃ rs,bl + 1 = rs := ⟨_,rfl⟩
  have R0 : Aside (Below w.heap.size w W0 ∧ Has W0 bl (CELLS H).toArray 24 ∧ Has W0 rs #[.slice none 0 0,.slice none 0 0] 73 ∧ w.heap.size = bl ∧ bl + 1 = rs ∧ W0.heap.size = rs + 1) := by
    rw [← hW0, ← hrs, ← hbl]
    exact ⟨((Below.refl _ _).alloc (Nat.le_refl _) _).alloc (by simp) _,(Has.new _ _ _).alloc _,Has.at _ _ _ (by simp),rfl,rfl,by simp⟩
  have x1 : W0.cell? ⟨b,1,none⟩ = some (.int .u64 (S : Int)) := ((hC.keep R0.out.1).cell 1).trans c1
  have x2 : W0.cell? ⟨b,2,none⟩ = some (.slice pa np pc) := ((hC.keep R0.out.1).cell 2).trans c2
  have eX := not_u64 S (by omega)
  have cl : ∀ q,Calls Tryd.prog 45 #[.int .u64 ((18446744073709551615 - S : Nat) : Int)] (W0.drewN q) fun e w' => e = .returned (.int .i64 (t : Int)) ∧ W0.drewN q = w' := fun q => hlow (W0.drewN q) (hT.below (by omega) (below_drewN R0.out.1 q))
  obtain ⟨sa,sc,hsl,hsF⟩ : ∃ sa sc,(∀ W,(Instr.slice 25 (.slice pa np pc) (some (.int .i64 (st : Int))) none none).run Tryd.prog W = .ok (.slice sa t sc) W) ∧ ((sa = none → sc = 0) ∧ ∀ W,Flat W pa np P → Flat W sa t (P.drop (32 * st))) := by
    obtain ⟨q1,q2⟩ := own_nil hP
    cases pa with
    | none =>
      obtain rfl := q2 rfl
      obtain rfl : np = 0 := by omega
      obtain ⟨rfl,rfl⟩ : st = 0 ∧ t = 0 := by omega
      exact ⟨none,0,fun W => by have := slice_none W; simpa [SLA] using this,fun _ => rfl,fun W h => by have := h.behind (c := 0) 0 (Nat.le_refl _) (Nat.le_refl _); simpa [SLA] using this⟩
    | some ad =>
      obtain ⟨gg,rfl⟩ : ∃ gg,ad = ⟨gg,0,none⟩ := by
        rcases hP.2 with ⟨e,_⟩ | ⟨g,_,_,e,_⟩
        · cases e
        · cases e; exact ⟨g,rfl⟩
      have ht : np - st = t := by omega
      refine ⟨SLA (some ⟨gg,0,none⟩) pc st,pc - st,fun W => by have := slice_hashes gg 0 np pc st (by omega) q1 W; rw [ht] at this; exact this,fun h => ?_,fun W h => by have := h.behind st (by omega) q1; rw [ht] at this; exact this⟩
      simp only [SLA] at h
      split at h <;> simp at h
  have HA : Aside (P.length = 32 * np ∧ (∀ x ∈ P,0 ≤ x ∧ x ≤ 255) ∧ np = st + t ∧ np ≤ 64 ∧ S < 4611686018427387904 ∧ IsH H ∧ B ≤ w.heap.size ∧ b < w.heap.size ∧ (∀ k,(Value.slice pa np pc).ownBlock = some k → k ≠ b) ∧ w.ownsRow B 24 32 (.slice pa np pc) np (CELLS P) ∧ Has w b C 71) := ⟨lP,hPr,hnt,hnp,hS,hH,hB,hC.lt,hap,hP,hC⟩
  have HT : Aside (∀ W,Below w.heap.size w W → HX.Tabled W) := fun W h => hX.below h
  have HC : Aside (C[0]? = some (.int .i64 d) ∧ C[1]? = some (.int .u64 (S : Int)) ∧ C[2]? = some (.slice pa np pc)) := ⟨c0,c1,c2⟩
  have HS : Aside ((sa = none → sc = 0) ∧ ∀ W,Flat W pa np P → Flat W sa t (P.drop (32 * st))) := hsF
  have HR : Aside (∀ W BB a c X,X.length = 32 * t → W.ownsRow BB 24 32 (.slice a t c) t (CELLS X) → Calls Tryd.prog 46 #[.slice a t c] W fun e w' => e = .returned (.tuple #[]) ∧ w'.ownsRow BB 24 32 (.slice a t c) t (CELLS (REVH t X)) ∧ W.grownBy w' (Value.slice a t c).ownBlock) := hrev
  have lH := hH.1
  clear lP hPr hnt hnp hS hH hB hap hP hC hX h0 hT hlow hrev c0 c1 c2 hsF
  obtain ⟨LR,hLR⟩ : ∃ LR,REVH t (P.drop (32 * st)) = LR := ⟨_,rfl⟩
  rw [hLR]
  have HL : Aside (REVH t (P.drop (32 * st)) = LR) := hLR
  clear hLR
  go_enter Tryd.func38,Tryd.ntmps38
  go_upto_region 1 with fail
  clear hW0 hbl hrs
  go_big_quiet ((go_at_call 45; (try rw [eX]); refine (cl _).mono ?_; rintro e w' ⟨rfl,rfl⟩; exact ⟨rfl,_,rfl⟩))
  rw [e1]
  have R1 : Aside (Below w.heap.size w (W0.drewN nq) ∧ Has (W0.drewN nq) bl (CELLS H).toArray 24 ∧ Has (W0.drewN nq) rs #[.slice none 0 0,.slice none 0 0] 73 ∧ w.heap.size = bl ∧ bl + 1 = rs ∧ (W0.drewN nq).heap.size = rs + 1) := ⟨below_drewN R0.out.1 nq,R0.out.2⟩
  generalize W0.drewN nq = W1 at *
  clear x1 x2 cl eX e1 e2 R0
  go_upto_region 2 with fail
  have K1 : Aside (∀ W,Below W1.heap.size W1 W → Below w.heap.size w W ∧ Has W bl (CELLS H).toArray 24 ∧ Has W rs #[.slice none 0 0,.slice none 0 0] 73 ∧ Has W b C 71 ∧ w.heap.size ≤ W1.heap.size ∧ b < W1.heap.size ∧ bl < W1.heap.size) := fun W hb => by
    have h := R1.out.1.trans (hb.mono R1.out.1.size)
    have := HA.out.2.2.2.2.2.2.2.1
    have := R1.out.1.size
    exact ⟨h,R1.out.2.1.keep hb,R1.out.2.2.1.keep hb,HA.out.2.2.2.2.2.2.2.2.2.2.keep h,R1.out.1.size,by omega,R1.out.2.1.lt⟩
  have CL : Aside (∀ W,Below W1.heap.size W1 W → Calls Tryd.prog 41 #[.slice sa t sc] W fun e w' => ∃ la lc,e = .returned (.slice la t lc) ∧ (Below W1.heap.size W1 w' ∧ w'.ownsRow W1.heap.size 24 32 (.slice la t lc) t (CELLS (P.drop (32 * st)))) ∧ Below W.heap.size W w' ∧ ∀ k,(Value.slice la t lc).ownBlock = some k → W.heap.size ≤ k) := fun W hb => by
    have hF : Flat W pa np P := own_flat (own_below HA.out.2.2.2.2.2.2.2.2.2.1 (K1.out W hb).1) HA.out.2.1
    refine (clone_ok sa t sc (by have := HA.out; omega) HS.out.1 (P.drop (32 * st)) W (HS.out.2 W hF)).mono ?_
    rintro e w' ⟨la,lc,rfl,ho,_,_,hb'⟩
    exact ⟨la,lc,rfl,⟨hb.trans (hb'.mono hb.size),own_mono ho hb.size⟩,hb',fun k e => (ho.lt k e).1⟩
  have C2 : Aside (∀ W,Below W1.heap.size W1 W → W.cell? ⟨b,2,none⟩ = some (.slice pa np pc) ∧ W.rangeAt bl 0 (CELLS H)) := fun W hb => ⟨((K1.out W hb).2.2.2.1.cell 2).trans HC.out.2.2,has_range (K1.out W hb).2.1⟩
  have k1 := K1.out W1 (Below.refl _ _)
  refine grow2 _ b bl st W1.heap.size pa np pc sa t sc H lH k1.2.2.2.2.2.1 k1.2.2.2.2.2.2 hsl (fun W => Below W1.heap.size W1 W) (fun la lc W => Below W1.heap.size W1 W ∧ W.ownsRow W1.heap.size 24 32 (.slice la t lc) t (CELLS (P.drop (32 * st)))) (Below.refl _ _).drew C2.out (fun la lc W h => C2.out W h.1) (fun W o h => h.alloc h.size o) (fun la lc W o h => ⟨h.1.alloc h.1.size o,h.2.alloc o⟩) (fun W h => h.size) (fun la lc W h => h.1.size) (fun la lc W h k e => (h.2.lt k e).2) CL.out (fun _ _ _ _ _ h => h) ?_
  rintro la lc mg mb w2 ⟨wx,⟨⟨hbx,ol⟩,hm,hmN,hmb,hmbN,hne,am,ab⟩,rfl⟩
  have R2 : Aside (Below W1.heap.size W1 (wx.setRow mb #[.slice la t lc,.slice (some ⟨mg,0,none⟩) 1 1]) ∧ (wx.setRow mb #[.slice la t lc,.slice (some ⟨mg,0,none⟩) 1 1]).ownsRow W1.heap.size 24 32 (.slice la t lc) t (CELLS (P.drop (32 * st))) ∧ Has (wx.setRow mb #[.slice la t lc,.slice (some ⟨mg,0,none⟩) 1 1]) mg (CELLS H).toArray 24 ∧ Has (wx.setRow mb #[.slice la t lc,.slice (some ⟨mg,0,none⟩) 1 1]) mb #[.slice la t lc,.slice (some ⟨mg,0,none⟩) 1 1] 73) := ⟨below_row hbx hmbN _,own_heap ol fun k e => setRow_other wx mb k _ (ab k e),hm.row_other hne _,hmb.row _⟩
  have MB : Aside (W1.heap.size ≤ mb) := hmbN
  have N2 : Aside (W1.heap.size ≤ mg ∧ mg ≠ mb ∧ (∀ k,(Value.slice la t lc).ownBlock = some k → k ≠ mg) ∧ (∀ k,(Value.slice la t lc).ownBlock = some k → k ≠ mb)) := ⟨hmN,hne,am,ab⟩
  generalize wx.setRow mb #[.slice la t lc,.slice (some ⟨mg,0,none⟩) 1 1] = w2 at *
  clear hbx ol hm hmN hmb hmbN hne am ab CL C2 k1 hsl
  have y0 := R2.out.2.2.2.cell 0
  have cr := HR.out w2 W1.heap.size la lc (P.drop (32 * st)) (by have := HA.out; rw [List.length_drop]; omega) R2.out.2.1
  rw [HL.out] at cr
  go_wp2_with fail
  refine cr.mono ?_
  rintro e w3 ⟨rfl,ol,gr⟩
  have R3 : Aside (Below W1.heap.size W1 w3 ∧ w3.ownsRow W1.heap.size 24 32 (.slice la t lc) t (CELLS LR) ∧ w3.ownsRow W1.heap.size 24 32 (.slice (some ⟨mg,0,none⟩) (0 + 1) 1) (0 + 1) (CELLS (MDS d H LR 0)) ∧ Has w3 mb #[.slice la t lc,.slice (some ⟨mg,0,none⟩) 1 1] 73) := by
    have h3 : Has w3 mg (CELLS H).toArray 24 := (gr.block mg R2.out.2.2.1.lt (fun e => N2.out.2.2.1 mg e.symm rfl)).trans R2.out.2.2.1
    have h4 : Has w3 mb #[.slice la t lc,.slice (some ⟨mg,0,none⟩) 1 1] 73 := (gr.block mb R2.out.2.2.2.lt (fun e => N2.out.2.2.2 mb e.symm rfl)).trans R2.out.2.2.2
    exact ⟨R2.out.1.grown gr R2.out.1.size (fun k e => (R2.out.2.1.lt k e).1),ol,own_has h3 N2.out.1 lH,h4⟩
  have LRR : Aside (∀ x ∈ LR,0 ≤ x ∧ x ≤ 255) := by
    show ∀ x ∈ LR,0 ≤ x ∧ x ≤ 255
    rw [← HL.out]
    intro x hx
    obtain ⟨i,_,hi⟩ := List.mem_flatMap.1 hx
    exact HA.out.2.1 x (List.mem_of_mem_drop (HSH_mem hi))
  clear cr ol gr y0 R2 HR HL HS
  have hcase : t = 0 ∨ ∃ gl,la = some ⟨gl,0,none⟩ := by
    rcases R3.out.2.1.2 with ⟨e,h0⟩ | ⟨g,cap,cur,e,_⟩
    · exact .inl h0
    · cases e
      exact .inr ⟨g,rfl⟩
  rcases hcase with rfl | ⟨gl,rfl⟩
  · have y0 := R3.out.2.2.2.cell 0
    go_wp2_with fail
    refine wp_loop_rounds 1 ?_
    rw [rounds_succ]
    go_wp2_with fail
    have Z : Aside (Below W1.heap.size W1 w3 ∧ w3.ownsRow W1.heap.size 24 32 (.slice la 0 lc) 0 (CELLS LR) ∧ w3.ownsRow W1.heap.size 24 32 (.slice (some ⟨mg,0,none⟩) (0 + 1) 1) (0 + 1) (CELLS (MDS d H LR 0)) ∧ Has w3 mb #[.slice la 0 lc,.slice (some ⟨mg,0,none⟩) (0 + 1) 1] 73 ∧ W1.heap.size ≤ mg ∧ mg ≠ mb ∧ ∀ k,(Value.slice la 0 lc).ownBlock = some k → (Value.slice (some ⟨mg,0,none⟩) (0 + 1) 1).ownBlock ≠ some k) := ⟨R3.out.1,R3.out.2.1,R3.out.2.2.1,R3.out.2.2.2,N2.out.1,N2.out.2.1,fun k e e2 => N2.out.2.2.1 k e (by simpa [Value.ownBlock] using e2.symm)⟩
    clear y0
    obtain ⟨z1,z2,z3,z4,z5,z6,z7⟩ := Z.out
    have lM := (MDF_is (d := d) (LR := LR) HA.out.2.2.2.2.2.1 0).1
    have K9 : Aside (∀ W,KEPT (fun k => (Value.slice pa np pc).ownBlock = some k) w3 W → (W.cell? ⟨mb,1,none⟩ = some (.slice (some ⟨mg,0,none⟩) (0 + 1) 1) ∧ W.cell? ⟨mb,0,none⟩ = some (.slice la 0 lc) ∧ W.rangeAt mg (0 * 32) (CELLS (MDF d H LR 0))) ∧ Has W b C 71 ∧ Has W mb #[.slice la 0 lc,.slice (some ⟨mg,0,none⟩) (0 + 1) 1] 73 ∧ Has W rs #[.slice none 0 0,.slice none 0 0] 73 ∧ W.ownsRow W1.heap.size 24 32 (.slice la 0 lc) 0 (CELLS LR) ∧ W.ownsRow W1.heap.size 24 32 (.slice (some ⟨mg,0,none⟩) (0 + 1) 1) (0 + 1) (CELLS (MDS d H LR 0)) ∧ w.heap.size ≤ W.heap.size) := fun W hk => by
      obtain ⟨a1,a2,a3,a4,a5,a6,a7,a8,a9,a10,a11⟩ := HA.out
      have hs1 := R1.out.1.size
      have hpa : ∀ k,(Value.slice pa np pc).ownBlock = some k → k < w.heap.size := fun k e => (a10.lt k e).2
      have hmb := hk.has z4 (fun e => by have h1 := hpa mb e; have h2 := MB.out; omega)
      have hrs := hk.has (K1.out w3 z1).2.2.1 (fun e => by have h1 := hpa rs e; have h2 := R1.out.2.2.2.1; have h3 := R1.out.2.2.2.2.1; omega)
      have hb := hk.has (K1.out w3 z1).2.2.2.1 (fun e => a9 b e rfl)
      have ol := hk.own z2 (fun k e1 e2 => by have h1 := hpa k e2; have h2 := (z2.lt k e1).1; omega)
      have om := hk.own z3 (fun k e1 e2 => by have h1 := hpa k e2; have h2 := (z3.lt k e1).1; omega)
      have hr := own_hash om (i := 0) (by omega) (MDS_length a6 0)
      rw [MDS_at a6 0 0 (Nat.le_refl _)] at hr
      exact ⟨⟨hmb.cell 1,hmb.cell 0,hr⟩,hb,hmb,hrs,ol,om,by have := hk.size; have := z1.size; omega⟩
    have hb2 : ∀ W,KEPT (fun k => (Value.slice pa np pc).ownBlock = some k) w3 W → W.cell? ⟨b,2,none⟩ = some (.slice pa np pc) ∧ W.frozen? ⟨b,2,none⟩ = false := fun W hk => ⟨((K9.out W hk).2.1.cell 2).trans HC.out.2.2,(K9.out W hk).2.1.frozen 2⟩
    have hP0 : w3.ownsRow B 24 32 (.slice pa st pc) st (CELLS (P.take (32 * st))) := own_first (own_below HA.out.2.2.2.2.2.2.2.2.2.1 (K1.out w3 z1).1) (by have := HA.out.2.2.1; omega)
    have hsl2 : ∀ W,(Instr.slice 25 (.slice pa np pc) none (some (.int .i64 (st : Int))) none).run Tryd.prog W = .ok (.slice pa st pc) W := fun W => slice_first pa np pc st (by have := HA.out.2.2.1; have := (own_nil HA.out.2.2.2.2.2.2.2.2.2.1).1; omega) W
    have HB9 : Aside (B ≤ w3.heap.size) := by have h1 := HA.out.2.2.2.2.2.2.1; have h2 := (K1.out w3 z1).2.2.2.2.1; have h3 := z1.size; show B ≤ w3.heap.size; omega
    go_upto_region 9 with fail
    refine grow9 _ b mb mg st 0 1 B pa np pc la lc (MDF d H LR 0) lM (CELLS (P.take (32 * st))) (by have := HA.out; omega) (by have h1 := MB.out; have h2 := (K1.out w3 z1).2.2.2.2.2.1; omega) (by have h2 := (K1.out w3 z1).2.2.2.2.2.1; omega) hsl2 (fun W => Below w3.heap.size w3 W) (fun g2 c2 W => KEPT (fun k => (Value.slice pa np pc).ownBlock = some k) w3 W ∧ W.ownsRow B 24 32 (.slice (some ⟨g2,0,none⟩) (st + 1) c2) (st + 1) (CELLS (P.take (32 * st) ++ MDF d H LR 0)) ∧ ((Value.slice pa np pc).ownBlock = some g2 ∨ w3.heap.size ≤ g2)) (Below.refl _ _).drew (fun W h => (K9.out W (KEPT.of_below h)).1) (fun g2 c2 W h => (K9.out W h.1).1) (fun W h => (hb2 W (KEPT.of_below h)).1) (fun g2 c2 W h => hb2 W h.1) (fun W o h => h.alloc h.size o) (fun W h => Nat.le_trans HB9.out h.size) (fun W h => own_below hP0 h) (fun W W' g2 c2 h q1 q2 q3 => ?_) (fun _ _ _ _ _ h => h) ?_
    · have e : (Value.slice pa st pc).ownBlock = (Value.slice pa np pc).ownBlock := by cases pa <;> rfl
      rw [e] at q2 q3
      refine ⟨(KEPT.of_below h).trans (KEPT.of_grown q2 (fun k e => e)) (fun k hk => .inl hk),by rw [CELLS_append]; exact q1, ?_⟩
      rcases q3 with q3 | q3
      · exact .inl q3
      · exact .inr (by have := h.size; omega)
    · rintro _ g2 c2 w5 ⟨wy,⟨hk,ho,hat⟩,rfl⟩
      obtain ⟨_,hb,hmb,hrs,ol,om,hsz⟩ := K9.out wy hk
      have hbb : ∀ k,(Value.slice (some ⟨g2,0,none⟩) (st + 1) c2).ownBlock = some k → k ≠ b := fun k e => by
        obtain rfl : g2 = k := by simpa [Value.ownBlock] using e
        rcases hat with h | h
        · exact HA.out.2.2.2.2.2.2.2.2.1 g2 h
        · have h2 := (K1.out w3 z1).2.2.2.2.2.1
          have h3 := z1.size
          omega
      have hbm : mb ≠ b ∧ rs ≠ b := by
        have h1 := MB.out
        have h2 := (K1.out w3 z1).2.2.2.2.2.1
        have h3 := HA.out.2.2.2.2.2.2.2.1
        have h4 := R1.out.2.2.2.1
        have h5 := R1.out.2.2.2.2.1
        exact ⟨by omega,by omega⟩
      have R5 : Aside (Has (wy.setCell ⟨b,2,none⟩ (.slice (some ⟨g2,0,none⟩) (st + 1) c2)) b (C.setIfInBounds 2 (.slice (some ⟨g2,0,none⟩) (st + 1) c2)) 71 ∧ Has (wy.setCell ⟨b,2,none⟩ (.slice (some ⟨g2,0,none⟩) (st + 1) c2)) mb #[.slice la 0 lc,.slice (some ⟨mg,0,none⟩) (0 + 1) 1] 73 ∧ Has (wy.setCell ⟨b,2,none⟩ (.slice (some ⟨g2,0,none⟩) (st + 1) c2)) rs #[.slice none 0 0,.slice none 0 0] 73 ∧ KEPT (fun k => k = b) wy (wy.setCell ⟨b,2,none⟩ (.slice (some ⟨g2,0,none⟩) (st + 1) c2))) := ⟨hb.set 2 _,hmb.other (a := ⟨b,2,none⟩) hbm.1 _,hrs.other (a := ⟨b,2,none⟩) hbm.2 _,KEPT.of_set wy _ _ rfl⟩
      generalize wy.setCell ⟨b,2,none⟩ (.slice (some ⟨g2,0,none⟩) (st + 1) c2) = w5 at *
      have x1 : w5.cell? ⟨b,1,none⟩ = some (.int .u64 (S : Int)) := (R5.out.1.cell 1).trans (by rw [Array.getElem?_setIfInBounds]; simp; exact HC.out.2.1)
      have f1 := R5.out.1.frozen 1
      have eS : IntKind.u64.wrap ((S : Int) + 1) = (S : Int) + 1 := by have := HA.out.2.2.2.2.1; rw [IntKind.wrap_u64]; omega
      go_upto_region 11 with fail
      obtain ⟨w6,e6⟩ : ∃ w6,w5.setCell ⟨b,1,none⟩ (.int .u64 ((S : Int) + 1)) = w6 := ⟨_,rfl⟩
      rw [e6]
      have R6 : Aside (Has w6 b ((C.setIfInBounds 2 (.slice (some ⟨g2,0,none⟩) (st + 1) c2)).setIfInBounds 1 (.int .u64 ((S + 1 : Nat) : Int))) 71 ∧ Has w6 mb #[.slice la 0 lc,.slice (some ⟨mg,0,none⟩) (0 + 1) 1] 73 ∧ Has w6 rs #[.slice none 0 0,.slice none 0 0] 73 ∧ KEPT (fun k => k = b) wy w6) := by
        rw [← e6,show (S : Int) + 1 = ((S + 1 : Nat) : Int) by omega]
        exact ⟨R5.out.1.set 1 _,R5.out.2.1.other (a := ⟨b,1,none⟩) hbm.1 _,R5.out.2.2.1.other (a := ⟨b,1,none⟩) hbm.2 _,R5.out.2.2.2.trans (A' := fun k => k = b) (KEPT.of_set w5 _ _ rfl) (fun k h => .inl h)⟩
      clear e6 R5 x1 f1 eS
      have y0 := R6.out.2.1.cell 0
      have y1 := R6.out.2.1.cell 1
      have hrs6 := R6.out.2.2.1
      go_wp2_with (refine wpList_store_row rfl 73 (.tmp 4) (.tmp 84) rfl rs #[.slice la 0 lc,.slice (some ⟨mg,0,none⟩) (0 + 1) 1] rfl rfl 73 #[.slice none 0 0,.slice none 0 0] hrs6 (by kernel_rfl) rfl (by simp [Value.oneCell']) ?_)
      refine bodyPost_ret (v := .agg #[.slice la 0 lc,.slice (some ⟨mg,0,none⟩) (0 + 1) 1]) (results_cell_row rfl _ _ rs 73 _ (0,0) _ rfl (hrs6.row _) Tryd.underlying73 rfl (by kernel_rfl)) rfl ?_
      have hk6 : KEPT (fun k => k = b ∨ (Value.slice pa np pc).ownBlock = some k) w (w6.setRow rs #[.slice la 0 lc,.slice (some ⟨mg,0,none⟩) (0 + 1) 1]) := by
        have k1 : KEPT (fun k => k = b ∨ (Value.slice pa np pc).ownBlock = some k) w w3 := KEPT.of_below ((K1.out w3 z1).1)
        have k2 := k1.trans (A' := fun k => (Value.slice pa np pc).ownBlock = some k) hk (fun k h => .inl (.inr h))
        have k3 := k2.trans (A' := fun k => k = b) R6.out.2.2.2 (fun k h => .inl (.inl h))
        refine k3.trans (A' := fun k => k = rs) (kept_row w6 rs _) (fun k h => .inr ?_)
        have h4 := R1.out.2.2.2.1
        have h5 := R1.out.2.2.2.2.1
        omega
      have own6 : ∀ {BB n : Nat} {v : Value} {xs : List Value},wy.ownsRow BB 24 32 v n xs → (∀ k,v.ownBlock = some k → k ≠ b ∧ k ≠ rs) → (w6.setRow rs #[.slice la 0 lc,.slice (some ⟨mg,0,none⟩) (0 + 1) 1]).ownsRow BB 24 32 v n xs := fun h hk => (kept_row w6 rs _).own (R6.out.2.2.2.own h (fun k e => (hk k e).1)) (fun k e => (hk k e).2)
      have hW1 : rs < W1.heap.size ∧ b < W1.heap.size := ⟨(R1.out.2.2.1).lt,(K1.out w3 z1).2.2.2.2.2.1⟩
      have hpal : ∀ k,(Value.slice pa np pc).ownBlock = some k → k < w.heap.size := fun k e => (HA.out.2.2.2.2.2.2.2.2.2.1.lt k e).2
      refine ⟨la,lc,some ⟨mg,0,none⟩,1,some ⟨g2,0,none⟩,c2,rfl,own_mono (own6 ol (fun k e => by have := (ol.lt k e).1; omega)) R1.out.1.size,own_mono (own6 om (fun k e => by have := (om.lt k e).1; omega)) R1.out.1.size,z7,own6 ho (fun k e => ⟨hbb k e, ?_⟩),R6.out.1.row_other (fun e => hbm.2 e.symm) _,fun k e => ?_,fun k e => ⟨fun e2 => ?_,fun e2 => ?_⟩,hk6⟩
      · obtain rfl : g2 = k := by simpa [Value.ownBlock] using e
        intro e3
        rcases hat with h | h
        · have h1 := hpal g2 h
          have h4 := R1.out.2.2.2.1
          have h5 := R1.out.2.2.2.2.1
          omega
        · have h3 := z1.size
          omega
      · obtain rfl : g2 = k := by simpa [Value.ownBlock] using e
        rcases hat with h | h
        · exact .inl h
        · exact .inr (by have h3 := z1.size; have h4 := R1.out.1.size; omega)
      · obtain rfl : g2 = k := by simpa [Value.ownBlock] using e
        rcases hat with h | h
        · have h1 := hpal g2 h
          have h2 := (z2.lt g2 e2).1
          have h4 := R1.out.1.size
          omega
        · have h2 := (z2.lt g2 e2).2
          omega
      · obtain rfl : g2 = k := by simpa [Value.ownBlock] using e
        rcases hat with h | h
        · have h1 := hpal g2 h
          have h2 := (z3.lt g2 e2).1
          have h4 := R1.out.1.size
          omega
        · have h2 := (z3.lt g2 e2).2
          omega
  · have y0 := R3.out.2.2.2.cell 0
    go_wp2_with fail
    clear y0
    go_loopg [37] t (fun q s37 wx => ∃ (h mg mc : Nat),s37 = .int .i64 (h : Int) ∧ Aside (h + q = t ∧ Below W1.heap.size W1 wx ∧ wx.ownsRow W1.heap.size 24 32 (.slice (some ⟨gl,0,none⟩) t lc) t (CELLS LR) ∧ wx.ownsRow W1.heap.size 24 32 (.slice (some ⟨mg,0,none⟩) (h + 1) mc) (h + 1) (CELLS (MDS d H LR h)) ∧ Has wx mb #[.slice (some ⟨gl,0,none⟩) t lc,.slice (some ⟨mg,0,none⟩) (h + 1) mc] 73 ∧ W1.heap.size ≤ mg ∧ mg ≠ mb ∧ gl ≠ mg))
    case atStart => exact ⟨0,mg,1,rfl,by omega,R3.out.1,R3.out.2.1,R3.out.2.2.1,R3.out.2.2.2,N2.out.1,N2.out.2.1,N2.out.2.2.1 gl rfl⟩
    case round =>
      have GLB : Aside (gl ≠ mb) := N2.out.2.2.2 gl rfl
      clear R3 N2
      obtain ⟨h,mg,mc,rfl,A⟩ := hrel
      cases gk with
      | zero =>
        obtain rfl : t = h := by have := A.out.1; omega
        have hlt : ¬ (t : Int) < (t : Int) := by omega
        have Z : Aside (Below W1.heap.size W1 wr ∧ wr.ownsRow W1.heap.size 24 32 (.slice (some ⟨gl,0,none⟩) t lc) t (CELLS LR) ∧ wr.ownsRow W1.heap.size 24 32 (.slice (some ⟨mg,0,none⟩) (t + 1) mc) (t + 1) (CELLS (MDS d H LR t)) ∧ Has wr mb #[.slice (some ⟨gl,0,none⟩) t lc,.slice (some ⟨mg,0,none⟩) (t + 1) mc] 73 ∧ W1.heap.size ≤ mg ∧ mg ≠ mb ∧ ∀ k,(Value.slice (some ⟨gl,0,none⟩) t lc).ownBlock = some k → (Value.slice (some ⟨mg,0,none⟩) (t + 1) mc).ownBlock ≠ some k) := by
          obtain ⟨_,r1,r2,r3,r4,r5,r6,r7⟩ := A.out
          refine ⟨r1,r2,r3,r4,r5,r6,fun k e e2 => r7 ?_⟩
          have e1 : gl = k := by simpa [Value.ownBlock] using e
          have e3 : mg = k := by simpa [Value.ownBlock] using e2
          rw [e1,e3]
        clear A
        obtain ⟨z1,z2,z3,z4,z5,z6,z7⟩ := Z.out
        have lM := (MDF_is (d := d) (LR := LR) HA.out.2.2.2.2.2.1 t).1
        have K9 : Aside (∀ W,KEPT (fun k => (Value.slice pa np pc).ownBlock = some k) wr W → (W.cell? ⟨mb,1,none⟩ = some (.slice (some ⟨mg,0,none⟩) (t + 1) mc) ∧ W.cell? ⟨mb,0,none⟩ = some (.slice (some ⟨gl,0,none⟩) t lc) ∧ W.rangeAt mg (t * 32) (CELLS (MDF d H LR t))) ∧ Has W b C 71 ∧ Has W mb #[.slice (some ⟨gl,0,none⟩) t lc,.slice (some ⟨mg,0,none⟩) (t + 1) mc] 73 ∧ Has W rs #[.slice none 0 0,.slice none 0 0] 73 ∧ W.ownsRow W1.heap.size 24 32 (.slice (some ⟨gl,0,none⟩) t lc) t (CELLS LR) ∧ W.ownsRow W1.heap.size 24 32 (.slice (some ⟨mg,0,none⟩) (t + 1) mc) (t + 1) (CELLS (MDS d H LR t)) ∧ w.heap.size ≤ W.heap.size) := fun W hk => by
          obtain ⟨a1,a2,a3,a4,a5,a6,a7,a8,a9,a10,a11⟩ := HA.out
          have hs1 := R1.out.1.size
          have hpa : ∀ k,(Value.slice pa np pc).ownBlock = some k → k < w.heap.size := fun k e => (a10.lt k e).2
          have hmb := hk.has z4 (fun e => by have h1 := hpa mb e; have h2 := MB.out; omega)
          have hrs := hk.has (K1.out wr z1).2.2.1 (fun e => by have h1 := hpa rs e; have h2 := R1.out.2.2.2.1; have h3 := R1.out.2.2.2.2.1; omega)
          have hb := hk.has (K1.out wr z1).2.2.2.1 (fun e => a9 b e rfl)
          have ol := hk.own z2 (fun k e1 e2 => by have h1 := hpa k e2; have h2 := (z2.lt k e1).1; omega)
          have om := hk.own z3 (fun k e1 e2 => by have h1 := hpa k e2; have h2 := (z3.lt k e1).1; omega)
          have hr := own_hash om (i := t) (by omega) (MDS_length a6 t)
          rw [MDS_at a6 t t (Nat.le_refl _)] at hr
          exact ⟨⟨hmb.cell 1,hmb.cell 0,hr⟩,hb,hmb,hrs,ol,om,by have := hk.size; have := z1.size; omega⟩
        have hb2 : ∀ W,KEPT (fun k => (Value.slice pa np pc).ownBlock = some k) wr W → W.cell? ⟨b,2,none⟩ = some (.slice pa np pc) ∧ W.frozen? ⟨b,2,none⟩ = false := fun W hk => ⟨((K9.out W hk).2.1.cell 2).trans HC.out.2.2,(K9.out W hk).2.1.frozen 2⟩
        have hP0 : wr.ownsRow B 24 32 (.slice pa st pc) st (CELLS (P.take (32 * st))) := own_first (own_below HA.out.2.2.2.2.2.2.2.2.2.1 (K1.out wr z1).1) (by have := HA.out.2.2.1; omega)
        have hsl2 : ∀ W,(Instr.slice 25 (.slice pa np pc) none (some (.int .i64 (st : Int))) none).run Tryd.prog W = .ok (.slice pa st pc) W := fun W => slice_first pa np pc st (by have := HA.out.2.2.1; have := (own_nil HA.out.2.2.2.2.2.2.2.2.2.1).1; omega) W
        have HB9 : Aside (B ≤ wr.heap.size) := by have h1 := HA.out.2.2.2.2.2.2.1; have h2 := (K1.out wr z1).2.2.2.2.1; have h3 := z1.size; show B ≤ wr.heap.size; omega
        go_upto_region 9 with fail
        refine grow9 _ b mb mg st t mc B pa np pc (some ⟨gl,0,none⟩) lc (MDF d H LR t) lM (CELLS (P.take (32 * st))) (by have := HA.out; omega) (by have h1 := MB.out; have h2 := (K1.out wr z1).2.2.2.2.2.1; omega) (by have h2 := (K1.out wr z1).2.2.2.2.2.1; omega) hsl2 (fun W => Below wr.heap.size wr W) (fun g2 c2 W => KEPT (fun k => (Value.slice pa np pc).ownBlock = some k) wr W ∧ W.ownsRow B 24 32 (.slice (some ⟨g2,0,none⟩) (st + 1) c2) (st + 1) (CELLS (P.take (32 * st) ++ MDF d H LR t)) ∧ ((Value.slice pa np pc).ownBlock = some g2 ∨ wr.heap.size ≤ g2)) (Below.refl _ _).drew (fun W h => (K9.out W (KEPT.of_below h)).1) (fun g2 c2 W h => (K9.out W h.1).1) (fun W h => (hb2 W (KEPT.of_below h)).1) (fun g2 c2 W h => hb2 W h.1) (fun W o h => h.alloc h.size o) (fun W h => Nat.le_trans HB9.out h.size) (fun W h => own_below hP0 h) (fun W W' g2 c2 h q1 q2 q3 => ?_) (fun _ _ _ _ _ h => h) ?_
        · have e : (Value.slice pa st pc).ownBlock = (Value.slice pa np pc).ownBlock := by cases pa <;> rfl
          rw [e] at q2 q3
          refine ⟨(KEPT.of_below h).trans (KEPT.of_grown q2 (fun k e => e)) (fun k hk => .inl hk),by rw [CELLS_append]; exact q1, ?_⟩
          rcases q3 with q3 | q3
          · exact .inl q3
          · exact .inr (by have := h.size; omega)
        · rintro _ g2 c2 w5 ⟨wy,⟨hk,ho,hat⟩,rfl⟩
          obtain ⟨_,hb,hmb,hrs,ol,om,hsz⟩ := K9.out wy hk
          have hbb : ∀ k,(Value.slice (some ⟨g2,0,none⟩) (st + 1) c2).ownBlock = some k → k ≠ b := fun k e => by
            obtain rfl : g2 = k := by simpa [Value.ownBlock] using e
            rcases hat with h | h
            · exact HA.out.2.2.2.2.2.2.2.2.1 g2 h
            · have h2 := (K1.out wr z1).2.2.2.2.2.1
              have h3 := z1.size
              omega
          have hbm : mb ≠ b ∧ rs ≠ b := by
            have h1 := MB.out
            have h2 := (K1.out wr z1).2.2.2.2.2.1
            have h3 := HA.out.2.2.2.2.2.2.2.1
            have h4 := R1.out.2.2.2.1
            have h5 := R1.out.2.2.2.2.1
            exact ⟨by omega,by omega⟩
          have R5 : Aside (Has (wy.setCell ⟨b,2,none⟩ (.slice (some ⟨g2,0,none⟩) (st + 1) c2)) b (C.setIfInBounds 2 (.slice (some ⟨g2,0,none⟩) (st + 1) c2)) 71 ∧ Has (wy.setCell ⟨b,2,none⟩ (.slice (some ⟨g2,0,none⟩) (st + 1) c2)) mb #[.slice (some ⟨gl,0,none⟩) t lc,.slice (some ⟨mg,0,none⟩) (t + 1) mc] 73 ∧ Has (wy.setCell ⟨b,2,none⟩ (.slice (some ⟨g2,0,none⟩) (st + 1) c2)) rs #[.slice none 0 0,.slice none 0 0] 73 ∧ KEPT (fun k => k = b) wy (wy.setCell ⟨b,2,none⟩ (.slice (some ⟨g2,0,none⟩) (st + 1) c2))) := ⟨hb.set 2 _,hmb.other (a := ⟨b,2,none⟩) hbm.1 _,hrs.other (a := ⟨b,2,none⟩) hbm.2 _,KEPT.of_set wy _ _ rfl⟩
          generalize wy.setCell ⟨b,2,none⟩ (.slice (some ⟨g2,0,none⟩) (st + 1) c2) = w5 at *
          have x1 : w5.cell? ⟨b,1,none⟩ = some (.int .u64 (S : Int)) := (R5.out.1.cell 1).trans (by rw [Array.getElem?_setIfInBounds]; simp; exact HC.out.2.1)
          have f1 := R5.out.1.frozen 1
          have eS : IntKind.u64.wrap ((S : Int) + 1) = (S : Int) + 1 := by have := HA.out.2.2.2.2.1; rw [IntKind.wrap_u64]; omega
          go_upto_region 11 with fail
          obtain ⟨w6,e6⟩ : ∃ w6,w5.setCell ⟨b,1,none⟩ (.int .u64 ((S : Int) + 1)) = w6 := ⟨_,rfl⟩
          rw [e6]
          have R6 : Aside (Has w6 b ((C.setIfInBounds 2 (.slice (some ⟨g2,0,none⟩) (st + 1) c2)).setIfInBounds 1 (.int .u64 ((S + 1 : Nat) : Int))) 71 ∧ Has w6 mb #[.slice (some ⟨gl,0,none⟩) t lc,.slice (some ⟨mg,0,none⟩) (t + 1) mc] 73 ∧ Has w6 rs #[.slice none 0 0,.slice none 0 0] 73 ∧ KEPT (fun k => k = b) wy w6) := by
            rw [← e6,show (S : Int) + 1 = ((S + 1 : Nat) : Int) by omega]
            exact ⟨R5.out.1.set 1 _,R5.out.2.1.other (a := ⟨b,1,none⟩) hbm.1 _,R5.out.2.2.1.other (a := ⟨b,1,none⟩) hbm.2 _,R5.out.2.2.2.trans (A' := fun k => k = b) (KEPT.of_set w5 _ _ rfl) (fun k h => .inl h)⟩
          clear e6 R5 x1 f1 eS
          have y0 := R6.out.2.1.cell 0
          have y1 := R6.out.2.1.cell 1
          have hrs6 := R6.out.2.2.1
          go_wp2_with (refine wpList_store_row rfl 73 (.tmp 4) (.tmp 84) rfl rs #[.slice (some ⟨gl,0,none⟩) t lc,.slice (some ⟨mg,0,none⟩) (t + 1) mc] rfl rfl 73 #[.slice none 0 0,.slice none 0 0] hrs6 (by kernel_rfl) rfl (by simp [Value.oneCell']) ?_)
          refine bodyPost_ret (v := .agg #[.slice (some ⟨gl,0,none⟩) t lc,.slice (some ⟨mg,0,none⟩) (t + 1) mc]) (results_cell_row rfl _ _ rs 73 _ (0,0) _ rfl (hrs6.row _) Tryd.underlying73 rfl (by kernel_rfl)) rfl ?_
          have hk6 : KEPT (fun k => k = b ∨ (Value.slice pa np pc).ownBlock = some k) w (w6.setRow rs #[.slice (some ⟨gl,0,none⟩) t lc,.slice (some ⟨mg,0,none⟩) (t + 1) mc]) := by
            have k1 : KEPT (fun k => k = b ∨ (Value.slice pa np pc).ownBlock = some k) w wr := KEPT.of_below ((K1.out wr z1).1)
            have k2 := k1.trans (A' := fun k => (Value.slice pa np pc).ownBlock = some k) hk (fun k h => .inl (.inr h))
            have k3 := k2.trans (A' := fun k => k = b) R6.out.2.2.2 (fun k h => .inl (.inl h))
            refine k3.trans (A' := fun k => k = rs) (kept_row w6 rs _) (fun k h => .inr ?_)
            have h4 := R1.out.2.2.2.1
            have h5 := R1.out.2.2.2.2.1
            omega
          have own6 : ∀ {BB n : Nat} {v : Value} {xs : List Value},wy.ownsRow BB 24 32 v n xs → (∀ k,v.ownBlock = some k → k ≠ b ∧ k ≠ rs) → (w6.setRow rs #[.slice (some ⟨gl,0,none⟩) t lc,.slice (some ⟨mg,0,none⟩) (t + 1) mc]).ownsRow BB 24 32 v n xs := fun h hk => (kept_row w6 rs _).own (R6.out.2.2.2.own h (fun k e => (hk k e).1)) (fun k e => (hk k e).2)
          have hW1 : rs < W1.heap.size ∧ b < W1.heap.size := ⟨(R1.out.2.2.1).lt,(K1.out wr z1).2.2.2.2.2.1⟩
          have hpal : ∀ k,(Value.slice pa np pc).ownBlock = some k → k < w.heap.size := fun k e => (HA.out.2.2.2.2.2.2.2.2.2.1.lt k e).2
          refine ⟨(some ⟨gl,0,none⟩),lc,some ⟨mg,0,none⟩,mc,some ⟨g2,0,none⟩,c2,rfl,own_mono (own6 ol (fun k e => by have := (ol.lt k e).1; omega)) R1.out.1.size,own_mono (own6 om (fun k e => by have := (om.lt k e).1; omega)) R1.out.1.size,z7,own6 ho (fun k e => ⟨hbb k e, ?_⟩),R6.out.1.row_other (fun e => hbm.2 e.symm) _,fun k e => ?_,fun k e => ⟨fun e2 => ?_,fun e2 => ?_⟩,hk6⟩
          · obtain rfl : g2 = k := by simpa [Value.ownBlock] using e
            intro e3
            rcases hat with h | h
            · have h1 := hpal g2 h
              have h4 := R1.out.2.2.2.1
              have h5 := R1.out.2.2.2.2.1
              omega
            · have h3 := z1.size
              omega
          · obtain rfl : g2 = k := by simpa [Value.ownBlock] using e
            rcases hat with h | h
            · exact .inl h
            · exact .inr (by have h3 := z1.size; have h4 := R1.out.1.size; omega)
          · obtain rfl : g2 = k := by simpa [Value.ownBlock] using e
            rcases hat with h | h
            · have h1 := hpal g2 h
              have h2 := (z2.lt g2 e2).1
              have h4 := R1.out.1.size
              omega
            · have h2 := (z2.lt g2 e2).2
              omega
          · obtain rfl : g2 = k := by simpa [Value.ownBlock] using e
            rcases hat with h | h
            · have h1 := hpal g2 h
              have h2 := (z3.lt g2 e2).1
              have h4 := R1.out.1.size
              omega
            · have h2 := (z3.lt g2 e2).2
              omega
      | succ q =>
        have hlt : (h : Int) < (t : Int) := by have := A.out.1; omega
        obtain ⟨r0,r1,r2,r3,r4,r5,r6,r7⟩ := A.out
        obtain ⟨a1,a2,a3,a4,a5,a6,a7,a8,a9,a10,a11⟩ := HA.out
        have lLR : LR.length = 32 * t := by have := r2.1; simp [CELLS] at this; omega
        have hL := HSH_length lLR (show h < t by omega)
        have hat := own_hash r2 (i := h) (by omega) lLR
        have E1 : Aside (wrap64 ((h : Int) + 1) = ((h + 1 : Nat) : Int)) := by show wrap64 ((h : Int) + 1) = ((h + 1 : Nat) : Int); unfold wrap64; omega
        have lMf := (MDF_is (d := d) (LR := LR) a6 h).1
        have lY := (MDF_is (d := d) (LR := LR) a6 (h + 1)).1
        have hLr : IsH (HSH LR h) := ⟨hL,fun x hx => LRR.out x (HSH_mem hx)⟩
        have CN : Aside (∀ W,Below W1.heap.size W1 W → Calls Tryd.prog 47 #[.int .i64 d,.agg (CELLS (HSH LR h)).toArray,.agg (CELLS (MDF d H LR h)).toArray] W fun e w' => e = .returned (.agg (CELLS (MDF d H LR (h + 1))).toArray) ∧ Below W.heap.size W w') := fun W hb => nodeh_ok d (HSH LR h) (MDF d H LR h) hLr (MDF_is a6 h) W (HT.out W (K1.out W hb).1)
        have B0 : Aside (h + 1 + q = t ∧ h + 1 ≤ 1000 ∧ gl ≠ mg ∧ IsH H) := ⟨by omega,by omega,r7,a6⟩
        clear a1 a2 a3 a4 a5 a6 a7 a8 a9 a10 a11 hLr lLR
        generalize hLg : HSH LR h = L at *
        go_upto_region 7 with (first
          | (refine wpList_load_mid rfl 24 (.tmp 40) rfl gl (h * 32) rfl (CELLS L) _ hat Tryd.underlying24 rfl (info_cells hL) ?_)
          | (refine wpList_store_row rfl 24 (.tmp 8) (.tmp 41) rfl _ _ rfl rfl 24 _ (Has.new wr _ _) (info_arr hL) (by simp [CELLS,hL]) (cells_one L) ?_; rw [World.setRow_alloc_new]))
        have R4 : Aside (Below W1.heap.size W1 (wr.alloc (.cells (CELLS L).toArray 24)) ∧ (wr.alloc (.cells (CELLS L).toArray 24)).ownsRow W1.heap.size 24 32 (.slice (some ⟨gl,0,none⟩) t lc) t (CELLS LR) ∧ (wr.alloc (.cells (CELLS L).toArray 24)).ownsRow W1.heap.size 24 32 (.slice (some ⟨mg,0,none⟩) (h + 1) mc) (h + 1) (CELLS (MDS d H LR h)) ∧ Has (wr.alloc (.cells (CELLS L).toArray 24)) mb #[.slice (some ⟨gl,0,none⟩) t lc,.slice (some ⟨mg,0,none⟩) (h + 1) mc] 73 ∧ W1.heap.size ≤ mg ∧ mg ≠ mb ∧ Has (wr.alloc (.cells (CELLS L).toArray 24)) wr.heap.size (CELLS L).toArray 24 ∧ mg < wr.heap.size ∧ mb < wr.heap.size ∧ W1.heap.size ≤ wr.heap.size) := ⟨r1.alloc r1.size _,r2.alloc _,r3.alloc _,r4.alloc _,r5,r6,Has.new _ _ _,(r3.lt mg rfl).2,r4.lt,r1.size⟩
        clear A r0 r1 r2 r3 r4 r5 r6 r7 hat hlt
        generalize wr.alloc (.cells (CELLS L).toArray 24) = w4 at *
        generalize wr.heap.size = bh at *
        have hrM : w4.rangeAt mg (h * 32) (CELLS (MDF d H LR h)) := by
          have := own_hash R4.out.2.2.1 (i := h) (by omega) (MDS_length B0.out.2.2.2 h)
          rw [MDS_at B0.out.2.2.2 h h (Nat.le_refl _)] at this
          exact this
        have K7 : Aside (∀ W,KEPT (fun k => k = mg) w4 W → (W.cell? ⟨b,0,none⟩ = some (.int .i64 d) ∧ W.rangeAt bh 0 (CELLS L)) ∧ Has W mb #[.slice (some ⟨gl,0,none⟩) t lc,.slice (some ⟨mg,0,none⟩) (h + 1) mc] 73 ∧ W.ownsRow W1.heap.size 24 32 (.slice (some ⟨gl,0,none⟩) t lc) t (CELLS LR) ∧ Below W1.heap.size W1 W) := fun W hk => by
          obtain ⟨r1,r2,r3,r4,r5,r6,r7,r8,r9,r10⟩ := R4.out
          have hb := (K1.out w4 r1).2.2.2.1
          have hbl := (K1.out w4 r1).2.2.2.2.2.1
          exact ⟨⟨((hk.has hb (by omega)).cell 0).trans HC.out.1,has_range (hk.has r7 (by omega))⟩,hk.has r4 (fun e => r6 e.symm),hk.own r2 (fun k e e2 => B0.out.2.2.1 (by have e3 : gl = k := (by simpa [Value.ownBlock] using e); rw [e3,e2])),r1.trans ((hk.below (B := W1.heap.size) (fun k e => by omega) r1.size))⟩
        have hne1 : b ≠ mb ∧ bh ≠ mb := by
          obtain ⟨r1,r2,r3,r4,r5,r6,r7,r8,r9,r10⟩ := R4.out
          have hbl := (K1.out w4 r1).2.2.2.2.2.1
          have := MB.out
          exact ⟨by omega,by omega⟩
        refine grow7 _ d b mb bh mg h mc W1.heap.size L (MDF d H LR h) (MDF d H LR (h + 1)) hL lMf lY (CELLS (MDS d H LR h)) B0.out.2.1 hne1.1 hne1.2 (fun W => Below w4.heap.size w4 W) (fun W => Below w4.heap.size w4 W) (fun g2 c2 W => KEPT (fun k => k = mg) w4 W ∧ W.ownsRow W1.heap.size 24 32 (.slice (some ⟨g2,0,none⟩) (h + 1 + 1) c2) (h + 1 + 1) (CELLS (MDS d H LR (h + 1))) ∧ (g2 = mg ∨ w4.heap.size ≤ g2)) (Below.refl _ _).drew (fun W hb => (K7.out W (KEPT.of_below hb)).1) (fun W hb => (K7.out W (KEPT.of_below hb)).1) (fun g2 c2 W hb => (K7.out W hb.1).1) (fun W hb => range_below hrM hb (R4.out.2.2.1.lt mg rfl).2) (fun W hb => (K7.out W (KEPT.of_below hb)).2.1.cell 1) (fun W hb => (K7.out W (KEPT.of_below hb)).2.1.cell 1) (fun g2 c2 W hb => ⟨(K7.out W hb.1).2.1.cell 1,(K7.out W hb.1).2.1.frozen 1⟩) (fun W ob hb => hb.alloc hb.size ob) (fun W hb => Nat.le_trans R4.out.1.size hb.size) (fun W hb => own_below R4.out.2.2.1 hb) (fun W W' g2 c2 hb q1 q2 q3 => ?_) (fun W hb => ?_) (fun _ _ _ _ _ h => h) ?_
        · refine ⟨(KEPT.of_below hb).trans (A' := fun k => k = mg) (KEPT.of_grown q2 (fun k e => by simpa [Value.ownBlock] using e.symm)) (fun k hk => .inl hk),by rw [MDS,CELLS_append]; exact q1, ?_⟩
          rcases q3 with q3 | q3
          · exact .inl (by simpa [Value.ownBlock] using q3.symm)
          · exact .inr (by have := hb.size; omega)
        · have hb1 := R4.out.1.trans (hb.mono R4.out.1.size)
          exact (CN.out W hb1).mono fun e w' z => ⟨z.1,hb.trans (z.2.mono hb.size)⟩
        · rintro _ g2 c2 w5 ⟨wy,⟨hk,ho,hat⟩,rfl⟩
          obtain ⟨_,k2,k3,k4⟩ := K7.out wy hk
          have hg2 : g2 ≠ mb ∧ W1.heap.size ≤ g2 ∧ gl ≠ g2 := by
            obtain ⟨r1,r2,r3,r4,r5,r6,r7,r8,r9,r10⟩ := R4.out
            have s1 := r7.lt
            have s2 := (r2.lt gl rfl).2
            rcases hat with z | z
            · rw [z]
              exact ⟨r6,r5,B0.out.2.2.1⟩
            · exact ⟨by omega,by omega,by omega⟩
          have R5 : Aside (h + 1 + q = t ∧ Below W1.heap.size W1 (wy.setCell ⟨mb,1,none⟩ (.slice (some ⟨g2,0,none⟩) (h + 1 + 1) c2)) ∧ (wy.setCell ⟨mb,1,none⟩ (.slice (some ⟨g2,0,none⟩) (h + 1 + 1) c2)).ownsRow W1.heap.size 24 32 (.slice (some ⟨gl,0,none⟩) t lc) t (CELLS LR) ∧ (wy.setCell ⟨mb,1,none⟩ (.slice (some ⟨g2,0,none⟩) (h + 1 + 1) c2)).ownsRow W1.heap.size 24 32 (.slice (some ⟨g2,0,none⟩) (h + 1 + 1) c2) (h + 1 + 1) (CELLS (MDS d H LR (h + 1))) ∧ Has (wy.setCell ⟨mb,1,none⟩ (.slice (some ⟨g2,0,none⟩) (h + 1 + 1) c2)) mb #[.slice (some ⟨gl,0,none⟩) t lc,.slice (some ⟨g2,0,none⟩) (h + 1 + 1) c2] 73 ∧ W1.heap.size ≤ g2 ∧ g2 ≠ mb ∧ gl ≠ g2) := by
            have ks : KEPT (fun k => k = mb) wy (wy.setCell ⟨mb,1,none⟩ (.slice (some ⟨g2,0,none⟩) (h + 1 + 1) c2)) := KEPT.of_set wy _ _ rfl
            refine ⟨B0.out.1,k4.setCell (p := ⟨mb,1,none⟩) MB.out _,ks.own k3 (fun k e e2 => GLB.out ?_),ks.own ho (fun k e e2 => hg2.1 ?_),k2.set 1 _,hg2.2.1,hg2.1,hg2.2.2⟩
            · have e3 : gl = k := by simpa [Value.ownBlock] using e
              rw [e3,e2]
            · have e3 : g2 = k := by simpa [Value.ownBlock] using e
              rw [e3,e2]
          clear hk ho hat k2 k3 k4 hg2 R4 K7 CN hrM hne1 B0
          generalize wy.setCell ⟨mb,1,none⟩ (.slice (some ⟨g2,0,none⟩) (h + 1 + 1) c2) = w5 at *
          have e1 := E1.out
          go_wp2_with fail
          go_roundg q
          case measure => omega
          case rel => exact ⟨h + 1,g2,c2,by first | rfl | (rw [E1.out]),R5.out⟩
end Go.Proofs.YtkpgbhokoohimaaDoor
