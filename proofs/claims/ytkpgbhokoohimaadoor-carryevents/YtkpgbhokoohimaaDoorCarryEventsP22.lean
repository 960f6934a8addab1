/- Texts of CarryEvents, one behind the other: VerifyPeaks, VerifyClimb, CarryNew. -/
import Derived.Test.YtkpgbhokoohimaaDoorCarryEventsP4
import Derived.Test.YtkpgbhokoohimaaDoorCarryEventsP6
import Derived.Test.YtkpgbhokoohimaaDoorCarryEventsP16
import Derived.Test.YtkpgbhokoohimaaDoorCarryEventsP21
/- What peaks of package verify answers. -/
namespace Go.Proofs.YtkpgbhokoohimaaDoor
open Go.RowKit
set_option maxRecDepth 100000

/-- hashes, one behind the other. -/
def CAT (M : Nat → Nat → List Int) (ss : List (Nat × Nat)) : List Int := ss.flatMap fun s => M s.1 s.2
theorem CAT_next {M : Nat → Nat → List Int} {ss : List (Nat × Nat)} {i h k : Nat} (hs : ss[i]? = some (h,k)) : CAT M (ss.take (i + 1)) = CAT M (ss.take i) ++ M h k := by
  rw [List.take_add_one,hs]
  simp [CAT]
set_option maxHeartbeats 2000000 in
theorem cpeaks_ok (mb N n : Nat) (hn : n ≤ 4611686018427387904) (M : Nat → Nat → List Int) (w : World) (hM : SMAP w mb N M) (hH : ∀ s ∈ SPAN 0 n,(M s.1 s.2).length = 32) (hT : Tabled w) (h0 : 0 < w.heap.size) :
    Calls Tryd.prog 53 #[.map (some mb),.int .u64 (n : Int)] w fun e w' => ∃ a c,e = .returned (.slice a (PC n) c) ∧ w'.ownsRow w.heap.size 24 32 (.slice a (PC n) c) (PC n) (CELLS (CAT M (SPAN 0 n))) ∧ Below w.heap.size w w' := by
  have cP := peaks_ok n hn w hT h0
  have hpl := PEAKS_spots hn
  have hlen : (SPAN 0 n).length = PC n := by
    have := PEAKS_length (n := n) (by omega)
    rw [hpl] at this
    simpa [PLCS] using this
  have hnd : ∀ i h k,(SPAN 0 n)[i]? = some (h,k) → Node h k := fun i h k e => (tile_span hn (Nat.zero_le n)).node e
  have hpc : PC n ≤ 64 := PC_lt_pow 64 n (by omega)
  rw [hpl] at cP
  generalize SPAN 0 n = ss at *
  generalize PC n = m at *
  have HA : Aside (ss.length = m ∧ m ≤ 64 ∧ (∀ i h k,ss[i]? = some (h,k) → Node h k) ∧ (∀ s ∈ ss,(M s.1 s.2).length = 32) ∧ SMAP w mb N M) := ⟨hlen,hpc,hnd,hH,hM⟩
  clear hlen hpc hnd hH hM hpl hT h0 hn
  go_enter Tryd.func53,Tryd.ntmps53
  go_wp2_with fail
  refine cP.mono ?_
  rintro e w1 ⟨gp,cp,rfl,hrow,hb⟩
  clear cP
  obtain ⟨cur,hcs,hmk⟩ := make_nodes m (by have := HA.out; omega) w1
  have hgp := (hrow.lt gp rfl).2
  have R0 : Aside ((w1.alloc (.cells cur 24)).ownsRow w.heap.size 24 32 (.slice (some ⟨w1.heap.size,0,none⟩) 0 m) 0 (CELLS (CAT M (ss.take 0))) ∧ Below w.heap.size w (w1.alloc (.cells cur 24)) ∧ (∀ i,i < m → (w1.alloc (.cells cur 24)).cell? ⟨gp,i,none⟩ = (UCELLS (PLCS ss))[i]?) ∧ gp < (w1.alloc (.cells cur 24)).heap.size ∧ gp ≠ w1.heap.size ∧ w1.heap.size < (w1.alloc (.cells cur 24)).heap.size) := by
    refine ⟨own_mono (World.ownsRow_made w1 cur m (Nat.le_refl _) (by simp [maxLen]; have := HA.out; omega) hcs) hb.size,hb.alloc hb.size _,fun i hi => ?_,by simp; omega,by omega,by simp⟩
    have hbx : Below w1.heap.size w1 (w1.alloc (.cells cur 24)) := (Below.refl _ _).alloc (Nat.le_refl _) _
    exact (hbx.cell (p := ⟨gp,i,none⟩) hgp).trans (hrow.cellAt i (by omega))
  clear hrow hb hcs hgp
  go_wp2_with fail
  obtain ⟨gl,hgl⟩ : ∃ gl,gl = w1.heap.size := ⟨_,rfl⟩
  rw [← hgl] at R0 ⊢
  clear hgl hmk
  generalize w1.alloc (.cells cur 24) = w2 at *
  go_loopg [6,18] m (fun q s6 s18 wx => ∃ i : Nat,s18 = .int .i64 (i : Int) ∧ Aside (i + q = m ∧ wx.ownsRow w.heap.size 24 32 s6 i (CELLS (CAT M (ss.take i))) ∧ Below w.heap.size w wx ∧ (∀ i,i < m → wx.cell? ⟨gp,i,none⟩ = (UCELLS (PLCS ss))[i]?) ∧ gp < wx.heap.size ∧ s6.ownBlock ≠ some gp))
  case atStart => exact ⟨0,rfl,by omega,R0.out.1,R0.out.2.1,R0.out.2.2.1,R0.out.2.2.2.1,fun e => R0.out.2.2.2.2.1 (by simpa [Value.ownBlock] using e.symm)⟩
  case round =>
    obtain ⟨i,rfl,A⟩ := hrel
    clear R0
    cases gk with
    | zero =>
      obtain rfl : i = m := by have := A.out.1; omega
      have hlt : ¬ (i : Int) < (i : Int) := by omega
      have R : Aside (∃ a c,u6 = .slice a i c ∧ wr.ownsRow w.heap.size 24 32 (.slice a i c) i (CELLS (CAT M ss)) ∧ Below w.heap.size w wr) := by
        obtain ⟨_,h1,h2,_⟩ := A.out
        rw [List.take_of_length_le (by have := HA.out; omega)] at h1
        obtain ⟨a,c,rfl,_⟩ := own_shapeh h1
        exact ⟨a,c,rfl,h1,h2⟩
      clear A HA
      go_wp2
      go_ret
      obtain ⟨a,c,e,h1,h2⟩ := R.out
      exact ⟨a,c,by rw [e]; rfl,h1,h2⟩
    | succ q =>
      obtain ⟨a1,a2,a3,a4,a5,a6⟩ := A.out
      obtain ⟨h1,h2,h3,h4,h5⟩ := HA.out
      have hlt : (i : Int) < (m : Int) := by omega
      obtain ⟨⟨h,k⟩,hs⟩ : ∃ s,ss[i]? = some s := ⟨_,List.getElem?_eq_getElem (by omega)⟩
      have hN := h3 i h k hs
      have hc : wr.cell? ⟨gp,i,none⟩ = some (.int .u64 ((PLC h k : Nat) : Int)) := by rw [a4 i (by omega)]; simp [UCELLS,PLCS,hs]
      have cS := spot_ok h k hN wr
      have h32 : (M h k).length = 32 := h4 (h,k) (List.mem_of_getElem? hs)
      have R : Aside (i + 1 + q = m ∧ wr.ownsRow w.heap.size 24 32 u6 i (CELLS (CAT M (ss.take i))) ∧ Below w.heap.size w wr ∧ (∀ i,i < m → wr.cell? ⟨gp,i,none⟩ = (UCELLS (PLCS ss))[i]?) ∧ gp < wr.heap.size ∧ u6.ownBlock ≠ some gp ∧ CAT M (ss.take (i + 1)) = CAT M (ss.take i) ++ M h k ∧ m ≤ 64 ∧ Node h k ∧ SMAP w mb N M) := ⟨by omega,a2,a3,a4,a5,a6,CAT_next hs,h2,hN,h5⟩
      have E1 : Aside (wrap64 ((i : Int) + 1) = ((i + 1 : Nat) : Int)) := by show wrap64 ((i : Int) + 1) = ((i + 1 : Nat) : Int); unfold wrap64; omega
      clear a1 a2 a3 a4 a5 a6 h1 h2 h3 h4 h5 hs hN A HA
      generalize PLC h k = pl at *
      go_wp2_with fail
      refine cS.mono ?_
      rintro e w3 ⟨rfl,hb3⟩
      clear cS hc
      have R3 : Aside (w3.ownsRow w.heap.size 24 32 u6 i (CELLS (CAT M (ss.take i))) ∧ Below w.heap.size w w3 ∧ (∀ i,i < m → w3.cell? ⟨gp,i,none⟩ = (UCELLS (PLCS ss))[i]?) ∧ gp < w3.heap.size) := ⟨own_below R.out.2.1 hb3,R.out.2.2.1.trans (hb3.mono R.out.2.2.1.size),fun i hi => (hb3.cell (p := ⟨gp,i,none⟩) R.out.2.2.2.2.1).trans (R.out.2.2.2.1 i hi),Nat.lt_of_lt_of_le R.out.2.2.2.2.1 hb3.size⟩
      clear hb3
      have lk : (Instr.lookup 87 (.map (some mb)) (.agg #[.int .u8 (h : Int),.int .u64 (k : Int)]) false).run Tryd.prog (w3.alloc (.cells #[.int .u8 (h : Int),.int .u64 (k : Int)] 63)) = .ok (.agg (CELLS (M h k)).toArray) (w3.alloc (.cells #[.int .u8 (h : Int),.int .u64 (k : Int)] 63)) := by
        have hb4 := R3.out.2.1.alloc (o := .cells #[.int .u8 (h : Int),.int .u64 (k : Int)] 63) R3.out.2.1.size
        obtain ⟨_,_,_,_,_,_,_,_,r9,r10⟩ := R.out
        exact (r10.below hb4).look (by have := r9.1; omega) (by have := r9.index_lt; omega)
      generalize M h k = H at *
      go_wp2_with (first
        | (refine build_one _ rfl 25 24 (.tmp 30) rfl (CELLS H).toArray rfl 32 _ _ Tryd.underlying25 info_hashv (by simp [CELLS,h32]) rfl (by decide) (by decide) ?_)
        | (at_builtin; refine app_hash _ rfl (.tmp 27) (.tmp 31) rfl w.heap.size u6 i _ rfl ((R3.out.1.alloc _).alloc _) _ 1 H h32 rfl (Has.new _ _ _) (by have := R.out; omega) (by have := R3.out.2.1.size; simp; omega) ?_; intro g4 c4 w4 hown hgrow hat hg))
      have Z : Aside (i + 1 + q = m ∧ w4.ownsRow w.heap.size 24 32 (.slice (some ⟨g4,0,none⟩) (i + 1) c4) (i + 1) (CELLS (CAT M (ss.take (i + 1)))) ∧ Below w.heap.size w w4 ∧ (∀ i,i < m → w4.cell? ⟨gp,i,none⟩ = (UCELLS (PLCS ss))[i]?) ∧ gp < w4.heap.size ∧ (Value.slice (some ⟨g4,0,none⟩) (i + 1) c4).ownBlock ≠ some gp) := by
        obtain ⟨r1,r2,r3,r4,r5,r6,r7,r8,r9,r10⟩ := R.out
        obtain ⟨t1,t2,t3,t4⟩ := R3.out
        have hsz := grown_size hgrow
        simp at hsz
        refine ⟨r1,by rw [r7,CELLS_append]; exact hown,((t2.alloc t2.size _).alloc (by have := t2.size; simp; omega) _).grown hgrow (by have := t2.size; simp; omega) (fun k e => (t1.lt k e).1),fun j hj => ?_,by omega,fun e => ?_⟩
        · rw [← t3 j hj]
          have hbx : Below w3.heap.size w3 ((w3.alloc (.cells #[.int .u8 (h : Int),.int .u64 (k : Int)] 63)).alloc (.cells (CELLS H).toArray 24)) := ((Below.refl _ _).alloc (Nat.le_refl _) _).alloc (by simp) _
          exact (World.cell?_of_block (a := ⟨gp,j,none⟩) (hgrow.block gp (by simp; omega) fun e => r6 e.symm)).trans (hbx.cell (p := ⟨gp,j,none⟩) t4)
        · have e : g4 = gp := by simpa [Value.ownBlock] using e
          rcases hat with h' | h'
          · exact r6 (by rw [h',e])
          · simp at h'
            omega
      clear hown hgrow hat hg R R3 lk h32
      have e1 := E1.out
      go_wp2
      go_roundg q
      case measure => exact Nat.lt_succ_self _
      case rel => exact ⟨i + 1,by first | rfl | (rw [E1.out]),Z.out⟩
end Go.Proofs.YtkpgbhokoohimaaDoor

/- What Climb of package verify answers. -/
namespace Go.Proofs.YtkpgbhokoohimaaDoor
open Go.RowKit
set_option maxRecDepth 100000

/-- the way of the leaf I, t steps up. -/
def JN (d : Int) (I : Nat) (M : Nat → Nat → List Int) : Nat → Nat → Nat → List Int
  | 0 => M
  | t + 1 => MPUT (JN d I M t) (t + 1) (I / 2 ^ (t + 1)) (NODEH d (JN d I M t t (2 * (I / 2 ^ (t + 1)))) (JN d I M t t (2 * (I / 2 ^ (t + 1)) + 1)))
/-- what is known when the way is climbed. -/
def CLM (d : Int) (leaf : List Int) (S I : Nat) (l : List Int) : Nat → Nat → List Int := JN d I (MPUT (HAND (PSP I S) l (PSP I S).length) 0 I leaf) (RISE I S)
/-- what Climb answers: the error, how many peaks, their hashes. -/
def CLA (d : Int) (leaf : List Int) (S I n : Nat) (l : List Int) : Int × Nat × List Int := if (PLA I S).1 ≠ 0 then ((PLA I S).1,0, []) else if n ≠ (PLA I S).2.length then (70,0, []) else (0,PC S,CAT (CLM d leaf S I l) (SPAN 0 S))
theorem ZND_is : IsH ZND := ⟨rfl,fun x hx => by
  have : x = 0 := by simpa [ZND] using hx
  omega⟩
theorem MPUT_is {M : Nat → Nat → List Int} (h : ∀ a b,IsH (M a b)) {x : List Int} (hx : IsH x) (p q a b : Nat) : IsH (MPUT M p q x a b) := by
  unfold MPUT
  split
  · exact hx
  · exact h a b
theorem HSH_is {l : List Int} {n i : Nat} (hl : l.length = 32 * n) (hr : ∀ x ∈ l,0 ≤ x ∧ x ≤ 255) (hi : i < n) : IsH (HSH l i) := ⟨HSH_length hl hi,fun x hx => hr x (HSH_mem hx)⟩
theorem HAND_is {ss : List (Nat × Nat)} {l : List Int} {n : Nat} (hl : l.length = 32 * n) (hr : ∀ x ∈ l,0 ≤ x ∧ x ≤ 255) : ∀ i,i ≤ n → ∀ a b,IsH (HAND ss l i a b)
  | 0,_,_,_ => ZND_is
  | i + 1,h,a,b => MPUT_is (HAND_is hl hr i (by omega)) (HSH_is hl hr (by omega)) _ _ a b
theorem JN_is {d : Int} {I : Nat} {M : Nat → Nat → List Int} (h : ∀ a b,IsH (M a b)) : ∀ t a b,IsH (JN d I M t a b)
  | 0,a,b => h a b
  | t + 1,a,b => MPUT_is (JN_is h t) (NODEH_is _ _ _) _ _ a b
set_option maxHeartbeats 4000000 in
theorem climb_core (d : Int) (leaf : List Int) (hleaf : IsH leaf) (S I : Nat) (hIS : I < S) (hS : S ≤ 4611686018427387904) (a : Option Addr) (n c : Nat) (hn : n = (PSP I S).length) (l : List Int) (w : World) (hF : Flat w a n l) (hT : Tabled w) (hX : HX.Tabled w) (h0 : 2 < w.heap.size) :
    Calls Tryd.prog 43 #[.int .i64 d,.agg (CELLS leaf).toArray,.agg #[.int .u64 (S : Int),.int .u64 (I : Int),.slice a n c]] w fun e w' => ∃ a c,e = .returned (.tuple #[.slice a (PC S) c,.int .i64 0]) ∧ w'.ownsRow w.heap.size 24 32 (.slice a (PC S) c) (PC S) (CELLS (CAT (CLM d leaf S I l) (SPAN 0 S))) ∧ Below w.heap.size w w' := by
  have l32 := hleaf.1
  have HA : Aside (IsH leaf ∧ I < S ∧ S ≤ 4611686018427387904 ∧ n = (PSP I S).length ∧ Flat w a n l ∧ Tabled w ∧ HX.Tabled w ∧ 2 < w.heap.size) := ⟨hleaf,hIS,hS,hn,hF,hT,hX,h0⟩
  clear hleaf hIS hS hn hF hT hX h0
  go_enter Tryd.func43,Tryd.ntmps43
  go_upto_region 1 with fail
  obtain ⟨b4,hb4⟩ : ∃ b4,b4 = w.heap.size := ⟨_,rfl⟩
  have R0 : Aside (Below w.heap.size w ((w.alloc (.cells (CELLS leaf).toArray 24)).alloc (.cells #[.int .u64 (S : Int),.int .u64 (I : Int),.slice a n c] 56)) ∧ Has ((w.alloc (.cells (CELLS leaf).toArray 24)).alloc (.cells #[.int .u64 (S : Int),.int .u64 (I : Int),.slice a n c] 56)) b4 (CELLS leaf).toArray 24 ∧ Has ((w.alloc (.cells (CELLS leaf).toArray 24)).alloc (.cells #[.int .u64 (S : Int),.int .u64 (I : Int),.slice a n c] 56)) (b4 + 1) #[.int .u64 (S : Int),.int .u64 (I : Int),.slice a n c] 56) := by
    rw [hb4]
    exact ⟨((Below.refl _ _).alloc (Nat.le_refl _) _).alloc (by simp) _,(Has.new _ _ _).alloc _,Has.at _ _ _ (by simp)⟩
  rw [← hb4]
  generalize (w.alloc (.cells (CELLS leaf).toArray 24)).alloc (.cells #[.int .u64 (S : Int),.int .u64 (I : Int),.slice a n c] 56) = W0 at *
  have HT : Aside (∀ W,Below w.heap.size w W → Tabled W ∧ HX.Tabled W ∧ 0 < W.heap.size ∧ Flat W a n l ∧ 2 < W.heap.size) := fun W h => by
    obtain ⟨a1,a2,a3,a4,a5,a6,a7,a8⟩ := HA.out
    have hs := h.size
    exact ⟨a6.below (by omega) h,a7.below h,by omega,a5.below h,by omega⟩
  have HB : Aside (b4 = w.heap.size) := hb4
  clear hb4
  have hPL : PLA I S = (0,PLCS (PSP I S)) := by
    obtain ⟨a1,a2,a3,a4,a5,a6,a7,a8⟩ := HA.out
    unfold PLA
    rw [if_neg (by omega),if_neg (by omega)]
  have y0 : W0.cell? ⟨b4 + 1,0,none⟩ = some (.int .u64 (S : Int)) := R0.out.2.2.cell 0
  have y1 : W0.cell? ⟨b4 + 1,1,none⟩ = some (.int .u64 (I : Int)) := R0.out.2.2.cell 1
  go_wp2_with fail
  have cP := pla_ok I S W0 (HT.out _ R0.out.1).1 (HT.out _ R0.out.1).2.2.1
  rw [hPL] at cP
  refine cP.mono ?_
  clear cP y0 y1 hPL
  rintro e w1 ⟨v,rfl,hrow,hb⟩
  dsimp only at *
  have hnl : (PLCS (PSP I S)).length = n := by have := HA.out.2.2.2.1; rw [PLCS_length,this]
  rw [hnl] at hrow
  obtain ⟨av,cv,rfl, -⟩ := own_slice hrow
  have R1 : Aside (Below w.heap.size w w1 ∧ Has w1 b4 (CELLS leaf).toArray 24 ∧ Has w1 (b4 + 1) #[.int .u64 (S : Int),.int .u64 (I : Int),.slice a n c] 56 ∧ w1.ownsRow W0.heap.size 22 1 (.slice av n cv) n (UCELLS (PLCS (PSP I S)))) := ⟨R0.out.1.trans (hb.mono R0.out.1.size),R0.out.2.1.keep hb,R0.out.2.2.keep hb,hrow⟩
  clear hrow hb R0 hnl
  have y2 : w1.cell? ⟨b4 + 1,2,none⟩ = some (.slice a n c) := R1.out.2.2.1.cell 2
  go_wp2_with fail
  have hfew : n ≤ 126 := by obtain ⟨a1,a2,a3,a4,_⟩ := HA.out; have := PSP_few a2 a3; omega
  have hnd : ∀ s ∈ PSP I S,Node s.1 s.2 := by
    obtain ⟨a1,a2,a3,a4,_⟩ := HA.out
    exact fun s hs => ((PSP_spec a2 a3).1 s hs).1
  refine (handed_ok (PSP I S) hnd W0.heap.size n HA.out.2.2.2.1.symm (by omega) (.slice av n cv) a c l w1 R1.out.2.2.2 (HT.out _ R1.out.1).2.2.2.1).mono ?_
  clear y2 hnd
  rintro e w2 ⟨mb,rfl,hM,hmb,hb⟩
  obtain ⟨M1,hM1⟩ : ∃ M1,M1 = MPUT (HAND (PSP I S) l n) 0 I leaf := ⟨_,rfl⟩
  have hIsM : ∀ p q,IsH (M1 p q) := by
    rw [hM1]
    have hF := (HT.out _ R1.out.1).2.2.2.1
    exact MPUT_is (HAND_is hF.1 hF.2.2 n (Nat.le_refl _)) HA.out.1 0 I
  obtain ⟨w3,st1,st2,st3⟩ := hM.store (h := 0) (k := I) (by omega) (by decide) (by have := HA.out; omega) leaf
  rw [← hM1] at st2
  have st1 : (Instr.mapUpdate 87 (.map (some mb)) (.agg #[.int .u8 0,.int .u64 (I : Int)]) (.agg (CELLS leaf).toArray)).run Tryd.prog w2 = .ok () w3 := st1
  have R2 : Aside (Below w.heap.size w w2 ∧ Has w2 b4 (CELLS leaf).toArray 24 ∧ Has w2 (b4 + 1) #[.int .u64 (S : Int),.int .u64 (I : Int),.slice a n c] 56 ∧ b4 + 1 < mb) := ⟨R1.out.1.trans (hb.mono R1.out.1.size),R1.out.2.1.keep hb,R1.out.2.2.1.keep hb,by have := R1.out.2.2.1.lt; omega⟩
  have R3 : Aside (Below w.heap.size w w3 ∧ Has w3 (b4 + 1) #[.int .u64 (S : Int),.int .u64 (I : Int),.slice a n c] 56 ∧ SMAP w3 mb (n + 1) M1 ∧ (∀ p q,IsH (M1 p q)) ∧ b4 + 1 < mb ∧ M1 = MPUT (HAND (PSP I S) l n) 0 I leaf) := ⟨R2.out.1.grown st3 R2.out.1.size (fun k e => by cases e; have := R2.out.2.2.2; have := HB.out; omega),R2.out.2.2.1.grown st3 (by have := R2.out.2.2.2; simp; omega),st2,hIsM,R2.out.2.2.2,hM1⟩
  have y1 : w2.cell? ⟨b4 + 1,1,none⟩ = some (.int .u64 (I : Int)) := R2.out.2.2.1.cell 1
  have hH4 := R2.out.2.1
  have z0 : w3.cell? ⟨b4 + 1,0,none⟩ = some (.int .u64 (S : Int)) := R3.out.2.1.cell 0
  have z1 : w3.cell? ⟨b4 + 1,1,none⟩ = some (.int .u64 (I : Int)) := R3.out.2.1.cell 1
  clear hM hmb hb R1 hM1 hIsM st2 st3 R2
  go_wp2_with (refine wpList_load_row rfl 24 (.tmp 4) rfl b4 rfl 24 (CELLS leaf).toArray (0,0) _ hH4 Tryd.underlying24 rfl (info_arr l32) ?_)
  refine (path_ok I S HA.out.2.1 HA.out.2.2.1 w3).mono ?_
  clear st1 y1 hH4 z0 z1
  rintro e w4 ⟨gp,cp,rfl,hrow,hg,hb⟩
  have hrise : RISE I S ≤ 62 := (RISE_spec HA.out.2.1 HA.out.2.2.1).2.1
  obtain ⟨T,hTT⟩ : ∃ T,RISE I S = T := ⟨_,rfl⟩
  rw [hTT] at hrise ⊢
  have R4 : Aside (Below w.heap.size w w4 ∧ Has w4 (b4 + 1) #[.int .u64 (S : Int),.int .u64 (I : Int),.slice a n c] 56 ∧ SMAP w4 mb (n + 1 + 0) (JN d I M1 0)) := ⟨R3.out.1.trans (hb.mono R3.out.1.size),R3.out.2.1.keep hb,R3.out.2.2.1.below hb⟩
  have KK : Aside ((∀ p q,IsH (M1 p q)) ∧ b4 + 1 < mb ∧ M1 = MPUT (HAND (PSP I S) l n) 0 I leaf ∧ RISE I S = T ∧ T ≤ 62 ∧ n ≤ 126 ∧ 2 < mb) := ⟨R3.out.2.2.2.1,R3.out.2.2.2.2.1,R3.out.2.2.2.2.2,hTT,hrise,hfew,by have h1 := HA.out; have h2 := HB.out; have h3 := R3.out.2.2.2.2.1; omega⟩
  clear hrow hg hb R3 hfew hTT hrise
  go_wp2_with fail
  go_loopg [51] T (fun q s51 wx => ∃ t : Nat,s51 = .int .i64 (t : Int) ∧ Aside (t + q = T ∧ Below w.heap.size w wx ∧ Has wx (b4 + 1) #[.int .u64 (S : Int),.int .u64 (I : Int),.slice a n c] 56 ∧ SMAP wx mb (n + 1 + t) (JN d I M1 t)))
  case atStart => exact ⟨0,rfl,by omega,R4.out⟩
  case round =>
    obtain ⟨t,rfl,A⟩ := hrel
    clear R4
    cases gk with
    | zero =>
      obtain rfl : t = T := by have := A.out.1; omega
      have hlt : ¬ (t : Int) < (t : Int) := by omega
      have z0 : wr.cell? ⟨b4 + 1,0,none⟩ = some (.int .u64 (S : Int)) := A.out.2.2.1.cell 0
      go_wp2_with fail
      have hH := HT.out _ A.out.2.1
      have hIs : ∀ p q,IsH (JN d I M1 t p q) := JN_is KK.out.1 t
      refine (cpeaks_ok mb (n + 1 + t) S HA.out.2.2.1 (JN d I M1 t) wr A.out.2.2.2 (fun s _ => (hIs s.1 s.2).1) hH.1 hH.2.2.1).mono ?_
      rintro e w5 ⟨a5,c5,rfl,hrow,hb⟩
      have hC : JN d I M1 t = CLM d leaf S I l := by
        unfold CLM
        rw [KK.out.2.2.1,KK.out.2.2.2.1,HA.out.2.2.2.1]
      rw [hC] at hrow
      have Z : Aside (w5.ownsRow w.heap.size 24 32 (.slice a5 (PC S) c5) (PC S) (CELLS (CAT (CLM d leaf S I l) (SPAN 0 S))) ∧ Below w.heap.size w w5) := ⟨own_mono hrow A.out.2.1.size,A.out.2.1.trans (hb.mono A.out.2.1.size)⟩
      clear hrow hb hH hIs hC A KK HT HA
      go_wp2
      go_ret2
      exact ⟨a5,c5,rfl,Z.out⟩
    | succ q =>
      have hlt : (t : Int) < (T : Int) := by have := A.out.1; omega
      have z1 : wr.cell? ⟨b4 + 1,1,none⟩ = some (.int .u64 (I : Int)) := A.out.2.2.1.cell 1
      obtain ⟨t1,ht1⟩ : ∃ t1,t + 1 = t1 := ⟨_,rfl⟩
      have e1 : wrap64 ((t : Int) + 1) = (t1 : Int) := by have := KK.out; unfold wrap64; omega
      have e8 : IntKind.u8.wrap (t1 : Int) = (t1 : Int) := by have := KK.out; simp [IntKind.wrap,IntKind.bits,IntKind.signed]; omega
      go_wp2_with fail
      have esh : (I : Int) / 2 ^ min t1 64 = ((I / 2 ^ t1 : Nat) : Int) := by
        rw [Nat.min_eq_left (by have := KK.out; omega)]
        simp [Int.natCast_ediv]
      rw [esh]
      have hI61 : 2 * (I / 2 ^ t1) + 1 < 2 ^ 64 := by
        have h1 : I / 2 ^ t1 ≤ I := Nat.div_le_self _ _
        have := HA.out
        omega
      have hH := HT.out _ A.out.2.1
      have hIs : ∀ p q,IsH (JN d I M1 t p q) := JN_is KK.out.1 t
      refine (join_ok mb (n + 1 + t) t1 t (I / 2 ^ t1) d (JN d I M1 t) ht1.symm (by have := KK.out; omega) hI61 (by have := KK.out; omega) wr A.out.2.2.2 (hIs _ _) (hIs _ _) hH.2.1 KK.out.2.2.2.2.2.2).mono ?_
      clear hH hIs hI61 esh
      rintro e w5 ⟨rfl,hM,hg⟩
      have Z : Aside (t + 1 + q = T ∧ Below w.heap.size w w5 ∧ Has w5 (b4 + 1) #[.int .u64 (S : Int),.int .u64 (I : Int),.slice a n c] 56 ∧ SMAP w5 mb (n + 1 + (t + 1)) (JN d I M1 (t + 1))) := by
        obtain ⟨a1,a2,a3,a4⟩ := A.out
        have hmb := KK.out.2.1
        have hb4 := HB.out
        refine ⟨by omega,a2.grown hg a2.size (fun k e => by cases e; omega),a3.grown hg (by simp; omega), ?_⟩
        rw [← ht1] at hM
        exact hM
      have E1 : Aside (wrap64 ((t : Int) + 1) = ((t + 1 : Nat) : Int)) := by have := KK.out; show wrap64 ((t : Int) + 1) = ((t + 1 : Nat) : Int); unfold wrap64; omega
      clear hM hg A z1 e1 e8
      have e1 := E1.out
      go_wp2
      go_roundg q
      case measure => exact Nat.lt_succ_self _
      case rel => exact ⟨t + 1,by first | rfl | (rw [E1.out]),Z.out⟩
/-- hashes of one's own are answered, and an error. -/
def ANSH (w : World) (A : Int × Nat × List Int) (e : Ending) (w' : World) : Prop := ∃ a c,e = .returned (.tuple #[.slice a A.2.1 c,.int .i64 A.1]) ∧ w'.ownsRow w.heap.size 24 32 (.slice a A.2.1 c) A.2.1 (CELLS A.2.2) ∧ Below w.heap.size w w'
set_option maxHeartbeats 2000000 in
theorem climb_ok (d : Int) (leaf : List Int) (hleaf : IsH leaf) (S I : Nat) (a : Option Addr) (n c : Nat) (l : List Int) (w : World) (hF : Flat w a n l) (hT : Tabled w) (hX : HX.Tabled w) (h0 : 2 < w.heap.size) :
    Calls Tryd.prog 43 #[.int .i64 d,.agg (CELLS leaf).toArray,.agg #[.int .u64 (S : Int),.int .u64 (I : Int),.slice a n c]] w (ANSH w (CLA d leaf S I n l)) := by
  unfold CLA
  by_cases hE : (PLA I S).1 = 0
  · rw [if_neg (by simpa using hE)]
    have hIS : I < S ∧ S ≤ 4611686018427387904 := by
      unfold PLA at hE
      split at hE
      · simp at hE
      · split at hE
        · simp at hE
        · omega
    have hPL : PLA I S = (0,PLCS (PSP I S)) := by
      unfold PLA
      rw [if_neg (by omega),if_neg (by omega)]
    have hlen : (PLA I S).2.length = (PSP I S).length := by rw [hPL]; exact PLCS_length _
    by_cases hn : n = (PLA I S).2.length
    · rw [if_neg (by simpa using hn)]
      exact climb_core d leaf hleaf S I hIS.1 hIS.2 a n c (by omega) l w hF hT hX h0
    · rw [if_pos hn]
      have HB : Aside (Below w.heap.size w ((w.alloc (.cells (CELLS leaf).toArray 24)).alloc (.cells #[.int .u64 (S : Int),.int .u64 (I : Int),.slice a n c] 56))) := ((Below.refl _ _).alloc (Nat.le_refl _) _).alloc (by simp) _
      have hH : Has ((w.alloc (.cells (CELLS leaf).toArray 24)).alloc (.cells #[.int .u64 (S : Int),.int .u64 (I : Int),.slice a n c] 56)) (w.heap.size + 1) #[.int .u64 (S : Int),.int .u64 (I : Int),.slice a n c] 56 := Has.at _ _ _ (by simp)
      have cP := pla_ok I S _ (hT.below (by omega) HB.out) (Nat.lt_of_lt_of_le (by omega) HB.out.size)
      rw [hPL] at cP hn
      obtain ⟨N,hN⟩ : ∃ N,(PLCS (PSP I S)).length = N := ⟨_,rfl⟩
      dsimp only at cP hn
      rw [hN] at cP hn
      have HN : Aside (n ≠ N) := hn
      obtain ⟨b5,hb5⟩ : ∃ b5,b5 = w.heap.size + 1 := ⟨_,rfl⟩
      rw [← hb5] at hH
      have HH : Aside (Has ((w.alloc (.cells (CELLS leaf).toArray 24)).alloc (.cells #[.int .u64 (S : Int),.int .u64 (I : Int),.slice a n c] 56)) b5 #[.int .u64 (S : Int),.int .u64 (I : Int),.slice a n c] 56) := hH
      clear hT hX h0 hE hIS hPL hlen hn hN hF hleaf hH
      go_enter Tryd.func43,Tryd.ntmps43
      go_wp2_with fail
      rw [← hb5]
      clear hb5
      refine cP.mono ?_
      rintro e w1 ⟨v,rfl,hrow,hb⟩
      have hv : ∃ a' c',v = .slice a' N c' := by
        obtain ⟨av,cv,e, -⟩ := own_slice hrow
        exact ⟨av,cv,e⟩
      have y2 : w1.cell? ⟨b5,2,none⟩ = some (.slice a n c) := (HH.out.keep hb).cell 2
      have R : Aside (Below w.heap.size w w1) := HB.out.trans (hb.mono HB.out.size)
      clear hrow hb cP HB HH
      obtain ⟨a',c',rfl⟩ := hv
      go_wp2_with fail
      refine (handed_not (.slice a' N c') N ⟨a',c',rfl⟩ a n c HN.out w1).mono ?_
      rintro e w2 ⟨rfl,rfl⟩
      clear y2
      go_wp2
      go_ret2
      exact ⟨none,0,rfl,World.ownsRow_nil _ _ _ _,R.out⟩
  · rw [if_pos hE]
    have HB : Aside (Below w.heap.size w ((w.alloc (.cells (CELLS leaf).toArray 24)).alloc (.cells #[.int .u64 (S : Int),.int .u64 (I : Int),.slice a n c] 56))) := ((Below.refl _ _).alloc (Nat.le_refl _) _).alloc (by simp) _
    have cP := pla_ok I S _ (hT.below (by omega) HB.out) (Nat.lt_of_lt_of_le (by omega) HB.out.size)
    obtain ⟨E,hEe⟩ : ∃ E,(PLA I S).1 = E := ⟨_,rfl⟩
    rw [hEe] at cP hE ⊢
    have hne : ((E : Int) != 0) = true := by simp [hE]
    clear hT hX h0 hE hEe hF hleaf
    go_enter Tryd.func43,Tryd.ntmps43
    go_wp2_with fail
    refine cP.mono ?_
    rintro e w1 ⟨v,rfl,hrow,hb⟩
    have R : Aside (Below w.heap.size w w1) := HB.out.trans (hb.mono HB.out.size)
    clear hrow hb cP HB
    go_wp2
    go_ret2
    exact ⟨none,0,rfl,World.ownsRow_nil _ _ _ _,R.out⟩
end Go.Proofs.YtkpgbhokoohimaaDoor

/- A carry's proof; how a carry begins. -/
namespace Go.Proofs.YtkpgbhokoohimaaDoor
open Go.RowKit
set_option maxRecDepth 100000

set_option maxHeartbeats 4000000 in
theorem carryproof_ok (B b : Nat) (d : Int) (S I : Nat) (leaf : List Int) (pg np pc : Nat) (P : List Int) (la : Option Addr) (nl lc : Nat) (L : List Int) (hI : I < S) (hS : S ≤ 4611686018427387904) (hnp : np ≤ 64) (hnl : nl ≤ 64) (hLr : ∀ x ∈ L,0 ≤ x ∧ x ≤ 255) (w : World) (hC : CARRY w B b d S I leaf (.slice (some ⟨pg,0,none⟩) np pc) np P (.slice la nl lc) nl L) :
    Calls Tryd.prog 29 #[.pointer (some ⟨b,0,none⟩)] w (PRFD w S I (nl + WON (KTH I S) np) (L ++ WOT (KTH I S) P np)) := by
  obtain ⟨W0,hW0⟩ : ∃ W0,w.alloc (.cells #[.int .u64 0,.int .u64 0,.slice none 0 0] 56) = W0 := ⟨_,rfl⟩
  obtain ⟨rs,hrs⟩ : ∃ rs,w.heap.size = rs := ⟨_,rfl⟩
  have R0 : Aside (Below w.heap.size w W0 ∧ Has W0 rs #[.int .u64 0,.int .u64 0,.slice none 0 0] 56 ∧ w.heap.size = rs) := by
    rw [← hW0, ← hrs]
    exact ⟨(Below.refl _ _).alloc (Nat.le_refl _) _,Has.new _ _ _,rfl⟩
  have ne1 : b ≠ rs := by have := hC.has.lt; omega
  have KB : Aside (∀ W,Below W0.heap.size W0 W → CARRY W B b d S I leaf (.slice (some ⟨pg,0,none⟩) np pc) np P (.slice la nl lc) nl L ∧ Has W rs #[.int .u64 0,.int .u64 0,.slice none 0 0] 56 ∧ Below w.heap.size w W) := fun W hb => by
    have h := R0.out.1.trans (hb.mono R0.out.1.size)
    exact ⟨hC.below h,R0.out.2.1.keep hb,h⟩
  have KC : Aside (∀ W,Below W0.heap.size W0 W → W.cell? ⟨b,35,none⟩ = some (.int .u64 (I : Int)) ∧ W.cell? ⟨b,36,none⟩ = some (.slice la nl lc)) := fun W hb => by
    have h := CRR_at (KB.out W hb).1.has hC.len
    exact ⟨h.2.2.2.2.1,h.2.2.2.2.2⟩
  have CP : Aside (∀ W,Below W0.heap.size W0 W → Calls Tryd.prog 40 #[.pointer (some ⟨b,0,none⟩),.int .u64 (I : Int),.slice la nl lc] W (PRFD W S I (nl + WON (KTH I S) np) (L ++ WOT (KTH I S) P np))) := fun W hb => by
    have h := (KB.out W hb).1
    have h2 := CRR_at h.has h.len
    exact fproof_ok b B S I pg np pc P la nl lc L hI hS hnp hnl (own_nil h.path).2 W h2.2.1 h2.2.2.1 h.peaks (own_flat h.path hLr)
  generalize nl + WON (KTH I S) np = N at *
  generalize L ++ WOT (KTH I S) P np = l at *
  clear hI hS hnp hnl hLr hC
  go_enter Tryd.func29,Tryd.ntmps29
  go_upto_region 1 with fail
  clear hW0 hrs
  refine cproof1 _ b rs S I la nl lc ne1 (fun W => Below W0.heap.size W0 W) (fun a2 n2 c2 W => n2 = N ∧ W.ownsRow W0.heap.size 24 32 (.slice a2 n2 c2) n2 (CELLS l) ∧ Below W0.heap.size W0 W) (Below.refl _ _).drew KC.out (fun a2 n2 c2 W h => KC.out W h.2.2) (fun a2 n2 c2 W h => (KB.out W h.2.2).2.1) (fun W hb => (CP.out W hb).mono fun e w' h => ?_) (fun _ _ _ _ _ h => h) ?_
  · obtain ⟨a,c,e1,ho,hb'⟩ := h
    exact ⟨a,N,c,e1,rfl,own_mono ho hb.size,hb.trans (hb'.mono hb.size)⟩
  · rintro a2 n2 c2 w4 ⟨wx,⟨rfl,ho,hb⟩,e4⟩
    obtain ⟨_,k2,k3⟩ := KB.out wx hb
    have FN : Aside (w4.ownsRow w.heap.size 24 32 (.slice a2 n2 c2) n2 (CELLS l) ∧ Below w.heap.size w w4) := by
      rw [e4]
      refine ⟨own_mono ((kept_row wx rs _).own ho (fun k e q => ?_)) R0.out.1.size,below_row k3 (Nat.le_of_eq R0.out.2.2) _⟩
      have := (ho.lt k e).1
      have := R0.out.2.1.lt
      omega
    have hH : Has w4 rs #[.int .u64 (S : Int),.int .u64 (I : Int),.slice a2 n2 c2] 56 := by rw [e4]; exact k2.row _
    clear e4 ho hb k2 k3 KB KC CP R0
    have z0 : w4.cell? ⟨rs,0,none⟩ = some (.int .u64 (S : Int)) := hH.cell 0
    have z1 : w4.cell? ⟨rs,1,none⟩ = some (.int .u64 (I : Int)) := hH.cell 1
    have z2 : w4.cell? ⟨rs,2,none⟩ = some (.slice a2 n2 c2) := hH.cell 2
    clear hH
    go_wp2_with fail
    refine bodyPost_ret (v := .agg #[.int .u64 (S : Int),.int .u64 (I : Int),.slice a2 n2 c2]) ?_ rfl ⟨a2,c2,rfl,FN.out⟩
    simp [results,Tryd.f29,go_sem,z0,z1,z2]
/-- what climb answers. -/
def CLMB (w : World) (E : Int) (np : Nat) (P : List Int) (nl : Nat) (L : List Int) (e : Ending) (w' : World) : Prop :=
  Below w.heap.size w w' ∧ ((E ≠ 0 ∧ e = .returned (.tuple #[.slice none 0 0,.slice none 0 0,.int .i64 E])) ∨
    (E = 0 ∧ ∃ a c a' c',e = .returned (.tuple #[.slice a np c,.slice a' nl c',.int .i64 0]) ∧ w'.ownsRow w.heap.size 24 32 (.slice a np c) np (CELLS P) ∧ w'.ownsRow w.heap.size 24 32 (.slice a' nl c') nl (CELLS L) ∧ ∀ k,(Value.slice a np c).ownBlock = some k → (Value.slice a' nl c').ownBlock ≠ some k))
theorem Flat.first {w : World} {a : Option Addr} {n : Nat} {l : List Int} (h : Flat w a n l) {m : Nat} (hm : m ≤ n) : Flat w a m (l.take (32 * m)) := by
  refine ⟨by rw [List.length_take,h.1]; omega,fun h0 => ?_,fun x hx => h.2.2 x (List.mem_of_mem_take hx)⟩
  obtain ⟨b,o,e,hb,hc⟩ := h.2.1 (by omega)
  refine ⟨b,o,e,hb,fun j hj => ?_⟩
  rw [hc j (by omega)]
  simp only [List.getD_eq_getElem?_getD,List.getElem?_take]
  rw [if_pos hj]
set_option maxHeartbeats 4000000 in
theorem cclimb_ok (d : Int) (leaf : List Int) (hleaf : IsH leaf) (S I : Nat) (a : Option Addr) (n c : Nat) (l : List Int) (hn : n ≤ 1000) (hnc : n ≤ c) (hc : a = none → c = 0) (w : World) (hF : Flat w a n l) (hT : Tabled w) (hX : HX.Tabled w) (h0 : 2 < w.heap.size)
    (hq : (CLA d leaf S I n l).1 = 0 → 1 ≤ (CLA d leaf S I n l).2.1 ∧ (CLA d leaf S I n l).2.1 ≤ n + 1) :
    Calls Tryd.prog 36 #[.int .i64 d,.agg (CELLS leaf).toArray,.agg #[.int .u64 (S : Int),.int .u64 (I : Int),.slice a n c]] w (CLMB w (CLA d leaf S I n l).1 (CLA d leaf S I n l).2.1 (CLA d leaf S I n l).2.2 (n + 1 - (CLA d leaf S I n l).2.1) (l.take (32 * (n + 1 - (CLA d leaf S I n l).2.1)))) := by
  have l32 := hleaf.1
  obtain ⟨W0,hW0⟩ : ∃ W0,(w.alloc (.cells (CELLS leaf).toArray 24)).alloc (.cells #[.int .u64 (S : Int),.int .u64 (I : Int),.slice a n c] 56) = W0 := ⟨_,rfl⟩
  obtain ⟨bl,hbl⟩ : ∃ bl,w.heap.size = bl := ⟨_,rfl⟩
  have R0 : Aside (Below w.heap.size w W0 ∧ Has W0 bl (CELLS leaf).toArray 24 ∧ Has W0 (bl + 1) #[.int .u64 (S : Int),.int .u64 (I : Int),.slice a n c] 56 ∧ w.heap.size = bl) := by
    rw [← hW0, ← hbl]
    exact ⟨((Below.refl _ _).alloc (Nat.le_refl _) _).alloc (by simp) _,(Has.new _ _ _).alloc _,Has.at _ _ _ (by simp),rfl⟩
  have cC := climb_ok d leaf hleaf S I a n c l W0 (hF.below R0.out.1) (hT.below (by omega) R0.out.1) (hX.below R0.out.1) (Nat.lt_of_lt_of_le h0 R0.out.1.size)
  have HA : Aside (n ≤ 1000 ∧ n ≤ c ∧ (a = none → c = 0) ∧ Flat W0 a n l) := ⟨hn,hnc,hc,hF.below R0.out.1⟩
  generalize CLA d leaf S I n l = C at *
  obtain ⟨CE,CN,CL⟩ := C
  dsimp only at *
  clear hn hnc hc hF hT hX h0 hleaf
  have h4 := R0.out.2.1
  have y0 : W0.cell? ⟨bl + 1,0,none⟩ = some (.int .u64 (S : Int)) := R0.out.2.2.1.cell 0
  have y1 : W0.cell? ⟨bl + 1,1,none⟩ = some (.int .u64 (I : Int)) := R0.out.2.2.1.cell 1
  have y2 : W0.cell? ⟨bl + 1,2,none⟩ = some (.slice a n c) := R0.out.2.2.1.cell 2
  have HQ : Aside (CE = 0 → 1 ≤ CN ∧ CN ≤ n + 1) := hq
  obtain ⟨K,hK⟩ : ∃ K,n + 1 - CN = K := ⟨_,rfl⟩
  rw [hK]
  have HK : Aside (n + 1 - CN = K) := hK
  clear hq hK
  go_enter Tryd.func36,Tryd.ntmps36
  go_upto_region 1 with fail
  clear hW0 hbl
  go_wp2_with (first
    | (refine wpList_load_row rfl 24 (.tmp 4) rfl bl rfl 24 (CELLS leaf).toArray (0,0) _ h4 Tryd.underlying24 rfl (info_arr l32) ?_)
    | fail)
  refine cC.mono ?_
  rintro e w1 ⟨a1,c1,rfl,ho,hb⟩
  dsimp only at *
  have R1 : Aside (w1.ownsRow W0.heap.size 24 32 (.slice a1 CN c1) CN (CELLS CL) ∧ Below W0.heap.size W0 w1 ∧ Below w.heap.size w w1) := ⟨ho,hb,R0.out.1.trans (hb.mono R0.out.1.size)⟩
  have z2 : w1.cell? ⟨bl + 1,2,none⟩ = some (.slice a n c) := (R0.out.2.2.1.keep hb).cell 2
  clear ho hb cC h4 y0 y1 y2
  by_cases hE : CE = 0
  · subst hE
    obtain ⟨q1,q2⟩ := HQ.out rfl
    obtain ⟨b1,b2,b3,b4⟩ := HA.out
    have hK := HK.out
    have e1 : wrap64 ((CN : Int) - 1) = (CN : Int) - 1 := by unfold wrap64; omega
    have e2 : wrap64 ((n : Int) - ((CN : Int) - 1)) = (K : Int) := by unfold wrap64; omega
    have hsl := slice_first a n c K (by omega) w1
    have cK : Aside (Calls Tryd.prog 41 #[.slice a K c] w1 (CLONED w1 K (l.take (32 * K)))) := clone_ok a K c (by omega) b3 (l.take (32 * K)) w1 ((b4.below R1.out.2.1).first (by omega))
    clear b1 b2 b3 b4 q1 q2 hK HQ HA
    go_wp2_with fail
    refine cK.out.mono ?_
    rintro e w2 ⟨a2,c2,rfl,ho,_,_,hb⟩
    have FN : Aside (Below w.heap.size w w2 ∧ w2.ownsRow w.heap.size 24 32 (.slice a1 CN c1) CN (CELLS CL) ∧ w2.ownsRow w.heap.size 24 32 (.slice a2 K c2) K (CELLS (l.take (32 * K))) ∧ ∀ k,(Value.slice a1 CN c1).ownBlock = some k → (Value.slice a2 K c2).ownBlock ≠ some k) := by
      obtain ⟨r1,r2,r3⟩ := R1.out
      refine ⟨r3.trans (hb.mono r3.size),own_mono (own_below r1 hb) R0.out.1.size,own_mono ho r3.size,fun k x1 x2 => ?_⟩
      have := (r1.lt k x1).2
      have := (ho.lt k x2).1
      omega
    clear ho hb cK R1 R0 z2 hsl
    go_wp2_with fail
    refine bodyPost_ret (v := .tuple #[.slice a1 CN c1,.slice a2 K c2,.int .i64 0]) ?_ rfl ⟨FN.out.1,.inr ⟨rfl,a1,c1,a2,c2,rfl,FN.out.2⟩⟩
    simp [results,Tryd.f36,go_sem]
  · have hE' : (CE != 0) = true := by simp [hE]
    have HE : Aside (CE ≠ 0 ∧ Below w.heap.size w w1) := ⟨hE,R1.out.2.2⟩
    clear hE R1 HQ HA z2 R0
    go_wp2_with fail
    refine bodyPost_ret (v := .tuple #[.slice none 0 0,.slice none 0 0,.int .i64 CE]) ?_ rfl ⟨HE.out.2,.inl ⟨HE.out.1,rfl⟩⟩
    simp [results,Tryd.f36,go_sem]
end Go.Proofs.YtkpgbhokoohimaaDoor
