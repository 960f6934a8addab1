/- Texts of ManyAccepts, one behind the other: ManyUpNode, ManyPeaks, ManySetsPlain, ManyRise. -/
import Derived.WalkLawsBesides
import Derived.Test.YtjkjlblongeljaaGreatDoorManyAcceptsP15
namespace Go.Proofs.YtjkjlblongeljaaGreatDoor
open Go.RowKit
set_option maxRecDepth 100000
def INDB (w0:World) (bc:Nat) (a:Option Addr):Prop:=∀ x,a=some x→x.block≠bc∧x.block<w0.heap.size∧x.spot=none
theorem NUML.but {bc:Nat} {w w':World} {a:Option Addr} {L:List Nat} (h:NUML w a L) (hb:BUT bc w w') (ha:INDB w bc a):NUML w' a L:=fun h0=>by
  obtain ⟨b,o,e,hlt,hc⟩:=h h0
  exact ⟨b,o,e,Nat.lt_of_lt_of_le hlt hb.2.size,fun i x hx=>(World.cell?_of_block (w:=w) (by exact hb.1 b hlt (ha _ e).1)).trans (hc i x hx)⟩
theorem NUML.back {bc:Nat} {w w':World} {a:Option Addr} {L:List Nat} (h:NUML w' a L) (hb:BUT bc w w') (ha:INDB w bc a):NUML w a L:=fun h0=>by
  obtain ⟨b,o,e,hlt,hc⟩:=h h0
  have hl:b<w.heap.size:=(ha _ e).2.1
  exact ⟨b,o,e,hl,fun i x hx=>(World.cell?_of_block (w:=w') (by exact (hb.1 b hl (ha _ e).1).symm)).trans (hc i x hx)⟩
def UPM (w0 w:World) (bc:Nat) (d:Int) (Y lv nd:List Int) (i j:Nat) (e:Ending) (w':World):Prop:=e=.returned (.agg (z00 Y).toArray)∧CLB w0 w' bc d lv nd i j∧BUT bc w w'
set_option maxHeartbeats 8000000 in
theorem zeZ (w0 w:World) (bc:Nat) (d:Int) (h k:Nat) (hN:Node (h+1) k) (L:List Nat) (a:Option Addr) (n c:Nat) (hl:L.length=n) (hn:n<2 ^ 40) (hR:RISES L) (hc:n≤c) (hnil:a=none→c=0) (hbl:INDB w0 bc a) (hL:NUML w0 a L) (hn0:0<n)
    (lv nd lv1 nd1 lv2 nd2 A B:List Int) (i j i1 j1 i2 j2:Nat) (hC:CLB w0 w bc d lv nd i j) (hc0:bc<w0.heap.size) (hX:∀ W,Below bc w0 W→HX.Tabled W) (hA:IsH A) (hB:IsH B)
    (c1:∀ r W,RANKS L ((2*k+1)*2 ^ h) r→CLB w0 W bc d lv nd i j→Calls Tryz.prog 121 #[.pointer (some ⟨bc,0,none⟩),.int .u64 ((PLC h (2*k):Nat):Int),.slice a r c] W (UPM w0 W bc d A lv1 nd1 i1 j1))
    (c2:∀ r a' W,RANKS L ((2*k+1)*2 ^ h) r→NUML w0 a' (L.drop r)→INDB w0 bc a'→(a'=none→c - r=0)→CLB w0 W bc d lv1 nd1 i1 j1→Calls Tryz.prog 121 #[.pointer (some ⟨bc,0,none⟩),.int .u64 ((PLC h (2*k+1):Nat):Int),.slice a' (n - r) (c - r)] W (UPM w0 W bc d B lv2 nd2 i2 j2)):
    Calls Tryz.prog 121 #[.pointer (some ⟨bc,0,none⟩),.int .u64 ((PLC (h+1) k:Nat):Int),.slice a n c] w (UPM w0 w bc d (z1S d A B) lv2 nd2 i2 j2):=by
  have hnb:((n:Int) == 0)=false:=beq_eq_false_iff_ne.2 (by omega)
  have hlt:=hC.lt
  have hs0:w0.heap.size≤w.heap.size:=hC.2.2.size
  obtain ⟨hNl,hNr⟩:=hN.kid
  obtain ⟨W0,hW0⟩:∃ W0,w.alloc (.cells ZARR 35)=W0:=⟨_,rfl⟩
  obtain ⟨b6,hb6⟩:∃ b6,w.heap.size=b6:=⟨_,rfl⟩
  have hb0:Below w.heap.size w W0:=by rw [← hW0];exact (Below.refl _ _).alloc (Nat.le_refl _) _
  have hH0:Has W0 b6 (z00 ZND).toArray 35:=by rw [← hW0,z2o,← hb6];exact Has.new _ _ _
  have ck:=z4y h k hN W0
  have HA:Aside (Below w.heap.size w W0∧Has W0 b6 (z00 ZND).toArray 35∧bc<w0.heap.size∧w0.heap.size≤w.heap.size∧bc<w.heap.size∧CLB w0 W0 bc d lv nd i j∧w.heap.size=b6):=⟨hb0,hH0,hc0,hs0,hlt,hC.still hb0,hb6⟩
  have HL:Aside (L.length=n∧n<2 ^ 40∧RISES L∧n≤c∧(a=none→c=0)∧INDB w0 bc a∧NUML w0 a L∧Node h (2*k)):=⟨hl,hn,hR,hc,hnil,hbl,hL,hNl⟩
  have C1:Aside _:=c1
  have C2:Aside _:=c2
  have HY:Aside (IsH A∧IsH B∧∀ W,Below bc w0 W→HX.Tabled W):=⟨hA,hB,hX⟩
  clear hC hb0 hH0 hc0 hs0 hlt hl hn hR hc hnil hbl hL hn0 hNl hNr hN hX hA hB c1 c2
  generalize ((PLC (h+1) k:Nat):Int)=P at *
  go_enter Tryz.func121,Tryz.ntmps121
  go_upto_region 3 with fail
  clear hW0 hb6
  go_wp2_with fail
  refine ck.mono ?_
  rintro e w1 ⟨rfl,h1⟩
  clear ck
  have k1:CLB w0 w1 bc d lv nd i j:=HA.out.2.2.2.2.2.1.still h1
  have cs:=z1E h (2*k) HL.out.2.2.2.2.2.2.2 a n c L HL.out.1 HL.out.2.1 HL.out.2.2.1 HL.out.2.2.2.1 HL.out.2.2.2.2.1 (fun x e=>(HL.out.2.2.2.2.2.1 x e).2.2) w1 (HL.out.2.2.2.2.2.2.1.but k1.2 HL.out.2.2.2.2.2.1)
  have K1:Aside (CLB w0 w1 bc d lv nd i j∧Below w.heap.size w w1∧Has w1 b6 (z00 ZND).toArray 35):=⟨k1,HA.out.1.trans (h1.mono HA.out.1.size),HA.out.2.1.keep h1⟩
  clear h1 k1
  go_wp2_with fail
  refine cs.mono ?_
  rintro e w2 ⟨r,a',rfl,hs⟩
  clear cs
  have hbl':INDB w0 bc a':=fun x hx=>by
    obtain ⟨y,e2,e3⟩:=hs.block x hx
    have q:=HL.out.2.2.2.2.2.1 y e2
    exact ⟨by rw [e3];exact q.1,by rw [e3];exact q.2.1,hs.spot x hx⟩
  have hL':NUML w0 a' (L.drop r):=hs.lies.back K1.out.1.2 hbl'
  have K2:Aside (CLB w0 w2 bc d lv nd i j∧Below w.heap.size w w2∧Has w2 b6 (z00 ZND).toArray 35):=⟨K1.out.1.still hs.below,K1.out.2.1.trans (hs.below.mono K1.out.2.1.size),K1.out.2.2.keep hs.below⟩
  have cu:=C1.out r w2 hs.rank K2.out.1
  have CV:Aside (∀ W,CLB w0 W bc d lv1 nd1 i1 j1→Calls Tryz.prog 121 #[.pointer (some ⟨bc,0,none⟩),.int .u64 ((PLC h (2*k+1):Nat):Int),.slice a' (n - r) (c - r)] W (UPM w0 W bc d B lv2 nd2 i2 j2)):=fun W hW=>C2.out r a' W hs.rank hL' hbl' hs.nil hW
  clear hs hbl' hL' K1 C1 C2 HL
  generalize n - r=n' at *
  generalize c - r=c' at *
  go_wp2_with fail
  refine cu.mono ?_
  rintro e w3 ⟨rfl,h3,h4⟩
  clear cu
  have lA:=HY.out.1.1
  have lB:=HY.out.2.1.1
  have K3:Aside (CLB w0 w3 bc d lv1 nd1 i1 j1∧BUT bc w w3∧Has w3 b6 (z00 ZND).toArray 35):=⟨h3,(BUT.of_below K2.out.2.1 (Nat.le_of_lt HA.out.2.2.2.2.1)).trans h4,(h4.1 b6 K2.out.2.2.lt (by have:=HA.out;omega)).trans K2.out.2.2⟩
  clear h3 h4 K2
  go_upto_region 8 with (refine wpList_store_row rfl 35 (.tmp 12) (.tmp 43) rfl _ _ rfl rfl 35 _ (Has.new w3 _ _) (z0d lA) (by simp [z00,lA]) (z0m A) ?_;rw [World.setRow_alloc_new])
  have K4:Aside (CLB w0 (w3.alloc (.cells (z00 A).toArray 35)) bc d lv1 nd1 i1 j1∧BUT bc w (w3.alloc (.cells (z00 A).toArray 35))∧Has (w3.alloc (.cells (z00 A).toArray 35)) b6 (z00 ZND).toArray 35∧Has (w3.alloc (.cells (z00 A).toArray 35)) w3.heap.size (z00 A).toArray 35∧b6<w3.heap.size):=by
    have hb:Below w3.heap.size w3 (w3.alloc (.cells (z00 A).toArray 35)):=(Below.refl _ _).alloc (Nat.le_refl _) _
    exact ⟨K3.out.1.still hb,K3.out.2.1.trans (BUT.of_below hb (Nat.le_of_lt K3.out.1.lt)),K3.out.2.2.alloc _,Has.new _ _ _,K3.out.2.2.lt⟩
  clear K3
  generalize w3.alloc (.cells (z00 A).toArray 35)=w4 at *
  generalize w3.heap.size=bl at *
  have cu:=CV.out w4 K4.out.1
  go_wp2_with fail
  refine cu.mono ?_
  rintro e w5 ⟨rfl,h3,h4⟩
  clear cu CV
  have K5:Aside (CLB w0 w5 bc d lv2 nd2 i2 j2∧BUT bc w w5∧Has w5 b6 (z00 ZND).toArray 35∧Has w5 bl (z00 A).toArray 35):=⟨h3,K4.out.2.1.trans h4,(h4.1 b6 K4.out.2.2.1.lt (by have:=HA.out;omega)).trans K4.out.2.2.1,(h4.1 bl K4.out.2.2.2.1.lt (by have:=HA.out;have:=K4.out.2.2.2.2;omega)).trans K4.out.2.2.2.1⟩
  have hbb:b6<bl:=K4.out.2.2.2.2
  clear h3 h4 K4
  go_upto_region 9 with (refine wpList_store_row rfl 35 (.tmp 13) (.tmp 47) rfl _ _ rfl rfl 35 _ (Has.new w5 _ _) (z0d lB) (by simp [z00,lB]) (z0m B) ?_;rw [World.setRow_alloc_new])
  have K6:Aside (UPQ w0 w (w5.alloc (.cells (z00 B).toArray 35)) bc d lv2 nd2 i2 j2 b6 bl w5.heap.size A B):=by
    have hb:Below w5.heap.size w5 (w5.alloc (.cells (z00 B).toArray 35)):=(Below.refl _ _).alloc (Nat.le_refl _) _
    exact ⟨K5.out.1.still hb,K5.out.2.1.trans (BUT.of_below hb (Nat.le_of_lt K5.out.1.lt)),K5.out.2.2.1.alloc _,K5.out.2.2.2.alloc _,Has.new _ _ _,HA.out.2.2.2.2.2.2,hbb,K5.out.2.2.2.lt,HA.out.2.2.2.1,HA.out.2.2.1⟩
  clear K5 HA hbb
  generalize w5.alloc (.cells (z00 B).toArray 35)=w6 at *
  generalize w5.heap.size=br at *
  have hY:=z7O d A B
  have CN:Aside (∀ W,UPQ w0 w W bc d lv2 nd2 i2 j2 b6 bl br A B→Calls Tryz.prog 31 #[.int .i64 d,.agg (z00 A).toArray,.agg (z00 B).toArray] W fun e w'=>e=.returned (.agg (z00 (z1S d A B)).toArray)∧Below W.heap.size W w'):=fun W hW=>zdG d A B HY.out.1 HY.out.2.1 W (HY.out.2.2 W hW.clb.2.2)
  clear HY
  generalize z1S d A B=Y at *
  have lY:=hY.1
  clear hY
  refine mup9 w6 d bc bl br A B Y lA lB lY (fun W=>UPQ w0 w W bc d lv2 nd2 i2 j2 b6 bl br A B) (fun W=>UPQ w0 w W bc d lv2 nd2 i2 j2 b6 bl br A B) (fun b W=>UPQ w0 w W bc d lv2 nd2 i2 j2 b6 bl br A B∧Has W b (MSTP ZND ZND ZND) 109∧br<b) (fun b W=>UPQ w0 w W bc d lv2 nd2 i2 j2 b6 bl br A B∧Has W b (MSTP ZND ZND ZND) 109∧br<b) (fun b W=>UPQ w0 w W bc d lv2 nd2 i2 j2 b6 bl br A B∧Has W b (MSTP A B Y) 109∧br<b) (K6.out.below (Below.refl _ w6).drew) (fun W h=>h.s9) (fun W h=>h.s9) (fun b W h=>h.1.s9) (fun b W h=>h.1.s9) (fun b W h=>h.1.s9) (fun W h=>(CN.out W h).mono ?_) (fun b W h=>(CN.out W h.1).mono ?_) (fun W h=>⟨h.below ((Below.refl _ _).alloc (Nat.le_refl _) _),Has.new _ _ _,h.r.lt⟩) (fun W h=>⟨h.below ((Below.refl _ _).alloc (Nat.le_refl _) _),Has.new _ _ _,h.r.lt⟩) (fun b W h=>h.2.1) (fun b W h=>⟨h.1.row h.2.2 _,h.2.1.row _,h.2.2⟩) (fun _ _ _ _ _ h=>h) ?_
  · rintro e w' ⟨rfl,hb⟩
    exact ⟨rfl,h.below hb⟩
  · rintro e w' ⟨rfl,hb⟩
    exact ⟨rfl,h.1.below hb,h.2.1.keep hb,h.2.2⟩
  · intro bs w7 h7
    dsimp only
    have K7:Aside (UPQ w0 w w7 bc d lv2 nd2 i2 j2 b6 bl br A B∧Has w7 bs (MSTP A B Y) 109∧br<bs):=h7
    clear h7 K6 CN
    go_upto_region 10 with fail
    refine zgh w7 bc bs A B Y lA lB lY (fun W=>UPQ w0 w W bc d lv2 nd2 i2 j2 b6 bl br A B∧Has W bs (MSTP A B Y) 109) (fun W=>UPQ w0 w W bc d lv2 nd2 i2 j2 b6 bl br A B∧Has W bs (MSTP A B Y) 109) ⟨K7.out.1.below (Below.refl _ w7).drew,K7.out.2.1⟩ (fun W h=>h.1.s10 h.2) (fun W h=>h.1.s10 h.2) (fun W h=>(zdL A B Y W).mono ?_) (fun _ _ _ _ _ h=>h) ?_
    · rintro e w' ⟨rfl,hb⟩
      exact ⟨rfl,h.1.below hb,h.2.keep hb⟩
    · intro w8 h8
      dsimp only
      have hat:=zc1 lA lB h8.2
      have hres:=h8.1.res
      have FN:Aside (UPM w0 w bc d Y lv2 nd2 i2 j2 (.returned (.agg (z00 Y).toArray)) (w8.setRow b6 (z00 Y).toArray)):=by
        have hn:=h8.1.n
        exact ⟨rfl,h8.1.clb.set_new (by omega) (by omega) _,h8.1.but.set_new (by omega) (by omega) _⟩
      clear h8 K7
      go_wp2_with (first
        | (refine wpList_load_mid rfl 35 (.tmp 64) rfl bs 64 rfl (z00 Y) _ hat Tryz.underlying35 rfl (z0l lY) ?_)
        | (refine wpList_store_row rfl 35 (.tmp 6) (.tmp 65) rfl _ _ rfl rfl 35 _ hres (z0d lY) (by simp [z00,lY];rfl) (z0m Y) ?_))
      refine bodyPost_ret (v:=.agg (z00 Y).toArray) (z1T rfl _ _ b6 35 _ (0,0) _ _ rfl (Has.row hres _) Tryz.underlying35 (z0d lY)) rfl FN.out
theorem z6J {L:List Nat} {t r r':Nat} (h:RANKS L t r) (h':RANKS L t r'):r=r':=by
  have e:=h.take.trans h'.take.symm
  have:=congrArg List.length e
  rw [List.length_take,List.length_take] at this
  have:=h.le
  have:=h'.le
  omega
theorem zgi (w0:World) (bc:Nat) (d:Int) (hc0:bc<w0.heap.size) (hX:∀ W,Below bc w0 W→HX.Tabled W):∀ (h k:Nat),Node h k→∀ (L:List Nat) (a:Option Addr) (n c:Nat) (lv nd:List Int) (i j:Nat) (w:World),L.length=n→n<2 ^ 40→UNR h k L→n≤c→(a=none→c=0)→INDB w0 bc a→NUML w0 a L→CLB w0 w bc d lv nd i j→n≤i→(NEED h k L).length≤j→
    Calls Tryz.prog 121 #[.pointer (some ⟨bc,0,none⟩),.int .u64 ((PLC h k:Nat):Int),.slice a n c] w (UPM w0 w bc d (MUP d h k L lv nd).1 (MUP d h k L lv nd).2.1 (MUP d h k L lv nd).2.2 (i - n) (j - (NEED h k L).length)):=by
  intro h
  induction h with
  | zero=>
    intro k hN L a n c lv nd i j w hl hn hU hc hnil hbl hL hC hi hj
    have hsl:=hC.1
    cases L with
    | nil=>
      obtain rfl:n=0:=by simpa using hl.symm
      rw [z0v] at hj ⊢
      obtain ⟨vl,vn,_,_,q⟩:=hsl
      exact z9K w0 w bc d _ lv nd i j c a hC hc0 hj (q.hss.first hj).1
    | cons x l=>
      obtain rfl:=hU.leaf
      obtain rfl:n=1:=by simpa using hl.symm
      obtain ⟨vl,vn,_,q,_⟩:=hsl
      exact zeY w0 w bc d k hN lv nd i j 1 c a (by decide) hC hc0 hi (q.hss.first hi).1
  | succ h ih=>
    intro k hN L a n c lv nd i j w hl hn hU hc hnil hbl hL hC hi hj
    by_cases hLe:L=[]
    · subst hLe
      obtain rfl:n=0:=by simpa using hl.symm
      rw [z0v] at hj ⊢
      obtain ⟨vl,vn,_,_,q⟩:=hC.1
      rw [z69]
      exact z9K w0 w bc d _ lv nd i j c a hC hc0 hj (q.hss.first hj).1
    · obtain ⟨r,hr⟩:=z1h hU.1 ((2*k+1)*2 ^ h)
      have hN':=z1A hLe hr
      have hle:=hr.le
      rw [hN',List.length_append] at hj
      obtain ⟨hNl,hNr⟩:=hN.kid
      have ht:(L.take r).length=r:=by rw [List.length_take];omega
      have hd:(L.drop r).length=n - r:=by rw [List.length_drop,hl]
      obtain ⟨vl,vn,_,q1,q2⟩:=hC.1
      have s1:=z3Q d h (2*k) (L.take r) lv nd i j (hU.left hr) q1.hss q2.hss (by omega) (by omega)
      have s2:=z3Q d h (2*k+1) (L.drop r) _ _ _ _ (hU.right hr) s1.2.1 s1.2.2 (by omega) (by omega)
      have hp:0<L.length:=List.length_pos_iff.2 hLe
      have hL1:NUML w0 a (L.take r):=fun h0=>by
        obtain ⟨b,o,e,hl,hcc⟩:=hL hp
        refine ⟨b,o,e,hl,fun i x hx=>hcc i x ?_⟩
        rw [List.getElem?_take] at hx
        split at hx
        · exact hx
        · cases hx
      have cu:=zeZ w0 w bc d h k hN L a n c hl hn hU.1 hc hnil hbl hL (by omega) lv nd _ _ _ _ _ _ i j _ _ _ _ hC hc0 hX s1.1 s2.1
        (fun r' W hr' hW=>by
          obtain rfl:=z6J hr' hr
          exact ih (2*k) hNl (L.take r') a r' c lv nd i j W ht (by omega) (hU.left hr) (by omega) hnil hbl hL1 hW (by omega) (by omega))
        (fun r' a' W hr' hLa hba hna hW=>by
          obtain rfl:=z6J hr' hr
          exact ih (2*k+1) hNr (L.drop r') a' (n - r') (c - r') _ _ _ _ W hd (by omega) (hU.right hr) (by omega) hna hba hLa hW (by omega) (by omega))
      rw [z5e hLe hr,hN',List.length_append]
      rwa [show i - r - (n - r)=i - n by omega,Nat.sub_sub] at cu
end Go.Proofs.YtjkjlblongeljaaGreatDoor

namespace Go.Proofs.YtjkjlblongeljaaGreatDoor
set_option maxRecDepth 100000
def TPS (n:Nat):List (Nat × Nat):=(HS 0 n).map fun h=>(h,2*(n / 2 ^ (h+1)))
theorem z4E {α:Type}:∀ {l:List α} {j:Nat} {x:α},l[j]?=some x→l.drop j=x :: l.drop (j+1)
  | [],j,x,h=>by simp at h
  | y :: l,0,x,h=>by
    simp only [List.getElem?_cons_zero,Option.some.injEq] at h
    rw [h]
    rfl
  | y :: l,j+1,x,h=>by
    rw [List.getElem?_cons_succ] at h
    rw [List.drop_succ_cons,List.drop_succ_cons]
    exact z4E h
theorem z2e {n:Nat} (hn:n<2 ^ 64):(TPS n).length=PC n:=by
  rw [TPS,List.length_map,z3b hn 0 (by decide),Nat.pow_zero,Nat.div_one]
theorem z3R {n j h k:Nat} (e:(TPS n)[j]?=some (h,k)):(z1Q n)[j]?=some (PLC h k):=by
  unfold TPS at e
  unfold z1Q
  rw [List.getElem?_map] at e ⊢
  cases hj:(HS 0 n)[j]? with
  | none=>rw [hj] at e;cases e
  | some x=>
    rw [hj] at e
    simp only [Option.map_some,Option.some.injEq,Prod.mk.injEq] at e
    obtain ⟨rfl,rfl⟩:=e
    rfl
theorem z7Q {h k:Nat} (hh:h≤62) (hs:(k+1)*2 ^ h≤2 ^ 62):Node h k:=by
  refine ⟨hh,?_⟩
  rcases Nat.lt_or_ge k (2 ^ (62 - h)) with h1 | h1
  · exact h1
  · have h2:(2 ^ (62 - h)+1)*2 ^ h≤(k+1)*2 ^ h:=Nat.mul_le_mul_right _ (by omega)
    rw [Nat.add_mul,← Nat.pow_add,show 62 - h+h=62 by omega] at h2
    have:=Nat.two_pow_pos h
    omega
theorem z1Z {n h k:Nat} (hn:n≤2 ^ 62) (hm:(h,k)∈TPS n):h≤62∧(k+1)*2 ^ h≤n∧Node h k:=by
  unfold TPS at hm
  rw [List.mem_map] at hm
  obtain ⟨x,hx,e⟩:=hm
  simp only [Prod.mk.injEq] at e
  obtain ⟨rfl,rfl⟩:=e
  obtain ⟨_,h2,h3⟩:=z4b 0 x (by decide) hx
  have h4:2*(n / 2 ^ (x+1))+1=n / 2 ^ x:=by
    rw [Nat.pow_succ,← Nat.div_div_eq_div_mul]
    omega
  have h5:(2*(n / 2 ^ (x+1))+1)*2 ^ x≤n:=by rw [h4];exact Nat.div_mul_le_self n (2 ^ x)
  have h6:x≤62:=by
    rcases Nat.lt_or_ge 62 x with h7 | h7
    · have h8:2 ^ 63≤2 ^ x:=Nat.pow_le_pow_right (by decide) h7
      have h9:1*2 ^ x≤(2*(n / 2 ^ (x+1))+1)*2 ^ x:=Nat.mul_le_mul_right _ (by omega)
      omega
    · exact h7
  exact ⟨h6,h5,z7Q h6 (by omega)⟩
theorem z2F:∀ (ps:List (Nat × Nat)) (L:List Nat),(∀ p∈ps,p.1≤62)→(z08 ps L).length≤L.length*62+ps.length
  | [],L,_=>by simp [z08]
  | (h,k) :: ps,L,hp=>by
    rw [z08,List.length_append,List.length_cons]
    have h1:=zbD h k (L.filter fun y=>decide (y<(k+1)*2 ^ h))
    have h2:=z2F ps (L.filter fun y=>!decide (y<(k+1)*2 ^ h)) (fun p hm=>hp p (List.mem_cons_of_mem _ hm))
    have h3:=z3l (fun y=>decide (y<(k+1)*2 ^ h)) L
    have h4:h≤62:=hp (h,k) (List.mem_cons_self ..)
    have h5:(L.filter fun y=>decide (y<(k+1)*2 ^ h)).length*h≤(L.filter fun y=>decide (y<(k+1)*2 ^ h)).length*62:=Nat.mul_le_mul_left _ h4
    generalize (L.filter fun y=>decide (y<(k+1)*2 ^ h)).length*h=u at *
    generalize (L.filter fun y=>decide (y<(k+1)*2 ^ h)).length=p at *
    generalize (L.filter fun y=>!decide (y<(k+1)*2 ^ h)).length=q at *
    omega
end Go.Proofs.YtjkjlblongeljaaGreatDoor

namespace Go.Proofs.YtjkjlblongeljaaGreatDoor
set_option maxRecDepth 100000
def NSP:Nat→Nat→List Nat→List (Nat × Nat)
  | h,k,[]=>[(h,k)]
  | 0,_,_ :: _=>[]
  | h+1,k,x :: l=>NSP h (2*k) ((x :: l).filter fun y=>decide (y<(2*k+1)*2 ^ h)) ++ NSP h (2*k+1) ((x :: l).filter fun y=>!decide (y<(2*k+1)*2 ^ h))
def SPL (s:Nat × Nat):Nat:=PLC s.1 s.2
theorem z4F (h k:Nat):NSP h k []=[(h,k)]:=by cases h <;> rfl
theorem z5h:∀ (h k:Nat) (L:List Nat),NEED h k L=(NSP h k L).map SPL
  | h,k,[]=>by rw [z0v,z4F];rfl
  | 0,_,_ :: _=>rfl
  | h+1,k,x :: l=>by rw [z4e,NSP,List.map_append,← z5h h,← z5h h]
def NSPS:List (Nat × Nat)→List Nat→List (Nat × Nat)
  | [],_=>[]
  | (h,k) :: ps,L=>NSP h k (L.filter fun y=>decide (y<(k+1)*2 ^ h)) ++ NSPS ps (L.filter fun y=>!decide (y<(k+1)*2 ^ h))
theorem z1L:∀ (ps:List (Nat × Nat)) (L:List Nat),z08 ps L=(NSPS ps L).map SPL
  | [],_=>rfl
  | (h,k) :: ps,L=>by rw [z08,NSPS,List.map_append,z5h,z1L ps]
def FRS (s:Nat × Nat):Nat:=s.2*2 ^ s.1
def TOE (s:Nat × Nat):Nat:=(s.2+1)*2 ^ s.1
structure COVER (A B:Nat) (L:List Nat) (l:List (Nat × Nat)):Prop where
  within:∀ s∈l,A≤FRS s∧TOE s≤B
  off:∀ s∈l,∀ x∈L,¬ (FRS s≤x∧x<TOE s)
  sum:(l.map fun s=>2 ^ s.1).sum+L.length=B - A
  order:l.Pairwise fun s t=>TOE s≤FRS t
def MET (L:List Nat) (s:Nat × Nat):Prop:=∃ x∈L,FRS (s.1+1,s.2 / 2)≤x∧x<TOE (s.1+1,s.2 / 2)
theorem MET.mono {L L':List Nat} {s:Nat × Nat} (h:MET L s) (hm:∀ x∈L,x∈L'):MET L' s:=by
  obtain ⟨x,hx,h1⟩:=h
  exact ⟨x,hm x hx,h1⟩
theorem zfQ {n:Nat} (hn:n≤4611686018427387904):TPS n=PKS n 0 (PC n):=by
  apply List.ext_getElem?
  intro i
  by_cases hi:i<PC n
  · rw [zbV hi]
    unfold TPS
    rw [List.getElem?_map,(z2z (by omega) hi).1]
    rfl
  · rw [List.getElem?_eq_none (by rw [z2e (by omega)];omega),List.getElem?_eq_none (by simp [PKS];omega)]
theorem z20 {n:Nat} (hn:n≤4611686018427387904):Tile 0 (TPS n) n:=by
  rw [zfQ hn]
  exact (z7L hn (PC n) 0 (by omega)).1
end Go.Proofs.YtjkjlblongeljaaGreatDoor

namespace Go.Proofs.YtjkjlblongeljaaGreatDoor
open Go.RowKit
set_option maxRecDepth 100000
def z3f:Option Nat→Nat→Bool
  | none,_=>false
  | some y,x=>decide (x≤y)
def RCHK (n:Nat):Option Nat→List Nat→Int
  | _,[]=>0
  | prev,x :: l=>if z3f prev x=true then 71 else if n≤x then 32 else RCHK n (some x) l
def z0c (L:List Nat) (n:Nat):Int:=if 4611686018427387904<n then 30 else RCHK n none L
theorem z9L {n:Nat}:∀ {prev:Option Nat} {L:List Nat},RCHK n prev L=0→(∀ x∈L,x<n)∧RISES L∧∀ y,prev=some y→∀ x∈L,y<x
  | _,[],_=>⟨(fun x h=>by cases h),(fun i j x y _ h=>by simp at h),(fun y _ x h=>by cases h)⟩
  | prev, x :: l,h=>by
    rw [RCHK] at h
    split at h
    · cases h
    · rename_i h1
      split at h
      · cases h
      · rename_i h2
        obtain ⟨a1,a2,a3⟩:=z9L h
        refine ⟨fun y hy=>?_,fun i j u v hij hu hv=>?_,fun y hy z hz=>?_⟩
        · rcases List.mem_cons.1 hy with rfl | hy
          · omega
          · exact a1 y hy
        · cases i with
          | zero=>
            cases j with
            | zero=>omega
            | succ j=>
              simp only [List.getElem?_cons_zero,Option.some.injEq] at hu
              rw [List.getElem?_cons_succ] at hv
              subst hu
              exact a3 x rfl v (List.mem_of_getElem? hv)
          | succ i=>
            cases j with
            | zero=>omega
            | succ j=>
              rw [List.getElem?_cons_succ] at hu hv
              exact a2 i j u v (by omega) hu hv
        · subst hy
          have h1:¬ x≤y:=fun h=>h1 (decide_eq_true h)
          rcases List.mem_cons.1 hz with rfl | hz
          · omega
          · have:=a3 x rfl z hz
            omega
theorem z1q {n:Nat} {L:List Nat} (h:z0c L n=0):n≤4611686018427387904∧RISES L∧∀ x∈L,x<n:=by
  unfold z0c at h
  split at h
  · cases h
  · obtain ⟨a1,a2,_⟩:=z9L h
    exact ⟨by omega,a2,a1⟩
def z0x (x:Int):List PanicEntry:=[{v:=.iface 130 (.int .i64 x),recovered:=false}]
def ROSE (L:List Nat) (n:Nat) (w:World) (e:Ending) (w':World):Prop:=w=w'∧((z0c L n=0∧e=.returned (.tuple #[]))∨(z0c L n≠0∧e=.panicked (z0x (z0c L n))))
def AHD (L:List Nat):Nat→Option Nat
  | 0=>none
  | j+1=>L[j]?
theorem z6K {L:List Nat} {j x:Nat} (h:L[j]?=some x):L.drop j=x :: L.drop (j+1):=by
  induction L generalizing j with
  | nil=>simp at h
  | cons y l ih=>
    cases j with
    | zero=>simp at h;simp [h]
    | succ j=>simp at h;simp;exact ih h
set_option maxHeartbeats 1000000 in
theorem zdM (L:List Nat) (n:Nat) (hn:(4611686018427387904:Int)<(n:Int)) (a:Option Addr) (m c:Nat) (w:World):Calls Tryz.prog 78 #[.slice a m c,.int .u64 (n:Int)] w (ROSE L n w):=by
  have e:z0c L n=30:=by unfold z0c;rw [if_pos (by omega)]
  have E:Aside (z0c L n=30):=e
  clear e
  go_enter Tryz.func78,Tryz.ntmps78
  go_wp2_with fail
  exact ⟨rfl,rfl,.inr ⟨by rw [E.out];decide,by rw [E.out];rfl⟩⟩
set_option maxHeartbeats 2000000 in
theorem z4V (L:List Nat) (n:Nat) (a:Option Addr) (m c:Nat) (hl:L.length=m) (hm:m<2 ^ 40) (w:World) (hL:NUML w a L):Calls Tryz.prog 78 #[.slice a m c,.int .u64 (n:Int)] w (ROSE L n w):=by
  by_cases hn:(4611686018427387904:Int)<(n:Int)
  · exact zdM L n hn a m c w
  · have e:z0c L n=RCHK n none L:=by unfold z0c;rw [if_neg (by omega)]
    have HA:Aside (L.length=m∧m<2 ^ 40∧NUML w a L∧z0c L n=RCHK n none L):=⟨hl,hm,hL,e⟩
    clear hl hm hL e
    go_enter Tryz.func78,Tryz.ntmps78
    go_wp2_with fail
    go_loopg [11] m (fun q s11 wx=>∃ j:Nat,s11=.int .i64 (j:Int)∧Aside (j+q=m∧z0c L n=RCHK n (AHD L j) (L.drop j))∧wx=w)
    case atStart=>exact ⟨0,rfl,⟨by omega,HA.out.2.2.2⟩,rfl⟩
    case round=>
      obtain ⟨j,rfl,A,rfl⟩:=hrel
      cases gk with
      | zero=>
        obtain rfl:j=m:=by have:=A.out.1;omega
        have hlt:¬ (j:Int)<(j:Int):=by omega
        have FN:Aside (z0c L n=0):=by
          have h1:=A.out.2
          rw [List.drop_of_length_le (by have:=HA.out.1;omega)] at h1
          exact h1
        clear A HA
        go_wp2_with fail
        exact bodyPost_end (v:=.tuple #[]) (by simp [results,Tryz.f78]) rfl ⟨rfl,.inl ⟨FN.out,rfl⟩⟩
      | succ q=>
        have hjm:j<m:=by have:=A.out.1;omega
        have hlt:(j:Int)<(m:Int):=by omega
        obtain ⟨x,ex⟩:∃ x,L[j]?=some x:=⟨_,List.getElem?_eq_getElem (by have:=HA.out.1;omega)⟩
        obtain ⟨b,o,rfl,hb,hcc⟩:=HA.out.2.2.1 (by have:=HA.out.1;omega)
        have x0:=hcc j x ex
        have ej:wrap64 ((j:Int)+1)=((j+1:Nat):Int):=by have:=HA.out.2.1;unfold wrap64;omega
        have hch:z0c L n=if z3f (AHD L j) x=true then 71 else if n≤x then 32 else RCHK n (some x) (L.drop (j+1)):=by
          rw [A.out.2,z6K ex,RCHK]
        have hnx:AHD L (j+1)=some x:=ex
        rcases Nat.eq_zero_or_pos j with hj0 | hj0
        · have hz:¬ (0:Int)<(j:Int):=by omega
          have hch:z0c L n=if n≤x then 32 else RCHK n (some x) (L.drop (j+1)):=by
            rw [hch,hj0,if_neg (by simp [AHD,z3f])]
          by_cases hx:n≤x
          · have hx':(n:Int)≤(x:Int):=by omega
            rw [if_pos hx] at hch
            have FN:Aside (z0c L n=32):=hch
            clear A HA hch hnx hcc hx hj0 ex hjm
            go_wp2_with fail
            exact ⟨rfl,rfl,.inr ⟨by rw [FN.out];decide,by rw [FN.out];rfl⟩⟩
          · have hx':¬ (n:Int)≤(x:Int):=by omega
            rw [if_neg hx] at hch
            have Z:Aside (j+1+q=m∧z0c L n=RCHK n (AHD L (j+1)) (L.drop (j+1))):=⟨by have:=A.out.1;clear ej;omega,by rw [hnx];exact hch⟩
            clear A hch hnx hcc hx hj0 ex hjm
            go_wp2_with fail
            go_roundg q
            case measure=>exact Nat.lt_succ_self _
            case rel=>exact ⟨j+1,by first | rfl | (rw [ej]),Z.out,rfl⟩
        · obtain ⟨i,hi⟩:∃ i,j=i+1:=⟨j - 1,by omega⟩
          obtain ⟨y,ey⟩:∃ y,L[i]?=some y:=⟨_,List.getElem?_eq_getElem (by have:=HA.out.1;omega)⟩
          have y0:=hcc i y ey
          have ei:wrap64 ((j:Int) - 1)=(i:Int):=by have:=HA.out.2.1;unfold wrap64;omega
          have him:(i:Int)<(m:Int):=by omega
          have hi0:(0:Int)<(j:Int):=by omega
          have hch:z0c L n=if z3f (some y) x=true then 71 else if n≤x then 32 else RCHK n (some x) (L.drop (j+1)):=by
            rw [hch,show AHD L j=some y by rw [hi];exact ey]
          by_cases hxy:x≤y
          · have hxy':(x:Int)≤(y:Int):=by omega
            rw [if_pos (show z3f (some y) x=true from decide_eq_true hxy)] at hch
            have FN:Aside (z0c L n=71):=hch
            clear A HA hch hnx hcc hxy hj0 hi ex ey hjm
            go_wp2_with fail
            exact ⟨rfl,rfl,.inr ⟨by rw [FN.out];decide,by rw [FN.out];rfl⟩⟩
          · have hxy':¬ (x:Int)≤(y:Int):=by omega
            rw [if_neg (show ¬ z3f (some y) x=true from fun h=>hxy (of_decide_eq_true h))] at hch
            by_cases hx:n≤x
            · have hx':(n:Int)≤(x:Int):=by omega
              rw [if_pos hx] at hch
              have FN:Aside (z0c L n=32):=hch
              clear A HA hch hnx hcc hx hxy hj0 hi ex ey hjm
              go_wp2_with fail
              exact ⟨rfl,rfl,.inr ⟨by rw [FN.out];decide,by rw [FN.out];rfl⟩⟩
            · have hx':¬ (n:Int)≤(x:Int):=by omega
              rw [if_neg hx] at hch
              have Z:Aside (j+1+q=m∧z0c L n=RCHK n (AHD L (j+1)) (L.drop (j+1))):=⟨by have:=A.out.1;clear ej ei;omega,by rw [hnx];exact hch⟩
              clear A hch hnx hcc hx hxy hj0 hi ex ey hjm
              go_wp2_with fail
              go_roundg q
              case measure=>exact Nat.lt_succ_self _
              case rel=>exact ⟨j+1,by first | rfl | (rw [ej]),Z.out,rfl⟩
end Go.Proofs.YtjkjlblongeljaaGreatDoor
