/- Texts of ManyAccepts, one behind the other: ManyClimbCall, ManyRefClimb, ManyRefBag, VerifyUnder, VerifyRooted, ManyEqual, ProofInTurn, ProofSteps, ManyReader. -/
import Derived.BigQuiet
import Derived.Test.YtjkjlblongeljaaGreatDoorManyAcceptsP31
namespace Go.Proofs.YtjkjlblongeljaaGreatDoor
open Go.RowKit
set_option maxRecDepth 100000
def MCE (L:List Nat) (N K nl:Nat):Int:=if MWA L N K≠0 then MWA L N K else if nl≠L.length then 70 else 0
theorem z6Y {L:List Nat} {N K nl:Nat} (h:MWA L N K≠0):MCE L N K nl=MWA L N K:=if_pos h
theorem z4t {L:List Nat} {N K nl:Nat} (h:MWA L N K=0) (hn:nl≠L.length):MCE L N K nl=70:=by
  unfold MCE
  rw [if_neg (by simpa using h),if_pos hn]
theorem zcr {L:List Nat} {N K nl:Nat} (h:MWA L N K=0) (hn:nl=L.length):MCE L N K nl=0:=by
  unfold MCE
  rw [if_neg (by simpa using h),if_neg (by simpa using hn)]
def MCL (d:Int) (L:List Nat) (N K nl:Nat) (lv nd:List Int):Int × Nat × List Int:=if MCE L N K nl=0 then (0,PC N,MUPS d (TPS N) L lv nd) else (MCE L N K nl,0,[])
structure CLMD (w w':World) (b3 n:Nat) (Z:List Int):Prop where
  row:∃ v,Has w' b3 #[v] 22∧w'.ownsRow w.heap.size 35 32 v n (z00 Z)
  keep:∀ b,b<w.heap.size→b≠b3→w'.heap[b]?=w.heap[b]?
  below:Below b3 w w'
set_option maxHeartbeats 4000000 in
theorem zb7 (d:Int) (L:List Nat) (N:Nat) (a:Option Addr) (m c:Nat) (an:Option Addr) (K cn:Nat) (al:Option Addr) (nl cl:Nat) (lv nd:List Int) (b0 b1 b2 b3:Nat) (w:World) (hl:L.length=m) (hm:m<2 ^ 20) (hc:m≤c) (hnil:a=none→c=0) (hbl:∀ x,a=some x→x.block<w.heap.size∧x.spot=none) (hK:K<2 ^ 20) (hL:NUML w a L)
    (hcn:K≤cn) (hna:∀ x,an=some x→x.block<w.heap.size) (hFn:Flat w an K nd) (hcl:nl≤cl) (hla:∀ x,al=some x→x.block<w.heap.size) (hFl:Flat w al nl lv) (hT:Tabled w) (hX:HX.Tabled w) (hw0:0<w.heap.size)
    (h0:Has w b0 (MBOX N a m c an K cn) 46) (h1:Has w b1 #[.slice al nl cl] 22) (h2:Has w b2 #[.int .i64 d] 3) (h3:Has w b3 #[.slice none 0 0] 22):
    Calls Tryz.prog 90 #[.pointer (some ⟨b0,0,none⟩),.pointer (some ⟨b1,0,none⟩),.pointer (some ⟨b2,0,none⟩),.pointer (some ⟨b3,0,none⟩)] w fun e w'=>
      (e=.returned (.tuple #[])∧(MCE L N K nl=0∧CLMD w w' b3 (PC N) (MUPS d (TPS N) L lv nd)))∨∃ x,e=.panicked (z0x x)∧(x=MCE L N K nl∧x≠0∧Below w.heap.size w w'):=by
  have cm:=z4n L N a m c an K cn w hl hm hc hnil hbl hK hL hT hw0
  have hM:(MBOX N a m c an K cn)=#[.int .u64 (N:Int),.slice a m c,.slice an K cn]:=rfl
  have x0:w.cell? ⟨b0,0,none⟩=some (.int .u64 (N:Int)):=h0.cell 0
  have x1:w.cell? ⟨b0,1,none⟩=some (.slice a m c):=h0.cell 1
  have x2:w.cell? ⟨b0,2,none⟩=some (.slice an K cn):=h0.cell 2
  have HH:Aside (Has w b0 (MBOX N a m c an K cn) 46∧Has w b1 #[.slice al nl cl] 22∧Has w b2 #[.int .i64 d] 3∧Has w b3 #[.slice none 0 0] 22):=⟨h0,h1,h2,h3⟩
  have HA:Aside (L.length=m∧m<2 ^ 20∧m≤c∧(a=none→c=0)∧(∀ x,a=some x→x.block<w.heap.size∧x.spot=none)∧NUML w a L):=⟨hl,hm,hc,hnil,hbl,hL⟩
  have HB:Aside (K≤cn∧(∀ x,an=some x→x.block<w.heap.size)∧Flat w an K nd∧nl≤cl∧(∀ x,al=some x→x.block<w.heap.size)∧Flat w al nl lv∧Tabled w∧HX.Tabled w∧0<w.heap.size):=⟨hcn,hna,hFn,hcl,hla,hFl,hT,hX,hw0⟩
  clear hl hm hc hnil hbl hK hL hcn hna hFn hcl hla hFl hT hX hw0 h0 h1 h2 h3
  rw [hM] at cm
  go_enter Tryz.func90,Tryz.ntmps90
  go_wp2_with fail
  refine cm.mono ?_
  rintro e w1 ⟨hb1,(⟨hr,rfl⟩ | ⟨hr,rfl⟩)⟩
  · clear cm x0 x1 x2
    obtain ⟨q1,q2⟩:=z5G hr
    have k0:=HH.out.1.keep hb1
    have k1:=HH.out.2.1.keep hb1
    have k2:=HH.out.2.2.1.keep hb1
    have x0:w1.cell? ⟨b0,0,none⟩=some (.int .u64 (N:Int)):=k0.cell 0
    have x1:w1.cell? ⟨b0,1,none⟩=some (.slice a m c):=k0.cell 1
    have x2:w1.cell? ⟨b0,2,none⟩=some (.slice an K cn):=k0.cell 2
    have x3:w1.cell? ⟨b1,0,none⟩=some (.slice al nl cl):=k1.cell 0
    have x4:w1.cell? ⟨b2,0,none⟩=some (.int .i64 d):=k2.cell 0
    by_cases hnl:nl=m
    · subst hnl
      obtain ⟨r1,r2,r3⟩:=z1q q1
      obtain ⟨p1,p2,p3,p4,p5,p6⟩:=HA.out
      obtain ⟨s1,s2,s3,s4,s5,s6,s7,s8,s9⟩:=HB.out
      have cc:=zaI d L N a nl c al cl an K cn lv nd w1 (by omega) p1 p2 r2 r3 p3 p4 (fun x e=>⟨Nat.lt_of_lt_of_le (p5 x e).1 hb1.size,(p5 x e).2⟩) (fun hp=>by
        obtain ⟨b,o,e,hlt,hcc⟩:=p6 hp
        exact ⟨b,o,e,Nat.lt_of_lt_of_le hlt hb1.size,fun i x hx=>(hb1.cell (p:=⟨b,o+i,none⟩) hlt).trans (hcc i x hx)⟩) s4 (fun x e=>Nat.lt_of_lt_of_le (s5 x e) hb1.size) (s6.below hb1) s1 (fun x e=>Nat.lt_of_lt_of_le (s2 x e) hb1.size) (s3.below hb1) q2 (s7.below s9 hb1) (s8.below hb1) (by have:=hb1.size;omega)
      rw [hM] at cc
      have HR:Aside (MCE L N K nl=0∧Below w.heap.size w w1):=⟨zcr hr p1.symm,hb1⟩
      clear hr q1 q2 r1 r2 r3 hb1 k0 k1 k2 p1 p2 p3 p4 p5 p6 s1 s2 s3 s4 s5 s6 s7 s8 s9 HA HB
      go_wp2_with fail
      refine cc.mono ?_
      rintro e w2 ⟨av,cv,rfl,hown,hb2⟩
      clear cc x0 x1 x2 x3 x4
      generalize hvv:Value.slice av (PC N) cv=v at *
      have hw2:Below w.heap.size w w2:=HR.out.2.trans (hb2.mono HR.out.2.size)
      have k3:=HH.out.2.2.2.keep hw2
      have c3:=k3.cell 0
      have f3:=k3.frozen 0
      have FN:Aside (CLMD w (w2.setCell ⟨b3,0,none⟩ v) b3 (PC N) (MUPS d (TPS N) L lv nd)):=by
        have hlt:=HH.out.2.2.2.lt
        refine ⟨⟨v,k3.set 0 v,z0i (ownsRow_setCell_below hown (a:=⟨b3,0,none⟩) (by show b3<w1.heap.size;have:=HR.out.2.size;omega) _) HR.out.2.size⟩,fun b hb hne=>(Below.heap_setCell _ _ _ _ (by exact hne)).trans (hw2.block b hb),?_⟩
        exact (hw2.mono (Nat.le_of_lt hlt)).setCell (p:=⟨b3,0,none⟩) (Nat.le_refl _) _
      subst hvv
      clear hown hb2 hw2 k3 HH
      go_wp2_with fail
      exact bodyPost_end (v:=.tuple #[]) (by simp [results,Tryz.f90]) rfl (.inl ⟨rfl,HR.out.1,FN.out⟩)
    · have hne:((nl:Int) == (m:Int))=false:=beq_eq_false_iff_ne.2 (by omega)
      have FN:Aside (MCE L N K nl=70∧Below w.heap.size w w1):=⟨z4t hr (by rw [HA.out.1];exact hnl),hb1⟩
      clear hr q1 q2 hb1 k0 k1 k2 HA HB HH hnl
      go_wp2_with fail
      exact ⟨rfl,.inr ⟨70,rfl,FN.out.1.symm,by decide,FN.out.2⟩⟩
  · exact ⟨rfl,.inr ⟨_,rfl,(z6Y hr).symm,hr,hb1⟩⟩
def ANSC (w:World) (A:Int × Nat × List Int) (e:Ending) (w':World):Prop:=∃ a c,e=.returned (.tuple #[.slice a A.2.1 c,.int .i64 A.1])∧w'.ownsRow w.heap.size 35 32 (.slice a A.2.1 c) A.2.1 (z00 A.2.2)∧Below w.heap.size w w'
set_option maxHeartbeats 4000000 in
theorem z89 (d:Int) (L:List Nat) (N:Nat) (a:Option Addr) (m c:Nat) (an:Option Addr) (K cn:Nat) (al:Option Addr) (nl cl:Nat) (lv nd:List Int) (w:World) (hl:L.length=m) (hm:m<2 ^ 20) (hc:m≤c) (hnil:a=none→c=0) (hbl:∀ x,a=some x→x.block<w.heap.size∧x.spot=none) (hK:K<2 ^ 20) (hL:NUML w a L)
    (hcn:K≤cn) (hna:∀ x,an=some x→x.block<w.heap.size) (hFn:Flat w an K nd) (hcl:nl≤cl) (hla:∀ x,al=some x→x.block<w.heap.size) (hFl:Flat w al nl lv) (hT:Tabled w) (hX:HX.Tabled w) (hw0:0<w.heap.size):
    Calls Tryz.prog 51 #[.int .i64 d,.slice al nl cl,.agg (MBOX N a m c an K cn)] w (ANSC w (MCL d L N K nl lv nd)):=by
  have hmf:∀ (fn:Fn) (first cap:Array Value) (w:World),(Instr.makeFunc fn first cap).run Tryz.prog w=.ok (.func fn first cap) w:=fun _ _ _ _=>rfl
  obtain ⟨w1,e1⟩:∃ w1,w.alloc (.cells #[.int .i64 d] 3)=w1:=⟨_,rfl⟩
  obtain ⟨w2,e2⟩:∃ w2,w1.alloc (.cells #[.slice al nl cl] 22)=w2:=⟨_,rfl⟩
  obtain ⟨w3,e3⟩:∃ w3,w2.alloc (.cells (MBOX N a m c an K cn) 46)=w3:=⟨_,rfl⟩
  obtain ⟨w4,e4⟩:∃ w4,w3.alloc (.cells #[.slice none 0 0] 22)=w4:=⟨_,rfl⟩
  obtain ⟨w5,e5⟩:∃ w5,w4.alloc (.cells #[.int .i64 0] 26)=w5:=⟨_,rfl⟩
  have s1:w1.heap.size=w.heap.size+1:=by rw [← e1];simp
  have s2:w2.heap.size=w.heap.size+2:=by rw [← e2];simp;omega
  have s3:w3.heap.size=w.heap.size+3:=by rw [← e3];simp;omega
  have s4:w4.heap.size=w.heap.size+4:=by rw [← e4];simp;omega
  have s5:w5.heap.size=w.heap.size+5:=by rw [← e5];simp;omega
  have hb5:Below w.heap.size w w5:=by
    rw [← e5,← e4,← e3,← e2,← e1]
    exact (((((Below.refl _ _).alloc (Nat.le_refl _) _).alloc (by simp) _).alloc (by simp;omega) _).alloc (by simp;omega) _).alloc (by simp;omega) _
  have h2:Has w5 w.heap.size #[.int .i64 d] 3:=by
    rw [← e5,← e4,← e3,← e2,← e1]
    exact ((((Has.new w _ _).alloc _).alloc _).alloc _).alloc _
  have h1:Has w5 w1.heap.size #[.slice al nl cl] 22:=by
    rw [← e5,← e4,← e3,← e2]
    exact (((Has.new w1 _ _).alloc _).alloc _).alloc _
  have h0:Has w5 w2.heap.size (MBOX N a m c an K cn) 46:=by
    rw [← e5,← e4,← e3]
    exact ((Has.new w2 _ _).alloc _).alloc _
  have h3:Has w5 w3.heap.size #[.slice none 0 0] 22:=by
    rw [← e5,← e4]
    exact (Has.new w3 _ _).alloc _
  have h4:Has w5 w4.heap.size #[.int .i64 0] 26:=by
    rw [← e5]
    exact Has.new w4 _ _
  have hL5:NUML w5 a L:=fun hp=>by
    obtain ⟨b,o,e,hlt,hcc⟩:=hL hp
    exact ⟨b,o,e,by omega,fun i x hx=>(hb5.cell (p:=⟨b,o+i,none⟩) hlt).trans (hcc i x hx)⟩
  have cd:=zb7 d L N a m c an K cn al nl cl lv nd w2.heap.size w1.heap.size w.heap.size w3.heap.size w5 hl hm hc hnil (fun x e=>⟨by have:=(hbl x e).1;omega,(hbl x e).2⟩) hK hL5 hcn (fun x e=>by have:=hna x e;omega) (hFn.below hb5) hcl (fun x e=>by have:=hla x e;omega) (hFl.below hb5) (hT.below hw0 hb5) (hX.below hb5) (by omega) h0 h1 h2 h3
  rw [← e5] at cd
  have cf:=ze9 w2.heap.size w1.heap.size w.heap.size w3.heap.size w4 _ _ cd
    (fun w' ⟨_,ht⟩=>by
      rw [e5] at ht
      exact (ht.keep w4.heap.size (by omega) (by omega)).trans h4)
    (fun x w' ⟨_,_,hb⟩=>by rw [e5] at hb;exact h4.keep hb)
  rw [e5] at cf
  have FIN:Aside (∀ e w',z3h w4 (fun w'=>MCE L N K nl=0∧CLMD w5 w' w3.heap.size (PC N) (MUPS d (TPS N) L lv nd)) (fun x w'=>x=MCE L N K nl∧x≠0∧Below w5.heap.size w5 w') e w'→e=.returned (.int .i64 (MCL d L N K nl lv nd).1)∧Below w.heap.size w w'∧∃ a' c',Has w' w3.heap.size #[.slice a' (MCL d L N K nl lv nd).2.1 c'] 22∧w'.ownsRow w.heap.size 35 32 (.slice a' (MCL d L N K nl lv nd).2.1 c') (MCL d L N K nl lv nd).2.1 (z00 (MCL d L N K nl lv nd).2.2)):=by
    rintro e w' (⟨rfl,wx,⟨hr,ht⟩,rfl⟩ | ⟨x,wx,rfl,⟨rfl,hx,hbx⟩,rfl⟩)
    · have hP:MCL d L N K nl lv nd=(0,PC N,MUPS d (TPS N) L lv nd):=if_pos hr
      obtain ⟨v,hv,hown⟩:=ht.row
      obtain ⟨a',c',rfl⟩:=z6f hown
      rw [hP]
      refine ⟨rfl,?_,a',c',?_,?_⟩
      · exact ((hb5.trans (ht.below.mono (by omega)))).setCell (by show w.heap.size≤w4.heap.size;omega) _
      · exact hv.other (by show w3.heap.size≠w4.heap.size;omega) _
      · exact z0i (ownsRow_setCell_below hown (a:=⟨w4.heap.size,0,none⟩) (by show w4.heap.size<w5.heap.size;omega) _) (by omega)
    · have hP:MCL d L N K nl lv nd=(MCE L N K nl,0,[]):=if_neg hx
      rw [hP]
      refine ⟨rfl,(hb5.trans (hbx.mono hb5.size)).setCell (by show w.heap.size≤w4.heap.size;omega) _,none,0,?_,?_⟩
      · exact (h3.keep hbx).other (by show w3.heap.size≠w4.heap.size;omega) _
      · exact ⟨rfl,.inl ⟨rfl,rfl⟩⟩
  have hM:(MBOX N a m c an K cn)=#[.int .u64 (N:Int),.slice a m c,.slice an K cn]:=rfl
  rw [hM] at e3
  clear cd h0 h1 h2 h3 h4 hL5 hb5 hl hm hc hnil hbl hL hFl hFn hT hX hcn hna hcl hla s1 s2 s3 s4 s5 e5 hw0 hK
  generalize MCL d L N K nl lv nd=A at *
  go_enter Tryz.func51,Tryz.ntmps51
  rw [hM]
  go_wp2_with fail
  refine cf.mono ?_
  intro e w6 hh
  obtain ⟨rfl,hb6,a',c',hv,hown⟩:=FIN.out e w6 hh
  have x0:=hv.cell 0
  have FN:Aside (ANSC w A (.returned (.tuple #[.slice a' A.2.1 c',.int .i64 A.1])) w6):=⟨a',c',rfl,hown,hb6⟩
  clear hh hb6 hv hown FIN cf
  go_wp2_with fail
  go_ret2
  exact FN.out
end Go.Proofs.YtjkjlblongeljaaGreatDoor

namespace Go.Proofs.YtjkjlblongeljaaGreatDoor
open Go.RowKit
set_option maxRecDepth 100000
end Go.Proofs.YtjkjlblongeljaaGreatDoor

namespace Go.Proofs.YtjkjlblongeljaaGreatDoor
open Go.RowKit
set_option maxRecDepth 100000
end Go.Proofs.YtjkjlblongeljaaGreatDoor

namespace Go.Proofs.YtjkjlblongeljaaGreatDoor
open Go.RowKit
set_option maxRecDepth 100000
set_option maxHeartbeats 4000000 in
theorem zg2 (d:Int) (n:Nat) (hn:n<2 ^ 64) (a:Option Addr) (k c:Nat) (l:List Int) (w:World) (hF:Flat w a k l) (hX:HX.Tabled w):
    Calls Tryz.prog 52 #[.int .i64 d,.int .u64 (n:Int),.slice a k c] w fun e w'=>e=.returned (.tuple #[.agg (z00 (BAGA d n k l).2).toArray,.int .i64 (BAGA d n k l).1])∧Below w.heap.size w w':=by
  have R0:Aside (Below w.heap.size w (w.alloc (.cells ZARR 35))∧Has (w.alloc (.cells ZARR 35)) w.heap.size (z00 ZND).toArray 35):=⟨(Below.refl _ _).alloc (Nat.le_refl _) _,by rw [z2o];exact Has.new _ _ _⟩
  have HA:Aside (Flat w a k l∧HX.Tabled w∧n<2 ^ 64):=⟨hF,hX,hn⟩
  clear hF hX
  by_cases h1:4611686018427387904<n
  · have e:BAGA d n k l=(30,ZND):=if_pos h1
    rw [e]
    have h1':(4611686018427387904:Int)<(n:Int):=by omega
    clear e HA hn
    go_enter Tryz.func52,Tryz.ntmps52
    go_upto_region 2 with fail
    rw [show (#[.int .u8 0,.int .u8 0,.int .u8 0,.int .u8 0,.int .u8 0,.int .u8 0,.int .u8 0,.int .u8 0,.int .u8 0,.int .u8 0,.int .u8 0,.int .u8 0,.int .u8 0,.int .u8 0,.int .u8 0,.int .u8 0,.int .u8 0,.int .u8 0,.int .u8 0,.int .u8 0,.int .u8 0,.int .u8 0,.int .u8 0,.int .u8 0,.int .u8 0,.int .u8 0,.int .u8 0,.int .u8 0,.int .u8 0,.int .u8 0,.int .u8 0,.int .u8 0]:Array Value)=ZARR from rfl]
    generalize w.alloc (.cells ZARR 35)=W0 at *
    go_wp2_with (rw [show (#[.int .u8 0,.int .u8 0,.int .u8 0,.int .u8 0,.int .u8 0,.int .u8 0,.int .u8 0,.int .u8 0,.int .u8 0,.int .u8 0,.int .u8 0,.int .u8 0,.int .u8 0,.int .u8 0,.int .u8 0,.int .u8 0,.int .u8 0,.int .u8 0,.int .u8 0,.int .u8 0,.int .u8 0,.int .u8 0,.int .u8 0,.int .u8 0,.int .u8 0,.int .u8 0,.int .u8 0,.int .u8 0,.int .u8 0,.int .u8 0,.int .u8 0,.int .u8 0]:Array Value)=(z00 ZND).toArray from rfl];refine wpList_store_row rfl 35 (.tmp 6) (.tmp 10) rfl _ _ rfl rfl 35 _ R0.out.2 (z0d rfl) rfl (z0m ZND) ?_)
    refine bodyPost_ret (v:=.tuple #[.agg (z00 ZND).toArray,.int .i64 30]) (z3q rfl _ _ w.heap.size 35 _ (0,0) _ _ _ rfl rfl (Has.row R0.out.2 _) Tryz.underlying35 (z0d rfl)) rfl ⟨rfl,z06 R0.out.1 (Nat.le_refl _) _⟩
  have h1':¬ (4611686018427387904:Int)<(n:Int):=by omega
  have hpop:=z5t hn
  by_cases h2:k=PC n
  · have e:BAGA d n k l=(0,z17 d n (FLD d l k)):=by unfold BAGA;rw [if_neg h1,if_neg (by simpa using h2)]
    rw [e]
    have hk:Aside (k≤64):=by have:=z1x 64 n hn;show k≤64;omega
    have e2:(k:Int)=((POP n:Nat):Int):=by rw [hpop,h2]
    clear e h2 hpop h1
    go_enter Tryz.func52,Tryz.ntmps52
    go_upto_region 3 with fail
    rw [show (#[.int .u8 0,.int .u8 0,.int .u8 0,.int .u8 0,.int .u8 0,.int .u8 0,.int .u8 0,.int .u8 0,.int .u8 0,.int .u8 0,.int .u8 0,.int .u8 0,.int .u8 0,.int .u8 0,.int .u8 0,.int .u8 0,.int .u8 0,.int .u8 0,.int .u8 0,.int .u8 0,.int .u8 0,.int .u8 0,.int .u8 0,.int .u8 0,.int .u8 0,.int .u8 0,.int .u8 0,.int .u8 0,.int .u8 0,.int .u8 0,.int .u8 0,.int .u8 0]:Array Value)=ZARR from rfl]
    generalize w.alloc (.cells ZARR 35)=W0 at *
    go_wp2_with fail
    refine (z1z n hn W0).mono ?_
    rintro e w1 ⟨rfl,rfl⟩
    go_wp2_with fail
    refine (zck d a k c (by have:=hk.out;omega) l W0 (HA.out.1.below R0.out.1) (HA.out.2.1.below R0.out.1)).mono ?_
    rintro e w1 ⟨rfl,hb⟩
    have R1:Aside (Below w.heap.size w w1∧Has w1 w.heap.size (z00 ZND).toArray 35):=⟨R0.out.1.trans (hb.mono R0.out.1.size),R0.out.2.keep hb⟩
    clear hb R0
    have hI:=zg0 (d:=d) HA.out.1.1 HA.out.1.2.2
    go_wp2_with fail
    refine (zdI d n hn (FLD d l k) hI w1 (HA.out.2.1.below R1.out.1)).mono ?_
    rintro e w2 ⟨rfl,hb⟩
    have R2:Aside (Below w.heap.size w w2∧Has w2 w.heap.size (z00 ZND).toArray 35):=⟨R1.out.1.trans (hb.mono R1.out.1.size),R1.out.2.keep hb⟩
    clear hb R1 hI
    have y32:=(z5d d n (FLD d l k)).1
    generalize hY:z17 d n (FLD d l k)=Y at *
    go_wp2_with (refine wpList_store_row rfl 35 (.tmp 6) (.tmp 22) rfl _ _ rfl rfl 35 _ R2.out.2 (z0d y32) (by simp [z00,y32];rfl) (z0m Y) ?_)
    refine bodyPost_ret (v:=.tuple #[.agg (z00 Y).toArray,.int .i64 0]) (z3q rfl _ _ w.heap.size 35 _ (0,0) _ _ _ rfl rfl (Has.row R2.out.2 _) Tryz.underlying35 (z0d y32)) rfl ⟨by rw [hY],z06 R2.out.1 (Nat.le_refl _) _⟩
  · have e:BAGA d n k l=(70,ZND):=by unfold BAGA;rw [if_neg h1,if_pos h2]
    rw [e]
    exact zcl d n hn a k c w h1' (by rw [hpop];exact h2)
end Go.Proofs.YtjkjlblongeljaaGreatDoor

namespace Go.Proofs.YtjkjlblongeljaaGreatDoor
open Go.RowKit
set_option maxRecDepth 100000
theorem zg3 {a b:List Int} (ha:IsH a) (hb:IsH b) (w:World):(Op.equalIn 10000 35 (.agg (z00 a).toArray) (.agg (z00 b).toArray)).run Tryz.prog w=.ok (decide (a=b)) w:=by
  rw [z1g ha,z1g hb,HX.zaz]
  congr 1
  by_cases e:a=b
  · subst e
    simp
  · rw [decide_eq_false e]
    refine Bool.eq_false_iff.2 fun h=>e ?_
    have h':∀ i∈List.range 32,FNC a i=FNC b i:=fun i hi=>by simpa using List.all_eq_true.1 h i hi
    have h2:LST (FNC a)=LST (FNC b):=by
      unfold LST
      exact List.map_congr_left fun i hi=>by rw [h' i hi]
    rwa [z4B ha,z4B hb] at h2
theorem z2w {ops:Array Oper} {rest:List Oper} {o:Oper} {a:Act} {w:World} {Q:Exit→Act→World→Prop} (hw:Region.wanted o (yielded ops a.tmps)=true) (ty:TypeId) (x:Operand) (ho:o.op=.load ty x) (n:Nat) (e:TypeId)
    (b:Nat) (hx:a.eval x=.pointer (some ⟨b,0,none⟩)) (t:TypeId) (cs:Array Value) (fr:Nat × Nat) (hb:w.heap[b]?=some (.cells cs t fr)) (hu:Tryz.prog.underlying ty=some (.array n e)) (hi:(Tryz.prog.info? ty).map (·.size)=some cs.size)
    (h:wpList Tryz.prog ops Q rest (a.put o.dst (.agg cs)) w):wpList Tryz.prog ops Q (o :: rest) a w:=by
  simp only [wpList]
  rw [if_pos hw]
  exact .inl (wp_load_row ty x ho b hx t cs fr (.array n e) hb hu rfl hi h)
end Go.Proofs.YtjkjlblongeljaaGreatDoor

namespace Go.Proofs.YtjkjlblongeljaaGreatDoor
open Go.RowKit
set_option maxRecDepth 100000
set_option maxHeartbeats 2000000 in
theorem z8a (a b:Option Addr) (n m ca cb:Nat) (L M:List Nat) (hl:L.length=n) (hm:M.length=m) (hn:n≤2 ^ 24) (w:World) (hA:NUML w a L) (hB:NUML w b M):
    Calls Tryz.prog 50 #[.slice a n ca,.slice b m cb] w fun e w'=>e=.returned (.bool (decide (L=M)))∧Below w.heap.size w w':=by
  by_cases hnm:n=m
  · subst hnm
    rcases Nat.eq_zero_or_pos n with h | h
    · subst h
      have hd:decide (L=M)=true:=by
        rw [List.eq_nil_of_length_eq_zero hl,List.eq_nil_of_length_eq_zero hm]
        rfl
      rw [hd]
      clear hA hB hl hm hd
      go_enter Tryz.func50,Tryz.ntmps50
      go_wp2
      refine wp_loop_rounds 1 ?_
      rw [rounds_succ]
      go_wp2
      go_ret
      exact ⟨rfl,Below.refl _ _⟩
    · obtain ⟨ga,oa,rfl,la,hca⟩:=hA (by omega)
      obtain ⟨gb,ob,rfl,lb,hcb⟩:=hB (by omega)
      obtain ⟨D,hD⟩:∃ D,D=decide (L=M):=⟨_,rfl⟩
      rw [← hD]
      have HC:Aside ((∀ (i x:Nat),L[i]?=some x→w.cell? ⟨ga,oa+i,none⟩=some (.int .u64 (x:Int)))∧(∀ (i x:Nat),M[i]?=some x→w.cell? ⟨gb,ob+i,none⟩=some (.int .u64 (x:Int)))∧ga<w.heap.size∧gb<w.heap.size∧L.length=n∧M.length=n∧n≤2 ^ 24∧D=decide (L=M)):=⟨hca,hcb,la,lb,hl,hm,hn,hD⟩
      clear hA hB hca hcb la lb hl hm hn hD
      go_enter Tryz.func50,Tryz.ntmps50
      go_wp2
      go_loopg [13] n (fun g s5 wx=>∃ k:Nat,k+g=n∧s5=.int .i64 k∧Aside (Below w.heap.size w wx∧∀ j,j<k→L[j]?=M[j]?))
      case atStart=>exact ⟨0,by omega,rfl,Below.refl _ _,fun j hj=>by omega⟩
      case round=>
        obtain ⟨k,hkg,rfl,A⟩:=hrel
        cases gk with
        | zero=>
          obtain rfl:k=n:=by omega
          have hlt:¬ (k:Int)<(k:Int):=by omega
          have hd:Aside (D=true):=by
            show D=true
            rw [HC.out.2.2.2.2.2.2.2,decide_eq_true_iff]
            apply List.ext_getElem?
            intro j
            by_cases hj:j<k
            · exact A.out.2 j hj
            · rw [List.getElem?_eq_none (by have:=HC.out.2.2.2.2.1;omega),List.getElem?_eq_none (by have:=HC.out.2.2.2.2.2.1;omega)]
          clear HC
          go_wp2
          go_ret
          exact ⟨by rw [hd.out];rfl,A.out.1⟩
        | succ g=>
          have hlt:(k:Int)<(n:Int):=by omega
          obtain ⟨x,ex⟩:∃ x,L[k]?=some x:=⟨_,List.getElem?_eq_getElem (by have:=HC.out.2.2.2.2.1;omega)⟩
          obtain ⟨y,ey⟩:∃ y,M[k]?=some y:=⟨_,List.getElem?_eq_getElem (by have:=HC.out.2.2.2.2.2.1;omega)⟩
          have h1:wr.cell? ⟨ga,oa+k,none⟩=some (.int .u64 (x:Int)):=(A.out.1.cell (by exact HC.out.2.2.1)).trans (HC.out.1 k x ex)
          have h2:wr.cell? ⟨gb,ob+k,none⟩=some (.int .u64 (y:Int)):=(A.out.1.cell (by exact HC.out.2.2.2.1)).trans (HC.out.2.1 k y ey)
          have hk24:k<2 ^ 24:=by have:=HC.out.2.2.2.2.2.2.1;omega
          by_cases hxy:x=y
          · subst hxy
            have Z:Aside (Below w.heap.size w wr∧∀ j,j<k+1→L[j]?=M[j]?):=by
              refine ⟨A.out.1,fun j hj=>?_⟩
              rcases Nat.lt_or_ge j k with hj' | hj'
              · exact A.out.2 j hj'
              · obtain rfl:j=k:=by omega
                rw [ex,ey]
            clear ex ey A HC
            go_wp2
            go_quiet (fail)
            go_wp2
            go_roundg g
            case measure=>omega
            case rel=>exact ⟨k+1,by omega,by go_num,below_drewN Z.out.1 _,Z.out.2⟩
          · have hd:Aside (D=false∧Below w.heap.size w wr):=by
              refine ⟨?_,A.out.1⟩
              rw [HC.out.2.2.2.2.2.2.2,decide_eq_false_iff_not]
              intro e
              rw [e,ey] at ex
              exact hxy (by simpa using ex.symm)
            have hne:((x:Int) == (y:Int))=false:=beq_eq_false_iff_ne.2 (by omega)
            clear ex ey A HC hxy
            go_wp2
            go_quiet (fail)
            go_wp2
            go_ret
            exact ⟨by rw [hd.out.1];rfl,below_drewN hd.out.2 _⟩
  · have hd:decide (L=M)=false:=by
      rw [decide_eq_false_iff_not]
      intro e
      exact hnm (by rw [← hl,← hm,e])
    have hne:((n:Int) == (m:Int))=false:=beq_eq_false_iff_ne.2 (by omega)
    rw [hd]
    clear hA hB hl hm hd hnm
    go_enter Tryz.func50,Tryz.ntmps50
    go_wp2
    go_ret
    exact ⟨rfl,Below.refl _ _⟩
end Go.Proofs.YtjkjlblongeljaaGreatDoor

namespace Go.Proofs.YtjkjlblongeljaaGreatDoor
open Go.RowKit
set_option maxRecDepth 100000
end Go.Proofs.YtjkjlblongeljaaGreatDoor

namespace Go.Proofs.YtjkjlblongeljaaGreatDoor
open Go.RowKit
set_option maxRecDepth 100000
def zg4 (v:Value) (X Y:Nat) (nv:Value):Array Value:=#[v,.int .u64 (X:Int),.int .u64 (Y:Int),nv]
structure FRM (w0 w:World) (rb gl:Nat) (t:TypeId) (v:Value) (X Y:Nat) (nv:Value) (fl:Array Value) (tf:TypeId):Prop where
  bel:Below w0.heap.size w0 w
  rd:Has w rb (zg4 v X Y nv) t
  fl:Has w gl fl tf
  ne:gl≠rb
  lb:w0.heap.size≤rb
  lg:w0.heap.size≤gl
def SRC (w0:World) (a:Option Addr) (c:Nat) (t:List Int):Prop:=Bytes w0 a t.length t∧t.length≤c∧t.length≤1000000
theorem FRM.drew {w0 w:World} {rb gl:Nat} {t:TypeId} {v:Value} {X Y:Nat} {nv:Value} {fl:Array Value} {tf:TypeId} (h:FRM w0 w rb gl t v X Y nv fl tf):FRM w0 w.drew rb gl t v X Y nv fl tf:=⟨h.bel.drew,h.rd,h.fl,h.ne,h.lb,h.lg⟩
theorem FRM.keep {w0 w w':World} {rb gl:Nat} {t:TypeId} {v:Value} {X Y:Nat} {nv:Value} {fl:Array Value} {tf:TypeId} (h:FRM w0 w rb gl t v X Y nv fl tf) (hb:Below w.heap.size w w'):FRM w0 w' rb gl t v X Y nv fl tf:=⟨h.bel.trans (hb.mono h.bel.size),h.rd.keep hb,h.fl.keep hb,h.ne,h.lb,h.lg⟩
theorem FRM.rest {w0 w:World} {rb gl:Nat} {t:TypeId} {v:Value} {X Y:Nat} {nv:Value} {fl:Array Value} {tf:TypeId} (h:FRM w0 w rb gl t v X Y nv fl tf) (v':Value):FRM w0 (w.setCell ⟨rb,0,none⟩ v') rb gl t v' X Y nv fl tf:=
  ⟨h.bel.setCell (p:=⟨rb,0,none⟩) h.lb _,h.rd.set 0 v',h.fl.other (a:=⟨rb,0,none⟩) h.ne _,h.ne,h.lb,h.lg⟩
theorem FRM.first {w0 w:World} {rb gl:Nat} {t:TypeId} {v:Value} {X Y:Nat} {nv:Value} {fl:Array Value} {tf:TypeId} (h:FRM w0 w rb gl t v X Y nv fl tf) (Z:Nat):FRM w0 (w.setCell ⟨rb,1,none⟩ (.int .u64 (Z:Int))) rb gl t v Z Y nv fl tf:=
  ⟨h.bel.setCell (p:=⟨rb,1,none⟩) h.lb _,h.rd.set 1 _,h.fl.other (a:=⟨rb,1,none⟩) h.ne _,h.ne,h.lb,h.lg⟩
theorem FRM.nodes {w0 w:World} {rb gl:Nat} {t:TypeId} {v:Value} {X Y:Nat} {nv:Value} {fl:Array Value} {tf:TypeId} (h:FRM w0 w rb gl t v X Y nv fl tf) (nv':Value):FRM w0 (w.setCell ⟨rb,3,none⟩ nv') rb gl t v X Y nv' fl tf:=
  ⟨h.bel.setCell (p:=⟨rb,3,none⟩) h.lb _,h.rd.set 3 _,h.fl.other (a:=⟨rb,3,none⟩) h.ne _,h.ne,h.lb,h.lg⟩
theorem SRC.drop {w0:World} {b off c:Nat} {t:List Int} (h:SRC w0 (some ⟨b,off,none⟩) c t) (k:Nat) (hk:k≤t.length):SRC w0 (REST b off c k) (c - k) (t.drop k):=by
  obtain ⟨h1,h2,h3⟩:=h
  have:=h1.behind k hk h2
  refine ⟨?_,by rw [List.length_drop];omega,by rw [List.length_drop];omega⟩
  rw [List.length_drop]
  exact this
theorem SRC.addr {w0:World} {a:Option Addr} {c:Nat} {t:List Int} (h:SRC w0 a c t) (h0:0<t.length):∃ b off,a=some ⟨b,off,none⟩∧b<w0.heap.size∧∀ i,i<t.length→w0.cell? ⟨b,off+i,none⟩=some (.int .u8 (t.getD i 0)):=h.1.2.1 h0
end Go.Proofs.YtjkjlblongeljaaGreatDoor

namespace Go.Proofs.YtjkjlblongeljaaGreatDoor
open Go.RowKit
set_option maxRecDepth 100000
structure RDR (w0 w:World) (rb:Nat) (t:List Int):Prop where
  rd:∃ a c,Has w rb #[.slice a t.length c] 101∧SRC w0 a c t
  bel:Below w0.heap.size w0 w
  lb:w0.heap.size≤rb
structure STAY (w w':World) (rb:Nat):Prop where
  kp:∀ k,k<w.heap.size→k≠rb→w'.heap[k]?=w.heap[k]?
  bl:Below rb w w'
theorem STAY.refl (w:World) (rb:Nat):STAY w w rb:=⟨fun _ _ _=>rfl,Below.refl _ _⟩
theorem STAY.trans {w w' w'':World} {rb:Nat} (h:STAY w w' rb) (h':STAY w' w'' rb):STAY w w'' rb:=⟨fun k hk hne=>(h'.kp k (Nat.lt_of_lt_of_le hk h.bl.size) hne).trans (h.kp k hk hne),h.bl.trans h'.bl⟩
theorem STAY.set (w:World) (rb i:Nat) (v:Value):STAY w (w.setCell ⟨rb,i,none⟩ v) rb:=⟨fun k _ hne=>Below.heap_setCell w ⟨rb,i,none⟩ v k hne,(Below.refl _ _).setCell (p:=⟨rb,i,none⟩) (Nat.le_refl _) _⟩
theorem STAY.of {w w':World} {rb:Nat} (h:Below w.heap.size w w') (hr:rb≤w.heap.size):STAY w w' rb:=⟨fun k hk _=>h.block k hk,h.mono hr⟩
theorem STAY.has {w w':World} {rb g:Nat} {c:Array Value} {t:TypeId} (h:STAY w w' rb) (hg:Has w g c t) (hne:g≠rb):Has w' g c t:=(h.kp g hg.lt hne).trans hg
theorem RDR.lt {w0 w:World} {rb:Nat} {t:List Int} (h:RDR w0 w rb t):rb<w.heap.size:=by
  obtain ⟨_,_,h1,_⟩:=h.rd
  exact h1.lt
theorem RDR.keep {w0 w w':World} {rb:Nat} {t:List Int} (h:RDR w0 w rb t) (hb:Below w.heap.size w w'):RDR w0 w' rb t:=by
  obtain ⟨a,c,h1,h2⟩:=h.rd
  exact ⟨⟨a,c,h1.keep hb,h2⟩,h.bel.trans (hb.mono h.bel.size),h.lb⟩
theorem RDR.other {w0 w w':World} {rb pb:Nat} {t:List Int} (h:RDR w0 w rb t) (hs:STAY w w' pb) (hne:rb≠pb) (hp:w0.heap.size≤pb):RDR w0 w' rb t:=by
  obtain ⟨a,c,h1,h2⟩:=h.rd
  exact ⟨⟨a,c,hs.has h1 hne,h2⟩,h.bel.trans (hs.bl.mono hp),h.lb⟩
theorem RDR.moved {w0 w:World} {rb b off c k:Nat} {t:List Int} (h:RDR w0 w rb t) (hh:Has w rb #[.slice (some ⟨b,off,none⟩) t.length c] 101) (hs:SRC w0 (some ⟨b,off,none⟩) c t) (hk:k≤t.length):RDR w0 (w.setCell ⟨rb,0,none⟩ (.slice (REST b off c k) (t.length - k) (c - k))) rb (t.drop k):=by
  refine ⟨⟨_,_,?_,hs.drop k hk⟩,h.bel.setCell (p:=⟨rb,0,none⟩) h.lb _,h.lb⟩
  rw [List.length_drop]
  exact hh.set 0 _
theorem z91 (rb:Nat) (r1 r2 r3:Int) (v:Value) (w:World) (hr:¬ r3=0) (h0:w.cell? ⟨rb,0,none⟩=some v)
    (c:Calls Tryz.prog 146 #[v] w fun e w'=>e=.returned (.tuple #[.int .u64 r1,.int .i64 r2,.int .i64 r3])∧w=w'):
    Calls Tryz.prog 120 #[.pointer (some ⟨rb,0,none⟩)] w fun e w'=>e=.panicked (z0x r3)∧w=w':=by
  have hr':(r3 != 0)=true:=by simp [hr]
  go_enter Tryz.func120,Tryz.ntmps120
  go_wp2_with fail
  refine c.mono ?_
  rintro e w' ⟨rfl,rfl⟩
  clear c
  go_wp2_with fail
  exact ⟨rfl,rfl,rfl⟩
set_option maxHeartbeats 1000000 in
theorem z92 (rb:Nat) (r1:Int) (b off n c m:Nat) (hm:m≤n) (hcap:n≤c) (w:World) (h0:w.cell? ⟨rb,0,none⟩=some (.slice (some ⟨b,off,none⟩) n c)) (z0:w.frozen? ⟨rb,0,none⟩=false)
    (cl:Calls Tryz.prog 146 #[.slice (some ⟨b,off,none⟩) n c] w fun e w'=>e=.returned (.tuple #[.int .u64 r1,.int .i64 (m:Int),.int .i64 0])∧w=w'):
    Calls Tryz.prog 120 #[.pointer (some ⟨rb,0,none⟩)] w fun e w'=>e=.returned (.int .u64 r1)∧w'=w.setCell ⟨rb,0,none⟩ (.slice (REST b off c m) (n - m) (c - m)):=by
  have k1:(m:Int)≤(n:Int):=by omega
  have k2:(n:Int)≤(c:Int):=by omega
  have k4:(m:Int)≤(c:Int):=by omega
  obtain ⟨a',ha'⟩:∃ a',REST b off c m=a':=⟨_,rfl⟩
  rw [ha']
  by_cases h1:c=m
  · have HA:Aside (some ⟨b,off,none⟩=a'):=by rw [← ha'];simp [REST,h1,Aside]
    have hn:n=m:=by omega
    subst h1 hn
    clear ha'
    go_enter Tryz.func120,Tryz.ntmps120
    go_wp2_with fail
    refine cl.mono ?_
    rintro e w' ⟨rfl,rfl⟩
    clear cl
    go_wp2_with fail
    go_ret
    rw [← HA.out]
    exact ⟨rfl,by simp⟩
  · have HA:Aside (some ⟨b,off+m,none⟩=a'):=by rw [← ha'];simp [REST,h1,Aside]
    have hc1:¬ c - m=0:=by omega
    clear ha'
    go_enter Tryz.func120,Tryz.ntmps120
    go_wp2_with fail
    refine cl.mono ?_
    rintro e w' ⟨rfl,rfl⟩
    clear cl
    go_wp2_with fail
    go_ret
    rw [← HA.out]
    exact ⟨rfl,rfl⟩
theorem z3r {w0 w:World} {rb:Nat} {t:List Int} (R:RDR w0 w rb t) (hl:(LNG t).2.2≠0):Calls Tryz.prog 120 #[.pointer (some ⟨rb,0,none⟩)] w fun e w'=>e=.panicked (z0x (LNG t).2.2)∧w=w':=by
  obtain ⟨a,c,h1,h2⟩:=R.rd
  exact z91 rb _ _ _ _ w hl (h1.cell 0) (z9X a t.length c t w (h2.1.below R.bel) h2.2.1 (by have:=h2.2.2;omega))
theorem z40 {w0 w:World} {rb:Nat} {t:List Int} (R:RDR w0 w rb t) (hl:(LNG t).2.2=0):
    ∃ Z m:Nat,Z<2 ^ 64∧1≤m∧m≤t.length∧LNG t=((Z:Int),(m:Int),0)∧Calls Tryz.prog 120 #[.pointer (some ⟨rb,0,none⟩)] w fun e w'=>e=.returned (.int .u64 (Z:Int))∧RDR w0 w' rb (t.drop m)∧STAY w w' rb:=by
  obtain ⟨a,c,h1,h2⟩:=R.rd
  obtain ⟨Z,m,q1,q2,q3,q4,q5⟩:=z5n h2.1.2.2 hl
  obtain ⟨b,off,rfl,hb,hcs⟩:=h2.addr (by omega)
  have cl:=z9X (some ⟨b,off,none⟩) t.length c t w (h2.1.below R.bel) h2.2.1 (by have:=h2.2.2;omega)
  rw [show LG t t.length 10 0 0=LNG t from rfl,q4] at cl
  refine ⟨Z,m,q1,q2,q3,q4,(z92 rb (Z:Int) b off t.length c m q3 h2.2.1 w (h1.cell 0) (h1.frozen 0) cl).mono ?_⟩
  rintro e w' ⟨rfl,rfl⟩
  exact ⟨rfl,R.moved h1 h2 q3,STAY.set _ _ _ _⟩
theorem zb8 {w0 w:World} {rb:Nat} (R:RDR w0 w rb []):Calls Tryz.prog 84 #[.pointer (some ⟨rb,0,none⟩)] w fun e w'=>e=.panicked (z0x 11)∧w=w':=by
  obtain ⟨a,c,h1,h2⟩:=R.rd
  have x0:w.cell? ⟨rb,0,none⟩=some (.slice a 0 c):=h1.cell 0
  clear R h1 h2
  go_enter Tryz.func84,Tryz.ntmps84
  go_wp2_with fail
  exact ⟨rfl,rfl,rfl⟩
theorem z93 {w0 w:World} {rb:Nat} {x:Int} {l:List Int} (R:RDR w0 w rb (x :: l)) (hx:¬ x=78):Calls Tryz.prog 84 #[.pointer (some ⟨rb,0,none⟩)] w fun e w'=>e=.panicked (z0x 14)∧w=w':=by
  obtain ⟨a,c,h1,h2⟩:=R.rd
  obtain ⟨b,off,rfl,hb,hcs⟩:=h2.addr (by simp)
  obtain ⟨n,hn⟩:∃ n,(x :: l).length=n:=⟨_,rfl⟩
  rw [hn] at h1
  have x0:w.cell? ⟨rb,0,none⟩=some (.slice (some ⟨b,off,none⟩) n c):=h1.cell 0
  have x1:w.cell? ⟨b,off,none⟩=some (.int .u8 x):=(R.bel.cell (p:=⟨b,off,none⟩) hb).trans (by have:=hcs 0 (by simp);simpa using this)
  have hn1:(0:Int)<(n:Int):=by simp at hn;omega
  have hn2:0<n:=by omega
  have hn3:¬ (n:Int)=0:=by omega
  clear R h1 h2 hcs hn hb
  go_enter Tryz.func84,Tryz.ntmps84
  go_wp2_with fail
  exact ⟨rfl,rfl,rfl⟩
set_option maxHeartbeats 1000000 in
theorem zcs (rb b off n c:Nat) (hcap:n+1≤c) (w:World) (h0:w.cell? ⟨rb,0,none⟩=some (.slice (some ⟨b,off,none⟩) (n+1) c)) (hf:w.frozen? ⟨rb,0,none⟩=false) (hc:w.cell? ⟨b,off,none⟩=some (.int .u8 78)):
    Calls Tryz.prog 84 #[.pointer (some ⟨rb,0,none⟩)] w fun e w'=>e=.returned (.tuple #[])∧w'=w.setCell ⟨rb,0,none⟩ (.slice (REST b off c 1) n (c - 1)):=by
  have hn1:(0:Int)<(n:Int)+1:=by omega
  have hn2:¬ (n:Int)+1=0:=by omega
  have hcap':(n:Int)+1≤(c:Int):=by omega
  obtain ⟨a',ha'⟩:∃ a',REST b off c 1=a':=⟨_,rfl⟩
  rw [ha']
  by_cases h1:c=1
  · have HA:Aside (some ⟨b,off,none⟩=a'):=by rw [← ha'];simp [REST,h1,Aside]
    have hn0:n=0:=by omega
    subst h1 hn0
    clear ha' hcap
    go_enter Tryz.func84,Tryz.ntmps84
    go_wp2_with fail
    refine bodyPost_end (v:=.tuple #[]) (by simp [results,Tryz.f84]) rfl ?_
    rw [← HA.out]
    exact ⟨rfl,rfl⟩
  · have HA:Aside (some ⟨b,off+1,none⟩=a'):=by rw [← ha'];simp [REST,h1,Aside]
    have hc1:¬ c - 1=0:=by omega
    clear ha' hcap
    go_enter Tryz.func84,Tryz.ntmps84
    go_wp2_with fail
    refine bodyPost_end (v:=.tuple #[]) (by simp [results,Tryz.f84]) rfl ?_
    rw [← HA.out]
    exact ⟨rfl,rfl⟩
theorem zct {w0 w:World} {rb:Nat} {l:List Int} (R:RDR w0 w rb (78 :: l)):Calls Tryz.prog 84 #[.pointer (some ⟨rb,0,none⟩)] w fun e w'=>e=.returned (.tuple #[])∧RDR w0 w' rb l∧STAY w w' rb:=by
  obtain ⟨a,c,h1,h2⟩:=R.rd
  obtain ⟨b,off,rfl,hb,hcs⟩:=h2.addr (by simp)
  refine (zcs rb b off l.length c (by have:=h2.2.1;simpa using this) w (h1.cell 0) (h1.frozen 0) ((R.bel.cell (p:=⟨b,off,none⟩) hb).trans (by have:=hcs 0 (by simp);simpa using this))).mono ?_
  rintro e w' ⟨rfl,rfl⟩
  have:=R.moved h1 h2 (k:=1) (by simp)
  exact ⟨rfl,by simpa using this,STAY.set _ _ _ _⟩
theorem zcu {w0 w:World} {rb:Nat} {t:List Int} (R:RDR w0 w rb t) (hl:(LNG t).2.2≠0):Calls Tryz.prog 85 #[.pointer (some ⟨rb,0,none⟩)] w fun e w'=>e=.panicked (z0x (LNG t).2.2)∧w=w':=by
  have cn:=z3r R hl
  clear R
  go_enter Tryz.func85,Tryz.ntmps85
  go_wp2_with fail
  refine cn.mono ?_
  rintro e w' ⟨rfl,rfl⟩
  exact ⟨rfl,rfl,rfl⟩
theorem zcv (rb:Nat) (Z:Int) (w:World) (D:World→Prop) (hZ:4611686018427387904<Z) (cn:Calls Tryz.prog 120 #[.pointer (some ⟨rb,0,none⟩)] w fun e w'=>e=.returned (.int .u64 Z)∧D w'):Calls Tryz.prog 85 #[.pointer (some ⟨rb,0,none⟩)] w fun e w'=>e=.panicked (z0x 30)∧D w':=by
  go_enter Tryz.func85,Tryz.ntmps85
  go_wp2_with fail
  refine cn.mono ?_
  rintro e w' ⟨rfl,h⟩
  have FN:Aside (D w'):=h
  clear cn h
  go_wp2_with fail
  exact ⟨rfl,rfl,FN.out⟩
theorem zb9 (rb:Nat) (Z:Int) (w:World) (D:World→Prop) (hZ:¬ 4611686018427387904<Z) (cn:Calls Tryz.prog 120 #[.pointer (some ⟨rb,0,none⟩)] w fun e w'=>e=.returned (.int .u64 Z)∧D w'):Calls Tryz.prog 85 #[.pointer (some ⟨rb,0,none⟩)] w fun e w'=>e=.returned (.int .u64 Z)∧D w':=by
  go_enter Tryz.func85,Tryz.ntmps85
  go_wp2_with fail
  refine cn.mono ?_
  rintro e w' ⟨rfl,h⟩
  have FN:Aside (D w'):=h
  clear cn h
  go_wp2_with fail
  go_ret
  exact ⟨rfl,FN.out⟩
theorem zfd {w0 w:World} {rb:Nat} {t:List Int} (R:RDR w0 w rb t):Calls Tryz.prog 89 #[.pointer (some ⟨rb,0,none⟩)] w fun e w'=>((t=[]∧e=.returned (.tuple #[]))∨(t≠[]∧e=.panicked (z0x 13)))∧w=w':=by
  obtain ⟨a,c,h1,h2⟩:=R.rd
  cases t with
  | nil=>
    have x0:w.cell? ⟨rb,0,none⟩=some (.slice a 0 c):=h1.cell 0
    clear R h1 h2
    go_enter Tryz.func89,Tryz.ntmps89
    go_wp2_with fail
    exact bodyPost_end (v:=.tuple #[]) (by simp [results,Tryz.f89]) rfl ⟨.inl ⟨(by first | trivial | rfl),rfl⟩,rfl⟩
  | cons x l=>
    obtain ⟨n,hn⟩:∃ n,(x :: l).length=n:=⟨_,rfl⟩
    rw [hn] at h1
    have x0:w.cell? ⟨rb,0,none⟩=some (.slice a n c):=h1.cell 0
    have hn1:(0:Int)<(n:Int):=by simp at hn;omega
    have hn2:0<n:=by omega
    clear R h1 h2 hn
    go_enter Tryz.func89,Tryz.ntmps89
    go_wp2_with fail
    exact ⟨rfl,.inr ⟨by simp,rfl⟩,rfl⟩
end Go.Proofs.YtjkjlblongeljaaGreatDoor
