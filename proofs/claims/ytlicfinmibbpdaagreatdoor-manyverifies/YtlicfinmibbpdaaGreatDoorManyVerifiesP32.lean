/- Texts of ManyVerifies, one behind the other: ManyClimbCall, ManyRefClimb, ManyRefBag. -/
import Derived.Test.YtlicfinmibbpdaaGreatDoorManyVerifiesP29
import Derived.Test.YtlicfinmibbpdaaGreatDoorManyVerifiesP31
namespace Go.Proofs.YtlicfinmibbpdaaGreatDoor
open Go.RowKit
set_option maxRecDepth 100000
def MCE (L:List Nat) (N K nl:Nat):Int:=if MWA L N K≠0 then MWA L N K else if nl≠L.length then 70 else 0
theorem z3d {L:List Nat} {N K nl:Nat} (h:MWA L N K≠0):MCE L N K nl=MWA L N K:=if_pos h
theorem z2B {L:List Nat} {N K nl:Nat} (h:MWA L N K=0) (hn:nl≠L.length):MCE L N K nl=70:=by
  unfold MCE
  rw [if_neg (by simpa using h),if_pos hn]
theorem z5L {L:List Nat} {N K nl:Nat} (h:MWA L N K=0) (hn:nl=L.length):MCE L N K nl=0:=by
  unfold MCE
  rw [if_neg (by simpa using h),if_neg (by simpa using hn)]
def MCL (d:Int) (L:List Nat) (N K nl:Nat) (lv nd:List Int):Int × Nat × List Int:=if MCE L N K nl=0 then (0,PC N,MUPS d (TPS N) L lv nd) else (MCE L N K nl,0,[])
structure CLMD (w w':World) (b3 n:Nat) (Z:List Int):Prop where
  row:∃ v,Has w' b3 #[v] 22∧w'.ownsRow w.heap.size 38 32 v n (z00 Z)
  keep:∀ b,b<w.heap.size→b≠b3→w'.heap[b]?=w.heap[b]?
  below:Below b3 w w'
set_option maxHeartbeats 4000000 in
theorem zaD (d:Int) (L:List Nat) (N:Nat) (a:Option Addr) (m c:Nat) (an:Option Addr) (K cn:Nat) (al:Option Addr) (nl cl:Nat) (lv nd:List Int) (b0 b1 b2 b3:Nat) (w:World) (hl:L.length=m) (hm:m<2 ^ 20) (hc:m≤c) (hnil:a=none→c=0) (hbl:∀ x,a=some x→x.block<w.heap.size∧x.spot=none) (hK:K<2 ^ 20) (hL:NUML w a L)
    (hcn:K≤cn) (hna:∀ x,an=some x→x.block<w.heap.size) (hFn:Flat w an K nd) (hcl:nl≤cl) (hla:∀ x,al=some x→x.block<w.heap.size) (hFl:Flat w al nl lv) (hT:Tabled w) (hX:HX.Tabled w) (hw0:0<w.heap.size)
    (h0:Has w b0 (MBOX N a m c an K cn) 26) (h1:Has w b1 #[.slice al nl cl] 22) (h2:Has w b2 #[.int .i64 d] 3) (h3:Has w b3 #[.slice none 0 0] 22):
    Calls Tryz.prog 32 #[.pointer (some ⟨b0,0,none⟩),.pointer (some ⟨b1,0,none⟩),.pointer (some ⟨b2,0,none⟩),.pointer (some ⟨b3,0,none⟩)] w fun e w'=>
      (e=.returned (.tuple #[])∧(MCE L N K nl=0∧CLMD w w' b3 (PC N) (MUPS d (TPS N) L lv nd)))∨∃ x,e=.panicked (z0z x)∧(x=MCE L N K nl∧x≠0∧Below w.heap.size w w'):=by
  have cm:=z4l L N a m c an K cn w hl hm hc hnil hbl hK hL hT hw0
  have hM:(MBOX N a m c an K cn)=#[.int .u64 (N:Int),.slice a m c,.slice an K cn]:=rfl
  have x0:w.cell? ⟨b0,0,none⟩=some (.int .u64 (N:Int)):=h0.cell 0
  have x1:w.cell? ⟨b0,1,none⟩=some (.slice a m c):=h0.cell 1
  have x2:w.cell? ⟨b0,2,none⟩=some (.slice an K cn):=h0.cell 2
  have HH:Aside (Has w b0 (MBOX N a m c an K cn) 26∧Has w b1 #[.slice al nl cl] 22∧Has w b2 #[.int .i64 d] 3∧Has w b3 #[.slice none 0 0] 22):=⟨h0,h1,h2,h3⟩
  have HA:Aside (L.length=m∧m<2 ^ 20∧m≤c∧(a=none→c=0)∧(∀ x,a=some x→x.block<w.heap.size∧x.spot=none)∧NUML w a L):=⟨hl,hm,hc,hnil,hbl,hL⟩
  have HB:Aside (K≤cn∧(∀ x,an=some x→x.block<w.heap.size)∧Flat w an K nd∧nl≤cl∧(∀ x,al=some x→x.block<w.heap.size)∧Flat w al nl lv∧Tabled w∧HX.Tabled w∧0<w.heap.size):=⟨hcn,hna,hFn,hcl,hla,hFl,hT,hX,hw0⟩
  clear hl hm hc hnil hbl hK hL hcn hna hFn hcl hla hFl hT hX hw0 h0 h1 h2 h3
  rw [hM] at cm
  go_enter Tryz.func32,Tryz.ntmps32
  go_wp2_with fail
  refine cm.mono ?_
  rintro e w1 ⟨hb1,(⟨hr,rfl⟩ | ⟨hr,rfl⟩)⟩
  · clear cm x0 x1 x2
    obtain ⟨q1,q2⟩:=z5J hr
    have k0:=HH.out.1.keep hb1
    have k1:=HH.out.2.1.keep hb1
    have k2:=HH.out.2.2.1.keep hb1
    have x0:w1.cell? ⟨b0,0,none⟩=some (.int .u64 (N:Int)):=k0.cell 0
    have x1:w1.cell? ⟨b0,1,none⟩=some (.slice a m c):=k0.cell 1
    have x2:w1.cell? ⟨b0,2,none⟩=some (.slice an K cn):=k0.cell 2
    have x3:w1.cell? ⟨b1,0,none⟩=some (.slice al nl cl):=k1.cell 0
    have x4:w1.cell? ⟨b2,0,none⟩=some (.int .i64 d):=k2.cell 0
    by_cases hnl:nl=m
    · subst hnl
      obtain ⟨r1,r2,r3⟩:=z1I q1
      obtain ⟨p1,p2,p3,p4,p5,p6⟩:=HA.out
      obtain ⟨s1,s2,s3,s4,s5,s6,s7,s8,s9⟩:=HB.out
      have cc:=zaC d L N a nl c al cl an K cn lv nd w1 (by omega) p1 p2 r2 r3 p3 p4 (fun x e=>⟨Nat.lt_of_lt_of_le (p5 x e).1 hb1.size,(p5 x e).2⟩) (fun hp=>by
        obtain ⟨b,o,e,hlt,hcc⟩:=p6 hp
        exact ⟨b,o,e,Nat.lt_of_lt_of_le hlt hb1.size,fun i x hx=>(hb1.cell (p:=⟨b,o+i,none⟩) hlt).trans (hcc i x hx)⟩) s4 (fun x e=>Nat.lt_of_lt_of_le (s5 x e) hb1.size) (s6.below hb1) s1 (fun x e=>Nat.lt_of_lt_of_le (s2 x e) hb1.size) (s3.below hb1) q2 (s7.below s9 hb1) (s8.below hb1) (by have:=hb1.size;omega)
      rw [hM] at cc
      have HR:Aside (MCE L N K nl=0∧Below w.heap.size w w1):=⟨z5L hr p1.symm,hb1⟩
      clear hr q1 q2 r1 r2 r3 hb1 k0 k1 k2 p1 p2 p3 p4 p5 p6 s1 s2 s3 s4 s5 s6 s7 s8 s9 HA HB
      go_wp2_with fail
      refine cc.mono ?_
      rintro e w2 ⟨av,cv,rfl,hown,hb2⟩
      clear cc x0 x1 x2 x3 x4
      generalize hvv:Value.slice av (PC N) cv=v at *
      have hw2:Below w.heap.size w w2:=HR.out.2.trans (hb2.mono HR.out.2.size)
      have k3:=HH.out.2.2.2.keep hw2
      have c3:=k3.cell 0
      have f3:=k3.frozen 0
      have FN:Aside (CLMD w (w2.setCell ⟨b3,0,none⟩ v) b3 (PC N) (MUPS d (TPS N) L lv nd)):=by
        have hlt:=HH.out.2.2.2.lt
        refine ⟨⟨v,k3.set 0 v,z0f (ownsRow_setCell_below hown (a:=⟨b3,0,none⟩) (by show b3<w1.heap.size;have:=HR.out.2.size;omega) _) HR.out.2.size⟩,fun b hb hne=>(Below.heap_setCell _ _ _ _ (by exact hne)).trans (hw2.block b hb),?_⟩
        exact (hw2.mono (Nat.le_of_lt hlt)).setCell (p:=⟨b3,0,none⟩) (Nat.le_refl _) _
      subst hvv
      clear hown hb2 hw2 k3 HH
      go_wp2_with fail
      exact bodyPost_end (v:=.tuple #[]) (by simp [results,Tryz.f32]) rfl (.inl ⟨rfl,HR.out.1,FN.out⟩)
    · have hne:((nl:Int) == (m:Int))=false:=beq_eq_false_iff_ne.2 (by omega)
      have FN:Aside (MCE L N K nl=70∧Below w.heap.size w w1):=⟨z2B hr (by rw [HA.out.1];exact hnl),hb1⟩
      clear hr q1 q2 hb1 k0 k1 k2 HA HB HH hnl
      go_wp2_with fail
      exact ⟨rfl,.inr ⟨70,rfl,FN.out.1.symm,by decide,FN.out.2⟩⟩
  · exact ⟨rfl,.inr ⟨_,rfl,(z3d hr).symm,hr,hb1⟩⟩
def ANSC (w:World) (A:Int × Nat × List Int) (e:Ending) (w':World):Prop:=∃ a c,e=.returned (.tuple #[.slice a A.2.1 c,.int .i64 A.1])∧w'.ownsRow w.heap.size 38 32 (.slice a A.2.1 c) A.2.1 (z00 A.2.2)∧Below w.heap.size w w'
set_option maxHeartbeats 4000000 in
theorem z7X (d:Int) (L:List Nat) (N:Nat) (a:Option Addr) (m c:Nat) (an:Option Addr) (K cn:Nat) (al:Option Addr) (nl cl:Nat) (lv nd:List Int) (w:World) (hl:L.length=m) (hm:m<2 ^ 20) (hc:m≤c) (hnil:a=none→c=0) (hbl:∀ x,a=some x→x.block<w.heap.size∧x.spot=none) (hK:K<2 ^ 20) (hL:NUML w a L)
    (hcn:K≤cn) (hna:∀ x,an=some x→x.block<w.heap.size) (hFn:Flat w an K nd) (hcl:nl≤cl) (hla:∀ x,al=some x→x.block<w.heap.size) (hFl:Flat w al nl lv) (hT:Tabled w) (hX:HX.Tabled w) (hw0:0<w.heap.size):
    Calls Tryz.prog 9 #[.int .i64 d,.slice al nl cl,.agg (MBOX N a m c an K cn)] w (ANSC w (MCL d L N K nl lv nd)):=by
  have hmf:∀ (fn:Fn) (first cap:Array Value) (w:World),(Instr.makeFunc fn first cap).run Tryz.prog w=.ok (.func fn first cap) w:=fun _ _ _ _=>rfl
  obtain ⟨w1,e1⟩:∃ w1,w.alloc (.cells #[.int .i64 d] 3)=w1:=⟨_,rfl⟩
  obtain ⟨w2,e2⟩:∃ w2,w1.alloc (.cells #[.slice al nl cl] 22)=w2:=⟨_,rfl⟩
  obtain ⟨w3,e3⟩:∃ w3,w2.alloc (.cells (MBOX N a m c an K cn) 26)=w3:=⟨_,rfl⟩
  obtain ⟨w4,e4⟩:∃ w4,w3.alloc (.cells #[.slice none 0 0] 22)=w4:=⟨_,rfl⟩
  obtain ⟨w5,e5⟩:∃ w5,w4.alloc (.cells #[.int .i64 0] 29)=w5:=⟨_,rfl⟩
  have s1:w1.heap.size=w.heap.size+1:=by rw [← e1];simp
  have s2:w2.heap.size=w.heap.size+2:=by rw [← e2];simp;omega
  have s3:w3.heap.size=w.heap.size+3:=by rw [← e3];simp;omega
  have s4:w4.heap.size=w.heap.size+4:=by rw [← e4];simp;omega
  have s5:w5.heap.size=w.heap.size+5:=by rw [← e5];simp;omega
  have hb5:Below w.heap.size w w5:=by
    rw [← e5,← e4,← e3,← e2,← e1]
    exact (((((Below.refl _ _).alloc (Nat.le_refl _) _).alloc (by simp) _).alloc (by simp;omega) _).alloc (by simp;omega) _).alloc (by simp;omega) _
  have h2:Has w5 w.heap.size #[.int .i64 d] 3:=by
    rw [← e5,← e4,← e3,← e2,← e1]
    exact ((((Has.new w _ _).alloc _).alloc _).alloc _).alloc _
  have h1:Has w5 w1.heap.size #[.slice al nl cl] 22:=by
    rw [← e5,← e4,← e3,← e2]
    exact (((Has.new w1 _ _).alloc _).alloc _).alloc _
  have h0:Has w5 w2.heap.size (MBOX N a m c an K cn) 26:=by
    rw [← e5,← e4,← e3]
    exact ((Has.new w2 _ _).alloc _).alloc _
  have h3:Has w5 w3.heap.size #[.slice none 0 0] 22:=by
    rw [← e5,← e4]
    exact (Has.new w3 _ _).alloc _
  have h4:Has w5 w4.heap.size #[.int .i64 0] 29:=by
    rw [← e5]
    exact Has.new w4 _ _
  have hL5:NUML w5 a L:=fun hp=>by
    obtain ⟨b,o,e,hlt,hcc⟩:=hL hp
    exact ⟨b,o,e,by omega,fun i x hx=>(hb5.cell (p:=⟨b,o+i,none⟩) hlt).trans (hcc i x hx)⟩
  have cd:=zaD d L N a m c an K cn al nl cl lv nd w2.heap.size w1.heap.size w.heap.size w3.heap.size w5 hl hm hc hnil (fun x e=>⟨by have:=(hbl x e).1;omega,(hbl x e).2⟩) hK hL5 hcn (fun x e=>by have:=hna x e;omega) (hFn.below hb5) hcl (fun x e=>by have:=hla x e;omega) (hFl.below hb5) (hT.below hw0 hb5) (hX.below hb5) (by omega) h0 h1 h2 h3
  rw [← e5] at cd
  have cf:=zdw w2.heap.size w1.heap.size w.heap.size w3.heap.size w4 _ _ cd
    (fun w' ⟨_,ht⟩=>by
      rw [e5] at ht
      exact (ht.keep w4.heap.size (by omega) (by omega)).trans h4)
    (fun x w' ⟨_,_,hb⟩=>by rw [e5] at hb;exact h4.keep hb)
  rw [e5] at cf
  have FIN:Aside (∀ e w',z3b w4 (fun w'=>MCE L N K nl=0∧CLMD w5 w' w3.heap.size (PC N) (MUPS d (TPS N) L lv nd)) (fun x w'=>x=MCE L N K nl∧x≠0∧Below w5.heap.size w5 w') e w'→e=.returned (.int .i64 (MCL d L N K nl lv nd).1)∧Below w.heap.size w w'∧∃ a' c',Has w' w3.heap.size #[.slice a' (MCL d L N K nl lv nd).2.1 c'] 22∧w'.ownsRow w.heap.size 38 32 (.slice a' (MCL d L N K nl lv nd).2.1 c') (MCL d L N K nl lv nd).2.1 (z00 (MCL d L N K nl lv nd).2.2)):=by
    rintro e w' (⟨rfl,wx,⟨hr,ht⟩,rfl⟩ | ⟨x,wx,rfl,⟨rfl,hx,hbx⟩,rfl⟩)
    · have hP:MCL d L N K nl lv nd=(0,PC N,MUPS d (TPS N) L lv nd):=if_pos hr
      obtain ⟨v,hv,hown⟩:=ht.row
      obtain ⟨a',c',rfl⟩:=z2Q hown
      rw [hP]
      refine ⟨rfl,?_,a',c',?_,?_⟩
      · exact ((hb5.trans (ht.below.mono (by omega)))).setCell (by show w.heap.size≤w4.heap.size;omega) _
      · exact hv.other (by show w3.heap.size≠w4.heap.size;omega) _
      · exact z0f (ownsRow_setCell_below hown (a:=⟨w4.heap.size,0,none⟩) (by show w4.heap.size<w5.heap.size;omega) _) (by omega)
    · have hP:MCL d L N K nl lv nd=(MCE L N K nl,0,[]):=if_neg hx
      rw [hP]
      refine ⟨rfl,(hb5.trans (hbx.mono hb5.size)).setCell (by show w.heap.size≤w4.heap.size;omega) _,none,0,?_,?_⟩
      · exact (h3.keep hbx).other (by show w3.heap.size≠w4.heap.size;omega) _
      · exact ⟨rfl,.inl ⟨rfl,rfl⟩⟩
  have hM:(MBOX N a m c an K cn)=#[.int .u64 (N:Int),.slice a m c,.slice an K cn]:=rfl
  rw [hM] at e3
  clear cd h0 h1 h2 h3 h4 hL5 hb5 hl hm hc hnil hbl hL hFl hFn hT hX hcn hna hcl hla s1 s2 s3 s4 s5 e5 hw0 hK
  generalize MCL d L N K nl lv nd=A at *
  go_enter Tryz.func9,Tryz.ntmps9
  rw [hM]
  go_wp2_with fail
  refine cf.mono ?_
  intro e w6 hh
  obtain ⟨rfl,hb6,a',c',hv,hown⟩:=FIN.out e w6 hh
  have x0:=hv.cell 0
  have FN:Aside (ANSC w A (.returned (.tuple #[.slice a' A.2.1 c',.int .i64 A.1])) w6):=⟨a',c',rfl,hown,hb6⟩
  clear hh hb6 hv hown FIN cf
  go_wp2_with fail
  go_ret2
  exact FN.out
end Go.Proofs.YtlicfinmibbpdaaGreatDoor

namespace Go.Proofs.YtlicfinmibbpdaaGreatDoor
open Go.RowKit
set_option maxRecDepth 100000
def MUPR (d:Int):List (Nat × Nat)→List Nat→List Int→List Int→List Int
  | [],_,_,_=>[]
  | (h,k) :: ps,L,lv,nd=>(MUP d h k (UND h k L) lv nd).1 ++ MUPR d ps L (MUP d h k (UND h k L) lv nd).2.1 (MUP d h k (UND h k L) lv nd).2.2
theorem z5M {d:Int}:∀ {ps:List (Nat × Nat)} {L M:List Nat} {lv nd:List Int},(∀ s∈ps,UND s.1 s.2 L=UND s.1 s.2 M)→MUPR d ps L lv nd=MUPR d ps M lv nd
  | [],_,_,_,_,_=>rfl
  | (h,k) :: ps,L,M,lv,nd,hp=>by
    have e:=hp (h,k) (List.mem_cons_self ..)
    dsimp only at e
    rw [MUPR,MUPR,e]
    exact congrArg _ (z5M fun t ht=>hp t (List.mem_cons_of_mem _ ht))
theorem z7Y {k h B:Nat} {ps:List (Nat × Nat)} {L:List Nat} (ht:Tile ((k+1)*2 ^ h) ps B):∀ s∈ps,UND s.1 s.2 L=UND s.1 s.2 (L.filter fun y=>!decide (y<(k+1)*2 ^ h)):=fun s hs=>by
  have h1:=(ht.within s hs).1
  unfold UND
  rw [List.filter_filter]
  refine List.filter_congr fun y hy=>?_
  by_cases e:y / 2 ^ s.1=s.2
  · have h2:s.2*2 ^ s.1≤y:=by rw [← e];exact Nat.div_mul_le_self _ _
    have h3:¬ y<(k+1)*2 ^ h:=by omega
    simp [e,h3]
  · simp [e]
theorem z6F {A k h N:Nat} {L:List Nat} (hA:k*2 ^ h=A) (hm:AMID A N L):UND h k L=L.filter fun y=>decide (y<(k+1)*2 ^ h):=List.filter_congr fun y hy=>decide_eq_decide.2 (by
  have h1:=Nat.div_lt_iff_lt_mul (Nat.two_pow_pos h) (x:=y) (y:=k+1)
  have h2:=Nat.le_div_iff_mul_le (Nat.two_pow_pos h) (x:=k) (y:=y)
  have h3:=(hm y hy).1
  rw [← h1]
  rw [hA] at h2
  generalize y / 2 ^ h=q at *
  omega)
theorem z6G {d:Int}:∀ (ps:List (Nat × Nat)) (A B:Nat) (L:List Nat) (lv nd:List Int),Tile A ps B→AMID A B L→MUPR d ps L lv nd=MUPS d ps L lv nd
  | [],_,_,_,_,_,_,_=>rfl
  | (h,k) :: ps,A,B,L,lv,nd,ht,hm=>by
    obtain ⟨hN,hA,ht⟩:Node h k∧k*2 ^ h=A∧Tile ((k+1)*2 ^ h) ps B:=ht
    have e1:=z6F hA hm
    rw [MUPR,MUPS,z5M (z7Y (L:=L) ht),e1,z6G ps ((k+1)*2 ^ h) B _ _ _ ht (fun y hy=>by
      obtain ⟨a,b⟩:=List.mem_filter.1 hy
      have b:¬ y<(k+1)*2 ^ h:=by simpa using b
      exact ⟨by omega,(hm y a).2⟩)]
theorem z5N:∀ (ps:List (Nat × Nat)) (A B:Nat) (L:List Nat),Tile A ps B→AMID A B L→ps.foldr (fun s x=>(UND s.1 s.2 L).length+x) 0=L.length∧ps.foldr (fun s x=>(NEED s.1 s.2 (UND s.1 s.2 L)).length+x) 0=(z04 ps L).length
  | [],A,B,L,ht,hm=>by
    have e:A=B:=ht
    cases L with
    | nil=>exact ⟨rfl,rfl⟩
    | cons x l=>have:=hm x (by simp);omega
  | (h, k) :: ps,A,B,L,ht,hm=>by
    obtain ⟨hN,hA,ht⟩:Node h k∧k*2 ^ h=A∧Tile ((k+1)*2 ^ h) ps B:=ht
    have e1:=z6F hA hm
    have ih:=z5N ps ((k+1)*2 ^ h) B (L.filter fun y=>!decide (y<(k+1)*2 ^ h)) ht (fun y hy=>by
      obtain ⟨a,b⟩:=List.mem_filter.1 hy
      have b:¬ y<(k+1)*2 ^ h:=by simpa using b
      exact ⟨by omega,(hm y a).2⟩)
    have hc:∀ (f:Nat × Nat→List Nat→Nat) ,ps.foldr (fun s x=>f s (UND s.1 s.2 L)+x) 0=ps.foldr (fun s x=>f s (UND s.1 s.2 (L.filter fun y=>!decide (y<(k+1)*2 ^ h)))+x) 0:=fun f=>by
      have hr:=z7Y (L:=L) ht
      clear ih e1 ht
      induction ps with
      | nil=>rfl
      | cons s ps ihh=>
        rw [List.foldr_cons,List.foldr_cons,ihh (fun t ht=>hr t (List.mem_cons_of_mem _ ht)),hr s (List.mem_cons_self ..)]
    refine ⟨?_,?_⟩
    · rw [List.foldr_cons,hc (fun _ l=>l.length),ih.1,e1]
      exact z1R _ _
    · rw [List.foldr_cons,hc (fun s l=>(NEED s.1 s.2 l).length),ih.2,z04,List.length_append,e1]
def TKL (ps:List (Nat × Nat)) (L:List Nat):Nat:=ps.foldr (fun s x=>(UND s.1 s.2 L).length+x) 0
def TKN (ps:List (Nat × Nat)) (L:List Nat):Nat:=ps.foldr (fun s x=>(NEED s.1 s.2 (UND s.1 s.2 L)).length+x) 0
structure RCJ (d:Int) (N:Nat) (L:List Nat) (lv nd:List Int) (w w4 wx:World) (b11 i:Nat) (pv:Value) (out lvj ndj:List Int) (ya xa:Option Addr) (yc xc:Nat):Prop where
  row:Has wx b11 #[.slice ya (TKL ((TPS N).drop i) L) yc,.slice xa (TKN ((TPS N).drop i) L) xc] 61
  l:LFT w ya (TKL ((TPS N).drop i) L) yc lvj
  n:LFT w xa (TKN ((TPS N).drop i) L) xc ndj
  own:wx.ownsRow w4.heap.size 38 32 pv i (z00 out)
  but:BUT b11 w4 wx
  all:MUPR d (TPS N) L lv nd=out ++ MUPR d ((TPS N).drop i) L lvj ndj
set_option maxHeartbeats 8000000 in
theorem z6a (d:Int) (L:List Nat) (N:Nat) (hN:N<2 ^ 64) (a:Option Addr) (m c:Nat) (an:Option Addr) (K cn:Nat) (al:Option Addr) (nl cl:Nat) (lv nd:List Int) (w:World) (hl:L.length=m) (hm:m≤200) (hx:∀ x∈L,x<2 ^ 64) (hK:K≤200) (hL:NUML w a L) (hFn:Flat w an K nd) (hE:MCE L N K nl≠0):
    Calls Tryz.prog 8 #[.int .i64 d,.slice al nl cl,.agg #[.int .u64 (N:Int),.slice a m c,.slice an K cn]] w (ANSC w (MCL d L N K nl lv nd)):=by
  have hP:MCL d L N K nl lv nd=(MCE L N K nl,0,[]):=if_neg hE
  rw [hP]
  obtain ⟨w1,e1⟩:∃ w1,w.alloc (.cells #[.int .u64 (N:Int),.slice a m c,.slice an K cn] 26)=w1:=⟨_,rfl⟩
  have hb1:Below w.heap.size w w1:=by rw [← e1];exact (Below.refl _ _).alloc (Nat.le_refl _) _
  have hB1:Has w1 w.heap.size #[.int .u64 (N:Int),.slice a m c,.slice an K cn] 26:=by rw [← e1];exact Has.new _ _ _
  have x0:=hB1.cell 0
  have x1:=hB1.cell 1
  have x2:=hB1.cell 2
  have ce:=z3s L N hN a m c an K cn nd w1 hl hm hx hK (hL.keep hb1) (hFn.below hb1)
  have HB:Aside (Below w.heap.size w w1∧Has w1 w.heap.size #[.int .u64 (N:Int),.slice a m c,.slice an K cn] 26∧L.length=m):=⟨hb1,hB1,hl⟩
  clear hl hm hx hK hL hFn hb1 hB1 hP hN
  by_cases hW:MWA L N K=0
  · have hnl:nl≠L.length:=fun e=>hE (z5L hW e)
    have hne:((nl:Int) == (m:Int))=false:=beq_eq_false_iff_ne.2 (by have:=HB.out.2.2;omega)
    rw [z2B hW hnl]
    have hME:MENC L N K nd=(0,MWRT L N nd):=if_pos hW
    rw [hME] at ce
    clear hW hE hnl hME
    go_enter Tryz.func8,Tryz.ntmps8
    go_wp2_with fail
    refine ce.mono ?_
    rintro e w2 ⟨ae,qe,rfl,_,hb2⟩
    clear ce x0 x1 x2 e1
    have k2:=HB.out.2.1.keep hb2
    have x1:=k2.cell 1
    have FN:Aside (Below w.heap.size w w2):=HB.out.1.trans (hb2.mono HB.out.1.size)
    clear hb2 k2 HB
    go_wp2_with fail
    go_ret2
    exact ⟨none,0,rfl,⟨rfl,.inl ⟨rfl,rfl⟩⟩,FN.out⟩
  · have hME:MENC L N K nd=(MWA L N K,[]):=if_neg hW
    rw [z3d hW]
    rw [hME] at ce
    have hw0:(MWA L N K == 0)=false:=beq_eq_false_iff_ne.2 hW
    clear hME hE
    generalize MWA L N K=E at *
    go_enter Tryz.func8,Tryz.ntmps8
    go_wp2_with fail
    refine ce.mono ?_
    rintro e w2 ⟨ae,qe,rfl,_,hb2⟩
    clear ce x0 x1 x2 e1
    have FN:Aside (Below w.heap.size w w2):=HB.out.1.trans (hb2.mono HB.out.1.size)
    clear hb2 HB
    go_wp2_with fail
    go_ret2
    exact ⟨none,0,rfl,⟨rfl,.inl ⟨rfl,rfl⟩⟩,FN.out⟩
theorem zdx {N i h k:Nat} {L:List Nat} (e:(TPS N)[i]?=some (h,k)):TKL ((TPS N).drop i) L=(UND h k L).length+TKL ((TPS N).drop (i+1)) L∧TKN ((TPS N).drop i) L=(NEED h k (UND h k L)).length+TKN ((TPS N).drop (i+1)) L:=by
  rw [z3c e]
  exact ⟨rfl,rfl⟩
theorem zbY {d:Int} {N i h k:Nat} {L:List Nat} {lv nd:List Int} (e:(TPS N)[i]?=some (h,k)):MUPR d ((TPS N).drop i) L lv nd=(MUP d h k (UND h k L) lv nd).1 ++ MUPR d ((TPS N).drop (i+1)) L (MUP d h k (UND h k L) lv nd).2.1 (MUP d h k (UND h k L) lv nd).2.2:=by
  rw [z3c e]
  rfl
theorem z7Z (n:Nat) (hn:n≤4611686018427387904) (w:World):Calls Tryz.prog 29 #[.int .u64 (n:Int)] w fun e w'=>
    ∃ a cap,e=.returned (.slice a (PC n) cap)∧Spots w' a (TPS n)∧(∀ x,a=some x→w.heap.size≤x.block)∧Below w.heap.size w w':=by
  refine (z5Z n hn w).mono ?_
  rintro e w' ⟨v,rfl,hown,hb⟩
  have hl:=z4H (n:=n) (by omega) 0 (by omega)
  rw [Nat.pow_zero,Nat.div_one] at hl
  obtain ⟨a,cap,rfl,hs⟩:=z6p hl hown
  refine ⟨a,cap,rfl,hs,fun x hx=>?_,hb⟩
  subst hx
  exact (hown.lt x.block rfl).1
set_option maxHeartbeats 16000000 in
theorem z6T (d:Int) (L:List Nat) (N:Nat) (hN:N<2 ^ 64) (a:Option Addr) (m c:Nat) (an:Option Addr) (K cn:Nat) (al:Option Addr) (nl cl:Nat) (lv nd:List Int) (w:World) (hl:L.length=m) (hm:m≤200) (hx:∀ x∈L,x<2 ^ 64) (hK:K≤200) (hL:NUML w a L) (hFn:Flat w an K nd) (hcn:K≤cn) (hFl:Flat w al nl lv) (hcl:nl≤cl):
    Calls Tryz.prog 8 #[.int .i64 d,.slice al nl cl,.agg #[.int .u64 (N:Int),.slice a m c,.slice an K cn]] w (ANSC w (MCL d L N K nl lv nd)):=by
  by_cases hE:MCE L N K nl=0
  case neg=>exact z6a d L N hN a m c an K cn al nl cl lv nd w hl hm hx hK hL hFn hE
  have hP:MCL d L N K nl lv nd=(0,PC N,MUPS d (TPS N) L lv nd):=if_pos hE
  rw [hP]
  have hW:MWA L N K=0:=by
    by_cases h:MWA L N K=0
    · exact h
    · rw [z3d h] at hE;exact hE
  have hnl:nl=m:=by
    by_cases h:nl=L.length
    · rw [h,hl]
    · rw [z2B hW h] at hE;cases hE
  subst hnl
  obtain ⟨q1,q2⟩:=z5J hW
  obtain ⟨r1,r2,r3⟩:=z1I q1
  have hME:MENC L N K nd=(0,MWRT L N nd):=if_pos hW
  have htile:=z3R r1
  have ham:AMID 0 N L:=fun x hx=>⟨Nat.zero_le _,r3 x hx⟩
  have hcount:=z5N (TPS N) 0 N L htile ham
  have hall:=z6G (d:=d) (TPS N) 0 N L lv nd htile ham
  have hPC:PC N≤64:=z19 64 N (by omega)
  have hlen:=z1k (n:=N) (by omega)
  obtain ⟨w1,e1⟩:∃ w1,w.alloc (.cells #[.int .u64 (N:Int),.slice a nl c,.slice an K cn] 26)=w1:=⟨_,rfl⟩
  obtain ⟨b5,hb5⟩:∃ b5,w.heap.size=b5:=⟨_,rfl⟩
  have hb1:Below w.heap.size w w1:=by rw [← e1];exact (Below.refl _ _).alloc (Nat.le_refl _) _
  have hB1:Has w1 b5 #[.int .u64 (N:Int),.slice a nl c,.slice an K cn] 26:=by rw [← e1,← hb5];exact Has.new _ _ _
  have x0:=hB1.cell 0
  have x1:=hB1.cell 1
  have x2:=hB1.cell 2
  have ce:=z3s L N hN a nl c an K cn nd w1 hl hm hx hK (hL.keep hb1) (hFn.below hb1)
  rw [hME] at ce
  have CT:Aside (∀ w,Calls Tryz.prog 29 #[.int .u64 (N:Int)] w fun e w'=>∃ a cap,e=.returned (.slice a (PC N) cap)∧Spots w' a (TPS N)∧(∀ x,a=some x→w.heap.size≤x.block)∧Below w.heap.size w w'):=z7Z N r1
  have HB:Aside (Below w.heap.size w w1∧Has w1 b5 #[.int .u64 (N:Int),.slice a nl c,.slice an K cn] 26∧L.length=nl∧w.heap.size=b5):=⟨hb1,hB1,hl,hb5⟩
  have HA:Aside (nl≤200∧N≤2 ^ 62∧PC N≤64∧(TPS N).length=PC N∧RISES L∧(∀ x∈L,x<2 ^ 64)∧NUML w a L∧LFT w al nl cl lv∧LFT w an K cn nd∧nl=TKL (TPS N) L∧K=TKN (TPS N) L∧MUPR d (TPS N) L lv nd=MUPS d (TPS N) L lv nd):=⟨hm,by omega,hPC,hlen,r2,hx,hL,⟨hFl,hcl⟩,⟨hFn,hcn⟩,by rw [← hl];exact hcount.1.symm,by rw [q2];exact hcount.2.symm,hall⟩
  clear hl hm hx hK hL hFn hb1 hB1 hP hN hE hW q1 q2 r1 r2 r3 hME htile ham hcount hall hPC hlen hFl hcl hcn
  go_enter Tryz.func8,Tryz.ntmps8
  go_wp2_with fail
  refine ce.mono ?_
  rintro e w2 ⟨ae,qe,rfl,_,hb2⟩
  clear ce x0 x1 x2 e1 hb5
  have k2:=HB.out.2.1.keep hb2
  have x1:=k2.cell 1
  have x2:=k2.cell 2
  go_upto_region 8 with fail
  obtain ⟨w3,hw3⟩:∃ w3,w2.alloc (.cells #[.slice al nl cl,.slice an K cn] 61)=w3:=⟨_,rfl⟩
  have hb3:Below w2.heap.size w2 w3:=by rw [← hw3];exact (Below.refl _ _).alloc (Nat.le_refl _) _
  have hR3:Has w3 w2.heap.size #[.slice al nl cl,.slice an K cn] 61:=by rw [← hw3];exact Has.new _ _ _
  rw [hw3]
  have k3:=k2.keep hb3
  have W3:Aside (Below w.heap.size w w3∧Has w3 b5 #[.int .u64 (N:Int),.slice a nl c,.slice an K cn] 26∧Has w3 w2.heap.size #[.slice al nl cl,.slice an K cn] 61∧w.heap.size=b5∧b5<w2.heap.size):=⟨(HB.out.1.trans (hb2.mono HB.out.1.size)).trans (hb3.mono (HB.out.1.trans (hb2.mono HB.out.1.size)).size),k3,hR3,HB.out.2.2.2,k2.lt⟩
  have x0:=k3.cell 0
  have ct:=CT.out w3
  generalize w2.heap.size=b11 at *
  clear hw3 hb3 hR3 k2 k3 x1 x2 hb2 CT
  go_wp2_with fail
  refine ct.mono ?_
  rintro e w4 ⟨ag,cg,rfl,hsp,hnew,hb4⟩
  clear ct x0
  obtain ⟨M,hM⟩:∃ M,PC N=M:=⟨_,rfl⟩
  rw [hM]
  have W4:Aside (Below w.heap.size w w4∧Has w4 b5 #[.int .u64 (N:Int),.slice a nl c,.slice an K cn] 26∧w.heap.size=b5∧b5<b11∧b11<w4.heap.size∧Spots w4 ag (TPS N)∧PC N=M∧(∀ x,ag=some x→x.block≠b11)):=by
    refine ⟨W3.out.1.trans (hb4.mono W3.out.1.size),W3.out.2.1.keep hb4,W3.out.2.2.2.1,W3.out.2.2.2.2,(W3.out.2.2.1.keep hb4).lt,hsp,hM,fun x hx=>?_⟩
    have h1:=hnew x hx
    have h2:=W3.out.2.2.1.lt
    omega
  have S0:Aside (RCJ d N L lv nd w w4 w4 b11 0 (.slice none 0 0) [] lv nd al an cl cn):=by
    have h:=HA.out
    refine ⟨?_,?_,?_,⟨rfl,.inl ⟨rfl,rfl⟩⟩,BUT.refl _ _,by simp⟩
    · rw [List.drop_zero,← h.2.2.2.2.2.2.2.2.2.1,← h.2.2.2.2.2.2.2.2.2.2.1];exact W3.out.2.2.1.keep hb4
    · rw [List.drop_zero,← h.2.2.2.2.2.2.2.2.2.1];exact h.2.2.2.2.2.2.2.1
    · rw [List.drop_zero,← h.2.2.2.2.2.2.2.2.2.2.1];exact h.2.2.2.2.2.2.2.2.1
  clear hsp hb4 W3 hM hnew
  go_wp2_with fail
  go_loopg [10,13] M (fun q s10 s13 wx=>∃ (i:Nat) (out lvj ndj:List Int) (ya xa:Option Addr) (yc xc:Nat),s13=.int .i64 (i:Int)∧Aside (i+q=M∧RCJ d N L lv nd w w4 wx b11 i s10 out lvj ndj ya xa yc xc))
  case atStart=>exact ⟨0,[],lv,nd,al,an,cl,cn,rfl,by omega,S0.out⟩
  case round=>
    obtain ⟨i,out,lvj,ndj,ya,xa,yc,xc,rfl,A⟩:=hrel
    clear S0
    cases gk with
    | zero=>
      obtain rfl:i=M:=by have:=A.out.1;omega
      have hlt:¬ (i:Int)<(i:Int):=by omega
      have FN:Aside (∃ ap cp,u10=.slice ap (PC N) cp∧wr.ownsRow w.heap.size 38 32 (.slice ap (PC N) cp) (PC N) (z00 (MUPS d (TPS N) L lv nd))∧Below w.heap.size w wr):=by
        show ∃ ap cp,u10=.slice ap (PC N) cp∧wr.ownsRow w.heap.size 38 32 (.slice ap (PC N) cp) (PC N) (z00 (MUPS d (TPS N) L lv nd))∧Below w.heap.size w wr
        have h:=A.out.2
        have e:=h.all
        rw [List.drop_of_length_le (by have:=W4.out.2.2.2.2.2.2.1;have:=HA.out.2.2.2.1;omega),MUPR,List.append_nil,HA.out.2.2.2.2.2.2.2.2.2.2.2] at e
        have ho:=h.own
        rw [← e] at ho
        rw [W4.out.2.2.2.2.2.2.1]
        obtain ⟨ap,cp,rfl⟩:=z7W ho
        exact ⟨ap,cp,rfl,z0f ho W4.out.1.size,W4.out.1.trans (h.but.2.mono (by have:=W4.out;omega))⟩
      clear A HA W4
      go_wp2_with fail
      obtain ⟨ap,cp,rfl,h1,h2⟩:=FN.out
      go_ret2
      exact ⟨ap,cp,rfl,h1,h2⟩
    | succ q=>
      have hiM:i<M:=by have:=A.out.1;omega
      have hlt:(i:Int)<(M:Int):=by omega
      obtain ⟨⟨h,k⟩,ehk⟩:∃ s,(TPS N)[i]?=some s:=⟨_,List.getElem?_eq_getElem (by have:=W4.out.2.2.2.2.2.2.1;have:=HA.out.2.2.2.1;omega)⟩
      obtain ⟨g,rfl,hg,hc⟩:=W4.out.2.2.2.2.2.1 (by have:=W4.out.2.2.2.2.2.2.1;have:=HA.out.2.2.2.1;omega)
      have hgb:g≠b11:=W4.out.2.2.2.2.2.2.2 _ rfl
      have hnd:=z1c HA.out.2.1 (List.mem_of_getElem? ehk)
      obtain ⟨t1,t2⟩:=zdx (L:=L) ehk
      have t3:=zbY (d:=d) (L:=L) (lv:=lvj) (nd:=ndj) ehk
      have ei:wrap64 ((i:Int)+1)=((i+1:Nat):Int):=by have:=HA.out.2.2.1;have:=W4.out.2.2.2.2.2.2.1;unfold wrap64;omega
      have hbw:Below w.heap.size w wr:=W4.out.1.trans (A.out.2.but.2.mono (by have:=W4.out;omega))
      have hsz:w4.heap.size≤wr.heap.size:=A.out.2.but.2.size
      obtain ⟨w6,hw6⟩:∃ w6,wr.alloc (.cells ZARR 38)=w6:=⟨_,rfl⟩
      obtain ⟨b14,hb14⟩:∃ b14,wr.heap.size=b14:=⟨_,rfl⟩
      have hb6:Below wr.heap.size wr w6:=by rw [← hw6];exact (Below.refl _ _).alloc (Nat.le_refl _) _
      have hz6:Has w6 b14 (z00 ZND).toArray 38:=by rw [← hw6,← hb14,z0Z];exact Has.new _ _ _
      have hbw6:Below w.heap.size w w6:=hbw.trans (hb6.mono hbw.size)
      have sL:=z1Z d h k (UND h k L) lvj ndj (TKL ((TPS N).drop i) L) (TKN ((TPS N).drop i) L) (z4A HA.out.2.2.2.2.1 h k) ⟨A.out.2.l.1.1,A.out.2.l.1.2.2⟩ ⟨A.out.2.n.1.1,A.out.2.n.1.2.2⟩ (by omega) (by omega)
      have co:∀ W,Below w6.heap.size w6 W→Calls Tryz.prog 30 #[.int .i64 d,SPOT h k,.slice a nl c,.agg #[.slice ya (TKL ((TPS N).drop i) L) yc,.slice xa (TKN ((TPS N).drop i) L) xc]] W (OVR w W (MUP d h k (UND h k L) lvj ndj).1 (MUP d h k (UND h k L) lvj ndj).2.1 (MUP d h k (UND h k L) lvj ndj).2.2 (TKL ((TPS N).drop (i+1)) L) (TKN ((TPS N).drop (i+1)) L)):=fun W hW=>by
        have hbW:Below w.heap.size w W:=hbw6.trans (hW.mono hbw6.size)
        have:=zdm d w h k hnd.2.2 L a nl c lvj ndj ya xa (TKL ((TPS N).drop i) L) (TKN ((TPS N).drop i) L) yc xc W HB.out.2.2.1 (by have:=HA.out.1;clear ei;omega) HA.out.2.2.2.2.2.1 HA.out.2.2.2.2.1 (HA.out.2.2.2.2.2.2.1.keep hbW) hbW A.out.2.l A.out.2.n (by clear ei;omega) (by clear ei;omega)
        rw [show TKL ((TPS N).drop i) L - (UND h k L).length=TKL ((TPS N).drop (i+1)) L by clear ei;omega,show TKN ((TPS N).drop i) L - (NEED h k (UND h k L)).length=TKN ((TPS N).drop (i+1)) L by clear ei;omega] at this
        exact this
      have hcell:∀ W,Below w6.heap.size w6 W→W.cell? ⟨g,i*2,none⟩=some (.int .u8 (h:Int))∧W.cell? ⟨g,i*2+1,none⟩=some (.int .u64 (k:Int))∧W.cell? ⟨b5,1,none⟩=some (.slice a nl c):=fun W hW=>by
        have kb:∀ q,q<w4.heap.size→q≠b11→W.heap[q]?=w4.heap[q]?:=fun q hq hne=>(hW.block q (by have:=hb6.size;clear ei;omega)).trans ((hb6.block q (by clear ei;omega)).trans (A.out.2.but.1 q hq hne))
        exact ⟨(World.cell?_of_block (w:=w4) (by exact kb g hg hgb)).trans (hc i h k ehk).1,(World.cell?_of_block (w:=w4) (by exact kb g hg hgb)).trans (hc i h k ehk).2,(World.cell?_of_block (w:=w4) (by exact kb b5 W4.out.2.1.lt (by have:=W4.out;clear ei;omega))).trans (W4.out.2.1.cell 1)⟩
      have hrow6:Has w6 b11 #[.slice ya (TKL ((TPS N).drop i) L) yc,.slice xa (TKN ((TPS N).drop i) L) xc] 61:=A.out.2.row.keep hb6
      have R:Aside (i+1+q=M∧Has w6 b14 (z00 ZND).toArray 38∧Has w6 b11 #[.slice ya (TKL ((TPS N).drop i) L) yc,.slice xa (TKN ((TPS N).drop i) L) xc] 61∧w6.ownsRow w4.heap.size 38 32 u10 i (z00 out)∧BUT b11 w4 w6∧MUPR d (TPS N) L lv nd=out ++ (MUP d h k (UND h k L) lvj ndj).1 ++ MUPR d ((TPS N).drop (i+1)) L (MUP d h k (UND h k L) lvj ndj).2.1 (MUP d h k (UND h k L) lvj ndj).2.2∧b11<w4.heap.size∧w4.heap.size≤b14∧i≤64∧g<w4.heap.size∧g≠b11∧b5<b11∧(∀ k,u10.ownBlock=some k→k<b14)):=by
        refine ⟨by have:=A.out.1;clear ei;omega,hz6,hrow6,z0u A.out.2.own fun k e=>hb6.block k (A.out.2.own.lt k e).2,A.out.2.but.trans (BUT.of_below hb6 (by have:=W4.out;clear ei;omega)),by rw [A.out.2.all,t3,List.append_assoc],W4.out.2.2.2.2.1,by clear ei;omega,by have:=HA.out.2.2.1;have:=W4.out.2.2.2.2.2.2.1;clear ei;omega,hg,hgb,W4.out.2.2.2.1,fun k e=>by have:=(A.out.2.own.lt k e).2;clear ei;omega⟩
      have CO:Aside _:=co
      have HC:Aside _:=hcell
      have lY:=sL.1.1
      clear A hnd t1 t2 t3 hbw hsz hb6 hz6 hbw6 sL co hcell hrow6 ehk hc hg hgb hiM
      generalize (MUP d h k (UND h k L) lvj ndj).1=Y at *
      generalize (MUP d h k (UND h k L) lvj ndj).2.1=lv2 at *
      generalize (MUP d h k (UND h k L) lvj ndj).2.2=nd2 at *
      generalize TKL ((TPS N).drop i) L=tl at *
      generalize TKN ((TPS N).drop i) L=tn at *
      go_upto_region 13 with fail
      clear hw6 hb14
      refine zdh w6 d b5 b11 b14 g M cg i h k nl c tl yc tn xc (TKL ((TPS N).drop (i+1)) L) (TKN ((TPS N).drop (i+1)) L) a ya xa Y lY hlt (fun W=>W=w6.drew) (fun p1 p2 p3 p4 W=>LFT w p1 (TKL ((TPS N).drop (i+1)) L) p2 lv2∧LFT w p3 (TKN ((TPS N).drop (i+1)) L) p4 nd2∧Below w6.heap.size w6 W) (fun p1 p2 p3 p4 W=>∃ W1,LFT w p1 (TKL ((TPS N).drop (i+1)) L) p2 lv2∧LFT w p3 (TKN ((TPS N).drop (i+1)) L) p4 nd2∧Below w6.heap.size w6 W1∧W=W1.setRow b14 (z00 Y).toArray) (fun p1 p2 p3 p4 W=>∃ W1,LFT w p1 (TKL ((TPS N).drop (i+1)) L) p2 lv2∧LFT w p3 (TKN ((TPS N).drop (i+1)) L) p4 nd2∧Below w6.heap.size w6 W1∧W=(W1.setRow b14 (z00 Y).toArray).setRow b11 #[.slice p1 (TKL ((TPS N).drop (i+1)) L) p2,.slice p3 (TKN ((TPS N).drop (i+1)) L) p4]) rfl ?_ ?_ ?_ ?_ ?_ ?_ ?_ ?_ ?_ ?_ (fun _ _ _ _ _ h=>h) ?_
      · rintro _ rfl
        exact HC.out w6.drew (Below.refl _ w6).drew
      · rintro _ _ _ _ W ⟨_,_,hW⟩
        exact HC.out W hW
      · rintro _ _ _ _ _ ⟨W1,_,_,hW,rfl⟩
        obtain ⟨_,_,_,_,_,_,r7,r8,_,r10,r11,r12,_⟩:=R.out
        have h1:=HC.out W1 hW
        exact ⟨(World.cell?_of_block (w:=W1) (by exact setRow_other _ b14 g _ (by clear ei;omega))).trans h1.1,(World.cell?_of_block (w:=W1) (by exact setRow_other _ b14 g _ (by clear ei;omega))).trans h1.2.1,(World.cell?_of_block (w:=W1) (by exact setRow_other _ b14 b5 _ (by clear ei;omega))).trans h1.2.2⟩
      · rintro _ _ _ _ _ ⟨W1,_,_,hW,rfl⟩
        obtain ⟨_,_,_,_,_,_,r7,r8,_,r10,r11,r12,_⟩:=R.out
        have h1:=HC.out W1 hW
        exact ⟨(World.cell?_of_block (w:=W1) (by exact (setRow_other _ b11 g _ (by clear ei;omega)).trans (setRow_other _ b14 g _ (by clear ei;omega)))).trans h1.1,(World.cell?_of_block (w:=W1) (by exact (setRow_other _ b11 g _ (by clear ei;omega)).trans (setRow_other _ b14 g _ (by clear ei;omega)))).trans h1.2.1,(World.cell?_of_block (w:=W1) (by exact (setRow_other _ b11 b5 _ (by clear ei;omega)).trans (setRow_other _ b14 b5 _ (by clear ei;omega)))).trans h1.2.2⟩
      · rintro _ rfl
        exact R.out.2.2.1
      · rintro _ rfl
        refine (CO.out w6.drew (Below.refl _ w6).drew).mono ?_
        rintro e w' ⟨p1,p2,p3,p4,rfl,z1,z2,z3⟩
        exact ⟨p1,p2,p3,p4,rfl,z1,z2,(Below.refl _ w6).drew.trans z3⟩
      · rintro _ _ _ _ W ⟨_,_,hW⟩
        exact R.out.2.1.keep hW
      · rintro _ _ _ _ W ⟨z1,z2,hW⟩
        exact ⟨W,z1,z2,hW,rfl⟩
      · rintro _ _ _ _ _ ⟨W1,_,_,hW,rfl⟩
        exact (R.out.2.2.1.keep hW).row_other (by have:=R.out;clear ei;omega) _
      · rintro _ _ _ _ _ ⟨W1,z1,z2,hW,rfl⟩
        exact ⟨W1,z1,z2,hW,rfl⟩
      · rintro ya2 yc2 xa2 xc2 w7 ⟨W1,z1,z2,hW,rfl⟩
        dsimp only
        have R7:Aside (Has ((W1.setRow b14 (z00 Y).toArray).setRow b11 #[.slice ya2 (TKL ((TPS N).drop (i+1)) L) yc2,.slice xa2 (TKN ((TPS N).drop (i+1)) L) xc2]) b14 (z00 Y).toArray 38∧Has ((W1.setRow b14 (z00 Y).toArray).setRow b11 #[.slice ya2 (TKL ((TPS N).drop (i+1)) L) yc2,.slice xa2 (TKN ((TPS N).drop (i+1)) L) xc2]) b11 #[.slice ya2 (TKL ((TPS N).drop (i+1)) L) yc2,.slice xa2 (TKN ((TPS N).drop (i+1)) L) xc2] 61∧((W1.setRow b14 (z00 Y).toArray).setRow b11 #[.slice ya2 (TKL ((TPS N).drop (i+1)) L) yc2,.slice xa2 (TKN ((TPS N).drop (i+1)) L) xc2]).ownsRow w4.heap.size 38 32 u10 i (z00 out)∧BUT b11 w4 ((W1.setRow b14 (z00 Y).toArray).setRow b11 #[.slice ya2 (TKL ((TPS N).drop (i+1)) L) yc2,.slice xa2 (TKN ((TPS N).drop (i+1)) L) xc2])∧LFT w ya2 (TKL ((TPS N).drop (i+1)) L) yc2 lv2∧LFT w xa2 (TKN ((TPS N).drop (i+1)) L) xc2 nd2):=by
          obtain ⟨r1,r2,r3,r4,r5,r6,r7,r8,r9,r10,r11,r12,r13⟩:=R.out
          refine ⟨((r2.keep hW).row _).row_other (by clear ei;omega) _,((r3.keep hW).row_other (by clear ei;omega) _).row _,z0u r4 fun k e=>?_,⟨fun q hq hne=>?_,?_⟩,z1,z2⟩
          · have h1:=(r4.lt k e)
            have h2:=r13 k e
            rw [setRow_other _ b11 k _ (by clear ei;omega),setRow_other _ b14 k _ (by clear ei;omega)]
            exact hW.block k h1.2
          · rw [setRow_other _ b11 q _ hne,setRow_other _ b14 q _ (by clear ei;omega),hW.block q (by have:=r5.2.size;clear ei;omega)]
            exact r5.1 q hq hne
          · exact z06 (z06 (r5.2.trans (hW.mono (by have:=r5.2.size;clear ei;omega))) (by clear ei;omega) _) (Nat.le_refl _) _
        clear z1 z2 hW CO HC
        generalize (W1.setRow b14 (z00 Y).toArray).setRow b11 #[.slice ya2 (TKL ((TPS N).drop (i+1)) L) yc2,.slice xa2 (TKN ((TPS N).drop (i+1)) L) xc2]=w7 at *
        have hrow:=R7.out.1
        go_wp2_with (first
          | (refine wpList_load_row rfl 38 (.tmp 14) rfl b14 rfl 38 (z00 Y).toArray (0,0) _ hrow Tryz.underlying38 rfl (z05 lY) ?_)
          | (refine z1h _ rfl 22 38 (.tmp 55) rfl (z00 Y).toArray rfl 32 _ _ Tryz.underlying22 z16 (by simp [z00,lY]) rfl (by decide) (by decide) ?_)
          | (at_builtin;refine z3D _ rfl (.tmp 54) (.tmp 56) rfl w4.heap.size u10 i _ rfl (R7.out.2.2.1.alloc _) _ 1 Y lY rfl (Has.new _ _ _) (by have:=R.out;clear ei;omega) (by have:=R7.out.2.2.2.1.2.size;simp;clear ei;omega) ?_;intro g8 c8 w8 hown hgrow hat hg8))
        have Z:Aside (i+1+q=M∧RCJ d N L lv nd w w4 w8 b11 (i+1) (.slice (some ⟨g8,0,none⟩) (i+1) c8) (out ++ Y) lv2 nd2 ya2 xa2 yc2 xc2):=by
          obtain ⟨r1,r2,r3,r4,r5,r6,r7,r8,r9,r10,r11,r12,r13⟩:=R.out
          obtain ⟨s1,s2,s3,s4,s5,s6⟩:=R7.out
          have hbb:∀ q,q<w7.heap.size→u10.ownBlock≠some q→w8.heap[q]?=w7.heap[q]?:=fun q hq hne=>(hgrow.block q (by simp;clear ei;omega) fun e=>hne e.symm).trans (Below.heap_alloc w7 _ q hq)
          have hn11:u10.ownBlock≠some b11:=fun e=>by have:=(s3.lt b11 e).1;clear ei;omega
          refine ⟨r1,(hbb b11 s2.lt hn11).trans s2,s5,s6,by rw [z0t];exact hown,⟨fun q hq hne=>(hbb q (by have:=s4.2.size;clear ei;omega) (fun e=>by have:=(s3.lt q e).1;clear ei;omega)).trans (s4.1 q hq hne),?_⟩,r6⟩
          refine (s4.2.alloc (by have:=s4.2.size;clear ei;omega) _).grown hgrow (by have:=s4.2.size;simp;clear ei;omega) (fun k e=>?_)
          have:=(s3.lt k e).1
          clear ei
          omega
        clear hown hgrow hat hg8 R R7 hrow lY
        go_wp2
        go_roundg q
        case measure=>exact Nat.lt_succ_self _
        case rel=>exact ⟨i+1,out ++ Y,lv2,nd2,ya2,xa2,yc2,xc2,by first | rfl | (rw [ei]),Z.out⟩
end Go.Proofs.YtlicfinmibbpdaaGreatDoor

namespace Go.Proofs.YtlicfinmibbpdaaGreatDoor
open Go.RowKit
set_option maxRecDepth 100000
set_option maxHeartbeats 4000000 in
theorem z80 (d:Int) (a:Option Addr) (c:Nat) (w:World):
    Calls Tryz.prog 39 #[.int .i64 d,.int .u64 ((0:Nat):Int),.slice a 0 c] w fun e w'=>e=.returned (.tuple #[.agg (z00 (z0x d 0 ZND)).toArray,.int .i64 0])∧Below w.heap.size w w':=by
  obtain ⟨w0,hw0⟩:∃ w0,w.alloc (.cells ZARR 38)=w0:=⟨_,rfl⟩
  have hb0:Below w.heap.size w w0:=by rw [← hw0];exact (Below.refl _ _).alloc (Nat.le_refl _) _
  have h40:Has w0 w.heap.size (z00 ZND).toArray 38:=by rw [← hw0,← z0Z];exact Has.new w _ _
  have co:=z7Z 0 (by omega) w0
  rw [show PC 0=0 from rfl] at co
  have CR:Aside (∀ W,Calls Tryz.prog 76 #[.int .i64 d,.int .u64 0,.agg (z00 ZND).toArray] W fun e w'=>e=.returned (.agg (z00 (z0x d 0 ZND)).toArray)∧Below W.heap.size W w'):=fun W=>z4W d 0 (by omega) ZND zbw W
  have hYH:IsH (z0x d 0 ZND):=z32 _ _ _
  generalize z0x d 0 ZND=Y at *
  have y32:=hYH.1
  have R0:Aside (Below w.heap.size w w0∧Has w0 w.heap.size (z00 ZND).toArray 38):=⟨hb0,h40⟩
  clear hb0 h40 hYH
  go_enter Tryz.func39,Tryz.ntmps39
  go_upto_region 1 with fail
  go_wp2_with fail
  refine co.mono ?_
  rintro e w1 ⟨a1,c1,rfl,_,_,hb1⟩
  have R1:Aside (Below w.heap.size w w1∧Has w1 w.heap.size (z00 ZND).toArray 38):=⟨R0.out.1.trans (hb1.mono R0.out.1.size),R0.out.2.keep hb1⟩
  clear co hb1 R0 hw0
  have cr:=CR.out w1
  go_wp2_with fail
  refine cr.mono ?_
  rintro e w2 ⟨rfl,hb2⟩
  have h42:=R1.out.2.keep hb2
  have hb3:Below w.heap.size w w2:=R1.out.1.trans (hb2.mono R1.out.1.size)
  clear hb2 R1 cr CR
  go_wp2_with (refine wpList_store_row rfl 38 (.tmp 6) (.tmp 25) rfl _ _ rfl rfl 38 _ h42 (z05 y32) (by simp [z00,y32];rfl) (z0l Y) ?_)
  refine bodyPost_ret (v:=.tuple #[.agg (z00 Y).toArray,.int .i64 0]) (z1Q rfl _ _ w.heap.size 38 _ (0,0) _ _ _ rfl rfl (Has.row h42 _) Tryz.underlying38 (z05 y32)) rfl ⟨rfl,z06 hb3 (Nat.le_refl _) _⟩
theorem zaE (d:Int) (n:Nat) (hn:n≤4611686018427387904) (a:Option Addr) (k c:Nat) (hk:k=PC n) (l:List Int) (w:World) (hF:Flat w a k l):
    Calls Tryz.prog 39 #[.int .i64 d,.int .u64 (n:Int),.slice a k c] w fun e w'=>e=.returned (.tuple #[.agg (z00 (z0x d n (FLD d l k))).toArray,.int .i64 0])∧Below w.heap.size w w':=by
  by_cases h0:k=0
  · have hn0:n=0:=z2F (by omega)
    subst h0 hn0
    have e:FLD d l 0=ZND:=by unfold FLD;rw [if_pos rfl]
    rw [e]
    exact z80 d a c w
  · exact zan d n hn a k c hk h0 l w hF
end Go.Proofs.YtlicfinmibbpdaaGreatDoor
