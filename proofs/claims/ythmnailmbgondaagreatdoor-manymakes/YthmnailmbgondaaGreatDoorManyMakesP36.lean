/- ManyMakes: part 36. -/
import Derived.Laws.Cover3
import Derived.Test.YthmnailmbgondaaGreatDoorManyMakesP35
set_option maxHeartbeats 16000000
namespace Go.Proofs.YthmnailmbgondaaGreatDoor
open Go.RowKit
set_option maxRecDepth 100000
def H7:List Int:=7 :: List.replicate 31 0
theorem zhh:(z00 H7).toArray=#[.int .u8 7,.int .u8 0,.int .u8 0,.int .u8 0,.int .u8 0,.int .u8 0,.int .u8 0,.int .u8 0,.int .u8 0,.int .u8 0,.int .u8 0,.int .u8 0,.int .u8 0,.int .u8 0,.int .u8 0,.int .u8 0,.int .u8 0,.int .u8 0,.int .u8 0,.int .u8 0,.int .u8 0,.int .u8 0,.int .u8 0,.int .u8 0,.int .u8 0,.int .u8 0,.int .u8 0,.int .u8 0,.int .u8 0,.int .u8 0,.int .u8 0,.int .u8 0]:=rfl
theorem zc3:PLCA [1,2] 7=[0,4,9,10]:=by decide +kernel
theorem z9Z:z0h [1,2] 7=0:=by decide +kernel
theorem zc4:MENC [0,2] 3 1 H7=(0,78 :: 3 :: 2 :: 0 :: 1 :: H7):=by decide +kernel
theorem zaS (w:World) (x y:Nat):NUML (w.alloc (.cells #[.int .u64 (x:Int),.int .u64 (y:Int)] 24)) (some ⟨w.heap.size,0,none⟩) [x,y]:=fun _=>by
 refine ⟨w.heap.size,0,rfl,by simp,fun i z hz=>?_⟩;have h:=(Has.new w #[.int .u64 (x:Int),.int .u64 (y:Int)] 24).cell (0+i);rw [h,Nat.zero_add];match i with
 | 0=>simp at hz;subst hz;rfl
 | 1=>simp at hz;subst hz;rfl
 | i+2=>simp at hz
theorem z2u {w:World} {B s n c:Nat} {t:TypeId} {a:Option Addr} {xs:List Value} (h:w.ownsRow B t s (.slice a n c) n xs) (hn:0<n):∃ g,a=some ⟨g,0,none⟩:=by
 rcases h.2 with ⟨e,h0⟩ | ⟨g,cap,cur,e,_⟩
 ·omega
 ·simp only [Value.slice.injEq] at e
  exact ⟨g,e.1⟩
theorem zc5 (w:World):Flat (w.alloc (.cells (z00 H7).toArray 35)) (some ⟨w.heap.size,0,none⟩) 1 H7:=by
 refine ⟨rfl,fun _=>⟨w.heap.size,0,rfl,by simp,fun j hj=>?_⟩,by decide⟩;rw [(Has.new w (z00 H7).toArray 35).cell (0+j),Nat.zero_add,List.getElem?_toArray];exact z0u H7 j hj
theorem z4i (w:World) (hT:Tabled w) (h0:0<w.heap.size):Calls Tryz.prog 26 #[] w fun e w'=>e=.returned (.bool true)/\Below w.heap.size w w':=by
 obtain ⟨w1,e1⟩:∃ w1,w.alloc (.cells #[.int .u64 1,.int .u64 2] 24)=w1:=⟨_,rfl⟩
 have hb1:Below w.heap.size w w1:=by rw [<-e1];exact (Below.refl _ _).alloc (Nat.le_refl _) _
 have s1:w1.heap.size=w.heap.size+1:=by rw [<-e1];simp
 have cp:=z4m [1,2] 7 (some ⟨w.heap.size,0,none⟩) 2 2 w1 rfl (by decide) (by decide) (fun h=>by cases h) (fun x e=>by cases e;exact ⟨by show w.heap.size<w1.heap.size;omega,rfl⟩) (by rw [<-e1];exact zaS w 1 2) (hT.below h0 hb1) (by omega);rw [zc3,z9Z] at cp;have B1:Aside (Below w.heap.size w w1/\Tabled w/\0<w.heap.size):=⟨hb1,hT,h0⟩
 clear hb1 s1 hT h0;go_enter Tryz.func26,Tryz.ntmps26;go_wp2_with fail
 refine cp.mono ?_;rintro e w2 ⟨a2,c2,rfl,hown2,hb2⟩;clear cp e1;have R2:Aside (w2.ownsRow w1.heap.size 24 1 (.slice a2 4 c2) 4 (z06 [0,4,9,10])/\Below w.heap.size w w2):=⟨hown2,B1.out.1.trans (hb2.mono B1.out.1.size)⟩
 clear hown2 hb2;obtain ⟨w3,e3⟩:∃ w3,w2.alloc (.cells #[.int .u64 0,.int .u64 2] 24)=w3:=⟨_,rfl⟩
 have s3:w3.heap.size=w2.heap.size+1:=by rw [<-e3];simp
 obtain ⟨w4,e4⟩:∃ w4,w3.alloc (.cells (z00 H7).toArray 35)=w4:=⟨_,rfl⟩
 have hb3:Below w2.heap.size w2 w3:=by rw [<-e3];exact (Below.refl _ _).alloc (Nat.le_refl _) _
 have hb4':Below w3.heap.size w3 w4:=by rw [<-e4];exact (Below.refl _ _).alloc (Nat.le_refl _) _
 have hb4:Below w2.heap.size w2 w4:=hb3.trans (hb4'.mono hb3.size);have hbw4:Below w.heap.size w w4:=R2.out.2.trans (hb4.mono R2.out.2.size)
 have hN4:NUML w4 (some ⟨w2.heap.size,0,none⟩) [0,2]:=by
  have h1:=zaS w2 0 2;have h2:NUML w3 (some ⟨w2.heap.size,0,none⟩) [0,2]:=by rw [<-e3];exact h1
  exact h2.below hb4' (fun x e=>by cases e;show w2.heap.size<w3.heap.size;omega)
 have hF4:Flat w4 (some ⟨w2.heap.size+1,0,none⟩) 1 H7:=by rw [<-e4,<-s3];exact zc5 w3
 have ce:=z7H [0,2] 3 (some ⟨w2.heap.size,0,none⟩) 2 2 (some ⟨w2.heap.size+1,0,none⟩) 1 1 H7 w4 rfl (by decide) (by decide) (fun h=>by cases h) (fun x e=>by cases e;exact ⟨by show w2.heap.size<w4.heap.size;have:=hb4'.size;omega,rfl⟩) (by decide) hN4 hF4 (B1.out.2.1.below B1.out.2.2 hbw4) (by have:=B1.out.2.2;have:=hbw4.size;omega);rw [zc4] at ce;rw [zhh] at e4;have hM:MBOX 3 (some ⟨w2.heap.size,0,none⟩) 2 2 (some ⟨w2.heap.size+1,0,none⟩) 1 1=#[.int .u64 3,.slice (some ⟨w2.heap.size,0,none⟩) 2 2,.slice (some ⟨w2.heap.size+1,0,none⟩) 1 1]:=rfl;rw [hM] at ce;have R4:Aside (w4.ownsRow w1.heap.size 24 1 (.slice a2 4 c2) 4 (z06 [0,4,9,10])/\Below w.heap.size w w4):=⟨z0R R2.out.1 hb4,hbw4⟩
 clear hM hb3 hb4' hb4 hbw4 hN4 hF4 R2 B1;go_wp2_with fail
 refine ce.mono ?_;rintro e w5 ⟨a5,c5,rfl,hown5,hb5⟩;clear ce e3 e4;have o2:=z0R R4.out.1 hb5;obtain ⟨g2,rfl⟩:=z2u o2 (by decide);obtain ⟨g5,rfl⟩:=z2u hown5 (by decide);have y0:w5.cell? ⟨g2,0,none⟩=some (.int .u64 0):=o2.cellAt 0 (by decide);have y1:w5.cell? ⟨g2,1,none⟩=some (.int .u64 4):=o2.cellAt 1 (by decide);have y2:w5.cell? ⟨g2,2,none⟩=some (.int .u64 9):=o2.cellAt 2 (by decide);have z0:w5.cell? ⟨g5,0,none⟩=some (.int .u8 78):=hown5.cellAt 0 (by decide);have z4:w5.cell? ⟨g5,4,none⟩=some (.int .u8 1):=hown5.cellAt 4 (by decide);have z5:w5.cell? ⟨g5,5,none⟩=some (.int .u8 7):=hown5.cellAt 5 (by decide);have FN:Aside (Below w.heap.size w w5):=R4.out.2.trans (hb5.mono R4.out.2.size);have hlen:(78 :: 3 :: 2 :: 0 :: 1 :: H7).length=37:=rfl;rw [hlen];clear o2 hown5 hb5 R4 s3;go_wp2_with fail
 go_ret;exact ⟨rfl,FN.out⟩
theorem z90 {ops:Array Oper} {rest:List Oper} {o:Oper} {a:Act} {Q:Exit->Act->World->Prop} (w:World) (hgd:o.guard=none) (s x:Operand)
   (ho:o.op=.call {callee:=.builtin .append,args:=#[s,x],argTypes:=#[23,23]})
   (base:Nat) (v:Value) (n:Nat) (xs:List Value) (hs:a.eval s=v) (hown:w.ownsRow base 24 1 v n xs)
   (ad:Option Addr) (m c:Nat) (L:List Nat) (hx:a.eval x=.slice ad m c) (hL:NUML w ad L) (hl:L.length=m) (hc:ad=none->c=0)
   (hb:n+m<=2 ^ 30) (hbase:base<=w.heap.size)
   (hh:∀ a' c' w',w'.ownsRow base 24 1 (.slice a' (n+m) c') (n+m) (xs ++ z06 L)->w.grownBy w' v.ownBlock->wpList Tryz.prog ops Q rest (a.put o.dst (.slice a' (n+m) c')) w'):wpList Tryz.prog ops Q (o :: rest) a w:=by
 obtain ⟨i,hi,hz,hs1,hby⟩:=info_parts z15;cases ad with
 | none=>
   obtain rfl:=hc rfl
   have hL0:L=[]:=by
    cases L with
    | nil=>rfl
    | cons y l=>
      obtain ⟨b,o',e,_⟩:=hL (by simp);cases e
   subst hL0;obtain rfl:m=0:=by simpa using hl.symm
   refine wpList_append_own_none hgd s x 23 ho base 24 i 1 Tryz.underlying23 hi v n xs hs hown hx ?_;obtain ⟨a',c',rfl⟩:=z1m hown;have:=hh a' c' w (by simpa [z06] using hown) ⟨rfl,rfl,rfl,Nat.le_refl _,fun _ _ _=>rfl⟩;simpa using this
 | some ad=>
   have hcells:∀ j u,(z06 L)[j]?=some u->w.cell? (ad.add j)=some u:=by
    intro j u hu;have hj:j<L.length:=by have:=(List.getElem?_eq_some_iff.1 hu).1;rwa [z1f] at this
    obtain ⟨g,o',e,_,hr⟩:=hL (by omega);cases e;rw [Addr.add_mid,hr j _ (List.getElem?_eq_getElem hj)];rw [z06,List.getElem?_map,List.getElem?_eq_getElem hj] at hu;exact hu
   refine wpList_append_own w hgd s x 23 ho base 24 i (.int .u64 0) 1 8 Tryz.underlying23 hi hz hs1 hby rfl (by decide) v n xs hs hown ad m c (z06 L) hx (by rw [z1f];omega) hcells (fun u hu=>by
    obtain ⟨y,_,rfl⟩:=List.mem_map.1 hu;rfl) (by simp only [maxLen];omega) (by omega) hbase ?_
   intro v' w' h1 h2 _;obtain ⟨a',c',rfl⟩:=z1m h1;exact hh a' c' w' h1 h2
theorem z5u (w:World):(w.alloc (.cells #[] 24)).ownsRow w.heap.size 24 1 (.slice (some ⟨w.heap.size,0,none⟩) 0 0) 0 []:=
 World.ownsRow_lit w #[] 0 (Nat.le_refl _) (by simp [maxLen]) rfl
theorem zc6 {w:World} {base g n cap:Nat} {L:List Nat} {x:Nat} (hl:L.length=n) (h:w.ownsRow base 24 1 (.slice (some ⟨g,0,none⟩) (n+1) cap) (n+1) (z06 (L ++ [x]))):w.ownsRow base 24 1 (.slice (some ⟨g,0,none⟩) n cap) n (z06 L)/\n+1<=cap/\w.cell? ⟨g,n,none⟩=some (.int .u64 (x:Int))/\g<w.heap.size:=by
 have hr:w.cell? ⟨g,n,none⟩=some (.int .u64 (x:Int)):=by
  rw [h.cellAt n (by omega),z1D,List.getElem?_append_right (by rw [z1f];omega),z1f,hl,Nat.sub_self];rfl
 rcases h.2 with ⟨e,_⟩ | ⟨g',cap',cur,e,hb,hg,h1,h2,h3,h4⟩
 ·cases e
 ·cases e
  refine ⟨⟨by rw [z1f,hl,Nat.mul_one],.inr ⟨g,cap,cur,rfl,hb,hg,by omega,h2,h3,?_⟩⟩,h1,hr,(Array.getElem?_eq_some_iff.1 hg).1⟩;have h5:=congrArg (List.take (n*1)) h4;rw [List.take_take,show min (n*1) ((n+1)*1)=n*1 by omega] at h5;rw [h5,z1D,List.take_left' (by rw [z1f,hl,Nat.mul_one])]
structure NUMD (w w':World) (g n cap:Nat) (L:List Nat):Prop where
 own:w'.ownsRow w.heap.size 24 1 (.slice (some ⟨g,0,none⟩) n cap) n (z06 L)
 room:n+1<=cap
 mark:w'.cell? ⟨g,n,none⟩=some (.int .u64 171)
 lt:g<w'.heap.size
 base:w.heap.size<=g
 below:Below w.heap.size w w'
theorem NUMD.lies {w w':World} {g n cap:Nat} {L:List Nat} (h:NUMD w w' g n cap L) (hl:L.length=n):NUML w' (some ⟨g,0,none⟩) L:=fun _=>⟨g,0,rfl,h.lt,fun i x hx=>by
 have hi:i<L.length:=(List.getElem?_eq_some_iff.1 hx).1;rw [Nat.zero_add,h.own.cellAt i (by omega),z06,List.getElem?_map,hx];rfl⟩
theorem z3e (a:Option Addr) (n c:Nat) (L:List Nat) (hl:L.length=n) (hn:n<2 ^ 20) (hc:a=none->c=0) (w:World) (hL:NUML w a L):Calls Tryz.prog 21 #[.slice a n c] w fun e w'=>∃ g cap,e=.returned (.slice (some ⟨g,0,none⟩) n cap)/\NUMD w w' g n cap L:=by
 have HA:Aside (L.length=n/\n<2 ^ 20/\(a=none->c=0)/\NUML w a L):=⟨hl,hn,hc,hL⟩
 clear hl hn hc hL;go_enter Tryz.func21,Tryz.ntmps21
 go_wp2_with (first
  | (at_builtin;refine z90 _ rfl (.tmp 3) (.tmp 4) rfl w.heap.size (.slice (some ⟨w.heap.size,0,none⟩) 0 0) 0 [] rfl (z5u w) a n c L rfl (fun hp=>by
      obtain ⟨b,o,e,hlt,hcc⟩:=HA.out.2.2.2 hp;exact ⟨b,o,e,by simp;omega,fun i x hx=>(((Below.refl w.heap.size w).alloc (Nat.le_refl _) _).cell (p:=⟨b,o+i,none⟩) hlt).trans (hcc i x hx)⟩) HA.out.1 HA.out.2.2.1 (by have:=HA.out.2.1;omega) (by simp) ?_;rw [Nat.zero_add,List.nil_append];intro a1 c1 w1 hown1 hgrow1
     have R1:Aside (w1.ownsRow w.heap.size 24 1 (.slice a1 n c1) n (z06 L)/\Below w.heap.size w w1):=⟨hown1,((Below.refl _ w).alloc (Nat.le_refl _) _).grown hgrow1 (by simp) (fun k e=>by cases e;exact Nat.le_refl _)⟩
     clear hown1 hgrow1)
  | (at_builtin;refine z6R _ rfl (.tmp 5) (.tmp 6) rfl w.heap.size (.slice a1 n c1) n L rfl (R1.out.1.alloc _) w1.heap.size 1 171 rfl ((Has.new _ _ _).cell 0) (by have:=HA.out.2.1;omega) (by have:=R1.out.2.size;simp;omega) ?_;intro g2 c2 w2 hown2 hgrow2 hg2
     obtain ⟨f1,f2,f3,f4⟩:=zc6 HA.out.1 hown2;have hcap:(n:Int)<=(c2:Int):=by omega
     have R2:Aside (NUMD w w2 g2 n c2 L):=⟨f1,f2,f3,f4,(f1.lt g2 rfl).1,(R1.out.2.alloc R1.out.2.size _).grown hgrow2 (by have:=R1.out.2.size;simp;omega) (fun k e=>(R1.out.1.lt k e).1)⟩
     clear hown2 hgrow2 hg2 f1 f2 f3 f4))
 go_ret;exact ⟨_,_,rfl,R2.out⟩
theorem z4j {w:World} {B n c:Nat} {a:Option Addr} {L:List Nat} (h:w.ownsRow B 24 1 (.slice a n c) n (z06 L)) (hl:L.length=n):NUML w a L:=fun h0=>by
 rcases h.2 with ⟨e,h1⟩ | ⟨g,cap,cur,e,hb,hg,_⟩
 ·omega
 ·cases e
  refine ⟨g,0,rfl,(Array.getElem?_eq_some_iff.1 hg).1,fun i x hx=>?_⟩;have hi:i<L.length:=(List.getElem?_eq_some_iff.1 hx).1;rw [Nat.zero_add,h.cellAt i (by omega),z06,List.getElem?_map,hx];rfl
theorem NUML.keep {w w':World} {a:Option Addr} {L:List Nat} (h:NUML w a L) (hb:Below w.heap.size w w'):NUML w' a L:=fun h0=>by
 obtain ⟨b,o,e,hl,hc⟩:=h h0;exact ⟨b,o,e,Nat.lt_of_lt_of_le hl hb.size,fun i x hx=>(hb.cell (p:=⟨b,o+i,none⟩) hl).trans (hc i x hx)⟩
theorem z6p (a:Option Addr) (n c:Nat) (w:World):(binOp .eql 23 (.slice a n c) (.slice none 0 0)).run Tryz.prog w=.ok (.bool a.isNone) w:=by
 simp [binOp,run_equal_slice_nil w 23 24 a n c Tryz.underlying23]
def zhi (w:World) (n:Nat) (L:List Nat) (e:Ending) (w':World):Prop:=
 ∃ a c,e=.returned (.slice a n c)/\w'.ownsRow w.heap.size 24 1 (.slice a n c) n (z06 L)/\Below w.heap.size w w'
theorem z91 (a:Option Addr) (n c:Nat) (hn:n<2 ^ 20) (hc:a=none->c=0) (L:List Nat) (hl:L.length=n) (w:World) (hL:NUML w a L):Calls Tryz.prog 51 #[.slice a n c] w (zhi w n L):=by
 cases a with
 | none=>
   obtain rfl:n=0:=by
    rcases Nat.eq_zero_or_pos n with h | h
    ·exact h
    ·obtain ⟨b,o,e,_⟩:=hL (by omega)
     cases e
   obtain rfl:=List.eq_nil_of_length_eq_zero hl;obtain rfl:=hc rfl;clear hL hc hn hl;have hnil:=z6p none 0 0;go_enter Tryz.func51,Tryz.ntmps51;go_wp2;go_ret;exact ⟨none,0,rfl,World.ownsRow_nil _ _ _ _,Below.refl _ _⟩
 | some ad=>
   have HA:Aside (n<2 ^ 20/\NUML w (some ad) L/\L.length=n):=⟨hn,hL,hl⟩
   clear hn hL hc hl;have hnil:=z6p (some ad) n c;go_enter Tryz.func51,Tryz.ntmps51;go_wp2_with (at_builtin;refine z90 _ rfl (.tmp 5) (.tmp 6) rfl w.heap.size (.slice (some ⟨w.heap.size,0,none⟩) 0 0) 0 [] rfl (z5u w) (some ad) n c L rfl (HA.out.2.1.keep ((Below.refl _ _).alloc (Nat.le_refl _) _)) HA.out.2.2 (fun h=>by cases h) (by have:=HA.out.1;omega) (by simp) ?_;rw [Nat.zero_add,List.nil_append];intro a1 c1 w1 hown1 hgrow1;have R1:Aside (w1.ownsRow w.heap.size 24 1 (.slice a1 n c1) n (z06 L)/\Below w.heap.size w w1):=⟨hown1,((Below.refl _ w).alloc (Nat.le_refl _) _).grown hgrow1 (by simp) (fun k e=>by cases e;exact Nat.le_refl _)⟩;clear hown1 hgrow1)
   go_ret;exact ⟨_,_,rfl,R1.out.1,R1.out.2⟩
def GCAT (G:Nat->List Int) (P:List Nat):List Int:=P.flatMap G
theorem zdz {G:Nat->List Int} {P:List Nat} {i p:Nat} (e:P[i]?=some p):GCAT G (P.take (i+1))=GCAT G (P.take i) ++ G p:=by
 unfold GCAT;rw [List.take_add_one,e,List.flatMap_append];simp
def z56 (w:World) (G:Nat->List Int) (EN:Nat->Int) (E:Int) (P:List Nat) (N:Nat) (L:List Nat) (e:Ending) (w':World):Prop:=
 Below w.heap.size w w'/\
 ((E≠0/\e=.returned (.tuple #[.agg #[.int .u64 0,.slice none 0 0,.slice none 0 0],.int .i64 E]))\/
  (E=0/\(∀ p∈P,EN p=0)/\∃ a c a2 c2,e=.returned (.tuple #[.agg #[.int .u64 (N:Int),.slice a L.length c,.slice a2 P.length c2],.int .i64 0])/\w'.ownsRow w.heap.size 24 1 (.slice a L.length c) L.length (z06 L)/\w'.ownsRow w.heap.size 35 32 (.slice a2 P.length c2) P.length (z00 (GCAT G P)))\/
  (E=0/\∃ (j p:Nat),P[j]?=some p/\(∀ (i q:Nat),i<j->P[i]?=some q->EN q=0)/\EN p≠0/\e=.returned (.tuple #[.agg #[.int .u64 0,.slice none 0 0,.slice none 0 0],.int .i64 (EN p)])))
theorem z3f {fn:Func} {p q:Tmp} {ty:TypeId} (h:fn.results=#[.cell p ty,.tmp q]) (tmps:Array Value) (w:World) (g:Nat) (v v2:Value)
  (hp:tmps.getD p undef=.pointer (some ⟨g,0,none⟩)) (hq:tmps.getD q undef=v2) (h1:(loadVar ty ⟨g,0,none⟩).run Tryz.prog w=.ok v w):
  (results fn tmps).run Tryz.prog w=.ok (.tuple #[v,v2]) w:=by
 have hp':tmps[p]?.getD undef=.pointer (some ⟨g,0,none⟩):=by simpa using hp
 have hq':tmps[q]?.getD undef=v2:=by simpa using hq
 simp [results,h,hp',hq',asAddr,h1]
theorem z92 (L:List Nat) (N g:Nat) (G:Nat->List Int) (EN:Nat->Int) (a:Option Addr) (n c:Nat) (w:World) (E:Int) (P:List Nat) (hE:E≠0)
  (cp:∀ W,Below w.heap.size w W->Calls Tryz.prog 50 #[.slice a n c,.int .u64 (N:Int)] W (ANSN W E P)):
  Calls Tryz.prog 22 #[.iface 25 (.pointer (some ⟨g,0,none⟩)),.slice a n c,.int .u64 (N:Int)] w (z56 w G EN E P N L):=by
 obtain ⟨w1,e1⟩:∃ w1,w.alloc (.cells #[.int .u64 0,.slice none 0 0,.slice none 0 0] 60)=w1:=⟨_,rfl⟩
 obtain ⟨b6,hb6⟩:∃ b,w.heap.size=b:=⟨_,rfl⟩
 have hb1:Below w.heap.size w w1:=by rw [<-e1];exact (Below.refl _ _).alloc (Nat.le_refl _) _
 have h61:Has w1 b6 #[.int .u64 0,.slice none 0 0,.slice none 0 0] 60:=by rw [<-e1,<-hb6];exact Has.new _ _ _
 have cc:=cp w1 hb1;have HW:Aside (Below w.heap.size w w1/\Has w1 b6 #[.int .u64 0,.slice none 0 0,.slice none 0 0] 60/\w.heap.size=b6/\E≠0):=⟨hb1,h61,hb6,hE⟩
 have hne:(E == 0)=false:=beq_eq_false_iff_ne.2 hE;clear cp hb1 h61 hE;go_enter Tryz.func22,Tryz.ntmps22;go_upto_region 1 with fail
 clear e1 hb6;go_wp2_with fail
 refine cc.mono ?_;rintro e w2 ⟨ap,kp,rfl,_,hb2⟩;clear cc;have h62:=HW.out.2.1.keep hb2;have FB:Aside (Below w.heap.size w (w2.setRow b6 #[.int .u64 0,.slice none 0 0,.slice none 0 0])):=z0d (HW.out.1.trans (hb2.mono HW.out.1.size)) (by have:=HW.out.2.2.1;omega) _;clear hb2;go_wp2_with (refine wpList_store_row rfl 60 (.tmp 6) (.tmp 23) rfl _ _ rfl rfl 60 _ h62 (by kernel_rfl) rfl (by simp [Value.oneCell']) ?_)
 exact bodyPost_ret (v:=.tuple #[.agg #[.int .u64 0,.slice none 0 0,.slice none 0 0],.int .i64 E]) (z3f rfl _ _ b6 _ _ rfl rfl (run_loadVar_row _ b6 60 60 _ (0,0) _ (h62.row _) Tryz.underlying60 rfl (by kernel_rfl))) rfl ⟨FB.out,.inl ⟨HW.out.2.2.2,rfl⟩⟩
structure MKJ (B1:Nat) (w3 wx:World) (G:Nat->List Int) (P L:List Nat) (N b6 b10 i n:Nat) (a1:Option Addr) (c1:Nat) (v:Value):Prop where
 res:Has wx b6 #[.int .u64 0,.slice none 0 0,.slice none 0 0] 60
 made:Has wx b10 #[.int .u64 (N:Int),.slice a1 n c1,v] 60
 index:wx.ownsRow B1 24 1 (.slice a1 n c1) n (z06 L)
 nodes:wx.ownsRow w3.heap.size 35 32 v i (z00 (GCAT G (P.take i)))
 but:BUT b10 w3 wx
theorem za0 (L:List Nat) (N g:Nat) (G:Nat->List Int) (EN:Nat->Int) (hG:∀ p,(G p).length=32) (a:Option Addr) (n c:Nat) (w:World) (E:Int) (P:List Nat) (hl:L.length=n) (hn:n<2 ^ 20) (hc:a=none->c=0) (hL:NUML w a L) (hP:P.length<=50000) (hN:zbX w g G EN P)
    (cp:∀ W,Below w.heap.size w W->Calls Tryz.prog 50 #[.slice a n c,.int .u64 (N:Int)] W (ANSN W E P)):
    Calls Tryz.prog 22 #[.iface 25 (.pointer (some ⟨g,0,none⟩)),.slice a n c,.int .u64 (N:Int)] w (z56 w G EN E P N L):=by
  by_cases hE:E=0
  case neg=>exact z92 L N g G EN a n c w E P hE cp
  subst hE;obtain ⟨w1,e1⟩:∃ w1,w.alloc (.cells #[.int .u64 0,.slice none 0 0,.slice none 0 0] 60)=w1:=⟨_,rfl⟩
  obtain ⟨b6,hb6⟩:∃ b,w.heap.size=b:=⟨_,rfl⟩
  have hb1:Below w.heap.size w w1:=by rw [<-e1];exact (Below.refl _ _).alloc (Nat.le_refl _) _
  have h61:Has w1 b6 #[.int .u64 0,.slice none 0 0,.slice none 0 0] 60:=by rw [<-e1,<-hb6];exact Has.new _ _ _
  have cc:=cp w1 hb1;have HA:Aside (L.length=n/\n<2 ^ 20/\(a=none->c=0)/\NUML w a L/\P.length<=50000/\zbX w g G EN P/\∀ p,(G p).length=32):=⟨hl,hn,hc,hL,hP,hN,hG⟩
  have HW:Aside (Below w.heap.size w w1/\Has w1 b6 #[.int .u64 0,.slice none 0 0,.slice none 0 0] 60/\w.heap.size=b6):=⟨hb1,h61,hb6⟩
  clear cp hb1 h61 hl hn hc hL hP hN hG;go_enter Tryz.func22,Tryz.ntmps22;go_upto_region 1 with fail
  clear e1 hb6;go_wp2_with fail
  refine cc.mono ?_;rintro e w2 ⟨ap,kp,rfl,op,hb2⟩;clear cc;have hb12:Below w.heap.size w w2:=HW.out.1.trans (hb2.mono HW.out.1.size);have ck:=z91 a n c HA.out.2.1 HA.out.2.2.1 L HA.out.1 w2 (HA.out.2.2.2.1.keep hb12);have W2:Aside (Below w.heap.size w w2/\Has w2 b6 #[.int .u64 0,.slice none 0 0,.slice none 0 0] 60/\w2.ownsRow w1.heap.size 24 1 (.slice ap P.length kp) P.length (z06 P)/\w.heap.size=b6/\b6<w1.heap.size):=⟨hb12,HW.out.2.1.keep hb2,op,HW.out.2.2,HW.out.2.1.lt⟩
  have H12:Aside (w1.heap.size<=w2.heap.size/\b6<w1.heap.size/\w.heap.size<=w1.heap.size):=⟨hb2.size,HW.out.2.1.lt,HW.out.1.size⟩
  clear hb12 hb2 op HW;go_wp2_with fail
  refine ck.mono ?_;rintro e w3 ⟨a1,c1,rfl,o1,hb3⟩;clear ck;obtain ⟨np,hnp⟩:∃ np,P.length=np:=⟨_,rfl⟩
  have HP:Aside (P.length=np):=hnp;go_upto_region 5 with fail
  obtain ⟨w4,e4⟩:∃ w4,w3.alloc (.cells #[.int .u64 (N:Int),.slice a1 n c1,.slice none 0 0] 60)=w4:=⟨_,rfl⟩
  have hb4:Below w3.heap.size w3 w4:=by rw [<-e4];exact (Below.refl _ _).alloc (Nat.le_refl _) _
  have h10:Has w4 w3.heap.size #[.int .u64 (N:Int),.slice a1 n c1,.slice none 0 0] 60:=by rw [<-e4];exact Has.new _ _ _
  rw [e4];have hb24:Below w2.heap.size w2 w4:=hb3.trans (hb4.mono hb3.size)
  have W4:Aside (Below w.heap.size w w4/\w4.ownsRow w1.heap.size 24 1 (.slice ap P.length kp) P.length (z06 P)/\w.heap.size=b6/\b6<w3.heap.size/\w3.heap.size<w4.heap.size/\(∀ k,(Value.slice ap P.length kp).ownBlock=some k->k<w3.heap.size)/\(∀ k,(Value.slice a1 n c1).ownBlock=some k->k<w3.heap.size)):=
    ⟨W2.out.1.trans (hb24.mono W2.out.1.size),z0v W2.out.2.2.1 fun k e=>hb24.block k (W2.out.2.2.1.lt k e).2,W2.out.2.2.2.1,Nat.lt_of_lt_of_le W2.out.2.1.lt hb3.size,h10.lt,fun k e=>Nat.lt_of_lt_of_le (W2.out.2.2.1.lt k e).2 hb3.size,fun k e=>(o1.lt k e).2⟩
  have S0:Aside (MKJ w1.heap.size w4 w4 G P L N b6 w3.heap.size 0 n a1 c1 (.slice none 0 0)):=
    ⟨(W2.out.2.1.keep hb3).keep hb4,h10,z0o (z0v o1 fun k e=>hb4.block k (o1.lt k e).2) H12.out.1,⟨rfl,.inl ⟨rfl,rfl⟩⟩,BUT.refl _ _⟩
  generalize w3.heap.size=b10 at *
  clear e4 hb4 h10 hb24 hb3 o1 W2;go_wp2_with fail
  go_loopg [31] np (fun q s31 wx=>∃ (i:Nat) (va:Option Addr) (vc:Nat),s31=.int .i64 (i:Int)/\Aside (i+q=np/\MKJ w1.heap.size w4 wx G P L N b6 b10 i n a1 c1 (.slice va i vc)/\∀ (j p:Nat),j<i->P[j]?=some p->EN p=0))
  case atStart=>exact ⟨0,none,0,rfl,by omega,S0.out,fun j p hj=>by omega⟩
  case round=>
    obtain ⟨i,va,vc,rfl,A⟩:=hrel;clear S0;cases gk with
    | zero=>
      obtain rfl:i=np:=by have:=A.out.1;omega
      have hlt:¬ (i:Int)<(i:Int):=by omega
      have hmk:=A.out.2.1.made;have hres:=A.out.2.1.res;have x0:=hmk.cell 0;have x1:=hmk.cell 1;have x2:=hmk.cell 2
      have FN:Aside (z56 w G EN 0 P N L (.returned (.tuple #[.agg #[.int .u64 (N:Int),.slice a1 n c1,.slice va i vc],.int .i64 0])) (wr.setRow b6 #[.int .u64 (N:Int),.slice a1 n c1,.slice va i vc])):=by
        have h:=A.out.2.1;have hp:=HP.out;have hw:=W4.out;have hbw:Below w.heap.size w wr:=hw.1.trans (h.but.2.mono (by omega));refine ⟨z0d hbw (by omega) _,.inr (.inl ⟨rfl,fun p hpm=>?_,a1,c1,va,vc,by rw [HA.out.1,hp],?_,?_⟩)⟩
        · obtain ⟨j,hj⟩:=List.getElem?_of_mem hpm
          exact A.out.2.2 j p (by have:=(List.getElem?_eq_some_iff.1 hj).1;omega) hj
        · rw [HA.out.1]
          exact z0o (z0v h.index fun k e=>setRow_other wr b6 k _ (by have:=(h.index.lt k e).1;have:=H12.out;omega)) H12.out.2.2
        · have:=h.nodes
          rw [List.take_of_length_le (by omega)] at this;rw [hp];exact z0o (z0v this fun k e=>setRow_other wr b6 k _ (by have:=(this.lt k e).1;omega)) hw.1.size
      clear A HA W4 HP hnp
      go_wp2_with (first
        | (refine wpList_store_row rfl 60 (.tmp 6) (.tmp 52) rfl _ _ rfl rfl 60 _ hres (by kernel_rfl) rfl (by simp [Value.oneCell']) ?_))
      exact bodyPost_ret (v:=.tuple #[.agg #[.int .u64 (N:Int),.slice a1 n c1,.slice va i vc],.int .i64 0]) (z3f rfl _ _ b6 _ _ rfl rfl (run_loadVar_row _ b6 60 60 _ (0,0) _ (hres.row _) Tryz.underlying60 rfl (by kernel_rfl))) rfl FN.out
    | succ q=>
      have hip:i<P.length:=by have:=A.out.1;have:=HP.out;omega
      have hlt:(i:Int)<(np:Int):=by have:=A.out.1;omega
      have ei:wrap64 ((i:Int)+1)=((i+1:Nat):Int):=by have:=HA.out.2.2.2.2.1;unfold wrap64;omega
      obtain ⟨p,ep⟩:∃ p,P[i]?=some p:=⟨_,List.getElem?_eq_getElem hip⟩
      obtain ⟨gp,rfl⟩:∃ gp,ap=some ⟨gp,0,none⟩:=by
        rcases W4.out.2.1.2 with ⟨e,h0⟩ | ⟨g',cap,cur,e,_⟩
        · clear ei;omega
        · cases e;exact ⟨_,rfl⟩
      have hgp:gp<b10:=W4.out.2.2.2.2.2.1 gp rfl
      have hcell:wr.cell? ⟨gp,i,none⟩=some (.int .u64 (p:Int)):=by
        have h1:=W4.out.2.1.cellAt i (by clear ei;omega);refine (World.cell?_of_block (w:=w4) (by exact A.out.2.1.but.1 gp (by have:=W4.out;clear ei;omega) (by clear ei;omega))).trans (h1.trans ?_);rw [z06,List.getElem?_map,ep];rfl
      have hbw:Below w.heap.size w wr:=W4.out.1.trans (A.out.2.1.but.2.mono (by have:=W4.out;clear ei;omega));have cn:=HA.out.2.2.2.2.2.1 wr hbw p (List.mem_of_getElem? ep);have y32:=HA.out.2.2.2.2.2.2 p;have HI:Aside (P[i]?=some p/\GCAT G (P.take (i+1))=GCAT G (P.take i) ++ G p/\Below w.heap.size w wr/\gp<b10):=⟨ep,zdz ep,hbw,hgp⟩
      clear hip ep hgp hbw;generalize G p=Y at *
      go_wp2_with fail
      refine cn.mono ?_;rintro e w5 ⟨rfl,hb5⟩;clear cn hcell;go_upto_region 9 with (refine wpList_store_row rfl 35 (.tmp 13) (.tmp 39) rfl _ _ rfl rfl 35 _ (Has.new w5 _ _) (z0V y32) (by simp [z00,y32]) (z1v Y) ?_;rw [World.setRow_alloc_new])
      obtain ⟨w6,e6⟩:∃ w6,w5.alloc (.cells (z00 Y).toArray 35)=w6:=⟨_,rfl⟩
      have hb56:Below w5.heap.size w5 w6:=by rw [<-e6];exact (Below.refl _ _).alloc (Nat.le_refl _) _
      have h13:Has w6 w5.heap.size (z00 Y).toArray 35:=by rw [<-e6];exact Has.new _ _ _
      rw [e6];have hbr:Below wr.heap.size wr w6:=hb5.trans (hb56.mono hb5.size)
      have J6:Aside (MKJ w1.heap.size w4 w6 G P L N b6 b10 i n a1 c1 (.slice va i vc)/\Below w.heap.size w w6/\wr.heap.size<=w5.heap.size):=by
        have h:=A.out.2.1;refine ⟨⟨h.res.keep hbr,h.made.keep hbr,z0v h.index fun k e=>hbr.block k (h.index.lt k e).2,z0v h.nodes fun k e=>hbr.block k (h.nodes.lt k e).2,h.but.trans (BUT.of_below hbr (Nat.le_of_lt h.made.lt))⟩,HI.out.2.2.1.trans (hbr.mono HI.out.2.2.1.size),hb5.size⟩
      have AQ:Aside (i+q+1=np/\∀ (j p:Nat),j<i->P[j]?=some p->EN p=0):=⟨by have:=A.out.1;clear ei;omega,A.out.2.2⟩
      have AS:Aside (w4.heap.size<=wr.heap.size):=A.out.2.1.but.2.size;generalize w5.heap.size=b13 at *
      clear e6 hb56 hbr hb5 A;by_cases hEN:EN p=0
      case neg=>
        have hres:=J6.out.1.res;have hne:(EN p == 0)=false:=beq_eq_false_iff_ne.2 hEN;have FN:Aside (z56 w G EN 0 P N L (.returned (.tuple #[.agg #[.int .u64 0,.slice none 0 0,.slice none 0 0],.int .i64 (EN p)])) (w6.setRow b6 #[.int .u64 0,.slice none 0 0,.slice none 0 0])):=⟨z0d J6.out.2.1 (by have:=W4.out.2.2.1;clear ei;omega) _,.inr (.inr ⟨rfl,i,p,HI.out.1,AQ.out.2,hEN,rfl⟩)⟩
        clear J6 AQ HI HA W4 HP hnp hEN AS H12;generalize EN p=EE at *
        go_wp2_with (refine wpList_store_row rfl 60 (.tmp 6) (.tmp 43) rfl _ _ rfl rfl 60 _ hres (by kernel_rfl) rfl (by simp [Value.oneCell']) ?_)
        exact bodyPost_ret (v:=.tuple #[.agg #[.int .u64 0,.slice none 0 0,.slice none 0 0],.int .i64 EE]) (z3f rfl _ _ b6 _ _ rfl rfl (run_loadVar_row _ b6 60 60 _ (0,0) _ (hres.row _) Tryz.underlying60 rfl (by kernel_rfl))) rfl FN.out
      have hmk:=J6.out.1.made;have x2:=hmk.cell 2;have BB:Aside (∀ (w7:World),(w6.alloc (.cells (z00 Y).toArray 35)).grownBy w7 (Value.slice va i vc).ownBlock->∀ q,q<w6.heap.size->(Value.slice va i vc).ownBlock≠some q->w7.heap[q]?=w6.heap[q]?):=fun w7 hgr q hq hne=>(hgr.block q (by simp;clear ei;omega) fun e=>hne e.symm).trans (Below.heap_alloc w6 _ q hq);have NB:Aside (∀ q,q<w4.heap.size->(Value.slice va i vc).ownBlock≠some q):=fun q hq e=>by have:=(J6.out.1.nodes.lt q e).1;clear ei;omega
      go_wp2_with (first
        | (refine wpList_load_row rfl 35 (.tmp 13) rfl b13 rfl 35 (z00 Y).toArray (0,0) _ h13 Tryz.underlying35 rfl (z0V y32) ?_)
        | (refine z0S _ rfl 22 35 (.tmp 47) rfl (z00 Y).toArray rfl 32 _ _ Tryz.underlying22 z18 (by simp [z00,y32]) rfl (by decide) (by decide) ?_)
        | (at_builtin;refine z7i _ rfl (.tmp 46) (.tmp 48) rfl w4.heap.size (.slice va i vc) i _ rfl (J6.out.1.nodes.alloc _) _ 1 Y y32 rfl (Has.new _ _ _) (by have:=HA.out.2.2.2.2.1;have:=HP.out;have:=AQ.out.1;clear ei;omega) (by have:=J6.out.1.but.2.size;simp;clear ei;omega) ?_;intro g7 c7 w7 hown hgrow hat hg7
           have k10:Has w7 b10 #[.int .u64 (N:Int),.slice a1 n c1,.slice va i vc] 60:=(BB.out w7 hgrow b10 hmk.lt (NB.out b10 W4.out.2.2.2.2.1)).trans hmk;have z2:=k10.cell 2;have fz:=k10.frozen 2))
      have Z:Aside (i+1+q=np/\MKJ w1.heap.size w4 (w7.setCell ⟨b10,2,none⟩ (.slice (some ⟨g7,0,none⟩) (i+1) c7)) G P L N b6 b10 (i+1) n a1 c1 (.slice (some ⟨g7,0,none⟩) (i+1) c7)/\∀ (j p:Nat),j<i+1->P[j]?=some p->EN p=0):=by
        have h:=J6.out.1;have hw:=W4.out;have hs:=h.but.2.size;have hne10:∀ k,k<w4.heap.size->(Value.slice va i vc).ownBlock≠some k:=NB.out;have hg4:w4.heap.size<=g7:=(hown.lt g7 rfl).1;refine ⟨by have:=AQ.out.1;clear ei;omega,⟨?_,k10.set 2 _,?_,?_,⟨fun q hq hne=>?_,?_⟩⟩,fun j p' hj hp'=>?_⟩
        · exact Has.other ((BB.out w7 hgrow b6 h.res.lt (hne10 b6 (by clear ei;omega))).trans h.res) (by show b6≠b10;clear ei;omega) _
        · refine z0v h.index fun k e=>?_
          have h1:=hw.2.2.2.2.2.2 k e;rw [Below.heap_setCell _ _ _ _ (by show k≠b10;clear ei;omega)];exact BB.out w7 hgrow k (h.index.lt k e).2 (hne10 k (by clear ei;omega))
        · rw [HI.out.2.1,z0x]
          exact ownsRow_setCell_below hown (a:=⟨b10,2,none⟩) (by show b10<w4.heap.size;clear ei;omega) _
        · rw [Below.heap_setCell _ _ _ _ (by exact hne),BB.out w7 hgrow q (by clear ei;omega) (hne10 q hq)]
          exact h.but.1 q hq hne
        · refine Below.setCell ?_ (p:=⟨b10,2,none⟩) (Nat.le_refl _) _
          refine (h.but.2.alloc (by clear ei;omega) _).grown hgrow (by simp;clear ei;omega) (fun k e=>?_);have:=(h.nodes.lt k e).1;clear ei;omega
        · rcases Nat.lt_or_ge j i with hj' | hj'
          · exact AQ.out.2 j p' hj' hp'
          · obtain rfl:j=i:=by clear ei;omega
            rw [HI.out.1] at hp';cases hp';exact hEN
      clear hown hgrow hat hg7 J6 AQ HI BB NB z2 fz k10 hmk x2 h13;generalize w7.setCell ⟨b10,2,none⟩ (.slice (some ⟨g7,0,none⟩) (i+1) c7)=w8 at *
      go_wp2;go_roundg q
      case measure=>exact Nat.lt_succ_self _
      case rel=>exact ⟨i+1,some ⟨g7,0,none⟩,c7,by first | rfl | (rw [ei]),Z.out⟩
theorem zhj:∀ (h k:Nat) (L:List Nat),∀ s∈NSP h k L,(s.2+1)*2 ^ s.1<=(k+1)*2 ^ h:=by
 intro h;induction h with
 | zero=>
   intro k L s hs;cases L with
   | nil=>
     rw [z2W] at hs;obtain rfl:s=(0,k):=by simpa using hs
     exact Nat.le_refl _
   | cons x l=>cases hs
 | succ h ih=>
   intro k L s hs;cases L with
   | nil=>
     rw [z2W] at hs;obtain rfl:s=(h+1,k):=by simpa using hs
     exact Nat.le_refl _
   | cons x l=>
     have e:=z8S h k;have hp:=Nat.two_pow_pos h;rw [NSP] at hs;rcases List.mem_append.1 hs with hs | hs
     ·have h1:=ih _ _ s hs
      have h2:(2*k+1)*2 ^ h<=(2*k+1+1)*2 ^ h:=Nat.mul_le_mul_right _ (by omega);omega
     ·have h1:=ih _ _ s hs
      omega
theorem zaT:∀ (ps:List (Nat × Nat)) (A B:Nat) (L:List Nat),Tile A ps B->INN (NSPS ps L) B
 | [],_,_,_,_=>fun s hs=>by cases hs
 | (h,k) :: ps,A,B,L,ht=>fun s hs=>by
   obtain ⟨hN,hA,ht⟩:Node h k/\k*2 ^ h=A/\Tile ((k+1)*2 ^ h) ps B:=ht;rw [NSPS] at hs;rcases List.mem_append.1 hs with hs | hs
   ·exact Nat.le_trans (zhj _ _ _ s hs) ht.bound.1
   ·exact zaT ps _ B _ ht s hs
end Go.Proofs.YthmnailmbgondaaGreatDoor
