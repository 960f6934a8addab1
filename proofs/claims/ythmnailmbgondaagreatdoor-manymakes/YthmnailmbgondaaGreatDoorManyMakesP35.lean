/- ManyMakes: part 35. -/
import Derived.Test.YthmnailmbgondaaGreatDoorManyMakesP34
set_option maxHeartbeats 2000000
namespace Go.Proofs.YthmnailmbgondaaGreatDoor
open Go.RowKit
set_option maxRecDepth 100000
def z7O (w:World) (G:World->Prop) (B:Int->World->Prop) (e:Ending) (w'':World):Prop:=
 (e=.returned (.int .i64 0)/\∃ w',G w'/\w''=w'.setCell ⟨w.heap.size,0,none⟩ (.int .i64 0))\/∃ x w',e=.returned (.int .i64 x)/\B x w'/\w''=w'.setCell ⟨w.heap.size,0,none⟩ (.int .i64 x)
theorem zff (b0 b1 b2:Nat) (w:World) (G:World->Prop) (B:Int->World->Prop)
  (hdo:Calls Tryz.prog 81 #[.pointer (some ⟨b0,0,none⟩),.pointer (some ⟨b1,0,none⟩),.pointer (some ⟨b2,0,none⟩)] (w.alloc (.cells #[.int .i64 0] 26)) fun e w'=>(e=.returned (.tuple #[])/\G w')\/∃ x,e=.panicked (z2P x)/\B x w')
  (hG:∀ w',G w'->Has w' w.heap.size #[.int .i64 0] 26) (hB:∀ x w',B x w'->Has w' w.heap.size #[.int .i64 0] 26):
  Calls Tryz.prog 80 #[.func (.func 81) #[] #[.pointer (some ⟨b0,0,none⟩),.pointer (some ⟨b1,0,none⟩),.pointer (some ⟨b2,0,none⟩)]] w (z7O w G B):=by
 have hmf:∀ (fn:Fn) (first cap:Array Value) (w:World),(Instr.makeFunc fn first cap).run Tryz.prog w=.ok (.func fn first cap) w:=fun _ _ _ _=>rfl;have HG:Aside (∀ w',G w'->Has w' w.heap.size #[.int .i64 0] 26):=hG;have HB:Aside (∀ x w',B x w'->Has w' w.heap.size #[.int .i64 0] 26):=hB;clear hG hB;go_enter_defers Tryz.func80,Tryz.ntmps80
 go_wp2_with fail
 refine hdo.mono ?_;rintro e w1 (⟨rfl,h1⟩ | ⟨x,rfl,h1⟩)
 ·clear hdo
  have hh:=HG.out w1 h1;have c0:=hh.cell 0;have f0:=hh.frozen 0;have G1:Aside (G w1):=h1;clear h1;go_wp2_with fail
  refine leaves_cons (f:=113) (args:=#[.pointer (some ⟨w.heap.size,0,none⟩)]) (by simp) (by simp [go_sem]) ?_;refine (z6o ⟨w.heap.size,0,none⟩ _).mono ?_;rintro e u' w'' ⟨rfl,rfl,rfl⟩;have c1:=(hh.set 0 (.int .i64 0)).cell 0;simp [Leaves,settle,results,Tryz.results80,go_sem,c1];exact .inl ⟨rfl,w1,G1.out,rfl⟩
 ·have hh:=HB.out x w1 h1
  have c0:=hh.cell 0;have f0:=hh.frozen 0;refine leaves_cons (f:=113) (args:=#[.pointer (some ⟨w.heap.size,0,none⟩)]) (by simp) (by simp [go_sem]) ?_;refine (z3s ⟨w.heap.size,0,none⟩ 0 x [] w1 c0 f0).mono ?_;rintro e u' w'' ⟨rfl,rfl,rfl⟩;have c1:=(hh.set 0 (.int .i64 x)).cell 0;simp [Leaves,settle,results,Tryz.results80,go_sem,c1];exact .inr ⟨x,w1,rfl,h1,rfl⟩
theorem zfg (b0 b1:Nat) (w:World) (G:World->Prop) (B:Int->World->Prop)
  (hdo:Calls Tryz.prog 85 #[.pointer (some ⟨b0,0,none⟩),.pointer (some ⟨b1,0,none⟩)] (w.alloc (.cells #[.int .i64 0] 26)) fun e w'=>(e=.returned (.tuple #[])/\G w')\/∃ x,e=.panicked (z2P x)/\B x w')
  (hG:∀ w',G w'->Has w' w.heap.size #[.int .i64 0] 26) (hB:∀ x w',B x w'->Has w' w.heap.size #[.int .i64 0] 26):
  Calls Tryz.prog 80 #[.func (.func 85) #[] #[.pointer (some ⟨b0,0,none⟩),.pointer (some ⟨b1,0,none⟩)]] w (z7O w G B):=by
 have hmf:∀ (fn:Fn) (first cap:Array Value) (w:World),(Instr.makeFunc fn first cap).run Tryz.prog w=.ok (.func fn first cap) w:=fun _ _ _ _=>rfl;have HG:Aside (∀ w',G w'->Has w' w.heap.size #[.int .i64 0] 26):=hG;have HB:Aside (∀ x w',B x w'->Has w' w.heap.size #[.int .i64 0] 26):=hB;clear hG hB;go_enter_defers Tryz.func80,Tryz.ntmps80
 go_wp2_with fail
 refine hdo.mono ?_;rintro e w1 (⟨rfl,h1⟩ | ⟨x,rfl,h1⟩)
 ·clear hdo
  have hh:=HG.out w1 h1;have c0:=hh.cell 0;have f0:=hh.frozen 0;have G1:Aside (G w1):=h1;clear h1;go_wp2_with fail
  refine leaves_cons (f:=113) (args:=#[.pointer (some ⟨w.heap.size,0,none⟩)]) (by simp) (by simp [go_sem]) ?_;refine (z6o ⟨w.heap.size,0,none⟩ _).mono ?_;rintro e u' w'' ⟨rfl,rfl,rfl⟩;have c1:=(hh.set 0 (.int .i64 0)).cell 0;simp [Leaves,settle,results,Tryz.results80,go_sem,c1];exact .inl ⟨rfl,w1,G1.out,rfl⟩
 ·have hh:=HB.out x w1 h1
  have c0:=hh.cell 0;have f0:=hh.frozen 0;refine leaves_cons (f:=113) (args:=#[.pointer (some ⟨w.heap.size,0,none⟩)]) (by simp) (by simp [go_sem]) ?_;refine (z3s ⟨w.heap.size,0,none⟩ 0 x [] w1 c0 f0).mono ?_;rintro e u' w'' ⟨rfl,rfl,rfl⟩;have c1:=(hh.set 0 (.int .i64 x)).cell 0;simp [Leaves,settle,results,Tryz.results80,go_sem,c1];exact .inr ⟨x,w1,rfl,h1,rfl⟩
def MENC (L:List Nat) (N K:Nat) (l:List Int):Int × List Int:=if MWA L N K=0 then (0,MWRT L N l) else (MWA L N K,[])
theorem zaR {w:World} {B s n:Nat} {t:TypeId} {v:Value} {xs:List Value} (h:w.ownsRow B t s v n xs):∃ a c,v=.slice a n c:=by
 rcases h.2 with ⟨e,h0⟩ | ⟨g,cap,cur,e,_⟩
 ·exact ⟨none,0,by rw [e,h0]⟩
 ·exact ⟨_,_,e⟩
structure ENCD (w w':World) (b1:Nat) (Z:List Int):Prop where
 row:∃ v,Has w' b1 #[v] 102/\w'.ownsRow w.heap.size 5 1 v Z.length (z00 Z)
 keep:∀ b,b<w.heap.size->b≠b1->w'.heap[b]?=w.heap[b]?
 below:Below b1 w w'
theorem z9X (L:List Nat) (N:Nat) (a:Option Addr) (m c:Nat) (an:Option Addr) (K cn:Nat) (l:List Int) (b0 b1:Nat) (w:World) (hl:L.length=m) (hm:m<2 ^ 20) (hc:m<=c) (hnil:a=none->c=0) (hbl:∀ x,a=some x->x.block<w.heap.size/\x.spot=none) (hK:K<2 ^ 20) (hL:NUML w a L) (hF:Flat w an K l) (hT:Tabled w) (hw0:0<w.heap.size)
  (h0:Has w b0 (MBOX N a m c an K cn) 60) (h1:Has w b1 #[.slice none 0 0] 102):
  Calls Tryz.prog 85 #[.pointer (some ⟨b0,0,none⟩),.pointer (some ⟨b1,0,none⟩)] w fun e w'=>
   (e=.returned (.tuple #[])/\(MWA L N K=0/\ENCD w w' b1 (MWRT L N l)))\/∃ x,e=.panicked (z2P x)/\(x=MWA L N K/\x≠0/\Below w.heap.size w w'):=by
 have cm:=z8Z L N a m c an K cn w hl hm hc hnil hbl hK hL hT hw0;have hM:(MBOX N a m c an K cn)=#[.int .u64 (N:Int),.slice a m c,.slice an K cn]:=rfl;have x0:w.cell? ⟨b0,0,none⟩=some (.int .u64 (N:Int)):=h0.cell 0;have x1:w.cell? ⟨b0,1,none⟩=some (.slice a m c):=h0.cell 1;have x2:w.cell? ⟨b0,2,none⟩=some (.slice an K cn):=h0.cell 2;have HA:Aside (L.length=m/\m<2 ^ 20/\K<2 ^ 20/\NUML w a L/\Flat w an K l/\Has w b0 (MBOX N a m c an K cn) 60/\Has w b1 #[.slice none 0 0] 102):=⟨hl,hm,hK,hL,hF,h0,h1⟩
 clear hl hm hc hnil hbl hK hL hF hT hw0 h0 h1;rw [hM] at cm;go_enter Tryz.func85,Tryz.ntmps85;go_wp2_with fail
 refine cm.mono ?_;rintro e w1 ⟨hb1,(⟨hr,rfl⟩ | ⟨hr,rfl⟩)⟩
 ·clear cm x0 x1 x2
  obtain ⟨q1,q2⟩:=zhg hr;obtain ⟨r1,r2,r3⟩:=z2t q1;have k0:=HA.out.2.2.2.2.2.1.keep hb1;have x0:w1.cell? ⟨b0,0,none⟩=some (.int .u64 (N:Int)):=k0.cell 0;have x1:w1.cell? ⟨b0,1,none⟩=some (.slice a m c):=k0.cell 1;have x2:w1.cell? ⟨b0,2,none⟩=some (.slice an K cn):=k0.cell 2
  have cw:=z6Q L N (by omega) a m c an K cn l w1 HA.out.1 HA.out.2.1 HA.out.2.2.1 r2 (fun x hx=>by have:=r3 x hx;omega) (fun hp=>by
   obtain ⟨b,o,e,hlt,hcc⟩:=HA.out.2.2.2.1 hp;exact ⟨b,o,e,Nat.lt_of_lt_of_le hlt hb1.size,fun i x hx=>(hb1.cell (p:=⟨b,o+i,none⟩) hlt).trans (hcc i x hx)⟩) (HA.out.2.2.2.2.1.below hb1)
  rw [hM] at cw;have HR:Aside (MWA L N K=0/\Below w.heap.size w w1):=⟨hr,hb1⟩
  clear hr q1 q2 r1 r2 r3 hb1 k0;go_wp2_with fail
  refine cw.mono ?_;rintro e w2 ⟨v,rfl,hown,hb2⟩;clear cw x0 x1 x2;obtain ⟨av,cv,rfl⟩:=zaR hown;generalize hvv:Value.slice av (MWRT L N l).length cv=v at *
  have hw2:Below w.heap.size w w2:=HR.out.2.trans (hb2.mono HR.out.2.size);have k1:=HA.out.2.2.2.2.2.2.keep hw2;have c1:=k1.cell 0;have f1:=k1.frozen 0
  have FN:Aside (ENCD w (w2.setCell ⟨b1,0,none⟩ v) b1 (MWRT L N l)):=by
   have hlt:=HA.out.2.2.2.2.2.2.lt;refine ⟨⟨v,k1.set 0 v,z0o (ownsRow_setCell_below hown (a:=⟨b1,0,none⟩) (by show b1<w1.heap.size;have:=HR.out.2.size;omega) _) HR.out.2.size⟩,fun b hb hne=>(Below.heap_setCell _ _ _ _ (by exact hne)).trans (hw2.block b hb),?_⟩;exact (hw2.mono (Nat.le_of_lt hlt)).setCell (p:=⟨b1,0,none⟩) (Nat.le_refl _) _
  subst hvv;clear hown hb2 hw2 k1 HA;go_wp2_with fail
  exact bodyPost_end (v:=.tuple #[]) (by simp [results,Tryz.f85]) rfl (.inl ⟨rfl,HR.out.1,FN.out⟩)
 ·exact ⟨rfl,.inr ⟨_,rfl,rfl,hr,hb1⟩⟩
def ANSY (w:World) (A:Int × List Int) (e:Ending) (w':World):Prop:=∃ a c,e=.returned (.tuple #[.slice a A.2.length c,.int .i64 A.1])/\w'.ownsRow w.heap.size 5 1 (.slice a A.2.length c) A.2.length (z00 A.2)/\Below w.heap.size w w'
theorem z7H (L:List Nat) (N:Nat) (a:Option Addr) (m c:Nat) (an:Option Addr) (K cn:Nat) (l:List Int) (w:World) (hl:L.length=m) (hm:m<2 ^ 20) (hc:m<=c) (hnil:a=none->c=0) (hbl:∀ x,a=some x->x.block<w.heap.size/\x.spot=none) (hK:K<2 ^ 20) (hL:NUML w a L) (hF:Flat w an K l) (hT:Tabled w) (hw0:0<w.heap.size):
    Calls Tryz.prog 53 #[.agg (MBOX N a m c an K cn)] w (ANSY w (MENC L N K l)):=by
  have hmf:∀ (fn:Fn) (first cap:Array Value) (w:World),(Instr.makeFunc fn first cap).run Tryz.prog w=.ok (.func fn first cap) w:=fun _ _ _ _=>rfl;obtain ⟨w1,e1⟩:∃ w1,w.alloc (.cells (MBOX N a m c an K cn) 60)=w1:=⟨_,rfl⟩
  obtain ⟨w3,e3⟩:∃ w3,w1.alloc (.cells #[.slice none 0 0] 102)=w3:=⟨_,rfl⟩
  obtain ⟨w4,e4⟩:∃ w4,w3.alloc (.cells #[.int .i64 0] 26)=w4:=⟨_,rfl⟩
  have s1:w1.heap.size=w.heap.size+1:=by rw [<-e1];simp
  have s3:w3.heap.size=w.heap.size+2:=by rw [<-e3];simp;omega
  have s4:w4.heap.size=w.heap.size+3:=by rw [<-e4];simp;omega
  have hb4:Below w.heap.size w w4:=by
    rw [<-e4,<-e3,<-e1];exact (((Below.refl _ _).alloc (Nat.le_refl _) _).alloc (by simp) _).alloc (by simp;omega) _
  have h0:Has w4 w.heap.size (MBOX N a m c an K cn) 60:=by
    rw [<-e4,<-e3,<-e1];exact ((Has.new w _ _).alloc _).alloc _
  have h1:Has w4 w1.heap.size #[.slice none 0 0] 102:=by
    rw [<-e4,<-e3];exact (Has.new w1 _ _).alloc _
  have h3:Has w4 w3.heap.size #[.int .i64 0] 26:=by
    rw [<-e4];exact Has.new w3 _ _
  have hL4:NUML w4 a L:=fun hp=>by
    obtain ⟨b,o,e,hlt,hcc⟩:=hL hp;exact ⟨b,o,e,by omega,fun i x hx=>(hb4.cell (p:=⟨b,o+i,none⟩) hlt).trans (hcc i x hx)⟩
  have cd:=z9X L N a m c an K cn l w.heap.size w1.heap.size w4 hl hm hc hnil (fun x e=>⟨by have:=(hbl x e).1;omega,(hbl x e).2⟩) hK hL4 (hF.below hb4) (hT.below hw0 hb4) (by omega) h0 h1;rw [<-e4] at cd
  have cf:=zfg w.heap.size w1.heap.size w3 _ _ cd
    (fun w' ⟨_,ht⟩=>by
      rw [e4] at ht;exact (ht.keep w3.heap.size (by omega) (by omega)).trans h3)
    (fun x w' ⟨_,_,hb⟩=>by rw [e4] at hb;exact h3.keep hb)
  rw [e4] at cf
  have FIN:Aside (∀ e w',z7O w3 (fun w'=>MWA L N K=0/\ENCD w4 w' w1.heap.size (MWRT L N l)) (fun x w'=>x=MWA L N K/\x≠0/\Below w4.heap.size w4 w') e w'->e=.returned (.int .i64 (MENC L N K l).1)/\Below w.heap.size w w'/\∃ a' c',Has w' w1.heap.size #[.slice a' (MENC L N K l).2.length c'] 102/\w'.ownsRow w.heap.size 5 1 (.slice a' (MENC L N K l).2.length c') (MENC L N K l).2.length (z00 (MENC L N K l).2)):=by
    rintro e w' (⟨rfl,wx,⟨hr,ht⟩,rfl⟩ | ⟨x,wx,rfl,⟨rfl,hx,hbx⟩,rfl⟩)
    · have hP:MENC L N K l=(0,MWRT L N l):=if_pos hr
      obtain ⟨v,hv,hown⟩:=ht.row;obtain ⟨a',c',rfl⟩:=zaR hown;rw [hP];refine ⟨rfl,?_,a',c',?_,?_⟩
      · exact ((hb4.trans (ht.below.mono (by omega)))).setCell (by show w.heap.size<=w3.heap.size;omega) _
      · exact hv.other (by show w1.heap.size≠w3.heap.size;omega) _
      · exact z0o (ownsRow_setCell_below hown (a:=⟨w3.heap.size,0,none⟩) (by show w3.heap.size<w4.heap.size;omega) _) (by omega)
    · have hP:MENC L N K l=(MWA L N K,[]):=if_neg hx
      rw [hP];refine ⟨rfl,(hb4.trans (hbx.mono hb4.size)).setCell (by show w.heap.size<=w3.heap.size;omega) _,none,0,?_,?_⟩
      · exact (h1.keep hbx).other (by show w1.heap.size≠w3.heap.size;omega) _
      · exact ⟨rfl,.inl ⟨rfl,rfl⟩⟩
  have hM:(MBOX N a m c an K cn)=#[.int .u64 (N:Int),.slice a m c,.slice an K cn]:=rfl;rw [hM] at e1;clear cd h0 h1 h3 hL4 hb4 hl hm hc hnil hbl hL hF hT s1 s3 s4 e4 hw0 hK;generalize MENC L N K l=A at *
  go_enter Tryz.func53,Tryz.ntmps53;rw [hM];go_wp2_with fail
  refine cf.mono ?_;intro e w5 hh;obtain ⟨rfl,hb5,a',c',hv,hown⟩:=FIN.out e w5 hh;have x0:=hv.cell 0;have FN:Aside (ANSY w A (.returned (.tuple #[.slice a' A.2.length c',.int .i64 A.1])) w5):=⟨a',c',rfl,hown,hb5⟩
  clear hh hb5 hv hown FIN cf;go_wp2_with fail
  go_ret2;exact FN.out
theorem zdy (w0:World) (bi:Nat) (CP:Nat) (S P:List Nat->World->Prop) (X:List PanicEntry)
    (hS:∀ acc w w',S acc w->Below w.heap.size w w'->S acc w') (hB:∀ acc w,S acc w->(bi<w0.heap.size->w.heap[bi]?=w0.heap[bi]?)/\w0.heap.size<=w.heap.size)
    (ht:∀ acc (p:Nat) w,S acc w->acc.length<=2 ^ 30->Calls Tryz.prog 84 #[.int .u64 (p:Int),.pointer (some ⟨CP,0,none⟩)] w fun e w'=>(e=.returned (.tuple #[])/\S (acc ++ [p]) w')\/(e=.panicked X/\P acc w')):
    ∀ (h k:Nat),Node h k->∀ (L:List Nat) (a:Option Addr) (n c:Nat) (acc:List Nat) (w:World),L.length=n->n<2 ^ 40->RISES L->n<=c->(a=none->c=0)->(∀ x,a=some x->x.block=bi/\x.spot=none)->NUML w0 a L->S acc w->acc.length+(NEED h k L).length<=2 ^ 30->
    Calls Tryz.prog 115 #[.int .u64 ((PLC h k:Nat):Int),.slice a n c,.func (.func 84) #[] #[.pointer (some ⟨CP,0,none⟩)]] w (TOLD S P X acc (NEED h k L)):=by
  intro h;induction h with
  | zero=>
    intro k hN L a n c acc w hl hn hR hc hnil hbl hL hw hlen;cases L with
    | nil=>
      obtain rfl:n=0:=by simpa using hl.symm
      rw [z1O] at hlen ⊢;have ct:=ht acc (PLC 0 k) w hw (by simp at hlen;omega);clear hl hn hR hc hnil hbl hL hw hlen ht hS hB;go_enter Tryz.func115,Tryz.ntmps115;go_wp2_with fail
      refine ct.mono ?_;rintro e w1 (⟨rfl,h1⟩ | ⟨rfl,h1⟩)
      · clear ct
        have FN:Aside (S (acc ++ [PLC 0 k]) w1):=h1;clear h1;go_wp2_with fail
        exact bodyPost_ret (v:=.tuple #[]) (by simp [results,Tryz.f115]) rfl (.inl ⟨rfl,FN.out⟩)
      · exact ⟨rfl,.inr ⟨acc,PLC 0 k,List.prefix_refl _,rfl,h1⟩⟩
    | cons x l=>
      have hn0:((n:Int) == 0)=false:=beq_eq_false_iff_ne.2 (by simp at hl;omega);have ck:=z7b ((PLC 0 k:Nat):Int) k w (.node hN);have HS:Aside (∀ w',Below w.heap.size w w'->S (acc ++ []) w'):=fun w' hb=>by rw [List.append_nil];exact hS acc w w' hw hb
      clear hl hn hR hc hnil hbl hL hw hlen ht hS hB;go_enter Tryz.func115,Tryz.ntmps115;go_wp2_with fail
      refine ck.mono ?_;rintro e w1 ⟨rfl,h1⟩;clear ck;have FN:Aside (S (acc ++ []) w1):=HS.out w1 h1;clear h1 HS;go_wp2_with fail
      exact bodyPost_ret (v:=.tuple #[]) (by simp [results,Tryz.f115]) rfl (.inl ⟨rfl,FN.out⟩)
  | succ h ih=>
    intro k hN L a n c acc w hl hn hR hc hnil hbl hL hw hlen;by_cases hLe:L=[]
    · subst hLe
      obtain rfl:n=0:=by simpa using hl.symm
      rw [z1O] at hlen ⊢;have ct:=ht acc (PLC (h+1) k) w hw (by simp at hlen;omega);clear hl hn hR hc hnil hbl hL hw hlen ht hS hB ih;go_enter Tryz.func115,Tryz.ntmps115;go_wp2_with fail
      refine ct.mono ?_;rintro e w1 (⟨rfl,h1⟩ | ⟨rfl,h1⟩)
      · clear ct
        have FN:Aside (S (acc ++ [PLC (h+1) k]) w1):=h1;clear h1;go_wp2_with fail
        exact bodyPost_ret (v:=.tuple #[]) (by simp [results,Tryz.f115]) rfl (.inl ⟨rfl,FN.out⟩)
      · exact ⟨rfl,.inr ⟨acc,PLC (h+1) k,List.prefix_refl _,rfl,h1⟩⟩
    · have hn0:((n:Int) == 0)=false:=beq_eq_false_iff_ne.2 (by have:=List.length_pos_iff.2 hLe;omega)
      obtain ⟨hNl,hNr⟩:=hN.kid;have ck:=zav h k hN w;have HA:Aside (L.length=n/\n<2 ^ 40/\RISES L/\n<=c/\(a=none->c=0)/\(∀ x,a=some x->x.block=bi/\x.spot=none)/\NUML w0 a L/\S acc w/\acc.length+(NEED (h+1) k L).length<=2 ^ 30/\L≠[]):=⟨hl,hn,hR,hc,hnil,hbl,hL,hw,hlen,hLe⟩
      have NS:Aside ((∀ acc w w',S acc w->Below w.heap.size w w'->S acc w')/\(∀ acc w,S acc w->(bi<w0.heap.size->w.heap[bi]?=w0.heap[bi]?)/\w0.heap.size<=w.heap.size)/\Node h (2*k)/\Node h (2*k+1)):=⟨hS,hB,hNl,hNr⟩
      have IH:Aside _:=ih;clear hl hn hR hc hnil hbl hL hw hlen ht hS hB ih hNl hNr hLe;go_enter Tryz.func115,Tryz.ntmps115;go_wp2_with fail
      refine ck.mono ?_;rintro e w1 ⟨rfl,hb1⟩;clear ck;have S1:Aside (S acc w1):=NS.out.1 acc w w1 HA.out.2.2.2.2.2.2.2.1 hb1
      have hN1:NUML w1 a L:=fun h0=>by
        obtain ⟨b,o,e,hl,hcc⟩:=HA.out.2.2.2.2.2.2.1 h0;have hbb:b=bi:=(HA.out.2.2.2.2.2.1 _ e).1;obtain ⟨k1,k2⟩:=NS.out.2.1 acc w1 S1.out;subst hbb;exact ⟨b,o,e,by omega,fun i x hx=>(World.cell?_of_block (w:=w0) (by exact k1 hl)).trans (hcc i x hx)⟩
      have cs:=z4e h (2*k) NS.out.2.2.1 a n c L HA.out.1 HA.out.2.1 HA.out.2.2.1 HA.out.2.2.2.1 HA.out.2.2.2.2.1 (fun x e=>(HA.out.2.2.2.2.2.1 x e).2) w1 hN1;clear hb1 hN1;go_wp2_with fail
      refine cs.mono ?_;rintro e w2 ⟨r,a',rfl,hs⟩;clear cs;have hsp:NEED (h+1) k L=NEED h (2*k) (L.take r) ++ NEED h (2*k+1) (L.drop r):=z7s HA.out.2.2.2.2.2.2.2.2.2 hs.rank;have hrn:=hs.rank.le
      have ML:Aside (NUML w0 a (L.take r)):=fun h0=>by
        obtain ⟨b,o,e,hl,hcc⟩:=HA.out.2.2.2.2.2.2.1 (by rw [List.length_take] at h0;omega);refine ⟨b,o,e,hl,fun i x hx=>hcc i x ?_⟩;rw [List.getElem?_take] at hx;split at hx
        · exact hx
        · cases hx
      have MR:Aside (NUML w0 a' (L.drop r)/\∀ x,a'=some x->x.block=bi/\x.spot=none):=by
        refine ⟨fun h0=>?_,fun x hx=>?_⟩
        · obtain ⟨b,o,e,hl,hcc⟩:=hs.lies h0
          obtain ⟨y,e2,e3⟩:=hs.block _ e;have hbb:b=bi:=by have:=(HA.out.2.2.2.2.2.1 _ e2).1;rw [<-e3] at this;exact this
          obtain ⟨k1,k2⟩:=NS.out.2.1 acc w1 S1.out;obtain ⟨b',o',e',hl',_⟩:=HA.out.2.2.2.2.2.2.1 (by rw [List.length_drop] at h0;omega);have hbi:bi<w0.heap.size:=by have h9:b'=bi:=(HA.out.2.2.2.2.2.1 _ e').1;omega
          subst hbb;exact ⟨b,o,e,hbi,fun i x hx=>(World.cell?_of_block (w:=w1) (by exact (k1 hbi).symm)).trans (hcc i x hx)⟩
        · obtain ⟨y,e2,e3⟩:=hs.block x hx
          refine ⟨by rw [e3];exact (HA.out.2.2.2.2.2.1 _ e2).1,hs.spot x hx⟩
      have S2:Aside (S acc w2):=NS.out.1 acc w1 w2 S1.out hs.below;have NL:Aside (a'=none->c - r=0):=hs.nil
      have SP:Aside (NEED (h+1) k L=NEED h (2*k) (L.take r) ++ NEED h (2*k+1) (L.drop r)/\r<=n/\acc.length+(NEED h (2*k) (L.take r)).length+(NEED h (2*k+1) (L.drop r)).length<=2 ^ 30):=by
        refine ⟨hsp,by have:=HA.out.1;omega,?_⟩;have h1:=HA.out.2.2.2.2.2.2.2.2.1;rw [hsp,List.length_append] at h1;omega
      clear hs hsp hrn S1;have c1:=IH.out (2*k) NS.out.2.2.1 (L.take r) a r c acc w2 (by rw [List.length_take];have:=SP.out.2.1;have:=HA.out.1;omega) (by have:=SP.out.2.1;have:=HA.out.2.1;omega) (HA.out.2.2.1.take r) (by have:=SP.out.2.1;have:=HA.out.2.2.2.1;omega) HA.out.2.2.2.2.1 HA.out.2.2.2.2.2.1 ML.out S2.out (by have:=SP.out.2.2;omega);go_wp2_with fail
      refine c1.mono ?_;rintro e w3 (⟨rfl,h3⟩ | ⟨pre,p,hp,rfl,h3⟩)
      · clear c1
        have c2:=IH.out (2*k+1) NS.out.2.2.2 (L.drop r) a' (n - r) (c - r) (acc ++ NEED h (2*k) (L.take r)) w3 (by rw [List.length_drop];have:=HA.out.1;omega) (by have:=HA.out.2.1;omega) (HA.out.2.2.1.drop r) (by have:=HA.out.2.2.2.1;omega) NL.out MR.out.2 MR.out.1 h3 (by rw [List.length_append];exact SP.out.2.2);have SQ:Aside (acc ++ NEED h (2*k) (L.take r) ++ NEED h (2*k+1) (L.drop r)=acc ++ NEED (h+1) k L):=show acc ++ NEED h (2*k) (L.take r) ++ NEED h (2*k+1) (L.drop r)=acc ++ NEED (h+1) k L by rw [SP.out.1,List.append_assoc]
        clear h3 IH HA NS ML MR S2 NL SP;go_wp2_with fail
        refine c2.mono ?_;rintro e w4 (⟨rfl,h4⟩ | ⟨pre,p,hp,rfl,h4⟩)
        · have FN:Aside (S (acc ++ NEED (h+1) k L) w4):=by rw [SQ.out] at h4;exact h4
          clear h4 c2 SQ;go_wp2_with fail
          exact bodyPost_end (v:=.tuple #[]) (by simp [results,Tryz.f115]) rfl (.inl ⟨rfl,FN.out⟩)
        · rw [SQ.out] at hp
          exact ⟨rfl,.inr ⟨pre,p,hp,rfl,h4⟩⟩
      · refine ⟨rfl,.inr ⟨pre,p,hp.trans ?_,rfl,h3⟩⟩
        rw [SP.out.1,<-List.append_assoc];exact List.prefix_append _ _
theorem zfh (bi CP:Nat) (S P:World->List Nat->World->Prop) (X:List PanicEntry)
  (hS:∀ w0 acc w w',S w0 acc w->Below w.heap.size w w'->S w0 acc w') (hB:∀ w0 acc w,S w0 acc w->(∀ b,b<w0.heap.size->b≠CP->w.heap[b]?=w0.heap[b]?)/\w0.heap.size<=w.heap.size)
  (ht:∀ w0 acc (p:Nat) w,S w0 acc w->acc.length<=2 ^ 30->Calls Tryz.prog 84 #[.int .u64 (p:Int),.pointer (some ⟨CP,0,none⟩)] w fun e w'=>(e=.returned (.tuple #[])/\S w0 (acc ++ [p]) w')\/(e=.panicked X/\P w0 acc w'))
  (N:Nat) (hN:N<=4611686018427387904) (L:List Nat) (a:Option Addr) (n c:Nat) (w:World) (hl:L.length=n) (hn:n<2 ^ 20) (hR:RISES L) (hc:n<=c) (hnil:a=none->c=0) (hbl:∀ x,a=some x->x.block=bi/\x.spot=none) (hL:NUML w a L) (hCb:bi≠CP) (hCP:CP<w.heap.size) (hT:Tabled w)
  (h0:∀ w1,Below w.heap.size w w1->S w1 [] w1):
  Calls Tryz.prog 83 #[.slice a n c,.int .u64 (N:Int),.func (.func 84) #[] #[.pointer (some ⟨CP,0,none⟩)]] w fun e w'=>∃ w1,Below w.heap.size w w1/\TOLD (S w1) (P w1) X [] (z0m (TPS N) L) e w':=by
 have cp:=z8x N hN w hT (by omega);have hPC:PC N<=64:=z2C 64 N (by omega);have hlen:=z2h (n:=N) (by omega);have hmost:=z2O (TPS N) L (fun p hp=>(z20 (n:=N) (by omega) (h:=p.1) (k:=p.2) hp).1);have HA:Aside (n<2 ^ 20/\N<=2 ^ 62/\PC N<=64/\(TPS N).length=PC N/\(z0m (TPS N) L).length<=2 ^ 30/\bi≠CP/\CP<w.heap.size):=⟨hn,by omega,hPC,hlen,by omega,hCb,hCP⟩
 have ST:Aside ((∀ w0 acc w w',S w0 acc w->Below w.heap.size w w'->S w0 acc w')/\(∀ w0 acc w,S w0 acc w->(∀ b,b<w0.heap.size->b≠CP->w.heap[b]?=w0.heap[b]?)/\w0.heap.size<=w.heap.size)):=⟨hS,hB⟩
 have HT:Aside (∀ w0 acc (p:Nat) w,S w0 acc w->acc.length<=2 ^ 30->Calls Tryz.prog 84 #[.int .u64 (p:Int),.pointer (some ⟨CP,0,none⟩)] w fun e w'=>(e=.returned (.tuple #[])/\S w0 (acc ++ [p]) w')\/(e=.panicked X/\P w0 acc w')):=ht;have LL:Aside (L.length=n/\RISES L/\n<=c/\(a=none->c=0)/\(∀ x,a=some x->x.block=bi/\x.spot=none)/\NUML w a L/\∀ w1,Below w.heap.size w w1->S w1 [] w1):=⟨hl,hR,hc,hnil,hbl,hL,h0⟩
 clear hN hl hn hR hc hnil hbl hL hCb hCP hT h0 hS hB ht hPC hlen hmost;go_enter Tryz.func83,Tryz.ntmps83;go_wp2_with fail
 refine cp.mono ?_;rintro e w1 ⟨g,cg,rfl,hown,hb1⟩;clear cp;obtain ⟨m,hm⟩:∃ m,PC N=m:=⟨_,rfl⟩
 rw [hm] at hown ⊢;have R1:Aside (w1.ownsRow w.heap.size 24 1 (.slice (some ⟨g,0,none⟩) m cg) m (z06 (z2L N))/\Below w.heap.size w w1/\PC N=m/\g≠CP/\g<w1.heap.size/\w.heap.size<=g):=⟨hown,hb1,hm,by have h1:=(hown.lt g rfl).1;have:=HA.out.2.2.2.2.2.2;omega,(hown.lt g rfl).2,(hown.lt g rfl).1⟩
 have L0:Aside (NUML w1 a L):=fun h0=>by
  obtain ⟨b,o,e,hl,hcc⟩:=LL.out.2.2.2.2.2.1 h0;exact ⟨b,o,e,Nat.lt_of_lt_of_le hl hb1.size,fun i x hx=>(hb1.cell (p:=⟨b,o+i,none⟩) hl).trans (hcc i x hx)⟩
 clear hown hb1 hm;go_wp2_with fail
 go_loopg [0,13] m (fun q s0 s13 wx=>∃ (j n' c':Nat) (a':Option Addr) (Lj told:List Nat),s0=.slice a' n' c'/\s13=.int .i64 (j:Int)/\Aside (j+q=m/\Lj.length=n'/\n'<=n/\RISES Lj/\n'<=c'/\(a'=none->c'=0)/\(∀ x,a'=some x->x.block=bi/\x.spot=none)/\NUML w1 a' Lj/\S w1 told wx/\z0m (TPS N) L=told ++ z0m ((TPS N).drop j) Lj))
 case atStart=>exact ⟨0,n,c,a,L,[],rfl,rfl,by omega,LL.out.1,Nat.le_refl _,LL.out.2.1,LL.out.2.2.1,LL.out.2.2.2.1,LL.out.2.2.2.2.1,L0.out,LL.out.2.2.2.2.2.2 w1 R1.out.2.1,by simp⟩
 case round=>
  obtain ⟨j,n',c',a',Lj,told,rfl,rfl,A⟩:=hrel;clear L0 LL;cases gk with
  | zero=>
    obtain rfl:j=m:=by have:=A.out.1;omega
    have hlt:¬ (j:Int)<(j:Int):=by omega
    have FN:Aside (∃ w1,Below w.heap.size w w1/\TOLD (S w1) (P w1) X [] (z0m (TPS N) L) (.returned (.tuple #[])) wr):=by
     obtain ⟨h1,h2,h3,h4,h5,h6,h7,h8,h9,h10⟩:=A.out;refine ⟨w1,R1.out.2.1,.inl ⟨rfl,?_⟩⟩;rw [List.drop_of_length_le (by have:=R1.out.2.2.1;have:=HA.out.2.2.2.1;omega)] at h10;rw [h10,z0m,List.append_nil,List.nil_append];exact h9
    clear A R1 ST HT HA;go_wp2_with fail
    exact bodyPost_end (v:=.tuple #[]) (by simp [results,Tryz.f83]) rfl FN.out
  | succ q=>
    have hlt:(j:Int)<(m:Int):=by have:=A.out.1;omega
    have hjm:j<(TPS N).length:=by have:=A.out.1;have:=R1.out.2.2.1;have:=HA.out.2.2.2.1;omega
    obtain ⟨⟨h,k⟩,ehk⟩:∃ s,(TPS N)[j]?=some s:=⟨_,List.getElem?_eq_getElem hjm⟩
    have hsp:=z20 HA.out.2.1 (List.mem_of_getElem? ehk);have epk:=z8T ehk;obtain ⟨k1,k2⟩:=ST.out.2 w1 told wr A.out.2.2.2.2.2.2.2.2.1
    have hcell:wr.cell? ⟨g,j,none⟩=some (.int .u64 ((PLC h k:Nat):Int)):=by
     have h1:=R1.out.1.cellAt j (by have:=A.out.1;omega);refine (World.cell?_of_block (w:=w1) (by exact k1 g R1.out.2.2.2.2.1 R1.out.2.2.2.1)).trans (h1.trans ?_);rw [z06,List.getElem?_map,epk];rfl
    have ej:wrap64 ((j:Int)+1)=((j+1:Nat):Int):=by have:=A.out.1;have:=R1.out.2.2.1;have:=HA.out.2.2.1;unfold wrap64;omega
    have hN1:NUML wr a' Lj:=fun h0=>by
     obtain ⟨b,o,e,hl,hcc⟩:=A.out.2.2.2.2.2.2.2.1 h0;have hbb:b=bi:=(A.out.2.2.2.2.2.2.1 _ e).1;exact ⟨b,o,e,by omega,fun i x hx=>(World.cell?_of_block (w:=w1) (by exact k1 b hl (by rw [hbb];exact HA.out.2.2.2.2.2.1))).trans (hcc i x hx)⟩
    have cs:=z4e h k hsp.2.2 a' n' c' Lj A.out.2.1 (by have:=A.out.2.2.1;have:=HA.out.1;omega) A.out.2.2.2.1 A.out.2.2.2.2.1 A.out.2.2.2.2.2.1 (fun x e=>(A.out.2.2.2.2.2.2.1 x e).2) wr hN1;have SP:Aside (Node h k/\(TPS N)[j]?=some (h,k)/\j<(TPS N).length):=⟨hsp.2.2,ehk,hjm⟩
    clear hsp ehk epk k1 k2 hN1 hjm;go_wp2_with fail
    refine cs.mono ?_;rintro e w2 ⟨r,a2,rfl,hs⟩;clear cs hcell;have hdrop:(TPS N).drop j=(h,k) :: (TPS N).drop (j+1):=z6P SP.out.2.1;have hneed:=z6n ((TPS N).drop (j+1)) hs.rank;rw [<-hdrop] at hneed;have hrn:=hs.rank.le;have S2:S w1 told w2:=ST.out.1 w1 told wr w2 A.out.2.2.2.2.2.2.2.2.1 hs.below
    have MR:Aside (NUML w1 a2 (Lj.drop r)/\(∀ x,a2=some x->x.block=bi/\x.spot=none)/\(a2=none->c' - r=0)/\r<=n'/\NUML w1 a' (Lj.take r)/\z0m ((TPS N).drop j) Lj=NEED h k (Lj.take r) ++ z0m ((TPS N).drop (j+1)) (Lj.drop r)):=by
     refine ⟨fun h0=>?_,fun x hx=>?_,hs.nil,by have:=A.out.2.1;omega,fun h0=>?_,hneed⟩
     ·obtain ⟨b,o,e,hl,hcc⟩:=hs.lies h0
      obtain ⟨y,e2,e3⟩:=hs.block _ e;have hbb:b=bi:=by have:=(A.out.2.2.2.2.2.2.1 _ e2).1;rw [<-e3] at this;exact this
      obtain ⟨k1,k2⟩:=ST.out.2 w1 told wr A.out.2.2.2.2.2.2.2.2.1;obtain ⟨b',o',e',hl',_⟩:=A.out.2.2.2.2.2.2.2.1 (by rw [List.length_drop] at h0;omega);have hbi:bi<w1.heap.size:=by have h9:b'=bi:=(A.out.2.2.2.2.2.2.1 _ e').1;omega
      subst hbb;exact ⟨b,o,e,hbi,fun i x hx=>(World.cell?_of_block (w:=wr) (by exact (k1 b hbi HA.out.2.2.2.2.2.1).symm)).trans (hcc i x hx)⟩
     ·obtain ⟨y,e2,e3⟩:=hs.block x hx
      exact ⟨by rw [e3];exact (A.out.2.2.2.2.2.2.1 _ e2).1,hs.spot x hx⟩
     ·obtain ⟨b,o,e,hl,hcc⟩:=A.out.2.2.2.2.2.2.2.1 (by rw [List.length_take] at h0;omega)
      refine ⟨b,o,e,hl,fun i x hx=>hcc i x ?_⟩;rw [List.getElem?_take] at hx;split at hx
      ·exact hx
      ·cases hx
    have TL:Aside (told.length+(NEED h k (Lj.take r)).length<=2 ^ 30/\z0m (TPS N) L=told ++ NEED h k (Lj.take r) ++ z0m ((TPS N).drop (j+1)) (Lj.drop r)):=by
     have h1:=A.out.2.2.2.2.2.2.2.2.2;rw [MR.out.2.2.2.2.2,<-List.append_assoc] at h1;refine ⟨?_,h1⟩;have h2:=HA.out.2.2.2.2.1;rw [h1,List.length_append,List.length_append] at h2;omega
    have cu:=zdy w1 bi CP (S w1) (P w1) X (ST.out.1 w1) (fun acc w hw=>⟨fun hbi=>(ST.out.2 w1 acc w hw).1 bi hbi HA.out.2.2.2.2.2.1,(ST.out.2 w1 acc w hw).2⟩) (HT.out w1) h k SP.out.1 (Lj.take r) a' r c' told w2 (by rw [List.length_take];have:=A.out.2.1;have:=MR.out.2.2.2.1;omega) (by have:=MR.out.2.2.2.1;have:=A.out.2.2.1;have:=HA.out.1;omega) (A.out.2.2.2.1.take r) (by have:=MR.out.2.2.2.1;have:=A.out.2.2.2.2.1;omega) A.out.2.2.2.2.2.1 A.out.2.2.2.2.2.2.1 MR.out.2.2.2.2.1 S2 TL.out.1;clear hs hdrop hneed hrn S2;go_wp2_with fail
    refine cu.mono ?_;rintro e w3 (⟨rfl,h3⟩ | ⟨pre,p,hp,rfl,h3⟩)
    ·have Z:Aside (j+1+q=m/\(Lj.drop r).length=n' - r/\n' - r<=n/\RISES (Lj.drop r)/\n' - r<=c' - r/\(a2=none->c' - r=0)/\(∀ x,a2=some x->x.block=bi/\x.spot=none)/\NUML w1 a2 (Lj.drop r)/\S w1 (told ++ NEED h k (Lj.take r)) w3/\z0m (TPS N) L=(told ++ NEED h k (Lj.take r)) ++ z0m ((TPS N).drop (j+1)) (Lj.drop r)):=by
      obtain ⟨h1,h2,_,h4,h5,_⟩:=A.out;refine ⟨by clear ej;omega,by rw [List.length_drop,h2],by have:=A.out.2.2.1;clear ej;omega,h4.drop r,by clear ej;omega,MR.out.2.2.1,MR.out.2.1,MR.out.1,h3,TL.out.2⟩
     clear h3 cu A MR TL SP R1;go_wp2_with fail
     go_roundg q
     case measure=>exact Nat.lt_succ_self _
     case rel=>exact ⟨j+1,n' - r,c' - r,a2,Lj.drop r,told ++ NEED h k (Lj.take r),rfl,by first | rfl | (rw [ej]),Z.out⟩
    ·refine ⟨rfl,w1,R1.out.2.1,.inr ⟨pre,p,hp.trans ?_,rfl,h3⟩⟩
     rw [List.nil_append,TL.out.2];exact List.prefix_append _ _
theorem TAKING.still {w0 w w':World} {bp:Nat} {acc:List Nat} (h:TAKING w0 w bp acc) (hb:Below w.heap.size w w'):TAKING w0 w' bp acc:=by
 obtain ⟨v,h1,h2⟩:=h.row;have hs:=h.below.size;have hlt:=h.lt;refine ⟨⟨v,h1.keep hb,?_⟩,fun b hb0 hne=>(hb.block b (by omega)).trans (h.keep b hb0 hne),hlt,h.below.trans (hb.mono (by omega))⟩;refine ⟨h2.1,h2.2.imp id ?_⟩;rintro ⟨g',c,cur,rfl,b,r,rest⟩;exact ⟨g',c,cur,rfl,b,(hb.block g' (Array.getElem?_eq_some_iff.1 r).1).trans r,rest⟩
def PLCA (L:List Nat) (N:Nat):List Nat:=if z0h L N=0 then z0m (TPS N) L else []
theorem z9Y (L:List Nat) (N:Nat) (a:Option Addr) (m c:Nat) (b0 b1 b2:Nat) (w:World) (hl:L.length=m) (hm:m<2 ^ 20) (hc:m<=c) (hnil:a=none->c=0) (hbl:∀ x,a=some x->x.block≠b2/\x.spot=none) (hL:NUML w a L) (hT:Tabled w)
  (h0:Has w b0 #[.slice a m c] 23) (h1:Has w b1 #[.int .u64 (N:Int)] 24) (h2:Has w b2 #[.slice none 0 0] 23):
  Calls Tryz.prog 81 #[.pointer (some ⟨b0,0,none⟩),.pointer (some ⟨b1,0,none⟩),.pointer (some ⟨b2,0,none⟩)] w fun e w'=>
   (e=.returned (.tuple #[])/\(z0h L N=0/\∃ w1,Below w.heap.size w w1/\TAKING w1 w' b2 (z0m (TPS N) L)))\/∃ x,e=.panicked (z2P x)/\(x=z0h L N/\x≠0/\w'=w):=by
 have hmf:∀ (fn:Fn) (first cap:Array Value) (w:World),(Instr.makeFunc fn first cap).run Tryz.prog w=.ok (.func fn first cap) w:=fun _ _ _ _=>rfl;have cm:=z5s L N a m c hl (by omega) w hL;have x0:=h0.cell 0;have x1:=h1.cell 0;have hb2:=h2.lt;have HA:Aside (L.length=m/\m<2 ^ 20/\m<=c/\(a=none->c=0)/\(∀ x,a=some x->x.block≠b2/\x.spot=none)/\NUML w a L/\Tabled w/\Has w b2 #[.slice none 0 0] 23):=⟨hl,hm,hc,hnil,hbl,hL,hT,h2⟩
 clear hl hm hc hnil hbl hL hT h2 h0 h1;go_enter Tryz.func81,Tryz.ntmps81;go_wp2_with fail
 refine cm.mono ?_;rintro e w1 ⟨rfl,(⟨hr,rfl⟩ | ⟨hr,rfl⟩)⟩
 ·clear cm
  obtain ⟨r1,r2,r3⟩:=z2t hr
  obtain ⟨bj,hbj,hbn⟩:∃ bj,(∀ x,a=some x->x.block=bj/\x.spot=none)/\bj≠b2:=by
   cases a with
   | none=>exact ⟨b2+1,fun x e=>(by cases e),by omega⟩
   | some x=>exact ⟨x.block,fun y e=>(by cases e;exact ⟨rfl,(HA.out.2.2.2.2.1 x rfl).2⟩),(HA.out.2.2.2.2.1 x rfl).1⟩
  have cn:=zfh bj b2 (fun w0 acc w=>TAKING w0 w b2 acc) (fun _ _ _=>False) [] (fun w0 acc w w' h hb=>h.still hb) (fun w0 acc w h=>⟨fun b hb hne=>h.keep b hb hne,h.below.size⟩) (fun w0 acc p w h hn=>(zfb h p hn).mono fun e w' hh=>.inl hh) N r1 L a m c w HA.out.1 HA.out.2.1 r2 HA.out.2.2.1 HA.out.2.2.2.1 hbj HA.out.2.2.2.2.2.1 hbn hb2 HA.out.2.2.2.2.2.2.1
   (fun w1 hb=>⟨⟨.slice none 0 0,HA.out.2.2.2.2.2.2.2.keep hb,⟨rfl,.inl ⟨rfl,rfl⟩⟩⟩,fun b _ _=>rfl,(HA.out.2.2.2.2.2.2.2.keep hb).lt,Below.refl _ _⟩)
  have HR:Aside (z0h L N=0):=hr;clear r1 r2 r3 hbj hbn HA hr hb2;go_wp2_with fail
  refine cn.mono ?_;rintro e w2 ⟨w1,hb1,(⟨rfl,ht⟩ | ⟨pre,p,_,_,hf⟩)⟩
  ·clear cn
   have FN:Aside (∃ w1,Below w.heap.size w w1/\TAKING w1 w2 b2 (z0m (TPS N) L)):=⟨w1,hb1,by rw [List.nil_append] at ht;exact ht⟩
   clear hb1 ht;go_wp2_with fail
   exact bodyPost_end (v:=.tuple #[]) (by simp [results,Tryz.f81]) rfl (.inl ⟨rfl,HR.out,FN.out⟩)
  ·exact hf.elim
 ·exact ⟨rfl,.inr ⟨_,rfl,rfl,hr,rfl⟩⟩
def ANSN (w:World) (E:Int) (l:List Nat) (e:Ending) (w':World):Prop:=∃ a c,e=.returned (.tuple #[.slice a l.length c,.int .i64 E])/\w'.ownsRow w.heap.size 24 1 (.slice a l.length c) l.length (z06 l)/\Below w.heap.size w w'
theorem z4m (L:List Nat) (N:Nat) (a:Option Addr) (m c:Nat) (w:World) (hl:L.length=m) (hm:m<2 ^ 20) (hc:m<=c) (hnil:a=none->c=0) (hbl:∀ x,a=some x->x.block<w.heap.size/\x.spot=none) (hL:NUML w a L) (hT:Tabled w) (hw0:0<w.heap.size):
    Calls Tryz.prog 50 #[.slice a m c,.int .u64 (N:Int)] w (ANSN w (z0h L N) (PLCA L N)):=by
  have hmf:∀ (fn:Fn) (first cap:Array Value) (w:World),(Instr.makeFunc fn first cap).run Tryz.prog w=.ok (.func fn first cap) w:=fun _ _ _ _=>rfl;obtain ⟨w1,e1⟩:∃ w1,w.alloc (.cells #[.slice a m c] 23)=w1:=⟨_,rfl⟩
  obtain ⟨w2,e2⟩:∃ w2,w1.alloc (.cells #[.int .u64 (N:Int)] 24)=w2:=⟨_,rfl⟩
  obtain ⟨w3,e3⟩:∃ w3,w2.alloc (.cells #[.slice none 0 0] 23)=w3:=⟨_,rfl⟩
  obtain ⟨w4,e4⟩:∃ w4,w3.alloc (.cells #[.int .i64 0] 26)=w4:=⟨_,rfl⟩
  have s1:w1.heap.size=w.heap.size+1:=by rw [<-e1];simp
  have s2:w2.heap.size=w.heap.size+2:=by rw [<-e2];simp;omega
  have s3:w3.heap.size=w.heap.size+3:=by rw [<-e3];simp;omega
  have s4:w4.heap.size=w.heap.size+4:=by rw [<-e4];simp;omega
  have hb4:Below w.heap.size w w4:=by
    rw [<-e4,<-e3,<-e2,<-e1];exact ((((Below.refl _ _).alloc (Nat.le_refl _) _).alloc (by simp) _).alloc (by simp;omega) _).alloc (by simp;omega) _
  have h0:Has w4 w.heap.size #[.slice a m c] 23:=by
    rw [<-e4,<-e3,<-e2,<-e1];exact (((Has.new w _ _).alloc _).alloc _).alloc _
  have h1:Has w4 w1.heap.size #[.int .u64 (N:Int)] 24:=by
    rw [<-e4,<-e3,<-e2];exact ((Has.new w1 _ _).alloc _).alloc _
  have h2:Has w4 w2.heap.size #[.slice none 0 0] 23:=by
    rw [<-e4,<-e3];exact (Has.new w2 _ _).alloc _
  have h3:Has w4 w3.heap.size #[.int .i64 0] 26:=by
    rw [<-e4];exact Has.new w3 _ _
  have hL4:NUML w4 a L:=fun hp=>by
    obtain ⟨b,o,e,hlt,hcc⟩:=hL hp;exact ⟨b,o,e,by omega,fun i x hx=>(hb4.cell (p:=⟨b,o+i,none⟩) hlt).trans (hcc i x hx)⟩
  have cd:=z9Y L N a m c w.heap.size w1.heap.size w2.heap.size w4 hl hm hc hnil (fun x e=>⟨by have:=(hbl x e).1;omega,(hbl x e).2⟩) hL4 (hT.below hw0 hb4) h0 h1 h2;rw [<-e4] at cd
  have cf:=zff w.heap.size w1.heap.size w2.heap.size w3 _ _ cd
    (fun w' ⟨_,wx,hbx,ht⟩=>by
      rw [e4] at hbx;exact (ht.keep w3.heap.size (by have:=hbx.size;omega) (by omega)).trans (h3.keep hbx))
    (fun x w' ⟨_,_,e⟩=>by rw [e,e4];exact h3)
  rw [e4] at cf
  have FIN:Aside (∀ e w',z7O w3 (fun w'=>z0h L N=0/\∃ w1,Below w4.heap.size w4 w1/\TAKING w1 w' w2.heap.size (z0m (TPS N) L)) (fun x w'=>x=z0h L N/\x≠0/\w'=w4) e w'->e=.returned (.int .i64 (z0h L N))/\Below w.heap.size w w'/\∃ a' c',Has w' w2.heap.size #[.slice a' (PLCA L N).length c'] 23/\w'.ownsRow w.heap.size 24 1 (.slice a' (PLCA L N).length c') (PLCA L N).length (z06 (PLCA L N))):=by
    rintro e w' (⟨rfl,wx,⟨hr,wy,hby,ht⟩,rfl⟩ | ⟨x,wx,rfl,⟨rfl,hx,rfl⟩,rfl⟩)
    · have hP:PLCA L N=z0m (TPS N) L:=if_pos hr
      have hsz:=hby.size;obtain ⟨v,hv,hown⟩:=ht.row;obtain ⟨a',c',rfl⟩:=z1m hown;refine ⟨by rw [hr],?_,a',c',?_,?_⟩
      · exact ((hb4.trans (hby.mono hb4.size)).trans (ht.below.mono (by omega))).setCell (by show w.heap.size<=w3.heap.size;omega) _
      · rw [hP]
        exact hv.other (by show w2.heap.size≠w3.heap.size;omega) _
      · rw [hP]
        exact z0o (ownsRow_setCell_below hown (a:=⟨w3.heap.size,0,none⟩) (by show w3.heap.size<wy.heap.size;omega) _) (by omega)
    · have hP:PLCA L N=[]:=if_neg hx
      refine ⟨rfl,hb4.setCell (by show w.heap.size<=w3.heap.size;omega) _,none,0,?_,?_⟩
      · rw [hP]
        exact h2.other (by show w2.heap.size≠w3.heap.size;omega) _
      · rw [hP]
        exact ⟨rfl,.inl ⟨rfl,rfl⟩⟩
  clear cd h0 h1 h2 h3 hL4 hb4 hl hm hc hnil hbl hL hT s1 s2 s3 s4 e4 hw0;go_enter Tryz.func50,Tryz.ntmps50;go_wp2_with fail
  refine cf.mono ?_;intro e w5 hh;obtain ⟨rfl,hb5,a',c',hv,hown⟩:=FIN.out e w5 hh;have x0:=hv.cell 0;have FN:Aside (ANSN w (z0h L N) (PLCA L N) (.returned (.tuple #[.slice a' (PLCA L N).length c',.int .i64 (z0h L N)])) w5):=⟨a',c',rfl,hown,hb5⟩
  clear hh hb5 hv hown FIN cf;go_wp2_with fail
  go_ret2;exact FN.out
end Go.Proofs.YthmnailmbgondaaGreatDoor
