/- ManyMakes: part 34. -/
import Derived.Defers
import Derived.Recover
import Derived.Test.YthmnailmbgondaaGreatDoorManyMakesP33
set_option maxHeartbeats 2000000
namespace Go.Proofs.YthmnailmbgondaaGreatDoor
open Go.RowKit
set_option maxRecDepth 100000
theorem zfc {h k j x:Nat} {L:List Nat} (e:L[j]?=some x):UND h k (L.take (j+1))=UND h k (L.take j) ++ (if x / 2 ^ h=k then [x] else []):=by
 unfold UND;rw [List.take_add_one,e,List.filter_append];congr 1
 by_cases hx:x / 2 ^ h=k <;> simp [hx]
theorem z4T (h k:Nat) (hh:h<64) (L:List Nat) (a:Option Addr) (n c:Nat) (hl:L.length=n) (hn:n<2 ^ 20) (hx:∀ x∈L,x<2 ^ 64) (w:World) (hL:NUML w a L):
    Calls Tryz.prog 79 #[SPOT h k,.slice a n c] w fun e w'=>∃ a' c',e=.returned (.slice a' (UND h k L).length c')/\w'.ownsRow w.heap.size 24 1 (.slice a' (UND h k L).length c') (UND h k L).length (z06 (UND h k L))/\Below w.heap.size w w':=by
  have cp:=z1o h hh;have hm:wrap64 (h:Int)=(h:Int):=by unfold wrap64;omega
  obtain ⟨w1,e1⟩:∃ w1,w.alloc (.cells #[.int .u8 (h:Int),.int .u64 (k:Int)] 101)=w1:=⟨_,rfl⟩
  have hB:Has w1 w.heap.size #[.int .u8 (h:Int),.int .u64 (k:Int)] 101:=by rw [<-e1];exact Has.new w _ _
  have hb1:Below w.heap.size w w1:=by rw [<-e1];exact (Below.refl _ _).alloc (Nat.le_refl _) _
  have c0:=hB.cell 0;obtain ⟨z,hz⟩:∃ z:Int,((2 ^ h:Nat):Int)=z:=⟨_,rfl⟩
  have hz1:¬ z=0:=by have:=Nat.two_pow_pos h;rw [<-hz];generalize 2 ^ h=y at *;omega
  have hz0:(z == 0)=false:=by simpa using hz1
  rw [hz] at cp;have HA:Aside (L.length=n/\n<2 ^ 20/\(∀ x∈L,x<2 ^ 64)/\NUML w a L/\Has w1 w.heap.size #[.int .u8 (h:Int),.int .u64 (k:Int)] 101/\Below w.heap.size w w1/\((2 ^ h:Nat):Int)=z):=⟨hl,hn,hx,hL,hB,hb1,hz⟩
  clear hh hl hn hx hL hB hb1 hz;go_enter Tryz.func79,Tryz.ntmps79;go_wp2_with fail
  refine (cp _).mono ?_;rintro e w' ⟨rfl,rfl⟩;clear cp c0 hm;go_wp2_with fail
  clear e1;go_loopg [6,7] n (fun q s6 s7 wx=>∃ (j:Nat) (v:Value),v=s6/\s7=.int .i64 (j:Int)/\Aside (j+q=n/\wx.ownsRow w1.heap.size 24 1 v (UND h k (L.take j)).length (z06 (UND h k (L.take j)))/\Below w1.heap.size w1 wx))
  case atStart=>exact ⟨0,_,rfl,rfl,by omega,⟨rfl,.inl ⟨rfl,rfl⟩⟩,Below.refl _ _⟩
  case round =>
    obtain ⟨j,v,rfl,rfl,A⟩:=hrel;obtain ⟨av,cv,rfl⟩:=z1m A.out.2.1;cases gk with
    | zero=>
      obtain rfl:j=n:=by have:=A.out.1;omega
      have hlt:¬ (j:Int)<(j:Int):=by omega
      have FN:Aside (wr.ownsRow w.heap.size 24 1 (.slice av (UND h k L).length cv) (UND h k L).length (z06 (UND h k L))/\Below w.heap.size w wr/\UND h k (L.take j)=UND h k L):=by
        obtain ⟨_,h2,h3⟩:=A.out;have e:L.take j=L:=List.take_of_length_le (by have:=HA.out.1;omega);rw [e] at h2;have hb:=HA.out.2.2.2.2.2.1;exact ⟨z0o h2 hb.size,hb.trans (h3.mono hb.size),by rw [e]⟩
      clear A HA;rw [FN.out.2.2];go_wp2_with fail
      go_ret;exact ⟨_,_,rfl,FN.out.1,FN.out.2.1⟩
    | succ q =>
      have hjn:j<n:=by have:=A.out.1;omega
      have hlt:(j:Int)<(n:Int):=by omega
      obtain ⟨x,ex⟩:∃ x,L[j]?=some x:=⟨_,List.getElem?_eq_getElem (by have:=HA.out.1;omega)⟩
      obtain ⟨b,o,rfl,hb,hcc⟩:=HA.out.2.2.2.1 (by have:=HA.out.1;omega);have hb1:=HA.out.2.2.2.2.2.1;have x0:wr.cell? ⟨b,o+j,none⟩=some (.int .u64 (x:Int)):=(A.out.2.2.cell (p:=⟨b,o+j,none⟩) (by have:=hb1.size;show b<w1.heap.size;omega)).trans ((hb1.cell (p:=⟨b,o+j,none⟩) hb).trans (hcc j x ex));have x1:wr.cell? ⟨w.heap.size,1,none⟩=some (.int .u64 (k:Int)):=(A.out.2.2.cell (p:=⟨w.heap.size,1,none⟩) HA.out.2.2.2.2.1.lt).trans (HA.out.2.2.2.2.1.cell 1);have hx64:=HA.out.2.2.1 x (List.mem_of_getElem? ex);have hz:=HA.out.2.2.2.2.2.2;obtain ⟨t,ht⟩:∃ t:Int,((x / 2 ^ h:Nat):Int)=t:=⟨_,rfl⟩
      have ed:(x:Int) / z=t:=by rw [<-hz,<-ht];exact (Int.natCast_ediv _ _).symm
      have ew:IntKind.u64.wrap t=t:=by have:=Nat.div_le_self x (2 ^ h);rw [<-ht,z0b];generalize x / 2 ^ h=y at *;omega
      have ej:wrap64 ((j:Int)+1)=((j+1:Nat):Int):=by have:=HA.out.2.1;unfold wrap64;omega
      have hs:=zfc (h:=h) (k:=k) ex;have hlen:=z1U h k (L.take j);by_cases hxk:x / 2 ^ h=k
      · have hq:(t == (k:Int))=true:=by rw [<-ht,hxk];exact beq_self_eq_true _
        rw [if_pos hxk] at hs;have R:Aside (j+1+q=n/\wr.ownsRow w1.heap.size 24 1 (.slice av (UND h k (L.take j)).length cv) (UND h k (L.take j)).length (z06 (UND h k (L.take j)))/\Below w1.heap.size w1 wr/\(UND h k (L.take j)).length<=2 ^ 20/\UND h k (L.take (j+1))=UND h k (L.take j) ++ [x]):=⟨by have:=A.out.1;clear ej ew;omega,A.out.2.1,A.out.2.2,by have:=HA.out.2.1;rw [List.length_take] at hlen;clear ej ew;omega,hs⟩
        generalize UND h k (L.take j)=U at *
        generalize hU2:UND h k (L.take (j+1))=U2 at *
        have HU2:Aside (UND h k (L.take (j+1))=U2):=hU2;generalize hu:U.length=u at *
        clear A hs hlen hcc hb hb1 hx64 hjn ex hxk hz hU2 ht;go_wp2_with fail
        go_quiet (fail)
        have R1:Aside (j+1+q=n/\(wr.drewN nq).ownsRow w1.heap.size 24 1 (.slice av u cv) u (z06 U)/\Below w1.heap.size w1 (wr.drewN nq)/\u<=2 ^ 20/\U2=U ++ [x]):=⟨R.out.1,R.out.2.1,below_drewN R.out.2.2.1 _,R.out.2.2.2⟩
        have y0:(wr.drewN nq).cell? ⟨b,o+j,none⟩=some (.int .u64 (x:Int)):=x0;clear x0 x1 R;generalize wr.drewN nq=w2 at *
        go_wp2_with (first
          | (at_builtin;refine z6R _ rfl (.tmp 27) (.tmp 32) rfl w1.heap.size (.slice av u cv) u U rfl (R1.out.2.1.alloc _) w2.heap.size 1 x rfl ((Has.new _ _ _).cell 0) (by have:=R1.out.2.2.2.1;omega) (by have:=R1.out.2.2.1.size;simp;omega) ?_;intro g3 c3 w3 hown hgrow hg
             have R2:Aside (j+1+q=n/\w3.ownsRow w1.heap.size 24 1 (.slice (some ⟨g3,0,none⟩) (u+1) c3) (UND h k (L.take (j+1))).length (z06 (UND h k (L.take (j+1))))/\Below w1.heap.size w1 w3):=by
               obtain ⟨r1,r2,r3,r4,r5⟩:=R1.out;have e:(UND h k (L.take (j+1))).length=u+1:=by rw [HU2.out,r5,List.length_append,hu];rfl
               refine ⟨r1,?_,(r3.alloc r3.size _).grown hgrow (by have:=r3.size;simp;omega) (fun k e=>(r2.lt k e).1)⟩;rw [e,HU2.out,r5];exact hown
             clear hown hgrow hg R1))
        go_roundg q
        case measure=>exact Nat.lt_succ_self _
        case rel=>exact ⟨j+1,_,rfl,by first | rfl | (rw [ej]),R2.out⟩
      · have hq:(t == (k:Int))=false:=by rw [<-ht];generalize x / 2 ^ h=y at *;simp;omega
        rw [if_neg hxk,List.append_nil] at hs;have R:Aside (j+1+q=n/\wr.ownsRow w1.heap.size 24 1 (.slice av (UND h k (L.take j)).length cv) (UND h k (L.take (j+1))).length (z06 (UND h k (L.take (j+1))))/\Below w1.heap.size w1 wr):=⟨by have:=A.out.1;clear ej ew;omega,by rw [hs];exact A.out.2.1,A.out.2.2⟩
        clear A hs hlen hcc hb hb1 hx64 hjn ex hxk hz ht;go_wp2_with fail
        go_quiet (fail)
        have R1:Aside (j+1+q=n/\(wr.drewN nq).ownsRow w1.heap.size 24 1 (.slice av (UND h k (L.take j)).length cv) (UND h k (L.take (j+1))).length (z06 (UND h k (L.take (j+1))))/\Below w1.heap.size w1 (wr.drewN nq)):=⟨R.out.1,R.out.2.1,below_drewN R.out.2.2 _⟩
        clear x0 x1 R;generalize wr.drewN nq=w2 at *
        go_wp2_with fail
        go_roundg q
        case measure=>exact Nat.lt_succ_self _
        case rel=>exact ⟨j+1,_,rfl,by first | rfl | (rw [ej]),R1.out⟩
theorem z7G (l k:List (Nat × Nat)):z0e (l ++ k)=z0e l ++ z0e k:=by unfold z0e;rw [List.flatMap_append]
theorem zc0 (l:List (Nat × Nat)):∀ u∈z0e l,u.oneCell'=true:=fun u hu=>by
 unfold z0e at hu;obtain ⟨x,_,hx⟩:=List.mem_flatMap.1 hu;simp at hx;rcases hx with rfl | rfl <;> rfl
theorem z5t {ops:Array Oper} {rest:List Oper} {o:Oper} {a:Act} {Q:Exit->Act->World->Prop} (w:World) (hgd:o.guard=none) (s x:Operand)
   (ho:o.op=.call {callee:=.builtin .append,args:=#[s,x],argTypes:=#[97,97]})
   (base:Nat) (v:Value) (n:Nat) (xs:List (Nat × Nat)) (hs:a.eval s=v) (hown:w.ownsRow base 101 2 v n (z0e xs))
   (B:Nat) (ad:Option Addr) (m c:Nat) (l:List (Nat × Nat)) (hx:a.eval x=.slice ad m c) (hsrc:w.ownsRow B 101 2 (.slice ad m c) m (z0e l))
   (hb:n+m<=2 ^ 26) (hbase:base<=w.heap.size)
   (hh:∀ a' c' w',w'.ownsRow base 101 2 (.slice a' (n+m) c') (n+m) (z0e (xs ++ l))->w.grownBy w' v.ownBlock->wpList Tryz.prog ops Q rest (a.put o.dst (.slice a' (n+m) c')) w'):wpList Tryz.prog ops Q (o :: rest) a w:=by
 obtain ⟨i,hi,hz,hs1,hby⟩:=info_parts z7f;have hlm:(z0e l).length=m*2:=hsrc.1;cases ad with
 | none=>
   have h0:m=0/\c=0:=by
    rcases hsrc.2 with ⟨e,h0⟩ | ⟨_,_,_,e,_⟩
    ·cases e;exact ⟨rfl,rfl⟩
    ·cases e
   obtain ⟨rfl,rfl⟩:=h0
   have hl0:l=[]:=by
    cases l with
    | nil=>rfl
    | cons y l=>simp [z0e] at hlm
   subst hl0;refine wpList_append_own_none hgd s x 97 ho base 101 i 2 Tryz.underlying97 hi v n (z0e xs) hs hown hx ?_;obtain ⟨a',c',rfl⟩:=z1m hown;have:=hh a' c' w (by simpa using hown) ⟨rfl,rfl,rfl,Nat.le_refl _,fun _ _ _=>rfl⟩;simpa using this
 | some ad=>
   obtain ⟨g,rfl⟩:∃ g,ad=⟨g,0,none⟩:=by
    rcases hsrc.2 with ⟨e,h0⟩ | ⟨g,_,_,e,_⟩
    ·cases e
    ·cases e;exact ⟨g,rfl⟩
   refine wpList_append_own w hgd s x 97 ho base 101 i _ 2 16 Tryz.underlying97 hi hz hs1 hby rfl (by decide) v n (z0e xs) hs hown ⟨g,0,none⟩ m c (z0e l) hx hlm (fun j u hu=>?_) (zc0 l) (by simp only [maxLen];omega) (by omega) hbase ?_
   ·have hj:j<m*2:=by rw [<-hlm];exact (List.getElem?_eq_some_iff.1 hu).1
    rw [show (⟨g,0,none⟩:Addr).add j=⟨g,j,none⟩ by unfold Addr.add;split <;> simp_all];exact (hsrc.cellAt j hj).trans hu
   ·intro v' w' h1 h2 _
    obtain ⟨a',c',rfl⟩:=z1m h1;rw [<-z7G] at h1;exact hh a' c' w' h1 h2
theorem zc1 (w:World):(w.alloc (.cells #[] 101)).ownsRow w.heap.size 101 2 (.slice (some ⟨w.heap.size,0,none⟩) 0 0) 0 (z0e []):=
 World.ownsRow_lit w #[] 0 (Nat.le_refl _) (by simp [maxLen]) rfl
theorem zdw (w:World) (h k:Nat):(w.alloc (.cells #[.int .u8 (h:Int),.int .u64 (k:Int)] 101)).ownsRow w.heap.size 101 2 (.slice (some ⟨w.heap.size,0,none⟩) 1 1) 1 (z0e [(h,k)]):=
 World.ownsRow_lit w #[.int .u8 (h:Int),.int .u64 (k:Int)] 1 (Nat.le_refl _) (by simp [maxLen]) rfl
theorem z0v {w w':World} {B s n:Nat} {t:TypeId} {v:Value} {xs:List Value} (h:w.ownsRow B t s v n xs) (hk:∀ k,v.ownBlock=some k->w'.heap[k]?=w.heap[k]?):w'.ownsRow B t s v n xs:=by
 refine ⟨h.1,?_⟩;rcases h.2 with h | ⟨g,cap,cur,rfl,hb,hg,r⟩
 ·exact .inl h
 ·exact .inr ⟨g,cap,cur,rfl,hb,by rw [hk g rfl];exact hg,r⟩
def AMID (B N:Nat) (L:List Nat):Prop:=∀ x∈L,B<=x/\x<N
theorem AMID.take {B N h k r:Nat} {L:List Nat} (hA:AMID B N L) (hR:RISES L) (hr:RANKS L ((k+1)*2 ^ h) r) (hB:k*2 ^ h=B):UNR h k (L.take r):=by
 refine ⟨hR.take r,fun x hx=>?_⟩;have h1:=hA x (List.mem_of_mem_take hx);obtain ⟨i,hi⟩:=List.getElem?_of_mem hx;rw [List.getElem?_take] at hi;split at hi
 ·rename_i hlt
  exact ⟨by omega,hr.lo i x hlt hi⟩
 ·cases hi
theorem AMID.drop {B N h k r:Nat} {L:List Nat} (hA:AMID B N L) (hr:RANKS L ((k+1)*2 ^ h) r):AMID ((k+1)*2 ^ h) N (L.drop r):=fun x hx=>by
 have h1:=hA x (List.mem_of_mem_drop hx);obtain ⟨i,hi⟩:=List.getElem?_of_mem hx;rw [List.getElem?_drop] at hi;exact ⟨hr.hi (r+i) x (by omega) hi,h1.2⟩
end Go.Proofs.YthmnailmbgondaaGreatDoor
namespace Go.Proofs.YthmnailmbgondaaGreatDoor
set_option maxRecDepth 100000
end Go.Proofs.YthmnailmbgondaaGreatDoor
namespace Go.Proofs.YthmnailmbgondaaGreatDoor
open Go.RowKit
set_option maxRecDepth 100000
theorem zdx (w0:World) (bi:Nat) (CP:Nat) (S P:List Nat->World->Prop) (X:List PanicEntry)
    (hS:∀ acc w w',S acc w->Below w.heap.size w w'->S acc w') (hB:∀ acc w,S acc w->(bi<w0.heap.size->w.heap[bi]?=w0.heap[bi]?)/\w0.heap.size<=w.heap.size)
    (ht:∀ acc (p:Nat) w,S acc w->acc.length<=2 ^ 30->Calls Tryz.prog 116 #[.int .u64 (p:Int),.pointer (some ⟨CP,0,none⟩)] w fun e w'=>(e=.returned (.tuple #[])/\S (acc ++ [p]) w')\/(e=.panicked X/\P acc w')):
    ∀ (h k:Nat),Node h k->∀ (L:List Nat) (a:Option Addr) (n c:Nat) (acc:List Nat) (w:World),L.length=n->n<2 ^ 40->RISES L->n<=c->(a=none->c=0)->(∀ x,a=some x->x.block=bi/\x.spot=none)->NUML w0 a L->S acc w->acc.length+(NEED h k L).length<=2 ^ 30->
    Calls Tryz.prog 115 #[.int .u64 ((PLC h k:Nat):Int),.slice a n c,.func (.func 116) #[] #[.pointer (some ⟨CP,0,none⟩)]] w (TOLD S P X acc (NEED h k L)):=by
  intro h;induction h with
  | zero=>
    intro k hN L a n c acc w hl hn hR hc hnil hbl hL hw hlen;cases L with
    | nil=>
      obtain rfl:n=0:=by simpa using hl.symm
      rw [z1O] at hlen ⊢;have ct:=ht acc (PLC 0 k) w hw (by simp at hlen;omega);clear hl hn hR hc hnil hbl hL hw hlen ht hS hB;go_enter Tryz.func115,Tryz.ntmps115;go_wp2_with fail
      refine ct.mono ?_;rintro e w1 (⟨rfl,h1⟩ | ⟨rfl,h1⟩)
      · clear ct
        have FN:Aside (S (acc ++ [PLC 0 k]) w1):=h1;clear h1;go_wp2_with fail
        exact bodyPost_ret (v:=.tuple #[]) (by simp [results,Tryz.f115]) rfl (.inl ⟨rfl,FN.out⟩)
      · exact ⟨rfl,.inr ⟨acc,PLC 0 k,List.prefix_refl _,rfl,h1⟩⟩
    | cons x l=>
      have hn0:((n:Int) == 0)=false:=beq_eq_false_iff_ne.2 (by simp at hl;omega);have ck:=z7b ((PLC 0 k:Nat):Int) k w (.node hN);have HS:Aside (∀ w',Below w.heap.size w w'->S (acc ++ []) w'):=fun w' hb=>by rw [List.append_nil];exact hS acc w w' hw hb
      clear hl hn hR hc hnil hbl hL hw hlen ht hS hB;go_enter Tryz.func115,Tryz.ntmps115;go_wp2_with fail
      refine ck.mono ?_;rintro e w1 ⟨rfl,h1⟩;clear ck;have FN:Aside (S (acc ++ []) w1):=HS.out w1 h1;clear h1 HS;go_wp2_with fail
      exact bodyPost_ret (v:=.tuple #[]) (by simp [results,Tryz.f115]) rfl (.inl ⟨rfl,FN.out⟩)
  | succ h ih=>
    intro k hN L a n c acc w hl hn hR hc hnil hbl hL hw hlen;by_cases hLe:L=[]
    · subst hLe
      obtain rfl:n=0:=by simpa using hl.symm
      rw [z1O] at hlen ⊢;have ct:=ht acc (PLC (h+1) k) w hw (by simp at hlen;omega);clear hl hn hR hc hnil hbl hL hw hlen ht hS hB ih;go_enter Tryz.func115,Tryz.ntmps115;go_wp2_with fail
      refine ct.mono ?_;rintro e w1 (⟨rfl,h1⟩ | ⟨rfl,h1⟩)
      · clear ct
        have FN:Aside (S (acc ++ [PLC (h+1) k]) w1):=h1;clear h1;go_wp2_with fail
        exact bodyPost_ret (v:=.tuple #[]) (by simp [results,Tryz.f115]) rfl (.inl ⟨rfl,FN.out⟩)
      · exact ⟨rfl,.inr ⟨acc,PLC (h+1) k,List.prefix_refl _,rfl,h1⟩⟩
    · have hn0:((n:Int) == 0)=false:=beq_eq_false_iff_ne.2 (by have:=List.length_pos_iff.2 hLe;omega)
      obtain ⟨hNl,hNr⟩:=hN.kid;have ck:=zav h k hN w;have HA:Aside (L.length=n/\n<2 ^ 40/\RISES L/\n<=c/\(a=none->c=0)/\(∀ x,a=some x->x.block=bi/\x.spot=none)/\NUML w0 a L/\S acc w/\acc.length+(NEED (h+1) k L).length<=2 ^ 30/\L≠[]):=⟨hl,hn,hR,hc,hnil,hbl,hL,hw,hlen,hLe⟩
      have NS:Aside ((∀ acc w w',S acc w->Below w.heap.size w w'->S acc w')/\(∀ acc w,S acc w->(bi<w0.heap.size->w.heap[bi]?=w0.heap[bi]?)/\w0.heap.size<=w.heap.size)/\Node h (2*k)/\Node h (2*k+1)):=⟨hS,hB,hNl,hNr⟩
      have IH:Aside _:=ih;clear hl hn hR hc hnil hbl hL hw hlen ht hS hB ih hNl hNr hLe;go_enter Tryz.func115,Tryz.ntmps115;go_wp2_with fail
      refine ck.mono ?_;rintro e w1 ⟨rfl,hb1⟩;clear ck;have S1:Aside (S acc w1):=NS.out.1 acc w w1 HA.out.2.2.2.2.2.2.2.1 hb1
      have hN1:NUML w1 a L:=fun h0=>by
        obtain ⟨b,o,e,hl,hcc⟩:=HA.out.2.2.2.2.2.2.1 h0;have hbb:b=bi:=(HA.out.2.2.2.2.2.1 _ e).1;obtain ⟨k1,k2⟩:=NS.out.2.1 acc w1 S1.out;subst hbb;exact ⟨b,o,e,by omega,fun i x hx=>(World.cell?_of_block (w:=w0) (by exact k1 hl)).trans (hcc i x hx)⟩
      have cs:=z4e h (2*k) NS.out.2.2.1 a n c L HA.out.1 HA.out.2.1 HA.out.2.2.1 HA.out.2.2.2.1 HA.out.2.2.2.2.1 (fun x e=>(HA.out.2.2.2.2.2.1 x e).2) w1 hN1;clear hb1 hN1;go_wp2_with fail
      refine cs.mono ?_;rintro e w2 ⟨r,a',rfl,hs⟩;clear cs;have hsp:NEED (h+1) k L=NEED h (2*k) (L.take r) ++ NEED h (2*k+1) (L.drop r):=z7s HA.out.2.2.2.2.2.2.2.2.2 hs.rank;have hrn:=hs.rank.le
      have ML:Aside (NUML w0 a (L.take r)):=fun h0=>by
        obtain ⟨b,o,e,hl,hcc⟩:=HA.out.2.2.2.2.2.2.1 (by rw [List.length_take] at h0;omega);refine ⟨b,o,e,hl,fun i x hx=>hcc i x ?_⟩;rw [List.getElem?_take] at hx;split at hx
        · exact hx
        · cases hx
      have MR:Aside (NUML w0 a' (L.drop r)/\∀ x,a'=some x->x.block=bi/\x.spot=none):=by
        refine ⟨fun h0=>?_,fun x hx=>?_⟩
        · obtain ⟨b,o,e,hl,hcc⟩:=hs.lies h0
          obtain ⟨y,e2,e3⟩:=hs.block _ e;have hbb:b=bi:=by have:=(HA.out.2.2.2.2.2.1 _ e2).1;rw [<-e3] at this;exact this
          obtain ⟨k1,k2⟩:=NS.out.2.1 acc w1 S1.out;obtain ⟨b',o',e',hl',_⟩:=HA.out.2.2.2.2.2.2.1 (by rw [List.length_drop] at h0;omega);have hbi:bi<w0.heap.size:=by have h9:b'=bi:=(HA.out.2.2.2.2.2.1 _ e').1;omega
          subst hbb;exact ⟨b,o,e,hbi,fun i x hx=>(World.cell?_of_block (w:=w1) (by exact (k1 hbi).symm)).trans (hcc i x hx)⟩
        · obtain ⟨y,e2,e3⟩:=hs.block x hx
          refine ⟨by rw [e3];exact (HA.out.2.2.2.2.2.1 _ e2).1,hs.spot x hx⟩
      have S2:Aside (S acc w2):=NS.out.1 acc w1 w2 S1.out hs.below;have NL:Aside (a'=none->c - r=0):=hs.nil
      have SP:Aside (NEED (h+1) k L=NEED h (2*k) (L.take r) ++ NEED h (2*k+1) (L.drop r)/\r<=n/\acc.length+(NEED h (2*k) (L.take r)).length+(NEED h (2*k+1) (L.drop r)).length<=2 ^ 30):=by
        refine ⟨hsp,by have:=HA.out.1;omega,?_⟩;have h1:=HA.out.2.2.2.2.2.2.2.2.1;rw [hsp,List.length_append] at h1;omega
      clear hs hsp hrn S1;have c1:=IH.out (2*k) NS.out.2.2.1 (L.take r) a r c acc w2 (by rw [List.length_take];have:=SP.out.2.1;have:=HA.out.1;omega) (by have:=SP.out.2.1;have:=HA.out.2.1;omega) (HA.out.2.2.1.take r) (by have:=SP.out.2.1;have:=HA.out.2.2.2.1;omega) HA.out.2.2.2.2.1 HA.out.2.2.2.2.2.1 ML.out S2.out (by have:=SP.out.2.2;omega);go_wp2_with fail
      refine c1.mono ?_;rintro e w3 (⟨rfl,h3⟩ | ⟨pre,p,hp,rfl,h3⟩)
      · clear c1
        have c2:=IH.out (2*k+1) NS.out.2.2.2 (L.drop r) a' (n - r) (c - r) (acc ++ NEED h (2*k) (L.take r)) w3 (by rw [List.length_drop];have:=HA.out.1;omega) (by have:=HA.out.2.1;omega) (HA.out.2.2.1.drop r) (by have:=HA.out.2.2.2.1;omega) NL.out MR.out.2 MR.out.1 h3 (by rw [List.length_append];exact SP.out.2.2);have SQ:Aside (acc ++ NEED h (2*k) (L.take r) ++ NEED h (2*k+1) (L.drop r)=acc ++ NEED (h+1) k L):=show acc ++ NEED h (2*k) (L.take r) ++ NEED h (2*k+1) (L.drop r)=acc ++ NEED (h+1) k L by rw [SP.out.1,List.append_assoc]
        clear h3 IH HA NS ML MR S2 NL SP;go_wp2_with fail
        refine c2.mono ?_;rintro e w4 (⟨rfl,h4⟩ | ⟨pre,p,hp,rfl,h4⟩)
        · have FN:Aside (S (acc ++ NEED (h+1) k L) w4):=by rw [SQ.out] at h4;exact h4
          clear h4 c2 SQ;go_wp2_with fail
          exact bodyPost_end (v:=.tuple #[]) (by simp [results,Tryz.f115]) rfl (.inl ⟨rfl,FN.out⟩)
        · rw [SQ.out] at hp
          exact ⟨rfl,.inr ⟨pre,p,hp,rfl,h4⟩⟩
      · refine ⟨rfl,.inr ⟨pre,p,hp.trans ?_,rfl,h3⟩⟩
        rw [SP.out.1,<-List.append_assoc];exact List.prefix_append _ _
theorem zfd (bi CP:Nat) (S P:World->List Nat->World->Prop) (X:List PanicEntry)
  (hS:∀ w0 acc w w',S w0 acc w->Below w.heap.size w w'->S w0 acc w') (hB:∀ w0 acc w,S w0 acc w->(∀ b,b<w0.heap.size->b≠CP->w.heap[b]?=w0.heap[b]?)/\w0.heap.size<=w.heap.size)
  (ht:∀ w0 acc (p:Nat) w,S w0 acc w->acc.length<=2 ^ 30->Calls Tryz.prog 116 #[.int .u64 (p:Int),.pointer (some ⟨CP,0,none⟩)] w fun e w'=>(e=.returned (.tuple #[])/\S w0 (acc ++ [p]) w')\/(e=.panicked X/\P w0 acc w'))
  (N:Nat) (hN:N<=4611686018427387904) (L:List Nat) (a:Option Addr) (n c:Nat) (w:World) (hl:L.length=n) (hn:n<2 ^ 20) (hR:RISES L) (hc:n<=c) (hnil:a=none->c=0) (hbl:∀ x,a=some x->x.block=bi/\x.spot=none) (hL:NUML w a L) (hCb:bi≠CP) (hCP:CP<w.heap.size) (hT:Tabled w)
  (h0:∀ w1,Below w.heap.size w w1->S w1 [] w1):
  Calls Tryz.prog 83 #[.slice a n c,.int .u64 (N:Int),.func (.func 116) #[] #[.pointer (some ⟨CP,0,none⟩)]] w fun e w'=>∃ w1,Below w.heap.size w w1/\TOLD (S w1) (P w1) X [] (z0m (TPS N) L) e w':=by
 have cp:=z8x N hN w hT (by omega);have hPC:PC N<=64:=z2C 64 N (by omega);have hlen:=z2h (n:=N) (by omega);have hmost:=z2O (TPS N) L (fun p hp=>(z20 (n:=N) (by omega) (h:=p.1) (k:=p.2) hp).1);have HA:Aside (n<2 ^ 20/\N<=2 ^ 62/\PC N<=64/\(TPS N).length=PC N/\(z0m (TPS N) L).length<=2 ^ 30/\bi≠CP/\CP<w.heap.size):=⟨hn,by omega,hPC,hlen,by omega,hCb,hCP⟩
 have ST:Aside ((∀ w0 acc w w',S w0 acc w->Below w.heap.size w w'->S w0 acc w')/\(∀ w0 acc w,S w0 acc w->(∀ b,b<w0.heap.size->b≠CP->w.heap[b]?=w0.heap[b]?)/\w0.heap.size<=w.heap.size)):=⟨hS,hB⟩
 have HT:Aside (∀ w0 acc (p:Nat) w,S w0 acc w->acc.length<=2 ^ 30->Calls Tryz.prog 116 #[.int .u64 (p:Int),.pointer (some ⟨CP,0,none⟩)] w fun e w'=>(e=.returned (.tuple #[])/\S w0 (acc ++ [p]) w')\/(e=.panicked X/\P w0 acc w')):=ht;have LL:Aside (L.length=n/\RISES L/\n<=c/\(a=none->c=0)/\(∀ x,a=some x->x.block=bi/\x.spot=none)/\NUML w a L/\∀ w1,Below w.heap.size w w1->S w1 [] w1):=⟨hl,hR,hc,hnil,hbl,hL,h0⟩
 clear hN hl hn hR hc hnil hbl hL hCb hCP hT h0 hS hB ht hPC hlen hmost;go_enter Tryz.func83,Tryz.ntmps83;go_wp2_with fail
 refine cp.mono ?_;rintro e w1 ⟨g,cg,rfl,hown,hb1⟩;clear cp;obtain ⟨m,hm⟩:∃ m,PC N=m:=⟨_,rfl⟩
 rw [hm] at hown ⊢;have R1:Aside (w1.ownsRow w.heap.size 24 1 (.slice (some ⟨g,0,none⟩) m cg) m (z06 (z2L N))/\Below w.heap.size w w1/\PC N=m/\g≠CP/\g<w1.heap.size/\w.heap.size<=g):=⟨hown,hb1,hm,by have h1:=(hown.lt g rfl).1;have:=HA.out.2.2.2.2.2.2;omega,(hown.lt g rfl).2,(hown.lt g rfl).1⟩
 have L0:Aside (NUML w1 a L):=fun h0=>by
  obtain ⟨b,o,e,hl,hcc⟩:=LL.out.2.2.2.2.2.1 h0;exact ⟨b,o,e,Nat.lt_of_lt_of_le hl hb1.size,fun i x hx=>(hb1.cell (p:=⟨b,o+i,none⟩) hl).trans (hcc i x hx)⟩
 clear hown hb1 hm;go_wp2_with fail
 go_loopg [0,13] m (fun q s0 s13 wx=>∃ (j n' c':Nat) (a':Option Addr) (Lj told:List Nat),s0=.slice a' n' c'/\s13=.int .i64 (j:Int)/\Aside (j+q=m/\Lj.length=n'/\n'<=n/\RISES Lj/\n'<=c'/\(a'=none->c'=0)/\(∀ x,a'=some x->x.block=bi/\x.spot=none)/\NUML w1 a' Lj/\S w1 told wx/\z0m (TPS N) L=told ++ z0m ((TPS N).drop j) Lj))
 case atStart=>exact ⟨0,n,c,a,L,[],rfl,rfl,by omega,LL.out.1,Nat.le_refl _,LL.out.2.1,LL.out.2.2.1,LL.out.2.2.2.1,LL.out.2.2.2.2.1,L0.out,LL.out.2.2.2.2.2.2 w1 R1.out.2.1,by simp⟩
 case round=>
  obtain ⟨j,n',c',a',Lj,told,rfl,rfl,A⟩:=hrel;clear L0 LL;cases gk with
  | zero=>
    obtain rfl:j=m:=by have:=A.out.1;omega
    have hlt:¬ (j:Int)<(j:Int):=by omega
    have FN:Aside (∃ w1,Below w.heap.size w w1/\TOLD (S w1) (P w1) X [] (z0m (TPS N) L) (.returned (.tuple #[])) wr):=by
     obtain ⟨h1,h2,h3,h4,h5,h6,h7,h8,h9,h10⟩:=A.out;refine ⟨w1,R1.out.2.1,.inl ⟨rfl,?_⟩⟩;rw [List.drop_of_length_le (by have:=R1.out.2.2.1;have:=HA.out.2.2.2.1;omega)] at h10;rw [h10,z0m,List.append_nil,List.nil_append];exact h9
    clear A R1 ST HT HA;go_wp2_with fail
    exact bodyPost_end (v:=.tuple #[]) (by simp [results,Tryz.f83]) rfl FN.out
  | succ q=>
    have hlt:(j:Int)<(m:Int):=by have:=A.out.1;omega
    have hjm:j<(TPS N).length:=by have:=A.out.1;have:=R1.out.2.2.1;have:=HA.out.2.2.2.1;omega
    obtain ⟨⟨h,k⟩,ehk⟩:∃ s,(TPS N)[j]?=some s:=⟨_,List.getElem?_eq_getElem hjm⟩
    have hsp:=z20 HA.out.2.1 (List.mem_of_getElem? ehk);have epk:=z8T ehk;obtain ⟨k1,k2⟩:=ST.out.2 w1 told wr A.out.2.2.2.2.2.2.2.2.1
    have hcell:wr.cell? ⟨g,j,none⟩=some (.int .u64 ((PLC h k:Nat):Int)):=by
     have h1:=R1.out.1.cellAt j (by have:=A.out.1;omega);refine (World.cell?_of_block (w:=w1) (by exact k1 g R1.out.2.2.2.2.1 R1.out.2.2.2.1)).trans (h1.trans ?_);rw [z06,List.getElem?_map,epk];rfl
    have ej:wrap64 ((j:Int)+1)=((j+1:Nat):Int):=by have:=A.out.1;have:=R1.out.2.2.1;have:=HA.out.2.2.1;unfold wrap64;omega
    have hN1:NUML wr a' Lj:=fun h0=>by
     obtain ⟨b,o,e,hl,hcc⟩:=A.out.2.2.2.2.2.2.2.1 h0;have hbb:b=bi:=(A.out.2.2.2.2.2.2.1 _ e).1;exact ⟨b,o,e,by omega,fun i x hx=>(World.cell?_of_block (w:=w1) (by exact k1 b hl (by rw [hbb];exact HA.out.2.2.2.2.2.1))).trans (hcc i x hx)⟩
    have cs:=z4e h k hsp.2.2 a' n' c' Lj A.out.2.1 (by have:=A.out.2.2.1;have:=HA.out.1;omega) A.out.2.2.2.1 A.out.2.2.2.2.1 A.out.2.2.2.2.2.1 (fun x e=>(A.out.2.2.2.2.2.2.1 x e).2) wr hN1;have SP:Aside (Node h k/\(TPS N)[j]?=some (h,k)/\j<(TPS N).length):=⟨hsp.2.2,ehk,hjm⟩
    clear hsp ehk epk k1 k2 hN1 hjm;go_wp2_with fail
    refine cs.mono ?_;rintro e w2 ⟨r,a2,rfl,hs⟩;clear cs hcell;have hdrop:(TPS N).drop j=(h,k) :: (TPS N).drop (j+1):=z6P SP.out.2.1;have hneed:=z6n ((TPS N).drop (j+1)) hs.rank;rw [<-hdrop] at hneed;have hrn:=hs.rank.le;have S2:S w1 told w2:=ST.out.1 w1 told wr w2 A.out.2.2.2.2.2.2.2.2.1 hs.below
    have MR:Aside (NUML w1 a2 (Lj.drop r)/\(∀ x,a2=some x->x.block=bi/\x.spot=none)/\(a2=none->c' - r=0)/\r<=n'/\NUML w1 a' (Lj.take r)/\z0m ((TPS N).drop j) Lj=NEED h k (Lj.take r) ++ z0m ((TPS N).drop (j+1)) (Lj.drop r)):=by
     refine ⟨fun h0=>?_,fun x hx=>?_,hs.nil,by have:=A.out.2.1;omega,fun h0=>?_,hneed⟩
     ·obtain ⟨b,o,e,hl,hcc⟩:=hs.lies h0
      obtain ⟨y,e2,e3⟩:=hs.block _ e;have hbb:b=bi:=by have:=(A.out.2.2.2.2.2.2.1 _ e2).1;rw [<-e3] at this;exact this
      obtain ⟨k1,k2⟩:=ST.out.2 w1 told wr A.out.2.2.2.2.2.2.2.2.1;obtain ⟨b',o',e',hl',_⟩:=A.out.2.2.2.2.2.2.2.1 (by rw [List.length_drop] at h0;omega);have hbi:bi<w1.heap.size:=by have h9:b'=bi:=(A.out.2.2.2.2.2.2.1 _ e').1;omega
      subst hbb;exact ⟨b,o,e,hbi,fun i x hx=>(World.cell?_of_block (w:=wr) (by exact (k1 b hbi HA.out.2.2.2.2.2.1).symm)).trans (hcc i x hx)⟩
     ·obtain ⟨y,e2,e3⟩:=hs.block x hx
      exact ⟨by rw [e3];exact (A.out.2.2.2.2.2.2.1 _ e2).1,hs.spot x hx⟩
     ·obtain ⟨b,o,e,hl,hcc⟩:=A.out.2.2.2.2.2.2.2.1 (by rw [List.length_take] at h0;omega)
      refine ⟨b,o,e,hl,fun i x hx=>hcc i x ?_⟩;rw [List.getElem?_take] at hx;split at hx
      ·exact hx
      ·cases hx
    have TL:Aside (told.length+(NEED h k (Lj.take r)).length<=2 ^ 30/\z0m (TPS N) L=told ++ NEED h k (Lj.take r) ++ z0m ((TPS N).drop (j+1)) (Lj.drop r)):=by
     have h1:=A.out.2.2.2.2.2.2.2.2.2;rw [MR.out.2.2.2.2.2,<-List.append_assoc] at h1;refine ⟨?_,h1⟩;have h2:=HA.out.2.2.2.2.1;rw [h1,List.length_append,List.length_append] at h2;omega
    have cu:=zdx w1 bi CP (S w1) (P w1) X (ST.out.1 w1) (fun acc w hw=>⟨fun hbi=>(ST.out.2 w1 acc w hw).1 bi hbi HA.out.2.2.2.2.2.1,(ST.out.2 w1 acc w hw).2⟩) (HT.out w1) h k SP.out.1 (Lj.take r) a' r c' told w2 (by rw [List.length_take];have:=A.out.2.1;have:=MR.out.2.2.2.1;omega) (by have:=MR.out.2.2.2.1;have:=A.out.2.2.1;have:=HA.out.1;omega) (A.out.2.2.2.1.take r) (by have:=MR.out.2.2.2.1;have:=A.out.2.2.2.2.1;omega) A.out.2.2.2.2.2.1 A.out.2.2.2.2.2.2.1 MR.out.2.2.2.2.1 S2 TL.out.1;clear hs hdrop hneed hrn S2;go_wp2_with fail
    refine cu.mono ?_;rintro e w3 (⟨rfl,h3⟩ | ⟨pre,p,hp,rfl,h3⟩)
    ·have Z:Aside (j+1+q=m/\(Lj.drop r).length=n' - r/\n' - r<=n/\RISES (Lj.drop r)/\n' - r<=c' - r/\(a2=none->c' - r=0)/\(∀ x,a2=some x->x.block=bi/\x.spot=none)/\NUML w1 a2 (Lj.drop r)/\S w1 (told ++ NEED h k (Lj.take r)) w3/\z0m (TPS N) L=(told ++ NEED h k (Lj.take r)) ++ z0m ((TPS N).drop (j+1)) (Lj.drop r)):=by
      obtain ⟨h1,h2,_,h4,h5,_⟩:=A.out;refine ⟨by clear ej;omega,by rw [List.length_drop,h2],by have:=A.out.2.2.1;clear ej;omega,h4.drop r,by clear ej;omega,MR.out.2.2.1,MR.out.2.1,MR.out.1,h3,TL.out.2⟩
     clear h3 cu A MR TL SP R1;go_wp2_with fail
     go_roundg q
     case measure=>exact Nat.lt_succ_self _
     case rel=>exact ⟨j+1,n' - r,c' - r,a2,Lj.drop r,told ++ NEED h k (Lj.take r),rfl,by first | rfl | (rw [ej]),Z.out⟩
    ·refine ⟨rfl,w1,R1.out.2.1,.inr ⟨pre,p,hp.trans ?_,rfl,h3⟩⟩
     rw [List.nil_append,TL.out.2];exact List.prefix_append _ _
structure COUNTING (K:Nat) (w0 w:World) (bl:Nat) (acc:List Nat):Prop where
 le:acc.length<=K
 row:Has w bl #[.int .i64 ((K - acc.length:Nat):Int)] 3
 keep:∀ b,b<w0.heap.size->b≠bl->w.heap[b]?=w0.heap[b]?
 lt:bl<w0.heap.size
 below:Below bl w0 w
theorem COUNTING.still {K:Nat} {w0 w w':World} {bl:Nat} {acc:List Nat} (h:COUNTING K w0 w bl acc) (hb:Below w.heap.size w w'):COUNTING K w0 w' bl acc:=by
 have hs:=h.below.size;have hlt:=h.lt;exact ⟨h.le,h.row.keep hb,fun b hb0 hne=>(hb.block b (by omega)).trans (h.keep b hb0 hne),hlt,h.below.trans (hb.mono (by omega))⟩
theorem zfe {K:Nat} {w0 w:World} {bl:Nat} {acc:List Nat} (hK20:K<2 ^ 20) (hK:COUNTING K w0 w bl acc) (p:Int):Calls Tryz.prog 116 #[.int .u64 p,.pointer (some ⟨bl,0,none⟩)] w fun e w'=>(e=.returned (.tuple #[])/\∀ x,COUNTING K w0 w' bl (acc ++ [x]))\/(e=.panicked (z2P 70)/\acc.length=K/\COUNTING K w0 w' bl acc):=by
 obtain ⟨r,hr⟩:∃ r,K - acc.length=r:=⟨_,rfl⟩
 have c0:=hK.row.cell 0;have f0:=hK.row.frozen 0;rw [hr] at c0;have c0:w.cell? ⟨bl,0,none⟩=some (.int .i64 (r:Int)):=c0;have HA:Aside (COUNTING K w0 w bl acc/\K - acc.length=r/\K<2 ^ 20):=⟨hK,hr,hK20⟩
 clear hK hr hK20;rcases Nat.eq_zero_or_pos r with h0 | h0
 ·subst h0
  go_enter Tryz.func116,Tryz.ntmps116;go_wp2_with fail
  exact ⟨rfl,.inr ⟨rfl,by have:=HA.out.1.le;have:=HA.out.2.1;omega,HA.out.1⟩⟩
 ·have hz:((r:Int) == 0)=false:=beq_eq_false_iff_ne.2 (by omega)
  have e1:wrap64 ((r:Int) - 1)=((r - 1:Nat):Int):=by have:=HA.out.2.1;have:=HA.out.2.2;unfold wrap64;omega
  have FN:Aside (∀ x,COUNTING K w0 (w.setCell ⟨bl,0,none⟩ (.int .i64 ((r - 1:Nat):Int))) bl (acc ++ [x])):=fun x=>by
   have h1:=HA.out.1;have h2:=HA.out.2.1;refine ⟨by rw [List.length_append];simp;clear e1;omega,?_,fun b hb hne=>(Below.heap_setCell _ _ _ _ (by exact hne)).trans (h1.keep b hb hne),h1.lt,h1.below.setCell (p:=⟨bl,0,none⟩) (Nat.le_refl _) _⟩;have h3:=h1.row.set 0 (.int .i64 ((r - 1:Nat):Int));rw [List.length_append,show K - (acc.length+[x].length)=r - 1 by simp;clear e1;omega];exact h3
  clear HA;generalize r - 1=r' at *
  go_enter Tryz.func116,Tryz.ntmps116;go_wp2_with fail
  exact bodyPost_end (v:=.tuple #[]) (by simp [results,Tryz.f116]) rfl (.inl ⟨rfl,FN.out⟩)
def MWA (L:List Nat) (N K:Nat):Int:=if z0h L N≠0 then z0h L N else if K≠(z0m (TPS N) L).length then 70 else 0
theorem zhg {L:List Nat} {N K:Nat} (h:MWA L N K=0):z0h L N=0/\K=(z0m (TPS N) L).length:=by
 unfold MWA at h;split at h
 ·rename_i h1;exact absurd h h1
 ·rename_i h1
  split at h
  ·cases h
  ·rename_i h2
   exact ⟨by simpa using h1,by simpa using h2⟩
theorem z8Y {L:List Nat} {N K:Nat} (h:z0h L N≠0):MWA L N K=z0h L N:=if_pos h
theorem z7u {L:List Nat} {N K:Nat} (h:z0h L N=0) (hk:K≠(z0m (TPS N) L).length):MWA L N K=70:=by
 unfold MWA;rw [if_neg (by simpa using h),if_pos hk]
theorem zgr {L:List Nat} {N K:Nat} (h:z0h L N=0) (hk:K=(z0m (TPS N) L).length):MWA L N K=0:=by
 unfold MWA;rw [if_neg (by simpa using h),if_neg (by simpa using hk)]
def zc2 (L:List Nat) (N K:Nat) (w:World) (e:Ending) (w':World):Prop:=Below w.heap.size w w'/\((MWA L N K=0/\e=.returned (.tuple #[]))\/(MWA L N K≠0/\e=.panicked (z2P (MWA L N K))))
theorem z8Z (L:List Nat) (N:Nat) (a:Option Addr) (m c:Nat) (an:Option Addr) (K cn:Nat) (w:World) (hl:L.length=m) (hm:m<2 ^ 20) (hc:m<=c) (hnil:a=none->c=0) (hbl:∀ x,a=some x->x.block<w.heap.size/\x.spot=none) (hK:K<2 ^ 20) (hL:NUML w a L) (hT:Tabled w) (hw0:0<w.heap.size):
  Calls Tryz.prog 86 #[.agg (MBOX N a m c an K cn)] w (zc2 L N K w):=by
 have hmf:∀ (fn:Fn) (first cap:Array Value) (w:World),(Instr.makeFunc fn first cap).run Tryz.prog w=.ok (.func fn first cap) w:=fun _ _ _ _=>rfl;obtain ⟨w1,e1⟩:∃ w1,w.alloc (.cells (MBOX N a m c an K cn) 60)=w1:=⟨_,rfl⟩
 have s1:w1.heap.size=w.heap.size+1:=by rw [<-e1];simp
 have h1:Has w1 w.heap.size (MBOX N a m c an K cn) 60:=by rw [<-e1];exact Has.new w _ _
 have hb1:Below w.heap.size w w1:=by rw [<-e1];exact (Below.refl _ _).alloc (Nat.le_refl _) _
 have hL1:NUML w1 a L:=fun hp=>by
  obtain ⟨b,o,e,hlt,hcc⟩:=hL hp;exact ⟨b,o,e,by omega,fun i x hx=>(hb1.cell (p:=⟨b,o+i,none⟩) hlt).trans (hcc i x hx)⟩
 have hM:(MBOX N a m c an K cn)=#[.int .u64 (N:Int),.slice a m c,.slice an K cn]:=rfl;have cr:=z5s L N a m c hl (by omega) w1 hL1;have x0:=h1.cell 0;have x1:=h1.cell 1;have x2:=h1.cell 2;rw [hM] at e1 x0 x1 x2;have HA:Aside (L.length=m/\m<2 ^ 20/\m<=c/\(a=none->c=0)/\(∀ x,a=some x->x.block<w.heap.size/\x.spot=none)/\K<2 ^ 20/\NUML w1 a L/\Tabled w1/\w1.heap.size=w.heap.size+1/\Has w1 w.heap.size (MBOX N a m c an K cn) 60/\Below w.heap.size w w1):=⟨hl,hm,hc,hnil,hbl,hK,hL1,hT.below hw0 hb1,s1,h1,hb1⟩
 clear hl hm hc hnil hbl hK hL hT hw0 s1 hb1 hL1;go_enter Tryz.func86,Tryz.ntmps86;rw [hM];go_wp2_with fail
 refine cr.mono ?_;rintro e w2 ⟨rfl,(⟨hr,rfl⟩ | ⟨hr,rfl⟩)⟩
 ·clear cr
  obtain ⟨r1,r2,r3⟩:=z2t hr;obtain ⟨w3,e3⟩:∃ w3,w1.alloc (.cells #[.int .i64 (K:Int)] 3)=w3:=⟨_,rfl⟩
  have s3:w3.heap.size=w.heap.size+2:=by rw [<-e3];simp;have:=HA.out.2.2.2.2.2.2.2.2.1;omega
  have h3:Has w3 w1.heap.size #[.int .i64 (K:Int)] 3:=by rw [<-e3];exact Has.new w1 _ _
  have hb3:Below w1.heap.size w1 w3:=by rw [<-e3];exact (Below.refl _ _).alloc (Nat.le_refl _) _
  have y0:w3.cell? ⟨w.heap.size,0,none⟩=some (.int .u64 (N:Int)):=(h1.keep hb3).cell 0;have y1:w3.cell? ⟨w.heap.size,1,none⟩=some (.slice a m c):=(h1.keep hb3).cell 1
  obtain ⟨bj,hbj,hbn⟩:∃ bj,(∀ x,a=some x->x.block=bj/\x.spot=none)/\bj≠w1.heap.size:=by
   have hs:=HA.out.2.2.2.2.2.2.2.2.1;cases a with
   | none=>exact ⟨w1.heap.size+1,fun x e=>(by cases e),by omega⟩
   | some x=>exact ⟨x.block,fun y e=>(by cases e;exact ⟨rfl,(HA.out.2.2.2.2.1 x rfl).2⟩),by have:=(HA.out.2.2.2.2.1 x rfl).1;omega⟩
  have hL3:NUML w3 a L:=fun hp=>by
   obtain ⟨b,o,e,hlt,hcc⟩:=HA.out.2.2.2.2.2.2.1 hp;exact ⟨b,o,e,Nat.lt_of_lt_of_le hlt hb3.size,fun i x hx=>(hb3.cell (p:=⟨b,o+i,none⟩) hlt).trans (hcc i x hx)⟩
  have cn:=zfd bj w1.heap.size (fun w0 acc w=>COUNTING K w0 w w1.heap.size acc) (fun w0 acc w=>acc.length=K/\COUNTING K w0 w w1.heap.size acc) (z2P 70) (fun w0 acc w w' h hb=>h.still hb) (fun w0 acc w h=>⟨fun b hb hne=>h.keep b hb hne,h.below.size⟩) (fun w0 acc p w h _=>(zfe HA.out.2.2.2.2.2.1 h (p:Int)).mono fun e w' hh=>hh.imp (fun x=>⟨x.1,x.2 p⟩) (fun x=>⟨x.1,x.2⟩)) N r1 L a m c w3 HA.out.1 HA.out.2.1 r2 HA.out.2.2.1 HA.out.2.2.2.1 hbj hL3 hbn h3.lt (HA.out.2.2.2.2.2.2.2.1.below (by have:=HA.out.2.2.2.2.2.2.2.2.1;omega) hb3)
   (fun w4 hb=>⟨Nat.zero_le _,h3.keep hb,fun b _ _=>rfl,(h3.keep hb).lt,Below.refl _ _⟩)
  have HR:Aside (z0h L N=0/\Below w1.heap.size w1 w3/\K<2 ^ 20):=⟨hr,hb3,HA.out.2.2.2.2.2.1⟩
  have BW:Aside (Below w.heap.size w w1):=HA.out.2.2.2.2.2.2.2.2.2.2;clear r1 r2 r3 hbj hbn hr hL3 s3 h3 HA h1 hb3;go_wp2_with fail
  refine cn.mono ?_;rintro e w5 ⟨w4,hb4,(⟨rfl,ht⟩ | ⟨pre,p,hpre,rfl,hp1,hp2⟩)⟩
  ·clear cn
   rw [List.nil_append] at ht;have z0:=ht.row.cell 0;obtain ⟨r,hrr⟩:∃ r,K - (z0m (TPS N) L).length=r:=⟨_,rfl⟩
   rw [hrr] at z0;have z0:w5.cell? ⟨w1.heap.size,0,none⟩=some (.int .i64 (r:Int)):=z0
   have hbW:Below w.heap.size w w5:=by
    have h34:Below w1.heap.size w1 w4:=HR.out.2.1.trans (hb4.mono HR.out.2.1.size);have h1w:Below w.heap.size w w4:=BW.out.trans (h34.mono BW.out.size);exact h1w.trans (ht.below.mono BW.out.size)
   have hle:=ht.le;rcases Nat.eq_zero_or_pos r with h0 | h0
   ·subst h0
    have FN:Aside (zc2 L N K w (.returned (.tuple #[])) w5):=⟨hbW,.inl ⟨zgr HR.out.1 (by omega),rfl⟩⟩
    clear ht hbW hb4 hle hrr HR BW;go_wp2_with fail
    exact bodyPost_end (v:=.tuple #[]) (by simp [results,Tryz.f86]) rfl FN.out
   ·have hgt:(0:Int)<(r:Int):=by omega
    have hm7:=z7u (K:=K) HR.out.1 (by omega);have FN:Aside (zc2 L N K w (.panicked (z2P 70)) w5):=⟨hbW,.inr ⟨by rw [hm7];decide,by rw [hm7]⟩⟩
    clear ht hbW hb4 hle hrr HR BW hm7;go_wp2_with fail
    exact ⟨rfl,FN.out⟩
  ·have hbW:Below w.heap.size w w5:=by
    have h34:Below w1.heap.size w1 w4:=HR.out.2.1.trans (hb4.mono HR.out.2.1.size);have h1w:Below w.heap.size w w4:=BW.out.trans (h34.mono BW.out.size);exact h1w.trans (hp2.below.mono BW.out.size)
   have hlen:=hpre.length_le;rw [List.nil_append,List.length_append,hp1] at hlen;have hm7:=z7u (K:=K) HR.out.1 (by simp at hlen;omega);exact ⟨rfl,hbW,.inr ⟨by rw [hm7];decide,by rw [hm7]⟩⟩
 ·refine ⟨rfl,HA.out.2.2.2.2.2.2.2.2.2.2,.inr ⟨?_,?_⟩⟩
  ·rw [z8Y hr];exact hr
  ·rw [z8Y hr]
theorem z3s (p:Addr) (y x:Int) (older:List PanicEntry) (w:World) (hc:w.cell? p=some (.int .i64 y)) (hz:w.frozen? p=false):
  CallsD Tryz.prog 113 #[.pointer (some p)] (.panicking ({v:=.iface 157 (.int .i64 x),recovered:=false} :: older)) w fun e u' w'=>
   e=.returned (.tuple #[])/\u'=.panicking ({v:=.iface 157 (.int .i64 x),recovered:=true} :: older)/\w'=w.setCell p (.int .i64 x):=by
 have hta:∀ (t:TypeId) (w:World),(Instr.typeAssert (.iface 157 (.int .i64 x)) t 157 false).run Tryz.prog w=.ok (.int .i64 x) w:=fun t w=>by rfl
 refine callsD_of_wpS Tryz.func113 rfl fun c₀ cs hu=>?_;apply wpS_seq;apply wpS_region;simp [wpOpsS,go_sem,recoverD,hu,Tryz.ntmps113,Exit.thenS];refine wpS_of_wp ?_;simp [Array.replicate];go_wp2;simp [bodyPostS,results,Tryz.results113]
theorem z6o (p:Addr) (w:World):
  CallsD Tryz.prog 113 #[.pointer (some p)] .returning w fun e u' w'=>e=.returned (.tuple #[])/\u'=.returning/\w'=w:=by
 refine callsD_of_wpS Tryz.func113 rfl fun c₀ cs hu=>?_;apply wpS_seq;apply wpS_region;simp [wpOpsS,go_sem,recoverD,hu,Tryz.ntmps113,Exit.thenS];refine wpS_of_wp ?_;simp [Array.replicate];go_wp2;cases c₀;simp_all [bodyPostS,results,Tryz.results113]
end Go.Proofs.YthmnailmbgondaaGreatDoor
