/- ManyClashes: part 26. -/
import Derived.Test.YtobaogpomcocpaaGreatDoorManyClashesP25
set_option maxRecDepth 100000
set_option maxHeartbeats 8000000
open Go.RowKit
namespace Go.Proofs.YtobaogpomcocpaaGreatDoor
theorem mT(w0:World)(bi:Nat)(CP QB:Nat)(S P:List Nat->World->Prop)(X:List PanicEntry)
    (hS:∀ acc w w',S acc w->Below w.heap.size w w'->S acc w')(hB:∀ acc w,S acc w->(bi<w0.heap.size->w.heap[bi]?=w0.heap[bi]?)/\w0.heap.size<=w.heap.size)
    (ht:∀ acc (p:Nat) w,S acc w->acc.length<=2 ^ 30->Calls Tryz.prog 105 #[.int .u64 (p:Int),.pointer (some ⟨CP,0,none⟩),.pointer (some ⟨QB,0,none⟩)] w fun e w'=>(e=.returned (.tuple #[])/\S (acc ++ [p]) w')\/(e=.panicked X/\P acc w')):
    ∀ (h k:Nat),Node h k->∀ (L:List Nat) (a:Option Addr) (n c:Nat) (acc:List Nat) (w:World),L.length=n->n<2 ^ 40->RISES L->n<=c->(a=none->c=0)->(∀ x,a=some x->x.block=bi/\x.spot=none)->NUML w0 a L->S acc w->acc.length+(NEED h k L).length<=2 ^ 30->
    Calls Tryz.prog 86 #[.int .u64 ((PLC h k:Nat):Int),.slice a n c,.func (.func 105) #[] #[.pointer (some ⟨CP,0,none⟩),.pointer (some ⟨QB,0,none⟩)]] w (TOLD S P X acc (NEED h k L)):=by
  intro h;induction h with
  | zero=>
    intro k hN L a n c acc w hl hn hR hc hnil hbl hL hw hlen;cases L with
    | nil=>
      obtain rfl:n=0:=by simpa using hl.symm
      rw[yh] at hlen ⊢;have ct:=ht acc (PLC 0 k) w hw (by simp at hlen;omega);clear hl hn hR hc hnil hbl hL hw hlen ht hS hB;go_enter Tryz.func86,Tryz.ntmps86;go_wp2_with fail
      refine ct.mono ?_;rintro e w1 (⟨rfl,h1⟩ | ⟨rfl,h1⟩)
      · clear ct
        have FN:Aside (S (acc ++ [PLC 0 k]) w1):=h1;clear h1;go_wp2_with fail
        exact bodyPost_ret (v:=.tuple #[]) (by simp[results,Tryz.f86]) rfl (.inl ⟨rfl,FN.out⟩)
      · exact⟨rfl,.inr ⟨acc,PLC 0 k,List.prefix_refl _,rfl,h1⟩⟩
    | cons x l=>
      have hn0:((n:Int) == 0)=false:=beq_eq_false_iff_ne.2 (by simp at hl;omega);have ck:=jl ((PLC 0 k:Nat):Int) k w (.node hN);have HS:Aside (∀ w',Below w.heap.size w w'->S (acc ++ []) w'):=fun w' hb=>by rw[List.append_nil];exact hS acc w w' hw hb
      clear hl hn hR hc hnil hbl hL hw hlen ht hS hB;go_enter Tryz.func86,Tryz.ntmps86;go_wp2_with fail
      refine ck.mono ?_;rintro e w1 ⟨rfl,h1⟩;clear ck;have FN:Aside (S (acc ++ []) w1):=HS.out w1 h1;clear h1 HS;go_wp2_with fail
      exact bodyPost_ret (v:=.tuple #[]) (by simp[results,Tryz.f86]) rfl (.inl ⟨rfl,FN.out⟩)
  | succ h ih=>
    intro k hN L a n c acc w hl hn hR hc hnil hbl hL hw hlen;by_cases hLe:L=[]
    · subst hLe
      obtain rfl:n=0:=by simpa using hl.symm
      rw[yh] at hlen ⊢;have ct:=ht acc (PLC (h+1) k) w hw (by simp at hlen;omega);clear hl hn hR hc hnil hbl hL hw hlen ht hS hB ih;go_enter Tryz.func86,Tryz.ntmps86;go_wp2_with fail
      refine ct.mono ?_;rintro e w1 (⟨rfl,h1⟩ | ⟨rfl,h1⟩)
      · clear ct
        have FN:Aside (S (acc ++ [PLC (h+1) k]) w1):=h1;clear h1;go_wp2_with fail
        exact bodyPost_ret (v:=.tuple #[]) (by simp[results,Tryz.f86]) rfl (.inl ⟨rfl,FN.out⟩)
      · exact⟨rfl,.inr ⟨acc,PLC (h+1) k,List.prefix_refl _,rfl,h1⟩⟩
    · have hn0:((n:Int) == 0)=false:=beq_eq_false_iff_ne.2 (by have:=List.length_pos_iff.2 hLe;omega)
      obtain⟨hNl,hNr⟩:=hN.kid;have ck:=jE h k hN w;have HA:Aside (L.length=n/\n<2 ^ 40/\RISES L/\n<=c/\(a=none->c=0)/\(∀ x,a=some x->x.block=bi/\x.spot=none)/\NUML w0 a L/\S acc w/\acc.length+(NEED (h+1) k L).length<=2 ^ 30/\L≠[]):=⟨hl,hn,hR,hc,hnil,hbl,hL,hw,hlen,hLe⟩
      have NS:Aside ((∀ acc w w',S acc w->Below w.heap.size w w'->S acc w')/\(∀ acc w,S acc w->(bi<w0.heap.size->w.heap[bi]?=w0.heap[bi]?)/\w0.heap.size<=w.heap.size)/\Node h (2*k)/\Node h (2*k+1)):=⟨hS,hB,hNl,hNr⟩
      have IH:Aside _:=ih;clear hl hn hR hc hnil hbl hL hw hlen ht hS hB ih hNl hNr hLe;go_enter Tryz.func86,Tryz.ntmps86;go_wp2_with fail
      refine ck.mono ?_;rintro e w1 ⟨rfl,hb1⟩;clear ck;have S1:Aside (S acc w1):=NS.out.1 acc w w1 HA.out.2.2.2.2.2.2.2.1 hb1
      have hN1:NUML w1 a L:=fun h0=>by
        obtain⟨b,o,e,hl,hcc⟩:=HA.out.2.2.2.2.2.2.1 h0;have hbb:b=bi:=(HA.out.2.2.2.2.2.1 _ e).1;obtain⟨k1,k2⟩:=NS.out.2.1 acc w1 S1.out;subst hbb;exact⟨b,o,e,by omega,fun i x hx=>(World.cell?_of_block (w:=w0) (by exact k1 hl)).trans (hcc i x hx)⟩
      have cs:=yU h (2*k) NS.out.2.2.1 a n c L HA.out.1 HA.out.2.1 HA.out.2.2.1 HA.out.2.2.2.1 HA.out.2.2.2.2.1 (fun x e=>(HA.out.2.2.2.2.2.1 x e).2) w1 hN1;clear hb1 hN1;go_wp2_with fail
      refine cs.mono ?_;rintro e w2 ⟨r,a',rfl,hs⟩;clear cs;have hsp:NEED (h+1) k L=NEED h (2*k) (L.take r) ++ NEED h (2*k+1) (L.drop r):=xR HA.out.2.2.2.2.2.2.2.2.2 hs.rank;have hrn:=hs.rank.le
      have ML:Aside (NUML w0 a (L.take r)):=fun h0=>by
        obtain⟨b,o,e,hl,hcc⟩:=HA.out.2.2.2.2.2.2.1 (by rw[List.length_take] at h0;omega);refine⟨b,o,e,hl,fun i x hx=>hcc i x ?_⟩;rw[List.getElem?_take] at hx;split at hx
        · exact hx
        · cases hx
      have MR:Aside (NUML w0 a' (L.drop r)/\∀ x,a'=some x->x.block=bi/\x.spot=none):=by
        refine⟨fun h0=>?_,fun x hx=>?_⟩
        · obtain⟨b,o,e,hl,hcc⟩:=hs.lies h0
          obtain⟨y,e2,e3⟩:=hs.block _ e;have hbb:b=bi:=by have:=(HA.out.2.2.2.2.2.1 _ e2).1;rw[<-e3] at this;exact this
          obtain⟨k1,k2⟩:=NS.out.2.1 acc w1 S1.out;obtain⟨b',o',e',hl',_⟩:=HA.out.2.2.2.2.2.2.1 (by rw[List.length_drop] at h0;omega);have hbi:bi<w0.heap.size:=by have h9:b'=bi:=(HA.out.2.2.2.2.2.1 _ e').1;omega
          subst hbb;exact⟨b,o,e,hbi,fun i x hx=>(World.cell?_of_block (w:=w1) (by exact(k1 hbi).symm)).trans (hcc i x hx)⟩
        · obtain⟨y,e2,e3⟩:=hs.block x hx
          refine⟨by rw[e3];exact(HA.out.2.2.2.2.2.1 _ e2).1,hs.spot x hx⟩
      have S2:Aside (S acc w2):=NS.out.1 acc w1 w2 S1.out hs.below;have NL:Aside (a'=none->c - r=0):=hs.nil
      have SP:Aside (NEED (h+1) k L=NEED h (2*k) (L.take r) ++ NEED h (2*k+1) (L.drop r)/\r<=n/\acc.length+(NEED h (2*k) (L.take r)).length+(NEED h (2*k+1) (L.drop r)).length<=2 ^ 30):=by
        refine⟨hsp,by have:=HA.out.1;omega,?_⟩;have h1:=HA.out.2.2.2.2.2.2.2.2.1;rw[hsp,List.length_append] at h1;omega
      clear hs hsp hrn S1;have c1:=IH.out (2*k) NS.out.2.2.1 (L.take r) a r c acc w2 (by rw[List.length_take];have:=SP.out.2.1;have:=HA.out.1;omega) (by have:=SP.out.2.1;have:=HA.out.2.1;omega) (HA.out.2.2.1.take r) (by have:=SP.out.2.1;have:=HA.out.2.2.2.1;omega) HA.out.2.2.2.2.1 HA.out.2.2.2.2.2.1 ML.out S2.out (by have:=SP.out.2.2;omega);go_wp2_with fail
      refine c1.mono ?_;rintro e w3 (⟨rfl,h3⟩ | ⟨pre,p,hp,rfl,h3⟩)
      · clear c1
        have c2:=IH.out (2*k+1) NS.out.2.2.2 (L.drop r) a' (n - r) (c - r) (acc ++ NEED h (2*k) (L.take r)) w3 (by rw[List.length_drop];have:=HA.out.1;omega) (by have:=HA.out.2.1;omega) (HA.out.2.2.1.drop r) (by have:=HA.out.2.2.2.1;omega) NL.out MR.out.2 MR.out.1 h3 (by rw[List.length_append];exact SP.out.2.2);have SQ:Aside (acc ++ NEED h (2*k) (L.take r) ++ NEED h (2*k+1) (L.drop r)=acc ++ NEED (h+1) k L):=show acc ++ NEED h (2*k) (L.take r) ++ NEED h (2*k+1) (L.drop r)=acc ++ NEED (h+1) k L by rw[SP.out.1,List.append_assoc]
        clear h3 IH HA NS ML MR S2 NL SP;go_wp2_with fail
        refine c2.mono ?_;rintro e w4 (⟨rfl,h4⟩ | ⟨pre,p,hp,rfl,h4⟩)
        · have FN:Aside (S (acc ++ NEED (h+1) k L) w4):=by rw[SQ.out] at h4;exact h4
          clear h4 c2 SQ;go_wp2_with fail
          exact bodyPost_end (v:=.tuple #[]) (by simp[results,Tryz.f86]) rfl (.inl ⟨rfl,FN.out⟩)
        · rw[SQ.out] at hp
          exact⟨rfl,.inr ⟨pre,p,hp,rfl,h4⟩⟩
      · refine⟨rfl,.inr ⟨pre,p,hp.trans ?_,rfl,h3⟩⟩
        rw[SP.out.1,<-List.append_assoc];exact List.prefix_append _ _
theorem z0x(bi CP QB RB:Nat)(S P:World->List Nat->World->Prop)(X:List PanicEntry)
  (hS:∀ w0 acc w w',S w0 acc w->Below w.heap.size w w'->S w0 acc w')(hB:∀ w0 acc w,S w0 acc w->(∀ b,b<w0.heap.size->b≠CP->b≠RB->w.heap[b]?=w0.heap[b]?)/\w0.heap.size<=w.heap.size)
  (ht:∀ w0 acc (p:Nat) w,S w0 acc w->acc.length<=2 ^ 30->Calls Tryz.prog 105 #[.int .u64 (p:Int),.pointer (some ⟨CP,0,none⟩),.pointer (some ⟨QB,0,none⟩)] w fun e w'=>(e=.returned (.tuple #[])/\S w0 (acc ++ [p]) w')\/(e=.panicked X/\P w0 acc w'))
  (N:Nat)(hN:N<=4611686018427387904)(L:List Nat)(a:Option Addr)(n c:Nat)(w:World)(hl:L.length=n)(hn:n<2 ^ 20)(hR:RISES L)(hc:n<=c)(hnil:a=none->c=0)(hbl:∀ x,a=some x->x.block=bi/\x.spot=none)(hL:NUML w a L)(hCb:bi≠CP/\bi≠RB)(hCP:CP<w.heap.size/\RB<w.heap.size)(hT:Tabled w)
  (h0:∀ w1,Below w.heap.size w w1->S w1 [] w1):
  Calls Tryz.prog 52 #[.slice a n c,.int .u64 (N:Int),.func (.func 105) #[] #[.pointer (some ⟨CP,0,none⟩),.pointer (some ⟨QB,0,none⟩)]] w fun e w'=>∃ w1,Below w.heap.size w w1/\TOLD (S w1) (P w1) X [] (zc (TPS N) L) e w':=by
 have cp:=jv N hN w hT (by omega);have hPC:PC N<=64:=yC 64 N (by omega);have hlen:=yR (n:=N) (by omega);have hmost:=jh (TPS N) L (fun p hp=>(yu (n:=N) (by omega) (h:=p.1) (k:=p.2) hp).1);have HA:Aside (n<2 ^ 20/\N<=2 ^ 62/\PC N<=64/\(TPS N).length=PC N/\(zc (TPS N) L).length<=2 ^ 30/\(bi≠CP/\bi≠RB)/\(CP<w.heap.size/\RB<w.heap.size)):=⟨hn,by omega,hPC,hlen,by omega,hCb,hCP⟩
 have ST:Aside ((∀ w0 acc w w',S w0 acc w->Below w.heap.size w w'->S w0 acc w')/\(∀ w0 acc w,S w0 acc w->(∀ b,b<w0.heap.size->b≠CP->b≠RB->w.heap[b]?=w0.heap[b]?)/\w0.heap.size<=w.heap.size)):=⟨hS,hB⟩
 have HT:Aside (∀ w0 acc (p:Nat) w,S w0 acc w->acc.length<=2 ^ 30->Calls Tryz.prog 105 #[.int .u64 (p:Int),.pointer (some ⟨CP,0,none⟩),.pointer (some ⟨QB,0,none⟩)] w fun e w'=>(e=.returned (.tuple #[])/\S w0 (acc ++ [p]) w')\/(e=.panicked X/\P w0 acc w')):=ht;have LL:Aside (L.length=n/\RISES L/\n<=c/\(a=none->c=0)/\(∀ x,a=some x->x.block=bi/\x.spot=none)/\NUML w a L/\∀ w1,Below w.heap.size w w1->S w1 [] w1):=⟨hl,hR,hc,hnil,hbl,hL,h0⟩
 clear hN hl hn hR hc hnil hbl hL hCb hCP hT h0 hS hB ht hPC hlen hmost;go_enter Tryz.func52,Tryz.ntmps52;go_wp2_with fail
 refine cp.mono ?_;rintro e w1 ⟨g,cg,rfl,hown,hb1⟩;clear cp;obtain⟨m,hm⟩:∃ m,PC N=m:=⟨_,rfl⟩
 rw[hm] at hown ⊢;have R1:Aside (w1.ownsRow w.heap.size 24 1 (.slice (some ⟨g,0,none⟩) m cg) m (ze (yW N))/\Below w.heap.size w w1/\PC N=m/\(g≠CP/\g≠RB)/\g<w1.heap.size/\w.heap.size<=g):=⟨hown,hb1,hm,by have h1:=(hown.lt g rfl).1;have:=HA.out.2.2.2.2.2.2;omega,(hown.lt g rfl).2,(hown.lt g rfl).1⟩
 have L0:Aside (NUML w1 a L):=fun h0=>by
  obtain⟨b,o,e,hl,hcc⟩:=LL.out.2.2.2.2.2.1 h0;exact⟨b,o,e,Nat.lt_of_lt_of_le hl hb1.size,fun i x hx=>(hb1.cell (p:=⟨b,o+i,none⟩) hl).trans (hcc i x hx)⟩
 clear hown hb1 hm;go_wp2_with fail
 go_loopg [0,13] m (fun q s0 s13 wx=>∃ (j n' c':Nat) (a':Option Addr) (Lj told:List Nat),s0=.slice a' n' c'/\s13=.int .i64 (j:Int)/\Aside (j+q=m/\Lj.length=n'/\n'<=n/\RISES Lj/\n'<=c'/\(a'=none->c'=0)/\(∀ x,a'=some x->x.block=bi/\x.spot=none)/\NUML w1 a' Lj/\S w1 told wx/\zc (TPS N) L=told ++ zc ((TPS N).drop j) Lj))
 case atStart=>exact⟨0,n,c,a,L,[],rfl,rfl,by omega,LL.out.1,Nat.le_refl _,LL.out.2.1,LL.out.2.2.1,LL.out.2.2.2.1,LL.out.2.2.2.2.1,L0.out,LL.out.2.2.2.2.2.2 w1 R1.out.2.1,by simp⟩
 case round=>
  obtain⟨j,n',c',a',Lj,told,rfl,rfl,A⟩:=hrel;clear L0 LL;cases gk with
  | zero=>
    obtain rfl:j=m:=by have:=A.out.1;omega
    have hlt:¬ (j:Int)<(j:Int):=by omega
    have FN:Aside (∃ w1,Below w.heap.size w w1/\TOLD (S w1) (P w1) X [] (zc (TPS N) L) (.returned (.tuple #[])) wr):=by
     obtain⟨h1,h2,h3,h4,h5,h6,h7,h8,h9,h10⟩:=A.out;refine⟨w1,R1.out.2.1,.inl ⟨rfl,?_⟩⟩;rw[List.drop_of_length_le (by have:=R1.out.2.2.1;have:=HA.out.2.2.2.1;omega)] at h10;rw[h10,zc,List.append_nil,List.nil_append];exact h9
    clear A R1 ST HT HA;go_wp2_with fail
    exact bodyPost_end (v:=.tuple #[]) (by simp[results,Tryz.f52]) rfl FN.out
  | succ q=>
    have hlt:(j:Int)<(m:Int):=by have:=A.out.1;omega
    have hjm:j<(TPS N).length:=by have:=A.out.1;have:=R1.out.2.2.1;have:=HA.out.2.2.2.1;omega
    obtain⟨⟨h,k⟩,ehk⟩:∃ s,(TPS N)[j]?=some s:=⟨_,List.getElem?_eq_getElem hjm⟩
    have hsp:=yu HA.out.2.1 (List.mem_of_getElem? ehk);have epk:=jA ehk;obtain⟨k1,k2⟩:=ST.out.2 w1 told wr A.out.2.2.2.2.2.2.2.2.1
    have hcell:wr.cell? ⟨g,j,none⟩=some (.int .u64 ((PLC h k:Nat):Int)):=by
     have h1:=R1.out.1.cellAt j (by have:=A.out.1;omega);refine(World.cell?_of_block (w:=w1) (by exact k1 g R1.out.2.2.2.2.1 R1.out.2.2.2.1.1 R1.out.2.2.2.1.2)).trans (h1.trans ?_);rw[ze,List.getElem?_map,epk];rfl
    have ej:wrap64 ((j:Int)+1)=((j+1:Nat):Int):=by have:=A.out.1;have:=R1.out.2.2.1;have:=HA.out.2.2.1;unfold wrap64;omega
    have hN1:NUML wr a' Lj:=fun h0=>by
     obtain⟨b,o,e,hl,hcc⟩:=A.out.2.2.2.2.2.2.2.1 h0;have hbb:b=bi:=(A.out.2.2.2.2.2.2.1 _ e).1;exact⟨b,o,e,by omega,fun i x hx=>(World.cell?_of_block (w:=w1) (by exact k1 b hl (by rw[hbb];exact HA.out.2.2.2.2.2.1.1) (by rw[hbb];exact HA.out.2.2.2.2.2.1.2))).trans (hcc i x hx)⟩
    have cs:=yU h k hsp.2.2 a' n' c' Lj A.out.2.1 (by have:=A.out.2.2.1;have:=HA.out.1;omega) A.out.2.2.2.1 A.out.2.2.2.2.1 A.out.2.2.2.2.2.1 (fun x e=>(A.out.2.2.2.2.2.2.1 x e).2) wr hN1;have SP:Aside (Node h k/\(TPS N)[j]?=some (h,k)/\j<(TPS N).length):=⟨hsp.2.2,ehk,hjm⟩
    clear hsp ehk epk k1 k2 hN1 hjm;go_wp2_with fail
    refine cs.mono ?_;rintro e w2 ⟨r,a2,rfl,hs⟩;clear cs hcell;have hdrop:(TPS N).drop j=(h,k) :: (TPS N).drop (j+1):=ZT SP.out.2.1;have hneed:=y7 ((TPS N).drop (j+1)) hs.rank;rw[<-hdrop] at hneed;have hrn:=hs.rank.le;have S2:S w1 told w2:=ST.out.1 w1 told wr w2 A.out.2.2.2.2.2.2.2.2.1 hs.below
    have MR:Aside (NUML w1 a2 (Lj.drop r)/\(∀ x,a2=some x->x.block=bi/\x.spot=none)/\(a2=none->c' - r=0)/\r<=n'/\NUML w1 a' (Lj.take r)/\zc ((TPS N).drop j) Lj=NEED h k (Lj.take r) ++ zc ((TPS N).drop (j+1)) (Lj.drop r)):=by
     refine⟨fun h0=>?_,fun x hx=>?_,hs.nil,by have:=A.out.2.1;omega,fun h0=>?_,hneed⟩
     ·obtain⟨b,o,e,hl,hcc⟩:=hs.lies h0
      obtain⟨y,e2,e3⟩:=hs.block _ e;have hbb:b=bi:=by have:=(A.out.2.2.2.2.2.2.1 _ e2).1;rw[<-e3] at this;exact this
      obtain⟨k1,k2⟩:=ST.out.2 w1 told wr A.out.2.2.2.2.2.2.2.2.1;obtain⟨b',o',e',hl',_⟩:=A.out.2.2.2.2.2.2.2.1 (by rw[List.length_drop] at h0;omega);have hbi:bi<w1.heap.size:=by have h9:b'=bi:=(A.out.2.2.2.2.2.2.1 _ e').1;omega
      subst hbb;exact⟨b,o,e,hbi,fun i x hx=>(World.cell?_of_block (w:=wr) (by exact(k1 b hbi HA.out.2.2.2.2.2.1.1 HA.out.2.2.2.2.2.1.2).symm)).trans (hcc i x hx)⟩
     ·obtain⟨y,e2,e3⟩:=hs.block x hx
      exact⟨by rw[e3];exact(A.out.2.2.2.2.2.2.1 _ e2).1,hs.spot x hx⟩
     ·obtain⟨b,o,e,hl,hcc⟩:=A.out.2.2.2.2.2.2.2.1 (by rw[List.length_take] at h0;omega)
      refine⟨b,o,e,hl,fun i x hx=>hcc i x ?_⟩;rw[List.getElem?_take] at hx;split at hx
      ·exact hx
      ·cases hx
    have TL:Aside (told.length+(NEED h k (Lj.take r)).length<=2 ^ 30/\zc (TPS N) L=told ++ NEED h k (Lj.take r) ++ zc ((TPS N).drop (j+1)) (Lj.drop r)):=by
     have h1:=A.out.2.2.2.2.2.2.2.2.2;rw[MR.out.2.2.2.2.2,<-List.append_assoc] at h1;refine⟨?_,h1⟩;have h2:=HA.out.2.2.2.2.1;rw[h1,List.length_append,List.length_append] at h2;omega
    have cu:=mT w1 bi CP QB (S w1) (P w1) X (ST.out.1 w1) (fun acc w hw=>⟨fun hbi=>(ST.out.2 w1 acc w hw).1 bi hbi HA.out.2.2.2.2.2.1.1 HA.out.2.2.2.2.2.1.2,(ST.out.2 w1 acc w hw).2⟩) (HT.out w1) h k SP.out.1 (Lj.take r) a' r c' told w2 (by rw[List.length_take];have:=A.out.2.1;have:=MR.out.2.2.2.1;omega) (by have:=MR.out.2.2.2.1;have:=A.out.2.2.1;have:=HA.out.1;omega) (A.out.2.2.2.1.take r) (by have:=MR.out.2.2.2.1;have:=A.out.2.2.2.2.1;omega) A.out.2.2.2.2.2.1 A.out.2.2.2.2.2.2.1 MR.out.2.2.2.2.1 S2 TL.out.1;clear hs hdrop hneed hrn S2;go_wp2_with fail
    refine cu.mono ?_;rintro e w3 (⟨rfl,h3⟩ | ⟨pre,p,hp,rfl,h3⟩)
    ·have Z:Aside (j+1+q=m/\(Lj.drop r).length=n' - r/\n' - r<=n/\RISES (Lj.drop r)/\n' - r<=c' - r/\(a2=none->c' - r=0)/\(∀ x,a2=some x->x.block=bi/\x.spot=none)/\NUML w1 a2 (Lj.drop r)/\S w1 (told ++ NEED h k (Lj.take r)) w3/\zc (TPS N) L=(told ++ NEED h k (Lj.take r)) ++ zc ((TPS N).drop (j+1)) (Lj.drop r)):=by
      obtain⟨h1,h2,_,h4,h5,_⟩:=A.out;refine⟨by clear ej;omega,by rw[List.length_drop,h2],by have:=A.out.2.2.1;clear ej;omega,h4.drop r,by clear ej;omega,MR.out.2.2.1,MR.out.2.1,MR.out.1,h3,TL.out.2⟩
     clear h3 cu A MR TL SP R1;go_wp2_with fail
     go_roundg q
     case measure=>exact Nat.lt_succ_self _
     case rel=>exact⟨j+1,n' - r,c' - r,a2,Lj.drop r,told ++ NEED h k (Lj.take r),rfl,by first | rfl | (rw[ej]),Z.out⟩
    ·refine⟨rfl,w1,R1.out.2.1,.inr ⟨pre,p,hp.trans ?_,rfl,h3⟩⟩
     rw[List.nil_append,TL.out.2];exact List.prefix_append _ _
structure READING (wS w0 w:World) (LB pb qb rb:Nat) (N:Int) (iv:Value) (t:List Int) (acc:List Nat):Prop where
 le:32*acc.length<=t.length
 row:∃ v,Has w pb #[.int .u64 N,iv,v] 45/\w.ownsRow w0.heap.size 23 32 v acc.length (za (t.take (32*acc.length)))
 box:Has w qb #[.pointer (some ⟨rb,0,none⟩)] 136
 rdr:RDR wS w rb (t.drop (32*acc.length))
 keep:∀ b,b<w0.heap.size->b≠pb->b≠rb->w.heap[b]?=w0.heap[b]?
 below:Below LB w0 w
 lt:pb<w0.heap.size/\rb<w0.heap.size/\qb<w0.heap.size/\LB<=pb/\LB<=rb
 ne:pb≠rb/\qb≠pb/\qb≠rb
 src:wS.heap.size<=pb
def ZZ(w0 w:World)(LB pb rb:Nat)(t:List Int)(acc:List Nat):Prop:=t.length<32*(acc.length+1)/\(∀ b,b<w0.heap.size->b≠pb->b≠rb->w.heap[b]?=w0.heap[b]?)/\Below LB w0 w
theorem READING.still{wS w0 w w':World}{LB pb qb rb:Nat}{N:Int}{iv:Value}{t:List Int}{acc:List Nat}(h:READING wS w0 w LB pb qb rb N iv t acc)(hb:Below w.heap.size w w'):READING wS w0 w' LB pb qb rb N iv t acc:=by
 obtain⟨v,h1,h2⟩:=h.row;have hs:=h.below.size;have hl:=h.lt;exact⟨h.le,⟨v,h1.keep hb,zG h2 hb⟩,h.box.keep hb,h.rdr.keep hb,fun b hb0 e1 e2=>(hb.block b (by omega)).trans (h.keep b hb0 e1 e2),h.below.trans (hb.mono (by omega)),hl,h.ne,h.src⟩
theorem v8{w:World}{B s n:Nat}{t:TypeId}{v:Value}{xs:List Value}(h:w.ownsRow B t s v n xs):∃ a c,v=.slice a n c:=by
 rcases h.2 with ⟨e,h0⟩ | ⟨g,cap,cur,e,_⟩
 ·exact⟨none,0,by rw[e,h0]⟩
 ·exact⟨_,_,e⟩
theorem Gm{wS w0 w:World}{LB pb qb rb:Nat}{N:Int}{iv:Value}{t:List Int}{acc:List Nat}(h:READING wS w0 w LB pb qb rb N iv t acc)(p:Int)(hs:t.length<32*(acc.length+1)):
  Calls Tryz.prog 105 #[.int .u64 p,.pointer (some ⟨pb,0,none⟩),.pointer (some ⟨qb,0,none⟩)] w fun e w'=>e=.panicked (zE 11)/\ZZ w0 w' LB pb rb t acc:=by
 have hd:=h.still (w':=w.drew) (Below.refl _ _).drew;have ch:=Ks hd.rdr (by rw[List.length_drop];omega);obtain⟨v,h1,h2⟩:=h.row;have x0:w.cell? ⟨pb,2,none⟩=some v:=h1.cell 2;have x1:w.cell? ⟨qb,0,none⟩=some (.pointer (some ⟨rb,0,none⟩)):=h.box.cell 0;have y0:w.drew.cell? ⟨pb,2,none⟩=some v:=x0;have y1:w.drew.cell? ⟨qb,0,none⟩=some (.pointer (some ⟨rb,0,none⟩)):=x1;have FN:Aside (∀ W,Below w.drew.heap.size w.drew W->ZZ w0 W LB pb rb t acc):=fun W hb=>⟨hs,fun b hb0 e1 e2=>(hd.still hb).keep b hb0 e1 e2,(hd.still hb).below⟩
 clear h hd h1 h2 hs;go_enter Tryz.func105,Tryz.ntmps105;go_upto_region 0 with fail
 refine z0w w pb qb rb v (zE 11) (fun W=>W=w.drew) (fun W=>ZZ w0 W LB pb rb t acc) rfl (fun W hW=>by subst hW;exact⟨y1,y0⟩) (fun _ W hd hW=>⟨hd,rfl,hW⟩) (fun W hW=>?_) (fun _ _ _ _ _ h=>h);subst hW;exact ch.mono fun e w' ⟨he,hb⟩=>⟨he,FN.out w' hb⟩
theorem Ku(t:List Int)(k:Nat):t.take (32*(k+1))=t.take (32*k) ++ (t.drop (32*k)).take 32:=by
 rw[Nat.mul_add,Nat.mul_one,List.take_add]
theorem mU{wS w0 w:World}{LB pb qb rb:Nat}{N:Int}{iv:Value}{t:List Int}{acc:List Nat}(h:READING wS w0 w LB pb qb rb N iv t acc)(p:Nat)(hs:32*(acc.length+1)<=t.length)(hacc:acc.length<=100000):
  Calls Tryz.prog 105 #[.int .u64 (p:Int),.pointer (some ⟨pb,0,none⟩),.pointer (some ⟨qb,0,none⟩)] w fun e w'=>e=.returned (.tuple #[])/\READING wS w0 w' LB pb qb rb N iv t (acc ++ [p]):=by
 obtain⟨v,h1,h2⟩:=h.row;obtain⟨av,cv,rfl⟩:=v8 h2;obtain⟨n,hn⟩:∃ n,acc.length=n:=⟨_,rfl⟩
 rw[hn] at h1 h2 hacc hs;have hH:((t.drop (32*n)).take 32).length=32:=by rw[List.length_take,List.length_drop];omega
 have hl:=h.lt;have hne:=h.ne;have hsrc:=h.src;obtain⟨P0,hP0⟩:∃ P0:World->Prop,P0=fun W=>W=w.drew:=⟨_,rfl⟩
 obtain⟨P1,hP1⟩:∃ P1:World->Prop,P1=fun W=>∃ w1,(RDR wS w1 rb (t.drop (32*(n+1)))/\STAY w.drew w1 rb)/\Below w1.heap.size w1 W:=⟨_,rfl⟩
 obtain⟨P2,hP2⟩:∃ P2:World->Prop,P2=fun W=>∃ w1,P1 w1/\w1.grownBy W (Value.slice av n cv).ownBlock:=⟨_,rfl⟩
 have S0:∀ W,P0 W->W.cell? ⟨qb,0,none⟩=some (.pointer (some ⟨rb,0,none⟩))/\W.cell? ⟨pb,2,none⟩=some (.slice av n cv):=fun W hW=>by
  rw[hP0] at hW;rw[hW];exact⟨h.box.cell 0,h1.cell 2⟩
 have G1:∀ W,P1 W->Has W qb #[.pointer (some ⟨rb,0,none⟩)] 136/\Has W pb #[.int .u64 N,iv,.slice av n cv] 45/\W.ownsRow w0.heap.size 23 32 (.slice av n cv) n (za (t.take (32*n)))/\w0.heap.size<=W.heap.size/\RDR wS W rb (t.drop (32*(n+1)))/\(∀ b,b<w0.heap.size->b≠pb->b≠rb->W.heap[b]?=w0.heap[b]?)/\Below LB w0 W:=fun W hW=>by
  rw[hP1] at hW;obtain⟨w1,⟨r1,s1⟩,hb⟩:=hW;have sz1:w.heap.size<=w1.heap.size:=s1.bl.size;have sz0:w0.heap.size<=w.heap.size:=h.below.size;have o1:w1.ownsRow w0.heap.size 23 32 (.slice av n cv) n (za (t.take (32*n))):=Xf h2 fun k e=>s1.kp k (h2.lt k e).2 (by have:=(h2.lt k e).1;omega);refine⟨(s1.has (w:=w.drew) h.box hne.2.2).keep hb,(s1.has (w:=w.drew) h1 hne.1).keep hb,zG o1 hb,by have:=hb.size;omega,r1.keep hb,fun b hb0 e1 e2=>?_,?_⟩
  ·exact(hb.block b (by omega)).trans ((s1.kp b (by show b<w.heap.size;omega) e2).trans (h.keep b hb0 e1 e2))
  ·exact(h.below.trans ((show Below rb w w1 from ⟨s1.bl.os,s1.bl.tape,s1.bl.output,s1.bl.size,s1.bl.block⟩).mono hl.2.2.2.2)).trans (hb.mono (by omega))
 have G2:∀ W,P2 W->Has W qb #[.pointer (some ⟨rb,0,none⟩)] 136/\Has W pb #[.int .u64 N,iv,.slice av n cv] 45/\RDR wS W rb (t.drop (32*(n+1)))/\(∀ b,b<w0.heap.size->b≠pb->b≠rb->W.heap[b]?=w0.heap[b]?)/\Below LB w0 W/\w0.heap.size<=W.heap.size:=fun W hW=>by
  rw[hP2] at hW;obtain⟨w1,p1,hg⟩:=hW;obtain⟨a1,a2,a3,a4,a5,a6,a7⟩:=G1 w1 p1;have hb:Below w0.heap.size w1 W:=(Below.refl _ w1).grown hg a4 (fun k e=>(a3.lt k e).1);have hb1:=hb.size;refine⟨a1.below hb hl.2.2.1,a2.below hb hl.1,?_,fun b hb0 e1 e2=>(hb.block b hb0).trans (a6 b hb0 e1 e2),a7.trans (hb.mono (by omega)),by omega⟩;obtain⟨ar,cr,q1,q2⟩:=a5.rd;exact⟨⟨ar,cr,q1.below hb hl.2.1,q2⟩,a5.bel.trans (hb.mono (by have:=a5.lb;omega)),a5.lb⟩
 have HC:Aside (∀ W,P0 W->Calls Tryz.prog 106 #[.pointer (some ⟨rb,0,none⟩)] W fun e w'=>e=.returned (.agg (za ((t.drop (32*n)).take 32)).toArray)/\P1 w'):=fun W hW=>by
  rw[hP0] at hW;rw[hW];have hd:=(h.still (w':=w.drew) (Below.refl _ _).drew).rdr;rw[hn] at hd;refine(z0v hd (by rw[List.length_drop];omega)).mono ?_;rintro e w' ⟨he,r1,s1⟩;refine⟨he,?_⟩;rw[hP1];rw[List.drop_drop] at r1;exact⟨w',⟨r1,s1⟩,Below.refl _ _⟩
 have FIN:Aside (∀ W g q,P2 W->W.ownsRow w0.heap.size 23 32 (.slice (some ⟨g,0,none⟩) (n+1) q) (n+1) (za (t.take (32*n)) ++ za ((t.drop (32*n)).take 32))->READING wS w0 (W.setCell ⟨pb,2,none⟩ (.slice (some ⟨g,0,none⟩) (n+1) q)) LB pb qb rb N iv t (acc ++ [p])):=fun W g q hW ho=>by
  obtain⟨a1,a2,a3,a4,a5,a6⟩:=G2 W hW;have el:(acc ++ [p]).length=n+1:=by rw[List.length_append,hn];rfl
  have st:STAY W (W.setCell ⟨pb,2,none⟩ (.slice (some ⟨g,0,none⟩) (n+1) q)) pb:=STAY.set _ _ _ _;refine⟨by rw[el];exact hs,⟨_,a2.set 2 _,?_⟩,st.has a1 hne.2.1,?_,fun b hb0 e1 e2=>(st.kp b (by omega) e1).trans (a4 b hb0 e1 e2),a5.setCell (p:=⟨pb,2,none⟩) hl.2.2.2.1 _,hl,hne,hsrc⟩
  ·rw[el,Ku,yp]
   exact ownsRow_setCell_below ho (a:=⟨pb,2,none⟩) hl.1 _
  ·rw[el]
   exact a3.other st (fun e=>hne.1 e.symm) hsrc
 have AL:∀ W o,P1 W->P1 (W.alloc o):=fun W o hW=>by
  rw[hP1] at hW ⊢;obtain⟨w1,q1,hb⟩:=hW;exact⟨w1,q1,hb.alloc hb.size o⟩
 have GR:∀ W W',P1 W->W.grownBy W' (Value.slice av n cv).ownBlock->P2 W':=fun W W' h1 h2=>by rw[hP2];exact⟨W,h1,h2⟩
 have HG:Aside ((∀ W,P1 W->W.cell? ⟨qb,0,none⟩=some (.pointer (some ⟨rb,0,none⟩))/\W.cell? ⟨pb,2,none⟩=some (.slice av n cv)/\W.ownsRow w0.heap.size 23 32 (.slice av n cv) n (za (t.take (32*n)))/\w0.heap.size<=W.heap.size)/\(∀ W,P2 W->W.cell? ⟨qb,0,none⟩=some (.pointer (some ⟨rb,0,none⟩)))/\(∀ W,P2 W->(∃ u,W.cell? ⟨pb,2,none⟩=some u)/\W.frozen? ⟨pb,2,none⟩=false)):=⟨fun W hW=>⟨(G1 W hW).1.cell 0,(G1 W hW).2.1.cell 2,(G1 W hW).2.2.1,(G1 W hW).2.2.2.1⟩,fun W hW=>(G2 W hW).1.cell 0,fun W hW=>⟨⟨_,(G2 W hW).2.1.cell 2⟩,(G2 W hW).2.1.frozen 2⟩⟩
 have h00:P0 w.drew:=by rw[hP0]
 have HN:Aside (((t.drop (32*n)).take 32).length=32/\n<=100000/\qb≠pb):=⟨hH,hacc,hne.2.1⟩
 clear h1 h2 h hs hn hacc hH hl hne hsrc G1 G2;go_enter Tryz.func105,Tryz.ntmps105;go_upto_region 0 with fail
 refine z2V w pb qb rb w0.heap.size av n cv _ _ HN.out.1 HN.out.2.1 HN.out.2.2 P0 P1 P2 h00 S0 HG.out.1 HG.out.2.1 AL GR HG.out.2.2 HC.out (fun _ _ _ _ _ h=>h) ?_;rintro z g q W ⟨wx,⟨p2,ho⟩,rfl⟩;have FN:=FIN.out wx g q p2 ho;have FF:Aside (READING wS w0 (wx.setCell ⟨pb,2,none⟩ (.slice (some ⟨g,0,none⟩) (n+1) q)) LB pb qb rb N iv t (acc ++ [p])):=FN;clear FN p2 ho FIN HG HN HC S0 AL GR h00 hP0 hP1 hP2;generalize (za ((t.drop (32*n)).take 32)).toArray=U;go_wp2_with fail
 exact bodyPost_end (v:=.tuple #[]) (by simp[results,Tryz.f105]) rfl ⟨rfl,FF.out⟩
theorem STAY.high{w W:World}{rb:Nat}(h:STAY w W rb){pb i:Nat}{v:Value}(hp:w.heap.size<=pb)(hr:rb<=w.heap.size):STAY w (W.setCell ⟨pb,i,none⟩ v) rb:=⟨fun k hk hne=>(Below.heap_setCell W ⟨pb,i,none⟩ v k (by show k≠pb;omega)).trans (h.kp k hk hne),h.bl.setCell (p:=⟨pb,i,none⟩) (by show rb<=pb;omega) _⟩
def PROVED(w:World)(rb:Nat)(A:MANS)(e:Ending)(w':World):Prop:=
 (A.1=0/\∃ a c a2 K c2,e=.returned (.agg #[.int .u64 (A.2.1:Int),.slice a A.2.2.1.length c,.slice a2 K c2])/\w'.ownsRow w.heap.size 24 1 (.slice a A.2.2.1.length c) A.2.2.1.length (ze A.2.2.1)/\w'.ownsRow w.heap.size 23 32 (.slice a2 K c2) K (za A.2.2.2)/\A.2.2.2.length=32*K/\STAY w w' rb)\/(A.1≠0/\e=.panicked (zE A.1)/\STAY w w' rb)
theorem PROVED.die{w w':World}{rb:Nat}{A:MANS}{E:Int}(hA:A=MERR E)(hE:E≠0)(hs:STAY w w' rb):PROVED w rb A (.panicked (zE E)) w':=by
 rw[hA];exact .inr ⟨hE,rfl,hs⟩
theorem RDR.bytes{w0 w:World}{rb:Nat}{t:List Int}(h:RDR w0 w rb t):t.length<=1000000/\∀ x∈t,0<=x/\x<=255:=by
 obtain⟨a,c,_,h2⟩:=h.rd;exact⟨h2.2.2,h2.1.2.2⟩
abbrev ZMANY:Array Value:=#[.int .u64 0,.slice none 0 0,.slice none 0 0]
theorem Kv{w:World}{B n c:Nat}{a:Option Addr}{L:List Nat}(h:w.ownsRow B 24 1 (.slice a n c) n (ze L))(hl:L.length=n):NUML w a L/\n<=c/\(a=none->c=0)/\∀ x,a=some x->B<=x.block/\x.block<w.heap.size/\x.spot=none:=by
 rcases h.2 with ⟨e,h0⟩ | ⟨g,cap,cur,e,hb,hg,h1,_⟩
 ·cases e
  exact⟨fun h0=>by omega,by omega,fun _=>rfl,(fun x e=>by cases e)⟩
 ·cases e
  refine⟨fun h0=>⟨g,0,rfl,(Array.getElem?_eq_some_iff.1 hg).1,fun i x hx=>?_⟩,h1,(fun e=>by cases e),fun x e=>?_⟩
  ·have hi:i<L.length:=(List.getElem?_eq_some_iff.1 hx).1
   rw[Nat.zero_add,h.cellAt i (by omega),ze,List.getElem?_map,hx];rfl
  ·cases e
   exact⟨hb,(Array.getElem?_eq_some_iff.1 hg).1,rfl⟩
theorem xf{w w':World}{B s n:Nat}{t:TypeId}{v:Value}{xs:List Value}(h:w.ownsRow B t s v n xs)(hk:∀ k,v.ownBlock=some k->w'.heap[k]?=w.heap[k]?):w'.ownsRow B t s v n xs:=Xf h hk
theorem mV {wS w:World} {rb:Nat} {l:List Int} (R:RDR wS w rb l) (hT:Tabled wS) (h0:0<wS.heap.size):Calls Tryz.prog 72 #[.pointer (some ⟨rb,0,none⟩)] w (PROVED w rb (MDC l)):=by
  have hmf:∀ (fn:Fn) (first cap:Array Value) (w:World),(Instr.makeFunc fn first cap).run Tryz.prog w=.ok (.func fn first cap) w:=fun _ _ _ _=>rfl;obtain⟨w1,e1⟩:∃ w1,w.alloc (.cells #[.pointer (some ⟨rb,0,none⟩)] 136)=w1:=⟨_,rfl⟩
  obtain⟨w2,e2⟩:∃ w2,w1.alloc (.cells ZMANY 45)=w2:=⟨_,rfl⟩
  have s1:w1.heap.size=w.heap.size+1:=by rw[<-e1];simp
  have s2:w2.heap.size=w.heap.size+2:=by rw[<-e2];simp;omega
  have hb2:Below w.heap.size w w2:=by rw[<-e2,<-e1];exact((Below.refl _ _).alloc (Nat.le_refl _) _).alloc (by simp) _
  have H1:Has w2 w.heap.size #[.pointer (some ⟨rb,0,none⟩)] 136:=by rw[<-e2,<-e1];exact(Has.new w _ _).alloc _
  have H2:Has w2 w1.heap.size ZMANY 45:=by rw[<-e2];exact Has.new w1 _ _
  have R2:=R.keep hb2;have hrb:=R.lt;have ST2:STAY w w2 rb:=STAY.of hb2 (Nat.le_of_lt hrb);have x0:=H1.cell 0;have HA:Aside (Has w2 w.heap.size #[.pointer (some ⟨rb,0,none⟩)] 136/\Has w2 w1.heap.size ZMANY 45/\STAY w w2 rb/\rb<w.heap.size/\w1.heap.size=w.heap.size+1/\w2.heap.size=w.heap.size+2/\wS.heap.size<=rb):=⟨H1,H2,ST2,hrb,s1,s2,R.lb⟩
  have HT:Aside (Tabled wS/\0<wS.heap.size):=⟨hT,h0⟩
  have HR:Aside (RDR wS w2 rb l):=R2;clear hT h0 R R2 H1 H2 ST2 hb2 s1 s2 hrb;cases l with
  | nil=>
    have ck:=Gk HR.out;go_enter Tryz.func72,Tryz.ntmps72;go_wp2_with fail
    refine ck.mono ?_;rintro e w3 ⟨rfl,rfl⟩;exact⟨rfl,PROVED.die rfl (by decide) HA.out.2.2.1⟩
  | cons x t=>
    by_cases hx:x=78
    · subst hx
      have eM:MDC (78 :: t)=MD1 t:=rfl;rw[eM];have ck:=mO HR.out;obtain⟨A,hA⟩:∃ A,MD1 t=A:=⟨_,rfl⟩
      rw[hA];have HM:Aside (MD1 t=A):=hA;clear eM hA;go_enter Tryz.func72,Tryz.ntmps72;go_wp2_with fail
      refine ck.mono ?_;rintro e w3 ⟨rfl,R3,S3⟩;have W3:Aside (RDR wS w3 rb t/\STAY w w3 rb/\Has w3 w.heap.size #[.pointer (some ⟨rb,0,none⟩)] 136/\Has w3 w1.heap.size ZMANY 45/\w2.heap.size<=w3.heap.size):=⟨R3,HA.out.2.2.1.trans S3,S3.has HA.out.1 (by have:=HA.out;omega),S3.has HA.out.2.1 (by have:=HA.out;omega),S3.bl.size⟩
      have x3:=W3.out.2.2.1.cell 0;clear ck R3 S3 x0 e1 e2 HR;by_cases hl:(LNG t).2.2=0
      · obtain⟨Z,m,q1,q2,q3,q4,cn⟩:=YK W3.out.1 hl
        by_cases hZ:4611686018427387904<Z
        · have cs:=mQ rb (Z:Int) w3 _ (by omega) cn
          have FN:Aside (A=MERR 30):=by show A=_;rw[<-HM.out];exact uO q4 hZ
          clear cn q1 q2 q3 q4 hl hZ;go_wp2_with fail
          refine cs.mono ?_;rintro e w4 ⟨rfl,R4,S4⟩;exact⟨rfl,PROVED.die FN.out (by decide) (W3.out.2.1.trans S4)⟩
        · have cs := Gl rb (Z:Int) w3 _ (by omega) cn
          have MZ:Aside (A=MD3 Z (IDXS Z (t.drop m))/\Z<=4611686018427387904):=⟨by rw[<-HM.out];exact Uo q4 (by omega),by omega⟩
          clear cn q1 q2 q3 q4 hl hZ HM;generalize t.drop m=t2 at *
          go_wp2_with fail
          refine cs.mono ?_;rintro e w4 ⟨rfl,R4,S4⟩;have W4:Aside (RDR wS w4 rb t2/\STAY w w4 rb/\Has w4 w.heap.size #[.pointer (some ⟨rb,0,none⟩)] 136/\Has w4 w1.heap.size ZMANY 45/\w2.heap.size<=w4.heap.size):=⟨R4,W3.out.2.1.trans S4,S4.has W3.out.2.2.1 (by have:=HA.out;omega),S4.has W3.out.2.2.2.1 (by have:=HA.out;omega),Nat.le_trans W3.out.2.2.2.2 S4.bl.size⟩
          clear cs R4 S4 W3 x3;go_upto_region 3 with fail
          obtain⟨w5,e5⟩:∃ w5,w4.alloc (.cells #[.int .u64 (Z:Int),.slice none 0 0,.slice none 0 0] 45)=w5:=⟨_,rfl⟩
          have b5:Below w4.heap.size w4 w5:=by rw[<-e5];exact(Below.refl _ _).alloc (Nat.le_refl _) _
          have M5:Has w5 w4.heap.size #[.int .u64 (Z:Int),.slice none 0 0,.slice none 0 0] 45:=by rw[<-e5];exact Has.new w4 _ _
          have s5:w5.heap.size=w4.heap.size+1:=by rw[<-e5];simp
          have W5:Aside (RDR wS w5 rb t2/\STAY w w5 rb/\Has w5 w.heap.size #[.pointer (some ⟨rb,0,none⟩)] 136/\Has w5 w1.heap.size ZMANY 45/\Has w5 w4.heap.size #[.int .u64 (Z:Int),.slice none 0 0,.slice none 0 0] 45/\w5.heap.size=w4.heap.size+1/\w2.heap.size<=w4.heap.size):=⟨W4.out.1.keep b5,W4.out.2.1.trans (STAY.of b5 (Nat.le_of_lt W4.out.1.lt)),W4.out.2.2.1.keep b5,W4.out.2.2.2.1.keep b5,M5,s5,W4.out.2.2.2.2⟩
          have ci:=mR Z MZ.out.2 W5.out.1;have x5:=W5.out.2.2.1.cell 0;have y5:=W5.out.2.2.2.2.1.cell 0;have info3:(Tryz.prog.info? 45).map (·.size)=some 3:=by kernel_rfl
          clear b5 M5 s5 W4;rw[e5];clear e5;go_wp2_with fail
          obtain⟨I,hI⟩:∃ I,IDXS Z t2=I:=⟨_,rfl⟩
          rw[hI] at ci MZ;have hI2:=Y3 (n:=Z) (t:=t2);have hI3:=Xp (n:=Z) W5.out.1.bytes.2;rw[hI] at hI2 hI3;have II:Aside ((I.1=0->(∀ x∈I.2.1,x<Z)/\RISES I.2.1)/\(I.1=0->I.2.1.length+I.2.2.length<=t2.length/\∀ x∈I.2.2,0<=x/\x<=255)/\t2.length<=1000000):=⟨hI2,hI3,W5.out.1.bytes.1⟩
          clear hI hI2 hI3;refine ci.mono ?_;rintro e w6 (⟨hE,a6,c6,rfl,ho6,R6,S6⟩ | ⟨hE,rfl,S6⟩)
          · have W6 : Aside (I.1=0/\w6.ownsRow w5.heap.size 24 1 (.slice a6 I.2.1.length c6) I.2.1.length (ze I.2.1)/\RDR wS w6 rb I.2.2/\STAY w w6 rb/\Has w6 w.heap.size #[.pointer (some ⟨rb,0,none⟩)] 136/\Has w6 w1.heap.size ZMANY 45/\Has w6 w4.heap.size #[.int .u64 (Z:Int),.slice none 0 0,.slice none 0 0] 45/\w5.heap.size<=w6.heap.size):=⟨hE,ho6,R6,W5.out.2.1.trans S6,S6.has W5.out.2.2.1 (by have:=HA.out;omega),S6.has W5.out.2.2.2.1 (by have:=HA.out;omega),S6.has W5.out.2.2.2.2.1 (by have:=HA.out;have:=W5.out;omega),S6.bl.size⟩
            have x6:=W6.out.2.2.2.2.1.cell 0;have y6:=W6.out.2.2.2.2.2.2.1.cell 1;have f6:=W6.out.2.2.2.2.2.2.1.frozen 1;obtain⟨M,hM⟩:∃ M,I.2.1.length=M:=⟨_,rfl⟩
            rw[hM] at W6 ⊢;obtain⟨w7,e7⟩:∃ w7,w6.setCell ⟨w4.heap.size,1,none⟩ (.slice a6 M c6)=w7:=⟨_,rfl⟩
            have m7:Has w7 w4.heap.size #[.int .u64 (Z:Int),.slice a6 M c6,.slice none 0 0] 45:=by rw[<-e7];exact W6.out.2.2.2.2.2.2.1.set 1 _
            have st7:STAY w6 w7 w4.heap.size:=by rw[<-e7];exact STAY.set _ _ _ _
            have W7:Aside (w7.ownsRow w5.heap.size 24 1 (.slice a6 M c6) M (ze I.2.1)/\RDR wS w7 rb I.2.2/\STAY w w7 rb/\Has w7 w.heap.size #[.pointer (some ⟨rb,0,none⟩)] 136/\Has w7 w1.heap.size ZMANY 45/\Has w7 w4.heap.size #[.int .u64 (Z:Int),.slice a6 M c6,.slice none 0 0] 45/\w5.heap.size<=w7.heap.size):=by
              refine⟨by rw[<-e7];exact ownsRow_setCell_below W6.out.2.1 (a:=⟨w4.heap.size,1,none⟩) (by show w4.heap.size<w5.heap.size;have:=W5.out;omega) _,W6.out.2.2.1.other st7 (by have:=HA.out;have:=W5.out;omega) (by have:=HA.out;have:=W5.out;omega),by rw[<-e7];exact W6.out.2.2.2.1.high (by have:=HA.out;have:=W5.out;omega) (by have:=HA.out;omega),st7.has W6.out.2.2.2.2.1 (by have:=HA.out;have:=W5.out;omega),st7.has W6.out.2.2.2.2.2.1 (by have:=HA.out;have:=W5.out;omega),m7,Nat.le_trans W6.out.2.2.2.2.2.2.2 st7.bl.size⟩
            have x7:=W7.out.2.2.2.1.cell 0;have y70:w7.cell? ⟨w4.heap.size,0,none⟩=some (.int .u64 (Z:Int)):=W7.out.2.2.2.2.2.1.cell 0;have y71:w7.cell? ⟨w4.heap.size,1,none⟩=some (.slice a6 M c6):=W7.out.2.2.2.2.2.1.cell 1;have HE:Aside (I.1=0):=hE;have NL:=Kv W7.out.1 hM
            obtain⟨bi,hbi,hbn⟩:∃ bi,(∀ x,a6=some x->x.block=bi/\x.spot=none)/\w5.heap.size<=bi:=by
              cases a6 with
              | none=>exact⟨w5.heap.size,(fun x e=>by cases e),Nat.le_refl _⟩
              | some y=>exact⟨y.block,(fun x e=>by cases e;exact⟨rfl,(NL.2.2.2 y rfl).2.2⟩),(NL.2.2.2 y rfl).1⟩
            obtain⟨L,hL⟩:∃ L,I.2.1=L:=⟨_,rfl⟩
            obtain⟨u,hu⟩:∃ u,I.2.2=u:=⟨_,rfl⟩
            have hI2:=II.out.1 hE;have hI3:=II.out.2.1 hE;have hI4:=II.out.2.2;rw[hL] at hM NL hI2 hI3;rw[hu] at hI3;rw[hL,hu] at W7;have hwb:=HA.out;have hw5:=W5.out.2.2.2.2.2
            have cn:=z0x bi w4.heap.size w.heap.size rb (fun w0 acc W=>READING wS w0 W rb w4.heap.size w.heap.size rb (Z:Int) (.slice a6 M c6) u acc) (fun w0 acc W=>ZZ w0 W rb w4.heap.size rb u acc) (zE 11)
              (fun w0 acc W W' h hb=>h.still hb) (fun w0 acc W h=>⟨h.keep,h.below.size⟩)
              (fun w0 acc p W h _=>by
                by_cases hs:u.length<32*(acc.length+1)
                · exact(Gm h p hs).mono fun e w' hh=>.inr hh
                · exact(mU h p (by omega) (by have:=h.le;omega)).mono fun e w' hh=>.inl hh)
              Z MZ.out.2 L a6 M c6 w7 hM (by omega) hI2.2 NL.2.1 NL.2.2.1 hbi NL.1 ⟨by omega,by omega⟩ ⟨by have:=W7.out.2.2.2.2.2.2;omega,W7.out.2.1.lt⟩ (HT.out.1.below HT.out.2 W7.out.2.1.bel)
              (fun w1' hb=>by
                refine⟨by simp,⟨.slice none 0 0,W7.out.2.2.2.2.2.1.keep hb,⟨rfl,.inl ⟨rfl,rfl⟩⟩⟩,W7.out.2.2.2.1.keep hb,W7.out.2.1.keep hb,fun b _ _ _=>rfl,Below.refl _ _,?_,?_,?_⟩
                · have h1:=hb.size
                  have h2:=W7.out.2.2.2.2.2.2;have h3:=W7.out.2.1.lt;omega
                · omega
                · omega)
            have FA:Aside (A=MD3 Z (0,L,u)/\(∀ x∈L,x<Z)/\w4.heap.size<w5.heap.size/\w2.heap.size<=w4.heap.size/\u.length<=1000000/\L.length=M):=⟨by rw[MZ.out.1,<-hE,<-hL,<-hu],hI2.1,by omega,by omega,by omega,hM⟩
            clear ho6 R6 S6 hE W6 m7 st7 ci x5 y5 NL hbi hbn hI2 hI3 hI4 hwb hw5 hL hu HE II MZ;go_wp2_with fail
            refine cn.mono ?_;rintro e w9 ⟨w8,hb8,ht⟩;clear cn x7 y70 y71 x6 y6 f6 e7;obtain⟨K,hK⟩:∃ K,(zc (TPS Z) L).length=K:=⟨_,rfl⟩
            have sz7:=W7.out.2.2.2.2.2.2;have sz8:=hb8.size;have hwa:=HA.out;have hfa:=FA.out.2.2;rcases ht with ⟨rfl,hS⟩ | ⟨pre,p,hp,rfl,hO⟩
            · rw[List.nil_append] at hS
              obtain⟨v9,hm9,ho9⟩:=hS.row;obtain⟨a9,c9,rfl⟩:=v8 ho9
              have st9:STAY w w9 rb:=by
                refine⟨fun k hk hne=>(hS.keep k (by omega) (by omega) hne).trans ((hb8.block k (by omega)).trans (W7.out.2.2.1.kp k hk hne)),(W7.out.2.2.1.bl.trans (hb8.mono (by omega))).trans hS.below⟩
              have on9:w9.ownsRow w5.heap.size 24 1 (.slice a6 M c6) M (ze L):=xf (zG W7.out.1 hb8) fun k e=>hS.keep k (by have:=((zG W7.out.1 hb8).lt k e).2;omega) (by have:=(W7.out.1.lt k e).1;omega) (by have:=(W7.out.1.lt k e).1;omega);have res9:Has w9 w1.heap.size ZMANY 45:=(hS.keep _ (by omega) (by omega) (by omega)).trans (W7.out.2.2.2.2.1.keep hb8);have W9:Aside (READING wS w8 w9 rb w4.heap.size w.heap.size rb (Z:Int) (.slice a6 M c6) u (zc (TPS Z) L)/\Has w9 w4.heap.size #[.int .u64 (Z:Int),.slice a6 M c6,.slice a9 (zc (TPS Z) L).length c9] 45/\w9.ownsRow w8.heap.size 23 32 (.slice a9 (zc (TPS Z) L).length c9) (zc (TPS Z) L).length (za (u.take (32*(zc (TPS Z) L).length)))/\STAY w w9 rb/\w9.ownsRow w5.heap.size 24 1 (.slice a6 M c6) M (ze L)/\Has w9 w1.heap.size ZMANY 45/\w.heap.size<=w8.heap.size/\w.heap.size<=w5.heap.size):=⟨hS,hm9,ho9,st9,on9,res9,by omega,by omega⟩
              rw[hK] at W9;have x9:=hS.box.cell 0;have ce:=z1O hS.rdr;rw[hK] at ce;clear hS hm9 ho9 st9 on9 res9 sz7 sz8 hwa hfa hb8;go_wp2_with fail
              refine ce.mono ?_;rintro e w10 ⟨(⟨ht,rfl⟩ | ⟨ht,rfl⟩),rfl⟩
              · have hlen:u.length=32*K:=by
                  have h1:=W9.out.1.le;rw[hK] at h1;have h2:=congrArg List.length ht;rw[List.length_drop] at h2;simp at h2;omega
                have eA:A=(0,Z,L,u):=by
                  rw[FA.out.1];unfold MD3;rw[if_neg (by simp),hK,if_neg (by show ¬ u.length<32*K;omega),if_neg (by show ¬ 32*K<u.length;omega)]
                have FN:Aside (∀ W,W=w9.setRow w1.heap.size #[.int .u64 (Z:Int),.slice a6 M c6,.slice a9 K c9]->PROVED w rb A (.returned (.agg #[.int .u64 (Z:Int),.slice a6 M c6,.slice a9 K c9])) W):=fun W hW=>by
                  rw[eA,hW];have hfa:=FA.out.2.2;have hwa:=HA.out;refine .inl ⟨rfl,a6,c6,a9,K,c9,by rw[hfa.2.2.2],?_,?_,hlen,?_⟩
                  · show World.ownsRow _ w.heap.size 24 1 (.slice a6 L.length c6) L.length (ze L)
                    rw[hfa.2.2.2];exact zq (xf W9.out.2.2.2.2.1 fun k e=>setRow_other _ _ _ _ (by have:=(W9.out.2.2.2.2.1.lt k e).1;omega)) W9.out.2.2.2.2.2.2.2
                  · have ho:=W9.out.2.2.1
                    rw[List.take_of_length_le (by omega)] at ho;exact zq (xf ho fun k e=>setRow_other _ _ _ _ (by have h1:=(ho.lt k e).1;have h2:=W9.out.1.lt;omega)) W9.out.2.2.2.2.2.2.1
                  · exact⟨fun k hk hne=>(setRow_other _ _ _ _ (by omega)).trans (W9.out.2.2.2.1.kp k hk hne),zm W9.out.2.2.2.1.bl (by omega) _⟩
                have WW:Aside (Has w9 w4.heap.size #[.int .u64 (Z:Int),.slice a6 M c6,.slice a9 K c9] 45/\Has w9 w1.heap.size ZMANY 45):=⟨W9.out.2.1,W9.out.2.2.2.2.2.1⟩
                have infoM:(Tryz.prog.info? 45).map (·.size)=some (#[Value.int .u64 (Z:Int),.slice a6 M c6,.slice a9 K c9]:Array Value).size:=info3;have sizeM:ZMANY.size=(#[Value.int .u64 (Z:Int),.slice a6 M c6,.slice a9 K c9]:Array Value).size:=rfl;have allM:(#[Value.int .u64 (Z:Int),.slice a6 M c6,.slice a9 K c9]:Array Value).all (·.oneCell')=true:=by simp[Value.oneCell']
                have MM:Aside ((Tryz.prog.info? 45).map (·.size)=some (#[Value.int .u64 (Z:Int),.slice a6 M c6,.slice a9 K c9]:Array Value).size/\ZMANY.size=(#[Value.int .u64 (Z:Int),.slice a6 M c6,.slice a9 K c9]:Array Value).size/\(#[Value.int .u64 (Z:Int),.slice a6 M c6,.slice a9 K c9]:Array Value).all (·.oneCell')=true):=⟨infoM,sizeM,allM⟩
                clear ce ht W9 FA HA x9 infoM sizeM allM
                go_wp2_with (first
                  | (refine wpList_load_row rfl 45 (.tmp 3) rfl w4.heap.size rfl 45 #[.int .u64 (Z:Int),.slice a6 M c6,.slice a9 K c9] (0,0) _ WW.out.1 Tryz.underlying45 rfl MM.out.1 ?_)
                  | (refine wpList_store_row rfl 45 (.tmp 2) (.tmp 22) rfl _ _ rfl rfl 45 ZMANY WW.out.2 MM.out.1 MM.out.2.1 MM.out.2.2 ?_))
                refine bodyPost_ret (v:=.agg #[.int .u64 (Z:Int),.slice a6 M c6,.slice a9 K c9]) ?_ rfl (FN.out _ rfl);exact results_cell_row rfl _ _ w1.heap.size 45 _ (0,0) _ rfl (WW.out.2.row _) Tryz.underlying45 rfl MM.out.1
              · have hlen:32*K<u.length:=by
                  have h1:=W9.out.1.le;rw[hK] at h1;have h2:=List.length_pos_iff.2 ht;rw[List.length_drop] at h2;omega
                have eA:A=MERR 13:=by
                  rw[FA.out.1];unfold MD3;rw[if_neg (by simp),hK,if_neg (by show ¬ u.length<32*K;omega),if_pos (show 32*K<u.length from hlen)]
                exact⟨rfl,PROVED.die eA (by decide) W9.out.2.2.2.1⟩
            · have hlen:u.length<32*K:=by
                have h1:=hp.length_le;rw[List.nil_append,List.length_append,hK] at h1;have h2:=hO.1;simp at h1;omega
              have eA:A=MERR 11:=by
                rw[FA.out.1];unfold MD3;rw[if_neg (by simp),hK,if_pos (show u.length<32*K from hlen)]
              exact⟨rfl,PROVED.die eA (by decide) ⟨fun k hk hne=>(hO.2.1 k (by omega) (by omega) hne).trans ((hb8.block k (by omega)).trans (W7.out.2.2.1.kp k hk hne)),(W7.out.2.2.1.bl.trans (hb8.mono (by omega))).trans hO.2.2⟩⟩
          · have FN:Aside (A=MERR I.1/\I.1≠0/\STAY w w6 rb):=⟨by rw[MZ.out.1];unfold MD3;rw[if_pos hE],hE,W5.out.2.1.trans S6⟩
            exact⟨rfl,PROVED.die FN.out.1 FN.out.2.1 FN.out.2.2⟩
      · have cs:=mP W3.out.1 hl
        have FN:Aside (A=MERR (LNG t).2.2/\(LNG t).2.2≠0):=⟨by rw[<-HM.out];exact XR hl,hl⟩
        clear hl;generalize (LNG t).2.2=E at *
        go_wp2_with fail
        refine cs.mono ?_;rintro e w4 ⟨rfl,rfl⟩;exact⟨rfl,PROVED.die FN.out.1 FN.out.2 W3.out.2.1⟩
    · have eM:MDC (x :: t)=MERR 14:=if_neg hx
      rw[eM];have ck:=Kr HR.out hx;clear eM hx;go_enter Tryz.func72,Tryz.ntmps72;go_wp2_with fail
      refine ck.mono ?_;rintro e w3 ⟨rfl,rfl⟩;exact⟨rfl,PROVED.die rfl (by decide) HA.out.2.2.1⟩
theorem z0y(b0 b1:Nat)(w:World)(G:World->Prop)(B:Int->World->Prop)
  (hdo:Calls Tryz.prog 71 #[.pointer (some ⟨b0,0,none⟩),.pointer (some ⟨b1,0,none⟩)] (w.alloc (.cells #[.int .i64 0] 29)) fun e w'=>(e=.returned (.tuple #[])/\G w')\/∃ x,e=.panicked (zE x)/\B x w')
  (hG:∀ w',G w'->Has w' w.heap.size #[.int .i64 0] 29)(hB:∀ x w',B x w'->Has w' w.heap.size #[.int .i64 0] 29):
  Calls Tryz.prog 49 #[.func (.func 71) #[] #[.pointer (some ⟨b0,0,none⟩),.pointer (some ⟨b1,0,none⟩)]] w (xI w G B):=by
 have hmf:∀ (fn:Fn) (first cap:Array Value) (w:World),(Instr.makeFunc fn first cap).run Tryz.prog w=.ok (.func fn first cap) w:=fun _ _ _ _=>rfl;have HG:Aside (∀ w',G w'->Has w' w.heap.size #[.int .i64 0] 29):=hG;have HB:Aside (∀ x w',B x w'->Has w' w.heap.size #[.int .i64 0] 29):=hB;clear hG hB;go_enter_defers Tryz.func49,Tryz.ntmps49
 go_wp2_with fail
 refine hdo.mono ?_;rintro e w1 (⟨rfl,h1⟩ | ⟨x,rfl,h1⟩)
 ·clear hdo
  have hh:=HG.out w1 h1;have c0:=hh.cell 0;have f0:=hh.frozen 0;have G1:Aside (G w1):=h1;clear h1;go_wp2_with fail
  refine leaves_cons (f:=85) (args:=#[.pointer (some ⟨w.heap.size,0,none⟩)]) (by simp) (by simp[go_sem]) ?_;refine(Zj ⟨w.heap.size,0,none⟩ _).mono ?_;rintro e u' w'' ⟨rfl,rfl,rfl⟩;have c1:=(hh.set 0 (.int .i64 0)).cell 0;simp[Leaves,settle,results,Tryz.results49,go_sem,c1];exact .inl ⟨rfl,w1,G1.out,rfl⟩
 ·have hh:=HB.out x w1 h1
  have c0:=hh.cell 0;have f0:=hh.frozen 0;refine leaves_cons (f:=85) (args:=#[.pointer (some ⟨w.heap.size,0,none⟩)]) (by simp) (by simp[go_sem]) ?_;refine(jV ⟨w.heap.size,0,none⟩ 0 x [] w1 c0 f0).mono ?_;rintro e u' w'' ⟨rfl,rfl,rfl⟩;have c1:=(hh.set 0 (.int .i64 x)).cell 0;simp[Leaves,settle,results,Tryz.results49,go_sem,c1];exact .inr ⟨x,w1,rfl,h1,rfl⟩
end Go.Proofs.YtobaogpomcocpaaGreatDoor
