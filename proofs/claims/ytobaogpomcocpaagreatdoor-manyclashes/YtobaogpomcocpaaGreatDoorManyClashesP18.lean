/- ManyClashes: part 18. -/
import Derived.Defers
import Derived.Recover
import Derived.Test.YtobaogpomcocpaaGreatDoorManyClashesP17
set_option maxRecDepth 100000
set_option maxHeartbeats 4000000
open Go.RowKit
namespace Go.Proofs.YtobaogpomcocpaaGreatDoor
def NDED(w:World)(l:List (Nat × Nat))(e:Ending)(w':World):Prop:=∃ a c,e=.returned (.slice a l.length c)/\w'.ownsRow w.heap.size 77 2 (.slice a l.length c) l.length (zl l)/\Below w.heap.size w w'
theorem vq(h k:Nat)(hh:h<64)(L:List Nat)(a:Option Addr)(n c:Nat)(hl:L.length=n)(hn:n<2 ^ 14)(hx:∀ x∈L,x<2 ^ 64)(w:World)(hL:NUML w a L)(hU:UND h k L=[]):
  Calls Tryz.prog 62 #[SPOT h k,.slice a n c] w (NDED w [(h,k)]):=by
 obtain⟨w1,e1⟩:∃ w1,w.alloc (.cells #[.int .u8 (h:Int),.int .u64 (k:Int)] 77)=w1:=⟨_,rfl⟩
 have hB:Has w1 w.heap.size #[.int .u8 (h:Int),.int .u64 (k:Int)] 77:=by rw[<-e1];exact Has.new w _ _
 have hb1:Below w.heap.size w w1:=by rw[<-e1];exact(Below.refl _ _).alloc (Nat.le_refl _) _
 have cu:=jm h k hh L a n c hl (by omega) hx w1 (hL.keep hb1);rw[hU] at cu;have HA:Aside (Has w1 w.heap.size #[.int .u8 (h:Int),.int .u64 (k:Int)] 77/\Below w.heap.size w w1):=⟨hB,hb1⟩
 have x0:=hB.cell 0;have x1:=hB.cell 1;clear hh hl hn hx hL hU hB hb1;unfold SPOT at *
 go_enter Tryz.func62,Tryz.ntmps62;go_wp2_with fail
 refine cu.mono ?_;rintro e w2 ⟨a2,c2,rfl,hown,hb2⟩;have k2:=HA.out.1.keep hb2;have x0:=k2.cell 0;have x1:=k2.cell 1;have FN:Aside (Below w.heap.size w w2):=HA.out.2.trans (hb2.mono HA.out.2.size);clear cu hown hb2 k2 HA e1;go_wp2_with fail
 go_ret;exact⟨_,_,rfl,zq (mf w2 h k) FN.out.size,FN.out.alloc FN.out.size _⟩
theorem gY(k:Nat)(L:List Nat)(a:Option Addr)(n c:Nat)(hl:L.length=n)(hn:n<2 ^ 14)(hx:∀ x∈L,x<2 ^ 64)(w:World)(hL:NUML w a L)(hU:UND 0 k L≠[]):
  Calls Tryz.prog 62 #[SPOT 0 k,.slice a n c] w (NDED w []):=by
 obtain⟨w1,e1⟩:∃ w1,w.alloc (.cells #[.int .u8 0,.int .u64 (k:Int)] 77)=w1:=⟨_,rfl⟩
 have hB:Has w1 w.heap.size #[.int .u8 0,.int .u64 (k:Int)] 77:=by rw[<-e1];exact Has.new w _ _
 have hb1:Below w.heap.size w w1:=by rw[<-e1];exact(Below.refl _ _).alloc (Nat.le_refl _) _
 have cu:=jm 0 k (by decide) L a n c hl (by omega) hx w1 (hL.keep hb1);have hu0:(((UND 0 k L).length:Int) == 0)=false:=by have:=List.length_pos_iff.2 hU;simp;omega
 have hu1:¬ ((UND 0 k L).length:Int)=0:=by simpa using hu0
 have hu2:¬ (UND 0 k L).length=0:=by omega
 have HA:Aside (Has w1 w.heap.size #[.int .u8 0,.int .u64 (k:Int)] 77/\Below w.heap.size w w1):=⟨hB,hb1⟩
 have x0:=hB.cell 0;have x1:=hB.cell 1;have hS:SPOT 0 k=.agg #[.int .u8 0,.int .u64 (k:Int)]:=rfl;rw[hS] at *
 generalize UND 0 k L=U at *
 generalize U.length=u at *
 clear hl hn hx hL hU hB hb1;go_enter Tryz.func62,Tryz.ntmps62;go_wp2_with fail
 refine cu.mono ?_;rintro e w2 ⟨a2,c2,rfl,hown,hb2⟩;have k2:=HA.out.1.keep hb2;have x0:=k2.cell 0;have FN:Aside (Below w.heap.size w w2):=HA.out.2.trans (hb2.mono HA.out.2.size);clear cu hown hb2 k2 HA e1;go_wp2_with fail
 go_ret;exact⟨none,0,rfl,⟨rfl,.inl ⟨rfl,rfl⟩⟩,FN.out⟩
theorem Kh:∀ (h k:Nat),Node h k->∀ (L:List Nat) (a:Option Addr) (n c:Nat),L.length=n->n<2 ^ 14->(∀ x∈L,x<2 ^ 64)->∀ (w:World),NUML w a L->
   Calls Tryz.prog 62 #[SPOT h k,.slice a n c] w (NDED w (NSP h k (UND h k L))):=by
 intro h;induction h with
 | zero=>
   intro k hN L a n c hl hn hx w hL;by_cases hU:UND 0 k L=[]
   ·rw[hU,ZU]
    exact vq 0 k (by decide) L a n c hl hn hx w hL hU
   ·have e:NSP 0 k (UND 0 k L)=[]:=by
     generalize UND 0 k L=U at *
     cases U with
     | nil=>exact absurd rfl hU
     | cons y l=>rfl
    rw[e];exact gY k L a n c hl hn hx w hL hU
 | succ h ih=>
   intro k hN L a n c hl hn hx w hL;have hh:h+1<64:=by have:=hN.1;omega
   by_cases hU:UND (h+1) k L=[]
   ·rw[hU,ZU]
    exact vq (h+1) k hh L a n c hl hn hx w hL hU
   ·obtain⟨w1,e1⟩:∃ w1,w.alloc (.cells #[.int .u8 ((h+1:Nat):Int),.int .u64 (k:Int)] 77)=w1:=⟨_,rfl⟩
    have hB:Has w1 w.heap.size #[.int .u8 ((h+1:Nat):Int),.int .u64 (k:Int)] 77:=by rw[<-e1];exact Has.new w _ _
    have hb1:Below w.heap.size w w1:=by rw[<-e1];exact(Below.refl _ _).alloc (Nat.le_refl _) _
    have cu:=jm (h+1) k hh L a n c hl (by omega) hx w1 (hL.keep hb1);have hul:=xQ (h+1) k L;have hux:∀ x∈UND (h+1) k L,x<2 ^ 64:=fun x hx'=>hx x (qS hx').1;obtain⟨hNl,hNr⟩:=hN.kid;have hsp:=z1y h k L hU;have hu2:¬ (UND (h+1) k L).length=0:=by have:=List.length_pos_iff.2 hU;omega
    have m1:=ZI h (2*k) (UND h (2*k) (UND (h+1) k L));have m2:=ZI h (2*k+1) (UND h (2*k+1) (UND (h+1) k L));have n1:=xQ h (2*k) (UND (h+1) k L);have n2:=xQ h (2*k+1) (UND (h+1) k L);have hk62:=hN.2;have hh62:=hN.1;obtain⟨U,hUe⟩:∃ U,UND (h+1) k L=U:=⟨_,rfl⟩
    rw[hUe] at cu hul hux hsp hu2 m1 m2 n1 n2;rw[hUe,hsp];obtain⟨A,hA⟩:∃ A,NSP h (2*k) (UND h (2*k) U)=A:=⟨_,rfl⟩
    obtain⟨B,hBB⟩:∃ B,NSP h (2*k+1) (UND h (2*k+1) U)=B:=⟨_,rfl⟩
    rw[hA,hBB];have hp62:2 ^ (62 - (h+1))<=2 ^ 62:=Nat.pow_le_pow_right (by decide) (by omega)
    have few:∀ x:Nat,x<=U.length->x*h+1<=2 ^ 22:=fun x hx=>by
     have h1:x*h<=2 ^ 14*63:=Nat.mul_le_mul (by omega) (by omega);omega
    have hmm:A.length+B.length<=2 ^ 26:=by
     rw[<-hA,<-hBB];have:=few _ n1;have:=few _ n2;omega
    have ew1:IntKind.u8.wrap (((h+1:Nat):Int) - 1)=(h:Int):=by
     show (((h+1:Nat):Int) - 1) % 256=(h:Int)
     omega
    have ew2:IntKind.u64.wrap (2*(k:Int))=((2*k:Nat):Int):=by rw[zh];omega
    have ew3:IntKind.u64.wrap (((2*k:Nat):Int)+1)=((2*k+1:Nat):Int):=by rw[zh];omega
    have HA:Aside (Has w1 w.heap.size #[.int .u8 ((h+1:Nat):Int),.int .u64 (k:Int)] 77/\Below w.heap.size w w1/\A.length+B.length<=2 ^ 26):=⟨hB,hb1,hmm⟩
    have IH1:Aside (∀ W a' c',NUML W a' U->Calls Tryz.prog 62 #[.agg #[.int .u8 (h:Int),.int .u64 ((2*k:Nat):Int)],.slice a' U.length c'] W (NDED W A)):=fun W a' c' hW=>by
     rw[<-hA];exact ih (2*k) hNl U a' U.length c' rfl (by omega) hux W hW
    have IH2:Aside (∀ W a' c',NUML W a' U->Calls Tryz.prog 62 #[.agg #[.int .u8 (h:Int),.int .u64 ((2*k+1:Nat):Int)],.slice a' U.length c'] W (NDED W B)):=fun W a' c' hW=>by
     rw[<-hBB];exact ih (2*k+1) hNr U a' U.length c' rfl (by omega) hux W hW
    have EW:Aside (IntKind.u8.wrap (((h+1:Nat):Int) - 1)=(h:Int)/\IntKind.u64.wrap (2*(k:Int))=((2*k:Nat):Int)/\IntKind.u64.wrap (((2*k:Nat):Int)+1)=((2*k+1:Nat):Int)):=⟨ew1,ew2,ew3⟩
    have hh1:(((h+1:Nat):Int) == 0)=false:=by simp;omega
    have hS:SPOT (h+1) k=.agg #[.int .u8 ((h+1:Nat):Int),.int .u64 (k:Int)]:=rfl;have x0:=hB.cell 0;have x1:=hB.cell 1;rw[hS] at *
    clear hl hn hx hL hU hUe hB hb1 hul hux hNl hNr hsp m1 m2 n1 n2 hk62 hh62 hA hBB hp62 few hmm ih hN hh ew3;generalize h+1=H at *
    generalize 2*k=k2 at *
    generalize k2+1=k3 at *
    obtain⟨u,hu⟩:∃ u,U.length=u:=⟨_,rfl⟩
    rw[hu] at cu hu2 IH1 IH2;have HU:Aside (U.length=u):=hu;have hu0:((u:Int) == 0)=false:=by simp;omega
    clear hu;go_enter Tryz.func62,Tryz.ntmps62;go_wp2_with fail
    refine cu.mono ?_;rintro e w2 ⟨a2,c2,rfl,hown,hb2⟩;have k2h:=HA.out.1.keep hb2;have x0:=k2h.cell 0;have x1:=k2h.cell 1;have N2:Aside (Has w2 w.heap.size #[.int .u8 (H:Int),.int .u64 (k:Int)] 77/\Below w.heap.size w w2/\NUML w2 a2 U):=⟨k2h,HA.out.2.1.trans (hb2.mono HA.out.2.1.size),xD hown HU.out⟩
    have c1:=IH1.out w2 a2 c2 N2.out.2.2;clear cu hown hb2 k2h e1 IH1;go_wp2_with fail
    refine c1.mono ?_;rintro e w3 ⟨a3,c3,rfl,hown3,hb3⟩;have N3:Aside (Has w3 w.heap.size #[.int .u8 (H:Int),.int .u64 (k:Int)] 77/\Below w.heap.size w w3/\NUML w3 a2 U/\w3.ownsRow w2.heap.size 77 2 (.slice a3 A.length c3) A.length (zl A)):=⟨N2.out.1.keep hb3,N2.out.2.1.trans (hb3.mono N2.out.2.1.size),N2.out.2.2.keep hb3,hown3⟩
    clear c1 hown3 hb3 N2 x0 x1 ew1 ew2;go_upto_region 7 with fail
    refine z2p w3 w.heap.size H h k k2 k3 a2 u c2 w2.heap.size a3 A.length c3 B.length A B N3.out.1.lt (N3.out.1.cell 0) (N3.out.1.cell 1) EW.out.1 EW.out.2.1 EW.out.2.2 N3.out.2.2.2 HA.out.2.2 (fun W hb=>IH2.out W a2 c2 (N3.out.2.2.1.keep hb)) (fun _ _ _ _ _ h=>h) ?_;intro z a4 q4 a5 q5 a6 q6 w4 ⟨hb4,hown4⟩;have FN:Aside (NDED w (A ++ B) (.returned (.slice a6 (A.length+B.length) q6)) w4):=⟨a6,q6,by rw[List.length_append],by rw[List.length_append];exact zq hown4 N3.out.2.1.size,N3.out.2.1.trans (hb4.mono N3.out.2.1.size)⟩
    clear hb4 hown4 N3 IH2 EW HA;dsimp only;go_wp2_with fail
    go_ret;exact FN.out
theorem mu(w0:World)(bi:Nat)(CP:Nat)(S P:List Nat->World->Prop)(X:List PanicEntry)
    (hS:∀ acc w w',S acc w->Below w.heap.size w w'->S acc w')(hB:∀ acc w,S acc w->(bi<w0.heap.size->w.heap[bi]?=w0.heap[bi]?)/\w0.heap.size<=w.heap.size)
    (ht:∀ acc (p:Nat) w,S acc w->acc.length<=2 ^ 30->Calls Tryz.prog 53 #[.int .u64 (p:Int),.pointer (some ⟨CP,0,none⟩)] w fun e w'=>(e=.returned (.tuple #[])/\S (acc ++ [p]) w')\/(e=.panicked X/\P acc w')):
    ∀ (h k:Nat),Node h k->∀ (L:List Nat) (a:Option Addr) (n c:Nat) (acc:List Nat) (w:World),L.length=n->n<2 ^ 40->RISES L->n<=c->(a=none->c=0)->(∀ x,a=some x->x.block=bi/\x.spot=none)->NUML w0 a L->S acc w->acc.length+(NEED h k L).length<=2 ^ 30->
    Calls Tryz.prog 86 #[.int .u64 ((PLC h k:Nat):Int),.slice a n c,.func (.func 53) #[] #[.pointer (some ⟨CP,0,none⟩)]] w (TOLD S P X acc (NEED h k L)):=by
  intro h;induction h with
  | zero=>
    intro k hN L a n c acc w hl hn hR hc hnil hbl hL hw hlen;cases L with
    | nil=>
      obtain rfl:n=0:=by simpa using hl.symm
      rw[yh] at hlen ⊢;have ct:=ht acc (PLC 0 k) w hw (by simp at hlen;omega);clear hl hn hR hc hnil hbl hL hw hlen ht hS hB;go_enter Tryz.func86,Tryz.ntmps86;go_wp2_with fail
      refine ct.mono ?_;rintro e w1 (⟨rfl,h1⟩ | ⟨rfl,h1⟩)
      · clear ct
        have FN:Aside (S (acc ++ [PLC 0 k]) w1):=h1;clear h1;go_wp2_with fail
        exact bodyPost_ret (v:=.tuple #[]) (by simp[results,Tryz.f86]) rfl (.inl ⟨rfl,FN.out⟩)
      · exact⟨rfl,.inr ⟨acc,PLC 0 k,List.prefix_refl _,rfl,h1⟩⟩
    | cons x l=>
      have hn0:((n:Int) == 0)=false:=beq_eq_false_iff_ne.2 (by simp at hl;omega);have ck:=jl ((PLC 0 k:Nat):Int) k w (.node hN);have HS:Aside (∀ w',Below w.heap.size w w'->S (acc ++ []) w'):=fun w' hb=>by rw[List.append_nil];exact hS acc w w' hw hb
      clear hl hn hR hc hnil hbl hL hw hlen ht hS hB;go_enter Tryz.func86,Tryz.ntmps86;go_wp2_with fail
      refine ck.mono ?_;rintro e w1 ⟨rfl,h1⟩;clear ck;have FN:Aside (S (acc ++ []) w1):=HS.out w1 h1;clear h1 HS;go_wp2_with fail
      exact bodyPost_ret (v:=.tuple #[]) (by simp[results,Tryz.f86]) rfl (.inl ⟨rfl,FN.out⟩)
  | succ h ih=>
    intro k hN L a n c acc w hl hn hR hc hnil hbl hL hw hlen;by_cases hLe:L=[]
    · subst hLe
      obtain rfl:n=0:=by simpa using hl.symm
      rw[yh] at hlen ⊢;have ct:=ht acc (PLC (h+1) k) w hw (by simp at hlen;omega);clear hl hn hR hc hnil hbl hL hw hlen ht hS hB ih;go_enter Tryz.func86,Tryz.ntmps86;go_wp2_with fail
      refine ct.mono ?_;rintro e w1 (⟨rfl,h1⟩ | ⟨rfl,h1⟩)
      · clear ct
        have FN:Aside (S (acc ++ [PLC (h+1) k]) w1):=h1;clear h1;go_wp2_with fail
        exact bodyPost_ret (v:=.tuple #[]) (by simp[results,Tryz.f86]) rfl (.inl ⟨rfl,FN.out⟩)
      · exact⟨rfl,.inr ⟨acc,PLC (h+1) k,List.prefix_refl _,rfl,h1⟩⟩
    · have hn0:((n:Int) == 0)=false:=beq_eq_false_iff_ne.2 (by have:=List.length_pos_iff.2 hLe;omega)
      obtain⟨hNl,hNr⟩:=hN.kid;have ck:=jE h k hN w;have HA:Aside (L.length=n/\n<2 ^ 40/\RISES L/\n<=c/\(a=none->c=0)/\(∀ x,a=some x->x.block=bi/\x.spot=none)/\NUML w0 a L/\S acc w/\acc.length+(NEED (h+1) k L).length<=2 ^ 30/\L≠[]):=⟨hl,hn,hR,hc,hnil,hbl,hL,hw,hlen,hLe⟩
      have NS:Aside ((∀ acc w w',S acc w->Below w.heap.size w w'->S acc w')/\(∀ acc w,S acc w->(bi<w0.heap.size->w.heap[bi]?=w0.heap[bi]?)/\w0.heap.size<=w.heap.size)/\Node h (2*k)/\Node h (2*k+1)):=⟨hS,hB,hNl,hNr⟩
      have IH:Aside _:=ih;clear hl hn hR hc hnil hbl hL hw hlen ht hS hB ih hNl hNr hLe;go_enter Tryz.func86,Tryz.ntmps86;go_wp2_with fail
      refine ck.mono ?_;rintro e w1 ⟨rfl,hb1⟩;clear ck;have S1:Aside (S acc w1):=NS.out.1 acc w w1 HA.out.2.2.2.2.2.2.2.1 hb1
      have hN1:NUML w1 a L:=fun h0=>by
        obtain⟨b,o,e,hl,hcc⟩:=HA.out.2.2.2.2.2.2.1 h0;have hbb:b=bi:=(HA.out.2.2.2.2.2.1 _ e).1;obtain⟨k1,k2⟩:=NS.out.2.1 acc w1 S1.out;subst hbb;exact⟨b,o,e,by omega,fun i x hx=>(World.cell?_of_block (w:=w0) (by exact k1 hl)).trans (hcc i x hx)⟩
      have cs:=yU h (2*k) NS.out.2.2.1 a n c L HA.out.1 HA.out.2.1 HA.out.2.2.1 HA.out.2.2.2.1 HA.out.2.2.2.2.1 (fun x e=>(HA.out.2.2.2.2.2.1 x e).2) w1 hN1;clear hb1 hN1;go_wp2_with fail
      refine cs.mono ?_;rintro e w2 ⟨r,a',rfl,hs⟩;clear cs;have hsp:NEED (h+1) k L=NEED h (2*k) (L.take r) ++ NEED h (2*k+1) (L.drop r):=xR HA.out.2.2.2.2.2.2.2.2.2 hs.rank;have hrn:=hs.rank.le
      have ML:Aside (NUML w0 a (L.take r)):=fun h0=>by
        obtain⟨b,o,e,hl,hcc⟩:=HA.out.2.2.2.2.2.2.1 (by rw[List.length_take] at h0;omega);refine⟨b,o,e,hl,fun i x hx=>hcc i x ?_⟩;rw[List.getElem?_take] at hx;split at hx
        · exact hx
        · cases hx
      have MR:Aside (NUML w0 a' (L.drop r)/\∀ x,a'=some x->x.block=bi/\x.spot=none):=by
        refine⟨fun h0=>?_,fun x hx=>?_⟩
        · obtain⟨b,o,e,hl,hcc⟩:=hs.lies h0
          obtain⟨y,e2,e3⟩:=hs.block _ e;have hbb:b=bi:=by have:=(HA.out.2.2.2.2.2.1 _ e2).1;rw[<-e3] at this;exact this
          obtain⟨k1,k2⟩:=NS.out.2.1 acc w1 S1.out;obtain⟨b',o',e',hl',_⟩:=HA.out.2.2.2.2.2.2.1 (by rw[List.length_drop] at h0;omega);have hbi:bi<w0.heap.size:=by have h9:b'=bi:=(HA.out.2.2.2.2.2.1 _ e').1;omega
          subst hbb;exact⟨b,o,e,hbi,fun i x hx=>(World.cell?_of_block (w:=w1) (by exact(k1 hbi).symm)).trans (hcc i x hx)⟩
        · obtain⟨y,e2,e3⟩:=hs.block x hx
          refine⟨by rw[e3];exact(HA.out.2.2.2.2.2.1 _ e2).1,hs.spot x hx⟩
      have S2:Aside (S acc w2):=NS.out.1 acc w1 w2 S1.out hs.below;have NL:Aside (a'=none->c - r=0):=hs.nil
      have SP:Aside (NEED (h+1) k L=NEED h (2*k) (L.take r) ++ NEED h (2*k+1) (L.drop r)/\r<=n/\acc.length+(NEED h (2*k) (L.take r)).length+(NEED h (2*k+1) (L.drop r)).length<=2 ^ 30):=by
        refine⟨hsp,by have:=HA.out.1;omega,?_⟩;have h1:=HA.out.2.2.2.2.2.2.2.2.1;rw[hsp,List.length_append] at h1;omega
      clear hs hsp hrn S1;have c1:=IH.out (2*k) NS.out.2.2.1 (L.take r) a r c acc w2 (by rw[List.length_take];have:=SP.out.2.1;have:=HA.out.1;omega) (by have:=SP.out.2.1;have:=HA.out.2.1;omega) (HA.out.2.2.1.take r) (by have:=SP.out.2.1;have:=HA.out.2.2.2.1;omega) HA.out.2.2.2.2.1 HA.out.2.2.2.2.2.1 ML.out S2.out (by have:=SP.out.2.2;omega);go_wp2_with fail
      refine c1.mono ?_;rintro e w3 (⟨rfl,h3⟩ | ⟨pre,p,hp,rfl,h3⟩)
      · clear c1
        have c2:=IH.out (2*k+1) NS.out.2.2.2 (L.drop r) a' (n - r) (c - r) (acc ++ NEED h (2*k) (L.take r)) w3 (by rw[List.length_drop];have:=HA.out.1;omega) (by have:=HA.out.2.1;omega) (HA.out.2.2.1.drop r) (by have:=HA.out.2.2.2.1;omega) NL.out MR.out.2 MR.out.1 h3 (by rw[List.length_append];exact SP.out.2.2);have SQ:Aside (acc ++ NEED h (2*k) (L.take r) ++ NEED h (2*k+1) (L.drop r)=acc ++ NEED (h+1) k L):=show acc ++ NEED h (2*k) (L.take r) ++ NEED h (2*k+1) (L.drop r)=acc ++ NEED (h+1) k L by rw[SP.out.1,List.append_assoc]
        clear h3 IH HA NS ML MR S2 NL SP;go_wp2_with fail
        refine c2.mono ?_;rintro e w4 (⟨rfl,h4⟩ | ⟨pre,p,hp,rfl,h4⟩)
        · have FN:Aside (S (acc ++ NEED (h+1) k L) w4):=by rw[SQ.out] at h4;exact h4
          clear h4 c2 SQ;go_wp2_with fail
          exact bodyPost_end (v:=.tuple #[]) (by simp[results,Tryz.f86]) rfl (.inl ⟨rfl,FN.out⟩)
        · rw[SQ.out] at hp
          exact⟨rfl,.inr ⟨pre,p,hp,rfl,h4⟩⟩
      · refine⟨rfl,.inr ⟨pre,p,hp.trans ?_,rfl,h3⟩⟩
        rw[SP.out.1,<-List.append_assoc];exact List.prefix_append _ _
theorem z0k(bi CP:Nat)(S P:World->List Nat->World->Prop)(X:List PanicEntry)
  (hS:∀ w0 acc w w',S w0 acc w->Below w.heap.size w w'->S w0 acc w')(hB:∀ w0 acc w,S w0 acc w->(∀ b,b<w0.heap.size->b≠CP->w.heap[b]?=w0.heap[b]?)/\w0.heap.size<=w.heap.size)
  (ht:∀ w0 acc (p:Nat) w,S w0 acc w->acc.length<=2 ^ 30->Calls Tryz.prog 53 #[.int .u64 (p:Int),.pointer (some ⟨CP,0,none⟩)] w fun e w'=>(e=.returned (.tuple #[])/\S w0 (acc ++ [p]) w')\/(e=.panicked X/\P w0 acc w'))
  (N:Nat)(hN:N<=4611686018427387904)(L:List Nat)(a:Option Addr)(n c:Nat)(w:World)(hl:L.length=n)(hn:n<2 ^ 20)(hR:RISES L)(hc:n<=c)(hnil:a=none->c=0)(hbl:∀ x,a=some x->x.block=bi/\x.spot=none)(hL:NUML w a L)(hCb:bi≠CP)(hCP:CP<w.heap.size)(hT:Tabled w)
  (h0:∀ w1,Below w.heap.size w w1->S w1 [] w1):
  Calls Tryz.prog 52 #[.slice a n c,.int .u64 (N:Int),.func (.func 53) #[] #[.pointer (some ⟨CP,0,none⟩)]] w fun e w'=>∃ w1,Below w.heap.size w w1/\TOLD (S w1) (P w1) X [] (zc (TPS N) L) e w':=by
 have cp:=jv N hN w hT (by omega);have hPC:PC N<=64:=yC 64 N (by omega);have hlen:=yR (n:=N) (by omega);have hmost:=jh (TPS N) L (fun p hp=>(yu (n:=N) (by omega) (h:=p.1) (k:=p.2) hp).1);have HA:Aside (n<2 ^ 20/\N<=2 ^ 62/\PC N<=64/\(TPS N).length=PC N/\(zc (TPS N) L).length<=2 ^ 30/\bi≠CP/\CP<w.heap.size):=⟨hn,by omega,hPC,hlen,by omega,hCb,hCP⟩
 have ST:Aside ((∀ w0 acc w w',S w0 acc w->Below w.heap.size w w'->S w0 acc w')/\(∀ w0 acc w,S w0 acc w->(∀ b,b<w0.heap.size->b≠CP->w.heap[b]?=w0.heap[b]?)/\w0.heap.size<=w.heap.size)):=⟨hS,hB⟩
 have HT:Aside (∀ w0 acc (p:Nat) w,S w0 acc w->acc.length<=2 ^ 30->Calls Tryz.prog 53 #[.int .u64 (p:Int),.pointer (some ⟨CP,0,none⟩)] w fun e w'=>(e=.returned (.tuple #[])/\S w0 (acc ++ [p]) w')\/(e=.panicked X/\P w0 acc w')):=ht;have LL:Aside (L.length=n/\RISES L/\n<=c/\(a=none->c=0)/\(∀ x,a=some x->x.block=bi/\x.spot=none)/\NUML w a L/\∀ w1,Below w.heap.size w w1->S w1 [] w1):=⟨hl,hR,hc,hnil,hbl,hL,h0⟩
 clear hN hl hn hR hc hnil hbl hL hCb hCP hT h0 hS hB ht hPC hlen hmost;go_enter Tryz.func52,Tryz.ntmps52;go_wp2_with fail
 refine cp.mono ?_;rintro e w1 ⟨g,cg,rfl,hown,hb1⟩;clear cp;obtain⟨m,hm⟩:∃ m,PC N=m:=⟨_,rfl⟩
 rw[hm] at hown ⊢;have R1:Aside (w1.ownsRow w.heap.size 24 1 (.slice (some ⟨g,0,none⟩) m cg) m (ze (yW N))/\Below w.heap.size w w1/\PC N=m/\g≠CP/\g<w1.heap.size/\w.heap.size<=g):=⟨hown,hb1,hm,by have h1:=(hown.lt g rfl).1;have:=HA.out.2.2.2.2.2.2;omega,(hown.lt g rfl).2,(hown.lt g rfl).1⟩
 have L0:Aside (NUML w1 a L):=fun h0=>by
  obtain⟨b,o,e,hl,hcc⟩:=LL.out.2.2.2.2.2.1 h0;exact⟨b,o,e,Nat.lt_of_lt_of_le hl hb1.size,fun i x hx=>(hb1.cell (p:=⟨b,o+i,none⟩) hl).trans (hcc i x hx)⟩
 clear hown hb1 hm;go_wp2_with fail
 go_loopg [0,13] m (fun q s0 s13 wx=>∃ (j n' c':Nat) (a':Option Addr) (Lj told:List Nat),s0=.slice a' n' c'/\s13=.int .i64 (j:Int)/\Aside (j+q=m/\Lj.length=n'/\n'<=n/\RISES Lj/\n'<=c'/\(a'=none->c'=0)/\(∀ x,a'=some x->x.block=bi/\x.spot=none)/\NUML w1 a' Lj/\S w1 told wx/\zc (TPS N) L=told ++ zc ((TPS N).drop j) Lj))
 case atStart=>exact⟨0,n,c,a,L,[],rfl,rfl,by omega,LL.out.1,Nat.le_refl _,LL.out.2.1,LL.out.2.2.1,LL.out.2.2.2.1,LL.out.2.2.2.2.1,L0.out,LL.out.2.2.2.2.2.2 w1 R1.out.2.1,by simp⟩
 case round=>
  obtain⟨j,n',c',a',Lj,told,rfl,rfl,A⟩:=hrel;clear L0 LL;cases gk with
  | zero=>
    obtain rfl:j=m:=by have:=A.out.1;omega
    have hlt:¬ (j:Int)<(j:Int):=by omega
    have FN:Aside (∃ w1,Below w.heap.size w w1/\TOLD (S w1) (P w1) X [] (zc (TPS N) L) (.returned (.tuple #[])) wr):=by
     obtain⟨h1,h2,h3,h4,h5,h6,h7,h8,h9,h10⟩:=A.out;refine⟨w1,R1.out.2.1,.inl ⟨rfl,?_⟩⟩;rw[List.drop_of_length_le (by have:=R1.out.2.2.1;have:=HA.out.2.2.2.1;omega)] at h10;rw[h10,zc,List.append_nil,List.nil_append];exact h9
    clear A R1 ST HT HA;go_wp2_with fail
    exact bodyPost_end (v:=.tuple #[]) (by simp[results,Tryz.f52]) rfl FN.out
  | succ q=>
    have hlt:(j:Int)<(m:Int):=by have:=A.out.1;omega
    have hjm:j<(TPS N).length:=by have:=A.out.1;have:=R1.out.2.2.1;have:=HA.out.2.2.2.1;omega
    obtain⟨⟨h,k⟩,ehk⟩:∃ s,(TPS N)[j]?=some s:=⟨_,List.getElem?_eq_getElem hjm⟩
    have hsp:=yu HA.out.2.1 (List.mem_of_getElem? ehk);have epk:=jA ehk;obtain⟨k1,k2⟩:=ST.out.2 w1 told wr A.out.2.2.2.2.2.2.2.2.1
    have hcell:wr.cell? ⟨g,j,none⟩=some (.int .u64 ((PLC h k:Nat):Int)):=by
     have h1:=R1.out.1.cellAt j (by have:=A.out.1;omega);refine(World.cell?_of_block (w:=w1) (by exact k1 g R1.out.2.2.2.2.1 R1.out.2.2.2.1)).trans (h1.trans ?_);rw[ze,List.getElem?_map,epk];rfl
    have ej:wrap64 ((j:Int)+1)=((j+1:Nat):Int):=by have:=A.out.1;have:=R1.out.2.2.1;have:=HA.out.2.2.1;unfold wrap64;omega
    have hN1:NUML wr a' Lj:=fun h0=>by
     obtain⟨b,o,e,hl,hcc⟩:=A.out.2.2.2.2.2.2.2.1 h0;have hbb:b=bi:=(A.out.2.2.2.2.2.2.1 _ e).1;exact⟨b,o,e,by omega,fun i x hx=>(World.cell?_of_block (w:=w1) (by exact k1 b hl (by rw[hbb];exact HA.out.2.2.2.2.2.1))).trans (hcc i x hx)⟩
    have cs:=yU h k hsp.2.2 a' n' c' Lj A.out.2.1 (by have:=A.out.2.2.1;have:=HA.out.1;omega) A.out.2.2.2.1 A.out.2.2.2.2.1 A.out.2.2.2.2.2.1 (fun x e=>(A.out.2.2.2.2.2.2.1 x e).2) wr hN1;have SP:Aside (Node h k/\(TPS N)[j]?=some (h,k)/\j<(TPS N).length):=⟨hsp.2.2,ehk,hjm⟩
    clear hsp ehk epk k1 k2 hN1 hjm;go_wp2_with fail
    refine cs.mono ?_;rintro e w2 ⟨r,a2,rfl,hs⟩;clear cs hcell;have hdrop:(TPS N).drop j=(h,k) :: (TPS N).drop (j+1):=ZT SP.out.2.1;have hneed:=y7 ((TPS N).drop (j+1)) hs.rank;rw[<-hdrop] at hneed;have hrn:=hs.rank.le;have S2:S w1 told w2:=ST.out.1 w1 told wr w2 A.out.2.2.2.2.2.2.2.2.1 hs.below
    have MR:Aside (NUML w1 a2 (Lj.drop r)/\(∀ x,a2=some x->x.block=bi/\x.spot=none)/\(a2=none->c' - r=0)/\r<=n'/\NUML w1 a' (Lj.take r)/\zc ((TPS N).drop j) Lj=NEED h k (Lj.take r) ++ zc ((TPS N).drop (j+1)) (Lj.drop r)):=by
     refine⟨fun h0=>?_,fun x hx=>?_,hs.nil,by have:=A.out.2.1;omega,fun h0=>?_,hneed⟩
     ·obtain⟨b,o,e,hl,hcc⟩:=hs.lies h0
      obtain⟨y,e2,e3⟩:=hs.block _ e;have hbb:b=bi:=by have:=(A.out.2.2.2.2.2.2.1 _ e2).1;rw[<-e3] at this;exact this
      obtain⟨k1,k2⟩:=ST.out.2 w1 told wr A.out.2.2.2.2.2.2.2.2.1;obtain⟨b',o',e',hl',_⟩:=A.out.2.2.2.2.2.2.2.1 (by rw[List.length_drop] at h0;omega);have hbi:bi<w1.heap.size:=by have h9:b'=bi:=(A.out.2.2.2.2.2.2.1 _ e').1;omega
      subst hbb;exact⟨b,o,e,hbi,fun i x hx=>(World.cell?_of_block (w:=wr) (by exact(k1 b hbi HA.out.2.2.2.2.2.1).symm)).trans (hcc i x hx)⟩
     ·obtain⟨y,e2,e3⟩:=hs.block x hx
      exact⟨by rw[e3];exact(A.out.2.2.2.2.2.2.1 _ e2).1,hs.spot x hx⟩
     ·obtain⟨b,o,e,hl,hcc⟩:=A.out.2.2.2.2.2.2.2.1 (by rw[List.length_take] at h0;omega)
      refine⟨b,o,e,hl,fun i x hx=>hcc i x ?_⟩;rw[List.getElem?_take] at hx;split at hx
      ·exact hx
      ·cases hx
    have TL:Aside (told.length+(NEED h k (Lj.take r)).length<=2 ^ 30/\zc (TPS N) L=told ++ NEED h k (Lj.take r) ++ zc ((TPS N).drop (j+1)) (Lj.drop r)):=by
     have h1:=A.out.2.2.2.2.2.2.2.2.2;rw[MR.out.2.2.2.2.2,<-List.append_assoc] at h1;refine⟨?_,h1⟩;have h2:=HA.out.2.2.2.2.1;rw[h1,List.length_append,List.length_append] at h2;omega
    have cu:=mu w1 bi CP (S w1) (P w1) X (ST.out.1 w1) (fun acc w hw=>⟨fun hbi=>(ST.out.2 w1 acc w hw).1 bi hbi HA.out.2.2.2.2.2.1,(ST.out.2 w1 acc w hw).2⟩) (HT.out w1) h k SP.out.1 (Lj.take r) a' r c' told w2 (by rw[List.length_take];have:=A.out.2.1;have:=MR.out.2.2.2.1;omega) (by have:=MR.out.2.2.2.1;have:=A.out.2.2.1;have:=HA.out.1;omega) (A.out.2.2.2.1.take r) (by have:=MR.out.2.2.2.1;have:=A.out.2.2.2.2.1;omega) A.out.2.2.2.2.2.1 A.out.2.2.2.2.2.2.1 MR.out.2.2.2.2.1 S2 TL.out.1;clear hs hdrop hneed hrn S2;go_wp2_with fail
    refine cu.mono ?_;rintro e w3 (⟨rfl,h3⟩ | ⟨pre,p,hp,rfl,h3⟩)
    ·have Z:Aside (j+1+q=m/\(Lj.drop r).length=n' - r/\n' - r<=n/\RISES (Lj.drop r)/\n' - r<=c' - r/\(a2=none->c' - r=0)/\(∀ x,a2=some x->x.block=bi/\x.spot=none)/\NUML w1 a2 (Lj.drop r)/\S w1 (told ++ NEED h k (Lj.take r)) w3/\zc (TPS N) L=(told ++ NEED h k (Lj.take r)) ++ zc ((TPS N).drop (j+1)) (Lj.drop r)):=by
      obtain⟨h1,h2,_,h4,h5,_⟩:=A.out;refine⟨by clear ej;omega,by rw[List.length_drop,h2],by have:=A.out.2.2.1;clear ej;omega,h4.drop r,by clear ej;omega,MR.out.2.2.1,MR.out.2.1,MR.out.1,h3,TL.out.2⟩
     clear h3 cu A MR TL SP R1;go_wp2_with fail
     go_roundg q
     case measure=>exact Nat.lt_succ_self _
     case rel=>exact⟨j+1,n' - r,c' - r,a2,Lj.drop r,told ++ NEED h k (Lj.take r),rfl,by first | rfl | (rw[ej]),Z.out⟩
    ·refine⟨rfl,w1,R1.out.2.1,.inr ⟨pre,p,hp.trans ?_,rfl,h3⟩⟩
     rw[List.nil_append,TL.out.2];exact List.prefix_append _ _
theorem jV(p:Addr)(y x:Int)(older:List PanicEntry)(w:World)(hc:w.cell? p=some (.int .i64 y))(hz:w.frozen? p=false):
  CallsD Tryz.prog 85 #[.pointer (some p)] (.panicking ({v:=.iface 114 (.int .i64 x),recovered:=false} :: older)) w fun e u' w'=>
   e=.returned (.tuple #[])/\u'=.panicking ({v:=.iface 114 (.int .i64 x),recovered:=true} :: older)/\w'=w.setCell p (.int .i64 x):=by
 have hta:∀ (t:TypeId) (w:World),(Instr.typeAssert (.iface 114 (.int .i64 x)) t 114 false).run Tryz.prog w=.ok (.int .i64 x) w:=fun t w=>by rfl
 refine callsD_of_wpS Tryz.func85 rfl fun c₀ cs hu=>?_;apply wpS_seq;apply wpS_region;simp[wpOpsS,go_sem,recoverD,hu,Tryz.ntmps85,Exit.thenS];refine wpS_of_wp ?_;simp[Array.replicate];go_wp2;simp[bodyPostS,results,Tryz.results85]
theorem Zj(p:Addr)(w:World):
  CallsD Tryz.prog 85 #[.pointer (some p)] .returning w fun e u' w'=>e=.returned (.tuple #[])/\u'=.returning/\w'=w:=by
 refine callsD_of_wpS Tryz.func85 rfl fun c₀ cs hu=>?_;apply wpS_seq;apply wpS_region;simp[wpOpsS,go_sem,recoverD,hu,Tryz.ntmps85,Exit.thenS];refine wpS_of_wp ?_;simp[Array.replicate];go_wp2;cases c₀;simp_all [bodyPostS,results,Tryz.results85]
def xI(w:World)(G:World->Prop)(B:Int->World->Prop)(e:Ending)(w'':World):Prop:=
 (e=.returned (.int .i64 0)/\∃ w',G w'/\w''=w'.setCell ⟨w.heap.size,0,none⟩ (.int .i64 0))\/∃ x w',e=.returned (.int .i64 x)/\B x w'/\w''=w'.setCell ⟨w.heap.size,0,none⟩ (.int .i64 x)
theorem z0l(b0 b1 b2:Nat)(w:World)(G:World->Prop)(B:Int->World->Prop)
  (hdo:Calls Tryz.prog 50 #[.pointer (some ⟨b0,0,none⟩),.pointer (some ⟨b1,0,none⟩),.pointer (some ⟨b2,0,none⟩)] (w.alloc (.cells #[.int .i64 0] 29)) fun e w'=>(e=.returned (.tuple #[])/\G w')\/∃ x,e=.panicked (zE x)/\B x w')
  (hG:∀ w',G w'->Has w' w.heap.size #[.int .i64 0] 29)(hB:∀ x w',B x w'->Has w' w.heap.size #[.int .i64 0] 29):
  Calls Tryz.prog 49 #[.func (.func 50) #[] #[.pointer (some ⟨b0,0,none⟩),.pointer (some ⟨b1,0,none⟩),.pointer (some ⟨b2,0,none⟩)]] w (xI w G B):=by
 have hmf:∀ (fn:Fn) (first cap:Array Value) (w:World),(Instr.makeFunc fn first cap).run Tryz.prog w=.ok (.func fn first cap) w:=fun _ _ _ _=>rfl;have HG:Aside (∀ w',G w'->Has w' w.heap.size #[.int .i64 0] 29):=hG;have HB:Aside (∀ x w',B x w'->Has w' w.heap.size #[.int .i64 0] 29):=hB;clear hG hB;go_enter_defers Tryz.func49,Tryz.ntmps49
 go_wp2_with fail
 refine hdo.mono ?_;rintro e w1 (⟨rfl,h1⟩ | ⟨x,rfl,h1⟩)
 ·clear hdo
  have hh:=HG.out w1 h1;have c0:=hh.cell 0;have f0:=hh.frozen 0;have G1:Aside (G w1):=h1;clear h1;go_wp2_with fail
  refine leaves_cons (f:=85) (args:=#[.pointer (some ⟨w.heap.size,0,none⟩)]) (by simp) (by simp[go_sem]) ?_;refine(Zj ⟨w.heap.size,0,none⟩ _).mono ?_;rintro e u' w'' ⟨rfl,rfl,rfl⟩;have c1:=(hh.set 0 (.int .i64 0)).cell 0;simp[Leaves,settle,results,Tryz.results49,go_sem,c1];exact .inl ⟨rfl,w1,G1.out,rfl⟩
 ·have hh:=HB.out x w1 h1
  have c0:=hh.cell 0;have f0:=hh.frozen 0;refine leaves_cons (f:=85) (args:=#[.pointer (some ⟨w.heap.size,0,none⟩)]) (by simp) (by simp[go_sem]) ?_;refine(jV ⟨w.heap.size,0,none⟩ 0 x [] w1 c0 f0).mono ?_;rintro e u' w'' ⟨rfl,rfl,rfl⟩;have c1:=(hh.set 0 (.int .i64 x)).cell 0;simp[Leaves,settle,results,Tryz.results49,go_sem,c1];exact .inr ⟨x,w1,rfl,h1,rfl⟩
theorem TAKING.still{w0 w w':World}{bp:Nat}{acc:List Nat}(h:TAKING w0 w bp acc)(hb:Below w.heap.size w w'):TAKING w0 w' bp acc:=by
 obtain⟨v,h1,h2⟩:=h.row;have hs:=h.below.size;have hlt:=h.lt;refine⟨⟨v,h1.keep hb,?_⟩,fun b hb0 hne=>(hb.block b (by omega)).trans (h.keep b hb0 hne),hlt,h.below.trans (hb.mono (by omega))⟩;refine⟨h2.1,h2.2.imp id ?_⟩;rintro⟨g',c,cur,rfl,b,r,rest⟩;exact⟨g',c,cur,rfl,b,(hb.block g' (Array.getElem?_eq_some_iff.1 r).1).trans r,rest⟩
def PLCA(L:List Nat)(N:Nat):List Nat:=if zf L N=0 then zc (TPS N) L else []
theorem Ki(L:List Nat)(N:Nat)(a:Option Addr)(m c:Nat)(b0 b1 b2:Nat)(w:World)(hl:L.length=m)(hm:m<2 ^ 20)(hc:m<=c)(hnil:a=none->c=0)(hbl:∀ x,a=some x->x.block≠b2/\x.spot=none)(hL:NUML w a L)(hT:Tabled w)
  (h0:Has w b0 #[.slice a m c] 25)(h1:Has w b1 #[.int .u64 (N:Int)] 24)(h2:Has w b2 #[.slice none 0 0] 25):
  Calls Tryz.prog 50 #[.pointer (some ⟨b0,0,none⟩),.pointer (some ⟨b1,0,none⟩),.pointer (some ⟨b2,0,none⟩)] w fun e w'=>
   (e=.returned (.tuple #[])/\(zf L N=0/\∃ w1,Below w.heap.size w w1/\TAKING w1 w' b2 (zc (TPS N) L)))\/∃ x,e=.panicked (zE x)/\(x=zf L N/\x≠0/\w'=w):=by
 have hmf:∀ (fn:Fn) (first cap:Array Value) (w:World),(Instr.makeFunc fn first cap).run Tryz.prog w=.ok (.func fn first cap) w:=fun _ _ _ _=>rfl;have cm:=JO L N a m c hl (by omega) w hL;have x0:=h0.cell 0;have x1:=h1.cell 0;have hb2:=h2.lt;have HA:Aside (L.length=m/\m<2 ^ 20/\m<=c/\(a=none->c=0)/\(∀ x,a=some x->x.block≠b2/\x.spot=none)/\NUML w a L/\Tabled w/\Has w b2 #[.slice none 0 0] 25):=⟨hl,hm,hc,hnil,hbl,hL,hT,h2⟩
 clear hl hm hc hnil hbl hL hT h2 h0 h1;go_enter Tryz.func50,Tryz.ntmps50;go_wp2_with fail
 refine cm.mono ?_;rintro e w1 ⟨rfl,(⟨hr,rfl⟩ | ⟨hr,rfl⟩)⟩
 ·clear cm
  obtain⟨r1,r2,r3⟩:=yF hr
  obtain⟨bj,hbj,hbn⟩:∃ bj,(∀ x,a=some x->x.block=bj/\x.spot=none)/\bj≠b2:=by
   cases a with
   | none=>exact⟨b2+1,fun x e=>(by cases e),by omega⟩
   | some x=>exact⟨x.block,fun y e=>(by cases e;exact⟨rfl,(HA.out.2.2.2.2.1 x rfl).2⟩),(HA.out.2.2.2.2.1 x rfl).1⟩
  have cn:=z0k bj b2 (fun w0 acc w=>TAKING w0 w b2 acc) (fun _ _ _=>False) [] (fun w0 acc w w' h hb=>h.still hb) (fun w0 acc w h=>⟨fun b hb hne=>h.keep b hb hne,h.below.size⟩) (fun w0 acc p w h hn=>(z05 h p hn).mono fun e w' hh=>.inl hh) N r1 L a m c w HA.out.1 HA.out.2.1 r2 HA.out.2.2.1 HA.out.2.2.2.1 hbj HA.out.2.2.2.2.2.1 hbn hb2 HA.out.2.2.2.2.2.2.1
   (fun w1 hb=>⟨⟨.slice none 0 0,HA.out.2.2.2.2.2.2.2.keep hb,⟨rfl,.inl ⟨rfl,rfl⟩⟩⟩,fun b _ _=>rfl,(HA.out.2.2.2.2.2.2.2.keep hb).lt,Below.refl _ _⟩)
  have HR:Aside (zf L N=0):=hr;clear r1 r2 r3 hbj hbn HA hr hb2;go_wp2_with fail
  refine cn.mono ?_;rintro e w2 ⟨w1,hb1,(⟨rfl,ht⟩ | ⟨pre,p,_,_,hf⟩)⟩
  ·clear cn
   have FN:Aside (∃ w1,Below w.heap.size w w1/\TAKING w1 w2 b2 (zc (TPS N) L)):=⟨w1,hb1,by rw[List.nil_append] at ht;exact ht⟩
   clear hb1 ht;go_wp2_with fail
   exact bodyPost_end (v:=.tuple #[]) (by simp[results,Tryz.f50]) rfl (.inl ⟨rfl,HR.out,FN.out⟩)
  ·exact hf.elim
 ·exact⟨rfl,.inr ⟨_,rfl,rfl,hr,rfl⟩⟩
def ANSN(w:World)(E:Int)(l:List Nat)(e:Ending)(w':World):Prop:=∃ a c,e=.returned (.tuple #[.slice a l.length c,.int .i64 E])/\w'.ownsRow w.heap.size 24 1 (.slice a l.length c) l.length (ze l)/\Below w.heap.size w w'
theorem UF(L:List Nat)(N:Nat)(a:Option Addr)(m c:Nat)(w:World)(hl:L.length=m)(hm:m<2 ^ 20)(hc:m<=c)(hnil:a=none->c=0)(hbl:∀ x,a=some x->x.block<w.heap.size/\x.spot=none)(hL:NUML w a L)(hT:Tabled w)(hw0:0<w.heap.size):
    Calls Tryz.prog 26 #[.slice a m c,.int .u64 (N:Int)] w (ANSN w (zf L N) (PLCA L N)):=by
  have hmf:∀ (fn:Fn) (first cap:Array Value) (w:World),(Instr.makeFunc fn first cap).run Tryz.prog w=.ok (.func fn first cap) w:=fun _ _ _ _=>rfl;obtain⟨w1,e1⟩:∃ w1,w.alloc (.cells #[.slice a m c] 25)=w1:=⟨_,rfl⟩
  obtain⟨w2,e2⟩:∃ w2,w1.alloc (.cells #[.int .u64 (N:Int)] 24)=w2:=⟨_,rfl⟩
  obtain⟨w3,e3⟩:∃ w3,w2.alloc (.cells #[.slice none 0 0] 25)=w3:=⟨_,rfl⟩
  obtain⟨w4,e4⟩:∃ w4,w3.alloc (.cells #[.int .i64 0] 29)=w4:=⟨_,rfl⟩
  have s1:w1.heap.size=w.heap.size+1:=by rw[<-e1];simp
  have s2:w2.heap.size=w.heap.size+2:=by rw[<-e2];simp;omega
  have s3:w3.heap.size=w.heap.size+3:=by rw[<-e3];simp;omega
  have s4:w4.heap.size=w.heap.size+4:=by rw[<-e4];simp;omega
  have hb4:Below w.heap.size w w4:=by
    rw[<-e4,<-e3,<-e2,<-e1];exact((((Below.refl _ _).alloc (Nat.le_refl _) _).alloc (by simp) _).alloc (by simp;omega) _).alloc (by simp;omega) _
  have h0:Has w4 w.heap.size #[.slice a m c] 25:=by
    rw[<-e4,<-e3,<-e2,<-e1];exact(((Has.new w _ _).alloc _).alloc _).alloc _
  have h1:Has w4 w1.heap.size #[.int .u64 (N:Int)] 24:=by
    rw[<-e4,<-e3,<-e2];exact((Has.new w1 _ _).alloc _).alloc _
  have h2:Has w4 w2.heap.size #[.slice none 0 0] 25:=by
    rw[<-e4,<-e3];exact(Has.new w2 _ _).alloc _
  have h3:Has w4 w3.heap.size #[.int .i64 0] 29:=by
    rw[<-e4];exact Has.new w3 _ _
  have hL4:NUML w4 a L:=fun hp=>by
    obtain⟨b,o,e,hlt,hcc⟩:=hL hp;exact⟨b,o,e,by omega,fun i x hx=>(hb4.cell (p:=⟨b,o+i,none⟩) hlt).trans (hcc i x hx)⟩
  have cd:=Ki L N a m c w.heap.size w1.heap.size w2.heap.size w4 hl hm hc hnil (fun x e=>⟨by have:=(hbl x e).1;omega,(hbl x e).2⟩) hL4 (hT.below hw0 hb4) h0 h1 h2;rw[<-e4] at cd
  have cf:=z0l w.heap.size w1.heap.size w2.heap.size w3 _ _ cd
    (fun w' ⟨_,wx,hbx,ht⟩=>by
      rw[e4] at hbx;exact(ht.keep w3.heap.size (by have:=hbx.size;omega) (by omega)).trans (h3.keep hbx))
    (fun x w' ⟨_,_,e⟩=>by rw[e,e4];exact h3)
  rw[e4] at cf
  have FIN:Aside (∀ e w',xI w3 (fun w'=>zf L N=0/\∃ w1,Below w4.heap.size w4 w1/\TAKING w1 w' w2.heap.size (zc (TPS N) L)) (fun x w'=>x=zf L N/\x≠0/\w'=w4) e w'->e=.returned (.int .i64 (zf L N))/\Below w.heap.size w w'/\∃ a' c',Has w' w2.heap.size #[.slice a' (PLCA L N).length c'] 25/\w'.ownsRow w.heap.size 24 1 (.slice a' (PLCA L N).length c') (PLCA L N).length (ze (PLCA L N))):=by
    rintro e w' (⟨rfl,wx,⟨hr,wy,hby,ht⟩,rfl⟩ | ⟨x,wx,rfl,⟨rfl,hx,rfl⟩,rfl⟩)
    · have hP:PLCA L N=zc (TPS N) L:=if_pos hr
      have hsz:=hby.size;obtain⟨v,hv,hown⟩:=ht.row;obtain⟨a',c',rfl⟩:=y9 hown;refine⟨by rw[hr],?_,a',c',?_,?_⟩
      · exact((hb4.trans (hby.mono hb4.size)).trans (ht.below.mono (by omega))).setCell (by show w.heap.size<=w3.heap.size;omega) _
      · rw[hP]
        exact hv.other (by show w2.heap.size≠w3.heap.size;omega) _
      · rw[hP]
        exact zq (ownsRow_setCell_below hown (a:=⟨w3.heap.size,0,none⟩) (by show w3.heap.size<wy.heap.size;omega) _) (by omega)
    · have hP:PLCA L N=[]:=if_neg hx
      refine⟨rfl,hb4.setCell (by show w.heap.size<=w3.heap.size;omega) _,none,0,?_,?_⟩
      · rw[hP]
        exact h2.other (by show w2.heap.size≠w3.heap.size;omega) _
      · rw[hP]
        exact⟨rfl,.inl ⟨rfl,rfl⟩⟩
  clear cd h0 h1 h2 h3 hL4 hb4 hl hm hc hnil hbl hL hT s1 s2 s3 s4 e4 hw0;go_enter Tryz.func26,Tryz.ntmps26;go_wp2_with fail
  refine cf.mono ?_;intro e w5 hh;obtain⟨rfl,hb5,a',c',hv,hown⟩:=FIN.out e w5 hh;have x0:=hv.cell 0;have FN:Aside (ANSN w (zf L N) (PLCA L N) (.returned (.tuple #[.slice a' (PLCA L N).length c',.int .i64 (zf L N)])) w5):=⟨a',c',rfl,hown,hb5⟩
  clear hh hb5 hv hown FIN cf;go_wp2_with fail
  go_ret2;exact FN.out
end Go.Proofs.YtobaogpomcocpaaGreatDoor
