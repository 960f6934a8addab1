/- ManyClashes: part 25. -/
import Derived.Test.YtobaogpomcocpaaGreatDoorManyClashesP24
set_option maxRecDepth 100000
set_option maxHeartbeats 4000000
open Go.RowKit
namespace Go.Proofs.YtobaogpomcocpaaGreatDoor
def IDX(n:Nat):Nat->Nat->List Int->Int × List Nat × List Int
 | 0,_,t=>(0,[],t)
 | c+1,k,t=>if (LNG t).2.2≠0 then ((LNG t).2.2,[],[]) else if n - k<=(LNG t).1.toNat then (32,[],[]) else
   ((IDX n c (k+(LNG t).1.toNat+1) (t.drop (LNG t).2.1.toNat)).1,(k+(LNG t).1.toNat) :: (IDX n c (k+(LNG t).1.toNat+1) (t.drop (LNG t).2.1.toNat)).2.1,(IDX n c (k+(LNG t).1.toNat+1) (t.drop (LNG t).2.1.toNat)).2.2)
theorem XN{n c k:Nat}{t:List Int}(h:(LNG t).2.2≠0):IDX n (c+1) k t=((LNG t).2.2,[],[]):=by rw[IDX,if_pos h]
theorem XO{n c k Z m:Nat}{t:List Int}(h:LNG t=((Z:Int),(m:Int),0))(hz:n - k<=Z):IDX n (c+1) k t=(32,[],[]):=by
 rw[IDX,h];simp[hz]
theorem Xo{n c k Z m:Nat}{t:List Int}(h:LNG t=((Z:Int),(m:Int),0))(hz:¬ n - k<=Z):IDX n (c+1) k t=((IDX n c (k+Z+1) (t.drop m)).1,(k+Z) :: (IDX n c (k+Z+1) (t.drop m)).2.1,(IDX n c (k+Z+1) (t.drop m)).2.2):=by
 rw[IDX,h];simp[hz]
def IDXS(n:Nat)(t:List Int):Int × List Nat × List Int:=if (LNG t).2.2≠0 then ((LNG t).2.2,[],[]) else IDX n (LNG t).1.toNat 0 (t.drop (LNG t).2.1.toNat)
def IDXD(w0 w:World)(rb:Nat)(A:Int × List Nat × List Int)(e:Ending)(w':World):Prop:=
 (A.1=0/\∃ a c,e=.returned (.slice a A.2.1.length c)/\w'.ownsRow w.heap.size 24 1 (.slice a A.2.1.length c) A.2.1.length (ze A.2.1)/\RDR w0 w' rb A.2.2/\STAY w w' rb)\/(A.1≠0/\e=.panicked (zE A.1)/\STAY w w' rb)
theorem XP{n k:Nat}(hk:k<=n)(hn:n<=4611686018427387904):IntKind.u64.wrap ((n:Int) - (k:Int))=((n - k:Nat):Int):=by rw[zh];omega
theorem XQ{k Z:Nat}(h:k+Z<2 ^ 63):IntKind.u64.wrap ((k:Int)+(Z:Int))=((k+Z:Nat):Int):=by rw[zh];omega
theorem VX{Z:Nat}(h:Z<2 ^ 63):IntKind.u64.wrap ((Z:Int)+1)=((Z+1:Nat):Int):=by rw[zh];omega
theorem uN{j c:Nat}(h:j<c)(hc:c<2 ^ 64):IntKind.u64.wrap ((j:Int)+1)=((j+1:Nat):Int):=by rw[zh];omega
theorem mR{w0 w:World}{rb:Nat}{t:List Int}(n:Nat)(hn:n<=4611686018427387904)(R:RDR w0 w rb t):Calls Tryz.prog 104 #[.pointer (some ⟨rb,0,none⟩),.int .u64 (n:Int)] w (IDXD w0 w rb (IDXS n t)):=by
 by_cases hl:(LNG t).2.2=0
 ·obtain⟨C,m,q1,q2,q3,q4,cn⟩:=YK R hl
  have eI:IDXS n t=IDX n C 0 (t.drop m):=by unfold IDXS;rw[q4];simp
  obtain⟨T,hT⟩:∃ T,T=t.drop m:=⟨_,rfl⟩
  obtain⟨A,hA⟩:∃ A,A=IDXS n t:=⟨_,rfl⟩
  have hTl:T.length<=1000000:=by
   obtain⟨_,_,_,h2⟩:=R.rd;have:=h2.2.2;rw[hT,List.length_drop];omega
  rw[<-hT] at eI cn;rw[<-hA] at eI ⊢;have HA:Aside (A=IDX n C 0 T/\n<=4611686018427387904/\C<2 ^ 64/\T.length<=1000000/\rb<w.heap.size):=⟨eI,hn,q1,hTl,R.lt⟩
  clear eI hn q1 q2 q3 q4 hA hT hl R hTl;go_enter Tryz.func104,Tryz.ntmps104;go_wp2_with fail
  refine cn.mono ?_;rintro e w1 ⟨rfl,R1,S1⟩;have W1:Aside (RDR w0 w1 rb T/\STAY w w1 rb):=⟨R1,S1⟩
  clear cn R1 S1;go_wp2_with fail
  go_loopg [5,6,10] C (fun q s5 s6 s10 wx=>∃ (j k:Nat) (v:Value) (acc:List Nat) (u:List Int),v=s5/\s6=.int .u64 (k:Int)/\s10=.int .u64 (j:Int)/\Aside (j+q=C/\k<=n/\acc.length+u.length<=T.length/\wx.ownsRow w.heap.size 24 1 v acc.length (ze acc)/\RDR w0 wx rb u/\STAY w wx rb/\A=((IDX n q k u).1,(if (IDX n q k u).1=0 then acc ++ (IDX n q k u).2.1 else A.2.1),(if (IDX n q k u).1=0 then (IDX n q k u).2.2 else A.2.2))))
  case atStart=>
   refine⟨0,0,_,[],T,rfl,rfl,rfl,by omega,Nat.zero_le _,by simp,⟨rfl,.inl ⟨rfl,rfl⟩⟩,W1.out.1,W1.out.2,?_⟩;rw[HA.out.1];split
   ·rfl
   ·rfl
  case round=>
   obtain⟨j,k,v,acc,u,rfl,rfl,rfl,B⟩:=hrel;clear W1;obtain⟨av,cv,rfl⟩:=y9 B.out.2.2.2.1;cases gk with
   | zero=>
     obtain rfl:j=C:=by have:=B.out.1;omega
     have hlt:¬ (j:Int)<(j:Int):=by omega
     have FN:Aside (IDXD w0 w rb A (.returned (.slice av acc.length cv)) wr):=by
      obtain⟨_,_,_,h4,h5,h6,h7⟩:=B.out;have e:A=(0,acc,u):=by rw[h7];simp[IDX]
      rw[e];exact .inl ⟨rfl,av,cv,rfl,h4,h5,h6⟩
     clear B HA;go_wp2_with fail
     go_ret;exact FN.out
   | succ q=>
     have hlt:(j:Int)<(C:Int):=by have:=B.out.1;omega
     by_cases hl2:(LNG u).2.2=0
     ·obtain ⟨Z,m2,p1,p2,p3,p4,cn⟩:=YK B.out.2.2.2.2.1 hl2
      have eg:=XP B.out.2.1 HA.out.2.1;by_cases hz:n - k<=Z
      ·have hz':((n - k:Nat):Int)<=(Z:Int):=by omega
       have FN:Aside (A.1=32/\STAY w wr rb/\rb<w.heap.size):=by
        obtain⟨_,_,_,h4,h5,h6,h7⟩:=B.out;rw[XO p4 hz] at h7;exact⟨by rw[h7],h6,HA.out.2.2.2.2⟩
       clear B HA p1 p2 p3 p4 hl2;generalize n - k=nk at *
       go_wp2_with fail
       refine cn.mono ?_;rintro e w2 ⟨rfl,R2,S2⟩;have FN2:Aside (A.1=32/\STAY w w2 rb):=⟨FN.out.1,FN.out.2.1.trans S2⟩
       clear cn R2 S2 FN;go_wp2_with fail
       exact⟨rfl,.inr ⟨by rw[FN2.out.1];decide,by rw[FN2.out.1];rfl,FN2.out.2⟩⟩
      ·have hz':¬ ((n - k:Nat):Int)<=(Z:Int):=by omega
       have es:=XQ (k:=k) (Z:=Z) (by have:=HA.out.2.1;omega);have e1:=VX (Z:=Z) (by have:=HA.out.2.1;omega);have e2:=XQ (k:=k) (Z:=Z+1) (by have:=HA.out.2.1;omega);have ej:=uN (j:=j) (c:=C) (by have:=B.out.1;omega) HA.out.2.2.1
       have NX:Aside (j+1+q=C/\k+(Z+1)<=n/\(acc ++ [k+Z]).length+(u.drop m2).length<=T.length/\wr.ownsRow w.heap.size 24 1 (.slice av acc.length cv) acc.length (ze acc)/\STAY w wr rb/\A=((IDX n q (k+(Z+1)) (u.drop m2)).1,(if (IDX n q (k+(Z+1)) (u.drop m2)).1=0 then (acc ++ [k+Z]) ++ (IDX n q (k+(Z+1)) (u.drop m2)).2.1 else A.2.1),(if (IDX n q (k+(Z+1)) (u.drop m2)).1=0 then (IDX n q (k+(Z+1)) (u.drop m2)).2.2 else A.2.2))/\acc.length<=2 ^ 30/\rb<w.heap.size):=by
        obtain⟨h1,h2,h3,h4,h5,h6,h7⟩:=B.out;have h8:=HA.out.2.2.2.1;refine⟨by omega,by omega,by rw[List.length_append,List.length_drop];simp;omega,h4,h6,?_,by omega,HA.out.2.2.2.2⟩;rw[Xo p4 hz] at h7;rw[show k+(Z+1)=k+Z+1 by omega];generalize IDX n q (k+Z+1) (u.drop m2)=I at h7;rw[List.append_assoc];exact h7
       clear B HA p1 p2 p3 p4 hl2 hz;generalize n - k=nk at *
       generalize k+(Z+1)=k2 at *
       generalize k+Z=kz at *
       generalize Z+1=Z1 at *
       generalize u.drop m2=u2 at *
       go_wp2_with fail
       refine cn.mono ?_;rintro e w2 ⟨rfl,R2,S2⟩
       have W2:Aside (RDR w0 w2 rb u2/\STAY wr w2 rb/\w2.ownsRow w.heap.size 24 1 (.slice av acc.length cv) acc.length (ze acc)/\w.heap.size<=w2.heap.size):=⟨R2,S2,by
        have h4:=NX.out.2.2.2.1;refine⟨h4.1,h4.2.imp id ?_⟩;rintro⟨g,cp,cur,e,hb,hg,r⟩;refine⟨g,cp,cur,e,hb,?_,r⟩;rw[S2.kp g (Array.getElem?_eq_some_iff.1 hg).1 (by have:=NX.out.2.2.2.2.2.2.2;omega)];exact hg,Nat.le_trans NX.out.2.2.2.2.1.bl.size S2.bl.size⟩
       clear cn R2 S2
       go_wp2_with (first
        | (at_builtin;refine jG _ rfl (.tmp 20) (.tmp 24) rfl w.heap.size (.slice av acc.length cv) acc.length acc rfl (W2.out.2.2.1.alloc _) w2.heap.size 1 kz rfl ((Has.new _ _ _).cell 0) NX.out.2.2.2.2.2.2.1 (by have:=W2.out.2.2.2;simp;omega) ?_;intro g3 c3 w3 hown hgrow hg
           have W3:Aside (w3.ownsRow w.heap.size 24 1 (.slice (some ⟨g3,0,none⟩) (acc.length+1) c3) (acc ++ [kz]).length (ze (acc ++ [kz]))/\RDR w0 w3 rb u2/\STAY w w3 rb):=by
            obtain⟨r1,r2,r3,r4⟩:=W2.out;have hrb:=NX.out.2.2.2.2.2.2.2;have b23:Below w.heap.size w2 w3:=((Below.refl _ w2).alloc r4 _).grown hgrow (by simp;omega) (fun k e=>(r3.lt k e).1);have s2:STAY w w2 rb:=NX.out.2.2.2.2.1.trans r2;refine⟨by rw[List.length_append];exact hown,?_,fun k hk hne=>(b23.block k hk).trans (s2.kp k hk hne),s2.bl.trans (b23.mono (by omega))⟩;obtain⟨ar,cr,h1,h2⟩:=r1.rd;exact⟨⟨ar,cr,h1.below b23 hrb,h2⟩,r1.bel.trans (b23.mono (by have:=r1.lb;omega)),r1.lb⟩
           clear hown hgrow hg W2))
       go_roundg q
       case measure=>exact Nat.lt_succ_self _
       case rel=>exact⟨j+1,k2,_,acc ++ [kz],u2,rfl,by first | rfl | exact congrArg (Value.int IntKind.u64) e2,by first | rfl | exact congrArg (Value.int IntKind.u64) ej,NX.out.1,NX.out.2.1,NX.out.2.2.1,W3.out.1,W3.out.2.1,W3.out.2.2,NX.out.2.2.2.2.2.1⟩
     ·have cn:=Yy B.out.2.2.2.2.1 hl2
      have FN:Aside (A.1=(LNG u).2.2/\STAY w wr rb):=by
       obtain⟨_,_,_,h4,h5,h6,h7⟩:=B.out;rw[XN hl2] at h7;exact⟨by rw[h7],h6⟩
      have HE:Aside ((LNG u).2.2≠0):=hl2;clear B HA hl2;generalize (LNG u).2.2=E at *
      go_wp2_with fail
      refine cn.mono ?_;rintro e w2 ⟨rfl,rfl⟩;exact⟨rfl,.inr ⟨by rw[FN.out.1];exact HE.out,by rw[FN.out.1],FN.out.2⟩⟩
 ·have eI:IDXS n t=((LNG t).2.2,[],[]):=by unfold IDXS;rw[if_pos hl]
  have cn:=Yy R hl;rw[eI];have HE:Aside ((LNG t).2.2≠0):=hl;clear eI hl R hn;generalize (LNG t).2.2=E at *
  go_enter Tryz.func104,Tryz.ntmps104;go_wp2_with fail
  refine cn.mono ?_;rintro e w2 ⟨rfl,rfl⟩;exact⟨rfl,.inr ⟨HE.out,rfl,STAY.refl _ _⟩⟩
abbrev MANS:=Int × Nat × List Nat × List Int
def MERR(E:Int):MANS:=(E,0,[],[])
def MD3(n:Nat)(A:Int × List Nat × List Int):MANS:=
 if A.1≠0 then MERR A.1 else if A.2.2.length<32*(zc (TPS n) A.2.1).length then MERR 11 else if 32*(zc (TPS n) A.2.1).length<A.2.2.length then MERR 13 else (0,n,A.2.1,A.2.2)
def MD1(t:List Int):MANS:=
 if (LNG t).2.2≠0 then MERR (LNG t).2.2 else if 4611686018427387904<(LNG t).1.toNat then MERR 30 else MD3 (LNG t).1.toNat (IDXS (LNG t).1.toNat (t.drop (LNG t).2.1.toNat))
def MDC:List Int->MANS
 | []=>MERR 11
 | x :: t=>if x=78 then MD1 t else MERR 14
theorem Uo{t:List Int}{Z m:Nat}(h:LNG t=((Z:Int),(m:Int),0))(hz:Z<=4611686018427387904):MD1 t=MD3 Z (IDXS Z (t.drop m)):=by
 unfold MD1;rw[h];simp only[ne_eq,not_true_eq_false,if_false,Int.toNat_natCast];rw[if_neg (by omega)]
theorem uO{t:List Int}{Z m:Nat}(h:LNG t=((Z:Int),(m:Int),0))(hz:4611686018427387904<Z):MD1 t=MERR 30:=by
 unfold MD1;rw[h];simp only[ne_eq,not_true_eq_false,if_false,Int.toNat_natCast];rw[if_pos hz]
theorem XR{t:List Int}(h:(LNG t).2.2≠0):MD1 t=MERR (LNG t).2.2:=by
 unfold MD1;rw[if_pos h]
theorem VY{n:Nat}:∀ (c k:Nat) (t:List Int),(IDX n c k t).1=0->(∀ x∈(IDX n c k t).2.1,k<=x/\x<n)/\(IDX n c k t).2.1.Pairwise (·<·)
 | 0,_,_,_=>⟨fun x h=>by simp[IDX] at h,by simp[IDX]⟩
 | c + 1,k,t,h=>by
   rw[IDX] at h ⊢;split at h
   ·rename_i h1
    exact absurd h h1
   ·rename_i h1
    rw[if_neg h1];split at h
    ·cases h
    ·rename_i h2
     rw[if_neg h2];obtain⟨a1,a2⟩:=VY c _ _ h;generalize (LNG t).1.toNat=Z at *
     refine⟨fun x hx=>?_,List.pairwise_cons.2 ⟨fun y hy=>?_,a2⟩⟩
     ·rcases List.mem_cons.1 hx with e | hx
      ·omega
      ·have:=a1 x hx
       omega
     ·have:=a1 y hy
      omega
theorem z0u{L:List Nat}(h:L.Pairwise (·<·)):RISES L:=fun i j x y hij hx hy=>by
 obtain⟨hi,rfl⟩:=List.getElem?_eq_some_iff.1 hx;obtain⟨hj,rfl⟩:=List.getElem?_eq_some_iff.1 hy;exact List.pairwise_iff_getElem.1 h i j hi hj hij
theorem Y3{n:Nat}{t:List Int}(h:(IDXS n t).1=0):(∀ x∈(IDXS n t).2.1,x<n)/\RISES (IDXS n t).2.1:=by
 unfold IDXS at h ⊢;split at h
 ·rename_i h1
  exact absurd h h1
 ·rename_i h1
  rw[if_neg h1];obtain⟨a1,a2⟩:=VY _ _ _ h;exact⟨fun x hx=>(a1 x hx).2,z0u a2⟩
theorem VZ{n:Nat}:∀ (L:List Nat) (prev:Option Nat),L.Pairwise (·<·)->(∀ x∈L,x<n)->(∀ y,prev=some y->∀ x∈L,y<x)->RCHK n prev L=0
 | [],_,_,_,_=>rfl
 | x :: l,prev,hp,hx,hy=>by
   rw[RCHK,if_neg,if_neg (by have:=hx x (List.mem_cons_self ..);omega)]
   ·exact VZ l (some x) (List.pairwise_cons.1 hp).2 (fun z hz=>hx z (List.mem_cons_of_mem _ hz)) (fun y e z hz=>by cases e;exact(List.pairwise_cons.1 hp).1 z hz)
   ·cases prev with
    | none=>simp[yB]
    | some y=>
      have:=hy y rfl x (List.mem_cons_self ..);simp[yB];omega
theorem z1P{L:List Nat}(h:RISES L):L.Pairwise (·<·):=by
 rw[List.pairwise_iff_getElem];intro i j hi hj hij;exact h i j _ _ hij (List.getElem?_eq_getElem hi) (List.getElem?_eq_getElem hj)
theorem vZ{n:Nat}{L:List Nat}(hn:n<=4611686018427387904)(hr:RISES L)(hx:∀ x∈L,x<n):zf L n=0:=by
 unfold zf;rw[if_neg (by omega)];exact VZ L none (z1P hr) hx (fun y e=>by cases e)
theorem uP{n:Nat}:∀ (c k:Nat) (t:List Int),(∀ x∈t,0<=x/\x<=255)->(IDX n c k t).1=0->(IDX n c k t).2.1.length+(IDX n c k t).2.2.length<=t.length/\(∀ x∈(IDX n c k t).2.2,0<=x/\x<=255)/\(IDX n c k t).2.1.length=c
 | 0,_,_,hr,_=>⟨by simp[IDX],by simpa[IDX] using hr,by simp[IDX]⟩
 | c + 1,k,t,hr,h=>by
   by_cases hl:(LNG t).2.2=0
   ·obtain⟨Z,m,q1,q2,q3,q4,q5⟩:=qP hr hl
    by_cases hz:n - k<=Z
    ·rw[XO q4 hz] at h
     cases h
    ·rw[Xo q4 hz] at h ⊢
     obtain⟨a1,a2,a3⟩:=uP c (k+Z+1) (t.drop m) (fun x hx=>hr x (List.mem_of_mem_drop hx)) h;refine⟨?_,a2,by simp[a3]⟩;rw[List.length_drop] at a1;simp only[List.length_cons];omega
   ·rw[XN hl] at h
    exact absurd h hl
theorem Xp{n:Nat}{t:List Int}(hr:∀ x∈t,0<=x/\x<=255)(h:(IDXS n t).1=0):(IDXS n t).2.1.length+(IDXS n t).2.2.length<=t.length/\∀ x∈(IDXS n t).2.2,0<=x/\x<=255:=by
 unfold IDXS at h ⊢;split at h
 ·rename_i h1
  exact absurd h h1
 ·rename_i h1
  rw[if_neg h1];obtain⟨Z,m,q1,q2,q3,q4,q5⟩:=qP hr (by simpa using h1);rw[q4] at h ⊢;simp only[Int.toNat_natCast] at h ⊢;obtain⟨a1,a2,_⟩:=uP Z 0 (t.drop m) (fun x hx=>hr x (List.mem_of_mem_drop hx)) h;rw[List.length_drop] at a1;exact⟨by omega,a2⟩
theorem JZ:∀ w,(zeroValue 23).run Tryz.prog w=.ok (.agg ZARR) w:=(zero_of_info (P:=Tryz.prog) (n:=32) (by kernel_rfl)).1
theorem Ks{w0 w:World}{rb:Nat}{t:List Int}(R:RDR w0 w rb t)(ht:t.length<32):Calls Tryz.prog 106 #[.pointer (some ⟨rb,0,none⟩)] w fun e w'=>e=.panicked (zE 11)/\Below w.heap.size w w':=by
 have hz:=JZ;obtain⟨a,c,h1,h2⟩:=R.rd;obtain⟨n,hn⟩:∃ n,t.length=n:=⟨_,rfl⟩
 rw[hn] at h1 ht;have x0:(w.alloc (.cells ZARR 23)).cell? ⟨rb,0,none⟩=some (.slice a n c):=(h1.alloc _).cell 0;have hlt:(n:Int)<32:=by omega
 clear R h1 h2 hn ht;go_enter Tryz.func106,Tryz.ntmps106;go_wp2_with fail
 exact⟨rfl,rfl,(Below.refl _ _).alloc (Nat.le_refl _) _⟩
def Uq(w0 w:World)(rb:Nat)(t:List Int)(e:Ending)(w':World):Prop:=e=.returned (.agg (za (t.take 32)).toArray)/\RDR w0 w' rb (t.drop 32)/\STAY w w' rb
theorem z0v{w0 w:World}{rb:Nat}{t:List Int}(R:RDR w0 w rb t)(ht:32<=t.length):Calls Tryz.prog 106 #[.pointer (some ⟨rb,0,none⟩)] w (Uq w0 w rb t):=by
 have hz:=JZ;obtain⟨a,c,h1,h2⟩:=R.rd;obtain⟨b,off,rfl,hb,hcs⟩:=h2.addr (by omega);have hrb:=h1.lt;obtain⟨n,hn⟩:∃ n,t.length=n:=⟨_,rfl⟩
 obtain⟨w1,e1⟩:∃ w1,w.alloc (.cells ZARR 23)=w1:=⟨_,rfl⟩
 obtain⟨w2,e2⟩:∃ w2,w1.alloc (.cells ZARR 23)=w2:=⟨_,rfl⟩
 have s1:w1.heap.size=w.heap.size+1:=by rw[<-e1];simp
 have s2:w2.heap.size=w.heap.size+2:=by rw[<-e2];simp;omega
 have hb2:Below w.heap.size w w2:=by rw[<-e2,<-e1];exact((Below.refl _ _).alloc (Nat.le_refl _) _).alloc (by simp) _
 have H1:Has w2 w.heap.size ZARR 23:=by rw[<-e2,<-e1];exact(Has.new w _ _).alloc _
 have H2:Has w2 w1.heap.size ZARR 23:=by rw[<-e2];exact Has.new w1 _ _
 have hr1:Has w1 rb #[.slice (some ⟨b,off,none⟩) n c] 112:=by rw[<-e1,<-hn];exact h1.alloc _
 have x0:w1.cell? ⟨rb,0,none⟩=some (.slice (some ⟨b,off,none⟩) n c):=hr1.cell 0;have hr2:Has w2 rb #[.slice (some ⟨b,off,none⟩) n c] 112:=by rw[<-e2];exact hr1.alloc _
 have y0:w2.cell? ⟨rb,0,none⟩=some (.slice (some ⟨b,off,none⟩) n c):=hr2.cell 0;have hlt:¬ (n:Int)<32:=by omega
 have k1:(32:Int)<=(n:Int):=by omega
 have hcn:=h2.2.1;have k2:(n:Int)<=(c:Int):=by omega
 have k3:(32:Int)<=(c:Int):=by omega
 obtain⟨Z,hZ⟩:∃ Z,za (t.take 32)=Z:=⟨_,rfl⟩
 have hZl:Z.length=32:=by rw[<-hZ,za,List.length_map,List.length_take];omega
 have hsrc:∀ j v,Z[j]?=some v->w2.cell? ((⟨b,off,none⟩:Addr).add j)=some v:=by
  intro j v hv;have hj:j<32:=by have:=(List.getElem?_eq_some_iff.1 hv).1;omega
  rw[<-hZ,zN _ _ (by rw[List.length_take];omega)] at hv;rw[zY];refine(((R.bel.trans (hb2.mono R.bel.size)).cell (p:=⟨b,off+j,none⟩) hb).trans (hcs j (by omega))).trans ?_;rw[<-hv];congr 2
  rw[List.getD_eq_getElem?_getD,List.getD_eq_getElem?_getD,List.getElem?_take,if_pos hj]
 have hone:∀ v∈Z,v.oneCell'=true:=by rw[<-hZ];exact yf _
 have HA:Aside (RDR w0 w rb t/\Has w2 rb #[.slice (some ⟨b,off,none⟩) n c] 112/\SRC w0 (some ⟨b,off,none⟩) c t/\t.length=n/\32<=n/\Below w.heap.size w w2/\Has w2 w.heap.size ZARR 23/\Has w2 w1.heap.size ZARR 23/\w1.heap.size=w.heap.size+1/\rb<w.heap.size/\Z.length=32/\za (t.take 32)=Z/\n<=c):=⟨R,hr2,h2,hn,by omega,hb2,H1,H2,s1,hrb,hZl,hZ,by omega⟩
 have HS:Aside ((∀ j v,Z[j]?=some v->w2.cell? ((⟨b,off,none⟩:Addr).add j)=some v)/\∀ v∈Z,v.oneCell'=true):=⟨hsrc,hone⟩
 have hu8:(Tryz.prog.info? 5).map (·.size)=some 1:=by kernel_rfl
 unfold Uq;rw[hZ];clear R h1 h2 hb hcs hn hb2 H1 H2 hr1 hr2 ht hZl hZ hsrc hone hcn s1 s2 hrb;go_enter Tryz.func106,Tryz.ntmps106;go_upto_region 4 with fail
 clear e1 e2 x0 hz;go_region_law (refine step_copy_splice rfl (.tmp 11) (.tmp 15) 27 27 rfl 5 Tryz.underlying27 hu8 (some ⟨w1.heap.size,0,none⟩) (some ⟨b,off,none⟩) 32 32 n c (by simp[Act.eval]) (by simp[Act.eval]) w1.heap.size 0 ZARR.toList 23 (by exact HA.out.2.2.2.2.2.2.2.1) Z (by rw[HA.out.2.2.2.2.2.2.2.2.2.2.1];exact(Nat.min_eq_right HA.out.2.2.2.2.1).symm) (fun _=>⟨rfl,_,rfl,HS.out.1⟩) (by rw[HA.out.2.2.2.2.2.2.2.2.2.2.1];decide) HS.out.2 w1.heap.size w2 (by exact(Below.refl _ _).drew) (Nat.le_refl _) ?_;intro w4 hg4 hb4)
 have hg5:Has w4 w1.heap.size Z.toArray 23:=by
  have hg5:w4.heap[w1.heap.size]?=some (.cells (splice ZARR.toList 0 Z).toArray 23 (0,0)):=hg4;have e:splice ZARR.toList 0 Z=Z:=by unfold splice;rw[List.take_zero,List.nil_append,HA.out.2.2.2.2.2.2.2.2.2.2.1,List.drop_of_length_le (by decide),List.append_nil]
  rw[e] at hg5;exact hg5
 have hr4:Has w4 rb #[.slice (some ⟨b,off,none⟩) n c] 112:=HA.out.2.1.below (B:=w1.heap.size) (w:=w2) (hb4) (by have:=HA.out.2.2.2.2.2.2.2.2;omega);have h14:Has w4 w.heap.size ZARR 23:=HA.out.2.2.2.2.2.2.1.below (B:=w1.heap.size) (w:=w2) (hb4) (by have:=HA.out.2.2.2.2.2.2.2.2;omega);have x0:=hr4.cell 0;have f0:=hr4.frozen 0;have W4:Aside (Below w.heap.size w w4/\Has w4 w1.heap.size Z.toArray 23/\Has w4 rb #[.slice (some ⟨b,off,none⟩) n c] 112/\Has w4 w.heap.size ZARR 23):=⟨HA.out.2.2.2.2.2.1.trans ((show Below w1.heap.size w2 w4 from hb4).mono (by have:=HA.out.2.2.2.2.2.2.2.2;omega)),hg5,hr4,h14⟩
 clear hg4 hb4 hg5 hr4 h14 y0 HS;obtain⟨a',ha'⟩:∃ a',REST b off c 32=a':=⟨_,rfl⟩
 have FIN:Aside (∀ W,W=w4.setCell ⟨rb,0,none⟩ (.slice a' (n - 32) (c - 32))->Has W w.heap.size ZARR 23/\Has W w1.heap.size Z.toArray 23/\RDR w0 (W.setRow w.heap.size Z.toArray) rb (t.drop 32)/\STAY w (W.setRow w.heap.size Z.toArray) rb):=fun W hW=>by
  have hne1:w.heap.size≠rb:=by have:=HA.out.2.2.2.2.2.2.2.2;omega
  have hne2:w1.heap.size≠rb:=by have:=HA.out.2.2.2.2.2.2.2.2;omega
  have g1:Has W w.heap.size ZARR 23:=by rw[hW];exact W4.out.2.2.2.other (a:=⟨rb,0,none⟩) hne1 _
  have R4:RDR w0 w4 rb t:=by
   refine⟨⟨_,c,?_,HA.out.2.2.1⟩,HA.out.1.bel.trans (W4.out.1.mono HA.out.1.bel.size),HA.out.1.lb⟩;rw[HA.out.2.2.2.1];exact W4.out.2.2.1
  have R5:RDR w0 W rb (t.drop 32):=by
   have h5:=R4.moved (k:=32) (by rw[HA.out.2.2.2.1];exact W4.out.2.2.1) HA.out.2.2.1 (by have:=HA.out.2.2.2.1;have:=HA.out.2.2.2.2.1;omega);rw[hW,<-ha',<-HA.out.2.2.2.1];exact h5
  have S5:STAY w W rb:=by rw[hW];exact(STAY.of W4.out.1 (by have:=HA.out.2.2.2.2.2.2.2.2;omega)).trans (STAY.set _ _ _ _)
  refine⟨g1,by rw[hW];exact W4.out.2.1.other (a:=⟨rb,0,none⟩) hne2 _,?_,?_⟩
  ·obtain⟨ar,cr,q1,q2⟩:=R5.rd
   exact⟨⟨ar,cr,q1.row_other hne1.symm _,q2⟩,zm R5.bel (by have:=R5.lb;have:=HA.out.2.2.2.2.2.2.2.2;omega) _,R5.lb⟩
  ·exact⟨fun k hk hne=>(setRow_other W w.heap.size k _ (by omega)).trans (S5.kp k hk hne),zm S5.bl (by have:=HA.out.2.2.2.2.2.2.2.2;omega) _⟩
 have HZ:Aside (Z.length=32/\za (t.take 32)=Z):=⟨HA.out.2.2.2.2.2.2.2.2.2.2.1,HA.out.2.2.2.2.2.2.2.2.2.2.2.1⟩
 have hinfo:(Tryz.prog.info? 23).map (·.size)=some Z.toArray.size:=by
  have e:Z.toArray.size=32:=by simp[HZ.out.1]
  have k:(Tryz.prog.info? 23).map (·.size)=some 32:=by kernel_rfl
  rw[e];exact k
 have hsz:Z.toArray.size=ZARR.size:=by
  have e:Z.toArray.size=32:=by simp[HZ.out.1]
  rw[e];rfl
 have hall:Z.toArray.all (·.oneCell')=true:=by rw[<-HZ.out.2];exact zx _
 have HI:Aside ((Tryz.prog.info? 23).map (·.size)=some Z.toArray.size/\Z.toArray.size=ZARR.size/\Z.toArray.all (·.oneCell')=true):=⟨hinfo,hsz,hall⟩
 clear hinfo hsz hall;by_cases hc32:c=32
 ·have HR:Aside (a'=some ⟨b,off,none⟩):=by show a'=_;rw[<-ha'];simp[REST,hc32]
  have hn32:n=32:=by have:=HA.out.2.2.2.2.1;have:=HA.out.2.2.2.2.2.2.2.2;omega
  have ea:=HR.out;subst hc32 hn32 ea;clear HA W4 ha';go_upto_region 6 with fail
  obtain⟨w5,e5⟩:∃ w5,w4.setCell ⟨rb,0,none⟩ (.slice (some ⟨b,off,none⟩) 0 0)=w5:=⟨_,rfl⟩
  obtain⟨f1,f2,f3,f4⟩:=FIN.out w5 e5.symm;have FF:Aside (Has w5 w.heap.size ZARR 23/\Has w5 w1.heap.size Z.toArray 23/\RDR w0 (w5.setRow w.heap.size Z.toArray) rb (t.drop 32)/\STAY w (w5.setRow w.heap.size Z.toArray) rb):=⟨f1,f2,f3,f4⟩
  rw[e5];clear f1 f2 f3 f4 e5 FIN x0 f0
  go_wp2_with (first
   | (refine wpList_load_row rfl 23 (.tmp 3) rfl w1.heap.size rfl 23 Z.toArray (0,0) _ FF.out.2.1 Tryz.underlying23 rfl HI.out.1 ?_)
   | (refine wpList_store_row rfl 23 (.tmp 2) (.tmp 25) rfl _ _ rfl rfl 23 ZARR FF.out.1 HI.out.1 (by first | exact HI.out.2.1 | exact HI.out.2.1.symm) HI.out.2.2 ?_))
  refine bodyPost_ret (v:=.agg Z.toArray) ?_ rfl ⟨rfl,FF.out.2.2⟩;exact results_cell_row rfl _ _ w.heap.size 23 _ (0,0) _ rfl (FF.out.1.row _) Tryz.underlying23 rfl HI.out.1
 ·have HR:Aside (a'=some ⟨b,off+32,none⟩):=by show a'=_;rw[<-ha'];simp[REST,hc32]
  have hc1:¬ c - 32=0:=by have:=HA.out.2.2.2.2.1;have:=HA.out.2.2.2.2.2.2.2.2;omega
  have ea:=HR.out;subst ea;clear HA W4 ha';go_upto_region 6 with fail
  obtain⟨w5,e5⟩:∃ w5,w4.setCell ⟨rb,0,none⟩ (.slice (some ⟨b,off+32,none⟩) (n - 32) (c - 32))=w5:=⟨_,rfl⟩
  obtain⟨f1,f2,f3,f4⟩:=FIN.out w5 e5.symm;have FF:Aside (Has w5 w.heap.size ZARR 23/\Has w5 w1.heap.size Z.toArray 23/\RDR w0 (w5.setRow w.heap.size Z.toArray) rb (t.drop 32)/\STAY w (w5.setRow w.heap.size Z.toArray) rb):=⟨f1,f2,f3,f4⟩
  rw[e5];clear f1 f2 f3 f4 e5 FIN x0 f0
  go_wp2_with (first
   | (refine wpList_load_row rfl 23 (.tmp 3) rfl w1.heap.size rfl 23 Z.toArray (0,0) _ FF.out.2.1 Tryz.underlying23 rfl HI.out.1 ?_)
   | (refine wpList_store_row rfl 23 (.tmp 2) (.tmp 25) rfl _ _ rfl rfl 23 ZARR FF.out.1 HI.out.1 (by first | exact HI.out.2.1 | exact HI.out.2.1.symm) HI.out.2.2 ?_))
  refine bodyPost_ret (v:=.agg Z.toArray) ?_ rfl ⟨rfl,FF.out.2.2⟩;exact results_cell_row rfl _ _ w.heap.size 23 _ (0,0) _ rfl (FF.out.1.row _) Tryz.underlying23 rfl HI.out.1
theorem mS{ops:Array Oper}{rest:List Oper}{o:Oper}{a:Act}{Q:Exit->Act->World->Prop}(w:World)(hgd:o.guard=none)(s x:Operand)
  (ho:o.op=.call {callee:=.builtin .append,args:=#[s,x],argTypes:=#[26,26]})
  (base:Nat) (v:Value) (n:Nat) (xs:List Value) (hs:a.eval s=v) (hown:w.ownsRow base 23 32 v n xs)
  (b c:Nat) (y:List Int) (hl:y.length=32) (hx:a.eval x=.slice (some ⟨b,0,none⟩) 1 c) (hc:Has w b (za y).toArray 23)
  (hb:n<=100000) (hbase:base<=w.heap.size)
  (h:∀ g cap w',w'.ownsRow base 23 32 (.slice (some ⟨g,0,none⟩) (n+1) cap) (n+1) (xs ++ za y)->w.grownBy w' v.ownBlock->(v.ownBlock=some g\/g=w.heap.size)->g<w'.heap.size->wpList Tryz.prog ops Q rest (a.put o.dst (.slice (some ⟨g,0,none⟩) (n+1) cap)) w'):wpList Tryz.prog ops Q (o :: rest) a w:=by
 obtain⟨i,hi,hz,hs1,hby⟩:=info_parts yQ;refine wpList_append_lies w hgd s x 26 ho base 23 i (.agg ZARR) 32 32 Tryz.underlying26 hi hz hs1 hby rfl (by decide) v n xs hs hown ⟨b,0,none⟩ 1 c (za y) hx (by rw[za,List.length_map,hl]) ?_ (yf y) (by decide) (by simp only[maxLen];omega) (by omega) hbase w.heap.size rfl h;intro j u hj;rw[zY,Nat.zero_add,hc.cell,List.getElem?_toArray];exact hj
theorem Kt{w:World}{b o n c:Nat}{a:Option Addr}(h:∃ u,w.cell? ⟨b,o,none⟩=some u)(hf:w.frozen? ⟨b,o,none⟩=false):(Instr.storeAt 26 (.pointer (some ⟨b,o,none⟩)) (.slice a n c)).run Tryz.prog w=.ok () (w.setCell ⟨b,o,none⟩ (.slice a n c)):=by
 obtain⟨u,h⟩:=h;go_simp
@[go_sem] def MR0OPSq0:Oper:=⟨some 4,.fieldAddr 45 (.tmp 1) 2,0,"bytes.go:37",#[],none⟩
@[go_sem] def MR0OPSq1:Oper:=⟨some 5,.load 26 (.tmp 4),26,"bytes.go:37",#[⟨0,.data⟩],none⟩
@[go_sem] def MR0OPSq2:Oper:=⟨some 6,.load 136 (.tmp 2),136,"bytes.go:37",#[],none⟩
@[go_sem] def MR0OPSq3:Oper:=⟨some 7,.call {callee:=.value (.func 106),args:=#[.tmp 6],argTypes:=#[136]},23,"bytes.go:37",#[⟨2,.data⟩],none⟩
@[go_sem] def MR0OPSq4:Oper:=⟨some 8,.buildSlice 26 1 #[(0,.tmp 7)],26,"bytes.go:37",#[⟨3,.data⟩],none⟩
@[go_sem] def MR0OPSq5:Oper:=⟨some 9,.call {callee:=.builtin .append,args:=#[.tmp 5,.tmp 8],argTypes:=#[26,26]},26,"bytes.go:37",#[⟨1,.data⟩,⟨4,.data⟩,⟨3,.chain⟩],none⟩
@[go_sem] def MR0OPSq6:Oper:=⟨some 10,.fieldAddr 45 (.tmp 1) 2,0,"bytes.go:37",#[⟨0,.phase⟩,⟨1,.phase⟩,⟨2,.phase⟩,⟨3,.phase⟩,⟨4,.phase⟩,⟨5,.phase⟩],none⟩
@[go_sem] def MR0OPSq7:Oper:=⟨none,.store 26 (.tmp 10) (.tmp 9),0,"bytes.go:37",#[⟨6,.data⟩,⟨5,.data⟩,⟨5,.chain⟩,⟨0,.phase⟩,⟨1,.phase⟩,⟨2,.phase⟩,⟨3,.phase⟩,⟨4,.phase⟩,⟨5,.phase⟩],none⟩
def ym:Array Oper:=#[MR0OPSq0,MR0OPSq1,MR0OPSq2,MR0OPSq3,MR0OPSq4,MR0OPSq5,MR0OPSq6,MR0OPSq7]
theorem z2V{Q:Exit->Act->World->Prop}{u0 u3 u4 u5 u6 u7 u8 u9 u10:Value}(W:World)(pb qb rb B:Nat)(av:Option Addr)(n cv:Nat)(H:List Int)(xs:List Value)(hH:H.length=32)(hn:n<=100000)(hne:qb≠pb)(P0 P1 P2:World->Prop)(h0:P0 W.drew)(s0:∀ w,P0 w->w.cell? ⟨qb,0,none⟩=some (.pointer (some ⟨rb,0,none⟩))/\w.cell? ⟨pb,2,none⟩=some (.slice av n cv))(s1:∀ w,P1 w->w.cell? ⟨qb,0,none⟩=some (.pointer (some ⟨rb,0,none⟩))/\w.cell? ⟨pb,2,none⟩=some (.slice av n cv)/\w.ownsRow B 23 32 (.slice av n cv) n xs/\B<=w.heap.size)(s2:∀ w,P2 w->w.cell? ⟨qb,0,none⟩=some (.pointer (some ⟨rb,0,none⟩)))(hal:∀ w o,P1 w->P1 (w.alloc o))(hg:∀ w w',P1 w->w.grownBy w' (Value.slice av n cv).ownBlock->P2 w')(st:∀ w,P2 w->(∃ u,w.cell? ⟨pb,2,none⟩=some u)/\w.frozen? ⟨pb,2,none⟩=false)
  (c1:∀ w,P0 w->Calls Tryz.prog 106 #[.pointer (some ⟨rb,0,none⟩)] w fun e w'=>e=.returned (.agg (za H).toArray)/\P1 w')(hQ:∀ c (a:Act) (t:Tmp) (v:Value) w,Q (.panic c) (a.put (some t) v) w->Q (.panic c) a w)
  (hfin:∀ (z:Nat) (g:Nat) (q:Nat) (w:World),(∃ wx:World,(P2 wx/\wx.ownsRow B 23 32 (.slice (some ⟨g,0,none⟩) (n+1) q) (n+1) (xs ++ za H))/\w=wx.setCell ⟨pb,2,none⟩ (.slice (some ⟨g,0,none⟩) (n+1) q))->Q .normal ⟨#[u0,.pointer (some ⟨pb,0,none⟩),.pointer (some ⟨qb,0,none⟩),u3,.pointer (some ⟨pb,2,none⟩),.slice av n cv,.pointer (some ⟨rb,0,none⟩),.agg (za H).toArray,.slice (some ⟨z,0,none⟩) 1 1,.slice (some ⟨g,0,none⟩) (n+1) q,.pointer (some ⟨pb,2,none⟩)],[]⟩ w):(Code.region 0 ym true).wp Tryz.prog Q ⟨#[u0,.pointer (some ⟨pb,0,none⟩),.pointer (some ⟨qb,0,none⟩),u3,u4,u5,u6,u7,u8,u9,u10],[]⟩ W:=by
 have k1_3_4_5_7:∀ (z:Nat) (g:Nat) (q:Nat) (w:World),(∃ wx:World,(P2 wx/\wx.ownsRow B 23 32 (.slice (some ⟨g,0,none⟩) (n+1) q) (n+1) (xs ++ za H))/\w=wx.setCell ⟨pb,2,none⟩ (.slice (some ⟨g,0,none⟩) (n+1) q))->wpAnyH Tryz.prog .any ym Q (fun w:World=>w.cell? ⟨qb,0,none⟩=some (.pointer (some ⟨rb,0,none⟩))) 0 #[tt,tt,tt,tt,tt,tt,tt,tt] ⟨#[u0,.pointer (some ⟨pb,0,none⟩),.pointer (some ⟨qb,0,none⟩),u3,.pointer (some ⟨pb,2,none⟩),.slice av n cv,.pointer (some ⟨rb,0,none⟩),.agg (za H).toArray,.slice (some ⟨z,0,none⟩) 1 1,.slice (some ⟨g,0,none⟩) (n+1) q,.pointer (some ⟨pb,2,none⟩)],[]⟩ w:=fun z g q w hp=>by
  exact wpAnyH_done (by kernel_rfl) (hfin z g q w hp) _
 have k1_3_4_5:∀ (z:Nat) (g:Nat) (q:Nat) (w:World),(P2 w/\w.ownsRow B 23 32 (.slice (some ⟨g,0,none⟩) (n+1) q) (n+1) (xs ++ za H))->wpAnyH Tryz.prog .any ym Q (fun w:World=>w.cell? ⟨qb,0,none⟩=some (.pointer (some ⟨rb,0,none⟩))) 1 #[tt,tt,tt,tt,tt,tt,tt,ff] ⟨#[u0,.pointer (some ⟨pb,0,none⟩),.pointer (some ⟨qb,0,none⟩),u3,.pointer (some ⟨pb,2,none⟩),.slice av n cv,.pointer (some ⟨rb,0,none⟩),.agg (za H).toArray,.slice (some ⟨z,0,none⟩) 1 1,.slice (some ⟨g,0,none⟩) (n+1) q,.pointer (some ⟨pb,2,none⟩)],[]⟩ w:=fun z g q w hp=>by
  refine wpAnyH_ready (rs:=[7]) (by kernel_rfl) (by simp) ?_;refine AllReadyH.cons (o:=MR0OPSq7) rfl (fun K hK=>?_) ?_
  ·exact yt rfl (VH (Kt (st _ hp.1).1 (st _ hp.1).2)) (have hp:(fun(z:Nat) (g:Nat) (q:Nat) (w:World)=>(∃ wx:World,(P2 wx/\wx.ownsRow B 23 32 (.slice (some ⟨g,0,none⟩) (n+1) q) (n+1) (xs ++ za H))/\w=wx.setCell ⟨pb,2,none⟩ (.slice (some ⟨g,0,none⟩) (n+1) q))) z g q _:=⟨w,hp,rfl⟩;hK.out _ _ ((by obtain⟨wx,h1,h3⟩:=hp; (first | rw[h3] | skip);exact(World.cell?_setCell_other wx _ _ _ (fun e=>hne (congrArg Addr.block e).symm)).trans (s2 _ h1.1))) (fun _=>k1_3_4_5_7 z g q _ hp))
  exact AllReadyH.nil
 have ek1_3_4_5:∀ (z:Nat) (g:Nat) (q:Nat) (w:World),(P2 w/\w.ownsRow B 23 32 (.slice (some ⟨g,0,none⟩) (n+1) q) (n+1) (xs ++ za H))->wpAnyH Tryz.prog .any ym Q (fun w:World=>w.cell? ⟨qb,0,none⟩=some (.pointer (some ⟨rb,0,none⟩))) 2 #[tt,tt,tt,tt,tt,tt,ff,ff] ⟨#[u0,.pointer (some ⟨pb,0,none⟩),.pointer (some ⟨qb,0,none⟩),u3,.pointer (some ⟨pb,2,none⟩),.slice av n cv,.pointer (some ⟨rb,0,none⟩),.agg (za H).toArray,.slice (some ⟨z,0,none⟩) 1 1,.slice (some ⟨g,0,none⟩) (n+1) q,u10],[]⟩ w:=fun z g q w hp=>by
  have hww:(fun w:World=>w.cell? ⟨qb,0,none⟩=some (.pointer (some ⟨rb,0,none⟩))) w:=s2 _ hp.1;have last:=k1_3_4_5 z g q w hp;refine tkP MR0OPSq6 (.pointer (some ⟨pb,2,none⟩)) 6 hQ hww ?_;simp only[List.set];exact last
 have k1_3_4:∀ (z:Nat) (w:World),(P1 w/\Has w z (za H).toArray 23)->wpAnyH Tryz.prog .any ym Q (fun w:World=>w.cell? ⟨qb,0,none⟩=some (.pointer (some ⟨rb,0,none⟩))) 3 #[tt,tt,tt,tt,tt,ff,ff,ff] ⟨#[u0,.pointer (some ⟨pb,0,none⟩),.pointer (some ⟨qb,0,none⟩),u3,.pointer (some ⟨pb,2,none⟩),.slice av n cv,.pointer (some ⟨rb,0,none⟩),.agg (za H).toArray,.slice (some ⟨z,0,none⟩) 1 1,u9,u10],[]⟩ w:=fun z w hp=>by
  refine wpAnyH_ready (rs:=[5]) (by kernel_rfl) (by simp) ?_;refine AllReadyH.cons (o:=MR0OPSq5) rfl (fun K hK=>?_) ?_
  ·exact xM (by rfl) (mS w rfl (.tmp 5) (.tmp 8) rfl B (.slice av n cv) n xs rfl (s1 _ hp.1).2.2.1 z 1 H hH rfl hp.2 hn (s1 _ hp.1).2.2.2 (fun g q w' h1 h2 _ _=>⟨rfl,(have hp:(fun(z:Nat) (g:Nat) (q:Nat) (w:World)=>(P2 w/\w.ownsRow B 23 32 (.slice (some ⟨g,0,none⟩) (n+1) q) (n+1) (xs ++ za H))) z g q w':=⟨hg _ _ hp.1 h2,h1⟩;hK.out _ _ (s2 _ hp.1) (fun _=>ek1_3_4_5 z g q _ hp))⟩))
  exact AllReadyH.nil
 have k1_3:∀ (w:World),(P1 w)->wpAnyH Tryz.prog .any ym Q (fun w:World=>w.cell? ⟨qb,0,none⟩=some (.pointer (some ⟨rb,0,none⟩))) 4 #[tt,tt,tt,tt,ff,ff,ff,ff] ⟨#[u0,.pointer (some ⟨pb,0,none⟩),.pointer (some ⟨qb,0,none⟩),u3,.pointer (some ⟨pb,2,none⟩),.slice av n cv,.pointer (some ⟨rb,0,none⟩),.agg (za H).toArray,u8,u9,u10],[]⟩ w:=fun  w hp=>by
  refine wpAnyH_ready (rs:=[4]) (by kernel_rfl) (by simp) ?_;refine AllReadyH.cons (o:=MR0OPSq4) rfl (fun K hK=>?_) ?_
  ·exact xM (by rfl) (yM w rfl 26 23 (.tmp 7) rfl (za H).toArray rfl 32 _ _ Tryz.underlying26 yQ (by simp[za,hH]) rfl (by decide) (by decide) ⟨rfl,(have hp:(fun(z:Nat) (w:World)=>(P1 w/\Has w z (za H).toArray 23)) w.heap.size _:=⟨hal _ _ hp,Has.new w _ _⟩;hK.out _ _ ((s1 _ hp.1).1) (fun _=>k1_3_4 w.heap.size _ hp))⟩)
  exact AllReadyH.nil
 have k3_4:∀ (z:Nat) (w:World),(P1 w/\Has w z (za H).toArray 23)->wpAnyH Tryz.prog .any ym Q (fun w:World=>w.cell? ⟨qb,0,none⟩=some (.pointer (some ⟨rb,0,none⟩))) 4 #[tt,ff,tt,tt,tt,ff,ff,ff] ⟨#[u0,.pointer (some ⟨pb,0,none⟩),.pointer (some ⟨qb,0,none⟩),u3,.pointer (some ⟨pb,2,none⟩),u5,.pointer (some ⟨rb,0,none⟩),.agg (za H).toArray,.slice (some ⟨z,0,none⟩) 1 1,u9,u10],[]⟩ w:=fun z w hp=>by
  refine wpAnyH_ready (rs:=[1]) (by kernel_rfl) (by simp) ?_;refine AllReadyH.cons (o:=MR0OPSq1) rfl (fun K hK=>?_) ?_
  ·exact zP (by rfl) (by have hx:=(s1 _ hp.1).2.1;go_simp) (have hp:(fun(z:Nat) (w:World)=>(P1 w/\Has w z (za H).toArray 23)) z w:=hp;hK.out _ _ ((s1 _ hp.1).1) (fun _=>k1_3_4 z _ hp))
  exact AllReadyH.nil
 have k1:∀ (w:World),(P0 w)->wpAnyH Tryz.prog .any ym Q (fun w:World=>w.cell? ⟨qb,0,none⟩=some (.pointer (some ⟨rb,0,none⟩))) 5 #[tt,tt,tt,ff,ff,ff,ff,ff] ⟨#[u0,.pointer (some ⟨pb,0,none⟩),.pointer (some ⟨qb,0,none⟩),u3,.pointer (some ⟨pb,2,none⟩),.slice av n cv,.pointer (some ⟨rb,0,none⟩),u7,u8,u9,u10],[]⟩ w:=fun  w hp=>by
  refine wpAnyH_ready (rs:=[3]) (by kernel_rfl) (by simp) ?_;refine AllReadyH.cons (o:=MR0OPSq3) rfl (fun K hK=>?_) ?_
  ·rw[if_pos (by rfl)]
   go_simp;refine(show Calls _ _ _ w (fun e w'=>e=.returned (.agg (za H).toArray)/\(P1 w')) from c1 w hp).mono ?_;rintro e w' ⟨rfl,hp⟩;exact hK.out _ _ ((s1 _ hp).1) (fun _=>k1_3  w' hp)
  exact AllReadyH.nil
 have k3:∀ (w:World),(P1 w)->wpAnyH Tryz.prog .any ym Q (fun w:World=>w.cell? ⟨qb,0,none⟩=some (.pointer (some ⟨rb,0,none⟩))) 5 #[tt,ff,tt,tt,ff,ff,ff,ff] ⟨#[u0,.pointer (some ⟨pb,0,none⟩),.pointer (some ⟨qb,0,none⟩),u3,.pointer (some ⟨pb,2,none⟩),u5,.pointer (some ⟨rb,0,none⟩),.agg (za H).toArray,u8,u9,u10],[]⟩ w:=fun  w hp=>by
  refine wpAnyH_ready (rs:=[1,4]) (by kernel_rfl) (by simp) ?_;refine AllReadyH.cons (o:=MR0OPSq1) rfl (fun K hK=>?_) ?_
  ·exact zP (by rfl) (by have hx:=(s1 _ hp).2.1;go_simp) (have hp:(fun(w:World)=>(P1 w))  w:=hp;hK.out _ _ ((s1 _ hp).1) (fun _=>k1_3  _ hp))
  refine AllReadyH.cons (o:=MR0OPSq4) rfl (fun K hK=>?_) ?_
  ·exact xM (by rfl) (yM w rfl 26 23 (.tmp 7) rfl (za H).toArray rfl 32 _ _ Tryz.underlying26 yQ (by simp[za,hH]) rfl (by decide) (by decide) ⟨rfl,(have hp:(fun(z:Nat) (w:World)=>(P1 w/\Has w z (za H).toArray 23)) w.heap.size _:=⟨hal _ _ hp,Has.new w _ _⟩;hK.out _ _ ((s1 _ hp.1).1) (fun _=>k3_4 w.heap.size _ hp))⟩)
  exact AllReadyH.nil
 have k:∀ (w:World),(P0 w)->wpAnyH Tryz.prog .any ym Q (fun w:World=>w.cell? ⟨qb,0,none⟩=some (.pointer (some ⟨rb,0,none⟩))) 6 #[tt,ff,tt,ff,ff,ff,ff,ff] ⟨#[u0,.pointer (some ⟨pb,0,none⟩),.pointer (some ⟨qb,0,none⟩),u3,.pointer (some ⟨pb,2,none⟩),u5,.pointer (some ⟨rb,0,none⟩),u7,u8,u9,u10],[]⟩ w:=fun  w hp=>by
  refine wpAnyH_ready (rs:=[1,3]) (by kernel_rfl) (by simp) ?_;refine AllReadyH.cons (o:=MR0OPSq1) rfl (fun K hK=>?_) ?_
  ·exact zP (by rfl) (by have hx:=(s0 _ hp).2;go_simp) (have hp:(fun(w:World)=>(P0 w))  w:=hp;hK.out _ _ ((s0 _ hp).1) (fun _=>k1  _ hp))
  refine AllReadyH.cons (o:=MR0OPSq3) rfl (fun K hK=>?_) ?_
  ·rw[if_pos (by rfl)]
   go_simp;refine(show Calls _ _ _ w (fun e w'=>e=.returned (.agg (za H).toArray)/\(P1 w')) from c1 w hp).mono ?_;rintro e w' ⟨rfl,hp⟩;exact hK.out _ _ ((s1 _ hp).1) (fun _=>k3  w' hp)
  exact AllReadyH.nil
 have hp:=h0;have hww:(fun w:World=>w.cell? ⟨qb,0,none⟩=some (.pointer (some ⟨rb,0,none⟩))) W.drew:=(s0 _ hp).1;have last:=k W.drew hp
 have z:wpAnyH Tryz.prog .any ym Q (fun w:World=>w.cell? ⟨qb,0,none⟩=some (.pointer (some ⟨rb,0,none⟩))) 8 #[ff,ff,ff,ff,ff,ff,ff,ff] ⟨#[u0,.pointer (some ⟨pb,0,none⟩),.pointer (some ⟨qb,0,none⟩),u3,u4,u5,u6,u7,u8,u9,u10],[]⟩ W.drew:=by
  refine tkP MR0OPSq0 (.pointer (some ⟨pb,2,none⟩)) 0 hQ hww ?_;simp only[List.set];refine tkH MR0OPSq2 (.pointer (some ⟨rb,0,none⟩)) 2 hQ (Or.inl ⟨by rfl,fun w hw=>by have hx:w.cell? ⟨qb,0,none⟩=some (.pointer (some ⟨rb,0,none⟩)):=hw;go_simp⟩) hww ?_;simp only[List.set];exact last
 exact wp_region_held_drew (S:=(fun w:World=>w.cell? ⟨qb,0,none⟩=some (.pointer (some ⟨rb,0,none⟩)))) (by kernel_rfl) hww (fun _=>z)
theorem z0w{Q:Exit->Act->World->Prop}{u0 u3 u4 u5 u6 u7 u8 u9 u10:Value}(W:World)(pb qb rb:Nat)(v:Value)(X:List PanicEntry)(P0 D:World->Prop)(h0:P0 W.drew)(s0:∀ w,P0 w->w.cell? ⟨qb,0,none⟩=some (.pointer (some ⟨rb,0,none⟩))/\w.cell? ⟨pb,2,none⟩=some v)(hdie:∀ (a:Act) (w:World),a.defers=[]->D w->Q (.panic X) a w)
  (c1:∀ w,P0 w->Calls Tryz.prog 106 #[.pointer (some ⟨rb,0,none⟩)] w fun e w'=>e=.panicked X/\D w')(hQ:∀ c (a:Act) (t:Tmp) (v:Value) w,Q (.panic c) (a.put (some t) v) w->Q (.panic c) a w)
  : (Code.region 0 ym true).wp Tryz.prog Q ⟨#[u0,.pointer (some ⟨pb,0,none⟩),.pointer (some ⟨qb,0,none⟩),u3,u4,u5,u6,u7,u8,u9,u10],[]⟩ W:=by
 have k1:∀ (w:World),(P0 w)->wpAnyH Tryz.prog .any ym Q (fun w:World=>w.cell? ⟨qb,0,none⟩=some (.pointer (some ⟨rb,0,none⟩))) 5 #[tt,tt,tt,ff,ff,ff,ff,ff] ⟨#[u0,.pointer (some ⟨pb,0,none⟩),.pointer (some ⟨qb,0,none⟩),u3,.pointer (some ⟨pb,2,none⟩),v,.pointer (some ⟨rb,0,none⟩),u7,u8,u9,u10],[]⟩ w:=fun  w hp=>by
  refine wpAnyH_ready (rs:=[3]) (by kernel_rfl) (by simp) ?_;refine AllReadyH.cons (o:=MR0OPSq3) rfl (fun K hK=>?_) ?_
  ·rw[if_pos (by rfl)]
   go_simp;refine(show Calls _ _ _ w (fun e w'=>e=.panicked (X)/\D w') from c1 w hp).mono ?_;rintro e w' ⟨rfl,hd⟩;exact hdie _ _ rfl hd
  exact AllReadyH.nil
 have k:∀ (w:World),(P0 w)->wpAnyH Tryz.prog .any ym Q (fun w:World=>w.cell? ⟨qb,0,none⟩=some (.pointer (some ⟨rb,0,none⟩))) 6 #[tt,ff,tt,ff,ff,ff,ff,ff] ⟨#[u0,.pointer (some ⟨pb,0,none⟩),.pointer (some ⟨qb,0,none⟩),u3,.pointer (some ⟨pb,2,none⟩),u5,.pointer (some ⟨rb,0,none⟩),u7,u8,u9,u10],[]⟩ w:=fun  w hp=>by
  refine wpAnyH_ready (rs:=[1,3]) (by kernel_rfl) (by simp) ?_;refine AllReadyH.cons (o:=MR0OPSq1) rfl (fun K hK=>?_) ?_
  ·exact zP (by rfl) (by have hx:=(s0 _ hp).2;go_simp) (have hp:(fun(w:World)=>(P0 w))  w:=hp;hK.out _ _ ((s0 _ hp).1) (fun _=>k1  _ hp))
  refine AllReadyH.cons (o:=MR0OPSq3) rfl (fun K hK=>?_) ?_
  ·rw[if_pos (by rfl)]
   go_simp;refine(show Calls _ _ _ w (fun e w'=>e=.panicked (X)/\D w') from c1 w hp).mono ?_;rintro e w' ⟨rfl,hd⟩;exact hdie _ _ rfl hd
  exact AllReadyH.nil
 have hp:=h0;have hww:(fun w:World=>w.cell? ⟨qb,0,none⟩=some (.pointer (some ⟨rb,0,none⟩))) W.drew:=(s0 _ hp).1;have last:=k W.drew hp
 have z:wpAnyH Tryz.prog .any ym Q (fun w:World=>w.cell? ⟨qb,0,none⟩=some (.pointer (some ⟨rb,0,none⟩))) 8 #[ff,ff,ff,ff,ff,ff,ff,ff] ⟨#[u0,.pointer (some ⟨pb,0,none⟩),.pointer (some ⟨qb,0,none⟩),u3,u4,u5,u6,u7,u8,u9,u10],[]⟩ W.drew:=by
  refine tkP MR0OPSq0 (.pointer (some ⟨pb,2,none⟩)) 0 hQ hww ?_;simp only[List.set];refine tkH MR0OPSq2 (.pointer (some ⟨rb,0,none⟩)) 2 hQ (Or.inl ⟨by rfl,fun w hw=>by have hx:w.cell? ⟨qb,0,none⟩=some (.pointer (some ⟨rb,0,none⟩)):=hw;go_simp⟩) hww ?_;simp only[List.set];exact last
 exact wp_region_held_drew (S:=(fun w:World=>w.cell? ⟨qb,0,none⟩=some (.pointer (some ⟨rb,0,none⟩)))) (by kernel_rfl) hww (fun _=>z)
end Go.Proofs.YtobaogpomcocpaaGreatDoor
