/- ManyClashes: part 27. -/
import Derived.Test.YtobaogpomcocpaaGreatDoorManyClashesP26
set_option maxRecDepth 100000
set_option maxHeartbeats 16000000
open Go.RowKit
namespace Go.Proofs.YtobaogpomcocpaaGreatDoor
def DECG(w:World)(pb:Nat)(A:MANS)(w':World):Prop:=
 A.1=0/\∃ a c a2 K c2,Has w' pb #[.int .u64 (A.2.1:Int),.slice a A.2.2.1.length c,.slice a2 K c2] 45/\w'.ownsRow w.heap.size 24 1 (.slice a A.2.2.1.length c) A.2.2.1.length (ze A.2.2.1)/\w'.ownsRow w.heap.size 23 32 (.slice a2 K c2) K (za A.2.2.2)/\A.2.2.2.length=32*K/\(∀ b,b<w.heap.size->b≠pb->w'.heap[b]?=w.heap[b]?)/\Below pb w w'
theorem Kw{wS w:World}{bb pb:Nat}{a:Option Addr}{c:Nat}{l:List Int}(hS:SRC wS a c l)(hb:Below wS.heap.size wS w)(h0:Has w bb #[.slice a l.length c] 27)(h1:Has w pb ZMANY 45)(hT:Tabled wS)(hw0:0<wS.heap.size):
  Calls Tryz.prog 71 #[.pointer (some ⟨bb,0,none⟩),.pointer (some ⟨pb,0,none⟩)] w fun e w'=>(e=.returned (.tuple #[])/\DECG w pb (MDC l) w')\/∃ x,e=.panicked (zE x)/\(x=(MDC l).1/\x≠0/\Below w.heap.size w w'):=by
 obtain⟨w1,e1⟩:∃ w1,w.alloc (.cells #[.slice a l.length c] 112)=w1:=⟨_,rfl⟩
 have hb1:Below w.heap.size w w1:=by rw[<-e1];exact(Below.refl _ _).alloc (Nat.le_refl _) _
 have s1:w1.heap.size=w.heap.size+1:=by rw[<-e1];simp
 have hsz:=hb.size;have R1:RDR wS w1 w.heap.size l:=⟨⟨a,c,by rw[<-e1];exact Has.new w _ _,hS⟩,hb.trans (hb1.mono hsz),hsz⟩
 have cp:=mV R1 hT hw0;obtain⟨A,hA⟩:∃ A,MDC l=A:=⟨_,rfl⟩
 rw[hA] at cp ⊢;have x0:=h0.cell 0;have hlt:=h1.lt;have HA:Aside (Has w1 pb ZMANY 45/\Below w.heap.size w w1/\w1.heap.size=w.heap.size+1/\pb<w.heap.size):=⟨h1.keep hb1,hb1,s1,hlt⟩
 obtain⟨n,hn⟩:∃ n,l.length=n:=⟨_,rfl⟩
 rw[hn] at e1 x0;have info3:(Tryz.prog.info? 45).map (·.size)=some 3:=by kernel_rfl
 clear hS hb h0 h1 hT hw0 hb1 s1 hsz R1 hA hlt;go_enter Tryz.func71,Tryz.ntmps71;go_wp2_with fail
 refine cp.mono ?_;rintro e w2 (⟨hE,a2,c2,a3,K,c3,rfl,o1,o2,hK,S2⟩ | ⟨hE,rfl,S2⟩)
 ·have hp2:Has w2 pb ZMANY 45:=S2.has HA.out.1 (by have:=HA.out;omega)
  obtain⟨M,hM⟩:∃ M,A.2.2.1.length=M:=⟨_,rfl⟩
  obtain⟨Z,hZ⟩:∃ Z,A.2.1=Z:=⟨_,rfl⟩
  rw[hM] at o1 ⊢;rw[hZ]
  have FN:Aside (DECG w pb A (w2.setRow pb #[.int .u64 (Z:Int),.slice a2 M c2,.slice a3 K c3])):=by
   have hwa:=HA.out;refine⟨hE,a2,c2,a3,K,c3,by rw[hZ,hM];exact hp2.row _,?_,?_,hK,fun b hb hne=>(setRow_other _ _ _ _ hne).trans ((S2.kp b (by omega) (by omega)).trans (HA.out.2.1.block b hb)),?_⟩
   ·rw[hM]
    exact zq (xf o1 fun k e=>setRow_other _ _ _ _ (by have:=(o1.lt k e).1;omega)) (by omega)
   ·exact zq (xf o2 fun k e=>setRow_other _ _ _ _ (by have:=(o2.lt k e).1;omega)) (by omega)
   ·exact zm ((HA.out.2.1.mono (by omega)).trans (S2.bl.mono (by omega))) (Nat.le_refl _) _
  have infoM:(Tryz.prog.info? 45).map (·.size)=some (#[Value.int .u64 (Z:Int),.slice a2 M c2,.slice a3 K c3]:Array Value).size:=info3;have sizeM:ZMANY.size=(#[Value.int .u64 (Z:Int),.slice a2 M c2,.slice a3 K c3]:Array Value).size:=rfl;have allM:(#[Value.int .u64 (Z:Int),.slice a2 M c2,.slice a3 K c3]:Array Value).all (·.oneCell')=true:=by simp[Value.oneCell']
  have MM:Aside ((Tryz.prog.info? 45).map (·.size)=some (#[Value.int .u64 (Z:Int),.slice a2 M c2,.slice a3 K c3]:Array Value).size/\ZMANY.size=(#[Value.int .u64 (Z:Int),.slice a2 M c2,.slice a3 K c3]:Array Value).size/\(#[Value.int .u64 (Z:Int),.slice a2 M c2,.slice a3 K c3]:Array Value).all (·.oneCell')=true/\Has w2 pb ZMANY 45):=⟨infoM,sizeM,allM,hp2⟩
  clear cp o1 o2 hK S2 hp2 HA infoM sizeM allM hE hM hZ
  go_wp2_with (first
   | (refine wpList_store_row rfl 45 (.tmp 1) (.tmp 5) rfl _ _ rfl rfl 45 ZMANY MM.out.2.2.2 MM.out.1 MM.out.2.1 MM.out.2.2.1 ?_))
  exact bodyPost_end (v:=.tuple #[]) (by simp[results,Tryz.f71]) rfl (.inl ⟨rfl,FN.out⟩)
 ·exact⟨rfl,.inr ⟨_,rfl,rfl,hE,HA.out.2.1.trans ((STAY.bl S2))⟩⟩
def DECM(w:World)(A:MANS)(e:Ending)(w':World):Prop:=
 ∃ a c a2 K c2,e=.returned (.tuple #[.agg #[.int .u64 (A.2.1:Int),.slice a A.2.2.1.length c,.slice a2 K c2],.int .i64 A.1])/\w'.ownsRow w.heap.size 24 1 (.slice a A.2.2.1.length c) A.2.2.1.length (ze A.2.2.1)/\w'.ownsRow w.heap.size 23 32 (.slice a2 K c2) K (za A.2.2.2)/\A.2.2.2.length=32*K/\Below w.heap.size w w'
theorem z1Q{n:Nat}{I:Int × List Nat × List Int}(h:(MD3 n I).1≠0):MD3 n I=MERR (MD3 n I).1:=by
 unfold MD3 at h ⊢;by_cases h1:I.1≠0
 ·rw[if_pos h1];rfl
 ·rw[if_neg h1] at h ⊢
  by_cases h2:I.2.2.length<32*(zc (TPS n) I.2.1).length
  ·rw[if_pos h2];rfl
  ·rw[if_neg h2] at h ⊢
   by_cases h3:32*(zc (TPS n) I.2.1).length<I.2.2.length
   ·rw[if_pos h3];rfl
   ·rw[if_neg h3] at h
    exact absurd rfl h
theorem z1R{l:List Int}(h:(MDC l).1≠0):MDC l=MERR (MDC l).1:=by
 cases l with
 | nil=>rfl
 | cons x t=>
   have e:MDC (x :: t)=if x=78 then MD1 t else MERR 14:=rfl;rw[e] at h ⊢;by_cases hx:x=78
   ·rw[if_pos hx] at h ⊢
    unfold MD1 at h ⊢;by_cases h1:(LNG t).2.2≠0
    ·rw[if_pos h1];rfl
    ·rw[if_neg h1] at h ⊢
     by_cases h2:4611686018427387904<(LNG t).1.toNat
     ·rw[if_pos h2];rfl
     ·rw[if_neg h2] at h ⊢
      exact z1Q h
   ·rw[if_neg hx];rfl
theorem Jq(a:Option Addr)(n c:Nat)(l:List Int)(w:World)(hB:Bytes w a n l)(hc:n<=c)(hn:n<=1000000)(hT:Tabled w)(hw0:0<w.heap.size):Calls Tryz.prog 40 #[.slice a n c] w (DECM w (MDC l)):=by
  have hmf:∀ (fn:Fn) (first cap:Array Value) (w:World),(Instr.makeFunc fn first cap).run Tryz.prog w=.ok (.func fn first cap) w:=fun _ _ _ _=>rfl;have hl:=hB.1;have hS:SRC w a c l:=⟨by rw[hl];exact hB,by omega,by omega⟩
  obtain⟨w1,e1⟩:∃ w1,w.alloc (.cells #[.slice a n c] 27)=w1:=⟨_,rfl⟩
  obtain⟨w2,e2⟩:∃ w2,w1.alloc (.cells ZMANY 45)=w2:=⟨_,rfl⟩
  obtain⟨w3,e3⟩:∃ w3,w2.alloc (.cells ZMANY 45)=w3:=⟨_,rfl⟩
  obtain⟨w4,e4⟩:∃ w4,w3.alloc (.cells #[.int .i64 0] 29)=w4:=⟨_,rfl⟩
  have s1:w1.heap.size=w.heap.size+1:=by rw[<-e1];simp
  have s2:w2.heap.size=w.heap.size+2:=by rw[<-e2];simp;omega
  have s3:w3.heap.size=w.heap.size+3:=by rw[<-e3];simp;omega
  have s4:w4.heap.size=w.heap.size+4:=by rw[<-e4];simp;omega
  have hb4:Below w.heap.size w w4:=by
    rw[<-e4,<-e3,<-e2,<-e1];exact((((Below.refl _ _).alloc (Nat.le_refl _) _).alloc (by simp) _).alloc (by simp;omega) _).alloc (by simp;omega) _
  have h0:Has w4 w.heap.size #[.slice a l.length c] 27:=by
    rw[<-e4,<-e3,<-e2,<-e1,hl];exact(((Has.new w _ _).alloc _).alloc _).alloc _
  have h1:Has w4 w1.heap.size ZMANY 45:=by
    rw[<-e4,<-e3,<-e2];exact((Has.new w1 _ _).alloc _).alloc _
  have h2:Has w4 w2.heap.size ZMANY 45:=by
    rw[<-e4,<-e3];exact(Has.new w2 _ _).alloc _
  have h3:Has w4 w3.heap.size #[.int .i64 0] 29:=by
    rw[<-e4];exact Has.new w3 _ _
  have cd:=Kw hS hb4 h0 h2 hT hw0;rw[<-e4] at cd
  have cf:=z0y w.heap.size w2.heap.size w3 _ _ cd
    (fun w' h=>by
      obtain⟨_,_,_,_,_,_,_,_,_,_,hk,_⟩:=h;rw[e4] at hk;exact(hk w3.heap.size (by omega) (by omega)).trans h3)
    (fun x w' ⟨_,_,hb⟩=>by rw[e4] at hb;exact h3.keep hb)
  rw[e4] at cf;obtain⟨A,hA⟩:∃ A,MDC l=A:=⟨_,rfl⟩
  have hMe:=z1R (l:=l);rw[hA] at cf hMe ⊢
  have FIN:Aside (∀ e w',xI w3 (fun w'=>DECG w4 w2.heap.size A w') (fun x w'=>x=A.1/\x≠0/\Below w4.heap.size w4 w') e w'->e=.returned (.int .i64 A.1)/\∃ a c a2 K c2,Has w' w2.heap.size #[.int .u64 (A.2.1:Int),.slice a A.2.2.1.length c,.slice a2 K c2] 45/\Has w' w1.heap.size ZMANY 45/\w'.ownsRow w4.heap.size 24 1 (.slice a A.2.2.1.length c) A.2.2.1.length (ze A.2.2.1)/\w'.ownsRow w4.heap.size 23 32 (.slice a2 K c2) K (za A.2.2.2)/\A.2.2.2.length=32*K/\Below w.heap.size w w'):=by
    rintro e w' (⟨rfl,wx,⟨hE,a',c',a2,K,c2,q1,q2,q3,q4,q5,q6⟩,rfl⟩ | ⟨x,wx,rfl,⟨rfl,hx,hbx⟩,rfl⟩)
    · refine⟨by rw[hE],a',c',a2,K,c2,q1.other (by show w2.heap.size≠w3.heap.size;omega) _,?_,ownsRow_setCell_below q2 (a:=⟨w3.heap.size,0,none⟩) (by show w3.heap.size<w4.heap.size;omega) _,ownsRow_setCell_below q3 (a:=⟨w3.heap.size,0,none⟩) (by show w3.heap.size<w4.heap.size;omega) _,q4,?_⟩
      · exact Has.other (show Has wx w1.heap.size ZMANY 45 from (q5 w1.heap.size (by omega) (by omega)).trans h1) (by show w1.heap.size≠w3.heap.size;omega) _
      · exact(hb4.trans (q6.mono (by omega))).setCell (by show w.heap.size<=w3.heap.size;omega) _
    · have hP:A=MERR A.1:=hMe hx
      refine⟨rfl,none,0,none,0,0,?_,?_,?_,?_,?_,(hb4.trans (hbx.mono hb4.size)).setCell (by show w.heap.size<=w3.heap.size;omega) _⟩
      · have e1:A.2.1=0:=by rw[hP];rfl
        have e2:A.2.2.1=[]:=by rw[hP];rfl
        rw[e1,e2];exact(h2.keep hbx).other (by show w2.heap.size≠w3.heap.size;omega) _
      · exact(h1.keep hbx).other (by show w1.heap.size≠w3.heap.size;omega) _
      · have e2:A.2.2.1=[]:=by rw[hP];rfl
        rw[e2];exact⟨rfl,.inl ⟨rfl,rfl⟩⟩
      · have e2:A.2.2.2=[]:=by rw[hP];rfl
        rw[e2];exact⟨rfl,.inl ⟨rfl,rfl⟩⟩
      · have e2:A.2.2.2=[]:=by rw[hP];rfl
        rw[e2];rfl
  have SZ:Aside (w1.heap.size=w.heap.size+1/\w2.heap.size=w.heap.size+2/\w4.heap.size=w.heap.size+4):=⟨s1,s2,s4⟩
  have info3:(Tryz.prog.info? 45).map (·.size)=some 3:=by kernel_rfl
  clear cd h0 h1 h2 h3 hb4 hl hS hB hc hn hT s1 s2 s3 s4 e4 hw0 hA hMe;go_enter Tryz.func40,Tryz.ntmps40;go_wp2_with fail
  refine cf.mono ?_;intro e w5 hh;obtain⟨rfl,a',c',a2,K,c2,q1,q2,q3,q4,q5,q6⟩:=FIN.out e w5 hh;obtain⟨M,hM⟩:∃ M,A.2.2.1.length=M:=⟨_,rfl⟩
  obtain⟨Z,hZ⟩:∃ Z,A.2.1=Z:=⟨_,rfl⟩
  obtain⟨E,hE⟩:∃ E,A.1=E:=⟨_,rfl⟩
  rw[hZ,hM] at q1;rw[hM] at q3
  have FN:Aside (DECM w A (.returned (.tuple #[.agg #[.int .u64 (Z:Int),.slice a' M c',.slice a2 K c2],.int .i64 E])) (w5.setRow w1.heap.size #[.int .u64 (Z:Int),.slice a' M c',.slice a2 K c2])):=by
    have hsz:=SZ.out;refine⟨a',c',a2,K,c2,by rw[hZ,hM,hE],?_,?_,q5,zm q6 (by omega) _⟩
    · rw[hM]
      exact zq (xf q3 fun k e=>setRow_other _ _ _ _ (by have:=(q3.lt k e).1;omega)) (by omega)
    · exact zq (xf q4 fun k e=>setRow_other _ _ _ _ (by have:=(q4.lt k e).1;omega)) (by omega)
  rw[hE];have infoM:(Tryz.prog.info? 45).map (·.size)=some (#[Value.int .u64 (Z:Int),.slice a' M c',.slice a2 K c2]:Array Value).size:=info3;have sizeM:ZMANY.size=(#[Value.int .u64 (Z:Int),.slice a' M c',.slice a2 K c2]:Array Value).size:=rfl;have allM:(#[Value.int .u64 (Z:Int),.slice a' M c',.slice a2 K c2]:Array Value).all (·.oneCell')=true:=by simp[Value.oneCell']
  have MM:Aside ((Tryz.prog.info? 45).map (·.size)=some (#[Value.int .u64 (Z:Int),.slice a' M c',.slice a2 K c2]:Array Value).size/\ZMANY.size=(#[Value.int .u64 (Z:Int),.slice a' M c',.slice a2 K c2]:Array Value).size/\(#[Value.int .u64 (Z:Int),.slice a' M c',.slice a2 K c2]:Array Value).all (·.oneCell')=true/\Has w5 w2.heap.size #[.int .u64 (Z:Int),.slice a' M c',.slice a2 K c2] 45/\Has w5 w1.heap.size ZMANY 45):=⟨infoM,sizeM,allM,q1,q2⟩
  clear hh q1 q2 q3 q4 q5 q6 FIN cf SZ infoM sizeM allM hM hZ hE
  go_wp2_with (first
    | (refine wpList_load_row rfl 45 (.tmp 4) rfl w2.heap.size rfl 45 #[.int .u64 (Z:Int),.slice a' M c',.slice a2 K c2] (0,0) _ MM.out.2.2.2.1 Tryz.underlying45 rfl MM.out.1 ?_)
    | (refine wpList_store_row rfl 45 (.tmp 2) (.tmp 8) rfl _ _ rfl rfl 45 ZMANY MM.out.2.2.2.2 MM.out.1 MM.out.2.1 MM.out.2.2.1 ?_))
  refine bodyPost_ret (v:=.tuple #[.agg #[.int .u64 (Z:Int),.slice a' M c',.slice a2 K c2],.int .i64 E]) ?_ rfl FN.out;rw[results_cell_tmp rfl];have hrow:=MM.out.2.2.2.2.row #[.int .u64 (Z:Int),.slice a' M c',.slice a2 K c2];simp[asAddr,run_loadVar_row _ w1.heap.size 45 45 _ (0,0) _ hrow Tryz.underlying45 rfl MM.out.1]
theorem mW{o:Oper}{a:Act}{w w':World}{K:Act->World->Prop}{Q:Exit->Act->World->Prop}{v:Value}(hrun:(execOp a.eval o).run Tryz.prog w=.ok (.value v) w')(h:K (a.put o.dst v) w'):Oper.wp Tryz.prog o a w K Q:=by
 unfold Oper.wp;rw[hrun];exact h
theorem yK{ops:Array Oper}{rest:List Oper}{o:Oper}{a:Act}{Q:Exit->Act->World->Prop}(w:World)(hgd:o.guard=none)(x y:Operand)(ho:o.op=.slice 27 x (some y) none none)
  (b off n c k:Nat)(hx:a.eval x=.slice (some ⟨b,off,none⟩) n c)(hy:a.eval y=.int .i64 (k:Int))(hk:k<=n)(hc:n<=c)
  (h:wpList Tryz.prog ops Q rest (a.put o.dst (.slice (REST b off c k) (n - k) (c - k))) w):wpList Tryz.prog ops Q (o :: rest) a w:=by
 refine wpList_plain hgd fun K hK=>mW ?_ (hK _ _ h);have k1:(k:Int)<=(n:Int):=by omega
 have k2:(n:Int)<=(c:Int):=by omega
 have k4:(k:Int)<=(c:Int):=by omega
 have k5:¬ (k:Int)<0:=by omega
 unfold execOp;rw[ho];by_cases hck:c=k
 ·have hr:REST b off c k=some ⟨b,off,none⟩:=by simp[REST,hck]
  have hn:n=k:=by omega
  rw[hr];subst hck hn;simp only[Option.map_some,Option.map_none,hx,hy];clear hx hy h ho hK hgd;go_simp
 ·have hr:REST b off c k=some ⟨b,off+k,none⟩:=by simp[REST,hck]
  have hc1:¬ c - k=0:=by omega
  rw[hr];simp only[Option.map_some,Option.map_none,hx,hy];clear hx hy h ho hK hgd;go_simp
theorem z0z(a:Option Addr)(m c N:Nat)(hm:m<=1000000)(hs:m<32*N)(w:World):
  Calls Tryz.prog 34 #[.slice a m c,.int .i64 (N:Int)] w fun e w'=>e=.returned (.tuple #[.slice none 0 0,.int .i64 11])/\w=w':=by
 have q1:IntKind.i64.wrap ((m:Int) / 32)=(m:Int) / 32:=by rw[IntKind.wrap_i64];omega
 have q2:(m:Int).tdiv 32=(m:Int) / 32:=Int.tdiv_eq_ediv_of_nonneg (by omega);have k1:(m:Int) / 32<(N:Int):=by omega
 clear hm hs;go_enter Tryz.func34,Tryz.ntmps34;go_wp2;go_ret2;exact⟨rfl,rfl⟩
theorem z0A(a:Option Addr)(m c N:Nat)(hm:m<=16000)(hN:N<2 ^ 40)(t:List Int)(w:World)(hB:Bytes w a m t):
  Calls Tryz.prog 34 #[.slice a m c,.int .i64 (N:Int)] w fun e w'=>∃ av cv,e=.returned (.tuple #[.slice av (TAKN t N).2.1 cv,.int .i64 (TAKN t N).1])/\w'.ownsRow w.heap.size 23 32 (.slice av (TAKN t N).2.1 cv) (TAKN t N).2.1 (za (TAKN t N).2.2)/\Below w.heap.size w w':=by
 by_cases h:N<=1000
 ·refine(z1N a m c N (by omega) h t w hB).mono ?_
  rintro e w' ⟨v,rfl,ho,hb⟩;obtain⟨av,cv,rfl⟩:=qU ho;exact⟨av,cv,rfl,ho,hb⟩
 ·have hs:m<32*N:=by omega
  have e1:TAKN t N=(11,0,[]):=by unfold TAKN;rw[if_pos (by rw[hB.1];exact hs)]
  rw[e1];refine(z0z a m c N (by omega) hs w).mono ?_;rintro e w' ⟨rfl,rfl⟩;exact⟨none,0,rfl,ji _ _,Below.refl _ _⟩
theorem z0B{Z:Nat}{L:List Nat}{u:List Int}:MD3 Z (0,L,u)=if (TAKN u (zc (TPS Z) L).length).1=0 then (0,Z,L,u) else MERR (TAKN u (zc (TPS Z) L).length).1:=by
 unfold MD3 TAKN;rw[if_neg (by simp)];show (if u.length<32*(zc (TPS Z) L).length then MERR 11 else if 32*(zc (TPS Z) L).length<u.length then MERR 13 else (0,Z,L,u))=_;by_cases h1:u.length<32*(zc (TPS Z) L).length
 ·rw[if_pos h1,if_pos h1];rfl
 ·rw[if_neg h1,if_neg h1]
  by_cases h2:32*(zc (TPS Z) L).length<u.length
  ·rw[if_pos h2,if_pos h2];rfl
  ·rw[if_neg h2,if_neg h2];rfl
theorem DECM.die{w w':World}{A:MANS}{E:Int}(hA:A=MERR E)(hb:Below w.heap.size w w'):DECM w A (.returned (.tuple #[.agg ZMANY,.int .i64 E])) w':=by
 rw[hA];exact⟨none,0,none,0,0,rfl,⟨rfl,.inl ⟨rfl,rfl⟩⟩,ji _ _,rfl,hb⟩
theorem Y4:(Tryz.prog.info? 45).map (·.size)=some 3:=by kernel_rfl
theorem yO{fn:Func}{p u:Tmp}{ty:TypeId}(h:fn.results=#[.cell p ty,.tmp u])(tmps:Array Value)(w:World)(g:Nat)(C:Array Value)(v:Value)(hC:C.size=3)(hty:ty=45)(hp:tmps.getD p undef=.pointer (some ⟨g,0,none⟩))(hu:tmps.getD u undef=v)(hg:Has w g C 45):(results fn tmps).run Tryz.prog w=.ok (.tuple #[.agg C,v]) w:=by
 subst hty;rw[results_cell_tmp h,hp,hu];have hi:(Tryz.prog.info? 45).map (·.size)=some C.size:=by rw[hC];exact Y4
 simp[asAddr,run_loadVar_row _ g 45 45 _ (0,0) _ hg Tryz.underlying45 rfl hi]
theorem XS{x y:Nat}(h:x+y<=1000000):wrap64 ((x:Int)+(y:Int))=((x+y:Nat):Int):=by unfold wrap64;omega
theorem UC(a:Option Addr)(n c:Nat)(l:List Int)(w:World)(hB:Bytes w a n l)(hc:n<=c)(hn:n<=16000):Calls Tryz.prog 17 #[.slice a n c] w (DECM w (MDC l)):=by
  obtain⟨w1,e1⟩:∃ w1,w.alloc (.cells ZMANY 45)=w1:=⟨_,rfl⟩
  have hb1:Below w.heap.size w w1:=by rw[<-e1];exact(Below.refl _ _).alloc (Nat.le_refl _) _
  have h1:Has w1 w.heap.size ZMANY 45:=by rw[<-e1];exact Has.new w _ _
  have HR:Aside (Has w1 w.heap.size ZMANY 45/\Below w.heap.size w w1/\Bytes w1 a n l/\n<=c/\n<=16000/\l.length=n):=⟨h1,hb1,hB.below hb1,hc,hn,hB.1⟩
  have BK:Aside (∀ W,Has W w.heap.size ZMANY 45->Below w.heap.size w W->∀ {A:MANS} {E:Int},A=MERR E->DECM w A (.returned (.tuple #[.agg ZMANY,.int .i64 E])) (W.setRow w.heap.size ZMANY)):=fun W hW hb A E hA=>DECM.die hA (zm hb (Nat.le_refl _) _);have iM:Aside ((Tryz.prog.info? 45).map (·.size)=some ZMANY.size/\ZMANY.all (·.oneCell')=true):=⟨Y4,by simp[Value.oneCell']⟩
  clear hb1 h1 hB hc hn;cases l with
  | nil=>
    obtain rfl:n=0:=by have:=HR.out.2.2.2.2.2;simpa using this.symm
    go_enter Tryz.func17,Tryz.ntmps17
    go_wp2_with (first
      | (refine wpList_store_row rfl 45 (.tmp 2) (.tmp 21) rfl _ _ rfl rfl 45 ZMANY HR.out.1 iM.out.1 rfl iM.out.2 ?_))
    refine bodyPost_ret (v:=.tuple #[.agg ZMANY,.int .i64 11]) (yO rfl _ _ w.heap.size _ _ rfl rfl rfl rfl (HR.out.1.row _)) rfl (BK.out w1 HR.out.1 HR.out.2.1 rfl)
  | cons x t=>
    obtain⟨b,off,rfl,hbl,hcs⟩:=HR.out.2.2.1.2.1 (by have:=HR.out.2.2.2.2.2;simp at this;omega);have hn0:¬ (n:Int)=0:=by have:=HR.out.2.2.2.2.2;simp at this;omega
    have hn1:(0:Int)<(n:Int):=by omega
    have hn2:0<n:=by omega
    have xx:w1.cell? ⟨b,off,none⟩=some (.int .u8 x):=by have:=hcs 0 hn2;simpa using this
    by_cases hx:x=78
    · subst hx
      have eM:MDC (78 :: t)=MD1 t:=rfl;rw[eM];have tail:Aside (∀ W k,Below w1.heap.size w1 W->k<=n->Bytes W (REST b off c k) (n - k) ((78 :: t).drop k)):=fun W k hb hk=>(HR.out.2.2.1.behind k hk HR.out.2.2.2.1).below hb
      have LG1:Aside (∀ W k,Below w1.heap.size w1 W->k<=n->Calls Tryz.prog 32 #[.slice (REST b off c k) (n - k) (c - k)] W fun e w'=>e=.returned (.tuple #[.int .u64 (LNG ((78 :: t).drop k)).1,.int .i64 (LNG ((78 :: t).drop k)).2.1,.int .i64 (LNG ((78 :: t).drop k)).2.2])/\W=w'):=fun W k hb hk=>by
        have h1:=Ge (REST b off c k) (n - k) (c - k) _ W (tail.out W k hb hk) (by have:=HR.out.2.2.2.2.1;omega);unfold LNG;rw[(tail.out W k hb hk).1];exact h1
      have hrt:Aside (∀ y∈t,0<=y/\y<=255):=fun y hy=>HR.out.2.2.1.2.2 y (List.mem_cons_of_mem _ hy);have hlt:Aside (t.length+1=n):=by have:=HR.out.2.2.2.2.2;show t.length+1=n;simpa using this
      have c1:=LG1.out w1 1 (Below.refl _ _) (by omega);have d1:(78 :: t).drop 1=t:=rfl;rw[d1] at c1;clear hcs hbl eM d1;by_cases hl:(LNG t).2.2=0
      · obtain ⟨Z, m, q1,q2,q3,q4,q5⟩:=qP hrt.out hl
        rw[q4] at c1;dsimp only at c1;have wa:=XS (x:=1) (y:=m) (by have:=hlt.out;have:=HR.out.2.2.2.2.1;omega);by_cases hZ:4611686018427387904<Z
        · have hZ':(4611686018427387904:Int)<(Z:Int):=by omega
          have FE:Aside (MD1 t=MERR 30):=uO q4 hZ;clear q1 q2 q3 q4 q5 hl wa;go_enter Tryz.func17,Tryz.ntmps17
          go_wp2_with (first
            | (refine yK _ rfl (.tmp 28) (.tmp 29) rfl b off n c 1 rfl rfl (by first | omega | exact hpn | exact k1n) HR.out.2.2.2.1 ?_))
          refine c1.mono ?_;rintro e w2 ⟨rfl,rfl⟩;clear c1 xx
          go_wp2_with (first
            | (refine wpList_store_row rfl 45 (.tmp 2) (.tmp 41) rfl _ _ rfl rfl 45 ZMANY HR.out.1 iM.out.1 rfl iM.out.2 ?_))
          refine bodyPost_ret (v:=.tuple #[.agg ZMANY,.int .i64 30]) (yO rfl _ _ w.heap.size _ _ rfl rfl rfl rfl (HR.out.1.row _)) rfl (BK.out w1 HR.out.1 HR.out.2.1 FE.out)
        · have hZ':¬ (4611686018427387904:Int)<(Z:Int):=by omega
          have hml:Aside (m<=t.length/\1<=m/\Z<=4611686018427387904/\MD1 t=MD3 Z (IDXS Z (t.drop m))):=⟨q3,q2,by omega,Uo q4 (by omega)⟩
          rw[hml.out.2.2.2];have c2:=LG1.out w1 (1+m) (Below.refl _ _) (by have:=hlt.out;omega);have d2:(78 :: t).drop (1+m)=t.drop m:=by rw[Nat.add_comm];rfl
          rw[d2] at c2;clear q1 q2 q3 q4 q5 hl d2;obtain⟨t2,ht2⟩:∃ t2,t.drop m=t2:=⟨_,rfl⟩
          rw[ht2] at c2 ⊢;have hr2:∀ y∈t2,0<=y/\y<=255:=fun y hy=>hrt.out y (List.mem_of_mem_drop (by rw[ht2];exact hy));have hl2e:t2.length=t.length - m:=by rw[<-ht2,List.length_drop]
          by_cases hl:(LNG t2).2.2=0
          · obtain ⟨C, m2, p1,p2,p3,p4,p5⟩:=qP hr2 hl
            rw[p4] at c2;dsimp only at c2;have wb:=XS (x:=1+m) (y:=m2) (by have:=hlt.out;have:=HR.out.2.2.2.2.1;have:=hml.out;omega);obtain⟨at0,hat0⟩:∃ at0,1+m+m2=at0:=⟨_,rfl⟩
            obtain⟨at1,hat1⟩:∃ at1,1+m=at1:=⟨_,rfl⟩
            have eI:IDXS Z t2=IDX Z C 0 (t2.drop m2):=by unfold IDXS;rw[p4];simp
            have d3:(78 :: t).drop at0=t2.drop m2:=by rw[<-hat0,<-ht2,List.drop_drop,show 1+m+m2=(m+m2)+1 by omega];rfl
            obtain⟨A,hA⟩:∃ A,A=IDXS Z t2:=⟨_,rfl⟩
            have hI2:=Y3 (n:=Z) (t:=t2);have hI3:=Xp (n:=Z) hr2;rw[<-hA] at eI hI2 hI3 ⊢;have HA:Aside (A=IDX Z C 0 ((78 :: t).drop at0)/\C<2 ^ 64/\at0<=n/\at1<=n/\Z<=4611686018427387904/\(A.1=0->(∀ x∈A.2.1,x<Z)/\RISES A.2.1)/\(A.1=0->A.2.1.length+A.2.2.length<=t2.length/\∀ x∈A.2.2,0<=x/\x<=255)/\t2.length<=n/\(78 :: t).length=n):=⟨by rw[d3];exact eI,p1,by have:=hlt.out;have:=hml.out;omega,by have:=hlt.out;have:=hml.out;omega,hml.out.2.2.1,hI2,hI3,by have:=hlt.out;omega,by simpa using hlt.out⟩
            have wa2:wrap64 ((1:Int)+(m:Int))=(at1:Int):=by rw[<-hat1];exact wa
            have wb2:wrap64 ((at1:Int)+(m2:Int))=(at0:Int):=by rw[<-hat1,<-hat0];exact wb
            rw[hat1] at c2;have k1n:at1<=n:=HA.out.2.2.2.1;clear p1 p2 p3 p4 p5 hl eI d3 hA hI2 hI3 wa wb hat0 hat1 hml hr2 hl2e ht2;go_enter Tryz.func17,Tryz.ntmps17
            go_wp2_with (first
              | (refine yK _ rfl (.tmp 28) (.tmp 29) rfl b off n c 1 rfl rfl (by first | omega | exact hpn | exact k1n) HR.out.2.2.2.1 ?_))
            refine c1.mono ?_;rintro e w2 ⟨rfl,rfl⟩;clear c1 xx;go_upto_region 12 with fail
            rw[wa2]
            go_wp2_with (first
              | (refine yK _ rfl (.tmp 46) (.tmp 47) rfl b off n c at1 rfl rfl (by first | omega | exact hpn | exact k1n) HR.out.2.2.2.1 ?_))
            refine c2.mono ?_;rintro e w2 ⟨rfl,rfl⟩;clear c2;go_wp2_with fail
            rw[wb2];clear wa2 wb2;generalize (78 :: t)=bt at *
            go_loopg [4,9,10,11] C (fun q s4 s9 s10 s11 wx=>∃ (j k pt:Nat) (v:Value) (acc:List Nat),s4=.int .i64 (pt:Int)/\v=s9/\s10=.int .u64 (k:Int)/\s11=.int .u64 (j:Int)/\Aside (j+q=C/\k<=Z/\pt<=n/\acc.length<=pt/\wx.ownsRow w1.heap.size 24 1 v acc.length (ze acc)/\Below w1.heap.size w1 wx/\A=((IDX Z q k (bt.drop pt)).1,(if (IDX Z q k (bt.drop pt)).1=0 then acc ++ (IDX Z q k (bt.drop pt)).2.1 else A.2.1),(if (IDX Z q k (bt.drop pt)).1=0 then (IDX Z q k (bt.drop pt)).2.2 else A.2.2))))
            case atStart=>
              refine⟨0,0,at0,_,[],rfl,rfl,rfl,rfl,by omega,Nat.zero_le _,HA.out.2.2.1,Nat.zero_le _,⟨rfl,.inl ⟨rfl,rfl⟩⟩,Below.refl _ _,?_⟩;rw[HA.out.1];split
              · rfl
              · rfl
            case round=>
              obtain⟨j,k,pt,v,acc,rfl,rfl,rfl,rfl,G⟩:=hrel;obtain⟨av,cv,rfl⟩:=qU G.out.2.2.2.2.1;have hres:Has wr w.heap.size ZMANY 45:=HR.out.1.keep G.out.2.2.2.2.2.1;have hbw:Below w.heap.size w wr:=HR.out.2.1.trans (G.out.2.2.2.2.2.1.mono HR.out.2.1.size);have RR:Aside (Has wr w.heap.size ZMANY 45/\Below w.heap.size w wr):=⟨hres,hbw⟩
              have hpn:pt<=n:=G.out.2.2.1;clear hres hbw;cases gk with
              | succ q=>
                have hlt2:(j:Int)<(C:Int):=by have:=G.out.1;omega
                have c3:=LG1.out wr pt G.out.2.2.2.2.2.1 hpn;have hru:∀ y∈bt.drop pt,0<=y/\y<=255:=(tail.out wr pt G.out.2.2.2.2.2.1 hpn).2.2;by_cases hl3:(LNG (bt.drop pt)).2.2=0
                · obtain ⟨D,m3,r1,r2,r3,r4,r5⟩:=qP hru hl3
                  rw[r4] at c3;dsimp only at c3;have hdl:(bt.drop pt).length=n - pt:=by rw[List.length_drop,HA.out.2.2.2.2.2.2.2.2]
                  by_cases hz:Z - k<=D
                  · have FE:Aside (MD3 Z A=MERR 32):=by
                      have h7:=G.out.2.2.2.2.2.2;rw[XO r4 hz] at h7;have e1:A.1=32:=by rw[h7]
                      show MD3 Z A=MERR 32;unfold MD3;rw[if_pos (by rw[e1];decide),e1]
                    by_cases hkZ:Z<=k
                    · have hkZ':(Z:Int)<=(k:Int):=by omega
                      clear G HA r1 r2 r3 r4 r5 hl3 hdl hru
                      go_wp2_with (first
                        | (refine yK _ rfl (.tmp 66) (.tmp 67) rfl b off n c pt rfl rfl (by first | omega | exact hpn | exact k1n) HR.out.2.2.2.1 ?_))
                      refine c3.mono ?_;rintro e w2 ⟨rfl,rfl⟩;clear c3
                      go_wp2_with (first
                        | (refine wpList_store_row rfl 45 (.tmp 2) (.tmp 87) rfl _ _ rfl rfl 45 ZMANY RR.out.1 iM.out.1 rfl iM.out.2 ?_))
                      refine bodyPost_ret (v:=.tuple #[.agg ZMANY,.int .i64 32]) (yO rfl _ _ w.heap.size _ _ rfl rfl rfl rfl (RR.out.1.row _)) rfl (BK.out wr RR.out.1 RR.out.2 FE.out)
                    · have hkZ':¬ (Z:Int)<=(k:Int):=by omega
                      have eg:=XP (n:=Z) (k:=k) (by omega) HA.out.2.2.2.2.1;have hz':((Z - k:Nat):Int)<=(D:Int):=by omega
                      clear G HA r1 r2 r3 r4 r5 hl3 hdl hru;generalize Z - k=nk at *
                      go_wp2_with (first
                        | (refine yK _ rfl (.tmp 66) (.tmp 67) rfl b off n c pt rfl rfl (by first | omega | exact hpn | exact k1n) HR.out.2.2.2.1 ?_))
                      refine c3.mono ?_;rintro e w2 ⟨rfl,rfl⟩;clear c3
                      go_wp2_with (first
                        | (refine wpList_store_row rfl 45 (.tmp 2) (.tmp 87) rfl _ _ rfl rfl 45 ZMANY RR.out.1 iM.out.1 rfl iM.out.2 ?_))
                      refine bodyPost_ret (v:=.tuple #[.agg ZMANY,.int .i64 32]) (yO rfl _ _ w.heap.size _ _ rfl rfl rfl rfl (RR.out.1.row _)) rfl (BK.out wr RR.out.1 RR.out.2 FE.out)
                  · have hkZ:¬ Z<=k:=by omega
                    have hkZ':¬ (Z:Int)<=(k:Int):=by omega
                    have eg:=XP (n:=Z) (k:=k) (by omega) HA.out.2.2.2.2.1;have hz':¬ ((Z - k:Nat):Int)<=(D:Int):=by omega
                    have es:=XQ (k:=k) (Z:=D) (by have:=HA.out.2.2.2.2.1;omega);have e1:=VX (Z:=k+D) (by have:=HA.out.2.2.2.2.1;omega);have ej:=uN (j:=j) (c:=C) (by have:=G.out.1;omega) HA.out.2.1;have wp:=XS (x:=pt) (y:=m3) (by have:=HR.out.2.2.2.2.1;omega)
                    have NX:Aside (j+1+q=C/\k+D+1<=Z/\pt+m3<=n/\(acc ++ [k+D]).length<=pt+m3/\wr.ownsRow w1.heap.size 24 1 (.slice av acc.length cv) acc.length (ze acc)/\Below w1.heap.size w1 wr/\A=((IDX Z q (k+D+1) (bt.drop (pt+m3))).1,(if (IDX Z q (k+D+1) (bt.drop (pt+m3))).1=0 then (acc ++ [k+D]) ++ (IDX Z q (k+D+1) (bt.drop (pt+m3))).2.1 else A.2.1),(if (IDX Z q (k+D+1) (bt.drop (pt+m3))).1=0 then (IDX Z q (k+D+1) (bt.drop (pt+m3))).2.2 else A.2.2))/\acc.length<=2 ^ 30):=by
                      obtain⟨g1,g2,g3,g4,g5,g6,g7⟩:=G.out;have h16:=HR.out.2.2.2.2.1;refine⟨by clear wp;omega,by clear wp;omega,by clear wp;omega,by rw[List.length_append];simp;clear wp;omega,g5,g6,?_,by clear wp;omega⟩;rw[Xo r4 hz,List.drop_drop] at g7;generalize IDX Z q (k+D+1) (bt.drop (pt+m3))=I at g7 ⊢;rw[List.append_assoc];exact g7
                    clear G r1 r2 r3 r4 r5 hl3 hdl hz hru;generalize Z - k=nk at *
                    generalize k+D+1=k2 at *
                    generalize k+D=kz at *
                    generalize pt+m3=pt2 at *
                    go_wp2_with (first
                      | (refine yK _ rfl (.tmp 66) (.tmp 67) rfl b off n c pt rfl rfl (by first | omega | exact hpn | exact k1n) HR.out.2.2.2.1 ?_))
                    refine c3.mono ?_;rintro e w2 ⟨rfl,rfl⟩;clear c3
                    go_wp2_with (first
                      | (at_builtin;refine jG _ rfl (.tmp 88) (.tmp 92) rfl w1.heap.size (.slice av acc.length cv) acc.length acc rfl (NX.out.2.2.2.2.1.alloc _) wr.heap.size 1 kz rfl ((Has.new _ _ _).cell 0) NX.out.2.2.2.2.2.2.2 (by have:=NX.out.2.2.2.2.2.1.size;simp;omega) ?_;intro g3 c3 w3 hown hgrow hg
                         have W3:Aside (w3.ownsRow w1.heap.size 24 1 (.slice (some ⟨g3,0,none⟩) (acc.length+1) c3) (acc ++ [kz]).length (ze (acc ++ [kz]))/\Below w1.heap.size w1 w3):=by
                           obtain⟨_,_,_,_,r5,r6,_⟩:=NX.out;exact⟨by rw[List.length_append];exact hown,(r6.alloc r6.size _).grown hgrow (by have:=r6.size;simp;omega) (fun k e=>(r5.lt k e).1)⟩
                         clear hown hgrow hg))
                    go_roundg q
                    case measure=>exact Nat.lt_succ_self _
                    case rel=>exact⟨j+1,k2,pt2,_,acc ++ [kz],by first | exact congrArg (Value.int IntKind.i64) wp | rfl,rfl,by first | exact congrArg (Value.int IntKind.u64) e1 | rfl,by first | exact congrArg (Value.int IntKind.u64) ej | rfl,NX.out.1,NX.out.2.1,NX.out.2.2.1,NX.out.2.2.2.1,W3.out.1,W3.out.2,NX.out.2.2.2.2.2.2.1⟩
                · have FE:Aside (MD3 Z A=MERR (LNG (bt.drop pt)).2.2/\(LNG (bt.drop pt)).2.2≠0):=by
                    have h7:=G.out.2.2.2.2.2.2;rw[XN hl3] at h7;have e1:A.1=(LNG (bt.drop pt)).2.2:=by rw[h7]
                    refine⟨?_,hl3⟩;unfold MD3;rw[if_pos (by rw[e1];exact hl3),e1]
                  clear G HA hru;generalize (LNG (bt.drop pt)).2.2=E at *
                  generalize (LNG (bt.drop pt)).2.1=E2 at *
                  generalize (LNG (bt.drop pt)).1=E3 at *
                  have hE1:(E != 0)=true:=by simpa using hl3
                  have hE2:(E == 0)=false:=by simpa using hl3
                  go_wp2_with (first
                    | (refine yK _ rfl (.tmp 66) (.tmp 67) rfl b off n c pt rfl rfl (by first | omega | exact hpn | exact k1n) HR.out.2.2.2.1 ?_))
                  refine c3.mono ?_;rintro e w2 ⟨rfl,rfl⟩;clear c3
                  go_wp2_with (first
                    | (refine wpList_store_row rfl 45 (.tmp 2) (.tmp 75) rfl _ _ rfl rfl 45 ZMANY RR.out.1 iM.out.1 rfl iM.out.2 ?_))
                  refine bodyPost_ret (v:=.tuple #[.agg ZMANY,.int .i64 E]) (yO rfl _ _ w.heap.size _ _ rfl rfl rfl rfl (RR.out.1.row _)) rfl (BK.out wr RR.out.1 RR.out.2 FE.out.1)
              | zero=>
                obtain rfl:j=C:=by have:=G.out.1;omega
                have hlt2:¬ (j:Int)<(j:Int):=by omega
                have eA:A=(0,acc,bt.drop pt):=by rw[G.out.2.2.2.2.2.2];simp[IDX]
                have hA2:=HA.out.2.2.2.2.2.1 (by rw[eA]);have hA3:=HA.out.2.2.2.2.2.2.1 (by rw[eA]);rw[eA] at hA2 hA3;have hr0:zf acc Z=0:=vZ HA.out.2.2.2.2.1 hA2.2 hA2.1;have hP:PLCA acc Z=zc (TPS Z) acc:=if_pos hr0;have cp:=Jl acc Z av acc.length cv wr rfl (by have:=G.out.2.2.2.1;have:=HR.out.2.2.2.2.1;omega) (fun y hy=>by have:=hA2.1 y hy;have:=HA.out.2.2.2.2.1;omega) (xD G.out.2.2.2.2.1 rfl);rw[hr0,hP] at cp;have hmost:=jh (TPS Z) acc (fun p hp=>(yu (n:=Z) (by have:=HA.out.2.2.2.2.1;omega) (h:=p.1) (k:=p.2) hp).1);have htl:=yR (n:=Z) (by have:=HA.out.2.2.2.2.1;omega);have hpc:=yC 64 Z (by have:=HA.out.2.2.2.2.1;omega);have eMD:=z0B (Z:=Z) (L:=acc) (u:=bt.drop pt);obtain⟨K,hK⟩:∃ K,(zc (TPS Z) acc).length=K:=⟨_,rfl⟩
                unfold ANSN at cp;rw[hK] at cp eMD hmost;have KK:Aside (K<2 ^ 40/\MD3 Z A=if (TAKN (bt.drop pt) K).1=0 then (0,Z,acc,bt.drop pt) else MERR (TAKN (bt.drop pt) K).1):=⟨by have:=G.out.2.2.2.1;have:=HR.out.2.2.2.2.1;omega,by rw[eA];exact eMD⟩
                have G2:Aside (wr.ownsRow w1.heap.size 24 1 (.slice av acc.length cv) acc.length (ze acc)/\Below w1.heap.size w1 wr/\w.heap.size<w1.heap.size/\w.heap.size<=w1.heap.size):=⟨G.out.2.2.2.2.1,G.out.2.2.2.2.2.1,HR.out.1.lt,HR.out.2.1.size⟩
                clear eA hA2 hA3 hr0 hP hmost htl hpc eMD hK G HA;go_wp2_with fail
                refine cp.mono ?_;rintro e w2 ⟨ap,kp,rfl,_,hb2⟩;have b2:Below w1.heap.size w1 w2:=G2.out.2.1.trans (hb2.mono G2.out.2.1.size);have ct:=z0A (REST b off c pt) (n - pt) (c - pt) K (by have:=HR.out.2.2.2.2.1;omega) KK.out.1 (bt.drop pt) w2 (tail.out w2 pt b2 hpn);have W2:Aside (w2.ownsRow w1.heap.size 24 1 (.slice av acc.length cv) acc.length (ze acc)/\Below w1.heap.size w1 w2):=⟨zG G2.out.1 hb2,b2⟩
                obtain⟨T,hT⟩:∃ T,TAKN (bt.drop pt) K=T:=⟨_,rfl⟩
                have TT:Aside (T.1=0->T.2.2=bt.drop pt/\(bt.drop pt).length=32*T.2.1):=by
                  intro h0;rw[<-hT] at h0 ⊢;unfold TAKN at h0 ⊢;by_cases h1:(bt.drop pt).length<32*K
                  · rw[if_pos h1] at h0;cases h0
                  · rw[if_neg h1] at h0 ⊢
                    by_cases h2:32*K<(bt.drop pt).length
                    · rw[if_pos h2] at h0;cases h0
                    · rw[if_neg h2]
                      exact⟨rfl,by show (bt.drop pt).length=32*K;omega⟩
                rw[hT] at ct KK;clear cp hb2 b2 hT
                go_wp2_with (first
                  | (refine yK _ rfl (.tmp 108) (.tmp 109) rfl b off n c pt rfl rfl (by first | omega | exact hpn | exact k1n) HR.out.2.2.2.1 ?_))
                refine ct.mono ?_;rintro e w3 ⟨at3,ct3,rfl,ho3,hb3⟩
                have W3:Aside (w3.ownsRow w1.heap.size 24 1 (.slice av acc.length cv) acc.length (ze acc)/\Below w1.heap.size w1 w3/\w3.ownsRow w1.heap.size 23 32 (.slice at3 T.2.1 ct3) T.2.1 (za T.2.2)/\Has w3 w.heap.size ZMANY 45/\Below w.heap.size w w3):=by
                  have b3:Below w1.heap.size w1 w3:=W2.out.2.trans (hb3.mono W2.out.2.size);exact⟨zG W2.out.1 hb3,b3,zq ho3 W2.out.2.size,HR.out.1.keep b3,HR.out.2.1.trans (b3.mono HR.out.2.1.size)⟩
                clear ct ho3 hb3 W2;by_cases hE:T.1=0
                · obtain⟨hT2,hT3⟩:=TT.out hE
                  have eA:MD3 Z A=(0,Z,acc,bt.drop pt):=by rw[KK.out.2,if_pos hE]
                  obtain⟨M,hM⟩:∃ M,acc.length=M:=⟨_,rfl⟩
                  obtain⟨KN,hKN⟩:∃ KN,T.2.1=KN:=⟨_,rfl⟩
                  obtain⟨E,hEe⟩:∃ E,T.1=E:=⟨_,rfl⟩
                  have hE0:E=0:=by rw[<-hEe];exact hE
                  subst hE0;rw[hEe,hKN,hM]
                  have FN:Aside (DECM w (MD3 Z A) (.returned (.tuple #[.agg #[.int .u64 (Z:Int),.slice av M cv,.slice at3 KN ct3],.int .i64 0])) (w3.setRow w.heap.size #[.int .u64 (Z:Int),.slice av M cv,.slice at3 KN ct3])):=by
                    rw[eA];have g2:=G2.out;refine⟨av,cv,at3,KN,ct3,by rw[hM],?_,?_,by rw[hT3,hKN],zm W3.out.2.2.2.2 (Nat.le_refl _) _⟩
                    · exact zq (xf W3.out.1 fun k e=>setRow_other _ _ _ _ (by have:=(W3.out.1.lt k e).1;omega)) (by omega)
                    · rw[<-hT2,<-hKN]
                      exact zq (xf W3.out.2.2.1 fun k e=>setRow_other _ _ _ _ (by have:=(W3.out.2.2.1.lt k e).1;omega)) (by omega)
                  have infoM:(Tryz.prog.info? 45).map (·.size)=some (#[Value.int .u64 (Z:Int),.slice av M cv,.slice at3 KN ct3]:Array Value).size:=Y4;have sizeM:ZMANY.size=(#[Value.int .u64 (Z:Int),.slice av M cv,.slice at3 KN ct3]:Array Value).size:=rfl;have allM:(#[Value.int .u64 (Z:Int),.slice av M cv,.slice at3 KN ct3]:Array Value).all (·.oneCell')=true:=by simp[Value.oneCell']
                  have MM:Aside ((Tryz.prog.info? 45).map (·.size)=some (#[Value.int .u64 (Z:Int),.slice av M cv,.slice at3 KN ct3]:Array Value).size/\ZMANY.size=(#[Value.int .u64 (Z:Int),.slice av M cv,.slice at3 KN ct3]:Array Value).size/\(#[Value.int .u64 (Z:Int),.slice av M cv,.slice at3 KN ct3]:Array Value).all (·.oneCell')=true/\Has w3 w.heap.size ZMANY 45):=⟨infoM,sizeM,allM,W3.out.2.2.2.1⟩
                  clear W3 infoM sizeM allM hM hKN hT2 hT3 eA hE hEe KK TT G2 RR
                  go_wp2_with (first
                    | (refine wpList_store_row rfl 45 (.tmp 2) (.tmp 123) rfl _ _ rfl rfl 45 ZMANY MM.out.2.2.2 MM.out.1 MM.out.2.1 MM.out.2.2.1 ?_))
                  exact bodyPost_ret (v:=.tuple #[.agg #[.int .u64 (Z:Int),.slice av M cv,.slice at3 KN ct3],.int .i64 0]) (yO rfl _ _ w.heap.size _ _ rfl rfl rfl rfl (MM.out.2.2.2.row _)) rfl FN.out
                · have FE:Aside (MD3 Z A=MERR T.1):=by show MD3 Z A=MERR T.1;rw[KK.out.2,if_neg hE]
                  obtain⟨E,hEe⟩:∃ E,T.1=E:=⟨_,rfl⟩
                  rw[hEe] at FE hE;rw[hEe];have hE1:(E != 0)=true:=by simpa using hE
                  have hE2:(E == 0)=false:=by simpa using hE
                  clear KK TT G2 RR hEe
                  go_wp2_with (first
                    | (refine wpList_store_row rfl 45 (.tmp 2) (.tmp 118) rfl _ _ rfl rfl 45 ZMANY W3.out.2.2.2.1 iM.out.1 rfl iM.out.2 ?_))
                  refine bodyPost_ret (v:=.tuple #[.agg ZMANY,.int .i64 E]) (yO rfl _ _ w.heap.size _ _ rfl rfl rfl rfl (W3.out.2.2.2.1.row _)) rfl (BK.out w3 W3.out.2.2.2.1 W3.out.2.2.2.2 FE.out)
          · have FE:Aside (MD3 Z (IDXS Z t2)=MERR (LNG t2).2.2/\(LNG t2).2.2≠0):=by
              have e:IDXS Z t2=((LNG t2).2.2,[],[]):=by unfold IDXS;rw[if_pos hl]
              refine⟨?_,hl⟩;rw[e];unfold MD3;rw[if_pos hl]
            obtain⟨at1,hat1⟩:∃ at1,1+m=at1:=⟨_,rfl⟩
            have wa2:wrap64 ((1:Int)+(m:Int))=(at1:Int):=by rw[<-hat1];exact wa
            have k1n:at1<=n:=by have:=hlt.out;have:=hml.out;omega
            rw[hat1] at c2;generalize (LNG t2).2.2=E at *
            generalize (LNG t2).2.1=E2 at *
            generalize (LNG t2).1=E3 at *
            have hE1:(E != 0)=true:=by simpa using hl
            have hE2:(E == 0)=false:=by simpa using hl
            clear wa hat1 hml hr2 hl2e ht2;go_enter Tryz.func17,Tryz.ntmps17
            go_wp2_with (first
              | (refine yK _ rfl (.tmp 28) (.tmp 29) rfl b off n c 1 rfl rfl (by first | omega | exact hpn | exact k1n) HR.out.2.2.2.1 ?_))
            refine c1.mono ?_;rintro e w2 ⟨rfl,rfl⟩;clear c1 xx;go_upto_region 12 with fail
            rw[wa2]
            go_wp2_with (first
              | (refine yK _ rfl (.tmp 46) (.tmp 47) rfl b off n c at1 rfl rfl (by first | omega | exact hpn | exact k1n) HR.out.2.2.2.1 ?_))
            refine c2.mono ?_;rintro e w2 ⟨rfl,rfl⟩;clear c2
            go_wp2_with (first
              | (refine wpList_store_row rfl 45 (.tmp 2) (.tmp 55) rfl _ _ rfl rfl 45 ZMANY HR.out.1 iM.out.1 rfl iM.out.2 ?_))
            refine bodyPost_ret (v:=.tuple #[.agg ZMANY,.int .i64 E]) (yO rfl _ _ w.heap.size _ _ rfl rfl rfl rfl (HR.out.1.row _)) rfl (BK.out w1 HR.out.1 HR.out.2.1 FE.out.1)
      · have FE:Aside (MD1 t=MERR (LNG t).2.2/\(LNG t).2.2≠0):=⟨XR hl,hl⟩
        generalize (LNG t).2.2=E at *
        generalize (LNG t).2.1=E2 at *
        generalize (LNG t).1=E3 at *
        have hE1:(E != 0)=true:=by simpa using hl
        have hE2:(E == 0)=false:=by simpa using hl
        go_enter Tryz.func17,Tryz.ntmps17
        go_wp2_with (first
          | (refine yK _ rfl (.tmp 28) (.tmp 29) rfl b off n c 1 rfl rfl (by first | omega | exact hpn | exact k1n) HR.out.2.2.2.1 ?_))
        refine c1.mono ?_;rintro e w2 ⟨rfl,rfl⟩;clear c1 xx
        go_wp2_with (first
          | (refine wpList_store_row rfl 45 (.tmp 2) (.tmp 37) rfl _ _ rfl rfl 45 ZMANY HR.out.1 iM.out.1 rfl iM.out.2 ?_))
        refine bodyPost_ret (v:=.tuple #[.agg ZMANY,.int .i64 E]) (yO rfl _ _ w.heap.size _ _ rfl rfl rfl rfl (HR.out.1.row _)) rfl (BK.out w1 HR.out.1 HR.out.2.1 FE.out.1)
    · have FE:Aside (MDC (x :: t)=MERR 14):=if_neg hx
      have hx1:(x != 78)=true:=by simpa using hx
      have hx2:¬ x=78:=hx;go_enter Tryz.func17,Tryz.ntmps17
      go_wp2_with (first
        | (refine wpList_store_row rfl 45 (.tmp 2) (.tmp 26) rfl _ _ rfl rfl 45 ZMANY HR.out.1 iM.out.1 rfl iM.out.2 ?_))
      refine bodyPost_ret (v:=.tuple #[.agg ZMANY,.int .i64 14]) (yO rfl _ _ w.heap.size _ _ rfl rfl rfl rfl (HR.out.1.row _)) rfl (BK.out w1 HR.out.1 HR.out.2.1 FE.out)
end Go.Proofs.YtobaogpomcocpaaGreatDoor
