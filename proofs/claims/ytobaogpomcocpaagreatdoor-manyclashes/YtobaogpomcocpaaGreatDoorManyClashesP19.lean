/- ManyClashes: part 19. -/
import Derived.Test.YtobaogpomcocpaaGreatDoorManyClashesP18
set_option maxRecDepth 100000
set_option maxHeartbeats 4000000
open Go.RowKit
namespace Go.Proofs.YtobaogpomcocpaaGreatDoor
theorem Ut(n:Int)(hn:4611686018427387904<n)(a:Option Addr)(m c:Nat)(w:World):Calls Tryz.prog 33 #[.slice a m c,.int .u64 n] w fun e w'=>e=.returned (.tuple #[.slice none 0 0,.int .i64 30])/\w=w':=by
 go_enter Tryz.func33,Tryz.ntmps33;go_wp2;go_ret2;exact⟨rfl,rfl⟩
theorem z0m{ps:List (Nat × Nat)}{L:List Nat}{j h k:Nat}(e:ps[j]?=some (h,k)):RNS (ps.take (j+1)) L=RNS (ps.take j) L ++ NSP h k (UND h k L):=by
 unfold RNS;rw[List.take_add_one,e,List.flatMap_append];simp
theorem z0n{ps:List (Nat × Nat)}{L:List Nat}(hp:∀ p∈ps,p.1<=62):(RNS ps L).length<=ps.length*(L.length*62+1):=by
 induction ps with
 | nil=>simp[RNS]
 | cons s ps ih=>
   have h1:RNS (s :: ps) L=NSP s.1 s.2 (UND s.1 s.2 L) ++ RNS ps L:=rfl;rw[h1,List.length_append,List.length_cons,Nat.add_mul,Nat.one_mul];have h2:=ih fun p hm=>hp p (List.mem_cons_of_mem _ hm);have h3:=ZI s.1 s.2 (UND s.1 s.2 L);have h4:(UND s.1 s.2 L).length*s.1<=L.length*62:=Nat.mul_le_mul (xQ _ _ _) (hp s (List.mem_cons_self ..));omega
theorem mv{ops:Array Oper}{rest:List Oper}{o:Oper}{a:Act}{Q:Exit->Act->World->Prop}(w:World)(hgd:o.guard=none)(s x:Operand)
  (ho:o.op=.call {callee:=.builtin .append,args:=#[s,x],argTypes:=#[25,25]})
  (base:Nat) (v:Value) (n:Nat) (xs:List Nat) (hs:a.eval s=v) (hown:w.ownsRow base 24 1 v n (ze xs))
  (b c:Nat) (y:Nat) (hx:a.eval x=.slice (some ⟨b,0,none⟩) 1 c) (hc:w.cell? ⟨b,0,none⟩=some (.int .u64 (y:Int)))
  (hb:n<=2 ^ 30) (hbase:base<=w.heap.size)
  (h:∀ g cap w',w'.ownsRow base 24 1 (.slice (some ⟨g,0,none⟩) (n+1) cap) (n+1) (ze (xs ++ [y]))->w.grownBy w' v.ownBlock->(v.ownBlock=some g\/g=w.heap.size)->g<w'.heap.size->wpList Tryz.prog ops Q rest (a.put o.dst (.slice (some ⟨g,0,none⟩) (n+1) cap)) w'):wpList Tryz.prog ops Q (o :: rest) a w:=by
 obtain⟨i,hi,hz,hs1,hby⟩:=info_parts xA;refine wpList_append_lies w hgd s x 25 ho base 24 i (.int .u64 0) 1 8 Tryz.underlying25 hi hz hs1 hby rfl (by decide) v n (ze xs) hs hown ⟨b,0,none⟩ 1 c [.int .u64 (y:Int)] hx rfl ?_ (fun u hu=>by simp at hu;subst hu;rfl) (by decide) (by simp only[maxLen];omega) (by omega) hbase w.heap.size rfl ?_
 ·intro j u hj
  cases j with
  | zero=>
    simp only[List.getElem?_cons_zero,Option.some.injEq] at hj;subst hj;exact hc
  | succ j=>simp at hj
 ·intro g cap w' h1 h2 h3 h4
  rw[<-jc] at h1;exact h g cap w' h1 h2 h3 h4
theorem Jl (L:List Nat) (N:Nat) (a:Option Addr) (m c:Nat) (w:World) (hl:L.length=m) (hm:m<2 ^ 14) (hx:∀ x∈L,x<2 ^ 64) (hL:NUML w a L):
    Calls Tryz.prog 33 #[.slice a m c,.int .u64 (N:Int)] w (ANSN w (zf L N) (PLCA L N)):=by
  by_cases hn:(4611686018427387904:Int)<(N:Int)
  · refine(Ut N hn a m c w).mono ?_
    rintro e w' ⟨rfl,rfl⟩;have e1:zf L N=30:=by unfold zf;rw[if_pos (by omega)]
    have e2:PLCA L N=[]:=by unfold PLCA;rw[if_neg (by rw[e1];decide)]
    rw[e1,e2];exact⟨none,0,rfl,⟨rfl,.inl ⟨rfl,rfl⟩⟩,Below.refl _ _⟩
  · have hN : N <= 4611686018427387904:=by omega
    have e:zf L N=RCHK N none L:=by unfold zf;rw[if_neg (by omega)]
    have ct:=gH N hN;have hPC:PC N<=64:=yC 64 N (by omega);have hlen:=yR (n:=N) (by omega);have hsp:∀ s∈TPS N,s.1<=62/\Node s.1 s.2:=fun s hs=>⟨(yu (n:=N) (by omega) (h:=s.1) (k:=s.2) hs).1,(yu (n:=N) (by omega) (h:=s.1) (k:=s.2) hs).2.2⟩
    have HA:Aside (L.length=m/\m<2 ^ 14/\NUML w a L/\zf L N=RCHK N none L/\(∀ x∈L,x<2 ^ 64)):=⟨hl,hm,hL,e,hx⟩
    have HT:Aside (N<=4611686018427387904/\PC N<=64/\(TPS N).length=PC N/\(∀ s∈TPS N,s.1<=62/\Node s.1 s.2)/\∀ w,Calls Tryz.prog 36 #[.int .u64 (N:Int)] w fun e w'=>∃ a cap,e=.returned (.slice a (PC N) cap)/\qi w' a (TPS N)/\Below w.heap.size w w'):=⟨hN,hPC,hlen,hsp,ct⟩
    clear hl hm hL e hN ct hPC hlen hsp hx;go_enter Tryz.func33,Tryz.ntmps33;go_wp2_with fail
    go_loopg [6] m (fun q s6 wx=>∃ j:Nat,s6=.int .i64 (j:Int)/\Aside (j+q=m/\zf L N=RCHK N (AHD L j) (L.drop j)/\Below w.heap.size w wx))
    case atStart=>exact⟨0,rfl,by omega,HA.out.2.2.2.1,Below.refl _ _⟩
    case round=>
      obtain⟨j,rfl,A⟩:=hrel;cases gk with
      | zero=>
        obtain rfl:j=m:=by have:=A.out.1;omega
        have hlt:¬ (j:Int)<(j:Int):=by omega
        have hr0:zf L N=0:=by
          have h1:=A.out.2.1;rw[List.drop_of_length_le (by have:=HA.out.1;omega)] at h1;exact h1
        have hP:PLCA L N=(RNS (TPS N) L).map SPL:=by unfold PLCA;rw[if_pos hr0,z1z hr0]
        have FR:Aside (zf L N=0/\PLCA L N=(RNS (TPS N) L).map SPL/\Below w.heap.size w wr/\NUML wr a L):=⟨hr0,hP,A.out.2.2,HA.out.2.2.1.keep A.out.2.2⟩
        have ct:=HT.out.2.2.2.2 wr;clear A hr0 hP;go_wp2_with fail
        refine ct.mono ?_;rintro e w1 ⟨ag,cg,rfl,hsp,hb1⟩;have R1:Aside (qi w1 ag (TPS N)/\Below w.heap.size w w1/\NUML w1 a L):=⟨hsp,FR.out.2.2.1.trans (hb1.mono FR.out.2.2.1.size),FR.out.2.2.2.keep hb1⟩
        obtain⟨M,hM⟩:∃ M,PC N=M:=⟨_,rfl⟩
        rw[hM];have HM:Aside (PC N=M):=hM;clear ct hsp hb1 hM;go_wp2_with fail
        go_loopg [7,9] M (fun q s7 s9 wx=>∃ (i:Nat) (v:Value),v=s7/\s9=.int .i64 (i:Int)/\Aside (i+q=M/\wx.ownsRow w1.heap.size 24 1 v (RNS ((TPS N).take i) L).length (ze ((RNS ((TPS N).take i) L).map SPL))/\Below w1.heap.size w1 wx))
        case atStart=>exact⟨0,_,rfl,rfl,by omega,⟨rfl,.inl ⟨rfl,rfl⟩⟩,Below.refl _ _⟩
        case round=>
          obtain⟨i,v,rfl,rfl,A⟩:=hrel;obtain⟨av,cv,rfl⟩:=y9 A.out.2.1;cases gk with
          | zero=>
            obtain rfl:i=M:=by have:=A.out.1;omega
            have hlt2:¬ (i:Int)<(i:Int):=by omega
            have FN:Aside (ANSN w (zf L N) (PLCA L N) (.returned (.tuple #[.slice av (RNS ((TPS N).take i) L).length cv,.int .i64 0])) wr):=by
              obtain⟨_,h2,h3⟩:=A.out;rw[List.take_of_length_le (by rw[HT.out.2.2.1,HM.out];omega)] at h2 ⊢;rw[FR.out.1,FR.out.2.1];refine⟨av,cv,by rw[List.length_map],?_,R1.out.2.1.trans (h3.mono R1.out.2.1.size)⟩;rw[List.length_map];exact zq h2 R1.out.2.1.size
            clear A HA FR R1 HT HM;go_wp2_with fail
            go_ret2;exact FN.out
          | succ q=>
            have hiM:i<M:=by have:=A.out.1;omega
            have hlt2:(i:Int)<(M:Int):=by omega
            obtain⟨⟨h,k⟩,ehk⟩:∃ s,(TPS N)[i]?=some s:=⟨_,List.getElem?_eq_getElem (by rw[HT.out.2.2.1,HM.out];exact hiM)⟩
            obtain⟨g,rfl,hg,hc⟩:=R1.out.1 (by rw[HT.out.2.2.1,HM.out];omega);have x0:wr.cell? ⟨g,i*2,none⟩=some (.int .u8 (h:Int)):=(A.out.2.2.cell (p:=⟨g,i*2,none⟩) hg).trans (hc i h k ehk).1;have x1:wr.cell? ⟨g,i*2+1,none⟩=some (.int .u64 (k:Int)):=(A.out.2.2.cell (p:=⟨g,i*2+1,none⟩) hg).trans (hc i h k ehk).2;have hnd:=HT.out.2.2.2.1 (h,k) (List.mem_of_getElem? ehk);have cn:=Kh h k hnd.2 L a j c HA.out.1 HA.out.2.1 HA.out.2.2.2.2 wr (R1.out.2.2.keep A.out.2.2);have ei:wrap64 ((i:Int)+1)=((i+1:Nat):Int):=by have:=HT.out.2.1;have:=HM.out;unfold wrap64;omega
            have hst:=z0m (L:=L) ehk;have hmost:=z0n (ps:=(TPS N).take i) (L:=L) fun p hp=>(HT.out.2.2.2.1 p (List.mem_of_mem_take hp)).1;have hmost2:=ZI h k (UND h k L)
            have hfew:(RNS ((TPS N).take i) L).length+(NSP h k (UND h k L)).length<=2 ^ 29:=by
              have h1:((TPS N).take i).length*(L.length*62+1)<=64*(2 ^ 14*62+1):=Nat.mul_le_mul (by rw[List.length_take,HT.out.2.2.1];have:=HT.out.2.1;clear ei;omega) (by have:=HA.out.1;have:=HA.out.2.1;clear ei;omega);have h2:(UND h k L).length*h<=2 ^ 14*62:=Nat.mul_le_mul (by have:=xQ h k L;have:=HA.out.1;have:=HA.out.2.1;clear ei;omega) hnd.1;clear ei;omega
            have hnodes:∀ s∈NSP h k (UND h k L),Node s.1 s.2:=Xh h k _ hnd.2;obtain⟨P,hP⟩:∃ P,RNS ((TPS N).take i) L=P:=⟨_,rfl⟩
            obtain⟨B,hB⟩:∃ B,NSP h k (UND h k L)=B:=⟨_,rfl⟩
            rw[hP,hB] at hst hfew;rw[hB] at cn hnodes;have R:Aside (i+1+q=M/\wr.ownsRow w1.heap.size 24 1 (.slice av P.length cv) P.length (ze (P.map SPL))/\Below w1.heap.size w1 wr/\P.length+B.length<=2 ^ 29/\(∀ s∈B,Node s.1 s.2)/\RNS ((TPS N).take (i+1)) L=P ++ B):=⟨by have:=A.out.1;clear ei;omega,by rw[<-hP];exact A.out.2.1,A.out.2.2,hfew,hnodes,hst⟩
            rw[hP];clear A hst hfew hnodes hmost hmost2 hP hB hnd hc hiM ehk;go_wp2_with fail
            refine cn.mono ?_;rintro e w2 ⟨ab,cb,rfl,hownB,hb2⟩;have R2:Aside (w2.ownsRow w1.heap.size 24 1 (.slice av P.length cv) P.length (ze (P.map SPL))/\Below w1.heap.size w1 w2/\w2.ownsRow wr.heap.size 77 2 (.slice ab B.length cb) B.length (zl B)):=⟨zG R.out.2.1 hb2,R.out.2.2.1.trans (hb2.mono R.out.2.2.1.size),hownB⟩
            clear cn hownB hb2 x0 x1;go_wp2_with fail
            have AP:Aside (∀ g,(Value.slice av P.length cv).ownBlock=some g->(Value.slice ab B.length cb).ownBlock≠some g):=fun g e1 e2=>by
              have h1:=(R.out.2.1.lt g e1).2;have h2:=(R2.out.2.2.lt g e2).1;omega
            have RB:Aside (w2.ownsRow w1.heap.size 77 2 (.slice ab B.length cb) B.length (zl B)):=zq R2.out.2.2 R.out.2.2.1.size;obtain⟨u,hu⟩:∃ u,P.length=u:=⟨_,rfl⟩
            obtain⟨nb,hnb⟩:∃ nb,B.length=nb:=⟨_,rfl⟩
            rw[hu] at R R2 AP;rw[hnb] at R R2 AP RB;rw[hu,hnb];have HB:Aside (B.length=nb/\P.length=u):=⟨hnb,hu⟩
            clear hnb hu;go_wp2_with fail
            go_loopg [7,11] nb (fun q2 s7 s11 wx=>∃ (y:Nat) (v:Value),v=s7/\s11=.int .i64 (y:Int)/\Aside (y+q2=nb/\wx.ownsRow w1.heap.size 24 1 v (u+y) (ze ((P ++ B.take y).map SPL))/\Below w1.heap.size w1 wx/\wx.ownsRow w1.heap.size 77 2 (.slice ab nb cb) nb (zl B)/\(∀ g,v.ownBlock=some g->(Value.slice ab nb cb).ownBlock≠some g)))
            case atStart=>exact⟨0,_,rfl,rfl,by omega,by simpa using R2.out.1,R2.out.2.1,RB.out,AP.out⟩
            case round =>
              obtain⟨y,v,rfl,rfl,A⟩:=hrel;clear R2 AP RB;cases gk with
              | zero=>
                obtain rfl:y=nb:=by have:=A.out.1;omega
                have hlt3:¬ (y:Int)<(y:Int):=by omega
                have Z:Aside (i+1+q=M/\wr.ownsRow w1.heap.size 24 1 v (RNS ((TPS N).take (i+1)) L).length (ze ((RNS ((TPS N).take (i+1)) L).map SPL))/\Below w1.heap.size w1 wr):=by
                  obtain⟨_,h2,h3,_⟩:=A.out;rw[List.take_of_length_le (by have:=HB.out.1;omega)] at h2;rw[R.out.2.2.2.2.2,List.length_append,HB.out.1,HB.out.2];exact⟨R.out.1,h2,h3⟩
                clear A R HB;go_wp2_with fail
                go_roundg q
                case measure=>exact Nat.lt_succ_self _
                case rel=>exact⟨i+1,_,rfl,by first | rfl | (rw[ei]),Z.out⟩
              | succ q2=>
                have hyn:y<nb:=by have:=A.out.1;omega
                have hlt3:(y:Int)<(nb:Int):=by omega
                obtain⟨⟨h2,k2⟩,eh2⟩:∃ s,B[y]?=some s:=⟨_,List.getElem?_eq_getElem (by have:=HB.out.1;omega)⟩
                obtain⟨g2,rfl⟩:∃ g,ab=some ⟨g,0,none⟩:=by
                  rcases A.out.2.2.2.1.2 with ⟨e,h0⟩ | ⟨g,_,_,e,_⟩
                  · omega
                  · cases e;exact⟨g,rfl⟩
                have hs2:=YV B y h2 k2 eh2;have y0:wr.cell? ⟨g2,y*2,none⟩=some (.int .u8 (h2:Int)):=(A.out.2.2.2.1.cellAt (y*2) (by omega)).trans hs2.1;have y1:wr.cell? ⟨g2,y*2+1,none⟩=some (.int .u64 (k2:Int)):=(A.out.2.2.2.1.cellAt (y*2+1) (by omega)).trans hs2.2;have cp:=fun w=>kQ h2 k2 (R.out.2.2.2.2.1 (h2,k2) (List.mem_of_getElem? eh2)) w;have ey:wrap64 ((y:Int)+1)=((y+1:Nat):Int):=by have:=R.out.2.2.2.1;unfold wrap64;omega
                have ht:(P ++ B.take (y+1)).map SPL=(P ++ B.take y).map SPL ++ [PLC h2 k2]:=by
                  rw[List.take_add_one,eh2];simp[SPL]
                have R3:Aside (y+1+q2=nb/\wr.ownsRow w1.heap.size 24 1 v (u+y) (ze ((P ++ B.take y).map SPL))/\Below w1.heap.size w1 wr/\wr.ownsRow w1.heap.size 77 2 (.slice (some ⟨g2,0,none⟩) nb cb) nb (zl B)/\(∀ g,v.ownBlock=some g->(Value.slice (some ⟨g2,0,none⟩) nb cb).ownBlock≠some g)/\u+y<=2 ^ 30/\(P ++ B.take (y+1)).map SPL=(P ++ B.take y).map SPL ++ [PLC h2 k2]):=⟨by have:=A.out.1;clear ey;omega,A.out.2.1,A.out.2.2.1,A.out.2.2.2.1,A.out.2.2.2.2,by have:=R.out.2.2.2.1;clear ey;omega,ht⟩
                generalize PLC h2 k2=pl at *
                generalize (P ++ B.take y).map SPL=X1 at *
                generalize hX2:(P ++ B.take (y+1)).map SPL=X2 at *
                have HX2:Aside ((P ++ B.take (y+1)).map SPL=X2):=hX2;clear A hs2 ht hX2 eh2 hyn;go_wp2_with fail
                refine(cp _).mono ?_;rintro e w3 ⟨rfl,hb3⟩;have R4:Aside (w3.ownsRow w1.heap.size 24 1 v (u+y) (ze X1)/\Below w1.heap.size w1 w3/\w3.ownsRow w1.heap.size 77 2 (.slice (some ⟨g2,0,none⟩) nb cb) nb (zl B)):=⟨zG R3.out.2.1 hb3,R3.out.2.2.1.trans (hb3.mono R3.out.2.2.1.size),zG R3.out.2.2.2.1 hb3⟩
                clear cp hb3 y0 y1
                go_wp2_with (first
                  | (at_builtin;refine mv _ rfl (.tmp 70) (.tmp 72) rfl w1.heap.size v (u+y) X1 rfl (R4.out.1.alloc _) w3.heap.size 1 pl rfl ((Has.new _ _ _).cell 0) R3.out.2.2.2.2.2.1 (by have:=R4.out.2.1.size;simp;omega) ?_;intro g4 c4 w4 hown hgrow hat hg
                     have R5:Aside (y+1+q2=nb/\w4.ownsRow w1.heap.size 24 1 (.slice (some ⟨g4,0,none⟩) (u+y+1) c4) (u+(y+1)) (ze ((P ++ B.take (y+1)).map SPL))/\Below w1.heap.size w1 w4/\w4.ownsRow w1.heap.size 77 2 (.slice (some ⟨g2,0,none⟩) nb cb) nb (zl B)/\(∀ g,(Value.slice (some ⟨g4,0,none⟩) (u+y+1) c4).ownBlock=some g->(Value.slice (some ⟨g2,0,none⟩) nb cb).ownBlock≠some g)):=by
                       obtain⟨r1,r2,r3,r4,r5,r6,r7⟩:=R3.out;obtain⟨s1,s2,s3⟩:=R4.out;refine⟨r1,?_,(s2.alloc s2.size _).grown hgrow (by have:=s2.size;simp;omega) (fun k e=>(s1.lt k e).1),yx (ms s3 _) (fun k e=>hgrow.block k (by have:=(s3.lt k e).2;simp;omega) (fun e2=>r5 k e2.symm e)),fun g e1 e2=>?_⟩
                       · rw[HX2.out,r7]
                         exact hown
                       · have e1:g4=g:=by simpa[Value.ownBlock] using e1
                         subst e1;rcases hat with h | h
                         · exact r5 _ h e2
                         · have:=(s3.lt _ e2).2
                           simp at h;omega
                     clear hown hgrow hg hat R4 R3))
                go_roundg q2
                case measure=>exact Nat.lt_succ_self _
                case rel=>exact⟨y+1,_,rfl,by first | rfl | (rw[ey]),R5.out⟩
      | succ q=>
        have hjm:j<m:=by have:=A.out.1;omega
        have hlt:(j:Int)<(m:Int):=by omega
        obtain⟨x,ex⟩:∃ x,L[j]?=some x:=⟨_,List.getElem?_eq_getElem (by have:=HA.out.1;omega)⟩
        obtain⟨b,o,rfl,hb,hcc⟩:=HA.out.2.2.1 (by have:=HA.out.1;omega);have x0:wr.cell? ⟨b,o+j,none⟩=some (.int .u64 (x:Int)):=(A.out.2.2.cell (p:=⟨b,o+j,none⟩) hb).trans (hcc j x ex);have ej:wrap64 ((j:Int)+1)=((j+1:Nat):Int):=by have:=HA.out.2.1;unfold wrap64;omega
        have hch:zf L N=if yB (AHD L j) x=true then 71 else if N<=x then 32 else RCHK N (some x) (L.drop (j+1)):=by
          rw[A.out.2.1,Zr ex,RCHK]
        have hnx:AHD L (j+1)=some x:=ex
        have PE:Aside (∀ E W,zf L N=E->E≠0->Below w.heap.size w W->ANSN w (zf L N) (PLCA L N) (.returned (.tuple #[.slice none 0 0,.int .i64 E])) W):=fun E W e1 e2 hb=>by
          have e3:PLCA L N=[]:=by unfold PLCA;rw[if_neg (by rw[e1];exact e2)]
          rw[e1,e3];exact⟨none,0,rfl,⟨rfl,.inl ⟨rfl,rfl⟩⟩,hb⟩
        rcases Nat.eq_zero_or_pos j with hj0 | hj0
        · have hz:¬ (0:Int)<(j:Int):=by omega
          have hzd:decide ((0:Int)<(j:Int))=false:=decide_eq_false hz;have hz2:¬ 0<j:=by omega
          replace hch:zf L N=if N<=x then 32 else RCHK N (some x) (L.drop (j+1)):=by
            rw[hch,hj0,if_neg (by simp[AHD,yB])]
          by_cases hx:N<=x
          · have hx':(N:Int)<=(x:Int):=by omega
            rw[if_pos hx] at hch;have FN:Aside (zf L N=32/\Below w.heap.size w wr):=⟨hch,A.out.2.2⟩
            clear A HA hch hnx hcc hj0 ex hjm HT;go_wp2_with fail
            go_quiet (fail)
            have y0:(wr.drewN nq).cell? ⟨b,o+j,none⟩=some (.int .u64 (x:Int)):=x0;go_wp2_with fail
            go_ret2;exact PE.out 32 _ FN.out.1 (by decide) (below_drewN FN.out.2 _)
          · have hx':¬ (N:Int)<=(x:Int):=by omega
            rw[if_neg hx] at hch;have Z:Aside (j+1+q=m/\zf L N=RCHK N (AHD L (j+1)) (L.drop (j+1))/\Below w.heap.size w wr):=⟨by have:=A.out.1;clear ej;omega,by rw[hnx];exact hch,A.out.2.2⟩
            clear A hch hnx hcc hj0 ex hjm PE;go_wp2_with fail
            go_quiet (fail)
            have y0:(wr.drewN nq).cell? ⟨b,o+j,none⟩=some (.int .u64 (x:Int)):=x0;go_wp2_with fail
            go_roundg q
            case measure=>exact Nat.lt_succ_self _
            case rel=>exact⟨j+1,by first | rfl | (rw[ej]),Z.out.1,Z.out.2.1,below_drewN Z.out.2.2 _⟩
        · obtain⟨i,hi⟩:∃ i,j=i+1:=⟨j - 1,by omega⟩
          obtain⟨y,ey⟩:∃ y,L[i]?=some y:=⟨_,List.getElem?_eq_getElem (by have:=HA.out.1;omega)⟩
          have y0:wr.cell? ⟨b,o+i,none⟩=some (.int .u64 (y:Int)):=(A.out.2.2.cell (p:=⟨b,o+i,none⟩) hb).trans (hcc i y ey);have ei:wrap64 ((j:Int) - 1)=(i:Int):=by have:=HA.out.2.1;unfold wrap64;omega
          have ei2:IntKind.i64.wrap ((j:Int) - 1)=(i:Int):=by have:=HA.out.2.1;rw[IntKind.wrap_i64];omega
          have him:(i:Int)<(m:Int):=by omega
          have hi0:(0:Int)<(j:Int):=by omega
          have hid:decide ((0:Int)<(j:Int))=true:=decide_eq_true hi0
          replace hch:zf L N=if yB (some y) x=true then 71 else if N<=x then 32 else RCHK N (some x) (L.drop (j+1)):=by
            rw[hch,show AHD L j=some y by rw[hi];exact ey]
          by_cases hxy:x<=y
          · have hxy':(x:Int)<=(y:Int):=by omega
            rw[if_pos (show yB (some y) x=true from decide_eq_true hxy)] at hch;have FN:Aside (zf L N=71/\Below w.heap.size w wr):=⟨hch,A.out.2.2⟩
            clear A HA hch hnx hcc hi ex ey hjm HT;go_wp2_with fail
            go_quiet (fail)
            go_wp2_with fail
            go_ret2;exact PE.out 71 _ FN.out.1 (by decide) (below_drewN FN.out.2 _)
          · have hxy':¬ (x:Int)<=(y:Int):=by omega
            rw[if_neg (show ¬ yB (some y) x=true from fun h=>hxy (of_decide_eq_true h))] at hch;by_cases hx:N<=x
            · have hx':(N:Int)<=(x:Int):=by omega
              rw[if_pos hx] at hch;have FN:Aside (zf L N=32/\Below w.heap.size w wr):=⟨hch,A.out.2.2⟩
              clear A HA hch hnx hcc hi ex ey hjm HT;go_wp2_with fail
              go_quiet (fail)
              have z0:(wr.drewN nq).cell? ⟨b,o+j,none⟩=some (.int .u64 (x:Int)):=x0;go_wp2_with fail
              go_ret2;exact PE.out 32 _ FN.out.1 (by decide) (below_drewN FN.out.2 _)
            · have hx':¬ (N:Int)<=(x:Int):=by omega
              rw[if_neg hx] at hch;have Z:Aside (j+1+q=m/\zf L N=RCHK N (AHD L (j+1)) (L.drop (j+1))/\Below w.heap.size w wr):=⟨by have:=A.out.1;clear ej ei ei2;omega,by rw[hnx];exact hch,A.out.2.2⟩
              clear A hch hnx hcc hi ex ey hjm PE;go_wp2_with fail
              go_quiet (fail)
              have z0:(wr.drewN nq).cell? ⟨b,o+j,none⟩=some (.int .u64 (x:Int)):=x0;go_wp2_with fail
              go_roundg q
              case measure=>exact Nat.lt_succ_self _
              case rel=>exact⟨j+1,by first | rfl | (rw[ej]),Z.out.1,Z.out.2.1,below_drewN Z.out.2.2 _⟩
theorem mw(w0:World)(bi:Nat)(CP:Nat)(S P:List Nat->World->Prop)(X:List PanicEntry)
    (hS:∀ acc w w',S acc w->Below w.heap.size w w'->S acc w')(hB:∀ acc w,S acc w->(bi<w0.heap.size->w.heap[bi]?=w0.heap[bi]?)/\w0.heap.size<=w.heap.size)
    (ht:∀ acc (p:Nat) w,S acc w->acc.length<=2 ^ 30->Calls Tryz.prog 87 #[.int .u64 (p:Int),.pointer (some ⟨CP,0,none⟩)] w fun e w'=>(e=.returned (.tuple #[])/\S (acc ++ [p]) w')\/(e=.panicked X/\P acc w')):
    ∀ (h k:Nat),Node h k->∀ (L:List Nat) (a:Option Addr) (n c:Nat) (acc:List Nat) (w:World),L.length=n->n<2 ^ 40->RISES L->n<=c->(a=none->c=0)->(∀ x,a=some x->x.block=bi/\x.spot=none)->NUML w0 a L->S acc w->acc.length+(NEED h k L).length<=2 ^ 30->
    Calls Tryz.prog 86 #[.int .u64 ((PLC h k:Nat):Int),.slice a n c,.func (.func 87) #[] #[.pointer (some ⟨CP,0,none⟩)]] w (TOLD S P X acc (NEED h k L)):=by
  intro h;induction h with
  | zero=>
    intro k hN L a n c acc w hl hn hR hc hnil hbl hL hw hlen;cases L with
    | nil=>
      obtain rfl:n=0:=by simpa using hl.symm
      rw[yh] at hlen ⊢;have ct:=ht acc (PLC 0 k) w hw (by simp at hlen;omega);clear hl hn hR hc hnil hbl hL hw hlen ht hS hB;go_enter Tryz.func86,Tryz.ntmps86;go_wp2_with fail
      refine ct.mono ?_;rintro e w1 (⟨rfl,h1⟩ | ⟨rfl,h1⟩)
      · clear ct
        have FN:Aside (S (acc ++ [PLC 0 k]) w1):=h1;clear h1;go_wp2_with fail
        exact bodyPost_ret (v:=.tuple #[]) (by simp[results,Tryz.f86]) rfl (.inl ⟨rfl,FN.out⟩)
      · exact⟨rfl,.inr ⟨acc,PLC 0 k,List.prefix_refl _,rfl,h1⟩⟩
    | cons x l=>
      have hn0:((n:Int) == 0)=false:=beq_eq_false_iff_ne.2 (by simp at hl;omega);have ck:=jl ((PLC 0 k:Nat):Int) k w (.node hN);have HS:Aside (∀ w',Below w.heap.size w w'->S (acc ++ []) w'):=fun w' hb=>by rw[List.append_nil];exact hS acc w w' hw hb
      clear hl hn hR hc hnil hbl hL hw hlen ht hS hB;go_enter Tryz.func86,Tryz.ntmps86;go_wp2_with fail
      refine ck.mono ?_;rintro e w1 ⟨rfl,h1⟩;clear ck;have FN:Aside (S (acc ++ []) w1):=HS.out w1 h1;clear h1 HS;go_wp2_with fail
      exact bodyPost_ret (v:=.tuple #[]) (by simp[results,Tryz.f86]) rfl (.inl ⟨rfl,FN.out⟩)
  | succ h ih=>
    intro k hN L a n c acc w hl hn hR hc hnil hbl hL hw hlen;by_cases hLe:L=[]
    · subst hLe
      obtain rfl:n=0:=by simpa using hl.symm
      rw[yh] at hlen ⊢;have ct:=ht acc (PLC (h+1) k) w hw (by simp at hlen;omega);clear hl hn hR hc hnil hbl hL hw hlen ht hS hB ih;go_enter Tryz.func86,Tryz.ntmps86;go_wp2_with fail
      refine ct.mono ?_;rintro e w1 (⟨rfl,h1⟩ | ⟨rfl,h1⟩)
      · clear ct
        have FN:Aside (S (acc ++ [PLC (h+1) k]) w1):=h1;clear h1;go_wp2_with fail
        exact bodyPost_ret (v:=.tuple #[]) (by simp[results,Tryz.f86]) rfl (.inl ⟨rfl,FN.out⟩)
      · exact⟨rfl,.inr ⟨acc,PLC (h+1) k,List.prefix_refl _,rfl,h1⟩⟩
    · have hn0:((n:Int) == 0)=false:=beq_eq_false_iff_ne.2 (by have:=List.length_pos_iff.2 hLe;omega)
      obtain⟨hNl,hNr⟩:=hN.kid;have ck:=jE h k hN w;have HA:Aside (L.length=n/\n<2 ^ 40/\RISES L/\n<=c/\(a=none->c=0)/\(∀ x,a=some x->x.block=bi/\x.spot=none)/\NUML w0 a L/\S acc w/\acc.length+(NEED (h+1) k L).length<=2 ^ 30/\L≠[]):=⟨hl,hn,hR,hc,hnil,hbl,hL,hw,hlen,hLe⟩
      have NS:Aside ((∀ acc w w',S acc w->Below w.heap.size w w'->S acc w')/\(∀ acc w,S acc w->(bi<w0.heap.size->w.heap[bi]?=w0.heap[bi]?)/\w0.heap.size<=w.heap.size)/\Node h (2*k)/\Node h (2*k+1)):=⟨hS,hB,hNl,hNr⟩
      have IH:Aside _:=ih;clear hl hn hR hc hnil hbl hL hw hlen ht hS hB ih hNl hNr hLe;go_enter Tryz.func86,Tryz.ntmps86;go_wp2_with fail
      refine ck.mono ?_;rintro e w1 ⟨rfl,hb1⟩;clear ck;have S1:Aside (S acc w1):=NS.out.1 acc w w1 HA.out.2.2.2.2.2.2.2.1 hb1
      have hN1:NUML w1 a L:=fun h0=>by
        obtain⟨b,o,e,hl,hcc⟩:=HA.out.2.2.2.2.2.2.1 h0;have hbb:b=bi:=(HA.out.2.2.2.2.2.1 _ e).1;obtain⟨k1,k2⟩:=NS.out.2.1 acc w1 S1.out;subst hbb;exact⟨b,o,e,by omega,fun i x hx=>(World.cell?_of_block (w:=w0) (by exact k1 hl)).trans (hcc i x hx)⟩
      have cs:=yU h (2*k) NS.out.2.2.1 a n c L HA.out.1 HA.out.2.1 HA.out.2.2.1 HA.out.2.2.2.1 HA.out.2.2.2.2.1 (fun x e=>(HA.out.2.2.2.2.2.1 x e).2) w1 hN1;clear hb1 hN1;go_wp2_with fail
      refine cs.mono ?_;rintro e w2 ⟨r,a',rfl,hs⟩;clear cs;have hsp:NEED (h+1) k L=NEED h (2*k) (L.take r) ++ NEED h (2*k+1) (L.drop r):=xR HA.out.2.2.2.2.2.2.2.2.2 hs.rank;have hrn:=hs.rank.le
      have ML:Aside (NUML w0 a (L.take r)):=fun h0=>by
        obtain⟨b,o,e,hl,hcc⟩:=HA.out.2.2.2.2.2.2.1 (by rw[List.length_take] at h0;omega);refine⟨b,o,e,hl,fun i x hx=>hcc i x ?_⟩;rw[List.getElem?_take] at hx;split at hx
        · exact hx
        · cases hx
      have MR:Aside (NUML w0 a' (L.drop r)/\∀ x,a'=some x->x.block=bi/\x.spot=none):=by
        refine⟨fun h0=>?_,fun x hx=>?_⟩
        · obtain⟨b,o,e,hl,hcc⟩:=hs.lies h0
          obtain⟨y,e2,e3⟩:=hs.block _ e;have hbb:b=bi:=by have:=(HA.out.2.2.2.2.2.1 _ e2).1;rw[<-e3] at this;exact this
          obtain⟨k1,k2⟩:=NS.out.2.1 acc w1 S1.out;obtain⟨b',o',e',hl',_⟩:=HA.out.2.2.2.2.2.2.1 (by rw[List.length_drop] at h0;omega);have hbi:bi<w0.heap.size:=by have h9:b'=bi:=(HA.out.2.2.2.2.2.1 _ e').1;omega
          subst hbb;exact⟨b,o,e,hbi,fun i x hx=>(World.cell?_of_block (w:=w1) (by exact(k1 hbi).symm)).trans (hcc i x hx)⟩
        · obtain⟨y,e2,e3⟩:=hs.block x hx
          refine⟨by rw[e3];exact(HA.out.2.2.2.2.2.1 _ e2).1,hs.spot x hx⟩
      have S2:Aside (S acc w2):=NS.out.1 acc w1 w2 S1.out hs.below;have NL:Aside (a'=none->c - r=0):=hs.nil
      have SP:Aside (NEED (h+1) k L=NEED h (2*k) (L.take r) ++ NEED h (2*k+1) (L.drop r)/\r<=n/\acc.length+(NEED h (2*k) (L.take r)).length+(NEED h (2*k+1) (L.drop r)).length<=2 ^ 30):=by
        refine⟨hsp,by have:=HA.out.1;omega,?_⟩;have h1:=HA.out.2.2.2.2.2.2.2.2.1;rw[hsp,List.length_append] at h1;omega
      clear hs hsp hrn S1;have c1:=IH.out (2*k) NS.out.2.2.1 (L.take r) a r c acc w2 (by rw[List.length_take];have:=SP.out.2.1;have:=HA.out.1;omega) (by have:=SP.out.2.1;have:=HA.out.2.1;omega) (HA.out.2.2.1.take r) (by have:=SP.out.2.1;have:=HA.out.2.2.2.1;omega) HA.out.2.2.2.2.1 HA.out.2.2.2.2.2.1 ML.out S2.out (by have:=SP.out.2.2;omega);go_wp2_with fail
      refine c1.mono ?_;rintro e w3 (⟨rfl,h3⟩ | ⟨pre,p,hp,rfl,h3⟩)
      · clear c1
        have c2:=IH.out (2*k+1) NS.out.2.2.2 (L.drop r) a' (n - r) (c - r) (acc ++ NEED h (2*k) (L.take r)) w3 (by rw[List.length_drop];have:=HA.out.1;omega) (by have:=HA.out.2.1;omega) (HA.out.2.2.1.drop r) (by have:=HA.out.2.2.2.1;omega) NL.out MR.out.2 MR.out.1 h3 (by rw[List.length_append];exact SP.out.2.2);have SQ:Aside (acc ++ NEED h (2*k) (L.take r) ++ NEED h (2*k+1) (L.drop r)=acc ++ NEED (h+1) k L):=show acc ++ NEED h (2*k) (L.take r) ++ NEED h (2*k+1) (L.drop r)=acc ++ NEED (h+1) k L by rw[SP.out.1,List.append_assoc]
        clear h3 IH HA NS ML MR S2 NL SP;go_wp2_with fail
        refine c2.mono ?_;rintro e w4 (⟨rfl,h4⟩ | ⟨pre,p,hp,rfl,h4⟩)
        · have FN:Aside (S (acc ++ NEED (h+1) k L) w4):=by rw[SQ.out] at h4;exact h4
          clear h4 c2 SQ;go_wp2_with fail
          exact bodyPost_end (v:=.tuple #[]) (by simp[results,Tryz.f86]) rfl (.inl ⟨rfl,FN.out⟩)
        · rw[SQ.out] at hp
          exact⟨rfl,.inr ⟨pre,p,hp,rfl,h4⟩⟩
      · refine⟨rfl,.inr ⟨pre,p,hp.trans ?_,rfl,h3⟩⟩
        rw[SP.out.1,<-List.append_assoc];exact List.prefix_append _ _
theorem z0o(bi CP:Nat)(S P:World->List Nat->World->Prop)(X:List PanicEntry)
  (hS:∀ w0 acc w w',S w0 acc w->Below w.heap.size w w'->S w0 acc w')(hB:∀ w0 acc w,S w0 acc w->(∀ b,b<w0.heap.size->b≠CP->w.heap[b]?=w0.heap[b]?)/\w0.heap.size<=w.heap.size)
  (ht:∀ w0 acc (p:Nat) w,S w0 acc w->acc.length<=2 ^ 30->Calls Tryz.prog 87 #[.int .u64 (p:Int),.pointer (some ⟨CP,0,none⟩)] w fun e w'=>(e=.returned (.tuple #[])/\S w0 (acc ++ [p]) w')\/(e=.panicked X/\P w0 acc w'))
  (N:Nat)(hN:N<=4611686018427387904)(L:List Nat)(a:Option Addr)(n c:Nat)(w:World)(hl:L.length=n)(hn:n<2 ^ 20)(hR:RISES L)(hc:n<=c)(hnil:a=none->c=0)(hbl:∀ x,a=some x->x.block=bi/\x.spot=none)(hL:NUML w a L)(hCb:bi≠CP)(hCP:CP<w.heap.size)(hT:Tabled w)
  (h0:∀ w1,Below w.heap.size w w1->S w1 [] w1):
  Calls Tryz.prog 52 #[.slice a n c,.int .u64 (N:Int),.func (.func 87) #[] #[.pointer (some ⟨CP,0,none⟩)]] w fun e w'=>∃ w1,Below w.heap.size w w1/\TOLD (S w1) (P w1) X [] (zc (TPS N) L) e w':=by
 have cp:=jv N hN w hT (by omega);have hPC:PC N<=64:=yC 64 N (by omega);have hlen:=yR (n:=N) (by omega);have hmost:=jh (TPS N) L (fun p hp=>(yu (n:=N) (by omega) (h:=p.1) (k:=p.2) hp).1);have HA:Aside (n<2 ^ 20/\N<=2 ^ 62/\PC N<=64/\(TPS N).length=PC N/\(zc (TPS N) L).length<=2 ^ 30/\bi≠CP/\CP<w.heap.size):=⟨hn,by omega,hPC,hlen,by omega,hCb,hCP⟩
 have ST:Aside ((∀ w0 acc w w',S w0 acc w->Below w.heap.size w w'->S w0 acc w')/\(∀ w0 acc w,S w0 acc w->(∀ b,b<w0.heap.size->b≠CP->w.heap[b]?=w0.heap[b]?)/\w0.heap.size<=w.heap.size)):=⟨hS,hB⟩
 have HT:Aside (∀ w0 acc (p:Nat) w,S w0 acc w->acc.length<=2 ^ 30->Calls Tryz.prog 87 #[.int .u64 (p:Int),.pointer (some ⟨CP,0,none⟩)] w fun e w'=>(e=.returned (.tuple #[])/\S w0 (acc ++ [p]) w')\/(e=.panicked X/\P w0 acc w')):=ht;have LL:Aside (L.length=n/\RISES L/\n<=c/\(a=none->c=0)/\(∀ x,a=some x->x.block=bi/\x.spot=none)/\NUML w a L/\∀ w1,Below w.heap.size w w1->S w1 [] w1):=⟨hl,hR,hc,hnil,hbl,hL,h0⟩
 clear hN hl hn hR hc hnil hbl hL hCb hCP hT h0 hS hB ht hPC hlen hmost;go_enter Tryz.func52,Tryz.ntmps52;go_wp2_with fail
 refine cp.mono ?_;rintro e w1 ⟨g,cg,rfl,hown,hb1⟩;clear cp;obtain⟨m,hm⟩:∃ m,PC N=m:=⟨_,rfl⟩
 rw[hm] at hown ⊢;have R1:Aside (w1.ownsRow w.heap.size 24 1 (.slice (some ⟨g,0,none⟩) m cg) m (ze (yW N))/\Below w.heap.size w w1/\PC N=m/\g≠CP/\g<w1.heap.size/\w.heap.size<=g):=⟨hown,hb1,hm,by have h1:=(hown.lt g rfl).1;have:=HA.out.2.2.2.2.2.2;omega,(hown.lt g rfl).2,(hown.lt g rfl).1⟩
 have L0:Aside (NUML w1 a L):=fun h0=>by
  obtain⟨b,o,e,hl,hcc⟩:=LL.out.2.2.2.2.2.1 h0;exact⟨b,o,e,Nat.lt_of_lt_of_le hl hb1.size,fun i x hx=>(hb1.cell (p:=⟨b,o+i,none⟩) hl).trans (hcc i x hx)⟩
 clear hown hb1 hm;go_wp2_with fail
 go_loopg [0,13] m (fun q s0 s13 wx=>∃ (j n' c':Nat) (a':Option Addr) (Lj told:List Nat),s0=.slice a' n' c'/\s13=.int .i64 (j:Int)/\Aside (j+q=m/\Lj.length=n'/\n'<=n/\RISES Lj/\n'<=c'/\(a'=none->c'=0)/\(∀ x,a'=some x->x.block=bi/\x.spot=none)/\NUML w1 a' Lj/\S w1 told wx/\zc (TPS N) L=told ++ zc ((TPS N).drop j) Lj))
 case atStart=>exact⟨0,n,c,a,L,[],rfl,rfl,by omega,LL.out.1,Nat.le_refl _,LL.out.2.1,LL.out.2.2.1,LL.out.2.2.2.1,LL.out.2.2.2.2.1,L0.out,LL.out.2.2.2.2.2.2 w1 R1.out.2.1,by simp⟩
 case round=>
  obtain⟨j,n',c',a',Lj,told,rfl,rfl,A⟩:=hrel;clear L0 LL;cases gk with
  | zero=>
    obtain rfl:j=m:=by have:=A.out.1;omega
    have hlt:¬ (j:Int)<(j:Int):=by omega
    have FN:Aside (∃ w1,Below w.heap.size w w1/\TOLD (S w1) (P w1) X [] (zc (TPS N) L) (.returned (.tuple #[])) wr):=by
     obtain⟨h1,h2,h3,h4,h5,h6,h7,h8,h9,h10⟩:=A.out;refine⟨w1,R1.out.2.1,.inl ⟨rfl,?_⟩⟩;rw[List.drop_of_length_le (by have:=R1.out.2.2.1;have:=HA.out.2.2.2.1;omega)] at h10;rw[h10,zc,List.append_nil,List.nil_append];exact h9
    clear A R1 ST HT HA;go_wp2_with fail
    exact bodyPost_end (v:=.tuple #[]) (by simp[results,Tryz.f52]) rfl FN.out
  | succ q=>
    have hlt:(j:Int)<(m:Int):=by have:=A.out.1;omega
    have hjm:j<(TPS N).length:=by have:=A.out.1;have:=R1.out.2.2.1;have:=HA.out.2.2.2.1;omega
    obtain⟨⟨h,k⟩,ehk⟩:∃ s,(TPS N)[j]?=some s:=⟨_,List.getElem?_eq_getElem hjm⟩
    have hsp:=yu HA.out.2.1 (List.mem_of_getElem? ehk);have epk:=jA ehk;obtain⟨k1,k2⟩:=ST.out.2 w1 told wr A.out.2.2.2.2.2.2.2.2.1
    have hcell:wr.cell? ⟨g,j,none⟩=some (.int .u64 ((PLC h k:Nat):Int)):=by
     have h1:=R1.out.1.cellAt j (by have:=A.out.1;omega);refine(World.cell?_of_block (w:=w1) (by exact k1 g R1.out.2.2.2.2.1 R1.out.2.2.2.1)).trans (h1.trans ?_);rw[ze,List.getElem?_map,epk];rfl
    have ej:wrap64 ((j:Int)+1)=((j+1:Nat):Int):=by have:=A.out.1;have:=R1.out.2.2.1;have:=HA.out.2.2.1;unfold wrap64;omega
    have hN1:NUML wr a' Lj:=fun h0=>by
     obtain⟨b,o,e,hl,hcc⟩:=A.out.2.2.2.2.2.2.2.1 h0;have hbb:b=bi:=(A.out.2.2.2.2.2.2.1 _ e).1;exact⟨b,o,e,by omega,fun i x hx=>(World.cell?_of_block (w:=w1) (by exact k1 b hl (by rw[hbb];exact HA.out.2.2.2.2.2.1))).trans (hcc i x hx)⟩
    have cs:=yU h k hsp.2.2 a' n' c' Lj A.out.2.1 (by have:=A.out.2.2.1;have:=HA.out.1;omega) A.out.2.2.2.1 A.out.2.2.2.2.1 A.out.2.2.2.2.2.1 (fun x e=>(A.out.2.2.2.2.2.2.1 x e).2) wr hN1;have SP:Aside (Node h k/\(TPS N)[j]?=some (h,k)/\j<(TPS N).length):=⟨hsp.2.2,ehk,hjm⟩
    clear hsp ehk epk k1 k2 hN1 hjm;go_wp2_with fail
    refine cs.mono ?_;rintro e w2 ⟨r,a2,rfl,hs⟩;clear cs hcell;have hdrop:(TPS N).drop j=(h,k) :: (TPS N).drop (j+1):=ZT SP.out.2.1;have hneed:=y7 ((TPS N).drop (j+1)) hs.rank;rw[<-hdrop] at hneed;have hrn:=hs.rank.le;have S2:S w1 told w2:=ST.out.1 w1 told wr w2 A.out.2.2.2.2.2.2.2.2.1 hs.below
    have MR:Aside (NUML w1 a2 (Lj.drop r)/\(∀ x,a2=some x->x.block=bi/\x.spot=none)/\(a2=none->c' - r=0)/\r<=n'/\NUML w1 a' (Lj.take r)/\zc ((TPS N).drop j) Lj=NEED h k (Lj.take r) ++ zc ((TPS N).drop (j+1)) (Lj.drop r)):=by
     refine⟨fun h0=>?_,fun x hx=>?_,hs.nil,by have:=A.out.2.1;omega,fun h0=>?_,hneed⟩
     ·obtain⟨b,o,e,hl,hcc⟩:=hs.lies h0
      obtain⟨y,e2,e3⟩:=hs.block _ e;have hbb:b=bi:=by have:=(A.out.2.2.2.2.2.2.1 _ e2).1;rw[<-e3] at this;exact this
      obtain⟨k1,k2⟩:=ST.out.2 w1 told wr A.out.2.2.2.2.2.2.2.2.1;obtain⟨b',o',e',hl',_⟩:=A.out.2.2.2.2.2.2.2.1 (by rw[List.length_drop] at h0;omega);have hbi:bi<w1.heap.size:=by have h9:b'=bi:=(A.out.2.2.2.2.2.2.1 _ e').1;omega
      subst hbb;exact⟨b,o,e,hbi,fun i x hx=>(World.cell?_of_block (w:=wr) (by exact(k1 b hbi HA.out.2.2.2.2.2.1).symm)).trans (hcc i x hx)⟩
     ·obtain⟨y,e2,e3⟩:=hs.block x hx
      exact⟨by rw[e3];exact(A.out.2.2.2.2.2.2.1 _ e2).1,hs.spot x hx⟩
     ·obtain⟨b,o,e,hl,hcc⟩:=A.out.2.2.2.2.2.2.2.1 (by rw[List.length_take] at h0;omega)
      refine⟨b,o,e,hl,fun i x hx=>hcc i x ?_⟩;rw[List.getElem?_take] at hx;split at hx
      ·exact hx
      ·cases hx
    have TL:Aside (told.length+(NEED h k (Lj.take r)).length<=2 ^ 30/\zc (TPS N) L=told ++ NEED h k (Lj.take r) ++ zc ((TPS N).drop (j+1)) (Lj.drop r)):=by
     have h1:=A.out.2.2.2.2.2.2.2.2.2;rw[MR.out.2.2.2.2.2,<-List.append_assoc] at h1;refine⟨?_,h1⟩;have h2:=HA.out.2.2.2.2.1;rw[h1,List.length_append,List.length_append] at h2;omega
    have cu:=mw w1 bi CP (S w1) (P w1) X (ST.out.1 w1) (fun acc w hw=>⟨fun hbi=>(ST.out.2 w1 acc w hw).1 bi hbi HA.out.2.2.2.2.2.1,(ST.out.2 w1 acc w hw).2⟩) (HT.out w1) h k SP.out.1 (Lj.take r) a' r c' told w2 (by rw[List.length_take];have:=A.out.2.1;have:=MR.out.2.2.2.1;omega) (by have:=MR.out.2.2.2.1;have:=A.out.2.2.1;have:=HA.out.1;omega) (A.out.2.2.2.1.take r) (by have:=MR.out.2.2.2.1;have:=A.out.2.2.2.2.1;omega) A.out.2.2.2.2.2.1 A.out.2.2.2.2.2.2.1 MR.out.2.2.2.2.1 S2 TL.out.1;clear hs hdrop hneed hrn S2;go_wp2_with fail
    refine cu.mono ?_;rintro e w3 (⟨rfl,h3⟩ | ⟨pre,p,hp,rfl,h3⟩)
    ·have Z:Aside (j+1+q=m/\(Lj.drop r).length=n' - r/\n' - r<=n/\RISES (Lj.drop r)/\n' - r<=c' - r/\(a2=none->c' - r=0)/\(∀ x,a2=some x->x.block=bi/\x.spot=none)/\NUML w1 a2 (Lj.drop r)/\S w1 (told ++ NEED h k (Lj.take r)) w3/\zc (TPS N) L=(told ++ NEED h k (Lj.take r)) ++ zc ((TPS N).drop (j+1)) (Lj.drop r)):=by
      obtain⟨h1,h2,_,h4,h5,_⟩:=A.out;refine⟨by clear ej;omega,by rw[List.length_drop,h2],by have:=A.out.2.2.1;clear ej;omega,h4.drop r,by clear ej;omega,MR.out.2.2.1,MR.out.2.1,MR.out.1,h3,TL.out.2⟩
     clear h3 cu A MR TL SP R1;go_wp2_with fail
     go_roundg q
     case measure=>exact Nat.lt_succ_self _
     case rel=>exact⟨j+1,n' - r,c' - r,a2,Lj.drop r,told ++ NEED h k (Lj.take r),rfl,by first | rfl | (rw[ej]),Z.out⟩
    ·refine⟨rfl,w1,R1.out.2.1,.inr ⟨pre,p,hp.trans ?_,rfl,h3⟩⟩
     rw[List.nil_append,TL.out.2];exact List.prefix_append _ _
structure COUNTING (K:Nat) (w0 w:World) (bl:Nat) (acc:List Nat):Prop where
 le:acc.length<=K
 row:Has w bl #[.int .i64 ((K - acc.length:Nat):Int)] 3
 keep:∀ b,b<w0.heap.size->b≠bl->w.heap[b]?=w0.heap[b]?
 lt:bl<w0.heap.size
 below:Below bl w0 w
theorem COUNTING.still{K:Nat}{w0 w w':World}{bl:Nat}{acc:List Nat}(h:COUNTING K w0 w bl acc)(hb:Below w.heap.size w w'):COUNTING K w0 w' bl acc:=by
 have hs:=h.below.size;have hlt:=h.lt;exact⟨h.le,h.row.keep hb,fun b hb0 hne=>(hb.block b (by omega)).trans (h.keep b hb0 hne),hlt,h.below.trans (hb.mono (by omega))⟩
theorem z0p{K:Nat}{w0 w:World}{bl:Nat}{acc:List Nat}(hK20:K<2 ^ 20)(hK:COUNTING K w0 w bl acc)(p:Int):Calls Tryz.prog 87 #[.int .u64 p,.pointer (some ⟨bl,0,none⟩)] w fun e w'=>(e=.returned (.tuple #[])/\∀ x,COUNTING K w0 w' bl (acc ++ [x]))\/(e=.panicked (zE 70)/\acc.length=K/\COUNTING K w0 w' bl acc):=by
 obtain⟨r,hr⟩:∃ r,K - acc.length=r:=⟨_,rfl⟩
 have c0:=hK.row.cell 0;have f0:=hK.row.frozen 0;rw[hr] at c0;have c0:w.cell? ⟨bl,0,none⟩=some (.int .i64 (r:Int)):=c0;have HA:Aside (COUNTING K w0 w bl acc/\K - acc.length=r/\K<2 ^ 20):=⟨hK,hr,hK20⟩
 clear hK hr hK20;rcases Nat.eq_zero_or_pos r with h0 | h0
 ·subst h0
  go_enter Tryz.func87,Tryz.ntmps87;go_wp2_with fail
  exact⟨rfl,.inr ⟨rfl,by have:=HA.out.1.le;have:=HA.out.2.1;omega,HA.out.1⟩⟩
 ·have hz:((r:Int) == 0)=false:=beq_eq_false_iff_ne.2 (by omega)
  have e1:wrap64 ((r:Int) - 1)=((r - 1:Nat):Int):=by have:=HA.out.2.1;have:=HA.out.2.2;unfold wrap64;omega
  have FN:Aside (∀ x,COUNTING K w0 (w.setCell ⟨bl,0,none⟩ (.int .i64 ((r - 1:Nat):Int))) bl (acc ++ [x])):=fun x=>by
   have h1:=HA.out.1;have h2:=HA.out.2.1;refine⟨by rw[List.length_append];simp;clear e1;omega,?_,fun b hb hne=>(Below.heap_setCell _ _ _ _ (by exact hne)).trans (h1.keep b hb hne),h1.lt,h1.below.setCell (p:=⟨bl,0,none⟩) (Nat.le_refl _) _⟩;have h3:=h1.row.set 0 (.int .i64 ((r - 1:Nat):Int));rw[List.length_append,show K - (acc.length+[x].length)=r - 1 by simp;clear e1;omega];exact h3
  clear HA;generalize r - 1=r' at *
  go_enter Tryz.func87,Tryz.ntmps87;go_wp2_with fail
  exact bodyPost_end (v:=.tuple #[]) (by simp[results,Tryz.f87]) rfl (.inl ⟨rfl,FN.out⟩)
def MWA(L:List Nat)(N K:Nat):Int:=if zf L N≠0 then zf L N else if K≠(zc (TPS N) L).length then 70 else 0
theorem Ye{L:List Nat}{N K:Nat}(h:MWA L N K=0):zf L N=0/\K=(zc (TPS N) L).length:=by
 unfold MWA at h;split at h
 ·rename_i h1;exact absurd h h1
 ·rename_i h1
  split at h
  ·cases h
  ·rename_i h2
   exact⟨by simpa using h1,by simpa using h2⟩
theorem Xn{L:List Nat}{N K:Nat}(h:zf L N≠0):MWA L N K=zf L N:=if_pos h
theorem Y0{L:List Nat}{N K:Nat}(h:zf L N=0)(hk:K≠(zc (TPS N) L).length):MWA L N K=70:=by
 unfold MWA;rw[if_neg (by simpa using h),if_pos hk]
theorem ZY{L:List Nat}{N K:Nat}(h:zf L N=0)(hk:K=(zc (TPS N) L).length):MWA L N K=0:=by
 unfold MWA;rw[if_neg (by simpa using h),if_neg (by simpa using hk)]
def Jf(L:List Nat)(N K:Nat)(w:World)(e:Ending)(w':World):Prop:=Below w.heap.size w w'/\((MWA L N K=0/\e=.returned (.tuple #[]))\/(MWA L N K≠0/\e=.panicked (zE (MWA L N K))))
theorem Ju(L:List Nat)(N:Nat)(a:Option Addr)(m c:Nat)(an:Option Addr)(K cn:Nat)(w:World)(hl:L.length=m)(hm:m<2 ^ 20)(hc:m<=c)(hnil:a=none->c=0)(hbl:∀ x,a=some x->x.block<w.heap.size/\x.spot=none)(hK:K<2 ^ 20)(hL:NUML w a L)(hT:Tabled w)(hw0:0<w.heap.size):
  Calls Tryz.prog 55 #[.agg (MBOX N a m c an K cn)] w (Jf L N K w):=by
 have hmf:∀ (fn:Fn) (first cap:Array Value) (w:World),(Instr.makeFunc fn first cap).run Tryz.prog w=.ok (.func fn first cap) w:=fun _ _ _ _=>rfl;obtain⟨w1,e1⟩:∃ w1,w.alloc (.cells (MBOX N a m c an K cn) 45)=w1:=⟨_,rfl⟩
 have s1:w1.heap.size=w.heap.size+1:=by rw[<-e1];simp
 have h1:Has w1 w.heap.size (MBOX N a m c an K cn) 45:=by rw[<-e1];exact Has.new w _ _
 have hb1:Below w.heap.size w w1:=by rw[<-e1];exact(Below.refl _ _).alloc (Nat.le_refl _) _
 have hL1:NUML w1 a L:=fun hp=>by
  obtain⟨b,o,e,hlt,hcc⟩:=hL hp;exact⟨b,o,e,by omega,fun i x hx=>(hb1.cell (p:=⟨b,o+i,none⟩) hlt).trans (hcc i x hx)⟩
 have hM:(MBOX N a m c an K cn)=#[.int .u64 (N:Int),.slice a m c,.slice an K cn]:=rfl;have cr:=JO L N a m c hl (by omega) w1 hL1;have x0:=h1.cell 0;have x1:=h1.cell 1;have x2:=h1.cell 2;rw[hM] at e1 x0 x1 x2;have HA:Aside (L.length=m/\m<2 ^ 20/\m<=c/\(a=none->c=0)/\(∀ x,a=some x->x.block<w.heap.size/\x.spot=none)/\K<2 ^ 20/\NUML w1 a L/\Tabled w1/\w1.heap.size=w.heap.size+1/\Has w1 w.heap.size (MBOX N a m c an K cn) 45/\Below w.heap.size w w1):=⟨hl,hm,hc,hnil,hbl,hK,hL1,hT.below hw0 hb1,s1,h1,hb1⟩
 clear hl hm hc hnil hbl hK hL hT hw0 s1 hb1 hL1;go_enter Tryz.func55,Tryz.ntmps55;rw[hM];go_wp2_with fail
 refine cr.mono ?_;rintro e w2 ⟨rfl,(⟨hr,rfl⟩ | ⟨hr,rfl⟩)⟩
 ·clear cr
  obtain⟨r1,r2,r3⟩:=yF hr;obtain⟨w3,e3⟩:∃ w3,w1.alloc (.cells #[.int .i64 (K:Int)] 3)=w3:=⟨_,rfl⟩
  have s3:w3.heap.size=w.heap.size+2:=by rw[<-e3];simp;have:=HA.out.2.2.2.2.2.2.2.2.1;omega
  have h3:Has w3 w1.heap.size #[.int .i64 (K:Int)] 3:=by rw[<-e3];exact Has.new w1 _ _
  have hb3:Below w1.heap.size w1 w3:=by rw[<-e3];exact(Below.refl _ _).alloc (Nat.le_refl _) _
  have y0:w3.cell? ⟨w.heap.size,0,none⟩=some (.int .u64 (N:Int)):=(h1.keep hb3).cell 0;have y1:w3.cell? ⟨w.heap.size,1,none⟩=some (.slice a m c):=(h1.keep hb3).cell 1
  obtain⟨bj,hbj,hbn⟩:∃ bj,(∀ x,a=some x->x.block=bj/\x.spot=none)/\bj≠w1.heap.size:=by
   have hs:=HA.out.2.2.2.2.2.2.2.2.1;cases a with
   | none=>exact⟨w1.heap.size+1,fun x e=>(by cases e),by omega⟩
   | some x=>exact⟨x.block,fun y e=>(by cases e;exact⟨rfl,(HA.out.2.2.2.2.1 x rfl).2⟩),by have:=(HA.out.2.2.2.2.1 x rfl).1;omega⟩
  have hL3:NUML w3 a L:=fun hp=>by
   obtain⟨b,o,e,hlt,hcc⟩:=HA.out.2.2.2.2.2.2.1 hp;exact⟨b,o,e,Nat.lt_of_lt_of_le hlt hb3.size,fun i x hx=>(hb3.cell (p:=⟨b,o+i,none⟩) hlt).trans (hcc i x hx)⟩
  have cn:=z0o bj w1.heap.size (fun w0 acc w=>COUNTING K w0 w w1.heap.size acc) (fun w0 acc w=>acc.length=K/\COUNTING K w0 w w1.heap.size acc) (zE 70) (fun w0 acc w w' h hb=>h.still hb) (fun w0 acc w h=>⟨fun b hb hne=>h.keep b hb hne,h.below.size⟩) (fun w0 acc p w h _=>(z0p HA.out.2.2.2.2.2.1 h (p:Int)).mono fun e w' hh=>hh.imp (fun x=>⟨x.1,x.2 p⟩) (fun x=>⟨x.1,x.2⟩)) N r1 L a m c w3 HA.out.1 HA.out.2.1 r2 HA.out.2.2.1 HA.out.2.2.2.1 hbj hL3 hbn h3.lt (HA.out.2.2.2.2.2.2.2.1.below (by have:=HA.out.2.2.2.2.2.2.2.2.1;omega) hb3)
   (fun w4 hb=>⟨Nat.zero_le _,h3.keep hb,fun b _ _=>rfl,(h3.keep hb).lt,Below.refl _ _⟩)
  have HR:Aside (zf L N=0/\Below w1.heap.size w1 w3/\K<2 ^ 20):=⟨hr,hb3,HA.out.2.2.2.2.2.1⟩
  have BW:Aside (Below w.heap.size w w1):=HA.out.2.2.2.2.2.2.2.2.2.2;clear r1 r2 r3 hbj hbn hr hL3 s3 h3 HA h1 hb3;go_wp2_with fail
  refine cn.mono ?_;rintro e w5 ⟨w4,hb4,(⟨rfl,ht⟩ | ⟨pre,p,hpre,rfl,hp1,hp2⟩)⟩
  ·clear cn
   rw[List.nil_append] at ht;have z0:=ht.row.cell 0;obtain⟨r,hrr⟩:∃ r,K - (zc (TPS N) L).length=r:=⟨_,rfl⟩
   rw[hrr] at z0;have z0:w5.cell? ⟨w1.heap.size,0,none⟩=some (.int .i64 (r:Int)):=z0
   have hbW:Below w.heap.size w w5:=by
    have h34:Below w1.heap.size w1 w4:=HR.out.2.1.trans (hb4.mono HR.out.2.1.size);have h1w:Below w.heap.size w w4:=BW.out.trans (h34.mono BW.out.size);exact h1w.trans (ht.below.mono BW.out.size)
   have hle:=ht.le;rcases Nat.eq_zero_or_pos r with h0 | h0
   ·subst h0
    have FN:Aside (Jf L N K w (.returned (.tuple #[])) w5):=⟨hbW,.inl ⟨ZY HR.out.1 (by omega),rfl⟩⟩
    clear ht hbW hb4 hle hrr HR BW;go_wp2_with fail
    exact bodyPost_end (v:=.tuple #[]) (by simp[results,Tryz.f55]) rfl FN.out
   ·have hgt:(0:Int)<(r:Int):=by omega
    have hm7:=Y0 (K:=K) HR.out.1 (by omega);have FN:Aside (Jf L N K w (.panicked (zE 70)) w5):=⟨hbW,.inr ⟨by rw[hm7];decide,by rw[hm7]⟩⟩
    clear ht hbW hb4 hle hrr HR BW hm7;go_wp2_with fail
    exact⟨rfl,FN.out⟩
  ·have hbW:Below w.heap.size w w5:=by
    have h34:Below w1.heap.size w1 w4:=HR.out.2.1.trans (hb4.mono HR.out.2.1.size);have h1w:Below w.heap.size w w4:=BW.out.trans (h34.mono BW.out.size);exact h1w.trans (hp2.below.mono BW.out.size)
   have hlen:=hpre.length_le;rw[List.nil_append,List.length_append,hp1] at hlen;have hm7:=Y0 (K:=K) HR.out.1 (by simp at hlen;omega);exact⟨rfl,hbW,.inr ⟨by rw[hm7];decide,by rw[hm7]⟩⟩
 ·refine⟨rfl,HA.out.2.2.2.2.2.2.2.2.2.2,.inr ⟨?_,?_⟩⟩
  ·rw[Xn hr];exact hr
  ·rw[Xn hr]
theorem z0q(b0 b1:Nat)(w:World)(G:World->Prop)(B:Int->World->Prop)
  (hdo:Calls Tryz.prog 54 #[.pointer (some ⟨b0,0,none⟩),.pointer (some ⟨b1,0,none⟩)] (w.alloc (.cells #[.int .i64 0] 29)) fun e w'=>(e=.returned (.tuple #[])/\G w')\/∃ x,e=.panicked (zE x)/\B x w')
  (hG:∀ w',G w'->Has w' w.heap.size #[.int .i64 0] 29)(hB:∀ x w',B x w'->Has w' w.heap.size #[.int .i64 0] 29):
  Calls Tryz.prog 49 #[.func (.func 54) #[] #[.pointer (some ⟨b0,0,none⟩),.pointer (some ⟨b1,0,none⟩)]] w (xI w G B):=by
 have hmf:∀ (fn:Fn) (first cap:Array Value) (w:World),(Instr.makeFunc fn first cap).run Tryz.prog w=.ok (.func fn first cap) w:=fun _ _ _ _=>rfl;have HG:Aside (∀ w',G w'->Has w' w.heap.size #[.int .i64 0] 29):=hG;have HB:Aside (∀ x w',B x w'->Has w' w.heap.size #[.int .i64 0] 29):=hB;clear hG hB;go_enter_defers Tryz.func49,Tryz.ntmps49
 go_wp2_with fail
 refine hdo.mono ?_;rintro e w1 (⟨rfl,h1⟩ | ⟨x,rfl,h1⟩)
 ·clear hdo
  have hh:=HG.out w1 h1;have c0:=hh.cell 0;have f0:=hh.frozen 0;have G1:Aside (G w1):=h1;clear h1;go_wp2_with fail
  refine leaves_cons (f:=85) (args:=#[.pointer (some ⟨w.heap.size,0,none⟩)]) (by simp) (by simp[go_sem]) ?_;refine(Zj ⟨w.heap.size,0,none⟩ _).mono ?_;rintro e u' w'' ⟨rfl,rfl,rfl⟩;have c1:=(hh.set 0 (.int .i64 0)).cell 0;simp[Leaves,settle,results,Tryz.results49,go_sem,c1];exact .inl ⟨rfl,w1,G1.out,rfl⟩
 ·have hh:=HB.out x w1 h1
  have c0:=hh.cell 0;have f0:=hh.frozen 0;refine leaves_cons (f:=85) (args:=#[.pointer (some ⟨w.heap.size,0,none⟩)]) (by simp) (by simp[go_sem]) ?_;refine(jV ⟨w.heap.size,0,none⟩ 0 x [] w1 c0 f0).mono ?_;rintro e u' w'' ⟨rfl,rfl,rfl⟩;have c1:=(hh.set 0 (.int .i64 x)).cell 0;simp[Leaves,settle,results,Tryz.results49,go_sem,c1];exact .inr ⟨x,w1,rfl,h1,rfl⟩
end Go.Proofs.YtobaogpomcocpaaGreatDoor
