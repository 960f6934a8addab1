/- ManyMakes: part 38. -/
import Derived.Test.YthmnailmbgondaaGreatDoorManyMakesP37
namespace Go.Proofs.YthmnailmbgondaaGreatDoor
open Go.RowKit
set_option maxRecDepth 100000
theorem z6r (n:Int) (hn:4611686018427387904<n) (a:Option Addr) (m c:Nat) (w:World):Calls Tryz.prog 20 #[.slice a m c,.int .u64 n] w fun e w'=>e=.returned (.tuple #[.slice none 0 0,.int .i64 30])/\w=w':=by
 go_enter Tryz.func20,Tryz.ntmps20;go_wp2;go_ret2;exact ⟨rfl,rfl⟩
theorem zfi {ps:List (Nat × Nat)} {L:List Nat} {j h k:Nat} (e:ps[j]?=some (h,k)):RNS (ps.take (j+1)) L=RNS (ps.take j) L ++ NSP h k (UND h k L):=by
 unfold RNS;rw [List.take_add_one,e,List.flatMap_append];simp
theorem zfj {ps:List (Nat × Nat)} {L:List Nat} (hp:∀ p∈ps,p.1<=62):(RNS ps L).length<=ps.length*(L.length*62+1):=by
 induction ps with
 | nil=>simp [RNS]
 | cons s ps ih=>
   have h1:RNS (s :: ps) L=NSP s.1 s.2 (UND s.1 s.2 L) ++ RNS ps L:=rfl;rw [h1,List.length_append,List.length_cons,Nat.add_mul,Nat.one_mul];have h2:=ih fun p hm=>hp p (List.mem_cons_of_mem _ hm);have h3:=z4h s.1 s.2 (UND s.1 s.2 L);have h4:(UND s.1 s.2 L).length*s.1<=L.length*62:=Nat.mul_le_mul (z1U _ _ _) (hp s (List.mem_cons_self ..));omega
theorem zdA {ops:Array Oper} {rest:List Oper} {o:Oper} {a:Act} {Q:Exit->Act->World->Prop} (w:World) (hgd:o.guard=none) (s x:Operand)
  (ho:o.op=.call {callee:=.builtin .append,args:=#[s,x],argTypes:=#[23,23]})
  (base:Nat) (v:Value) (n:Nat) (xs:List Nat) (hs:a.eval s=v) (hown:w.ownsRow base 24 1 v n (z06 xs))
  (b c:Nat) (y:Nat) (hx:a.eval x=.slice (some ⟨b,0,none⟩) 1 c) (hc:w.cell? ⟨b,0,none⟩=some (.int .u64 (y:Int)))
  (hb:n<=2 ^ 30) (hbase:base<=w.heap.size)
  (h:∀ g cap w',w'.ownsRow base 24 1 (.slice (some ⟨g,0,none⟩) (n+1) cap) (n+1) (z06 (xs ++ [y]))->w.grownBy w' v.ownBlock->(v.ownBlock=some g\/g=w.heap.size)->g<w'.heap.size->wpList Tryz.prog ops Q rest (a.put o.dst (.slice (some ⟨g,0,none⟩) (n+1) cap)) w'):wpList Tryz.prog ops Q (o :: rest) a w:=by
 obtain ⟨i,hi,hz,hs1,hby⟩:=info_parts z15;refine wpList_append_lies w hgd s x 23 ho base 24 i (.int .u64 0) 1 8 Tryz.underlying23 hi hz hs1 hby rfl (by decide) v n (z06 xs) hs hown ⟨b,0,none⟩ 1 c [.int .u64 (y:Int)] hx rfl ?_ (fun u hu=>by simp at hu;subst hu;rfl) (by decide) (by simp only [maxLen];omega) (by omega) hbase w.heap.size rfl ?_
 ·intro j u hj
  cases j with
  | zero=>
    simp only [List.getElem?_cons_zero,Option.some.injEq] at hj;subst hj;exact hc
  | succ j=>simp at hj
 ·intro g cap w' h1 h2 h3 h4
  rw [<-z1D] at h1;exact h g cap w' h1 h2 h3 h4
set_option maxHeartbeats 4000000 in
theorem z6S (L:List Nat) (N:Nat) (a:Option Addr) (m c:Nat) (w:World) (hl:L.length=m) (hm:m<2 ^ 14) (hx:∀ x∈L,x<2 ^ 64) (hL:NUML w a L):
    Calls Tryz.prog 20 #[.slice a m c,.int .u64 (N:Int)] w (ANSN w (z0h L N) (PLCA L N)):=by
  by_cases hn:(4611686018427387904:Int)<(N:Int)
  · refine (z6r N hn a m c w).mono ?_
    rintro e w' ⟨rfl,rfl⟩;have e1:z0h L N=30:=by unfold z0h;rw [if_pos (by omega)]
    have e2:PLCA L N=[]:=by unfold PLCA;rw [if_neg (by rw [e1];decide)]
    rw [e1,e2];exact ⟨none,0,rfl,⟨rfl,.inl ⟨rfl,rfl⟩⟩,Below.refl _ _⟩
  · have hN : N <= 4611686018427387904:=by omega
    have e:z0h L N=RCHK N none L:=by unfold z0h;rw [if_neg (by omega)]
    have ct:=zbH N hN;have hPC:PC N<=64:=z2C 64 N (by omega);have hlen:=z2h (n:=N) (by omega);have hsp:∀ s∈TPS N,s.1<=62/\Node s.1 s.2:=fun s hs=>⟨(z20 (n:=N) (by omega) (h:=s.1) (k:=s.2) hs).1,(z20 (n:=N) (by omega) (h:=s.1) (k:=s.2) hs).2.2⟩
    have HA:Aside (L.length=m/\m<2 ^ 14/\NUML w a L/\z0h L N=RCHK N none L/\(∀ x∈L,x<2 ^ 64)):=⟨hl,hm,hL,e,hx⟩
    have HT:Aside (N<=4611686018427387904/\PC N<=64/\(TPS N).length=PC N/\(∀ s∈TPS N,s.1<=62/\Node s.1 s.2)/\∀ w,Calls Tryz.prog 48 #[.int .u64 (N:Int)] w fun e w'=>∃ a cap,e=.returned (.slice a (PC N) cap)/\Spots w' a (TPS N)/\Below w.heap.size w w'):=⟨hN,hPC,hlen,hsp,ct⟩
    clear hl hm hL e hN ct hPC hlen hsp hx;go_enter Tryz.func20,Tryz.ntmps20;go_wp2_with fail
    go_loopg [6] m (fun q s6 wx=>∃ j:Nat,s6=.int .i64 (j:Int)/\Aside (j+q=m/\z0h L N=RCHK N (AHD L j) (L.drop j)/\Below w.heap.size w wx))
    case atStart=>exact ⟨0,rfl,by omega,HA.out.2.2.2.1,Below.refl _ _⟩
    case round=>
      obtain ⟨j,rfl,A⟩:=hrel;cases gk with
      | zero=>
        obtain rfl:j=m:=by have:=A.out.1;omega
        have hlt:¬ (j:Int)<(j:Int):=by omega
        have hr0:z0h L N=0:=by
          have h1:=A.out.2.1;rw [List.drop_of_length_le (by have:=HA.out.1;omega)] at h1;exact h1
        have hP:PLCA L N=(RNS (TPS N) L).map SPL:=by unfold PLCA;rw [if_pos hr0,zgq hr0]
        have FR:Aside (z0h L N=0/\PLCA L N=(RNS (TPS N) L).map SPL/\Below w.heap.size w wr/\NUML wr a L):=⟨hr0,hP,A.out.2.2,HA.out.2.2.1.keep A.out.2.2⟩
        have ct:=HT.out.2.2.2.2 wr;clear A hr0 hP;go_wp2_with fail
        refine ct.mono ?_;rintro e w1 ⟨ag,cg,rfl,hsp,hb1⟩;have R1:Aside (Spots w1 ag (TPS N)/\Below w.heap.size w w1/\NUML w1 a L):=⟨hsp,FR.out.2.2.1.trans (hb1.mono FR.out.2.2.1.size),FR.out.2.2.2.keep hb1⟩
        obtain ⟨M,hM⟩:∃ M,PC N=M:=⟨_,rfl⟩
        rw [hM];have HM:Aside (PC N=M):=hM;clear ct hsp hb1 hM;go_wp2_with fail
        go_loopg [7,9] M (fun q s7 s9 wx=>∃ (i:Nat) (v:Value),v=s7/\s9=.int .i64 (i:Int)/\Aside (i+q=M/\wx.ownsRow w1.heap.size 24 1 v (RNS ((TPS N).take i) L).length (z06 ((RNS ((TPS N).take i) L).map SPL))/\Below w1.heap.size w1 wx))
        case atStart=>exact ⟨0,_,rfl,rfl,by omega,⟨rfl,.inl ⟨rfl,rfl⟩⟩,Below.refl _ _⟩
        case round=>
          obtain ⟨i,v,rfl,rfl,A⟩:=hrel;obtain ⟨av,cv,rfl⟩:=z1m A.out.2.1;cases gk with
          | zero=>
            obtain rfl:i=M:=by have:=A.out.1;omega
            have hlt2:¬ (i:Int)<(i:Int):=by omega
            have FN:Aside (ANSN w (z0h L N) (PLCA L N) (.returned (.tuple #[.slice av (RNS ((TPS N).take i) L).length cv,.int .i64 0])) wr):=by
              obtain ⟨_,h2,h3⟩:=A.out;rw [List.take_of_length_le (by rw [HT.out.2.2.1,HM.out];omega)] at h2 ⊢;rw [FR.out.1,FR.out.2.1];refine ⟨av,cv,by rw [List.length_map],?_,R1.out.2.1.trans (h3.mono R1.out.2.1.size)⟩;rw [List.length_map];exact z0o h2 R1.out.2.1.size
            clear A HA FR R1 HT HM;go_wp2_with fail
            go_ret2;exact FN.out
          | succ q=>
            have hiM:i<M:=by have:=A.out.1;omega
            have hlt2:(i:Int)<(M:Int):=by omega
            obtain ⟨⟨h,k⟩,ehk⟩:∃ s,(TPS N)[i]?=some s:=⟨_,List.getElem?_eq_getElem (by rw [HT.out.2.2.1,HM.out];exact hiM)⟩
            obtain ⟨g,rfl,hg,hc⟩:=R1.out.1 (by rw [HT.out.2.2.1,HM.out];omega);have x0:wr.cell? ⟨g,i*2,none⟩=some (.int .u8 (h:Int)):=(A.out.2.2.cell (p:=⟨g,i*2,none⟩) hg).trans (hc i h k ehk).1;have x1:wr.cell? ⟨g,i*2+1,none⟩=some (.int .u64 (k:Int)):=(A.out.2.2.cell (p:=⟨g,i*2+1,none⟩) hg).trans (hc i h k ehk).2;have hnd:=HT.out.2.2.2.1 (h,k) (List.mem_of_getElem? ehk);have cn:=za1 h k hnd.2 L a j c HA.out.1 HA.out.2.1 HA.out.2.2.2.2 wr (R1.out.2.2.keep A.out.2.2);have ei:wrap64 ((i:Int)+1)=((i+1:Nat):Int):=by have:=HT.out.2.1;have:=HM.out;unfold wrap64;omega
            have hst:=zfi (L:=L) ehk;have hmost:=zfj (ps:=(TPS N).take i) (L:=L) fun p hp=>(HT.out.2.2.2.1 p (List.mem_of_mem_take hp)).1;have hmost2:=z4h h k (UND h k L)
            have hfew:(RNS ((TPS N).take i) L).length+(NSP h k (UND h k L)).length<=2 ^ 29:=by
              have h1:((TPS N).take i).length*(L.length*62+1)<=64*(2 ^ 14*62+1):=Nat.mul_le_mul (by rw [List.length_take,HT.out.2.2.1];have:=HT.out.2.1;clear ei;omega) (by have:=HA.out.1;have:=HA.out.2.1;clear ei;omega);have h2:(UND h k L).length*h<=2 ^ 14*62:=Nat.mul_le_mul (by have:=z1U h k L;have:=HA.out.1;have:=HA.out.2.1;clear ei;omega) hnd.1;clear ei;omega
            have hnodes:∀ s∈NSP h k (UND h k L),Node s.1 s.2:=z5N h k _ hnd.2;obtain ⟨P,hP⟩:∃ P,RNS ((TPS N).take i) L=P:=⟨_,rfl⟩
            obtain ⟨B,hB⟩:∃ B,NSP h k (UND h k L)=B:=⟨_,rfl⟩
            rw [hP,hB] at hst hfew;rw [hB] at cn hnodes;have R:Aside (i+1+q=M/\wr.ownsRow w1.heap.size 24 1 (.slice av P.length cv) P.length (z06 (P.map SPL))/\Below w1.heap.size w1 wr/\P.length+B.length<=2 ^ 29/\(∀ s∈B,Node s.1 s.2)/\RNS ((TPS N).take (i+1)) L=P ++ B):=⟨by have:=A.out.1;clear ei;omega,by rw [<-hP];exact A.out.2.1,A.out.2.2,hfew,hnodes,hst⟩
            rw [hP];clear A hst hfew hnodes hmost hmost2 hP hB hnd hc hiM ehk;go_wp2_with fail
            refine cn.mono ?_;rintro e w2 ⟨ab,cb,rfl,hownB,hb2⟩;have R2:Aside (w2.ownsRow w1.heap.size 24 1 (.slice av P.length cv) P.length (z06 (P.map SPL))/\Below w1.heap.size w1 w2/\w2.ownsRow wr.heap.size 101 2 (.slice ab B.length cb) B.length (z0e B)):=⟨z0R R.out.2.1 hb2,R.out.2.2.1.trans (hb2.mono R.out.2.2.1.size),hownB⟩
            clear cn hownB hb2 x0 x1;go_wp2_with fail
            have AP:Aside (∀ g,(Value.slice av P.length cv).ownBlock=some g->(Value.slice ab B.length cb).ownBlock≠some g):=fun g e1 e2=>by
              have h1:=(R.out.2.1.lt g e1).2;have h2:=(R2.out.2.2.lt g e2).1;omega
            have RB:Aside (w2.ownsRow w1.heap.size 101 2 (.slice ab B.length cb) B.length (z0e B)):=z0o R2.out.2.2 R.out.2.2.1.size;obtain ⟨u,hu⟩:∃ u,P.length=u:=⟨_,rfl⟩
            obtain ⟨nb,hnb⟩:∃ nb,B.length=nb:=⟨_,rfl⟩
            rw [hu] at R R2 AP;rw [hnb] at R R2 AP RB;rw [hu,hnb];have HB:Aside (B.length=nb/\P.length=u):=⟨hnb,hu⟩
            clear hnb hu;go_wp2_with fail
            go_loopg [7,11] nb (fun q2 s7 s11 wx=>∃ (y:Nat) (v:Value),v=s7/\s11=.int .i64 (y:Int)/\Aside (y+q2=nb/\wx.ownsRow w1.heap.size 24 1 v (u+y) (z06 ((P ++ B.take y).map SPL))/\Below w1.heap.size w1 wx/\wx.ownsRow w1.heap.size 101 2 (.slice ab nb cb) nb (z0e B)/\(∀ g,v.ownBlock=some g->(Value.slice ab nb cb).ownBlock≠some g)))
            case atStart=>exact ⟨0,_,rfl,rfl,by omega,by simpa using R2.out.1,R2.out.2.1,RB.out,AP.out⟩
            case round =>
              obtain ⟨y,v,rfl,rfl,A⟩:=hrel;clear R2 AP RB;cases gk with
              | zero=>
                obtain rfl:y=nb:=by have:=A.out.1;omega
                have hlt3:¬ (y:Int)<(y:Int):=by omega
                have Z:Aside (i+1+q=M/\wr.ownsRow w1.heap.size 24 1 v (RNS ((TPS N).take (i+1)) L).length (z06 ((RNS ((TPS N).take (i+1)) L).map SPL))/\Below w1.heap.size w1 wr):=by
                  obtain ⟨_,h2,h3,_⟩:=A.out;rw [List.take_of_length_le (by have:=HB.out.1;omega)] at h2;rw [R.out.2.2.2.2.2,List.length_append,HB.out.1,HB.out.2];exact ⟨R.out.1,h2,h3⟩
                clear A R HB;go_wp2_with fail
                go_roundg q
                case measure=>exact Nat.lt_succ_self _
                case rel=>exact ⟨i+1,_,rfl,by first | rfl | (rw [ei]),Z.out⟩
              | succ q2=>
                have hyn:y<nb:=by have:=A.out.1;omega
                have hlt3:(y:Int)<(nb:Int):=by omega
                obtain ⟨⟨h2,k2⟩,eh2⟩:∃ s,B[y]?=some s:=⟨_,List.getElem?_eq_getElem (by have:=HB.out.1;omega)⟩
                obtain ⟨g2,rfl⟩:∃ g,ab=some ⟨g,0,none⟩:=by
                  rcases A.out.2.2.2.1.2 with ⟨e,h0⟩ | ⟨g,_,_,e,_⟩
                  · omega
                  · cases e;exact ⟨g,rfl⟩
                have hs2:=z4L B y h2 k2 eh2;have y0:wr.cell? ⟨g2,y*2,none⟩=some (.int .u8 (h2:Int)):=(A.out.2.2.2.1.cellAt (y*2) (by omega)).trans hs2.1;have y1:wr.cell? ⟨g2,y*2+1,none⟩=some (.int .u64 (k2:Int)):=(A.out.2.2.2.1.cellAt (y*2+1) (by omega)).trans hs2.2;have cp:=fun w=>z3v h2 k2 (R.out.2.2.2.2.1 (h2,k2) (List.mem_of_getElem? eh2)) w;have ey:wrap64 ((y:Int)+1)=((y+1:Nat):Int):=by have:=R.out.2.2.2.1;unfold wrap64;omega
                have ht:(P ++ B.take (y+1)).map SPL=(P ++ B.take y).map SPL ++ [PLC h2 k2]:=by
                  rw [List.take_add_one,eh2];simp [SPL]
                have R3:Aside (y+1+q2=nb/\wr.ownsRow w1.heap.size 24 1 v (u+y) (z06 ((P ++ B.take y).map SPL))/\Below w1.heap.size w1 wr/\wr.ownsRow w1.heap.size 101 2 (.slice (some ⟨g2,0,none⟩) nb cb) nb (z0e B)/\(∀ g,v.ownBlock=some g->(Value.slice (some ⟨g2,0,none⟩) nb cb).ownBlock≠some g)/\u+y<=2 ^ 30/\(P ++ B.take (y+1)).map SPL=(P ++ B.take y).map SPL ++ [PLC h2 k2]):=⟨by have:=A.out.1;clear ey;omega,A.out.2.1,A.out.2.2.1,A.out.2.2.2.1,A.out.2.2.2.2,by have:=R.out.2.2.2.1;clear ey;omega,ht⟩
                generalize PLC h2 k2=pl at *
                generalize (P ++ B.take y).map SPL=X1 at *
                generalize hX2:(P ++ B.take (y+1)).map SPL=X2 at *
                have HX2:Aside ((P ++ B.take (y+1)).map SPL=X2):=hX2;clear A hs2 ht hX2 eh2 hyn;go_wp2_with fail
                refine (cp _).mono ?_;rintro e w3 ⟨rfl,hb3⟩;have R4:Aside (w3.ownsRow w1.heap.size 24 1 v (u+y) (z06 X1)/\Below w1.heap.size w1 w3/\w3.ownsRow w1.heap.size 101 2 (.slice (some ⟨g2,0,none⟩) nb cb) nb (z0e B)):=⟨z0R R3.out.2.1 hb3,R3.out.2.2.1.trans (hb3.mono R3.out.2.2.1.size),z0R R3.out.2.2.2.1 hb3⟩
                clear cp hb3 y0 y1
                go_wp2_with (first
                  | (at_builtin;refine zdA _ rfl (.tmp 70) (.tmp 72) rfl w1.heap.size v (u+y) X1 rfl (R4.out.1.alloc _) w3.heap.size 1 pl rfl ((Has.new _ _ _).cell 0) R3.out.2.2.2.2.2.1 (by have:=R4.out.2.1.size;simp;omega) ?_;intro g4 c4 w4 hown hgrow hat hg
                     have R5:Aside (y+1+q2=nb/\w4.ownsRow w1.heap.size 24 1 (.slice (some ⟨g4,0,none⟩) (u+y+1) c4) (u+(y+1)) (z06 ((P ++ B.take (y+1)).map SPL))/\Below w1.heap.size w1 w4/\w4.ownsRow w1.heap.size 101 2 (.slice (some ⟨g2,0,none⟩) nb cb) nb (z0e B)/\(∀ g,(Value.slice (some ⟨g4,0,none⟩) (u+y+1) c4).ownBlock=some g->(Value.slice (some ⟨g2,0,none⟩) nb cb).ownBlock≠some g)):=by
                       obtain ⟨r1,r2,r3,r4,r5,r6,r7⟩:=R3.out;obtain ⟨s1,s2,s3⟩:=R4.out;refine ⟨r1,?_,(s2.alloc s2.size _).grown hgrow (by have:=s2.size;simp;omega) (fun k e=>(s1.lt k e).1),z0v (z1n s3 _) (fun k e=>hgrow.block k (by have:=(s3.lt k e).2;simp;omega) (fun e2=>r5 k e2.symm e)),fun g e1 e2=>?_⟩
                       · rw [HX2.out,r7]
                         exact hown
                       · have e1:g4=g:=by simpa [Value.ownBlock] using e1
                         subst e1;rcases hat with h | h
                         · exact r5 _ h e2
                         · have:=(s3.lt _ e2).2
                           simp at h;omega
                     clear hown hgrow hg hat R4 R3))
                go_roundg q2
                case measure=>exact Nat.lt_succ_self _
                case rel=>exact ⟨y+1,_,rfl,by first | rfl | (rw [ey]),R5.out⟩
      | succ q=>
        have hjm:j<m:=by have:=A.out.1;omega
        have hlt:(j:Int)<(m:Int):=by omega
        obtain ⟨x,ex⟩:∃ x,L[j]?=some x:=⟨_,List.getElem?_eq_getElem (by have:=HA.out.1;omega)⟩
        obtain ⟨b,o,rfl,hb,hcc⟩:=HA.out.2.2.1 (by have:=HA.out.1;omega);have x0:wr.cell? ⟨b,o+j,none⟩=some (.int .u64 (x:Int)):=(A.out.2.2.cell (p:=⟨b,o+j,none⟩) hb).trans (hcc j x ex);have ej:wrap64 ((j:Int)+1)=((j+1:Nat):Int):=by have:=HA.out.2.1;unfold wrap64;omega
        have hch:z0h L N=if z2i (AHD L j) x=true then 71 else if N<=x then 32 else RCHK N (some x) (L.drop (j+1)):=by
          rw [A.out.2.1,z4S ex,RCHK]
        have hnx:AHD L (j+1)=some x:=ex
        have PE:Aside (∀ E W,z0h L N=E->E≠0->Below w.heap.size w W->ANSN w (z0h L N) (PLCA L N) (.returned (.tuple #[.slice none 0 0,.int .i64 E])) W):=fun E W e1 e2 hb=>by
          have e3:PLCA L N=[]:=by unfold PLCA;rw [if_neg (by rw [e1];exact e2)]
          rw [e1,e3];exact ⟨none,0,rfl,⟨rfl,.inl ⟨rfl,rfl⟩⟩,hb⟩
        rcases Nat.eq_zero_or_pos j with hj0 | hj0
        · have hz:¬ (0:Int)<(j:Int):=by omega
          have hzd:decide ((0:Int)<(j:Int))=false:=decide_eq_false hz;have hz2:¬ 0<j:=by omega
          replace hch:z0h L N=if N<=x then 32 else RCHK N (some x) (L.drop (j+1)):=by
            rw [hch,hj0,if_neg (by simp [AHD,z2i])]
          by_cases hx:N<=x
          · have hx':(N:Int)<=(x:Int):=by omega
            rw [if_pos hx] at hch;have FN:Aside (z0h L N=32/\Below w.heap.size w wr):=⟨hch,A.out.2.2⟩
            clear A HA hch hnx hcc hj0 ex hjm HT;go_wp2_with fail
            go_quiet (fail)
            have y0:(wr.drewN nq).cell? ⟨b,o+j,none⟩=some (.int .u64 (x:Int)):=x0;go_wp2_with fail
            go_ret2;exact PE.out 32 _ FN.out.1 (by decide) (below_drewN FN.out.2 _)
          · have hx':¬ (N:Int)<=(x:Int):=by omega
            rw [if_neg hx] at hch;have Z:Aside (j+1+q=m/\z0h L N=RCHK N (AHD L (j+1)) (L.drop (j+1))/\Below w.heap.size w wr):=⟨by have:=A.out.1;clear ej;omega,by rw [hnx];exact hch,A.out.2.2⟩
            clear A hch hnx hcc hj0 ex hjm PE;go_wp2_with fail
            go_quiet (fail)
            have y0:(wr.drewN nq).cell? ⟨b,o+j,none⟩=some (.int .u64 (x:Int)):=x0;go_wp2_with fail
            go_roundg q
            case measure=>exact Nat.lt_succ_self _
            case rel=>exact ⟨j+1,by first | rfl | (rw [ej]),Z.out.1,Z.out.2.1,below_drewN Z.out.2.2 _⟩
        · obtain ⟨i,hi⟩:∃ i,j=i+1:=⟨j - 1,by omega⟩
          obtain ⟨y,ey⟩:∃ y,L[i]?=some y:=⟨_,List.getElem?_eq_getElem (by have:=HA.out.1;omega)⟩
          have y0:wr.cell? ⟨b,o+i,none⟩=some (.int .u64 (y:Int)):=(A.out.2.2.cell (p:=⟨b,o+i,none⟩) hb).trans (hcc i y ey);have ei:wrap64 ((j:Int) - 1)=(i:Int):=by have:=HA.out.2.1;unfold wrap64;omega
          have ei2:IntKind.i64.wrap ((j:Int) - 1)=(i:Int):=by have:=HA.out.2.1;rw [IntKind.wrap_i64];omega
          have him:(i:Int)<(m:Int):=by omega
          have hi0:(0:Int)<(j:Int):=by omega
          have hid:decide ((0:Int)<(j:Int))=true:=decide_eq_true hi0
          replace hch:z0h L N=if z2i (some y) x=true then 71 else if N<=x then 32 else RCHK N (some x) (L.drop (j+1)):=by
            rw [hch,show AHD L j=some y by rw [hi];exact ey]
          by_cases hxy:x<=y
          · have hxy':(x:Int)<=(y:Int):=by omega
            rw [if_pos (show z2i (some y) x=true from decide_eq_true hxy)] at hch;have FN:Aside (z0h L N=71/\Below w.heap.size w wr):=⟨hch,A.out.2.2⟩
            clear A HA hch hnx hcc hi ex ey hjm HT;go_wp2_with fail
            go_quiet (fail)
            go_wp2_with fail
            go_ret2;exact PE.out 71 _ FN.out.1 (by decide) (below_drewN FN.out.2 _)
          · have hxy':¬ (x:Int)<=(y:Int):=by omega
            rw [if_neg (show ¬ z2i (some y) x=true from fun h=>hxy (of_decide_eq_true h))] at hch;by_cases hx:N<=x
            · have hx':(N:Int)<=(x:Int):=by omega
              rw [if_pos hx] at hch;have FN:Aside (z0h L N=32/\Below w.heap.size w wr):=⟨hch,A.out.2.2⟩
              clear A HA hch hnx hcc hi ex ey hjm HT;go_wp2_with fail
              go_quiet (fail)
              have z0:(wr.drewN nq).cell? ⟨b,o+j,none⟩=some (.int .u64 (x:Int)):=x0;go_wp2_with fail
              go_ret2;exact PE.out 32 _ FN.out.1 (by decide) (below_drewN FN.out.2 _)
            · have hx':¬ (N:Int)<=(x:Int):=by omega
              rw [if_neg hx] at hch;have Z:Aside (j+1+q=m/\z0h L N=RCHK N (AHD L (j+1)) (L.drop (j+1))/\Below w.heap.size w wr):=⟨by have:=A.out.1;clear ej ei ei2;omega,by rw [hnx];exact hch,A.out.2.2⟩
              clear A hch hnx hcc hi ex ey hjm PE;go_wp2_with fail
              go_quiet (fail)
              have z0:(wr.drewN nq).cell? ⟨b,o+j,none⟩=some (.int .u64 (x:Int)):=x0;go_wp2_with fail
              go_roundg q
              case measure=>exact Nat.lt_succ_self _
              case rel=>exact ⟨j+1,by first | rfl | (rw [ej]),Z.out.1,Z.out.2.1,below_drewN Z.out.2.2 _⟩
end Go.Proofs.YthmnailmbgondaaGreatDoor
namespace Go.Proofs.YthmnailmbgondaaGreatDoor
open Go.RowKit
set_option maxRecDepth 100000
structure APT (a b x y:Value):Prop where
 ab:∀ g,a.ownBlock=some g->b.ownBlock≠some g
 ax:∀ g,a.ownBlock=some g->x.ownBlock≠some g
 ay:∀ g,a.ownBlock=some g->y.ownBlock≠some g
 bx:∀ g,b.ownBlock=some g->x.ownBlock≠some g
 byy:∀ g,b.ownBlock=some g->y.ownBlock≠some g
 xy:∀ g,x.ownBlock=some g->y.ownBlock≠some g
theorem z28 {a b:Value} (h:∀ g,a.ownBlock=some g->b.ownBlock≠some g):∀ g,b.ownBlock=some g->a.ownBlock≠some g:=fun g e1 e2=>h g e2 e1
structure MIX (w0 w:World) (B:Nat) (K:Nat->Prop) (a:Value) (na:Nat) (xa:List Value) (b:Value) (nb:Nat) (xb:List Value) (x:Value) (mx:Nat) (xx:List Value) (y:Value) (my:Nat) (xy:List Value):Prop where
 ra:w.ownsRow B 24 1 a na xa
 rb:w.ownsRow B 24 1 b nb xb
 rx:w.ownsRow B 35 32 x mx xx
 ry:w.ownsRow B 35 32 y my xy
 ap:APT a b x y
 hm:∀ g,(a.ownBlock=some g\/b.ownBlock=some g\/x.ownBlock=some g\/y.ownBlock=some g)->K g\/w0.heap.size<=g
 kp:∀ k,k<w0.heap.size->¬ K k->w.heap[k]?=w0.heap[k]?
 bl:Below B w0 w
 sz:w0.heap.size<=w.heap.size
 bs:B<=w0.heap.size
section
variable {w0 w:World} {B:Nat} {K:Nat->Prop} {a:Value} {na:Nat} {xa:List Value} {b:Value} {nb:Nat} {xb:List Value} {x:Value} {mx:Nat} {xx:List Value} {y:Value} {my:Nat} {xy:List Value}
theorem MIX.swab (h:MIX w0 w B K a na xa b nb xb x mx xx y my xy):MIX w0 w B K b nb xb a na xa x mx xx y my xy:=
 ⟨h.rb,h.ra,h.rx,h.ry,⟨z28 h.ap.ab,h.ap.bx,h.ap.byy,h.ap.ax,h.ap.ay,h.ap.xy⟩,fun g e=>h.hm g (by rcases e with e | e | e <;> simp_all),h.kp,h.bl,h.sz,h.bs⟩
theorem MIX.swxy (h:MIX w0 w B K a na xa b nb xb x mx xx y my xy):MIX w0 w B K a na xa b nb xb y my xy x mx xx:=
 ⟨h.ra,h.rb,h.ry,h.rx,⟨h.ap.ab,h.ap.ay,h.ap.ax,h.ap.byy,h.ap.bx,z28 h.ap.xy⟩,fun g e=>h.hm g (by rcases e with e | e | e | e <;> simp_all),h.kp,h.bl,h.sz,h.bs⟩
theorem MIX.size (h:MIX w0 w B K a na xa b nb xb x mx xx y my xy):B<=w.heap.size:=Nat.le_trans h.bs h.sz
theorem z2v {w w':World} {B s n:Nat} {t:TypeId} {v:Value} {xs:List Value} {r:Option Nat} (h:w.ownsRow B t s v n xs) (hg:w.grownBy w' r) (ho:∀ g,r=some g->v.ownBlock≠some g):w'.ownsRow B t s v n xs:=z0v h fun k e=>hg.block k (h.lt k e).2 fun e2=>ho k e2.symm e
theorem MIX.stepa (h:MIX w0 w B K a na xa b nb xb x mx xx y my xy) {w':World} {a':Value} {na':Nat} {xa':List Value} (hown:w'.ownsRow B 24 1 a' na' xa') (hg:w.grownBy w' a.ownBlock) (hat:∀ g,a'.ownBlock=some g->a.ownBlock=some g\/w.heap.size<=g):MIX w0 w' B K a' na' xa' b nb xb x mx xx y my xy:=by
 have far:∀ {v:Value} {t:TypeId} {s n:Nat} {xs:List Value},w.ownsRow B t s v n xs->(∀ g,a.ownBlock=some g->v.ownBlock≠some g)->∀ g,a'.ownBlock=some g->v.ownBlock≠some g:=fun hr ho g e1 e2=>by
  rcases hat g e1 with h1 | h1
  ·exact ho g h1 e2
  ·have:=(hr.lt g e2).2
   omega
 have hs:=z6e hg;refine ⟨hown,z2v h.rb hg h.ap.ab,z2v h.rx hg h.ap.ax,z2v h.ry hg h.ap.ay,⟨far h.rb h.ap.ab,far h.rx h.ap.ax,far h.ry h.ap.ay,h.ap.bx,h.ap.byy,h.ap.xy⟩,fun g e=>?_,fun k hk hK=>?_,h.bl.grown hg h.size (fun k e=>(h.ra.lt k e).1),Nat.le_trans h.sz hs,h.bs⟩
 ·rcases e with e | e
  ·rcases hat g e with h1 | h1
   ·exact h.hm g (.inl h1)
   ·exact .inr (Nat.le_trans h.sz h1)
  ·exact h.hm g (.inr e)
 ·refine (hg.block k (Nat.lt_of_lt_of_le hk h.sz) fun e=>?_).trans (h.kp k hk hK)
  rcases h.hm k (.inl e.symm) with h1 | h1
  ·exact hK h1
  ·omega
theorem MIX.stepx (h:MIX w0 w B K a na xa b nb xb x mx xx y my xy) {w':World} {x':Value} {mx':Nat} {xx':List Value} (hown:w'.ownsRow B 35 32 x' mx' xx') (hg:w.grownBy w' x.ownBlock) (hat:∀ g,x'.ownBlock=some g->x.ownBlock=some g\/w.heap.size<=g):MIX w0 w' B K a na xa b nb xb x' mx' xx' y my xy:=by
 have far:∀ {v:Value} {t:TypeId} {s n:Nat} {xs:List Value},w.ownsRow B t s v n xs->(∀ g,x.ownBlock=some g->v.ownBlock≠some g)->∀ g,x'.ownBlock=some g->v.ownBlock≠some g:=fun hr ho g e1 e2=>by
  rcases hat g e1 with h1 | h1
  ·exact ho g h1 e2
  ·have:=(hr.lt g e2).2
   omega
 have hs:=z6e hg;refine ⟨z2v h.ra hg (z28 h.ap.ax),z2v h.rb hg (z28 h.ap.bx),hown,z2v h.ry hg h.ap.xy,⟨h.ap.ab,z28 (far h.ra (z28 h.ap.ax)),h.ap.ay,z28 (far h.rb (z28 h.ap.bx)),h.ap.byy,far h.ry h.ap.xy⟩,fun g e=>?_,fun k hk hK=>?_,h.bl.grown hg h.size (fun k e=>(h.rx.lt k e).1),Nat.le_trans h.sz hs,h.bs⟩
 ·rcases e with e | e | e | e
  ·exact h.hm g (.inl e)
  ·exact h.hm g (.inr (.inl e))
  ·rcases hat g e with h1 | h1
   ·exact h.hm g (.inr (.inr (.inl h1)))
   ·exact .inr (Nat.le_trans h.sz h1)
  ·exact h.hm g (.inr (.inr (.inr e)))
 ·refine (hg.block k (Nat.lt_of_lt_of_le hk h.sz) fun e=>?_).trans (h.kp k hk hK)
  rcases h.hm k (.inr (.inr (.inl e.symm))) with h1 | h1
  ·exact hK h1
  ·omega
theorem MIX.alloc (h:MIX w0 w B K a na xa b nb xb x mx xx y my xy) (o:Obj):MIX w0 (w.alloc o) B K a na xa b nb xb x mx xx y my xy:=
 ⟨z1n h.ra o,z1n h.rb o,z1n h.rx o,z1n h.ry o,h.ap,h.hm,fun k hk hK=>(Below.heap_alloc w o k (Nat.lt_of_lt_of_le hk h.sz)).trans (h.kp k hk hK),h.bl.alloc h.size o,by have:=h.sz;simp;omega,h.bs⟩
theorem MIX.drew (h:MIX w0 w B K a na xa b nb xb x mx xx y my xy):MIX w0 w.drew B K a na xa b nb xb x mx xx y my xy:=⟨h.ra,h.rb,h.rx,h.ry,h.ap,h.hm,h.kp,h.bl.drew,h.sz,h.bs⟩
structure OFF (z:Nat) (a b x y:Value):Prop where
 a:a.ownBlock≠some z
 b:b.ownBlock≠some z
 x:x.ownBlock≠some z
 y:y.ownBlock≠some z
theorem MIX.fresh (h:MIX w0 w B K a na xa b nb xb x mx xx y my xy):OFF w.heap.size a b x y:=
 ⟨fun e=>Nat.lt_irrefl _ (h.ra.lt _ e).2,fun e=>Nat.lt_irrefl _ (h.rb.lt _ e).2,fun e=>Nat.lt_irrefl _ (h.rx.lt _ e).2,fun e=>Nat.lt_irrefl _ (h.ry.lt _ e).2⟩
end
theorem zaU {w:World} {v:Value} {z g n c:Nat} (hz:z<w.heap.size) (h:v.ownBlock≠some z) (hat:v.ownBlock=some g\/g=w.heap.size):(Value.slice (some ⟨g,0,none⟩) n c).ownBlock≠some z:=fun e=>by
 have e:g=z:=by simpa [Value.ownBlock] using e
 subst e;rcases hat with h1 | h1
 ·exact h h1
 ·omega
theorem zaV {w w':World} {r:Option Nat} {z:Nat} {c:Array Value} {t:TypeId} (h:Has w z c t) (hg:w.grownBy w' r) (ho:r≠some z):Has w' z c t:=(hg.block z h.lt fun e=>ho e.symm).trans h
theorem z29 {w:World} {B g n c j:Nat} {xs:List Value} {v:Value} (h:w.ownsRow B 24 1 (.slice (some ⟨g,0,none⟩) n c) n xs) (hj:j<n):(∃ u,w.cell? ⟨g,j,none⟩=some u)/\w.frozen? ⟨g,j,none⟩=false/\(w.setCell ⟨g,j,none⟩ v).ownsRow B 24 1 (.slice (some ⟨g,0,none⟩) n c) n (xs.set j v)/\w.grownBy (w.setCell ⟨g,j,none⟩ v) (Value.slice (some ⟨g,0,none⟩) n c).ownBlock:=by
 refine ⟨?_,h.frozenAt j,(h.stored j v).1,(h.stored j v).2⟩;have:=h.cellAt j (by omega);obtain ⟨u,hu⟩:∃ u,xs[j]?=some u:=⟨_,List.getElem?_eq_getElem (by have:=h.1;omega)⟩
 exact ⟨u,this.trans hu⟩
end Go.Proofs.YthmnailmbgondaaGreatDoor

namespace Go.Proofs.YthmnailmbgondaaGreatDoor
open Go.RowKit
set_option maxRecDepth 100000
theorem z4U {ops:Array Oper} {rest:List Oper} {o:Oper} {a:Act} {Q:Exit->Act->World->Prop} (w:World) (hgd:o.guard=none) (s x:Operand)
  (ho:o.op=.call {callee:=.builtin .append,args:=#[s,x],argTypes:=#[22,22]})
  (base:Nat) (v:Value) (n:Nat) (xs:List Value) (hs:a.eval s=v) (hown:w.ownsRow base 35 32 v n xs)
  (b c:Nat) (y:List Int) (hl:y.length=32) (hx:a.eval x=.slice (some ⟨b,0,none⟩) 1 c) (hc:Has w b (z00 y).toArray 35)
  (hb:n<=100000) (hbase:base<=w.heap.size)
  (h:∀ g cap w',w'.ownsRow base 35 32 (.slice (some ⟨g,0,none⟩) (n+1) cap) (n+1) (xs ++ z00 y)->w.grownBy w' v.ownBlock->(v.ownBlock=some g\/g=w.heap.size)->g<w'.heap.size->wpList Tryz.prog ops Q rest (a.put o.dst (.slice (some ⟨g,0,none⟩) (n+1) cap)) w'):wpList Tryz.prog ops Q (o :: rest) a w:=by
 obtain ⟨i,hi,hz,hs1,hby⟩:=info_parts z18;refine wpList_append_lies w hgd s x 22 ho base 35 i (.agg ZARR) 32 32 Tryz.underlying22 hi hz hs1 hby rfl (by decide) v n xs hs hown ⟨b,0,none⟩ 1 c (z00 y) hx (by rw [z00,List.length_map,hl]) ?_ (z1h y) (by decide) (by simp only [maxLen];omega) (by omega) hbase w.heap.size rfl h;intro j u hj;rw [z0K,Nat.zero_add,hc.cell,List.getElem?_toArray];exact hj
end Go.Proofs.YthmnailmbgondaaGreatDoor
