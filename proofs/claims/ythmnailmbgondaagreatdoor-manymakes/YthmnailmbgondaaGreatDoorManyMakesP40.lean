/- ManyMakes: part 40. -/
import Derived.Test.YthmnailmbgondaaGreatDoorManyMakesP39
set_option maxHeartbeats 8000000
namespace Go.Proofs.YthmnailmbgondaaGreatDoor
open Go.RowKit
set_option maxRecDepth 100000
theorem za2 {ops:Array Oper} {rest:List Oper} {o:Oper} {a:Act} {w:World} {Q:Exit->Act->World->Prop} (hw:Region.wanted o (yielded ops a.tmps)=true) (ty:TypeId) (x:Operand) (ho:o.op=.load ty x)
  (b off:Nat) (hx:a.eval x=.pointer (some ⟨b,off,none⟩)) (cs:List Value) (d:TypeDesc) (hc:w.rangeAt b off cs) (hu:Tryz.prog.underlying ty=some d) (hd:d.isRow=true) (hi:(Tryz.prog.info? ty).map (·.size)=some cs.length)
  (h:wpList Tryz.prog ops Q rest (a.put o.dst (.agg cs.toArray)) w):wpList Tryz.prog ops Q (o :: rest) a w:=by
 simp only [wpList];rw [if_pos hw];exact .inl (wp_load_mid ty x ho b off hx cs d hc hu hd hi h)
theorem zfk {ops:Array Oper} {rest:List Oper} {o:Oper} {a:Act} {w w':World} {Q:Exit->Act->World->Prop} {v:Value} (hw:Region.wanted o (yielded ops a.tmps)=true) (hrun:(execOp a.eval o).run Tryz.prog w=.ok (.value v) w') (h:wpList Tryz.prog ops Q rest (a.put o.dst v) w'):wpList Tryz.prog ops Q (o :: rest) a w:=by
 simp only [wpList];rw [if_pos hw];refine .inl ?_;unfold Oper.wp;rw [hrun];exact h
def zhG (a b x y:Value) (k:Nat):Prop:=¬ OFF k a b x y
theorem z7w {xs:List Value} {u:Value} {n:Nat} (hl:xs.length=n):OVER xs u n ++ [u]=List.replicate (n+1) u:=by
 have:=zeI xs u;rw [hl] at this;rw [this,List.replicate_succ']
theorem zfl (N1 N2:Int) (a b x y:Option Addr) (n m ca cb cx cy B:Nat) (xa xb xx xy:List Value) (w:World) (hB:B<=w.heap.size) (ra:w.ownsRow B 24 1 (.slice a n ca) n xa) (rb:w.ownsRow B 24 1 (.slice b n cb) n xb) (rx:w.ownsRow B 35 32 (.slice x m cx) m xx) (ry:w.ownsRow B 35 32 (.slice y m cy) m xy)
    (hap:APT (.slice a n ca) (.slice b n cb) (.slice x m cx) (.slice y m cy)) (hn:n<=90000) (hm:m<=90000):
    Calls Tryz.prog 25 #[.agg #[.int .u64 N1,.slice a n ca,.slice x m cx],.agg #[.int .u64 N2,.slice b n cb,.slice y m cy]] w fun e w'=>e=.returned (.bool true)/\Below B w w'/\∀ k,k<w.heap.size->OFF k (.slice a n ca) (.slice b n cb) (.slice x m cx) (.slice y m cy)->w'.heap[k]?=w.heap[k]?:=by
  obtain ⟨w1,e1⟩:∃ w1,w.alloc (.cells #[.int .u64 N1,.slice a n ca,.slice x m cx] 60)=w1:=⟨_,rfl⟩
  obtain ⟨w2,e2⟩:∃ w2,w1.alloc (.cells #[.int .u64 N2,.slice b n cb,.slice y m cy] 60)=w2:=⟨_,rfl⟩
  have s1:w1.heap.size=w.heap.size+1:=by rw [<-e1];simp
  have s2:w2.heap.size=w.heap.size+2:=by rw [<-e2];simp;omega
  have h1:Has w2 w.heap.size #[.int .u64 N1,.slice a n ca,.slice x m cx] 60:=by rw [<-e2,<-e1];exact (Has.new w _ _).alloc _
  have h2:Has w2 w1.heap.size #[.int .u64 N2,.slice b n cb,.slice y m cy] 60:=by rw [<-e2];exact Has.new w1 _ _
  have hb2:Below B w w2:=by rw [<-e2,<-e1];exact ((Below.refl _ _).alloc hB _).alloc (by simp;omega) _
  have up:∀ {t:TypeId} {s k:Nat} {v:Value} {l:List Value},w.ownsRow B t s v k l->w2.ownsRow B t s v k l:=fun h=>by rw [<-e2,<-e1];exact z1n (z1n h _) _
  obtain ⟨K,hK⟩:∃ K,K=zhG (.slice a n ca) (.slice b n cb) (.slice x m cx) (.slice y m cy):=⟨_,rfl⟩
  have off:∀ k,w.heap.size<=k->¬ K k:=fun k hk h=>by
    rw [hK] at h;exact h ⟨fun e=>by have:=(ra.lt k e).2;omega,fun e=>by have:=(rb.lt k e).2;omega,fun e=>by have:=(rx.lt k e).2;omega,fun e=>by have:=(ry.lt k e).2;omega⟩
  have M0:MIX w2 w2 B K (.slice a n ca) n xa (.slice b n cb) n xb (.slice x m cx) m xx (.slice y m cy) m xy:=by
    refine ⟨up ra,up rb,up rx,up ry,hap,fun g e=>.inl ?_,fun _ _ _=>rfl,Below.refl _ _,Nat.le_refl _,by omega⟩;rw [hK];rintro ⟨q1,q2,q3,q4⟩;rcases e with e | e | e | e <;> contradiction
  have HH:Aside (¬ K w.heap.size/\¬ K w1.heap.size/\w.heap.size<w2.heap.size/\w1.heap.size<w2.heap.size/\xa.length=n/\xb.length=n/\xx.length=32*m/\xy.length=32*m/\n<=90000/\m<=90000):=⟨off _ (Nat.le_refl _),off _ (by omega),by omega,by omega,by have:=ra.1;omega,by have:=rb.1;omega,by have:=rx.1;omega,by have:=ry.1;omega,hn,hm⟩
  have CC:Aside ((w2.cell? ⟨w.heap.size,1,none⟩=some (.slice a n ca)/\w2.cell? ⟨w1.heap.size,1,none⟩=some (.slice b n cb))/\(w2.cell? ⟨w.heap.size,2,none⟩=some (.slice x m cx)/\w2.cell? ⟨w1.heap.size,2,none⟩=some (.slice y m cy))):=⟨⟨h1.cell 1,h2.cell 1⟩,⟨h1.cell 2,h2.cell 2⟩⟩
  have KP:Aside (∀ {a':Value} {na':Nat} {xa':List Value} {b':Value} {nb':Nat} {xb':List Value} {x':Value} {mx':Nat} {xx':List Value} {y':Value} {my':Nat} {xy':List Value} {W:World},MIX w2 W B K a' na' xa' b' nb' xb' x' mx' xx' y' my' xy'->Below B w W/\∀ k,k<w.heap.size->OFF k (.slice a n ca) (.slice b n cb) (.slice x m cx) (.slice y m cy)->W.heap[k]?=w.heap[k]?):=fun h=>by
    refine ⟨hb2.trans h.bl,fun k hk ho=>?_⟩;refine (h.kp k (by omega) (by rw [hK];exact fun h=>h ho)).trans ?_;rw [<-e2,<-e1];rw [Below.heap_alloc _ _ _ (by simp;omega),Below.heap_alloc _ _ _ (by omega)]
  have CE:Aside (∀ {a':Value} {na':Nat} {xa':List Value} {b':Value} {nb':Nat} {xb':List Value} {x':Value} {mx':Nat} {xx':List Value} {y':Value} {my':Nat} {xy':List Value} {W:World},MIX w2 W B K a' na' xa' b' nb' xb' x' mx' xx' y' my' xy'->W.cell? ⟨w.heap.size,1,none⟩=some (.slice a n ca)/\W.cell? ⟨w1.heap.size,1,none⟩=some (.slice b n cb)/\W.cell? ⟨w.heap.size,2,none⟩=some (.slice x m cx)/\W.cell? ⟨w1.heap.size,2,none⟩=some (.slice y m cy)):=fun h=>
    ⟨(World.cell?_of_block (w:=w2) (by exact h.kp _ HH.out.2.2.1 HH.out.1)).trans CC.out.1.1,(World.cell?_of_block (w:=w2) (by exact h.kp _ HH.out.2.2.2.1 HH.out.2.1)).trans CC.out.1.2,(World.cell?_of_block (w:=w2) (by exact h.kp _ HH.out.2.2.1 HH.out.1)).trans CC.out.2.1,(World.cell?_of_block (w:=w2) (by exact h.kp _ HH.out.2.2.2.1 HH.out.2.1)).trans CC.out.2.2⟩
  have MM:Aside (MIX w2 w2 B K (.slice a n ca) n xa (.slice b n cb) n xb (.slice x m cx) m xx (.slice y m cy) m xy):=M0;clear hB ra rb rx ry hap hn hm s1 s2 h1 h2 hb2 up off M0 hK;go_enter Tryz.func25,Tryz.ntmps25;go_wp2_with fail
  clear e1 e2;go_loopg [5] n (fun q s5 wx=>∃ j:Nat,s5=.int .i64 (j:Int)/\Aside (j+q=n/\MIX w2 wx B K (.slice a n ca) n (OVER xa (.int .u64 201) j) (.slice b n cb) n (OVER xb (.int .u64 202) j) (.slice x m cx) m xx (.slice y m cy) m xy))
  case atStart=>exact ⟨0,rfl,by omega,by rw [z7g,z7g];exact MM.out⟩
  case round=>
    obtain ⟨j,rfl,A⟩:=hrel;clear MM;obtain ⟨y1,y2,y3,y4⟩:=CE.out A.out.2;cases gk with
    | succ q=>
      have hjn:j<n:=by have:=A.out.1;omega
      have hlt:(j:Int)<(n:Int):=by omega
      obtain ⟨ga,rfl⟩:=z2u A.out.2.ra (by omega);obtain ⟨gb,rfl⟩:=z2u A.out.2.rb (by omega);have ej:wrap64 ((j:Int)+1)=((j+1:Nat):Int):=by have:=HH.out.2.2.2.2.2.2.2.2.1;unfold wrap64;omega
      have S1:=z7h (u:=.int .u64 201) (show j<xa.length by have:=HH.out.2.2.2.2.1;omega);have S2:=z7h (u:=.int .u64 202) (show j<xb.length by have:=HH.out.2.2.2.2.2.1;omega);have NX:Aside (j+1+q=n/\(OVER xa (.int .u64 201) j).set j (.int .u64 201)=OVER xa (.int .u64 201) (j+1)/\(OVER xb (.int .u64 202) j).set j (.int .u64 202)=OVER xb (.int .u64 202) (j+1)):=⟨by have:=A.out.1;clear ej;omega,S1,S2⟩
      clear S1 S2;go_upto_region 4 with fail
      refine zhl wr w2 B K w.heap.size w1.heap.size HH.out.1 HH.out.2.1 HH.out.2.2.1 HH.out.2.2.2.1 ga gb n ca cb j hjn hlt _ _ _ _ _ _ _ _ CC.out.1.1 CC.out.1.2 A.out.2 (fun _ _ _ _ _ h=>h) ?_;intro w3 h3;have Z:Aside (j+1+q=n/\MIX w2 w3 B K (.slice (some ⟨ga,0,none⟩) n ca) n (OVER xa (.int .u64 201) (j+1)) (.slice (some ⟨gb,0,none⟩) n cb) n (OVER xb (.int .u64 202) (j+1)) (.slice x m cx) m xx (.slice y m cy) m xy):=⟨NX.out.1,by rw [NX.out.2.1,NX.out.2.2] at h3;exact h3⟩
      clear h3 A NX y1 y2 y3 y4;dsimp only;go_wp2_with fail
      go_roundg q
      case measure=>exact Nat.lt_succ_self _
      case rel=>exact ⟨j+1,by first | rfl | (rw [ej]),Z.out⟩
    | zero=>
      obtain rfl:j=n:=by have:=A.out.1;omega
      have hlt:¬ (j:Int)<(j:Int):=by omega
      have M1:Aside (MIX w2 wr B K (.slice a j ca) j (OVER xa (.int .u64 201) j) (.slice b j cb) j (OVER xb (.int .u64 202) j) (.slice x m cx) m xx (.slice y m cy) m xy):=A.out.2;clear A;go_wp2_with fail
      clear y1 y2 y3 y4;go_loopg [6] m (fun q s6 wx=>∃ i:Nat,s6=.int .i64 (i:Int)/\Aside (i+q=m/\MIX w2 wx B K (.slice a j ca) j (OVER xa (.int .u64 201) j) (.slice b j cb) j (OVER xb (.int .u64 202) j) (.slice x m cx) m (MKP xx 201 i) (.slice y m cy) m (MKP xy 202 i)))
      case atStart=>exact ⟨0,rfl,by omega,by rw [z8C,z8C];exact M1.out⟩
      case round=>
        obtain ⟨i,rfl,A⟩:=hrel;clear M1;obtain ⟨y1,y2,y3,y4⟩:=CE.out A.out.2;cases gk with
        | succ q=>
          have him:i<m:=by have:=A.out.1;omega
          have hlt2:(i:Int)<(m:Int):=by omega
          obtain ⟨gx,rfl⟩:=z2u A.out.2.rx (by omega);obtain ⟨gy,rfl⟩:=z2u A.out.2.ry (by omega);have ei:wrap64 ((i:Int)+1)=((i+1:Nat):Int):=by have:=HH.out.2.2.2.2.2.2.2.2.2;unfold wrap64;omega
          have NX:Aside (i+1+q=m/\z1j (MKP xx 201 i) (i*32) (z00 (MK 201))=MKP xx 201 (i+1)/\z1j (MKP xy 202 i) (i*32) (z00 (MK 202))=MKP xy 202 (i+1)):=⟨by have:=A.out.1;clear ei;omega,z8D HH.out.2.2.2.2.2.2.1 him 201,z8D HH.out.2.2.2.2.2.2.2.1 him 202⟩
          go_upto_region 8 with fail
          refine zhm wr w2 B K w.heap.size w1.heap.size HH.out.1 HH.out.2.1 HH.out.2.2.1 HH.out.2.2.2.1 gx gy m cx cy i him hlt2 _ _ _ _ _ _ _ _ CC.out.2.1 CC.out.2.2 A.out.2 (fun _ _ _ _ _ h=>h) ?_;intro w3 h3;have Z:Aside (i+1+q=m/\MIX w2 w3 B K (.slice a j ca) j (OVER xa (.int .u64 201) j) (.slice b j cb) j (OVER xb (.int .u64 202) j) (.slice (some ⟨gx,0,none⟩) m cx) m (MKP xx 201 (i+1)) (.slice (some ⟨gy,0,none⟩) m cy) m (MKP xy 202 (i+1))):=⟨NX.out.1,by rw [NX.out.2.1,NX.out.2.2] at h3;exact h3⟩
          clear h3 A NX y1 y2 y3 y4;dsimp only;generalize (z00 (MK 201)).toArray=U1;generalize (z00 (MK 202)).toArray=U2;go_wp2_with fail
          go_roundg q
          case measure=>exact Nat.lt_succ_self _
          case rel=>exact ⟨i+1,by first | rfl | (rw [ei]),Z.out⟩
        | zero=>
          obtain rfl:i=m:=by have:=A.out.1;omega
          have hlt2:¬ (i:Int)<(i:Int):=by omega
          have M2:Aside (MIX w2 wr B K (.slice a j ca) j (OVER xa (.int .u64 201) j) (.slice b j cb) j (OVER xb (.int .u64 202) j) (.slice x i cx) i (z00 (MKS 201 i)) (.slice y i cy) i (z00 (MKS 202 i))):=by
            have h3:=A.out.2;rw [zaE HH.out.2.2.2.2.2.2.1,zaE HH.out.2.2.2.2.2.2.2.1] at h3;exact h3
          clear A;go_upto_region 9 with fail
          clear y1 y2 y3 y4;refine zhn wr w2 B K w.heap.size w1.heap.size HH.out.1 HH.out.2.1 HH.out.2.2.1 HH.out.2.2.2.1 a b j ca cb (by have:=HH.out.2.2.2.2.2.2.2.2.1;omega) _ _ _ _ _ _ _ _ CC.out.1.1 CC.out.1.2 M2.out (fun _ _ _ _ _ h=>h) ?_;intro z1 g1 q1 z2 g2 q2 w3 ⟨h3,_,_⟩
          have M3:Aside (MIX w2 w3 B K (.slice (some ⟨g1,0,none⟩) (j+1) q1) (j+1) (List.replicate (j+1) (.int .u64 201)) (.slice (some ⟨g2,0,none⟩) (j+1) q2) (j+1) (List.replicate (j+1) (.int .u64 202)) (.slice x i cx) i (z00 (MKS 201 i)) (.slice y i cy) i (z00 (MKS 202 i))):=by
            rw [z7w HH.out.2.2.2.2.1,z7w HH.out.2.2.2.2.2.1] at h3;exact h3
          clear h3 M2;dsimp only;go_upto_region 10 with fail
          refine zgs w3 w2 B K w.heap.size w1.heap.size HH.out.1 HH.out.2.1 HH.out.2.2.1 HH.out.2.2.2.1 x y i cx cy (by have:=HH.out.2.2.2.2.2.2.2.2.2;omega) _ _ _ _ _ _ _ _ CC.out.2.1 CC.out.2.2 M3.out (fun _ _ _ _ _ h=>h) ?_;intro z3 g3 q3 z4 g4 q4 w4 ⟨h4,_,_⟩
          have M4:Aside (MIX w2 w4 B K (.slice (some ⟨g1,0,none⟩) (j+1) q1) (j+1) (List.replicate (j+1) (.int .u64 201)) (.slice (some ⟨g2,0,none⟩) (j+1) q2) (j+1) (List.replicate (j+1) (.int .u64 202)) (.slice (some ⟨g3,0,none⟩) (i+1) q3) (i+1) (z00 (MKS 201 (i+1))) (.slice (some ⟨g4,0,none⟩) (i+1) q4) (i+1) (z00 (MKS 202 (i+1)))):=by
            rw [<-z0x,<-z0x] at h4;exact h4
          have FN:Aside (Below B w w4/\∀ k,k<w.heap.size->OFF k (.slice a j ca) (.slice b j cb) (.slice x i cx) (.slice y i cy)->w4.heap[k]?=w.heap[k]?):=KP.out M4.out;have R4:Aside (w4.ownsRow B 24 1 (.slice (some ⟨g1,0,none⟩) (j+1) q1) (j+1) (List.replicate (j+1) (.int .u64 201))/\w4.ownsRow B 24 1 (.slice (some ⟨g2,0,none⟩) (j+1) q2) (j+1) (List.replicate (j+1) (.int .u64 202))/\w4.ownsRow B 35 32 (.slice (some ⟨g3,0,none⟩) (i+1) q3) (i+1) (z00 (MKS 201 (i+1)))/\w4.ownsRow B 35 32 (.slice (some ⟨g4,0,none⟩) (i+1) q4) (i+1) (z00 (MKS 202 (i+1)))/\j<=90000/\i<=90000):=⟨M4.out.ra,M4.out.rb,M4.out.rx,M4.out.ry,HH.out.2.2.2.2.2.2.2.2.1,HH.out.2.2.2.2.2.2.2.2.2⟩
          clear h4 M3 M4 KP CE CC HH;dsimp only;generalize (z00 (MK 201)).toArray=U1;generalize (z00 (MK 202)).toArray=U2;go_wp2_with fail
          go_loopg [11] (j+1) (fun q s11 wx=>∃ t:Nat,s11=.int .i64 (t:Int)/\Aside (t+q=j+1)/\wx=w4)
          case atStart=>exact ⟨0,rfl,by show 0+(j+1)=j+1;omega,rfl⟩
          case round=>
            obtain ⟨t,rfl,A,rfl⟩:=hrel;cases gk with
            | succ q=>
              have hlt3:(t:Int)<(j:Int)+1:=by have:=A.out;omega
              have hltn:t<j+1:=by have:=A.out;omega
              have z1:wr.cell? ⟨g1,t,none⟩=some (.int .u64 201):=by
                have:=R4.out.1.cellAt t (by omega);rw [this,List.getElem?_replicate,if_pos hltn]
              have z2:wr.cell? ⟨g2,t,none⟩=some (.int .u64 202):=by
                have:=R4.out.2.1.cellAt t (by omega);rw [this,List.getElem?_replicate,if_pos hltn]
              have et:wrap64 ((t:Int)+1)=((t+1:Nat):Int):=by have:=R4.out.2.2.2.2.1;unfold wrap64;omega
              have Z:Aside (t+1+q=j+1):=by have:=A.out;show t+1+q=j+1;clear et;omega
              clear A hltn;go_wp2_with fail
              go_roundg q
              case measure=>exact Nat.lt_succ_self _
              case rel=>exact ⟨t+1,by first | rfl | (rw [et]),Z.out,rfl⟩
            | zero=>
              have ht:(t:Int)=(j:Int)+1:=by have:=A.out;omega
              have hlt3:¬ (t:Int)<(j:Int)+1:=by omega
              have hlt4:¬ t<j+1:=by omega
              clear A ht;go_wp2_with fail
              go_loopg [12] (i+1) (fun q s12 wx=>∃ t:Nat,s12=.int .i64 (t:Int)/\Aside (t+q=i+1)/\wx=wr)
              case atStart=>exact ⟨0,rfl,by show 0+(i+1)=i+1;omega,rfl⟩
              case round=>
                obtain ⟨t,rfl,A,rfl⟩:=hrel;cases gk with
                | succ q=>
                  have hlt5:(t:Int)<(i:Int)+1:=by have:=A.out;omega
                  have hltn:t<i+1:=by have:=A.out;omega
                  have ht1:wr.rangeAt g3 (t*32) (z00 (MK 201)):=fun u v hv=>by
                    have hu:u<32:=(List.getElem?_eq_some_iff.1 hv).1;have:=R4.out.2.2.1.cellAt (t*32+u) (by omega);rw [this,z0u _ _ (by rw [z1z];omega),show t*32+u=32*t+u by omega,<-z8y hu,zdg 201 hltn,<-hv,z0u _ _ (by rw [z1k];exact hu)]
                  have ht2:wr.rangeAt g4 (t*32) (z00 (MK 202)):=fun u v hv=>by
                    have hu:u<32:=(List.getElem?_eq_some_iff.1 hv).1;have:=R4.out.2.2.2.1.cellAt (t*32+u) (by omega);rw [this,z0u _ _ (by rw [z1z];omega),show t*32+u=32*t+u by omega,<-z8y hu,zdg 202 hltn,<-hv,z0u _ _ (by rw [z1k];exact hu)]
                  have nq1:∀ x y (W:World),(do eqGuard .neq 35 x y (.agg (z00 (MK 201)).toArray) (.agg (z00 (MK 201)).toArray);binOp .neq 35 (.agg (z00 (MK 201)).toArray) (.agg (z00 (MK 201)).toArray):Sem Value).run Tryz.prog W=.ok (.bool false) W:=fun x y W=>z7j (MK 201) (z1k 201) x y W;have nq2:∀ x y (W:World),(do eqGuard .neq 35 x y (.agg (z00 (MK 202)).toArray) (.agg (z00 (MK 202)).toArray);binOp .neq 35 (.agg (z00 (MK 202)).toArray) (.agg (z00 (MK 202)).toArray):Sem Value).run Tryz.prog W=.ok (.bool false) W:=fun x y W=>z7j (MK 202) (z1k 202) x y W;have et:wrap64 ((t:Int)+1)=((t+1:Nat):Int):=by have:=R4.out.2.2.2.2.2;unfold wrap64;omega
                  have Z:Aside (t+1+q=i+1):=by have:=A.out;show t+1+q=i+1;clear et;omega
                  clear A hltn
                  go_wp2_with (first
                    | (refine wpList_load_mid rfl 35 (.tmp 103) rfl g3 (t*32) rfl (z00 (MK 201)) _ ht1 Tryz.underlying35 rfl (z0w (z1k 201)) ?_)
                    | (refine za2 (by rfl) 35 (.tmp 110) rfl g4 (t*32) rfl (z00 (MK 202)) _ ht2 Tryz.underlying35 rfl (z0w (z1k 202)) ?_)
                    | (rw [<-zdf 201];refine wpList_plain rfl (fun K hK=>zdh (z08 (nq1 _ _ _)) (hK _ _ ?_)))
                    | (rw [<-zdf 202];refine zfk (by rfl) (z08 (nq2 _ _ _)) ?_))
                  go_roundg q
                  case measure=>exact Nat.lt_succ_self _
                  case rel=>exact ⟨t+1,by first | rfl | (rw [et]),Z.out,rfl⟩
                | zero=>
                  have ht:(t:Int)=(i:Int)+1:=by have:=A.out;omega
                  have hlt5:¬ (t:Int)<(i:Int)+1:=by omega
                  have hlt6:¬ t<i+1:=by omega
                  clear A ht;go_wp2_with fail
                  go_ret;exact ⟨rfl,FN.out⟩
theorem z5v (a b:Option Addr) (n ca cb:Nat) (L:List Nat) (hl:L.length=n) (hn:n<=2 ^ 24) (w:World) (hA:NUML w a L) (hB:NUML w b L):
  Calls Tryz.prog 52 #[.slice a n ca,.slice b n cb] w fun e w'=>e=.returned (.bool true)/\Below w.heap.size w w':=by
 rcases Nat.eq_zero_or_pos n with h | h
 ·subst h
  clear hA hB hl;go_enter Tryz.func52,Tryz.ntmps52;go_wp2;refine wp_loop_rounds 1 ?_;rw [rounds_succ];go_wp2;go_ret;exact ⟨rfl,Below.refl _ _⟩
 ·obtain ⟨ga,oa,rfl,la,hca⟩:=hA (by omega)
  obtain ⟨gb,ob,rfl,lb,hcb⟩:=hB (by omega);have HC:Aside ((∀ (i x:Nat),L[i]?=some x->w.cell? ⟨ga,oa+i,none⟩=some (.int .u64 (x:Int)))/\(∀ (i x:Nat),L[i]?=some x->w.cell? ⟨gb,ob+i,none⟩=some (.int .u64 (x:Int)))/\ga<w.heap.size/\gb<w.heap.size/\L.length=n/\n<=2 ^ 24):=⟨hca,hcb,la,lb,hl,hn⟩
  clear hA hB hca hcb la lb hl hn;go_enter Tryz.func52,Tryz.ntmps52;go_wp2;go_loopg [5] n (fun g s5 wx=>∃ k:Nat,k+g=n/\s5=.int .i64 k/\Aside (Below w.heap.size w wx))
  case atStart=>exact ⟨0,by omega,rfl,Below.refl _ _⟩
  case round=>
   obtain ⟨k,hkg,rfl,A⟩:=hrel;cases gk with
   | zero=>
     obtain rfl:k=n:=by omega
     go_wp2;go_ret;exact ⟨rfl,A.out⟩
   | succ g=>
     have hlt:(k:Int)<(n:Int):=by omega
     obtain ⟨x,ex⟩:∃ x,L[k]?=some x:=⟨_,List.getElem?_eq_getElem (by have:=HC.out.2.2.2.2.1;omega)⟩
     have h1:wr.cell? ⟨ga,oa+k,none⟩=some (.int .u64 (x:Int)):=(A.out.cell (by exact HC.out.2.2.1)).trans (HC.out.1 k x ex);have h2:wr.cell? ⟨gb,ob+k,none⟩=some (.int .u64 (x:Int)):=(A.out.cell (by exact HC.out.2.2.2.1)).trans (HC.out.2.1 k x ex);have hk24:k<2 ^ 24:=by have:=HC.out.2.2.2.2.2;omega
     clear ex;go_wp2;go_quiet (fail)
     go_wp2;go_roundg g
     case measure=>omega
     case rel=>exact ⟨k+1,by omega,by go_num,below_drewN A.out _⟩
theorem z7x (N:Int) (a b:Option Addr) (n ca cb:Nat) (L:List Nat) (x y:Option Addr) (m k cx cy:Nat) (l:List Int) (hl:L.length=n) (hn:n<=2 ^ 24) (w:World) (hA:NUML w a L) (hB:NUML w b L) (hX:Flat w x m l) (hY:Flat w y k l) (hm:m<=1000000):
  Calls Tryz.prog 24 #[.agg #[.int .u64 N,.slice a n ca,.slice x m cx],.agg #[.int .u64 N,.slice b n cb,.slice y k cy]] w fun e w'=>e=.returned (.bool true)/\Below w.heap.size w w':=by
 obtain ⟨w1,e1⟩:∃ w1,w.alloc (.cells #[.int .u64 N,.slice a n ca,.slice x m cx] 60)=w1:=⟨_,rfl⟩
 obtain ⟨w2,e2⟩:∃ w2,w1.alloc (.cells #[.int .u64 N,.slice b n cb,.slice y k cy] 60)=w2:=⟨_,rfl⟩
 have hb2:Below w.heap.size w w2:=by rw [<-e2,<-e1];exact ((Below.refl _ _).alloc (Nat.le_refl _) _).alloc (by simp) _
 have h1:Has w2 w.heap.size #[.int .u64 N,.slice a n ca,.slice x m cx] 60:=by rw [<-e2,<-e1];exact (Has.new w _ _).alloc _
 have h2:Has w2 w1.heap.size #[.int .u64 N,.slice b n cb,.slice y k cy] 60:=by rw [<-e2];exact Has.new w1 _ _
 have x0:=h1.cell 0;have x1:=h1.cell 1;have y0:=h2.cell 0;have y1:=h2.cell 1;have cs:=z5v a b n ca cb L hl hn w2 (hA.keep hb2) (hB.keep hb2);have HA:Aside (Has w2 w.heap.size #[.int .u64 N,.slice a n ca,.slice x m cx] 60/\Has w2 w1.heap.size #[.int .u64 N,.slice b n cb,.slice y k cy] 60/\Below w.heap.size w w2/\Flat w x m l/\Flat w y k l/\m<=1000000):=⟨h1,h2,hb2,hX,hY,hm⟩
 clear hl hn hA hB hX hY hm hb2 h1 h2;go_enter Tryz.func24,Tryz.ntmps24;go_wp2_with fail
 refine cs.mono ?_;rintro e w3 ⟨rfl,hb3⟩;have k1:=HA.out.1.keep hb3;have k2:=HA.out.2.1.keep hb3;have x2:=k1.cell 2;have y2:=k2.cell 2;have B3:Aside (Below w.heap.size w w3):=HA.out.2.2.1.trans (hb3.mono HA.out.2.2.1.size);have ch:=z7F x y m k cx cy l l w3 (HA.out.2.2.2.1.below B3.out) (HA.out.2.2.2.2.1.below B3.out) HA.out.2.2.2.2.2;rw [decide_eq_true rfl] at ch;clear cs hb3 k1 k2 x0 x1 y0 y1 e1 e2 HA;go_wp2_with fail
 refine ch.mono ?_;rintro e w4 ⟨rfl,hb4⟩;have B4:Aside (Below w.heap.size w w4):=B3.out.trans (hb4.mono B3.out.size);clear ch hb4 B3;go_wp2_with fail
 go_ret;exact ⟨rfl,B4.out⟩
def FSTE (EN:Nat->Int):List Nat->Int
 | []=>0
 | p :: P=>if EN p=0 then FSTE EN P else EN p
theorem z4V {EN:Nat->Int}:∀ {P:List Nat},(∀ p∈P,EN p=0)->FSTE EN P=0
 | [],_=>rfl
 | p :: P,h=>by rw [FSTE,if_pos (h p (List.mem_cons_self ..))];exact z4V fun q hq=>h q (List.mem_cons_of_mem _ hq)
theorem z6T {EN:Nat->Int}:∀ {P:List Nat} {j p:Nat},P[j]?=some p->(∀ (i q:Nat),i<j->P[i]?=some q->EN q=0)->EN p≠0->FSTE EN P=EN p
 | [],j,p,h,_,_=>by simp at h
 | x :: P,0,p,h,_,hn=>by
   simp only [List.getElem?_cons_zero,Option.some.injEq] at h;subst h;rw [FSTE,if_neg hn]
 | x :: P,j+1,p,h,hz,hn=>by
   rw [FSTE,if_pos (hz 0 x (by omega) rfl)];exact z6T (by simpa using h) (fun i q hi hq=>hz (i+1) q (by omega) (by simpa using hq)) hn
theorem zgt {w w':World} {l:List RND} {P:List Nat} {e:Ending} (h:RAT w l P e w'):Below w.heap.size w w'/\((FSTE (fun p=>(RGOT l p).1) P≠0/\e=.returned (.tuple #[.slice none 0 0,.int .i64 (FSTE (fun p=>(RGOT l p).1) P)]))\/(FSTE (fun p=>(RGOT l p).1) P=0/\∃ a c,e=.returned (.tuple #[.slice a P.length c,.int .i64 0])/\w'.ownsRow w.heap.size 35 32 (.slice a P.length c) P.length (z00 (P.flatMap fun p=>(RGOT l p).2)))):=by
 obtain ⟨hb,h⟩:=h;refine ⟨hb,?_⟩;rcases h with ⟨hz,h⟩ | ⟨j,p,h1,h2,h3,rfl⟩
 ·exact .inr ⟨z4V hz,h⟩
 ·have e:=z6T (EN:=fun p=>(RGOT l p).1) h1 h2 h3
  exact .inl ⟨by rw [e];exact h3,by rw [e]⟩
def WNT (EN:Nat->Int) (E:Int) (P:List Nat):Int:=if E=0 then FSTE EN P else E
theorem z2w {w w':World} {G:Nat->List Int} {EN:Nat->Int} {E:Int} {P L:List Nat} {N:Nat} {e:Ending} (h:z56 w G EN E P N L e w'):Below w.heap.size w w'/\((WNT EN E P≠0/\e=.returned (.tuple #[.agg #[.int .u64 0,.slice none 0 0,.slice none 0 0],.int .i64 (WNT EN E P)]))\/
   (WNT EN E P=0/\∃ a c a2 c2,e=.returned (.tuple #[.agg #[.int .u64 (N:Int),.slice a L.length c,.slice a2 P.length c2],.int .i64 0])/\w'.ownsRow w.heap.size 24 1 (.slice a L.length c) L.length (z06 L)/\w'.ownsRow w.heap.size 35 32 (.slice a2 P.length c2) P.length (z00 (GCAT G P)))):=by
  obtain ⟨hb,h⟩:=h;refine ⟨hb,?_⟩;unfold WNT;rcases h with ⟨h0,rfl⟩ | ⟨h0,hz,h⟩ | ⟨h0,j,p,h1,h2,h3,rfl⟩
  · rw [if_neg h0]
    exact .inl ⟨h0,rfl⟩
  · rw [if_pos h0,z4V hz]
    exact .inr ⟨rfl,h⟩
  · rw [if_pos h0,z6T h1 h2 h3]
    exact .inl ⟨h3,rfl⟩
theorem zgu (L:List Nat) (N:Nat):∀ p∈PLCA L N,p<2 ^ 64:=fun p hp=>by
 by_cases hr:z0h L N=0
 ·obtain ⟨r1,_,_⟩:=z2t hr
  have hP:PLCA L N=PLCS (NSPS (TPS N) L):=by
   unfold PLCA;rw [if_pos hr,z4g];rfl
  rw [hP] at hp;obtain ⟨s,hs,rfl⟩:=z8Q hp;have hl:=zaz (zaT (TPS N) 0 N L (z8V (by omega)) s hs);have hb2:z01 N<=2*N:=by unfold z01;omega
  omega
 ·have hP:PLCA L N=[]:=if_neg hr
  rw [hP] at hp;cases hp
structure MTWO (w W:World) (g1 B b20 b22 b24:Nat) (NA:Int) (nA K:Nat) (LA:List Nat) (nd:List Int) (a1 a2 y1 y2 x1 x2:Option Addr) (c1 c2 d1 d2 e1 e2:Nat):Prop where
 ha:Has W b20 #[.int .u64 NA,.slice a1 nA c1,.slice a2 K c2] 60
 hb:Has W b22 #[.int .u64 NA,.slice y1 nA d1,.slice y2 K d2] 60
 hx:Has W b24 #[.int .u64 NA,.slice x1 nA e1,.slice x2 K e2] 60
 oa:W.ownsRow B 24 1 (.slice a1 nA c1) nA (z06 LA)
 on:W.ownsRow B 35 32 (.slice a2 K c2) K (z00 nd)
 pa:W.ownsRow B 24 1 (.slice y1 nA d1) nA (z06 LA)
 pn:W.ownsRow B 35 32 (.slice y2 K d2) K (z00 nd)
 xa:NUML W x1 LA
 xn:Flat W x2 K nd
 xo:(0<LA.length->∀ x,x1=some x->x.block≠g1)/\∀ x,x2=some x->x.block≠g1
 apt:APT (.slice a1 nA c1) (.slice y1 nA d1) (.slice a2 K c2) (.slice y2 K d2)
 len:LA.length=nA
 few:nA<=200/\K<=20000
 byte:∀ x∈nd,0<=x/\x<=255
 lo:w.heap.size<=g1/\g1<B/\B<=b20/\B<=b22/\B<=b24
 bel:Below w.heap.size w W
theorem MTWO.but {w W W':World} {g1 B b20 b22 b24 nA K c1 c2 d1 d2 e1 e2:Nat} {NA:Int} {LA:List Nat} {nd:List Int} {a1 a2 y1 y2 x1 x2:Option Addr} (h:MTWO w W g1 B b20 b22 b24 NA nA K LA nd a1 a2 y1 y2 x1 x2 c1 c2 d1 d2 e1 e2) (hb:BUT g1 W W'):MTWO w W' g1 B b20 b22 b24 NA nA K LA nd a1 a2 y1 y2 x1 x2 c1 c2 d1 d2 e1 e2:=by
 have lo:=h.lo;have own:∀ {t:TypeId} {s n:Nat} {v:Value} {xs:List Value},W.ownsRow B t s v n xs->W'.ownsRow B t s v n xs:=fun o=>z0v o fun k e=>hb.1 k (o.lt k e).2 (by have:=(o.lt k e).1;omega);have has:∀ {b:Nat} {c:Array Value},B<=b->Has W b c 60->Has W' b c 60:=fun hB o=>(hb.1 _ o.lt (by omega)).trans o;refine ⟨has lo.2.2.1 h.ha,has lo.2.2.2.1 h.hb,has lo.2.2.2.2 h.hx,own h.oa,own h.on,own h.pa,own h.pn,fun h0=>?_,h.xn.but hb h.xo.2,h.xo,h.apt,h.len,h.few,h.byte,lo,h.bel.trans (hb.2.mono lo.1)⟩;obtain ⟨b,o,e,hlt,hc⟩:=h.xa h0;exact ⟨b,o,e,Nat.lt_of_lt_of_le hlt hb.2.size,fun i x hx=>(World.cell?_of_block (w:=W) (by exact hb.1 b hlt (h.xo.1 h0 _ e))).trans (hc i x hx)⟩
theorem MTWO.below {w W W':World} {g1 B b20 b22 b24 nA K c1 c2 d1 d2 e1 e2:Nat} {NA:Int} {LA:List Nat} {nd:List Int} {a1 a2 y1 y2 x1 x2:Option Addr} (h:MTWO w W g1 B b20 b22 b24 NA nA K LA nd a1 a2 y1 y2 x1 x2 c1 c2 d1 d2 e1 e2) (hb:Below W.heap.size W W'):MTWO w W' g1 B b20 b22 b24 NA nA K LA nd a1 a2 y1 y2 x1 x2 c1 c2 d1 d2 e1 e2:=
 h.but (BUT.of_below hb (by have:=h.lo;have:=h.ha.lt;omega))
theorem MTWO.same {w W:World} {g1 B b20 b22 b24 nA K c1 c2 d1 d2 e1 e2:Nat} {NA:Int} {LA:List Nat} {nd:List Int} {a1 a2 y1 y2 x1 x2:Option Addr} (h:MTWO w W g1 B b20 b22 b24 NA nA K LA nd a1 a2 y1 y2 x1 x2 c1 c2 d1 d2 e1 e2):Calls Tryz.prog 24 #[.agg #[.int .u64 NA,.slice a1 nA c1,.slice a2 K c2],.agg #[.int .u64 NA,.slice x1 nA e1,.slice x2 K e2]] W fun e w'=>e=.returned (.bool true)/\Below W.heap.size W w':=
 z7x NA a1 x1 nA c1 e1 LA a2 x2 K K c2 e2 nd h.len (by have:=h.few;omega) W (z4j h.oa h.len) h.xa (z5H h.on h.byte) h.xn (by have:=h.few;omega)
theorem MTWO.same2 {w W:World} {g1 B b20 b22 b24 nA K c1 c2 d1 d2 e1 e2:Nat} {NA:Int} {LA:List Nat} {nd:List Int} {a1 a2 y1 y2 x1 x2:Option Addr} (h:MTWO w W g1 B b20 b22 b24 NA nA K LA nd a1 a2 y1 y2 x1 x2 c1 c2 d1 d2 e1 e2):Calls Tryz.prog 24 #[.agg #[.int .u64 NA,.slice y1 nA d1,.slice y2 K d2],.agg #[.int .u64 NA,.slice x1 nA e1,.slice x2 K e2]] W fun e w'=>e=.returned (.bool true)/\Below W.heap.size W w':=
 z7x NA y1 x1 nA d1 e1 LA y2 x2 K K d2 e2 nd h.len (by have:=h.few;omega) W (z4j h.pa h.len) h.xa (z5H h.pn h.byte) h.xn (by have:=h.few;omega)
theorem MTWO.parts {w W:World} {g1 B b20 b22 b24 nA K c1 c2 d1 d2 e1 e2:Nat} {NA:Int} {LA:List Nat} {nd:List Int} {a1 a2 y1 y2 x1 x2:Option Addr} (h:MTWO w W g1 B b20 b22 b24 NA nA K LA nd a1 a2 y1 y2 x1 x2 c1 c2 d1 d2 e1 e2):Calls Tryz.prog 25 #[.agg #[.int .u64 NA,.slice a1 nA c1,.slice a2 K c2],.agg #[.int .u64 NA,.slice y1 nA d1,.slice y2 K d2]] W fun e w'=>e=.returned (.bool true)/\Below w.heap.size w w':=
 (zfl NA NA a1 y1 a2 y2 nA K c1 d1 c2 d2 B _ _ _ _ W (by have:=h.lo;have:=h.ha.lt;omega) h.oa h.pa h.on h.pn h.apt (by have:=h.few;omega) (by have:=h.few;omega)).mono fun e w' he=>⟨he.1,h.bel.trans (he.2.1.mono (by have:=h.lo;omega))⟩
theorem z5O (g n cap:Nat) (b:Option Addr) (cb:Nat) (L:List Nat) (hl:L.length=n) (hn:n<=2 ^ 20) (hc:n+1<=cap) (w:World) (hA:NUML w (some ⟨g,0,none⟩) L) (hB:NUML w b L) (hg:g<w.heap.size) (hm:w.cell? ⟨g,n,none⟩=some (.int .u64 171)):
  Calls Tryz.prog 23 #[.slice (some ⟨g,0,none⟩) n cap,.slice b n cb] w fun e w'=>e=.returned (.bool true)/\Below w.heap.size w w':=by
 have cs:=z5v (some ⟨g,0,none⟩) b n cap cb L hl (by omega) w hA hB;have e1:wrap64 ((n:Int)+1)=((n+1:Nat):Int):=by unfold wrap64;omega
 have k1:(n:Int)+1<=(cap:Int):=by omega
 have k2:(n:Int)<(n:Int)+1:=by omega
 have HM:Aside (g<w.heap.size/\w.cell? ⟨g,n,none⟩=some (.int .u64 171)):=⟨hg,hm⟩
 clear hl hn hA hB hg hm;go_enter Tryz.func23,Tryz.ntmps23;go_wp2_with fail
 refine cs.mono ?_;rintro e w1 ⟨rfl,hb1⟩;have x0:w1.cell? ⟨g,n,none⟩=some (.int .u64 171):=(hb1.cell (p:=⟨g,n,none⟩) HM.out.1).trans HM.out.2;have FN:Aside (Below w.heap.size w w1):=hb1;clear cs hb1 HM;go_wp2_with fail
 go_ret;exact ⟨rfl,FN.out⟩
theorem zdB {L:List Nat} {N:Nat} (hL:L.length<=200):(PLCA L N).length<=20000:=by
 unfold PLCA;split
 ·rename_i hr
  obtain ⟨h1,_,_⟩:=z2t hr;have h2:=z2O (TPS N) L (fun p hp=>(z20 (n:=N) (by omega) (h:=p.1) (k:=p.2) hp).1);have h3:=z2h (n:=N) (by omega);have h4:=z2C 64 N (by omega);omega
 ·simp
theorem zaW {a b:Value} (h:∀ g,a.ownBlock=some g->b.ownBlock≠some g):APT a b (.slice none 0 0) (.slice none 0 0):=
 ⟨h,fun _ _ e=>by simp [Value.ownBlock] at e,fun _ _ e=>by simp [Value.ownBlock] at e,fun _ _ e=>by simp [Value.ownBlock] at e,fun _ _ e=>by simp [Value.ownBlock] at e,fun _ _ e=>by simp [Value.ownBlock] at e⟩
theorem z7y {w:World} {B1 B2 n m:Nat} {v v':Value} {xs ys:List Value} (h1:w.ownsRow B1 24 1 v n xs) (h2:w.ownsRow B2 35 32 v' m ys):∀ g,v.ownBlock=some g->v'.ownBlock≠some g:=fun g e1 e2=>by
 rcases h1.2 with ⟨rfl,_⟩ | ⟨g1,_,cur1,rfl,_,hg1,_⟩
 ·simp [Value.ownBlock] at e1
 ·rcases h2.2 with ⟨rfl,_⟩ | ⟨g2,_,cur2,rfl,_,hg2,_⟩
  ·simp [Value.ownBlock] at e2
  ·have e1:g1=g:=by simpa [Value.ownBlock] using e1
   have e2:g2=g:=by simpa [Value.ownBlock] using e2
   rw [e1] at hg1;rw [e2,hg1] at hg2;simp at hg2
structure BPAIR (w0 w:World) (B:Nat) (a:Value) (na:Nat) (xa:List Value) (b:Value) (nb:Nat) (xb:List Value):Prop where
 ra:w.ownsRow B 5 1 a na xa
 rb:w.ownsRow B 5 1 b nb xb
 ap:∀ g,a.ownBlock=some g->b.ownBlock≠some g
 bl:Below B w0 w
 bs:B<=w0.heap.size
theorem BPAIR.step {w0 w w':World} {B:Nat} {a:Value} {na:Nat} {xa:List Value} {b:Value} {nb:Nat} {xb:List Value} (h:BPAIR w0 w B a na xa b nb xb) {a':Value} {na':Nat} {xa':List Value} (hown:w'.ownsRow B 5 1 a' na' xa') (hg:w.grownBy w' a.ownBlock) (hat:∀ g,a'.ownBlock=some g->a.ownBlock=some g\/w.heap.size<=g):BPAIR w0 w' B a' na' xa' b nb xb:=by
 refine ⟨hown,z2v h.rb hg h.ap,fun g e1 e2=>?_,h.bl.grown hg (Nat.le_trans h.bs h.bl.size) (fun k e=>(h.ra.lt k e).1),h.bs⟩;rcases hat g e1 with h1 | h1
 ·exact h.ap g h1 e2
 ·have:=(h.rb.lt g e2).2
  omega
theorem BPAIR.alloc {w0 w:World} {B:Nat} {a:Value} {na:Nat} {xa:List Value} {b:Value} {nb:Nat} {xb:List Value} (h:BPAIR w0 w B a na xa b nb xb) (o:Obj):BPAIR w0 (w.alloc o) B a na xa b nb xb:=⟨z1n h.ra o,z1n h.rb o,h.ap,h.bl.alloc (Nat.le_trans h.bs h.bl.size) o,h.bs⟩
def zho (v:Value) (X Y:Nat) (nv:Value):Array Value:=#[v,.int .u64 (X:Int),.int .u64 (Y:Int),nv]
structure FRM (w0 w:World) (rb gl:Nat) (t:TypeId) (v:Value) (X Y:Nat) (nv:Value) (fl:Array Value) (tf:TypeId):Prop where
 bel:Below w0.heap.size w0 w
 rd:Has w rb (zho v X Y nv) t
 fl:Has w gl fl tf
 ne:gl≠rb
 lb:w0.heap.size<=rb
 lg:w0.heap.size<=gl
def SRC (w0:World) (a:Option Addr) (c:Nat) (t:List Int):Prop:=Bytes w0 a t.length t/\t.length<=c/\t.length<=1000000
theorem FRM.drew {w0 w:World} {rb gl:Nat} {t:TypeId} {v:Value} {X Y:Nat} {nv:Value} {fl:Array Value} {tf:TypeId} (h:FRM w0 w rb gl t v X Y nv fl tf):FRM w0 w.drew rb gl t v X Y nv fl tf:=⟨h.bel.drew,h.rd,h.fl,h.ne,h.lb,h.lg⟩
theorem FRM.keep {w0 w w':World} {rb gl:Nat} {t:TypeId} {v:Value} {X Y:Nat} {nv:Value} {fl:Array Value} {tf:TypeId} (h:FRM w0 w rb gl t v X Y nv fl tf) (hb:Below w.heap.size w w'):FRM w0 w' rb gl t v X Y nv fl tf:=⟨h.bel.trans (hb.mono h.bel.size),h.rd.keep hb,h.fl.keep hb,h.ne,h.lb,h.lg⟩
theorem FRM.rest {w0 w:World} {rb gl:Nat} {t:TypeId} {v:Value} {X Y:Nat} {nv:Value} {fl:Array Value} {tf:TypeId} (h:FRM w0 w rb gl t v X Y nv fl tf) (v':Value):FRM w0 (w.setCell ⟨rb,0,none⟩ v') rb gl t v' X Y nv fl tf:=
 ⟨h.bel.setCell (p:=⟨rb,0,none⟩) h.lb _,h.rd.set 0 v',h.fl.other (a:=⟨rb,0,none⟩) h.ne _,h.ne,h.lb,h.lg⟩
theorem FRM.nodes {w0 w:World} {rb gl:Nat} {t:TypeId} {v:Value} {X Y:Nat} {nv:Value} {fl:Array Value} {tf:TypeId} (h:FRM w0 w rb gl t v X Y nv fl tf) (nv':Value):FRM w0 (w.setCell ⟨rb,3,none⟩ nv') rb gl t v X Y nv' fl tf:=
 ⟨h.bel.setCell (p:=⟨rb,3,none⟩) h.lb _,h.rd.set 3 _,h.fl.other (a:=⟨rb,3,none⟩) h.ne _,h.ne,h.lb,h.lg⟩
theorem SRC.drop {w0:World} {b off c:Nat} {t:List Int} (h:SRC w0 (some ⟨b,off,none⟩) c t) (k:Nat) (hk:k<=t.length):SRC w0 (REST b off c k) (c - k) (t.drop k):=by
 obtain ⟨h1,h2,h3⟩:=h;have:=h1.behind k hk h2;refine ⟨?_,by rw [List.length_drop];omega,by rw [List.length_drop];omega⟩;rw [List.length_drop];exact this
def DECD (w:World) (D:DANS) (e:Ending) (w':World):Prop:=
 ∃ v,e=.returned (.tuple #[v,.int .i64 D.1])/\Below w.heap.size w w'/\((D.1≠0/\v=.agg #[.int .u64 0,.int .u64 0,.slice none 0 0])\/(D.1=0/\D.2.1<2 ^ 64/\D.2.2.1<2 ^ 64/\D.2.2.2.2.length=32*D.2.2.2.1/\(∀ x∈D.2.2.2.2,0<=x/\x<=255)/\∃ g,v=.agg #[.int .u64 (D.2.1:Int),.int .u64 (D.2.2.1:Int),.slice (some ⟨g,0,none⟩) D.2.2.2.1 D.2.2.2.1]/\w.heap.size<=g/\Has w' g (z00 D.2.2.2.2).toArray 35))
end Go.Proofs.YthmnailmbgondaaGreatDoor
