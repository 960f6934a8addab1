/- ProofMakes: part 37. -/
import Derived.Test.YthmnailmbgondaaGreatDoorProofMakesP35
set_option maxHeartbeats 2000000
namespace Go.Proofs.YthmnailmbgondaaGreatDoor
open Go.RowKit
set_option maxRecDepth 100000
def FSTE (EN:Nat->Int):List Nat->Int
 | []=>0
 | p :: P=>if EN p=0 then FSTE EN P else EN p
theorem z4W {EN:Nat->Int}:∀ {P:List Nat},(∀ p∈P,EN p=0)->FSTE EN P=0
 | [],_=>rfl
 | p :: P,h=>by rw [FSTE,if_pos (h p (List.mem_cons_self ..))];exact z4W fun q hq=>h q (List.mem_cons_of_mem _ hq)
theorem z7b {EN:Nat->Int}:∀ {P:List Nat} {j p:Nat},P[j]?=some p->(∀ (i q:Nat),i<j->P[i]?=some q->EN q=0)->EN p≠0->FSTE EN P=EN p
 | [],j,p,h,_,_=>by simp at h
 | x :: P,0,p,h,_,hn=>by
   simp only [List.getElem?_cons_zero,Option.some.injEq] at h;subst h;rw [FSTE,if_neg hn]
 | x :: P,j+1,p,h,hz,hn=>by
   rw [FSTE,if_pos (hz 0 x (by omega) rfl)];exact z7b (by simpa using h) (fun i q hi hq=>hz (i+1) q (by omega) (by simpa using hq)) hn
theorem zaW {w w':World} {l:List RND} {P:List Nat} {e:Ending} (h:RAT w l P e w'):Below w.heap.size w w'/\((FSTE (fun p=>(RGOT l p).1) P≠0/\e=.returned (.tuple #[.slice none 0 0,.int .i64 (FSTE (fun p=>(RGOT l p).1) P)]))\/(FSTE (fun p=>(RGOT l p).1) P=0/\∃ a c,e=.returned (.tuple #[.slice a P.length c,.int .i64 0])/\w'.ownsRow w.heap.size 35 32 (.slice a P.length c) P.length (z00 (P.flatMap fun p=>(RGOT l p).2)))):=by
 obtain ⟨hb,h⟩:=h;refine ⟨hb,?_⟩;rcases h with ⟨hz,h⟩ | ⟨j,p,h1,h2,h3,rfl⟩
 ·exact .inr ⟨z4W hz,h⟩
 ·have e:=z7b (EN:=fun p=>(RGOT l p).1) h1 h2 h3
  exact .inl ⟨by rw [e];exact h3,by rw [e]⟩
def WNT (EN:Nat->Int) (E:Int) (P:List Nat):Int:=if E=0 then FSTE EN P else E
theorem zfE (B:Nat) (v:Value) (n:Nat) (xs:List Value) (m:Int) (hn:n<=900) (w:World) (hB:B<=w.heap.size) (h:w.ownsRow B 35 32 v n xs):Calls Tryz.prog 17 #[v,.int .u8 m] w fun e w'=>
    ∃ g cap,e=.returned (.slice (some ⟨g,0,none⟩) (n+1+1) cap)/\w'.ownsRow B 35 32 (.slice (some ⟨g,0,none⟩) (n+1+1) cap) (n+1+1) (z00 (MKS m (n+1+1)))/\w.grownBy w' v.ownBlock/\(v.ownBlock=some g\/w.heap.size<=g):=by
  obtain ⟨a,c,rfl,hc,ha⟩:=z6y h;have hxs:xs.length=32*n:=by have:=h.1;omega
  have HA:Aside (n<=900/\xs.length=32*n/\w.ownsRow B 35 32 (.slice a n c) n xs/\(0<n->∃ g,a=some ⟨g,0,none⟩)/\B<=w.heap.size):=⟨hn,hxs,h,ha,hB⟩
  clear h ha hxs hn hB hc;go_enter Tryz.func17,Tryz.ntmps17;go_wp2;go_loopg [5] n (fun q s5 wx=>∃ j:Nat,s5=.int .i64 (j:Int)/\Aside (j+q=n/\wx.ownsRow B 35 32 (.slice a n c) n (MKP xs m j)/\w.grownBy wx (Value.slice a n c).ownBlock))
  case atStart=>exact ⟨0,rfl,by omega,by rw [zfc];exact HA.out.2.2.1,z1v _ _⟩
  case round=>
    obtain ⟨j,rfl,A⟩:=hrel;cases gk with
    | zero =>
      obtain rfl:j=n:=by have:=A.out.1;omega
      have hlt:¬ (j:Int)<(j:Int):=by omega
      have R:Aside (wr.ownsRow B 35 32 (.slice a j c) j (z00 (MKS m j))/\w.grownBy wr (Value.slice a j c).ownBlock/\j<=900/\B<=wr.heap.size/\w.heap.size<=wr.heap.size):=by
        obtain ⟨_,h1,h2⟩:=A.out;obtain ⟨a1,a2,a3,a4,a5⟩:=HA.out;rw [zgw a2] at h1;have hs:=z2P h2;exact ⟨h1,h2,a1,Nat.le_trans a5 hs,hs⟩
      clear A HA
      go_wp2_with (first
        | (rw [<-z6z];refine z1g _ rfl 22 35 (.tmp 19) rfl (z00 (MK m)).toArray rfl 32 _ _ Tryz.underlying22 z2j (by rfl) rfl (by decide) (by decide) ?_)
        | (at_builtin;refine z5N _ rfl (.tmp 17) (.tmp 20) rfl B _ j (z00 (MKS m j)) rfl (R.out.1.alloc _) wr.heap.size 1 (MK m) rfl rfl (Has.new _ _ _) (by have:=R.out.2.2.1;omega) (by have:=R.out.2.2.2.1;simp;omega) ?_;intro g1 q1 w1 hown1 hgrow1 hat1 hg1
           have S:Aside (w1.ownsRow B 35 32 (.slice (some ⟨g1,0,none⟩) (j+1) q1) (j+1) (z00 (MKS m (j+1)))/\w.grownBy w1 (Value.slice a j c).ownBlock/\((Value.slice a j c).ownBlock=some g1\/w.heap.size<=g1)/\B<=w1.heap.size/\w.heap.size<=w1.heap.size):=⟨by rw [MKS,z0t];exact hown1,z1F (z1F R.out.2.1 (z5q _ _ _) (.inl rfl)) hgrow1 (.inl rfl),hat1.imp id fun e=>by have:=R.out.2.2.2.2;rw [e];simp;omega,by have h1:=z2P hgrow1;have h2:=R.out.2.2.2.1;simp at h1;omega,by have h1:=z2P hgrow1;have h2:=R.out.2.2.2.2;simp at h1;omega⟩
           clear hown1 hgrow1 hat1 hg1)
        | (rw [<-z6z];refine z1g _ rfl 22 35 (.tmp 23) rfl (z00 (MK m)).toArray rfl 32 _ _ Tryz.underlying22 z2j (by rfl) rfl (by decide) (by decide) ?_)
        | (at_builtin;refine z5N _ rfl (.tmp 21) (.tmp 24) rfl B _ (j+1) _ rfl (S.out.1.alloc _) w1.heap.size 1 (MK m) rfl rfl (Has.new _ _ _) (by have:=R.out.2.2.1;omega) (by have h1:=S.out.2.2.2.1;simp;omega) ?_;intro g2 q2 w2 hown2 hgrow2 hat2 hg2))
      have S2:Aside (w2.ownsRow B 35 32 (.slice (some ⟨g2,0,none⟩) (j+1+1) q2) (j+1+1) (z00 (MKS m (j+1+1)))/\w.grownBy w2 (Value.slice a j c).ownBlock/\((Value.slice a j c).ownBlock=some g2\/w.heap.size<=g2)):=by
        obtain ⟨s1,s2,s3,s4,s5⟩:=S.out;refine ⟨?_,z1F (z1F s2 (z5q _ _ _) (.inl rfl)) hgrow2 ?_,?_⟩
        · rw [show MKS m (j+1+1)=MKS m (j+1) ++ MK m from rfl,z0t]
          exact hown2
        · rcases s3 with s3 | s3
          · exact .inl s3.symm
          · exact .inr fun g e=>by cases e;exact s3
        · rcases hat2 with e | e
          · cases e
            exact s3
          · exact .inr (by rw [e];simp;omega)
      clear hown2 hgrow2 hat2 hg2 S R;go_wp2;go_ret;exact ⟨_,_,rfl,S2.out⟩
    | succ q=>
      obtain ⟨hj,hown,hgr⟩:=A.out;obtain ⟨a1,a2,a3,a4,a5⟩:=HA.out;have hlt:(j:Int)<(n:Int):=by omega
      obtain ⟨g,rfl⟩:=a4 (by omega)
      have hth:wr.there g (j*32) (z00 (MK m)).toArray.size:=fun i hi=>by
        have hi:i<32:=hi;refine ⟨?_,hown.frozenAt _⟩;rw [hown.cellAt (j*32+i) (by omega),List.getElem?_eq_getElem (by rw [z6A a2 (by omega)];omega)];rfl
      have hst:=z5P (z00 (MK m)) _ (j*32) wr hown;rw [zfd a2 (by omega)] at hst;have R:Aside (j+1+q=n/\(wr.setCells g (j*32) (z00 (MK m)).toArray.toList).ownsRow B 35 32 (.slice (some ⟨g,0,none⟩) n c) n (MKP xs m (j+1))/\w.grownBy (wr.setCells g (j*32) (z00 (MK m)).toArray.toList) (Value.slice (some ⟨g,0,none⟩) n c).ownBlock):=⟨by omega,hst.1,z1F hgr hst.2 (.inl rfl)⟩
      have E1:Aside (wrap64 ((j:Int)+1)=((j+1:Nat):Int)):=by show wrap64 ((j:Int)+1)=((j+1:Nat):Int);unfold wrap64;omega
      clear hj hown hgr a1 a2 a3 a4 a5 hst A HA
      go_wp2_with (first
        | (rw [<-z6z];refine wpList_store_mid rfl 35 (.tmp 16) (.tmp 15) rfl g (j*32) (z00 (MK m)).toArray rfl rfl hth (z0W (z2G m)) (z1r (MK m)) ?_))
      generalize wr.setCells g (j*32) (z00 (MK m)).toArray.toList=w2 at *
      have e1:=E1.out;go_wp2;go_roundg q
      case measure=>exact Nat.lt_succ_self _
      case rel=>exact ⟨j+1,by first | rfl | (rw [E1.out]),R.out⟩
theorem z59 (B g n c:Nat) (m:Int) (hn:n<=1000000) (w:World) (h:w.ownsRow B 35 32 (.slice (some ⟨g,0,none⟩) n c) n (z00 (MKS m n))):Calls Tryz.prog 18 #[.slice (some ⟨g,0,none⟩) n c,.int .u8 m] w fun e w'=>e=.returned (.bool true)/\w=w':=by
 have HA:Aside (n<=1000000/\w.ownsRow B 35 32 (.slice (some ⟨g,0,none⟩) n c) n (z00 (MKS m n))):=⟨hn,h⟩
 clear hn h;go_enter Tryz.func18,Tryz.ntmps18;go_wp2;go_loopg [5] n (fun q s5 wx=>∃ j:Nat,s5=.int .i64 (j:Int)/\Aside (j+q=n)/\wx=w)
 case atStart=>exact ⟨0,rfl,by show 0+n=n;omega,rfl⟩
 case round=>
  obtain ⟨j,rfl,A,rfl⟩:=hrel;cases gk with
  | zero=>
    obtain rfl:j=n:=by have:=A.out;omega
    have hlt:¬ (j:Int)<(j:Int):=by omega
    clear A HA;go_wp2;go_ret;exact ⟨rfl,rfl⟩
  | succ q=>
    have hj:j+1+q=n:=by have:=A.out;omega
    have hlt:(j:Int)<(n:Int):=by omega
    have hat:wr.rangeAt g (j*32) (z00 (MK m)):=fun i v hv=>by
     have hi:i<32:=(List.getElem?_eq_some_iff.1 hv).1;have:=HA.out.2.cellAt (j*32+i) (by omega);rw [this,z0y _ _ (by rw [z1V];omega),show j*32+i=32*j+i by omega,<-zdq hi,zhn m (by omega),<-hv,z0y _ _ (by rw [z2G];exact hi)]
    have R:Aside (j+1+q=n):=hj;have E1:Aside (wrap64 ((j:Int)+1)=((j+1:Nat):Int)):=by have:=HA.out.1;show wrap64 ((j:Int)+1)=((j+1:Nat):Int);unfold wrap64;omega
    have hnq:∀ x y (W:World),(do eqGuard .neq 35 x y (.agg (z00 (MK m)).toArray) (.agg (z00 (MK m)).toArray);binOp .neq 35 (.agg (z00 (MK m)).toArray) (.agg (z00 (MK m)).toArray):Sem Value).run Tryz.prog W=.ok (.bool false) W:=fun x y W=>zdx (MK m) (z2G m) x y W;clear hj A HA
    go_wp2_with (first
     | (refine wpList_load_mid rfl 35 (.tmp 14) rfl g (j*32) rfl (z00 (MK m)) _ hat Tryz.underlying35 rfl (z0v (z2G m)) ?_)
     | (rw [<-z6z];refine wpList_plain rfl (fun K hK=>zdA (z08 (hnq _ _ _)) (hK _ _ ?_))))
    have e1:=E1.out;go_wp2;go_roundg q
    case measure=>exact Nat.lt_succ_self _
    case rel=>exact ⟨j+1,by first | rfl | (rw [E1.out]),R,rfl⟩
def zhy (v:Value) (X Y:Nat) (nv:Value):Array Value:=#[v,.int .u64 (X:Int),.int .u64 (Y:Int),nv]
structure FRM (w0 w:World) (rb gl:Nat) (t:TypeId) (v:Value) (X Y:Nat) (nv:Value) (fl:Array Value) (tf:TypeId):Prop where
 bel:Below w0.heap.size w0 w
 rd:Has w rb (zhy v X Y nv) t
 fl:Has w gl fl tf
 ne:gl≠rb
 lb:w0.heap.size<=rb
 lg:w0.heap.size<=gl
def SRC (w0:World) (a:Option Addr) (c:Nat) (t:List Int):Prop:=Bytes w0 a t.length t/\t.length<=c/\t.length<=1000000
theorem FRM.drew {w0 w:World} {rb gl:Nat} {t:TypeId} {v:Value} {X Y:Nat} {nv:Value} {fl:Array Value} {tf:TypeId} (h:FRM w0 w rb gl t v X Y nv fl tf):FRM w0 w.drew rb gl t v X Y nv fl tf:=⟨h.bel.drew,h.rd,h.fl,h.ne,h.lb,h.lg⟩
theorem FRM.keep {w0 w w':World} {rb gl:Nat} {t:TypeId} {v:Value} {X Y:Nat} {nv:Value} {fl:Array Value} {tf:TypeId} (h:FRM w0 w rb gl t v X Y nv fl tf) (hb:Below w.heap.size w w'):FRM w0 w' rb gl t v X Y nv fl tf:=⟨h.bel.trans (hb.mono h.bel.size),h.rd.keep hb,h.fl.keep hb,h.ne,h.lb,h.lg⟩
theorem FRM.rest {w0 w:World} {rb gl:Nat} {t:TypeId} {v:Value} {X Y:Nat} {nv:Value} {fl:Array Value} {tf:TypeId} (h:FRM w0 w rb gl t v X Y nv fl tf) (v':Value):FRM w0 (w.setCell ⟨rb,0,none⟩ v') rb gl t v' X Y nv fl tf:=
 ⟨h.bel.setCell (p:=⟨rb,0,none⟩) h.lb _,h.rd.set 0 v',h.fl.other (a:=⟨rb,0,none⟩) h.ne _,h.ne,h.lb,h.lg⟩
theorem FRM.nodes {w0 w:World} {rb gl:Nat} {t:TypeId} {v:Value} {X Y:Nat} {nv:Value} {fl:Array Value} {tf:TypeId} (h:FRM w0 w rb gl t v X Y nv fl tf) (nv':Value):FRM w0 (w.setCell ⟨rb,3,none⟩ nv') rb gl t v X Y nv' fl tf:=
 ⟨h.bel.setCell (p:=⟨rb,3,none⟩) h.lb _,h.rd.set 3 _,h.fl.other (a:=⟨rb,3,none⟩) h.ne _,h.ne,h.lb,h.lg⟩
theorem SRC.drop {w0:World} {b off c:Nat} {t:List Int} (h:SRC w0 (some ⟨b,off,none⟩) c t) (k:Nat) (hk:k<=t.length):SRC w0 (REST b off c k) (c - k) (t.drop k):=by
 obtain ⟨h1,h2,h3⟩:=h;have:=h1.behind k hk h2;refine ⟨?_,by rw [List.length_drop];omega,by rw [List.length_drop];omega⟩;rw [List.length_drop];exact this
def DECD (w:World) (D:DANS) (e:Ending) (w':World):Prop:=
 ∃ v,e=.returned (.tuple #[v,.int .i64 D.1])/\Below w.heap.size w w'/\((D.1≠0/\v=.agg #[.int .u64 0,.int .u64 0,.slice none 0 0])\/(D.1=0/\D.2.1<2 ^ 64/\D.2.2.1<2 ^ 64/\D.2.2.2.2.length=32*D.2.2.2.1/\(∀ x∈D.2.2.2.2,0<=x/\x<=255)/\∃ g,v=.agg #[.int .u64 (D.2.1:Int),.int .u64 (D.2.2.1:Int),.slice (some ⟨g,0,none⟩) D.2.2.2.1 D.2.2.2.1]/\w.heap.size<=g/\Has w' g (z00 D.2.2.2.2).toArray 35))
theorem zgO (PF:Nat->Nat->Int × List Nat) (X Y:Nat) (t:List Int):DC3 PF X Y t=DERR (DC3 PF X Y t).1\/(DC3 PF X Y t).1=0:=by
 unfold DC3;split
 ·exact .inl rfl
 ·split
  ·exact .inl rfl
  ·split
   ·exact .inl rfl
   ·exact .inr rfl
theorem zgP (PF:Nat->Nat->Int × List Nat) (X:Nat) (t:List Int):DC2 PF X t=DERR (DC2 PF X t).1\/(DC2 PF X t).1=0:=by
 unfold DC2;split
 ·exact .inl rfl
 ·exact zgO _ _ _ _
theorem zgQ (chk:Nat->Bool) (PF:Nat->Nat->Int × List Nat) (t:List Int):DC1 chk PF t=DERR (DC1 chk PF t).1\/(DC1 chk PF t).1=0:=by
 unfold DC1;split
 ·exact .inl rfl
 ·split
  ·exact .inl rfl
  ·exact zgP _ _ _
theorem zgR {K:Int} {chk:Nat->Bool} {PF:Nat->Nat->Int × List Nat} {l:List Int} (h:(DC0 K chk PF l).1≠0):DC0 K chk PF l=DERR (DC0 K chk PF l).1:=by
 have:DC0 K chk PF l=DERR (DC0 K chk PF l).1\/(DC0 K chk PF l).1=0:=by
  unfold DC0;split
  ·exact .inl rfl
  ·split
   ·exact .inl rfl
   ·exact zgQ _ _ _
 rcases this with h1 | h1
 ·exact h1
 ·exact absurd h1 h
theorem zcb {w:World} {B g N:Nat} {l:List Int} (h:Has w g (z00 l).toArray 35) (hl:l.length=32*N) (hB:B<=g) (hN:N<=1000):w.ownsRow B 35 32 (.slice (some ⟨g,0,none⟩) N N) N (z00 l):=by
 refine ⟨by rw [z00,List.length_map,hl,Nat.mul_comm],.inr ⟨g,N,_,rfl,hB,h,Nat.le_refl _,by simp [maxLen];omega,?_,?_⟩⟩
 ·simp [z00,hl,Nat.mul_comm]
 ·rw [List.take_of_length_le (by simp [z00,hl];omega)]
def DECO (w:World) (D:DANS) (e:Ending) (w':World):Prop:=
 ∃ a c,e=.returned (.tuple #[.agg #[.int .u64 (D.2.1:Int),.int .u64 (D.2.2.1:Int),.slice a D.2.2.2.1 c],.int .i64 D.1])/\w'.ownsRow w.heap.size 35 32 (.slice a D.2.2.2.1 c) D.2.2.2.1 (z00 D.2.2.2.2)/\(∀ x∈D.2.2.2.2,0<=x/\x<=255)/\Below w.heap.size w w'
theorem DECD.own {w w':World} {K:Int} {chk:Nat->Bool} {PF:Nat->Nat->Int × List Nat} {l:List Int} {e:Ending} (h:DECD w (DC0 K chk PF l) e w') (hf:(DC0 K chk PF l).1=0->(DC0 K chk PF l).2.2.2.1<=1000):DECO w (DC0 K chk PF l) e w':=by
 obtain ⟨v,rfl,hb,h⟩:=h;rcases h with ⟨hE,rfl⟩ | ⟨hE,h1,h2,h3,h4,g,rfl,hg,hh⟩
 ·have hD:=zgR hE
  rw [hD];refine ⟨none,0,rfl,World.ownsRow_nil _ _ _ _,by simp [DERR],hb⟩
 ·exact ⟨_,_,rfl,zcb hh h3 hg (hf hE),h4,hb⟩
structure FAM (M:Nat) (t:TypeId) (s:Nat) (w:World) (B:Nat) (K:Nat->Prop) (v:Nat->Value) (n:Nat->Nat) (xs:Nat->List Value):Prop where
 row:∀ x,x<M->w.ownsRow B t s (v x) (n x) (xs x)
 apart:∀ x y,x<M->y<M->x≠y->∀ g,(v x).ownBlock=some g->(v y).ownBlock≠some g
 off:∀ x,x<M->∀ g,(v x).ownBlock=some g->¬ K g
theorem FAM.below {M:Nat} {t:TypeId} {s:Nat} {w w':World} {B:Nat} {K:Nat->Prop} {v:Nat->Value} {n:Nat->Nat} {xs:Nat->List Value} (h:FAM M t s w B K v n xs) (hb:Below w.heap.size w w'):FAM M t s w' B K v n xs:=⟨fun x hx=>z0s (h.row x hx) hb,h.apart,h.off⟩
theorem FAM.heap {M:Nat} {t:TypeId} {s:Nat} {w w':World} {B:Nat} {K:Nat->Prop} {v:Nat->Value} {n:Nat->Nat} {xs:Nat->List Value} (h:FAM M t s w B K v n xs) (hk:∀ k,k<w.heap.size->¬ K k->w'.heap[k]?=w.heap[k]?):FAM M t s w' B K v n xs:=⟨fun x hx=>z4f (h.row x hx) fun k e=>hk k ((h.row x hx).lt k e).2 (h.off x hx k e),h.apart,h.off⟩
theorem FAM.turn {M:Nat} {t:TypeId} {s:Nat} {w w':World} {B:Nat} {K:Nat->Prop} {v:Nat->Value} {n:Nat->Nat} {xs:Nat->List Value} (h:FAM M t s w B K v n xs) {x g m c:Nat} {ys:List Value} (hx:x<M) (hK:∀ k,K k->k<w.heap.size)
  (hown:w'.ownsRow B t s (.slice (some ⟨g,0,none⟩) m c) m ys) (hg:w.grownBy w' (v x).ownBlock) (hat:(v x).ownBlock=some g\/w.heap.size<=g):FAM M t s w' B K (UPD v x (.slice (some ⟨g,0,none⟩) m c)) (UPD n x m) (UPD xs x ys)/\∀ k,K k->w'.heap[k]?=w.heap[k]?:=by
 have hgx:∀ y,y<M->y≠x->(v y).ownBlock≠some g:=fun y hy hne e=>by
  rcases hat with h1 | h1
  ·exact h.apart x y hx hy (fun e=>hne e.symm) g h1 e
  ·have:=((h.row y hy).lt g e).2
   omega
 refine ⟨⟨fun y hy=>?_,fun y z hy hz hne k e=>?_,fun y hy k e hk=>?_⟩,fun k hk=>hg.block k (hK k hk) fun e=>h.off x hx k e.symm hk⟩
 ·by_cases e:y=x
  ·subst e
   rw [z2F,z2F,z2F];exact hown
  ·rw [z1f _ _ e,z1f _ _ e,z1f _ _ e]
   exact z4f (h.row y hy) fun k hk=>hg.block k ((h.row y hy).lt k hk).2 fun e2=>h.apart x y hx hy (fun e3=>e e3.symm) k e2.symm hk
 ·by_cases e1:y=x
  ·subst e1
   rw [z2F] at e;have e:g=k:=by simpa [Value.ownBlock] using e
   subst e;rw [z1f _ _ (fun e2=>hne e2.symm)];exact hgx z hz fun e2=>hne e2.symm
  ·rw [z1f _ _ e1] at e
   by_cases e2:z=x
   ·subst e2
    rw [z2F];intro e3;have e3:g=k:=by simpa [Value.ownBlock] using e3
    subst e3;exact hgx y hy e1 e
   ·rw [z1f _ _ e2]
    exact h.apart y z hy hz hne k e
 ·by_cases e1:y=x
  ·subst e1
   rw [z2F] at e;have e:g=k:=by simpa [Value.ownBlock] using e
   subst e;rcases hat with h1 | h1
   ·exact h.off y hy g h1 hk
   ·have:=hK g hk
    omega
  ·rw [z1f _ _ e1] at e
   exact h.off y hy k e hk
def V4 {α:Type} (p q r s:α) (x:Nat):α:=if x=0 then p else if x=1 then q else if x=2 then r else s
theorem z1y {P:Nat->Prop} (h0:P 0) (h1:P 1) (h2:P 2) (h3:P 3):∀ x,x<4->P x:=fun x hx=>by
 match x,hx with
 | 0,_=>exact h0
 | 1,_=>exact h1
 | 2,_=>exact h2
 | 3,_=>exact h3
theorem zcc {α:Type} (p q r s a:α):UPD (V4 p q r s) 0 a=V4 a q r s:=by
 funext x;unfold UPD V4;split <;> simp_all
theorem zcd {α:Type} (p q r s a:α):UPD (V4 p q r s) 1 a=V4 p a r s:=by
 funext x;unfold UPD V4;split <;> simp_all
theorem zce {α:Type} (p q r s a:α):UPD (V4 p q r s) 2 a=V4 p q a s:=by
 funext x;unfold UPD V4;split <;> simp_all
theorem FAM.same {M:Nat} {t:TypeId} {s:Nat} {w:World} {B:Nat} {K:Nat->Prop} {v v':Nat->Value} {n n':Nat->Nat} {xs xs':Nat->List Value} (h:FAM M t s w B K v n xs) (hv:∀ x,x<M->v x=v' x) (hn:∀ x,x<M->n x=n' x) (hx:∀ x,x<M->xs x=xs' x):FAM M t s w B K v' n' xs':=
 ⟨fun x h0=>by rw [<-hv x h0,<-hn x h0,<-hx x h0];exact h.row x h0,fun x y h0 h1 hne g=>by rw [<-hv x h0,<-hv y h1];exact h.apart x y h0 h1 hne g,fun x h0 g=>by rw [<-hv x h0];exact h.off x h0 g⟩
theorem FAM.behind {t:TypeId} {s:Nat} {w:World} {B:Nat} {K:Nat->Prop} {v0 v1 v2 v3:Value} {n0 n1 n2 n3:Nat} {x0 x1 x2 x3:List Value} {p0 p1 p2 p3 p4:Nat}
  (r0:w.ownsRow B t s v0 n0 x0) (r1:w.ownsRow B t s v1 n1 x1) (r2:w.ownsRow B t s v2 n2 x2) (r3:w.ownsRow B t s v3 n3 x3)
  (s0:∀ g,v0.ownBlock=some g->p0<=g/\g<p1) (s1:∀ g,v1.ownBlock=some g->p1<=g/\g<p2) (s2:∀ g,v2.ownBlock=some g->p2<=g/\g<p3) (s3:∀ g,v3.ownBlock=some g->p3<=g/\g<p4) (hp:p1<=p2/\p2<=p3/\p3<=p4)
  (hK:∀ k,K k->p4<=k):FAM 4 t s w B K (V4 v0 v1 v2 v3) (V4 n0 n1 n2 n3) (V4 x0 x1 x2 x3):=by
 refine ⟨z1y r0 r1 r2 r3,?_,?_⟩
 ·intro x y hx hy hne g h1 h2
  have key:∀ z,z<4->(V4 v0 v1 v2 v3 z).ownBlock=some g->V4 p0 p1 p2 p3 z<=g/\g<V4 p1 p2 p3 p4 z:=z1y (s0 g) (s1 g) (s2 g) (s3 g);have k1:=key x hx h1;have k2:=key y hy h2;match x,y,hx,hy with
  | 0,0,_,_=>exact hne rfl
  | 1,1,_,_=>exact hne rfl
  | 2,2,_,_=>exact hne rfl
  | 3,3,_,_=>exact hne rfl
  | 0,1,_,_ | 0,2,_,_ | 0,3,_,_ | 1,0,_,_ | 1,2,_,_ | 1,3,_,_ | 2,0,_,_ | 2,1,_,_ | 2,3,_,_ | 3,0,_,_ | 3,1,_,_ | 3,2,_,_=>
    simp only [V4] at k1 k2;simp at k1 k2;omega
 ·have key:∀ z,z<4->∀ g,(V4 v0 v1 v2 v3 z).ownBlock=some g->g<V4 p1 p2 p3 p4 z:=z1y (fun g e=>(s0 g e).2) (fun g e=>(s1 g e).2) (fun g e=>(s2 g e).2) (fun g e=>(s3 g e).2)
  intro x hx g e hk;have h1:=key x hx g e;have h2:=hK g hk;match x,hx with
  | 0,_ | 1,_ | 2,_ | 3,_=>
    simp only [V4] at h1;simp at h1;omega
theorem FAM.over {M:Nat} {t:TypeId} {s:Nat} {w w':World} {B:Nat} {K:Nat->Prop} {v:Nat->Value} {n:Nat->Nat} {xs:Nat->List Value} (h:FAM M t s w B K v n xs) {x:Nat} {ys:List Value} (hx:x<M) (hK:∀ k,K k->k<w.heap.size)
  (hown:w'.ownsRow B t s (v x) (n x) ys) (hg:w.grownBy w' (v x).ownBlock):FAM M t s w' B K v n (UPD xs x ys)/\∀ k,K k->w'.heap[k]?=w.heap[k]?:=by
 refine ⟨⟨fun y hy=>?_,h.apart,h.off⟩,fun k hk=>hg.block k (hK k hk) fun e=>h.off x hx k e.symm hk⟩;by_cases e:y=x
 ·subst e
  rw [z2F];exact hown
 ·rw [z1f _ _ e]
  exact z4f (h.row y hy) fun k hk=>hg.block k ((h.row y hy).lt k hk).2 fun e2=>h.apart x y hx hy (fun e3=>e e3.symm) k e2.symm hk
def KOF (V:Int) (P:List Nat):Nat:=if V=0 then P.length else 0
def ZOF (V:Int) (G:Nat->List Int) (P:List Nat):List Int:=if V=0 then P.flatMap G else []
theorem zgS (G:Nat->List Int) (P:List Nat):TFL G P P.length=P.flatMap G:=by
 have e:(List.range P.length).map (fun i=>P.getD i 0)=P:=by
  apply List.ext_getElem?;intro i;rw [List.getElem?_map];by_cases hi:i<P.length
  ·rw [List.getElem?_range hi,Option.map_some,List.getD_eq_getElem?_getD,List.getElem?_eq_getElem hi]
   rfl
  ·rw [List.getElem?_eq_none (l:=List.range P.length) (by simp;omega),List.getElem?_eq_none (l:=P) (by omega)]
   rfl
 unfold TFL;conv=>rhs;rw [<-e]
 rw [List.flatMap_map]
theorem z2K {w w':World} {G:Nat->List Int} {EN:Nat->Int} {D:Int × List Nat} {X Y:Nat} {e:Ending} (h:TMADE w G EN D X Y e w'):Below w.heap.size w w'/\∃ (X' Y':Nat) (a:Option Addr) (c:Nat),e=.returned (.tuple #[.agg #[.int .u64 (X':Int),.int .u64 (Y':Int),.slice a (KOF (WNT EN D.1 D.2) D.2) c],.int .i64 (WNT EN D.1 D.2)])/\w'.ownsRow w.heap.size 35 32 (.slice a (KOF (WNT EN D.1 D.2) D.2) c) (KOF (WNT EN D.1 D.2) D.2) (z00 (ZOF (WNT EN D.1 D.2) G D.2))/\(WNT EN D.1 D.2=0->X'=X/\Y'=Y):=by
 obtain ⟨hb,h⟩:=h;refine ⟨hb,?_⟩
 have bad:∀ V:Int,V≠0->WNT EN D.1 D.2=V->e=.returned (.tuple #[.agg #[.int .u64 0,.int .u64 0,.slice none 0 0],.int .i64 V])->∃ (X' Y':Nat) (a:Option Addr) (c:Nat),e=.returned (.tuple #[.agg #[.int .u64 (X':Int),.int .u64 (Y':Int),.slice a (KOF (WNT EN D.1 D.2) D.2) c],.int .i64 (WNT EN D.1 D.2)])/\w'.ownsRow w.heap.size 35 32 (.slice a (KOF (WNT EN D.1 D.2) D.2) c) (KOF (WNT EN D.1 D.2) D.2) (z00 (ZOF (WNT EN D.1 D.2) G D.2))/\(WNT EN D.1 D.2=0->X'=X/\Y'=Y):=by
  intro V hV hW he;rw [hW];unfold KOF ZOF;rw [if_neg hV,if_neg hV];exact ⟨0,0,none,0,he,⟨rfl,.inl ⟨rfl,rfl⟩⟩,fun h=>absurd h hV⟩
 rcases h with ⟨h0,he⟩ | ⟨h0,hz,u,he,ho⟩ | ⟨h0,j,hj,hz,hn,he⟩
 ·exact bad _ h0 (if_neg h0) he
 ·have hW:WNT EN D.1 D.2=0:=by unfold WNT;rw [if_pos h0];exact z4W hz
  rw [hW];obtain ⟨a,c,rfl,_⟩:=z6y ho;unfold KOF ZOF;rw [if_pos rfl,if_pos rfl];rw [zgS] at ho;exact ⟨X,Y,a,c,he,ho,fun _=>⟨rfl,rfl⟩⟩
 ·have hW:WNT EN D.1 D.2=EN (D.2.getD j 0):=by
   unfold WNT;rw [if_pos h0];refine z7b (j:=j) ?_ (fun i q hi hq=>?_) hn
   ·rw [List.getD_eq_getElem?_getD,List.getElem?_eq_getElem hj]
    rfl
   ·have:=hz i hi
    rw [List.getD_eq_getElem?_getD,hq] at this;exact this
  exact bad _ hn hW he
structure ASKD (w W:World) (l:List RND) (E:Int) (P:List Nat) (V:Int) (a:Option Addr) (K c:Nat):Prop where
 err:WNT (fun p=>(RGOT l p).1) E P=V
 len:KOF V P=K
 flat:Flat W a K (ZOF V (fun p=>(RGOT l p).2) P)
 lt:∀ x,a=some x->x.block<W.heap.size
theorem ASKD.below {w W W':World} {l:List RND} {E V:Int} {P:List Nat} {a:Option Addr} {K c:Nat} (h:ASKD w W l E P V a K c) (hb:Below W.heap.size W W'):ASKD w W' l E P V a K c:=
 ⟨h.err,h.len,h.flat.below hb,fun x e=>Nat.lt_of_lt_of_le (h.lt x e) hb.size⟩
theorem z4n {w W:World} {l:List RND} {E V:Int} {P:List Nat} {a:Option Addr} {c:Nat} (hW:WNT (fun p=>(RGOT l p).1) E P=V) (hV:V≠0) (ha:∀ x,a=some x->x.block<W.heap.size):ASKD w W l E P V a 0 c:=
 ⟨hW,if_neg hV,by unfold ZOF;rw [if_neg hV];exact ⟨rfl,fun h=>by omega,fun x hx=>by cases hx⟩,ha⟩
theorem z3g {l:List RND} {V:Int} (h:∀ v∈l,∀ x∈v.hash,0<=x/\x<=255) (P:List Nat):∀ x∈ZOF V (fun p=>(RGOT l p).2) P,0<=x/\x<=255:=by
 unfold ZOF;split
 ·exact z4U h P
 ·intro x hx
  cases hx
structure PMS (W:World) (B lo b1 b2:Nat) (t:TypeId) (K:Nat) (Z:List Int) (X1 Y1 X2 Y2:Nat) (a1 a2:Option Addr) (c1 c2:Nat):Prop where
 h1:Has W b1 #[.int .u64 (X1:Int),.int .u64 (Y1:Int),.slice a1 K c1] t
 h2:Has W b2 #[.int .u64 (X2:Int),.int .u64 (Y2:Int),.slice a2 K c2] t
 o1:W.ownsRow B 35 32 (.slice a1 K c1) K (z00 Z)
 o2:W.ownsRow B 35 32 (.slice a2 K c2) K (z00 Z)
 s1:∀ g,(Value.slice a1 K c1).ownBlock=some g->lo<=g/\g<b1
 s2:∀ g,(Value.slice a2 K c2).ownBlock=some g->b1<g/\g<b2
 lb:lo<=b1/\b1<b2/\b2<W.heap.size
theorem PMS.below {W W':World} {B lo b1 b2 K X1 Y1 X2 Y2 c1 c2:Nat} {t:TypeId} {Z:List Int} {a1 a2:Option Addr} (h:PMS W B lo b1 b2 t K Z X1 Y1 X2 Y2 a1 a2 c1 c2) (hb:Below W.heap.size W W'):PMS W' B lo b1 b2 t K Z X1 Y1 X2 Y2 a1 a2 c1 c2:=
 ⟨h.h1.keep hb,h.h2.keep hb,z1t h.o1 fun k e=>hb.block k (h.o1.lt k e).2,z1t h.o2 fun k e=>hb.block k (h.o2.lt k e).2,h.s1,h.s2,h.lb.1,h.lb.2.1,Nat.lt_of_lt_of_le h.lb.2.2 hb.size⟩
theorem zdQ {wB w4 w5 w6 w7 w8:World} {t:TypeId} {K X1 Y1 X2 Y2 c1 c2:Nat} {Z:List Int} {a1 a2:Option Addr} (hB:wB.heap.size<=w4.heap.size) (hb5:Below w4.heap.size w4 w5) (o1:w5.ownsRow w4.heap.size 35 32 (.slice a1 K c1) K (z00 Z)) (e6:w5.alloc (.cells #[.int .u64 (X1:Int),.int .u64 (Y1:Int),.slice a1 K c1] t)=w6) (hb7:Below w6.heap.size w6 w7) (o2:w7.ownsRow w6.heap.size 35 32 (.slice a2 K c2) K (z00 Z)) (e8:w7.alloc (.cells #[.int .u64 (X2:Int),.int .u64 (Y2:Int),.slice a2 K c2] t)=w8):
  PMS w8 wB.heap.size w4.heap.size w5.heap.size w7.heap.size t K Z X1 Y1 X2 Y2 a1 a2 c1 c2/\Below w4.heap.size w4 w8:=by
 have hb6:Below w5.heap.size w5 w6:=by rw [<-e6];exact (Below.refl _ _).alloc (Nat.le_refl _) _
 have hb8:Below w7.heap.size w7 w8:=by rw [<-e8];exact (Below.refl _ _).alloc (Nat.le_refl _) _
 have n6:w6.heap.size=w5.heap.size+1:=by rw [<-e6];simp
 have n8:w8.heap.size=w7.heap.size+1:=by rw [<-e8];simp
 have h68:Below w6.heap.size w6 w8:=hb7.trans (hb8.mono hb7.size);have h58:Below w5.heap.size w5 w8:=hb6.trans (h68.mono hb6.size);have s5:=hb5.size;have s7:=hb7.size;have h1:Has w6 w5.heap.size #[.int .u64 (X1:Int),.int .u64 (Y1:Int),.slice a1 K c1] t:=by rw [<-e6];exact Has.new _ _ _
 have h2:Has w8 w7.heap.size #[.int .u64 (X2:Int),.int .u64 (Y2:Int),.slice a2 K c2] t:=by rw [<-e8];exact Has.new _ _ _
 refine ⟨⟨h1.keep h68,h2,?_,?_,fun g e=>o1.lt g e,fun g e=>?_,by omega,by omega,by omega⟩,hb5.trans (h58.mono s5)⟩
 ·exact z0P (z1t o1 fun k e=>h58.block k (o1.lt k e).2) hB
 ·exact z0P (z1t o2 fun k e=>hb8.block k (o2.lt k e).2) (by omega)
 ·have:=o2.lt g e
  omega
def zcf (B b1 b2 m3 b3 b4 k:Nat):Prop:=k<B\/k=b1\/(b2<=k/\k<m3)\/k=b3\/k=b4
theorem zdR {w:World} {B b1 b2 m3 b3 b4:Nat} {v0 v1 v2 v3:Value} {n0 n1 n2 n3:Nat} {x0 x1 x2 x3:List Value} (r0:w.ownsRow B 35 32 v0 n0 x0) (r1:w.ownsRow B 35 32 v1 n1 x1) (r2:w.ownsRow B 35 32 v2 n2 x2) (r3:w.ownsRow B 35 32 v3 n3 x3)
  (s0:∀ g,v0.ownBlock=some g->g<b1) (s1:∀ g,v1.ownBlock=some g->b1<g/\g<b2) (s2:∀ g,v2.ownBlock=some g->m3<=g/\g<b3) (s3:∀ g,v3.ownBlock=some g->b3<g/\g<b4) (hb:b1<b2/\b2<m3/\m3<=b3/\b3<b4):
  FAM 4 35 32 w B (zcf B b1 b2 m3 b3 b4) (V4 v0 v1 v2 v3) (V4 n0 n1 n2 n3) (V4 x0 x1 x2 x3):=by
 refine ⟨z1y r0 r1 r2 r3,?_,?_⟩
 ·intro x y hx hy hne g h1 h2
  have key:∀ z,z<4->(V4 v0 v1 v2 v3 z).ownBlock=some g->V4 0 (b1+1) m3 (b3+1) z<=g/\g<V4 b1 b2 b3 b4 z:=z1y (fun e=>⟨Nat.zero_le _,s0 g e⟩) (s1 g) (s2 g) (s3 g);have k1:=key x hx h1;have k2:=key y hy h2;match x,y,hx,hy with
  | 0,0,_,_=>exact hne rfl
  | 1,1,_,_=>exact hne rfl
  | 2,2,_,_=>exact hne rfl
  | 3,3,_,_=>exact hne rfl
  | 0,1,_,_=>simp [V4] at k1 k2;omega
  | 0,2,_,_=>simp [V4] at k1 k2;omega
  | 0,3,_,_=>simp [V4] at k1 k2;omega
  | 1,0,_,_=>simp [V4] at k1 k2;omega
  | 1,2,_,_=>simp [V4] at k1 k2;omega
  | 1,3,_,_=>simp [V4] at k1 k2;omega
  | 2,0,_,_=>simp [V4] at k1 k2;omega
  | 2,1,_,_=>simp [V4] at k1 k2;omega
  | 2,3,_,_=>simp [V4] at k1 k2;omega
  | 3,0,_,_=>simp [V4] at k1 k2;omega
  | 3,1,_,_=>simp [V4] at k1 k2;omega
  | 3,2,_,_=>simp [V4] at k1 k2;omega
 ·refine z1y (fun g e hk=>?_) (fun g e hk=>?_) (fun g e hk=>?_) (fun g e hk=>?_)
  ·have:=(r0.lt g e).1;have:=s0 g e;rcases hk with h | h | h | h | h <;> omega
  ·have:=(r1.lt g e).1;have:=s1 g e;rcases hk with h | h | h | h | h <;> omega
  ·have:=(r2.lt g e).1;have:=s2 g e;rcases hk with h | h | h | h | h <;> omega
  ·have:=(r3.lt g e).1;have:=s3 g e;rcases hk with h | h | h | h | h <;> omega
structure FST (w0 W:World) (B b1 b2 m3 b3 b4:Nat) (v:Nat->Value) (n:Nat->Nat) (xs:Nat->List Value):Prop where
 fam:FAM 4 35 32 W B (zcf B b1 b2 m3 b3 b4) v n xs
 kept:∀ k,zcf B b1 b2 m3 b3 b4 k->W.heap[k]?=w0.heap[k]?
 bel:Below B w0 W
 big:b4<W.heap.size
theorem FST.mark {w0 W:World} {B b1 b2 m3 b3 b4:Nat} {v:Nat->Value} {n:Nat->Nat} {xs:Nat->List Value} (h:FST w0 W B b1 b2 m3 b3 b4 v n xs) (hlt:B<b4/\b1<b4/\m3<=b4/\b3<b4) (hB:B<=w0.heap.size) {x:Nat} (hx:x<4) (hn:n x<=900) (m:Int):
  Calls Tryz.prog 17 #[v x,.int .u8 m] W fun e w'=>∃ g c,e=.returned (.slice (some ⟨g,0,none⟩) (n x+1+1) c)/\FST w0 w' B b1 b2 m3 b3 b4 (UPD v x (.slice (some ⟨g,0,none⟩) (n x+1+1) c)) (UPD n x (n x+1+1)) (UPD xs x (z00 (MKS m (n x+1+1)))):=by
 have hBW:B<=W.heap.size:=Nat.le_trans hB h.bel.size;refine (zfE B (v x) (n x) (xs x) m hn W hBW (h.fam.row x hx)).mono ?_;rintro e w' ⟨g,c,rfl,ho,hg,hat⟩;obtain ⟨f1,f2⟩:=h.fam.turn (x:=x) (g:=g) hx (fun k hk=>by have:=h.big;rcases hk with h | h | h | h | h <;> omega) ho hg hat
 exact ⟨g,c,rfl,f1,fun k hk=>(f2 k hk).trans (h.kept k hk),h.bel.grown hg hBW (fun k e=>((h.fam.row x hx).lt k e).1),Nat.lt_of_lt_of_le h.big (z2P hg)⟩
structure ASK (w w':World) (sb:Nat) (v:Value):Prop where
 os:w'.os=w.os
 tape:w'.tape=w.tape
 output:w'.output=w.output
 size:w.heap.size<=w'.heap.size
 block:∀ k,k<w.heap.size->k≠sb->some k≠v.ownBlock->w'.heap[k]?=w.heap[k]?
theorem ASK.own {w w':World} {sb:Nat} {v:Value} (h:ASK w w' sb v) {B:Nat} {t:TypeId} {s:Nat} {u:Value} {n:Nat} {xs:List Value} (ho:w.ownsRow B t s u n xs) (h1:u.ownBlock≠some sb) (h2:∀ k,u.ownBlock=some k->v.ownBlock≠some k):w'.ownsRow B t s u n xs:=
 z4f ho fun k hk=>h.block k (ho.lt k hk).2 (fun e=>h1 (by rw [hk,e])) (fun e=>h2 k hk e.symm)
theorem zaX {S:List (Nat × Nat)} (h:∀ s∈S,Node s.1 s.2):∀ p∈PLCS S,p<2 ^ 64:=fun p hp=>by
 obtain ⟨s,hs,rfl⟩:=List.mem_map.1 hp;have:=(h s hs).lt;omega
theorem zhz (i n:Nat):∀ p∈(PLA i n).2,p<2 ^ 64:=by
 unfold PLA;split
 ·simp
 ·split
  ·simp
  ·exact zaX fun s hs=>((zeX (by omega) (by omega)).1 s hs).1
theorem zhA (m n:Nat):∀ p∈(PPA m n).2,p<2 ^ 64:=by
 unfold PPA;split
 ·simp
 ·exact zaX fun s hs=>((zeT (by omega) (by omega)).within s hs).2.2
theorem z9a {w:World} {B n c:Nat} {a:Option Addr} {L:List Nat} (h:w.ownsRow B 24 1 (.slice a n c) n (z06 L)) (hl:L.length=n):NUML w a L:=fun h0=>by
 rcases h.2 with ⟨e,h1⟩ | ⟨g,cap,cur,e,hb,hg,_⟩
 ·omega
 ·cases e
  refine ⟨g,0,rfl,(Array.getElem?_eq_some_iff.1 hg).1,fun i x hx=>?_⟩;have hi:i<L.length:=(List.getElem?_eq_some_iff.1 hx).1;rw [Nat.zero_add,h.cellAt i (by omega),z06,List.getElem?_map,hx];rfl
theorem NUML.keep {w w':World} {a:Option Addr} {L:List Nat} (h:NUML w a L) (hb:Below w.heap.size w w'):NUML w' a L:=fun h0=>by
 obtain ⟨b,o,e,hl,hc⟩:=h h0;exact ⟨b,o,e,Nat.lt_of_lt_of_le hl hb.size,fun i x hx=>(hb.cell (p:=⟨b,o+i,none⟩) hl).trans (hc i x hx)⟩
end Go.Proofs.YthmnailmbgondaaGreatDoor
namespace Go.Proofs.YthmnailmbgondaaGreatDoor
set_option maxRecDepth 100000
theorem RANKS.take:∀ {L:List Nat} {t r:Nat},RANKS L t r->L.take r=L.filter fun y=>decide (y<t)
 | [],t,r,_=>by simp
 | x :: l,t,0,h=>by
   rw [List.take_zero];symm;rw [List.filter_eq_nil_iff];intro y hy;obtain ⟨i,hi⟩:=List.getElem?_of_mem hy;have:=h.hi i y (Nat.zero_le _) hi;simp;omega
 | x :: l,t,r+1,h=>by
   have hx:x<t:=h.lo 0 x (by omega) rfl;have h':RANKS l t r:=⟨by have:=h.le;simp at this;omega,fun i y hi hy=>h.lo (i+1) y (by omega) (by simpa using hy),fun i y hi hy=>h.hi (i+1) y (by omega) (by simpa using hy)⟩
   rw [List.take_succ_cons,List.filter_cons_of_pos (by simpa using hx),h'.take]
theorem RANKS.drop:∀ {L:List Nat} {t r:Nat},RANKS L t r->L.drop r=L.filter fun y=>!decide (y<t)
 | [],t,r,_=>by simp
 | x :: l,t,0,h=>by
   rw [List.drop_zero];symm;rw [List.filter_eq_self];intro y hy;obtain ⟨i,hi⟩:=List.getElem?_of_mem hy;have:=h.hi i y (Nat.zero_le _) hi;simp;omega
 | x :: l,t,r+1,h=>by
   have hx:x<t:=h.lo 0 x (by omega) rfl;have h':RANKS l t r:=⟨by have:=h.le;simp at this;omega,fun i y hi hy=>h.lo (i+1) y (by omega) (by simpa using hy),fun i y hi hy=>h.hi (i+1) y (by omega) (by simpa using hy)⟩
   rw [List.drop_succ_cons,List.filter_cons_of_neg (by simpa using hx),h'.drop]
theorem RISES.take {L:List Nat} (h:RISES L) (r:Nat):RISES (L.take r):=fun i j x y hij hx hy=>by
 rw [List.getElem?_take] at hx hy;split at hx
 ·split at hy
  ·exact h i j x y hij hx hy
  ·cases hy
 ·cases hx
theorem RISES.drop {L:List Nat} (h:RISES L) (r:Nat):RISES (L.drop r):=fun i j x y hij hx hy=>by
 rw [List.getElem?_drop] at hx hy;exact h (r+i) (r+j) x y (by omega) hx hy
end Go.Proofs.YthmnailmbgondaaGreatDoor
namespace Go.Proofs.YthmnailmbgondaaGreatDoor
open Go.RowKit
set_option maxRecDepth 100000
def SLA (a:Option Addr) (c k:Nat):Option Addr:=match a with
 | none=>none
 | some ad=>if c=k then some ad else some ⟨ad.block,ad.off+k*32,none⟩
theorem Flat.behind {w:World} {a:Option Addr} {n c:Nat} {l:List Int} (h:Flat w a n l) (k:Nat) (hk:k<=n) (hc:n<=c):Flat w (SLA a c k) (n - k) (l.drop (32*k)):=by
 refine ⟨by rw [List.length_drop,h.1];omega,fun h0=>?_,fun x hx=>h.2.2 x (List.mem_of_mem_drop hx)⟩;obtain ⟨b,o,rfl,hb,hcs⟩:=h.2.1 (by omega);have hck:¬ c=k:=by omega
 refine ⟨b,o+k*32,by simp [SLA,hck],hb,fun j hj=>?_⟩;rw [show o+k*32+j=o+(32*k+j) by omega,hcs (32*k+j) (by omega)];congr 2
 rw [List.getD_eq_getElem?_getD,List.getD_eq_getElem?_getD,List.getElem?_drop]
end Go.Proofs.YthmnailmbgondaaGreatDoor
namespace Go.Proofs.YthmnailmbgondaaGreatDoor
set_option maxRecDepth 100000
def UNR (h k:Nat) (L:List Nat):Prop:=RISES L/\∀ x∈L,k*2 ^ h<=x/\x<(k+1)*2 ^ h
theorem UNR.leaf {k x:Nat} {l:List Nat} (h:UNR 0 k (x :: l)):l=[]:=by
 cases l with
 | nil=>rfl
 | cons y m=>
   have h1:=h.1 0 1 x y (by omega) rfl rfl;have h2:=h.2 x (by simp);have h3:=h.2 y (by simp);simp at h2 h3;omega
def HSS (n:Nat) (l:List Int):Prop:=l.length=32*n/\∀ x∈l,0<=x/\x<=255
theorem HSS.rest {n:Nat} {l:List Int} (h:HSS n l):HSS (n - 1) (l.drop 32):=⟨by rw [List.length_drop,h.1];omega,fun x hx=>h.2 x (List.mem_of_mem_drop hx)⟩
end Go.Proofs.YthmnailmbgondaaGreatDoor
namespace Go.Proofs.YthmnailmbgondaaGreatDoor
open Go.RowKit
set_option maxRecDepth 100000
structure SPLIT (w w':World) (a:Option Addr) (n c:Nat) (L:List Nat) (t r:Nat) (a':Option Addr):Prop where
 rank:RANKS L t r
 lies:NUML w a' (L.drop r)
 nil:a'=none->c - r=0
 block:∀ x,a'=some x->∃ y,a=some y/\x.block=y.block
 spot:∀ x,a'=some x->x.spot=none
 below:Below w.heap.size w w'
def BUT (bc:Nat) (w w':World):Prop:=(∀ q,q<w.heap.size->q≠bc->w'.heap[q]?=w.heap[q]?)/\Below bc w w'
theorem BUT.refl (bc:Nat) (w:World):BUT bc w w:=⟨fun _ _ _=>rfl,Below.refl _ _⟩
theorem BUT.trans {bc:Nat} {w w1 w2:World} (h:BUT bc w w1) (h':BUT bc w1 w2):BUT bc w w2:=
 ⟨fun q hq hne=>(h'.1 q (Nat.lt_of_lt_of_le hq h.2.size) hne).trans (h.1 q hq hne),h.2.trans h'.2⟩
theorem BUT.of_below {bc:Nat} {w w':World} (hb:Below w.heap.size w w') (hc:bc<=w.heap.size):BUT bc w w':=⟨fun q hq _=>hb.block q hq,hb.mono hc⟩
theorem Flat.but {bc:Nat} {w w':World} {a:Option Addr} {n:Nat} {l:List Int} (h:Flat w a n l) (hb:BUT bc w w') (ha:∀ x,a=some x->x.block≠bc):Flat w' a n l:=by
 refine ⟨h.1,fun h0=>?_,h.2.2⟩;obtain ⟨b,o,e,hlt,hc⟩:=h.2.1 h0;exact ⟨b,o,e,Nat.lt_of_lt_of_le hlt hb.2.size,fun j hj=>(World.cell?_of_block (w:=w) (by exact hb.1 b hlt (ha _ e))).trans (hc j hj)⟩
end Go.Proofs.YthmnailmbgondaaGreatDoor
namespace Go.Proofs.YthmnailmbgondaaGreatDoor
open Go.RowKit
end Go.Proofs.YthmnailmbgondaaGreatDoor
namespace Go.Proofs.YthmnailmbgondaaGreatDoor
open Go.RowKit
set_option maxRecDepth 100000
end Go.Proofs.YthmnailmbgondaaGreatDoor
