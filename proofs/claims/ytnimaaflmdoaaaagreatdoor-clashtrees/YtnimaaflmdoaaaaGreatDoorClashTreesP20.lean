/- ClashTrees: part 20. -/
import Derived.Test.YtnimaaflmdoaaaaGreatDoorClashTreesP14
import Derived.Test.YtnimaaflmdoaaaaGreatDoorClashTreesP19
set_option maxHeartbeats 4000000
namespace Go.Proofs.YtnimaaflmdoaaaaGreatDoor
open Go.RowKit
set_option maxRecDepth 100000
def STP (P:World->Prop) (Fin:Int->World->Prop) (e:Ending) (w':World):Prop:=∃ E:Int,e=.returned (.int .i64 E)/\(E=0->P w')/\(E≠0->Fin E w')
theorem z6f (rb gl:Nat) (PP:Nat->World->Prop) (Fin:Int->World->Prop)
  (hc0:∀ W,PP 0 W->W.cell? ⟨gl,0,none⟩=some (.func (.func 92) #[.pointer (some ⟨rb,0,none⟩)] #[]))
  (hc1:∀ W,PP 1 W->W.cell? ⟨gl,1,none⟩=some (.func (.func 93) #[.pointer (some ⟨rb,0,none⟩)] #[]))
  (hc2:∀ W,PP 2 W->W.cell? ⟨gl,2,none⟩=some (.func (.func 94) #[.pointer (some ⟨rb,0,none⟩)] #[]))
  (hc3:∀ W,PP 3 W->W.cell? ⟨gl,3,none⟩=some (.func (.func 95) #[.pointer (some ⟨rb,0,none⟩)] #[]))
  (hd0:∀ W,PP 0 W->Calls Tryz.prog 92 #[.pointer (some ⟨rb,0,none⟩)] W (STP (PP 1) Fin))
  (hd1:∀ W,PP 1 W->Calls Tryz.prog 93 #[.pointer (some ⟨rb,0,none⟩)] W (STP (PP 2) Fin))
  (hd2:∀ W,PP 2 W->Calls Tryz.prog 94 #[.pointer (some ⟨rb,0,none⟩)] W (STP (PP 3) Fin))
  (hd3:∀ W,PP 3 W->Calls Tryz.prog 95 #[.pointer (some ⟨rb,0,none⟩)] W (STP (PP 4) Fin))
  (w:World) (h:PP 0 w):Calls Tryz.prog 91 #[.slice (some ⟨gl,0,none⟩) 4 4] w (STP (PP 4) Fin):=by
 have C0:Aside (∀ W,PP 0 W->W.cell? ⟨gl,0,none⟩=some (.func (.func 92) #[.pointer (some ⟨rb,0,none⟩)] #[])):=hc0;have D0:Aside (∀ W,PP 0 W->Calls Tryz.prog 92 #[.pointer (some ⟨rb,0,none⟩)] W (STP (PP 1) Fin)):=hd0;have C1:Aside (∀ W,PP 1 W->W.cell? ⟨gl,1,none⟩=some (.func (.func 93) #[.pointer (some ⟨rb,0,none⟩)] #[])):=hc1;have D1:Aside (∀ W,PP 1 W->Calls Tryz.prog 93 #[.pointer (some ⟨rb,0,none⟩)] W (STP (PP 2) Fin)):=hd1;have C2:Aside (∀ W,PP 2 W->W.cell? ⟨gl,2,none⟩=some (.func (.func 94) #[.pointer (some ⟨rb,0,none⟩)] #[])):=hc2;have D2:Aside (∀ W,PP 2 W->Calls Tryz.prog 94 #[.pointer (some ⟨rb,0,none⟩)] W (STP (PP 3) Fin)):=hd2;have C3:Aside (∀ W,PP 3 W->W.cell? ⟨gl,3,none⟩=some (.func (.func 95) #[.pointer (some ⟨rb,0,none⟩)] #[])):=hc3;have D3:Aside (∀ W,PP 3 W->Calls Tryz.prog 95 #[.pointer (some ⟨rb,0,none⟩)] W (STP (PP 4) Fin)):=hd3;have H0:Aside (PP 0 w):=h;clear hc0 hc1 hc2 hc3 hd0 hd1 hd2 hd3 h;go_enter Tryz.func91,Tryz.ntmps91;go_wp2;go_loopg [8] 4 (fun q s8 wx=>∃ k:Nat,s8=.int .i64 (k:Int)/\Aside (k+q=4/\PP k wx))
 case atStart=>exact ⟨0,rfl,by omega,H0.out⟩
 case round=>
  obtain ⟨k,rfl,A⟩:=hrel;cases gk with
  | zero=>
    obtain rfl:k=4:=by have:=A.out.1;omega
    have R:Aside (PP 4 wr):=A.out.2;clear A C0 C1 C2 C3 D0 D1 D2 D3 H0;go_wp2;go_ret;exact ⟨0,rfl,fun _=>R.out,fun h=>absurd rfl h⟩
  | succ q=>
    have hk:k=0\/k=1\/k=2\/k=3:=by have:=A.out.1;omega
    rcases hk with rfl | rfl | rfl | rfl
    ·have hc:=C0.out wr A.out.2
     have hd:=D0.out wr A.out.2;have R:Aside (0+1+q=4):=by have:=A.out.1;show 0+1+q=4;omega
     clear A C0 C1 C2 C3 D0 D1 D2 D3 H0;go_wp2_with fail
     refine hd.mono ?_;rintro e w1 ⟨E,rfl,h1,h2⟩;clear hd hc;by_cases hE:E=0
     ·subst hE
      have S:Aside (PP (0+1) w1):=h1 rfl;clear h1 h2;go_wp2;go_roundg q
      case measure=>exact Nat.lt_succ_self _
      case rel=>exact ⟨0+1,rfl,R.out,S.out⟩
     ·have hE':(E != 0)=true:=by simp [hE]
      have S:Aside (¬ E=0/\Fin E w1):=⟨hE,h2 hE⟩
      clear h1 h2 hE;go_wp2;go_ret;exact ⟨E,rfl,fun h=>absurd h S.out.1,fun _=>S.out.2⟩
    ·have hc:=C1.out wr A.out.2
     have hd:=D1.out wr A.out.2;have R:Aside (1+1+q=4):=by have:=A.out.1;show 1+1+q=4;omega
     clear A C0 C1 C2 C3 D0 D1 D2 D3 H0;go_wp2_with fail
     refine hd.mono ?_;rintro e w1 ⟨E,rfl,h1,h2⟩;clear hd hc;by_cases hE:E=0
     ·subst hE
      have S:Aside (PP (1+1) w1):=h1 rfl;clear h1 h2;go_wp2;go_roundg q
      case measure=>exact Nat.lt_succ_self _
      case rel=>exact ⟨1+1,rfl,R.out,S.out⟩
     ·have hE':(E != 0)=true:=by simp [hE]
      have S:Aside (¬ E=0/\Fin E w1):=⟨hE,h2 hE⟩
      clear h1 h2 hE;go_wp2;go_ret;exact ⟨E,rfl,fun h=>absurd h S.out.1,fun _=>S.out.2⟩
    ·have hc:=C2.out wr A.out.2
     have hd:=D2.out wr A.out.2;have R:Aside (2+1+q=4):=by have:=A.out.1;show 2+1+q=4;omega
     clear A C0 C1 C2 C3 D0 D1 D2 D3 H0;go_wp2_with fail
     refine hd.mono ?_;rintro e w1 ⟨E,rfl,h1,h2⟩;clear hd hc;by_cases hE:E=0
     ·subst hE
      have S:Aside (PP (2+1) w1):=h1 rfl;clear h1 h2;go_wp2;go_roundg q
      case measure=>exact Nat.lt_succ_self _
      case rel=>exact ⟨2+1,rfl,R.out,S.out⟩
     ·have hE':(E != 0)=true:=by simp [hE]
      have S:Aside (¬ E=0/\Fin E w1):=⟨hE,h2 hE⟩
      clear h1 h2 hE;go_wp2;go_ret;exact ⟨E,rfl,fun h=>absurd h S.out.1,fun _=>S.out.2⟩
    ·have hc:=C3.out wr A.out.2
     have hd:=D3.out wr A.out.2;have R:Aside (3+1+q=4):=by have:=A.out.1;show 3+1+q=4;omega
     clear A C0 C1 C2 C3 D0 D1 D2 D3 H0;go_wp2_with fail
     refine hd.mono ?_;rintro e w1 ⟨E,rfl,h1,h2⟩;clear hd hc;by_cases hE:E=0
     ·subst hE
      have S:Aside (PP (3+1) w1):=h1 rfl;clear h1 h2;go_wp2;go_roundg q
      case measure=>exact Nat.lt_succ_self _
      case rel=>exact ⟨3+1,rfl,R.out,S.out⟩
     ·have hE':(E != 0)=true:=by simp [hE]
      have S:Aside (¬ E=0/\Fin E w1):=⟨hE,h2 hE⟩
      clear h1 h2 hE;go_wp2;go_ret;exact ⟨E,rfl,fun h=>absurd h S.out.1,fun _=>S.out.2⟩
def z6g (v:Value) (X Y:Nat) (nv:Value):Array Value:=#[v,.int .u64 (X:Int),.int .u64 (Y:Int),nv]
structure FRM (w0 w:World) (rb gl:Nat) (t:TypeId) (v:Value) (X Y:Nat) (nv:Value) (fl:Array Value) (tf:TypeId):Prop where
 bel:Below w0.heap.size w0 w
 rd:Has w rb (z6g v X Y nv) t
 fl:Has w gl fl tf
 ne:gl≠rb
 lb:w0.heap.size<=rb
 lg:w0.heap.size<=gl
def SRC (w0:World) (a:Option Addr) (c:Nat) (t:List Int):Prop:=Bytes w0 a t.length t/\t.length<=c/\t.length<=1000000
theorem FRM.drew {w0 w:World} {rb gl:Nat} {t:TypeId} {v:Value} {X Y:Nat} {nv:Value} {fl:Array Value} {tf:TypeId} (h:FRM w0 w rb gl t v X Y nv fl tf):FRM w0 w.drew rb gl t v X Y nv fl tf:=⟨h.bel.drew,h.rd,h.fl,h.ne,h.lb,h.lg⟩
theorem FRM.keep {w0 w w':World} {rb gl:Nat} {t:TypeId} {v:Value} {X Y:Nat} {nv:Value} {fl:Array Value} {tf:TypeId} (h:FRM w0 w rb gl t v X Y nv fl tf) (hb:Below w.heap.size w w'):FRM w0 w' rb gl t v X Y nv fl tf:=⟨h.bel.trans (hb.mono h.bel.size),h.rd.keep hb,h.fl.keep hb,h.ne,h.lb,h.lg⟩
theorem FRM.rest {w0 w:World} {rb gl:Nat} {t:TypeId} {v:Value} {X Y:Nat} {nv:Value} {fl:Array Value} {tf:TypeId} (h:FRM w0 w rb gl t v X Y nv fl tf) (v':Value):FRM w0 (w.setCell ⟨rb,0,none⟩ v') rb gl t v' X Y nv fl tf:=
 ⟨h.bel.setCell (p:=⟨rb,0,none⟩) h.lb _,h.rd.set 0 v',h.fl.other (a:=⟨rb,0,none⟩) h.ne _,h.ne,h.lb,h.lg⟩
theorem FRM.first {w0 w:World} {rb gl:Nat} {t:TypeId} {v:Value} {X Y:Nat} {nv:Value} {fl:Array Value} {tf:TypeId} (h:FRM w0 w rb gl t v X Y nv fl tf) (Z:Nat):FRM w0 (w.setCell ⟨rb,1,none⟩ (.int .u64 (Z:Int))) rb gl t v Z Y nv fl tf:=
 ⟨h.bel.setCell (p:=⟨rb,1,none⟩) h.lb _,h.rd.set 1 _,h.fl.other (a:=⟨rb,1,none⟩) h.ne _,h.ne,h.lb,h.lg⟩
theorem FRM.second {w0 w:World} {rb gl:Nat} {t:TypeId} {v:Value} {X Y:Nat} {nv:Value} {fl:Array Value} {tf:TypeId} (h:FRM w0 w rb gl t v X Y nv fl tf) (Z:Nat):FRM w0 (w.setCell ⟨rb,2,none⟩ (.int .u64 (Z:Int))) rb gl t v X Z nv fl tf:=
 ⟨h.bel.setCell (p:=⟨rb,2,none⟩) h.lb _,h.rd.set 2 _,h.fl.other (a:=⟨rb,2,none⟩) h.ne _,h.ne,h.lb,h.lg⟩
theorem FRM.nodes {w0 w:World} {rb gl:Nat} {t:TypeId} {v:Value} {X Y:Nat} {nv:Value} {fl:Array Value} {tf:TypeId} (h:FRM w0 w rb gl t v X Y nv fl tf) (nv':Value):FRM w0 (w.setCell ⟨rb,3,none⟩ nv') rb gl t v X Y nv' fl tf:=
 ⟨h.bel.setCell (p:=⟨rb,3,none⟩) h.lb _,h.rd.set 3 _,h.fl.other (a:=⟨rb,3,none⟩) h.ne _,h.ne,h.lb,h.lg⟩
theorem SRC.drop {w0:World} {b off c:Nat} {t:List Int} (h:SRC w0 (some ⟨b,off,none⟩) c t) (k:Nat) (hk:k<=t.length):SRC w0 (REST b off c k) (c - k) (t.drop k):=by
 obtain ⟨h1,h2,h3⟩:=h;have:=h1.behind k hk h2;refine ⟨?_,by rw [List.length_drop];omega,by rw [List.length_drop];omega⟩;rw [List.length_drop];exact this
theorem SRC.addr {w0:World} {a:Option Addr} {c:Nat} {t:List Int} (h:SRC w0 a c t) (h0:0<t.length):∃ b off,a=some ⟨b,off,none⟩/\b<w0.heap.size/\∀ i,i<t.length->w0.cell? ⟨b,off+i,none⟩=some (.int .u8 (t.getD i 0)):=h.1.2.1 h0
theorem z8V {w0 w:World} {rb gl:Nat} {t:TypeId} {X Y:Nat} {nv:Value} {fl:Array Value} {tf:TypeId} {a:Option Addr} {c:Nat} {l:List Int} (F:FRM w0 w rb gl t (.slice a l.length c) X Y nv fl tf) (S:SRC w0 a c l) (f:Nat) (hl:(LNG l).2.2≠0):
  Calls Tryz.prog 133 #[.pointer (some ⟨rb,0,none⟩),.pointer (some ⟨rb,f,none⟩)] w.drew fun e w'=>e=.returned (.int .i64 (LNG l).2.2)/\Below w0.heap.size w0 w':=by
 have cl:=z6W a l.length c l w.drew ((S.1.below F.bel).below ((Below.refl _ _).drew)) S.2.1 (by have:=S.2.2;omega);refine (zbQ rb f _ _ _ _ w.drew hl (F.drew.rd.cell 0) cl).mono ?_;rintro e w' ⟨rfl,rfl⟩;exact ⟨rfl,F.drew.bel⟩
theorem zbY {w0 w:World} {rb gl:Nat} {t:TypeId} {X Y:Nat} {nv:Value} {fl:Array Value} {tf:TypeId} {a:Option Addr} {c:Nat} {l:List Int} (F:FRM w0 w rb gl t (.slice a l.length c) X Y nv fl tf) (S:SRC w0 a c l) (hl:(LNG l).2.2=0):
  ∃ (Z m:Nat) (a':Option Addr) (c':Nat),Z<2 ^ 64/\LNG l=((Z:Int),(m:Int),0)/\SRC w0 a' c' (l.drop m)/\Calls Tryz.prog 133 #[.pointer (some ⟨rb,0,none⟩),.pointer (some ⟨rb,1,none⟩)] w.drew fun e w'=>e=.returned (.int .i64 0)/\FRM w0 w' rb gl t (.slice a' (l.drop m).length c') Z Y nv fl tf:=by
 obtain ⟨Z,m,h1,h2,h3,h4,h5⟩:=z4s S.1.2.2 hl;obtain ⟨b,off,rfl,hb,hcs⟩:=S.addr (by omega);have cl:=z6W (some ⟨b,off,none⟩) l.length c l w.drew ((S.1.below F.bel).below ((Below.refl _ _).drew)) S.2.1 (by have:=S.2.2;omega);rw [show LG l l.length 10 0 0=LNG l from rfl,h4] at cl;refine ⟨Z,m,_,_,h1,h4,S.drop m h3,(z7x rb 1 (by decide) (Z:Int) b off l.length c m h3 S.2.1 _ w.drew (F.drew.rd.cell 0) (F.drew.rd.cell 1) (F.drew.rd.frozen 0) (F.drew.rd.frozen 1) cl).mono ?_⟩;rintro e w' ⟨rfl,rfl⟩;refine ⟨rfl,?_⟩;rw [List.length_drop];exact ((F.drew.drew).first Z).rest _
theorem z9N {w0 w:World} {rb gl:Nat} {t:TypeId} {X Y:Nat} {nv:Value} {fl:Array Value} {tf:TypeId} {a:Option Addr} {c:Nat} {l:List Int} (F:FRM w0 w rb gl t (.slice a l.length c) X Y nv fl tf) (S:SRC w0 a c l) (hl:(LNG l).2.2=0):
  ∃ (Z m:Nat) (a':Option Addr) (c':Nat),Z<2 ^ 64/\LNG l=((Z:Int),(m:Int),0)/\SRC w0 a' c' (l.drop m)/\Calls Tryz.prog 133 #[.pointer (some ⟨rb,0,none⟩),.pointer (some ⟨rb,2,none⟩)] w.drew fun e w'=>e=.returned (.int .i64 0)/\FRM w0 w' rb gl t (.slice a' (l.drop m).length c') X Z nv fl tf:=by
 obtain ⟨Z,m,h1,h2,h3,h4,h5⟩:=z4s S.1.2.2 hl;obtain ⟨b,off,rfl,hb,hcs⟩:=S.addr (by omega);have cl:=z6W (some ⟨b,off,none⟩) l.length c l w.drew ((S.1.below F.bel).below ((Below.refl _ _).drew)) S.2.1 (by have:=S.2.2;omega);rw [show LG l l.length 10 0 0=LNG l from rfl,h4] at cl;refine ⟨Z,m,_,_,h1,h4,S.drop m h3,(z7x rb 2 (by decide) (Z:Int) b off l.length c m h3 S.2.1 _ w.drew (F.drew.rd.cell 0) (F.drew.rd.cell 2) (F.drew.rd.frozen 0) (F.drew.rd.frozen 2) cl).mono ?_⟩;rintro e w' ⟨rfl,rfl⟩;refine ⟨rfl,?_⟩;rw [List.length_drop];exact ((F.drew.drew).second Z).rest _
theorem zdF {w0 w:World} {rb gl:Nat} {t:TypeId} {X Y:Nat} {nv:Value} {fl:Array Value} {tf:TypeId} {a:Option Addr} {c:Nat} {l:List Int} (F:FRM w0 w rb gl t (.slice a l.length c) X Y nv fl tf) (S:SRC w0 a c l) (K:Int):
  (l.length=0/\Calls Tryz.prog 132 #[.pointer (some ⟨rb,0,none⟩),.int .u8 K] w fun e w'=>e=.returned (.int .i64 11)/\w=w')\/
  (¬ l.length=0/\l.getD 0 0≠K/\Calls Tryz.prog 132 #[.pointer (some ⟨rb,0,none⟩),.int .u8 K] w fun e w'=>e=.returned (.int .i64 14)/\w=w')\/
  (¬ l.length=0/\l.getD 0 0=K/\∃ a' c',SRC w0 a' c' (l.drop 1)/\Calls Tryz.prog 132 #[.pointer (some ⟨rb,0,none⟩),.int .u8 K] w fun e w'=>e=.returned (.int .i64 0)/\FRM w0 w' rb gl t (.slice a' (l.drop 1).length c') X Y nv fl tf):=by
 by_cases h0:l.length=0
 ·refine .inl ⟨h0,?_⟩
  have hc:=F.rd.cell 0;rw [show (z6g (.slice a l.length c) X Y nv)[0]?=some (.slice a l.length c) from rfl,h0] at hc;exact zdA rb K a c w hc
 ·obtain ⟨b,off,rfl,hb,hcs⟩:=S.addr (by omega)
  have hx:w.cell? ⟨b,off,none⟩=some (.int .u8 (l.getD 0 0)):=by
   have:=hcs 0 (by omega);rw [Nat.add_zero] at this;exact (F.bel.cell (p:=⟨b,off,none⟩) hb).trans this
  have hc:=F.rd.cell 0;rw [show (z6g (.slice (some ⟨b,off,none⟩) l.length c) X Y nv)[0]?=some (.slice (some ⟨b,off,none⟩) l.length c) from rfl] at hc;by_cases hK:l.getD 0 0=K
  ·refine .inr (.inr ⟨h0,hK,_,_,S.drop 1 (by omega),?_⟩)
   obtain ⟨n,hn⟩:∃ n,l.length=n+1:=⟨l.length - 1,by omega⟩
   rw [hn] at hc;refine (zgq rb K b off n c (by have:=S.2.1;omega) w hc (F.rd.frozen 0) (by rw [<-hK];exact hx)).mono ?_;rintro e w' ⟨rfl,rfl⟩;refine ⟨rfl,?_⟩;rw [List.length_drop,hn,Nat.add_sub_cancel];exact F.rest _
  ·exact .inr (.inl ⟨h0,hK,zbP rb K _ b off l.length c w hK (by omega) hc hx⟩)
theorem z4t {w0 w:World} {rb gl:Nat} {t:TypeId} {X Y:Nat} {nv:Value} {fl:Array Value} {tf:TypeId} {a:Option Addr} {c:Nat} {l:List Int} (F:FRM w0 w rb gl t (.slice a l.length c) X Y nv fl tf) (S:SRC w0 a c l) (N:Nat) (hN:N<=1000):
  (l.length<32*N/\Calls Tryz.prog 134 #[.pointer (some ⟨rb,0,none⟩),.pointer (some ⟨rb,3,none⟩),.int .i64 (N:Int)] w fun e w'=>e=.returned (.int .i64 11)/\w=w')\/
  (¬ l.length<32*N/\32*N<l.length/\Calls Tryz.prog 134 #[.pointer (some ⟨rb,0,none⟩),.pointer (some ⟨rb,3,none⟩),.int .i64 (N:Int)] w fun e w'=>e=.returned (.int .i64 13)/\w=w')\/
  (l.length=32*N/\Calls Tryz.prog 134 #[.pointer (some ⟨rb,0,none⟩),.pointer (some ⟨rb,3,none⟩),.int .i64 (N:Int)] w fun e w'=>e=.returned (.int .i64 0)/\∃ g,FRM w0 w' rb gl t (.slice a l.length c) X Y (.slice (some ⟨g,0,none⟩) N N) fl tf/\Has w' g (z00 l).toArray 23/\w0.heap.size<=g/\g≠rb/\g≠gl):=by
 have hc:=F.rd.cell 0;rw [show (z6g (.slice a l.length c) X Y nv)[0]?=some (.slice a l.length c) from rfl] at hc;rcases Nat.lt_trichotomy l.length (32*N) with h | h | h
 ·exact .inl ⟨h,zbW rb 3 N l.length c a hN h w hc⟩
 ·refine .inr (.inr ⟨h,?_⟩)
  have hb:=S.1.below F.bel;rw [h] at hb hc;refine (zdC rb 3 N c a hN l w hb (by have:=S.2.1;omega) F.rd.lt hc _ (F.rd.cell 3) (F.rd.frozen 3)).mono ?_;rintro e w' ⟨rfl,wx,hbx,hsz,hh,rfl⟩;have hrb:=F.rd.lt;have hgl:=F.fl.lt;refine ⟨rfl,w.heap.size,((F.keep hbx).nodes _),hh.other (a:=⟨rb,3,none⟩) (by show w.heap.size≠rb;omega) _,F.bel.size,by omega,by omega⟩
 ·exact .inr (.inl ⟨by omega,h,z9M rb 3 N l.length c a hN h w hc⟩)
def RPP (w0:World) (rb gl:Nat) (t:TypeId) (fl:Array Value) (tf:TypeId) (K:Int) (chk:Nat->Bool) (PF:Nat->Nat->Int × List Nat) (D:DANS):Nat->World->Prop
 | 0,w=>∃ a c l,FRM w0 w rb gl t (.slice a l.length c) 0 0 (.slice none 0 0) fl tf/\SRC w0 a c l/\D=DC0 K chk PF l
 | 1,w=>∃ a c l,FRM w0 w rb gl t (.slice a l.length c) 0 0 (.slice none 0 0) fl tf/\SRC w0 a c l/\D=DC1 chk PF l
 | 2,w=>∃ a c l X,FRM w0 w rb gl t (.slice a l.length c) X 0 (.slice none 0 0) fl tf/\SRC w0 a c l/\X<2 ^ 64/\D=DC2 PF X l
 | 3,w=>∃ a c l X Y,FRM w0 w rb gl t (.slice a l.length c) X Y (.slice none 0 0) fl tf/\SRC w0 a c l/\X<2 ^ 64/\Y<2 ^ 64/\D=DC3 PF X Y l
 | _,w=>∃ a c l X Y N g,FRM w0 w rb gl t (.slice a l.length c) X Y (.slice (some ⟨g,0,none⟩) N N) fl tf/\SRC w0 a c l/\X<2 ^ 64/\Y<2 ^ 64/\D=(0,X,Y,N,l)/\l.length=32*N/\Has w g (z00 l).toArray 23/\w0.heap.size<=g/\g≠rb/\g≠gl
def RFIN (w0:World) (D:DANS) (E:Int) (w:World):Prop:=D=DERR E/\Below w0.heap.size w0 w
theorem z1M {f:Nat} {args:Array Value} {w:World} {P:World->Prop} {Fin:Int->World->Prop} {E:Int} {C:World->Prop} (h:Calls Tryz.prog f args w fun e w'=>e=.returned (.int .i64 E)/\C w') (h0:E=0->∀ w',C w'->P w') (h1:E≠0->∀ w',C w'->Fin E w'):Calls Tryz.prog f args w (STP P Fin):=
 h.mono fun _ w' ⟨he,hc⟩=>⟨E,he,fun e0=>h0 e0 w' hc,fun e1=>h1 e1 w' hc⟩
theorem zaD {w0 W:World} (hT:Tabled w0) (h0:0<w0.heap.size) (h:Below w0.heap.size w0 W):Tabled W/\0<W.heap.size:=⟨hT.below h0 h,Nat.lt_of_lt_of_le h0 h.size⟩
theorem zhe {w0:World} {rb gl:Nat} {t:TypeId} {fl:Array Value} {tf:TypeId} {chk:Nat->Bool} {PF:Nat->Nat->Int × List Nat} {D:DANS} (w:World) (h:RPP w0 rb gl t fl tf 77 chk PF D 0 w):
  Calls Tryz.prog 92 #[.pointer (some ⟨rb,0,none⟩)] w (STP (RPP w0 rb gl t fl tf 77 chk PF D 1) (RFIN w0 D)):=by
 obtain ⟨a,c,l,F,S,hD⟩:=h;rcases zdF F S 77 with ⟨h1,c1⟩ | ⟨h1,h2,c1⟩ | ⟨h1,h2,a',c',S',c1⟩
 ·refine z1M (z5O rb w 11 _ c1) (fun e=>absurd e (by decide)) fun _ w' hw=>?_
  subst hw;exact ⟨by rw [hD,DC0,if_pos h1],F.bel⟩
 ·refine z1M (z5O rb w 14 _ c1) (fun e=>absurd e (by decide)) fun _ w' hw=>?_
  subst hw;exact ⟨by rw [hD,DC0,if_neg h1,if_pos h2],F.bel⟩
 ·refine z1M (z5O rb w 0 _ c1) (fun _ w' hw=>⟨a',c',_,hw,S',?_⟩) fun e=>absurd rfl e
  rw [hD,DC0,if_neg h1,if_neg (by simpa using h2)]
theorem zhf {w0:World} {rb gl:Nat} {t:TypeId} {fl:Array Value} {tf:TypeId} {PF:Nat->Nat->Int × List Nat} {D:DANS} (w:World) (h:RPP w0 rb gl t fl tf 77 z1L PF D 1 w):
  Calls Tryz.prog 93 #[.pointer (some ⟨rb,0,none⟩)] w (STP (RPP w0 rb gl t fl tf 77 z1L PF D 2) (RFIN w0 D)):=by
 obtain ⟨a,c,l,F,S,hD⟩:=h;by_cases hl:(LNG l).2.2=0
 ·obtain ⟨Z,m,a',c',hZ,e1,S',c1⟩:=zbY F S hl
  have c2:Calls Tryz.prog 133 #[.pointer (some ⟨rb,0,none⟩),.pointer (some ⟨rb,1,none⟩)] w.drew fun e w'=>e=.returned (.int .i64 0)/\w'.cell? ⟨rb,1,none⟩=some (.int .u64 (Z:Int))/\FRM w0 w' rb gl t (.slice a' (l.drop m).length c') Z 0 (.slice none 0 0) fl tf:=c1.mono fun e w' ⟨he,hw⟩=>⟨he,hw.rd.cell 1,hw⟩
  unfold DC1 at hD;rw [if_neg (by simpa using hl),e1] at hD;have e2:((Z:Int)).toNat=Z:=by omega
  have e3:((m:Int)).toNat=m:=by omega
  simp only [e2,e3] at hD;by_cases hb:4611686018427387904<Z
  ·refine z1M (zdE rb w (Z:Int) (by omega) _ c2) (fun e=>absurd e (by decide)) fun _ w' hw=>⟨?_,hw.bel⟩
   rw [hD,if_pos (by simpa [z1L] using hb)]
  ·refine z1M (zfl rb w (Z:Int) (by omega) _ c2) (fun _ w' hw=>⟨a',c',_,Z,hw,S',hZ,?_⟩) fun e=>absurd rfl e
   rw [hD,if_neg (by simpa [z1L] using hb)]
 ·refine z1M (zdD rb w _ hl _ (z8V F S 1 hl)) (fun e=>absurd e hl) fun _ w' hw=>⟨?_,hw⟩
  rw [hD,DC1,if_pos hl]
theorem zhg {w0:World} {rb gl:Nat} {t:TypeId} {fl:Array Value} {tf:TypeId} {chk:Nat->Bool} {PF:Nat->Nat->Int × List Nat} {D:DANS} (w:World) (h:RPP w0 rb gl t fl tf 77 chk PF D 2 w):
  Calls Tryz.prog 94 #[.pointer (some ⟨rb,0,none⟩)] w (STP (RPP w0 rb gl t fl tf 77 chk PF D 3) (RFIN w0 D)):=by
 obtain ⟨a,c,l,X,F,S,hX,hD⟩:=h;by_cases hl:(LNG l).2.2=0
 ·obtain ⟨Z,m,a',c',hZ,e1,S',c1⟩:=z9N F S hl
  refine z1M (z7y rb w 0 _ c1) (fun _ w' hw=>⟨a',c',_,X,Z,hw,S',hX,hZ,?_⟩) fun e=>absurd rfl e;rw [hD,DC2,if_neg (by simpa using hl),e1];rfl
 ·refine z1M (z7y rb w _ _ (z8V F S 2 hl)) (fun e=>absurd e hl) fun _ w' hw=>⟨?_,hw⟩
  rw [hD,DC2,if_pos hl]
theorem zhh {w0:World} {rb gl:Nat} {t:TypeId} {fl:Array Value} {tf:TypeId} {chk:Nat->Bool} {D:DANS} (hT:Tabled w0) (h0:0<w0.heap.size) (w:World) (h:RPP w0 rb gl t fl tf 77 chk (fun S I=>PLA I S) D 3 w):
  Calls Tryz.prog 95 #[.pointer (some ⟨rb,0,none⟩)] w (STP (RPP w0 rb gl t fl tf 77 chk (fun S I=>PLA I S) D 4) (RFIN w0 D)):=by
 obtain ⟨a,c,l,X,Y,F,S,hX,hY,hD⟩:=h;obtain ⟨hT',h0'⟩:=zaD hT h0 F.drew.bel;have cp:=z3R Y X w.drew hT' h0';have hfew:=z6O Y X;have hPF:((fun S I=>PLA I S)) X Y=PLA Y X:=rfl;unfold DC3 at hD;rw [hPF] at hD;by_cases hE:(PLA Y X).1=0
 ·rw [if_neg (by simpa using hE)] at hD
  rw [hE] at cp;obtain ⟨N,hN⟩:∃ N,(PLA Y X).2.length=N:=⟨_,rfl⟩
  rw [hN] at cp hD hfew;rcases Nat.lt_trichotomy l.length (32*N) with h1 | h1 | h1
  ·refine z1M (z4W rb w X Y 11 N (fun w'=>Below w0.heap.size w0 w') (F.rd.cell 1) (F.rd.cell 2) (cp.mono ?_)) (fun e=>absurd e (by decide)) fun _ w' hw=>⟨by rw [hD,if_pos h1],hw⟩
   rintro e w1 ⟨v,rfl,hrow,hb⟩;obtain ⟨av,cv,rfl,_⟩:=z1S hrow;have F1:=(F.drew.keep hb).drew;refine ⟨av,cv,rfl,?_⟩;rcases z4t F1 S N (by omega) with ⟨_,c1⟩ | ⟨h2,_,_⟩ | ⟨h2,_⟩
   ·exact c1.mono fun e w2 ⟨he,hw⟩=>⟨he,by rw [<-hw];exact F1.bel⟩
   ·omega
   ·omega
  ·refine z1M (z4W rb w X Y 0 N (fun w'=>∃ g,FRM w0 w' rb gl t (.slice a l.length c) X Y (.slice (some ⟨g,0,none⟩) N N) fl tf/\Has w' g (z00 l).toArray 23/\w0.heap.size<=g/\g≠rb/\g≠gl) (F.rd.cell 1) (F.rd.cell 2) (cp.mono ?_)) (fun _ w' hw=>?_) fun e=>absurd rfl e
   ·rintro e w1 ⟨v,rfl,hrow,hb⟩
    obtain ⟨av,cv,rfl,_⟩:=z1S hrow;have F1:=(F.drew.keep hb).drew;refine ⟨av,cv,rfl,?_⟩;rcases z4t F1 S N (by omega) with ⟨h2,_⟩ | ⟨h2,h3,_⟩ | ⟨_,c1⟩
    ·omega
    ·omega
    ·exact c1
   ·obtain ⟨g,F2,hg,hg1,hg2,hg3⟩:=hw
    refine ⟨a,c,l,X,Y,N,g,F2,S,hX,hY,?_,h1,hg,hg1,hg2,hg3⟩;rw [hD,if_neg (by omega),if_neg (by omega)]
  ·refine z1M (z4W rb w X Y 13 N (fun w'=>Below w0.heap.size w0 w') (F.rd.cell 1) (F.rd.cell 2) (cp.mono ?_)) (fun e=>absurd e (by decide)) fun _ w' hw=>⟨by rw [hD,if_neg (by omega),if_pos h1],hw⟩
   rintro e w1 ⟨v,rfl,hrow,hb⟩;obtain ⟨av,cv,rfl,_⟩:=z1S hrow;have F1:=(F.drew.keep hb).drew;refine ⟨av,cv,rfl,?_⟩;rcases z4t F1 S N (by omega) with ⟨h2,_⟩ | ⟨_,_,c1⟩ | ⟨h2,_⟩
   ·omega
   ·exact c1.mono fun e w2 ⟨he,hw⟩=>⟨he,by rw [<-hw];exact F1.bel⟩
   ·omega
 ·refine z1M (zbX rb w X Y _ hE (fun w'=>Below w0.heap.size w0 w') (F.rd.cell 1) (F.rd.cell 2) (cp.mono ?_)) (fun e=>absurd e hE) fun _ w' hw=>⟨by rw [hD,if_pos hE],hw⟩
  rintro e w1 ⟨v,rfl,hrow,hb⟩;exact ⟨v,rfl,F.drew.bel.trans (hb.mono F.drew.bel.size)⟩
def DECD (w:World) (D:DANS) (e:Ending) (w':World):Prop:=
 ∃ v,e=.returned (.tuple #[v,.int .i64 D.1])/\Below w.heap.size w w'/\((D.1≠0/\v=.agg #[.int .u64 0,.int .u64 0,.slice none 0 0])\/(D.1=0/\D.2.1<2 ^ 64/\D.2.2.1<2 ^ 64/\D.2.2.2.2.length=32*D.2.2.2.1/\(∀ x∈D.2.2.2.2,0<=x/\x<=255)/\∃ g,v=.agg #[.int .u64 (D.2.1:Int),.int .u64 (D.2.2.1:Int),.slice (some ⟨g,0,none⟩) D.2.2.2.1 D.2.2.2.1]/\w.heap.size<=g/\Has w' g (z00 D.2.2.2.2).toArray 23))
theorem z7A (a:Option Addr) (n c:Nat) (hn:n<=1000000) (l:List Int) (w:World) (hB:Bytes w a n l) (hc:n<=c) (hT:Tabled w) (h0:0<w.heap.size):
  Calls Tryz.prog 55 #[.slice a n c] w (DECD w (DEC l)):=by
 have hln:l.length=n:=hB.1;obtain ⟨D,hD⟩:∃ D,DEC l=D:=⟨_,rfl⟩
 rw [hD];have hDD:D=DC0 77 z1L (fun S I=>PLA I S) l:=hD.symm;have HA:Aside (Bytes w a n l/\l.length=n/\n<=c/\n<=1000000/\D=DC0 77 z1L (fun S I=>PLA I S) l/\Tabled w/\0<w.heap.size):=⟨hB,hln,hc,hn,hDD,hT,h0⟩
 clear hB hc hn hD hT h0 hln hDD;go_enter Tryz.func55,Tryz.ntmps55;go_wp2_with fail
 have hR:=Has.new w #[.int .u64 0,.int .u64 0,.slice none 0 0] 49;have hb0:Below w.heap.size w (w.alloc (.cells #[.int .u64 0,.int .u64 0,.slice none 0 0] 49)):=(Below.refl _ _).alloc (Nat.le_refl _) _;have hs0:(w.alloc (.cells #[.int .u64 0,.int .u64 0,.slice none 0 0] 49)).heap.size=w.heap.size+1:=by simp
 generalize w.alloc (.cells #[.int .u64 0,.int .u64 0,.slice none 0 0] 49)=w0 at *
 rw [<-hs0];obtain ⟨b1,b2,b3,b4,b5,b6,b7⟩:=HA.out
 have hP0:RPP w0 w0.heap.size (w0.heap.size+1) 139 #[.func (.func 92) #[.pointer (some ⟨w0.heap.size,0,none⟩)] #[],.func (.func 93) #[.pointer (some ⟨w0.heap.size,0,none⟩)] #[],.func (.func 94) #[.pointer (some ⟨w0.heap.size,0,none⟩)] #[],.func (.func 95) #[.pointer (some ⟨w0.heap.size,0,none⟩)] #[]] 141 77 z1L (fun S I=>PLA I S) D 0
   ((w0.alloc (.cells #[.slice a n c,.int .u64 0,.int .u64 0,.slice none 0 0] 139)).alloc (.cells #[.func (.func 92) #[.pointer (some ⟨w0.heap.size,0,none⟩)] #[],.func (.func 93) #[.pointer (some ⟨w0.heap.size,0,none⟩)] #[],.func (.func 94) #[.pointer (some ⟨w0.heap.size,0,none⟩)] #[],.func (.func 95) #[.pointer (some ⟨w0.heap.size,0,none⟩)] #[]] 141)):=by
  refine ⟨a,c,l,⟨((Below.refl _ _).alloc (Nat.le_refl _) _).alloc (by simp) _,?_,?_,by omega,Nat.le_refl _,by omega⟩,⟨?_,by omega,by omega⟩,b5⟩
  ·rw [b2]
   exact (Has.new w0 _ _).alloc _
  ·exact Has.at _ _ _ (by simp)
  ·rw [b2]
   exact b1.below hb0
 obtain ⟨hT0,h00⟩:=zaD b6 b7 hb0
 have key:=z6f w0.heap.size (w0.heap.size+1) _ (RFIN w0 D)
  (fun W h=>by obtain ⟨_,_,_,F,_⟩:=h;exact F.fl.cell 0) (fun W h=>by obtain ⟨_,_,_,F,_⟩:=h;exact F.fl.cell 1) (fun W h=>by obtain ⟨_,_,_,_,F,_⟩:=h;exact F.fl.cell 2) (fun W h=>by obtain ⟨_,_,_,_,_,F,_⟩:=h;exact F.fl.cell 3)
  (fun W h=>zhe W h) (fun W h=>zhf W h) (fun W h=>zhg W h) (fun W h=>zhh hT0 h00 W h) _ hP0
 have R0:Aside (Below w.heap.size w w0/\Has w0 w.heap.size #[.int .u64 0,.int .u64 0,.slice none 0 0] 49/\w0.heap.size=w.heap.size+1):=⟨hb0,hR,hs0⟩
 clear hP0 hT0 h00 b1 b2 b3 b4 b5 b6 b7 HA hR hb0 hs0;refine key.mono ?_;rintro e w1 ⟨E,rfl,h1,h2⟩;clear key;by_cases hE:E=0
 ·subst hE
  obtain ⟨a',c',l',X,Y,N,g,F,S,hX,hY,hD,hl,hg,hg1,hg2,hg3⟩:=h1 rfl;obtain ⟨r1,r2,r3⟩:=R0.out;have hH:=r2.below F.bel (by omega);have x0:w1.cell? ⟨w.heap.size,0,none⟩=some (.int .u64 0):=hH.cell 0;have x1:w1.cell? ⟨w.heap.size,1,none⟩=some (.int .u64 0):=hH.cell 1;have x2:w1.cell? ⟨w.heap.size,2,none⟩=some (.slice none 0 0):=hH.cell 2;have f0:=hH.frozen 0;have f1:=hH.frozen 1;have f2:=hH.frozen 2;have y1:w1.cell? ⟨w0.heap.size,1,none⟩=some (.int .u64 (X:Int)):=F.rd.cell 1;have y2:w1.cell? ⟨w0.heap.size,2,none⟩=some (.int .u64 (Y:Int)):=F.rd.cell 2;have y3:w1.cell? ⟨w0.heap.size,3,none⟩=some (.slice (some ⟨g,0,none⟩) N N):=F.rd.cell 3;have R:Aside (Below w.heap.size w w1/\X<2 ^ 64/\Y<2 ^ 64/\D=(0,X,Y,N,l')/\l'.length=32*N/\(∀ x∈l',0<=x/\x<=255)/\Has w1 g (z00 l').toArray 23/\w0.heap.size<=g/\w0.heap.size=w.heap.size+1/\Has w1 w.heap.size #[.int .u64 0,.int .u64 0,.slice none 0 0] 49):=⟨r1.trans (F.bel.mono r1.size),hX,hY,hD,hl,S.1.2.2,hg,hg1,r3,hH⟩
  clear h1 h2 F S hX hY hD hl hg hg1 hg2 hg3 r1 r2 r3 hH R0;go_wp2;obtain ⟨r1,r2,r3,r4,r5,r6,r7,r8,r9,r10⟩:=R.out;have hH:=((r10.set 0 (.int .u64 (X:Int))).set 1 (.int .u64 (Y:Int))).set 2 (.slice (some ⟨g,0,none⟩) N N);have hg:=((r7.other (a:=⟨w.heap.size,0,none⟩) (by show g≠w.heap.size;omega) (.int .u64 (X:Int))).other (a:=⟨w.heap.size,1,none⟩) (by show g≠w.heap.size;omega) (.int .u64 (Y:Int))).other (a:=⟨w.heap.size,2,none⟩) (by show g≠w.heap.size;omega) (.slice (some ⟨g,0,none⟩) N N);have hb:=((r1.setCell (p:=⟨w.heap.size,0,none⟩) (Nat.le_refl _) (.int .u64 (X:Int))).setCell (p:=⟨w.heap.size,1,none⟩) (Nat.le_refl _) (.int .u64 (Y:Int))).setCell (p:=⟨w.heap.size,2,none⟩) (Nat.le_refl _) (.slice (some ⟨g,0,none⟩) N N);clear x0 x1 x2 f0 f1 f2 y1 y2 y3 R r1 r10 r7;generalize ((w1.setCell ⟨w.heap.size,0,none⟩ (.int .u64 (X:Int))).setCell ⟨w.heap.size,1,none⟩ (.int .u64 (Y:Int))).setCell ⟨w.heap.size,2,none⟩ (.slice (some ⟨g,0,none⟩) N N)=wf at *
  have z0:wf.cell? ⟨w.heap.size,0,none⟩=some (.int .u64 (X:Int)):=hH.cell 0;have z1:wf.cell? ⟨w.heap.size,1,none⟩=some (.int .u64 (Y:Int)):=hH.cell 1;have z2:wf.cell? ⟨w.heap.size,2,none⟩=some (.slice (some ⟨g,0,none⟩) N N):=hH.cell 2;rw [r4];refine bodyPost_ret (v:=.tuple #[.agg #[.int .u64 (X:Int),.int .u64 (Y:Int),.slice (some ⟨g,0,none⟩) N N],.int .i64 0]) ?_ rfl ⟨_,rfl,hb,.inr ⟨rfl,r2,r3,r5,r6,g,rfl,by omega,hg⟩⟩;simp [results,Tryz.f55,go_sem,z0,z1,z2]
 ·have hE':(E != 0)=true:=by simp [hE]
  obtain ⟨hD,hbw⟩:=h2 hE;obtain ⟨r1,r2,r3⟩:=R0.out;have hH:=r2.below hbw (by omega);have x0:w1.cell? ⟨w.heap.size,0,none⟩=some (.int .u64 0):=hH.cell 0;have x1:w1.cell? ⟨w.heap.size,1,none⟩=some (.int .u64 0):=hH.cell 1;have x2:w1.cell? ⟨w.heap.size,2,none⟩=some (.slice none 0 0):=hH.cell 2;have f0:=hH.frozen 0;have f1:=hH.frozen 1;have f2:=hH.frozen 2;have R:Aside (Below w.heap.size w w1/\D=DERR E/\¬ E=0/\Has w1 w.heap.size #[.int .u64 0,.int .u64 0,.slice none 0 0] 49):=⟨r1.trans (hbw.mono r1.size),hD,hE,hH⟩
  clear h1 h2 hD hbw r1 r2 r3 hH R0 hE;go_wp2;obtain ⟨r1,r4,r2,r10⟩:=R.out;have hH:=((r10.set 0 (.int .u64 0)).set 1 (.int .u64 0)).set 2 (.slice none 0 0);have hb:=((r1.setCell (p:=⟨w.heap.size,0,none⟩) (Nat.le_refl _) (.int .u64 0)).setCell (p:=⟨w.heap.size,1,none⟩) (Nat.le_refl _) (.int .u64 0)).setCell (p:=⟨w.heap.size,2,none⟩) (Nat.le_refl _) (.slice none 0 0);clear x0 x1 x2 f0 f1 f2 R r1 r10;generalize ((w1.setCell ⟨w.heap.size,0,none⟩ (.int .u64 0)).setCell ⟨w.heap.size,1,none⟩ (.int .u64 0)).setCell ⟨w.heap.size,2,none⟩ (.slice none 0 0)=wf at *
  have z0:wf.cell? ⟨w.heap.size,0,none⟩=some (.int .u64 0):=hH.cell 0;have z1:wf.cell? ⟨w.heap.size,1,none⟩=some (.int .u64 0):=hH.cell 1;have z2:wf.cell? ⟨w.heap.size,2,none⟩=some (.slice none 0 0):=hH.cell 2;rw [r4];refine bodyPost_ret (v:=.tuple #[.agg #[.int .u64 0,.int .u64 0,.slice none 0 0],.int .i64 E]) ?_ rfl ⟨_,rfl,hb,.inl ⟨r2,rfl⟩⟩;simp [results,Tryz.f55,go_sem,z0,z1,z2]
end Go.Proofs.YtnimaaflmdoaaaaGreatDoor
namespace Go.Proofs.YtnimaaflmdoaaaaGreatDoor
open Go.RowKit
theorem z6h (X:Nat) (t:List Int):(z0j X ++ t).drop (NTOP X+1)=t:=by
 rw [List.drop_append_of_le_length (by rw [z0R];omega),List.drop_of_length_le (by rw [z0R];omega),List.nil_append]
theorem z8W {K:Int} {chk:Nat->Bool} {PF:Nat->Nat->Int × List Nat} {X Y:Nat} (hX:X<2 ^ 64) (hY:Y<2 ^ 64) (hc:chk X=false) (t:List Int):DC0 K chk PF (K :: (z0j X ++ (z0j Y ++ t)))=DC3 PF X Y t:=by
 have e1:=z7z hX (z0j Y ++ t);have e2:=z7z hY t;unfold DC0;rw [if_neg (by simp),if_neg (by simp),List.drop_succ_cons,List.drop_zero];unfold DC1;rw [e1];dsimp only;rw [if_neg (by simp),Int.toNat_natCast,Int.toNat_natCast,hc,if_neg (by simp),z6h];unfold DC2;rw [e2];dsimp only;rw [if_neg (by simp),Int.toNat_natCast,Int.toNat_natCast,z6h]
theorem z6X {K:Int} {chk:Nat->Bool} {PF:Nat->Nat->Int × List Nat} {l:List Int} (hr:∀ x∈l,0<=x/\x<=255) {X Y N:Nat} {t:List Int} (h:DC0 K chk PF l=(0,X,Y,N,t)):
  X<2 ^ 64/\Y<2 ^ 64/\chk X=false/\(PF X Y).1=0/\N=(PF X Y).2.length/\t.length=32*N/\l=K :: (z0j X ++ (z0j Y ++ t))/\(∀ x∈t,0<=x/\x<=255):=by
 have bad:∀ {E:Int},DERR E=(0,X,Y,N,t)->E=0:=fun h=>congrArg Prod.fst h;unfold DC0 at h;split at h
 ·exact absurd (bad h) (by decide)
 rename_i h0;split at h
 ·exact absurd (bad h) (by decide)
 rename_i hK;have hr1:∀ x∈l.drop 1,0<=x/\x<=255:=fun x hx=>hr x (List.mem_of_mem_drop hx)
 have hl:l=K :: l.drop 1:=by
  cases l with
  | nil=>simp at h0
  | cons a l=>
    have:a=K:=by simpa using hK
    simp [this]
 unfold DC1 at h;split at h
 ·rename_i he
  exact absurd (bad h) he
 rename_i he;obtain ⟨Z,m,hZ,_,hm,e1,s1⟩:=z4s hr1 (by simpa using he);rw [e1] at h;dsimp only at h;rw [Int.toNat_natCast,Int.toNat_natCast] at h;split at h
 ·exact absurd (bad h) (by decide)
 rename_i hchk;have hr2:∀ x∈(l.drop 1).drop m,0<=x/\x<=255:=fun x hx=>hr1 x (List.mem_of_mem_drop hx);unfold DC2 at h;split at h
 ·rename_i he2
  exact absurd (bad h) he2
 rename_i he2;obtain ⟨Z2,m2,hZ2,_,hm2,e2,s2⟩:=z4s hr2 (by simpa using he2);rw [e2] at h;dsimp only at h;rw [Int.toNat_natCast,Int.toNat_natCast] at h;unfold DC3 at h;split at h
 ·rename_i he3
  exact absurd (bad h) he3
 rename_i he3;split at h
 ·exact absurd (bad h) (by decide)
 rename_i hlt;split at h
 ·exact absurd (bad h) (by decide)
 rename_i hgt;simp only [Prod.mk.injEq,true_and] at h;obtain ⟨rfl,rfl,rfl,rfl⟩:=h;refine ⟨hZ,hZ2,by simpa using hchk,by simpa using he3,rfl,by omega,?_,fun x hx=>hr2 x (List.mem_of_mem_drop hx)⟩;rw [s1,s2,List.take_append_drop,List.take_append_drop];exact hl
theorem zdG {S I n:Nat} {l c:List Int} (hS:S<2 ^ 64) (hI:I<2 ^ 64) (h:ENC S I n l=(0,c)):c=77 :: (z0j S ++ (z0j I ++ l))/\z1L S=false/\(PLA I S).1=0/\n=(PLA I S).2.length/\∀ t,DEC (77 :: (z0j S ++ (z0j I ++ t)))=DC3 (fun S I=>PLA I S) S I t:=by
 unfold ENC ENCB at h;split at h
 ·rename_i he
  exact absurd (congrArg Prod.fst h) he
 rename_i he;split at h
 ·exact absurd (congrArg Prod.fst h) (by simp)
 rename_i hn
 have hb:z1L S=false:=by
  unfold z1L;rw [decide_eq_false_iff_not];intro hb;apply he;unfold PLA;rw [if_pos hb];decide
 have hc:=congrArg Prod.snd h;dsimp only at hc;refine ⟨by rw [<-hc,List.append_assoc],hb,by simpa using he,by omega,fun t=>z8W hS hI hb t⟩
theorem zbZ {b t:List Int} (hr:∀ x∈b,0<=x/\x<=255) {S I N:Nat} (h:DEC b=(0,S,I,N,t)):ENC S I N t=(0,b)/\DEX b=DERR 14:=by
 obtain ⟨_,_,_,h4,h5,_,h7,_⟩:=z6X hr h;subst h7;refine ⟨?_,?_⟩
 ·unfold ENC ENCB
  rw [if_neg (by simpa using h4),if_neg (by omega),List.append_assoc]
 ·unfold DEX DC0
  rw [if_neg (by simp),if_pos (by simp)]
end Go.Proofs.YtnimaaflmdoaaaaGreatDoor
namespace Go.Proofs.YtnimaaflmdoaaaaGreatDoor
open Go.RowKit
set_option maxRecDepth 100000
theorem zgr (PF:Nat->Nat->Int × List Nat) (X Y:Nat) (t:List Int):DC3 PF X Y t=DERR (DC3 PF X Y t).1\/(DC3 PF X Y t).1=0:=by
 unfold DC3;split
 ·exact .inl rfl
 ·split
  ·exact .inl rfl
  ·split
   ·exact .inl rfl
   ·exact .inr rfl
theorem zgs (PF:Nat->Nat->Int × List Nat) (X:Nat) (t:List Int):DC2 PF X t=DERR (DC2 PF X t).1\/(DC2 PF X t).1=0:=by
 unfold DC2;split
 ·exact .inl rfl
 ·exact zgr _ _ _ _
theorem zgt (chk:Nat->Bool) (PF:Nat->Nat->Int × List Nat) (t:List Int):DC1 chk PF t=DERR (DC1 chk PF t).1\/(DC1 chk PF t).1=0:=by
 unfold DC1;split
 ·exact .inl rfl
 ·split
  ·exact .inl rfl
  ·exact zgs _ _ _
theorem zgu {K:Int} {chk:Nat->Bool} {PF:Nat->Nat->Int × List Nat} {l:List Int} (h:(DC0 K chk PF l).1≠0):DC0 K chk PF l=DERR (DC0 K chk PF l).1:=by
 have:DC0 K chk PF l=DERR (DC0 K chk PF l).1\/(DC0 K chk PF l).1=0:=by
  unfold DC0;split
  ·exact .inl rfl
  ·split
   ·exact .inl rfl
   ·exact zgt _ _ _
 rcases this with h1 | h1
 ·exact h1
 ·exact absurd h1 h
theorem zc0 {w:World} {B g N:Nat} {l:List Int} (h:Has w g (z00 l).toArray 23) (hl:l.length=32*N) (hB:B<=g) (hN:N<=1000):w.ownsRow B 23 32 (.slice (some ⟨g,0,none⟩) N N) N (z00 l):=by
 refine ⟨by rw [z00,List.length_map,hl,Nat.mul_comm],.inr ⟨g,N,_,rfl,hB,h,Nat.le_refl _,by simp [maxLen];omega,?_,?_⟩⟩
 ·simp [z00,hl,Nat.mul_comm]
 ·rw [List.take_of_length_le (by simp [z00,hl];omega)]
def DECO (w:World) (D:DANS) (e:Ending) (w':World):Prop:=
 ∃ a c,e=.returned (.tuple #[.agg #[.int .u64 (D.2.1:Int),.int .u64 (D.2.2.1:Int),.slice a D.2.2.2.1 c],.int .i64 D.1])/\w'.ownsRow w.heap.size 23 32 (.slice a D.2.2.2.1 c) D.2.2.2.1 (z00 D.2.2.2.2)/\(∀ x∈D.2.2.2.2,0<=x/\x<=255)/\Below w.heap.size w w'
theorem DECD.own {w w':World} {K:Int} {chk:Nat->Bool} {PF:Nat->Nat->Int × List Nat} {l:List Int} {e:Ending} (h:DECD w (DC0 K chk PF l) e w') (hf:(DC0 K chk PF l).1=0->(DC0 K chk PF l).2.2.2.1<=1000):DECO w (DC0 K chk PF l) e w':=by
 obtain ⟨v,rfl,hb,h⟩:=h;rcases h with ⟨hE,rfl⟩ | ⟨hE,h1,h2,h3,h4,g,rfl,hg,hh⟩
 ·have hD:=zgu hE
  rw [hD];refine ⟨none,0,rfl,World.ownsRow_nil _ _ _ _,by simp [DERR],hb⟩
 ·exact ⟨_,_,rfl,zc0 hh h3 hg (hf hE),h4,hb⟩
theorem zgv {l:List Int} (hr:∀ x∈l,0<=x/\x<=255) (h:(DEC l).1=0):(DEC l).2.2.2.1<=188:=by
 obtain ⟨E,S,I,N,t,hD⟩:∃ E S I N t,DEC l=(E,S,I,N,t):=⟨_,_,_,_,_,rfl⟩
 rw [hD] at h ⊢;obtain rfl:E=0:=h;obtain ⟨_,_,_,_,h5,_⟩:=z6X hr hD;have:=z6O I S;show N<=188;omega
theorem zc1 (a:Option Addr) (n c:Nat) (hn:n<=1000000) (l:List Int) (w:World) (hB:Bytes w a n l) (hc:n<=c) (hT:Tabled w) (h0:0<w.heap.size):Calls Tryz.prog 55 #[.slice a n c] w (DECO w (DEC l)):=
 (z7A a n c hn l w hB hc hT h0).mono fun _ _ h=>DECD.own h fun hE=>Nat.le_trans (zgv hB.2.2 hE) (by decide)
structure FAM (M:Nat) (t:TypeId) (s:Nat) (w:World) (B:Nat) (K:Nat->Prop) (v:Nat->Value) (n:Nat->Nat) (xs:Nat->List Value):Prop where
 row:∀ x,x<M->w.ownsRow B t s (v x) (n x) (xs x)
 apart:∀ x y,x<M->y<M->x≠y->∀ g,(v x).ownBlock=some g->(v y).ownBlock≠some g
 off:∀ x,x<M->∀ g,(v x).ownBlock=some g->¬ K g
theorem FAM.below {M:Nat} {t:TypeId} {s:Nat} {w w':World} {B:Nat} {K:Nat->Prop} {v:Nat->Value} {n:Nat->Nat} {xs:Nat->List Value} (h:FAM M t s w B K v n xs) (hb:Below w.heap.size w w'):FAM M t s w' B K v n xs:=⟨fun x hx=>z1Q (h.row x hx) hb,h.apart,h.off⟩
theorem FAM.heap {M:Nat} {t:TypeId} {s:Nat} {w w':World} {B:Nat} {K:Nat->Prop} {v:Nat->Value} {n:Nat->Nat} {xs:Nat->List Value} (h:FAM M t s w B K v n xs) (hk:∀ k,k<w.heap.size->¬ K k->w'.heap[k]?=w.heap[k]?):FAM M t s w' B K v n xs:=⟨fun x hx=>z8r (h.row x hx) fun k e=>hk k ((h.row x hx).lt k e).2 (h.off x hx k e),h.apart,h.off⟩
theorem FAM.turn {M:Nat} {t:TypeId} {s:Nat} {w w':World} {B:Nat} {K:Nat->Prop} {v:Nat->Value} {n:Nat->Nat} {xs:Nat->List Value} (h:FAM M t s w B K v n xs) {x g m c:Nat} {ys:List Value} (hx:x<M) (hK:∀ k,K k->k<w.heap.size)
  (hown:w'.ownsRow B t s (.slice (some ⟨g,0,none⟩) m c) m ys) (hg:w.grownBy w' (v x).ownBlock) (hat:(v x).ownBlock=some g\/w.heap.size<=g):FAM M t s w' B K (UPD v x (.slice (some ⟨g,0,none⟩) m c)) (UPD n x m) (UPD xs x ys)/\∀ k,K k->w'.heap[k]?=w.heap[k]?:=by
 have hgx:∀ y,y<M->y≠x->(v y).ownBlock≠some g:=fun y hy hne e=>by
  rcases hat with h1 | h1
  ·exact h.apart x y hx hy (fun e=>hne e.symm) g h1 e
  ·have:=((h.row y hy).lt g e).2
   omega
 refine ⟨⟨fun y hy=>?_,fun y z hy hz hne k e=>?_,fun y hy k e hk=>?_⟩,fun k hk=>hg.block k (hK k hk) fun e=>h.off x hx k e.symm hk⟩
 ·by_cases e:y=x
  ·subst e
   rw [z1A,z1A,z1A];exact hown
  ·rw [z0D _ _ e,z0D _ _ e,z0D _ _ e]
   exact z8r (h.row y hy) fun k hk=>hg.block k ((h.row y hy).lt k hk).2 fun e2=>h.apart x y hx hy (fun e3=>e e3.symm) k e2.symm hk
 ·by_cases e1:y=x
  ·subst e1
   rw [z1A] at e;have e:g=k:=by simpa [Value.ownBlock] using e
   subst e;rw [z0D _ _ (fun e2=>hne e2.symm)];exact hgx z hz fun e2=>hne e2.symm
  ·rw [z0D _ _ e1] at e
   by_cases e2:z=x
   ·subst e2
    rw [z1A];intro e3;have e3:g=k:=by simpa [Value.ownBlock] using e3
    subst e3;exact hgx y hy e1 e
   ·rw [z0D _ _ e2]
    exact h.apart y z hy hz hne k e
 ·by_cases e1:y=x
  ·subst e1
   rw [z1A] at e;have e:g=k:=by simpa [Value.ownBlock] using e
   subst e;rcases hat with h1 | h1
   ·exact h.off y hy g h1 hk
   ·have:=hK g hk
    omega
  ·rw [z0D _ _ e1] at e
   exact h.off y hy k e hk
theorem z7B {d:Int} {leaf:List Int} {S I n:Nat} {l:List Int} (hleaf:IsH leaf) (hl:l.length=32*n) (hr:∀ x∈l,0<=x/\x<=255):∀ x∈(CLA d leaf S I n l).2.2,0<=x/\x<=255:=by
 unfold CLA;split
 ·simp
 ·split
  ·simp
  ·rename_i h1 h2
   have hlen:(PSP I S).length=n:=by
    have h3:n=(PLA I S).2.length:=Decidable.not_not.1 h2;have h4:(PLA I S).1=0:=Decidable.not_not.1 h1;rw [h3];unfold PLA at h4 ⊢;split at h4
    ·simp at h4
    ·rename_i h5
     split at h4
     ·simp at h4
     ·rename_i h6
      rw [if_neg h5,if_neg h6];exact (z0P _).symm
   intro x hx;obtain ⟨s,_,hs⟩:=List.mem_flatMap.1 hx;refine (z67 (d:=d) (I:=I) (z3T (z59 hl hr (PSP I S).length (by omega)) hleaf 0 I) (RISE I S) s.1 s.2).2 x hs
def MEMA (d:Int) (root:List Int) (n i:Nat) (leaf bl:List Int):Int:=
 if (DEC bl).1≠0 then (DEC bl).1 else if (DEC bl).2.1≠n then 30 else if (DEC bl).2.2.1≠i then 32 else
  UNDA d n (CLA d leaf (DEC bl).2.1 (DEC bl).2.2.1 (DEC bl).2.2.2.1 (DEC bl).2.2.2.2).2.1 (CLA d leaf (DEC bl).2.1 (DEC bl).2.2.1 (DEC bl).2.2.2.1 (DEC bl).2.2.2.2).2.2 root
theorem z7C (d:Int) (root:List Int) (hroot:IsH root) (n i:Nat) (hn:n<2 ^ 64) (leaf:List Int) (hleaf:IsH leaf) (ba:Option Addr) (bn bc:Nat) (hbn:bn<=1000000) (hbc:bn<=bc) (bl:List Int) (w:World) (hB:Bytes w ba bn bl) (hT:Tabled w) (hX:HX.Tabled w) (h0:2<w.heap.size):
  Calls Tryz.prog 25 #[.int .i64 d,.agg (z00 root).toArray,.int .u64 (n:Int),.int .u64 (i:Int),.agg (z00 leaf).toArray,.slice ba bn bc] w fun e w'=>e=.returned (.int .i64 (MEMA d root n i leaf bl))/\Below w.heap.size w w':=by
 have l32:=hleaf.1;have r32:=hroot.1;obtain ⟨b7,hb7⟩:∃ b7,b7=w.heap.size:=⟨_,rfl⟩
 have R0:Aside (Below w.heap.size w ((w.alloc (.cells (z00 root).toArray 23)).alloc (.cells (z00 leaf).toArray 23))/\Has ((w.alloc (.cells (z00 root).toArray 23)).alloc (.cells (z00 leaf).toArray 23)) b7 (z00 root).toArray 23/\Has ((w.alloc (.cells (z00 root).toArray 23)).alloc (.cells (z00 leaf).toArray 23)) (b7+1) (z00 leaf).toArray 23):=by
  rw [hb7];exact ⟨((Below.refl _ _).alloc (Nat.le_refl _) _).alloc (by simp) _,(Has.new _ _ _).alloc _,Has.at _ _ _ (by simp)⟩
 have HT:Aside (∀ W,Below w.heap.size w W->Tabled W/\HX.Tabled W/\0<W.heap.size/\Bytes W ba bn bl/\2<W.heap.size):=fun W h=>by
  have hs:=h.size;exact ⟨hT.below (by omega) h,hX.below h,by omega,hB.below h,by omega⟩
 have HA:Aside (IsH root/\IsH leaf/\n<2 ^ 64/\bn<=1000000/\bn<=bc):=⟨hroot,hleaf,hn,hbn,hbc⟩
 clear hroot hleaf hn hbn hbc hB hT hX h0;obtain ⟨E,S,I,N,t,hD⟩:∃ E S I N t,DEC bl=(E,S,I,N,t):=⟨_,_,_,_,_,rfl⟩
 have hU:MEMA d root n i leaf bl=if E≠0 then E else if S≠n then 30 else if I≠i then 32 else UNDA d n (CLA d leaf S I N t).2.1 (CLA d leaf S I N t).2.2 root:=by unfold MEMA;rw [hD]
 generalize MEMA d root n i leaf bl=U at *
 have HV:Aside ((¬ E=0->U=E)/\(E=0->¬ S=n->U=30)/\(E=0->S=n->¬ I=i->U=32)/\(E=0->S=n->I=i->U=UNDA d n (CLA d leaf S I N t).2.1 (CLA d leaf S I N t).2.2 root)):=
  ⟨fun h=>hU.trans (if_pos h),fun h1 h2=>by rw [hU,if_neg (by simpa using h1),if_pos h2],fun h1 h2 h3=>by rw [hU,if_neg (by simpa using h1),if_neg (by simpa using h2),if_pos h3],fun h1 h2 h3=>by rw [hU,if_neg (by simpa using h1),if_neg (by simpa using h2),if_neg (by simpa using h3)]⟩
 clear hU;have HD:Aside (DEC bl=(E,S,I,N,t)):=hD;clear hD;go_enter Tryz.func25,Tryz.ntmps25;go_upto_region 1 with fail
 rw [<-hb7];have HB:Aside (b7=w.heap.size):=hb7;clear hb7;generalize (w.alloc (.cells (z00 root).toArray 23)).alloc (.cells (z00 leaf).toArray 23)=W0 at *
 go_wp2_with fail
 have cD:=zc1 ba bn bc HA.out.2.2.2.1 bl W0 (HT.out _ R0.out.1).2.2.2.1 HA.out.2.2.2.2 (HT.out _ R0.out.1).1 (HT.out _ R0.out.1).2.2.1;rw [HD.out] at cD;refine cD.mono ?_;clear cD HD;rintro e w1 ⟨a1,c1,rfl,hrow,hr,hb⟩;dsimp only at *
 obtain ⟨b8,hb8⟩:∃ b,b=w1.heap.size:=⟨_,rfl⟩
 have hbb:Below w1.heap.size w1 (w1.alloc (.cells #[.int .u64 (S:Int),.int .u64 (I:Int),.slice a1 N c1] 49)):=(Below.refl _ _).alloc (Nat.le_refl _) _
 have R1:Aside (Below w.heap.size w (w1.alloc (.cells #[.int .u64 (S:Int),.int .u64 (I:Int),.slice a1 N c1] 49))/\Has (w1.alloc (.cells #[.int .u64 (S:Int),.int .u64 (I:Int),.slice a1 N c1] 49)) b7 (z00 root).toArray 23/\Has (w1.alloc (.cells #[.int .u64 (S:Int),.int .u64 (I:Int),.slice a1 N c1] 49)) (b7+1) (z00 leaf).toArray 23/\Has (w1.alloc (.cells #[.int .u64 (S:Int),.int .u64 (I:Int),.slice a1 N c1] 49)) b8 #[.int .u64 (S:Int),.int .u64 (I:Int),.slice a1 N c1] 49/\Flat (w1.alloc (.cells #[.int .u64 (S:Int),.int .u64 (I:Int),.slice a1 N c1] 49)) a1 N t):=
  ⟨(R0.out.1.trans (hb.mono R0.out.1.size)).trans (hbb.mono (R0.out.1.trans (hb.mono R0.out.1.size)).size),(R0.out.2.1.keep hb).keep hbb,(R0.out.2.2.keep hb).keep hbb,Has.at _ _ _ hb8,(z3j hrow hr).below hbb⟩
 clear hrow hr hb hbb R0;go_upto_region 2 with fail
 rw [<-hb8];clear hb8;generalize w1.alloc (.cells #[.int .u64 (S:Int),.int .u64 (I:Int),.slice a1 N c1] 49)=W1 at *
 clear w1 W0;have y0:W1.cell? ⟨b8,0,none⟩=some (.int .u64 (S:Int)):=R1.out.2.2.2.1.cell 0;have y1:W1.cell? ⟨b8,1,none⟩=some (.int .u64 (I:Int)):=R1.out.2.2.2.1.cell 1;have y2:W1.cell? ⟨b8,2,none⟩=some (.slice a1 N c1):=R1.out.2.2.2.1.cell 2;have hb:=R1.out.1;by_cases hE:E=0
 ·by_cases hS:S=n
  ·by_cases hI:I=i
   ·have HW:Aside (U=UNDA d n (CLA d leaf S I N t).2.1 (CLA d leaf S I N t).2.2 root):=HV.out.2.2.2 hE hS hI
    subst hE hS hI;clear HV;have h10:=R1.out.2.2.1
    go_wp2_with (first
     | (refine wpList_load_row rfl 23 (.tmp 10) rfl (b7+1) rfl 23 (z00 leaf).toArray (0,0) _ h10 Tryz.underlying23 rfl (z07 l32) ?_)
     | fail)
    refine (z8I d leaf HA.out.2.1 S I a1 N c1 t W1 R1.out.2.2.2.2 (HT.out _ hb).1 (HT.out _ hb).2.1 (HT.out _ hb).2.2.2.2).mono ?_;have hrg:=z7B (d:=d) (S:=S) (I:=I) HA.out.2.1 R1.out.2.2.2.2.1 R1.out.2.2.2.2.2.2;generalize CLA d leaf S I N t=C at *
    obtain ⟨CE,CN,CL⟩:=C;rintro e w2 ⟨a2,c2,rfl,hrow,hb2⟩;dsimp only at *
    have R2:Aside (Below w.heap.size w w2/\Has w2 b7 (z00 root).toArray 23/\Flat w2 a2 CN CL):=⟨hb.trans (hb2.mono hb.size),R1.out.2.1.keep hb2,z3j hrow hrg⟩
    clear hrow hrg hb2 hb R1 y0 y1 y2 h10;have h7:=R2.out.2.1
    go_wp2_with (first
     | (refine wpList_load_row rfl 23 (.tmp 7) rfl b7 rfl 23 (z00 root).toArray (0,0) _ h7 Tryz.underlying23 rfl (z07 r32) ?_)
     | fail)
    refine (zdr d S HA.out.2.2.1 a2 CN c2 CL root HA.out.1 w2 R2.out.2.2 (HT.out _ R2.out.1).2.1).mono ?_;rintro e w3 ⟨rfl,hb3⟩;have R3:Aside (Below w.heap.size w w3):=R2.out.1.trans (hb3.mono R2.out.1.size);clear hb3 R2 h7 HT HA;go_wp2_with fail
    go_ret;exact ⟨by rw [HW.out];rfl,R3.out⟩
   ·have HW:Aside (U=32):=HV.out.2.2.1 hE hS hI
    have hI':¬ (I:Int)=(i:Int):=by omega
    subst hE hS;clear HV HT HA R1;go_wp2_with fail
    go_ret;exact ⟨by rw [HW.out];rfl,hb⟩
  ·have HW:Aside (U=30):=HV.out.2.1 hE hS
   have hS':¬ (S:Int)=(n:Int):=by omega
   subst hE;clear HV HT HA R1;go_wp2_with fail
   go_ret;exact ⟨by rw [HW.out];rfl,hb⟩
 ·have HW:Aside (U=E):=HV.out.1 hE
  clear HV HT HA R1 y0 y1 y2;go_wp2_with fail
  go_ret;exact ⟨by rw [HW.out];rfl,hb⟩
end Go.Proofs.YtnimaaflmdoaaaaGreatDoor
