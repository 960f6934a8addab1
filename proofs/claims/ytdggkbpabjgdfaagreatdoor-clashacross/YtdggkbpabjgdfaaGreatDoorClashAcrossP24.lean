/- ClashAcross: part 24. -/
import Derived.Test.YtdggkbpabjgdfaaGreatDoorClashAcrossP16
import Derived.Test.YtdggkbpabjgdfaaGreatDoorClashAcrossP23
set_option maxHeartbeats 4000000
namespace Go.Proofs.YtdggkbpabjgdfaaGreatDoor
open Go.RowKit
set_option maxRecDepth 100000
def DECD (w:World) (D:DANS) (e:Ending) (w':World):Prop:=
 ∃ v,e=.returned (.tuple #[v,.int .i64 D.1])/\Below w.heap.size w w'/\((D.1≠0/\v=.agg #[.int .u64 0,.int .u64 0,.slice none 0 0])\/(D.1=0/\D.2.1<2 ^ 64/\D.2.2.1<2 ^ 64/\D.2.2.2.2.length=32*D.2.2.2.1/\(∀ x∈D.2.2.2.2,0<=x/\x<=255)/\∃ g,v=.agg #[.int .u64 (D.2.1:Int),.int .u64 (D.2.2.1:Int),.slice (some ⟨g,0,none⟩) D.2.2.2.1 D.2.2.2.1]/\w.heap.size<=g/\Has w' g (z01 D.2.2.2.2).toArray 24))
theorem z9e (a:Option Addr) (n c:Nat) (hn:n<=1000000) (l:List Int) (w:World) (hB:Bytes w a n l) (hc:n<=c) (hT:Tabled w) (h0:0<w.heap.size):
  Calls Tryz.prog 38 #[.slice a n c] w (DECD w (DEC l)):=by
 have hln:l.length=n:=hB.1;obtain ⟨D,hD⟩:∃ D,DEC l=D:=⟨_,rfl⟩
 rw [hD];have hDD:D=DC0 77 z1t (fun S I=>PLA I S) l:=hD.symm;have HA:Aside (Bytes w a n l/\l.length=n/\n<=c/\n<=1000000/\D=DC0 77 z1t (fun S I=>PLA I S) l/\Tabled w/\0<w.heap.size):=⟨hB,hln,hc,hn,hDD,hT,h0⟩
 clear hB hc hn hD hT h0 hln hDD;go_enter Tryz.func38,Tryz.ntmps38;go_wp2_with fail
 have hR:=Has.new w #[.int .u64 0,.int .u64 0,.slice none 0 0] 40;have hb0:Below w.heap.size w (w.alloc (.cells #[.int .u64 0,.int .u64 0,.slice none 0 0] 40)):=(Below.refl _ _).alloc (Nat.le_refl _) _;have hs0:(w.alloc (.cells #[.int .u64 0,.int .u64 0,.slice none 0 0] 40)).heap.size=w.heap.size+1:=by simp
 generalize w.alloc (.cells #[.int .u64 0,.int .u64 0,.slice none 0 0] 40)=w0 at *
 rw [<-hs0];obtain ⟨b1,b2,b3,b4,b5,b6,b7⟩:=HA.out
 have hP0:RPP w0 w0.heap.size (w0.heap.size+1) 106 #[.func (.func 64) #[.pointer (some ⟨w0.heap.size,0,none⟩)] #[],.func (.func 65) #[.pointer (some ⟨w0.heap.size,0,none⟩)] #[],.func (.func 66) #[.pointer (some ⟨w0.heap.size,0,none⟩)] #[],.func (.func 67) #[.pointer (some ⟨w0.heap.size,0,none⟩)] #[]] 108 77 z1t (fun S I=>PLA I S) D 0
   ((w0.alloc (.cells #[.slice a n c,.int .u64 0,.int .u64 0,.slice none 0 0] 106)).alloc (.cells #[.func (.func 64) #[.pointer (some ⟨w0.heap.size,0,none⟩)] #[],.func (.func 65) #[.pointer (some ⟨w0.heap.size,0,none⟩)] #[],.func (.func 66) #[.pointer (some ⟨w0.heap.size,0,none⟩)] #[],.func (.func 67) #[.pointer (some ⟨w0.heap.size,0,none⟩)] #[]] 108)):=by
  refine ⟨a,c,l,⟨((Below.refl _ _).alloc (Nat.le_refl _) _).alloc (by simp) _,?_,?_,by omega,Nat.le_refl _,by omega⟩,⟨?_,by omega,by omega⟩,b5⟩
  ·rw [b2]
   exact (Has.new w0 _ _).alloc _
  ·exact Has.at _ _ _ (by simp)
  ·rw [b2]
   exact b1.below hb0
 obtain ⟨hT0,h00⟩:=z64 b6 b7 hb0
 have key:=z7K w0.heap.size (w0.heap.size+1) _ (RFIN w0 D)
  (fun W h=>by obtain ⟨_,_,_,F,_⟩:=h;exact F.fl.cell 0) (fun W h=>by obtain ⟨_,_,_,F,_⟩:=h;exact F.fl.cell 1) (fun W h=>by obtain ⟨_,_,_,_,F,_⟩:=h;exact F.fl.cell 2) (fun W h=>by obtain ⟨_,_,_,_,_,F,_⟩:=h;exact F.fl.cell 3)
  (fun W h=>ziY W h) (fun W h=>ziZ W h) (fun W h=>zj0 W h) (fun W h=>zj1 hT0 h00 W h) _ hP0
 have R0:Aside (Below w.heap.size w w0/\Has w0 w.heap.size #[.int .u64 0,.int .u64 0,.slice none 0 0] 40/\w0.heap.size=w.heap.size+1):=⟨hb0,hR,hs0⟩
 clear hP0 hT0 h00 b1 b2 b3 b4 b5 b6 b7 HA hR hb0 hs0;refine key.mono ?_;rintro e w1 ⟨E,rfl,h1,h2⟩;clear key;by_cases hE:E=0
 ·subst hE
  obtain ⟨a',c',l',X,Y,N,g,F,S,hX,hY,hD,hl,hg,hg1,hg2,hg3⟩:=h1 rfl;obtain ⟨r1,r2,r3⟩:=R0.out;have hH:=r2.below F.bel (by omega);have x0:w1.cell? ⟨w.heap.size,0,none⟩=some (.int .u64 0):=hH.cell 0;have x1:w1.cell? ⟨w.heap.size,1,none⟩=some (.int .u64 0):=hH.cell 1;have x2:w1.cell? ⟨w.heap.size,2,none⟩=some (.slice none 0 0):=hH.cell 2;have f0:=hH.frozen 0;have f1:=hH.frozen 1;have f2:=hH.frozen 2;have y1:w1.cell? ⟨w0.heap.size,1,none⟩=some (.int .u64 (X:Int)):=F.rd.cell 1;have y2:w1.cell? ⟨w0.heap.size,2,none⟩=some (.int .u64 (Y:Int)):=F.rd.cell 2;have y3:w1.cell? ⟨w0.heap.size,3,none⟩=some (.slice (some ⟨g,0,none⟩) N N):=F.rd.cell 3;have R:Aside (Below w.heap.size w w1/\X<2 ^ 64/\Y<2 ^ 64/\D=(0,X,Y,N,l')/\l'.length=32*N/\(∀ x∈l',0<=x/\x<=255)/\Has w1 g (z01 l').toArray 24/\w0.heap.size<=g/\w0.heap.size=w.heap.size+1/\Has w1 w.heap.size #[.int .u64 0,.int .u64 0,.slice none 0 0] 40):=⟨r1.trans (F.bel.mono r1.size),hX,hY,hD,hl,S.1.2.2,hg,hg1,r3,hH⟩
  clear h1 h2 F S hX hY hD hl hg hg1 hg2 hg3 r1 r2 r3 hH R0;go_wp2;obtain ⟨r1,r2,r3,r4,r5,r6,r7,r8,r9,r10⟩:=R.out;have hH:=((r10.set 0 (.int .u64 (X:Int))).set 1 (.int .u64 (Y:Int))).set 2 (.slice (some ⟨g,0,none⟩) N N);have hg:=((r7.other (a:=⟨w.heap.size,0,none⟩) (by show g≠w.heap.size;omega) (.int .u64 (X:Int))).other (a:=⟨w.heap.size,1,none⟩) (by show g≠w.heap.size;omega) (.int .u64 (Y:Int))).other (a:=⟨w.heap.size,2,none⟩) (by show g≠w.heap.size;omega) (.slice (some ⟨g,0,none⟩) N N);have hb:=((r1.setCell (p:=⟨w.heap.size,0,none⟩) (Nat.le_refl _) (.int .u64 (X:Int))).setCell (p:=⟨w.heap.size,1,none⟩) (Nat.le_refl _) (.int .u64 (Y:Int))).setCell (p:=⟨w.heap.size,2,none⟩) (Nat.le_refl _) (.slice (some ⟨g,0,none⟩) N N);clear x0 x1 x2 f0 f1 f2 y1 y2 y3 R r1 r10 r7;generalize ((w1.setCell ⟨w.heap.size,0,none⟩ (.int .u64 (X:Int))).setCell ⟨w.heap.size,1,none⟩ (.int .u64 (Y:Int))).setCell ⟨w.heap.size,2,none⟩ (.slice (some ⟨g,0,none⟩) N N)=wf at *
  have z0:wf.cell? ⟨w.heap.size,0,none⟩=some (.int .u64 (X:Int)):=hH.cell 0;have z1:wf.cell? ⟨w.heap.size,1,none⟩=some (.int .u64 (Y:Int)):=hH.cell 1;have z2:wf.cell? ⟨w.heap.size,2,none⟩=some (.slice (some ⟨g,0,none⟩) N N):=hH.cell 2;rw [r4];refine bodyPost_ret (v:=.tuple #[.agg #[.int .u64 (X:Int),.int .u64 (Y:Int),.slice (some ⟨g,0,none⟩) N N],.int .i64 0]) ?_ rfl ⟨_,rfl,hb,.inr ⟨rfl,r2,r3,r5,r6,g,rfl,by omega,hg⟩⟩;simp [results,Tryz.f38,go_sem,z0,z1,z2]
 ·have hE':(E != 0)=true:=by simp [hE]
  obtain ⟨hD,hbw⟩:=h2 hE;obtain ⟨r1,r2,r3⟩:=R0.out;have hH:=r2.below hbw (by omega);have x0:w1.cell? ⟨w.heap.size,0,none⟩=some (.int .u64 0):=hH.cell 0;have x1:w1.cell? ⟨w.heap.size,1,none⟩=some (.int .u64 0):=hH.cell 1;have x2:w1.cell? ⟨w.heap.size,2,none⟩=some (.slice none 0 0):=hH.cell 2;have f0:=hH.frozen 0;have f1:=hH.frozen 1;have f2:=hH.frozen 2;have R:Aside (Below w.heap.size w w1/\D=DERR E/\¬ E=0/\Has w1 w.heap.size #[.int .u64 0,.int .u64 0,.slice none 0 0] 40):=⟨r1.trans (hbw.mono r1.size),hD,hE,hH⟩
  clear h1 h2 hD hbw r1 r2 r3 hH R0 hE;go_wp2;obtain ⟨r1,r4,r2,r10⟩:=R.out;have hH:=((r10.set 0 (.int .u64 0)).set 1 (.int .u64 0)).set 2 (.slice none 0 0);have hb:=((r1.setCell (p:=⟨w.heap.size,0,none⟩) (Nat.le_refl _) (.int .u64 0)).setCell (p:=⟨w.heap.size,1,none⟩) (Nat.le_refl _) (.int .u64 0)).setCell (p:=⟨w.heap.size,2,none⟩) (Nat.le_refl _) (.slice none 0 0);clear x0 x1 x2 f0 f1 f2 R r1 r10;generalize ((w1.setCell ⟨w.heap.size,0,none⟩ (.int .u64 0)).setCell ⟨w.heap.size,1,none⟩ (.int .u64 0)).setCell ⟨w.heap.size,2,none⟩ (.slice none 0 0)=wf at *
  have z0:wf.cell? ⟨w.heap.size,0,none⟩=some (.int .u64 0):=hH.cell 0;have z1:wf.cell? ⟨w.heap.size,1,none⟩=some (.int .u64 0):=hH.cell 1;have z2:wf.cell? ⟨w.heap.size,2,none⟩=some (.slice none 0 0):=hH.cell 2;rw [r4];refine bodyPost_ret (v:=.tuple #[.agg #[.int .u64 0,.int .u64 0,.slice none 0 0],.int .i64 E]) ?_ rfl ⟨_,rfl,hb,.inl ⟨r2,rfl⟩⟩;simp [results,Tryz.f38,go_sem,z0,z1,z2]
theorem z42 (a:Option Addr) (n c:Nat) (hn:n<=1000000) (l:List Int) (w:World) (hB:Bytes w a n l) (hc:n<=c) (hT:Tabled w) (h0:0<w.heap.size):
  Calls Tryz.prog 41 #[.slice a n c] w (DECD w (DEX l)):=by
 have hln:l.length=n:=hB.1;obtain ⟨D,hD⟩:∃ D,DEX l=D:=⟨_,rfl⟩
 rw [hD];have hDD:D=DC0 80 (fun _=>false) PPA l:=hD.symm;have HA:Aside (Bytes w a n l/\l.length=n/\n<=c/\n<=1000000/\D=DC0 80 (fun _=>false) PPA l/\Tabled w/\0<w.heap.size):=⟨hB,hln,hc,hn,hDD,hT,h0⟩
 clear hB hc hn hD hT h0 hln hDD;go_enter Tryz.func41,Tryz.ntmps41;go_wp2_with fail
 have hR:=Has.new w #[.int .u64 0,.int .u64 0,.slice none 0 0] 48;have hb0:Below w.heap.size w (w.alloc (.cells #[.int .u64 0,.int .u64 0,.slice none 0 0] 48)):=(Below.refl _ _).alloc (Nat.le_refl _) _;have hs0:(w.alloc (.cells #[.int .u64 0,.int .u64 0,.slice none 0 0] 48)).heap.size=w.heap.size+1:=by simp
 generalize w.alloc (.cells #[.int .u64 0,.int .u64 0,.slice none 0 0] 48)=w0 at *
 rw [<-hs0];obtain ⟨b1,b2,b3,b4,b5,b6,b7⟩:=HA.out
 have hP0:RPP w0 w0.heap.size (w0.heap.size+1) 116 #[.func (.func 73) #[.pointer (some ⟨w0.heap.size,0,none⟩)] #[],.func (.func 74) #[.pointer (some ⟨w0.heap.size,0,none⟩)] #[],.func (.func 75) #[.pointer (some ⟨w0.heap.size,0,none⟩)] #[],.func (.func 76) #[.pointer (some ⟨w0.heap.size,0,none⟩)] #[]] 108 80 (fun _=>false) PPA D 0
   ((w0.alloc (.cells #[.slice a n c,.int .u64 0,.int .u64 0,.slice none 0 0] 116)).alloc (.cells #[.func (.func 73) #[.pointer (some ⟨w0.heap.size,0,none⟩)] #[],.func (.func 74) #[.pointer (some ⟨w0.heap.size,0,none⟩)] #[],.func (.func 75) #[.pointer (some ⟨w0.heap.size,0,none⟩)] #[],.func (.func 76) #[.pointer (some ⟨w0.heap.size,0,none⟩)] #[]] 108)):=by
  refine ⟨a,c,l,⟨((Below.refl _ _).alloc (Nat.le_refl _) _).alloc (by simp) _,?_,?_,by omega,Nat.le_refl _,by omega⟩,⟨?_,by omega,by omega⟩,b5⟩
  ·rw [b2]
   exact (Has.new w0 _ _).alloc _
  ·exact Has.at _ _ _ (by simp)
  ·rw [b2]
   exact b1.below hb0
 obtain ⟨hT0,h00⟩:=z64 b6 b7 hb0
 have key:=z7L w0.heap.size (w0.heap.size+1) _ (RFIN w0 D)
  (fun W h=>by obtain ⟨_,_,_,F,_⟩:=h;exact F.fl.cell 0) (fun W h=>by obtain ⟨_,_,_,F,_⟩:=h;exact F.fl.cell 1) (fun W h=>by obtain ⟨_,_,_,_,F,_⟩:=h;exact F.fl.cell 2) (fun W h=>by obtain ⟨_,_,_,_,_,F,_⟩:=h;exact F.fl.cell 3)
  (fun W h=>zj2 W h) (fun W h=>zj3 W h) (fun W h=>zj4 W h) (fun W h=>zj5 hT0 h00 W h) _ hP0
 have R0:Aside (Below w.heap.size w w0/\Has w0 w.heap.size #[.int .u64 0,.int .u64 0,.slice none 0 0] 48/\w0.heap.size=w.heap.size+1):=⟨hb0,hR,hs0⟩
 clear hP0 hT0 h00 b1 b2 b3 b4 b5 b6 b7 HA hR hb0 hs0;refine key.mono ?_;rintro e w1 ⟨E,rfl,h1,h2⟩;clear key;by_cases hE:E=0
 ·subst hE
  obtain ⟨a',c',l',X,Y,N,g,F,S,hX,hY,hD,hl,hg,hg1,hg2,hg3⟩:=h1 rfl;obtain ⟨r1,r2,r3⟩:=R0.out;have hH:=r2.below F.bel (by omega);have x0:w1.cell? ⟨w.heap.size,0,none⟩=some (.int .u64 0):=hH.cell 0;have x1:w1.cell? ⟨w.heap.size,1,none⟩=some (.int .u64 0):=hH.cell 1;have x2:w1.cell? ⟨w.heap.size,2,none⟩=some (.slice none 0 0):=hH.cell 2;have f0:=hH.frozen 0;have f1:=hH.frozen 1;have f2:=hH.frozen 2;have y1:w1.cell? ⟨w0.heap.size,1,none⟩=some (.int .u64 (X:Int)):=F.rd.cell 1;have y2:w1.cell? ⟨w0.heap.size,2,none⟩=some (.int .u64 (Y:Int)):=F.rd.cell 2;have y3:w1.cell? ⟨w0.heap.size,3,none⟩=some (.slice (some ⟨g,0,none⟩) N N):=F.rd.cell 3;have R:Aside (Below w.heap.size w w1/\X<2 ^ 64/\Y<2 ^ 64/\D=(0,X,Y,N,l')/\l'.length=32*N/\(∀ x∈l',0<=x/\x<=255)/\Has w1 g (z01 l').toArray 24/\w0.heap.size<=g/\w0.heap.size=w.heap.size+1/\Has w1 w.heap.size #[.int .u64 0,.int .u64 0,.slice none 0 0] 48):=⟨r1.trans (F.bel.mono r1.size),hX,hY,hD,hl,S.1.2.2,hg,hg1,r3,hH⟩
  clear h1 h2 F S hX hY hD hl hg hg1 hg2 hg3 r1 r2 r3 hH R0;go_wp2;obtain ⟨r1,r2,r3,r4,r5,r6,r7,r8,r9,r10⟩:=R.out;have hH:=((r10.set 0 (.int .u64 (X:Int))).set 1 (.int .u64 (Y:Int))).set 2 (.slice (some ⟨g,0,none⟩) N N);have hg:=((r7.other (a:=⟨w.heap.size,0,none⟩) (by show g≠w.heap.size;omega) (.int .u64 (X:Int))).other (a:=⟨w.heap.size,1,none⟩) (by show g≠w.heap.size;omega) (.int .u64 (Y:Int))).other (a:=⟨w.heap.size,2,none⟩) (by show g≠w.heap.size;omega) (.slice (some ⟨g,0,none⟩) N N);have hb:=((r1.setCell (p:=⟨w.heap.size,0,none⟩) (Nat.le_refl _) (.int .u64 (X:Int))).setCell (p:=⟨w.heap.size,1,none⟩) (Nat.le_refl _) (.int .u64 (Y:Int))).setCell (p:=⟨w.heap.size,2,none⟩) (Nat.le_refl _) (.slice (some ⟨g,0,none⟩) N N);clear x0 x1 x2 f0 f1 f2 y1 y2 y3 R r1 r10 r7;generalize ((w1.setCell ⟨w.heap.size,0,none⟩ (.int .u64 (X:Int))).setCell ⟨w.heap.size,1,none⟩ (.int .u64 (Y:Int))).setCell ⟨w.heap.size,2,none⟩ (.slice (some ⟨g,0,none⟩) N N)=wf at *
  have z0:wf.cell? ⟨w.heap.size,0,none⟩=some (.int .u64 (X:Int)):=hH.cell 0;have z1:wf.cell? ⟨w.heap.size,1,none⟩=some (.int .u64 (Y:Int)):=hH.cell 1;have z2:wf.cell? ⟨w.heap.size,2,none⟩=some (.slice (some ⟨g,0,none⟩) N N):=hH.cell 2;rw [r4];refine bodyPost_ret (v:=.tuple #[.agg #[.int .u64 (X:Int),.int .u64 (Y:Int),.slice (some ⟨g,0,none⟩) N N],.int .i64 0]) ?_ rfl ⟨_,rfl,hb,.inr ⟨rfl,r2,r3,r5,r6,g,rfl,by omega,hg⟩⟩;simp [results,Tryz.f41,go_sem,z0,z1,z2]
 ·have hE':(E != 0)=true:=by simp [hE]
  obtain ⟨hD,hbw⟩:=h2 hE;obtain ⟨r1,r2,r3⟩:=R0.out;have hH:=r2.below hbw (by omega);have x0:w1.cell? ⟨w.heap.size,0,none⟩=some (.int .u64 0):=hH.cell 0;have x1:w1.cell? ⟨w.heap.size,1,none⟩=some (.int .u64 0):=hH.cell 1;have x2:w1.cell? ⟨w.heap.size,2,none⟩=some (.slice none 0 0):=hH.cell 2;have f0:=hH.frozen 0;have f1:=hH.frozen 1;have f2:=hH.frozen 2;have R:Aside (Below w.heap.size w w1/\D=DERR E/\¬ E=0/\Has w1 w.heap.size #[.int .u64 0,.int .u64 0,.slice none 0 0] 48):=⟨r1.trans (hbw.mono r1.size),hD,hE,hH⟩
  clear h1 h2 hD hbw r1 r2 r3 hH R0 hE;go_wp2;obtain ⟨r1,r4,r2,r10⟩:=R.out;have hH:=((r10.set 0 (.int .u64 0)).set 1 (.int .u64 0)).set 2 (.slice none 0 0);have hb:=((r1.setCell (p:=⟨w.heap.size,0,none⟩) (Nat.le_refl _) (.int .u64 0)).setCell (p:=⟨w.heap.size,1,none⟩) (Nat.le_refl _) (.int .u64 0)).setCell (p:=⟨w.heap.size,2,none⟩) (Nat.le_refl _) (.slice none 0 0);clear x0 x1 x2 f0 f1 f2 R r1 r10;generalize ((w1.setCell ⟨w.heap.size,0,none⟩ (.int .u64 0)).setCell ⟨w.heap.size,1,none⟩ (.int .u64 0)).setCell ⟨w.heap.size,2,none⟩ (.slice none 0 0)=wf at *
  have z0:wf.cell? ⟨w.heap.size,0,none⟩=some (.int .u64 0):=hH.cell 0;have z1:wf.cell? ⟨w.heap.size,1,none⟩=some (.int .u64 0):=hH.cell 1;have z2:wf.cell? ⟨w.heap.size,2,none⟩=some (.slice none 0 0):=hH.cell 2;rw [r4];refine bodyPost_ret (v:=.tuple #[.agg #[.int .u64 0,.int .u64 0,.slice none 0 0],.int .i64 E]) ?_ rfl ⟨_,rfl,hb,.inl ⟨r2,rfl⟩⟩;simp [results,Tryz.f41,go_sem,z0,z1,z2]
end Go.Proofs.YtdggkbpabjgdfaaGreatDoor
namespace Go.Proofs.YtdggkbpabjgdfaaGreatDoor
open Go.RowKit
theorem z7O (X:Nat) (t:List Int):(z0s X ++ t).drop (NTOP X+1)=t:=by
 rw [List.drop_append_of_le_length (by rw [z0Y];omega),List.drop_of_length_le (by rw [z0Y];omega),List.nil_append]
theorem zaS {K:Int} {chk:Nat->Bool} {PF:Nat->Nat->Int × List Nat} {X Y:Nat} (hX:X<2 ^ 64) (hY:Y<2 ^ 64) (hc:chk X=false) (t:List Int):DC0 K chk PF (K :: (z0s X ++ (z0s Y ++ t)))=DC3 PF X Y t:=by
 have e1:=z9c hX (z0s Y ++ t);have e2:=z9c hY t;unfold DC0;rw [if_neg (by simp),if_neg (by simp),List.drop_succ_cons,List.drop_zero];unfold DC1;rw [e1];dsimp only;rw [if_neg (by simp),Int.toNat_natCast,Int.toNat_natCast,hc,if_neg (by simp),z7O];unfold DC2;rw [e2];dsimp only;rw [if_neg (by simp),Int.toNat_natCast,Int.toNat_natCast,z7O]
theorem z3x {K:Int} {chk:Nat->Bool} {PF:Nat->Nat->Int × List Nat} {l:List Int} (hr:∀ x∈l,0<=x/\x<=255) {X Y N:Nat} {t:List Int} (h:DC0 K chk PF l=(0,X,Y,N,t)):
  X<2 ^ 64/\Y<2 ^ 64/\chk X=false/\(PF X Y).1=0/\N=(PF X Y).2.length/\t.length=32*N/\l=K :: (z0s X ++ (z0s Y ++ t))/\(∀ x∈t,0<=x/\x<=255):=by
 have bad:∀ {E:Int},DERR E=(0,X,Y,N,t)->E=0:=fun h=>congrArg Prod.fst h;unfold DC0 at h;split at h
 ·exact absurd (bad h) (by decide)
 rename_i h0;split at h
 ·exact absurd (bad h) (by decide)
 rename_i hK;have hr1:∀ x∈l.drop 1,0<=x/\x<=255:=fun x hx=>hr x (List.mem_of_mem_drop hx)
 have hl:l=K :: l.drop 1:=by
  cases l with
  | nil=>simp at h0
  | cons a l=>
    have:a=K:=by simpa using hK
    simp [this]
 unfold DC1 at h;split at h
 ·rename_i he
  exact absurd (bad h) he
 rename_i he;obtain ⟨Z,m,hZ,_,hm,e1,s1⟩:=z1P hr1 (by simpa using he);rw [e1] at h;dsimp only at h;rw [Int.toNat_natCast,Int.toNat_natCast] at h;split at h
 ·exact absurd (bad h) (by decide)
 rename_i hchk;have hr2:∀ x∈(l.drop 1).drop m,0<=x/\x<=255:=fun x hx=>hr1 x (List.mem_of_mem_drop hx);unfold DC2 at h;split at h
 ·rename_i he2
  exact absurd (bad h) he2
 rename_i he2;obtain ⟨Z2,m2,hZ2,_,hm2,e2,s2⟩:=z1P hr2 (by simpa using he2);rw [e2] at h;dsimp only at h;rw [Int.toNat_natCast,Int.toNat_natCast] at h;unfold DC3 at h;split at h
 ·rename_i he3
  exact absurd (bad h) he3
 rename_i he3;split at h
 ·exact absurd (bad h) (by decide)
 rename_i hlt;split at h
 ·exact absurd (bad h) (by decide)
 rename_i hgt;simp only [Prod.mk.injEq,true_and] at h;obtain ⟨rfl,rfl,rfl,rfl⟩:=h;refine ⟨hZ,hZ2,by simpa using hchk,by simpa using he3,rfl,by omega,?_,fun x hx=>hr2 x (List.mem_of_mem_drop hx)⟩;rw [s1,s2,List.take_append_drop,List.take_append_drop];exact hl
theorem zfq {S I n:Nat} {l c:List Int} (hS:S<2 ^ 64) (hI:I<2 ^ 64) (h:ENC S I n l=(0,c)):c=77 :: (z0s S ++ (z0s I ++ l))/\z1t S=false/\(PLA I S).1=0/\n=(PLA I S).2.length/\∀ t,DEC (77 :: (z0s S ++ (z0s I ++ t)))=DC3 (fun S I=>PLA I S) S I t:=by
 unfold ENC ENCB at h;split at h
 ·rename_i he
  exact absurd (congrArg Prod.fst h) he
 rename_i he;split at h
 ·exact absurd (congrArg Prod.fst h) (by simp)
 rename_i hn
 have hb:z1t S=false:=by
  unfold z1t;rw [decide_eq_false_iff_not];intro hb;apply he;unfold PLA;rw [if_pos hb];decide
 have hc:=congrArg Prod.snd h;dsimp only at hc;refine ⟨by rw [<-hc,List.append_assoc],hb,by simpa using he,by omega,fun t=>zaS hS hI hb t⟩
theorem zfr {F S n:Nat} {l c:List Int} (hF:F<2 ^ 64) (hS:S<2 ^ 64) (h:ENX F S n l=(0,c)):c=80 :: (z0s F ++ (z0s S ++ l))/\(PPA F S).1=0/\n=(PPA F S).2.length/\∀ t,DEX (80 :: (z0s F ++ (z0s S ++ t)))=DC3 PPA F S t:=by
 unfold ENX ENCB at h;split at h
 ·rename_i he
  exact absurd (congrArg Prod.fst h) he
 rename_i he;split at h
 ·exact absurd (congrArg Prod.fst h) (by simp)
 rename_i hn;have hc:=congrArg Prod.snd h;dsimp only at hc;exact ⟨by rw [<-hc,List.append_assoc],by simpa using he,by omega,fun t=>zaS hF hS rfl t⟩
theorem zdE {b t:List Int} (hr:∀ x∈b,0<=x/\x<=255) {S I N:Nat} (h:DEC b=(0,S,I,N,t)):ENC S I N t=(0,b)/\DEX b=DERR 14:=by
 obtain ⟨_,_,_,h4,h5,_,h7,_⟩:=z3x hr h;subst h7;refine ⟨?_,?_⟩
 ·unfold ENC ENCB
  rw [if_neg (by simpa using h4),if_neg (by omega),List.append_assoc]
 ·unfold DEX DC0
  rw [if_neg (by simp),if_pos (by simp)]
theorem z66 {b t:List Int} (hr:∀ x∈b,0<=x/\x<=255) {F S N:Nat} (h:DEX b=(0,F,S,N,t)):ENX F S N t=(0,b):=by
 obtain ⟨_,_,_,h4,h5,_,h7,_⟩:=z3x hr h;subst h7;unfold ENX ENCB;rw [if_neg (by simpa using h4),if_neg (by omega),List.append_assoc]
end Go.Proofs.YtdggkbpabjgdfaaGreatDoor
namespace Go.Proofs.YtdggkbpabjgdfaaGreatDoor
open Go.RowKit
set_option maxRecDepth 100000
theorem zig (PF:Nat->Nat->Int × List Nat) (X Y:Nat) (t:List Int):DC3 PF X Y t=DERR (DC3 PF X Y t).1\/(DC3 PF X Y t).1=0:=by
 unfold DC3;split
 ·exact .inl rfl
 ·split
  ·exact .inl rfl
  ·split
   ·exact .inl rfl
   ·exact .inr rfl
theorem zih (PF:Nat->Nat->Int × List Nat) (X:Nat) (t:List Int):DC2 PF X t=DERR (DC2 PF X t).1\/(DC2 PF X t).1=0:=by
 unfold DC2;split
 ·exact .inl rfl
 ·exact zig _ _ _ _
theorem zii (chk:Nat->Bool) (PF:Nat->Nat->Int × List Nat) (t:List Int):DC1 chk PF t=DERR (DC1 chk PF t).1\/(DC1 chk PF t).1=0:=by
 unfold DC1;split
 ·exact .inl rfl
 ·split
  ·exact .inl rfl
  ·exact zih _ _ _
theorem zij {K:Int} {chk:Nat->Bool} {PF:Nat->Nat->Int × List Nat} {l:List Int} (h:(DC0 K chk PF l).1≠0):DC0 K chk PF l=DERR (DC0 K chk PF l).1:=by
 have:DC0 K chk PF l=DERR (DC0 K chk PF l).1\/(DC0 K chk PF l).1=0:=by
  unfold DC0;split
  ·exact .inl rfl
  ·split
   ·exact .inl rfl
   ·exact zii _ _ _
 rcases this with h1 | h1
 ·exact h1
 ·exact absurd h1 h
theorem zdF {w:World} {B g N:Nat} {l:List Int} (h:Has w g (z01 l).toArray 24) (hl:l.length=32*N) (hB:B<=g) (hN:N<=1000):w.ownsRow B 24 32 (.slice (some ⟨g,0,none⟩) N N) N (z01 l):=by
 refine ⟨by rw [z01,List.length_map,hl,Nat.mul_comm],.inr ⟨g,N,_,rfl,hB,h,Nat.le_refl _,by simp [maxLen];omega,?_,?_⟩⟩
 ·simp [z01,hl,Nat.mul_comm]
 ·rw [List.take_of_length_le (by simp [z01,hl];omega)]
def DECO (w:World) (D:DANS) (e:Ending) (w':World):Prop:=
 ∃ a c,e=.returned (.tuple #[.agg #[.int .u64 (D.2.1:Int),.int .u64 (D.2.2.1:Int),.slice a D.2.2.2.1 c],.int .i64 D.1])/\w'.ownsRow w.heap.size 24 32 (.slice a D.2.2.2.1 c) D.2.2.2.1 (z01 D.2.2.2.2)/\(∀ x∈D.2.2.2.2,0<=x/\x<=255)/\Below w.heap.size w w'
theorem DECD.own {w w':World} {K:Int} {chk:Nat->Bool} {PF:Nat->Nat->Int × List Nat} {l:List Int} {e:Ending} (h:DECD w (DC0 K chk PF l) e w') (hf:(DC0 K chk PF l).1=0->(DC0 K chk PF l).2.2.2.1<=1000):DECO w (DC0 K chk PF l) e w':=by
 obtain ⟨v,rfl,hb,h⟩:=h;rcases h with ⟨hE,rfl⟩ | ⟨hE,h1,h2,h3,h4,g,rfl,hg,hh⟩
 ·have hD:=zij hE
  rw [hD];refine ⟨none,0,rfl,World.ownsRow_nil _ _ _ _,by simp [DERR],hb⟩
 ·exact ⟨_,_,rfl,zdF hh h3 hg (hf hE),h4,hb⟩
theorem zik {l:List Int} (hr:∀ x∈l,0<=x/\x<=255) (h:(DEC l).1=0):(DEC l).2.2.2.1<=188:=by
 obtain ⟨E,S,I,N,t,hD⟩:∃ E S I N t,DEC l=(E,S,I,N,t):=⟨_,_,_,_,_,rfl⟩
 rw [hD] at h ⊢;obtain rfl:E=0:=h;obtain ⟨_,_,_,_,h5,_⟩:=z3x hr hD;have:=z8e I S;show N<=188;omega
theorem zil {l:List Int} (hr:∀ x∈l,0<=x/\x<=255) (h:(DEX l).1=0):(DEX l).2.2.2.1<=188:=by
 obtain ⟨E,S,I,N,t,hD⟩:∃ E S I N t,DEX l=(E,S,I,N,t):=⟨_,_,_,_,_,rfl⟩
 rw [hD] at h ⊢;obtain rfl:E=0:=h;obtain ⟨_,_,_,_,h5,_⟩:=z3x hr hD;have:=z8f S I;show N<=188;omega
theorem zdG (a:Option Addr) (n c:Nat) (hn:n<=1000000) (l:List Int) (w:World) (hB:Bytes w a n l) (hc:n<=c) (hT:Tabled w) (h0:0<w.heap.size):Calls Tryz.prog 38 #[.slice a n c] w (DECO w (DEC l)):=
 (z9e a n c hn l w hB hc hT h0).mono fun _ _ h=>DECD.own h fun hE=>Nat.le_trans (zik hB.2.2 hE) (by decide)
theorem z6W (a:Option Addr) (n c:Nat) (hn:n<=1000000) (l:List Int) (w:World) (hB:Bytes w a n l) (hc:n<=c) (hT:Tabled w) (h0:0<w.heap.size):Calls Tryz.prog 41 #[.slice a n c] w (DECO w (DEX l)):=
 (z42 a n c hn l w hB hc hT h0).mono fun _ _ h=>DECD.own h fun hE=>Nat.le_trans (zil hB.2.2 hE) (by decide)
structure FAM (M:Nat) (t:TypeId) (s:Nat) (w:World) (B:Nat) (K:Nat->Prop) (v:Nat->Value) (n:Nat->Nat) (xs:Nat->List Value):Prop where
 row:∀ x,x<M->w.ownsRow B t s (v x) (n x) (xs x)
 apart:∀ x y,x<M->y<M->x≠y->∀ g,(v x).ownBlock=some g->(v y).ownBlock≠some g
 off:∀ x,x<M->∀ g,(v x).ownBlock=some g->¬ K g
theorem FAM.below {M:Nat} {t:TypeId} {s:Nat} {w w':World} {B:Nat} {K:Nat->Prop} {v:Nat->Value} {n:Nat->Nat} {xs:Nat->List Value} (h:FAM M t s w B K v n xs) (hb:Below w.heap.size w w'):FAM M t s w' B K v n xs:=⟨fun x hx=>z0m (h.row x hx) hb,h.apart,h.off⟩
theorem FAM.heap {M:Nat} {t:TypeId} {s:Nat} {w w':World} {B:Nat} {K:Nat->Prop} {v:Nat->Value} {n:Nat->Nat} {xs:Nat->List Value} (h:FAM M t s w B K v n xs) (hk:∀ k,k<w.heap.size->¬ K k->w'.heap[k]?=w.heap[k]?):FAM M t s w' B K v n xs:=⟨fun x hx=>z3F (h.row x hx) fun k e=>hk k ((h.row x hx).lt k e).2 (h.off x hx k e),h.apart,h.off⟩
theorem FAM.turn {M:Nat} {t:TypeId} {s:Nat} {w w':World} {B:Nat} {K:Nat->Prop} {v:Nat->Value} {n:Nat->Nat} {xs:Nat->List Value} (h:FAM M t s w B K v n xs) {x g m c:Nat} {ys:List Value} (hx:x<M) (hK:∀ k,K k->k<w.heap.size)
  (hown:w'.ownsRow B t s (.slice (some ⟨g,0,none⟩) m c) m ys) (hg:w.grownBy w' (v x).ownBlock) (hat:(v x).ownBlock=some g\/w.heap.size<=g):FAM M t s w' B K (UPD v x (.slice (some ⟨g,0,none⟩) m c)) (UPD n x m) (UPD xs x ys)/\∀ k,K k->w'.heap[k]?=w.heap[k]?:=by
 have hgx:∀ y,y<M->y≠x->(v y).ownBlock≠some g:=fun y hy hne e=>by
  rcases hat with h1 | h1
  ·exact h.apart x y hx hy (fun e=>hne e.symm) g h1 e
  ·have:=((h.row y hy).lt g e).2
   omega
 refine ⟨⟨fun y hy=>?_,fun y z hy hz hne k e=>?_,fun y hy k e hk=>?_⟩,fun k hk=>hg.block k (hK k hk) fun e=>h.off x hx k e.symm hk⟩
 ·by_cases e:y=x
  ·subst e
   rw [z1R,z1R,z1R];exact hown
  ·rw [z0O _ _ e,z0O _ _ e,z0O _ _ e]
   exact z3F (h.row y hy) fun k hk=>hg.block k ((h.row y hy).lt k hk).2 fun e2=>h.apart x y hx hy (fun e3=>e e3.symm) k e2.symm hk
 ·by_cases e1:y=x
  ·subst e1
   rw [z1R] at e;have e:g=k:=by simpa [Value.ownBlock] using e
   subst e;rw [z0O _ _ (fun e2=>hne e2.symm)];exact hgx z hz fun e2=>hne e2.symm
  ·rw [z0O _ _ e1] at e
   by_cases e2:z=x
   ·subst e2
    rw [z1R];intro e3;have e3:g=k:=by simpa [Value.ownBlock] using e3
    subst e3;exact hgx y hy e1 e
   ·rw [z0O _ _ e2]
    exact h.apart y z hy hz hne k e
 ·by_cases e1:y=x
  ·subst e1
   rw [z1R] at e;have e:g=k:=by simpa [Value.ownBlock] using e
   subst e;rcases hat with h1 | h1
   ·exact h.off y hy g h1 hk
   ·have:=hK g hk
    omega
  ·rw [z0O _ _ e1] at e
   exact h.off y hy k e hk
theorem z5I {d:Int} {leaf:List Int} {S I n:Nat} {l:List Int} (hleaf:IsH leaf) (hl:l.length=32*n) (hr:∀ x∈l,0<=x/\x<=255):∀ x∈(CLA d leaf S I n l).2.2,0<=x/\x<=255:=by
 unfold CLA;split
 ·simp
 ·split
  ·simp
  ·rename_i h1 h2
   have hlen:(PSP I S).length=n:=by
    have h3:n=(PLA I S).2.length:=Decidable.not_not.1 h2;have h4:(PLA I S).1=0:=Decidable.not_not.1 h1;rw [h3];unfold PLA at h4 ⊢;split at h4
    ·simp at h4
    ·rename_i h5
     split at h4
     ·simp at h4
     ·rename_i h6
      rw [if_neg h5,if_neg h6];exact (z0u _).symm
   intro x hx;obtain ⟨s,_,hs⟩:=List.mem_flatMap.1 hx;refine (z7v (d:=d) (I:=I) (z3w (z2D hl hr (PSP I S).length (by omega)) hleaf 0 I) (RISE I S) s.1 s.2).2 x hs
def MEMA (d:Int) (root:List Int) (n i:Nat) (leaf bl:List Int):Int:=
 if (DEC bl).1≠0 then (DEC bl).1 else if (DEC bl).2.1≠n then 30 else if (DEC bl).2.2.1≠i then 32 else
  UNDA d n (CLA d leaf (DEC bl).2.1 (DEC bl).2.2.1 (DEC bl).2.2.2.1 (DEC bl).2.2.2.2).2.1 (CLA d leaf (DEC bl).2.1 (DEC bl).2.2.1 (DEC bl).2.2.2.1 (DEC bl).2.2.2.2).2.2 root
theorem z9f (d:Int) (root:List Int) (hroot:IsH root) (n i:Nat) (hn:n<2 ^ 64) (leaf:List Int) (hleaf:IsH leaf) (ba:Option Addr) (bn bc:Nat) (hbn:bn<=1000000) (hbc:bn<=bc) (bl:List Int) (w:World) (hB:Bytes w ba bn bl) (hT:Tabled w) (hX:HX.Tabled w) (h0:2<w.heap.size):
  Calls Tryz.prog 16 #[.int .i64 d,.agg (z01 root).toArray,.int .u64 (n:Int),.int .u64 (i:Int),.agg (z01 leaf).toArray,.slice ba bn bc] w fun e w'=>e=.returned (.int .i64 (MEMA d root n i leaf bl))/\Below w.heap.size w w':=by
 have l32:=hleaf.1;have r32:=hroot.1;obtain ⟨b7,hb7⟩:∃ b7,b7=w.heap.size:=⟨_,rfl⟩
 have R0:Aside (Below w.heap.size w ((w.alloc (.cells (z01 root).toArray 24)).alloc (.cells (z01 leaf).toArray 24))/\Has ((w.alloc (.cells (z01 root).toArray 24)).alloc (.cells (z01 leaf).toArray 24)) b7 (z01 root).toArray 24/\Has ((w.alloc (.cells (z01 root).toArray 24)).alloc (.cells (z01 leaf).toArray 24)) (b7+1) (z01 leaf).toArray 24):=by
  rw [hb7];exact ⟨((Below.refl _ _).alloc (Nat.le_refl _) _).alloc (by simp) _,(Has.new _ _ _).alloc _,Has.at _ _ _ (by simp)⟩
 have HT:Aside (∀ W,Below w.heap.size w W->Tabled W/\HX.Tabled W/\0<W.heap.size/\Bytes W ba bn bl/\2<W.heap.size):=fun W h=>by
  have hs:=h.size;exact ⟨hT.below (by omega) h,hX.below h,by omega,hB.below h,by omega⟩
 have HA:Aside (IsH root/\IsH leaf/\n<2 ^ 64/\bn<=1000000/\bn<=bc):=⟨hroot,hleaf,hn,hbn,hbc⟩
 clear hroot hleaf hn hbn hbc hB hT hX h0;obtain ⟨E,S,I,N,t,hD⟩:∃ E S I N t,DEC bl=(E,S,I,N,t):=⟨_,_,_,_,_,rfl⟩
 have hU:MEMA d root n i leaf bl=if E≠0 then E else if S≠n then 30 else if I≠i then 32 else UNDA d n (CLA d leaf S I N t).2.1 (CLA d leaf S I N t).2.2 root:=by unfold MEMA;rw [hD]
 generalize MEMA d root n i leaf bl=U at *
 have HV:Aside ((¬ E=0->U=E)/\(E=0->¬ S=n->U=30)/\(E=0->S=n->¬ I=i->U=32)/\(E=0->S=n->I=i->U=UNDA d n (CLA d leaf S I N t).2.1 (CLA d leaf S I N t).2.2 root)):=
  ⟨fun h=>hU.trans (if_pos h),fun h1 h2=>by rw [hU,if_neg (by simpa using h1),if_pos h2],fun h1 h2 h3=>by rw [hU,if_neg (by simpa using h1),if_neg (by simpa using h2),if_pos h3],fun h1 h2 h3=>by rw [hU,if_neg (by simpa using h1),if_neg (by simpa using h2),if_neg (by simpa using h3)]⟩
 clear hU;have HD:Aside (DEC bl=(E,S,I,N,t)):=hD;clear hD;go_enter Tryz.func16,Tryz.ntmps16;go_upto_region 1 with fail
 rw [<-hb7];have HB:Aside (b7=w.heap.size):=hb7;clear hb7;generalize (w.alloc (.cells (z01 root).toArray 24)).alloc (.cells (z01 leaf).toArray 24)=W0 at *
 go_wp2_with fail
 have cD:=zdG ba bn bc HA.out.2.2.2.1 bl W0 (HT.out _ R0.out.1).2.2.2.1 HA.out.2.2.2.2 (HT.out _ R0.out.1).1 (HT.out _ R0.out.1).2.2.1;rw [HD.out] at cD;refine cD.mono ?_;clear cD HD;rintro e w1 ⟨a1,c1,rfl,hrow,hr,hb⟩;dsimp only at *
 obtain ⟨b8,hb8⟩:∃ b,b=w1.heap.size:=⟨_,rfl⟩
 have hbb:Below w1.heap.size w1 (w1.alloc (.cells #[.int .u64 (S:Int),.int .u64 (I:Int),.slice a1 N c1] 40)):=(Below.refl _ _).alloc (Nat.le_refl _) _
 have R1:Aside (Below w.heap.size w (w1.alloc (.cells #[.int .u64 (S:Int),.int .u64 (I:Int),.slice a1 N c1] 40))/\Has (w1.alloc (.cells #[.int .u64 (S:Int),.int .u64 (I:Int),.slice a1 N c1] 40)) b7 (z01 root).toArray 24/\Has (w1.alloc (.cells #[.int .u64 (S:Int),.int .u64 (I:Int),.slice a1 N c1] 40)) (b7+1) (z01 leaf).toArray 24/\Has (w1.alloc (.cells #[.int .u64 (S:Int),.int .u64 (I:Int),.slice a1 N c1] 40)) b8 #[.int .u64 (S:Int),.int .u64 (I:Int),.slice a1 N c1] 40/\Flat (w1.alloc (.cells #[.int .u64 (S:Int),.int .u64 (I:Int),.slice a1 N c1] 40)) a1 N t):=
  ⟨(R0.out.1.trans (hb.mono R0.out.1.size)).trans (hbb.mono (R0.out.1.trans (hb.mono R0.out.1.size)).size),(R0.out.2.1.keep hb).keep hbb,(R0.out.2.2.keep hb).keep hbb,Has.at _ _ _ hb8,(z1c hrow hr).below hbb⟩
 clear hrow hr hb hbb R0;go_upto_region 2 with fail
 rw [<-hb8];clear hb8;generalize w1.alloc (.cells #[.int .u64 (S:Int),.int .u64 (I:Int),.slice a1 N c1] 40)=W1 at *
 clear w1 W0;have y0:W1.cell? ⟨b8,0,none⟩=some (.int .u64 (S:Int)):=R1.out.2.2.2.1.cell 0;have y1:W1.cell? ⟨b8,1,none⟩=some (.int .u64 (I:Int)):=R1.out.2.2.2.1.cell 1;have y2:W1.cell? ⟨b8,2,none⟩=some (.slice a1 N c1):=R1.out.2.2.2.1.cell 2;have hb:=R1.out.1;by_cases hE:E=0
 ·by_cases hS:S=n
  ·by_cases hI:I=i
   ·have HW:Aside (U=UNDA d n (CLA d leaf S I N t).2.1 (CLA d leaf S I N t).2.2 root):=HV.out.2.2.2 hE hS hI
    subst hE hS hI;clear HV;have h10:=R1.out.2.2.1
    go_wp2_with (first
     | (refine wpList_load_row rfl 24 (.tmp 10) rfl (b7+1) rfl 24 (z01 leaf).toArray (0,0) _ h10 Tryz.underlying24 rfl (z02 l32) ?_)
     | fail)
    refine (zar d leaf HA.out.2.1 S I a1 N c1 t W1 R1.out.2.2.2.2 (HT.out _ hb).1 (HT.out _ hb).2.1 (HT.out _ hb).2.2.2.2).mono ?_;have hrg:=z5I (d:=d) (S:=S) (I:=I) HA.out.2.1 R1.out.2.2.2.2.1 R1.out.2.2.2.2.2.2;generalize CLA d leaf S I N t=C at *
    obtain ⟨CE,CN,CL⟩:=C;rintro e w2 ⟨a2,c2,rfl,hrow,hb2⟩;dsimp only at *
    have R2:Aside (Below w.heap.size w w2/\Has w2 b7 (z01 root).toArray 24/\Flat w2 a2 CN CL):=⟨hb.trans (hb2.mono hb.size),R1.out.2.1.keep hb2,z1c hrow hrg⟩
    clear hrow hrg hb2 hb R1 y0 y1 y2 h10;have h7:=R2.out.2.1
    go_wp2_with (first
     | (refine wpList_load_row rfl 24 (.tmp 7) rfl b7 rfl 24 (z01 root).toArray (0,0) _ h7 Tryz.underlying24 rfl (z02 r32) ?_)
     | fail)
    refine (z5x d S HA.out.2.2.1 a2 CN c2 CL root HA.out.1 w2 R2.out.2.2 (HT.out _ R2.out.1).2.1).mono ?_;rintro e w3 ⟨rfl,hb3⟩;have R3:Aside (Below w.heap.size w w3):=R2.out.1.trans (hb3.mono R2.out.1.size);clear hb3 R2 h7 HT HA;go_wp2_with fail
    go_ret;exact ⟨by rw [HW.out];rfl,R3.out⟩
   ·have HW:Aside (U=32):=HV.out.2.2.1 hE hS hI
    have hI':¬ (I:Int)=(i:Int):=by omega
    subst hE hS;clear HV HT HA R1;go_wp2_with fail
    go_ret;exact ⟨by rw [HW.out];rfl,hb⟩
  ·have HW:Aside (U=30):=HV.out.2.1 hE hS
   have hS':¬ (S:Int)=(n:Int):=by omega
   subst hE;clear HV HT HA R1;go_wp2_with fail
   go_ret;exact ⟨by rw [HW.out];rfl,hb⟩
 ·have HW:Aside (U=E):=HV.out.1 hE
  clear HV HT HA R1 y0 y1 y2;go_wp2_with fail
  go_ret;exact ⟨by rw [HW.out];rfl,hb⟩
end Go.Proofs.YtdggkbpabjgdfaaGreatDoor
