/- ClashAcross: part 23. -/
import Derived.Test.YtdggkbpabjgdfaaGreatDoorClashAcrossP22
set_option maxHeartbeats 4000000
namespace Go.Proofs.YtdggkbpabjgdfaaGreatDoor
open Go.RowKit
set_option maxRecDepth 100000
theorem z6U (rb:Nat) (w:World) (E:Int) (D:World->Prop) (c:Calls Tryz.prog 98 #[.pointer (some ⟨rb,0,none⟩),.int .u8 77] w fun e w'=>e=.returned (.int .i64 E)/\D w'):
  Calls Tryz.prog 64 #[.pointer (some ⟨rb,0,none⟩)] w fun e w'=>e=.returned (.int .i64 E)/\D w':=by
 go_enter Tryz.func64,Tryz.ntmps64;go_wp2_with fail
 refine c.mono ?_;rintro e w' ⟨rfl,h⟩;clear c;go_wp2;go_ret;exact ⟨rfl,h⟩
theorem z6V (rb:Nat) (w:World) (E:Int) (D:World->Prop) (c:Calls Tryz.prog 98 #[.pointer (some ⟨rb,0,none⟩),.int .u8 80] w fun e w'=>e=.returned (.int .i64 E)/\D w'):
  Calls Tryz.prog 73 #[.pointer (some ⟨rb,0,none⟩)] w fun e w'=>e=.returned (.int .i64 E)/\D w':=by
 go_enter Tryz.func73,Tryz.ntmps73;go_wp2_with fail
 refine c.mono ?_;rintro e w' ⟨rfl,h⟩;clear c;go_wp2;go_ret;exact ⟨rfl,h⟩
theorem z9b (rb:Nat) (w:World) (E:Int) (D:World->Prop) (c:Calls Tryz.prog 99 #[.pointer (some ⟨rb,0,none⟩),.pointer (some ⟨rb,2,none⟩)] w.drew fun e w'=>e=.returned (.int .i64 E)/\D w'):
  Calls Tryz.prog 66 #[.pointer (some ⟨rb,0,none⟩)] w fun e w'=>e=.returned (.int .i64 E)/\D w':=by
 go_enter Tryz.func66,Tryz.ntmps66;go_wp2;go_region_with ((go_at_call 99;refine c.mono ?_;rintro e w' ⟨rfl,h⟩))
 all_goals go_wp2
 all_goals go_ret
 all_goals exact ⟨rfl,h⟩
theorem zaQ (rb:Nat) (w:World) (E:Int) (D:World->Prop) (c:Calls Tryz.prog 99 #[.pointer (some ⟨rb,0,none⟩),.pointer (some ⟨rb,1,none⟩)] w.drew fun e w'=>e=.returned (.int .i64 E)/\D w'):
  Calls Tryz.prog 74 #[.pointer (some ⟨rb,0,none⟩)] w fun e w'=>e=.returned (.int .i64 E)/\D w':=by
 go_enter Tryz.func74,Tryz.ntmps74;go_wp2;go_region_with ((go_at_call 99;refine c.mono ?_;rintro e w' ⟨rfl,h⟩))
 all_goals go_wp2
 all_goals go_ret
 all_goals exact ⟨rfl,h⟩
theorem zaR (rb:Nat) (w:World) (E:Int) (D:World->Prop) (c:Calls Tryz.prog 99 #[.pointer (some ⟨rb,0,none⟩),.pointer (some ⟨rb,2,none⟩)] w.drew fun e w'=>e=.returned (.int .i64 E)/\D w'):
  Calls Tryz.prog 75 #[.pointer (some ⟨rb,0,none⟩)] w fun e w'=>e=.returned (.int .i64 E)/\D w':=by
 go_enter Tryz.func75,Tryz.ntmps75;go_wp2;go_region_with ((go_at_call 99;refine c.mono ?_;rintro e w' ⟨rfl,h⟩))
 all_goals go_wp2
 all_goals go_ret
 all_goals exact ⟨rfl,h⟩
theorem zfo (rb:Nat) (w:World) (E:Int) (hE:¬ E=0) (D:World->Prop) (c:Calls Tryz.prog 99 #[.pointer (some ⟨rb,0,none⟩),.pointer (some ⟨rb,1,none⟩)] w.drew fun e w'=>e=.returned (.int .i64 E)/\D w'):
  Calls Tryz.prog 65 #[.pointer (some ⟨rb,0,none⟩)] w fun e w'=>e=.returned (.int .i64 E)/\D w':=by
 have hE':(E == 0)=false:=by simp [hE]
 go_enter Tryz.func65,Tryz.ntmps65;go_wp2;go_region_with ((go_at_call 99;refine c.mono ?_;rintro e w' ⟨rfl,h⟩))
 all_goals go_wp2
 all_goals go_ret
 all_goals exact ⟨rfl,h⟩
theorem zfp (rb:Nat) (w:World) (X:Int) (hX:4611686018427387904<X) (D:World->Prop) (c:Calls Tryz.prog 99 #[.pointer (some ⟨rb,0,none⟩),.pointer (some ⟨rb,1,none⟩)] w.drew fun e w'=>e=.returned (.int .i64 0)/\w'.cell? ⟨rb,1,none⟩=some (.int .u64 X)/\D w'):
  Calls Tryz.prog 65 #[.pointer (some ⟨rb,0,none⟩)] w fun e w'=>e=.returned (.int .i64 30)/\D w':=by
 go_enter Tryz.func65,Tryz.ntmps65;go_wp2;go_region_with ((go_at_call 99;refine c.mono ?_;rintro e w' ⟨rfl,hc,h⟩))
 all_goals go_wp2
 all_goals go_ret
 all_goals exact ⟨rfl,h⟩
theorem zh7 (rb:Nat) (w:World) (X:Int) (hX:¬ 4611686018427387904<X) (D:World->Prop) (c:Calls Tryz.prog 99 #[.pointer (some ⟨rb,0,none⟩),.pointer (some ⟨rb,1,none⟩)] w.drew fun e w'=>e=.returned (.int .i64 0)/\w'.cell? ⟨rb,1,none⟩=some (.int .u64 X)/\D w'):
  Calls Tryz.prog 65 #[.pointer (some ⟨rb,0,none⟩)] w fun e w'=>e=.returned (.int .i64 0)/\D w':=by
 go_enter Tryz.func65,Tryz.ntmps65;go_wp2;go_region_with ((go_at_call 99;refine c.mono ?_;rintro e w' ⟨rfl,hc,h⟩))
 all_goals go_wp2
 all_goals go_ret
 all_goals exact ⟨rfl,h⟩
theorem zdC (rb:Nat) (w:World) (X Y E:Int) (hE:¬ E=0) (D:World->Prop) (h1:w.cell? ⟨rb,1,none⟩=some (.int .u64 X)) (h2:w.cell? ⟨rb,2,none⟩=some (.int .u64 Y))
  (c:Calls Tryz.prog 68 #[.int .u64 Y,.int .u64 X] w.drew fun e w'=>∃ v,e=.returned (.tuple #[v,.int .i64 E])/\D w'):
  Calls Tryz.prog 67 #[.pointer (some ⟨rb,0,none⟩)] w fun e w'=>e=.returned (.int .i64 E)/\D w':=by
 have hE':(E != 0)=true:=by simp [hE]
 have d1:w.drew.cell? ⟨rb,1,none⟩=some (.int .u64 X):=h1;have d2:w.drew.cell? ⟨rb,2,none⟩=some (.int .u64 Y):=h2;go_enter Tryz.func67,Tryz.ntmps67;go_wp2;go_region_with ((go_at_call 68;refine c.mono ?_;rintro e w' ⟨v,rfl,h⟩))
 all_goals go_wp2
 all_goals go_ret
 all_goals exact ⟨rfl,h⟩
theorem z5G (rb:Nat) (w:World) (X Y E:Int) (N:Nat) (D:World->Prop) (h1:w.cell? ⟨rb,1,none⟩=some (.int .u64 X)) (h2:w.cell? ⟨rb,2,none⟩=some (.int .u64 Y))
  (c:Calls Tryz.prog 68 #[.int .u64 Y,.int .u64 X] w.drew fun e w'=>∃ a cap,e=.returned (.tuple #[.slice a N cap,.int .i64 0])/\Calls Tryz.prog 100 #[.pointer (some ⟨rb,0,none⟩),.pointer (some ⟨rb,3,none⟩),.int .i64 (N:Int)] w'.drew fun e w2=>e=.returned (.int .i64 E)/\D w2):
  Calls Tryz.prog 67 #[.pointer (some ⟨rb,0,none⟩)] w fun e w'=>e=.returned (.int .i64 E)/\D w':=by
 have d1:w.drew.cell? ⟨rb,1,none⟩=some (.int .u64 X):=h1;have d2:w.drew.cell? ⟨rb,2,none⟩=some (.int .u64 Y):=h2;go_enter Tryz.func67,Tryz.ntmps67;go_wp2;go_region_with ((go_at_call 68;refine c.mono ?_;rintro e w' ⟨a,cap,rfl,h⟩))
 all_goals go_wp2
 all_goals go_region_with ((go_at_call 100;refine h.mono ?_;rintro e w2 ⟨rfl,h⟩))
 all_goals go_wp2
 all_goals go_ret
 all_goals exact ⟨rfl,h⟩
theorem zdD (rb:Nat) (w:World) (X Y E:Int) (hE:¬ E=0) (D:World->Prop) (h1:w.cell? ⟨rb,1,none⟩=some (.int .u64 X)) (h2:w.cell? ⟨rb,2,none⟩=some (.int .u64 Y))
  (c:Calls Tryz.prog 48 #[.int .u64 X,.int .u64 Y] w.drew fun e w'=>∃ v,e=.returned (.tuple #[v,.int .i64 E])/\D w'):
  Calls Tryz.prog 76 #[.pointer (some ⟨rb,0,none⟩)] w fun e w'=>e=.returned (.int .i64 E)/\D w':=by
 have hE':(E != 0)=true:=by simp [hE]
 have d1:w.drew.cell? ⟨rb,1,none⟩=some (.int .u64 X):=h1;have d2:w.drew.cell? ⟨rb,2,none⟩=some (.int .u64 Y):=h2;go_enter Tryz.func76,Tryz.ntmps76;go_wp2;go_region_with ((go_at_call 48;refine c.mono ?_;rintro e w' ⟨v,rfl,h⟩))
 all_goals go_wp2
 all_goals go_ret
 all_goals exact ⟨rfl,h⟩
theorem z5H (rb:Nat) (w:World) (X Y E:Int) (N:Nat) (D:World->Prop) (h1:w.cell? ⟨rb,1,none⟩=some (.int .u64 X)) (h2:w.cell? ⟨rb,2,none⟩=some (.int .u64 Y))
  (c:Calls Tryz.prog 48 #[.int .u64 X,.int .u64 Y] w.drew fun e w'=>∃ a cap,e=.returned (.tuple #[.slice a N cap,.int .i64 0])/\Calls Tryz.prog 100 #[.pointer (some ⟨rb,0,none⟩),.pointer (some ⟨rb,3,none⟩),.int .i64 (N:Int)] w'.drew fun e w2=>e=.returned (.int .i64 E)/\D w2):
  Calls Tryz.prog 76 #[.pointer (some ⟨rb,0,none⟩)] w fun e w'=>e=.returned (.int .i64 E)/\D w':=by
 have d1:w.drew.cell? ⟨rb,1,none⟩=some (.int .u64 X):=h1;have d2:w.drew.cell? ⟨rb,2,none⟩=some (.int .u64 Y):=h2;go_enter Tryz.func76,Tryz.ntmps76;go_wp2;go_region_with ((go_at_call 48;refine c.mono ?_;rintro e w' ⟨a,cap,rfl,h⟩))
 all_goals go_wp2
 all_goals go_region_with ((go_at_call 100;refine h.mono ?_;rintro e w2 ⟨rfl,h⟩))
 all_goals go_wp2
 all_goals go_ret
 all_goals exact ⟨rfl,h⟩
end Go.Proofs.YtdggkbpabjgdfaaGreatDoor
namespace Go.Proofs.YtdggkbpabjgdfaaGreatDoor
open Go.RowKit
def LNG (t:List Int):Int × Int × Int:=LG t t.length 10 0 0
theorem z1P {t:List Int} (hr:∀ x∈t,0<=x/\x<=255) (h:(LNG t).2.2=0):∃ Z m:Nat,Z<2 ^ 64/\1<=m/\m<=t.length/\LNG t=((Z:Int),(m:Int),0)/\z0s Z=t.take m:=by
 have hr':∀ i,0<=t.getD i 0/\t.getD i 0<=255:=fun i=>by
  by_cases hi:i<t.length
  ·rw [List.getD_eq_getElem?_getD,List.getElem?_eq_getElem hi]
   exact hr _ (List.getElem_mem hi)
  ·rw [List.getD_eq_getElem?_getD,List.getElem?_eq_none (by omega)]
   simp
 obtain ⟨Z,m,h1,h2,h3,h4,h5,h6⟩:=zie (l:=t) rfl hr' h;exact ⟨Z,m+1,h1,by omega,by omega,by unfold LNG;rw [h4];simp,h6⟩
theorem z9c {X:Nat} (hX:X<2 ^ 64) (more:List Int):LNG (z0s X ++ more)=((X:Int),((NTOP X+1:Nat):Int),0):=by
 unfold LNG;rw [zh6 hX more _ (by rw [List.length_append,z0Y])];simp
abbrev DANS:=Int × Nat × Nat × Nat × List Int
def DERR (E:Int):DANS:=(E,0,0,0,[])
def DC3 (PF:Nat->Nat->Int × List Nat) (X Y:Nat) (t:List Int):DANS:=
 if (PF X Y).1≠0 then DERR (PF X Y).1 else if t.length<32*(PF X Y).2.length then DERR 11 else if 32*(PF X Y).2.length<t.length then DERR 13 else (0,X,Y,(PF X Y).2.length,t)
def DC2 (PF:Nat->Nat->Int × List Nat) (X:Nat) (t:List Int):DANS:=
 if (LNG t).2.2≠0 then DERR (LNG t).2.2 else DC3 PF X (LNG t).1.toNat (t.drop (LNG t).2.1.toNat)
def DC1 (chk:Nat->Bool) (PF:Nat->Nat->Int × List Nat) (t:List Int):DANS:=
 if (LNG t).2.2≠0 then DERR (LNG t).2.2 else if chk (LNG t).1.toNat=true then DERR 30 else DC2 PF (LNG t).1.toNat (t.drop (LNG t).2.1.toNat)
def DC0 (K:Int) (chk:Nat->Bool) (PF:Nat->Nat->Int × List Nat) (l:List Int):DANS:=
 if l.length=0 then DERR 11 else if l.getD 0 0≠K then DERR 14 else DC1 chk PF (l.drop 1)
def z1t (n:Nat):Bool:=decide (4611686018427387904<n)
def DEC (l:List Int):DANS:=DC0 77 z1t (fun S I=>PLA I S) l
def DEX (l:List Int):DANS:=DC0 80 (fun _=>false) PPA l
end Go.Proofs.YtdggkbpabjgdfaaGreatDoor
namespace Go.Proofs.YtdggkbpabjgdfaaGreatDoor
open Go.RowKit
set_option maxRecDepth 100000
def STP (P:World->Prop) (Fin:Int->World->Prop) (e:Ending) (w':World):Prop:=∃ E:Int,e=.returned (.int .i64 E)/\(E=0->P w')/\(E≠0->Fin E w')
theorem z7K (rb gl:Nat) (PP:Nat->World->Prop) (Fin:Int->World->Prop)
  (hc0:∀ W,PP 0 W->W.cell? ⟨gl,0,none⟩=some (.func (.func 64) #[.pointer (some ⟨rb,0,none⟩)] #[]))
  (hc1:∀ W,PP 1 W->W.cell? ⟨gl,1,none⟩=some (.func (.func 65) #[.pointer (some ⟨rb,0,none⟩)] #[]))
  (hc2:∀ W,PP 2 W->W.cell? ⟨gl,2,none⟩=some (.func (.func 66) #[.pointer (some ⟨rb,0,none⟩)] #[]))
  (hc3:∀ W,PP 3 W->W.cell? ⟨gl,3,none⟩=some (.func (.func 67) #[.pointer (some ⟨rb,0,none⟩)] #[]))
  (hd0:∀ W,PP 0 W->Calls Tryz.prog 64 #[.pointer (some ⟨rb,0,none⟩)] W (STP (PP 1) Fin))
  (hd1:∀ W,PP 1 W->Calls Tryz.prog 65 #[.pointer (some ⟨rb,0,none⟩)] W (STP (PP 2) Fin))
  (hd2:∀ W,PP 2 W->Calls Tryz.prog 66 #[.pointer (some ⟨rb,0,none⟩)] W (STP (PP 3) Fin))
  (hd3:∀ W,PP 3 W->Calls Tryz.prog 67 #[.pointer (some ⟨rb,0,none⟩)] W (STP (PP 4) Fin))
  (w:World) (h:PP 0 w):Calls Tryz.prog 63 #[.slice (some ⟨gl,0,none⟩) 4 4] w (STP (PP 4) Fin):=by
 have C0:Aside (∀ W,PP 0 W->W.cell? ⟨gl,0,none⟩=some (.func (.func 64) #[.pointer (some ⟨rb,0,none⟩)] #[])):=hc0;have D0:Aside (∀ W,PP 0 W->Calls Tryz.prog 64 #[.pointer (some ⟨rb,0,none⟩)] W (STP (PP 1) Fin)):=hd0;have C1:Aside (∀ W,PP 1 W->W.cell? ⟨gl,1,none⟩=some (.func (.func 65) #[.pointer (some ⟨rb,0,none⟩)] #[])):=hc1;have D1:Aside (∀ W,PP 1 W->Calls Tryz.prog 65 #[.pointer (some ⟨rb,0,none⟩)] W (STP (PP 2) Fin)):=hd1;have C2:Aside (∀ W,PP 2 W->W.cell? ⟨gl,2,none⟩=some (.func (.func 66) #[.pointer (some ⟨rb,0,none⟩)] #[])):=hc2;have D2:Aside (∀ W,PP 2 W->Calls Tryz.prog 66 #[.pointer (some ⟨rb,0,none⟩)] W (STP (PP 3) Fin)):=hd2;have C3:Aside (∀ W,PP 3 W->W.cell? ⟨gl,3,none⟩=some (.func (.func 67) #[.pointer (some ⟨rb,0,none⟩)] #[])):=hc3;have D3:Aside (∀ W,PP 3 W->Calls Tryz.prog 67 #[.pointer (some ⟨rb,0,none⟩)] W (STP (PP 4) Fin)):=hd3;have H0:Aside (PP 0 w):=h;clear hc0 hc1 hc2 hc3 hd0 hd1 hd2 hd3 h;go_enter Tryz.func63,Tryz.ntmps63;go_wp2;go_loopg [8] 4 (fun q s8 wx=>∃ k:Nat,s8=.int .i64 (k:Int)/\Aside (k+q=4/\PP k wx))
 case atStart=>exact ⟨0,rfl,by omega,H0.out⟩
 case round=>
  obtain ⟨k,rfl,A⟩:=hrel;cases gk with
  | zero=>
    obtain rfl:k=4:=by have:=A.out.1;omega
    have R:Aside (PP 4 wr):=A.out.2;clear A C0 C1 C2 C3 D0 D1 D2 D3 H0;go_wp2;go_ret;exact ⟨0,rfl,fun _=>R.out,fun h=>absurd rfl h⟩
  | succ q=>
    have hk:k=0\/k=1\/k=2\/k=3:=by have:=A.out.1;omega
    rcases hk with rfl | rfl | rfl | rfl
    ·have hc:=C0.out wr A.out.2
     have hd:=D0.out wr A.out.2;have R:Aside (0+1+q=4):=by have:=A.out.1;show 0+1+q=4;omega
     clear A C0 C1 C2 C3 D0 D1 D2 D3 H0;go_wp2_with fail
     refine hd.mono ?_;rintro e w1 ⟨E,rfl,h1,h2⟩;clear hd hc;by_cases hE:E=0
     ·subst hE
      have S:Aside (PP (0+1) w1):=h1 rfl;clear h1 h2;go_wp2;go_roundg q
      case measure=>exact Nat.lt_succ_self _
      case rel=>exact ⟨0+1,rfl,R.out,S.out⟩
     ·have hE':(E != 0)=true:=by simp [hE]
      have S:Aside (¬ E=0/\Fin E w1):=⟨hE,h2 hE⟩
      clear h1 h2 hE;go_wp2;go_ret;exact ⟨E,rfl,fun h=>absurd h S.out.1,fun _=>S.out.2⟩
    ·have hc:=C1.out wr A.out.2
     have hd:=D1.out wr A.out.2;have R:Aside (1+1+q=4):=by have:=A.out.1;show 1+1+q=4;omega
     clear A C0 C1 C2 C3 D0 D1 D2 D3 H0;go_wp2_with fail
     refine hd.mono ?_;rintro e w1 ⟨E,rfl,h1,h2⟩;clear hd hc;by_cases hE:E=0
     ·subst hE
      have S:Aside (PP (1+1) w1):=h1 rfl;clear h1 h2;go_wp2;go_roundg q
      case measure=>exact Nat.lt_succ_self _
      case rel=>exact ⟨1+1,rfl,R.out,S.out⟩
     ·have hE':(E != 0)=true:=by simp [hE]
      have S:Aside (¬ E=0/\Fin E w1):=⟨hE,h2 hE⟩
      clear h1 h2 hE;go_wp2;go_ret;exact ⟨E,rfl,fun h=>absurd h S.out.1,fun _=>S.out.2⟩
    ·have hc:=C2.out wr A.out.2
     have hd:=D2.out wr A.out.2;have R:Aside (2+1+q=4):=by have:=A.out.1;show 2+1+q=4;omega
     clear A C0 C1 C2 C3 D0 D1 D2 D3 H0;go_wp2_with fail
     refine hd.mono ?_;rintro e w1 ⟨E,rfl,h1,h2⟩;clear hd hc;by_cases hE:E=0
     ·subst hE
      have S:Aside (PP (2+1) w1):=h1 rfl;clear h1 h2;go_wp2;go_roundg q
      case measure=>exact Nat.lt_succ_self _
      case rel=>exact ⟨2+1,rfl,R.out,S.out⟩
     ·have hE':(E != 0)=true:=by simp [hE]
      have S:Aside (¬ E=0/\Fin E w1):=⟨hE,h2 hE⟩
      clear h1 h2 hE;go_wp2;go_ret;exact ⟨E,rfl,fun h=>absurd h S.out.1,fun _=>S.out.2⟩
    ·have hc:=C3.out wr A.out.2
     have hd:=D3.out wr A.out.2;have R:Aside (3+1+q=4):=by have:=A.out.1;show 3+1+q=4;omega
     clear A C0 C1 C2 C3 D0 D1 D2 D3 H0;go_wp2_with fail
     refine hd.mono ?_;rintro e w1 ⟨E,rfl,h1,h2⟩;clear hd hc;by_cases hE:E=0
     ·subst hE
      have S:Aside (PP (3+1) w1):=h1 rfl;clear h1 h2;go_wp2;go_roundg q
      case measure=>exact Nat.lt_succ_self _
      case rel=>exact ⟨3+1,rfl,R.out,S.out⟩
     ·have hE':(E != 0)=true:=by simp [hE]
      have S:Aside (¬ E=0/\Fin E w1):=⟨hE,h2 hE⟩
      clear h1 h2 hE;go_wp2;go_ret;exact ⟨E,rfl,fun h=>absurd h S.out.1,fun _=>S.out.2⟩
theorem z7L (rb gl:Nat) (PP:Nat->World->Prop) (Fin:Int->World->Prop)
  (hc0:∀ W,PP 0 W->W.cell? ⟨gl,0,none⟩=some (.func (.func 73) #[.pointer (some ⟨rb,0,none⟩)] #[]))
  (hc1:∀ W,PP 1 W->W.cell? ⟨gl,1,none⟩=some (.func (.func 74) #[.pointer (some ⟨rb,0,none⟩)] #[]))
  (hc2:∀ W,PP 2 W->W.cell? ⟨gl,2,none⟩=some (.func (.func 75) #[.pointer (some ⟨rb,0,none⟩)] #[]))
  (hc3:∀ W,PP 3 W->W.cell? ⟨gl,3,none⟩=some (.func (.func 76) #[.pointer (some ⟨rb,0,none⟩)] #[]))
  (hd0:∀ W,PP 0 W->Calls Tryz.prog 73 #[.pointer (some ⟨rb,0,none⟩)] W (STP (PP 1) Fin))
  (hd1:∀ W,PP 1 W->Calls Tryz.prog 74 #[.pointer (some ⟨rb,0,none⟩)] W (STP (PP 2) Fin))
  (hd2:∀ W,PP 2 W->Calls Tryz.prog 75 #[.pointer (some ⟨rb,0,none⟩)] W (STP (PP 3) Fin))
  (hd3:∀ W,PP 3 W->Calls Tryz.prog 76 #[.pointer (some ⟨rb,0,none⟩)] W (STP (PP 4) Fin))
  (w:World) (h:PP 0 w):Calls Tryz.prog 63 #[.slice (some ⟨gl,0,none⟩) 4 4] w (STP (PP 4) Fin):=by
 have C0:Aside (∀ W,PP 0 W->W.cell? ⟨gl,0,none⟩=some (.func (.func 73) #[.pointer (some ⟨rb,0,none⟩)] #[])):=hc0;have D0:Aside (∀ W,PP 0 W->Calls Tryz.prog 73 #[.pointer (some ⟨rb,0,none⟩)] W (STP (PP 1) Fin)):=hd0;have C1:Aside (∀ W,PP 1 W->W.cell? ⟨gl,1,none⟩=some (.func (.func 74) #[.pointer (some ⟨rb,0,none⟩)] #[])):=hc1;have D1:Aside (∀ W,PP 1 W->Calls Tryz.prog 74 #[.pointer (some ⟨rb,0,none⟩)] W (STP (PP 2) Fin)):=hd1;have C2:Aside (∀ W,PP 2 W->W.cell? ⟨gl,2,none⟩=some (.func (.func 75) #[.pointer (some ⟨rb,0,none⟩)] #[])):=hc2;have D2:Aside (∀ W,PP 2 W->Calls Tryz.prog 75 #[.pointer (some ⟨rb,0,none⟩)] W (STP (PP 3) Fin)):=hd2;have C3:Aside (∀ W,PP 3 W->W.cell? ⟨gl,3,none⟩=some (.func (.func 76) #[.pointer (some ⟨rb,0,none⟩)] #[])):=hc3;have D3:Aside (∀ W,PP 3 W->Calls Tryz.prog 76 #[.pointer (some ⟨rb,0,none⟩)] W (STP (PP 4) Fin)):=hd3;have H0:Aside (PP 0 w):=h;clear hc0 hc1 hc2 hc3 hd0 hd1 hd2 hd3 h;go_enter Tryz.func63,Tryz.ntmps63;go_wp2;go_loopg [8] 4 (fun q s8 wx=>∃ k:Nat,s8=.int .i64 (k:Int)/\Aside (k+q=4/\PP k wx))
 case atStart=>exact ⟨0,rfl,by omega,H0.out⟩
 case round=>
  obtain ⟨k,rfl,A⟩:=hrel;cases gk with
  | zero=>
    obtain rfl:k=4:=by have:=A.out.1;omega
    have R:Aside (PP 4 wr):=A.out.2;clear A C0 C1 C2 C3 D0 D1 D2 D3 H0;go_wp2;go_ret;exact ⟨0,rfl,fun _=>R.out,fun h=>absurd rfl h⟩
  | succ q=>
    have hk:k=0\/k=1\/k=2\/k=3:=by have:=A.out.1;omega
    rcases hk with rfl | rfl | rfl | rfl
    ·have hc:=C0.out wr A.out.2
     have hd:=D0.out wr A.out.2;have R:Aside (0+1+q=4):=by have:=A.out.1;show 0+1+q=4;omega
     clear A C0 C1 C2 C3 D0 D1 D2 D3 H0;go_wp2_with fail
     refine hd.mono ?_;rintro e w1 ⟨E,rfl,h1,h2⟩;clear hd hc;by_cases hE:E=0
     ·subst hE
      have S:Aside (PP (0+1) w1):=h1 rfl;clear h1 h2;go_wp2;go_roundg q
      case measure=>exact Nat.lt_succ_self _
      case rel=>exact ⟨0+1,rfl,R.out,S.out⟩
     ·have hE':(E != 0)=true:=by simp [hE]
      have S:Aside (¬ E=0/\Fin E w1):=⟨hE,h2 hE⟩
      clear h1 h2 hE;go_wp2;go_ret;exact ⟨E,rfl,fun h=>absurd h S.out.1,fun _=>S.out.2⟩
    ·have hc:=C1.out wr A.out.2
     have hd:=D1.out wr A.out.2;have R:Aside (1+1+q=4):=by have:=A.out.1;show 1+1+q=4;omega
     clear A C0 C1 C2 C3 D0 D1 D2 D3 H0;go_wp2_with fail
     refine hd.mono ?_;rintro e w1 ⟨E,rfl,h1,h2⟩;clear hd hc;by_cases hE:E=0
     ·subst hE
      have S:Aside (PP (1+1) w1):=h1 rfl;clear h1 h2;go_wp2;go_roundg q
      case measure=>exact Nat.lt_succ_self _
      case rel=>exact ⟨1+1,rfl,R.out,S.out⟩
     ·have hE':(E != 0)=true:=by simp [hE]
      have S:Aside (¬ E=0/\Fin E w1):=⟨hE,h2 hE⟩
      clear h1 h2 hE;go_wp2;go_ret;exact ⟨E,rfl,fun h=>absurd h S.out.1,fun _=>S.out.2⟩
    ·have hc:=C2.out wr A.out.2
     have hd:=D2.out wr A.out.2;have R:Aside (2+1+q=4):=by have:=A.out.1;show 2+1+q=4;omega
     clear A C0 C1 C2 C3 D0 D1 D2 D3 H0;go_wp2_with fail
     refine hd.mono ?_;rintro e w1 ⟨E,rfl,h1,h2⟩;clear hd hc;by_cases hE:E=0
     ·subst hE
      have S:Aside (PP (2+1) w1):=h1 rfl;clear h1 h2;go_wp2;go_roundg q
      case measure=>exact Nat.lt_succ_self _
      case rel=>exact ⟨2+1,rfl,R.out,S.out⟩
     ·have hE':(E != 0)=true:=by simp [hE]
      have S:Aside (¬ E=0/\Fin E w1):=⟨hE,h2 hE⟩
      clear h1 h2 hE;go_wp2;go_ret;exact ⟨E,rfl,fun h=>absurd h S.out.1,fun _=>S.out.2⟩
    ·have hc:=C3.out wr A.out.2
     have hd:=D3.out wr A.out.2;have R:Aside (3+1+q=4):=by have:=A.out.1;show 3+1+q=4;omega
     clear A C0 C1 C2 C3 D0 D1 D2 D3 H0;go_wp2_with fail
     refine hd.mono ?_;rintro e w1 ⟨E,rfl,h1,h2⟩;clear hd hc;by_cases hE:E=0
     ·subst hE
      have S:Aside (PP (3+1) w1):=h1 rfl;clear h1 h2;go_wp2;go_roundg q
      case measure=>exact Nat.lt_succ_self _
      case rel=>exact ⟨3+1,rfl,R.out,S.out⟩
     ·have hE':(E != 0)=true:=by simp [hE]
      have S:Aside (¬ E=0/\Fin E w1):=⟨hE,h2 hE⟩
      clear h1 h2 hE;go_wp2;go_ret;exact ⟨E,rfl,fun h=>absurd h S.out.1,fun _=>S.out.2⟩
def z7M (v:Value) (X Y:Nat) (nv:Value):Array Value:=#[v,.int .u64 (X:Int),.int .u64 (Y:Int),nv]
structure FRM (w0 w:World) (rb gl:Nat) (t:TypeId) (v:Value) (X Y:Nat) (nv:Value) (fl:Array Value) (tf:TypeId):Prop where
 bel:Below w0.heap.size w0 w
 rd:Has w rb (z7M v X Y nv) t
 fl:Has w gl fl tf
 ne:gl≠rb
 lb:w0.heap.size<=rb
 lg:w0.heap.size<=gl
def SRC (w0:World) (a:Option Addr) (c:Nat) (t:List Int):Prop:=Bytes w0 a t.length t/\t.length<=c/\t.length<=1000000
theorem FRM.drew {w0 w:World} {rb gl:Nat} {t:TypeId} {v:Value} {X Y:Nat} {nv:Value} {fl:Array Value} {tf:TypeId} (h:FRM w0 w rb gl t v X Y nv fl tf):FRM w0 w.drew rb gl t v X Y nv fl tf:=⟨h.bel.drew,h.rd,h.fl,h.ne,h.lb,h.lg⟩
theorem FRM.keep {w0 w w':World} {rb gl:Nat} {t:TypeId} {v:Value} {X Y:Nat} {nv:Value} {fl:Array Value} {tf:TypeId} (h:FRM w0 w rb gl t v X Y nv fl tf) (hb:Below w.heap.size w w'):FRM w0 w' rb gl t v X Y nv fl tf:=⟨h.bel.trans (hb.mono h.bel.size),h.rd.keep hb,h.fl.keep hb,h.ne,h.lb,h.lg⟩
theorem FRM.rest {w0 w:World} {rb gl:Nat} {t:TypeId} {v:Value} {X Y:Nat} {nv:Value} {fl:Array Value} {tf:TypeId} (h:FRM w0 w rb gl t v X Y nv fl tf) (v':Value):FRM w0 (w.setCell ⟨rb,0,none⟩ v') rb gl t v' X Y nv fl tf:=
 ⟨h.bel.setCell (p:=⟨rb,0,none⟩) h.lb _,h.rd.set 0 v',h.fl.other (a:=⟨rb,0,none⟩) h.ne _,h.ne,h.lb,h.lg⟩
theorem FRM.first {w0 w:World} {rb gl:Nat} {t:TypeId} {v:Value} {X Y:Nat} {nv:Value} {fl:Array Value} {tf:TypeId} (h:FRM w0 w rb gl t v X Y nv fl tf) (Z:Nat):FRM w0 (w.setCell ⟨rb,1,none⟩ (.int .u64 (Z:Int))) rb gl t v Z Y nv fl tf:=
 ⟨h.bel.setCell (p:=⟨rb,1,none⟩) h.lb _,h.rd.set 1 _,h.fl.other (a:=⟨rb,1,none⟩) h.ne _,h.ne,h.lb,h.lg⟩
theorem FRM.second {w0 w:World} {rb gl:Nat} {t:TypeId} {v:Value} {X Y:Nat} {nv:Value} {fl:Array Value} {tf:TypeId} (h:FRM w0 w rb gl t v X Y nv fl tf) (Z:Nat):FRM w0 (w.setCell ⟨rb,2,none⟩ (.int .u64 (Z:Int))) rb gl t v X Z nv fl tf:=
 ⟨h.bel.setCell (p:=⟨rb,2,none⟩) h.lb _,h.rd.set 2 _,h.fl.other (a:=⟨rb,2,none⟩) h.ne _,h.ne,h.lb,h.lg⟩
theorem FRM.nodes {w0 w:World} {rb gl:Nat} {t:TypeId} {v:Value} {X Y:Nat} {nv:Value} {fl:Array Value} {tf:TypeId} (h:FRM w0 w rb gl t v X Y nv fl tf) (nv':Value):FRM w0 (w.setCell ⟨rb,3,none⟩ nv') rb gl t v X Y nv' fl tf:=
 ⟨h.bel.setCell (p:=⟨rb,3,none⟩) h.lb _,h.rd.set 3 _,h.fl.other (a:=⟨rb,3,none⟩) h.ne _,h.ne,h.lb,h.lg⟩
theorem SRC.drop {w0:World} {b off c:Nat} {t:List Int} (h:SRC w0 (some ⟨b,off,none⟩) c t) (k:Nat) (hk:k<=t.length):SRC w0 (REST b off c k) (c - k) (t.drop k):=by
 obtain ⟨h1,h2,h3⟩:=h;have:=h1.behind k hk h2;refine ⟨?_,by rw [List.length_drop];omega,by rw [List.length_drop];omega⟩;rw [List.length_drop];exact this
theorem SRC.addr {w0:World} {a:Option Addr} {c:Nat} {t:List Int} (h:SRC w0 a c t) (h0:0<t.length):∃ b off,a=some ⟨b,off,none⟩/\b<w0.heap.size/\∀ i,i<t.length->w0.cell? ⟨b,off+i,none⟩=some (.int .u8 (t.getD i 0)):=h.1.2.1 h0
theorem z55 {w0 w:World} {rb gl:Nat} {t:TypeId} {X Y:Nat} {nv:Value} {fl:Array Value} {tf:TypeId} {a:Option Addr} {c:Nat} {l:List Int} (F:FRM w0 w rb gl t (.slice a l.length c) X Y nv fl tf) (S:SRC w0 a c l) (f:Nat) (hl:(LNG l).2.2≠0):
  Calls Tryz.prog 99 #[.pointer (some ⟨rb,0,none⟩),.pointer (some ⟨rb,f,none⟩)] w.drew fun e w'=>e=.returned (.int .i64 (LNG l).2.2)/\Below w0.heap.size w0 w':=by
 have cl:=z8r a l.length c l w.drew ((S.1.below F.bel).below ((Below.refl _ _).drew)) S.2.1 (by have:=S.2.2;omega);refine (zdv rb f _ _ _ _ w.drew hl (F.drew.rd.cell 0) cl).mono ?_;rintro e w' ⟨rfl,rfl⟩;exact ⟨rfl,F.drew.bel⟩
theorem z7N {w0 w:World} {rb gl:Nat} {t:TypeId} {X Y:Nat} {nv:Value} {fl:Array Value} {tf:TypeId} {a:Option Addr} {c:Nat} {l:List Int} (F:FRM w0 w rb gl t (.slice a l.length c) X Y nv fl tf) (S:SRC w0 a c l) (hl:(LNG l).2.2=0):
  ∃ (Z m:Nat) (a':Option Addr) (c':Nat),Z<2 ^ 64/\LNG l=((Z:Int),(m:Int),0)/\SRC w0 a' c' (l.drop m)/\Calls Tryz.prog 99 #[.pointer (some ⟨rb,0,none⟩),.pointer (some ⟨rb,1,none⟩)] w.drew fun e w'=>e=.returned (.int .i64 0)/\FRM w0 w' rb gl t (.slice a' (l.drop m).length c') Z Y nv fl tf:=by
 obtain ⟨Z,m,h1,h2,h3,h4,h5⟩:=z1P S.1.2.2 hl;obtain ⟨b,off,rfl,hb,hcs⟩:=S.addr (by omega);have cl:=z8r (some ⟨b,off,none⟩) l.length c l w.drew ((S.1.below F.bel).below ((Below.refl _ _).drew)) S.2.1 (by have:=S.2.2;omega);rw [show LG l l.length 10 0 0=LNG l from rfl,h4] at cl;refine ⟨Z,m,_,_,h1,h4,S.drop m h3,(z9a rb 1 (by decide) (Z:Int) b off l.length c m h3 S.2.1 _ w.drew (F.drew.rd.cell 0) (F.drew.rd.cell 1) (F.drew.rd.frozen 0) (F.drew.rd.frozen 1) cl).mono ?_⟩;rintro e w' ⟨rfl,rfl⟩;refine ⟨rfl,?_⟩;rw [List.length_drop];exact ((F.drew.drew).first Z).rest _
theorem z6t {w0 w:World} {rb gl:Nat} {t:TypeId} {X Y:Nat} {nv:Value} {fl:Array Value} {tf:TypeId} {a:Option Addr} {c:Nat} {l:List Int} (F:FRM w0 w rb gl t (.slice a l.length c) X Y nv fl tf) (S:SRC w0 a c l) (hl:(LNG l).2.2=0):
  ∃ (Z m:Nat) (a':Option Addr) (c':Nat),Z<2 ^ 64/\LNG l=((Z:Int),(m:Int),0)/\SRC w0 a' c' (l.drop m)/\Calls Tryz.prog 99 #[.pointer (some ⟨rb,0,none⟩),.pointer (some ⟨rb,2,none⟩)] w.drew fun e w'=>e=.returned (.int .i64 0)/\FRM w0 w' rb gl t (.slice a' (l.drop m).length c') X Z nv fl tf:=by
 obtain ⟨Z,m,h1,h2,h3,h4,h5⟩:=z1P S.1.2.2 hl;obtain ⟨b,off,rfl,hb,hcs⟩:=S.addr (by omega);have cl:=z8r (some ⟨b,off,none⟩) l.length c l w.drew ((S.1.below F.bel).below ((Below.refl _ _).drew)) S.2.1 (by have:=S.2.2;omega);rw [show LG l l.length 10 0 0=LNG l from rfl,h4] at cl;refine ⟨Z,m,_,_,h1,h4,S.drop m h3,(z9a rb 2 (by decide) (Z:Int) b off l.length c m h3 S.2.1 _ w.drew (F.drew.rd.cell 0) (F.drew.rd.cell 2) (F.drew.rd.frozen 0) (F.drew.rd.frozen 2) cl).mono ?_⟩;rintro e w' ⟨rfl,rfl⟩;refine ⟨rfl,?_⟩;rw [List.length_drop];exact ((F.drew.drew).second Z).rest _
theorem z9d {w0 w:World} {rb gl:Nat} {t:TypeId} {X Y:Nat} {nv:Value} {fl:Array Value} {tf:TypeId} {a:Option Addr} {c:Nat} {l:List Int} (F:FRM w0 w rb gl t (.slice a l.length c) X Y nv fl tf) (S:SRC w0 a c l) (K:Int):
  (l.length=0/\Calls Tryz.prog 98 #[.pointer (some ⟨rb,0,none⟩),.int .u8 K] w fun e w'=>e=.returned (.int .i64 11)/\w=w')\/
  (¬ l.length=0/\l.getD 0 0≠K/\Calls Tryz.prog 98 #[.pointer (some ⟨rb,0,none⟩),.int .u8 K] w fun e w'=>e=.returned (.int .i64 14)/\w=w')\/
  (¬ l.length=0/\l.getD 0 0=K/\∃ a' c',SRC w0 a' c' (l.drop 1)/\Calls Tryz.prog 98 #[.pointer (some ⟨rb,0,none⟩),.int .u8 K] w fun e w'=>e=.returned (.int .i64 0)/\FRM w0 w' rb gl t (.slice a' (l.drop 1).length c') X Y nv fl tf):=by
 by_cases h0:l.length=0
 ·refine .inl ⟨h0,?_⟩
  have hc:=F.rd.cell 0;rw [show (z7M (.slice a l.length c) X Y nv)[0]?=some (.slice a l.length c) from rfl,h0] at hc;exact zfl rb K a c w hc
 ·obtain ⟨b,off,rfl,hb,hcs⟩:=S.addr (by omega)
  have hx:w.cell? ⟨b,off,none⟩=some (.int .u8 (l.getD 0 0)):=by
   have:=hcs 0 (by omega);rw [Nat.add_zero] at this;exact (F.bel.cell (p:=⟨b,off,none⟩) hb).trans this
  have hc:=F.rd.cell 0;rw [show (z7M (.slice (some ⟨b,off,none⟩) l.length c) X Y nv)[0]?=some (.slice (some ⟨b,off,none⟩) l.length c) from rfl] at hc;by_cases hK:l.getD 0 0=K
  ·refine .inr (.inr ⟨h0,hK,_,_,S.drop 1 (by omega),?_⟩)
   obtain ⟨n,hn⟩:∃ n,l.length=n+1:=⟨l.length - 1,by omega⟩
   rw [hn] at hc;refine (zif rb K b off n c (by have:=S.2.1;omega) w hc (F.rd.frozen 0) (by rw [<-hK];exact hx)).mono ?_;rintro e w' ⟨rfl,rfl⟩;refine ⟨rfl,?_⟩;rw [List.length_drop,hn,Nat.add_sub_cancel];exact F.rest _
  ·exact .inr (.inl ⟨h0,hK,zdu rb K _ b off l.length c w hK (by omega) hc hx⟩)
theorem z2n {w0 w:World} {rb gl:Nat} {t:TypeId} {X Y:Nat} {nv:Value} {fl:Array Value} {tf:TypeId} {a:Option Addr} {c:Nat} {l:List Int} (F:FRM w0 w rb gl t (.slice a l.length c) X Y nv fl tf) (S:SRC w0 a c l) (N:Nat) (hN:N<=1000):
  (l.length<32*N/\Calls Tryz.prog 100 #[.pointer (some ⟨rb,0,none⟩),.pointer (some ⟨rb,3,none⟩),.int .i64 (N:Int)] w fun e w'=>e=.returned (.int .i64 11)/\w=w')\/
  (¬ l.length<32*N/\32*N<l.length/\Calls Tryz.prog 100 #[.pointer (some ⟨rb,0,none⟩),.pointer (some ⟨rb,3,none⟩),.int .i64 (N:Int)] w fun e w'=>e=.returned (.int .i64 13)/\w=w')\/
  (l.length=32*N/\Calls Tryz.prog 100 #[.pointer (some ⟨rb,0,none⟩),.pointer (some ⟨rb,3,none⟩),.int .i64 (N:Int)] w fun e w'=>e=.returned (.int .i64 0)/\∃ g,FRM w0 w' rb gl t (.slice a l.length c) X Y (.slice (some ⟨g,0,none⟩) N N) fl tf/\Has w' g (z01 l).toArray 24/\w0.heap.size<=g/\g≠rb/\g≠gl):=by
 have hc:=F.rd.cell 0;rw [show (z7M (.slice a l.length c) X Y nv)[0]?=some (.slice a l.length c) from rfl] at hc;rcases Nat.lt_trichotomy l.length (32*N) with h | h | h
 ·exact .inl ⟨h,zdB rb 3 N l.length c a hN h w hc⟩
 ·refine .inr (.inr ⟨h,?_⟩)
  have hb:=S.1.below F.bel;rw [h] at hb hc;refine (zfn rb 3 N c a hN l w hb (by have:=S.2.1;omega) F.rd.lt hc _ (F.rd.cell 3) (F.rd.frozen 3)).mono ?_;rintro e w' ⟨rfl,wx,hbx,hsz,hh,rfl⟩;have hrb:=F.rd.lt;have hgl:=F.fl.lt;refine ⟨rfl,w.heap.size,((F.keep hbx).nodes _),hh.other (a:=⟨rb,3,none⟩) (by show w.heap.size≠rb;omega) _,F.bel.size,by omega,by omega⟩
 ·exact .inr (.inl ⟨by omega,h,zbI rb 3 N l.length c a hN h w hc⟩)
def RPP (w0:World) (rb gl:Nat) (t:TypeId) (fl:Array Value) (tf:TypeId) (K:Int) (chk:Nat->Bool) (PF:Nat->Nat->Int × List Nat) (D:DANS):Nat->World->Prop
 | 0,w=>∃ a c l,FRM w0 w rb gl t (.slice a l.length c) 0 0 (.slice none 0 0) fl tf/\SRC w0 a c l/\D=DC0 K chk PF l
 | 1,w=>∃ a c l,FRM w0 w rb gl t (.slice a l.length c) 0 0 (.slice none 0 0) fl tf/\SRC w0 a c l/\D=DC1 chk PF l
 | 2,w=>∃ a c l X,FRM w0 w rb gl t (.slice a l.length c) X 0 (.slice none 0 0) fl tf/\SRC w0 a c l/\X<2 ^ 64/\D=DC2 PF X l
 | 3,w=>∃ a c l X Y,FRM w0 w rb gl t (.slice a l.length c) X Y (.slice none 0 0) fl tf/\SRC w0 a c l/\X<2 ^ 64/\Y<2 ^ 64/\D=DC3 PF X Y l
 | _,w=>∃ a c l X Y N g,FRM w0 w rb gl t (.slice a l.length c) X Y (.slice (some ⟨g,0,none⟩) N N) fl tf/\SRC w0 a c l/\X<2 ^ 64/\Y<2 ^ 64/\D=(0,X,Y,N,l)/\l.length=32*N/\Has w g (z01 l).toArray 24/\w0.heap.size<=g/\g≠rb/\g≠gl
def RFIN (w0:World) (D:DANS) (E:Int) (w:World):Prop:=D=DERR E/\Below w0.heap.size w0 w
theorem z0R {f:Nat} {args:Array Value} {w:World} {P:World->Prop} {Fin:Int->World->Prop} {E:Int} {C:World->Prop} (h:Calls Tryz.prog f args w fun e w'=>e=.returned (.int .i64 E)/\C w') (h0:E=0->∀ w',C w'->P w') (h1:E≠0->∀ w',C w'->Fin E w'):Calls Tryz.prog f args w (STP P Fin):=
 h.mono fun _ w' ⟨he,hc⟩=>⟨E,he,fun e0=>h0 e0 w' hc,fun e1=>h1 e1 w' hc⟩
theorem z64 {w0 W:World} (hT:Tabled w0) (h0:0<w0.heap.size) (h:Below w0.heap.size w0 W):Tabled W/\0<W.heap.size:=⟨hT.below h0 h,Nat.lt_of_lt_of_le h0 h.size⟩
theorem ziY {w0:World} {rb gl:Nat} {t:TypeId} {fl:Array Value} {tf:TypeId} {chk:Nat->Bool} {PF:Nat->Nat->Int × List Nat} {D:DANS} (w:World) (h:RPP w0 rb gl t fl tf 77 chk PF D 0 w):
  Calls Tryz.prog 64 #[.pointer (some ⟨rb,0,none⟩)] w (STP (RPP w0 rb gl t fl tf 77 chk PF D 1) (RFIN w0 D)):=by
 obtain ⟨a,c,l,F,S,hD⟩:=h;rcases z9d F S 77 with ⟨h1,c1⟩ | ⟨h1,h2,c1⟩ | ⟨h1,h2,a',c',S',c1⟩
 ·refine z0R (z6U rb w 11 _ c1) (fun e=>absurd e (by decide)) fun _ w' hw=>?_
  subst hw;exact ⟨by rw [hD,DC0,if_pos h1],F.bel⟩
 ·refine z0R (z6U rb w 14 _ c1) (fun e=>absurd e (by decide)) fun _ w' hw=>?_
  subst hw;exact ⟨by rw [hD,DC0,if_neg h1,if_pos h2],F.bel⟩
 ·refine z0R (z6U rb w 0 _ c1) (fun _ w' hw=>⟨a',c',_,hw,S',?_⟩) fun e=>absurd rfl e
  rw [hD,DC0,if_neg h1,if_neg (by simpa using h2)]
theorem ziZ {w0:World} {rb gl:Nat} {t:TypeId} {fl:Array Value} {tf:TypeId} {PF:Nat->Nat->Int × List Nat} {D:DANS} (w:World) (h:RPP w0 rb gl t fl tf 77 z1t PF D 1 w):
  Calls Tryz.prog 65 #[.pointer (some ⟨rb,0,none⟩)] w (STP (RPP w0 rb gl t fl tf 77 z1t PF D 2) (RFIN w0 D)):=by
 obtain ⟨a,c,l,F,S,hD⟩:=h;by_cases hl:(LNG l).2.2=0
 ·obtain ⟨Z,m,a',c',hZ,e1,S',c1⟩:=z7N F S hl
  have c2:Calls Tryz.prog 99 #[.pointer (some ⟨rb,0,none⟩),.pointer (some ⟨rb,1,none⟩)] w.drew fun e w'=>e=.returned (.int .i64 0)/\w'.cell? ⟨rb,1,none⟩=some (.int .u64 (Z:Int))/\FRM w0 w' rb gl t (.slice a' (l.drop m).length c') Z 0 (.slice none 0 0) fl tf:=c1.mono fun e w' ⟨he,hw⟩=>⟨he,hw.rd.cell 1,hw⟩
  unfold DC1 at hD;rw [if_neg (by simpa using hl),e1] at hD;have e2:((Z:Int)).toNat=Z:=by omega
  have e3:((m:Int)).toNat=m:=by omega
  simp only [e2,e3] at hD;by_cases hb:4611686018427387904<Z
  ·refine z0R (zfp rb w (Z:Int) (by omega) _ c2) (fun e=>absurd e (by decide)) fun _ w' hw=>⟨?_,hw.bel⟩
   rw [hD,if_pos (by simpa [z1t] using hb)]
  ·refine z0R (zh7 rb w (Z:Int) (by omega) _ c2) (fun _ w' hw=>⟨a',c',_,Z,hw,S',hZ,?_⟩) fun e=>absurd rfl e
   rw [hD,if_neg (by simpa [z1t] using hb)]
 ·refine z0R (zfo rb w _ hl _ (z55 F S 1 hl)) (fun e=>absurd e hl) fun _ w' hw=>⟨?_,hw⟩
  rw [hD,DC1,if_pos hl]
theorem zj0 {w0:World} {rb gl:Nat} {t:TypeId} {fl:Array Value} {tf:TypeId} {chk:Nat->Bool} {PF:Nat->Nat->Int × List Nat} {D:DANS} (w:World) (h:RPP w0 rb gl t fl tf 77 chk PF D 2 w):
  Calls Tryz.prog 66 #[.pointer (some ⟨rb,0,none⟩)] w (STP (RPP w0 rb gl t fl tf 77 chk PF D 3) (RFIN w0 D)):=by
 obtain ⟨a,c,l,X,F,S,hX,hD⟩:=h;by_cases hl:(LNG l).2.2=0
 ·obtain ⟨Z,m,a',c',hZ,e1,S',c1⟩:=z6t F S hl
  refine z0R (z9b rb w 0 _ c1) (fun _ w' hw=>⟨a',c',_,X,Z,hw,S',hX,hZ,?_⟩) fun e=>absurd rfl e;rw [hD,DC2,if_neg (by simpa using hl),e1];rfl
 ·refine z0R (z9b rb w _ _ (z55 F S 2 hl)) (fun e=>absurd e hl) fun _ w' hw=>⟨?_,hw⟩
  rw [hD,DC2,if_pos hl]
theorem zj1 {w0:World} {rb gl:Nat} {t:TypeId} {fl:Array Value} {tf:TypeId} {chk:Nat->Bool} {D:DANS} (hT:Tabled w0) (h0:0<w0.heap.size) (w:World) (h:RPP w0 rb gl t fl tf 77 chk (fun S I=>PLA I S) D 3 w):
  Calls Tryz.prog 67 #[.pointer (some ⟨rb,0,none⟩)] w (STP (RPP w0 rb gl t fl tf 77 chk (fun S I=>PLA I S) D 4) (RFIN w0 D)):=by
 obtain ⟨a,c,l,X,Y,F,S,hX,hY,hD⟩:=h;obtain ⟨hT',h0'⟩:=z64 hT h0 F.drew.bel;have cp:=z7h Y X w.drew hT' h0';have hfew:=z8e Y X;have hPF:((fun S I=>PLA I S)) X Y=PLA Y X:=rfl;unfold DC3 at hD;rw [hPF] at hD;by_cases hE:(PLA Y X).1=0
 ·rw [if_neg (by simpa using hE)] at hD
  rw [hE] at cp;obtain ⟨N,hN⟩:∃ N,(PLA Y X).2.length=N:=⟨_,rfl⟩
  rw [hN] at cp hD hfew;rcases Nat.lt_trichotomy l.length (32*N) with h1 | h1 | h1
  ·refine z0R (z5G rb w X Y 11 N (fun w'=>Below w0.heap.size w0 w') (F.rd.cell 1) (F.rd.cell 2) (cp.mono ?_)) (fun e=>absurd e (by decide)) fun _ w' hw=>⟨by rw [hD,if_pos h1],hw⟩
   rintro e w1 ⟨v,rfl,hrow,hb⟩;obtain ⟨av,cv,rfl,_⟩:=z0P hrow;have F1:=(F.drew.keep hb).drew;refine ⟨av,cv,rfl,?_⟩;rcases z2n F1 S N (by omega) with ⟨_,c1⟩ | ⟨h2,_,_⟩ | ⟨h2,_⟩
   ·exact c1.mono fun e w2 ⟨he,hw⟩=>⟨he,by rw [<-hw];exact F1.bel⟩
   ·omega
   ·omega
  ·refine z0R (z5G rb w X Y 0 N (fun w'=>∃ g,FRM w0 w' rb gl t (.slice a l.length c) X Y (.slice (some ⟨g,0,none⟩) N N) fl tf/\Has w' g (z01 l).toArray 24/\w0.heap.size<=g/\g≠rb/\g≠gl) (F.rd.cell 1) (F.rd.cell 2) (cp.mono ?_)) (fun _ w' hw=>?_) fun e=>absurd rfl e
   ·rintro e w1 ⟨v,rfl,hrow,hb⟩
    obtain ⟨av,cv,rfl,_⟩:=z0P hrow;have F1:=(F.drew.keep hb).drew;refine ⟨av,cv,rfl,?_⟩;rcases z2n F1 S N (by omega) with ⟨h2,_⟩ | ⟨h2,h3,_⟩ | ⟨_,c1⟩
    ·omega
    ·omega
    ·exact c1
   ·obtain ⟨g,F2,hg,hg1,hg2,hg3⟩:=hw
    refine ⟨a,c,l,X,Y,N,g,F2,S,hX,hY,?_,h1,hg,hg1,hg2,hg3⟩;rw [hD,if_neg (by omega),if_neg (by omega)]
  ·refine z0R (z5G rb w X Y 13 N (fun w'=>Below w0.heap.size w0 w') (F.rd.cell 1) (F.rd.cell 2) (cp.mono ?_)) (fun e=>absurd e (by decide)) fun _ w' hw=>⟨by rw [hD,if_neg (by omega),if_pos h1],hw⟩
   rintro e w1 ⟨v,rfl,hrow,hb⟩;obtain ⟨av,cv,rfl,_⟩:=z0P hrow;have F1:=(F.drew.keep hb).drew;refine ⟨av,cv,rfl,?_⟩;rcases z2n F1 S N (by omega) with ⟨h2,_⟩ | ⟨_,_,c1⟩ | ⟨h2,_⟩
   ·omega
   ·exact c1.mono fun e w2 ⟨he,hw⟩=>⟨he,by rw [<-hw];exact F1.bel⟩
   ·omega
 ·refine z0R (zdC rb w X Y _ hE (fun w'=>Below w0.heap.size w0 w') (F.rd.cell 1) (F.rd.cell 2) (cp.mono ?_)) (fun e=>absurd e hE) fun _ w' hw=>⟨by rw [hD,if_pos hE],hw⟩
  rintro e w1 ⟨v,rfl,hrow,hb⟩;exact ⟨v,rfl,F.drew.bel.trans (hb.mono F.drew.bel.size)⟩
theorem zj2 {w0:World} {rb gl:Nat} {t:TypeId} {fl:Array Value} {tf:TypeId} {chk:Nat->Bool} {PF:Nat->Nat->Int × List Nat} {D:DANS} (w:World) (h:RPP w0 rb gl t fl tf 80 chk PF D 0 w):
  Calls Tryz.prog 73 #[.pointer (some ⟨rb,0,none⟩)] w (STP (RPP w0 rb gl t fl tf 80 chk PF D 1) (RFIN w0 D)):=by
 obtain ⟨a,c,l,F,S,hD⟩:=h;rcases z9d F S 80 with ⟨h1,c1⟩ | ⟨h1,h2,c1⟩ | ⟨h1,h2,a',c',S',c1⟩
 ·refine z0R (z6V rb w 11 _ c1) (fun e=>absurd e (by decide)) fun _ w' hw=>?_
  subst hw;exact ⟨by rw [hD,DC0,if_pos h1],F.bel⟩
 ·refine z0R (z6V rb w 14 _ c1) (fun e=>absurd e (by decide)) fun _ w' hw=>?_
  subst hw;exact ⟨by rw [hD,DC0,if_neg h1,if_pos h2],F.bel⟩
 ·refine z0R (z6V rb w 0 _ c1) (fun _ w' hw=>⟨a',c',_,hw,S',?_⟩) fun e=>absurd rfl e
  rw [hD,DC0,if_neg h1,if_neg (by simpa using h2)]
theorem zj3 {w0:World} {rb gl:Nat} {t:TypeId} {fl:Array Value} {tf:TypeId} {PF:Nat->Nat->Int × List Nat} {D:DANS} (w:World) (h:RPP w0 rb gl t fl tf 80 (fun _=>false) PF D 1 w):
  Calls Tryz.prog 74 #[.pointer (some ⟨rb,0,none⟩)] w (STP (RPP w0 rb gl t fl tf 80 (fun _=>false) PF D 2) (RFIN w0 D)):=by
 obtain ⟨a,c,l,F,S,hD⟩:=h;by_cases hl:(LNG l).2.2=0
 ·obtain ⟨Z,m,a',c',hZ,e1,S',c1⟩:=z7N F S hl
  refine z0R (zaQ rb w 0 _ c1) (fun _ w' hw=>⟨a',c',_,Z,hw,S',hZ,?_⟩) fun e=>absurd rfl e;rw [hD,DC1,if_neg (by simpa using hl),if_neg (by decide),e1];rfl
 ·refine z0R (zaQ rb w _ _ (z55 F S 1 hl)) (fun e=>absurd e hl) fun _ w' hw=>⟨?_,hw⟩
  rw [hD,DC1,if_pos hl]
theorem zj4 {w0:World} {rb gl:Nat} {t:TypeId} {fl:Array Value} {tf:TypeId} {chk:Nat->Bool} {PF:Nat->Nat->Int × List Nat} {D:DANS} (w:World) (h:RPP w0 rb gl t fl tf 80 chk PF D 2 w):
  Calls Tryz.prog 75 #[.pointer (some ⟨rb,0,none⟩)] w (STP (RPP w0 rb gl t fl tf 80 chk PF D 3) (RFIN w0 D)):=by
 obtain ⟨a,c,l,X,F,S,hX,hD⟩:=h;by_cases hl:(LNG l).2.2=0
 ·obtain ⟨Z,m,a',c',hZ,e1,S',c1⟩:=z6t F S hl
  refine z0R (zaR rb w 0 _ c1) (fun _ w' hw=>⟨a',c',_,X,Z,hw,S',hX,hZ,?_⟩) fun e=>absurd rfl e;rw [hD,DC2,if_neg (by simpa using hl),e1];rfl
 ·refine z0R (zaR rb w _ _ (z55 F S 2 hl)) (fun e=>absurd e hl) fun _ w' hw=>⟨?_,hw⟩
  rw [hD,DC2,if_pos hl]
theorem zj5 {w0:World} {rb gl:Nat} {t:TypeId} {fl:Array Value} {tf:TypeId} {chk:Nat->Bool} {D:DANS} (hT:Tabled w0) (h0:0<w0.heap.size) (w:World) (h:RPP w0 rb gl t fl tf 80 chk PPA D 3 w):
  Calls Tryz.prog 76 #[.pointer (some ⟨rb,0,none⟩)] w (STP (RPP w0 rb gl t fl tf 80 chk PPA D 4) (RFIN w0 D)):=by
 obtain ⟨a,c,l,X,Y,F,S,hX,hY,hD⟩:=h;obtain ⟨hT',h0'⟩:=z64 hT h0 F.drew.bel;have cp:=z5m X Y w.drew hT' h0';have hfew:=z8f X Y;have hPF:(PPA) X Y=PPA X Y:=rfl;unfold DC3 at hD;rw [hPF] at hD;by_cases hE:(PPA X Y).1=0
 ·rw [if_neg (by simpa using hE)] at hD
  rw [hE] at cp;obtain ⟨N,hN⟩:∃ N,(PPA X Y).2.length=N:=⟨_,rfl⟩
  rw [hN] at cp hD hfew;rcases Nat.lt_trichotomy l.length (32*N) with h1 | h1 | h1
  ·refine z0R (z5H rb w X Y 11 N (fun w'=>Below w0.heap.size w0 w') (F.rd.cell 1) (F.rd.cell 2) (cp.mono ?_)) (fun e=>absurd e (by decide)) fun _ w' hw=>⟨by rw [hD,if_pos h1],hw⟩
   rintro e w1 ⟨v,rfl,hrow,hb⟩;obtain ⟨av,cv,rfl,_⟩:=z0P hrow;have F1:=(F.drew.keep hb).drew;refine ⟨av,cv,rfl,?_⟩;rcases z2n F1 S N (by omega) with ⟨_,c1⟩ | ⟨h2,_,_⟩ | ⟨h2,_⟩
   ·exact c1.mono fun e w2 ⟨he,hw⟩=>⟨he,by rw [<-hw];exact F1.bel⟩
   ·omega
   ·omega
  ·refine z0R (z5H rb w X Y 0 N (fun w'=>∃ g,FRM w0 w' rb gl t (.slice a l.length c) X Y (.slice (some ⟨g,0,none⟩) N N) fl tf/\Has w' g (z01 l).toArray 24/\w0.heap.size<=g/\g≠rb/\g≠gl) (F.rd.cell 1) (F.rd.cell 2) (cp.mono ?_)) (fun _ w' hw=>?_) fun e=>absurd rfl e
   ·rintro e w1 ⟨v,rfl,hrow,hb⟩
    obtain ⟨av,cv,rfl,_⟩:=z0P hrow;have F1:=(F.drew.keep hb).drew;refine ⟨av,cv,rfl,?_⟩;rcases z2n F1 S N (by omega) with ⟨h2,_⟩ | ⟨h2,h3,_⟩ | ⟨_,c1⟩
    ·omega
    ·omega
    ·exact c1
   ·obtain ⟨g,F2,hg,hg1,hg2,hg3⟩:=hw
    refine ⟨a,c,l,X,Y,N,g,F2,S,hX,hY,?_,h1,hg,hg1,hg2,hg3⟩;rw [hD,if_neg (by omega),if_neg (by omega)]
  ·refine z0R (z5H rb w X Y 13 N (fun w'=>Below w0.heap.size w0 w') (F.rd.cell 1) (F.rd.cell 2) (cp.mono ?_)) (fun e=>absurd e (by decide)) fun _ w' hw=>⟨by rw [hD,if_neg (by omega),if_pos h1],hw⟩
   rintro e w1 ⟨v,rfl,hrow,hb⟩;obtain ⟨av,cv,rfl,_⟩:=z0P hrow;have F1:=(F.drew.keep hb).drew;refine ⟨av,cv,rfl,?_⟩;rcases z2n F1 S N (by omega) with ⟨h2,_⟩ | ⟨_,_,c1⟩ | ⟨h2,_⟩
   ·omega
   ·exact c1.mono fun e w2 ⟨he,hw⟩=>⟨he,by rw [<-hw];exact F1.bel⟩
   ·omega
 ·refine z0R (zdD rb w X Y _ hE (fun w'=>Below w0.heap.size w0 w') (F.rd.cell 1) (F.rd.cell 2) (cp.mono ?_)) (fun e=>absurd e hE) fun _ w' hw=>⟨by rw [hD,if_pos hE],hw⟩
  rintro e w1 ⟨v,rfl,hrow,hb⟩;exact ⟨v,rfl,F.drew.bel.trans (hb.mono F.drew.bel.size)⟩
end Go.Proofs.YtdggkbpabjgdfaaGreatDoor
