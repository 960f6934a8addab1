/- ClashAcross: part 2. -/
import Derived.Deep.OwnRows
import Derived.Deep.AppendLies
import Derived.Deep.QuietTactic
import Derived.BigQuiet
import Derived.Test.YtdggkbpabjgdfaaGreatDoorClashAcrossP1
namespace Go.Proofs.YtdggkbpabjgdfaaGreatDoor
open Go.RowKit
def LTAB:ByteArray:=⟨#[0,1,2,2,3,3,3,3,4,4,4,4,4,4,4,4,5,5,5,5,5,5,5,5,5,5,5,5,5,5,5,5,6,6,6,6,6,6,6,6,6,6,6,6,6,6,6,6,6,6,6,6,6,6,6,6,6,6,6,6,6,6,6,6,7,7,7,7,7,7,7,7,7,7,7,7,7,7,7,7,7,7,7,7,7,7,7,7,7,7,7,7,7,7,7,7,7,7,7,7,7,7,7,7,7,7,7,7,7,7,7,7,7,7,7,7,7,7,7,7,7,7,7,7,7,7,7,7,8,8,8,8,8,8,8,8,8,8,8,8,8,8,8,8,8,8,8,8,8,8,8,8,8,8,8,8,8,8,8,8,8,8,8,8,8,8,8,8,8,8,8,8,8,8,8,8,8,8,8,8,8,8,8,8,8,8,8,8,8,8,8,8,8,8,8,8,8,8,8,8,8,8,8,8,8,8,8,8,8,8,8,8,8,8,8,8,8,8,8,8,8,8,8,8,8,8,8,8,8,8,8,8,8,8,8,8,8,8,8,8,8,8,8,8,8,8,8,8,8,8,8,8,8,8,8,8]⟩
set_option maxRecDepth 100000 in
theorem zcH (x v:Int) (w:World) (h0:(¬ 4294967296<=x)) (h1:(¬ 65536<=x)) (h2:(¬ 256<=x)) (hx:0<=x) (hx':x<256)
  (hv:Aside (∀ h:(x).toNat<LTAB.size,wrap64 (wrap64 (LTAB[(x).toNat]'h).toNat)=v)):Calls Tryz.prog 129 #[.int .u64 x] w fun e w'=>e=.returned (.int .i64 v)/\w=w':=by
 go_enter Tryz.func129,Tryz.ntmps129;go_wp2;go_ret;exact ⟨congrArg (fun z=>Ending.returned (Value.int .i64 z)) (hv.out _),rfl⟩
set_option maxRecDepth 100000 in
theorem zcI (x v:Int) (w:World) (h0:(¬ 4294967296<=x)) (h1:(¬ 65536<=x)) (h2:(256<=x)) (hx:0<=x / 256) (hx':x / 256<256)
  (hv:Aside (∀ h:(x / 256).toNat<LTAB.size,wrap64 (8+wrap64 (LTAB[(x / 256).toNat]'h).toNat)=v)):Calls Tryz.prog 129 #[.int .u64 x] w fun e w'=>e=.returned (.int .i64 v)/\w=w':=by
 go_enter Tryz.func129,Tryz.ntmps129;go_wp2;go_ret;exact ⟨congrArg (fun z=>Ending.returned (Value.int .i64 z)) (hv.out _),rfl⟩
set_option maxRecDepth 100000 in
theorem zcJ (x v:Int) (w:World) (h0:(¬ 4294967296<=x)) (h1:(65536<=x)) (h2:(¬ 256<=x / 65536)) (hx:0<=x / 65536) (hx':x / 65536<256)
  (hv:Aside (∀ h:(x / 65536).toNat<LTAB.size,wrap64 (16+wrap64 (LTAB[(x / 65536).toNat]'h).toNat)=v)):Calls Tryz.prog 129 #[.int .u64 x] w fun e w'=>e=.returned (.int .i64 v)/\w=w':=by
 go_enter Tryz.func129,Tryz.ntmps129;go_wp2;go_ret;exact ⟨congrArg (fun z=>Ending.returned (Value.int .i64 z)) (hv.out _),rfl⟩
set_option maxRecDepth 100000 in
theorem zcK (x v:Int) (w:World) (h0:(¬ 4294967296<=x)) (h1:(65536<=x)) (h2:(256<=x / 65536)) (hx:0<=x / 65536 / 256) (hx':x / 65536 / 256<256)
  (hv:Aside (∀ h:(x / 65536 / 256).toNat<LTAB.size,wrap64 (24+wrap64 (LTAB[(x / 65536 / 256).toNat]'h).toNat)=v)):Calls Tryz.prog 129 #[.int .u64 x] w fun e w'=>e=.returned (.int .i64 v)/\w=w':=by
 go_enter Tryz.func129,Tryz.ntmps129;go_wp2;go_ret;exact ⟨congrArg (fun z=>Ending.returned (Value.int .i64 z)) (hv.out _),rfl⟩
set_option maxRecDepth 100000 in
theorem zcL (x v:Int) (w:World) (h0:(4294967296<=x)) (h1:(¬ 65536<=x / 4294967296)) (h2:(¬ 256<=x / 4294967296)) (hx:0<=x / 4294967296) (hx':x / 4294967296<256)
  (hv:Aside (∀ h:(x / 4294967296).toNat<LTAB.size,wrap64 (32+wrap64 (LTAB[(x / 4294967296).toNat]'h).toNat)=v)):Calls Tryz.prog 129 #[.int .u64 x] w fun e w'=>e=.returned (.int .i64 v)/\w=w':=by
 go_enter Tryz.func129,Tryz.ntmps129;go_wp2;go_ret;exact ⟨congrArg (fun z=>Ending.returned (Value.int .i64 z)) (hv.out _),rfl⟩
set_option maxRecDepth 100000 in
theorem zcM (x v:Int) (w:World) (h0:(4294967296<=x)) (h1:(¬ 65536<=x / 4294967296)) (h2:(256<=x / 4294967296)) (hx:0<=x / 4294967296 / 256) (hx':x / 4294967296 / 256<256)
  (hv:Aside (∀ h:(x / 4294967296 / 256).toNat<LTAB.size,wrap64 (40+wrap64 (LTAB[(x / 4294967296 / 256).toNat]'h).toNat)=v)):Calls Tryz.prog 129 #[.int .u64 x] w fun e w'=>e=.returned (.int .i64 v)/\w=w':=by
 go_enter Tryz.func129,Tryz.ntmps129;go_wp2;go_ret;exact ⟨congrArg (fun z=>Ending.returned (Value.int .i64 z)) (hv.out _),rfl⟩
set_option maxRecDepth 100000 in
theorem zcN (x v:Int) (w:World) (h0:(4294967296<=x)) (h1:(65536<=x / 4294967296)) (h2:(¬ 256<=x / 4294967296 / 65536)) (hx:0<=x / 4294967296 / 65536) (hx':x / 4294967296 / 65536<256)
  (hv:Aside (∀ h:(x / 4294967296 / 65536).toNat<LTAB.size,wrap64 (48+wrap64 (LTAB[(x / 4294967296 / 65536).toNat]'h).toNat)=v)):Calls Tryz.prog 129 #[.int .u64 x] w fun e w'=>e=.returned (.int .i64 v)/\w=w':=by
 go_enter Tryz.func129,Tryz.ntmps129;go_wp2;go_ret;exact ⟨congrArg (fun z=>Ending.returned (Value.int .i64 z)) (hv.out _),rfl⟩
set_option maxRecDepth 100000 in
theorem zcO (x v:Int) (w:World) (h0:(4294967296<=x)) (h1:(65536<=x / 4294967296)) (h2:(256<=x / 4294967296 / 65536)) (hx:0<=x / 4294967296 / 65536 / 256) (hx':x / 4294967296 / 65536 / 256<256)
  (hv:Aside (∀ h:(x / 4294967296 / 65536 / 256).toNat<LTAB.size,wrap64 (56+wrap64 (LTAB[(x / 4294967296 / 65536 / 256).toNat]'h).toNat)=v)):Calls Tryz.prog 129 #[.int .u64 x] w fun e w'=>e=.returned (.int .i64 v)/\w=w':=by
 go_enter Tryz.func129,Tryz.ntmps129;go_wp2;go_ret;exact ⟨congrArg (fun z=>Ending.returned (Value.int .i64 z)) (hv.out _),rfl⟩
def L8 (i:Nat):Nat:=if i=0 then 0 else if i<2 then 1 else if i<4 then 2 else if i<8 then 3 else if i<16 then 4 else if i<32 then 5 else if i<64 then 6 else if i<128 then 7 else 8
set_option maxRecDepth 100000 in
theorem zfV:∀ i,i<256->(([0,1,2,2,3,3,3,3,4,4,4,4,4,4,4,4,5,5,5,5,5,5,5,5,5,5,5,5,5,5,5,5,6,6,6,6,6,6,6,6,6,6,6,6,6,6,6,6,6,6,6,6,6,6,6,6,6,6,6,6,6,6,6,6,7,7,7,7,7,7,7,7,7,7,7,7,7,7,7,7,7,7,7,7,7,7,7,7,7,7,7,7,7,7,7,7,7,7,7,7,7,7,7,7,7,7,7,7,7,7,7,7,7,7,7,7,7,7,7,7,7,7,7,7,7,7,7,7,8,8,8,8,8,8,8,8,8,8,8,8,8,8,8,8,8,8,8,8,8,8,8,8,8,8,8,8,8,8,8,8,8,8,8,8,8,8,8,8,8,8,8,8,8,8,8,8,8,8,8,8,8,8,8,8,8,8,8,8,8,8,8,8,8,8,8,8,8,8,8,8,8,8,8,8,8,8,8,8,8,8,8,8,8,8,8,8,8,8,8,8,8,8,8,8,8,8,8,8,8,8,8,8,8,8,8,8,8,8,8,8,8,8,8,8,8,8,8,8,8,8,8,8,8,8,8,8]:List UInt8).getD i 0).toNat=L8 i:=by decide +kernel
set_option maxRecDepth 100000 in
theorem z2y (i:Nat) (h:i<LTAB.size):(LTAB[i]'h).toNat=L8 i:=by
 have h2:i<256:=h;have:=zfV i h2;rw [List.getD_eq_getElem?_getD,List.getElem?_eq_getElem (by exact h)] at this;exact this
theorem z2Z (i:Nat):L8 i<=8:=by unfold L8;repeat' split <;> try omega
theorem zc1 (i:Nat) (h0:i≠0) (h:i<256):1<=L8 i/\2 ^ (L8 i - 1)<=i/\i<2 ^ L8 i:=by
 unfold L8;repeat' split
 all_goals (try omega)
theorem z2Q (n i:Nat) (hn:n<=56):wrap64 ((n:Int)+wrap64 ((L8 i:Nat):Int))=((n+L8 i:Nat):Int):=by
 have:=z2Z i;unfold wrap64;omega
theorem zfW (i:Nat):wrap64 (wrap64 ((L8 i:Nat):Int))=((L8 i:Nat):Int):=by
 have:=z2Z i;unfold wrap64;omega
def LEN (X:Nat):Nat:=
 if 4294967296<=X then (if 281474976710656<=X then (if 72057594037927936<=X then 56+L8 (X / 72057594037927936) else 48+L8 (X / 281474976710656)) else (if 1099511627776<=X then 40+L8 (X / 1099511627776) else 32+L8 (X / 4294967296)))
 else (if 65536<=X then (if 16777216<=X then 24+L8 (X / 16777216) else 16+L8 (X / 65536)) else (if 256<=X then 8+L8 (X / 256) else L8 X))
theorem ze3 (X:Nat) (hX:X<2 ^ 64) (h0:¬ 4294967296<=X) (h1:¬ 65536<=X) (h2:¬ 256<=X) (w:World):Calls Tryz.prog 129 #[.int .u64 (X:Int)] w fun e w'=>e=.returned (.int .i64 ((0+L8 (X / 1):Nat):Int))/\w=w':=by
 have e:((X:Int)).toNat=X / 1:=by omega
 refine zcH X _ w (by omega) (by omega) (by omega) (by omega) (by omega) fun h=>?_;rw [z2y _ h,e];exact (zfW _).trans (by rw [Nat.zero_add])
theorem ze4 (X:Nat) (hX:X<2 ^ 64) (h0:¬ 4294967296<=X) (h1:¬ 65536<=X) (h2:256<=X) (w:World):Calls Tryz.prog 129 #[.int .u64 (X:Int)] w fun e w'=>e=.returned (.int .i64 ((8+L8 (X / 256):Nat):Int))/\w=w':=by
 have e:((X:Int) / 256).toNat=X / 256:=by omega
 refine zcI X _ w (by omega) (by omega) (by omega) (by omega) (by omega) fun h=>?_;rw [z2y _ h,e];exact z2Q 8 _ (by decide)
theorem ze5 (X:Nat) (hX:X<2 ^ 64) (h0:¬ 4294967296<=X) (h1:65536<=X) (h2:¬ 16777216<=X) (w:World):Calls Tryz.prog 129 #[.int .u64 (X:Int)] w fun e w'=>e=.returned (.int .i64 ((16+L8 (X / 65536):Nat):Int))/\w=w':=by
 have e:((X:Int) / 65536).toNat=X / 65536:=by omega
 refine zcJ X _ w (by omega) (by omega) (by omega) (by omega) (by omega) fun h=>?_;rw [z2y _ h,e];exact z2Q 16 _ (by decide)
theorem ze6 (X:Nat) (hX:X<2 ^ 64) (h0:¬ 4294967296<=X) (h1:65536<=X) (h2:16777216<=X) (w:World):Calls Tryz.prog 129 #[.int .u64 (X:Int)] w fun e w'=>e=.returned (.int .i64 ((24+L8 (X / 16777216):Nat):Int))/\w=w':=by
 have e:((X:Int) / 65536 / 256).toNat=X / 16777216:=by omega
 refine zcK X _ w (by omega) (by omega) (by omega) (by omega) (by omega) fun h=>?_;rw [z2y _ h,e];exact z2Q 24 _ (by decide)
theorem ze7 (X:Nat) (hX:X<2 ^ 64) (h0:4294967296<=X) (h1:¬ 281474976710656<=X) (h2:¬ 1099511627776<=X) (w:World):Calls Tryz.prog 129 #[.int .u64 (X:Int)] w fun e w'=>e=.returned (.int .i64 ((32+L8 (X / 4294967296):Nat):Int))/\w=w':=by
 have e:((X:Int) / 4294967296).toNat=X / 4294967296:=by omega
 refine zcL X _ w (by omega) (by omega) (by omega) (by omega) (by omega) fun h=>?_;rw [z2y _ h,e];exact z2Q 32 _ (by decide)
theorem ze8 (X:Nat) (hX:X<2 ^ 64) (h0:4294967296<=X) (h1:¬ 281474976710656<=X) (h2:1099511627776<=X) (w:World):Calls Tryz.prog 129 #[.int .u64 (X:Int)] w fun e w'=>e=.returned (.int .i64 ((40+L8 (X / 1099511627776):Nat):Int))/\w=w':=by
 have e:((X:Int) / 4294967296 / 256).toNat=X / 1099511627776:=by omega
 refine zcM X _ w (by omega) (by omega) (by omega) (by omega) (by omega) fun h=>?_;rw [z2y _ h,e];exact z2Q 40 _ (by decide)
theorem ze9 (X:Nat) (hX:X<2 ^ 64) (h0:4294967296<=X) (h1:281474976710656<=X) (h2:¬ 72057594037927936<=X) (w:World):Calls Tryz.prog 129 #[.int .u64 (X:Int)] w fun e w'=>e=.returned (.int .i64 ((48+L8 (X / 281474976710656):Nat):Int))/\w=w':=by
 have e:((X:Int) / 4294967296 / 65536).toNat=X / 281474976710656:=by omega
 refine zcN X _ w (by omega) (by omega) (by omega) (by omega) (by omega) fun h=>?_;rw [z2y _ h,e];exact z2Q 48 _ (by decide)
theorem zea (X:Nat) (hX:X<2 ^ 64) (h0:4294967296<=X) (h1:281474976710656<=X) (h2:72057594037927936<=X) (w:World):Calls Tryz.prog 129 #[.int .u64 (X:Int)] w fun e w'=>e=.returned (.int .i64 ((56+L8 (X / 72057594037927936):Nat):Int))/\w=w':=by
 have e:((X:Int) / 4294967296 / 65536 / 256).toNat=X / 72057594037927936:=by omega
 refine zcO X _ w (by omega) (by omega) (by omega) (by omega) (by omega) fun h=>?_;rw [z2y _ h,e];exact z2Q 56 _ (by decide)
theorem ziD (X:Nat) (hX:X<2 ^ 64) (w:World):Calls Tryz.prog 129 #[.int .u64 (X:Int)] w fun e w'=>e=.returned (.int .i64 ((LEN X:Nat):Int))/\w=w':=by
 unfold LEN;split
 ·split
  ·split
   ·exact zea X hX (by omega) (by omega) (by omega) w
   ·exact ze9 X hX (by omega) (by omega) (by omega) w
  ·split
   ·exact ze8 X hX (by omega) (by omega) (by omega) w
   ·exact ze7 X hX (by omega) (by omega) (by omega) w
 ·split
  ·split
   ·exact ze6 X hX (by omega) (by omega) (by omega) w
   ·exact ze5 X hX (by omega) (by omega) (by omega) w
  ·split
   ·exact ze4 X hX (by omega) (by omega) (by omega) w
   ·have k:=ze3 X hX (by omega) (by omega) (by omega) w
    rw [Nat.div_one,Nat.zero_add] at k;exact k
theorem z2R {X n:Nat} (h0:X / 2 ^ n≠0) (h:X / 2 ^ n<256):1<=n+L8 (X / 2 ^ n)/\2 ^ (n+L8 (X / 2 ^ n) - 1)<=X/\X<2 ^ (n+L8 (X / 2 ^ n)):=by
 obtain ⟨a,b,c⟩:=zc1 _ h0 h;have hp:=Nat.two_pow_pos n;refine ⟨by omega,?_,?_⟩
 ·rw [show n+L8 (X / 2 ^ n) - 1=n+(L8 (X / 2 ^ n) - 1) by omega,Nat.pow_add]
  exact Nat.le_trans (Nat.mul_le_mul_left _ b) (Nat.mul_div_le X (2 ^ n))
 ·rw [Nat.pow_add,Nat.mul_comm]
  exact (Nat.div_lt_iff_lt_mul hp).1 c
theorem z6A (X:Nat) (hX:X<2 ^ 64) (h0:X≠0):1<=LEN X/\2 ^ (LEN X - 1)<=X/\X<2 ^ LEN X:=by
 unfold LEN;split
 ·split
  ·split
   ·exact z2R (n:=56) (by omega) (by omega)
   ·exact z2R (n:=48) (by omega) (by omega)
  ·split
   ·exact z2R (n:=40) (by omega) (by omega)
   ·exact z2R (n:=32) (by omega) (by omega)
 ·split
  ·split
   ·exact z2R (n:=24) (by omega) (by omega)
   ·exact z2R (n:=16) (by omega) (by omega)
  ·split
   ·exact z2R (n:=8) (by omega) (by omega)
   ·exact zc1 X h0 (by omega)
theorem zfX (x r:Int) (w:World) (c:∀ w,Calls Tryz.prog 129 #[.int .u64 x] w fun e w'=>e=.returned (.int .i64 r)/\w=w') (h0:0<=r) (h1:r<=64):
  Calls Tryz.prog 106 #[.int .u64 x] w fun e w'=>e=.returned (.int .i64 (r - 1))/\w=w':=by
 go_enter Tryz.func106,Tryz.ntmps106;go_wp2_with fail
 refine (c _).mono ?_;rintro e w' ⟨rfl,rfl⟩;go_wp2;go_ret;exact ⟨rfl,rfl⟩
theorem zeb {h:Nat} (hh:h<=63):MASK ((h:Int)+1)=TREE h:=by
 unfold MASK TREE;rw [show min ((h:Int)+1).toNat 64=h+1 by omega]
theorem zfY (h r:Int) (w:World) (e:wrap64 (h+1)=h+1) (c:∀ w,Calls Tryz.prog 114 #[.int .i64 (h+1)] w fun e w'=>e=.returned (.int .u64 r)/\w=w'):
  Calls Tryz.prog 109 #[.int .i64 h] w fun e w'=>e=.returned (.int .u64 r)/\w=w':=by
 go_enter Tryz.func109,Tryz.ntmps109;go_wp2_with fail
 refine (c _).mono ?_;rintro e w' ⟨rfl,rfl⟩;go_wp2;go_ret;exact ⟨rfl,rfl⟩
theorem z3s (h:Nat) (hh:h<=63) (w:World):Calls Tryz.prog 109 #[.int .i64 (h:Int)] w fun e w'=>e=.returned (.int .u64 ((TREE h:Nat):Int))/\w=w':=by
 refine zfY h _ w (by unfold wrap64;omega) (fun w=>?_);rw [<-zeb hh];exact zbZ ((h:Int)+1) (by omega) w
theorem zec (n c r:Int) (w:World) (e:IntKind.u64.wrap (IntKind.u64.wrap (n*2) - IntKind.u64.wrap c)=r) (k:∀ w,Calls Tryz.prog 108 #[.int .u64 n] w fun e w'=>e=.returned (.int .i64 c)/\w=w'):
  Calls Tryz.prog 79 #[.int .u64 n] w fun e w'=>e=.returned (.int .u64 r)/\w=w':=by
 go_enter Tryz.func79,Tryz.ntmps79;go_wp2_with fail
 refine (k _).mono ?_;rintro e w' ⟨rfl,rfl⟩;go_wp2;go_ret;exact ⟨rfl,rfl⟩
theorem z9S (n:Nat) (hn:n<2 ^ 63) (w:World):Calls Tryz.prog 79 #[.int .u64 (n:Int)] w fun e w'=>e=.returned (.int .u64 ((z0v n:Nat):Int))/\w=w':=by
 refine zec n (POP n:Nat) _ w ?_ (fun w=>z80 n (by omega) w);rw [z5e (by omega),z08,z08,z08];have:=z1e n;have:=zhp n;omega
theorem zcP (p h:Int) (w:World):Calls Tryz.prog 81 #[.int .u64 p,.int .i64 h,.bool true] w fun e w'=>e=.returned (.int .u64 (IntKind.u64.wrap (p+1)))/\w=w':=by
 go_enter Tryz.func81,Tryz.ntmps81;go_wp2;go_ret;exact ⟨rfl,rfl⟩
theorem zed (p h t:Int) (w:World) (c:∀ w,Calls Tryz.prog 109 #[.int .i64 h] w fun e w'=>e=.returned (.int .u64 t)/\w=w'):
  Calls Tryz.prog 81 #[.int .u64 p,.int .i64 h,.bool false] w fun e w'=>e=.returned (.int .u64 (IntKind.u64.wrap (IntKind.u64.wrap (p+t)+1)))/\w=w':=by
 go_enter Tryz.func81,Tryz.ntmps81;go_wp2_with fail
 refine (c _).mono ?_;rintro e w' ⟨rfl,rfl⟩;go_wp2;go_ret;exact ⟨rfl,rfl⟩
theorem z9T (p h t:Int) (w:World) (c:∀ w,Calls Tryz.prog 109 #[.int .i64 h] w fun e w'=>e=.returned (.int .u64 t)/\w=w'):
  Calls Tryz.prog 80 #[.int .u64 p,.int .i64 h,.bool true] w fun e w'=>e=.returned (.int .u64 (IntKind.u64.wrap (p - t)))/\w=w':=by
 go_enter Tryz.func80,Tryz.ntmps80;go_wp2_with fail
 refine (c _).mono ?_;rintro e w' ⟨rfl,rfl⟩;go_wp2;go_ret;exact ⟨rfl,rfl⟩
theorem zbb (p h t:Int) (w:World) (c:∀ w,Calls Tryz.prog 109 #[.int .i64 h] w fun e w'=>e=.returned (.int .u64 t)/\w=w'):
  Calls Tryz.prog 80 #[.int .u64 p,.int .i64 h,.bool false] w fun e w'=>e=.returned (.int .u64 (IntKind.u64.wrap (p+t)))/\w=w':=by
 go_enter Tryz.func80,Tryz.ntmps80;go_wp2_with fail
 refine (c _).mono ?_;rintro e w' ⟨rfl,rfl⟩;go_wp2;go_ret;exact ⟨rfl,rfl⟩
def PL:Nat->Nat->Nat->List Nat
 | 0,_,_=>[]
 | k+1,o,X=>if X % 2=1 then o :: PL k (o+1) (X / 2) else PL k (o+1) (X / 2)
def z0K (X:Nat):List Nat:=PL 64 0 X
theorem z83:∀ k o,PL k o 0=[]
 | 0,_=>rfl
 | k+1,o=>by
   have:=z83 k (o+1);simpa [PL] using this
theorem z8F:∀ k o X,(PL k o X).length=DSUM 1 k X
 | 0,_,_=>rfl
 | k+1,o,X=>by
   have ih:=z8F k (o+1) (X / 2);unfold PL DSUM;rw [Nat.pow_one];split
   ·rw [List.length_cons,ih];omega
   ·rw [ih];omega
theorem z12 (X:Nat):(z0K X).length=POP X:=z8F 64 0 X
theorem zc2:∀ (t k o q:Nat),t<k->PL k o (2 ^ t*(2*q+1))=(o+t) :: PL k o (2 ^ (t+1)*q)
 | 0,0,_,_,h=>by omega
 | 0,k+1,o,q,_=>by
   have h1:(2 ^ 0*(2*q+1))=2*q+1:=by simp
   have h2:2 ^ (0+1)*q=2*q:=by simp
   rw [h1,h2];unfold PL;rw [if_pos (by omega),if_neg (by omega),show (2*q+1) / 2=q by omega,show 2*q / 2=q by omega];rfl
 | t+1,0,_,_,h=>by omega
 | t+1,k+1,o,q,h=>by
   have ih:=zc2 t k (o+1) q (by omega);have h1:2 ^ (t+1)*(2*q+1)=2*(2 ^ t*(2*q+1)):=by rw [Nat.pow_succ,Nat.mul_comm (2 ^ t) 2,Nat.mul_assoc]
   have h2:2 ^ (t+1+1)*q=2*(2 ^ (t+1)*q):=by rw [Nat.pow_succ,Nat.mul_comm (2 ^ (t+1)) 2,Nat.mul_assoc]
   rw [h1,h2];generalize 2 ^ t*(2*q+1)=a at ih ⊢;generalize 2 ^ (t+1)*q=b at ih ⊢;unfold PL;rw [if_neg (by omega),if_neg (by omega),show 2*a / 2=a by omega,show 2*b / 2=b by omega,ih,show o+(t+1)=o+1+t by omega]
theorem z75 (X:Nat):POP X<=64:=by
 have:∀ k X,DSUM 1 k X<=k:=fun k=>by
  induction k with
  | zero=>intro X;exact Nat.le_refl _
  | succ k ih=>
    intro X;have:=ih (X / 2);unfold DSUM;rw [Nat.pow_one];omega
 exact this 64 X
theorem zfZ (q:Nat):(2*q+1) &&& (2*q)=2*q:=by
 apply Nat.eq_of_testBit_eq;intro i;rw [Nat.testBit_and];cases i with
 | zero=>simp [Nat.testBit_zero]
 | succ i=>
   rw [Nat.testBit_succ,Nat.testBit_succ,show (2*q+1) / 2=q by omega,show 2*q / 2=q by omega];simp
theorem z9U:∀ (t q:Nat),2 ^ t*(2*q+1) &&& (2 ^ t*(2*q+1) - 1)=2 ^ (t+1)*q
 | 0,q=>by
   have h1:(2 ^ 0*(2*q+1))=2*q+1:=by simp
   have h2:2 ^ (0+1)*q=2*q:=by simp
   rw [h1,h2];exact zfZ q
 | t + 1,q=>by
   have ih:=z9U t q;have h1:2 ^ (t+1)*(2*q+1)=2*(2 ^ t*(2*q+1)):=by rw [Nat.pow_succ,Nat.mul_comm (2 ^ t) 2,Nat.mul_assoc]
   have h2:2 ^ (t+1+1)*q=2*(2 ^ (t+1)*q):=by rw [Nat.pow_succ,Nat.mul_comm (2 ^ (t+1)) 2,Nat.mul_assoc]
   have hp:0<2 ^ t*(2*q+1):=Nat.mul_pos (Nat.two_pow_pos t) (by omega);rw [h1,h2,<-ih];generalize 2 ^ t*(2*q+1)=a at hp ⊢;apply Nat.eq_of_testBit_eq;intro i;rw [Nat.testBit_and];cases i with
   | zero=>simp [Nat.testBit_zero]
   | succ i=>
     rw [Nat.testBit_succ,Nat.testBit_succ,Nat.testBit_succ,show 2*a / 2=a by omega,show (2*a - 1) / 2=a - 1 by omega,<-Nat.testBit_and,show 2*(a &&& (a - 1)) / 2=a &&& (a - 1) by omega]
def z1j (l:List Nat):List Value:=l.map fun (x:Nat)=>Value.int .i64 (x:Int)
theorem zbc (l:List Nat) (x:Nat):z1j (l ++ [x])=z1j l ++ [.int .i64 (x:Int)]:=by simp [z1j]
theorem z4g:∃ i,Tryz.prog.info? 3=some i/\i.zero=some (.int .i64 0)/\i.size=1/\i.bytes=8:=by
 have h:(Tryz.prog.info? 3).map (fun i=>(i.zero,i.size,i.bytes))=some (some (.int .i64 0),1,8):=by kernel_rfl
 obtain ⟨i,hi,h⟩:=Option.map_eq_some_iff.1 h;simp only [Prod.mk.injEq] at h;exact ⟨i,hi,h.1,h.2.1,h.2.2⟩
theorem zhB {ops:Array Oper} {rest:List Oper} {o:Oper} {a:Act} {Q:Exit->Act->World->Prop} (w:World) (hgd:o.guard=none) (s x:Operand)
  (ho:o.op=.call {callee:=.builtin .append,args:=#[s,x],argTypes:=#[149,149]})
  (base:Nat) (v:Value) (n:Nat) (xs:List Nat) (hs:a.eval s=v) (hown:w.ownsRow base 3 1 v n (z1j xs))
  (b c:Nat) (y:Nat) (hx:a.eval x=.slice (some ⟨b,0,none⟩) 1 c) (hc:w.cell? ⟨b,0,none⟩=some (.int .i64 (y:Int)))
  (hb:n<=1000) (hbase:base<=w.heap.size)
  (h:∀ g cap w',w'.ownsRow base 3 1 (.slice (some ⟨g,0,none⟩) (n+1) cap) (n+1) (z1j (xs ++ [y]))->w.grownBy w' v.ownBlock->g<w'.heap.size->wpList Tryz.prog ops Q rest (a.put o.dst (.slice (some ⟨g,0,none⟩) (n+1) cap)) w'):wpList Tryz.prog ops Q (o :: rest) a w:=by
 obtain ⟨i,hi,hz,hs1,hby⟩:=z4g;refine wpList_append_lies w hgd s x 149 ho base 3 i (.int .i64 0) 1 8 Tryz.underlying149 hi hz hs1 hby rfl (by decide) v n (z1j xs) hs hown ⟨b,0,none⟩ 1 c [.int .i64 (y:Int)] hx rfl ?_ (fun u hu=>by simp at hu;subst hu;rfl) (by decide) (by simp only [maxLen];omega) (by omega) hbase w.heap.size rfl ?_
 ·intro j u hj
  cases j with
  | zero=>
    simp only [List.getElem?_cons_zero,Option.some.injEq] at hj;subst hj;exact hc
  | succ j=>simp at hj
 ·intro g cap w' h1 h2 _ h4
  rw [<-zbc] at h1;exact h g cap w' h1 h2 h4
theorem zee (n:Nat) (hn:n<=64) (w:World):∃ cur:Array Value,cur.size=n/\(Instr.makeSlice 149 (.int .i64 0) (.int .i64 (n:Int))).run Tryz.prog w=.ok (.slice (some ⟨w.heap.size,0,none⟩) 0 n) (w.alloc (.cells cur 3)):=by
 obtain ⟨i,hi,hz,hs1,hby⟩:=z4g;have h:=run_make (P:=Tryz.prog) w 149 3 i (.int .i64 0) Tryz.underlying149 hi hz .i64 .i64 0 n (by omega) (by omega) (by rw [hby];omega) (by omega);refine ⟨_,?_,h⟩;rw [size_madeCells,hs1];omega
theorem Tabled.below {w w':World} (h:Tabled w) (_:0<w.heap.size) (hb:Below w.heap.size w w'):Tabled w':=fun i hi=>(hb.cell (by exact World.block_lt_of_cell? _ _ (h i hi))).trans (h i hi)
theorem zhC (X:Nat) (hX:X<2 ^ 64) (w:World) (hT:Tabled w) (h0:0<w.heap.size):Calls Tryz.prog 112 #[.int .u64 (X:Int)] w fun e w'=>
  ∃ g cap,e=.returned (.slice (some ⟨g,0,none⟩) (POP X) cap)/\w'.ownsRow w.heap.size 3 1 (.slice (some ⟨g,0,none⟩) (POP X) cap) (POP X) (z1j (z0K X))/\g<w'.heap.size/\Below w.heap.size w w':=by
 obtain ⟨cur,hcs,hmk⟩:=zee (POP X) (z75 X) w;have HX:Aside (X<2 ^ 64):=hX;have HT:Aside (Tabled w/\0<w.heap.size/\cur.size=POP X):=⟨hT,h0,hcs⟩
 have c1:=z80 X hX;clear hX hT h0 hcs;generalize hp:POP X=p at *
 have HP:Aside (POP X=p):=hp;clear hp;go_enter Tryz.func112,Tryz.ntmps112;go_wp2_with fail
 refine (c1 _).mono ?_;rintro e w' ⟨rfl,rfl⟩;clear c1;go_wp2;go_loopg [0,3] p (fun g s0 s2 wx=>∃ (x:Nat),Aside (∃ l:List Nat,l ++ z0K x=z0K X/\x<2 ^ 64/\g=POP x/\wx.ownsRow w.heap.size 3 1 s2 l.length (z1j l)/\(∃ b cap,s2=.slice (some ⟨b,0,none⟩) l.length cap/\b<wx.heap.size)/\Below w.heap.size w wx)/\s0=.int .u64 (x:Int))
 case atStart=>exact ⟨X,⟨[],rfl,HX.out,HP.out.symm,World.ownsRow_made w cur p (Nat.le_refl _) (by have:=z75 X;rw [HP.out] at this;simp only [maxLen];omega) (by rw [HT.out.2.2];omega),⟨_,_,rfl,by simp⟩,(Below.refl _ _).alloc (Nat.le_refl _) _⟩,rfl⟩
 case round=>
  obtain ⟨x,A,rfl⟩:=hrel;clear hmk;cases hx:((x:Int) == 0) with
  | true=>
    obtain ⟨l,hl,hxl,hg,hown,⟨b,cap,hs,hb⟩,hbel⟩:=A.out;have hx0:x=0:=by simpa using hx
    have hl2:l=z0K X:=by
     rw [hx0,show z0K 0=[] from z83 64 0,List.append_nil] at hl;exact hl
    have hlen:l.length=p:=by rw [hl2,z12,HP.out]
    subst hs;rw [hlen,hl2] at hown;have R:Aside (wr.ownsRow w.heap.size 3 1 (.slice (some ⟨b,0,none⟩) p cap) p (z1j (z0K X))/\b<wr.heap.size/\Below w.heap.size w wr/\l.length=p):=⟨hown,hb,hbel,hlen⟩
    clear A hl hxl hg hown hb hbel hx0 hl2 hlen HX HT HP;go_wp2;go_ret;obtain ⟨h1,h2,h3,h4⟩:=R.out;refine ⟨b,cap,?_,h1,h2,h3⟩;rw [<-h4];rfl
  | false=>
    obtain ⟨l,hl,hxl,hg,hown,⟨b,cap,hs,hb⟩,hbel⟩:=A.out;have hx0:x≠0:=by simpa using hx
    obtain ⟨t,q,e⟩:=z8E x hx0;have ht:t<64:=(z81 hxl e).2;have cl:=z82 x t wr (zhq x t q hxl e wr (HT.out.1.below HT.out.2.1 hbel));obtain ⟨y,hy⟩:∃ y,y=2 ^ (t+1)*q:=⟨_,rfl⟩
    have hya:x &&& (x - 1)=y:=by rw [e,hy];exact z9U t q
    have hstep:z0K x=t :: z0K y:=by
     rw [e,hy];have:=zc2 t 64 0 q ht;rw [Nat.zero_add] at this;exact this
    have hand:bits .and .u64 (x:Int) (IntKind.u64.wrap ((x:Int) - 1))=(y:Int):=by
     have hm:IntKind.u64.wrap ((x:Int) - 1)=((x - 1:Nat):Int):=by rw [z08];omega
     rw [hm,z5c hxl (by omega),hya]
    have hyx:y<2 ^ 64:=Nat.lt_of_le_of_lt (by rw [<-hya];exact Nat.and_le_left) hxl
    have hlen:l.length<=1000:=by
     have h1:=congrArg List.length hl;have h2:=z75 X;rw [List.length_append,z12 X] at h1;omega
    have hPy:POP x=POP y+1:=by
     rw [<-z12,<-z12,hstep,List.length_cons]
    have R:Aside ((l ++ [t]) ++ z0K y=z0K X/\y<2 ^ 64/\gk=POP y+1/\wr.ownsRow w.heap.size 3 1 u3 l.length (z1j l)/\Below w.heap.size w wr/\l.length<=1000):=⟨by rw [List.append_assoc,List.singleton_append,<-hstep];exact hl,hyx,by rw [hg,hPy],hown,hbel,hlen⟩
    clear A hl hxl hg hown hs hb hbel hx0 e ht hy hya hstep hyx hlen hPy HX HT HP;go_wp2_with fail
    refine cl.mono ?_;rintro e w' ⟨rfl,rfl⟩;clear cl;go_wp2_with (at_builtin;refine zhB _ rfl (.tmp 13) (.tmp 16) rfl w.heap.size u3 l.length l rfl (R.out.2.2.2.1.alloc _) wr.heap.size 1 t rfl (by rw [World.cell?_alloc_at _ _ _ _ rfl];rfl) R.out.2.2.2.2.2 (by have:=R.out.2.2.2.2.1.size;simp;omega) ?_;intro g cap w1 hown hgrow hg)
    obtain ⟨r1,r2,r3,r4,r5,r6⟩:=R.out;have R2:Aside ((l ++ [t]) ++ z0K y=z0K X/\y<2 ^ 64/\gk=POP y+1/\w1.ownsRow w.heap.size 3 1 (.slice (some ⟨g,0,none⟩) (l.length+1) cap) (l.length+1) (z1j (l ++ [t]))/\g<w1.heap.size/\Below w.heap.size w w1):=⟨r1,r2,r3,hown,hg,(r5.alloc r5.size _).grown hgrow (by have:=r5.size;simp;omega) (fun k e=>(r4.lt k e).1)⟩
    clear hown hgrow hg R r1 r2 r3 r4 r5 r6;go_wp2;go_roundg (gk - 1)
    case measure=>have:=R2.out.2.2.1;omega
    case rel=>
     obtain ⟨r1,r2,r3,r4,r5,r6⟩:=R2.out;have e:(l ++ [t]).length=l.length+1:=by simp
     exact ⟨y,⟨l ++ [t],r1,r2,by omega,by rw [e];exact r4,⟨g,cap,by rw [e],r5⟩,r6⟩,by first | rfl | (rw [hand])⟩
def SUMP (l:List Nat):Nat:=(l.map fun i=>2 ^ i).sum
theorem z9V:∀ k o X,∀ i∈PL k o X,o<=i/\i<o+k
 | 0,_,_,i,h=>by simp [PL] at h
 | k + 1,o,X,i,h=>by
   have ih:=z9V k (o+1) (X / 2) i;unfold PL at h;split at h
   ·rcases List.mem_cons.1 h with rfl | h
    ·omega
    ·have:=ih h
     omega
   ·have:=ih h
    omega
def z4x (X i:Nat):Nat:=(z0K X).getD i 0
theorem z6B {X i:Nat} (h:i<POP X):(z0K X)[i]?=some (z4x X i):=by
 rw [<-z12] at h;unfold z4x;rw [List.getD_eq_getElem?_getD,List.getElem?_eq_getElem h];rfl
theorem zg0 {X i:Nat} (h:i<POP X):z4x X i<=63:=by
 have:=z9V 64 0 X _ (List.mem_of_getElem? (z6B h));omega
def PART (X i:Nat):Nat:=SUMP ((z0K X).take i)
theorem zef {w:World} {base g n cap:Nat} {X:Nat} (h:w.ownsRow base 3 1 (.slice (some ⟨g,0,none⟩) n cap) n (z1j (z0K X))) (i:Nat) (hi:i<POP X):w.cell? ⟨g,i,none⟩=some (.int .i64 (z4x X i:Nat)):=by
 have hlen:(z0K X).length=n:=by have:=h.1;simpa [z1j] using this
 rw [z12] at hlen;rw [h.cellAt i (by omega)];unfold z1j;rw [List.getElem?_map,z6B hi];rfl
end Go.Proofs.YtdggkbpabjgdfaaGreatDoor
namespace Go.Proofs.YtdggkbpabjgdfaaGreatDoor
def UP (h n:Nat):List Nat:=PL (64 - h) h (n / 2 ^ h)
theorem zc3 {h n:Nat} (hh:h<64):UP h n=if n / 2 ^ h % 2=1 then h :: UP (h+1) n else UP (h+1) n:=by
 unfold UP;rw [show 64 - h=(64 - (h+1))+1 by omega,PL,Nat.div_div_eq_div_mul,<-Nat.pow_succ]
theorem zhD (n:Nat):UP 0 n=z0K n:=by
 unfold UP z0K;simp
theorem ziE {h n:Nat} (hn:n<2 ^ h):UP h n=[]:=by
 unfold UP;rw [Nat.div_eq_of_lt hn,z83]
def HS (h n:Nat):List Nat:=(UP h n).reverse
theorem z39 {h n:Nat} (hh:h<64) (hb:n / 2 ^ h % 2=1):HS h n=HS (h+1) n ++ [h]:=by
 unfold HS;rw [zc3 hh,if_pos hb,List.reverse_cons]
theorem z2S {h n:Nat} (hh:h<64) (hb:¬ n / 2 ^ h % 2=1):HS h n=HS (h+1) n:=by
 unfold HS;rw [zc3 hh,if_neg hb]
theorem z9W {h n:Nat} (hn:n<2 ^ h):HS h n=[]:=by
 unfold HS;rw [ziE hn];rfl
theorem zhE (n:Nat):HS 0 n=(z0K n).reverse:=by
 unfold HS;rw [zhD]
theorem z3a {n:Nat} (hn:n<2 ^ 64):∀ h,h<=64->(HS h n).length=PC (n / 2 ^ h):=by
 have key:∀ d h,h+d=64->(HS h n).length=PC (n / 2 ^ h):=by
  intro d;induction d with
  | zero=>
    intro h e;obtain rfl:h=64:=by omega
    rw [z9W hn,Nat.div_eq_of_lt hn,z1q];rfl
  | succ d ih=>
    intro h e;have ih:=ih (h+1) (by omega);rw [z0W,Nat.div_div_eq_div_mul,<-Nat.pow_succ,<-ih];by_cases hb:n / 2 ^ h % 2=1
    ·rw [z39 (by omega) hb,List.length_append,List.length_singleton]
     omega
    ·rw [z2S (by omega) hb]
     omega
 intro h hh;exact key (64 - h) h (by omega)
theorem zg1 {n h:Nat}:h<=64->∃ t,HS 0 n=HS h n ++ t:=by
 induction h with
 | zero=>exact fun _=>⟨[],by simp⟩
 | succ h ih=>
   intro hh;obtain ⟨t,ht⟩:=ih (by omega);by_cases hb:n / 2 ^ h % 2=1
   ·exact ⟨h :: t,by rw [ht,z39 (by omega) hb];simp⟩
   ·exact ⟨t,by rw [ht,z2S (by omega) hb]⟩
theorem zeg {n:Nat}:∀ h x,h<=64->x∈HS h n->h<=x/\x<64/\n / 2 ^ x % 2=1:=by
 have key:∀ d h,h+d=64->∀ x,x∈HS h n->h<=x/\x<64/\n / 2 ^ x % 2=1:=by
  intro d;induction d with
  | zero=>
    intro h e x hx;obtain rfl:h=64:=by omega
    simp [HS,UP,PL] at hx
  | succ d ih=>
    intro h e x hx;by_cases hb:n / 2 ^ h % 2=1
    ·rw [z39 (by omega) hb,List.mem_append,List.mem_singleton] at hx
     rcases hx with hx | rfl
     ·have:=ih (h+1) (by omega) x hx
      exact ⟨by omega,this.2⟩
     ·exact ⟨Nat.le_refl _,by omega,hb⟩
    ·rw [z2S (by omega) hb] at hx
     have:=ih (h+1) (by omega) x hx;exact ⟨by omega,this.2⟩
 intro h x hh;exact key (64 - h) h (by omega) x
def PKP (n h:Nat):Nat:=PLC h (2*(n / 2 ^ (h+1)))
def z1h (n:Nat):List Nat:=(HS 0 n).map (PKP n)
theorem z1Q {n:Nat} (hn:n<2 ^ 64):(z1h n).length=PC n:=by
 unfold z1h;rw [List.length_map,z3a hn 0 (by omega)];simp
theorem z0S (n h:Nat):n / 2 ^ (h+1)=n / 2 ^ h / 2:=by rw [Nat.div_div_eq_div_mul,<-Nat.pow_succ]
theorem z4y (m h:Nat):z0v ((2*m+1)*2 ^ h)=z0v (2*m*2 ^ h)+TREE h:=by
 have h1:=z1e ((2*m+1)*2 ^ h);have h2:=z1e (2*m*2 ^ h);rw [z3B,z5d,Nat.add_mul,Nat.one_mul] at h1;rw [z3B,z7X] at h2;have h3:=z2b h;rw [Nat.pow_succ] at h3;rw [Nat.add_mul,Nat.one_mul];unfold TREE;rw [Nat.pow_succ];omega
theorem z5f {n h:Nat} (hb:n / 2 ^ h % 2=1):n / 2 ^ h=2*(n / 2 ^ (h+1))+1:=by
 rw [z0S];omega
theorem z9X {n h:Nat} (hb:¬ n / 2 ^ h % 2=1):n / 2 ^ h=2*(n / 2 ^ (h+1)):=by
 rw [z0S];omega
theorem z1m (m h:Nat):2*m*2 ^ h=m*2 ^ (h+1):=by
 rw [Nat.pow_succ,Nat.mul_comm 2 m,Nat.mul_assoc,Nat.mul_comm 2]
def ST (l:List Nat):Nat × List Nat:=l.foldl (fun s h=>((s.1+TREE h) % 2 ^ 64,s.2 ++ [((s.1+TREE h) % 2 ^ 64+(2 ^ 64 - 1)) % 2 ^ 64])) (0,[])
theorem z84 (l:List Nat) (h:Nat):ST (l ++ [h])=(((ST l).1+TREE h) % 2 ^ 64,(ST l).2 ++ [(((ST l).1+TREE h) % 2 ^ 64+(2 ^ 64 - 1)) % 2 ^ 64]):=by
 unfold ST;rw [List.foldl_append];rfl
theorem z5g {n:Nat} (hn:n<=4611686018427387904):z0v n<=9223372036854775807:=by
 rw [<-zcG];exact z6y hn
theorem zjd {n:Nat} (hn:n<=4611686018427387904):∀ h,h<=64->ST (HS h n)=(z0v (n / 2 ^ h*2 ^ h),(HS h n).map (PKP n)):=by
 have key:∀ d h,h+d=64->ST (HS h n)=(z0v (n / 2 ^ h*2 ^ h),(HS h n).map (PKP n)):=by
  intro d;induction d with
  | zero=>
    intro h e;obtain rfl:h=64:=by omega
    rw [z9W (by omega),Nat.div_eq_of_lt (by omega),Nat.zero_mul,z2G];rfl
  | succ d ih=>
    intro h e;have ih:=ih (h+1) (by omega);by_cases hb:n / 2 ^ h % 2=1
    ·have e1:=z5f hb
     have h2:z0v (n / 2 ^ h*2 ^ h)=z0v (n / 2 ^ (h+1)*2 ^ (h+1))+TREE h:=by
      rw [e1,z4y,z1m]
     have h3:z0v (n / 2 ^ h*2 ^ h)<=9223372036854775807:=z5g (Nat.le_trans (Nat.div_mul_le_self _ _) hn);have h4:=z2b h
     have hs:(z0v (n / 2 ^ (h+1)*2 ^ (h+1))+TREE h) % 2 ^ 64=z0v (n / 2 ^ h*2 ^ h):=by
      rw [<-h2];omega
     have hp:(z0v (n / 2 ^ h*2 ^ h)+(2 ^ 64 - 1)) % 2 ^ 64=PKP n h:=by
      unfold PKP PLC;rw [z1m];unfold TREE at h2;omega
     rw [z39 (by omega) hb,z84,ih];dsimp only;rw [hs,hp,List.map_append];rfl
    ·rw [z2S (by omega) hb,ih,z9X hb,z1m]
 intro h hh;exact key (64 - h) h (by omega)
theorem ziF {n:Nat} (hn:n<=4611686018427387904):ST (HS 0 n)=(z0v n,z1h n):=by
 have:=zjd hn 0 (by omega);unfold z1h;simpa using this
theorem z69 {a b:Nat} (h:a ^^^ b=0):a=b:=by
 have:a ^^^ (a ^^^ b)=a ^^^ 0:=by rw [h]
 rw [<-Nat.xor_assoc,Nat.xor_self,Nat.zero_xor,Nat.xor_zero] at this;exact this.symm
def RISE (i n:Nat):Nat:=LEN (i ^^^ n) - 1
theorem z0L {i n:Nat} (hi:i<n) (hn:n<=4611686018427387904):1<=LEN (i ^^^ n)/\RISE i n<=62/\n / 2 ^ RISE i n % 2=1/\i / 2 ^ (RISE i n+1)=n / 2 ^ (RISE i n+1)/\i / 2 ^ RISE i n=2*(n / 2 ^ (RISE i n+1)):=by
 have hX:i ^^^ n<2 ^ 63:=Nat.xor_lt_two_pow (by omega) (by omega)
 have h0:i ^^^ n≠0:=by
  intro h;have:i=n:=z69 h;omega
 obtain ⟨h1,h2,h3⟩:=z6A (i ^^^ n) (by omega) h0;have hR:LEN (i ^^^ n)=RISE i n+1:=by unfold RISE;omega
 rw [hR] at h3;rw [show LEN (i ^^^ n) - 1=RISE i n from rfl] at h2;generalize RISE i n=H at *
 have hH:H<=62:=by
  rcases Nat.lt_or_ge 62 H with h | h
  ·have:2 ^ 63<=2 ^ H:=Nat.pow_le_pow_right (by decide) h
   omega
  ·exact h
 have e1:i / 2 ^ (H+1)=n / 2 ^ (H+1):=by
  have:(i ^^^ n) / 2 ^ (H+1)=0:=Nat.div_eq_of_lt h3;rw [<-Nat.shiftRight_eq_div_pow,Nat.shiftRight_xor_distrib,Nat.shiftRight_eq_div_pow,Nat.shiftRight_eq_div_pow] at this;exact z69 this
 have e2:i / 2 ^ H ^^^ n / 2 ^ H=1:=by
  have:(i ^^^ n) / 2 ^ H=1:=by
   rw [Nat.pow_succ] at h3;apply Nat.div_eq_of_lt_le
   ·omega
   ·omega
  rw [<-Nat.shiftRight_eq_div_pow,Nat.shiftRight_xor_distrib,Nat.shiftRight_eq_div_pow,Nat.shiftRight_eq_div_pow] at this;exact this
 have e3:i / 2 ^ H<=n / 2 ^ H:=Nat.div_le_div_right (Nat.le_of_lt hi)
 have e4:i / 2 ^ H≠n / 2 ^ H:=by
  intro h;rw [h,Nat.xor_self] at e2;omega
 rw [z0S,z0S] at e1;refine ⟨by omega,hH,?_,?_,?_⟩
 ·omega
 ·rw [z0S,z0S]
  exact e1
 ·rw [z0S]
  omega
def KTH (i n:Nat):Nat:=PC (n / 2 ^ (RISE i n+1))
theorem z9Y {i n:Nat} (hi:i<n) (hn:n<=4611686018427387904):(HS 0 n)[KTH i n]?=some (RISE i n):=by
 obtain ⟨_,h1,h2,_,_⟩:=z0L hi hn;obtain ⟨t,ht⟩:=zg1 (n:=n) (h:=RISE i n) (by omega);have hl:=z3a (n:=n) (by omega) (RISE i n+1) (by omega);rw [ht,z39 (by omega) h2,List.append_assoc];unfold KTH;rw [<-hl,List.getElem?_append_right (Nat.le_refl _)];simp
theorem z2I {i n:Nat} (hi:i<n) (hn:n<=4611686018427387904):KTH i n<PC n:=by
 have h:=z9Y hi hn;have hl:=z3a (n:=n) (by omega) 0 (by omega);rw [Nat.pow_zero,Nat.div_one] at hl;rw [<-hl];exact (List.getElem?_eq_some_iff.1 h).1
def SIB (k:Nat):Nat:=if k % 2=1 then k - 1 else k+1
def WAY (i H:Nat):List Nat:=(List.range H).map fun h=>PLC h (SIB (i / 2 ^ h))
theorem z9Z (i H:Nat):WAY i (H+1)=WAY i H ++ [PLC H (SIB (i / 2 ^ H))]:=by simp [WAY,List.range_succ]
theorem z76 (i H:Nat):(WAY i H).length=H:=by simp [WAY]
theorem Node.up {h k:Nat} (a:Node h k) (hh:h<62):Node (h+1) (k / 2):=by
 refine ⟨hh,?_⟩;have:=a.2;rw [show 62 - h=(62 - (h+1))+1 by omega,Nat.pow_succ] at this;omega
theorem Node.sib {h k:Nat} (a:Node h k) (hh:h<62):Node h (SIB k):=by
 refine ⟨a.1,?_⟩;have h1:=a.2;rw [show 62 - h=(62 - (h+1))+1 by omega,Nat.pow_succ] at h1 ⊢;unfold SIB;split <;> omega
theorem Node.leaf {i:Nat} (hi:i<4611686018427387904):Node 0 i:=⟨by omega,by simpa using hi⟩
theorem Node.over {i:Nat} (hi:i<4611686018427387904):∀ h,h<=62->Node h (i / 2 ^ h):=by
 intro h;induction h with
 | zero=>
   intro _;simpa using Node.leaf hi
 | succ h ih=>
   intro hh;have:=(ih (by omega)).up (by omega);rw [z0S];exact this
theorem Node.peak {n h:Nat} (hn:n<=4611686018427387904) (hb:n / 2 ^ h % 2=1):Node h (2*(n / 2 ^ (h+1))):=by
 have h62:h<=62:=by
  rcases Nat.lt_or_ge 62 h with h1 | h1
  ·have:2 ^ 63<=2 ^ h:=Nat.pow_le_pow_right (by decide) h1
   rw [Nat.div_eq_of_lt (by omega)] at hb;omega
  ·exact h1
 refine ⟨h62,?_⟩
 have h1:n / 2 ^ h<=2 ^ (62 - h):=by
  have:n / 2 ^ h<=2 ^ 62 / 2 ^ h:=Nat.div_le_div_right (by simpa using hn);rw [Nat.pow_div h62 (by decide)] at this;exact this
 rw [z5f hb] at h1;omega
end Go.Proofs.YtdggkbpabjgdfaaGreatDoor
namespace Go.Proofs.YtdggkbpabjgdfaaGreatDoor
open Go.RowKit
abbrev SPOT (h k:Nat):Value:=.agg #[.int .u8 (h:Int),.int .u64 (k:Int)]
theorem z5W (X:Nat) (hX:X<2 ^ 64) (w:World):Calls Tryz.prog 106 #[.int .u64 (X:Int)] w fun e w'=>e=.returned (.int .i64 ((LEN X:Nat) - 1:Int))/\w=w':=by
 have hl:LEN X<=64:=by
  unfold LEN;have:=z2Z (X / 72057594037927936);have:=z2Z (X / 281474976710656);have:=z2Z (X / 1099511627776);have:=z2Z (X / 4294967296);have:=z2Z (X / 16777216);have:=z2Z (X / 65536);have:=z2Z (X / 256);have:=z2Z X;repeat' split
  all_goals omega
 exact zfX X _ w (fun w=>ziD X hX w) (by omega) (by omega)
theorem zg2 (p:Int) (hp:9223372036854775807<=p) (w:World):Calls Tryz.prog 82 #[.int .u64 p] w fun e w'=>e=.returned (.tuple #[SPOT 0 0,.bool false])/\Below w.heap.size w w':=by
 go_enter Tryz.func82,Tryz.ntmps82;go_wp2;refine bodyPost_ret (v:=.tuple #[SPOT 0 0,.bool false]) ?_ rfl ⟨rfl,(Below.refl _ _).alloc (Nat.le_refl _) _⟩;simp [results,Tryz.f82,go_sem]
theorem ziG {m H:Nat} (hH:1<=H):m*2 ^ H ||| 2 ^ (H - 1)=(2*m+1)*2 ^ (H - 1):=by
 have h1:2 ^ (H - 1)<2 ^ H:=Nat.pow_lt_pow_right (by decide) (by omega);have h2:=Nat.shiftLeft_add_eq_or_of_lt h1 m;rw [Nat.shiftLeft_eq] at h2;rw [<-h2,Nat.add_mul,Nat.one_mul];congr 1
 obtain ⟨j,rfl⟩:∃ j,H=j+1:=⟨H - 1,by omega⟩
 rw [Nat.add_sub_cancel,Nat.pow_succ,Nat.mul_comm 2 m,Nat.mul_assoc,Nat.mul_comm 2]
theorem z85 (h k:Nat) (hN:Node h k) (w:World):Calls Tryz.prog 82 #[.int .u64 ((PLC h k:Nat):Int)] w fun e w'=>e=.returned (.tuple #[SPOT h k,.bool true])/\Below w.heap.size w w':=by
 have hp:=hN.lt;obtain ⟨p,hpe⟩:∃ p,p=PLC h k:=⟨_,rfl⟩
 rw [<-hpe] at hp ⊢;have HN:Aside (Node h k/\p=PLC h k/\p<9223372036854775807):=⟨hN,hpe,hp⟩
 have hd:decide ((9223372036854775807:Int)<=(p:Int))=false:=by simp;omega
 have e1:IntKind.u64.wrap ((p:Int)+1)=(p:Int)+1:=by rw [z08];omega
 have c1:=z5W (p+1) (by omega);obtain ⟨h1,h2,h3⟩:=z6A (p+1) (by omega) (by omega);obtain ⟨H,hH⟩:∃ H,LEN (p+1)=H+1:=⟨LEN (p+1) - 1,by omega⟩
 rw [hH] at h2 h3 c1;rw [show (((H+1:Nat):Int) - 1)=(H:Int) by omega,show ((p+1:Nat):Int)=(p:Int)+1 by omega] at c1
 have HH:Aside (H<=62/\p+2<=2 ^ (H+1)):=by
  refine ⟨?_,by omega⟩;rcases Nat.lt_or_ge 62 H with h | h
  ·have:2 ^ 63<=2 ^ H:=Nat.pow_le_pow_right (by decide) h
   simp at h2;omega
  ·exact h
 clear hN hpe hp h1 h2 h3 hH;go_enter Tryz.func82,Tryz.ntmps82;go_wp2_with fail
 refine (c1 _).mono ?_;rintro e w' ⟨rfl,rfl⟩;clear c1;go_wp2;go_loopg [0,4,5] H (fun g s0 s4 s5 wx=>∃ q L:Nat,s0=.int .u64 (q:Int)/\s4=.int .i64 (g:Int)/\s5=.int .u64 (L:Int)/\Aside (wx=w.alloc (.cells #[.int .u8 0,.int .u64 0] 77)/\g<=62/\q+2<=2 ^ (g+1)/\∃ m,L=m*2 ^ g/\Node g m/\p=z0v L+q))
 case atStart=>exact ⟨p,0,rfl,rfl,rfl,rfl,HH.out.1,HH.out.2,0,by simp,⟨HH.out.1,Nat.two_pow_pos _⟩,by rw [z2G];omega⟩
 case round=>
  obtain ⟨q,L,rfl,rfl,rfl,A⟩:=hrel;obtain ⟨hw,hg,hq,m,hL,hNm,hpL⟩:=A.out;clear A
  have e2:IntKind.u64.wrap ((q:Int)+1)=(q:Int)+1:=by
   have:2 ^ (gk+1)<=2 ^ 63:=Nat.pow_le_pow_right (by decide) (by omega);rw [z08];omega
  have c1:=z3s gk (by omega);by_cases hT:q+1=TREE gk
  ·have hmk:h=gk/\k=m:=by
    refine HN.out.1.one hNm ?_;rw [<-HN.out.2.1,hpL,hL];unfold PLC;unfold TREE at hT;have:=z2b gk;omega
   obtain ⟨rfl,rfl⟩:=hmk
   have hLk:(L:Int) / 2 ^ h=(k:Int):=by
    rw [hL,z1K,Nat.mul_div_cancel _ (Nat.two_pow_pos h)]
   rw [<-hT,show ((q+1:Nat):Int)=(q:Int)+1 by omega] at c1;have R:Aside (L=k*2 ^ h/\h<=62/\(L:Int) / 2 ^ h=(k:Int)):=⟨hL,hg,hLk⟩
   clear hg hq hL hNm hpL HN HH hT hLk;subst hw;go_wp2_with fail
   refine (c1 _).mono ?_;rintro e w' ⟨rfl,rfl⟩;clear c1;go_wp2;obtain ⟨hL,hg,hLk⟩:=R.out;rw [show (h:Int) % 256=(h:Int) by omega,show min h 64=h by omega,hLk];refine bodyPost_ret (v:=.tuple #[SPOT h k,.bool true]) ?_ rfl ⟨rfl,(Below.refl _ _).alloc (Nat.le_refl _) _⟩;simp [results,Tryz.f82,go_sem]
  ·have h1 : 1<=gk:=by
    rcases Nat.eq_zero_or_pos gk with h0 | h0
    ·subst h0
     simp at hq;unfold TREE at hT;simp at hT;omega
    ·exact h0
   obtain ⟨g,rfl⟩:∃ g,gk=g+1:=⟨gk - 1,by omega⟩
   have c2:=z3s g (by omega);have hb:((q:Int)+1 == ((TREE (g+1):Nat):Int))=false:=by simp;omega
   generalize hT1:TREE (g+1)=t1 at *
   have e3:wrap64 (g:Int)=(g:Int):=by unfold wrap64;omega
   rw [show (((g+1:Nat):Int))=(g:Int)+1 by omega] at c1 ⊢;have R:Aside (wr=w.alloc (.cells #[.int .u8 0,.int .u64 0] 77)/\g+1<=62/\q+2<=2 ^ (g+1+1)/\L=m*2 ^ (g+1)/\Node (g+1) m/\p=z0v L+q/\q+1≠t1/\TREE (g+1)=t1):=⟨hw,hg,hq,hL,hNm,hpL,hT,hT1⟩
   clear hw hg hq hL hNm hpL hT hT1 h1 HN HH;by_cases hlt:TREE g<=q
   ·have hd2:decide (((TREE g:Nat):Int)<=(q:Int))=true:=by simp;omega
    obtain ⟨t2,ht2⟩:∃ t2,TREE g=t2:=⟨_,rfl⟩
    rw [ht2] at c2 hd2;have hd3:(t2:Int)<=(q:Int):=by simpa using hd2
    have R2:Aside (TREE g=t2/\t2<=q):=⟨ht2,by omega⟩
    clear hlt ht2 hd2;go_wp2_with fail
    refine (c1 _).mono ?_;rintro e w' ⟨rfl,rfl⟩;clear c1;go_wp2_with fail
    refine (c2 _).mono ?_;rintro e w' ⟨rfl,rfl⟩;clear c2;go_wp2;go_roundg g
    case measure=>omega
    case rel=>
     obtain ⟨r1,r2,r3,r4,r5,r6,r7,r8⟩:=R.out;obtain ⟨s1,s2⟩:=R2.out;have hpw:=z2b g;have hpp:2 ^ (g+1+1)=2*2 ^ (g+1):=by rw [Nat.pow_succ 2 (g+1),Nat.mul_comm]
     have hp63:2 ^ (g+1+1)<=2 ^ 63:=Nat.pow_le_pow_right (by decide) (by omega);have hg64:2 ^ g<2 ^ 64:=Nat.pow_lt_pow_right (by decide) (by omega)
     have hL64:L<2 ^ 64:=by
      have:=r5.span;rw [Nat.add_mul,<-r4] at this;omega
     have ea:IntKind.u64.wrap ((q:Int) - t2)=((q - t2:Nat):Int):=by rw [z08];omega
     have eb:bits .or .u64 (L:Int) (IntKind.u64.wrap (2 ^ min g 64))=(((2*m+1)*2 ^ g:Nat):Int):=by
      have e5:IntKind.u64.wrap (2 ^ min g 64)=((2 ^ g:Nat):Int):=by
              rw [z08,show min g 64=g by omega,Int.natCast_pow];have:((2 ^ g:Nat):Int)=(2:Int) ^ g:=by simp
              have h7:((2:Nat):Int)=2:=rfl;rw [h7,<-this];omega
      rw [e5,zcz hL64 hg64,r4];exact congrArg (fun x:Nat=>(x:Int)) (ziG (m:=m) (H:=g+1) (by omega))
     unfold TREE at s1 r8;rw [ea,eb,e3];refine ⟨q - t2,(2*m+1)*2 ^ g,rfl,rfl,rfl,r1,by omega,by omega,2*m+1,rfl,⟨by omega,?_⟩,?_⟩
     ·have:=r5.2
      rw [show 62 - g=62 - (g+1)+1 by omega,Nat.pow_succ];omega
     ·have e6:=z4y m g
      rw [z1m,<-r4] at e6;rw [e6,r6];unfold TREE;omega
   ·have hd3:¬ ((TREE g:Nat):Int)<=(q:Int):=by omega
    obtain ⟨t2,ht2⟩:∃ t2,TREE g=t2:=⟨_,rfl⟩
    rw [ht2] at c2 hd3;have R2:Aside (TREE g=t2/\q<t2):=⟨ht2,by omega⟩
    clear hlt ht2;go_wp2_with fail
    refine (c1 _).mono ?_;rintro e w' ⟨rfl,rfl⟩;clear c1;go_wp2_with fail
    refine (c2 _).mono ?_;rintro e w' ⟨rfl,rfl⟩;clear c2;go_wp2;go_roundg g
    case measure=>omega
    case rel=>
     obtain ⟨r1,r2,r3,r4,r5,r6,r7,r8⟩:=R.out;obtain ⟨s1,s2⟩:=R2.out;have hpw:=z2b g;unfold TREE at s1;rw [e3];refine ⟨q,L,rfl,rfl,rfl,r1,by omega,by omega,2*m,by rw [z1m,<-r4],⟨by omega,?_⟩,r6⟩;have:=r5.2;rw [show 62 - g=62 - (g+1)+1 by omega,Nat.pow_succ];omega
def SpotAt (p:Int) (h k:Nat) (ok:Bool):Prop:=∀ w,Calls Tryz.prog 82 #[.int .u64 p] w fun e w'=>e=.returned (.tuple #[SPOT h k,.bool ok])/\Below w.heap.size w w'
theorem SpotAt.node {h k:Nat} (hN:Node h k):SpotAt ((PLC h k:Nat):Int) h k true:=fun w=>z85 h k hN w
theorem SpotAt.out {p:Int} (hp:9223372036854775807<=p):SpotAt p 0 0 false:=fun w=>zg2 p hp w
theorem z5h (p:Int) (h k:Nat) (b:Bool) (w:World) (ha:(bits .and .u64 (k:Int) 1 == 1)=b) (cs:SpotAt p h k true):
  Calls Tryz.prog 44 #[.int .u64 p] w fun e w'=>e=.returned (.bool b)/\Below w.heap.size w w':=by
 have cs:=cs w;go_enter Tryz.func44,Tryz.ntmps44;go_wp2_with fail
 refine cs.mono ?_;rintro e w1 ⟨rfl,hb⟩;clear cs;have R:Aside (Below w.heap.size w w1):=hb;clear hb;go_wp2;go_ret;exact ⟨rfl,R.out.alloc R.out.size _⟩
theorem z0M {P:Program} {f:FuncId} {args:Array Value} {w:World} {n:Nat} {v:Value}
  (h:Calls P f args (w.drewN n) fun e w'=>e=.returned v/\w.drewN n=w'):Calls P f args (w.drewN n) fun e w''=>e=.returned v/\∃ m,w''=w.drewN m:=
 h.mono fun _ _ ⟨he,hm⟩=>⟨he,n,hm.symm⟩
theorem zeh (h k:Nat) (t m l a r:Int) (w:World) (hh:h<=62) (hm:wrap64 (h:Int)=(h:Int)) (hm2:IntKind.u64.wrap (h:Int)=(h:Int)) (ht:wrap64 (62 - (h:Int))=t) (hk:decide (m<(k:Int))=false) (cm:∀ w,Calls Tryz.prog 114 #[.int .i64 t] w fun e w'=>e=.returned (.int .u64 m)/\w=w')
  (e0:IntKind.u64.wrap ((k:Int)+1)=(k:Int)+1) (e1:IntKind.u64.wrap (IntKind.u64.wrap (((k:Int)+1)*2 ^ min h 64) - 1)=l) (ca:∀ w,Calls Tryz.prog 79 #[.int .u64 l] w fun e w'=>e=.returned (.int .u64 a)/\w=w') (e2:IntKind.u64.wrap (a+(h:Int))=r):
  Calls Tryz.prog 89 #[SPOT h k] w fun e w'=>e=.returned (.tuple #[.int .u64 r,.bool true])/\Below w.heap.size w w':=by
 have hd:decide ((62:Int)<(h:Int))=false:=by simp;omega
 go_enter Tryz.func89,Tryz.ntmps89;go_wp2;have hc0:(w.alloc (.cells #[.int .u8 (h:Int),.int .u64 (k:Int)] 77)).cell? ⟨w.heap.size,0,none⟩=some (.int .u8 (h:Int)):=by simp
 have hc1:(w.alloc (.cells #[.int .u8 (h:Int),.int .u64 (k:Int)] 77)).cell? ⟨w.heap.size,1,none⟩=some (.int .u64 (k:Int)):=by simp
 have R2:Aside (Below w.heap.size w (w.alloc (.cells #[.int .u8 (h:Int),.int .u64 (k:Int)] 77))):=(Below.refl _ _).alloc (Nat.le_refl _) _;generalize w.alloc (.cells #[.int .u8 (h:Int),.int .u64 (k:Int)] 77)=W at *
 generalize hb:w.heap.size=b at *
 clear hh;go_quiet ((go_at_call 114;exact z0M (cm _)))
 have R3:Aside (Below b w (W.drewN nq)):=below_drewN R2.out nq;have hc0':(W.drewN nq).cell? ⟨b,0,none⟩=some (.int .u8 (h:Int)):=hc0;have hc1':(W.drewN nq).cell? ⟨b,1,none⟩=some (.int .u64 (k:Int)):=hc1;clear hc0 hc1 R2 cm;generalize W.drewN nq=W2 at *
 go_wp2;go_quiet ((go_at_call 79;exact z0M (ca _)))
 go_wp2;go_ret2;exact ⟨rfl,by rw [hb];exact below_drewN R3.out _⟩
theorem zhF (k:Nat) (hk:k<2 ^ 64):bits .and .u64 (k:Int) 1=((k % 2:Nat):Int):=by
 have:bits .and .u64 (k:Int) ((1:Nat):Int)=((k &&& 1:Nat):Int):=z5c hk (by decide);rw [Nat.and_one_is_mod] at this;exact this
theorem zei (k:Nat) (hk:k<2 ^ 64):(bits .and .u64 (k:Int) 1 == 1)=decide (k % 2=1):=by
 rw [zhF k hk,Bool.eq_iff_iff];simp;omega
theorem za0 (a h:Nat) (hh:h<=62) (hl:a*2 ^ h<2 ^ 64):IntKind.u64.wrap ((a:Int)*2 ^ min h 64)=((a*2 ^ h:Nat):Int):=by
 rw [show min h 64=h by omega,z6w,Nat.mod_eq_of_lt hl]
theorem zg3 {h:Nat} (hh:h<=62):MASK (62 - (h:Int))=2 ^ (62 - h) - 1:=by
 unfold MASK;rw [show min (62 - (h:Int)).toNat 64=62 - h by omega]
theorem zg4 (h k:Nat) (hN:Node h k) (w:World):Calls Tryz.prog 89 #[SPOT h k] w fun e w'=>e=.returned (.tuple #[.int .u64 ((PLC h k:Nat):Int),.bool true])/\Below w.heap.size w w':=by
 have h1:=hN.1;have h2:=hN.2;have h3:=hN.span;have h4:=hN.index_lt;have h5:=hN.lt;have h6:=Nat.two_pow_pos (62 - h);have h7:=z6z h k;have h8:=zbY h k;refine zeh h k (62 - (h:Int)) ((2 ^ (62 - h) - 1:Nat):Int) (((k+1)*2 ^ h - 1:Nat):Int) ((z0v ((k+1)*2 ^ h - 1):Nat):Int) _ w h1 (by unfold wrap64;omega) (by rw [z08];omega) (by unfold wrap64;omega) (by simp;omega) (fun w=>?_) (by rw [z08];omega) ?_ (fun w=>z9S _ (by omega) w) ?_
 ·rw [<-zg3 h1]
  exact zbZ _ (by omega) w
 ·have:=za0 (k+1) h h1 (by omega)
  rw [show (((k+1:Nat)):Int)=(k:Int)+1 by omega] at this;rw [this,z08];omega
 ·rw [z08]
  omega
theorem zcQ (h k:Nat):PLC (h+1) (k / 2)=if k % 2=1 then PLC h k+1 else PLC h k+TREE h+1:=by
 split
 ·have:=z3C h (k / 2)
  rw [show 2*(k / 2)+1=k by omega] at this;exact this
 ·have:=z68 h (k / 2)
  rw [show 2*(k / 2)=k by omega] at this;have h3:=z2b h;unfold TREE;omega
theorem zbd (h k:Nat):PLC h (SIB k)=if k % 2=1 then PLC h k - TREE h else PLC h k+TREE h:=by
 unfold SIB;split
 ·have:=z7Y h (k / 2)
  rw [show 2*(k / 2)+1=k by omega,show 2*(k / 2)=k - 1 by omega] at this;omega
 ·have:=z7Y h (k / 2)
  rw [show 2*(k / 2)=k by omega] at this;omega
theorem z9r {h k:Nat} (hk:k % 2=1):TREE h<=PLC h k:=by
 have:=z7Y h (k / 2);rw [show 2*(k / 2)+1=k by omega] at this;omega
theorem zhG (h k:Nat) (hN:Node h k) (hh:h<62) (w:World):Calls Tryz.prog 81 #[.int .u64 ((PLC h k:Nat):Int),.int .i64 (h:Int),.bool (decide (k % 2=1))] w fun e w'=>e=.returned (.int .u64 ((PLC (h+1) (k / 2):Nat):Int))/\w=w':=by
 have h1:=(hN.up hh).lt;have h2:=zcQ h k;by_cases hk:k % 2=1
 ·rw [if_pos hk] at h2
  rw [decide_eq_true hk];have:=zcP (PLC h k:Nat) (h:Int) w;rw [show IntKind.u64.wrap (((PLC h k:Nat):Int)+1)=((PLC (h+1) (k / 2):Nat):Int) by rw [z08];omega] at this;exact this
 ·rw [if_neg hk] at h2
  rw [decide_eq_false hk];have:=zed (PLC h k:Nat) (h:Int) (TREE h:Nat) w (fun w=>z3s h (by omega) w);rw [show IntKind.u64.wrap (IntKind.u64.wrap (((PLC h k:Nat):Int)+((TREE h:Nat):Int))+1)=((PLC (h+1) (k / 2):Nat):Int) by rw [z08,z08];omega] at this;exact this
theorem zej (h k:Nat) (hN:Node h k) (hh:h<62) (w:World):Calls Tryz.prog 80 #[.int .u64 ((PLC h k:Nat):Int),.int .i64 (h:Int),.bool (decide (k % 2=1))] w fun e w'=>e=.returned (.int .u64 ((PLC h (SIB k):Nat):Int))/\w=w':=by
 have h0:=hN.lt;have h1:=(hN.sib hh).lt;have h2:=zbd h k;by_cases hk:k % 2=1
 ·rw [if_pos hk] at h2
  rw [decide_eq_true hk];have h3:=z9r (h:=h) hk;have:=z9T (PLC h k:Nat) (h:Int) (TREE h:Nat) w (fun w=>z3s h (by omega) w);rw [show IntKind.u64.wrap (((PLC h k:Nat):Int) - ((TREE h:Nat):Int))=((PLC h (SIB k):Nat):Int) by rw [z08];omega] at this;exact this
 ·rw [if_neg hk] at h2
  rw [decide_eq_false hk];have:=zbb (PLC h k:Nat) (h:Int) (TREE h:Nat) w (fun w=>z3s h (by omega) w);rw [show IntKind.u64.wrap (((PLC h k:Nat):Int)+((TREE h:Nat):Int))=((PLC h (SIB k):Nat):Int) by rw [z08];omega] at this;exact this
theorem z2v (h k:Nat) (hN:Node h k) (w:World):Calls Tryz.prog 44 #[.int .u64 ((PLC h k:Nat):Int)] w fun e w'=>e=.returned (.bool (decide (k % 2=1)))/\Below w.heap.size w w':=
 z5h _ h k _ w (zei k (by have:=hN.index_lt;omega)) (.node hN)
end Go.Proofs.YtdggkbpabjgdfaaGreatDoor
