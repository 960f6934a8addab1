/- Texts of SpanMakes, one behind the other: NumHighCalls, PosCalls, NumPlaces, NumListCalls, NumListPlain, PosPeaksPlain. -/
import Derived.WalkKit
import Derived.WalkLawsBesides
import Derived.Deep.LoopGhost
import Derived.Deep.OwnRows
import Derived.Deep.AppendLies
import Derived.Test.YtnmalbngdhjhjaaGreatDoorSpanMakesP18
namespace Go.Proofs.YtnmalbngdhjhjaaGreatDoor
open Go.RowKit
def LTAB:ByteArray:=⟨#[0,1,2,2,3,3,3,3,4,4,4,4,4,4,4,4,5,5,5,5,5,5,5,5,5,5,5,5,5,5,5,5,6,6,6,6,6,6,6,6,6,6,6,6,6,6,6,6,6,6,6,6,6,6,6,6,6,6,6,6,6,6,6,6,7,7,7,7,7,7,7,7,7,7,7,7,7,7,7,7,7,7,7,7,7,7,7,7,7,7,7,7,7,7,7,7,7,7,7,7,7,7,7,7,7,7,7,7,7,7,7,7,7,7,7,7,7,7,7,7,7,7,7,7,7,7,7,7,8,8,8,8,8,8,8,8,8,8,8,8,8,8,8,8,8,8,8,8,8,8,8,8,8,8,8,8,8,8,8,8,8,8,8,8,8,8,8,8,8,8,8,8,8,8,8,8,8,8,8,8,8,8,8,8,8,8,8,8,8,8,8,8,8,8,8,8,8,8,8,8,8,8,8,8,8,8,8,8,8,8,8,8,8,8,8,8,8,8,8,8,8,8,8,8,8,8,8,8,8,8,8,8,8,8,8,8,8,8,8,8,8,8,8,8,8,8,8,8,8,8,8,8,8,8,8,8]⟩
set_option maxRecDepth 100000 in
theorem zbb (x v:Int) (w:World) (h0:(¬ 4294967296≤x)) (h1:(¬ 65536≤x)) (h2:(¬ 256≤x)) (hx:0≤x) (hx':x<256)
    (hv:Aside (∀ h:(x).toNat<LTAB.size,wrap64 (wrap64 (LTAB[(x).toNat]'h).toNat)=v)):Calls Tryz.prog 209 #[.int .u64 x] w fun e w'=>e=.returned (.int .i64 v)∧w=w':=by
  go_enter Tryz.func209,Tryz.ntmps209
  go_wp2
  go_ret
  exact ⟨congrArg (fun z=>Ending.returned (Value.int .i64 z)) (hv.out _),rfl⟩
set_option maxRecDepth 100000 in
theorem zbc (x v:Int) (w:World) (h0:(¬ 4294967296≤x)) (h1:(¬ 65536≤x)) (h2:(256≤x)) (hx:0≤x / 256) (hx':x / 256<256)
    (hv:Aside (∀ h:(x / 256).toNat<LTAB.size,wrap64 (8+wrap64 (LTAB[(x / 256).toNat]'h).toNat)=v)):Calls Tryz.prog 209 #[.int .u64 x] w fun e w'=>e=.returned (.int .i64 v)∧w=w':=by
  go_enter Tryz.func209,Tryz.ntmps209
  go_wp2
  go_ret
  exact ⟨congrArg (fun z=>Ending.returned (Value.int .i64 z)) (hv.out _),rfl⟩
set_option maxRecDepth 100000 in
theorem zbd (x v:Int) (w:World) (h0:(¬ 4294967296≤x)) (h1:(65536≤x)) (h2:(¬ 256≤x / 65536)) (hx:0≤x / 65536) (hx':x / 65536<256)
    (hv:Aside (∀ h:(x / 65536).toNat<LTAB.size,wrap64 (16+wrap64 (LTAB[(x / 65536).toNat]'h).toNat)=v)):Calls Tryz.prog 209 #[.int .u64 x] w fun e w'=>e=.returned (.int .i64 v)∧w=w':=by
  go_enter Tryz.func209,Tryz.ntmps209
  go_wp2
  go_ret
  exact ⟨congrArg (fun z=>Ending.returned (Value.int .i64 z)) (hv.out _),rfl⟩
set_option maxRecDepth 100000 in
theorem zbe (x v:Int) (w:World) (h0:(¬ 4294967296≤x)) (h1:(65536≤x)) (h2:(256≤x / 65536)) (hx:0≤x / 65536 / 256) (hx':x / 65536 / 256<256)
    (hv:Aside (∀ h:(x / 65536 / 256).toNat<LTAB.size,wrap64 (24+wrap64 (LTAB[(x / 65536 / 256).toNat]'h).toNat)=v)):Calls Tryz.prog 209 #[.int .u64 x] w fun e w'=>e=.returned (.int .i64 v)∧w=w':=by
  go_enter Tryz.func209,Tryz.ntmps209
  go_wp2
  go_ret
  exact ⟨congrArg (fun z=>Ending.returned (Value.int .i64 z)) (hv.out _),rfl⟩
set_option maxRecDepth 100000 in
theorem zbf (x v:Int) (w:World) (h0:(4294967296≤x)) (h1:(¬ 65536≤x / 4294967296)) (h2:(¬ 256≤x / 4294967296)) (hx:0≤x / 4294967296) (hx':x / 4294967296<256)
    (hv:Aside (∀ h:(x / 4294967296).toNat<LTAB.size,wrap64 (32+wrap64 (LTAB[(x / 4294967296).toNat]'h).toNat)=v)):Calls Tryz.prog 209 #[.int .u64 x] w fun e w'=>e=.returned (.int .i64 v)∧w=w':=by
  go_enter Tryz.func209,Tryz.ntmps209
  go_wp2
  go_ret
  exact ⟨congrArg (fun z=>Ending.returned (Value.int .i64 z)) (hv.out _),rfl⟩
set_option maxRecDepth 100000 in
theorem zbg (x v:Int) (w:World) (h0:(4294967296≤x)) (h1:(¬ 65536≤x / 4294967296)) (h2:(256≤x / 4294967296)) (hx:0≤x / 4294967296 / 256) (hx':x / 4294967296 / 256<256)
    (hv:Aside (∀ h:(x / 4294967296 / 256).toNat<LTAB.size,wrap64 (40+wrap64 (LTAB[(x / 4294967296 / 256).toNat]'h).toNat)=v)):Calls Tryz.prog 209 #[.int .u64 x] w fun e w'=>e=.returned (.int .i64 v)∧w=w':=by
  go_enter Tryz.func209,Tryz.ntmps209
  go_wp2
  go_ret
  exact ⟨congrArg (fun z=>Ending.returned (Value.int .i64 z)) (hv.out _),rfl⟩
set_option maxRecDepth 100000 in
theorem zbh (x v:Int) (w:World) (h0:(4294967296≤x)) (h1:(65536≤x / 4294967296)) (h2:(¬ 256≤x / 4294967296 / 65536)) (hx:0≤x / 4294967296 / 65536) (hx':x / 4294967296 / 65536<256)
    (hv:Aside (∀ h:(x / 4294967296 / 65536).toNat<LTAB.size,wrap64 (48+wrap64 (LTAB[(x / 4294967296 / 65536).toNat]'h).toNat)=v)):Calls Tryz.prog 209 #[.int .u64 x] w fun e w'=>e=.returned (.int .i64 v)∧w=w':=by
  go_enter Tryz.func209,Tryz.ntmps209
  go_wp2
  go_ret
  exact ⟨congrArg (fun z=>Ending.returned (Value.int .i64 z)) (hv.out _),rfl⟩
set_option maxRecDepth 100000 in
theorem zbi (x v:Int) (w:World) (h0:(4294967296≤x)) (h1:(65536≤x / 4294967296)) (h2:(256≤x / 4294967296 / 65536)) (hx:0≤x / 4294967296 / 65536 / 256) (hx':x / 4294967296 / 65536 / 256<256)
    (hv:Aside (∀ h:(x / 4294967296 / 65536 / 256).toNat<LTAB.size,wrap64 (56+wrap64 (LTAB[(x / 4294967296 / 65536 / 256).toNat]'h).toNat)=v)):Calls Tryz.prog 209 #[.int .u64 x] w fun e w'=>e=.returned (.int .i64 v)∧w=w':=by
  go_enter Tryz.func209,Tryz.ntmps209
  go_wp2
  go_ret
  exact ⟨congrArg (fun z=>Ending.returned (Value.int .i64 z)) (hv.out _),rfl⟩
def L8 (i:Nat):Nat:=if i=0 then 0 else if i<2 then 1 else if i<4 then 2 else if i<8 then 3 else if i<16 then 4 else if i<32 then 5 else if i<64 then 6 else if i<128 then 7 else 8
set_option maxRecDepth 100000 in
theorem ze2:∀ i,i<256→(([0,1,2,2,3,3,3,3,4,4,4,4,4,4,4,4,5,5,5,5,5,5,5,5,5,5,5,5,5,5,5,5,6,6,6,6,6,6,6,6,6,6,6,6,6,6,6,6,6,6,6,6,6,6,6,6,6,6,6,6,6,6,6,6,7,7,7,7,7,7,7,7,7,7,7,7,7,7,7,7,7,7,7,7,7,7,7,7,7,7,7,7,7,7,7,7,7,7,7,7,7,7,7,7,7,7,7,7,7,7,7,7,7,7,7,7,7,7,7,7,7,7,7,7,7,7,7,7,8,8,8,8,8,8,8,8,8,8,8,8,8,8,8,8,8,8,8,8,8,8,8,8,8,8,8,8,8,8,8,8,8,8,8,8,8,8,8,8,8,8,8,8,8,8,8,8,8,8,8,8,8,8,8,8,8,8,8,8,8,8,8,8,8,8,8,8,8,8,8,8,8,8,8,8,8,8,8,8,8,8,8,8,8,8,8,8,8,8,8,8,8,8,8,8,8,8,8,8,8,8,8,8,8,8,8,8,8,8,8,8,8,8,8,8,8,8,8,8,8,8,8,8,8,8,8,8]:List UInt8).getD i 0).toNat=L8 i:=by decide +kernel
set_option maxRecDepth 100000 in
theorem z1X (i:Nat) (h:i<LTAB.size):(LTAB[i]'h).toNat=L8 i:=by
  have h2:i<256:=h
  have:=ze2 i h2
  rw [List.getD_eq_getElem?_getD,List.getElem?_eq_getElem (by exact h)] at this
  exact this
theorem z2o (i:Nat):L8 i≤8:=by unfold L8;repeat' split <;> try omega
theorem zag (i:Nat) (h0:i≠0) (h:i<256):1≤L8 i∧2 ^ (L8 i - 1)≤i∧i<2 ^ L8 i:=by
  unfold L8
  repeat' split
  all_goals (try omega)
theorem z2i (n i:Nat) (hn:n≤56):wrap64 ((n:Int)+wrap64 ((L8 i:Nat):Int))=((n+L8 i:Nat):Int):=by
  have:=z2o i
  unfold wrap64
  omega
theorem ze3 (i:Nat):wrap64 (wrap64 ((L8 i:Nat):Int))=((L8 i:Nat):Int):=by
  have:=z2o i
  unfold wrap64
  omega
def LEN (X:Nat):Nat:=
  if 4294967296≤X then (if 281474976710656≤X then (if 72057594037927936≤X then 56+L8 (X / 72057594037927936) else 48+L8 (X / 281474976710656)) else (if 1099511627776≤X then 40+L8 (X / 1099511627776) else 32+L8 (X / 4294967296)))
  else (if 65536≤X then (if 16777216≤X then 24+L8 (X / 16777216) else 16+L8 (X / 65536)) else (if 256≤X then 8+L8 (X / 256) else L8 X))
theorem zcv (X:Nat) (hX:X<2 ^ 64) (h0:¬ 4294967296≤X) (h1:¬ 65536≤X) (h2:¬ 256≤X) (w:World):Calls Tryz.prog 209 #[.int .u64 (X:Int)] w fun e w'=>e=.returned (.int .i64 ((0+L8 (X / 1):Nat):Int))∧w=w':=by
  have e:((X:Int)).toNat=X / 1:=by omega
  refine zbb X _ w (by omega) (by omega) (by omega) (by omega) (by omega) fun h=>?_
  rw [z1X _ h,e]
  exact (ze3 _).trans (by rw [Nat.zero_add])
theorem zcw (X:Nat) (hX:X<2 ^ 64) (h0:¬ 4294967296≤X) (h1:¬ 65536≤X) (h2:256≤X) (w:World):Calls Tryz.prog 209 #[.int .u64 (X:Int)] w fun e w'=>e=.returned (.int .i64 ((8+L8 (X / 256):Nat):Int))∧w=w':=by
  have e:((X:Int) / 256).toNat=X / 256:=by omega
  refine zbc X _ w (by omega) (by omega) (by omega) (by omega) (by omega) fun h=>?_
  rw [z1X _ h,e]
  exact z2i 8 _ (by decide)
theorem zcx (X:Nat) (hX:X<2 ^ 64) (h0:¬ 4294967296≤X) (h1:65536≤X) (h2:¬ 16777216≤X) (w:World):Calls Tryz.prog 209 #[.int .u64 (X:Int)] w fun e w'=>e=.returned (.int .i64 ((16+L8 (X / 65536):Nat):Int))∧w=w':=by
  have e:((X:Int) / 65536).toNat=X / 65536:=by omega
  refine zbd X _ w (by omega) (by omega) (by omega) (by omega) (by omega) fun h=>?_
  rw [z1X _ h,e]
  exact z2i 16 _ (by decide)
theorem zcy (X:Nat) (hX:X<2 ^ 64) (h0:¬ 4294967296≤X) (h1:65536≤X) (h2:16777216≤X) (w:World):Calls Tryz.prog 209 #[.int .u64 (X:Int)] w fun e w'=>e=.returned (.int .i64 ((24+L8 (X / 16777216):Nat):Int))∧w=w':=by
  have e:((X:Int) / 65536 / 256).toNat=X / 16777216:=by omega
  refine zbe X _ w (by omega) (by omega) (by omega) (by omega) (by omega) fun h=>?_
  rw [z1X _ h,e]
  exact z2i 24 _ (by decide)
theorem zcz (X:Nat) (hX:X<2 ^ 64) (h0:4294967296≤X) (h1:¬ 281474976710656≤X) (h2:¬ 1099511627776≤X) (w:World):Calls Tryz.prog 209 #[.int .u64 (X:Int)] w fun e w'=>e=.returned (.int .i64 ((32+L8 (X / 4294967296):Nat):Int))∧w=w':=by
  have e:((X:Int) / 4294967296).toNat=X / 4294967296:=by omega
  refine zbf X _ w (by omega) (by omega) (by omega) (by omega) (by omega) fun h=>?_
  rw [z1X _ h,e]
  exact z2i 32 _ (by decide)
theorem zcA (X:Nat) (hX:X<2 ^ 64) (h0:4294967296≤X) (h1:¬ 281474976710656≤X) (h2:1099511627776≤X) (w:World):Calls Tryz.prog 209 #[.int .u64 (X:Int)] w fun e w'=>e=.returned (.int .i64 ((40+L8 (X / 1099511627776):Nat):Int))∧w=w':=by
  have e:((X:Int) / 4294967296 / 256).toNat=X / 1099511627776:=by omega
  refine zbg X _ w (by omega) (by omega) (by omega) (by omega) (by omega) fun h=>?_
  rw [z1X _ h,e]
  exact z2i 40 _ (by decide)
theorem zcB (X:Nat) (hX:X<2 ^ 64) (h0:4294967296≤X) (h1:281474976710656≤X) (h2:¬ 72057594037927936≤X) (w:World):Calls Tryz.prog 209 #[.int .u64 (X:Int)] w fun e w'=>e=.returned (.int .i64 ((48+L8 (X / 281474976710656):Nat):Int))∧w=w':=by
  have e:((X:Int) / 4294967296 / 65536).toNat=X / 281474976710656:=by omega
  refine zbh X _ w (by omega) (by omega) (by omega) (by omega) (by omega) fun h=>?_
  rw [z1X _ h,e]
  exact z2i 48 _ (by decide)
theorem zcC (X:Nat) (hX:X<2 ^ 64) (h0:4294967296≤X) (h1:281474976710656≤X) (h2:72057594037927936≤X) (w:World):Calls Tryz.prog 209 #[.int .u64 (X:Int)] w fun e w'=>e=.returned (.int .i64 ((56+L8 (X / 72057594037927936):Nat):Int))∧w=w':=by
  have e:((X:Int) / 4294967296 / 65536 / 256).toNat=X / 72057594037927936:=by omega
  refine zbi X _ w (by omega) (by omega) (by omega) (by omega) (by omega) fun h=>?_
  rw [z1X _ h,e]
  exact z2i 56 _ (by decide)
theorem zgA (X:Nat) (hX:X<2 ^ 64) (w:World):Calls Tryz.prog 209 #[.int .u64 (X:Int)] w fun e w'=>e=.returned (.int .i64 ((LEN X:Nat):Int))∧w=w':=by
  unfold LEN
  split
  · split
    · split
      · exact zcC X hX (by omega) (by omega) (by omega) w
      · exact zcB X hX (by omega) (by omega) (by omega) w
    · split
      · exact zcA X hX (by omega) (by omega) (by omega) w
      · exact zcz X hX (by omega) (by omega) (by omega) w
  · split
    · split
      · exact zcy X hX (by omega) (by omega) (by omega) w
      · exact zcx X hX (by omega) (by omega) (by omega) w
    · split
      · exact zcw X hX (by omega) (by omega) (by omega) w
      · have k:=zcv X hX (by omega) (by omega) (by omega) w
        rw [Nat.div_one,Nat.zero_add] at k
        exact k
theorem z2j {X n:Nat} (h0:X / 2 ^ n≠0) (h:X / 2 ^ n<256):1≤n+L8 (X / 2 ^ n)∧2 ^ (n+L8 (X / 2 ^ n) - 1)≤X∧X<2 ^ (n+L8 (X / 2 ^ n)):=by
  obtain ⟨a,b,c⟩:=zag _ h0 h
  have hp:=Nat.two_pow_pos n
  refine ⟨by omega,?_,?_⟩
  · rw [show n+L8 (X / 2 ^ n) - 1=n+(L8 (X / 2 ^ n) - 1) by omega,Nat.pow_add]
    exact Nat.le_trans (Nat.mul_le_mul_left _ b) (Nat.mul_div_le X (2 ^ n))
  · rw [Nat.pow_add,Nat.mul_comm]
    exact (Nat.div_lt_iff_lt_mul hp).1 c
theorem ze4 (X:Nat) (hX:X<2 ^ 64) (h0:X≠0):1≤LEN X∧2 ^ (LEN X - 1)≤X∧X<2 ^ LEN X:=by
  unfold LEN
  split
  · split
    · split
      · exact z2j (n:=56) (by omega) (by omega)
      · exact z2j (n:=48) (by omega) (by omega)
    · split
      · exact z2j (n:=40) (by omega) (by omega)
      · exact z2j (n:=32) (by omega) (by omega)
  · split
    · split
      · exact z2j (n:=24) (by omega) (by omega)
      · exact z2j (n:=16) (by omega) (by omega)
    · split
      · exact z2j (n:=8) (by omega) (by omega)
      · exact zag X h0 (by omega)
theorem ze5 (x r:Int) (w:World) (c:∀ w,Calls Tryz.prog 209 #[.int .u64 x] w fun e w'=>e=.returned (.int .i64 r)∧w=w') (h0:0≤r) (h1:r≤64):
    Calls Tryz.prog 158 #[.int .u64 x] w fun e w'=>e=.returned (.int .i64 (r - 1))∧w=w':=by
  go_enter Tryz.func158,Tryz.ntmps158
  go_wp2_with fail
  refine (c _).mono ?_
  rintro e w' ⟨rfl,rfl⟩
  go_wp2
  go_ret
  exact ⟨rfl,rfl⟩
end Go.Proofs.YtnmalbngdhjhjaaGreatDoor

namespace Go.Proofs.YtnmalbngdhjhjaaGreatDoor
open Go.RowKit
theorem zcD {h:Nat} (hh:h≤63):MASK ((h:Int)+1)=TREE h:=by
  unfold MASK TREE
  rw [show min ((h:Int)+1).toNat 64=h+1 by omega]
theorem ze6 (h r:Int) (w:World) (e:wrap64 (h+1)=h+1) (c:∀ w,Calls Tryz.prog 210 #[.int .i64 (h+1)] w fun e w'=>e=.returned (.int .u64 r)∧w=w'):
    Calls Tryz.prog 159 #[.int .i64 h] w fun e w'=>e=.returned (.int .u64 r)∧w=w':=by
  go_enter Tryz.func159,Tryz.ntmps159
  go_wp2_with fail
  refine (c _).mono ?_
  rintro e w' ⟨rfl,rfl⟩
  go_wp2
  go_ret
  exact ⟨rfl,rfl⟩
theorem z2M (h:Nat) (hh:h≤63) (w:World):Calls Tryz.prog 159 #[.int .i64 (h:Int)] w fun e w'=>e=.returned (.int .u64 ((TREE h:Nat):Int))∧w=w':=by
  refine ze6 h _ w (by unfold wrap64;omega) (fun w=>?_)
  rw [← zcD hh]
  exact zfa ((h:Int)+1) (by omega) w
theorem zcE (n c r:Int) (w:World) (e:IntKind.u64.wrap (IntKind.u64.wrap (n*2) - IntKind.u64.wrap c)=r) (k:∀ w,Calls Tryz.prog 156 #[.int .u64 n] w fun e w'=>e=.returned (.int .i64 c)∧w=w'):
    Calls Tryz.prog 95 #[.int .u64 n] w fun e w'=>e=.returned (.int .u64 r)∧w=w':=by
  go_enter Tryz.func95,Tryz.ntmps95
  go_wp2_with fail
  refine (k _).mono ?_
  rintro e w' ⟨rfl,rfl⟩
  go_wp2
  go_ret
  exact ⟨rfl,rfl⟩
theorem ze7 (n:Nat) (hn:n<2 ^ 63) (w:World):Calls Tryz.prog 95 #[.int .u64 (n:Int)] w fun e w'=>e=.returned (.int .u64 ((z01 n:Nat):Int))∧w=w':=by
  refine zcE n (POP n:Nat) _ w ?_ (fun w=>z9W n (by omega) w)
  rw [zcm (by omega),z0a,z0a,z0a]
  have:=z0A n
  have:=zf7 n
  omega
theorem ze8 (n r:Int) (w:World) (h':¬ 4611686018427387904≤n) (c:∀ w,Calls Tryz.prog 95 #[.int .u64 n] w fun e w'=>e=.returned (.int .u64 r)∧w=w'):
    Calls Tryz.prog 50 #[.int .u64 n] w fun e w'=>e=.returned (.tuple #[.int .u64 r,.bool true])∧w=w':=by
  go_enter Tryz.func50,Tryz.ntmps50
  go_wp2_with fail
  refine (c _).mono ?_
  rintro e w' ⟨rfl,rfl⟩
  go_wp2
  go_ret2
  exact ⟨rfl,rfl⟩
theorem leaf_ok (n:Nat) (hn:n<4611686018427387904) (w:World):Calls Tryz.prog 50 #[.int .u64 (n:Int)] w fun e w'=>e=.returned (.tuple #[.int .u64 ((z01 n:Nat):Int),.bool true])∧w=w':=
  ze8 n _ w (by omega) (fun w=>ze7 n (by omega) w)
theorem z4A (p h t:Int) (w:World) (c:∀ w,Calls Tryz.prog 159 #[.int .i64 h] w fun e w'=>e=.returned (.int .u64 t)∧w=w'):
    Calls Tryz.prog 160 #[.int .u64 p,.int .i64 h,.bool true] w fun e w'=>e=.returned (.int .u64 (IntKind.u64.wrap (p - t)))∧w=w':=by
  go_enter Tryz.func160,Tryz.ntmps160
  go_wp2_with fail
  refine (c _).mono ?_
  rintro e w' ⟨rfl,rfl⟩
  go_wp2
  go_ret
  exact ⟨rfl,rfl⟩
theorem z9j (p h t:Int) (w:World) (c:∀ w,Calls Tryz.prog 159 #[.int .i64 h] w fun e w'=>e=.returned (.int .u64 t)∧w=w'):
    Calls Tryz.prog 160 #[.int .u64 p,.int .i64 h,.bool false] w fun e w'=>e=.returned (.int .u64 (IntKind.u64.wrap (p+t)))∧w=w':=by
  go_enter Tryz.func160,Tryz.ntmps160
  go_wp2_with fail
  refine (c _).mono ?_
  rintro e w' ⟨rfl,rfl⟩
  go_wp2
  go_ret
  exact ⟨rfl,rfl⟩
end Go.Proofs.YtnmalbngdhjhjaaGreatDoor

namespace Go.Proofs.YtnmalbngdhjhjaaGreatDoor
open Go.RowKit
def PL:Nat→Nat→Nat→List Nat
  | 0,_,_=>[]
  | k+1,o,X=>if X % 2=1 then o :: PL k (o+1) (X / 2) else PL k (o+1) (X / 2)
def z0w (X:Nat):List Nat:=PL 64 0 X
theorem z6z:∀ k o,PL k o 0=[]
  | 0,_=>rfl
  | k+1,o=>by
    have:=z6z k (o+1)
    simpa [PL] using this
theorem z73:∀ k o X,(PL k o X).length=DSUM 1 k X
  | 0,_,_=>rfl
  | k+1,o,X=>by
    have ih:=z73 k (o+1) (X / 2)
    unfold PL DSUM
    rw [Nat.pow_one]
    split
    · rw [List.length_cons,ih];omega
    · rw [ih];omega
theorem z0G (X:Nat):(z0w X).length=POP X:=z73 64 0 X
theorem zah:∀ (t k o q:Nat),t<k→PL k o (2 ^ t*(2*q+1))=(o+t) :: PL k o (2 ^ (t+1)*q)
  | 0,0,_,_,h=>by omega
  | 0,k+1,o,q,_=>by
    have h1:(2 ^ 0*(2*q+1))=2*q+1:=by simp
    have h2:2 ^ (0+1)*q=2*q:=by simp
    rw [h1,h2]
    unfold PL
    rw [if_pos (by omega),if_neg (by omega),show (2*q+1) / 2=q by omega,show 2*q / 2=q by omega]
    rfl
  | t+1,0,_,_,h=>by omega
  | t+1,k+1,o,q,h=>by
    have ih:=zah t k (o+1) q (by omega)
    have h1:2 ^ (t+1)*(2*q+1)=2*(2 ^ t*(2*q+1)):=by rw [Nat.pow_succ,Nat.mul_comm (2 ^ t) 2,Nat.mul_assoc]
    have h2:2 ^ (t+1+1)*q=2*(2 ^ (t+1)*q):=by rw [Nat.pow_succ,Nat.mul_comm (2 ^ (t+1)) 2,Nat.mul_assoc]
    rw [h1,h2]
    generalize 2 ^ t*(2*q+1)=a at ih ⊢
    generalize 2 ^ (t+1)*q=b at ih ⊢
    unfold PL
    rw [if_neg (by omega),if_neg (by omega),show 2*a / 2=a by omega,show 2*b / 2=b by omega,ih,show o+(t+1)=o+1+t by omega]
theorem z63 (X:Nat):POP X≤64:=by
  have:∀ k X,DSUM 1 k X≤k:=fun k=>by
    induction k with
    | zero=>intro X;exact Nat.le_refl _
    | succ k ih=>
      intro X
      have:=ih (X / 2)
      unfold DSUM
      rw [Nat.pow_one]
      omega
  exact this 64 X
theorem ze9 (q:Nat):(2*q+1) &&& (2*q)=2*q:=by
  apply Nat.eq_of_testBit_eq
  intro i
  rw [Nat.testBit_and]
  cases i with
  | zero=>simp [Nat.testBit_zero]
  | succ i=>
    rw [Nat.testBit_succ,Nat.testBit_succ,show (2*q+1) / 2=q by omega,show 2*q / 2=q by omega]
    simp
theorem z8a:∀ (t q:Nat),2 ^ t*(2*q+1) &&& (2 ^ t*(2*q+1) - 1)=2 ^ (t+1)*q
  | 0,q=>by
    have h1:(2 ^ 0*(2*q+1))=2*q+1:=by simp
    have h2:2 ^ (0+1)*q=2*q:=by simp
    rw [h1,h2]
    exact ze9 q
  | t + 1,q=>by
    have ih:=z8a t q
    have h1:2 ^ (t+1)*(2*q+1)=2*(2 ^ t*(2*q+1)):=by rw [Nat.pow_succ,Nat.mul_comm (2 ^ t) 2,Nat.mul_assoc]
    have h2:2 ^ (t+1+1)*q=2*(2 ^ (t+1)*q):=by rw [Nat.pow_succ,Nat.mul_comm (2 ^ (t+1)) 2,Nat.mul_assoc]
    have hp:0<2 ^ t*(2*q+1):=Nat.mul_pos (Nat.two_pow_pos t) (by omega)
    rw [h1,h2,← ih]
    generalize 2 ^ t*(2*q+1)=a at hp ⊢
    apply Nat.eq_of_testBit_eq
    intro i
    rw [Nat.testBit_and]
    cases i with
    | zero=>simp [Nat.testBit_zero]
    | succ i=>
      rw [Nat.testBit_succ,Nat.testBit_succ,Nat.testBit_succ,show 2*a / 2=a by omega,show (2*a - 1) / 2=a - 1 by omega,← Nat.testBit_and,show 2*(a &&& (a - 1)) / 2=a &&& (a - 1) by omega]
end Go.Proofs.YtnmalbngdhjhjaaGreatDoor

namespace Go.Proofs.YtnmalbngdhjhjaaGreatDoor
open Go.RowKit
def z0W (l:List Nat):List Value:=l.map fun (x:Nat)=>Value.int .i64 (x:Int)
theorem z9k (l:List Nat) (x:Nat):z0W (l ++ [x])=z0W l ++ [.int .i64 (x:Int)]:=by simp [z0W]
theorem z3x:∃ i,Tryz.prog.info? 3=some i∧i.zero=some (.int .i64 0)∧i.size=1∧i.bytes=8:=by
  have h:(Tryz.prog.info? 3).map (fun i=>(i.zero,i.size,i.bytes))=some (some (.int .i64 0),1,8):=by kernel_rfl
  obtain ⟨i,hi,h⟩:=Option.map_eq_some_iff.1 h
  simp only [Prod.mk.injEq] at h
  exact ⟨i,hi,h.1,h.2.1,h.2.2⟩
theorem zfw {ops:Array Oper} {rest:List Oper} {o:Oper} {a:Act} {Q:Exit→Act→World→Prop} (w:World) (hgd:o.guard=none) (s x:Operand)
    (ho:o.op=.call {callee:=.builtin .append,args:=#[s,x],argTypes:=#[220,220]})
    (base:Nat) (v:Value) (n:Nat) (xs:List Nat) (hs:a.eval s=v) (hown:w.ownsRow base 3 1 v n (z0W xs))
    (b c:Nat) (y:Nat) (hx:a.eval x=.slice (some ⟨b,0,none⟩) 1 c) (hc:w.cell? ⟨b,0,none⟩=some (.int .i64 (y:Int)))
    (hb:n≤1000) (hbase:base≤w.heap.size)
    (h:∀ g cap w',w'.ownsRow base 3 1 (.slice (some ⟨g,0,none⟩) (n+1) cap) (n+1) (z0W (xs ++ [y]))→w.grownBy w' v.ownBlock→g<w'.heap.size→wpList Tryz.prog ops Q rest (a.put o.dst (.slice (some ⟨g,0,none⟩) (n+1) cap)) w'):wpList Tryz.prog ops Q (o :: rest) a w:=by
  obtain ⟨i,hi,hz,hs1,hby⟩:=z3x
  refine wpList_append_lies w hgd s x 220 ho base 3 i (.int .i64 0) 1 8 Tryz.underlying220 hi hz hs1 hby rfl (by decide) v n (z0W xs) hs hown ⟨b,0,none⟩ 1 c [.int .i64 (y:Int)] hx rfl ?_ (fun u hu=>by simp at hu;subst hu;rfl) (by decide) (by simp only [maxLen];omega) (by omega) hbase w.heap.size rfl ?_
  · intro j u hj
    cases j with
    | zero=>
      simp only [List.getElem?_cons_zero,Option.some.injEq] at hj
      subst hj
      exact hc
    | succ j=>simp at hj
  · intro g cap w' h1 h2 _ h4
    rw [← z9k] at h1
    exact h g cap w' h1 h2 h4
theorem zcF (n:Nat) (hn:n≤64) (w:World):∃ cur:Array Value,cur.size=n∧(Instr.makeSlice 220 (.int .i64 0) (.int .i64 (n:Int))).run Tryz.prog w=.ok (.slice (some ⟨w.heap.size,0,none⟩) 0 n) (w.alloc (.cells cur 3)):=by
  obtain ⟨i,hi,hz,hs1,hby⟩:=z3x
  have h:=run_make (P:=Tryz.prog) w 220 3 i (.int .i64 0) Tryz.underlying220 hi hz .i64 .i64 0 n (by omega) (by omega) (by rw [hby];omega) (by omega)
  refine ⟨_,?_,h⟩
  rw [size_madeCells,hs1]
  omega
theorem Tabled.below {w w':World} (h:Tabled w) (_:0<w.heap.size) (hb:Below w.heap.size w w'):Tabled w':=fun i hi=>(hb.cell (by exact World.block_lt_of_cell? _ _ (h i hi))).trans (h i hi)
theorem zfx (X:Nat) (hX:X<2 ^ 64) (w:World) (hT:Tabled w) (h0:0<w.heap.size):Calls Tryz.prog 177 #[.int .u64 (X:Int)] w fun e w'=>
    ∃ g cap,e=.returned (.slice (some ⟨g,0,none⟩) (POP X) cap)∧w'.ownsRow w.heap.size 3 1 (.slice (some ⟨g,0,none⟩) (POP X) cap) (POP X) (z0W (z0w X))∧g<w'.heap.size∧Below w.heap.size w w':=by
  obtain ⟨cur,hcs,hmk⟩:=zcF (POP X) (z63 X) w
  have HX:Aside (X<2 ^ 64):=hX
  have HT:Aside (Tabled w∧0<w.heap.size∧cur.size=POP X):=⟨hT,h0,hcs⟩
  have c1:=z9W X hX
  clear hX hT h0 hcs
  generalize hp:POP X=p at *
  have HP:Aside (POP X=p):=hp
  clear hp
  go_enter Tryz.func177,Tryz.ntmps177
  go_wp2_with fail
  refine (c1 _).mono ?_
  rintro e w' ⟨rfl,rfl⟩
  clear c1
  go_wp2
  go_loopg [0,3] p (fun g s0 s2 wx=>∃ (x:Nat),Aside (∃ l:List Nat,l ++ z0w x=z0w X∧x<2 ^ 64∧g=POP x∧wx.ownsRow w.heap.size 3 1 s2 l.length (z0W l)∧(∃ b cap,s2=.slice (some ⟨b,0,none⟩) l.length cap∧b<wx.heap.size)∧Below w.heap.size w wx)∧s0=.int .u64 (x:Int))
  case atStart=>exact ⟨X,⟨[],rfl,HX.out,HP.out.symm,World.ownsRow_made w cur p (Nat.le_refl _) (by have:=z63 X;rw [HP.out] at this;simp only [maxLen];omega) (by rw [HT.out.2.2];omega),⟨_,_,rfl,by simp⟩,(Below.refl _ _).alloc (Nat.le_refl _) _⟩,rfl⟩
  case round=>
    obtain ⟨x,A,rfl⟩:=hrel
    clear hmk
    cases hx:((x:Int) == 0) with
    | true=>
      obtain ⟨l,hl,hxl,hg,hown,⟨b,cap,hs,hb⟩,hbel⟩:=A.out
      have hx0:x=0:=by simpa using hx
      have hl2:l=z0w X:=by
        rw [hx0,show z0w 0=[] from z6z 64 0,List.append_nil] at hl
        exact hl
      have hlen:l.length=p:=by rw [hl2,z0G,HP.out]
      subst hs
      rw [hlen,hl2] at hown
      have R:Aside (wr.ownsRow w.heap.size 3 1 (.slice (some ⟨b,0,none⟩) p cap) p (z0W (z0w X))∧b<wr.heap.size∧Below w.heap.size w wr∧l.length=p):=⟨hown,hb,hbel,hlen⟩
      clear A hl hxl hg hown hb hbel hx0 hl2 hlen HX HT HP
      go_wp2
      go_ret
      obtain ⟨h1,h2,h3,h4⟩:=R.out
      refine ⟨b,cap,?_,h1,h2,h3⟩
      rw [← h4]
      rfl
    | false=>
      obtain ⟨l,hl,hxl,hg,hown,⟨b,cap,hs,hb⟩,hbel⟩:=A.out
      have hx0:x≠0:=by simpa using hx
      obtain ⟨t,q,e⟩:=zcu x hx0
      have ht:t<64:=(zaf hxl e).2
      have cl:=zfv x t wr (zhe x t q hxl e wr (HT.out.1.below HT.out.2.1 hbel))
      obtain ⟨y,hy⟩:∃ y,y=2 ^ (t+1)*q:=⟨_,rfl⟩
      have hya:x &&& (x - 1)=y:=by rw [e,hy];exact z8a t q
      have hstep:z0w x=t :: z0w y:=by
        rw [e,hy]
        have:=zah t 64 0 q ht
        rw [Nat.zero_add] at this
        exact this
      have hand:bits .and .u64 (x:Int) (IntKind.u64.wrap ((x:Int) - 1))=(y:Int):=by
        have hm:IntKind.u64.wrap ((x:Int) - 1)=((x - 1:Nat):Int):=by rw [z0a];omega
        rw [hm,z4h hxl (by omega),hya]
      have hyx:y<2 ^ 64:=Nat.lt_of_le_of_lt (by rw [← hya];exact Nat.and_le_left) hxl
      have hlen:l.length≤1000:=by
        have h1:=congrArg List.length hl
        have h2:=z63 X
        rw [List.length_append,z0G X] at h1
        omega
      have hPy:POP x=POP y+1:=by
        rw [← z0G,← z0G,hstep,List.length_cons]
      have R:Aside ((l ++ [t]) ++ z0w y=z0w X∧y<2 ^ 64∧gk=POP y+1∧wr.ownsRow w.heap.size 3 1 u3 l.length (z0W l)∧Below w.heap.size w wr∧l.length≤1000):=⟨by rw [List.append_assoc,List.singleton_append,← hstep];exact hl,hyx,by rw [hg,hPy],hown,hbel,hlen⟩
      clear A hl hxl hg hown hs hb hbel hx0 e ht hy hya hstep hyx hlen hPy HX HT HP
      go_wp2_with fail
      refine cl.mono ?_
      rintro e w' ⟨rfl,rfl⟩
      clear cl
      go_wp2_with (at_builtin;refine zfw _ rfl (.tmp 13) (.tmp 16) rfl w.heap.size u3 l.length l rfl (R.out.2.2.2.1.alloc _) wr.heap.size 1 t rfl (by rw [World.cell?_alloc_at _ _ _ _ rfl];rfl) R.out.2.2.2.2.2 (by have:=R.out.2.2.2.2.1.size;simp;omega) ?_;intro g cap w1 hown hgrow hg)
      obtain ⟨r1,r2,r3,r4,r5,r6⟩:=R.out
      have R2:Aside ((l ++ [t]) ++ z0w y=z0w X∧y<2 ^ 64∧gk=POP y+1∧w1.ownsRow w.heap.size 3 1 (.slice (some ⟨g,0,none⟩) (l.length+1) cap) (l.length+1) (z0W (l ++ [t]))∧g<w1.heap.size∧Below w.heap.size w w1):=⟨r1,r2,r3,hown,hg,(r5.alloc r5.size _).grown hgrow (by have:=r5.size;simp;omega) (fun k e=>(r4.lt k e).1)⟩
      clear hown hgrow hg R r1 r2 r3 r4 r5 r6
      go_wp2
      go_roundg (gk - 1)
      case measure=>have:=R2.out.2.2.1;omega
      case rel=>
        obtain ⟨r1,r2,r3,r4,r5,r6⟩:=R2.out
        have e:(l ++ [t]).length=l.length+1:=by simp
        exact ⟨y,⟨l ++ [t],r1,r2,by omega,by rw [e];exact r4,⟨g,cap,by rw [e],r5⟩,r6⟩,by first | rfl | (rw [hand])⟩
end Go.Proofs.YtnmalbngdhjhjaaGreatDoor

namespace Go.Proofs.YtnmalbngdhjhjaaGreatDoor
open Go.RowKit
def SUMP (l:List Nat):Nat:=(l.map fun i=>2 ^ i).sum
theorem z8b:∀ k o X,∀ i∈PL k o X,o≤i∧i<o+k
  | 0,_,_,i,h=>by simp [PL] at h
  | k + 1,o,X,i,h=>by
    have ih:=z8b k (o+1) (X / 2) i
    unfold PL at h
    split at h
    · rcases List.mem_cons.1 h with rfl | h
      · omega
      · have:=ih h
        omega
    · have:=ih h
      omega
def z3W (X i:Nat):Nat:=(z0w X).getD i 0
theorem z5r {X i:Nat} (h:i<POP X):(z0w X)[i]?=some (z3W X i):=by
  rw [← z0G] at h
  unfold z3W
  rw [List.getD_eq_getElem?_getD,List.getElem?_eq_getElem h]
  rfl
theorem zea {X i:Nat} (h:i<POP X):z3W X i≤63:=by
  have:=z8b 64 0 X _ (List.mem_of_getElem? (z5r h))
  omega
def PART (X i:Nat):Nat:=SUMP ((z0w X).take i)
theorem zcG {w:World} {base g n cap:Nat} {X:Nat} (h:w.ownsRow base 3 1 (.slice (some ⟨g,0,none⟩) n cap) n (z0W (z0w X))) (i:Nat) (hi:i<POP X):w.cell? ⟨g,i,none⟩=some (.int .i64 (z3W X i:Nat)):=by
  have hlen:(z0w X).length=n:=by have:=h.1;simpa [z0W] using this
  rw [z0G] at hlen
  rw [h.cellAt i (by omega)]
  unfold z0W
  rw [List.getElem?_map,z5r hi]
  rfl
end Go.Proofs.YtnmalbngdhjhjaaGreatDoor

namespace Go.Proofs.YtnmalbngdhjhjaaGreatDoor
def UP (h n:Nat):List Nat:=PL (64 - h) h (n / 2 ^ h)
theorem zai {h n:Nat} (hh:h<64):UP h n=if n / 2 ^ h % 2=1 then h :: UP (h+1) n else UP (h+1) n:=by
  unfold UP
  rw [show 64 - h=(64 - (h+1))+1 by omega,PL,Nat.div_div_eq_div_mul,← Nat.pow_succ]
theorem zfy (n:Nat):UP 0 n=z0w n:=by
  unfold UP z0w
  simp
theorem zgB {h n:Nat} (hn:n<2 ^ h):UP h n=[]:=by
  unfold UP
  rw [Nat.div_eq_of_lt hn,z6z]
def HS (h n:Nat):List Nat:=(UP h n).reverse
theorem z3y {h n:Nat} (hh:h<64) (hb:n / 2 ^ h % 2=1):HS h n=HS (h+1) n ++ [h]:=by
  unfold HS
  rw [zai hh,if_pos hb,List.reverse_cons]
theorem z2Z {h n:Nat} (hh:h<64) (hb:¬ n / 2 ^ h % 2=1):HS h n=HS (h+1) n:=by
  unfold HS
  rw [zai hh,if_neg hb]
theorem z8c {h n:Nat} (hn:n<2 ^ h):HS h n=[]:=by
  unfold HS
  rw [zgB hn]
  rfl
theorem zfz (n:Nat):HS 0 n=(z0w n).reverse:=by
  unfold HS
  rw [zfy]
theorem z4B {n:Nat} (hn:n<2 ^ 64):∀ h,h≤64→(HS h n).length=PC (n / 2 ^ h):=by
  have key:∀ d h,h+d=64→(HS h n).length=PC (n / 2 ^ h):=by
    intro d
    induction d with
    | zero=>
      intro h e
      obtain rfl:h=64:=by omega
      rw [z8c hn,Nat.div_eq_of_lt hn,z0Z]
      rfl
    | succ d ih=>
      intro h e
      have ih:=ih (h+1) (by omega)
      rw [z0C,Nat.div_div_eq_div_mul,← Nat.pow_succ,← ih]
      by_cases hb:n / 2 ^ h % 2=1
      · rw [z3y (by omega) hb,List.length_append,List.length_singleton]
        omega
      · rw [z2Z (by omega) hb]
        omega
  intro h hh
  exact key (64 - h) h (by omega)
theorem z74 {n:Nat}:∀ h x,h≤64→x∈HS h n→h≤x∧x<64∧n / 2 ^ x % 2=1:=by
  have key:∀ d h,h+d=64→∀ x,x∈HS h n→h≤x∧x<64∧n / 2 ^ x % 2=1:=by
    intro d
    induction d with
    | zero=>
      intro h e x hx
      obtain rfl:h=64:=by omega
      simp [HS,UP,PL] at hx
    | succ d ih=>
      intro h e x hx
      by_cases hb:n / 2 ^ h % 2=1
      · rw [z3y (by omega) hb,List.mem_append,List.mem_singleton] at hx
        rcases hx with hx | rfl
        · have:=ih (h+1) (by omega) x hx
          exact ⟨by omega,this.2⟩
        · exact ⟨Nat.le_refl _,by omega,hb⟩
      · rw [z2Z (by omega) hb] at hx
        have:=ih (h+1) (by omega) x hx
        exact ⟨by omega,this.2⟩
  intro h x hh
  exact key (64 - h) h (by omega) x
def PKP (n h:Nat):Nat:=PLC h (2*(n / 2 ^ (h+1)))
def z3i (n:Nat):List Nat:=(HS 0 n).map (PKP n)
theorem z10 (n h:Nat):n / 2 ^ (h+1)=n / 2 ^ h / 2:=by rw [Nat.div_div_eq_div_mul,← Nat.pow_succ]
theorem z3X (m h:Nat):z01 ((2*m+1)*2 ^ h)=z01 (2*m*2 ^ h)+TREE h:=by
  have h1:=z0A ((2*m+1)*2 ^ h)
  have h2:=z0A (2*m*2 ^ h)
  rw [z2h,z3w,Nat.add_mul,Nat.one_mul] at h1
  rw [z2h,z4S] at h2
  have h3:=z1M h
  rw [Nat.pow_succ] at h3
  rw [Nat.add_mul,Nat.one_mul]
  unfold TREE
  rw [Nat.pow_succ]
  omega
theorem z64 {n h:Nat} (hb:n / 2 ^ h % 2=1):n / 2 ^ h=2*(n / 2 ^ (h+1))+1:=by
  rw [z10]
  omega
theorem z8d {n h:Nat} (hb:¬ n / 2 ^ h % 2=1):n / 2 ^ h=2*(n / 2 ^ (h+1)):=by
  rw [z10]
  omega
theorem z0X (m h:Nat):2*m*2 ^ h=m*2 ^ (h+1):=by
  rw [Nat.pow_succ,Nat.mul_comm 2 m,Nat.mul_assoc,Nat.mul_comm 2]
def ST (l:List Nat):Nat × List Nat:=l.foldl (fun s h=>((s.1+TREE h) % 2 ^ 64,s.2 ++ [((s.1+TREE h) % 2 ^ 64+(2 ^ 64 - 1)) % 2 ^ 64])) (0,[])
theorem z6A (l:List Nat) (h:Nat):ST (l ++ [h])=(((ST l).1+TREE h) % 2 ^ 64,(ST l).2 ++ [(((ST l).1+TREE h) % 2 ^ 64+(2 ^ 64 - 1)) % 2 ^ 64]):=by
  unfold ST
  rw [List.foldl_append]
  rfl
theorem z4C {n:Nat} (hn:n≤4611686018427387904):z01 n≤9223372036854775807:=by
  rw [← zb6]
  exact z3T hn
theorem zhf {n:Nat} (hn:n≤4611686018427387904):∀ h,h≤64→ST (HS h n)=(z01 (n / 2 ^ h*2 ^ h),(HS h n).map (PKP n)):=by
  have key:∀ d h,h+d=64→ST (HS h n)=(z01 (n / 2 ^ h*2 ^ h),(HS h n).map (PKP n)):=by
    intro d
    induction d with
    | zero=>
      intro h e
      obtain rfl:h=64:=by omega
      rw [z8c (by omega),Nat.div_eq_of_lt (by omega),Nat.zero_mul,z26]
      rfl
    | succ d ih=>
      intro h e
      have ih:=ih (h+1) (by omega)
      by_cases hb:n / 2 ^ h % 2=1
      · have e1:=z64 hb
        have h2:z01 (n / 2 ^ h*2 ^ h)=z01 (n / 2 ^ (h+1)*2 ^ (h+1))+TREE h:=by
          rw [e1,z3X,z0X]
        have h3:z01 (n / 2 ^ h*2 ^ h)≤9223372036854775807:=z4C (Nat.le_trans (Nat.div_mul_le_self _ _) hn)
        have h4:=z1M h
        have hs:(z01 (n / 2 ^ (h+1)*2 ^ (h+1))+TREE h) % 2 ^ 64=z01 (n / 2 ^ h*2 ^ h):=by
          rw [← h2]
          omega
        have hp:(z01 (n / 2 ^ h*2 ^ h)+(2 ^ 64 - 1)) % 2 ^ 64=PKP n h:=by
          unfold PKP PLC
          rw [z0X]
          unfold TREE at h2
          omega
        rw [z3y (by omega) hb,z6A,ih]
        dsimp only
        rw [hs,hp,List.map_append]
        rfl
      · rw [z2Z (by omega) hb,ih,z8d hb,z0X]
  intro h hh
  exact key (64 - h) h (by omega)
theorem zgC {n:Nat} (hn:n≤4611686018427387904):ST (HS 0 n)=(z01 n,z3i n):=by
  have:=zhf hn 0 (by omega)
  unfold z3i
  simpa using this
def RISE (i n:Nat):Nat:=LEN (i ^^^ n) - 1
def SIB (k:Nat):Nat:=if k % 2=1 then k - 1 else k+1
theorem Node.sib {h k:Nat} (a:Node h k) (hh:h<62):Node h (SIB k):=by
  refine ⟨a.1,?_⟩
  have h1:=a.2
  rw [show 62 - h=(62 - (h+1))+1 by omega,Nat.pow_succ] at h1 ⊢
  unfold SIB
  split <;> omega
theorem Node.peak {n h:Nat} (hn:n≤4611686018427387904) (hb:n / 2 ^ h % 2=1):Node h (2*(n / 2 ^ (h+1))):=by
  have h62:h≤62:=by
    rcases Nat.lt_or_ge 62 h with h1 | h1
    · have:2 ^ 63≤2 ^ h:=Nat.pow_le_pow_right (by decide) h1
      rw [Nat.div_eq_of_lt (by omega)] at hb
      omega
    · exact h1
  refine ⟨h62,?_⟩
  have h1:n / 2 ^ h≤2 ^ (62 - h):=by
    have:n / 2 ^ h≤2 ^ 62 / 2 ^ h:=Nat.div_le_div_right (by simpa using hn)
    rw [Nat.pow_div h62 (by decide)] at this
    exact this
  rw [z64 hb] at h1
  omega
end Go.Proofs.YtnmalbngdhjhjaaGreatDoor
