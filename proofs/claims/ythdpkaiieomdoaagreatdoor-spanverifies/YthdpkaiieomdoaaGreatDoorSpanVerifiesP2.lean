/- Texts of SpanVerifies, one behind the other: NumHighCalls, PosCalls, NumPlaces, NumListCalls, NumListPlain, PosPeaksPlain, PosSpot. -/
import Derived.WalkKit
import Derived.WalkLawsBesides
import Derived.Deep.LoopGhost
import Derived.Deep.OwnRows
import Derived.Deep.AppendLies
import Derived.Test.YthdpkaiieomdoaaGreatDoorSpanVerifiesP1
namespace Go.Proofs.YthdpkaiieomdoaaGreatDoor
open Go.RowKit
def LTAB:ByteArray:=⟨#[0,1,2,2,3,3,3,3,4,4,4,4,4,4,4,4,5,5,5,5,5,5,5,5,5,5,5,5,5,5,5,5,6,6,6,6,6,6,6,6,6,6,6,6,6,6,6,6,6,6,6,6,6,6,6,6,6,6,6,6,6,6,6,6,7,7,7,7,7,7,7,7,7,7,7,7,7,7,7,7,7,7,7,7,7,7,7,7,7,7,7,7,7,7,7,7,7,7,7,7,7,7,7,7,7,7,7,7,7,7,7,7,7,7,7,7,7,7,7,7,7,7,7,7,7,7,7,7,8,8,8,8,8,8,8,8,8,8,8,8,8,8,8,8,8,8,8,8,8,8,8,8,8,8,8,8,8,8,8,8,8,8,8,8,8,8,8,8,8,8,8,8,8,8,8,8,8,8,8,8,8,8,8,8,8,8,8,8,8,8,8,8,8,8,8,8,8,8,8,8,8,8,8,8,8,8,8,8,8,8,8,8,8,8,8,8,8,8,8,8,8,8,8,8,8,8,8,8,8,8,8,8,8,8,8,8,8,8,8,8,8,8,8,8,8,8,8,8,8,8,8,8,8,8,8,8]⟩
set_option maxRecDepth 100000 in
theorem za0 (x v:Int) (w:World) (h0:(¬ 4294967296≤x)) (h1:(¬ 65536≤x)) (h2:(¬ 256≤x)) (hx:0≤x) (hx':x<256)
    (hv:Aside (∀ h:(x).toNat<LTAB.size,wrap64 (wrap64 (LTAB[(x).toNat]'h).toNat)=v)):Calls Tryz.prog 179 #[.int .u64 x] w fun e w'=>e=.returned (.int .i64 v)∧w=w':=by
  go_enter Tryz.func179,Tryz.ntmps179
  go_wp2
  go_ret
  exact ⟨congrArg (fun z=>Ending.returned (Value.int .i64 z)) (hv.out _),rfl⟩
set_option maxRecDepth 100000 in
theorem za1 (x v:Int) (w:World) (h0:(¬ 4294967296≤x)) (h1:(¬ 65536≤x)) (h2:(256≤x)) (hx:0≤x / 256) (hx':x / 256<256)
    (hv:Aside (∀ h:(x / 256).toNat<LTAB.size,wrap64 (8+wrap64 (LTAB[(x / 256).toNat]'h).toNat)=v)):Calls Tryz.prog 179 #[.int .u64 x] w fun e w'=>e=.returned (.int .i64 v)∧w=w':=by
  go_enter Tryz.func179,Tryz.ntmps179
  go_wp2
  go_ret
  exact ⟨congrArg (fun z=>Ending.returned (Value.int .i64 z)) (hv.out _),rfl⟩
set_option maxRecDepth 100000 in
theorem za2 (x v:Int) (w:World) (h0:(¬ 4294967296≤x)) (h1:(65536≤x)) (h2:(¬ 256≤x / 65536)) (hx:0≤x / 65536) (hx':x / 65536<256)
    (hv:Aside (∀ h:(x / 65536).toNat<LTAB.size,wrap64 (16+wrap64 (LTAB[(x / 65536).toNat]'h).toNat)=v)):Calls Tryz.prog 179 #[.int .u64 x] w fun e w'=>e=.returned (.int .i64 v)∧w=w':=by
  go_enter Tryz.func179,Tryz.ntmps179
  go_wp2
  go_ret
  exact ⟨congrArg (fun z=>Ending.returned (Value.int .i64 z)) (hv.out _),rfl⟩
set_option maxRecDepth 100000 in
theorem za3 (x v:Int) (w:World) (h0:(¬ 4294967296≤x)) (h1:(65536≤x)) (h2:(256≤x / 65536)) (hx:0≤x / 65536 / 256) (hx':x / 65536 / 256<256)
    (hv:Aside (∀ h:(x / 65536 / 256).toNat<LTAB.size,wrap64 (24+wrap64 (LTAB[(x / 65536 / 256).toNat]'h).toNat)=v)):Calls Tryz.prog 179 #[.int .u64 x] w fun e w'=>e=.returned (.int .i64 v)∧w=w':=by
  go_enter Tryz.func179,Tryz.ntmps179
  go_wp2
  go_ret
  exact ⟨congrArg (fun z=>Ending.returned (Value.int .i64 z)) (hv.out _),rfl⟩
set_option maxRecDepth 100000 in
theorem za4 (x v:Int) (w:World) (h0:(4294967296≤x)) (h1:(¬ 65536≤x / 4294967296)) (h2:(¬ 256≤x / 4294967296)) (hx:0≤x / 4294967296) (hx':x / 4294967296<256)
    (hv:Aside (∀ h:(x / 4294967296).toNat<LTAB.size,wrap64 (32+wrap64 (LTAB[(x / 4294967296).toNat]'h).toNat)=v)):Calls Tryz.prog 179 #[.int .u64 x] w fun e w'=>e=.returned (.int .i64 v)∧w=w':=by
  go_enter Tryz.func179,Tryz.ntmps179
  go_wp2
  go_ret
  exact ⟨congrArg (fun z=>Ending.returned (Value.int .i64 z)) (hv.out _),rfl⟩
set_option maxRecDepth 100000 in
theorem za5 (x v:Int) (w:World) (h0:(4294967296≤x)) (h1:(¬ 65536≤x / 4294967296)) (h2:(256≤x / 4294967296)) (hx:0≤x / 4294967296 / 256) (hx':x / 4294967296 / 256<256)
    (hv:Aside (∀ h:(x / 4294967296 / 256).toNat<LTAB.size,wrap64 (40+wrap64 (LTAB[(x / 4294967296 / 256).toNat]'h).toNat)=v)):Calls Tryz.prog 179 #[.int .u64 x] w fun e w'=>e=.returned (.int .i64 v)∧w=w':=by
  go_enter Tryz.func179,Tryz.ntmps179
  go_wp2
  go_ret
  exact ⟨congrArg (fun z=>Ending.returned (Value.int .i64 z)) (hv.out _),rfl⟩
set_option maxRecDepth 100000 in
theorem za6 (x v:Int) (w:World) (h0:(4294967296≤x)) (h1:(65536≤x / 4294967296)) (h2:(¬ 256≤x / 4294967296 / 65536)) (hx:0≤x / 4294967296 / 65536) (hx':x / 4294967296 / 65536<256)
    (hv:Aside (∀ h:(x / 4294967296 / 65536).toNat<LTAB.size,wrap64 (48+wrap64 (LTAB[(x / 4294967296 / 65536).toNat]'h).toNat)=v)):Calls Tryz.prog 179 #[.int .u64 x] w fun e w'=>e=.returned (.int .i64 v)∧w=w':=by
  go_enter Tryz.func179,Tryz.ntmps179
  go_wp2
  go_ret
  exact ⟨congrArg (fun z=>Ending.returned (Value.int .i64 z)) (hv.out _),rfl⟩
set_option maxRecDepth 100000 in
theorem za7 (x v:Int) (w:World) (h0:(4294967296≤x)) (h1:(65536≤x / 4294967296)) (h2:(256≤x / 4294967296 / 65536)) (hx:0≤x / 4294967296 / 65536 / 256) (hx':x / 4294967296 / 65536 / 256<256)
    (hv:Aside (∀ h:(x / 4294967296 / 65536 / 256).toNat<LTAB.size,wrap64 (56+wrap64 (LTAB[(x / 4294967296 / 65536 / 256).toNat]'h).toNat)=v)):Calls Tryz.prog 179 #[.int .u64 x] w fun e w'=>e=.returned (.int .i64 v)∧w=w':=by
  go_enter Tryz.func179,Tryz.ntmps179
  go_wp2
  go_ret
  exact ⟨congrArg (fun z=>Ending.returned (Value.int .i64 z)) (hv.out _),rfl⟩
def L8 (i:Nat):Nat:=if i=0 then 0 else if i<2 then 1 else if i<4 then 2 else if i<8 then 3 else if i<16 then 4 else if i<32 then 5 else if i<64 then 6 else if i<128 then 7 else 8
set_option maxRecDepth 100000 in
theorem zcA:∀ i,i<256→(([0,1,2,2,3,3,3,3,4,4,4,4,4,4,4,4,5,5,5,5,5,5,5,5,5,5,5,5,5,5,5,5,6,6,6,6,6,6,6,6,6,6,6,6,6,6,6,6,6,6,6,6,6,6,6,6,6,6,6,6,6,6,6,6,7,7,7,7,7,7,7,7,7,7,7,7,7,7,7,7,7,7,7,7,7,7,7,7,7,7,7,7,7,7,7,7,7,7,7,7,7,7,7,7,7,7,7,7,7,7,7,7,7,7,7,7,7,7,7,7,7,7,7,7,7,7,7,7,8,8,8,8,8,8,8,8,8,8,8,8,8,8,8,8,8,8,8,8,8,8,8,8,8,8,8,8,8,8,8,8,8,8,8,8,8,8,8,8,8,8,8,8,8,8,8,8,8,8,8,8,8,8,8,8,8,8,8,8,8,8,8,8,8,8,8,8,8,8,8,8,8,8,8,8,8,8,8,8,8,8,8,8,8,8,8,8,8,8,8,8,8,8,8,8,8,8,8,8,8,8,8,8,8,8,8,8,8,8,8,8,8,8,8,8,8,8,8,8,8,8,8,8,8,8,8,8]:List UInt8).getD i 0).toNat=L8 i:=by decide +kernel
set_option maxRecDepth 100000 in
theorem z1S (i:Nat) (h:i<LTAB.size):(LTAB[i]'h).toNat=L8 i:=by
  have h2:i<256:=h
  have:=zcA i h2
  rw [List.getD_eq_getElem?_getD,List.getElem?_eq_getElem (by exact h)] at this
  exact this
theorem z2f (i:Nat):L8 i≤8:=by unfold L8;repeat' split <;> try omega
theorem z9n (i:Nat) (h0:i≠0) (h:i<256):1≤L8 i∧2 ^ (L8 i - 1)≤i∧i<2 ^ L8 i:=by
  unfold L8
  repeat' split
  all_goals (try omega)
theorem z27 (n i:Nat) (hn:n≤56):wrap64 ((n:Int)+wrap64 ((L8 i:Nat):Int))=((n+L8 i:Nat):Int):=by
  have:=z2f i
  unfold wrap64
  omega
theorem zcB (i:Nat):wrap64 (wrap64 ((L8 i:Nat):Int))=((L8 i:Nat):Int):=by
  have:=z2f i
  unfold wrap64
  omega
def LEN (X:Nat):Nat:=
  if 4294967296≤X then (if 281474976710656≤X then (if 72057594037927936≤X then 56+L8 (X / 72057594037927936) else 48+L8 (X / 281474976710656)) else (if 1099511627776≤X then 40+L8 (X / 1099511627776) else 32+L8 (X / 4294967296)))
  else (if 65536≤X then (if 16777216≤X then 24+L8 (X / 16777216) else 16+L8 (X / 65536)) else (if 256≤X then 8+L8 (X / 256) else L8 X))
theorem zb5 (X:Nat) (hX:X<2 ^ 64) (h0:¬ 4294967296≤X) (h1:¬ 65536≤X) (h2:¬ 256≤X) (w:World):Calls Tryz.prog 179 #[.int .u64 (X:Int)] w fun e w'=>e=.returned (.int .i64 ((0+L8 (X / 1):Nat):Int))∧w=w':=by
  have e:((X:Int)).toNat=X / 1:=by omega
  refine za0 X _ w (by omega) (by omega) (by omega) (by omega) (by omega) fun h=>?_
  rw [z1S _ h,e]
  exact (zcB _).trans (by rw [Nat.zero_add])
theorem zb6 (X:Nat) (hX:X<2 ^ 64) (h0:¬ 4294967296≤X) (h1:¬ 65536≤X) (h2:256≤X) (w:World):Calls Tryz.prog 179 #[.int .u64 (X:Int)] w fun e w'=>e=.returned (.int .i64 ((8+L8 (X / 256):Nat):Int))∧w=w':=by
  have e:((X:Int) / 256).toNat=X / 256:=by omega
  refine za1 X _ w (by omega) (by omega) (by omega) (by omega) (by omega) fun h=>?_
  rw [z1S _ h,e]
  exact z27 8 _ (by decide)
theorem zb7 (X:Nat) (hX:X<2 ^ 64) (h0:¬ 4294967296≤X) (h1:65536≤X) (h2:¬ 16777216≤X) (w:World):Calls Tryz.prog 179 #[.int .u64 (X:Int)] w fun e w'=>e=.returned (.int .i64 ((16+L8 (X / 65536):Nat):Int))∧w=w':=by
  have e:((X:Int) / 65536).toNat=X / 65536:=by omega
  refine za2 X _ w (by omega) (by omega) (by omega) (by omega) (by omega) fun h=>?_
  rw [z1S _ h,e]
  exact z27 16 _ (by decide)
theorem zb8 (X:Nat) (hX:X<2 ^ 64) (h0:¬ 4294967296≤X) (h1:65536≤X) (h2:16777216≤X) (w:World):Calls Tryz.prog 179 #[.int .u64 (X:Int)] w fun e w'=>e=.returned (.int .i64 ((24+L8 (X / 16777216):Nat):Int))∧w=w':=by
  have e:((X:Int) / 65536 / 256).toNat=X / 16777216:=by omega
  refine za3 X _ w (by omega) (by omega) (by omega) (by omega) (by omega) fun h=>?_
  rw [z1S _ h,e]
  exact z27 24 _ (by decide)
theorem zb9 (X:Nat) (hX:X<2 ^ 64) (h0:4294967296≤X) (h1:¬ 281474976710656≤X) (h2:¬ 1099511627776≤X) (w:World):Calls Tryz.prog 179 #[.int .u64 (X:Int)] w fun e w'=>e=.returned (.int .i64 ((32+L8 (X / 4294967296):Nat):Int))∧w=w':=by
  have e:((X:Int) / 4294967296).toNat=X / 4294967296:=by omega
  refine za4 X _ w (by omega) (by omega) (by omega) (by omega) (by omega) fun h=>?_
  rw [z1S _ h,e]
  exact z27 32 _ (by decide)
theorem zba (X:Nat) (hX:X<2 ^ 64) (h0:4294967296≤X) (h1:¬ 281474976710656≤X) (h2:1099511627776≤X) (w:World):Calls Tryz.prog 179 #[.int .u64 (X:Int)] w fun e w'=>e=.returned (.int .i64 ((40+L8 (X / 1099511627776):Nat):Int))∧w=w':=by
  have e:((X:Int) / 4294967296 / 256).toNat=X / 1099511627776:=by omega
  refine za5 X _ w (by omega) (by omega) (by omega) (by omega) (by omega) fun h=>?_
  rw [z1S _ h,e]
  exact z27 40 _ (by decide)
theorem zbb (X:Nat) (hX:X<2 ^ 64) (h0:4294967296≤X) (h1:281474976710656≤X) (h2:¬ 72057594037927936≤X) (w:World):Calls Tryz.prog 179 #[.int .u64 (X:Int)] w fun e w'=>e=.returned (.int .i64 ((48+L8 (X / 281474976710656):Nat):Int))∧w=w':=by
  have e:((X:Int) / 4294967296 / 65536).toNat=X / 281474976710656:=by omega
  refine za6 X _ w (by omega) (by omega) (by omega) (by omega) (by omega) fun h=>?_
  rw [z1S _ h,e]
  exact z27 48 _ (by decide)
theorem zbc (X:Nat) (hX:X<2 ^ 64) (h0:4294967296≤X) (h1:281474976710656≤X) (h2:72057594037927936≤X) (w:World):Calls Tryz.prog 179 #[.int .u64 (X:Int)] w fun e w'=>e=.returned (.int .i64 ((56+L8 (X / 72057594037927936):Nat):Int))∧w=w':=by
  have e:((X:Int) / 4294967296 / 65536 / 256).toNat=X / 72057594037927936:=by omega
  refine za7 X _ w (by omega) (by omega) (by omega) (by omega) (by omega) fun h=>?_
  rw [z1S _ h,e]
  exact z27 56 _ (by decide)
theorem zf3 (X:Nat) (hX:X<2 ^ 64) (w:World):Calls Tryz.prog 179 #[.int .u64 (X:Int)] w fun e w'=>e=.returned (.int .i64 ((LEN X:Nat):Int))∧w=w':=by
  unfold LEN
  split
  · split
    · split
      · exact zbc X hX (by omega) (by omega) (by omega) w
      · exact zbb X hX (by omega) (by omega) (by omega) w
    · split
      · exact zba X hX (by omega) (by omega) (by omega) w
      · exact zb9 X hX (by omega) (by omega) (by omega) w
  · split
    · split
      · exact zb8 X hX (by omega) (by omega) (by omega) w
      · exact zb7 X hX (by omega) (by omega) (by omega) w
    · split
      · exact zb6 X hX (by omega) (by omega) (by omega) w
      · have k:=zb5 X hX (by omega) (by omega) (by omega) w
        rw [Nat.div_one,Nat.zero_add] at k
        exact k
theorem z28 {X n:Nat} (h0:X / 2 ^ n≠0) (h:X / 2 ^ n<256):1≤n+L8 (X / 2 ^ n)∧2 ^ (n+L8 (X / 2 ^ n) - 1)≤X∧X<2 ^ (n+L8 (X / 2 ^ n)):=by
  obtain ⟨a,b,c⟩:=z9n _ h0 h
  have hp:=Nat.two_pow_pos n
  refine ⟨by omega,?_,?_⟩
  · rw [show n+L8 (X / 2 ^ n) - 1=n+(L8 (X / 2 ^ n) - 1) by omega,Nat.pow_add]
    exact Nat.le_trans (Nat.mul_le_mul_left _ b) (Nat.mul_div_le X (2 ^ n))
  · rw [Nat.pow_add,Nat.mul_comm]
    exact (Nat.div_lt_iff_lt_mul hp).1 c
theorem zcC (X:Nat) (hX:X<2 ^ 64) (h0:X≠0):1≤LEN X∧2 ^ (LEN X - 1)≤X∧X<2 ^ LEN X:=by
  unfold LEN
  split
  · split
    · split
      · exact z28 (n:=56) (by omega) (by omega)
      · exact z28 (n:=48) (by omega) (by omega)
    · split
      · exact z28 (n:=40) (by omega) (by omega)
      · exact z28 (n:=32) (by omega) (by omega)
  · split
    · split
      · exact z28 (n:=24) (by omega) (by omega)
      · exact z28 (n:=16) (by omega) (by omega)
    · split
      · exact z28 (n:=8) (by omega) (by omega)
      · exact z9n X h0 (by omega)
theorem zcD (x r:Int) (w:World) (c:∀ w,Calls Tryz.prog 179 #[.int .u64 x] w fun e w'=>e=.returned (.int .i64 r)∧w=w') (h0:0≤r) (h1:r≤64):
    Calls Tryz.prog 141 #[.int .u64 x] w fun e w'=>e=.returned (.int .i64 (r - 1))∧w=w':=by
  go_enter Tryz.func141,Tryz.ntmps141
  go_wp2_with fail
  refine (c _).mono ?_
  rintro e w' ⟨rfl,rfl⟩
  go_wp2
  go_ret
  exact ⟨rfl,rfl⟩
end Go.Proofs.YthdpkaiieomdoaaGreatDoor

namespace Go.Proofs.YthdpkaiieomdoaaGreatDoor
open Go.RowKit
theorem zbd {h:Nat} (hh:h≤63):MASK ((h:Int)+1)=TREE h:=by
  unfold MASK TREE
  rw [show min ((h:Int)+1).toNat 64=h+1 by omega]
theorem zcE (h r:Int) (w:World) (e:wrap64 (h+1)=h+1) (c:∀ w,Calls Tryz.prog 180 #[.int .i64 (h+1)] w fun e w'=>e=.returned (.int .u64 r)∧w=w'):
    Calls Tryz.prog 142 #[.int .i64 h] w fun e w'=>e=.returned (.int .u64 r)∧w=w':=by
  go_enter Tryz.func142,Tryz.ntmps142
  go_wp2_with fail
  refine (c _).mono ?_
  rintro e w' ⟨rfl,rfl⟩
  go_wp2
  go_ret
  exact ⟨rfl,rfl⟩
theorem z4D (h:Nat) (hh:h≤63) (w:World):Calls Tryz.prog 142 #[.int .i64 (h:Int)] w fun e w'=>e=.returned (.int .u64 ((TREE h:Nat):Int))∧w=w':=by
  refine zcE h _ w (by unfold wrap64;omega) (fun w=>?_)
  rw [← zbd hh]
  exact zdY ((h:Int)+1) (by omega) w
theorem z7i (p h t:Int) (w:World) (c:∀ w,Calls Tryz.prog 142 #[.int .i64 h] w fun e w'=>e=.returned (.int .u64 t)∧w=w'):
    Calls Tryz.prog 143 #[.int .u64 p,.int .i64 h,.bool true] w fun e w'=>e=.returned (.int .u64 (IntKind.u64.wrap (p - t)))∧w=w':=by
  go_enter Tryz.func143,Tryz.ntmps143
  go_wp2_with fail
  refine (c _).mono ?_
  rintro e w' ⟨rfl,rfl⟩
  go_wp2
  go_ret
  exact ⟨rfl,rfl⟩
end Go.Proofs.YthdpkaiieomdoaaGreatDoor

namespace Go.Proofs.YthdpkaiieomdoaaGreatDoor
open Go.RowKit
def PL:Nat→Nat→Nat→List Nat
  | 0,_,_=>[]
  | k+1,o,X=>if X % 2=1 then o :: PL k (o+1) (X / 2) else PL k (o+1) (X / 2)
def z0s (X:Nat):List Nat:=PL 64 0 X
theorem z66:∀ k o,PL k o 0=[]
  | 0,_=>rfl
  | k+1,o=>by
    have:=z66 k (o+1)
    simpa [PL] using this
theorem z6t:∀ k o X,(PL k o X).length=DSUM 1 k X
  | 0,_,_=>rfl
  | k+1,o,X=>by
    have ih:=z6t k (o+1) (X / 2)
    unfold PL DSUM
    rw [Nat.pow_one]
    split
    · rw [List.length_cons,ih];omega
    · rw [ih];omega
theorem z0E (X:Nat):(z0s X).length=POP X:=z6t 64 0 X
theorem z9o:∀ (t k o q:Nat),t<k→PL k o (2 ^ t*(2*q+1))=(o+t) :: PL k o (2 ^ (t+1)*q)
  | 0,0,_,_,h=>by omega
  | 0,k+1,o,q,_=>by
    have h1:(2 ^ 0*(2*q+1))=2*q+1:=by simp
    have h2:2 ^ (0+1)*q=2*q:=by simp
    rw [h1,h2]
    unfold PL
    rw [if_pos (by omega),if_neg (by omega),show (2*q+1) / 2=q by omega,show 2*q / 2=q by omega]
    rfl
  | t+1,0,_,_,h=>by omega
  | t+1,k+1,o,q,h=>by
    have ih:=z9o t k (o+1) q (by omega)
    have h1:2 ^ (t+1)*(2*q+1)=2*(2 ^ t*(2*q+1)):=by rw [Nat.pow_succ,Nat.mul_comm (2 ^ t) 2,Nat.mul_assoc]
    have h2:2 ^ (t+1+1)*q=2*(2 ^ (t+1)*q):=by rw [Nat.pow_succ,Nat.mul_comm (2 ^ (t+1)) 2,Nat.mul_assoc]
    rw [h1,h2]
    generalize 2 ^ t*(2*q+1)=a at ih ⊢
    generalize 2 ^ (t+1)*q=b at ih ⊢
    unfold PL
    rw [if_neg (by omega),if_neg (by omega),show 2*a / 2=a by omega,show 2*b / 2=b by omega,ih,show o+(t+1)=o+1+t by omega]
theorem z5z (X:Nat):POP X≤64:=by
  have:∀ k X,DSUM 1 k X≤k:=fun k=>by
    induction k with
    | zero=>intro X;exact Nat.le_refl _
    | succ k ih=>
      intro X
      have:=ih (X / 2)
      unfold DSUM
      rw [Nat.pow_one]
      omega
  exact this 64 X
theorem zcF (q:Nat):(2*q+1) &&& (2*q)=2*q:=by
  apply Nat.eq_of_testBit_eq
  intro i
  rw [Nat.testBit_and]
  cases i with
  | zero=>simp [Nat.testBit_zero]
  | succ i=>
    rw [Nat.testBit_succ,Nat.testBit_succ,show (2*q+1) / 2=q by omega,show 2*q / 2=q by omega]
    simp
theorem z7j:∀ (t q:Nat),2 ^ t*(2*q+1) &&& (2 ^ t*(2*q+1) - 1)=2 ^ (t+1)*q
  | 0,q=>by
    have h1:(2 ^ 0*(2*q+1))=2*q+1:=by simp
    have h2:2 ^ (0+1)*q=2*q:=by simp
    rw [h1,h2]
    exact zcF q
  | t + 1,q=>by
    have ih:=z7j t q
    have h1:2 ^ (t+1)*(2*q+1)=2*(2 ^ t*(2*q+1)):=by rw [Nat.pow_succ,Nat.mul_comm (2 ^ t) 2,Nat.mul_assoc]
    have h2:2 ^ (t+1+1)*q=2*(2 ^ (t+1)*q):=by rw [Nat.pow_succ,Nat.mul_comm (2 ^ (t+1)) 2,Nat.mul_assoc]
    have hp:0<2 ^ t*(2*q+1):=Nat.mul_pos (Nat.two_pow_pos t) (by omega)
    rw [h1,h2,← ih]
    generalize 2 ^ t*(2*q+1)=a at hp ⊢
    apply Nat.eq_of_testBit_eq
    intro i
    rw [Nat.testBit_and]
    cases i with
    | zero=>simp [Nat.testBit_zero]
    | succ i=>
      rw [Nat.testBit_succ,Nat.testBit_succ,Nat.testBit_succ,show 2*a / 2=a by omega,show (2*a - 1) / 2=a - 1 by omega,← Nat.testBit_and,show 2*(a &&& (a - 1)) / 2=a &&& (a - 1) by omega]
end Go.Proofs.YthdpkaiieomdoaaGreatDoor

namespace Go.Proofs.YthdpkaiieomdoaaGreatDoor
open Go.RowKit
def z0V (l:List Nat):List Value:=l.map fun (x:Nat)=>Value.int .i64 (x:Int)
theorem z8s (l:List Nat) (x:Nat):z0V (l ++ [x])=z0V l ++ [.int .i64 (x:Int)]:=by simp [z0V]
theorem z3i:∃ i,Tryz.prog.info? 3=some i∧i.zero=some (.int .i64 0)∧i.size=1∧i.bytes=8:=by
  have h:(Tryz.prog.info? 3).map (fun i=>(i.zero,i.size,i.bytes))=some (some (.int .i64 0),1,8):=by kernel_rfl
  obtain ⟨i,hi,h⟩:=Option.map_eq_some_iff.1 h
  simp only [Prod.mk.injEq] at h
  exact ⟨i,hi,h.1,h.2.1,h.2.2⟩
theorem ze4 {ops:Array Oper} {rest:List Oper} {o:Oper} {a:Act} {Q:Exit→Act→World→Prop} (w:World) (hgd:o.guard=none) (s x:Operand)
    (ho:o.op=.call {callee:=.builtin .append,args:=#[s,x],argTypes:=#[196,196]})
    (base:Nat) (v:Value) (n:Nat) (xs:List Nat) (hs:a.eval s=v) (hown:w.ownsRow base 3 1 v n (z0V xs))
    (b c:Nat) (y:Nat) (hx:a.eval x=.slice (some ⟨b,0,none⟩) 1 c) (hc:w.cell? ⟨b,0,none⟩=some (.int .i64 (y:Int)))
    (hb:n≤1000) (hbase:base≤w.heap.size)
    (h:∀ g cap w',w'.ownsRow base 3 1 (.slice (some ⟨g,0,none⟩) (n+1) cap) (n+1) (z0V (xs ++ [y]))→w.grownBy w' v.ownBlock→g<w'.heap.size→wpList Tryz.prog ops Q rest (a.put o.dst (.slice (some ⟨g,0,none⟩) (n+1) cap)) w'):wpList Tryz.prog ops Q (o :: rest) a w:=by
  obtain ⟨i,hi,hz,hs1,hby⟩:=z3i
  refine wpList_append_lies w hgd s x 196 ho base 3 i (.int .i64 0) 1 8 Tryz.underlying196 hi hz hs1 hby rfl (by decide) v n (z0V xs) hs hown ⟨b,0,none⟩ 1 c [.int .i64 (y:Int)] hx rfl ?_ (fun u hu=>by simp at hu;subst hu;rfl) (by decide) (by simp only [maxLen];omega) (by omega) hbase w.heap.size rfl ?_
  · intro j u hj
    cases j with
    | zero=>
      simp only [List.getElem?_cons_zero,Option.some.injEq] at hj
      subst hj
      exact hc
    | succ j=>simp at hj
  · intro g cap w' h1 h2 _ h4
    rw [← z8s] at h1
    exact h g cap w' h1 h2 h4
theorem zbe (n:Nat) (hn:n≤64) (w:World):∃ cur:Array Value,cur.size=n∧(Instr.makeSlice 196 (.int .i64 0) (.int .i64 (n:Int))).run Tryz.prog w=.ok (.slice (some ⟨w.heap.size,0,none⟩) 0 n) (w.alloc (.cells cur 3)):=by
  obtain ⟨i,hi,hz,hs1,hby⟩:=z3i
  have h:=run_make (P:=Tryz.prog) w 196 3 i (.int .i64 0) Tryz.underlying196 hi hz .i64 .i64 0 n (by omega) (by omega) (by rw [hby];omega) (by omega)
  refine ⟨_,?_,h⟩
  rw [size_madeCells,hs1]
  omega
theorem Tabled.below {w w':World} (h:Tabled w) (_:0<w.heap.size) (hb:Below w.heap.size w w'):Tabled w':=fun i hi=>(hb.cell (by exact World.block_lt_of_cell? _ _ (h i hi))).trans (h i hi)
theorem ze5 (X:Nat) (hX:X<2 ^ 64) (w:World) (hT:Tabled w) (h0:0<w.heap.size):Calls Tryz.prog 146 #[.int .u64 (X:Int)] w fun e w'=>
    ∃ g cap,e=.returned (.slice (some ⟨g,0,none⟩) (POP X) cap)∧w'.ownsRow w.heap.size 3 1 (.slice (some ⟨g,0,none⟩) (POP X) cap) (POP X) (z0V (z0s X))∧g<w'.heap.size∧Below w.heap.size w w':=by
  obtain ⟨cur,hcs,hmk⟩:=zbe (POP X) (z5z X) w
  have HX:Aside (X<2 ^ 64):=hX
  have HT:Aside (Tabled w∧0<w.heap.size∧cur.size=POP X):=⟨hT,h0,hcs⟩
  have c1:=ze0 X hX
  clear hX hT h0 hcs
  generalize hp:POP X=p at *
  have HP:Aside (POP X=p):=hp
  clear hp
  go_enter Tryz.func146,Tryz.ntmps146
  go_wp2_with fail
  refine (c1 _).mono ?_
  rintro e w' ⟨rfl,rfl⟩
  clear c1
  go_wp2
  go_loopg [0,3] p (fun g s0 s2 wx=>∃ (x:Nat),Aside (∃ l:List Nat,l ++ z0s x=z0s X∧x<2 ^ 64∧g=POP x∧wx.ownsRow w.heap.size 3 1 s2 l.length (z0V l)∧(∃ b cap,s2=.slice (some ⟨b,0,none⟩) l.length cap∧b<wx.heap.size)∧Below w.heap.size w wx)∧s0=.int .u64 (x:Int))
  case atStart=>exact ⟨X,⟨[],rfl,HX.out,HP.out.symm,World.ownsRow_made w cur p (Nat.le_refl _) (by have:=z5z X;rw [HP.out] at this;simp only [maxLen];omega) (by rw [HT.out.2.2];omega),⟨_,_,rfl,by simp⟩,(Below.refl _ _).alloc (Nat.le_refl _) _⟩,rfl⟩
  case round=>
    obtain ⟨x,A,rfl⟩:=hrel
    clear hmk
    cases hx:((x:Int) == 0) with
    | true=>
      obtain ⟨l,hl,hxl,hg,hown,⟨b,cap,hs,hb⟩,hbel⟩:=A.out
      have hx0:x=0:=by simpa using hx
      have hl2:l=z0s X:=by
        rw [hx0,show z0s 0=[] from z66 64 0,List.append_nil] at hl
        exact hl
      have hlen:l.length=p:=by rw [hl2,z0E,HP.out]
      subst hs
      rw [hlen,hl2] at hown
      have R:Aside (wr.ownsRow w.heap.size 3 1 (.slice (some ⟨b,0,none⟩) p cap) p (z0V (z0s X))∧b<wr.heap.size∧Below w.heap.size w wr∧l.length=p):=⟨hown,hb,hbel,hlen⟩
      clear A hl hxl hg hown hb hbel hx0 hl2 hlen HX HT HP
      go_wp2
      go_ret
      obtain ⟨h1,h2,h3,h4⟩:=R.out
      refine ⟨b,cap,?_,h1,h2,h3⟩
      rw [← h4]
      rfl
    | false=>
      obtain ⟨l,hl,hxl,hg,hown,⟨b,cap,hs,hb⟩,hbel⟩:=A.out
      have hx0:x≠0:=by simpa using hx
      obtain ⟨t,q,e⟩:=zb4 x hx0
      have ht:t<64:=(z9m hxl e).2
      have cl:=ze3 x t wr (zfx x t q hxl e wr (HT.out.1.below HT.out.2.1 hbel))
      obtain ⟨y,hy⟩:∃ y,y=2 ^ (t+1)*q:=⟨_,rfl⟩
      have hya:x &&& (x - 1)=y:=by rw [e,hy];exact z7j t q
      have hstep:z0s x=t :: z0s y:=by
        rw [e,hy]
        have:=z9o t 64 0 q ht
        rw [Nat.zero_add] at this
        exact this
      have hand:bits .and .u64 (x:Int) (IntKind.u64.wrap ((x:Int) - 1))=(y:Int):=by
        have hm:IntKind.u64.wrap ((x:Int) - 1)=((x - 1:Nat):Int):=by rw [z09];omega
        rw [hm,z41 hxl (by omega),hya]
      have hyx:y<2 ^ 64:=Nat.lt_of_le_of_lt (by rw [← hya];exact Nat.and_le_left) hxl
      have hlen:l.length≤1000:=by
        have h1:=congrArg List.length hl
        have h2:=z5z X
        rw [List.length_append,z0E X] at h1
        omega
      have hPy:POP x=POP y+1:=by
        rw [← z0E,← z0E,hstep,List.length_cons]
      have R:Aside ((l ++ [t]) ++ z0s y=z0s X∧y<2 ^ 64∧gk=POP y+1∧wr.ownsRow w.heap.size 3 1 u3 l.length (z0V l)∧Below w.heap.size w wr∧l.length≤1000):=⟨by rw [List.append_assoc,List.singleton_append,← hstep];exact hl,hyx,by rw [hg,hPy],hown,hbel,hlen⟩
      clear A hl hxl hg hown hs hb hbel hx0 e ht hy hya hstep hyx hlen hPy HX HT HP
      go_wp2_with fail
      refine cl.mono ?_
      rintro e w' ⟨rfl,rfl⟩
      clear cl
      go_wp2_with (at_builtin;refine ze4 _ rfl (.tmp 13) (.tmp 16) rfl w.heap.size u3 l.length l rfl (R.out.2.2.2.1.alloc _) wr.heap.size 1 t rfl (by rw [World.cell?_alloc_at _ _ _ _ rfl];rfl) R.out.2.2.2.2.2 (by have:=R.out.2.2.2.2.1.size;simp;omega) ?_;intro g cap w1 hown hgrow hg)
      obtain ⟨r1,r2,r3,r4,r5,r6⟩:=R.out
      have R2:Aside ((l ++ [t]) ++ z0s y=z0s X∧y<2 ^ 64∧gk=POP y+1∧w1.ownsRow w.heap.size 3 1 (.slice (some ⟨g,0,none⟩) (l.length+1) cap) (l.length+1) (z0V (l ++ [t]))∧g<w1.heap.size∧Below w.heap.size w w1):=⟨r1,r2,r3,hown,hg,(r5.alloc r5.size _).grown hgrow (by have:=r5.size;simp;omega) (fun k e=>(r4.lt k e).1)⟩
      clear hown hgrow hg R r1 r2 r3 r4 r5 r6
      go_wp2
      go_roundg (gk - 1)
      case measure=>have:=R2.out.2.2.1;omega
      case rel=>
        obtain ⟨r1,r2,r3,r4,r5,r6⟩:=R2.out
        have e:(l ++ [t]).length=l.length+1:=by simp
        exact ⟨y,⟨l ++ [t],r1,r2,by omega,by rw [e];exact r4,⟨g,cap,by rw [e],r5⟩,r6⟩,by first | rfl | (rw [hand])⟩
end Go.Proofs.YthdpkaiieomdoaaGreatDoor

namespace Go.Proofs.YthdpkaiieomdoaaGreatDoor
open Go.RowKit
def SUMP (l:List Nat):Nat:=(l.map fun i=>2 ^ i).sum
theorem z7k:∀ k o X,∀ i∈PL k o X,o≤i∧i<o+k
  | 0,_,_,i,h=>by simp [PL] at h
  | k + 1,o,X,i,h=>by
    have ih:=z7k k (o+1) (X / 2) i
    unfold PL at h
    split at h
    · rcases List.mem_cons.1 h with rfl | h
      · omega
      · have:=ih h
        omega
    · have:=ih h
      omega
def z3t (X i:Nat):Nat:=(z0s X).getD i 0
theorem z5e {X i:Nat} (h:i<POP X):(z0s X)[i]?=some (z3t X i):=by
  rw [← z0E] at h
  unfold z3t
  rw [List.getD_eq_getElem?_getD,List.getElem?_eq_getElem h]
  rfl
theorem zcG {X i:Nat} (h:i<POP X):z3t X i≤63:=by
  have:=z7k 64 0 X _ (List.mem_of_getElem? (z5e h))
  omega
def PART (X i:Nat):Nat:=SUMP ((z0s X).take i)
theorem zbf {w:World} {base g n cap:Nat} {X:Nat} (h:w.ownsRow base 3 1 (.slice (some ⟨g,0,none⟩) n cap) n (z0V (z0s X))) (i:Nat) (hi:i<POP X):w.cell? ⟨g,i,none⟩=some (.int .i64 (z3t X i:Nat)):=by
  have hlen:(z0s X).length=n:=by have:=h.1;simpa [z0V] using this
  rw [z0E] at hlen
  rw [h.cellAt i (by omega)]
  unfold z0V
  rw [List.getElem?_map,z5e hi]
  rfl
end Go.Proofs.YthdpkaiieomdoaaGreatDoor

namespace Go.Proofs.YthdpkaiieomdoaaGreatDoor
def UP (h n:Nat):List Nat:=PL (64 - h) h (n / 2 ^ h)
theorem z9p {h n:Nat} (hh:h<64):UP h n=if n / 2 ^ h % 2=1 then h :: UP (h+1) n else UP (h+1) n:=by
  unfold UP
  rw [show 64 - h=(64 - (h+1))+1 by omega,PL,Nat.div_div_eq_div_mul,← Nat.pow_succ]
theorem ze6 (n:Nat):UP 0 n=z0s n:=by
  unfold UP z0s
  simp
theorem zf4 {h n:Nat} (hn:n<2 ^ h):UP h n=[]:=by
  unfold UP
  rw [Nat.div_eq_of_lt hn,z66]
def HS (h n:Nat):List Nat:=(UP h n).reverse
theorem z3j {h n:Nat} (hh:h<64) (hb:n / 2 ^ h % 2=1):HS h n=HS (h+1) n ++ [h]:=by
  unfold HS
  rw [z9p hh,if_pos hb,List.reverse_cons]
theorem z2P {h n:Nat} (hh:h<64) (hb:¬ n / 2 ^ h % 2=1):HS h n=HS (h+1) n:=by
  unfold HS
  rw [z9p hh,if_neg hb]
theorem z7l {h n:Nat} (hn:n<2 ^ h):HS h n=[]:=by
  unfold HS
  rw [zf4 hn]
  rfl
theorem ze7 (n:Nat):HS 0 n=(z0s n).reverse:=by
  unfold HS
  rw [ze6]
theorem z44 {n:Nat} (hn:n<2 ^ 64):∀ h,h≤64→(HS h n).length=PC (n / 2 ^ h):=by
  have key:∀ d h,h+d=64→(HS h n).length=PC (n / 2 ^ h):=by
    intro d
    induction d with
    | zero=>
      intro h e
      obtain rfl:h=64:=by omega
      rw [z7l hn,Nat.div_eq_of_lt hn,z10]
      rfl
    | succ d ih=>
      intro h e
      have ih:=ih (h+1) (by omega)
      rw [z0C,Nat.div_div_eq_div_mul,← Nat.pow_succ,← ih]
      by_cases hb:n / 2 ^ h % 2=1
      · rw [z3j (by omega) hb,List.length_append,List.length_singleton]
        omega
      · rw [z2P (by omega) hb]
        omega
  intro h hh
  exact key (64 - h) h (by omega)
theorem zbg {n:Nat}:∀ h x,h≤64→x∈HS h n→h≤x∧x<64∧n / 2 ^ x % 2=1:=by
  have key:∀ d h,h+d=64→∀ x,x∈HS h n→h≤x∧x<64∧n / 2 ^ x % 2=1:=by
    intro d
    induction d with
    | zero=>
      intro h e x hx
      obtain rfl:h=64:=by omega
      simp [HS,UP,PL] at hx
    | succ d ih=>
      intro h e x hx
      by_cases hb:n / 2 ^ h % 2=1
      · rw [z3j (by omega) hb,List.mem_append,List.mem_singleton] at hx
        rcases hx with hx | rfl
        · have:=ih (h+1) (by omega) x hx
          exact ⟨by omega,this.2⟩
        · exact ⟨Nat.le_refl _,by omega,hb⟩
      · rw [z2P (by omega) hb] at hx
        have:=ih (h+1) (by omega) x hx
        exact ⟨by omega,this.2⟩
  intro h x hh
  exact key (64 - h) h (by omega) x
def PKP (n h:Nat):Nat:=PLC h (2*(n / 2 ^ (h+1)))
def z3u (n:Nat):List Nat:=(HS 0 n).map (PKP n)
theorem z29 (n h:Nat):n / 2 ^ (h+1)=n / 2 ^ h / 2:=by rw [Nat.div_div_eq_div_mul,← Nat.pow_succ]
theorem z5A (m h:Nat):z0r ((2*m+1)*2 ^ h)=z0r (2*m*2 ^ h)+TREE h:=by
  have h1:=z14 ((2*m+1)*2 ^ h)
  have h2:=z14 (2*m*2 ^ h)
  rw [z3r,z42,Nat.add_mul,Nat.one_mul] at h1
  rw [z3r,z64] at h2
  have h3:=z1L h
  rw [Nat.pow_succ] at h3
  rw [Nat.add_mul,Nat.one_mul]
  unfold TREE
  rw [Nat.pow_succ]
  omega
theorem z5B {n h:Nat} (hb:n / 2 ^ h % 2=1):n / 2 ^ h=2*(n / 2 ^ (h+1))+1:=by
  rw [z29]
  omega
theorem z7m {n h:Nat} (hb:¬ n / 2 ^ h % 2=1):n / 2 ^ h=2*(n / 2 ^ (h+1)):=by
  rw [z29]
  omega
theorem z1h (m h:Nat):2*m*2 ^ h=m*2 ^ (h+1):=by
  rw [Nat.pow_succ,Nat.mul_comm 2 m,Nat.mul_assoc,Nat.mul_comm 2]
def ST (l:List Nat):Nat × List Nat:=l.foldl (fun s h=>((s.1+TREE h) % 2 ^ 64,s.2 ++ [((s.1+TREE h) % 2 ^ 64+(2 ^ 64 - 1)) % 2 ^ 64])) (0,[])
theorem z67 (l:List Nat) (h:Nat):ST (l ++ [h])=(((ST l).1+TREE h) % 2 ^ 64,(ST l).2 ++ [(((ST l).1+TREE h) % 2 ^ 64+(2 ^ 64 - 1)) % 2 ^ 64]):=by
  unfold ST
  rw [List.foldl_append]
  rfl
theorem z45 {n:Nat} (hn:n≤4611686018427387904):z0r n≤9223372036854775807:=by
  rw [← z9Z]
  exact zcu hn
theorem zfy {n:Nat} (hn:n≤4611686018427387904):∀ h,h≤64→ST (HS h n)=(z0r (n / 2 ^ h*2 ^ h),(HS h n).map (PKP n)):=by
  have key:∀ d h,h+d=64→ST (HS h n)=(z0r (n / 2 ^ h*2 ^ h),(HS h n).map (PKP n)):=by
    intro d
    induction d with
    | zero=>
      intro h e
      obtain rfl:h=64:=by omega
      rw [z7l (by omega),Nat.div_eq_of_lt (by omega),Nat.zero_mul,z2x]
      rfl
    | succ d ih=>
      intro h e
      have ih:=ih (h+1) (by omega)
      by_cases hb:n / 2 ^ h % 2=1
      · have e1:=z5B hb
        have h2:z0r (n / 2 ^ h*2 ^ h)=z0r (n / 2 ^ (h+1)*2 ^ (h+1))+TREE h:=by
          rw [e1,z5A,z1h]
        have h3:z0r (n / 2 ^ h*2 ^ h)≤9223372036854775807:=z45 (Nat.le_trans (Nat.div_mul_le_self _ _) hn)
        have h4:=z1L h
        have hs:(z0r (n / 2 ^ (h+1)*2 ^ (h+1))+TREE h) % 2 ^ 64=z0r (n / 2 ^ h*2 ^ h):=by
          rw [← h2]
          omega
        have hp:(z0r (n / 2 ^ h*2 ^ h)+(2 ^ 64 - 1)) % 2 ^ 64=PKP n h:=by
          unfold PKP PLC
          rw [z1h]
          unfold TREE at h2
          omega
        rw [z3j (by omega) hb,z67,ih]
        dsimp only
        rw [hs,hp,List.map_append]
        rfl
      · rw [z2P (by omega) hb,ih,z7m hb,z1h]
  intro h hh
  exact key (64 - h) h (by omega)
theorem zf5 {n:Nat} (hn:n≤4611686018427387904):ST (HS 0 n)=(z0r n,z3u n):=by
  have:=zfy hn 0 (by omega)
  unfold z3u
  simpa using this
theorem Node.leaf {i:Nat} (hi:i<4611686018427387904):Node 0 i:=⟨by omega,by simpa using hi⟩
theorem Node.peak {n h:Nat} (hn:n≤4611686018427387904) (hb:n / 2 ^ h % 2=1):Node h (2*(n / 2 ^ (h+1))):=by
  have h62:h≤62:=by
    rcases Nat.lt_or_ge 62 h with h1 | h1
    · have:2 ^ 63≤2 ^ h:=Nat.pow_le_pow_right (by decide) h1
      rw [Nat.div_eq_of_lt (by omega)] at hb
      omega
    · exact h1
  refine ⟨h62,?_⟩
  have h1:n / 2 ^ h≤2 ^ (62 - h):=by
    have:n / 2 ^ h≤2 ^ 62 / 2 ^ h:=Nat.div_le_div_right (by simpa using hn)
    rw [Nat.pow_div h62 (by decide)] at this
    exact this
  rw [z5B hb] at h1
  omega
end Go.Proofs.YthdpkaiieomdoaaGreatDoor

namespace Go.Proofs.YthdpkaiieomdoaaGreatDoor
open Go.RowKit
abbrev SPOT (h k:Nat):Value:=.agg #[.int .u8 (h:Int),.int .u64 (k:Int)]
theorem ze8 (X:Nat) (hX:X<2 ^ 64) (w:World):Calls Tryz.prog 141 #[.int .u64 (X:Int)] w fun e w'=>e=.returned (.int .i64 ((LEN X:Nat) - 1:Int))∧w=w':=by
  have hl:LEN X≤64:=by
    unfold LEN
    have:=z2f (X / 72057594037927936)
    have:=z2f (X / 281474976710656)
    have:=z2f (X / 1099511627776)
    have:=z2f (X / 4294967296)
    have:=z2f (X / 16777216)
    have:=z2f (X / 65536)
    have:=z2f (X / 256)
    have:=z2f X
    repeat' split
    all_goals omega
  exact zcD X _ w (fun w=>zf3 X hX w) (by omega) (by omega)
theorem zcH (p:Int) (hp:9223372036854775807≤p) (w:World):Calls Tryz.prog 96 #[.int .u64 p] w fun e w'=>e=.returned (.tuple #[SPOT 0 0,.bool false])∧Below w.heap.size w w':=by
  go_enter Tryz.func96,Tryz.ntmps96
  go_wp2
  refine bodyPost_ret (v:=.tuple #[SPOT 0 0,.bool false]) ?_ rfl ⟨rfl,(Below.refl _ _).alloc (Nat.le_refl _) _⟩
  simp [results,Tryz.f96,go_sem]
theorem zf6 {m H:Nat} (hH:1≤H):m*2 ^ H ||| 2 ^ (H - 1)=(2*m+1)*2 ^ (H - 1):=by
  have h1:2 ^ (H - 1)<2 ^ H:=Nat.pow_lt_pow_right (by decide) (by omega)
  have h2:=Nat.shiftLeft_add_eq_or_of_lt h1 m
  rw [Nat.shiftLeft_eq] at h2
  rw [← h2,Nat.add_mul,Nat.one_mul]
  congr 1
  obtain ⟨j,rfl⟩:∃ j,H=j+1:=⟨H - 1,by omega⟩
  rw [Nat.add_sub_cancel,Nat.pow_succ,Nat.mul_comm 2 m,Nat.mul_assoc,Nat.mul_comm 2]
theorem ze9 (h k:Nat) (hN:Node h k) (w:World):Calls Tryz.prog 96 #[.int .u64 ((PLC h k:Nat):Int)] w fun e w'=>e=.returned (.tuple #[SPOT h k,.bool true])∧Below w.heap.size w w':=by
  have hp:=hN.lt
  obtain ⟨p,hpe⟩:∃ p,p=PLC h k:=⟨_,rfl⟩
  rw [← hpe] at hp ⊢
  have HN:Aside (Node h k∧p=PLC h k∧p<9223372036854775807):=⟨hN,hpe,hp⟩
  have hd:decide ((9223372036854775807:Int)≤(p:Int))=false:=by simp;omega
  have e1:IntKind.u64.wrap ((p:Int)+1)=(p:Int)+1:=by rw [z09];omega
  have c1:=ze8 (p+1) (by omega)
  obtain ⟨h1,h2,h3⟩:=zcC (p+1) (by omega) (by omega)
  obtain ⟨H,hH⟩:∃ H,LEN (p+1)=H+1:=⟨LEN (p+1) - 1,by omega⟩
  rw [hH] at h2 h3 c1
  rw [show (((H+1:Nat):Int) - 1)=(H:Int) by omega,show ((p+1:Nat):Int)=(p:Int)+1 by omega] at c1
  have HH:Aside (H≤62∧p+2≤2 ^ (H+1)):=by
    refine ⟨?_,by omega⟩
    rcases Nat.lt_or_ge 62 H with h | h
    · have:2 ^ 63≤2 ^ H:=Nat.pow_le_pow_right (by decide) h
      simp at h2
      omega
    · exact h
  clear hN hpe hp h1 h2 h3 hH
  go_enter Tryz.func96,Tryz.ntmps96
  go_wp2_with fail
  refine (c1 _).mono ?_
  rintro e w' ⟨rfl,rfl⟩
  clear c1
  go_wp2
  go_loopg [0,4,5] H (fun g s0 s4 s5 wx=>∃ q L:Nat,s0=.int .u64 (q:Int)∧s4=.int .i64 (g:Int)∧s5=.int .u64 (L:Int)∧Aside (wx=w.alloc (.cells #[.int .u8 0,.int .u64 0] 78)∧g≤62∧q+2≤2 ^ (g+1)∧∃ m,L=m*2 ^ g∧Node g m∧p=z0r L+q))
  case atStart=>exact ⟨p,0,rfl,rfl,rfl,rfl,HH.out.1,HH.out.2,0,by simp,⟨HH.out.1,Nat.two_pow_pos _⟩,by rw [z2x];omega⟩
  case round=>
    obtain ⟨q,L,rfl,rfl,rfl,A⟩:=hrel
    obtain ⟨hw,hg,hq,m,hL,hNm,hpL⟩:=A.out
    clear A
    have e2:IntKind.u64.wrap ((q:Int)+1)=(q:Int)+1:=by
      have:2 ^ (gk+1)≤2 ^ 63:=Nat.pow_le_pow_right (by decide) (by omega)
      rw [z09]
      omega
    have c1:=z4D gk (by omega)
    by_cases hT:q+1=TREE gk
    · have hmk:h=gk∧k=m:=by
        refine HN.out.1.one hNm ?_
        rw [← HN.out.2.1,hpL,hL]
        unfold PLC
        unfold TREE at hT
        have:=z1L gk
        omega
      obtain ⟨rfl,rfl⟩:=hmk
      have hLk:(L:Int) / 2 ^ h=(k:Int):=by
        rw [hL,z2M,Nat.mul_div_cancel _ (Nat.two_pow_pos h)]
      rw [← hT,show ((q+1:Nat):Int)=(q:Int)+1 by omega] at c1
      have R:Aside (L=k*2 ^ h∧h≤62∧(L:Int) / 2 ^ h=(k:Int)):=⟨hL,hg,hLk⟩
      clear hg hq hL hNm hpL HN HH hT hLk
      subst hw
      go_wp2_with fail
      refine (c1 _).mono ?_
      rintro e w' ⟨rfl,rfl⟩
      clear c1
      go_wp2
      obtain ⟨hL,hg,hLk⟩:=R.out
      rw [show (h:Int) % 256=(h:Int) by omega,show min h 64=h by omega,hLk]
      refine bodyPost_ret (v:=.tuple #[SPOT h k,.bool true]) ?_ rfl ⟨rfl,(Below.refl _ _).alloc (Nat.le_refl _) _⟩
      simp [results,Tryz.f96,go_sem]
    · have h1 : 1≤gk:=by
        rcases Nat.eq_zero_or_pos gk with h0 | h0
        · subst h0
          simp at hq
          unfold TREE at hT
          simp at hT
          omega
        · exact h0
      obtain ⟨g,rfl⟩:∃ g,gk=g+1:=⟨gk - 1,by omega⟩
      have c2:=z4D g (by omega)
      have hb:((q:Int)+1 == ((TREE (g+1):Nat):Int))=false:=by simp;omega
      generalize hT1:TREE (g+1)=t1 at *
      have e3:wrap64 (g:Int)=(g:Int):=by unfold wrap64;omega
      rw [show (((g+1:Nat):Int))=(g:Int)+1 by omega] at c1 ⊢
      have R:Aside (wr=w.alloc (.cells #[.int .u8 0,.int .u64 0] 78)∧g+1≤62∧q+2≤2 ^ (g+1+1)∧L=m*2 ^ (g+1)∧Node (g+1) m∧p=z0r L+q∧q+1≠t1∧TREE (g+1)=t1):=⟨hw,hg,hq,hL,hNm,hpL,hT,hT1⟩
      clear hw hg hq hL hNm hpL hT hT1 h1 HN HH
      by_cases hlt:TREE g≤q
      · have hd2:decide (((TREE g:Nat):Int)≤(q:Int))=true:=by simp;omega
        obtain ⟨t2,ht2⟩:∃ t2,TREE g=t2:=⟨_,rfl⟩
        rw [ht2] at c2 hd2
        have hd3:(t2:Int)≤(q:Int):=by simpa using hd2
        have R2:Aside (TREE g=t2∧t2≤q):=⟨ht2,by omega⟩
        clear hlt ht2 hd2
        go_wp2_with fail
        refine (c1 _).mono ?_
        rintro e w' ⟨rfl,rfl⟩
        clear c1
        go_wp2_with fail
        refine (c2 _).mono ?_
        rintro e w' ⟨rfl,rfl⟩
        clear c2
        go_wp2
        go_roundg g
        case measure=>omega
        case rel=>
          obtain ⟨r1,r2,r3,r4,r5,r6,r7,r8⟩:=R.out
          obtain ⟨s1,s2⟩:=R2.out
          have hpw:=z1L g
          have hpp:2 ^ (g+1+1)=2*2 ^ (g+1):=by rw [Nat.pow_succ 2 (g+1),Nat.mul_comm]
          have hp63:2 ^ (g+1+1)≤2 ^ 63:=Nat.pow_le_pow_right (by decide) (by omega)
          have hg64:2 ^ g<2 ^ 64:=Nat.pow_lt_pow_right (by decide) (by omega)
          have hL64:L<2 ^ 64:=by
            have:=r5.span
            rw [Nat.add_mul,← r4] at this
            omega
          have ea:IntKind.u64.wrap ((q:Int) - t2)=((q - t2:Nat):Int):=by rw [z09];omega
          have eb:bits .or .u64 (L:Int) (IntKind.u64.wrap (2 ^ min g 64))=(((2*m+1)*2 ^ g:Nat):Int):=by
            have e5:IntKind.u64.wrap (2 ^ min g 64)=((2 ^ g:Nat):Int):=by
              rw [z09,show min g 64=g by omega,Int.natCast_pow]
              have:((2 ^ g:Nat):Int)=(2:Int) ^ g:=by simp
              have h7:((2:Nat):Int)=2:=rfl
              rw [h7,← this]
              omega
            rw [e5,z9S hL64 hg64,r4]
            exact congrArg (fun x:Nat=>(x:Int)) (zf6 (m:=m) (H:=g+1) (by omega))
          unfold TREE at s1 r8
          rw [ea,eb,e3]
          refine ⟨q - t2,(2*m+1)*2 ^ g,rfl,rfl,rfl,r1,by omega,by omega,2*m+1,rfl,⟨by omega,?_⟩,?_⟩
          · have:=r5.2
            rw [show 62 - g=62 - (g+1)+1 by omega,Nat.pow_succ]
            omega
          · have e6:=z5A m g
            rw [z1h,← r4] at e6
            rw [e6,r6]
            unfold TREE
            omega
      · have hd3:¬ ((TREE g:Nat):Int)≤(q:Int):=by omega
        obtain ⟨t2,ht2⟩:∃ t2,TREE g=t2:=⟨_,rfl⟩
        rw [ht2] at c2 hd3
        have R2:Aside (TREE g=t2∧q<t2):=⟨ht2,by omega⟩
        clear hlt ht2
        go_wp2_with fail
        refine (c1 _).mono ?_
        rintro e w' ⟨rfl,rfl⟩
        clear c1
        go_wp2_with fail
        refine (c2 _).mono ?_
        rintro e w' ⟨rfl,rfl⟩
        clear c2
        go_wp2
        go_roundg g
        case measure=>omega
        case rel=>
          obtain ⟨r1,r2,r3,r4,r5,r6,r7,r8⟩:=R.out
          obtain ⟨s1,s2⟩:=R2.out
          have hpw:=z1L g
          unfold TREE at s1
          rw [e3]
          refine ⟨q,L,rfl,rfl,rfl,r1,by omega,by omega,2*m,by rw [z1h,← r4],⟨by omega,?_⟩,r6⟩
          have:=r5.2
          rw [show 62 - g=62 - (g+1)+1 by omega,Nat.pow_succ]
          omega
end Go.Proofs.YthdpkaiieomdoaaGreatDoor
