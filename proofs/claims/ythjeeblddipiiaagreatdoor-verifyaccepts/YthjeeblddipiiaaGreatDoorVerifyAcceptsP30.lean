/- Texts of VerifyAccepts, one behind the other: VerifyAwakePlain. -/
import Derived.Test.YthjeeblddipiiaaGreatDoorVerifyAcceptsP18
import Derived.Test.YthjeeblddipiiaaGreatDoorVerifyAcceptsP29
namespace Go.Proofs.YthjeeblddipiiaaGreatDoor
open Go.RowKit
set_option maxRecDepth 100000
def HB (m:Int):List Int:=m :: List.replicate 31 0
theorem zaR (m:Int) (h0:0≤m) (h1:m≤255):IsH (HB m):=⟨rfl,fun x hx=>by
  rcases List.mem_cons.1 hx with rfl | hx
  · exact ⟨h0,h1⟩
  · rw [List.eq_of_mem_replicate hx]
    decide⟩
theorem zgm:PSP 1 3=[(0,0),(0,2)]:=by kernel_rfl
theorem zfW:RISE 1 3=1:=by kernel_rfl
theorem zfX:SPAN 0 3=[(1,0),(0,2)]:=by kernel_rfl
theorem pc3:PC 3=2:=by kernel_rfl
theorem zgn:PLA 1 3=(0,[0,3]):=by kernel_rfl
theorem z4s (x y:List Int) (hx:x.length=32) (hy:y.length=32):HSH (x ++ y) 0=x∧HSH (x ++ y) 1=y:=by
  unfold HSH
  refine ⟨by simp [hx],?_⟩
  rw [show 32*1=x.length by omega,List.drop_left,List.take_of_length_le (by omega)]
theorem z6E (leaf x y:List Int) (hx:x.length=32) (hy:y.length=32):CLA 32 leaf 3 1 2 (x ++ y)=(0,2,z0J 32 x leaf ++ y):=by
  unfold CLA
  rw [zgn,if_neg (by simp),if_neg (by simp),pc3,zfX]
  unfold CLM
  rw [zgm,zfW]
  have h1:=(z4s x y hx hy).1
  have h2:=(z4s x y hx hy).2
  simp [CAT,JN,MPUT,HAND,h1,h2]
theorem zcs (x y:List Int) (hx:x.length=32) (hy:y.length=32):BAGA 32 3 2 (x ++ y)=(0,z1j 32 3 (z1s 32 x y)):=by
  unfold BAGA
  rw [pc3,if_neg (by decide),if_neg (by simp)]
  have h1:=(z4s x y hx hy).1
  have h2:=(z4s x y hx hy).2
  unfold FLD
  rw [if_neg (by decide)]
  simp [FA,h1,h2]
def AWB:List Int:=77 :: 3 :: 1 :: (HB 1 ++ HB 3)
theorem zct:DEC AWB=(0,3,1,2,HB 1 ++ HB 3):=by kernel_rfl
def AWR:List Int:=z1j 32 3 (z1s 32 (z0J 32 (HB 1) (HB 2)) (HB 3))
theorem z5y (leaf:List Int):MEMA 32 AWR 3 1 leaf AWB=if z1j 32 3 (z1s 32 (z0J 32 (HB 1) leaf) (HB 3))=AWR then 0 else 80:=by
  unfold MEMA
  rw [zct,if_neg (by simp),if_neg (by simp),if_neg (by simp)]
  dsimp only
  rw [z6E leaf (HB 1) (HB 3) rfl rfl]
  dsimp only
  unfold UNDA
  rw [zcs _ _ (z4X _ _ _).1 rfl]
  simp
theorem ze1:MEMA 32 AWR 3 1 (HB 2) AWB=0:=by
  rw [z5y,if_pos]
  rw [AWR]
theorem zfc:z0J 32 (HB 1) (HB 2)=LST HX.naS2:=by
  unfold z0J
  rw [show (1 :: (NATS (HB 1) ++ NATS (HB 2)))=([1,1,0,0,0,0,0,0,0,0,0,0,0,0,0,0,0,0,0,0,0,0,0,0,0,0,0,0,0,0,0,0,0,2,0,0,0,0,0,0,0,0,0,0,0,0,0,0,0,0,0,0,0,0,0,0,0,0,0,0,0,0,0,0,0]:List Nat) by kernel_rfl,HX.zfQ]
theorem zfd:z0J 32 (HB 1) (HB 1)=LST HX.nbS2:=by
  unfold z0J
  rw [show (1 :: (NATS (HB 1) ++ NATS (HB 1)))=([1,1,0,0,0,0,0,0,0,0,0,0,0,0,0,0,0,0,0,0,0,0,0,0,0,0,0,0,0,0,0,0,0,1,0,0,0,0,0,0,0,0,0,0,0,0,0,0,0,0,0,0,0,0,0,0,0,0,0,0,0,0,0,0,0]:List Nat) by kernel_rfl,HX.zfR]
theorem zfe:z1s 32 (LST HX.naS2) (HB 3)=LST HX.faS2:=by
  unfold z1s
  rw [show (2 :: (NATS (LST HX.naS2) ++ NATS (HB 3)))=([2,127,80,117,78,227,143,160,51,23,237,95,254,79,42,217,20,128,133,79,170,249,85,136,108,215,128,243,116,250,101,130,246,3,0,0,0,0,0,0,0,0,0,0,0,0,0,0,0,0,0,0,0,0,0,0,0,0,0,0,0,0,0,0,0]:List Nat) by kernel_rfl,HX.zfS]
theorem zff:z1s 32 (LST HX.nbS2) (HB 3)=LST HX.fbS2:=by
  unfold z1s
  rw [show (2 :: (NATS (LST HX.nbS2) ++ NATS (HB 3)))=([2,140,247,78,71,92,160,227,219,231,58,126,124,82,124,196,92,181,224,216,226,74,129,106,204,189,129,14,245,188,153,135,6,3,0,0,0,0,0,0,0,0,0,0,0,0,0,0,0,0,0,0,0,0,0,0,0,0,0,0,0,0,0,0,0]:List Nat) by kernel_rfl,HX.zfT]
theorem zfg:z1j 32 3 (LST HX.faS2)=LST HX.raS1:=by
  unfold z1j
  rw [show (3 :: (HX.BE8 3 ++ NATS (LST HX.faS2)))=([3,0,0,0,0,0,0,0,3,240,81,46,173,72,158,9,134,143,155,158,221,235,247,94,147,3,93,19,58,124,166,221,22,31,201,30,132,207,210,67,87]:List Nat) by kernel_rfl,HX.zfU]
theorem zfh:z1j 32 3 (LST HX.fbS2)=LST HX.rbS1:=by
  unfold z1j
  rw [show (3 :: (HX.BE8 3 ++ NATS (LST HX.fbS2)))=([3,0,0,0,0,0,0,0,3,164,137,134,81,1,2,52,15,240,241,170,153,18,113,89,240,26,243,232,37,96,151,10,62,241,77,73,229,189,62,141,99]:List Nat) by kernel_rfl,HX.zfV]
theorem zfi:MEMA 32 AWR 3 1 (HB 1) AWB=80:=by
  rw [z5y,if_neg]
  rw [AWR,zfd,zff,zfh,zfc,zfe,zfg]
  intro h
  have h0:=congrArg (fun l:List Int=>l.getD 0 0) h
  have e:∀ f:Nat→Nat,(LST f).getD 0 0=(f 0:Int):=fun f=>rfl
  simp only [e] at h0
  exact HX.z8D (by omega)
end Go.Proofs.YthjeeblddipiiaaGreatDoor
