/- Texts of ClashNothing, one behind the other: ClashAwake, NumLongCalls, NumLongPlain, ProofMark, ProofHashPlain, ProofHashes, ProofReaders, ProofLong, ProofDecodePlain, ProofInTurn, ProofSteps, ProofDecodeSteps, ProofDecode, ProofRoundPlain, ProofOwned, VerifyMember, VerifyReachRegion, CutJoins, VerifyReach, VerifyPrefix, VerifyTreeFetch. -/
import Derived.Deep.RegionLaw
import Derived.Laws.CopyOwn
import Derived.Test.YtbeelmlpalkohaaGreatDoorClashNothingP5
import Derived.Test.YtbeelmlpalkohaaGreatDoorClashNothingP6
import Derived.Test.YtbeelmlpalkohaaGreatDoorClashNothingP7
import Derived.Test.YtbeelmlpalkohaaGreatDoorClashNothingP13
import Derived.Test.YtbeelmlpalkohaaGreatDoorClashNothingP14
import Derived.Test.YtbeelmlpalkohaaGreatDoorClashNothingP19
import Derived.Test.YtbeelmlpalkohaaGreatDoorClashNothingP20
namespace Go.Proofs.YtbeelmlpalkohaaGreatDoor.HX
open Go.RowKit
set_option maxRecDepth 100000
theorem z8Q (w:World) (x:Nat) (hx:x<256):Text (w.alloc (.cells #[.int .u8 x] 5)) (some ⟨w.heap.size,0,none⟩) 1 [x]:=by
  refine ⟨rfl,fun _=>⟨w.heap.size,0,rfl,by simp,fun i hi=>?_⟩,fun y hy=>by simp at hy;omega⟩
  obtain rfl:i=0:=by omega
  rw [World.cell?_alloc_at _ _ _ _ rfl]
  rfl
theorem zbv (w:World) (x y z:Nat) (hx:x<256) (hy:y<256) (hz:z<256):Text (w.alloc (.cells #[.int .u8 x,.int .u8 y,.int .u8 z] 5)) (some ⟨w.heap.size,0,none⟩) 3 [x,y,z]:=by
  refine ⟨rfl,fun _=>⟨w.heap.size,0,rfl,by simp,fun i hi=>?_⟩,fun u hu=>by simp at hu;omega⟩
  rw [World.cell?_alloc_at _ _ _ _ rfl]
  have e:i=0∨i=1∨i=2:=by omega
  rcases e with rfl | rfl | rfl <;> rfl
theorem zbw (i:Nat) (L:List Nat) (h1:i=1142→L=[118,4,1]) (h2:L≠[0]):(((List.range 32).all fun i=>z0h 1 L i == z0h 1 [0] i)=true→z24 1 [0] L=true)∧(i=1142→((List.range 32).all fun i=>z0h 1 L i == z0h 1 [0] i)=true):=by
  refine ⟨fun h=>?_,fun h=>?_⟩
  · rw [z8z 1 (fun e=>h2 e.symm),List.all_eq_true]
    intro j hj
    have:=List.all_eq_true.1 h j hj
    simp only [beq_iff_eq] at this ⊢
    exact this.symm
  · rw [h1 h]
    exact zcP
theorem z7x (d:Int) (l:List Nat):∃ F:Nat→Nat,z0h d l=F:=⟨_,rfl⟩
theorem z9G (i:Nat) (L:List Nat) (h1:i=1142→L=[118,4,1]) (h2:L≠[0]) (F1 F2:Nat→Nat) (e1:z0h 1 L=F1) (e2:z0h 1 [0]=F2):∃ r:Bool,(∀ w,(Op.equalIn 10000 30 (.agg (UARR .u8 32 F1)) (.agg (UARR .u8 32 F2))).run Tryz.prog w=.ok r w)∧Aside ((r=true→z24 1 [0] L=true)∧(i=1142→r=true)):=by
  subst e1 e2
  exact ⟨_,fun w=>z65 _ _ w,zbw i L h1 h2⟩
set_option maxHeartbeats 4000000 in
theorem zcQ (w:World) (hT:Tabled w):Calls Tryz.prog 16 #[] w fun e w'=>e=.returned (.bool true)∧Below w.heap.size w w':=by
  have t1:Text (w.alloc (.cells #[.int .u8 0] 5)) (some ⟨w.heap.size,0,none⟩) 1 [0]:=z8Q w 0 (by decide)
  have b1:Below w.heap.size w (w.alloc (.cells #[.int .u8 0] 5)):=(Below.refl _ _).alloc (Nat.le_refl _) _
  have t2:Text ((w.alloc (.cells #[.int .u8 0] 5)).alloc (.cells #[.int .u8 0] 5)) (some ⟨w.heap.size,0,none⟩) 1 [0]:=t1.below ((Below.refl _ _).alloc (Nat.le_refl _) _)
  have t3:Text ((w.alloc (.cells #[.int .u8 0] 5)).alloc (.cells #[.int .u8 0] 5)) (some ⟨w.heap.size+1,0,none⟩) 1 [0]:=by
    have h:=z8Q (w.alloc (.cells #[.int .u8 0] 5)) 0 (by decide)
    rw [show (w.alloc (.cells #[.int .u8 0] 5)).heap.size=w.heap.size+1 by simp] at h
    exact h
  have b2:Below w.heap.size w ((w.alloc (.cells #[.int .u8 0] 5)).alloc (.cells #[.int .u8 0] 5)):=b1.alloc b1.size _
  have hsz:((w.alloc (.cells #[.int .u8 0] 5)).alloc (.cells #[.int .u8 0] 5)).heap.size=w.heap.size+2:=by simp
  have c1:=z7w 1 (some ⟨w.heap.size,0,none⟩) 1 1 [0] (some ⟨w.heap.size+1,0,none⟩) 1 1 [0] _ t2 (by decide) (fun x hx=>by cases hx;rw [hsz];simp) (by decide) t3 (by decide) (fun x hx=>by cases hx;rw [hsz];simp) (by decide) (hT.below b2)
  have z0:=z8y 1 [0]
  generalize z24 1 [0] [0]=z at *
  subst z0
  have R:Aside (Tabled w∧Text ((w.alloc (.cells #[.int .u8 0] 5)).alloc (.cells #[.int .u8 0] 5)) (some ⟨w.heap.size,0,none⟩) 1 [0]∧Below w.heap.size w ((w.alloc (.cells #[.int .u8 0] 5)).alloc (.cells #[.int .u8 0] 5))∧((w.alloc (.cells #[.int .u8 0] 5)).alloc (.cells #[.int .u8 0] 5)).heap.size=w.heap.size+2):=⟨hT,t2,b2,hsz⟩
  clear t1 b1 t2 t3 b2 hsz hT
  obtain ⟨F2,hF2⟩:=z7x 1 [0]
  go_enter Tryz.func16,Tryz.ntmps16
  go_wp2_with fail
  refine c1.mono ?_
  rintro e w1 ⟨rfl,hb1⟩
  clear c1
  have S:Aside (Tabled w∧Text w1 (some ⟨w.heap.size,0,none⟩) 1 [0]∧Below w.heap.size w w1∧w.heap.size<w1.heap.size):=⟨R.out.1,R.out.2.1.below hb1,R.out.2.2.1.trans (hb1.mono R.out.2.2.1.size),by have:=hb1.size;have:=R.out.2.2.2;omega⟩
  clear R hb1
  go_wp2_with fail
  obtain ⟨N0,hN0⟩:∃ N0:Nat,N0=1141:=⟨_,rfl⟩
  go_loopg [2,3] N0 (fun r s2 s3 wx=>∃ i:Nat,i+r=1142∧1≤i∧s3=.int .i64 i∧Aside (Below w1.heap.size w1 wx))
  case atStart=>exact ⟨1,by omega,by omega,rfl,Below.refl _ _⟩
  case round=>
    obtain ⟨i,hir,hi1,rfl,A⟩:=hrel
    have hlt:(i:Int)<100000:=by omega
    have e1:((i % 256:Nat):Int)=(i:Int) % 256:=by omega
    have e2:((i / 256:Nat):Int)=(i:Int) / 256:=by omega
    have tx:=zbv wr (i % 256) (i / 256) 1 (by omega) (by omega) (by decide)
    rw [e1,e2] at tx
    have bx:Below wr.heap.size wr (wr.alloc (.cells #[.int .u8 ((i:Int) % 256),.int .u8 ((i:Int) / 256),.int .u8 ((1:Nat):Int)] 5)):=(Below.refl _ _).alloc (Nat.le_refl _) _
    have sx:(wr.alloc (.cells #[.int .u8 ((i:Int) % 256),.int .u8 ((i:Int) / 256),.int .u8 ((1:Nat):Int)] 5)).heap.size=wr.heap.size+1:=by simp
    have hq1:i=1142→[i % 256,i / 256,1]=[118,4,1]:=fun h=>by subst h;rfl
    have Sw:Aside (Below w.heap.size w wr∧w.heap.size<wr.heap.size):=⟨S.out.2.2.1.trans (A.out.mono S.out.2.2.1.size),Nat.lt_of_lt_of_le S.out.2.2.2 A.out.size⟩
    have HL:Aside ((i=1142→[i % 256,i / 256,1]=[118,4,1])∧[i % 256,i / 256,1]≠[0]):=⟨hq1,by simp⟩
    generalize [i % 256,i / 256,1]=L at *
    have ca:=sum9 1 ((wr.alloc (.cells #[.int .u8 ((i:Int) % 256),.int .u8 ((i:Int) / 256),.int .u8 ((1:Nat):Int)] 5)).alloc (.cells #[.slice (some ⟨wr.heap.size,0,none⟩) 3 3] 39)) (wr.heap.size+1) (some ⟨wr.heap.size,0,none⟩) 3 3 L (Has.at _ _ _ sx.symm) (tx.below ((Below.refl _ _).alloc (Nat.le_refl _) _)) (by decide) (fun x hx=>by cases hx;simp;omega) (by decide) (S.out.1.below ((Sw.out.1.trans (bx.mono Sw.out.1.size)).alloc (by rw [sx];have:=Sw.out.2;omega) _))
    obtain ⟨F1,hF1⟩:=z7x 1 L
    rw [hF1] at ca
    obtain ⟨wa,hwa⟩:∃ wa,(wr.alloc (.cells #[.int .u8 ((i:Int) % 256),.int .u8 ((i:Int) / 256),.int .u8 ((1:Nat):Int)] 5)).alloc (.cells #[.slice (some ⟨wr.heap.size,0,none⟩) 3 3] 39)=wa:=⟨_,rfl⟩
    have ba:Below w.heap.size w wa:=by rw [← hwa];exact (Sw.out.1.trans (bx.mono Sw.out.1.size)).alloc (by rw [sx];have:=Sw.out.2;omega) _
    have br:Below wr.heap.size wr wa:=by rw [← hwa];exact bx.alloc (by rw [sx];omega) _
    have ta:Text wa (some ⟨wr.heap.size,0,none⟩) 3 L:=by rw [← hwa];exact tx.below ((Below.refl _ _).alloc (Nat.le_refl _) _)
    have ga:wr.heap.size<wa.heap.size:=by rw [← hwa];simp;omega
    clear tx bx sx hq1
    go_wp2_with fail
    rw [show (Value.int IntKind.u8 1)=.int .u8 ((1:Nat):Int) from rfl]
    rw [hwa] at ca ⊢
    refine ca.mono ?_
    rintro e w2 ⟨rfl,hb2⟩
    clear ca hwa
    have b2:Below w.heap.size w w2:=ba.trans (hb2.mono ba.size)
    have cb:=sum9 1 (w2.alloc (.cells #[.slice (some ⟨w.heap.size,0,none⟩) 1 1] 39)) w2.heap.size (some ⟨w.heap.size,0,none⟩) 1 1 [0] (Has.new _ _ _) ((((S.out.2.1.below A.out).below br).below hb2).below ((Below.refl _ _).alloc (Nat.le_refl _) _)) (by decide) (fun x hx=>by cases hx;simp;have:=Sw.out.2;have:=hb2.size;omega) (by decide) (S.out.1.below (b2.alloc b2.size _))
    rw [hF2] at cb
    have M:Aside (Below w.heap.size w w2∧Text w2 (some ⟨wr.heap.size,0,none⟩) 3 L∧wr.heap.size<w2.heap.size∧Text w2 (some ⟨w.heap.size,0,none⟩) 1 [0]∧Below wr.heap.size wr w2):=⟨b2,ta.below hb2,Nat.lt_of_lt_of_le ga hb2.size,((S.out.2.1.below A.out).below br).below hb2,br.trans (hb2.mono br.size)⟩
    clear ba br ta ga hb2 b2
    go_wp2_with fail
    refine cb.mono ?_
    rintro e w3 ⟨rfl,hb3⟩
    clear cb
    have M3:Aside (Below w.heap.size w w3∧Text w3 (some ⟨wr.heap.size,0,none⟩) 3 L∧wr.heap.size<w3.heap.size∧Text w3 (some ⟨w.heap.size,0,none⟩) 1 [0]∧Below wr.heap.size wr w3):=by
      have hbb:Below w2.heap.size w2 w3:=((Below.refl _ _).alloc (Nat.le_refl _) _).trans (hb3.mono (by simp))
      obtain ⟨m1,m2,m3,m4,m5⟩:=M.out
      exact ⟨m1.trans (hbb.mono m1.size),m2.below hbb,Nat.lt_of_lt_of_le m3 hbb.size,m4.below hbb,m5.trans (hbb.mono m5.size)⟩
    clear M hb3
    obtain ⟨r,hq,HH⟩:=z9G i L HL.out.1 HL.out.2 F1 F2 hF1 hF2
    clear hF1
    cases r with
    | true=>
      have ch:=z7w 1 (some ⟨w.heap.size,0,none⟩) 1 1 [0] (some ⟨wr.heap.size,0,none⟩) 3 3 L w3 M3.out.2.2.2.1 (by decide) (fun x hx=>by cases hx;have:=Sw.out.2;have:=M3.out.2.2.1;show w.heap.size<_;omega) (by decide) M3.out.2.1 (by decide) (fun x hx=>by cases hx;exact M3.out.2.2.1) (by decide) (S.out.1.below M3.out.1)
      rw [HH.out.1 rfl] at ch
      clear HH
      go_wp2_with fail
      refine ch.mono ?_
      rintro e w4 ⟨rfl,hb4⟩
      clear ch
      have N:Aside (Below w.heap.size w w4):=M3.out.1.trans (hb4.mono M3.out.1.size)
      clear hb4
      go_wp2
      go_ret
      exact ⟨rfl,N.out⟩
    | false=>
      have hne:i≠1142:=fun h=>by have:=HH.out.2 h;cases this
      have e3:wrap64 ((i:Int)+1)=((i+1:Nat):Int):=by unfold wrap64;omega
      have B:Aside (Below w1.heap.size w1 w3):=A.out.trans (M3.out.2.2.2.2.mono A.out.size)
      obtain ⟨gk',rfl⟩:∃ g,gk=g+1:=⟨gk - 1,by omega⟩
      clear HH
      go_wp2
      go_roundg gk'
      case measure=>omega
      exact ⟨i+1,by omega,by omega,rfl,B.out⟩
end Go.Proofs.YtbeelmlpalkohaaGreatDoor.HX

namespace Go.Proofs.YtbeelmlpalkohaaGreatDoor
open Go.RowKit
def LG (l:List Int) (n:Nat):Nat→Nat→Int→Int × Int × Int
  | 0,_,_=>(0,0,10)
  | f+1,k,x=>if k=n then (0,0,11) else if 128≤l.getD k 0 then LG l n f (k+1) (x+l.getD k 0 % 128*128 ^ k)
    else if k=9∧1<l.getD k 0 then (0,0,10) else if l.getD k 0=0∧0<k then (0,0,12) else (x+l.getD k 0*128 ^ k,(k:Int)+1,0)
theorem zh0 {l:List Int} {n f k:Nat} {x:Int} (h:k≠n) (hc:128≤l.getD k 0):LG l n (f+1) k x=LG l n f (k+1) (x+l.getD k 0 % 128*128 ^ k):=by
  show (if k=n then _ else _)=_
  rw [if_neg h,if_pos hc]
theorem pow7 (k:Nat):(2:Nat) ^ (7*k)=128 ^ k:=by rw [Nat.pow_mul]
theorem z7y (L k:Nat):SHL L (7*(k:Int))=L*128 ^ k % 2 ^ 64:=by
  unfold SHL
  rw [if_neg (by omega),show (7*(k:Int)).toNat=7*k by omega,pow7]
theorem z9H {L k:Nat} (hL:L<128) (hk:k≤8):L*128 ^ k % 2 ^ 64=L*128 ^ k:=by
  have h:=Nat.pow_le_pow_right (n:=128) (by decide) hk
  have h2:L*128 ^ k≤127*128 ^ 8:=Nat.mul_le_mul (by omega) h
  exact Nat.mod_eq_of_lt (Nat.lt_of_le_of_lt h2 (by decide))
theorem z8R {x L k:Nat} (hx:x<128 ^ k) (hL:L<128) (hk:k≤8):bits .or .u64 (x:Int) ((L*128 ^ k % 2 ^ 64:Nat):Int)=((x+L*128 ^ k:Nat):Int):=by
  have h8:=Nat.pow_le_pow_right (n:=128) (by decide) hk
  have hx2:x<2 ^ 64:=Nat.lt_of_lt_of_le hx (Nat.le_trans h8 (by decide))
  rw [z5L hx2 (Nat.mod_lt _ (by decide)),z9H hL hk,Nat.or_comm,nat_join (7*k) _ x (by rw [pow7];exact Nat.mul_mod_left _ _) (by rw [pow7];exact hx),Nat.add_comm]
theorem zcR {x L:Nat} (hx:x<128 ^ 9) (hL:L<2):bits .or .u64 (x:Int) ((L*128 ^ 9 % 2 ^ 64:Nat):Int)=((x+L*128 ^ 9:Nat):Int):=by
  have h1:L*128 ^ 9 % 2 ^ 64=L*128 ^ 9:=Nat.mod_eq_of_lt (by omega)
  rw [z5L (Nat.lt_of_lt_of_le hx (by decide)) (Nat.mod_lt _ (by decide)),h1,Nat.or_comm,nat_join (7*9) _ x (by omega) (by omega),Nat.add_comm]
def Gath (l:List Int) (n k:Nat) (y:Int) (R:Int × Int × Int):Prop:=∃ x:Nat,LG l n (10 - k) k (x:Int)=R∧(k≤9→y=(x:Int)∧x<128 ^ k)
theorem Gath.next {l:List Int} {n k:Nat} {y v p:Int} {R:Int × Int × Int} (A:Gath l n k y R) (hk:k≤9) (hkn:k≠n) (hv:l.getD k 0=v) (h0:128≤v)
    (hp:p=((SHL (v % 128).toNat (7*(k:Int)):Nat):Int)):Gath l n (k+1) (bits .or .u64 y p) R:=by
  obtain ⟨x,hx,hy⟩:=A
  obtain ⟨rfl,hlt⟩:=hy hk
  obtain ⟨L,hL⟩:∃ L:Nat,v % 128=(L:Int):=⟨(v % 128).toNat,by omega⟩
  rw [show 10 - k=10 - (k+1)+1 by omega,zh0 hkn (by rw [hv];exact h0),hv,hL] at hx
  have hL128:L<128:=by omega
  rw [hL,Int.toNat_natCast,z7y] at hp
  refine ⟨x+L*128 ^ k,?_,fun h=>?_⟩
  · rw [← hx]
    congr 1
  · rw [hp,z8R hlt hL128 (by omega)]
    refine ⟨rfl,?_⟩
    have:L*128 ^ k≤127*128 ^ k:=Nat.mul_le_mul_right _ (by omega)
    rw [Nat.pow_succ]
    omega
theorem Gath.val {l:List Int} {n k:Nat} {y v p:Int} {R:Int × Int × Int} (A:Gath l n k y R) (hk:k≤9) (h0:0≤v) (h1:¬ 128≤v) (h9:¬ (k=9∧1<v))
    (hp:p=((SHL (v % 128).toNat (7*(k:Int)):Nat):Int)):bits .or .u64 y p=y+v*128 ^ k:=by
  obtain ⟨x,_,hy⟩:=A
  obtain ⟨rfl,hlt⟩:=hy hk
  obtain ⟨L,rfl⟩:∃ L:Nat,v=(L:Int):=⟨v.toNat,by omega⟩
  rw [show (((L:Int) % 128).toNat)=L by omega,z7y] at hp
  by_cases h:k=9
  · subst h
    rw [hp,zcR hlt (by omega)]
    simp
  · rw [hp,z8R hlt (by omega) (by omega)]
    simp
end Go.Proofs.YtbeelmlpalkohaaGreatDoor

namespace Go.Proofs.YtbeelmlpalkohaaGreatDoor
open Go.RowKit
def VAL (d:Nat→Nat):Nat→Nat
  | 0=>0
  | m+1=>VAL d m+d m*128 ^ m
theorem z4d {d:Nat→Nat} (hd:∀ i,d i<128):∀ m,VAL d m<128 ^ m
  | 0=>by simp [VAL]
  | m+1=>by
    have:=z4d hd m
    have h2:d m*128 ^ m≤127*128 ^ m:=Nat.mul_le_mul_right _ (by have:=hd m;omega)
    simp only [VAL,Nat.pow_succ]
    omega
theorem z1W {d e:Nat→Nat}:∀ m,(∀ i,i<m→d i=e i)→VAL d m=VAL e m
  | 0,_=>rfl
  | m+1,h=>by rw [VAL,VAL,z1W m (fun i hi=>h i (by omega)),h m (by omega)]
end Go.Proofs.YtbeelmlpalkohaaGreatDoor

namespace Go.Proofs.YtbeelmlpalkohaaGreatDoor
open Go.RowKit
set_option maxRecDepth 100000
theorem Bytes.rest {w:World} {b off n:Nat} {l:List Int} (h:Bytes w (some ⟨b,off,none⟩) n l) (k:Nat) (hk:k≤n):Bytes w (some ⟨b,off+k,none⟩) (n - k) (l.drop k):=by
  refine ⟨by rw [List.length_drop,h.1],fun hn=>?_,fun x hx=>h.2.2 x (List.mem_of_mem_drop hx)⟩
  obtain ⟨b',o',e,hl,hc⟩:=h.2.1 (by omega)
  simp only [Option.some.injEq,Addr.mk.injEq] at e
  obtain ⟨rfl,rfl,_⟩:=e
  refine ⟨b,off+k,rfl,hl,fun i hi=>?_⟩
  rw [show off+k+i=off+(k+i) by omega,hc (k+i) (by omega)]
  congr 2
  rw [List.getD_eq_getElem?_getD,List.getD_eq_getElem?_getD,List.getElem?_drop]
def REST (b off c k:Nat):Option Addr:=if c=k then some ⟨b,off,none⟩ else some ⟨b,off+k,none⟩
theorem Bytes.behind {w:World} {b off n c:Nat} {l:List Int} (h:Bytes w (some ⟨b,off,none⟩) n l) (k:Nat) (hk:k≤n) (hc:n≤c):Bytes w (REST b off c k) (n - k) (l.drop k):=by
  unfold REST
  split
  · have h0:n - k=0:=by omega
    rw [h0]
    refine ⟨?_,fun h=>by omega,fun x hx=>h.2.2 x (List.mem_of_mem_drop hx)⟩
    rw [List.length_drop,h.1,h0]
  · exact h.rest k hk
end Go.Proofs.YtbeelmlpalkohaaGreatDoor

namespace Go.Proofs.YtbeelmlpalkohaaGreatDoor
open Go.RowKit
set_option maxRecDepth 100000
end Go.Proofs.YtbeelmlpalkohaaGreatDoor

namespace Go.Proofs.YtbeelmlpalkohaaGreatDoor
open Go.RowKit
set_option maxRecDepth 100000
end Go.Proofs.YtbeelmlpalkohaaGreatDoor

namespace Go.Proofs.YtbeelmlpalkohaaGreatDoor
open Go.RowKit
set_option maxRecDepth 100000
end Go.Proofs.YtbeelmlpalkohaaGreatDoor

namespace Go.Proofs.YtbeelmlpalkohaaGreatDoor
open Go.RowKit
def LNG (t:List Int):Int × Int × Int:=LG t t.length 10 0 0
end Go.Proofs.YtbeelmlpalkohaaGreatDoor

namespace Go.Proofs.YtbeelmlpalkohaaGreatDoor
open Go.RowKit
abbrev DANS:=Int × Nat × Nat × Nat × List Int
def DERR (E:Int):DANS:=(E,0,0,0,[])
def DC3 (PF:Nat→Nat→Int × List Nat) (X Y:Nat) (t:List Int):DANS:=
  if (PF X Y).1≠0 then DERR (PF X Y).1 else if t.length<32*(PF X Y).2.length then DERR 11 else if 32*(PF X Y).2.length<t.length then DERR 13 else (0,X,Y,(PF X Y).2.length,t)
def DC2 (PF:Nat→Nat→Int × List Nat) (X:Nat) (t:List Int):DANS:=
  if (LNG t).2.2≠0 then DERR (LNG t).2.2 else DC3 PF X (LNG t).1.toNat (t.drop (LNG t).2.1.toNat)
def DC1 (chk:Nat→Bool) (PF:Nat→Nat→Int × List Nat) (t:List Int):DANS:=
  if (LNG t).2.2≠0 then DERR (LNG t).2.2 else if chk (LNG t).1.toNat=true then DERR 30 else DC2 PF (LNG t).1.toNat (t.drop (LNG t).2.1.toNat)
def DC0 (K:Int) (chk:Nat→Bool) (PF:Nat→Nat→Int × List Nat) (l:List Int):DANS:=
  if l.length=0 then DERR 11 else if l.getD 0 0≠K then DERR 14 else DC1 chk PF (l.drop 1)
end Go.Proofs.YtbeelmlpalkohaaGreatDoor

namespace Go.Proofs.YtbeelmlpalkohaaGreatDoor
open Go.RowKit
set_option maxRecDepth 100000
end Go.Proofs.YtbeelmlpalkohaaGreatDoor

namespace Go.Proofs.YtbeelmlpalkohaaGreatDoor
open Go.RowKit
set_option maxRecDepth 100000
def zi2 (v:Value) (X Y:Nat) (nv:Value):Array Value:=#[v,.int .u64 (X:Int),.int .u64 (Y:Int),nv]
structure FRM (w0 w:World) (rb gl:Nat) (t:TypeId) (v:Value) (X Y:Nat) (nv:Value) (fl:Array Value) (tf:TypeId):Prop where
  bel:Below w0.heap.size w0 w
  rd:Has w rb (zi2 v X Y nv) t
  fl:Has w gl fl tf
  ne:gl≠rb
  lb:w0.heap.size≤rb
  lg:w0.heap.size≤gl
def SRC (w0:World) (a:Option Addr) (c:Nat) (t:List Int):Prop:=Bytes w0 a t.length t∧t.length≤c∧t.length≤1000000
theorem FRM.drew {w0 w:World} {rb gl:Nat} {t:TypeId} {v:Value} {X Y:Nat} {nv:Value} {fl:Array Value} {tf:TypeId} (h:FRM w0 w rb gl t v X Y nv fl tf):FRM w0 w.drew rb gl t v X Y nv fl tf:=⟨h.bel.drew,h.rd,h.fl,h.ne,h.lb,h.lg⟩
theorem FRM.keep {w0 w w':World} {rb gl:Nat} {t:TypeId} {v:Value} {X Y:Nat} {nv:Value} {fl:Array Value} {tf:TypeId} (h:FRM w0 w rb gl t v X Y nv fl tf) (hb:Below w.heap.size w w'):FRM w0 w' rb gl t v X Y nv fl tf:=⟨h.bel.trans (hb.mono h.bel.size),h.rd.keep hb,h.fl.keep hb,h.ne,h.lb,h.lg⟩
theorem FRM.rest {w0 w:World} {rb gl:Nat} {t:TypeId} {v:Value} {X Y:Nat} {nv:Value} {fl:Array Value} {tf:TypeId} (h:FRM w0 w rb gl t v X Y nv fl tf) (v':Value):FRM w0 (w.setCell ⟨rb,0,none⟩ v') rb gl t v' X Y nv fl tf:=
  ⟨h.bel.setCell (p:=⟨rb,0,none⟩) h.lb _,h.rd.set 0 v',h.fl.other (a:=⟨rb,0,none⟩) h.ne _,h.ne,h.lb,h.lg⟩
theorem FRM.nodes {w0 w:World} {rb gl:Nat} {t:TypeId} {v:Value} {X Y:Nat} {nv:Value} {fl:Array Value} {tf:TypeId} (h:FRM w0 w rb gl t v X Y nv fl tf) (nv':Value):FRM w0 (w.setCell ⟨rb,3,none⟩ nv') rb gl t v X Y nv' fl tf:=
  ⟨h.bel.setCell (p:=⟨rb,3,none⟩) h.lb _,h.rd.set 3 _,h.fl.other (a:=⟨rb,3,none⟩) h.ne _,h.ne,h.lb,h.lg⟩
theorem SRC.drop {w0:World} {b off c:Nat} {t:List Int} (h:SRC w0 (some ⟨b,off,none⟩) c t) (k:Nat) (hk:k≤t.length):SRC w0 (REST b off c k) (c - k) (t.drop k):=by
  obtain ⟨h1,h2,h3⟩:=h
  have:=h1.behind k hk h2
  refine ⟨?_,by rw [List.length_drop];omega,by rw [List.length_drop];omega⟩
  rw [List.length_drop]
  exact this
end Go.Proofs.YtbeelmlpalkohaaGreatDoor

namespace Go.Proofs.YtbeelmlpalkohaaGreatDoor
open Go.RowKit
set_option maxRecDepth 100000
end Go.Proofs.YtbeelmlpalkohaaGreatDoor

namespace Go.Proofs.YtbeelmlpalkohaaGreatDoor
open Go.RowKit
set_option maxRecDepth 100000
def DECD (w:World) (D:DANS) (e:Ending) (w':World):Prop:=
  ∃ v,e=.returned (.tuple #[v,.int .i64 D.1])∧Below w.heap.size w w'∧((D.1≠0∧v=.agg #[.int .u64 0,.int .u64 0,.slice none 0 0])∨(D.1=0∧D.2.1<2 ^ 64∧D.2.2.1<2 ^ 64∧D.2.2.2.2.length=32*D.2.2.2.1∧(∀ x∈D.2.2.2.2,0≤x∧x≤255)∧∃ g,v=.agg #[.int .u64 (D.2.1:Int),.int .u64 (D.2.2.1:Int),.slice (some ⟨g,0,none⟩) D.2.2.2.1 D.2.2.2.1]∧w.heap.size≤g∧Has w' g (z00 D.2.2.2.2).toArray 30))
end Go.Proofs.YtbeelmlpalkohaaGreatDoor

namespace Go.Proofs.YtbeelmlpalkohaaGreatDoor
open Go.RowKit
end Go.Proofs.YtbeelmlpalkohaaGreatDoor

namespace Go.Proofs.YtbeelmlpalkohaaGreatDoor
open Go.RowKit
set_option maxRecDepth 100000
theorem zh1 (PF:Nat→Nat→Int × List Nat) (X Y:Nat) (t:List Int):DC3 PF X Y t=DERR (DC3 PF X Y t).1∨(DC3 PF X Y t).1=0:=by
  unfold DC3
  split
  · exact .inl rfl
  · split
    · exact .inl rfl
    · split
      · exact .inl rfl
      · exact .inr rfl
theorem zh2 (PF:Nat→Nat→Int × List Nat) (X:Nat) (t:List Int):DC2 PF X t=DERR (DC2 PF X t).1∨(DC2 PF X t).1=0:=by
  unfold DC2
  split
  · exact .inl rfl
  · exact zh1 _ _ _ _
theorem zh3 (chk:Nat→Bool) (PF:Nat→Nat→Int × List Nat) (t:List Int):DC1 chk PF t=DERR (DC1 chk PF t).1∨(DC1 chk PF t).1=0:=by
  unfold DC1
  split
  · exact .inl rfl
  · split
    · exact .inl rfl
    · exact zh2 _ _ _
theorem zh4 {K:Int} {chk:Nat→Bool} {PF:Nat→Nat→Int × List Nat} {l:List Int} (h:(DC0 K chk PF l).1≠0):DC0 K chk PF l=DERR (DC0 K chk PF l).1:=by
  have:DC0 K chk PF l=DERR (DC0 K chk PF l).1∨(DC0 K chk PF l).1=0:=by
    unfold DC0
    split
    · exact .inl rfl
    · split
      · exact .inl rfl
      · exact zh3 _ _ _
  rcases this with h1 | h1
  · exact h1
  · exact absurd h1 h
theorem zbx {w:World} {B g N:Nat} {l:List Int} (h:Has w g (z00 l).toArray 30) (hl:l.length=32*N) (hB:B≤g) (hN:N≤1000):w.ownsRow B 30 32 (.slice (some ⟨g,0,none⟩) N N) N (z00 l):=by
  refine ⟨by rw [z00,List.length_map,hl,Nat.mul_comm],.inr ⟨g,N,_,rfl,hB,h,Nat.le_refl _,by simp [maxLen];omega,?_,?_⟩⟩
  · simp [z00,hl,Nat.mul_comm]
  · rw [List.take_of_length_le (by simp [z00,hl];omega)]
def DECO (w:World) (D:DANS) (e:Ending) (w':World):Prop:=
  ∃ a c,e=.returned (.tuple #[.agg #[.int .u64 (D.2.1:Int),.int .u64 (D.2.2.1:Int),.slice a D.2.2.2.1 c],.int .i64 D.1])∧w'.ownsRow w.heap.size 30 32 (.slice a D.2.2.2.1 c) D.2.2.2.1 (z00 D.2.2.2.2)∧(∀ x∈D.2.2.2.2,0≤x∧x≤255)∧Below w.heap.size w w'
theorem DECD.own {w w':World} {K:Int} {chk:Nat→Bool} {PF:Nat→Nat→Int × List Nat} {l:List Int} {e:Ending} (h:DECD w (DC0 K chk PF l) e w') (hf:(DC0 K chk PF l).1=0→(DC0 K chk PF l).2.2.2.1≤1000):DECO w (DC0 K chk PF l) e w':=by
  obtain ⟨v,rfl,hb,h⟩:=h
  rcases h with ⟨hE,rfl⟩ | ⟨hE,h1,h2,h3,h4,g,rfl,hg,hh⟩
  · have hD:=zh4 hE
    rw [hD]
    refine ⟨none,0,rfl,World.ownsRow_nil _ _ _ _,by simp [DERR],hb⟩
  · exact ⟨_,_,rfl,zbx hh h3 hg (hf hE),h4,hb⟩
structure FAM (M:Nat) (t:TypeId) (s:Nat) (w:World) (B:Nat) (K:Nat→Prop) (v:Nat→Value) (n:Nat→Nat) (xs:Nat→List Value):Prop where
  row:∀ x,x<M→w.ownsRow B t s (v x) (n x) (xs x)
  apart:∀ x y,x<M→y<M→x≠y→∀ g,(v x).ownBlock=some g→(v y).ownBlock≠some g
  off:∀ x,x<M→∀ g,(v x).ownBlock=some g→¬ K g
theorem FAM.below {M:Nat} {t:TypeId} {s:Nat} {w w':World} {B:Nat} {K:Nat→Prop} {v:Nat→Value} {n:Nat→Nat} {xs:Nat→List Value} (h:FAM M t s w B K v n xs) (hb:Below w.heap.size w w'):FAM M t s w' B K v n xs:=⟨fun x hx=>z10 (h.row x hx) hb,h.apart,h.off⟩
theorem FAM.heap {M:Nat} {t:TypeId} {s:Nat} {w w':World} {B:Nat} {K:Nat→Prop} {v:Nat→Value} {n:Nat→Nat} {xs:Nat→List Value} (h:FAM M t s w B K v n xs) (hk:∀ k,k<w.heap.size→¬ K k→w'.heap[k]?=w.heap[k]?):FAM M t s w' B K v n xs:=⟨fun x hx=>z8f (h.row x hx) fun k e=>hk k ((h.row x hx).lt k e).2 (h.off x hx k e),h.apart,h.off⟩
theorem FAM.turn {M:Nat} {t:TypeId} {s:Nat} {w w':World} {B:Nat} {K:Nat→Prop} {v:Nat→Value} {n:Nat→Nat} {xs:Nat→List Value} (h:FAM M t s w B K v n xs) {x g m c:Nat} {ys:List Value} (hx:x<M) (hK:∀ k,K k→k<w.heap.size)
    (hown:w'.ownsRow B t s (.slice (some ⟨g,0,none⟩) m c) m ys) (hg:w.grownBy w' (v x).ownBlock) (hat:(v x).ownBlock=some g∨w.heap.size≤g):FAM M t s w' B K (UPD v x (.slice (some ⟨g,0,none⟩) m c)) (UPD n x m) (UPD xs x ys)∧∀ k,K k→w'.heap[k]?=w.heap[k]?:=by
  have hgx:∀ y,y<M→y≠x→(v y).ownBlock≠some g:=fun y hy hne e=>by
    rcases hat with h1 | h1
    · exact h.apart x y hx hy (fun e=>hne e.symm) g h1 e
    · have:=((h.row y hy).lt g e).2
      omega
  refine ⟨⟨fun y hy=>?_,fun y z hy hz hne k e=>?_,fun y hy k e hk=>?_⟩,fun k hk=>hg.block k (hK k hk) fun e=>h.off x hx k e.symm hk⟩
  · by_cases e:y=x
    · subst e
      rw [z2C,z2C,z2C]
      exact hown
    · rw [z1j _ _ e,z1j _ _ e,z1j _ _ e]
      exact z8f (h.row y hy) fun k hk=>hg.block k ((h.row y hy).lt k hk).2 fun e2=>h.apart x y hx hy (fun e3=>e e3.symm) k e2.symm hk
  · by_cases e1:y=x
    · subst e1
      rw [z2C] at e
      have e:g=k:=by simpa [Value.ownBlock] using e
      subst e
      rw [z1j _ _ (fun e2=>hne e2.symm)]
      exact hgx z hz fun e2=>hne e2.symm
    · rw [z1j _ _ e1] at e
      by_cases e2:z=x
      · subst e2
        rw [z2C]
        intro e3
        have e3:g=k:=by simpa [Value.ownBlock] using e3
        subst e3
        exact hgx y hy e1 e
      · rw [z1j _ _ e2]
        exact h.apart y z hy hz hne k e
  · by_cases e1:y=x
    · subst e1
      rw [z2C] at e
      have e:g=k:=by simpa [Value.ownBlock] using e
      subst e
      rcases hat with h1 | h1
      · exact h.off y hy g h1 hk
      · have:=hK g hk
        omega
    · rw [z1j _ _ e1] at e
      exact h.off y hy k e hk
end Go.Proofs.YtbeelmlpalkohaaGreatDoor

namespace Go.Proofs.YtbeelmlpalkohaaGreatDoor
open Go.RowKit
set_option maxRecDepth 100000
end Go.Proofs.YtbeelmlpalkohaaGreatDoor

namespace Go.Proofs.YtbeelmlpalkohaaGreatDoor
open Go.RowKit
set_option maxRecDepth 100000
end Go.Proofs.YtbeelmlpalkohaaGreatDoor

namespace Go.Proofs.YtbeelmlpalkohaaGreatDoor
open Go.RowKit
end Go.Proofs.YtbeelmlpalkohaaGreatDoor

namespace Go.Proofs.YtbeelmlpalkohaaGreatDoor
open Go.RowKit
set_option maxRecDepth 100000
theorem z6a {w:World} {base:Nat} {t:TypeId} {s:Nat} {v:Value} {n:Nat} {xs:List Value} (h:w.ownsRow base t s v n xs):∃ ad cap,v=.slice ad n cap∧n≤cap∧(0<n→∃ g,ad=some ⟨g,0,none⟩∧base≤g∧g<w.heap.size):=by
  rcases h.2 with ⟨rfl,h0⟩ | ⟨g,cap,cur,rfl,hb,hg,r⟩
  · subst h0
    exact ⟨none,0,rfl,Nat.le_refl _,fun h=>by omega⟩
  · exact ⟨_,cap,rfl,r.1,fun _=>⟨g,rfl,hb,(Array.getElem?_eq_some_iff.1 hg).1⟩⟩
structure JSOK (F k:Nat) (js:List (Nat × Nat)):Prop where
  few:js.length≤62
  each:∀ (i x y:Nat),js[i]?=some (x,y)→1≤x∧x<200∧2*y+1<2 ^ 64
  call:∀ w,Tabled w→0<w.heap.size→Calls Tryz.prog 95 #[.int .u64 (F:Int),.int .u64 (k:Int)] w fun e w'=>∃ v,e=.returned v∧w'.ownsRow w.heap.size 96 2 v js.length (z0z js)∧Below w.heap.size w w'
end Go.Proofs.YtbeelmlpalkohaaGreatDoor

namespace Go.Proofs.YtbeelmlpalkohaaGreatDoor
open Go.RowKit
set_option maxRecDepth 100000
end Go.Proofs.YtbeelmlpalkohaaGreatDoor

namespace Go.Proofs.YtbeelmlpalkohaaGreatDoor
open Go.RowKit
set_option maxRecDepth 100000
def TFL (G:Nat→List Int) (P:List Nat) (j:Nat):List Int:=(List.range j).flatMap fun i=>G (P.getD i 0)
theorem z8S (G:Nat→List Int) (P:List Nat) (j:Nat):TFL G P (j+1)=TFL G P j ++ G (P.getD j 0):=by simp [TFL,List.range_succ]
def z2R (w:World) (g:Nat) (G:Nat→List Int) (EN:Nat→Int) (P:List Nat):Prop:=
  ∀ W,Below w.heap.size w W→∀ p∈P,Calls Tryz.prog 50 #[.pointer (some ⟨g,0,none⟩),.int .u64 (p:Int)] W fun e w'=>e=.returned (.tuple #[.agg (z00 (G p)).toArray,.int .i64 (EN p)])∧Below W.heap.size W w'
def z2I (w:World) (G:Nat→List Int) (EN:Nat→Int) (P:List Nat) (e:Ending) (w':World):Prop:=
  Below w.heap.size w w'∧
  (((∀ p∈P,EN p=0)∧∃ u,e=.returned (.tuple #[u,.int .i64 0])∧w'.ownsRow w.heap.size 30 32 u P.length (z00 (TFL G P P.length)))∨
   (∃ j,j<P.length∧(∀ i,i<j→EN (P.getD i 0)=0)∧EN (P.getD j 0)≠0∧e=.returned (.tuple #[.slice none 0 0,.int .i64 (EN (P.getD j 0))])))
structure TFE (w0 w:World) (G:Nat→List Int) (EN:Nat→Int) (P:List Nat) (j:Nat) (u:Value):Prop where
  row:w.ownsRow w0.heap.size 30 32 u j (z00 (TFL G P j))
  bel:Below w0.heap.size w0 w
  ok:∀ i,i<j→EN (P.getD i 0)=0
theorem TFE.all {w w':World} {G:Nat→List Int} {EN:Nat→Int} {P:List Nat} {j:Nat} {u:Value} (h:TFE w w' G EN P j u) (hj:j=P.length):z2I w G EN P (.returned (.tuple #[u,.int .i64 0])) w':=by
  subst hj
  refine ⟨h.bel,.inl ⟨fun p hp=>?_,u,rfl,h.row⟩⟩
  obtain ⟨i,hi,rfl⟩:=List.getElem_of_mem hp
  have:=h.ok i hi
  rw [List.getD_eq_getElem?_getD,List.getElem?_eq_getElem hi] at this
  exact this
set_option maxHeartbeats 4000000 in
theorem zcS (g gp cp:Nat) (G:Nat→List Int) (EN:Nat→Int) (P:List Nat) (w:World) (hP:P.length≤188) (h0:0<P.length) (hG:∀ p,(G p).length=32) (hN:z2R w g G EN P)
    (hpl:∀ i,i<P.length→w.cell? ⟨gp,i,none⟩=some (.int .u64 ((P.getD i 0:Nat):Int))) (hgl:gp<w.heap.size):
    Calls Tryz.prog 24 #[.iface 24 (.pointer (some ⟨g,0,none⟩)),.slice (some ⟨gp,0,none⟩) P.length cp] w (z2I w G EN P):=by
  obtain ⟨N,hNN⟩:∃ N,P.length=N:=⟨_,rfl⟩
  rw [hNN]
  obtain ⟨cur,hcs,hmk⟩:=z5Y N (by omega) w
  have F0:Aside (TFE w (w.alloc (.cells cur 30)) G EN P 0 (.slice (some ⟨w.heap.size,0,none⟩) 0 N)):=
    ⟨World.ownsRow_made w cur N (Nat.le_refl _) (by simp only [maxLen];omega) (by rw [hcs]),(Below.refl _ _).alloc (Nat.le_refl _) _,fun i hi=>absurd hi (by omega)⟩
  have HA:Aside (P.length=N∧N≤188∧0<N∧z2R w g G EN P∧(∀ p,(G p).length=32)∧gp<w.heap.size∧∀ i,i<P.length→w.cell? ⟨gp,i,none⟩=some (.int .u64 ((P.getD i 0:Nat):Int))):=⟨hNN,by omega,by omega,hN,hG,hgl,hpl⟩
  clear hP h0 hN hG hpl hgl hNN hcs
  go_enter Tryz.func24,Tryz.ntmps24
  go_wp2
  clear hmk
  go_loopg [6,16] N (fun q s6 s16 wx=>∃ (j:Nat),s16=.int .i64 (j:Int)∧Aside (j+q=N∧TFE w wx G EN P j s6))
  case atStart=>exact ⟨0,rfl,by omega,F0.out⟩
  case round=>
    obtain ⟨j,rfl,A⟩:=hrel
    obtain ⟨hj,F⟩:=A.out
    obtain ⟨a1,a2,a3,a4,a5,a6,a7⟩:=HA.out
    cases gk with
    | zero=>
      obtain rfl:j=N:=by omega
      have hlt:¬ (j:Int)<(j:Int):=by omega
      have R1:Aside (z2I w G EN P (.returned (.tuple #[u6,.int .i64 0])) wr):=TFE.all F a1.symm
      clear hj F a1 a2 a3 a4 a5 a6 a7 A HA F0
      go_wp2
      go_ret2
      exact R1.out
    | succ q=>
      have hlt:(j:Int)<(N:Int):=by omega
      have hjP:j<P.length:=by omega
      have hc:wr.cell? ⟨gp,j,none⟩=some (.int .u64 ((P.getD j 0:Nat):Int)):=by
        rw [← a7 j hjP]
        exact F.bel.cell (p:=⟨gp,j,none⟩) a6
      have hmem:P.getD j 0∈P:=by
        rw [List.getD_eq_getElem?_getD,List.getElem?_eq_getElem hjP]
        exact List.getElem_mem _
      have cn:=a4 wr F.bel _ hmem
      have hl32:=a5 (P.getD j 0)
      have hnd:=z8S G P j
      by_cases hE:EN (P.getD j 0)=0
      · have K:Aside (j+1+q=N∧j≤188∧TFE w wr G EN P j u6∧EN (P.getD j 0)=0∧TFL G P (j+1)=TFL G P j ++ G (P.getD j 0)∧w.heap.size≤wr.heap.size):=⟨by omega,by omega,F,hE,hnd,F.bel.size⟩
        have E1:Aside (wrap64 ((j:Int)+1)=((j+1:Nat):Int)):=by show wrap64 ((j:Int)+1)=((j+1:Nat):Int);unfold wrap64;omega
        rw [hE] at cn
        clear hj F a1 a2 a3 a4 a5 a6 a7 A F0 hjP hnd hmem hE
        generalize hH:G (P.getD j 0)=H at *
        clear hH
        obtain ⟨y,hy⟩:∃ y,P.getD j 0=y:=⟨_,rfl⟩
        rw [hy] at hc cn
        clear hy
        go_wp2_with fail
        refine cn.mono ?_
        rintro e w1 ⟨rfl,hb1⟩
        clear cn hc
        have T:Aside (w1.ownsRow w.heap.size 30 32 u6 j (z00 (TFL G P j))∧w.heap.size≤w1.heap.size∧Below w.heap.size w w1):=
          ⟨z10 K.out.2.2.1.row hb1,Nat.le_trans K.out.2.2.2.2.2 hb1.size,K.out.2.2.1.bel.trans (hb1.mono K.out.2.2.2.2.2)⟩
        clear hb1
        go_wp2_with (first
          | (refine wpList_store_row rfl 30 (.tmp 9) (.tmp 24) rfl _ _ rfl rfl 30 _ (Has.new w1 _ _) (z0j hl32) (by simp [z00,hl32]) (z0B H) ?_;rw [World.setRow_alloc_new])
          | (refine wpList_load_row rfl 30 (.tmp 9) rfl w1.heap.size rfl 30 (z00 H).toArray (0,0) _ (Has.new w1 _ _) Tryz.underlying30 rfl (z0j hl32) ?_)
          | (refine z7o _ rfl 22 30 (.tmp 30) rfl (z00 H).toArray rfl 32 _ _ Tryz.underlying22 z5X (by simp [z00,hl32]) rfl (by decide) (by decide) ?_)
          | (at_builtin;refine zdS _ rfl (.tmp 29) (.tmp 31) rfl w.heap.size u6 j (z00 (TFL G P j)) rfl ((T.out.1.alloc _).alloc _) _ 1 H hl32 rfl (Has.new _ _ _) (by have:=K.out.2.1;omega) (by have:=T.out.2.1;simp;omega) ?_;intro g2 cap w2 hown hgrow hat hg))
        have Z:Aside (j+1+q=N∧TFE w w2 G EN P (j+1) (.slice (some ⟨g2,0,none⟩) (j+1) cap)):=by
          obtain ⟨t1,t2,t3⟩:=T.out
          obtain ⟨k1,k2,k3,k4,k5,k6⟩:=K.out
          have hb1:Below w1.heap.size w1 ((w1.alloc (.cells (z00 H).toArray 30)).alloc (.cells (z00 H).toArray 30)):=((Below.refl _ _).alloc (Nat.le_refl _) _).alloc (by simp) _
          refine ⟨k1,⟨by rw [k5,z1v];exact hown,(t3.trans (hb1.mono t2)).grown hgrow (by have:=hb1.size;omega) (fun k e=>(t1.lt k e).1),fun i hi=>?_⟩⟩
          rcases Nat.lt_or_ge i j with h | h
          · exact k3.ok i h
          · obtain rfl:i=j:=by omega
            exact k4
        clear hown hgrow hat hg K T hl32
        have e1:=E1.out
        go_wp2
        go_roundg q
        case measure=>exact Nat.lt_succ_self _
        case rel=>exact ⟨j+1,by first | rfl | (rw [E1.out]),Z.out⟩
      · have K:Aside (∀ w',Below wr.heap.size wr w'→∀ o,z2I w G EN P (.returned (.tuple #[.slice none 0 0,.int .i64 (EN (P.getD j 0))])) (w'.alloc o)):=fun w' hb o=>by
          have hsz:=F.bel.size
          have:=hb.size
          exact ⟨(F.bel.trans (hb.mono hsz)).alloc (by omega) o,.inr ⟨j,hjP,F.ok,hE,rfl⟩⟩
        have hE':(EN (P.getD j 0) != 0)=true:=bne_iff_ne.2 hE
        clear hj F a1 a2 a3 a4 a5 a6 a7 A HA F0 hjP hmem hnd hE
        generalize hH:G (P.getD j 0)=H at *
        clear hH
        generalize EN (P.getD j 0)=E at *
        generalize P.getD j 0=y at *
        go_wp2_with fail
        refine cn.mono ?_
        rintro e w1 ⟨rfl,hb1⟩
        clear cn hc
        go_wp2_with (refine wpList_store_row rfl 30 (.tmp 9) (.tmp 24) rfl _ _ rfl rfl 30 _ (Has.new w1 _ _) (z0j hl32) (by simp [z00,hl32]) (z0B H) ?_;rw [World.setRow_alloc_new])
        go_ret2
        exact K.out w1 hb1 _
theorem z9I (g cp:Nat) (ap:Option Addr) (G:Nat→List Int) (EN:Nat→Int) (w:World):
    Calls Tryz.prog 24 #[.iface 24 (.pointer (some ⟨g,0,none⟩)),.slice ap 0 cp] w (z2I w G EN []):=by
  obtain ⟨cur,hcs,hmk⟩:=z5Y 0 (by omega) w
  have hmk':(Instr.makeSlice 22 (.int .i64 0) (.int .i64 0)).run Tryz.prog w=.ok (.slice (some ⟨w.heap.size,0,none⟩) 0 0) (w.alloc (.cells cur 30)):=hmk
  have K:Aside (z2I w G EN [] (.returned (.tuple #[.slice (some ⟨w.heap.size,0,none⟩) 0 0,.int .i64 0])) (w.alloc (.cells cur 30))):=
    ⟨(Below.refl _ _).alloc (Nat.le_refl _) _,.inl ⟨fun p hp=>(by cases hp),_,rfl,World.ownsRow_made w cur 0 (Nat.le_refl _) (by simp [maxLen]) (by rw [hcs])⟩⟩
  clear hcs hmk
  go_enter Tryz.func24,Tryz.ntmps24
  go_wp2
  refine wp_loop_rounds 1 ?_
  rw [rounds_succ]
  go_wp2
  go_ret2
  exact K.out
theorem z6b (g:Nat) (G:Nat→List Int) (EN:Nat→Int) (P:List Nat) (pv:Value) (B:Nat) (w:World) (hP:P.length≤188) (hG:∀ p,(G p).length=32) (hN:z2R w g G EN P) (hR:w.ownsRow B 23 1 pv P.length (UCELLS P)):
    Calls Tryz.prog 24 #[.iface 24 (.pointer (some ⟨g,0,none⟩)),pv] w (z2I w G EN P):=by
  obtain ⟨a,cp,rfl,hc⟩:=zdQ hR
  rcases Nat.eq_zero_or_pos P.length with h | h
  · have hP0:=List.eq_nil_of_length_eq_zero h
    subst hP0
    exact z9I g cp a G EN w
  · obtain ⟨gp,rfl,hgl,hcs⟩:=hc h
    exact zcS g gp cp G EN P w hP h hG hN hcs hgl
end Go.Proofs.YtbeelmlpalkohaaGreatDoor
