/- Texts of SpanVerifies, one behind the other: PosTops, PosRefPeaks, PosRefPeak, PosRefPath, PosAwake, PosFour, CutCalls, CutHas, CutSpan, CutOver, ProofPlaces, ProofBytes, ProofEncode, CutRefSpan, ProofRefPlaces, ProofLists, RegionSteps, ProofCells, VerifyMap. -/
import Derived.Deep.QuietTactic
import Derived.BigQuiet
import Derived.Deep.MidRow
import Derived.Test.YthdpkaiieomdoaaGreatDoorProg
import Derived.WalkKit
import Derived.WalkLawsBesides
import Derived.Deep.RegionHeld3
import Derived.Deep.CutRange
import Derived.Great.BuildSlice
import Derived.ChangeKeysEq
import Derived.Test.YthdpkaiieomdoaaGreatDoorSpanVerifiesP4
namespace Go.Proofs.YthdpkaiieomdoaaGreatDoor
open Go.RowKit
def TOPS (h n:Nat):List (Nat × Nat):=(HS h n).map fun g=>(g,2*(n / 2 ^ (g+1)))
theorem zcT {h n:Nat} (hh:h<64) (hb:n / 2 ^ h % 2=1):TOPS h n=TOPS (h+1) n ++ [(h,2*(n / 2 ^ (h+1)))]:=by
  unfold TOPS
  rw [z3j hh hb,List.map_append]
  rfl
theorem za9 {h n:Nat} (hh:h<64) (hb:¬ n / 2 ^ h % 2=1):TOPS h n=TOPS (h+1) n:=by
  unfold TOPS
  rw [z2P hh hb]
theorem z4P {n:Nat} (hn:n<2 ^ 64) (h:Nat) (hh:h≤64):(TOPS h n).length=PC (n / 2 ^ h):=by
  unfold TOPS
  rw [List.length_map]
  exact z44 hn h hh
theorem zaa {n h at' r:Nat} (ha:at'=n / 2 ^ (h+1)*2 ^ (h+1)) (hr:r=n - at'):at'≤n∧(2 ^ h≤r↔n / 2 ^ h % 2=1)∧at' / 2 ^ h=2*(n / 2 ^ (h+1))∧(n / 2 ^ h % 2=1→at'+2 ^ h=n / 2 ^ h*2 ^ h)∧(¬ n / 2 ^ h % 2=1→at'=n / 2 ^ h*2 ^ h):=by
  have hp:=Nat.two_pow_pos h
  have e1:at'=2*(n / 2 ^ (h+1))*2 ^ h:=by rw [ha,z1h]
  have hd:=Nat.div_add_mod n (2 ^ h)
  have hm:=Nat.mod_lt n hp
  rw [Nat.mul_comm] at hd
  have hq:at' / 2 ^ h=2*(n / 2 ^ (h+1)):=by rw [e1,Nat.mul_div_cancel _ hp]
  by_cases hb:n / 2 ^ h % 2=1
  · have h2:=z5B hb
    have e2:n / 2 ^ h*2 ^ h=at'+2 ^ h:=by rw [h2,Nat.add_mul,Nat.one_mul,← e1]
    exact ⟨by omega,⟨fun _=>hb,fun _=>by omega⟩,hq,fun _=>e2.symm,fun h=>absurd hb h⟩
  · have h2:=z7m hb
    have e2:n / 2 ^ h*2 ^ h=at':=by rw [h2,← e1]
    exact ⟨by omega,⟨fun _=>by omega,fun h=>absurd h hb⟩,hq,fun h=>absurd h hb,fun _=>e2.symm⟩
set_option maxHeartbeats 1000000 in
theorem z6b (n:Nat) (hn:n≤4611686018427387904) (w:World):Calls Tryz.prog 39 #[.int .u64 (n:Int)] w fun e w'=>
    ∃ v,e=.returned v∧w'.ownsRow w.heap.size 78 2 v (PC n) (z0b (TOPS 0 n))∧Below w.heap.size w w':=by
  have HN:Aside (n≤4611686018427387904):=hn
  have hd:¬ (4611686018427387904:Int)<(n:Int):=by omega
  clear hn
  go_enter Tryz.func39,Tryz.ntmps39
  go_wp2
  go_loopg [3,4,5] 63 (fun q s3 s4 s5 wx=>∃ a:Nat,s4=.int .u64 (a:Int)∧s5=.int .i64 ((q:Int) - 1)∧Aside (q≤63∧a=n / 2 ^ q*2 ^ q∧wx.ownsRow w.heap.size 78 2 s3 (PC (n / 2 ^ q)) (z0b (TOPS q n))∧Below w.heap.size w wx))
  case atStart=>
    have hz:n / 2 ^ 63=0:=Nat.div_eq_of_lt (by have:=HN.out;omega)
    refine ⟨0,rfl,rfl,by omega,by rw [hz,Nat.zero_mul],?_,Below.refl _ _⟩
    rw [hz,z10]
    have ht:TOPS 63 n=[]:=by
      unfold TOPS
      rw [z7l (by have:=HN.out;omega)]
      rfl
    rw [ht]
    exact ⟨rfl,.inl ⟨rfl,rfl⟩⟩
  case round=>
    obtain ⟨a,rfl,rfl,A⟩:=hrel
    cases gk with
    | zero=>
      have hlt:¬ (0:Int)≤((0:Nat):Int) - 1:=by omega
      go_wp2
      go_ret
      obtain ⟨_,_,hown,hbel⟩:=A.out
      rw [Nat.pow_zero,Nat.div_one] at hown
      exact ⟨_,rfl,hown,hbel⟩
    | succ h=>
      obtain ⟨h63,ha,hown,hbel⟩:=A.out
      have hnn:=HN.out
      obtain ⟨r,hr⟩:∃ r,r=n - a:=⟨_,rfl⟩
      obtain ⟨p1,p2,p3,p4,p5⟩:=zaa ha hr
      have c:=z1y h (by omega)
      have hpw:2 ^ h≤2 ^ 62:=Nat.pow_le_pow_right (by decide) (by omega)
      have hp0:=Nat.two_pow_pos h
      have e0:((h+1:Nat):Int) - 1=(h:Int):=by omega
      have e0':¬ (h:Int)<0:=by omega
      have e1:IntKind.u64.wrap ((n:Int) - (a:Int))=(r:Int):=by rw [z09];omega
      have e3:(h:Int) % 256=(h:Int):=by omega
      have e4:wrap64 ((h:Int) - 1)=(h:Int) - 1:=by unfold wrap64;omega
      rw [e0]
      by_cases hb:n / 2 ^ h % 2=1
      · have hge:2 ^ h≤r:=p2.2 hb
        have pq:=p4 hb
        have e5:(a:Int) / ((2 ^ h:Nat):Int)=((2*(n / 2 ^ (h+1)):Nat):Int):=by rw [← p3,Int.natCast_ediv]
        have hT:=zcT (n:=n) (h:=h) (by omega) hb
        have hPC:PC (n / 2 ^ h)=PC (n / 2 ^ (h+1))+1:=by rw [z0C,← z29];omega
        have hlen:PC (n / 2 ^ (h+1))≤1000:=by have:=z13 64 (n / 2 ^ (h+1)) (Nat.lt_of_le_of_lt (Nat.div_le_self _ _) (by omega));omega
        have hk64:2*(n / 2 ^ (h+1))<2 ^ 64:=by rw [← p3];exact Nat.lt_of_le_of_lt (Nat.div_le_self _ _) (by omega)
        generalize 2*(n / 2 ^ (h+1))=k at *
        have e7:IntKind.u64.wrap (k:Int)=(k:Int):=by rw [z09];omega
        have e6:IntKind.u64.wrap ((a:Int)+((2 ^ h:Nat):Int))=((n / 2 ^ h*2 ^ h:Nat):Int):=by rw [z09,← pq];omega
        have hge':((2 ^ h:Nat):Int)≤(r:Int):=by omega
        have hz0:¬ ((2 ^ h:Nat):Int)=0:=by omega
        generalize hm:PC (n / 2 ^ (h+1))=m at *
        generalize hl:TOPS (h+1) n=l at *
        generalize ((2 ^ h:Nat):Int)=z at *
        generalize hx:n / 2 ^ h*2 ^ h=x at *
        have R:Aside (h≤62∧x=n / 2 ^ h*2 ^ h∧wr.ownsRow w.heap.size 78 2 u3 m (z0b l)∧Below w.heap.size w wr∧m≤1000∧PC (n / 2 ^ h)=m+1∧TOPS h n=l ++ [(h,k)]):=⟨by omega,hx.symm,hown,hbel,hlen,hPC,hT⟩
        clear A HN h63 ha hown hbel hnn hr p1 p2 p3 p4 p5 hpw hp0 hb hge pq hT hPC hlen hk64 hm hl hx
        go_wp2_with fail
        refine (c _).mono ?_
        rintro e w' ⟨rfl,rfl⟩
        go_wp2_with fail
        refine (c _).mono ?_
        rintro e w' ⟨rfl,rfl⟩
        go_wp2_with (at_builtin;refine zcM _ rfl (.tmp 19) (.tmp 27) rfl w.heap.size u3 m l rfl (R.out.2.2.1.alloc _) wr.heap.size 1 h k rfl (by rw [World.cell?_alloc_at _ _ _ _ rfl];rfl) (by rw [World.cell?_alloc_at _ _ _ _ rfl];rfl) R.out.2.2.2.2.1 (by have:=R.out.2.2.2.1.size;simp;omega) ?_;intro g' cap w1 hown hgrow hg)
        obtain ⟨r1,r2,r3,r4,r5,r6,r7⟩:=R.out
        have R2:Aside (h≤63∧x=n / 2 ^ h*2 ^ h∧w1.ownsRow w.heap.size 78 2 (.slice (some ⟨g',0,none⟩) (m+1) cap) (PC (n / 2 ^ h)) (z0b (TOPS h n))∧Below w.heap.size w w1):=⟨by omega,r2,by rw [r6,r7];exact hown,(r4.alloc r4.size _).grown hgrow (by have:=r4.size;simp;omega) (fun k e=>(r3.lt k e).1)⟩
        clear hown hgrow hg R r1 r2 r3 r4 r5 r6 r7
        refine (c _).mono ?_
        rintro e w' ⟨rfl,rfl⟩
        clear c
        go_wp2
        go_roundg h
        case measure=>omega
        case rel=>exact ⟨x,by first | rfl | (rw [e6]),by first | rfl | (rw [e4]),R2.out⟩
      · have hge:¬ 2 ^ h≤r:=fun h=>hb (p2.1 h)
        have pq:=p5 hb
        have hge':¬ ((2 ^ h:Nat):Int)≤(r:Int):=by omega
        have hT:=za9 (n:=n) (h:=h) (by omega) hb
        have hPC:PC (n / 2 ^ h)=PC (n / 2 ^ (h+1)):=by rw [z0C,← z29];omega
        generalize ((2 ^ h:Nat):Int)=z at *
        have R:Aside (h≤63∧a=n / 2 ^ h*2 ^ h∧wr.ownsRow w.heap.size 78 2 u3 (PC (n / 2 ^ h)) (z0b (TOPS h n))∧Below w.heap.size w wr):=⟨by omega,pq,by rw [hT,hPC];exact hown,hbel⟩
        clear A HN h63 ha hown hbel hnn hr p1 p2 p3 p4 p5 hpw hp0 hb hge pq hT hPC
        go_wp2_with fail
        refine (c _).mono ?_
        rintro e w' ⟨rfl,rfl⟩
        clear c
        go_wp2
        go_roundg h
        case measure=>omega
        case rel=>exact ⟨a,rfl,by first | rfl | (rw [e4]),R.out⟩
end Go.Proofs.YthdpkaiieomdoaaGreatDoor

namespace Go.Proofs.YthdpkaiieomdoaaGreatDoor
open Go.RowKit
theorem zab (n:Nat) (hn:n≤4611686018427387904) (w:World):Calls Tryz.prog 39 #[.int .u64 (n:Int)] w fun e w'=>
    ∃ a cap,e=.returned (.slice a (PC n) cap)∧Spots w' a (TOPS 0 n)∧Below w.heap.size w w':=by
  refine (z6b n hn w).mono ?_
  rintro e w' ⟨v,rfl,hown,hb⟩
  have hl:=z4P (n:=n) (by omega) 0 (by omega)
  rw [Nat.pow_zero,Nat.div_one] at hl
  obtain ⟨a,cap,rfl,hs⟩:=z6w hl hown
  exact ⟨a,cap,rfl,hs,hb⟩
end Go.Proofs.YthdpkaiieomdoaaGreatDoor

namespace Go.Proofs.YthdpkaiieomdoaaGreatDoor
open Go.RowKit
end Go.Proofs.YthdpkaiieomdoaaGreatDoor

namespace Go.Proofs.YthdpkaiieomdoaaGreatDoor
open Go.RowKit
end Go.Proofs.YthdpkaiieomdoaaGreatDoor

namespace Go.Proofs.YthdpkaiieomdoaaGreatDoor
open Go.RowKit
end Go.Proofs.YthdpkaiieomdoaaGreatDoor

namespace Go.Proofs.YthdpkaiieomdoaaGreatDoor
open Go.RowKit
def Nums (w:World) (v:Value) (l:List Nat):Prop:=∃ a cap,v=.slice a l.length cap∧(0<l.length→∃ g,a=some ⟨g,0,none⟩∧g<w.heap.size∧∀ (j:Nat),j<l.length→w.cell? ⟨g,j,none⟩=some (.int .u64 ((l.getD j 0:Nat):Int)))
theorem Nums.below {w w':World} {v:Value} {l:List Nat} {B:Nat} (h:Nums w v l) (hb:Below B w w') (hB:w.heap.size≤B):Nums w' v l:=by
  obtain ⟨a,cap,rfl,h⟩:=h
  refine ⟨a,cap,rfl,fun h0=>?_⟩
  obtain ⟨g,e,hg,hc⟩:=h h0
  exact ⟨g,e,Nat.lt_of_lt_of_le hg hb.size,fun j hj=>(hb.cell (p:=⟨g,j,none⟩) (Nat.lt_of_lt_of_le hg hB)).trans (hc j hj)⟩
structure Four (w:World) (B:Nat) (K:Nat→Prop) (v:Nat→Value) (n:Nat→Nat) (xs:Nat→List Value):Prop where
  row:∀ x,x<4→w.ownsRow B 24 1 (v x) (n x) (xs x)
  apart:∀ x y,x<4→y<4→x≠y→∀ g,(v x).ownBlock=some g→(v y).ownBlock≠some g
  off:∀ x,x<4→∀ g,(v x).ownBlock=some g→¬ K g
def UPD {α:Type} (f:Nat→α) (x:Nat) (a:α):Nat→α:=fun z=>if z=x then a else f z
theorem z2S {α:Type} (f:Nat→α) (x:Nat) (a:α):UPD f x a x=a:=by simp [UPD]
theorem z1d {α:Type} (f:Nat→α) {x z:Nat} (a:α) (h:z≠x):UPD f x a z=f z:=by simp [UPD,h]
theorem Four.alloc {w:World} {B:Nat} {K:Nat→Prop} {v:Nat→Value} {n:Nat→Nat} {xs:Nat→List Value} (h:Four w B K v n xs) (o:Obj):Four (w.alloc o) B K v n xs:=⟨fun x hx=>(h.row x hx).alloc o,h.apart,h.off⟩
theorem Four.below {w w':World} {B:Nat} {K:Nat→Prop} {v:Nat→Value} {n:Nat→Nat} {xs:Nat→List Value} (h:Four w B K v n xs) (hb:Below w.heap.size w w'):Four w' B K v n xs:=⟨fun x hx=>z0v (h.row x hx) hb,h.apart,h.off⟩
theorem z2n (W:World) (b j:Nat) (v:Value):W.grownBy (W.setCell ⟨b,j,none⟩ v) (some b):=
  ⟨rfl,rfl,rfl,(KeepsWalks.setCell W _ v).size,fun k _ hk=>Below.heap_setCell _ _ _ k (fun e=>hk (by rw [e]))⟩
theorem Four.other {w:World} {B:Nat} {K:Nat→Prop} {v:Nat→Value} {n:Nat→Nat} {xs:Nat→List Value} (h:Four w B K v n xs) {b:Nat} (hb:K b) (j:Nat) (u:Value):Four (w.setCell ⟨b,j,none⟩ u) B K v n xs:=
  ⟨fun x hx=>(h.row x hx).kept (z2n w b j u) (.inr fun e=>h.off x hx b e hb),h.apart,h.off⟩
theorem Four.store {w:World} {B:Nat} {K:Nat→Prop} {v:Nat→Value} {n:Nat→Nat} {xs:Nat→List Value} (h:Four w B K v n xs) {x g m cap:Nat} (hx:x<4) (hv:v x=.slice (some ⟨g,0,none⟩) m cap) (j:Nat) (u:Value):
    Four (w.setCell ⟨g,j,none⟩ u) B K v n (UPD xs x ((xs x).set j u)):=by
  refine ⟨fun z hz=>?_,h.apart,h.off⟩
  by_cases e:z=x
  · subst e
    have hr:=h.row z hz
    rw [hv] at hr ⊢
    have hm:m=n z:=by
      rcases hr.2 with ⟨e,_⟩ | ⟨_,_,_,e,_⟩
      · simp at e
      · simp at e
        omega
    subst hm
    rw [z2S]
    exact (hr.stored j u).1
  · rw [z1d xs _ e]
    refine (h.row z hz).kept (z2n w g j u) (.inr fun e2=>?_)
    exact h.apart x z hx hz (fun e3=>e e3.symm) g (by rw [hv];rfl) e2
theorem Has.grown {w w':World} {g:Nat} {c:Array Value} {t:TypeId} {row:Option Nat} (h:Has w g c t) (hg:w.grownBy w' row) (hne:row≠some g):Has w' g c t:=by
  obtain ⟨_,_,_,_,hk⟩:=hg
  exact (hk g h.lt (fun e=>hne e.symm)).trans h
theorem Four.of {w:World} {B b1 b2 b3 b4:Nat} {K:Nat→Prop} {v0 v1 v2 v3:Value} {n m:Nat} {xs ys:List Value} (h0:w.ownsRow B 24 1 v0 n xs) (h1:w.ownsRow b1 24 1 v1 n xs) (h2:w.ownsRow b2 24 1 v2 m ys) (h3:w.ownsRow b3 24 1 v3 m ys)
    (l0:∀ k,v0.ownBlock=some k→k<b1) (l1:∀ k,v1.ownBlock=some k→k<b2) (l2:∀ k,v2.ownBlock=some k→k<b3) (l3:∀ k,v3.ownBlock=some k→k<b4) (o1:B≤b1) (o2:b1≤b2) (o3:b2≤b3) (o4:b3≤b4) (hK:∀ k,K k→b4≤k):
    ∃ (V:Nat→Value) (N:Nat→Nat) (XS:Nat→List Value),Four w B K V N XS∧V 0=v0∧V 1=v1∧V 2=v2∧V 3=v3∧(∀ x,x<4→N x=n∨N x=m):=by
  have key:∀ x,x<4→x=0∨x=1∨x=2∨x=3:=fun x hx=>by omega
  have bnd:∀ x,x<4→∀ k,((if x=0 then v0 else if x=1 then v1 else if x=2 then v2 else v3:Value)).ownBlock=some k→(if x=0 then B else if x=1 then b1 else if x=2 then b2 else b3)≤k∧k<(if x=0 then b1 else if x=1 then b2 else if x=2 then b3 else b4):=fun x hx k hk=>by
    rcases key x hx with rfl | rfl | rfl | rfl
    · exact ⟨(h0.lt k hk).1,l0 k hk⟩
    · exact ⟨(h1.lt k hk).1,l1 k hk⟩
    · exact ⟨(h2.lt k hk).1,l2 k hk⟩
    · exact ⟨(h3.lt k hk).1,l3 k hk⟩
  refine ⟨fun x=>if x=0 then v0 else if x=1 then v1 else if x=2 then v2 else v3,fun x=>if x<2 then n else m,fun x=>if x<2 then xs else ys,⟨fun x hx=>?_,fun x y hx hy hne k hk hk2=>?_,fun x hx k hk hkk=>?_⟩,rfl,rfl,rfl,rfl,fun x hx=>?_⟩
  · rcases key x hx with rfl | rfl | rfl | rfl
    · exact h0
    · exact z0f h1 o1
    · exact z0f h2 (Nat.le_trans o1 o2)
    · exact z0f h3 (Nat.le_trans o1 (Nat.le_trans o2 o3))
  · have hx':=bnd x hx k hk
    have hy':=bnd y hy k hk2
    rcases key x hx with rfl | rfl | rfl | rfl <;> rcases key y hy with rfl | rfl | rfl | rfl <;> simp at hx' hy' hne <;> omega
  · have hx':=bnd x hx k hk
    have:=hK k hkk
    rcases key x hx with rfl | rfl | rfl | rfl <;> simp at hx' <;> omega
  · rcases key x hx with rfl | rfl | rfl | rfl <;> simp
end Go.Proofs.YthdpkaiieomdoaaGreatDoor

namespace Go.Proofs.YthdpkaiieomdoaaGreatDoor
open Go.RowKit
end Go.Proofs.YthdpkaiieomdoaaGreatDoor

namespace Go.Proofs.YthdpkaiieomdoaaGreatDoor
open Go.RowKit
end Go.Proofs.YthdpkaiieomdoaaGreatDoor

namespace Go.Proofs.YthdpkaiieomdoaaGreatDoor
open Go.RowKit
end Go.Proofs.YthdpkaiieomdoaaGreatDoor

namespace Go.Proofs.YthdpkaiieomdoaaGreatDoor
open Go.RowKit
def Lie (w:World) (a:Option Addr) (l:List (Nat × Nat)):Prop:=0<l.length→∃ g o,a=some ⟨g,o,none⟩∧g<w.heap.size∧∀ (j h k:Nat),l[j]?=some (h,k)→w.cell? ⟨g,o+j*2,none⟩=some (.int .u8 (h:Int))∧w.cell? ⟨g,o+j*2+1,none⟩=some (.int .u64 (k:Int))
theorem Lie.below {w w':World} {a:Option Addr} {l:List (Nat × Nat)} (h:Lie w a l) (hb:Below w.heap.size w w'):Lie w' a l:=fun h0=>by
  obtain ⟨g,o,e,hg,hc⟩:=h h0
  exact ⟨g,o,e,Nat.lt_of_lt_of_le hg hb.size,fun j x y he=>⟨(hb.cell (p:=⟨g,o+j*2,none⟩) hg).trans (hc j x y he).1,(hb.cell (p:=⟨g,o+j*2+1,none⟩) hg).trans (hc j x y he).2⟩⟩
theorem Lie.of {w:World} {a:Option Addr} {l:List (Nat × Nat)} (h:Spots w a l):Lie w a l:=fun h0=>by
  obtain ⟨g,e,hg,hc⟩:=h h0
  refine ⟨g,0,e,hg,fun j x y he=>?_⟩
  rw [Nat.zero_add]
  exact hc j x y he
end Go.Proofs.YthdpkaiieomdoaaGreatDoor

namespace Go.Proofs.YthdpkaiieomdoaaGreatDoor
open Go.RowKit
end Go.Proofs.YthdpkaiieomdoaaGreatDoor

namespace Go.Proofs.YthdpkaiieomdoaaGreatDoor
open Go.RowKit
set_option maxRecDepth 100000
def Flat (w:World) (a:Option Addr) (n:Nat) (l:List Int):Prop:=
  l.length=32*n∧(0<n→∃ b o,a=some ⟨b,o,none⟩∧b<w.heap.size∧∀ j,j<32*n→w.cell? ⟨b,o+j,none⟩=some (.int .u8 (l.getD j 0)))∧∀ x∈l,0≤x∧x≤255
theorem Flat.below {w w':World} {a:Option Addr} {n:Nat} {l:List Int} (h:Flat w a n l) (hb:Below w.heap.size w w'):Flat w' a n l:=
  ⟨h.1,fun hn=>by
    obtain ⟨b,o,e,hl,hc⟩:=h.2.1 hn
    exact ⟨b,o,e,Nat.lt_of_lt_of_le hl hb.size,fun i hi=>(hb.cell (by exact hl)).trans (hc i hi)⟩,h.2.2⟩
def HSH (l:List Int) (i:Nat):List Int:=(l.drop (32*i)).take 32
theorem z0y {l:List Int} {n i:Nat} (hl:l.length=32*n) (hi:i<n):(HSH l i).length=32:=by
  unfold HSH
  rw [List.length_take,List.length_drop]
  omega
theorem z5E {l:List Int} {i j:Nat} (hj:j<32):(HSH l i).getD j 0=l.getD (32*i+j) 0:=by
  unfold HSH
  rw [List.getD_eq_getElem?_getD,List.getElem?_take,if_pos hj,List.getElem?_drop,List.getD_eq_getElem?_getD]
theorem z9x {l:List Int} {i:Nat} {x:Int} (h:x∈HSH l i):x∈l:=List.mem_of_mem_drop (List.mem_of_mem_take h)
theorem z2T (l:List Int) (i:Nat):l.take (32*(i+1))=l.take (32*i) ++ HSH l i:=by
  unfold HSH
  rw [show 32*(i+1)=32*i+32 by omega,List.take_add]
theorem z4Q:(Tryz.prog.info? 23).map (·.size)=some 32:=by kernel_rfl
theorem z0j {h:List Int} (hl:h.length=32):(Tryz.prog.info? 23).map (·.size)=some (z00 h).length:=by
  rw [z4Q,show (z00 h).length=32 by simp [z00,hl]]
theorem z03 {h:List Int} (hl:h.length=32):(Tryz.prog.info? 23).map (·.size)=some (z00 h).toArray.size:=by
  rw [z4Q,show (z00 h).toArray.size=32 by simp [z00,hl]]
theorem z0i (h:List Int):(z00 h).toArray.all (·.oneCell')=true:=by
  rw [Array.all_eq_true_iff_forall_mem]
  intro v hv
  exact z15 h v (by simpa using hv)
theorem Flat.at {w:World} {b o n:Nat} {l:List Int} {i:Nat} (h:Flat w (some ⟨b,o,none⟩) n l) (hi:i<n):w.rangeAt b (o+i*32) (z00 (HSH l i)):=by
  intro j v hv
  obtain ⟨b',o',e,_,hc⟩:=h.2.1 (by omega)
  simp only [Option.some.injEq,Addr.mk.injEq] at e
  obtain ⟨rfl,rfl,_⟩:=e
  have hj:j<32:=by
    have:=(List.getElem?_eq_some_iff.1 hv).1
    rw [show (z00 (HSH l i)).length=32 by simp [z00,z0y h.1 hi]] at this
    exact this
  rw [z0k _ _ (by rw [z0y h.1 hi];exact hj),z5E hj] at hv
  rw [show o+i*32+j=o+(32*i+j) by omega,hc _ (by omega)]
  exact hv
theorem zbo (w:World) {h:List Int} (hl:h.length=32) (hr:∀ x∈h,0≤x∧x≤255) (t:TypeId):Bytes (w.alloc (.cells (z00 h).toArray t)) (some ⟨w.heap.size,0,none⟩) 32 h:=by
  refine ⟨hl,fun _=>⟨w.heap.size,0,rfl,by simp,fun i hi=>?_⟩,hr⟩
  rw [Nat.zero_add,World.cell?_alloc_at _ _ _ _ rfl,List.getElem?_toArray,z0k h i (by omega)]
theorem z4E (w:World) (x:Int):(w.alloc (.cells #[.int .u8 x] 5)).ownsRow w.heap.size 5 1 (.slice (some ⟨w.heap.size,0,none⟩) 1 1) 1 (z00 [x]):=
  World.ownsRow_lit w #[.int .u8 x] 1 (Nat.le_refl _) (by simp [maxLen]) rfl
theorem z9y {w:World} {base n:Nat} {v:Value} {l:List Int} (h:w.ownsRow base 5 1 v n (z00 l)):l.length=n:=by
  have:=h.1
  simpa [z00] using this
end Go.Proofs.YthdpkaiieomdoaaGreatDoor

namespace Go.Proofs.YthdpkaiieomdoaaGreatDoor
open Go.RowKit
set_option maxRecDepth 100000
end Go.Proofs.YthdpkaiieomdoaaGreatDoor

namespace Go.Proofs.YthdpkaiieomdoaaGreatDoor
open Go.RowKit
end Go.Proofs.YthdpkaiieomdoaaGreatDoor

namespace Go.Proofs.YthdpkaiieomdoaaGreatDoor
open Go.RowKit
set_option maxRecDepth 100000
end Go.Proofs.YthdpkaiieomdoaaGreatDoor

namespace Go.Proofs.YthdpkaiieomdoaaGreatDoor
open Go.RowKit
set_option maxRecDepth 100000
theorem z1s {w w1 w2:World} {r r':Option Nat} (h:w.grownBy w1 r) (h':w1.grownBy w2 r') (hr:r'=r∨∀ g,r'=some g→w.heap.size≤g):w.grownBy w2 r:=by
  obtain ⟨a1,a2,a3,a4,a5⟩:=h
  obtain ⟨b1,b2,b3,b4,b5⟩:=h'
  refine ⟨by rw [b1,a1],by rw [b2,a2],by rw [b3,a3],Nat.le_trans a4 b4,fun k hk hne=>?_⟩
  rw [b5 k (by omega) (fun e=>?_),a5 k hk hne]
  rcases hr with hr | hr
  · exact hne (by rw [e,hr])
  · have:=hr k e.symm
    omega
theorem z2z {w w':World} {r:Option Nat} (h:w.grownBy w' r):w.heap.size≤w'.heap.size:=by
  obtain ⟨_,_,_,hs,_⟩:=h
  exact hs
theorem z4R (w:World) (o:Obj) (r:Option Nat):w.grownBy (w.alloc o) r:=⟨rfl,rfl,rfl,by simp,fun k hk _=>heap_alloc_old w o hk⟩
theorem z3v {w:World} {B n g m c:Nat} {xs:List Value} (h:w.ownsRow B 24 1 (.slice (some ⟨g,0,none⟩) m c) n xs):m=n:=by
  rcases h.2 with ⟨e,_⟩ | ⟨_,_,_,e,_⟩
  · simp at e
  · simp at e
    omega
end Go.Proofs.YthdpkaiieomdoaaGreatDoor

namespace Go.Proofs.YthdpkaiieomdoaaGreatDoor
open Go.RowKit
set_option maxRecDepth 100000
theorem z3w {ops:Array Oper} {o:Oper} {a:Act} {w w':World} {K:Act→World→Prop} {Q:Exit→Act→World→Prop} {E:Prop} {v:Value} (hg:o.guard=none)
    (hrun:(execOp a.eval o).run Tryz.prog w=.ok (.value v) w') (h:K (a.put o.dst v) w'):if Region.wanted o (yielded ops a.tmps)=true then Oper.wp Tryz.prog o a w K Q else E:=by
  have hw:Region.wanted o (yielded ops a.tmps)=true:=by simp [Region.wanted,hg]
  rw [if_pos hw]
  unfold Oper.wp
  rw [hrun]
  exact h
theorem z0J {ops:Array Oper} {o:Oper} {a:Act} {w w':World} {K:Act→World→Prop} {Q:Exit→Act→World→Prop} {E:Prop} (hg:o.guard=none)
    (hrun:(execOp a.eval o).run Tryz.prog w=.ok .skip w') (h:K (a.put o.dst undef) w'):if Region.wanted o (yielded ops a.tmps)=true then Oper.wp Tryz.prog o a w K Q else E:=by
  have hw:Region.wanted o (yielded ops a.tmps)=true:=by simp [Region.wanted,hg]
  rw [if_pos hw]
  unfold Oper.wp
  rw [hrun]
  exact h
theorem z5k {s:Sem Unit} {w w':World} (h:s.run Tryz.prog w=.ok () w'):(do s;pure Next.skip:Sem Next).run Tryz.prog w=.ok .skip w':=by
  simp [h]
theorem z1z {s:Sem Value} {w w':World} {v:Value} (h:s.run Tryz.prog w=.ok v w'):(do pure (Next.value (← s)):Sem Next).run Tryz.prog w=.ok (.value v) w':=by
  simp [h,Result.andThen]
end Go.Proofs.YthdpkaiieomdoaaGreatDoor

namespace Go.Proofs.YthdpkaiieomdoaaGreatDoor
open Go.RowKit
set_option maxRecDepth 100000
theorem z3x {w w':World} {B:Nat} {t:TypeId} {s:Nat} {v:Value} {n:Nat} {xs:List Value} (h:w.ownsRow B t s v n xs) (hk:∀ k,v.ownBlock=some k→w'.heap[k]?=w.heap[k]?):w'.ownsRow B t s v n xs:=by
  refine ⟨h.1,?_⟩
  rcases h.2 with h | ⟨g,cap,cur,rfl,hb,hg,r⟩
  · exact .inl h
  · exact .inr ⟨g,cap,cur,rfl,hb,by rw [hk g rfl];exact hg,r⟩
def ZND:List Int:=List.replicate 32 0
abbrev ZARR:Array Value:=#[.int .u8 0,.int .u8 0,.int .u8 0,.int .u8 0,.int .u8 0,.int .u8 0,.int .u8 0,.int .u8 0,.int .u8 0,.int .u8 0,.int .u8 0,.int .u8 0,.int .u8 0,.int .u8 0,.int .u8 0,.int .u8 0,.int .u8 0,.int .u8 0,.int .u8 0,.int .u8 0,.int .u8 0,.int .u8 0,.int .u8 0,.int .u8 0,.int .u8 0,.int .u8 0,.int .u8 0,.int .u8 0,.int .u8 0,.int .u8 0,.int .u8 0,.int .u8 0]
theorem z0P:(z00 ZND).toArray=ZARR:=rfl
theorem z16:(Tryz.prog.info? 23).map (fun i=>(i.zero,i.size,i.bytes))=some (some (.agg ZARR),32,32):=by kernel_rfl
theorem zbp {ops:Array Oper} {rest:List Oper} {o:Oper} {a:Act} {Q:Exit→Act→World→Prop} (w:World) (hgd:o.guard=none) (s x:Operand)
    (ho:o.op=.call {callee:=.builtin .append,args:=#[s,x],argTypes:=#[25,25]})
    (base:Nat) (v:Value) (n:Nat) (xs:List Value) (hs:a.eval s=v) (hown:w.ownsRow base 23 32 v n xs)
    (b c:Nat) (y:List Int) (hl:y.length=32) (hx:a.eval x=.slice (some ⟨b,0,none⟩) 1 c) (hc:Has w b (z00 y).toArray 23)
    (hb:n≤100000) (hbase:base≤w.heap.size)
    (h:∀ g cap w',w'.ownsRow base 23 32 (.slice (some ⟨g,0,none⟩) (n+1) cap) (n+1) (xs ++ z00 y)→w.grownBy w' v.ownBlock→(v.ownBlock=some g∨g=w.heap.size)→g<w'.heap.size→wpList Tryz.prog ops Q rest (a.put o.dst (.slice (some ⟨g,0,none⟩) (n+1) cap)) w'):wpList Tryz.prog ops Q (o :: rest) a w:=by
  obtain ⟨i,hi,hz,hs1,hby⟩:=info_parts z16
  refine wpList_append_lies w hgd s x 25 ho base 23 i (.agg ZARR) 32 32 Tryz.underlying25 hi hz hs1 hby rfl (by decide) v n xs hs hown ⟨b,0,none⟩ 1 c (z00 y) hx (by rw [z00,List.length_map,hl]) ?_ (z15 y) (by decide) (by simp only [maxLen];omega) (by omega) hbase w.heap.size rfl h
  intro j u hj
  rw [z0H,Nat.zero_add,hc.cell,List.getElem?_toArray]
  exact hj
theorem z2a {ops:Array Oper} {rest:List Oper} {o:Oper} {a:Act} {Q:Exit→Act→World→Prop} (w:World) (hgd:o.guard=none) (s x:Operand)
    (ho:o.op=.call {callee:=.builtin .append,args:=#[s,x],argTypes:=#[25,25]})
    (base:Nat) (v:Value) (n:Nat) (xs:List Value) (hs:a.eval s=v) (hown:w.ownsRow base 23 32 v n xs)
    (b c:Nat) (y:List Int) (hl:y.length=32) (hx:a.eval x=.slice (some ⟨b,0,none⟩) 1 c) (hc:Has w b (z00 y).toArray 23)
    (hb:n≤1000) (hbase:base≤w.heap.size)
    (h:∀ g cap w',w'.ownsRow base 23 32 (.slice (some ⟨g,0,none⟩) (n+1) cap) (n+1) (xs ++ z00 y)→w.grownBy w' v.ownBlock→(v.ownBlock=some g∨g=w.heap.size)→g<w'.heap.size→wpList Tryz.prog ops Q rest (a.put o.dst (.slice (some ⟨g,0,none⟩) (n+1) cap)) w'):wpList Tryz.prog ops Q (o :: rest) a w:=
  zbp w hgd s x ho base v n xs hs hown b c y hl hx hc (by omega) hbase h
theorem z17 {ops:Array Oper} {rest:List Oper} {o:Oper} {a:Act} {Q:Exit→Act→World→Prop} (w:World) (hg:o.guard=none) (t e:TypeId) (x:Operand) (ho:o.op=.buildSlice t 1 #[(0,x)]) (C:Array Value) (hx:a.eval x=.agg C) (n:Nat) (z:Value) (by':Nat)
    (hu:Tryz.prog.underlying t=some (.slice e)) (hi:(Tryz.prog.info? e).map (fun i=>(i.zero,i.size,i.bytes))=some (some z,n,by')) (hC:C.size=n) (hz:z.cells.size=n) (hn:0<n) (hs:n≤1000)
    (h:wpList Tryz.prog ops Q rest (a.put o.dst (.slice (some ⟨w.heap.size,0,none⟩) 1 1)) (w.alloc (.cells C e))):wpList Tryz.prog ops Q (o :: rest) a w:=by
  obtain ⟨i,hie,hz',hs1,_⟩:=info_parts hi
  refine wpList_buildSlice hg t e 1 _ ho C i z hu hie hz' (by rw [hs1];omega) (by rw [hs1];omega) ?_ h
  have:=Great.fill_whole (s:=n) hn [.agg C] ((Array.range (1*i.size)).map (z.cells[· % z.cells.size]!)) (fun v hv=>by simp at hv;subst hv;exact hC) (by simp [hs1])
  simp [Value.cells] at this
  rw [hs1]
  simp [hx]
  rw [hs1] at this
  exact this
theorem z4S (d:Nat) (h g:List Int) (hh:h.length=32) (hg:g.length=32) (w:World):∀ is:List Nat,(∀ i∈is,i<32)→(Op.eqItems (d+1) 5 1 (z00 h).toArray (z00 g).toArray is).run Tryz.prog w=.ok (is.all fun i=>h.getD i 0 == g.getD i 0) w
  | [],_=>by simp [Op.eqItems]
  | i :: is,hi=>by
    have hp:Tryz.prog.plainKey 5=true:=by kernel_rfl
    have hi32:i<32:=hi i (by simp)
    have h1:=run_part_plain (P:=Tryz.prog) w hp (show (z00 h).toArray[i]?=some (.int .u8 (h.getD i 0)) by rw [List.getElem?_toArray,z0k h i (by omega)])
    have h2:=run_part_plain (P:=Tryz.prog) w hp (show (z00 g).toArray[i]?=some (.int .u8 (g.getD i 0)) by rw [List.getElem?_toArray,z0k g i (by omega)])
    have h3:=run_equalIn_int (P:=Tryz.prog) w d 5 .u8 .u8 (h.getD i 0) (g.getD i 0) Tryz.underlying5
    have ih:=z4S d h g hh hg w is (fun j hj=>hi j (by simp [hj]))
    rw [Op.eqItems,Nat.mul_one]
    simp only [Sem.run_bind,h1,h2,h3,Result.andThen_ok]
    by_cases e:h.getD i 0=g.getD i 0
    · have e2:(h.getD i 0 == g.getD i 0)=true:=by simpa using e
      rw [List.all_cons,e2,Bool.true_and,if_neg (by simp)]
      exact ih
    · have e2:(h.getD i 0 == g.getD i 0)=false:=by simpa using e
      rw [List.all_cons,e2]
      simp
theorem z4T (h g:List Int) (hh:h.length=32) (hg:g.length=32) (w:World):(Op.equalIn 10000 23 (.agg (z00 h).toArray) (.agg (z00 g).toArray)).run Tryz.prog w=.ok ((List.range 32).all fun i=>h.getD i 0 == g.getD i 0) w:=by
  obtain ⟨i8,hi,_⟩:=Option.map_eq_some_iff.1 z0I
  rw [run_equalIn_array (P:=Tryz.prog) w 9999 (z00 h).toArray (z00 g).toArray Tryz.underlying23 hi]
  have hc:Tryz.prog.cellsOf 5=1:=by kernel_rfl
  rw [hc]
  exact z4S 9998 h g hh hg w _ (fun i hi=>by simpa using hi)
theorem zbq (h:List Int) (hh:h.length=32) (x y:Operand) (w:World):(do eqGuard .neq 23 x y (.agg (z00 h).toArray) (.agg (z00 h).toArray);binOp .neq 23 (.agg (z00 h).toArray) (.agg (z00 h).toArray):Sem Value).run Tryz.prog w=.ok (.bool false) w:=by
  simp only [Sem.run_bind,run_eqGuard_agg (P:=Tryz.prog) w .neq 23 x y _ _ (by kernel_rfl),Result.andThen_ok,run_neq_struct,z4T h h hh hh]
  simp
theorem zbr {h g:List Int} (hh:h.length=32) (hg:g.length=32):((List.range 32).all fun i=>h.getD i 0 == g.getD i 0)=decide (h=g):=by
  by_cases e:h=g
  · subst e
    simp
  · rw [decide_eq_false e,Bool.eq_false_iff]
    intro hx
    rw [List.all_eq_true] at hx
    apply e
    apply List.ext_getElem (by omega)
    intro i h1 h2
    have:=hx i (by simp;omega)
    simpa [List.getD,h1,h2] using this
theorem z4c {h g:List Int} (hh:h.length=32) (hg:g.length=32) (w:World):(Op.equalIn 10000 23 (.agg (z00 h).toArray) (.agg (z00 g).toArray)).run Tryz.prog w=.ok (decide (h=g)) w:=by
  rw [z4T h g hh hg,zbr hh hg]
theorem zac {h g:List Int} (hh:h.length=32) (hg:g.length=32) (x y:Operand) (w:World):(do eqGuard .neq 23 x y (.agg (z00 h).toArray) (.agg (z00 g).toArray);binOp .neq 23 (.agg (z00 h).toArray) (.agg (z00 g).toArray):Sem Value).run Tryz.prog w=.ok (.bool (!decide (h=g))) w:=by
  simp only [Sem.run_bind,run_eqGuard_agg (P:=Tryz.prog) w .neq 23 x y _ _ (by kernel_rfl),Result.andThen_ok,run_neq_struct,z4c hh hg]
theorem zad {h g:List Int} (hh:h.length=32) (hg:g.length=32) (x y:Operand) (w:World):(do eqGuard .eql 23 x y (.agg (z00 h).toArray) (.agg (z00 g).toArray);binOp .eql 23 (.agg (z00 h).toArray) (.agg (z00 g).toArray):Sem Value).run Tryz.prog w=.ok (.bool (decide (h=g))) w:=by
  simp only [Sem.run_bind,run_eqGuard_agg (P:=Tryz.prog) w .eql 23 x y _ _ (by kernel_rfl),Result.andThen_ok,run_eql_struct,z4c hh hg]
end Go.Proofs.YthdpkaiieomdoaaGreatDoor

namespace Go.Proofs.YthdpkaiieomdoaaGreatDoor
open Go.RowKit Go.Maps
set_option maxRecDepth 100000
def RV (v:Value):Option (DataW Value × List MemPlace):=some (.held v,[])
def SMAP (w:World) (b n:Nat) (M:Nat→Nat→List Int):Prop:=∃ D:DataW Value,w.ownsMap Tryz.prog 78 RV b n D∧∀ h k,h<256→k<2 ^ 64→D.atKey (KL h k) (.held (.agg ZARR))=.held (.agg (z00 (M h k)).toArray)
def MPUT (M:Nat→Nat→List Int) (h k:Nat) (x:List Int):Nat→Nat→List Int:=fun h' k'=>if h'=h∧k'=k then x else M h' k'
theorem zec (M:Nat→Nat→List Int) (h k:Nat) (x:List Int):MPUT M h k x h k=x:=by simp [MPUT]
theorem zae (M:Nat→Nat→List Int) {h k h' k':Nat} (x:List Int) (e:¬ (h'=h∧k'=k)):MPUT M h k x h' k'=M h' k':=by unfold MPUT;rw [if_neg e]
theorem SMAP.lt {w:World} {b n:Nat} {M:Nat→Nat→List Int} (h:SMAP w b n M):b<w.heap.size:=let ⟨_,h1,_⟩:=h;h1.lt
theorem SMAP.at {w w':World} {b n:Nat} {M:Nat→Nat→List Int} (h:SMAP w b n M) (hb:w'.heap[b]?=w.heap[b]?):SMAP w' b n M:=by
  obtain ⟨D,⟨es,clock,h1,r⟩,h2⟩:=h
  exact ⟨D,⟨es,clock,hb.trans h1,r⟩,h2⟩
theorem SMAP.below {w w':World} {b n:Nat} {M:Nat→Nat→List Int} (h:SMAP w b n M) (hb:Below w.heap.size w w'):SMAP w' b n M:=h.at (hb.block b h.lt)
theorem SMAP.store {w:World} {b n:Nat} {M:Nat→Nat→List Int} (hM:SMAP w b n M) (hn:n≤100000) {h k:Nat} (hh:h<256) (hk:k<2 ^ 64) (x:List Int):∃ w',(Instr.mapUpdate 208 (.map (some b)) (SPOT h k) (.agg (z00 x).toArray)).run Tryz.prog w=.ok () w'∧SMAP w' b (n+1) (MPUT M h k x)∧w.grownBy w' (some b):=by
  obtain ⟨D,h1,h2⟩:=hM
  obtain ⟨w',r1,r2,r3⟩:=h1.update law Tryz.underlying208 (by unfold maxLen;omega) (z48 hh hk) (show RV (.agg (z00 x).toArray)=some (.held (.agg (z00 x).toArray),[]) from rfl)
  refine ⟨w',r1,⟨_,r2,fun h' k' hh' hk'=>?_⟩,r3⟩
  have hkey:WideAt.IsKeyLit (KL h k):=law.key (z48 hh hk)
  by_cases e:KL h' k'=KL h k
  · obtain ⟨rfl,rfl⟩:=zbk hh' hk' hh hk e
    rw [Maps.atKey_put_same h1.isMap hkey,zec]
  · rw [Maps.atKey_put_other e,zae _ _ (fun e2=>e (by rw [e2.1,e2.2])),h2 h' k' hh' hk']
end Go.Proofs.YthdpkaiieomdoaaGreatDoor
