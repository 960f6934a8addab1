/- Texts of VerifyGrowth, one behind the other: MmrOldCalls, MmrAwakeRegion, MmrAwake, MmrOldState, MmrOf8, VerifyTurnsWalk, VerifyRefPlain, VerifyAcceptsPlain, VerifyAcceptsRegions, VerifyAcceptsWalk, VerifyReachPlain. -/
import Derived.Test.YthjeeblddipiiaaGreatDoorVerifyGrowthP15
import Derived.Test.YthjeeblddipiiaaGreatDoorVerifyGrowthP16
import Derived.Test.YthjeeblddipiiaaGreatDoorVerifyGrowthP21
import Derived.Test.YthjeeblddipiiaaGreatDoorVerifyGrowthP31
import Derived.Test.YthjeeblddipiiaaGreatDoorVerifyGrowthP32
import Derived.Test.YthjeeblddipiiaaGreatDoorVerifyGrowthP34
import Derived.Test.YthjeeblddipiiaaGreatDoorVerifyGrowthP35
import Derived.Test.YthjeeblddipiiaaGreatDoorVerifyGrowthP36
namespace Go.Proofs.YthjeeblddipiiaaGreatDoor.HX
open Go.RowKit
set_option maxRecDepth 100000
theorem z5Z {w:World} {B n:Nat} {v:Value} {l:List (Nat→Nat)} (h:w.ownsRow B 32 32 v n (HL l)) (hl:l.length=n):∃ a c,v=.slice a n c∧HASHES w a n (fun i=>l.getD i fun _=>0):=by
  obtain ⟨a,c,rfl⟩:=z4x h
  refine ⟨a,c,rfl,fun hn=>?_⟩
  rcases h.2 with ⟨e,h0⟩ | ⟨g,cap,cur,e,_,hg,_⟩
  · omega
  · simp only [Value.slice.injEq] at e
    obtain ⟨rfl,_,rfl⟩:=e
    refine ⟨g,0,rfl,(h.lt g rfl).2,fun i hi j u hj=>?_⟩
    have hj32:j<32:=by have:=(List.getElem?_eq_some_iff.1 hj).1;rwa [z09] at this
    have hli:l[i]?=some (l.getD i fun _=>0):=by rw [List.getD_eq_getElem?_getD,List.getElem?_eq_getElem (by omega)];rfl
    rw [z0W _ _ _ _ hj32] at hj
    rw [← hj,Nat.zero_add,h.cellAt (i*32+j) (by omega)]
    exact z8B l i j _ hli hj32
set_option maxHeartbeats 2000000 in
theorem zge (d:Int) (n:Nat) (hn:n≤4611686018427387904) (a:Option Addr) (k c:Nat) (hk:k=PC n) (hs:Nat→Nat→Nat) (w:World) (hH:HASHES w a k hs) (h8:∀ i,i<k→∀ j,hs i j<256) (hX:Tabled w):
    Calls Tryz.prog 12 #[.int .i64 d,.int .u64 (n:Int),.slice a k c] w fun e w'=>e=.returned (.tuple #[.agg (UARR .u8 32 (z3r d n (FLDF d hs k))),.int .i64 0])∧Below w.heap.size w w':=by
  have hz:=z18
  obtain ⟨w0,hw0⟩:∃ w0,w.alloc (.cells (UARR .u8 32 fun _=>0) 32)=w0:=⟨_,rfl⟩
  have hb0:Below w.heap.size w w0:=by rw [← hw0];exact (Below.refl _ _).alloc (Nat.le_refl _) _
  have h40:Has w0 w.heap.size (UARR .u8 32 fun _=>0) 32:=by rw [← hw0];exact Has.new w _ _
  have h1':¬ (4611686018427387904:Int)<(n:Int):=by omega
  have hn64:n<2 ^ 64:=by omega
  have hpop:=z4k hn64
  have hk64:k≤64:=by rw [hk];exact z1c 64 n hn64
  have e2:(k:Int)=((POP n:Nat):Int):=by rw [hpop,hk]
  have co:=z1G n hn64 w0
  rw [← e2] at co
  have cf:=zbG d a k c (by omega) hs w0 (hH.below hb0) h8 (hX.below hb0)
  have hF8:=zgd (d:=d) h8
  have cr:=fun (W:World) (hb:Below w0.heap.size w0 W)=>za1 d n hn64 (FLDF d hs k) hF8 W ((hX.below hb0).below hb)
  have eR:z3r d n (FLDF d hs k)=z0n d (3 :: (BE8 n ++ (List.range 32).map (FLDF d hs k))):=rfl
  rw [← eR] at cr
  clear eR hF8 e2 hk64 hpop hn64 hk hH h8 hX hn
  generalize z3r d n (FLDF d hs k)=Y at *
  generalize FLDF d hs k=X at *
  go_enter Tryz.func12,Tryz.ntmps12
  go_wp2_with fail
  refine co.mono ?_
  rintro e w1 ⟨rfl,rfl⟩
  clear co
  go_wp2_with fail
  refine cf.mono ?_
  rintro e w1 ⟨rfl,hb1⟩
  clear cf
  go_wp2_with fail
  refine (cr w1 hb1).mono ?_
  rintro e w2 ⟨rfl,hb2⟩
  clear cr
  have hb12:Below w0.heap.size w0 w2:=hb1.trans (hb2.mono hb1.size)
  have h42:=h40.keep hb12
  have hb3':Below w.heap.size w w2:=hb0.trans (hb12.mono hb0.size)
  have hst2:=z0m h42 Y
  have hsu:=z02 .u8 32 Y
  clear hb1 hb2 hb12
  go_wp2
  refine bodyPost_ret (v:=.tuple #[.agg (UARR .u8 32 Y),.int .i64 0]) ?_ rfl ⟨rfl,z0a hb3' (Nat.le_refl _) _⟩
  exact z0s rfl _ _ w.heap.size 32 _ (0,0) _ _ rfl (h42.row _) _ rfl Tryz.underlying32 (z03 _)
def z0Y (d:Int) (f:Nat→Nat→Nat) (m:Nat):Nat→Nat:=z3r d m (FLDF d (fun i=>(PKV d f m).getD i fun _=>0) (PC m))
theorem zh0 {d:Int} {f:Nat→Nat→Nat} {n m:Nat} (hf:∀ k,k<n→∀ i,f k i<256) (hm:m≤n) (i:Nat) (j:Nat):(PKV d f m).getD i (fun _=>0) j<256:=by
  rw [List.getD_eq_getElem?_getD,PKV,List.getElem?_map]
  cases hi:(HS 0 m)[i]? with
  | none=>show (0:Nat)<256;decide
  | some h=>
    have hb:=(z6O 0 h (by decide) (List.mem_of_getElem? hi)).2.2
    exact z2k hf h _ (Nat.le_trans (z7l hb) hm) j
set_option maxHeartbeats 2000000 in
theorem zdi {w:World} {B g:Nat} {d:Int} {log n:Nat} {C:z04} {f:Nat→Nat→Nat} (hF:FOREST w B g d log n C f) (m:Nat) (hm:m≤n) (hT:Go.Proofs.YthjeeblddipiiaaGreatDoor.Tabled w) (hX:Tabled w):
    Calls Tryz.prog 8 #[.pointer (some ⟨g,0,none⟩),.int .u64 (m:Int)] w fun e w'=>e=.returned (.tuple #[.agg (UARR .u8 32 (z0Y d f m)),.int .i64 0])∧Below w.heap.size w w':=by
  have hz:=z18
  obtain ⟨w0,hw0⟩:∃ w0,w.alloc (.cells (UARR .u8 32 fun _=>0) 32)=w0:=⟨_,rfl⟩
  have hb0:Below w.heap.size w w0:=by rw [← hw0];exact (Below.refl _ _).alloc (Nat.le_refl _) _
  have h40:Has w0 w.heap.size (UARR .u8 32 fun _=>0) 32:=by rw [← hw0];exact Has.new w _ _
  have hF0:=hF.below hb0
  have c6:=hF0.size
  have hle:¬ (n:Int)<(m:Int):=by omega
  have cp:=z4y hF0 m hm (hT.below (by have:=hF.store.lt;omega) hb0)
  have hn20:=hF.few
  have A:Aside (FOREST w0 B g d log n C f∧m≤n∧m≤2 ^ 20∧Tabled w0):=⟨hF0,hm,by omega,hX.below hb0⟩
  clear hF hm hT hX hn20 hF0
  go_enter Tryz.func8,Tryz.ntmps8
  go_wp2_with fail
  refine cp.mono ?_
  rintro e w1 ⟨v,rfl,hown,hb1⟩
  clear cp
  obtain ⟨a,c,rfl,hH⟩:=z5Z hown (z4d d f (by have:=A.out.2.2.1;omega))
  have c5:=(A.out.1.below hb1).width
  have cb:=zge d m (by have:=A.out.2.2.1;omega) a (PC m) c rfl _ w1 hH (fun i _ j=>zh0 A.out.1.byte A.out.2.1 i j) (A.out.2.2.2.below hb1)
  have eR:z0Y d f m=z3r d m (FLDF d (fun i=>(PKV d f m).getD i fun _=>0) (PC m)):=rfl
  rw [← eR] at cb
  clear hown hH eR A
  generalize hY0:z0Y d f m=Y at *
  generalize PC m=M at *
  go_wp2_with fail
  refine cb.mono ?_
  rintro e w2 ⟨rfl,hb2⟩
  clear cb
  have hb12:Below w0.heap.size w0 w2:=hb1.trans (hb2.mono hb1.size)
  have h42:=h40.keep hb12
  have hb3':Below w.heap.size w w2:=hb0.trans (hb12.mono hb0.size)
  have hst2:=z0m h42 Y
  have hsu:=z02 .u8 32 Y
  clear hb1 hb2 hb12 c5
  go_wp2
  refine bodyPost_ret (v:=.tuple #[.agg (UARR .u8 32 Y),.int .i64 0]) ?_ rfl ⟨by rw [hY0],z0a hb3' (Nat.le_refl _) _⟩
  exact z0s rfl _ _ w.heap.size 32 _ (0,0) _ _ rfl (h42.row _) _ rfl Tryz.underlying32 (z03 _)
theorem z8L {w:World} {B g:Nat} {d:Int} {log n:Nat} {C:z04} {f:Nat→Nat→Nat} (hF:FOREST w B g d log n C f) (hT:Go.Proofs.YthjeeblddipiiaaGreatDoor.Tabled w):
    Calls Tryz.prog 14 #[.pointer (some ⟨g,0,none⟩)] w fun e w'=>∃ v,e=.returned v∧w'.ownsRow w.heap.size 32 32 v (PC n) (HL (PKV d f n))∧Below w.heap.size w w':=by
  have c6:=hF.size
  have cp:=z4y hF n (Nat.le_refl _) hT
  clear hF hT
  go_enter Tryz.func14,Tryz.ntmps14
  go_wp2_with fail
  refine cp.mono ?_
  rintro e w1 ⟨v,rfl,hown,hb⟩
  clear cp
  go_wp2_with fail
  go_ret
  exact ⟨_,rfl,hown,hb⟩
end Go.Proofs.YthjeeblddipiiaaGreatDoor.HX

namespace Go.Proofs.YthjeeblddipiiaaGreatDoor.HX
open Go.RowKit
set_option maxRecDepth 100000
end Go.Proofs.YthjeeblddipiiaaGreatDoor.HX

namespace Go.Proofs.YthjeeblddipiiaaGreatDoor.HX
open Go.RowKit
set_option maxRecDepth 100000
def HB (x:Nat):Nat→Nat:=fun i=>if i=0 then x else 0
structure AW (w wx:World) (B g:Nat) (log n:Nat) (C:z04) (f:Nat→Nat→Nat) (d:Int) (b3 b4 b5:Nat) (x y z:Nat→Nat):Prop where
  tree:FOREST wx B g d log n C f
  h3:Has wx b3 (UARR .u8 32 x) 32
  h4:Has wx b4 (UARR .u8 32 y) 32
  h5:Has wx b5 (UARR .u8 32 z) 32
  off:¬ FOOT wx g C b3∧¬ FOOT wx g C b4∧¬ FOOT wx g C b5
  below:Below B w wx
theorem FOREST.ne {w:World} {B g:Nat} {d:Int} {log n b:Nat} {C:z04} {f:Nat→Nat→Nat} (h:FOREST w B g d log n C f) {c:Array Value} (hb:Has w b c 32):b≠g:=fun e=>by
  obtain ⟨cs,t,fr,k1,_,_,k4⟩:=h.store.kind
  unfold Has at hb
  rw [e,k1] at hb
  cases Option.some.inj hb
  exact k4 rfl
theorem AW.next {w wx w':World} {B g:Nat} {log n:Nat} {C:z04} {f:Nat→Nat→Nat} {d:Int} {b3 b4 b5:Nat} {x y z u:Nat→Nat} (h:AW w wx B g log n C f d b3 b4 b5 x y z) (hA:z3e wx B g d log n C f u w'):∃ C',AW w w' B g log (n+1) C' (z0E f n u) d b3 b4 b5 x y z:=by
  obtain ⟨C',a1,a2,a3⟩:=hA
  have key:∀ {b:Nat} {c:Array Value},Has wx b c 32→¬ FOOT wx g C b→Has w' b c 32∧¬ FOOT w' g C' b:=fun {b c} hb hf=>by
    refine ⟨(a2.same b hb.lt (h.tree.ne hb) hf).trans hb,fun hf'=>?_⟩
    rcases a2.foot b hf' with h1 | h1
    · exact hf h1
    · have:=hb.lt
      omega
  exact ⟨C',a1,(key h.h3 h.off.1).1,(key h.h4 h.off.2.1).1,(key h.h5 h.off.2.2).1,⟨(key h.h3 h.off.1).2,(key h.h4 h.off.2.1).2,(key h.h5 h.off.2.2).2⟩,h.below.trans a3⟩
theorem AW.keep {w wx w':World} {B g:Nat} {log n:Nat} {C:z04} {f:Nat→Nat→Nat} {d:Int} {b3 b4 b5:Nat} {x y z:Nat→Nat} (h:AW w wx B g log n C f d b3 b4 b5 x y z) (hB:B≤wx.heap.size) (hb:Below wx.heap.size wx w'):AW w w' B g log n C f d b3 b4 b5 x y z:=
  ⟨h.tree.below hb,h.h3.keep hb,h.h4.keep hb,h.h5.keep hb,⟨fun hf=>h.off.1 (h.tree.store.foot_below hb hf),fun hf=>h.off.2.1 (h.tree.store.foot_below hb hf),fun hf=>h.off.2.2 (h.tree.store.foot_below hb hf)⟩,h.below.trans (hb.mono hB)⟩
theorem pc3:PC 3=2:=by decide
theorem FOREST.second {w:World} {B g:Nat} {d:Int} {log:Nat} {C:z04} {f:Nat→Nat→Nat} (h:FOREST w B g d log 3 C f):GOTH C log (z05 3) 2=z4I d (f 0) (f 1)∧GOT C log (z05 3) 2=0:=by
  have h1:AT C log 2=some (z4I d (f 0) (f 1)):=h.node 1 0 (by decide)
  have h2:2<z05 3:=by decide
  unfold GOTH GOT
  rw [if_pos h2,if_pos h2,h1]
  exact ⟨rfl,rfl⟩
end Go.Proofs.YthjeeblddipiiaaGreatDoor.HX

namespace Go.Proofs.YthjeeblddipiiaaGreatDoor.HX
open Go.RowKit
set_option maxRecDepth 100000
theorem FOREST.congr {w:World} {B g:Nat} {d:Int} {log n:Nat} {C:z04} {f f':Nat→Nat→Nat} (h:FOREST w B g d log n C f) (he:∀ k,k<n→f k=f' k):FOREST w B g d log n C f':=
  ⟨h.store,h.width,h.size,h.free,fun h1 k hk=>by rw [h.node h1 k hk,z1N he h1 k hk],fun k hk i=>by rw [← he k hk];exact h.byte k hk i,h.few,h.base⟩
def RTS (d:Int) (hs:Nat→Nat→Nat) (k:Nat):List (Nat→Nat):=(List.range k).map (z0Y d hs)
theorem zbH (d:Int) (hs:Nat→Nat→Nat) (k:Nat):(RTS d hs k).length=k:=by simp [RTS]
theorem zgf (d:Int) (hs:Nat→Nat→Nat) {k i:Nat} (h:i<k):(RTS d hs k).getD i (fun _=>0)=z0Y d hs i:=by
  rw [List.getD_eq_getElem?_getD,RTS,List.getElem?_map,List.getElem?_range h]
  rfl
structure ROOTS (w wx:World) (B g:Nat) (d:Int) (i k:Nat) (C:z04) (hs:Nat→Nat→Nat) (v:Value):Prop where
  tree:FOREST wx B g d 0 i C hs
  own:wx.ownsRow B 32 32 v k (HL (RTS d hs k))
  off:∀ b,v.ownBlock=some b→¬ FOOT wx g C b∧b≠g
  below:Below B w wx
theorem ROOTS.keep {w wx w':World} {B g:Nat} {d:Int} {i k:Nat} {C:z04} {hs:Nat→Nat→Nat} {v:Value} (h:ROOTS w wx B g d i k C hs v) (hB:B≤wx.heap.size) (hb:Below wx.heap.size wx w'):ROOTS w w' B g d i k C hs v:=
  ⟨h.tree.below hb,z3a h.own hb,fun b e=>⟨fun hf=>(h.off b e).1 (h.tree.store.foot_below hb hf),(h.off b e).2⟩,h.below.trans (hb.mono hB)⟩
theorem ROOTS.appended {w wx w':World} {B g:Nat} {d:Int} {i k:Nat} {C:z04} {hs:Nat→Nat→Nat} {v:Value} (h:ROOTS w wx B g d i k C hs v) (hA:z3e wx B g d 0 i C hs (hs i) w'):∃ C',ROOTS w w' B g d (i+1) k C' hs v:=by
  obtain ⟨C',a1,a2,a3⟩:=hA
  refine ⟨C',a1.congr fun k hk=>?_,?_,fun b e=>⟨fun hf=>?_,(h.off b e).2⟩,h.below.trans a3⟩
  · unfold z0E
    split
    · rename_i e;rw [e]
    · rfl
  · refine ⟨h.own.1,h.own.2.imp id ?_⟩
    rintro ⟨g',c,cur,rfl,b,r,rest⟩
    exact ⟨g',c,cur,rfl,b,(a2.same g' (Array.getElem?_eq_some_iff.1 r).1 (h.off g' rfl).2 (h.off g' rfl).1).trans r,rest⟩
  · rcases a2.foot b hf with h1 | h1
    · exact (h.off b e).1 h1
    · have:=(h.own.lt b e).2
      omega
theorem ROOTS.at {w wx:World} {B g:Nat} {d:Int} {i k j gl cl:Nat} {C:z04} {hs:Nat→Nat→Nat} (h:ROOTS w wx B g d i k C hs (.slice (some ⟨gl,0,none⟩) k cl)) (hj:j<k):wx.rangeAt gl (j*32) (z01 .u8 32 (z0Y d hs j))∧gl<wx.heap.size:=by
  obtain ⟨a,c,e,hH⟩:=z5Z h.own (zbH d hs k)
  cases e
  obtain ⟨b,o,e,hl,hr⟩:=hH (by omega)
  cases e
  have h1:=hr j hj
  dsimp only at h1
  rw [zgf d hs hj,Nat.zero_add] at h1
  exact ⟨h1,hl⟩
end Go.Proofs.YthjeeblddipiiaaGreatDoor.HX

namespace Go.Proofs.YthjeeblddipiiaaGreatDoor.HX
open Go.RowKit
set_option maxRecDepth 100000
theorem z4f {n:Nat} (h:n<2 ^ 40):IntKind.u64.wrap (n:Int)=(n:Int):=by
  simp [IntKind.wrap,IntKind.signed,IntKind.bits]
  omega
set_option maxHeartbeats 2000000 in
theorem zdj (d:Int) (a:Option Addr) (n c:Nat) (hs:Nat→Nat→Nat) (w:World) (hn:n≤2 ^ 19) (hH:HASHES w a n hs) (h8:∀ i,i<n→∀ j,hs i j<256) (hX:Tabled w):Calls Tryz.prog 6 #[.int .i64 d,.slice a n c] w fun e w'=>
    ∃ g C,e=.returned (.pointer (some ⟨g,0,none⟩))∧FOREST w' w.heap.size g d 3 n C hs∧Below w.heap.size w w'∧(∀ b,b<w.heap.size→¬ FOOT w' g C b):=by
  have cn:=zbA d 3 (by decide) w
  have GB:Aside (2<w.heap.size):=hX.2.2
  have HA:Aside (HASHES w a n hs∧(∀ i,i<n→∀ j,hs i j<256)∧n≤2 ^ 19):=⟨hH,h8,hn⟩
  have tab:Aside (∀ W,Below w.heap.size w W→Tabled W):=fun W hb=>hX.below hb
  clear hn hH h8 hX
  go_enter Tryz.func6,Tryz.ntmps6
  go_wp2_with fail
  refine cn.mono ?_
  rintro e w1 ⟨g,rfl,hg,hH,hb1⟩
  clear cn
  have hF1:=FOREST.new (B:=w.heap.size) hH (by decide) hg hs
  have A1:Aside (FOREST w1 w.heap.size g d 3 0 (fun _=>none) hs∧Below w.heap.size w w1∧∀ b,b<w.heap.size→¬ FOOT w1 g (fun _=>none) b):=⟨hF1,hb1,fun b _ hf=>by
    rcases hf with e | ⟨k,gc,rs,e,_⟩
    · rw [hH.cell 3] at e
      cases e
    · cases e⟩
  clear hg hH hb1 hF1
  go_wp2_with fail
  go_loopg [7] n (fun r s7 wx=>∃ (i:Nat) (C:z04),s7=.int .i64 (i:Int)∧Aside (i+r=n∧FOREST wx w.heap.size g d 3 i C hs∧Below w.heap.size w wx∧∀ b,b<w.heap.size→¬ FOOT wx g C b))
  case atStart=>exact ⟨0,_,rfl,by omega,A1.out⟩
  case round=>
    obtain ⟨i,C,rfl,A⟩:=hrel
    clear A1
    cases gk with
    | zero=>
      obtain rfl:i=n:=by have:=A.out.1;omega
      have hlt:¬ (i:Int)<(i:Int):=by omega
      go_wp2_with fail
      go_ret
      first | exact ⟨g,C,rfl,A.out.2⟩ | exact ⟨g,rfl,C,A.out.2⟩
    | succ r=>
      have hin:i<n:=by have:=A.out.1;omega
      have hlt:(i:Int)<(n:Int):=by omega
      have hi0:¬ (i:Int)<0:=by omega
      obtain ⟨lb,lo,rfl,hlb,hlr⟩:=HA.out.1 (by omega)
      have hrg:wr.rangeAt lb (lo+i*32) (z01 .u8 32 (hs i)):=z1t (hlr i hin) A.out.2.2.1 hlb
      have cA:=zdg A.out.2.1 (hs i) (HA.out.2.1 i hin) (by have:=HA.out.2.2;omega) (tab.out wr A.out.2.2.1) GB.out A.out.2.2.1.size
      have ei:wrap64 ((i:Int)+1)=((i+1:Nat):Int):=by have:=HA.out.2.2;unfold wrap64;omega
      have eu:=z4f (n:=i) (by have:=HA.out.2.2;clear ei;omega)
      have A3:Aside (i+1+r=n):=by have:=A.out.1;show i+1+r=n;clear ei eu;omega
      clear hlr hin hlb
      go_wp2_with (refine wpList_load_mid rfl 32 (.tmp 28) rfl lb (lo+i*32) rfl (z01 .u8 32 (hs i)) _ hrg Tryz.underlying32 rfl (by rw [z09];exact z0q) ?_;rw [← z0V])
      refine cA.mono ?_
      rintro e w3 ⟨rfl,C',a1,a2,a3⟩
      have A4:Aside (FOREST w3 w.heap.size g d 3 (i+1) C' hs∧Below w.heap.size w w3∧∀ b,b<w.heap.size→¬ FOOT w3 g C' b):=by
        refine ⟨a1.congr fun k hk=>?_,A.out.2.2.1.trans a3,fun b hb hf=>?_⟩
        · unfold z0E
          split
          · rename_i e;rw [e]
          · rfl
        · rcases a2.foot b hf with h1 | h1
          · exact A.out.2.2.2 b hb h1
          · have:=A.out.2.2.1.size
            omega
      clear cA hrg a1 a2 a3 A
      go_wp2_with fail
      go_roundg r
      case measure=>exact Nat.lt_succ_self _
      case rel=>exact ⟨i+1,C',by first | rfl | (rw [ei]),A3.out,A4.out⟩
end Go.Proofs.YthjeeblddipiiaaGreatDoor.HX

namespace Go.Proofs.YthjeeblddipiiaaGreatDoor
open Go.RowKit
set_option maxRecDepth 100000
theorem Bytes.nil (w:World):Bytes w none 0 []:=⟨rfl,fun h=>absurd h (by omega),fun x hx=>by cases hx⟩
end Go.Proofs.YthjeeblddipiiaaGreatDoor

namespace Go.Proofs.YthjeeblddipiiaaGreatDoor
set_option maxRecDepth 100000
theorem z6F {ss:List (Nat × Nat)} {l:List Int} (hp:ss.Pairwise Off) {t h k:Nat} (ht:ss[t]?=some (h,k)):∀ N,t<N→N≤ss.length→HAND ss l N h k=HSH l t
  | 0,h0,_=>by omega
  | N + 1,h1,h2=>by
    rw [HAND]
    by_cases e:t=N
    · subst e
      rw [show ss.getD t (0,0)=(h,k) by rw [List.getD_eq_getElem?_getD,ht];rfl]
      exact z6o _ _ _ _
    · have hlt:t<N:=by omega
      obtain ⟨s,hs⟩:∃ s,ss[N]?=some s:=⟨_,List.getElem?_eq_getElem (by omega)⟩
      have ho:=Pairwise.at_lt hp hlt ht hs
      rw [show ss.getD N (0,0)=s by rw [List.getD_eq_getElem?_getD,hs];rfl]
      rw [z2K]
      · exact z6F hp ht N hlt (by omega)
      · rintro ⟨e1,e2⟩
        obtain ⟨a,b⟩:=s
        dsimp only at e1 e2
        subst e1 e2
        have:=Nat.two_pow_pos h
        unfold Off at ho
        dsimp only at ho
        rw [Nat.add_mul] at ho
        omega
end Go.Proofs.YthjeeblddipiiaaGreatDoor

namespace Go.Proofs.YthjeeblddipiiaaGreatDoor
open Go.RowKit
set_option maxRecDepth 100000
theorem z3g (f:Nat→Nat):NATS (LST f)=(List.range 32).map f:=by
  unfold NATS
  apply List.map_congr_left
  intro i hi
  have hi':i<32:=by simpa using hi
  unfold FNC LST
  rw [List.getD_eq_getElem?_getD,List.getElem?_map,List.getElem?_range hi']
  simp
theorem zdk (d:Int) (a b:Nat→Nat):z0L d (LST a) (LST b)=LST (HX.z4I d a b):=by
  unfold z0L HX.z4I
  rw [z3g,z3g]
theorem zdl (d:Int) (a b:Nat→Nat):z1D d (LST a) (LST b)=LST (HX.z4L d a b):=by
  unfold z1D HX.z4L
  rw [z3g,z3g]
theorem zdm (d:Int) (n:Nat) (a:Nat→Nat):z1v d n (LST a)=LST (HX.z3r d n a):=by
  unfold z1v HX.z3r
  rw [z3g]
theorem zdn (d:Int) (f:Nat→Nat→Nat) (h k:Nat):TVAL d f (h+1) k=z0L d (TVAL d f h (2*k)) (TVAL d f h (2*k+1)):=by
  unfold TVAL
  rw [zdk,HX.VAL]
theorem z6G {M:Nat→Nat→List Int}:∀ {ss:List (Nat × Nat)},(∀ s∈ss,(M s.1 s.2).length=32)→∀ {t h k:Nat},ss[t]?=some (h,k)→HSH (CAT M ss) t=M h k
  | [],_,t,h,k,e=>by simp at e
  | s :: ss,hl,0,h,k,e=>by
    simp only [List.getElem?_cons_zero,Option.some.injEq] at e
    subst e
    have h1:=hl (h,k) (List.mem_cons_self ..)
    unfold HSH CAT
    rw [List.flatMap_cons,Nat.mul_zero,List.drop_zero,List.take_append_of_le_length (by omega),List.take_of_length_le (by omega)]
  | s :: ss,hl,t+1,h,k,e=>by
    have h1:=hl s (List.mem_cons_self ..)
    have ih:=z6G (fun x hx=>hl x (List.mem_cons_of_mem _ hx)) (t:=t) (h:=h) (k:=k) (by simpa using e)
    rw [← ih]
    unfold HSH CAT
    rw [List.flatMap_cons,List.drop_append,List.drop_of_length_le (by omega),List.nil_append,h1,show 32*(t+1) - 32=32*t by omega]
theorem zf0 {M M':Nat→Nat→List Int} {ss:List (Nat × Nat)} (h:∀ x y,(x,y)∈ss→M x y=M' x y):CAT M ss=CAT M' ss:=by
  unfold CAT
  rw [List.flatMap_def,List.flatMap_def]
  congr 1
  apply List.map_congr_left
  rintro ⟨x,y⟩ hs
  exact h x y hs
theorem z8M (d:Int) (f:Nat→Nat→Nat) {m:Nat} (hm:m≤1000000):HX.PKV d f m=(SPAN 0 m).map fun s=>HX.VAL d f s.1 s.2:=by
  have hl:=HX.z4d d f (m:=m) (by omega)
  have hs:=z0A (n:=m) (by omega)
  apply List.ext_getElem (by rw [hl,List.length_map,hs])
  intro i h1 h2
  have hi:i<PC m:=by omega
  have h3:=z1y (n:=m) (i:=i) (by omega) hi
  have h4:(SPAN 0 m)[i]'(by omega)=(HGT m i,KGT m i):=by
    rw [List.getElem?_eq_getElem (by omega)] at h3
    exact Option.some.inj h3
  rw [List.getElem_map,h4]
  unfold HX.PKV at h1 ⊢
  rw [List.getElem_map]
  have h5:i<(HS 0 m).length:=by simpa using h1
  have e:(HS 0 m)[i]=HGT m i:=by unfold HGT;rw [List.getD_eq_getElem?_getD,List.getElem?_eq_getElem h5,Option.getD_some]
  rw [e]
  rfl
theorem zah (d:Int) (f:Nat→Nat→Nat) {m:Nat} (hm:m≤1000000):HX.HL (HX.PKV d f m)=z00 (CAT (TVAL d f) (SPAN 0 m)):=by
  rw [z8M d f hm]
  unfold HX.HL CAT
  rw [List.flatMap_map]
  induction SPAN 0 m with
  | nil=>rfl
  | cons s ss ih=>
    rw [List.flatMap_cons,List.flatMap_cons,z0y,ih]
    congr 1
theorem zdo {d:Int} {l:List Int} {v:Nat→Nat→Nat} {n:Nat} (h:∀ i,i<n→HSH l i=LST (v i)) (hn:0<n):∀ k,k<n→FA d l n k=LST (HX.FAF d v n k)
  | 0,_=>by rw [FA,HX.FAF,h _ (by omega)]
  | k+1,hk=>by rw [FA,HX.FAF,zdo h hn k (by omega),h _ (by omega),zdl]
theorem zgg {d:Int} {l:List Int} {v:Nat→Nat→Nat} {n:Nat} (h:∀ i,i<n→HSH l i=LST (v i)):FLD d l n=LST (HX.FLDF d v n):=by
  unfold FLD HX.FLDF
  by_cases hn:n=0
  · rw [if_pos hn,if_pos hn]
    rfl
  · rw [if_neg hn,if_neg hn]
    exact zdo h (by omega) _ (by omega)
theorem z7q (d:Int) (f:Nat→Nat→Nat) {m:Nat} (hm:m≤1000000):BAGA d m (PC m) (CAT (TVAL d f) (SPAN 0 m))=(0,LST (HX.z0Y d f m)):=by
  unfold BAGA
  rw [if_neg (by omega),if_neg (by simp)]
  unfold HX.z0Y
  rw [← zdm]
  congr 2
  apply zgg
  intro i hi
  have h3:=z1y (n:=m) (i:=i) (by omega) hi
  rw [z6G (fun s _=>z3z d f s.1 s.2) h3]
  unfold TVAL
  congr 1
  rw [z8M d f hm,List.getD_eq_getElem?_getD,List.getElem?_map,h3]
  rfl
end Go.Proofs.YthjeeblddipiiaaGreatDoor

namespace Go.Proofs.YthjeeblddipiiaaGreatDoor
open Go.RowKit
set_option maxRecDepth 100000
end Go.Proofs.YthjeeblddipiiaaGreatDoor

namespace Go.Proofs.YthjeeblddipiiaaGreatDoor
open Go.RowKit
set_option maxRecDepth 100000
theorem z3f {n:Nat} (h:n≤1000):IntKind.u64.wrap ((n:Int)+1)=((n+1:Nat):Int):=by
  simp [IntKind.wrap,IntKind.signed,IntKind.bits]
  omega
end Go.Proofs.YthjeeblddipiiaaGreatDoor

namespace Go.Proofs.YthjeeblddipiiaaGreatDoor
set_option maxRecDepth 100000
theorem z8N {b:Nat} (hb:b≤4611686018427387904) {h k:Nat}:∀ f a,b - a≤f→a≤k*2 ^ h→(k+1)*2 ^ h≤b→¬ (a≤k / 2*2 ^ (h+1)∧(k / 2+1)*2 ^ (h+1)≤b)→(h,k)∈SPAN a b:=by
  intro f
  have hp:=Nat.two_pow_pos h
  have hs:=z32 k h
  induction f with
  | zero=>intro a hf h1 h2 _;omega
  | succ f ih=>
    intro a hf h1 h2 h3
    have hab:a<b:=by omega
    obtain ⟨g1,g2,g3⟩:=z2R hab hb
    rw [z1K hab]
    generalize HT a b=H at *
    have hu:=z2E h
    rcases Nat.eq_or_lt_of_le h1 with e | e
    · have hF:Fit a h b:=⟨by rw [e];exact Nat.mul_mod_left _ _,by omega⟩
      have hle:h≤H:=by
        rcases Nat.lt_or_ge H h with c | c
        · exact absurd (hF.le (H+1) (by omega)) g3
        · exact c
      rcases Nat.eq_or_lt_of_le hle with e2 | e2
      · subst e2
        rw [e,Nat.mul_div_cancel _ hp]
        exact List.mem_cons_self
      · exfalso
        have hG:=g2.le (h+1) (by omega)
        have hk:k % 2=0:=z2S.1 (by rw [← e];exact hG.1)
        have hk2:k / 2*2 ^ (h+1)=k*2 ^ h:=by
          rw [hu,← Nat.mul_assoc,show k / 2*2=k by omega]
        refine h3 ⟨by omega,?_⟩
        rw [z32,hk2]
        have:=hG.2
        omega
    · refine List.mem_cons_of_mem _ (ih (a+2 ^ H) (by have:=Nat.two_pow_pos H;omega) ?_ h2 (fun ⟨x,y⟩=>h3 ⟨by omega,y⟩))
      rcases Nat.lt_or_ge (k*2 ^ h) (a+2 ^ H) with lt | ge
      · exfalso
        rcases Nat.lt_or_ge h H with c | c
        · obtain ⟨q,hq⟩:2 ^ (h+1) ∣ 2 ^ H:=Nat.pow_dvd_pow 2 c
          obtain ⟨A,hA⟩:2 ^ (h+1) ∣ a:=Nat.dvd_trans ⟨q,hq⟩ (Nat.dvd_of_mod_eq_zero g2.1)
          have e1:2 ^ h*(2*A)<2 ^ h*k:=by
            rw [← Nat.mul_assoc,Nat.mul_comm (2 ^ h) 2,← hu,← hA,Nat.mul_comm (2 ^ h) k]
            exact e
          have e2:2 ^ h*k<2 ^ h*(2*(A+q)):=by
            rw [← Nat.mul_assoc,Nat.mul_comm (2 ^ h) 2,← hu,Nat.mul_add,← hA,← hq,Nat.mul_comm (2 ^ h) k]
            exact lt
          have e3:=Nat.lt_of_mul_lt_mul_left e1
          have e4:=Nat.lt_of_mul_lt_mul_left e2
          refine h3 ⟨?_,?_⟩
          · rw [hA,Nat.mul_comm]
            exact Nat.mul_le_mul_right _ (by omega)
          · have:(k / 2+1)*2 ^ (h+1)≤(A+q)*2 ^ (h+1):=Nat.mul_le_mul_right _ (by omega)
            rw [Nat.mul_comm (A+q),Nat.mul_add,← hA,← hq] at this
            have:=g2.2
            omega
        · obtain ⟨q,hq⟩:2 ^ H ∣ 2 ^ h:=Nat.pow_dvd_pow 2 c
          obtain ⟨A,hA⟩:2 ^ H ∣ a:=Nat.dvd_of_mod_eq_zero g2.1
          have hx:k*2 ^ h=2 ^ H*(k*q):=by rw [hq,Nat.mul_left_comm]
          rw [hx] at e lt
          rw [hA] at e
          have e1:=Nat.lt_of_mul_lt_mul_left e
          rw [hA] at lt
          have e2:2 ^ H*(k*q)<2 ^ H*(A+1):=by rw [Nat.mul_add,Nat.mul_one];exact lt
          have e3:=Nat.lt_of_mul_lt_mul_left e2
          omega
      · exact ge
def VH (d:Int) (ss:List (Nat × Nat)) (l:List Int):Nat→Nat→List Int
  | 0,k=>HAND ss l ss.length 0 k
  | h+1,k=>if (h+1,k)∈ss then HAND ss l ss.length (h+1) k else z0L d (VH d ss l h (2*k)) (VH d ss l h (2*k+1))
theorem zbI {d:Int} {ss:List (Nat × Nat)} {l:List Int} {h k:Nat} (hm:(h,k)∈ss):VH d ss l h k=HAND ss l ss.length h k:=by
  cases h with
  | zero=>rfl
  | succ h=>rw [VH,if_pos hm]
theorem zdp {d:Int} {ss:List (Nat × Nat)} {l:List Int} {h k:Nat} (hm:(h+1,k) ∉ ss):VH d ss l (h+1) k=z0L d (VH d ss l h (2*k)) (VH d ss l h (2*k+1)):=by rw [VH,if_neg hm]
theorem z7r {F S t h k:Nat} (hS:S≤4611686018427387904) (hL:LOWS F t) (hh:h≤62) (he:(k+1)*2 ^ h≤S) (h1:F<(k / 2+1)*2 ^ (h+1)) (h2:¬ (F≤k / 2*2 ^ (h+1)∧(k / 2+1)*2 ^ (h+1)≤S)) (hFS:F≤S):(h,k)∈PXS F S∨(t<h∧k=F / 2 ^ h):=by
  rcases Nat.lt_or_ge F ((k+1)*2 ^ h) with c1 | c1
  · rcases Nat.lt_or_ge (k*2 ^ h) F with c2 | c2
    · right
      have hk:k=F / 2 ^ h:=(Nat.div_eq_of_lt_le (by omega) c1).symm
      refine ⟨?_,hk⟩
      rcases Nat.lt_or_ge t h with c | c
      · exact c
      · exfalso
        have hm:=(hL.2.2 h (by omega)).2 c
        have:=Nat.div_add_mod F (2 ^ h)
        rw [hm,Nat.mul_comm,← hk] at this
        omega
    · left
      exact List.mem_append_right _ (z8N hS _ F (Nat.le_refl _) c2 he h2)
  · left
    exact List.mem_append_left _ (z8N (by omega) _ 0 (Nat.le_refl _) (Nat.zero_le _) c1 (fun h=>by omega))
theorem z8O {F S x y:Nat} (hFS:F≤S) (hS:S≤4611686018427387904) (h1:y*2 ^ x<F) (h2:F<(y+1)*2 ^ x):(x,y) ∉ PXS F S:=by
  intro hm
  rcases List.mem_append.1 hm with hm | hm
  · have:=((z1d (b:=F) (by omega) (Nat.zero_le _)).within _ hm).2.1
    dsimp only at this
    omega
  · have:=((z1d hS hFS).within _ hm).1
    dsimp only at this
    omega
theorem zdq {F t x:Nat} (hL:LOWS F t) (hx:t<x) (hx2:x≤64):F / 2 ^ x*2 ^ x<F∧F<(F / 2 ^ x+1)*2 ^ x:=by
  obtain ⟨a,b⟩:=z3l F x
  refine ⟨?_,b⟩
  rcases Nat.eq_or_lt_of_le a with e | e
  · exfalso
    have hm:F % 2 ^ x=0:=by rw [← e];exact Nat.mul_mod_left _ _
    have:=(hL.2.2 x hx2).1 hm
    omega
  · exact e
theorem zhn {n k:Nat}:∀ f h i,i<f→(∀ j,j≤i→(n / 2 ^ (h+j)+1)*2 ^ (h+j)≤n+k)→(JF n k f h)[i]?=some (h+i,n / 2 ^ (h+i)):=by
  intro f
  induction f with
  | zero=>intro h i hi _;omega
  | succ f ih=>
    intro h i hi hj
    have h0:(n / 2 ^ h+1)*2 ^ h≤n+k:=hj 0 (Nat.zero_le _)
    rw [JF,if_pos h0]
    cases i with
    | zero=>simp
    | succ i=>
      rw [List.getElem?_cons_succ,ih (h+1) i (by omega) (fun j hj'=>by have:=hj (j+1) (by omega);rw [show h+(j+1)=h+1+j by omega] at this;exact this)]
      rw [show h+1+i=h+(i+1) by omega]
theorem zgh (F:Nat) {x h:Nat} (hx:x≤h):(F / 2 ^ x+1)*2 ^ x≤(F / 2 ^ h+1)*2 ^ h:=by
  have b:=(z3l F h).2
  have e:2 ^ h=2 ^ (h - x)*2 ^ x:=by rw [← Nat.pow_add];congr 1;omega
  have hlt:F / 2 ^ x<(F / 2 ^ h+1)*2 ^ (h - x):=by
    rw [Nat.div_lt_iff_lt_mul (Nat.two_pow_pos x),Nat.mul_assoc,← e]
    exact b
  calc (F / 2 ^ x+1)*2 ^ x≤((F / 2 ^ h+1)*2 ^ (h - x))*2 ^ x:=Nat.mul_le_mul_right _ hlt
    _=(F / 2 ^ h+1)*2 ^ h:=by rw [Nat.mul_assoc,← e]
abbrev JSX (F S t:Nat):List (Nat × Nat):=JF F (S - F) (62 - t) (t+1)
theorem z60 {F S t i x y:Nat} (hFS:F≤S) (hL:LOWS F t) (e:(JSX F S t)[i]?=some (x,y)):x=t+1+i∧y=F / 2 ^ x∧(y+1)*2 ^ x≤S∧y*2 ^ x<F∧F<(y+1)*2 ^ x∧x≤62:=by
  obtain ⟨h1,h2,h3,h4⟩:=za5 e
  have hx:x≤62:=by omega
  have:=zdq hL (show t<x by omega) (by omega)
  rw [← h2] at this
  exact ⟨h1,h2,by omega,this.1,this.2,hx⟩
theorem getD_some {α:Type} {l:List α} {i:Nat} {x d:α} (e:l[i]?=some x):l.getD i d=x:=by rw [List.getD_eq_getElem?_getD,e];rfl
theorem z61 {d:Int} {F S t:Nat} (hFS:F≤S) (hS:S≤4611686018427387904) (hL:LOWS F t) (M:Nat→Nat→List Int) {h k:Nat} (hm:(h,k)∈PXS F S):∀ T,T≤(JSX F S t).length→JQ d (JSX F S t) M T h k=M h k
  | 0,_=>rfl
  | T + 1,hT=>by
    obtain ⟨⟨x,y⟩,e⟩:∃ s,(JSX F S t)[T]?=some s:=⟨_,List.getElem?_eq_getElem (by omega)⟩
    obtain ⟨_,_,_,c1,c2,_⟩:=z60 hFS hL e
    rw [JQ,getD_some e,z2K]
    · exact z61 hFS hS hL M hm T (by omega)
    · rintro ⟨e1,e2⟩
      dsimp only at e1 e2
      subst e1 e2
      exact z8O hFS hS c1 c2 hm
theorem z6H {d:Int} {F S t:Nat} (hFS:F≤S) (hS:S≤4611686018427387904) (hL:LOWS F t) (l:List Int):∀ T,T≤(JSX F S t).length→∀ i x y,i<T→(JSX F S t)[i]?=some (x,y)→JQ d (JSX F S t) (HAND (PXS F S) l (PXS F S).length) T x y=VH d (PXS F S) l x y
  | 0,_=>fun i x y hi _=>by omega
  | T + 1,hT=>fun i x y hi e=>by
    obtain ⟨⟨a,b⟩,eT⟩:∃ s,(JSX F S t)[T]?=some s:=⟨_,List.getElem?_eq_getElem (by omega)⟩
    obtain ⟨q1,q2,q3,q4,q5,q6⟩:=z60 hFS hL eT
    obtain ⟨p1,p2,p3,p4,p5,p6⟩:=z60 hFS hL e
    rw [JQ,getD_some eT]
    by_cases hiT:i=T
    · subst hiT
      obtain ⟨rfl,rfl⟩:a=x∧b=y:=by
        have:=eT.symm.trans e
        simpa using this
      rw [z6o]
      dsimp only
      obtain ⟨a',rfl⟩:∃ a',a=a'+1:=⟨a - 1,by omega⟩
      rw [zdp (z8O hFS hS q4 q5),Nat.add_sub_cancel]
      have kid:∀ K,K / 2=b→(K+1)*2 ^ a'≤(b+1)*2 ^ (a'+1)→JQ d (JSX F S t) (HAND (PXS F S) l (PXS F S).length) i a' K=VH d (PXS F S) l a' K:=fun K hK hKe=>by
        rcases z7r (k:=K) hS hL (show a'≤62 by omega) (by omega) (by rw [hK];exact q5) (by rw [hK];omega) hFS with hm | ⟨hm,hk⟩
        · rw [z61 hFS hS hL _ hm i (by omega),zbI hm]
        · obtain ⟨i',rfl⟩:∃ i',i=i'+1:=⟨i - 1,by omega⟩
          obtain ⟨⟨u,v⟩,eU⟩:∃ s,(JSX F S t)[i']?=some s:=⟨_,List.getElem?_eq_getElem (by omega)⟩
          obtain ⟨r1,r2,_⟩:=z60 hFS hL eU
          obtain rfl:u=a':=by omega
          rw [hk,← r2]
          exact z6H hFS hS hL l (i'+1) (by omega) i' u v (by omega) eU
      have hu:=z2E a'
      rw [kid (2*b) (by omega) ?_,kid (2*b+1) (by omega) ?_]
      · rw [hu,← Nat.mul_assoc]
        exact Nat.mul_le_mul_right _ (by omega)
      · rw [hu,← Nat.mul_assoc]
        exact Nat.mul_le_mul_right _ (by omega)
    · rw [z2K]
      · exact z6H hFS hS hL l T (by omega) i x y (by omega) e
      · rintro ⟨e1,e2⟩
        dsimp only at e1
        omega
theorem zf1 {d:Int} {F S t:Nat} (hFS:F≤S) (hS:S≤4611686018427387904) (hL:LOWS F t) (l:List Int) {h k:Nat} (hm:(h,k)∈SPAN 0 S):RCM d (JSX F S t) F S l h k=VH d (PXS F S) l h k:=by
  obtain ⟨i,hi⟩:=List.mem_iff_getElem?.1 hm
  have hN:=(z1d hS (Nat.zero_le _)).within _ hm
  dsimp only at hN
  have hi2:i<PC S:=by
    rw [← z0A hS]
    exact (List.getElem?_eq_some_iff.1 hi).1
  have hat:=z1y hS hi2
  rw [hi] at hat
  simp only [Option.some.injEq,Prod.mk.injEq] at hat
  have hpar:S<(k / 2+1)*2 ^ (h+1):=by
    rcases Nat.lt_or_ge S ((k / 2+1)*2 ^ (h+1)) with c | c
    · exact c
    · exfalso
      have h1:=z2T c
      have h2:=z4Q (n:=S) (i:=i)
      rw [← hat.1,← hat.2] at h2
      omega
  unfold RCM
  rcases z7r hS hL hN.2.2.1 hN.2.1 (by omega) (fun ⟨_,h⟩=>by omega) hFS with hr | ⟨ht,hk⟩
  · rw [z61 hFS hS hL _ hr _ (Nat.le_refl _),zbI hr]
  · have hle:=hN.2.1
    have hN2:=hN.2.2.1
    have e:(JSX F S t)[h - t - 1]?=some (h,k):=by
      have:=zhn (n:=F) (k:=S - F) (62 - t) (t+1) (h - t - 1) (by omega) (fun j hj=>by
        have:=zgh F (show t+1+j≤h by omega)
        rw [← hk] at this
        omega)
      rw [show t+1+(h - t - 1)=h by omega,← hk] at this
      exact this
    exact z6H hFS hS hL l _ (Nat.le_refl _) _ h k (List.getElem?_eq_some_iff.1 e).1 e
end Go.Proofs.YthjeeblddipiiaaGreatDoor
