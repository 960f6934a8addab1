/- Texts of VerifyAccepts, one behind the other: MmrOldCalls, MmrAwakeRegion, MmrAwake, MmrOldState, MmrOf8, VerifyTurnsWalk, VerifyRefPlain, VerifyAcceptsPlain. -/
import Derived.Test.YthjeeblddipiiaaGreatDoorVerifyAcceptsP14
import Derived.Test.YthjeeblddipiiaaGreatDoorVerifyAcceptsP15
import Derived.Test.YthjeeblddipiiaaGreatDoorVerifyAcceptsP28
import Derived.Test.YthjeeblddipiiaaGreatDoorVerifyAcceptsP29
import Derived.Test.YthjeeblddipiiaaGreatDoorVerifyAcceptsP32
import Derived.Test.YthjeeblddipiiaaGreatDoorVerifyAcceptsP33
import Derived.Test.YthjeeblddipiiaaGreatDoorVerifyAcceptsP34
namespace Go.Proofs.YthjeeblddipiiaaGreatDoor.HX
open Go.RowKit
set_option maxRecDepth 100000
theorem z5z {w:World} {B n:Nat} {v:Value} {l:List (Nat→Nat)} (h:w.ownsRow B 32 32 v n (HL l)) (hl:l.length=n):∃ a c,v=.slice a n c∧HASHES w a n (fun i=>l.getD i fun _=>0):=by
  obtain ⟨a,c,rfl⟩:=z4c h
  refine ⟨a,c,rfl,fun hn=>?_⟩
  rcases h.2 with ⟨e,h0⟩ | ⟨g,cap,cur,e,_,hg,_⟩
  · omega
  · simp only [Value.slice.injEq] at e
    obtain ⟨rfl,_,rfl⟩:=e
    refine ⟨g,0,rfl,(h.lt g rfl).2,fun i hi j u hj=>?_⟩
    have hj32:j<32:=by have:=(List.getElem?_eq_some_iff.1 hj).1;rwa [z08] at this
    have hli:l[i]?=some (l.getD i fun _=>0):=by rw [List.getD_eq_getElem?_getD,List.getElem?_eq_getElem (by omega)];rfl
    rw [z0R _ _ _ _ hj32] at hj
    rw [← hj,Nat.zero_add,h.cellAt (i*32+j) (by omega)]
    exact z7O l i j _ hli hj32
set_option maxHeartbeats 2000000 in
theorem zfk (d:Int) (n:Nat) (hn:n≤4611686018427387904) (a:Option Addr) (k c:Nat) (hk:k=PC n) (hs:Nat→Nat→Nat) (w:World) (hH:HASHES w a k hs) (h8:∀ i,i<k→∀ j,hs i j<256) (hX:Tabled w):
    Calls Tryz.prog 12 #[.int .i64 d,.int .u64 (n:Int),.slice a k c] w fun e w'=>e=.returned (.tuple #[.agg (UARR .u8 32 (z3a d n (FLDF d hs k))),.int .i64 0])∧Below w.heap.size w w':=by
  have hz:=z0Z
  obtain ⟨w0,hw0⟩:∃ w0,w.alloc (.cells (UARR .u8 32 fun _=>0) 32)=w0:=⟨_,rfl⟩
  have hb0:Below w.heap.size w w0:=by rw [← hw0];exact (Below.refl _ _).alloc (Nat.le_refl _) _
  have h40:Has w0 w.heap.size (UARR .u8 32 fun _=>0) 32:=by rw [← hw0];exact Has.new w _ _
  have h1':¬ (4611686018427387904:Int)<(n:Int):=by omega
  have hn64:n<2 ^ 64:=by omega
  have hpop:=z3Z hn64
  have hk64:k≤64:=by rw [hk];exact z1w 64 n hn64
  have e2:(k:Int)=((POP n:Nat):Int):=by rw [hpop,hk]
  have co:=z1x n hn64 w0
  rw [← e2] at co
  have cf:=zaV d a k c (by omega) hs w0 (hH.below hb0) h8 (hX.below hb0)
  have hF8:=zfj (d:=d) h8
  have cr:=fun (W:World) (hb:Below w0.heap.size w0 W)=>z9h d n hn64 (FLDF d hs k) hF8 W ((hX.below hb0).below hb)
  have eR:z3a d n (FLDF d hs k)=z0l d (3 :: (BE8 n ++ (List.range 32).map (FLDF d hs k))):=rfl
  rw [← eR] at cr
  clear eR hF8 e2 hk64 hpop hn64 hk hH h8 hX hn
  generalize z3a d n (FLDF d hs k)=Y at *
  generalize FLDF d hs k=X at *
  go_enter Tryz.func12,Tryz.ntmps12
  go_wp2_with fail
  refine co.mono ?_
  rintro e w1 ⟨rfl,rfl⟩
  clear co
  go_wp2_with fail
  refine cf.mono ?_
  rintro e w1 ⟨rfl,hb1⟩
  clear cf
  go_wp2_with fail
  refine (cr w1 hb1).mono ?_
  rintro e w2 ⟨rfl,hb2⟩
  clear cr
  have hb12:Below w0.heap.size w0 w2:=hb1.trans (hb2.mono hb1.size)
  have h42:=h40.keep hb12
  have hb3':Below w.heap.size w w2:=hb0.trans (hb12.mono hb0.size)
  have hst2:=z0j h42 Y
  have hsu:=z02 .u8 32 Y
  clear hb1 hb2 hb12
  go_wp2
  refine bodyPost_ret (v:=.tuple #[.agg (UARR .u8 32 Y),.int .i64 0]) ?_ rfl ⟨rfl,z09 hb3' (Nat.le_refl _) _⟩
  exact z0p rfl _ _ w.heap.size 32 _ (0,0) _ _ rfl (h42.row _) _ rfl Tryz.underlying32 (z03 _)
def z1n (d:Int) (f:Nat→Nat→Nat) (m:Nat):Nat→Nat:=z3a d m (FLDF d (fun i=>(PKV d f m).getD i fun _=>0) (PC m))
theorem zfY {d:Int} {f:Nat→Nat→Nat} {n m:Nat} (hf:∀ k,k<n→∀ i,f k i<256) (hm:m≤n) (i:Nat) (j:Nat):(PKV d f m).getD i (fun _=>0) j<256:=by
  rw [List.getD_eq_getElem?_getD,PKV,List.getElem?_map]
  cases hi:(HS 0 m)[i]? with
  | none=>show (0:Nat)<256;decide
  | some h=>
    have hb:=(z6a 0 h (by decide) (List.mem_of_getElem? hi)).2.2
    exact z2c hf h _ (Nat.le_trans (z6C hb) hm) j
set_option maxHeartbeats 2000000 in
theorem zfZ {w:World} {B g:Nat} {d:Int} {log n:Nat} {C:z04} {f:Nat→Nat→Nat} (hF:FOREST w B g d log n C f) (m:Nat) (hm:m≤n) (hT:Go.Proofs.YthjeeblddipiiaaGreatDoor.Tabled w) (hX:Tabled w):
    Calls Tryz.prog 8 #[.pointer (some ⟨g,0,none⟩),.int .u64 (m:Int)] w fun e w'=>e=.returned (.tuple #[.agg (UARR .u8 32 (z1n d f m)),.int .i64 0])∧Below w.heap.size w w':=by
  have hz:=z0Z
  obtain ⟨w0,hw0⟩:∃ w0,w.alloc (.cells (UARR .u8 32 fun _=>0) 32)=w0:=⟨_,rfl⟩
  have hb0:Below w.heap.size w w0:=by rw [← hw0];exact (Below.refl _ _).alloc (Nat.le_refl _) _
  have h40:Has w0 w.heap.size (UARR .u8 32 fun _=>0) 32:=by rw [← hw0];exact Has.new w _ _
  have hF0:=hF.below hb0
  have c6:=hF0.size
  have hle:¬ (n:Int)<(m:Int):=by omega
  have cp:=z4d hF0 m hm (hT.below (by have:=hF.store.lt;omega) hb0)
  have hn20:=hF.few
  have A:Aside (FOREST w0 B g d log n C f∧m≤n∧m≤2 ^ 20∧Tabled w0):=⟨hF0,hm,by omega,hX.below hb0⟩
  clear hF hm hT hX hn20 hF0
  go_enter Tryz.func8,Tryz.ntmps8
  go_wp2_with fail
  refine cp.mono ?_
  rintro e w1 ⟨v,rfl,hown,hb1⟩
  clear cp
  obtain ⟨a,c,rfl,hH⟩:=z5z hown (z3S d f (by have:=A.out.2.2.1;omega))
  have c5:=(A.out.1.below hb1).width
  have cb:=zfk d m (by have:=A.out.2.2.1;omega) a (PC m) c rfl _ w1 hH (fun i _ j=>zfY A.out.1.byte A.out.2.1 i j) (A.out.2.2.2.below hb1)
  have eR:z1n d f m=z3a d m (FLDF d (fun i=>(PKV d f m).getD i fun _=>0) (PC m)):=rfl
  rw [← eR] at cb
  clear hown hH eR A
  generalize hY0:z1n d f m=Y at *
  generalize PC m=M at *
  go_wp2_with fail
  refine cb.mono ?_
  rintro e w2 ⟨rfl,hb2⟩
  clear cb
  have hb12:Below w0.heap.size w0 w2:=hb1.trans (hb2.mono hb1.size)
  have h42:=h40.keep hb12
  have hb3':Below w.heap.size w w2:=hb0.trans (hb12.mono hb0.size)
  have hst2:=z0j h42 Y
  have hsu:=z02 .u8 32 Y
  clear hb1 hb2 hb12 c5
  go_wp2
  refine bodyPost_ret (v:=.tuple #[.agg (UARR .u8 32 Y),.int .i64 0]) ?_ rfl ⟨by rw [hY0],z09 hb3' (Nat.le_refl _) _⟩
  exact z0p rfl _ _ w.heap.size 32 _ (0,0) _ _ rfl (h42.row _) _ rfl Tryz.underlying32 (z03 _)
theorem ze5 {w:World} {B g:Nat} {d:Int} {log n:Nat} {C:z04} {f:Nat→Nat→Nat} (hF:FOREST w B g d log n C f) (hT:Go.Proofs.YthjeeblddipiiaaGreatDoor.Tabled w):
    Calls Tryz.prog 14 #[.pointer (some ⟨g,0,none⟩)] w fun e w'=>∃ v,e=.returned v∧w'.ownsRow w.heap.size 32 32 v (PC n) (HL (PKV d f n))∧Below w.heap.size w w':=by
  have c6:=hF.size
  have cp:=z4d hF n (Nat.le_refl _) hT
  clear hF hT
  go_enter Tryz.func14,Tryz.ntmps14
  go_wp2_with fail
  refine cp.mono ?_
  rintro e w1 ⟨v,rfl,hown,hb⟩
  clear cp
  go_wp2_with fail
  go_ret
  exact ⟨_,rfl,hown,hb⟩
end Go.Proofs.YthjeeblddipiiaaGreatDoor.HX

namespace Go.Proofs.YthjeeblddipiiaaGreatDoor.HX
open Go.RowKit
set_option maxRecDepth 100000
end Go.Proofs.YthjeeblddipiiaaGreatDoor.HX

namespace Go.Proofs.YthjeeblddipiiaaGreatDoor.HX
open Go.RowKit
set_option maxRecDepth 100000
def HB (x:Nat):Nat→Nat:=fun i=>if i=0 then x else 0
structure AW (w wx:World) (B g:Nat) (log n:Nat) (C:z04) (f:Nat→Nat→Nat) (d:Int) (b3 b4 b5:Nat) (x y z:Nat→Nat):Prop where
  tree:FOREST wx B g d log n C f
  h3:Has wx b3 (UARR .u8 32 x) 32
  h4:Has wx b4 (UARR .u8 32 y) 32
  h5:Has wx b5 (UARR .u8 32 z) 32
  off:¬ FOOT wx g C b3∧¬ FOOT wx g C b4∧¬ FOOT wx g C b5
  below:Below B w wx
theorem FOREST.ne {w:World} {B g:Nat} {d:Int} {log n b:Nat} {C:z04} {f:Nat→Nat→Nat} (h:FOREST w B g d log n C f) {c:Array Value} (hb:Has w b c 32):b≠g:=fun e=>by
  obtain ⟨cs,t,fr,k1,_,_,k4⟩:=h.store.kind
  unfold Has at hb
  rw [e,k1] at hb
  cases Option.some.inj hb
  exact k4 rfl
theorem AW.next {w wx w':World} {B g:Nat} {log n:Nat} {C:z04} {f:Nat→Nat→Nat} {d:Int} {b3 b4 b5:Nat} {x y z u:Nat→Nat} (h:AW w wx B g log n C f d b3 b4 b5 x y z) (hA:z2Y wx B g d log n C f u w'):∃ C',AW w w' B g log (n+1) C' (z0z f n u) d b3 b4 b5 x y z:=by
  obtain ⟨C',a1,a2,a3⟩:=hA
  have key:∀ {b:Nat} {c:Array Value},Has wx b c 32→¬ FOOT wx g C b→Has w' b c 32∧¬ FOOT w' g C' b:=fun {b c} hb hf=>by
    refine ⟨(a2.same b hb.lt (h.tree.ne hb) hf).trans hb,fun hf'=>?_⟩
    rcases a2.foot b hf' with h1 | h1
    · exact hf h1
    · have:=hb.lt
      omega
  exact ⟨C',a1,(key h.h3 h.off.1).1,(key h.h4 h.off.2.1).1,(key h.h5 h.off.2.2).1,⟨(key h.h3 h.off.1).2,(key h.h4 h.off.2.1).2,(key h.h5 h.off.2.2).2⟩,h.below.trans a3⟩
theorem AW.keep {w wx w':World} {B g:Nat} {log n:Nat} {C:z04} {f:Nat→Nat→Nat} {d:Int} {b3 b4 b5:Nat} {x y z:Nat→Nat} (h:AW w wx B g log n C f d b3 b4 b5 x y z) (hB:B≤wx.heap.size) (hb:Below wx.heap.size wx w'):AW w w' B g log n C f d b3 b4 b5 x y z:=
  ⟨h.tree.below hb,h.h3.keep hb,h.h4.keep hb,h.h5.keep hb,⟨fun hf=>h.off.1 (h.tree.store.foot_below hb hf),fun hf=>h.off.2.1 (h.tree.store.foot_below hb hf),fun hf=>h.off.2.2 (h.tree.store.foot_below hb hf)⟩,h.below.trans (hb.mono hB)⟩
theorem pc3:PC 3=2:=by decide
theorem FOREST.second {w:World} {B g:Nat} {d:Int} {log:Nat} {C:z04} {f:Nat→Nat→Nat} (h:FOREST w B g d log 3 C f):GOTH C log (z05 3) 2=z4q d (f 0) (f 1)∧GOT C log (z05 3) 2=0:=by
  have h1:AT C log 2=some (z4q d (f 0) (f 1)):=h.node 1 0 (by decide)
  have h2:2<z05 3:=by decide
  unfold GOTH GOT
  rw [if_pos h2,if_pos h2,h1]
  exact ⟨rfl,rfl⟩
end Go.Proofs.YthjeeblddipiiaaGreatDoor.HX

namespace Go.Proofs.YthjeeblddipiiaaGreatDoor.HX
open Go.RowKit
set_option maxRecDepth 100000
theorem FOREST.congr {w:World} {B g:Nat} {d:Int} {log n:Nat} {C:z04} {f f':Nat→Nat→Nat} (h:FOREST w B g d log n C f) (he:∀ k,k<n→f k=f' k):FOREST w B g d log n C f':=
  ⟨h.store,h.width,h.size,h.free,fun h1 k hk=>by rw [h.node h1 k hk,z1D he h1 k hk],fun k hk i=>by rw [← he k hk];exact h.byte k hk i,h.few,h.base⟩
def RTS (d:Int) (hs:Nat→Nat→Nat) (k:Nat):List (Nat→Nat):=(List.range k).map (z1n d hs)
theorem zaW (d:Int) (hs:Nat→Nat→Nat) (k:Nat):(RTS d hs k).length=k:=by simp [RTS]
theorem zfl (d:Int) (hs:Nat→Nat→Nat) {k i:Nat} (h:i<k):(RTS d hs k).getD i (fun _=>0)=z1n d hs i:=by
  rw [List.getD_eq_getElem?_getD,RTS,List.getElem?_map,List.getElem?_range h]
  rfl
structure ROOTS (w wx:World) (B g:Nat) (d:Int) (i k:Nat) (C:z04) (hs:Nat→Nat→Nat) (v:Value):Prop where
  tree:FOREST wx B g d 0 i C hs
  own:wx.ownsRow B 32 32 v k (HL (RTS d hs k))
  off:∀ b,v.ownBlock=some b→¬ FOOT wx g C b∧b≠g
  below:Below B w wx
theorem ROOTS.keep {w wx w':World} {B g:Nat} {d:Int} {i k:Nat} {C:z04} {hs:Nat→Nat→Nat} {v:Value} (h:ROOTS w wx B g d i k C hs v) (hB:B≤wx.heap.size) (hb:Below wx.heap.size wx w'):ROOTS w w' B g d i k C hs v:=
  ⟨h.tree.below hb,z2U h.own hb,fun b e=>⟨fun hf=>(h.off b e).1 (h.tree.store.foot_below hb hf),(h.off b e).2⟩,h.below.trans (hb.mono hB)⟩
theorem ROOTS.appended {w wx w':World} {B g:Nat} {d:Int} {i k:Nat} {C:z04} {hs:Nat→Nat→Nat} {v:Value} (h:ROOTS w wx B g d i k C hs v) (hA:z2Y wx B g d 0 i C hs (hs i) w'):∃ C',ROOTS w w' B g d (i+1) k C' hs v:=by
  obtain ⟨C',a1,a2,a3⟩:=hA
  refine ⟨C',a1.congr fun k hk=>?_,?_,fun b e=>⟨fun hf=>?_,(h.off b e).2⟩,h.below.trans a3⟩
  · unfold z0z
    split
    · rename_i e;rw [e]
    · rfl
  · refine ⟨h.own.1,h.own.2.imp id ?_⟩
    rintro ⟨g',c,cur,rfl,b,r,rest⟩
    exact ⟨g',c,cur,rfl,b,(a2.same g' (Array.getElem?_eq_some_iff.1 r).1 (h.off g' rfl).2 (h.off g' rfl).1).trans r,rest⟩
  · rcases a2.foot b hf with h1 | h1
    · exact (h.off b e).1 h1
    · have:=(h.own.lt b e).2
      omega
theorem ROOTS.at {w wx:World} {B g:Nat} {d:Int} {i k j gl cl:Nat} {C:z04} {hs:Nat→Nat→Nat} (h:ROOTS w wx B g d i k C hs (.slice (some ⟨gl,0,none⟩) k cl)) (hj:j<k):wx.rangeAt gl (j*32) (z01 .u8 32 (z1n d hs j))∧gl<wx.heap.size:=by
  obtain ⟨a,c,e,hH⟩:=z5z h.own (zaW d hs k)
  cases e
  obtain ⟨b,o,e,hl,hr⟩:=hH (by omega)
  cases e
  have h1:=hr j hj
  dsimp only at h1
  rw [zfl d hs hj,Nat.zero_add] at h1
  exact ⟨h1,hl⟩
end Go.Proofs.YthjeeblddipiiaaGreatDoor.HX

namespace Go.Proofs.YthjeeblddipiiaaGreatDoor.HX
open Go.RowKit
set_option maxRecDepth 100000
theorem z3U {n:Nat} (h:n<2 ^ 40):IntKind.u64.wrap (n:Int)=(n:Int):=by
  simp [IntKind.wrap,IntKind.signed,IntKind.bits]
  omega
set_option maxHeartbeats 2000000 in
theorem zg0 (d:Int) (a:Option Addr) (n c:Nat) (hs:Nat→Nat→Nat) (w:World) (hn:n≤2 ^ 19) (hH:HASHES w a n hs) (h8:∀ i,i<n→∀ j,hs i j<256) (hX:Tabled w):Calls Tryz.prog 6 #[.int .i64 d,.slice a n c] w fun e w'=>
    ∃ g C,e=.returned (.pointer (some ⟨g,0,none⟩))∧FOREST w' w.heap.size g d 3 n C hs∧Below w.heap.size w w'∧(∀ b,b<w.heap.size→¬ FOOT w' g C b):=by
  have cn:=zaO d 3 (by decide) w
  have GB:Aside (2<w.heap.size):=hX.2.2
  have HA:Aside (HASHES w a n hs∧(∀ i,i<n→∀ j,hs i j<256)∧n≤2 ^ 19):=⟨hH,h8,hn⟩
  have tab:Aside (∀ W,Below w.heap.size w W→Tabled W):=fun W hb=>hX.below hb
  clear hn hH h8 hX
  go_enter Tryz.func6,Tryz.ntmps6
  go_wp2_with fail
  refine cn.mono ?_
  rintro e w1 ⟨g,rfl,hg,hH,hb1⟩
  clear cn
  have hF1:=FOREST.new (B:=w.heap.size) hH (by decide) hg hs
  have A1:Aside (FOREST w1 w.heap.size g d 3 0 (fun _=>none) hs∧Below w.heap.size w w1∧∀ b,b<w.heap.size→¬ FOOT w1 g (fun _=>none) b):=⟨hF1,hb1,fun b _ hf=>by
    rcases hf with e | ⟨k,gc,rs,e,_⟩
    · rw [hH.cell 3] at e
      cases e
    · cases e⟩
  clear hg hH hb1 hF1
  go_wp2_with fail
  go_loopg [7] n (fun r s7 wx=>∃ (i:Nat) (C:z04),s7=.int .i64 (i:Int)∧Aside (i+r=n∧FOREST wx w.heap.size g d 3 i C hs∧Below w.heap.size w wx∧∀ b,b<w.heap.size→¬ FOOT wx g C b))
  case atStart=>exact ⟨0,_,rfl,by omega,A1.out⟩
  case round=>
    obtain ⟨i,C,rfl,A⟩:=hrel
    clear A1
    cases gk with
    | zero=>
      obtain rfl:i=n:=by have:=A.out.1;omega
      have hlt:¬ (i:Int)<(i:Int):=by omega
      go_wp2_with fail
      go_ret
      first | exact ⟨g,C,rfl,A.out.2⟩ | exact ⟨g,rfl,C,A.out.2⟩
    | succ r=>
      have hin:i<n:=by have:=A.out.1;omega
      have hlt:(i:Int)<(n:Int):=by omega
      have hi0:¬ (i:Int)<0:=by omega
      obtain ⟨lb,lo,rfl,hlb,hlr⟩:=HA.out.1 (by omega)
      have hrg:wr.rangeAt lb (lo+i*32) (z01 .u8 32 (hs i)):=z0O (hlr i hin) A.out.2.2.1 hlb
      have cA:=zcw A.out.2.1 (hs i) (HA.out.2.1 i hin) (by have:=HA.out.2.2;omega) (tab.out wr A.out.2.2.1) GB.out A.out.2.2.1.size
      have ei:wrap64 ((i:Int)+1)=((i+1:Nat):Int):=by have:=HA.out.2.2;unfold wrap64;omega
      have eu:=z3U (n:=i) (by have:=HA.out.2.2;clear ei;omega)
      have A3:Aside (i+1+r=n):=by have:=A.out.1;show i+1+r=n;clear ei eu;omega
      clear hlr hin hlb
      go_wp2_with (refine wpList_load_mid rfl 32 (.tmp 28) rfl lb (lo+i*32) rfl (z01 .u8 32 (hs i)) _ hrg Tryz.underlying32 rfl (by rw [z08];exact z0n) ?_;rw [← z0I])
      refine cA.mono ?_
      rintro e w3 ⟨rfl,C',a1,a2,a3⟩
      have A4:Aside (FOREST w3 w.heap.size g d 3 (i+1) C' hs∧Below w.heap.size w w3∧∀ b,b<w.heap.size→¬ FOOT w3 g C' b):=by
        refine ⟨a1.congr fun k hk=>?_,A.out.2.2.1.trans a3,fun b hb hf=>?_⟩
        · unfold z0z
          split
          · rename_i e;rw [e]
          · rfl
        · rcases a2.foot b hf with h1 | h1
          · exact A.out.2.2.2 b hb h1
          · have:=A.out.2.2.1.size
            omega
      clear cA hrg a1 a2 a3 A
      go_wp2_with fail
      go_roundg r
      case measure=>exact Nat.lt_succ_self _
      case rel=>exact ⟨i+1,C',by first | rfl | (rw [ei]),A3.out,A4.out⟩
end Go.Proofs.YthjeeblddipiiaaGreatDoor.HX

namespace Go.Proofs.YthjeeblddipiiaaGreatDoor
open Go.RowKit
set_option maxRecDepth 100000
theorem z8I (f:Nat→Nat):HX.z01 .u8 32 f=z00 (LST f):=by
  have h:=congrArg Array.toList (z1q f)
  rw [HX.z0I] at h
  simpa using h
theorem Bytes.nil (w:World):Bytes w none 0 []:=⟨rfl,fun h=>absurd h (by omega),fun x hx=>by cases hx⟩
end Go.Proofs.YthjeeblddipiiaaGreatDoor

namespace Go.Proofs.YthjeeblddipiiaaGreatDoor
set_option maxRecDepth 100000
def WAYH (d:Int) (leaf:List Int) (I:Nat) (l:List Int):Nat→List Int
  | 0=>leaf
  | t+1=>if I / 2 ^ t % 2=0 then z0J d (WAYH d leaf I l t) (HSH l t) else z0J d (HSH l t) (WAYH d leaf I l t)
theorem z65 {ss:List (Nat × Nat)} {l:List Int} (hp:ss.Pairwise Off) {t h k:Nat} (ht:ss[t]?=some (h,k)):∀ N,t<N→N≤ss.length→HAND ss l N h k=HSH l t
  | 0,h0,_=>by omega
  | N + 1,h1,h2=>by
    rw [HAND]
    by_cases e:t=N
    · subst e
      rw [show ss.getD t (0,0)=(h,k) by rw [List.getD_eq_getElem?_getD,ht];rfl]
      exact z4l _ _ _ _
    · have hlt:t<N:=by omega
      obtain ⟨s,hs⟩:∃ s,ss[N]?=some s:=⟨_,List.getElem?_eq_getElem (by omega)⟩
      have ho:=Pairwise.at_lt hp hlt ht hs
      rw [show ss.getD N (0,0)=s by rw [List.getD_eq_getElem?_getD,hs];rfl]
      rw [z28]
      · exact z65 hp ht N hlt (by omega)
      · rintro ⟨e1,e2⟩
        obtain ⟨a,b⟩:=s
        dsimp only at e1 e2
        subst e1 e2
        have:=Nat.two_pow_pos h
        unfold Off at ho
        dsimp only at ho
        rw [Nat.add_mul] at ho
        omega
theorem z53 {d:Int} {I:Nat} {M:Nat→Nat→List Int} {h k:Nat} (hk:k≠I / 2 ^ h):∀ t,JN d I M t h k=M h k
  | 0=>rfl
  | t + 1=>by
    rw [JN,z28]
    · exact z53 hk t
    · rintro ⟨e1,e2⟩
      subst e1
      exact hk e2
theorem z9w {i n t:Nat} (ht:t<RISE i n):(PSP i n)[t]?=some (t,SIB (i / 2 ^ t)):=by
  unfold PSP
  rw [List.getElem?_append_left (by rw [z2n];exact ht)]
  simp [WAYS,ht]
theorem z7X {i n j:Nat} (hj:j≠KTH i n):(PSP i n)[RISE i n+(if j<KTH i n then j else j - 1)]?=(SPAN 0 n)[j]?:=by
  unfold PSP
  rw [List.getElem?_append_right (by rw [z2n];omega),z2n,Nat.add_sub_cancel_left,List.getElem?_eraseIdx]
  by_cases h:j<KTH i n
  · rw [if_pos h,if_pos h]
  · rw [if_neg h,if_neg (by omega),show j - 1+1=j by omega]
theorem z2Z {q:Nat}:(q % 2=0→SIB q=2*(q / 2)+1∧2*(q / 2)=q)∧(q % 2=1→SIB q=2*(q / 2)∧2*(q / 2)+1=q):=by
  unfold SIB
  refine ⟨fun h=>?_,fun h=>?_⟩ <;> (try split) <;> omega
theorem zcy {d:Int} {leaf:List Int} {S I:Nat} (hI:I<S) (hS:S≤4611686018427387904) (l:List Int):∀ t,t≤RISE I S→JN d I (MPUT (HAND (PSP I S) l (PSP I S).length) 0 I leaf) t t (I / 2 ^ t)=WAYH d leaf I l t
  | 0,_=>by
    rw [JN,Nat.pow_zero,Nat.div_one]
    exact z4l _ _ _ _
  | t + 1,h=>by
    have ih:=zcy hI hS (d:=d) (leaf:=leaf) l t (by omega)
    obtain ⟨p1,p2,_⟩:=z4V hI hS
    have hw:=z9w (i:=I) (n:=S) (t:=t) (by omega)
    have hlt:t<(PSP I S).length:=(List.getElem?_eq_some_iff.1 hw).1
    have hd:I / 2 ^ (t+1)=I / 2 ^ t / 2:=by rw [Nat.pow_succ,Nat.div_div_eq_div_mul]
    have hsib:JN d I (MPUT (HAND (PSP I S) l (PSP I S).length) 0 I leaf) t t (SIB (I / 2 ^ t))=HSH l t:=by
      have hne:SIB (I / 2 ^ t)≠I / 2 ^ t:=by have:=z2Z (q:=I / 2 ^ t);omega
      rw [z53 hne,z28,z65 p2 hw _ hlt (Nat.le_refl _)]
      rintro ⟨e1,e2⟩
      subst e1
      rw [Nat.pow_zero,Nat.div_one] at hne e2
      exact hne e2
    rw [JN,z4l,WAYH,hd]
    by_cases hq:I / 2 ^ t % 2=0
    · obtain ⟨e1,e2⟩:=z2Z.1 hq
      rw [if_pos hq,← e1,hsib,e2,ih]
    · obtain ⟨e1,e2⟩:=z2Z.2 (by omega:I / 2 ^ t % 2=1)
      rw [if_neg hq,e2,← e1,hsib,ih]
def PEK (d:Int) (leaf:List Int) (S I:Nat) (l:List Int) (j:Nat):List Int:=if j=KTH I S then WAYH d leaf I l (RISE I S) else HSH l (RISE I S+(if j<KTH I S then j else j - 1))
theorem ze6 {d:Int} {leaf:List Int} {S I:Nat} (hI:I<S) (hS:S≤4611686018427387904) (l:List Int) {j h k:Nat} (hj:(SPAN 0 S)[j]?=some (h,k)):CLM d leaf S I l h k=PEK d leaf S I l j:=by
  unfold CLM PEK
  by_cases e:j=KTH I S
  · subst e
    rw [if_pos rfl]
    have h1:=(z3B hI hS).1
    rw [hj] at h1
    simp only [Option.some.injEq,Prod.mk.injEq] at h1
    rw [h1.1,h1.2]
    exact zcy hI hS l _ (Nat.le_refl _)
  · rw [if_neg e]
    have h1:=z7X (i:=I) (n:=S) e
    rw [hj] at h1
    obtain ⟨p1,p2,_⟩:=z4V hI hS
    have h3:=(p1 _ (List.mem_of_getElem? h1)).2.2
    have hlt:=(List.getElem?_eq_some_iff.1 h1).1
    have hne:k≠I / 2 ^ h:=by
      rintro rfl
      apply h3
      dsimp only
      exact ⟨Nat.div_mul_le_self I _,by have:=Nat.lt_div_mul_add (a:=I) (Nat.two_pow_pos h);rw [Nat.add_mul];omega⟩
    rw [z53 hne,z28,z65 p2 h1 _ hlt (Nat.le_refl _)]
    rintro ⟨e1,e2⟩
    subst e1
    rw [Nat.pow_zero,Nat.div_one] at hne
    exact hne e2
end Go.Proofs.YthjeeblddipiiaaGreatDoor

namespace Go.Proofs.YthjeeblddipiiaaGreatDoor
open Go.RowKit
set_option maxRecDepth 100000
theorem z30 (f:Nat→Nat):NATS (LST f)=(List.range 32).map f:=by
  unfold NATS
  apply List.map_congr_left
  intro i hi
  have hi':i<32:=by simpa using hi
  unfold FNC LST
  rw [List.getD_eq_getElem?_getD,List.getElem?_map,List.getElem?_range hi']
  simp
theorem zcz (d:Int) (a b:Nat→Nat):z0J d (LST a) (LST b)=LST (HX.z4q d a b):=by
  unfold z0J HX.z4q
  rw [z30,z30]
theorem zcA (d:Int) (a b:Nat→Nat):z1s d (LST a) (LST b)=LST (HX.z4t d a b):=by
  unfold z1s HX.z4t
  rw [z30,z30]
theorem zcB (d:Int) (n:Nat) (a:Nat→Nat):z1j d n (LST a)=LST (HX.z3a d n a):=by
  unfold z1j HX.z3a
  rw [z30]
theorem zcC (d:Int) (f:Nat→Nat→Nat) (h k:Nat):TVAL d f (h+1) k=z0J d (TVAL d f h (2*k)) (TVAL d f h (2*k+1)):=by
  unfold TVAL
  rw [zcz,HX.VAL]
theorem z4u {M:Nat→Nat→List Int}:∀ {ss:List (Nat × Nat)},(∀ s∈ss,(M s.1 s.2).length=32)→∀ {t h k:Nat},ss[t]?=some (h,k)→HSH (CAT M ss) t=M h k
  | [],_,t,h,k,e=>by simp at e
  | s :: ss,hl,0,h,k,e=>by
    simp only [List.getElem?_cons_zero,Option.some.injEq] at e
    subst e
    have h1:=hl (h,k) (List.mem_cons_self ..)
    unfold HSH CAT
    rw [List.flatMap_cons,Nat.mul_zero,List.drop_zero,List.take_append_of_le_length (by omega),List.take_of_length_le (by omega)]
  | s :: ss,hl,t+1,h,k,e=>by
    have h1:=hl s (List.mem_cons_self ..)
    have ih:=z4u (fun x hx=>hl x (List.mem_cons_of_mem _ hx)) (t:=t) (h:=h) (k:=k) (by simpa using e)
    rw [← ih]
    unfold HSH CAT
    rw [List.flatMap_cons,List.drop_append,List.drop_of_length_le (by omega),List.nil_append,h1,show 32*(t+1) - 32=32*t by omega]
theorem z6G (d:Int) (f:Nat→Nat→Nat) {i m:Nat} (hi:i<m):∀ t,t≤RISE i m→WAYH d (TVAL d f 0 i) i (CAT (TVAL d f) (PSP i m)) t=TVAL d f t (i / 2 ^ t)
  | 0,_=>by rw [WAYH,Nat.pow_zero,Nat.div_one]
  | t + 1,h=>by
    have ih:=z6G d f hi t (by omega)
    have hs:HSH (CAT (TVAL d f) (PSP i m)) t=TVAL d f t (SIB (i / 2 ^ t)):=z4u (fun s _=>z2t d f s.1 s.2) (z9w (by omega))
    have hd:i / 2 ^ (t+1)=i / 2 ^ t / 2:=by rw [Nat.pow_succ,Nat.div_div_eq_div_mul]
    rw [WAYH,ih,hs,hd,zcC]
    by_cases hq:i / 2 ^ t % 2=0
    · obtain ⟨e1,e2⟩:=z2Z.1 hq
      rw [if_pos hq,e1,e2]
    · obtain ⟨e1,e2⟩:=z2Z.2 (by omega:i / 2 ^ t % 2=1)
      rw [if_neg hq,e1,e2]
theorem ze7 (d:Int) (f:Nat→Nat→Nat) {i m:Nat} (hi:i<m) (hm:m≤4611686018427387904) {h k:Nat} (hs:(h,k)∈SPAN 0 m):CLM d (TVAL d f 0 i) m i (CAT (TVAL d f) (PSP i m)) h k=TVAL d f h k:=by
  obtain ⟨j,hj⟩:=List.mem_iff_getElem?.1 hs
  rw [ze6 hi hm _ hj]
  unfold PEK
  by_cases e:j=KTH i m
  · rw [if_pos e]
    have h1:=(z3B hi hm).1
    rw [← e,hj] at h1
    simp only [Option.some.injEq,Prod.mk.injEq] at h1
    rw [h1.1,h1.2]
    exact z6G d f hi _ (Nat.le_refl _)
  · rw [if_neg e]
    have h1:=z7X (i:=i) (n:=m) e
    rw [hj] at h1
    exact z4u (fun s _=>z2t d f s.1 s.2) h1
theorem ze8 {M M':Nat→Nat→List Int} {ss:List (Nat × Nat)} (h:∀ x y,(x,y)∈ss→M x y=M' x y):CAT M ss=CAT M' ss:=by
  unfold CAT
  rw [List.flatMap_def,List.flatMap_def]
  congr 1
  apply List.map_congr_left
  rintro ⟨x,y⟩ hs
  exact h x y hs
theorem z7Y (d:Int) (f:Nat→Nat→Nat) {i m:Nat} (hi:i<m) (hm:m≤1000000):CLA d (TVAL d f 0 i) m i (PSP i m).length (CAT (TVAL d f) (PSP i m))=(0,PC m,CAT (TVAL d f) (SPAN 0 m)):=by
  have e:PLA i m=(0,PLCS (PSP i m)):=by unfold PLA;rw [if_neg (by omega),if_neg (by omega)]
  unfold CLA
  rw [e]
  dsimp only
  rw [z0M,if_neg (by simp),if_neg (by simp),ze8 fun x y h=>ze7 d f hi (by omega) h]
theorem z7Z (d:Int) (f:Nat→Nat→Nat) {m:Nat} (hm:m≤1000000):HX.PKV d f m=(SPAN 0 m).map fun s=>HX.VAL d f s.1 s.2:=by
  have hl:=HX.z3S d f (m:=m) (by omega)
  have hs:=z1X (n:=m) (by omega)
  apply List.ext_getElem (by rw [hl,List.length_map,hs])
  intro i h1 h2
  have hi:i<PC m:=by omega
  have h3:=z27 (n:=m) (i:=i) (by omega) hi
  have h4:(SPAN 0 m)[i]'(by omega)=(HGT m i,KGT m i):=by
    rw [List.getElem?_eq_getElem (by omega)] at h3
    exact Option.some.inj h3
  rw [List.getElem_map,h4]
  unfold HX.PKV at h1 ⊢
  rw [List.getElem_map]
  have h5:i<(HS 0 m).length:=by simpa using h1
  have e:(HS 0 m)[i]=HGT m i:=by unfold HGT;rw [List.getD_eq_getElem?_getD,List.getElem?_eq_getElem h5,Option.getD_some]
  rw [e]
  rfl
theorem zfm (d:Int) (f:Nat→Nat→Nat) {m:Nat} (hm:m≤1000000):HX.HL (HX.PKV d f m)=z00 (CAT (TVAL d f) (SPAN 0 m)):=by
  rw [z7Z d f hm]
  unfold HX.HL CAT
  rw [List.flatMap_map]
  induction SPAN 0 m with
  | nil=>rfl
  | cons s ss ih=>
    rw [List.flatMap_cons,List.flatMap_cons,z0v,ih]
    congr 1
theorem zcD {d:Int} {l:List Int} {v:Nat→Nat→Nat} {n:Nat} (h:∀ i,i<n→HSH l i=LST (v i)) (hn:0<n):∀ k,k<n→FA d l n k=LST (HX.FAF d v n k)
  | 0,_=>by rw [FA,HX.FAF,h _ (by omega)]
  | k+1,hk=>by rw [FA,HX.FAF,zcD h hn k (by omega),h _ (by omega),zcA]
theorem zfn {d:Int} {l:List Int} {v:Nat→Nat→Nat} {n:Nat} (h:∀ i,i<n→HSH l i=LST (v i)):FLD d l n=LST (HX.FLDF d v n):=by
  unfold FLD HX.FLDF
  by_cases hn:n=0
  · rw [if_pos hn,if_pos hn]
    rfl
  · rw [if_neg hn,if_neg hn]
    exact zcD h (by omega) _ (by omega)
theorem z6H (d:Int) (f:Nat→Nat→Nat) {m:Nat} (hm:m≤1000000):BAGA d m (PC m) (CAT (TVAL d f) (SPAN 0 m))=(0,LST (HX.z1n d f m)):=by
  unfold BAGA
  rw [if_neg (by omega),if_neg (by simp)]
  unfold HX.z1n
  rw [← zcB]
  congr 2
  apply zfn
  intro i hi
  have h3:=z27 (n:=m) (i:=i) (by omega) hi
  rw [z4u (fun s _=>z2t d f s.1 s.2) h3]
  unfold TVAL
  congr 1
  rw [z7Z d f hm,List.getD_eq_getElem?_getD,List.getElem?_map,h3]
  rfl
theorem zcE (d:Int) (f:Nat→Nat→Nat) {i m:Nat} (hi:i<m) (hm:m≤1000000):MEMA d (LST (HX.z1n d f m)) m i (TVAL d f 0 i) (PRB m i (CAT (TVAL d f) (PSP i m)))=0:=by
  have hD:DEC (PRB m i (CAT (TVAL d f) (PSP i m)))=(0,m,i,(PSP i m).length,CAT (TVAL d f) (PSP i m)):=by
    rw [z3h hi hm,z4K,if_neg (by omega),if_neg (by omega)]
  unfold MEMA
  rw [hD]
  dsimp only
  rw [if_neg (by simp),if_neg (by simp),if_neg (by simp),z7Y d f hi hm]
  unfold UNDA
  rw [z6H d f hm,if_pos ⟨rfl,rfl⟩]
theorem zcF (d:Int) (r leaf:List Int) {i m k:Nat} (hi:i<m) (hm:m≤1000000) {l:List Int} (hl:l.length=32*(PSP i m).length) (hk:m≠k) (j:Nat):MEMA d r k j leaf (PRB m i l)=30:=by
  have hD:DEC (PRB m i l)=(0,m,i,(PSP i m).length,l):=by rw [z3h hi hm,if_neg (by omega),if_neg (by omega)]
  unfold MEMA
  rw [hD]
  dsimp only
  rw [if_neg (by simp),if_pos hk]
theorem zaX (d:Int) (r leaf:List Int) {i m j:Nat} (hi:i<m) (hm:m≤1000000) {l:List Int} (hl:l.length=32*(PSP i m).length) (hj:i≠j):MEMA d r m j leaf (PRB m i l)=32:=by
  have hD:DEC (PRB m i l)=(0,m,i,(PSP i m).length,l):=by rw [z3h hi hm,if_neg (by omega),if_neg (by omega)]
  unfold MEMA
  rw [hD]
  dsimp only
  rw [if_neg (by simp),if_neg (by simp),if_pos hj]
end Go.Proofs.YthjeeblddipiiaaGreatDoor
