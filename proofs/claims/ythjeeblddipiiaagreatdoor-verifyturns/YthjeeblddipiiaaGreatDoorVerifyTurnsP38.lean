/- Texts of VerifyTurns, one behind the other: MmrOldCalls, MmrAwakeRegion, MmrAwake, MmrOldState, MmrOf8, VerifyTurnsWalk, PosDoor, HashDoor, MmrDoor. -/
import Derived.Test.YthjeeblddipiiaaGreatDoorRows
import Derived.ProofKit
import Derived.LaidMore
import Derived.OpenShut
import Derived.Stop.Joined
import Derived.Test.YthjeeblddipiiaaGreatDoorVerifyTurnsP6
import Derived.Test.YthjeeblddipiiaaGreatDoorVerifyTurnsP13
import Derived.Test.YthjeeblddipiiaaGreatDoorVerifyTurnsP14
import Derived.Test.YthjeeblddipiiaaGreatDoorVerifyTurnsP30
import Derived.Test.YthjeeblddipiiaaGreatDoorVerifyTurnsP31
import Derived.Test.YthjeeblddipiiaaGreatDoorVerifyTurnsP32
import Derived.Test.YthjeeblddipiiaaGreatDoorVerifyTurnsP35
import Derived.Test.YthjeeblddipiiaaGreatDoorVerifyTurnsP36
import Derived.Test.YthjeeblddipiiaaGreatDoorVerifyTurnsP37
namespace Go.Proofs.YthjeeblddipiiaaGreatDoor.HX
open Go.RowKit
set_option maxRecDepth 100000
theorem z5K {w:World} {B n:Nat} {v:Value} {l:List (Nat→Nat)} (h:w.ownsRow B 32 32 v n (HL l)) (hl:l.length=n):∃ a c,v=.slice a n c∧HASHES w a n (fun i=>l.getD i fun _=>0):=by
  obtain ⟨a,c,rfl⟩:=z4j h
  refine ⟨a,c,rfl,fun hn=>?_⟩
  rcases h.2 with ⟨e,h0⟩ | ⟨g,cap,cur,e,_,hg,_⟩
  · omega
  · simp only [Value.slice.injEq] at e
    obtain ⟨rfl,_,rfl⟩:=e
    refine ⟨g,0,rfl,(h.lt g rfl).2,fun i hi j u hj=>?_⟩
    have hj32:j<32:=by have:=(List.getElem?_eq_some_iff.1 hj).1;rwa [z08] at this
    have hli:l[i]?=some (l.getD i fun _=>0):=by rw [List.getD_eq_getElem?_getD,List.getElem?_eq_getElem (by omega)];rfl
    rw [z0W _ _ _ _ hj32] at hj
    rw [← hj,Nat.zero_add,h.cellAt (i*32+j) (by omega)]
    exact z8h l i j _ hli hj32
set_option maxHeartbeats 2000000 in
theorem zfR (d:Int) (n:Nat) (hn:n≤4611686018427387904) (a:Option Addr) (k c:Nat) (hk:k=PC n) (hs:Nat→Nat→Nat) (w:World) (hH:HASHES w a k hs) (h8:∀ i,i<k→∀ j,hs i j<256) (hX:Tabled w):
    Calls Tryz.prog 12 #[.int .i64 d,.int .u64 (n:Int),.slice a k c] w fun e w'=>e=.returned (.tuple #[.agg (UARR .u8 32 (z4w d n (FLDF d hs k))),.int .i64 0])∧Below w.heap.size w w':=by
  have hz:=z0S
  obtain ⟨w0,hw0⟩:∃ w0,w.alloc (.cells (UARR .u8 32 fun _=>0) 32)=w0:=⟨_,rfl⟩
  have hb0:Below w.heap.size w w0:=by rw [← hw0];exact (Below.refl _ _).alloc (Nat.le_refl _) _
  have h40:Has w0 w.heap.size (UARR .u8 32 fun _=>0) 32:=by rw [← hw0];exact Has.new w _ _
  have h1':¬ (4611686018427387904:Int)<(n:Int):=by omega
  have hn64:n<2 ^ 64:=by omega
  have hpop:=z43 hn64
  have hk64:k≤64:=by rw [hk];exact z1t 64 n hn64
  have e2:(k:Int)=((POP n:Nat):Int):=by rw [hpop,hk]
  have co:=z1A n hn64 w0
  rw [← e2] at co
  have cf:=zbj d a k c (by omega) hs w0 (hH.below hb0) h8 (hX.below hb0)
  have hF8:=zfQ (d:=d) h8
  have cr:=fun (W:World) (hb:Below w0.heap.size w0 W)=>z9D d n hn64 (FLDF d hs k) hF8 W ((hX.below hb0).below hb)
  have eR:z4w d n (FLDF d hs k)=z0n d (3 :: (BE8 n ++ (List.range 32).map (FLDF d hs k))):=rfl
  rw [← eR] at cr
  clear eR hF8 e2 hk64 hpop hn64 hk hH h8 hX hn
  generalize z4w d n (FLDF d hs k)=Y at *
  generalize FLDF d hs k=X at *
  go_enter Tryz.func12,Tryz.ntmps12
  go_wp2_with fail
  refine co.mono ?_
  rintro e w1 ⟨rfl,rfl⟩
  clear co
  go_wp2_with fail
  refine cf.mono ?_
  rintro e w1 ⟨rfl,hb1⟩
  clear cf
  go_wp2_with fail
  refine (cr w1 hb1).mono ?_
  rintro e w2 ⟨rfl,hb2⟩
  clear cr
  have hb12:Below w0.heap.size w0 w2:=hb1.trans (hb2.mono hb1.size)
  have h42:=h40.keep hb12
  have hb3':Below w.heap.size w w2:=hb0.trans (hb12.mono hb0.size)
  have hst2:=z0l h42 Y
  have hsu:=z01 .u8 32 Y
  clear hb1 hb2 hb12
  go_wp2
  refine bodyPost_ret (v:=.tuple #[.agg (UARR .u8 32 Y),.int .i64 0]) ?_ rfl ⟨rfl,z09 hb3' (Nat.le_refl _) _⟩
  exact z0r rfl _ _ w.heap.size 32 _ (0,0) _ _ rfl (h42.row _) _ rfl Tryz.underlying32 (z03 _)
def z1X (d:Int) (f:Nat→Nat→Nat) (m:Nat):Nat→Nat:=z4w d m (FLDF d (fun i=>(PKV d f m).getD i fun _=>0) (PC m))
theorem zgC {d:Int} {f:Nat→Nat→Nat} {n m:Nat} (hf:∀ k,k<n→∀ i,f k i<256) (hm:m≤n) (i:Nat) (j:Nat):(PKV d f m).getD i (fun _=>0) j<256:=by
  rw [List.getD_eq_getElem?_getD,PKV,List.getElem?_map]
  cases hi:(HS 0 m)[i]? with
  | none=>show (0:Nat)<256;decide
  | some h=>
    have hb:=(z6q 0 h (by decide) (List.mem_of_getElem? hi)).2.2
    exact z2g hf h _ (Nat.le_trans (z6Y hb) hm) j
set_option maxHeartbeats 2000000 in
theorem zgD {w:World} {B g:Nat} {d:Int} {log n:Nat} {C:z04} {f:Nat→Nat→Nat} (hF:FOREST w B g d log n C f) (m:Nat) (hm:m≤n) (hT:Go.Proofs.YthjeeblddipiiaaGreatDoor.Tabled w) (hX:Tabled w):
    Calls Tryz.prog 8 #[.pointer (some ⟨g,0,none⟩),.int .u64 (m:Int)] w fun e w'=>e=.returned (.tuple #[.agg (UARR .u8 32 (z1X d f m)),.int .i64 0])∧Below w.heap.size w w':=by
  have hz:=z0S
  obtain ⟨w0,hw0⟩:∃ w0,w.alloc (.cells (UARR .u8 32 fun _=>0) 32)=w0:=⟨_,rfl⟩
  have hb0:Below w.heap.size w w0:=by rw [← hw0];exact (Below.refl _ _).alloc (Nat.le_refl _) _
  have h40:Has w0 w.heap.size (UARR .u8 32 fun _=>0) 32:=by rw [← hw0];exact Has.new w _ _
  have hF0:=hF.below hb0
  have c6:=hF0.size
  have hle:¬ (n:Int)<(m:Int):=by omega
  have cp:=z8j hF0 m hm (hT.below (by have:=hF.store.lt;omega) hb0)
  have hn20:=hF.few
  have A:Aside (FOREST w0 B g d log n C f∧m≤n∧m≤2 ^ 20∧Tabled w0):=⟨hF0,hm,by omega,hX.below hb0⟩
  clear hF hm hT hX hn20 hF0
  go_enter Tryz.func8,Tryz.ntmps8
  go_wp2_with fail
  refine cp.mono ?_
  rintro e w1 ⟨v,rfl,hown,hb1⟩
  clear cp
  obtain ⟨a,c,rfl,hH⟩:=z5K hown (z5H d f (by have:=A.out.2.2.1;omega))
  have c5:=(A.out.1.below hb1).width
  have cb:=zfR d m (by have:=A.out.2.2.1;omega) a (PC m) c rfl _ w1 hH (fun i _ j=>zgC A.out.1.byte A.out.2.1 i j) (A.out.2.2.2.below hb1)
  have eR:z1X d f m=z4w d m (FLDF d (fun i=>(PKV d f m).getD i fun _=>0) (PC m)):=rfl
  rw [← eR] at cb
  clear hown hH eR A
  generalize hY0:z1X d f m=Y at *
  generalize PC m=M at *
  go_wp2_with fail
  refine cb.mono ?_
  rintro e w2 ⟨rfl,hb2⟩
  clear cb
  have hb12:Below w0.heap.size w0 w2:=hb1.trans (hb2.mono hb1.size)
  have h42:=h40.keep hb12
  have hb3':Below w.heap.size w w2:=hb0.trans (hb12.mono hb0.size)
  have hst2:=z0l h42 Y
  have hsu:=z01 .u8 32 Y
  clear hb1 hb2 hb12 c5
  go_wp2
  refine bodyPost_ret (v:=.tuple #[.agg (UARR .u8 32 Y),.int .i64 0]) ?_ rfl ⟨by rw [hY0],z09 hb3' (Nat.le_refl _) _⟩
  exact z0r rfl _ _ w.heap.size 32 _ (0,0) _ _ rfl (h42.row _) _ rfl Tryz.underlying32 (z03 _)
set_option maxHeartbeats 2000000 in
theorem zfS {w:World} {B g:Nat} {d:Int} {log n:Nat} {C:z04} {f:Nat→Nat→Nat} (hF:FOREST w B g d log n C f) (hT:Go.Proofs.YthjeeblddipiiaaGreatDoor.Tabled w) (hX:Tabled w):
    Calls Tryz.prog 20 #[.pointer (some ⟨g,0,none⟩)] w fun e w'=>e=.returned (.agg (UARR .u8 32 (z1X d f n)))∧Below w.heap.size w w':=by
  have hz:=z0S
  obtain ⟨w0,hw0⟩:∃ w0,w.alloc (.cells (UARR .u8 32 fun _=>0) 32)=w0:=⟨_,rfl⟩
  have hb0:Below w.heap.size w w0:=by rw [← hw0];exact (Below.refl _ _).alloc (Nat.le_refl _) _
  have h40:Has w0 w.heap.size (UARR .u8 32 fun _=>0) 32:=by rw [← hw0];exact Has.new w _ _
  have c6:=(hF.below hb0).size
  have co:=zgD (hF.below hb0) n (Nat.le_refl _) (hT.below (by have:=hF.store.lt;omega) hb0) (hX.below hb0)
  clear hF hT hX
  generalize z1X d f n=L at *
  go_enter Tryz.func20,Tryz.ntmps20
  go_wp2_with fail
  refine co.mono ?_
  rintro e w2 ⟨rfl,hb2⟩
  clear co
  have hst:=run_storeCells_new (P:=Tryz.prog) w2 32 (UARR .u8 32 fun _=>0) (UARR .u8 32 L) (z03 _) (by rw [z01,z01]) (z0d _ _ _)
  have hsu:=z01 .u8 32 L
  obtain ⟨w3,hw3⟩:∃ w3,w2.alloc (.cells (UARR .u8 32 L) 32)=w3:=⟨_,rfl⟩
  have hb3:Below w0.heap.size w0 w3:=by rw [← hw3];exact hb2.alloc hb2.size _
  have hF3:Has w3 w2.heap.size (UARR .u8 32 L) 32:=by rw [← hw3];exact Has.new w2 _ _
  have h43:=h40.keep hb3
  have hb3':Below w.heap.size w w3:=hb0.trans (hb3.mono hb0.size)
  have hst2:=z0l h43 L
  go_wp2_with (first
    | (refine wpList_load_row rfl 32 (.tmp 3) rfl w2.heap.size rfl 32 (UARR .u8 32 L) (0,0) _ hF3 Tryz.underlying32 rfl (z03 _) ?_)
    | fail)
  refine bodyPost_ret (v:=.agg (UARR .u8 32 L)) ?_ rfl ⟨rfl,z09 hb3' (Nat.le_refl _) _⟩
  exact z2i rfl _ _ w.heap.size 32 _ (0,0) _ _ rfl (h43.row _) Tryz.underlying32 (z03 _)
end Go.Proofs.YthjeeblddipiiaaGreatDoor.HX

namespace Go.Proofs.YthjeeblddipiiaaGreatDoor.HX
open Go.RowKit
set_option maxRecDepth 100000
end Go.Proofs.YthjeeblddipiiaaGreatDoor.HX

namespace Go.Proofs.YthjeeblddipiiaaGreatDoor.HX
open Go.RowKit
set_option maxRecDepth 100000
def HB (x:Nat):Nat→Nat:=fun i=>if i=0 then x else 0
structure AW (w wx:World) (B g:Nat) (log n:Nat) (C:z04) (f:Nat→Nat→Nat) (d:Int) (b3 b4 b5:Nat) (x y z:Nat→Nat):Prop where
  tree:FOREST wx B g d log n C f
  h3:Has wx b3 (UARR .u8 32 x) 32
  h4:Has wx b4 (UARR .u8 32 y) 32
  h5:Has wx b5 (UARR .u8 32 z) 32
  off:¬ FOOT wx g C b3∧¬ FOOT wx g C b4∧¬ FOOT wx g C b5
  below:Below B w wx
theorem FOREST.ne {w:World} {B g:Nat} {d:Int} {log n b:Nat} {C:z04} {f:Nat→Nat→Nat} (h:FOREST w B g d log n C f) {c:Array Value} (hb:Has w b c 32):b≠g:=fun e=>by
  obtain ⟨cs,t,fr,k1,_,_,k4⟩:=h.store.kind
  unfold Has at hb
  rw [e,k1] at hb
  cases Option.some.inj hb
  exact k4 rfl
theorem AW.next {w wx w':World} {B g:Nat} {log n:Nat} {C:z04} {f:Nat→Nat→Nat} {d:Int} {b3 b4 b5:Nat} {x y z u:Nat→Nat} (h:AW w wx B g log n C f d b3 b4 b5 x y z) (hA:z33 wx B g d log n C f u w'):∃ C',AW w w' B g log (n+1) C' (z0D f n u) d b3 b4 b5 x y z:=by
  obtain ⟨C',a1,a2,a3⟩:=hA
  have key:∀ {b:Nat} {c:Array Value},Has wx b c 32→¬ FOOT wx g C b→Has w' b c 32∧¬ FOOT w' g C' b:=fun {b c} hb hf=>by
    refine ⟨(a2.same b hb.lt (h.tree.ne hb) hf).trans hb,fun hf'=>?_⟩
    rcases a2.foot b hf' with h1 | h1
    · exact hf h1
    · have:=hb.lt
      omega
  exact ⟨C',a1,(key h.h3 h.off.1).1,(key h.h4 h.off.2.1).1,(key h.h5 h.off.2.2).1,⟨(key h.h3 h.off.1).2,(key h.h4 h.off.2.1).2,(key h.h5 h.off.2.2).2⟩,h.below.trans a3⟩
theorem AW.keep {w wx w':World} {B g:Nat} {log n:Nat} {C:z04} {f:Nat→Nat→Nat} {d:Int} {b3 b4 b5:Nat} {x y z:Nat→Nat} (h:AW w wx B g log n C f d b3 b4 b5 x y z) (hB:B≤wx.heap.size) (hb:Below wx.heap.size wx w'):AW w w' B g log n C f d b3 b4 b5 x y z:=
  ⟨h.tree.below hb,h.h3.keep hb,h.h4.keep hb,h.h5.keep hb,⟨fun hf=>h.off.1 (h.tree.store.foot_below hb hf),fun hf=>h.off.2.1 (h.tree.store.foot_below hb hf),fun hf=>h.off.2.2 (h.tree.store.foot_below hb hf)⟩,h.below.trans (hb.mono hB)⟩
theorem pc3:PC 3=2:=by decide
theorem FOREST.second {w:World} {B g:Nat} {d:Int} {log:Nat} {C:z04} {f:Nat→Nat→Nat} (h:FOREST w B g d log 3 C f):GOTH C log (z05 3) 2=z7b d (f 0) (f 1)∧GOT C log (z05 3) 2=0:=by
  have h1:AT C log 2=some (z7b d (f 0) (f 1)):=h.node 1 0 (by decide)
  have h2:2<z05 3:=by decide
  unfold GOTH GOT
  rw [if_pos h2,if_pos h2,h1]
  exact ⟨rfl,rfl⟩
end Go.Proofs.YthjeeblddipiiaaGreatDoor.HX

namespace Go.Proofs.YthjeeblddipiiaaGreatDoor.HX
open Go.RowKit
set_option maxRecDepth 100000
theorem FOREST.congr {w:World} {B g:Nat} {d:Int} {log n:Nat} {C:z04} {f f':Nat→Nat→Nat} (h:FOREST w B g d log n C f) (he:∀ k,k<n→f k=f' k):FOREST w B g d log n C f':=
  ⟨h.store,h.width,h.size,h.free,fun h1 k hk=>by rw [h.node h1 k hk,z1G he h1 k hk],fun k hk i=>by rw [← he k hk];exact h.byte k hk i,h.few,h.base⟩
def RTS (d:Int) (hs:Nat→Nat→Nat) (k:Nat):List (Nat→Nat):=(List.range k).map (z1X d hs)
theorem zbk (d:Int) (hs:Nat→Nat→Nat) (k:Nat):(RTS d hs k).length=k:=by simp [RTS]
theorem zfT (d:Int) (hs:Nat→Nat→Nat) {k i:Nat} (h:i<k):(RTS d hs k).getD i (fun _=>0)=z1X d hs i:=by
  rw [List.getD_eq_getElem?_getD,RTS,List.getElem?_map,List.getElem?_range h]
  rfl
structure ROOTS (w wx:World) (B g:Nat) (d:Int) (i k:Nat) (C:z04) (hs:Nat→Nat→Nat) (v:Value):Prop where
  tree:FOREST wx B g d 0 i C hs
  own:wx.ownsRow B 32 32 v k (HL (RTS d hs k))
  off:∀ b,v.ownBlock=some b→¬ FOOT wx g C b∧b≠g
  below:Below B w wx
theorem ROOTS.keep {w wx w':World} {B g:Nat} {d:Int} {i k:Nat} {C:z04} {hs:Nat→Nat→Nat} {v:Value} (h:ROOTS w wx B g d i k C hs v) (hB:B≤wx.heap.size) (hb:Below wx.heap.size wx w'):ROOTS w w' B g d i k C hs v:=
  ⟨h.tree.below hb,z30 h.own hb,fun b e=>⟨fun hf=>(h.off b e).1 (h.tree.store.foot_below hb hf),(h.off b e).2⟩,h.below.trans (hb.mono hB)⟩
theorem ROOTS.appended {w wx w':World} {B g:Nat} {d:Int} {i k:Nat} {C:z04} {hs:Nat→Nat→Nat} {v:Value} (h:ROOTS w wx B g d i k C hs v) (hA:z33 wx B g d 0 i C hs (hs i) w'):∃ C',ROOTS w w' B g d (i+1) k C' hs v:=by
  obtain ⟨C',a1,a2,a3⟩:=hA
  refine ⟨C',a1.congr fun k hk=>?_,?_,fun b e=>⟨fun hf=>?_,(h.off b e).2⟩,h.below.trans a3⟩
  · unfold z0D
    split
    · rename_i e;rw [e]
    · rfl
  · refine ⟨h.own.1,h.own.2.imp id ?_⟩
    rintro ⟨g',c,cur,rfl,b,r,rest⟩
    exact ⟨g',c,cur,rfl,b,(a2.same g' (Array.getElem?_eq_some_iff.1 r).1 (h.off g' rfl).2 (h.off g' rfl).1).trans r,rest⟩
  · rcases a2.foot b hf with h1 | h1
    · exact (h.off b e).1 h1
    · have:=(h.own.lt b e).2
      omega
theorem ROOTS.at {w wx:World} {B g:Nat} {d:Int} {i k j gl cl:Nat} {C:z04} {hs:Nat→Nat→Nat} (h:ROOTS w wx B g d i k C hs (.slice (some ⟨gl,0,none⟩) k cl)) (hj:j<k):wx.rangeAt gl (j*32) (z02 .u8 32 (z1X d hs j))∧gl<wx.heap.size:=by
  obtain ⟨a,c,e,hH⟩:=z5K h.own (zbk d hs k)
  cases e
  obtain ⟨b,o,e,hl,hr⟩:=hH (by omega)
  cases e
  have h1:=hr j hj
  dsimp only at h1
  rw [zfT d hs hj,Nat.zero_add] at h1
  exact ⟨h1,hl⟩
end Go.Proofs.YthjeeblddipiiaaGreatDoor.HX

namespace Go.Proofs.YthjeeblddipiiaaGreatDoor.HX
open Go.RowKit
set_option maxRecDepth 100000
theorem z56 {n:Nat} (h:n<2 ^ 40):IntKind.u64.wrap (n:Int)=(n:Int):=by
  simp [IntKind.wrap,IntKind.signed,IntKind.bits]
  omega
set_option maxHeartbeats 2000000 in
theorem zgE (d:Int) (a:Option Addr) (n c:Nat) (hs:Nat→Nat→Nat) (w:World) (hn:n≤2 ^ 19) (hH:HASHES w a n hs) (h8:∀ i,i<n→∀ j,hs i j<256) (hX:Tabled w):Calls Tryz.prog 6 #[.int .i64 d,.slice a n c] w fun e w'=>
    ∃ g C,e=.returned (.pointer (some ⟨g,0,none⟩))∧FOREST w' w.heap.size g d 3 n C hs∧Below w.heap.size w w'∧(∀ b,b<w.heap.size→¬ FOOT w' g C b):=by
  have cn:=zbb d 3 (by decide) w
  have GB:Aside (2<w.heap.size):=hX.2.2
  have HA:Aside (HASHES w a n hs∧(∀ i,i<n→∀ j,hs i j<256)∧n≤2 ^ 19):=⟨hH,h8,hn⟩
  have tab:Aside (∀ W,Below w.heap.size w W→Tabled W):=fun W hb=>hX.below hb
  clear hn hH h8 hX
  go_enter Tryz.func6,Tryz.ntmps6
  go_wp2_with fail
  refine cn.mono ?_
  rintro e w1 ⟨g,rfl,hg,hH,hb1⟩
  clear cn
  have hF1:=FOREST.new (B:=w.heap.size) hH (by decide) hg hs
  have A1:Aside (FOREST w1 w.heap.size g d 3 0 (fun _=>none) hs∧Below w.heap.size w w1∧∀ b,b<w.heap.size→¬ FOOT w1 g (fun _=>none) b):=⟨hF1,hb1,fun b _ hf=>by
    rcases hf with e | ⟨k,gc,rs,e,_⟩
    · rw [hH.cell 3] at e
      cases e
    · cases e⟩
  clear hg hH hb1 hF1
  go_wp2_with fail
  go_loopg [7] n (fun r s7 wx=>∃ (i:Nat) (C:z04),s7=.int .i64 (i:Int)∧Aside (i+r=n∧FOREST wx w.heap.size g d 3 i C hs∧Below w.heap.size w wx∧∀ b,b<w.heap.size→¬ FOOT wx g C b))
  case atStart=>exact ⟨0,_,rfl,by omega,A1.out⟩
  case round=>
    obtain ⟨i,C,rfl,A⟩:=hrel
    clear A1
    cases gk with
    | zero=>
      obtain rfl:i=n:=by have:=A.out.1;omega
      have hlt:¬ (i:Int)<(i:Int):=by omega
      go_wp2_with fail
      go_ret
      first | exact ⟨g,C,rfl,A.out.2⟩ | exact ⟨g,rfl,C,A.out.2⟩
    | succ r=>
      have hin:i<n:=by have:=A.out.1;omega
      have hlt:(i:Int)<(n:Int):=by omega
      have hi0:¬ (i:Int)<0:=by omega
      obtain ⟨lb,lo,rfl,hlb,hlr⟩:=HA.out.1 (by omega)
      have hrg:wr.rangeAt lb (lo+i*32) (z02 .u8 32 (hs i)):=z0T (hlr i hin) A.out.2.2.1 hlb
      have cA:=zcV A.out.2.1 (hs i) (HA.out.2.1 i hin) (by have:=HA.out.2.2;omega) (tab.out wr A.out.2.2.1) GB.out A.out.2.2.1.size
      have ei:wrap64 ((i:Int)+1)=((i+1:Nat):Int):=by have:=HA.out.2.2;unfold wrap64;omega
      have eu:=z56 (n:=i) (by have:=HA.out.2.2;clear ei;omega)
      have A3:Aside (i+1+r=n):=by have:=A.out.1;show i+1+r=n;clear ei eu;omega
      clear hlr hin hlb
      go_wp2_with (refine wpList_load_mid rfl 32 (.tmp 28) rfl lb (lo+i*32) rfl (z02 .u8 32 (hs i)) _ hrg Tryz.underlying32 rfl (by rw [z08];exact z0p) ?_;rw [← z0P])
      refine cA.mono ?_
      rintro e w3 ⟨rfl,C',a1,a2,a3⟩
      have A4:Aside (FOREST w3 w.heap.size g d 3 (i+1) C' hs∧Below w.heap.size w w3∧∀ b,b<w.heap.size→¬ FOOT w3 g C' b):=by
        refine ⟨a1.congr fun k hk=>?_,A.out.2.2.1.trans a3,fun b hb hf=>?_⟩
        · unfold z0D
          split
          · rename_i e;rw [e]
          · rfl
        · rcases a2.foot b hf with h1 | h1
          · exact A.out.2.2.2 b hb h1
          · have:=A.out.2.2.1.size
            omega
      clear cA hrg a1 a2 a3 A
      go_wp2_with fail
      go_roundg r
      case measure=>exact Nat.lt_succ_self _
      case rel=>exact ⟨i+1,C',by first | rfl | (rw [ei]),A3.out,A4.out⟩
end Go.Proofs.YthjeeblddipiiaaGreatDoor.HX

namespace Go.Proofs.YthjeeblddipiiaaGreatDoor
open Go.RowKit
set_option maxRecDepth 100000
theorem z9b (f:Nat→Nat):HX.z02 .u8 32 f=z00 (LST f):=by
  have h:=congrArg Array.toList (z1v f)
  rw [HX.z0P] at h
  simpa using h
theorem zbl (d:Int) (a:Option Addr) (n c i:Nat) (w:World) (hn:(300:Int)<(n:Int)):Calls Tryz.prog 5 #[.int .i64 d,.slice a n c,.int .u64 (i:Int)] w fun e w'=>e=.returned (.bool true)∧Below w.heap.size w w':=by
  go_enter Tryz.func5,Tryz.ntmps5
  go_wp2
  go_ret
  exact ⟨rfl,Below.refl _ _⟩
theorem zcX (d:Int) (a:Option Addr) (n c i:Nat) (w:World) (hn:¬ (300:Int)<(n:Int)) (hi:n≤i):Calls Tryz.prog 5 #[.int .i64 d,.slice a n c,.int .u64 (i:Int)] w fun e w'=>e=.returned (.bool true)∧Below w.heap.size w w':=by
  have hu:=HX.z56 (n:=n) (by omega)
  have hi':(n:Int)≤(i:Int):=by omega
  go_enter Tryz.func5,Tryz.ntmps5
  go_wp2
  go_ret
  exact ⟨rfl,Below.refl _ _⟩
theorem zex {m n:Nat} (h:m+1=n) (hn:n≤10000):IntKind.i64.wrap ((n:Int) - 1)=(m:Int):=by
  rw [show ((n:Int) - 1)=(m:Int) by omega]
  simp [IntKind.wrap,IntKind.signed,IntKind.bits]
  omega
theorem Bytes.nil (w:World):Bytes w none 0 []:=⟨rfl,fun h=>absurd h (by omega),fun x hx=>by cases hx⟩
set_option maxHeartbeats 4000000 in
theorem zbm (d:Int) (a:Option Addr) (n c i:Nat) (hs:Nat→Nat→Nat) (w:World) (hn:¬ (300:Int)<(n:Int)) (hi:i<n) (hH:HX.HASHES w a n hs) (h8:∀ i,i<n→∀ j,hs i j<256) (hT:Tabled w) (hX:HX.Tabled w) (h0:2<w.heap.size):Calls Tryz.prog 5 #[.int .i64 d,.slice a n c,.int .u64 (i:Int)] w fun e w'=>e=.returned (.bool true)∧Below w.heap.size w w':=by
  have hu:=HX.z56 (n:=n) (by omega)
  have hi1:¬ (n:Int)≤(i:Int):=by omega
  have hi2:(i:Int)<(n:Int):=by omega
  have cO:=HX.zgE d a n c hs w (by omega) hH h8 hX
  obtain ⟨lb,lo,rfl,hlb,hlr⟩:=hH (by omega)
  have HT:Aside (∀ W,Below w.heap.size w W→Tabled W∧HX.Tabled W∧0<W.heap.size∧2<W.heap.size∧W.rangeAt lb (lo+i*32) (z00 (LST (hs i)))):=fun W h=>by
    have hz:=h.size
    exact ⟨hT.below (by omega) h,hX.below h,by omega,by omega,by rw [← z9b];exact z0T (hlr i hi) h hlb⟩
  have HA:Aside (n≤300∧i<n∧(∀ i,i<n→∀ j,hs i j<256)):=⟨by omega,hi,h8⟩
  clear hH h8 hT hX h0 hlb hlr hi
  go_enter Tryz.func5,Tryz.ntmps5
  go_wp2_with fail
  refine cO.mono ?_
  rintro e w1 ⟨g,C,rfl,hF,hb1, -⟩
  clear cO
  have R1:Aside (HX.FOREST w1 w.heap.size g d 3 n C hs∧Below w.heap.size w w1):=⟨hF,hb1⟩
  have cM:=zeb hF i n HA.out.2.1 (Nat.le_refl _) (by have:=HA.out.1;omega) (HT.out _ hb1).1 (HT.out _ hb1).2.2.1
  clear hF hb1
  go_wp2_with fail
  refine cM.mono ?_
  rintro e w2 ⟨a2,c2,rfl,o2,hb2⟩
  clear cM
  obtain ⟨k,hk⟩:∃ k,(PSP i n).length=k:=⟨_,rfl⟩
  obtain ⟨l,hl⟩:∃ l,CAT (TVAL d hs) (PSP i n)=l:=⟨_,rfl⟩
  rw [hk,hl] at o2
  rw [hk]
  obtain ⟨w3,hw3⟩:∃ w3,w2.alloc (.cells #[.int .u64 (n:Int),.int .u64 (i:Int),.slice a2 k c2] 27)=w3:=⟨_,rfl⟩
  have hb3:Below w2.heap.size w2 w3:=by rw [← hw3];exact (Below.refl _ _).alloc (Nat.le_refl _) _
  have hP3:Has w3 w2.heap.size #[.int .u64 (n:Int),.int .u64 (i:Int),.slice a2 k c2] 27:=by rw [← hw3];exact Has.new _ _ _
  have hlr:∀ x∈l,0≤x∧x≤255:=by rw [← hl];exact zbd d hs n HA.out.2.2 _ (z9R HA.out.2.1 (Nat.le_refl _) (by have:=HA.out.1;omega))
  have hll:l.length=32*k:=by rw [← hl,← hk];exact z95 _ _ _
  have hk188:k≤188:=by rw [← hk];have:=z63 HA.out.2.1 (by have:=HA.out.1;omega);omega
  have hbw3:Below w.heap.size w w3:=R1.out.2.trans ((hb2.trans (hb3.mono hb2.size)).mono R1.out.2.size)
  have hf3:Flat w3 a2 k l:=(z2o o2 hlr).below hb3
  have cE:=zc2 n i (by have:=HA.out.1;omega) (by have:=HA.out.1;have:=HA.out.2.1;omega) a2 k c2 (by omega) l w3 hf3 (HT.out _ hbw3).1 (HT.out _ hbw3).2.2.1
  have hE:ENC n i k l=(0,PRB n i l):=by rw [← hk];exact zfr HA.out.2.1 (by have:=HA.out.1;omega) l
  rw [hE] at cE
  have B1:Aside ((DEC ((PRB n i l).take ((PRB n i l).length - 1))).1=11∧(DEC (PRB n i l ++ [0])).1=13∧(DEX (PRB n i l)).1=14∧3≤(PRB n i l).length∧(PRB n i l).length≤10000∧∀ x∈PRB n i l,0≤x∧x≤255):=by
    have h300:=HA.out.1
    have hin:=HA.out.2.1
    refine ⟨zcP hin (by omega) (by rw [hk];exact hll),zec hin (by omega) (by rw [hk];exact hll),zee _ _ _,zbe _ _ _,?_,zcQ (by omega) (by omega) hlr⟩
    unfold PRB
    have h1:=z3m n
    have h2:=z3m i
    simp only [List.length_cons,List.length_append,z0G,hll]
    omega
  have R3:Aside (HX.FOREST w3 w.heap.size g d 3 n C hs∧Below w.heap.size w w3):=⟨R1.out.1.below (hb2.trans (hb3.mono hb2.size)),hbw3⟩
  generalize PRB n i l=bl at *
  clear hk hl o2 hlr hll hk188 hbw3 hf3 hE hb2 hb3 R1
  dsimp only at cE
  have x0:w3.cell? ⟨w2.heap.size,0,none⟩=some (.int .u64 (n:Int)):=hP3.cell 0
  have x1:w3.cell? ⟨w2.heap.size,1,none⟩=some (.int .u64 (i:Int)):=hP3.cell 1
  have x2:w3.cell? ⟨w2.heap.size,2,none⟩=some (.slice a2 k c2):=hP3.cell 2
  go_upto_region 8 with fail
  clear hw3 hP3
  go_wp2_with fail
  refine cE.mono ?_
  rintro e w4 ⟨v,rfl,o4,hb4⟩
  clear cE x0 x1 x2
  obtain ⟨bn,hbn⟩:∃ bn,bl.length=bn:=⟨_,rfl⟩
  rw [hbn] at o4
  obtain ⟨ad,bc,rfl,hbc,hgb⟩:=z5J o4
  obtain ⟨gb,rfl,_,_⟩:=hgb (by have:=B1.out.2.2.2.1;omega)
  have R4:Aside (HX.FOREST w4 w.heap.size g d 3 n C hs∧Below w.heap.size w w4∧Bytes w4 (some ⟨gb,0,none⟩) bn bl∧bn≤bc∧bl.length=bn):=
    ⟨R3.out.1.below hb4,R3.out.2.trans (hb4.mono R3.out.2.size),(z0I o4 B1.out.2.2.2.2.2).1,hbc,hbn⟩
  have cR:=HX.zfS R4.out.1 (HT.out _ R4.out.2.1).1 (HT.out _ R4.out.2.1).2.1
  have iR:IsH (LST (HX.z1X d hs n)):=z3r fun j=>HX.zew _ _ _ j
  rw [z1v] at cR
  generalize LST (HX.z1X d hs n)=R at *
  have lR:=iR.1
  clear o4 hb4 hbc hbn R3
  go_wp2_with fail
  refine cR.mono ?_
  rintro e w5 ⟨rfl,hb5⟩
  clear cR
  go_upto_region 12 with (first
    | (refine wpList_store_row rfl 32 (.tmp 13) (.tmp 56) rfl _ _ rfl rfl 32 _ (Has.new w5 _ _) (z0a lR) (by simp [z00,lR]) (z0m R) ?_;rw [World.setRow_alloc_new])
    | fail)
  obtain ⟨W0,hW0⟩:∃ W0,w5.alloc (.cells (z00 R).toArray 32)=W0:=⟨_,rfl⟩
  obtain ⟨br,hbr⟩:∃ br,w5.heap.size=br:=⟨_,rfl⟩
  rw [hW0,hbr]
  have hr0:W0.rangeAt br 0 (z00 R)∧br<W0.heap.size:=by rw [← hW0,← hbr];exact ⟨z0J (Has.new _ _ _),by simp⟩
  have hbw0:Below w.heap.size w W0:=by
    have h1:Below w.heap.size w w5:=R4.out.2.1.trans (hb5.mono R4.out.2.1.size)
    rw [← hW0]
    exact h1.alloc h1.size _
  have hB0:Bytes W0 (some ⟨gb,0,none⟩) bn bl:=by
    rw [← hW0]
    exact (R4.out.2.2.1.below hb5).below ((Below.refl _ _).alloc (Nat.le_refl _) _)
  have iL:IsH (LST (hs i)):=z3r (HA.out.2.2 i HA.out.2.1)
  have L0:Aside (∀ W,Below W0.heap.size W0 W→Below w.heap.size w W∧W.rangeAt br 0 (z00 R)∧W.rangeAt lb (lo+i*32) (z00 (LST (hs i)))∧Bytes W (some ⟨gb,0,none⟩) bn bl∧Tabled W∧HX.Tabled W∧2<W.heap.size):=fun W h=>by
    have h1:Below w.heap.size w W:=hbw0.trans (h.mono hbw0.size)
    have h2:=HT.out W h1
    exact ⟨h1,z0T hr0.1 h hr0.2,h2.2.2.2.2,hB0.below h,h2.1,h2.2.1,h2.2.2.2.1⟩
  generalize LST (hs i)=L at *
  have lL:=iL.1
  have HI:Aside (IsH R∧IsH L∧bn≤bc∧bl.length=bn):=⟨iR,iL,R4.out.2.2.2.1,R4.out.2.2.2.2⟩
  clear hW0 hbr hr0 hbw0 hB0 iL iR R4 HT hb5
  have hn64:n<2 ^ 64:=by have:=HA.out.1;omega
  have hbn:3≤bn∧bn≤10000:=by rw [← HI.out.2.2.2];exact ⟨B1.out.2.2.2.1,B1.out.2.2.2.2.1⟩
  obtain ⟨bm,hbm⟩:∃ bm,bm+1=bn:=⟨bn - 1,by omega⟩
  have hS:∀ W,Below W0.heap.size W0 W→W.rangeAt br 0 (z00 R)∧W.rangeAt lb (lo+i*32) (z00 L):=fun W h=>⟨(L0.out W h).2.1,(L0.out W h).2.2.1⟩
  have cm:∀ (ba:Option Addr) (m q:Nat) (x:List Int) (E:Int) (W:World),Below W0.heap.size W0 W→m≤1000000→m≤q→Bytes W ba m x→(DEC x).1=E→E≠0→Calls Tryz.prog 10 #[.int .i64 d,.agg (z00 R).toArray,.int .u64 (n:Int),.int .u64 (i:Int),.agg (z00 L).toArray,.slice ba m q] W fun e w'=>e=.returned (.int .i64 E)∧Below W0.heap.size W0 w':=fun ba m q x E W h h1 h2 h3 h4 h5=>by
    have hL:=L0.out W h
    refine (z4h d R HI.out.1 n i hn64 L HI.out.2.1 ba m q h1 h2 x W h3 hL.2.2.2.2.1 hL.2.2.2.2.2.1 hL.2.2.2.2.2.2).mono ?_
    rintro e w' ⟨rfl,hb⟩
    exact ⟨by rw [zef h4 h5],h.trans (hb.mono h.size)⟩
  have c1:∀ W,Below W0.heap.size W0 W→Calls Tryz.prog 10 #[.int .i64 d,.agg (z00 R).toArray,.int .u64 (n:Int),.int .u64 (i:Int),.agg (z00 L).toArray,.slice (some ⟨gb,0,none⟩) bm bc] W fun e w'=>e=.returned (.int .i64 11)∧Below W0.heap.size W0 w':=fun W h=>by
    refine cm _ bm bc (bl.take bm) 11 W h (by omega) (by have:=HI.out.2.2.1;omega) ((L0.out W h).2.2.2.1.take (by omega)) ?_ (by decide)
    have e:bm=bl.length - 1:=by have:=HI.out.2.2.2;omega
    rw [e]
    exact B1.out.1
  refine zfu W0 d lb lo n c i br gb bn bc R L 11 bm ?_ ?_ lR lL hi2 (fun W=>Below W0.heap.size W0 W) (Below.refl _ _).drew hS c1 (fun _ _ _ _ _ h=>h) ?_
  · exact zex hbm hbn.2
  · have:=HI.out.2.2.1
    omega
  intro W1 hW1
  dsimp only
  clear c1
  go_upto_region 13 with fail
  have c1:∀ W,Below W0.heap.size W0 W→Calls Tryz.prog 10 #[.int .i64 d,.agg (z00 R).toArray,.int .u64 (n:Int),.int .u64 (i:Int),.agg (z00 L).toArray,.slice none 0 0] W fun e w'=>e=.returned (.int .i64 11)∧Below W0.heap.size W0 w':=fun W h=>
    cm none 0 0 [] 11 W h (by omega) (by omega) (Bytes.nil W) zed (by decide)
  refine zfv W1 d lb lo n c i br gb bn bc R L 11 lR lL hi2 (fun W=>Below W0.heap.size W0 W) hW1.drew hS c1 (fun _ _ _ _ _ h=>h) ?_
  intro W2 hW2
  dsimp only
  clear c1 hW1
  go_upto_region 14 with fail
  have ct:∀ W,Below W0.heap.size W0 W→Calls Tryz.prog 21 #[.slice (some ⟨gb,0,none⟩) bn bc] W fun e w'=>∃ gx q3,e=.returned (.slice (some ⟨gx,0,none⟩) bn q3)∧Below W0.heap.size W0 w'∧w'.ownsRow W0.heap.size 5 1 (.slice (some ⟨gx,0,none⟩) bn q3) bn (z00 bl)∧Below W.heap.size W w':=fun W h=>by
    refine (zeu (some ⟨gb,0,none⟩) bn bc (by omega) (fun h=>by cases h) bl W (L0.out W h).2.2.2.1).mono ?_
    rintro e w' ⟨gx,q3,rfl,ho,_,_,_,hb⟩
    exact ⟨gx,q3,rfl,h.trans (hb.mono h.size),z0L ho h.size,hb⟩
  have hrg:∀ x∈bl ++ [0],0≤x∧x≤255:=fun x hx=>by
    rcases List.mem_append.1 hx with h | h
    · exact B1.out.2.2.2.2.2 x h
    · simp at h
      omega
  have c2:∀ gt q4 W,(Below W0.heap.size W0 W∧Bytes W (some ⟨gt,0,none⟩) (bn+1) (bl ++ [0])∧bn+1≤q4)→Calls Tryz.prog 10 #[.int .i64 d,.agg (z00 R).toArray,.int .u64 (n:Int),.int .u64 (i:Int),.agg (z00 L).toArray,.slice (some ⟨gt,0,none⟩) (bn+1) q4] W fun e w'=>e=.returned (.int .i64 13)∧Below W0.heap.size W0 w':=fun gt q4 W h=>
    cm _ (bn+1) q4 (bl ++ [0]) 13 W h.1 (by omega) h.2.2 h.2.1 B1.out.2.1 (by decide)
  refine zfw W2 d lb lo n c i br gb bn bc R L 13 bl W0.heap.size (by omega) lR lL hi2 (fun W=>Below W0.heap.size W0 W) (fun gt q4 W=>Below W0.heap.size W0 W∧Bytes W (some ⟨gt,0,none⟩) (bn+1) (bl ++ [0])∧bn+1≤q4) (fun _ _ _ h=>h.1) (fun _ o h=>h.alloc h.size o) (fun _ h=>h.size)
    (fun W W' gx q3 gt q4 h ho hg ho'=>⟨h.grown hg h.size (fun k e=>(ho.lt k (by simpa [Value.ownBlock] using e)).1),(z0I ho' hrg).1,(z0I ho' hrg).2⟩) hW2.drew hS ct c2 (fun _ _ _ _ _ h=>h) ?_
  intro gx3 q3 z3 gt3 q4 W3 hW3
  dsimp only
  clear c2 hW2 hrg
  go_upto_region 15 with fail
  obtain ⟨js,hjs⟩:=zgr (DEX bl).2.1 (DEX bl).2.2.1
  have ct':∀ W,Below W0.heap.size W0 W→Calls Tryz.prog 21 #[.slice (some ⟨gb,0,none⟩) bn bc] W fun e w'=>∃ gx q3,e=.returned (.slice (some ⟨gx,0,none⟩) bn q3)∧Below W0.heap.size W0 w'∧Bytes w' (some ⟨gx,0,none⟩) bn bl∧bn≤q3:=fun W h=>(ct W h).mono fun e w' ⟨gx,q3,h1,h2,h3,_⟩=>⟨gx,q3,h1,h2,z0I h3 B1.out.2.2.2.2.2⟩
  have c3:∀ gx q3 W,Below W0.heap.size W0 W→Bytes W (some ⟨gx,0,none⟩) bn bl→bn≤q3→Calls Tryz.prog 18 #[.int .i64 d,.int .u64 (n:Int),.agg (z00 R).toArray,.int .u64 (n:Int),.agg (z00 R).toArray,.slice (some ⟨gx,0,none⟩) bn q3] W fun e w'=>e=.returned (.int .i64 14)∧Below W0.heap.size W0 w':=fun gx q3 W h h1 h2=>by
    have hL:=L0.out W h
    refine (zcy d n hn64 R HI.out.1 n hn64 R HI.out.1 _ bn q3 (by omega) h2 bl js hjs W h1 hL.2.2.2.2.1 hL.2.2.2.2.2.1 hL.2.2.2.2.2.2).mono ?_
    rintro e w' ⟨rfl,hb⟩
    exact ⟨by rw [zeg B1.out.2.2.1 (by decide)],h.trans (hb.mono h.size)⟩
  refine zfx W3 d lb lo n c i br gb bn bc R L 14 bl lR (fun W=>Below W0.heap.size W0 W) hW3.drew hS ct' c3 (fun _ _ _ _ _ h=>h) ?_
  intro gx5 q5 W4 hW4
  dsimp only
  have hL4:=L0.out W4 hW4
  have ca:=zcU W4 hL4.2.2.2.2.1 hL4.2.2.2.2.2.1 hL4.2.2.2.2.2.2
  have HB4:Aside (Below w.heap.size w W4):=hL4.1
  clear c3 ct' ct cm hS hL4 hW3 hW4 hjs L0 HI B1 HA hbn hbm hn64
  go_wp2_with fail
  refine ca.mono ?_
  rintro e w9 ⟨rfl,hb9⟩
  clear ca
  go_wp2
  go_ret
  exact ⟨rfl,HB4.out.trans (hb9.mono HB4.out.size)⟩
theorem z57 (d:Int) (a:Option Addr) (n c i:Nat) (hs:Nat→Nat→Nat) (w:World) (hH:HX.HASHES w a n hs) (h8:∀ i,i<n→∀ j,hs i j<256) (hT:Tabled w) (hX:HX.Tabled w) (h0:2<w.heap.size):Calls Tryz.prog 5 #[.int .i64 d,.slice a n c,.int .u64 (i:Int)] w fun e w'=>e=.returned (.bool true)∧Below w.heap.size w w':=by
  by_cases hn:(300:Int)<(n:Int)
  · exact zbl d a n c i w hn
  · by_cases hi:n≤i
    · exact zcX d a n c i w hn hi
    · exact zbm d a n c i hs w hn (by omega) hH h8 hT hX h0
end Go.Proofs.YthjeeblddipiiaaGreatDoor

namespace Go.Proofs.YthjeeblddipiiaaGreatDoor
open Go.ChangeShapes Go.WideShapes Go.ChangeAt Go.WideMaps Go.WideElems Go.RowKit
set_option maxRecDepth 100000
theorem own:ownKnob Tryz.prog.godebug=none:=by kernel_rfl
theorem z9S:laidOutB Tryz.prog=true:=by kernel_rfl
theorem gTab:Tryz.prog.globalNamed "math/bits.deBruijn64tab"=some 0:=by kernel_rfl
theorem tTab:(Tryz.prog.globals[0]?).map (·.type)=some 157:=by kernel_rfl
theorem zfU {H:Type}:(Rows.laid_math_bits_deBruijn64tab:DataW H)=.agg (TAB.map fun n=>.lit (.int .u8 (n:Nat))):=rfl
end Go.Proofs.YthjeeblddipiiaaGreatDoor

namespace Go.Proofs.YthjeeblddipiiaaGreatDoor.HX
set_option maxRecDepth 100000
open Go.ChangeShapes Go.WideShapes Go.ChangeAt Go.WideMaps Go.WideElems Go.RowKit
theorem own:ownKnob Tryz.prog.godebug=none:=by kernel_rfl
theorem z9S:laidOutB Tryz.prog=true:=by kernel_rfl
theorem gRounds:Tryz.prog.globalNamed "massif/hash.rounds"=some 2:=by kernel_rfl
theorem gBegin:Tryz.prog.globalNamed "massif/hash.begin"=some 1:=by kernel_rfl
theorem tRounds:(Tryz.prog.globals[2]?).map (·.type)=some 174:=by kernel_rfl
theorem tBegin:(Tryz.prog.globals[1]?).map (·.type)=some 172:=by kernel_rfl
theorem zbn {H:Type}:(Rows.laid_massif_hash_rounds:DataW H)=.agg (KLIST.map fun n=>.lit (.int .u32 (n:Nat))):=rfl
theorem zcY {H:Type}:(Rows.laid_massif_hash_begin:DataW H)=.agg (BEGIN.map fun n=>.lit (.int .u32 (n:Nat))):=rfl
theorem z8t {H:Type} {enc:TypeId × Value→H} {W:World} {base fuel n:Nat} {sp:Nat→Bool} {held:Bool} {t:TypeId} {cs:List Value} {ps:List MemPlace} (L:List Nat) (hL:L.length=n) (ht:Tryz.prog.underlying t=some (.array n 171))
    (hd:DataW.trod enc Tryz.prog W base sp held fuel t cs=some (.agg (L.map fun n=>.lit (.int .u32 (n:Nat))),ps)) (i:Nat) (hi:i<n):cs[i]?=some (.int .u32 (L.getD i 0:Nat)):=by
  obtain ⟨xs,m1,rfl,hx1,hlen,hn,hel⟩:=DataW.trod_array ht hd
  have c5:Tryz.prog.cellsOf 171=1:=by kernel_rfl
  simp only [Prod.mk.injEq,DataW.agg.injEq] at hx1
  have hx:=hx1.1
  have h0:=hel i hi
  have hi':i<xs.length:=by omega
  rw [List.getElem?_eq_getElem hi',c5,Nat.mul_one] at h0
  obtain ⟨k,e1,e2,_⟩:=DataW.trod_int Tryz.underlying171 h0
  have hk:(k:Int)=((L.getD i 0:Nat):Int):=by
    have hz:=congrArg (fun l=>l[i]?) hx
    have hT:i<L.length:=by omega
    simp only [List.getElem?_map,List.getElem?_eq_getElem hi',List.getElem?_eq_getElem hT,Option.map_some,e2] at hz
    simp at hz
    rw [List.getD_eq_getElem?_getD,List.getElem?_eq_getElem hT]
    simpa using hz.symm
  rw [← hk]
  have:=congrArg (fun l=>l[0]?) e1
  simpa using this
end Go.Proofs.YthjeeblddipiiaaGreatDoor.HX

namespace Go.Proofs.YthjeeblddipiiaaGreatDoor.HX
open Go.ChangeShapes Go.WideShapes Go.ChangeAt Go.WideMaps Go.WideElems Go.RowKit
set_option maxRecDepth 100000
theorem zey {W:World} (h:laidMetH Tryz.prog [("math/bits.deBruijn64tab",Rows.laid_math_bits_deBruijn64tab),("massif/hash.begin",Rows.laid_massif_hash_begin),("massif/hash.rounds",Rows.laid_massif_hash_rounds)] W):Go.Proofs.YthjeeblddipiiaaGreatDoor.Tabled W∧Tabled W∧2<W.heap.size:=by
  rw [MakeChecks.laidMetH_plain _ _ _ (by kernel_rfl)] at h
  obtain ⟨ps,⟨g0,t0,cs0,f0,p0,q0,hg0,ht0,hv0,hd0,⟨g1,t1,cs1,f1,p1,q1,hg1,ht1,hv1,hd1,⟨g2,t2,cs2,f2,p2,q2,hg2,ht2,hv2,hd2,_,_⟩,_⟩,_⟩,_,_⟩:=h
  obtain rfl:=Option.some.inj (gTab.symm.trans hg0)
  obtain rfl:=Option.some.inj (tTab.symm.trans ht0)
  obtain rfl:=Option.some.inj (gBegin.symm.trans hg1)
  obtain rfl:=Option.some.inj (tBegin.symm.trans ht1)
  obtain rfl:=Option.some.inj (gRounds.symm.trans hg2)
  obtain rfl:=Option.some.inj (tRounds.symm.trans ht2)
  rw [zcY] at hd1
  rw [zbn] at hd2
  have A:∀ i,i<8→W.cell? ⟨1,i,none⟩=some (.int .u32 (BEGIN.getD i 0:Nat)):=fun i hi=>(World.var?_cell hg1 hv1 i).trans (Array.getElem?_toList.symm.trans (z8t BEGIN rfl Tryz.underlying172 hd1 i hi))
  have B:∀ i,i<64→W.cell? ⟨2,i,none⟩=some (.int .u32 (KC i:Nat)):=fun i hi=>(World.var?_cell hg2 hv2 i).trans (Array.getElem?_toList.symm.trans (z8t KLIST rfl Tryz.underlying174 hd2 i hi))
  obtain ⟨xs,m1,rfl,hx1,hlen,hn,hel⟩:=DataW.trod_array Tryz.underlying157 hd0
  have c5:Tryz.prog.cellsOf 5=1:=by kernel_rfl
  simp only [Prod.mk.injEq] at hx1
  have hx:=hx1.1
  rw [zfU] at hx
  simp only [DataW.agg.injEq] at hx
  have T:Go.Proofs.YthjeeblddipiiaaGreatDoor.Tabled W:=fun i hi=>by
    have h0:=hel i hi
    have hi':i<xs.length:=by omega
    rw [List.getElem?_eq_getElem hi',c5,Nat.mul_one] at h0
    obtain ⟨k,e1,e2,_⟩:=DataW.trod_int Tryz.underlying5 h0
    have hk:(k:Int)=((TAB.getD i 0:Nat):Int):=by
      have hz:=congrArg (fun l=>l[i]?) hx
      have hT:i<TAB.length:=hi
      simp only [List.getElem?_map,List.getElem?_eq_getElem hi',List.getElem?_eq_getElem hT,Option.map_some,e2] at hz
      simp at hz
      rw [List.getD_eq_getElem?_getD,List.getElem?_eq_getElem hT]
      simpa using hz.symm
    have hv:=World.var?_cell hg0 hv0 i
    rw [hv,← hk]
    have:=congrArg (fun l=>l[0]?) e1
    simp at this
    simpa using this
  have z0:0<W.heap.size:=World.block_lt_of_cell? W _ (T 0 (by decide))
  have z1:1<W.heap.size:=World.block_lt_of_cell? W _ (A 0 (by decide))
  have z2:2<W.heap.size:=World.block_lt_of_cell? W _ (B 0 (by decide))
  exact ⟨T,⟨B,A,by omega⟩,by omega⟩
theorem zcZ {H:Type} {enc:TypeId × Value→H} {W:World} {fuel:Nat} {cs:List Value} {x:DataW H × List MemPlace} (hf:DataW.trod enc Tryz.prog W 0 (fun _=>true) true fuel 32 cs=some x):∃ h:Nat→Nat,(∀ i,h i<256)∧cs=z02 .u8 32 h:=by
  obtain ⟨xs,m,rfl,_,hl,hn,hel⟩:=DataW.trod_array Tryz.underlying32 hf
  have c5:Tryz.prog.cellsOf 5=1:=by kernel_rfl
  have c32:Tryz.prog.cellsOf 32=32:=by kernel_rfl
  rw [c32] at hl
  have hx:∀ i,i<32→∃ k:Nat,cs[i]?=some (.int .u8 (k:Int))∧k<256:=fun i hi=>by
    have h0:=hel i hi
    rw [List.getElem?_eq_getElem (by omega),c5,Nat.mul_one] at h0
    obtain ⟨k,e1,_,e3⟩:=DataW.trod_int Tryz.underlying5 h0
    have hb:=bounds_u8 e3
    refine ⟨k.toNat,?_,by omega⟩
    have:=congrArg (fun l=>l[0]?) e1
    rw [Int.toNat_of_nonneg hb.1]
    simpa using this
  have F:∃ f:Nat→Nat,(∀ i,f i<256)∧∀ i,i<32→cs[i]?=some (.int .u8 ((f i:Nat):Int)):=by
    refine ⟨fun i=>if hi:i<32 then (hx i hi).choose else 0,fun i=>?_,fun i hi=>?_⟩
    · by_cases hi:i<32
      · simp only [hi,dif_pos];exact (hx i hi).choose_spec.2
      · simp only [hi,dif_neg,not_false_iff];decide
    · simp only [hi,dif_pos];exact (hx i hi).choose_spec.1
  obtain ⟨f,hf1,hf2⟩:=F
  refine ⟨f,hf1,?_⟩
  apply List.ext_getElem?
  intro i
  by_cases hi:i<32
  · rw [hf2 i hi,z0W _ _ _ _ hi]
  · rw [List.getElem?_eq_none (by omega),List.getElem?_eq_none (by rw [z08];omega)]
theorem z9c {H:Type} {enc:TypeId × Value→H} {W:World} {a:Option Addr} {k c:Nat} {d:DataW H} {ps:List MemPlace} (hd:DataW.Trod enc Tryz.prog W 0 (fun _=>true) true 22 (.slice a k c) d ps):
    ∃ hs:Nat→Nat→Nat,(∀ i,i<k→∀ j,hs i j<256)∧HASHES W a k hs:=by
  obtain ⟨fuel,hf⟩:=hd
  rcases DataW.trod_slice Tryz.underlying22 hf with ⟨h0,_⟩ | ⟨ad,len,cap,elems,rest,n,_,h0,hx,_,hl,hm,hlen,hel,_,_⟩
  · simp [Value.cells] at h0
    obtain ⟨rfl,rfl,rfl⟩:=h0
    exact ⟨fun _ _=>0,fun i hi=>by omega,fun h=>by omega⟩
  · simp [Value.cells] at h0
    obtain ⟨rfl,rfl,rfl⟩:=h0
    have c32:Tryz.prog.cellsOf 32=32:=by kernel_rfl
    have each:∀ i,i<k→∃ h:Nat→Nat,(∀ j,h j<256)∧∀ j,j<32→W.cell? ((ad.add (i*32)).add j)=some (.int .u8 ((h j:Nat):Int)):=fun i hi=>by
      have h:=hel i hi
      rw [List.getElem?_eq_getElem (by omega),c32,Option.bind_eq_some_iff] at h
      obtain ⟨cs,hcs,ht⟩:=h
      obtain ⟨f,h1,rfl⟩:=zcZ ht
      have hs:=(World.cells?_some hcs).2.2
      refine ⟨f,h1,fun j hj=>?_⟩
      have s:=hs j hj
      rw [s]
      exact z0W .u8 32 f j hj
    have F:∃ f:Nat→Nat→Nat,∀ i,i<k→(∀ j,f i j<256)∧∀ j,j<32→W.cell? ((ad.add (i*32)).add j)=some (.int .u8 ((f i j:Nat):Int)):=by
      refine ⟨fun i=>if hi:i<k then (each i hi).choose else fun _=>0,fun i hi=>?_⟩
      simp only [hi,dif_pos]
      exact (each i hi).choose_spec
    obtain ⟨f,hf2⟩:=F
    refine ⟨f,fun i hi=>(hf2 i hi).1,fun h0k=>?_⟩
    obtain ⟨b,off,spot⟩:=ad
    have hc:=(hf2 0 h0k).2 0 (by decide)
    have hspot:spot=none:=by simpa [Addr.add] using World.cell?_spot hc
    subst hspot
    refine ⟨b,off,rfl,?_,fun i hi j v hv=>?_⟩
    · have:=World.block_lt_of_cell? W _ hc
      simpa [Addr.add] using this
    · have hj:j<32:=by have:=(List.getElem?_eq_some_iff.1 hv).1;rw [z08] at this;exact this
      have h1:=(hf2 i hi).2 j hj
      rw [z1o,z1o] at h1
      rw [z0W _ _ _ _ hj] at hv
      rw [h1,← hv]
end Go.Proofs.YthjeeblddipiiaaGreatDoor.HX
