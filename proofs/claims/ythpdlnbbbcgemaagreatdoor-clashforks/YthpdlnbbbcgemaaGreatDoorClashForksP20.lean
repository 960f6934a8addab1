/- Texts of ClashForks, one behind the other: ClashTexts, HashStepEq, VerifyCount, VerifyUnder, VerifyRooted, ClashTake, ClashBackward. -/
import Derived.Laws.StructEq
import Derived.Laws.BytesArg
import Derived.Lib.Bytes
import Derived.RangeFuncBox
import Derived.RangeFuncLeaves
import Derived.RangeFuncCalls
import Derived.RangeFuncNested
import Derived.Shelf.Abstract
import Derived.Shelf.RegionOpen
import Derived.WalkKit
import Derived.OwnWalkIn
import Derived.TacticsInMore
import Derived.LoopNIn
import Derived.LoopIn
import Derived.Maps.AppendAt
import Derived.Test.YthpdlnbbbcgemaaGreatDoorClashForksP15
import Derived.Test.YthpdlnbbbcgemaaGreatDoorClashForksP19
namespace Go.Proofs.YthpdlnbbbcgemaaGreatDoor.HX
open Go.RowKit
set_option maxRecDepth 100000
theorem zgK {W:World} {g:Nat} {a:Option Addr} {n c:Nat} {l:List Nat} (hg:Has W g #[.slice a n c] 25) (hT:Text W a n l) (hc:n≤c) (hx:∀ x,a=some x→x.block<W.heap.size):Parts W (some ⟨g,0,none⟩) 1 [⟨a,n,c,l⟩]:=by
  refine ⟨rfl,fun _=>⟨g,0,rfl,hg.lt,fun i p hp=>?_⟩,fun p hp=>?_⟩
  · cases i with
    | zero=>
      simp only [List.getElem?_cons_zero,Option.some.injEq] at hp
      subst hp
      rw [hg.cell]
      rfl
    | succ i=>simp at hp
  · simp only [List.mem_singleton] at hp
    subst hp
    exact ⟨hT,hc,hx⟩
theorem sum9 (d:Int) (W:World) (g:Nat) (a:Option Addr) (n c:Nat) (l:List Nat) (hg:Has W g #[.slice a n c] 25) (hT:Text W a n l) (hc:n≤c) (hx:∀ x,a=some x→x.block<W.heap.size) (hn:n<2 ^ 60) (h:Tabled W):Calls Tryz.prog 26 #[.int .i64 d,.slice (some ⟨g,0,none⟩) 1 1] W fun e w'=>e=.returned (.agg (UARR .u8 32 (z08 d l)))∧Below W.heap.size W w':=by
  have e:JOIN [⟨a,n,c,l⟩]=l:=by simp [JOIN]
  have k:=zcS d (some ⟨g,0,none⟩) 1 1 _ _ (zgK hg hT hc hx) h (by rw [e,hT.1];exact hn) (by decide)
  rw [e] at k
  exact k
theorem zaE (d:Int) (W:World) (g:Nat) (a:Option Addr) (n c:Nat) (l:List Nat) (hg:Has W g #[.slice a n c] 25) (hT:Text W a n l) (hc:a=none→c=0) (hn:n<2 ^ 30):Calls Tryz.prog 52 #[.int .i64 d,.slice (some ⟨g,0,none⟩) 1 1] W fun e w'=>e=.returned (.agg (UARR .u8 32 (z08 d l)))∧Below W.heap.size W w':=by
  have e:JOIN [⟨a,n,c,l⟩]=l:=by simp [JOIN]
  have k:=z7D d (some ⟨g,0,none⟩) 1 1 [⟨a,n,c,l⟩] W ⟨rfl,fun _=>⟨g,0,rfl,hg.lt,fun i p hp=>by
    cases i with
    | zero=>
      simp only [List.getElem?_cons_zero,Option.some.injEq] at hp
      subst hp
      rw [hg.cell]
      rfl
    | succ i=>simp at hp⟩,fun p hp=>by simp only [List.mem_singleton] at hp;subst hp;exact hT⟩ (fun p hp=>by simp only [List.mem_singleton] at hp;subst hp;exact hc) (by rw [e,hT.1];exact hn) (by decide)
  rw [e] at k
  exact k
end Go.Proofs.YthpdlnbbbcgemaaGreatDoor.HX

namespace Go.Proofs.YthpdlnbbbcgemaaGreatDoor.HX
open Go.RowKit
set_option maxRecDepth 100000
theorem z4L {w:World} {a:Option Addr} {n:Nat} {l:List Nat} (h:Text w a n l) (c:Nat):(convert 25 9 (.slice a n c)).run Tryz.prog w=.ok (.string (strOfNums (INTS l))) w:=by
  rcases Nat.eq_zero_or_pos n with hn | hn
  · subst hn
    obtain rfl:l=[]:=List.eq_nil_of_length_eq_zero h.1
    rw [run_convert_bytes_string w 25 9 5 _ 0 c Tryz.underlying25 Tryz.underlying5 Tryz.underlying9]
    cases a <;> simp [Conv.bytesToString,loadCells]
    all_goals rfl
  · obtain ⟨b,o,rfl, -,hc⟩:=h.2.1 hn
    exact run_convert_bytes_arg (P:=Tryz.prog) w 25 5 Tryz.underlying25 Tryz.underlying5 b o n c (INTS l) (by simp [INTS,h.1]) (fun i hi=>by rw [hc i hi];simp [INTS,List.getD_eq_getElem?_getD];cases l[i]? <;> rfl) 9 Tryz.underlying9
theorem zd6 {l k:List Nat} (hl:Small8 l) (hk:Small8 k):((strOfNums (INTS l)).toList == (strOfNums (INTS k)).toList)=decide (l=k):=by
  rw [Lib.strOfNums_toList,Lib.strOfNums_toList]
  have key:∀ (l k:List Nat),Small8 l→Small8 k→Lib.bytesOf (INTS l)=Lib.bytesOf (INTS k)→l=k:=by
    intro l
    induction l with
    | nil=>intro k _ _ h;cases k with | nil=>rfl | cons y k=>simp [Lib.bytesOf,INTS] at h
    | cons x l ih=>
      intro k h1 h2 h
      cases k with
      | nil=>simp [Lib.bytesOf,INTS] at h
      | cons y k=>
        simp only [Lib.bytesOf,INTS,List.map_cons,List.cons.injEq] at h
        have hx:=h1 x (by simp)
        have hy:=h2 y (by simp)
        have e:x=y:=by
          have:=congrArg UInt8.toNat h.1
          simp at this
          omega
        rw [e,ih k (fun z hz=>h1 z (by simp [hz])) (fun z hz=>h2 z (by simp [hz])) h.2]
  by_cases e:l=k
  · subst e;simp
  · have:Lib.bytesOf (INTS l)≠Lib.bytesOf (INTS k):=fun h=>e (key l k hl hk h)
    simp [e,this]
theorem z2W (a:Option Addr) (n c:Nat) (l:List Nat) (b:Option Addr) (m c':Nat) (k:List Nat) (w:World) (h1:Text w a n l) (h2:Text w b m k):Calls Tryz.prog 53 #[.slice a n c,.slice b m c'] w fun e w'=>e=.returned (.bool (decide (l=k)))∧w=w':=by
  have q1:=z4L h1 c
  have q2:=z4L h2 c'
  have q3:=zd6 h1.2.2 h2.2.2
  clear h1 h2
  generalize strOfNums (INTS l)=S at *
  generalize strOfNums (INTS k)=T at *
  go_enter Tryz.func53,Tryz.ntmps53
  go_wp2
  go_ret
  exact ⟨rfl,rfl⟩
end Go.Proofs.YthpdlnbbbcgemaaGreatDoor.HX

namespace Go.Proofs.YthpdlnbbbcgemaaGreatDoor
open Go.RowKit
set_option maxRecDepth 100000
def BAGA (d:Int) (n k:Nat) (l:List Int):Int × List Int:=
  if 4611686018427387904<n then (30,ZND) else if k≠PC n then (70,ZND) else (0,z0C d n (FLD d l k))
theorem zg0 {d:Int} {n k:Nat} {l:List Int}:IsH (BAGA d n k l).2:=by
  unfold BAGA
  split
  · exact z3S
  · split
    · exact z3S
    · exact z2D _ _ _
theorem z1y {fn:Func} {p q:Tmp} {ty:TypeId} (h:fn.results=#[.cell p ty,.tmp q]) (tmps:Array Value) (w:World) (g:Nat) (t:TypeId) (cs:Array Value) (fr:Nat × Nat) (k:Nat) (el:TypeId) (v:Value)
    (hp:tmps.getD p undef=.pointer (some ⟨g,0,none⟩)) (hv:tmps.getD q undef=v) (hg:w.heap[g]?=some (.cells cs t fr))
    (hu:Tryz.prog.underlying ty=some (.array k el)) (hi:(Tryz.prog.info? ty).map (·.size)=some cs.size):
    (results fn tmps).run Tryz.prog w=.ok (.tuple #[.agg cs,v]) w:=by
  have hp':tmps[p]?.getD undef=.pointer (some ⟨g,0,none⟩):=by simpa using hp
  have hv':tmps[q]?.getD undef=v:=by simpa using hv
  simp [results,h,hp',hv',asAddr,run_loadVar_row w g t ty cs fr (.array k el) hg hu rfl hi]
set_option maxHeartbeats 4000000 in
theorem zd7 (d:Int) (n:Nat) (hn:n<2 ^ 64) (a:Option Addr) (k c:Nat) (w:World) (h1':¬ (4611686018427387904:Int)<(n:Int)) (h2:¬ k=POP n):
    Calls Tryz.prog 74 #[.int .i64 d,.int .u64 (n:Int),.slice a k c] w fun e w'=>e=.returned (.tuple #[.agg (z01 ZND).toArray,.int .i64 70])∧Below w.heap.size w w':=by
  have R0:Aside (Below w.heap.size w (w.alloc (.cells ZARR 24))∧Has (w.alloc (.cells ZARR 24)) w.heap.size (z01 ZND).toArray 24):=⟨(Below.refl _ _).alloc (Nat.le_refl _) _,by rw [z1L];exact Has.new _ _ _⟩
  have cO:=z2o n hn (w.alloc (.cells ZARR 24))
  generalize POP n=pp at *
  have e2:¬ (k:Int)=(pp:Int):=by omega
  clear hn
  go_enter Tryz.func74,Tryz.ntmps74
  go_upto_region 3 with fail
  rw [show (#[.int .u8 0,.int .u8 0,.int .u8 0,.int .u8 0,.int .u8 0,.int .u8 0,.int .u8 0,.int .u8 0,.int .u8 0,.int .u8 0,.int .u8 0,.int .u8 0,.int .u8 0,.int .u8 0,.int .u8 0,.int .u8 0,.int .u8 0,.int .u8 0,.int .u8 0,.int .u8 0,.int .u8 0,.int .u8 0,.int .u8 0,.int .u8 0,.int .u8 0,.int .u8 0,.int .u8 0,.int .u8 0,.int .u8 0,.int .u8 0,.int .u8 0,.int .u8 0]:Array Value)=ZARR from rfl]
  generalize w.alloc (.cells ZARR 24)=W0 at *
  go_wp2_with fail
  refine cO.mono ?_
  rintro e w1 ⟨rfl,rfl⟩
  clear cO
  go_upto_region 4 with fail
  go_wp2_with (rw [show (#[.int .u8 0,.int .u8 0,.int .u8 0,.int .u8 0,.int .u8 0,.int .u8 0,.int .u8 0,.int .u8 0,.int .u8 0,.int .u8 0,.int .u8 0,.int .u8 0,.int .u8 0,.int .u8 0,.int .u8 0,.int .u8 0,.int .u8 0,.int .u8 0,.int .u8 0,.int .u8 0,.int .u8 0,.int .u8 0,.int .u8 0,.int .u8 0,.int .u8 0,.int .u8 0,.int .u8 0,.int .u8 0,.int .u8 0,.int .u8 0,.int .u8 0,.int .u8 0]:Array Value)=(z01 ZND).toArray from rfl];refine wpList_store_row rfl 24 (.tmp 6) (.tmp 16) rfl _ _ rfl rfl 24 _ R0.out.2 (z02 rfl) rfl (z0m ZND) ?_)
  refine bodyPost_ret (v:=.tuple #[.agg (z01 ZND).toArray,.int .i64 70]) (z1y rfl _ _ w.heap.size 24 _ (0,0) _ _ _ rfl rfl (Has.row R0.out.2 _) Tryz.underlying24 (z02 rfl)) rfl ⟨rfl,z0d R0.out.1 (Nat.le_refl _) _⟩
end Go.Proofs.YthpdlnbbbcgemaaGreatDoor

namespace Go.Proofs.YthpdlnbbbcgemaaGreatDoor
open Go.RowKit
set_option maxRecDepth 100000
set_option maxHeartbeats 4000000 in
theorem zgL (d:Int) (n:Nat) (hn:n<2 ^ 64) (a:Option Addr) (k c:Nat) (l:List Int) (w:World) (hF:Flat w a k l) (hX:HX.Tabled w):
    Calls Tryz.prog 74 #[.int .i64 d,.int .u64 (n:Int),.slice a k c] w fun e w'=>e=.returned (.tuple #[.agg (z01 (BAGA d n k l).2).toArray,.int .i64 (BAGA d n k l).1])∧Below w.heap.size w w':=by
  have R0:Aside (Below w.heap.size w (w.alloc (.cells ZARR 24))∧Has (w.alloc (.cells ZARR 24)) w.heap.size (z01 ZND).toArray 24):=⟨(Below.refl _ _).alloc (Nat.le_refl _) _,by rw [z1L];exact Has.new _ _ _⟩
  have HA:Aside (Flat w a k l∧HX.Tabled w∧n<2 ^ 64):=⟨hF,hX,hn⟩
  clear hF hX
  by_cases h1:4611686018427387904<n
  · have e:BAGA d n k l=(30,ZND):=if_pos h1
    rw [e]
    have h1':(4611686018427387904:Int)<(n:Int):=by omega
    clear e HA hn
    go_enter Tryz.func74,Tryz.ntmps74
    go_upto_region 2 with fail
    rw [show (#[.int .u8 0,.int .u8 0,.int .u8 0,.int .u8 0,.int .u8 0,.int .u8 0,.int .u8 0,.int .u8 0,.int .u8 0,.int .u8 0,.int .u8 0,.int .u8 0,.int .u8 0,.int .u8 0,.int .u8 0,.int .u8 0,.int .u8 0,.int .u8 0,.int .u8 0,.int .u8 0,.int .u8 0,.int .u8 0,.int .u8 0,.int .u8 0,.int .u8 0,.int .u8 0,.int .u8 0,.int .u8 0,.int .u8 0,.int .u8 0,.int .u8 0,.int .u8 0]:Array Value)=ZARR from rfl]
    generalize w.alloc (.cells ZARR 24)=W0 at *
    go_wp2_with (rw [show (#[.int .u8 0,.int .u8 0,.int .u8 0,.int .u8 0,.int .u8 0,.int .u8 0,.int .u8 0,.int .u8 0,.int .u8 0,.int .u8 0,.int .u8 0,.int .u8 0,.int .u8 0,.int .u8 0,.int .u8 0,.int .u8 0,.int .u8 0,.int .u8 0,.int .u8 0,.int .u8 0,.int .u8 0,.int .u8 0,.int .u8 0,.int .u8 0,.int .u8 0,.int .u8 0,.int .u8 0,.int .u8 0,.int .u8 0,.int .u8 0,.int .u8 0,.int .u8 0]:Array Value)=(z01 ZND).toArray from rfl];refine wpList_store_row rfl 24 (.tmp 6) (.tmp 10) rfl _ _ rfl rfl 24 _ R0.out.2 (z02 rfl) rfl (z0m ZND) ?_)
    refine bodyPost_ret (v:=.tuple #[.agg (z01 ZND).toArray,.int .i64 30]) (z1y rfl _ _ w.heap.size 24 _ (0,0) _ _ _ rfl rfl (Has.row R0.out.2 _) Tryz.underlying24 (z02 rfl)) rfl ⟨rfl,z0d R0.out.1 (Nat.le_refl _) _⟩
  have h1':¬ (4611686018427387904:Int)<(n:Int):=by omega
  have hpop:=z63 hn
  by_cases h2:k=PC n
  · have e:BAGA d n k l=(0,z0C d n (FLD d l k)):=by unfold BAGA;rw [if_neg h1,if_neg (by simpa using h2)]
    rw [e]
    have hk:Aside (k≤64):=by have:=z0O 64 n hn;show k≤64;omega
    have e2:(k:Int)=((POP n:Nat):Int):=by rw [hpop,h2]
    clear e h2 hpop h1
    go_enter Tryz.func74,Tryz.ntmps74
    go_upto_region 3 with fail
    rw [show (#[.int .u8 0,.int .u8 0,.int .u8 0,.int .u8 0,.int .u8 0,.int .u8 0,.int .u8 0,.int .u8 0,.int .u8 0,.int .u8 0,.int .u8 0,.int .u8 0,.int .u8 0,.int .u8 0,.int .u8 0,.int .u8 0,.int .u8 0,.int .u8 0,.int .u8 0,.int .u8 0,.int .u8 0,.int .u8 0,.int .u8 0,.int .u8 0,.int .u8 0,.int .u8 0,.int .u8 0,.int .u8 0,.int .u8 0,.int .u8 0,.int .u8 0,.int .u8 0]:Array Value)=ZARR from rfl]
    generalize w.alloc (.cells ZARR 24)=W0 at *
    go_wp2_with fail
    refine (z2o n hn W0).mono ?_
    rintro e w1 ⟨rfl,rfl⟩
    go_wp2_with fail
    refine (zcZ d a k c (by have:=hk.out;omega) l W0 (HA.out.1.below R0.out.1) (HA.out.2.1.below R0.out.1)).mono ?_
    rintro e w1 ⟨rfl,hb⟩
    have R1:Aside (Below w.heap.size w w1∧Has w1 w.heap.size (z01 ZND).toArray 24):=⟨R0.out.1.trans (hb.mono R0.out.1.size),R0.out.2.keep hb⟩
    clear hb R0
    have hI:=z8T (d:=d) HA.out.1.1 HA.out.1.2.2
    go_wp2_with fail
    refine (zey d n hn (FLD d l k) hI w1 (HA.out.2.1.below R1.out.1)).mono ?_
    rintro e w2 ⟨rfl,hb⟩
    have R2:Aside (Below w.heap.size w w2∧Has w2 w.heap.size (z01 ZND).toArray 24):=⟨R1.out.1.trans (hb.mono R1.out.1.size),R1.out.2.keep hb⟩
    clear hb R1 hI
    have y32:=(z2D d n (FLD d l k)).1
    generalize hY:z0C d n (FLD d l k)=Y at *
    go_wp2_with (refine wpList_store_row rfl 24 (.tmp 6) (.tmp 22) rfl _ _ rfl rfl 24 _ R2.out.2 (z02 y32) (by simp [z01,y32];rfl) (z0m Y) ?_)
    refine bodyPost_ret (v:=.tuple #[.agg (z01 Y).toArray,.int .i64 0]) (z1y rfl _ _ w.heap.size 24 _ (0,0) _ _ _ rfl rfl (Has.row R2.out.2 _) Tryz.underlying24 (z02 y32)) rfl ⟨by rw [hY],z0d R2.out.1 (Nat.le_refl _) _⟩
  · have e:BAGA d n k l=(70,ZND):=by unfold BAGA;rw [if_neg h1,if_pos h2]
    rw [e]
    exact zd7 d n hn a k c w h1' (by rw [hpop];exact h2)
end Go.Proofs.YthpdlnbbbcgemaaGreatDoor

namespace Go.Proofs.YthpdlnbbbcgemaaGreatDoor
open Go.RowKit
set_option maxRecDepth 100000
theorem z91 {a b:List Int} (ha:IsH a) (hb:IsH b) (w:World):(Op.equalIn 10000 24 (.agg (z01 a).toArray) (.agg (z01 b).toArray)).run Tryz.prog w=.ok (decide (a=b)) w:=by
  rw [z0z ha,z0z hb,HX.z30]
  congr 1
  by_cases e:a=b
  · subst e
    simp
  · rw [decide_eq_false e]
    refine Bool.eq_false_iff.2 fun h=>e ?_
    have h':∀ i∈List.range 32,FNC a i=FNC b i:=fun i hi=>by simpa using List.all_eq_true.1 h i hi
    have h2:LST (FNC a)=LST (FNC b):=by
      unfold LST
      exact List.map_congr_left fun i hi=>by rw [h' i hi]
    rwa [z73 ha,z73 hb] at h2
theorem z0p {ops:Array Oper} {rest:List Oper} {o:Oper} {a:Act} {w:World} {Q:Exit→Act→World→Prop} (hw:Region.wanted o (yielded ops a.tmps)=true) (ty:TypeId) (x:Operand) (ho:o.op=.load ty x) (n:Nat) (e:TypeId)
    (b:Nat) (hx:a.eval x=.pointer (some ⟨b,0,none⟩)) (t:TypeId) (cs:Array Value) (fr:Nat × Nat) (hb:w.heap[b]?=some (.cells cs t fr)) (hu:Tryz.prog.underlying ty=some (.array n e)) (hi:(Tryz.prog.info? ty).map (·.size)=some cs.size)
    (h:wpList Tryz.prog ops Q rest (a.put o.dst (.agg cs)) w):wpList Tryz.prog ops Q (o :: rest) a w:=by
  simp only [wpList]
  rw [if_pos hw]
  exact .inl (wp_load_row ty x ho b hx t cs fr (.array n e) hb hu rfl hi h)
def UNDA (d:Int) (n k:Nat) (l root:List Int):Int:=if (BAGA d n k l).1=0∧(BAGA d n k l).2=root then 0 else 80
set_option maxHeartbeats 4000000 in
theorem z7E (d:Int) (n:Nat) (hn:n<2 ^ 64) (a:Option Addr) (k c:Nat) (l root:List Int) (hroot:IsH root) (w:World) (hF:Flat w a k l) (hX:HX.Tabled w):
    Calls Tryz.prog 42 #[.int .i64 d,.int .u64 (n:Int),.slice a k c,.agg (z01 root).toArray] w fun e w'=>e=.returned (.int .i64 (UNDA d n k l root))∧Below w.heap.size w w':=by
  have R0:Aside (Below w.heap.size w (w.alloc (.cells (z01 root).toArray 24))∧Has (w.alloc (.cells (z01 root).toArray 24)) w.heap.size (z01 root).toArray 24):=⟨(Below.refl _ _).alloc (Nat.le_refl _) _,Has.new _ _ _⟩
  have cB:=zgL d n hn a k c l (w.alloc (.cells (z01 root).toArray 24)) (hF.below R0.out.1) (hX.below R0.out.1)
  have hI:=zg0 (d:=d) (n:=n) (k:=k) (l:=l)
  have r32:=hroot.1
  have y32:=hI.1
  clear hF hX hn
  have HU:Aside (UNDA d n k l root=if (BAGA d n k l).1=0∧(BAGA d n k l).2=root then 0 else 80):=rfl
  generalize UNDA d n k l root=U at *
  generalize BAGA d n k l=B at *
  obtain ⟨E,Y⟩:=B
  dsimp only at *
  have HV:Aside ((E=0→Y=root→U=0)∧(¬ Y=root→U=80)∧(¬ E=0→U=80)):=⟨fun h1 h2=>HU.out.trans (if_pos ⟨h1,h2⟩),fun h=>HU.out.trans (if_neg fun g=>h g.2),fun h=>HU.out.trans (if_neg fun g=>h g.1)⟩
  clear HU
  go_enter Tryz.func42,Tryz.ntmps42
  go_upto_region 1 with fail
  generalize w.alloc (.cells (z01 root).toArray 24)=W0 at *
  go_wp2_with fail
  refine cB.mono ?_
  rintro e w1 ⟨rfl,hb⟩
  clear cB
  have R1:Aside (Below w.heap.size w (w1.alloc (.cells (z01 Y).toArray 24))∧Has (w1.alloc (.cells (z01 Y).toArray 24)) w.heap.size (z01 root).toArray 24∧Has (w1.alloc (.cells (z01 Y).toArray 24)) w1.heap.size (z01 Y).toArray 24):=⟨(R0.out.1.trans (hb.mono R0.out.1.size)).alloc (R0.out.1.trans (hb.mono R0.out.1.size)).size _,(R0.out.2.keep hb).alloc _,Has.new _ _ _⟩
  clear hb R0
  go_upto_region 2 with (first
    | (refine wpList_store_row rfl 24 (.tmp 9) (.tmp 16) rfl _ _ rfl rfl 24 _ (Has.new w1 _ _) (z02 y32) (by simp [z01,y32]) (z0m Y) ?_;rw [World.setRow_alloc_new])
    | fail)
  generalize w1.alloc (.cells (z01 Y).toArray 24)=W1 at *
  generalize w1.heap.size=b9 at *
  clear w1 W0
  have hb:=R1.out.1
  have h7:=R1.out.2.1
  have h9:=R1.out.2.2
  clear R1
  by_cases hE:E=0
  · subst hE
    have hq:=z91 hI hroot
    by_cases hY:Y=root
    · have HY:Aside (Y=root):=hY
      rw [decide_eq_true hY] at hq
      clear hI hroot hY
      go_wp2_with (first
        | (refine z0p (by rfl) 24 (.tmp 9) rfl 32 5 b9 rfl 24 (z01 Y).toArray (0,0) h9 Tryz.underlying24 (z02 y32) ?_)
        | (refine z0p (by rfl) 24 (.tmp 7) rfl 32 5 w.heap.size rfl 24 (z01 root).toArray (0,0) h7 Tryz.underlying24 (z02 r32) ?_)
        | fail)
      go_ret
      exact ⟨by rw [HV.out.1 (by simp) HY.out];rfl,hb⟩
    · have HY:Aside (¬ Y=root):=hY
      rw [decide_eq_false hY] at hq
      clear hI hroot hY
      go_wp2_with (first
        | (refine z0p (by rfl) 24 (.tmp 9) rfl 32 5 b9 rfl 24 (z01 Y).toArray (0,0) h9 Tryz.underlying24 (z02 y32) ?_)
        | (refine z0p (by rfl) 24 (.tmp 7) rfl 32 5 w.heap.size rfl 24 (z01 root).toArray (0,0) h7 Tryz.underlying24 (z02 r32) ?_)
        | fail)
      go_ret
      exact ⟨by rw [HV.out.2.1 HY.out];rfl,hb⟩
  · have HE:Aside (¬ E=0):=hE
    clear hI hroot h7 h9
    go_wp2_with fail
    go_ret
    exact ⟨by rw [HV.out.2.2 HE.out];rfl,hb⟩
end Go.Proofs.YthpdlnbbbcgemaaGreatDoor

namespace Go.Proofs.YthpdlnbbbcgemaaGreatDoor
open Go.RowKit
set_option maxRecDepth 100000
theorem zhb (d:Int) (W:World) (g:Nat) (a:Option Addr) (n c:Nat) (l:List Nat) (hg:Has W g #[.slice a n c] 25) (hT:HX.Text W a n l) (hc:n≤c) (hx:∀ x,a=some x→x.block<W.heap.size) (hn:n<2 ^ 60) (h:HX.Tabled W):Calls Tryz.prog 26 #[.int .i64 d,.slice (some ⟨g,0,none⟩) 1 1] W fun e w'=>e=.returned (.agg (z01 (HSHT d l)).toArray)∧Below W.heap.size W w':=
  (HX.sum9 d W g a n c l hg hT hc hx hn h).mono fun e w' ⟨h1,h2⟩=>⟨by rw [h1,z1r];rfl,h2⟩
theorem zg1 {w:World} {b g:Nat} {d:Int} {v2 v3 v4 x y:Value} (h:Has w b #[.int .i64 d,.map (some g),v2,v3,v4] 61):((w.setCell ⟨b,2,none⟩ x).setCell ⟨b,3,none⟩ y).setCell ⟨b,4,none⟩ (.bool true)=w.setRow b #[.int .i64 d,.map (some g),x,y,.bool true]:=by
  have h1:=h.set 2 x
  have h2:=h1.set 3 y
  rw [setCell_eq_setRow _ b 4 _ _ _ _ h2,setCell_eq_setRow _ b 3 _ _ _ _ h1,setCell_eq_setRow _ b 2 _ _ _ _ h,setRow_setRow,setRow_setRow]
  rfl
set_option maxHeartbeats 4000000 in
theorem zeO (d:Int) (w:World) (base top b g:Nat) (ok:Nat→Prop) (T:List (List Nat)) (hM:MET w base top ok b g d T) (hT:T.length≤100000) (gt c:Nat) (t:List Nat) (ho:OWNT w base gt c t) (htop:top≤gt) (hok:ok gt) (hX:HX.Tabled w):
    Calls Tryz.prog 47 #[.pointer (some ⟨b,0,none⟩),.slice (some ⟨gt,0,none⟩) t.length c] w fun e w'=>e=.returned (.agg (z01 (HSHT d t)).toArray)∧MET w' base w.heap.size ok b g d (t :: T)∧STEPM b g w w':=by
  obtain ⟨n,hn⟩:∃ n,t.length=n:=⟨_,rfl⟩
  have iH:=z3U d t
  have R0:Aside (Below w.heap.size w (w.alloc (.cells ZARR 24))∧Has (w.alloc (.cells ZARR 24)) w.heap.size (z01 ZND).toArray 24):=⟨(Below.refl _ _).alloc (Nat.le_refl _) _,by rw [z1L];exact Has.new _ _ _⟩
  have HA:Aside (MET w base top ok b g d T∧T.length≤100000∧OWNT w base gt c t∧(top≤gt∧ok gt)∧HX.Tabled w∧IsH (HSHT d t)∧t.length=n):=⟨hM,hT,ho,⟨htop,hok⟩,hX,iH,hn⟩
  obtain ⟨a1,n1,c1,a2,n2,c2,h1, -⟩:=hM.blk
  rw [hn]
  obtain ⟨H,hH⟩:∃ H,HSHT d t=H:=⟨_,rfl⟩
  have lH:H.length=32:=by rw [← hH];exact iH.1
  have x0:(w.alloc (.cells ZARR 24)).cell? ⟨b,0,none⟩=some (.int .i64 d):=(h1.alloc _).cell 0
  rw [hH]
  clear hM hT ho htop hok hX iH hn h1
  go_enter Tryz.func47,Tryz.ntmps47
  go_upto_region 1 with fail
  rw [show (#[.int .u8 0,.int .u8 0,.int .u8 0,.int .u8 0,.int .u8 0,.int .u8 0,.int .u8 0,.int .u8 0,.int .u8 0,.int .u8 0,.int .u8 0,.int .u8 0,.int .u8 0,.int .u8 0,.int .u8 0,.int .u8 0,.int .u8 0,.int .u8 0,.int .u8 0,.int .u8 0,.int .u8 0,.int .u8 0,.int .u8 0,.int .u8 0,.int .u8 0,.int .u8 0,.int .u8 0,.int .u8 0,.int .u8 0,.int .u8 0,.int .u8 0,.int .u8 0]:Array Value)=ZARR from rfl]
  generalize w.alloc (.cells ZARR 24)=W0 at *
  have cs:Calls Tryz.prog 26 #[.int .i64 d,.slice (some ⟨W0.heap.size,0,none⟩) 1 1] (W0.alloc (.cells #[.slice (some ⟨gt,0,none⟩) n c] 25)) fun e w'=>e=.returned (.agg (z01 H).toArray)∧Below (W0.alloc (.cells #[.slice (some ⟨gt,0,none⟩) n c] 25)).heap.size (W0.alloc (.cells #[.slice (some ⟨gt,0,none⟩) n c] 25)) w':=by
    have hb1:Below w.heap.size w (W0.alloc (.cells #[.slice (some ⟨gt,0,none⟩) n c] 25)):=R0.out.1.alloc R0.out.1.size _
    have ho:=HA.out.2.2.1
    have hh:=HA.out.2.2.2.2.2.2
    have ht:=ho.text
    rw [hh] at ht
    have hcp:=ho.cap
    rw [hh] at hcp
    have k:=zhb d (W0.alloc (.cells #[.slice (some ⟨gt,0,none⟩) n c] 25)) W0.heap.size (some ⟨gt,0,none⟩) n c t (Has.new _ _ _) (ht.below hb1) hcp (fun x e=>by cases e;exact Nat.lt_of_lt_of_le ho.lt.2 hb1.size) (by have:=ho.2.2.2;omega) (HA.out.2.2.2.2.1.below hb1)
    rw [hH] at k
    exact k
  go_wp2_with fail
  refine cs.mono ?_
  rintro e w1 ⟨rfl,hb1⟩
  clear cs x0
  go_upto_region 2 with (first
    | (refine wpList_store_row rfl 24 (.tmp 5) (.tmp 14) rfl _ _ rfl rfl 24 _ (Has.new w1 _ _) (z02 lH) (by simp [z01,lH]) (z0m H) ?_;rw [World.setRow_alloc_new])
    | fail)
  obtain ⟨w2,hw2⟩:∃ w2,w1.alloc (.cells (z01 H).toArray 24)=w2:=⟨_,rfl⟩
  obtain ⟨bh,hbh⟩:∃ bh,w1.heap.size=bh:=⟨_,rfl⟩
  rw [hw2,hbh]
  have hb2:Below W0.heap.size W0 w2:=by rw [← hw2];exact (((Below.refl _ _).alloc (Nat.le_refl _) _).trans (hb1.mono (by simp))).alloc (by have:=hb1.size;simp at this;omega) _
  have kh:Has w2 bh (z01 H).toArray 24:=by rw [← hw2,← hbh];exact Has.new _ _ _
  have hbw:Below w.heap.size w w2:=R0.out.1.trans (hb2.mono R0.out.1.size)
  have kz:Has w2 w.heap.size (z01 ZND).toArray 24:=R0.out.2.keep hb2
  have hM2:=HA.out.1.below hbw
  have ho2:OWNT w2 base gt c t:=HA.out.2.2.1.at (hbw.block _ HA.out.2.2.1.lt.2)
  have hbz:w.heap.size<bh:=by have:=R0.out.2.lt;have:=hb1.size;simp at this;omega
  have iH:IsH H:=by rw [← hH];exact HA.out.2.2.2.2.2.1
  have hM2':=hM2
  have htp:=hM2.htop
  have hbb:=hM2.hb
  have hgg:=hM2.hg
  have htw:=HA.out.1.htop
  have R2:Aside (Below w.heap.size w w2∧Has w2 bh (z01 H).toArray 24∧Has w2 w.heap.size (z01 ZND).toArray 24∧MET w2 base top ok b g d T∧OWNT w2 base gt c t∧w.heap.size<bh∧b<w.heap.size∧g<w.heap.size∧b≠g):=⟨hbw,kh,kz,hM2,ho2,hbz,by omega,by omega,hM2.ne⟩
  obtain ⟨a3,n3,c3,a4,n4,c4,h3, -⟩:=hM2.blk
  have y1:w2.cell? ⟨b,1,none⟩=some (.map (some g)):=h3.cell 1
  clear hw2 hbh hb1 hb2 kh hbw kz hbz hM2 htp hbb hgg htw R0
  have fin:∀ (W:World),Has W bh (z01 H).toArray 24→Has W w.heap.size (z01 ZND).toArray 24→MET W base w.heap.size ok b g d (t :: T)→STEPM b g w W→MET (W.setRow w.heap.size (z01 H).toArray) base w.heap.size ok b g d (t :: T)∧STEPM b g w (W.setRow w.heap.size (z01 H).toArray)∧Has (W.setRow w.heap.size (z01 H).toArray) w.heap.size (z01 H).toArray 24:=fun W k1 k2 k3 k4=>
    ⟨k3.keep (fun k hk=>setRow_other W w.heap.size k _ (by omega)) (Nat.le_refl _) (by simpa using k3.htop),⟨k4.os,k4.tape,k4.output,by simpa using k4.size,fun k q1 q2 q3=>(setRow_other W w.heap.size k _ (by omega)).trans (k4.block k q1 q2 q3)⟩,k2.row _⟩
  have FIN:Aside (∀ (W:World),Has W bh (z01 H).toArray 24→Has W w.heap.size (z01 ZND).toArray 24→MET W base w.heap.size ok b g d (t :: T)→STEPM b g w W→MET (W.setRow w.heap.size (z01 H).toArray) base w.heap.size ok b g d (t :: T)∧STEPM b g w (W.setRow w.heap.size (z01 H).toArray)∧Has (W.setRow w.heap.size (z01 H).toArray) w.heap.size (z01 H).toArray 24):=fin
  clear fin
  have hdr:MET w2.drew base top ok b g d T:=hM2'.keep (w':=w2.drew) (fun _ _=>rfl) (Nat.le_refl _) hM2'.htop
  rcases hdr.look iH with ⟨gs,cs,s,f1,f2,f3,f4,f5,f6⟩ | ⟨f1,v,f6⟩
  ·
    refine zfl w2 b g bh n c (some ⟨gt,0,none⟩) H lH _ _ (fun W=>W=w2.drew) rfl (fun W e=>by subst e;exact ⟨y1,(World.rangeAt_drew _ _ _ _).2 (z0F R2.out.2.1),f6⟩) (fun _ _ _ _ _ h=>h) ?_
    intro W hWe
    dsimp only
    have kh:Has W bh (z01 H).toArray 24:=by rw [hWe];exact R2.out.2.1
    have kz:Has W w.heap.size (z01 ZND).toArray 24:=by rw [hWe];exact R2.out.2.2.1
    have hb2:Below w.heap.size w W:=by rw [hWe];exact R2.out.1.drew
    have ho3:OWNT W base gt c t:=by rw [hWe];exact R2.out.2.2.2.2.1.at rfl
    have hf2:OWNT W base gs cs s:=by rw [hWe];exact f2
    have hdw:MET W base top ok b g d T:=by rw [hWe];exact hdr
    clear hdr hWe
    have hdr:=hdw
    clear hdw
    have cq:=HX.z2W (some ⟨gs,0,none⟩) s.length cs s (some ⟨gt,0,none⟩) n c t W hf2.text (by have:=ho3.text;rw [HA.out.2.2.2.2.2.2] at this;exact this)
    have F:Aside (FST d T H=some s∧OWNT W base gs cs s∧(gs<top∧ok gs)∧gs≠b∧gs≠g):=⟨f1,hf2,f3,f4,f5⟩
    obtain ⟨ns,hns⟩:∃ ns,s.length=ns:=⟨_,rfl⟩
    rw [hns] at cq ⊢
    clear f1 f2 f3 f4 f5 f6 y1 hM2' ho2 hf2 h3
    by_cases est:s=t
    · rw [decide_eq_true est] at cq
      go_wp2_with fail
      refine cq.mono ?_
      rintro e w5 ⟨rfl,rfl⟩
      go_wp2_with (first
        | (refine wpList_load_row rfl 24 (.tmp 5) rfl bh rfl 24 (z01 H).toArray (0,0) _ kh Tryz.underlying24 rfl (z02 lH) ?_)
        | (refine wpList_store_row rfl 24 (.tmp 4) (.tmp 45) rfl _ _ rfl rfl 24 _ kz (z02 lH) (by simp [z01,lH];rfl) (z0m H) ?_)
        | fail)
      have hm:MET W base w.heap.size ok b g d (t :: T):=hdr.again (by rw [hH,F.out.1,est]) HA.out.1.htop hb2.size
      obtain ⟨q1,q2,q3⟩:=FIN.out W kh kz hm (STEPM.of_below hb2)
      refine bodyPost_ret (v:=.agg (z01 H).toArray) (z26 rfl _ _ w.heap.size 24 _ (0,0) _ _ rfl q3 Tryz.underlying24 (z02 lH)) rfl ⟨rfl,q1,q2⟩
    · rw [decide_eq_false est] at cq
      obtain ⟨a5,n5,c5,a6,n6,c6,h5, -⟩:=hdr.blk
      have hm:MET (W.setRow b #[.int .i64 d,.map (some g),.slice (some ⟨gs,0,none⟩) ns cs,.slice (some ⟨gt,0,none⟩) n c,.bool true]) base w.heap.size ok b g d (t :: T):=by
        have:=hdr.found (top':=w.heap.size) F.out.2.1 ho3 est (by rw [hH,F.out.1]) F.out.2.2.1 F.out.2.2.2.1 F.out.2.2.2.2 HA.out.2.2.2.1.1 HA.out.2.2.2.1.2 HA.out.2.2.1.lt.2 hb2.size
        rw [hns,HA.out.2.2.2.2.2.2] at this
        exact this
      have em:=zg1 (x:=.slice (some ⟨gs,0,none⟩) ns cs) (y:=.slice (some ⟨gt,0,none⟩) n c) h5
      have sm:STEPM b g w (W.setRow b #[.int .i64 d,.map (some g),.slice (some ⟨gs,0,none⟩) ns cs,.slice (some ⟨gt,0,none⟩) n c,.bool true]):=(STEPM.of_below hb2).trans (STEPM.setRow _ _)
      have x2:W.cell? ⟨b,2,none⟩=some (.slice a5 n5 c5):=h5.cell 2
      have x3:W.cell? ⟨b,3,none⟩=some (.slice a6 n6 c6):=h5.cell 3
      have x4:W.cell? ⟨b,4,none⟩=some (.bool (CLS d T).isSome):=h5.cell 4
      have z2:=h5.frozen 2
      have z3:=h5.frozen 3
      have z4:=h5.frozen 4
      have kh6:Has (W.setRow b #[.int .i64 d,.map (some g),.slice (some ⟨gs,0,none⟩) ns cs,.slice (some ⟨gt,0,none⟩) n c,.bool true]) bh (z01 H).toArray 24:=kh.row_other (by have:=R2.out.2.2.2.2.2;omega) _
      have kz6:Has (W.setRow b #[.int .i64 d,.map (some g),.slice (some ⟨gs,0,none⟩) ns cs,.slice (some ⟨gt,0,none⟩) n c,.bool true]) w.heap.size (z01 ZND).toArray 24:=kz.row_other (by have:=R2.out.2.2.2.2.2;omega) _
      clear h5 kh kz hdr
      go_wp2_with fail
      refine cq.mono ?_
      rintro e w5 ⟨rfl,rfl⟩
      clear cq
      go_upto_region 7 with fail
      obtain ⟨w6,hw6⟩:∃ w6,W.setRow b #[.int .i64 d,.map (some g),.slice (some ⟨gs,0,none⟩) ns cs,.slice (some ⟨gt,0,none⟩) n c,.bool true]=w6:=⟨_,rfl⟩
      rw [hw6] at hm sm kh6 kz6 ⊢
      clear hw6 em x2 x3 x4 z2 z3 z4
      go_wp2_with (first
        | (refine wpList_load_row rfl 24 (.tmp 5) rfl bh rfl 24 (z01 H).toArray (0,0) _ kh6 Tryz.underlying24 rfl (z02 lH) ?_)
        | (refine wpList_store_row rfl 24 (.tmp 4) (.tmp 45) rfl _ _ rfl rfl 24 _ kz6 (z02 lH) (by simp [z01,lH];rfl) (z0m H) ?_)
        | fail)
      obtain ⟨q1,q2,q3⟩:=FIN.out w6 kh6 kz6 hm sm
      refine bodyPost_ret (v:=.agg (z01 H).toArray) (z26 rfl _ _ w.heap.size 24 _ (0,0) _ _ rfl q3 Tryz.underlying24 (z02 lH)) rfl ⟨rfl,q1,q2⟩
  ·
    refine zfl w2 b g bh n c (some ⟨gt,0,none⟩) H lH _ _ (fun W=>W=w2.drew) rfl (fun W e=>by subst e;exact ⟨y1,(World.rangeAt_drew _ _ _ _).2 (z0F R2.out.2.1),f6⟩) (fun _ _ _ _ _ h=>h) ?_
    rintro W rfl
    dsimp only
    have hU:=(MET.keep (w':=w2.drew.drew) hdr (fun _ _=>rfl) (Nat.le_refl _) hdr.htop).store (top':=w.heap.size) HA.out.2.1 (R2.out.2.2.2.2.1.at (w':=w2.drew.drew) rfl) HA.out.2.2.2.1.1 HA.out.2.2.2.1.2 (by rw [hH,f1]) HA.out.2.2.1.lt.2 (by have:=R2.out.1.size;exact this)
    rw [hH,HA.out.2.2.2.2.2.2] at hU
    obtain ⟨w6,u1,u2,u3,u4⟩:=hU
    have hbhs:bh<w2.drew.drew.heap.size:=R2.out.2.1.lt
    have hne:=R2.out.2.2.2.2.2
    have hzs:w.heap.size<w2.drew.drew.heap.size:=R2.out.2.2.1.lt
    have kh6:Has w6 bh (z01 H).toArray 24:=(u4 bh hbhs (by omega)).trans R2.out.2.1
    have kz6:Has w6 w.heap.size (z01 ZND).toArray 24:=(u4 _ hzs (by omega)).trans R2.out.2.2.1
    have y6:w6.cell? ⟨b,1,none⟩=some (.map (some g)):=(World.cell?_of_block (w:=w2.drew.drew) (by exact u4 b (by omega) hne.2.2.2)).trans y1
    have sm:STEPM b g w w6:=(STEPM.of_below R2.out.1.drew.drew).trans u3
    go_upto_region 4 with fail
    refine zh9 w2.drew b g bh n c (some ⟨gt,0,none⟩) H lH (fun W=>W=w2.drew.drew) (fun W=>W=w6) rfl (fun W e=>by subst e;exact ⟨y1,(World.rangeAt_drew _ _ _ _).2 ((World.rangeAt_drew _ _ _ _).2 (z0F R2.out.2.1))⟩) (fun W e=>by subst e;exact ⟨y6,z0F kh6⟩) (fun W e=>by subst e;exact ⟨w6,u1,rfl⟩) (fun _ _ _ _ _ h=>h) ?_
    rintro W rfl
    dsimp only
    clear u1 u4 y6 y1 hne hzs hbhs f6 hdr hM2' h3
    go_wp2_with (first
      | (refine wpList_load_row rfl 24 (.tmp 5) rfl bh rfl 24 (z01 H).toArray (0,0) _ kh6 Tryz.underlying24 rfl (z02 lH) ?_)
      | (refine wpList_store_row rfl 24 (.tmp 4) (.tmp 45) rfl _ _ rfl rfl 24 _ kz6 (z02 lH) (by simp [z01,lH];rfl) (z0m H) ?_)
      | fail)
    obtain ⟨q1,q2,q3⟩:=FIN.out W kh6 kz6 u2 sm
    refine bodyPost_ret (v:=.agg (z01 H).toArray) (z26 rfl _ _ w.heap.size 24 _ (0,0) _ _ rfl q3 Tryz.underlying24 (z02 lH)) rfl ⟨rfl,q1,q2⟩
end Go.Proofs.YthpdlnbbbcgemaaGreatDoor

namespace Go.Proofs.YthpdlnbbbcgemaaGreatDoor
open Go.RowKit Go.Shelf
set_option maxRecDepth 100000
attribute [local go_sem] Oper.semAt_some
def BCK (m:Nat) (hm:0<m) (j:Nat):Fin m:=⟨m - 1 - j,by omega⟩
def z89 (l:List Int) (x:Nat):Array Value:=#[.int .i64 (x:Int),.agg (z01 (HSH l x)).toArray]
theorem z0I {s:Sem Value} {w w':World} {v:Value} (h:s.run Tryz.prog w=.ok v w'):(do pure (Next.value (← s)):Sem Next).run Tryz.prog w=.ok (.value v) w':=by
  simp [h]
theorem z4M {s:Sem Unit} {w w':World} (h:s.run Tryz.prog w=.ok () w'):(do s;pure Next.skip:Sem Next).run Tryz.prog w=.ok .skip w':=by
  simp [h]
theorem z2X {F:Fence} {n:Nat} {ops:Array Oper} {rest:List Oper} {o:Oper} {a:Act} {w:World} {Q:Exit→Act→World→Prop} (hg:o.guard=none) (ty:TypeId) (x:Operand) (ho:o.op=.load ty x) (b k:Nat) (hx:a.eval x=.pointer (some ⟨b,k,none⟩)) (h:List Int) (d:TypeDesc)
    (hc:w.rangeAt b k (z01 h)) (hu:Tryz.prog.underlying ty=some d) (hd:d.isRow=true) (hi:(Tryz.prog.info? ty).map (·.size)=some (z01 h).length) (hh:wpListIn F n Tryz.prog ops Q rest (a.put o.dst (.agg (z01 h).toArray)) w):wpListIn F n Tryz.prog ops Q (o :: rest) a w:=by
  refine wpListIn_plain hg fun K hK=>⟨fun f hf=>(by simp [Oper.about,ho] at hf),?_⟩
  rw [Oper.semAt_eq _ _ _ (by rw [ho];intro c h;cases h)]
  have e:(execOp a.eval o).run Tryz.prog w=.ok (.value (.agg (z01 h).toArray)) w:=by
    unfold execOp
    rw [ho]
    simp only [hx]
    exact z0I (run_loadAt_mid (P:=Tryz.prog) w b k ty _ d hc hu hd hi)
  rw [e]
  exact hK _ _ hh
set_option maxHeartbeats 2000000 in
theorem z84 (F:Fence) (n:Nat) (hF:F.fn 112) (hro:F.round=none) (hn:1≤n) (y Bs b o len cap:Nat) (l:List Int) (hl:l.length=32*len) (hlen:0<len) (hreach:len≤1000) (J Jx:List (Fin len)→World→Prop) (KB2:World→World→Prop) (hrefl:∀ W,KB2 W W) (htr:∀ {A B C:World},KB2 A B→KB2 B C→KB2 A C) (W:World)
    (hkb:∀ A,KB2 W A→A.cell? ⟨Bs,0,none⟩=some (.slice (some ⟨b,o,none⟩) len cap)∧∀ j,j<len→A.rangeAt b (o+j*32) (z01 (HSH l j)))
    (hY:∀ pre x W,J pre W→pre.length<len→YieldAt F (n - 1) Tryz.prog y (z89 l x.val) W fun e W'=>
      (e=.returned (.bool true)∧J (pre ++ [x]) W'∧KB2 W W')∨(e=.returned (.bool false)∧Jx (pre ++ [x]) W'))
    (h0:J [] W):
    CallsIn F n Tryz.prog 112 #[.func (.yield y) #[] #[],.pointer (some ⟨Bs,0,none⟩)] W fun e W'=>(∃ v,e=.returned v)∧
      ((∃ ys,ys=UPTO (BCK len hlen) len∧J ys W')∨(∃ pre,(∃ k,k≤len∧pre=UPTO (BCK len hlen) k)∧Jx pre W')):=by
  refine callsIn_of_wp Tryz.func112 rfl hF ?_ hro
  simp only [Tryz.ntmps112,List.size_toArray,List.length_cons,List.length_nil,Nat.reduceAdd,Nat.reduceSub,Array.replicate_succ,Array.replicate_zero,List.push_toArray,List.append_toArray,List.nil_append,List.cons_append]
  have e1:wrap64 ((len:Int) - 1)=(len:Int) - 1:=by unfold wrap64;omega
  have hc0:=(hkb W (hrefl W)).1
  gi_wp2
  clear hc0
  gi_loopw [3] (fun i wr=>∃ k:Nat,k≤len∧i=.int .i64 ((len:Int) - 1 - (k:Int))∧J (UPTO (BCK len hlen) k) wr∧KB2 W wr)
    (fun i _=>(intOf i+1).toNat)
  case atStart=>exact ⟨0,Nat.zero_le _,by simp,h0,hrefl W⟩
  case round=>
    obtain ⟨k,hk,rfl,hJs,hnx⟩:=hrel
    by_cases hlt:k<len
    · obtain ⟨j,hj⟩:∃ j:Nat,(len:Int) - 1 - (k:Int)=(j:Int):=⟨len - 1 - k,by omega⟩
      have hjl:j<len:=by omega
      have hbk:(BCK len hlen k).val=j:=by
        unfold BCK
        dsimp only
        omega
      obtain ⟨hcs,hcx⟩:=hkb wr hnx
      have hcx:=hcx j hjl
      have hl32:=z0U hl hjl
      obtain ⟨fn,tmps,assign,body,hy,hR⟩:=hY _ (BCK len hlen k) wr hJs (by rw [z3E];exact hlt)
      rw [hbk] at hy
      unfold z89 at hy
      generalize HSH l j=L at *
      rw [hj]
      have e2:wrap64 ((j:Int) - 1)=(j:Int) - 1:=by unfold wrap64;omega
      have hJ':Aside ((len:Int) - 1 - (k:Int)=(j:Int)):=hj
      have hjl':(j:Int)<(len:Int):=by omega
      have HK:Aside (k+1≤len):=hlt
      clear hj hlt hk hl hkb hY
      gi_wp2_with (first | (refine z2X rfl 24 (.tmp 15) rfl b (o+j*32) rfl L _ hcx Tryz.underlying24 rfl (z0f hl32) ?_) | fail)
      refine hR.mono ?_
      rintro e W3 (⟨rfl,hJ3,hk3⟩ | ⟨rfl,hJx3⟩)
      · gi_wp2
        go_roundw
        case rel=>exact ⟨k+1,HK.out,by have:=hJ'.out;congr 1;omega,by rw [z2f];exact hJ3,htr hnx hk3⟩
        case measure=>simp [intOf]
      · gi_wp2
        refine bodyPost_ret (results_none rfl _ _ _) rfl ?_
        exact ⟨⟨_,rfl⟩,.inr ⟨_,⟨k+1,HK.out,by rw [z2f]⟩,hJx3⟩⟩
    · obtain rfl:k=len:=by omega
      rw [show (k:Int) - 1 - (k:Int) = -1 by omega]
      clear hY hkb
      gi_wp2
      go_end0
      exact ⟨⟨_,rfl⟩,.inl ⟨_,rfl,hJs⟩⟩
set_option maxHeartbeats 1000000 in
theorem z92 (F:Fence) (n:Nat) (hF:F.fn 86) (hro:F.round=none) (a:Option Addr) (len cap:Nat) (w:World):
    CallsIn F n Tryz.prog 86 #[.slice a len cap] w fun e w'=>e=.returned (.func (.func 112) #[] #[.pointer (some ⟨w.heap.size,0,none⟩)])∧w'=w.alloc (.cells #[.slice a len cap] 40):=by
  refine callsIn_of_wp Tryz.func86 rfl hF ?_ hro
  simp only [Tryz.ntmps86,List.size_toArray,List.length_cons,List.length_nil,Nat.reduceAdd,Nat.reduceSub,Array.replicate_succ,Array.replicate_zero,List.push_toArray,List.append_toArray,List.nil_append,List.cons_append]
  gi_wp2
  go_ret
  exact ⟨rfl,rfl⟩
def KBH (Bs b:Nat) (A B:World):Prop:=B.heap[Bs]?=A.heap[Bs]?∧B.heap[b]?=A.heap[b]?
theorem KBH.t {Bs b:Nat} {A B C:World} (h:KBH Bs b A B) (k:KBH Bs b B C):KBH Bs b A C:=⟨k.1.trans h.1,k.2.trans h.2⟩
theorem KBH.b {Bs b:Nat} {w:World} (hB:Bs<w.heap.size) (hb:b<w.heap.size) (W:World) (l:Nat) (o o':Obj) (hl:w.heap.size≤l) (h:W.heap[l]?=some o) (h1:o.isCells=false) (h2:o.isWalk=false):KBH Bs b W (W.putObj l o'):=
  ⟨(belowK_b (Nat.le_refl w.heap.size) W l o o' hl h h1 h2).block Bs hB,(belowK_b (Nat.le_refl w.heap.size) W l o o' hl h h1 h2).block b hb⟩
theorem z6o (F:Fence) (n:Nat) (hF:F.fn 112) (hro:F.round=none) (hn:1≤n) (Bs b o len cap:Nat) (l:List Int) (hlen:0<len) (hreach:len≤1000) (w:World) (hBs:Bs<w.heap.size) (hl:Flat w (some ⟨b,o,none⟩) len l) (hb:b<w.heap.size)
    (hc:w.cell? ⟨Bs,0,none⟩=some (.slice (some ⟨b,o,none⟩) len cap)):
    SeqStopsK F n Tryz.prog 112 #[.pointer (some ⟨Bs,0,none⟩)] (fun x:Fin len=>z89 l x.val) (KBH Bs b) (fun ys=>ys=UPTO (BCK len hlen) len)
      (fun pre=>∃ k,k≤len∧pre=UPTO (BCK len hlen) k) len w:=fun y J Jx W hW _ _ hY h0=>
  z84 F n hF hro hn y Bs b o len cap l hl.1 hlen hreach J Jx (KBH Bs b) (fun _=>⟨rfl,rfl⟩) KBH.t W (fun A hA=>by
    have e1:A.heap[Bs]?=w.heap[Bs]?:=hA.1.trans (hW.block Bs hBs)
    have e2:A.heap[b]?=w.heap[b]?:=hA.2.trans (hW.block b hb)
    refine ⟨(World.cell?_of_block (w:=w) (by exact e1)).trans hc,fun j hj i v hv=>?_⟩
    rw [← hl.at hj i v hv]
    exact World.cell?_of_block (w:=w) (by exact e2)) hY h0
end Go.Proofs.YthpdlnbbbcgemaaGreatDoor
