/- Texts of ClashBlocks, one behind the other: HashStepEq, VerifyCount, VerifyUnder, VerifyRooted, ClashTake. -/
import Derived.Laws.StructEq
import Derived.Laws.BytesArg
import Derived.Lib.Bytes
import Derived.Test.YtbmjoiiagldklaaDoorClashBlocksP12
import Derived.Test.YtbmjoiiagldklaaDoorClashBlocksP14
import Derived.Test.YtbmjoiiagldklaaDoorClashBlocksP15
namespace Go.Proofs.YtbmjoiiagldklaaDoor.HX
open Go.RowKit
set_option maxRecDepth 100000
theorem z9p (k:IntKind) (n o m:Nat) (f:Nat→Nat) (h:o+m≤n):(UARR k n f).extract o (o+m)=UARR k m fun i=>f (o+i):=by
  apply Array.ext_getElem?
  intro i
  rw [Array.getElem?_extract]
  by_cases hi:i<m
  · rw [if_pos (by rw [z06];omega),z0f _ _ _ _ hi,z0f _ _ _ _ (by omega)]
  · rw [if_neg (by omega),Array.getElem?_eq_none (by rw [z06];omega)]
theorem z65 (d n:Nat) (t:TypeId) (hu:Tryd.prog.underlying t=some (.array n 5)) (F G:Nat→Nat) (w:World):(Op.equalIn (d+2) t (.agg (UARR .u8 n F)) (.agg (UARR .u8 n G))).run Tryd.prog w=.ok ((List.range n).all fun i=>F i == G i) w:=by
  obtain ⟨i8,hi,_⟩:=Option.map_eq_some_iff.1 z0U
  rw [run_equalIn_array (P:=Tryd.prog) w (d+1) (UARR .u8 n F) (UARR .u8 n G) hu hi]
  have hc:Tryd.prog.cellsOf 5=1:=by kernel_rfl
  rw [hc]
  exact z6i d n F G w _ (fun i hi=>by simpa using hi)
theorem z6V (t:TypeId) (n o m:Nat) (F:Nat→Nat) (w:World) (ha:(isAgg t).run Tryd.prog w=.ok true w) (hs:(Go.sizeOf t).run Tryd.prog w=.ok m w) (h:o+m≤n):(part t (UARR .u8 n F) o).run Tryd.prog w=.ok (.agg (UARR .u8 m fun i=>F (o+i))) w:=by
  unfold part
  simp [ha,hs,z9p _ _ _ _ _ h]
theorem z8b (a b:Nat) (p:Nat→Bool):(List.range (a+b)).all p=((List.range a).all p && (List.range b).all fun i=>p (a+i)):=by
  rw [List.range_add,List.all_append,List.all_map]
  rfl
theorem zfi (w:World):(isAgg 26).run Tryd.prog w=.ok true w:=by simp [go_sem]
theorem zdE (w:World):(isAgg 42).run Tryd.prog w=.ok true w:=by simp [go_sem]
theorem zdF (w:World):(Go.sizeOf 26).run Tryd.prog w=.ok 32 w:=by simp [go_sem]
theorem zca (w:World):(Go.sizeOf 42).run Tryd.prog w=.ok 64 w:=by simp [go_sem]
theorem z8c (d n:Nat) (F G:Nat→Nat) (w:World):∀ (fs:List Field) (ps:List (TypeId × Nat × Nat)),fs.map (fun f=>(f.name == "_",f.type,f.offset))=ps.map (fun p=>(false,p.1,p.2.1))→
    (∀ p∈ps,(isAgg p.1).run Tryd.prog w=.ok true w∧(Go.sizeOf p.1).run Tryd.prog w=.ok p.2.2 w∧Tryd.prog.underlying p.1=some (.array p.2.2 5)∧p.2.1+p.2.2≤n)→
    (Op.eqFields (d+2) (UARR .u8 n F) (UARR .u8 n G) fs).run Tryd.prog w=.ok (ps.all fun p=>(List.range p.2.2).all fun i=>F (p.2.1+i) == G (p.2.1+i)) w
  | [],[],_,_=>by simp [Op.eqFields]
  | f :: fs,p :: ps,h,hp=>by
    simp only [List.map_cons,List.cons.injEq,Prod.mk.injEq] at h
    obtain ⟨⟨h1,h2,h3⟩,h4⟩:=h
    obtain ⟨ha,hs,hu,hle⟩:=hp p (by simp)
    have ih:=z8c d n F G w fs ps h4 (fun q hq=>hp q (by simp [hq]))
    have hn:f.name ≠ "_":=by simpa using h1
    have q1:=z6V p.1 n p.2.1 p.2.2 F w ha hs hle
    have q2:=z6V p.1 n p.2.1 p.2.2 G w ha hs hle
    have q3:=z65 d p.2.2 p.1 hu (fun i=>F (p.2.1+i)) (fun i=>G (p.2.1+i)) w
    rw [Op.eqFields,if_pos hn,h2,h3]
    simp only [Sem.run_bind,q1,q2,q3,Result.andThen_ok]
    cases hb:(List.range p.2.2).all fun i=>F (p.2.1+i) == G (p.2.1+i)
    · simp [hb]
    · simp only [Bool.not_true,Bool.false_eq_true,if_false,ih,List.all_cons,hb,Bool.true_and]
  | [],_ :: _,h,_=>by simp at h
  | _ :: _,[],h,_=>by simp at h
theorem z9q:(Tryd.prog.fieldsOf 76).toList.map (fun f=>(f.name == "_",f.type,f.offset))=[(false,26,0),(false,42,32)]:=by kernel_rfl
theorem zam (F G:Nat→Nat) (w:World):(Op.equalIn 10000 76 (.agg (UARR .u8 96 F)) (.agg (UARR .u8 96 G))).run Tryd.prog w=.ok ((List.range 96).all fun i=>F i == G i) w:=by
  rw [run_equalIn_struct (P:=Tryd.prog) w 9999 76 _ _ (by kernel_rfl) (by kernel_rfl),z8c 9997 96 F G w _ [(26,0,32),(42,32,64)] z9q]
  · rw [z8b 32 64]
    simp
  · intro p hp
    simp only [List.mem_cons,List.not_mem_nil,or_false] at hp
    rcases hp with rfl | rfl
    · exact ⟨zfi w,zdF w,Tryd.underlying26,by decide⟩
    · exact ⟨zdE w,zca w,Tryd.underlying42,by decide⟩
def INP (s b:Nat→Nat) (i:Nat):Nat:=if i<32 then s i else b (i - 32)
def z0m (s t b c:Nat→Nat) (i:Nat):Nat:=if i<32 then s i else if i<64 then t (i - 32) else if i<128 then b (i - 64) else c (i - 128)
theorem zfj (n o m:Nat) (f s:Nat→Nat):((UARR .u8 m s).zipIdx.foldl (fun cs (x:Value × Nat)=>cs.setIfInBounds (o+x.2) x.1) (UARR .u8 n f))=UARR .u8 n fun j=>if o≤j∧j<o+m then s (j - o) else f j:=by
  have h:=Great.foldl_set o (UARR .u8 m s).toList 0 (UARR .u8 n f)
  rw [show ((UARR .u8 m s).zipIdx.foldl (fun cs (x:Value × Nat)=>cs.setIfInBounds (o+x.2) x.1) (UARR .u8 n f))=((UARR .u8 m s).toList.zipIdx 0).foldl (fun cs (x:Value × Nat)=>cs.setIfInBounds (o+x.2) x.1) (UARR .u8 n f) by rw [← Array.foldl_toList];simp]
  apply Array.ext_getElem?
  intro k
  rw [h.2 k]
  have hl:(UARR .u8 m s).toList.length=m:=by rw [Array.length_toList,z06]
  rw [hl,z06,Nat.add_zero]
  by_cases hk:k<n
  · rw [z0f _ _ _ _ hk,z0f _ _ _ _ hk]
    by_cases hi:o≤k∧k<o+m
    · rw [if_pos ⟨hi.1,hi.2,hk⟩,if_pos hi,Array.getElem?_toList,z0f _ _ _ _ (by omega)]
    · rw [if_neg (by omega),if_neg hi]
  · rw [if_neg (by omega),Array.getElem?_eq_none (by rw [z06];omega),Array.getElem?_eq_none (by rw [z06];omega)]
theorem z26 (place:Nat→Option (Nat × Nat)) (n i o m:Nat) (f s:Nat→Nat) (rest:List (Nat × Value)) (hp:place i=some (o,m)) (h:o+m≤n):
    Instr.fill place (UARR .u8 n f) ((i,.agg (UARR .u8 m s)) :: rest)=Instr.fill place (UARR .u8 n fun j=>if o≤j∧j<o+m then s (j - o) else f j) rest:=by
  rw [Instr.fill,hp]
  simp only [Value.cells,z06]
  rw [if_neg (by simp;omega),zfj]
theorem zan (s b:Nat→Nat):Tryd.prog.built 76 [(0,.agg (UARR .u8 32 s)),(1,.agg (UARR .u8 64 b))]=some (UARR .u8 96 (INP s b)):=by
  have e:∀ parts,Tryd.prog.built 76 parts=Instr.fill (fun i=>#[(0,32),(32,64)][i]?) (UARR .u8 96 fun _=>0) parts:=fun parts=>by kernel_rfl
  rw [e,z26 _ 96 0 0 32 _ _ _ rfl (by decide),z26 _ 96 1 32 64 _ _ _ rfl (by decide),Instr.fill]
  refine congrArg some (z0H fun i hi=>?_)
  unfold INP
  by_cases h:i<32
  · rw [if_neg (by omega),if_pos (by omega),if_pos h];rfl
  · rw [if_pos (by omega),if_neg h]
theorem zcb (s t b c:Nat→Nat):Tryd.prog.built 44 [(0,.agg (UARR .u8 32 s)),(1,.agg (UARR .u8 32 t)),(2,.agg (UARR .u8 64 b)),(3,.agg (UARR .u8 64 c))]=some (UARR .u8 192 (z0m s t b c)):=by
  have e:∀ parts,Tryd.prog.built 44 parts=Instr.fill (fun i=>#[(0,32),(32,32),(64,64),(128,64)][i]?) (UARR .u8 192 fun _=>0) parts:=fun parts=>by kernel_rfl
  rw [e,z26 _ 192 0 0 32 _ _ _ rfl (by decide),z26 _ 192 1 32 32 _ _ _ rfl (by decide),z26 _ 192 2 64 64 _ _ _ rfl (by decide),z26 _ 192 3 128 64 _ _ _ rfl (by decide),Instr.fill]
  refine congrArg some (z0H fun i hi=>?_)
  unfold z0m
  by_cases h:i<32
  · rw [if_neg (by omega),if_neg (by omega),if_neg (by omega),if_pos (by omega),if_pos h];rfl
  · by_cases h2:i<64
    · rw [if_neg (by omega),if_neg (by omega),if_pos (by omega),if_neg h,if_pos h2]
    · by_cases h3:i<128
      · rw [if_neg (by omega),if_pos (by omega),if_neg h,if_neg h2,if_pos h3]
      · rw [if_pos (by omega),if_neg h,if_neg h2,if_neg h3]
theorem zcc:Tryd.prog.built 44 []=some (UARR .u8 192 fun _=>0):=by kernel_rfl
theorem z5p {w:World} {a:Option Addr} {n:Nat} {l:List Nat} (h:Text w a n l) (c:Nat):(convert 30 9 (.slice a n c)).run Tryd.prog w=.ok (.string (strOfNums (INTS l))) w:=by
  rcases Nat.eq_zero_or_pos n with hn | hn
  · subst hn
    obtain rfl:l=[]:=List.eq_nil_of_length_eq_zero h.1
    rw [run_convert_bytes_string w 30 9 5 _ 0 c Tryd.underlying30 Tryd.underlying5 Tryd.underlying9]
    cases a <;> simp [Conv.bytesToString,loadCells]
    all_goals rfl
  · obtain ⟨b,o,rfl, -,hc⟩:=h.2.1 hn
    exact run_convert_bytes_arg (P:=Tryd.prog) w 30 5 Tryd.underlying30 Tryd.underlying5 b o n c (INTS l) (by simp [INTS,h.1]) (fun i hi=>by rw [hc i hi];simp [INTS,List.getD_eq_getElem?_getD];cases l[i]? <;> rfl) 9 Tryd.underlying9
theorem zdG {l k:List Nat} (hl:Small8 l) (hk:Small8 k):((strOfNums (INTS l)).toList == (strOfNums (INTS k)).toList)=decide (l=k):=by
  rw [Lib.strOfNums_toList,Lib.strOfNums_toList]
  have key:∀ (l k:List Nat),Small8 l→Small8 k→Lib.bytesOf (INTS l)=Lib.bytesOf (INTS k)→l=k:=by
    intro l
    induction l with
    | nil=>intro k _ _ h;cases k with | nil=>rfl | cons y k=>simp [Lib.bytesOf,INTS] at h
    | cons x l ih=>
      intro k h1 h2 h
      cases k with
      | nil=>simp [Lib.bytesOf,INTS] at h
      | cons y k=>
        simp only [Lib.bytesOf,INTS,List.map_cons,List.cons.injEq] at h
        have hx:=h1 x (by simp)
        have hy:=h2 y (by simp)
        have e:x=y:=by
          have:=congrArg UInt8.toNat h.1
          simp at this
          omega
        rw [e,ih k (fun z hz=>h1 z (by simp [hz])) (fun z hz=>h2 z (by simp [hz])) h.2]
  by_cases e:l=k
  · subst e;simp
  · have:Lib.bytesOf (INTS l)≠Lib.bytesOf (INTS k):=fun h=>e (key l k hl hk h)
    simp [e,this]
theorem z1U (a:Option Addr) (n c:Nat) (l:List Nat) (b:Option Addr) (m c':Nat) (k:List Nat) (w:World) (h1:Text w a n l) (h2:Text w b m k):Calls Tryd.prog 32 #[.slice a n c,.slice b m c'] w fun e w'=>e=.returned (.bool (decide (l=k)))∧w=w':=by
  have q1:=z5p h1 c
  have q2:=z5p h2 c'
  have q3:=zdG h1.2.2 h2.2.2
  clear h1 h2
  generalize strOfNums (INTS l)=S at *
  generalize strOfNums (INTS k)=T at *
  go_enter Tryd.func32,Tryd.ntmps32
  go_wp2
  go_ret
  exact ⟨rfl,rfl⟩
end Go.Proofs.YtbmjoiiagldklaaDoor.HX

namespace Go.Proofs.YtbmjoiiagldklaaDoor
open Go.RowKit
set_option maxRecDepth 100000
def BAGA (d:Int) (n k:Nat) (l:List Int):Int × List Int:=
  if 4611686018427387904<n then (30,ZND) else if k≠PC n then (70,ZND) else (0,z1A d n (FLD d l k))
theorem zga {d:Int} {n k:Nat} {l:List Int}:IsH (BAGA d n k l).2:=by
  unfold BAGA
  split
  · exact z5o
  · split
    · exact z5o
    · exact z9f _ _ _
theorem z3m {fn:Func} {p q:Tmp} {ty:TypeId} (h:fn.results=#[.cell p ty,.tmp q]) (tmps:Array Value) (w:World) (g:Nat) (t:TypeId) (cs:Array Value) (fr:Nat × Nat) (k:Nat) (el:TypeId) (v:Value)
    (hp:tmps.getD p undef=.pointer (some ⟨g,0,none⟩)) (hv:tmps.getD q undef=v) (hg:w.heap[g]?=some (.cells cs t fr))
    (hu:Tryd.prog.underlying ty=some (.array k el)) (hi:(Tryd.prog.info? ty).map (·.size)=some cs.size):
    (results fn tmps).run Tryd.prog w=.ok (.tuple #[.agg cs,v]) w:=by
  have hp':tmps[p]?.getD undef=.pointer (some ⟨g,0,none⟩):=by simpa using hp
  have hv':tmps[q]?.getD undef=v:=by simpa using hv
  simp [results,h,hp',hv',asAddr,run_loadVar_row w g t ty cs fr (.array k el) hg hu rfl hi]
set_option maxHeartbeats 4000000 in
theorem zdH (d:Int) (n:Nat) (hn:n<2 ^ 64) (a:Option Addr) (k c:Nat) (w:World) (h1':¬ (4611686018427387904:Int)<(n:Int)) (h2:¬ k=POP n):
    Calls Tryd.prog 21 #[.int .i64 d,.int .u64 (n:Int),.slice a k c] w fun e w'=>e=.returned (.tuple #[.agg (z00 ZND).toArray,.int .i64 70])∧Below w.heap.size w w':=by
  have R0:Aside (Below w.heap.size w (w.alloc (.cells ZARR 26))∧Has (w.alloc (.cells ZARR 26)) w.heap.size (z00 ZND).toArray 26):=⟨(Below.refl _ _).alloc (Nat.le_refl _) _,by rw [z3u];exact Has.new _ _ _⟩
  have cO:=z2O n hn (w.alloc (.cells ZARR 26))
  generalize POP n=pp at *
  have e2:¬ (k:Int)=(pp:Int):=by omega
  clear hn
  go_enter Tryd.func21,Tryd.ntmps21
  go_upto_region 3 with fail
  rw [show (#[.int .u8 0,.int .u8 0,.int .u8 0,.int .u8 0,.int .u8 0,.int .u8 0,.int .u8 0,.int .u8 0,.int .u8 0,.int .u8 0,.int .u8 0,.int .u8 0,.int .u8 0,.int .u8 0,.int .u8 0,.int .u8 0,.int .u8 0,.int .u8 0,.int .u8 0,.int .u8 0,.int .u8 0,.int .u8 0,.int .u8 0,.int .u8 0,.int .u8 0,.int .u8 0,.int .u8 0,.int .u8 0,.int .u8 0,.int .u8 0,.int .u8 0,.int .u8 0]:Array Value)=ZARR from rfl]
  generalize w.alloc (.cells ZARR 26)=W0 at *
  go_wp2_with fail
  refine cO.mono ?_
  rintro e w1 ⟨rfl,rfl⟩
  clear cO
  go_upto_region 4 with fail
  go_wp2_with (rw [show (#[.int .u8 0,.int .u8 0,.int .u8 0,.int .u8 0,.int .u8 0,.int .u8 0,.int .u8 0,.int .u8 0,.int .u8 0,.int .u8 0,.int .u8 0,.int .u8 0,.int .u8 0,.int .u8 0,.int .u8 0,.int .u8 0,.int .u8 0,.int .u8 0,.int .u8 0,.int .u8 0,.int .u8 0,.int .u8 0,.int .u8 0,.int .u8 0,.int .u8 0,.int .u8 0,.int .u8 0,.int .u8 0,.int .u8 0,.int .u8 0,.int .u8 0,.int .u8 0]:Array Value)=(z00 ZND).toArray from rfl];refine wpList_store_row rfl 26 (.tmp 6) (.tmp 16) rfl _ _ rfl rfl 26 _ R0.out.2 (z08 rfl) rfl (z0G ZND) ?_)
  refine bodyPost_ret (v:=.tuple #[.agg (z00 ZND).toArray,.int .i64 70]) (z3m rfl _ _ w.heap.size 26 _ (0,0) _ _ _ rfl rfl (Has.row R0.out.2 _) Tryd.underlying26 (z08 rfl)) rfl ⟨rfl,z0q R0.out.1 (Nat.le_refl _) _⟩
end Go.Proofs.YtbmjoiiagldklaaDoor

namespace Go.Proofs.YtbmjoiiagldklaaDoor
open Go.RowKit
set_option maxRecDepth 100000
set_option maxHeartbeats 4000000 in
theorem ziD (d:Int) (n:Nat) (hn:n<2 ^ 64) (a:Option Addr) (k c:Nat) (l:List Int) (w:World) (hF:Flat w a k l) (hX:HX.Tabled w):
    Calls Tryd.prog 21 #[.int .i64 d,.int .u64 (n:Int),.slice a k c] w fun e w'=>e=.returned (.tuple #[.agg (z00 (BAGA d n k l).2).toArray,.int .i64 (BAGA d n k l).1])∧Below w.heap.size w w':=by
  have R0:Aside (Below w.heap.size w (w.alloc (.cells ZARR 26))∧Has (w.alloc (.cells ZARR 26)) w.heap.size (z00 ZND).toArray 26):=⟨(Below.refl _ _).alloc (Nat.le_refl _) _,by rw [z3u];exact Has.new _ _ _⟩
  have HA:Aside (Flat w a k l∧HX.Tabled w∧n<2 ^ 64):=⟨hF,hX,hn⟩
  clear hF hX
  by_cases h1:4611686018427387904<n
  · have e:BAGA d n k l=(30,ZND):=if_pos h1
    rw [e]
    have h1':(4611686018427387904:Int)<(n:Int):=by omega
    clear e HA hn
    go_enter Tryd.func21,Tryd.ntmps21
    go_upto_region 2 with fail
    rw [show (#[.int .u8 0,.int .u8 0,.int .u8 0,.int .u8 0,.int .u8 0,.int .u8 0,.int .u8 0,.int .u8 0,.int .u8 0,.int .u8 0,.int .u8 0,.int .u8 0,.int .u8 0,.int .u8 0,.int .u8 0,.int .u8 0,.int .u8 0,.int .u8 0,.int .u8 0,.int .u8 0,.int .u8 0,.int .u8 0,.int .u8 0,.int .u8 0,.int .u8 0,.int .u8 0,.int .u8 0,.int .u8 0,.int .u8 0,.int .u8 0,.int .u8 0,.int .u8 0]:Array Value)=ZARR from rfl]
    generalize w.alloc (.cells ZARR 26)=W0 at *
    go_wp2_with (rw [show (#[.int .u8 0,.int .u8 0,.int .u8 0,.int .u8 0,.int .u8 0,.int .u8 0,.int .u8 0,.int .u8 0,.int .u8 0,.int .u8 0,.int .u8 0,.int .u8 0,.int .u8 0,.int .u8 0,.int .u8 0,.int .u8 0,.int .u8 0,.int .u8 0,.int .u8 0,.int .u8 0,.int .u8 0,.int .u8 0,.int .u8 0,.int .u8 0,.int .u8 0,.int .u8 0,.int .u8 0,.int .u8 0,.int .u8 0,.int .u8 0,.int .u8 0,.int .u8 0]:Array Value)=(z00 ZND).toArray from rfl];refine wpList_store_row rfl 26 (.tmp 6) (.tmp 10) rfl _ _ rfl rfl 26 _ R0.out.2 (z08 rfl) rfl (z0G ZND) ?_)
    refine bodyPost_ret (v:=.tuple #[.agg (z00 ZND).toArray,.int .i64 30]) (z3m rfl _ _ w.heap.size 26 _ (0,0) _ _ _ rfl rfl (Has.row R0.out.2 _) Tryd.underlying26 (z08 rfl)) rfl ⟨rfl,z0q R0.out.1 (Nat.le_refl _) _⟩
  have h1':¬ (4611686018427387904:Int)<(n:Int):=by omega
  have hpop:=z6z hn
  by_cases h2:k=PC n
  · have e:BAGA d n k l=(0,z1A d n (FLD d l k)):=by unfold BAGA;rw [if_neg h1,if_neg (by simpa using h2)]
    rw [e]
    have hk:Aside (k≤64):=by have:=z21 64 n hn;show k≤64;omega
    have e2:(k:Int)=((POP n:Nat):Int):=by rw [hpop,h2]
    clear e h2 hpop h1
    go_enter Tryd.func21,Tryd.ntmps21
    go_upto_region 3 with fail
    rw [show (#[.int .u8 0,.int .u8 0,.int .u8 0,.int .u8 0,.int .u8 0,.int .u8 0,.int .u8 0,.int .u8 0,.int .u8 0,.int .u8 0,.int .u8 0,.int .u8 0,.int .u8 0,.int .u8 0,.int .u8 0,.int .u8 0,.int .u8 0,.int .u8 0,.int .u8 0,.int .u8 0,.int .u8 0,.int .u8 0,.int .u8 0,.int .u8 0,.int .u8 0,.int .u8 0,.int .u8 0,.int .u8 0,.int .u8 0,.int .u8 0,.int .u8 0,.int .u8 0]:Array Value)=ZARR from rfl]
    generalize w.alloc (.cells ZARR 26)=W0 at *
    go_wp2_with fail
    refine (z2O n hn W0).mono ?_
    rintro e w1 ⟨rfl,rfl⟩
    go_wp2_with fail
    refine (zdy d a k c (by have:=hk.out;omega) l W0 (HA.out.1.below R0.out.1) (HA.out.2.1.below R0.out.1)).mono ?_
    rintro e w1 ⟨rfl,hb⟩
    have R1:Aside (Below w.heap.size w w1∧Has w1 w.heap.size (z00 ZND).toArray 26):=⟨R0.out.1.trans (hb.mono R0.out.1.size),R0.out.2.keep hb⟩
    clear hb R0
    have hI:=z9j (d:=d) HA.out.1.1 HA.out.1.2.2
    go_wp2_with fail
    refine (zfa d n hn (FLD d l k) hI w1 (HA.out.2.1.below R1.out.1)).mono ?_
    rintro e w2 ⟨rfl,hb⟩
    have R2:Aside (Below w.heap.size w w2∧Has w2 w.heap.size (z00 ZND).toArray 26):=⟨R1.out.1.trans (hb.mono R1.out.1.size),R1.out.2.keep hb⟩
    clear hb R1 hI
    have y32:=(z9f d n (FLD d l k)).1
    generalize hY:z1A d n (FLD d l k)=Y at *
    go_wp2_with (refine wpList_store_row rfl 26 (.tmp 6) (.tmp 22) rfl _ _ rfl rfl 26 _ R2.out.2 (z08 y32) (by simp [z00,y32];rfl) (z0G Y) ?_)
    refine bodyPost_ret (v:=.tuple #[.agg (z00 Y).toArray,.int .i64 0]) (z3m rfl _ _ w.heap.size 26 _ (0,0) _ _ _ rfl rfl (Has.row R2.out.2 _) Tryd.underlying26 (z08 y32)) rfl ⟨by rw [hY],z0q R2.out.1 (Nat.le_refl _) _⟩
  · have e:BAGA d n k l=(70,ZND):=by unfold BAGA;rw [if_neg h1,if_pos h2]
    rw [e]
    exact zdH d n hn a k c w h1' (by rw [hpop];exact h2)
end Go.Proofs.YtbmjoiiagldklaaDoor

namespace Go.Proofs.YtbmjoiiagldklaaDoor
open Go.RowKit
set_option maxRecDepth 100000
theorem ziE {a b:List Int} (ha:IsH a) (hb:IsH b) (w:World):(Op.equalIn 10000 26 (.agg (z00 a).toArray) (.agg (z00 b).toArray)).run Tryd.prog w=.ok (decide (a=b)) w:=by
  rw [z0P ha,z0P hb,HX.z1p]
  congr 1
  by_cases e:a=b
  · subst e
    simp
  · rw [decide_eq_false e]
    refine Bool.eq_false_iff.2 fun h=>e ?_
    have h':∀ i∈List.range 32,FNC a i=FNC b i:=fun i hi=>by simpa using List.all_eq_true.1 h i hi
    have h2:LST (FNC a)=LST (FNC b):=by
      unfold LST
      exact List.map_congr_left fun i hi=>by rw [h' i hi]
    rwa [z7s ha,z7s hb] at h2
theorem z0C {ops:Array Oper} {rest:List Oper} {o:Oper} {a:Act} {w:World} {Q:Exit→Act→World→Prop} (hw:Region.wanted o (yielded ops a.tmps)=true) (ty:TypeId) (x:Operand) (ho:o.op=.load ty x) (n:Nat) (e:TypeId)
    (b:Nat) (hx:a.eval x=.pointer (some ⟨b,0,none⟩)) (t:TypeId) (cs:Array Value) (fr:Nat × Nat) (hb:w.heap[b]?=some (.cells cs t fr)) (hu:Tryd.prog.underlying ty=some (.array n e)) (hi:(Tryd.prog.info? ty).map (·.size)=some cs.size)
    (h:wpList Tryd.prog ops Q rest (a.put o.dst (.agg cs)) w):wpList Tryd.prog ops Q (o :: rest) a w:=by
  simp only [wpList]
  rw [if_pos hw]
  exact .inl (wp_load_row ty x ho b hx t cs fr (.array n e) hb hu rfl hi h)
def UNDA (d:Int) (n k:Nat) (l root:List Int):Int:=if (BAGA d n k l).1=0∧(BAGA d n k l).2=root then 0 else 80
set_option maxHeartbeats 4000000 in
theorem zdI (d:Int) (n:Nat) (hn:n<2 ^ 64) (a:Option Addr) (k c:Nat) (l root:List Int) (hroot:IsH root) (w:World) (hF:Flat w a k l) (hX:HX.Tabled w):
    Calls Tryd.prog 30 #[.int .i64 d,.int .u64 (n:Int),.slice a k c,.agg (z00 root).toArray] w fun e w'=>e=.returned (.int .i64 (UNDA d n k l root))∧Below w.heap.size w w':=by
  have R0:Aside (Below w.heap.size w (w.alloc (.cells (z00 root).toArray 26))∧Has (w.alloc (.cells (z00 root).toArray 26)) w.heap.size (z00 root).toArray 26):=⟨(Below.refl _ _).alloc (Nat.le_refl _) _,Has.new _ _ _⟩
  have cB:=ziD d n hn a k c l (w.alloc (.cells (z00 root).toArray 26)) (hF.below R0.out.1) (hX.below R0.out.1)
  have hI:=zga (d:=d) (n:=n) (k:=k) (l:=l)
  have r32:=hroot.1
  have y32:=hI.1
  clear hF hX hn
  have HU:Aside (UNDA d n k l root=if (BAGA d n k l).1=0∧(BAGA d n k l).2=root then 0 else 80):=rfl
  generalize UNDA d n k l root=U at *
  generalize BAGA d n k l=B at *
  obtain ⟨E,Y⟩:=B
  dsimp only at *
  have HV:Aside ((E=0→Y=root→U=0)∧(¬ Y=root→U=80)∧(¬ E=0→U=80)):=⟨fun h1 h2=>HU.out.trans (if_pos ⟨h1,h2⟩),fun h=>HU.out.trans (if_neg fun g=>h g.2),fun h=>HU.out.trans (if_neg fun g=>h g.1)⟩
  clear HU
  go_enter Tryd.func30,Tryd.ntmps30
  go_upto_region 1 with fail
  generalize w.alloc (.cells (z00 root).toArray 26)=W0 at *
  go_wp2_with fail
  refine cB.mono ?_
  rintro e w1 ⟨rfl,hb⟩
  clear cB
  have R1:Aside (Below w.heap.size w (w1.alloc (.cells (z00 Y).toArray 26))∧Has (w1.alloc (.cells (z00 Y).toArray 26)) w.heap.size (z00 root).toArray 26∧Has (w1.alloc (.cells (z00 Y).toArray 26)) w1.heap.size (z00 Y).toArray 26):=⟨(R0.out.1.trans (hb.mono R0.out.1.size)).alloc (R0.out.1.trans (hb.mono R0.out.1.size)).size _,(R0.out.2.keep hb).alloc _,Has.new _ _ _⟩
  clear hb R0
  go_upto_region 2 with (first
    | (refine wpList_store_row rfl 26 (.tmp 9) (.tmp 16) rfl _ _ rfl rfl 26 _ (Has.new w1 _ _) (z08 y32) (by simp [z00,y32]) (z0G Y) ?_;rw [World.setRow_alloc_new])
    | fail)
  generalize w1.alloc (.cells (z00 Y).toArray 26)=W1 at *
  generalize w1.heap.size=b9 at *
  clear w1 W0
  have hb:=R1.out.1
  have h7:=R1.out.2.1
  have h9:=R1.out.2.2
  clear R1
  by_cases hE:E=0
  · subst hE
    have hq:=ziE hI hroot
    by_cases hY:Y=root
    · have HY:Aside (Y=root):=hY
      rw [decide_eq_true hY] at hq
      clear hI hroot hY
      go_wp2_with (first
        | (refine z0C (by rfl) 26 (.tmp 9) rfl 32 5 b9 rfl 26 (z00 Y).toArray (0,0) h9 Tryd.underlying26 (z08 y32) ?_)
        | (refine z0C (by rfl) 26 (.tmp 7) rfl 32 5 w.heap.size rfl 26 (z00 root).toArray (0,0) h7 Tryd.underlying26 (z08 r32) ?_)
        | fail)
      go_ret
      exact ⟨by rw [HV.out.1 (by simp) HY.out];rfl,hb⟩
    · have HY:Aside (¬ Y=root):=hY
      rw [decide_eq_false hY] at hq
      clear hI hroot hY
      go_wp2_with (first
        | (refine z0C (by rfl) 26 (.tmp 9) rfl 32 5 b9 rfl 26 (z00 Y).toArray (0,0) h9 Tryd.underlying26 (z08 y32) ?_)
        | (refine z0C (by rfl) 26 (.tmp 7) rfl 32 5 w.heap.size rfl 26 (z00 root).toArray (0,0) h7 Tryd.underlying26 (z08 r32) ?_)
        | fail)
      go_ret
      exact ⟨by rw [HV.out.2.1 HY.out];rfl,hb⟩
  · have HE:Aside (¬ E=0):=hE
    clear hI hroot h7 h9
    go_wp2_with fail
    go_ret
    exact ⟨by rw [HV.out.2.2 HE.out];rfl,hb⟩
end Go.Proofs.YtbmjoiiagldklaaDoor

namespace Go.Proofs.YtbmjoiiagldklaaDoor
open Go.RowKit
set_option maxRecDepth 100000
theorem zjn (d:Int) (W:World) (g:Nat) (a:Option Addr) (n c:Nat) (l:List Nat) (hg:Has W g #[.slice a n c] 30) (hT:HX.Text W a n l) (hc:n≤c) (hx:∀ x,a=some x→x.block<W.heap.size) (hn:n<2 ^ 60) (h:HX.Tabled W):Calls Tryd.prog 27 #[.int .i64 d,.slice (some ⟨g,0,none⟩) 1 1] W fun e w'=>e=.returned (.agg (z00 (HSHT d l)).toArray)∧Below W.heap.size W w':=
  (HX.sum9 d W g a n c l hg hT hc hx hn h).mono fun e w' ⟨h1,h2⟩=>⟨by rw [h1,z2g];rfl,h2⟩
theorem zgb {w:World} {b g:Nat} {d:Int} {v2 v3 v4 x y:Value} (h:Has w b #[.int .i64 d,.map (some g),v2,v3,v4] 59):((w.setCell ⟨b,2,none⟩ x).setCell ⟨b,3,none⟩ y).setCell ⟨b,4,none⟩ (.bool true)=w.setRow b #[.int .i64 d,.map (some g),x,y,.bool true]:=by
  have h1:=h.set 2 x
  have h2:=h1.set 3 y
  rw [setCell_eq_setRow _ b 4 _ _ _ _ h2,setCell_eq_setRow _ b 3 _ _ _ _ h1,setCell_eq_setRow _ b 2 _ _ _ _ h,setRow_setRow,setRow_setRow]
  rfl
set_option maxHeartbeats 4000000 in
theorem zfk (d:Int) (w:World) (base top b g:Nat) (ok:Nat→Prop) (T:List (List Nat)) (hM:MET w base top ok b g d T) (hT:T.length≤100000) (gt c:Nat) (t:List Nat) (ho:OWNT w base gt c t) (htop:top≤gt) (hok:ok gt) (hX:HX.Tabled w):
    Calls Tryd.prog 49 #[.pointer (some ⟨b,0,none⟩),.slice (some ⟨gt,0,none⟩) t.length c] w fun e w'=>e=.returned (.agg (z00 (HSHT d t)).toArray)∧MET w' base w.heap.size ok b g d (t :: T)∧STEPM b g w w':=by
  obtain ⟨n,hn⟩:∃ n,t.length=n:=⟨_,rfl⟩
  have iH:=z3w d t
  have R0:Aside (Below w.heap.size w (w.alloc (.cells ZARR 26))∧Has (w.alloc (.cells ZARR 26)) w.heap.size (z00 ZND).toArray 26):=⟨(Below.refl _ _).alloc (Nat.le_refl _) _,by rw [z3u];exact Has.new _ _ _⟩
  have HA:Aside (MET w base top ok b g d T∧T.length≤100000∧OWNT w base gt c t∧(top≤gt∧ok gt)∧HX.Tabled w∧IsH (HSHT d t)∧t.length=n):=⟨hM,hT,ho,⟨htop,hok⟩,hX,iH,hn⟩
  obtain ⟨a1,n1,c1,a2,n2,c2,h1, -⟩:=hM.blk
  rw [hn]
  obtain ⟨H,hH⟩:∃ H,HSHT d t=H:=⟨_,rfl⟩
  have lH:H.length=32:=by rw [← hH];exact iH.1
  have x0:(w.alloc (.cells ZARR 26)).cell? ⟨b,0,none⟩=some (.int .i64 d):=(h1.alloc _).cell 0
  rw [hH]
  clear hM hT ho htop hok hX iH hn h1
  go_enter Tryd.func49,Tryd.ntmps49
  go_upto_region 1 with fail
  rw [show (#[.int .u8 0,.int .u8 0,.int .u8 0,.int .u8 0,.int .u8 0,.int .u8 0,.int .u8 0,.int .u8 0,.int .u8 0,.int .u8 0,.int .u8 0,.int .u8 0,.int .u8 0,.int .u8 0,.int .u8 0,.int .u8 0,.int .u8 0,.int .u8 0,.int .u8 0,.int .u8 0,.int .u8 0,.int .u8 0,.int .u8 0,.int .u8 0,.int .u8 0,.int .u8 0,.int .u8 0,.int .u8 0,.int .u8 0,.int .u8 0,.int .u8 0,.int .u8 0]:Array Value)=ZARR from rfl]
  generalize w.alloc (.cells ZARR 26)=W0 at *
  have cs:Calls Tryd.prog 27 #[.int .i64 d,.slice (some ⟨W0.heap.size,0,none⟩) 1 1] (W0.alloc (.cells #[.slice (some ⟨gt,0,none⟩) n c] 30)) fun e w'=>e=.returned (.agg (z00 H).toArray)∧Below (W0.alloc (.cells #[.slice (some ⟨gt,0,none⟩) n c] 30)).heap.size (W0.alloc (.cells #[.slice (some ⟨gt,0,none⟩) n c] 30)) w':=by
    have hb1:Below w.heap.size w (W0.alloc (.cells #[.slice (some ⟨gt,0,none⟩) n c] 30)):=R0.out.1.alloc R0.out.1.size _
    have ho:=HA.out.2.2.1
    have hh:=HA.out.2.2.2.2.2.2
    have ht:=ho.text
    rw [hh] at ht
    have hcp:=ho.cap
    rw [hh] at hcp
    have k:=zjn d (W0.alloc (.cells #[.slice (some ⟨gt,0,none⟩) n c] 30)) W0.heap.size (some ⟨gt,0,none⟩) n c t (Has.new _ _ _) (ht.below hb1) hcp (fun x e=>by cases e;exact Nat.lt_of_lt_of_le ho.lt.2 hb1.size) (by have:=ho.2.2.2;omega) (HA.out.2.2.2.2.1.below hb1)
    rw [hH] at k
    exact k
  go_wp2_with fail
  refine cs.mono ?_
  rintro e w1 ⟨rfl,hb1⟩
  clear cs x0
  go_upto_region 2 with (first
    | (refine wpList_store_row rfl 26 (.tmp 5) (.tmp 14) rfl _ _ rfl rfl 26 _ (Has.new w1 _ _) (z08 lH) (by simp [z00,lH]) (z0G H) ?_;rw [World.setRow_alloc_new])
    | fail)
  obtain ⟨w2,hw2⟩:∃ w2,w1.alloc (.cells (z00 H).toArray 26)=w2:=⟨_,rfl⟩
  obtain ⟨bh,hbh⟩:∃ bh,w1.heap.size=bh:=⟨_,rfl⟩
  rw [hw2,hbh]
  have hb2:Below W0.heap.size W0 w2:=by rw [← hw2];exact (((Below.refl _ _).alloc (Nat.le_refl _) _).trans (hb1.mono (by simp))).alloc (by have:=hb1.size;simp at this;omega) _
  have kh:Has w2 bh (z00 H).toArray 26:=by rw [← hw2,← hbh];exact Has.new _ _ _
  have hbw:Below w.heap.size w w2:=R0.out.1.trans (hb2.mono R0.out.1.size)
  have kz:Has w2 w.heap.size (z00 ZND).toArray 26:=R0.out.2.keep hb2
  have hM2:=HA.out.1.below hbw
  have ho2:OWNT w2 base gt c t:=HA.out.2.2.1.at (hbw.block _ HA.out.2.2.1.lt.2)
  have hbz:w.heap.size<bh:=by have:=R0.out.2.lt;have:=hb1.size;simp at this;omega
  have iH:IsH H:=by rw [← hH];exact HA.out.2.2.2.2.2.1
  have hM2':=hM2
  have htp:=hM2.htop
  have hbb:=hM2.hb
  have hgg:=hM2.hg
  have htw:=HA.out.1.htop
  have R2:Aside (Below w.heap.size w w2∧Has w2 bh (z00 H).toArray 26∧Has w2 w.heap.size (z00 ZND).toArray 26∧MET w2 base top ok b g d T∧OWNT w2 base gt c t∧w.heap.size<bh∧b<w.heap.size∧g<w.heap.size∧b≠g):=⟨hbw,kh,kz,hM2,ho2,hbz,by omega,by omega,hM2.ne⟩
  obtain ⟨a3,n3,c3,a4,n4,c4,h3, -⟩:=hM2.blk
  have y1:w2.cell? ⟨b,1,none⟩=some (.map (some g)):=h3.cell 1
  clear hw2 hbh hb1 hb2 kh hbw kz hbz hM2 htp hbb hgg htw R0
  have fin:∀ (W:World),Has W bh (z00 H).toArray 26→Has W w.heap.size (z00 ZND).toArray 26→MET W base w.heap.size ok b g d (t :: T)→STEPM b g w W→MET (W.setRow w.heap.size (z00 H).toArray) base w.heap.size ok b g d (t :: T)∧STEPM b g w (W.setRow w.heap.size (z00 H).toArray)∧Has (W.setRow w.heap.size (z00 H).toArray) w.heap.size (z00 H).toArray 26:=fun W k1 k2 k3 k4=>
    ⟨k3.keep (fun k hk=>setRow_other W w.heap.size k _ (by omega)) (Nat.le_refl _) (by simpa using k3.htop),⟨k4.os,k4.tape,k4.output,by simpa using k4.size,fun k q1 q2 q3=>(setRow_other W w.heap.size k _ (by omega)).trans (k4.block k q1 q2 q3)⟩,k2.row _⟩
  have FIN:Aside (∀ (W:World),Has W bh (z00 H).toArray 26→Has W w.heap.size (z00 ZND).toArray 26→MET W base w.heap.size ok b g d (t :: T)→STEPM b g w W→MET (W.setRow w.heap.size (z00 H).toArray) base w.heap.size ok b g d (t :: T)∧STEPM b g w (W.setRow w.heap.size (z00 H).toArray)∧Has (W.setRow w.heap.size (z00 H).toArray) w.heap.size (z00 H).toArray 26):=fin
  clear fin
  have hdr:MET w2.drew base top ok b g d T:=hM2'.keep (w':=w2.drew) (fun _ _=>rfl) (Nat.le_refl _) hM2'.htop
  rcases hdr.look iH with ⟨gs,cs,s,f1,f2,f3,f4,f5,f6⟩ | ⟨f1,v,f6⟩
  ·
    refine zfB w2 b g bh n c (some ⟨gt,0,none⟩) H lH _ _ (fun W=>W=w2.drew) rfl (fun W e=>by subst e;exact ⟨y1,(World.rangeAt_drew _ _ _ _).2 (z0v R2.out.2.1),f6⟩) (fun _ _ _ _ _ h=>h) ?_
    intro W hWe
    dsimp only
    have kh:Has W bh (z00 H).toArray 26:=by rw [hWe];exact R2.out.2.1
    have kz:Has W w.heap.size (z00 ZND).toArray 26:=by rw [hWe];exact R2.out.2.2.1
    have hb2:Below w.heap.size w W:=by rw [hWe];exact R2.out.1.drew
    have ho3:OWNT W base gt c t:=by rw [hWe];exact R2.out.2.2.2.2.1.at rfl
    have hf2:OWNT W base gs cs s:=by rw [hWe];exact f2
    have hdw:MET W base top ok b g d T:=by rw [hWe];exact hdr
    clear hdr hWe
    have hdr:=hdw
    clear hdw
    have cq:=HX.z1U (some ⟨gs,0,none⟩) s.length cs s (some ⟨gt,0,none⟩) n c t W hf2.text (by have:=ho3.text;rw [HA.out.2.2.2.2.2.2] at this;exact this)
    have F:Aside (FST d T H=some s∧OWNT W base gs cs s∧(gs<top∧ok gs)∧gs≠b∧gs≠g):=⟨f1,hf2,f3,f4,f5⟩
    obtain ⟨ns,hns⟩:∃ ns,s.length=ns:=⟨_,rfl⟩
    rw [hns] at cq ⊢
    clear f1 f2 f3 f4 f5 f6 y1 hM2' ho2 hf2 h3
    by_cases est:s=t
    · rw [decide_eq_true est] at cq
      go_wp2_with fail
      refine cq.mono ?_
      rintro e w5 ⟨rfl,rfl⟩
      go_wp2_with (first
        | (refine wpList_load_row rfl 26 (.tmp 5) rfl bh rfl 26 (z00 H).toArray (0,0) _ kh Tryd.underlying26 rfl (z08 lH) ?_)
        | (refine wpList_store_row rfl 26 (.tmp 4) (.tmp 45) rfl _ _ rfl rfl 26 _ kz (z08 lH) (by simp [z00,lH];rfl) (z0G H) ?_)
        | fail)
      have hm:MET W base w.heap.size ok b g d (t :: T):=hdr.again (by rw [hH,F.out.1,est]) HA.out.1.htop hb2.size
      obtain ⟨q1,q2,q3⟩:=FIN.out W kh kz hm (STEPM.of_below hb2)
      refine bodyPost_ret (v:=.agg (z00 H).toArray) (z1O rfl _ _ w.heap.size 26 _ (0,0) _ _ rfl q3 Tryd.underlying26 (z08 lH)) rfl ⟨rfl,q1,q2⟩
    · rw [decide_eq_false est] at cq
      obtain ⟨a5,n5,c5,a6,n6,c6,h5, -⟩:=hdr.blk
      have hm:MET (W.setRow b #[.int .i64 d,.map (some g),.slice (some ⟨gs,0,none⟩) ns cs,.slice (some ⟨gt,0,none⟩) n c,.bool true]) base w.heap.size ok b g d (t :: T):=by
        have:=hdr.found (top':=w.heap.size) F.out.2.1 ho3 est (by rw [hH,F.out.1]) F.out.2.2.1 F.out.2.2.2.1 F.out.2.2.2.2 HA.out.2.2.2.1.1 HA.out.2.2.2.1.2 HA.out.2.2.1.lt.2 hb2.size
        rw [hns,HA.out.2.2.2.2.2.2] at this
        exact this
      have em:=zgb (x:=.slice (some ⟨gs,0,none⟩) ns cs) (y:=.slice (some ⟨gt,0,none⟩) n c) h5
      have sm:STEPM b g w (W.setRow b #[.int .i64 d,.map (some g),.slice (some ⟨gs,0,none⟩) ns cs,.slice (some ⟨gt,0,none⟩) n c,.bool true]):=(STEPM.of_below hb2).trans (STEPM.setRow _ _)
      have x2:W.cell? ⟨b,2,none⟩=some (.slice a5 n5 c5):=h5.cell 2
      have x3:W.cell? ⟨b,3,none⟩=some (.slice a6 n6 c6):=h5.cell 3
      have x4:W.cell? ⟨b,4,none⟩=some (.bool (CLS d T).isSome):=h5.cell 4
      have z2:=h5.frozen 2
      have z3:=h5.frozen 3
      have z4:=h5.frozen 4
      have kh6:Has (W.setRow b #[.int .i64 d,.map (some g),.slice (some ⟨gs,0,none⟩) ns cs,.slice (some ⟨gt,0,none⟩) n c,.bool true]) bh (z00 H).toArray 26:=kh.row_other (by have:=R2.out.2.2.2.2.2;omega) _
      have kz6:Has (W.setRow b #[.int .i64 d,.map (some g),.slice (some ⟨gs,0,none⟩) ns cs,.slice (some ⟨gt,0,none⟩) n c,.bool true]) w.heap.size (z00 ZND).toArray 26:=kz.row_other (by have:=R2.out.2.2.2.2.2;omega) _
      clear h5 kh kz hdr
      go_wp2_with fail
      refine cq.mono ?_
      rintro e w5 ⟨rfl,rfl⟩
      clear cq
      go_upto_region 7 with fail
      obtain ⟨w6,hw6⟩:∃ w6,W.setRow b #[.int .i64 d,.map (some g),.slice (some ⟨gs,0,none⟩) ns cs,.slice (some ⟨gt,0,none⟩) n c,.bool true]=w6:=⟨_,rfl⟩
      rw [hw6] at hm sm kh6 kz6 ⊢
      clear hw6 em x2 x3 x4 z2 z3 z4
      go_wp2_with (first
        | (refine wpList_load_row rfl 26 (.tmp 5) rfl bh rfl 26 (z00 H).toArray (0,0) _ kh6 Tryd.underlying26 rfl (z08 lH) ?_)
        | (refine wpList_store_row rfl 26 (.tmp 4) (.tmp 45) rfl _ _ rfl rfl 26 _ kz6 (z08 lH) (by simp [z00,lH];rfl) (z0G H) ?_)
        | fail)
      obtain ⟨q1,q2,q3⟩:=FIN.out w6 kh6 kz6 hm sm
      refine bodyPost_ret (v:=.agg (z00 H).toArray) (z1O rfl _ _ w.heap.size 26 _ (0,0) _ _ rfl q3 Tryd.underlying26 (z08 lH)) rfl ⟨rfl,q1,q2⟩
  ·
    refine zfB w2 b g bh n c (some ⟨gt,0,none⟩) H lH _ _ (fun W=>W=w2.drew) rfl (fun W e=>by subst e;exact ⟨y1,(World.rangeAt_drew _ _ _ _).2 (z0v R2.out.2.1),f6⟩) (fun _ _ _ _ _ h=>h) ?_
    rintro W rfl
    dsimp only
    have hU:=(MET.keep (w':=w2.drew.drew) hdr (fun _ _=>rfl) (Nat.le_refl _) hdr.htop).store (top':=w.heap.size) HA.out.2.1 (R2.out.2.2.2.2.1.at (w':=w2.drew.drew) rfl) HA.out.2.2.2.1.1 HA.out.2.2.2.1.2 (by rw [hH,f1]) HA.out.2.2.1.lt.2 (by have:=R2.out.1.size;exact this)
    rw [hH,HA.out.2.2.2.2.2.2] at hU
    obtain ⟨w6,u1,u2,u3,u4⟩:=hU
    have hbhs:bh<w2.drew.drew.heap.size:=R2.out.2.1.lt
    have hne:=R2.out.2.2.2.2.2
    have hzs:w.heap.size<w2.drew.drew.heap.size:=R2.out.2.2.1.lt
    have kh6:Has w6 bh (z00 H).toArray 26:=(u4 bh hbhs (by omega)).trans R2.out.2.1
    have kz6:Has w6 w.heap.size (z00 ZND).toArray 26:=(u4 _ hzs (by omega)).trans R2.out.2.2.1
    have y6:w6.cell? ⟨b,1,none⟩=some (.map (some g)):=(World.cell?_of_block (w:=w2.drew.drew) (by exact u4 b (by omega) hne.2.2.2)).trans y1
    have sm:STEPM b g w w6:=(STEPM.of_below R2.out.1.drew.drew).trans u3
    go_upto_region 4 with fail
    refine zjm w2.drew b g bh n c (some ⟨gt,0,none⟩) H lH (fun W=>W=w2.drew.drew) (fun W=>W=w6) rfl (fun W e=>by subst e;exact ⟨y1,(World.rangeAt_drew _ _ _ _).2 ((World.rangeAt_drew _ _ _ _).2 (z0v R2.out.2.1))⟩) (fun W e=>by subst e;exact ⟨y6,z0v kh6⟩) (fun W e=>by subst e;exact ⟨w6,u1,rfl⟩) (fun _ _ _ _ _ h=>h) ?_
    rintro W rfl
    dsimp only
    clear u1 u4 y6 y1 hne hzs hbhs f6 hdr hM2' h3
    go_wp2_with (first
      | (refine wpList_load_row rfl 26 (.tmp 5) rfl bh rfl 26 (z00 H).toArray (0,0) _ kh6 Tryd.underlying26 rfl (z08 lH) ?_)
      | (refine wpList_store_row rfl 26 (.tmp 4) (.tmp 45) rfl _ _ rfl rfl 26 _ kz6 (z08 lH) (by simp [z00,lH];rfl) (z0G H) ?_)
      | fail)
    obtain ⟨q1,q2,q3⟩:=FIN.out W kh6 kz6 u2 sm
    refine bodyPost_ret (v:=.agg (z00 H).toArray) (z1O rfl _ _ w.heap.size 26 _ (0,0) _ _ rfl q3 Tryd.underlying26 (z08 lH)) rfl ⟨rfl,q1,q2⟩
end Go.Proofs.YtbmjoiiagldklaaDoor
