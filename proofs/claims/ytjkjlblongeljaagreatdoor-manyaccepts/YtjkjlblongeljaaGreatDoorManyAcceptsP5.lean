/- Texts of ManyAccepts, one behind the other: HashArr, HashSchedule, HashJoined. -/
import Derived.Test.YtjkjlblongeljaaGreatDoorProg
import Derived.WalkKit
import Derived.WalkLawsBesides
import Derived.Deep.WholeRow
import Derived.Deep.LoopGhost
import Derived.Laws.ResultCell
import Derived.Laws.Rows
import Derived.Laws.Tables
import Derived.Deep.RegionHeld3
import Derived.Deep.RegionWith
import Derived.Lib.SliceRun
import Derived.Test.YtjkjlblongeljaaGreatDoorManyAcceptsP4
namespace Go.Proofs.YtjkjlblongeljaaGreatDoor.HX
open Go.RowKit
def UARR (k:IntKind) (n:Nat) (f:Nat→Nat):Array Value:=((List.range n).map fun i=>Value.int k ((f i:Nat):Int)).toArray
theorem z01 (k:IntKind) (n:Nat) (f:Nat→Nat):(UARR k n f).size=n:=by simp [UARR]
theorem z0h (k:IntKind) (n:Nat) (f:Nat→Nat) (i:Nat) (h:i<n):(UARR k n f)[i]?=some (.int k ((f i:Nat):Int)):=by simp [UARR,h]
theorem z0z {k:IntKind} {n:Nat} {f g:Nat→Nat} (h:∀ i,i<n→f i=g i):UARR k n f=UARR k n g:=by
  unfold UARR
  congr 1
  apply List.map_congr_left
  intro i hi
  rw [h i (by simpa using hi)]
theorem z3F (k:IntKind) (n:Nat) (f:Nat→Nat) (i:Nat) (v:Nat):(UARR k n f).setIfInBounds i (.int k (v:Int))=UARR k n fun j=>if j=i then v else f j:=by
  apply Array.ext_getElem?
  intro j
  by_cases hj:j<n
  · rw [z0h _ _ _ j hj,Array.getElem?_setIfInBounds]
    by_cases h:i=j
    · subst h
      simp [z01,hj]
    · have h':¬ j=i:=fun e=>h e.symm
      simp [h,h',z0h _ _ _ j hj]
  · rw [Array.getElem?_eq_none (by simp [z01];omega),Array.getElem?_eq_none (by simp [z01];omega)]
theorem z0f (k:IntKind) (n:Nat) (f:Nat→Nat):(UARR k n f).all (·.oneCell')=true:=by
  apply Array.all_eq_true_iff_forall_mem.2
  intro v hv
  simp [UARR] at hv
  obtain ⟨i,_,rfl⟩:=hv
  rfl
theorem z0t:(Tryz.prog.info? 35).map (·.size)=some 32:=by kernel_rfl
theorem z5x:(Tryz.prog.info? 182).map (·.size)=some 64:=by kernel_rfl
theorem z9u:(Tryz.prog.info? 212).map (·.size)=some 8:=by kernel_rfl
theorem zdo:(Tryz.prog.info? 214).map (·.size)=some 64:=by kernel_rfl
theorem z03 (f:Nat→Nat):(Tryz.prog.info? 35).map (·.size)=some (UARR .u8 32 f).size:=by rw [z01];exact z0t
theorem zar (f:Nat→Nat):(Tryz.prog.info? 182).map (·.size)=some (UARR .u8 64 f).size:=by rw [z01];exact z5x
theorem z2J (f:Nat→Nat):(Tryz.prog.info? 212).map (·.size)=some (UARR .u32 8 f).size:=by rw [z01];exact z9u
theorem z3G (f:Nat→Nat):(Tryz.prog.info? 214).map (·.size)=some (UARR .u32 64 f).size:=by rw [z01];exact zdo
def Has (w:World) (g:Nat) (c:Array Value) (t:TypeId):Prop:=w.heap[g]?=some (.cells c t)
theorem Has.cell {w:World} {g:Nat} {c:Array Value} {t:TypeId} (h:Has w g c t) (i:Nat):w.cell? ⟨g,i,none⟩=c[i]?:=cell_of_row w g i c t _ h
theorem Has.lt {w:World} {g:Nat} {c:Array Value} {t:TypeId} (h:Has w g c t):g<w.heap.size:=(Array.getElem?_eq_some_iff.1 h).1
theorem Has.frozen {w:World} {g:Nat} {c:Array Value} {t:TypeId} (h:Has w g c t) (i:Nat):w.frozen? ⟨g,i,none⟩=false:=by
  have e:w.heap[g]?=some (.cells c t):=h
  simp [World.frozen?,e]
theorem Has.set {w:World} {g:Nat} {c:Array Value} {t:TypeId} (h:Has w g c t) (i:Nat) (v:Value):Has (w.setCell ⟨g,i,none⟩ v) g (c.setIfInBounds i v) t:=by
  have e:w.heap[g]?=some (.cells c t):=h
  unfold Has
  rw [setCell_eq_setRow w g i c t _ v e,setRow_heap w g c _ t _ e]
theorem Has.other {w:World} {g:Nat} {c:Array Value} {t:TypeId} (h:Has w g c t) {a:Addr} (ha:g≠a.block) (v:Value):Has (w.setCell a v) g c t:=by
  have e:w.heap[g]?=some (.cells c t):=h
  unfold Has
  rw [Below.heap_setCell w a v g ha,e]
theorem Has.below {B:Nat} {w w':World} {g:Nat} {c:Array Value} {t:TypeId} (h:Has w g c t) (hb:Below B w w') (hg:g<B):Has w' g c t:=(hb.block g hg).trans h
theorem Has.keep {w w':World} {g:Nat} {c:Array Value} {t:TypeId} (h:Has w g c t) (hb:Below w.heap.size w w'):Has w' g c t:=h.below hb h.lt
theorem Has.alloc {w:World} {g:Nat} {c:Array Value} {t:TypeId} (h:Has w g c t) (o:Obj):Has (w.alloc o) g c t:=by
  have e:w.heap[g]?=some (.cells c t):=h
  unfold Has
  rw [Below.heap_alloc w o g h.lt,e]
theorem Has.new (w:World) (c:Array Value) (t:TypeId):Has (w.alloc (.cells c t)) w.heap.size c t:=heap_alloc_new w _
theorem Has.at (w:World) (c:Array Value) (t:TypeId) {g:Nat} (hg:g=w.heap.size):Has (w.alloc (.cells c t)) g c t:=by subst hg;exact Has.new w c t
theorem Has.row {w:World} {g:Nat} {c:Array Value} {t:TypeId} (h:Has w g c t) (c':Array Value):Has (w.setRow g c') g c' t:=setRow_heap w g c c' t _ h
theorem Has.row_other {w:World} {g k:Nat} {c:Array Value} {t:TypeId} (h:Has w g c t) (hk:g≠k) (c':Array Value):Has (w.setRow k c') g c t:=by
  have e:w.heap[g]?=some (.cells c t):=h
  unfold Has
  rw [setRow_other w k g c' hk,e]
theorem Has.drewN {w:World} {g:Nat} {c:Array Value} {t:TypeId} (h:Has w g c t) (n:Nat):Has (w.drewN n) g c t:=h
theorem z2l {w:World} {b i j:Nat} (h:i≠j) (v:Value):(w.setCell ⟨b,i,none⟩ v).cell? ⟨b,j,none⟩=w.cell? ⟨b,j,none⟩:=World.cell?_setCell_other w _ _ v (fun e=>h (congrArg Addr.off e))
theorem z06 {B g:Nat} {w0 w:World} (hb:Below B w0 w) (hBg:B≤g) (cs:Array Value):Below B w0 (w.setRow g cs):=
  ⟨hb.os,hb.tape,hb.output,by have:=hb.size;simpa [World.setRow] using this,fun k hk=>by rw [setRow_other w g k cs (by omega)];exact hb.block k hk⟩
theorem z5y (b i:Nat) (h:i<32) (l:Int) (hl:l=(i:Int)) (w:World):(Instr.sliceAt 35 (.pointer (some ⟨b,0,none⟩)) (some (.int .i64 l)) none none).run Tryz.prog w=.ok (.slice (some ⟨b,i,none⟩) (32 - i) (32 - i)) w:=by
  subst hl
  have hn:Tryz.prog.arrayLen 35=32:=by kernel_rfl
  rw [run_sliceAt_array_l w 35 ⟨b,0,none⟩ (by kernel_rfl) .i64 (i:Int) (by omega) (by rw [hn];omega),hn]
  have he:Tryz.prog.elem 35=5:=by kernel_rfl
  obtain ⟨i8,hi,h8⟩:=Option.map_eq_some_iff.1 z0S
  simp only [Prod.mk.injEq] at h8
  rw [he]
  simp [sizeOf,typeInfo,hi,h8.2.1,slicedAt]
  rw [if_neg (by omega)]
  simp [Addr.add]
  omega
theorem z8u (b i:Nat) (h:i<64) (l:Int) (hl:l=(i:Int)) (w:World):(Instr.sliceAt 182 (.pointer (some ⟨b,0,none⟩)) (some (.int .i64 l)) none none).run Tryz.prog w=.ok (.slice (some ⟨b,i,none⟩) (64 - i) (64 - i)) w:=by
  subst hl
  have hn:Tryz.prog.arrayLen 182=64:=by kernel_rfl
  rw [run_sliceAt_array_l w 182 ⟨b,0,none⟩ (by kernel_rfl) .i64 (i:Int) (by omega) (by rw [hn];omega),hn]
  have he:Tryz.prog.elem 182=5:=by kernel_rfl
  obtain ⟨i8,hi,h8⟩:=Option.map_eq_some_iff.1 z0S
  simp only [Prod.mk.injEq] at h8
  rw [he]
  simp [sizeOf,typeInfo,hi,h8.2.1,slicedAt]
  rw [if_neg (by omega)]
  simp [Addr.add]
  omega
theorem z4A {k:IntKind} {n i:Nat} {F f:Nat→Nat} (hf:∀ j,f j=if j<i then F j else 0) (v:Nat) (hv:v=F i):(UARR k n f).setIfInBounds i (.int k (v:Int))=UARR k n fun j=>if j<i+1 then F j else 0:=by
  rw [z3F]
  apply z0z
  intro j _
  by_cases e:j=i
  · subst e
    simp [hv]
  · rw [if_neg e,hf j]
    by_cases e2:j<i
    · rw [if_pos e2,if_pos (by omega)]
    · rw [if_neg e2,if_neg (by omega)]
theorem zdp (s:Nat→Nat) (h:∀ i,s i<256) (w:World):Calls Tryz.prog 159 #[.agg (UARR .u8 32 s)] w fun e w'=>e=.returned (.agg (UARR .u32 8 fun i=>z0b s (4*i)))∧Below w.heap.size w w':=by
  have hz:(#[.int .u32 0,.int .u32 0,.int .u32 0,.int .u32 0,.int .u32 0,.int .u32 0,.int .u32 0,.int .u32 0]:Array Value)=UARR .u32 8 fun _=>0:=rfl
  have H:Aside (∀ i,s i<256):=h
  clear h
  go_enter Tryz.func159,Tryz.ntmps159
  go_wp2
  go_loopg [5] 8 (fun g s5 wx=>∃ i:Nat,i+g=8∧s5=.int .i64 i∧Aside (Below w.heap.size w wx∧Has wx w.heap.size (UARR .u8 32 s) 35∧Has wx (w.heap.size+1) (UARR .u32 8 fun _=>0) 212∧Has wx (w.heap.size+2) (UARR .u32 8 fun j=>if j<i then z0b s (4*j) else 0) 212))
  case atStart=>
    refine ⟨0,by omega,rfl,?_⟩
    have e:(UARR .u32 8 fun j=>if j<0 then z0b s (4*j) else 0)=UARR .u32 8 fun _=>0:=z0z fun j _=>if_neg (by omega)
    rw [e]
    exact ⟨(((Below.refl _ _).alloc (Nat.le_refl _) _).alloc (by simp) _).alloc (by simp;omega) _,((Has.new w _ _).alloc _).alloc _,(Has.at _ _ _ (by simp)).alloc _,Has.at _ _ _ (by simp)⟩
  case round=>
    obtain ⟨i,hig,rfl,A⟩:=hrel
    cases gk with
    | zero=>
      obtain rfl:i=8:=by omega
      obtain ⟨hb,h0,h1,h2⟩:=A.out
      go_wp2_with (first
        | (refine wpList_load_row rfl 212 _ rfl _ rfl _ _ (0,0) _ h2 Tryz.underlying212 rfl (z2J _) ?_)
        | (refine wpList_store_row rfl 212 _ _ rfl _ _ rfl rfl _ _ h1 (z2J _) (by rw [z01,z01]) (z0f _ _ _) ?_))
      have e:(UARR .u32 8 fun j=>if j<8 then z0b s (4*j) else 0)=UARR .u32 8 fun i=>z0b s (4*i):=z0z fun j hj=>by rw [if_pos hj]
      rw [e]
      refine bodyPost_ret (v:=.agg (UARR .u32 8 fun i=>z0b s (4*i))) ?_ rfl ⟨rfl,z06 hb (by omega) _⟩
      exact results_cell_row rfl _ _ (w.heap.size+1) 212 _ (0,0) _ rfl (h1.row _) Tryz.underlying212 rfl (z2J _)
    | succ g=>
      obtain ⟨hb,h0,h1,h2⟩:=A.out
      have hi:(i:Int)<8:=by omega
      have hsl:=z5y w.heap.size (4*i) (by omega) (4*(i:Int)) (by omega)
      have hw:=z9t w.heap.size (4*i) (32 - 4*i) (32 - 4*i) s H.out (4*i) wr (by omega) (fun j hj=>by rw [h0.cell,z0h _ _ _ _ (by omega)])
      have hc:wr.cell? ⟨w.heap.size+1+1,i,none⟩=some (.int .u32 0):=by rw [h2.cell,z0h _ _ _ _ (by omega),if_neg (by omega)];rfl
      have hf:wr.frozen? ⟨w.heap.size+1+1,i,none⟩=false:=h2.frozen i
      generalize hv:z0b s (4*i)=v at hw
      have R:Aside (Below w.heap.size w wr∧Has wr w.heap.size (UARR .u8 32 s) 35∧Has wr (w.heap.size+1) (UARR .u32 8 fun _=>0) 212∧Has wr (w.heap.size+2) (UARR .u32 8 fun j=>if j<i then z0b s (4*j) else 0) 212∧z0b s (4*i)=v):=⟨hb,h0,h1,h2,hv⟩
      clear hb h0 h1 h2 hv A
      go_wp2_with fail
      refine hw.mono ?_
      rintro e w' ⟨rfl,m,rfl⟩
      clear hw
      go_wp2
      go_roundg g
      case measure=>omega
      case rel=>
        obtain ⟨hb,h0,h1,h2,hv⟩:=R.out
        refine ⟨i+1,by omega,by go_num,?_⟩
        rw [← z4A (F:=fun j=>z0b s (4*j)) (fun j=>rfl) v hv.symm]
        exact ⟨(below_drewN hb m).setCell (by show _≤w.heap.size+1+1;omega) _,(h0.drewN m).other (by show w.heap.size≠w.heap.size+1+1;omega) _,(h1.drewN m).other (by show w.heap.size+1≠w.heap.size+1+1;omega) _,(h2.drewN m).set i _⟩
end Go.Proofs.YtjkjlblongeljaaGreatDoor.HX

namespace Go.Proofs.YtjkjlblongeljaaGreatDoor.HX
open Go.RowKit
theorem zbH:(#[.int .u32 0,.int .u32 0,.int .u32 0,.int .u32 0,.int .u32 0,.int .u32 0,.int .u32 0,.int .u32 0,.int .u32 0,.int .u32 0,.int .u32 0,.int .u32 0,.int .u32 0,.int .u32 0,.int .u32 0,.int .u32 0,.int .u32 0,.int .u32 0,.int .u32 0,.int .u32 0,.int .u32 0,.int .u32 0,.int .u32 0,.int .u32 0,.int .u32 0,.int .u32 0,.int .u32 0,.int .u32 0,.int .u32 0,.int .u32 0,.int .u32 0,.int .u32 0,.int .u32 0,.int .u32 0,.int .u32 0,.int .u32 0,.int .u32 0,.int .u32 0,.int .u32 0,.int .u32 0,.int .u32 0,.int .u32 0,.int .u32 0,.int .u32 0,.int .u32 0,.int .u32 0,.int .u32 0,.int .u32 0,.int .u32 0,.int .u32 0,.int .u32 0,.int .u32 0,.int .u32 0,.int .u32 0,.int .u32 0,.int .u32 0,.int .u32 0,.int .u32 0,.int .u32 0,.int .u32 0,.int .u32 0,.int .u32 0,.int .u32 0,.int .u32 0]:Array Value)=UARR .u32 64 fun _=>0:=rfl
theorem zbI (b:Nat→Nat):(UARR .u32 64 fun j=>if j<16 then z0b b (4*j) else 0)=UARR .u32 64 (SCHL b 0):=z0z fun j _=>by rw [SCHL]
theorem z8v (s:Nat→Nat) (h:∀ i,s i<256) (w:World):Calls Tryz.prog 160 #[.agg (UARR .u8 64 s)] w fun e w'=>e=.returned (.agg (UARR .u32 64 (SCH s)))∧Below w.heap.size w w':=by
  have hz:=zbH
  have H:Aside (∀ i,s i<256):=h
  clear h
  go_enter Tryz.func160,Tryz.ntmps160
  go_wp2
  go_loopg [6] 16 (fun g s5 wx=>∃ i:Nat,i+g=16∧s5=.int .i64 i∧Aside (Below w.heap.size w wx∧Has wx w.heap.size (UARR .u8 64 s) 182∧Has wx (w.heap.size+1) (UARR .u32 64 fun _=>0) 214∧Has wx (w.heap.size+2) (UARR .u32 64 fun j=>if j<i then z0b s (4*j) else 0) 214))
  case atStart=>
    refine ⟨0,by omega,rfl,?_⟩
    have e:(UARR .u32 64 fun j=>if j<0 then z0b s (4*j) else 0)=UARR .u32 64 fun _=>0:=z0z fun j _=>if_neg (by omega)
    rw [e]
    exact ⟨(((Below.refl _ _).alloc (Nat.le_refl _) _).alloc (by simp) _).alloc (by simp;omega) _,((Has.new w _ _).alloc _).alloc _,(Has.at _ _ _ (by simp)).alloc _,Has.at _ _ _ (by simp)⟩
  case round=>
    obtain ⟨i,hig,rfl,A⟩:=hrel
    cases gk with
    | zero=>
      obtain rfl:i=16:=by omega
      rw [zbI] at A
      clear hz
      go_wp2
      go_loopg [5] 48 (fun g s5 wx=>∃ k:Nat,k+g=48∧s5=.int .i64 ((16+k:Nat):Int)∧Aside (Below w.heap.size w wx∧Has wx (w.heap.size+1) (UARR .u32 64 fun _=>0) 214∧Has wx (w.heap.size+2) (UARR .u32 64 (SCHL s k)) 214))
      case atStart=>exact ⟨0,by omega,rfl,A.out.1,A.out.2.2.1,A.out.2.2.2⟩
      case round=>
        obtain ⟨k,hkg,rfl,A⟩:=hrel
        cases gk with
        | zero=>
          obtain rfl:k=48:=by omega
          obtain ⟨hb,h1,h2⟩:=A.out
          go_wp2_with (first
            | (refine wpList_load_row rfl 214 _ rfl _ rfl _ _ (0,0) _ h2 Tryz.underlying214 rfl (z3G _) ?_)
            | (refine wpList_store_row rfl 214 _ _ rfl _ _ rfl rfl _ _ h1 (z3G _) (by rw [z01,z01]) (z0f _ _ _) ?_))
          refine bodyPost_ret (v:=.agg (UARR .u32 64 (SCH s))) ?_ rfl ⟨rfl,z06 hb (by omega) _⟩
          exact results_cell_row rfl _ _ (w.heap.size+1) 214 _ (0,0) _ rfl (h1.row _) Tryz.underlying214 rfl (z3G _)
        | succ g=>
          obtain ⟨hb,h1,h2⟩:=A.out
          have hlt:(((16+k:Nat):Int))<64:=by omega
          have ca:wr.cell? ⟨w.heap.size+1+1,14+k,none⟩=some (.int .u32 (SCHL s k (14+k):Nat)):=by rw [h2.cell,z0h _ _ _ _ (by omega)]
          have cb:wr.cell? ⟨w.heap.size+1+1,9+k,none⟩=some (.int .u32 (SCHL s k (9+k):Nat)):=by rw [h2.cell,z0h _ _ _ _ (by omega)]
          have cc:wr.cell? ⟨w.heap.size+1+1,1+k,none⟩=some (.int .u32 (SCHL s k (1+k):Nat)):=by rw [h2.cell,z0h _ _ _ _ (by omega)]
          have cd:wr.cell? ⟨w.heap.size+1+1,k,none⟩=some (.int .u32 (SCHL s k k:Nat)):=by rw [h2.cell,z0h _ _ _ _ (by omega)]
          have ct:wr.cell? ⟨w.heap.size+1+1,16+k,none⟩=some (.int .u32 (SCHL s k (16+k):Nat)):=by rw [h2.cell,z0h _ _ _ _ (by omega)]
          have hf:wr.frozen? ⟨w.heap.size+1+1,16+k,none⟩=false:=h2.frozen _
          have la:=z64 H.out k (14+k)
          have lc:=z64 H.out k (1+k)
          have c1:∀ w,Calls Tryz.prog 183 #[.int .u32 (SCHL s k (14+k):Nat),.int .i64 17,.int .i64 19,.int .i64 10] w fun e w'=>e=.returned (.int .u32 (z2C 17 19 10 (SCHL s k (14+k)):Nat))∧∃ m,w'=w.drewN m:=fun w=>z7x _ 17 19 10 la (by decide) (by decide) (by decide) w
          have c2:∀ w,Calls Tryz.prog 183 #[.int .u32 (SCHL s k (1+k):Nat),.int .i64 7,.int .i64 18,.int .i64 3] w fun e w'=>e=.returned (.int .u32 (z2C 7 18 3 (SCHL s k (1+k)):Nat))∧∃ m,w'=w.drewN m:=fun w=>z7x _ 7 18 3 lc (by decide) (by decide) (by decide) w
          have R:Aside (Below w.heap.size w wr∧Has wr (w.heap.size+1) (UARR .u32 64 fun _=>0) 214∧Has wr (w.heap.size+2) (UARR .u32 64 (SCHL s k)) 214):=⟨hb,h1,h2⟩
          have V:Aside ((z2C 17 19 10 (SCHL s k (14+k))+SCHL s k (9+k)+z2C 7 18 3 (SCHL s k (1+k))+SCHL s k k) % 4294967296=SCHL s (k+1) (16+k)):=by rw [Aside,SCHL,if_pos rfl]
          generalize z2C 17 19 10 (SCHL s k (14+k))=p at *
          generalize z2C 7 18 3 (SCHL s k (1+k))=q at *
          generalize SCHL s k (14+k)=va at *
          generalize SCHL s k (9+k)=vb at *
          generalize SCHL s k (1+k)=vc at *
          generalize SCHL s k (16+k)=vt at *
          generalize hvd:SCHL s k k=vd at *
          obtain ⟨T,hT⟩:∃ T,T=16+k:=⟨_,rfl⟩
          obtain ⟨a,ha⟩:∃ a,a=14+k:=⟨_,rfl⟩
          obtain ⟨b,hbb⟩:∃ b,b=9+k:=⟨_,rfl⟩
          obtain ⟨c,hcc⟩:∃ c,c=1+k:=⟨_,rfl⟩
          have E:Aside (T=16+k∧k+(g+1)=48):=⟨hT,hkg⟩
          rw [← hT] at hlt ct hf ⊢
          rw [← ha] at ca
          rw [← hbb] at cb
          rw [← hcc] at cc
          have e1:(T:Int) - 2=(a:Int):=by omega
          have e2:(T:Int) - 7=(b:Int):=by omega
          have e3:(T:Int) - 15=(c:Int):=by omega
          have e4:(T:Int) - 16=(k:Int):=by omega
          have f1:IntKind.i64.wrap (a:Int)=(a:Int):=by rw [IntKind.wrap_i64];omega
          have f2:IntKind.i64.wrap (b:Int)=(b:Int):=by rw [IntKind.wrap_i64];omega
          have f3:IntKind.i64.wrap (c:Int)=(c:Int):=by rw [IntKind.wrap_i64];omega
          have f4:IntKind.i64.wrap (k:Int)=(k:Int):=by rw [IntKind.wrap_i64];omega
          have g1:(a:Int)<64:=by omega
          have g2:(b:Int)<64:=by omega
          have g3:(c:Int)<64:=by omega
          have g4:(k:Int)<64:=by omega
          have n1:¬ T=a∧¬ a=T:=by omega
          have n2:¬ T=b∧¬ b=T:=by omega
          have n3:¬ T=c∧¬ c=T:=by omega
          have n4:¬ T=k∧¬ k=T:=by omega
          clear hb h1 h2 la lc hvd A hkg hT ha hbb hcc
          go_wp2_with fail
          go_region_held3 (fun W:World=>W.cell? ⟨w.heap.size+1+1,a,none⟩=some (.int .u32 (va:Int))∧W.cell? ⟨w.heap.size+1+1,b,none⟩=some (.int .u32 (vb:Int))∧W.cell? ⟨w.heap.size+1+1,c,none⟩=some (.int .u32 (vc:Int))∧W.cell? ⟨w.heap.size+1+1,k,none⟩=some (.int .u32 (vd:Int))) (first | go_keep | (refine ⟨?_,?_,?_,?_⟩ <;> (rw [z2l (by omega)];simp only [World.cell?_drewN];assumption))) (first | (go_at_call_of 183 (va:Int);refine (c1 _).mono ?_;rintro e w5 ⟨rfl,m1,rfl⟩) | (go_at_call_of 183 (vc:Int);refine (c2 _).mono ?_;rintro e w6 ⟨rfl,m2,rfl⟩))
          have hx:IntKind.u32.wrap (IntKind.u32.wrap (IntKind.u32.wrap ((p:Int)+(vb:Int))+(q:Int))+(vd:Int))=((SCHL s (k+1) (16+k):Nat):Int):=by
            rw [← V.out,z4z,z4z,z4z]
            omega
          rw [hx]
          clear hx
          generalize hz2:SCHL s (k+1) (16+k)=z
          have HZ:Aside (SCHL s (k+1) (16+k)=z):=hz2
          clear hz2
          go_wp2
          go_roundg g
          case measure=>have:=E.out.2;omega
          case rel=>
            obtain ⟨hb,h1,h2⟩:=R.out
            obtain ⟨hT,hkg⟩:=E.out
            refine ⟨k+1,by omega,by rw [hT];go_num,(below_drewN hb _).setCell (by show _≤w.heap.size+1+1;omega) _,(h1.drewN _).other (by show w.heap.size+1≠w.heap.size+1+1;omega) _,?_⟩
            have h3:=(h2.drewN (1+m1+m2)).set T (.int .u32 (z:Int))
            rw [z3F] at h3
            have e:(UARR .u32 64 fun j=>if j=T then z else SCHL s k j)=UARR .u32 64 (SCHL s (k+1)):=z0z fun j _=>by
              rw [← HZ.out,hT]
              by_cases e:j=16+k
              · rw [if_pos e,e]
              · rw [if_neg e,SCHL,if_neg e]
            rw [e] at h3
            exact h3
    | succ g=>
      obtain ⟨hb,h0,h1,h2⟩:=A.out
      have hi:(i:Int)<16:=by omega
      have hi2:(i:Int)<64:=by omega
      have hsl:=z8u w.heap.size (4*i) (by omega) (4*(i:Int)) (by omega)
      have hw:=z9t w.heap.size (4*i) (64 - 4*i) (64 - 4*i) s H.out (4*i) wr (by omega) (fun j hj=>by rw [h0.cell,z0h _ _ _ _ (by omega)])
      have hc:wr.cell? ⟨w.heap.size+1+1,i,none⟩=some (.int .u32 0):=by rw [h2.cell,z0h _ _ _ _ (by omega),if_neg (by omega)];rfl
      have hf:wr.frozen? ⟨w.heap.size+1+1,i,none⟩=false:=h2.frozen i
      generalize hv:z0b s (4*i)=v at hw
      have R:Aside (Below w.heap.size w wr∧Has wr w.heap.size (UARR .u8 64 s) 182∧Has wr (w.heap.size+1) (UARR .u32 64 fun _=>0) 214∧Has wr (w.heap.size+2) (UARR .u32 64 fun j=>if j<i then z0b s (4*j) else 0) 214∧z0b s (4*i)=v):=⟨hb,h0,h1,h2,hv⟩
      clear hb h0 h1 h2 hv A hz
      go_wp2_with fail
      refine hw.mono ?_
      rintro e w' ⟨rfl,m,rfl⟩
      clear hw
      go_wp2
      go_roundg g
      case measure=>omega
      case rel=>
        obtain ⟨hb,h0,h1,h2,hv⟩:=R.out
        refine ⟨i+1,by omega,by go_num,?_⟩
        rw [← z4A (F:=fun j=>z0b s (4*j)) (fun j=>rfl) v hv.symm]
        exact ⟨(below_drewN hb m).setCell (by show _≤w.heap.size+1+1;omega) _,(h0.drewN m).other (by show w.heap.size≠w.heap.size+1+1;omega) _,(h1.drewN m).other (by show w.heap.size+1≠w.heap.size+1+1;omega) _,(h2.drewN m).set i _⟩
end Go.Proofs.YtjkjlblongeljaaGreatDoor.HX

namespace Go.Proofs.YtjkjlblongeljaaGreatDoor.HX
open Go.RowKit
theorem z2b:(#[.int .u8 0,.int .u8 0,.int .u8 0,.int .u8 0,.int .u8 0,.int .u8 0,.int .u8 0,.int .u8 0,.int .u8 0,.int .u8 0,.int .u8 0,.int .u8 0,.int .u8 0,.int .u8 0,.int .u8 0,.int .u8 0,.int .u8 0,.int .u8 0,.int .u8 0,.int .u8 0,.int .u8 0,.int .u8 0,.int .u8 0,.int .u8 0,.int .u8 0,.int .u8 0,.int .u8 0,.int .u8 0,.int .u8 0,.int .u8 0,.int .u8 0,.int .u8 0]:Array Value)=UARR .u8 32 fun _=>0:=rfl
theorem z3H (x:Nat→Nat) (i r:Nat) (hr:r<4):z0o x (4*i+r)=x i / 2 ^ (24 - 8*r) % 256:=by
  unfold z0o
  rw [show (4*i+r) / 4=i by omega,show (4*i+r) % 4=r by omega]
theorem z7y (x:Nat→Nat):∀ (i:Nat),i<8→∀ w:World,(Instr.index 212 (.agg (UARR .u32 8 x)) (.int .i64 (i:Int))).run Tryz.prog w=.ok (.int .u32 (x i:Nat)) w
  | 0,_,_=>by kernel_rfl
  | 1,_,_=>by kernel_rfl
  | 2,_,_=>by kernel_rfl
  | 3,_,_=>by kernel_rfl
  | 4,_,_=>by kernel_rfl
  | 5,_,_=>by kernel_rfl
  | 6,_,_=>by kernel_rfl
  | 7,_,_=>by kernel_rfl
  | n+8,h,_=>absurd h (by omega)
theorem z6A (x:Nat→Nat) (h:∀ i,x i<2 ^ 32) (w:World):Calls Tryz.prog 158 #[.agg (UARR .u32 8 x)] w fun e w'=>e=.returned (.agg (UARR .u8 32 (z0o x)))∧Below w.heap.size w w':=by
  have hz:=z2b
  have H:Aside (∀ i,x i<2 ^ 32):=h
  clear h
  go_enter Tryz.func158,Tryz.ntmps158
  go_wp2_with (refine wpList_load_row rfl 212 _ rfl _ rfl 212 (UARR .u32 8 x) (0,0) _ (((Has.new w _ _).alloc _).alloc _) Tryz.underlying212 rfl (z2J _) ?_)
  go_loopg [8] 8 (fun g s5 wx=>∃ i:Nat,i+g=8∧s5=.int .i64 i∧Aside (Below w.heap.size w wx∧Has wx (w.heap.size+1) (UARR .u8 32 fun _=>0) 35∧Has wx (w.heap.size+2) (UARR .u8 32 fun j=>if j<4*i then z0o x j else 0) 35))
  case atStart=>
    refine ⟨0,by omega,rfl,?_⟩
    have e:(UARR .u8 32 fun j=>if j<4*0 then z0o x j else 0)=UARR .u8 32 fun _=>0:=z0z fun j _=>if_neg (by omega)
    rw [e]
    exact ⟨(((Below.refl _ _).alloc (Nat.le_refl _) _).alloc (by simp) _).alloc (by simp;omega) _,(Has.at _ _ _ (by simp)).alloc _,Has.at _ _ _ (by simp)⟩
  case round=>
    obtain ⟨i,hig,rfl,A⟩:=hrel
    clear hz
    cases gk with
    | zero=>
      obtain rfl:i=8:=by omega
      obtain ⟨hb,h1,h2⟩:=A.out
      go_wp2_with (first
        | (refine wpList_load_row rfl 35 _ rfl _ rfl _ _ (0,0) _ h2 Tryz.underlying35 rfl (z03 _) ?_)
        | (refine wpList_store_row rfl 35 _ _ rfl _ _ rfl rfl _ _ h1 (z03 _) (by rw [z01,z01]) (z0f _ _ _) ?_))
      have e:(UARR .u8 32 fun j=>if j<4*8 then z0o x j else 0)=UARR .u8 32 (z0o x):=z0z fun j hj=>by rw [if_pos (by omega)]
      rw [e]
      refine bodyPost_ret (v:=.agg (UARR .u8 32 (z0o x))) ?_ rfl ⟨rfl,z06 hb (by omega) _⟩
      exact results_cell_row rfl _ _ (w.heap.size+1) 35 _ (0,0) _ rfl (h1.row _) Tryz.underlying35 rfl (z03 _)
    | succ g=>
      obtain ⟨hb,h1,h2⟩:=A.out
      have hi:(i:Int)<8:=by omega
      have hxi:=z7y x i (by omega)
      have c0:wr.cell? ⟨w.heap.size+1+1,4*i,none⟩=some (.int .u8 0):=by rw [h2.cell,z0h _ _ _ _ (by omega),if_neg (by omega)];rfl
      have c1:wr.cell? ⟨w.heap.size+1+1,4*i+1,none⟩=some (.int .u8 0):=by rw [h2.cell,z0h _ _ _ _ (by omega),if_neg (by omega)];rfl
      have c2:wr.cell? ⟨w.heap.size+1+1,4*i+2,none⟩=some (.int .u8 0):=by rw [h2.cell,z0h _ _ _ _ (by omega),if_neg (by omega)];rfl
      have c3:wr.cell? ⟨w.heap.size+1+1,4*i+3,none⟩=some (.int .u8 0):=by rw [h2.cell,z0h _ _ _ _ (by omega),if_neg (by omega)];rfl
      have f0:wr.frozen? ⟨w.heap.size+1+1,4*i,none⟩=false:=h2.frozen _
      have f1:wr.frozen? ⟨w.heap.size+1+1,4*i+1,none⟩=false:=h2.frozen _
      have f2:wr.frozen? ⟨w.heap.size+1+1,4*i+2,none⟩=false:=h2.frozen _
      have f3:wr.frozen? ⟨w.heap.size+1+1,4*i+3,none⟩=false:=h2.frozen _
      have R:Aside (Below w.heap.size w wr∧Has wr (w.heap.size+1) (UARR .u8 32 fun _=>0) 35∧Has wr (w.heap.size+2) (UARR .u8 32 fun j=>if j<4*i then z0o x j else 0) 35):=⟨hb,h1,h2⟩
      clear hb h1 h2 A
      generalize hX:x i=X at *
      obtain ⟨o,ho⟩:∃ o,o=4*i:=⟨_,rfl⟩
      rw [← ho] at c0 c1 c2 c3 f0 f1 f2 f3
      have e0:4*(i:Int)=(o:Int):=by omega
      obtain ⟨o1,ho1⟩:∃ o1,o1=o+1:=⟨_,rfl⟩
      obtain ⟨o2,ho2⟩:∃ o2,o2=o+2:=⟨_,rfl⟩
      obtain ⟨o3,ho3⟩:∃ o3,o3=o+3:=⟨_,rfl⟩
      rw [← ho1] at c1 f1
      rw [← ho2] at c2 f2
      rw [← ho3] at c3 f3
      have e1:(o:Int)+1=(o1:Int):=by omega
      have e2:(o:Int)+2=(o2:Int):=by omega
      have e3:(o:Int)+3=(o3:Int):=by omega
      have E:Aside (o=4*i∧x i=X∧o1=o+1∧o2=o+2∧o3=o+3):=⟨ho,hX,ho1,ho2,ho3⟩
      have l0:(o:Int)<32:=by omega
      have l1:(o1:Int)<32:=by omega
      have l2:(o2:Int)<32:=by omega
      have l3:(o3:Int)<32:=by omega
      have n1:(⟨w.heap.size+1+1,o,none⟩:Addr)≠⟨w.heap.size+1+1,o1,none⟩:=fun e=>by have:=congrArg Addr.off e;simp at this;omega
      have n2:(⟨w.heap.size+1+1,o,none⟩:Addr)≠⟨w.heap.size+1+1,o2,none⟩:=fun e=>by have:=congrArg Addr.off e;simp at this;omega
      have n3:(⟨w.heap.size+1+1,o,none⟩:Addr)≠⟨w.heap.size+1+1,o3,none⟩:=fun e=>by have:=congrArg Addr.off e;simp at this;omega
      have n4:(⟨w.heap.size+1+1,o1,none⟩:Addr)≠⟨w.heap.size+1+1,o2,none⟩:=fun e=>by have:=congrArg Addr.off e;simp at this;omega
      have n5:(⟨w.heap.size+1+1,o1,none⟩:Addr)≠⟨w.heap.size+1+1,o3,none⟩:=fun e=>by have:=congrArg Addr.off e;simp at this;omega
      have n6:(⟨w.heap.size+1+1,o2,none⟩:Addr)≠⟨w.heap.size+1+1,o3,none⟩:=fun e=>by have:=congrArg Addr.off e;simp at this;omega
      clear ho hX ho1 ho2 ho3
      go_wp2
      go_roundg g
      case measure=>omega
      case rel=>
        obtain ⟨hb,h1,h2⟩:=R.out
        obtain ⟨rfl,rfl,rfl,rfl,rfl⟩:=E.out
        refine ⟨i+1,by omega,by go_num,((((hb.setCell (by show _≤w.heap.size+1+1;omega) _).setCell (by show _≤w.heap.size+1+1;omega) _).setCell (by show _≤w.heap.size+1+1;omega) _).setCell (by show _≤w.heap.size+1+1;omega) _),((((h1.other (by show w.heap.size+1≠w.heap.size+1+1;omega) _).other (by show w.heap.size+1≠w.heap.size+1+1;omega) _).other (by show w.heap.size+1≠w.heap.size+1+1;omega) _).other (by show w.heap.size+1≠w.heap.size+1+1;omega) _),?_⟩
        have k0:z0o x (4*i)=x i / 16777216 % 256:=z3H x i 0 (by omega)
        have k1:z0o x (4*i+1)=x i / 65536 % 256:=z3H x i 1 (by omega)
        have k2:z0o x (4*i+2)=x i / 256 % 256:=z3H x i 2 (by omega)
        have k3:z0o x (4*i+3)=x i % 256:=by rw [z3H x i 3 (by omega)];simp
        have q0:(x i:Int) / 16777216 % 256=((z0o x (4*i):Nat):Int):=by rw [k0];omega
        have q1:(x i:Int) / 65536 % 256=((z0o x (4*i+1):Nat):Int):=by rw [k1];omega
        have q2:(x i:Int) / 256 % 256=((z0o x (4*i+2):Nat):Int):=by rw [k2];omega
        have q3:(x i:Int) % 256=((z0o x (4*i+3):Nat):Int):=by rw [k3];omega
        rw [q0,q1,q2,q3]
        have h3:=(((h2.set (4*i) (.int .u8 (z0o x (4*i):Nat))).set (4*i+1) (.int .u8 (z0o x (4*i+1):Nat))).set (4*i+2) (.int .u8 (z0o x (4*i+2):Nat))).set (4*i+3) (.int .u8 (z0o x (4*i+3):Nat))
        rw [z4A (F:=z0o x) (fun _=>rfl) _ rfl,z4A (F:=z0o x) (fun _=>rfl) _ rfl,z4A (F:=z0o x) (fun _=>rfl) _ rfl,z4A (F:=z0o x) (fun _=>rfl) _ rfl] at h3
        exact h3
theorem Has.cells {k:IntKind} {n g:Nat} {t:TypeId}:∀ (vs:List Nat) (o:Nat) (f:Nat→Nat) (w:World),Has w g (UARR k n f) t→
    Has (w.setCells g o (vs.map fun v=>Value.int k ((v:Nat):Int))) g (UARR k n fun j=>if o≤j∧j<o+vs.length then vs.getD (j - o) 0 else f j) t
  | [],o,f,w,h=>by
    have e:(UARR k n fun j=>if o≤j∧j<o+([]:List Nat).length then ([]:List Nat).getD (j - o) 0 else f j)=UARR k n f:=z0z fun j _=>if_neg (by rw [List.length_nil];omega)
    rw [e]
    exact h
  | v :: vs,o,f,w,h=>by
    have h1:=Has.cells vs (o+1) _ _ (z3F k n f o v ▸ h.set o (.int k (v:Int)))
    have e:(UARR k n fun j=>if o+1≤j∧j<o+1+vs.length then vs.getD (j - (o+1)) 0 else if j=o then v else f j)=UARR k n fun j=>if o≤j∧j<o+(v :: vs).length then (v :: vs).getD (j - o) 0 else f j:=z0z fun j _=>by
      rw [List.length_cons]
      by_cases e:j=o
      · subst e
        rw [if_neg (by omega),if_pos rfl,if_pos (by omega),Nat.sub_self]
        rfl
      · rw [if_neg e]
        by_cases e2:o+1≤j∧j<o+1+vs.length
        · rw [if_pos e2,if_pos (by omega)]
          obtain ⟨q,hq⟩:∃ q,j - o=q+1:=⟨j - o - 1,by omega⟩
          rw [hq,show j - (o+1)=q by omega]
          rfl
        · rw [if_neg e2,if_neg (by omega)]
    rw [e] at h1
    exact h1
theorem Has.cells_other {g b:Nat} {t:TypeId} {c:Array Value} (hb:g≠b):∀ (vs:List Value) (o:Nat) (w:World),Has w g c t→Has (w.setCells b o vs) g c t
  | [],_,_,h=>h
  | _ :: vs,o,_,h=>Has.cells_other hb vs (o+1) _ (h.other (by exact hb) _)
theorem z4L {B b:Nat} {w0:World} (hB:B≤b):∀ (vs:List Value) (o:Nat) (w:World),Below B w0 w→Below B w0 (w.setCells b o vs)
  | [],_,_,h=>h
  | _ :: vs,o,_,h=>z4L hB vs (o+1) _ (h.setCell (by exact hB) _)
theorem z7z {w:Int} (h:WID w=32) (s:Nat→Nat):UARR .u8 32 (z0Z w s)=UARR .u8 32 s:=z0z fun j hj=>by unfold z0Z;rw [if_pos (by omega)]
theorem zdq (w:World) (b o n c:Nat) (ty:TypeId) (hn:0<n) (hc:∀ j,j<n→(w.cell? ⟨b,o+j,none⟩).isSome=true) (hf:∀ j,j<n→w.frozen? ⟨b,o+j,none⟩=false):
    (Builtin.clear_ #[53] ty #[.slice (some ⟨b,o,none⟩) n c]).run Tryz.prog w=.ok (.tuple #[]) (w.setCells b o (List.replicate n (.int .u8 0))):=by
  obtain ⟨i8,hi,h8⟩:=Option.map_eq_some_iff.1 z0S
  simp only [Prod.mk.injEq] at h8
  exact Lib.run_clear_slice w 53 5 ty (.int .u8 0) Tryz.underlying53 (fun w=>by simp [zeroValue,typeInfo,hi,h8.1]) rfl rfl b o n c hn hc hf
theorem z42 (d:Int) (n:Nat) (hn:WID d=n) (h32:n<32) (s:Nat→Nat) (w:World):
    (∀ ty,(Builtin.clear_ #[53] ty #[.slice (some ⟨w.heap.size,n,none⟩) (32 - n) (32 - n)]).run Tryz.prog ((w.alloc (.cells (UARR .u8 32 s) 35)).alloc (.cells (UARR .u8 32 fun _=>0) 35))=.ok (.tuple #[]) (((w.alloc (.cells (UARR .u8 32 s) 35)).alloc (.cells (UARR .u8 32 fun _=>0) 35)).setCells w.heap.size n (List.replicate (32 - n) (.int .u8 0))))∧
    Has (((w.alloc (.cells (UARR .u8 32 s) 35)).alloc (.cells (UARR .u8 32 fun _=>0) 35)).setCells w.heap.size n (List.replicate (32 - n) (.int .u8 0))) w.heap.size (UARR .u8 32 (z0Z d s)) 35∧
    Has (((w.alloc (.cells (UARR .u8 32 s) 35)).alloc (.cells (UARR .u8 32 fun _=>0) 35)).setCells w.heap.size n (List.replicate (32 - n) (.int .u8 0))) (w.heap.size+1) (UARR .u8 32 fun _=>0) 35∧
    Below w.heap.size w (((w.alloc (.cells (UARR .u8 32 s) 35)).alloc (.cells (UARR .u8 32 fun _=>0) 35)).setCells w.heap.size n (List.replicate (32 - n) (.int .u8 0))):=by
  have h0:Has ((w.alloc (.cells (UARR .u8 32 s) 35)).alloc (.cells (UARR .u8 32 fun _=>0) 35)) w.heap.size (UARR .u8 32 s) 35:=(Has.new w _ _).alloc _
  have h1:Has ((w.alloc (.cells (UARR .u8 32 s) 35)).alloc (.cells (UARR .u8 32 fun _=>0) 35)) (w.heap.size+1) (UARR .u8 32 fun _=>0) 35:=Has.at _ _ _ (by simp)
  have hb:Below w.heap.size w ((w.alloc (.cells (UARR .u8 32 s) 35)).alloc (.cells (UARR .u8 32 fun _=>0) 35)):=((Below.refl _ _).alloc (Nat.le_refl _) _).alloc (by simp) _
  refine ⟨fun ty=>zdq _ _ n (32 - n) (32 - n) ty (by omega) (fun j hj=>by rw [h0.cell,z0h _ _ _ _ (by omega)];rfl) (fun j _=>h0.frozen _),?_,h1.cells_other (by omega) _ _ _,z4L (Nat.le_refl _) _ _ _ hb⟩
  have h2:=h0.cells (List.replicate (32 - n) 0) n
  have e:(UARR .u8 32 fun j=>if n≤j∧j<n+(List.replicate (32 - n) 0).length then (List.replicate (32 - n) 0).getD (j - n) 0 else s j)=UARR .u8 32 (z0Z d s):=z0z fun j hj=>by
    unfold z0Z
    rw [hn,List.length_replicate]
    by_cases e:j<n
    · rw [if_neg (by omega),if_pos e]
    · rw [if_pos (by omega),if_neg e]
      rw [List.getD_eq_getElem?_getD,List.getElem?_replicate]
      split <;> rfl
  rw [e,List.map_replicate] at h2
  exact h2
set_option maxRecDepth 100000 in
theorem z6B (d:Int) (s:Nat→Nat) (w:World):Calls Tryz.prog 157 #[.int .i64 d,.agg (UARR .u8 32 s)] w fun e w'=>e=.returned (.agg (UARR .u8 32 (z0Z d s)))∧Below w.heap.size w w':=by
  have hz:=z2b
  by_cases d1:d<1
  · have hW:WID d=1:=by unfold WID;omega
    have K:=z42 d 1 hW (by decide) s w
    have HCL:Aside _:=K.1
    have HC:Aside _:=K.2
    clear K hW
    go_enter Tryz.func157,Tryz.ntmps157
    go_wp2
    rw [HCL.out]
    go_wp2_with (first
      | (refine wpList_load_row rfl 35 _ rfl _ rfl _ _ (0,0) _ HC.out.1 Tryz.underlying35 rfl (z03 _) ?_)
      | (refine wpList_store_row rfl 35 _ _ rfl _ _ rfl rfl _ _ HC.out.2.1 (z03 _) (by rw [z01,z01]) (z0f _ _ _) ?_))
    refine bodyPost_ret (v:=.agg (UARR .u8 32 (z0Z d s))) ?_ rfl ⟨rfl,z06 HC.out.2.2 (by omega) _⟩
    exact results_cell_row rfl _ _ (w.heap.size+1) 35 _ (0,0) _ rfl (HC.out.2.1.row _) Tryz.underlying35 rfl (z03 _)
  · have d2:1≤d:=by omega
    by_cases d3:d<32
    · obtain ⟨n,rfl⟩:∃ n:Nat,d=(n:Int):=⟨d.toNat,by omega⟩
      have hW:WID n=n:=by unfold WID;omega
      have K:=z42 n n hW (by omega) s w
      have HCL:Aside _:=K.1
      have HC:Aside _:=K.2
      have hsl:=z5y w.heap.size n (by omega) (n:Int) rfl
      clear K hW
      go_enter Tryz.func157,Tryz.ntmps157
      go_wp2
      rw [HCL.out]
      go_wp2_with (first
        | (refine wpList_load_row rfl 35 _ rfl _ rfl _ _ (0,0) _ HC.out.1 Tryz.underlying35 rfl (z03 _) ?_)
        | (refine wpList_store_row rfl 35 _ _ rfl _ _ rfl rfl _ _ HC.out.2.1 (z03 _) (by rw [z01,z01]) (z0f _ _ _) ?_))
      refine bodyPost_ret (v:=.agg (UARR .u8 32 (z0Z n s))) ?_ rfl ⟨rfl,z06 HC.out.2.2 (by omega) _⟩
      exact results_cell_row rfl _ _ (w.heap.size+1) 35 _ (0,0) _ rfl (HC.out.2.1.row _) Tryz.underlying35 rfl (z03 _)
    · have hW:WID d=32:=by unfold WID;omega
      have HCL:Aside (∀ ty b (w:World),(Builtin.clear_ #[53] ty #[.slice (some ⟨b,0,none⟩) 0 0]).run Tryz.prog w=.ok (.tuple #[]) w):=fun ty b w=>by simp [Builtin.clear_,run_underlying Tryz.underlying53]
      have HC:Aside (Has ((w.alloc (.cells (UARR .u8 32 s) 35)).alloc (.cells (UARR .u8 32 fun _=>0) 35)) w.heap.size (UARR .u8 32 (z0Z d s)) 35∧Has ((w.alloc (.cells (UARR .u8 32 s) 35)).alloc (.cells (UARR .u8 32 fun _=>0) 35)) (w.heap.size+1) (UARR .u8 32 fun _=>0) 35∧Below w.heap.size w ((w.alloc (.cells (UARR .u8 32 s) 35)).alloc (.cells (UARR .u8 32 fun _=>0) 35))):=
        ⟨by rw [z7z hW];exact (Has.new w _ _).alloc _,Has.at _ _ _ (by simp),((Below.refl _ _).alloc (Nat.le_refl _) _).alloc (by simp) _⟩
      rcases Int.lt_or_eq_of_le (show (32:Int)≤d by omega) with d4 | d4
      · clear hW
        go_enter Tryz.func157,Tryz.ntmps157
        go_wp2
        rw [HCL.out]
        go_wp2_with (first
          | (refine wpList_load_row rfl 35 _ rfl _ rfl _ _ (0,0) _ HC.out.1 Tryz.underlying35 rfl (z03 _) ?_)
          | (refine wpList_store_row rfl 35 _ _ rfl _ _ rfl rfl _ _ HC.out.2.1 (z03 _) (by rw [z01,z01]) (z0f _ _ _) ?_))
        refine bodyPost_ret (v:=.agg (UARR .u8 32 (z0Z d s))) ?_ rfl ⟨rfl,z06 HC.out.2.2 (by omega) _⟩
        exact results_cell_row rfl _ _ (w.heap.size+1) 35 _ (0,0) _ rfl (HC.out.2.1.row _) Tryz.underlying35 rfl (z03 _)
      · subst d4
        clear hW
        go_enter Tryz.func157,Tryz.ntmps157
        go_wp2
        rw [HCL.out]
        go_wp2_with (first
          | (refine wpList_load_row rfl 35 _ rfl _ rfl _ _ (0,0) _ HC.out.1 Tryz.underlying35 rfl (z03 _) ?_)
          | (refine wpList_store_row rfl 35 _ _ rfl _ _ rfl rfl _ _ HC.out.2.1 (z03 _) (by rw [z01,z01]) (z0f _ _ _) ?_))
        refine bodyPost_ret (v:=.agg (UARR .u8 32 (z0Z 32 s))) ?_ rfl ⟨rfl,z06 HC.out.2.2 (by omega) _⟩
        exact results_cell_row rfl _ _ (w.heap.size+1) 35 _ (0,0) _ rfl (HC.out.2.1.row _) Tryz.underlying35 rfl (z03 _)
end Go.Proofs.YtjkjlblongeljaaGreatDoor.HX
