/- Texts of SpanMakes, one behind the other: PosPeaksCall, PosPath, PosSpotRow, PosTops, PosRefPeaks, PosRefPeak, PosHas, PosRefPath, PosAwake, PosFour, CutCalls, CutHas, CutSpan, CutOver, ProofPlaces. -/
import Derived.RangeFuncNested
import Derived.Deep.AppendLies
import Derived.Test.YtnmalbngdhjhjaaGreatDoorProg
import Derived.WalkKit
import Derived.WalkLawsBesides
import Derived.Deep.WholeRow
import Derived.Deep.LoopGhost
import Derived.Laws.ResultCell
import Derived.Laws.Rows
import Derived.Laws.Tables
import Derived.Deep.QuietTactic
import Derived.BigQuiet
import Derived.Test.YtnmalbngdhjhjaaGreatDoorSpanMakesP21
namespace Go.Proofs.YtnmalbngdhjhjaaGreatDoor
open Go.RowKit Go.Shelf
attribute [local go_sem] Oper.semAt_some
def z0k (l:List Nat):List Value:=l.map fun (x:Nat)=>Value.int .u64 (x:Int)
theorem z2p (l:List Nat) (x:Nat):z0k (l ++ [x])=z0k l ++ [.int .u64 (x:Int)]:=by simp [z0k]
theorem z1F:(Tryz.prog.info? 24).map (fun i=>(i.zero,i.size,i.bytes))=some (some (.int .u64 0),1,8):=by kernel_rfl
theorem zek (n:Nat) (hn:n≤64) (w:World):∃ cur:Array Value,cur.size=n∧(Instr.makeSlice 23 (.int .i64 0) (.int .i64 (n:Int))).run Tryz.prog w=.ok (.slice (some ⟨w.heap.size,0,none⟩) 0 n) (w.alloc (.cells cur 24)):=by
  obtain ⟨i,hi,hz,hs1,hby⟩:=info_parts z1F
  have h:=run_make (P:=Tryz.prog) w 23 24 i (.int .u64 0) Tryz.underlying23 hi hz .i64 .i64 0 n (by omega) (by omega) (by rw [hby];omega) (by omega)
  refine ⟨_,?_,h⟩
  rw [size_madeCells,hs1]
  omega
def HTS (pre:List (Nat × Fin 64)):List Nat:=pre.map fun x=>x.2.val
theorem zel (pre:List (Nat × Fin 64)) (x:Nat × Fin 64):HTS (pre ++ [x])=HTS pre ++ [x.2.val]:=by simp [HTS]
theorem zcO (l:List Nat):(ST l).2.length=l.length:=by
  have key:∀ (l:List Nat) (s:Nat × List Nat),(l.foldl (fun s h=>((s.1+TREE h) % 2 ^ 64,s.2 ++ [((s.1+TREE h) % 2 ^ 64+(2 ^ 64 - 1)) % 2 ^ 64])) s).2.length=s.2.length+l.length:=by
    intro l
    induction l with
    | nil=>intro s;simp
    | cons h l ih=>
      intro s
      rw [List.foldl_cons,ih]
      simp
      omega
  have:=key l (0,[])
  simpa [ST] using this
theorem zhg (l:List Nat):(ST l).1<2 ^ 64:=by
  rcases List.eq_nil_or_concat l with rfl | ⟨i,x,rfl⟩
  · simp [ST]
  · rw [List.concat_eq_append,z6A]
    exact Nat.mod_lt _ (by decide)
theorem zem (X:Nat) (f:Nat→Fin 64) (hf:∀ j,j<POP X→(f j).val=z3W X j):HTS (UPTO (BACK (POP X) f) (POP X))=(z0w X).reverse:=by
  apply List.ext_getElem?
  intro j
  by_cases hj:j<POP X
  · rw [List.getElem?_reverse (by rw [z0G];exact hj),z0G,z5r (by omega),← hf _ (by omega)]
    simp [HTS,UPTO,BACK,hj]
  · rw [List.getElem?_eq_none (by simp [HTS,UPTO];omega),List.getElem?_eq_none (by rw [List.length_reverse,z0G];omega)]
theorem z0s {w:World} {base base':Nat} {t:TypeId} {s:Nat} {v:Value} {n:Nat} {xs:List Value} (h:w.ownsRow base t s v n xs) (hb:base'≤base):w.ownsRow base' t s v n xs:=
  ⟨h.1,h.2.imp id fun ⟨g,c,cur,a,b,r⟩=>⟨g,c,cur,a,Nat.le_trans hb b,r⟩⟩
set_option maxRecDepth 100000 in
set_option maxHeartbeats 2000000 in
theorem zen (X:Nat) (hX:X≤4611686018427387904) (w:World) (hT:Tabled w) (h0:0<w.heap.size):Calls Tryz.prog 126 #[.int .u64 (X:Int)] w fun e w'=>
    ∃ g cap,e=.returned (.slice (some ⟨g,0,none⟩) (PC X) cap)∧w'.ownsRow w.heap.size 24 1 (.slice (some ⟨g,0,none⟩) (PC X) cap) (PC X) (z0k (z3i X))∧Below w.heap.size w w':=by
  obtain ⟨i0,hi,hz0,hz1,hz2⟩:=info_parts z1F
  have cb:=zfx X (by omega) w hT h0
  have hle:=z63 X
  obtain ⟨f,hf⟩:∃ f:Nat→Fin 64,∀ j,j<POP X→(f j).val=z3W X j:=⟨fun j=>if h:j<POP X then ⟨z3W X j,by have:=zea h;omega⟩ else 0,fun j hj=>by simp [hj]⟩
  have hba:=zem X f hf
  have hplc:=fun (w':World) (base g n cap:Nat) (h:w'.ownsRow base 3 1 (.slice (some ⟨g,0,none⟩) n cap) n (z0W (z0w X)))=>zcG h
  have hpc:POP X=PC X:=zcm (by omega)
  generalize POP X=p at *
  obtain ⟨L,hL⟩:∃ L,z0W (z0w X)=L:=⟨_,rfl⟩
  simp only [hL] at hplc cb
  have HA:Aside (HTS (UPTO (BACK p f) p)=(z0w X).reverse∧p=PC X∧X≤4611686018427387904):=⟨hba,hpc,hX⟩
  clear hba hpc hX hL hT h0
  have hd:¬ (4611686018427387904:Int)<(X:Int):=by have:=HA.out.2.2;omega
  refine (callsIn_wide (n:=5)).1 ?_
  refine callsIn_of_wp_marks Tryz.func126 rfl trivial ?_ rfl
  simp only [Tryz.ntmps126,List.size_toArray,List.length_cons,List.length_nil,Nat.reduceAdd,Nat.reduceSub,Array.replicate_succ,Array.replicate_zero,List.push_toArray,List.append_toArray,List.nil_append,List.cons_append]
  gi_wp2_with fail
  refine ⟨trivial,(callsIn_wide.2 cb).mono ?_⟩
  rintro e w1 ⟨g,cap,rfl,hrow,hg,hb⟩
  clear cb
  obtain ⟨cur,hcs,hmk⟩:=zek p hle w1
  gi_wp2_with fail
  refine ⟨trivial,(z9s Fence.wide 4 trivial rfl _ _ _ _).mono ?_⟩
  rintro e w2 ⟨rfl,rfl⟩
  obtain ⟨s1,hs1⟩:∃ s1,w1.heap.size=s1:=⟨_,rfl⟩
  have bO:=Boxed.new (w1.alloc (.cells cur 24)) 23 (.slice (some ⟨w1.heap.size,0,none⟩) 0 p)
  have bM:=Boxed.new ((w1.alloc (.cells cur 24)).alloc (.cells #[.slice (some ⟨w1.heap.size,0,none⟩) 0 p] 23)) 24 (.int .u64 0)
  have bN:=Boxed.new (((w1.alloc (.cells cur 24)).alloc (.cells #[.slice (some ⟨w1.heap.size,0,none⟩) 0 p] 23)).alloc (.cells #[.int .u64 0] 24)) 220 (.slice (some ⟨g,0,none⟩) p cap)
  have hr0:(w1.alloc (.cells cur 24)).ownsRow s1 24 1 (.slice (some ⟨s1,0,none⟩) 0 p) 0 []:=by
    rw [← hs1]
    exact World.ownsRow_made w1 cur p (Nat.le_refl _) (by simp only [maxLen];omega) (by rw [hcs];omega)
  simp only [World.size_alloc,hs1] at bO bM bN ⊢
  have bO:=(bO.alloc (.cells #[.int .u64 0] 24)).alloc (.cells #[.slice (some ⟨g,0,none⟩) p cap] 220)
  have bM:=bM.alloc (.cells #[.slice (some ⟨g,0,none⟩) p cap] 220)
  have hr0:=((hr0.alloc (.cells #[.slice (some ⟨s1,0,none⟩) 0 p] 23)).alloc (.cells #[.int .u64 0] 24)).alloc (.cells #[.slice (some ⟨g,0,none⟩) p cap] 220)
  have hB1:Below s1 w1 ((((w1.alloc (.cells cur 24)).alloc (.cells #[.slice (some ⟨s1,0,none⟩) 0 p] 23)).alloc (.cells #[.int .u64 0] 24)).alloc (.cells #[.slice (some ⟨g,0,none⟩) p cap] 220)):=
    ((((Below.refl _ w1).alloc (by omega) _).alloc (by simp;omega) _).alloc (by simp;omega) _).alloc (by simp;omega) _
  have hgs:g<s1:=by omega
  have hcg:∀ j,j<p→w1.cell? ⟨g,j,none⟩=some (.int .i64 ((f j).val:Int)):=fun j hj=>by rw [hf j hj];exact hplc _ _ _ _ _ hrow j hj
  have hsz:((((w1.alloc (.cells cur 24)).alloc (.cells #[.slice (some ⟨s1,0,none⟩) 0 p] 23)).alloc (.cells #[.int .u64 0] 24)).alloc (.cells #[.slice (some ⟨g,0,none⟩) p cap] 220)).heap.size=s1+4:=by simp;omega
  obtain ⟨W0,hW0⟩:∃ W0,((((w1.alloc (.cells cur 24)).alloc (.cells #[.slice (some ⟨s1,0,none⟩) 0 p] 23)).alloc (.cells #[.int .u64 0] 24)).alloc (.cells #[.slice (some ⟨g,0,none⟩) p cap] 220))=W0:=⟨_,rfl⟩
  rw [hW0] at bO bM bN hr0 hB1 hsz ⊢
  have hbw:Below w.heap.size w W0:=hb.trans (hB1.mono (by have:=hb.size;omega))
  clear hW0
  gi_wp2_with fail
  refine wpIn_rangeFunc_ownG rfl (by omega) (gf:=219) (lb:=#[.pointer (some ⟨s1+1+1+1,0,none⟩)]) rfl trivial (enters_of Tryz.func219 (by kernel_rfl) rfl)
    (z6C Fence.wide (5 - 1) trivial rfl (by omega) (s1+1+1+1) s1 g p cap f hle hgs W0 (by omega) (by omega) bN.cell (fun j hj=>(hB1.cell (p:=⟨g,j,none⟩) hgs).trans (hcg j hj)))
    KB.t (KB.b (by omega) (by omega)) (Below.refl _ _) (fun _=>rfl)
    (fun pre W=>((∃ v,Boxed W (s1+1) 23 v∧W.ownsRow s1 24 1 v pre.length (z0k (ST (HTS pre)).2)∧v=.slice (some ⟨s1,0,none⟩) pre.length p)∧Boxed W (s1+1+1) 24 (.int .u64 ((ST (HTS pre)).1:Int))∧Boxed W (s1+1+1+1) 220 (.slice (some ⟨g,0,none⟩) p cap))∧Below w.heap.size w W)
    (fun _ _ _=>False)
    (OwnFrom.and (OwnFrom.and (Own.from (holdsRow_own s1 (s1+1) 23 24 1 (fun pre=>pre.length) (fun pre=>z0k (ST (HTS pre)).2) (fun pre v=>v=.slice (some ⟨s1,0,none⟩) pre.length p)) _) (OwnFrom.and (Own.from (boxed_own _ _ _) _) (Own.from (boxed_own _ _ _) _))) (ownFrom_below (Nat.le_refl _) (by have:=hb.size;omega)))
    (fun _ _ _ _ _ hs _ _=>hs)
    ⟨⟨⟨_,bO,hr0,rfl⟩,bM,bN⟩,hbw⟩
    (fun x=>{tmps:=#[.int .u64 (X:Int),undef,.slice none 0 0,.slice (some ⟨g,0,none⟩) p cap,.pointer (some ⟨s1+1,0,none⟩),.pointer (some ⟨s1+1+1,0,none⟩),undef,.int .i64 (x.2.val:Int),.int .u64 (X:Int),.bool false,.int .u64 (X:Int),.slice (some ⟨g,0,none⟩) p cap,.slice (some ⟨g,0,none⟩) p cap,.int .i64 (p:Int),.slice (some ⟨s1,0,none⟩) 0 p,.slice (some ⟨g,0,none⟩) p cap,.func (.func 219) #[] #[.pointer (some ⟨s1+1+1+1,0,none⟩)],.int .i64 (x.1:Int),.int .i64 (x.2.val:Int),undef,undef,undef,undef,undef,undef,undef,undef,undef,undef],defers:=[]}) ?assign ?body ?done ?stop
  case assign=>
    intro l x W K hK
    gi_wp2
    exact hK
  case body=>
    rintro l pre x W ⟨⟨⟨v,bO,hrow,rfl⟩,bM,bN⟩,hB⟩ hlt
    have hsn:=z6A (HTS pre) x.2.val
    have hml:=zhg (HTS pre)
    have hsl:=zcO (HTS pre)
    rw [show (HTS pre).length=pre.length by simp [HTS]] at hsl
    obtain ⟨m,hm⟩:∃ m,(ST (HTS pre)).1=m:=⟨_,rfl⟩
    obtain ⟨ls,hls⟩:∃ ls,(ST (HTS pre)).2=ls:=⟨_,rfl⟩
    have ct:=fun w=>z2M x.2.val (by omega) w
    obtain ⟨t,ht⟩:∃ t,TREE x.2.val=t:=⟨_,rfl⟩
    rw [hm,hls,ht] at hsn
    rw [hm] at hml bM
    rw [hls] at hsl hrow
    rw [ht] at ct
    obtain ⟨m2,hm2⟩:∃ m2,(m+t) % 2 ^ 64=m2:=⟨_,rfl⟩
    obtain ⟨q,hq⟩:∃ q,(m2+(2 ^ 64 - 1)) % 2 ^ 64=q:=⟨_,rfl⟩
    rw [hm2,hq] at hsn
    have e1:IntKind.u64.wrap ((m:Int)+(t:Int))=(m2:Int):=by rw [z0a];omega
    have e2:IntKind.u64.wrap ((m2:Int) - 1)=(q:Int):=by rw [z0a];omega
    have R:Aside (ST (HTS (pre ++ [x]))=(m2,ls ++ [q])∧ls.length=pre.length∧pre.length<p):=⟨by rw [zel];exact hsn,hsl,hlt⟩
    clear hsn hml hsl hlt hm hls ht hm2 hq
    have hc4:=bO.cell
    have hc5:=bM.cell
    have hf5:=bM.frozen
    have hmx:Tryz.prog.follows .mixedOrders=true:=by kernel_rfl
    clear hplc hf hcg hz0 hz2
    have hsW:s1+4≤W.heap.size:=by have:=bN.lt;omega
    obtain ⟨W5,hW5⟩:∃ W5,(W.setCell ⟨s1+1+1,0,none⟩ (.int .u64 (m2:Int))).drew=W5:=⟨_,rfl⟩
    have bO5:Boxed W5 (s1+1) 23 (.slice (some ⟨s1,0,none⟩) pre.length p):=by rw [← hW5];exact bO.other (by omega) _
    have bM5:Boxed W5 (s1+1+1) 24 (.int .u64 (m2:Int)):=by rw [← hW5];exact bM.set _
    have bN5:Boxed W5 (s1+1+1+1) 220 (.slice (some ⟨g,0,none⟩) p cap):=by rw [← hW5];exact bN.other (by omega) _
    have hrow5:W5.ownsRow s1 24 1 (.slice (some ⟨s1,0,none⟩) pre.length p) pre.length (z0k ls):=by rw [← hW5];exact (hrow.kept (grownBy_setCell' W (s1+1+1) (.int .u64 (m2:Int))) (.inr (by simp [Value.ownBlock];omega))).drew
    have hk5:KeepsOthers W W5:=by rw [← hW5];exact (KeepsOthers.setCell _ _ _).trans (KeepsOthers.drew _)
    have hb5:Below s1 W W5:=by rw [← hW5];exact ((Below.refl s1 W).setCell (p:=⟨s1+1+1,0,none⟩) (by show s1≤s1+1+1;omega) _).drew
    have hs5:s1+4≤W5.heap.size:=by have:=bN5.lt;omega
    have hcN:W.cell? ⟨s1+1+1+1,0,none⟩=some (.slice (some ⟨g,0,none⟩) p cap):=bN.cell
    gi_wp2
    gi_region_with_o (refine ⟨trivial,?_⟩;gi_at_call 159;refine (CallsIn.inRound l (callsIn_wide.2 (ct _))).mono ?_;rintro e w' ⟨rfl,rfl⟩)
    all_goals clear hc4 hc5 hf5 bO bM bN hrow ct
    all_goals have hc4:=bO5.cell
    all_goals have hc5:=bM5.cell
    all_goals gi_wp2_with (gi_at_builtin;refine wpListIn_append_fits _ rfl _ _ 23 rfl s1 24 i0 1 Tryz.underlying23 hi hz1 s1 pre.length p (z0k ls) rfl (hrow5.alloc _) ⟨W5.heap.size,0,none⟩ 1 1 [.int .u64 (q:Int)] rfl rfl (cell_one_new _ _ _) (by simp [Value.oneCell']) (by have:=R.out.2.2;omega) ?_;intro w1' hown' hgrow;obtain ⟨hv1,hv2,hr2,hk2,hb2⟩:=bO5.appended (by decide) hrow5 (by omega) (by omega) hown' hgrow;have hc1:=hv1.cell;have hf1:=hv1.frozen)
    all_goals have bN6:=((bN5.alloc (.cells #[.int .u64 (q:Int)] 24)).kept hgrow (by simp;omega)).other (B':=s1+1) (by omega) (.slice (some ⟨s1,0,none⟩) (pre.length+1) p)
    all_goals have bM6:=((bM5.alloc (.cells #[.int .u64 (q:Int)] 24)).kept hgrow (by simp;omega)).other (B':=s1+1) (by omega) (.slice (some ⟨s1,0,none⟩) (pre.length+1) p)
    all_goals obtain ⟨r1,r2,r3⟩:=R.out
    all_goals refine ⟨(hk5.trans hk2).from _,⟨hb5.trans hb2,bN6.cell.trans hcN.symm⟩,⟨⟨_,hv2,?_,by simp⟩,?_,bN6⟩,hB.trans ((hb5.trans hb2).mono (by have:=hb.size;omega))⟩
    all_goals rw [r1]
    all_goals first | exact bM6 | (rw [z2p,List.length_append];exact hr2)
  case done=>
    rintro D ys W hD hys ⟨⟨⟨v,bO,hrow,rfl⟩,bM,bN⟩,hB⟩ hK
    have hc:=bO.cell
    gi_wp2
    refine ⟨by simp,.inl ⟨_,_,rfl,run_takeDeferred hK,?_⟩⟩
    have hys':ys=UPTO (BACK p f) p:=hys
    subst hys'
    obtain ⟨a1,a2,a3⟩:=HA.out
    have hl:(UPTO (BACK p f) p).length=p:=z57 _ _
    rw [hl,a1,← zfz,zgC a3] at hrow
    refine ⟨_,results_tmp rfl _ _ _,s1,p,?_,?_,hB.trans (belowK_b (w:=w) (Nat.le_refl _) W D _ _ (by have:=hb.size;omega) hK rfl rfl)⟩
    · rw [← a2,hl]
      rfl
    · rw [← a2]
      exact ownsRow_putObj (z0s hrow (by have:=hb.size;omega)) _ hK rfl
  case stop=>
    rintro D c pre W _ _ h _
    exact h.elim
end Go.Proofs.YtnmalbngdhjhjaaGreatDoor

namespace Go.Proofs.YtnmalbngdhjhjaaGreatDoor
open Go.RowKit
theorem zao {ops:Array Oper} {rest:List Oper} {o:Oper} {a:Act} {Q:Exit→Act→World→Prop} (w:World) (hgd:o.guard=none) (s x:Operand)
    (ho:o.op=.call {callee:=.builtin .append,args:=#[s,x],argTypes:=#[23,23]})
    (base:Nat) (v:Value) (n:Nat) (xs:List Nat) (hs:a.eval s=v) (hown:w.ownsRow base 24 1 v n (z0k xs))
    (b c:Nat) (y:Nat) (hx:a.eval x=.slice (some ⟨b,0,none⟩) 1 c) (hc:w.cell? ⟨b,0,none⟩=some (.int .u64 (y:Int)))
    (hb:n≤1000) (hbase:base≤w.heap.size)
    (h:∀ g cap w',w'.ownsRow base 24 1 (.slice (some ⟨g,0,none⟩) (n+1) cap) (n+1) (z0k (xs ++ [y]))→w.grownBy w' v.ownBlock→g<w'.heap.size→wpList Tryz.prog ops Q rest (a.put o.dst (.slice (some ⟨g,0,none⟩) (n+1) cap)) w'):wpList Tryz.prog ops Q (o :: rest) a w:=by
  obtain ⟨i,hi,hz,hs1,hby⟩:=info_parts z1F
  refine wpList_append_lies w hgd s x 23 ho base 24 i (.int .u64 0) 1 8 Tryz.underlying23 hi hz hs1 hby rfl (by decide) v n (z0k xs) hs hown ⟨b,0,none⟩ 1 c [.int .u64 (y:Int)] hx rfl ?_ (fun u hu=>by simp at hu;subst hu;rfl) (by decide) (by simp only [maxLen];omega) (by omega) hbase w.heap.size rfl ?_
  · intro j u hj
    cases j with
    | zero=>
      simp only [List.getElem?_cons_zero,Option.some.injEq] at hj
      subst hj
      exact hc
    | succ j=>simp at hj
  · intro g cap w' h1 h2 _ h4
    rw [← z2p] at h1
    exact h g cap w' h1 h2 h4
end Go.Proofs.YtnmalbngdhjhjaaGreatDoor

namespace Go.Proofs.YtnmalbngdhjhjaaGreatDoor
open Go.RowKit
def z0g (l:List (Nat × Nat)):List Value:=l.flatMap fun x=>[Value.int .u8 (x.1:Int),Value.int .u64 (x.2:Int)]
theorem z9t (l:List (Nat × Nat)) (h k:Nat):z0g (l ++ [(h,k)])=z0g l ++ [Value.int .u8 (h:Int),Value.int .u64 (k:Int)]:=by simp [z0g]
theorem z4D:∀ (l:List (Nat × Nat)) (j h k:Nat),l[j]?=some (h,k)→(z0g l)[j*2]?=some (.int .u8 (h:Int))∧(z0g l)[j*2+1]?=some (.int .u64 (k:Int))
  | [],j,h,k,e=>by simp at e
  | x :: l,0,h,k,e=>by
    simp at e
    subst e
    simp [z0g]
  | x :: l,j+1,h,k,e=>by
    have:=z4D l j h k (by simpa using e)
    have e1:(j+1)*2=j*2+1+1:=by omega
    simp only [z0g,List.flatMap_cons,List.cons_append,List.nil_append,e1,List.getElem?_cons_succ]
    exact this
theorem z78:(Tryz.prog.info? 104).map (fun i=>(i.zero,i.size,i.bytes))=some (some (.agg #[.int .u8 0,.int .u64 0]),2,16):=by kernel_rfl
theorem zeo {ops:Array Oper} {rest:List Oper} {o:Oper} {a:Act} {Q:Exit→Act→World→Prop} (w:World) (hgd:o.guard=none) (s x:Operand)
    (ho:o.op=.call {callee:=.builtin .append,args:=#[s,x],argTypes:=#[100,100]})
    (base:Nat) (v:Value) (n:Nat) (xs:List (Nat × Nat)) (hs:a.eval s=v) (hown:w.ownsRow base 104 2 v n (z0g xs))
    (b c:Nat) (h k:Nat) (hx:a.eval x=.slice (some ⟨b,0,none⟩) 1 c) (hc0:w.cell? ⟨b,0,none⟩=some (.int .u8 (h:Int))) (hc1:w.cell? ⟨b,1,none⟩=some (.int .u64 (k:Int)))
    (hb:n≤1000) (hbase:base≤w.heap.size)
    (hh:∀ g cap w',w'.ownsRow base 104 2 (.slice (some ⟨g,0,none⟩) (n+1) cap) (n+1) (z0g (xs ++ [(h,k)]))→w.grownBy w' v.ownBlock→g<w'.heap.size→wpList Tryz.prog ops Q rest (a.put o.dst (.slice (some ⟨g,0,none⟩) (n+1) cap)) w'):wpList Tryz.prog ops Q (o :: rest) a w:=by
  obtain ⟨i,hi,hz,hs1,hby⟩:=info_parts z78
  refine wpList_append_lies w hgd s x 100 ho base 104 i _ 2 16 Tryz.underlying100 hi hz hs1 hby rfl (by decide) v n (z0g xs) hs hown ⟨b,0,none⟩ 1 c [.int .u8 (h:Int),.int .u64 (k:Int)] hx rfl ?_ (fun u hu=>by simp at hu;rcases hu with rfl | rfl <;> rfl) (by decide) (by simp only [maxLen];omega) (by omega) hbase w.heap.size rfl ?_
  · intro j u hj
    match j,hj with
    | 0,hj=>
      simp only [List.getElem?_cons_zero,Option.some.injEq] at hj
      subst hj
      exact hc0
    | 1,hj=>
      simp only [List.getElem?_cons_succ,List.getElem?_cons_zero,Option.some.injEq] at hj
      subst hj
      exact hc1
    | j+2,hj=>simp at hj
  · intro g cap w' h1 h2 _ h4
    rw [← z9t] at h1
    exact hh g cap w' h1 h2 h4
def Spots (w:World) (a:Option Addr) (l:List (Nat × Nat)):Prop:=0<l.length→∃ g,a=some ⟨g,0,none⟩∧g<w.heap.size∧∀ (j h k:Nat),l[j]?=some (h,k)→w.cell? ⟨g,j*2,none⟩=some (.int .u8 (h:Int))∧w.cell? ⟨g,j*2+1,none⟩=some (.int .u64 (k:Int))
theorem Spots.below {w w':World} {a:Option Addr} {l:List (Nat × Nat)} (h:Spots w a l) (hb:Below w.heap.size w w'):Spots w' a l:=fun h0=>by
  obtain ⟨g,e,hg,hc⟩:=h h0
  exact ⟨g,e,Nat.lt_of_lt_of_le hg hb.size,fun j x y he=>⟨(hb.cell (p:=⟨g,j*2,none⟩) hg).trans (hc j x y he).1,(hb.cell (p:=⟨g,j*2+1,none⟩) hg).trans (hc j x y he).2⟩⟩
theorem zcP {w:World} {base n:Nat} {v:Value} {l:List (Nat × Nat)} (hl:l.length=n) (h:w.ownsRow base 104 2 v n (z0g l)):∃ a cap,v=.slice a n cap∧Spots w a l:=by
  rcases h.2 with ⟨rfl,h0⟩ | ⟨g,cap,cur,rfl,hb,hg,r⟩
  · subst h0
    exact ⟨none,0,rfl,fun h=>by omega⟩
  · refine ⟨_,cap,rfl,fun h0=>⟨g,rfl,?_,fun j x y he=>?_⟩⟩
    · exact (Array.getElem?_eq_some_iff.1 hg).1
    · have hj:j<n:=by rw [← hl];exact (List.getElem?_eq_some_iff.1 he).1
      have h1:=z4D l j x y he
      exact ⟨(h.cellAt (j*2) (by omega)).trans h1.1,(h.cellAt (j*2+1) (by omega)).trans h1.2⟩
theorem z0b {w w':World} {base:Nat} {t:TypeId} {s:Nat} {v:Value} {n:Nat} {xs:List Value} (h:w.ownsRow base t s v n xs) (hb:Below w.heap.size w w'):w'.ownsRow base t s v n xs:=by
  refine ⟨h.1,h.2.imp id ?_⟩
  rintro ⟨g,c,cur,a,b,r,rest⟩
  exact ⟨g,c,cur,a,b,(hb.block g (Array.getElem?_eq_some_iff.1 r).1).trans r,rest⟩
end Go.Proofs.YtnmalbngdhjhjaaGreatDoor

namespace Go.Proofs.YtnmalbngdhjhjaaGreatDoor
open Go.RowKit
def TOPS (h n:Nat):List (Nat × Nat):=(HS h n).map fun g=>(g,2*(n / 2 ^ (g+1)))
theorem zep {h n:Nat} (hh:h<64) (hb:n / 2 ^ h % 2=1):TOPS h n=TOPS (h+1) n ++ [(h,2*(n / 2 ^ (h+1)))]:=by
  unfold TOPS
  rw [z3y hh hb,List.map_append]
  rfl
theorem zbm {h n:Nat} (hh:h<64) (hb:¬ n / 2 ^ h % 2=1):TOPS h n=TOPS (h+1) n:=by
  unfold TOPS
  rw [z2Z hh hb]
theorem z9u {n:Nat} (hn:n<2 ^ 64) (h:Nat) (hh:h≤64):(TOPS h n).length=PC (n / 2 ^ h):=by
  unfold TOPS
  rw [List.length_map]
  exact z4B hn h hh
theorem zbn {n h at' r:Nat} (ha:at'=n / 2 ^ (h+1)*2 ^ (h+1)) (hr:r=n - at'):at'≤n∧(2 ^ h≤r↔n / 2 ^ h % 2=1)∧at' / 2 ^ h=2*(n / 2 ^ (h+1))∧(n / 2 ^ h % 2=1→at'+2 ^ h=n / 2 ^ h*2 ^ h)∧(¬ n / 2 ^ h % 2=1→at'=n / 2 ^ h*2 ^ h):=by
  have hp:=Nat.two_pow_pos h
  have e1:at'=2*(n / 2 ^ (h+1))*2 ^ h:=by rw [ha,z0X]
  have hd:=Nat.div_add_mod n (2 ^ h)
  have hm:=Nat.mod_lt n hp
  rw [Nat.mul_comm] at hd
  have hq:at' / 2 ^ h=2*(n / 2 ^ (h+1)):=by rw [e1,Nat.mul_div_cancel _ hp]
  by_cases hb:n / 2 ^ h % 2=1
  · have h2:=z64 hb
    have e2:n / 2 ^ h*2 ^ h=at'+2 ^ h:=by rw [h2,Nat.add_mul,Nat.one_mul,← e1]
    exact ⟨by omega,⟨fun _=>hb,fun _=>by omega⟩,hq,fun _=>e2.symm,fun h=>absurd hb h⟩
  · have h2:=z8d hb
    have e2:n / 2 ^ h*2 ^ h=at':=by rw [h2,← e1]
    exact ⟨by omega,⟨fun _=>by omega,fun h=>absurd h hb⟩,hq,fun h=>absurd h hb,fun _=>e2.symm⟩
set_option maxHeartbeats 1000000 in
theorem zfJ (n:Nat) (hn:n≤4611686018427387904) (w:World):Calls Tryz.prog 58 #[.int .u64 (n:Int)] w fun e w'=>
    ∃ v,e=.returned v∧w'.ownsRow w.heap.size 104 2 v (PC n) (z0g (TOPS 0 n))∧Below w.heap.size w w':=by
  have HN:Aside (n≤4611686018427387904):=hn
  have hd:¬ (4611686018427387904:Int)<(n:Int):=by omega
  clear hn
  go_enter Tryz.func58,Tryz.ntmps58
  go_wp2
  go_loopg [3,4,5] 63 (fun q s3 s4 s5 wx=>∃ a:Nat,s4=.int .u64 (a:Int)∧s5=.int .i64 ((q:Int) - 1)∧Aside (q≤63∧a=n / 2 ^ q*2 ^ q∧wx.ownsRow w.heap.size 104 2 s3 (PC (n / 2 ^ q)) (z0g (TOPS q n))∧Below w.heap.size w wx))
  case atStart=>
    have hz:n / 2 ^ 63=0:=Nat.div_eq_of_lt (by have:=HN.out;omega)
    refine ⟨0,rfl,rfl,by omega,by rw [hz,Nat.zero_mul],?_,Below.refl _ _⟩
    rw [hz,z0Z]
    have ht:TOPS 63 n=[]:=by
      unfold TOPS
      rw [z8c (by have:=HN.out;omega)]
      rfl
    rw [ht]
    exact ⟨rfl,.inl ⟨rfl,rfl⟩⟩
  case round=>
    obtain ⟨a,rfl,rfl,A⟩:=hrel
    cases gk with
    | zero=>
      have hlt:¬ (0:Int)≤((0:Nat):Int) - 1:=by omega
      go_wp2
      go_ret
      obtain ⟨_,_,hown,hbel⟩:=A.out
      rw [Nat.pow_zero,Nat.div_one] at hown
      exact ⟨_,rfl,hown,hbel⟩
    | succ h=>
      obtain ⟨h63,ha,hown,hbel⟩:=A.out
      have hnn:=HN.out
      obtain ⟨r,hr⟩:∃ r,r=n - a:=⟨_,rfl⟩
      obtain ⟨p1,p2,p3,p4,p5⟩:=zbn ha hr
      have c:=z15 h (by omega)
      have hpw:2 ^ h≤2 ^ 62:=Nat.pow_le_pow_right (by decide) (by omega)
      have hp0:=Nat.two_pow_pos h
      have e0:((h+1:Nat):Int) - 1=(h:Int):=by omega
      have e0':¬ (h:Int)<0:=by omega
      have e1:IntKind.u64.wrap ((n:Int) - (a:Int))=(r:Int):=by rw [z0a];omega
      have e3:(h:Int) % 256=(h:Int):=by omega
      have e4:wrap64 ((h:Int) - 1)=(h:Int) - 1:=by unfold wrap64;omega
      rw [e0]
      by_cases hb:n / 2 ^ h % 2=1
      · have hge:2 ^ h≤r:=p2.2 hb
        have pq:=p4 hb
        have e5:(a:Int) / ((2 ^ h:Nat):Int)=((2*(n / 2 ^ (h+1)):Nat):Int):=by rw [← p3,Int.natCast_ediv]
        have hT:=zep (n:=n) (h:=h) (by omega) hb
        have hPC:PC (n / 2 ^ h)=PC (n / 2 ^ (h+1))+1:=by rw [z0C,← z10];omega
        have hlen:PC (n / 2 ^ (h+1))≤1000:=by have:=z3f 64 (n / 2 ^ (h+1)) (Nat.lt_of_le_of_lt (Nat.div_le_self _ _) (by omega));omega
        have hk64:2*(n / 2 ^ (h+1))<2 ^ 64:=by rw [← p3];exact Nat.lt_of_le_of_lt (Nat.div_le_self _ _) (by omega)
        generalize 2*(n / 2 ^ (h+1))=k at *
        have e7:IntKind.u64.wrap (k:Int)=(k:Int):=by rw [z0a];omega
        have e6:IntKind.u64.wrap ((a:Int)+((2 ^ h:Nat):Int))=((n / 2 ^ h*2 ^ h:Nat):Int):=by rw [z0a,← pq];omega
        have hge':((2 ^ h:Nat):Int)≤(r:Int):=by omega
        have hz0:¬ ((2 ^ h:Nat):Int)=0:=by omega
        generalize hm:PC (n / 2 ^ (h+1))=m at *
        generalize hl:TOPS (h+1) n=l at *
        generalize ((2 ^ h:Nat):Int)=z at *
        generalize hx:n / 2 ^ h*2 ^ h=x at *
        have R:Aside (h≤62∧x=n / 2 ^ h*2 ^ h∧wr.ownsRow w.heap.size 104 2 u3 m (z0g l)∧Below w.heap.size w wr∧m≤1000∧PC (n / 2 ^ h)=m+1∧TOPS h n=l ++ [(h,k)]):=⟨by omega,hx.symm,hown,hbel,hlen,hPC,hT⟩
        clear A HN h63 ha hown hbel hnn hr p1 p2 p3 p4 p5 hpw hp0 hb hge pq hT hPC hlen hk64 hm hl hx
        go_wp2_with fail
        refine (c _).mono ?_
        rintro e w' ⟨rfl,rfl⟩
        go_wp2_with fail
        refine (c _).mono ?_
        rintro e w' ⟨rfl,rfl⟩
        go_wp2_with (at_builtin;refine zeo _ rfl (.tmp 19) (.tmp 27) rfl w.heap.size u3 m l rfl (R.out.2.2.1.alloc _) wr.heap.size 1 h k rfl (by rw [World.cell?_alloc_at _ _ _ _ rfl];rfl) (by rw [World.cell?_alloc_at _ _ _ _ rfl];rfl) R.out.2.2.2.2.1 (by have:=R.out.2.2.2.1.size;simp;omega) ?_;intro g' cap w1 hown hgrow hg)
        obtain ⟨r1,r2,r3,r4,r5,r6,r7⟩:=R.out
        have R2:Aside (h≤63∧x=n / 2 ^ h*2 ^ h∧w1.ownsRow w.heap.size 104 2 (.slice (some ⟨g',0,none⟩) (m+1) cap) (PC (n / 2 ^ h)) (z0g (TOPS h n))∧Below w.heap.size w w1):=⟨by omega,r2,by rw [r6,r7];exact hown,(r4.alloc r4.size _).grown hgrow (by have:=r4.size;simp;omega) (fun k e=>(r3.lt k e).1)⟩
        clear hown hgrow hg R r1 r2 r3 r4 r5 r6 r7
        refine (c _).mono ?_
        rintro e w' ⟨rfl,rfl⟩
        clear c
        go_wp2
        go_roundg h
        case measure=>omega
        case rel=>exact ⟨x,by first | rfl | (rw [e6]),by first | rfl | (rw [e4]),R2.out⟩
      · have hge:¬ 2 ^ h≤r:=fun h=>hb (p2.1 h)
        have pq:=p5 hb
        have hge':¬ ((2 ^ h:Nat):Int)≤(r:Int):=by omega
        have hT:=zbm (n:=n) (h:=h) (by omega) hb
        have hPC:PC (n / 2 ^ h)=PC (n / 2 ^ (h+1)):=by rw [z0C,← z10];omega
        generalize ((2 ^ h:Nat):Int)=z at *
        have R:Aside (h≤63∧a=n / 2 ^ h*2 ^ h∧wr.ownsRow w.heap.size 104 2 u3 (PC (n / 2 ^ h)) (z0g (TOPS h n))∧Below w.heap.size w wr):=⟨by omega,pq,by rw [hT,hPC];exact hown,hbel⟩
        clear A HN h63 ha hown hbel hnn hr p1 p2 p3 p4 p5 hpw hp0 hb hge pq hT hPC
        go_wp2_with fail
        refine (c _).mono ?_
        rintro e w' ⟨rfl,rfl⟩
        clear c
        go_wp2
        go_roundg h
        case measure=>omega
        case rel=>exact ⟨a,rfl,by first | rfl | (rw [e4]),R.out⟩
end Go.Proofs.YtnmalbngdhjhjaaGreatDoor

namespace Go.Proofs.YtnmalbngdhjhjaaGreatDoor
open Go.RowKit
theorem zbo (n:Nat) (hn:n≤4611686018427387904) (w:World):Calls Tryz.prog 58 #[.int .u64 (n:Int)] w fun e w'=>
    ∃ a cap,e=.returned (.slice a (PC n) cap)∧Spots w' a (TOPS 0 n)∧Below w.heap.size w w':=by
  refine (zfJ n hn w).mono ?_
  rintro e w' ⟨v,rfl,hown,hb⟩
  have hl:=z9u (n:=n) (by omega) 0 (by omega)
  rw [Nat.pow_zero,Nat.div_one] at hl
  obtain ⟨a,cap,rfl,hs⟩:=zcP hl hown
  exact ⟨a,cap,rfl,hs,hb⟩
end Go.Proofs.YtnmalbngdhjhjaaGreatDoor

namespace Go.Proofs.YtnmalbngdhjhjaaGreatDoor
open Go.RowKit
end Go.Proofs.YtnmalbngdhjhjaaGreatDoor

namespace Go.Proofs.YtnmalbngdhjhjaaGreatDoor
open Go.RowKit
def Has (w:World) (g:Nat) (c:Array Value) (t:TypeId):Prop:=w.heap[g]?=some (.cells c t)
theorem Has.cell {w:World} {g:Nat} {c:Array Value} {t:TypeId} (h:Has w g c t) (i:Nat):w.cell? ⟨g,i,none⟩=c[i]?:=cell_of_row w g i c t _ h
theorem Has.lt {w:World} {g:Nat} {c:Array Value} {t:TypeId} (h:Has w g c t):g<w.heap.size:=(Array.getElem?_eq_some_iff.1 h).1
theorem Has.frozen {w:World} {g:Nat} {c:Array Value} {t:TypeId} (h:Has w g c t) (i:Nat):w.frozen? ⟨g,i,none⟩=false:=by
  have e:w.heap[g]?=some (.cells c t):=h
  simp [World.frozen?,e]
theorem Has.set {w:World} {g:Nat} {c:Array Value} {t:TypeId} (h:Has w g c t) (i:Nat) (v:Value):Has (w.setCell ⟨g,i,none⟩ v) g (c.setIfInBounds i v) t:=by
  have e:w.heap[g]?=some (.cells c t):=h
  unfold Has
  rw [setCell_eq_setRow w g i c t _ v e,setRow_heap w g c _ t _ e]
theorem Has.other {w:World} {g:Nat} {c:Array Value} {t:TypeId} (h:Has w g c t) {a:Addr} (ha:g≠a.block) (v:Value):Has (w.setCell a v) g c t:=by
  have e:w.heap[g]?=some (.cells c t):=h
  unfold Has
  rw [Below.heap_setCell w a v g ha,e]
theorem Has.below {B:Nat} {w w':World} {g:Nat} {c:Array Value} {t:TypeId} (h:Has w g c t) (hb:Below B w w') (hg:g<B):Has w' g c t:=(hb.block g hg).trans h
theorem Has.keep {w w':World} {g:Nat} {c:Array Value} {t:TypeId} (h:Has w g c t) (hb:Below w.heap.size w w'):Has w' g c t:=h.below hb h.lt
theorem Has.alloc {w:World} {g:Nat} {c:Array Value} {t:TypeId} (h:Has w g c t) (o:Obj):Has (w.alloc o) g c t:=by
  have e:w.heap[g]?=some (.cells c t):=h
  unfold Has
  rw [Below.heap_alloc w o g h.lt,e]
theorem Has.new (w:World) (c:Array Value) (t:TypeId):Has (w.alloc (.cells c t)) w.heap.size c t:=heap_alloc_new w _
theorem Has.at (w:World) (c:Array Value) (t:TypeId) {g:Nat} (hg:g=w.heap.size):Has (w.alloc (.cells c t)) g c t:=by subst hg;exact Has.new w c t
theorem Has.row {w:World} {g:Nat} {c:Array Value} {t:TypeId} (h:Has w g c t) (c':Array Value):Has (w.setRow g c') g c' t:=setRow_heap w g c c' t _ h
theorem Has.drewN {w:World} {g:Nat} {c:Array Value} {t:TypeId} (h:Has w g c t) (n:Nat):Has (w.drewN n) g c t:=h
theorem z1H {w:World} {b i j:Nat} (h:i≠j) (v:Value):(w.setCell ⟨b,i,none⟩ v).cell? ⟨b,j,none⟩=w.cell? ⟨b,j,none⟩:=World.cell?_setCell_other w _ _ v (fun e=>h (congrArg Addr.off e))
theorem z0d {B g:Nat} {w0 w:World} (hb:Below B w0 w) (hBg:B≤g) (cs:Array Value):Below B w0 (w.setRow g cs):=
  ⟨hb.os,hb.tape,hb.output,by have:=hb.size;simpa [World.setRow] using this,fun k hk=>by rw [setRow_other w g k cs (by omega)];exact hb.block k hk⟩
end Go.Proofs.YtnmalbngdhjhjaaGreatDoor

namespace Go.Proofs.YtnmalbngdhjhjaaGreatDoor
open Go.RowKit
end Go.Proofs.YtnmalbngdhjhjaaGreatDoor

namespace Go.Proofs.YtnmalbngdhjhjaaGreatDoor
open Go.RowKit
end Go.Proofs.YtnmalbngdhjhjaaGreatDoor

namespace Go.Proofs.YtnmalbngdhjhjaaGreatDoor
open Go.RowKit
def Nums (w:World) (v:Value) (l:List Nat):Prop:=∃ a cap,v=.slice a l.length cap∧(0<l.length→∃ g,a=some ⟨g,0,none⟩∧g<w.heap.size∧∀ (j:Nat),j<l.length→w.cell? ⟨g,j,none⟩=some (.int .u64 ((l.getD j 0:Nat):Int)))
theorem Nums.below {w w':World} {v:Value} {l:List Nat} {B:Nat} (h:Nums w v l) (hb:Below B w w') (hB:w.heap.size≤B):Nums w' v l:=by
  obtain ⟨a,cap,rfl,h⟩:=h
  refine ⟨a,cap,rfl,fun h0=>?_⟩
  obtain ⟨g,e,hg,hc⟩:=h h0
  exact ⟨g,e,Nat.lt_of_lt_of_le hg hb.size,fun j hj=>(hb.cell (p:=⟨g,j,none⟩) (Nat.lt_of_lt_of_le hg hB)).trans (hc j hj)⟩
structure Four (w:World) (B:Nat) (K:Nat→Prop) (v:Nat→Value) (n:Nat→Nat) (xs:Nat→List Value):Prop where
  row:∀ x,x<4→w.ownsRow B 24 1 (v x) (n x) (xs x)
  apart:∀ x y,x<4→y<4→x≠y→∀ g,(v x).ownBlock=some g→(v y).ownBlock≠some g
  off:∀ x,x<4→∀ g,(v x).ownBlock=some g→¬ K g
def UPD {α:Type} (f:Nat→α) (x:Nat) (a:α):Nat→α:=fun z=>if z=x then a else f z
theorem z32 {α:Type} (f:Nat→α) (x:Nat) (a:α):UPD f x a x=a:=by simp [UPD]
theorem z1n {α:Type} (f:Nat→α) {x z:Nat} (a:α) (h:z≠x):UPD f x a z=f z:=by simp [UPD,h]
theorem Four.alloc {w:World} {B:Nat} {K:Nat→Prop} {v:Nat→Value} {n:Nat→Nat} {xs:Nat→List Value} (h:Four w B K v n xs) (o:Obj):Four (w.alloc o) B K v n xs:=⟨fun x hx=>(h.row x hx).alloc o,h.apart,h.off⟩
theorem Four.more {w:World} {B:Nat} {K K':Nat→Prop} {v:Nat→Value} {n:Nat→Nat} {xs:Nat→List Value} (h:Four w B K v n xs) (hK:∀ g,g<w.heap.size→K' g→K g):Four w B K' v n xs:=
  ⟨h.row,h.apart,fun x hx g hg hk=>h.off x hx g hg (hK g ((h.row x hx).lt g hg).2 hk)⟩
theorem Four.below {w w':World} {B:Nat} {K:Nat→Prop} {v:Nat→Value} {n:Nat→Nat} {xs:Nat→List Value} (h:Four w B K v n xs) (hb:Below w.heap.size w w'):Four w' B K v n xs:=⟨fun x hx=>z0b (h.row x hx) hb,h.apart,h.off⟩
theorem z2r (W:World) (b j:Nat) (v:Value):W.grownBy (W.setCell ⟨b,j,none⟩ v) (some b):=
  ⟨rfl,rfl,rfl,(KeepsWalks.setCell W _ v).size,fun k _ hk=>Below.heap_setCell _ _ _ k (fun e=>hk (by rw [e]))⟩
theorem Four.other {w:World} {B:Nat} {K:Nat→Prop} {v:Nat→Value} {n:Nat→Nat} {xs:Nat→List Value} (h:Four w B K v n xs) {b:Nat} (hb:K b) (j:Nat) (u:Value):Four (w.setCell ⟨b,j,none⟩ u) B K v n xs:=
  ⟨fun x hx=>(h.row x hx).kept (z2r w b j u) (.inr fun e=>h.off x hx b e hb),h.apart,h.off⟩
theorem Four.store {w:World} {B:Nat} {K:Nat→Prop} {v:Nat→Value} {n:Nat→Nat} {xs:Nat→List Value} (h:Four w B K v n xs) {x g m cap:Nat} (hx:x<4) (hv:v x=.slice (some ⟨g,0,none⟩) m cap) (j:Nat) (u:Value):
    Four (w.setCell ⟨g,j,none⟩ u) B K v n (UPD xs x ((xs x).set j u)):=by
  refine ⟨fun z hz=>?_,h.apart,h.off⟩
  by_cases e:z=x
  · subst e
    have hr:=h.row z hz
    rw [hv] at hr ⊢
    have hm:m=n z:=by
      rcases hr.2 with ⟨e,_⟩ | ⟨_,_,_,e,_⟩
      · simp at e
      · simp at e
        omega
    subst hm
    rw [z32]
    exact (hr.stored j u).1
  · rw [z1n xs _ e]
    refine (h.row z hz).kept (z2r w g j u) (.inr fun e2=>?_)
    exact h.apart x z hx hz (fun e3=>e e3.symm) g (by rw [hv];rfl) e2
theorem Has.grown {w w':World} {g:Nat} {c:Array Value} {t:TypeId} {row:Option Nat} (h:Has w g c t) (hg:w.grownBy w' row) (hne:row≠some g):Has w' g c t:=by
  obtain ⟨_,_,_,_,hk⟩:=hg
  exact (hk g h.lt (fun e=>hne e.symm)).trans h
theorem Four.of {w:World} {B b1 b2 b3 b4:Nat} {K:Nat→Prop} {v0 v1 v2 v3:Value} {n m:Nat} {xs ys:List Value} (h0:w.ownsRow B 24 1 v0 n xs) (h1:w.ownsRow b1 24 1 v1 n xs) (h2:w.ownsRow b2 24 1 v2 m ys) (h3:w.ownsRow b3 24 1 v3 m ys)
    (l0:∀ k,v0.ownBlock=some k→k<b1) (l1:∀ k,v1.ownBlock=some k→k<b2) (l2:∀ k,v2.ownBlock=some k→k<b3) (l3:∀ k,v3.ownBlock=some k→k<b4) (o1:B≤b1) (o2:b1≤b2) (o3:b2≤b3) (o4:b3≤b4) (hK:∀ k,K k→b4≤k):
    ∃ (V:Nat→Value) (N:Nat→Nat) (XS:Nat→List Value),Four w B K V N XS∧V 0=v0∧V 1=v1∧V 2=v2∧V 3=v3∧(∀ x,x<4→N x=n∨N x=m):=by
  have key:∀ x,x<4→x=0∨x=1∨x=2∨x=3:=fun x hx=>by omega
  have bnd:∀ x,x<4→∀ k,((if x=0 then v0 else if x=1 then v1 else if x=2 then v2 else v3:Value)).ownBlock=some k→(if x=0 then B else if x=1 then b1 else if x=2 then b2 else b3)≤k∧k<(if x=0 then b1 else if x=1 then b2 else if x=2 then b3 else b4):=fun x hx k hk=>by
    rcases key x hx with rfl | rfl | rfl | rfl
    · exact ⟨(h0.lt k hk).1,l0 k hk⟩
    · exact ⟨(h1.lt k hk).1,l1 k hk⟩
    · exact ⟨(h2.lt k hk).1,l2 k hk⟩
    · exact ⟨(h3.lt k hk).1,l3 k hk⟩
  refine ⟨fun x=>if x=0 then v0 else if x=1 then v1 else if x=2 then v2 else v3,fun x=>if x<2 then n else m,fun x=>if x<2 then xs else ys,⟨fun x hx=>?_,fun x y hx hy hne k hk hk2=>?_,fun x hx k hk hkk=>?_⟩,rfl,rfl,rfl,rfl,fun x hx=>?_⟩
  · rcases key x hx with rfl | rfl | rfl | rfl
    · exact h0
    · exact z0s h1 o1
    · exact z0s h2 (Nat.le_trans o1 o2)
    · exact z0s h3 (Nat.le_trans o1 (Nat.le_trans o2 o3))
  · have hx':=bnd x hx k hk
    have hy':=bnd y hy k hk2
    rcases key x hx with rfl | rfl | rfl | rfl <;> rcases key y hy with rfl | rfl | rfl | rfl <;> simp at hx' hy' hne <;> omega
  · have hx':=bnd x hx k hk
    have:=hK k hkk
    rcases key x hx with rfl | rfl | rfl | rfl <;> simp at hx' <;> omega
  · rcases key x hx with rfl | rfl | rfl | rfl <;> simp
end Go.Proofs.YtnmalbngdhjhjaaGreatDoor

namespace Go.Proofs.YtnmalbngdhjhjaaGreatDoor
open Go.RowKit
end Go.Proofs.YtnmalbngdhjhjaaGreatDoor

namespace Go.Proofs.YtnmalbngdhjhjaaGreatDoor
open Go.RowKit
end Go.Proofs.YtnmalbngdhjhjaaGreatDoor

namespace Go.Proofs.YtnmalbngdhjhjaaGreatDoor
open Go.RowKit
end Go.Proofs.YtnmalbngdhjhjaaGreatDoor

namespace Go.Proofs.YtnmalbngdhjhjaaGreatDoor
open Go.RowKit
def Lie (w:World) (a:Option Addr) (l:List (Nat × Nat)):Prop:=0<l.length→∃ g o,a=some ⟨g,o,none⟩∧g<w.heap.size∧∀ (j h k:Nat),l[j]?=some (h,k)→w.cell? ⟨g,o+j*2,none⟩=some (.int .u8 (h:Int))∧w.cell? ⟨g,o+j*2+1,none⟩=some (.int .u64 (k:Int))
theorem Lie.below {w w':World} {a:Option Addr} {l:List (Nat × Nat)} (h:Lie w a l) (hb:Below w.heap.size w w'):Lie w' a l:=fun h0=>by
  obtain ⟨g,o,e,hg,hc⟩:=h h0
  exact ⟨g,o,e,Nat.lt_of_lt_of_le hg hb.size,fun j x y he=>⟨(hb.cell (p:=⟨g,o+j*2,none⟩) hg).trans (hc j x y he).1,(hb.cell (p:=⟨g,o+j*2+1,none⟩) hg).trans (hc j x y he).2⟩⟩
theorem Lie.of {w:World} {a:Option Addr} {l:List (Nat × Nat)} (h:Spots w a l):Lie w a l:=fun h0=>by
  obtain ⟨g,e,hg,hc⟩:=h h0
  refine ⟨g,0,e,hg,fun j x y he=>?_⟩
  rw [Nat.zero_add]
  exact hc j x y he
theorem Tile.same {l:List (Nat × Nat)}:∀ {a b a' b':Nat},l≠[]→Tile a l b→Tile a' l b'→a=a'∧b=b':=by
  have key:∀ (l:List (Nat × Nat)) (a b b':Nat),Tile a l b→Tile a l b'→b=b':=by
    intro l
    induction l with
    | nil=>intro a b b' h h';exact Eq.trans (Eq.symm h) h'
    | cons s l ih=>intro a b b' h h';exact ih _ _ _ h.2.2 h'.2.2
  intro a b a' b' h0 h h'
  cases l with
  | nil=>exact absurd rfl h0
  | cons s l=>exact ⟨h.2.1.symm.trans h'.2.1,key l _ _ _ h.2.2 h'.2.2⟩
theorem z6v {l:List (Nat × Nat)} {i h k:Nat} (e:l[i]?=some (h,k)):l=l.take i ++ (h,k) :: l.drop (i+1)∧l.take (i+1)=l.take i ++ [(h,k)]:=by
  obtain ⟨hi,e2⟩:=List.getElem?_eq_some_iff.1 e
  refine ⟨?_,?_⟩
  · rw [← e2,List.getElem_cons_drop,List.take_append_drop]
  · rw [List.take_add_one,e]
    rfl
end Go.Proofs.YtnmalbngdhjhjaaGreatDoor

namespace Go.Proofs.YtnmalbngdhjhjaaGreatDoor
open Go.RowKit
end Go.Proofs.YtnmalbngdhjhjaaGreatDoor
