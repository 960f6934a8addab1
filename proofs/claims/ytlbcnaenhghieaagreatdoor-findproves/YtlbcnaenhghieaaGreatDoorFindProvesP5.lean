/- FindProves: part 5. -/
import Derived.RangeFuncNested
import Derived.Test.YtlbcnaenhghieaaGreatDoorFindProvesP4
set_option maxHeartbeats 2000000
namespace Go.Proofs.YtlbcnaenhghieaaGreatDoor
open Go.RowKit Go.Shelf
attribute [local go_sem] Oper.semAt_some
def z06 (l:List Nat):List Value:=l.map fun (x:Nat)=>Value.int .u64 (x:Int)
theorem z1y (l:List Nat) (x:Nat):z06 (l ++ [x])=z06 l ++ [.int .u64 (x:Int)]:=by simp [z06]
theorem z7C (l:List Nat):(z06 l).length=l.length:=by simp [z06]
theorem z1u:(Tryz.prog.info? 36).map (fun i=>(i.zero,i.size,i.bytes))=some (some (.int .u64 0),1,8):=by kernel_rfl
theorem z8c (n:Nat) (hn:n<=64) (w:World):∃ cur:Array Value,cur.size=n/\(Instr.makeSlice 23 (.int .i64 0) (.int .i64 (n:Int))).run Tryz.prog w=.ok (.slice (some ⟨w.heap.size,0,none⟩) 0 n) (w.alloc (.cells cur 36)):=by
 obtain ⟨i,hi,hz,hs1,hby⟩:=info_parts z1u;have h:=run_make (P:=Tryz.prog) w 23 36 i (.int .u64 0) Tryz.underlying23 hi hz .i64 .i64 0 n (by omega) (by omega) (by rw [hby];omega) (by omega);refine ⟨_,?_,h⟩;rw [size_madeCells,hs1];omega
def HTS (pre:List (Nat × Fin 64)):List Nat:=pre.map fun x=>x.2.val
theorem zeA (pre:List (Nat × Fin 64)) (x:Nat × Fin 64):HTS (pre ++ [x])=HTS pre ++ [x.2.val]:=by simp [HTS]
theorem zcO (l:List Nat):(ST l).2.length=l.length:=by
 have key:∀ (l:List Nat) (s:Nat × List Nat),(l.foldl (fun s h=>((s.1+TREE h) % 2 ^ 64,s.2 ++ [((s.1+TREE h) % 2 ^ 64+(2 ^ 64 - 1)) % 2 ^ 64])) s).2.length=s.2.length+l.length:=by
  intro l;induction l with
  | nil=>intro s;simp
  | cons h l ih=>
    intro s;rw [List.foldl_cons,ih];simp;omega
 have:=key l (0,[]);simpa [ST] using this
theorem zhQ (l:List Nat):(ST l).1<2 ^ 64:=by
 rcases List.eq_nil_or_concat l with rfl | ⟨i,x,rfl⟩
 ·simp [ST]
 ·rw [List.concat_eq_append,z6C]
  exact Nat.mod_lt _ (by decide)
theorem zeB (X:Nat) (f:Nat->Fin 64) (hf:∀ j,j<POP X->(f j).val=z3H X j):HTS (UPTO (BACK (POP X) f) (POP X))=(z0t X).reverse:=by
 apply List.ext_getElem?;intro j;by_cases hj:j<POP X
 ·rw [List.getElem?_reverse (by rw [z0H];exact hj),z0H,z5s (by omega),<-hf _ (by omega)]
  simp [HTS,UPTO,BACK,hj]
 ·rw [List.getElem?_eq_none (by simp [HTS,UPTO];omega),List.getElem?_eq_none (by rw [List.length_reverse,z0H];omega)]
theorem z1b {w:World} {base base':Nat} {t:TypeId} {s:Nat} {v:Value} {n:Nat} {xs:List Value} (h:w.ownsRow base t s v n xs) (hb:base'<=base):w.ownsRow base' t s v n xs:=
 ⟨h.1,h.2.imp id fun ⟨g,c,cur,a,b,r⟩=>⟨g,c,cur,a,Nat.le_trans hb b,r⟩⟩
set_option maxRecDepth 100000 in
theorem zeC (X:Nat) (hX:X<=4611686018427387904) (w:World) (hT:Tabled w) (h0:0<w.heap.size):Calls Tryz.prog 82 #[.int .u64 (X:Int)] w fun e w'=>
  ∃ g cap,e=.returned (.slice (some ⟨g,0,none⟩) (PC X) cap)/\w'.ownsRow w.heap.size 36 1 (.slice (some ⟨g,0,none⟩) (PC X) cap) (PC X) (z06 (z17 X))/\Below w.heap.size w w':=by
 obtain ⟨i0,hi,hz0,hz1,hz2⟩:=info_parts z1u;have cb:=zg9 X (by omega) w hT h0;have hle:=z5H X;obtain ⟨f,hf⟩:∃ f:Nat->Fin 64,∀ j,j<POP X->(f j).val=z3H X j:=⟨fun j=>if h:j<POP X then ⟨z3H X j,by have:=zek h;omega⟩ else 0,fun j hj=>by simp [hj]⟩
 have hba:=zeB X f hf;have hplc:=fun (w':World) (base g n cap:Nat) (h:w'.ownsRow base 3 1 (.slice (some ⟨g,0,none⟩) n cap) n (z15 (z0t X)))=>zcx h;have hpc:POP X=PC X:=z7T (by omega);generalize POP X=p at *
 obtain ⟨L,hL⟩:∃ L,z15 (z0t X)=L:=⟨_,rfl⟩
 simp only [hL] at hplc cb;have HA:Aside (HTS (UPTO (BACK p f) p)=(z0t X).reverse/\p=PC X/\X<=4611686018427387904):=⟨hba,hpc,hX⟩
 clear hba hpc hX hL hT h0;have hd:¬ (4611686018427387904:Int)<(X:Int):=by have:=HA.out.2.2;omega
 refine (callsIn_wide (n:=5)).1 ?_;refine callsIn_of_wp_marks Tryz.func82 rfl trivial ?_ rfl;simp only [Tryz.ntmps82,List.size_toArray,List.length_cons,List.length_nil,Nat.reduceAdd,Nat.reduceSub,Array.replicate_succ,Array.replicate_zero,List.push_toArray,List.append_toArray,List.nil_append,List.cons_append];gi_wp2_with fail
 refine ⟨trivial,(callsIn_wide.2 cb).mono ?_⟩;rintro e w1 ⟨g,cap,rfl,hrow,hg,hb⟩;clear cb;obtain ⟨cur,hcs,hmk⟩:=z8c p hle w1;gi_wp2_with fail
 refine ⟨trivial,(z9t Fence.wide 4 trivial rfl _ _ _ _).mono ?_⟩;rintro e w2 ⟨rfl,rfl⟩;obtain ⟨s1,hs1⟩:∃ s1,w1.heap.size=s1:=⟨_,rfl⟩
 have bO:=Boxed.new (w1.alloc (.cells cur 36)) 23 (.slice (some ⟨w1.heap.size,0,none⟩) 0 p);have bM:=Boxed.new ((w1.alloc (.cells cur 36)).alloc (.cells #[.slice (some ⟨w1.heap.size,0,none⟩) 0 p] 23)) 36 (.int .u64 0);have bN:=Boxed.new (((w1.alloc (.cells cur 36)).alloc (.cells #[.slice (some ⟨w1.heap.size,0,none⟩) 0 p] 23)).alloc (.cells #[.int .u64 0] 36)) 156 (.slice (some ⟨g,0,none⟩) p cap)
 have hr0:(w1.alloc (.cells cur 36)).ownsRow s1 36 1 (.slice (some ⟨s1,0,none⟩) 0 p) 0 []:=by
  rw [<-hs1];exact World.ownsRow_made w1 cur p (Nat.le_refl _) (by simp only [maxLen];omega) (by rw [hcs];omega)
 simp only [World.size_alloc,hs1] at bO bM bN ⊢;have bO:=(bO.alloc (.cells #[.int .u64 0] 36)).alloc (.cells #[.slice (some ⟨g,0,none⟩) p cap] 156);have bM:=bM.alloc (.cells #[.slice (some ⟨g,0,none⟩) p cap] 156);have hr0:=((hr0.alloc (.cells #[.slice (some ⟨s1,0,none⟩) 0 p] 23)).alloc (.cells #[.int .u64 0] 36)).alloc (.cells #[.slice (some ⟨g,0,none⟩) p cap] 156)
 have hB1:Below s1 w1 ((((w1.alloc (.cells cur 36)).alloc (.cells #[.slice (some ⟨s1,0,none⟩) 0 p] 23)).alloc (.cells #[.int .u64 0] 36)).alloc (.cells #[.slice (some ⟨g,0,none⟩) p cap] 156)):=
  ((((Below.refl _ w1).alloc (by omega) _).alloc (by simp;omega) _).alloc (by simp;omega) _).alloc (by simp;omega) _
 have hgs:g<s1:=by omega
 have hcg:∀ j,j<p->w1.cell? ⟨g,j,none⟩=some (.int .i64 ((f j).val:Int)):=fun j hj=>by rw [hf j hj];exact hplc _ _ _ _ _ hrow j hj
 have hsz:((((w1.alloc (.cells cur 36)).alloc (.cells #[.slice (some ⟨s1,0,none⟩) 0 p] 23)).alloc (.cells #[.int .u64 0] 36)).alloc (.cells #[.slice (some ⟨g,0,none⟩) p cap] 156)).heap.size=s1+4:=by simp;omega
 obtain ⟨W0,hW0⟩:∃ W0,((((w1.alloc (.cells cur 36)).alloc (.cells #[.slice (some ⟨s1,0,none⟩) 0 p] 23)).alloc (.cells #[.int .u64 0] 36)).alloc (.cells #[.slice (some ⟨g,0,none⟩) p cap] 156))=W0:=⟨_,rfl⟩
 rw [hW0] at bO bM bN hr0 hB1 hsz ⊢;have hbw:Below w.heap.size w W0:=hb.trans (hB1.mono (by have:=hb.size;omega));clear hW0;gi_wp2_with fail
 refine wpIn_rangeFunc_ownG rfl (by omega) (gf:=117) (lb:=#[.pointer (some ⟨s1+1+1+1,0,none⟩)]) rfl trivial (enters_of Tryz.func117 (by kernel_rfl) rfl)
  (z6E Fence.wide (5 - 1) trivial rfl (by omega) (s1+1+1+1) s1 g p cap f hle hgs W0 (by omega) (by omega) bN.cell (fun j hj=>(hB1.cell (p:=⟨g,j,none⟩) hgs).trans (hcg j hj)))
  KB.t (KB.b (by omega) (by omega)) (Below.refl _ _) (fun _=>rfl)
  (fun pre W=>((∃ v,Boxed W (s1+1) 23 v/\W.ownsRow s1 36 1 v pre.length (z06 (ST (HTS pre)).2)/\v=.slice (some ⟨s1,0,none⟩) pre.length p)/\Boxed W (s1+1+1) 36 (.int .u64 ((ST (HTS pre)).1:Int))/\Boxed W (s1+1+1+1) 156 (.slice (some ⟨g,0,none⟩) p cap))/\Below w.heap.size w W)
  (fun _ _ _=>False)
  (OwnFrom.and (OwnFrom.and (Own.from (holdsRow_own s1 (s1+1) 23 36 1 (fun pre=>pre.length) (fun pre=>z06 (ST (HTS pre)).2) (fun pre v=>v=.slice (some ⟨s1,0,none⟩) pre.length p)) _) (OwnFrom.and (Own.from (boxed_own _ _ _) _) (Own.from (boxed_own _ _ _) _))) (ownFrom_below (Nat.le_refl _) (by have:=hb.size;omega)))
  (fun _ _ _ _ _ hs _ _=>hs)
  ⟨⟨⟨_,bO,hr0,rfl⟩,bM,bN⟩,hbw⟩
  (fun x=>{tmps:=#[.int .u64 (X:Int),undef,.slice none 0 0,.slice (some ⟨g,0,none⟩) p cap,.pointer (some ⟨s1+1,0,none⟩),.pointer (some ⟨s1+1+1,0,none⟩),undef,.int .i64 (x.2.val:Int),.int .u64 (X:Int),.bool false,.int .u64 (X:Int),.slice (some ⟨g,0,none⟩) p cap,.slice (some ⟨g,0,none⟩) p cap,.int .i64 (p:Int),.slice (some ⟨s1,0,none⟩) 0 p,.slice (some ⟨g,0,none⟩) p cap,.func (.func 117) #[] #[.pointer (some ⟨s1+1+1+1,0,none⟩)],.int .i64 (x.1:Int),.int .i64 (x.2.val:Int),undef,undef,undef,undef,undef,undef,undef,undef,undef,undef],defers:=[]}) ?assign ?body ?done ?stop
 case assign=>
  intro l x W K hK;gi_wp2
  exact hK
 case body=>
  rintro l pre x W ⟨⟨⟨v,bO,hrow,rfl⟩,bM,bN⟩,hB⟩ hlt;have hsn:=z6C (HTS pre) x.2.val;have hml:=zhQ (HTS pre);have hsl:=zcO (HTS pre);rw [show (HTS pre).length=pre.length by simp [HTS]] at hsl;obtain ⟨m,hm⟩:∃ m,(ST (HTS pre)).1=m:=⟨_,rfl⟩
  obtain ⟨ls,hls⟩:∃ ls,(ST (HTS pre)).2=ls:=⟨_,rfl⟩
  have ct:=fun w=>z2O x.2.val (by omega) w;obtain ⟨t,ht⟩:∃ t,TREE x.2.val=t:=⟨_,rfl⟩
  rw [hm,hls,ht] at hsn;rw [hm] at hml bM;rw [hls] at hsl hrow;rw [ht] at ct;obtain ⟨m2,hm2⟩:∃ m2,(m+t) % 2 ^ 64=m2:=⟨_,rfl⟩
  obtain ⟨q,hq⟩:∃ q,(m2+(2 ^ 64 - 1)) % 2 ^ 64=q:=⟨_,rfl⟩
  rw [hm2,hq] at hsn;have e1:IntKind.u64.wrap ((m:Int)+(t:Int))=(m2:Int):=by rw [z0b];omega
  have e2:IntKind.u64.wrap ((m2:Int) - 1)=(q:Int):=by rw [z0b];omega
  have R:Aside (ST (HTS (pre ++ [x]))=(m2,ls ++ [q])/\ls.length=pre.length/\pre.length<p):=⟨by rw [zeA];exact hsn,hsl,hlt⟩
  clear hsn hml hsl hlt hm hls ht hm2 hq;have hc4:=bO.cell;have hc5:=bM.cell;have hf5:=bM.frozen;have hmx:Tryz.prog.follows .mixedOrders=true:=by kernel_rfl
  clear hplc hf hcg hz0 hz2;have hsW:s1+4<=W.heap.size:=by have:=bN.lt;omega
  obtain ⟨W5,hW5⟩:∃ W5,(W.setCell ⟨s1+1+1,0,none⟩ (.int .u64 (m2:Int))).drew=W5:=⟨_,rfl⟩
  have bO5:Boxed W5 (s1+1) 23 (.slice (some ⟨s1,0,none⟩) pre.length p):=by rw [<-hW5];exact bO.other (by omega) _
  have bM5:Boxed W5 (s1+1+1) 36 (.int .u64 (m2:Int)):=by rw [<-hW5];exact bM.set _
  have bN5:Boxed W5 (s1+1+1+1) 156 (.slice (some ⟨g,0,none⟩) p cap):=by rw [<-hW5];exact bN.other (by omega) _
  have hrow5:W5.ownsRow s1 36 1 (.slice (some ⟨s1,0,none⟩) pre.length p) pre.length (z06 ls):=by rw [<-hW5];exact (hrow.kept (grownBy_setCell' W (s1+1+1) (.int .u64 (m2:Int))) (.inr (by simp [Value.ownBlock];omega))).drew
  have hk5:KeepsOthers W W5:=by rw [<-hW5];exact (KeepsOthers.setCell _ _ _).trans (KeepsOthers.drew _)
  have hb5:Below s1 W W5:=by rw [<-hW5];exact ((Below.refl s1 W).setCell (p:=⟨s1+1+1,0,none⟩) (by show s1<=s1+1+1;omega) _).drew
  have hs5:s1+4<=W5.heap.size:=by have:=bN5.lt;omega
  have hcN:W.cell? ⟨s1+1+1+1,0,none⟩=some (.slice (some ⟨g,0,none⟩) p cap):=bN.cell;gi_wp2
  gi_region_with_o (refine ⟨trivial,?_⟩;gi_at_call 67;refine (CallsIn.inRound l (callsIn_wide.2 (ct _))).mono ?_;rintro e w' ⟨rfl,rfl⟩)
  all_goals clear hc4 hc5 hf5 bO bM bN hrow ct
  all_goals have hc4:=bO5.cell
  all_goals have hc5:=bM5.cell
  all_goals gi_wp2_with (gi_at_builtin;refine wpListIn_append_fits _ rfl _ _ 23 rfl s1 36 i0 1 Tryz.underlying23 hi hz1 s1 pre.length p (z06 ls) rfl (hrow5.alloc _) ⟨W5.heap.size,0,none⟩ 1 1 [.int .u64 (q:Int)] rfl rfl (cell_one_new _ _ _) (by simp [Value.oneCell']) (by have:=R.out.2.2;omega) ?_;intro w1' hown' hgrow;obtain ⟨hv1,hv2,hr2,hk2,hb2⟩:=bO5.appended (by decide) hrow5 (by omega) (by omega) hown' hgrow;have hc1:=hv1.cell;have hf1:=hv1.frozen)
  all_goals have bN6:=((bN5.alloc (.cells #[.int .u64 (q:Int)] 36)).kept hgrow (by simp;omega)).other (B':=s1+1) (by omega) (.slice (some ⟨s1,0,none⟩) (pre.length+1) p)
  all_goals have bM6:=((bM5.alloc (.cells #[.int .u64 (q:Int)] 36)).kept hgrow (by simp;omega)).other (B':=s1+1) (by omega) (.slice (some ⟨s1,0,none⟩) (pre.length+1) p)
  all_goals obtain ⟨r1,r2,r3⟩:=R.out
  all_goals refine ⟨(hk5.trans hk2).from _,⟨hb5.trans hb2,bN6.cell.trans hcN.symm⟩,⟨⟨_,hv2,?_,by simp⟩,?_,bN6⟩,hB.trans ((hb5.trans hb2).mono (by have:=hb.size;omega))⟩
  all_goals rw [r1]
  all_goals first | exact bM6 | (rw [z1y,List.length_append];exact hr2)
 case done=>
  rintro D ys W hD hys ⟨⟨⟨v,bO,hrow,rfl⟩,bM,bN⟩,hB⟩ hK;have hc:=bO.cell;gi_wp2
  refine ⟨by simp,.inl ⟨_,_,rfl,run_takeDeferred hK,?_⟩⟩;have hys':ys=UPTO (BACK p f) p:=hys;subst hys';obtain ⟨a1,a2,a3⟩:=HA.out;have hl:(UPTO (BACK p f) p).length=p:=z54 _ _;rw [hl,a1,<-zgb,zhg a3] at hrow;refine ⟨_,results_tmp rfl _ _ _,s1,p,?_,?_,hB.trans (belowK_b (w:=w) (Nat.le_refl _) W D _ _ (by have:=hb.size;omega) hK rfl rfl)⟩
  ·rw [<-a2,hl]
   rfl
  ·rw [<-a2]
   exact ownsRow_putObj (z1b hrow (by have:=hb.size;omega)) _ hK rfl
 case stop=>
  rintro D c pre W _ _ h _;exact h.elim
end Go.Proofs.YtlbcnaenhghieaaGreatDoor

namespace Go.Proofs.YtlbcnaenhghieaaGreatDoor
open Go.RowKit
theorem z3w {ops:Array Oper} {rest:List Oper} {o:Oper} {a:Act} {Q:Exit->Act->World->Prop} (w:World) (hgd:o.guard=none) (s x:Operand)
  (ho:o.op=.call {callee:=.builtin .append,args:=#[s,x],argTypes:=#[23,23]})
  (base:Nat) (v:Value) (n:Nat) (xs:List Nat) (hs:a.eval s=v) (hown:w.ownsRow base 36 1 v n (z06 xs))
  (b c:Nat) (y:Nat) (hx:a.eval x=.slice (some ⟨b,0,none⟩) 1 c) (hc:w.cell? ⟨b,0,none⟩=some (.int .u64 (y:Int)))
  (hb:n<=1000) (hbase:base<=w.heap.size)
  (h:∀ g cap w',w'.ownsRow base 36 1 (.slice (some ⟨g,0,none⟩) (n+1) cap) (n+1) (z06 (xs ++ [y]))->w.grownBy w' v.ownBlock->g<w'.heap.size->wpList Tryz.prog ops Q rest (a.put o.dst (.slice (some ⟨g,0,none⟩) (n+1) cap)) w'):wpList Tryz.prog ops Q (o :: rest) a w:=by
 obtain ⟨i,hi,hz,hs1,hby⟩:=info_parts z1u;refine wpList_append_lies w hgd s x 23 ho base 36 i (.int .u64 0) 1 8 Tryz.underlying23 hi hz hs1 hby rfl (by decide) v n (z06 xs) hs hown ⟨b,0,none⟩ 1 c [.int .u64 (y:Int)] hx rfl ?_ (fun u hu=>by simp at hu;subst hu;rfl) (by decide) (by simp only [maxLen];omega) (by omega) hbase w.heap.size rfl ?_
 ·intro j u hj
  cases j with
  | zero=>
    simp only [List.getElem?_cons_zero,Option.some.injEq] at hj;subst hj;exact hc
  | succ j=>simp at hj
 ·intro g cap w' h1 h2 _ h4
  rw [<-z1y] at h1;exact h g cap w' h1 h2 h4
theorem zeD (i n x r:Int) (w:World) (hd:decide (4611686018427387904<n)=false) (hi:decide (n<=i)=false) (hx:bits .xor .u64 i n=x) (c:∀ w,Calls Tryz.prog 66 #[.int .u64 x] w fun e w'=>e=.returned (.int .i64 r)/\w=w'):
  Calls Tryz.prog 97 #[.int .u64 i,.int .u64 n] w fun e w'=>e=.returned (.tuple #[.int .i64 r,.bool true])/\w=w':=by
 go_enter Tryz.func97,Tryz.ntmps97;have hd':¬ 4611686018427387904<n:=by simpa using hd
 have hi':¬ n<=i:=by simpa using hi
 go_wp2_with fail
 refine (c _).mono ?_;rintro e w' ⟨rfl,rfl⟩;go_wp2;go_ret2;exact ⟨rfl,rfl⟩
theorem zau (i n:Nat) (hi:i<n) (hn:n<=4611686018427387904) (w:World):Calls Tryz.prog 97 #[.int .u64 (i:Int),.int .u64 (n:Int)] w fun e w'=>e=.returned (.tuple #[.int .i64 ((RISE i n:Nat):Int),.bool true])/\w=w':=by
 have hX:i ^^^ n<2 ^ 63:=Nat.xor_lt_two_pow (by omega) (by omega);have h1:=(z0R hi hn).1;refine zeD i n ((i ^^^ n:Nat):Int) _ w (by simp;omega) (by simp;omega) (bits_xor_u64_nat i n (by omega) (by omega)) (fun w=>?_);have:=zas (i ^^^ n) (by omega) w;rw [show ((LEN (i ^^^ n):Nat):Int) - 1=((RISE i n:Nat):Int) by unfold RISE;omega] at this;exact this
theorem zeE (i n:Int) (h:¬ (i<n/\n<=4611686018427387904)) (w:World):Calls Tryz.prog 97 #[.int .u64 i,.int .u64 n] w fun e w'=>e=.returned (.tuple #[.int .i64 0,.bool false])/\w=w':=by
 by_cases hd:4611686018427387904<n
 ·clear h
  go_enter Tryz.func97,Tryz.ntmps97;go_wp2;go_ret2;exact ⟨rfl,rfl⟩
 ·have hi:n<=i:=by omega
  clear h;go_enter Tryz.func97,Tryz.ntmps97;go_wp2;go_ret2;exact ⟨rfl,rfl⟩
theorem zeF (i n r x y k:Int) (w:World) (h:Nat) (hr:r=(h:Int)) (e1:n / 2 ^ min h 64=x) (e2:x / 2=y) (c:∀ w,Calls Tryz.prog 97 #[.int .u64 i,.int .u64 n] w fun e w'=>e=.returned (.tuple #[.int .i64 r,.bool true])/\w=w') (co:∀ w,Calls Tryz.prog 64 #[.int .u64 y] w fun e w'=>e=.returned (.int .i64 k)/\w=w'):
  Calls Tryz.prog 81 #[.int .u64 i,.int .u64 n] w fun e w'=>e=.returned (.tuple #[.int .i64 k,.bool true])/\w=w':=by
 subst hr;go_enter Tryz.func81,Tryz.ntmps81;go_wp2_with fail
 refine (c _).mono ?_;rintro e w' ⟨rfl,rfl⟩;clear c;go_wp2_with fail
 refine (co _).mono ?_;rintro e w' ⟨rfl,rfl⟩;go_wp2;go_ret2;exact ⟨rfl,rfl⟩
theorem zgh (i n:Nat) (hi:i<n) (hn:n<=4611686018427387904) (w:World):Calls Tryz.prog 81 #[.int .u64 (i:Int),.int .u64 (n:Int)] w fun e w'=>e=.returned (.tuple #[.int .i64 ((KTH i n:Nat):Int),.bool true])/\w=w':=by
 have h2:=(z0R hi hn).2.1;refine zeF i n _ ((n / 2 ^ RISE i n:Nat):Int) ((n / 2 ^ (RISE i n+1):Nat):Int) _ w (RISE i n) rfl ?_ ?_ (fun w=>zau i n hi hn w) (fun w=>?_)
 ·rw [show min (RISE i n) 64=RISE i n by omega,z2e]
 ·rw [z0r]
  omega
 ·have hl:n / 2 ^ (RISE i n+1)<2 ^ 64:=Nat.lt_of_le_of_lt (Nat.div_le_self _ _) (by omega)
  have:=z6A (n / 2 ^ (RISE i n+1)) hl w;rw [z7T hl] at this;exact this
theorem zeG (i n:Int) (h:¬ (i<n/\n<=4611686018427387904)) (w:World):Calls Tryz.prog 80 #[.int .u64 i,.int .u64 n] w fun e w'=>e=.returned (.tuple #[.slice none 0 0,.bool false])/\w=w':=by
 have c:=zeE i n h;clear h;go_enter Tryz.func80,Tryz.ntmps80;go_wp2_with fail
 refine (c _).mono ?_;rintro e w' ⟨rfl,rfl⟩;clear c;go_wp2;go_ret2;exact ⟨rfl,rfl⟩
theorem zgi (i n:Nat) (hi:i<n) (hn:n<=4611686018427387904) (w:World):Calls Tryz.prog 80 #[.int .u64 (i:Int),.int .u64 (n:Int)] w fun e w'=>
  ∃ g cap,e=.returned (.tuple #[.slice (some ⟨g,0,none⟩) (RISE i n) cap,.bool true])/\w'.ownsRow w.heap.size 36 1 (.slice (some ⟨g,0,none⟩) (RISE i n) cap) (RISE i n) (z06 (WAY i (RISE i n)))/\g<w'.heap.size/\Below w.heap.size w w':=by
 have c1:=zau i n hi hn;have h62:=(z0R hi hn).2.1;have c2:=z87 i (by omega);generalize RISE i n=H at *
 obtain ⟨cur,hcs,hmk⟩:=z8c H (by omega) w;have HA:Aside (i<4611686018427387904/\H<=62/\cur.size=H):=⟨by omega,h62,hcs⟩
 have hp:(z02 i:Nat)=PLC 0 (i / 2 ^ 0):=by rw [z5q,Nat.pow_zero,Nat.div_one]
 rw [hp] at c2;clear hi hn h62 hcs hp;go_enter Tryz.func80,Tryz.ntmps80;go_wp2_with fail
 refine (c1 _).mono ?_;rintro e w' ⟨rfl,rfl⟩;clear c1;go_wp2_with fail
 refine (c2 _).mono ?_;rintro e w' ⟨rfl,rfl⟩;clear c2;go_wp2;go_loopg [8,9,25] H (fun g s8 s9 s25 wx=>∃ j:Nat,s25=.int .i64 (j:Int)/\s9=.int .u64 ((PLC j (i / 2 ^ j):Nat):Int)/\Aside (j+g=H/\wx.ownsRow w.heap.size 36 1 s8 j (z06 (WAY i j))/\(∃ b cap,s8=.slice (some ⟨b,0,none⟩) j cap/\b<wx.heap.size)/\Below w.heap.size w wx))
 case atStart=>exact ⟨0,rfl,by rw [Nat.pow_zero,Nat.div_one],by omega,World.ownsRow_made w cur H (Nat.le_refl _) (by have:=HA.out.2.1;simp only [maxLen];omega) (by rw [HA.out.2.2];omega),⟨_,_,rfl,by simp⟩,(Below.refl _ _).alloc (Nat.le_refl _) _⟩
 case round=>
  obtain ⟨j,rfl,rfl,A⟩:=hrel;clear hmk;cases gk with
  | zero=>
    obtain ⟨hj,hown,⟨b,cap,hs,hb⟩,hbel⟩:=A.out;obtain rfl:j=H:=by omega
    subst hs;have hlt:¬ (j:Int)<(j:Int):=by omega
    clear hj hown hb hbel HA;go_wp2;go_ret2;obtain ⟨hj,hown,⟨b',cap',hs,hb⟩,hbel⟩:=A.out;cases hs;exact ⟨b,cap,rfl,hown,hb,hbel⟩
  | succ g=>
    obtain ⟨hj,hown,⟨b,cap,hs,hb⟩,hbel⟩:=A.out;have hlt:(j:Int)<(H:Int):=by omega
    have h62:=HA.out.2.1;have hN:=Node.over HA.out.1 j (by omega);have cb:=z74 j (i / 2 ^ j) hN (by omega);have co:=zgg j (i / 2 ^ j) hN (by omega)
    have hR:(bits .and .u64 ((i:Int) / 2 ^ min j 64) 1 == 1)=decide (i / 2 ^ j % 2=1):=by
     rw [show min j 64=j by omega,z2e];exact z89 _ (Nat.lt_of_le_of_lt (Nat.div_le_self _ _) (by have:=HA.out.1;omega))
    have e1:wrap64 ((j:Int)+1)=((j+1:Nat):Int):=by unfold wrap64;omega
    have hj0:¬ (j:Int)<0:=by omega
    rw [<-z0r] at co;have hw:=z83 i j;generalize hz:decide (i / 2 ^ j % 2=1)=z at *
    clear hz;generalize PLC j (i / 2 ^ j)=x at *
    generalize PLC j (SIB (i / 2 ^ j))=y at *
    generalize hv:PLC (j+1) (i / 2 ^ (j+1))=v at *
    have R:Aside (j+1+g=H/\wr.ownsRow w.heap.size 36 1 u8 j (z06 (WAY i j))/\Below w.heap.size w wr/\j<=1000/\WAY i (j+1)=WAY i j ++ [y]/\PLC (j+1) (i / 2 ^ (j+1))=v):=⟨by omega,hown,hbel,by omega,hw,hv⟩
    clear A hj hown hs hb hbel h62 hN hw hv HA;go_wp2_with fail
    refine (cb _).mono ?_;rintro e w' ⟨rfl,rfl⟩;clear cb;go_wp2_with (at_builtin;refine z3w _ rfl (.tmp 33) (.tmp 38) rfl w.heap.size u8 j (WAY i j) rfl (R.out.2.1.alloc _) wr.heap.size 1 y rfl (by rw [World.cell?_alloc_at _ _ _ _ rfl];rfl) R.out.2.2.2.1 (by have:=R.out.2.2.1.size;simp;omega) ?_;intro g' cap w1 hown hgrow hg)
    obtain ⟨r1,r2,r3,r4,r5,r6⟩:=R.out;have R2:Aside (j+1+g=H/\w1.ownsRow w.heap.size 36 1 (.slice (some ⟨g',0,none⟩) (j+1) cap) (j+1) (z06 (WAY i (j+1)))/\g'<w1.heap.size/\Below w.heap.size w w1/\PLC (j+1) (i / 2 ^ (j+1))=v):=⟨r1,by rw [r5];exact hown,hg,(r3.alloc r3.size _).grown hgrow (by have:=r3.size;simp;omega) (fun k e=>(r2.lt k e).1),r6⟩
    clear hown hgrow hg R r1 r2 r3 r4 r5 r6;refine (co _).mono ?_;rintro e w' ⟨rfl,rfl⟩;clear co;go_wp2;go_roundg g
    case measure=>omega
    case rel=>
     obtain ⟨r1,r2,r3,r4,r6⟩:=R2.out;exact ⟨j+1,by first | rfl | (rw [e1]),by rw [r6],r1,r2,⟨_,_,rfl,r3⟩,r4⟩
def z16 (l:List (Nat × Nat)):List Value:=l.flatMap fun x=>[Value.int .u8 (x.1:Int),Value.int .u64 (x.2:Int)]
theorem z9u (l:List (Nat × Nat)) (h k:Nat):z16 (l ++ [(h,k)])=z16 l ++ [Value.int .u8 (h:Int),Value.int .u64 (k:Int)]:=by simp [z16]
theorem z76:∀ (l:List (Nat × Nat)) (j h k:Nat),l[j]?=some (h,k)->(z16 l)[j*2]?=some (.int .u8 (h:Int))/\(z16 l)[j*2+1]?=some (.int .u64 (k:Int))
 | [],j,h,k,e=>by simp at e
 | x :: l,0,h,k,e=>by
   simp at e;subst e;simp [z16]
 | x :: l,j+1,h,k,e=>by
   have:=z76 l j h k (by simpa using e);have e1:(j+1)*2=j*2+1+1:=by omega
   simp only [z16,List.flatMap_cons,List.cons_append,List.nil_append,e1,List.getElem?_cons_succ];exact this
theorem zcP:(Tryz.prog.info? 102).map (fun i=>(i.zero,i.size,i.bytes))=some (some (.agg #[.int .u8 0,.int .u64 0]),2,16):=by kernel_rfl
theorem zeH {ops:Array Oper} {rest:List Oper} {o:Oper} {a:Act} {Q:Exit->Act->World->Prop} (w:World) (hgd:o.guard=none) (s x:Operand)
  (ho:o.op=.call {callee:=.builtin .append,args:=#[s,x],argTypes:=#[116,116]})
  (base:Nat) (v:Value) (n:Nat) (xs:List (Nat × Nat)) (hs:a.eval s=v) (hown:w.ownsRow base 102 2 v n (z16 xs))
  (b c:Nat) (h k:Nat) (hx:a.eval x=.slice (some ⟨b,0,none⟩) 1 c) (hc0:w.cell? ⟨b,0,none⟩=some (.int .u8 (h:Int))) (hc1:w.cell? ⟨b,1,none⟩=some (.int .u64 (k:Int)))
  (hb:n<=1000) (hbase:base<=w.heap.size)
  (hh:∀ g cap w',w'.ownsRow base 102 2 (.slice (some ⟨g,0,none⟩) (n+1) cap) (n+1) (z16 (xs ++ [(h,k)]))->w.grownBy w' v.ownBlock->g<w'.heap.size->wpList Tryz.prog ops Q rest (a.put o.dst (.slice (some ⟨g,0,none⟩) (n+1) cap)) w'):wpList Tryz.prog ops Q (o :: rest) a w:=by
 obtain ⟨i,hi,hz,hs1,hby⟩:=info_parts zcP;refine wpList_append_lies w hgd s x 116 ho base 102 i _ 2 16 Tryz.underlying116 hi hz hs1 hby rfl (by decide) v n (z16 xs) hs hown ⟨b,0,none⟩ 1 c [.int .u8 (h:Int),.int .u64 (k:Int)] hx rfl ?_ (fun u hu=>by simp at hu;rcases hu with rfl | rfl <;> rfl) (by decide) (by simp only [maxLen];omega) (by omega) hbase w.heap.size rfl ?_
 ·intro j u hj
  match j,hj with
  | 0,hj=>
    simp only [List.getElem?_cons_zero,Option.some.injEq] at hj;subst hj;exact hc0
  | 1,hj=>
    simp only [List.getElem?_cons_succ,List.getElem?_cons_zero,Option.some.injEq] at hj;subst hj;exact hc1
  | j+2,hj=>simp at hj
 ·intro g cap w' h1 h2 _ h4
  rw [<-z9u] at h1;exact hh g cap w' h1 h2 h4
def Spots (w:World) (a:Option Addr) (l:List (Nat × Nat)):Prop:=0<l.length->∃ g,a=some ⟨g,0,none⟩/\g<w.heap.size/\∀ (j h k:Nat),l[j]?=some (h,k)->w.cell? ⟨g,j*2,none⟩=some (.int .u8 (h:Int))/\w.cell? ⟨g,j*2+1,none⟩=some (.int .u64 (k:Int))
theorem Spots.below {w w':World} {a:Option Addr} {l:List (Nat × Nat)} (h:Spots w a l) (hb:Below w.heap.size w w'):Spots w' a l:=fun h0=>by
 obtain ⟨g,e,hg,hc⟩:=h h0;exact ⟨g,e,Nat.lt_of_lt_of_le hg hb.size,fun j x y he=>⟨(hb.cell (p:=⟨g,j*2,none⟩) hg).trans (hc j x y he).1,(hb.cell (p:=⟨g,j*2+1,none⟩) hg).trans (hc j x y he).2⟩⟩
theorem zcQ {w:World} {base n:Nat} {v:Value} {l:List (Nat × Nat)} (hl:l.length=n) (h:w.ownsRow base 102 2 v n (z16 l)):∃ a cap,v=.slice a n cap/\Spots w a l:=by
 rcases h.2 with ⟨rfl,h0⟩ | ⟨g,cap,cur,rfl,hb,hg,r⟩
 ·subst h0
  exact ⟨none,0,rfl,fun h=>by omega⟩
 ·refine ⟨_,cap,rfl,fun h0=>⟨g,rfl,?_,fun j x y he=>?_⟩⟩
  ·exact (Array.getElem?_eq_some_iff.1 hg).1
  ·have hj:j<n:=by rw [<-hl];exact (List.getElem?_eq_some_iff.1 he).1
   have h1:=z76 l j x y he;exact ⟨(h.cellAt (j*2) (by omega)).trans h1.1,(h.cellAt (j*2+1) (by omega)).trans h1.2⟩
theorem z1h {w w':World} {base:Nat} {t:TypeId} {s:Nat} {v:Value} {n:Nat} {xs:List Value} (h:w.ownsRow base t s v n xs) (hb:Below w.heap.size w w'):w'.ownsRow base t s v n xs:=by
 refine ⟨h.1,h.2.imp id ?_⟩;rintro ⟨g,c,cur,a,b,r,rest⟩;exact ⟨g,c,cur,a,b,(hb.block g (Array.getElem?_eq_some_iff.1 r).1).trans r,rest⟩
def TOPS (h n:Nat):List (Nat × Nat):=(HS h n).map fun g=>(g,2*(n / 2 ^ (g+1)))
theorem zeI {h n:Nat} (hh:h<64) (hb:n / 2 ^ h % 2=1):TOPS h n=TOPS (h+1) n ++ [(h,2*(n / 2 ^ (h+1)))]:=by
 unfold TOPS;rw [z2w hh hb,List.map_append];rfl
theorem zbn {h n:Nat} (hh:h<64) (hb:¬ n / 2 ^ h % 2=1):TOPS h n=TOPS (h+1) n:=by
 unfold TOPS;rw [z2i hh hb]
theorem z3p {n:Nat} (hn:n<2 ^ 64) (h:Nat) (hh:h<=64):(TOPS h n).length=PC (n / 2 ^ h):=by
 unfold TOPS;rw [List.length_map];exact z2x hn h hh
theorem zbo {n h at' r:Nat} (ha:at'=n / 2 ^ (h+1)*2 ^ (h+1)) (hr:r=n - at'):at'<=n/\(2 ^ h<=r↔n / 2 ^ h % 2=1)/\at' / 2 ^ h=2*(n / 2 ^ (h+1))/\(n / 2 ^ h % 2=1->at'+2 ^ h=n / 2 ^ h*2 ^ h)/\(¬ n / 2 ^ h % 2=1->at'=n / 2 ^ h*2 ^ h):=by
 have hp:=Nat.two_pow_pos h;have e1:at'=2*(n / 2 ^ (h+1))*2 ^ h:=by rw [ha,z18]
 have hd:=Nat.div_add_mod n (2 ^ h);have hm:=Nat.mod_lt n hp;rw [Nat.mul_comm] at hd;have hq:at' / 2 ^ h=2*(n / 2 ^ (h+1)):=by rw [e1,Nat.mul_div_cancel _ hp]
 by_cases hb:n / 2 ^ h % 2=1
 ·have h2:=z4n hb
  have e2:n / 2 ^ h*2 ^ h=at'+2 ^ h:=by rw [h2,Nat.add_mul,Nat.one_mul,<-e1]
  exact ⟨by omega,⟨fun _=>hb,fun _=>by omega⟩,hq,fun _=>e2.symm,fun h=>absurd hb h⟩
 ·have h2:=z81 hb
  have e2:n / 2 ^ h*2 ^ h=at':=by rw [h2,<-e1]
  exact ⟨by omega,⟨fun _=>by omega,fun h=>absurd h hb⟩,hq,fun h=>absurd h hb,fun _=>e2.symm⟩
theorem zgj (n:Nat) (hn:n<=4611686018427387904) (w:World):Calls Tryz.prog 56 #[.int .u64 (n:Int)] w fun e w'=>
  ∃ v,e=.returned v/\w'.ownsRow w.heap.size 102 2 v (PC n) (z16 (TOPS 0 n))/\Below w.heap.size w w':=by
 have HN:Aside (n<=4611686018427387904):=hn;have hd:¬ (4611686018427387904:Int)<(n:Int):=by omega
 clear hn;go_enter Tryz.func56,Tryz.ntmps56;go_wp2;go_loopg [3,4,5] 63 (fun q s3 s4 s5 wx=>∃ a:Nat,s4=.int .u64 (a:Int)/\s5=.int .i64 ((q:Int) - 1)/\Aside (q<=63/\a=n / 2 ^ q*2 ^ q/\wx.ownsRow w.heap.size 102 2 s3 (PC (n / 2 ^ q)) (z16 (TOPS q n))/\Below w.heap.size w wx))
 case atStart=>
  have hz:n / 2 ^ 63=0:=Nat.div_eq_of_lt (by have:=HN.out;omega);refine ⟨0,rfl,rfl,by omega,by rw [hz,Nat.zero_mul],?_,Below.refl _ _⟩;rw [hz,z1a]
  have ht:TOPS 63 n=[]:=by
    unfold TOPS;rw [z80 (by have:=HN.out;omega)];rfl
  rw [ht];exact ⟨rfl,.inl ⟨rfl,rfl⟩⟩
 case round=>
  obtain ⟨a,rfl,rfl,A⟩:=hrel;cases gk with
  | zero=>
    have hlt:¬ (0:Int)<=((0:Nat):Int) - 1:=by omega
    go_wp2;go_ret;obtain ⟨_,_,hown,hbel⟩:=A.out;rw [Nat.pow_zero,Nat.div_one] at hown;exact ⟨_,rfl,hown,hbel⟩
  | succ h=>
    obtain ⟨h63,ha,hown,hbel⟩:=A.out;have hnn:=HN.out;obtain ⟨r,hr⟩:∃ r,r=n - a:=⟨_,rfl⟩
    obtain ⟨p1,p2,p3,p4,p5⟩:=zbo ha hr;have c:=z1n h (by omega);have hpw:2 ^ h<=2 ^ 62:=Nat.pow_le_pow_right (by decide) (by omega);have hp0:=Nat.two_pow_pos h;have e0:((h+1:Nat):Int) - 1=(h:Int):=by omega
    have e0':¬ (h:Int)<0:=by omega
    have e1:IntKind.u64.wrap ((n:Int) - (a:Int))=(r:Int):=by rw [z0b];omega
    have e3:(h:Int) % 256=(h:Int):=by omega
    have e4:wrap64 ((h:Int) - 1)=(h:Int) - 1:=by unfold wrap64;omega
    rw [e0];by_cases hb:n / 2 ^ h % 2=1
    ·have hge:2 ^ h<=r:=p2.2 hb
     have pq:=p4 hb;have e5:(a:Int) / ((2 ^ h:Nat):Int)=((2*(n / 2 ^ (h+1)):Nat):Int):=by rw [<-p3,Int.natCast_ediv]
     have hT:=zeI (n:=n) (h:=h) (by omega) hb;have hPC:PC (n / 2 ^ h)=PC (n / 2 ^ (h+1))+1:=by rw [z0D,<-z0r];omega
     have hlen:PC (n / 2 ^ (h+1))<=1000:=by have:=z1D 64 (n / 2 ^ (h+1)) (Nat.lt_of_le_of_lt (Nat.div_le_self _ _) (by omega));omega
     have hk64:2*(n / 2 ^ (h+1))<2 ^ 64:=by rw [<-p3];exact Nat.lt_of_le_of_lt (Nat.div_le_self _ _) (by omega)
     generalize 2*(n / 2 ^ (h+1))=k at *
     have e7:IntKind.u64.wrap (k:Int)=(k:Int):=by rw [z0b];omega
     have e6:IntKind.u64.wrap ((a:Int)+((2 ^ h:Nat):Int))=((n / 2 ^ h*2 ^ h:Nat):Int):=by rw [z0b,<-pq];omega
     have hge':((2 ^ h:Nat):Int)<=(r:Int):=by omega
     have hz0:¬ ((2 ^ h:Nat):Int)=0:=by omega
     generalize hm:PC (n / 2 ^ (h+1))=m at *
     generalize hl:TOPS (h+1) n=l at *
     generalize ((2 ^ h:Nat):Int)=z at *
     generalize hx:n / 2 ^ h*2 ^ h=x at *
     have R:Aside (h<=62/\x=n / 2 ^ h*2 ^ h/\wr.ownsRow w.heap.size 102 2 u3 m (z16 l)/\Below w.heap.size w wr/\m<=1000/\PC (n / 2 ^ h)=m+1/\TOPS h n=l ++ [(h,k)]):=⟨by omega,hx.symm,hown,hbel,hlen,hPC,hT⟩
     clear A HN h63 ha hown hbel hnn hr p1 p2 p3 p4 p5 hpw hp0 hb hge pq hT hPC hlen hk64 hm hl hx;go_wp2_with fail
     refine (c _).mono ?_;rintro e w' ⟨rfl,rfl⟩;go_wp2_with fail
     refine (c _).mono ?_;rintro e w' ⟨rfl,rfl⟩;go_wp2_with (at_builtin;refine zeH _ rfl (.tmp 19) (.tmp 27) rfl w.heap.size u3 m l rfl (R.out.2.2.1.alloc _) wr.heap.size 1 h k rfl (by rw [World.cell?_alloc_at _ _ _ _ rfl];rfl) (by rw [World.cell?_alloc_at _ _ _ _ rfl];rfl) R.out.2.2.2.2.1 (by have:=R.out.2.2.2.1.size;simp;omega) ?_;intro g' cap w1 hown hgrow hg)
     obtain ⟨r1,r2,r3,r4,r5,r6,r7⟩:=R.out;have R2:Aside (h<=63/\x=n / 2 ^ h*2 ^ h/\w1.ownsRow w.heap.size 102 2 (.slice (some ⟨g',0,none⟩) (m+1) cap) (PC (n / 2 ^ h)) (z16 (TOPS h n))/\Below w.heap.size w w1):=⟨by omega,r2,by rw [r6,r7];exact hown,(r4.alloc r4.size _).grown hgrow (by have:=r4.size;simp;omega) (fun k e=>(r3.lt k e).1)⟩
     clear hown hgrow hg R r1 r2 r3 r4 r5 r6 r7;refine (c _).mono ?_;rintro e w' ⟨rfl,rfl⟩;clear c;go_wp2;go_roundg h
     case measure=>omega
     case rel=>exact ⟨x,by first | rfl | (rw [e6]),by first | rfl | (rw [e4]),R2.out⟩
    ·have hge:¬ 2 ^ h<=r:=fun h=>hb (p2.1 h)
     have pq:=p5 hb;have hge':¬ ((2 ^ h:Nat):Int)<=(r:Int):=by omega
     have hT:=zbn (n:=n) (h:=h) (by omega) hb;have hPC:PC (n / 2 ^ h)=PC (n / 2 ^ (h+1)):=by rw [z0D,<-z0r];omega
     generalize ((2 ^ h:Nat):Int)=z at *
     have R:Aside (h<=63/\a=n / 2 ^ h*2 ^ h/\wr.ownsRow w.heap.size 102 2 u3 (PC (n / 2 ^ h)) (z16 (TOPS h n))/\Below w.heap.size w wr):=⟨by omega,pq,by rw [hT,hPC];exact hown,hbel⟩
     clear A HN h63 ha hown hbel hnn hr p1 p2 p3 p4 p5 hpw hp0 hb hge pq hT hPC;go_wp2_with fail
     refine (c _).mono ?_;rintro e w' ⟨rfl,rfl⟩;clear c;go_wp2;go_roundg h
     case measure=>omega
     case rel=>exact ⟨a,rfl,by first | rfl | (rw [e4]),R.out⟩
theorem z3N (n:Nat) (hn:n<=4611686018427387904) (w:World):Calls Tryz.prog 56 #[.int .u64 (n:Int)] w fun e w'=>
  ∃ a cap,e=.returned (.slice a (PC n) cap)/\Spots w' a (TOPS 0 n)/\Below w.heap.size w w':=by
 refine (zgj n hn w).mono ?_;rintro e w' ⟨v,rfl,hown,hb⟩;have hl:=z3p (n:=n) (by omega) 0 (by omega);rw [Nat.pow_zero,Nat.div_one] at hl;obtain ⟨a,cap,rfl,hs⟩:=zcQ hl hown;exact ⟨a,cap,rfl,hs,hb⟩
theorem zcR {n:Nat} (hn:n<=4611686018427387904) {j h k:Nat} (e:(TOPS 0 n)[j]?=some (h,k)):Node h k/\h<64:=by
 unfold TOPS at e;rw [List.getElem?_map] at e;obtain ⟨g,hg,e2⟩:=Option.map_eq_some_iff.1 e;simp only [Prod.mk.injEq] at e2;obtain ⟨rfl,rfl⟩:=e2;obtain ⟨_,h1,h2⟩:=z70 0 g (by omega) (List.mem_of_getElem? hg);exact ⟨Node.peak hn h2,h1⟩
theorem zbp (n:Nat):z17 n=(TOPS 0 n).map fun x=>PLC x.1 x.2:=by
 unfold z17 TOPS;rw [List.map_map];rfl
theorem z9v (n:Nat) (hn:n<=4611686018427387904) (w:World):Calls Tryz.prog 31 #[.int .u64 (n:Int)] w fun e w'=>
  ∃ v,e=.returned v/\w'.ownsRow w.heap.size 36 1 v (PC n) (z06 (z17 n))/\Below w.heap.size w w':=by
 have c:=z3N n hn w;have hl:=z3p (n:=n) (by omega) 0 (by omega);rw [Nat.pow_zero,Nat.div_one] at hl;have hP:=z1D 64 n (by omega);have hN:=fun (j h k:Nat) (e:(TOPS 0 n)[j]?=some (h,k))=>zcR hn e;have hpt:=zbp n;generalize PC n=L at *
 generalize TOPS 0 n=l at *
 have HL:Aside (l.length=L/\L<=64/\(∀ j h k,l[j]?=some (h,k)->Node h k/\h<64)/\z17 n=l.map fun x=>PLC x.1 x.2):=⟨hl,hP,hN,hpt⟩
 clear hn hl hP hN hpt;go_enter Tryz.func31,Tryz.ntmps31;go_wp2_with fail
 refine c.mono ?_;rintro e w1 ⟨a,cap,rfl,hs,hb⟩;have R1:Aside (Spots w1 a l/\Below w.heap.size w w1):=⟨hs,hb⟩
 clear c hs hb;go_wp2;go_loopg [3,5] L (fun q s3 s5 wx=>∃ j:Nat,s5=.int .i64 (j:Int)/\Aside (j+q=L/\wx.ownsRow w1.heap.size 36 1 s3 j (z06 ((l.take j).map fun x=>PLC x.1 x.2))/\Below w1.heap.size w1 wx))
 case atStart=>exact ⟨0,rfl,by omega,⟨rfl,.inl ⟨rfl,rfl⟩⟩,Below.refl _ _⟩
 case round=>
  obtain ⟨j,rfl,A⟩:=hrel;cases gk with
  | zero=>
    obtain rfl:j=L:=by have:=A.out.1;omega
    have hlt:¬ (j:Int)<(j:Int):=by omega
    go_wp2;go_ret;obtain ⟨_,hown,hbel⟩:=A.out;rw [List.take_of_length_le (by rw [HL.out.1];omega),<-HL.out.2.2.2] at hown;exact ⟨_,rfl,z1b hown R1.out.2.size,R1.out.2.trans (hbel.mono R1.out.2.size)⟩
  | succ q=>
    have hjl:j<L:=by have:=A.out.1;omega
    have hlt:(j:Int)<(L:Int):=by omega
    have hj0:¬ (j:Int)<0:=by omega
    obtain ⟨⟨h,k⟩,hx⟩:∃ x,l[j]?=some x:=⟨_,List.getElem?_eq_getElem (by rw [HL.out.1];exact hjl)⟩
    obtain ⟨g,rfl,hg,hc⟩:=R1.out.1 (by rw [HL.out.1];omega);have h0:wr.cell? ⟨g,j*2,none⟩=some (.int .u8 (h:Int)):=(A.out.2.2.cell (p:=⟨g,j*2,none⟩) hg).trans (hc j h k hx).1;have h1:wr.cell? ⟨g,j*2+1,none⟩=some (.int .u64 (k:Int)):=(A.out.2.2.cell (p:=⟨g,j*2+1,none⟩) hg).trans (hc j h k hx).2;have cp:=fun w=>z2r h k (HL.out.2.2.1 j h k hx).1 w;have e1:wrap64 ((j:Int)+1)=((j+1:Nat):Int):=by have:=HL.out.2.1;unfold wrap64;omega
    have ht:(l.take (j+1)).map (fun x=>PLC x.1 x.2)=(l.take j).map (fun x=>PLC x.1 x.2) ++ [PLC h k]:=by
     rw [List.take_add_one,hx];simp
    generalize PLC h k=y at *
    generalize hm:(l.take j).map (fun x=>PLC x.1 x.2)=m at *
    generalize hm2:(l.take (j+1)).map (fun x=>PLC x.1 x.2)=m2 at *
    have R:Aside (j+1+q=L/\wr.ownsRow w1.heap.size 36 1 u3 j (z06 m)/\Below w1.heap.size w1 wr/\j<=1000/\m2=m ++ [y]/\(l.take (j+1)).map (fun x=>PLC x.1 x.2)=m2):=⟨by have:=A.out.1;omega,A.out.2.1,A.out.2.2,by have:=HL.out.2.1;omega,ht,hm2⟩
    clear A HL R1 hx hg hc ht hm hm2 hjl;go_wp2_with fail
    refine (cp _).mono ?_;rintro e w2 ⟨rfl,hb⟩;replace R:Aside (j+1+q=L/\w2.ownsRow w1.heap.size 36 1 u3 j (z06 m)/\Below w1.heap.size w1 w2/\j<=1000/\m2=m ++ [y]/\(l.take (j+1)).map (fun x=>PLC x.1 x.2)=m2):=⟨R.out.1,z1h R.out.2.1 hb,R.out.2.2.1.trans (hb.mono R.out.2.2.1.size),R.out.2.2.2⟩
    clear cp hb h0 h1;go_wp2_with (at_builtin;refine z3w _ rfl (.tmp 24) (.tmp 26) rfl w1.heap.size u3 j m rfl (R.out.2.1.alloc _) w2.heap.size 1 y rfl (by rw [World.cell?_alloc_at _ _ _ _ rfl];rfl) R.out.2.2.2.1 (by have:=R.out.2.2.1.size;simp;omega) ?_;intro g' cap' w3 hown hgrow hg)
    obtain ⟨r1,r2,r3,r4,r5,r6⟩:=R.out;have R2:Aside (j+1+q=L/\w3.ownsRow w1.heap.size 36 1 (.slice (some ⟨g',0,none⟩) (j+1) cap') (j+1) (z06 ((l.take (j+1)).map fun x=>PLC x.1 x.2))/\Below w1.heap.size w1 w3):=⟨r1,by rw [r6,r5];exact hown,(r3.alloc r3.size _).grown hgrow (by have:=r3.size;simp;omega) (fun k e=>(r2.lt k e).1)⟩
    clear hown hgrow hg R r1 r2 r3 r4 r5 r6;go_wp2;go_roundg q
    case measure=>omega
    case rel=>exact ⟨j+1,by first | rfl | (rw [e1]),R2.out⟩
end Go.Proofs.YtlbcnaenhghieaaGreatDoor
