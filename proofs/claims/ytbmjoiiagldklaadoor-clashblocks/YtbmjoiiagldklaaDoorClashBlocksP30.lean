/- Texts of ClashBlocks, one behind the other: HashInputs. -/
import Derived.Test.YtbmjoiiagldklaaDoorClashBlocksP29
namespace Go.Proofs.YtbmjoiiagldklaaDoor.HX
open Go.RowKit Go.Shelf
set_option maxRecDepth 100000
attribute [local go_sem] Oper.semAt_some
theorem z59:(Tryd.prog.info? 76).map (fun i=>(i.zero,i.size,i.bytes))=some (some (.agg (UARR .u8 96 fun _=>0)),96,96):=by kernel_rfl
theorem zaw (n:Nat) (hn:n<2 ^ 30) (w:World):∃ cur:Array Value,cur.size=n*96∧(Instr.makeSlice 73 (.int .i64 0) (.int .i64 (n:Int))).run Tryd.prog w=.ok (.slice (some ⟨w.heap.size,0,none⟩) 0 n) (w.alloc (.cells cur 76)):=by
  obtain ⟨i,hi,hz,hs1,hby⟩:=info_parts z59
  have h:=run_make (P:=Tryd.prog) w 73 76 i _ Tryd.underlying73 hi hz .i64 .i64 0 n (by omega) (by omega) (by rw [hby];omega) (by omega)
  refine ⟨_,?_,h⟩
  rw [size_madeCells,hs1]
  omega
theorem z9V {w:World} {a ea:Option Addr} {n c en ec:Nat} {l k:List Nat} (h1:Text w a n l) (hn:n≤c) (ha:∀ x,a=some x→x.block<w.heap.size) (h2:Text w ea en k) (he:en≤ec) (hea:∀ x,ea=some x→x.block<w.heap.size):
    Parts (w.alloc (.cells #[.slice a n c,.slice ea en ec] 30)) (some ⟨w.heap.size,0,none⟩) 2 [⟨a,n,c,l⟩,⟨ea,en,ec,k⟩]:=by
  have hb:=(Below.refl w.heap.size w).alloc (Nat.le_refl _) (.cells #[.slice a n c,.slice ea en ec] 30)
  refine ⟨rfl,fun _=>⟨_,0,rfl,by simp,fun i p hp=>?_⟩,fun p hp=>?_⟩
  · rw [World.cell?_alloc_at _ _ _ _ rfl,Nat.zero_add]
    rcases i with _ | _ | i
    · simp at hp;subst hp;rfl
    · simp at hp;subst hp;rfl
    · simp at hp
  · simp only [List.mem_cons,List.not_mem_nil,or_false] at hp
    rcases hp with rfl | rfl
    · exact ⟨h1.below hb,hn,fun x hx=>by have:=ha x hx;simp;omega⟩
    · exact ⟨h2.below hb,he,fun x hx=>by have:=hea x hx;simp;omega⟩
theorem zig {β:Type} (B:Nat) (t:TypeId) (f:β→Array Value):Own (fun s W=>Has W B (f s) t):=fun s X Y row hs hg hrow=>
  (hg.block B hs.lt (fun e'=>by obtain ⟨o,ho,hc⟩:=hrow B e'.symm;rw [show X.heap[B]?=_ from hs] at ho;cases ho;cases hc)).trans hs
theorem zih (t e:TypeId) (C:Array Value) (n:Nat) (z:Value) (by':Nat) (hu:Tryd.prog.underlying t=some (.slice e)) (hi:(Tryd.prog.info? e).map (fun i=>(i.zero,i.size,i.bytes))=some (some z,n,by')) (hC:C.size=n) (hz:z.cells.size=n) (hn:0<n) (hs:n≤1000) (w:World):
    (Instr.buildSlice t 1 #[(0,.agg C)]).run Tryd.prog w=.ok (.slice (some ⟨w.heap.size,0,none⟩) 1 1) (w.alloc (.cells C e)):=by
  obtain ⟨i,hie,hz',hs1,_⟩:=info_parts hi
  refine run_buildSlice w t e 1 _ C i z hu hie hz' (by rw [hs1];omega) (by rw [hs1];omega) ?_
  have:=Great.fill_whole (s:=n) hn [.agg C] ((Array.range (1*i.size)).map (z.cells[· % z.cells.size]!)) (fun v hv=>by simp at hv;subst hv;exact hC) (by simp [hs1])
  simp [Value.cells] at this
  rw [hs1]
  simp
  rw [hs1] at this
  exact this
theorem z3d {w:World} {g n:Nat} {f:Nat→Nat} {t:TypeId} (h:Has w g (UARR .u8 n f) t) (F:Nat→Nat):(storeCells ⟨g,0,none⟩ (UARR .u8 n F).toList 0).run Tryd.prog w=.ok () (w.setRow g (UARR .u8 n F)):=by
  have:=run_storeCells_from (P:=Tryd.prog) g t (UARR .u8 n F).toList 0 _ w h (by rw [z06,Array.length_toList,z06];omega) (fun v hv=>by have:=Array.all_eq_true_iff_forall_mem.1 (z0r .u8 n F) v (by simpa using hv);exact this)
  simpa using this
theorem ze9 (w:World) (X:Nat→Nat):∀ j u,(BY (ROWN 96 X))[j]?=some u→(w.alloc (.cells (UARR .u8 96 X) 76)).cell? ((⟨w.heap.size,0,none⟩:Addr).add j)=some u:=fun j u h=>by
  rw [zie] at h
  obtain ⟨hj,rfl⟩:=z1r h
  rw [Addr.add_mid,(Has.new w (UARR .u8 96 X) 76).cell,Nat.zero_add,z0f _ _ _ _ hj]
theorem z5w {F:Fence} {n:Nat} {ops:Array Oper} {rest:List Oper} {o:Oper} {a:Act} {w:World} {Q:Exit→Act→World→Prop} (hg:o.guard=none) (hd:∀ c,o.op≠.defer c) (hab:o.about Tryd.prog w a.eval=none) (v:Value) (w':World)
    (hrun:(execOp a.eval o).run Tryd.prog w=.ok (.value v) w') (h:wpListIn F n Tryd.prog ops Q rest (a.put o.dst v) w'):wpListIn F n Tryd.prog ops Q (o :: rest) a w:=
  wpListIn_plain hg fun K hK=>⟨fun f hf=>(by rw [hab] at hf;cases hf),by rw [Oper.semAt_eq _ _ _ hd,hrun];exact hK _ _ h⟩
theorem z20 {F:Fence} {n:Nat} {ops:Array Oper} {rest:List Oper} {o:Oper} {a:Act} {w:World} {Q:Exit→Act→World→Prop} (hg:o.guard=none) (ty:TypeId) (x:Operand) (ho:o.op=.load ty x) (b k:Nat) (hx:a.eval x=.pointer (some ⟨b,k,none⟩)) (m:Nat) (f:Nat→Nat) (d:TypeDesc)
    (hc:w.rangeAt b k (z09 .u8 m f)) (hu:Tryd.prog.underlying ty=some d) (hd:d.isRow=true) (hi:(Tryd.prog.info? ty).map (·.size)=some m) (h:wpListIn F n Tryd.prog ops Q rest (a.put o.dst (.agg (UARR .u8 m f))) w):wpListIn F n Tryd.prog ops Q (o :: rest) a w:=by
  refine z5w hg (by rw [ho];intro c h;cases h) (by simp [Oper.about,ho]) (.agg (UARR .u8 m f)) w ?_ h
  unfold execOp
  rw [ho]
  simp only [hx]
  exact z07 ((run_loadAt_mid (P:=Tryd.prog) w b k ty _ d hc hu hd (by rw [z0k];exact hi)).trans (by rw [← z0l]))
theorem z79 {F:Fence} {n:Nat} {ops:Array Oper} {rest:List Oper} {o:Oper} {a:Act} {w:World} {Q:Exit→Act→World→Prop} (hg:o.guard=none) (t e:TypeId) (x:Operand) (ho:o.op=.buildSlice t 1 #[(0,x)]) (C:Array Value) (hx:a.eval x=.agg C) (m:Nat) (z:Value) (by':Nat)
    (hu:Tryd.prog.underlying t=some (.slice e)) (hi:(Tryd.prog.info? e).map (fun i=>(i.zero,i.size,i.bytes))=some (some z,m,by')) (hC:C.size=m) (hz:z.cells.size=m) (hn:0<m) (hs:m≤1000)
    (h:wpListIn F n Tryd.prog ops Q rest (a.put o.dst (.slice (some ⟨w.heap.size,0,none⟩) 1 1)) (w.alloc (.cells C e))):wpListIn F n Tryd.prog ops Q (o :: rest) a w:=by
  refine z5w hg (by rw [ho];intro c h;cases h) (by simp [Oper.about,ho]) (.slice (some ⟨w.heap.size,0,none⟩) 1 1) _ ?_ h
  unfold execOp
  rw [ho]
  simp only [List.map_toArray,List.map_cons,List.map_nil,hx]
  exact z07 (zih t e C m z by' hu hi hC hz hn hs w)
theorem KeepsOthers.below {W W':World} (h:Below W.heap.size W W'):KeepsOthers W W':=⟨h.size,fun k _ hk _=>(h.block k (Array.getElem?_eq_some_iff.1 hk).1).trans hk⟩
theorem KeepsOthers.row {W:World} {g:Nat} {c:Array Value} {t:TypeId} (h:Has W g c t) (cs:Array Value):KeepsOthers W (W.setRow g cs):=⟨by simp,fun k o hk ho=>by
  by_cases e:k=g
  · subst e
    rw [show W.heap[k]?=_ from h] at hk
    cases hk
    cases ho
  · rw [setRow_other W g k cs e]
    exact hk⟩
theorem Boxed.row {W:World} {B g:Nat} {t:TypeId} {v:Value} (h:Boxed W B t v) (hne:B≠g) (cs:Array Value):Boxed (W.setRow g cs) B t v:=(setRow_other W g B cs hne).trans h
def INV (d:Int) (L:List Nat) (m s2 s3 gl tc:Nat) (w2:World) (pre:List (Fin m)) (W:World):Prop:=
  ((∃ v,Boxed W (s2+1) 73 v∧W.ownsRow s2 76 96 v pre.length (BY (ACC d L pre).2)∧v=.slice (some ⟨s2,0,none⟩) pre.length m)∧Has W s3 (UARR .u8 32 (ACC d L pre).1) 26∧Boxed W (s3+1) 30 (.slice (some ⟨gl,0,none⟩) (64*m) tc)∧Boxed W (s3+1+1) 3 (.int .i64 64))∧Below s2 w2 W
theorem INV.own (d:Int) (L:List Nat) (m s2 s3 gl tc:Nat) (w2:World) (B:Nat) (h1:s2≤w2.heap.size) (h2:s2≤B):OwnFrom B (INV d L m s2 s3 gl tc w2):=
  fun pre W W' row h hg hr=>by
    obtain ⟨⟨hv,hS,bs,bn⟩,hB⟩:=h
    have hr':∀ r,row=some r→∃ o:Obj,W.heap[r]?=some o∧o.isCells=false:=fun r e=>(hr r e).2
    refine ⟨⟨?_,zig s3 26 (fun pre:List (Fin m)=>UARR .u8 32 (ACC d L pre).1) pre W W' row hS hg hr',boxed_own (s3+1) 30 (fun _:List (Fin m)=>.slice (some ⟨gl,0,none⟩) (64*m) tc) pre W W' row bs hg hr',boxed_own (s3+1+1) 3 (fun _:List (Fin m)=>.int .i64 64) pre W W' row bn hg hr'⟩,hB.grown hg (Nat.le_trans h1 hB.size) (fun k e=>Nat.le_trans h2 (hr k e).1)⟩
    exact holdsRow_own s2 (s2+1) 73 76 96 (fun pre:List (Fin m)=>pre.length) (fun pre=>BY (ACC d L pre).2) (fun pre v=>v=.slice (some ⟨s2,0,none⟩) pre.length m) pre W W' row hv hg hr'
set_option maxHeartbeats 2000000 in
theorem z8r (d:Int) (a:Option Addr) (n c:Nat) (l:List Nat) (w:World) (hA:Text w a n l) (hc:a=none→c=0) (hnc:n≤c) (ha:∀ x,a=some x→x.block<w.heap.size) (hlen:n<2 ^ 30) (hT:Tabled w):Calls Tryd.prog 33 #[.int .i64 d,.slice a n c] w fun e w'=>
    ∃ v,e=.returned v∧w'.ownsRow w.heap.size 76 96 v (NB l) (BY (INL d (HFUL l) (NB l)))∧Below w.heap.size w w':=by
  have hln:l.length=n:=hA.1
  have ce:=z86 n (by omega)
  have cf:=fun w (h:Tabled w)=>z9b d w h
  have hz:=z1M
  have H:Aside (Text w a n l∧(a=none→c=0)∧n≤c∧(∀ x,a=some x→x.block<w.heap.size)∧n<2 ^ 30∧Tabled w∧l.length=n):=⟨hA,hc,hnc,ha,hlen,hT,hln⟩
  clear hA hc hnc ha hlen hT hln
  have e1:IntKind.u64.wrap (n:Int)=(n:Int):=by have:=H.out.2.2.2.2.1;rw [z0z];omega
  refine (callsIn_wide (n:=5)).1 ?_
  refine callsIn_of_wp_marks Tryd.func33 rfl trivial ?_ rfl
  simp only [Tryd.ntmps33,List.size_toArray,List.length_cons,List.length_nil,Nat.reduceAdd,Nat.reduceSub,Array.replicate_succ,Array.replicate_zero,List.push_toArray,List.append_toArray,List.nil_append,List.cons_append]
  gi_wp2_with fail
  refine ⟨trivial,(callsIn_wide.2 (ce _)).mono ?_⟩
  rintro e w1 ⟨ea,ec,rfl,het,hec,heb,hb1⟩
  clear ce e1
  have hb1':Below w.heap.size w w1:=((Below.refl _ _).alloc (Nat.le_refl _) _).trans (hb1.mono (by simp))
  have hbx:Boxed w1 w.heap.size 3 (.int .i64 d):=(hb1.block _ (by simp)).trans (Boxed.new w 3 (.int .i64 d))
  have hea:∀ x,ea=some x→x.block<w1.heap.size:=fun x hx=>by
    obtain ⟨b,o,e,hlt,_⟩:=het.2.1 (by omega)
    rw [e] at hx
    cases hx
    exact hlt
  have hP:=z9V (H.out.1.below hb1') H.out.2.2.1 (fun x hx=>Nat.lt_of_lt_of_le (H.out.2.2.2.1 x hx) hb1'.size) het hec hea
  have hJ:JOIN [⟨a,n,c,l⟩,⟨ea,z0y n+9,ec,END n⟩]=HFUL l:=by simp [JOIN,HFUL,H.out.2.2.2.2.2.2]
  have hfl:(HFUL l).length=64*NB l:=z28 l
  have hnb:NB l<2 ^ 30:=zcB l (by have:=H.out;omega)
  have hnp:=z2C l
  have cc:=ze5 (some ⟨w1.heap.size,0,none⟩) 2 2 _ _ hP (fun p hp=>by
    simp only [List.mem_cons,List.not_mem_nil,or_false] at hp
    rcases hp with rfl | rfl
    · exact H.out.2.1
    · intro h
      obtain ⟨b,o,e,hlt,_⟩:=het.2.1 (by omega)
      rw [e] at h
      cases h) (by rw [hJ];omega) (by rw [hJ];omega) (by decide)
  rw [hJ] at cc
  gi_wp2_with fail
  refine ⟨trivial,(callsIn_wide.2 cc).mono ?_⟩
  rintro e w2 ⟨v,rfl,hown,hb2⟩
  clear cc hP hJ
  obtain ⟨ta,tc,rfl,hform⟩:=z4P hown
  obtain ⟨gl,rfl⟩:=hform (by omega)
  have hb2':Below w.heap.size w w2:=(hb1'.alloc hb1'.size _).trans (hb2.mono (by have:=hb1'.size;simp;omega))
  have hbx2:Boxed w2 w.heap.size 3 (.int .i64 d):=(hb2.block _ (by have:=hbx.lt;simp;omega)).trans (hbx.alloc _)
  have q1:((64*NB l:Nat):Int).tdiv 64=(NB l:Int):=by rw [Int.tdiv_eq_ediv_of_nonneg (by omega)];omega
  have hrow:∀ i,i<64*NB l→w2.cell? ⟨gl,i,none⟩=some (.int .u8 (((HFUL l).getD i 0:Nat):Int)):=fun i hi=>by
    rw [hown.cellAt i (by omega),z9o _ _ (by omega)]
  have htc:64*NB l≤tc:=by
    rcases hown.2 with ⟨h,_⟩ | ⟨g,cap,cur,h,_,_,h2,_⟩
    · cases h
    · cases h;omega
  have hglt:gl<w2.heap.size:=(hown.lt gl rfl).2
  rw [hfl]
  have R:Aside (Below w.heap.size w w2∧NB l<2 ^ 30∧0<NB l∧64*NB l≤tc):=⟨hb2',hnb,hnp,htc⟩
  obtain ⟨m,hm⟩:∃ m,NB l=m:=⟨_,rfl⟩
  obtain ⟨M,hM⟩:∃ M,64*NB l=M:=⟨_,rfl⟩
  rw [hm] at hnb
  obtain ⟨cur,hcs,hmk⟩:=zaw m hnb w2
  rw [hM,hm] at q1
  have q2:wrap64 (m:Int)=(m:Int):=by unfold wrap64;omega
  rw [hM]
  clear hown het hec hea heb hb1 hb2 hb1' hbx hb2' hfl hnb hnp htc hform
  have hcd:=((hbx2.alloc (.cells cur 76)).alloc (.cells #[.slice (some ⟨w2.heap.size,0,none⟩) 0 m] 73)).cell
  have hb2a:=(((Below.refl w2.heap.size w2).alloc (Nat.le_refl _) (.cells cur 76)).alloc (by simp) (.cells #[.slice (some ⟨w2.heap.size,0,none⟩) 0 m] 73))
  have cf':=cf (((w2.alloc (.cells cur 76)).alloc (.cells #[.slice (some ⟨w2.heap.size,0,none⟩) 0 m] 73))) ((H.out.2.2.2.2.2.1.below R.out.1).below hb2a)
  gi_wp2_with fail
  clear hmk q1 hcd
  refine ⟨trivial,(callsIn_wide.2 cf').mono ?_⟩
  rintro e w3 ⟨rfl,hb3⟩
  clear cf cf'
  have hst:=run_storeCells_new (P:=Tryd.prog) w3 26 (UARR .u8 32 fun _=>0) (UARR .u8 32 (z05 d)) (z0d _) (by rw [z06,z06]) (z0r _ _ _)
  gi_wp2_with fail
  clear hst hz
  refine ⟨trivial,(zfw Fence.wide 4 trivial rfl _ _ _ _).mono ?_⟩
  rintro e w4 ⟨rfl,rfl⟩
  gi_wp2_with fail
  obtain ⟨L,hL⟩:∃ L,HFUL l=L:=⟨_,rfl⟩
  have HR:Aside (64*m=M∧0<m∧m<2 ^ 30∧M≤tc∧gl<w2.heap.size∧Below w.heap.size w w2∧NB l=m∧HFUL l=L∧(∀ i,i<64*m→w2.cell? ⟨gl,i,none⟩=some (.int .u8 ((L.getD i 0:Nat):Int)))∧Boxed w2 w.heap.size 3 (.int .i64 d)∧Tabled w2∧Small8 L∧L.length=64*m):=by
    rw [← hL,← hm,← hM]
    exact ⟨rfl,R.out.2.2.1,R.out.2.1,R.out.2.2.2,hglt,R.out.1,rfl,rfl,hrow,hbx2,H.out.2.2.2.2.2.1.below R.out.1,z50 H.out.1.2.2,z28 l⟩
  have bO:Boxed w3 (w2.heap.size+1) 73 (.slice (some ⟨w2.heap.size,0,none⟩) 0 m):=by
    have b0:=Boxed.new (w2.alloc (.cells cur 76)) 73 (.slice (some ⟨w2.heap.size,0,none⟩) 0 m)
    simp only [World.size_alloc] at b0
    exact (hb3.block _ (by simp)).trans b0
  have hr0:w3.ownsRow w2.heap.size 76 96 (.slice (some ⟨w2.heap.size,0,none⟩) 0 m) 0 []:=z2q ((World.ownsRow_made w2 cur m (Nat.le_refl _) (by have:=HR.out;simp only [maxLen];omega) hcs).alloc _) hb3
  have hB3:Below w2.heap.size w2 w3:=hb2a.trans (hb3.mono (by simp;omega))
  have hs3:w2.heap.size+2≤w3.heap.size:=by have:=hb3.size;simpa using this
  obtain ⟨s2,hs2⟩:∃ s2,w2.heap.size=s2:=⟨_,rfl⟩
  obtain ⟨s3,hs3e⟩:∃ s3,w3.heap.size=s3:=⟨_,rfl⟩
  have hS:Has (w3.alloc (.cells (UARR .u8 32 (z05 d)) 26)) s3 (UARR .u8 32 (z05 d)) 26:=Has.at _ _ _ hs3e.symm
  have bs:Boxed ((w3.alloc (.cells (UARR .u8 32 (z05 d)) 26)).alloc (.cells #[.slice (some ⟨gl,0,none⟩) M tc] 30)) (s3+1) 30 (.slice (some ⟨gl,0,none⟩) M tc):=by have:=Boxed.new (w3.alloc (.cells (UARR .u8 32 (z05 d)) 26)) 30 (.slice (some ⟨gl,0,none⟩) M tc);simp only [World.size_alloc,hs3e] at this;exact this
  have bn:Boxed (((w3.alloc (.cells (UARR .u8 32 (z05 d)) 26)).alloc (.cells #[.slice (some ⟨gl,0,none⟩) M tc] 30)).alloc (.cells #[.int .i64 64] 3)) (s3+1+1) 3 (.int .i64 64):=by have:=Boxed.new ((w3.alloc (.cells (UARR .u8 32 (z05 d)) 26)).alloc (.cells #[.slice (some ⟨gl,0,none⟩) M tc] 30)) 3 (.int .i64 64);simp only [World.size_alloc,hs3e] at this;exact this
  have bO4:=((bO.alloc (.cells (UARR .u8 32 (z05 d)) 26)).alloc (.cells #[.slice (some ⟨gl,0,none⟩) M tc] 30)).alloc (.cells #[.int .i64 64] 3)
  have hr4:=((hr0.alloc (.cells (UARR .u8 32 (z05 d)) 26)).alloc (.cells #[.slice (some ⟨gl,0,none⟩) M tc] 30)).alloc (.cells #[.int .i64 64] 3)
  have hS4:=(hS.alloc (.cells #[.slice (some ⟨gl,0,none⟩) M tc] 30)).alloc (.cells #[.int .i64 64] 3)
  have bs4:=bs.alloc (.cells #[.int .i64 64] 3)
  have hB4:Below w2.heap.size w2 (((w3.alloc (.cells (UARR .u8 32 (z05 d)) 26)).alloc (.cells #[.slice (some ⟨gl,0,none⟩) M tc] 30)).alloc (.cells #[.int .i64 64] 3)):=((hB3.alloc hB3.size _).alloc (by have:=hB3.size;simp;omega) _).alloc (by have:=hB3.size;simp;omega) _
  have hsz:(((w3.alloc (.cells (UARR .u8 32 (z05 d)) 26)).alloc (.cells #[.slice (some ⟨gl,0,none⟩) M tc] 30)).alloc (.cells #[.int .i64 64] 3)).heap.size=s3+3:=by simp;omega
  rw [hs2,hs3e]
  rw [hs2] at bO4 hr4 hB4 hs3
  rw [hs3e] at hs3
  obtain ⟨W0,hW0⟩:∃ W0,(((w3.alloc (.cells (UARR .u8 32 (z05 d)) 26)).alloc (.cells #[.slice (some ⟨gl,0,none⟩) M tc] 30)).alloc (.cells #[.int .i64 64] 3))=W0:=⟨_,rfl⟩
  rw [hW0] at bO4 hr4 hS4 bs4 bn hB4 hsz ⊢
  have hgs:gl<s2:=by omega
  clear hW0 hb3 hbx2 hb2a bO hr0 hB3 hS bs R hrow hglt q2 hcs
  have hM64:M=64*m:=HR.out.1.symm
  subst hM64
  have hseq:=zav Fence.wide (5 - 1) trivial rfl (by omega) (s3+1) (s3+1+1) s2 gl m tc HR.out.2.1 HR.out.2.2.2.1 HR.out.2.2.1 W0 (by omega) (by omega) bs4.cell bn.cell
  refine wpIn_rangeFunc_ownG rfl (by omega) (gf:=92) (lb:=#[.pointer (some ⟨s3+1,0,none⟩),.pointer (some ⟨s3+1+1,0,none⟩)]) rfl trivial (enters_of Tryd.func92 (by kernel_rfl) rfl)
    hseq
    KEEPC.t (KEEPC.b (by omega) (by omega) (by omega)) (Below.refl _ _) (fun _=>rfl)
    (INV d L m s2 s3 gl tc w2)
    (fun _ _ _=>False)
    (INV.own d L m s2 s3 gl tc w2 _ (by omega) (by omega))
    (fun _ _ _ _ _ hs _ _=>hs)
    ⟨⟨⟨_,bO4,hr4,rfl⟩,hS4,bs4,bn⟩,hB4⟩
    (fun x=>{tmps:=#[.int .i64 d,.slice a n c,.pointer (some ⟨w.heap.size,0,none⟩),undef,.slice none 0 0,.slice (some ⟨gl,0,none⟩) (64*m) tc,.pointer (some ⟨s2+1,0,none⟩),.pointer (some ⟨s3,0,none⟩),z0p gl x.val,undef,.slice a n c,.slice a n c,.int .i64 (n:Int),.int .u64 (n:Int),.slice ea (z0y n+9) ec,.slice (some ⟨w1.heap.size,0,none⟩) 2 2,.slice (some ⟨gl,0,none⟩) (64*m) tc,.slice (some ⟨gl,0,none⟩) (64*m) tc,.int .i64 ((64*m:Nat):Int),.int .i64 (m:Int),.slice (some ⟨s2,0,none⟩) 0 m,.int .i64 d,.agg (UARR .u8 32 (z05 d)),.slice (some ⟨gl,0,none⟩) (64*m) tc,.func (.func 92) #[] #[.pointer (some ⟨s3+1,0,none⟩),.pointer (some ⟨s3+1+1,0,none⟩)],z0p gl x.val,undef,undef,undef,undef,undef,undef,undef,undef,undef,undef,undef,undef,undef,undef,undef,undef],defers:=[]}) ?assign ?body ?done ?stop
  case assign=>
    intro l x W K hK
    gi_wp2
    exact hK
  case body=>
    rintro l pre x W ⟨⟨⟨v,bO,hrow,rfl⟩,hS,bs,bn⟩,hB⟩ hlt
    have hsn:=z58 d L pre x
    have hS8:=zj9 d L pre
    have hlen:=zcC d L pre
    obtain ⟨S,hSe⟩:∃ S,(ACC d L pre).1=S:=⟨_,rfl⟩
    obtain ⟨ls,hlse⟩:∃ ls,(ACC d L pre).2=ls:=⟨_,rfl⟩
    rw [hSe,hlse] at hsn
    rw [hSe] at hS8 hS
    rw [hlse] at hrow hlen
    obtain ⟨j,hj⟩:∃ j,x.val=j:=⟨_,rfl⟩
    have hjm:j<m:=by rw [← hj];exact x.isLt
    rw [hj] at hsn ⊢
    have hB8:=z6M HR.out.2.2.2.2.2.2.2.2.2.2.2.1 j
    obtain ⟨X,hX⟩:∃ X,INP S (BLK L j)=X:=⟨_,rfl⟩
    rw [hX] at hsn
    have hrg:W.rangeAt gl (64*j) (z09 .u8 64 (BLK L j)):=fun i v hv=>by
      obtain ⟨hi,rfl⟩:=z1r hv
      rw [hB.cell (p:=⟨gl,64*j+i,none⟩) hgs,HR.out.2.2.2.2.2.2.2.2.1 (64*j+i) (by omega)]
      unfold BLK
      rw [if_pos hi]
    obtain ⟨N,hN⟩:∃ N,W.heap.size=N:=⟨_,rfl⟩
    dsimp only
    gi_upto_region 6 with fail
    refine zif _ _ _ _ _ _ _ _ _ _ _ _ _ _ _ _ _ _ _ _ _ _ _ _ _ _ _ _ _ _ _ _ _ _ _ _ _ _ _ _ W s3 gl j S (BLK L j) X hS.whole hrg hX ?_
    dsimp only
    obtain ⟨W5,hW5⟩:∃ W5,W.drew.alloc (.cells (UARR .u8 96 X) 76)=W5:=⟨_,rfl⟩
    have bO5:Boxed W5 (s2+1) 73 (.slice (some ⟨s2,0,none⟩) pre.length m):=by rw [← hW5];exact Boxed.alloc (W:=W.drew) bO _
    have hrow5:W5.ownsRow s2 76 96 (.slice (some ⟨s2,0,none⟩) pre.length m) pre.length (BY ls):=by rw [← hW5];exact hrow.drew.alloc _
    have hS5:Has W5 s3 (UARR .u8 32 S) 26:=by rw [← hW5];exact Has.alloc (w:=W.drew) hS _
    have bs5:Boxed W5 (s3+1) 30 (.slice (some ⟨gl,0,none⟩) (64*m) tc):=by rw [← hW5];exact Boxed.alloc (W:=W.drew) bs _
    have bn5:Boxed W5 (s3+1+1) 3 (.int .i64 64):=by rw [← hW5];exact Boxed.alloc (W:=W.drew) bn _
    have hX5:Has W5 N (UARR .u8 96 X) 76:=by rw [← hW5,← hN];exact Has.new W.drew _ _
    have hk5:KeepsOthers W W5:=by rw [← hW5];exact (KeepsOthers.drew W).trans (KeepsOthers.alloc _ _)
    have hb5:Below s2 W W5:=by rw [← hW5];exact (Below.refl s2 W).drew.alloc (by have:=hB.size;show s2≤W.heap.size;omega) _
    have hs5:s2≤W5.heap.size:=by have:=bO5.lt;omega
    have hNs:s3+3≤N:=by have:=bn.lt;omega
    rw [hW5,hN]
    have hbs0:=bs.cell
    have hbn0:=bn.cell
    clear hW5 bO hrow hS bs bn hrg
    have hc5:=bO5.cell
    obtain ⟨i0,hi0,hz0,hz1,hz2⟩:=info_parts z59
    gi_upto_region 8 with (first
      | (refine z20 rfl 76 (.tmp 9) rfl N 0 rfl 96 X _ hX5.whole Tryd.underlying76 rfl (by kernel_rfl) ?_)
      | (refine z79 rfl 73 76 (.tmp 32) rfl (UARR .u8 96 X) rfl 96 _ 96 Tryd.underlying73 z59 (z06 _ _ _) (by simp [Value.cells,z06]) (by decide) (by decide) ?_)
      | (gi_at_builtin;refine wpListIn_append_fits _ rfl _ _ 73 rfl s2 76 i0 96 Tryd.underlying73 hi0 hz1 s2 pre.length m (BY ls) rfl (hrow5.alloc _) ⟨W5.heap.size,0,none⟩ 1 1 (BY (ROWN 96 X)) rfl (by rw [zdC,z3n]) (ze9 W5 X) (ziA _) (by omega) ?_;intro w6 hown6 hgrow6;obtain ⟨hv1,hv2,hr2,hk2,hb2⟩:=bO5.appended (by decide) hrow5 (by omega) (by omega) hown6 hgrow6;have hc1:=hv1.cell;have hf1:=hv1.frozen))
    obtain ⟨W7,hW7⟩:∃ W7,w6.setCell ⟨s2+1,0,none⟩ (.slice (some ⟨s2,0,none⟩) (pre.length+1) m)=W7:=⟨_,rfl⟩
    have keep:∀ k c t,k≠s2→k≠s2+1→Has W5 k c t→Has W7 k c t:=fun k c t h1 h2 h=>by
      rw [← hW7]
      exact Has.other ((hgrow6.block k (by have:=h.lt;simp;omega) (by simp;omega)).trans (h.alloc _)) (by simpa using h2) _
    have hX7:=keep _ _ _ (by omega) (by omega) hX5
    have hS7:=keep _ _ _ (by omega) (by omega) hS5
    have bs7:Boxed W7 (s3+1) 30 (.slice (some ⟨gl,0,none⟩) (64*m) tc):=keep _ _ _ (by omega) (by omega) bs5
    have bn7:Boxed W7 (s3+1+1) 3 (.int .i64 64):=keep _ _ _ (by omega) (by omega) bn5
    rw [hW7] at hv2 hr2 hk2 hb2 ⊢
    have hBW:Below s2 w2 W7:=hB.trans (hb5.trans hb2)
    have hcd:W7.cell? ⟨w.heap.size,0,none⟩=some (.int .i64 d):=(hBW.cell (p:=⟨w.heap.size,0,none⟩) (by have:=HR.out.2.2.2.2.2.2.2.2.2.1.lt;show w.heap.size<s2;omega)).trans HR.out.2.2.2.2.2.2.2.2.2.1.cell
    have r1:W7.rangeAt N 0 (z09 .u8 32 S):=fun i v hv=>by
      obtain ⟨hi,rfl⟩:=z1r hv
      rw [hX7.cell,z0f _ _ _ _ (by omega),Nat.zero_add,← hX]
      unfold INP
      rw [if_pos hi]
    have r2:W7.rangeAt N 32 (z09 .u8 64 (BLK L j)):=fun i v hv=>by
      obtain ⟨hi,rfl⟩:=z1r hv
      rw [hX7.cell,z0f _ _ _ _ (by omega),← hX]
      unfold INP
      rw [if_neg (by omega),show 32+i - 32=i by omega]
    have cC:=z2t d S (BLK L j) hS8 hB8 W7 (HR.out.2.2.2.2.2.2.2.2.2.2.1.below (by rw [← hs2] at hBW;exact hBW))
    clear hW7 keep bO5 hrow5 hS5 bs5 bn5 hX5 hown6 hgrow6 hc1 hf1 hv1 hc5
    gi_wp2_with (first
      | (refine z20 rfl 26 (.tmp 36) rfl N 0 rfl 32 S _ r1 Tryd.underlying26 rfl z15 ?_)
      | (refine z20 rfl 42 (.tmp 38) rfl N 32 rfl 64 (BLK L j) _ r2 Tryd.underlying42 rfl z2G ?_))
    refine ⟨trivial,(CallsIn.inRound l (callsIn_wide.2 cC)).mono ?_⟩
    rintro e w8 ⟨rfl,hb8⟩
    clear cC r1 r2 hcd
    have hS8':=hS7.keep hb8
    have st8:=z3d hS8' (COMP d S (BLK L j))
    have hsz8:(UARR .u8 32 (COMP d S (BLK L j))).size=32:=z06 _ _ _
    gi_wp2
    obtain ⟨z1,z2,z3,z4,z5,z6,z7,z8,z9⟩:=HR.out
    have hs7:s3+3≤W7.heap.size:=by have:=bn7.lt;omega
    have k9:KeepsOthers W7 (w8.setRow s3 (UARR .u8 32 (COMP d S (BLK L j)))):=(KeepsOthers.below hb8).trans (KeepsOthers.row hS8' _)
    have b9:Below s2 W7 (w8.setRow s3 (UARR .u8 32 (COMP d S (BLK L j)))):=z0q (hb8.mono (by omega)) (by omega) _
    have kx:∀ k,k<W7.heap.size→k≠s3→(w8.setRow s3 (UARR .u8 32 (COMP d S (BLK L j)))).heap[k]?=W7.heap[k]?:=fun k h1 h2=>(setRow_other w8 s3 k _ h2).trans (hb8.block k h1)
    have bs9:Boxed (w8.setRow s3 (UARR .u8 32 (COMP d S (BLK L j)))) (s3+1) 30 (.slice (some ⟨gl,0,none⟩) (64*m) tc):=(kx _ (by omega) (by omega)).trans bs7
    have bn9:Boxed (w8.setRow s3 (UARR .u8 32 (COMP d S (BLK L j)))) (s3+1+1) 3 (.int .i64 64):=(kx _ (by omega) (by omega)).trans bn7
    have bO9:Boxed (w8.setRow s3 (UARR .u8 32 (COMP d S (BLK L j)))) (s2+1) 73 (.slice (some ⟨s2,0,none⟩) (pre.length+1) m):=(kx _ (by omega) (by omega)).trans hv2
    have hr9:(w8.setRow s3 (UARR .u8 32 (COMP d S (BLK L j)))).ownsRow s2 76 96 (.slice (some ⟨s2,0,none⟩) (pre.length+1) m) (pre.length+1) (BY ls ++ BY (ROWN 96 X)):=by
      refine ⟨hr2.1,hr2.2.imp id ?_⟩
      rintro ⟨g,c,cur,a1,a2,a3,a4⟩
      have:g=s2:=by cases a1;rfl
      subst this
      exact ⟨g,c,cur,a1,a2,(kx g (by omega) (by omega)).trans a3,a4⟩
    refine ⟨((hk5.trans hk2).trans k9).from _,⟨(hb5.trans hb2).trans b9,bs9.cell.trans hbs0.symm,bn9.cell.trans hbn0.symm⟩,⟨⟨_,bO9,?_,by simp⟩,?_,bs9,bn9⟩,hB.trans ((hb5.trans hb2).trans b9)⟩
    · rw [hsn,zdB,List.length_append]
      exact hr9
    · rw [hsn]
      exact hS8'.row _
  case done=>
    rintro D ys W hD hys ⟨⟨⟨v,bO,hrow,rfl⟩,hS,bs,bn⟩,hB⟩ hK
    have hc:=bO.cell
    gi_wp2
    refine ⟨by simp,.inl ⟨_,_,rfl,run_takeDeferred hK,?_⟩⟩
    have hys':ys=UPTO (NTH m HR.out.2.1) m:=hys
    subst hys'
    obtain ⟨z1,z2,z3,z4,z5,z6,z7,z8, -⟩:=HR.out
    have hl:(UPTO (NTH m z2) m).length=m:=z1w _ _
    rw [zbk d L m z2 m (Nat.le_refl _)] at hrow
    have hbw:Below w.heap.size w W:=z6.trans (hB.mono (by have:=z6.size;omega))
    refine ⟨_,results_tmp rfl _ _ _,.slice (some ⟨s2,0,none⟩) m m,by show Ending.returned (Value.slice (some ⟨s2,0,none⟩) (UPTO (NTH m _) m).length m)=_;rw [hl],?_,hbw.trans (belowK_b (w:=w) (Nat.le_refl _) W D _ _ (by have:=z6.size;omega) hK rfl rfl)⟩
    rw [z7,z8]
    rw [hl] at hrow
    exact ownsRow_putObj (l:=D) (z18 hrow (show w.heap.size≤s2 by have:=z6.size;omega)) (.deferred none) hK rfl
  case stop=>
    rintro D c pre W _ _ h _
    exact h.elim
end Go.Proofs.YtbmjoiiagldklaaDoor.HX
