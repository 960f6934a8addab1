/- Texts of SpanMakes, one behind the other: SpanMake, ManyRefNeedsRegion, SpanRefNeedsRegion, ManyLies. -/
import Derived.Laws.Cover3
import Derived.Test.YtnmalbngdhjhjaaGreatDoorSpanMakesP35
namespace Go.Proofs.YtnmalbngdhjhjaaGreatDoor
open Go.RowKit
set_option maxRecDepth 100000
def GCAT (G:Nat→List Int) (P:List Nat):List Int:=P.flatMap G
theorem zdc {G:Nat→List Int} {P:List Nat} {i p:Nat} (e:P[i]?=some p):GCAT G (P.take (i+1))=GCAT G (P.take i) ++ G p:=by
  unfold GCAT
  rw [List.take_add_one,e,List.flatMap_append]
  simp
def z4b (w:World) (G:Nat→List Int) (EN:Nat→Int) (E:Int) (P:List Nat) (F T N:Nat) (e:Ending) (w':World):Prop:=
  Below w.heap.size w w'∧
  ((E≠0∧e=.returned (.tuple #[.agg #[.int .u64 0,.int .u64 0,.int .u64 0,.slice none 0 0],.int .i64 E]))∨
   (E=0∧(∀ p∈P,EN p=0)∧∃ a2 c2,e=.returned (.tuple #[.agg #[.int .u64 (N:Int),.int .u64 (F:Int),.int .u64 (T:Int),.slice a2 P.length c2],.int .i64 0])∧w'.ownsRow w.heap.size 35 32 (.slice a2 P.length c2) P.length (z00 (GCAT G P)))∨
   (E=0∧∃ (j p:Nat),P[j]?=some p∧(∀ (i q:Nat),i<j→P[i]?=some q→EN q=0)∧EN p≠0∧e=.returned (.tuple #[.agg #[.int .u64 0,.int .u64 0,.int .u64 0,.slice none 0 0],.int .i64 (EN p)])))
theorem z36 {fn:Func} {p q:Tmp} {ty:TypeId} (h:fn.results=#[.cell p ty,.tmp q]) (tmps:Array Value) (w:World) (g:Nat) (v v2:Value)
    (hp:tmps.getD p undef=.pointer (some ⟨g,0,none⟩)) (hq:tmps.getD q undef=v2) (h1:(loadVar ty ⟨g,0,none⟩).run Tryz.prog w=.ok v w):
    (results fn tmps).run Tryz.prog w=.ok (.tuple #[v,v2]) w:=by
  have hp':tmps[p]?.getD undef=.pointer (some ⟨g,0,none⟩):=by simpa using hp
  have hq':tmps[q]?.getD undef=v2:=by simpa using hq
  simp [results,h,hp',hq',asAddr,h1]
set_option maxHeartbeats 8000000 in
theorem z8M (F T N g:Nat) (G:Nat→List Int) (EN:Nat→Int) (w:World) (E:Int) (P:List Nat) (hE:E≠0)
    (cp:∀ W,Below w.heap.size w W→Calls Tryz.prog 62 #[.int .u64 (F:Int),.int .u64 (T:Int),.int .u64 (N:Int)] W (z35 W E P)):
    Calls Tryz.prog 15 #[.iface 25 (.pointer (some ⟨g,0,none⟩)),.int .u64 (F:Int),.int .u64 (T:Int),.int .u64 (N:Int)] w (z4b w G EN E P F T N):=by
  obtain ⟨w1,e1⟩:∃ w1,w.alloc (.cells #[.int .u64 0,.int .u64 0,.int .u64 0,.slice none 0 0] 43)=w1:=⟨_,rfl⟩
  obtain ⟨b6,hb6⟩:∃ b,w.heap.size=b:=⟨_,rfl⟩
  have hb1:Below w.heap.size w w1:=by rw [← e1];exact (Below.refl _ _).alloc (Nat.le_refl _) _
  have h61:Has w1 b6 #[.int .u64 0,.int .u64 0,.int .u64 0,.slice none 0 0] 43:=by rw [← e1,← hb6];exact Has.new _ _ _
  have cc:=cp w1 hb1
  have HW:Aside (Below w.heap.size w w1∧Has w1 b6 #[.int .u64 0,.int .u64 0,.int .u64 0,.slice none 0 0] 43∧w.heap.size=b6∧E≠0):=⟨hb1,h61,hb6,hE⟩
  have hne:(E == 0)=false:=beq_eq_false_iff_ne.2 hE
  clear cp hb1 h61 hE
  go_enter Tryz.func15,Tryz.ntmps15
  go_upto_region 1 with fail
  clear e1 hb6
  go_wp2_with fail
  refine cc.mono ?_
  rintro e w2 ⟨ap,kp,rfl,_,hb2⟩
  clear cc
  have h62:=HW.out.2.1.keep hb2
  have FB:Aside (Below w.heap.size w (w2.setRow b6 #[.int .u64 0,.int .u64 0,.int .u64 0,.slice none 0 0])):=z0d (HW.out.1.trans (hb2.mono HW.out.1.size)) (by have:=HW.out.2.2.1;omega) _
  clear hb2
  go_wp2_with (refine wpList_store_row rfl 43 (.tmp 8) (.tmp 26) rfl _ _ rfl rfl 43 _ h62 (by kernel_rfl) rfl (by simp [Value.oneCell']) ?_)
  exact bodyPost_ret (v:=.tuple #[.agg #[.int .u64 0,.int .u64 0,.int .u64 0,.slice none 0 0],.int .i64 E]) (z36 rfl _ _ b6 _ _ rfl rfl (run_loadVar_row _ b6 43 43 _ (0,0) _ (h62.row _) Tryz.underlying43 rfl (by kernel_rfl))) rfl ⟨FB.out,.inl ⟨HW.out.2.2.2,rfl⟩⟩
structure SKJ (w3 wx:World) (G:Nat→List Int) (P:List Nat) (F T N b6 b10 i:Nat) (v:Value):Prop where
  res:Has wx b6 #[.int .u64 0,.int .u64 0,.int .u64 0,.slice none 0 0] 43
  made:Has wx b10 #[.int .u64 (N:Int),.int .u64 (F:Int),.int .u64 (T:Int),v] 43
  nodes:wx.ownsRow w3.heap.size 35 32 v i (z00 (GCAT G (P.take i)))
  but:BUT b10 w3 wx
set_option maxHeartbeats 16000000 in
theorem z9M (F T N g:Nat) (G:Nat→List Int) (EN:Nat→Int) (hG:∀ p,(G p).length=32) (w:World) (E:Int) (P:List Nat) (hP:P.length≤50000) (hN:zbE w g G EN P)
    (cp:∀ W,Below w.heap.size w W→Calls Tryz.prog 62 #[.int .u64 (F:Int),.int .u64 (T:Int),.int .u64 (N:Int)] W (z35 W E P)):
    Calls Tryz.prog 15 #[.iface 25 (.pointer (some ⟨g,0,none⟩)),.int .u64 (F:Int),.int .u64 (T:Int),.int .u64 (N:Int)] w (z4b w G EN E P F T N):=by
  by_cases hE:E=0
  case neg=>exact z8M F T N g G EN w E P hE cp
  subst hE
  obtain ⟨w1,e1⟩:∃ w1,w.alloc (.cells #[.int .u64 0,.int .u64 0,.int .u64 0,.slice none 0 0] 43)=w1:=⟨_,rfl⟩
  obtain ⟨b6,hb6⟩:∃ b,w.heap.size=b:=⟨_,rfl⟩
  have hb1:Below w.heap.size w w1:=by rw [← e1];exact (Below.refl _ _).alloc (Nat.le_refl _) _
  have h61:Has w1 b6 #[.int .u64 0,.int .u64 0,.int .u64 0,.slice none 0 0] 43:=by rw [← e1,← hb6];exact Has.new _ _ _
  have cc:=cp w1 hb1
  have HA:Aside (P.length≤50000∧zbE w g G EN P∧∀ p,(G p).length=32):=⟨hP,hN,hG⟩
  have HW:Aside (Below w.heap.size w w1∧Has w1 b6 #[.int .u64 0,.int .u64 0,.int .u64 0,.slice none 0 0] 43∧w.heap.size=b6):=⟨hb1,h61,hb6⟩
  clear cp hb1 h61 hP hN hG
  go_enter Tryz.func15,Tryz.ntmps15
  go_upto_region 1 with fail
  clear e1 hb6
  go_wp2_with fail
  refine cc.mono ?_
  rintro e w2 ⟨ap,kp,rfl,op,hb2⟩
  clear cc
  have hb12:Below w.heap.size w w2:=HW.out.1.trans (hb2.mono HW.out.1.size)
  have W2:Aside (Below w.heap.size w w2∧Has w2 b6 #[.int .u64 0,.int .u64 0,.int .u64 0,.slice none 0 0] 43∧w2.ownsRow w1.heap.size 24 1 (.slice ap P.length kp) P.length (z0k P)∧w.heap.size=b6∧b6<w1.heap.size):=⟨hb12,HW.out.2.1.keep hb2,op,HW.out.2.2,HW.out.2.1.lt⟩
  have H12:Aside (w1.heap.size≤w2.heap.size∧b6<w1.heap.size∧w.heap.size≤w1.heap.size):=⟨hb2.size,HW.out.2.1.lt,HW.out.1.size⟩
  clear hb12 hb2 op HW
  obtain ⟨np,hnp⟩:∃ np,P.length=np:=⟨_,rfl⟩
  have HP:Aside (P.length=np):=hnp
  go_upto_region 5 with fail
  obtain ⟨w4,e4⟩:∃ w4,w2.alloc (.cells #[.int .u64 (N:Int),.int .u64 (F:Int),.int .u64 (T:Int),.slice none 0 0] 43)=w4:=⟨_,rfl⟩
  have hb4:Below w2.heap.size w2 w4:=by rw [← e4];exact (Below.refl _ _).alloc (Nat.le_refl _) _
  have h10:Has w4 w2.heap.size #[.int .u64 (N:Int),.int .u64 (F:Int),.int .u64 (T:Int),.slice none 0 0] 43:=by rw [← e4];exact Has.new _ _ _
  rw [e4]
  have W4:Aside (Below w.heap.size w w4∧w4.ownsRow w1.heap.size 24 1 (.slice ap P.length kp) P.length (z0k P)∧w.heap.size=b6∧b6<w2.heap.size∧w2.heap.size<w4.heap.size∧(∀ k,(Value.slice ap P.length kp).ownBlock=some k→k<w2.heap.size)):=
    ⟨W2.out.1.trans (hb4.mono W2.out.1.size),z1R W2.out.2.2.1 fun k e=>hb4.block k (W2.out.2.2.1.lt k e).2,W2.out.2.2.2.1,W2.out.2.1.lt,h10.lt,fun k e=>(W2.out.2.2.1.lt k e).2⟩
  have S0:Aside (SKJ w4 w4 G P F T N b6 w2.heap.size 0 (.slice none 0 0)):=
    ⟨W2.out.2.1.keep hb4,h10,⟨rfl,.inl ⟨rfl,rfl⟩⟩,BUT.refl _ _⟩
  generalize w2.heap.size=b10 at *
  clear e4 hb4 h10 W2
  go_wp2_with fail
  go_loopg [34] np (fun q s34 wx=>∃ (i:Nat) (va:Option Addr) (vc:Nat),s34=.int .i64 (i:Int)∧Aside (i+q=np∧SKJ w4 wx G P F T N b6 b10 i (.slice va i vc)∧∀ (j p:Nat),j<i→P[j]?=some p→EN p=0))
  case atStart=>exact ⟨0,none,0,rfl,by omega,S0.out,fun j p hj=>by omega⟩
  case round=>
    obtain ⟨i,va,vc,rfl,A⟩:=hrel
    clear S0
    cases gk with
    | zero=>
      obtain rfl:i=np:=by have:=A.out.1;omega
      have hlt:¬ (i:Int)<(i:Int):=by omega
      have hmk:=A.out.2.1.made
      have hres:=A.out.2.1.res
      have x0:=hmk.cell 0
      have x1:=hmk.cell 1
      have x2:=hmk.cell 2
      have x3:=hmk.cell 3
      have FN:Aside (z4b w G EN 0 P F T N (.returned (.tuple #[.agg #[.int .u64 (N:Int),.int .u64 (F:Int),.int .u64 (T:Int),.slice va i vc],.int .i64 0])) (wr.setRow b6 #[.int .u64 (N:Int),.int .u64 (F:Int),.int .u64 (T:Int),.slice va i vc])):=by
        have h:=A.out.2.1
        have hp:=HP.out
        have hw:=W4.out
        have hbw:Below w.heap.size w wr:=hw.1.trans (h.but.2.mono (by omega))
        refine ⟨z0d hbw (by omega) _,.inr (.inl ⟨rfl,fun p hpm=>?_,va,vc,by rw [hp],?_⟩)⟩
        · obtain ⟨j,hj⟩:=List.getElem?_of_mem hpm
          exact A.out.2.2 j p (by have:=(List.getElem?_eq_some_iff.1 hj).1;omega) hj
        · have:=h.nodes
          rw [List.take_of_length_le (by omega)] at this
          rw [hp]
          exact z0s (z1R this fun k e=>setRow_other wr b6 k _ (by have:=(this.lt k e).1;omega)) hw.1.size
      clear A HA W4 HP hnp
      go_wp2_with (first
        | (refine wpList_store_row rfl 43 (.tmp 8) (.tmp 55) rfl _ _ rfl rfl 43 _ hres (by kernel_rfl) rfl (by simp [Value.oneCell']) ?_))
      exact bodyPost_ret (v:=.tuple #[.agg #[.int .u64 (N:Int),.int .u64 (F:Int),.int .u64 (T:Int),.slice va i vc],.int .i64 0]) (z36 rfl _ _ b6 _ _ rfl rfl (run_loadVar_row _ b6 43 43 _ (0,0) _ (hres.row _) Tryz.underlying43 rfl (by kernel_rfl))) rfl FN.out
    | succ q=>
      have hip:i<P.length:=by have:=A.out.1;have:=HP.out;omega
      have hlt:(i:Int)<(np:Int):=by have:=A.out.1;omega
      have ei:wrap64 ((i:Int)+1)=((i+1:Nat):Int):=by have:=HA.out.1;unfold wrap64;omega
      obtain ⟨p,ep⟩:∃ p,P[i]?=some p:=⟨_,List.getElem?_eq_getElem hip⟩
      obtain ⟨gp,rfl⟩:∃ gp,ap=some ⟨gp,0,none⟩:=by
        rcases W4.out.2.1.2 with ⟨e,h0⟩ | ⟨g',cap,cur,e,_⟩
        · clear ei;omega
        · cases e;exact ⟨_,rfl⟩
      have hgp:gp<b10:=W4.out.2.2.2.2.2 gp rfl
      have hcell:wr.cell? ⟨gp,i,none⟩=some (.int .u64 (p:Int)):=by
        have h1:=W4.out.2.1.cellAt i (by clear ei;omega)
        refine (World.cell?_of_block (w:=w4) (by exact A.out.2.1.but.1 gp (by have:=W4.out;clear ei;omega) (by clear ei;omega))).trans (h1.trans ?_)
        rw [z0k,List.getElem?_map,ep]
        rfl
      have hbw:Below w.heap.size w wr:=W4.out.1.trans (A.out.2.1.but.2.mono (by have:=W4.out;clear ei;omega))
      have cn:=HA.out.2.1 wr hbw p (List.mem_of_getElem? ep)
      have y32:=HA.out.2.2 p
      have HI:Aside (P[i]?=some p∧GCAT G (P.take (i+1))=GCAT G (P.take i) ++ G p∧Below w.heap.size w wr∧gp<b10):=⟨ep,zdc ep,hbw,hgp⟩
      clear hip ep hgp hbw
      generalize G p=Y at *
      go_wp2_with fail
      refine cn.mono ?_
      rintro e w5 ⟨rfl,hb5⟩
      clear cn hcell
      go_upto_region 9 with (refine wpList_store_row rfl 35 (.tmp 15) (.tmp 42) rfl _ _ rfl rfl 35 _ (Has.new w5 _ _) (z0V y32) (by simp [z00,y32]) (z1G Y) ?_;rw [World.setRow_alloc_new])
      obtain ⟨w6,e6⟩:∃ w6,w5.alloc (.cells (z00 Y).toArray 35)=w6:=⟨_,rfl⟩
      have hb56:Below w5.heap.size w5 w6:=by rw [← e6];exact (Below.refl _ _).alloc (Nat.le_refl _) _
      have h13:Has w6 w5.heap.size (z00 Y).toArray 35:=by rw [← e6];exact Has.new _ _ _
      rw [e6]
      have hbr:Below wr.heap.size wr w6:=hb5.trans (hb56.mono hb5.size)
      have J6:Aside (SKJ w4 w6 G P F T N b6 b10 i (.slice va i vc)∧Below w.heap.size w w6∧wr.heap.size≤w5.heap.size):=by
        have h:=A.out.2.1
        refine ⟨⟨h.res.keep hbr,h.made.keep hbr,z1R h.nodes fun k e=>hbr.block k (h.nodes.lt k e).2,h.but.trans (BUT.of_below hbr (Nat.le_of_lt h.made.lt))⟩,HI.out.2.2.1.trans (hbr.mono HI.out.2.2.1.size),hb5.size⟩
      have AQ:Aside (i+q+1=np∧∀ (j p:Nat),j<i→P[j]?=some p→EN p=0):=⟨by have:=A.out.1;clear ei;omega,A.out.2.2⟩
      have AS:Aside (w4.heap.size≤wr.heap.size):=A.out.2.1.but.2.size
      generalize w5.heap.size=b13 at *
      clear e6 hb56 hbr hb5 A
      by_cases hEN:EN p=0
      case neg=>
        have hres:=J6.out.1.res
        have hne:(EN p == 0)=false:=beq_eq_false_iff_ne.2 hEN
        have FN:Aside (z4b w G EN 0 P F T N (.returned (.tuple #[.agg #[.int .u64 0,.int .u64 0,.int .u64 0,.slice none 0 0],.int .i64 (EN p)])) (w6.setRow b6 #[.int .u64 0,.int .u64 0,.int .u64 0,.slice none 0 0])):=⟨z0d J6.out.2.1 (by have:=W4.out.2.2.1;clear ei;omega) _,.inr (.inr ⟨rfl,i,p,HI.out.1,AQ.out.2,hEN,rfl⟩)⟩
        clear J6 AQ HI HA W4 HP hnp hEN AS H12
        generalize EN p=EE at *
        go_wp2_with (refine wpList_store_row rfl 43 (.tmp 8) (.tmp 46) rfl _ _ rfl rfl 43 _ hres (by kernel_rfl) rfl (by simp [Value.oneCell']) ?_)
        exact bodyPost_ret (v:=.tuple #[.agg #[.int .u64 0,.int .u64 0,.int .u64 0,.slice none 0 0],.int .i64 EE]) (z36 rfl _ _ b6 _ _ rfl rfl (run_loadVar_row _ b6 43 43 _ (0,0) _ (hres.row _) Tryz.underlying43 rfl (by kernel_rfl))) rfl FN.out
      have hmk:=J6.out.1.made
      have x3:=hmk.cell 3
      have BB:Aside (∀ (w7:World),(w6.alloc (.cells (z00 Y).toArray 35)).grownBy w7 (Value.slice va i vc).ownBlock→∀ q,q<w6.heap.size→(Value.slice va i vc).ownBlock≠some q→w7.heap[q]?=w6.heap[q]?):=fun w7 hgr q hq hne=>(hgr.block q (by simp;clear ei;omega) fun e=>hne e.symm).trans (Below.heap_alloc w6 _ q hq)
      have NB:Aside (∀ q,q<w4.heap.size→(Value.slice va i vc).ownBlock≠some q):=fun q hq e=>by have:=(J6.out.1.nodes.lt q e).1;clear ei;omega
      go_wp2_with (first
        | (refine wpList_load_row rfl 35 (.tmp 15) rfl b13 rfl 35 (z00 Y).toArray (0,0) _ h13 Tryz.underlying35 rfl (z0V y32) ?_)
        | (refine z1d _ rfl 22 35 (.tmp 50) rfl (z00 Y).toArray rfl 32 _ _ Tryz.underlying22 z27 (by simp [z00,y32]) rfl (by decide) (by decide) ?_)
        | (at_builtin;refine z4E _ rfl (.tmp 49) (.tmp 51) rfl w4.heap.size (.slice va i vc) i _ rfl (J6.out.1.nodes.alloc _) _ 1 Y y32 rfl (Has.new _ _ _) (by have:=HA.out.1;have:=HP.out;have:=AQ.out.1;clear ei;omega) (by have:=J6.out.1.but.2.size;simp;clear ei;omega) ?_;intro g7 c7 w7 hown hgrow hat hg7
           have k10:Has w7 b10 #[.int .u64 (N:Int),.int .u64 (F:Int),.int .u64 (T:Int),.slice va i vc] 43:=(BB.out w7 hgrow b10 hmk.lt (NB.out b10 W4.out.2.2.2.2.1)).trans hmk
           have z2:=k10.cell 3
           have fz:=k10.frozen 3))
      have Z:Aside (i+1+q=np∧SKJ w4 (w7.setCell ⟨b10,3,none⟩ (.slice (some ⟨g7,0,none⟩) (i+1) c7)) G P F T N b6 b10 (i+1) (.slice (some ⟨g7,0,none⟩) (i+1) c7)∧∀ (j p:Nat),j<i+1→P[j]?=some p→EN p=0):=by
        have h:=J6.out.1
        have hw:=W4.out
        have hs:=h.but.2.size
        have hne10:∀ k,k<w4.heap.size→(Value.slice va i vc).ownBlock≠some k:=NB.out
        have hg4:w4.heap.size≤g7:=(hown.lt g7 rfl).1
        refine ⟨by have:=AQ.out.1;clear ei;omega,⟨?_,k10.set 3 _,?_,⟨fun q hq hne=>?_,?_⟩⟩,fun j p' hj hp'=>?_⟩
        · exact Has.other ((BB.out w7 hgrow b6 h.res.lt (hne10 b6 (by clear ei;omega))).trans h.res) (by show b6≠b10;clear ei;omega) _
        · rw [HI.out.2.1,z0r]
          exact ownsRow_setCell_below hown (a:=⟨b10,3,none⟩) (by show b10<w4.heap.size;clear ei;omega) _
        · rw [Below.heap_setCell _ _ _ _ (by exact hne),BB.out w7 hgrow q (by clear ei;omega) (hne10 q hq)]
          exact h.but.1 q hq hne
        · refine Below.setCell ?_ (p:=⟨b10,3,none⟩) (Nat.le_refl _) _
          refine (h.but.2.alloc (by clear ei;omega) _).grown hgrow (by simp;clear ei;omega) (fun k e=>?_)
          have:=(h.nodes.lt k e).1
          clear ei
          omega
        · rcases Nat.lt_or_ge j i with hj' | hj'
          · exact AQ.out.2 j p' hj' hp'
          · obtain rfl:j=i:=by clear ei;omega
            rw [HI.out.1] at hp'
            cases hp'
            exact hEN
      clear hown hgrow hat hg7 J6 AQ HI BB NB z2 fz k10 hmk x3 h13
      generalize w7.setCell ⟨b10,3,none⟩ (.slice (some ⟨g7,0,none⟩) (i+1) c7)=w8 at *
      go_wp2
      go_roundg q
      case measure=>exact Nat.lt_succ_self _
      case rel=>exact ⟨i+1,some ⟨g7,0,none⟩,c7,by first | rfl | (rw [ei]),Z.out⟩
end Go.Proofs.YtnmalbngdhjhjaaGreatDoor

namespace Go.Proofs.YtnmalbngdhjhjaaGreatDoor
open Go.RowKit
set_option maxRecDepth 100000
theorem z1f {w:World} {B s n:Nat} {t:TypeId} {v:Value} {xs:List Value} (h:w.ownsRow B t s v n xs) (o:Obj):(w.alloc o).ownsRow B t s v n xs:=z1R h fun k e=>Below.heap_alloc w o k (h.lt k e).2
end Go.Proofs.YtnmalbngdhjhjaaGreatDoor

namespace Go.Proofs.YtnmalbngdhjhjaaGreatDoor
set_option linter.unusedSimpArgs false
open Go.RowKit
set_option maxRecDepth 100000
@[go_sem] def RN6OPSq0:Oper:=⟨some 29,.buildSlice 100 0 #[],100,"ref.go:34",#[],none⟩
@[go_sem] def RN6OPSq1:Oper:=⟨some 30,.move (.tmp 7),100,"ref.go:34",#[],none⟩
@[go_sem] def RN6OPSq2:Oper:=⟨some 31,.call {callee:=.builtin .append,args:=#[.tmp 29,.tmp 30],argTypes:=#[100,100]},100,"ref.go:34",#[⟨0,.data⟩,⟨1,.data⟩],none⟩
@[go_sem] def RN6OPSq3:Oper:=⟨some 32,.fieldAddr 104 (.tmp 3) 0,0,"ref.go:34",#[],none⟩
@[go_sem] def RN6OPSq4:Oper:=⟨some 33,.load 5 (.tmp 32),5,"ref.go:34",#[⟨3,.data⟩],none⟩
@[go_sem] def RN6OPSq5:Oper:=⟨some 34,.binOp .sub 5 (.tmp 33) (.const (.int .u8 1)) 5,5,"ref.go:34",#[⟨4,.data⟩],none⟩
@[go_sem] def RN6OPSq6:Oper:=⟨some 35,.fieldAddr 104 (.tmp 3) 1,0,"ref.go:34",#[],none⟩
@[go_sem] def RN6OPSq7:Oper:=⟨some 36,.load 24 (.tmp 35),24,"ref.go:34",#[⟨6,.data⟩],none⟩
@[go_sem] def RN6OPSq8:Oper:=⟨some 37,.binOp .mul 24 (.const (.int .u64 2)) (.tmp 36) 24,24,"ref.go:34",#[⟨7,.data⟩],none⟩
@[go_sem] def RN6OPSq9:Oper:=⟨some 38,.binOp .add 24 (.tmp 37) (.const (.int .u64 1)) 24,24,"ref.go:34",#[⟨8,.data⟩],none⟩
@[go_sem] def RN6OPSq10:Oper:=⟨some 39,.build 104 #[(0,.tmp 34),(1,.tmp 38)],104,"ref.go:34",#[⟨5,.data⟩,⟨9,.data⟩],none⟩
@[go_sem] def RN6OPSq11:Oper:=⟨some 40,.move (.tmp 1),24,"ref.go:34",#[],none⟩
@[go_sem] def RN6OPSq12:Oper:=⟨some 41,.move (.tmp 2),24,"ref.go:34",#[],none⟩
@[go_sem] def RN6OPSq13:Oper:=⟨some 42,.call {callee:=.value (.func 59),args:=#[.tmp 39,.tmp 40,.tmp 41],argTypes:=#[104,24,24]},100,"ref.go:34",#[⟨10,.data⟩,⟨11,.data⟩,⟨12,.data⟩,⟨2,.chain⟩],none⟩
@[go_sem] def RN6OPSq14:Oper:=⟨some 43,.call {callee:=.builtin .append,args:=#[.tmp 31,.tmp 42],argTypes:=#[100,100]},100,"ref.go:34",#[⟨2,.data⟩,⟨13,.data⟩,⟨13,.chain⟩],none⟩
@[go_sem] def RN6OPSq15:Oper:=⟨some 6,.assign (.tmp 43),100,"ref.go:34",#[⟨14,.data⟩,⟨14,.chain⟩,⟨0,.phase⟩,⟨1,.phase⟩,⟨2,.phase⟩,⟨3,.phase⟩,⟨4,.phase⟩,⟨5,.phase⟩,⟨6,.phase⟩,⟨7,.phase⟩,⟨8,.phase⟩,⟨9,.phase⟩,⟨10,.phase⟩,⟨11,.phase⟩,⟨12,.phase⟩,⟨13,.phase⟩,⟨14,.phase⟩],none⟩
def z3C:Array Oper:=#[RN6OPSq0,RN6OPSq1,RN6OPSq2,RN6OPSq3,RN6OPSq4,RN6OPSq5,RN6OPSq6,RN6OPSq7,RN6OPSq8,RN6OPSq9,RN6OPSq10,RN6OPSq11,RN6OPSq12,RN6OPSq13,RN6OPSq14,RN6OPSq15]
set_option maxHeartbeats 2000000 in
theorem zga {Q:Exit→Act→World→Prop} {u0 u4 u5 u6 u8 u9 u10 u11 u12 u13 u14 u15 u16 u17 u18 u19 u20 u21 u22 u23 u24 u25 u26 u27 u28 u29 u30 u31 u32 u33 u34 u35 u36 u37 u38 u39 u40 u41 u42 u43:Value} (W:World) (b H h kx k2 k3:Nat) (F T:Nat) (Bo:Nat) (ao:Option Addr) (mo co m2:Nat) (A B:List (Nat × Nat)) (hb:b<W.heap.size) (hc0:W.cell? ⟨b,0,none⟩=some (.int .u8 (H:Int))) (hc1:W.cell? ⟨b,1,none⟩=some (.int .u64 (kx:Int))) (e1:IntKind.u8.wrap ((H:Int) - 1)=(h:Int)) (e2:IntKind.u64.wrap (2*(kx:Int))=(k2:Int)) (e3:IntKind.u64.wrap ((k2:Int)+1)=(k3:Int))
    (hO:W.ownsRow Bo 104 2 (.slice ao mo co) mo (z0g A)) (hmm:mo+m2≤2 ^ 26)
    (c1:∀ w,Below W.heap.size W w→Calls Tryz.prog 59 #[.agg #[.int .u8 (h:Int),.int .u64 (k3:Int)],.int .u64 (F:Int),.int .u64 (T:Int)] w fun e w'=>∃ a2 q2,e=.returned (.slice a2 m2 q2)∧w'.ownsRow w.heap.size 104 2 (.slice a2 m2 q2) m2 (z0g B)∧Below w.heap.size w w') (hQ:∀ c (a:Act) (t:Tmp) (v:Value) w,Q (.panic c) (a.put (some t) v) w→Q (.panic c) a w)
    (hfin:∀ (z:Nat) (a1:Option Addr) (q1:Nat) (a2:Option Addr) (q2:Nat) (a3:Option Addr) (q3:Nat) (w:World),(Below W.heap.size W w∧w.ownsRow W.heap.size 104 2 (.slice a3 (mo+m2) q3) (mo+m2) (z0g (A ++ B)))→Q .normal {tmps:=#[u0,.int .u64 (F:Int),.int .u64 (T:Int),.pointer (some ⟨b,0,none⟩),u4,u5,.slice a3 (mo+m2) q3,.slice ao mo co,u8,u9,u10,u11,u12,u13,u14,u15,u16,u17,u18,u19,u20,u21,u22,u23,u24,u25,u26,u27,u28,.slice (some ⟨z,0,none⟩) 0 0,.slice ao mo co,.slice a1 mo q1,.pointer (some ⟨b,0,none⟩),.int .u8 (H:Int),.int .u8 (h:Int),.pointer (some ⟨b,1,none⟩),.int .u64 (kx:Int),.int .u64 (k2:Int),.int .u64 (k3:Int),.agg #[.int .u8 (h:Int),.int .u64 (k3:Int)],.int .u64 (F:Int),.int .u64 (T:Int),.slice a2 m2 q2,.slice a3 (mo+m2) q3],defers:=[]} w):(Code.region 6 z3C true).wp Tryz.prog Q {tmps:=#[u0,.int .u64 (F:Int),.int .u64 (T:Int),.pointer (some ⟨b,0,none⟩),u4,u5,u6,.slice ao mo co,u8,u9,u10,u11,u12,u13,u14,u15,u16,u17,u18,u19,u20,u21,u22,u23,u24,u25,u26,u27,u28,u29,u30,u31,u32,u33,u34,u35,u36,u37,u38,u39,u40,u41,u42,u43],defers:=[]} W:=by
  have ekst0_2_13_14:∀ (z:Nat) (a1:Option Addr) (q1:Nat) (a2:Option Addr) (q2:Nat) (a3:Option Addr) (q3:Nat) (w:World),(Below W.heap.size W w∧w.ownsRow W.heap.size 104 2 (.slice a3 (mo+m2) q3) (mo+m2) (z0g (A ++ B)))→wpAnyH Tryz.prog .any z3C Q (fun w:World=>w.cell? ⟨b,0,none⟩=some (.int .u8 (H:Int))∧w.cell? ⟨b,1,none⟩=some (.int .u64 (kx:Int))) 1 #[true,true,true,true,true,true,true,true,true,true,true,true,true,true,true,false] {tmps:=#[u0,.int .u64 (F:Int),.int .u64 (T:Int),.pointer (some ⟨b,0,none⟩),u4,u5,u6,.slice ao mo co,u8,u9,u10,u11,u12,u13,u14,u15,u16,u17,u18,u19,u20,u21,u22,u23,u24,u25,u26,u27,u28,.slice (some ⟨z,0,none⟩) 0 0,.slice ao mo co,.slice a1 mo q1,.pointer (some ⟨b,0,none⟩),.int .u8 (H:Int),.int .u8 (h:Int),.pointer (some ⟨b,1,none⟩),.int .u64 (kx:Int),.int .u64 (k2:Int),.int .u64 (k3:Int),.agg #[.int .u8 (h:Int),.int .u64 (k3:Int)],.int .u64 (F:Int),.int .u64 (T:Int),.slice a2 m2 q2,.slice a3 (mo+m2) q3],defers:=[]} w:=fun z a1 q1 a2 q2 a3 q3 w hp=>by
    have hww:(fun w:World=>w.cell? ⟨b,0,none⟩=some (.int .u8 (H:Int))∧w.cell? ⟨b,1,none⟩=some (.int .u64 (kx:Int))) w:=⟨(hp.1.cell (p:=⟨b,0,none⟩) hb).trans hc0,(hp.1.cell (p:=⟨b,1,none⟩) hb).trans hc1⟩
    refine tkP RN6OPSq15 (.slice a3 (mo+m2) q3) 15 hQ hww ?_
    simp only [List.set]
    exact wpAnyH_done (by kernel_rfl) (hfin z a1 q1 a2 q2 a3 q3 w hp) _
  have kst0_2:∀ (z:Nat) (a1:Option Addr) (q1:Nat) (w:World),(Below W.heap.size W w∧w.ownsRow W.heap.size 104 2 (.slice a1 mo q1) mo (z0g A))→wpAnyH Tryz.prog .any z3C Q (fun w:World=>w.cell? ⟨b,0,none⟩=some (.int .u8 (H:Int))∧w.cell? ⟨b,1,none⟩=some (.int .u64 (kx:Int))) 3 #[true,true,true,true,true,true,true,true,true,true,true,true,true,false,false,false] {tmps:=#[u0,.int .u64 (F:Int),.int .u64 (T:Int),.pointer (some ⟨b,0,none⟩),u4,u5,u6,.slice ao mo co,u8,u9,u10,u11,u12,u13,u14,u15,u16,u17,u18,u19,u20,u21,u22,u23,u24,u25,u26,u27,u28,.slice (some ⟨z,0,none⟩) 0 0,.slice ao mo co,.slice a1 mo q1,.pointer (some ⟨b,0,none⟩),.int .u8 (H:Int),.int .u8 (h:Int),.pointer (some ⟨b,1,none⟩),.int .u64 (kx:Int),.int .u64 (k2:Int),.int .u64 (k3:Int),.agg #[.int .u8 (h:Int),.int .u64 (k3:Int)],.int .u64 (F:Int),.int .u64 (T:Int),u42,u43],defers:=[]} w:=fun z a1 q1 w hp=>by
    refine wpAnyH_ready (rs:=[13]) (by kernel_rfl) (by simp) ?_
    refine AllReadyH.cons (o:=RN6OPSq13) rfl (fun KQ hKQ=>?_) ?_
    · rw [if_pos (by rfl)]
      go_simp
      refine (show Calls _ _ _ w (fun e w'=>∃ (a2:Option Addr) (q2:Nat),e=.returned (.slice a2 m2 q2)∧(Below W.heap.size W w'∧w'.ownsRow W.heap.size 104 2 (.slice a1 mo q1) mo (z0g A)∧w'.ownsRow W.heap.size 104 2 (.slice a2 m2 q2) m2 (z0g B))) from (c1 w hp.1).mono fun e w' ⟨a2,q2,he,h⟩=>⟨a2,q2,he,hp.1.trans (h.2.mono hp.1.size),z0b hp.2 h.2,z0s h.1 hp.1.size⟩).mono ?_
      rintro e w ⟨a2,q2,rfl,hp⟩
      refine hKQ.out _ _ (⟨(hp.1.cell (p:=⟨b,0,none⟩) hb).trans hc0,(hp.1.cell (p:=⟨b,1,none⟩) hb).trans hc1⟩) (fun _=>?_)
      simp only [List.setIfInBounds_toArray,List.set]
      refine wpAnyH_ready (rs:=[14]) (by kernel_rfl) (by simp) ?_
      refine AllReadyH.cons (o:=RN6OPSq14) rfl (fun KQ hKQ=>?_) ?_
      · exact z0U (by rfl) (z5j w rfl (.tmp 31) (.tmp 42) rfl W.heap.size (.slice a1 mo q1) mo A rfl hp.2.1 W.heap.size a2 m2 q2 B rfl hp.2.2 hmm hp.1.size (fun a3 q3 w' h1 h2=>⟨rfl,(have hp:(fun (z:Nat) (a1:Option Addr) (q1:Nat) (a2:Option Addr) (q2:Nat) (a3:Option Addr) (q3:Nat) (w:World)=>(Below W.heap.size W w∧w.ownsRow W.heap.size 104 2 (.slice a3 (mo+m2) q3) (mo+m2) (z0g (A ++ B)))) z a1 q1 a2 q2 a3 q3 w':=⟨hp.1.grown h2 hp.1.size (fun k e=>(hp.2.1.lt k e).1),h1⟩;hKQ.out _ _ (⟨(hp.1.cell (p:=⟨b,0,none⟩) hb).trans hc0,(hp.1.cell (p:=⟨b,1,none⟩) hb).trans hc1⟩) (fun _=>ekst0_2_13_14 z a1 q1 a2 q2 a3 q3 _ hp))⟩))
      exact AllReadyH.nil
    exact AllReadyH.nil
  have kst0:∀ (z:Nat) (w:World),(Below W.heap.size W w∧w.ownsRow W.heap.size 104 2 (.slice (some ⟨z,0,none⟩) 0 0) 0 (z0g []))→wpAnyH Tryz.prog .any z3C Q (fun w:World=>w.cell? ⟨b,0,none⟩=some (.int .u8 (H:Int))∧w.cell? ⟨b,1,none⟩=some (.int .u64 (kx:Int))) 4 #[true,true,false,true,true,true,true,true,true,true,true,true,true,false,false,false] {tmps:=#[u0,.int .u64 (F:Int),.int .u64 (T:Int),.pointer (some ⟨b,0,none⟩),u4,u5,u6,.slice ao mo co,u8,u9,u10,u11,u12,u13,u14,u15,u16,u17,u18,u19,u20,u21,u22,u23,u24,u25,u26,u27,u28,.slice (some ⟨z,0,none⟩) 0 0,.slice ao mo co,u31,.pointer (some ⟨b,0,none⟩),.int .u8 (H:Int),.int .u8 (h:Int),.pointer (some ⟨b,1,none⟩),.int .u64 (kx:Int),.int .u64 (k2:Int),.int .u64 (k3:Int),.agg #[.int .u8 (h:Int),.int .u64 (k3:Int)],.int .u64 (F:Int),.int .u64 (T:Int),u42,u43],defers:=[]} w:=fun z w hp=>by
    refine wpAnyH_ready (rs:=[2]) (by kernel_rfl) (by simp) ?_
    refine AllReadyH.cons (o:=RN6OPSq2) rfl (fun KQ hKQ=>?_) ?_
    · exact z0U (by rfl) (z5j w rfl (.tmp 29) (.tmp 30) rfl W.heap.size (.slice (some ⟨z,0,none⟩) 0 0) 0 [] rfl hp.2 Bo ao mo co A rfl (z0b hO (hp.1.mono (Nat.le_refl _))) (by omega) hp.1.size (by rw [Nat.zero_add,List.nil_append];exact fun a1 q1 w' h1 h2=>⟨rfl,(have hp:(fun (z:Nat) (a1:Option Addr) (q1:Nat) (w:World)=>(Below W.heap.size W w∧w.ownsRow W.heap.size 104 2 (.slice a1 mo q1) mo (z0g A))) z a1 q1 w':=⟨hp.1.grown h2 hp.1.size (fun k e=>(hp.2.lt k e).1),h1⟩;hKQ.out _ _ (⟨(hp.1.cell (p:=⟨b,0,none⟩) hb).trans hc0,(hp.1.cell (p:=⟨b,1,none⟩) hb).trans hc1⟩) (fun _=>kst0_2 z a1 q1 _ hp))⟩))
    exact AllReadyH.nil
  have kst:∀ (w:World),(Below W.heap.size W w∧True)→wpAnyH Tryz.prog .any z3C Q (fun w:World=>w.cell? ⟨b,0,none⟩=some (.int .u8 (H:Int))∧w.cell? ⟨b,1,none⟩=some (.int .u64 (kx:Int))) 5 #[false,true,false,true,true,true,true,true,true,true,true,true,true,false,false,false] {tmps:=#[u0,.int .u64 (F:Int),.int .u64 (T:Int),.pointer (some ⟨b,0,none⟩),u4,u5,u6,.slice ao mo co,u8,u9,u10,u11,u12,u13,u14,u15,u16,u17,u18,u19,u20,u21,u22,u23,u24,u25,u26,u27,u28,u29,.slice ao mo co,u31,.pointer (some ⟨b,0,none⟩),.int .u8 (H:Int),.int .u8 (h:Int),.pointer (some ⟨b,1,none⟩),.int .u64 (kx:Int),.int .u64 (k2:Int),.int .u64 (k3:Int),.agg #[.int .u8 (h:Int),.int .u64 (k3:Int)],.int .u64 (F:Int),.int .u64 (T:Int),u42,u43],defers:=[]} w:=fun  w hp=>by
    refine wpAnyH_ready (rs:=[0]) (by kernel_rfl) (by simp) ?_
    refine AllReadyH.cons (o:=RN6OPSq0) rfl (fun KQ hKQ=>?_) ?_
    · exact z0q (by rfl) (by go_simp) (have hp:(fun (z:Nat) (w:World)=>(Below W.heap.size W w∧w.ownsRow W.heap.size 104 2 (.slice (some ⟨z,0,none⟩) 0 0) 0 (z0g []))) w.heap.size _:=⟨hp.1.alloc hp.1.size _,z0s (zbL w) hp.1.size⟩;hKQ.out _ _ (⟨(hp.1.cell (p:=⟨b,0,none⟩) hb).trans hc0,(hp.1.cell (p:=⟨b,1,none⟩) hb).trans hc1⟩) (fun _=>kst0 w.heap.size _ hp))
    exact AllReadyH.nil
  have hp:=(⟨(Below.refl W.heap.size W).drew,trivial⟩:Below W.heap.size W W.drew∧True)
  have hww:(fun w:World=>w.cell? ⟨b,0,none⟩=some (.int .u8 (H:Int))∧w.cell? ⟨b,1,none⟩=some (.int .u64 (kx:Int))) W.drew:=⟨(hp.1.cell (p:=⟨b,0,none⟩) hb).trans hc0,(hp.1.cell (p:=⟨b,1,none⟩) hb).trans hc1⟩
  have last:=kst W.drew hp
  have z:wpAnyH Tryz.prog .any z3C Q (fun w:World=>w.cell? ⟨b,0,none⟩=some (.int .u8 (H:Int))∧w.cell? ⟨b,1,none⟩=some (.int .u64 (kx:Int))) 16 #[false,false,false,false,false,false,false,false,false,false,false,false,false,false,false,false] {tmps:=#[u0,.int .u64 (F:Int),.int .u64 (T:Int),.pointer (some ⟨b,0,none⟩),u4,u5,u6,.slice ao mo co,u8,u9,u10,u11,u12,u13,u14,u15,u16,u17,u18,u19,u20,u21,u22,u23,u24,u25,u26,u27,u28,u29,u30,u31,u32,u33,u34,u35,u36,u37,u38,u39,u40,u41,u42,u43],defers:=[]} W.drew:=by
    refine tkP RN6OPSq1 (.slice ao mo co) 1 hQ hww ?_
    simp only [List.set]
    refine tkP RN6OPSq3 (.pointer (some ⟨b,0,none⟩)) 3 hQ hww ?_
    simp only [List.set]
    refine tkH RN6OPSq4 (.int .u8 (H:Int)) 4 hQ (Or.inl ⟨by rfl,fun w hw=>by have hx:=hw.1;go_simp⟩) hww ?_
    simp only [List.set]
    refine tkH RN6OPSq5 (.int .u8 (h:Int)) 5 hQ (Or.inl ⟨by rfl,fun w hw=>by have hx:=e1;go_simp⟩) hww ?_
    simp only [List.set]
    refine tkP RN6OPSq6 (.pointer (some ⟨b,1,none⟩)) 6 hQ hww ?_
    simp only [List.set]
    refine tkH RN6OPSq7 (.int .u64 (kx:Int)) 7 hQ (Or.inl ⟨by rfl,fun w hw=>by have hx:=hw.2;go_simp⟩) hww ?_
    simp only [List.set]
    refine tkH RN6OPSq8 (.int .u64 (k2:Int)) 8 hQ (Or.inl ⟨by rfl,fun w hw=>by have hx:=e2;go_simp⟩) hww ?_
    simp only [List.set]
    refine tkH RN6OPSq9 (.int .u64 (k3:Int)) 9 hQ (Or.inl ⟨by rfl,fun w hw=>by have hx:=e3;go_simp⟩) hww ?_
    simp only [List.set]
    refine tkP RN6OPSq10 (.agg #[.int .u8 (h:Int),.int .u64 (k3:Int)]) 10 hQ hww ?_
    simp only [List.set]
    refine tkP RN6OPSq11 (.int .u64 (F:Int)) 11 hQ hww ?_
    simp only [List.set]
    refine tkP RN6OPSq12 (.int .u64 (T:Int)) 12 hQ hww ?_
    simp only [List.set]
    exact last
  exact wp_region_held_drew (S:=(fun w:World=>w.cell? ⟨b,0,none⟩=some (.int .u8 (H:Int))∧w.cell? ⟨b,1,none⟩=some (.int .u64 (kx:Int)))) (by kernel_rfl) hww (fun _=>z)
end Go.Proofs.YtnmalbngdhjhjaaGreatDoor

namespace Go.Proofs.YtnmalbngdhjhjaaGreatDoor
open Go.RowKit
set_option maxRecDepth 100000
theorem zeY {w:World} {B n c:Nat} {a:Option Addr} {L:List Nat} (h:w.ownsRow B 24 1 (.slice a n c) n (z0k L)) (hl:L.length=n):NUML w a L:=fun h0=>by
  rcases h.2 with ⟨e,h1⟩ | ⟨g,cap,cur,e,hb,hg,_⟩
  · omega
  · cases e
    refine ⟨g,0,rfl,(Array.getElem?_eq_some_iff.1 hg).1,fun i x hx=>?_⟩
    have hi:i<L.length:=(List.getElem?_eq_some_iff.1 hx).1
    rw [Nat.zero_add,h.cellAt i (by omega),z0k,List.getElem?_map,hx]
    rfl
theorem NUML.keep {w w':World} {a:Option Addr} {L:List Nat} (h:NUML w a L) (hb:Below w.heap.size w w'):NUML w' a L:=fun h0=>by
  obtain ⟨b,o,e,hl,hc⟩:=h h0
  exact ⟨b,o,e,Nat.lt_of_lt_of_le hl hb.size,fun i x hx=>(hb.cell (p:=⟨b,o+i,none⟩) hl).trans (hc i x hx)⟩
end Go.Proofs.YtnmalbngdhjhjaaGreatDoor
