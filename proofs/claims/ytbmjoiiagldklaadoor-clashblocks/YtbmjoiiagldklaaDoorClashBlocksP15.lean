/- Texts of ClashBlocks, one behind the other: ClashTakeRegions, HashRefBlocks, HashRefBits, HashRefWords, HashRefCut, HashRefStep, HashSame, HashRefBegin, HashRefStates, HashRefSum, HashGiven, HashWidthsWalk, ClashTexts. -/
import Derived.Great.BuildSlice
import Derived.Deep.LoopGhost
import Derived.Deep.AppendLies
import Derived.Deep.RegionHeld3
import Derived.Deep.RegionLaw
import Derived.Deep.MidRow
import Derived.Test.YtbmjoiiagldklaaDoorClashBlocksP6
import Derived.Test.YtbmjoiiagldklaaDoorClashBlocksP8
import Derived.Test.YtbmjoiiagldklaaDoorClashBlocksP9
import Derived.Test.YtbmjoiiagldklaaDoorClashBlocksP11
import Derived.Test.YtbmjoiiagldklaaDoorClashBlocksP12
import Derived.Test.YtbmjoiiagldklaaDoorClashBlocksP14
namespace Go.Proofs.YtbmjoiiagldklaaDoor
open Go.RowKit
set_option maxRecDepth 100000
def z9n:Array Oper:=#[⟨some 16,.move (.tmp 0),54,"met.go:31",#[],none⟩,⟨some 17,.nilCheck (.tmp 16),0,"met.go:31",#[⟨0,.data⟩],none⟩,⟨some 18,.fieldAddr 59 (.tmp 17) 1,0,"met.go:31",#[⟨1,.data⟩],none⟩,⟨some 19,.load 57 (.tmp 18),57,"met.go:31",#[⟨2,.data⟩],none⟩,⟨some 20,.load 26 (.tmp 5),26,"met.go:31",#[],none⟩,⟨some 21,.lookup 57 (.tmp 19) (.tmp 20) true,132,"met.go:31",#[⟨3,.data⟩,⟨4,.data⟩],none⟩,⟨some 15,.move (.tmp 21),132,"met.go:31",#[⟨5,.data⟩],none⟩,⟨some 22,.extract (.tmp 15) 0,30,"met.go:31",#[⟨6,.data⟩],none⟩,⟨some 23,.extract (.tmp 15) 1,4,"met.go:31",#[⟨6,.data⟩,{on:=9,ground:=.gcOnly Departure.lateStores}],none⟩,⟨some 6,.assign (.tmp 22),30,"met.go:31",#[⟨7,.data⟩,⟨0,.phase⟩,⟨1,.phase⟩,⟨2,.phase⟩,⟨3,.phase⟩,⟨4,.phase⟩,⟨5,.phase⟩,⟨6,.phase⟩,⟨7,.phase⟩,{on:=8,ground:=.textOnly Departure.lateStores}],none⟩,⟨some 7,.assign (.tmp 23),4,"met.go:31",#[⟨8,.data⟩,⟨9,.chain⟩,⟨0,.phase⟩,⟨1,.phase⟩,⟨2,.phase⟩,⟨3,.phase⟩,⟨4,.phase⟩,⟨5,.phase⟩,⟨6,.phase⟩,⟨7,.phase⟩,⟨8,.phase⟩,⟨9,.phase⟩],none⟩]
set_option maxHeartbeats 2000000 in
theorem zfB {Q:Exit→Act→World→Prop} {u2 u3 u4 u6 u7 u8 u9 u10 u11 u12 u13 u14 u15 u16 u17 u18 u19 u20 u21 u22 u23 u24 u25 u26 u27 u28 u29 u30 u31 u32 u33 u34 u35 u36 u37 u38 u39 u40 u41 u42 u43 u44 u45:Value} (W:World) (b g bh n c:Nat) (a:Option Addr) (H:List Int) (lH:H.length=32) (v:Value) (o:Bool) (J:World→Prop) (h0:J W.drew) (hS:∀ w,J w→(fun w:World=>w.cell? ⟨b,1,none⟩=some (.map (some g))∧w.rangeAt bh 0 (z00 H)∧(Instr.lookup 57 (.map (some g)) (.agg (z00 H).toArray) true).run Tryd.prog w=.ok (.tuple #[v,.bool o]) w) w) (hQ:∀ c (a:Act) (t:Tmp) (v:Value) w,Q (.panic c) (a.put (some t) v) w→Q (.panic c) a w)
    (hfin:∀ (w:World),(J w)→Q .normal {tmps:=#[.pointer (some ⟨b,0,none⟩),.slice a n c,u2,u3,u4,.pointer (some ⟨bh,0,none⟩),v,.bool o,u8,u9,u10,u11,u12,u13,u14,.tuple #[v,.bool o],.pointer (some ⟨b,0,none⟩),.pointer (some ⟨b,0,none⟩),.pointer (some ⟨b,1,none⟩),.map (some g),.agg (z00 H).toArray,.tuple #[v,.bool o],v,.bool o,u24,u25,u26,u27,u28,u29,u30,u31,u32,u33,u34,u35,u36,u37,u38,u39,u40,u41,u42,u43,u44,u45],defers:=[]} w):(Code.region 2 z9n true).wp Tryd.prog Q {tmps:=#[.pointer (some ⟨b,0,none⟩),.slice a n c,u2,u3,u4,.pointer (some ⟨bh,0,none⟩),u6,u7,u8,u9,u10,u11,u12,u13,u14,u15,u16,u17,u18,u19,u20,u21,u22,u23,u24,u25,u26,u27,u28,u29,u30,u31,u32,u33,u34,u35,u36,u37,u38,u39,u40,u41,u42,u43,u44,u45],defers:=[]} W:=by
  have kst:∀ (w:World),(J w)→wpAnyH Tryd.prog .any z9n Q (fun w:World=>w.cell? ⟨b,1,none⟩=some (.map (some g))∧w.rangeAt bh 0 (z00 H)∧(Instr.lookup 57 (.map (some g)) (.agg (z00 H).toArray) true).run Tryd.prog w=.ok (.tuple #[v,.bool o]) w) 0 #[true,true,true,true,true,true,true,true,true,true,true] {tmps:=#[.pointer (some ⟨b,0,none⟩),.slice a n c,u2,u3,u4,.pointer (some ⟨bh,0,none⟩),v,.bool o,u8,u9,u10,u11,u12,u13,u14,.tuple #[v,.bool o],.pointer (some ⟨b,0,none⟩),.pointer (some ⟨b,0,none⟩),.pointer (some ⟨b,1,none⟩),.map (some g),.agg (z00 H).toArray,.tuple #[v,.bool o],v,.bool o,u24,u25,u26,u27,u28,u29,u30,u31,u32,u33,u34,u35,u36,u37,u38,u39,u40,u41,u42,u43,u44,u45],defers:=[]} w:=fun  w hp=>by
    exact wpAnyH_done (by kernel_rfl) (hfin  w hp) _
  have hp:=h0
  have hww:(fun w:World=>w.cell? ⟨b,1,none⟩=some (.map (some g))∧w.rangeAt bh 0 (z00 H)∧(Instr.lookup 57 (.map (some g)) (.agg (z00 H).toArray) true).run Tryd.prog w=.ok (.tuple #[v,.bool o]) w) W.drew:=hS _ hp
  have last:=kst W.drew hp
  have z:wpAnyH Tryd.prog .any z9n Q (fun w:World=>w.cell? ⟨b,1,none⟩=some (.map (some g))∧w.rangeAt bh 0 (z00 H)∧(Instr.lookup 57 (.map (some g)) (.agg (z00 H).toArray) true).run Tryd.prog w=.ok (.tuple #[v,.bool o]) w) 11 #[false,false,false,false,false,false,false,false,false,false,false] {tmps:=#[.pointer (some ⟨b,0,none⟩),.slice a n c,u2,u3,u4,.pointer (some ⟨bh,0,none⟩),u6,u7,u8,u9,u10,u11,u12,u13,u14,u15,u16,u17,u18,u19,u20,u21,u22,u23,u24,u25,u26,u27,u28,u29,u30,u31,u32,u33,u34,u35,u36,u37,u38,u39,u40,u41,u42,u43,u44,u45],defers:=[]} W.drew:=by
    refine wpAnyH_take (i:=0) (oi:=⟨some 16,.move (.tmp 0),54,"met.go:31",#[],none⟩) (v:=.pointer (some ⟨b,0,none⟩)) rfl (by kernel_rfl) (by kernel_rfl) (by kernel_rfl) (fun _ _ _ h=>hQ _ _ _ _ _ h) (Yields.yieldsIf (Or.inl ⟨by rfl,fun W=>by go_simp⟩)) hww ?_
    simp only [Act.put,List.setIfInBounds_toArray,List.set_cons_zero,List.set_cons_succ]
    refine wpAnyH_take (i:=1) (oi:=⟨some 17,.nilCheck (.tmp 16),0,"met.go:31",#[⟨0,.data⟩],none⟩) (v:=.pointer (some ⟨b,0,none⟩)) rfl (by kernel_rfl) (by kernel_rfl) (by kernel_rfl) (fun _ _ _ h=>hQ _ _ _ _ _ h) (Yields.yieldsIf (Or.inl ⟨by rfl,fun W=>by go_simp⟩)) hww ?_
    simp only [Act.put,List.setIfInBounds_toArray,List.set_cons_zero,List.set_cons_succ]
    refine wpAnyH_take (i:=2) (oi:=⟨some 18,.fieldAddr 59 (.tmp 17) 1,0,"met.go:31",#[⟨1,.data⟩],none⟩) (v:=.pointer (some ⟨b,1,none⟩)) rfl (by kernel_rfl) (by kernel_rfl) (by kernel_rfl) (fun _ _ _ h=>hQ _ _ _ _ _ h) (Yields.yieldsIf (Or.inl ⟨by rfl,fun W=>by go_simp⟩)) hww ?_
    simp only [Act.put,List.setIfInBounds_toArray,List.set_cons_zero,List.set_cons_succ]
    refine wpAnyH_take (i:=3) (oi:=⟨some 19,.load 57 (.tmp 18),57,"met.go:31",#[⟨2,.data⟩],none⟩) (v:=.map (some g)) rfl (by kernel_rfl) (by kernel_rfl) (by kernel_rfl) (fun _ _ _ h=>hQ _ _ _ _ _ h) (Or.inl ⟨by rfl,fun w hw=>by have hx:=hw.1;go_simp⟩) hww ?_
    simp only [Act.put,List.setIfInBounds_toArray,List.set_cons_zero,List.set_cons_succ]
    refine wpAnyH_take (i:=4) (oi:=⟨some 20,.load 26 (.tmp 5),26,"met.go:31",#[],none⟩) (v:=.agg (z00 H).toArray) rfl (by kernel_rfl) (by kernel_rfl) (by kernel_rfl) (fun _ _ _ h=>hQ _ _ _ _ _ h) (yieldsIf_load_mid (by rfl) 26 (.tmp 5) rfl bh 0 rfl (z00 H) _ (fun w h=>h.2.1) Tryd.underlying26 rfl (z0a lH)) hww ?_
    simp only [Act.put,List.setIfInBounds_toArray,List.set_cons_zero,List.set_cons_succ]
    refine wpAnyH_take (i:=5) (oi:=⟨some 21,.lookup 57 (.tmp 19) (.tmp 20) true,132,"met.go:31",#[⟨3,.data⟩,⟨4,.data⟩],none⟩) (v:=.tuple #[v,.bool o]) rfl (by kernel_rfl) (by kernel_rfl) (by kernel_rfl) (fun _ _ _ h=>hQ _ _ _ _ _ h) (Or.inl ⟨by rfl,fun w hw=>by have hx:=hw.2.2;go_simp⟩) hww ?_
    simp only [Act.put,List.setIfInBounds_toArray,List.set_cons_zero,List.set_cons_succ]
    refine wpAnyH_take (i:=6) (oi:=⟨some 15,.move (.tmp 21),132,"met.go:31",#[⟨5,.data⟩],none⟩) (v:=.tuple #[v,.bool o]) rfl (by kernel_rfl) (by kernel_rfl) (by kernel_rfl) (fun _ _ _ h=>hQ _ _ _ _ _ h) (Yields.yieldsIf (Or.inl ⟨by rfl,fun W=>by go_simp⟩)) hww ?_
    simp only [Act.put,List.setIfInBounds_toArray,List.set_cons_zero,List.set_cons_succ]
    refine wpAnyH_take (i:=7) (oi:=⟨some 22,.extract (.tmp 15) 0,30,"met.go:31",#[⟨6,.data⟩],none⟩) (v:=v) rfl (by kernel_rfl) (by kernel_rfl) (by kernel_rfl) (fun _ _ _ h=>hQ _ _ _ _ _ h) (Yields.yieldsIf (Or.inl ⟨by rfl,fun W=>by go_simp⟩)) hww ?_
    simp only [Act.put,List.setIfInBounds_toArray,List.set_cons_zero,List.set_cons_succ]
    refine wpAnyH_take (i:=8) (oi:=⟨some 23,.extract (.tmp 15) 1,4,"met.go:31",#[⟨6,.data⟩,{on:=9,ground:=.gcOnly Departure.lateStores}],none⟩) (v:=.bool o) rfl (by kernel_rfl) (by kernel_rfl) (by kernel_rfl) (fun _ _ _ h=>hQ _ _ _ _ _ h) (Yields.yieldsIf (Or.inl ⟨by rfl,fun W=>by go_simp⟩)) hww ?_
    simp only [Act.put,List.setIfInBounds_toArray,List.set_cons_zero,List.set_cons_succ]
    refine wpAnyH_take (i:=9) (oi:=⟨some 6,.assign (.tmp 22),30,"met.go:31",#[⟨7,.data⟩,⟨0,.phase⟩,⟨1,.phase⟩,⟨2,.phase⟩,⟨3,.phase⟩,⟨4,.phase⟩,⟨5,.phase⟩,⟨6,.phase⟩,⟨7,.phase⟩,{on:=8,ground:=.textOnly Departure.lateStores}],none⟩) (v:=v) rfl (by kernel_rfl) (by kernel_rfl) (by kernel_rfl) (fun _ _ _ h=>hQ _ _ _ _ _ h) (Yields.yieldsIf (Or.inl ⟨by rfl,fun W=>by go_simp⟩)) hww ?_
    simp only [Act.put,List.setIfInBounds_toArray,List.set_cons_zero,List.set_cons_succ]
    refine wpAnyH_take (i:=10) (oi:=⟨some 7,.assign (.tmp 23),4,"met.go:31",#[⟨8,.data⟩,⟨9,.chain⟩,⟨0,.phase⟩,⟨1,.phase⟩,⟨2,.phase⟩,⟨3,.phase⟩,⟨4,.phase⟩,⟨5,.phase⟩,⟨6,.phase⟩,⟨7,.phase⟩,⟨8,.phase⟩,⟨9,.phase⟩],none⟩) (v:=.bool o) rfl (by kernel_rfl) (by kernel_rfl) (by kernel_rfl) (fun _ _ _ h=>hQ _ _ _ _ _ h) (Yields.yieldsIf (Or.inl ⟨by rfl,fun W=>by go_simp⟩)) hww ?_
    simp only [Act.put,List.setIfInBounds_toArray,List.set_cons_zero,List.set_cons_succ]
    exact last
  exact wp_region_held_drew (S:=(fun w:World=>w.cell? ⟨b,1,none⟩=some (.map (some g))∧w.rangeAt bh 0 (z00 H)∧(Instr.lookup 57 (.map (some g)) (.agg (z00 H).toArray) true).run Tryd.prog w=.ok (.tuple #[v,.bool o]) w)) (by kernel_rfl) hww (fun _=>z)
def z6T:Array Oper:=#[⟨some 26,.move (.tmp 0),54,"met.go:33",#[],none⟩,⟨some 27,.nilCheck (.tmp 26),0,"met.go:33",#[⟨0,.data⟩],none⟩,⟨some 28,.fieldAddr 59 (.tmp 27) 1,0,"met.go:33",#[⟨1,.data⟩],none⟩,⟨some 29,.load 57 (.tmp 28),57,"met.go:33",#[⟨2,.data⟩],none⟩,⟨some 30,.load 26 (.tmp 5),26,"met.go:33",#[],none⟩,⟨some 31,.move (.tmp 1),30,"met.go:33",#[],none⟩,⟨none,.mapUpdate 57 (.tmp 29) (.tmp 30) (.tmp 31),0,"met.go:33",#[⟨3,.data⟩,⟨4,.data⟩,⟨5,.data⟩,⟨0,.phase⟩,⟨1,.phase⟩,⟨2,.phase⟩,⟨3,.phase⟩,⟨4,.phase⟩,⟨5,.phase⟩],none⟩]
set_option maxHeartbeats 2000000 in
theorem zjm {Q:Exit→Act→World→Prop} {u2 u3 u4 u6 u7 u8 u9 u10 u11 u12 u13 u14 u15 u16 u17 u18 u19 u20 u21 u22 u23 u24 u25 u26 u27 u28 u29 u30 u31 u32 u33 u34 u35 u36 u37 u38 u39 u40 u41 u42 u43 u44 u45:Value} (W:World) (b g bh n c:Nat) (a:Option Addr) (H:List Int) (lH:H.length=32) (J J':World→Prop) (h0:J W.drew) (hS:∀ w,J w→(fun w:World=>w.cell? ⟨b,1,none⟩=some (.map (some g))∧w.rangeAt bh 0 (z00 H)) w) (hS':∀ w,J' w→(fun w:World=>w.cell? ⟨b,1,none⟩=some (.map (some g))∧w.rangeAt bh 0 (z00 H)) w) (hU:∀ w,J w→∃ w',(Instr.mapUpdate 57 (.map (some g)) (.agg (z00 H).toArray) (.slice a n c)).run Tryd.prog w=.ok () w'∧J' w') (hQ:∀ c (a:Act) (t:Tmp) (v:Value) w,Q (.panic c) (a.put (some t) v) w→Q (.panic c) a w)
    (hfin:∀ (w:World),(J' w)→Q .normal {tmps:=#[.pointer (some ⟨b,0,none⟩),.slice a n c,u2,u3,u4,.pointer (some ⟨bh,0,none⟩),u6,u7,u8,u9,u10,u11,u12,u13,u14,u15,u16,u17,u18,u19,u20,u21,u22,u23,u24,u25,.pointer (some ⟨b,0,none⟩),.pointer (some ⟨b,0,none⟩),.pointer (some ⟨b,1,none⟩),.map (some g),.agg (z00 H).toArray,.slice a n c,u32,u33,u34,u35,u36,u37,u38,u39,u40,u41,u42,u43,u44,u45],defers:=[]} w):(Code.region 4 z6T true).wp Tryd.prog Q {tmps:=#[.pointer (some ⟨b,0,none⟩),.slice a n c,u2,u3,u4,.pointer (some ⟨bh,0,none⟩),u6,u7,u8,u9,u10,u11,u12,u13,u14,u15,u16,u17,u18,u19,u20,u21,u22,u23,u24,u25,u26,u27,u28,u29,u30,u31,u32,u33,u34,u35,u36,u37,u38,u39,u40,u41,u42,u43,u44,u45],defers:=[]} W:=by
  have kst6:∀ (w:World),(J' w)→wpAnyH Tryd.prog .any z6T Q (fun w:World=>w.cell? ⟨b,1,none⟩=some (.map (some g))∧w.rangeAt bh 0 (z00 H)) 0 #[true,true,true,true,true,true,true] {tmps:=#[.pointer (some ⟨b,0,none⟩),.slice a n c,u2,u3,u4,.pointer (some ⟨bh,0,none⟩),u6,u7,u8,u9,u10,u11,u12,u13,u14,u15,u16,u17,u18,u19,u20,u21,u22,u23,u24,u25,.pointer (some ⟨b,0,none⟩),.pointer (some ⟨b,0,none⟩),.pointer (some ⟨b,1,none⟩),.map (some g),.agg (z00 H).toArray,.slice a n c,u32,u33,u34,u35,u36,u37,u38,u39,u40,u41,u42,u43,u44,u45],defers:=[]} w:=fun  w hp=>by
    exact wpAnyH_done (by kernel_rfl) (hfin  w hp) _
  have kst:∀ (w:World),(J w)→wpAnyH Tryd.prog .any z6T Q (fun w:World=>w.cell? ⟨b,1,none⟩=some (.map (some g))∧w.rangeAt bh 0 (z00 H)) 1 #[true,true,true,true,true,true,false] {tmps:=#[.pointer (some ⟨b,0,none⟩),.slice a n c,u2,u3,u4,.pointer (some ⟨bh,0,none⟩),u6,u7,u8,u9,u10,u11,u12,u13,u14,u15,u16,u17,u18,u19,u20,u21,u22,u23,u24,u25,.pointer (some ⟨b,0,none⟩),.pointer (some ⟨b,0,none⟩),.pointer (some ⟨b,1,none⟩),.map (some g),.agg (z00 H).toArray,.slice a n c,u32,u33,u34,u35,u36,u37,u38,u39,u40,u41,u42,u43,u44,u45],defers:=[]} w:=fun  w hp=>by
    refine wpAnyH_ready (rs:=[6]) (by kernel_rfl) (by simp) ?_
    refine AllReadyH.cons (o:=⟨none,.mapUpdate 57 (.tmp 29) (.tmp 30) (.tmp 31),0,"met.go:33",#[⟨3,.data⟩,⟨4,.data⟩,⟨5,.data⟩,⟨0,.phase⟩,⟨1,.phase⟩,⟨2,.phase⟩,⟨3,.phase⟩,⟨4,.phase⟩,⟨5,.phase⟩],none⟩) rfl (fun KQ hKQ=>?_) ?_
    · exact (let ⟨w',h1,h2⟩:=hU w hp;z0M (by rfl) (by go_simp) (have hp:(fun (w:World)=>(J' w))  w':=h2;hKQ.out _ _ (hS' _ hp) (fun _=>kst6  _ hp)))
    exact AllReadyH.nil
  have hp:=h0
  have hww:(fun w:World=>w.cell? ⟨b,1,none⟩=some (.map (some g))∧w.rangeAt bh 0 (z00 H)) W.drew:=hS _ hp
  have last:=kst W.drew hp
  have z:wpAnyH Tryd.prog .any z6T Q (fun w:World=>w.cell? ⟨b,1,none⟩=some (.map (some g))∧w.rangeAt bh 0 (z00 H)) 7 #[false,false,false,false,false,false,false] {tmps:=#[.pointer (some ⟨b,0,none⟩),.slice a n c,u2,u3,u4,.pointer (some ⟨bh,0,none⟩),u6,u7,u8,u9,u10,u11,u12,u13,u14,u15,u16,u17,u18,u19,u20,u21,u22,u23,u24,u25,u26,u27,u28,u29,u30,u31,u32,u33,u34,u35,u36,u37,u38,u39,u40,u41,u42,u43,u44,u45],defers:=[]} W.drew:=by
    refine wpAnyH_take (i:=0) (oi:=⟨some 26,.move (.tmp 0),54,"met.go:33",#[],none⟩) (v:=.pointer (some ⟨b,0,none⟩)) rfl (by kernel_rfl) (by kernel_rfl) (by kernel_rfl) (fun _ _ _ h=>hQ _ _ _ _ _ h) (Yields.yieldsIf (Or.inl ⟨by rfl,fun W=>by go_simp⟩)) hww ?_
    simp only [Act.put,List.setIfInBounds_toArray,List.set_cons_zero,List.set_cons_succ]
    refine wpAnyH_take (i:=1) (oi:=⟨some 27,.nilCheck (.tmp 26),0,"met.go:33",#[⟨0,.data⟩],none⟩) (v:=.pointer (some ⟨b,0,none⟩)) rfl (by kernel_rfl) (by kernel_rfl) (by kernel_rfl) (fun _ _ _ h=>hQ _ _ _ _ _ h) (Yields.yieldsIf (Or.inl ⟨by rfl,fun W=>by go_simp⟩)) hww ?_
    simp only [Act.put,List.setIfInBounds_toArray,List.set_cons_zero,List.set_cons_succ]
    refine wpAnyH_take (i:=2) (oi:=⟨some 28,.fieldAddr 59 (.tmp 27) 1,0,"met.go:33",#[⟨1,.data⟩],none⟩) (v:=.pointer (some ⟨b,1,none⟩)) rfl (by kernel_rfl) (by kernel_rfl) (by kernel_rfl) (fun _ _ _ h=>hQ _ _ _ _ _ h) (Yields.yieldsIf (Or.inl ⟨by rfl,fun W=>by go_simp⟩)) hww ?_
    simp only [Act.put,List.setIfInBounds_toArray,List.set_cons_zero,List.set_cons_succ]
    refine wpAnyH_take (i:=3) (oi:=⟨some 29,.load 57 (.tmp 28),57,"met.go:33",#[⟨2,.data⟩],none⟩) (v:=.map (some g)) rfl (by kernel_rfl) (by kernel_rfl) (by kernel_rfl) (fun _ _ _ h=>hQ _ _ _ _ _ h) (Or.inl ⟨by rfl,fun w hw=>by have hx:=hw.1;go_simp⟩) hww ?_
    simp only [Act.put,List.setIfInBounds_toArray,List.set_cons_zero,List.set_cons_succ]
    refine wpAnyH_take (i:=4) (oi:=⟨some 30,.load 26 (.tmp 5),26,"met.go:33",#[],none⟩) (v:=.agg (z00 H).toArray) rfl (by kernel_rfl) (by kernel_rfl) (by kernel_rfl) (fun _ _ _ h=>hQ _ _ _ _ _ h) (yieldsIf_load_mid (by rfl) 26 (.tmp 5) rfl bh 0 rfl (z00 H) _ (fun w h=>h.2) Tryd.underlying26 rfl (z0a lH)) hww ?_
    simp only [Act.put,List.setIfInBounds_toArray,List.set_cons_zero,List.set_cons_succ]
    refine wpAnyH_take (i:=5) (oi:=⟨some 31,.move (.tmp 1),30,"met.go:33",#[],none⟩) (v:=.slice a n c) rfl (by kernel_rfl) (by kernel_rfl) (by kernel_rfl) (fun _ _ _ h=>hQ _ _ _ _ _ h) (Yields.yieldsIf (Or.inl ⟨by rfl,fun W=>by go_simp⟩)) hww ?_
    simp only [Act.put,List.setIfInBounds_toArray,List.set_cons_zero,List.set_cons_succ]
    exact last
  exact wp_region_held_drew (S:=(fun w:World=>w.cell? ⟨b,1,none⟩=some (.map (some g))∧w.rangeAt bh 0 (z00 H))) (by kernel_rfl) hww (fun _=>z)
end Go.Proofs.YtbmjoiiagldklaaDoor

namespace Go.Proofs.YtbmjoiiagldklaaDoor.HX
open Go.RowKit
set_option maxRecDepth 100000
abbrev BY (l:List Nat):List Value:=z00 (INTS l)
theorem zdB (a b:List Nat):BY (a ++ b)=BY a ++ BY b:=by simp [BY,z00,INTS]
theorem zdC (l:List Nat):(BY l).length=l.length:=by simp [BY,z00,INTS]
theorem z9o (l:List Nat) (i:Nat) (h:i<l.length):(BY l)[i]?=some (.int .u8 ((l.getD i 0:Nat):Int)):=by
  simp [BY,z00,INTS,List.getD_eq_getElem?_getD,h]
theorem ziA (l:List Nat):∀ u∈BY l,u.oneCell'=true:=z1D _
def HFUL (l:List Nat):List Nat:=l ++ END l.length
theorem z3l (l:List Nat):(HFUL l).length=64*((l.length+z0y l.length+9) / 64):=by
  rw [HFUL,List.length_append,z1K]
  unfold z0y
  omega
theorem z5m (W:World) (b j:Nat) (v:Value):W.grownBy (W.setCell ⟨b,j,none⟩ v) (some b):=
  ⟨rfl,rfl,rfl,by simp,fun k _ hk=>Below.heap_setCell _ _ _ k (fun e=>hk (by rw [e]))⟩
theorem z4P {w:World} {B n:Nat} {v:Value} {xs:List Value} {t:TypeId} {s:Nat} (h:w.ownsRow B t s v n xs):∃ a cap,v=.slice a n cap∧(0<n→∃ g,a=some ⟨g,0,none⟩):=by
  rcases h.2 with ⟨rfl,h0⟩ | ⟨g,cap,cur,rfl,hb,hg,r⟩
  · subst h0
    exact ⟨none,0,rfl,fun h=>by omega⟩
  · exact ⟨_,cap,rfl,fun _=>⟨g,rfl⟩⟩
theorem HM (m:Nat) (hm:m<256) (w4:World):Bytes (w4.alloc (.cells #[.int .u8 (m:Int)] 5)) (some ⟨w4.heap.size,0,none⟩) 1 [(m:Int)]:=z2B w4 1 (fun _=>(m:Int)) [(m:Int)] rfl (fun i hi=>by obtain rfl:i=0:=(by omega);rfl) (fun x hx=>by simp at hx;omega)
theorem z2q {w w':World} {base:Nat} {t:TypeId} {s:Nat} {v:Value} {n:Nat} {xs:List Value} (h:w.ownsRow base t s v n xs) (hb:Below w.heap.size w w'):w'.ownsRow base t s v n xs:=by
  refine ⟨h.1,h.2.imp id ?_⟩
  rintro ⟨g,c,cur,a,b,r,rest⟩
  exact ⟨g,c,cur,a,b,(hb.block g (Array.getElem?_eq_some_iff.1 r).1).trans r,rest⟩
theorem z81 {ops:Array Oper} {rest:List Oper} {o:Oper} {a:Act} {Q:Exit→Act→World→Prop} (w:World) (hg:o.guard=none) (t e:TypeId) (x:Operand) (ho:o.op=.buildSlice t 1 #[(0,x)]) (C:Array Value) (hx:a.eval x=.agg C) (n:Nat) (z:Value) (by':Nat)
    (hu:Tryd.prog.underlying t=some (.slice e)) (hi:(Tryd.prog.info? e).map (fun i=>(i.zero,i.size,i.bytes))=some (some z,n,by')) (hC:C.size=n) (hz:z.cells.size=n) (hn:0<n) (hs:n≤1000)
    (h:wpList Tryd.prog ops Q rest (a.put o.dst (.slice (some ⟨w.heap.size,0,none⟩) 1 1)) (w.alloc (.cells C e))):wpList Tryd.prog ops Q (o :: rest) a w:=by
  obtain ⟨i,hie,hz',hs1,_⟩:=info_parts hi
  refine wpList_buildSlice hg t e 1 _ ho C i z hu hie hz' (by rw [hs1];omega) (by rw [hs1];omega) ?_ h
  have:=Great.fill_whole (s:=n) hn [.agg C] ((Array.range (1*i.size)).map (z.cells[· % z.cells.size]!)) (fun v hv=>by simp at hv;subst hv;exact hC) (by simp [hs1])
  simp [Value.cells] at this
  rw [hs1]
  simp [hx]
  rw [hs1] at this
  exact this
end Go.Proofs.YtbmjoiiagldklaaDoor.HX

namespace Go.Proofs.YtbmjoiiagldklaaDoor.HX
open Go.RowKit
end Go.Proofs.YtbmjoiiagldklaaDoor.HX

namespace Go.Proofs.YtbmjoiiagldklaaDoor.HX
open Go.RowKit
def z2V (l:List Nat):List Value:=l.map fun (x:Nat)=>Value.int .u64 (x:Int)
theorem zc8 (l:List Nat) (i:Nat) (h:i<l.length):(z2V l)[i]?=some (.int .u64 (l.getD i 0:Nat)):=by simp [z2V,h,List.getD_eq_getElem?_getD]
theorem z2o:∃ i,Tryd.prog.info? 22=some i∧i.zero=some (.int .u64 0)∧i.size=1∧i.bytes=8:=by
  have h:(Tryd.prog.info? 22).map (fun i=>(i.zero,i.size,i.bytes))=some (some (.int .u64 0),1,8):=by kernel_rfl
  obtain ⟨i,hi,h⟩:=Option.map_eq_some_iff.1 h
  simp only [Prod.mk.injEq] at h
  exact ⟨i,hi,h.1,h.2.1,h.2.2⟩
end Go.Proofs.YtbmjoiiagldklaaDoor.HX

namespace Go.Proofs.YtbmjoiiagldklaaDoor.HX
open Go.RowKit
end Go.Proofs.YtbmjoiiagldklaaDoor.HX

namespace Go.Proofs.YtbmjoiiagldklaaDoor.HX
open Go.RowKit
theorem zaK {ops:Array Oper} {rest:List Oper} {o:Oper} {a:Act} {Q:Exit→Act→World→Prop} (w:World) (hgd:o.guard=none) (s x:Operand)
    (ho:o.op=.call {callee:=.builtin .append,args:=#[s,x],argTypes:=#[107,107]})
    (base:Nat) (v:Value) (hs:a.eval s=v) (hown:w.ownsRow base 22 1 v 0 [])
    (b m c:Nat) (l:List Nat) (hx:a.eval x=.slice (some ⟨b,0,none⟩) m c) (hl:l.length=m) (hc:∀ i,i<m→w.cell? ⟨b,i,none⟩=some (.int .u64 (l.getD i 0:Nat))) (hm:0<m) (hb:m≤1000) (hbase:base≤w.heap.size)
    (h:∀ g cap w',w'.ownsRow base 22 1 (.slice (some ⟨g,0,none⟩) m cap) m (z2V l)→w.grownBy w' v.ownBlock→g<w'.heap.size→wpList Tryd.prog ops Q rest (a.put o.dst (.slice (some ⟨g,0,none⟩) m cap)) w'):wpList Tryd.prog ops Q (o :: rest) a w:=by
  obtain ⟨i,hi,hz,hs1,hby⟩:=z2o
  refine wpList_append_lies w hgd s x 107 ho base 22 i (.int .u64 0) 1 8 Tryd.underlying107 hi hz hs1 hby rfl (by decide) v 0 [] hs hown ⟨b,0,none⟩ m c (z2V l) hx (by simp [z2V,hl]) ?_ (fun u hu=>by simp [z2V] at hu;obtain ⟨y,_,rfl⟩:=hu;rfl) hm (by simp only [maxLen];omega) (by omega) hbase w.heap.size rfl ?_
  · intro j u hj
    have hjl:j<l.length:=by
      have:=(List.getElem?_eq_some_iff.1 hj).1
      simpa [z2V] using this
    rw [zc8 l j hjl] at hj
    rw [z1C,Nat.zero_add,hc j (by omega)]
    exact hj
  · intro g cap w' h1 h2 _ h4
    rw [List.nil_append,Nat.zero_add] at h1
    rw [Nat.zero_add]
    exact h g cap w' h1 h2 h4
end Go.Proofs.YtbmjoiiagldklaaDoor.HX

namespace Go.Proofs.YtbmjoiiagldklaaDoor.HX
open Go.RowKit
set_option maxRecDepth 100000
end Go.Proofs.YtbmjoiiagldklaaDoor.HX

namespace Go.Proofs.YtbmjoiiagldklaaDoor.HX
open Go.RowKit
set_option maxRecDepth 100000
end Go.Proofs.YtbmjoiiagldklaaDoor.HX

namespace Go.Proofs.YtbmjoiiagldklaaDoor.HX
open Go.RowKit
set_option maxRecDepth 100000
theorem z1r {k:IntKind} {n:Nat} {f:Nat→Nat} {j:Nat} {v:Value} (h:(z09 k n f)[j]?=some v):j<n∧v=.int k ((f j:Nat):Int):=by
  have hj:j<n:=by have:=(List.getElem?_eq_some_iff.1 h).1;rw [z0k] at this;exact this
  rw [z25 _ _ _ _ hj] at h
  exact ⟨hj,(Option.some.inj h).symm⟩
theorem z1b (f:Nat→Nat):(Tryd.prog.info? 26).map (·.size)=some (z09 .u8 32 f).length:=by rw [z0k];exact z15
theorem z1g (f:Nat→Nat):(Tryd.prog.info? 42).map (·.size)=some (z09 .u8 64 f).length:=by rw [z0k];exact z2G
end Go.Proofs.YtbmjoiiagldklaaDoor.HX

namespace Go.Proofs.YtbmjoiiagldklaaDoor.HX
open Go.RowKit
set_option maxRecDepth 100000
theorem z50 {l:List Nat} (h:Small8 l):Small8 (HFUL l):=fun x hx=>by
  rcases List.mem_append.1 hx with h1 | h1
  · exact h x h1
  · exact z85 _ x h1
def Parts0 (w:World) (a:Option Addr) (k:Nat) (ps:List PART):Prop:=
  ps.length=k∧(0<k→∃ b off,a=some ⟨b,off,none⟩∧b<w.heap.size∧∀ i p,ps[i]?=some p→w.cell? ⟨b,off+i,none⟩=some (.slice p.a p.n p.c))∧∀ p∈ps,Text w p.a p.n p.l
theorem Parts.zero {w:World} {a:Option Addr} {k:Nat} {ps:List PART} (h:Parts w a k ps):Parts0 w a k ps:=⟨h.1,h.2.1,fun p hp=>(h.2.2 p hp).1⟩
theorem Parts0.below {w w':World} {a:Option Addr} {k:Nat} {ps:List PART} (h:Parts0 w a k ps) (hb:Below w.heap.size w w'):Parts0 w' a k ps:=
  ⟨h.1,fun hk=>by
    obtain ⟨b,off,e,hl,hc⟩:=h.2.1 hk
    exact ⟨b,off,e,Nat.lt_of_lt_of_le hl hb.size,fun i p hp=>(hb.cell (by exact hl)).trans (hc i p hp)⟩,fun p hp=>(h.2.2 p hp).below hb⟩
end Go.Proofs.YtbmjoiiagldklaaDoor.HX

namespace Go.Proofs.YtbmjoiiagldklaaDoor.HX
open Go.RowKit
set_option maxRecDepth 100000
structure GP where
  g:Nat
  c:Nat
  l:List Nat
def z6U (gs:List GP):List Value:=gs.map fun p=>.slice (some ⟨p.g,0,none⟩) p.l.length p.c
structure GIVEN (w:World) (B:Nat) (s:Value) (gs:List GP):Prop where
  own:w.ownsRow B 30 1 s gs.length (z6U gs)
  row:∀ (i:Nat) (p:GP),gs[i]?=some p→w.ownsRow B 5 1 (.slice (some ⟨p.g,0,none⟩) (p.l.length+1) p.c) (p.l.length+1) (BY (p.l ++ [171]))
  far:∀ (i:Nat) (p:GP),gs[i]?=some p→s.ownBlock≠some p.g
  apart:∀ (i j:Nat) (p q:GP),gs[i]?=some p→gs[j]?=some q→i≠j→p.g≠q.g
  small:∀ (i:Nat) (p:GP),gs[i]?=some p→Small8 p.l
theorem GIVEN.start (w:World) (B:Nat):GIVEN w B (.slice none 0 0) []:=
  ⟨⟨rfl,.inl ⟨rfl,rfl⟩⟩,fun i p h=>by simp at h,fun i p h=>by simp at h,fun i j p q h=>by simp at h,fun i p h=>by simp at h⟩
theorem GIVEN.keep {w w':World} {B:Nat} {s:Value} {gs:List GP} (h:GIVEN w B s gs) (hb:Below w.heap.size w w'):GIVEN w' B s gs:=
  ⟨z2q h.own hb,fun i p hp=>z2q (h.row i p hp) hb,h.far,h.apart,h.small⟩
theorem GIVEN.text {w:World} {B:Nat} {s:Value} {gs:List GP} (h:GIVEN w B s gs) {i:Nat} {p:GP} (hp:gs[i]?=some p):Text w (some ⟨p.g,0,none⟩) p.l.length p.l∧p.l.length+1≤p.c:=by
  have hr:=h.row i p hp
  have hb:=z0B (l:=INTS (p.l ++ [171])) hr (z1z (zc1 (h.small i p hp)))
  have ht:=Text.of_bytes hb.1
  refine ⟨⟨rfl,fun hn=>?_,h.small i p hp⟩,hb.2⟩
  obtain ⟨b,off,e,hl,hc⟩:=ht.2.1 (by omega)
  refine ⟨b,off,e,hl,fun j hj=>?_⟩
  rw [hc j (by omega),List.getD_eq_getElem?_getD,List.getElem?_append_left hj,← List.getD_eq_getElem?_getD]
theorem ziB (l:List Nat) (k x:Nat):BY (l.set k x)=(BY l).set k (.int .u8 (x:Int)):=by simp [BY,z00,INTS,List.map_set]
theorem zc9 (gs:List GP) (i k x:Nat) (p:GP) (hp:gs[i]?=some p):z6U (gs.set i ⟨p.g,p.c,p.l.set k x⟩)=z6U gs:=by
  obtain ⟨hi,he⟩:=List.getElem?_eq_some_iff.1 hp
  apply List.ext_getElem?
  intro j
  simp only [z6U,List.getElem?_map,List.getElem?_set]
  by_cases e:i=j
  · subst e
    simp [hi,he]
  · simp [e]
theorem GIVEN.put {w:World} {B:Nat} {s:Value} {gs:List GP} (h:GIVEN w B s gs) {i k x:Nat} {p:GP} (hp:gs[i]?=some p) (hk:k<p.l.length) (hx:x<256):
    GIVEN (w.setCell ⟨p.g,k,none⟩ (.int .u8 (x:Int))) B s (gs.set i ⟨p.g,p.c,p.l.set k x⟩)∧w.frozen? ⟨p.g,k,none⟩=false∧w.cell? ⟨p.g,k,none⟩=some (.int .u8 ((p.l.getD k 0:Nat):Int)):=by
  have hi:i<gs.length:=(List.getElem?_eq_some_iff.1 hp).1
  have hr:=h.row i p hp
  have hst:=hr.stored k (.int .u8 (x:Int))
  have hc:∀ {j:Nat} {q:GP},(gs.set i ⟨p.g,p.c,p.l.set k x⟩)[j]?=some q→(j=i∧q=⟨p.g,p.c,p.l.set k x⟩)∨(j≠i∧gs[j]?=some q):=fun {j q} hq=>by
    by_cases e:i=j
    · subst e
      rw [List.getElem?_set_self hi] at hq
      exact .inl ⟨rfl,(Option.some.inj hq).symm⟩
    · rw [List.getElem?_set_ne e] at hq
      exact .inr ⟨Ne.symm e,hq⟩
  refine ⟨⟨?_,fun j q hq=>?_,fun j q hq=>?_,fun j m q r hq hr' hne=>?_,fun j q hq=>?_⟩,?_,?_⟩
  · rw [zc9 gs i k x p hp,List.length_set]
    exact h.own.kept hst.2 (.inr (h.far i p hp))
  · rcases hc hq with ⟨rfl,rfl⟩ | ⟨hji,hq⟩
    · have e:BY (p.l.set k x ++ [171])=(BY (p.l ++ [171])).set k (.int .u8 (x:Int)):=by rw [← ziB,List.set_append_left _ _ hk]
      show (w.setCell ⟨p.g,k,none⟩ (.int .u8 (x:Int))).ownsRow B 5 1 (.slice (some ⟨p.g,0,none⟩) ((p.l.set k x).length+1) p.c) ((p.l.set k x).length+1) (BY (p.l.set k x ++ [171]))
      rw [e,List.length_set]
      exact hst.1
    · exact (h.row j q hq).kept hst.2 (.inr fun e=>h.apart j i q p hq hp hji (by simpa [Value.ownBlock] using e))
  · rcases hc hq with ⟨rfl,rfl⟩ | ⟨hji,hq⟩
    · exact h.far j p hp
    · exact h.far j q hq
  · rcases hc hq with ⟨rfl,rfl⟩ | ⟨hji,hq2⟩
    · rcases hc hr' with ⟨rfl,rfl⟩ | ⟨hmi,hr2⟩
      · exact absurd rfl hne
      · exact h.apart _ _ p r hp hr2 hne
    · rcases hc hr' with ⟨rfl,rfl⟩ | ⟨hmi,hr2⟩
      · exact h.apart _ _ q p hq2 hp hne
      · exact h.apart _ _ q r hq2 hr2 hne
  · rcases hc hq with ⟨rfl,rfl⟩ | ⟨hji,hq⟩
    · intro y hy
      rcases List.mem_or_eq_of_mem_set hy with hy | rfl
      · exact h.small j p hp y hy
      · exact hx
    · exact h.small j q hq
  · rcases hr.2 with ⟨h',_⟩ | ⟨g',cap',cur,h',_,hg,_⟩
    · simp at h'
    · simp only [Value.slice.injEq,Option.some.injEq,Addr.mk.injEq,and_true,true_and] at h'
      obtain ⟨rfl,rfl⟩:=h'
      exact frozen_of_row w p.g k cur 5 hg
  · rw [hr.cellAt k (by omega),z9o _ _ (by rw [List.length_append];omega),List.getD_eq_getElem?_getD,List.getElem?_append_left hk,← List.getD_eq_getElem?_getD]
end Go.Proofs.YtbmjoiiagldklaaDoor.HX

namespace Go.Proofs.YtbmjoiiagldklaaDoor.HX
open Go.RowKit
theorem zdD (w:World) (a:Option Addr) (n c:Nat) (l:List Nat) (hT:Text w a n l) (hc:n≤c) (hx:∀ x,a=some x→x.block<w.heap.size):Parts (w.alloc (.cells #[.slice a n c] 30)) (some ⟨w.heap.size,0,none⟩) 1 [⟨a,n,c,l⟩]:=by
  refine ⟨rfl,fun _=>⟨w.heap.size,0,rfl,by simp,fun i p hp=>?_⟩,fun p hp=>?_⟩
  · cases i with
    | zero=>
      simp only [List.getElem?_cons_zero,Option.some.injEq] at hp
      subst hp
      rw [(Has.new w #[.slice a n c] 30).cell]
      rfl
    | succ i=>simp at hp
  · simp only [List.mem_singleton] at hp
    subst hp
    exact ⟨hT.below ((Below.refl _ _).alloc (Nat.le_refl _) _),hc,fun x h=>by have:=hx x h;simp;omega⟩
theorem zb2 (d:Int) (w:World) (a:Option Addr) (n c:Nat) (l:List Nat) (hT:Text w a n l) (hc:n≤c) (hx:∀ x,a=some x→x.block<w.heap.size) (hn:n<2 ^ 60) (h:Tabled w):Calls Tryd.prog 27 #[.int .i64 d,.slice (some ⟨w.heap.size,0,none⟩) 1 1] (w.alloc (.cells #[.slice a n c] 30)) fun e w'=>e=.returned (.agg (UARR .u8 32 (z0e d l)))∧Below w.heap.size w w':=by
  have hb:Below w.heap.size w (w.alloc (.cells #[.slice a n c] 30)):=(Below.refl _ _).alloc (Nat.le_refl _) _
  have e:JOIN [⟨a,n,c,l⟩]=l:=by simp [JOIN]
  have k:=z9d d (some ⟨w.heap.size,0,none⟩) 1 1 _ _ (zdD w a n c l hT hc hx) (h.below hb) (by rw [e,hT.1];exact hn) (by decide)
  rw [e] at k
  refine k.mono ?_
  rintro e w' ⟨he,hb'⟩
  exact ⟨he,hb.trans (hb'.mono hb.size)⟩
end Go.Proofs.YtbmjoiiagldklaaDoor.HX

namespace Go.Proofs.YtbmjoiiagldklaaDoor.HX
open Go.RowKit
set_option maxRecDepth 100000
theorem ziC {W:World} {g:Nat} {a:Option Addr} {n c:Nat} {l:List Nat} (hg:Has W g #[.slice a n c] 30) (hT:Text W a n l) (hc:n≤c) (hx:∀ x,a=some x→x.block<W.heap.size):Parts W (some ⟨g,0,none⟩) 1 [⟨a,n,c,l⟩]:=by
  refine ⟨rfl,fun _=>⟨g,0,rfl,hg.lt,fun i p hp=>?_⟩,fun p hp=>?_⟩
  · cases i with
    | zero=>
      simp only [List.getElem?_cons_zero,Option.some.injEq] at hp
      subst hp
      rw [hg.cell]
      rfl
    | succ i=>simp at hp
  · simp only [List.mem_singleton] at hp
    subst hp
    exact ⟨hT,hc,hx⟩
theorem sum9 (d:Int) (W:World) (g:Nat) (a:Option Addr) (n c:Nat) (l:List Nat) (hg:Has W g #[.slice a n c] 30) (hT:Text W a n l) (hc:n≤c) (hx:∀ x,a=some x→x.block<W.heap.size) (hn:n<2 ^ 60) (h:Tabled W):Calls Tryd.prog 27 #[.int .i64 d,.slice (some ⟨g,0,none⟩) 1 1] W fun e w'=>e=.returned (.agg (UARR .u8 32 (z0e d l)))∧Below W.heap.size W w':=by
  have e:JOIN [⟨a,n,c,l⟩]=l:=by simp [JOIN]
  have k:=z9d d (some ⟨g,0,none⟩) 1 1 _ _ (ziC hg hT hc hx) h (by rw [e,hT.1];exact hn) (by decide)
  rw [e] at k
  exact k
end Go.Proofs.YtbmjoiiagldklaaDoor.HX
