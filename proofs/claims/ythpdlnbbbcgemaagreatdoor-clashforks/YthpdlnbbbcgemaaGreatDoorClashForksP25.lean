/- Texts of ClashForks, one behind the other: ClashRet, ClashMeet. -/
import Derived.Test.YthpdlnbbbcgemaaGreatDoorClashForksP24
namespace Go.Proofs.YthpdlnbbbcgemaaGreatDoor
open Go.RowKit
set_option maxRecDepth 100000
def z2S:Array Oper:=#[⟨some 51,.move (.tmp 18),55,"clash.go:71",#[],none⟩,⟨some 52,.nilCheck (.tmp 51),0,"clash.go:71",#[⟨0,.data⟩],none⟩,⟨some 53,.fieldAddr 61 (.tmp 52) 2,0,"clash.go:71",#[⟨1,.data⟩],none⟩,⟨some 54,.load 31 (.tmp 53),31,"clash.go:71",#[⟨2,.data⟩],none⟩,⟨some 55,.move (.tmp 18),55,"clash.go:71",#[{on:=8,ground:=.gcOnly Departure.lateStores}],none⟩,⟨some 56,.nilCheck (.tmp 55),0,"clash.go:71",#[⟨4,.data⟩,{on:=8,ground:=.gcOnly Departure.lateStores}],none⟩,⟨some 57,.fieldAddr 61 (.tmp 56) 3,0,"clash.go:71",#[⟨5,.data⟩,{on:=8,ground:=.gcOnly Departure.lateStores}],none⟩,⟨some 58,.load 4 (.tmp 57),4,"clash.go:71",#[⟨6,.data⟩,{on:=8,ground:=.gcOnly Departure.lateStores}],none⟩,⟨none,.store 31 (.tmp 16) (.tmp 54),0,"clash.go:71",#[⟨3,.data⟩,⟨0,.phase⟩,⟨1,.phase⟩,⟨2,.phase⟩,⟨3,.phase⟩,{on:=4,ground:=.textOnly Departure.lateStores},{on:=5,ground:=.textOnly Departure.lateStores},{on:=6,ground:=.textOnly Departure.lateStores},{on:=7,ground:=.textOnly Departure.lateStores}],none⟩,⟨some 17,.assign (.tmp 58),4,"clash.go:71",#[⟨7,.data⟩,⟨8,.chain⟩,⟨0,.phase⟩,⟨1,.phase⟩,⟨2,.phase⟩,⟨3,.phase⟩,⟨4,.phase⟩,⟨5,.phase⟩,⟨6,.phase⟩,⟨7,.phase⟩,⟨8,.phase⟩],none⟩]
set_option maxHeartbeats 2000000 in
theorem zg2 {Q:Exit→Act→World→Prop} {u0 u1 u2 u3 u4 u5 u6 u7 u8 u9 u10 u11 u12 u13 u14 u15 u17 u19 u20 u21 u22 u23 u24 u25 u26 u27 u28 u29 u30 u31 u32 u33 u34 u35 u36 u37 u38 u39 u40 u41 u42 u43 u44 u45 u46 u47 u48 u49 u50 u51 u52 u53 u54 u55 u56 u57 u58:Value} (W:World) (b bz:Nat) (a1 a2:Option Addr) (n1 c1 n2 c2:Nat) (fd:Bool) (P0 P2:World→Prop) (h0:P0 W.drew) (t0:∀ w,P0 w→(fun w:World=>w.cell? ⟨b,2,none⟩=some (.slice a1 n1 c1)∧w.cell? ⟨b,3,none⟩=some (.slice a2 n2 c2)∧w.cell? ⟨b,4,none⟩=some (.bool fd)) w) (t2:∀ w,P2 w→(fun w:World=>w.cell? ⟨b,2,none⟩=some (.slice a1 n1 c1)∧w.cell? ⟨b,3,none⟩=some (.slice a2 n2 c2)∧w.cell? ⟨b,4,none⟩=some (.bool fd)) w) (kz:∀ w,P0 w→Has w bz #[.slice none 0 0,.slice none 0 0] 31) (st:∀ w,P0 w→P2 ((w.setCell ⟨bz,0,none⟩ (.slice a1 n1 c1)).setCell ⟨bz,1,none⟩ (.slice a2 n2 c2))) (hQ:∀ c (a:Act) (t:Tmp) (v:Value) w,Q (.panic c) (a.put (some t) v) w→Q (.panic c) a w)
    (hfin:∀ (w:World),(P2 w)→Q .normal {tmps:=#[u0,u1,u2,u3,u4,u5,u6,u7,u8,u9,u10,u11,u12,u13,u14,u15,.pointer (some ⟨bz,0,none⟩),.bool fd,.pointer (some ⟨b,0,none⟩),u19,u20,u21,u22,u23,u24,u25,u26,u27,u28,u29,u30,u31,u32,u33,u34,u35,u36,u37,u38,u39,u40,u41,u42,u43,u44,u45,u46,u47,u48,u49,u50,.pointer (some ⟨b,0,none⟩),.pointer (some ⟨b,0,none⟩),.pointer (some ⟨b,2,none⟩),.agg #[.slice a1 n1 c1,.slice a2 n2 c2],.pointer (some ⟨b,0,none⟩),.pointer (some ⟨b,0,none⟩),.pointer (some ⟨b,4,none⟩),.bool fd],defers:=[]} w):(Code.region 6 z2S true).wp Tryz.prog Q {tmps:=#[u0,u1,u2,u3,u4,u5,u6,u7,u8,u9,u10,u11,u12,u13,u14,u15,.pointer (some ⟨bz,0,none⟩),u17,.pointer (some ⟨b,0,none⟩),u19,u20,u21,u22,u23,u24,u25,u26,u27,u28,u29,u30,u31,u32,u33,u34,u35,u36,u37,u38,u39,u40,u41,u42,u43,u44,u45,u46,u47,u48,u49,u50,u51,u52,u53,u54,u55,u56,u57,u58],defers:=[]} W:=by
  have kst8:∀ (w:World),(P2 w)→wpAnyH Tryz.prog .any z2S Q (fun w:World=>w.cell? ⟨b,2,none⟩=some (.slice a1 n1 c1)∧w.cell? ⟨b,3,none⟩=some (.slice a2 n2 c2)∧w.cell? ⟨b,4,none⟩=some (.bool fd)) 0 #[true,true,true,true,true,true,true,true,true,true] {tmps:=#[u0,u1,u2,u3,u4,u5,u6,u7,u8,u9,u10,u11,u12,u13,u14,u15,.pointer (some ⟨bz,0,none⟩),.bool fd,.pointer (some ⟨b,0,none⟩),u19,u20,u21,u22,u23,u24,u25,u26,u27,u28,u29,u30,u31,u32,u33,u34,u35,u36,u37,u38,u39,u40,u41,u42,u43,u44,u45,u46,u47,u48,u49,u50,.pointer (some ⟨b,0,none⟩),.pointer (some ⟨b,0,none⟩),.pointer (some ⟨b,2,none⟩),.agg #[.slice a1 n1 c1,.slice a2 n2 c2],.pointer (some ⟨b,0,none⟩),.pointer (some ⟨b,0,none⟩),.pointer (some ⟨b,4,none⟩),.bool fd],defers:=[]} w:=fun  w hp=>by
    exact wpAnyH_done (by kernel_rfl) (hfin  w hp) _
  have ekst_8:∀ (w:World),(P2 w)→wpAnyH Tryz.prog .any z2S Q (fun w:World=>w.cell? ⟨b,2,none⟩=some (.slice a1 n1 c1)∧w.cell? ⟨b,3,none⟩=some (.slice a2 n2 c2)∧w.cell? ⟨b,4,none⟩=some (.bool fd)) 1 #[true,true,true,true,true,true,true,true,true,false] {tmps:=#[u0,u1,u2,u3,u4,u5,u6,u7,u8,u9,u10,u11,u12,u13,u14,u15,.pointer (some ⟨bz,0,none⟩),u17,.pointer (some ⟨b,0,none⟩),u19,u20,u21,u22,u23,u24,u25,u26,u27,u28,u29,u30,u31,u32,u33,u34,u35,u36,u37,u38,u39,u40,u41,u42,u43,u44,u45,u46,u47,u48,u49,u50,.pointer (some ⟨b,0,none⟩),.pointer (some ⟨b,0,none⟩),.pointer (some ⟨b,2,none⟩),.agg #[.slice a1 n1 c1,.slice a2 n2 c2],.pointer (some ⟨b,0,none⟩),.pointer (some ⟨b,0,none⟩),.pointer (some ⟨b,4,none⟩),.bool fd],defers:=[]} w:=fun  w hp=>by
    have hww:(fun w:World=>w.cell? ⟨b,2,none⟩=some (.slice a1 n1 c1)∧w.cell? ⟨b,3,none⟩=some (.slice a2 n2 c2)∧w.cell? ⟨b,4,none⟩=some (.bool fd)) w:=t2 _ hp
    have last:=kst8  w hp
    refine wpAnyH_take (i:=9) (oi:=⟨some 17,.assign (.tmp 58),4,"clash.go:71",#[⟨7,.data⟩,⟨8,.chain⟩,⟨0,.phase⟩,⟨1,.phase⟩,⟨2,.phase⟩,⟨3,.phase⟩,⟨4,.phase⟩,⟨5,.phase⟩,⟨6,.phase⟩,⟨7,.phase⟩,⟨8,.phase⟩],none⟩) (v:=.bool fd) rfl (by kernel_rfl) (by kernel_rfl) (by kernel_rfl) (fun _ _ _ h=>hQ _ _ _ _ _ h) (Yields.yieldsIf (Or.inl ⟨by rfl,fun W=>by go_simp⟩)) hww ?_
    simp only [Act.put,List.setIfInBounds_toArray,List.set_cons_zero,List.set_cons_succ]
    exact last
  have kst:∀ (w:World),(P0 w)→wpAnyH Tryz.prog .any z2S Q (fun w:World=>w.cell? ⟨b,2,none⟩=some (.slice a1 n1 c1)∧w.cell? ⟨b,3,none⟩=some (.slice a2 n2 c2)∧w.cell? ⟨b,4,none⟩=some (.bool fd)) 2 #[true,true,true,true,true,true,true,true,false,false] {tmps:=#[u0,u1,u2,u3,u4,u5,u6,u7,u8,u9,u10,u11,u12,u13,u14,u15,.pointer (some ⟨bz,0,none⟩),u17,.pointer (some ⟨b,0,none⟩),u19,u20,u21,u22,u23,u24,u25,u26,u27,u28,u29,u30,u31,u32,u33,u34,u35,u36,u37,u38,u39,u40,u41,u42,u43,u44,u45,u46,u47,u48,u49,u50,.pointer (some ⟨b,0,none⟩),.pointer (some ⟨b,0,none⟩),.pointer (some ⟨b,2,none⟩),.agg #[.slice a1 n1 c1,.slice a2 n2 c2],.pointer (some ⟨b,0,none⟩),.pointer (some ⟨b,0,none⟩),.pointer (some ⟨b,4,none⟩),.bool fd],defers:=[]} w:=fun  w hp=>by
    refine wpAnyH_ready (rs:=[8]) (by kernel_rfl) (by simp) ?_
    refine AllReadyH.cons (o:=⟨none,.store 31 (.tmp 16) (.tmp 54),0,"clash.go:71",#[⟨3,.data⟩,⟨0,.phase⟩,⟨1,.phase⟩,⟨2,.phase⟩,⟨3,.phase⟩,{on:=4,ground:=.textOnly Departure.lateStores},{on:=5,ground:=.textOnly Departure.lateStores},{on:=6,ground:=.textOnly Departure.lateStores},{on:=7,ground:=.textOnly Departure.lateStores}],none⟩) rfl (fun KQ hKQ=>?_) ?_
    · exact (have x0:w.cell? ⟨bz,0,none⟩=some (.slice none 0 0):=(kz w hp).cell 0;have x1:w.cell? ⟨bz,1,none⟩=some (.slice none 0 0):=(kz w hp).cell 1;have f0:=(kz w hp).frozen 0;have f1:=(kz w hp).frozen 1;z2i (by rfl) (by go_simp) (have hp:(fun (w:World)=>(P2 w))  _:=st w hp;hKQ.out _ _ (t2 _ hp) (fun _=>ekst_8  _ hp)))
    exact AllReadyH.nil
  have hp:=h0
  have hww:(fun w:World=>w.cell? ⟨b,2,none⟩=some (.slice a1 n1 c1)∧w.cell? ⟨b,3,none⟩=some (.slice a2 n2 c2)∧w.cell? ⟨b,4,none⟩=some (.bool fd)) W.drew:=t0 _ hp
  have last:=kst W.drew hp
  have z:wpAnyH Tryz.prog .any z2S Q (fun w:World=>w.cell? ⟨b,2,none⟩=some (.slice a1 n1 c1)∧w.cell? ⟨b,3,none⟩=some (.slice a2 n2 c2)∧w.cell? ⟨b,4,none⟩=some (.bool fd)) 10 #[false,false,false,false,false,false,false,false,false,false] {tmps:=#[u0,u1,u2,u3,u4,u5,u6,u7,u8,u9,u10,u11,u12,u13,u14,u15,.pointer (some ⟨bz,0,none⟩),u17,.pointer (some ⟨b,0,none⟩),u19,u20,u21,u22,u23,u24,u25,u26,u27,u28,u29,u30,u31,u32,u33,u34,u35,u36,u37,u38,u39,u40,u41,u42,u43,u44,u45,u46,u47,u48,u49,u50,u51,u52,u53,u54,u55,u56,u57,u58],defers:=[]} W.drew:=by
    refine wpAnyH_take (i:=0) (oi:=⟨some 51,.move (.tmp 18),55,"clash.go:71",#[],none⟩) (v:=.pointer (some ⟨b,0,none⟩)) rfl (by kernel_rfl) (by kernel_rfl) (by kernel_rfl) (fun _ _ _ h=>hQ _ _ _ _ _ h) (Yields.yieldsIf (Or.inl ⟨by rfl,fun W=>by go_simp⟩)) hww ?_
    simp only [Act.put,List.setIfInBounds_toArray,List.set_cons_zero,List.set_cons_succ]
    refine wpAnyH_take (i:=1) (oi:=⟨some 52,.nilCheck (.tmp 51),0,"clash.go:71",#[⟨0,.data⟩],none⟩) (v:=.pointer (some ⟨b,0,none⟩)) rfl (by kernel_rfl) (by kernel_rfl) (by kernel_rfl) (fun _ _ _ h=>hQ _ _ _ _ _ h) (Yields.yieldsIf (Or.inl ⟨by rfl,fun W=>by go_simp⟩)) hww ?_
    simp only [Act.put,List.setIfInBounds_toArray,List.set_cons_zero,List.set_cons_succ]
    refine wpAnyH_take (i:=2) (oi:=⟨some 53,.fieldAddr 61 (.tmp 52) 2,0,"clash.go:71",#[⟨1,.data⟩],none⟩) (v:=.pointer (some ⟨b,2,none⟩)) rfl (by kernel_rfl) (by kernel_rfl) (by kernel_rfl) (fun _ _ _ h=>hQ _ _ _ _ _ h) (Yields.yieldsIf (Or.inl ⟨by rfl,fun W=>by go_simp⟩)) hww ?_
    simp only [Act.put,List.setIfInBounds_toArray,List.set_cons_zero,List.set_cons_succ]
    refine wpAnyH_take (i:=3) (oi:=⟨some 54,.load 31 (.tmp 53),31,"clash.go:71",#[⟨2,.data⟩],none⟩) (v:=.agg #[.slice a1 n1 c1,.slice a2 n2 c2]) rfl (by kernel_rfl) (by kernel_rfl) (by kernel_rfl) (fun _ _ _ h=>hQ _ _ _ _ _ h) (Or.inl ⟨by rfl,fun w hw=>by have hx:=hw.1;have hy:=hw.2.1;go_simp⟩) hww ?_
    simp only [Act.put,List.setIfInBounds_toArray,List.set_cons_zero,List.set_cons_succ]
    refine wpAnyH_take (i:=4) (oi:=⟨some 55,.move (.tmp 18),55,"clash.go:71",#[{on:=8,ground:=.gcOnly Departure.lateStores}],none⟩) (v:=.pointer (some ⟨b,0,none⟩)) rfl (by kernel_rfl) (by kernel_rfl) (by kernel_rfl) (fun _ _ _ h=>hQ _ _ _ _ _ h) (Yields.yieldsIf (Or.inl ⟨by rfl,fun W=>by go_simp⟩)) hww ?_
    simp only [Act.put,List.setIfInBounds_toArray,List.set_cons_zero,List.set_cons_succ]
    refine wpAnyH_take (i:=5) (oi:=⟨some 56,.nilCheck (.tmp 55),0,"clash.go:71",#[⟨4,.data⟩,{on:=8,ground:=.gcOnly Departure.lateStores}],none⟩) (v:=.pointer (some ⟨b,0,none⟩)) rfl (by kernel_rfl) (by kernel_rfl) (by kernel_rfl) (fun _ _ _ h=>hQ _ _ _ _ _ h) (Yields.yieldsIf (Or.inl ⟨by rfl,fun W=>by go_simp⟩)) hww ?_
    simp only [Act.put,List.setIfInBounds_toArray,List.set_cons_zero,List.set_cons_succ]
    refine wpAnyH_take (i:=6) (oi:=⟨some 57,.fieldAddr 61 (.tmp 56) 3,0,"clash.go:71",#[⟨5,.data⟩,{on:=8,ground:=.gcOnly Departure.lateStores}],none⟩) (v:=.pointer (some ⟨b,4,none⟩)) rfl (by kernel_rfl) (by kernel_rfl) (by kernel_rfl) (fun _ _ _ h=>hQ _ _ _ _ _ h) (Yields.yieldsIf (Or.inl ⟨by rfl,fun W=>by go_simp⟩)) hww ?_
    simp only [Act.put,List.setIfInBounds_toArray,List.set_cons_zero,List.set_cons_succ]
    refine wpAnyH_take (i:=7) (oi:=⟨some 58,.load 4 (.tmp 57),4,"clash.go:71",#[⟨6,.data⟩,{on:=8,ground:=.gcOnly Departure.lateStores}],none⟩) (v:=.bool fd) rfl (by kernel_rfl) (by kernel_rfl) (by kernel_rfl) (fun _ _ _ h=>hQ _ _ _ _ _ h) (Or.inl ⟨by rfl,fun w hw=>by have hx:=hw.2.2;go_simp⟩) hww ?_
    simp only [Act.put,List.setIfInBounds_toArray,List.set_cons_zero,List.set_cons_succ]
    exact last
  exact wp_region_held_drew (S:=(fun w:World=>w.cell? ⟨b,2,none⟩=some (.slice a1 n1 c1)∧w.cell? ⟨b,3,none⟩=some (.slice a2 n2 c2)∧w.cell? ⟨b,4,none⟩=some (.bool fd))) (by kernel_rfl) hww (fun _=>z)
end Go.Proofs.YthpdlnbbbcgemaaGreatDoor

namespace Go.Proofs.YthpdlnbbbcgemaaGreatDoor
open Go.RowKit
set_option maxRecDepth 100000
theorem zd8 (d:Int) (g:Nat):Tryz.prog.built 61 [(0,.int .i64 d),(1,.map (some g))]=some #[.int .i64 d,.map (some g),.slice none 0 0,.slice none 0 0,.bool false]:=by kernel_rfl
theorem zg3 (d:Int) (w:World) (ok:Nat→Prop):Calls Tryz.prog 20 #[.int .i64 d] w fun e w'=>e=.returned (.pointer (some ⟨w.heap.size+1,0,none⟩))∧MET w' w.heap.size w'.heap.size ok (w.heap.size+1) w.heap.size d []∧Below w.heap.size w w':=by
  have hmk:(Instr.makeMap 59 none).run Tryz.prog w=.ok (.map (some w.heap.size)) (w.alloc (.map #[] 0)):=rfl
  have hb:∀ W,(Instr.build 61 #[(0,.int .i64 d),(1,.map (some w.heap.size))]).run Tryz.prog W=.ok (.agg #[.int .i64 d,.map (some w.heap.size),.slice none 0 0,.slice none 0 0,.bool false]) W:=fun W=>run_build (P:=Tryz.prog) W 61 #[(0,.int .i64 d),(1,.map (some w.heap.size))] _ (zd8 d w.heap.size)
  go_enter Tryz.func20,Tryz.ntmps20
  go_wp2
  go_ret
  have hh:Has ((w.alloc (.map #[] 0)).alloc (.cells #[.int .i64 d,.map (some w.heap.size),.slice none 0 0,.slice none 0 0,.bool false] 61)) (w.heap.size+1) #[.int .i64 d,.map (some w.heap.size),.slice none 0 0,.slice none 0 0,.bool false] 61:=Has.at _ _ _ (by simp)
  refine ⟨rfl,⟨⟨by omega,by simp⟩,⟨Nat.le_refl _,by simp;omega⟩,by omega,Nat.le_refl _,⟨_,_,_,_,_,_,hh,fun s t e=>by simp [CLS] at e⟩,_,(World.ownsMap_made w _ _ _).alloc _,fun h _ _=>by simp [Maps.has],fun h t _ e=>by simp [FST] at e⟩,((Below.refl _ _).alloc (Nat.le_refl _) _).alloc (by simp) _⟩
def CLASHED (w:World) (X:Option (List Nat × List Nat)) (e:Ending) (w':World):Prop:=Below w.heap.size w w'∧match X with
  | none=>e=.returned (.tuple #[.agg #[.slice none 0 0,.slice none 0 0],.bool false])
  | some (s,t)=>∃ gA cA gB cB,e=.returned (.tuple #[.agg #[.slice (some ⟨gA,0,none⟩) s.length cA,.slice (some ⟨gB,0,none⟩) t.length cB],.bool true])∧OWNT w' w.heap.size gA cA s∧OWNT w' w.heap.size gB cB t∧gA≠gB
theorem MET.told {w0 w w':World} {base top b g bz:Nat} {ok:Nat→Prop} {d:Int} {T:List (List Nat)} (h:MET w base top ok b g d T) {a1:Option Addr} {n1 c1:Nat} {a2:Option Addr} {n2 c2:Nat} {fd:Bool} (hB:Has w b #[.int .i64 d,.map (some g),.slice a1 n1 c1,.slice a2 n2 c2,.bool fd] 61) {s t:List Nat} (hc:CLS d T=some (s,t)) (hbase:w0.heap.size≤base) (hw:Below w0.heap.size w0 w') (hk:∀ k,k≠bz→w'.heap[k]?=w.heap[k]?) (hz:∀ k,ok k→k≠bz):fd=true∧CLASHED w0 (some (s,t)) (.returned (.tuple #[.agg #[.slice a1 n1 c1,.slice a2 n2 c2],.bool fd])) w':=by
  obtain ⟨a3,n3,c3,a4,n4,c4,h1,h2⟩:=h.blk
  have e:some (Obj.cells #[.int .i64 d,.map (some g),.slice a1 n1 c1,.slice a2 n2 c2,.bool fd] 61)=some (Obj.cells #[.int .i64 d,.map (some g),.slice a3 n3 c3,.slice a4 n4 c4,.bool (CLS d T).isSome] 61):=hB.symm.trans h1
  simp only [Option.some.injEq,Obj.cells.injEq,Array.mk.injEq,List.cons.injEq,Value.slice.injEq,Value.bool.injEq,and_true,true_and] at e
  obtain ⟨⟨r1,r2,r3⟩,⟨r4,r5,r6⟩,r7⟩:=e
  rw [hc] at r7
  obtain ⟨gA,cA,gB,cB,e1,e2,o1,o2,n1',l1,l2, -⟩:=h2 s t hc
  simp only [Value.slice.injEq] at e1 e2
  refine ⟨r7,hw,gA,cA,gB,cB,?_,?_,?_,n1'⟩
  · rw [r1,r2,r3,r4,r5,r6,r7,e1.1,e1.2.1,e1.2.2,e2.1,e2.2.1,e2.2.2]
    rfl
  · have:=o1.at (hk gA (hz gA l1.2))
    exact ⟨z0u this.1 hbase,this.2⟩
  · have:=o2.at (hk gB (hz gB l2.2))
    exact ⟨z0u this.1 hbase,this.2⟩
end Go.Proofs.YthpdlnbbbcgemaaGreatDoor
