/- Texts of SpanVerifies, one behind the other: VerifyRefBagRegion, HashRefBlocks. -/
import Derived.Great.BuildSlice
import Derived.Test.YthdpkaiieomdoaaGreatDoorSpanVerifiesP12
namespace Go.Proofs.YthdpkaiieomdoaaGreatDoor
open Go.RowKit
set_option maxRecDepth 100000
@[go_sem] def RBGOPSq0:Oper:=⟨some 39,.move (.tmp 0),3,"ref.go:24",#[],none⟩
@[go_sem] def RBGOPSq1:Oper:=⟨some 40,.move (.tmp 2),25,"ref.go:24",#[],none⟩
@[go_sem] def RBGOPSq2:Oper:=⟨some 41,.move (.tmp 9),3,"ref.go:24",#[],none⟩
@[go_sem] def RBGOPSq3:Oper:=⟨some 42,.indexAddr 25 (.tmp 40) (.tmp 41),0,"ref.go:24",#[⟨1,.data⟩,⟨2,.data⟩],none⟩
@[go_sem] def RBGOPSq4:Oper:=⟨some 43,.load 23 (.tmp 42),23,"ref.go:24",#[⟨3,.data⟩],none⟩
@[go_sem] def RBGOPSq5:Oper:=⟨some 44,.load 23 (.tmp 8),23,"ref.go:24",#[],none⟩
@[go_sem] def RBGOPSq6:Oper:=⟨some 45,.call {callee:=.value (.func 70),args:=#[.tmp 39,.tmp 43,.tmp 44],argTypes:=#[3,23,23]},23,"ref.go:24",#[⟨0,.data⟩,⟨4,.data⟩,⟨5,.data⟩],none⟩
@[go_sem] def RBGOPSq7:Oper:=⟨none,.store 23 (.tmp 8) (.tmp 45),0,"ref.go:24",#[⟨6,.data⟩,⟨6,.chain⟩,⟨0,.phase⟩,⟨1,.phase⟩,⟨2,.phase⟩,⟨3,.phase⟩,⟨4,.phase⟩,⟨5,.phase⟩,⟨6,.phase⟩],none⟩
def z3l:Array Oper:=#[RBGOPSq0,RBGOPSq1,RBGOPSq2,RBGOPSq3,RBGOPSq4,RBGOPSq5,RBGOPSq6,RBGOPSq7]
set_option maxHeartbeats 2000000 in
theorem z7M {Q:Exit→Act→World→Prop} {u1 u3 u4 u5 u6 u7 u10 u11 u12 u13 u14 u15 u16 u17 u18 u19 u20 u21 u22 u23 u24 u25 u26 u27 u28 u29 u30 u31 u32 u33 u34 u35 u36 u37 u38 u39 u40 u41 u42 u43 u44 u45 u46 u47 u48 u49:Value} (W:World) (gn o n c b q:Nat) (d:Int) (L X Y:List Int) (hL:L.length=32) (hX:X.length=32) (hY:Y.length=32) (hq:(q:Int)<(n:Int)) (I:World→Prop) (h0:I W.drew) (hI:∀ w,I w→w.rangeAt gn (o+q*32) (z00 L)∧Has w b (z00 X).toArray 23) (hRow:∀ w,I w→(w.setRow b (z00 Y).toArray).rangeAt gn (o+q*32) (z00 L))
    (q1:∀ w,I w→Calls Tryz.prog 70 #[.int .i64 d,.agg (z00 L).toArray,.agg (z00 X).toArray] w fun e w'=>e=.returned (.agg (z00 Y).toArray)∧I w') (hQ:∀ c (a:Act) (t:Tmp) (v:Value) w,Q (.panic c) (a.put (some t) v) w→Q (.panic c) a w)
    (hfin:∀ (w:World),(∃ w0:World,I w0∧w=w0.setRow b (z00 Y).toArray)→Q .normal {tmps:=#[.int .i64 d,u1,.slice (some ⟨gn,o,none⟩) n c,u3,u4,u5,u6,u7,.pointer (some ⟨b,0,none⟩),.int .i64 (q:Int),u10,u11,u12,u13,u14,u15,u16,u17,u18,u19,u20,u21,u22,u23,u24,u25,u26,u27,u28,u29,u30,u31,u32,u33,u34,u35,u36,u37,u38,.int .i64 d,.slice (some ⟨gn,o,none⟩) n c,.int .i64 (q:Int),.pointer (some ⟨gn,(o+q*32),none⟩),.agg (z00 L).toArray,.agg (z00 X).toArray,.agg (z00 Y).toArray,u46,u47,u48,u49],defers:=[]} w):(Code.region 11 z3l true).wp Tryz.prog Q {tmps:=#[.int .i64 d,u1,.slice (some ⟨gn,o,none⟩) n c,u3,u4,u5,u6,u7,.pointer (some ⟨b,0,none⟩),.int .i64 (q:Int),u10,u11,u12,u13,u14,u15,u16,u17,u18,u19,u20,u21,u22,u23,u24,u25,u26,u27,u28,u29,u30,u31,u32,u33,u34,u35,u36,u37,u38,u39,u40,u41,u42,u43,u44,u45,u46,u47,u48,u49],defers:=[]} W:=by
  have k5_6_7:∀ (w:World),(∃ w0:World,I w0∧w=w0.setRow b (z00 Y).toArray)→wpAnyH Tryz.prog .any z3l Q (fun w:World=>w.rangeAt gn (o+q*32) (z00 L)) 0 #[true,true,true,true,true,true,true,true] {tmps:=#[.int .i64 d,u1,.slice (some ⟨gn,o,none⟩) n c,u3,u4,u5,u6,u7,.pointer (some ⟨b,0,none⟩),.int .i64 (q:Int),u10,u11,u12,u13,u14,u15,u16,u17,u18,u19,u20,u21,u22,u23,u24,u25,u26,u27,u28,u29,u30,u31,u32,u33,u34,u35,u36,u37,u38,.int .i64 d,.slice (some ⟨gn,o,none⟩) n c,.int .i64 (q:Int),.pointer (some ⟨gn,(o+q*32),none⟩),.agg (z00 L).toArray,.agg (z00 X).toArray,.agg (z00 Y).toArray,u46,u47,u48,u49],defers:=[]} w:=fun  w hp=>by
    exact wpAnyH_done (by kernel_rfl) (hfin  w hp) _
  have k5_6:∀ (w:World),(I w)→wpAnyH Tryz.prog .any z3l Q (fun w:World=>w.rangeAt gn (o+q*32) (z00 L)) 1 #[true,true,true,true,true,true,true,false] {tmps:=#[.int .i64 d,u1,.slice (some ⟨gn,o,none⟩) n c,u3,u4,u5,u6,u7,.pointer (some ⟨b,0,none⟩),.int .i64 (q:Int),u10,u11,u12,u13,u14,u15,u16,u17,u18,u19,u20,u21,u22,u23,u24,u25,u26,u27,u28,u29,u30,u31,u32,u33,u34,u35,u36,u37,u38,.int .i64 d,.slice (some ⟨gn,o,none⟩) n c,.int .i64 (q:Int),.pointer (some ⟨gn,(o+q*32),none⟩),.agg (z00 L).toArray,.agg (z00 X).toArray,.agg (z00 Y).toArray,u46,u47,u48,u49],defers:=[]} w:=fun  w hp=>by
    refine wpAnyH_ready (rs:=[7]) (by kernel_rfl) (by simp) ?_
    refine AllReadyH.cons (o:=RBGOPSq7) rfl (fun K hK=>?_) ?_
    · exact z1B (by rfl) (wpList_store_row rfl 23 (.tmp 8) (.tmp 45) rfl _ _ rfl rfl 23 _ (hI _ hp).2 (z03 hY) (by simp [z00,hX,hY]) (z0i Y) ⟨rfl,(have hp:(fun (w:World)=>(∃ w0:World,I w0∧w=w0.setRow b (z00 Y).toArray))  _:=⟨w,hp,rfl⟩;hK.out _ _ ((by obtain ⟨w0,h1,h2⟩:=hp; (first | rw [h2] | skip);exact hRow _ h1)) (fun _=>k5_6_7  _ hp))⟩)
    exact AllReadyH.nil
  have k5:∀ (w:World),(I w)→wpAnyH Tryz.prog .any z3l Q (fun w:World=>w.rangeAt gn (o+q*32) (z00 L)) 2 #[true,true,true,true,true,true,false,false] {tmps:=#[.int .i64 d,u1,.slice (some ⟨gn,o,none⟩) n c,u3,u4,u5,u6,u7,.pointer (some ⟨b,0,none⟩),.int .i64 (q:Int),u10,u11,u12,u13,u14,u15,u16,u17,u18,u19,u20,u21,u22,u23,u24,u25,u26,u27,u28,u29,u30,u31,u32,u33,u34,u35,u36,u37,u38,.int .i64 d,.slice (some ⟨gn,o,none⟩) n c,.int .i64 (q:Int),.pointer (some ⟨gn,(o+q*32),none⟩),.agg (z00 L).toArray,.agg (z00 X).toArray,u45,u46,u47,u48,u49],defers:=[]} w:=fun  w hp=>by
    refine wpAnyH_ready (rs:=[6]) (by kernel_rfl) (by simp) ?_
    refine AllReadyH.cons (o:=RBGOPSq6) rfl (fun K hK=>?_) ?_
    · rw [if_pos (by rfl)]
      go_simp
      refine (show Calls _ _ _ w (fun e w'=>e=.returned (.agg (z00 Y).toArray)∧(I w')) from q1 w hp).mono ?_
      rintro e w' ⟨rfl,hp⟩
      exact hK.out _ _ ((hI _ hp).1) (fun _=>k5_6  w' hp)
    exact AllReadyH.nil
  have k:∀ (w:World),(I w)→wpAnyH Tryz.prog .any z3l Q (fun w:World=>w.rangeAt gn (o+q*32) (z00 L)) 3 #[true,true,true,true,true,false,false,false] {tmps:=#[.int .i64 d,u1,.slice (some ⟨gn,o,none⟩) n c,u3,u4,u5,u6,u7,.pointer (some ⟨b,0,none⟩),.int .i64 (q:Int),u10,u11,u12,u13,u14,u15,u16,u17,u18,u19,u20,u21,u22,u23,u24,u25,u26,u27,u28,u29,u30,u31,u32,u33,u34,u35,u36,u37,u38,.int .i64 d,.slice (some ⟨gn,o,none⟩) n c,.int .i64 (q:Int),.pointer (some ⟨gn,(o+q*32),none⟩),.agg (z00 L).toArray,u44,u45,u46,u47,u48,u49],defers:=[]} w:=fun  w hp=>by
    refine wpAnyH_ready (rs:=[5]) (by kernel_rfl) (by simp) ?_
    refine AllReadyH.cons (o:=RBGOPSq5) rfl (fun K hK=>?_) ?_
    · exact z1B (by rfl) (wpList_load_row rfl 23 (.tmp 8) rfl b rfl 23 (z00 X).toArray (0,0) _ (hI _ hp).2 Tryz.underlying23 rfl (z03 hX) ⟨rfl,(have hp:(fun (w:World)=>(I w))  w:=hp;hK.out _ _ ((hI _ hp).1) (fun _=>k5  _ hp))⟩)
    exact AllReadyH.nil
  have hp:=h0
  have hww:(fun w:World=>w.rangeAt gn (o+q*32) (z00 L)) W.drew:=(hI _ hp).1
  have last:=k W.drew hp
  have z:wpAnyH Tryz.prog .any z3l Q (fun w:World=>w.rangeAt gn (o+q*32) (z00 L)) 8 #[false,false,false,false,false,false,false,false] {tmps:=#[.int .i64 d,u1,.slice (some ⟨gn,o,none⟩) n c,u3,u4,u5,u6,u7,.pointer (some ⟨b,0,none⟩),.int .i64 (q:Int),u10,u11,u12,u13,u14,u15,u16,u17,u18,u19,u20,u21,u22,u23,u24,u25,u26,u27,u28,u29,u30,u31,u32,u33,u34,u35,u36,u37,u38,u39,u40,u41,u42,u43,u44,u45,u46,u47,u48,u49],defers:=[]} W.drew:=by
    refine tkP RBGOPSq0 (.int .i64 d) 0 hQ hww ?_
    simp only [List.set]
    refine tkP RBGOPSq1 (.slice (some ⟨gn,o,none⟩) n c) 1 hQ hww ?_
    simp only [List.set]
    refine tkP RBGOPSq2 (.int .i64 (q:Int)) 2 hQ hww ?_
    simp only [List.set]
    refine tkP RBGOPSq3 (.pointer (some ⟨gn,(o+q*32),none⟩)) 3 hQ hww ?_
    simp only [List.set]
    refine tkH RBGOPSq4 (.agg (z00 L).toArray) 4 hQ (yieldsIf_load_mid (by rfl) 23 (.tmp 42) rfl gn (o+q*32) rfl (z00 L) _ (fun w h=>h) Tryz.underlying23 rfl (z0j hL)) hww ?_
    simp only [List.set]
    exact last
  exact wp_region_held_drew (S:=(fun w:World=>w.rangeAt gn (o+q*32) (z00 L))) (by kernel_rfl) hww (fun _=>z)
end Go.Proofs.YthdpkaiieomdoaaGreatDoor

namespace Go.Proofs.YthdpkaiieomdoaaGreatDoor.HX
open Go.RowKit
set_option maxRecDepth 100000
theorem zbM:(#[.int .u8 0,.int .u8 0,.int .u8 0,.int .u8 0,.int .u8 0,.int .u8 0,.int .u8 0,.int .u8 0]:Array Value)=UARR .u8 8 fun _=>0:=rfl
theorem zen:(#[.int .u8 0,.int .u8 0,.int .u8 0,.int .u8 0,.int .u8 0,.int .u8 0,.int .u8 0,.int .u8 0,.int .u8 0,.int .u8 0,.int .u8 0,.int .u8 0,.int .u8 0,.int .u8 0,.int .u8 0,.int .u8 0,.int .u8 0,.int .u8 0,.int .u8 0,.int .u8 0,.int .u8 0,.int .u8 0,.int .u8 0,.int .u8 0,.int .u8 0,.int .u8 0,.int .u8 0,.int .u8 0,.int .u8 0,.int .u8 0,.int .u8 0,.int .u8 0,.int .u8 0,.int .u8 0,.int .u8 0,.int .u8 0,.int .u8 0,.int .u8 0,.int .u8 0,.int .u8 0,.int .u8 0,.int .u8 0,.int .u8 0,.int .u8 0,.int .u8 0,.int .u8 0,.int .u8 0,.int .u8 0,.int .u8 0,.int .u8 0,.int .u8 0,.int .u8 0,.int .u8 0,.int .u8 0,.int .u8 0,.int .u8 0,.int .u8 0,.int .u8 0,.int .u8 0,.int .u8 0,.int .u8 0,.int .u8 0,.int .u8 0,.int .u8 0]:Array Value)=UARR .u8 64 fun _=>0:=rfl
theorem z51 (b:Nat) (w:World):(Instr.sliceAt 148 (.pointer (some ⟨b,0,none⟩)) none none none).run Tryz.prog w=.ok (.slice (some ⟨b,0,none⟩) 8 8) w:=by
  have hn:Tryz.prog.arrayLen 148=8:=by kernel_rfl
  rw [run_sliceAt_array_all w 148 ⟨b,0,none⟩ (by kernel_rfl),hn]
  have he:Tryz.prog.elem 148=5:=by kernel_rfl
  obtain ⟨i8,hi,h8⟩:=Option.map_eq_some_iff.1 z0I
  simp only [Prod.mk.injEq] at h8
  rw [he]
  simp [sizeOf,typeInfo,hi,h8.2.1,slicedAt,Addr.add]
abbrev BY (l:List Nat):List Value:=z00 (INTS l)
theorem z2o (a b:List Nat):BY (a ++ b)=BY a ++ BY b:=by simp [BY,z00,INTS]
theorem z6E (l:List Nat):(BY l).length=l.length:=by simp [BY,z00,INTS]
theorem z7N (l:List Nat) (i:Nat) (h:i<l.length):(BY l)[i]?=some (.int .u8 ((l.getD i 0:Nat):Int)):=by
  simp [BY,z00,INTS,List.getD_eq_getElem?_getD,h]
theorem zfe (l:List Nat):∀ u∈BY l,u.oneCell'=true:=z15 _
def HFUL (l:List Nat):List Nat:=l ++ END l.length
theorem z3d (l:List Nat):(HFUL l).length=64*((l.length+z0d l.length+9) / 64):=by
  rw [HFUL,List.length_append,zan]
  unfold z0d
  omega
theorem zau (L:List Nat) (t:Nat):BY (L.take (64*(t+1)))=BY (L.take (64*t)) ++ BY ((L.drop (64*t)).take 64):=by
  rw [← z2o,show 64*(t+1)=64*t+64 by omega,List.take_add]
theorem zav {n m:Nat} (h:m<z0d n):(n+1+m) % 64≠56:=by
  unfold z0d at h
  omega
theorem z8L (n:Nat):(n+1+z0d n) % 64=56:=by
  unfold z0d
  omega
theorem zbN (l:List Nat):l ++ [128] ++ List.replicate (z0d l.length) 0 ++ BE8 (8*l.length)=HFUL l:=by
  simp [HFUL,END,HEAD]
theorem z2n (W:World) (b j:Nat) (v:Value):W.grownBy (W.setCell ⟨b,j,none⟩ v) (some b):=
  ⟨rfl,rfl,rfl,by simp,fun k _ hk=>Below.heap_setCell _ _ _ k (fun e=>hk (by rw [e]))⟩
theorem z3v {w:World} {B n:Nat} {v:Value} {xs:List Value} {t:TypeId} {s:Nat} (h:w.ownsRow B t s v n xs):∃ a cap,v=.slice a n cap∧(0<n→∃ g,a=some ⟨g,0,none⟩):=by
  rcases h.2 with ⟨rfl,h0⟩ | ⟨g,cap,cur,rfl,hb,hg,r⟩
  · subst h0
    exact ⟨none,0,rfl,fun h=>by omega⟩
  · exact ⟨_,cap,rfl,fun _=>⟨g,rfl⟩⟩
theorem HM (m:Nat) (hm:m<256) (w4:World):Bytes (w4.alloc (.cells #[.int .u8 (m:Int)] 5)) (some ⟨w4.heap.size,0,none⟩) 1 [(m:Int)]:=z2m w4 1 (fun _=>(m:Int)) [(m:Int)] rfl (fun i hi=>by obtain rfl:i=0:=(by omega);rfl) (fun x hx=>by simp at hx;omega)
theorem z7O {w:World} {g n:Nat} {f:Nat→Nat} {t:TypeId} (h:Has w g (UARR .u8 n f) t) (hf:∀ i,f i<256):Text w (some ⟨g,0,none⟩) n ((List.range n).map f):=
  ⟨by simp,fun _=>⟨g,0,rfl,h.lt,fun i hi=>by rw [Nat.zero_add,h.cell,z07 _ _ _ _ hi,List.getD_eq_getElem?_getD,List.getElem?_map,List.getElem?_range hi];rfl⟩,fun x hx=>by obtain ⟨i,_,rfl⟩:=List.mem_map.1 hx;exact hf i⟩
theorem z7P {w w':World} {base:Nat} {t:TypeId} {s:Nat} {v:Value} {n:Nat} {xs:List Value} (h:w.ownsRow base t s v n xs) (hb:Below w.heap.size w w'):w'.ownsRow base t s v n xs:=by
  refine ⟨h.1,h.2.imp id ?_⟩
  rintro ⟨g,c,cur,a,b,r,rest⟩
  exact ⟨g,c,cur,a,b,(hb.block g (Array.getElem?_eq_some_iff.1 r).1).trans r,rest⟩
theorem z52:(Tryz.prog.info? 147).map (fun i=>(i.zero,i.size,i.bytes))=some (some (.agg (UARR .u8 64 fun _=>0)),64,64):=by kernel_rfl
theorem zbO {ops:Array Oper} {rest:List Oper} {o:Oper} {a:Act} {Q:Exit→Act→World→Prop} (w:World) (hgd:o.guard=none) (s x:Operand)
    (ho:o.op=.call {callee:=.builtin .append,args:=#[s,x],argTypes:=#[87,87]})
    (base:Nat) (v:Value) (n:Nat) (xs:List Value) (hs:a.eval s=v) (hown:w.ownsRow base 147 64 v n xs)
    (b c:Nat) (ys:List Nat) (hy:ys.length=64) (hx:a.eval x=.slice (some ⟨b,0,none⟩) 1 c) (hc:∀ i,i<64→w.cell? ⟨b,i,none⟩=some (.int .u8 ((ys.getD i 0:Nat):Int)))
    (hb:n<2 ^ 30) (hbase:base≤w.heap.size)
    (h:∀ g cap w',w'.ownsRow base 147 64 (.slice (some ⟨g,0,none⟩) (n+1) cap) (n+1) (xs ++ BY ys)→w.grownBy w' v.ownBlock→wpList Tryz.prog ops Q rest (a.put o.dst (.slice (some ⟨g,0,none⟩) (n+1) cap)) w'):wpList Tryz.prog ops Q (o :: rest) a w:=by
  obtain ⟨i,hi,hz,hs1,hby⟩:=info_parts z52
  refine wpList_append_lies w hgd s x 87 ho base 147 i _ 64 64 Tryz.underlying87 hi hz hs1 hby (by simp [Value.cells,z01]) (by decide) v n xs hs hown ⟨b,0,none⟩ 1 c (BY ys) hx (by rw [z6E,hy]) ?_ (zfe ys) (by decide) (by simp only [maxLen];omega) (by omega) hbase w.heap.size rfl ?_
  · intro j u hj
    have hj64:j<64:=by have:=(List.getElem?_eq_some_iff.1 hj).1;rw [z6E,hy] at this;exact this
    rw [z7N _ _ (by omega)] at hj
    rw [← hj,z0H,Nat.zero_add]
    exact hc j hj64
  · intro g cap w' h1 h2 _ _
    exact h g cap w' h1 h2
theorem zbP {t nb j I KK LEN len:Nat} (h1:LEN=len∧len=64*nb∧LEN<2 ^ 31+8) (h4:t<nb) (h5:64*t=I) (hj:j<64) (h6:I+j=KK):KK<LEN∧wrap64 ((I:Int)+(j:Int))=(KK:Int)∧(KK:Int)<(LEN:Int)∧¬ (KK:Int)<0:=by
  unfold wrap64
  omega
theorem zda {t nb LEN len:Nat} (h1:LEN=len∧len=64*nb∧LEN<2 ^ 31+8) (h4:t<nb):64*(t+1)≤len∧t<2 ^ 30:=by omega
theorem zaw {w8 wr:World} {B g LEN cap t j KK:Nat} {L:List Nat} (h:w8.ownsRow B 5 1 (.slice (some ⟨g,0,none⟩) LEN cap) LEN (BY L)) (hbel:Below w8.heap.size w8 wr) (hg:g<w8.heap.size) (hL:LEN=L.length) (hj:j<64) (hK:64*t+j=KK) (hKL:KK<LEN):
    wr.cell? ⟨g,KK,none⟩=some (.int .u8 ((BLK L t j:Nat):Int)):=by
  have h1:=(hbel.cell (p:=⟨g,KK,none⟩) hg).trans (h.cellAt KK (by omega))
  rw [h1,z7N _ _ (by omega)]
  unfold BLK
  rw [if_pos hj,hK]
theorem zax {wr:World} {xb t j:Nat} {L:List Nat} (hH:Has wr xb (UARR .u8 64 fun i=>if i<j then BLK L t i else 0) 147) (hj:j<64):
    wr.cell? ⟨xb,j,none⟩=some (.int .u8 0)∧wr.frozen? ⟨xb,j,none⟩=false∧Has (wr.setCell ⟨xb,j,none⟩ (.int .u8 ((BLK L t j:Nat):Int))) xb (UARR .u8 64 fun i=>if i<j+1 then BLK L t i else 0) 147:=by
  refine ⟨?_,hH.frozen j,?_⟩
  · have h:=hH.cell j
    rw [z07 _ _ _ _ hj,if_neg (Nat.lt_irrefl j)] at h
    exact h
  · have h:=hH.set j (.int .u8 ((BLK L t j:Nat):Int))
    have e:=z3A (k:=.u8) (n:=64) (i:=j) (F:=BLK L t) (f:=fun i=>if i<j then BLK L t i else 0) (fun _=>rfl) (BLK L t j) rfl
    rw [e] at h
    exact h
theorem z17 {ops:Array Oper} {rest:List Oper} {o:Oper} {a:Act} {Q:Exit→Act→World→Prop} (w:World) (hg:o.guard=none) (t e:TypeId) (x:Operand) (ho:o.op=.buildSlice t 1 #[(0,x)]) (C:Array Value) (hx:a.eval x=.agg C) (n:Nat) (z:Value) (by':Nat)
    (hu:Tryz.prog.underlying t=some (.slice e)) (hi:(Tryz.prog.info? e).map (fun i=>(i.zero,i.size,i.bytes))=some (some z,n,by')) (hC:C.size=n) (hz:z.cells.size=n) (hn:0<n) (hs:n≤1000)
    (h:wpList Tryz.prog ops Q rest (a.put o.dst (.slice (some ⟨w.heap.size,0,none⟩) 1 1)) (w.alloc (.cells C e))):wpList Tryz.prog ops Q (o :: rest) a w:=by
  obtain ⟨i,hie,hz',hs1,_⟩:=info_parts hi
  refine wpList_buildSlice hg t e 1 _ ho C i z hu hie hz' (by rw [hs1];omega) (by rw [hs1];omega) ?_ h
  have:=Great.fill_whole (s:=n) hn [.agg C] ((Array.range (1*i.size)).map (z.cells[· % z.cells.size]!)) (fun v hv=>by simp at hv;subst hv;exact hC) (by simp [hs1])
  simp [Value.cells] at this
  rw [hs1]
  simp [hx]
  rw [hs1] at this
  exact this
set_option maxHeartbeats 1000000 in
theorem z7Q (a:Option Addr) (n c:Nat) (l:List Nat) (w:World) (hA:Text w a n l) (hc:a=none→c=0) (hn:n<2 ^ 30):Calls Tryz.prog 47 #[.slice a n c] w fun e w'=>
    ∃ v,e=.returned v∧w'.ownsRow w.heap.size 147 64 v ((HFUL l).length / 64) (BY (HFUL l))∧Below w.heap.size w w':=by
  have hln:l.length=n:=hA.1
  have H:Aside (Text w a n l∧(a=none→c=0)∧n<2 ^ 30∧l.length=n):=⟨hA,hc,hn,hln⟩
  have hz8:=zbM
  have hz64:=zen
  clear hA hc hn hln
  have HE1:Aside (Bytes (w.alloc (.cells #[] 5)) a n (INTS l)):=(H.out.1.below ((Below.refl _ _).alloc (Nat.le_refl _) _)).bytes
  have HE2:Aside (∀ w4,(w.alloc (.cells #[] 5)).grownBy w4 (some w.heap.size)→Below w.heap.size w w4):=fun w4 h=>((Below.refl _ _).alloc (Nat.le_refl _) _).grown h (by simp) (fun k e=>by cases e;exact Nat.le_refl _)
  go_enter Tryz.func47,Tryz.ntmps47
  go_wp2_with (first | (at_builtin;refine z3k _ rfl (.tmp 11) (.tmp 12) rfl w.heap.size _ 0 [] rfl (z4b w _ (Nat.le_refl _)) a n c (INTS l) rfl HE1.out H.out.2.1 n (INTS l) (by omega) rfl (by have:=H.out.2.2.1;omega) (by simp) ?_;intro a4 c4 w4 hown4 hgrow4) | (at_builtin;refine z0D _ rfl (.tmp 14) (.tmp 15) rfl w.heap.size (.slice a4 n c4) n (INTS l) rfl (hown4.alloc _) w4.heap.size 0 1 1 [((128:Nat):Int)] rfl (HM 128 (by decide) w4) (by decide) (by have:=H.out.2.2.1;omega) (by have:=(HE2.out _ hgrow4).size;simp;omega) ?_;intro g5 cap5 w5 hown5 hgrow5 hg5))
  have S:Aside (w5.ownsRow w.heap.size 5 1 (.slice (some ⟨g5,0,none⟩) (n+1) cap5) (n+1) (BY (l ++ [128]))∧Below w.heap.size w w5):=by
    have hb4:=HE2.out _ hgrow4
    refine ⟨by rw [z2o];rw [z0m] at hown5;exact hown5,(hb4.alloc hb4.size _).grown hgrow5 (by have:=hb4.size;simp;omega) (fun k e=>(hown4.lt k e).1)⟩
  clear hown4 hgrow4 hown5 hgrow5 hg5 HE1 HE2
  go_loopg [3] (z0d n) (fun q s3 wx=>∃ m:Nat,Aside (m+q=z0d n∧wx.ownsRow w.heap.size 5 1 s3 (n+1+m) (BY (l ++ [128] ++ List.replicate m 0))∧Below w.heap.size w wx))
  case atStart=>exact ⟨0,by omega,by simpa using S.out.1,S.out.2⟩
  case round=>
    obtain ⟨m,A⟩:=hrel
    clear S
    obtain ⟨a3,c3,hv, -⟩:=z3v A.out.2.1
    subst hv
    have hz:z0d n<64:=Nat.mod_lt _ (by decide)
    obtain ⟨X,hX⟩:∃ X,n+1+m=X:=⟨_,rfl⟩
    have hX40:X<2 ^ 31:=by have:=H.out.2.2.1;have:=A.out.1;omega
    have er:(X:Int).tmod 64=((X % 64:Nat):Int):=by rw [Int.tmod_eq_emod_of_nonneg (by omega)];omega
    cases gk with
    | zero=>
      obtain rfl:m=z0d n:=by have:=A.out.1;omega
      have hr:X % 64=56:=by rw [← hX];exact z8L n
      rw [hr] at er
      have er2:(X:Int) % 64=56:=by omega
      have S:Aside (wr.ownsRow w.heap.size 5 1 (.slice a3 X c3) X (BY (l ++ [128] ++ List.replicate (z0d n) 0))∧Below w.heap.size w wr∧X<2 ^ 31∧n+1+z0d n=X):=⟨by rw [← hX];exact A.out.2.1,A.out.2.2,hX40,hX⟩
      rw [hX]
      have e8:IntKind.u64.wrap (n:Int)=(n:Int):=by have:=H.out.2.2.1;rw [z09];omega
      obtain ⟨Y,hY⟩:∃ Y,8*n=Y:=⟨_,rfl⟩
      have e8':IntKind.u64.wrap (8*(n:Int))=(Y:Int):=by have:=H.out.2.2.1;rw [z09];omega
      have HY:Aside (8*n=Y∧Y<2 ^ 34):=⟨hY,by have:=H.out.2.2.1;omega⟩
      clear A hz hX hX40 hr hY
      go_wp2
      have T:Aside (Has (wr.alloc (.cells (UARR .u8 8 fun _=>0) 148)) wr.heap.size (UARR .u8 8 fun _=>0) 148∧(wr.alloc (.cells (UARR .u8 8 fun _=>0) 148)).ownsRow w.heap.size 5 1 (.slice a3 X c3) X (BY (l ++ [128] ++ List.replicate (z0d n) 0))∧Below w.heap.size w (wr.alloc (.cells (UARR .u8 8 fun _=>0) 148))∧(∀ g,(Value.slice a3 X c3).ownBlock=some g→g≠wr.heap.size)∧w.heap.size≤wr.heap.size):=
        ⟨Has.new _ _ _,S.out.1.alloc _,S.out.2.1.alloc S.out.2.1.size _,fun g hg=>by have:=(S.out.1.lt g hg).2;omega,S.out.2.1.size⟩
      generalize wr.alloc (.cells (UARR .u8 8 fun _=>0) 148)=w7 at *
      generalize wr.heap.size=tb at *
      go_loopg [4,6] 8 (fun q s4 s6 wx=>∃ z:Nat,s4=.int .u64 (z:Int)∧s6=.int .i64 ((q:Int) - 1)∧Aside (q≤8∧z=Y / 2 ^ (8*(8 - q))∧Has wx tb (UARR .u8 8 fun j=>if q≤j then Y / 2 ^ (8*(7 - j)) % 256 else 0) 148∧wx.ownsRow w.heap.size 5 1 (.slice a3 X c3) X (BY (l ++ [128] ++ List.replicate (z0d n) 0))∧Below w.heap.size w wx))
      case atStart=>
        refine ⟨Y,rfl,rfl,by omega,by simp,?_,T.out.2.1,T.out.2.2.1⟩
        have:(UARR .u8 8 fun j=>if 8≤j then Y / 2 ^ (8*(7 - j)) % 256 else 0)=UARR .u8 8 fun _=>0:=z0g fun j hj=>by rw [if_neg (by omega)]
        rw [this]
        exact T.out.1
      case round=>
        obtain ⟨z,rfl,rfl,A⟩:=hrel
        cases gk with
        | zero=>
          have hlt:¬ (0:Int)≤((0:Nat):Int) - 1:=by omega
          have hsl:=z51 tb
          obtain ⟨-, -,hH,hown,hbel⟩:=A.out
          have hT8:Text wr (some ⟨tb,0,none⟩) 8 (BE8 Y):=by
            have:=z7O (f:=fun j=>Y / 2 ^ (8*(7 - j)) % 256) (by simpa using hH) (fun i=>Nat.mod_lt _ (by decide))
            exact this
          have R:Aside (wr.ownsRow w.heap.size 5 1 (.slice a3 X c3) X (BY (l ++ [128] ++ List.replicate (z0d n) 0))∧Below w.heap.size w wr∧Bytes wr (some ⟨tb,0,none⟩) 8 (INTS (BE8 Y))):=⟨hown,hbel,hT8.bytes⟩
          clear A hH hown hbel hT8 T hz8
          go_wp2_with (at_builtin;refine z0D _ rfl (.tmp 39) (.tmp 40) rfl w.heap.size (.slice a3 X c3) X (INTS (l ++ [128] ++ List.replicate (z0d n) 0)) rfl R.out.1 tb 0 8 8 (INTS (BE8 Y)) rfl R.out.2.2 (by decide) (by have:=S.out.2.2.1;omega) R.out.2.1.size ?_;intro g cap w8 hown8 hgrow8 hg8)
          have V:Aside (w8.ownsRow w.heap.size 5 1 (.slice (some ⟨g,0,none⟩) (X+8) cap) (X+8) (BY (HFUL l))∧Below w.heap.size w w8∧g<w8.heap.size∧X+8=(HFUL l).length∧(HFUL l).length=64*((HFUL l).length / 64)∧X+8<2 ^ 31+8):=by
            have hlen:=H.out.2.2.2
            have hX:=S.out.2.2.2
            have hf:=z3d l
            have hj:=zbN l
            rw [hlen,HY.out.1] at hj
            refine ⟨?_,R.out.2.1.grown hgrow8 R.out.2.1.size (fun k e=>(R.out.1.lt k e).1),hg8,?_,by omega,by have:=S.out.2.2.1;omega⟩
            · rw [← hj,z2o]
              rw [z0m] at hown8
              exact hown8
            · rw [hf,hlen]
              unfold z0d at *
              omega
          clear hown8 hgrow8 hg8 R S HY hsl
          obtain ⟨LEN,hLEN⟩:∃ LEN,X+8=LEN:=⟨_,rfl⟩
          rw [hLEN] at V ⊢
          clear hLEN
          generalize hFL:HFUL l=L at *
          obtain ⟨nb,hnb⟩:∃ nb,L.length / 64=nb:=⟨_,rfl⟩
          rw [hnb] at V
          have HNB:Aside (L.length / 64=nb∧HFUL l=L∧Small8 L):=⟨hnb,hFL,by
            rw [← hFL]
            intro x hx
            rcases List.mem_append.1 hx with h | h
            · exact H.out.1.2.2 x h
            · exact z4f _ x h⟩
          clear hFL hnb
          go_loopg [7,8] nb (fun q s7 s8 wx=>∃ t:Nat,s8=.int .i64 ((64*t:Nat):Int)∧Aside (t+q=nb∧wx.ownsRow w8.heap.size 147 64 s7 t (BY (L.take (64*t)))∧Below w8.heap.size w8 wx))
          case atStart=>exact ⟨0,rfl,by omega,⟨rfl,.inl ⟨rfl,rfl⟩⟩,Below.refl _ _⟩
          case round=>
            obtain ⟨t,rfl,A⟩:=hrel
            cases gk with
            | zero=>
              obtain rfl:t=nb:=by have:=A.out.1;omega
              have hlt:¬ ((64*t:Nat):Int)<(LEN:Int):=by have:=V.out.2.2.2;omega
              go_wp2
              go_ret
              obtain ⟨v1,v2,v3,v4,v5,v6⟩:=V.out
              obtain ⟨_,hown,hbel⟩:=A.out
              rw [List.take_of_length_le (by omega)] at hown
              refine ⟨_,rfl,?_,v2.trans (hbel.mono v2.size)⟩
              rw [HNB.out.2.1,HNB.out.1]
              exact z0f hown v2.size
            | succ q=>
              have htn:t<nb:=by have:=A.out.1;omega
              obtain ⟨I,hI⟩:∃ I,64*t=I:=⟨_,rfl⟩
              have hlt:(I:Int)<(LEN:Int):=by have:=V.out.2.2.2;omega
              have eI:wrap64 ((I:Int)+64)=((64*(t+1):Nat):Int):=by have:=V.out.2.2.2;unfold wrap64;omega
              rw [hI]
              generalize hwo:wr=wo at *
              clear hwo
              go_wp2
              have T:Aside (Has (wo.alloc (.cells (UARR .u8 64 fun _=>0) 147)) wo.heap.size (UARR .u8 64 fun _=>0) 147∧(wo.alloc (.cells (UARR .u8 64 fun _=>0) 147)).ownsRow w8.heap.size 147 64 u7 t (BY (L.take (64*t)))∧Below w8.heap.size w8 (wo.alloc (.cells (UARR .u8 64 fun _=>0) 147))∧(∀ g,u7.ownBlock=some g→g≠wo.heap.size)∧w8.heap.size≤wo.heap.size):=
                ⟨Has.new _ _ _,A.out.2.1.alloc _,A.out.2.2.alloc A.out.2.2.size _,fun g hg=>by have:=(A.out.2.1.lt g hg).2;omega,A.out.2.2.size⟩
              generalize wo.alloc (.cells (UARR .u8 64 fun _=>0) 147)=w9 at *
              generalize wo.heap.size=xb at *
              have HQ:Aside (t+1+q=nb∧t<nb∧64*t=I):=⟨by have:=A.out.1;omega,htn,hI⟩
              clear A htn hI
              go_loopg [10] 64 (fun p s10 wx=>∃ j:Nat,s10=.int .i64 (j:Int)∧Aside (j+p=64∧Has wx xb (UARR .u8 64 fun i=>if i<j then BLK L t i else 0) 147∧wx.ownsRow w8.heap.size 147 64 u7 t (BY (L.take (64*t)))∧Below w8.heap.size w8 wx))
              case atStart=>exact ⟨0,rfl,by omega,by simpa using T.out.1,T.out.2.1,T.out.2.2.1⟩
              case round=>
                obtain ⟨j,rfl,A⟩:=hrel
                cases gk with
                | zero=>
                  obtain rfl:j=64:=by have:=A.out.1;omega
                  obtain ⟨-,hH,hown,hbel⟩:=A.out
                  have hH2:Has wr xb (UARR .u8 64 (BLK L t)) 147:=by
                    have e:(UARR .u8 64 fun i=>if i<64 then BLK L t i else 0)=UARR .u8 64 (BLK L t):=z0g fun i hi=>if_pos hi
                    rw [e] at hH
                    exact hH
                  have R:Aside (Has wr xb (UARR .u8 64 (BLK L t)) 147∧wr.ownsRow w8.heap.size 147 64 u7 t (BY (L.take (64*t)))∧Below w8.heap.size w8 wr):=⟨hH2,hown,hbel⟩
                  clear A hH hH2 hown hbel
                  have hi64:=z5I (BLK L t)
                  have hall:=z0e .u8 64 (BLK L t)
                  have hsz:=z01 .u8 64 (BLK L t)
                  obtain ⟨C,hC⟩:∃ C,UARR .u8 64 (BLK L t)=C:=⟨_,rfl⟩
                  rw [hC] at R hi64 hall hsz
                  have HC:Aside (UARR .u8 64 (BLK L t)=C):=hC
                  have HL64:Aside (((L.drop (64*t)).take 64).length=64∧(∀ i,i<64→(wr.alloc (.cells C 147)).cell? ⟨wr.heap.size,i,none⟩=some (.int .u8 ((((L.drop (64*t)).take 64).getD i 0:Nat):Int)))∧t<2 ^ 30):=by
                    obtain ⟨hLl,ht30⟩:=zda V.out.2.2.2 HQ.out.2.1
                    refine ⟨by rw [List.length_take,List.length_drop];clear R hi64 hall hsz HC;omega,fun i hi=>?_,ht30⟩
                    rw [(Has.new wr C 147).cell i,← hC,z07 _ _ _ _ hi]
                    unfold BLK
                    rw [if_pos hi,List.getD_eq_getElem?_getD,List.getD_eq_getElem?_getD,List.getElem?_take_of_lt hi,List.getElem?_drop]
                  clear hC T hz64
                  go_wp2_with (first | (refine wpList_load_row rfl 147 (.tmp 9) rfl xb rfl 147 C (0,0) _ R.out.1 Tryz.underlying147 rfl hi64 ?_) | (refine z17 _ rfl 87 147 (.tmp 61) rfl C rfl 64 _ _ Tryz.underlying87 z52 hsz (by simp [Value.cells,z01]) (by decide) (by decide) ?_) | (at_builtin;refine zbO _ rfl (.tmp 60) (.tmp 62) rfl w8.heap.size u7 t (BY (L.take (64*t))) rfl (R.out.2.1.alloc _) wr.heap.size 1 ((L.drop (64*t)).take 64) HL64.out.1 rfl HL64.out.2.1 HL64.out.2.2 (by have:=R.out.2.2.size;simp;omega) ?_;intro g9 cap9 w9' hown9 hgrow9))
                  have T2:Aside (t+1+q=nb∧w9'.ownsRow w8.heap.size 147 64 (.slice (some ⟨g9,0,none⟩) (t+1) cap9) (t+1) (BY (L.take (64*(t+1))))∧Below w8.heap.size w8 w9'):=by
                    refine ⟨HQ.out.1,by rw [zau];exact hown9,(R.out.2.2.alloc R.out.2.2.size _).grown hgrow9 ?_ (fun k e=>(R.out.2.1.lt k e).1)⟩
                    have:=R.out.2.2.size
                    simp
                    exact Nat.le_succ_of_le this
                  clear hown9 hgrow9 R HL64 HC hi64 hall hsz
                  go_roundg q
                  case measure=>exact Nat.lt_succ_self _
                  case rel=>exact ⟨t+1,by first | rfl | (rw [eI]),T2.out⟩
                | succ p=>
                  obtain ⟨hjp,hH,hown,hbel⟩:=A.out
                  have hj64:j<64:=by omega
                  have hjlt:(j:Int)<64:=by omega
                  have hj0:¬ (j:Int)<0:=by omega
                  have ej:wrap64 ((j:Int)+1)=((j+1:Nat):Int):=by unfold wrap64;omega
                  obtain ⟨KK,hKK⟩:∃ KK,I+j=KK:=⟨_,rfl⟩
                  have hLEN:=V.out.2.2.2
                  have hI:=HQ.out.2.2
                  have htn:=HQ.out.2.1
                  obtain ⟨hKL,eK,hK1,hK0⟩:=zbP hLEN htn hI hj64 hKK
                  have x0:=zaw V.out.1 hbel V.out.2.2.1 hLEN.1 hj64 (by rw [hI];exact hKK) hKL
                  obtain ⟨y0,f0,hH2⟩:=zax hH hj64
                  have R:Aside (j+1+p=64∧Has (wr.setCell ⟨xb,j,none⟩ (.int .u8 ((BLK L t j:Nat):Int))) xb (UARR .u8 64 fun i=>if i<j+1 then BLK L t i else 0) 147∧(wr.setCell ⟨xb,j,none⟩ (.int .u8 ((BLK L t j:Nat):Int))).ownsRow w8.heap.size 147 64 u7 t (BY (L.take (64*t)))∧Below w8.heap.size w8 (wr.setCell ⟨xb,j,none⟩ (.int .u8 ((BLK L t j:Nat):Int)))):=
                    ⟨by omega,hH2,hown.kept (z2n _ _ _ _) (.inr fun e=>T.out.2.2.2.1 xb e rfl),hbel.setCell (p:=⟨xb,j,none⟩) T.out.2.2.2.2 _⟩
                  clear hH2 hLEN hI htn
                  generalize BLK L t j=bv at *
                  clear A hjp hH hown hbel hj64 hKK hKL
                  go_wp2
                  go_roundg p
                  case measure=>omega
                  case rel=>exact ⟨j+1,by first | rfl | (rw [ej]),R.out⟩
        | succ q=>
          obtain ⟨q8,hz,hH,hown,hbel⟩:=A.out
          have e0:((q+1:Nat):Int) - 1=(q:Int):=by omega
          have e0':¬ (q:Int)<0:=by omega
          have e0'':(q:Int)<8:=by omega
          have ew:wrap64 ((q:Int) - 1)=(q:Int) - 1:=by unfold wrap64;omega
          have hz64':z<2 ^ 64:=by rw [hz];exact Nat.lt_of_le_of_lt (Nat.div_le_self _ _) (by have:=HY.out.2;omega)
          obtain ⟨b0,hb0⟩:∃ b0,z % 256=b0:=⟨_,rfl⟩
          obtain ⟨z2,hz2⟩:∃ z2,z / 256=z2:=⟨_,rfl⟩
          have em:(z:Int) % 256=(b0:Int):=by omega
          have em2:(b0:Int) % 256=(b0:Int):=by omega
          have ed:(z:Int) / 256=(z2:Int):=by omega
          have ed2:IntKind.u64.wrap (z2:Int)=(z2:Int):=by rw [z09];omega
          have em3:IntKind.u64.wrap (b0:Int)=(b0:Int):=by rw [z09];omega
          have y0:wr.cell? ⟨tb,q,none⟩=some (.int .u8 0):=by
            rw [hH.cell q,z07 _ _ _ _ (by omega),if_neg (by omega)]
            rfl
          have f0:wr.frozen? ⟨tb,q,none⟩=false:=hH.frozen q
          have R:Aside (q≤8∧z2=Y / 2 ^ (8*(8 - q))∧Has (wr.setCell ⟨tb,q,none⟩ (.int .u8 (b0:Int))) tb (UARR .u8 8 fun j=>if q≤j then Y / 2 ^ (8*(7 - j)) % 256 else 0) 148∧(wr.setCell ⟨tb,q,none⟩ (.int .u8 (b0:Int))).ownsRow w.heap.size 5 1 (.slice a3 X c3) X (BY (l ++ [128] ++ List.replicate (z0d n) 0))∧Below w.heap.size w (wr.setCell ⟨tb,q,none⟩ (.int .u8 (b0:Int)))):=by
            refine ⟨by omega,?_,?_,hown.kept (z2n _ _ _ _) (.inr fun e=>T.out.2.2.2.1 tb e rfl),hbel.setCell (p:=⟨tb,q,none⟩) T.out.2.2.2.2 _⟩
            · rw [← hz2,hz,Nat.div_div_eq_div_mul,show (256:Nat)=2 ^ 8 from rfl,← Nat.pow_add]
              congr 2
              omega
            · have h:=hH.set q (.int .u8 (b0:Int))
              rw [z1A] at h
              have e:(UARR .u8 8 fun j=>if j=q then b0 else if q+1≤j then Y / 2 ^ (8*(7 - j)) % 256 else 0)=UARR .u8 8 fun j=>if q≤j then Y / 2 ^ (8*(7 - j)) % 256 else 0:=z0g fun j hj=>by
                by_cases e:j=q
                · subst e
                  rw [if_pos rfl,if_pos (Nat.le_refl _),← hb0,hz]
                  congr 3
                  omega
                · rw [if_neg e]
                  by_cases e2:q+1≤j
                  · rw [if_pos e2,if_pos (by omega)]
                  · rw [if_neg e2,if_neg (by omega)]
              rw [e] at h
              exact h
          rw [e0]
          clear A hz hH hown hbel q8 hb0 hz2 hz64'
          go_wp2
          go_roundg q
          case measure=>omega
          case rel=>exact ⟨z2,by first | rfl,by first | rfl | (rw [ew]),R.out⟩
    | succ q=>
      have hr:X % 64≠56:=by rw [← hX];exact zav (by have:=A.out.1;omega)
      obtain ⟨r,hr2⟩:∃ r,X % 64=r:=⟨_,rfl⟩
      rw [hr2] at er hr
      have er2:(X:Int) % 64=(r:Int):=by omega
      have er3:((r:Int) != 56)=true:=by simp;omega
      have R:Aside (m+1+q=z0d n∧wr.ownsRow w.heap.size 5 1 (.slice a3 X c3) X (BY (l ++ [128] ++ List.replicate m 0))∧Below w.heap.size w wr∧X<2 ^ 31∧n+1+m=X):=⟨by have:=A.out.1;omega,by rw [← hX];exact A.out.2.1,A.out.2.2,hX40,hX⟩
      rw [hX]
      clear A hz hX hX40 hr hr2
      go_wp2_with (at_builtin;refine z0D _ rfl (.tmp 21) (.tmp 22) rfl w.heap.size (.slice a3 X c3) X (INTS (l ++ [128] ++ List.replicate m 0)) rfl (R.out.2.1.alloc _) wr.heap.size 0 1 1 [((0:Nat):Int)] rfl (HM 0 (by decide) wr) (by decide) (by have:=R.out.2.2.2.1;omega) (by have:=R.out.2.2.1.size;simp;omega) ?_;intro g5 cap5 w6 hown5 hgrow5 hg5)
      go_roundg q
      case measure=>omega
      case rel=>
        obtain ⟨r1,r2,r3,r4,r5⟩:=R.out
        refine ⟨m+1,r1,?_,(r3.alloc r3.size _).grown hgrow5 (by have:=r3.size;simp;omega) (fun k e=>(r2.lt k e).1)⟩
        rw [show n+1+(m+1)=X+1 by omega,List.replicate_succ',← List.append_assoc,z2o]
        rw [z0m] at hown5
        exact hown5
end Go.Proofs.YthdpkaiieomdoaaGreatDoor.HX
