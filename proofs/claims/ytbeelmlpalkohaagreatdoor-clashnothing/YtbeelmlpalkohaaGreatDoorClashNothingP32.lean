/- Texts of ClashNothing, one behind the other: VerifyTree, VerifyTurnsPlain, VerifyRefPlain, MmrAppendRegions. -/
import Derived.Test.YtbeelmlpalkohaaGreatDoorClashNothingP13
import Derived.Test.YtbeelmlpalkohaaGreatDoorClashNothingP15
import Derived.Test.YtbeelmlpalkohaaGreatDoorClashNothingP21
import Derived.Test.YtbeelmlpalkohaaGreatDoorClashNothingP22
import Derived.Test.YtbeelmlpalkohaaGreatDoorClashNothingP31
namespace Go.Proofs.YtbeelmlpalkohaaGreatDoor
open Go.RowKit
set_option maxRecDepth 100000
def TVAL (d:Int) (f:Nat→Nat→Nat) (h k:Nat):List Int:=LST (HX.VAL d f h k)
theorem zhc {d:Int} {f:Nat→Nat→Nat} {n h k:Nat} (hf:∀ k,k<n→∀ i,f k i<256) (hk:(k+1)*2 ^ h≤n):IsH (TVAL d f h k):=z4Q fun i=>HX.z4d hf h k hk i
theorem z91 {w:World} {B g:Nat} {d:Int} {log n h k:Nat} {C:HX.z09} {f:Nat→Nat→Nat} (hF:HX.FOREST w B g d log n C f) (hs:(k+1)*2 ^ h≤n):HX.GOTH C log (z0a n) (PLC h k)=HX.VAL d f h k∧HX.GOT C log (z0a n) (PLC h k)=0:=by
  have h1:=zad hs
  unfold HX.GOTH HX.GOT
  rw [if_pos h1,if_pos h1,hF.node h k hs]
  exact ⟨rfl,rfl⟩
def INN (ss:List (Nat × Nat)) (n:Nat):Prop:=∀ s∈ss,(s.2+1)*2 ^ s.1≤n
theorem z92 {ss:List (Nat × Nat)} {p:Nat} (h:p∈PLCS ss):∃ s∈ss,p=PLC s.1 s.2:=by
  unfold PLCS at h
  obtain ⟨s,hs,e⟩:=List.mem_map.1 h
  exact ⟨s,hs,e.symm⟩
theorem zez {w:World} {B g:Nat} {d:Int} {log n:Nat} {C:HX.z09} {f:Nat→Nat→Nat} (hF:HX.FOREST w B g d log n C f) (ss:List (Nat × Nat)) (hs:INN ss n):z2R w g (fun p=>LST (HX.GOTH C log (z0a n) p)) (HX.GOT C log (z0a n)) (PLCS ss):=fun W hb p hp=>by
  obtain ⟨s,h1,rfl⟩:=z92 hp
  have hl:=zad (hs s h1)
  have hb2:z0a n≤2*n:=by unfold z0a;omega
  have:=hF.few
  have hc:=HX.z5t (hF.store.below hb) (PLC s.1 s.2) (by omega)
  rw [z1n] at hc
  exact hc
theorem z93 {w:World} {B g:Nat} {d:Int} {log n:Nat} {C:HX.z09} {f:Nat→Nat→Nat} (hF:HX.FOREST w B g d log n C f):∀ (ss:List (Nat × Nat)),INN ss n→∀ j,j≤ss.length→TFL (fun p=>LST (HX.GOTH C log (z0a n) p)) (PLCS ss) j=CAT (TVAL d f) (ss.take j)
  | ss,hs,0,_=>by simp [TFL,CAT]
  | ss,hs,j+1,hj=>by
    obtain ⟨s,e⟩:∃ s,ss[j]?=some s:=⟨_,List.getElem?_eq_getElem (by omega)⟩
    obtain ⟨h,k⟩:=s
    rw [z8S,z93 hF ss hs j (by omega),ze9 e,zac e,(z91 hF (hs _ (List.mem_of_getElem? e))).1]
    rfl
def z94 (w:World) (d:Int) (f:Nat→Nat→Nat) (ss:List (Nat × Nat)) (X Y:Nat) (e:Ending) (w':World):Prop:=
  ∃ a c,e=.returned (.tuple #[.agg #[.int .u64 (X:Int),.int .u64 (Y:Int),.slice a ss.length c],.int .i64 0])∧w'.ownsRow w.heap.size 30 32 (.slice a ss.length c) ss.length (z00 (CAT (TVAL d f) ss))∧Below w.heap.size w w'
theorem TMADE.tree {w0 w w':World} {B g:Nat} {d:Int} {log n:Nat} {C:HX.z09} {f:Nat→Nat→Nat} (hF:HX.FOREST w0 B g d log n C f) {ss:List (Nat × Nat)} (hs:INN ss n) {X Y:Nat} {e:Ending} (h:TMADE w (fun p=>LST (HX.GOTH C log (z0a n) p)) (HX.GOT C log (z0a n)) (0,PLCS ss) X Y e w'):z94 w d f ss X Y e w':=by
  obtain ⟨hb,h⟩:=h
  have hz:∀ p∈PLCS ss,HX.GOT C log (z0a n) p=0:=fun p hp=>by
    obtain ⟨s,h1,rfl⟩:=z92 hp
    exact (z91 hF (hs s h1)).2
  rcases h with ⟨h1,_⟩ | ⟨_,_,u,rfl,hu⟩ | ⟨_,j,hj,_,h1,_⟩
  · exact absurd rfl h1
  · dsimp only at hu
    rw [z1K,z93 hF ss hs _ (Nat.le_refl _),List.take_length] at hu
    rcases hu.2 with ⟨e,h0⟩ | ⟨g,cap,cur,e,_⟩
    · subst e
      refine ⟨none,0,by rw [h0],?_,hb⟩
      rw [h0] at hu ⊢
      exact hu
    · subst e
      exact ⟨_,cap,rfl,hu,hb⟩
  · refine absurd (hz _ ?_) h1
    dsimp only at hj ⊢
    rw [List.getD_eq_getElem?_getD,List.getElem?_eq_getElem hj]
    exact List.getElem_mem _
theorem z74 {i m n:Nat} (hi:i<m) (hm:m≤n) (hn:n≤1000000):INN (PSP i m) n:=fun s hs=>by
  have h62:=(z1i hi (by omega)).2.1
  have hT:=z2m (a:=0) (b:=m) (by omega) (Nat.zero_le m)
  have hK:=(zdP hi (by omega)).1
  have hin:=(hT.within _ (List.mem_of_getElem? hK)).2.1
  dsimp only at hin
  unfold PSP at hs
  rcases List.mem_append.1 hs with h | h
  · have:=(z9p i _ s h).2
    omega
  · obtain ⟨j,_,hj⟩:=zci h
    have:=(hT.within _ (List.mem_of_getElem? hj)).2.1
    omega
theorem zaG {m k n:Nat} (hm:m≤k) (hk:k≤n) (hn:n≤1000000):INN (PXS m k) n:=fun s hs=>by
  have:=((zdO hm (by omega)).within _ hs).2.1
  omega
theorem z95 {w:World} {B g:Nat} {d:Int} {log n:Nat} {C:HX.z09} {f:Nat→Nat→Nat} (hF:HX.FOREST w B g d log n C f) (i m:Nat) (hi:i<m) (hm:m≤n) (hn:n≤1000000) (hT:Tabled w) (h0:0<w.heap.size):
    Calls Tryz.prog 6 #[.iface 24 (.pointer (some ⟨g,0,none⟩)),.int .u64 (i:Int),.int .u64 (m:Int)] w (z94 w d f (PSP i m) m i):=by
  have e:PLA i m=(0,PLCS (PSP i m)):=by unfold PLA;rw [if_neg (by omega),if_neg (by omega)]
  have hs:=z74 hi hm hn
  have:=zec m i g _ _ (fun p=>z23 (HX.GOTH C log (z0a n) p)) w (by rw [e];exact zez hF _ hs) hT h0
  rw [e] at this
  exact this.mono fun _ _ h=>TMADE.tree hF hs h
theorem z75 {w:World} {B g:Nat} {d:Int} {log n:Nat} {C:HX.z09} {f:Nat→Nat→Nat} (hF:HX.FOREST w B g d log n C f) (m k:Nat) (hm:m≤k) (hk:k≤n) (hn:n≤1000000) (hT:Tabled w) (h0:0<w.heap.size):
    Calls Tryz.prog 7 #[.iface 24 (.pointer (some ⟨g,0,none⟩)),.int .u64 (m:Int),.int .u64 (k:Int)] w (z94 w d f (PXS m k) m k):=by
  have e:PPA m k=(0,PLCS (PXS m k)):=by unfold PPA;rw [if_neg (by omega)]
  have hs:=zaG hm hk hn
  have:=z6X m k g _ _ (fun p=>z23 (HX.GOTH C log (z0a n) p)) w (by rw [e];exact zez hF _ hs) hT h0
  rw [e] at this
  exact this.mono fun _ _ h=>TMADE.tree hF hs h
end Go.Proofs.YtbeelmlpalkohaaGreatDoor

namespace Go.Proofs.YtbeelmlpalkohaaGreatDoor
open Go.RowKit
set_option maxRecDepth 100000
theorem z2r (d:Int) (f:Nat→Nat→Nat) (n:Nat) (hf:∀ k,k<n→∀ i,f k i<256) (ss:List (Nat × Nat)) (hs:INN ss n):∀ x∈CAT (TVAL d f) ss,0≤x∧x≤255:=fun x hx=>by
  obtain ⟨s,h1,h2⟩:=List.mem_flatMap.1 hx
  exact (zhc hf (hs s h1)).2 x h2
end Go.Proofs.YtbeelmlpalkohaaGreatDoor

namespace Go.Proofs.YtbeelmlpalkohaaGreatDoor
set_option maxRecDepth 100000
end Go.Proofs.YtbeelmlpalkohaaGreatDoor

namespace Go.Proofs.YtbeelmlpalkohaaGreatDoor.HX
open Go.RowKit
set_option maxRecDepth 100000
theorem z4W {ops:Array Oper} {o:Oper} {a:Act} {w:World} {K:Act→World→Prop} {Q:Exit→Act→World→Prop} {E:Prop} (hg:o.guard=none) (ty:TypeId) (x:Operand) (ho:o.op=.load ty x)
    (b k:Nat) (hx:a.eval x=.pointer (some ⟨b,k,none⟩)) (cs:List Value) (d:TypeDesc) (hc:w.rangeAt b k cs) (hu:Tryz.prog.underlying ty=some d) (hd:d.isRow=true) (hi:(Tryz.prog.info? ty).map (·.size)=some cs.length)
    (h:K (a.put o.dst (.agg cs.toArray)) w):if Region.wanted o (yielded ops a.tmps)=true then Oper.wp Tryz.prog o a w K Q else E:=by
  have hw:Region.wanted o (yielded ops a.tmps)=true:=by simp [Region.wanted,hg]
  rw [if_pos hw]
  exact wp_load_mid ty x ho b k hx cs d hc hu hd hi h
def z2n:Array Oper:=#[⟨some 28,.move (.tmp 0),24,"mmr.go:53",#[],none⟩,⟨some 29,.nilCheck (.tmp 28),0,"mmr.go:53",#[⟨0,.data⟩],none⟩,⟨some 30,.fieldAddr 63 (.tmp 29) 0,0,"mmr.go:53",#[⟨1,.data⟩],none⟩,⟨some 31,.load 30 (.tmp 3),30,"mmr.go:53",#[],none⟩,⟨some 32,.call {callee:=.value (.func 19),args:=#[.tmp 30,.tmp 31],argTypes:=#[61,30]},23,"mmr.go:53",#[⟨2,.data⟩,⟨3,.data⟩],none⟩]
set_option maxHeartbeats 2000000 in
theorem z96 {Q:Exit→Act→World→Prop} {u1 u2 u4 u5 u6 u7 u8 u9 u10 u11 u12 u13 u14 u15 u16 u17 u18 u19 u20 u21 u22 u23 u24 u25 u26 u27 u28 u29 u30 u31 u32 u33 u34 u35 u36 u37 u38 u39 u40 u41 u42 u43 u44 u45 u46 u47 u48 u49 u50 u51 u52 u53:Value} (W:World) (g b m:Nat) (x:Nat→Nat) (I J:World→Prop) (h0:I W.drew) (hI:∀ w,I w→w.rangeAt b 0 (z05 .u8 32 x)) (hJ:∀ w,J w→w.rangeAt b 0 (z05 .u8 32 x))
    (c1:∀ w,I w→Calls Tryz.prog 19 #[.pointer (some ⟨g,0,none⟩),.agg (UARR .u8 32 x)] w fun e w'=>e=.returned (.int .u64 (m:Int))∧J w') (hQ:∀ c (a:Act) (t:Tmp) (v:Value) w,Q (.panic c) (a.put (some t) v) w→Q (.panic c) a w)
    (hfin:∀ (w:World),(J w)→Q .normal {tmps:=#[.pointer (some ⟨g,0,none⟩),u1,u2,.pointer (some ⟨b,0,none⟩),u4,u5,u6,u7,u8,u9,u10,u11,u12,u13,u14,u15,u16,u17,u18,u19,u20,u21,u22,u23,u24,u25,u26,u27,.pointer (some ⟨g,0,none⟩),.pointer (some ⟨g,0,none⟩),.pointer (some ⟨g,0,none⟩),.agg (UARR .u8 32 x),.int .u64 (m:Int),u33,u34,u35,u36,u37,u38,u39,u40,u41,u42,u43,u44,u45,u46,u47,u48,u49,u50,u51,u52,u53],defers:=[]} w):(Code.region 6 z2n true).wp Tryz.prog Q {tmps:=#[.pointer (some ⟨g,0,none⟩),u1,u2,.pointer (some ⟨b,0,none⟩),u4,u5,u6,u7,u8,u9,u10,u11,u12,u13,u14,u15,u16,u17,u18,u19,u20,u21,u22,u23,u24,u25,u26,u27,u28,u29,u30,u31,u32,u33,u34,u35,u36,u37,u38,u39,u40,u41,u42,u43,u44,u45,u46,u47,u48,u49,u50,u51,u52,u53],defers:=[]} W:=by
  have kst4:∀ (w:World),(J w)→wpAnyH Tryz.prog .any z2n Q (fun w:World=>w.rangeAt b 0 (z05 .u8 32 x)) 0 #[true,true,true,true,true] {tmps:=#[.pointer (some ⟨g,0,none⟩),u1,u2,.pointer (some ⟨b,0,none⟩),u4,u5,u6,u7,u8,u9,u10,u11,u12,u13,u14,u15,u16,u17,u18,u19,u20,u21,u22,u23,u24,u25,u26,u27,.pointer (some ⟨g,0,none⟩),.pointer (some ⟨g,0,none⟩),.pointer (some ⟨g,0,none⟩),.agg (UARR .u8 32 x),.int .u64 (m:Int),u33,u34,u35,u36,u37,u38,u39,u40,u41,u42,u43,u44,u45,u46,u47,u48,u49,u50,u51,u52,u53],defers:=[]} w:=fun  w hp=>by
    exact wpAnyH_done (by kernel_rfl) (hfin  w hp) _
  have kst:∀ (w:World),(I w)→wpAnyH Tryz.prog .any z2n Q (fun w:World=>w.rangeAt b 0 (z05 .u8 32 x)) 1 #[true,true,true,true,false] {tmps:=#[.pointer (some ⟨g,0,none⟩),u1,u2,.pointer (some ⟨b,0,none⟩),u4,u5,u6,u7,u8,u9,u10,u11,u12,u13,u14,u15,u16,u17,u18,u19,u20,u21,u22,u23,u24,u25,u26,u27,.pointer (some ⟨g,0,none⟩),.pointer (some ⟨g,0,none⟩),.pointer (some ⟨g,0,none⟩),.agg (UARR .u8 32 x),u32,u33,u34,u35,u36,u37,u38,u39,u40,u41,u42,u43,u44,u45,u46,u47,u48,u49,u50,u51,u52,u53],defers:=[]} w:=fun  w hp=>by
    refine wpAnyH_ready (rs:=[4]) (by kernel_rfl) (by simp) ?_
    refine AllReadyH.cons (o:=⟨some 32,.call {callee:=.value (.func 19),args:=#[.tmp 30,.tmp 31],argTypes:=#[61,30]},23,"mmr.go:53",#[⟨2,.data⟩,⟨3,.data⟩],none⟩) rfl (fun KQ hKQ=>?_) ?_
    · rw [if_pos (by rfl)]
      go_simp
      refine (show Calls _ _ _ w (fun e w'=>e=.returned (.int .u64 (m:Int))∧(J w')) from c1 w hp).mono ?_
      rintro e w' ⟨rfl,hp⟩
      exact hKQ.out _ _ (hJ _ hp) (fun _=>kst4  w' hp)
    exact AllReadyH.nil
  have hp:=h0
  have hww:(fun w:World=>w.rangeAt b 0 (z05 .u8 32 x)) W.drew:=hI _ hp
  have last:=kst W.drew hp
  have z:wpAnyH Tryz.prog .any z2n Q (fun w:World=>w.rangeAt b 0 (z05 .u8 32 x)) 5 #[false,false,false,false,false] {tmps:=#[.pointer (some ⟨g,0,none⟩),u1,u2,.pointer (some ⟨b,0,none⟩),u4,u5,u6,u7,u8,u9,u10,u11,u12,u13,u14,u15,u16,u17,u18,u19,u20,u21,u22,u23,u24,u25,u26,u27,u28,u29,u30,u31,u32,u33,u34,u35,u36,u37,u38,u39,u40,u41,u42,u43,u44,u45,u46,u47,u48,u49,u50,u51,u52,u53],defers:=[]} W.drew:=by
    have t3:wpAnyH Tryz.prog .any z2n Q (fun w:World=>w.rangeAt b 0 (z05 .u8 32 x)) 2 #[true,true,true,false,false] {tmps:=#[.pointer (some ⟨g,0,none⟩),u1,u2,.pointer (some ⟨b,0,none⟩),u4,u5,u6,u7,u8,u9,u10,u11,u12,u13,u14,u15,u16,u17,u18,u19,u20,u21,u22,u23,u24,u25,u26,u27,.pointer (some ⟨g,0,none⟩),.pointer (some ⟨g,0,none⟩),.pointer (some ⟨g,0,none⟩),u31,u32,u33,u34,u35,u36,u37,u38,u39,u40,u41,u42,u43,u44,u45,u46,u47,u48,u49,u50,u51,u52,u53],defers:=[]} W.drew:=
      wpAnyH_take (i:=3) (oi:=⟨some 31,.load 30 (.tmp 3),30,"mmr.go:53",#[],none⟩) (v:=.agg (UARR .u8 32 x)) rfl (by kernel_rfl) (by kernel_rfl) (by kernel_rfl) (fun _ _ _ h=>hQ _ _ _ _ _ h) (yieldsIf_load_mid (by rfl) 30 (.tmp 3) rfl b 0 rfl (z05 .u8 32 x) _ (fun w h=>h) Tryz.underlying30 rfl (by rw [z0d];exact z0q)) hww last
    have t2:wpAnyH Tryz.prog .any z2n Q (fun w:World=>w.rangeAt b 0 (z05 .u8 32 x)) 3 #[true,true,false,false,false] {tmps:=#[.pointer (some ⟨g,0,none⟩),u1,u2,.pointer (some ⟨b,0,none⟩),u4,u5,u6,u7,u8,u9,u10,u11,u12,u13,u14,u15,u16,u17,u18,u19,u20,u21,u22,u23,u24,u25,u26,u27,.pointer (some ⟨g,0,none⟩),.pointer (some ⟨g,0,none⟩),u30,u31,u32,u33,u34,u35,u36,u37,u38,u39,u40,u41,u42,u43,u44,u45,u46,u47,u48,u49,u50,u51,u52,u53],defers:=[]} W.drew:=
      wpAnyH_take (i:=2) (oi:=⟨some 30,.fieldAddr 63 (.tmp 29) 0,0,"mmr.go:53",#[⟨1,.data⟩],none⟩) (v:=.pointer (some ⟨g,0,none⟩)) rfl (by kernel_rfl) (by kernel_rfl) (by kernel_rfl) (fun _ _ _ h=>hQ _ _ _ _ _ h) (Yields.yieldsIf (Or.inl ⟨by rfl,fun W=>by go_simp⟩)) hww t3
    have t1:wpAnyH Tryz.prog .any z2n Q (fun w:World=>w.rangeAt b 0 (z05 .u8 32 x)) 4 #[true,false,false,false,false] {tmps:=#[.pointer (some ⟨g,0,none⟩),u1,u2,.pointer (some ⟨b,0,none⟩),u4,u5,u6,u7,u8,u9,u10,u11,u12,u13,u14,u15,u16,u17,u18,u19,u20,u21,u22,u23,u24,u25,u26,u27,.pointer (some ⟨g,0,none⟩),u29,u30,u31,u32,u33,u34,u35,u36,u37,u38,u39,u40,u41,u42,u43,u44,u45,u46,u47,u48,u49,u50,u51,u52,u53],defers:=[]} W.drew:=
      wpAnyH_take (i:=1) (oi:=⟨some 29,.nilCheck (.tmp 28),0,"mmr.go:53",#[⟨0,.data⟩],none⟩) (v:=.pointer (some ⟨g,0,none⟩)) rfl (by kernel_rfl) (by kernel_rfl) (by kernel_rfl) (fun _ _ _ h=>hQ _ _ _ _ _ h) (Yields.yieldsIf (Or.inl ⟨by rfl,fun W=>by go_simp⟩)) hww t2
    have t0:wpAnyH Tryz.prog .any z2n Q (fun w:World=>w.rangeAt b 0 (z05 .u8 32 x)) 5 #[false,false,false,false,false] {tmps:=#[.pointer (some ⟨g,0,none⟩),u1,u2,.pointer (some ⟨b,0,none⟩),u4,u5,u6,u7,u8,u9,u10,u11,u12,u13,u14,u15,u16,u17,u18,u19,u20,u21,u22,u23,u24,u25,u26,u27,u28,u29,u30,u31,u32,u33,u34,u35,u36,u37,u38,u39,u40,u41,u42,u43,u44,u45,u46,u47,u48,u49,u50,u51,u52,u53],defers:=[]} W.drew:=
      wpAnyH_take (i:=0) (oi:=⟨some 28,.move (.tmp 0),24,"mmr.go:53",#[],none⟩) (v:=.pointer (some ⟨g,0,none⟩)) rfl (by kernel_rfl) (by kernel_rfl) (by kernel_rfl) (fun _ _ _ h=>hQ _ _ _ _ _ h) (Yields.yieldsIf (Or.inl ⟨by rfl,fun W=>by go_simp⟩)) hww t1
    exact t0
  exact wp_region_held_drew (S:=(fun w:World=>w.rangeAt b 0 (z05 .u8 32 x))) (by kernel_rfl) hww (fun _=>z)
def z1Z:Array Oper:=#[⟨some 47,.move (.tmp 0),24,"mmr.go:56",#[],none⟩,⟨some 48,.nilCheck (.tmp 47),0,"mmr.go:56",#[⟨0,.data⟩],none⟩,⟨some 49,.fieldAddr 63 (.tmp 48) 0,0,"mmr.go:56",#[⟨1,.data⟩],none⟩,⟨some 50,.load 30 (.tmp 8),30,"mmr.go:56",#[],none⟩,⟨some 51,.call {callee:=.value (.func 19),args:=#[.tmp 49,.tmp 50],argTypes:=#[61,30]},23,"mmr.go:56",#[⟨2,.data⟩,⟨3,.data⟩],none⟩]
set_option maxHeartbeats 2000000 in
theorem z9P {Q:Exit→Act→World→Prop} {u1 u2 u3 u4 u5 u6 u7 u9 u10 u11 u12 u13 u14 u15 u16 u17 u18 u19 u20 u21 u22 u23 u24 u25 u26 u27 u28 u29 u30 u31 u32 u33 u34 u35 u36 u37 u38 u39 u40 u41 u42 u43 u44 u45 u46 u47 u48 u49 u50 u51 u52 u53:Value} (W:World) (g b m:Nat) (x:Nat→Nat) (I J:World→Prop) (h0:I W.drew) (hI:∀ w,I w→w.rangeAt b 0 (z05 .u8 32 x)) (hJ:∀ w,J w→w.rangeAt b 0 (z05 .u8 32 x))
    (c1:∀ w,I w→Calls Tryz.prog 19 #[.pointer (some ⟨g,0,none⟩),.agg (UARR .u8 32 x)] w fun e w'=>e=.returned (.int .u64 (m:Int))∧J w') (hQ:∀ c (a:Act) (t:Tmp) (v:Value) w,Q (.panic c) (a.put (some t) v) w→Q (.panic c) a w)
    (hfin:∀ (w:World),(J w)→Q .normal {tmps:=#[.pointer (some ⟨g,0,none⟩),u1,u2,u3,u4,u5,u6,u7,.pointer (some ⟨b,0,none⟩),u9,u10,u11,u12,u13,u14,u15,u16,u17,u18,u19,u20,u21,u22,u23,u24,u25,u26,u27,u28,u29,u30,u31,u32,u33,u34,u35,u36,u37,u38,u39,u40,u41,u42,u43,u44,u45,u46,.pointer (some ⟨g,0,none⟩),.pointer (some ⟨g,0,none⟩),.pointer (some ⟨g,0,none⟩),.agg (UARR .u8 32 x),.int .u64 (m:Int),u52,u53],defers:=[]} w):(Code.region 11 z1Z true).wp Tryz.prog Q {tmps:=#[.pointer (some ⟨g,0,none⟩),u1,u2,u3,u4,u5,u6,u7,.pointer (some ⟨b,0,none⟩),u9,u10,u11,u12,u13,u14,u15,u16,u17,u18,u19,u20,u21,u22,u23,u24,u25,u26,u27,u28,u29,u30,u31,u32,u33,u34,u35,u36,u37,u38,u39,u40,u41,u42,u43,u44,u45,u46,u47,u48,u49,u50,u51,u52,u53],defers:=[]} W:=by
  have kst4:∀ (w:World),(J w)→wpAnyH Tryz.prog .any z1Z Q (fun w:World=>w.rangeAt b 0 (z05 .u8 32 x)) 0 #[true,true,true,true,true] {tmps:=#[.pointer (some ⟨g,0,none⟩),u1,u2,u3,u4,u5,u6,u7,.pointer (some ⟨b,0,none⟩),u9,u10,u11,u12,u13,u14,u15,u16,u17,u18,u19,u20,u21,u22,u23,u24,u25,u26,u27,u28,u29,u30,u31,u32,u33,u34,u35,u36,u37,u38,u39,u40,u41,u42,u43,u44,u45,u46,.pointer (some ⟨g,0,none⟩),.pointer (some ⟨g,0,none⟩),.pointer (some ⟨g,0,none⟩),.agg (UARR .u8 32 x),.int .u64 (m:Int),u52,u53],defers:=[]} w:=fun  w hp=>by
    exact wpAnyH_done (by kernel_rfl) (hfin  w hp) _
  have kst:∀ (w:World),(I w)→wpAnyH Tryz.prog .any z1Z Q (fun w:World=>w.rangeAt b 0 (z05 .u8 32 x)) 1 #[true,true,true,true,false] {tmps:=#[.pointer (some ⟨g,0,none⟩),u1,u2,u3,u4,u5,u6,u7,.pointer (some ⟨b,0,none⟩),u9,u10,u11,u12,u13,u14,u15,u16,u17,u18,u19,u20,u21,u22,u23,u24,u25,u26,u27,u28,u29,u30,u31,u32,u33,u34,u35,u36,u37,u38,u39,u40,u41,u42,u43,u44,u45,u46,.pointer (some ⟨g,0,none⟩),.pointer (some ⟨g,0,none⟩),.pointer (some ⟨g,0,none⟩),.agg (UARR .u8 32 x),u51,u52,u53],defers:=[]} w:=fun  w hp=>by
    refine wpAnyH_ready (rs:=[4]) (by kernel_rfl) (by simp) ?_
    refine AllReadyH.cons (o:=⟨some 51,.call {callee:=.value (.func 19),args:=#[.tmp 49,.tmp 50],argTypes:=#[61,30]},23,"mmr.go:56",#[⟨2,.data⟩,⟨3,.data⟩],none⟩) rfl (fun KQ hKQ=>?_) ?_
    · rw [if_pos (by rfl)]
      go_simp
      refine (show Calls _ _ _ w (fun e w'=>e=.returned (.int .u64 (m:Int))∧(J w')) from c1 w hp).mono ?_
      rintro e w' ⟨rfl,hp⟩
      exact hKQ.out _ _ (hJ _ hp) (fun _=>kst4  w' hp)
    exact AllReadyH.nil
  have hp:=h0
  have hww:(fun w:World=>w.rangeAt b 0 (z05 .u8 32 x)) W.drew:=hI _ hp
  have last:=kst W.drew hp
  have z:wpAnyH Tryz.prog .any z1Z Q (fun w:World=>w.rangeAt b 0 (z05 .u8 32 x)) 5 #[false,false,false,false,false] {tmps:=#[.pointer (some ⟨g,0,none⟩),u1,u2,u3,u4,u5,u6,u7,.pointer (some ⟨b,0,none⟩),u9,u10,u11,u12,u13,u14,u15,u16,u17,u18,u19,u20,u21,u22,u23,u24,u25,u26,u27,u28,u29,u30,u31,u32,u33,u34,u35,u36,u37,u38,u39,u40,u41,u42,u43,u44,u45,u46,u47,u48,u49,u50,u51,u52,u53],defers:=[]} W.drew:=by
    have t3:wpAnyH Tryz.prog .any z1Z Q (fun w:World=>w.rangeAt b 0 (z05 .u8 32 x)) 2 #[true,true,true,false,false] {tmps:=#[.pointer (some ⟨g,0,none⟩),u1,u2,u3,u4,u5,u6,u7,.pointer (some ⟨b,0,none⟩),u9,u10,u11,u12,u13,u14,u15,u16,u17,u18,u19,u20,u21,u22,u23,u24,u25,u26,u27,u28,u29,u30,u31,u32,u33,u34,u35,u36,u37,u38,u39,u40,u41,u42,u43,u44,u45,u46,.pointer (some ⟨g,0,none⟩),.pointer (some ⟨g,0,none⟩),.pointer (some ⟨g,0,none⟩),u50,u51,u52,u53],defers:=[]} W.drew:=
      wpAnyH_take (i:=3) (oi:=⟨some 50,.load 30 (.tmp 8),30,"mmr.go:56",#[],none⟩) (v:=.agg (UARR .u8 32 x)) rfl (by kernel_rfl) (by kernel_rfl) (by kernel_rfl) (fun _ _ _ h=>hQ _ _ _ _ _ h) (yieldsIf_load_mid (by rfl) 30 (.tmp 8) rfl b 0 rfl (z05 .u8 32 x) _ (fun w h=>h) Tryz.underlying30 rfl (by rw [z0d];exact z0q)) hww last
    have t2:wpAnyH Tryz.prog .any z1Z Q (fun w:World=>w.rangeAt b 0 (z05 .u8 32 x)) 3 #[true,true,false,false,false] {tmps:=#[.pointer (some ⟨g,0,none⟩),u1,u2,u3,u4,u5,u6,u7,.pointer (some ⟨b,0,none⟩),u9,u10,u11,u12,u13,u14,u15,u16,u17,u18,u19,u20,u21,u22,u23,u24,u25,u26,u27,u28,u29,u30,u31,u32,u33,u34,u35,u36,u37,u38,u39,u40,u41,u42,u43,u44,u45,u46,.pointer (some ⟨g,0,none⟩),.pointer (some ⟨g,0,none⟩),u49,u50,u51,u52,u53],defers:=[]} W.drew:=
      wpAnyH_take (i:=2) (oi:=⟨some 49,.fieldAddr 63 (.tmp 48) 0,0,"mmr.go:56",#[⟨1,.data⟩],none⟩) (v:=.pointer (some ⟨g,0,none⟩)) rfl (by kernel_rfl) (by kernel_rfl) (by kernel_rfl) (fun _ _ _ h=>hQ _ _ _ _ _ h) (Yields.yieldsIf (Or.inl ⟨by rfl,fun W=>by go_simp⟩)) hww t3
    have t1:wpAnyH Tryz.prog .any z1Z Q (fun w:World=>w.rangeAt b 0 (z05 .u8 32 x)) 4 #[true,false,false,false,false] {tmps:=#[.pointer (some ⟨g,0,none⟩),u1,u2,u3,u4,u5,u6,u7,.pointer (some ⟨b,0,none⟩),u9,u10,u11,u12,u13,u14,u15,u16,u17,u18,u19,u20,u21,u22,u23,u24,u25,u26,u27,u28,u29,u30,u31,u32,u33,u34,u35,u36,u37,u38,u39,u40,u41,u42,u43,u44,u45,u46,.pointer (some ⟨g,0,none⟩),u48,u49,u50,u51,u52,u53],defers:=[]} W.drew:=
      wpAnyH_take (i:=1) (oi:=⟨some 48,.nilCheck (.tmp 47),0,"mmr.go:56",#[⟨0,.data⟩],none⟩) (v:=.pointer (some ⟨g,0,none⟩)) rfl (by kernel_rfl) (by kernel_rfl) (by kernel_rfl) (fun _ _ _ h=>hQ _ _ _ _ _ h) (Yields.yieldsIf (Or.inl ⟨by rfl,fun W=>by go_simp⟩)) hww t2
    have t0:wpAnyH Tryz.prog .any z1Z Q (fun w:World=>w.rangeAt b 0 (z05 .u8 32 x)) 5 #[false,false,false,false,false] {tmps:=#[.pointer (some ⟨g,0,none⟩),u1,u2,u3,u4,u5,u6,u7,.pointer (some ⟨b,0,none⟩),u9,u10,u11,u12,u13,u14,u15,u16,u17,u18,u19,u20,u21,u22,u23,u24,u25,u26,u27,u28,u29,u30,u31,u32,u33,u34,u35,u36,u37,u38,u39,u40,u41,u42,u43,u44,u45,u46,u47,u48,u49,u50,u51,u52,u53],defers:=[]} W.drew:=
      wpAnyH_take (i:=0) (oi:=⟨some 47,.move (.tmp 0),24,"mmr.go:56",#[],none⟩) (v:=.pointer (some ⟨g,0,none⟩)) rfl (by kernel_rfl) (by kernel_rfl) (by kernel_rfl) (fun _ _ _ h=>hQ _ _ _ _ _ h) (Yields.yieldsIf (Or.inl ⟨by rfl,fun W=>by go_simp⟩)) hww t1
    exact t0
  exact wp_region_held_drew (S:=(fun w:World=>w.rangeAt b 0 (z05 .u8 32 x))) (by kernel_rfl) hww (fun _=>z)
def z0V:Array Oper:=#[⟨some 38,.move (.tmp 0),24,"mmr.go:55",#[],none⟩,⟨some 39,.nilCheck (.tmp 38),0,"mmr.go:55",#[⟨0,.data⟩],none⟩,⟨some 40,.fieldAddr 63 (.tmp 39) 1,0,"mmr.go:55",#[⟨1,.data⟩],none⟩,⟨some 41,.load 3 (.tmp 40),3,"mmr.go:55",#[⟨2,.data⟩],none⟩,⟨some 42,.move (.tmp 0),24,"mmr.go:55",#[],none⟩,⟨some 43,.move (.tmp 6),23,"mmr.go:55",#[],none⟩,⟨some 44,.call {callee:=.value (.func 22),args:=#[.tmp 42,.tmp 43],argTypes:=#[24,23]},30,"mmr.go:55",#[⟨4,.data⟩,⟨5,.data⟩],none⟩,⟨some 45,.load 30 (.tmp 8),30,"mmr.go:55",#[],none⟩,⟨some 46,.call {callee:=.value (.func 21),args:=#[.tmp 41,.tmp 44,.tmp 45],argTypes:=#[3,30,30]},30,"mmr.go:55",#[⟨3,.data⟩,⟨6,.data⟩,⟨7,.data⟩,⟨6,.chain⟩],none⟩,⟨none,.store 30 (.tmp 8) (.tmp 46),0,"mmr.go:55",#[⟨8,.data⟩,⟨8,.chain⟩,⟨0,.phase⟩,⟨1,.phase⟩,⟨2,.phase⟩,⟨3,.phase⟩,⟨4,.phase⟩,⟨5,.phase⟩,⟨6,.phase⟩,⟨7,.phase⟩,⟨8,.phase⟩],none⟩]
set_option maxHeartbeats 2000000 in
theorem z9Q {Q:Exit→Act→World→Prop} {u1 u2 u3 u4 u5 u7 u9 u10 u11 u12 u13 u14 u15 u16 u17 u18 u19 u20 u21 u22 u23 u24 u25 u26 u27 u28 u29 u30 u31 u32 u33 u34 u35 u36 u37 u38 u39 u40 u41 u42 u43 u44 u45 u46 u47 u48 u49 u50 u51 u52 u53:Value} (W:World) (g b p:Nat) (d:Int) (l x y:Nat→Nat) (I:World→Prop) (h0:I W.drew) (hI:∀ w,I w→w.cell? ⟨g,5,none⟩=some (.int .i64 d)∧w.rangeAt b 0 (z05 .u8 32 x)∧Has w b (UARR .u8 32 x) 30) (hK5:∀ w,I w→(w.setRow b (UARR .u8 32 y)).cell? ⟨g,5,none⟩=some (.int .i64 d))
    (c1:∀ w,I w→Calls Tryz.prog 22 #[.pointer (some ⟨g,0,none⟩),.int .u64 (p:Int)] w fun e w'=>e=.returned (.agg (UARR .u8 32 l))∧I w') (c2:∀ w,I w→Calls Tryz.prog 21 #[.int .i64 d,.agg (UARR .u8 32 l),.agg (UARR .u8 32 x)] w fun e w'=>e=.returned (.agg (UARR .u8 32 y))∧I w') (hQ:∀ c (a:Act) (t:Tmp) (v:Value) w,Q (.panic c) (a.put (some t) v) w→Q (.panic c) a w)
    (hfin:∀ (w:World),(∃ w0:World,I w0∧w=w0.setRow b (UARR .u8 32 y))→Q .normal {tmps:=#[.pointer (some ⟨g,0,none⟩),u1,u2,u3,u4,u5,.int .u64 (p:Int),u7,.pointer (some ⟨b,0,none⟩),u9,u10,u11,u12,u13,u14,u15,u16,u17,u18,u19,u20,u21,u22,u23,u24,u25,u26,u27,u28,u29,u30,u31,u32,u33,u34,u35,u36,u37,.pointer (some ⟨g,0,none⟩),.pointer (some ⟨g,0,none⟩),.pointer (some ⟨g,5,none⟩),.int .i64 d,.pointer (some ⟨g,0,none⟩),.int .u64 (p:Int),.agg (UARR .u8 32 l),.agg (UARR .u8 32 x),.agg (UARR .u8 32 y),u47,u48,u49,u50,u51,u52,u53],defers:=[]} w):(Code.region 10 z0V true).wp Tryz.prog Q {tmps:=#[.pointer (some ⟨g,0,none⟩),u1,u2,u3,u4,u5,.int .u64 (p:Int),u7,.pointer (some ⟨b,0,none⟩),u9,u10,u11,u12,u13,u14,u15,u16,u17,u18,u19,u20,u21,u22,u23,u24,u25,u26,u27,u28,u29,u30,u31,u32,u33,u34,u35,u36,u37,u38,u39,u40,u41,u42,u43,u44,u45,u46,u47,u48,u49,u50,u51,u52,u53],defers:=[]} W:=by
  have kst6_7_8_9:∀ (w:World),(∃ w0:World,I w0∧w=w0.setRow b (UARR .u8 32 y))→wpAnyH Tryz.prog .any z0V Q (fun w:World=>w.cell? ⟨g,5,none⟩=some (.int .i64 d)) 0 #[true,true,true,true,true,true,true,true,true,true] {tmps:=#[.pointer (some ⟨g,0,none⟩),u1,u2,u3,u4,u5,.int .u64 (p:Int),u7,.pointer (some ⟨b,0,none⟩),u9,u10,u11,u12,u13,u14,u15,u16,u17,u18,u19,u20,u21,u22,u23,u24,u25,u26,u27,u28,u29,u30,u31,u32,u33,u34,u35,u36,u37,.pointer (some ⟨g,0,none⟩),.pointer (some ⟨g,0,none⟩),.pointer (some ⟨g,5,none⟩),.int .i64 d,.pointer (some ⟨g,0,none⟩),.int .u64 (p:Int),.agg (UARR .u8 32 l),.agg (UARR .u8 32 x),.agg (UARR .u8 32 y),u47,u48,u49,u50,u51,u52,u53],defers:=[]} w:=fun  w hp=>by
    exact wpAnyH_done (by kernel_rfl) (hfin  w hp) _
  have kst6_7_8:∀ (w:World),(I w)→wpAnyH Tryz.prog .any z0V Q (fun w:World=>w.cell? ⟨g,5,none⟩=some (.int .i64 d)) 1 #[true,true,true,true,true,true,true,true,true,false] {tmps:=#[.pointer (some ⟨g,0,none⟩),u1,u2,u3,u4,u5,.int .u64 (p:Int),u7,.pointer (some ⟨b,0,none⟩),u9,u10,u11,u12,u13,u14,u15,u16,u17,u18,u19,u20,u21,u22,u23,u24,u25,u26,u27,u28,u29,u30,u31,u32,u33,u34,u35,u36,u37,.pointer (some ⟨g,0,none⟩),.pointer (some ⟨g,0,none⟩),.pointer (some ⟨g,5,none⟩),.int .i64 d,.pointer (some ⟨g,0,none⟩),.int .u64 (p:Int),.agg (UARR .u8 32 l),.agg (UARR .u8 32 x),.agg (UARR .u8 32 y),u47,u48,u49,u50,u51,u52,u53],defers:=[]} w:=fun  w hp=>by
    refine wpAnyH_ready (rs:=[9]) (by kernel_rfl) (by simp) ?_
    refine AllReadyH.cons (o:=⟨none,.store 30 (.tmp 8) (.tmp 46),0,"mmr.go:55",#[⟨8,.data⟩,⟨8,.chain⟩,⟨0,.phase⟩,⟨1,.phase⟩,⟨2,.phase⟩,⟨3,.phase⟩,⟨4,.phase⟩,⟨5,.phase⟩,⟨6,.phase⟩,⟨7,.phase⟩,⟨8,.phase⟩],none⟩) rfl (fun KQ hKQ=>?_) ?_
    · exact z0P rfl (z1m (z4w (hI _ hp).2.2 y)) (have hp:(fun (w:World)=>(∃ w0:World,I w0∧w=w0.setRow b (UARR .u8 32 y)))  _:=⟨w,hp,rfl⟩;hKQ.out _ _ ((by obtain ⟨w0,h1,h2⟩:=hp; (first | rw [h2] | skip);exact hK5 _ h1)) (fun _=>kst6_7_8_9  _ hp))
    exact AllReadyH.nil
  have kst6_7:∀ (w:World),(I w)→wpAnyH Tryz.prog .any z0V Q (fun w:World=>w.cell? ⟨g,5,none⟩=some (.int .i64 d)) 2 #[true,true,true,true,true,true,true,true,false,false] {tmps:=#[.pointer (some ⟨g,0,none⟩),u1,u2,u3,u4,u5,.int .u64 (p:Int),u7,.pointer (some ⟨b,0,none⟩),u9,u10,u11,u12,u13,u14,u15,u16,u17,u18,u19,u20,u21,u22,u23,u24,u25,u26,u27,u28,u29,u30,u31,u32,u33,u34,u35,u36,u37,.pointer (some ⟨g,0,none⟩),.pointer (some ⟨g,0,none⟩),.pointer (some ⟨g,5,none⟩),.int .i64 d,.pointer (some ⟨g,0,none⟩),.int .u64 (p:Int),.agg (UARR .u8 32 l),.agg (UARR .u8 32 x),u46,u47,u48,u49,u50,u51,u52,u53],defers:=[]} w:=fun  w hp=>by
    refine wpAnyH_ready (rs:=[8]) (by kernel_rfl) (by simp) ?_
    refine AllReadyH.cons (o:=⟨some 46,.call {callee:=.value (.func 21),args:=#[.tmp 41,.tmp 44,.tmp 45],argTypes:=#[3,30,30]},30,"mmr.go:55",#[⟨3,.data⟩,⟨6,.data⟩,⟨7,.data⟩,⟨6,.chain⟩],none⟩) rfl (fun KQ hKQ=>?_) ?_
    · rw [if_pos (by rfl)]
      go_simp
      refine (show Calls _ _ _ w (fun e w'=>e=.returned (.agg (UARR .u8 32 y))∧(I w')) from c2 w hp).mono ?_
      rintro e w' ⟨rfl,hp⟩
      exact hKQ.out _ _ ((hI _ hp).1) (fun _=>kst6_7_8  w' hp)
    exact AllReadyH.nil
  have kst6:∀ (w:World),(I w)→wpAnyH Tryz.prog .any z0V Q (fun w:World=>w.cell? ⟨g,5,none⟩=some (.int .i64 d)) 3 #[true,true,true,true,true,true,true,false,false,false] {tmps:=#[.pointer (some ⟨g,0,none⟩),u1,u2,u3,u4,u5,.int .u64 (p:Int),u7,.pointer (some ⟨b,0,none⟩),u9,u10,u11,u12,u13,u14,u15,u16,u17,u18,u19,u20,u21,u22,u23,u24,u25,u26,u27,u28,u29,u30,u31,u32,u33,u34,u35,u36,u37,.pointer (some ⟨g,0,none⟩),.pointer (some ⟨g,0,none⟩),.pointer (some ⟨g,5,none⟩),.int .i64 d,.pointer (some ⟨g,0,none⟩),.int .u64 (p:Int),.agg (UARR .u8 32 l),u45,u46,u47,u48,u49,u50,u51,u52,u53],defers:=[]} w:=fun  w hp=>by
    refine wpAnyH_ready (rs:=[7]) (by kernel_rfl) (by simp) ?_
    refine AllReadyH.cons (o:=⟨some 45,.load 30 (.tmp 8),30,"mmr.go:55",#[],none⟩) rfl (fun KQ hKQ=>?_) ?_
    · exact z4W rfl 30 (.tmp 8) rfl b 0 rfl (z05 .u8 32 x) _ (hI _ hp).2.1 Tryz.underlying30 rfl (by rw [z0d];exact z0q) (have hp:(fun (w:World)=>(I w))  w:=hp;hKQ.out _ _ ((hI _ hp).1) (fun _=>kst6_7  _ hp))
    exact AllReadyH.nil
  have kst7:∀ (w:World),(I w)→wpAnyH Tryz.prog .any z0V Q (fun w:World=>w.cell? ⟨g,5,none⟩=some (.int .i64 d)) 3 #[true,true,true,true,true,true,false,true,false,false] {tmps:=#[.pointer (some ⟨g,0,none⟩),u1,u2,u3,u4,u5,.int .u64 (p:Int),u7,.pointer (some ⟨b,0,none⟩),u9,u10,u11,u12,u13,u14,u15,u16,u17,u18,u19,u20,u21,u22,u23,u24,u25,u26,u27,u28,u29,u30,u31,u32,u33,u34,u35,u36,u37,.pointer (some ⟨g,0,none⟩),.pointer (some ⟨g,0,none⟩),.pointer (some ⟨g,5,none⟩),.int .i64 d,.pointer (some ⟨g,0,none⟩),.int .u64 (p:Int),u44,.agg (UARR .u8 32 x),u46,u47,u48,u49,u50,u51,u52,u53],defers:=[]} w:=fun  w hp=>by
    refine wpAnyH_ready (rs:=[6]) (by kernel_rfl) (by simp) ?_
    refine AllReadyH.cons (o:=⟨some 44,.call {callee:=.value (.func 22),args:=#[.tmp 42,.tmp 43],argTypes:=#[24,23]},30,"mmr.go:55",#[⟨4,.data⟩,⟨5,.data⟩],none⟩) rfl (fun KQ hKQ=>?_) ?_
    · rw [if_pos (by rfl)]
      go_simp
      refine (show Calls _ _ _ w (fun e w'=>e=.returned (.agg (UARR .u8 32 l))∧(I w')) from c1 w hp).mono ?_
      rintro e w' ⟨rfl,hp⟩
      exact hKQ.out _ _ ((hI _ hp).1) (fun _=>kst6_7  w' hp)
    exact AllReadyH.nil
  have kst:∀ (w:World),(I w)→wpAnyH Tryz.prog .any z0V Q (fun w:World=>w.cell? ⟨g,5,none⟩=some (.int .i64 d)) 4 #[true,true,true,true,true,true,false,false,false,false] {tmps:=#[.pointer (some ⟨g,0,none⟩),u1,u2,u3,u4,u5,.int .u64 (p:Int),u7,.pointer (some ⟨b,0,none⟩),u9,u10,u11,u12,u13,u14,u15,u16,u17,u18,u19,u20,u21,u22,u23,u24,u25,u26,u27,u28,u29,u30,u31,u32,u33,u34,u35,u36,u37,.pointer (some ⟨g,0,none⟩),.pointer (some ⟨g,0,none⟩),.pointer (some ⟨g,5,none⟩),.int .i64 d,.pointer (some ⟨g,0,none⟩),.int .u64 (p:Int),u44,u45,u46,u47,u48,u49,u50,u51,u52,u53],defers:=[]} w:=fun  w hp=>by
    refine wpAnyH_ready (rs:=[6,7]) (by kernel_rfl) (by simp) ?_
    refine AllReadyH.cons (o:=⟨some 44,.call {callee:=.value (.func 22),args:=#[.tmp 42,.tmp 43],argTypes:=#[24,23]},30,"mmr.go:55",#[⟨4,.data⟩,⟨5,.data⟩],none⟩) rfl (fun KQ hKQ=>?_) ?_
    · rw [if_pos (by rfl)]
      go_simp
      refine (show Calls _ _ _ w (fun e w'=>e=.returned (.agg (UARR .u8 32 l))∧(I w')) from c1 w hp).mono ?_
      rintro e w' ⟨rfl,hp⟩
      exact hKQ.out _ _ ((hI _ hp).1) (fun _=>kst6  w' hp)
    refine AllReadyH.cons (o:=⟨some 45,.load 30 (.tmp 8),30,"mmr.go:55",#[],none⟩) rfl (fun KQ hKQ=>?_) ?_
    · exact z4W rfl 30 (.tmp 8) rfl b 0 rfl (z05 .u8 32 x) _ (hI _ hp).2.1 Tryz.underlying30 rfl (by rw [z0d];exact z0q) (have hp:(fun (w:World)=>(I w))  w:=hp;hKQ.out _ _ ((hI _ hp).1) (fun _=>kst7  _ hp))
    exact AllReadyH.nil
  have hp:=h0
  have hww:(fun w:World=>w.cell? ⟨g,5,none⟩=some (.int .i64 d)) W.drew:=(hI _ hp).1
  have last:=kst W.drew hp
  have z:wpAnyH Tryz.prog .any z0V Q (fun w:World=>w.cell? ⟨g,5,none⟩=some (.int .i64 d)) 10 #[false,false,false,false,false,false,false,false,false,false] {tmps:=#[.pointer (some ⟨g,0,none⟩),u1,u2,u3,u4,u5,.int .u64 (p:Int),u7,.pointer (some ⟨b,0,none⟩),u9,u10,u11,u12,u13,u14,u15,u16,u17,u18,u19,u20,u21,u22,u23,u24,u25,u26,u27,u28,u29,u30,u31,u32,u33,u34,u35,u36,u37,u38,u39,u40,u41,u42,u43,u44,u45,u46,u47,u48,u49,u50,u51,u52,u53],defers:=[]} W.drew:=by
    have t5:wpAnyH Tryz.prog .any z0V Q (fun w:World=>w.cell? ⟨g,5,none⟩=some (.int .i64 d)) 5 #[true,true,true,true,true,false,false,false,false,false] {tmps:=#[.pointer (some ⟨g,0,none⟩),u1,u2,u3,u4,u5,.int .u64 (p:Int),u7,.pointer (some ⟨b,0,none⟩),u9,u10,u11,u12,u13,u14,u15,u16,u17,u18,u19,u20,u21,u22,u23,u24,u25,u26,u27,u28,u29,u30,u31,u32,u33,u34,u35,u36,u37,.pointer (some ⟨g,0,none⟩),.pointer (some ⟨g,0,none⟩),.pointer (some ⟨g,5,none⟩),.int .i64 d,.pointer (some ⟨g,0,none⟩),u43,u44,u45,u46,u47,u48,u49,u50,u51,u52,u53],defers:=[]} W.drew:=
      wpAnyH_take (i:=5) (oi:=⟨some 43,.move (.tmp 6),23,"mmr.go:55",#[],none⟩) (v:=.int .u64 (p:Int)) rfl (by kernel_rfl) (by kernel_rfl) (by kernel_rfl) (fun _ _ _ h=>hQ _ _ _ _ _ h) (Yields.yieldsIf (Or.inl ⟨by rfl,fun W=>by go_simp⟩)) hww last
    have t4:wpAnyH Tryz.prog .any z0V Q (fun w:World=>w.cell? ⟨g,5,none⟩=some (.int .i64 d)) 6 #[true,true,true,true,false,false,false,false,false,false] {tmps:=#[.pointer (some ⟨g,0,none⟩),u1,u2,u3,u4,u5,.int .u64 (p:Int),u7,.pointer (some ⟨b,0,none⟩),u9,u10,u11,u12,u13,u14,u15,u16,u17,u18,u19,u20,u21,u22,u23,u24,u25,u26,u27,u28,u29,u30,u31,u32,u33,u34,u35,u36,u37,.pointer (some ⟨g,0,none⟩),.pointer (some ⟨g,0,none⟩),.pointer (some ⟨g,5,none⟩),.int .i64 d,u42,u43,u44,u45,u46,u47,u48,u49,u50,u51,u52,u53],defers:=[]} W.drew:=
      wpAnyH_take (i:=4) (oi:=⟨some 42,.move (.tmp 0),24,"mmr.go:55",#[],none⟩) (v:=.pointer (some ⟨g,0,none⟩)) rfl (by kernel_rfl) (by kernel_rfl) (by kernel_rfl) (fun _ _ _ h=>hQ _ _ _ _ _ h) (Yields.yieldsIf (Or.inl ⟨by rfl,fun W=>by go_simp⟩)) hww t5
    have t3:wpAnyH Tryz.prog .any z0V Q (fun w:World=>w.cell? ⟨g,5,none⟩=some (.int .i64 d)) 7 #[true,true,true,false,false,false,false,false,false,false] {tmps:=#[.pointer (some ⟨g,0,none⟩),u1,u2,u3,u4,u5,.int .u64 (p:Int),u7,.pointer (some ⟨b,0,none⟩),u9,u10,u11,u12,u13,u14,u15,u16,u17,u18,u19,u20,u21,u22,u23,u24,u25,u26,u27,u28,u29,u30,u31,u32,u33,u34,u35,u36,u37,.pointer (some ⟨g,0,none⟩),.pointer (some ⟨g,0,none⟩),.pointer (some ⟨g,5,none⟩),u41,u42,u43,u44,u45,u46,u47,u48,u49,u50,u51,u52,u53],defers:=[]} W.drew:=
      wpAnyH_take (i:=3) (oi:=⟨some 41,.load 3 (.tmp 40),3,"mmr.go:55",#[⟨2,.data⟩],none⟩) (v:=.int .i64 d) rfl (by kernel_rfl) (by kernel_rfl) (by kernel_rfl) (fun _ _ _ h=>hQ _ _ _ _ _ h) (Or.inl ⟨by rfl,fun w hw=>by have hx:w.cell? ⟨g,5,none⟩=some (.int .i64 d):=hw;go_simp⟩) hww t4
    have t2:wpAnyH Tryz.prog .any z0V Q (fun w:World=>w.cell? ⟨g,5,none⟩=some (.int .i64 d)) 8 #[true,true,false,false,false,false,false,false,false,false] {tmps:=#[.pointer (some ⟨g,0,none⟩),u1,u2,u3,u4,u5,.int .u64 (p:Int),u7,.pointer (some ⟨b,0,none⟩),u9,u10,u11,u12,u13,u14,u15,u16,u17,u18,u19,u20,u21,u22,u23,u24,u25,u26,u27,u28,u29,u30,u31,u32,u33,u34,u35,u36,u37,.pointer (some ⟨g,0,none⟩),.pointer (some ⟨g,0,none⟩),u40,u41,u42,u43,u44,u45,u46,u47,u48,u49,u50,u51,u52,u53],defers:=[]} W.drew:=
      wpAnyH_take (i:=2) (oi:=⟨some 40,.fieldAddr 63 (.tmp 39) 1,0,"mmr.go:55",#[⟨1,.data⟩],none⟩) (v:=.pointer (some ⟨g,5,none⟩)) rfl (by kernel_rfl) (by kernel_rfl) (by kernel_rfl) (fun _ _ _ h=>hQ _ _ _ _ _ h) (Yields.yieldsIf (Or.inl ⟨by rfl,fun W=>by go_simp⟩)) hww t3
    have t1:wpAnyH Tryz.prog .any z0V Q (fun w:World=>w.cell? ⟨g,5,none⟩=some (.int .i64 d)) 9 #[true,false,false,false,false,false,false,false,false,false] {tmps:=#[.pointer (some ⟨g,0,none⟩),u1,u2,u3,u4,u5,.int .u64 (p:Int),u7,.pointer (some ⟨b,0,none⟩),u9,u10,u11,u12,u13,u14,u15,u16,u17,u18,u19,u20,u21,u22,u23,u24,u25,u26,u27,u28,u29,u30,u31,u32,u33,u34,u35,u36,u37,.pointer (some ⟨g,0,none⟩),u39,u40,u41,u42,u43,u44,u45,u46,u47,u48,u49,u50,u51,u52,u53],defers:=[]} W.drew:=
      wpAnyH_take (i:=1) (oi:=⟨some 39,.nilCheck (.tmp 38),0,"mmr.go:55",#[⟨0,.data⟩],none⟩) (v:=.pointer (some ⟨g,0,none⟩)) rfl (by kernel_rfl) (by kernel_rfl) (by kernel_rfl) (fun _ _ _ h=>hQ _ _ _ _ _ h) (Yields.yieldsIf (Or.inl ⟨by rfl,fun W=>by go_simp⟩)) hww t2
    have t0:wpAnyH Tryz.prog .any z0V Q (fun w:World=>w.cell? ⟨g,5,none⟩=some (.int .i64 d)) 10 #[false,false,false,false,false,false,false,false,false,false] {tmps:=#[.pointer (some ⟨g,0,none⟩),u1,u2,u3,u4,u5,.int .u64 (p:Int),u7,.pointer (some ⟨b,0,none⟩),u9,u10,u11,u12,u13,u14,u15,u16,u17,u18,u19,u20,u21,u22,u23,u24,u25,u26,u27,u28,u29,u30,u31,u32,u33,u34,u35,u36,u37,u38,u39,u40,u41,u42,u43,u44,u45,u46,u47,u48,u49,u50,u51,u52,u53],defers:=[]} W.drew:=
      wpAnyH_take (i:=0) (oi:=⟨some 38,.move (.tmp 0),24,"mmr.go:55",#[],none⟩) (v:=.pointer (some ⟨g,0,none⟩)) rfl (by kernel_rfl) (by kernel_rfl) (by kernel_rfl) (fun _ _ _ h=>hQ _ _ _ _ _ h) (Yields.yieldsIf (Or.inl ⟨by rfl,fun W=>by go_simp⟩)) hww t1
    exact t0
  exact wp_region_held_drew (S:=(fun w:World=>w.cell? ⟨g,5,none⟩=some (.int .i64 d))) (by kernel_rfl) hww (fun _=>z)
end Go.Proofs.YtbeelmlpalkohaaGreatDoor.HX
