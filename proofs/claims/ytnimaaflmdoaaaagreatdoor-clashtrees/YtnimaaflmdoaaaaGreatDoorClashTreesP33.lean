/- ClashTrees: part 33. -/
import Derived.Test.YtnimaaflmdoaaaaGreatDoorClashTreesP32
set_option maxHeartbeats 4000000
namespace Go.Proofs.YtnimaaflmdoaaaaGreatDoor.HX
open Go.RowKit
set_option maxRecDepth 100000
def z1V:Array Oper:=#[⟨some 25,.move (.tmp 0),3,"grow.go:30",#[],none⟩,⟨some 26,.move (.tmp 1),42,"grow.go:30",#[],none⟩,⟨some 27,.move (.tmp 7),3,"grow.go:30",#[],none⟩,⟨some 28,.indexAddr 42 (.tmp 26) (.tmp 27),0,"grow.go:30",#[⟨1,.data⟩,⟨2,.data⟩],none⟩,⟨some 29,.load 23 (.tmp 28),23,"grow.go:30",#[⟨3,.data⟩],none⟩,⟨some 30,.load 23 (.tmp 6),23,"grow.go:30",#[],none⟩,⟨some 31,.call {callee:=.value (.func 158),args:=#[.tmp 25,.tmp 29,.tmp 30],argTypes:=#[3,23,23]},23,"grow.go:30",#[⟨0,.data⟩,⟨4,.data⟩,⟨5,.data⟩],none⟩,⟨none,.store 23 (.tmp 6) (.tmp 31),0,"grow.go:30",#[⟨6,.data⟩,⟨6,.chain⟩,⟨0,.phase⟩,⟨1,.phase⟩,⟨2,.phase⟩,⟨3,.phase⟩,⟨4,.phase⟩,⟨5,.phase⟩,⟨6,.phase⟩],none⟩]
theorem za1 {Q:Exit->Act->World->Prop} {u2 u3 u4 u5 u8 u9 u10 u11 u12 u13 u14 u15 u16 u17 u18 u19 u20 u21 u22 u23 u24 u25 u26 u27 u28 u29 u30 u31 u32:Value} (W:World) (gn o n c b q:Nat) (d:Int) (l x y:Nat->Nat) (hq:(q:Int)<(n:Int)) (I:World->Prop) (h0:I W.drew) (hI:∀ w,I w->w.rangeAt gn (o+q*32) (z01 .u8 32 l)/\Has w b (UARR .u8 32 x) 23) (hRow:∀ w,I w->(w.setRow b (UARR .u8 32 y)).rangeAt gn (o+q*32) (z01 .u8 32 l))
  (c1:∀ w,I w->Calls Tryz.prog 158 #[.int .i64 d,.agg (UARR .u8 32 l),.agg (UARR .u8 32 x)] w fun e w'=>e=.returned (.agg (UARR .u8 32 y))/\I w') (hQ:∀ c (a:Act) (t:Tmp) (v:Value) w,Q (.panic c) (a.put (some t) v) w->Q (.panic c) a w)
  (hfin:∀ (w:World),(∃ w0:World,I w0/\w=w0.setRow b (UARR .u8 32 y))->Q .normal {tmps:=#[.int .i64 d,.slice (some ⟨gn,o,none⟩) n c,u2,u3,u4,u5,.pointer (some ⟨b,0,none⟩),.int .i64 (q:Int),u8,u9,u10,u11,u12,u13,u14,u15,u16,u17,u18,u19,u20,u21,u22,u23,u24,.int .i64 d,.slice (some ⟨gn,o,none⟩) n c,.int .i64 (q:Int),.pointer (some ⟨gn,(o+q*32),none⟩),.agg (UARR .u8 32 l),.agg (UARR .u8 32 x),.agg (UARR .u8 32 y),u32],defers:=[]} w):(Code.region 8 z1V true).wp Tryz.prog Q {tmps:=#[.int .i64 d,.slice (some ⟨gn,o,none⟩) n c,u2,u3,u4,u5,.pointer (some ⟨b,0,none⟩),.int .i64 (q:Int),u8,u9,u10,u11,u12,u13,u14,u15,u16,u17,u18,u19,u20,u21,u22,u23,u24,u25,u26,u27,u28,u29,u30,u31,u32],defers:=[]} W:=by
 have k5_6_7:∀ (w:World),(∃ w0:World,I w0/\w=w0.setRow b (UARR .u8 32 y))->wpAnyH Tryz.prog .any z1V Q (fun w:World=>w.rangeAt gn (o+q*32) (z01 .u8 32 l)) 0 #[true,true,true,true,true,true,true,true] {tmps:=#[.int .i64 d,.slice (some ⟨gn,o,none⟩) n c,u2,u3,u4,u5,.pointer (some ⟨b,0,none⟩),.int .i64 (q:Int),u8,u9,u10,u11,u12,u13,u14,u15,u16,u17,u18,u19,u20,u21,u22,u23,u24,.int .i64 d,.slice (some ⟨gn,o,none⟩) n c,.int .i64 (q:Int),.pointer (some ⟨gn,(o+q*32),none⟩),.agg (UARR .u8 32 l),.agg (UARR .u8 32 x),.agg (UARR .u8 32 y),u32],defers:=[]} w:=fun  w hp=>by
  exact wpAnyH_done (by kernel_rfl) (hfin  w hp) _
 have k5_6:∀ (w:World),(I w)->wpAnyH Tryz.prog .any z1V Q (fun w:World=>w.rangeAt gn (o+q*32) (z01 .u8 32 l)) 1 #[true,true,true,true,true,true,true,false] {tmps:=#[.int .i64 d,.slice (some ⟨gn,o,none⟩) n c,u2,u3,u4,u5,.pointer (some ⟨b,0,none⟩),.int .i64 (q:Int),u8,u9,u10,u11,u12,u13,u14,u15,u16,u17,u18,u19,u20,u21,u22,u23,u24,.int .i64 d,.slice (some ⟨gn,o,none⟩) n c,.int .i64 (q:Int),.pointer (some ⟨gn,(o+q*32),none⟩),.agg (UARR .u8 32 l),.agg (UARR .u8 32 x),.agg (UARR .u8 32 y),u32],defers:=[]} w:=fun  w hp=>by
  refine wpAnyH_ready (rs:=[7]) (by kernel_rfl) (by simp) ?_;refine AllReadyH.cons (o:=⟨none,.store 23 (.tmp 6) (.tmp 31),0,"grow.go:30",#[⟨6,.data⟩,⟨6,.chain⟩,⟨0,.phase⟩,⟨1,.phase⟩,⟨2,.phase⟩,⟨3,.phase⟩,⟨4,.phase⟩,⟨5,.phase⟩,⟨6,.phase⟩],none⟩) rfl (fun K hK=>?_) ?_
  ·exact z0A rfl (z1k (z4w (hI _ hp).2 y)) (have hp:(fun (w:World)=>(∃ w0:World,I w0/\w=w0.setRow b (UARR .u8 32 y)))  _:=⟨w,hp,rfl⟩;hK.out _ _ ((by obtain ⟨w0,h1,h2⟩:=hp; (first | rw [h2] | skip);exact hRow _ h1)) (fun _=>k5_6_7  _ hp))
  exact AllReadyH.nil
 have k5:∀ (w:World),(I w)->wpAnyH Tryz.prog .any z1V Q (fun w:World=>w.rangeAt gn (o+q*32) (z01 .u8 32 l)) 2 #[true,true,true,true,true,true,false,false] {tmps:=#[.int .i64 d,.slice (some ⟨gn,o,none⟩) n c,u2,u3,u4,u5,.pointer (some ⟨b,0,none⟩),.int .i64 (q:Int),u8,u9,u10,u11,u12,u13,u14,u15,u16,u17,u18,u19,u20,u21,u22,u23,u24,.int .i64 d,.slice (some ⟨gn,o,none⟩) n c,.int .i64 (q:Int),.pointer (some ⟨gn,(o+q*32),none⟩),.agg (UARR .u8 32 l),.agg (UARR .u8 32 x),u31,u32],defers:=[]} w:=fun  w hp=>by
  refine wpAnyH_ready (rs:=[6]) (by kernel_rfl) (by simp) ?_;refine AllReadyH.cons (o:=⟨some 31,.call {callee:=.value (.func 158),args:=#[.tmp 25,.tmp 29,.tmp 30],argTypes:=#[3,23,23]},23,"grow.go:30",#[⟨0,.data⟩,⟨4,.data⟩,⟨5,.data⟩],none⟩) rfl (fun K hK=>?_) ?_
  ·rw [if_pos (by rfl)]
   go_simp;refine (show Calls _ _ _ w (fun e w'=>e=.returned (.agg (UARR .u8 32 y))/\(I w')) from c1 w hp).mono ?_;rintro e w' ⟨rfl,hp⟩;exact hK.out _ _ ((hI _ hp).1) (fun _=>k5_6  w' hp)
  exact AllReadyH.nil
 have k:∀ (w:World),(I w)->wpAnyH Tryz.prog .any z1V Q (fun w:World=>w.rangeAt gn (o+q*32) (z01 .u8 32 l)) 3 #[true,true,true,true,true,false,false,false] {tmps:=#[.int .i64 d,.slice (some ⟨gn,o,none⟩) n c,u2,u3,u4,u5,.pointer (some ⟨b,0,none⟩),.int .i64 (q:Int),u8,u9,u10,u11,u12,u13,u14,u15,u16,u17,u18,u19,u20,u21,u22,u23,u24,.int .i64 d,.slice (some ⟨gn,o,none⟩) n c,.int .i64 (q:Int),.pointer (some ⟨gn,(o+q*32),none⟩),.agg (UARR .u8 32 l),u30,u31,u32],defers:=[]} w:=fun  w hp=>by
  refine wpAnyH_ready (rs:=[5]) (by kernel_rfl) (by simp) ?_;refine AllReadyH.cons (o:=⟨some 30,.load 23 (.tmp 6),23,"grow.go:30",#[],none⟩) rfl (fun K hK=>?_) ?_
  ·exact z52 rfl 23 (.tmp 6) rfl b 0 rfl (z01 .u8 32 x) _ (hI _ hp).2.whole Tryz.underlying23 rfl (by rw [z09];exact z0r) (have hp:(fun (w:World)=>(I w))  w:=hp;hK.out _ _ ((hI _ hp).1) (fun _=>k5  _ hp))
  exact AllReadyH.nil
 have hp:=h0;have hww:(fun w:World=>w.rangeAt gn (o+q*32) (z01 .u8 32 l)) W.drew:=(hI _ hp).1;have last:=k W.drew hp
 have z:wpAnyH Tryz.prog .any z1V Q (fun w:World=>w.rangeAt gn (o+q*32) (z01 .u8 32 l)) 8 #[false,false,false,false,false,false,false,false] {tmps:=#[.int .i64 d,.slice (some ⟨gn,o,none⟩) n c,u2,u3,u4,u5,.pointer (some ⟨b,0,none⟩),.int .i64 (q:Int),u8,u9,u10,u11,u12,u13,u14,u15,u16,u17,u18,u19,u20,u21,u22,u23,u24,u25,u26,u27,u28,u29,u30,u31,u32],defers:=[]} W.drew:=by
  have t4:wpAnyH Tryz.prog .any z1V Q (fun w:World=>w.rangeAt gn (o+q*32) (z01 .u8 32 l)) 4 #[true,true,true,true,false,false,false,false] {tmps:=#[.int .i64 d,.slice (some ⟨gn,o,none⟩) n c,u2,u3,u4,u5,.pointer (some ⟨b,0,none⟩),.int .i64 (q:Int),u8,u9,u10,u11,u12,u13,u14,u15,u16,u17,u18,u19,u20,u21,u22,u23,u24,.int .i64 d,.slice (some ⟨gn,o,none⟩) n c,.int .i64 (q:Int),.pointer (some ⟨gn,(o+q*32),none⟩),u29,u30,u31,u32],defers:=[]} W.drew:=
   wpAnyH_take (i:=4) (oi:=⟨some 29,.load 23 (.tmp 28),23,"grow.go:30",#[⟨3,.data⟩],none⟩) (v:=.agg (UARR .u8 32 l)) rfl (by kernel_rfl) (by kernel_rfl) (by kernel_rfl) (fun _ _ _ h=>hQ _ _ _ _ _ h) (yieldsIf_load_mid (by rfl) 23 (.tmp 28) rfl gn (o+q*32) rfl (z01 .u8 32 l) _ (fun w h=>h) Tryz.underlying23 rfl (by rw [z09];exact z0r)) hww last
  have t3:wpAnyH Tryz.prog .any z1V Q (fun w:World=>w.rangeAt gn (o+q*32) (z01 .u8 32 l)) 5 #[true,true,true,false,false,false,false,false] {tmps:=#[.int .i64 d,.slice (some ⟨gn,o,none⟩) n c,u2,u3,u4,u5,.pointer (some ⟨b,0,none⟩),.int .i64 (q:Int),u8,u9,u10,u11,u12,u13,u14,u15,u16,u17,u18,u19,u20,u21,u22,u23,u24,.int .i64 d,.slice (some ⟨gn,o,none⟩) n c,.int .i64 (q:Int),u28,u29,u30,u31,u32],defers:=[]} W.drew:=
   wpAnyH_take (i:=3) (oi:=⟨some 28,.indexAddr 42 (.tmp 26) (.tmp 27),0,"grow.go:30",#[⟨1,.data⟩,⟨2,.data⟩],none⟩) (v:=.pointer (some ⟨gn,(o+q*32),none⟩)) rfl (by kernel_rfl) (by kernel_rfl) (by kernel_rfl) (fun _ _ _ h=>hQ _ _ _ _ _ h) (Yields.yieldsIf (Or.inl ⟨by rfl,fun W=>by go_simp⟩)) hww t4
  have t2:wpAnyH Tryz.prog .any z1V Q (fun w:World=>w.rangeAt gn (o+q*32) (z01 .u8 32 l)) 6 #[true,true,false,false,false,false,false,false] {tmps:=#[.int .i64 d,.slice (some ⟨gn,o,none⟩) n c,u2,u3,u4,u5,.pointer (some ⟨b,0,none⟩),.int .i64 (q:Int),u8,u9,u10,u11,u12,u13,u14,u15,u16,u17,u18,u19,u20,u21,u22,u23,u24,.int .i64 d,.slice (some ⟨gn,o,none⟩) n c,u27,u28,u29,u30,u31,u32],defers:=[]} W.drew:=
   wpAnyH_take (i:=2) (oi:=⟨some 27,.move (.tmp 7),3,"grow.go:30",#[],none⟩) (v:=.int .i64 (q:Int)) rfl (by kernel_rfl) (by kernel_rfl) (by kernel_rfl) (fun _ _ _ h=>hQ _ _ _ _ _ h) (Yields.yieldsIf (Or.inl ⟨by rfl,fun W=>by go_simp⟩)) hww t3
  have t1:wpAnyH Tryz.prog .any z1V Q (fun w:World=>w.rangeAt gn (o+q*32) (z01 .u8 32 l)) 7 #[true,false,false,false,false,false,false,false] {tmps:=#[.int .i64 d,.slice (some ⟨gn,o,none⟩) n c,u2,u3,u4,u5,.pointer (some ⟨b,0,none⟩),.int .i64 (q:Int),u8,u9,u10,u11,u12,u13,u14,u15,u16,u17,u18,u19,u20,u21,u22,u23,u24,.int .i64 d,u26,u27,u28,u29,u30,u31,u32],defers:=[]} W.drew:=
   wpAnyH_take (i:=1) (oi:=⟨some 26,.move (.tmp 1),42,"grow.go:30",#[],none⟩) (v:=.slice (some ⟨gn,o,none⟩) n c) rfl (by kernel_rfl) (by kernel_rfl) (by kernel_rfl) (fun _ _ _ h=>hQ _ _ _ _ _ h) (Yields.yieldsIf (Or.inl ⟨by rfl,fun W=>by go_simp⟩)) hww t2
  have t0:wpAnyH Tryz.prog .any z1V Q (fun w:World=>w.rangeAt gn (o+q*32) (z01 .u8 32 l)) 8 #[false,false,false,false,false,false,false,false] {tmps:=#[.int .i64 d,.slice (some ⟨gn,o,none⟩) n c,u2,u3,u4,u5,.pointer (some ⟨b,0,none⟩),.int .i64 (q:Int),u8,u9,u10,u11,u12,u13,u14,u15,u16,u17,u18,u19,u20,u21,u22,u23,u24,u25,u26,u27,u28,u29,u30,u31,u32],defers:=[]} W.drew:=
   wpAnyH_take (i:=0) (oi:=⟨some 25,.move (.tmp 0),3,"grow.go:30",#[],none⟩) (v:=.int .i64 d) rfl (by kernel_rfl) (by kernel_rfl) (by kernel_rfl) (fun _ _ _ h=>hQ _ _ _ _ _ h) (Yields.yieldsIf (Or.inl ⟨by rfl,fun W=>by go_simp⟩)) hww t1
  exact t0
 exact wp_region_held_drew (S:=(fun w:World=>w.rangeAt gn (o+q*32) (z01 .u8 32 l))) (by kernel_rfl) hww (fun _=>z)
def HASHES (w:World) (a:Option Addr) (n:Nat) (hs:Nat->Nat->Nat):Prop:=0<n->∃ b o,a=some ⟨b,o,none⟩/\b<w.heap.size/\∀ i,i<n->w.rangeAt b (o+i*32) (z01 .u8 32 (hs i))
theorem HASHES.below {w w':World} {a:Option Addr} {n:Nat} {hs:Nat->Nat->Nat} (h:HASHES w a n hs) (hb:Below w.heap.size w w'):HASHES w' a n hs:=fun hn=>by
 obtain ⟨b,o,e,hl,hc⟩:=h hn;exact ⟨b,o,e,Nat.lt_of_lt_of_le hl hb.size,fun i hi=>z1j (hc i hi) hb hl⟩
def z5d (d:Int) (l r:Nat->Nat):Nat->Nat:=z0e d (2 :: ((List.range 32).map l ++ (List.range 32).map r))
def z3E (d:Int) (n:Nat) (r:Nat->Nat):Nat->Nat:=z0e d (3 :: (BE8 n ++ (List.range 32).map r))
theorem zfB (d:Int) (l r:Nat->Nat) (i:Nat):z5d d l r i<256:=z1I d _ _ i
theorem zfC (d:Int) (n:Nat) (r:Nat->Nat) (i:Nat):z3E d n r i<256:=z1I d _ _ i
def FAF (d:Int) (hs:Nat->Nat->Nat) (n:Nat):Nat->Nat->Nat
 | 0=>hs (n - 1)
 | k+1=>z5d d (hs (n - 2 - k)) (FAF d hs n k)
def FLDF (d:Int) (hs:Nat->Nat->Nat) (n:Nat):Nat->Nat:=if n=0 then fun _=>0 else FAF d hs n (n - 1)
theorem ze4 {d:Int} {hs:Nat->Nat->Nat} {n:Nat} (hb:∀ i,i<n->∀ j,hs i j<256) (hn:0<n):∀ k j,FAF d hs n k j<256
 | 0,j=>hb _ (by omega) j
 | k+1,j=>zfB _ _ _ j
theorem zgH {d:Int} {hs:Nat->Nat->Nat} {n:Nat} (hb:∀ i,i<n->∀ j,hs i j<256) (j:Nat):FLDF d hs n j<256:=by
 unfold FLDF;split
 ·show (0:Nat)<256
  decide
 ·exact ze4 hb (by omega) _ j
theorem zck (d:Int) (a:Option Addr) (n c:Nat) (hn:n<=1000) (hs:Nat->Nat->Nat) (w:World) (hH:HASHES w a n hs) (h8:∀ i,i<n->∀ j,hs i j<256) (hX:Tabled w):
  Calls Tryz.prog 127 #[.int .i64 d,.slice a n c] w fun e w'=>e=.returned (.agg (UARR .u8 32 (FLDF d hs n)))/\Below w.heap.size w w':=by
 have hz:=z0X;have hbn:=z3D;obtain ⟨w0,hw0⟩:∃ w0,w.alloc (.cells (UARR .u8 32 fun _=>0) 23)=w0:=⟨_,rfl⟩
 have hb0:Below w.heap.size w w0:=by rw [<-hw0];exact (Below.refl _ _).alloc (Nat.le_refl _) _
 have h40:Has w0 w.heap.size (UARR .u8 32 fun _=>0) 23:=by rw [<-hw0];exact Has.new w _ _
 by_cases h0:n=0
 ·subst h0
  have e:FLDF d hs 0=fun _=>0:=rfl;rw [e];clear hH hX hn e h8;have hst2:=z0o h40 (fun _=>0);have hsu:=z02 .u8 32 (fun _=>0);go_enter Tryz.func127,Tryz.ntmps127;go_wp2;refine bodyPost_ret (v:=.agg (UARR .u8 32 fun _=>0)) (z2A rfl _ _ w.heap.size 23 _ (0,0) _ _ rfl (h40.row _) Tryz.underlying23 (z03 _)) rfl ⟨rfl,z0b hb0 (Nat.le_refl _) _⟩
 ·obtain ⟨m,hm⟩:∃ m,n=m+1:=⟨n - 1,by omega⟩
  obtain ⟨gn,o,rfl,hgn,hcn⟩:=hH (by omega);have hz0:((n:Int) == 0)=false:=beq_eq_false_iff_ne.2 (by omega);have e1:wrap64 ((n:Int) - 1)=(m:Int):=by unfold wrap64;omega
  have hml:(m:Int)<(n:Int):=by omega
  have e:FLDF d hs n=FAF d hs n m:=by unfold FLDF;rw [if_neg h0,show n - 1=m by omega]
  rw [e]
  have hat:w0.rangeAt gn (o+m*32) (z01 .u8 32 (FAF d hs n 0)):=by
   have h2:FAF d hs n 0=hs m:=by rw [FAF,show n - 1=m by omega]
   rw [h2];exact z1j (hcn m (by omega)) hb0 hgn
  have HA:Aside (n=m+1/\n<=1000/\(∀ i,i<n->w.rangeAt gn (o+i*32) (z01 .u8 32 (hs i)))/\Tabled w/\gn<w.heap.size/\(∀ k j,FAF d hs n k j<256)/\(∀ i,i<n->∀ j,hs i j<256)):=⟨hm,hn,hcn,hX,hgn,ze4 h8 (by omega),h8⟩
  clear hm hn hX hgn hcn h0 e hH h8;generalize hA0:FAF d hs n 0=A0 at *
  have hst:=run_storeCells_new (P:=Tryz.prog) w0 23 (UARR .u8 32 fun _=>0) (UARR .u8 32 A0) (z03 _) (by rw [z02,z02]) (z0g _ _ _);have hsu:=z02 .u8 32 A0;go_enter Tryz.func127,Tryz.ntmps127
  go_wp2_with (first
   | (refine wpList_load_mid rfl 23 (.tmp 17) rfl gn (o+m*32) rfl (z01 .u8 32 A0) _ hat Tryz.underlying23 rfl (by rw [z09];exact z0r) ?_;rw [<-z0G]))
  have R1:Aside (Below w.heap.size w (w0.alloc (.cells (UARR .u8 32 A0) 23))/\Has (w0.alloc (.cells (UARR .u8 32 A0) 23)) w.heap.size (UARR .u8 32 fun _=>0) 23/\Has (w0.alloc (.cells (UARR .u8 32 A0) 23)) w0.heap.size (UARR .u8 32 (FAF d hs n 0)) 23/\w.heap.size<w0.heap.size):=⟨hb0.alloc hb0.size _,h40.alloc _,by rw [hA0];exact Has.new _ _ _,h40.lt⟩
  clear hat hst hsu hA0 hw0 hb0 h40;generalize w0.alloc (.cells (UARR .u8 32 A0) 23)=W1 at *
  generalize w0.heap.size=b6 at *
  clear w0;have K:Aside (w.heap.size<b6):=R1.out.2.2.2;have E0:Aside (wrap64 ((m:Int) - 1)=(m:Int) - 1):=by have:=HA.out.1;have:=HA.out.2.1;show wrap64 ((m:Int) - 1)=(m:Int) - 1;unfold wrap64;omega
  go_loopg [7] m (fun q s7 wx=>∃ x:Int,s7=.int .i64 x/\Aside (q<=m/\x=(q:Int) - 1/\Below w.heap.size w wx/\Has wx w.heap.size (UARR .u8 32 fun _=>0) 23/\Has wx b6 (UARR .u8 32 (FAF d hs n (m - q))) 23))
  case atStart=>exact ⟨_,rfl,Nat.le_refl _,E0.out,R1.out.1,R1.out.2.1,by rw [Nat.sub_self];exact R1.out.2.2.1⟩
  case round=>
   obtain ⟨x,rfl,A⟩:=hrel;clear R1 E0 e1;cases gk with
   | zero=>
     obtain rfl:x = -1:=by have:=A.out.2.1;omega
     have hH4:=A.out.2.2.2.1;have hH6:Has wr b6 (UARR .u8 32 (FAF d hs n m)) 23:=A.out.2.2.2.2;have hb:=A.out.2.2.1;clear A HA;generalize hY0:FAF d hs n m=Y at *
     have hst2:=z0o hH4 Y;have hsu:=z02 .u8 32 Y
     go_wp2_with (first
      | (refine wpList_load_row rfl 23 (.tmp 6) rfl b6 rfl 23 (UARR .u8 32 Y) (0,0) _ hH6 Tryz.underlying23 rfl (z03 _) ?_)
      | fail)
     refine bodyPost_ret (v:=.agg (UARR .u8 32 Y)) (z2A rfl _ _ w.heap.size 23 _ (0,0) _ _ rfl (hH4.row _) Tryz.underlying23 (z03 _)) rfl ⟨by rw [hY0],z0b hb (Nat.le_refl _) _⟩
   | succ q=>
     obtain rfl:x=(q:Int):=by have:=A.out.2.1;omega
     have hq0:(0:Int)<=(q:Int):=by omega
     obtain ⟨h1,h2,h3,h4,h5,h6,h7⟩:=HA.out;have hqm:q+1<=m:=A.out.1;have hb1:(q:Int)<(n:Int):=by omega
     have eY:FAF d hs n (m - q)=z5d d (hs q) (FAF d hs n (m - (q+1))):=by
      rw [show m - q=(m - (q+1))+1 by omega,FAF,show n - 2 - (m - (q+1))=q by omega]
     have hr:=h6 (m - (q+1));have hl:=h7 q (by omega);have hE1:Aside (wrap64 ((q:Int) - 1)=(q:Int) - 1):=by show wrap64 ((q:Int) - 1)=(q:Int) - 1;unfold wrap64;omega
     have hb:=A.out.2.2.1;have H2:Aside (w.rangeAt gn (o+q*32) (z01 .u8 32 (hs q))/\gn<w.heap.size/\Tabled w/\(∀ j,hs q j<256)/\(∀ j,FAF d hs n (m - (q+1)) j<256)/\FAF d hs n (m - q)=z5d d (hs q) (FAF d hs n (m - (q+1)))/\Below w.heap.size w wr/\Has wr w.heap.size (UARR .u8 32 fun _=>0) 23/\Has wr b6 (UARR .u8 32 (FAF d hs n (m - (q+1)))) 23/\q<=m):=⟨h3 q (by omega),h5,h4,hl,hr,eY,hb,A.out.2.2.2.1,A.out.2.2.2.2,by omega⟩
     clear h1 h2 h3 h4 h5 h6 h7 eY hb hr hl A HA hqm;go_upto_region 8 with fail
     refine za1 wr gn o n c b6 q d (hs q) (FAF d hs n (m - (q+1))) (FAF d hs n (m - q)) hb1 (fun V=>Below wr.heap.size wr V) (Below.refl _ _).drew (fun V hV=>?_) (fun V hV=>?_) (fun V hV=>?_) (fun _ _ _ _ _ h=>h) ?_
     ·exact ⟨z1j (z1j H2.out.1 H2.out.2.2.2.2.2.2.1 H2.out.2.1) hV (Nat.lt_of_lt_of_le H2.out.2.1 H2.out.2.2.2.2.2.2.1.size),H2.out.2.2.2.2.2.2.2.2.1.keep hV⟩
     ·have hV2:Below w.heap.size w V:=H2.out.2.2.2.2.2.2.1.trans (hV.mono H2.out.2.2.2.2.2.2.1.size)
      exact z1j H2.out.1 (z0b hV2 (Nat.le_of_lt K.out) _) H2.out.2.1
     ·have hV2:Below w.heap.size w V:=H2.out.2.2.2.2.2.2.1.trans (hV.mono H2.out.2.2.2.2.2.2.1.size)
      refine (zax d (hs q) (FAF d hs n (m - (q+1))) H2.out.2.2.2.1 H2.out.2.2.2.2.1 V (H2.out.2.2.1.below hV2)).mono ?_;rintro e V' ⟨rfl,hb⟩;exact ⟨by rw [H2.out.2.2.2.2.2.1];rfl,hV.trans (hb.mono hV.size)⟩
     ·intro W3 hW3
      obtain ⟨w0',hw0',hW3⟩:=hW3
      have Z:Aside (q<=m/\Below w.heap.size w W3/\Has W3 w.heap.size (UARR .u8 32 fun _=>0) 23/\Has W3 b6 (UARR .u8 32 (FAF d hs n (m - q))) 23):=by
       have hV2:Below w.heap.size w w0':=H2.out.2.2.2.2.2.2.1.trans (hw0'.mono H2.out.2.2.2.2.2.2.1.size);rw [hW3];exact ⟨H2.out.2.2.2.2.2.2.2.2.2,z0b hV2 (Nat.le_of_lt K.out) _,(H2.out.2.2.2.2.2.2.2.1.keep hw0').row_other (by have:=K.out;omega) _,(H2.out.2.2.2.2.2.2.2.2.1.keep hw0').row _⟩
      clear hW3 hw0' H2;have e1:=hE1.out;go_wp2;go_roundg q
      case measure=>exact Nat.lt_succ_self _
      case rel=>exact ⟨_,rfl,Z.out.1,by first | rfl | exact hE1.out,Z.out.2⟩
theorem z6v {w:World} {B n:Nat} {v:Value} {l:List (Nat->Nat)} (h:w.ownsRow B 23 32 v n (HL l)) (hl:l.length=n):∃ a c,v=.slice a n c/\HASHES w a n (fun i=>l.getD i fun _=>0):=by
 obtain ⟨a,c,rfl⟩:=z50 h;refine ⟨a,c,rfl,fun hn=>?_⟩;rcases h.2 with ⟨e,h0⟩ | ⟨g,cap,cur,e,_,hg,_⟩
 ·omega
 ·simp only [Value.slice.injEq] at e
  obtain ⟨rfl,_,rfl⟩:=e;refine ⟨g,0,rfl,(h.lt g rfl).2,fun i hi j u hj=>?_⟩;have hj32:j<32:=by have:=(List.getElem?_eq_some_iff.1 hj).1;rwa [z09] at this
  have hli:l[i]?=some (l.getD i fun _=>0):=by rw [List.getD_eq_getElem?_getD,List.getElem?_eq_getElem (by omega)];rfl
  rw [z16 _ _ _ _ hj32] at hj;rw [<-hj,Nat.zero_add,h.cellAt (i*32+j) (by omega)];exact z99 l i j _ hli hj32
theorem zgI (d:Int) (n:Nat) (hn:n<=4611686018427387904) (a:Option Addr) (k c:Nat) (hk:k=PC n) (hs:Nat->Nat->Nat) (w:World) (hH:HASHES w a k hs) (h8:∀ i,i<k->∀ j,hs i j<256) (hX:Tabled w):
  Calls Tryz.prog 80 #[.int .i64 d,.int .u64 (n:Int),.slice a k c] w fun e w'=>e=.returned (.tuple #[.agg (UARR .u8 32 (z3E d n (FLDF d hs k))),.int .i64 0])/\Below w.heap.size w w':=by
 have hz:=z0X;obtain ⟨w0,hw0⟩:∃ w0,w.alloc (.cells (UARR .u8 32 fun _=>0) 23)=w0:=⟨_,rfl⟩
 have hb0:Below w.heap.size w w0:=by rw [<-hw0];exact (Below.refl _ _).alloc (Nat.le_refl _) _
 have h40:Has w0 w.heap.size (UARR .u8 32 fun _=>0) 23:=by rw [<-hw0];exact Has.new w _ _
 have h1':¬ (4611686018427387904:Int)<(n:Int):=by omega
 have hn64:n<2 ^ 64:=by omega
 have hpop:=z4G hn64;have hk64:k<=64:=by rw [hk];exact z1E 64 n hn64
 have e2:(k:Int)=((POP n:Nat):Int):=by rw [hpop,hk]
 have co:=z1P n hn64 w0;rw [<-e2] at co;have cf:=zck d a k c (by omega) hs w0 (hH.below hb0) h8 (hX.below hb0);have hF8:=zgH (d:=d) h8;have cr:=fun (W:World) (hb:Below w0.heap.size w0 W)=>zay d n hn64 (FLDF d hs k) hF8 W ((hX.below hb0).below hb);have eR:z3E d n (FLDF d hs k)=z0e d (3 :: (BE8 n ++ (List.range 32).map (FLDF d hs k))):=rfl;rw [<-eR] at cr;clear eR hF8 e2 hk64 hpop hn64 hk hH h8 hX hn;generalize z3E d n (FLDF d hs k)=Y at *
 generalize FLDF d hs k=X at *
 go_enter Tryz.func80,Tryz.ntmps80;go_wp2_with fail
 refine co.mono ?_;rintro e w1 ⟨rfl,rfl⟩;clear co;go_wp2_with fail
 refine cf.mono ?_;rintro e w1 ⟨rfl,hb1⟩;clear cf;go_wp2_with fail
 refine (cr w1 hb1).mono ?_;rintro e w2 ⟨rfl,hb2⟩;clear cr;have hb12:Below w0.heap.size w0 w2:=hb1.trans (hb2.mono hb1.size);have h42:=h40.keep hb12;have hb3':Below w.heap.size w w2:=hb0.trans (hb12.mono hb0.size);have hst2:=z0o h42 Y;have hsu:=z02 .u8 32 Y;clear hb1 hb2 hb12;go_wp2;refine bodyPost_ret (v:=.tuple #[.agg (UARR .u8 32 Y),.int .i64 0]) ?_ rfl ⟨rfl,z0b hb3' (Nat.le_refl _) _⟩;exact z0x rfl _ _ w.heap.size 23 _ (0,0) _ _ rfl (h42.row _) _ rfl Tryz.underlying23 (z03 _)
def z0l (d:Int) (f:Nat->Nat->Nat) (m:Nat):Nat->Nat:=z3E d m (FLDF d (fun i=>(PKV d f m).getD i fun _=>0) (PC m))
theorem zhm {d:Int} {f:Nat->Nat->Nat} {n m:Nat} (hf:∀ k,k<n->∀ i,f k i<256) (hm:m<=n) (i:Nat) (j:Nat):(PKV d f m).getD i (fun _=>0) j<256:=by
 rw [List.getD_eq_getElem?_getD,PKV,List.getElem?_map];cases hi:(HS 0 m)[i]? with
 | none=>show (0:Nat)<256;decide
 | some h=>
   have hb:=(z4H 0 h (by decide) (List.mem_of_getElem? hi)).2.2;exact z2z hf h _ (Nat.le_trans (z51 hb) hm) j
theorem zhn {w:World} {B g:Nat} {d:Int} {log n:Nat} {C:z04} {f:Nat->Nat->Nat} (hF:FOREST w B g d log n C f) (m:Nat) (hm:m<=n) (hT:Go.Proofs.YtnimaaflmdoaaaaGreatDoor.Tabled w) (hX:Tabled w):
  Calls Tryz.prog 41 #[.pointer (some ⟨g,0,none⟩),.int .u64 (m:Int)] w fun e w'=>e=.returned (.tuple #[.agg (UARR .u8 32 (z0l d f m)),.int .i64 0])/\Below w.heap.size w w':=by
 have hz:=z0X;obtain ⟨w0,hw0⟩:∃ w0,w.alloc (.cells (UARR .u8 32 fun _=>0) 23)=w0:=⟨_,rfl⟩
 have hb0:Below w.heap.size w w0:=by rw [<-hw0];exact (Below.refl _ _).alloc (Nat.le_refl _) _
 have h40:Has w0 w.heap.size (UARR .u8 32 fun _=>0) 23:=by rw [<-hw0];exact Has.new w _ _
 have hF0:=hF.below hb0;have c6:=hF0.size;have hle:¬ (n:Int)<(m:Int):=by omega
 have cp:=z9b hF0 m hm (hT.below (by have:=hF.store.lt;omega) hb0);have hn20:=hF.few;have A:Aside (FOREST w0 B g d log n C f/\m<=n/\m<=2 ^ 20/\Tabled w0):=⟨hF0,hm,by omega,hX.below hb0⟩
 clear hF hm hT hX hn20 hF0;go_enter Tryz.func41,Tryz.ntmps41;go_wp2_with fail
 refine cp.mono ?_;rintro e w1 ⟨v,rfl,hown,hb1⟩;clear cp;obtain ⟨a,c,rfl,hH⟩:=z6v hown (z4A d f (by have:=A.out.2.2.1;omega));have c5:=(A.out.1.below hb1).width;have cb:=zgI d m (by have:=A.out.2.2.1;omega) a (PC m) c rfl _ w1 hH (fun i _ j=>zhm A.out.1.byte A.out.2.1 i j) (A.out.2.2.2.below hb1);have eR:z0l d f m=z3E d m (FLDF d (fun i=>(PKV d f m).getD i fun _=>0) (PC m)):=rfl;rw [<-eR] at cb;clear hown hH eR A;generalize hY0:z0l d f m=Y at *
 generalize PC m=M at *
 go_wp2_with fail
 refine cb.mono ?_;rintro e w2 ⟨rfl,hb2⟩;clear cb;have hb12:Below w0.heap.size w0 w2:=hb1.trans (hb2.mono hb1.size);have h42:=h40.keep hb12;have hb3':Below w.heap.size w w2:=hb0.trans (hb12.mono hb0.size);have hst2:=z0o h42 Y;have hsu:=z02 .u8 32 Y;clear hb1 hb2 hb12 c5;go_wp2;refine bodyPost_ret (v:=.tuple #[.agg (UARR .u8 32 Y),.int .i64 0]) ?_ rfl ⟨by rw [hY0],z0b hb3' (Nat.le_refl _) _⟩;exact z0x rfl _ _ w.heap.size 23 _ (0,0) _ _ rfl (h42.row _) _ rfl Tryz.underlying23 (z03 _)
theorem z76 {w:World} {B g:Nat} {d:Int} {log n:Nat} {C:z04} {f:Nat->Nat->Nat} (hF:FOREST w B g d log n C f) (hT:Go.Proofs.YtnimaaflmdoaaaaGreatDoor.Tabled w) (hX:Tabled w):
  Calls Tryz.prog 18 #[.pointer (some ⟨g,0,none⟩)] w fun e w'=>e=.returned (.agg (UARR .u8 32 (z0l d f n)))/\Below w.heap.size w w':=by
 have hz:=z0X;obtain ⟨w0,hw0⟩:∃ w0,w.alloc (.cells (UARR .u8 32 fun _=>0) 23)=w0:=⟨_,rfl⟩
 have hb0:Below w.heap.size w w0:=by rw [<-hw0];exact (Below.refl _ _).alloc (Nat.le_refl _) _
 have h40:Has w0 w.heap.size (UARR .u8 32 fun _=>0) 23:=by rw [<-hw0];exact Has.new w _ _
 have c6:=(hF.below hb0).size;have co:=zhn (hF.below hb0) n (Nat.le_refl _) (hT.below (by have:=hF.store.lt;omega) hb0) (hX.below hb0);clear hF hT hX;generalize z0l d f n=L at *
 go_enter Tryz.func18,Tryz.ntmps18;go_wp2_with fail
 refine co.mono ?_;rintro e w2 ⟨rfl,hb2⟩;clear co;have hst:=run_storeCells_new (P:=Tryz.prog) w2 23 (UARR .u8 32 fun _=>0) (UARR .u8 32 L) (z03 _) (by rw [z02,z02]) (z0g _ _ _);have hsu:=z02 .u8 32 L;obtain ⟨w3,hw3⟩:∃ w3,w2.alloc (.cells (UARR .u8 32 L) 23)=w3:=⟨_,rfl⟩
 have hb3:Below w0.heap.size w0 w3:=by rw [<-hw3];exact hb2.alloc hb2.size _
 have hF3:Has w3 w2.heap.size (UARR .u8 32 L) 23:=by rw [<-hw3];exact Has.new w2 _ _
 have h43:=h40.keep hb3;have hb3':Below w.heap.size w w3:=hb0.trans (hb3.mono hb0.size);have hst2:=z0o h43 L
 go_wp2_with (first
  | (refine wpList_load_row rfl 23 (.tmp 3) rfl w2.heap.size rfl 23 (UARR .u8 32 L) (0,0) _ hF3 Tryz.underlying23 rfl (z03 _) ?_)
  | fail)
 refine bodyPost_ret (v:=.agg (UARR .u8 32 L)) ?_ rfl ⟨rfl,z0b hb3' (Nat.le_refl _) _⟩;exact z2A rfl _ _ w.heap.size 23 _ (0,0) _ _ rfl (h43.row _) Tryz.underlying23 (z03 _)
end Go.Proofs.YtnimaaflmdoaaaaGreatDoor.HX
namespace Go.Proofs.YtnimaaflmdoaaaaGreatDoor
open Go.RowKit
set_option maxRecDepth 100000
theorem z3s (f:Nat->Nat):NATS (LST f)=(List.range 32).map f:=by
 unfold NATS;apply List.map_congr_left;intro i hi;have hi':i<32:=by simpa using hi
 unfold FNC LST;rw [List.getD_eq_getElem?_getD,List.getElem?_map,List.getElem?_range hi'];simp
theorem ze5 (d:Int) (a b:Nat->Nat):z0t d (LST a) (LST b)=LST (HX.z5b d a b):=by
 unfold z0t HX.z5b;rw [z3s,z3s]
theorem ze6 (d:Int) (a b:Nat->Nat):z1s d (LST a) (LST b)=LST (HX.z5d d a b):=by
 unfold z1s HX.z5d;rw [z3s,z3s]
theorem ze7 (d:Int) (n:Nat) (a:Nat->Nat):z1x d n (LST a)=LST (HX.z3E d n a):=by
 unfold z1x HX.z3E;rw [z3s]
theorem ze8 (d:Int) (f:Nat->Nat->Nat) (h k:Nat):TVAL d f (h+1) k=z0t d (TVAL d f h (2*k)) (TVAL d f h (2*k+1)):=by
 unfold TVAL;rw [ze5,HX.VAL]
theorem z5e {M:Nat->Nat->List Int}:∀ {ss:List (Nat × Nat)},(∀ s∈ss,(M s.1 s.2).length=32)->∀ {t h k:Nat},ss[t]?=some (h,k)->HSH (CAT M ss) t=M h k
 | [],_,t,h,k,e=>by simp at e
 | s :: ss,hl,0,h,k,e=>by
   simp only [List.getElem?_cons_zero,Option.some.injEq] at e;subst e;have h1:=hl (h,k) (List.mem_cons_self ..);unfold HSH CAT;rw [List.flatMap_cons,Nat.mul_zero,List.drop_zero,List.take_append_of_le_length (by omega),List.take_of_length_le (by omega)]
 | s :: ss,hl,t+1,h,k,e=>by
   have h1:=hl s (List.mem_cons_self ..);have ih:=z5e (fun x hx=>hl x (List.mem_cons_of_mem _ hx)) (t:=t) (h:=h) (k:=k) (by simpa using e);rw [<-ih];unfold HSH CAT;rw [List.flatMap_cons,List.drop_append,List.drop_of_length_le (by omega),List.nil_append,h1,show 32*(t+1) - 32=32*t by omega]
theorem z7M (d:Int) (f:Nat->Nat->Nat) {i m:Nat} (hi:i<m):∀ t,t<=RISE i m->WAYH d (TVAL d f 0 i) i (CAT (TVAL d f) (PSP i m)) t=TVAL d f t (i / 2 ^ t)
 | 0,_=>by rw [WAYH,Nat.pow_zero,Nat.div_one]
 | t + 1,h=>by
   have ih:=z7M d f hi t (by omega);have hs:HSH (CAT (TVAL d f) (PSP i m)) t=TVAL d f t (SIB (i / 2 ^ t)):=z5e (fun s _=>z2S d f s.1 s.2) (z6T (by omega));have hd:i / 2 ^ (t+1)=i / 2 ^ t / 2:=by rw [Nat.pow_succ,Nat.div_div_eq_div_mul]
   rw [WAYH,ih,hs,hd,ze8];by_cases hq:i / 2 ^ t % 2=0
   ·obtain ⟨e1,e2⟩:=z2I.1 hq
    rw [if_pos hq,e1,e2]
   ·obtain ⟨e1,e2⟩:=z2I.2 (by omega:i / 2 ^ t % 2=1)
    rw [if_neg hq,e1,e2]
theorem zfD (d:Int) (f:Nat->Nat->Nat) {i m:Nat} (hi:i<m) (hm:m<=4611686018427387904) {h k:Nat} (hs:(h,k)∈SPAN 0 m):CLM d (TVAL d f 0 i) m i (CAT (TVAL d f) (PSP i m)) h k=TVAL d f h k:=by
 obtain ⟨j,hj⟩:=List.mem_iff_getElem?.1 hs;rw [z5J hi hm _ hj];unfold PEK;by_cases e:j=KTH i m
 ·rw [if_pos e]
  have h1:=(z3e hi hm).1;rw [<-e,hj] at h1;simp only [Option.some.injEq,Prod.mk.injEq] at h1;rw [h1.1,h1.2];exact z7M d f hi _ (Nat.le_refl _)
 ·rw [if_neg e]
  have h1:=z8K (i:=i) (n:=m) e;rw [hj] at h1;exact z5e (fun s _=>z2S d f s.1 s.2) h1
theorem zfE {M M':Nat->Nat->List Int} {ss:List (Nat × Nat)} (h:∀ x y,(x,y)∈ss->M x y=M' x y):CAT M ss=CAT M' ss:=by
 unfold CAT;rw [List.flatMap_def,List.flatMap_def];congr 1
 apply List.map_congr_left;rintro ⟨x,y⟩ hs;exact h x y hs
theorem zfF (d:Int) (f:Nat->Nat->Nat) {i m:Nat} (hi:i<m) (hm:m<=1000000):CLA d (TVAL d f 0 i) m i (PSP i m).length (CAT (TVAL d f) (PSP i m))=(0,PC m,CAT (TVAL d f) (SPAN 0 m)):=by
 have e:PLA i m=(0,PLCS (PSP i m)):=by unfold PLA;rw [if_neg (by omega),if_neg (by omega)]
 unfold CLA;rw [e];dsimp only;rw [z0P,if_neg (by simp),if_neg (by simp),zfE fun x y h=>zfD d f hi (by omega) h]
theorem zfG (d:Int) (f:Nat->Nat->Nat) {m:Nat} (hm:m<=1000000):HX.PKV d f m=(SPAN 0 m).map fun s=>HX.VAL d f s.1 s.2:=by
 have hl:=HX.z4A d f (m:=m) (by omega);have hs:=z1H (n:=m) (by omega);apply List.ext_getElem (by rw [hl,List.length_map,hs]);intro i h1 h2;have hi:i<PC m:=by omega
 have h3:=z2u (n:=m) (i:=i) (by omega) hi
 have h4:(SPAN 0 m)[i]'(by omega)=(HGT m i,KGT m i):=by
  rw [List.getElem?_eq_getElem (by omega)] at h3;exact Option.some.inj h3
 rw [List.getElem_map,h4];unfold HX.PKV at h1 ⊢;rw [List.getElem_map];have h5:i<(HS 0 m).length:=by simpa using h1
 have e:(HS 0 m)[i]=HGT m i:=by unfold HGT;rw [List.getD_eq_getElem?_getD,List.getElem?_eq_getElem h5,Option.getD_some]
 rw [e];rfl
theorem ze9 {d:Int} {l:List Int} {v:Nat->Nat->Nat} {n:Nat} (h:∀ i,i<n->HSH l i=LST (v i)) (hn:0<n):∀ k,k<n->FA d l n k=LST (HX.FAF d v n k)
 | 0,_=>by rw [FA,HX.FAF,h _ (by omega)]
 | k+1,hk=>by rw [FA,HX.FAF,ze9 h hn k (by omega),h _ (by omega),ze6]
theorem zgJ {d:Int} {l:List Int} {v:Nat->Nat->Nat} {n:Nat} (h:∀ i,i<n->HSH l i=LST (v i)):FLD d l n=LST (HX.FLDF d v n):=by
 unfold FLD HX.FLDF;by_cases hn:n=0
 ·rw [if_pos hn,if_pos hn]
  rfl
 ·rw [if_neg hn,if_neg hn]
  exact ze9 h (by omega) _ (by omega)
theorem zea (d:Int) (f:Nat->Nat->Nat) {m:Nat} (hm:m<=1000000):BAGA d m (PC m) (CAT (TVAL d f) (SPAN 0 m))=(0,LST (HX.z0l d f m)):=by
 unfold BAGA;rw [if_neg (by omega),if_neg (by simp)];unfold HX.z0l;rw [<-ze7];congr 2
 apply zgJ;intro i hi;have h3:=z2u (n:=m) (i:=i) (by omega) hi;rw [z5e (fun s _=>z2S d f s.1 s.2) h3];unfold TVAL;congr 1
 rw [zfG d f hm,List.getD_eq_getElem?_getD,List.getElem?_map,h3];rfl
theorem z7N (d:Int) (f:Nat->Nat->Nat) {i m:Nat} (hi:i<m) (hm:m<=1000000):MEMA d (LST (HX.z0l d f m)) m i (TVAL d f 0 i) (PRB m i (CAT (TVAL d f) (PSP i m)))=0:=by
 have hD:DEC (PRB m i (CAT (TVAL d f) (PSP i m)))=(0,m,i,(PSP i m).length,CAT (TVAL d f) (PSP i m)):=by
  rw [z9Y hi hm,z9X,if_neg (by omega),if_neg (by omega)]
 unfold MEMA;rw [hD];dsimp only;rw [if_neg (by simp),if_neg (by simp),if_neg (by simp),zfF d f hi hm];unfold UNDA;rw [zea d f hm,if_pos ⟨rfl,rfl⟩]
end Go.Proofs.YtnimaaflmdoaaaaGreatDoor
namespace Go.Proofs.YtnimaaflmdoaaaaGreatDoor.HX
open Go.RowKit
set_option maxRecDepth 100000
structure GROWING (w wx:World) (B g:Nat) (d:Int) (log n j b:Nat) (C Cj:z04) (f:Nat->Nat->Nat):Prop where
 store:STORE wx B g log (z05 n+1+j) (z05 n+1+j) (z05 n+1+j) Cj
 width:wx.cell? ⟨g,5,none⟩=some (.int .i64 d)
 size:wx.cell? ⟨g,6,none⟩=some (.int .u64 ((n+1:Nat):Int))
 free:wx.frozen? ⟨g,6,none⟩=false
 old:∀ h k,(k+1)*2 ^ h<=n->AT Cj log (PLC h k)=some (VAL d f h k)
 new:∀ i,i<=j->AT Cj log (z05 n+i)=some (VAL d f i (n / 2 ^ i))
 ones:ONES n j
 held:Has wx b (UARR .u8 32 (VAL d f j (n / 2 ^ j))) 23
 off:¬ FOOT wx g Cj b
 step:TSTEP w wx g C Cj
 below:Below B w wx
 base:w.heap.size<=b
theorem GROWING.lt {w wx:World} {B g:Nat} {d:Int} {log n j b:Nat} {C Cj:z04} {f:Nat->Nat->Nat} (h:GROWING w wx B g d log n j b C Cj f):b≠g/\b<wx.heap.size/\g<wx.heap.size:=by
 refine ⟨fun e=>?_,h.held.lt,h.store.lt⟩;obtain ⟨cs,t,fr,k1,_,_,k4⟩:=h.store.kind;have h1:=h.held;unfold Has at h1;rw [e,k1] at h1;cases Option.some.inj h1;exact k4 rfl
theorem GROWING.keep {w wx w':World} {B g:Nat} {d:Int} {log n j b:Nat} {C Cj:z04} {f:Nat->Nat->Nat} (h:GROWING w wx B g d log n j b C Cj f) (hBx:B<=wx.heap.size) (hb:Below wx.heap.size wx w'):GROWING w w' B g d log n j b C Cj f:=by
 have hg:=h.store.lt;have hst:=STEP.below h.store hb;refine ⟨h.store.below hb,(hb.cell (p:=⟨g,5,none⟩) hg).trans h.width,(hb.cell (p:=⟨g,6,none⟩) hg).trans h.size,(World.frozen?_of_block (w:=wx) (by exact hb.block g hg)).trans h.free,h.old,h.new,h.ones,h.held.keep hb,fun hf=>?_,h.step.trans hst.tree,h.below.trans (hb.mono hBx),h.base⟩;rcases hst.foot b hf with h1 | h1
 ·exact h.off h1
 ·have:=h.lt.2.1
  omega
theorem GROWING.moved {w wx:World} {B g:Nat} {d:Int} {log n j b:Nat} {C Cj:z04} {f:Nat->Nat->Nat} (h:GROWING w wx B g d log n j b C Cj f) (hBx:B<=wx.heap.size):
  GROWING w (wx.alloc (.cells (UARR .u8 32 (VAL d f j (n / 2 ^ j))) 23)) B g d log n j wx.heap.size C Cj f:=by
 have hk:=h.keep hBx ((Below.refl _ _).alloc (Nat.le_refl _) (.cells (UARR .u8 32 (VAL d f j (n / 2 ^ j))) 23));refine ⟨hk.store,hk.width,hk.size,hk.free,hk.old,hk.new,hk.ones,Has.new _ _ _,fun hf=>?_,hk.step,hk.below,h.step.size⟩;exact absurd (h.store.foot_lt (h.store.foot_below ((Below.refl wx.heap.size wx).alloc (Nat.le_refl _) _) hf)) (Nat.lt_irrefl _)
theorem GROWING.off_row {w wx:World} {B g:Nat} {d:Int} {log n j b:Nat} {C Cj:z04} {f:Nat->Nat->Nat} (h:GROWING w wx B g d log n j b C Cj f) (hBw:B<=w.heap.size) (y:Nat->Nat):
  STORE (wx.setRow b (UARR .u8 32 y)) B g log (z05 n+1+j) (z05 n+1+j) (z05 n+1+j) Cj/\(∀ i,(wx.setRow b (UARR .u8 32 y)).cell? ⟨g,i,none⟩=wx.cell? ⟨g,i,none⟩)/\(wx.setRow b (UARR .u8 32 y)).frozen? ⟨g,6,none⟩=false/\Has (wx.setRow b (UARR .u8 32 y)) b (UARR .u8 32 y) 23/\¬ FOOT (wx.setRow b (UARR .u8 32 y)) g Cj b/\TSTEP w (wx.setRow b (UARR .u8 32 y)) g C Cj/\Below B w (wx.setRow b (UARR .u8 32 y)):=by
 have hblk:∀ x,x≠b->(wx.setRow b (UARR .u8 32 y)).heap[x]?=wx.heap[x]?:=fun x hx=>setRow_other wx b x _ hx;have hsz:(wx.setRow b (UARR .u8 32 y)).heap.size=wx.heap.size:=by simp
 obtain ⟨hbg,hbl,hgl⟩:=h.lt;obtain ⟨s1,s2,s3⟩:=h.store.same (b:=b) (fun x _ hx=>hblk x hx) h.off (fun e=>hbg e.symm);refine ⟨s1,s3,(World.frozen?_of_block (w:=wx) (by exact hblk g (fun e=>hbg e.symm))).trans h.free,h.held.row _,fun hf=>h.off (s2 b hf),⟨fun x hx=>h.step.foot x (s2 x hx),fun x hx hxg hf=>?_,by rw [hsz];exact h.step.size⟩,z0b h.below (Nat.le_trans hBw h.base) _⟩;have hxb:x≠b:=fun e=>by have:=h.base;omega
 exact (hblk x hxb).trans (h.step.same x hx hxg hf)
theorem z77 {w wx w':World} {B g:Nat} {d:Int} {log n j b:Nat} {C Cj:z04} {f:Nat->Nat->Nat} {y:Nat->Nat}
  (hw5:wx.cell? ⟨g,5,none⟩=some (.int .i64 d)) (hw6:wx.cell? ⟨g,6,none⟩=some (.int .u64 ((n+1:Nat):Int)))
  (hold:∀ h k,(k+1)*2 ^ h<=n->AT Cj log (PLC h k)=some (VAL d f h k)) (hnew:∀ i,i<=j->AT Cj log (z05 n+i)=some (VAL d f i (n / 2 ^ i))) (hones:ONES n (j+1))
  (hheld:Has wx b (UARR .u8 32 y) 23) (hy:y=VAL d f (j+1) (n / 2 ^ (j+1))) (hoff:¬ FOOT wx g Cj b) (hbg:b≠g) (hstep:TSTEP w wx g C Cj) (hbel:Below B w wx) (hbase:w.heap.size<=b)
  (hP:z3Z wx B g log (z05 n+1+j) (z05 n+1+j) (z05 n+1+j) Cj y w'):∃ C',GROWING w w' B g d log n (j+1) b C C' f:=by
 obtain ⟨C',s1,s2,s3,s4⟩:=hP;have hbl:=hheld.lt;refine ⟨C',⟨s1,(s3.pins 5 (by decide)).trans hw5,(s3.pins 6 (by decide)).trans hw6,s1.live 6 (by decide),fun h k hk=>?_,fun i hi=>?_,hones,?_,fun hf=>?_,hstep.trans s3.tree,hbel.trans s4,hbase⟩⟩
 ·rw [s2,if_neg ?_]
  ·exact hold h k hk
  ·have h1:=z3C hk
   omega
 ·by_cases e:i=j+1
  ·subst e
   rw [s2,if_pos (by omega),hy]
  ·rw [s2,if_neg (by omega)]
   exact hnew i (by omega)
 ·rw [<-hy]
  exact (s3.same b hbl hbg hoff).trans hheld
 ·rcases s3.foot b hf with h1 | h1
  ·exact hoff h1
  ·omega
end Go.Proofs.YtnimaaflmdoaaaaGreatDoor.HX
