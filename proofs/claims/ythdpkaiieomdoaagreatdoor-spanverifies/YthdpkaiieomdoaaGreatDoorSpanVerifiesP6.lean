/- Texts of SpanVerifies, one behind the other: VerifyRegions, HashPlain, HashWordCalls, HashArr. -/
import Derived.WalkKit
import Derived.WalkLawsBesides
import Derived.OpenShut
import Derived.Laws.BitsAllLaws
import Derived.Test.YthdpkaiieomdoaaGreatDoorProg
import Derived.Deep.WholeRow
import Derived.Deep.LoopGhost
import Derived.Laws.ResultCell
import Derived.Laws.Rows
import Derived.Laws.Tables
import Derived.Test.YthdpkaiieomdoaaGreatDoorSpanVerifiesP5
namespace Go.Proofs.YthdpkaiieomdoaaGreatDoor
open Go.RowKit
set_option maxRecDepth 100000
theorem z8x {w:World} {g:Nat} {x y:List Int} (h:Has w g (z00 x).toArray 23) (hx:x.length=32) (hy:y.length=32):(Instr.storeAt 23 (.pointer (some ⟨g,0,none⟩)) (.agg (z00 y).toArray)).run Tryz.prog w=.ok () (w.setRow g (z00 y).toArray):=by
  simp only [Instr.storeAt,Instr.sureAddr,Sem.run_bind,Sem.run_pure,Result.andThen]
  exact run_storeVar_row w g 23 23 (z00 x).toArray (z00 y).toArray h (z03 hy) (by simp [z00,hx,hy]) (z0i y)
@[go_sem] def VFOPSq0:Oper:=⟨some 25,.move (.tmp 0),3,"grow.go:30",#[],none⟩
@[go_sem] def VFOPSq1:Oper:=⟨some 26,.move (.tmp 1),25,"grow.go:30",#[],none⟩
@[go_sem] def VFOPSq2:Oper:=⟨some 27,.move (.tmp 7),3,"grow.go:30",#[],none⟩
@[go_sem] def VFOPSq3:Oper:=⟨some 28,.indexAddr 25 (.tmp 26) (.tmp 27),0,"grow.go:30",#[⟨1,.data⟩,⟨2,.data⟩],none⟩
@[go_sem] def VFOPSq4:Oper:=⟨some 29,.load 23 (.tmp 28),23,"grow.go:30",#[⟨3,.data⟩],none⟩
@[go_sem] def VFOPSq5:Oper:=⟨some 30,.load 23 (.tmp 6),23,"grow.go:30",#[],none⟩
@[go_sem] def VFOPSq6:Oper:=⟨some 31,.call {callee:=.value (.func 117),args:=#[.tmp 25,.tmp 29,.tmp 30],argTypes:=#[3,23,23]},23,"grow.go:30",#[⟨0,.data⟩,⟨4,.data⟩,⟨5,.data⟩],none⟩
@[go_sem] def VFOPSq7:Oper:=⟨none,.store 23 (.tmp 6) (.tmp 31),0,"grow.go:30",#[⟨6,.data⟩,⟨6,.chain⟩,⟨0,.phase⟩,⟨1,.phase⟩,⟨2,.phase⟩,⟨3,.phase⟩,⟨4,.phase⟩,⟨5,.phase⟩,⟨6,.phase⟩],none⟩
def z36:Array Oper:=#[VFOPSq0,VFOPSq1,VFOPSq2,VFOPSq3,VFOPSq4,VFOPSq5,VFOPSq6,VFOPSq7]
set_option maxHeartbeats 2000000 in
theorem z71 {Q:Exit→Act→World→Prop} (u2 u3 u4 u5 u8 u9 u10 u11 u12 u13 u14 u15 u16 u17 u18 u19 u20 u21 u22 u23 u24 u25 u26 u27 u28 u29 u30 u31 u32:Value) (W:World) (b6 gn o n c i:Nat) (d:Int) (L R Y:List Int) (hL:L.length=32) (hR:R.length=32) (hY:Y.length=32) (b1:(i:Int)<(n:Int)) (hLr:W.drew.rangeAt gn (o+i*32) (z00 L)) (hRr:W.drew.rangeAt b6 0 (z00 R)) (T:World→Prop) (cF:Calls Tryz.prog 117 #[.int .i64 d,.agg (z00 L).toArray,.agg (z00 R).toArray] W.drew fun e w'=>∃ X,e=.returned X∧(X=.agg (z00 Y).toArray∧Has w' b6 (z00 R).toArray 23∧T w')) (hQ:∀ c (a:Act) (t:Tmp) (v:Value) w,Q (.panic c) (a.put (some t) v) w→Q (.panic c) a w)
    (h:∀ (X:Value) (w':World),(X=.agg (z00 Y).toArray∧Has w' b6 (z00 R).toArray 23∧T w')→Q .normal {tmps:=#[.int .i64 d,.slice (some ⟨gn,o,none⟩) n c,u2,u3,u4,u5,.pointer (some ⟨b6,0,none⟩),.int .i64 (i:Int),u8,u9,u10,u11,u12,u13,u14,u15,u16,u17,u18,u19,u20,u21,u22,u23,u24,.int .i64 d,.slice (some ⟨gn,o,none⟩) n c,.int .i64 (i:Int),.pointer (some ⟨gn,o+i*32,none⟩),.agg (z00 L).toArray,.agg (z00 R).toArray,X,u32],defers:=[]} (World.setRow w' b6 (z00 Y).toArray)):(Code.region 8 z36 true).wp Tryz.prog Q {tmps:=#[.int .i64 d,.slice (some ⟨gn,o,none⟩) n c,u2,u3,u4,u5,.pointer (some ⟨b6,0,none⟩),.int .i64 (i:Int),u8,u9,u10,u11,u12,u13,u14,u15,u16,u17,u18,u19,u20,u21,u22,u23,u24,u25,u26,u27,u28,u29,u30,u31,u32],defers:=[]} W:=by
  have kX:∀ (X:Value) (w':World),(X=.agg (z00 Y).toArray∧Has w' b6 (z00 R).toArray 23∧T w')→wpAny Tryz.prog .any z36 Q 1 #[true,true,true,true,true,true,true,false] {tmps:=#[.int .i64 d,.slice (some ⟨gn,o,none⟩) n c,u2,u3,u4,u5,.pointer (some ⟨b6,0,none⟩),.int .i64 (i:Int),u8,u9,u10,u11,u12,u13,u14,u15,u16,u17,u18,u19,u20,u21,u22,u23,u24,.int .i64 d,.slice (some ⟨gn,o,none⟩) n c,.int .i64 (i:Int),.pointer (some ⟨gn,o+i*32,none⟩),.agg (z00 L).toArray,.agg (z00 R).toArray,X,u32],defers:=[]} w':=fun X w' hX=>by
    have z:wpAny Tryz.prog .any z36 Q 0 #[true,true,true,true,true,true,true,true] {tmps:=#[.int .i64 d,.slice (some ⟨gn,o,none⟩) n c,u2,u3,u4,u5,.pointer (some ⟨b6,0,none⟩),.int .i64 (i:Int),u8,u9,u10,u11,u12,u13,u14,u15,u16,u17,u18,u19,u20,u21,u22,u23,u24,.int .i64 d,.slice (some ⟨gn,o,none⟩) n c,.int .i64 (i:Int),.pointer (some ⟨gn,o+i*32,none⟩),.agg (z00 L).toArray,.agg (z00 R).toArray,X,u32],defers:=[]} (World.setRow w' b6 (z00 Y).toArray):=wpAny_done (by kernel_rfl) (h X w' hX) _
    have z7:wpAny Tryz.prog .any z36 Q 1 #[true,true,true,true,true,true,true,false] {tmps:=#[.int .i64 d,.slice (some ⟨gn,o,none⟩) n c,u2,u3,u4,u5,.pointer (some ⟨b6,0,none⟩),.int .i64 (i:Int),u8,u9,u10,u11,u12,u13,u14,u15,u16,u17,u18,u19,u20,u21,u22,u23,u24,.int .i64 d,.slice (some ⟨gn,o,none⟩) n c,.int .i64 (i:Int),.pointer (some ⟨gn,o+i*32,none⟩),.agg (z00 L).toArray,.agg (z00 R).toArray,X,u32],defers:=[]} w':=by
      refine wpAny_ready (rs:=[7]) (by kernel_rfl) (by simp) ?_
      exact AllReady.cons (o:=VFOPSq7) rfl (fun K hK=>z0J rfl (z5k (by obtain ⟨rfl,hb,_⟩:=hX;exact z8x hb hR hY)) (hK _ _ z)) AllReady.nil
    exact z7
  have s4_5:wpAny Tryz.prog .any z36 Q 2 #[true,true,true,true,true,true,false,false] {tmps:=#[.int .i64 d,.slice (some ⟨gn,o,none⟩) n c,u2,u3,u4,u5,.pointer (some ⟨b6,0,none⟩),.int .i64 (i:Int),u8,u9,u10,u11,u12,u13,u14,u15,u16,u17,u18,u19,u20,u21,u22,u23,u24,.int .i64 d,.slice (some ⟨gn,o,none⟩) n c,.int .i64 (i:Int),.pointer (some ⟨gn,o+i*32,none⟩),.agg (z00 L).toArray,.agg (z00 R).toArray,u31,u32],defers:=[]} W.drew:=by
    refine wpAny_ready (rs:=[6]) (by kernel_rfl) (by simp) ?_
    refine AllReady.cons (o:=VFOPSq6) rfl (fun K hK=>?_) ?_
    · rw [if_pos (by rfl)]
      go_simp
      refine (cF).mono ?_
      rintro e w' ⟨X,rfl,hX⟩
      exact hK _ _ (kX X w' hX)
    exact AllReady.nil
  have s5:wpAny Tryz.prog .any z36 Q 3 #[true,true,true,true,false,true,false,false] {tmps:=#[.int .i64 d,.slice (some ⟨gn,o,none⟩) n c,u2,u3,u4,u5,.pointer (some ⟨b6,0,none⟩),.int .i64 (i:Int),u8,u9,u10,u11,u12,u13,u14,u15,u16,u17,u18,u19,u20,u21,u22,u23,u24,.int .i64 d,.slice (some ⟨gn,o,none⟩) n c,.int .i64 (i:Int),.pointer (some ⟨gn,o+i*32,none⟩),u29,.agg (z00 R).toArray,u31,u32],defers:=[]} W.drew:=by
    refine wpAny_ready (rs:=[4]) (by kernel_rfl) (by simp) ?_
    refine AllReady.cons (o:=VFOPSq4) rfl (fun K hK=>z3w (v:=.agg (z00 L).toArray) rfl (z1z (run_loadAt_mid (P:=Tryz.prog) _ gn (o+i*32) 23 _ _ hLr Tryz.underlying23 rfl (z0j hL))) (hK _ _ s4_5)) ?_
    exact AllReady.nil
  have s4:wpAny Tryz.prog .any z36 Q 3 #[true,true,true,true,true,false,false,false] {tmps:=#[.int .i64 d,.slice (some ⟨gn,o,none⟩) n c,u2,u3,u4,u5,.pointer (some ⟨b6,0,none⟩),.int .i64 (i:Int),u8,u9,u10,u11,u12,u13,u14,u15,u16,u17,u18,u19,u20,u21,u22,u23,u24,.int .i64 d,.slice (some ⟨gn,o,none⟩) n c,.int .i64 (i:Int),.pointer (some ⟨gn,o+i*32,none⟩),.agg (z00 L).toArray,u30,u31,u32],defers:=[]} W.drew:=by
    refine wpAny_ready (rs:=[5]) (by kernel_rfl) (by simp) ?_
    refine AllReady.cons (o:=VFOPSq5) rfl (fun K hK=>z3w (v:=.agg (z00 R).toArray) rfl (z1z (run_loadAt_mid (P:=Tryz.prog) _ b6 0 23 _ _ hRr Tryz.underlying23 rfl (z0j hR))) (hK _ _ s4_5)) ?_
    exact AllReady.nil
  have s:wpAny Tryz.prog .any z36 Q 4 #[true,true,true,true,false,false,false,false] {tmps:=#[.int .i64 d,.slice (some ⟨gn,o,none⟩) n c,u2,u3,u4,u5,.pointer (some ⟨b6,0,none⟩),.int .i64 (i:Int),u8,u9,u10,u11,u12,u13,u14,u15,u16,u17,u18,u19,u20,u21,u22,u23,u24,.int .i64 d,.slice (some ⟨gn,o,none⟩) n c,.int .i64 (i:Int),.pointer (some ⟨gn,o+i*32,none⟩),u29,u30,u31,u32],defers:=[]} W.drew:=by
    refine wpAny_ready (rs:=[4,5]) (by kernel_rfl) (by simp) ?_
    refine AllReady.cons (o:=VFOPSq4) rfl (fun K hK=>z3w (v:=.agg (z00 L).toArray) rfl (z1z (run_loadAt_mid (P:=Tryz.prog) _ gn (o+i*32) 23 _ _ hLr Tryz.underlying23 rfl (z0j hL))) (hK _ _ s4)) ?_
    refine AllReady.cons (o:=VFOPSq5) rfl (fun K hK=>z3w (v:=.agg (z00 R).toArray) rfl (z1z (run_loadAt_mid (P:=Tryz.prog) _ b6 0 23 _ _ hRr Tryz.underlying23 rfl (z0j hR))) (hK _ _ s5)) ?_
    exact AllReady.nil
  refine wp_region_any (by kernel_rfl) ?_
  refine tkB VFOPSq0 (.int .i64 d) 0 hQ ?_
  simp only [List.set]
  refine tkB VFOPSq1 (.slice (some ⟨gn,o,none⟩) n c) 1 hQ ?_
  simp only [List.set]
  refine tkB VFOPSq2 (.int .i64 (i:Int)) 2 hQ ?_
  simp only [List.set]
  refine tkB VFOPSq3 (.pointer (some ⟨gn,o+i*32,none⟩)) 3 hQ ?_
  simp only [List.set]
  exact s
end Go.Proofs.YthdpkaiieomdoaaGreatDoor

namespace Go.Proofs.YthdpkaiieomdoaaGreatDoor.HX
open Go.RowKit
def ROTR (n x:Nat):Nat:=x / 2 ^ n+x % 2 ^ n*2 ^ (32 - n)
theorem z0p {n x:Nat} (hn:n≤32) (hx:x<2 ^ 32):ROTR n x<2 ^ 32:=by
  unfold ROTR
  have h1:(2:Nat) ^ 32=2 ^ n*2 ^ (32 - n):=by rw [← Nat.pow_add];congr 1;omega
  have h2:x / 2 ^ n<2 ^ (32 - n):=by
    apply Nat.div_lt_of_lt_mul
    rw [← h1];exact hx
  have h3:x % 2 ^ n+1≤2 ^ n:=Nat.mod_lt _ (Nat.two_pow_pos n)
  have h4:=Nat.mul_le_mul_right (2 ^ (32 - n)) h3
  rw [Nat.add_mul,Nat.one_mul,← h1] at h4
  omega
theorem zf9 {n x:Nat} (hn:n≤32) (hx:x<2 ^ 32):x*2 ^ (32 - n) % 2 ^ 32 ||| x / 2 ^ n=ROTR n x:=by
  have h1:(2:Nat) ^ 32=2 ^ n*2 ^ (32 - n):=by rw [← Nat.pow_add];congr 1;omega
  have h2:x / 2 ^ n<2 ^ (32 - n):=by
    apply Nat.div_lt_of_lt_mul
    rw [← h1];exact hx
  have h3:x*2 ^ (32 - n) % 2 ^ 32=x % 2 ^ n*2 ^ (32 - n):=by
    rw [h1,Nat.mul_mod_mul_right]
  rw [h3,nat_join (32 - n) _ _ (Nat.mul_mod_left _ _) h2]
  unfold ROTR
  omega
def MIX (i j k x:Nat):Nat:=ROTR i x ^^^ ROTR j x ^^^ ROTR k x
def z11 (i j k x:Nat):Nat:=ROTR i x ^^^ ROTR j x ^^^ x / 2 ^ k
def CHO (x y z:Nat):Nat:=(x &&& y) ^^^ ((4294967295 - x) &&& z)
def MAJ (x y z:Nat):Nat:=(x &&& y) ^^^ (x &&& z) ^^^ (y &&& z)
theorem zbs {i j k x:Nat} (hi:i≤32) (hj:j≤32) (hk:k≤32) (hx:x<2 ^ 32):MIX i j k x<2 ^ 32:=Nat.xor_lt_two_pow (Nat.xor_lt_two_pow (z0p hi hx) (z0p hj hx)) (z0p hk hx)
theorem z7y {i j k x:Nat} (hi:i≤32) (hj:j≤32) (hx:x<2 ^ 32):z11 i j k x<2 ^ 32:=Nat.xor_lt_two_pow (Nat.xor_lt_two_pow (z0p hi hx) (z0p hj hx)) (Nat.lt_of_le_of_lt (Nat.div_le_self _ _) hx)
theorem zbt {x y z:Nat} (hx:x<2 ^ 32) (hz:z<2 ^ 32):CHO x y z<2 ^ 32:=Nat.xor_lt_two_pow (Nat.lt_of_le_of_lt Nat.and_le_left hx) (Nat.lt_of_le_of_lt Nat.and_le_right hz)
theorem zbu {x y z:Nat} (hx:x<2 ^ 32) (hy:y<2 ^ 32):MAJ x y z<2 ^ 32:=Nat.xor_lt_two_pow (Nat.xor_lt_two_pow (Nat.lt_of_le_of_lt Nat.and_le_left hx) (Nat.lt_of_le_of_lt Nat.and_le_left hx)) (Nat.lt_of_le_of_lt Nat.and_le_left hy)
def z05 (s:Nat→Nat) (o:Nat):Nat:=s o*16777216+s (o+1)*65536+s (o+2)*256+s (o+3)
theorem z18 {s:Nat→Nat} (o:Nat) (h:∀ i,s i<256):z05 s o<2 ^ 32:=by
  have h0:=h o;have h1:=h (o+1);have h2:=h (o+2);have h3:=h (o+3)
  unfold z05
  omega
def SCHL (b:Nat→Nat):Nat→Nat→Nat
  | 0,t=>if t<16 then z05 b (4*t) else 0
  | k+1,t=>if t=16+k then (z11 17 19 10 (SCHL b k (14+k))+SCHL b k (9+k)+z11 7 18 3 (SCHL b k (1+k))+SCHL b k k) % 4294967296 else SCHL b k t
def SCH (b:Nat→Nat):Nat→Nat:=SCHL b 48
theorem z1V {b:Nat→Nat} (h:∀ i,b i<256):∀ k t,SCHL b k t<2 ^ 32
  | 0,t=>by
    unfold SCHL
    split
    · exact z18 _ h
    · decide
  | k+1,t=>by
    unfold SCHL
    split
    · exact Nat.mod_lt _ (by decide)
    · exact z1V h k t
theorem z5F (b:Nat→Nat) (k:Nat):∀ m t,t<16+k→SCHL b (k+m) t=SCHL b k t
  | 0,_,_=>rfl
  | m+1,t,h=>by
    show SCHL b (k+m+1) t=_
    rw [SCHL,if_neg (by omega)]
    exact z5F b k m t h
def KLIST:List Nat:=[1116352408,1899447441,3049323471,3921009573,961987163,1508970993,2453635748,2870763221,3624381080,310598401,607225278,1426881987,1925078388,2162078206,2614888103,3248222580,3835390401,4022224774,264347078,604807628,770255983,1249150122,1555081692,1996064986,2554220882,2821834349,2952996808,3210313671,3336571891,3584528711,113926993,338241895,666307205,773529912,1294757372,1396182291,1695183700,1986661051,2177026350,2456956037,2730485921,2820302411,3259730800,3345764771,3516065817,3600352804,4094571909,275423344,430227734,506948616,659060556,883997877,958139571,1322822218,1537002063,1747873779,1955562222,2024104815,2227730452,2361852424,2428436474,2756734187,3204031479,3329325298]
def KC (t:Nat):Nat:=KLIST.getD t 0
theorem zfA (t:Nat):KC t<2 ^ 32:=by
  by_cases h:t<64
  · have:∀ i,i<64→KC i<2 ^ 32:=by decide
    exact this t h
  · have:KLIST.length=64:=rfl
    unfold KC
    rw [List.getD_eq_getElem?_getD,List.getElem?_eq_none (by omega)]
    decide
structure ST where
  a:Nat
  b:Nat
  c:Nat
  d:Nat
  e:Nat
  f:Nat
  g:Nat
  h:Nat
def T1 (k x:Nat) (s:ST):Nat:=(s.h+MIX 6 11 25 s.e+CHO s.e s.f s.g+k+x) % 4294967296
def T2 (s:ST):Nat:=(MIX 2 13 22 s.a+MAJ s.a s.b s.c) % 4294967296
def RND (k x:Nat) (s:ST):ST:={a:=(T1 k x s+T2 s) % 4294967296,b:=s.a,c:=s.b,d:=s.c,e:=(s.d+T1 k x s) % 4294967296,f:=s.e,g:=s.f,h:=s.g}
def Small (s:ST):Prop:=s.a<2 ^ 32∧s.b<2 ^ 32∧s.c<2 ^ 32∧s.d<2 ^ 32∧s.e<2 ^ 32∧s.f<2 ^ 32∧s.g<2 ^ 32∧s.h<2 ^ 32
theorem Small.rnd {s:ST} (h:Small s) (k x:Nat):Small (RND k x s):=by
  obtain ⟨h1,h2,h3,h4,h5,h6,h7,h8⟩:=h
  exact ⟨Nat.mod_lt _ (by decide),h1,h2,h3,Nat.mod_lt _ (by decide),h5,h6,h7⟩
def RUN (x:Nat→Nat) (s:ST):Nat→ST
  | 0=>s
  | t+1=>RND (KC t) (x t) (RUN x s t)
theorem z4d (x:Nat→Nat) {s:ST} (h:Small s):∀ t,Small (RUN x s t)
  | 0=>h
  | t+1=>(z4d x h t).rnd _ _
def STOF (s:Nat→Nat):ST:={a:=z05 s 0,b:=z05 s 4,c:=z05 s 8,d:=z05 s 12,e:=z05 s 16,f:=z05 s 20,g:=z05 s 24,h:=z05 s 28}
theorem z5G {s:Nat→Nat} (h:∀ i,s i<256):Small (STOF s):=
  ⟨z18 _ h,z18 _ h,z18 _ h,z18 _ h,z18 _ h,z18 _ h,z18 _ h,z18 _ h⟩
def ST.at (s:ST):Nat→Nat
  | 0=>s.a
  | 1=>s.b
  | 2=>s.c
  | 3=>s.d
  | 4=>s.e
  | 5=>s.f
  | 6=>s.g
  | 7=>s.h
  | _=>0
def OUTW (s b:Nat→Nat) (i:Nat):Nat:=(z05 s (4*i)+(RUN (SCH b) (STOF s) 64).at i) % 4294967296
def z0a (x:Nat→Nat) (i:Nat):Nat:=x (i / 4) / 2 ^ (24 - 8*(i % 4)) % 256
def WID (w:Int):Nat:=(min (max w 1) 32).toNat
def z0z (w:Int) (s:Nat→Nat) (i:Nat):Nat:=if i<WID w then s i else 0
def COMP (w:Int) (s b:Nat→Nat):Nat→Nat:=z0z w (z0a (OUTW s b))
theorem z7z (x:Nat→Nat) (i:Nat):z0a x i<256:=Nat.mod_lt _ (by decide)
theorem z6y {w:Int} {s:Nat→Nat} (h:∀ i,s i<256) (i:Nat):z0z w s i<256:=by
  unfold z0z
  split
  · exact h i
  · decide
theorem zed (w:Int) (s b:Nat→Nat) (i:Nat):COMP w s b i<256:=z6y (z7z _) i
theorem zaf (w:Int):1≤WID w∧WID w≤32:=by unfold WID;omega
end Go.Proofs.YthdpkaiieomdoaaGreatDoor.HX

namespace Go.Proofs.YthdpkaiieomdoaaGreatDoor.HX
open Go.RowKit
theorem z4F (z:Int):IntKind.u32.wrap z=z % 2 ^ 32:=by rw [IntKind.wrap_u32];rfl
theorem z37 {a b:Nat} (ha:a<2 ^ 32) (hb:b<2 ^ 32):bits .xor .u32 (a:Int) (b:Int)=((a ^^^ b:Nat):Int):=u32_xor_nat a b ha hb
theorem z5H {a b:Nat} (ha:a<2 ^ 32) (hb:b<2 ^ 32):bits .and .u32 (a:Int) (b:Int)=((a &&& b:Nat):Int):=u32_and_nat a b ha hb
theorem or32 {a b:Nat} (ha:a<2 ^ 32) (hb:b<2 ^ 32):bits .or .u32 (a:Int) (b:Int)=((a ||| b:Nat):Int):=u32_or_nat a b ha hb
theorem zcU (x n s a b r:Int) (w:World) (hs:bits .and .u64 (IntKind.u64.wrap n) 31=s) (h0:0≤s) (h1:0≤IntKind.u64.wrap (32 - s)) (ha:IntKind.u32.wrap (x*2 ^ min s.toNat 32)=a) (hb:x / 2 ^ min (IntKind.u64.wrap (32 - s)).toNat 32=b) (hr:bits .or .u32 a b=r):
    Calls Tryz.prog 203 #[.int .u32 x,.int .i64 n] w fun e w'=>e=.returned (.int .u32 r)∧w=w':=by
  go_enter Tryz.func203,Tryz.ntmps203
  go_wp2
  go_ret
  exact ⟨rfl,rfl⟩
theorem zfB (n:Nat) (h1:1≤n) (h2:n<32):bits .and .u64 (IntKind.u64.wrap (wrap64 (-(n:Int)))) 31=((32 - n:Nat):Int):=by
  have e:IntKind.u64.wrap (wrap64 (-(n:Int)))=((18446744073709551616 - n:Nat):Int):=by
    rw [z09]
    unfold wrap64
    omega
  have f:(31:Int)=((31:Nat):Int):=rfl
  rw [e,f,z41 (by omega) (by decide)]
  congr 1
  have:(31:Nat)=2 ^ 5 - 1:=rfl
  rw [this,Nat.and_two_pow_sub_one_eq_mod]
  omega
theorem zee (X n:Nat) (hX:X<2 ^ 32) (h1:1≤n) (h2:n<32) (w:World):Calls Tryz.prog 203 #[.int .u32 (X:Int),.int .i64 (wrap64 (-(n:Int)))] w fun e w'=>e=.returned (.int .u32 ((ROTR n X:Nat):Int))∧w=w':=by
  have e:IntKind.u64.wrap (32 - ((32 - n:Nat):Int))=(n:Int):=by rw [z09];omega
  refine zcU X _ ((32 - n:Nat):Int) ((X*2 ^ (32 - n) % 2 ^ 32:Nat):Int) ((X / 2 ^ n:Nat):Int) _ w (zfB n h1 h2) (by omega) (by rw [e];omega) ?_ ?_ ?_
  · rw [Int.toNat_natCast,show min (32 - n) 32=32 - n by omega,z4F]
    simp
  · rw [e,Int.toNat_natCast,show min n 32=n by omega,z2M]
  · rw [or32 (Nat.mod_lt _ (by decide)) (Nat.lt_of_le_of_lt (Nat.div_le_self _ _) hX),zf9 (by omega) hX]
theorem z46 (x n r:Int) (w:World) (c:∀ w,Calls Tryz.prog 203 #[.int .u32 x,.int .i64 (wrap64 (-n))] w fun e w'=>e=.returned (.int .u32 r)∧w=w'):
    Calls Tryz.prog 193 #[.int .u32 x,.int .i64 n] w fun e w'=>e=.returned (.int .u32 r)∧w=w':=by
  go_enter Tryz.func193,Tryz.ntmps193
  go_wp2_with fail
  refine (c _).mono ?_
  rintro e w' ⟨rfl,rfl⟩
  go_wp2
  go_ret
  exact ⟨rfl,rfl⟩
theorem z2Q (X n:Nat) (hX:X<2 ^ 32) (h1:1≤n) (h2:n<32) (w:World):Calls Tryz.prog 193 #[.int .u32 (X:Int),.int .i64 (n:Int)] w fun e w'=>e=.returned (.int .u32 ((ROTR n X:Nat):Int))∧w=w':=
  z46 X n _ w (fun w=>zee X n hX h1 h2 w)
theorem zef (x i j k a b c p r:Int) (w:World) (e1:bits .xor .u32 a b=p) (e2:bits .xor .u32 p c=r)
    (ca:∀ w,Calls Tryz.prog 193 #[.int .u32 x,.int .i64 i] w fun e w'=>e=.returned (.int .u32 a)∧w=w')
    (cb:∀ w,Calls Tryz.prog 193 #[.int .u32 x,.int .i64 j] w fun e w'=>e=.returned (.int .u32 b)∧w=w')
    (cc:∀ w,Calls Tryz.prog 193 #[.int .u32 x,.int .i64 k] w fun e w'=>e=.returned (.int .u32 c)∧w=w'):
    Calls Tryz.prog 170 #[.int .u32 x,.int .i64 i,.int .i64 j,.int .i64 k] w fun e w'=>e=.returned (.int .u32 r)∧w=w':=by
  go_enter Tryz.func170,Tryz.ntmps170
  go_wp2_with fail
  refine (ca _).mono ?_
  rintro e w' ⟨rfl,rfl⟩
  clear ca
  go_wp2_with fail
  refine (cb _).mono ?_
  rintro e w' ⟨rfl,rfl⟩
  clear cb
  go_wp2_with fail
  refine (cc _).mono ?_
  rintro e w' ⟨rfl,rfl⟩
  clear cc
  go_wp2
  go_ret
  exact ⟨rfl,rfl⟩
theorem zbv (X i j k:Nat) (hX:X<2 ^ 32) (hi:1≤i∧i<32) (hj:1≤j∧j<32) (hk:1≤k∧k<32) (w:World):Calls Tryz.prog 170 #[.int .u32 (X:Int),.int .i64 (i:Int),.int .i64 (j:Int),.int .i64 (k:Int)] w fun e w'=>e=.returned (.int .u32 ((MIX i j k X:Nat):Int))∧w=w':=
  zef X i j k _ _ _ _ _ w (z37 (z0p (by omega) hX) (z0p (by omega) hX)) (z37 (Nat.xor_lt_two_pow (z0p (by omega) hX) (z0p (by omega) hX)) (z0p (by omega) hX)) (fun w=>z2Q X i hX hi.1 hi.2 w) (fun w=>z2Q X j hX hj.1 hj.2 w) (fun w=>z2Q X k hX hk.1 hk.2 w)
theorem zcV {X:Nat} (hX:X<2 ^ 32):4294967295 ^^^ X=4294967295 - X:=by
  apply Nat.eq_of_testBit_eq
  intro i
  have e:(4294967295:Nat)=2 ^ 32 - 1:=rfl
  have e2:4294967295 - X=2 ^ 32 - (X+1):=by omega
  rw [e2,Nat.testBit_two_pow_sub_succ hX,Nat.testBit_xor,e,Nat.testBit_two_pow_sub_one]
  by_cases h:i<32
  · simp [h]
  · have:X.testBit i=false:=Nat.testBit_lt_two_pow (Nat.lt_of_lt_of_le hX (Nat.pow_le_pow_right (by decide) (by omega)))
    simp [h,this]
theorem zfC {X:Nat} (hX:X<2 ^ 32):bits .xor .u32 IntKind.u32.max (X:Int)=((4294967295 - X:Nat):Int):=by
  rw [← zcV hX]
  exact z37 (a:=4294967295) (by decide) hX
theorem zag (x y z p q s r:Int) (w:World) (e1:bits .and .u32 x y=p) (e2:bits .xor .u32 IntKind.u32.max x=q) (e3:bits .and .u32 q z=s) (e4:bits .xor .u32 p s=r):
    Calls Tryz.prog 171 #[.int .u32 x,.int .u32 y,.int .u32 z] w fun e w'=>e=.returned (.int .u32 r)∧w=w':=by
  go_enter Tryz.func171,Tryz.ntmps171
  go_wp2
  go_ret
  exact ⟨rfl,rfl⟩
theorem zbw (X Y Z:Nat) (hX:X<2 ^ 32) (hY:Y<2 ^ 32) (hZ:Z<2 ^ 32) (w:World):Calls Tryz.prog 171 #[.int .u32 (X:Int),.int .u32 (Y:Int),.int .u32 (Z:Int)] w fun e w'=>e=.returned (.int .u32 ((CHO X Y Z:Nat):Int))∧w=w':=
  zag X Y Z _ ((4294967295 - X:Nat):Int) _ _ w (z5H hX hY) (zfC hX) (z5H (by omega) hZ) (z37 (Nat.lt_of_le_of_lt Nat.and_le_left hX) (Nat.lt_of_le_of_lt Nat.and_le_right hZ))
theorem z7A (x y z p q s t r:Int) (w:World) (e1:bits .and .u32 x y=p) (e2:bits .and .u32 x z=q) (e3:bits .xor .u32 p q=s) (e4:bits .and .u32 y z=t) (e5:bits .xor .u32 s t=r):
    Calls Tryz.prog 172 #[.int .u32 x,.int .u32 y,.int .u32 z] w fun e w'=>e=.returned (.int .u32 r)∧w=w':=by
  go_enter Tryz.func172,Tryz.ntmps172
  go_wp2
  go_ret
  exact ⟨rfl,rfl⟩
theorem z8y (X Y Z:Nat) (hX:X<2 ^ 32) (hY:Y<2 ^ 32) (hZ:Z<2 ^ 32) (w:World):Calls Tryz.prog 172 #[.int .u32 (X:Int),.int .u32 (Y:Int),.int .u32 (Z:Int)] w fun e w'=>e=.returned (.int .u32 ((MAJ X Y Z:Nat):Int))∧w=w':=
  z7A X Y Z _ _ _ _ _ w (z5H hX hY) (z5H hX hZ) (z37 (Nat.lt_of_le_of_lt Nat.and_le_left hX) (Nat.lt_of_le_of_lt Nat.and_le_left hX)) (z5H hY hZ) (z37 (Nat.xor_lt_two_pow (Nat.lt_of_le_of_lt Nat.and_le_left hX) (Nat.lt_of_le_of_lt Nat.and_le_left hX)) (Nat.lt_of_le_of_lt Nat.and_le_left hY))
theorem z0A {P:Program} {f:FuncId} {args:Array Value} {w:World} {n:Nat} {v:Value}
    (h:Calls P f args (w.drewN n) fun e w'=>e=.returned v∧w.drewN n=w'):Calls P f args (w.drewN n) fun e w''=>e=.returned v∧∃ m,w''=w.drewN m:=
  h.mono fun _ _ ⟨he,hm⟩=>⟨he,n,hm.symm⟩
theorem zbx (x i j k c p r:Int) (R:Int→Int) (w:World) (hi:1≤i∧i<32) (hj:1≤j∧j<32) (hk:0≤k) (e1:bits .xor .u32 (R i) (R j)=p) (e2:bits .xor .u32 p c=r) (e3:x / 2 ^ min k.toNat 32=c)
    (ca:∀ n:Int,1≤n∧n<32→∀ w,Calls Tryz.prog 193 #[.int .u32 x,.int .i64 n] w fun e w'=>e=.returned (.int .u32 (R n))∧w=w'):
    Calls Tryz.prog 192 #[.int .u32 x,.int .i64 i,.int .i64 j,.int .i64 k] w fun e w'=>e=.returned (.int .u32 r)∧∃ m,w'=w.drewN m:=by
  go_enter Tryz.func192,Tryz.ntmps192
  go_wp2
  go_quiet ((go_at_call 193;exact z0A (ca _ (by assumption) _)))
  go_wp2
  go_ret
  exact ⟨rfl,_,rfl⟩
theorem z7B (X i j k:Nat) (hX:X<2 ^ 32) (hi:1≤i∧i<32) (hj:1≤j∧j<32) (hk:k<32) (w:World):Calls Tryz.prog 192 #[.int .u32 (X:Int),.int .i64 (i:Int),.int .i64 (j:Int),.int .i64 (k:Int)] w fun e w'=>e=.returned (.int .u32 ((z11 i j k X:Nat):Int))∧∃ m,w'=w.drewN m:=by
  refine zbx X i j k ((X / 2 ^ k:Nat):Int) ((ROTR i X ^^^ ROTR j X:Nat):Int) _ (fun n=>((ROTR n.toNat X:Nat):Int)) w (by omega) (by omega) (by omega) ?_ ?_ ?_ ?_
  · simp only [Int.toNat_natCast]
    exact z37 (z0p (by omega) hX) (z0p (by omega) hX)
  · exact z37 (Nat.xor_lt_two_pow (z0p (by omega) hX) (z0p (by omega) hX)) (Nat.lt_of_le_of_lt (Nat.div_le_self _ _) hX)
  · rw [Int.toNat_natCast,show min k 32=k by omega,z2M]
  · intro n hn w
    obtain ⟨N,rfl⟩:∃ N:Nat,n=(N:Int):=⟨n.toNat,by omega⟩
    exact z2Q X N hX (by omega) (by omega) w
theorem zcW (b o n c:Nat) (v0 v1 v2 v3 x0 x1 x2 y1 y2 r:Int) (w:World) (hn:4≤n) (c0:w.cell? ⟨b,o,none⟩=some (.int .u8 v0)) (c1:w.cell? ⟨b,o+1,none⟩=some (.int .u8 v1)) (c2:w.cell? ⟨b,o+2,none⟩=some (.int .u8 v2)) (c3:w.cell? ⟨b,o+3,none⟩=some (.int .u8 v3))
    (e0:v0 % 4294967296*16777216 % 4294967296=x0) (e1:v1 % 4294967296*65536 % 4294967296=x1) (e2:v2 % 4294967296*256 % 4294967296=x2) (f1:bits .or .u32 x0 x1=y1) (f2:bits .or .u32 y1 x2=y2) (f3:bits .or .u32 y2 (v3 % 4294967296)=r):
    Calls Tryz.prog 191 #[.slice (some ⟨b,o,none⟩) n c] w fun e w'=>e=.returned (.int .u32 r)∧∃ m,w'=w.drewN m:=by
  have h0:(0:Int)<(n:Int):=by omega
  have h1:(1:Int)<(n:Int):=by omega
  have h2:(2:Int)<(n:Int):=by omega
  have h3:(3:Int)<(n:Int):=by omega
  clear hn
  go_enter Tryz.func191,Tryz.ntmps191
  go_wp2
  go_quiet (fail)
  go_wp2
  go_ret
  exact ⟨rfl,_,rfl⟩
theorem zah {a b k:Nat} (ha:a % 2 ^ k=0) (hb:b<2 ^ k) (h1:a<2 ^ 32) (h2:b<2 ^ 32):bits .or .u32 (a:Int) (b:Int)=((a+b:Nat):Int):=by
  rw [or32 h1 h2,nat_join k a b ha hb]
theorem z9z (b o n c:Nat) (s:Nat→Nat) (h:∀ i,s i<256) (i:Nat) (w:World) (hn:4≤n) (hc:∀ j,j<4→w.cell? ⟨b,o+j,none⟩=some (.int .u8 (s (i+j):Int))):
    Calls Tryz.prog 191 #[.slice (some ⟨b,o,none⟩) n c] w fun e w'=>e=.returned (.int .u32 ((z05 s i:Nat):Int))∧∃ m,w'=w.drewN m:=by
  have h0:=h i;have h1:=h (i+1);have h2:=h (i+2);have h3:=h (i+3)
  have w3:((s (i+3):Nat):Int) % 4294967296=((s (i+3):Nat):Int):=by omega
  refine zcW b o n c (s i:Nat) (s (i+1):Nat) (s (i+2):Nat) (s (i+3):Nat) ((s i*16777216:Nat):Int) ((s (i+1)*65536:Nat):Int) ((s (i+2)*256:Nat):Int) _ _ _ w hn (hc 0 (by omega)) (hc 1 (by omega)) (hc 2 (by omega)) (hc 3 (by omega)) ?_ ?_ ?_ (zah (k:=24) ?_ ?_ ?_ ?_) (zah (k:=16) ?_ ?_ ?_ ?_) (by rw [w3];exact zah (k:=8) (by omega) (by omega) (by omega) (by omega))
  all_goals omega
end Go.Proofs.YthdpkaiieomdoaaGreatDoor.HX

namespace Go.Proofs.YthdpkaiieomdoaaGreatDoor.HX
open Go.RowKit
def UARR (k:IntKind) (n:Nat) (f:Nat→Nat):Array Value:=((List.range n).map fun i=>Value.int k ((f i:Nat):Int)).toArray
theorem z01 (k:IntKind) (n:Nat) (f:Nat→Nat):(UARR k n f).size=n:=by simp [UARR]
theorem z07 (k:IntKind) (n:Nat) (f:Nat→Nat) (i:Nat) (h:i<n):(UARR k n f)[i]?=some (.int k ((f i:Nat):Int)):=by simp [UARR,h]
theorem z0g {k:IntKind} {n:Nat} {f g:Nat→Nat} (h:∀ i,i<n→f i=g i):UARR k n f=UARR k n g:=by
  unfold UARR
  congr 1
  apply List.map_congr_left
  intro i hi
  rw [h i (by simpa using hi)]
theorem z1A (k:IntKind) (n:Nat) (f:Nat→Nat) (i:Nat) (v:Nat):(UARR k n f).setIfInBounds i (.int k (v:Int))=UARR k n fun j=>if j=i then v else f j:=by
  apply Array.ext_getElem?
  intro j
  by_cases hj:j<n
  · rw [z07 _ _ _ j hj,Array.getElem?_setIfInBounds]
    by_cases h:i=j
    · subst h
      simp [z01,hj]
    · have h':¬ j=i:=fun e=>h e.symm
      simp [h,h',z07 _ _ _ j hj]
  · rw [Array.getElem?_eq_none (by simp [z01];omega),Array.getElem?_eq_none (by simp [z01];omega)]
theorem z0e (k:IntKind) (n:Nat) (f:Nat→Nat):(UARR k n f).all (·.oneCell')=true:=by
  apply Array.all_eq_true_iff_forall_mem.2
  intro v hv
  simp [UARR] at hv
  obtain ⟨i,_,rfl⟩:=hv
  rfl
theorem z0B:(Tryz.prog.info? 23).map (·.size)=some 32:=by kernel_rfl
theorem z3y:(Tryz.prog.info? 147).map (·.size)=some 64:=by kernel_rfl
theorem z9A:(Tryz.prog.info? 220).map (·.size)=some 8:=by kernel_rfl
theorem zcX:(Tryz.prog.info? 222).map (·.size)=some 64:=by kernel_rfl
theorem z02 (f:Nat→Nat):(Tryz.prog.info? 23).map (·.size)=some (UARR .u8 32 f).size:=by rw [z01];exact z0B
theorem z5I (f:Nat→Nat):(Tryz.prog.info? 147).map (·.size)=some (UARR .u8 64 f).size:=by rw [z01];exact z3y
theorem z2H (f:Nat→Nat):(Tryz.prog.info? 220).map (·.size)=some (UARR .u32 8 f).size:=by rw [z01];exact z9A
theorem z3z (f:Nat→Nat):(Tryz.prog.info? 222).map (·.size)=some (UARR .u32 64 f).size:=by rw [z01];exact zcX
def Has (w:World) (g:Nat) (c:Array Value) (t:TypeId):Prop:=w.heap[g]?=some (.cells c t)
theorem Has.cell {w:World} {g:Nat} {c:Array Value} {t:TypeId} (h:Has w g c t) (i:Nat):w.cell? ⟨g,i,none⟩=c[i]?:=cell_of_row w g i c t _ h
theorem Has.lt {w:World} {g:Nat} {c:Array Value} {t:TypeId} (h:Has w g c t):g<w.heap.size:=(Array.getElem?_eq_some_iff.1 h).1
theorem Has.frozen {w:World} {g:Nat} {c:Array Value} {t:TypeId} (h:Has w g c t) (i:Nat):w.frozen? ⟨g,i,none⟩=false:=by
  have e:w.heap[g]?=some (.cells c t):=h
  simp [World.frozen?,e]
theorem Has.set {w:World} {g:Nat} {c:Array Value} {t:TypeId} (h:Has w g c t) (i:Nat) (v:Value):Has (w.setCell ⟨g,i,none⟩ v) g (c.setIfInBounds i v) t:=by
  have e:w.heap[g]?=some (.cells c t):=h
  unfold Has
  rw [setCell_eq_setRow w g i c t _ v e,setRow_heap w g c _ t _ e]
theorem Has.other {w:World} {g:Nat} {c:Array Value} {t:TypeId} (h:Has w g c t) {a:Addr} (ha:g≠a.block) (v:Value):Has (w.setCell a v) g c t:=by
  have e:w.heap[g]?=some (.cells c t):=h
  unfold Has
  rw [Below.heap_setCell w a v g ha,e]
theorem Has.below {B:Nat} {w w':World} {g:Nat} {c:Array Value} {t:TypeId} (h:Has w g c t) (hb:Below B w w') (hg:g<B):Has w' g c t:=(hb.block g hg).trans h
theorem Has.keep {w w':World} {g:Nat} {c:Array Value} {t:TypeId} (h:Has w g c t) (hb:Below w.heap.size w w'):Has w' g c t:=h.below hb h.lt
theorem Has.alloc {w:World} {g:Nat} {c:Array Value} {t:TypeId} (h:Has w g c t) (o:Obj):Has (w.alloc o) g c t:=by
  have e:w.heap[g]?=some (.cells c t):=h
  unfold Has
  rw [Below.heap_alloc w o g h.lt,e]
theorem Has.new (w:World) (c:Array Value) (t:TypeId):Has (w.alloc (.cells c t)) w.heap.size c t:=heap_alloc_new w _
theorem Has.at (w:World) (c:Array Value) (t:TypeId) {g:Nat} (hg:g=w.heap.size):Has (w.alloc (.cells c t)) g c t:=by subst hg;exact Has.new w c t
theorem Has.row {w:World} {g:Nat} {c:Array Value} {t:TypeId} (h:Has w g c t) (c':Array Value):Has (w.setRow g c') g c' t:=setRow_heap w g c c' t _ h
theorem Has.row_other {w:World} {g k:Nat} {c:Array Value} {t:TypeId} (h:Has w g c t) (hk:g≠k) (c':Array Value):Has (w.setRow k c') g c t:=by
  have e:w.heap[g]?=some (.cells c t):=h
  unfold Has
  rw [setRow_other w k g c' hk,e]
theorem Has.drewN {w:World} {g:Nat} {c:Array Value} {t:TypeId} (h:Has w g c t) (n:Nat):Has (w.drewN n) g c t:=h
theorem z9s {w:World} {b i j:Nat} (h:i≠j) (v:Value):(w.setCell ⟨b,i,none⟩ v).cell? ⟨b,j,none⟩=w.cell? ⟨b,j,none⟩:=World.cell?_setCell_other w _ _ v (fun e=>h (congrArg Addr.off e))
theorem z04 {B g:Nat} {w0 w:World} (hb:Below B w0 w) (hBg:B≤g) (cs:Array Value):Below B w0 (w.setRow g cs):=
  ⟨hb.os,hb.tape,hb.output,by have:=hb.size;simpa [World.setRow] using this,fun k hk=>by rw [setRow_other w g k cs (by omega)];exact hb.block k hk⟩
theorem z5J (b i:Nat) (h:i<32) (l:Int) (hl:l=(i:Int)) (w:World):(Instr.sliceAt 23 (.pointer (some ⟨b,0,none⟩)) (some (.int .i64 l)) none none).run Tryz.prog w=.ok (.slice (some ⟨b,i,none⟩) (32 - i) (32 - i)) w:=by
  subst hl
  have hn:Tryz.prog.arrayLen 23=32:=by kernel_rfl
  rw [run_sliceAt_array_l w 23 ⟨b,0,none⟩ (by kernel_rfl) .i64 (i:Int) (by omega) (by rw [hn];omega),hn]
  have he:Tryz.prog.elem 23=5:=by kernel_rfl
  obtain ⟨i8,hi,h8⟩:=Option.map_eq_some_iff.1 z0I
  simp only [Prod.mk.injEq] at h8
  rw [he]
  simp [sizeOf,typeInfo,hi,h8.2.1,slicedAt]
  rw [if_neg (by omega)]
  simp [Addr.add]
  omega
theorem z8z (b i:Nat) (h:i<64) (l:Int) (hl:l=(i:Int)) (w:World):(Instr.sliceAt 147 (.pointer (some ⟨b,0,none⟩)) (some (.int .i64 l)) none none).run Tryz.prog w=.ok (.slice (some ⟨b,i,none⟩) (64 - i) (64 - i)) w:=by
  subst hl
  have hn:Tryz.prog.arrayLen 147=64:=by kernel_rfl
  rw [run_sliceAt_array_l w 147 ⟨b,0,none⟩ (by kernel_rfl) .i64 (i:Int) (by omega) (by rw [hn];omega),hn]
  have he:Tryz.prog.elem 147=5:=by kernel_rfl
  obtain ⟨i8,hi,h8⟩:=Option.map_eq_some_iff.1 z0I
  simp only [Prod.mk.injEq] at h8
  rw [he]
  simp [sizeOf,typeInfo,hi,h8.2.1,slicedAt]
  rw [if_neg (by omega)]
  simp [Addr.add]
  omega
theorem z3A {k:IntKind} {n i:Nat} {F f:Nat→Nat} (hf:∀ j,f j=if j<i then F j else 0) (v:Nat) (hv:v=F i):(UARR k n f).setIfInBounds i (.int k (v:Int))=UARR k n fun j=>if j<i+1 then F j else 0:=by
  rw [z1A]
  apply z0g
  intro j _
  by_cases e:j=i
  · subst e
    simp [hv]
  · rw [if_neg e,hf j]
    by_cases e2:j<i
    · rw [if_pos e2,if_pos (by omega)]
    · rw [if_neg e2,if_neg (by omega)]
theorem zcY (s:Nat→Nat) (h:∀ i,s i<256) (w:World):Calls Tryz.prog 168 #[.agg (UARR .u8 32 s)] w fun e w'=>e=.returned (.agg (UARR .u32 8 fun i=>z05 s (4*i)))∧Below w.heap.size w w':=by
  have hz:(#[.int .u32 0,.int .u32 0,.int .u32 0,.int .u32 0,.int .u32 0,.int .u32 0,.int .u32 0,.int .u32 0]:Array Value)=UARR .u32 8 fun _=>0:=rfl
  have H:Aside (∀ i,s i<256):=h
  clear h
  go_enter Tryz.func168,Tryz.ntmps168
  go_wp2
  go_loopg [5] 8 (fun g s5 wx=>∃ i:Nat,i+g=8∧s5=.int .i64 i∧Aside (Below w.heap.size w wx∧Has wx w.heap.size (UARR .u8 32 s) 23∧Has wx (w.heap.size+1) (UARR .u32 8 fun _=>0) 220∧Has wx (w.heap.size+2) (UARR .u32 8 fun j=>if j<i then z05 s (4*j) else 0) 220))
  case atStart=>
    refine ⟨0,by omega,rfl,?_⟩
    have e:(UARR .u32 8 fun j=>if j<0 then z05 s (4*j) else 0)=UARR .u32 8 fun _=>0:=z0g fun j _=>if_neg (by omega)
    rw [e]
    exact ⟨(((Below.refl _ _).alloc (Nat.le_refl _) _).alloc (by simp) _).alloc (by simp;omega) _,((Has.new w _ _).alloc _).alloc _,(Has.at _ _ _ (by simp)).alloc _,Has.at _ _ _ (by simp)⟩
  case round=>
    obtain ⟨i,hig,rfl,A⟩:=hrel
    cases gk with
    | zero=>
      obtain rfl:i=8:=by omega
      obtain ⟨hb,h0,h1,h2⟩:=A.out
      go_wp2_with (first
        | (refine wpList_load_row rfl 220 _ rfl _ rfl _ _ (0,0) _ h2 Tryz.underlying220 rfl (z2H _) ?_)
        | (refine wpList_store_row rfl 220 _ _ rfl _ _ rfl rfl _ _ h1 (z2H _) (by rw [z01,z01]) (z0e _ _ _) ?_))
      have e:(UARR .u32 8 fun j=>if j<8 then z05 s (4*j) else 0)=UARR .u32 8 fun i=>z05 s (4*i):=z0g fun j hj=>by rw [if_pos hj]
      rw [e]
      refine bodyPost_ret (v:=.agg (UARR .u32 8 fun i=>z05 s (4*i))) ?_ rfl ⟨rfl,z04 hb (by omega) _⟩
      exact results_cell_row rfl _ _ (w.heap.size+1) 220 _ (0,0) _ rfl (h1.row _) Tryz.underlying220 rfl (z2H _)
    | succ g=>
      obtain ⟨hb,h0,h1,h2⟩:=A.out
      have hi:(i:Int)<8:=by omega
      have hsl:=z5J w.heap.size (4*i) (by omega) (4*(i:Int)) (by omega)
      have hw:=z9z w.heap.size (4*i) (32 - 4*i) (32 - 4*i) s H.out (4*i) wr (by omega) (fun j hj=>by rw [h0.cell,z07 _ _ _ _ (by omega)])
      have hc:wr.cell? ⟨w.heap.size+1+1,i,none⟩=some (.int .u32 0):=by rw [h2.cell,z07 _ _ _ _ (by omega),if_neg (by omega)];rfl
      have hf:wr.frozen? ⟨w.heap.size+1+1,i,none⟩=false:=h2.frozen i
      generalize hv:z05 s (4*i)=v at hw
      have R:Aside (Below w.heap.size w wr∧Has wr w.heap.size (UARR .u8 32 s) 23∧Has wr (w.heap.size+1) (UARR .u32 8 fun _=>0) 220∧Has wr (w.heap.size+2) (UARR .u32 8 fun j=>if j<i then z05 s (4*j) else 0) 220∧z05 s (4*i)=v):=⟨hb,h0,h1,h2,hv⟩
      clear hb h0 h1 h2 hv A
      go_wp2_with fail
      refine hw.mono ?_
      rintro e w' ⟨rfl,m,rfl⟩
      clear hw
      go_wp2
      go_roundg g
      case measure=>omega
      case rel=>
        obtain ⟨hb,h0,h1,h2,hv⟩:=R.out
        refine ⟨i+1,by omega,by go_num,?_⟩
        rw [← z3A (F:=fun j=>z05 s (4*j)) (fun j=>rfl) v hv.symm]
        exact ⟨(below_drewN hb m).setCell (by show _≤w.heap.size+1+1;omega) _,(h0.drewN m).other (by show w.heap.size≠w.heap.size+1+1;omega) _,(h1.drewN m).other (by show w.heap.size+1≠w.heap.size+1+1;omega) _,(h2.drewN m).set i _⟩
end Go.Proofs.YthdpkaiieomdoaaGreatDoor.HX
