/- Texts of SpanVerifies, one behind the other: SpanUp, SpanClimb, SpanTurn. -/
import Derived.Laws.EntriesVeiled
import Derived.Test.YthdpkaiieomdoaaGreatDoorSpanVerifiesP23
namespace Go.Proofs.YthdpkaiieomdoaaGreatDoor
open Go.RowKit
set_option maxRecDepth 100000
structure KPB (B m:Nat) (w w':World):Prop where
  keep:∀ q,B≤q→q<w.heap.size→w'.heap[q]?=w.heap[q]?
  below:Below m w w'
theorem KPB.refl (B m:Nat) (w:World):KPB B m w w:=⟨fun _ _ _=>rfl,Below.refl _ _⟩
theorem KPB.trans {B m:Nat} {w w1 w2:World} (h:KPB B m w w1) (h':KPB B m w1 w2):KPB B m w w2:=
  ⟨fun q hq hl=>(h'.keep q hq (Nat.lt_of_lt_of_le hl h.below.size)).trans (h.keep q hq hl),h.below.trans h'.below⟩
theorem KPB.of_below {B m:Nat} {w w':World} (hb:Below w.heap.size w w') (hm:m≤w.heap.size):KPB B m w w':=⟨fun q _ hl=>hb.block q hl,hb.mono hm⟩
theorem KPB.set_new {B m g:Nat} {w w':World} (h:KPB B m w w') (hg:w.heap.size≤g) (hm:m≤w.heap.size) (cs:Array Value):KPB B m w (w'.setRow g cs):=
  ⟨fun q hq hl=>(setRow_other w' g q cs (by omega)).trans (h.keep q hq hl),z04 h.below (by omega) cs⟩
theorem Has.kpb {w w':World} {B m b:Nat} {cs:Array Value} {t:TypeId} (h:Has w b cs t) (hk:KPB B m w w') (hb:B≤b):Has w' b cs t:=(hk.keep b hb h.lt).trans h
theorem z3S {B g:Nat} {w:World} (hg:B≤g) (cs:Array Value):Below B w (w.setRow g cs):=z04 (Below.refl _ _) hg cs
abbrev z0U (bi bli:Nat):Value:=.func (.func 122) #[] #[.pointer (some ⟨bi,0,none⟩),.pointer (some ⟨bli,0,none⟩)]
abbrev z1q (bw:Nat):Value:=.func (.func 79) #[] #[.pointer (some ⟨bw,0,none⟩)]
abbrev sUPV (B:Nat):Value:=.func (.func 119) #[] #[.pointer (some ⟨B,0,none⟩),.pointer (some ⟨(B+1),0,none⟩),.pointer (some ⟨(B+3),0,none⟩),.pointer (some ⟨(B+2),0,none⟩),.pointer (some ⟨(B+5),0,none⟩),.pointer (some ⟨(B+4),0,none⟩)]
structure CENV (w:World) (F T B bi bli bj bnj bw:Nat):Prop where
  f:Has w B #[.int .u64 (F:Int)] 24
  t:Has w (B+1) #[.int .u64 (T:Int)] 24
  l:Has w (B+2) #[z0U bi bli] 59
  n:Has w (B+3) #[z0U bj bnj] 59
  j:Has w (B+4) #[z1q bw] 131
  u:Has w (B+5) #[sUPV B] 102
theorem CENV.kpb {w w':World} {F T B m bi bli bj bnj bw:Nat} (h:CENV w F T B bi bli bj bnj bw) (hk:KPB B m w w'):CENV w' F T B bi bli bj bnj bw:=
  ⟨h.f.kpb hk (Nat.le_refl _),h.t.kpb hk (by omega),h.l.kpb hk (by omega),h.n.kpb hk (by omega),h.j.kpb hk (by omega),h.u.kpb hk (by omega)⟩
structure CCON {σ:Type} (c:CLMG σ) (VAL:List Int→Prop) (OKS:Nat→Nat→σ→Prop) (St:σ→World→Prop) (B m bi bli bj bnj bw:Nat):Prop where
  len:∀ a,VAL a→a.length=32
  ok:GOK c VAL OKS
  still:∀ s W W',St s W→Below B W W'→St s W'
  size:∀ s W,St s W→B≤W.heap.size
  mB:m≤B
  leaf:∀ i j s W,St s W→OKS (i+1) j s→Calls Tryz.prog 122 #[.pointer (some ⟨bi,0,none⟩),.pointer (some ⟨bli,0,none⟩)] W fun e w'=>e=.returned (.agg (z00 (c.lf s)).toArray)∧St (c.ls s) w'∧KPB B m W w'
  node:∀ i j s W,St s W→OKS i (j+1) s→Calls Tryz.prog 122 #[.pointer (some ⟨bj,0,none⟩),.pointer (some ⟨bnj,0,none⟩)] W fun e w'=>e=.returned (.agg (z00 (c.nf s)).toArray)∧St (c.ns s) w'∧KPB B m W w'
  join:∀ s a b W,St s W→VAL a→VAL b→Calls Tryz.prog 79 #[.agg (z00 a).toArray,.agg (z00 b).toArray,.pointer (some ⟨bw,0,none⟩)] W fun e w'=>e=.returned (.agg (z00 (c.jf a b)).toArray)∧St (c.js s a b) w'∧KPB B m W w'
def sUPM {σ:Type} (St:σ→World→Prop) (B m:Nat) (w:World) (Y:List Int) (s:σ) (e:Ending) (w':World):Prop:=e=.returned (.agg (z00 Y).toArray)∧St s w'∧KPB B m w w'
section
variable {σ:Type} {c:CLMG σ} {VAL:List Int→Prop} {OKS:Nat→Nat→σ→Prop} {St:σ→World→Prop} {B m bi bli bj bnj bw:Nat}
set_option maxHeartbeats 4000000 in
theorem z6P (con:CCON c VAL OKS St B m bi bli bj bnj bw) (F T h k:Nat) (hN:Node h k) (e:APRT F T h k) (s:σ) (i j:Nat) (w:World) (hE:CENV w F T B bi bli bj bnj bw) (hS:St s w) (hO:OKS i (j+1) s):
    Calls Tryz.prog 119 #[.int .u64 ((PLC h k:Nat):Int),.pointer (some ⟨B,0,none⟩),.pointer (some ⟨(B+1),0,none⟩),.pointer (some ⟨(B+3),0,none⟩),.pointer (some ⟨(B+2),0,none⟩),.pointer (some ⟨(B+5),0,none⟩),.pointer (some ⟨(B+4),0,none⟩)] w (sUPM St B m w (c.nf s) (c.ns s)):=by
  have y32:=con.len _ (con.ok.n i j s hO).1
  have hBw:=con.size s w hS
  obtain ⟨W0,hW0⟩:∃ W0,w.alloc (.cells ZARR 23)=W0:=⟨_,rfl⟩
  obtain ⟨b8,hb8⟩:∃ b8,w.heap.size=b8:=⟨_,rfl⟩
  have hb0:Below w.heap.size w W0:=by rw [← hW0];exact (Below.refl _ _).alloc (Nat.le_refl _) _
  have hH0:Has W0 b8 (z00 ZND).toArray 23:=by rw [← hW0,z0P,← hb8];exact Has.new _ _ _
  have ca:=z2e h k F T hN W0
  rw [decide_eq_true e] at ca
  have x1:W0.cell? ⟨B,0,none⟩=some (.int .u64 (F:Int)):=(hE.f.keep hb0).cell 0
  have x2:W0.cell? ⟨B+1,0,none⟩=some (.int .u64 (T:Int)):=(hE.t.keep hb0).cell 0
  have HA:Aside (Below w.heap.size w W0∧Has W0 b8 (z00 ZND).toArray 23∧B≤w.heap.size∧w.heap.size=b8∧m≤B∧B+5<w.heap.size):=⟨hb0,hH0,hBw,hb8,con.mB,hE.u.lt⟩
  have HE:Aside (CENV W0 F T B bi bli bj bnj bw):=hE.kpb (m:=0) (KPB.of_below hb0 (Nat.zero_le _))
  have CN:Aside (∀ W,Below w.heap.size W0 W→Calls Tryz.prog 122 #[.pointer (some ⟨bj,0,none⟩),.pointer (some ⟨bnj,0,none⟩)] W fun e w'=>e=.returned (.agg (z00 (c.nf s)).toArray)∧St (c.ns s) w'∧KPB B m W w'):=fun W hb=>con.node i j s W (con.still s w W hS ((hb0.trans hb).mono hBw)) hO
  have SB:Aside (∀ s W W',St s W→Below B W W'→St s W'):=con.still
  clear hE hb0 hH0 hN e hBw hS hO con
  generalize ((PLC h k:Nat):Int)=P at *
  generalize c.nf s=Y at *
  generalize c.ns s=s' at *
  go_enter Tryz.func119,Tryz.ntmps119
  go_upto_region 1 with fail
  clear hW0 hb8
  go_wp2_with fail
  refine ca.mono ?_
  rintro e w1 ⟨rfl,h1⟩
  clear ca x1 x2
  have hE1:=HE.out.kpb (m:=0) (KPB.of_below h1 (Nat.zero_le _))
  have x3:w1.cell? ⟨B+3,0,none⟩=some (z0U bj bnj):=hE1.n.cell 0
  have cn:=CN.out w1 (h1.mono HA.out.1.size)
  have HB:Aside (Below w.heap.size w w1∧Has w1 b8 (z00 ZND).toArray 23):=⟨HA.out.1.trans (h1.mono HA.out.1.size),HA.out.2.1.keep h1⟩
  clear hE1 h1 CN HE
  go_wp2_with fail
  refine cn.mono ?_
  rintro e w2 ⟨rfl,q1,q2⟩
  clear cn x3
  have hh:=HA.out
  have H1:Has w2 b8 (z00 ZND).toArray 23:=HB.out.2.kpb q2 (by omega)
  have FN:Aside (St s' (w2.setRow b8 (z00 Y).toArray)∧KPB B m w (w2.setRow b8 (z00 Y).toArray)):=
    ⟨SB.out _ _ _ q1 (z3S (by omega) _),((KPB.of_below HB.out.1 (by omega)).trans q2).set_new (by omega) (by omega) _⟩
  clear q1 q2 HA HB SB hh
  go_wp2_with (refine wpList_store_row rfl 23 (.tmp 8) (.tmp 18) rfl _ _ rfl rfl 23 _ H1 (z03 y32) (by simp [z00,y32];rfl) (z0i Y) ?_)
  refine bodyPost_ret (v:=.agg (z00 Y).toArray) (z1p rfl _ _ b8 23 _ (0,0) _ _ rfl (Has.row H1 _) Tryz.underlying23 (z03 y32)) rfl ⟨rfl,FN.out⟩
set_option maxHeartbeats 4000000 in
theorem zdu (con:CCON c VAL OKS St B m bi bli bj bnj bw) (F T k:Nat) (hN:Node 0 k) (e:¬ APRT F T 0 k) (s:σ) (i j:Nat) (w:World) (hE:CENV w F T B bi bli bj bnj bw) (hS:St s w) (hO:OKS (i+1) j s):
    Calls Tryz.prog 119 #[.int .u64 ((PLC 0 k:Nat):Int),.pointer (some ⟨B,0,none⟩),.pointer (some ⟨(B+1),0,none⟩),.pointer (some ⟨(B+3),0,none⟩),.pointer (some ⟨(B+2),0,none⟩),.pointer (some ⟨(B+5),0,none⟩),.pointer (some ⟨(B+4),0,none⟩)] w (sUPM St B m w (c.lf s) (c.ls s)):=by
  have y32:=con.len _ (con.ok.l i j s hO).1
  have hBw:=con.size s w hS
  obtain ⟨W0,hW0⟩:∃ W0,w.alloc (.cells ZARR 23)=W0:=⟨_,rfl⟩
  obtain ⟨b8,hb8⟩:∃ b8,w.heap.size=b8:=⟨_,rfl⟩
  have hb0:Below w.heap.size w W0:=by rw [← hW0];exact (Below.refl _ _).alloc (Nat.le_refl _) _
  have hH0:Has W0 b8 (z00 ZND).toArray 23:=by rw [← hW0,z0P,← hb8];exact Has.new _ _ _
  have ca:=z2e 0 k F T hN W0
  rw [decide_eq_false e] at ca
  have CK:Aside (∀ W,Calls Tryz.prog 121 #[.int .u64 ((PLC 0 k:Nat):Int)] W fun e w'=>e=.returned (.tuple #[.int .u64 0,.int .u64 0,.bool false])∧Below W.heap.size W w'):=fun W=>zbi ((PLC 0 k:Nat):Int) k W (.node hN)
  have x1:W0.cell? ⟨B,0,none⟩=some (.int .u64 (F:Int)):=(hE.f.keep hb0).cell 0
  have x2:W0.cell? ⟨B+1,0,none⟩=some (.int .u64 (T:Int)):=(hE.t.keep hb0).cell 0
  have HA:Aside (Below w.heap.size w W0∧Has W0 b8 (z00 ZND).toArray 23∧B≤w.heap.size∧w.heap.size=b8∧m≤B∧B+5<w.heap.size):=⟨hb0,hH0,hBw,hb8,con.mB,hE.u.lt⟩
  have HE:Aside (CENV W0 F T B bi bli bj bnj bw):=hE.kpb (m:=0) (KPB.of_below hb0 (Nat.zero_le _))
  have CN:Aside (∀ W,Below w.heap.size W0 W→Calls Tryz.prog 122 #[.pointer (some ⟨bi,0,none⟩),.pointer (some ⟨bli,0,none⟩)] W fun e w'=>e=.returned (.agg (z00 (c.lf s)).toArray)∧St (c.ls s) w'∧KPB B m W w'):=fun W hb=>con.leaf i j s W (con.still s w W hS ((hb0.trans hb).mono hBw)) hO
  have SB:Aside (∀ s W W',St s W→Below B W W'→St s W'):=con.still
  clear hE hb0 hH0 hN e hBw hS hO con
  generalize ((PLC 0 k:Nat):Int)=P at *
  generalize c.lf s=Y at *
  generalize c.ls s=s' at *
  go_enter Tryz.func119,Tryz.ntmps119
  go_upto_region 1 with fail
  clear hW0 hb8
  go_wp2_with fail
  refine ca.mono ?_
  rintro e w1 ⟨rfl,h1⟩
  clear ca x1 x2
  have ck:=CK.out w1
  have K1:Aside (Below W0.heap.size W0 w1):=h1
  clear h1 CK
  go_wp2_with fail
  refine ck.mono ?_
  rintro e w2 ⟨rfl,h2⟩
  clear ck
  have h02:Below W0.heap.size W0 w2:=K1.out.trans (h2.mono K1.out.size)
  have hE1:=HE.out.kpb (m:=0) (KPB.of_below h02 (Nat.zero_le _))
  have x3:w2.cell? ⟨B+2,0,none⟩=some (z0U bi bli):=hE1.l.cell 0
  have cn:=CN.out w2 (h02.mono HA.out.1.size)
  have HB:Aside (Below w.heap.size w w2∧Has w2 b8 (z00 ZND).toArray 23):=⟨HA.out.1.trans (h02.mono HA.out.1.size),HA.out.2.1.keep h02⟩
  clear hE1 h2 h02 CN HE K1
  go_wp2_with fail
  refine cn.mono ?_
  rintro e w3 ⟨rfl,q1,q2⟩
  clear cn x3
  have hh:=HA.out
  have H1:Has w3 b8 (z00 ZND).toArray 23:=HB.out.2.kpb q2 (by omega)
  have FN:Aside (St s' (w3.setRow b8 (z00 Y).toArray)∧KPB B m w (w3.setRow b8 (z00 Y).toArray)):=
    ⟨SB.out _ _ _ q1 (z3S (by omega) _),((KPB.of_below HB.out.1 (by omega)).trans q2).set_new (by omega) (by omega) _⟩
  clear q1 q2 HA HB SB hh
  go_wp2_with (refine wpList_store_row rfl 23 (.tmp 8) (.tmp 28) rfl _ _ rfl rfl 23 _ H1 (z03 y32) (by simp [z00,y32];rfl) (z0i Y) ?_)
  refine bodyPost_ret (v:=.agg (z00 Y).toArray) (z1p rfl _ _ b8 23 _ (0,0) _ _ rfl (Has.row H1 _) Tryz.underlying23 (z03 y32)) rfl ⟨rfl,FN.out⟩
structure SUQQ (St:σ→World→Prop) (s:σ) (w W:World) (F T B m bi bli bj bnj bw b8 bl:Nat) (A R8:List Int):Prop where
  st:St s W
  env:CENV W F T B bi bli bj bnj bw
  kp:KPB B m w W
  res:Has W b8 (z00 R8).toArray 23
  l:Has W bl (z00 A).toArray 23
  n:B+5<w.heap.size∧w.heap.size=b8∧b8<bl∧m≤B
theorem SUQQ.go {s s':σ} {w W W':World} {F T b8 bl:Nat} {A R8:List Int} (h:SUQQ St s w W F T B m bi bli bj bnj bw b8 bl A R8) (hs:St s' W') (hk:KPB B m W W'):SUQQ St s' w W' F T B m bi bli bj bnj bw b8 bl A R8:=
  ⟨hs,h.env.kpb hk,h.kp.trans hk,h.res.kpb hk (by have:=h.n;omega),h.l.kpb hk (by have:=h.n;omega),h.n⟩
theorem zfm {W:World} {g:Nat} {l:List Value} {t:TypeId} (h:Has W g l.toArray t):W.rangeAt g 0 l:=fun j v hv=>by rw [Nat.zero_add,h.cell,List.getElem?_toArray];exact hv
theorem SUQQ.s7 {s:σ} {w W:World} {F T b8 bl:Nat} {A R8:List Int} (h:SUQQ St s w W F T B m bi bli bj bnj bw b8 bl A R8):W.cell? ⟨B+4,0,none⟩=some (z1q bw)∧W.rangeAt bl 0 (z00 A)∧W.cell? ⟨B+5,0,none⟩=some (sUPV B):=
  ⟨h.env.j.cell 0,zfm h.l,h.env.u.cell 0⟩
set_option maxHeartbeats 8000000 in
theorem zdv (con:CCON c VAL OKS St B m bi bli bj bnj bw) (F T h k:Nat) (hN:Node (h+1) k) (e:¬ APRT F T (h+1) k) (s s1 s2:σ) (A X:List Int) (hA:VAL A) (hX:VAL X) (w:World) (hE:CENV w F T B bi bli bj bnj bw) (hS:St s w) (i j:Nat) (hO:OKS i j s2)
    (c1:∀ W,CENV W F T B bi bli bj bnj bw→St s W→Calls Tryz.prog 119 #[.int .u64 ((PLC h (2*k):Nat):Int),.pointer (some ⟨B,0,none⟩),.pointer (some ⟨(B+1),0,none⟩),.pointer (some ⟨(B+3),0,none⟩),.pointer (some ⟨(B+2),0,none⟩),.pointer (some ⟨(B+5),0,none⟩),.pointer (some ⟨(B+4),0,none⟩)] W (sUPM St B m W A s1))
    (c2:∀ W,CENV W F T B bi bli bj bnj bw→St s1 W→Calls Tryz.prog 119 #[.int .u64 ((PLC h (2*k+1):Nat):Int),.pointer (some ⟨B,0,none⟩),.pointer (some ⟨(B+1),0,none⟩),.pointer (some ⟨(B+3),0,none⟩),.pointer (some ⟨(B+2),0,none⟩),.pointer (some ⟨(B+5),0,none⟩),.pointer (some ⟨(B+4),0,none⟩)] W (sUPM St B m W X s2)):
    Calls Tryz.prog 119 #[.int .u64 ((PLC (h+1) k:Nat):Int),.pointer (some ⟨B,0,none⟩),.pointer (some ⟨(B+1),0,none⟩),.pointer (some ⟨(B+3),0,none⟩),.pointer (some ⟨(B+2),0,none⟩),.pointer (some ⟨(B+5),0,none⟩),.pointer (some ⟨(B+4),0,none⟩)] w (sUPM St B m w (c.jf A X) (c.js s2 A X)):=by
  have lA:=con.len A hA
  have lY:=con.len _ (con.ok.j i j s2 A X hO hA hX).1
  have hBw:=con.size s w hS
  obtain ⟨W0,hW0⟩:∃ W0,w.alloc (.cells ZARR 23)=W0:=⟨_,rfl⟩
  obtain ⟨b8,hb8⟩:∃ b8,w.heap.size=b8:=⟨_,rfl⟩
  have hb0:Below w.heap.size w W0:=by rw [← hW0];exact (Below.refl _ _).alloc (Nat.le_refl _) _
  have hH0:Has W0 b8 (z00 ZND).toArray 23:=by rw [← hW0,z0P,← hb8];exact Has.new _ _ _
  have ca:=z2e (h+1) k F T hN W0
  rw [decide_eq_false e] at ca
  have CK:Aside _:=fun W=>z9q h k hN W
  have x1:W0.cell? ⟨B,0,none⟩=some (.int .u64 (F:Int)):=(hE.f.keep hb0).cell 0
  have x2:W0.cell? ⟨B+1,0,none⟩=some (.int .u64 (T:Int)):=(hE.t.keep hb0).cell 0
  have HA:Aside (Below w.heap.size w W0∧Has W0 b8 (z00 ZND).toArray 23∧B≤w.heap.size∧w.heap.size=b8∧m≤B∧B+5<w.heap.size):=⟨hb0,hH0,hBw,hb8,con.mB,hE.u.lt⟩
  have HE:Aside (CENV W0 F T B bi bli bj bnj bw):=hE.kpb (m:=0) (KPB.of_below hb0 (Nat.zero_le _))
  have CL:Aside (∀ W,CENV W F T B bi bli bj bnj bw→Below w.heap.size W0 W→Calls Tryz.prog 119 #[.int .u64 ((PLC h (2*k):Nat):Int),.pointer (some ⟨B,0,none⟩),.pointer (some ⟨(B+1),0,none⟩),.pointer (some ⟨(B+3),0,none⟩),.pointer (some ⟨(B+2),0,none⟩),.pointer (some ⟨(B+5),0,none⟩),.pointer (some ⟨(B+4),0,none⟩)] W (sUPM St B m W A s1)):=fun W hW hb=>c1 W hW (con.still s w W hS ((hb0.trans hb).mono hBw))
  have CR:Aside _:=c2
  have SB:Aside (∀ s W W',St s W→Below B W W'→St s W'):=con.still
  have CJ:Aside (∀ W,St s2 W→Calls Tryz.prog 79 #[.agg (z00 A).toArray,.agg (z00 X).toArray,.pointer (some ⟨bw,0,none⟩)] W fun e w'=>e=.returned (.agg (z00 (c.jf A X)).toArray)∧St (c.js s2 A X) w'∧KPB B m W w'):=fun W hW=>con.join s2 A X W hW hA hX
  clear hE hb0 hH0 hN e hBw hS hO con c1 c2 hA hX
  generalize ((PLC (h+1) k:Nat):Int)=P at *
  generalize c.jf A X=Y at *
  generalize c.js s2 A X=s3 at *
  go_enter Tryz.func119,Tryz.ntmps119
  go_upto_region 1 with fail
  clear hW0 hb8
  go_wp2_with fail
  refine ca.mono ?_
  rintro e w1 ⟨rfl,h1⟩
  clear ca x1 x2
  have ck:=CK.out w1
  have K1:Aside (Below W0.heap.size W0 w1):=h1
  clear h1 CK
  go_wp2_with fail
  refine ck.mono ?_
  rintro e w2 ⟨rfl,h2⟩
  clear ck
  have h02:Below W0.heap.size W0 w2:=K1.out.trans (h2.mono K1.out.size)
  have hE1:=HE.out.kpb (m:=0) (KPB.of_below h02 (Nat.zero_le _))
  have x3:w2.cell? ⟨B+5,0,none⟩=some (sUPV B):=hE1.u.cell 0
  have cl:=CL.out w2 hE1 (h02.mono HA.out.1.size)
  have HB:Aside (Below w.heap.size w w2∧Has w2 b8 (z00 ZND).toArray 23∧CENV w2 F T B bi bli bj bnj bw):=⟨HA.out.1.trans (h02.mono HA.out.1.size),HA.out.2.1.keep h02,hE1⟩
  clear hE1 h2 h02 CL HE K1
  go_wp2_with fail
  refine cl.mono ?_
  rintro e w3 ⟨rfl,q1,q2⟩
  clear cl x3
  have K3:Aside (St s1 w3∧KPB B m w w3∧CENV w3 F T B bi bli bj bnj bw∧Has w3 b8 (z00 ZND).toArray 23):=⟨q1,(KPB.of_below HB.out.1 (by have:=HA.out;omega)).trans q2,HB.out.2.2.kpb q2,HB.out.2.1.kpb q2 (by have:=HA.out;omega)⟩
  clear q1 q2 HB
  go_upto_region 7 with (refine wpList_store_row rfl 23 (.tmp 12) (.tmp 31) rfl _ _ rfl rfl 23 _ (Has.new w3 _ _) (z03 lA) (by simp [z00,lA]) (z0i A) ?_;rw [World.setRow_alloc_new])
  have K4:Aside (SUQQ St s1 w (w3.alloc (.cells (z00 A).toArray 23)) F T B m bi bli bj bnj bw b8 w3.heap.size A ZND):=by
    have hb:Below w3.heap.size w3 (w3.alloc (.cells (z00 A).toArray 23)):=(Below.refl _ _).alloc (Nat.le_refl _) _
    have hh:=HA.out
    have hs:=K3.out.2.1.below.size
    have hk:KPB B m w3 (w3.alloc (.cells (z00 A).toArray 23)):=KPB.of_below hb (by omega)
    exact ⟨SB.out _ _ _ K3.out.1 (hb.mono (by omega)),K3.out.2.2.1.kpb hk,K3.out.2.1.trans hk,K3.out.2.2.2.alloc _,Has.new _ _ _,by omega,by omega,K3.out.2.2.2.lt,by omega⟩
  clear K3
  generalize w3.alloc (.cells (z00 A).toArray 23)=w4 at *
  generalize w3.heap.size=bl at *
  refine sup7 w4 B bw b8 bl _ A X Y lA lY (fun W=>SUQQ St s1 w W F T B m bi bli bj bnj bw b8 bl A ZND) (fun W=>SUQQ St s2 w W F T B m bi bli bj bnj bw b8 bl A ZND) (fun W=>SUQQ St s3 w W F T B m bi bli bj bnj bw b8 bl A ZND) (fun W=>SUQQ St s3 w W F T B m bi bli bj bnj bw b8 bl A Y) ?_ (fun W h=>h.s7) (fun W h=>h.s7) (fun W h=>h.s7) (fun W h=>h.s7) (fun W h=>(CR.out W h.env h.st).mono ?_) (fun W h=>(CJ.out W h.st).mono ?_) (fun W h=>h.res) (fun W h=>?_) ?_ ?_
  · have hd:Below w4.heap.size w4 w4.drew:=(Below.refl _ w4).drew
    have hn:=K4.out.n
    have hl:=K4.out.l.lt
    exact K4.out.go (SB.out _ _ _ K4.out.st (hd.mono (by omega))) (KPB.of_below hd (by omega))
  · rintro e w' ⟨rfl,g1,g2⟩
    exact ⟨rfl,h.go g1 g2⟩
  · rintro e w' ⟨rfl,g1,g2⟩
    exact ⟨rfl,h.go g1 g2⟩
  · have hn:=h.n
    have hd:Below B W (W.setRow b8 (z00 Y).toArray):=z3S (by omega) _
    refine ⟨SB.out _ _ _ h.st hd,⟨h.env.f.row_other ?_ _,h.env.t.row_other ?_ _,h.env.l.row_other ?_ _,h.env.n.row_other ?_ _,h.env.j.row_other ?_ _,h.env.u.row_other ?_ _⟩,h.kp.set_new (by omega) (by omega) _,h.res.row _,h.l.row_other (by omega) _,h.n⟩
    all_goals
      have:=HA.out
      omega
  · exact fun _ _ _ _ _ h=>h
  · intro w5 h5
    have hn:=h5.n
    have hres:=h5.res
    have FN:Aside (sUPM St B m w Y s3 (.returned (.agg (z00 Y).toArray)) w5):=⟨rfl,h5.st,h5.kp⟩
    clear h5 K4 CR CJ SB HA
    go_wp2_with fail
    refine bodyPost_ret (v:=.agg (z00 Y).toArray) (z1p rfl _ _ b8 23 _ (0,0) _ _ rfl hres Tryz.underlying23 (z03 lY)) rfl FN.out
theorem zfn (con:CCON c VAL OKS St B m bi bli bj bnj bw) (F T:Nat):∀ (h k:Nat),Node h k→∀ (s:σ) (i j:Nat) (w:World),CENV w F T B bi bli bj bnj bw→St s w→OKS i j s→(SG F T h k).length≤i→(NEED h k (SG F T h k)).length≤j→
    Calls Tryz.prog 119 #[.int .u64 ((PLC h k:Nat):Int),.pointer (some ⟨B,0,none⟩),.pointer (some ⟨(B+1),0,none⟩),.pointer (some ⟨(B+3),0,none⟩),.pointer (some ⟨(B+2),0,none⟩),.pointer (some ⟨(B+5),0,none⟩),.pointer (some ⟨(B+4),0,none⟩)] w (sUPM St B m w (GUP c F T h k s).1 (GUP c F T h k s).2):=by
  intro h
  induction h with
  | zero=>
    intro k hN s i j w hE hS hO h1 h2
    by_cases e:APRT F T 0 k
    · rw [(z1X F T 0 k e).1] at h2
      obtain ⟨j,rfl⟩:∃ j',j=j'+1:=⟨j - 1,by omega⟩
      rw [z1W e]
      exact z6P con F T 0 k hN e s i j w hE hS hO
    · rw [z8b e] at h1
      obtain ⟨i,rfl⟩:∃ i',i=i'+1:=⟨i - 1,by omega⟩
      rw [z5r e]
      exact zdu con F T k hN e s i j w hE hS hO
  | succ h ih=>
    intro k hN s i j w hE hS hO h1 h2
    by_cases e:APRT F T (h+1) k
    · rw [(z1X F T (h+1) k e).1] at h2
      obtain ⟨j,rfl⟩:∃ j',j=j'+1:=⟨j - 1,by omega⟩
      rw [z1W e]
      exact z6P con F T (h+1) k hN e s i j w hE hS hO
    · rw [z1E e,List.length_append] at h2
      rw [z8c] at h1
      obtain ⟨hNl,hNr⟩:=hN.kid
      have q1:=z5t con.ok F T h (2*k) i j s hO (by omega) (by omega)
      have q2:=z5t con.ok F T h (2*k+1) _ _ _ q1.2 (by omega) (by omega)
      rw [z5s e]
      exact zdv con F T h k hN e s _ _ _ _ q1.1 q2.1 w hE hS _ _ q2.2 (fun W hW hs=>ih (2*k) hNl s i j W hW hs hO (by omega) (by omega)) (fun W hW hs=>ih (2*k+1) hNr _ _ _ W hW hs q1.2 (by omega) (by omega))
end
end Go.Proofs.YthdpkaiieomdoaaGreatDoor

namespace Go.Proofs.YthdpkaiieomdoaaGreatDoor
open Go.RowKit
set_option maxRecDepth 100000
structure SCL {σ:Type} (c:CLMG σ) (OKS:Nat→Nat→σ→Prop) (St:σ→World→Prop) (F T N:Nat) (s0:σ) (B m bi bli bj bnj bw:Nat) (w7 wx:World) (j:Nat) (pv:Value) (out:List Int) (s:σ) (i' j':Nat):Prop where
  env:CENV wx F T B bi bli bj bnj bw
  st:St s wx
  kp:KPB B m w7 wx
  own:wx.ownsRow w7.heap.size 23 32 pv j (z00 out)
  all:GUPS c F T (TPS N) s0=(out ++ (GUPS c F T ((TPS N).drop j) s).1,(GUPS c F T ((TPS N).drop j) s).2)
  oks:OKS i' j' s
  lv:GLV F T ((TPS N).drop j)≤i'
  nd:GND F T ((TPS N).drop j)≤j'
  lt:B+5<w7.heap.size
theorem zdP {s:Nat × Nat}:∀ {l:List (Nat × Nat)} {j:Nat},l[j]?=some s→l.drop j=s :: l.drop (j+1)
  | [],j,h=>by simp at h
  | x :: l,0,h=>by simp at h;simp [h]
  | x :: l,j+1,h=>by simpa using zdP (l:=l) (j:=j) (by simpa using h)
theorem scut {w:World} {B s n:Nat} {t:TypeId} {v:Value} {xs:List Value} (h:w.ownsRow B t s v n xs):∃ a c,v=.slice a n c:=by
  rcases h.2 with ⟨e,h0⟩ | ⟨g,cap,cur,e,_⟩
  · exact ⟨none,0,by rw [e,h0]⟩
  · exact ⟨_,_,e⟩
set_option maxHeartbeats 8000000 in
theorem zc9 {σ:Type} {c:CLMG σ} {VAL:List Int→Prop} {OKS:Nat→Nat→σ→Prop} {St:σ→World→Prop} {B m bi bli bj bnj bw:Nat} (con:CCON c VAL OKS St B m bi bli bj bnj bw) (F T N:Nat) (hN:N≤4611686018427387904) (s:σ) (i j:Nat) (w:World) (hB:w.heap.size=B) (hS:St s w) (hO:OKS i j s) (hi:GLV F T (TPS N)≤i) (hj:GND F T (TPS N)≤j) (hT:Tabled w) (h0:0<w.heap.size):
    Calls Tryz.prog 80 #[.int .u64 (F:Int),.int .u64 (T:Int),.int .u64 (N:Int),z0U bi bli,z0U bj bnj,z1q bw] w fun e w'=>∃ ap cp,e=.returned (.slice ap (PC N) cp)∧w'.ownsRow B 23 32 (.slice ap (PC N) cp) (PC N) (z00 (GUPS c F T (TPS N) s).1)∧St (GUPS c F T (TPS N) s).2 w'∧Below m w w':=by
  obtain ⟨w1,e1⟩:∃ w1,w.alloc (.cells #[.int .u64 (F:Int)] 24)=w1:=⟨_,rfl⟩
  obtain ⟨w2,e2⟩:∃ w2,w1.alloc (.cells #[.int .u64 (T:Int)] 24)=w2:=⟨_,rfl⟩
  obtain ⟨w3,e3⟩:∃ w3,w2.alloc (.cells #[z0U bi bli] 59)=w3:=⟨_,rfl⟩
  obtain ⟨w4,e4⟩:∃ w4,w3.alloc (.cells #[z0U bj bnj] 59)=w4:=⟨_,rfl⟩
  obtain ⟨w5,e5⟩:∃ w5,w4.alloc (.cells #[z1q bw] 131)=w5:=⟨_,rfl⟩
  obtain ⟨w6,e6⟩:∃ w6,w5.alloc (.cells #[sUPV B] 102)=w6:=⟨_,rfl⟩
  have z1:w1.heap.size=B+1:=by rw [← e1,← hB];simp
  have z2:w2.heap.size=B+2:=by rw [← e2];simp [z1]
  have z3:w3.heap.size=B+3:=by rw [← e3];simp [z2]
  have z4:w4.heap.size=B+4:=by rw [← e4];simp [z3]
  have z5:w5.heap.size=B+5:=by rw [← e5];simp [z4]
  have hE6:CENV w6 F T B bi bli bj bnj bw:=by
    refine ⟨?_,?_,?_,?_,?_,?_⟩
    · rw [← e6,← e5,← e4,← e3,← e2,← e1,← hB];exact (((((Has.new _ _ _).alloc _).alloc _).alloc _).alloc _).alloc _
    · rw [← e6,← e5,← e4,← e3,← e2,← z1];exact ((((Has.new _ _ _).alloc _).alloc _).alloc _).alloc _
    · rw [← e6,← e5,← e4,← e3,← z2];exact (((Has.new _ _ _).alloc _).alloc _).alloc _
    · rw [← e6,← e5,← e4,← z3];exact ((Has.new _ _ _).alloc _).alloc _
    · rw [← e6,← e5,← z4];exact (Has.new _ _ _).alloc _
    · rw [← e6,← z5];exact Has.new _ _ _
  have hb6:Below B w w6:=by
    rw [← e6,← e5,← e4,← e3,← e2,← e1,← hB]
    refine ((((((Below.refl _ _).alloc (Nat.le_refl _) _).alloc ?_ _).alloc ?_ _).alloc ?_ _).alloc ?_ _).alloc ?_ _ <;> simp <;> omega
  have z6:w6.heap.size=B+6:=by rw [← e6];simp [z5]
  have cp:=z7p N hN w6 (hT.below h0 (by rw [hB];exact hb6)) (by omega)
  have hPC:PC N≤64:=z13 64 N (by omega)
  have hlen:=z1I (n:=N) (by omega)
  have hS6:=con.still s w w6 hS hb6
  have HA:Aside (N≤2 ^ 62∧PC N≤64∧(TPS N).length=PC N∧Below B w w6∧w6.heap.size=B+6∧m≤B):=⟨by omega,hPC,hlen,hb6,z6,con.mB⟩
  have HE:Aside (CENV w6 F T B bi bli bj bnj bw∧St s w6∧OKS i j s∧GLV F T (TPS N)≤i∧GND F T (TPS N)≤j):=⟨hE6,hS6,hO,hi,hj⟩
  have CO:Aside (CCON c VAL OKS St B m bi bli bj bnj bw):=con
  obtain ⟨w6n,e6n⟩:∃ w6n,w5.alloc (.cells #[.nilFunc] 102)=w6n:=⟨_,rfl⟩
  have hN6:Has w6n (B+5) #[.nilFunc] 102:=by rw [← e6n,← z5];exact Has.new _ _ _
  have x6:w6n.cell? ⟨B+5,0,none⟩=some .nilFunc:=hN6.cell 0
  have f6:=hN6.frozen 0
  have WA:w6n.setCell ⟨B+5,0,none⟩ (sUPV B)=w6:=by rw [← e6n,← z5,← e6];exact World.setCell_alloc_new _ _ _ _
  clear hN hb6 hPC hlen hS6 hE6 hS hO hi hj hT h0 con e6 hN6
  go_enter Tryz.func80,Tryz.ntmps80
  go_upto_region 3 with fail
  first | rw [WA] | skip
  clear e1 e2 e3 e4 e5 e6n z1 z2 z3 z4 z5 hB x6 f6 WA
  go_wp2_with fail
  refine cp.mono ?_
  rintro e w7 ⟨g,cg,rfl,hown,hb7⟩
  clear cp
  obtain ⟨M,hM⟩:∃ M,PC N=M:=⟨_,rfl⟩
  rw [hM] at hown ⊢
  have hg:=hown.lt g rfl
  have W7:Aside (Below B w w7∧w7.ownsRow w6.heap.size 24 1 (.slice (some ⟨g,0,none⟩) M cg) M (z0h (z3u N))∧PC N=M∧B≤g∧g<w7.heap.size):=⟨HA.out.2.2.2.1.trans (hb7.mono (by have:=HA.out;omega)),hown,hM,by have:=HA.out;omega,hg.2⟩
  have S0:Aside (SCL c OKS St F T N s B m bi bli bj bnj bw w7 w7 0 (.slice none 0 0) [] s i j):=by
    obtain ⟨q1,q2,q3,q4,q5⟩:=HE.out
    have hh:=HA.out
    have hk:KPB B 0 w6 w7:=KPB.of_below hb7 (Nat.zero_le _)
    exact ⟨q1.kpb hk,CO.out.still s w6 w7 q2 (hb7.mono (by omega)),KPB.refl _ _ _,⟨rfl,.inl ⟨rfl,rfl⟩⟩,by rw [List.drop_zero];rfl,q3,by rw [List.drop_zero];exact q4,by rw [List.drop_zero];exact q5,by have:=hb7.size;omega⟩
  clear hown hb7 hM hg HE
  go_wp2_with fail
  go_loopg [14,21] M (fun q s14 s21 wx=>∃ (k:Nat) (out:List Int) (sx:σ) (i' j':Nat),s21=.int .i64 (k:Int)∧Aside (k+q=M∧SCL c OKS St F T N s B m bi bli bj bnj bw w7 wx k s14 out sx i' j'))
  case atStart=>exact ⟨0,[],s,i,j,rfl,by omega,S0.out⟩
  case round=>
    obtain ⟨k,out,sx,i',j',rfl,A⟩:=hrel
    clear S0
    cases gk with
    | zero=>
      obtain rfl:k=M:=by have:=A.out.1;omega
      have hlt:¬ (k:Int)<(k:Int):=by omega
      have FN:Aside (∃ ap cp,u14=.slice ap (PC N) cp∧wr.ownsRow B 23 32 (.slice ap (PC N) cp) (PC N) (z00 (GUPS c F T (TPS N) s).1)∧St (GUPS c F T (TPS N) s).2 wr∧Below m w wr):=by
        show ∃ ap cp,u14=.slice ap (PC N) cp∧wr.ownsRow B 23 32 (.slice ap (PC N) cp) (PC N) (z00 (GUPS c F T (TPS N) s).1)∧St (GUPS c F T (TPS N) s).2 wr∧Below m w wr
        rw [W7.out.2.2.1]
        have h:=A.out.2
        have e:=h.all
        rw [List.drop_of_length_le (by have:=W7.out.2.2.1;have:=HA.out.2.2.1;omega),GUPS,List.append_nil] at e
        have ho:=h.own
        obtain ⟨ap,cp,rfl⟩:=scut ho
        rw [e]
        exact ⟨ap,cp,rfl,z0f ho (by have:=h.lt;omega),h.st,(W7.out.1.mono HA.out.2.2.2.2.2).trans h.kp.below⟩
      clear A W7 HA CO
      go_wp2_with fail
      obtain ⟨ap,cp,rfl,h1,h2,h3⟩:=FN.out
      go_ret
      exact ⟨ap,cp,rfl,h1,h2,h3⟩
    | succ q=>
      have hlt:(k:Int)<(M:Int):=by have:=A.out.1;omega
      have hjm:k<(TPS N).length:=by have:=A.out.1;have:=W7.out.2.2.1;have:=HA.out.2.2.1;omega
      obtain ⟨⟨h,l⟩,ehk⟩:∃ s,(TPS N)[k]?=some s:=⟨_,List.getElem?_eq_getElem hjm⟩
      have hsp:=z2c HA.out.1 (List.mem_of_getElem? ehk)
      have epk:=z7V ehk
      have hcell:wr.cell? ⟨g,k,none⟩=some (.int .u64 ((PLC h l:Nat):Int)):=by
        have h1:=W7.out.2.1.cellAt k (by have:=A.out.1;omega)
        refine (World.cell?_of_block (w:=w7) (by exact A.out.2.kp.keep g W7.out.2.2.2.1 W7.out.2.2.2.2)).trans (h1.trans ?_)
        rw [z0h,List.getElem?_map,epk]
        rfl
      have ej:wrap64 ((k:Int)+1)=((k+1:Nat):Int):=by have:=A.out.1;have:=W7.out.2.2.1;have:=HA.out.2.1;unfold wrap64;omega
      have xu:wr.cell? ⟨B+5,0,none⟩=some (sUPV B):=A.out.2.env.u.cell 0
      have hd:=zdP ehk
      have hlv:=A.out.2.lv
      have hnd:=A.out.2.nd
      have hall:=A.out.2.all
      rw [hd] at hlv hnd hall
      have hlv:(SG F T h l).length+GLV F T ((TPS N).drop (k+1))≤i':=hlv
      have hnd:(NEED h l (SG F T h l)).length+GND F T ((TPS N).drop (k+1))≤j':=hnd
      rw [GUPS] at hall
      have sp:=z5t CO.out.ok F T h l i' j' sx A.out.2.oks (by omega) (by omega)
      have cu:=zfn CO.out F T h l hsp.2.2 sx i' j' wr A.out.2.env A.out.2.st A.out.2.oks (by omega) (by omega)
      have y32:=CO.out.len _ sp.1
      have SP:Aside (GUPS c F T (TPS N) s=((out ++ (GUP c F T h l sx).1) ++ (GUPS c F T ((TPS N).drop (k+1)) (GUP c F T h l sx).2).1,(GUPS c F T ((TPS N).drop (k+1)) (GUP c F T h l sx).2).2)∧OKS (i' - (SG F T h l).length) (j' - (NEED h l (SG F T h l)).length) (GUP c F T h l sx).2∧GLV F T ((TPS N).drop (k+1))≤i' - (SG F T h l).length∧GND F T ((TPS N).drop (k+1))≤j' - (NEED h l (SG F T h l)).length):=⟨by rw [hall,List.append_assoc],sp.2,by omega,by omega⟩
      generalize i' - (SG F T h l).length=i2 at *
      generalize j' - (NEED h l (SG F T h l)).length=j2 at *
      generalize (GUP c F T h l sx).1=Y at *
      generalize (GUP c F T h l sx).2=s2 at *
      have hk64:(k:Int)≤64:=by have:=A.out.1;have:=W7.out.2.2.1;have:=HA.out.2.1;omega
      clear hsp epk hjm ehk hd hlv hnd hall sp
      go_wp2_with fail
      refine cu.mono ?_
      rintro e w8 ⟨rfl,g1,g2⟩
      clear cu hcell xu
      have A8:Aside (k+1+q=M∧St s2 w8∧KPB B m w7 w8∧CENV w8 F T B bi bli bj bnj bw∧w8.ownsRow w7.heap.size 23 32 u14 k (z00 out)∧B+5<w7.heap.size∧w7.heap.size≤w8.heap.size):=by
        have h:=A.out.2
        have h1:=A.out.1
        have h2:=h.lt
        have h3:=h.kp.below.size
        have h4:=g2.below.size
        exact ⟨by clear ej;omega,g1,h.kp.trans g2,h.env.kpb g2,z0n h.own fun q e=>g2.keep q (by have:=(h.own.lt q e).1;clear ej;omega) (h.own.lt q e).2,h2,by clear ej;omega⟩
      clear g1 g2 A
      go_wp2_with (first
        | (refine z17 _ rfl 25 23 (.tmp 28) rfl (z00 Y).toArray rfl 32 _ _ Tryz.underlying25 z16 (by simp [z00,y32]) rfl (by decide) (by decide) ?_)
        | (at_builtin;refine z2a _ rfl (.tmp 25) (.tmp 29) rfl w7.heap.size u14 k _ rfl (A8.out.2.2.2.2.1.alloc _) _ 1 Y y32 rfl (Has.new _ _ _) (by clear ej;omega) (by have:=A8.out.2.2.2.2.2.2;simp;clear ej;omega) ?_;intro g9 c9 w9 hown hgrow hat hg))
      have Z9:Aside (k+1+q=M∧SCL c OKS St F T N s B m bi bli bj bnj bw w7 w9 (k+1) (.slice (some ⟨g9,0,none⟩) (k+1) c9) (out ++ Y) s2 i2 j2):=by
        obtain ⟨z1,z2,z3,z4,z5,z6,z7⟩:=A8.out
        obtain ⟨q1,q2,q3,q4⟩:=SP.out
        have hsz:=z2z hgrow
        simp at hsz
        have hbb:∀ q,q<w8.heap.size→u14.ownBlock≠some q→w9.heap[q]?=w8.heap[q]?:=fun q hq hne=>(hgrow.block q (by simp;omega) fun e=>hne e.symm).trans (Below.heap_alloc w8 _ q hq)
        have hB9:∀ n,n≤w7.heap.size→Below n w8 w9:=fun n hn=>((Below.refl n w8).alloc (by clear ej;omega) _).grown hgrow (by simp;clear ej;omega) (fun k e=>by have:=(z5.lt k e).1;clear ej;omega)
        have hk9:KPB B m w7 w9:=⟨fun q hq hl=>(hbb q (by clear ej;omega) (fun e=>by have:=(z5.lt q e).1;clear ej;omega)).trans (z3.keep q hq hl),z3.below.trans (hB9 m (by have:=HA.out;clear ej;omega))⟩
        have hlt9:∀ q,q<w7.heap.size→w9.heap[q]?=w8.heap[q]?:=fun q hq=>(hB9 w7.heap.size (Nat.le_refl _)).block q hq
        refine ⟨z1,⟨?_,?_,?_,?_,?_,?_⟩,CO.out.still s2 w8 w9 z2 (hB9 B (by clear ej;omega)),hk9,by rw [z0m];exact hown,q1,q2,q3,q4,z6⟩
        · exact (hlt9 _ (by clear ej;omega)).trans z4.f
        · exact (hlt9 _ (by clear ej;omega)).trans z4.t
        · exact (hlt9 _ (by clear ej;omega)).trans z4.l
        · exact (hlt9 _ (by clear ej;omega)).trans z4.n
        · exact (hlt9 _ (by clear ej;omega)).trans z4.j
        · exact (hlt9 _ (by clear ej;omega)).trans z4.u
      clear hown hgrow hat hg A8 SP y32
      go_wp2
      go_roundg q
      case measure=>exact Nat.lt_succ_self _
      case rel=>exact ⟨k+1,out ++ Y,s2,i2,j2,by first | rfl | (rw [ej]),Z9.out⟩
end Go.Proofs.YthdpkaiieomdoaaGreatDoor

namespace Go.Proofs.YthdpkaiieomdoaaGreatDoor
open Go.RowKit
set_option maxRecDepth 100000
set_option maxHeartbeats 2000000 in
theorem z6Q (a:Option Addr) (n c:Nat) (w:World):Calls Tryz.prog 81 #[.slice a n c] w fun e w'=>e=.returned (z0U (w.heap.size+1) w.heap.size)∧Has w' w.heap.size #[.slice a n c] 25∧Has w' (w.heap.size+1) #[.int .i64 (-1)] 3∧Below w.heap.size w w'∧w'.heap.size=w.heap.size+2:=by
  have hmf:∀ (fn:Fn) (first cap:Array Value) (w:World),(Instr.makeFunc fn first cap).run Tryz.prog w=.ok (.func fn first cap) w:=fun _ _ _ _=>rfl
  obtain ⟨w1,e1⟩:∃ w1,w.alloc (.cells #[.slice a n c] 25)=w1:=⟨_,rfl⟩
  obtain ⟨w2,e2⟩:∃ w2,w1.alloc (.cells #[.int .i64 (-1)] 3)=w2:=⟨_,rfl⟩
  have s1:w1.heap.size=w.heap.size+1:=by rw [← e1];simp
  have FN:Aside (Has w2 w.heap.size #[.slice a n c] 25∧Has w2 (w.heap.size+1) #[.int .i64 (-1)] 3∧Below w.heap.size w w2∧w2.heap.size=w.heap.size+2):=by
    refine ⟨?_,?_,?_,?_⟩
    · rw [← e2,← e1];exact (Has.new _ _ _).alloc _
    · rw [← e2,← s1];exact Has.new _ _ _
    · rw [← e2,← e1];exact ((Below.refl _ _).alloc (Nat.le_refl _) _).alloc (by simp) _
    · rw [← e2];simp [s1]
  go_enter Tryz.func81,Tryz.ntmps81
  go_wp2_with fail
  go_ret
  exact ⟨rfl,FN.out⟩
theorem z8e (l:List Int) (i:Nat):HSH (l.drop (32*i)) 0=HSH l i:=by
  unfold HSH
  rw [List.drop_drop]
  rfl
set_option maxHeartbeats 4000000 in
theorem z8f (bi bl b o n c i:Nat) (l:List Int) (w:World) (hI:Has w bi #[.int .i64 ((i:Int) - 1)] 3) (hL:Has w bl #[.slice (some ⟨b,o,none⟩) n c] 25) (hF:Flat w (some ⟨b,o,none⟩) n l) (hi:i<n) (hn:n<2 ^ 40) (hne:b≠bi) (hne2:bl≠bi):
    Calls Tryz.prog 122 #[.pointer (some ⟨bi,0,none⟩),.pointer (some ⟨bl,0,none⟩)] w fun e w'=>e=.returned (.agg (z00 (HSH l i)).toArray)∧Has w' bi #[.int .i64 (i:Int)] 3∧BUT bi w w':=by
  have y32:=z0y hF.1 hi
  have hbi:=hI.lt
  obtain ⟨W0,hW0⟩:∃ W0,w.alloc (.cells ZARR 23)=W0:=⟨_,rfl⟩
  obtain ⟨b2,hb2⟩:∃ b2,w.heap.size=b2:=⟨_,rfl⟩
  have R0:Aside (Below w.heap.size w W0∧Has W0 b2 (z00 ZND).toArray 23∧Has W0 bi #[.int .i64 ((i:Int) - 1)] 3∧bi<b2∧w.heap.size=b2):=by
    rw [← hW0,← hb2]
    exact ⟨(Below.refl _ _).alloc (Nat.le_refl _) _,by rw [z0P];exact Has.new _ _ _,hI.alloc _,hbi,rfl⟩
  have hl0:=hL.keep R0.out.1
  have hat0:W0.rangeAt b (o+i*32) (z00 (HSH l i)):=(hF.below R0.out.1).at hi
  have x0:W0.cell? ⟨bi,0,none⟩=some (.int .i64 ((i:Int) - 1)):=R0.out.2.2.1.cell 0
  have f0:=R0.out.2.2.1.frozen 0
  have ew:wrap64 (i:Int)=(i:Int):=by unfold wrap64;omega
  obtain ⟨W1,hW1⟩:∃ W1,W0.setCell ⟨bi,0,none⟩ (.int .i64 (i:Int))=W1:=⟨_,rfl⟩
  have hI1:Has W1 bi #[.int .i64 (i:Int)] 3:=by rw [← hW1];exact R0.out.2.2.1.set 0 _
  have hl1:Has W1 bl #[.slice (some ⟨b,o,none⟩) n c] 25:=by rw [← hW1];exact hl0.other (by exact hne2) _
  have H2:Has W1 b2 (z00 ZND).toArray 23:=by rw [← hW1];exact R0.out.2.1.other (by show b2≠bi;have:=R0.out.2.2.2.1;omega) _
  have hat:W1.rangeAt b (o+i*32) (z00 (HSH l i)):=fun j v hv=>by
    rw [← hW1]
    exact (World.cell?_of_block (w:=W0) (by exact Below.heap_setCell _ _ _ _ (by exact hne))).trans (hat0 j v hv)
  have x1:W1.cell? ⟨bi,0,none⟩=some (.int .i64 (i:Int)):=hI1.cell 0
  have x2:W1.cell? ⟨bl,0,none⟩=some (.slice (some ⟨b,o,none⟩) n c):=hl1.cell 0
  have g0:¬ (i:Int)<0:=by omega
  have g1:(i:Int)<(n:Int):=by omega
  have FN:Aside (Has (W1.setRow b2 (z00 (HSH l i)).toArray) bi #[.int .i64 (i:Int)] 3∧BUT bi w (W1.setRow b2 (z00 (HSH l i)).toArray)):=by
    have h1:=R0.out.2.2.2
    refine ⟨hI1.row_other (by omega) _,fun q hq hq'=>?_,?_⟩
    · rw [setRow_other _ b2 q _ (by omega),← hW1,Below.heap_setCell _ _ _ _ (by exact hq')]
      exact R0.out.1.block q hq
    · rw [← hW1]
      exact z04 ((R0.out.1.mono (by show bi≤_;omega)).setCell (p:=⟨bi,0,none⟩) (Nat.le_refl _) _) (by show bi≤_;omega) _
  clear hF hbi hI hL hl0 hat0 hI1 hl1 hne hne2 R0 hi hn
  generalize HSH l i=Y at *
  go_enter Tryz.func122,Tryz.ntmps122
  go_upto_region 2 with fail
  clear hW0 hb2
  first | rw [hW1] | skip
  clear x0 f0 hW1
  go_wp2_with (first
    | (refine wpList_load_mid rfl 23 (.tmp 7) rfl b (o+i*32) rfl (z00 Y) _ hat Tryz.underlying23 rfl (z0j y32) ?_)
    | (refine wpList_store_row rfl 23 (.tmp 2) (.tmp 8) rfl _ _ rfl rfl 23 _ H2 (z03 y32) (by simp [z00,y32];rfl) (z0i Y) ?_))
  refine bodyPost_ret (v:=.agg (z00 Y).toArray) (z1p rfl _ _ b2 23 _ (0,0) _ _ rfl (Has.row H2 _) Tryz.underlying23 (z03 y32)) rfl ⟨rfl,FN.out⟩
end Go.Proofs.YthdpkaiieomdoaaGreatDoor
