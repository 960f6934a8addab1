/- Texts of SpanVerifies, one behind the other: SpanRefOver, SpanRefPlaces. -/
import Derived.Test.YthdpkaiieomdoaaGreatDoorSpanVerifiesP25
import Derived.Test.YthdpkaiieomdoaaGreatDoorSpanVerifiesP29
import Derived.Test.YthdpkaiieomdoaaGreatDoorSpanVerifiesP30
namespace Go.Proofs.YthdpkaiieomdoaaGreatDoor
open Go.RowKit
set_option maxRecDepth 100000
structure SOVB (w W:World) (h k:Nat) (R:Array Value) (b5 b7 b8 b9:Nat):Prop where
  below:Below w.heap.size w W
  spot:Has W b5 #[.int .u8 (h:Int),.int .u64 (k:Int)] 78
  row:Has W b7 R 72
  hash:Has W b8 (z00 ZND).toArray 23
  left:Has W b9 #[.slice none 0 0,.slice none 0 0] 72
  n:w.heap.size≤b5∧b5<b7∧b7<b8∧b8<b9
theorem SOVB.still {w W W':World} {h k b5 b7 b8 b9:Nat} {R:Array Value} (H:SOVB w W h k R b5 b7 b8 b9) (hb:Below W.heap.size W W'):SOVB w W' h k R b5 b7 b8 b9:=
  ⟨H.below.trans (hb.mono H.below.size),H.spot.keep hb,H.row.keep hb,H.hash.keep hb,H.left.keep hb,H.n⟩
theorem SOVB.turn {w W:World} {h k b5 b7 b8 b9:Nat} {R:Array Value} (H:SOVB w W h k R b5 b7 b8 b9) (R2:Array Value):SOVB w (W.setRow b7 R2) h k R2 b5 b7 b8 b9:=by
  have hn:=H.n
  exact ⟨z04 H.below (by omega) _,H.spot.row_other (by omega) _,H.row.row _,H.hash.row_other (by omega) _,H.left.row_other (by omega) _,H.n⟩
theorem z3V {w W:World} {h k b5 b7 b8 b9:Nat} {R R2:Array Value} {Y:List Int} (H:SOVB w W h k R b5 b7 b8 b9):Below w.heap.size w ((W.setRow b8 (z00 Y).toArray).setRow b9 R2)∧Has ((W.setRow b8 (z00 Y).toArray).setRow b9 R2) b8 (z00 Y).toArray 23∧Has ((W.setRow b8 (z00 Y).toArray).setRow b9 R2) b9 R2 72:=by
  have hn:=H.n
  exact ⟨z04 (z04 H.below (by omega) _) (by omega) _,(H.hash.row _).row_other (by omega) _,(H.left.row_other (by omega) _).row _⟩
set_option maxHeartbeats 8000000 in
theorem z5b (d:Int) (h k F T:Nat) (lv nd:List Int) (ya xa:Option Addr) (i j yc xc:Nat) (w0 w:World) (hb0:Below w0.heap.size w0 w) (hN:Node h k) (e:APRT F T h k)
    (hY:LFT w0 ya i yc lv) (hX:LFT w0 xa j xc nd) (hp:0<j):
    Calls Tryz.prog 40 #[.int .i64 d,SPOT h k,.int .u64 (F:Int),.int .u64 (T:Int),.agg #[.slice ya i yc,.slice xa j xc]] w (OVR w0 w (HSH nd 0) lv (nd.drop 32) i (j - 1)):=by
  obtain ⟨g,o,rfl,hg,_⟩:=hX.1.2.1 hp
  have lY:=z0y hX.1.1 hp
  have hpp:(0:Int)<(j:Int):=by omega
  have hsl:=z6H g o j xc hp hX.2
  have RS:Aside (LFT w0 (SLA (some ⟨g,o,none⟩) xc 1) (j - 1) (xc - 1) (nd.drop 32)):=hX.rest hp
  have hat:w.rangeAt g o (z00 (HSH nd 0)):=by
    have:=(hX.1.below hb0).at hp
    rwa [Nat.zero_mul,Nat.add_zero] at this
  obtain ⟨W0,hW0⟩:∃ W0,(((w.alloc (.cells #[.int .u8 (h:Int),.int .u64 (k:Int)] 78)).alloc (.cells #[.slice ya i yc,.slice (some ⟨g,o,none⟩) j xc] 72)).alloc (.cells ZARR 23)).alloc (.cells #[.slice none 0 0,.slice none 0 0] 72)=W0:=⟨_,rfl⟩
  obtain ⟨b5,hb5⟩:∃ b,w.heap.size=b:=⟨_,rfl⟩
  obtain ⟨b7,hb7⟩:∃ b,b5+1=b:=⟨_,rfl⟩
  obtain ⟨b8,hb8⟩:∃ b,b7+1=b:=⟨_,rfl⟩
  obtain ⟨b9,hb9⟩:∃ b,b8+1=b:=⟨_,rfl⟩
  have H0:SOVB w W0 h k #[.slice ya i yc,.slice (some ⟨g,o,none⟩) j xc] b5 b7 b8 b9:=by
    rw [← hW0,← hb9,← hb8,← hb7,← hb5]
    refine ⟨((((Below.refl _ _).alloc (Nat.le_refl _) _).alloc (by simp) _).alloc (by simp;omega) _).alloc (by simp;omega) _,(((Has.new _ _ _).alloc _).alloc _).alloc _,((Has.at _ _ _ (by simp)).alloc _).alloc _,by rw [z0P];exact (Has.at _ _ _ (by simp)).alloc _,Has.at _ _ _ (by simp),by omega,by omega,by omega,by omega⟩
  have x0:=H0.spot.cell 0
  have x1:=H0.spot.cell 1
  have ck:=z1Z h k F T hN W0
  rw [decide_eq_false (fun hc=>hc e)] at ck
  have hsp:SPOT h k=.agg #[.int .u8 (h:Int),.int .u64 (k:Int)]:=rfl
  have hgl:g<w.heap.size:=Nat.lt_of_lt_of_le hg hb0.size
  have HA:Aside (SOVB w W0 h k #[.slice ya i yc,.slice (some ⟨g,o,none⟩) j xc] b5 b7 b8 b9∧LFT w0 ya i yc lv∧w.rangeAt g o (z00 (HSH nd 0))∧g<w.heap.size):=⟨H0,hY,hat,hgl⟩
  rw [hsp] at ck
  rw [hsp]
  clear hY hX hp H0 hg hN e hsp hat hgl hb0
  generalize HSH nd 0=Y at *
  generalize nd.drop 32=l1 at *
  generalize SLA (some ⟨g,o,none⟩) xc 1=a1 at *
  generalize j - 1=n1 at *
  generalize xc - 1=c1 at *
  go_enter Tryz.func40,Tryz.ntmps40
  go_upto_region 1 with fail
  clear hW0 hb5 hb7 hb8 hb9
  go_wp2_with fail
  refine ck.mono ?_
  rintro e w1 ⟨rfl,hb1⟩
  clear ck x0 x1
  have H1:=HA.out.1.still hb1
  have y0:=H1.spot.cell 0
  have hrg:w1.rangeAt g o (z00 Y):=fun q v hv=>(H1.below.cell (p:=⟨g,o+q,none⟩) HA.out.2.2.2).trans (HA.out.2.2.1 q v hv)
  have B1:Aside (SOVB w w1 h k #[.slice ya i yc,.slice (some ⟨g,o,none⟩) j xc] b5 b7 b8 b9∧w1.rangeAt g o (z00 Y)):=⟨H1,hrg⟩
  clear hb1 H1 hrg
  go_upto_region 2 with fail
  refine zfo w1 b7 b8 b9 g o j xc n1 c1 i yc a1 ya Y lY hpp hsl (fun W=>W=w1.drew) (fun W=>W=w1.drew.setRow b8 (z00 Y).toArray) (fun W=>W=(w1.drew.setRow b8 (z00 Y).toArray).setRow b9 #[.slice ya i yc,.slice a1 n1 c1]) rfl ?_ ?_ ?_ ?_ ?_ ?_ ?_ (fun _ _ _ _ _ h=>h) ?_
  · rintro _ rfl
    exact ⟨B1.out.2,B1.out.1.row.cell 1,B1.out.1.row.cell 0⟩
  · rintro _ rfl
    have hn:=B1.out.1.n
    have hgl:=HA.out.2.2.2
    exact ⟨fun q v hv=>(World.cell?_of_block (w:=w1) (by exact setRow_other _ b8 g _ (by omega))).trans (B1.out.2 q v hv),(B1.out.1.row.row_other (by omega) _).cell 1,(B1.out.1.row.row_other (by omega) _).cell 0⟩
  · rintro _ rfl
    have hn:=B1.out.1.n
    have hgl:=HA.out.2.2.2
    exact ⟨fun q v hv=>(World.cell?_of_block (w:=w1) (by exact (setRow_other _ b9 g _ (by omega)).trans (setRow_other _ b8 g _ (by omega)))).trans (B1.out.2 q v hv),((B1.out.1.row.row_other (by omega) _).row_other (by omega) _).cell 1,((B1.out.1.row.row_other (by omega) _).row_other (by omega) _).cell 0⟩
  · rintro _ rfl
    exact B1.out.1.hash
  · rintro _ rfl
    rfl
  · rintro _ rfl
    have hn:=B1.out.1.n
    exact B1.out.1.left.row_other (by omega) _
  · rintro _ rfl
    rfl
  · rintro w2 rfl
    dsimp only
    have hbd:Below w1.heap.size w1 w1.drew:=(Below.refl _ w1).drew
    have h8:=z3V (Y:=Y) (R2:=#[.slice ya i yc,.slice a1 n1 c1]) (B1.out.1.still hbd)
    clear B1
    generalize (w1.drew.setRow b8 (z00 Y).toArray).setRow b9 #[.slice ya i yc,.slice a1 n1 c1]=w3 at *
    go_wp2_with fail
    exact bodyPost_ret (v:=.tuple #[.agg (z00 Y).toArray,.agg #[.slice ya i yc,.slice a1 n1 c1]]) (z33 rfl _ _ b8 b9 _ _ rfl rfl (run_loadVar_row _ b8 23 23 _ (0,0) _ h8.2.1 Tryz.underlying23 rfl (z03 lY)) (run_loadVar_row _ b9 72 72 _ (0,0) _ h8.2.2 Tryz.underlying72 rfl (by kernel_rfl))) rfl ⟨_,_,_,_,rfl,HA.out.2.1,RS.out,h8.1⟩
set_option maxHeartbeats 8000000 in
theorem z9a (d:Int) (h k F T:Nat) (hh:h=0) (lv nd:List Int) (ya xa:Option Addr) (i j yc xc:Nat) (w0 w:World) (hb0:Below w0.heap.size w0 w) (hN:Node h k) (e:¬ APRT F T h k)
    (hY:LFT w0 ya i yc lv) (hX:LFT w0 xa j xc nd) (hp:0<i):
    Calls Tryz.prog 40 #[.int .i64 d,SPOT h k,.int .u64 (F:Int),.int .u64 (T:Int),.agg #[.slice ya i yc,.slice xa j xc]] w (OVR w0 w (HSH lv 0) (lv.drop 32) nd (i - 1) j):=by
  obtain ⟨g,o,rfl,hg,_⟩:=hY.1.2.1 hp
  have lY:=z0y hY.1.1 hp
  have hpp:(0:Int)<(i:Int):=by omega
  have hsl:=z6H g o i yc hp hY.2
  have RS:Aside (LFT w0 (SLA (some ⟨g,o,none⟩) yc 1) (i - 1) (yc - 1) (lv.drop 32)):=hY.rest hp
  have hat:w.rangeAt g o (z00 (HSH lv 0)):=by
    have:=(hY.1.below hb0).at hp
    rwa [Nat.zero_mul,Nat.add_zero] at this
  obtain ⟨W0,hW0⟩:∃ W0,(((w.alloc (.cells #[.int .u8 (h:Int),.int .u64 (k:Int)] 78)).alloc (.cells #[.slice (some ⟨g,o,none⟩) i yc,.slice xa j xc] 72)).alloc (.cells ZARR 23)).alloc (.cells #[.slice none 0 0,.slice none 0 0] 72)=W0:=⟨_,rfl⟩
  obtain ⟨b5,hb5⟩:∃ b,w.heap.size=b:=⟨_,rfl⟩
  obtain ⟨b7,hb7⟩:∃ b,b5+1=b:=⟨_,rfl⟩
  obtain ⟨b8,hb8⟩:∃ b,b7+1=b:=⟨_,rfl⟩
  obtain ⟨b9,hb9⟩:∃ b,b8+1=b:=⟨_,rfl⟩
  have H0:SOVB w W0 h k #[.slice (some ⟨g,o,none⟩) i yc,.slice xa j xc] b5 b7 b8 b9:=by
    rw [← hW0,← hb9,← hb8,← hb7,← hb5]
    refine ⟨((((Below.refl _ _).alloc (Nat.le_refl _) _).alloc (by simp) _).alloc (by simp;omega) _).alloc (by simp;omega) _,(((Has.new _ _ _).alloc _).alloc _).alloc _,((Has.at _ _ _ (by simp)).alloc _).alloc _,by rw [z0P];exact (Has.at _ _ _ (by simp)).alloc _,Has.at _ _ _ (by simp),by omega,by omega,by omega,by omega⟩
  have x0:=H0.spot.cell 0
  have x1:=H0.spot.cell 1
  have ck:=z1Z h k F T hN W0
  rw [decide_eq_true e] at ck
  have hsp:SPOT h k=.agg #[.int .u8 (h:Int),.int .u64 (k:Int)]:=rfl
  have hgl:g<w.heap.size:=Nat.lt_of_lt_of_le hg hb0.size
  have HA:Aside (SOVB w W0 h k #[.slice (some ⟨g,o,none⟩) i yc,.slice xa j xc] b5 b7 b8 b9∧LFT w0 xa j xc nd∧w.rangeAt g o (z00 (HSH lv 0))∧g<w.heap.size):=⟨H0,hX,hat,hgl⟩
  rw [hsp] at ck
  rw [hsp]
  have HZ:Aside ((h:Int)=0):=by show (h:Int)=0;omega
  clear hY hX hp H0 hg hN e hsp hat hgl hb0 hh
  generalize HSH lv 0=Y at *
  generalize lv.drop 32=l1 at *
  generalize SLA (some ⟨g,o,none⟩) yc 1=a1 at *
  generalize i - 1=n1 at *
  generalize yc - 1=c1 at *
  go_enter Tryz.func40,Tryz.ntmps40
  go_upto_region 1 with fail
  clear hW0 hb5 hb7 hb8 hb9
  go_wp2_with fail
  refine ck.mono ?_
  rintro e w1 ⟨rfl,hb1⟩
  clear ck x0 x1
  have H1:=HA.out.1.still hb1
  have y0:w1.cell? ⟨b5,0,none⟩=some (.int .u8 0):=by rw [H1.spot.cell 0,← HZ.out];rfl
  have hrg:w1.rangeAt g o (z00 Y):=fun q v hv=>(H1.below.cell (p:=⟨g,o+q,none⟩) HA.out.2.2.2).trans (HA.out.2.2.1 q v hv)
  have B1:Aside (SOVB w w1 h k #[.slice (some ⟨g,o,none⟩) i yc,.slice xa j xc] b5 b7 b8 b9∧w1.rangeAt g o (z00 Y)):=⟨H1,hrg⟩
  clear hb1 H1 hrg
  go_upto_region 4 with fail
  refine zfp w1 b7 b8 b9 g o i yc n1 c1 j xc a1 xa Y lY hpp hsl (fun W=>W=w1.drew) (fun W=>W=w1.drew.setRow b8 (z00 Y).toArray) (fun W=>W=(w1.drew.setRow b8 (z00 Y).toArray).setRow b9 #[.slice a1 n1 c1,.slice xa j xc]) rfl ?_ ?_ ?_ ?_ ?_ ?_ ?_ (fun _ _ _ _ _ h=>h) ?_
  · rintro _ rfl
    exact ⟨B1.out.2,B1.out.1.row.cell 0,B1.out.1.row.cell 1⟩
  · rintro _ rfl
    have hn:=B1.out.1.n
    have hgl:=HA.out.2.2.2
    exact ⟨fun q v hv=>(World.cell?_of_block (w:=w1) (by exact setRow_other _ b8 g _ (by omega))).trans (B1.out.2 q v hv),(B1.out.1.row.row_other (by omega) _).cell 0,(B1.out.1.row.row_other (by omega) _).cell 1⟩
  · rintro _ rfl
    have hn:=B1.out.1.n
    have hgl:=HA.out.2.2.2
    exact ⟨fun q v hv=>(World.cell?_of_block (w:=w1) (by exact (setRow_other _ b9 g _ (by omega)).trans (setRow_other _ b8 g _ (by omega)))).trans (B1.out.2 q v hv),((B1.out.1.row.row_other (by omega) _).row_other (by omega) _).cell 0,((B1.out.1.row.row_other (by omega) _).row_other (by omega) _).cell 1⟩
  · rintro _ rfl
    exact B1.out.1.hash
  · rintro _ rfl
    rfl
  · rintro _ rfl
    have hn:=B1.out.1.n
    exact B1.out.1.left.row_other (by omega) _
  · rintro _ rfl
    rfl
  · rintro w2 rfl
    dsimp only
    have hbd:Below w1.heap.size w1 w1.drew:=(Below.refl _ w1).drew
    have h8:=z3V (Y:=Y) (R2:=#[.slice a1 n1 c1,.slice xa j xc]) (B1.out.1.still hbd)
    clear B1
    generalize (w1.drew.setRow b8 (z00 Y).toArray).setRow b9 #[.slice a1 n1 c1,.slice xa j xc]=w3 at *
    go_wp2_with fail
    exact bodyPost_ret (v:=.tuple #[.agg (z00 Y).toArray,.agg #[.slice a1 n1 c1,.slice xa j xc]]) (z33 rfl _ _ b8 b9 _ _ rfl rfl (run_loadVar_row _ b8 23 23 _ (0,0) _ h8.2.1 Tryz.underlying23 rfl (z03 lY)) (run_loadVar_row _ b9 72 72 _ (0,0) _ h8.2.2 Tryz.underlying72 rfl (by kernel_rfl))) rfl ⟨_,_,_,_,rfl,RS.out,HA.out.2.1,h8.1⟩
set_option maxHeartbeats 8000000 in
theorem z9b (d:Int) (h k F T:Nat) (hh:h<62) (hk:2*k+1<2 ^ 64) (hN:Node (h+1) k) (e:¬ APRT F T (h+1) k) (lv1 nd1 lv2 nd2 A B:List Int) (ya xa:Option Addr) (i j yc xc i1 j1 i2 j2:Nat) (w0 w:World) (hb0:Below w0.heap.size w0 w) (hA:IsH A) (hB:IsH B)
    (c1:∀ W,Below w0.heap.size w0 W→Calls Tryz.prog 40 #[.int .i64 d,SPOT h (2*k),.int .u64 (F:Int),.int .u64 (T:Int),.agg #[.slice ya i yc,.slice xa j xc]] W (OVR w0 W A lv1 nd1 i1 j1))
    (c2:∀ W ya' yc' xa' xc',Below w0.heap.size w0 W→LFT w0 ya' i1 yc' lv1→LFT w0 xa' j1 xc' nd1→Calls Tryz.prog 40 #[.int .i64 d,SPOT h (2*k+1),.int .u64 (F:Int),.int .u64 (T:Int),.agg #[.slice ya' i1 yc',.slice xa' j1 xc']] W (OVR w0 W B lv2 nd2 i2 j2)):
    Calls Tryz.prog 40 #[.int .i64 d,SPOT (h+1) k,.int .u64 (F:Int),.int .u64 (T:Int),.agg #[.slice ya i yc,.slice xa j xc]] w (OVR w0 w (z1R d A B) lv2 nd2 i2 j2):=by
  obtain ⟨H,hH⟩:∃ H,h+1=H:=⟨_,rfl⟩
  have cm:=fun W=>z1Z (h+1) k F T hN W
  rw [decide_eq_true e,hH] at cm
  rw [hH]
  have e1:IntKind.u8.wrap ((H:Int) - 1)=(h:Int):=by subst hH;simp [IntKind.wrap,IntKind.bits,IntKind.signed];omega
  have e2:IntKind.u64.wrap (2*(k:Int))=((2*k:Nat):Int):=by rw [IntKind.wrap_u64];omega
  have e3:IntKind.u64.wrap (((2*k:Nat):Int)+1)=((2*k+1:Nat):Int):=by rw [IntKind.wrap_u64];omega
  have hz:((H:Int) == 0)=false:=beq_eq_false_iff_ne.2 (by omega)
  have lA:=hA.1
  have lB:=hB.1
  have hY:=z3G d A B
  have CN:Aside (∀ W,Calls Tryz.prog 78 #[.int .i64 d,.agg (z00 A).toArray,.agg (z00 B).toArray] W fun e w'=>e=.returned (.agg (z00 (z1R d A B)).toArray)∧Below W.heap.size W w'):=fun W=>z8V d A B hA hB W
  generalize z1R d A B=Y at *
  have lY:=hY.1
  obtain ⟨W0,hW0⟩:∃ W0,(((w.alloc (.cells #[.int .u8 (H:Int),.int .u64 (k:Int)] 78)).alloc (.cells #[.slice ya i yc,.slice xa j xc] 72)).alloc (.cells ZARR 23)).alloc (.cells #[.slice none 0 0,.slice none 0 0] 72)=W0:=⟨_,rfl⟩
  obtain ⟨b5,hb5⟩:∃ b,w.heap.size=b:=⟨_,rfl⟩
  obtain ⟨b7,hb7⟩:∃ b,b5+1=b:=⟨_,rfl⟩
  obtain ⟨b8,hb8⟩:∃ b,b7+1=b:=⟨_,rfl⟩
  obtain ⟨b9,hb9⟩:∃ b,b8+1=b:=⟨_,rfl⟩
  have H0:SOVB w W0 H k #[.slice ya i yc,.slice xa j xc] b5 b7 b8 b9:=by
    rw [← hW0,← hb9,← hb8,← hb7,← hb5]
    refine ⟨((((Below.refl _ _).alloc (Nat.le_refl _) _).alloc (by simp) _).alloc (by simp;omega) _).alloc (by simp;omega) _,(((Has.new _ _ _).alloc _).alloc _).alloc _,((Has.at _ _ _ (by simp)).alloc _).alloc _,by rw [z0P];exact (Has.at _ _ _ (by simp)).alloc _,Has.at _ _ _ (by simp),by omega,by omega,by omega,by omega⟩
  have x0:=H0.spot.cell 0
  have x1:=H0.spot.cell 1
  have ck:=cm W0
  have hsp:SPOT H k=.agg #[.int .u8 (H:Int),.int .u64 (k:Int)]:=rfl
  have hs1:SPOT h (2*k)=.agg #[.int .u8 (h:Int),.int .u64 ((2*k:Nat):Int)]:=rfl
  have hs2:SPOT h (2*k+1)=.agg #[.int .u8 (h:Int),.int .u64 ((2*k+1:Nat):Int)]:=rfl
  rw [hsp] at ck
  rw [hsp]
  rw [hs1] at c1
  rw [hs2] at c2
  have HA:Aside (SOVB w W0 H k #[.slice ya i yc,.slice xa j xc] b5 b7 b8 b9∧Below w0.heap.size w0 w∧b9<W0.heap.size):=⟨H0,hb0,H0.left.lt⟩
  have HS:Aside (w0.heap.size≤w.heap.size):=hb0.size
  have C1:Aside _:=c1
  have C2:Aside _:=c2
  have E12:Aside (IntKind.u8.wrap ((H:Int) - 1)=(h:Int)∧IntKind.u64.wrap (2*(k:Int))=((2*k:Nat):Int)∧IntKind.u64.wrap (((2*k:Nat):Int)+1)=((2*k+1:Nat):Int)):=⟨e1,e2,e3⟩
  have HZ:Aside (((H:Int) == 0)=false∧True):=⟨hz,trivial⟩
  clear cm hsp hs1 hs2 H0 hb0 c1 c2 hH hh hk hA hB hY e1 e2 e3 hz hN e
  generalize 2*k=k2 at *
  go_enter Tryz.func40,Tryz.ntmps40
  go_upto_region 1 with fail
  clear hW0 hb5 hb7 hb8 hb9
  go_wp2_with fail
  refine ck.mono ?_
  rintro e w1 ⟨rfl,hb1⟩
  clear ck x0 x1
  have H1:=HA.out.1.still hb1
  have B1:Aside (SOVB w w1 H k #[.slice ya i yc,.slice xa j xc] b5 b7 b8 b9∧Below w0.heap.size w0 w1):=⟨H1,HA.out.2.1.trans (H1.below.mono HA.out.2.1.size)⟩
  have y0:=H1.spot.cell 0
  have y1:=H1.spot.cell 1
  have z0:=H1.row.cell 0
  have z1:=H1.row.cell 1
  have hz:=HZ.out.1
  have e1:=E12.out.1
  have e2:=E12.out.2.1
  have e3:=E12.out.2.2
  have co:=C1.out w1 B1.out.2
  clear hb1 H1 C1 HA
  go_upto_region 5 with fail
  go_wp2_with fail
  refine co.mono ?_
  rintro e w2 ⟨ya1,yc1,xa1,xc1,rfl,l1,l2,hb2⟩
  clear co y0 y1 z0 z1
  have H2:=B1.out.1.still hb2
  have hr2:=H2.row.alloc (.cells (z00 A).toArray 23)
  go_upto_region 6 with (first
    | (refine wpList_store_row rfl 23 (.tmp 12) (.tmp 55) rfl _ _ rfl rfl 23 _ (Has.new w2 _ _) (z03 lA) (by simp [z00,lA]) (z0i A) ?_;rw [World.setRow_alloc_new])
    | (refine wpList_store_row rfl 72 (.tmp 9) (.tmp 56) rfl _ _ rfl rfl 72 _ hr2 (by kernel_rfl) rfl (by simp [Value.oneCell']) ?_))
  have hb9:b9<w1.heap.size:=B1.out.1.left.lt
  have B3:Aside (SOVB w ((w2.alloc (.cells (z00 A).toArray 23)).setRow b7 #[.slice ya1 i1 yc1,.slice xa1 j1 xc1]) H k #[.slice ya1 i1 yc1,.slice xa1 j1 xc1] b5 b7 b8 b9∧Below w0.heap.size w0 ((w2.alloc (.cells (z00 A).toArray 23)).setRow b7 #[.slice ya1 i1 yc1,.slice xa1 j1 xc1])∧Has ((w2.alloc (.cells (z00 A).toArray 23)).setRow b7 #[.slice ya1 i1 yc1,.slice xa1 j1 xc1]) w2.heap.size (z00 A).toArray 23∧LFT w0 ya1 i1 yc1 lv1∧LFT w0 xa1 j1 xc1 nd1∧b9<w2.heap.size):=by
    have hba:Below w2.heap.size w2 (w2.alloc (.cells (z00 A).toArray 23)):=(Below.refl _ _).alloc (Nat.le_refl _) _
    have H3:=H2.still hba
    have hn:=H2.n
    have hlt:=H2.left.lt
    refine ⟨H3.turn _,z04 ((B1.out.2.trans (hb2.mono B1.out.2.size)).trans (hba.mono (Nat.le_trans B1.out.2.size hb2.size))) ?_ _,(Has.new _ _ _).row_other (by omega) _,l1,l2,hlt⟩
    have h1:=B1.out.1.below.size
    have:=HS.out
    omega
  clear hb9
  clear B1 H2 hr2 hb2 l1 l2
  generalize (w2.alloc (.cells (z00 A).toArray 23)).setRow b7 #[.slice ya1 i1 yc1,.slice xa1 j1 xc1]=w3 at *
  generalize w2.heap.size=bl at *
  have co:=C2.out w3 ya1 yc1 xa1 xc1 B3.out.2.1 B3.out.2.2.2.1 B3.out.2.2.2.2.1
  have y0:=B3.out.1.spot.cell 0
  have y1:=B3.out.1.spot.cell 1
  have z0:=B3.out.1.row.cell 0
  have z1:=B3.out.1.row.cell 1
  clear C2
  go_wp2_with fail
  refine co.mono ?_
  rintro e w4 ⟨ya2,yc2,xa2,xc2,rfl,l1,l2,hb4⟩
  clear co y0 y1 z0 z1
  have H4:=B3.out.1.still hb4
  have hr4:=H4.row.alloc (.cells (z00 B).toArray 23)
  go_upto_region 7 with (first
    | (refine wpList_store_row rfl 23 (.tmp 13) (.tmp 71) rfl _ _ rfl rfl 23 _ (Has.new w4 _ _) (z03 lB) (by simp [z00,lB]) (z0i B) ?_;rw [World.setRow_alloc_new])
    | (refine wpList_store_row rfl 72 (.tmp 9) (.tmp 72) rfl _ _ rfl rfl 72 _ hr4 (by kernel_rfl) rfl (by simp [Value.oneCell']) ?_))
  have B5:Aside (SOVB w ((w4.alloc (.cells (z00 B).toArray 23)).setRow b7 #[.slice ya2 i2 yc2,.slice xa2 j2 xc2]) H k #[.slice ya2 i2 yc2,.slice xa2 j2 xc2] b5 b7 b8 b9∧Has ((w4.alloc (.cells (z00 B).toArray 23)).setRow b7 #[.slice ya2 i2 yc2,.slice xa2 j2 xc2]) bl (z00 A).toArray 23∧Has ((w4.alloc (.cells (z00 B).toArray 23)).setRow b7 #[.slice ya2 i2 yc2,.slice xa2 j2 xc2]) w4.heap.size (z00 B).toArray 23∧LFT w0 ya2 i2 yc2 lv2∧LFT w0 xa2 j2 xc2 nd2∧b9<bl∧b9<w4.heap.size):=by
    have hba:Below w4.heap.size w4 (w4.alloc (.cells (z00 B).toArray 23)):=(Below.refl _ _).alloc (Nat.le_refl _) _
    have hn:=H4.n
    have hlt:=H4.left.lt
    have hbl:=B3.out.2.2.2.2.2
    exact ⟨(H4.still hba).turn _,((B3.out.2.2.1.keep hb4).alloc _).row_other (by omega) _,(Has.new _ _ _).row_other (by omega) _,l1,l2,hbl,hlt⟩
  clear B3 H4 hr4 hb4 l1 l2
  generalize (w4.alloc (.cells (z00 B).toArray 23)).setRow b7 #[.slice ya2 i2 yc2,.slice xa2 j2 xc2]=w5 at *
  generalize w4.heap.size=br at *
  have hran:∀ {W:World} {g:Nat} {X:List Int},Has W g (z00 X).toArray 23→W.rangeAt g 0 (z00 X):=fun h q v hv=>by rw [Nat.zero_add,h.cell,List.getElem?_toArray];exact hv
  refine zfq w5 d b7 b8 b9 bl br i2 yc2 j2 xc2 ya2 xa2 A B Y lA lB lY (fun W=>W=w5.drew) (fun W=>Below w5.heap.size w5 W) (fun W=>∃ w6,Below w5.heap.size w5 w6∧W=w6.setRow b8 (z00 Y).toArray) (fun W=>∃ w6,Below w5.heap.size w5 w6∧W=(w6.setRow b8 (z00 Y).toArray).setRow b9 #[.slice ya2 i2 yc2,.slice xa2 j2 xc2]) rfl ?_ ?_ ?_ ?_ ?_ ?_ ?_ ?_ ?_ (fun _ _ _ _ _ h=>h) ?_
  · rintro _ rfl
    exact ⟨hran B5.out.2.1,hran B5.out.2.2.1,B5.out.1.row.cell 0,B5.out.1.row.cell 1⟩
  · intro W hW
    exact ⟨hran (B5.out.2.1.keep hW),hran (B5.out.2.2.1.keep hW),(B5.out.1.row.keep hW).cell 0,(B5.out.1.row.keep hW).cell 1⟩
  · rintro _ ⟨w6,hW,rfl⟩
    have hn:=B5.out.1.n
    have h1:=B5.out.2.2.2.2.2
    exact ⟨hran ((B5.out.2.1.keep hW).row_other (by omega) _),hran ((B5.out.2.2.1.keep hW).row_other (by omega) _),((B5.out.1.row.keep hW).row_other (by omega) _).cell 0,((B5.out.1.row.keep hW).row_other (by omega) _).cell 1⟩
  · rintro _ ⟨w6,hW,rfl⟩
    have hn:=B5.out.1.n
    have h1:=B5.out.2.2.2.2.2
    exact ⟨hran (((B5.out.2.1.keep hW).row_other (by omega) _).row_other (by omega) _),hran (((B5.out.2.2.1.keep hW).row_other (by omega) _).row_other (by omega) _),(((B5.out.1.row.keep hW).row_other (by omega) _).row_other (by omega) _).cell 0,(((B5.out.1.row.keep hW).row_other (by omega) _).row_other (by omega) _).cell 1⟩
  · rintro _ rfl
    refine (CN.out w5.drew).mono ?_
    rintro e w' ⟨rfl,hb⟩
    exact ⟨rfl,(Below.refl _ w5).drew.trans hb⟩
  · intro W hW
    exact B5.out.1.hash.keep hW
  · intro W hW
    exact ⟨W,hW,rfl⟩
  · rintro _ ⟨w6,hW,rfl⟩
    have hn:=B5.out.1.n
    exact (B5.out.1.left.keep hW).row_other (by omega) _
  · rintro _ ⟨w6,hW,rfl⟩
    exact ⟨w6,hW,rfl⟩
  · rintro w7 ⟨w6,hW,rfl⟩
    dsimp only
    have h8:=z3V (Y:=Y) (R2:=#[.slice ya2 i2 yc2,.slice xa2 j2 xc2]) (B5.out.1.still hW)
    have LL:Aside (LFT w0 ya2 i2 yc2 lv2∧LFT w0 xa2 j2 xc2 nd2):=⟨B5.out.2.2.2.1,B5.out.2.2.2.2.1⟩
    clear B5 hW CN
    generalize (w6.setRow b8 (z00 Y).toArray).setRow b9 #[.slice ya2 i2 yc2,.slice xa2 j2 xc2]=w7 at *
    go_wp2_with fail
    exact bodyPost_ret (v:=.tuple #[.agg (z00 Y).toArray,.agg #[.slice ya2 i2 yc2,.slice xa2 j2 xc2]]) (z33 rfl _ _ b8 b9 _ _ rfl rfl (run_loadVar_row _ b8 23 23 _ (0,0) _ h8.2.1 Tryz.underlying23 rfl (z03 lY)) (run_loadVar_row _ b9 72 72 _ (0,0) _ h8.2.2 Tryz.underlying72 rfl (by kernel_rfl))) rfl ⟨_,_,_,_,rfl,LL.out.1,LL.out.2,h8.1⟩
theorem zcg (d:Int) (F T:Nat) (w0:World):∀ (h k:Nat),Node h k→∀ (lv nd:List Int) (ya xa:Option Addr) (i j yc xc:Nat) (w:World),Below w0.heap.size w0 w→LFT w0 ya i yc lv→LFT w0 xa j xc nd→(SG F T h k).length≤i→(NEED h k (SG F T h k)).length≤j→
    Calls Tryz.prog 40 #[.int .i64 d,SPOT h k,.int .u64 (F:Int),.int .u64 (T:Int),.agg #[.slice ya i yc,.slice xa j xc]] w (OVR w0 w (MUP d h k (SG F T h k) lv nd).1 (MUP d h k (SG F T h k) lv nd).2.1 (MUP d h k (SG F T h k) lv nd).2.2 (i - (SG F T h k).length) (j - (NEED h k (SG F T h k)).length)):=by
  intro h
  induction h with
  | zero=>
    intro k hN lv nd ya xa i j yc xc w hb hY hX hi hj
    by_cases e:APRT F T 0 k
    · obtain ⟨e1,e2⟩:=z1X F T 0 k e
      rw [e1] at hj ⊢
      rw [e2,z3a e]
      exact z5b d 0 k F T lv nd ya xa i j yc xc w0 w hb hN e hY hX (by omega)
    · rw [z8b e] at hi ⊢
      rw [z6N e,z89 e]
      exact z9a d 0 k F T rfl lv nd ya xa i j yc xc w0 w hb hN e hY hX (by omega)
  | succ h ih=>
    intro k hN lv nd ya xa i j yc xc w hb hY hX hi hj
    by_cases e:APRT F T (h+1) k
    · obtain ⟨e1,e2⟩:=z1X F T (h+1) k e
      rw [e1] at hj ⊢
      rw [e2,z3a e]
      exact z5b d (h+1) k F T lv nd ya xa i j yc xc w0 w hb hN e hY hX (by omega)
    · have hh:h<62:=by have:=hN.1;omega
      obtain ⟨hNl,hNr⟩:=hN.kid
      rw [z1E e,List.length_append] at hj ⊢
      rw [z8c] at hi ⊢
      rw [z8a e]
      have s1:=z3M d h (2*k) (SG F T h (2*k)) lv nd i j (z88 F T h (2*k)) ⟨hY.1.1,hY.1.2.2⟩ ⟨hX.1.1,hX.1.2.2⟩ (by omega) (by omega)
      have s2:=z3M d h (2*k+1) (SG F T h (2*k+1)) _ _ _ _ (z88 F T h (2*k+1)) s1.2.1 s1.2.2 (by omega) (by omega)
      have co:=z9b d h k F T hh (by have:=hNr.index_lt;omega) hN e _ _ _ _ _ _ ya xa i j yc xc _ _ _ _ w0 w hb s1.1 s2.1
        (fun W hW=>ih (2*k) hNl lv nd ya xa i j yc xc W hW hY hX (by omega) (by omega))
        (fun W ya' yc' xa' xc' hW hY' hX'=>ih (2*k+1) hNr _ _ ya' xa' _ _ yc' xc' W hW hY' hX' (by omega) (by omega))
      rw [Nat.sub_sub,Nat.sub_sub] at co
      exact co
end Go.Proofs.YthdpkaiieomdoaaGreatDoor

namespace Go.Proofs.YthdpkaiieomdoaaGreatDoor
open Go.RowKit
set_option maxRecDepth 100000
def SPS (F T N i:Nat):List (Nat × Nat):=((TPS N).take i).flatMap fun s=>NSP s.1 s.2 (SG F T s.1 s.2)
theorem zdE {F T N i h k:Nat} (e:(TPS N)[i]?=some (h,k)):SPS F T N (i+1)=SPS F T N i ++ NSP h k (SG F T h k):=by
  unfold SPS
  rw [List.take_add_one,e,List.flatMap_append]
  simp
theorem z8k (F T:Nat):∀ ps:List (Nat × Nat),(ps.map fun s=>NEED s.1 s.2 (SG F T s.1 s.2)).flatten=(ps.flatMap fun s=>NSP s.1 s.2 (SG F T s.1 s.2)).map SPL
  | []=>rfl
  | s :: ps=>by rw [List.map_cons,List.flatten_cons,List.flatMap_cons,List.map_append,← z8k F T ps,z31]
theorem z9P {F T N i:Nat} (hN:N≤4611686018427387904) (hT:T≤N) (hi:(TPS N).length≤i):SPP F T N=(SPS F T N i).map SPL:=by
  rw [z3Q hN hT,z8k,SPS,List.take_of_length_le hi]
theorem zeL {F T N:Nat} (hN:N≤4611686018427387904) (hT:T≤N) (i:Nat):(SPS F T N i).length≤188:=by
  have h1:=z2K (F:=F) hN hT
  rw [z9P hN hT (Nat.le_refl _),List.length_map] at h1
  unfold SPS at h1 ⊢
  rw [List.take_length] at h1
  have h2:((TPS N).flatMap fun s=>NSP s.1 s.2 (SG F T s.1 s.2)).length=(((TPS N).take i).flatMap fun s=>NSP s.1 s.2 (SG F T s.1 s.2)).length+(((TPS N).drop i).flatMap fun s=>NSP s.1 s.2 (SG F T s.1 s.2)).length:=by
    rw [← List.length_append,← List.flatMap_append,List.take_append_drop]
  omega
set_option maxHeartbeats 4000000 in
theorem z3Z (F T N:Nat) (w:World):Calls Tryz.prog 67 #[.int .u64 (F:Int),.int .u64 (T:Int),.int .u64 (N:Int)] w (z2r w (SPE F T N) (SPA F T N)):=by
  rcases z3b F T N with ⟨e1,e2,h⟩ | ⟨e1,e2,h,h'⟩ | ⟨e1,e2,hN,hF,hTN⟩
  · rw [e1,e2]
    have g1:(4611686018427387904:Int)<(N:Int):=by omega
    clear h e1 e2
    go_enter Tryz.func67,Tryz.ntmps67
    go_wp2
    go_ret2
    exact ⟨none,0,rfl,z2E _ _,Below.refl _ _⟩
  · rw [e1,e2]
    have g1:¬ (4611686018427387904:Int)<(N:Int):=by omega
    have g2:(T:Int)<(F:Int)∨(¬ (T:Int)<(F:Int)∧(N:Int)<(T:Int)):=by omega
    clear h h' e1 e2
    rcases g2 with g2 | ⟨g2,g3⟩
    all_goals
      go_enter Tryz.func67,Tryz.ntmps67
      go_wp2
      go_ret2
      exact ⟨none,0,rfl,z2E _ _,Below.refl _ _⟩
  · rw [e1, e2]
    have g1:¬ (4611686018427387904:Int)<(N:Int):=by omega
    have g2:¬ (T:Int)<(F:Int):=by omega
    have g3:¬ (N:Int)<(T:Int):=by omega
    have ct:=zab N hN w
    have hPC:PC N≤64:=z13 64 N (by omega)
    have hlen:=z1I (n:=N) (by omega)
    have hsp:∀ s∈TPS N,s.1≤62∧Node s.1 s.2:=fun s hs=>⟨(z2c (n:=N) (by omega) (h:=s.1) (k:=s.2) hs).1,(z2c (n:=N) (by omega) (h:=s.1) (k:=s.2) hs).2.2⟩
    have HT:Aside (N≤4611686018427387904∧PC N≤64∧(TPS N).length=PC N∧(∀ s∈TPS N,s.1≤62∧Node s.1 s.2)∧T≤N):=⟨hN,hPC,hlen,hsp,hTN⟩
    have HP:Aside (SPP F T N=(SPS F T N (PC N)).map SPL):=z9P hN hTN (by rw [hlen];exact Nat.le_refl _)
    obtain ⟨PP,hPP⟩:∃ PP,SPP F T N=PP:=⟨_,rfl⟩
    rw [hPP] at HP ⊢
    clear hN hF hTN hPC hlen hsp e1 e2 hPP
    go_enter Tryz.func67,Tryz.ntmps67
    go_wp2_with fail
    refine ct.mono ?_
    rintro e w1 ⟨ag,cg,rfl,hsp,hb1⟩
    have R1:Aside (Spots w1 ag (TPS N)∧Below w.heap.size w w1):=⟨hsp,hb1⟩
    obtain ⟨M,hM⟩:∃ M,PC N=M:=⟨_,rfl⟩
    rw [hM] at HP ⊢
    have HM:Aside (PC N=M):=hM
    clear ct hsp hb1 hM
    go_wp2_with fail
    go_loopg [8,10] M (fun q s8 s10 wx=>∃ (i:Nat) (v:Value),v=s8∧s10=.int .i64 (i:Int)∧Aside (i+q=M∧wx.ownsRow w1.heap.size 24 1 v (SPS F T N i).length (z0h ((SPS F T N i).map SPL))∧Below w1.heap.size w1 wx))
    case atStart=>exact ⟨0,_,rfl,rfl,by omega,⟨rfl,.inl ⟨rfl,rfl⟩⟩,Below.refl _ _⟩
    case round=>
      obtain ⟨i,v,rfl,rfl,A⟩:=hrel
      obtain ⟨av,cv,rfl⟩:=z23 A.out.2.1
      cases gk with
      | zero=>
        obtain rfl:i=M:=by have:=A.out.1;omega
        have hlt2:¬ (i:Int)<(i:Int):=by omega
        have FN:Aside (z2r w 0 PP (.returned (.tuple #[.slice av (SPS F T N i).length cv,.int .i64 0])) wr):=by
          obtain ⟨_,h2,h3⟩:=A.out
          rw [HP.out]
          refine ⟨av,cv,by rw [List.length_map],?_,R1.out.2.trans (h3.mono R1.out.2.size)⟩
          rw [List.length_map]
          exact z0f h2 R1.out.2.size
        clear A R1 HT HM HP
        go_wp2_with fail
        go_ret2
        exact FN.out
      | succ q=>
        have hiM:i<M:=by have:=A.out.1;omega
        have hlt2:(i:Int)<(M:Int):=by omega
        obtain ⟨⟨h,k⟩,ehk⟩:∃ s,(TPS N)[i]?=some s:=⟨_,List.getElem?_eq_getElem (by rw [HT.out.2.2.1,HM.out];exact hiM)⟩
        obtain ⟨g,rfl,hg,hc⟩:=R1.out.1 (by rw [HT.out.2.2.1,HM.out];omega)
        have x0:wr.cell? ⟨g,i*2,none⟩=some (.int .u8 (h:Int)):=(A.out.2.2.cell (p:=⟨g,i*2,none⟩) hg).trans (hc i h k ehk).1
        have x1:wr.cell? ⟨g,i*2+1,none⟩=some (.int .u64 (k:Int)):=(A.out.2.2.cell (p:=⟨g,i*2+1,none⟩) hg).trans (hc i h k ehk).2
        have hnd:=HT.out.2.2.2.1 (h,k) (List.mem_of_getElem? ehk)
        have cn:=zcf F T h k hnd.2 wr
        have ei:wrap64 ((i:Int)+1)=((i+1:Nat):Int):=by have:=HT.out.2.1;have:=HM.out;unfold wrap64;omega
        have hst:=zdE (F:=F) (T:=T) ehk
        have hfew:(SPS F T N i).length+(NSP h k (SG F T h k)).length≤188:=by
          rw [← List.length_append,← hst]
          exact zeL HT.out.1 HT.out.2.2.2.2 (i+1)
        have hnodes:∀ s∈NSP h k (SG F T h k),Node s.1 s.2:=z5o h k _ hnd.2
        obtain ⟨P,hP⟩:∃ P,SPS F T N i=P:=⟨_,rfl⟩
        obtain ⟨B,hB⟩:∃ B,NSP h k (SG F T h k)=B:=⟨_,rfl⟩
        rw [hP,hB] at hst hfew
        rw [hB] at cn hnodes
        have R:Aside (i+1+q=M∧wr.ownsRow w1.heap.size 24 1 (.slice av P.length cv) P.length (z0h (P.map SPL))∧Below w1.heap.size w1 wr∧P.length+B.length≤188∧(∀ s∈B,Node s.1 s.2)∧SPS F T N (i+1)=P ++ B):=⟨by have:=A.out.1;clear ei;omega,by rw [← hP];exact A.out.2.1,A.out.2.2,hfew,hnodes,hst⟩
        have hS:SPOT h k=.agg #[.int .u8 (h:Int),.int .u64 (k:Int)]:=rfl
        rw [hS] at cn
        rw [hP]
        clear A hst hfew hnodes hP hB hnd hc hiM ehk hS
        go_wp2_with fail
        refine cn.mono ?_
        rintro e w2 ⟨ab,cb,rfl,hownB,hb2⟩
        have R2:Aside (w2.ownsRow w1.heap.size 24 1 (.slice av P.length cv) P.length (z0h (P.map SPL))∧Below w1.heap.size w1 w2∧w2.ownsRow wr.heap.size 78 2 (.slice ab B.length cb) B.length (z0b B)):=⟨z0v R.out.2.1 hb2,R.out.2.2.1.trans (hb2.mono R.out.2.2.1.size),hownB⟩
        clear cn hownB hb2 x0 x1
        go_wp2_with fail
        have AP:Aside (∀ g,(Value.slice av P.length cv).ownBlock=some g→(Value.slice ab B.length cb).ownBlock≠some g):=fun g e1 e2=>by
          have h1:=(R.out.2.1.lt g e1).2
          have h2:=(R2.out.2.2.lt g e2).1
          omega
        have RB:Aside (w2.ownsRow w1.heap.size 78 2 (.slice ab B.length cb) B.length (z0b B)):=z0f R2.out.2.2 R.out.2.2.1.size
        obtain ⟨u,hu⟩:∃ u,P.length=u:=⟨_,rfl⟩
        obtain ⟨nb,hnb⟩:∃ nb,B.length=nb:=⟨_,rfl⟩
        rw [hu] at R R2 AP
        rw [hnb] at R R2 AP RB
        rw [hu,hnb]
        have HB:Aside (B.length=nb∧P.length=u):=⟨hnb,hu⟩
        clear hnb hu
        go_wp2_with fail
        go_loopg [8,12] nb (fun q2 s8 s12 wx=>∃ (y:Nat) (v:Value),v=s8∧s12=.int .i64 (y:Int)∧Aside (y+q2=nb∧wx.ownsRow w1.heap.size 24 1 v (u+y) (z0h ((P ++ B.take y).map SPL))∧Below w1.heap.size w1 wx∧wx.ownsRow w1.heap.size 78 2 (.slice ab nb cb) nb (z0b B)∧(∀ g,v.ownBlock=some g→(Value.slice ab nb cb).ownBlock≠some g)))
        case atStart=>exact ⟨0,_,rfl,rfl,by omega,by simpa using R2.out.1,R2.out.2.1,RB.out,AP.out⟩
        case round =>
          obtain ⟨y,v,rfl,rfl,A⟩:=hrel
          clear R2 AP RB
          cases gk with
          | zero=>
            obtain rfl:y=nb:=by have:=A.out.1;omega
            have hlt3:¬ (y:Int)<(y:Int):=by omega
            have Z:Aside (i+1+q=M∧wr.ownsRow w1.heap.size 24 1 v (SPS F T N (i+1)).length (z0h ((SPS F T N (i+1)).map SPL))∧Below w1.heap.size w1 wr):=by
              obtain ⟨_,h2,h3,_⟩:=A.out
              rw [List.take_of_length_le (by have:=HB.out.1;omega)] at h2
              rw [R.out.2.2.2.2.2,List.length_append,HB.out.1,HB.out.2]
              exact ⟨R.out.1,h2,h3⟩
            clear A R HB
            go_wp2_with fail
            go_roundg q
            case measure=>exact Nat.lt_succ_self _
            case rel=>exact ⟨i+1,_,rfl,by first | rfl | (rw [ei]),Z.out⟩
          | succ q2=>
            have hyn:y<nb:=by have:=A.out.1;omega
            have hlt3:(y:Int)<(nb:Int):=by omega
            obtain ⟨⟨h2,k2⟩,eh2⟩:∃ s,B[y]?=some s:=⟨_,List.getElem?_eq_getElem (by have:=HB.out.1;omega)⟩
            obtain ⟨g2,rfl⟩:∃ g,ab=some ⟨g,0,none⟩:=by
              rcases A.out.2.2.2.1.2 with ⟨e,h0⟩ | ⟨g,_,_,e,_⟩
              · omega
              · cases e;exact ⟨g,rfl⟩
            have hs2:=z47 B y h2 k2 eh2
            have y0:wr.cell? ⟨g2,y*2,none⟩=some (.int .u8 (h2:Int)):=(A.out.2.2.2.1.cellAt (y*2) (by omega)).trans hs2.1
            have y1:wr.cell? ⟨g2,y*2+1,none⟩=some (.int .u64 (k2:Int)):=(A.out.2.2.2.1.cellAt (y*2+1) (by omega)).trans hs2.2
            have cp:=fun w=>z8w h2 k2 (R.out.2.2.2.2.1 (h2,k2) (List.mem_of_getElem? eh2)) w
            have ey:wrap64 ((y:Int)+1)=((y+1:Nat):Int):=by have:=R.out.2.2.2.1;unfold wrap64;omega
            have ht:(P ++ B.take (y+1)).map SPL=(P ++ B.take y).map SPL ++ [PLC h2 k2]:=by
              rw [List.take_add_one,eh2]
              simp [SPL]
            have R3:Aside (y+1+q2=nb∧wr.ownsRow w1.heap.size 24 1 v (u+y) (z0h ((P ++ B.take y).map SPL))∧Below w1.heap.size w1 wr∧wr.ownsRow w1.heap.size 78 2 (.slice (some ⟨g2,0,none⟩) nb cb) nb (z0b B)∧(∀ g,v.ownBlock=some g→(Value.slice (some ⟨g2,0,none⟩) nb cb).ownBlock≠some g)∧u+y≤2 ^ 30∧(P ++ B.take (y+1)).map SPL=(P ++ B.take y).map SPL ++ [PLC h2 k2]):=⟨by have:=A.out.1;clear ey;omega,A.out.2.1,A.out.2.2.1,A.out.2.2.2.1,A.out.2.2.2.2,by have:=R.out.2.2.2.1;clear ey;omega,ht⟩
            generalize PLC h2 k2=pl at *
            generalize (P ++ B.take y).map SPL=X1 at *
            generalize hX2:(P ++ B.take (y+1)).map SPL=X2 at *
            have HX2:Aside ((P ++ B.take (y+1)).map SPL=X2):=hX2
            clear A hs2 ht hX2 eh2 hyn
            go_wp2_with fail
            refine (cp _).mono ?_
            rintro e w3 ⟨rfl,hb3⟩
            have R4:Aside (w3.ownsRow w1.heap.size 24 1 v (u+y) (z0h X1)∧Below w1.heap.size w1 w3∧w3.ownsRow w1.heap.size 78 2 (.slice (some ⟨g2,0,none⟩) nb cb) nb (z0b B)):=⟨z0v R3.out.2.1 hb3,R3.out.2.2.1.trans (hb3.mono R3.out.2.2.1.size),z0v R3.out.2.2.2.1 hb3⟩
            clear cp hb3 y0 y1
            go_wp2_with (first
              | (at_builtin;refine zbW _ rfl (.tmp 54) (.tmp 56) rfl w1.heap.size v (u+y) X1 rfl (R4.out.1.alloc _) w3.heap.size 1 pl rfl ((Has.new _ _ _).cell 0) R3.out.2.2.2.2.2.1 (by have:=R4.out.2.1.size;simp;omega) ?_;intro g4 c4 w4 hown hgrow hat hg
                 have R5:Aside (y+1+q2=nb∧w4.ownsRow w1.heap.size 24 1 (.slice (some ⟨g4,0,none⟩) (u+y+1) c4) (u+(y+1)) (z0h ((P ++ B.take (y+1)).map SPL))∧Below w1.heap.size w1 w4∧w4.ownsRow w1.heap.size 78 2 (.slice (some ⟨g2,0,none⟩) nb cb) nb (z0b B)∧(∀ g,(Value.slice (some ⟨g4,0,none⟩) (u+y+1) c4).ownBlock=some g→(Value.slice (some ⟨g2,0,none⟩) nb cb).ownBlock≠some g)):=by
                   obtain ⟨r1,r2,r3,r4,r5,r6,r7⟩:=R3.out
                   obtain ⟨s1,s2,s3⟩:=R4.out
                   refine ⟨r1,?_,(s2.alloc s2.size _).grown hgrow (by have:=s2.size;simp;omega) (fun k e=>(s1.lt k e).1),z0n (z1a s3 _) (fun k e=>hgrow.block k (by have:=(s3.lt k e).2;simp;omega) (fun e2=>r5 k e2.symm e)),fun g e1 e2=>?_⟩
                   · rw [HX2.out,r7]
                     exact hown
                   · have e1:g4=g:=by simpa [Value.ownBlock] using e1
                     subst e1
                     rcases hat with h | h
                     · exact r5 _ h e2
                     · have:=(s3.lt _ e2).2
                       simp at h
                       omega
                 clear hown hgrow hg hat R4 R3))
            go_roundg q2
            case measure=>exact Nat.lt_succ_self _
            case rel=>exact ⟨y+1,_,rfl,by first | rfl | (rw [ey]),R5.out⟩
end Go.Proofs.YthdpkaiieomdoaaGreatDoor
