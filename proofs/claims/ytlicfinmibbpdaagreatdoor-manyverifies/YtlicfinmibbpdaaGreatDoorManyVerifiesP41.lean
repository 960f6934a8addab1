/- Texts of ManyVerifies, one behind the other: ManyMix, ManyApartRegions, ManyApart, ManyStays, ManyKept, ManyVerifiesWalk, PosDoor, ProofDoor, HashDoor. -/
import Derived.Test.YtlicfinmibbpdaaGreatDoorRows
import Derived.ProofKit
import Derived.LaidMore
import Derived.OpenShut
import Derived.Stop.Joined
import Derived.Deep.Strs
import Derived.Test.YtlicfinmibbpdaaGreatDoorManyVerifiesP40
namespace Go.Proofs.YtlicfinmibbpdaaGreatDoor
open Go.RowKit
set_option maxRecDepth 100000
structure APT (a b x y:Value):Prop where
  ab:∀ g,a.ownBlock=some g→b.ownBlock≠some g
  ax:∀ g,a.ownBlock=some g→x.ownBlock≠some g
  ay:∀ g,a.ownBlock=some g→y.ownBlock≠some g
  bx:∀ g,b.ownBlock=some g→x.ownBlock≠some g
  byy:∀ g,b.ownBlock=some g→y.ownBlock≠some g
  xy:∀ g,x.ownBlock=some g→y.ownBlock≠some g
structure MIX (w0 w:World) (B:Nat) (K:Nat→Prop) (a:Value) (na:Nat) (xa:List Value) (b:Value) (nb:Nat) (xb:List Value) (x:Value) (mx:Nat) (xx:List Value) (y:Value) (my:Nat) (xy:List Value):Prop where
  ra:w.ownsRow B 23 1 a na xa
  rb:w.ownsRow B 23 1 b nb xb
  rx:w.ownsRow B 38 32 x mx xx
  ry:w.ownsRow B 38 32 y my xy
  ap:APT a b x y
  hm:∀ g,(a.ownBlock=some g∨b.ownBlock=some g∨x.ownBlock=some g∨y.ownBlock=some g)→K g∨w0.heap.size≤g
  kp:∀ k,k<w0.heap.size→¬ K k→w.heap[k]?=w0.heap[k]?
  bl:Below B w0 w
  sz:w0.heap.size≤w.heap.size
  bs:B≤w0.heap.size
section
variable {w0 w:World} {B:Nat} {K:Nat→Prop} {a:Value} {na:Nat} {xa:List Value} {b:Value} {nb:Nat} {xb:List Value} {x:Value} {mx:Nat} {xx:List Value} {y:Value} {my:Nat} {xy:List Value}
theorem MIX.size (h:MIX w0 w B K a na xa b nb xb x mx xx y my xy):B≤w.heap.size:=Nat.le_trans h.bs h.sz
theorem zeG {w w':World} {B s n:Nat} {t:TypeId} {v:Value} {xs:List Value} {r:Option Nat} (h:w.ownsRow B t s v n xs) (hg:w.grownBy w' r) (ho:∀ g,r=some g→v.ownBlock≠some g):w'.ownsRow B t s v n xs:=z0u h fun k e=>hg.block k (h.lt k e).2 fun e2=>ho k e2.symm e
theorem MIX.alloc (h:MIX w0 w B K a na xa b nb xb x mx xx y my xy) (o:Obj):MIX w0 (w.alloc o) B K a na xa b nb xb x mx xx y my xy:=
  ⟨z1J h.ra o,z1J h.rb o,z1J h.rx o,z1J h.ry o,h.ap,h.hm,fun k hk hK=>(Below.heap_alloc w o k (Nat.lt_of_lt_of_le hk h.sz)).trans (h.kp k hk hK),h.bl.alloc h.size o,by have:=h.sz;simp;omega,h.bs⟩
theorem MIX.drew (h:MIX w0 w B K a na xa b nb xb x mx xx y my xy):MIX w0 w.drew B K a na xa b nb xb x mx xx y my xy:=⟨h.ra,h.rb,h.rx,h.ry,h.ap,h.hm,h.kp,h.bl.drew,h.sz,h.bs⟩
structure OFF (z:Nat) (a b x y:Value):Prop where
  a:a.ownBlock≠some z
  b:b.ownBlock≠some z
  x:x.ownBlock≠some z
  y:y.ownBlock≠some z
end
end Go.Proofs.YtlicfinmibbpdaaGreatDoor

namespace Go.Proofs.YtlicfinmibbpdaaGreatDoor
open Go.RowKit
set_option maxRecDepth 100000
end Go.Proofs.YtlicfinmibbpdaaGreatDoor

namespace Go.Proofs.YtlicfinmibbpdaaGreatDoor
open Go.RowKit
set_option maxRecDepth 100000
theorem z91 {ops:Array Oper} {rest:List Oper} {o:Oper} {a:Act} {w:World} {Q:Exit→Act→World→Prop} (hw:Region.wanted o (yielded ops a.tmps)=true) (ty:TypeId) (x:Operand) (ho:o.op=.load ty x)
    (b off:Nat) (hx:a.eval x=.pointer (some ⟨b,off,none⟩)) (cs:List Value) (d:TypeDesc) (hc:w.rangeAt b off cs) (hu:Tryz.prog.underlying ty=some d) (hd:d.isRow=true) (hi:(Tryz.prog.info? ty).map (·.size)=some cs.length)
    (h:wpList Tryz.prog ops Q rest (a.put o.dst (.agg cs.toArray)) w):wpList Tryz.prog ops Q (o :: rest) a w:=by
  simp only [wpList]
  rw [if_pos hw]
  exact .inl (wp_load_mid ty x ho b off hx cs d hc hu hd hi h)
theorem zdI {ops:Array Oper} {rest:List Oper} {o:Oper} {a:Act} {w w':World} {Q:Exit→Act→World→Prop} {v:Value} (hw:Region.wanted o (yielded ops a.tmps)=true) (hrun:(execOp a.eval o).run Tryz.prog w=.ok (.value v) w') (h:wpList Tryz.prog ops Q rest (a.put o.dst v) w'):wpList Tryz.prog ops Q (o :: rest) a w:=by
  simp only [wpList]
  rw [if_pos hw]
  refine .inl ?_
  unfold Oper.wp
  rw [hrun]
  exact h
end Go.Proofs.YtlicfinmibbpdaaGreatDoor

namespace Go.Proofs.YtlicfinmibbpdaaGreatDoor
open Go.RowKit
set_option maxRecDepth 100000
set_option maxHeartbeats 1000000 in
theorem zdJ (g n cap:Nat) (b:Option Addr) (cb:Nat) (L:List Nat) (hl:L.length=n) (hn:n≤2 ^ 20) (hc:n+1≤cap) (w:World) (hA:NUML w (some ⟨g,0,none⟩) L) (hB:NUML w b L) (hg:g<w.heap.size) (hm:w.cell? ⟨g,n,none⟩=some (.int .u64 171)):
    Calls Tryz.prog 12 #[.slice (some ⟨g,0,none⟩) n cap,.slice b n cb] w fun e w'=>e=.returned (.bool true)∧Below w.heap.size w w':=by
  have cs:=z8W (some ⟨g,0,none⟩) b n cap cb L hl (by omega) w hA hB
  have e1:wrap64 ((n:Int)+1)=((n+1:Nat):Int):=by unfold wrap64;omega
  have k1:(n:Int)+1≤(cap:Int):=by omega
  have k2:(n:Int)<(n:Int)+1:=by omega
  have HM:Aside (g<w.heap.size∧w.cell? ⟨g,n,none⟩=some (.int .u64 171)):=⟨hg,hm⟩
  clear hl hn hA hB hg hm
  go_enter Tryz.func12,Tryz.ntmps12
  go_wp2_with fail
  refine cs.mono ?_
  rintro e w1 ⟨rfl,hb1⟩
  have x0:w1.cell? ⟨g,n,none⟩=some (.int .u64 171):=(hb1.cell (p:=⟨g,n,none⟩) HM.out.1).trans HM.out.2
  have FN:Aside (Below w.heap.size w w1):=hb1
  clear cs hb1 HM
  go_wp2_with fail
  go_ret
  exact ⟨rfl,FN.out⟩
end Go.Proofs.YtlicfinmibbpdaaGreatDoor

namespace Go.Proofs.YtlicfinmibbpdaaGreatDoor
open Go.RowKit
set_option maxRecDepth 100000
set_option maxHeartbeats 1000000 in
theorem zcc (g n cap:Nat) (y:Option Addr) (cy:Nat) (l:List Int) (hn:n≤1000) (hc:n+1≤cap) (w:World) (hA:Flat w (some ⟨g,0,none⟩) n l) (hB:Flat w y n l) (hg:g<w.heap.size) (hm:w.rangeAt g (n*32) (z00 MRK)):
    Calls Tryz.prog 13 #[.slice (some ⟨g,0,none⟩) n cap,.slice y n cy] w fun e w'=>e=.returned (.bool true)∧Below w.heap.size w w':=by
  have cs:=z6O (some ⟨g,0,none⟩) y n n cap cy l l w hA hB (by omega)
  rw [decide_eq_true rfl] at cs
  have e1:wrap64 ((n:Int)+1)=((n+1:Nat):Int):=by unfold wrap64;omega
  have k0:((n+1:Nat):Int)≤(cap:Int):=by omega
  have k1:(n:Int)+1≤(cap:Int):=by omega
  have k2:(n:Int)<(n:Int)+1:=by omega
  have HM:Aside (g<w.heap.size∧w.rangeAt g (n*32) (z00 MRK)):=⟨hg,hm⟩
  have hnq:∀ x y (W:World),(do eqGuard .eql 38 x y (.agg (z00 MRK).toArray) (.agg (z00 MRK).toArray);binOp .eql 38 (.agg (z00 MRK).toArray) (.agg (z00 MRK).toArray):Sem Value).run Tryz.prog W=.ok (.bool true) W:=fun x y W=>by
    have:=za0 (h:=MRK) (g:=MRK) rfl rfl x y W
    rw [this]
    simp
  clear hn hA hB hg hm
  go_enter Tryz.func13,Tryz.ntmps13
  go_wp2_with fail
  refine cs.mono ?_
  rintro e w1 ⟨rfl,hb1⟩
  have hr1:w1.rangeAt g (n*32) (z00 MRK):=z2r HM.out.2 hb1 HM.out.1
  have FN:Aside (Below w.heap.size w w1):=hb1
  clear cs hb1 HM
  go_wp2_with (first
    | (refine z91 (by rfl) 38 (.tmp 16) rfl g (n*32) rfl (z00 MRK) _ hr1 Tryz.underlying38 rfl (z0j rfl) ?_)
    | (rw [← z9n];refine zdI (by rfl) (z24 (hnq _ _ _)) ?_))
  go_ret
  exact ⟨rfl,FN.out⟩
set_option maxHeartbeats 1000000 in
theorem zaO (g n cap:Nat) (y:Option Addr) (cy:Nat) (l:List Int) (hn:n≤100000) (hc:n+1≤cap) (w:World) (hA:Bytes w (some ⟨g,0,none⟩) n l) (hB:Bytes w y n l) (hg:g<w.heap.size) (hm:w.cell? ⟨g,n,none⟩=some (.int .u8 171)):
    Calls Tryz.prog 19 #[.slice (some ⟨g,0,none⟩) n cap,.slice y n cy] w fun e w'=>e=.returned (.bool true)∧Below w.heap.size w w':=by
  have cs:=z4b (some ⟨g,0,none⟩) y n n cap cy l l w hA hB (by omega)
  rw [decide_eq_true rfl] at cs
  have e1:wrap64 ((n:Int)+1)=((n+1:Nat):Int):=by unfold wrap64;omega
  have k1:(n:Int)+1≤(cap:Int):=by omega
  have k2:(n:Int)<(n:Int)+1:=by omega
  have HM:Aside (g<w.heap.size∧w.cell? ⟨g,n,none⟩=some (.int .u8 171)):=⟨hg,hm⟩
  clear hn hA hB hg hm
  go_enter Tryz.func19,Tryz.ntmps19
  go_wp2_with fail
  refine cs.mono ?_
  rintro e w1 ⟨rfl,hb1⟩
  have x0:w1.cell? ⟨g,n,none⟩=some (.int .u8 171):=(hb1.cell (p:=⟨g,n,none⟩) HM.out.1).trans HM.out.2
  have FN:Aside (Below w.heap.size w w1):=hb1
  clear cs hb1 HM
  go_wp2_with fail
  go_ret
  exact ⟨rfl,FN.out⟩
structure BPAIR (w0 w:World) (B:Nat) (a:Value) (na:Nat) (xa:List Value) (b:Value) (nb:Nat) (xb:List Value):Prop where
  ra:w.ownsRow B 5 1 a na xa
  rb:w.ownsRow B 5 1 b nb xb
  ap:∀ g,a.ownBlock=some g→b.ownBlock≠some g
  bl:Below B w0 w
  bs:B≤w0.heap.size
theorem BPAIR.step {w0 w w':World} {B:Nat} {a:Value} {na:Nat} {xa:List Value} {b:Value} {nb:Nat} {xb:List Value} (h:BPAIR w0 w B a na xa b nb xb) {a':Value} {na':Nat} {xa':List Value} (hown:w'.ownsRow B 5 1 a' na' xa') (hg:w.grownBy w' a.ownBlock) (hat:∀ g,a'.ownBlock=some g→a.ownBlock=some g∨w.heap.size≤g):BPAIR w0 w' B a' na' xa' b nb xb:=by
  refine ⟨hown,zeG h.rb hg h.ap,fun g e1 e2=>?_,h.bl.grown hg (Nat.le_trans h.bs h.bl.size) (fun k e=>(h.ra.lt k e).1),h.bs⟩
  rcases hat g e1 with h1 | h1
  · exact h.ap g h1 e2
  · have:=(h.rb.lt g e2).2
    omega
theorem BPAIR.alloc {w0 w:World} {B:Nat} {a:Value} {na:Nat} {xa:List Value} {b:Value} {nb:Nat} {xb:List Value} (h:BPAIR w0 w B a na xa b nb xb) (o:Obj):BPAIR w0 (w.alloc o) B a na xa b nb xb:=⟨z1J h.ra o,z1J h.rb o,h.ap,h.bl.alloc (Nat.le_trans h.bs h.bl.size) o,h.bs⟩
end Go.Proofs.YtlicfinmibbpdaaGreatDoor

namespace Go.Proofs.YtlicfinmibbpdaaGreatDoor
open Go.RowKit
set_option maxRecDepth 100000
theorem Bytes.but {bc:Nat} {w w':World} {a:Option Addr} {n:Nat} {l:List Int} (h:Bytes w a n l) (hb:BUT bc w w') (ha:∀ x,a=some x→x.block≠bc):Bytes w' a n l:=by
  refine ⟨h.1,fun h0=>?_,h.2.2⟩
  obtain ⟨b,o,e,hlt,hc⟩:=h.2.1 h0
  exact ⟨b,o,e,Nat.lt_of_lt_of_le hlt hb.2.size,fun j hj=>(World.cell?_of_block (w:=w) (by exact hb.1 b hlt (ha _ e))).trans (hc j hj)⟩
set_option maxHeartbeats 2000000 in
theorem z6X (d:Int) (root:List Int) (N:Nat) (ai:Option Addr) (n ci:Nat) (al:Option Addr) (nl cl:Nat) (ab:Option Addr) (k cb:Nat) (w:World) (h:¬ (n≤200∧nl≤200∧k≤6400)):
    Calls Tryz.prog 4 #[.int .i64 d,.agg (z00 root).toArray,.int .u64 (N:Int),.slice ai n ci,.slice al nl cl,.slice ab k cb] w fun e w'=>e=.returned (.bool true)∧Below w.heap.size w w':=by
  have FN:Aside (Below w.heap.size w (w.alloc (.cells (z00 root).toArray 38))):=(Below.refl _ _).alloc (Nat.le_refl _) _
  by_cases hn:(200:Int)<(n:Int)
  · clear h
    go_enter Tryz.func4,Tryz.ntmps4
    go_wp2_with fail
    go_ret
    exact ⟨rfl,FN.out⟩
  · by_cases hm:(200:Int)<(nl:Int)
    · clear h
      go_enter Tryz.func4,Tryz.ntmps4
      go_wp2_with fail
      go_ret
      exact ⟨rfl,FN.out⟩
    · have hk:(6400:Int)<(k:Int):=by omega
      clear h
      go_enter Tryz.func4,Tryz.ntmps4
      go_wp2_with fail
      go_ret
      exact ⟨rfl,FN.out⟩
set_option maxHeartbeats 16000000 in
theorem z6Y (d:Int) (root:List Int) (hroot:IsH root) (N:Nat) (ai:Option Addr) (n ci:Nat) (L:List Nat) (al:Option Addr) (nl cl:Nat) (lv:List Int) (ab:Option Addr) (k cb:Nat) (b:List Int) (w:World) (hl:L.length=n) (hci:ai=none→ci=0) (hL:NUML w ai L) (hx:∀ x∈L,x<2 ^ 64) (hFl:Flat w al nl lv) (hzl:al=none→cl=0) (hcl:nl≤cl) (hB:Bytes w ab k b) (hzb:ab=none→cb=0) (hkb:k≤cb) (hn:n≤200) (hnl:nl≤200) (hk:k≤6400) (hT:Tabled w) (hX:HX.Tabled w) (h0:0<w.heap.size):
    Calls Tryz.prog 4 #[.int .i64 d,.agg (z00 root).toArray,.int .u64 (N:Int),.slice ai n ci,.slice al nl cl,.slice ab k cb] w fun e w'=>e=.returned (.bool true)∧Below w.heap.size w w':=by
  obtain ⟨w1,e1⟩:∃ w1,w.alloc (.cells (z00 root).toArray 38)=w1:=⟨_,rfl⟩
  obtain ⟨b7,hb7⟩:∃ b,w.heap.size=b:=⟨_,rfl⟩
  have hb1:Below w.heap.size w w1:=by rw [← e1];exact (Below.refl _ _).alloc (Nat.le_refl _) _
  have hR1:Has w1 b7 (z00 root).toArray 38:=by rw [← e1,← hb7];exact Has.new _ _ _
  have i1:¬ (200:Int)<(n:Int):=by omega
  have i2:¬ (200:Int)<(nl:Int):=by omega
  have i3:¬ (6400:Int)<(k:Int):=by omega
  have cg:=z87 ai n ci L hl (by omega) hci w1 (hL.keep hb1)
  have HA:Aside (L.length=n∧n≤200∧nl≤200∧k≤6400∧(∀ x∈L,x<2 ^ 64)∧nl≤cl∧k≤cb∧(al=none→cl=0)∧(ab=none→cb=0)∧IsH root):=⟨hl,hn,hnl,hk,hx,hcl,hkb,hzl,hzb,hroot⟩
  have HW:Aside (NUML w ai L∧Flat w al nl lv∧Bytes w ab k b∧Tabled w∧HX.Tabled w∧0<w.heap.size):=⟨hL,hFl,hB,hT,hX,h0⟩
  have W1:Aside (Below w.heap.size w w1∧Has w1 b7 (z00 root).toArray 38∧w.heap.size=b7):=⟨hb1,hR1,hb7⟩
  have r32:=hroot.1
  clear hl hci hL hx hFl hzl hcl hB hzb hkb hn hnl hk hT hX h0 hb1 hR1 hroot
  go_enter Tryz.func4,Tryz.ntmps4
  go_upto_region 3 with fail
  clear e1 hb7 i1 i2 i3
  go_wp2_with fail
  refine cg.mono ?_
  rintro e w2 ⟨g1,q1,rfl,G⟩
  clear cg
  have hb2:Below w.heap.size w w2:=W1.out.1.trans (G.below.mono W1.out.1.size)
  have cr:=zdH al nl cl (by have:=HA.out;omega) HA.out.2.2.2.2.2.2.2.1 lv w2 (HW.out.2.1.below hb2)
  have W2:Aside (Below w.heap.size w w2∧Has w2 b7 (z00 root).toArray 38∧NUMD w1 w2 g1 n q1 L∧w.heap.size=b7):=⟨hb2,W1.out.2.1.keep G.below,G,W1.out.2.2⟩
  clear G hb2
  go_wp2_with fail
  refine cr.mono ?_
  rintro e w3 ⟨gr,qr,rfl,r1,r2,r3,r4,r5⟩
  clear cr
  have hb3:Below w.heap.size w w3:=W2.out.1.trans (r5.mono W2.out.1.size)
  have ct:=zcb ab k cb (by have:=HA.out;omega) HA.out.2.2.2.2.2.2.2.2.1 b w3 (HW.out.2.2.1.below hb3)
  have W3:Aside (Below w.heap.size w w3∧Below w2.heap.size w2 w3∧w3.ownsRow w2.heap.size 38 32 (.slice (some ⟨gr,0,none⟩) nl qr) nl (z00 lv)∧nl+1≤qr∧w3.rangeAt gr (nl*32) (z00 MRK)∧gr<w3.heap.size):=⟨hb3,r5,r1,r2,r3,r4⟩
  clear r1 r2 r3 r4 r5 hb3
  go_wp2_with fail
  refine ct.mono ?_
  rintro e w4 ⟨gt,qt,rfl,t1,t2,t3,t4,t5⟩
  clear ct
  have hs2:=W3.out.2.1.size
  have hs3:=t5.size
  have hb34:Below w.heap.size w w4:=W3.out.1.trans (t5.mono W3.out.1.size)
  have hgr:w2.heap.size≤gr:=(W3.out.2.2.1.lt gr rfl).1
  have hgt:w3.heap.size≤gt:=(t1.lt gt rfl).1
  have hb24:Below w2.heap.size w2 w4:=W3.out.2.1.trans (t5.mono hs2)
  have HN:Aside (w.heap.size≤gr∧gr<w4.heap.size∧gr≠gt∧g1≠gr∧g1<w4.heap.size∧gt<w4.heap.size∧b7≠gr∧w2.heap.size≤gr∧w4.heap.size=w4.heap.size):=by
    have h1:=W3.out.2.2.2.2.2
    have h2:=W2.out.2.2.1.lt
    have h3:=W2.out.2.1.lt
    have h4:=W2.out.1.size
    exact ⟨by omega,by omega,by omega,by omega,by omega,t4,by omega,hgr,rfl⟩
  have hown4:w4.ownsRow w2.heap.size 38 32 (.slice (some ⟨gr,0,none⟩) nl qr) nl (z00 lv):=z0u W3.out.2.2.1 fun k e=>t5.block k (W3.out.2.2.1.lt k e).2
  have FB:Aside (∀ W,BUT gr w4 W→Has W b7 (z00 root).toArray 38∧Below w.heap.size w W∧Tabled W∧HX.Tabled W∧0<W.heap.size):=fun W h=>by
    have hb:Below w.heap.size w W:=hb34.trans (h.2.mono HN.out.1)
    have hh:=(W2.out.2.1.keep hb24)
    exact ⟨(h.1 b7 hh.lt HN.out.2.2.2.2.2.2.1).trans hh,hb,HW.out.2.2.2.1.below HW.out.2.2.2.2.2 hb,HW.out.2.2.2.2.1.below hb,by have:=hb.size;have:=HW.out.2.2.2.2.2;omega⟩
  have FL:Aside (∀ W,BUT gr w4 W→NUML W ai L∧Flat W al nl lv∧Bytes W ab k b∧NUML W (some ⟨g1,0,none⟩) L∧Bytes W (some ⟨gt,0,none⟩) k b∧W.cell? ⟨g1,n,none⟩=some (.int .u64 171)∧W.cell? ⟨gt,k,none⟩=some (.int .u8 171)):=fun W h=>by
    have hb:Below w.heap.size w W:=hb34.trans (h.2.mono HN.out.1)
    have G:=W2.out.2.2.1
    have hn:=HN.out
    refine ⟨HW.out.1.keep hb,HW.out.2.1.below hb,HW.out.2.2.1.below hb,((G.lies HA.out.1).keep hb24).but h (fun x e=>by cases e;exact ⟨hn.2.2.2.1,hn.2.2.2.2.1,rfl⟩),(z0W t1 t4 HW.out.2.2.1.2.2).but h (fun x e=>by cases e;exact fun e=>hn.2.2.1 e.symm),?_,?_⟩
    · exact (World.cell?_of_block (w:=w2) (by exact (h.1 g1 hn.2.2.2.2.1 hn.2.2.2.1).trans (hb24.block g1 G.lt))).trans G.mark
    · exact (World.cell?_of_block (w:=w4) (by exact h.1 gt t4 (fun e=>hn.2.2.1 e.symm))).trans t3
  have RM:Aside (n+1≤q1∧k+1≤qt∧nl+1≤qr∧w4.rangeAt gr (nl*32) (z00 MRK)):=⟨W2.out.2.2.1.room,t2,W3.out.2.2.2.1,fun j v hv=>(t5.cell (p:=⟨gr,nl*32+j,none⟩) W3.out.2.2.2.2.2).trans (W3.out.2.2.2.2.1 j v hv)⟩
  have HL:Aside ((∀ x∈lv,0≤x∧x≤255)∧lv.length=32*nl):=⟨HW.out.2.1.2.2,HW.out.2.1.1⟩
  have CV:Aside (∀ W lv',BUT gr w4 W→W.ownsRow w2.heap.size 38 32 (.slice (some ⟨gr,0,none⟩) nl qr) nl (z00 lv')→(∀ x∈lv',0≤x∧x≤255)→Calls Tryz.prog 18 #[.int .i64 d,.agg (z00 root).toArray,.int .u64 (N:Int),.slice (some ⟨g1,0,none⟩) n q1,.slice (some ⟨gr,0,none⟩) nl qr,.slice (some ⟨gt,0,none⟩) k qt] W fun e w'=>e=.returned (.int .i64 (MVA d root N L nl lv' b))∧Below W.heap.size W w'):=fun W lv' h ho hr=>by
    have k1:=FL.out W h
    have k2:=FB.out W h
    have hh:=HA.out
    have hrm:=RM.out
    exact z6W d root hh.2.2.2.2.2.2.2.2.2 N (some ⟨g1,0,none⟩) n q1 L (some ⟨gr,0,none⟩) nl qr lv' (some ⟨gt,0,none⟩) k qt b W hh.1 hh.2.1 k1.2.2.2.1 (z1F ho hr) (by omega) (fun x e=>by cases e;exact (ho.lt gr rfl).2) k1.2.2.2.2.1 (by omega) hh.2.2.2.1 k2.2.2.1 k2.2.2.2.1 k2.2.2.2.2
  have CR:Aside (∀ W a2 c2 lv',BUT gr w4 W→Flat W a2 nl lv'→nl≤c2→Calls Tryz.prog 17 #[.int .i64 d,.agg (z00 root).toArray,.int .u64 (N:Int),.slice ai n ci,.slice a2 nl c2,.slice ab k cb] W fun e w'=>e=.returned (.int .i64 (MVA d root N L nl lv' b))∧Below W.heap.size W w'):=fun W a2 c2 lv' h hF hc=>by
    have k1:=FL.out W h
    have hh:=HA.out
    exact z6i d root hh.2.2.2.2.2.2.2.2.2 N ai n ci L a2 nl c2 lv' ab k cb b W hh.1 hh.2.1 k1.1 hF hc k1.2.2.1 hh.2.2.2.2.2.2.1 hh.2.2.2.1 hh.2.2.2.2.1
  have CA:Aside (∀ W,BUT gr w4 W→Calls Tryz.prog 14 #[] W fun e w'=>e=.returned (.bool true)∧Below W.heap.size W w'):=fun W h=>zaM W (FB.out W h).2.2.1 (FB.out W h).2.2.2.2
  have HS:Aside (L.length=n∧n≤200∧nl≤200∧k≤6400∧nl≤cl):=⟨HA.out.1,HA.out.2.1,HA.out.2.2.1,HA.out.2.2.2.1,HA.out.2.2.2.2.2.1⟩
  have O4:Aside (w4.ownsRow w2.heap.size 38 32 (.slice (some ⟨gr,0,none⟩) nl qr) nl (z00 lv)):=hown4
  have cd:=CR.out w4 al cl lv (BUT.refl _ _) (FL.out w4 (BUT.refl _ _)).2.1 HS.out.2.2.2.2
  have hroot:=(FB.out w4 (BUT.refl _ _)).1
  clear hs2 hs3 hb34 hgr hgt hb24 hown4 t1 t2 t3 t4 t5 W1 W2 W3 HW HA
  generalize hVV:MVA d root N L nl lv b=V at *
  go_wp2_with (refine wpList_load_row rfl 38 (.tmp 7) rfl b7 rfl 38 (z00 root).toArray (0,0) _ hroot Tryz.underlying38 rfl (z05 r32) ?_)
  refine cd.mono ?_
  rintro e w5 ⟨rfl,hb5⟩
  clear cd hroot
  have hB5:BUT gr w4 w5:=BUT.of_below hb5 (Nat.le_of_lt HN.out.2.1)
  have hO5:=z0u O4.out fun k e=>hb5.block k (O4.out.lt k e).2
  have cd:=CV.out w5 lv hB5 hO5 HL.out.1
  rw [hVV] at cd
  have hroot:=(FB.out w5 hB5).1
  have W5:Aside (Below w4.heap.size w4 w5):=hb5
  clear hb5 hB5 hO5
  go_wp2_with (refine wpList_load_row rfl 38 (.tmp 7) rfl b7 rfl 38 (z00 root).toArray (0,0) _ hroot Tryz.underlying38 rfl (z05 r32) ?_)
  refine cd.mono ?_
  rintro e w6 ⟨rfl,hb6⟩
  clear cd hroot
  have h46:Below w4.heap.size w4 w6:=W5.out.trans (hb6.mono W5.out.size)
  have hB6:BUT gr w4 w6:=BUT.of_below h46 (Nat.le_of_lt HN.out.2.1)
  have cd:=CV.out w6 lv hB6 (z0u O4.out fun k e=>h46.block k (O4.out.lt k e).2) HL.out.1
  rw [hVV] at cd
  have hroot:=(FB.out w6 hB6).1
  have W6:Aside (Below w4.heap.size w4 w6):=h46
  clear hb6 hB6 h46 W5 hVV
  go_wp2_with (first
    | (refine z1S (by rfl) 38 (.tmp 7) rfl 32 5 b7 rfl 38 (z00 root).toArray (0,0) hroot Tryz.underlying38 (z05 r32) ?_)
    | fail)
  refine cd.mono ?_
  rintro e w7 ⟨rfl,hb7⟩
  clear cd hroot
  have h47:Below w4.heap.size w4 w7:=W6.out.trans (hb7.mono W6.out.size)
  have hB7:BUT gr w4 w7:=BUT.of_below h47 (Nat.le_of_lt HN.out.2.1)
  have k7:=FL.out w7 hB7
  have cs:=zdJ g1 n q1 ai ci L HS.out.1 (by have:=HS.out;omega) RM.out.1 w7 k7.2.2.2.1 k7.1 (by have:=HN.out;have:=h47.size;omega) k7.2.2.2.2.2.1
  have W7:Aside (Below w4.heap.size w4 w7):=h47
  clear hb7 hB7 h47 W6 k7
  go_wp2_with fail
  refine cs.mono ?_
  rintro e w8 ⟨rfl,hb8⟩
  clear cs
  have h48:Below w4.heap.size w4 w8:=W7.out.trans (hb8.mono W7.out.size)
  have hB8:BUT gr w4 w8:=BUT.of_below h48 (Nat.le_of_lt HN.out.2.1)
  have k8:=FL.out w8 hB8
  have cs:=zcc gr nl qr al cl lv (by have:=HS.out;omega) RM.out.2.2.1 w8 (z1F (z0u O4.out fun k e=>h48.block k (O4.out.lt k e).2) HL.out.1) k8.2.1 (by have:=HN.out;have:=h48.size;omega) (fun j v hv=>(h48.cell (p:=⟨gr,nl*32+j,none⟩) HN.out.2.1).trans (RM.out.2.2.2 j v hv))
  have W8:Aside (Below w4.heap.size w4 w8):=h48
  clear hb8 hB8 h48 W7 k8
  go_wp2_with fail
  refine cs.mono ?_
  rintro e w9 ⟨rfl,hb9⟩
  clear cs
  have h49:Below w4.heap.size w4 w9:=W8.out.trans (hb9.mono W8.out.size)
  have hB9:BUT gr w4 w9:=BUT.of_below h49 (Nat.le_of_lt HN.out.2.1)
  have k9:=FL.out w9 hB9
  have cs:=zaO gt k qt ab cb b (by have:=HS.out;omega) RM.out.2.1 w9 k9.2.2.2.2.1 k9.2.2.1 (by have:=HN.out;have:=h49.size;omega) k9.2.2.2.2.2.2
  have W9:Aside (Below w4.heap.size w4 w9):=h49
  clear hb9 hB9 h49 W8 k9
  go_wp2_with fail
  refine cs.mono ?_
  rintro e w10 ⟨rfl,hb10⟩
  clear cs
  have S0:Aside (BUT gr w4 w10∧w10.ownsRow w2.heap.size 38 32 (.slice (some ⟨gr,0,none⟩) nl qr) nl (z00 (INCH lv 0))):=by
    have h410:=W9.out.trans (hb10.mono W9.out.size)
    exact ⟨BUT.of_below h410 (Nat.le_of_lt HN.out.2.1),z0u O4.out fun k e=>h410.block k (O4.out.lt k e).2⟩
  clear hb10 W9 O4
  go_wp2_with fail
  go_loopg [17] nl (fun q s17 wx=>∃ i:Nat,s17=.int .i64 (i:Int)∧Aside (i+q=nl∧BUT gr w4 wx∧wx.ownsRow w2.heap.size 38 32 (.slice (some ⟨gr,0,none⟩) nl qr) nl (z00 (INCH lv i))))
  case atStart=>exact ⟨0,rfl,by omega,S0.out.1,S0.out.2⟩
  case round=>
    obtain ⟨i,rfl,A⟩:=hrel
    clear S0
    cases gk with
    | succ q=>
      have hin:i<nl:=by have:=A.out.1;omega
      have hlt:(i:Int)<(nl:Int):=by omega
      have ei:wrap64 ((i:Int)+1)=((i+1:Nat):Int):=by have:=HS.out;unfold wrap64;omega
      have hpl:i*32<(INCH lv i).length:=by rw [z53,HL.out.2];clear ei;omega
      obtain ⟨X,hXX⟩:∃ X,(INCH lv i).getD (i*32) 0=X:=⟨_,rfl⟩
      have hcell:wr.cell? ⟨gr,i*32,none⟩=some (.int .u8 X):=by
        have h1:=A.out.2.2.cellAt (i*32) (by clear ei;omega)
        rw [h1,← hXX,z00,List.getElem?_map,List.getElem?_eq_getElem hpl,List.getD_eq_getElem?_getD,List.getElem?_eq_getElem hpl]
        rfl
      have hfro:wr.frozen? ⟨gr,i*32,none⟩=false:=by
        rcases A.out.2.2.2 with ⟨e,_⟩ | ⟨g',cap,cur,e,_,hg,_⟩
        · cases e
        · cases e
          exact Has.frozen (show Has wr gr cur 38 from hg) _
      have hX1:IntKind.u8.wrap (X+1)=(X+1) % 256:=by simp [IntKind.wrap,IntKind.bits,IntKind.signed]
      have Z:Aside (i+1+q=nl∧BUT gr w4 (wr.drew.setCell ⟨gr,i*32,none⟩ (.int .u8 ((X+1) % 256)))∧(wr.drew.setCell ⟨gr,i*32,none⟩ (.int .u8 ((X+1) % 256))).ownsRow w2.heap.size 38 32 (.slice (some ⟨gr,0,none⟩) nl qr) nl (z00 (INCH lv (i+1)))):=by
        refine ⟨by have:=A.out.1;clear ei;omega,⟨fun q hq hne=>(Below.heap_setCell _ _ _ _ (by exact hne)).trans (A.out.2.1.1 q hq hne),(A.out.2.1.2.drew).setCell (p:=⟨gr,i*32,none⟩) (Nat.le_refl _) _⟩,?_⟩
        rw [INCH,hXX]
        exact z8Y (w:=wr.drew) A.out.2.2 _
      clear A hpl hXX hin
      generalize (X+1) % 256=X1 at *
      go_upto_region 10 with fail
      refine z8Z wr gr nl qr i X X1 hlt hX1 (fun W=>W=wr.drew) (fun W=>W=wr.drew.setCell ⟨gr,i*32,none⟩ (.int .u8 X1)) rfl (fun W h=>by subst h;exact ⟨hcell,hfro⟩) (fun W h=>by subst h;rfl) (fun _ _ _ _ _ h=>h) ?_
      rintro w11 rfl
      dsimp only
      clear hcell hfro hX1
      generalize wr.drew.setCell ⟨gr,i*32,none⟩ (.int .u8 X1)=w11 at *
      go_wp2
      go_roundg q
      case measure=>exact Nat.lt_succ_self _
      case rel=>exact ⟨i+1,by first | rfl | (rw [ei]),Z.out⟩
    | zero=>
      obtain rfl:i=nl:=by have:=A.out.1;omega
      have hlt:¬ (i:Int)<(i:Int):=by omega
      go_upto_region 11 with fail
      obtain ⟨VV,hVV⟩:∃ VV,MVA d root N L i (INCH lv i) b=VV:=⟨_,rfl⟩
      have PA:Aside (∀ W,(BUT gr w4 W∧W.ownsRow w2.heap.size 38 32 (.slice (some ⟨gr,0,none⟩) i qr) i (z00 (INCH lv i)))→∀ W',Below W.heap.size W W'→(BUT gr w4 W'∧W'.ownsRow w2.heap.size 38 32 (.slice (some ⟨gr,0,none⟩) i qr) i (z00 (INCH lv i)))):=fun W h W' hb=>⟨h.1.trans (BUT.of_below hb (by have:=(h.2.lt gr rfl).2;omega)),z0u h.2 fun k e=>hb.block k (h.2.lt k e).2⟩
      refine z90 wr d N b7 g1 n q1 gr i qr gt k qt ci cb w4.heap.size ai ab root (INCH lv i) VV r32 (by have:=HS.out;omega) (fun W=>BUT gr w4 W∧W.ownsRow w2.heap.size 38 32 (.slice (some ⟨gr,0,none⟩) i qr) i (z00 (INCH lv i))) (PA.out wr ⟨A.out.2.1,A.out.2.2⟩ _ (Below.refl _ wr).drew) (fun W h=>z2t (FB.out W h.1).1) (fun W h=>h.1.2.size) (fun W h=>z1F h.2 (z2M HL.out.1 i)) (fun W o h=>PA.out W h _ ((Below.refl _ _).alloc (Nat.le_refl _) _)) (fun W W' z h hg hz=>?_) (fun W h=>?_) (fun W a2 c2 h ho=>?_) (fun W h=>?_) (fun _ _ _ _ _ h=>h) ?_
      · have hbb:∀ q,q<W.heap.size→z≠some q→W'.heap[q]?=W.heap[q]?:=fun q hq hne=>hg.block q hq fun e=>hne e.symm
        have hn:=HN.out
        have hs:=h.1.2.size
        refine ⟨⟨fun q hq hne=>(hbb q (by omega) (fun e=>by have:=hz q e;omega)).trans (h.1.1 q hq hne),?_⟩,z0u h.2 fun k e=>?_⟩
        · exact h.1.2.grown hg (by omega) (fun k e=>by have:=hz k e;omega)
        · have e:gr=k:=by simpa [Value.ownBlock] using e
          subst e
          exact hbb gr (by omega) (fun e=>by have:=hz gr e;omega)
      · have:=CV.out W (INCH lv i) h.1 h.2 (z2M HL.out.1 i)
        rw [hVV] at this
        exact this.mono fun e w' hh=>⟨hh.1,PA.out W h w' hh.2,hh.2⟩
      · have:=CR.out W a2 c2 (INCH lv i) h.1 (z1F ho (z2M HL.out.1 i)) (z2L ho).1
        rw [hVV] at this
        exact this.mono fun e w' hh=>⟨hh.1,PA.out W h w' hh.2⟩
      · exact (CA.out W h.1).mono fun e w' hh=>⟨hh.1,PA.out W h w' hh.2⟩
      · intro z a2 c2 w12 h12
        dsimp only
        have FN:Aside (Below w.heap.size w w12):=(FB.out w12 h12.1).2.1
        clear h12 PA CV CR CA FB FL A
        go_wp2_with fail
        go_ret
        exact ⟨rfl,FN.out⟩
theorem z4E (d:Int) (root:List Int) (hroot:IsH root) (N:Nat) (ai:Option Addr) (n ci:Nat) (L:List Nat) (al:Option Addr) (nl cl:Nat) (lv:List Int) (ab:Option Addr) (k cb:Nat) (b:List Int) (w:World) (hl:L.length=n) (hci:ai=none→ci=0) (hL:NUML w ai L) (hx:∀ x∈L,x<2 ^ 64) (hFl:Flat w al nl lv) (hzl:al=none→cl=0) (hcl:nl≤cl) (hB:Bytes w ab k b) (hzb:ab=none→cb=0) (hkb:k≤cb) (hT:Tabled w) (hX:HX.Tabled w) (h0:0<w.heap.size):
    Calls Tryz.prog 4 #[.int .i64 d,.agg (z00 root).toArray,.int .u64 (N:Int),.slice ai n ci,.slice al nl cl,.slice ab k cb] w fun e w'=>e=.returned (.bool true)∧Below w.heap.size w w':=by
  by_cases h:n≤200∧nl≤200∧k≤6400
  · exact z6Y d root hroot N ai n ci L al nl cl lv ab k cb b w hl hci hL hx hFl hzl hcl hB hzb hkb h.1 h.2.1 h.2.2 hT hX h0
  · exact z6X d root N ai n ci al nl cl ab k cb w h
end Go.Proofs.YtlicfinmibbpdaaGreatDoor

namespace Go.Proofs.YtlicfinmibbpdaaGreatDoor
open Go.ChangeShapes Go.WideShapes Go.ChangeAt Go.WideMaps Go.WideElems Go.RowKit
set_option maxRecDepth 100000
theorem own:ownKnob Tryz.prog.godebug=none:=by kernel_rfl
theorem z3t:laidOutB Tryz.prog=true:=by kernel_rfl
theorem gTab:Tryz.prog.globalNamed "math/bits.deBruijn64tab"=some 2:=by kernel_rfl
theorem tTab:(Tryz.prog.globals[2]?).map (·.type)=some 188:=by kernel_rfl
theorem zeH {H:Type}:(Rows.laid_math_bits_deBruijn64tab:DataW H)=.agg (TAB.map fun n=>.lit (.int .u8 (n:Nat))):=rfl
end Go.Proofs.YtlicfinmibbpdaaGreatDoor

namespace Go.Proofs.YtlicfinmibbpdaaGreatDoor
open Go.ChangeShapes Go.WideShapes Go.ChangeAt Go.WideMaps Go.WideElems Go.RowKit Go.Deep
set_option maxRecDepth 100000
theorem z6L {H:Type} {enc:TypeId × Value→H} {W:World} {fuel:Nat} {cs:List Value} {x:DataW H × List MemPlace} (hf:DataW.trod enc Tryz.prog W 0 (fun _=>true) true fuel 38 cs=some x):∃ h:List Int,h.length=32∧(∀ x∈h,0≤x∧x≤255)∧cs=z00 h:=by
  obtain ⟨xs,m,rfl,_,hl,hn,hel⟩:=DataW.trod_array Tryz.underlying38 hf
  have c5:Tryz.prog.cellsOf 5=1:=by kernel_rfl
  have c32:Tryz.prog.cellsOf 38=32:=by kernel_rfl
  rw [c32] at hl
  have hx:∀ i,i<32→∃ k:Int,cs[i]?=some (.int .u8 k)∧0≤k∧k≤255:=fun i hi=>by
    have h0:=hel i hi
    rw [List.getElem?_eq_getElem (by omega),c5,Nat.mul_one] at h0
    obtain ⟨k,e1,_,e3⟩:=DataW.trod_int Tryz.underlying5 h0
    have hb:=bounds_u8 e3
    refine ⟨k,?_,by omega,by omega⟩
    have:=congrArg (fun l=>l[0]?) e1
    simpa using this
  have F:∃ f:Nat→Int,∀ i,i<32→cs[i]?=some (.int .u8 (f i))∧0≤f i∧f i≤255:=by
    refine ⟨fun i=>if hi:i<32 then (hx i hi).choose else 0,fun i hi=>?_⟩
    simp only [hi,dif_pos]
    exact (hx i hi).choose_spec
  obtain ⟨f,hf1⟩:=F
  refine ⟨(List.range 32).map f,by simp,fun x hx=>?_,?_⟩
  · simp only [List.mem_map,List.mem_range] at hx
    obtain ⟨i,hi,rfl⟩:=hx
    exact (hf1 i hi).2
  · apply List.ext_getElem?
    intro i
    by_cases hi:i<32
    · rw [(hf1 i hi).1,z0p _ i (by simp;exact hi),List.getD_eq_getElem?_getD,List.getElem?_map,List.getElem?_range hi]
      rfl
    · rw [List.getElem?_eq_none (by omega),List.getElem?_eq_none (by simp [z00];omega)]
theorem zdK {H:Type} {enc:TypeId × Value→H} {W:World} {r:Reach} {b0:Nat} {v:Value} {d:DataW H} {ps:List MemPlace} (hval:Value.okWide Tryz.prog W r b0 38 v) (hd:DataW.Trod enc Tryz.prog W 0 (fun _=>true) true 38 v d ps):∃ h:List Int,h.length=32∧(∀ x∈h,0≤x∧x≤255)∧v=.agg (z00 h).toArray:=by
  simp only [Value.okWide,Tryz.underlying38] at hval
  obtain ⟨cs,rfl,hsz,_⟩:=hval
  obtain ⟨fuel,hf⟩:=hd
  obtain ⟨h,h1,h2,h3⟩:=z6L hf
  refine ⟨h,h1,h2,?_⟩
  congr 1
  apply Array.ext'
  simpa [Value.cells] using h3
theorem zcd {H:Type} {enc:TypeId × Value→H} {W:World} {fuel:Nat} {a:Option Addr} {k c:Nat} {x:DataW H × List MemPlace} (hf:DataW.trod enc Tryz.prog W 0 (fun _=>true) true fuel 22 [.slice a k c]=some x):
    ∃ l:List Int,Flat W a k l∧(a=none→c=0)∧k≤c:=by
  rcases DataW.trod_slice Tryz.underlying22 hf with ⟨h0,_⟩ | ⟨ad,len,cap,elems,rest,n,_,h0,hx,_,hl,hm,hlen,hel,_,_⟩
  · simp at h0
    obtain ⟨rfl,rfl,rfl⟩:=h0
    exact ⟨[],⟨rfl,fun h=>absurd h (by omega),by simp⟩,fun _=>rfl,Nat.le_refl _⟩
  · simp at h0
    obtain ⟨rfl,rfl,rfl⟩:=h0
    have c32:Tryz.prog.cellsOf 38=32:=by kernel_rfl
    have each:∀ i,i<k→∃ h:List Int,h.length=32∧(∀ x∈h,0≤x∧x≤255)∧∀ j,j<32→W.cell? ((ad.add (i*32)).add j)=some (.int .u8 (h.getD j 0)):=fun i hi=>by
      have h:=hel i hi
      rw [List.getElem?_eq_getElem (by omega),c32,Option.bind_eq_some_iff] at h
      obtain ⟨cs,hcs,ht⟩:=h
      obtain ⟨f,h1,h2,rfl⟩:=z6L ht
      have hs:=(World.cells?_some hcs).2.2
      refine ⟨f,h1,h2,fun j hj=>?_⟩
      have s:=hs j hj
      rw [s]
      exact z0p f j (by omega)
    have F:∃ f:Nat→List Int,∀ i,i<k→(f i).length=32∧(∀ x∈f i,0≤x∧x≤255)∧∀ j,j<32→W.cell? ((ad.add (i*32)).add j)=some (.int .u8 ((f i).getD j 0)):=by
      refine ⟨fun i=>if hi:i<k then (each i hi).choose else [],fun i hi=>?_⟩
      simp only [hi,dif_pos]
      exact (each i hi).choose_spec
    obtain ⟨f,hf2⟩:=F
    have hrange:∀ i,i<k→∀ j,j<32→0≤(f i).getD j 0∧(f i).getD j 0≤255:=fun i hi j hj=>by
      rw [List.getD_eq_getElem?_getD,List.getElem?_eq_getElem (by rw [(hf2 i hi).1];exact hj)]
      exact (hf2 i hi).2.1 _ (List.getElem_mem _)
    refine ⟨(List.range (32*k)).map fun m=>(f (m / 32)).getD (m % 32) 0,⟨by simp,fun h0k=>?_,fun x hx=>?_⟩,(fun e=>by cases e),by omega⟩
    · obtain ⟨b,off,spot⟩:=ad
      have hc:=(hf2 0 h0k).2.2 0 (by decide)
      have hspot:spot=none:=by simpa [Addr.add] using World.cell?_spot hc
      subst hspot
      refine ⟨b,off,rfl,?_,fun m hm=>?_⟩
      · have:=World.block_lt_of_cell? W _ hc
        simpa [Addr.add] using this
      · have h1:=(hf2 (m / 32) (by omega)).2.2 (m % 32) (by omega)
        rw [z0D,z0D] at h1
        rw [List.getD_eq_getElem?_getD,List.getElem?_map,List.getElem?_range hm]
        simp only [Option.map_some,Option.getD_some]
        rw [← h1]
        congr 2
        omega
    · simp only [List.mem_map,List.mem_range] at hx
      obtain ⟨m,hm,rfl⟩:=hx
      exact hrange _ (by omega) _ (by omega)
theorem zce {H:Type} {enc:TypeId × Value→H} {W:World} {a:Option Addr} {k c:Nat} {d:DataW H} {ps:List MemPlace} (hd:DataW.Trod enc Tryz.prog W 0 (fun _=>true) true 22 (.slice a k c) d ps):∃ l:List Int,Flat W a k l∧(a=none→c=0)∧k≤c:=by
  obtain ⟨fuel,hf⟩:=hd
  exact zcd (by simpa [Value.cells] using hf)
theorem z6M {H:Type} {enc:TypeId × Value→H} {W:World} {a:Option Addr} {len cap:Nat} {d:DataW H} {ps:List MemPlace} (hd:DataW.Trod enc Tryz.prog W 0 (fun _=>true) true 39 (.slice a len cap) d ps):
    ∃ l:List Int,Bytes W a len l∧(a=none→cap=0)∧len≤cap:=by
  obtain ⟨fuel,hf⟩:=hd
  rcases open_ints Tryz.underlying39 Tryz.underlying5 (by kernel_rfl) hf with ⟨hcs,_⟩ | ⟨x,l,c,zs,hcs,_,hl,hm,hz,hx,hcell,hwz⟩
  · simp [Value.cells] at hcs
    obtain ⟨rfl,rfl,rfl⟩:=hcs
    exact ⟨[],⟨rfl,fun h=>by omega,by simp⟩,fun _=>rfl,Nat.le_refl _⟩
  · simp [Value.cells] at hcs
    obtain ⟨rfl,rfl,rfl⟩:=hcs
    have hr:IsRow .u8 W (some x) len cap zs:=.inr ⟨_,rfl,hl,hm,by simpa using hz,hcell,hwz⟩
    exact ⟨_,hr.bytes,(fun e=>by cases e),hl⟩
end Go.Proofs.YtlicfinmibbpdaaGreatDoor

namespace Go.Proofs.YtlicfinmibbpdaaGreatDoor.HX
set_option maxRecDepth 100000
open Go.ChangeShapes Go.WideShapes Go.ChangeAt Go.WideMaps Go.WideElems Go.RowKit
theorem own:ownKnob Tryz.prog.godebug=none:=by kernel_rfl
theorem z3t:laidOutB Tryz.prog=true:=by kernel_rfl
theorem gRounds:Tryz.prog.globalNamed "massif/hash.rounds"=some 1:=by kernel_rfl
theorem gBegin:Tryz.prog.globalNamed "massif/hash.begin"=some 0:=by kernel_rfl
theorem tRounds:(Tryz.prog.globals[1]?).map (·.type)=some 206:=by kernel_rfl
theorem tBegin:(Tryz.prog.globals[0]?).map (·.type)=some 204:=by kernel_rfl
theorem zaP {H:Type}:(Rows.laid_massif_hash_rounds:DataW H)=.agg (KLIST.map fun n=>.lit (.int .u32 (n:Nat))):=rfl
theorem zcf {H:Type}:(Rows.laid_massif_hash_begin:DataW H)=.agg (BEGIN.map fun n=>.lit (.int .u32 (n:Nat))):=rfl
theorem z6M {H:Type} {enc:TypeId × Value→H} {W:World} {a:Option Addr} {len cap:Nat} {d:DataW H} {ps:List MemPlace} (hd:DataW.Trod enc Tryz.prog W 0 (fun _=>true) true 39 (.slice a len cap) d ps):
    ∃ l:List Nat,Text W a len l∧(a=none→cap=0):=by
  have hr:∃ zs,IsRow .u8 W a len cap zs:=by
    obtain ⟨fuel,hf⟩:=hd
    rcases open_ints Tryz.underlying39 Tryz.underlying5 (by kernel_rfl) hf with ⟨hcs,_⟩ | ⟨x,l,c,zs,hcs,_,hl,hm,hz,hx,hcell,hwz⟩
    · simp [Value.cells] at hcs
      obtain ⟨rfl,rfl,rfl⟩:=hcs
      exact ⟨[],.inl ⟨rfl,rfl,rfl,rfl⟩⟩
    · simp [Value.cells] at hcs
      obtain ⟨rfl,rfl,rfl⟩:=hcs
      exact ⟨zs,.inr ⟨_,rfl,hl,hm,by simpa using hz,hcell,hwz⟩⟩
  obtain ⟨zs,hr⟩:=hr
  have hb:=hr.bytes
  have e:INTS ((zs.take len).map Int.toNat)=zs.take len:=by
    unfold INTS
    rw [List.map_map]
    conv=>rhs;rw [← List.map_id (zs.take len)]
    apply List.map_congr_left
    intro x hx
    have:=hb.2.2 x hx
    simp
    omega
  refine ⟨(zs.take len).map Int.toNat,Text.of_bytes (by rw [e];exact hb),fun h=>?_⟩
  rcases hr with ⟨_,_,h3,_⟩ | ⟨x,h1,_⟩
  · exact h3
  · rw [h] at h1
    cases h1
theorem z88 {H:Type} {enc:TypeId × Value→H} {W:World} {base fuel n:Nat} {sp:Nat→Bool} {held:Bool} {t:TypeId} {cs:List Value} {ps:List MemPlace} (L:List Nat) (hL:L.length=n) (ht:Tryz.prog.underlying t=some (.array n 203))
    (hd:DataW.trod enc Tryz.prog W base sp held fuel t cs=some (.agg (L.map fun n=>.lit (.int .u32 (n:Nat))),ps)) (i:Nat) (hi:i<n):cs[i]?=some (.int .u32 (L.getD i 0:Nat)):=by
  obtain ⟨xs,m1,rfl,hx1,hlen,hn,hel⟩:=DataW.trod_array ht hd
  have c5:Tryz.prog.cellsOf 203=1:=by kernel_rfl
  simp only [Prod.mk.injEq,DataW.agg.injEq] at hx1
  have hx:=hx1.1
  have h0:=hel i hi
  have hi':i<xs.length:=by omega
  rw [List.getElem?_eq_getElem hi',c5,Nat.mul_one] at h0
  obtain ⟨k,e1,e2,_⟩:=DataW.trod_int Tryz.underlying203 h0
  have hk:(k:Int)=((L.getD i 0:Nat):Int):=by
    have hz:=congrArg (fun l=>l[i]?) hx
    have hT:i<L.length:=by omega
    simp only [List.getElem?_map,List.getElem?_eq_getElem hi',List.getElem?_eq_getElem hT,Option.map_some,e2] at hz
    simp at hz
    rw [List.getD_eq_getElem?_getD,List.getElem?_eq_getElem hT]
    simpa using hz.symm
  rw [← hk]
  have:=congrArg (fun l=>l[0]?) e1
  simpa using this
end Go.Proofs.YtlicfinmibbpdaaGreatDoor.HX
