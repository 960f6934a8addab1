/- Texts of SpanVerifies, one behind the other: SpanNodes, SpanProofRegion, SpanProofCall. -/
import Derived.Deep.RegionLaw
import Derived.Laws.CopyOwn
import Derived.Test.YthdpkaiieomdoaaGreatDoorSpanVerifiesP26
namespace Go.Proofs.YthdpkaiieomdoaaGreatDoor
open Go.RowKit
set_option maxRecDepth 100000
def zdQ (E:Int) (t:List Int) (M:Nat) (K:Nat) (E':Int) (l:List Int):Prop:=
  (E≠0∧K=0∧E'=E∧l=[])∨(E=0∧t.length<32*M∧K=0∧E'=11∧l=[])∨(E=0∧32*M<t.length∧K=0∧E'=13∧l=[])∨(E=0∧t.length=32*M∧K=M∧E'=0∧l=t)
def z3U (w0 w:World) (rb:Nat) (E:Int) (t:List Int) (M:Nat) (e:Ending) (w':World):Prop:=∃ (a:Option Addr) (K c:Nat) (E':Int) (l t':List Int),e=.returned (.slice a K c)∧zdQ E t M K E' l∧w'.ownsRow w.heap.size 23 32 (.slice a K c) K (z00 l)∧RDS w0 w rb E' t' w'
theorem z2t (w:World) (B:Nat):w.ownsRow B 23 32 (.slice none 0 0) 0 (z00 []):=World.ownsRow_nil _ _ _ _
set_option maxHeartbeats 4000000 in
theorem z96 {w0 w:World} {rb:Nat} {E:Int} {t:List Int} (R:RD20 w0 w rb E t) (hE:E≠0) (F T S:Int) (M:Nat):Calls Tryz.prog 102 #[.pointer (some ⟨rb,0,none⟩),.int .u64 F,.int .u64 T,.int .u64 S] w (z3U w0 w rb E t M):=by
  obtain ⟨a,c,h1,h2⟩:=R.rd
  have x1:w.cell? ⟨rb,1,none⟩=some (.int .i64 E):=h1.cell 1
  have hb':(E != 0)=true:=by simp [hE]
  have FN:Aside (z3U w0 w rb E t M (.returned (.slice none 0 0)) w):=⟨none,0,0,E,[],t,rfl,.inl ⟨hE,rfl,rfl,rfl⟩,z2t _ _,R,STAY.refl _ _⟩
  clear R h1 h2
  go_enter Tryz.func102,Tryz.ntmps102
  go_wp2
  go_ret
  exact FN.out
set_option maxHeartbeats 4000000 in
theorem zcb {w0 w:World} {rb:Nat} {t:List Int} (R:RD20 w0 w rb 0 t) (F T S:Nat) (hS:S≤4611686018427387904) (hF:F≤T) (hTS:T≤S) (hT:Tabled w) (hp0:0<w.heap.size):Calls Tryz.prog 102 #[.pointer (some ⟨rb,0,none⟩),.int .u64 (F:Int),.int .u64 (T:Int),.int .u64 (S:Int)] w (z3U w0 w rb 0 t (SPP F T S).length):=by
  obtain ⟨a,c,h1,h2⟩:=R.rd
  have cp:=z2w F T S w hT hp0
  have e1:SPE F T S=0:=by unfold SPE;rw [if_neg (by omega),if_neg (by omega)]
  have e2:SPA F T S=SPP F T S:=by unfold SPA;rw [if_pos e1]
  have hfew:=z2K (F:=F) hS hTS
  rw [e1,e2] at cp
  unfold z2r at cp
  generalize SPP F T S=P at *
  obtain ⟨M,hM⟩:∃ M,P.length=M:=⟨_,rfl⟩
  rw [hM] at cp hfew ⊢
  obtain ⟨n,hn⟩:∃ n,t.length=n:=⟨_,rfl⟩
  rw [hn] at h1
  have x1:w.cell? ⟨rb,1,none⟩=some (.int .i64 0):=h1.cell 1
  have HR:Aside (RD20 w0 w rb 0 t∧Has w rb #[.slice a n c,.int .i64 0] 108∧SRC w0 a c t∧t.length=n∧M≤188):=⟨R,h1,h2,hn,hfew⟩
  have eM:wrap64 (32*(M:Int))=((32*M:Nat):Int):=by unfold wrap64;omega
  clear R h1 h2 hM hn hS hF hTS hT hp0 e1 e2 hfew
  go_enter Tryz.func102,Tryz.ntmps102
  go_wp2_with fail
  refine cp.mono ?_
  rintro e w1 ⟨a1,k1,rfl,_,hb1⟩
  clear cp x1
  have R1:Aside (RD20 w0 w1 rb 0 t∧STAY w w1 rb∧Below w.heap.size w w1):=⟨HR.out.1.keep hb1,STAY.of hb1 (Nat.le_of_lt HR.out.1.lt),hb1⟩
  have H1:=HR.out.2.1.keep hb1
  have x0:w1.cell? ⟨rb,0,none⟩=some (.slice a n c):=H1.cell 0
  have x1:w1.cell? ⟨rb,1,none⟩=some (.int .i64 0):=H1.cell 1
  have z1:w1.frozen? ⟨rb,1,none⟩=false:=H1.frozen 1
  have HH:Aside (Has w1 rb #[.slice a n c,.int .i64 0] 108):=H1
  clear hb1 H1
  rcases Nat.lt_trichotomy n (32*M) with hlt | heq | hgt
  · have k1':(n:Int)<((32*M:Nat):Int):=by omega
    have FN:Aside (z3U w0 w rb 0 t M (.returned (.slice none 0 0)) (w1.setCell ⟨rb,1,none⟩ (.int .i64 11))):=⟨none,0,0,11,[],t,rfl,.inr (.inl ⟨rfl,by rw [HR.out.2.2.2.1];exact hlt,rfl,rfl,rfl⟩),z2t _ _,R1.out.1.wrong 11,R1.out.2.1.trans (STAY.set _ _ _ _)⟩
    clear hlt
    generalize 32*M=LL at *
    go_wp2
    go_ret
    exact FN.out
  · have k1':¬ (n:Int)<((32*M:Nat):Int):=by omega
    have k2':¬ ((32*M:Nat):Int)<(n:Int):=by omega
    obtain ⟨Z,hZ,hmk⟩:=z8W M (by have:=HR.out.2.2.2.2;omega) w1
    obtain ⟨LL,hLL⟩:∃ LL,32*M=LL:=⟨_,rfl⟩
    rw [hLL] at eM k1' k2'
    have kd1:decide (n<LL)=false:=decide_eq_false (by omega)
    have kd2:decide (LL<n)=false:=decide_eq_false (by omega)
    have kn1:¬ n<LL:=by omega
    have kn2:¬ LL<n:=by omega
    have HA:Aside (t.length=32*M∧Z.length=32*M∧n=32*M∧n≤c∧Bytes w1 a n t∧rb<w1.heap.size):=⟨by rw [HR.out.2.2.2.1];exact heq,hZ,heq,by have:=HR.out.2.2.1.2.1;have:=HR.out.2.2.2.1;omega,by have h:=HR.out.2.2.1.1.below R1.out.1.bel;rw [HR.out.2.2.2.1] at h;exact h,R1.out.1.lt⟩
    clear hZ heq hLL x1 z1
    go_wp2
    clear eM hmk x0
    go_loopg [54] M (fun q s54 wx=>∃ i:Nat,s54=.int .i64 (i:Int)∧Aside (i+q=M∧Below w1.heap.size w1 wx∧w1.heap.size<wx.heap.size∧Has wx w1.heap.size (z1b t Z i).toArray 23))
    case atStart=>exact ⟨0,rfl,by omega,(Below.refl _ _).alloc (Nat.le_refl _) _,by simp,by rw [zaL];exact Has.new _ _ _⟩
    case round=>
      obtain ⟨i,rfl,A⟩:=hrel
      obtain ⟨hi,hbel,hsz,hhas⟩:=A.out
      obtain ⟨a1,a2,a3,a4,a5,a6⟩:=HA.out
      cases gk with
      | zero=>
        obtain rfl:i=M:=by omega
        have hlt:¬ (i:Int)<(i:Int):=by omega
        have FN:Aside (z3U w0 w rb 0 t i (.returned (.slice (some ⟨w1.heap.size,0,none⟩) i i)) wr):=by
          rw [zc2 a1 a2] at hhas
          exact ⟨_,i,i,0,t,t,rfl,.inr (.inr (.inr ⟨rfl,a1,rfl,rfl,rfl⟩)),z5W hhas a1 R1.out.2.2.size (by have:=HR.out.2.2.2.2;omega),R1.out.1.keep hbel,R1.out.2.1.trans (STAY.of hbel (Nat.le_of_lt R1.out.1.lt))⟩
        clear hi hbel hsz hhas a1 a2 a3 a4 a5 a6 A HA HR R1 HH
        go_wp2
        go_ret
        exact FN.out
      | succ q=>
        have hlt:(i:Int)<(M:Int):=by omega
        obtain ⟨b,o,rfl,hbl,hcs⟩:=a5.2.1 (by omega)
        have y0:wr.cell? ⟨rb,0,none⟩=some (.slice (some ⟨b,o,none⟩) n c):=(hbel.cell (p:=⟨rb,0,none⟩) a6).trans (HH.out.cell 0)
        obtain ⟨I,hI⟩:∃ I,i*32=I:=⟨_,rfl⟩
        have m2:(I:Int)≤(n:Int):=by omega
        have m3:(n:Int)≤(c:Int):=by omega
        have m4:¬ c=I:=by omega
        have h32:(z00 (HSH t i)).length=32:=by
          rw [z00,List.length_map]
          exact z0y a1 (by omega)
        have hsrc:∀ j v,(z00 (HSH t i))[j]?=some v→wr.cell? ((⟨b,o+I,none⟩:Addr).add j)=some v:=by
          intro j v hv
          have hj:j<32:=by
            have:=(List.getElem?_eq_some_iff.1 hv).1
            omega
          rw [z0k _ _ (by rw [z0y a1 (by omega)];exact hj),z5E hj] at hv
          rw [z0H,show o+I+j=o+(32*i+j) by omega]
          exact ((hbel.cell (p:=⟨b,o+(32*i+j),none⟩) hbl).trans (hcs (32*i+j) (by omega))).trans hv
        have hpl:=z81 a1 a2 (show i≤M by omega)
        have hnx:=zaM Z a1 (show i<M by omega)
        have hone:=z15 (HSH t i)
        have RR:Aside (i+1+q=M∧Below w1.heap.size w1 wr∧w1.heap.size<wr.heap.size∧Has wr w1.heap.size (z1b t Z i).toArray 23∧splice (z1b t Z i) (i*32) (z00 (HSH t i))=z1b t Z (i+1)):=⟨by omega,hbel,hsz,hhas,hnx⟩
        have SS:Aside ((z00 (HSH t i)).length=Nat.min (n - I) 32∧i*32+(z00 (HSH t i)).length≤(z1b t Z i).length):=⟨by rw [h32];exact (Nat.min_eq_right (show 32≤n - I by omega)).symm,by omega⟩
        have hM188:=HR.out.2.2.2.2
        have E2:Aside (wrap64 (32*(i:Int))=(I:Int)):=by show wrap64 (32*(i:Int))=(I:Int);unfold wrap64;omega
        have E3:Aside (IntKind.i64.wrap (32*(i:Int))=(I:Int)):=by show IntKind.i64.wrap (32*(i:Int))=(I:Int);rw [IntKind.wrap_i64];omega
        have E1:Aside (wrap64 ((i:Int)+1)=((i+1:Nat):Int)):=by show wrap64 ((i:Int)+1)=((i+1:Nat):Int);unfold wrap64;omega
        clear hi hbel hsz hhas a1 a2 a3 a4 a5 a6 A HA hbl hcs hpl hnx hI hM188 HR R1 HH
        generalize z00 (HSH t i)=H at *
        have hu8:(Tryz.prog.info? 5).map (·.size)=some 1:=by kernel_rfl
        have m1:=E2.out
        have m5:=E3.out
        go_wp2
        go_region_law (refine step_copy_splice rfl (.tmp 60) (.tmp 67) 26 26 rfl 5 Tryz.underlying26 hu8 (some ⟨w1.heap.size,i*32,none⟩) (some ⟨b,o+I,none⟩) 32 32 (n - I) (c - I) (by simp [Act.eval,Act.put]) (by simp [Act.eval,Act.put]) w1.heap.size (i*32) (z1b t Z i) 23 (by exact RR.out.2.2.2.1) H SS.out.1 (fun _=>⟨rfl,_,rfl,hsrc⟩) SS.out.2 hone w1.heap.size w1 (by exact RR.out.2.1.drew) (Nat.le_refl _) ?_;intro w4 hg4 hb4)
        have R2:Aside (i+1+q=M∧Below w1.heap.size w1 w4∧w1.heap.size<w4.heap.size∧Has w4 w1.heap.size (z1b t Z (i+1)).toArray 23):=by
          obtain ⟨r1,r2,r3,r4,r5⟩:=RR.out
          have hg5:w4.heap[w1.heap.size]?=some (.cells (splice (z1b t Z i) (i*32) H).toArray 23 (0,0)):=hg4
          rw [r5] at hg5
          exact ⟨r1,hb4,(Array.getElem?_eq_some_iff.1 hg5).1,hg5⟩
        clear RR SS hg4 hb4 hsrc hone h32 m1 m5 y0
        have e1:=E1.out
        go_wp2
        go_roundg q
        case measure=>exact Nat.lt_succ_self _
        case rel=>exact ⟨i+1,by first | rfl | (rw [E1.out]),R2.out⟩
  · have k1':¬ (n:Int)<((32*M:Nat):Int):=by omega
    have k2':((32*M:Nat):Int)<(n:Int):=by omega
    have FN:Aside (z3U w0 w rb 0 t M (.returned (.slice none 0 0)) (w1.setCell ⟨rb,1,none⟩ (.int .i64 13))):=⟨none,0,0,13,[],t,rfl,.inr (.inr (.inl ⟨rfl,by rw [HR.out.2.2.2.1];exact hgt,rfl,rfl,rfl⟩)),z2t _ _,R1.out.1.wrong 13,R1.out.2.1.trans (STAY.set _ _ _ _)⟩
    clear hgt
    generalize 32*M=LL at *
    go_wp2
    go_ret
    exact FN.out
end Go.Proofs.YthdpkaiieomdoaaGreatDoor

namespace Go.Proofs.YthdpkaiieomdoaaGreatDoor
set_option linter.unusedSimpArgs false
open Go.RowKit
set_option maxRecDepth 100000
theorem z97 {w:World} {b o:Nat} {x:Int} (h:∃ u,w.cell? ⟨b,o,none⟩=some u) (hf:w.frozen? ⟨b,o,none⟩=false):(Instr.storeAt 24 (.pointer (some ⟨b,o,none⟩)) (.int .u64 x)).run Tryz.prog w=.ok () (w.setCell ⟨b,o,none⟩ (.int .u64 x)):=by
  obtain ⟨u,h⟩:=h
  go_simp
@[go_sem] def SPR5OPSq0:Oper:=⟨some 14,.fieldAddr 28 (.tmp 3) 1,0,"bytes.go:38",#[],none⟩
@[go_sem] def SPR5OPSq1:Oper:=⟨some 15,.load 24 (.tmp 14),24,"bytes.go:38",#[⟨0,.data⟩],none⟩
@[go_sem] def SPR5OPSq2:Oper:=⟨some 16,.move (.tmp 0),156,"bytes.go:38",#[],none⟩
@[go_sem] def SPR5OPSq3:Oper:=⟨some 17,.fieldAddr 28 (.tmp 3) 0,0,"bytes.go:38",#[],none⟩
@[go_sem] def SPR5OPSq4:Oper:=⟨some 18,.load 24 (.tmp 17),24,"bytes.go:38",#[⟨3,.data⟩],none⟩
@[go_sem] def SPR5OPSq5:Oper:=⟨some 19,.fieldAddr 28 (.tmp 3) 1,0,"bytes.go:38",#[],none⟩
@[go_sem] def SPR5OPSq6:Oper:=⟨some 20,.load 24 (.tmp 19),24,"bytes.go:38",#[⟨5,.data⟩],none⟩
@[go_sem] def SPR5OPSq7:Oper:=⟨some 21,.binOp .sub 24 (.tmp 18) (.tmp 20) 24,24,"bytes.go:38",#[⟨4,.data⟩,⟨6,.data⟩],none⟩
@[go_sem] def SPR5OPSq8:Oper:=⟨some 22,.call {callee:=.value (.func 101),args:=#[.tmp 16,.tmp 21,.const (.int .i64 32)],argTypes:=#[156,24,31]},24,"bytes.go:38",#[⟨2,.data⟩,⟨7,.data⟩],none⟩
@[go_sem] def SPR5OPSq9:Oper:=⟨some 23,.binOp .add 24 (.tmp 15) (.tmp 22) 24,24,"bytes.go:38",#[⟨1,.data⟩,⟨8,.data⟩],none⟩
@[go_sem] def SPR5OPSq10:Oper:=⟨some 24,.fieldAddr 28 (.tmp 3) 2,0,"bytes.go:38",#[⟨0,.phase⟩,⟨1,.phase⟩,⟨2,.phase⟩,⟨3,.phase⟩,⟨4,.phase⟩,⟨5,.phase⟩,⟨6,.phase⟩,⟨7,.phase⟩,⟨8,.phase⟩,⟨9,.phase⟩],none⟩
@[go_sem] def SPR5OPSq11:Oper:=⟨none,.store 24 (.tmp 24) (.tmp 23),0,"bytes.go:38",#[⟨10,.data⟩,⟨9,.data⟩,⟨8,.chain⟩,⟨0,.phase⟩,⟨1,.phase⟩,⟨2,.phase⟩,⟨3,.phase⟩,⟨4,.phase⟩,⟨5,.phase⟩,⟨6,.phase⟩,⟨7,.phase⟩,⟨8,.phase⟩,⟨9,.phase⟩],none⟩
def z4J:Array Oper:=#[SPR5OPSq0,SPR5OPSq1,SPR5OPSq2,SPR5OPSq3,SPR5OPSq4,SPR5OPSq5,SPR5OPSq6,SPR5OPSq7,SPR5OPSq8,SPR5OPSq9,SPR5OPSq10,SPR5OPSq11]
set_option maxHeartbeats 2000000 in
theorem zeJ {Q:Exit→Act→World→Prop} {u1 u2 u4 u5 u6 u7 u8 u9 u10 u11 u12 u13 u14 u15 u16 u17 u18 u19 u20 u21 u22 u23 u24 u25 u26 u27 u28 u29 u30 u31 u32 u33 u34:Value} (W:World) (rb pb SZ F D:Nat) (P0:World→Prop) (P1 P2:Nat→World→Prop) (h0:P0 W.drew) (t0:∀ w,P0 w→(fun w:World=>w.cell? ⟨pb,0,none⟩=some (.int .u64 (SZ:Int))∧w.cell? ⟨pb,1,none⟩=some (.int .u64 (F:Int))) w) (t1:∀ x w,P1 x w→(fun w:World=>w.cell? ⟨pb,0,none⟩=some (.int .u64 (SZ:Int))∧w.cell? ⟨pb,1,none⟩=some (.int .u64 (F:Int))) w) (t2:∀ x w,P2 x w→(fun w:World=>w.cell? ⟨pb,0,none⟩=some (.int .u64 (SZ:Int))∧w.cell? ⟨pb,1,none⟩=some (.int .u64 (F:Int))) w) (hle:∀ x w,P1 x w→x≤D) (e1:IntKind.u64.wrap ((SZ:Int) - (F:Int))=(D:Int)) (e2:∀ x:Nat,x≤D→IntKind.u64.wrap ((F:Int)+(x:Int))=((F+x:Nat):Int))
    (c1:∀ w,P0 w→Calls Tryz.prog 101 #[.pointer (some ⟨rb,0,none⟩),.int .u64 (D:Int),.int .i64 32] w fun e w'=>∃ x:Nat,e=.returned (.int .u64 (x:Int))∧P1 x w')
    (m1:∀ x w,P1 x w→(∃ u,w.cell? ⟨pb,2,none⟩=some u)∧w.frozen? ⟨pb,2,none⟩=false) (st:∀ x w,P1 x w→P2 x (w.setCell ⟨pb,2,none⟩ (.int .u64 ((F+x:Nat):Int)))) (hQ:∀ c (a:Act) (t:Tmp) (v:Value) w,Q (.panic c) (a.put (some t) v) w→Q (.panic c) a w)
    (hfin:∀ (x:Nat) (w:World),(P2 x w)→Q .normal {tmps:=#[.pointer (some ⟨rb,0,none⟩),u1,u2,.pointer (some ⟨pb,0,none⟩),u4,u5,u6,u7,u8,u9,u10,u11,u12,u13,.pointer (some ⟨pb,1,none⟩),.int .u64 (F:Int),.pointer (some ⟨rb,0,none⟩),.pointer (some ⟨pb,0,none⟩),.int .u64 (SZ:Int),.pointer (some ⟨pb,1,none⟩),.int .u64 (F:Int),.int .u64 (D:Int),.int .u64 (x:Int),.int .u64 ((F+x:Nat):Int),.pointer (some ⟨pb,2,none⟩),u25,u26,u27,u28,u29,u30,u31,u32,u33,u34],defers:=[]} w):(Code.region 5 z4J true).wp Tryz.prog Q {tmps:=#[.pointer (some ⟨rb,0,none⟩),u1,u2,.pointer (some ⟨pb,0,none⟩),u4,u5,u6,u7,u8,u9,u10,u11,u12,u13,u14,u15,u16,u17,u18,u19,u20,u21,u22,u23,u24,u25,u26,u27,u28,u29,u30,u31,u32,u33,u34],defers:=[]} W:=by
  have kst8_11:∀ (x:Nat) (w:World),(P2 x w)→wpAnyH Tryz.prog .any z4J Q (fun w:World=>w.cell? ⟨pb,0,none⟩=some (.int .u64 (SZ:Int))∧w.cell? ⟨pb,1,none⟩=some (.int .u64 (F:Int))) 0 #[true,true,true,true,true,true,true,true,true,true,true,true] {tmps:=#[.pointer (some ⟨rb,0,none⟩),u1,u2,.pointer (some ⟨pb,0,none⟩),u4,u5,u6,u7,u8,u9,u10,u11,u12,u13,.pointer (some ⟨pb,1,none⟩),.int .u64 (F:Int),.pointer (some ⟨rb,0,none⟩),.pointer (some ⟨pb,0,none⟩),.int .u64 (SZ:Int),.pointer (some ⟨pb,1,none⟩),.int .u64 (F:Int),.int .u64 (D:Int),.int .u64 (x:Int),.int .u64 ((F+x:Nat):Int),.pointer (some ⟨pb,2,none⟩),u25,u26,u27,u28,u29,u30,u31,u32,u33,u34],defers:=[]} w:=fun x w hp=>by
    exact wpAnyH_done (by kernel_rfl) (hfin x w hp) _
  have kst:∀ (w:World),(P0 w)→wpAnyH Tryz.prog .any z4J Q (fun w:World=>w.cell? ⟨pb,0,none⟩=some (.int .u64 (SZ:Int))∧w.cell? ⟨pb,1,none⟩=some (.int .u64 (F:Int))) 4 #[true,true,true,true,true,true,true,true,false,false,false,false] {tmps:=#[.pointer (some ⟨rb,0,none⟩),u1,u2,.pointer (some ⟨pb,0,none⟩),u4,u5,u6,u7,u8,u9,u10,u11,u12,u13,.pointer (some ⟨pb,1,none⟩),.int .u64 (F:Int),.pointer (some ⟨rb,0,none⟩),.pointer (some ⟨pb,0,none⟩),.int .u64 (SZ:Int),.pointer (some ⟨pb,1,none⟩),.int .u64 (F:Int),.int .u64 (D:Int),u22,u23,u24,u25,u26,u27,u28,u29,u30,u31,u32,u33,u34],defers:=[]} w:=fun  w hp=>by
    refine wpAnyH_ready (rs:=[8]) (by kernel_rfl) (by simp) ?_
    refine AllReadyH.cons (o:=SPR5OPSq8) rfl (fun KQ hKQ=>?_) ?_
    · rw [if_pos (by rfl)]
      go_simp
      refine (show Calls _ _ _ w (fun e w'=>∃ (x:Nat),e=.returned (.int .u64 (x:Int))∧(P1 x w')) from c1 w hp).mono ?_
      rintro e w ⟨x,rfl,hp⟩
      refine hKQ.out _ _ (t1 _ _ hp) (fun _=>?_)
      simp only [List.setIfInBounds_toArray,List.set]
      have hww:(fun w:World=>w.cell? ⟨pb,0,none⟩=some (.int .u64 (SZ:Int))∧w.cell? ⟨pb,1,none⟩=some (.int .u64 (F:Int))) w:=t1 _ _ hp
      refine tkH SPR5OPSq9 (.int .u64 ((F+x:Nat):Int)) 9 hQ (Or.inl ⟨by rfl,fun w hw=>by have hx:=e2 x (hle _ _ hp);go_simp⟩) hww ?_
      simp only [List.set]
      refine tkP SPR5OPSq10 (.pointer (some ⟨pb,2,none⟩)) 10 hQ hww ?_
      simp only [List.set]
      refine wpAnyH_ready (rs:=[11]) (by kernel_rfl) (by simp) ?_
      refine AllReadyH.cons (o:=SPR5OPSq11) rfl (fun KQ hKQ=>?_) ?_
      · exact z0J rfl (z5k (z97 (m1 _ _ hp).1 (m1 _ _ hp).2)) (have hp:(fun (x:Nat) (w:World)=>(P2 x w)) x _:=st _ _ hp;hKQ.out _ _ (t2 _ _ hp) (fun _=>kst8_11 x _ hp))
      exact AllReadyH.nil
    exact AllReadyH.nil
  have hp:=h0
  have hww:(fun w:World=>w.cell? ⟨pb,0,none⟩=some (.int .u64 (SZ:Int))∧w.cell? ⟨pb,1,none⟩=some (.int .u64 (F:Int))) W.drew:=t0 _ hp
  have last:=kst W.drew hp
  have z:wpAnyH Tryz.prog .any z4J Q (fun w:World=>w.cell? ⟨pb,0,none⟩=some (.int .u64 (SZ:Int))∧w.cell? ⟨pb,1,none⟩=some (.int .u64 (F:Int))) 12 #[false,false,false,false,false,false,false,false,false,false,false,false] {tmps:=#[.pointer (some ⟨rb,0,none⟩),u1,u2,.pointer (some ⟨pb,0,none⟩),u4,u5,u6,u7,u8,u9,u10,u11,u12,u13,u14,u15,u16,u17,u18,u19,u20,u21,u22,u23,u24,u25,u26,u27,u28,u29,u30,u31,u32,u33,u34],defers:=[]} W.drew:=by
    refine tkP SPR5OPSq0 (.pointer (some ⟨pb,1,none⟩)) 0 hQ hww ?_
    simp only [List.set]
    refine tkH SPR5OPSq1 (.int .u64 (F:Int)) 1 hQ (Or.inl ⟨by rfl,fun w hw=>by have hx:=hw.2;go_simp⟩) hww ?_
    simp only [List.set]
    refine tkP SPR5OPSq2 (.pointer (some ⟨rb,0,none⟩)) 2 hQ hww ?_
    simp only [List.set]
    refine tkP SPR5OPSq3 (.pointer (some ⟨pb,0,none⟩)) 3 hQ hww ?_
    simp only [List.set]
    refine tkH SPR5OPSq4 (.int .u64 (SZ:Int)) 4 hQ (Or.inl ⟨by rfl,fun w hw=>by have hx:=hw.1;go_simp⟩) hww ?_
    simp only [List.set]
    refine tkP SPR5OPSq5 (.pointer (some ⟨pb,1,none⟩)) 5 hQ hww ?_
    simp only [List.set]
    refine tkH SPR5OPSq6 (.int .u64 (F:Int)) 6 hQ (Or.inl ⟨by rfl,fun w hw=>by have hx:=hw.2;go_simp⟩) hww ?_
    simp only [List.set]
    refine tkH SPR5OPSq7 (.int .u64 (D:Int)) 7 hQ (Or.inl ⟨by rfl,fun w hw=>by have hx:=e1;go_simp⟩) hww ?_
    simp only [List.set]
    exact last
  exact wp_region_held_drew (S:=(fun w:World=>w.cell? ⟨pb,0,none⟩=some (.int .u64 (SZ:Int))∧w.cell? ⟨pb,1,none⟩=some (.int .u64 (F:Int)))) (by kernel_rfl) hww (fun _=>z)
end Go.Proofs.YthdpkaiieomdoaaGreatDoor

namespace Go.Proofs.YthdpkaiieomdoaaGreatDoor
open Go.RowKit
set_option maxRecDepth 100000
abbrev SANS:=Int × Nat × Nat × Nat × Nat × List Int
def SERR (E:Int):SANS:=(E,0,0,0,0,[])
def SD3 (S F T:Nat) (t:List Int):SANS:=if t.length<32*(SPP F T S).length then SERR 11 else if 32*(SPP F T S).length<t.length then SERR 13 else (0,S,F,T,(SPP F T S).length,t)
def SD2 (S F:Nat) (t:List Int):SANS:=if SNE t (S - F) 32≠0 then SERR (SNE t (S - F) 32) else SD3 S F (F+(LNG t).1.toNat) (t.drop (LNG t).2.1.toNat)
def SD1 (S:Nat) (t:List Int):SANS:=if SNE t S 32≠0 then SERR (SNE t S 32) else SD2 S (LNG t).1.toNat (t.drop (LNG t).2.1.toNat)
def SD0 (t:List Int):SANS:=if SNE t 4611686018427387904 30≠0 then SERR (SNE t 4611686018427387904 30) else SD1 (LNG t).1.toNat (t.drop (LNG t).2.1.toNat)
def SDEC (l:List Int):SANS:=if (K20 l).1≠0 then SERR (K20 l).1 else SD0 (K20 l).2
theorem zcc {l:List Int} {S F X K:Nat} {E1 E2 E3 E4:Int} {t1 t2 t3 ll:List Int}
    (n1:z1K (K20 l).1 (K20 l).2 4611686018427387904 30 S E1 t1) (n2:z1K E1 t1 S 32 F E2 t2) (n3:z1K E2 t2 (S - F) 32 X E3 t3) (n4:zdQ E3 t3 (SPP F (F+X) S).length K E4 ll):
    (E4≠0→SDEC l=SERR E4)∧(E4=0→SDEC l=(0,S,F,F+X,K,ll)):=by
  obtain ⟨_,h1⟩:=n1
  obtain ⟨_,h2⟩:=n2
  obtain ⟨_,h3⟩:=n3
  rcases h1 with ⟨e,_,rfl⟩ | ⟨e,e',_,rfl⟩ | ⟨e,e',hx1,rfl,rfl⟩
  · have hE:E4=(K20 l).1:=by
      rcases h2 with ⟨_,_,rfl⟩ | ⟨h,_⟩ | ⟨h,_⟩
      · rcases h3 with ⟨_,_,rfl⟩ | ⟨h,_⟩ | ⟨h,_⟩
        · rcases n4 with ⟨_,_,rfl,_⟩ | ⟨h,_⟩ | ⟨h,_⟩ | ⟨h,_⟩
          · rfl
          all_goals exact absurd h e
        all_goals exact absurd h e
      all_goals exact absurd h e
    subst hE
    exact ⟨fun _=>by unfold SDEC;rw [if_pos e],fun h=>absurd h e⟩
  · have hE:E4=SNE (K20 l).2 4611686018427387904 30:=by
      rcases h2 with ⟨_,_,rfl⟩ | ⟨h,_⟩ | ⟨h,_⟩
      · rcases h3 with ⟨_,_,rfl⟩ | ⟨h,_⟩ | ⟨h,_⟩
        · rcases n4 with ⟨_,_,rfl,_⟩ | ⟨h,_⟩ | ⟨h,_⟩ | ⟨h,_⟩
          · rfl
          all_goals exact absurd h e'
        all_goals exact absurd h e'
      all_goals exact absurd h e'
    subst hE
    exact ⟨fun _=>by unfold SDEC;rw [if_neg (by simp [e])];unfold SD0;rw [if_pos e'],fun h=>absurd h e'⟩
  · have hS:S=(LNG (K20 l).2).1.toNat:=by omega
    have d1:SDEC l=SD1 S ((K20 l).2.drop (LNG (K20 l).2).2.1.toNat):=by
      unfold SDEC
      rw [if_neg (by simp [e])]
      unfold SD0
      rw [if_neg (by simp [e']),hS]
    rw [d1]
    clear d1 hS hx1
    generalize (K20 l).2.drop (LNG (K20 l).2).2.1.toNat=u1 at *
    rcases h2 with ⟨h,_⟩ | ⟨_,f',_,rfl⟩ | ⟨_,f',hx2,rfl,rfl⟩
    · exact absurd rfl h
    · have hE:E4=SNE u1 S 32:=by
        rcases h3 with ⟨_,_,rfl⟩ | ⟨h,_⟩ | ⟨h,_⟩
        · rcases n4 with ⟨_,_,rfl,_⟩ | ⟨h,_⟩ | ⟨h,_⟩ | ⟨h,_⟩
          · rfl
          all_goals exact absurd h f'
        all_goals exact absurd h f'
      subst hE
      exact ⟨fun _=>by unfold SD1;rw [if_pos f'],fun h=>absurd h f'⟩
    · have hF:F=(LNG u1).1.toNat:=by omega
      have d1:SD1 S u1=SD2 S F (u1.drop (LNG u1).2.1.toNat):=by
        unfold SD1
        rw [if_neg (by simp [f']),hF]
      rw [d1]
      clear d1 hF hx2
      generalize u1.drop (LNG u1).2.1.toNat=u2 at *
      rcases h3 with ⟨h,_⟩ | ⟨_,g',_,rfl⟩ | ⟨_,g',hx3,rfl,rfl⟩
      · exact absurd rfl h
      · have hE:E4=SNE u2 (S - F) 32:=by
          rcases n4 with ⟨_,_,rfl,_⟩ | ⟨h,_⟩ | ⟨h,_⟩ | ⟨h,_⟩
          · rfl
          all_goals exact absurd h g'
        subst hE
        exact ⟨fun _=>by unfold SD2;rw [if_pos g'],fun h=>absurd h g'⟩
      · have hX:X=(LNG u2).1.toNat:=by omega
        have d1:SD2 S F u2=SD3 S F (F+X) (u2.drop (LNG u2).2.1.toNat):=by
          unfold SD2
          rw [if_neg (by simp [g']),hX]
        rw [d1]
        clear d1 hX hx3
        generalize u2.drop (LNG u2).2.1.toNat=u3 at *
        unfold SD3
        generalize (SPP F (F+X) S).length=M at *
        rcases n4 with ⟨h,_⟩ | ⟨_,h,rfl,rfl,rfl⟩ | ⟨_,h,rfl,rfl,rfl⟩ | ⟨_,h,rfl,rfl,rfl⟩
        · exact absurd rfl h
        · exact ⟨fun _=>by rw [if_pos h],fun h=>by cases h⟩
        · exact ⟨fun _=>by rw [if_neg (by omega),if_pos h],fun h=>by cases h⟩
        · exact ⟨fun h=>absurd rfl h,fun _=>by rw [if_neg (by omega),if_neg (by omega)]⟩
theorem z1m:(Tryz.prog.info? 28).map (·.size)=some 4:=by kernel_rfl
abbrev ZREACH:Array Value:=#[.int .u64 0,.int .u64 0,.int .u64 0,.slice none 0 0]
def SPRD (wS w:World) (rb:Nat) (l:List Int) (e:Ending) (w':World):Prop:=∃ (S F T K c:Nat) (a:Option Addr) (E:Int) (ll t':List Int),e=.returned (.agg #[.int .u64 (S:Int),.int .u64 (F:Int),.int .u64 (T:Int),.slice a K c])∧(E≠0→SDEC l=SERR E)∧(E=0→SDEC l=(0,S,F,T,K,ll))∧w'.ownsRow w.heap.size 23 32 (.slice a K c) K (z00 ll)∧RD20 wS w' rb E t'∧STAY w w' rb
set_option maxHeartbeats 8000000 in
theorem zcd {wS w:World} {rb:Nat} {l:List Int} (R:RD20 wS w rb 0 l) (hT:Tabled wS) (h0:0<wS.heap.size):Calls Tryz.prog 57 #[.pointer (some ⟨rb,0,none⟩)] w (SPRD wS w rb l):=by
  have hrb:=R.lt
  obtain ⟨w1,e1⟩:∃ w1,w.alloc (.cells ZREACH 28)=w1:=⟨_,rfl⟩
  have hb1:Below w.heap.size w w1:=by rw [← e1];exact (Below.refl _ _).alloc (Nat.le_refl _) _
  have s1:w1.heap.size=w.heap.size+1:=by rw [← e1];simp
  have HR:Aside (RD20 wS w1 rb 0 l∧STAY w w1 rb∧rb<w.heap.size∧wS.heap.size≤rb∧Has w1 w.heap.size ZREACH 28∧w.heap.size<w1.heap.size):=⟨R.keep hb1,STAY.of hb1 (Nat.le_of_lt hrb),hrb,R.lb,by rw [← e1];exact Has.new w _ _,by omega⟩
  have HT:Aside (∀ W,Below wS.heap.size wS W→Tabled W∧0<W.heap.size):=fun W hb=>⟨hT.below h0 hb,by have:=hb.size;omega⟩
  have ck:=zdA HR.out.1
  clear R hrb hb1 s1 hT h0
  go_enter Tryz.func57,Tryz.ntmps57
  go_wp2_with fail
  refine ck.mono ?_
  rintro e w2 ⟨rfl,r2,t2⟩
  have R2:Aside (RD20 wS w2 rb (K20 l).1 (K20 l).2∧STAY w w2 rb∧Has w2 w.heap.size ZREACH 28∧w.heap.size<w2.heap.size):=⟨r2,HR.out.2.1.trans t2,t2.has HR.out.2.2.2.2.1 (by have:=HR.out.2.2.1;omega),by have:=t2.bl.size;have:=HR.out.2.2.2.2.2;have:=(t2.has HR.out.2.2.2.2.1 (by have:=HR.out.2.2.1;omega)).lt;omega⟩
  clear ck r2 t2 e1
  obtain ⟨w3,e3⟩:∃ w3,w2.alloc (.cells ZREACH 28)=w3:=⟨_,rfl⟩
  have hb3:Below w2.heap.size w2 w3:=by rw [← e3];exact (Below.refl _ _).alloc (Nat.le_refl _) _
  have H3:Has w3 w2.heap.size ZREACH 28:=by rw [← e3];exact Has.new w2 _ _
  obtain ⟨pb,hpb⟩:∃ pb,w2.heap.size=pb:=⟨_,rfl⟩
  have R3:Aside (RD20 wS w3 rb (K20 l).1 (K20 l).2∧STAY w w3 rb∧Has w3 w.heap.size ZREACH 28∧w.heap.size<pb∧Has w3 pb ZREACH 28):=⟨R2.out.1.keep hb3,R2.out.2.1.trans (STAY.of hb3 (Nat.le_of_lt R2.out.1.lt)),R2.out.2.2.1.keep hb3,by rw [← hpb];exact R2.out.2.2.2,by rw [← hpb];exact H3⟩
  have PB:Aside (w2.heap.size=pb):=hpb
  have c1:=z3T R3.out.1 4611686018427387904 30 (by decide)
  clear hb3 H3 hpb R2
  go_wp2_with fail
  rw [PB.out]
  refine c1.mono ?_
  rintro e w4 ⟨S,E1,t1,rfl,n1,r4,t4⟩
  have H4:Has w4 pb ZREACH 28:=t4.has R3.out.2.2.2.2 (by have:=R3.out.2.2.2.1;have:=HR.out.2.2.1;omega)
  have R4:Aside (RD20 wS (w4.setCell ⟨pb,0,none⟩ (.int .u64 (S:Int))) rb E1 t1∧STAY w (w4.setCell ⟨pb,0,none⟩ (.int .u64 (S:Int))) rb∧Has (w4.setCell ⟨pb,0,none⟩ (.int .u64 (S:Int))) w.heap.size ZREACH 28∧Has (w4.setCell ⟨pb,0,none⟩ (.int .u64 (S:Int))) pb #[.int .u64 (S:Int),.int .u64 0,.int .u64 0,.slice none 0 0] 28∧z1K (K20 l).1 (K20 l).2 4611686018427387904 30 S E1 t1):=by
    have hne:rb≠pb:=by have:=R3.out.2.2.2.1;have:=HR.out.2.2.1;omega
    have hsz:=R3.out.2.2.2.1
    refine ⟨r4.other (STAY.set w4 pb 0 _) hne (by have:=HR.out.2.2.2.1;have:=HR.out.2.2.1;omega),(R3.out.2.1.trans t4).high (by omega) (by have:=HR.out.2.2.1;omega),(t4.has R3.out.2.2.1 (by have:=HR.out.2.2.1;omega)).other (by show w.heap.size≠pb;omega) _,H4.set 0 _,n1⟩
  have x0:w4.cell? ⟨pb,0,none⟩=some (.int .u64 0):=H4.cell 0
  have z0:w4.frozen? ⟨pb,0,none⟩=false:=H4.frozen 0
  clear c1 n1 r4 t4 H4 e3
  go_upto_region 4 with fail
  generalize w4.setCell ⟨pb,0,none⟩ (.int .u64 (S:Int))=w5 at *
  clear x0 z0
  have x0:w5.cell? ⟨pb,0,none⟩=some (.int .u64 (S:Int)):=R4.out.2.2.2.1.cell 0
  have c2:=z3T R4.out.1 S 32 (by decide)
  go_wp2_with fail
  refine c2.mono ?_
  rintro e w6 ⟨F,E2,t2,rfl,n2,r6,t6⟩
  have H6:Has w6 pb #[.int .u64 (S:Int),.int .u64 0,.int .u64 0,.slice none 0 0] 28:=t6.has R4.out.2.2.2.1 (by have:=R3.out.2.2.2.1;have:=HR.out.2.2.1;omega)
  have R6:Aside (RD20 wS (w6.setCell ⟨pb,1,none⟩ (.int .u64 (F:Int))) rb E2 t2∧STAY w (w6.setCell ⟨pb,1,none⟩ (.int .u64 (F:Int))) rb∧Has (w6.setCell ⟨pb,1,none⟩ (.int .u64 (F:Int))) w.heap.size ZREACH 28∧Has (w6.setCell ⟨pb,1,none⟩ (.int .u64 (F:Int))) pb #[.int .u64 (S:Int),.int .u64 (F:Int),.int .u64 0,.slice none 0 0] 28∧z1K E1 t1 S 32 F E2 t2):=by
    have hne:rb≠pb:=by have:=R3.out.2.2.2.1;have:=HR.out.2.2.1;omega
    have hsz:=R3.out.2.2.2.1
    refine ⟨r6.other (STAY.set w6 pb 1 _) hne (by have:=HR.out.2.2.2.1;have:=HR.out.2.2.1;omega),(R4.out.2.1.trans t6).high (by omega) (by have:=HR.out.2.2.1;omega),(t6.has R4.out.2.2.1 (by have:=HR.out.2.2.1;omega)).other (by show w.heap.size≠pb;omega) _,H6.set 1 _,n2⟩
  have x1:w6.cell? ⟨pb,1,none⟩=some (.int .u64 0):=H6.cell 1
  have z1:w6.frozen? ⟨pb,1,none⟩=false:=H6.frozen 1
  have b1:S≤4611686018427387904:=R4.out.2.2.2.2.1
  have b2:F≤S:=n2.1
  have BB:Aside (S≤4611686018427387904∧F≤S):=⟨b1,b2⟩
  clear c2 n2 r6 t6 H6 x0
  go_upto_region 5 with fail
  generalize w6.setCell ⟨pb,1,none⟩ (.int .u64 (F:Int))=w7 at *
  clear x1 z1
  refine zeJ w7 rb pb S F (S - F) (fun w8=>w8=w7.drew) (fun x w8=>∃ E3 t3,z1K E2 t2 (S - F) 32 x E3 t3∧RDS wS w7.drew rb E3 t3 w8) (fun x w8=>∃ wy E3 t3,z1K E2 t2 (S - F) 32 x E3 t3∧RDS wS w7.drew rb E3 t3 wy∧w8=wy.setCell ⟨pb,2,none⟩ (.int .u64 ((F+x:Nat):Int))) rfl ?_ ?_ ?_ ?_ ?_ ?_ ?_ ?_ ?_ (fun _ _ _ _ _ h=>h) ?_
  case refine_1=>
    rintro w8 rfl
    exact ⟨R6.out.2.2.2.1.cell 0,R6.out.2.2.2.1.cell 1⟩
  case refine_2=>
    rintro x w8 ⟨E3,t3,_,_,h2⟩
    have h:=h2.has (g:=pb) (c:=#[.int .u64 (S:Int),.int .u64 (F:Int),.int .u64 0,.slice none 0 0]) (t:=28) R6.out.2.2.2.1 (by have:=R3.out.2.2.2.1;have:=HR.out.2.2.1;omega)
    exact ⟨h.cell 0,h.cell 1⟩
  case refine_3=>
    rintro x w8 ⟨wy,E3,t3,_,⟨_,h2⟩,rfl⟩
    have h:=(h2.has (g:=pb) (c:=#[.int .u64 (S:Int),.int .u64 (F:Int),.int .u64 0,.slice none 0 0]) (t:=28) R6.out.2.2.2.1 (by have:=R3.out.2.2.2.1;have:=HR.out.2.2.1;omega)).set 2 (.int .u64 ((F+x:Nat):Int))
    exact ⟨h.cell 0,h.cell 1⟩
  case refine_4=>
    rintro x w8 ⟨E3,t3,n3,_⟩
    exact n3.1
  case refine_5=>exact z1g BB.out.2 (by have:=BB.out.1;omega)
  case refine_6=>intro x hx;rw [z09];have:=BB.out;omega
  case refine_7=>
    rintro w8 rfl
    have R7:RD20 wS w7.drew rb E2 t2:=R6.out.1.keep (Below.refl _ _).drew
    refine (z3T R7 (S - F) 32 (by decide)).mono ?_
    rintro e w8 ⟨x,E3,t3,rfl,n3,h⟩
    exact ⟨x,rfl,E3,t3,n3,h⟩
  case refine_8=>
    rintro x w8 ⟨E3,t3,_,_,h2⟩
    have h:=h2.has (g:=pb) (c:=#[.int .u64 (S:Int),.int .u64 (F:Int),.int .u64 0,.slice none 0 0]) (t:=28) R6.out.2.2.2.1 (by have:=R3.out.2.2.2.1;have:=HR.out.2.2.1;omega)
    exact ⟨⟨_,h.cell 2⟩,h.frozen 2⟩
  case refine_9=>
    rintro x w8 ⟨E3,t3,n3,h⟩
    exact ⟨w8,E3,t3,n3,h,rfl⟩
  rintro X w9 ⟨wy,E3,t3,n3,⟨r8,t8⟩,rfl⟩
  have H8:Has wy pb #[.int .u64 (S:Int),.int .u64 (F:Int),.int .u64 0,.slice none 0 0] 28:=t8.has (g:=pb) R6.out.2.2.2.1 (by have:=R3.out.2.2.2.1;have:=HR.out.2.2.1;omega)
  have R9:Aside (RD20 wS (wy.setCell ⟨pb,2,none⟩ (.int .u64 ((F+X:Nat):Int))) rb E3 t3∧STAY w (wy.setCell ⟨pb,2,none⟩ (.int .u64 ((F+X:Nat):Int))) rb∧Has (wy.setCell ⟨pb,2,none⟩ (.int .u64 ((F+X:Nat):Int))) w.heap.size ZREACH 28∧Has (wy.setCell ⟨pb,2,none⟩ (.int .u64 ((F+X:Nat):Int))) pb #[.int .u64 (S:Int),.int .u64 (F:Int),.int .u64 ((F+X:Nat):Int),.slice none 0 0] 28∧z1K E2 t2 (S - F) 32 X E3 t3):=by
    have hne:rb≠pb:=by have:=R3.out.2.2.2.1;have:=HR.out.2.2.1;omega
    have hsz:=R3.out.2.2.2.1
    have t7:STAY w w7.drew rb:=R6.out.2.1.trans (STAY.of (Below.refl _ _).drew (Nat.le_of_lt R6.out.1.lt))
    refine ⟨r8.other (STAY.set wy pb 2 _) hne (by have:=HR.out.2.2.2.1;have:=HR.out.2.2.1;omega),(t7.trans t8).high (by omega) (by have:=HR.out.2.2.1;omega),(t8.has (g:=w.heap.size) (c:=ZREACH) (t:=28) R6.out.2.2.1 (by have:=HR.out.2.2.1;omega)).other (by show w.heap.size≠pb;omega) _,H8.set 2 _,n3⟩
  clear n3 r8 t8 H8
  obtain ⟨T,hT⟩:∃ T,F+X=T:=⟨_,rfl⟩
  rw [hT] at R9 ⊢
  generalize wy.setCell ⟨pb,2,none⟩ (.int .u64 (T:Int))=w9 at *
  have TT:Aside (F+X=T∧T≤S):=⟨hT,by have:=R9.out.2.2.2.2.1;have:=BB.out.2;omega⟩
  clear hT b1 b2
  have x0:w9.cell? ⟨pb,0,none⟩=some (.int .u64 (S:Int)):=R9.out.2.2.2.1.cell 0
  have x1:w9.cell? ⟨pb,1,none⟩=some (.int .u64 (F:Int)):=R9.out.2.2.2.1.cell 1
  have x2:w9.cell? ⟨pb,2,none⟩=some (.int .u64 (T:Int)):=R9.out.2.2.2.1.cell 2
  have cn:Calls Tryz.prog 102 #[.pointer (some ⟨rb,0,none⟩),.int .u64 (F:Int),.int .u64 (T:Int),.int .u64 (S:Int)] w9 (z3U wS w9 rb E3 t3 (SPP F T S).length):=by
    by_cases hE:E3=0
    · subst hE
      have hb:=R9.out.1.bel
      exact zcb R9.out.1 F T S BB.out.1 (by have:=TT.out.1;omega) TT.out.2 (HT.out _ hb).1 (HT.out _ hb).2
    · exact z96 R9.out.1 hE F T S _
  dsimp only
  go_wp2_with fail
  refine cn.mono ?_
  rintro e w10 ⟨a,K,c,E4,ll,t4,rfl,n4,hown,r10,t10⟩
  have hdec:=zcc R4.out.2.2.2.2 R6.out.2.2.2.2 R9.out.2.2.2.2 (by rw [TT.out.1];exact n4)
  rw [TT.out.1] at hdec
  have H10:Has w10 pb #[.int .u64 (S:Int),.int .u64 (F:Int),.int .u64 (T:Int),.slice none 0 0] 28:=t10.has R9.out.2.2.2.1 (by have:=R3.out.2.2.2.1;have:=HR.out.2.2.1;omega)
  have hpw9:pb<w9.heap.size:=R9.out.2.2.2.1.lt
  have R10:Aside (RD20 wS (w10.setCell ⟨pb,3,none⟩ (.slice a K c)) rb E4 t4∧STAY w (w10.setCell ⟨pb,3,none⟩ (.slice a K c)) rb∧Has (w10.setCell ⟨pb,3,none⟩ (.slice a K c)) w.heap.size ZREACH 28∧Has (w10.setCell ⟨pb,3,none⟩ (.slice a K c)) pb #[.int .u64 (S:Int),.int .u64 (F:Int),.int .u64 (T:Int),.slice a K c] 28∧(w10.setCell ⟨pb,3,none⟩ (.slice a K c)).ownsRow w9.heap.size 23 32 (.slice a K c) K (z00 ll)∧(E4≠0→SDEC l=SERR E4)∧(E4=0→SDEC l=(0,S,F,T,K,ll))∧pb<w9.heap.size):=by
    have hne:rb≠pb:=by have:=R3.out.2.2.2.1;have:=HR.out.2.2.1;omega
    have hsz:=R3.out.2.2.2.1
    refine ⟨r10.other (STAY.set w10 pb 3 _) hne (by have:=HR.out.2.2.2.1;have:=HR.out.2.2.1;omega),(R9.out.2.1.trans t10).high (by omega) (by have:=HR.out.2.2.1;omega),(t10.has R9.out.2.2.1 (by have:=HR.out.2.2.1;omega)).other (by show w.heap.size≠pb;omega) _,H10.set 3 _,ownsRow_setCell_below hown (a:=⟨pb,3,none⟩) hpw9 _,hdec.1,hdec.2,hpw9⟩
  have x3:w10.cell? ⟨pb,3,none⟩=some (.slice none 0 0):=H10.cell 3
  have z3:w10.frozen? ⟨pb,3,none⟩=false:=H10.frozen 3
  clear cn n4 hown r10 t10 hdec H10 hpw9 x0 x1 x2
  go_upto_region 7 with fail
  generalize w10.setCell ⟨pb,3,none⟩ (.slice a K c)=w11 at *
  clear x3 z3
  have FN:Aside (∀ e,e=.returned (.agg #[.int .u64 (S:Int),.int .u64 (F:Int),.int .u64 (T:Int),.slice a K c])→SPRD wS w rb l e (w11.setRow w.heap.size #[.int .u64 (S:Int),.int .u64 (F:Int),.int .u64 (T:Int),.slice a K c])):=by
    rintro e rfl
    have hsz:=R3.out.2.2.2.1
    have hrw:=HR.out.2.2.1
    have hS:=HR.out.2.2.2.1
    refine ⟨S,F,T,K,c,a,E4,ll,t4,rfl,R10.out.2.2.2.2.2.1,R10.out.2.2.2.2.2.2.1,?_,?_,?_⟩
    · exact z0f (z4q R10.out.2.2.2.2.1 fun k e=>setRow_other _ _ _ _ (by have h1:=(R10.out.2.2.2.2.1.lt k e).1;have:=R10.out.2.2.2.2.2.2.2;omega)) (by have:=R10.out.2.2.2.2.2.2.2;omega)
    · obtain ⟨ra,rc,q1,q2⟩:=R10.out.1.rd
      exact ⟨⟨ra,rc,(setRow_other _ _ _ _ (by omega)).trans q1,q2⟩,z04 R10.out.1.bel (by omega) _,R10.out.1.lb⟩
    · exact ⟨fun k hk hne=>(setRow_other _ _ _ _ (by omega)).trans (R10.out.2.1.kp k hk hne),z04 R10.out.2.1.bl (by omega) _⟩
  have WW:Aside (Has w11 pb #[.int .u64 (S:Int),.int .u64 (F:Int),.int .u64 (T:Int),.slice a K c] 28∧Has w11 w.heap.size ZREACH 28):=⟨R10.out.2.2.2.1,R10.out.2.2.1⟩
  have infoM:(Tryz.prog.info? 28).map (·.size)=some (#[Value.int .u64 (S:Int),.int .u64 (F:Int),.int .u64 (T:Int),.slice a K c]:Array Value).size:=z1m
  have sizeM:ZREACH.size=(#[Value.int .u64 (S:Int),.int .u64 (F:Int),.int .u64 (T:Int),.slice a K c]:Array Value).size:=rfl
  have allM:(#[Value.int .u64 (S:Int),.int .u64 (F:Int),.int .u64 (T:Int),.slice a K c]:Array Value).all (·.oneCell')=true:=by simp [Value.oneCell']
  have MM:Aside ((Tryz.prog.info? 28).map (·.size)=some (#[Value.int .u64 (S:Int),.int .u64 (F:Int),.int .u64 (T:Int),.slice a K c]:Array Value).size∧ZREACH.size=(#[Value.int .u64 (S:Int),.int .u64 (F:Int),.int .u64 (T:Int),.slice a K c]:Array Value).size∧(#[Value.int .u64 (S:Int),.int .u64 (F:Int),.int .u64 (T:Int),.slice a K c]:Array Value).all (·.oneCell')=true):=⟨infoM,sizeM,allM⟩
  clear R3 R4 R6 R9 R10 HR HT PB BB TT infoM sizeM allM
  go_wp2_with (first
    | (refine wpList_load_row rfl 28 (.tmp 3) rfl pb rfl 28 #[.int .u64 (S:Int),.int .u64 (F:Int),.int .u64 (T:Int),.slice a K c] (0,0) _ WW.out.1 Tryz.underlying28 rfl MM.out.1 ?_)
    | (refine wpList_store_row rfl 28 (.tmp 2) (.tmp 34) rfl _ _ rfl rfl 28 ZREACH WW.out.2 MM.out.1 MM.out.2.1 MM.out.2.2 ?_))
  refine bodyPost_ret (v:=.agg #[.int .u64 (S:Int),.int .u64 (F:Int),.int .u64 (T:Int),.slice a K c]) ?_ rfl (FN.out _ rfl)
  exact results_cell_row rfl _ _ w.heap.size 28 _ (0,0) _ rfl (WW.out.2.row _) Tryz.underlying28 rfl MM.out.1
end Go.Proofs.YthdpkaiieomdoaaGreatDoor
