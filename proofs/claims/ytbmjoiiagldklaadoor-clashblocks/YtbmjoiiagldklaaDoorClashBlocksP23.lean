/- Texts of ClashBlocks, one behind the other: ProofHashes, ProofReaders, ProofLong, ProofDecodePlain, ProofInTurn, ProofSteps, ProofDecodeSteps. -/
import Derived.Deep.RegionLaw
import Derived.Laws.CopyOwn
import Derived.Test.YtbmjoiiagldklaaDoorClashBlocksP22
namespace Go.Proofs.YtbmjoiiagldklaaDoor
open Go.RowKit
set_option maxRecDepth 100000
theorem zco (rb f N n c:Nat) (a:Option Addr) (hN:N≤1000) (hn:n<32*N) (w:World) (h0:w.cell? ⟨rb,0,none⟩=some (.slice a n c)):
    Calls Tryd.prog 82 #[.pointer (some ⟨rb,0,none⟩),.pointer (some ⟨rb,f,none⟩),.int .i64 (N:Int)] w fun e w'=>e=.returned (.int .i64 11)∧w=w':=by
  have e1:wrap64 ((N:Int)*32)=(N:Int)*32:=by unfold wrap64;omega
  have h1:(n:Int)<(N:Int)*32:=by omega
  clear hN hn
  go_enter Tryd.func82,Tryd.ntmps82
  go_wp2
  go_ret
  exact ⟨rfl,rfl⟩
theorem zaq (rb f N n c:Nat) (a:Option Addr) (hN:N≤1000) (hn:32*N<n) (w:World) (h0:w.cell? ⟨rb,0,none⟩=some (.slice a n c)):
    Calls Tryd.prog 82 #[.pointer (some ⟨rb,0,none⟩),.pointer (some ⟨rb,f,none⟩),.int .i64 (N:Int)] w fun e w'=>e=.returned (.int .i64 13)∧w=w':=by
  have e1:wrap64 ((N:Int)*32)=(N:Int)*32:=by unfold wrap64;omega
  have h1:¬ (n:Int)<(N:Int)*32:=by omega
  have h2:(N:Int)*32<(n:Int):=by omega
  clear hN hn
  go_enter Tryd.func82,Tryd.ntmps82
  go_wp2
  go_ret
  exact ⟨rfl,rfl⟩
def ziI (w:World) (rb f N:Nat) (l:List Int) (w':World):Prop:=∃ wx,Below w.heap.size w wx∧w.heap.size<wx.heap.size∧Has wx w.heap.size (z00 l).toArray 26∧w'=wx.setCell ⟨rb,f,none⟩ (.slice (some ⟨w.heap.size,0,none⟩) N N)
set_option maxHeartbeats 4000000 in
theorem zdT (rb f N c:Nat) (a:Option Addr) (hN:N≤1000) (l:List Int) (w:World) (hB:Bytes w a (32*N) l) (hc:32*N≤c) (hrb:rb<w.heap.size) (h0:w.cell? ⟨rb,0,none⟩=some (.slice a (32*N) c)) (x1:Value) (h1:w.cell? ⟨rb,f,none⟩=some x1) (z1:w.frozen? ⟨rb,f,none⟩=false):
    Calls Tryd.prog 82 #[.pointer (some ⟨rb,0,none⟩),.pointer (some ⟨rb,f,none⟩),.int .i64 (N:Int)] w fun e w'=>e=.returned (.int .i64 0)∧ziI w rb f N l w':=by
  have e1:wrap64 ((N:Int)*32)=(N:Int)*32:=by unfold wrap64;omega
  have k1:¬ ((32*N:Nat):Int)<(N:Int)*32:=by omega
  have k2:¬ (N:Int)*32<((32*N:Nat):Int):=by omega
  obtain ⟨M,hM⟩:∃ M,32*N=M:=⟨_,rfl⟩
  rw [hM] at h0 k1 k2 hB hc
  obtain ⟨Z,hZ,hmk⟩:=zap N hN w
  have HA:Aside (l.length=32*N∧Z.length=32*N∧N≤1000∧32*N=M∧M≤c∧Bytes w a M l∧rb<w.heap.size∧w.cell? ⟨rb,0,none⟩=some (.slice a M c)∧w.cell? ⟨rb,f,none⟩=some x1∧w.frozen? ⟨rb,f,none⟩=false):=⟨by rw [hM];exact hB.1,hZ,hN,hM,hc,hB,hrb,h0,h1,z1⟩
  clear hN hZ hB hc hM hrb h1 z1
  go_enter Tryd.func82,Tryd.ntmps82
  go_wp2
  clear e1 hmk h0
  go_loopg [30] N (fun q s30 wx=>∃ i:Nat,s30=.int .i64 (i:Int)∧Aside (i+q=N∧Below w.heap.size w wx∧w.heap.size<wx.heap.size∧Has wx w.heap.size (z1h l Z i).toArray 26))
  case atStart=>exact ⟨0,rfl,by omega,(Below.refl _ _).alloc (Nat.le_refl _) _,by simp,by rw [zcm];exact Has.new _ _ _⟩
  case round=>
    obtain ⟨i,rfl,A⟩:=hrel
    obtain ⟨hi,hbel,hsz,hhas⟩:=A.out
    obtain ⟨a1,a2,a3,a4,a5,a6,a7,a8,a9,a10⟩:=HA.out
    cases gk with
    | zero=>
      obtain rfl:i=N:=by omega
      have hlt:¬ (i:Int)<(i:Int):=by omega
      have y1:wr.cell? ⟨rb,f,none⟩=some x1:=(hbel.cell (p:=⟨rb,f,none⟩) a7).trans a9
      have y2:wr.frozen? ⟨rb,f,none⟩=false:=(hbel.frozen (p:=⟨rb,f,none⟩) a7).trans a10
      have R:Aside (Below w.heap.size w wr∧w.heap.size<wr.heap.size∧Has wr w.heap.size (z00 l).toArray 26):=by
        rw [zdS a1 a2] at hhas
        exact ⟨hbel,hsz,hhas⟩
      clear hi hbel hsz hhas a1 a2 a3 a4 a5 a6 a7 a8 a9 a10 A HA
      go_wp2
      go_ret
      exact ⟨rfl,wr,R.out.1,R.out.2.1,R.out.2.2,rfl⟩
    | succ q=>
      have hlt:(i:Int)<(N:Int):=by omega
      obtain ⟨b,o,rfl,hbl,hcs⟩:=a6.2.1 (by omega)
      have y0:wr.cell? ⟨rb,0,none⟩=some (.slice (some ⟨b,o,none⟩) M c):=(hbel.cell (p:=⟨rb,0,none⟩) a7).trans a8
      obtain ⟨I,hI⟩:∃ I,i*32=I:=⟨_,rfl⟩
      have m2:(I:Int)≤(M:Int):=by omega
      have m3:(M:Int)≤(c:Int):=by omega
      have m4:¬ c=I:=by omega
      have h32:(z00 (HSH l i)).length=32:=by
        rw [z00,List.length_map]
        exact z13 a1 (by omega)
      have hsrc:∀ j v,(z00 (HSH l i))[j]?=some v→wr.cell? ((⟨b,o+I,none⟩:Addr).add j)=some v:=by
        intro j v hv
        have hj:j<32:=by
          have:=(List.getElem?_eq_some_iff.1 hv).1
          omega
        rw [z0Q _ _ (by rw [z13 a1 (by omega)];exact hj),zdj hj] at hv
        rw [z1C,show o+I+j=o+(32*i+j) by omega]
        exact ((hbel.cell (p:=⟨b,o+(32*i+j),none⟩) hbl).trans (hcs (32*i+j) (by omega))).trans hv
      have hpl:=z9w a1 a2 (show i≤N by omega)
      have hnx:=zcn Z a1 (show i<N by omega)
      have hone:=z1D (HSH l i)
      have R:Aside (i+1+q=N∧Below w.heap.size w wr∧w.heap.size<wr.heap.size∧Has wr w.heap.size (z1h l Z i).toArray 26∧splice (z1h l Z i) (i*32) (z00 (HSH l i))=z1h l Z (i+1)):=⟨by omega,hbel,hsz,hhas,hnx⟩
      have S:Aside ((z00 (HSH l i)).length=Nat.min (M - I) 32∧i*32+(z00 (HSH l i)).length≤(z1h l Z i).length):=⟨by rw [h32];exact (Nat.min_eq_right (show 32≤M - I by omega)).symm,by omega⟩
      have E2:Aside (wrap64 ((i:Int)*32)=(I:Int)):=by show wrap64 ((i:Int)*32)=(I:Int);unfold wrap64;omega
      have E3:Aside (IntKind.i64.wrap ((i:Int)*32)=(I:Int)):=by show IntKind.i64.wrap ((i:Int)*32)=(I:Int);rw [IntKind.wrap_i64];omega
      have E1:Aside (wrap64 ((i:Int)+1)=((i+1:Nat):Int)):=by show wrap64 ((i:Int)+1)=((i+1:Nat):Int);unfold wrap64;omega
      clear hi hbel hsz hhas a1 a2 a3 a4 a5 a6 a7 a8 a9 a10 A HA hbl hcs hpl hnx hI
      generalize z00 (HSH l i)=H at *
      have hu8:(Tryd.prog.info? 5).map (·.size)=some 1:=by kernel_rfl
      have m1:=E2.out
      have m5:=E3.out
      go_wp2
      go_region_law (refine step_copy_splice rfl (.tmp 36) (.tmp 43) 30 30 rfl 5 Tryd.underlying30 hu8 (some ⟨w.heap.size,i*32,none⟩) (some ⟨b,o+I,none⟩) 32 32 (M - I) (c - I) (by simp [Act.eval,Act.put]) (by simp [Act.eval,Act.put]) w.heap.size (i*32) (z1h l Z i) 26 (by exact R.out.2.2.2.1) H S.out.1 (fun _=>⟨rfl,_,rfl,hsrc⟩) S.out.2 hone w.heap.size w (by exact R.out.2.1.drew) (Nat.le_refl _) ?_;intro w4 hg4 hb4)
      have R2:Aside (i+1+q=N∧Below w.heap.size w w4∧w.heap.size<w4.heap.size∧Has w4 w.heap.size (z1h l Z (i+1)).toArray 26):=by
        obtain ⟨r1,r2,r3,r4,r5⟩:=R.out
        have hg5:w4.heap[w.heap.size]?=some (.cells (splice (z1h l Z i) (i*32) H).toArray 26 (0,0)):=hg4
        rw [r5] at hg5
        exact ⟨r1,hb4,(Array.getElem?_eq_some_iff.1 hg5).1,hg5⟩
      clear R S hg4 hb4 hsrc hone h32 m1 m5 y0
      have e1:=E1.out
      go_wp2
      go_roundg q
      case measure=>exact Nat.lt_succ_self _
      case rel=>exact ⟨i+1,by first | rfl | (rw [E1.out]),R2.out⟩
end Go.Proofs.YtbmjoiiagldklaaDoor

namespace Go.Proofs.YtbmjoiiagldklaaDoor
open Go.RowKit
set_option maxRecDepth 100000
theorem z6r (rb:Nat) (w:World) (E:Int) (D:World→Prop) (c:Calls Tryd.prog 80 #[.pointer (some ⟨rb,0,none⟩),.int .u8 77] w fun e w'=>e=.returned (.int .i64 E)∧D w'):
    Calls Tryd.prog 56 #[.pointer (some ⟨rb,0,none⟩)] w fun e w'=>e=.returned (.int .i64 E)∧D w':=by
  go_enter Tryd.func56,Tryd.ntmps56
  go_wp2_with fail
  refine c.mono ?_
  rintro e w' ⟨rfl,h⟩
  clear c
  go_wp2
  go_ret
  exact ⟨rfl,h⟩
theorem z8j (rb:Nat) (w:World) (E:Int) (D:World→Prop) (c:Calls Tryd.prog 81 #[.pointer (some ⟨rb,0,none⟩),.pointer (some ⟨rb,2,none⟩)] w.drew fun e w'=>e=.returned (.int .i64 E)∧D w'):
    Calls Tryd.prog 58 #[.pointer (some ⟨rb,0,none⟩)] w fun e w'=>e=.returned (.int .i64 E)∧D w':=by
  go_enter Tryd.func58,Tryd.ntmps58
  go_wp2
  go_region_with ((go_at_call 81;refine c.mono ?_;rintro e w' ⟨rfl,h⟩))
  all_goals go_wp2
  all_goals go_ret
  all_goals exact ⟨rfl,h⟩
theorem zdU (rb:Nat) (w:World) (E:Int) (hE:¬ E=0) (D:World→Prop) (c:Calls Tryd.prog 81 #[.pointer (some ⟨rb,0,none⟩),.pointer (some ⟨rb,1,none⟩)] w.drew fun e w'=>e=.returned (.int .i64 E)∧D w'):
    Calls Tryd.prog 57 #[.pointer (some ⟨rb,0,none⟩)] w fun e w'=>e=.returned (.int .i64 E)∧D w':=by
  have hE':(E == 0)=false:=by simp [hE]
  go_enter Tryd.func57,Tryd.ntmps57
  go_wp2
  go_region_with ((go_at_call 81;refine c.mono ?_;rintro e w' ⟨rfl,h⟩))
  all_goals go_wp2
  all_goals go_ret
  all_goals exact ⟨rfl,h⟩
theorem zdV (rb:Nat) (w:World) (X:Int) (hX:4611686018427387904<X) (D:World→Prop) (c:Calls Tryd.prog 81 #[.pointer (some ⟨rb,0,none⟩),.pointer (some ⟨rb,1,none⟩)] w.drew fun e w'=>e=.returned (.int .i64 0)∧w'.cell? ⟨rb,1,none⟩=some (.int .u64 X)∧D w'):
    Calls Tryd.prog 57 #[.pointer (some ⟨rb,0,none⟩)] w fun e w'=>e=.returned (.int .i64 30)∧D w':=by
  go_enter Tryd.func57,Tryd.ntmps57
  go_wp2
  go_region_with ((go_at_call 81;refine c.mono ?_;rintro e w' ⟨rfl,hc,h⟩))
  all_goals go_wp2
  all_goals go_ret
  all_goals exact ⟨rfl,h⟩
theorem zfq (rb:Nat) (w:World) (X:Int) (hX:¬ 4611686018427387904<X) (D:World→Prop) (c:Calls Tryd.prog 81 #[.pointer (some ⟨rb,0,none⟩),.pointer (some ⟨rb,1,none⟩)] w.drew fun e w'=>e=.returned (.int .i64 0)∧w'.cell? ⟨rb,1,none⟩=some (.int .u64 X)∧D w'):
    Calls Tryd.prog 57 #[.pointer (some ⟨rb,0,none⟩)] w fun e w'=>e=.returned (.int .i64 0)∧D w':=by
  go_enter Tryd.func57,Tryd.ntmps57
  go_wp2
  go_region_with ((go_at_call 81;refine c.mono ?_;rintro e w' ⟨rfl,hc,h⟩))
  all_goals go_wp2
  all_goals go_ret
  all_goals exact ⟨rfl,h⟩
set_option maxHeartbeats 4000000 in
theorem zcp (rb:Nat) (w:World) (X Y E:Int) (hE:¬ E=0) (D:World→Prop) (h1:w.cell? ⟨rb,1,none⟩=some (.int .u64 X)) (h2:w.cell? ⟨rb,2,none⟩=some (.int .u64 Y))
    (c:Calls Tryd.prog 60 #[.int .u64 Y,.int .u64 X] w.drew fun e w'=>∃ v,e=.returned (.tuple #[v,.int .i64 E])∧D w'):
    Calls Tryd.prog 59 #[.pointer (some ⟨rb,0,none⟩)] w fun e w'=>e=.returned (.int .i64 E)∧D w':=by
  have hE':(E != 0)=true:=by simp [hE]
  have d1:w.drew.cell? ⟨rb,1,none⟩=some (.int .u64 X):=h1
  have d2:w.drew.cell? ⟨rb,2,none⟩=some (.int .u64 Y):=h2
  go_enter Tryd.func59,Tryd.ntmps59
  go_wp2
  go_region_with ((go_at_call 60;refine c.mono ?_;rintro e w' ⟨v,rfl,h⟩))
  all_goals go_wp2
  all_goals go_ret
  all_goals exact ⟨rfl,h⟩
set_option maxHeartbeats 4000000 in
theorem z5u (rb:Nat) (w:World) (X Y E:Int) (N:Nat) (D:World→Prop) (h1:w.cell? ⟨rb,1,none⟩=some (.int .u64 X)) (h2:w.cell? ⟨rb,2,none⟩=some (.int .u64 Y))
    (c:Calls Tryd.prog 60 #[.int .u64 Y,.int .u64 X] w.drew fun e w'=>∃ a cap,e=.returned (.tuple #[.slice a N cap,.int .i64 0])∧Calls Tryd.prog 82 #[.pointer (some ⟨rb,0,none⟩),.pointer (some ⟨rb,3,none⟩),.int .i64 (N:Int)] w'.drew fun e w2=>e=.returned (.int .i64 E)∧D w2):
    Calls Tryd.prog 59 #[.pointer (some ⟨rb,0,none⟩)] w fun e w'=>e=.returned (.int .i64 E)∧D w':=by
  have d1:w.drew.cell? ⟨rb,1,none⟩=some (.int .u64 X):=h1
  have d2:w.drew.cell? ⟨rb,2,none⟩=some (.int .u64 Y):=h2
  go_enter Tryd.func59,Tryd.ntmps59
  go_wp2
  go_region_with ((go_at_call 60;refine c.mono ?_;rintro e w' ⟨a,cap,rfl,h⟩))
  all_goals go_wp2
  all_goals go_region_with ((go_at_call 82;refine h.mono ?_;rintro e w2 ⟨rfl,h⟩))
  all_goals go_wp2
  all_goals go_ret
  all_goals exact ⟨rfl,h⟩
end Go.Proofs.YtbmjoiiagldklaaDoor

namespace Go.Proofs.YtbmjoiiagldklaaDoor
open Go.RowKit
def LNG (t:List Int):Int × Int × Int:=LG t t.length 10 0 0
theorem z54 {t:List Int} (hr:∀ x∈t,0≤x∧x≤255) (h:(LNG t).2.2=0):∃ Z m:Nat,Z<2 ^ 64∧1≤m∧m≤t.length∧LNG t=((Z:Int),(m:Int),0)∧z0J Z=t.take m:=by
  have hr':∀ i,0≤t.getD i 0∧t.getD i 0≤255:=fun i=>by
    by_cases hi:i<t.length
    · rw [List.getD_eq_getElem?_getD,List.getElem?_eq_getElem hi]
      exact hr _ (List.getElem_mem hi)
    · rw [List.getD_eq_getElem?_getD,List.getElem?_eq_none (by omega)]
      simp
  obtain ⟨Z,m,h1,h2,h3,h4,h5,h6⟩:=zgh (l:=t) rfl hr' h
  exact ⟨Z,m+1,h1,by omega,by omega,by unfold LNG;rw [h4];simp,h6⟩
theorem z8k {X:Nat} (hX:X<2 ^ 64) (more:List Int):LNG (z0J X ++ more)=((X:Int),((NTOP X+1:Nat):Int),0):=by
  unfold LNG
  rw [zfp hX more _ (by rw [List.length_append,z1l])]
  simp
end Go.Proofs.YtbmjoiiagldklaaDoor

namespace Go.Proofs.YtbmjoiiagldklaaDoor
open Go.RowKit
abbrev DANS:=Int × Nat × Nat × Nat × List Int
def DERR (E:Int):DANS:=(E,0,0,0,[])
def DC3 (PF:Nat→Nat→Int × List Nat) (X Y:Nat) (t:List Int):DANS:=
  if (PF X Y).1≠0 then DERR (PF X Y).1 else if t.length<32*(PF X Y).2.length then DERR 11 else if 32*(PF X Y).2.length<t.length then DERR 13 else (0,X,Y,(PF X Y).2.length,t)
def DC2 (PF:Nat→Nat→Int × List Nat) (X:Nat) (t:List Int):DANS:=
  if (LNG t).2.2≠0 then DERR (LNG t).2.2 else DC3 PF X (LNG t).1.toNat (t.drop (LNG t).2.1.toNat)
def DC1 (chk:Nat→Bool) (PF:Nat→Nat→Int × List Nat) (t:List Int):DANS:=
  if (LNG t).2.2≠0 then DERR (LNG t).2.2 else if chk (LNG t).1.toNat=true then DERR 30 else DC2 PF (LNG t).1.toNat (t.drop (LNG t).2.1.toNat)
def DC0 (K:Int) (chk:Nat→Bool) (PF:Nat→Nat→Int × List Nat) (l:List Int):DANS:=
  if l.length=0 then DERR 11 else if l.getD 0 0≠K then DERR 14 else DC1 chk PF (l.drop 1)
def z1F (n:Nat):Bool:=decide (4611686018427387904<n)
def DEC (l:List Int):DANS:=DC0 77 z1F (fun S I=>PLA I S) l
def DEX (l:List Int):DANS:=DC0 80 (fun _=>false) PPA l
end Go.Proofs.YtbmjoiiagldklaaDoor

namespace Go.Proofs.YtbmjoiiagldklaaDoor
open Go.RowKit
set_option maxRecDepth 100000
def STP (P:World→Prop) (Fin:Int→World→Prop) (e:Ending) (w':World):Prop:=∃ E:Int,e=.returned (.int .i64 E)∧(E=0→P w')∧(E≠0→Fin E w')
set_option maxHeartbeats 2000000 in
theorem z71 (rb gl:Nat) (PP:Nat→World→Prop) (Fin:Int→World→Prop)
    (hc0:∀ W,PP 0 W→W.cell? ⟨gl,0,none⟩=some (.func (.func 56) #[.pointer (some ⟨rb,0,none⟩)] #[]))
    (hc1:∀ W,PP 1 W→W.cell? ⟨gl,1,none⟩=some (.func (.func 57) #[.pointer (some ⟨rb,0,none⟩)] #[]))
    (hc2:∀ W,PP 2 W→W.cell? ⟨gl,2,none⟩=some (.func (.func 58) #[.pointer (some ⟨rb,0,none⟩)] #[]))
    (hc3:∀ W,PP 3 W→W.cell? ⟨gl,3,none⟩=some (.func (.func 59) #[.pointer (some ⟨rb,0,none⟩)] #[]))
    (hd0:∀ W,PP 0 W→Calls Tryd.prog 56 #[.pointer (some ⟨rb,0,none⟩)] W (STP (PP 1) Fin))
    (hd1:∀ W,PP 1 W→Calls Tryd.prog 57 #[.pointer (some ⟨rb,0,none⟩)] W (STP (PP 2) Fin))
    (hd2:∀ W,PP 2 W→Calls Tryd.prog 58 #[.pointer (some ⟨rb,0,none⟩)] W (STP (PP 3) Fin))
    (hd3:∀ W,PP 3 W→Calls Tryd.prog 59 #[.pointer (some ⟨rb,0,none⟩)] W (STP (PP 4) Fin))
    (w:World) (h:PP 0 w):Calls Tryd.prog 55 #[.slice (some ⟨gl,0,none⟩) 4 4] w (STP (PP 4) Fin):=by
  have C0:Aside (∀ W,PP 0 W→W.cell? ⟨gl,0,none⟩=some (.func (.func 56) #[.pointer (some ⟨rb,0,none⟩)] #[])):=hc0
  have D0:Aside (∀ W,PP 0 W→Calls Tryd.prog 56 #[.pointer (some ⟨rb,0,none⟩)] W (STP (PP 1) Fin)):=hd0
  have C1:Aside (∀ W,PP 1 W→W.cell? ⟨gl,1,none⟩=some (.func (.func 57) #[.pointer (some ⟨rb,0,none⟩)] #[])):=hc1
  have D1:Aside (∀ W,PP 1 W→Calls Tryd.prog 57 #[.pointer (some ⟨rb,0,none⟩)] W (STP (PP 2) Fin)):=hd1
  have C2:Aside (∀ W,PP 2 W→W.cell? ⟨gl,2,none⟩=some (.func (.func 58) #[.pointer (some ⟨rb,0,none⟩)] #[])):=hc2
  have D2:Aside (∀ W,PP 2 W→Calls Tryd.prog 58 #[.pointer (some ⟨rb,0,none⟩)] W (STP (PP 3) Fin)):=hd2
  have C3:Aside (∀ W,PP 3 W→W.cell? ⟨gl,3,none⟩=some (.func (.func 59) #[.pointer (some ⟨rb,0,none⟩)] #[])):=hc3
  have D3:Aside (∀ W,PP 3 W→Calls Tryd.prog 59 #[.pointer (some ⟨rb,0,none⟩)] W (STP (PP 4) Fin)):=hd3
  have H0:Aside (PP 0 w):=h
  clear hc0 hc1 hc2 hc3 hd0 hd1 hd2 hd3 h
  go_enter Tryd.func55,Tryd.ntmps55
  go_wp2
  go_loopg [8] 4 (fun q s8 wx=>∃ k:Nat,s8=.int .i64 (k:Int)∧Aside (k+q=4∧PP k wx))
  case atStart=>exact ⟨0,rfl,by omega,H0.out⟩
  case round=>
    obtain ⟨k,rfl,A⟩:=hrel
    cases gk with
    | zero=>
      obtain rfl:k=4:=by have:=A.out.1;omega
      have R:Aside (PP 4 wr):=A.out.2
      clear A C0 C1 C2 C3 D0 D1 D2 D3 H0
      go_wp2
      go_ret
      exact ⟨0,rfl,fun _=>R.out,fun h=>absurd rfl h⟩
    | succ q=>
      have hk:k=0∨k=1∨k=2∨k=3:=by have:=A.out.1;omega
      rcases hk with rfl | rfl | rfl | rfl
      · have hc:=C0.out wr A.out.2
        have hd:=D0.out wr A.out.2
        have R:Aside (0+1+q=4):=by have:=A.out.1;show 0+1+q=4;omega
        clear A C0 C1 C2 C3 D0 D1 D2 D3 H0
        go_wp2_with fail
        refine hd.mono ?_
        rintro e w1 ⟨E,rfl,h1,h2⟩
        clear hd hc
        by_cases hE:E=0
        · subst hE
          have S:Aside (PP (0+1) w1):=h1 rfl
          clear h1 h2
          go_wp2
          go_roundg q
          case measure=>exact Nat.lt_succ_self _
          case rel=>exact ⟨0+1,rfl,R.out,S.out⟩
        · have hE':(E != 0)=true:=by simp [hE]
          have S:Aside (¬ E=0∧Fin E w1):=⟨hE,h2 hE⟩
          clear h1 h2 hE
          go_wp2
          go_ret
          exact ⟨E,rfl,fun h=>absurd h S.out.1,fun _=>S.out.2⟩
      · have hc:=C1.out wr A.out.2
        have hd:=D1.out wr A.out.2
        have R:Aside (1+1+q=4):=by have:=A.out.1;show 1+1+q=4;omega
        clear A C0 C1 C2 C3 D0 D1 D2 D3 H0
        go_wp2_with fail
        refine hd.mono ?_
        rintro e w1 ⟨E,rfl,h1,h2⟩
        clear hd hc
        by_cases hE:E=0
        · subst hE
          have S:Aside (PP (1+1) w1):=h1 rfl
          clear h1 h2
          go_wp2
          go_roundg q
          case measure=>exact Nat.lt_succ_self _
          case rel=>exact ⟨1+1,rfl,R.out,S.out⟩
        · have hE':(E != 0)=true:=by simp [hE]
          have S:Aside (¬ E=0∧Fin E w1):=⟨hE,h2 hE⟩
          clear h1 h2 hE
          go_wp2
          go_ret
          exact ⟨E,rfl,fun h=>absurd h S.out.1,fun _=>S.out.2⟩
      · have hc:=C2.out wr A.out.2
        have hd:=D2.out wr A.out.2
        have R:Aside (2+1+q=4):=by have:=A.out.1;show 2+1+q=4;omega
        clear A C0 C1 C2 C3 D0 D1 D2 D3 H0
        go_wp2_with fail
        refine hd.mono ?_
        rintro e w1 ⟨E,rfl,h1,h2⟩
        clear hd hc
        by_cases hE:E=0
        · subst hE
          have S:Aside (PP (2+1) w1):=h1 rfl
          clear h1 h2
          go_wp2
          go_roundg q
          case measure=>exact Nat.lt_succ_self _
          case rel=>exact ⟨2+1,rfl,R.out,S.out⟩
        · have hE':(E != 0)=true:=by simp [hE]
          have S:Aside (¬ E=0∧Fin E w1):=⟨hE,h2 hE⟩
          clear h1 h2 hE
          go_wp2
          go_ret
          exact ⟨E,rfl,fun h=>absurd h S.out.1,fun _=>S.out.2⟩
      · have hc:=C3.out wr A.out.2
        have hd:=D3.out wr A.out.2
        have R:Aside (3+1+q=4):=by have:=A.out.1;show 3+1+q=4;omega
        clear A C0 C1 C2 C3 D0 D1 D2 D3 H0
        go_wp2_with fail
        refine hd.mono ?_
        rintro e w1 ⟨E,rfl,h1,h2⟩
        clear hd hc
        by_cases hE:E=0
        · subst hE
          have S:Aside (PP (3+1) w1):=h1 rfl
          clear h1 h2
          go_wp2
          go_roundg q
          case measure=>exact Nat.lt_succ_self _
          case rel=>exact ⟨3+1,rfl,R.out,S.out⟩
        · have hE':(E != 0)=true:=by simp [hE]
          have S:Aside (¬ E=0∧Fin E w1):=⟨hE,h2 hE⟩
          clear h1 h2 hE
          go_wp2
          go_ret
          exact ⟨E,rfl,fun h=>absurd h S.out.1,fun _=>S.out.2⟩
end Go.Proofs.YtbmjoiiagldklaaDoor

namespace Go.Proofs.YtbmjoiiagldklaaDoor
open Go.RowKit
set_option maxRecDepth 100000
def z72 (v:Value) (X Y:Nat) (nv:Value):Array Value:=#[v,.int .u64 (X:Int),.int .u64 (Y:Int),nv]
structure FRM (w0 w:World) (rb gl:Nat) (t:TypeId) (v:Value) (X Y:Nat) (nv:Value) (fl:Array Value) (tf:TypeId):Prop where
  bel:Below w0.heap.size w0 w
  rd:Has w rb (z72 v X Y nv) t
  fl:Has w gl fl tf
  ne:gl≠rb
  lb:w0.heap.size≤rb
  lg:w0.heap.size≤gl
def SRC (w0:World) (a:Option Addr) (c:Nat) (t:List Int):Prop:=Bytes w0 a t.length t∧t.length≤c∧t.length≤1000000
theorem FRM.drew {w0 w:World} {rb gl:Nat} {t:TypeId} {v:Value} {X Y:Nat} {nv:Value} {fl:Array Value} {tf:TypeId} (h:FRM w0 w rb gl t v X Y nv fl tf):FRM w0 w.drew rb gl t v X Y nv fl tf:=⟨h.bel.drew,h.rd,h.fl,h.ne,h.lb,h.lg⟩
theorem FRM.keep {w0 w w':World} {rb gl:Nat} {t:TypeId} {v:Value} {X Y:Nat} {nv:Value} {fl:Array Value} {tf:TypeId} (h:FRM w0 w rb gl t v X Y nv fl tf) (hb:Below w.heap.size w w'):FRM w0 w' rb gl t v X Y nv fl tf:=⟨h.bel.trans (hb.mono h.bel.size),h.rd.keep hb,h.fl.keep hb,h.ne,h.lb,h.lg⟩
theorem FRM.rest {w0 w:World} {rb gl:Nat} {t:TypeId} {v:Value} {X Y:Nat} {nv:Value} {fl:Array Value} {tf:TypeId} (h:FRM w0 w rb gl t v X Y nv fl tf) (v':Value):FRM w0 (w.setCell ⟨rb,0,none⟩ v') rb gl t v' X Y nv fl tf:=
  ⟨h.bel.setCell (p:=⟨rb,0,none⟩) h.lb _,h.rd.set 0 v',h.fl.other (a:=⟨rb,0,none⟩) h.ne _,h.ne,h.lb,h.lg⟩
theorem FRM.first {w0 w:World} {rb gl:Nat} {t:TypeId} {v:Value} {X Y:Nat} {nv:Value} {fl:Array Value} {tf:TypeId} (h:FRM w0 w rb gl t v X Y nv fl tf) (Z:Nat):FRM w0 (w.setCell ⟨rb,1,none⟩ (.int .u64 (Z:Int))) rb gl t v Z Y nv fl tf:=
  ⟨h.bel.setCell (p:=⟨rb,1,none⟩) h.lb _,h.rd.set 1 _,h.fl.other (a:=⟨rb,1,none⟩) h.ne _,h.ne,h.lb,h.lg⟩
theorem FRM.second {w0 w:World} {rb gl:Nat} {t:TypeId} {v:Value} {X Y:Nat} {nv:Value} {fl:Array Value} {tf:TypeId} (h:FRM w0 w rb gl t v X Y nv fl tf) (Z:Nat):FRM w0 (w.setCell ⟨rb,2,none⟩ (.int .u64 (Z:Int))) rb gl t v X Z nv fl tf:=
  ⟨h.bel.setCell (p:=⟨rb,2,none⟩) h.lb _,h.rd.set 2 _,h.fl.other (a:=⟨rb,2,none⟩) h.ne _,h.ne,h.lb,h.lg⟩
theorem FRM.nodes {w0 w:World} {rb gl:Nat} {t:TypeId} {v:Value} {X Y:Nat} {nv:Value} {fl:Array Value} {tf:TypeId} (h:FRM w0 w rb gl t v X Y nv fl tf) (nv':Value):FRM w0 (w.setCell ⟨rb,3,none⟩ nv') rb gl t v X Y nv' fl tf:=
  ⟨h.bel.setCell (p:=⟨rb,3,none⟩) h.lb _,h.rd.set 3 _,h.fl.other (a:=⟨rb,3,none⟩) h.ne _,h.ne,h.lb,h.lg⟩
theorem SRC.drop {w0:World} {b off c:Nat} {t:List Int} (h:SRC w0 (some ⟨b,off,none⟩) c t) (k:Nat) (hk:k≤t.length):SRC w0 (REST b off c k) (c - k) (t.drop k):=by
  obtain ⟨h1,h2,h3⟩:=h
  have:=h1.behind k hk h2
  refine ⟨?_,by rw [List.length_drop];omega,by rw [List.length_drop];omega⟩
  rw [List.length_drop]
  exact this
theorem SRC.addr {w0:World} {a:Option Addr} {c:Nat} {t:List Int} (h:SRC w0 a c t) (h0:0<t.length):∃ b off,a=some ⟨b,off,none⟩∧b<w0.heap.size∧∀ i,i<t.length→w0.cell? ⟨b,off+i,none⟩=some (.int .u8 (t.getD i 0)):=h.1.2.1 h0
theorem z9x {w0 w:World} {rb gl:Nat} {t:TypeId} {X Y:Nat} {nv:Value} {fl:Array Value} {tf:TypeId} {a:Option Addr} {c:Nat} {l:List Int} (F:FRM w0 w rb gl t (.slice a l.length c) X Y nv fl tf) (S:SRC w0 a c l) (f:Nat) (hl:(LNG l).2.2≠0):
    Calls Tryd.prog 81 #[.pointer (some ⟨rb,0,none⟩),.pointer (some ⟨rb,f,none⟩)] w.drew fun e w'=>e=.returned (.int .i64 (LNG l).2.2)∧Below w0.heap.size w0 w':=by
  have cl:=z7w a l.length c l w.drew ((S.1.below F.bel).below ((Below.refl _ _).drew)) S.2.1 (by have:=S.2.2;omega)
  refine (zci rb f _ _ _ _ w.drew hl (F.drew.rd.cell 0) cl).mono ?_
  rintro e w' ⟨rfl,rfl⟩
  exact ⟨rfl,F.drew.bel⟩
theorem zcq {w0 w:World} {rb gl:Nat} {t:TypeId} {X Y:Nat} {nv:Value} {fl:Array Value} {tf:TypeId} {a:Option Addr} {c:Nat} {l:List Int} (F:FRM w0 w rb gl t (.slice a l.length c) X Y nv fl tf) (S:SRC w0 a c l) (hl:(LNG l).2.2=0):
    ∃ (Z m:Nat) (a':Option Addr) (c':Nat),Z<2 ^ 64∧LNG l=((Z:Int),(m:Int),0)∧SRC w0 a' c' (l.drop m)∧Calls Tryd.prog 81 #[.pointer (some ⟨rb,0,none⟩),.pointer (some ⟨rb,1,none⟩)] w.drew fun e w'=>e=.returned (.int .i64 0)∧FRM w0 w' rb gl t (.slice a' (l.drop m).length c') Z Y nv fl tf:=by
  obtain ⟨Z,m,h1,h2,h3,h4,h5⟩:=z54 S.1.2.2 hl
  obtain ⟨b,off,rfl,hb,hcs⟩:=S.addr (by omega)
  have cl:=z7w (some ⟨b,off,none⟩) l.length c l w.drew ((S.1.below F.bel).below ((Below.refl _ _).drew)) S.2.1 (by have:=S.2.2;omega)
  rw [show LG l l.length 10 0 0=LNG l from rfl,h4] at cl
  refine ⟨Z,m,_,_,h1,h4,S.drop m h3,(z8i rb 1 (by decide) (Z:Int) b off l.length c m h3 S.2.1 _ w.drew (F.drew.rd.cell 0) (F.drew.rd.cell 1) (F.drew.rd.frozen 0) (F.drew.rd.frozen 1) cl).mono ?_⟩
  rintro e w' ⟨rfl,rfl⟩
  refine ⟨rfl,?_⟩
  rw [List.length_drop]
  exact ((F.drew.drew).first Z).rest _
theorem zar {w0 w:World} {rb gl:Nat} {t:TypeId} {X Y:Nat} {nv:Value} {fl:Array Value} {tf:TypeId} {a:Option Addr} {c:Nat} {l:List Int} (F:FRM w0 w rb gl t (.slice a l.length c) X Y nv fl tf) (S:SRC w0 a c l) (hl:(LNG l).2.2=0):
    ∃ (Z m:Nat) (a':Option Addr) (c':Nat),Z<2 ^ 64∧LNG l=((Z:Int),(m:Int),0)∧SRC w0 a' c' (l.drop m)∧Calls Tryd.prog 81 #[.pointer (some ⟨rb,0,none⟩),.pointer (some ⟨rb,2,none⟩)] w.drew fun e w'=>e=.returned (.int .i64 0)∧FRM w0 w' rb gl t (.slice a' (l.drop m).length c') X Z nv fl tf:=by
  obtain ⟨Z,m,h1,h2,h3,h4,h5⟩:=z54 S.1.2.2 hl
  obtain ⟨b,off,rfl,hb,hcs⟩:=S.addr (by omega)
  have cl:=z7w (some ⟨b,off,none⟩) l.length c l w.drew ((S.1.below F.bel).below ((Below.refl _ _).drew)) S.2.1 (by have:=S.2.2;omega)
  rw [show LG l l.length 10 0 0=LNG l from rfl,h4] at cl
  refine ⟨Z,m,_,_,h1,h4,S.drop m h3,(z8i rb 2 (by decide) (Z:Int) b off l.length c m h3 S.2.1 _ w.drew (F.drew.rd.cell 0) (F.drew.rd.cell 2) (F.drew.rd.frozen 0) (F.drew.rd.frozen 2) cl).mono ?_⟩
  rintro e w' ⟨rfl,rfl⟩
  refine ⟨rfl,?_⟩
  rw [List.length_drop]
  exact ((F.drew.drew).second Z).rest _
theorem zdW {w0 w:World} {rb gl:Nat} {t:TypeId} {X Y:Nat} {nv:Value} {fl:Array Value} {tf:TypeId} {a:Option Addr} {c:Nat} {l:List Int} (F:FRM w0 w rb gl t (.slice a l.length c) X Y nv fl tf) (S:SRC w0 a c l) (K:Int):
    (l.length=0∧Calls Tryd.prog 80 #[.pointer (some ⟨rb,0,none⟩),.int .u8 K] w fun e w'=>e=.returned (.int .i64 11)∧w=w')∨
    (¬ l.length=0∧l.getD 0 0≠K∧Calls Tryd.prog 80 #[.pointer (some ⟨rb,0,none⟩),.int .u8 K] w fun e w'=>e=.returned (.int .i64 14)∧w=w')∨
    (¬ l.length=0∧l.getD 0 0=K∧∃ a' c',SRC w0 a' c' (l.drop 1)∧Calls Tryd.prog 80 #[.pointer (some ⟨rb,0,none⟩),.int .u8 K] w fun e w'=>e=.returned (.int .i64 0)∧FRM w0 w' rb gl t (.slice a' (l.drop 1).length c') X Y nv fl tf):=by
  by_cases h0:l.length=0
  · refine .inl ⟨h0,?_⟩
    have hc:=F.rd.cell 0
    rw [show (z72 (.slice a l.length c) X Y nv)[0]?=some (.slice a l.length c) from rfl,h0] at hc
    exact zdR rb K a c w hc
  · obtain ⟨b,off,rfl,hb,hcs⟩:=S.addr (by omega)
    have hx:w.cell? ⟨b,off,none⟩=some (.int .u8 (l.getD 0 0)):=by
      have:=hcs 0 (by omega)
      rw [Nat.add_zero] at this
      exact (F.bel.cell (p:=⟨b,off,none⟩) hb).trans this
    have hc:=F.rd.cell 0
    rw [show (z72 (.slice (some ⟨b,off,none⟩) l.length c) X Y nv)[0]?=some (.slice (some ⟨b,off,none⟩) l.length c) from rfl] at hc
    by_cases hK:l.getD 0 0=K
    · refine .inr (.inr ⟨h0,hK,_,_,S.drop 1 (by omega),?_⟩)
      obtain ⟨n,hn⟩:∃ n,l.length=n+1:=⟨l.length - 1,by omega⟩
      rw [hn] at hc
      refine (zgi rb K b off n c (by have:=S.2.1;omega) w hc (F.rd.frozen 0) (by rw [← hK];exact hx)).mono ?_
      rintro e w' ⟨rfl,rfl⟩
      refine ⟨rfl,?_⟩
      rw [List.length_drop,hn,Nat.add_sub_cancel]
      exact F.rest _
    · exact .inr (.inl ⟨h0,hK,zch rb K _ b off l.length c w hK (by omega) hc hx⟩)
theorem z55 {w0 w:World} {rb gl:Nat} {t:TypeId} {X Y:Nat} {nv:Value} {fl:Array Value} {tf:TypeId} {a:Option Addr} {c:Nat} {l:List Int} (F:FRM w0 w rb gl t (.slice a l.length c) X Y nv fl tf) (S:SRC w0 a c l) (N:Nat) (hN:N≤1000):
    (l.length<32*N∧Calls Tryd.prog 82 #[.pointer (some ⟨rb,0,none⟩),.pointer (some ⟨rb,3,none⟩),.int .i64 (N:Int)] w fun e w'=>e=.returned (.int .i64 11)∧w=w')∨
    (¬ l.length<32*N∧32*N<l.length∧Calls Tryd.prog 82 #[.pointer (some ⟨rb,0,none⟩),.pointer (some ⟨rb,3,none⟩),.int .i64 (N:Int)] w fun e w'=>e=.returned (.int .i64 13)∧w=w')∨
    (l.length=32*N∧Calls Tryd.prog 82 #[.pointer (some ⟨rb,0,none⟩),.pointer (some ⟨rb,3,none⟩),.int .i64 (N:Int)] w fun e w'=>e=.returned (.int .i64 0)∧∃ g,FRM w0 w' rb gl t (.slice a l.length c) X Y (.slice (some ⟨g,0,none⟩) N N) fl tf∧Has w' g (z00 l).toArray 26∧w0.heap.size≤g∧g≠rb∧g≠gl):=by
  have hc:=F.rd.cell 0
  rw [show (z72 (.slice a l.length c) X Y nv)[0]?=some (.slice a l.length c) from rfl] at hc
  rcases Nat.lt_trichotomy l.length (32*N) with h | h | h
  · exact .inl ⟨h,zco rb 3 N l.length c a hN h w hc⟩
  · refine .inr (.inr ⟨h,?_⟩)
    have hb:=S.1.below F.bel
    rw [h] at hb hc
    refine (zdT rb 3 N c a hN l w hb (by have:=S.2.1;omega) F.rd.lt hc _ (F.rd.cell 3) (F.rd.frozen 3)).mono ?_
    rintro e w' ⟨rfl,wx,hbx,hsz,hh,rfl⟩
    have hrb:=F.rd.lt
    have hgl:=F.fl.lt
    refine ⟨rfl,w.heap.size,((F.keep hbx).nodes _),hh.other (a:=⟨rb,3,none⟩) (by show w.heap.size≠rb;omega) _,F.bel.size,by omega,by omega⟩
  · exact .inr (.inl ⟨by omega,h,zaq rb 3 N l.length c a hN h w hc⟩)
end Go.Proofs.YtbmjoiiagldklaaDoor

namespace Go.Proofs.YtbmjoiiagldklaaDoor
open Go.RowKit
set_option maxRecDepth 100000
def RPP (w0:World) (rb gl:Nat) (t:TypeId) (fl:Array Value) (tf:TypeId) (K:Int) (chk:Nat→Bool) (PF:Nat→Nat→Int × List Nat) (D:DANS):Nat→World→Prop
  | 0,w=>∃ a c l,FRM w0 w rb gl t (.slice a l.length c) 0 0 (.slice none 0 0) fl tf∧SRC w0 a c l∧D=DC0 K chk PF l
  | 1,w=>∃ a c l,FRM w0 w rb gl t (.slice a l.length c) 0 0 (.slice none 0 0) fl tf∧SRC w0 a c l∧D=DC1 chk PF l
  | 2,w=>∃ a c l X,FRM w0 w rb gl t (.slice a l.length c) X 0 (.slice none 0 0) fl tf∧SRC w0 a c l∧X<2 ^ 64∧D=DC2 PF X l
  | 3,w=>∃ a c l X Y,FRM w0 w rb gl t (.slice a l.length c) X Y (.slice none 0 0) fl tf∧SRC w0 a c l∧X<2 ^ 64∧Y<2 ^ 64∧D=DC3 PF X Y l
  | _,w=>∃ a c l X Y N g,FRM w0 w rb gl t (.slice a l.length c) X Y (.slice (some ⟨g,0,none⟩) N N) fl tf∧SRC w0 a c l∧X<2 ^ 64∧Y<2 ^ 64∧D=(0,X,Y,N,l)∧l.length=32*N∧Has w g (z00 l).toArray 26∧w0.heap.size≤g∧g≠rb∧g≠gl
def RFIN (w0:World) (D:DANS) (E:Int) (w:World):Prop:=D=DERR E∧Below w0.heap.size w0 w
theorem z1u {f:Nat} {args:Array Value} {w:World} {P:World→Prop} {Fin:Int→World→Prop} {E:Int} {C:World→Prop} (h:Calls Tryd.prog f args w fun e w'=>e=.returned (.int .i64 E)∧C w') (h0:E=0→∀ w',C w'→P w') (h1:E≠0→∀ w',C w'→Fin E w'):Calls Tryd.prog f args w (STP P Fin):=
  h.mono fun _ w' ⟨he,hc⟩=>⟨E,he,fun e0=>h0 e0 w' hc,fun e1=>h1 e1 w' hc⟩
theorem zb5 {w0 W:World} (hT:Tabled w0) (h0:0<w0.heap.size) (h:Below w0.heap.size w0 W):Tabled W∧0<W.heap.size:=⟨hT.below h0 h,Nat.lt_of_lt_of_le h0 h.size⟩
theorem ziJ {w0:World} {rb gl:Nat} {t:TypeId} {fl:Array Value} {tf:TypeId} {chk:Nat→Bool} {PF:Nat→Nat→Int × List Nat} {D:DANS} (w:World) (h:RPP w0 rb gl t fl tf 77 chk PF D 0 w):
    Calls Tryd.prog 56 #[.pointer (some ⟨rb,0,none⟩)] w (STP (RPP w0 rb gl t fl tf 77 chk PF D 1) (RFIN w0 D)):=by
  obtain ⟨a,c,l,F,S,hD⟩:=h
  rcases zdW F S 77 with ⟨h1,c1⟩ | ⟨h1,h2,c1⟩ | ⟨h1,h2,a',c',S',c1⟩
  · refine z1u (z6r rb w 11 _ c1) (fun e=>absurd e (by decide)) fun _ w' hw=>?_
    subst hw
    exact ⟨by rw [hD,DC0,if_pos h1],F.bel⟩
  · refine z1u (z6r rb w 14 _ c1) (fun e=>absurd e (by decide)) fun _ w' hw=>?_
    subst hw
    exact ⟨by rw [hD,DC0,if_neg h1,if_pos h2],F.bel⟩
  · refine z1u (z6r rb w 0 _ c1) (fun _ w' hw=>⟨a',c',_,hw,S',?_⟩) fun e=>absurd rfl e
    rw [hD,DC0,if_neg h1,if_neg (by simpa using h2)]
theorem ziK {w0:World} {rb gl:Nat} {t:TypeId} {fl:Array Value} {tf:TypeId} {PF:Nat→Nat→Int × List Nat} {D:DANS} (w:World) (h:RPP w0 rb gl t fl tf 77 z1F PF D 1 w):
    Calls Tryd.prog 57 #[.pointer (some ⟨rb,0,none⟩)] w (STP (RPP w0 rb gl t fl tf 77 z1F PF D 2) (RFIN w0 D)):=by
  obtain ⟨a,c,l,F,S,hD⟩:=h
  by_cases hl:(LNG l).2.2=0
  · obtain ⟨Z,m,a',c',hZ,e1,S',c1⟩:=zcq F S hl
    have c2:Calls Tryd.prog 81 #[.pointer (some ⟨rb,0,none⟩),.pointer (some ⟨rb,1,none⟩)] w.drew fun e w'=>e=.returned (.int .i64 0)∧w'.cell? ⟨rb,1,none⟩=some (.int .u64 (Z:Int))∧FRM w0 w' rb gl t (.slice a' (l.drop m).length c') Z 0 (.slice none 0 0) fl tf:=c1.mono fun e w' ⟨he,hw⟩=>⟨he,hw.rd.cell 1,hw⟩
    unfold DC1 at hD
    rw [if_neg (by simpa using hl),e1] at hD
    have e2:((Z:Int)).toNat=Z:=by omega
    have e3:((m:Int)).toNat=m:=by omega
    simp only [e2,e3] at hD
    by_cases hb:4611686018427387904<Z
    · refine z1u (zdV rb w (Z:Int) (by omega) _ c2) (fun e=>absurd e (by decide)) fun _ w' hw=>⟨?_,hw.bel⟩
      rw [hD,if_pos (by simpa [z1F] using hb)]
    · refine z1u (zfq rb w (Z:Int) (by omega) _ c2) (fun _ w' hw=>⟨a',c',_,Z,hw,S',hZ,?_⟩) fun e=>absurd rfl e
      rw [hD,if_neg (by simpa [z1F] using hb)]
  · refine z1u (zdU rb w _ hl _ (z9x F S 1 hl)) (fun e=>absurd e hl) fun _ w' hw=>⟨?_,hw⟩
    rw [hD,DC1,if_pos hl]
theorem ziL {w0:World} {rb gl:Nat} {t:TypeId} {fl:Array Value} {tf:TypeId} {chk:Nat→Bool} {PF:Nat→Nat→Int × List Nat} {D:DANS} (w:World) (h:RPP w0 rb gl t fl tf 77 chk PF D 2 w):
    Calls Tryd.prog 58 #[.pointer (some ⟨rb,0,none⟩)] w (STP (RPP w0 rb gl t fl tf 77 chk PF D 3) (RFIN w0 D)):=by
  obtain ⟨a,c,l,X,F,S,hX,hD⟩:=h
  by_cases hl:(LNG l).2.2=0
  · obtain ⟨Z,m,a',c',hZ,e1,S',c1⟩:=zar F S hl
    refine z1u (z8j rb w 0 _ c1) (fun _ w' hw=>⟨a',c',_,X,Z,hw,S',hX,hZ,?_⟩) fun e=>absurd rfl e
    rw [hD,DC2,if_neg (by simpa using hl),e1]
    rfl
  · refine z1u (z8j rb w _ _ (z9x F S 2 hl)) (fun e=>absurd e hl) fun _ w' hw=>⟨?_,hw⟩
    rw [hD,DC2,if_pos hl]
theorem ziM {w0:World} {rb gl:Nat} {t:TypeId} {fl:Array Value} {tf:TypeId} {chk:Nat→Bool} {D:DANS} (hT:Tabled w0) (h0:0<w0.heap.size) (w:World) (h:RPP w0 rb gl t fl tf 77 chk (fun S I=>PLA I S) D 3 w):
    Calls Tryd.prog 59 #[.pointer (some ⟨rb,0,none⟩)] w (STP (RPP w0 rb gl t fl tf 77 chk (fun S I=>PLA I S) D 4) (RFIN w0 D)):=by
  obtain ⟨a,c,l,X,Y,F,S,hX,hY,hD⟩:=h
  obtain ⟨hT',h0'⟩:=zb5 hT h0 F.drew.bel
  have cp:=z6I Y X w.drew hT' h0'
  have hfew:=zaV Y X
  have hPF:((fun S I=>PLA I S)) X Y=PLA Y X:=rfl
  unfold DC3 at hD
  rw [hPF] at hD
  by_cases hE:(PLA Y X).1=0
  · rw [if_neg (by simpa using hE)] at hD
    rw [hE] at cp
    obtain ⟨N,hN⟩:∃ N,(PLA Y X).2.length=N:=⟨_,rfl⟩
    rw [hN] at cp hD hfew
    rcases Nat.lt_trichotomy l.length (32*N) with h1 | h1 | h1
    · refine z1u (z5u rb w X Y 11 N (fun w'=>Below w0.heap.size w0 w') (F.rd.cell 1) (F.rd.cell 2) (cp.mono ?_)) (fun e=>absurd e (by decide)) fun _ w' hw=>⟨by rw [hD,if_pos h1],hw⟩
      rintro e w1 ⟨v,rfl,hrow,hb⟩
      obtain ⟨av,cv,rfl,_⟩:=z24 hrow
      have F1:=(F.drew.keep hb).drew
      refine ⟨av,cv,rfl,?_⟩
      rcases z55 F1 S N (by omega) with ⟨_,c1⟩ | ⟨h2,_,_⟩ | ⟨h2,_⟩
      · exact c1.mono fun e w2 ⟨he,hw⟩=>⟨he,by rw [← hw];exact F1.bel⟩
      · omega
      · omega
    · refine z1u (z5u rb w X Y 0 N (fun w'=>∃ g,FRM w0 w' rb gl t (.slice a l.length c) X Y (.slice (some ⟨g,0,none⟩) N N) fl tf∧Has w' g (z00 l).toArray 26∧w0.heap.size≤g∧g≠rb∧g≠gl) (F.rd.cell 1) (F.rd.cell 2) (cp.mono ?_)) (fun _ w' hw=>?_) fun e=>absurd rfl e
      · rintro e w1 ⟨v,rfl,hrow,hb⟩
        obtain ⟨av,cv,rfl,_⟩:=z24 hrow
        have F1:=(F.drew.keep hb).drew
        refine ⟨av,cv,rfl,?_⟩
        rcases z55 F1 S N (by omega) with ⟨h2,_⟩ | ⟨h2,h3,_⟩ | ⟨_,c1⟩
        · omega
        · omega
        · exact c1
      · obtain ⟨g,F2,hg,hg1,hg2,hg3⟩:=hw
        refine ⟨a,c,l,X,Y,N,g,F2,S,hX,hY,?_,h1,hg,hg1,hg2,hg3⟩
        rw [hD,if_neg (by omega),if_neg (by omega)]
    · refine z1u (z5u rb w X Y 13 N (fun w'=>Below w0.heap.size w0 w') (F.rd.cell 1) (F.rd.cell 2) (cp.mono ?_)) (fun e=>absurd e (by decide)) fun _ w' hw=>⟨by rw [hD,if_neg (by omega),if_pos h1],hw⟩
      rintro e w1 ⟨v,rfl,hrow,hb⟩
      obtain ⟨av,cv,rfl,_⟩:=z24 hrow
      have F1:=(F.drew.keep hb).drew
      refine ⟨av,cv,rfl,?_⟩
      rcases z55 F1 S N (by omega) with ⟨h2,_⟩ | ⟨_,_,c1⟩ | ⟨h2,_⟩
      · omega
      · exact c1.mono fun e w2 ⟨he,hw⟩=>⟨he,by rw [← hw];exact F1.bel⟩
      · omega
  · refine z1u (zcp rb w X Y _ hE (fun w'=>Below w0.heap.size w0 w') (F.rd.cell 1) (F.rd.cell 2) (cp.mono ?_)) (fun e=>absurd e hE) fun _ w' hw=>⟨by rw [hD,if_pos hE],hw⟩
    rintro e w1 ⟨v,rfl,hrow,hb⟩
    exact ⟨v,rfl,F.drew.bel.trans (hb.mono F.drew.bel.size)⟩
end Go.Proofs.YtbmjoiiagldklaaDoor
