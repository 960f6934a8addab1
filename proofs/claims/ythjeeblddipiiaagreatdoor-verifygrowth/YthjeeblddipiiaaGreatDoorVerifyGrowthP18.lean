/- Texts of VerifyGrowth, one behind the other: ProofMark, ProofHashPlain, ProofHashes, ProofReaders, ProofLong, ProofDecodePlain, ProofInTurn. -/
import Derived.Deep.RegionLaw
import Derived.Laws.CopyOwn
import Derived.Test.YthjeeblddipiiaaGreatDoorVerifyGrowthP7
import Derived.Test.YthjeeblddipiiaaGreatDoorVerifyGrowthP17
namespace Go.Proofs.YthjeeblddipiiaaGreatDoor
open Go.RowKit
set_option maxRecDepth 100000
theorem Bytes.rest {w:World} {b off n:Nat} {l:List Int} (h:Bytes w (some ⟨b,off,none⟩) n l) (k:Nat) (hk:k≤n):Bytes w (some ⟨b,off+k,none⟩) (n - k) (l.drop k):=by
  refine ⟨by rw [List.length_drop,h.1],fun hn=>?_,fun x hx=>h.2.2 x (List.mem_of_mem_drop hx)⟩
  obtain ⟨b',o',e,hl,hc⟩:=h.2.1 (by omega)
  simp only [Option.some.injEq,Addr.mk.injEq] at e
  obtain ⟨rfl,rfl,_⟩:=e
  refine ⟨b,off+k,rfl,hl,fun i hi=>?_⟩
  rw [show off+k+i=off+(k+i) by omega,hc (k+i) (by omega)]
  congr 2
  rw [List.getD_eq_getElem?_getD,List.getD_eq_getElem?_getD,List.getElem?_drop]
theorem zcO (rb:Nat) (k:Int) (a:Option Addr) (c:Nat) (w:World) (h0:w.cell? ⟨rb,0,none⟩=some (.slice a 0 c)):
    Calls Tryz.prog 81 #[.pointer (some ⟨rb,0,none⟩),.int .u8 k] w fun e w'=>e=.returned (.int .i64 11)∧w=w':=by
  go_enter Tryz.func81,Tryz.ntmps81
  go_wp2
  go_ret
  exact ⟨rfl,rfl⟩
theorem zba (rb:Nat) (k x:Int) (b off n c:Nat) (w:World) (hx:¬ x=k) (hn:¬ (n:Int)=0) (h0:w.cell? ⟨rb,0,none⟩=some (.slice (some ⟨b,off,none⟩) n c)) (hc:w.cell? ⟨b,off,none⟩=some (.int .u8 x)):
    Calls Tryz.prog 81 #[.pointer (some ⟨rb,0,none⟩),.int .u8 k] w fun e w'=>e=.returned (.int .i64 14)∧w=w':=by
  have hn1:(0:Int)<(n:Int):=by omega
  have hn2:0<n:=by omega
  go_enter Tryz.func81,Tryz.ntmps81
  go_wp2
  go_ret
  exact ⟨rfl,rfl⟩
def REST (b off c k:Nat):Option Addr:=if c=k then some ⟨b,off,none⟩ else some ⟨b,off+k,none⟩
theorem Bytes.behind {w:World} {b off n c:Nat} {l:List Int} (h:Bytes w (some ⟨b,off,none⟩) n l) (k:Nat) (hk:k≤n) (hc:n≤c):Bytes w (REST b off c k) (n - k) (l.drop k):=by
  unfold REST
  split
  · have h0:n - k=0:=by omega
    rw [h0]
    refine ⟨?_,fun h=>by omega,fun x hx=>h.2.2 x (List.mem_of_mem_drop hx)⟩
    rw [List.length_drop,h.1,h0]
  · exact h.rest k hk
theorem zfG (rb:Nat) (k:Int) (b off n c:Nat) (hcap:n+1≤c) (w:World) (h0:w.cell? ⟨rb,0,none⟩=some (.slice (some ⟨b,off,none⟩) (n+1) c)) (hf:w.frozen? ⟨rb,0,none⟩=false) (hc:w.cell? ⟨b,off,none⟩=some (.int .u8 k)):
    Calls Tryz.prog 81 #[.pointer (some ⟨rb,0,none⟩),.int .u8 k] w fun e w'=>e=.returned (.int .i64 0)∧w'=w.setCell ⟨rb,0,none⟩ (.slice (REST b off c 1) n (c - 1)):=by
  have hn1:(0:Int)<(n:Int)+1:=by omega
  have hn2:¬ (n:Int)+1=0:=by omega
  have hcap':(n:Int)+1≤(c:Int):=by omega
  obtain ⟨a',ha'⟩:∃ a',REST b off c 1=a':=⟨_,rfl⟩
  rw [ha']
  by_cases h1:c=1
  · have HA:Aside (some ⟨b,off,none⟩=a'):=by
      rw [← ha']
      simp [REST,h1,Aside]
    have hn0:n=0:=by omega
    subst h1 hn0
    clear ha' hcap
    go_enter Tryz.func81,Tryz.ntmps81
    go_wp2
    go_ret
    rw [← HA.out]
    exact ⟨rfl,rfl⟩
  · have HA:Aside (some ⟨b,off+1,none⟩=a'):=by
      rw [← ha']
      simp [REST,h1,Aside]
    have hc1:¬ c - 1=0:=by omega
    clear ha' hcap
    go_enter Tryz.func81,Tryz.ntmps81
    go_wp2
    go_ret
    rw [← HA.out]
    exact ⟨rfl,rfl⟩
theorem zbb (rb f:Nat) (r1 r2 r3:Int) (v:Value) (w:World) (hr:¬ r3=0) (h0:w.cell? ⟨rb,0,none⟩=some v)
    (c:Calls Tryz.prog 96 #[v] w fun e w'=>e=.returned (.tuple #[.int .u64 r1,.int .i64 r2,.int .i64 r3])∧w=w'):
    Calls Tryz.prog 82 #[.pointer (some ⟨rb,0,none⟩),.pointer (some ⟨rb,f,none⟩)] w fun e w'=>e=.returned (.int .i64 r3)∧w=w':=by
  have hr':(r3 != 0)=true:=by simp [hr]
  go_enter Tryz.func82,Tryz.ntmps82
  go_wp2_with fail
  refine c.mono ?_
  rintro e w' ⟨rfl,rfl⟩
  clear c
  go_wp2
  go_ret
  exact ⟨rfl,rfl⟩
set_option maxHeartbeats 2000000 in
theorem zbc (rb f:Nat) (hf0:f≠0) (r1:Int) (b off n c m:Nat) (hm:m≤n) (hcap:n≤c) (hcm:c≠m) (x1:Value) (w:World) (h0:w.cell? ⟨rb,0,none⟩=some (.slice (some ⟨b,off,none⟩) n c)) (h1:w.cell? ⟨rb,f,none⟩=some x1) (z0:w.frozen? ⟨rb,0,none⟩=false) (z1:w.frozen? ⟨rb,f,none⟩=false)
    (cl:Calls Tryz.prog 96 #[.slice (some ⟨b,off,none⟩) n c] w fun e w'=>e=.returned (.tuple #[.int .u64 r1,.int .i64 (m:Int),.int .i64 0])∧w=w'):
    Calls Tryz.prog 82 #[.pointer (some ⟨rb,0,none⟩),.pointer (some ⟨rb,f,none⟩)] w fun e w'=>e=.returned (.int .i64 0)∧w'=(w.drew.setCell ⟨rb,f,none⟩ (.int .u64 r1)).setCell ⟨rb,0,none⟩ (.slice (some ⟨b,off+m,none⟩) (n - m) (c - m)):=by
  have k1:(m:Int)≤(n:Int):=by omega
  have k2:(n:Int)≤(c:Int):=by omega
  have k3:¬ c - m=0:=by omega
  have g0:(w.drew.setCell ⟨rb,f,none⟩ (.int .u64 r1)).cell? ⟨rb,0,none⟩=some (.slice (some ⟨b,off,none⟩) n c):=by rw [z1Q hf0];exact h0
  go_enter Tryz.func82,Tryz.ntmps82
  go_wp2_with fail
  refine cl.mono ?_
  rintro e w' ⟨rfl,rfl⟩
  clear cl
  go_wp2
  go_region
  all_goals go_wp2
  all_goals go_ret
  all_goals exact ⟨rfl,rfl⟩
set_option maxHeartbeats 2000000 in
theorem zbd (rb f:Nat) (hf0:f≠0) (r1:Int) (b off m:Nat) (x1:Value) (w:World) (h0:w.cell? ⟨rb,0,none⟩=some (.slice (some ⟨b,off,none⟩) m m)) (h1:w.cell? ⟨rb,f,none⟩=some x1) (z0:w.frozen? ⟨rb,0,none⟩=false) (z1:w.frozen? ⟨rb,f,none⟩=false)
    (cl:Calls Tryz.prog 96 #[.slice (some ⟨b,off,none⟩) m m] w fun e w'=>e=.returned (.tuple #[.int .u64 r1,.int .i64 (m:Int),.int .i64 0])∧w=w'):
    Calls Tryz.prog 82 #[.pointer (some ⟨rb,0,none⟩),.pointer (some ⟨rb,f,none⟩)] w fun e w'=>e=.returned (.int .i64 0)∧w'=(w.drew.setCell ⟨rb,f,none⟩ (.int .u64 r1)).setCell ⟨rb,0,none⟩ (.slice (some ⟨b,off,none⟩) 0 0):=by
  have g0:(w.drew.setCell ⟨rb,f,none⟩ (.int .u64 r1)).cell? ⟨rb,0,none⟩=some (.slice (some ⟨b,off,none⟩) m m):=by rw [z1Q hf0];exact h0
  go_enter Tryz.func82,Tryz.ntmps82
  go_wp2_with fail
  refine cl.mono ?_
  rintro e w' ⟨rfl,rfl⟩
  clear cl
  go_wp2
  go_region
  all_goals go_wp2
  all_goals go_ret
  all_goals exact ⟨rfl,rfl⟩
theorem z79 (rb f:Nat) (hf0:f≠0) (r1:Int) (b off n c m:Nat) (hm:m≤n) (hcap:n≤c) (x1:Value) (w:World) (h0:w.cell? ⟨rb,0,none⟩=some (.slice (some ⟨b,off,none⟩) n c)) (h1:w.cell? ⟨rb,f,none⟩=some x1) (z0:w.frozen? ⟨rb,0,none⟩=false) (z1:w.frozen? ⟨rb,f,none⟩=false)
    (cl:Calls Tryz.prog 96 #[.slice (some ⟨b,off,none⟩) n c] w fun e w'=>e=.returned (.tuple #[.int .u64 r1,.int .i64 (m:Int),.int .i64 0])∧w=w'):
    Calls Tryz.prog 82 #[.pointer (some ⟨rb,0,none⟩),.pointer (some ⟨rb,f,none⟩)] w fun e w'=>e=.returned (.int .i64 0)∧w'=(w.drew.setCell ⟨rb,f,none⟩ (.int .u64 r1)).setCell ⟨rb,0,none⟩ (.slice (REST b off c m) (n - m) (c - m)):=by
  by_cases h:c=m
  · obtain rfl:c=n:=by omega
    subst h
    have:=zbd rb f hf0 r1 b off c x1 w h0 h1 z0 z1 cl
    simpa [REST] using this
  · have:=zbc rb f hf0 r1 b off n c m hm hcap h x1 w h0 h1 z0 z1 cl
    simpa [REST,h] using this
end Go.Proofs.YthjeeblddipiiaaGreatDoor

namespace Go.Proofs.YthjeeblddipiiaaGreatDoor
open Go.RowKit
set_option maxRecDepth 100000
theorem zbe:(Tryz.prog.info? 32).map (fun i=>(i.size,i.bytes,i.zero.isSome))=some (32,32,true):=by kernel_rfl
theorem z9j (N:Nat) (hN:N≤1000) (w:World):∃ Z:List Value,Z.length=32*N∧(Instr.makeSlice 22 (.int .i64 (N:Int)) (.int .i64 (N:Int))).run Tryz.prog w=.ok (.slice (some ⟨w.heap.size,0,none⟩) N N) (w.alloc (.cells Z.toArray 32)):=by
  obtain ⟨i,hi,h⟩:=Option.map_eq_some_iff.1 zbe
  simp only [Prod.mk.injEq] at h
  obtain ⟨h1,h2,h3⟩:=h
  obtain ⟨z,hz⟩:=Option.isSome_iff_exists.1 h3
  have h:=run_make (P:=Tryz.prog) w 22 32 i z Tryz.underlying22 hi hz .i64 .i64 N N (by omega) (by omega) (by rw [h2];omega) (by omega)
  refine ⟨(madeCells z.cells (N*i.size)).toList,?_,?_⟩
  · rw [Array.length_toList,size_madeCells,h1]
    omega
  · simpa using h
def z1p (l:List Int) (Z:List Value) (i:Nat):List Value:=z00 (l.take (32*i)) ++ Z.drop (32*i)
theorem zbf (l:List Int) (Z:List Value):z1p l Z 0=Z:=by simp [z1p,z00]
theorem zcP {l:List Int} {Z:List Value} {N:Nat} (hl:l.length=32*N) (hZ:Z.length=32*N):z1p l Z N=z00 l:=by
  unfold z1p
  rw [List.take_of_length_le (by omega),List.drop_of_length_le (by omega),List.append_nil]
theorem z8p {l:List Int} {Z:List Value} {N i:Nat} (hl:l.length=32*N) (hZ:Z.length=32*N) (hi:i≤N):(z1p l Z i).length=32*N:=by
  unfold z1p
  rw [List.length_append,List.length_drop,z00,List.length_map,List.length_take]
  omega
theorem zbg {l:List Int} (Z:List Value) {N i:Nat} (hl:l.length=32*N) (hi:i<N):splice (z1p l Z i) (i*32) (z00 (HSH l i))=z1p l Z (i+1):=by
  have h1:(z00 (l.take (32*i))).length=i*32:=by
    rw [z00,List.length_map,List.length_take]
    omega
  have h2:(z00 (HSH l i)).length=32:=by
    rw [z00,List.length_map]
    exact z0S hl hi
  unfold splice z1p
  rw [List.take_append_of_le_length (by omega),List.take_of_length_le (by omega),z34,z0y,h2,List.append_assoc]
  congr 2
  rw [List.drop_append,List.drop_of_length_le (by omega),List.nil_append,h1,List.drop_drop]
  congr 1
  omega
end Go.Proofs.YthjeeblddipiiaaGreatDoor

namespace Go.Proofs.YthjeeblddipiiaaGreatDoor
open Go.RowKit
set_option maxRecDepth 100000
theorem zbh (rb f N n c:Nat) (a:Option Addr) (hN:N≤1000) (hn:n<32*N) (w:World) (h0:w.cell? ⟨rb,0,none⟩=some (.slice a n c)):
    Calls Tryz.prog 83 #[.pointer (some ⟨rb,0,none⟩),.pointer (some ⟨rb,f,none⟩),.int .i64 (N:Int)] w fun e w'=>e=.returned (.int .i64 11)∧w=w':=by
  have e1:wrap64 ((N:Int)*32)=(N:Int)*32:=by unfold wrap64;omega
  have h1:(n:Int)<(N:Int)*32:=by omega
  clear hN hn
  go_enter Tryz.func83,Tryz.ntmps83
  go_wp2
  go_ret
  exact ⟨rfl,rfl⟩
theorem z9k (rb f N n c:Nat) (a:Option Addr) (hN:N≤1000) (hn:32*N<n) (w:World) (h0:w.cell? ⟨rb,0,none⟩=some (.slice a n c)):
    Calls Tryz.prog 83 #[.pointer (some ⟨rb,0,none⟩),.pointer (some ⟨rb,f,none⟩),.int .i64 (N:Int)] w fun e w'=>e=.returned (.int .i64 13)∧w=w':=by
  have e1:wrap64 ((N:Int)*32)=(N:Int)*32:=by unfold wrap64;omega
  have h1:¬ (n:Int)<(N:Int)*32:=by omega
  have h2:(N:Int)*32<(n:Int):=by omega
  clear hN hn
  go_enter Tryz.func83,Tryz.ntmps83
  go_wp2
  go_ret
  exact ⟨rfl,rfl⟩
def zgH (w:World) (rb f N:Nat) (l:List Int) (w':World):Prop:=∃ wx,Below w.heap.size w wx∧w.heap.size<wx.heap.size∧Has wx w.heap.size (z00 l).toArray 32∧w'=wx.setCell ⟨rb,f,none⟩ (.slice (some ⟨w.heap.size,0,none⟩) N N)
set_option maxHeartbeats 4000000 in
theorem zcQ (rb f N c:Nat) (a:Option Addr) (hN:N≤1000) (l:List Int) (w:World) (hB:Bytes w a (32*N) l) (hc:32*N≤c) (hrb:rb<w.heap.size) (h0:w.cell? ⟨rb,0,none⟩=some (.slice a (32*N) c)) (x1:Value) (h1:w.cell? ⟨rb,f,none⟩=some x1) (z1:w.frozen? ⟨rb,f,none⟩=false):
    Calls Tryz.prog 83 #[.pointer (some ⟨rb,0,none⟩),.pointer (some ⟨rb,f,none⟩),.int .i64 (N:Int)] w fun e w'=>e=.returned (.int .i64 0)∧zgH w rb f N l w':=by
  have e1:wrap64 ((N:Int)*32)=(N:Int)*32:=by unfold wrap64;omega
  have k1:¬ ((32*N:Nat):Int)<(N:Int)*32:=by omega
  have k2:¬ (N:Int)*32<((32*N:Nat):Int):=by omega
  obtain ⟨M,hM⟩:∃ M,32*N=M:=⟨_,rfl⟩
  rw [hM] at h0 k1 k2 hB hc
  obtain ⟨Z,hZ,hmk⟩:=z9j N hN w
  have HA:Aside (l.length=32*N∧Z.length=32*N∧N≤1000∧32*N=M∧M≤c∧Bytes w a M l∧rb<w.heap.size∧w.cell? ⟨rb,0,none⟩=some (.slice a M c)∧w.cell? ⟨rb,f,none⟩=some x1∧w.frozen? ⟨rb,f,none⟩=false):=⟨by rw [hM];exact hB.1,hZ,hN,hM,hc,hB,hrb,h0,h1,z1⟩
  clear hN hZ hB hc hM hrb h1 z1
  go_enter Tryz.func83,Tryz.ntmps83
  go_wp2
  clear e1 hmk h0
  go_loopg [30] N (fun q s30 wx=>∃ i:Nat,s30=.int .i64 (i:Int)∧Aside (i+q=N∧Below w.heap.size w wx∧w.heap.size<wx.heap.size∧Has wx w.heap.size (z1p l Z i).toArray 32))
  case atStart=>exact ⟨0,rfl,by omega,(Below.refl _ _).alloc (Nat.le_refl _) _,by simp,by rw [zbf];exact Has.new _ _ _⟩
  case round=>
    obtain ⟨i,rfl,A⟩:=hrel
    obtain ⟨hi,hbel,hsz,hhas⟩:=A.out
    obtain ⟨a1,a2,a3,a4,a5,a6,a7,a8,a9,a10⟩:=HA.out
    cases gk with
    | zero=>
      obtain rfl:i=N:=by omega
      have hlt:¬ (i:Int)<(i:Int):=by omega
      have y1:wr.cell? ⟨rb,f,none⟩=some x1:=(hbel.cell (p:=⟨rb,f,none⟩) a7).trans a9
      have y2:wr.frozen? ⟨rb,f,none⟩=false:=(hbel.frozen (p:=⟨rb,f,none⟩) a7).trans a10
      have R:Aside (Below w.heap.size w wr∧w.heap.size<wr.heap.size∧Has wr w.heap.size (z00 l).toArray 32):=by
        rw [zcP a1 a2] at hhas
        exact ⟨hbel,hsz,hhas⟩
      clear hi hbel hsz hhas a1 a2 a3 a4 a5 a6 a7 a8 a9 a10 A HA
      go_wp2
      go_ret
      exact ⟨rfl,wr,R.out.1,R.out.2.1,R.out.2.2,rfl⟩
    | succ q=>
      have hlt:(i:Int)<(N:Int):=by omega
      obtain ⟨b,o,rfl,hbl,hcs⟩:=a6.2.1 (by omega)
      have y0:wr.cell? ⟨rb,0,none⟩=some (.slice (some ⟨b,o,none⟩) M c):=(hbel.cell (p:=⟨rb,0,none⟩) a7).trans a8
      obtain ⟨I,hI⟩:∃ I,i*32=I:=⟨_,rfl⟩
      have m2:(I:Int)≤(M:Int):=by omega
      have m3:(M:Int)≤(c:Int):=by omega
      have m4:¬ c=I:=by omega
      have h32:(z00 (HSH l i)).length=32:=by
        rw [z00,List.length_map]
        exact z0S a1 (by omega)
      have hsrc:∀ j v,(z00 (HSH l i))[j]?=some v→wr.cell? ((⟨b,o+I,none⟩:Addr).add j)=some v:=by
        intro j v hv
        have hj:j<32:=by
          have:=(List.getElem?_eq_some_iff.1 hv).1
          omega
        rw [z0z _ _ (by rw [z0S a1 (by omega)];exact hj),zcq hj] at hv
        rw [z1s,show o+I+j=o+(32*i+j) by omega]
        exact ((hbel.cell (p:=⟨b,o+(32*i+j),none⟩) hbl).trans (hcs (32*i+j) (by omega))).trans hv
      have hpl:=z8p a1 a2 (show i≤N by omega)
      have hnx:=zbg Z a1 (show i<N by omega)
      have hone:=z1I (HSH l i)
      have R:Aside (i+1+q=N∧Below w.heap.size w wr∧w.heap.size<wr.heap.size∧Has wr w.heap.size (z1p l Z i).toArray 32∧splice (z1p l Z i) (i*32) (z00 (HSH l i))=z1p l Z (i+1)):=⟨by omega,hbel,hsz,hhas,hnx⟩
      have S:Aside ((z00 (HSH l i)).length=Nat.min (M - I) 32∧i*32+(z00 (HSH l i)).length≤(z1p l Z i).length):=⟨by rw [h32];exact (Nat.min_eq_right (show 32≤M - I by omega)).symm,by omega⟩
      have E2:Aside (wrap64 ((i:Int)*32)=(I:Int)):=by show wrap64 ((i:Int)*32)=(I:Int);unfold wrap64;omega
      have E3:Aside (IntKind.i64.wrap ((i:Int)*32)=(I:Int)):=by show IntKind.i64.wrap ((i:Int)*32)=(I:Int);rw [IntKind.wrap_i64];omega
      have E1:Aside (wrap64 ((i:Int)+1)=((i+1:Nat):Int)):=by show wrap64 ((i:Int)+1)=((i+1:Nat):Int);unfold wrap64;omega
      clear hi hbel hsz hhas a1 a2 a3 a4 a5 a6 a7 a8 a9 a10 A HA hbl hcs hpl hnx hI
      generalize z00 (HSH l i)=H at *
      have hu8:(Tryz.prog.info? 5).map (·.size)=some 1:=by kernel_rfl
      have m1:=E2.out
      have m5:=E3.out
      go_wp2
      go_region_law (refine step_copy_splice rfl (.tmp 36) (.tmp 43) 35 35 rfl 5 Tryz.underlying35 hu8 (some ⟨w.heap.size,i*32,none⟩) (some ⟨b,o+I,none⟩) 32 32 (M - I) (c - I) (by simp [Act.eval,Act.put]) (by simp [Act.eval,Act.put]) w.heap.size (i*32) (z1p l Z i) 32 (by exact R.out.2.2.2.1) H S.out.1 (fun _=>⟨rfl,_,rfl,hsrc⟩) S.out.2 hone w.heap.size w (by exact R.out.2.1.drew) (Nat.le_refl _) ?_;intro w4 hg4 hb4)
      have R2:Aside (i+1+q=N∧Below w.heap.size w w4∧w.heap.size<w4.heap.size∧Has w4 w.heap.size (z1p l Z (i+1)).toArray 32):=by
        obtain ⟨r1,r2,r3,r4,r5⟩:=R.out
        have hg5:w4.heap[w.heap.size]?=some (.cells (splice (z1p l Z i) (i*32) H).toArray 32 (0,0)):=hg4
        rw [r5] at hg5
        exact ⟨r1,hb4,(Array.getElem?_eq_some_iff.1 hg5).1,hg5⟩
      clear R S hg4 hb4 hsrc hone h32 m1 m5 y0
      have e1:=E1.out
      go_wp2
      go_roundg q
      case measure=>exact Nat.lt_succ_self _
      case rel=>exact ⟨i+1,by first | rfl | (rw [E1.out]),R2.out⟩
end Go.Proofs.YthjeeblddipiiaaGreatDoor

namespace Go.Proofs.YthjeeblddipiiaaGreatDoor
open Go.RowKit
set_option maxRecDepth 100000
theorem z5k (rb:Nat) (w:World) (E:Int) (D:World→Prop) (c:Calls Tryz.prog 81 #[.pointer (some ⟨rb,0,none⟩),.int .u8 77] w fun e w'=>e=.returned (.int .i64 E)∧D w'):
    Calls Tryz.prog 52 #[.pointer (some ⟨rb,0,none⟩)] w fun e w'=>e=.returned (.int .i64 E)∧D w':=by
  go_enter Tryz.func52,Tryz.ntmps52
  go_wp2_with fail
  refine c.mono ?_
  rintro e w' ⟨rfl,h⟩
  clear c
  go_wp2
  go_ret
  exact ⟨rfl,h⟩
theorem z5l (rb:Nat) (w:World) (E:Int) (D:World→Prop) (c:Calls Tryz.prog 81 #[.pointer (some ⟨rb,0,none⟩),.int .u8 80] w fun e w'=>e=.returned (.int .i64 E)∧D w'):
    Calls Tryz.prog 67 #[.pointer (some ⟨rb,0,none⟩)] w fun e w'=>e=.returned (.int .i64 E)∧D w':=by
  go_enter Tryz.func67,Tryz.ntmps67
  go_wp2_with fail
  refine c.mono ?_
  rintro e w' ⟨rfl,h⟩
  clear c
  go_wp2
  go_ret
  exact ⟨rfl,h⟩
theorem z7a (rb:Nat) (w:World) (E:Int) (D:World→Prop) (c:Calls Tryz.prog 82 #[.pointer (some ⟨rb,0,none⟩),.pointer (some ⟨rb,2,none⟩)] w.drew fun e w'=>e=.returned (.int .i64 E)∧D w'):
    Calls Tryz.prog 54 #[.pointer (some ⟨rb,0,none⟩)] w fun e w'=>e=.returned (.int .i64 E)∧D w':=by
  go_enter Tryz.func54,Tryz.ntmps54
  go_wp2
  go_region_with ((go_at_call 82;refine c.mono ?_;rintro e w' ⟨rfl,h⟩))
  all_goals go_wp2
  all_goals go_ret
  all_goals exact ⟨rfl,h⟩
theorem z8q (rb:Nat) (w:World) (E:Int) (D:World→Prop) (c:Calls Tryz.prog 82 #[.pointer (some ⟨rb,0,none⟩),.pointer (some ⟨rb,1,none⟩)] w.drew fun e w'=>e=.returned (.int .i64 E)∧D w'):
    Calls Tryz.prog 68 #[.pointer (some ⟨rb,0,none⟩)] w fun e w'=>e=.returned (.int .i64 E)∧D w':=by
  go_enter Tryz.func68,Tryz.ntmps68
  go_wp2
  go_region_with ((go_at_call 82;refine c.mono ?_;rintro e w' ⟨rfl,h⟩))
  all_goals go_wp2
  all_goals go_ret
  all_goals exact ⟨rfl,h⟩
theorem z8r (rb:Nat) (w:World) (E:Int) (D:World→Prop) (c:Calls Tryz.prog 82 #[.pointer (some ⟨rb,0,none⟩),.pointer (some ⟨rb,2,none⟩)] w.drew fun e w'=>e=.returned (.int .i64 E)∧D w'):
    Calls Tryz.prog 69 #[.pointer (some ⟨rb,0,none⟩)] w fun e w'=>e=.returned (.int .i64 E)∧D w':=by
  go_enter Tryz.func69,Tryz.ntmps69
  go_wp2
  go_region_with ((go_at_call 82;refine c.mono ?_;rintro e w' ⟨rfl,h⟩))
  all_goals go_wp2
  all_goals go_ret
  all_goals exact ⟨rfl,h⟩
theorem zcR (rb:Nat) (w:World) (E:Int) (hE:¬ E=0) (D:World→Prop) (c:Calls Tryz.prog 82 #[.pointer (some ⟨rb,0,none⟩),.pointer (some ⟨rb,1,none⟩)] w.drew fun e w'=>e=.returned (.int .i64 E)∧D w'):
    Calls Tryz.prog 53 #[.pointer (some ⟨rb,0,none⟩)] w fun e w'=>e=.returned (.int .i64 E)∧D w':=by
  have hE':(E == 0)=false:=by simp [hE]
  go_enter Tryz.func53,Tryz.ntmps53
  go_wp2
  go_region_with ((go_at_call 82;refine c.mono ?_;rintro e w' ⟨rfl,h⟩))
  all_goals go_wp2
  all_goals go_ret
  all_goals exact ⟨rfl,h⟩
theorem zcS (rb:Nat) (w:World) (X:Int) (hX:4611686018427387904<X) (D:World→Prop) (c:Calls Tryz.prog 82 #[.pointer (some ⟨rb,0,none⟩),.pointer (some ⟨rb,1,none⟩)] w.drew fun e w'=>e=.returned (.int .i64 0)∧w'.cell? ⟨rb,1,none⟩=some (.int .u64 X)∧D w'):
    Calls Tryz.prog 53 #[.pointer (some ⟨rb,0,none⟩)] w fun e w'=>e=.returned (.int .i64 30)∧D w':=by
  go_enter Tryz.func53,Tryz.ntmps53
  go_wp2
  go_region_with ((go_at_call 82;refine c.mono ?_;rintro e w' ⟨rfl,hc,h⟩))
  all_goals go_wp2
  all_goals go_ret
  all_goals exact ⟨rfl,h⟩
theorem zez (rb:Nat) (w:World) (X:Int) (hX:¬ 4611686018427387904<X) (D:World→Prop) (c:Calls Tryz.prog 82 #[.pointer (some ⟨rb,0,none⟩),.pointer (some ⟨rb,1,none⟩)] w.drew fun e w'=>e=.returned (.int .i64 0)∧w'.cell? ⟨rb,1,none⟩=some (.int .u64 X)∧D w'):
    Calls Tryz.prog 53 #[.pointer (some ⟨rb,0,none⟩)] w fun e w'=>e=.returned (.int .i64 0)∧D w':=by
  go_enter Tryz.func53,Tryz.ntmps53
  go_wp2
  go_region_with ((go_at_call 82;refine c.mono ?_;rintro e w' ⟨rfl,hc,h⟩))
  all_goals go_wp2
  all_goals go_ret
  all_goals exact ⟨rfl,h⟩
set_option maxHeartbeats 4000000 in
theorem zbi (rb:Nat) (w:World) (X Y E:Int) (hE:¬ E=0) (D:World→Prop) (h1:w.cell? ⟨rb,1,none⟩=some (.int .u64 X)) (h2:w.cell? ⟨rb,2,none⟩=some (.int .u64 Y))
    (c:Calls Tryz.prog 24 #[.int .u64 Y,.int .u64 X] w.drew fun e w'=>∃ v,e=.returned (.tuple #[v,.int .i64 E])∧D w'):
    Calls Tryz.prog 55 #[.pointer (some ⟨rb,0,none⟩)] w fun e w'=>e=.returned (.int .i64 E)∧D w':=by
  have hE':(E != 0)=true:=by simp [hE]
  have d1:w.drew.cell? ⟨rb,1,none⟩=some (.int .u64 X):=h1
  have d2:w.drew.cell? ⟨rb,2,none⟩=some (.int .u64 Y):=h2
  go_enter Tryz.func55,Tryz.ntmps55
  go_wp2
  go_region_with ((go_at_call 24;refine c.mono ?_;rintro e w' ⟨v,rfl,h⟩))
  all_goals go_wp2
  all_goals go_ret
  all_goals exact ⟨rfl,h⟩
set_option maxHeartbeats 4000000 in
theorem z4u (rb:Nat) (w:World) (X Y E:Int) (N:Nat) (D:World→Prop) (h1:w.cell? ⟨rb,1,none⟩=some (.int .u64 X)) (h2:w.cell? ⟨rb,2,none⟩=some (.int .u64 Y))
    (c:Calls Tryz.prog 24 #[.int .u64 Y,.int .u64 X] w.drew fun e w'=>∃ a cap,e=.returned (.tuple #[.slice a N cap,.int .i64 0])∧Calls Tryz.prog 83 #[.pointer (some ⟨rb,0,none⟩),.pointer (some ⟨rb,3,none⟩),.int .i64 (N:Int)] w'.drew fun e w2=>e=.returned (.int .i64 E)∧D w2):
    Calls Tryz.prog 55 #[.pointer (some ⟨rb,0,none⟩)] w fun e w'=>e=.returned (.int .i64 E)∧D w':=by
  have d1:w.drew.cell? ⟨rb,1,none⟩=some (.int .u64 X):=h1
  have d2:w.drew.cell? ⟨rb,2,none⟩=some (.int .u64 Y):=h2
  go_enter Tryz.func55,Tryz.ntmps55
  go_wp2
  go_region_with ((go_at_call 24;refine c.mono ?_;rintro e w' ⟨a,cap,rfl,h⟩))
  all_goals go_wp2
  all_goals go_region_with ((go_at_call 83;refine h.mono ?_;rintro e w2 ⟨rfl,h⟩))
  all_goals go_wp2
  all_goals go_ret
  all_goals exact ⟨rfl,h⟩
set_option maxHeartbeats 4000000 in
theorem zbj (rb:Nat) (w:World) (X Y E:Int) (hE:¬ E=0) (D:World→Prop) (h1:w.cell? ⟨rb,1,none⟩=some (.int .u64 X)) (h2:w.cell? ⟨rb,2,none⟩=some (.int .u64 Y))
    (c:Calls Tryz.prog 39 #[.int .u64 X,.int .u64 Y] w.drew fun e w'=>∃ v,e=.returned (.tuple #[v,.int .i64 E])∧D w'):
    Calls Tryz.prog 70 #[.pointer (some ⟨rb,0,none⟩)] w fun e w'=>e=.returned (.int .i64 E)∧D w':=by
  have hE':(E != 0)=true:=by simp [hE]
  have d1:w.drew.cell? ⟨rb,1,none⟩=some (.int .u64 X):=h1
  have d2:w.drew.cell? ⟨rb,2,none⟩=some (.int .u64 Y):=h2
  go_enter Tryz.func70,Tryz.ntmps70
  go_wp2
  go_region_with ((go_at_call 39;refine c.mono ?_;rintro e w' ⟨v,rfl,h⟩))
  all_goals go_wp2
  all_goals go_ret
  all_goals exact ⟨rfl,h⟩
set_option maxHeartbeats 4000000 in
theorem z4v (rb:Nat) (w:World) (X Y E:Int) (N:Nat) (D:World→Prop) (h1:w.cell? ⟨rb,1,none⟩=some (.int .u64 X)) (h2:w.cell? ⟨rb,2,none⟩=some (.int .u64 Y))
    (c:Calls Tryz.prog 39 #[.int .u64 X,.int .u64 Y] w.drew fun e w'=>∃ a cap,e=.returned (.tuple #[.slice a N cap,.int .i64 0])∧Calls Tryz.prog 83 #[.pointer (some ⟨rb,0,none⟩),.pointer (some ⟨rb,3,none⟩),.int .i64 (N:Int)] w'.drew fun e w2=>e=.returned (.int .i64 E)∧D w2):
    Calls Tryz.prog 70 #[.pointer (some ⟨rb,0,none⟩)] w fun e w'=>e=.returned (.int .i64 E)∧D w':=by
  have d1:w.drew.cell? ⟨rb,1,none⟩=some (.int .u64 X):=h1
  have d2:w.drew.cell? ⟨rb,2,none⟩=some (.int .u64 Y):=h2
  go_enter Tryz.func70,Tryz.ntmps70
  go_wp2
  go_region_with ((go_at_call 39;refine c.mono ?_;rintro e w' ⟨a,cap,rfl,h⟩))
  all_goals go_wp2
  all_goals go_region_with ((go_at_call 83;refine h.mono ?_;rintro e w2 ⟨rfl,h⟩))
  all_goals go_wp2
  all_goals go_ret
  all_goals exact ⟨rfl,h⟩
end Go.Proofs.YthjeeblddipiiaaGreatDoor

namespace Go.Proofs.YthjeeblddipiiaaGreatDoor
open Go.RowKit
def LNG (t:List Int):Int × Int × Int:=LG t t.length 10 0 0
theorem z46 {t:List Int} (hr:∀ x∈t,0≤x∧x≤255) (h:(LNG t).2.2=0):∃ Z m:Nat,Z<2 ^ 64∧1≤m∧m≤t.length∧LNG t=((Z:Int),(m:Int),0)∧z0h Z=t.take m:=by
  have hr':∀ i,0≤t.getD i 0∧t.getD i 0≤255:=fun i=>by
    by_cases hi:i<t.length
    · rw [List.getD_eq_getElem?_getD,List.getElem?_eq_getElem hi]
      exact hr _ (List.getElem_mem hi)
    · rw [List.getD_eq_getElem?_getD,List.getElem?_eq_none (by omega)]
      simp
  obtain ⟨Z,m,h1,h2,h3,h4,h5,h6⟩:=zfF (l:=t) rfl hr' h
  exact ⟨Z,m+1,h1,by omega,by omega,by unfold LNG;rw [h4];simp,h6⟩
theorem z7b {X:Nat} (hX:X<2 ^ 64) (more:List Int):LNG (z0h X ++ more)=((X:Int),((NTOP X+1:Nat):Int),0):=by
  unfold LNG
  rw [zey hX more _ (by rw [List.length_append,z0H])]
  simp
end Go.Proofs.YthjeeblddipiiaaGreatDoor

namespace Go.Proofs.YthjeeblddipiiaaGreatDoor
open Go.RowKit
abbrev DANS:=Int × Nat × Nat × Nat × List Int
def DERR (E:Int):DANS:=(E,0,0,0,[])
def DC3 (PF:Nat→Nat→Int × List Nat) (X Y:Nat) (t:List Int):DANS:=
  if (PF X Y).1≠0 then DERR (PF X Y).1 else if t.length<32*(PF X Y).2.length then DERR 11 else if 32*(PF X Y).2.length<t.length then DERR 13 else (0,X,Y,(PF X Y).2.length,t)
def DC2 (PF:Nat→Nat→Int × List Nat) (X:Nat) (t:List Int):DANS:=
  if (LNG t).2.2≠0 then DERR (LNG t).2.2 else DC3 PF X (LNG t).1.toNat (t.drop (LNG t).2.1.toNat)
def DC1 (chk:Nat→Bool) (PF:Nat→Nat→Int × List Nat) (t:List Int):DANS:=
  if (LNG t).2.2≠0 then DERR (LNG t).2.2 else if chk (LNG t).1.toNat=true then DERR 30 else DC2 PF (LNG t).1.toNat (t.drop (LNG t).2.1.toNat)
def DC0 (K:Int) (chk:Nat→Bool) (PF:Nat→Nat→Int × List Nat) (l:List Int):DANS:=
  if l.length=0 then DERR 11 else if l.getD 0 0≠K then DERR 14 else DC1 chk PF (l.drop 1)
def z2G (n:Nat):Bool:=decide (4611686018427387904<n)
def DEC (l:List Int):DANS:=DC0 77 z2G (fun S I=>PLA I S) l
def DEX (l:List Int):DANS:=DC0 80 (fun _=>false) PPA l
end Go.Proofs.YthjeeblddipiiaaGreatDoor

namespace Go.Proofs.YthjeeblddipiiaaGreatDoor
open Go.RowKit
set_option maxRecDepth 100000
def STP (P:World→Prop) (Fin:Int→World→Prop) (e:Ending) (w':World):Prop:=∃ E:Int,e=.returned (.int .i64 E)∧(E=0→P w')∧(E≠0→Fin E w')
set_option maxHeartbeats 2000000 in
theorem z5K (rb gl:Nat) (PP:Nat→World→Prop) (Fin:Int→World→Prop)
    (hc0:∀ W,PP 0 W→W.cell? ⟨gl,0,none⟩=some (.func (.func 52) #[.pointer (some ⟨rb,0,none⟩)] #[]))
    (hc1:∀ W,PP 1 W→W.cell? ⟨gl,1,none⟩=some (.func (.func 53) #[.pointer (some ⟨rb,0,none⟩)] #[]))
    (hc2:∀ W,PP 2 W→W.cell? ⟨gl,2,none⟩=some (.func (.func 54) #[.pointer (some ⟨rb,0,none⟩)] #[]))
    (hc3:∀ W,PP 3 W→W.cell? ⟨gl,3,none⟩=some (.func (.func 55) #[.pointer (some ⟨rb,0,none⟩)] #[]))
    (hd0:∀ W,PP 0 W→Calls Tryz.prog 52 #[.pointer (some ⟨rb,0,none⟩)] W (STP (PP 1) Fin))
    (hd1:∀ W,PP 1 W→Calls Tryz.prog 53 #[.pointer (some ⟨rb,0,none⟩)] W (STP (PP 2) Fin))
    (hd2:∀ W,PP 2 W→Calls Tryz.prog 54 #[.pointer (some ⟨rb,0,none⟩)] W (STP (PP 3) Fin))
    (hd3:∀ W,PP 3 W→Calls Tryz.prog 55 #[.pointer (some ⟨rb,0,none⟩)] W (STP (PP 4) Fin))
    (w:World) (h:PP 0 w):Calls Tryz.prog 51 #[.slice (some ⟨gl,0,none⟩) 4 4] w (STP (PP 4) Fin):=by
  have C0:Aside (∀ W,PP 0 W→W.cell? ⟨gl,0,none⟩=some (.func (.func 52) #[.pointer (some ⟨rb,0,none⟩)] #[])):=hc0
  have D0:Aside (∀ W,PP 0 W→Calls Tryz.prog 52 #[.pointer (some ⟨rb,0,none⟩)] W (STP (PP 1) Fin)):=hd0
  have C1:Aside (∀ W,PP 1 W→W.cell? ⟨gl,1,none⟩=some (.func (.func 53) #[.pointer (some ⟨rb,0,none⟩)] #[])):=hc1
  have D1:Aside (∀ W,PP 1 W→Calls Tryz.prog 53 #[.pointer (some ⟨rb,0,none⟩)] W (STP (PP 2) Fin)):=hd1
  have C2:Aside (∀ W,PP 2 W→W.cell? ⟨gl,2,none⟩=some (.func (.func 54) #[.pointer (some ⟨rb,0,none⟩)] #[])):=hc2
  have D2:Aside (∀ W,PP 2 W→Calls Tryz.prog 54 #[.pointer (some ⟨rb,0,none⟩)] W (STP (PP 3) Fin)):=hd2
  have C3:Aside (∀ W,PP 3 W→W.cell? ⟨gl,3,none⟩=some (.func (.func 55) #[.pointer (some ⟨rb,0,none⟩)] #[])):=hc3
  have D3:Aside (∀ W,PP 3 W→Calls Tryz.prog 55 #[.pointer (some ⟨rb,0,none⟩)] W (STP (PP 4) Fin)):=hd3
  have H0:Aside (PP 0 w):=h
  clear hc0 hc1 hc2 hc3 hd0 hd1 hd2 hd3 h
  go_enter Tryz.func51,Tryz.ntmps51
  go_wp2
  go_loopg [8] 4 (fun q s8 wx=>∃ k:Nat,s8=.int .i64 (k:Int)∧Aside (k+q=4∧PP k wx))
  case atStart=>exact ⟨0,rfl,by omega,H0.out⟩
  case round=>
    obtain ⟨k,rfl,A⟩:=hrel
    cases gk with
    | zero=>
      obtain rfl:k=4:=by have:=A.out.1;omega
      have R:Aside (PP 4 wr):=A.out.2
      clear A C0 C1 C2 C3 D0 D1 D2 D3 H0
      go_wp2
      go_ret
      exact ⟨0,rfl,fun _=>R.out,fun h=>absurd rfl h⟩
    | succ q=>
      have hk:k=0∨k=1∨k=2∨k=3:=by have:=A.out.1;omega
      rcases hk with rfl | rfl | rfl | rfl
      · have hc:=C0.out wr A.out.2
        have hd:=D0.out wr A.out.2
        have R:Aside (0+1+q=4):=by have:=A.out.1;show 0+1+q=4;omega
        clear A C0 C1 C2 C3 D0 D1 D2 D3 H0
        go_wp2_with fail
        refine hd.mono ?_
        rintro e w1 ⟨E,rfl,h1,h2⟩
        clear hd hc
        by_cases hE:E=0
        · subst hE
          have S:Aside (PP (0+1) w1):=h1 rfl
          clear h1 h2
          go_wp2
          go_roundg q
          case measure=>exact Nat.lt_succ_self _
          case rel=>exact ⟨0+1,rfl,R.out,S.out⟩
        · have hE':(E != 0)=true:=by simp [hE]
          have S:Aside (¬ E=0∧Fin E w1):=⟨hE,h2 hE⟩
          clear h1 h2 hE
          go_wp2
          go_ret
          exact ⟨E,rfl,fun h=>absurd h S.out.1,fun _=>S.out.2⟩
      · have hc:=C1.out wr A.out.2
        have hd:=D1.out wr A.out.2
        have R:Aside (1+1+q=4):=by have:=A.out.1;show 1+1+q=4;omega
        clear A C0 C1 C2 C3 D0 D1 D2 D3 H0
        go_wp2_with fail
        refine hd.mono ?_
        rintro e w1 ⟨E,rfl,h1,h2⟩
        clear hd hc
        by_cases hE:E=0
        · subst hE
          have S:Aside (PP (1+1) w1):=h1 rfl
          clear h1 h2
          go_wp2
          go_roundg q
          case measure=>exact Nat.lt_succ_self _
          case rel=>exact ⟨1+1,rfl,R.out,S.out⟩
        · have hE':(E != 0)=true:=by simp [hE]
          have S:Aside (¬ E=0∧Fin E w1):=⟨hE,h2 hE⟩
          clear h1 h2 hE
          go_wp2
          go_ret
          exact ⟨E,rfl,fun h=>absurd h S.out.1,fun _=>S.out.2⟩
      · have hc:=C2.out wr A.out.2
        have hd:=D2.out wr A.out.2
        have R:Aside (2+1+q=4):=by have:=A.out.1;show 2+1+q=4;omega
        clear A C0 C1 C2 C3 D0 D1 D2 D3 H0
        go_wp2_with fail
        refine hd.mono ?_
        rintro e w1 ⟨E,rfl,h1,h2⟩
        clear hd hc
        by_cases hE:E=0
        · subst hE
          have S:Aside (PP (2+1) w1):=h1 rfl
          clear h1 h2
          go_wp2
          go_roundg q
          case measure=>exact Nat.lt_succ_self _
          case rel=>exact ⟨2+1,rfl,R.out,S.out⟩
        · have hE':(E != 0)=true:=by simp [hE]
          have S:Aside (¬ E=0∧Fin E w1):=⟨hE,h2 hE⟩
          clear h1 h2 hE
          go_wp2
          go_ret
          exact ⟨E,rfl,fun h=>absurd h S.out.1,fun _=>S.out.2⟩
      · have hc:=C3.out wr A.out.2
        have hd:=D3.out wr A.out.2
        have R:Aside (3+1+q=4):=by have:=A.out.1;show 3+1+q=4;omega
        clear A C0 C1 C2 C3 D0 D1 D2 D3 H0
        go_wp2_with fail
        refine hd.mono ?_
        rintro e w1 ⟨E,rfl,h1,h2⟩
        clear hd hc
        by_cases hE:E=0
        · subst hE
          have S:Aside (PP (3+1) w1):=h1 rfl
          clear h1 h2
          go_wp2
          go_roundg q
          case measure=>exact Nat.lt_succ_self _
          case rel=>exact ⟨3+1,rfl,R.out,S.out⟩
        · have hE':(E != 0)=true:=by simp [hE]
          have S:Aside (¬ E=0∧Fin E w1):=⟨hE,h2 hE⟩
          clear h1 h2 hE
          go_wp2
          go_ret
          exact ⟨E,rfl,fun h=>absurd h S.out.1,fun _=>S.out.2⟩
set_option maxHeartbeats 2000000 in
theorem z5L (rb gl:Nat) (PP:Nat→World→Prop) (Fin:Int→World→Prop)
    (hc0:∀ W,PP 0 W→W.cell? ⟨gl,0,none⟩=some (.func (.func 67) #[.pointer (some ⟨rb,0,none⟩)] #[]))
    (hc1:∀ W,PP 1 W→W.cell? ⟨gl,1,none⟩=some (.func (.func 68) #[.pointer (some ⟨rb,0,none⟩)] #[]))
    (hc2:∀ W,PP 2 W→W.cell? ⟨gl,2,none⟩=some (.func (.func 69) #[.pointer (some ⟨rb,0,none⟩)] #[]))
    (hc3:∀ W,PP 3 W→W.cell? ⟨gl,3,none⟩=some (.func (.func 70) #[.pointer (some ⟨rb,0,none⟩)] #[]))
    (hd0:∀ W,PP 0 W→Calls Tryz.prog 67 #[.pointer (some ⟨rb,0,none⟩)] W (STP (PP 1) Fin))
    (hd1:∀ W,PP 1 W→Calls Tryz.prog 68 #[.pointer (some ⟨rb,0,none⟩)] W (STP (PP 2) Fin))
    (hd2:∀ W,PP 2 W→Calls Tryz.prog 69 #[.pointer (some ⟨rb,0,none⟩)] W (STP (PP 3) Fin))
    (hd3:∀ W,PP 3 W→Calls Tryz.prog 70 #[.pointer (some ⟨rb,0,none⟩)] W (STP (PP 4) Fin))
    (w:World) (h:PP 0 w):Calls Tryz.prog 51 #[.slice (some ⟨gl,0,none⟩) 4 4] w (STP (PP 4) Fin):=by
  have C0:Aside (∀ W,PP 0 W→W.cell? ⟨gl,0,none⟩=some (.func (.func 67) #[.pointer (some ⟨rb,0,none⟩)] #[])):=hc0
  have D0:Aside (∀ W,PP 0 W→Calls Tryz.prog 67 #[.pointer (some ⟨rb,0,none⟩)] W (STP (PP 1) Fin)):=hd0
  have C1:Aside (∀ W,PP 1 W→W.cell? ⟨gl,1,none⟩=some (.func (.func 68) #[.pointer (some ⟨rb,0,none⟩)] #[])):=hc1
  have D1:Aside (∀ W,PP 1 W→Calls Tryz.prog 68 #[.pointer (some ⟨rb,0,none⟩)] W (STP (PP 2) Fin)):=hd1
  have C2:Aside (∀ W,PP 2 W→W.cell? ⟨gl,2,none⟩=some (.func (.func 69) #[.pointer (some ⟨rb,0,none⟩)] #[])):=hc2
  have D2:Aside (∀ W,PP 2 W→Calls Tryz.prog 69 #[.pointer (some ⟨rb,0,none⟩)] W (STP (PP 3) Fin)):=hd2
  have C3:Aside (∀ W,PP 3 W→W.cell? ⟨gl,3,none⟩=some (.func (.func 70) #[.pointer (some ⟨rb,0,none⟩)] #[])):=hc3
  have D3:Aside (∀ W,PP 3 W→Calls Tryz.prog 70 #[.pointer (some ⟨rb,0,none⟩)] W (STP (PP 4) Fin)):=hd3
  have H0:Aside (PP 0 w):=h
  clear hc0 hc1 hc2 hc3 hd0 hd1 hd2 hd3 h
  go_enter Tryz.func51,Tryz.ntmps51
  go_wp2
  go_loopg [8] 4 (fun q s8 wx=>∃ k:Nat,s8=.int .i64 (k:Int)∧Aside (k+q=4∧PP k wx))
  case atStart=>exact ⟨0,rfl,by omega,H0.out⟩
  case round=>
    obtain ⟨k,rfl,A⟩:=hrel
    cases gk with
    | zero=>
      obtain rfl:k=4:=by have:=A.out.1;omega
      have R:Aside (PP 4 wr):=A.out.2
      clear A C0 C1 C2 C3 D0 D1 D2 D3 H0
      go_wp2
      go_ret
      exact ⟨0,rfl,fun _=>R.out,fun h=>absurd rfl h⟩
    | succ q=>
      have hk:k=0∨k=1∨k=2∨k=3:=by have:=A.out.1;omega
      rcases hk with rfl | rfl | rfl | rfl
      · have hc:=C0.out wr A.out.2
        have hd:=D0.out wr A.out.2
        have R:Aside (0+1+q=4):=by have:=A.out.1;show 0+1+q=4;omega
        clear A C0 C1 C2 C3 D0 D1 D2 D3 H0
        go_wp2_with fail
        refine hd.mono ?_
        rintro e w1 ⟨E,rfl,h1,h2⟩
        clear hd hc
        by_cases hE:E=0
        · subst hE
          have S:Aside (PP (0+1) w1):=h1 rfl
          clear h1 h2
          go_wp2
          go_roundg q
          case measure=>exact Nat.lt_succ_self _
          case rel=>exact ⟨0+1,rfl,R.out,S.out⟩
        · have hE':(E != 0)=true:=by simp [hE]
          have S:Aside (¬ E=0∧Fin E w1):=⟨hE,h2 hE⟩
          clear h1 h2 hE
          go_wp2
          go_ret
          exact ⟨E,rfl,fun h=>absurd h S.out.1,fun _=>S.out.2⟩
      · have hc:=C1.out wr A.out.2
        have hd:=D1.out wr A.out.2
        have R:Aside (1+1+q=4):=by have:=A.out.1;show 1+1+q=4;omega
        clear A C0 C1 C2 C3 D0 D1 D2 D3 H0
        go_wp2_with fail
        refine hd.mono ?_
        rintro e w1 ⟨E,rfl,h1,h2⟩
        clear hd hc
        by_cases hE:E=0
        · subst hE
          have S:Aside (PP (1+1) w1):=h1 rfl
          clear h1 h2
          go_wp2
          go_roundg q
          case measure=>exact Nat.lt_succ_self _
          case rel=>exact ⟨1+1,rfl,R.out,S.out⟩
        · have hE':(E != 0)=true:=by simp [hE]
          have S:Aside (¬ E=0∧Fin E w1):=⟨hE,h2 hE⟩
          clear h1 h2 hE
          go_wp2
          go_ret
          exact ⟨E,rfl,fun h=>absurd h S.out.1,fun _=>S.out.2⟩
      · have hc:=C2.out wr A.out.2
        have hd:=D2.out wr A.out.2
        have R:Aside (2+1+q=4):=by have:=A.out.1;show 2+1+q=4;omega
        clear A C0 C1 C2 C3 D0 D1 D2 D3 H0
        go_wp2_with fail
        refine hd.mono ?_
        rintro e w1 ⟨E,rfl,h1,h2⟩
        clear hd hc
        by_cases hE:E=0
        · subst hE
          have S:Aside (PP (2+1) w1):=h1 rfl
          clear h1 h2
          go_wp2
          go_roundg q
          case measure=>exact Nat.lt_succ_self _
          case rel=>exact ⟨2+1,rfl,R.out,S.out⟩
        · have hE':(E != 0)=true:=by simp [hE]
          have S:Aside (¬ E=0∧Fin E w1):=⟨hE,h2 hE⟩
          clear h1 h2 hE
          go_wp2
          go_ret
          exact ⟨E,rfl,fun h=>absurd h S.out.1,fun _=>S.out.2⟩
      · have hc:=C3.out wr A.out.2
        have hd:=D3.out wr A.out.2
        have R:Aside (3+1+q=4):=by have:=A.out.1;show 3+1+q=4;omega
        clear A C0 C1 C2 C3 D0 D1 D2 D3 H0
        go_wp2_with fail
        refine hd.mono ?_
        rintro e w1 ⟨E,rfl,h1,h2⟩
        clear hd hc
        by_cases hE:E=0
        · subst hE
          have S:Aside (PP (3+1) w1):=h1 rfl
          clear h1 h2
          go_wp2
          go_roundg q
          case measure=>exact Nat.lt_succ_self _
          case rel=>exact ⟨3+1,rfl,R.out,S.out⟩
        · have hE':(E != 0)=true:=by simp [hE]
          have S:Aside (¬ E=0∧Fin E w1):=⟨hE,h2 hE⟩
          clear h1 h2 hE
          go_wp2
          go_ret
          exact ⟨E,rfl,fun h=>absurd h S.out.1,fun _=>S.out.2⟩
end Go.Proofs.YthjeeblddipiiaaGreatDoor
