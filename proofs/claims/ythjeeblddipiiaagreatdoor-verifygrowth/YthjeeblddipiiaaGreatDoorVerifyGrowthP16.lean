/- Texts of VerifyGrowth, one behind the other: VerifyPeaks, VerifyClimb, VerifyBag, VerifyCount, VerifyUnder. -/
import Derived.Test.YthjeeblddipiiaaGreatDoorVerifyGrowthP4
import Derived.Test.YthjeeblddipiiaaGreatDoorVerifyGrowthP5
import Derived.Test.YthjeeblddipiiaaGreatDoorVerifyGrowthP6
import Derived.Test.YthjeeblddipiiaaGreatDoorVerifyGrowthP15
namespace Go.Proofs.YthjeeblddipiiaaGreatDoor
open Go.RowKit
set_option maxRecDepth 100000
def CAT (M:Nat→Nat→List Int) (ss:List (Nat × Nat)):List Int:=ss.flatMap fun s=>M s.1 s.2
theorem zb5 {M:Nat→Nat→List Int} {ss:List (Nat × Nat)} (h:∀ s∈ss,(M s.1 s.2).length=32):(CAT M ss).length=32*ss.length:=by
  induction ss with
  | nil=>rfl
  | cons a l ih=>
    have h1:=h a (by simp)
    have h2:=ih (fun s hs=>h s (by simp [hs]))
    simp only [CAT,List.flatMap_cons,List.length_append,List.length_cons] at *
    omega
theorem z5j {M:Nat→Nat→List Int} {ss:List (Nat × Nat)} {i h k:Nat} (hs:ss[i]?=some (h,k)):CAT M (ss.take (i+1))=CAT M (ss.take i) ++ M h k:=by
  rw [List.take_add_one,hs]
  simp [CAT]
set_option maxHeartbeats 2000000 in
theorem z4r (mb N n:Nat) (hn:n≤4611686018427387904) (M:Nat→Nat→List Int) (w:World) (hM:SMAP w mb N M) (hH:∀ s∈SPAN 0 n,(M s.1 s.2).length=32) (hT:Tabled w) (h0:0<w.heap.size):
    Calls Tryz.prog 33 #[.map (some mb),.int .u64 (n:Int)] w fun e w'=>∃ a c,e=.returned (.slice a (PC n) c)∧w'.ownsRow w.heap.size 32 32 (.slice a (PC n) c) (PC n) (z00 (CAT M (SPAN 0 n)))∧Below w.heap.size w w':=by
  have cP:=z3Q n hn w hT h0
  have hpl:=z2v hn
  have hlen:(SPAN 0 n).length=PC n:=by
    have:=z2f (n:=n) (by omega)
    rw [hpl] at this
    simpa [PLCS] using this
  have hnd:∀ i h k,(SPAN 0 n)[i]?=some (h,k)→Node h k:=fun i h k e=>(z1d hn (Nat.zero_le n)).node e
  have hpc:PC n≤64:=z1c 64 n (by omega)
  rw [hpl] at cP
  generalize SPAN 0 n=ss at *
  generalize PC n=m at *
  have HA:Aside (ss.length=m∧m≤64∧(∀ i h k,ss[i]?=some (h,k)→Node h k)∧(∀ s∈ss,(M s.1 s.2).length=32)∧SMAP w mb N M):=⟨hlen,hpc,hnd,hH,hM⟩
  clear hlen hpc hnd hH hM hpl hT h0 hn
  go_enter Tryz.func33,Tryz.ntmps33
  go_wp2_with fail
  refine cP.mono ?_
  rintro e w1 ⟨gp,cp,rfl,hrow,hb⟩
  clear cP
  obtain ⟨cur,hcs,hmk⟩:=z3X m (by have:=HA.out;omega) w1
  have hgp:=(hrow.lt gp rfl).2
  have R0:Aside ((w1.alloc (.cells cur 32)).ownsRow w.heap.size 32 32 (.slice (some ⟨w1.heap.size,0,none⟩) 0 m) 0 (z00 (CAT M (ss.take 0)))∧Below w.heap.size w (w1.alloc (.cells cur 32))∧(∀ i,i<m→(w1.alloc (.cells cur 32)).cell? ⟨gp,i,none⟩=(UCELLS (PLCS ss))[i]?)∧gp<(w1.alloc (.cells cur 32)).heap.size∧gp≠w1.heap.size∧w1.heap.size<(w1.alloc (.cells cur 32)).heap.size):=by
    refine ⟨z0J (World.ownsRow_made w1 cur m (Nat.le_refl _) (by simp [maxLen];have:=HA.out;omega) hcs) hb.size,hb.alloc hb.size _,fun i hi=>?_,by simp;omega,by omega,by simp⟩
    have hbx:Below w1.heap.size w1 (w1.alloc (.cells cur 32)):=(Below.refl _ _).alloc (Nat.le_refl _) _
    exact (hbx.cell (p:=⟨gp,i,none⟩) hgp).trans (hrow.cellAt i (by omega))
  clear hrow hb hcs hgp
  go_wp2_with fail
  obtain ⟨gl,hgl⟩:∃ gl,gl=w1.heap.size:=⟨_,rfl⟩
  rw [← hgl] at R0 ⊢
  clear hgl hmk
  generalize w1.alloc (.cells cur 32)=w2 at *
  go_loopg [6,18] m (fun q s6 s18 wx=>∃ i:Nat,s18=.int .i64 (i:Int)∧Aside (i+q=m∧wx.ownsRow w.heap.size 32 32 s6 i (z00 (CAT M (ss.take i)))∧Below w.heap.size w wx∧(∀ i,i<m→wx.cell? ⟨gp,i,none⟩=(UCELLS (PLCS ss))[i]?)∧gp<wx.heap.size∧s6.ownBlock≠some gp))
  case atStart=>exact ⟨0,rfl,by omega,R0.out.1,R0.out.2.1,R0.out.2.2.1,R0.out.2.2.2.1,fun e=>R0.out.2.2.2.2.1 (by simpa [Value.ownBlock] using e.symm)⟩
  case round=>
    obtain ⟨i,rfl,A⟩:=hrel
    clear R0
    cases gk with
    | zero=>
      obtain rfl:i=m:=by have:=A.out.1;omega
      have hlt:¬ (i:Int)<(i:Int):=by omega
      have R:Aside (∃ a c,u6=.slice a i c∧wr.ownsRow w.heap.size 32 32 (.slice a i c) i (z00 (CAT M ss))∧Below w.heap.size w wr):=by
        obtain ⟨_,h1,h2,_⟩:=A.out
        rw [List.take_of_length_le (by have:=HA.out;omega)] at h1
        obtain ⟨a,c,rfl,_⟩:=zb4 h1
        exact ⟨a,c,rfl,h1,h2⟩
      clear A HA
      go_wp2
      go_ret
      obtain ⟨a,c,e,h1,h2⟩:=R.out
      exact ⟨a,c,by rw [e];rfl,h1,h2⟩
    | succ q=>
      obtain ⟨a1,a2,a3,a4,a5,a6⟩:=A.out
      obtain ⟨h1,h2,h3,h4,h5⟩:=HA.out
      have hlt:(i:Int)<(m:Int):=by omega
      obtain ⟨⟨h,k⟩,hs⟩:∃ s,ss[i]?=some s:=⟨_,List.getElem?_eq_getElem (by omega)⟩
      have hN:=h3 i h k hs
      have hc:wr.cell? ⟨gp,i,none⟩=some (.int .u64 ((PLC h k:Nat):Int)):=by rw [a4 i (by omega)];simp [UCELLS,PLCS,hs]
      have cS:=z6f h k hN wr
      have h32:(M h k).length=32:=h4 (h,k) (List.mem_of_getElem? hs)
      have R:Aside (i+1+q=m∧wr.ownsRow w.heap.size 32 32 u6 i (z00 (CAT M (ss.take i)))∧Below w.heap.size w wr∧(∀ i,i<m→wr.cell? ⟨gp,i,none⟩=(UCELLS (PLCS ss))[i]?)∧gp<wr.heap.size∧u6.ownBlock≠some gp∧CAT M (ss.take (i+1))=CAT M (ss.take i) ++ M h k∧m≤64∧Node h k∧SMAP w mb N M):=⟨by omega,a2,a3,a4,a5,a6,z5j hs,h2,hN,h5⟩
      have E1:Aside (wrap64 ((i:Int)+1)=((i+1:Nat):Int)):=by show wrap64 ((i:Int)+1)=((i+1:Nat):Int);unfold wrap64;omega
      clear a1 a2 a3 a4 a5 a6 h1 h2 h3 h4 h5 hs hN A HA
      generalize PLC h k=pl at *
      go_wp2_with fail
      refine cS.mono ?_
      rintro e w3 ⟨rfl,hb3⟩
      clear cS hc
      have R3:Aside (w3.ownsRow w.heap.size 32 32 u6 i (z00 (CAT M (ss.take i)))∧Below w.heap.size w w3∧(∀ i,i<m→w3.cell? ⟨gp,i,none⟩=(UCELLS (PLCS ss))[i]?)∧gp<w3.heap.size):=⟨z0c R.out.2.1 hb3,R.out.2.2.1.trans (hb3.mono R.out.2.2.1.size),fun i hi=>(hb3.cell (p:=⟨gp,i,none⟩) R.out.2.2.2.2.1).trans (R.out.2.2.2.1 i hi),Nat.lt_of_lt_of_le R.out.2.2.2.2.1 hb3.size⟩
      clear hb3
      have lk:(Instr.lookup 77 (.map (some mb)) (.agg #[.int .u8 (h:Int),.int .u64 (k:Int)]) false).run Tryz.prog (w3.alloc (.cells #[.int .u8 (h:Int),.int .u64 (k:Int)] 81))=.ok (.agg (z00 (M h k)).toArray) (w3.alloc (.cells #[.int .u8 (h:Int),.int .u64 (k:Int)] 81)):=by
        have hb4:=R3.out.2.1.alloc (o:=.cells #[.int .u8 (h:Int),.int .u64 (k:Int)] 81) R3.out.2.1.size
        obtain ⟨_,_,_,_,_,_,_,_,r9,r10⟩:=R.out
        exact (r10.below hb4).look (by have:=r9.1;omega) (by have:=r9.index_lt;omega)
      generalize M h k=H at *
      go_wp2_with (first
        | (refine z6X _ rfl 22 32 (.tmp 30) rfl (z00 H).toArray rfl 32 _ _ Tryz.underlying22 z2g (by simp [z00,h32]) rfl (by decide) (by decide) ?_)
        | (at_builtin;refine z83 _ rfl (.tmp 27) (.tmp 31) rfl w.heap.size u6 i _ rfl ((R3.out.1.alloc _).alloc _) _ 1 H h32 rfl (Has.new _ _ _) (by have:=R.out;omega) (by have:=R3.out.2.1.size;simp;omega) ?_;intro g4 c4 w4 hown hgrow hat hg))
      have Z:Aside (i+1+q=m∧w4.ownsRow w.heap.size 32 32 (.slice (some ⟨g4,0,none⟩) (i+1) c4) (i+1) (z00 (CAT M (ss.take (i+1))))∧Below w.heap.size w w4∧(∀ i,i<m→w4.cell? ⟨gp,i,none⟩=(UCELLS (PLCS ss))[i]?)∧gp<w4.heap.size∧(Value.slice (some ⟨g4,0,none⟩) (i+1) c4).ownBlock≠some gp):=by
        obtain ⟨r1,r2,r3,r4,r5,r6,r7,r8,r9,r10⟩:=R.out
        obtain ⟨t1,t2,t3,t4⟩:=R3.out
        have hsz:=zaO hgrow
        simp at hsz
        refine ⟨r1,by rw [r7,z0y];exact hown,((t2.alloc t2.size _).alloc (by have:=t2.size;simp;omega) _).grown hgrow (by have:=t2.size;simp;omega) (fun k e=>(t1.lt k e).1),fun j hj=>?_,by omega,fun e=>?_⟩
        · rw [← t3 j hj]
          have hbx:Below w3.heap.size w3 ((w3.alloc (.cells #[.int .u8 (h:Int),.int .u64 (k:Int)] 81)).alloc (.cells (z00 H).toArray 32)):=((Below.refl _ _).alloc (Nat.le_refl _) _).alloc (by simp) _
          exact (World.cell?_of_block (a:=⟨gp,j,none⟩) (hgrow.block gp (by simp;omega) fun e=>r6 e.symm)).trans (hbx.cell (p:=⟨gp,j,none⟩) t4)
        · have e:g4=gp:=by simpa [Value.ownBlock] using e
          rcases hat with h' | h'
          · exact r6 (by rw [h',e])
          · simp at h'
            omega
      clear hown hgrow hat hg R R3 lk h32
      have e1:=E1.out
      go_wp2
      go_roundg q
      case measure=>exact Nat.lt_succ_self _
      case rel=>exact ⟨i+1,by first | rfl | (rw [E1.out]),Z.out⟩
end Go.Proofs.YthjeeblddipiiaaGreatDoor

namespace Go.Proofs.YthjeeblddipiiaaGreatDoor
open Go.RowKit
set_option maxRecDepth 100000
def JN (d:Int) (I:Nat) (M:Nat→Nat→List Int):Nat→Nat→Nat→List Int
  | 0=>M
  | t+1=>MPUT (JN d I M t) (t+1) (I / 2 ^ (t+1)) (z0L d (JN d I M t t (2*(I / 2 ^ (t+1)))) (JN d I M t t (2*(I / 2 ^ (t+1))+1)))
def CLM (d:Int) (leaf:List Int) (S I:Nat) (l:List Int):Nat→Nat→List Int:=JN d I (MPUT (HAND (PSP I S) l (PSP I S).length) 0 I leaf) (RISE I S)
def CLA (d:Int) (leaf:List Int) (S I n:Nat) (l:List Int):Int × Nat × List Int:=if (PLA I S).1≠0 then ((PLA I S).1,0,[]) else if n≠(PLA I S).2.length then (70,0,[]) else (0,PC S,CAT (CLM d leaf S I l) (SPAN 0 S))
theorem z5I:IsH ZND:=⟨rfl,fun x hx=>by
  have:x=0:=by simpa [ZND] using hx
  omega⟩
theorem z3G {M:Nat→Nat→List Int} (h:∀ a b,IsH (M a b)) {x:List Int} (hx:IsH x) (p q a b:Nat):IsH (MPUT M p q x a b):=by
  unfold MPUT
  split
  · exact hx
  · exact h a b
theorem z8k {l:List Int} {n i:Nat} (hl:l.length=32*n) (hr:∀ x∈l,0≤x∧x≤255) (hi:i<n):IsH (HSH l i):=⟨z0S hl hi,fun x hx=>hr x (z9U hx)⟩
theorem z3H {ss:List (Nat × Nat)} {l:List Int} {n:Nat} (hl:l.length=32*n) (hr:∀ x∈l,0≤x∧x≤255):∀ i,i≤n→∀ a b,IsH (HAND ss l i a b)
  | 0,_,_,_=>z5I
  | i+1,h,a,b=>z3G (z3H hl hr i (by omega)) (z8k hl hr (by omega)) _ _ a b
theorem z7z {d:Int} {I:Nat} {M:Nat→Nat→List Int} (h:∀ a b,IsH (M a b)):∀ t a b,IsH (JN d I M t a b)
  | 0,a,b=>h a b
  | t+1,a,b=>z3G (z7z h t) (z45 _ _ _) _ _ a b
set_option maxHeartbeats 4000000 in
theorem zb6 (d:Int) (leaf:List Int) (hleaf:IsH leaf) (S I:Nat) (hIS:I<S) (hS:S≤4611686018427387904) (a:Option Addr) (n c:Nat) (hn:n=(PSP I S).length) (l:List Int) (w:World) (hF:Flat w a n l) (hT:Tabled w) (hX:HX.Tabled w) (h0:2<w.heap.size):
    Calls Tryz.prog 11 #[.int .i64 d,.agg (z00 leaf).toArray,.agg #[.int .u64 (S:Int),.int .u64 (I:Int),.slice a n c]] w fun e w'=>∃ a c,e=.returned (.tuple #[.slice a (PC S) c,.int .i64 0])∧w'.ownsRow w.heap.size 32 32 (.slice a (PC S) c) (PC S) (z00 (CAT (CLM d leaf S I l) (SPAN 0 S)))∧Below w.heap.size w w':=by
  have l32:=hleaf.1
  have HA:Aside (IsH leaf∧I<S∧S≤4611686018427387904∧n=(PSP I S).length∧Flat w a n l∧Tabled w∧HX.Tabled w∧2<w.heap.size):=⟨hleaf,hIS,hS,hn,hF,hT,hX,h0⟩
  clear hleaf hIS hS hn hF hT hX h0
  go_enter Tryz.func11,Tryz.ntmps11
  go_upto_region 1 with fail
  obtain ⟨b4,hb4⟩:∃ b4,b4=w.heap.size:=⟨_,rfl⟩
  have R0:Aside (Below w.heap.size w ((w.alloc (.cells (z00 leaf).toArray 32)).alloc (.cells #[.int .u64 (S:Int),.int .u64 (I:Int),.slice a n c] 27))∧Has ((w.alloc (.cells (z00 leaf).toArray 32)).alloc (.cells #[.int .u64 (S:Int),.int .u64 (I:Int),.slice a n c] 27)) b4 (z00 leaf).toArray 32∧Has ((w.alloc (.cells (z00 leaf).toArray 32)).alloc (.cells #[.int .u64 (S:Int),.int .u64 (I:Int),.slice a n c] 27)) (b4+1) #[.int .u64 (S:Int),.int .u64 (I:Int),.slice a n c] 27):=by
    rw [hb4]
    exact ⟨((Below.refl _ _).alloc (Nat.le_refl _) _).alloc (by simp) _,(Has.new _ _ _).alloc _,Has.at _ _ _ (by simp)⟩
  rw [← hb4]
  generalize (w.alloc (.cells (z00 leaf).toArray 32)).alloc (.cells #[.int .u64 (S:Int),.int .u64 (I:Int),.slice a n c] 27)=W0 at *
  have HT:Aside (∀ W,Below w.heap.size w W→Tabled W∧HX.Tabled W∧0<W.heap.size∧Flat W a n l∧2<W.heap.size):=fun W h=>by
    obtain ⟨a1,a2,a3,a4,a5,a6,a7,a8⟩:=HA.out
    have hs:=h.size
    exact ⟨a6.below (by omega) h,a7.below h,by omega,a5.below h,by omega⟩
  have HB:Aside (b4=w.heap.size):=hb4
  clear hb4
  have hPL:PLA I S=(0,PLCS (PSP I S)):=by
    obtain ⟨a1,a2,a3,a4,a5,a6,a7,a8⟩:=HA.out
    unfold PLA
    rw [if_neg (by omega),if_neg (by omega)]
  have y0:W0.cell? ⟨b4+1,0,none⟩=some (.int .u64 (S:Int)):=R0.out.2.2.cell 0
  have y1:W0.cell? ⟨b4+1,1,none⟩=some (.int .u64 (I:Int)):=R0.out.2.2.cell 1
  go_wp2_with fail
  have cP:=z5z I S W0 (HT.out _ R0.out.1).1 (HT.out _ R0.out.1).2.2.1
  rw [hPL] at cP
  refine cP.mono ?_
  clear cP y0 y1 hPL
  rintro e w1 ⟨v,rfl,hrow,hb⟩
  dsimp only at *
  have hnl:(PLCS (PSP I S)).length=n:=by have:=HA.out.2.2.2.1;rw [z0o,this]
  rw [hnl] at hrow
  obtain ⟨av,cv,rfl, -⟩:=z0O hrow
  have R1:Aside (Below w.heap.size w w1∧Has w1 b4 (z00 leaf).toArray 32∧Has w1 (b4+1) #[.int .u64 (S:Int),.int .u64 (I:Int),.slice a n c] 27∧w1.ownsRow W0.heap.size 23 1 (.slice av n cv) n (UCELLS (PLCS (PSP I S)))):=⟨R0.out.1.trans (hb.mono R0.out.1.size),R0.out.2.1.keep hb,R0.out.2.2.keep hb,hrow⟩
  clear hrow hb R0 hnl
  have y2:w1.cell? ⟨b4+1,2,none⟩=some (.slice a n c):=R1.out.2.2.1.cell 2
  go_wp2_with fail
  have hfew:n≤126:=by obtain ⟨a1,a2,a3,a4,_⟩:=HA.out;have:=z9T a2 a3;omega
  have hnd:∀ s∈PSP I S,Node s.1 s.2:=by
    obtain ⟨a1,a2,a3,a4,_⟩:=HA.out
    exact fun s hs=>((zeg a2 a3).1 s hs).1
  refine (z75 (PSP I S) hnd W0.heap.size n HA.out.2.2.2.1.symm (by omega) (.slice av n cv) a c l w1 R1.out.2.2.2 (HT.out _ R1.out.1).2.2.2.1).mono ?_
  clear y2 hnd
  rintro e w2 ⟨mb,rfl,hM,hmb,hb⟩
  obtain ⟨M1,hM1⟩:∃ M1,M1=MPUT (HAND (PSP I S) l n) 0 I leaf:=⟨_,rfl⟩
  have hIsM:∀ p q,IsH (M1 p q):=by
    rw [hM1]
    have hF:=(HT.out _ R1.out.1).2.2.2.1
    exact z3G (z3H hF.1 hF.2.2 n (Nat.le_refl _)) HA.out.1 0 I
  obtain ⟨w3,st1,st2,st3⟩:=hM.store (h:=0) (k:=I) (by omega) (by decide) (by have:=HA.out;omega) leaf
  rw [← hM1] at st2
  have st1:(Instr.mapUpdate 77 (.map (some mb)) (.agg #[.int .u8 0,.int .u64 (I:Int)]) (.agg (z00 leaf).toArray)).run Tryz.prog w2=.ok () w3:=st1
  have R2:Aside (Below w.heap.size w w2∧Has w2 b4 (z00 leaf).toArray 32∧Has w2 (b4+1) #[.int .u64 (S:Int),.int .u64 (I:Int),.slice a n c] 27∧b4+1<mb):=⟨R1.out.1.trans (hb.mono R1.out.1.size),R1.out.2.1.keep hb,R1.out.2.2.1.keep hb,by have:=R1.out.2.2.1.lt;omega⟩
  have R3:Aside (Below w.heap.size w w3∧Has w3 (b4+1) #[.int .u64 (S:Int),.int .u64 (I:Int),.slice a n c] 27∧SMAP w3 mb (n+1) M1∧(∀ p q,IsH (M1 p q))∧b4+1<mb∧M1=MPUT (HAND (PSP I S) l n) 0 I leaf):=⟨R2.out.1.grown st3 R2.out.1.size (fun k e=>by cases e;have:=R2.out.2.2.2;have:=HB.out;omega),R2.out.2.2.1.grown st3 (by have:=R2.out.2.2.2;simp;omega),st2,hIsM,R2.out.2.2.2,hM1⟩
  have y1:w2.cell? ⟨b4+1,1,none⟩=some (.int .u64 (I:Int)):=R2.out.2.2.1.cell 1
  have hH4:=R2.out.2.1
  have z0:w3.cell? ⟨b4+1,0,none⟩=some (.int .u64 (S:Int)):=R3.out.2.1.cell 0
  have z1:w3.cell? ⟨b4+1,1,none⟩=some (.int .u64 (I:Int)):=R3.out.2.1.cell 1
  clear hM hmb hb R1 hM1 hIsM st2 st3 R2
  go_wp2_with (refine wpList_load_row rfl 32 (.tmp 4) rfl b4 rfl 32 (z00 leaf).toArray (0,0) _ hH4 Tryz.underlying32 rfl (z08 l32) ?_)
  refine (z9M I S HA.out.2.1 HA.out.2.2.1 w3).mono ?_
  clear st1 y1 hH4 z0 z1
  rintro e w4 ⟨gp,cp,rfl,hrow,hg,hb⟩
  have hrise:RISE I S≤62:=(z1m HA.out.2.1 HA.out.2.2.1).2.1
  obtain ⟨T,hTT⟩:∃ T,RISE I S=T:=⟨_,rfl⟩
  rw [hTT] at hrise ⊢
  have R4:Aside (Below w.heap.size w w4∧Has w4 (b4+1) #[.int .u64 (S:Int),.int .u64 (I:Int),.slice a n c] 27∧SMAP w4 mb (n+1+0) (JN d I M1 0)):=⟨R3.out.1.trans (hb.mono R3.out.1.size),R3.out.2.1.keep hb,R3.out.2.2.1.below hb⟩
  have KK:Aside ((∀ p q,IsH (M1 p q))∧b4+1<mb∧M1=MPUT (HAND (PSP I S) l n) 0 I leaf∧RISE I S=T∧T≤62∧n≤126∧2<mb):=⟨R3.out.2.2.2.1,R3.out.2.2.2.2.1,R3.out.2.2.2.2.2,hTT,hrise,hfew,by have h1:=HA.out;have h2:=HB.out;have h3:=R3.out.2.2.2.2.1;omega⟩
  clear hrow hg hb R3 hfew hTT hrise
  go_wp2_with fail
  go_loopg [51] T (fun q s51 wx=>∃ t:Nat,s51=.int .i64 (t:Int)∧Aside (t+q=T∧Below w.heap.size w wx∧Has wx (b4+1) #[.int .u64 (S:Int),.int .u64 (I:Int),.slice a n c] 27∧SMAP wx mb (n+1+t) (JN d I M1 t)))
  case atStart=>exact ⟨0,rfl,by omega,R4.out⟩
  case round=>
    obtain ⟨t,rfl,A⟩:=hrel
    clear R4
    cases gk with
    | zero=>
      obtain rfl:t=T:=by have:=A.out.1;omega
      have hlt:¬ (t:Int)<(t:Int):=by omega
      have z0:wr.cell? ⟨b4+1,0,none⟩=some (.int .u64 (S:Int)):=A.out.2.2.1.cell 0
      go_wp2_with fail
      have hH:=HT.out _ A.out.2.1
      have hIs:∀ p q,IsH (JN d I M1 t p q):=z7z KK.out.1 t
      refine (z4r mb (n+1+t) S HA.out.2.2.1 (JN d I M1 t) wr A.out.2.2.2 (fun s _=>(hIs s.1 s.2).1) hH.1 hH.2.2.1).mono ?_
      rintro e w5 ⟨a5,c5,rfl,hrow,hb⟩
      have hC:JN d I M1 t=CLM d leaf S I l:=by
        unfold CLM
        rw [KK.out.2.2.1,KK.out.2.2.2.1,HA.out.2.2.2.1]
      rw [hC] at hrow
      have Z:Aside (w5.ownsRow w.heap.size 32 32 (.slice a5 (PC S) c5) (PC S) (z00 (CAT (CLM d leaf S I l) (SPAN 0 S)))∧Below w.heap.size w w5):=⟨z0J hrow A.out.2.1.size,A.out.2.1.trans (hb.mono A.out.2.1.size)⟩
      clear hrow hb hH hIs hC A KK HT HA
      go_wp2
      go_ret2
      exact ⟨a5,c5,rfl,Z.out⟩
    | succ q=>
      have hlt:(t:Int)<(T:Int):=by have:=A.out.1;omega
      have z1:wr.cell? ⟨b4+1,1,none⟩=some (.int .u64 (I:Int)):=A.out.2.2.1.cell 1
      obtain ⟨t1,ht1⟩:∃ t1,t+1=t1:=⟨_,rfl⟩
      have e1:wrap64 ((t:Int)+1)=(t1:Int):=by have:=KK.out;unfold wrap64;omega
      have e8:IntKind.u8.wrap (t1:Int)=(t1:Int):=by have:=KK.out;simp [IntKind.wrap,IntKind.bits,IntKind.signed];omega
      go_wp2_with fail
      have esh:(I:Int) / 2 ^ min t1 64=((I / 2 ^ t1:Nat):Int):=by
        rw [Nat.min_eq_left (by have:=KK.out;omega)]
        simp [Int.natCast_ediv]
      rw [esh]
      have hI61:2*(I / 2 ^ t1)+1<2 ^ 64:=by
        have h1:I / 2 ^ t1≤I:=Nat.div_le_self _ _
        have:=HA.out
        omega
      have hH:=HT.out _ A.out.2.1
      have hIs:∀ p q,IsH (JN d I M1 t p q):=z7z KK.out.1 t
      refine (za2 mb (n+1+t) t1 t (I / 2 ^ t1) d (JN d I M1 t) ht1.symm (by have:=KK.out;omega) hI61 (by have:=KK.out;omega) wr A.out.2.2.2 (hIs _ _) (hIs _ _) hH.2.1 KK.out.2.2.2.2.2.2).mono ?_
      clear hH hIs hI61 esh
      rintro e w5 ⟨rfl,hM,hg⟩
      have Z:Aside (t+1+q=T∧Below w.heap.size w w5∧Has w5 (b4+1) #[.int .u64 (S:Int),.int .u64 (I:Int),.slice a n c] 27∧SMAP w5 mb (n+1+(t+1)) (JN d I M1 (t+1))):=by
        obtain ⟨a1,a2,a3,a4⟩:=A.out
        have hmb:=KK.out.2.1
        have hb4:=HB.out
        refine ⟨by omega,a2.grown hg a2.size (fun k e=>by cases e;omega),a3.grown hg (by simp;omega),?_⟩
        rw [← ht1] at hM
        exact hM
      have E1:Aside (wrap64 ((t:Int)+1)=((t+1:Nat):Int)):=by have:=KK.out;show wrap64 ((t:Int)+1)=((t+1:Nat):Int);unfold wrap64;omega
      clear hM hg A z1 e1 e8
      have e1:=E1.out
      go_wp2
      go_roundg q
      case measure=>exact Nat.lt_succ_self _
      case rel=>exact ⟨t+1,by first | rfl | (rw [E1.out]),Z.out⟩
def ANSH (w:World) (A:Int × Nat × List Int) (e:Ending) (w':World):Prop:=∃ a c,e=.returned (.tuple #[.slice a A.2.1 c,.int .i64 A.1])∧w'.ownsRow w.heap.size 32 32 (.slice a A.2.1 c) A.2.1 (z00 A.2.2)∧Below w.heap.size w w'
set_option maxHeartbeats 2000000 in
theorem z8l (d:Int) (leaf:List Int) (hleaf:IsH leaf) (S I:Nat) (a:Option Addr) (n c:Nat) (l:List Int) (w:World) (hF:Flat w a n l) (hT:Tabled w) (hX:HX.Tabled w) (h0:2<w.heap.size):
    Calls Tryz.prog 11 #[.int .i64 d,.agg (z00 leaf).toArray,.agg #[.int .u64 (S:Int),.int .u64 (I:Int),.slice a n c]] w (ANSH w (CLA d leaf S I n l)):=by
  unfold CLA
  by_cases hE:(PLA I S).1=0
  · rw [if_neg (by simpa using hE)]
    have hIS:I<S∧S≤4611686018427387904:=by
      unfold PLA at hE
      split at hE
      · simp at hE
      · split at hE
        · simp at hE
        · omega
    have hPL:PLA I S=(0,PLCS (PSP I S)):=by
      unfold PLA
      rw [if_neg (by omega),if_neg (by omega)]
    have hlen:(PLA I S).2.length=(PSP I S).length:=by rw [hPL];exact z0o _
    by_cases hn:n=(PLA I S).2.length
    · rw [if_neg (by simpa using hn)]
      exact zb6 d leaf hleaf S I hIS.1 hIS.2 a n c (by omega) l w hF hT hX h0
    · rw [if_pos hn]
      have HB:Aside (Below w.heap.size w ((w.alloc (.cells (z00 leaf).toArray 32)).alloc (.cells #[.int .u64 (S:Int),.int .u64 (I:Int),.slice a n c] 27))):=((Below.refl _ _).alloc (Nat.le_refl _) _).alloc (by simp) _
      have hH:Has ((w.alloc (.cells (z00 leaf).toArray 32)).alloc (.cells #[.int .u64 (S:Int),.int .u64 (I:Int),.slice a n c] 27)) (w.heap.size+1) #[.int .u64 (S:Int),.int .u64 (I:Int),.slice a n c] 27:=Has.at _ _ _ (by simp)
      have cP:=z5z I S _ (hT.below (by omega) HB.out) (Nat.lt_of_lt_of_le (by omega) HB.out.size)
      rw [hPL] at cP hn
      obtain ⟨N,hN⟩:∃ N,(PLCS (PSP I S)).length=N:=⟨_,rfl⟩
      dsimp only at cP hn
      rw [hN] at cP hn
      have HN:Aside (n≠N):=hn
      obtain ⟨b5,hb5⟩:∃ b5,b5=w.heap.size+1:=⟨_,rfl⟩
      rw [← hb5] at hH
      have HH:Aside (Has ((w.alloc (.cells (z00 leaf).toArray 32)).alloc (.cells #[.int .u64 (S:Int),.int .u64 (I:Int),.slice a n c] 27)) b5 #[.int .u64 (S:Int),.int .u64 (I:Int),.slice a n c] 27):=hH
      clear hT hX h0 hE hIS hPL hlen hn hN hF hleaf hH
      go_enter Tryz.func11,Tryz.ntmps11
      go_wp2_with fail
      rw [← hb5]
      clear hb5
      refine cP.mono ?_
      rintro e w1 ⟨v,rfl,hrow,hb⟩
      have hv:∃ a' c',v=.slice a' N c':=by
        obtain ⟨av,cv,e, -⟩:=z0O hrow
        exact ⟨av,cv,e⟩
      have y2:w1.cell? ⟨b5,2,none⟩=some (.slice a n c):=(HH.out.keep hb).cell 2
      have R:Aside (Below w.heap.size w w1):=HB.out.trans (hb.mono HB.out.size)
      clear hrow hb cP HB HH
      obtain ⟨a',c',rfl⟩:=hv
      go_wp2_with fail
      refine (z5H (.slice a' N c') N ⟨a',c',rfl⟩ a n c HN.out w1).mono ?_
      rintro e w2 ⟨rfl,rfl⟩
      clear y2
      go_wp2
      go_ret2
      exact ⟨none,0,rfl,World.ownsRow_nil _ _ _ _,R.out⟩
  · rw [if_pos hE]
    have HB:Aside (Below w.heap.size w ((w.alloc (.cells (z00 leaf).toArray 32)).alloc (.cells #[.int .u64 (S:Int),.int .u64 (I:Int),.slice a n c] 27))):=((Below.refl _ _).alloc (Nat.le_refl _) _).alloc (by simp) _
    have cP:=z5z I S _ (hT.below (by omega) HB.out) (Nat.lt_of_lt_of_le (by omega) HB.out.size)
    obtain ⟨E,hEe⟩:∃ E,(PLA I S).1=E:=⟨_,rfl⟩
    rw [hEe] at cP hE ⊢
    have hne:((E:Int) != 0)=true:=by simp [hE]
    clear hT hX h0 hE hEe hF hleaf
    go_enter Tryz.func11,Tryz.ntmps11
    go_wp2_with fail
    refine cP.mono ?_
    rintro e w1 ⟨v,rfl,hrow,hb⟩
    have R:Aside (Below w.heap.size w w1):=HB.out.trans (hb.mono HB.out.size)
    clear hrow hb cP HB
    go_wp2
    go_ret2
    exact ⟨none,0,rfl,World.ownsRow_nil _ _ _ _,R.out⟩
end Go.Proofs.YthjeeblddipiiaaGreatDoor

namespace Go.Proofs.YthjeeblddipiiaaGreatDoor
open Go.RowKit
set_option maxRecDepth 100000
def FA (d:Int) (l:List Int) (n:Nat):Nat→List Int
  | 0=>HSH l (n - 1)
  | k+1=>z1D d (HSH l (n - 2 - k)) (FA d l n k)
def FLD (d:Int) (l:List Int) (n:Nat):List Int:=if n=0 then ZND else FA d l n (n - 1)
theorem zf7 {d:Int} {l:List Int} {n:Nat} (hl:l.length=32*n) (hr:∀ x∈l,0≤x∧x≤255) (hn:0<n):∀ k,IsH (FA d l n k)
  | 0=>z8k hl hr (by omega)
  | k+1=>z8g _ _ _
theorem zgD {d:Int} {l:List Int} {n:Nat} (hl:l.length=32*n) (hr:∀ x∈l,0≤x∧x≤255):IsH (FLD d l n):=by
  unfold FLD
  split
  · exact z5I
  · exact zf7 hl hr (by omega) _
theorem z4Z {fn:Func} {p:Tmp} {ty:TypeId} (h:fn.results=#[.cell p ty]) (tmps:Array Value) (w:World) (g:Nat) (t:TypeId) (cs:Array Value) (fr:Nat × Nat) (k:Nat) (el:TypeId)
    (hp:tmps.getD p undef=.pointer (some ⟨g,0,none⟩)) (hg:w.heap[g]?=some (.cells cs t fr))
    (hu:Tryz.prog.underlying ty=some (.array k el)) (hi:(Tryz.prog.info? ty).map (·.size)=some cs.size):
    (results fn tmps).run Tryz.prog w=.ok (.agg cs) w:=by
  have hp':tmps[p]?.getD undef=.pointer (some ⟨g,0,none⟩):=by simpa using hp
  simp [results,h,hp',asAddr,run_loadVar_row w g t ty cs fr (.array k el) hg hu rfl hi]
set_option maxHeartbeats 4000000 in
theorem zcH (d:Int) (a:Option Addr) (n c:Nat) (hn:n≤1000) (l:List Int) (w:World) (hF:Flat w a n l) (hX:HX.Tabled w):
    Calls Tryz.prog 36 #[.int .i64 d,.slice a n c] w fun e w'=>e=.returned (.agg (z00 (FLD d l n)).toArray)∧Below w.heap.size w w':=by
  have R0:Aside (Below w.heap.size w (w.alloc (.cells ZARR 32))∧Has (w.alloc (.cells ZARR 32)) w.heap.size (z00 ZND).toArray 32):=⟨(Below.refl _ _).alloc (Nat.le_refl _) _,by rw [z6n];exact Has.new _ _ _⟩
  by_cases h0:n=0
  · subst h0
    have e:FLD d l 0=ZND:=rfl
    rw [e]
    clear hF hX hn e
    go_enter Tryz.func36,Tryz.ntmps36
    go_upto_region 2 with fail
    rw [show (#[.int .u8 0,.int .u8 0,.int .u8 0,.int .u8 0,.int .u8 0,.int .u8 0,.int .u8 0,.int .u8 0,.int .u8 0,.int .u8 0,.int .u8 0,.int .u8 0,.int .u8 0,.int .u8 0,.int .u8 0,.int .u8 0,.int .u8 0,.int .u8 0,.int .u8 0,.int .u8 0,.int .u8 0,.int .u8 0,.int .u8 0,.int .u8 0,.int .u8 0,.int .u8 0,.int .u8 0,.int .u8 0,.int .u8 0,.int .u8 0,.int .u8 0,.int .u8 0]:Array Value)=ZARR from rfl]
    generalize w.alloc (.cells ZARR 32)=W0 at *
    go_wp2_with (rw [show (#[.int .u8 0,.int .u8 0,.int .u8 0,.int .u8 0,.int .u8 0,.int .u8 0,.int .u8 0,.int .u8 0,.int .u8 0,.int .u8 0,.int .u8 0,.int .u8 0,.int .u8 0,.int .u8 0,.int .u8 0,.int .u8 0,.int .u8 0,.int .u8 0,.int .u8 0,.int .u8 0,.int .u8 0,.int .u8 0,.int .u8 0,.int .u8 0,.int .u8 0,.int .u8 0,.int .u8 0,.int .u8 0,.int .u8 0,.int .u8 0,.int .u8 0,.int .u8 0]:Array Value)=(z00 ZND).toArray from rfl];refine wpList_store_row rfl 32 (.tmp 4) (.tmp 11) rfl _ _ rfl rfl 32 _ R0.out.2 (z08 rfl) rfl (z0l ZND) ?_)
    refine bodyPost_ret (v:=.agg (z00 ZND).toArray) (z4Z rfl _ _ w.heap.size 32 _ (0,0) _ _ rfl (Has.row R0.out.2 _) Tryz.underlying32 (z08 rfl)) rfl ⟨rfl,z0a R0.out.1 (Nat.le_refl _) _⟩
  · obtain ⟨m,hm⟩:∃ m,n=m+1:=⟨n - 1,by omega⟩
    obtain ⟨gn,o,rfl,hgn,hcn⟩:=hF.2.1 (by omega)
    have hz:¬ (n:Int)=0:=by omega
    have e1:wrap64 ((n:Int) - 1)=(m:Int):=by unfold wrap64;omega
    have hml:(m:Int)<(n:Int):=by omega
    have hm0:(0:Int)≤(m:Int):=by omega
    have e:FLD d l n=FA d l n m:=by unfold FLD;rw [if_neg h0,show n - 1=m by omega]
    rw [e]
    have HA:Aside (n=m+1∧n≤1000∧Flat w (some ⟨gn,o,none⟩) n l∧HX.Tabled w∧gn<w.heap.size∧∀ k,IsH (FA d l n k)):=⟨hm,hn,hF,hX,hgn,zf7 hF.1 hF.2.2 (by omega)⟩
    clear hm hn hF hX hgn hcn h0 e
    go_enter Tryz.func36,Tryz.ntmps36
    go_upto_region 3 with fail
    rw [show (#[.int .u8 0,.int .u8 0,.int .u8 0,.int .u8 0,.int .u8 0,.int .u8 0,.int .u8 0,.int .u8 0,.int .u8 0,.int .u8 0,.int .u8 0,.int .u8 0,.int .u8 0,.int .u8 0,.int .u8 0,.int .u8 0,.int .u8 0,.int .u8 0,.int .u8 0,.int .u8 0,.int .u8 0,.int .u8 0,.int .u8 0,.int .u8 0,.int .u8 0,.int .u8 0,.int .u8 0,.int .u8 0,.int .u8 0,.int .u8 0,.int .u8 0,.int .u8 0]:Array Value)=ZARR from rfl]
    generalize w.alloc (.cells ZARR 32)=W0 at *
    have hat:W0.rangeAt gn (o+m*32) (z00 (FA d l n 0)):=by
      have h1:=(HA.out.2.2.1.below R0.out.1).at (show m<n by have:=HA.out.1;omega)
      have h2:FA d l n 0=HSH l m:=by have:=HA.out.1;rw [FA,show n - 1=m by omega]
      rw [h2]
      exact h1
    have h32:=(HA.out.2.2.2.2.2 0).1
    generalize hA0:FA d l n 0=A0 at *
    go_wp2_with (first
      | (refine wpList_load_mid rfl 32 (.tmp 17) rfl gn (o+m*32) rfl (z00 A0) _ hat Tryz.underlying32 rfl (z0k h32) ?_)
      | (refine wpList_store_row rfl 32 (.tmp 6) (.tmp 18) rfl _ _ rfl rfl 32 _ (Has.new W0 _ _) (z08 h32) (by simp [z00,h32]) (z0l A0) ?_;rw [World.setRow_alloc_new]))
    have R1:Aside (Below w.heap.size w (W0.alloc (.cells (z00 A0).toArray 32))∧Has (W0.alloc (.cells (z00 A0).toArray 32)) w.heap.size (z00 ZND).toArray 32∧Has (W0.alloc (.cells (z00 A0).toArray 32)) W0.heap.size (z00 (FA d l n 0)).toArray 32∧w.heap.size<W0.heap.size):=⟨R0.out.1.alloc R0.out.1.size _,R0.out.2.alloc _,by rw [hA0];exact Has.new _ _ _,R0.out.2.lt⟩
    clear hat h32 hA0 R0
    generalize W0.alloc (.cells (z00 A0).toArray 32)=W1 at *
    generalize W0.heap.size=b6 at *
    clear W0
    have K:Aside (w.heap.size<b6):=R1.out.2.2.2
    have E0:Aside (wrap64 ((m:Int) - 1)=(m:Int) - 1):=by have:=HA.out.1;have:=HA.out.2.1;show wrap64 ((m:Int) - 1)=(m:Int) - 1;unfold wrap64;omega
    go_loopg [7] m (fun q s7 wx=>∃ x:Int,s7=.int .i64 x∧Aside (q≤m∧x=(q:Int) - 1∧Below w.heap.size w wx∧Has wx w.heap.size (z00 ZND).toArray 32∧Has wx b6 (z00 (FA d l n (m - q))).toArray 32))
    case atStart=>exact ⟨_,rfl,Nat.le_refl _,E0.out,R1.out.1,R1.out.2.1,by rw [Nat.sub_self];exact R1.out.2.2.1⟩
    case round=>
      obtain ⟨x,rfl,A⟩:=hrel
      clear R1 E0
      cases gk with
      | zero=>
        obtain rfl:x = -1:=by have:=A.out.2.1;omega
        have y32:=(HA.out.2.2.2.2.2 m).1
        have hH4:=A.out.2.2.2.1
        have hH6:Has wr b6 (z00 (FA d l n m)).toArray 32:=A.out.2.2.2.2
        have hb:=A.out.2.2.1
        clear A HA
        generalize hY0:FA d l n m=Y at *
        go_wp2_with (first
          | (refine wpList_load_row rfl 32 (.tmp 6) rfl b6 rfl 32 (z00 Y).toArray (0,0) _ hH6 Tryz.underlying32 rfl (z08 y32) ?_)
          | (refine wpList_store_row rfl 32 (.tmp 4) (.tmp 32) rfl _ _ rfl rfl 32 _ hH4 (z08 y32) (by simp [z00,y32];rfl) (z0l Y) ?_))
        refine bodyPost_ret (v:=.agg (z00 Y).toArray) (z4Z rfl _ _ w.heap.size 32 _ (0,0) _ _ rfl (Has.row hH4 _) Tryz.underlying32 (z08 y32)) rfl ⟨by rw [hY0],z0a hb (Nat.le_refl _) _⟩
      | succ q=>
        obtain rfl:x=(q:Int):=by have:=A.out.2.1;omega
        have hq0:(0:Int)≤(q:Int):=by omega
        have hb:=A.out.2.2.1
        obtain ⟨h1,h2,h3,h4,h5,h6⟩:=HA.out
        have hqm:q+1≤m:=A.out.1
        have eY:FA d l n (m - q)=z1D d (HSH l q) (FA d l n (m - (q+1))):=by
          rw [show m - q=(m - (q+1))+1 by omega,FA,show n - 2 - (m - (q+1))=q by omega]
        have hL:IsH (HSH l q):=z8k h3.1 h3.2.2 (by omega)
        have hR:=h6 (m - (q+1))
        have hY:=h6 (m - q)
        have hb1:(q:Int)<(n:Int):=by omega
        have cF:=z8i d (HSH l q) (FA d l n (m - (q+1))) hL hR wr.drew (h4.below hb.drew)
        have hLr:=((h3.below hb).at (show q<n by omega))
        have hE1:Aside (wrap64 ((q:Int) - 1)=(q:Int) - 1):=by show wrap64 ((q:Int) - 1)=(q:Int) - 1;unfold wrap64;omega
        rw [← eY] at cF
        clear h1 h2 h3 h4 h5 h6 eY hb HA
        generalize FA d l n (m - (q+1))=R at *
        generalize HSH l q=L at *
        have hH6:=A.out.2.2.2.2
        go_upto_region 8 with fail
        refine z7v _ _ _ _ _ _ _ _ _ _ _ _ _ _ _ _ _ _ _ _ _ _ _ _ _ _ _ _ _ wr b6 gn o n c q d L R (FA d l n (m - q)) hL.1 hR.1 hY.1 hb1 hLr (z0P hH6) (fun W=>Below w.heap.size w W∧Has W w.heap.size (z00 ZND).toArray 32) (cF.mono ?_) (fun _ _ _ _ _ h=>h) ?_
        · rintro e w' ⟨rfl,hb⟩
          have hb':Below wr.heap.size wr w':=(Below.refl _ wr).drew.trans hb
          exact ⟨_,rfl,rfl,hH6.keep hb',A.out.2.2.1.trans (hb'.mono A.out.2.2.1.size),A.out.2.2.2.1.keep hb'⟩
        · rintro X w' ⟨rfl,g1,g2,g3⟩
          dsimp only
          have Z:Aside (q≤m∧(q:Int) - 1=(q:Int) - 1∧Below w.heap.size w (w'.setRow b6 (z00 (FA d l n (m - q))).toArray)∧Has (w'.setRow b6 (z00 (FA d l n (m - q))).toArray) w.heap.size (z00 ZND).toArray 32∧Has (w'.setRow b6 (z00 (FA d l n (m - q))).toArray) b6 (z00 (FA d l n (m - q))).toArray 32):=⟨by omega,rfl,z0a g2 (by have:=K.out;omega) _,g3.row_other (by have:=K.out;omega) _,g1.row _⟩
          clear cF hLr hL hR hY hb1 hq0 hqm A g1 g2 g3 hH6
          have e1:=hE1.out
          generalize w'.setRow b6 (z00 (FA d l n (m - q))).toArray=w3 at *
          go_wp2
          go_roundg q
          case measure=>exact Nat.lt_succ_self _
          case rel=>exact ⟨_,rfl,Z.out.1,rfl,Z.out.2.2⟩
end Go.Proofs.YthjeeblddipiiaaGreatDoor

namespace Go.Proofs.YthjeeblddipiiaaGreatDoor
open Go.RowKit
set_option maxRecDepth 100000
def BAGA (d:Int) (n k:Nat) (l:List Int):Int × List Int:=
  if 4611686018427387904<n then (30,ZND) else if k≠PC n then (70,ZND) else (0,z1v d n (FLD d l k))
theorem zfD {d:Int} {n k:Nat} {l:List Int}:IsH (BAGA d n k l).2:=by
  unfold BAGA
  split
  · exact z5I
  · split
    · exact z5I
    · exact z5i _ _ _
theorem z3x {fn:Func} {p q:Tmp} {ty:TypeId} (h:fn.results=#[.cell p ty,.tmp q]) (tmps:Array Value) (w:World) (g:Nat) (t:TypeId) (cs:Array Value) (fr:Nat × Nat) (k:Nat) (el:TypeId) (v:Value)
    (hp:tmps.getD p undef=.pointer (some ⟨g,0,none⟩)) (hv:tmps.getD q undef=v) (hg:w.heap[g]?=some (.cells cs t fr))
    (hu:Tryz.prog.underlying ty=some (.array k el)) (hi:(Tryz.prog.info? ty).map (·.size)=some cs.size):
    (results fn tmps).run Tryz.prog w=.ok (.tuple #[.agg cs,v]) w:=by
  have hp':tmps[p]?.getD undef=.pointer (some ⟨g,0,none⟩):=by simpa using hp
  have hv':tmps[q]?.getD undef=v:=by simpa using hv
  simp [results,h,hp',hv',asAddr,run_loadVar_row w g t ty cs fr (.array k el) hg hu rfl hi]
set_option maxHeartbeats 4000000 in
theorem zcI (d:Int) (n:Nat) (hn:n<2 ^ 64) (a:Option Addr) (k c:Nat) (w:World) (h1':¬ (4611686018427387904:Int)<(n:Int)) (h2:¬ k=POP n):
    Calls Tryz.prog 12 #[.int .i64 d,.int .u64 (n:Int),.slice a k c] w fun e w'=>e=.returned (.tuple #[.agg (z00 ZND).toArray,.int .i64 70])∧Below w.heap.size w w':=by
  have R0:Aside (Below w.heap.size w (w.alloc (.cells ZARR 32))∧Has (w.alloc (.cells ZARR 32)) w.heap.size (z00 ZND).toArray 32):=⟨(Below.refl _ _).alloc (Nat.le_refl _) _,by rw [z6n];exact Has.new _ _ _⟩
  have cO:=z1G n hn (w.alloc (.cells ZARR 32))
  generalize POP n=pp at *
  have e2:¬ (k:Int)=(pp:Int):=by omega
  clear hn
  go_enter Tryz.func12,Tryz.ntmps12
  go_upto_region 3 with fail
  rw [show (#[.int .u8 0,.int .u8 0,.int .u8 0,.int .u8 0,.int .u8 0,.int .u8 0,.int .u8 0,.int .u8 0,.int .u8 0,.int .u8 0,.int .u8 0,.int .u8 0,.int .u8 0,.int .u8 0,.int .u8 0,.int .u8 0,.int .u8 0,.int .u8 0,.int .u8 0,.int .u8 0,.int .u8 0,.int .u8 0,.int .u8 0,.int .u8 0,.int .u8 0,.int .u8 0,.int .u8 0,.int .u8 0,.int .u8 0,.int .u8 0,.int .u8 0,.int .u8 0]:Array Value)=ZARR from rfl]
  generalize w.alloc (.cells ZARR 32)=W0 at *
  go_wp2_with fail
  refine cO.mono ?_
  rintro e w1 ⟨rfl,rfl⟩
  clear cO
  go_upto_region 4 with fail
  go_wp2_with (rw [show (#[.int .u8 0,.int .u8 0,.int .u8 0,.int .u8 0,.int .u8 0,.int .u8 0,.int .u8 0,.int .u8 0,.int .u8 0,.int .u8 0,.int .u8 0,.int .u8 0,.int .u8 0,.int .u8 0,.int .u8 0,.int .u8 0,.int .u8 0,.int .u8 0,.int .u8 0,.int .u8 0,.int .u8 0,.int .u8 0,.int .u8 0,.int .u8 0,.int .u8 0,.int .u8 0,.int .u8 0,.int .u8 0,.int .u8 0,.int .u8 0,.int .u8 0,.int .u8 0]:Array Value)=(z00 ZND).toArray from rfl];refine wpList_store_row rfl 32 (.tmp 6) (.tmp 16) rfl _ _ rfl rfl 32 _ R0.out.2 (z08 rfl) rfl (z0l ZND) ?_)
  refine bodyPost_ret (v:=.tuple #[.agg (z00 ZND).toArray,.int .i64 70]) (z3x rfl _ _ w.heap.size 32 _ (0,0) _ _ _ rfl rfl (Has.row R0.out.2 _) Tryz.underlying32 (z08 rfl)) rfl ⟨rfl,z0a R0.out.1 (Nat.le_refl _) _⟩
end Go.Proofs.YthjeeblddipiiaaGreatDoor

namespace Go.Proofs.YthjeeblddipiiaaGreatDoor
open Go.RowKit
set_option maxRecDepth 100000
set_option maxHeartbeats 4000000 in
theorem zgE (d:Int) (n:Nat) (hn:n<2 ^ 64) (a:Option Addr) (k c:Nat) (l:List Int) (w:World) (hF:Flat w a k l) (hX:HX.Tabled w):
    Calls Tryz.prog 12 #[.int .i64 d,.int .u64 (n:Int),.slice a k c] w fun e w'=>e=.returned (.tuple #[.agg (z00 (BAGA d n k l).2).toArray,.int .i64 (BAGA d n k l).1])∧Below w.heap.size w w':=by
  have R0:Aside (Below w.heap.size w (w.alloc (.cells ZARR 32))∧Has (w.alloc (.cells ZARR 32)) w.heap.size (z00 ZND).toArray 32):=⟨(Below.refl _ _).alloc (Nat.le_refl _) _,by rw [z6n];exact Has.new _ _ _⟩
  have HA:Aside (Flat w a k l∧HX.Tabled w∧n<2 ^ 64):=⟨hF,hX,hn⟩
  clear hF hX
  by_cases h1:4611686018427387904<n
  · have e:BAGA d n k l=(30,ZND):=if_pos h1
    rw [e]
    have h1':(4611686018427387904:Int)<(n:Int):=by omega
    clear e HA hn
    go_enter Tryz.func12,Tryz.ntmps12
    go_upto_region 2 with fail
    rw [show (#[.int .u8 0,.int .u8 0,.int .u8 0,.int .u8 0,.int .u8 0,.int .u8 0,.int .u8 0,.int .u8 0,.int .u8 0,.int .u8 0,.int .u8 0,.int .u8 0,.int .u8 0,.int .u8 0,.int .u8 0,.int .u8 0,.int .u8 0,.int .u8 0,.int .u8 0,.int .u8 0,.int .u8 0,.int .u8 0,.int .u8 0,.int .u8 0,.int .u8 0,.int .u8 0,.int .u8 0,.int .u8 0,.int .u8 0,.int .u8 0,.int .u8 0,.int .u8 0]:Array Value)=ZARR from rfl]
    generalize w.alloc (.cells ZARR 32)=W0 at *
    go_wp2_with (rw [show (#[.int .u8 0,.int .u8 0,.int .u8 0,.int .u8 0,.int .u8 0,.int .u8 0,.int .u8 0,.int .u8 0,.int .u8 0,.int .u8 0,.int .u8 0,.int .u8 0,.int .u8 0,.int .u8 0,.int .u8 0,.int .u8 0,.int .u8 0,.int .u8 0,.int .u8 0,.int .u8 0,.int .u8 0,.int .u8 0,.int .u8 0,.int .u8 0,.int .u8 0,.int .u8 0,.int .u8 0,.int .u8 0,.int .u8 0,.int .u8 0,.int .u8 0,.int .u8 0]:Array Value)=(z00 ZND).toArray from rfl];refine wpList_store_row rfl 32 (.tmp 6) (.tmp 10) rfl _ _ rfl rfl 32 _ R0.out.2 (z08 rfl) rfl (z0l ZND) ?_)
    refine bodyPost_ret (v:=.tuple #[.agg (z00 ZND).toArray,.int .i64 30]) (z3x rfl _ _ w.heap.size 32 _ (0,0) _ _ _ rfl rfl (Has.row R0.out.2 _) Tryz.underlying32 (z08 rfl)) rfl ⟨rfl,z0a R0.out.1 (Nat.le_refl _) _⟩
  have h1':¬ (4611686018427387904:Int)<(n:Int):=by omega
  have hpop:=z4k hn
  by_cases h2:k=PC n
  · have e:BAGA d n k l=(0,z1v d n (FLD d l k)):=by unfold BAGA;rw [if_neg h1,if_neg (by simpa using h2)]
    rw [e]
    have hk:Aside (k≤64):=by have:=z1c 64 n hn;show k≤64;omega
    have e2:(k:Int)=((POP n:Nat):Int):=by rw [hpop,h2]
    clear e h2 hpop h1
    go_enter Tryz.func12,Tryz.ntmps12
    go_upto_region 3 with fail
    rw [show (#[.int .u8 0,.int .u8 0,.int .u8 0,.int .u8 0,.int .u8 0,.int .u8 0,.int .u8 0,.int .u8 0,.int .u8 0,.int .u8 0,.int .u8 0,.int .u8 0,.int .u8 0,.int .u8 0,.int .u8 0,.int .u8 0,.int .u8 0,.int .u8 0,.int .u8 0,.int .u8 0,.int .u8 0,.int .u8 0,.int .u8 0,.int .u8 0,.int .u8 0,.int .u8 0,.int .u8 0,.int .u8 0,.int .u8 0,.int .u8 0,.int .u8 0,.int .u8 0]:Array Value)=ZARR from rfl]
    generalize w.alloc (.cells ZARR 32)=W0 at *
    go_wp2_with fail
    refine (z1G n hn W0).mono ?_
    rintro e w1 ⟨rfl,rfl⟩
    go_wp2_with fail
    refine (zcH d a k c (by have:=hk.out;omega) l W0 (HA.out.1.below R0.out.1) (HA.out.2.1.below R0.out.1)).mono ?_
    rintro e w1 ⟨rfl,hb⟩
    have R1:Aside (Below w.heap.size w w1∧Has w1 w.heap.size (z00 ZND).toArray 32):=⟨R0.out.1.trans (hb.mono R0.out.1.size),R0.out.2.keep hb⟩
    clear hb R0
    have hI:=zgD (d:=d) HA.out.1.1 HA.out.1.2.2
    go_wp2_with fail
    refine (z8j d n hn (FLD d l k) hI w1 (HA.out.2.1.below R1.out.1)).mono ?_
    rintro e w2 ⟨rfl,hb⟩
    have R2:Aside (Below w.heap.size w w2∧Has w2 w.heap.size (z00 ZND).toArray 32):=⟨R1.out.1.trans (hb.mono R1.out.1.size),R1.out.2.keep hb⟩
    clear hb R1 hI
    have y32:=(z5i d n (FLD d l k)).1
    generalize hY:z1v d n (FLD d l k)=Y at *
    go_wp2_with (refine wpList_store_row rfl 32 (.tmp 6) (.tmp 22) rfl _ _ rfl rfl 32 _ R2.out.2 (z08 y32) (by simp [z00,y32];rfl) (z0l Y) ?_)
    refine bodyPost_ret (v:=.tuple #[.agg (z00 Y).toArray,.int .i64 0]) (z3x rfl _ _ w.heap.size 32 _ (0,0) _ _ _ rfl rfl (Has.row R2.out.2 _) Tryz.underlying32 (z08 y32)) rfl ⟨by rw [hY],z0a R2.out.1 (Nat.le_refl _) _⟩
  · have e:BAGA d n k l=(70,ZND):=by unfold BAGA;rw [if_neg h1,if_pos h2]
    rw [e]
    exact zcI d n hn a k c w h1' (by rw [hpop];exact h2)
end Go.Proofs.YthjeeblddipiiaaGreatDoor
