/- Texts of ClashMembers, one behind the other: ClashMemberPlain, CarryEqual, ClashSame, ClashMemberCall, ProofMarked, ClashHoldsCall. -/
import Derived.Deep.Cut
import Derived.Test.YtbmjoiiagldklaaGreatDoorClashMembersP13
import Derived.Test.YtbmjoiiagldklaaGreatDoorClashMembersP21
import Derived.Test.YtbmjoiiagldklaaGreatDoorClashMembersP25
import Derived.Test.YtbmjoiiagldklaaGreatDoorClashMembersP30
import Derived.Test.YtbmjoiiagldklaaGreatDoorClashMembersP35
namespace Go.Proofs.YtbmjoiiagldklaaGreatDoor
set_option maxRecDepth 100000
theorem z8t {M:Nat→Nat→List Int}:∀ {ss:List (Nat × Nat)},(∀ s∈ss,(M s.1 s.2).length=32)→∀ {t h k:Nat},ss[t]?=some (h,k)→HSH (CAT M ss) t=M h k
  | [],_,t,h,k,e=>by simp at e
  | s :: ss,hl,0,h,k,e=>by
    simp only [List.getElem?_cons_zero,Option.some.injEq] at e
    subst e
    have h1:=hl (h,k) (List.mem_cons_self ..)
    unfold HSH CAT
    rw [List.flatMap_cons,Nat.mul_zero,List.drop_zero,List.take_append_of_le_length (by omega),List.take_of_length_le (by omega)]
  | s :: ss,hl,t+1,h,k,e=>by
    have h1:=hl s (List.mem_cons_self ..)
    have ih:=z8t (fun x hx=>hl x (List.mem_cons_of_mem _ hx)) (t:=t) (h:=h) (k:=k) (by simpa using e)
    rw [← ih]
    unfold HSH CAT
    rw [List.flatMap_cons,List.drop_append,List.drop_of_length_le (by omega),List.nil_append,h1,show 32*(t+1) - 32=32*t by omega]
theorem z2j {d:Int} {root:List Int} {n i:Nat} {leaf bl:List Int} (hr:∀ x∈bl,0≤x∧x≤255) (hn:n<2 ^ 64) (hi:i<2 ^ 64) (h:MEMA d root n i leaf bl=0):∃ t,DEC bl=(0,n,i,(PSP i n).length,t)∧i<n∧n≤4611686018427387904∧(CLA d leaf n i (PSP i n).length t)=(0,PC n,CAT (CLM d leaf n i t) (SPAN 0 n))∧z0X d n (FLD d (CAT (CLM d leaf n i t) (SPAN 0 n)) (PC n))=root:=by
  obtain ⟨E,S,I,N,t,hD⟩:∃ E S I N t,DEC bl=(E,S,I,N,t):=⟨_,_,_,_,_,rfl⟩
  unfold MEMA at h
  rw [hD] at h
  dsimp only at h
  by_cases h1:E=0
  · rw [if_neg (by simpa using h1)] at h
    by_cases h2:S=n
    · rw [if_neg (by simpa using h2)] at h
      by_cases h3:I=i
      · rw [if_neg (by simpa using h3)] at h
        subst h1 h2 h3
        obtain ⟨p1,p2,p3⟩:=z9i hr hn hi hD
        subst p3
        have e1:PLA I S=(0,PLCS (PSP I S)):=by unfold PLA;rw [if_neg (by omega),if_neg (by omega)]
        have hC:(CLA d leaf S I (PSP I S).length t)=(0,PC S,CAT (CLM d leaf S I t) (SPAN 0 S)):=by
          unfold CLA
          rw [e1,if_neg (by simp),if_neg (by simp [PLCS])]
        rw [hC] at h
        refine ⟨t,hD,p1,p2,hC,?_⟩
        dsimp only at h
        unfold UNDA at h
        split at h
        · next hb=>
          rw [← hb.2]
          unfold BAGA
          rw [if_neg (by omega),if_neg (by simp)]
        · cases h
      · rw [if_pos h3] at h
        cases h
    · rw [if_pos h2] at h
      cases h
  · rw [if_pos h1] at h
    exact absurd h h1
theorem z7R {d:Int} {leaf:List Int} {S I:Nat} {t:List Int} (hleaf:IsH leaf) (ht:t.length=32*(PSP I S).length) (hr:∀ x∈t,0≤x∧x≤255) (a b:Nat):IsH (CLM d leaf S I t a b):=z7B (fun p q=>z3L (z6c ht hr _ (Nat.le_refl _)) hleaf 0 I p q) _ a b
theorem z5w {M:Nat→Nat→List Int} (hM:∀ a b,IsH (M a b)):∀ ss:List (Nat × Nat),(CAT M ss).length=32*ss.length∧∀ x∈CAT M ss,0≤x∧x≤255
  | []=>⟨rfl,fun x hx=>by simp [CAT] at hx⟩
  | s :: ss=>by
    obtain ⟨h1,h2⟩:=z5w hM ss
    have h3:=hM s.1 s.2
    constructor
    · unfold CAT at h1 ⊢
      rw [List.flatMap_cons,List.length_append,h1,h3.1,List.length_cons]
      omega
    · intro x hx
      unfold CAT at h2 hx
      rw [List.flatMap_cons] at hx
      rcases List.mem_append.1 hx with hx | hx
      · exact h3.2 x hx
      · exact h2 x hx
def ACC9 (d:Int) (root:List Int) (n i:Nat) (x t:List Int):Prop:=t.length=32*(PSP i n).length∧(∀ y∈t,0≤y∧y≤255)∧z0X d n (FLD d (CAT (CLM d x n i t) (SPAN 0 n)) (PC n))=root
theorem zck (d:Int) (leaf:List Int) (S I N:Nat) (t:List Int) (hC:(CLA d leaf S I N t)=(0,PC S,CAT (CLM d leaf S I t) (SPAN 0 S))):BAGS d S (PC S) (CAT (CLM d leaf S I t) (SPAN 0 S)) (MEML d leaf S I N t)∧WAYT d leaf I (RISE I S) t (MEML d leaf S I N t):=by
  unfold MEML
  rw [hC]
  exact ⟨(zf2 ..).mono fun t ht=>List.mem_append.2 (.inl ht),WAYT.mono (zaB d leaf I t (RISE I S)) fun t ht=>List.mem_append.2 (.inr ht)⟩
theorem zdK {d:Int} {root:List Int} {n i:Nat} {x y t t':List Int} {T:List (List Nat)} (hT:INJ d T) (hi:i<n) (hn:n≤4611686018427387904) (hx:IsH x) (hy:IsH y) (h1:ACC9 d root n i x t) (h2:ACC9 d root n i y t')
    (b1:BAGS d n (PC n) (CAT (CLM d x n i t) (SPAN 0 n)) T) (b2:BAGS d n (PC n) (CAT (CLM d y n i t') (SPAN 0 n)) T) (w1:WAYT d x i (RISE i n) t T) (w2:WAYT d y i (RISE i n) t' T):x=y:=by
  obtain ⟨l1,r1,e1⟩:=h1
  obtain ⟨l2,r2,e2⟩:=h2
  have c1:=z5w (fun a b=>z7R (d:=d) (S:=n) (I:=i) hx l1 r1 a b) (SPAN 0 n)
  have c2:=z5w (fun a b=>z7R (d:=d) (S:=n) (I:=i) hy l2 r2 a b) (SPAN 0 n)
  have hpc:(SPAN 0 n).length=PC n:=z1M hn
  rw [hpc] at c1 c2
  have hc:=zht hT c1.1 c1.2 c2.1 c2.2 b1 b2 (e1.trans e2.symm)
  have hk:=(z6U hi hn).1
  have p1:=z71 (d:=d) (leaf:=x) hi hn t hk
  have p2:=z71 (d:=d) (leaf:=y) hi hn t' hk
  have a1:=z8t (M:=CLM d x n i t) (fun s _=>(z7R (d:=d) (S:=n) (I:=i) hx l1 r1 s.1 s.2).1) hk
  have a2:=z8t (M:=CLM d y n i t') (fun s _=>(z7R (d:=d) (S:=n) (I:=i) hy l2 r2 s.1 s.2).1) hk
  rw [hc,a2,p2] at a1
  rw [p1] at a1
  unfold PEK at a1
  rw [if_pos rfl,if_pos rfl] at a1
  have hle:RISE i n≤(PSP i n).length:=by unfold PSP;rw [List.length_append,z1S];omega
  exact zhu hT hx hy hle l1 r1 l2 r2 w1 w2 a1.symm
end Go.Proofs.YtbmjoiiagldklaaGreatDoor

namespace Go.Proofs.YtbmjoiiagldklaaGreatDoor
open Go.RowKit
set_option maxRecDepth 100000
end Go.Proofs.YtbmjoiiagldklaaGreatDoor

namespace Go.Proofs.YtbmjoiiagldklaaGreatDoor
open Go.RowKit
set_option maxRecDepth 100000
set_option maxHeartbeats 2000000 in
theorem zaG (d n i:Int) (R L:List Int) (lL:L.length=32) (p q:Value) (w:World):Calls Tryz.prog 9 #[.int .i64 d,.agg (z01 R).toArray,.int .u64 n,.int .u64 i,.agg (z01 L).toArray,p,.agg (z01 L).toArray,q] w fun e w'=>e=.returned (.tuple #[.agg #[.slice none 0 0,.slice none 0 0],.bool false])∧Below w.heap.size w w':=by
  obtain ⟨W0,hW0⟩:∃ W0,((((w.alloc (.cells (z01 R).toArray 23)).alloc (.cells (z01 L).toArray 23)).alloc (.cells (z01 L).toArray 23)).alloc (.cells #[.slice none 0 0,.slice none 0 0] 30))=W0:=⟨_,rfl⟩
  have R0:Aside (Below w.heap.size w W0):=by rw [← hW0];exact (((((Below.refl _ _).alloc (Nat.le_refl _) _).alloc (by simp) _).alloc (by simp;omega) _).alloc (by simp;omega) _)
  have ka:Has W0 (w.heap.size+1) (z01 L).toArray 23:=by rw [← hW0];exact (((Has.at _ _ _ (by simp)).alloc _).alloc _)
  have kb:Has W0 (w.heap.size+1+1) (z01 L).toArray 23:=by rw [← hW0];exact ((Has.at _ _ _ (by simp)).alloc _)
  have kz:Has W0 (w.heap.size+1+1+1) #[.slice none 0 0,.slice none 0 0] 30:=by rw [← hW0];exact (Has.at _ _ _ (by simp))
  have q1:∀ w,(Op.equalIn 10000 23 (.agg (z01 L).toArray) (.agg (z01 L).toArray)).run Tryz.prog w=.ok true w:=fun w=>by rw [z3a lL lL w];simp
  go_enter Tryz.func9,Tryz.ntmps9
  go_upto_region 1 with fail
  clear hW0
  obtain ⟨ba,hba⟩:∃ b,b=w.heap.size+1:=⟨_,rfl⟩
  obtain ⟨bb,hbb⟩:∃ b,b=w.heap.size+1+1:=⟨_,rfl⟩
  obtain ⟨bz,hbz⟩:∃ b,b=w.heap.size+1+1+1:=⟨_,rfl⟩
  have HZ:Aside (w.heap.size≤bz):=by show w.heap.size≤bz;omega
  rw [← hbz] at kz ⊢
  rw [← hbb] at kb ⊢
  rw [← hba] at ka ⊢
  clear hba hbb hbz
  have x0:W0.cell? ⟨bz,0,none⟩=some (.slice none 0 0):=kz.cell 0
  have x1:W0.cell? ⟨bz,1,none⟩=some (.slice none 0 0):=kz.cell 1
  have f0:=kz.frozen 0
  have f1:=kz.frozen 1
  go_wp2_with (first
    | (refine wpList_load_row rfl 23 (.tmp 12) rfl ba rfl 23 (z01 L).toArray (0,0) _ ka Tryz.underlying23 rfl (z05 lL) ?_)
    | (refine wpList_load_row rfl 23 (.tmp 14) rfl bb rfl 23 (z01 L).toArray (0,0) _ kb Tryz.underlying23 rfl (z05 lL) ?_)
    | fail)
  have hH:=(kz.set 0 (.slice none 0 0)).set 1 (.slice none 0 0)
  have hb:=(R0.out.setCell (p:=⟨bz,0,none⟩) HZ.out (.slice none 0 0)).setCell (p:=⟨bz,1,none⟩) HZ.out (.slice none 0 0)
  clear x0 x1 f0 f1 kz ka kb q1
  generalize (W0.setCell ⟨bz,0,none⟩ (.slice none 0 0)).setCell ⟨bz,1,none⟩ (.slice none 0 0)=wf at *
  have z0:wf.cell? ⟨bz,0,none⟩=some (.slice none 0 0):=hH.cell 0
  have z1:wf.cell? ⟨bz,1,none⟩=some (.slice none 0 0):=hH.cell 1
  refine bodyPost_ret (v:=.tuple #[.agg #[.slice none 0 0,.slice none 0 0],.bool false]) ?_ rfl ⟨rfl,hb⟩
  simp [results,Tryz.f9,go_sem,z0,z1]
end Go.Proofs.YtbmjoiiagldklaaGreatDoor

namespace Go.Proofs.YtbmjoiiagldklaaGreatDoor
open Go.RowKit
set_option maxRecDepth 100000
def CLMB (d:Int) (root:List Int) (n i:Nat) (x bp y bq:List Int):Option (List Nat × List Nat):=if x≠y∧MEMA d root n i x bp=0∧MEMA d root n i y bq=0 then CLS d (MEML d y n i (PSP i n).length (DEC bq).2.2.2.2 ++ (MEML d x n i (PSP i n).length (DEC bp).2.2.2.2 ++ [])) else none
theorem zdL {d:Int} {root:List Int} {n i:Nat} {x bp y bq:List Int} {s t:List Nat} (h:CLMB d root n i x bp y bq=some (s,t)):s≠t∧HSHT d s=HSHT d t:=by
  unfold CLMB at h
  split at h
  · have:=zam h
    exact ⟨this.1,this.2.1⟩
  · cases h
structure MEMT (d:Int) (root:List Int) (n i:Nat) (x bp y bq:List Int) (t t':List Int) (s u:List Nat):Prop where
  hp:DEC bp=(0,n,i,(PSP i n).length,t)
  hq:DEC bq=(0,n,i,(PSP i n).length,t')
  hi:i<n
  hn:n≤4611686018427387904
  told:CLMB d root n i x bp y bq=some (s,u)
  cls:CLS d (MEML d y n i (PSP i n).length t' ++ (MEML d x n i (PSP i n).length t ++ []))=some (s,u)
theorem z9j {d:Int} {root:List Int} {n i:Nat} {x bp y bq:List Int} (hn:n<2 ^ 64) (hi:i<2 ^ 64) (hx:IsH x) (hy:IsH y) (hp:∀ z∈bp,0≤z∧z≤255) (hq:∀ z∈bq,0≤z∧z≤255) (lp:(DEC bp).2.2.2.2.length=32*(DEC bp).2.2.2.1∧∀ z∈(DEC bp).2.2.2.2,0≤z∧z≤255) (lq:(DEC bq).2.2.2.2.length=32*(DEC bq).2.2.2.1∧∀ z∈(DEC bq).2.2.2.2,0≤z∧z≤255) (h:x≠y∧MEMA d root n i x bp=0∧MEMA d root n i y bq=0):∃ t t' s u,MEMT d root n i x bp y bq t t' s u:=by
  obtain ⟨t,p1,p2,p3,p4,p5⟩:=z2j hp hn hi h.2.1
  obtain ⟨t',r1,r2,r3,r4,r5⟩:=z2j hq hn hi h.2.2
  rw [p1] at lp
  rw [r1] at lq
  dsimp only at lp lq
  have e:CLMB d root n i x bp y bq=CLS d (MEML d y n i (PSP i n).length t' ++ (MEML d x n i (PSP i n).length t ++ [])):=by
    unfold CLMB
    rw [if_pos h,p1,r1]
  cases hc:CLS d (MEML d y n i (PSP i n).length t' ++ (MEML d x n i (PSP i n).length t ++ [])) with
  | some z=>
    obtain ⟨s,u⟩:=z
    exact ⟨t,t',s,u,p1,r1,p2,p3,by rw [e,hc],hc⟩
  | none=>
    obtain ⟨b1,w1⟩:=zck d x n i (PSP i n).length t p4
    obtain ⟨b2,w2⟩:=zck d y n i (PSP i n).length t' r4
    exact absurd (zdK (z75 hc) p2 p3 hx hy ⟨lp.1,lp.2,p5⟩ ⟨lq.1,lq.2,r5⟩ (b1.mono fun z hz=>List.mem_append.2 (.inr (List.mem_append.2 (.inl hz)))) (b2.mono fun z hz=>List.mem_append.2 (.inl hz)) (w1.mono fun z hz=>List.mem_append.2 (.inr (List.mem_append.2 (.inl hz)))) (w2.mono fun z hz=>List.mem_append.2 (.inl hz))) h.1
theorem zgQ (d:Int) (leaf:List Int) {S I:Nat} (N:Nat) (t:List Int) (hI:I<S) (hS:S≤4611686018427387904):(MEML d leaf S I N t).length≤1000:=by
  unfold MEML
  rw [List.length_append,zby,z2L]
  have:=(z0K hI hS).2.1
  have:=z0V 64 S (by omega)
  omega
set_option maxHeartbeats 8000000 in
theorem zbG (d:Int) (root:List Int) (hroot:IsH root) (n i:Nat) (hn:n<2 ^ 64) (hi:i<2 ^ 64) (x y:List Int) (hx:IsH x) (hy:IsH y) (pa qa:Option Addr) (pn pc qn qc:Nat) (hpn:pn≤1000000) (hpc:pn≤pc) (hqn:qn≤1000000) (hqc:qn≤qc) (bp bq:List Int) (w:World) (hP:Bytes w pa pn bp) (hQ:Bytes w qa qn bq) (hT:Tabled w) (hX:HX.Tabled w) (h0:2<w.heap.size)
    (lp:(DEC bp).1=0→(DEC bp).2.2.2.2.length=32*(DEC bp).2.2.2.1∧∀ z∈(DEC bp).2.2.2.2,0≤z∧z≤255) (lq:(DEC bq).1=0→(DEC bq).2.2.2.2.length=32*(DEC bq).2.2.2.1∧∀ z∈(DEC bq).2.2.2.2,0≤z∧z≤255):
    Calls Tryz.prog 9 #[.int .i64 d,.agg (z01 root).toArray,.int .u64 (n:Int),.int .u64 (i:Int),.agg (z01 x).toArray,.slice pa pn pc,.agg (z01 y).toArray,.slice qa qn qc] w (CLASHED w (CLMB d root n i x bp y bq)):=by
  by_cases hxy:x=y
  · subst hxy
    have e:CLMB d root n i x bp x bq=none:=by unfold CLMB;rw [if_neg (fun h=>h.1 rfl)]
    rw [e]
    refine (zaG d n i root x hx.1 _ _ w).mono ?_
    rintro e w' ⟨rfl,hb⟩
    exact ⟨hb,rfl⟩
  have lr:=hroot.1
  have lx:=hx.1
  have ly:=hy.1
  have HTB:Aside (∀ W,Below w.heap.size w W→Tabled W∧HX.Tabled W∧2<W.heap.size):=fun W h=>⟨hT.below (by omega) h,hX.below h,by have:=h.size;omega⟩
  have CM:Aside (∀ W,Below w.heap.size w W→(Calls Tryz.prog 25 #[.int .i64 d,.agg (z01 root).toArray,.int .u64 (n:Int),.int .u64 (i:Int),.agg (z01 x).toArray,.slice pa pn pc] W fun e w'=>e=.returned (.int .i64 (MEMA d root n i x bp))∧Below W.heap.size W w')∧(Calls Tryz.prog 25 #[.int .i64 d,.agg (z01 root).toArray,.int .u64 (n:Int),.int .u64 (i:Int),.agg (z01 y).toArray,.slice qa qn qc] W fun e w'=>e=.returned (.int .i64 (MEMA d root n i y bq))∧Below W.heap.size W w')):=fun W h=>by
    obtain ⟨g1,g2,g3⟩:=HTB.out W h
    exact ⟨z9h d root hroot n i hn x hx pa pn pc hpn hpc bp W (hP.below h) g1 g2 g3,z9h d root hroot n i hn y hy qa qn qc hqn hqc bq W (hQ.below h) g1 g2 g3⟩
  have HC:Aside ((¬ (MEMA d root n i x bp=0∧MEMA d root n i y bq=0)→CLMB d root n i x bp y bq=none)∧((MEMA d root n i x bp=0∧MEMA d root n i y bq=0)→∃ t t' s u,MEMT d root n i x bp y bq t t' s u)):=by
    refine ⟨fun h=>by unfold CLMB;rw [if_neg (fun h2=>h h2.2)],fun h=>?_⟩
    obtain ⟨_,p1,_⟩:=z2j hP.2.2 hn hi h.1
    obtain ⟨_,r1,_⟩:=z2j hQ.2.2 hn hi h.2
    exact z9j hn hi hx hy hP.2.2 hQ.2.2 (lp (by rw [p1])) (lq (by rw [r1])) ⟨hxy,h.1,h.2⟩
  have CMM:Aside (∀ t t' s u,MEMT d root n i x bp y bq t t' s u→∀ base top b g (ok:Nat→Prop) T W,Below w.heap.size w W→w.heap.size≤base→MET W base top ok b g d T→T.length≤50000→(∀ j,W.heap.size≤j→ok j)→(Calls Tryz.prog 27 #[.pointer (some ⟨b,0,none⟩),.agg (z01 x).toArray,.slice pa pn pc] W fun e w'=>(∃ v,e=.returned v)∧MET w' base w'.heap.size ok b g d (MEML d x n i (PSP i n).length t ++ T)∧STEPM b g W w')∧(Calls Tryz.prog 27 #[.pointer (some ⟨b,0,none⟩),.agg (z01 y).toArray,.slice qa qn qc] W fun e w'=>(∃ v,e=.returned v)∧MET w' base w'.heap.size ok b g d (MEML d y n i (PSP i n).length t' ++ T)∧STEPM b g W w')):=fun t t' s u hm base top b g ok T W hW hbase hM hTT hok=>by
    have htb:∀ W2,Below base W W2→Tabled W2∧HX.Tabled W2∧2<W2.heap.size:=fun W2 h=>HTB.out W2 (hW.trans (h.mono hbase))
    exact ⟨z7P d x hx n i _ t bp hm.hi hm.hn rfl hm.hp pa pn pc hpn hpc W base top b g ok T hM hTT (hP.below hW) hok htb,z7P d y hy n i _ t' bq hm.hi hm.hn rfl hm.hq qa qn qc hqn hqc W base top b g ok T hM hTT (hQ.below hW) hok htb⟩
  have q1:∀ w,(Op.equalIn 10000 23 (.agg (z01 x).toArray) (.agg (z01 y).toArray)).run Tryz.prog w=.ok false w:=fun w=>by rw [z3a lx ly w,decide_eq_false hxy]
  obtain ⟨W0,hW0⟩:∃ W0,(((w.alloc (.cells (z01 root).toArray 23)).alloc (.cells (z01 x).toArray 23)).alloc (.cells (z01 y).toArray 23)).alloc (.cells #[.slice none 0 0,.slice none 0 0] 30)=W0:=⟨_,rfl⟩
  obtain ⟨br,hbr⟩:∃ b,w.heap.size=b:=⟨_,rfl⟩
  have hb0:Below w.heap.size w W0:=by rw [← hW0];exact ((((Below.refl _ _).alloc (Nat.le_refl _) _).alloc (by simp) _).alloc (by simp;omega) _).alloc (by simp;omega) _
  have kr:Has W0 br (z01 root).toArray 23:=by rw [← hW0,← hbr];exact (((Has.new _ _ _).alloc _).alloc _).alloc _
  have kx:Has W0 (br+1) (z01 x).toArray 23:=by rw [← hW0,← hbr];exact ((Has.at _ _ _ (by simp)).alloc _).alloc _
  have ky:Has W0 (br+1+1) (z01 y).toArray 23:=by rw [← hW0,← hbr];exact (Has.at _ _ _ (by simp)).alloc _
  have kz:Has W0 (br+1+1+1) #[.slice none 0 0,.slice none 0 0] 30:=by rw [← hW0,← hbr];exact Has.at _ _ _ (by simp)
  obtain ⟨bx,hbx⟩:∃ b,br+1=b:=⟨_,rfl⟩
  rw [hbx] at kx ky kz
  obtain ⟨by9,hby⟩:∃ b,bx+1=b:=⟨_,rfl⟩
  rw [hby] at ky kz
  obtain ⟨bz,hbz⟩:∃ b,by9+1=b:=⟨_,rfl⟩
  rw [hbz] at kz
  have hzb:w.heap.size≤bz:=by omega
  have HZ:Aside (w.heap.size≤bz):=hzb
  have hIn:=HTB.out
  obtain ⟨X,hXX⟩:∃ X,CLMB d root n i x bp y bq=X:=⟨_,rfl⟩
  rw [hXX] at HC ⊢
  have HXX:Aside (CLMB d root n i x bp y bq=X):=hXX
  clear hXX
  obtain ⟨U1,hU1⟩:∃ U,MEMA d root n i x bp=U:=⟨_,rfl⟩
  obtain ⟨U2,hU2⟩:∃ U,MEMA d root n i y bq=U:=⟨_,rfl⟩
  rw [hU1,hU2] at CM HC
  have c1:=(CM.out W0 hb0).1
  have R0:Aside (Below w.heap.size w W0):=hb0
  clear hroot hn hi hx hy hpn hpc hqn hqc hP hQ hT hX h0 lp lq hxy hU1 hU2 hb0 hzb hIn HTB
  go_enter Tryz.func9,Tryz.ntmps9
  go_upto_region 1 with fail
  clear hW0 hbr hbx hby hbz
  go_wp2_with (first
    | (refine z0y (by rfl) 23 (.tmp 9) rfl 32 5 br rfl 23 (z01 root).toArray (0,0) kr Tryz.underlying23 (z05 lr) ?_)
    | (refine wpList_load_row rfl 23 (.tmp 9) rfl br rfl 23 (z01 root).toArray (0,0) _ kr Tryz.underlying23 rfl (z05 lr) ?_)
    | (refine z0y (by rfl) 23 (.tmp 12) rfl 32 5 bx rfl 23 (z01 x).toArray (0,0) kx Tryz.underlying23 (z05 lx) ?_)
    | (refine wpList_load_row rfl 23 (.tmp 12) rfl bx rfl 23 (z01 x).toArray (0,0) _ kx Tryz.underlying23 rfl (z05 lx) ?_)
    | (refine z0y (by rfl) 23 (.tmp 14) rfl 32 5 by9 rfl 23 (z01 y).toArray (0,0) ky Tryz.underlying23 (z05 ly) ?_)
    | (refine wpList_load_row rfl 23 (.tmp 14) rfl by9 rfl 23 (z01 y).toArray (0,0) _ ky Tryz.underlying23 rfl (z05 ly) ?_)
    | fail)
  refine c1.mono ?_
  rintro e w1 ⟨rfl,hb1⟩
  clear c1
  have hbw:Below w.heap.size w w1:=R0.out.trans (hb1.mono R0.out.size)
  have kr:=kr.keep hb1
  have kx:=kx.keep hb1
  have ky:=ky.keep hb1
  have kz:=kz.keep hb1
  clear hb1
  by_cases hE:U1=0
  · subst hE
    have c2:=(CM.out w1 hbw).2
    go_wp2_with (first
      | (refine z0y (by rfl) 23 (.tmp 9) rfl 32 5 br rfl 23 (z01 root).toArray (0,0) kr Tryz.underlying23 (z05 lr) ?_)
      | (refine wpList_load_row rfl 23 (.tmp 9) rfl br rfl 23 (z01 root).toArray (0,0) _ kr Tryz.underlying23 rfl (z05 lr) ?_)
      | (refine z0y (by rfl) 23 (.tmp 12) rfl 32 5 bx rfl 23 (z01 x).toArray (0,0) kx Tryz.underlying23 (z05 lx) ?_)
      | (refine wpList_load_row rfl 23 (.tmp 12) rfl bx rfl 23 (z01 x).toArray (0,0) _ kx Tryz.underlying23 rfl (z05 lx) ?_)
      | (refine z0y (by rfl) 23 (.tmp 14) rfl 32 5 by9 rfl 23 (z01 y).toArray (0,0) ky Tryz.underlying23 (z05 ly) ?_)
      | (refine wpList_load_row rfl 23 (.tmp 14) rfl by9 rfl 23 (z01 y).toArray (0,0) _ ky Tryz.underlying23 rfl (z05 ly) ?_)
      | fail)
    refine c2.mono ?_
    rintro e w2 ⟨rfl,hb2⟩
    clear c2 q1
    have kr:=kr.keep hb2
    have kx:=kx.keep hb2
    have ky:=ky.keep hb2
    have kz:=kz.keep hb2
    have hbw:Below w.heap.size w w2:=hbw.trans (hb2.mono hbw.size)
    clear hb2
    by_cases hE':U2=0
    · subst hE'
      obtain ⟨t,t',s,u,hm⟩:=HC.out.2 (by exact ⟨by first | rfl | trivial,by first | rfl | trivial⟩)
      have hXe:X=some (s,u):=HXX.out.symm.trans hm.told
      subst hXe
      have HM:Aside (MEMT d root n i x bp y bq t t' s u):=hm
      clear HC HXX hm CM kr
      have cm:=zhF d w2 (fun i=>i≠bz)
      go_wp2_with fail
      refine cm.mono ?_
      rintro e w6 ⟨rfl,hm6,hb6⟩
      clear cm
      obtain ⟨bm,hbm⟩:∃ bm,w2.heap.size+1=bm:=⟨_,rfl⟩
      obtain ⟨gm,hgm⟩:∃ gm,w2.heap.size=gm:=⟨_,rfl⟩
      rw [hbm] at hm6 ⊢
      rw [hgm] at hm6
      have hbw6:Below w.heap.size w w6:=hbw.trans (hb6.mono hbw.size)
      have hs5:=hbw.size
      have hs6:=hb6.size
      have kz6:=kz.keep hb6
      have kx6:=kx.keep hb6
      have ky6:=ky.keep hb6
      have c1:=(CMM.out t t' s u HM.out gm w6.heap.size bm gm (fun i=>i≠bz) [] w6 hbw6 (by omega) hm6 (by simp) (fun j hj=>by have:=kz6.lt;omega)).1
      have B6:Aside (Below w.heap.size w w6∧bm=gm+1∧w.heap.size≤gm∧Has w6 bz #[.slice none 0 0,.slice none 0 0] 30∧Has w6 by9 (z01 y).toArray 23∧bz<gm∧by9<gm):=⟨hbw6,by omega,by omega,kz6,ky6,by have:=kz.lt;omega,by have:=ky.lt;omega⟩
      clear hbm hgm hb6 hbw6 hs5 hs6 kz6 hm6 kz hbw kx ky ky6
      go_wp2_with (first
        | (refine wpList_load_row rfl 23 (.tmp 12) rfl bx rfl 23 (z01 x).toArray (0,0) _ kx6 Tryz.underlying23 rfl (z05 lx) ?_)
        | fail)
      refine c1.mono ?_
      rintro e w7 ⟨⟨v,rfl⟩,hm7,st7⟩
      clear c1 kx6
      have hs7:=st7.size
      have hbw7:Below w.heap.size w w7:=by
        have h:=B6.out
        exact h.1.trans (st7.below (by have:=h.1.size;omega) (by omega) (by omega))
      have kz7:Has w7 bz #[.slice none 0 0,.slice none 0 0] 30:=(st7.block bz B6.out.2.2.2.1.lt (by have:=B6.out;omega) (by have:=B6.out;omega)).trans B6.out.2.2.2.1
      have ky7:Has w7 by9 (z01 y).toArray 23:=(st7.block by9 B6.out.2.2.2.2.1.lt (by have:=B6.out;omega) (by have:=B6.out;omega)).trans B6.out.2.2.2.2.1
      have c2:=(CMM.out t t' s u HM.out gm w7.heap.size bm gm (fun i=>i≠bz) (MEML d x n i (PSP i n).length t ++ []) w7 hbw7 B6.out.2.2.1 hm7 (by rw [List.append_nil];have:=zgQ d x (PSP i n).length t HM.out.hi HM.out.hn;omega) (fun j hj=>by have:=kz7.lt;omega)).2
      have B7:Aside (Below w.heap.size w w7∧Has w7 bz #[.slice none 0 0,.slice none 0 0] 30):=⟨hbw7,kz7⟩
      clear hm7 st7 hs7 hbw7 kz7
      go_wp2_with (first
        | (refine wpList_load_row rfl 23 (.tmp 14) rfl by9 rfl 23 (z01 y).toArray (0,0) _ ky7 Tryz.underlying23 rfl (z05 ly) ?_)
        | fail)
      refine c2.mono ?_
      rintro e w8 ⟨⟨v2,rfl⟩,hm8,st8⟩
      clear c2 ky7 CMM
      have hzb:=HZ.out
      have hs8:=st8.size
      have hbw8:Below w.heap.size w w8:=B7.out.1.trans (st8.below (by have:=B7.out.1.size;omega) (by have:=B6.out;omega) (by have:=B6.out;omega))
      have kz8:Has w8 bz #[.slice none 0 0,.slice none 0 0] 30:=(st8.block bz B7.out.2.lt (by have:=B6.out;omega) (by have:=B6.out;omega)).trans B7.out.2
      obtain ⟨a1,n1,c1,a2,n2,c2,hB8, -⟩:=hm8.blk
      generalize hfd:(CLS d (MEML d y n i (PSP i n).length t' ++ (MEML d x n i (PSP i n).length t ++ []))).isSome=fd at hB8
      have FIN:Aside (∀ W,W=w8.drew→fd=true∧CLASHED w (some (s,u)) (.returned (.tuple #[.agg #[.slice a1 n1 c1,.slice a2 n2 c2],.bool fd])) ((W.setCell ⟨bz,0,none⟩ (.slice a1 n1 c1)).setCell ⟨bz,1,none⟩ (.slice a2 n2 c2))∧Has ((W.setCell ⟨bz,0,none⟩ (.slice a1 n1 c1)).setCell ⟨bz,1,none⟩ (.slice a2 n2 c2)) bz #[.slice a1 n1 c1,.slice a2 n2 c2] 30):=by
        rintro W rfl
        have hHz:Has w8.drew bz #[.slice none 0 0,.slice none 0 0] 30:=kz8
        have:=MET.told (w0:=w) (w':=(w8.drew.setCell ⟨bz,0,none⟩ (.slice a1 n1 c1)).setCell ⟨bz,1,none⟩ (.slice a2 n2 c2)) (bz:=bz) hm8 hB8 HM.out.cls B6.out.2.2.1 ((hbw8.drew.setCell (p:=⟨bz,0,none⟩) hzb _).setCell (p:=⟨bz,1,none⟩) hzb _) (fun i hi=>(Below.heap_setCell _ _ _ i hi).trans (Below.heap_setCell _ _ _ i hi)) (fun i h=>h)
        exact ⟨this.1,this.2,(hHz.set 0 _).set 1 _⟩
      have y2:w8.cell? ⟨bm,2,none⟩=some (.slice a1 n1 c1):=hB8.cell 2
      have y3:w8.cell? ⟨bm,3,none⟩=some (.slice a2 n2 c2):=hB8.cell 3
      have y4:w8.cell? ⟨bm,4,none⟩=some (.bool fd):=hB8.cell 4
      have hne:bm≠bz:=by have:=B6.out;omega
      go_upto_region 6 with fail
      refine zf3 w8 bm bz a1 a2 n1 c1 n2 c2 fd (fun W=>W=w8.drew) (fun W=>W=(w8.drew.setCell ⟨bz,0,none⟩ (.slice a1 n1 c1)).setCell ⟨bz,1,none⟩ (.slice a2 n2 c2)) rfl (fun W e=>by subst e;exact ⟨y2,y3,y4⟩) (fun W e=>by subst e;exact ⟨(World.cell?_setCell_other _ _ _ _ (fun e=>hne (congrArg Addr.block e).symm)).trans ((World.cell?_setCell_other _ _ _ _ (fun e=>hne (congrArg Addr.block e).symm)).trans y2),(World.cell?_setCell_other _ _ _ _ (fun e=>hne (congrArg Addr.block e).symm)).trans ((World.cell?_setCell_other _ _ _ _ (fun e=>hne (congrArg Addr.block e).symm)).trans y3),(World.cell?_setCell_other _ _ _ _ (fun e=>hne (congrArg Addr.block e).symm)).trans ((World.cell?_setCell_other _ _ _ _ (fun e=>hne (congrArg Addr.block e).symm)).trans y4)⟩) (fun W e=>by subst e;exact kz8) (fun W e=>by subst e;rfl) (fun _ _ _ _ _ h=>h) ?_
      intro W hW
      obtain ⟨q0,q1,q2⟩:=FIN.out w8.drew rfl
      rw [← hW] at q1 q2
      subst q0
      clear hW FIN y2 y3 y4 hB8 hm8 st8
      have z0:W.cell? ⟨bz,0,none⟩=some (.slice a1 n1 c1):=q2.cell 0
      have z1:W.cell? ⟨bz,1,none⟩=some (.slice a2 n2 c2):=q2.cell 1
      go_wp2_with fail
      refine bodyPost_ret (v:=.tuple #[.agg #[.slice a1 n1 c1,.slice a2 n2 c2],.bool true]) ?_ rfl q1
      simp [results,Tryz.f9,go_sem,z0,z1]
    · have hX0:=HC.out.1 (by rintro ⟨_,h⟩;exact hE' h)
      have hE2:(U2 != 0)=true:=bne_iff_ne.2 hE'
      have hzb:=HZ.out
      subst hX0
      clear HC hE' kr kx ky CM CMM
      have x0:w2.cell? ⟨bz,0,none⟩=some (.slice none 0 0):=kz.cell 0
      have x1:w2.cell? ⟨bz,1,none⟩=some (.slice none 0 0):=kz.cell 1
      have f0:=kz.frozen 0
      have f1:=kz.frozen 1
      go_wp2
      have hH:=(kz.set 0 (.slice none 0 0)).set 1 (.slice none 0 0)
      have hb:=(hbw.setCell (p:=⟨bz,0,none⟩) hzb (.slice none 0 0)).setCell (p:=⟨bz,1,none⟩) hzb (.slice none 0 0)
      clear x0 x1 f0 f1 kz
      generalize (w2.setCell ⟨bz,0,none⟩ (.slice none 0 0)).setCell ⟨bz,1,none⟩ (.slice none 0 0)=wf at *
      have z0:wf.cell? ⟨bz,0,none⟩=some (.slice none 0 0):=hH.cell 0
      have z1:wf.cell? ⟨bz,1,none⟩=some (.slice none 0 0):=hH.cell 1
      refine bodyPost_ret (v:=.tuple #[.agg #[.slice none 0 0,.slice none 0 0],.bool false]) ?_ rfl ⟨hb,rfl⟩
      simp [results,Tryz.f9,go_sem,z0,z1]
  · have hX0:=HC.out.1 (by rintro ⟨h,_⟩;exact hE h)
    have hE1:(U1 != 0)=true:=bne_iff_ne.2 hE
    have hzb:=HZ.out
    subst hX0
    clear HC hE q1 kr kx ky CM CMM
    have x0:w1.cell? ⟨bz,0,none⟩=some (.slice none 0 0):=kz.cell 0
    have x1:w1.cell? ⟨bz,1,none⟩=some (.slice none 0 0):=kz.cell 1
    have f0:=kz.frozen 0
    have f1:=kz.frozen 1
    go_wp2
    have hH:=(kz.set 0 (.slice none 0 0)).set 1 (.slice none 0 0)
    have hb:=(hbw.setCell (p:=⟨bz,0,none⟩) hzb (.slice none 0 0)).setCell (p:=⟨bz,1,none⟩) hzb (.slice none 0 0)
    clear x0 x1 f0 f1 kz
    generalize (w1.setCell ⟨bz,0,none⟩ (.slice none 0 0)).setCell ⟨bz,1,none⟩ (.slice none 0 0)=wf at *
    have z0:wf.cell? ⟨bz,0,none⟩=some (.slice none 0 0):=hH.cell 0
    have z1:wf.cell? ⟨bz,1,none⟩=some (.slice none 0 0):=hH.cell 1
    refine bodyPost_ret (v:=.tuple #[.agg #[.slice none 0 0,.slice none 0 0],.bool false]) ?_ rfl ⟨hb,rfl⟩
    simp [results,Tryz.f9,go_sem,z0,z1]
end Go.Proofs.YtbmjoiiagldklaaGreatDoor

namespace Go.Proofs.YtbmjoiiagldklaaGreatDoor
open Go.RowKit
set_option maxRecDepth 100000
end Go.Proofs.YtbmjoiiagldklaaGreatDoor

namespace Go.Proofs.YtbmjoiiagldklaaGreatDoor.HX
open Go.RowKit
set_option maxRecDepth 100000
def z1m (d:Int) (l k:List Nat):Bool:=!decide (l=k) && (List.range 32).all fun i=>z0b d l i == z0b d k i
theorem z9z {w w':World} (hb:Below w.heap.size w w'):∀ (j:Nat) C t,Has w j C t→Has w' j C t:=fun _ _ _ h=>h.keep hb
theorem z79 (d:Int) (l:List Nat):z1m d l l=false:=by simp [z1m]
theorem z5x (d:Int) {l k:List Nat} (h:l≠k):z1m d l k=(List.range 32).all fun i=>z0b d l i == z0b d k i:=by simp [z1m,h]
theorem z9k (d:Int) (a:Option Addr) (n c:Nat) (l:List Nat) (b:Option Addr) (m c':Nat) (k:List Nat) (w:World) (h1:Text w a n l) (hc1:n≤c) (hx1:∀ x,a=some x→x.block<w.heap.size) (hn:n<2 ^ 60) (h2:Text w b m k) (hc2:m≤c') (hx2:∀ x,b=some x→x.block<w.heap.size) (hm:m<2 ^ 60) (hT:Tabled w):Calls Tryz.prog 21 #[.int .i64 d,.agg #[.slice a n c,.slice b m c']] w fun e w'=>e=.returned (.bool (z1m d l k))∧Below w.heap.size w w':=by
  have hb0:Below w.heap.size w (w.alloc (.cells #[.slice a n c,.slice b m c'] 30)):=(Below.refl _ _).alloc (Nat.le_refl _) _
  have hbox:Has (w.alloc (.cells #[.slice a n c,.slice b m c'] 30)) w.heap.size #[.slice a n c,.slice b m c'] 30:=Has.new w _ _
  have H:Aside (Text w a n l∧n≤c∧(∀ x,a=some x→x.block<w.heap.size)∧n<2 ^ 60∧Text w b m k∧m≤c'∧(∀ x,b=some x→x.block<w.heap.size)∧m<2 ^ 60∧Tabled w):=⟨h1,hc1,hx1,hn,h2,hc2,hx2,hm,hT⟩
  clear h1 hc1 hx1 hn h2 hc2 hx2 hm hT
  have HR:Aside ((l=k→z1m d l k=false)∧(l≠k→z1m d l k=(List.range 32).all fun i=>z0b d l i == z0b d k i)):=⟨fun h=>by subst h;exact z79 d l,fun h=>z5x d h⟩
  generalize z1m d l k=hr at *
  go_enter Tryz.func21,Tryz.ntmps21
  go_upto_region 1 with fail
  generalize hw1:w.alloc (.cells #[.slice a n c,.slice b m c'] 30)=w1 at *
  have hs:∀ W,Below w1.heap.size w1 W→W.cell? ⟨w.heap.size,0,none⟩=some (.slice a n c)∧W.cell? ⟨w.heap.size,1,none⟩=some (.slice b m c'):=fun W hb=>by
    have h:=hbox.keep hb
    exact ⟨(h.cell 0).trans rfl,(h.cell 1).trans rfl⟩
  have hbw:∀ W,Below w1.heap.size w1 W→Below w.heap.size w W:=fun W hb=>hb0.trans (hb.mono hb0.size)
  by_cases e:l=k
  · have hr0:=HR.out.1 e
    subst e
    refine zk8 _ _ _ _ _ _ _ _ _ _ _ _ _ _ _ _ _ _ _ _ _ w1 d w.heap.size a n c b m c' (fun W=>Below w1.heap.size w1 W) hs (Below.refl _ _).drew (fun W hW=>?_) (fun _ _ _ _ _ h=>h) ?_
    · refine (z2U a n c l b m c' l W (H.out.1.below (hbw W hW)) (H.out.2.2.2.2.1.below (hbw W hW))).mono ?_
      rintro e w' ⟨rfl,rfl⟩
      exact ⟨by rw [decide_eq_true rfl],hW⟩
    · intro W hW
      have R:=hbw W hW
      clear hW hs hbw hbox hb0 hw1
      go_wp2
      go_ret
      exact ⟨by first | rfl | (subst hr0;rfl) | (rw [hr0];rfl),R⟩
  · have hr0:=HR.out.2 e
    clear HR
    refine zkR _ _ _ _ _ _ _ _ _ _ _ _ _ _ _ _ _ _ _ _ _ w1 d w.heap.size a n c b m c' (fun W=>Below w1.heap.size w1 W) hs (Below.refl _ _).drew (z0b d l) (z0b d k) ((List.range 32).all fun i=>z0b d l i == z0b d k i) (fun W o hW=>hW.alloc hW.size _) (fun W=>z2Z _ _ W) (fun W hW=>?_) (fun W g hW hg=>?_) (fun W g hW hg=>?_) (fun _ _ _ _ _ h=>h) ?_
    · refine (z2U a n c l b m c' k W (H.out.1.below (hbw W hW)) (H.out.2.2.2.2.1.below (hbw W hW))).mono ?_
      rintro e' w' ⟨rfl,rfl⟩
      exact ⟨by rw [decide_eq_false e],hW⟩
    · have hb:=hbw W hW
      refine (sum9 d W g a n c l hg (H.out.1.below hb) H.out.2.1 (fun x hx=>Nat.lt_of_lt_of_le (H.out.2.2.1 x hx) hb.size) H.out.2.2.2.1 (H.out.2.2.2.2.2.2.2.2.below hb)).mono ?_
      rintro e' w' ⟨rfl,hb'⟩
      exact ⟨rfl,hW.trans (hb'.mono hW.size),z9z hb'⟩
    · have hb:=hbw W hW
      refine (sum9 d W g b m c' k hg (H.out.2.2.2.2.1.below hb) H.out.2.2.2.2.2.1 (fun x hx=>Nat.lt_of_lt_of_le (H.out.2.2.2.2.2.2.1 x hx) hb.size) H.out.2.2.2.2.2.2.2.1 (H.out.2.2.2.2.2.2.2.2.below hb)).mono ?_
      rintro e' w' ⟨rfl,hb'⟩
      exact ⟨rfl,hW.trans (hb'.mono hW.size),z9z hb'⟩
    · intro g g2 W hW
      have R:=hbw W hW
      clear hW hs hbw hbox hb0 hw1 e
      generalize ((List.range 32).all fun i=>z0b d l i == z0b d k i)=r at *
      go_wp2
      go_ret
      exact ⟨by first | rfl | (subst hr0;rfl) | (rw [hr0];rfl),R⟩
theorem zaH (d:Int) (a:Option Addr) (n c:Nat) (l:List Nat) (b:Option Addr) (m c':Nat) (k:List Nat) (w:World) (h1:Text w a n l) (hc1:a=none→c=0) (hn:n<2 ^ 30) (h2:Text w b m k) (hc2:b=none→c'=0) (hm:m<2 ^ 30):Calls Tryz.prog 28 #[.int .i64 d,.agg #[.slice a n c,.slice b m c']] w fun e w'=>e=.returned (.bool (z1m d l k))∧Below w.heap.size w w':=by
  have hb0:Below w.heap.size w (w.alloc (.cells #[.slice a n c,.slice b m c'] 30)):=(Below.refl _ _).alloc (Nat.le_refl _) _
  have hbox:Has (w.alloc (.cells #[.slice a n c,.slice b m c'] 30)) w.heap.size #[.slice a n c,.slice b m c'] 30:=Has.new w _ _
  have H:Aside (Text w a n l∧(a=none→c=0)∧n<2 ^ 30∧Text w b m k∧(b=none→c'=0)∧m<2 ^ 30):=⟨h1,hc1,hn,h2,hc2,hm⟩
  clear h1 hc1 hn h2 hc2 hm
  have HR:Aside ((l=k→z1m d l k=false)∧(l≠k→z1m d l k=(List.range 32).all fun i=>z0b d l i == z0b d k i)):=⟨fun h=>by subst h;exact z79 d l,fun h=>z5x d h⟩
  generalize z1m d l k=hr at *
  go_enter Tryz.func28,Tryz.ntmps28
  go_upto_region 1 with fail
  generalize hw1:w.alloc (.cells #[.slice a n c,.slice b m c'] 30)=w1 at *
  have hs:∀ W,Below w1.heap.size w1 W→W.cell? ⟨w.heap.size,0,none⟩=some (.slice a n c)∧W.cell? ⟨w.heap.size,1,none⟩=some (.slice b m c'):=fun W hb=>by
    have h:=hbox.keep hb
    exact ⟨(h.cell 0).trans rfl,(h.cell 1).trans rfl⟩
  have hbw:∀ W,Below w1.heap.size w1 W→Below w.heap.size w W:=fun W hb=>hb0.trans (hb.mono hb0.size)
  by_cases e:l=k
  · have hr0:=HR.out.1 e
    subst e
    refine zk9 _ _ _ _ _ _ _ _ _ _ _ _ _ _ _ _ _ _ _ _ _ w1 d w.heap.size a n c b m c' (fun W=>Below w1.heap.size w1 W) hs (Below.refl _ _).drew (fun W hW=>?_) (fun _ _ _ _ _ h=>h) ?_
    · refine (z1E a b n m c c' l l W (H.out.1.below (hbw W hW)) (H.out.2.2.2.1.below (hbw W hW)) (by have:=H.out.2.2.1;omega)).mono ?_
      rintro e w' ⟨rfl,hb', -⟩
      exact ⟨by rw [decide_eq_true rfl],hW.trans (hb'.mono hW.size)⟩
    · intro W hW
      have R:=hbw W hW
      clear hW hs hbw hbox hb0 hw1
      go_wp2
      go_ret
      exact ⟨by first | rfl | (subst hr0;rfl) | (rw [hr0];rfl),R⟩
  · have hr0:=HR.out.2 e
    clear HR
    refine zkS _ _ _ _ _ _ _ _ _ _ _ _ _ _ _ _ _ _ _ _ _ w1 d w.heap.size a n c b m c' (fun W=>Below w1.heap.size w1 W) hs (Below.refl _ _).drew (z0b d l) (z0b d k) ((List.range 32).all fun i=>z0b d l i == z0b d k i) (fun W o hW=>hW.alloc hW.size _) (fun W=>z2Z _ _ W) (fun W hW=>?_) (fun W g hW hg=>?_) (fun W g hW hg=>?_) (fun _ _ _ _ _ h=>h) ?_
    · refine (z1E a b n m c c' l k W (H.out.1.below (hbw W hW)) (H.out.2.2.2.1.below (hbw W hW)) (by have:=H.out.2.2.1;omega)).mono ?_
      rintro e' w' ⟨rfl,hb', -⟩
      exact ⟨by rw [decide_eq_false e],hW.trans (hb'.mono hW.size)⟩
    · refine (zcg d W g a n c l hg (H.out.1.below (hbw W hW)) H.out.2.1 H.out.2.2.1).mono ?_
      rintro e' w' ⟨rfl,hb'⟩
      exact ⟨rfl,hW.trans (hb'.mono hW.size),z9z hb'⟩
    · refine (zcg d W g b m c' k hg (H.out.2.2.2.1.below (hbw W hW)) H.out.2.2.2.2.1 H.out.2.2.2.2.2).mono ?_
      rintro e' w' ⟨rfl,hb'⟩
      exact ⟨rfl,hW.trans (hb'.mono hW.size),z9z hb'⟩
    · intro g g2 W hW
      have R:=hbw W hW
      clear hW hs hbw hbox hb0 hw1 e
      generalize ((List.range 32).all fun i=>z0b d l i == z0b d k i)=r at *
      go_wp2
      go_ret
      exact ⟨by first | rfl | (subst hr0;rfl) | (rw [hr0];rfl),R⟩
end Go.Proofs.YtbmjoiiagldklaaGreatDoor.HX
