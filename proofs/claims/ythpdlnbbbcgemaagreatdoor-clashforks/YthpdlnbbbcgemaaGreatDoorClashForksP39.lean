/- Texts of ClashForks, one behind the other: ClashForkCall, ProofMarked, ClashHoldsCall, ClashFairState. -/
import Derived.Deep.Cut
import Derived.Deep.QuietTactic
import Derived.BigQuiet
import Derived.Test.YthpdlnbbbcgemaaGreatDoorClashForksP38
namespace Go.Proofs.YthpdlnbbbcgemaaGreatDoor
open Go.RowKit
set_option maxRecDepth 100000
def CLFK (d:Int) (m:Nat) (a b:List Int) (n:Nat) (E1 E2:Int) (bp bq:List Int):Option (List Nat × List Nat):=if a≠b∧E1=0∧E2=0 then CLS d (PFXL d m n (DEX bq).2.2.2.2 ++ (PFXL d m n (DEX bp).2.2.2.2 ++ [])) else none
theorem zc7 {d:Int} {m n:Nat} {a b bp bq:List Int} {E1 E2:Int} {s t:List Nat} (h:CLFK d m a b n E1 E2 bp bq=some (s,t)):s≠t∧HSHT d s=HSHT d t:=by
  unfold CLFK at h
  split at h
  · have:=z8U h
    exact ⟨this.1,this.2.1⟩
  · cases h
structure FRKT (d:Int) (m:Nat) (a b:List Int) (n:Nat) (r:List Int) (E1 E2:Int) (bp bq:List Int) (t t':List Int) (s u:List Nat):Prop where
  hp:DEX bp=(0,m,n,(PXS m n).length,t)
  hq:DEX bq=(0,m,n,(PXS m n).length,t')
  hm:0<m
  p:PFXOK d m n a r t
  q:PFXOK d m n b r t'
  told:CLFK d m a b n E1 E2 bp bq=some (s,u)
  cls:CLS d (PFXL d m n t' ++ (PFXL d m n t ++ []))=some (s,u)
abbrev PFE (d:Int) (TS:List Int→Nat) (m:Nat) (r1:List Int) (n:Nat) (r2 bl:List Int):Int:=PFXA d (JSX (DEX bl).2.1 (DEX bl).2.2.1 (TS bl)) m r1 n r2 bl
def zc8 (TS:List Int→Nat):Prop:=∀ K:List Int,(∀ x∈K,0≤x∧x≤255)→LOWS (DEX K).2.1 (TS K)∧((DEX K).2.1≤(DEX K).2.2.1→(DEX K).2.2.1≤4611686018427387904→JSOK (DEX K).2.1 ((DEX K).2.2.1 - (DEX K).2.1) (JSX (DEX K).2.1 (DEX K).2.2.1 (TS K)))
theorem z7W {d:Int} {TS:List Int→Nat} (hTS:zc8 TS) {m n:Nat} {a b r bp bq:List Int} (hm:m<2 ^ 64) (hn:n<2 ^ 64) (hp:∀ z∈bp,0≤z∧z≤255) (hq:∀ z∈bq,0≤z∧z≤255) (lp:(DEX bp).1=0→(DEX bp).2.2.2.2.length=32*(DEX bp).2.2.2.1∧∀ z∈(DEX bp).2.2.2.2,0≤z∧z≤255) (lq:(DEX bq).1=0→(DEX bq).2.2.2.2.length=32*(DEX bq).2.2.2.1∧∀ z∈(DEX bq).2.2.2.2,0≤z∧z≤255) (h:a≠b∧PFE d TS m a n r bp=0∧PFE d TS m b n r bq=0):∃ t t' s u,FRKT d m a b n r (PFE d TS m a n r bp) (PFE d TS m b n r bq) bp bq t t' s u:=by
  obtain ⟨t,p1,p2⟩:=z7V hp hm hn (hTS bp hp).1 lp h.2.1
  obtain ⟨t',r1,r2⟩:=z7V hq hm hn (hTS bq hq).1 lq h.2.2
  have e:CLFK d m a b n (PFE d TS m a n r bp) (PFE d TS m b n r bq) bp bq=CLS d (PFXL d m n t' ++ (PFXL d m n t ++ [])):=by
    unfold CLFK
    rw [if_pos h,p1,r1]
  have hm0:=p2.pos r2 h.1
  cases hc:CLS d (PFXL d m n t' ++ (PFXL d m n t ++ [])) with
  | some z=>
    obtain ⟨s,u⟩:=z
    exact ⟨t,t',s,u,p1,r1,hm0,p2,r2,by rw [e,hc],hc⟩
  | none=>
    exact absurd (zfb (z5O hc) p2 r2 (fun z hz=>List.mem_append.2 (.inr (List.mem_append.2 (.inl hz)))) (fun z hz=>List.mem_append.2 (.inl hz))) h.1
set_option maxHeartbeats 8000000 in
theorem zdv (d:Int) (TS:List Int→Nat) (hTS:zc8 TS) (m:Nat) (hm:m<2 ^ 64) (a b:List Int) (ha:IsH a) (hb:IsH b) (n:Nat) (hn:n<2 ^ 64) (r:List Int) (hr:IsH r) (pa qa:Option Addr) (pn pc qn qc:Nat) (hpn:pn≤1000000) (hpc:pn≤pc) (hqn:qn≤1000000) (hqc:qn≤qc) (bp bq:List Int) (w:World) (hP:Bytes w pa pn bp) (hQ:Bytes w qa qn bq) (hT:Tabled w) (hX:HX.Tabled w) (h0:2<w.heap.size)
    (lp:(DEX bp).1=0→(DEX bp).2.2.2.2.length=32*(DEX bp).2.2.2.1∧∀ z∈(DEX bp).2.2.2.2,0≤z∧z≤255) (lq:(DEX bq).1=0→(DEX bq).2.2.2.2.length=32*(DEX bq).2.2.2.1∧∀ z∈(DEX bq).2.2.2.2,0≤z∧z≤255):
    Calls Tryz.prog 12 #[.int .i64 d,.int .u64 (m:Int),.agg (z01 a).toArray,.agg (z01 b).toArray,.int .u64 (n:Int),.agg (z01 r).toArray,.slice pa pn pc,.slice qa qn qc] w (CLASHED w (CLFK d m a b n (PFE d TS m a n r bp) (PFE d TS m b n r bq) bp bq)):=by
  by_cases hxy:a=b
  · subst hxy
    have e:CLFK d m a a n (PFE d TS m a n r bp) (PFE d TS m a n r bq) bp bq=none:=by unfold CLFK;rw [if_neg (fun h=>h.1 rfl)]
    rw [e]
    refine (zc5 d m n a r ha.1 _ _ w).mono ?_
    rintro e w' ⟨rfl,hb⟩
    exact ⟨hb,rfl⟩
  have la:=ha.1
  have lb:=hb.1
  have lr:=hr.1
  have HTB:Aside (∀ W,Below w.heap.size w W→Tabled W∧HX.Tabled W∧2<W.heap.size):=fun W h=>⟨hT.below (by omega) h,hX.below h,by have:=h.size;omega⟩
  have CM:Aside (∀ W,Below w.heap.size w W→(Calls Tryz.prog 19 #[.int .i64 d,.int .u64 (m:Int),.agg (z01 a).toArray,.int .u64 (n:Int),.agg (z01 r).toArray,.slice pa pn pc] W fun e w'=>e=.returned (.int .i64 (PFE d TS m a n r bp))∧Below W.heap.size W w')∧(Calls Tryz.prog 19 #[.int .i64 d,.int .u64 (m:Int),.agg (z01 b).toArray,.int .u64 (n:Int),.agg (z01 r).toArray,.slice qa qn qc] W fun e w'=>e=.returned (.int .i64 (PFE d TS m b n r bq))∧Below W.heap.size W w')):=fun W h=>by
    obtain ⟨g1,g2,g3⟩:=HTB.out W h
    exact ⟨z7S d m hm a ha n hn r hr pa pn pc hpn hpc bp _ (hTS bp hP.2.2).2 W (hP.below h) g1 g2 g3,z7S d m hm b hb n hn r hr qa qn qc hqn hqc bq _ (hTS bq hQ.2.2).2 W (hQ.below h) g1 g2 g3⟩
  have HC:Aside ((¬ (PFE d TS m a n r bp=0∧PFE d TS m b n r bq=0)→CLFK d m a b n (PFE d TS m a n r bp) (PFE d TS m b n r bq) bp bq=none)∧((PFE d TS m a n r bp=0∧PFE d TS m b n r bq=0)→∃ t t' s u,FRKT d m a b n r (PFE d TS m a n r bp) (PFE d TS m b n r bq) bp bq t t' s u)):=
    ⟨fun h=>by unfold CLFK;rw [if_neg (fun h2=>h h2.2)],fun h=>z7W hTS hm hn hP.2.2 hQ.2.2 lp lq ⟨hxy,h.1,h.2⟩⟩
  have CMM:Aside (∀ E1 E2 t t' s u,FRKT d m a b n r E1 E2 bp bq t t' s u→∀ base top k g (ok:Nat→Prop) T W,Below w.heap.size w W→w.heap.size≤base→MET W base top ok k g d T→T.length≤50000→(∀ j,W.heap.size≤j→ok j)→(Calls Tryz.prog 22 #[.pointer (some ⟨k,0,none⟩),.slice pa pn pc] W fun e w'=>(∃ v,e=.returned v)∧MET w' base w'.heap.size ok k g d (PFXL d m n t ++ T)∧STEPM k g W w')∧(Calls Tryz.prog 22 #[.pointer (some ⟨k,0,none⟩),.slice qa qn qc] W fun e w'=>(∃ v,e=.returned v)∧MET w' base w'.heap.size ok k g d (PFXL d m n t' ++ T)∧STEPM k g W w')):=fun E1 E2 t t' s u hm' base top k g ok T W hW hbase hM hTT hok=>by
    have htb:∀ W2,Below base W W2→Tabled W2∧HX.Tabled W2∧2<W2.heap.size:=fun W2 h=>HTB.out W2 (hW.trans (h.mono hbase))
    exact ⟨z6A d m n _ t bp hm'.hm hm'.p.le hm'.p.top rfl hm'.hp pa pn pc hpn hpc W base top k g ok T hM hTT (hP.below hW) hok htb,z6A d m n _ t' bq hm'.hm hm'.p.le hm'.p.top rfl hm'.hq qa qn qc hqn hqc W base top k g ok T hM hTT (hQ.below hW) hok htb⟩
  have q1:∀ w,(Op.equalIn 10000 24 (.agg (z01 a).toArray) (.agg (z01 b).toArray)).run Tryz.prog w=.ok false w:=fun w=>by rw [z3g la lb w,decide_eq_false hxy]
  obtain ⟨W0,hW0⟩:∃ W0,(((w.alloc (.cells (z01 a).toArray 24)).alloc (.cells (z01 b).toArray 24)).alloc (.cells (z01 r).toArray 24)).alloc (.cells #[.slice none 0 0,.slice none 0 0] 31)=W0:=⟨_,rfl⟩
  obtain ⟨br,hbr⟩:∃ b,w.heap.size=b:=⟨_,rfl⟩
  have hb0:Below w.heap.size w W0:=by rw [← hW0];exact ((((Below.refl _ _).alloc (Nat.le_refl _) _).alloc (by simp) _).alloc (by simp;omega) _).alloc (by simp;omega) _
  have kr:Has W0 br (z01 a).toArray 24:=by rw [← hW0,← hbr];exact (((Has.new _ _ _).alloc _).alloc _).alloc _
  have kx:Has W0 (br+1) (z01 b).toArray 24:=by rw [← hW0,← hbr];exact ((Has.at _ _ _ (by simp)).alloc _).alloc _
  have ky:Has W0 (br+1+1) (z01 r).toArray 24:=by rw [← hW0,← hbr];exact (Has.at _ _ _ (by simp)).alloc _
  have kz:Has W0 (br+1+1+1) #[.slice none 0 0,.slice none 0 0] 31:=by rw [← hW0,← hbr];exact Has.at _ _ _ (by simp)
  obtain ⟨bx,hbx⟩:∃ b,br+1=b:=⟨_,rfl⟩
  rw [hbx] at kx ky kz
  obtain ⟨by9,hby⟩:∃ b,bx+1=b:=⟨_,rfl⟩
  rw [hby] at ky kz
  obtain ⟨bz,hbz⟩:∃ b,by9+1=b:=⟨_,rfl⟩
  rw [hbz] at kz
  have hzb:w.heap.size≤bz:=by omega
  have HZ:Aside (w.heap.size≤bz):=hzb
  obtain ⟨X,hXX⟩:∃ X,CLFK d m a b n (PFE d TS m a n r bp) (PFE d TS m b n r bq) bp bq=X:=⟨_,rfl⟩
  rw [hXX] at HC ⊢
  have HXX:Aside (CLFK d m a b n (PFE d TS m a n r bp) (PFE d TS m b n r bq) bp bq=X):=hXX
  clear hXX
  generalize PFE d TS m a n r bp=U1 at *
  generalize PFE d TS m b n r bq=U2 at *
  have c1:=(CM.out W0 hb0).1
  have R0:Aside (Below w.heap.size w W0):=hb0
  clear ha hb hr hm hn hpn hpc hqn hqc hP hQ hT hX h0 lp lq hxy hb0 hzb HTB hTS
  go_enter Tryz.func12,Tryz.ntmps12
  go_upto_region 1 with fail
  clear hW0 hbr hbx hby hbz
  go_wp2_with (first
    | (refine z0p (by rfl) 24 (.tmp 10) rfl 32 5 br rfl 24 (z01 a).toArray (0,0) kr Tryz.underlying24 (z02 la) ?_)
    | (refine wpList_load_row rfl 24 (.tmp 10) rfl br rfl 24 (z01 a).toArray (0,0) _ kr Tryz.underlying24 rfl (z02 la) ?_)
    | (refine z0p (by rfl) 24 (.tmp 11) rfl 32 5 bx rfl 24 (z01 b).toArray (0,0) kx Tryz.underlying24 (z02 lb) ?_)
    | (refine wpList_load_row rfl 24 (.tmp 11) rfl bx rfl 24 (z01 b).toArray (0,0) _ kx Tryz.underlying24 rfl (z02 lb) ?_)
    | (refine z0p (by rfl) 24 (.tmp 13) rfl 32 5 by9 rfl 24 (z01 r).toArray (0,0) ky Tryz.underlying24 (z02 lr) ?_)
    | (refine wpList_load_row rfl 24 (.tmp 13) rfl by9 rfl 24 (z01 r).toArray (0,0) _ ky Tryz.underlying24 rfl (z02 lr) ?_)
    | fail)
  refine c1.mono ?_
  rintro e w1 ⟨rfl,hb1⟩
  clear c1
  have hbw:Below w.heap.size w w1:=R0.out.trans (hb1.mono R0.out.size)
  have kr:=kr.keep hb1
  have kx:=kx.keep hb1
  have ky:=ky.keep hb1
  have kz:=kz.keep hb1
  clear hb1
  by_cases hE:U1=0
  · subst hE
    have c2:=(CM.out w1 hbw).2
    go_wp2_with (first
      | (refine z0p (by rfl) 24 (.tmp 10) rfl 32 5 br rfl 24 (z01 a).toArray (0,0) kr Tryz.underlying24 (z02 la) ?_)
      | (refine wpList_load_row rfl 24 (.tmp 10) rfl br rfl 24 (z01 a).toArray (0,0) _ kr Tryz.underlying24 rfl (z02 la) ?_)
      | (refine z0p (by rfl) 24 (.tmp 11) rfl 32 5 bx rfl 24 (z01 b).toArray (0,0) kx Tryz.underlying24 (z02 lb) ?_)
      | (refine wpList_load_row rfl 24 (.tmp 11) rfl bx rfl 24 (z01 b).toArray (0,0) _ kx Tryz.underlying24 rfl (z02 lb) ?_)
      | (refine z0p (by rfl) 24 (.tmp 13) rfl 32 5 by9 rfl 24 (z01 r).toArray (0,0) ky Tryz.underlying24 (z02 lr) ?_)
      | (refine wpList_load_row rfl 24 (.tmp 13) rfl by9 rfl 24 (z01 r).toArray (0,0) _ ky Tryz.underlying24 rfl (z02 lr) ?_)
      | fail)
    refine c2.mono ?_
    rintro e w2 ⟨rfl,hb2⟩
    clear c2 q1
    have kr:=kr.keep hb2
    have kx:=kx.keep hb2
    have ky:=ky.keep hb2
    have kz:=kz.keep hb2
    have hbw:Below w.heap.size w w2:=hbw.trans (hb2.mono hbw.size)
    clear hb2
    by_cases hE':U2=0
    · subst hE'
      obtain ⟨t,t',s,u,hm⟩:=HC.out.2 (by exact ⟨by first | rfl | trivial,by first | rfl | trivial⟩)
      have hXe:X=some (s,u):=HXX.out.symm.trans hm.told
      subst hXe
      have HM:Aside (FRKT d m a b n r 0 0 bp bq t t' s u):=hm
      clear HC HXX hm CM kr
      have cm:=zg3 d w2 (fun i=>i≠bz)
      go_wp2_with fail
      refine cm.mono ?_
      rintro e w6 ⟨rfl,hm6,hb6⟩
      clear cm
      obtain ⟨bm,hbm⟩:∃ bm,w2.heap.size+1=bm:=⟨_,rfl⟩
      obtain ⟨gm,hgm⟩:∃ gm,w2.heap.size=gm:=⟨_,rfl⟩
      rw [hbm] at hm6 ⊢
      rw [hgm] at hm6
      have hbw6:Below w.heap.size w w6:=hbw.trans (hb6.mono hbw.size)
      have hs5:=hbw.size
      have hs6:=hb6.size
      have kz6:=kz.keep hb6
      have kx6:=kx.keep hb6
      have ky6:=ky.keep hb6
      have c1:=(CMM.out 0 0 t t' s u HM.out gm w6.heap.size bm gm (fun i=>i≠bz) [] w6 hbw6 (by omega) hm6 (by simp) (fun j hj=>by have:=kz6.lt;omega)).1
      have B6:Aside (Below w.heap.size w w6∧bm=gm+1∧w.heap.size≤gm∧Has w6 bz #[.slice none 0 0,.slice none 0 0] 31∧Has w6 by9 (z01 r).toArray 24∧bz<gm∧by9<gm):=⟨hbw6,by omega,by omega,kz6,ky6,by have:=kz.lt;omega,by have:=ky.lt;omega⟩
      clear hbm hgm hb6 hbw6 hs5 hs6 kz6 hm6 kz hbw kx ky ky6
      go_wp2_with fail
      refine c1.mono ?_
      rintro e w7 ⟨⟨v,rfl⟩,hm7,st7⟩
      clear c1 kx6
      have hs7:=st7.size
      have hbw7:Below w.heap.size w w7:=by
        have h:=B6.out
        exact h.1.trans (st7.below (by have:=h.1.size;omega) (by omega) (by omega))
      have kz7:Has w7 bz #[.slice none 0 0,.slice none 0 0] 31:=(st7.block bz B6.out.2.2.2.1.lt (by have:=B6.out;omega) (by have:=B6.out;omega)).trans B6.out.2.2.2.1
      have ky7:Has w7 by9 (z01 r).toArray 24:=(st7.block by9 B6.out.2.2.2.2.1.lt (by have:=B6.out;omega) (by have:=B6.out;omega)).trans B6.out.2.2.2.2.1
      have c2:=(CMM.out 0 0 t t' s u HM.out gm w7.heap.size bm gm (fun i=>i≠bz) (PFXL d m n t ++ []) w7 hbw7 B6.out.2.2.1 hm7 (by rw [List.append_nil];have:=zfa d t HM.out.p.le HM.out.p.top;omega) (fun j hj=>by have:=kz7.lt;omega)).2
      have B7:Aside (Below w.heap.size w w7∧Has w7 bz #[.slice none 0 0,.slice none 0 0] 31):=⟨hbw7,kz7⟩
      clear hm7 st7 hs7 hbw7 kz7
      go_wp2_with fail
      refine c2.mono ?_
      rintro e w8 ⟨⟨v2,rfl⟩,hm8,st8⟩
      clear c2 ky7 CMM
      have hzb:=HZ.out
      have hs8:=st8.size
      have hbw8:Below w.heap.size w w8:=B7.out.1.trans (st8.below (by have:=B7.out.1.size;omega) (by have:=B6.out;omega) (by have:=B6.out;omega))
      have kz8:Has w8 bz #[.slice none 0 0,.slice none 0 0] 31:=(st8.block bz B7.out.2.lt (by have:=B6.out;omega) (by have:=B6.out;omega)).trans B7.out.2
      obtain ⟨a1,n1,c1,a2,n2,c2,hB8, -⟩:=hm8.blk
      generalize hfd:(CLS d (PFXL d m n t' ++ (PFXL d m n t ++ []))).isSome=fd at hB8
      have FIN:Aside (∀ W,W=w8.drew→fd=true∧CLASHED w (some (s,u)) (.returned (.tuple #[.agg #[.slice a1 n1 c1,.slice a2 n2 c2],.bool fd])) ((W.setCell ⟨bz,0,none⟩ (.slice a1 n1 c1)).setCell ⟨bz,1,none⟩ (.slice a2 n2 c2))∧Has ((W.setCell ⟨bz,0,none⟩ (.slice a1 n1 c1)).setCell ⟨bz,1,none⟩ (.slice a2 n2 c2)) bz #[.slice a1 n1 c1,.slice a2 n2 c2] 31):=by
        rintro W rfl
        have hHz:Has w8.drew bz #[.slice none 0 0,.slice none 0 0] 31:=kz8
        have:=MET.told (w0:=w) (w':=(w8.drew.setCell ⟨bz,0,none⟩ (.slice a1 n1 c1)).setCell ⟨bz,1,none⟩ (.slice a2 n2 c2)) (bz:=bz) hm8 hB8 HM.out.cls B6.out.2.2.1 ((hbw8.drew.setCell (p:=⟨bz,0,none⟩) hzb _).setCell (p:=⟨bz,1,none⟩) hzb _) (fun i hi=>(Below.heap_setCell _ _ _ i hi).trans (Below.heap_setCell _ _ _ i hi)) (fun i h=>h)
        exact ⟨this.1,this.2,(hHz.set 0 _).set 1 _⟩
      have y2:w8.cell? ⟨bm,2,none⟩=some (.slice a1 n1 c1):=hB8.cell 2
      have y3:w8.cell? ⟨bm,3,none⟩=some (.slice a2 n2 c2):=hB8.cell 3
      have y4:w8.cell? ⟨bm,4,none⟩=some (.bool fd):=hB8.cell 4
      have hne:bm≠bz:=by have:=B6.out;omega
      go_upto_region 6 with fail
      refine zg2 w8 bm bz a1 a2 n1 c1 n2 c2 fd (fun W=>W=w8.drew) (fun W=>W=(w8.drew.setCell ⟨bz,0,none⟩ (.slice a1 n1 c1)).setCell ⟨bz,1,none⟩ (.slice a2 n2 c2)) rfl (fun W e=>by subst e;exact ⟨y2,y3,y4⟩) (fun W e=>by subst e;exact ⟨(World.cell?_setCell_other _ _ _ _ (fun e=>hne (congrArg Addr.block e).symm)).trans ((World.cell?_setCell_other _ _ _ _ (fun e=>hne (congrArg Addr.block e).symm)).trans y2),(World.cell?_setCell_other _ _ _ _ (fun e=>hne (congrArg Addr.block e).symm)).trans ((World.cell?_setCell_other _ _ _ _ (fun e=>hne (congrArg Addr.block e).symm)).trans y3),(World.cell?_setCell_other _ _ _ _ (fun e=>hne (congrArg Addr.block e).symm)).trans ((World.cell?_setCell_other _ _ _ _ (fun e=>hne (congrArg Addr.block e).symm)).trans y4)⟩) (fun W e=>by subst e;exact kz8) (fun W e=>by subst e;rfl) (fun _ _ _ _ _ h=>h) ?_
      intro W hW
      obtain ⟨q0,q1,q2⟩:=FIN.out w8.drew rfl
      rw [← hW] at q1 q2
      subst q0
      clear hW FIN y2 y3 y4 hB8 hm8 st8
      have z0:W.cell? ⟨bz,0,none⟩=some (.slice a1 n1 c1):=q2.cell 0
      have z1:W.cell? ⟨bz,1,none⟩=some (.slice a2 n2 c2):=q2.cell 1
      go_wp2_with fail
      refine bodyPost_ret (v:=.tuple #[.agg #[.slice a1 n1 c1,.slice a2 n2 c2],.bool true]) ?_ rfl q1
      simp [results,Tryz.f12,go_sem,z0,z1]
    · have hX0:=HC.out.1 (by rintro ⟨_,h⟩;exact hE' h)
      have hE2:(U2 != 0)=true:=bne_iff_ne.2 hE'
      have hzb:=HZ.out
      subst hX0
      clear HC hE' kr kx ky CM CMM
      have x0:w2.cell? ⟨bz,0,none⟩=some (.slice none 0 0):=kz.cell 0
      have x1:w2.cell? ⟨bz,1,none⟩=some (.slice none 0 0):=kz.cell 1
      have f0:=kz.frozen 0
      have f1:=kz.frozen 1
      go_wp2
      have hH:=(kz.set 0 (.slice none 0 0)).set 1 (.slice none 0 0)
      have hb:=(hbw.setCell (p:=⟨bz,0,none⟩) hzb (.slice none 0 0)).setCell (p:=⟨bz,1,none⟩) hzb (.slice none 0 0)
      clear x0 x1 f0 f1 kz
      generalize (w2.setCell ⟨bz,0,none⟩ (.slice none 0 0)).setCell ⟨bz,1,none⟩ (.slice none 0 0)=wf at *
      have z0:wf.cell? ⟨bz,0,none⟩=some (.slice none 0 0):=hH.cell 0
      have z1:wf.cell? ⟨bz,1,none⟩=some (.slice none 0 0):=hH.cell 1
      refine bodyPost_ret (v:=.tuple #[.agg #[.slice none 0 0,.slice none 0 0],.bool false]) ?_ rfl ⟨hb,rfl⟩
      simp [results,Tryz.f12,go_sem,z0,z1]
  · have hX0:=HC.out.1 (by rintro ⟨h,_⟩;exact hE h)
    have hE1:(U1 != 0)=true:=bne_iff_ne.2 hE
    have hzb:=HZ.out
    subst hX0
    clear HC hE q1 kr kx ky CM CMM
    have x0:w1.cell? ⟨bz,0,none⟩=some (.slice none 0 0):=kz.cell 0
    have x1:w1.cell? ⟨bz,1,none⟩=some (.slice none 0 0):=kz.cell 1
    have f0:=kz.frozen 0
    have f1:=kz.frozen 1
    go_wp2
    have hH:=(kz.set 0 (.slice none 0 0)).set 1 (.slice none 0 0)
    have hb:=(hbw.setCell (p:=⟨bz,0,none⟩) hzb (.slice none 0 0)).setCell (p:=⟨bz,1,none⟩) hzb (.slice none 0 0)
    clear x0 x1 f0 f1 kz
    generalize (w1.setCell ⟨bz,0,none⟩ (.slice none 0 0)).setCell ⟨bz,1,none⟩ (.slice none 0 0)=wf at *
    have z0:wf.cell? ⟨bz,0,none⟩=some (.slice none 0 0):=hH.cell 0
    have z1:wf.cell? ⟨bz,1,none⟩=some (.slice none 0 0):=hH.cell 1
    refine bodyPost_ret (v:=.tuple #[.agg #[.slice none 0 0,.slice none 0 0],.bool false]) ?_ rfl ⟨hb,rfl⟩
    simp [results,Tryz.f12,go_sem,z0,z1]
end Go.Proofs.YthpdlnbbbcgemaaGreatDoor

namespace Go.Proofs.YthpdlnbbbcgemaaGreatDoor
open Go.RowKit
set_option maxRecDepth 100000
end Go.Proofs.YthpdlnbbbcgemaaGreatDoor

namespace Go.Proofs.YthpdlnbbbcgemaaGreatDoor.HX
open Go.RowKit
set_option maxRecDepth 100000
def z1k (d:Int) (l k:List Nat):Bool:=!decide (l=k) && (List.range 32).all fun i=>z08 d l i == z08 d k i
theorem z8c {w w':World} (hb:Below w.heap.size w w'):∀ (j:Nat) C t,Has w j C t→Has w' j C t:=fun _ _ _ h=>h.keep hb
theorem z5X (d:Int) (l:List Nat):z1k d l l=false:=by simp [z1k]
theorem z4p (d:Int) {l k:List Nat} (h:l≠k):z1k d l k=(List.range 32).all fun i=>z08 d l i == z08 d k i:=by simp [z1k,h]
theorem z7X (d:Int) (a:Option Addr) (n c:Nat) (l:List Nat) (b:Option Addr) (m c':Nat) (k:List Nat) (w:World) (h1:Text w a n l) (hc1:n≤c) (hx1:∀ x,a=some x→x.block<w.heap.size) (hn:n<2 ^ 60) (h2:Text w b m k) (hc2:m≤c') (hx2:∀ x,b=some x→x.block<w.heap.size) (hm:m<2 ^ 60) (hT:Tabled w):Calls Tryz.prog 25 #[.int .i64 d,.agg #[.slice a n c,.slice b m c']] w fun e w'=>e=.returned (.bool (z1k d l k))∧Below w.heap.size w w':=by
  have hb0:Below w.heap.size w (w.alloc (.cells #[.slice a n c,.slice b m c'] 31)):=(Below.refl _ _).alloc (Nat.le_refl _) _
  have hbox:Has (w.alloc (.cells #[.slice a n c,.slice b m c'] 31)) w.heap.size #[.slice a n c,.slice b m c'] 31:=Has.new w _ _
  have H:Aside (Text w a n l∧n≤c∧(∀ x,a=some x→x.block<w.heap.size)∧n<2 ^ 60∧Text w b m k∧m≤c'∧(∀ x,b=some x→x.block<w.heap.size)∧m<2 ^ 60∧Tabled w):=⟨h1,hc1,hx1,hn,h2,hc2,hx2,hm,hT⟩
  clear h1 hc1 hx1 hn h2 hc2 hx2 hm hT
  have HR:Aside ((l=k→z1k d l k=false)∧(l≠k→z1k d l k=(List.range 32).all fun i=>z08 d l i == z08 d k i)):=⟨fun h=>by subst h;exact z5X d l,fun h=>z4p d h⟩
  generalize z1k d l k=hr at *
  go_enter Tryz.func25,Tryz.ntmps25
  go_upto_region 1 with fail
  generalize hw1:w.alloc (.cells #[.slice a n c,.slice b m c'] 31)=w1 at *
  have hs:∀ W,Below w1.heap.size w1 W→W.cell? ⟨w.heap.size,0,none⟩=some (.slice a n c)∧W.cell? ⟨w.heap.size,1,none⟩=some (.slice b m c'):=fun W hb=>by
    have h:=hbox.keep hb
    exact ⟨(h.cell 0).trans rfl,(h.cell 1).trans rfl⟩
  have hbw:∀ W,Below w1.heap.size w1 W→Below w.heap.size w W:=fun W hb=>hb0.trans (hb.mono hb0.size)
  by_cases e:l=k
  · have hr0:=HR.out.1 e
    subst e
    refine zgN _ _ _ _ _ _ _ _ _ _ _ _ _ _ _ _ _ _ _ _ _ w1 d w.heap.size a n c b m c' (fun W=>Below w1.heap.size w1 W) hs (Below.refl _ _).drew (fun W hW=>?_) (fun _ _ _ _ _ h=>h) ?_
    · refine (z2W a n c l b m c' l W (H.out.1.below (hbw W hW)) (H.out.2.2.2.2.1.below (hbw W hW))).mono ?_
      rintro e w' ⟨rfl,rfl⟩
      exact ⟨by rw [decide_eq_true rfl],hW⟩
    · intro W hW
      have R:=hbw W hW
      clear hW hs hbw hbox hb0 hw1
      go_wp2
      go_ret
      exact ⟨by first | rfl | (subst hr0;rfl) | (rw [hr0];rfl),R⟩
  · have hr0:=HR.out.2 e
    clear HR
    refine zhc _ _ _ _ _ _ _ _ _ _ _ _ _ _ _ _ _ _ _ _ _ w1 d w.heap.size a n c b m c' (fun W=>Below w1.heap.size w1 W) hs (Below.refl _ _).drew (z08 d l) (z08 d k) ((List.range 32).all fun i=>z08 d l i == z08 d k i) (fun W o hW=>hW.alloc hW.size _) (fun W=>z30 _ _ W) (fun W hW=>?_) (fun W g hW hg=>?_) (fun W g hW hg=>?_) (fun _ _ _ _ _ h=>h) ?_
    · refine (z2W a n c l b m c' k W (H.out.1.below (hbw W hW)) (H.out.2.2.2.2.1.below (hbw W hW))).mono ?_
      rintro e' w' ⟨rfl,rfl⟩
      exact ⟨by rw [decide_eq_false e],hW⟩
    · have hb:=hbw W hW
      refine (sum9 d W g a n c l hg (H.out.1.below hb) H.out.2.1 (fun x hx=>Nat.lt_of_lt_of_le (H.out.2.2.1 x hx) hb.size) H.out.2.2.2.1 (H.out.2.2.2.2.2.2.2.2.below hb)).mono ?_
      rintro e' w' ⟨rfl,hb'⟩
      exact ⟨rfl,hW.trans (hb'.mono hW.size),z8c hb'⟩
    · have hb:=hbw W hW
      refine (sum9 d W g b m c' k hg (H.out.2.2.2.2.1.below hb) H.out.2.2.2.2.2.1 (fun x hx=>Nat.lt_of_lt_of_le (H.out.2.2.2.2.2.2.1 x hx) hb.size) H.out.2.2.2.2.2.2.2.1 (H.out.2.2.2.2.2.2.2.2.below hb)).mono ?_
      rintro e' w' ⟨rfl,hb'⟩
      exact ⟨rfl,hW.trans (hb'.mono hW.size),z8c hb'⟩
    · intro g g2 W hW
      have R:=hbw W hW
      clear hW hs hbw hbox hb0 hw1 e
      generalize ((List.range 32).all fun i=>z08 d l i == z08 d k i)=r at *
      go_wp2
      go_ret
      exact ⟨by first | rfl | (subst hr0;rfl) | (rw [hr0];rfl),R⟩
theorem z9q (d:Int) (a:Option Addr) (n c:Nat) (l:List Nat) (b:Option Addr) (m c':Nat) (k:List Nat) (w:World) (h1:Text w a n l) (hc1:a=none→c=0) (hn:n<2 ^ 30) (h2:Text w b m k) (hc2:b=none→c'=0) (hm:m<2 ^ 30):Calls Tryz.prog 23 #[.int .i64 d,.agg #[.slice a n c,.slice b m c']] w fun e w'=>e=.returned (.bool (z1k d l k))∧Below w.heap.size w w':=by
  have hb0:Below w.heap.size w (w.alloc (.cells #[.slice a n c,.slice b m c'] 31)):=(Below.refl _ _).alloc (Nat.le_refl _) _
  have hbox:Has (w.alloc (.cells #[.slice a n c,.slice b m c'] 31)) w.heap.size #[.slice a n c,.slice b m c'] 31:=Has.new w _ _
  have H:Aside (Text w a n l∧(a=none→c=0)∧n<2 ^ 30∧Text w b m k∧(b=none→c'=0)∧m<2 ^ 30):=⟨h1,hc1,hn,h2,hc2,hm⟩
  clear h1 hc1 hn h2 hc2 hm
  have HR:Aside ((l=k→z1k d l k=false)∧(l≠k→z1k d l k=(List.range 32).all fun i=>z08 d l i == z08 d k i)):=⟨fun h=>by subst h;exact z5X d l,fun h=>z4p d h⟩
  generalize z1k d l k=hr at *
  go_enter Tryz.func23,Tryz.ntmps23
  go_upto_region 1 with fail
  generalize hw1:w.alloc (.cells #[.slice a n c,.slice b m c'] 31)=w1 at *
  have hs:∀ W,Below w1.heap.size w1 W→W.cell? ⟨w.heap.size,0,none⟩=some (.slice a n c)∧W.cell? ⟨w.heap.size,1,none⟩=some (.slice b m c'):=fun W hb=>by
    have h:=hbox.keep hb
    exact ⟨(h.cell 0).trans rfl,(h.cell 1).trans rfl⟩
  have hbw:∀ W,Below w1.heap.size w1 W→Below w.heap.size w W:=fun W hb=>hb0.trans (hb.mono hb0.size)
  by_cases e:l=k
  · have hr0:=HR.out.1 e
    subst e
    refine zgO _ _ _ _ _ _ _ _ _ _ _ _ _ _ _ _ _ _ _ _ _ w1 d w.heap.size a n c b m c' (fun W=>Below w1.heap.size w1 W) hs (Below.refl _ _).drew (fun W hW=>?_) (fun _ _ _ _ _ h=>h) ?_
    · refine (z1B a b n m c c' l l W (H.out.1.below (hbw W hW)) (H.out.2.2.2.1.below (hbw W hW)) (by have:=H.out.2.2.1;omega)).mono ?_
      rintro e w' ⟨rfl,hb', -⟩
      exact ⟨by rw [decide_eq_true rfl],hW.trans (hb'.mono hW.size)⟩
    · intro W hW
      have R:=hbw W hW
      clear hW hs hbw hbox hb0 hw1
      go_wp2
      go_ret
      exact ⟨by first | rfl | (subst hr0;rfl) | (rw [hr0];rfl),R⟩
  · have hr0:=HR.out.2 e
    clear HR
    refine zhd _ _ _ _ _ _ _ _ _ _ _ _ _ _ _ _ _ _ _ _ _ w1 d w.heap.size a n c b m c' (fun W=>Below w1.heap.size w1 W) hs (Below.refl _ _).drew (z08 d l) (z08 d k) ((List.range 32).all fun i=>z08 d l i == z08 d k i) (fun W o hW=>hW.alloc hW.size _) (fun W=>z30 _ _ W) (fun W hW=>?_) (fun W g hW hg=>?_) (fun W g hW hg=>?_) (fun _ _ _ _ _ h=>h) ?_
    · refine (z1B a b n m c c' l k W (H.out.1.below (hbw W hW)) (H.out.2.2.2.1.below (hbw W hW)) (by have:=H.out.2.2.1;omega)).mono ?_
      rintro e' w' ⟨rfl,hb', -⟩
      exact ⟨by rw [decide_eq_false e],hW.trans (hb'.mono hW.size)⟩
    · refine (zaE d W g a n c l hg (H.out.1.below (hbw W hW)) H.out.2.1 H.out.2.2.1).mono ?_
      rintro e' w' ⟨rfl,hb'⟩
      exact ⟨rfl,hW.trans (hb'.mono hW.size),z8c hb'⟩
    · refine (zaE d W g b m c' k hg (H.out.2.2.2.1.below (hbw W hW)) H.out.2.2.2.2.1 H.out.2.2.2.2.2).mono ?_
      rintro e' w' ⟨rfl,hb'⟩
      exact ⟨rfl,hW.trans (hb'.mono hW.size),z8c hb'⟩
    · intro g g2 W hW
      have R:=hbw W hW
      clear hW hs hbw hbox hb0 hw1 e
      generalize ((List.range 32).all fun i=>z08 d l i == z08 d k i)=r at *
      go_wp2
      go_ret
      exact ⟨by first | rfl | (subst hr0;rfl) | (rw [hr0];rfl),R⟩
end Go.Proofs.YthpdlnbbbcgemaaGreatDoor.HX

namespace Go.Proofs.YthpdlnbbbcgemaaGreatDoor
open Go.RowKit
set_option maxRecDepth 100000
structure FourT (w:World) (B:Nat) (K:Nat→Prop) (v:Nat→Value) (n:Nat→Nat) (xs:Nat→List Value):Prop where
  row:∀ x,x<4→w.ownsRow B 5 1 (v x) (n x) (xs x)
  apart:∀ x y,x<4→y<4→x≠y→∀ g,(v x).ownBlock=some g→(v y).ownBlock≠some g
  off:∀ x,x<4→∀ g,(v x).ownBlock=some g→¬ K g
def UPT {α:Type} (f:Nat→α) (x:Nat) (a:α):Nat→α:=fun z=>if z=x then a else f z
theorem z0S {α:Type} (f:Nat→α) (x:Nat) (a:α):UPT f x a x=a:=by simp [UPT]
theorem z0v {α:Type} (f:Nat→α) {x z:Nat} (a:α) (h:z≠x):UPT f x a z=f z:=by simp [UPT,h]
theorem zdw:(Tryz.prog.info? 5).map (fun i=>(i.zero,i.size,i.bytes))=some (some (.int .u8 0),1,1):=by kernel_rfl
theorem zc9 {w w':World} {B:Nat} {t:TypeId} {s n:Nat} {v:Value} {xs:List Value} (h:w.ownsRow B t s v n xs) (hb:Below w.heap.size w w'):w'.ownsRow B t s v n xs:=by
  refine ⟨h.1,h.2.imp id ?_⟩
  rintro ⟨g,c,cur,a1,a2,a3,a4⟩
  exact ⟨g,c,cur,a1,a2,(hb.block g (Array.getElem?_eq_some_iff.1 a3).1).trans a3,a4⟩
theorem FourT.alloc {w:World} {B:Nat} {K:Nat→Prop} {v:Nat→Value} {n:Nat→Nat} {xs:Nat→List Value} (h:FourT w B K v n xs) (o:Obj):FourT (w.alloc o) B K v n xs:=⟨fun x hx=>(h.row x hx).alloc o,h.apart,h.off⟩
theorem FourT.below {w w':World} {B:Nat} {K:Nat→Prop} {v:Nat→Value} {n:Nat→Nat} {xs:Nat→List Value} (h:FourT w B K v n xs) (hb:Below w.heap.size w w'):FourT w' B K v n xs:=⟨fun x hx=>zc9 (h.row x hx) hb,h.apart,h.off⟩
theorem z6B (W:World) (b j:Nat) (v:Value):W.grownBy (W.setCell ⟨b,j,none⟩ v) (some b):=
  ⟨rfl,rfl,rfl,(KeepsWalks.setCell W _ v).size,fun k _ hk=>Below.heap_setCell _ _ _ k (fun e=>hk (by rw [e]))⟩
theorem FourT.other {w:World} {B:Nat} {K:Nat→Prop} {v:Nat→Value} {n:Nat→Nat} {xs:Nat→List Value} (h:FourT w B K v n xs) {b:Nat} (hb:K b) (j:Nat) (u:Value):FourT (w.setCell ⟨b,j,none⟩ u) B K v n xs:=
  ⟨fun x hx=>(h.row x hx).kept (z6B w b j u) (.inr fun e=>h.off x hx b e hb),h.apart,h.off⟩
theorem FourT.store {w:World} {B:Nat} {K:Nat→Prop} {v:Nat→Value} {n:Nat→Nat} {xs:Nat→List Value} (h:FourT w B K v n xs) {x g m cap:Nat} (hx:x<4) (hv:v x=.slice (some ⟨g,0,none⟩) m cap) (j:Nat) (u:Value):
    FourT (w.setCell ⟨g,j,none⟩ u) B K v n (UPT xs x ((xs x).set j u)):=by
  refine ⟨fun z hz=>?_,h.apart,h.off⟩
  by_cases e:z=x
  · subst e
    have hr:=h.row z hz
    rw [hv] at hr ⊢
    have hm:m=n z:=by
      rcases hr.2 with ⟨e,_⟩ | ⟨_,_,_,e,_⟩
      · simp at e
      · simp at e
        omega
    subst hm
    rw [z0S]
    exact (hr.stored j u).1
  · rw [z0v xs _ e]
    refine (h.row z hz).kept (z6B w g j u) (.inr fun e2=>?_)
    exact h.apart x z hx hz (fun e3=>e e3.symm) g (by rw [hv];rfl) e2
theorem FourT.app {w w':World} {B:Nat} {K:Nat→Prop} {v:Nat→Value} {n:Nat→Nat} {xs:Nat→List Value} (h:FourT w B K v n xs) {x g cap:Nat} {u:Value} (hx:x<4) (hK:∀ k,K k→k<w.heap.size)
    (hown:w'.ownsRow B 5 1 (.slice (some ⟨g,0,none⟩) (n x+1) cap) (n x+1) (xs x ++ [u])) (hgrow:w.grownBy w' (v x).ownBlock) (hg:(v x).ownBlock=some g∨g=w.heap.size):
    FourT w' B K (UPT v x (.slice (some ⟨g,0,none⟩) (n x+1) cap)) (UPT n x (n x+1)) (UPT xs x (xs x ++ [u])):=by
  refine ⟨fun z hz=>?_,fun y z hy hz hne k hk=>?_,fun z hz k hk=>?_⟩
  · by_cases e:z=x
    · subst e
      rw [z0S,z0S,z0S]
      exact hown
    · rw [z0v v _ e,z0v n _ e,z0v xs _ e]
      refine (h.row z hz).kept hgrow ?_
      cases hb:(v z).ownBlock with
      | none=>exact .inl rfl
      | some k=>exact .inr fun e2=>h.apart z x hz hx e k hb e2.symm
  · by_cases ey:y=x
    · subst ey
      rw [z0S] at hk
      have hkg:g=k:=by simpa [Value.ownBlock] using hk
      subst hkg
      rw [z0v v _ (fun e=>hne e.symm)]
      intro e2
      rcases hg with hg | hg
      · exact h.apart y z hx hz hne g hg e2
      · have:=((h.row z hz).lt g e2).2
        omega
    · rw [z0v v _ ey] at hk
      by_cases ez:z=x
      · subst ez
        rw [z0S]
        intro e2
        have hkg:g=k:=by simpa [Value.ownBlock] using e2
        subst hkg
        rcases hg with hg | hg
        · exact h.apart y z hy hz hne g hk hg
        · have:=((h.row y hy).lt g hk).2
          omega
      · rw [z0v v _ ez]
        exact h.apart y z hy hz hne k hk
  · by_cases ez:z=x
    · subst ez
      rw [z0S] at hk
      have hkg:g=k:=by simpa [Value.ownBlock] using hk
      subst hkg
      rcases hg with hg | hg
      · exact h.off z hz g hg
      · intro hkk
        have:=hK g hkk
        omega
    · rw [z0v v _ ez] at hk
      exact h.off z hz k hk
theorem z4q {w:World} {B n:Nat} {v:Value} {xs:List Value} (h:w.ownsRow B 5 1 v n xs):∃ a cap,v=.slice a n cap∧(0<n→∃ g,a=some ⟨g,0,none⟩∧g<w.heap.size∧B≤g):=by
  rcases h.2 with ⟨rfl,h0⟩ | ⟨g,cap,cur,rfl,hb,hg,r⟩
  · subst h0
    exact ⟨none,0,rfl,fun h=>by omega⟩
  · exact ⟨_,cap,rfl,fun _=>⟨g,rfl,(Array.getElem?_eq_some_iff.1 hg).1,hb⟩⟩
theorem z7Y {ops:Array Oper} {rest:List Oper} {o:Oper} {a:Act} {Q:Exit→Act→World→Prop} (w:World) (hgd:o.guard=none) (s x:Operand)
    (ho:o.op=.call {callee:=.builtin .append,args:=#[s,x],argTypes:=#[25,25]})
    (base:Nat) (v:Value) (n:Nat) (xs:List Value) (hs:a.eval s=v) (hown:w.ownsRow base 5 1 v n xs)
    (b c:Nat) (y:Int) (hx:a.eval x=.slice (some ⟨b,0,none⟩) 1 c) (hc:w.cell? ⟨b,0,none⟩=some (.int .u8 y))
    (hb:n≤100000) (hbase:base≤w.heap.size)
    (h:∀ g cap w',w'.ownsRow base 5 1 (.slice (some ⟨g,0,none⟩) (n+1) cap) (n+1) (xs ++ [.int .u8 y])→w.grownBy w' v.ownBlock→(v.ownBlock=some g∨g=w.heap.size)→g<w'.heap.size→wpList Tryz.prog ops Q rest (a.put o.dst (.slice (some ⟨g,0,none⟩) (n+1) cap)) w'):wpList Tryz.prog ops Q (o :: rest) a w:=by
  obtain ⟨i,hi,hz,hs1,hby⟩:=info_parts zdw
  refine wpList_append_lies w hgd s x 25 ho base 5 i (.int .u8 0) 1 1 Tryz.underlying25 hi hz hs1 hby rfl (by decide) v n xs hs hown ⟨b,0,none⟩ 1 c [.int .u8 y] hx rfl ?_ (fun u hu=>by simp at hu;subst hu;rfl) (by decide) (by simp only [maxLen];omega) (by omega) hbase w.heap.size rfl h
  intro j u hj
  cases j with
  | zero=>
    simp only [List.getElem?_cons_zero,Option.some.injEq] at hj
    subst hj
    exact hc
  | succ j=>simp at hj
theorem Has.grown9 {w w':World} {g:Nat} {c:Array Value} {t:TypeId} {row:Option Nat} (h:Has w g c t) (hg:w.grownBy w' row) (hne:row≠some g):Has w' g c t:=by
  obtain ⟨_,_,_,_,hk⟩:=hg
  exact (hk g h.lt (fun e=>hne e.symm)).trans h
abbrev CX9 (x:Nat):Value:=.int .u8 (((201+x:Nat)):Int)
def STA (w2:World) (B9 lb gb:Nat) (c0 cg:Array Value) (V:Nat→Value) (N:Nat→Nat) (x y:Nat) (wx:World):Prop:=
  ∃ xs:Nat→List Value,FourT wx B9 (fun g=>g=lb∨g=gb) V N xs∧(Has wx lb c0 25∧Has wx gb cg 64)∧Below B9 w2 wx∧(B9≤w2.heap.size∧B9≤lb∧B9≤gb)∧(∀ z,z<x→∀ j,j<N z→(xs z)[j]?=some (CX9 z))∧(∀ j,j<y→(xs x)[j]?=some (CX9 x))
theorem STA.next {w2:World} {B9 lb gb:Nat} {c0 cg:Array Value} {V:Nat→Value} {N:Nat→Nat} {x:Nat} {wx:World} (h:STA w2 B9 lb gb c0 cg V N x (N x) wx):STA w2 B9 lb gb c0 cg V N (x+1) 0 wx:=by
  obtain ⟨xs,h1,h2,h3,h4,h5,h6⟩:=h
  refine ⟨xs,h1,h2,h3,h4,fun z hz j hj=>?_,fun j hj=>by omega⟩
  rcases Nat.lt_or_ge z x with h | h
  · exact h5 z h j hj
  · obtain rfl:z=x:=by omega
    exact h6 j hj
theorem STA.store {w2:World} {B9 lb gb:Nat} {c0 cg:Array Value} {V:Nat→Value} {N:Nat→Nat} {x y g m cap:Nat} {wx:World} (h:STA w2 B9 lb gb c0 cg V N x y wx) (hx:x<4) (hy:y<N x) (hv:V x=.slice (some ⟨g,0,none⟩) m cap):STA w2 B9 lb gb c0 cg V N x (y+1) (wx.setCell ⟨g,y,none⟩ (CX9 x)):=by
  obtain ⟨xs,h1,h2,h3,h4,h5,h6⟩:=h
  have hg:=(h1.row x hx).lt g (by rw [hv];rfl)
  refine ⟨_,h1.store hx hv y (CX9 x),⟨h2.1.other (fun e=>h1.off x hx g (by rw [hv];rfl) (.inl e.symm)) _,h2.2.other (fun e=>h1.off x hx g (by rw [hv];rfl) (.inr e.symm)) _⟩,h3.setCell hg.1 _,h4,fun z hz j hj=>?_,fun j hj=>?_⟩
  · rw [z0v xs _ (by omega)]
    exact h5 z hz j hj
  · rw [z0S,List.getElem?_set]
    have hl:(xs x).length=N x:=by have:=(h1.row x hx).1;omega
    split
    · rw [if_pos (by omega)]
    · exact h6 j (by omega)
structure STB (w2:World) (B9 lb gb:Nat) (c0:Array Value) (x:Nat) (wx:World) (V:Nat→Value) (N:Nat→Nat) (xs:Nat→List Value) (cg:Array Value):Prop where
  four:FourT wx B9 (fun g=>g=lb∨g=gb) V N xs
  hl:Has wx lb c0 25
  hg:Has wx gb cg 64
  size:cg.size=4
  bel:Below B9 w2 wx
  hB:B9≤w2.heap.size
  ol:B9≤lb
  og:B9≤gb
  old:∀ z,x≤z→z<4→c0[z]?=some (V z)
  new:∀ z,z<x→cg[z]?=some (V z)
  cell:∀ z,z<4→∀ j,j<N z→(xs z)[j]?=some (CX9 z)
  len:∀ z,z<4→N z≤202
  few:∀ z,x≤z→z<4→N z≤200
theorem STB.step {w2:World} {B9 lb gb:Nat} {c0:Array Value} {x:Nat} {wx:World} {V:Nat→Value} {N:Nat→Nat} {xs:Nat→List Value} {cg:Array Value} (h:STB w2 B9 lb gb c0 x wx V N xs cg) (hx:x<4) (o1 o2:Obj) {g1 q1 g2 q2:Nat} {w5 w6:World}
    (own1:w5.ownsRow B9 5 1 (.slice (some ⟨g1,0,none⟩) (N x+1) q1) (N x+1) (xs x ++ [CX9 x])) (grow1:(wx.alloc o1).grownBy w5 (V x).ownBlock) (at1:(V x).ownBlock=some g1∨g1=(wx.alloc o1).heap.size)
    (own2:w6.ownsRow B9 5 1 (.slice (some ⟨g2,0,none⟩) (N x+1+1) q2) (N x+1+1) (xs x ++ [CX9 x] ++ [CX9 x])) (grow2:(w5.alloc o2).grownBy w6 (some g1)) (at2:some g1=some g2∨g2=(w5.alloc o2).heap.size):
    Has w6 gb cg 64∧∃ V' N' xs',STB w2 B9 lb gb c0 (x+1) (w6.setCell ⟨gb,x,none⟩ (.slice (some ⟨g2,0,none⟩) (N x+1+1) q2)) V' N' xs' (cg.setIfInBounds x (.slice (some ⟨g2,0,none⟩) (N x+1+1) q2)):=by
  have hK:∀ k,(k=lb∨k=gb)→k<(wx.alloc o1).heap.size:=fun k hk=>by
    rcases hk with rfl | rfl
    · exact (h.hl.alloc o1).lt
    · exact (h.hg.alloc o1).lt
  have F1:=(h.four.alloc o1).app hx hK own1 grow1 at1
  have hr1:∀ k,(k=lb∨k=gb)→(V x).ownBlock≠some k:=fun k hk e=>h.four.off x hx k e hk
  have l5:=(h.hl.alloc o1).grown9 grow1 (hr1 lb (.inl rfl))
  have g5:=(h.hg.alloc o1).grown9 grow1 (hr1 gb (.inr rfl))
  have hr2:∀ k,(k=lb∨k=gb)→(some g1:Option Nat)≠some k:=fun k hk e=>F1.off x hx k (by rw [z0S];exact e) hk
  have hK2:∀ k,(k=lb∨k=gb)→k<(w5.alloc o2).heap.size:=fun k hk=>by
    rcases hk with rfl | rfl
    · exact (l5.alloc o2).lt
    · exact (g5.alloc o2).lt
  have l6:=(l5.alloc o2).grown9 grow2 (hr2 lb (.inl rfl))
  have g6:=(g5.alloc o2).grown9 grow2 (hr2 gb (.inr rfl))
  have F2:=(F1.alloc o2).app (x:=x) (g:=g2) (cap:=q2) (u:=CX9 x) (w':=w6) hx hK2 (by rw [z0S,z0S];exact own2) (by rw [z0S];exact grow2) (by rw [z0S];exact at2)
  have F3:=F2.other (b:=gb) (.inr rfl) x (.slice (some ⟨g2,0,none⟩) (N x+1+1) q2)
  have b5:Below B9 w2 w5:=(h.bel.alloc (Nat.le_trans h.hB h.bel.size) _).grown grow1 (by have:=h.bel.size;have:=h.hB;simp;omega) (fun k e=>((h.four.row x hx).lt k e).1)
  have b6:Below B9 w2 w6:=(b5.alloc (Nat.le_trans h.hB b5.size) _).grown grow2 (by have:=b5.size;have:=h.hB;simp;omega) (fun k e=>(own1.lt k e).1)
  have hlen:(xs x).length=N x:=by have:=(h.four.row x hx).1;omega
  refine ⟨g6,_,_,_,⟨F3,l6.other (a:=⟨gb,x,none⟩) (fun e=>?_) _,g6.set x _,by simpa using h.size,b6.setCell (p:=⟨gb,x,none⟩) h.og _,h.hB,h.ol,h.og,fun z hz hz4=>?_,fun z hz=>?_,fun z hz j hj=>?_,fun z hz=>?_,fun z hz hz4=>?_⟩⟩
  · have e':lb=gb:=e
    have h1:wx.heap[lb]?=some (.cells c0 25):=h.hl
    have h2:wx.heap[gb]?=some (.cells cg 64):=h.hg
    rw [e',h2] at h1
    simp at h1
  · rw [z0v _ _ (by omega),z0v _ _ (by omega)]
    exact h.old z (by omega) hz4
  · rw [Array.getElem?_setIfInBounds]
    by_cases e:z=x
    · subst e
      rw [if_pos rfl,if_pos (by rw [h.size];exact hx),z0S,z0S]
    · rw [if_neg (fun e2=>e e2.symm),z0v _ _ e,z0v _ _ e]
      exact h.new z (by omega)
  · by_cases e:z=x
    · subst e
      rw [z0S,z0S] at hj
      rw [z0S,z0S]
      rcases Nat.lt_or_ge j (N z) with h1 | h1
      · rw [List.append_assoc,List.getElem?_append_left (by omega)]
        exact h.cell z hz j h1
      · rw [List.append_assoc,List.getElem?_append_right (by omega),hlen]
        rcases (show j - N z=0∨j - N z=1 by omega) with h2 | h2 <;> rw [h2] <;> rfl
    · rw [z0v _ _ e,z0v _ _ e] at hj
      rw [z0v _ _ e,z0v _ _ e]
      exact h.cell z hz j hj
  · by_cases e:z=x
    · subst e
      rw [z0S,z0S]
      have:=h.few z (Nat.le_refl _) hz
      omega
    · rw [z0v _ _ e,z0v _ _ e]
      exact h.len z hz
  · rw [z0v _ _ (by omega),z0v _ _ (by omega)]
    exact h.few z (by omega) hz4
theorem STB.start {w2:World} {B9 lb gb:Nat} {c0 cg:Array Value} {V:Nat→Value} {N:Nat→Nat} {wx:World} (h:STA w2 B9 lb gb c0 cg V N 4 0 wx) (hV:∀ x,x<4→c0[x]?=some (V x)) (hN:∀ x,x<4→N x≤200) (hcg:cg.size=4):∃ xs,STB w2 B9 lb gb c0 0 wx V N xs cg:=by
  obtain ⟨xs,h1,h2,h3,h4,h5,h6⟩:=h
  refine ⟨xs,h1,h2.1,h2.2,hcg,h3,h4.1,h4.2.1,h4.2.2,fun z _ hz=>hV z hz,fun z hz=>by omega,fun z hz j hj=>h5 z hz j hj,fun z hz=>?_,fun z _ hz=>hN z hz⟩
  have:=hN z hz
  omega
end Go.Proofs.YthpdlnbbbcgemaaGreatDoor
