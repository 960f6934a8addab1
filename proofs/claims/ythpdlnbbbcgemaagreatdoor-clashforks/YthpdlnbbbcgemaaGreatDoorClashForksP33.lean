/- Texts of ClashForks, one behind the other: VerifyRefOver. -/
import Derived.BigQuiet
import Derived.Test.YthpdlnbbbcgemaaGreatDoorClashForksP32
namespace Go.Proofs.YthpdlnbbbcgemaaGreatDoor
open Go.RowKit
set_option maxRecDepth 100000
theorem z4X {ss:List (Nat × Nat)} {p m:Nat} (hm:0<m):((ss.drop p).take m)[0]?=ss[p]?:=by
  rw [List.getElem?_take,if_pos hm,List.getElem?_drop,Nat.add_zero]
theorem z3B {ss:List (Nat × Nat)} {p m h k:Nat} (ht:Tile (k*2 ^ h) ((ss.drop p).take m) ((k+1)*2 ^ h)):∃ x y,ss[p]?=some (x,y)∧((ss.drop p).take m)[0]?=some (x,y)∧∀ z,h≤z→z=0→x=h∧y=k:=by
  have hs:=z0K k h
  have hp:=Nat.two_pow_pos h
  cases hl:(ss.drop p).take m with
  | nil=>
    rw [hl] at ht
    have:k*2 ^ h=(k+1)*2 ^ h:=ht
    omega
  | cons s l=>
    have hm:0<m:=by
      rcases Nat.eq_zero_or_pos m with e | e
      · subst e;simp at hl
      · exact e
    have e0:((ss.drop p).take m)[0]?=some s:=by rw [hl];rfl
    refine ⟨s.1,s.2,by rw [← z4X hm];exact e0,rfl,fun z h1 h2=>?_⟩
    rw [hl] at ht
    obtain ⟨q1,q2,q3⟩:=ht
    have hb:=q3.bound.1
    obtain rfl:h=0:=by omega
    have h3:=z0K s.2 s.1
    have h4:=Nat.two_pow_pos s.1
    have hx:s.1=0:=by
      rcases Nat.eq_zero_or_pos s.1 with e | e
      · exact e
      · have:2 ^ 1≤2 ^ s.1:=Nat.pow_le_pow_right (by decide) e
        omega
    rw [hx] at q2
    exact ⟨hx,by omega⟩
theorem z7f {ss:List (Nat × Nat)} {p m h k:Nat} (e:ss[p]?=some (h,k)) (ht:Tile (k*2 ^ h) ((ss.drop p).take m) ((k+1)*2 ^ h)) (hpm:p+m≤ss.length):m=1:=by
  have hs:=z0K k h
  have hp:=Nat.two_pow_pos h
  cases hl:(ss.drop p).take m with
  | nil=>
    rw [hl] at ht
    have:k*2 ^ h=(k+1)*2 ^ h:=ht
    omega
  | cons s l=>
    have hm:0<m:=by
      rcases Nat.eq_zero_or_pos m with e | e
      · subst e;simp at hl
      · exact e
    have e0:((ss.drop p).take m)[0]?=some s:=by rw [hl];rfl
    rw [z4X hm,e] at e0
    obtain rfl:(h,k)=s:=by simpa using e0
    rw [hl] at ht
    obtain ⟨q1,q2,q3⟩:=ht
    dsimp only at q3
    cases l with
    | nil=>
      have:=congrArg List.length hl
      rw [List.length_take,List.length_drop] at this
      simp at this
      omega
    | cons s2 l=>
      have:=(q3.bound.2 (by simp)).1
      omega
theorem zc0 {l:List (Nat × Nat)} {a b x y:Nat} (ht:Tile a l b) (e:l[0]?=some (x,y)):y*2 ^ x=a:=by
  cases l with
  | nil=>simp at e
  | cons s l=>
    obtain rfl:s=(x,y):=by simpa using e
    exact ht.2.1
theorem zf2 {ss:List (Nat × Nat)} (hso:ss.Pairwise Off) {i j h k x y:Nat} (h1:ss[i]?=some (h,k)) (h2:ss[j]?=some (x,y)) (e:y*2 ^ x=k*2 ^ h):x=h∧y=k:=by
  have a1:=z0K k h
  have a2:=Nat.two_pow_pos h
  have a3:=z0K y x
  have a4:=Nat.two_pow_pos x
  rcases Nat.lt_trichotomy i j with c | c | c
  · have:=Pairwise.at_lt hso c h1 h2
    unfold Off at this
    dsimp only at this
    omega
  · subst c
    rw [h1] at h2
    simp only [Option.some.injEq,Prod.mk.injEq] at h2
    exact ⟨h2.1.symm,h2.2.symm⟩
  · have:=Pairwise.at_lt hso c h2 h1
    unfold Off at this
    dsimp only at this
    omega
set_option maxHeartbeats 4000000 in
theorem zf3 (d:Int) (ss:List (Nat × Nat)) (ra:Option Addr) (rc:Nat) (a:Option Addr) (n c:Nat) (hsn:ss.length=n) (hn:n≤1000) (l:List Int) (h k p:Nat) (w:World) (hL:Lie w ra ss) (hF:Flat w a n l) (hp:ss[p]?=some (h,k)):
    Calls Tryz.prog 39 #[.int .i64 d,SPOT h k,.slice ra n rc,.slice a n c,.int .i64 (p:Int)] w fun e w'=>e=.returned (.tuple #[.agg (z01 (HSH l p)).toArray,.int .i64 ((p+1:Nat):Int)])∧Below w.heap.size w w':=by
  have hpn:p<n:=by rw [← hsn];exact (List.getElem?_eq_some_iff.1 hp).1
  have hlt:(p:Int)<(n:Int):=by omega
  obtain ⟨g,o,rfl,hgl,hg⟩:=hL (by omega)
  obtain ⟨gn,on,rfl,hgn,_⟩:=hF.2.1 (by omega)
  have e1:wrap64 ((p:Int)+1)=((p+1:Nat):Int):=by unfold wrap64;omega
  have y32:=z0U hF.1 hpn
  obtain ⟨W0,hW0⟩:∃ W0,(w.alloc (.cells #[.int .u8 (h:Int),.int .u64 (k:Int)] 79)).alloc (.cells ZARR 24)=W0:=⟨_,rfl⟩
  obtain ⟨b6,hb6⟩:∃ b,w.heap.size=b:=⟨_,rfl⟩
  obtain ⟨b10,hb10⟩:∃ b,b6+1=b:=⟨_,rfl⟩
  have R0:Aside (Below w.heap.size w W0∧Has W0 b6 #[.int .u8 (h:Int),.int .u64 (k:Int)] 79∧Has W0 b10 (z01 ZND).toArray 24∧w.heap.size≤b10):=by
    rw [← hW0,← hb10,← hb6]
    exact ⟨((Below.refl _ _).alloc (Nat.le_refl _) _).alloc (by simp) _,(Has.new _ _ _).alloc _,by rw [z1L];exact Has.at _ _ _ (by simp),by omega⟩
  have x0:=R0.out.2.1.cell 0
  have x1:=R0.out.2.1.cell 1
  have x2:W0.cell? ⟨g,o+p*2,none⟩=some (.int .u8 (h:Int)):=(R0.out.1.cell (by exact hgl)).trans (hg p h k hp).1
  have x3:W0.cell? ⟨g,o+p*2+1,none⟩=some (.int .u64 (k:Int)):=(R0.out.1.cell (by exact hgl)).trans (hg p h k hp).2
  have hat:=(hF.below R0.out.1).at hpn
  clear hsn hn hF hp hpn hL hg hgl hgn
  generalize HSH l p=Y at *
  go_enter Tryz.func39,Tryz.ntmps39
  go_upto_region 1 with fail
  clear hW0 hb6 hb10
  go_big_quiet (fail)
  have hat2:(W0.drewN nq).rangeAt gn (on+p*32) (z01 Y):=hat
  have R1:Aside (Below w.heap.size w (W0.drewN nq)∧w.heap.size≤b10):=⟨below_drewN R0.out.1 nq,R0.out.2.2.2⟩
  have h10:Has (W0.drewN nq) b10 (z01 ZND).toArray 24:=R0.out.2.2.1
  generalize W0.drewN nq=W1 at *
  clear x0 x1 x2 x3 hat R0
  go_wp2_with (first
    | (refine wpList_load_mid rfl 24 (.tmp 22) rfl gn (on+p*32) rfl (z01 Y) _ hat2 Tryz.underlying24 rfl (z0f y32) ?_)
    | (refine wpList_store_row rfl 24 (.tmp 10) (.tmp 23) rfl _ _ rfl rfl 24 _ h10 (z02 y32) (by simp [z01,y32];rfl) (z0m Y) ?_))
  refine bodyPost_ret (v:=.tuple #[.agg (z01 Y).toArray,.int .i64 ((p+1:Nat):Int)]) (z1y rfl _ _ b10 24 _ (0,0) _ _ _ rfl (by first | rfl | (simp;done)) (Has.row h10 _) Tryz.underlying24 (z02 y32)) rfl ⟨rfl,z0d R1.out.1 R1.out.2 _⟩
set_option maxHeartbeats 4000000 in
theorem zds (d:Int) (ss:List (Nat × Nat)) (ra:Option Addr) (rc:Nat) (a:Option Addr) (n c:Nat) (hsn:ss.length=n) (h k p x y p1 p2:Nat) (hh:h<62) (hk:2*k+1<2 ^ 64) (A B:List Int) (hA:IsH A) (hB:IsH B) (w:World) (hL:Lie w ra ss) (hp:ss[p]?=some (x,y)) (hq:¬ (x=h+1∧y=k))
    (c1:∀ W,Below w.heap.size w W→Calls Tryz.prog 39 #[.int .i64 d,SPOT h (2*k),.slice ra n rc,.slice a n c,.int .i64 (p:Int)] W fun e w'=>e=.returned (.tuple #[.agg (z01 A).toArray,.int .i64 (p1:Int)])∧Below W.heap.size W w')
    (c2:∀ W,Below w.heap.size w W→Calls Tryz.prog 39 #[.int .i64 d,SPOT h (2*k+1),.slice ra n rc,.slice a n c,.int .i64 (p1:Int)] W fun e w'=>e=.returned (.tuple #[.agg (z01 B).toArray,.int .i64 (p2:Int)])∧Below W.heap.size W w'):
    Calls Tryz.prog 39 #[.int .i64 d,SPOT (h+1) k,.slice ra n rc,.slice a n c,.int .i64 (p:Int)] w fun e w'=>e=.returned (.tuple #[.agg (z01 (z0D d A B)).toArray,.int .i64 (p2:Int)])∧Below w.heap.size w w':=by
  have hpn:p<n:=by rw [← hsn];exact (List.getElem?_eq_some_iff.1 hp).1
  have hlt:(p:Int)<(n:Int):=by omega
  obtain ⟨g,o,rfl,hgl,hg⟩:=hL (by omega)
  have e1:IntKind.u8.wrap (((h+1:Nat):Int) - 1)=(h:Int):=by simp [IntKind.wrap,IntKind.bits,IntKind.signed];omega
  have e2:IntKind.u64.wrap (2*(k:Int))=((2*k:Nat):Int):=by rw [IntKind.wrap_u64];omega
  have e3:IntKind.u64.wrap (((2*k:Nat):Int)+1)=((2*k+1:Nat):Int):=by rw [IntKind.wrap_u64];omega
  have hY:IsH (z0D d A B):=z4g _ _ _
  have CN:Aside (∀ W,Calls Tryz.prog 33 #[.int .i64 d,.agg (z01 A).toArray,.agg (z01 B).toArray] W fun e w'=>e=.returned (.agg (z01 (z0D d A B)).toArray)∧Below W.heap.size W w'):=fun W=>za3 d A B hA hB W
  have y32:=hY.1
  have a32:=hA.1
  have b32:=hB.1
  generalize z0D d A B=Y at *
  obtain ⟨H,hH⟩:∃ H,h+1=H:=⟨_,rfl⟩
  rw [hH] at e1 ⊢
  obtain ⟨W0,hW0⟩:∃ W0,(w.alloc (.cells #[.int .u8 (H:Int),.int .u64 (k:Int)] 79)).alloc (.cells ZARR 24)=W0:=⟨_,rfl⟩
  obtain ⟨b6,hb6⟩:∃ b,w.heap.size=b:=⟨_,rfl⟩
  obtain ⟨b10,hb10⟩:∃ b,b6+1=b:=⟨_,rfl⟩
  have R0:Aside (Below w.heap.size w W0∧Has W0 b6 #[.int .u8 (H:Int),.int .u64 (k:Int)] 79∧Has W0 b10 (z01 ZND).toArray 24∧w.heap.size≤b10):=by
    rw [← hW0,← hb10,← hb6]
    exact ⟨((Below.refl _ _).alloc (Nat.le_refl _) _).alloc (by simp) _,(Has.new _ _ _).alloc _,by rw [z1L];exact Has.at _ _ _ (by simp),by omega⟩
  have x0:=R0.out.2.1.cell 0
  have x1:=R0.out.2.1.cell 1
  have x2:W0.cell? ⟨g,o+p*2,none⟩=some (.int .u8 (x:Int)):=(R0.out.1.cell (by exact hgl)).trans (hg p x y hp).1
  have x3:W0.cell? ⟨g,o+p*2+1,none⟩=some (.int .u64 (y:Int)):=(R0.out.1.cell (by exact hgl)).trans (hg p x y hp).2
  have C1:Aside (∀ W,Below w.heap.size w W→Calls Tryz.prog 39 #[.int .i64 d,.agg #[.int .u8 (h:Int),.int .u64 ((2*k:Nat):Int)],.slice (some ⟨g,o,none⟩) n rc,.slice a n c,.int .i64 (p:Int)] W fun e w'=>e=.returned (.tuple #[.agg (z01 A).toArray,.int .i64 (p1:Int)])∧Below W.heap.size W w'):=c1
  have C2:Aside (∀ W,Below w.heap.size w W→Calls Tryz.prog 39 #[.int .i64 d,.agg #[.int .u8 (h:Int),.int .u64 ((2*k+1:Nat):Int)],.slice (some ⟨g,o,none⟩) n rc,.slice a n c,.int .i64 (p1:Int)] W fun e w'=>e=.returned (.tuple #[.agg (z01 B).toArray,.int .i64 (p2:Int)])∧Below W.heap.size W w'):=c2
  have HEQ:∀ W,(Op.equalIn 10000 79 (.agg #[.int .u8 (x:Int),.int .u64 (y:Int)]) (.agg #[.int .u8 (H:Int),.int .u64 (k:Int)])).run Tryz.prog W=.ok false W:=fun W=>by
    by_cases hx:x=H
    · have f1:((x:Int) == (H:Int))=true:=by rw [hx];exact beq_self_eq_true _
      have f2:((y:Int) == (k:Int))=false:=beq_eq_false_iff_ne.2 (by omega)
      go_simp
    · have f1:((x:Int) == (H:Int))=false:=beq_eq_false_iff_ne.2 (by omega)
      go_simp
  clear hsn hp hpn hL hg hgl hh hk hA hB hY c1 c2 hq
  generalize 2*k+1=K2 at *
  generalize 2*k=K1 at *
  go_enter Tryz.func39,Tryz.ntmps39
  go_upto_region 1 with fail
  clear hW0 hb6 hb10
  go_big_quiet (fail)
  have R1:Aside (Below w.heap.size w (W0.drewN nq)∧Has (W0.drewN nq) b6 #[.int .u8 (H:Int),.int .u64 (k:Int)] 79∧Has (W0.drewN nq) b10 (z01 ZND).toArray 24∧w.heap.size≤b10):=⟨below_drewN R0.out.1 nq,R0.out.2.1,R0.out.2.2.1,R0.out.2.2.2⟩
  generalize W0.drewN nq=W1 at *
  clear x0 x1 x2 x3 R0 HEQ hH hlt
  have M:Aside (w.heap.size≤b10):=R1.out.2.2.2
  have x0:=R1.out.2.1.cell 0
  have x1:=R1.out.2.1.cell 1
  have cc:=C1.out W1 R1.out.1
  go_wp2_with fail
  refine cc.mono ?_
  rintro e w2 ⟨rfl,hb2⟩
  have R2:Aside (Below w.heap.size w w2∧Has w2 b6 #[.int .u8 (H:Int),.int .u64 (k:Int)] 79∧Has w2 b10 (z01 ZND).toArray 24):=⟨R1.out.1.trans (hb2.mono R1.out.1.size),R1.out.2.1.keep hb2,R1.out.2.2.1.keep hb2⟩
  clear cc hb2 x0 x1 R1 C1
  go_upto_region 4 with (refine wpList_store_row rfl 24 (.tmp 12) (.tmp 39) rfl _ _ rfl rfl 24 _ (Has.new w2 _ _) (z02 a32) (by simp [z01,a32]) (z0m A) ?_;rw [World.setRow_alloc_new])
  have R3:Aside (Below w.heap.size w (w2.alloc (.cells (z01 A).toArray 24))∧Has (w2.alloc (.cells (z01 A).toArray 24)) b6 #[.int .u8 (H:Int),.int .u64 (k:Int)] 79∧Has (w2.alloc (.cells (z01 A).toArray 24)) b10 (z01 ZND).toArray 24∧Has (w2.alloc (.cells (z01 A).toArray 24)) w2.heap.size (z01 A).toArray 24):=⟨R2.out.1.alloc R2.out.1.size _,R2.out.2.1.alloc _,R2.out.2.2.alloc _,Has.new _ _ _⟩
  generalize w2.alloc (.cells (z01 A).toArray 24)=w3 at *
  generalize w2.heap.size=b12 at *
  clear R2
  have x0:=R3.out.2.1.cell 0
  have x1:=R3.out.2.1.cell 1
  have cc:=C2.out w3 R3.out.1
  go_wp2_with fail
  refine cc.mono ?_
  rintro e w4 ⟨rfl,hb4⟩
  have R4:Aside (Below w.heap.size w w4∧Has w4 b10 (z01 ZND).toArray 24∧Has w4 b12 (z01 A).toArray 24):=⟨R3.out.1.trans (hb4.mono R3.out.1.size),R3.out.2.2.1.keep hb4,R3.out.2.2.2.keep hb4⟩
  clear cc hb4 x0 x1 R3 C2
  go_upto_region 5 with (refine wpList_store_row rfl 24 (.tmp 13) (.tmp 55) rfl _ _ rfl rfl 24 _ (Has.new w4 _ _) (z02 b32) (by simp [z01,b32]) (z0m B) ?_;rw [World.setRow_alloc_new])
  have R5:Aside (Below w.heap.size w (w4.alloc (.cells (z01 B).toArray 24))∧Has (w4.alloc (.cells (z01 B).toArray 24)) b10 (z01 ZND).toArray 24∧Has (w4.alloc (.cells (z01 B).toArray 24)) b12 (z01 A).toArray 24∧Has (w4.alloc (.cells (z01 B).toArray 24)) w4.heap.size (z01 B).toArray 24):=⟨R4.out.1.alloc R4.out.1.size _,R4.out.2.1.alloc _,R4.out.2.2.alloc _,Has.new _ _ _⟩
  generalize w4.alloc (.cells (z01 B).toArray 24)=w5 at *
  generalize w4.heap.size=b13 at *
  clear R4
  have h12:=R5.out.2.2.1
  have h13:=R5.out.2.2.2
  have cc:=CN.out w5
  go_wp2_with (first
    | (refine wpList_load_row rfl 24 (.tmp 12) rfl b12 rfl 24 (z01 A).toArray (0,0) _ h12 Tryz.underlying24 rfl (z02 a32) ?_)
    | (refine wpList_load_row rfl 24 (.tmp 13) rfl b13 rfl 24 (z01 B).toArray (0,0) _ h13 Tryz.underlying24 rfl (z02 b32) ?_))
  refine cc.mono ?_
  rintro e w6 ⟨rfl,hb6⟩
  have R6:Aside (Below w.heap.size w w6):=R5.out.1.trans (hb6.mono R5.out.1.size)
  have h10:=R5.out.2.1.keep hb6
  clear cc hb6 h12 h13 R5 CN
  go_wp2_with (refine wpList_store_row rfl 24 (.tmp 10) (.tmp 60) rfl _ _ rfl rfl 24 _ h10 (z02 y32) (by simp [z01,y32];rfl) (z0m Y) ?_)
  refine bodyPost_ret (v:=.tuple #[.agg (z01 Y).toArray,.int .i64 (p2:Int)]) (z1y rfl _ _ b10 24 _ (0,0) _ _ _ rfl rfl (Has.row h10 _) Tryz.underlying24 (z02 y32)) rfl ⟨rfl,z0d R6.out M.out _⟩
theorem zc1 (d:Int) (ss:List (Nat × Nat)) (hso:ss.Pairwise Off) (ra:Option Addr) (rc:Nat) (a:Option Addr) (n c:Nat) (hsn:ss.length=n) (hn:n≤1000) (l:List Int) (hl:l.length=32*n) (hr:∀ x∈l,0≤x∧x≤255):∀ (h k p m:Nat) (w:World),Node h k→Lie w ra ss→Flat w a n l→p+m≤n→Tile (k*2 ^ h) ((ss.drop p).take m) ((k+1)*2 ^ h)→
    Calls Tryz.prog 39 #[.int .i64 d,SPOT h k,.slice ra n rc,.slice a n c,.int .i64 (p:Int)] w fun e w'=>e=.returned (.tuple #[.agg (z01 (VH d ss l h k)).toArray,.int .i64 ((p+m:Nat):Int)])∧Below w.heap.size w w':=by
  have hit:∀ (h k p m:Nat) (w:World),Lie w ra ss→Flat w a n l→p+m≤n→Tile (k*2 ^ h) ((ss.drop p).take m) ((k+1)*2 ^ h)→ss[p]?=some (h,k)→Calls Tryz.prog 39 #[.int .i64 d,SPOT h k,.slice ra n rc,.slice a n c,.int .i64 (p:Int)] w fun e w'=>e=.returned (.tuple #[.agg (z01 (VH d ss l h k)).toArray,.int .i64 ((p+m:Nat):Int)])∧Below w.heap.size w w':=by
    intro h k p m w hL hF hpm ht e
    have hm:m=1:=by
      exact z7f e ht (by omega)
    subst hm
    rw [z59 (List.mem_of_getElem? e),z38 hso e _ (by have:=(List.getElem?_eq_some_iff.1 e).1;omega) (Nat.le_refl _)]
    exact zf3 d ss ra rc a n c hsn hn l h k p w hL hF e
  intro h
  induction h with
  | zero=>
    intro k p m w hN hL hF hpm ht
    refine hit 0 k p m w hL hF hpm ht ?_
    obtain ⟨x,y,e,_,hx⟩:=z3B ht
    have:=hx 0 (Nat.le_refl _) rfl
    rw [e,this.1,this.2]
  | succ h ih=>
    intro k p m w hN hL hF hpm ht
    obtain ⟨x,y,e,e0,_⟩:=z3B ht
    by_cases hq:x=h+1∧y=k
    · exact hit (h+1) k p m w hL hF hpm ht (by rw [e,hq.1,hq.2])
    · obtain ⟨i,hi,t1,t2⟩:=zda ht (by rw [e0];intro hc;exact hq (by simpa using hc))
      have him:i≤m:=by rw [List.length_take,List.length_drop] at hi;omega
      rw [List.take_take,Nat.min_eq_left him] at t1
      rw [List.drop_take,List.drop_drop] at t2
      have hk2:2*k+1<2 ^ (62 - h):=by
        have h1:=hN.2
        have h2:=hN.1
        have h3:2 ^ (62 - h)=2*2 ^ (62 - (h+1)):=by rw [← z25];congr 1;omega
        omega
      have hN1:Node h (2*k):=⟨by have:=hN.1;omega,by omega⟩
      have hN2:Node h (2*k+1):=⟨by have:=hN.1;omega,hk2⟩
      have hmem:(h+1,k) ∉ ss:=by
        intro hm
        obtain ⟨j,hj⟩:=List.mem_iff_getElem?.1 hm
        have hov:=zc0 ht e0
        exact hq (zf2 hso hj e hov)
      rw [z4R hmem]
      have hsm:p+m=p+i+(m - i):=by omega
      rw [hsm]
      exact zds d ss ra rc a n c hsn h k p x y (p+i) (p+i+(m - i)) (by have:=hN.1;omega) (by have:2 ^ (62 - h)≤2 ^ 62:=Nat.pow_le_pow_right (by decide) (by omega);omega) _ _ (z2J hl hr (by omega) _ _) (z2J hl hr (by omega) _ _) w hL e hq
        (fun W hb=>ih (2*k) p i W hN1 (hL.below hb) (hF.below hb) (by omega) t1) (fun W hb=>ih (2*k+1) (p+i) (m - i) W hN2 (hL.below hb) (hF.below hb) (by omega) t2)
end Go.Proofs.YthpdlnbbbcgemaaGreatDoor
