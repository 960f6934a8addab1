/- Texts of VerifyGrowth, one behind the other: ProofRoundPlain, ProofOwned, VerifyMember, VerifyReachRegion. -/
import Derived.Test.YthjeeblddipiiaaGreatDoorVerifyGrowthP8
import Derived.Test.YthjeeblddipiiaaGreatDoorVerifyGrowthP15
import Derived.Test.YthjeeblddipiiaaGreatDoorVerifyGrowthP17
import Derived.Test.YthjeeblddipiiaaGreatDoorVerifyGrowthP18
import Derived.Test.YthjeeblddipiiaaGreatDoorVerifyGrowthP19
namespace Go.Proofs.YthjeeblddipiiaaGreatDoor
open Go.RowKit
theorem z5P (X:Nat) (t:List Int):(z0h X ++ t).drop (NTOP X+1)=t:=by
  rw [List.drop_append_of_le_length (by rw [z0H];omega),List.drop_of_length_le (by rw [z0H];omega),List.nil_append]
theorem zeA {K:Int} {chk:Nat→Bool} {PF:Nat→Nat→Int × List Nat} {X Y:Nat} (hX:X<2 ^ 64) (hY:Y<2 ^ 64) (hc:chk X=false) (t:List Int):DC0 K chk PF (K :: (z0h X ++ (z0h Y ++ t)))=DC3 PF X Y t:=by
  have e1:=z7b hX (z0h Y ++ t)
  have e2:=z7b hY t
  unfold DC0
  rw [if_neg (by simp),if_neg (by simp),List.drop_succ_cons,List.drop_zero]
  unfold DC1
  rw [e1]
  dsimp only
  rw [if_neg (by simp),Int.toNat_natCast,Int.toNat_natCast,hc,if_neg (by simp),z5P]
  unfold DC2
  rw [e2]
  dsimp only
  rw [if_neg (by simp),Int.toNat_natCast,Int.toNat_natCast,z5P]
theorem za4 {K:Int} {chk:Nat→Bool} {PF:Nat→Nat→Int × List Nat} {l:List Int} (hr:∀ x∈l,0≤x∧x≤255) {X Y N:Nat} {t:List Int} (h:DC0 K chk PF l=(0,X,Y,N,t)):
    X<2 ^ 64∧Y<2 ^ 64∧chk X=false∧(PF X Y).1=0∧N=(PF X Y).2.length∧t.length=32*N∧l=K :: (z0h X ++ (z0h Y ++ t))∧(∀ x∈t,0≤x∧x≤255):=by
  have bad:∀ {E:Int},DERR E=(0,X,Y,N,t)→E=0:=fun h=>congrArg Prod.fst h
  unfold DC0 at h
  split at h
  · exact absurd (bad h) (by decide)
  rename_i h0
  split at h
  · exact absurd (bad h) (by decide)
  rename_i hK
  have hr1:∀ x∈l.drop 1,0≤x∧x≤255:=fun x hx=>hr x (List.mem_of_mem_drop hx)
  have hl:l=K :: l.drop 1:=by
    cases l with
    | nil=>simp at h0
    | cons a l=>
      have:a=K:=by simpa using hK
      simp [this]
  unfold DC1 at h
  split at h
  · rename_i he
    exact absurd (bad h) he
  rename_i he
  obtain ⟨Z,m,hZ,_,hm,e1,s1⟩:=z46 hr1 (by simpa using he)
  rw [e1] at h
  dsimp only at h
  rw [Int.toNat_natCast,Int.toNat_natCast] at h
  split at h
  · exact absurd (bad h) (by decide)
  rename_i hchk
  have hr2:∀ x∈(l.drop 1).drop m,0≤x∧x≤255:=fun x hx=>hr1 x (List.mem_of_mem_drop hx)
  unfold DC2 at h
  split at h
  · rename_i he2
    exact absurd (bad h) he2
  rename_i he2
  obtain ⟨Z2,m2,hZ2,_,hm2,e2,s2⟩:=z46 hr2 (by simpa using he2)
  rw [e2] at h
  dsimp only at h
  rw [Int.toNat_natCast,Int.toNat_natCast] at h
  unfold DC3 at h
  split at h
  · rename_i he3
    exact absurd (bad h) he3
  rename_i he3
  split at h
  · exact absurd (bad h) (by decide)
  rename_i hlt
  split at h
  · exact absurd (bad h) (by decide)
  rename_i hgt
  simp only [Prod.mk.injEq,true_and] at h
  obtain ⟨rfl,rfl,rfl,rfl⟩:=h
  refine ⟨hZ,hZ2,by simpa using hchk,by simpa using he3,rfl,by omega,?_,fun x hx=>hr2 x (List.mem_of_mem_drop hx)⟩
  rw [s1,s2,List.take_append_drop,List.take_append_drop]
  exact hl
end Go.Proofs.YthjeeblddipiiaaGreatDoor

namespace Go.Proofs.YthjeeblddipiiaaGreatDoor
open Go.RowKit
set_option maxRecDepth 100000
theorem zfH (PF:Nat→Nat→Int × List Nat) (X Y:Nat) (t:List Int):DC3 PF X Y t=DERR (DC3 PF X Y t).1∨(DC3 PF X Y t).1=0:=by
  unfold DC3
  split
  · exact .inl rfl
  · split
    · exact .inl rfl
    · split
      · exact .inl rfl
      · exact .inr rfl
theorem zfI (PF:Nat→Nat→Int × List Nat) (X:Nat) (t:List Int):DC2 PF X t=DERR (DC2 PF X t).1∨(DC2 PF X t).1=0:=by
  unfold DC2
  split
  · exact .inl rfl
  · exact zfH _ _ _ _
theorem zfJ (chk:Nat→Bool) (PF:Nat→Nat→Int × List Nat) (t:List Int):DC1 chk PF t=DERR (DC1 chk PF t).1∨(DC1 chk PF t).1=0:=by
  unfold DC1
  split
  · exact .inl rfl
  · split
    · exact .inl rfl
    · exact zfI _ _ _
theorem zfK {K:Int} {chk:Nat→Bool} {PF:Nat→Nat→Int × List Nat} {l:List Int} (h:(DC0 K chk PF l).1≠0):DC0 K chk PF l=DERR (DC0 K chk PF l).1:=by
  have:DC0 K chk PF l=DERR (DC0 K chk PF l).1∨(DC0 K chk PF l).1=0:=by
    unfold DC0
    split
    · exact .inl rfl
    · split
      · exact .inl rfl
      · exact zfJ _ _ _
  rcases this with h1 | h1
  · exact h1
  · exact absurd h1 h
theorem zbk {w:World} {B g N:Nat} {l:List Int} (h:Has w g (z00 l).toArray 32) (hl:l.length=32*N) (hB:B≤g) (hN:N≤1000):w.ownsRow B 32 32 (.slice (some ⟨g,0,none⟩) N N) N (z00 l):=by
  refine ⟨by rw [z00,List.length_map,hl,Nat.mul_comm],.inr ⟨g,N,_,rfl,hB,h,Nat.le_refl _,by simp [maxLen];omega,?_,?_⟩⟩
  · simp [z00,hl,Nat.mul_comm]
  · rw [List.take_of_length_le (by simp [z00,hl];omega)]
def DECO (w:World) (D:DANS) (e:Ending) (w':World):Prop:=
  ∃ a c,e=.returned (.tuple #[.agg #[.int .u64 (D.2.1:Int),.int .u64 (D.2.2.1:Int),.slice a D.2.2.2.1 c],.int .i64 D.1])∧w'.ownsRow w.heap.size 32 32 (.slice a D.2.2.2.1 c) D.2.2.2.1 (z00 D.2.2.2.2)∧(∀ x∈D.2.2.2.2,0≤x∧x≤255)∧Below w.heap.size w w'
theorem DECD.own {w w':World} {K:Int} {chk:Nat→Bool} {PF:Nat→Nat→Int × List Nat} {l:List Int} {e:Ending} (h:DECD w (DC0 K chk PF l) e w') (hf:(DC0 K chk PF l).1=0→(DC0 K chk PF l).2.2.2.1≤1000):DECO w (DC0 K chk PF l) e w':=by
  obtain ⟨v,rfl,hb,h⟩:=h
  rcases h with ⟨hE,rfl⟩ | ⟨hE,h1,h2,h3,h4,g,rfl,hg,hh⟩
  · have hD:=zfK hE
    rw [hD]
    refine ⟨none,0,rfl,World.ownsRow_nil _ _ _ _,by simp [DERR],hb⟩
  · exact ⟨_,_,rfl,zbk hh h3 hg (hf hE),h4,hb⟩
theorem zfL {l:List Int} (hr:∀ x∈l,0≤x∧x≤255) (h:(DEC l).1=0):(DEC l).2.2.2.1≤188:=by
  obtain ⟨E,S,I,N,t,hD⟩:∃ E S I N t,DEC l=(E,S,I,N,t):=⟨_,_,_,_,_,rfl⟩
  rw [hD] at h ⊢
  obtain rfl:E=0:=h
  obtain ⟨_,_,_,_,h5,_⟩:=za4 hr hD
  have:=z9V I S
  show N≤188
  omega
theorem zfM {l:List Int} (hr:∀ x∈l,0≤x∧x≤255) (h:(DEX l).1=0):(DEX l).2.2.2.1≤188:=by
  obtain ⟨E,S,I,N,t,hD⟩:∃ E S I N t,DEX l=(E,S,I,N,t):=⟨_,_,_,_,_,rfl⟩
  rw [hD] at h ⊢
  obtain rfl:E=0:=h
  obtain ⟨_,_,_,_,h5,_⟩:=za4 hr hD
  have:=z6l S I
  show N≤188
  omega
theorem zbl (a:Option Addr) (n c:Nat) (hn:n≤1000000) (l:List Int) (w:World) (hB:Bytes w a n l) (hc:n≤c) (hT:Tabled w) (h0:0<w.heap.size):Calls Tryz.prog 28 #[.slice a n c] w (DECO w (DEC l)):=
  (zcT a n c hn l w hB hc hT h0).mono fun _ _ h=>DECD.own h fun hE=>Nat.le_trans (zfL hB.2.2 hE) (by decide)
theorem z5m (a:Option Addr) (n c:Nat) (hn:n≤1000000) (l:List Int) (w:World) (hB:Bytes w a n l) (hc:n≤c) (hT:Tabled w) (h0:0<w.heap.size):Calls Tryz.prog 40 #[.slice a n c] w (DECO w (DEX l)):=
  (z5O a n c hn l w hB hc hT h0).mono fun _ _ h=>DECD.own h fun hE=>Nat.le_trans (zfM hB.2.2 hE) (by decide)
structure FAM (M:Nat) (t:TypeId) (s:Nat) (w:World) (B:Nat) (K:Nat→Prop) (v:Nat→Value) (n:Nat→Nat) (xs:Nat→List Value):Prop where
  row:∀ x,x<M→w.ownsRow B t s (v x) (n x) (xs x)
  apart:∀ x y,x<M→y<M→x≠y→∀ g,(v x).ownBlock=some g→(v y).ownBlock≠some g
  off:∀ x,x<M→∀ g,(v x).ownBlock=some g→¬ K g
theorem FAM.below {M:Nat} {t:TypeId} {s:Nat} {w w':World} {B:Nat} {K:Nat→Prop} {v:Nat→Value} {n:Nat→Nat} {xs:Nat→List Value} (h:FAM M t s w B K v n xs) (hb:Below w.heap.size w w'):FAM M t s w' B K v n xs:=⟨fun x hx=>z0c (h.row x hx) hb,h.apart,h.off⟩
theorem FAM.heap {M:Nat} {t:TypeId} {s:Nat} {w w':World} {B:Nat} {K:Nat→Prop} {v:Nat→Value} {n:Nat→Nat} {xs:Nat→List Value} (h:FAM M t s w B K v n xs) (hk:∀ k,k<w.heap.size→¬ K k→w'.heap[k]?=w.heap[k]?):FAM M t s w' B K v n xs:=⟨fun x hx=>z82 (h.row x hx) fun k e=>hk k ((h.row x hx).lt k e).2 (h.off x hx k e),h.apart,h.off⟩
theorem FAM.turn {M:Nat} {t:TypeId} {s:Nat} {w w':World} {B:Nat} {K:Nat→Prop} {v:Nat→Value} {n:Nat→Nat} {xs:Nat→List Value} (h:FAM M t s w B K v n xs) {x g m c:Nat} {ys:List Value} (hx:x<M) (hK:∀ k,K k→k<w.heap.size)
    (hown:w'.ownsRow B t s (.slice (some ⟨g,0,none⟩) m c) m ys) (hg:w.grownBy w' (v x).ownBlock) (hat:(v x).ownBlock=some g∨w.heap.size≤g):FAM M t s w' B K (UPD v x (.slice (some ⟨g,0,none⟩) m c)) (UPD n x m) (UPD xs x ys)∧∀ k,K k→w'.heap[k]?=w.heap[k]?:=by
  have hgx:∀ y,y<M→y≠x→(v y).ownBlock≠some g:=fun y hy hne e=>by
    rcases hat with h1 | h1
    · exact h.apart x y hx hy (fun e=>hne e.symm) g h1 e
    · have:=((h.row y hy).lt g e).2
      omega
  refine ⟨⟨fun y hy=>?_,fun y z hy hz hne k e=>?_,fun y hy k e hk=>?_⟩,fun k hk=>hg.block k (hK k hk) fun e=>h.off x hx k e.symm hk⟩
  · by_cases e:y=x
    · subst e
      rw [z33,z33,z33]
      exact hown
    · rw [z1A _ _ e,z1A _ _ e,z1A _ _ e]
      exact z82 (h.row y hy) fun k hk=>hg.block k ((h.row y hy).lt k hk).2 fun e2=>h.apart x y hx hy (fun e3=>e e3.symm) k e2.symm hk
  · by_cases e1:y=x
    · subst e1
      rw [z33] at e
      have e:g=k:=by simpa [Value.ownBlock] using e
      subst e
      rw [z1A _ _ (fun e2=>hne e2.symm)]
      exact hgx z hz fun e2=>hne e2.symm
    · rw [z1A _ _ e1] at e
      by_cases e2:z=x
      · subst e2
        rw [z33]
        intro e3
        have e3:g=k:=by simpa [Value.ownBlock] using e3
        subst e3
        exact hgx y hy e1 e
      · rw [z1A _ _ e2]
        exact h.apart y z hy hz hne k e
  · by_cases e1:y=x
    · subst e1
      rw [z33] at e
      have e:g=k:=by simpa [Value.ownBlock] using e
      subst e
      rcases hat with h1 | h1
      · exact h.off y hy g h1 hk
      · have:=hK g hk
        omega
    · rw [z1A _ _ e1] at e
      exact h.off y hy k e hk
end Go.Proofs.YthjeeblddipiiaaGreatDoor

namespace Go.Proofs.YthjeeblddipiiaaGreatDoor
open Go.RowKit
set_option maxRecDepth 100000
theorem zcU {d:Int} {leaf:List Int} {S I n:Nat} {l:List Int} (hleaf:IsH leaf) (hl:l.length=32*n) (hr:∀ x∈l,0≤x∧x≤255):∀ x∈(CLA d leaf S I n l).2.2,0≤x∧x≤255:=by
  unfold CLA
  split
  · simp
  · split
    · simp
    · rename_i h1 h2
      have hlen:(PSP I S).length=n:=by
        have h3:n=(PLA I S).2.length:=Decidable.not_not.1 h2
        have h4:(PLA I S).1=0:=Decidable.not_not.1 h1
        rw [h3]
        unfold PLA at h4 ⊢
        split at h4
        · simp at h4
        · rename_i h5
          split at h4
          · simp at h4
          · rename_i h6
            rw [if_neg h5,if_neg h6]
            exact (z0o _).symm
      intro x hx
      obtain ⟨s,_,hs⟩:=List.mem_flatMap.1 hx
      refine (z7z (d:=d) (I:=I) (z3G (z3H hl hr (PSP I S).length (by omega)) hleaf 0 I) (RISE I S) s.1 s.2).2 x hs
def MEMA (d:Int) (root:List Int) (n i:Nat) (leaf bl:List Int):Int:=
  if (DEC bl).1≠0 then (DEC bl).1 else if (DEC bl).2.1≠n then 30 else if (DEC bl).2.2.1≠i then 32 else
    UNDA d n (CLA d leaf (DEC bl).2.1 (DEC bl).2.2.1 (DEC bl).2.2.2.1 (DEC bl).2.2.2.2).2.1 (CLA d leaf (DEC bl).2.1 (DEC bl).2.2.1 (DEC bl).2.2.2.1 (DEC bl).2.2.2.2).2.2 root
set_option maxHeartbeats 4000000 in
theorem z7d (d:Int) (root:List Int) (hroot:IsH root) (n i:Nat) (hn:n<2 ^ 64) (leaf:List Int) (hleaf:IsH leaf) (ba:Option Addr) (bn bc:Nat) (hbn:bn≤1000000) (hbc:bn≤bc) (bl:List Int) (w:World) (hB:Bytes w ba bn bl) (hT:Tabled w) (hX:HX.Tabled w) (h0:2<w.heap.size):
    Calls Tryz.prog 10 #[.int .i64 d,.agg (z00 root).toArray,.int .u64 (n:Int),.int .u64 (i:Int),.agg (z00 leaf).toArray,.slice ba bn bc] w fun e w'=>e=.returned (.int .i64 (MEMA d root n i leaf bl))∧Below w.heap.size w w':=by
  have l32:=hleaf.1
  have r32:=hroot.1
  obtain ⟨b7,hb7⟩:∃ b7,b7=w.heap.size:=⟨_,rfl⟩
  have R0:Aside (Below w.heap.size w ((w.alloc (.cells (z00 root).toArray 32)).alloc (.cells (z00 leaf).toArray 32))∧Has ((w.alloc (.cells (z00 root).toArray 32)).alloc (.cells (z00 leaf).toArray 32)) b7 (z00 root).toArray 32∧Has ((w.alloc (.cells (z00 root).toArray 32)).alloc (.cells (z00 leaf).toArray 32)) (b7+1) (z00 leaf).toArray 32):=by
    rw [hb7]
    exact ⟨((Below.refl _ _).alloc (Nat.le_refl _) _).alloc (by simp) _,(Has.new _ _ _).alloc _,Has.at _ _ _ (by simp)⟩
  have HT:Aside (∀ W,Below w.heap.size w W→Tabled W∧HX.Tabled W∧0<W.heap.size∧Bytes W ba bn bl∧2<W.heap.size):=fun W h=>by
    have hs:=h.size
    exact ⟨hT.below (by omega) h,hX.below h,by omega,hB.below h,by omega⟩
  have HA:Aside (IsH root∧IsH leaf∧n<2 ^ 64∧bn≤1000000∧bn≤bc):=⟨hroot,hleaf,hn,hbn,hbc⟩
  clear hroot hleaf hn hbn hbc hB hT hX h0
  obtain ⟨E,S,I,N,t,hD⟩:∃ E S I N t,DEC bl=(E,S,I,N,t):=⟨_,_,_,_,_,rfl⟩
  have hU:MEMA d root n i leaf bl=if E≠0 then E else if S≠n then 30 else if I≠i then 32 else UNDA d n (CLA d leaf S I N t).2.1 (CLA d leaf S I N t).2.2 root:=by unfold MEMA;rw [hD]
  generalize MEMA d root n i leaf bl=U at *
  have HV:Aside ((¬ E=0→U=E)∧(E=0→¬ S=n→U=30)∧(E=0→S=n→¬ I=i→U=32)∧(E=0→S=n→I=i→U=UNDA d n (CLA d leaf S I N t).2.1 (CLA d leaf S I N t).2.2 root)):=
    ⟨fun h=>hU.trans (if_pos h),fun h1 h2=>by rw [hU,if_neg (by simpa using h1),if_pos h2],fun h1 h2 h3=>by rw [hU,if_neg (by simpa using h1),if_neg (by simpa using h2),if_pos h3],fun h1 h2 h3=>by rw [hU,if_neg (by simpa using h1),if_neg (by simpa using h2),if_neg (by simpa using h3)]⟩
  clear hU
  have HD:Aside (DEC bl=(E,S,I,N,t)):=hD
  clear hD
  go_enter Tryz.func10,Tryz.ntmps10
  go_upto_region 1 with fail
  rw [← hb7]
  have HB:Aside (b7=w.heap.size):=hb7
  clear hb7
  generalize (w.alloc (.cells (z00 root).toArray 32)).alloc (.cells (z00 leaf).toArray 32)=W0 at *
  go_wp2_with fail
  have cD:=zbl ba bn bc HA.out.2.2.2.1 bl W0 (HT.out _ R0.out.1).2.2.2.1 HA.out.2.2.2.2 (HT.out _ R0.out.1).1 (HT.out _ R0.out.1).2.2.1
  rw [HD.out] at cD
  refine cD.mono ?_
  clear cD HD
  rintro e w1 ⟨a1,c1,rfl,hrow,hr,hb⟩
  dsimp only at *
  obtain ⟨b8,hb8⟩:∃ b,b=w1.heap.size:=⟨_,rfl⟩
  have hbb:Below w1.heap.size w1 (w1.alloc (.cells #[.int .u64 (S:Int),.int .u64 (I:Int),.slice a1 N c1] 27)):=(Below.refl _ _).alloc (Nat.le_refl _) _
  have R1:Aside (Below w.heap.size w (w1.alloc (.cells #[.int .u64 (S:Int),.int .u64 (I:Int),.slice a1 N c1] 27))∧Has (w1.alloc (.cells #[.int .u64 (S:Int),.int .u64 (I:Int),.slice a1 N c1] 27)) b7 (z00 root).toArray 32∧Has (w1.alloc (.cells #[.int .u64 (S:Int),.int .u64 (I:Int),.slice a1 N c1] 27)) (b7+1) (z00 leaf).toArray 32∧Has (w1.alloc (.cells #[.int .u64 (S:Int),.int .u64 (I:Int),.slice a1 N c1] 27)) b8 #[.int .u64 (S:Int),.int .u64 (I:Int),.slice a1 N c1] 27∧Flat (w1.alloc (.cells #[.int .u64 (S:Int),.int .u64 (I:Int),.slice a1 N c1] 27)) a1 N t):=
    ⟨(R0.out.1.trans (hb.mono R0.out.1.size)).trans (hbb.mono (R0.out.1.trans (hb.mono R0.out.1.size)).size),(R0.out.2.1.keep hb).keep hbb,(R0.out.2.2.keep hb).keep hbb,Has.at _ _ _ hb8,(z19 hrow hr).below hbb⟩
  clear hrow hr hb hbb R0
  go_upto_region 2 with fail
  rw [← hb8]
  clear hb8
  generalize w1.alloc (.cells #[.int .u64 (S:Int),.int .u64 (I:Int),.slice a1 N c1] 27)=W1 at *
  clear w1 W0
  have y0:W1.cell? ⟨b8,0,none⟩=some (.int .u64 (S:Int)):=R1.out.2.2.2.1.cell 0
  have y1:W1.cell? ⟨b8,1,none⟩=some (.int .u64 (I:Int)):=R1.out.2.2.2.1.cell 1
  have y2:W1.cell? ⟨b8,2,none⟩=some (.slice a1 N c1):=R1.out.2.2.2.1.cell 2
  have hb:=R1.out.1
  by_cases hE:E=0
  · by_cases hS:S=n
    · by_cases hI:I=i
      · have HW:Aside (U=UNDA d n (CLA d leaf S I N t).2.1 (CLA d leaf S I N t).2.2 root):=HV.out.2.2.2 hE hS hI
        subst hE hS hI
        clear HV
        have h10:=R1.out.2.2.1
        go_wp2_with (first
          | (refine wpList_load_row rfl 32 (.tmp 10) rfl (b7+1) rfl 32 (z00 leaf).toArray (0,0) _ h10 Tryz.underlying32 rfl (z08 l32) ?_)
          | fail)
        refine (z8l d leaf HA.out.2.1 S I a1 N c1 t W1 R1.out.2.2.2.2 (HT.out _ hb).1 (HT.out _ hb).2.1 (HT.out _ hb).2.2.2.2).mono ?_
        have hrg:=zcU (d:=d) (S:=S) (I:=I) HA.out.2.1 R1.out.2.2.2.2.1 R1.out.2.2.2.2.2.2
        generalize CLA d leaf S I N t=C at *
        obtain ⟨CE,CN,CL⟩:=C
        rintro e w2 ⟨a2,c2,rfl,hrow,hb2⟩
        dsimp only at *
        have R2:Aside (Below w.heap.size w w2∧Has w2 b7 (z00 root).toArray 32∧Flat w2 a2 CN CL):=⟨hb.trans (hb2.mono hb.size),R1.out.2.1.keep hb2,z19 hrow hrg⟩
        clear hrow hrg hb2 hb R1 y0 y1 y2 h10
        have h7:=R2.out.2.1
        go_wp2_with (first
          | (refine wpList_load_row rfl 32 (.tmp 7) rfl b7 rfl 32 (z00 root).toArray (0,0) _ h7 Tryz.underlying32 rfl (z08 r32) ?_)
          | fail)
        refine (z4s d S HA.out.2.2.1 a2 CN c2 CL root HA.out.1 w2 R2.out.2.2 (HT.out _ R2.out.1).2.1).mono ?_
        rintro e w3 ⟨rfl,hb3⟩
        have R3:Aside (Below w.heap.size w w3):=R2.out.1.trans (hb3.mono R2.out.1.size)
        clear hb3 R2 h7 HT HA
        go_wp2_with fail
        go_ret
        exact ⟨by rw [HW.out];rfl,R3.out⟩
      · have HW:Aside (U=32):=HV.out.2.2.1 hE hS hI
        have hI':¬ (I:Int)=(i:Int):=by omega
        subst hE hS
        clear HV HT HA R1
        go_wp2_with fail
        go_ret
        exact ⟨by rw [HW.out];rfl,hb⟩
    · have HW:Aside (U=30):=HV.out.2.1 hE hS
      have hS':¬ (S:Int)=(n:Int):=by omega
      subst hE
      clear HV HT HA R1
      go_wp2_with fail
      go_ret
      exact ⟨by rw [HW.out];rfl,hb⟩
  · have HW:Aside (U=E):=HV.out.1 hE
    clear HV HT HA R1 y0 y1 y2
    go_wp2_with fail
    go_ret
    exact ⟨by rw [HW.out];rfl,hb⟩
end Go.Proofs.YthjeeblddipiiaaGreatDoor

namespace Go.Proofs.YthjeeblddipiiaaGreatDoor
open Go.RowKit
set_option maxRecDepth 100000
def z1w:Array Oper:=#[⟨some 51,.move (.tmp 9),77,"verify.go:62",#[],none⟩,⟨some 52,.fieldAddr 47 (.tmp 3) 0,0,"verify.go:62",#[],none⟩,⟨some 53,.load 23 (.tmp 52),23,"verify.go:62",#[⟨1,.data⟩],none⟩,⟨some 54,.call {callee:=.value (.func 33),args:=#[.tmp 51,.tmp 53],argTypes:=#[77,23]},22,"verify.go:62",#[⟨0,.data⟩,⟨2,.data⟩],none⟩,⟨some 55,.move (.tmp 9),77,"verify.go:62",#[],none⟩,⟨some 56,.fieldAddr 47 (.tmp 3) 1,0,"verify.go:62",#[],none⟩,⟨some 57,.load 23 (.tmp 56),23,"verify.go:62",#[⟨5,.data⟩],none⟩,⟨some 58,.call {callee:=.value (.func 33),args:=#[.tmp 55,.tmp 57],argTypes:=#[77,23]},22,"verify.go:62",#[⟨4,.data⟩,⟨6,.data⟩,⟨3,.chain⟩],none⟩,⟨some 4,.assign (.tmp 54),22,"verify.go:62",#[⟨3,.data⟩,⟨7,.chain⟩,⟨0,.phase⟩,⟨1,.phase⟩,⟨2,.phase⟩,⟨3,.phase⟩,{on:=4,ground:=.textOnly Departure.lateStores},{on:=5,ground:=.textOnly Departure.lateStores},{on:=6,ground:=.textOnly Departure.lateStores},{on:=7,ground:=.textOnly Departure.lateStoresUnsure}],none⟩,⟨some 5,.assign (.tmp 58),22,"verify.go:62",#[⟨7,.data⟩,⟨8,.chain⟩,⟨0,.phase⟩,⟨1,.phase⟩,⟨2,.phase⟩,⟨3,.phase⟩,⟨4,.phase⟩,⟨5,.phase⟩,⟨6,.phase⟩,⟨7,.phase⟩,⟨8,.phase⟩],none⟩,⟨some 6,.assign (.const (.int .i64 0)),28,"verify.go:62",#[⟨9,.chain⟩,⟨0,.phase⟩,⟨1,.phase⟩,⟨2,.phase⟩,⟨3,.phase⟩,⟨4,.phase⟩,⟨5,.phase⟩,⟨6,.phase⟩,⟨7,.phase⟩,⟨8,.phase⟩,⟨9,.phase⟩],none⟩]
set_option maxHeartbeats 2000000 in
theorem z8s {Q:Exit→Act→World→Prop} (u0 u1 u2 u4 u5 u6 u7 u8 u10 u11 u12 u13 u14 u15 u16 u17 u18 u19 u20 u21 u22 u23 u24 u25 u26 u27 u28 u29 u30 u31 u32 u33 u34 u35 u36 u37 u38 u39 u40 u41 u42 u43 u44 u45 u46 u47 u48 u49 u50 u51 u52 u53 u54 u55 u56 u57 u58:Value) (W:World) (mb b3 F S:Nat) (P0:World→Prop) (P1:Value→World→Prop) (P2:Value→Value→World→Prop) (t0:∀ w,P0 w→(fun W:World=>W.cell? ⟨b3,0,none⟩=some (.int .u64 (F:Int))∧W.cell? ⟨b3,1,none⟩=some (.int .u64 (S:Int))) w) (t1:∀ X w,P1 X w→(fun W:World=>W.cell? ⟨b3,0,none⟩=some (.int .u64 (F:Int))∧W.cell? ⟨b3,1,none⟩=some (.int .u64 (S:Int))) w) (t2:∀ X Y w,P2 X Y w→(fun W:World=>W.cell? ⟨b3,0,none⟩=some (.int .u64 (F:Int))∧W.cell? ⟨b3,1,none⟩=some (.int .u64 (S:Int))) w) (c1:∀ w,P0 w→Calls Tryz.prog 33 #[.map (some mb),.int .u64 (F:Int)] w fun e w'=>∃ X,e=.returned X∧P1 X w') (c2:∀ X w,P1 X w→Calls Tryz.prog 33 #[.map (some mb),.int .u64 (S:Int)] w fun e w'=>∃ Y,e=.returned Y∧P2 X Y w') (h0:P0 W.drew) (hQ:∀ c (a:Act) (t:Tmp) (v:Value) w,Q (.panic c) (a.put (some t) v) w→Q (.panic c) a w)
    (hfin:∀ (X Y:Value) (w:World),P2 X Y w→Q .normal {tmps:=#[u0,u1,u2,.pointer (some ⟨b3,0,none⟩),X,Y,.int .i64 0,u7,u8,.map (some mb),u10,u11,u12,u13,u14,u15,u16,u17,u18,u19,u20,u21,u22,u23,u24,u25,u26,u27,u28,u29,u30,u31,u32,u33,u34,u35,u36,u37,u38,u39,u40,u41,u42,u43,u44,u45,u46,u47,u48,u49,u50,.map (some mb),.pointer (some ⟨b3,0,none⟩),.int .u64 (F:Int),X,.map (some mb),.pointer (some ⟨b3,1,none⟩),.int .u64 (S:Int),Y],defers:=[]} w):(Code.region 12 z1w true).wp Tryz.prog Q {tmps:=#[u0,u1,u2,.pointer (some ⟨b3,0,none⟩),u4,u5,u6,u7,u8,.map (some mb),u10,u11,u12,u13,u14,u15,u16,u17,u18,u19,u20,u21,u22,u23,u24,u25,u26,u27,u28,u29,u30,u31,u32,u33,u34,u35,u36,u37,u38,u39,u40,u41,u42,u43,u44,u45,u46,u47,u48,u49,u50,u51,u52,u53,u54,u55,u56,u57,u58],defers:=[]} W:=by
  have k2:∀ (X Y:Value) (w:World),P2 X Y w→wpAnyH Tryz.prog .any z1w Q (fun W:World=>W.cell? ⟨b3,0,none⟩=some (.int .u64 (F:Int))∧W.cell? ⟨b3,1,none⟩=some (.int .u64 (S:Int))) 3 #[true,true,true,true,true,true,true,true,false,false,false] {tmps:=#[u0,u1,u2,.pointer (some ⟨b3,0,none⟩),u4,u5,u6,u7,u8,.map (some mb),u10,u11,u12,u13,u14,u15,u16,u17,u18,u19,u20,u21,u22,u23,u24,u25,u26,u27,u28,u29,u30,u31,u32,u33,u34,u35,u36,u37,u38,u39,u40,u41,u42,u43,u44,u45,u46,u47,u48,u49,u50,.map (some mb),.pointer (some ⟨b3,0,none⟩),.int .u64 (F:Int),X,.map (some mb),.pointer (some ⟨b3,1,none⟩),.int .u64 (S:Int),Y],defers:=[]} w:=fun X Y w hp=>by
    have hww:(fun W:World=>W.cell? ⟨b3,0,none⟩=some (.int .u64 (F:Int))∧W.cell? ⟨b3,1,none⟩=some (.int .u64 (S:Int))) w:=t2 _ _ _ hp
    have last:wpAnyH Tryz.prog .any z1w Q (fun W:World=>W.cell? ⟨b3,0,none⟩=some (.int .u64 (F:Int))∧W.cell? ⟨b3,1,none⟩=some (.int .u64 (S:Int))) 0 #[true,true,true,true,true,true,true,true,true,true,true] {tmps:=#[u0,u1,u2,.pointer (some ⟨b3,0,none⟩),X,Y,.int .i64 0,u7,u8,.map (some mb),u10,u11,u12,u13,u14,u15,u16,u17,u18,u19,u20,u21,u22,u23,u24,u25,u26,u27,u28,u29,u30,u31,u32,u33,u34,u35,u36,u37,u38,u39,u40,u41,u42,u43,u44,u45,u46,u47,u48,u49,u50,.map (some mb),.pointer (some ⟨b3,0,none⟩),.int .u64 (F:Int),X,.map (some mb),.pointer (some ⟨b3,1,none⟩),.int .u64 (S:Int),Y],defers:=[]} w:=wpAnyH_done (by kernel_rfl) (hfin X Y w hp) _
    have t10:wpAnyH Tryz.prog .any z1w Q (fun W:World=>W.cell? ⟨b3,0,none⟩=some (.int .u64 (F:Int))∧W.cell? ⟨b3,1,none⟩=some (.int .u64 (S:Int))) 1 #[true,true,true,true,true,true,true,true,true,true,false] {tmps:=#[u0,u1,u2,.pointer (some ⟨b3,0,none⟩),X,Y,u6,u7,u8,.map (some mb),u10,u11,u12,u13,u14,u15,u16,u17,u18,u19,u20,u21,u22,u23,u24,u25,u26,u27,u28,u29,u30,u31,u32,u33,u34,u35,u36,u37,u38,u39,u40,u41,u42,u43,u44,u45,u46,u47,u48,u49,u50,.map (some mb),.pointer (some ⟨b3,0,none⟩),.int .u64 (F:Int),X,.map (some mb),.pointer (some ⟨b3,1,none⟩),.int .u64 (S:Int),Y],defers:=[]} w:=
      wpAnyH_take (i:=10) (oi:=⟨some 6,.assign (.const (.int .i64 0)),28,"verify.go:62",#[⟨9,.chain⟩,⟨0,.phase⟩,⟨1,.phase⟩,⟨2,.phase⟩,⟨3,.phase⟩,⟨4,.phase⟩,⟨5,.phase⟩,⟨6,.phase⟩,⟨7,.phase⟩,⟨8,.phase⟩,⟨9,.phase⟩],none⟩) (v:=.int .i64 0) rfl (by kernel_rfl) (by kernel_rfl) (by kernel_rfl) (fun _ _ _ h=>hQ _ _ _ _ _ h) (Yields.yieldsIf (Or.inl ⟨by rfl,fun W=>by go_simp⟩)) hww last
    have t9:wpAnyH Tryz.prog .any z1w Q (fun W:World=>W.cell? ⟨b3,0,none⟩=some (.int .u64 (F:Int))∧W.cell? ⟨b3,1,none⟩=some (.int .u64 (S:Int))) 2 #[true,true,true,true,true,true,true,true,true,false,false] {tmps:=#[u0,u1,u2,.pointer (some ⟨b3,0,none⟩),X,u5,u6,u7,u8,.map (some mb),u10,u11,u12,u13,u14,u15,u16,u17,u18,u19,u20,u21,u22,u23,u24,u25,u26,u27,u28,u29,u30,u31,u32,u33,u34,u35,u36,u37,u38,u39,u40,u41,u42,u43,u44,u45,u46,u47,u48,u49,u50,.map (some mb),.pointer (some ⟨b3,0,none⟩),.int .u64 (F:Int),X,.map (some mb),.pointer (some ⟨b3,1,none⟩),.int .u64 (S:Int),Y],defers:=[]} w:=
      wpAnyH_take (i:=9) (oi:=⟨some 5,.assign (.tmp 58),22,"verify.go:62",#[⟨7,.data⟩,⟨8,.chain⟩,⟨0,.phase⟩,⟨1,.phase⟩,⟨2,.phase⟩,⟨3,.phase⟩,⟨4,.phase⟩,⟨5,.phase⟩,⟨6,.phase⟩,⟨7,.phase⟩,⟨8,.phase⟩],none⟩) (v:=Y) rfl (by kernel_rfl) (by kernel_rfl) (by kernel_rfl) (fun _ _ _ h=>hQ _ _ _ _ _ h) (Yields.yieldsIf (Or.inl ⟨by rfl,fun W=>by go_simp⟩)) hww t10
    have t8:wpAnyH Tryz.prog .any z1w Q (fun W:World=>W.cell? ⟨b3,0,none⟩=some (.int .u64 (F:Int))∧W.cell? ⟨b3,1,none⟩=some (.int .u64 (S:Int))) 3 #[true,true,true,true,true,true,true,true,false,false,false] {tmps:=#[u0,u1,u2,.pointer (some ⟨b3,0,none⟩),u4,u5,u6,u7,u8,.map (some mb),u10,u11,u12,u13,u14,u15,u16,u17,u18,u19,u20,u21,u22,u23,u24,u25,u26,u27,u28,u29,u30,u31,u32,u33,u34,u35,u36,u37,u38,u39,u40,u41,u42,u43,u44,u45,u46,u47,u48,u49,u50,.map (some mb),.pointer (some ⟨b3,0,none⟩),.int .u64 (F:Int),X,.map (some mb),.pointer (some ⟨b3,1,none⟩),.int .u64 (S:Int),Y],defers:=[]} w:=
      wpAnyH_take (i:=8) (oi:=⟨some 4,.assign (.tmp 54),22,"verify.go:62",#[⟨3,.data⟩,⟨7,.chain⟩,⟨0,.phase⟩,⟨1,.phase⟩,⟨2,.phase⟩,⟨3,.phase⟩,{on:=4,ground:=.textOnly Departure.lateStores},{on:=5,ground:=.textOnly Departure.lateStores},{on:=6,ground:=.textOnly Departure.lateStores},{on:=7,ground:=.textOnly Departure.lateStoresUnsure}],none⟩) (v:=X) rfl (by kernel_rfl) (by kernel_rfl) (by kernel_rfl) (fun _ _ _ h=>hQ _ _ _ _ _ h) (Yields.yieldsIf (Or.inl ⟨by rfl,fun W=>by go_simp⟩)) hww t9
    exact t8
  have k1:∀ (X:Value) (w:World),P1 X w→wpAnyH Tryz.prog .any z1w Q (fun W:World=>W.cell? ⟨b3,0,none⟩=some (.int .u64 (F:Int))∧W.cell? ⟨b3,1,none⟩=some (.int .u64 (S:Int))) 4 #[true,true,true,true,true,true,true,false,false,false,false] {tmps:=#[u0,u1,u2,.pointer (some ⟨b3,0,none⟩),u4,u5,u6,u7,u8,.map (some mb),u10,u11,u12,u13,u14,u15,u16,u17,u18,u19,u20,u21,u22,u23,u24,u25,u26,u27,u28,u29,u30,u31,u32,u33,u34,u35,u36,u37,u38,u39,u40,u41,u42,u43,u44,u45,u46,u47,u48,u49,u50,.map (some mb),.pointer (some ⟨b3,0,none⟩),.int .u64 (F:Int),X,.map (some mb),.pointer (some ⟨b3,1,none⟩),.int .u64 (S:Int),u58],defers:=[]} w:=fun X w hp=>by
    have hww:(fun W:World=>W.cell? ⟨b3,0,none⟩=some (.int .u64 (F:Int))∧W.cell? ⟨b3,1,none⟩=some (.int .u64 (S:Int))) w:=t1 _ _ hp
    have last:wpAnyH Tryz.prog .any z1w Q (fun W:World=>W.cell? ⟨b3,0,none⟩=some (.int .u64 (F:Int))∧W.cell? ⟨b3,1,none⟩=some (.int .u64 (S:Int))) 4 #[true,true,true,true,true,true,true,false,false,false,false] {tmps:=#[u0,u1,u2,.pointer (some ⟨b3,0,none⟩),u4,u5,u6,u7,u8,.map (some mb),u10,u11,u12,u13,u14,u15,u16,u17,u18,u19,u20,u21,u22,u23,u24,u25,u26,u27,u28,u29,u30,u31,u32,u33,u34,u35,u36,u37,u38,u39,u40,u41,u42,u43,u44,u45,u46,u47,u48,u49,u50,.map (some mb),.pointer (some ⟨b3,0,none⟩),.int .u64 (F:Int),X,.map (some mb),.pointer (some ⟨b3,1,none⟩),.int .u64 (S:Int),u58],defers:=[]} w:=by
      refine z1g (o:=⟨some 58,.call {callee:=.value (.func 33),args:=#[.tmp 55,.tmp 57],argTypes:=#[77,23]},22,"verify.go:62",#[⟨4,.data⟩,⟨6,.data⟩,⟨3,.chain⟩],none⟩) 7 (by kernel_rfl) rfl (fun K hK=>?_)
      rw [if_pos (by rfl)]
      go_simp
      refine (c2 X w hp).mono ?_
      rintro e w' ⟨Y,rfl,hp⟩
      exact hK.out _ _ (t2 _ _ _ hp) (fun _=>k2 X Y w' hp)
    exact last
  have k0:∀ (w:World),P0 w→wpAnyH Tryz.prog .any z1w Q (fun W:World=>W.cell? ⟨b3,0,none⟩=some (.int .u64 (F:Int))∧W.cell? ⟨b3,1,none⟩=some (.int .u64 (S:Int))) 11 #[false,false,false,false,false,false,false,false,false,false,false] {tmps:=#[u0,u1,u2,.pointer (some ⟨b3,0,none⟩),u4,u5,u6,u7,u8,.map (some mb),u10,u11,u12,u13,u14,u15,u16,u17,u18,u19,u20,u21,u22,u23,u24,u25,u26,u27,u28,u29,u30,u31,u32,u33,u34,u35,u36,u37,u38,u39,u40,u41,u42,u43,u44,u45,u46,u47,u48,u49,u50,u51,u52,u53,u54,u55,u56,u57,u58],defers:=[]} w:=fun  w hp=>by
    have hww:(fun W:World=>W.cell? ⟨b3,0,none⟩=some (.int .u64 (F:Int))∧W.cell? ⟨b3,1,none⟩=some (.int .u64 (S:Int))) w:=t0 _ hp
    have last:wpAnyH Tryz.prog .any z1w Q (fun W:World=>W.cell? ⟨b3,0,none⟩=some (.int .u64 (F:Int))∧W.cell? ⟨b3,1,none⟩=some (.int .u64 (S:Int))) 5 #[true,true,true,false,true,true,true,false,false,false,false] {tmps:=#[u0,u1,u2,.pointer (some ⟨b3,0,none⟩),u4,u5,u6,u7,u8,.map (some mb),u10,u11,u12,u13,u14,u15,u16,u17,u18,u19,u20,u21,u22,u23,u24,u25,u26,u27,u28,u29,u30,u31,u32,u33,u34,u35,u36,u37,u38,u39,u40,u41,u42,u43,u44,u45,u46,u47,u48,u49,u50,.map (some mb),.pointer (some ⟨b3,0,none⟩),.int .u64 (F:Int),u54,.map (some mb),.pointer (some ⟨b3,1,none⟩),.int .u64 (S:Int),u58],defers:=[]} w:=by
      refine z1g (o:=⟨some 54,.call {callee:=.value (.func 33),args:=#[.tmp 51,.tmp 53],argTypes:=#[77,23]},22,"verify.go:62",#[⟨0,.data⟩,⟨2,.data⟩],none⟩) 3 (by kernel_rfl) rfl (fun K hK=>?_)
      rw [if_pos (by rfl)]
      go_simp
      refine (c1 w hp).mono ?_
      rintro e w' ⟨X,rfl,hp⟩
      exact hK.out _ _ (t1 _ _ hp) (fun _=>k1 X w' hp)
    have t6:wpAnyH Tryz.prog .any z1w Q (fun W:World=>W.cell? ⟨b3,0,none⟩=some (.int .u64 (F:Int))∧W.cell? ⟨b3,1,none⟩=some (.int .u64 (S:Int))) 6 #[true,true,true,false,true,true,false,false,false,false,false] {tmps:=#[u0,u1,u2,.pointer (some ⟨b3,0,none⟩),u4,u5,u6,u7,u8,.map (some mb),u10,u11,u12,u13,u14,u15,u16,u17,u18,u19,u20,u21,u22,u23,u24,u25,u26,u27,u28,u29,u30,u31,u32,u33,u34,u35,u36,u37,u38,u39,u40,u41,u42,u43,u44,u45,u46,u47,u48,u49,u50,.map (some mb),.pointer (some ⟨b3,0,none⟩),.int .u64 (F:Int),u54,.map (some mb),.pointer (some ⟨b3,1,none⟩),u57,u58],defers:=[]} w:=
      wpAnyH_take (i:=6) (oi:=⟨some 57,.load 23 (.tmp 56),23,"verify.go:62",#[⟨5,.data⟩],none⟩) (v:=.int .u64 (S:Int)) rfl (by kernel_rfl) (by kernel_rfl) (by kernel_rfl) (fun _ _ _ h=>hQ _ _ _ _ _ h) (Or.inl ⟨by rfl,fun w hw=>by have hx:=hw.2;go_simp⟩) hww last
    have t5:wpAnyH Tryz.prog .any z1w Q (fun W:World=>W.cell? ⟨b3,0,none⟩=some (.int .u64 (F:Int))∧W.cell? ⟨b3,1,none⟩=some (.int .u64 (S:Int))) 7 #[true,true,true,false,true,false,false,false,false,false,false] {tmps:=#[u0,u1,u2,.pointer (some ⟨b3,0,none⟩),u4,u5,u6,u7,u8,.map (some mb),u10,u11,u12,u13,u14,u15,u16,u17,u18,u19,u20,u21,u22,u23,u24,u25,u26,u27,u28,u29,u30,u31,u32,u33,u34,u35,u36,u37,u38,u39,u40,u41,u42,u43,u44,u45,u46,u47,u48,u49,u50,.map (some mb),.pointer (some ⟨b3,0,none⟩),.int .u64 (F:Int),u54,.map (some mb),u56,u57,u58],defers:=[]} w:=
      wpAnyH_take (i:=5) (oi:=⟨some 56,.fieldAddr 47 (.tmp 3) 1,0,"verify.go:62",#[],none⟩) (v:=.pointer (some ⟨b3,1,none⟩)) rfl (by kernel_rfl) (by kernel_rfl) (by kernel_rfl) (fun _ _ _ h=>hQ _ _ _ _ _ h) (Yields.yieldsIf (Or.inl ⟨by rfl,fun W=>by go_simp⟩)) hww t6
    have t4:wpAnyH Tryz.prog .any z1w Q (fun W:World=>W.cell? ⟨b3,0,none⟩=some (.int .u64 (F:Int))∧W.cell? ⟨b3,1,none⟩=some (.int .u64 (S:Int))) 8 #[true,true,true,false,false,false,false,false,false,false,false] {tmps:=#[u0,u1,u2,.pointer (some ⟨b3,0,none⟩),u4,u5,u6,u7,u8,.map (some mb),u10,u11,u12,u13,u14,u15,u16,u17,u18,u19,u20,u21,u22,u23,u24,u25,u26,u27,u28,u29,u30,u31,u32,u33,u34,u35,u36,u37,u38,u39,u40,u41,u42,u43,u44,u45,u46,u47,u48,u49,u50,.map (some mb),.pointer (some ⟨b3,0,none⟩),.int .u64 (F:Int),u54,u55,u56,u57,u58],defers:=[]} w:=
      wpAnyH_take (i:=4) (oi:=⟨some 55,.move (.tmp 9),77,"verify.go:62",#[],none⟩) (v:=.map (some mb)) rfl (by kernel_rfl) (by kernel_rfl) (by kernel_rfl) (fun _ _ _ h=>hQ _ _ _ _ _ h) (Yields.yieldsIf (Or.inl ⟨by rfl,fun W=>by go_simp⟩)) hww t5
    have t2:wpAnyH Tryz.prog .any z1w Q (fun W:World=>W.cell? ⟨b3,0,none⟩=some (.int .u64 (F:Int))∧W.cell? ⟨b3,1,none⟩=some (.int .u64 (S:Int))) 9 #[true,true,false,false,false,false,false,false,false,false,false] {tmps:=#[u0,u1,u2,.pointer (some ⟨b3,0,none⟩),u4,u5,u6,u7,u8,.map (some mb),u10,u11,u12,u13,u14,u15,u16,u17,u18,u19,u20,u21,u22,u23,u24,u25,u26,u27,u28,u29,u30,u31,u32,u33,u34,u35,u36,u37,u38,u39,u40,u41,u42,u43,u44,u45,u46,u47,u48,u49,u50,.map (some mb),.pointer (some ⟨b3,0,none⟩),u53,u54,u55,u56,u57,u58],defers:=[]} w:=
      wpAnyH_take (i:=2) (oi:=⟨some 53,.load 23 (.tmp 52),23,"verify.go:62",#[⟨1,.data⟩],none⟩) (v:=.int .u64 (F:Int)) rfl (by kernel_rfl) (by kernel_rfl) (by kernel_rfl) (fun _ _ _ h=>hQ _ _ _ _ _ h) (Or.inl ⟨by rfl,fun w hw=>by have hx:=hw.1;go_simp⟩) hww t4
    have t1:wpAnyH Tryz.prog .any z1w Q (fun W:World=>W.cell? ⟨b3,0,none⟩=some (.int .u64 (F:Int))∧W.cell? ⟨b3,1,none⟩=some (.int .u64 (S:Int))) 10 #[true,false,false,false,false,false,false,false,false,false,false] {tmps:=#[u0,u1,u2,.pointer (some ⟨b3,0,none⟩),u4,u5,u6,u7,u8,.map (some mb),u10,u11,u12,u13,u14,u15,u16,u17,u18,u19,u20,u21,u22,u23,u24,u25,u26,u27,u28,u29,u30,u31,u32,u33,u34,u35,u36,u37,u38,u39,u40,u41,u42,u43,u44,u45,u46,u47,u48,u49,u50,.map (some mb),u52,u53,u54,u55,u56,u57,u58],defers:=[]} w:=
      wpAnyH_take (i:=1) (oi:=⟨some 52,.fieldAddr 47 (.tmp 3) 0,0,"verify.go:62",#[],none⟩) (v:=.pointer (some ⟨b3,0,none⟩)) rfl (by kernel_rfl) (by kernel_rfl) (by kernel_rfl) (fun _ _ _ h=>hQ _ _ _ _ _ h) (Yields.yieldsIf (Or.inl ⟨by rfl,fun W=>by go_simp⟩)) hww t2
    have t0:wpAnyH Tryz.prog .any z1w Q (fun W:World=>W.cell? ⟨b3,0,none⟩=some (.int .u64 (F:Int))∧W.cell? ⟨b3,1,none⟩=some (.int .u64 (S:Int))) 11 #[false,false,false,false,false,false,false,false,false,false,false] {tmps:=#[u0,u1,u2,.pointer (some ⟨b3,0,none⟩),u4,u5,u6,u7,u8,.map (some mb),u10,u11,u12,u13,u14,u15,u16,u17,u18,u19,u20,u21,u22,u23,u24,u25,u26,u27,u28,u29,u30,u31,u32,u33,u34,u35,u36,u37,u38,u39,u40,u41,u42,u43,u44,u45,u46,u47,u48,u49,u50,u51,u52,u53,u54,u55,u56,u57,u58],defers:=[]} w:=
      wpAnyH_take (i:=0) (oi:=⟨some 51,.move (.tmp 9),77,"verify.go:62",#[],none⟩) (v:=.map (some mb)) rfl (by kernel_rfl) (by kernel_rfl) (by kernel_rfl) (fun _ _ _ h=>hQ _ _ _ _ _ h) (Yields.yieldsIf (Or.inl ⟨by rfl,fun W=>by go_simp⟩)) hww t1
    exact t0
  have hp:=h0
  exact wp_region_held_drew (S:=(fun W:World=>W.cell? ⟨b3,0,none⟩=some (.int .u64 (F:Int))∧W.cell? ⟨b3,1,none⟩=some (.int .u64 (S:Int)))) (by kernel_rfl) (t0 _ hp) (fun _=>k0 _ hp)
end Go.Proofs.YthjeeblddipiiaaGreatDoor
