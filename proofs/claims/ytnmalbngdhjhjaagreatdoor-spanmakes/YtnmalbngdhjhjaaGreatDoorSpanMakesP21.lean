/- Texts of SpanMakes, one behind the other: NumShortCalls, CutPlain, PosCoversPlain, CutTopsPlain, ProofPlain, PosRef, PosRefSpot, PosRefKin, PosBackward. -/
import Derived.RangeFuncBox
import Derived.RangeFuncLeaves
import Derived.RangeFuncCalls
import Derived.Shelf.Abstract
import Derived.Shelf.RegionOpen
import Derived.WalkKit
import Derived.OwnWalkIn
import Derived.TacticsInMore
import Derived.LoopNIn
import Derived.LoopIn
import Derived.Maps.AppendAt
import Derived.Test.YtnmalbngdhjhjaaGreatDoorSpanMakesP20
namespace Go.Proofs.YtnmalbngdhjhjaaGreatDoor
open Go.RowKit
def z1k (X j:Nat):List Int:=(List.range j).map fun i=>((X / 128 ^ i % 128+128:Nat):Int)
theorem z9o (X j:Nat):z1k X (j+1)=z1k X j ++ [((X / 128 ^ j % 128+128:Nat):Int)]:=by simp [z1k,List.range_succ]
theorem z7r (X j:Nat):(z1k X j).length=j:=by simp [z1k]
def TOPG (X:Nat):Nat→Nat
  | 0=>0
  | k+1=>if X<128 then 0 else TOPG (X / 128) k+1
def NTOP (X:Nat):Nat:=TOPG X 9
def z1c (X:Nat):List Int:=z1k X (NTOP X) ++ [((X / 128 ^ NTOP X:Nat):Int)]
theorem z30 (X:Nat):(z1c X).length=NTOP X+1:=by simp [z1c,z7r]
theorem zaj:∀ (k X:Nat),TOPG X k≤k
  | 0,_=>Nat.le_refl _
  | k + 1,X=>by
    unfold TOPG
    split
    · omega
    · have:=zaj k (X / 128)
      omega
theorem z66:∀ (k X j:Nat),j<TOPG X k→128≤X / 128 ^ j
  | 0,_,_,h=>by simp [TOPG] at h
  | k + 1,X,j,h=>by
    unfold TOPG at h
    split at h
    · omega
    · cases j with
      | zero=>simp;omega
      | succ j=>
        have:=z66 k (X / 128) j (by omega)
        rw [Nat.div_div_eq_div_mul,Nat.mul_comm,← Nat.pow_succ] at this
        exact this
theorem zak:∀ (k X:Nat),X<128 ^ (k+1)→X / 128 ^ TOPG X k<128
  | 0,X,h=>by simpa [TOPG] using h
  | k + 1,X,h=>by
    unfold TOPG
    split
    · simpa using ‹X<128›
    · have:=zak k (X / 128) (by rw [Nat.pow_succ] at h;exact Nat.div_lt_of_lt_mul (by omega))
      rw [Nat.div_div_eq_div_mul,Nat.mul_comm,← Nat.pow_succ] at this
      exact this
theorem z6B (X:Nat):NTOP X≤9:=zaj 9 X
theorem zal {X:Nat} (hX:X<2 ^ 64):X / 128 ^ NTOP X<128:=zak 9 X (Nat.lt_of_lt_of_le hX (by decide))
theorem zfF {X:Nat} (hX:X<2 ^ 64) {j:Nat} (hj:∀ i,i<j→128≤X / 128 ^ i) (h:X / 128 ^ j<128):NTOP X=j:=by
  rcases Nat.lt_trichotomy (NTOP X) j with h1 | h1 | h1
  · have:=hj _ h1
    have:=zal hX
    omega
  · exact h1
  · have:=z66 9 X j h1
    omega
theorem zed (X:Nat) {i j:Nat} (h:i≤j):X / 128 ^ j≤X / 128 ^ i:=Nat.div_le_div_left (Nat.pow_le_pow_right (by decide) h) (Nat.pow_pos (by decide))
theorem z8g (X j:Nat):∀ x∈z1k X j,0≤x∧x≤255:=fun x hx=>by
  simp only [z1k,List.mem_map] at hx
  obtain ⟨i,_,rfl⟩:=hx
  omega
theorem z3o {X:Nat} (hX:X<2 ^ 64):∀ x∈z1c X,0≤x∧x≤255:=fun x hx=>by
  simp only [z1c,List.mem_append,List.mem_singleton] at hx
  rcases hx with hx | rfl
  · exact z8g X _ x hx
  · have:=zal hX
    generalize X / 128 ^ NTOP X=y at *
    omega
theorem z75 (w:World) (v:Int) (h0:0≤v) (h1:v≤255):Bytes (w.alloc (.cells #[.int .u8 v] 5)) (some ⟨w.heap.size,0,none⟩) 1 [v]:=by
  refine ⟨rfl,fun _=>⟨w.heap.size,0,rfl,by simp,fun i hi=>?_⟩,fun x hx=>by simp at hx;omega⟩
  obtain rfl:i=0:=by omega
  rw [Nat.zero_add,World.cell?_alloc_at _ _ _ _ rfl]
  rfl
theorem zee (w:World) (base:Nat) (hb:base≤w.heap.size) (cur:Array Value) (cap:Nat) (hm:cap≤1000) (hs:cur.size=cap):(w.alloc (.cells cur 5)).ownsRow base 5 1 (.slice (some ⟨w.heap.size,0,none⟩) 0 cap) 0 (z00 []):=
  World.ownsRow_made w cur cap hb (by simp only [maxLen];omega) (by omega)
set_option maxHeartbeats 1000000 in
theorem z5t (X:Nat) (hX:X<2 ^ 64) (w:World):Calls Tryz.prog 122 #[.int .u64 (X:Int)] w fun e w'=>
    ∃ g cap,e=.returned (.slice (some ⟨g,0,none⟩) (NTOP X+1) cap)∧w'.ownsRow w.heap.size 5 1 (.slice (some ⟨g,0,none⟩) (NTOP X+1) cap) (NTOP X+1) (z00 (z1c X))∧g<w'.heap.size∧Below w.heap.size w w':=by
  have hmk:∀ w:World,(Instr.makeSlice 53 (.int .i64 0) (.int .i64 10)).run Tryz.prog w=.ok (.slice (some ⟨w.heap.size,0,none⟩) 0 10) (w.alloc (.cells #[.int .u8 0,.int .u8 0,.int .u8 0,.int .u8 0,.int .u8 0,.int .u8 0,.int .u8 0,.int .u8 0,.int .u8 0,.int .u8 0] 5)):=fun _=>by kernel_rfl
  have HX:Aside (X<2 ^ 64):=hX
  clear hX
  go_enter Tryz.func122,Tryz.ntmps122
  go_wp2
  go_loopg [0,3] 10 (fun g s0 s3 wx=>∃ (j x:Nat),j+g=10∧Aside (x=X / 128 ^ j∧(∀ i,i<j→128≤X / 128 ^ i)∧wx.ownsRow w.heap.size 5 1 s3 j (z00 (z1k X j))∧Below w.heap.size w wx)∧s0=.int .u64 (x:Int))
  case atStart=>exact ⟨0,X,by omega,⟨by simp,fun i hi=>by omega,zee w _ (Nat.le_refl _) _ 10 (by decide) rfl,(Below.refl _ _).alloc (Nat.le_refl _) _⟩,rfl⟩
  case round=>
    obtain ⟨j,x,hjg,A,rfl⟩:=hrel
    by_cases hx:128≤(x:Int)
    · go_wp2_with (at_builtin;refine z1b _ rfl (.tmp 9) (.tmp 14) rfl w.heap.size u3 j (z1k X j) rfl (A.out.2.2.1.alloc _) wr.heap.size 0 1 1 [(x:Int) % 128+128] rfl (z75 wr _ (by omega) (by omega)) (by omega) (by omega) (by have:=A.out.2.2.2.size;simp;omega) ?_;intro g cap w1 hown hgrow hg)
      have R:(x / 128=X / 128 ^ (j+1))∧(∀ i,i<j+1→128≤X / 128 ^ i)∧w1.ownsRow w.heap.size 5 1 (.slice (some ⟨g,0,none⟩) (j+1) cap) (j+1) (z00 (z1k X (j+1)))∧Below w.heap.size w w1:=by
        obtain ⟨hxe,hall,hown0,hb⟩:=A.out
        refine ⟨by rw [hxe,Nat.div_div_eq_div_mul,← Nat.pow_succ],fun i hi=>?_,?_,?_⟩
        · by_cases e:i=j
          · rw [e,← hxe];omega
          · exact hall i (by omega)
        · rw [z9o,show ((X / 128 ^ j % 128+128:Nat):Int)=(x:Int) % 128+128 by rw [← hxe];omega]
          exact hown
        · exact (hb.alloc hb.size _).grown hgrow (by have:=hb.size;simp;omega) (fun k e=>(hown0.lt k e).1)
      have HR:Aside ((x / 128=X / 128 ^ (j+1))∧(∀ i,i<j+1→128≤X / 128 ^ i)∧w1.ownsRow w.heap.size 5 1 (.slice (some ⟨g,0,none⟩) (j+1) cap) (j+1) (z00 (z1k X (j+1)))∧Below w.heap.size w w1):=R
      have hj9:j<9:=by
        obtain ⟨hxe,hall,_,_⟩:=A.out
        rcases Nat.lt_or_ge j 9 with h | h
        · exact h
        · have h1:=zed X h
          have h2:X / 128 ^ 9<2:=Nat.div_lt_of_lt_mul (Nat.lt_of_lt_of_le HX.out (by decide))
          omega
      clear hown hgrow hg R A
      go_wp2
      go_roundg (gk - 1)
      case measure=>omega
      case rel=>exact ⟨j+1,x / 128,by omega,HR,by first | rfl | go_num⟩
    · go_wp2_with (at_builtin;refine z1b _ rfl (.tmp 16) (.tmp 19) rfl w.heap.size u3 j (z1k X j) rfl (A.out.2.2.1.alloc _) wr.heap.size 0 1 1 [(x:Int)] rfl (z75 wr _ (by omega) (by omega)) (by omega) (by omega) (by have:=A.out.2.2.2.size;simp;omega) ?_;intro g cap w1 hown hgrow hg)
      obtain ⟨hxe,hall,hown0,hb⟩:=A.out
      have hN:NTOP X=j:=zfF HX.out hall (by rw [← hxe];omega)
      have R:w1.ownsRow w.heap.size 5 1 (.slice (some ⟨g,0,none⟩) (NTOP X+1) cap) (NTOP X+1) (z00 (z1c X))∧g<w1.heap.size∧Below w.heap.size w w1:=by
        refine ⟨?_,hg,(hb.alloc hb.size _).grown hgrow (by have:=hb.size;simp;omega) (fun k e=>(hown0.lt k e).1)⟩
        unfold z1c
        rw [hN,← hxe]
        exact hown
      have HR:Aside (w1.ownsRow w.heap.size 5 1 (.slice (some ⟨g,0,none⟩) (NTOP X+1) cap) (NTOP X+1) (z00 (z1c X))∧g<w1.heap.size∧Below w.heap.size w w1):=R
      have HN:Aside (NTOP X=j):=hN
      clear hown hgrow hg R A hxe hall hown0 hb hN
      go_wp2
      go_ret
      obtain ⟨h1,h2,h3⟩:=HR.out
      refine ⟨g,cap,?_,h1,h2,h3⟩
      rw [HN.out]
      rfl
end Go.Proofs.YtnmalbngdhjhjaaGreatDoor

namespace Go.Proofs.YtnmalbngdhjhjaaGreatDoor
abbrev Fit (a h b:Nat):Prop:=a % 2 ^ h=0∧a+2 ^ h≤b
theorem Fit.down {a h b:Nat} (f:Fit a (h+1) b):Fit a h b:=by
  have h1:2 ^ (h+1)=2 ^ h*2:=Nat.pow_succ 2 h
  have h2:=f.2
  refine ⟨?_,by omega⟩
  have h3:=f.1
  have h4:2 ^ h ∣ 2 ^ (h+1):=⟨2,h1⟩
  exact Nat.mod_eq_zero_of_dvd (Nat.dvd_trans h4 (Nat.dvd_of_mod_eq_zero h3))
theorem Fit.le {a g b:Nat}:∀ h,h≤g→Fit a g b→Fit a h b:=by
  intro h hg f
  induction g with
  | zero => obtain rfl:h=0:=by omega
            exact f
  | succ g ih=>
    rcases Nat.lt_or_ge h (g+1) with h1 | h1
    · exact ih (by omega) f.down
    · obtain rfl:h=g+1:=by omega
      exact f
theorem Fit.zero {a b:Nat} (h:a<b):Fit a 0 b:=⟨Nat.mod_one a,by simp;omega⟩
def HTF:Nat→Nat→Nat→Nat
  | 0,_,_=>0
  | f+1,a,b=>if Fit a (f+1) b then f+1 else HTF f a b
def HT (a b:Nat):Nat:=HTF 62 a b
def Tile:Nat→List (Nat × Nat)→Nat→Prop
  | a,[],b=>a=b
  | a,s :: l,b=>Node s.1 s.2∧s.2*2 ^ s.1=a∧Tile ((s.2+1)*2 ^ s.1) l b
abbrev Sibs (x y:Nat × Nat):Prop:=x.1=y.1∧x.2 % 2=0∧y.2=x.2+1
def Irr:List (Nat × Nat)→Prop
  | []=>True
  | x :: l=>(∀ y,l.head?=some y→¬ Sibs x y)∧Irr l
theorem Fit.node {a h b:Nat} (f:Fit a h b) (hh:h≤62) (hb:b≤4611686018427387904):Node h (a / 2 ^ h)∧a / 2 ^ h*2 ^ h=a∧(a / 2 ^ h+1)*2 ^ h=a+2 ^ h:=by
  have h1:a / 2 ^ h*2 ^ h=a:=Nat.div_mul_cancel (Nat.dvd_of_mod_eq_zero f.1)
  have h2:(a / 2 ^ h+1)*2 ^ h=a+2 ^ h:=by rw [Nat.add_mul,Nat.one_mul,h1]
  refine ⟨⟨hh,?_⟩,h1,h2⟩
  have h3:(a / 2 ^ h+1)*2 ^ h≤2 ^ (62 - h)*2 ^ h:=by
    rw [h2,← Nat.pow_add,show 62 - h+h=62 by omega]
    have:=f.2
    simp
    omega
  exact Nat.le_of_mul_le_mul_right h3 (Nat.two_pow_pos h)
theorem zgE (h:Nat):2 ^ (h+1)=2*2 ^ h:=by rw [Nat.pow_succ,Nat.mul_comm]
theorem Tile.bound {l:List (Nat × Nat)}:∀ {a b:Nat},Tile a l b→a≤b∧(l≠[]→a<b∧b≤4611686018427387904):=by
  induction l with
  | nil=>intro a b h;exact ⟨by have:a=b:=h;omega,fun h=>absurd rfl h⟩
  | cons s l ih=>
    intro a b ⟨h1,h2,h3⟩
    have i:=ih h3
    have:=Nat.two_pow_pos s.1
    have e:(s.2+1)*2 ^ s.1=s.2*2 ^ s.1+2 ^ s.1:=by rw [Nat.add_mul,Nat.one_mul]
    refine ⟨by omega,fun _=>⟨by omega,?_⟩⟩
    cases l with
    | nil=>
      have h4:(s.2+1)*2 ^ s.1=b:=h3
      have:=h1.span
      simp at this
      omega
    | cons t l=>exact (i.2 (by simp)).2
theorem Tile.append {l m:List (Nat × Nat)}:∀ {a b c:Nat},Tile a l b→Tile b m c→Tile a (l ++ m) c:=by
  induction l with
  | nil=>intro a b c h h2;have:a=b:=h;rw [this];exact h2
  | cons s l ih=>intro a b c ⟨h1,h2,h3⟩ h4;exact ⟨h1,h2,ih h3 h4⟩
theorem Tile.node {l:List (Nat × Nat)}:∀ {a b i h k:Nat},Tile a l b→l[i]?=some (h,k)→Node h k:=by
  induction l with
  | nil=>intro a b i h k _ e;simp at e
  | cons s l ih=>
    intro a b i h k ⟨h1,h2,h3⟩ e
    cases i with
    | zero=>simp at e;subst e;exact h1
    | succ i=>exact ih h3 (by simpa using e)
theorem Tile.one {s:Nat × Nat} {a b:Nat}:Tile a [s] b↔Node s.1 s.2∧s.2*2 ^ s.1=a∧(s.2+1)*2 ^ s.1=b:=Iff.rfl
end Go.Proofs.YtnmalbngdhjhjaaGreatDoor

namespace Go.Proofs.YtnmalbngdhjhjaaGreatDoor
theorem z3Y {n:Nat} (h:PC n=0):n=0:=by
  induction n using Nat.strongRecOn with
  | _ n ih=>
    by_cases h0:n=0
    · exact h0
    · rw [z0C] at h
      have:=ih (n / 2) (by omega) (by omega)
      omega
theorem z8h (n a b:Nat) (hab:a≤b):n / 2 ^ a=n / 2 ^ b*2 ^ (b - a)+n / 2 ^ a % 2 ^ (b - a)∧PC (n / 2 ^ a)=PC (n / 2 ^ b)+PC (n / 2 ^ a % 2 ^ (b - a)):=by
  have e:n / 2 ^ b=n / 2 ^ a / 2 ^ (b - a):=by rw [Nat.div_div_eq_div_mul,← Nat.pow_add,show a+(b - a)=b by omega]
  have h1:n / 2 ^ a=n / 2 ^ b*2 ^ (b - a)+n / 2 ^ a % 2 ^ (b - a):=by
    rw [e,Nat.mul_comm]
    exact (Nat.div_add_mod _ _).symm
  refine ⟨h1,?_⟩
  have h2:=z4v (b - a) (n / 2 ^ b) (n / 2 ^ a % 2 ^ (b - a)) (Nat.mod_lt _ (Nat.two_pow_pos _))
  rw [← h1] at h2
  exact h2
theorem zfG (n:Nat) {a b:Nat} (hab:a≤b):PC (n / 2 ^ b)≤PC (n / 2 ^ a):=by
  have:=(z8h n a b hab).2
  omega
theorem z8i (n:Nat) {a b:Nat} (hab:a≤b) (h:PC (n / 2 ^ a)=PC (n / 2 ^ b)):n / 2 ^ a*2 ^ a=n / 2 ^ b*2 ^ b:=by
  obtain ⟨h1,h2⟩:=z8h n a b hab
  have h3:n / 2 ^ a % 2 ^ (b - a)=0:=z3Y (by omega)
  rw [h3,Nat.add_zero] at h1
  rw [h1,Nat.mul_assoc,← Nat.pow_add,show b - a+a=b by omega]
theorem zef {n:Nat} (hn:n<2 ^ 64):∀ h,h≤64→∀ i,i<PC (n / 2 ^ h)→∃ g,h≤g∧g<64∧(HS h n)[i]?=some g∧n / 2 ^ g % 2=1∧i=PC (n / 2 ^ (g+1)):=by
  have key:∀ d h,h+d=64→∀ i,i<PC (n / 2 ^ h)→∃ g,h≤g∧g<64∧(HS h n)[i]?=some g∧n / 2 ^ g % 2=1∧i=PC (n / 2 ^ (g+1)):=by
    intro d
    induction d with
    | zero=>
      intro h e i hi
      obtain rfl:h=64:=by omega
      rw [Nat.div_eq_of_lt hn,z0Z] at hi
      omega
    | succ d ih=>
      intro h e i hi
      have hl:=z4B hn (h+1) (by omega)
      have hs:PC (n / 2 ^ h)=n / 2 ^ h % 2+PC (n / 2 ^ (h+1)):=by rw [z0C,z10]
      rcases Nat.lt_or_ge i (PC (n / 2 ^ (h+1))) with h1 | h1
      · obtain ⟨g,a,b,c,r⟩:=ih (h+1) (by omega) i h1
        refine ⟨g,by omega,b,?_,r⟩
        by_cases hb:n / 2 ^ h % 2=1
        · rw [z3y (by omega) hb,List.getElem?_append_left (by omega)]
          exact c
        · rw [z2Z (by omega) hb]
          exact c
      · have hb:n / 2 ^ h % 2=1:=by omega
        have hi':i=PC (n / 2 ^ (h+1)):=by omega
        refine ⟨h,Nat.le_refl _,by omega,?_,hb,hi'⟩
        rw [z3y (by omega) hb,List.getElem?_append_right (by omega),hl,hi']
        simp
  intro h hh
  exact key (64 - h) h (by omega)
def HGT (n i:Nat):Nat:=(HS 0 n).getD i 0
def z7C (n:Nat):Nat→Nat
  | 0=>0
  | i+1=>n / 2 ^ HGT n i*2 ^ HGT n i
theorem z31 {n i:Nat} (hn:n<2 ^ 64) (hi:i<PC n):(HS 0 n)[i]?=some (HGT n i)∧n / 2 ^ HGT n i % 2=1∧i=PC (n / 2 ^ (HGT n i+1)):=by
  obtain ⟨g,_,_,c,d,e⟩:=zef hn 0 (by omega) i (by rw [Nat.pow_zero,Nat.div_one];exact hi)
  have hg:HGT n i=g:=by unfold HGT;rw [List.getD_eq_getElem?_getD,c];rfl
  rw [hg]
  exact ⟨c,d,e⟩
def KGT (n i:Nat):Nat:=2*(n / 2 ^ (HGT n i+1))
theorem zcK {n i:Nat} (hn:n≤4611686018427387904) (hi:i<PC n):Node (HGT n i) (KGT n i):=Node.peak hn (z31 (by omega) hi).2.1
theorem z5u {n i:Nat} (hn:n<2 ^ 64) (hi:i<PC n):PC (n / 2 ^ HGT n i)=i+1:=by
  obtain ⟨_,h2,h3⟩:=z31 hn hi
  rw [z0C,← z10]
  omega
theorem z76 {n i:Nat} (hn:n<2 ^ 64) (hi:i+1<PC n):HGT n (i+1)<HGT n i:=by
  have h1:=z5u hn (i:=i) (by omega)
  have h2:=(z31 hn hi).2.2
  rcases Nat.lt_or_ge (HGT n (i+1)) (HGT n i) with h | h
  · exact h
  · have h3:=zfG n (a:=HGT n i+1) (b:=HGT n (i+1)+1) (by omega)
    have h4:=(z31 hn (i:=i) (by omega)).2.2
    omega
theorem zbl {n i:Nat} (hn:n<2 ^ 64) (hi:i<PC n):KGT n i*2 ^ HGT n i=z7C n i:=by
  have hk:KGT n i*2 ^ HGT n i=n / 2 ^ (HGT n i+1)*2 ^ (HGT n i+1):=z0X _ _
  have h2:=(z31 hn hi).2.2
  cases i with
  | zero=>
    rw [hk,z3Y h2.symm,Nat.zero_mul]
    rfl
  | succ i=>
    have h1:=z5u hn (i:=i) (by omega)
    have h3:=z76 hn hi
    rw [hk]
    exact z8i n (by omega) (by omega)
theorem zeg {n i:Nat} (hn:n<2 ^ 64) (hi:i<PC n):(KGT n i+1)*2 ^ HGT n i=z7C n (i+1):=by
  have:=z64 (z31 hn hi).2.1
  show (2*(n / 2 ^ (HGT n i+1))+1)*2 ^ HGT n i=n / 2 ^ HGT n i*2 ^ HGT n i
  rw [← this]
theorem zcL {n:Nat} (hn:n<2 ^ 64):z7C n (PC n)=n:=by
  cases h:PC n with
  | zero=>
    rw [z3Y h]
    rfl
  | succ i=>
    have h1:=z5u hn (i:=i) (by omega)
    have h2:=z8i n (a:=0) (b:=HGT n i) (by omega) (by rw [Nat.pow_zero,Nat.div_one];omega)
    rw [Nat.pow_zero,Nat.div_one,Nat.mul_one] at h2
    exact h2.symm
end Go.Proofs.YtnmalbngdhjhjaaGreatDoor

namespace Go.Proofs.YtnmalbngdhjhjaaGreatDoor
def PKS (n j c:Nat):List (Nat × Nat):=(List.range' j c).map fun i=>(HGT n i,KGT n i)
theorem z8j (n j c:Nat):PKS n j (c+1)=(HGT n j,KGT n j) :: PKS n (j+1) c:=by simp [PKS,List.range'_succ]
theorem zgF {n c i:Nat} (h:i<c):(PKS n 0 c)[i]?=some (HGT n i,KGT n i):=by
  simp [PKS,h]
theorem zeh {n:Nat} (hn:n≤4611686018427387904):∀ c j,j+c=PC n→Tile (z7C n j) (PKS n j c) n∧Irr (PKS n j c):=by
  intro c
  induction c with
  | zero=>
    intro j e
    obtain rfl:j=PC n:=by omega
    exact ⟨zcL (by omega),trivial⟩
  | succ c ih=>
    intro j e
    obtain ⟨i1,i2⟩:=ih (j+1) (by omega)
    rw [z8j]
    refine ⟨⟨zcK hn (by omega),zbl (by omega) (by omega),?_⟩,?_,i2⟩
    · show Tile ((KGT n j+1)*2 ^ HGT n j) _ n
      rw [zeg (by omega) (by omega)]
      exact i1
    · intro y hy ⟨h1,_,_⟩
      cases c with
      | zero=>simp [PKS] at hy
      | succ c=>
        rw [z8j] at hy
        simp at hy
        subst hy
        have:=z76 (n:=n) (i:=j) (by omega) (by omega)
        dsimp only at h1
        omega
end Go.Proofs.YtnmalbngdhjhjaaGreatDoor

namespace Go.Proofs.YtnmalbngdhjhjaaGreatDoor
def PLCS (l:List (Nat × Nat)):List Nat:=l.map fun s=>PLC s.1 s.2
theorem z9p (l:List (Nat × Nat)):(PLCS l).length=l.length:=by simp [PLCS]
theorem zfH {l:List (Nat × Nat)} {j h k:Nat} (e:l[j]?=some (h,k)):(PLCS l).getD j 0=PLC h k:=by
  simp [PLCS,List.getD,e]
def Off (s t:Nat × Nat):Prop:=(s.2+1)*2 ^ s.1≤t.2*2 ^ t.1∨(t.2+1)*2 ^ t.1≤s.2*2 ^ s.1
def SIZE (l:List (Nat × Nat)):Nat:=(l.map fun s=>2 ^ s.1).sum
theorem z8k (k h:Nat):(k+1)*2 ^ h=k*2 ^ h+2 ^ h:=by rw [Nat.add_mul,Nat.one_mul]
theorem Tile.size {l:List (Nat × Nat)}:∀ {a b:Nat},Tile a l b→a+SIZE l=b:=by
  induction l with
  | nil=>intro a b h;have:a=b:=h;simp [SIZE,this]
  | cons s l ih=>
    intro a b ⟨h1,h2,h3⟩
    have:=ih h3
    rw [z8k,h2] at this
    simp only [SIZE,List.map_cons,List.sum_cons] at this ⊢
    omega
theorem Tile.within {l:List (Nat × Nat)}:∀ {a b:Nat},Tile a l b→∀ s∈l,a≤s.2*2 ^ s.1∧(s.2+1)*2 ^ s.1≤b∧Node s.1 s.2:=by
  induction l with
  | nil=>intro a b _ s hs;simp at hs
  | cons t l ih=>
    intro a b ⟨h1,h2,h3⟩ s hs
    rcases List.mem_cons.1 hs with rfl | hs
    · exact ⟨by omega,h3.bound.1,h1⟩
    · have:=ih h3 s hs
      have h4:=z8k t.2 t.1
      have h5:=Nat.two_pow_pos t.1
      exact ⟨by omega,this.2⟩
theorem Tile.off {l:List (Nat × Nat)}:∀ {a b:Nat},Tile a l b→l.Pairwise Off:=by
  induction l with
  | nil=>intro a b _;exact List.Pairwise.nil
  | cons t l ih=>
    intro a b ⟨h1,h2,h3⟩
    refine List.Pairwise.cons (fun s hs=>?_) (ih h3)
    exact .inl (h3.within s hs).1
theorem zam {h k n:Nat} (hn:(k+1)*2 ^ h≤n):PLC h k<z01 n:=by
  have h1:=z3T hn
  have h2:=z0A ((k+1)*2 ^ h)
  rw [z2h] at h2
  have h3:=z1E h k
  have h4:=zac k
  have h5:2 ^ (h+1)*(k+1)=2*((k+1)*2 ^ h):=by rw [zgE,Nat.mul_assoc,Nat.mul_comm (2 ^ h)]
  omega
end Go.Proofs.YtnmalbngdhjhjaaGreatDoor

namespace Go.Proofs.YtnmalbngdhjhjaaGreatDoor
open Go.RowKit
theorem z15 (n:Nat) (hn:n<64) (w:World):Calls Tryz.prog 104 #[.int .i64 (n:Int)] w fun e w'=>e=.returned (.int .u64 ((2 ^ n:Nat):Int))∧w=w':=by
  have HN:Aside (n<64):=hn
  clear hn
  go_enter Tryz.func104,Tryz.ntmps104
  go_wp2
  go_loopg [3,4] n (fun g s3 s4 wx=>∃ i v:Nat,s3=.int .u64 (v:Int)∧s4=.int .i64 (i:Int)∧Aside (v=2 ^ i∧i+g=n)∧wx=w)
  case atStart=>exact ⟨0,1,rfl,rfl,⟨rfl,by omega⟩,rfl⟩
  case round=>
    obtain ⟨i,v,rfl,rfl,A,hw⟩:=hrel
    subst hw
    cases gk with
    | zero=>
      have hi:¬ (i:Int)<(n:Int):=by have:=A.out.2;omega
      go_wp2
      go_ret
      obtain ⟨r1,r2⟩:=A.out
      refine ⟨?_,rfl⟩
      rw [r1,show i=n by omega]
      rfl
    | succ g=>
      have hi:(i:Int)<(n:Int):=by have:=A.out.2;omega
      go_wp2
      go_roundg g
      case measure=>omega
      case rel=>
        obtain ⟨r1,r2⟩:=A.out
        have h64:=HN.out
        have hp:2 ^ (i+1)≤2 ^ 63:=Nat.pow_le_pow_right (by decide) (by omega)
        refine ⟨i+1,2 ^ (i+1),?_,?_,⟨rfl,by omega⟩,rfl⟩
        · congr 1
          rw [z0a,r1]
          rw [Nat.pow_succ] at hp ⊢
          omega
        · congr 1
          unfold wrap64
          omega
theorem z9q (n:Nat) (hn:n≤4611686018427387904) (w:World):Calls Tryz.prog 107 #[.int .u64 (n:Int)] w fun e w'=>e=.returned (.tuple #[.int .u64 ((z01 n:Nat):Int),.bool true])∧w=w':=by
  have HN:Aside (n≤4611686018427387904):=hn
  have hd:¬ (4611686018427387904:Int)<(n:Int):=by omega
  clear hn
  go_enter Tryz.func107,Tryz.ntmps107
  go_wp2
  go_loopg [0,4] n (fun g s0 s4 wx=>∃ v:Nat,s0=.int .u64 (g:Int)∧s4=.int .u64 (v:Int)∧Aside (v+z01 g=z01 n)∧wx=w)
  case atStart=>exact ⟨0,rfl,rfl,by unfold Aside;omega,rfl⟩
  case round=>
    obtain ⟨v,rfl,rfl,A,hw⟩:=hrel
    subst hw
    cases gk with
    | zero=>
      go_wp2
      go_ret2
      have r1:=A.out
      rw [z26] at r1
      refine ⟨?_,rfl⟩
      rw [← r1]
      rfl
    | succ g=>
      have hi:(0:Int)<(((g+1:Nat)):Int):=by omega
      have e1:Aside (IntKind.u64.wrap ((v:Int)+((g+1:Nat):Int))=((v+(g+1):Nat):Int)):=by
        have h1:=z3S (g+1)
        have h2:=A.out
        have h3:=z4C HN.out
        unfold Aside
        rw [z0a]
        omega
      have e2:Aside (IntKind.u64.wrap (((g+1:Nat):Int) / 2)=(((g+1) / 2:Nat):Int)):=by
        have h1:=zdU (g+1)
        have h2:=A.out
        have h3:=z4C HN.out
        unfold Aside
        rw [z0a]
        omega
      generalize hG:g+1=G at *
      go_wp2
      go_roundg (G / 2)
      case measure=>omega
      case rel=>
        refine ⟨v+G,?_,?_,?_,rfl⟩
        · first | rfl | (congr 1;omega) | (rw [e2.out])
        · rw [e1.out]
        · have h1:=z3S G
          have h2:=A.out
          unfold Aside
          omega
end Go.Proofs.YtnmalbngdhjhjaaGreatDoor

namespace Go.Proofs.YtnmalbngdhjhjaaGreatDoor
open Go.RowKit
theorem z9r (p:Int) (hp:9223372036854775807≤p) (w:World):Calls Tryz.prog 92 #[.int .u64 p] w fun e w'=>e=.returned (.tuple #[SPOT 0 0,.bool false])∧Below w.heap.size w w':=by
  have c1:=z15 62 (by omega)
  rw [show (((2 ^ 62:Nat):Int))=4611686018427387904 by decide,show (((62:Nat):Int))=62 from rfl] at c1
  have hd:(9223372036854775806:Int)<p:=by omega
  go_enter Tryz.func92,Tryz.ntmps92
  go_wp2_with fail
  refine (c1 _).mono ?_
  rintro e w' ⟨rfl,rfl⟩
  clear c1
  go_wp2
  refine bodyPost_ret (v:=.tuple #[SPOT 0 0,.bool false]) ?_ rfl ⟨rfl,(Below.refl _ _).alloc (Nat.le_refl _) _⟩
  simp [results,Tryz.f92,go_sem]
theorem zcM {a b c:Nat} (h:a+b=c) (hc:c<2 ^ 64):IntKind.u64.wrap ((a:Int)+(b:Int))=(c:Int):=by rw [z0a];omega
theorem zgG {a c:Nat} (h:a+1=c) (hc:c<2 ^ 64):IntKind.u64.wrap ((a:Int)+1)=(c:Int):=by rw [z0a];omega
theorem zgH {a c:Nat} (h:c+1=a) (hc:c<2 ^ 64):IntKind.u64.wrap ((a:Int) - 1)=(c:Int):=by rw [z0a];omega
theorem zcN {a c:Nat} (h:2*a=c) (hc:c<2 ^ 64):IntKind.u64.wrap (2*(a:Int))=(c:Int):=by rw [z0a];omega
theorem zfI {a c:Nat} (h:2*c=a) (hc:c<2 ^ 64):IntKind.u64.wrap ((a:Int) / 2)=(c:Int):=by rw [z0a];omega
theorem zei {a c:Nat} (h:2*c=a):(a:Int) / 2=(c:Int):=by omega
theorem zej {g m b p z1 bz:Nat} (hg:g+1≤62) (hN:Node (g+1) m) (hb:b=z01 (m*2 ^ (g+1))) (hbp:b≤p) (hpu:p+2≤b+2 ^ (g+1+1)) (hz:2 ^ (g+1)=z1+1) (hbz:b+z1=bz) (hT:p≠b+2*z1):
    Node g (2*m)∧Node g (2*m+1)∧b=z01 (2*m*2 ^ g)∧bz=z01 ((2*m+1)*2 ^ g)∧(bz≤p→p+2≤bz+2 ^ (g+1))∧(p<bz→p+2≤b+2 ^ (g+1)):=by
  have h2:=hN.2
  have e:2 ^ (62 - g)=2 ^ (62 - (g+1))*2:=by rw [← Nat.pow_succ];congr 1;omega
  have e2:2 ^ (g+1+1)=2*(z1+1):=by rw [Nat.pow_succ,hz,Nat.mul_comm]
  refine ⟨⟨by omega,by rw [e];omega⟩,⟨by omega,by rw [e];omega⟩,by rw [hb,z0X],?_,fun h=>by omega,fun h=>by omega⟩
  rw [z3X,z0X,← hb]
  unfold TREE
  omega
theorem z3Z (h k:Nat) (hN:Node h k) (w:World):Calls Tryz.prog 92 #[.int .u64 ((PLC h k:Nat):Int)] w fun e w'=>e=.returned (.tuple #[SPOT h k,.bool true])∧Below w.heap.size w w':=by
  have hp:=hN.lt
  obtain ⟨p,hpe⟩:∃ p,p=PLC h k:=⟨_,rfl⟩
  rw [← hpe] at hp ⊢
  have HN:Aside (Node h k∧p=PLC h k∧p<9223372036854775807):=⟨hN,hpe,hp⟩
  have c1:=z15 62 (by omega)
  rw [show (((2 ^ 62:Nat):Int))=4611686018427387904 by decide,show (((62:Nat):Int))=62 from rfl] at c1
  have hd:¬ (9223372036854775806:Int)<(p:Int):=by omega
  clear hN hpe hp
  go_enter Tryz.func92,Tryz.ntmps92
  go_wp2_with fail
  refine (c1 _).mono ?_
  rintro e w' ⟨rfl,rfl⟩
  clear c1
  go_wp2
  go_loopg [4,5,6] 62 (fun g s4 s5 s6 wx=>∃ b m:Nat,s4=.int .u64 (b:Int)∧s5=.int .i64 (g:Int)∧s6=.int .u64 (m:Int)∧Aside (wx=w.alloc (.cells #[.int .u8 0,.int .u64 0] 104)∧g≤62∧b=z01 (m*2 ^ g)∧Node g m∧b≤p∧p+2≤b+2 ^ (g+1)))
  case atStart=>exact ⟨0,0,rfl,rfl,rfl,rfl,by omega,by simp [z26],⟨by omega,by simp⟩,by omega,by have:=HN.out.2.2;omega⟩
  case round=>
    obtain ⟨b,m,rfl,rfl,rfl,A⟩:=hrel
    obtain ⟨hw,hg,hb,hNm,hbp,hpu⟩:=A.out
    clear A
    have hpl:2 ^ gk≤2 ^ 62:=Nat.pow_le_pow_right (by decide) hg
    obtain ⟨z1,hz⟩:∃ z1,2 ^ gk=z1+1:=⟨2 ^ gk - 1,by have:=Nat.two_pow_pos gk;omega⟩
    have c1:=z15 gk (by omega)
    rw [hz] at c1 hpl
    have hbl:b<9223372036854775807:=by have:=HN.out.2.2;omega
    obtain ⟨u,hu⟩:∃ u,2*z1=u:=⟨_,rfl⟩
    obtain ⟨bu,hbu⟩:∃ bu,b+u=bu:=⟨_,rfl⟩
    have e1:IntKind.u64.wrap (((z1+1:Nat):Int) - 1)=(z1:Int):=zgH rfl (by omega)
    have e1':IntKind.u64.wrap (z1:Int)=(z1:Int):=by rw [z0a];omega
    rw [show ((z1+1:Nat):Int)=(z1:Int)+1 by omega] at c1 e1
    have e2:IntKind.u64.wrap (2*(z1:Int))=(u:Int):=zcN hu (by omega)
    have e3:IntKind.u64.wrap ((b:Int)+(u:Int))=(bu:Int):=zcM hbu (by omega)
    by_cases hT:p=bu
    · have hmk:h=gk∧k=m:=by
        refine HN.out.1.one hNm ?_
        rw [← HN.out.2.1]
        unfold PLC
        rw [hz] at hb
        rw [Nat.pow_succ,hz,← hb]
        omega
      obtain ⟨rfl,rfl⟩:=hmk
      have hT':((p:Int) == (bu:Int))=true:=by simp;omega
      have hh:(h:Int) % 256=(h:Int):=by omega
      clear hg hb hNm hbp hpu HN hpl hbl hz hu hbu hT
      subst hw
      go_wp2_with fail
      refine (c1 _).mono ?_
      rintro e w' ⟨rfl,rfl⟩
      clear c1
      go_wp2
      refine bodyPost_ret (v:=.tuple #[SPOT h k,.bool true]) ?_ rfl ⟨rfl,(Below.refl _ _).alloc (Nat.le_refl _) _⟩
      simp [results,Tryz.f92,go_sem]
    · have hT':((p:Int) == (bu:Int))=false:=by simp;omega
      have h1:1≤gk:=by
        rcases Nat.eq_zero_or_pos gk with h0 | h0
        · subst h0
          simp at hz
          omega
        · exact h0
      obtain ⟨g,rfl⟩:∃ g,gk=g+1:=⟨gk - 1,by omega⟩
      have hm62:=hNm.index_lt
      obtain ⟨bz,hbz⟩:∃ bz,b+z1=bz:=⟨_,rfl⟩
      obtain ⟨m2,hm2⟩:∃ m2,2*m=m2:=⟨_,rfl⟩
      obtain ⟨m3,hm3⟩:∃ m3,m2+1=m3:=⟨_,rfl⟩
      have RR:=zej hg hNm hb hbp hpu hz hbz (by omega)
      rw [hm2,hm3] at RR
      have e4:IntKind.u64.wrap (2*(m:Int))=(m2:Int):=zcN hm2 (by omega)
      have e5:IntKind.u64.wrap ((u:Int) / 2)=(z1:Int):=zfI hu (by omega)
      have e5':(u:Int) / 2=(z1:Int):=zei hu
      have e6:wrap64 (g:Int)=(g:Int):=by unfold wrap64;omega
      have e7:IntKind.u64.wrap ((b:Int)+(z1:Int))=(bz:Int):=zcM hbz (by omega)
      have e8:IntKind.u64.wrap ((m2:Int)+1)=(m3:Int):=zgG hm3 (by omega)
      have R:Aside (wr=w.alloc (.cells #[.int .u8 0,.int .u64 0] 104)∧g+1≤62∧b≤p∧Node g m2∧Node g m3∧b=z01 (m2*2 ^ g)∧bz=z01 (m3*2 ^ g)∧(bz≤p→p+2≤bz+2 ^ (g+1))∧(p<bz→p+2≤b+2 ^ (g+1))):=⟨hw,hg,hbp,RR⟩
      rw [show (((g+1:Nat):Int))=(g:Int)+1 by omega] at c1 ⊢
      clear RR hw hg hNm hbp hb hpu hT hz hbz hbu hu HN hpl hbl h1 hm62 hm2 hm3 hd
      by_cases hlt:bz≤p
      · have hd3:(bz:Int)≤(p:Int):=by omega
        have R2:Aside (bz≤p):=hlt
        clear hlt
        go_wp2_with fail
        refine (c1 _).mono ?_
        rintro e w' ⟨rfl,rfl⟩
        clear c1
        go_wp2
        go_roundg g
        case measure=>omega
        case rel=>
          obtain ⟨r1,r2,r3,r4,r5,r6,r7,r8,r9⟩:=R.out
          have s1:=R2.out
          rw [e6]
          exact ⟨bz,m3,rfl,rfl,rfl,r1,by omega,r7,r5,s1,r8 s1⟩
      · have hd3:¬ (bz:Int)≤(p:Int):=by omega
        have R2:Aside (p<bz):=by unfold Aside;omega
        clear hlt
        go_wp2_with fail
        refine (c1 _).mono ?_
        rintro e w' ⟨rfl,rfl⟩
        clear c1
        go_wp2
        go_roundg g
        case measure=>omega
        case rel=>
          obtain ⟨r1,r2,r3,r4,r5,r6,r7,r8,r9⟩:=R.out
          have s1:=R2.out
          rw [e6]
          exact ⟨b,m2,rfl,rfl,rfl,r1,by omega,r6,r4,r3,r9 s1⟩
end Go.Proofs.YtnmalbngdhjhjaaGreatDoor

namespace Go.Proofs.YtnmalbngdhjhjaaGreatDoor
open Go.RowKit
def RefAt (p:Int) (h k:Nat) (ok:Bool):Prop:=∀ w,Calls Tryz.prog 92 #[.int .u64 p] w fun e w'=>e=.returned (.tuple #[SPOT h k,.bool ok])∧Below w.heap.size w w'
theorem RefAt.node {h k:Nat} (hN:Node h k):RefAt ((PLC h k:Nat):Int) h k true:=fun w=>z3Z h k hN w
theorem RefAt.out {p:Int} (hp:9223372036854775807≤p):RefAt p 0 0 false:=fun w=>z9r p hp w
theorem z8l (h k:Nat) (t z y l a r:Int) (w:World) (hh:h≤62) (hm:wrap64 (h:Int)=(h:Int)) (hm2:IntKind.u64.wrap (h:Int)=(h:Int)) (ht:wrap64 (62 - (h:Int))=t) (hk:decide (y≤(k:Int))=false)
    (cy:∀ w,Calls Tryz.prog 104 #[.int .i64 t] w fun e w'=>e=.returned (.int .u64 y)∧w=w') (cz:∀ w,Calls Tryz.prog 104 #[.int .i64 (h:Int)] w fun e w'=>e=.returned (.int .u64 z)∧w=w')
    (e0:IntKind.u64.wrap ((k:Int)+1)=(k:Int)+1) (e1:IntKind.u64.wrap (IntKind.u64.wrap (((k:Int)+1)*z) - 1)=l) (ca:∀ w,Calls Tryz.prog 107 #[.int .u64 l] w fun e w'=>e=.returned (.tuple #[.int .u64 a,.bool true])∧w=w') (e2:IntKind.u64.wrap (a+(h:Int))=r):
    Calls Tryz.prog 60 #[SPOT h k] w fun e w'=>e=.returned (.tuple #[.int .u64 r,.bool true])∧Below w.heap.size w w':=by
  have hd:decide ((62:Int)<(h:Int))=false:=by simp;omega
  go_enter Tryz.func60,Tryz.ntmps60
  go_wp2
  have hc0:(w.alloc (.cells #[.int .u8 (h:Int),.int .u64 (k:Int)] 104)).cell? ⟨w.heap.size,0,none⟩=some (.int .u8 (h:Int)):=by simp
  have hc1:(w.alloc (.cells #[.int .u8 (h:Int),.int .u64 (k:Int)] 104)).cell? ⟨w.heap.size,1,none⟩=some (.int .u64 (k:Int)):=by simp
  have R2:Aside (Below w.heap.size w (w.alloc (.cells #[.int .u8 (h:Int),.int .u64 (k:Int)] 104))):=(Below.refl _ _).alloc (Nat.le_refl _) _
  generalize w.alloc (.cells #[.int .u8 (h:Int),.int .u64 (k:Int)] 104)=W at *
  generalize hb:w.heap.size=b at *
  clear hh
  go_quiet ((go_at_call 104;exact z0y (cy _)))
  have R3:Aside (Below b w (W.drewN nq)):=below_drewN R2.out nq
  have hc0':(W.drewN nq).cell? ⟨b,0,none⟩=some (.int .u8 (h:Int)):=hc0
  have hc1':(W.drewN nq).cell? ⟨b,1,none⟩=some (.int .u64 (k:Int)):=hc1
  clear hc0 hc1 R2 cy
  generalize W.drewN nq=W2 at *
  go_wp2
  go_quiet (first | (go_at_call 104;exact z0y (cz _)) | (go_at_call 107;exact z0y (ca _)))
  go_wp2
  go_ret2
  exact ⟨rfl,by rw [hb];exact below_drewN R3.out _⟩
theorem z67 (p:Int) (h k k1:Nat) (r:Int) (w:World) (hh:((h:Int) == 62)=false) (e1:IntKind.u64.wrap ((k:Int)+1)=(k1:Int)) (ha:((k:Int) % 2 == 1)=false) (cs:RefAt p h k true)
    (cp:∀ w,Calls Tryz.prog 60 #[SPOT h k1] w fun e w'=>e=.returned (.tuple #[.int .u64 r,.bool true])∧Below w.heap.size w w'):
    Calls Tryz.prog 93 #[.int .u64 p] w fun e w'=>e=.returned (.tuple #[.int .u64 r,.bool true])∧Below w.heap.size w w':=by
  have cs:=cs w
  go_enter Tryz.func93,Tryz.ntmps93
  go_wp2_with fail
  refine cs.mono ?_
  rintro e w1 ⟨rfl,hb⟩
  clear cs
  have R:Aside (Below w.heap.size w w1):=hb
  clear hb
  go_wp2_with fail
  refine (cp _).mono ?_
  rintro e w2 ⟨rfl,hb2⟩
  have R2:Aside (Below w.heap.size w w2):=(R.out.alloc R.out.size _).trans (hb2.mono (by have:=R.out.size;simp;omega))
  clear cp hb2 R
  go_wp2
  go_ret2
  exact ⟨rfl,R2.out⟩
theorem z5v (p:Int) (h k k1:Nat) (r:Int) (w:World) (hh:((h:Int) == 62)=false) (e1:IntKind.u64.wrap ((k:Int) - 1)=(k1:Int)) (ha:((k:Int) % 2 == 1)=true) (cs:RefAt p h k true)
    (cp:∀ w,Calls Tryz.prog 60 #[SPOT h k1] w fun e w'=>e=.returned (.tuple #[.int .u64 r,.bool true])∧Below w.heap.size w w'):
    Calls Tryz.prog 93 #[.int .u64 p] w fun e w'=>e=.returned (.tuple #[.int .u64 r,.bool true])∧Below w.heap.size w w':=by
  have cs:=cs w
  go_enter Tryz.func93,Tryz.ntmps93
  go_wp2_with fail
  refine cs.mono ?_
  rintro e w1 ⟨rfl,hb⟩
  clear cs
  have R:Aside (Below w.heap.size w w1):=hb
  clear hb
  go_wp2_with fail
  refine (cp _).mono ?_
  rintro e w2 ⟨rfl,hb2⟩
  have R2:Aside (Below w.heap.size w w2):=(R.out.alloc R.out.size _).trans (hb2.mono (by have:=R.out.size;simp;omega))
  clear cp hb2 R
  go_wp2
  go_ret2
  exact ⟨rfl,R2.out⟩
theorem zan (k:Nat):((k:Int) % 2 == 1)=decide (k % 2=1):=by
  rw [Bool.eq_iff_iff]
  simp
  omega
theorem z3p (h k:Nat) (hN:Node h k) (w:World):Calls Tryz.prog 60 #[SPOT h k] w fun e w'=>e=.returned (.tuple #[.int .u64 ((PLC h k:Nat):Int),.bool true])∧Below w.heap.size w w':=by
  have h1:=hN.1
  have h2:=hN.2
  have h3:=hN.span
  have h4:=hN.index_lt
  have h5:=hN.lt
  have h7:=z5p h k
  have h8:=z6x h k
  refine z8l h k ((62 - h:Nat):Int) ((2 ^ h:Nat):Int) ((2 ^ (62 - h):Nat):Int) (((k+1)*2 ^ h - 1:Nat):Int) ((z01 ((k+1)*2 ^ h - 1):Nat):Int) _ w h1 (by unfold wrap64;omega) (by rw [z0a];omega) (by unfold wrap64;omega) (by simp only [decide_eq_false_iff_not];omega) (fun w=>z15 _ (by omega) w) (fun w=>z15 _ (by omega) w) (by rw [z0a];omega) ?_ (fun w=>z9q _ (by omega) w) ?_
  · rw [show (((k:Int)+1)*((2 ^ h:Nat):Int))=(((k+1)*2 ^ h:Nat):Int) by rw [Int.natCast_mul];rfl]
    generalize (k+1)*2 ^ h=x at *
    rw [z0a,z0a]
    omega
  · rw [z0a]
    omega
theorem z7s (h k:Nat) (hN:Node h k) (hh:h<62) (w:World):Calls Tryz.prog 93 #[.int .u64 ((PLC h k:Nat):Int)] w fun e w'=>e=.returned (.tuple #[.int .u64 ((PLC h (SIB k):Nat):Int),.bool true])∧Below w.heap.size w w':=by
  have hs:=hN.sib hh
  have hi:=hN.index_lt
  by_cases hk:k % 2=1
  · have e:SIB k=k - 1:=by unfold SIB;rw [if_pos hk]
    rw [e] at hs ⊢
    exact z5v _ h k (k - 1) _ w (by simp;omega) (by rw [z0a];omega) (by rw [zan,decide_eq_true hk]) (.node hN) (fun w=>z3p _ _ hs w)
  · have e:SIB k=k+1:=by unfold SIB;rw [if_neg hk]
    rw [e] at hs ⊢
    exact z67 _ h k (k+1) _ w (by simp;omega) (by rw [z0a];omega) (by rw [zan,decide_eq_false hk]) (.node hN) (fun w=>z3p _ _ hs w)
end Go.Proofs.YtnmalbngdhjhjaaGreatDoor

namespace Go.Proofs.YtnmalbngdhjhjaaGreatDoor
open Go.RowKit Go.Shelf
attribute [local go_sem] Oper.semAt_some
def UPTO {α:Type} (f:Nat→α) (k:Nat):List α:=(List.range k).map f
theorem z77 {α:Type} (f:Nat→α) (k:Nat):UPTO f (k+1)=UPTO f k ++ [f k]:=by simp [UPTO,List.range_succ]
theorem z57 {α:Type} (f:Nat→α) (k:Nat):(UPTO f k).length=k:=by simp [UPTO]
def KB (n₀ Bs:Nat) (A B:World):Prop:=Below n₀ A B∧B.cell? ⟨Bs,0,none⟩=A.cell? ⟨Bs,0,none⟩
theorem KB.t {n₀ Bs:Nat} {A B C:World} (h:KB n₀ Bs A B) (k:KB n₀ Bs B C):KB n₀ Bs A C:=⟨h.1.trans k.1,k.2.trans h.2⟩
theorem KB.b {n₀ Bs:Nat} {w:World} (hn:n₀≤w.heap.size) (hB:Bs<w.heap.size) (W:World) (l:Nat) (o o':Obj) (hl:w.heap.size≤l) (h:W.heap[l]?=some o) (h1:o.isCells=false) (h2:o.isWalk=false):KB n₀ Bs W (W.putObj l o'):=
  ⟨belowK_b hn W l o o' hl h h1 h2,(belowK_b (Nat.le_refl w.heap.size) W l o o' hl h h1 h2).cell (p:=⟨Bs,0,none⟩) hB⟩
def BACK (len:Nat) (f:Nat→Fin 64) (j:Nat):Nat × Fin 64:=(len - 1 - j,f (len - 1 - j))
set_option maxRecDepth 100000 in
set_option maxHeartbeats 2000000 in
theorem z8m (F:Fence) (n:Nat) (hF:F.fn 219) (hro:F.round=none) (hn:1≤n) (l Bs n₀ b len cap:Nat) (f:Nat→Fin 64) (hreach:len≤64) (hb:b<n₀) (J Jx:List (Nat × Fin 64)→World→Prop)
    (hY:∀ pre x W,J pre W→pre.length<len→YieldAt F (n - 1) Tryz.prog l #[.int .i64 (x.1:Int),.int .i64 (x.2.val:Int)] W fun e W'=>
      (e=.returned (.bool true)∧J (pre ++ [x]) W'∧KB n₀ Bs W W')∨(e=.returned (.bool false)∧Jx (pre ++ [x]) W'))
    (W:World) (hBs:W.cell? ⟨Bs,0,none⟩=some (.slice (some ⟨b,0,none⟩) len cap)) (hc:∀ j,j<len→W.cell? ⟨b,j,none⟩=some (.int .i64 ((f j).val:Int))) (h0:J [] W):
    CallsIn F n Tryz.prog 219 #[.func (.yield l) #[] #[],.pointer (some ⟨Bs,0,none⟩)] W fun e W'=>(∃ v,e=.returned v)∧
      ((∃ ys,ys=UPTO (BACK len f) len∧J ys W')∨(∃ pre,(∃ k,k≤len∧pre=UPTO (BACK len f) k)∧Jx pre W')):=by
  refine callsIn_of_wp Tryz.func219 rfl hF ?_ hro
  simp only [Tryz.ntmps219,List.size_toArray,List.length_cons,List.length_nil,Nat.reduceAdd,Nat.reduceSub,Array.replicate_succ,Array.replicate_zero,List.push_toArray,List.append_toArray,List.nil_append,List.cons_append]
  have e1:wrap64 ((len:Int) - 1)=(len:Int) - 1:=by unfold wrap64;omega
  gi_wp2
  gi_loopw [3] (fun i wr=>∃ k:Nat,k≤len∧i=.int .i64 ((len:Int) - 1 - (k:Int))∧J (UPTO (BACK len f) k) wr∧KB n₀ Bs W wr)
    (fun i _=>(intOf i+1).toNat)
  case atStart=>exact ⟨0,Nat.zero_le _,by simp,h0,Below.refl _ _,rfl⟩
  case round=>
    obtain ⟨k,hk,rfl,hJs,hnx⟩:=hrel
    by_cases hlt:k<len
    · obtain ⟨j,hj⟩:∃ j:Nat,(len:Int) - 1 - (k:Int)=(j:Int):=⟨len - 1 - k,by omega⟩
      have hjl:j<len:=by omega
      have hbk:BACK len f k=(j,f j):=by
        unfold BACK
        rw [show len - 1 - k=j by omega]
      have hcx:wr.cell? ⟨b,j,none⟩=some (.int .i64 ((f j).val:Int)):=(hnx.1.cell (p:=⟨b,j,none⟩) hb).trans (hc j hjl)
      have hcs:wr.cell? ⟨Bs,0,none⟩=some (.slice (some ⟨b,0,none⟩) len cap):=hnx.2.trans hBs
      obtain ⟨fn,tmps,assign,body,hy,hR⟩:=hY _ (j,f j) wr hJs (by rw [z57];exact hlt)
      dsimp only at hy
      rw [hj]
      have e2:wrap64 ((j:Int) - 1)=(j:Int) - 1:=by unfold wrap64;omega
      have hJ':Aside ((len:Int) - 1 - (k:Int)=(j:Int)):=hj
      have hjl':(j:Int)<(len:Int):=by omega
      clear hj
      gi_wp2
      refine hR.mono ?_
      rintro e W3 (⟨rfl,hJ3,hk3⟩ | ⟨rfl,hJx3⟩)
      · gi_wp2
        go_roundw
        case rel=>exact ⟨k+1,by omega,by have:=hJ'.out;congr 1;omega,by rw [z77,hbk];exact hJ3,hnx.t hk3⟩
        case measure=>simp [intOf]
      · gi_wp2
        refine bodyPost_ret (results_none rfl _ _ _) rfl ?_
        exact ⟨⟨_,rfl⟩,.inr ⟨_,⟨k+1,by omega,by rw [z77,hbk]⟩,hJx3⟩⟩
    · obtain rfl:k=len:=by omega
      rw [show (k:Int) - 1 - (k:Int) = -1 by omega]
      gi_wp2
      go_end0
      exact ⟨⟨_,rfl⟩,.inl ⟨_,rfl,hJs⟩⟩
set_option maxHeartbeats 1000000 in
theorem z9s (F:Fence) (n:Nat) (hF:F.fn 178) (hro:F.round=none) (a:Option Addr) (len cap:Nat) (w:World):
    CallsIn F n Tryz.prog 178 #[.slice a len cap] w fun e w'=>e=.returned (.func (.func 219) #[] #[.pointer (some ⟨w.heap.size,0,none⟩)])∧w'=w.alloc (.cells #[.slice a len cap] 220):=by
  refine callsIn_of_wp Tryz.func178 rfl hF ?_ hro
  simp only [Tryz.ntmps178,List.size_toArray,List.length_cons,List.length_nil,Nat.reduceAdd,Nat.reduceSub,Array.replicate_succ,Array.replicate_zero,List.push_toArray,List.append_toArray,List.nil_append,List.cons_append]
  gi_wp2
  go_ret
  exact ⟨rfl,rfl⟩
theorem z6C (F:Fence) (n:Nat) (hF:F.fn 219) (hro:F.round=none) (hn:1≤n) (Bs n₀ b len cap:Nat) (f:Nat→Fin 64) (hreach:len≤64) (hb:b<n₀) (w:World) (hBs:Bs<w.heap.size) (hn₀:n₀≤w.heap.size)
    (hc:w.cell? ⟨Bs,0,none⟩=some (.slice (some ⟨b,0,none⟩) len cap)) (hI:∀ j,j<len→w.cell? ⟨b,j,none⟩=some (.int .i64 ((f j).val:Int))):
    SeqStopsK F n Tryz.prog 219 #[.pointer (some ⟨Bs,0,none⟩)] (fun x:Nat × Fin 64=>#[Value.int .i64 (x.1:Int),Value.int .i64 (x.2.val:Int)]) (KB n₀ Bs) (fun ys=>ys=UPTO (BACK len f) len)
      (fun pre=>∃ k,k≤len∧pre=UPTO (BACK len f) k) len w:=fun l J Jx W hW _ _ hY h0=>
  z8m F n hF hro hn l Bs n₀ b len cap f hreach hb J Jx hY W ((hW.cell (p:=⟨Bs,0,none⟩) hBs).trans hc) (fun j hj=>(hW.cell (p:=⟨b,j,none⟩) (by show b<_;omega)).trans (hI j hj)) h0
end Go.Proofs.YtnmalbngdhjhjaaGreatDoor
