/- Texts of ManyAccepts, one behind the other: NumShortCalls, CutPlain, PosCoversPlain, CutTopsPlain, ProofPlain, PosRef, PosRefSpot, PosRefKin, PosPath, PosSpotRow, PosTops, PosRefPeaks, PosRefPeak, PosHas, PosRefPath, PosAwake. -/
import Derived.Deep.AppendLies
import Derived.Test.YtjkjlblongeljaaGreatDoorProg
import Derived.WalkKit
import Derived.WalkLawsBesides
import Derived.Deep.WholeRow
import Derived.Deep.LoopGhost
import Derived.Laws.ResultCell
import Derived.Laws.Rows
import Derived.Laws.Tables
import Derived.Test.YtjkjlblongeljaaGreatDoorManyAcceptsP9
namespace Go.Proofs.YtjkjlblongeljaaGreatDoor
open Go.RowKit
def z1f (X j:Nat):List Int:=(List.range j).map fun i=>((X / 128 ^ i % 128+128:Nat):Int)
theorem z8G (X j:Nat):z1f X (j+1)=z1f X j ++ [((X / 128 ^ j % 128+128:Nat):Int)]:=by simp [z1f,List.range_succ]
theorem z1R (X j:Nat):(z1f X j).length=j:=by simp [z1f]
def TOPG (X:Nat):Nat→Nat
  | 0=>0
  | k+1=>if X<128 then 0 else TOPG (X / 128) k+1
def NTOP (X:Nat):Nat:=TOPG X 9
def z0k (X:Nat):List Int:=z1f X (NTOP X) ++ [((X / 128 ^ NTOP X:Nat):Int)]
theorem z0n (X:Nat):(z0k X).length=NTOP X+1:=by simp [z0k,z1R]
theorem z9z:∀ (k X:Nat),TOPG X k≤k
  | 0,_=>Nat.le_refl _
  | k + 1,X=>by
    unfold TOPG
    split
    · omega
    · have:=z9z k (X / 128)
      omega
theorem z3L:∀ (k X j:Nat),j<TOPG X k→128≤X / 128 ^ j
  | 0,_,_,h=>by simp [TOPG] at h
  | k + 1,X,j,h=>by
    unfold TOPG at h
    split at h
    · omega
    · cases j with
      | zero=>simp;omega
      | succ j=>
        have:=z3L k (X / 128) j (by omega)
        rw [Nat.div_div_eq_div_mul,Nat.mul_comm,← Nat.pow_succ] at this
        exact this
theorem z9A:∀ (k X:Nat),X<128 ^ (k+1)→X / 128 ^ TOPG X k<128
  | 0,X,h=>by simpa [TOPG] using h
  | k + 1,X,h=>by
    unfold TOPG
    split
    · simpa using ‹X<128›
    · have:=z9A k (X / 128) (by rw [Nat.pow_succ] at h;exact Nat.div_lt_of_lt_mul (by omega))
      rw [Nat.div_div_eq_div_mul,Nat.mul_comm,← Nat.pow_succ] at this
      exact this
theorem z2n (X:Nat):NTOP X≤9:=z9z 9 X
theorem z67 {X:Nat} (hX:X<2 ^ 64):X / 128 ^ NTOP X<128:=z9A 9 X (Nat.lt_of_lt_of_le hX (by decide))
theorem z9B {X:Nat} (hX:X<2 ^ 64) {j:Nat} (hj:∀ i,i<j→128≤X / 128 ^ i) (h:X / 128 ^ j<128):NTOP X=j:=by
  rcases Nat.lt_trichotomy (NTOP X) j with h1 | h1 | h1
  · have:=hj _ h1
    have:=z67 hX
    omega
  · exact h1
  · have:=z3L 9 X j h1
    omega
theorem zdx (X:Nat) {i j:Nat} (h:i≤j):X / 128 ^ j≤X / 128 ^ i:=Nat.div_le_div_left (Nat.pow_le_pow_right (by decide) h) (Nat.pow_pos (by decide))
theorem z7H (X j:Nat):∀ x∈z1f X j,0≤x∧x≤255:=fun x hx=>by
  simp only [z1f,List.mem_map] at hx
  obtain ⟨i,_,rfl⟩:=hx
  omega
theorem z1v {X:Nat} (hX:X<2 ^ 64):∀ x∈z0k X,0≤x∧x≤255:=fun x hx=>by
  simp only [z0k,List.mem_append,List.mem_singleton] at hx
  rcases hx with hx | rfl
  · exact z7H X _ x hx
  · have:=z67 hX
    generalize X / 128 ^ NTOP X=y at *
    omega
theorem z6F (w:World) (v:Int) (h0:0≤v) (h1:v≤255):Bytes (w.alloc (.cells #[.int .u8 v] 5)) (some ⟨w.heap.size,0,none⟩) 1 [v]:=by
  refine ⟨rfl,fun _=>⟨w.heap.size,0,rfl,by simp,fun i hi=>?_⟩,fun x hx=>by simp at hx;omega⟩
  obtain rfl:i=0:=by omega
  rw [Nat.zero_add,World.cell?_alloc_at _ _ _ _ rfl]
  rfl
theorem zdy (w:World) (base:Nat) (hb:base≤w.heap.size) (cur:Array Value) (cap:Nat) (hm:cap≤1000) (hs:cur.size=cap):(w.alloc (.cells cur 5)).ownsRow base 5 1 (.slice (some ⟨w.heap.size,0,none⟩) 0 cap) 0 (z00 []):=
  World.ownsRow_made w cur cap hb (by simp only [maxLen];omega) (by omega)
set_option maxHeartbeats 1000000 in
theorem z5a (X:Nat) (hX:X<2 ^ 64) (w:World):Calls Tryz.prog 83 #[.int .u64 (X:Int)] w fun e w'=>
    ∃ g cap,e=.returned (.slice (some ⟨g,0,none⟩) (NTOP X+1) cap)∧w'.ownsRow w.heap.size 5 1 (.slice (some ⟨g,0,none⟩) (NTOP X+1) cap) (NTOP X+1) (z00 (z0k X))∧g<w'.heap.size∧Below w.heap.size w w':=by
  have hmk:∀ w:World,(Instr.makeSlice 53 (.int .i64 0) (.int .i64 10)).run Tryz.prog w=.ok (.slice (some ⟨w.heap.size,0,none⟩) 0 10) (w.alloc (.cells #[.int .u8 0,.int .u8 0,.int .u8 0,.int .u8 0,.int .u8 0,.int .u8 0,.int .u8 0,.int .u8 0,.int .u8 0,.int .u8 0] 5)):=fun _=>by kernel_rfl
  have HX:Aside (X<2 ^ 64):=hX
  clear hX
  go_enter Tryz.func83,Tryz.ntmps83
  go_wp2
  go_loopg [0,3] 10 (fun g s0 s3 wx=>∃ (j x:Nat),j+g=10∧Aside (x=X / 128 ^ j∧(∀ i,i<j→128≤X / 128 ^ i)∧wx.ownsRow w.heap.size 5 1 s3 j (z00 (z1f X j))∧Below w.heap.size w wx)∧s0=.int .u64 (x:Int))
  case atStart=>exact ⟨0,X,by omega,⟨by simp,fun i hi=>by omega,zdy w _ (Nat.le_refl _) _ 10 (by decide) rfl,(Below.refl _ _).alloc (Nat.le_refl _) _⟩,rfl⟩
  case round=>
    obtain ⟨j,x,hjg,A,rfl⟩:=hrel
    by_cases hx:128≤(x:Int)
    · go_wp2_with (at_builtin;refine z1C _ rfl (.tmp 9) (.tmp 14) rfl w.heap.size u3 j (z1f X j) rfl (A.out.2.2.1.alloc _) wr.heap.size 0 1 1 [(x:Int) % 128+128] rfl (z6F wr _ (by omega) (by omega)) (by omega) (by omega) (by have:=A.out.2.2.2.size;simp;omega) ?_;intro g cap w1 hown hgrow hg)
      have R:(x / 128=X / 128 ^ (j+1))∧(∀ i,i<j+1→128≤X / 128 ^ i)∧w1.ownsRow w.heap.size 5 1 (.slice (some ⟨g,0,none⟩) (j+1) cap) (j+1) (z00 (z1f X (j+1)))∧Below w.heap.size w w1:=by
        obtain ⟨hxe,hall,hown0,hb⟩:=A.out
        refine ⟨by rw [hxe,Nat.div_div_eq_div_mul,← Nat.pow_succ],fun i hi=>?_,?_,?_⟩
        · by_cases e:i=j
          · rw [e,← hxe];omega
          · exact hall i (by omega)
        · rw [z8G,show ((X / 128 ^ j % 128+128:Nat):Int)=(x:Int) % 128+128 by rw [← hxe];omega]
          exact hown
        · exact (hb.alloc hb.size _).grown hgrow (by have:=hb.size;simp;omega) (fun k e=>(hown0.lt k e).1)
      have HR:Aside ((x / 128=X / 128 ^ (j+1))∧(∀ i,i<j+1→128≤X / 128 ^ i)∧w1.ownsRow w.heap.size 5 1 (.slice (some ⟨g,0,none⟩) (j+1) cap) (j+1) (z00 (z1f X (j+1)))∧Below w.heap.size w w1):=R
      have hj9:j<9:=by
        obtain ⟨hxe,hall,_,_⟩:=A.out
        rcases Nat.lt_or_ge j 9 with h | h
        · exact h
        · have h1:=zdx X h
          have h2:X / 128 ^ 9<2:=Nat.div_lt_of_lt_mul (Nat.lt_of_lt_of_le HX.out (by decide))
          omega
      clear hown hgrow hg R A
      go_wp2
      go_roundg (gk - 1)
      case measure=>omega
      case rel=>exact ⟨j+1,x / 128,by omega,HR,by first | rfl | go_num⟩
    · go_wp2_with (at_builtin;refine z1C _ rfl (.tmp 16) (.tmp 19) rfl w.heap.size u3 j (z1f X j) rfl (A.out.2.2.1.alloc _) wr.heap.size 0 1 1 [(x:Int)] rfl (z6F wr _ (by omega) (by omega)) (by omega) (by omega) (by have:=A.out.2.2.2.size;simp;omega) ?_;intro g cap w1 hown hgrow hg)
      obtain ⟨hxe,hall,hown0,hb⟩:=A.out
      have hN:NTOP X=j:=z9B HX.out hall (by rw [← hxe];omega)
      have R:w1.ownsRow w.heap.size 5 1 (.slice (some ⟨g,0,none⟩) (NTOP X+1) cap) (NTOP X+1) (z00 (z0k X))∧g<w1.heap.size∧Below w.heap.size w w1:=by
        refine ⟨?_,hg,(hb.alloc hb.size _).grown hgrow (by have:=hb.size;simp;omega) (fun k e=>(hown0.lt k e).1)⟩
        unfold z0k
        rw [hN,← hxe]
        exact hown
      have HR:Aside (w1.ownsRow w.heap.size 5 1 (.slice (some ⟨g,0,none⟩) (NTOP X+1) cap) (NTOP X+1) (z00 (z0k X))∧g<w1.heap.size∧Below w.heap.size w w1):=R
      have HN:Aside (NTOP X=j):=hN
      clear hown hgrow hg R A hxe hall hown0 hb hN
      go_wp2
      go_ret
      obtain ⟨h1,h2,h3⟩:=HR.out
      refine ⟨g,cap,?_,h1,h2,h3⟩
      rw [HN.out]
      rfl
end Go.Proofs.YtjkjlblongeljaaGreatDoor

namespace Go.Proofs.YtjkjlblongeljaaGreatDoor
abbrev Fit (a h b:Nat):Prop:=a % 2 ^ h=0∧a+2 ^ h≤b
theorem Fit.down {a h b:Nat} (f:Fit a (h+1) b):Fit a h b:=by
  have h1:2 ^ (h+1)=2 ^ h*2:=Nat.pow_succ 2 h
  have h2:=f.2
  refine ⟨?_,by omega⟩
  have h3:=f.1
  have h4:2 ^ h ∣ 2 ^ (h+1):=⟨2,h1⟩
  exact Nat.mod_eq_zero_of_dvd (Nat.dvd_trans h4 (Nat.dvd_of_mod_eq_zero h3))
theorem Fit.le {a g b:Nat}:∀ h,h≤g→Fit a g b→Fit a h b:=by
  intro h hg f
  induction g with
  | zero => obtain rfl:h=0:=by omega
            exact f
  | succ g ih=>
    rcases Nat.lt_or_ge h (g+1) with h1 | h1
    · exact ih (by omega) f.down
    · obtain rfl:h=g+1:=by omega
      exact f
theorem Fit.zero {a b:Nat} (h:a<b):Fit a 0 b:=⟨Nat.mod_one a,by simp;omega⟩
def HTF:Nat→Nat→Nat→Nat
  | 0,_,_=>0
  | f+1,a,b=>if Fit a (f+1) b then f+1 else HTF f a b
def HT (a b:Nat):Nat:=HTF 62 a b
theorem zdz {a b:Nat} (hab:a<b):∀ f,¬ Fit a (f+1) b→HTF f a b≤f∧Fit a (HTF f a b) b∧¬ Fit a (HTF f a b+1) b:=by
  intro f
  induction f with
  | zero=>intro h;exact ⟨Nat.le_refl _,Fit.zero hab,h⟩
  | succ f ih=>
    intro h
    unfold HTF
    split
    · rename_i h1
      exact ⟨Nat.le_refl _,h1,h⟩
    · rename_i h1
      have:=ih h1
      exact ⟨by omega,this.2⟩
theorem zeR {a b:Nat} (hab:a<b) (hb:b≤4611686018427387904):HT a b≤62∧Fit a (HT a b) b∧¬ Fit a (HT a b+1) b:=by
  refine zdz hab 62 ?_
  intro h
  have:=h.2
  simp at this
  omega
theorem z9C {a b h:Nat} (hab:a<b) (hb:b≤4611686018427387904) (h1:Fit a h b) (h2:¬ Fit a (h+1) b):h=HT a b:=by
  obtain ⟨_,a1,a2⟩:=zeR hab hb
  rcases Nat.lt_trichotomy h (HT a b) with c | c | c
  · exact absurd (a1.le (h+1) (by omega)) h2
  · exact c
  · exact absurd (h1.le (HT a b+1) (by omega)) a2
def z3M:Nat→Nat→Nat→List (Nat × Nat)
  | 0,_,_=>[]
  | f+1,a,b=>if a<b then (HT a b,a / 2 ^ HT a b) :: z3M f (a+2 ^ HT a b) b else []
def SPAN (a b:Nat):List (Nat × Nat):=z3M (b - a) a b
theorem zaB:∀ f g a b,b - a≤f→b - a≤g→z3M f a b=z3M g a b:=by
  intro f
  induction f with
  | zero=>
    intro g a b h1 h2
    cases g with
    | zero=>rfl
    | succ g=>simp [z3M];omega
  | succ f ih=>
    intro g a b h1 h2
    cases g with
    | zero=>simp [z3M];omega
    | succ g=>
      unfold z3M
      have:=Nat.two_pow_pos (HT a b)
      rw [ih g (a+2 ^ HT a b) b (by omega) (by omega)]
theorem zdA {a b:Nat} (h:b≤a):SPAN a b=[]:=by
  unfold SPAN
  rw [show b - a=0 by omega]
  rfl
theorem z6G {a b:Nat} (h:a<b):SPAN a b=(HT a b,a / 2 ^ HT a b) :: SPAN (a+2 ^ HT a b) b:=by
  unfold SPAN
  obtain ⟨f,hf⟩:∃ f,b - a=f+1:=⟨b - a - 1,by omega⟩
  have:=Nat.two_pow_pos (HT a b)
  rw [hf]
  show (if a<b then _ else _)=_
  rw [if_pos h]
  congr 1
  exact zaB _ _ _ _ (by omega) (by omega)
def Tile:Nat→List (Nat × Nat)→Nat→Prop
  | a,[],b=>a=b
  | a,s :: l,b=>Node s.1 s.2∧s.2*2 ^ s.1=a∧Tile ((s.2+1)*2 ^ s.1) l b
abbrev Sibs (x y:Nat × Nat):Prop:=x.1=y.1∧x.2 % 2=0∧y.2=x.2+1
def Irr:List (Nat × Nat)→Prop
  | []=>True
  | x :: l=>(∀ y,l.head?=some y→¬ Sibs x y)∧Irr l
theorem Fit.node {a h b:Nat} (f:Fit a h b) (hh:h≤62) (hb:b≤4611686018427387904):Node h (a / 2 ^ h)∧a / 2 ^ h*2 ^ h=a∧(a / 2 ^ h+1)*2 ^ h=a+2 ^ h:=by
  have h1:a / 2 ^ h*2 ^ h=a:=Nat.div_mul_cancel (Nat.dvd_of_mod_eq_zero f.1)
  have h2:(a / 2 ^ h+1)*2 ^ h=a+2 ^ h:=by rw [Nat.add_mul,Nat.one_mul,h1]
  refine ⟨⟨hh,?_⟩,h1,h2⟩
  have h3:(a / 2 ^ h+1)*2 ^ h≤2 ^ (62 - h)*2 ^ h:=by
    rw [h2,← Nat.pow_add,show 62 - h+h=62 by omega]
    have:=f.2
    simp
    omega
  exact Nat.le_of_mul_le_mul_right h3 (Nat.two_pow_pos h)
theorem zbR (h:Nat):2 ^ (h+1)=2*2 ^ h:=by rw [Nat.pow_succ,Nat.mul_comm]
theorem z9D {k h:Nat}:k*2 ^ h % 2 ^ (h+1)=0↔k % 2=0:=by
  rw [Nat.pow_succ,Nat.mul_comm (2 ^ h) 2,Nat.mul_mod_mul_right]
  have:=Nat.two_pow_pos h
  constructor
  · intro e
    rcases Nat.mul_eq_zero.1 e with e | e
    · exact e
    · omega
  · intro e
    rw [e,Nat.zero_mul]
theorem Tile.bound {l:List (Nat × Nat)}:∀ {a b:Nat},Tile a l b→a≤b∧(l≠[]→a<b∧b≤4611686018427387904):=by
  induction l with
  | nil=>intro a b h;exact ⟨by have:a=b:=h;omega,fun h=>absurd rfl h⟩
  | cons s l ih=>
    intro a b ⟨h1,h2,h3⟩
    have i:=ih h3
    have:=Nat.two_pow_pos s.1
    have e:(s.2+1)*2 ^ s.1=s.2*2 ^ s.1+2 ^ s.1:=by rw [Nat.add_mul,Nat.one_mul]
    refine ⟨by omega,fun _=>⟨by omega,?_⟩⟩
    cases l with
    | nil=>
      have h4:(s.2+1)*2 ^ s.1=b:=h3
      have:=h1.span
      simp at this
      omega
    | cons t l=>exact (i.2 (by simp)).2
theorem zbS {l:List (Nat × Nat)}:∀ {a b:Nat},Tile a l b→Irr l→l=SPAN a b:=by
  induction l with
  | nil=>
    intro a b h _
    have:a=b:=h
    rw [zdA (by omega)]
  | cons s l ih=>
    intro a b ht hi
    obtain ⟨h1,h2,h3⟩:=ht
    obtain ⟨hab,hb⟩:=(Tile.bound (l:=s :: l) ⟨h1,h2,h3⟩).2 (by simp)
    have e:(s.2+1)*2 ^ s.1=s.2*2 ^ s.1+2 ^ s.1:=by rw [Nat.add_mul,Nat.one_mul]
    have hl:=ih h3 hi.2
    have hle:=h3.bound.1
    have hpos:=Nat.two_pow_pos s.1
    have hf:Fit a s.1 b:=⟨by rw [← h2];exact Nat.mul_mod_left _ _,by omega⟩
    have hn:¬ Fit a (s.1+1) b:=by
      intro hf2
      have hk:s.2 % 2=0:=z9D.1 (by rw [h2];exact hf2.1)
      have p2:=zbR s.1
      have hf3:=hf2.2
      have hlt:(s.2+1)*2 ^ s.1<b:=by omega
      have hF1:Fit ((s.2+1)*2 ^ s.1) s.1 b:=⟨Nat.mul_mod_left _ _,by omega⟩
      have hF2:¬ Fit ((s.2+1)*2 ^ s.1) (s.1+1) b:=by
        intro h
        have:=z9D.1 h.1
        omega
      have hH:=z9C hlt hb hF1 hF2
      rw [z6G hlt,← hH,Nat.mul_div_cancel _ hpos] at hl
      refine hi.1 (s.1,s.2+1) (by rw [hl];rfl) ⟨rfl,hk,rfl⟩
    have hH:=z9C hab hb hf hn
    rw [z6G hab,← hH,hl]
    congr 1
    · rw [← h2,Nat.mul_div_cancel _ hpos]
    · rw [e,h2]
theorem Tile.append {l m:List (Nat × Nat)}:∀ {a b c:Nat},Tile a l b→Tile b m c→Tile a (l ++ m) c:=by
  induction l with
  | nil=>intro a b c h h2;have:a=b:=h;rw [this];exact h2
  | cons s l ih=>intro a b c ⟨h1,h2,h3⟩ h4;exact ⟨h1,h2,ih h3 h4⟩
theorem Tile.node {l:List (Nat × Nat)}:∀ {a b i h k:Nat},Tile a l b→l[i]?=some (h,k)→Node h k:=by
  induction l with
  | nil=>intro a b i h k _ e;simp at e
  | cons s l ih=>
    intro a b i h k ⟨h1,h2,h3⟩ e
    cases i with
    | zero=>simp at e;subst e;exact h1
    | succ i=>exact ih h3 (by simpa using e)
theorem Tile.one {s:Nat × Nat} {a b:Nat}:Tile a [s] b↔Node s.1 s.2∧s.2*2 ^ s.1=a∧(s.2+1)*2 ^ s.1=b:=Iff.rfl
end Go.Proofs.YtjkjlblongeljaaGreatDoor

namespace Go.Proofs.YtjkjlblongeljaaGreatDoor
theorem z3N {n:Nat} (h:PC n=0):n=0:=by
  induction n using Nat.strongRecOn with
  | _ n ih=>
    by_cases h0:n=0
    · exact h0
    · rw [z0J] at h
      have:=ih (n / 2) (by omega) (by omega)
      omega
theorem z7I (n a b:Nat) (hab:a≤b):n / 2 ^ a=n / 2 ^ b*2 ^ (b - a)+n / 2 ^ a % 2 ^ (b - a)∧PC (n / 2 ^ a)=PC (n / 2 ^ b)+PC (n / 2 ^ a % 2 ^ (b - a)):=by
  have e:n / 2 ^ b=n / 2 ^ a / 2 ^ (b - a):=by rw [Nat.div_div_eq_div_mul,← Nat.pow_add,show a+(b - a)=b by omega]
  have h1:n / 2 ^ a=n / 2 ^ b*2 ^ (b - a)+n / 2 ^ a % 2 ^ (b - a):=by
    rw [e,Nat.mul_comm]
    exact (Nat.div_add_mod _ _).symm
  refine ⟨h1,?_⟩
  have h2:=z48 (b - a) (n / 2 ^ b) (n / 2 ^ a % 2 ^ (b - a)) (Nat.mod_lt _ (Nat.two_pow_pos _))
  rw [← h1] at h2
  exact h2
theorem zeS (n:Nat) {a b:Nat} (hab:a≤b):PC (n / 2 ^ b)≤PC (n / 2 ^ a):=by
  have:=(z7I n a b hab).2
  omega
theorem z7J (n:Nat) {a b:Nat} (hab:a≤b) (h:PC (n / 2 ^ a)=PC (n / 2 ^ b)):n / 2 ^ a*2 ^ a=n / 2 ^ b*2 ^ b:=by
  obtain ⟨h1,h2⟩:=z7I n a b hab
  have h3:n / 2 ^ a % 2 ^ (b - a)=0:=z3N (by omega)
  rw [h3,Nat.add_zero] at h1
  rw [h1,Nat.mul_assoc,← Nat.pow_add,show b - a+a=b by omega]
theorem zdB {n:Nat} (hn:n<2 ^ 64):∀ h,h≤64→∀ i,i<PC (n / 2 ^ h)→∃ g,h≤g∧g<64∧(HS h n)[i]?=some g∧n / 2 ^ g % 2=1∧i=PC (n / 2 ^ (g+1)):=by
  have key:∀ d h,h+d=64→∀ i,i<PC (n / 2 ^ h)→∃ g,h≤g∧g<64∧(HS h n)[i]?=some g∧n / 2 ^ g % 2=1∧i=PC (n / 2 ^ (g+1)):=by
    intro d
    induction d with
    | zero=>
      intro h e i hi
      obtain rfl:h=64:=by omega
      rw [Nat.div_eq_of_lt hn,z1b] at hi
      omega
    | succ d ih=>
      intro h e i hi
      have hl:=z3b hn (h+1) (by omega)
      have hs:PC (n / 2 ^ h)=n / 2 ^ h % 2+PC (n / 2 ^ (h+1)):=by rw [z0J,z1o]
      rcases Nat.lt_or_ge i (PC (n / 2 ^ (h+1))) with h1 | h1
      · obtain ⟨g,a,b,c,r⟩:=ih (h+1) (by omega) i h1
        refine ⟨g,by omega,b,?_,r⟩
        by_cases hb:n / 2 ^ h % 2=1
        · rw [z4a (by omega) hb,List.getElem?_append_left (by omega)]
          exact c
        · rw [z3A (by omega) hb]
          exact c
      · have hb:n / 2 ^ h % 2=1:=by omega
        have hi':i=PC (n / 2 ^ (h+1)):=by omega
        refine ⟨h,Nat.le_refl _,by omega,?_,hb,hi'⟩
        rw [z4a (by omega) hb,List.getElem?_append_right (by omega),hl,hi']
        simp
  intro h hh
  exact key (64 - h) h (by omega)
def HGT (n i:Nat):Nat:=(HS 0 n).getD i 0
def z7b (n:Nat):Nat→Nat
  | 0=>0
  | i+1=>n / 2 ^ HGT n i*2 ^ HGT n i
theorem z2z {n i:Nat} (hn:n<2 ^ 64) (hi:i<PC n):(HS 0 n)[i]?=some (HGT n i)∧n / 2 ^ HGT n i % 2=1∧i=PC (n / 2 ^ (HGT n i+1)):=by
  obtain ⟨g,_,_,c,d,e⟩:=zdB hn 0 (by omega) i (by rw [Nat.pow_zero,Nat.div_one];exact hi)
  have hg:HGT n i=g:=by unfold HGT;rw [List.getD_eq_getElem?_getD,c];rfl
  rw [hg]
  exact ⟨c,d,e⟩
def KGT (n i:Nat):Nat:=2*(n / 2 ^ (HGT n i+1))
theorem zbT {n i:Nat} (hn:n≤4611686018427387904) (hi:i<PC n):Node (HGT n i) (KGT n i):=Node.peak hn (z2z (by omega) hi).2.1
theorem z5b {n i:Nat} (hn:n<2 ^ 64) (hi:i<PC n):PC (n / 2 ^ HGT n i)=i+1:=by
  obtain ⟨_,h2,h3⟩:=z2z hn hi
  rw [z0J,← z1o]
  omega
theorem z6H {n i:Nat} (hn:n<2 ^ 64) (hi:i+1<PC n):HGT n (i+1)<HGT n i:=by
  have h1:=z5b hn (i:=i) (by omega)
  have h2:=(z2z hn hi).2.2
  rcases Nat.lt_or_ge (HGT n (i+1)) (HGT n i) with h | h
  · exact h
  · have h3:=zeS n (a:=HGT n i+1) (b:=HGT n (i+1)+1) (by omega)
    have h4:=(z2z hn (i:=i) (by omega)).2.2
    omega
theorem zaC {n i:Nat} (hn:n<2 ^ 64) (hi:i<PC n):KGT n i*2 ^ HGT n i=z7b n i:=by
  have hk:KGT n i*2 ^ HGT n i=n / 2 ^ (HGT n i+1)*2 ^ (HGT n i+1):=z1d _ _
  have h2:=(z2z hn hi).2.2
  cases i with
  | zero=>
    rw [hk,z3N h2.symm,Nat.zero_mul]
    rfl
  | succ i=>
    have h1:=z5b hn (i:=i) (by omega)
    have h3:=z6H hn hi
    rw [hk]
    exact z7J n (by omega) (by omega)
theorem zdC {n i:Nat} (hn:n<2 ^ 64) (hi:i<PC n):(KGT n i+1)*2 ^ HGT n i=z7b n (i+1):=by
  have:=z7q (z2z hn hi).2.1
  show (2*(n / 2 ^ (HGT n i+1))+1)*2 ^ HGT n i=n / 2 ^ HGT n i*2 ^ HGT n i
  rw [← this]
theorem zbU {n:Nat} (hn:n<2 ^ 64):z7b n (PC n)=n:=by
  cases h:PC n with
  | zero=>
    rw [z3N h]
    rfl
  | succ i=>
    have h1:=z5b hn (i:=i) (by omega)
    have h2:=z7J n (a:=0) (b:=HGT n i) (by omega) (by rw [Nat.pow_zero,Nat.div_one];omega)
    rw [Nat.pow_zero,Nat.div_one,Nat.mul_one] at h2
    exact h2.symm
end Go.Proofs.YtjkjlblongeljaaGreatDoor

namespace Go.Proofs.YtjkjlblongeljaaGreatDoor
def PKS (n j c:Nat):List (Nat × Nat):=(List.range' j c).map fun i=>(HGT n i,KGT n i)
theorem z7K (n j c:Nat):PKS n j (c+1)=(HGT n j,KGT n j) :: PKS n (j+1) c:=by simp [PKS,List.range'_succ]
theorem zbV {n c i:Nat} (h:i<c):(PKS n 0 c)[i]?=some (HGT n i,KGT n i):=by
  simp [PKS,h]
theorem z7L {n:Nat} (hn:n≤4611686018427387904):∀ c j,j+c=PC n→Tile (z7b n j) (PKS n j c) n∧Irr (PKS n j c):=by
  intro c
  induction c with
  | zero=>
    intro j e
    obtain rfl:j=PC n:=by omega
    exact ⟨zbU (by omega),trivial⟩
  | succ c ih=>
    intro j e
    obtain ⟨i1,i2⟩:=ih (j+1) (by omega)
    rw [z7K]
    refine ⟨⟨zbT hn (by omega),zaC (by omega) (by omega),?_⟩,?_,i2⟩
    · show Tile ((KGT n j+1)*2 ^ HGT n j) _ n
      rw [zdC (by omega) (by omega)]
      exact i1
    · intro y hy ⟨h1,_,_⟩
      cases c with
      | zero=>simp [PKS] at hy
      | succ c=>
        rw [z7K] at hy
        simp at hy
        subst hy
        have:=z6H (n:=n) (i:=j) (by omega) (by omega)
        dsimp only at h1
        omega
theorem z5C {n:Nat} (hn:n≤4611686018427387904):SPAN 0 n=PKS n 0 (PC n):=by
  obtain ⟨h1,h2⟩:=z7L hn (PC n) 0 (by omega)
  exact (zbS h1 h2).symm
theorem z2W {n:Nat} (hn:n≤4611686018427387904):(SPAN 0 n).length=PC n:=by
  rw [z5C hn]
  simp [PKS]
theorem z2X {n i:Nat} (hn:n≤4611686018427387904) (hi:i<PC n):(SPAN 0 n)[i]?=some (HGT n i,KGT n i):=by
  rw [z5C hn]
  exact zbV hi
end Go.Proofs.YtjkjlblongeljaaGreatDoor

namespace Go.Proofs.YtjkjlblongeljaaGreatDoor
def PLCS (l:List (Nat × Nat)):List Nat:=l.map fun s=>PLC s.1 s.2
theorem z8H (l:List (Nat × Nat)):(PLCS l).length=l.length:=by simp [PLCS]
theorem zeT {l:List (Nat × Nat)} {j h k:Nat} (e:l[j]?=some (h,k)):(PLCS l).getD j 0=PLC h k:=by
  simp [PLCS,List.getD,e]
def Off (s t:Nat × Nat):Prop:=(s.2+1)*2 ^ s.1≤t.2*2 ^ t.1∨(t.2+1)*2 ^ t.1≤s.2*2 ^ s.1
def SIZE (l:List (Nat × Nat)):Nat:=(l.map fun s=>2 ^ s.1).sum
theorem z7M (k h:Nat):(k+1)*2 ^ h=k*2 ^ h+2 ^ h:=by rw [Nat.add_mul,Nat.one_mul]
theorem Tile.size {l:List (Nat × Nat)}:∀ {a b:Nat},Tile a l b→a+SIZE l=b:=by
  induction l with
  | nil=>intro a b h;have:a=b:=h;simp [SIZE,this]
  | cons s l ih=>
    intro a b ⟨h1,h2,h3⟩
    have:=ih h3
    rw [z7M,h2] at this
    simp only [SIZE,List.map_cons,List.sum_cons] at this ⊢
    omega
theorem Tile.within {l:List (Nat × Nat)}:∀ {a b:Nat},Tile a l b→∀ s∈l,a≤s.2*2 ^ s.1∧(s.2+1)*2 ^ s.1≤b∧Node s.1 s.2:=by
  induction l with
  | nil=>intro a b _ s hs;simp at hs
  | cons t l ih=>
    intro a b ⟨h1,h2,h3⟩ s hs
    rcases List.mem_cons.1 hs with rfl | hs
    · exact ⟨by omega,h3.bound.1,h1⟩
    · have:=ih h3 s hs
      have h4:=z7M t.2 t.1
      have h5:=Nat.two_pow_pos t.1
      exact ⟨by omega,this.2⟩
theorem Tile.off {l:List (Nat × Nat)}:∀ {a b:Nat},Tile a l b→l.Pairwise Off:=by
  induction l with
  | nil=>intro a b _;exact List.Pairwise.nil
  | cons t l ih=>
    intro a b ⟨h1,h2,h3⟩
    refine List.Pairwise.cons (fun s hs=>?_) (ih h3)
    exact .inl (h3.within s hs).1
theorem z9E {h k n:Nat} (hn:(k+1)*2 ^ h≤n):PLC h k<z04 n:=by
  have h1:=z55 hn
  have h2:=z0I ((k+1)*2 ^ h)
  rw [z2i] at h2
  have h3:=z1y h k
  have h4:=z9j k
  have h5:2 ^ (h+1)*(k+1)=2*((k+1)*2 ^ h):=by rw [zbR,Nat.mul_assoc,Nat.mul_comm (2 ^ h)]
  omega
end Go.Proofs.YtjkjlblongeljaaGreatDoor

namespace Go.Proofs.YtjkjlblongeljaaGreatDoor
open Go.RowKit
theorem z3O (n:Nat) (hn:n<64) (w:World):Calls Tryz.prog 74 #[.int .i64 (n:Int)] w fun e w'=>e=.returned (.int .u64 ((2 ^ n:Nat):Int))∧w=w':=by
  have HN:Aside (n<64):=hn
  clear hn
  go_enter Tryz.func74,Tryz.ntmps74
  go_wp2
  go_loopg [3,4] n (fun g s3 s4 wx=>∃ i v:Nat,s3=.int .u64 (v:Int)∧s4=.int .i64 (i:Int)∧Aside (v=2 ^ i∧i+g=n)∧wx=w)
  case atStart=>exact ⟨0,1,rfl,rfl,⟨rfl,by omega⟩,rfl⟩
  case round=>
    obtain ⟨i,v,rfl,rfl,A,hw⟩:=hrel
    subst hw
    cases gk with
    | zero=>
      have hi:¬ (i:Int)<(n:Int):=by have:=A.out.2;omega
      go_wp2
      go_ret
      obtain ⟨r1,r2⟩:=A.out
      refine ⟨?_,rfl⟩
      rw [r1,show i=n by omega]
      rfl
    | succ g=>
      have hi:(i:Int)<(n:Int):=by have:=A.out.2;omega
      go_wp2
      go_roundg g
      case measure=>omega
      case rel=>
        obtain ⟨r1,r2⟩:=A.out
        have h64:=HN.out
        have hp:2 ^ (i+1)≤2 ^ 63:=Nat.pow_le_pow_right (by decide) (by omega)
        refine ⟨i+1,2 ^ (i+1),?_,?_,⟨rfl,by omega⟩,rfl⟩
        · congr 1
          rw [z0e,r1]
          rw [Nat.pow_succ] at hp ⊢
          omega
        · congr 1
          unfold wrap64
          omega
end Go.Proofs.YtjkjlblongeljaaGreatDoor

namespace Go.Proofs.YtjkjlblongeljaaGreatDoor
open Go.RowKit
theorem z8I (p:Int) (hp:9223372036854775807≤p) (w:World):Calls Tryz.prog 61 #[.int .u64 p] w fun e w'=>e=.returned (.tuple #[SPOT 0 0,.bool false])∧Below w.heap.size w w':=by
  have c1:=z3O 62 (by omega)
  rw [show (((2 ^ 62:Nat):Int))=4611686018427387904 by decide,show (((62:Nat):Int))=62 from rfl] at c1
  have hd:(9223372036854775806:Int)<p:=by omega
  go_enter Tryz.func61,Tryz.ntmps61
  go_wp2_with fail
  refine (c1 _).mono ?_
  rintro e w' ⟨rfl,rfl⟩
  clear c1
  go_wp2
  refine bodyPost_ret (v:=.tuple #[SPOT 0 0,.bool false]) ?_ rfl ⟨rfl,(Below.refl _ _).alloc (Nat.le_refl _) _⟩
  simp [results,Tryz.f61,go_sem]
theorem zbW {a b c:Nat} (h:a+b=c) (hc:c<2 ^ 64):IntKind.u64.wrap ((a:Int)+(b:Int))=(c:Int):=by rw [z0e];omega
theorem zfM {a c:Nat} (h:a+1=c) (hc:c<2 ^ 64):IntKind.u64.wrap ((a:Int)+1)=(c:Int):=by rw [z0e];omega
theorem zfN {a c:Nat} (h:c+1=a) (hc:c<2 ^ 64):IntKind.u64.wrap ((a:Int) - 1)=(c:Int):=by rw [z0e];omega
theorem zbX {a c:Nat} (h:2*a=c) (hc:c<2 ^ 64):IntKind.u64.wrap (2*(a:Int))=(c:Int):=by rw [z0e];omega
theorem zeU {a c:Nat} (h:2*c=a) (hc:c<2 ^ 64):IntKind.u64.wrap ((a:Int) / 2)=(c:Int):=by rw [z0e];omega
theorem zdD {a c:Nat} (h:2*c=a):(a:Int) / 2=(c:Int):=by omega
theorem zdE {g m b p z1 bz:Nat} (hg:g+1≤62) (hN:Node (g+1) m) (hb:b=z04 (m*2 ^ (g+1))) (hbp:b≤p) (hpu:p+2≤b+2 ^ (g+1+1)) (hz:2 ^ (g+1)=z1+1) (hbz:b+z1=bz) (hT:p≠b+2*z1):
    Node g (2*m)∧Node g (2*m+1)∧b=z04 (2*m*2 ^ g)∧bz=z04 ((2*m+1)*2 ^ g)∧(bz≤p→p+2≤bz+2 ^ (g+1))∧(p<bz→p+2≤b+2 ^ (g+1)):=by
  have h2:=hN.2
  have e:2 ^ (62 - g)=2 ^ (62 - (g+1))*2:=by rw [← Nat.pow_succ];congr 1;omega
  have e2:2 ^ (g+1+1)=2*(z1+1):=by rw [Nat.pow_succ,hz,Nat.mul_comm]
  refine ⟨⟨by omega,by rw [e];omega⟩,⟨by omega,by rw [e];omega⟩,by rw [hb,z1d],?_,fun h=>by omega,fun h=>by omega⟩
  rw [z3B,z1d,← hb]
  unfold TREE
  omega
theorem zaD (h k:Nat) (hN:Node h k) (w:World):Calls Tryz.prog 61 #[.int .u64 ((PLC h k:Nat):Int)] w fun e w'=>e=.returned (.tuple #[SPOT h k,.bool true])∧Below w.heap.size w w':=by
  have hp:=hN.lt
  obtain ⟨p,hpe⟩:∃ p,p=PLC h k:=⟨_,rfl⟩
  rw [← hpe] at hp ⊢
  have HN:Aside (Node h k∧p=PLC h k∧p<9223372036854775807):=⟨hN,hpe,hp⟩
  have c1:=z3O 62 (by omega)
  rw [show (((2 ^ 62:Nat):Int))=4611686018427387904 by decide,show (((62:Nat):Int))=62 from rfl] at c1
  have hd:¬ (9223372036854775806:Int)<(p:Int):=by omega
  clear hN hpe hp
  go_enter Tryz.func61,Tryz.ntmps61
  go_wp2_with fail
  refine (c1 _).mono ?_
  rintro e w' ⟨rfl,rfl⟩
  clear c1
  go_wp2
  go_loopg [4,5,6] 62 (fun g s4 s5 s6 wx=>∃ b m:Nat,s4=.int .u64 (b:Int)∧s5=.int .i64 (g:Int)∧s6=.int .u64 (m:Int)∧Aside (wx=w.alloc (.cells #[.int .u8 0,.int .u64 0] 90)∧g≤62∧b=z04 (m*2 ^ g)∧Node g m∧b≤p∧p+2≤b+2 ^ (g+1)))
  case atStart=>exact ⟨0,0,rfl,rfl,rfl,rfl,by omega,by simp [z2B],⟨by omega,by simp⟩,by omega,by have:=HN.out.2.2;omega⟩
  case round=>
    obtain ⟨b,m,rfl,rfl,rfl,A⟩:=hrel
    obtain ⟨hw,hg,hb,hNm,hbp,hpu⟩:=A.out
    clear A
    have hpl:2 ^ gk≤2 ^ 62:=Nat.pow_le_pow_right (by decide) hg
    obtain ⟨z1,hz⟩:∃ z1,2 ^ gk=z1+1:=⟨2 ^ gk - 1,by have:=Nat.two_pow_pos gk;omega⟩
    have c1:=z3O gk (by omega)
    rw [hz] at c1 hpl
    have hbl:b<9223372036854775807:=by have:=HN.out.2.2;omega
    obtain ⟨u,hu⟩:∃ u,2*z1=u:=⟨_,rfl⟩
    obtain ⟨bu,hbu⟩:∃ bu,b+u=bu:=⟨_,rfl⟩
    have e1:IntKind.u64.wrap (((z1+1:Nat):Int) - 1)=(z1:Int):=zfN rfl (by omega)
    have e1':IntKind.u64.wrap (z1:Int)=(z1:Int):=by rw [z0e];omega
    rw [show ((z1+1:Nat):Int)=(z1:Int)+1 by omega] at c1 e1
    have e2:IntKind.u64.wrap (2*(z1:Int))=(u:Int):=zbX hu (by omega)
    have e3:IntKind.u64.wrap ((b:Int)+(u:Int))=(bu:Int):=zbW hbu (by omega)
    by_cases hT:p=bu
    · have hmk:h=gk∧k=m:=by
        refine HN.out.1.one hNm ?_
        rw [← HN.out.2.1]
        unfold PLC
        rw [hz] at hb
        rw [Nat.pow_succ,hz,← hb]
        omega
      obtain ⟨rfl,rfl⟩:=hmk
      have hT':((p:Int) == (bu:Int))=true:=by simp;omega
      have hh:(h:Int) % 256=(h:Int):=by omega
      clear hg hb hNm hbp hpu HN hpl hbl hz hu hbu hT
      subst hw
      go_wp2_with fail
      refine (c1 _).mono ?_
      rintro e w' ⟨rfl,rfl⟩
      clear c1
      go_wp2
      refine bodyPost_ret (v:=.tuple #[SPOT h k,.bool true]) ?_ rfl ⟨rfl,(Below.refl _ _).alloc (Nat.le_refl _) _⟩
      simp [results,Tryz.f61,go_sem]
    · have hT':((p:Int) == (bu:Int))=false:=by simp;omega
      have h1:1≤gk:=by
        rcases Nat.eq_zero_or_pos gk with h0 | h0
        · subst h0
          simp at hz
          omega
        · exact h0
      obtain ⟨g,rfl⟩:∃ g,gk=g+1:=⟨gk - 1,by omega⟩
      have hm62:=hNm.index_lt
      obtain ⟨bz,hbz⟩:∃ bz,b+z1=bz:=⟨_,rfl⟩
      obtain ⟨m2,hm2⟩:∃ m2,2*m=m2:=⟨_,rfl⟩
      obtain ⟨m3,hm3⟩:∃ m3,m2+1=m3:=⟨_,rfl⟩
      have RR:=zdE hg hNm hb hbp hpu hz hbz (by omega)
      rw [hm2,hm3] at RR
      have e4:IntKind.u64.wrap (2*(m:Int))=(m2:Int):=zbX hm2 (by omega)
      have e5:IntKind.u64.wrap ((u:Int) / 2)=(z1:Int):=zeU hu (by omega)
      have e5':(u:Int) / 2=(z1:Int):=zdD hu
      have e6:wrap64 (g:Int)=(g:Int):=by unfold wrap64;omega
      have e7:IntKind.u64.wrap ((b:Int)+(z1:Int))=(bz:Int):=zbW hbz (by omega)
      have e8:IntKind.u64.wrap ((m2:Int)+1)=(m3:Int):=zfM hm3 (by omega)
      have R:Aside (wr=w.alloc (.cells #[.int .u8 0,.int .u64 0] 90)∧g+1≤62∧b≤p∧Node g m2∧Node g m3∧b=z04 (m2*2 ^ g)∧bz=z04 (m3*2 ^ g)∧(bz≤p→p+2≤bz+2 ^ (g+1))∧(p<bz→p+2≤b+2 ^ (g+1))):=⟨hw,hg,hbp,RR⟩
      rw [show (((g+1:Nat):Int))=(g:Int)+1 by omega] at c1 ⊢
      clear RR hw hg hNm hbp hb hpu hT hz hbz hbu hu HN hpl hbl h1 hm62 hm2 hm3 hd
      by_cases hlt:bz≤p
      · have hd3:(bz:Int)≤(p:Int):=by omega
        have R2:Aside (bz≤p):=hlt
        clear hlt
        go_wp2_with fail
        refine (c1 _).mono ?_
        rintro e w' ⟨rfl,rfl⟩
        clear c1
        go_wp2
        go_roundg g
        case measure=>omega
        case rel=>
          obtain ⟨r1,r2,r3,r4,r5,r6,r7,r8,r9⟩:=R.out
          have s1:=R2.out
          rw [e6]
          exact ⟨bz,m3,rfl,rfl,rfl,r1,by omega,r7,r5,s1,r8 s1⟩
      · have hd3:¬ (bz:Int)≤(p:Int):=by omega
        have R2:Aside (p<bz):=by unfold Aside;omega
        clear hlt
        go_wp2_with fail
        refine (c1 _).mono ?_
        rintro e w' ⟨rfl,rfl⟩
        clear c1
        go_wp2
        go_roundg g
        case measure=>omega
        case rel=>
          obtain ⟨r1,r2,r3,r4,r5,r6,r7,r8,r9⟩:=R.out
          have s1:=R2.out
          rw [e6]
          exact ⟨b,m2,rfl,rfl,rfl,r1,by omega,r6,r4,r3,r9 s1⟩
end Go.Proofs.YtjkjlblongeljaaGreatDoor

namespace Go.Proofs.YtjkjlblongeljaaGreatDoor
open Go.RowKit
def RefAt (p:Int) (h k:Nat) (ok:Bool):Prop:=∀ w,Calls Tryz.prog 61 #[.int .u64 p] w fun e w'=>e=.returned (.tuple #[SPOT h k,.bool ok])∧Below w.heap.size w w'
theorem RefAt.node {h k:Nat} (hN:Node h k):RefAt ((PLC h k:Nat):Int) h k true:=fun w=>zaD h k hN w
theorem RefAt.out {p:Int} (hp:9223372036854775807≤p):RefAt p 0 0 false:=fun w=>z8I p hp w
end Go.Proofs.YtjkjlblongeljaaGreatDoor

namespace Go.Proofs.YtjkjlblongeljaaGreatDoor
open Go.RowKit
end Go.Proofs.YtjkjlblongeljaaGreatDoor

namespace Go.Proofs.YtjkjlblongeljaaGreatDoor
open Go.RowKit
def Spots (w:World) (a:Option Addr) (l:List (Nat × Nat)):Prop:=0<l.length→∃ g,a=some ⟨g,0,none⟩∧g<w.heap.size∧∀ (j h k:Nat),l[j]?=some (h,k)→w.cell? ⟨g,j*2,none⟩=some (.int .u8 (h:Int))∧w.cell? ⟨g,j*2+1,none⟩=some (.int .u64 (k:Int))
theorem Spots.below {w w':World} {a:Option Addr} {l:List (Nat × Nat)} (h:Spots w a l) (hb:Below w.heap.size w w'):Spots w' a l:=fun h0=>by
  obtain ⟨g,e,hg,hc⟩:=h h0
  exact ⟨g,e,Nat.lt_of_lt_of_le hg hb.size,fun j x y he=>⟨(hb.cell (p:=⟨g,j*2,none⟩) hg).trans (hc j x y he).1,(hb.cell (p:=⟨g,j*2+1,none⟩) hg).trans (hc j x y he).2⟩⟩
theorem z0P {w w':World} {base:Nat} {t:TypeId} {s:Nat} {v:Value} {n:Nat} {xs:List Value} (h:w.ownsRow base t s v n xs) (hb:Below w.heap.size w w'):w'.ownsRow base t s v n xs:=by
  refine ⟨h.1,h.2.imp id ?_⟩
  rintro ⟨g,c,cur,a,b,r,rest⟩
  exact ⟨g,c,cur,a,b,(hb.block g (Array.getElem?_eq_some_iff.1 r).1).trans r,rest⟩
end Go.Proofs.YtjkjlblongeljaaGreatDoor

namespace Go.Proofs.YtjkjlblongeljaaGreatDoor
open Go.RowKit
def TOPS (h n:Nat):List (Nat × Nat):=(HS h n).map fun g=>(g,2*(n / 2 ^ (g+1)))
theorem z8J {n:Nat} (hn:n<2 ^ 64) (h:Nat) (hh:h≤64):(TOPS h n).length=PC (n / 2 ^ h):=by
  unfold TOPS
  rw [List.length_map]
  exact z3b hn h hh
end Go.Proofs.YtjkjlblongeljaaGreatDoor

namespace Go.Proofs.YtjkjlblongeljaaGreatDoor
open Go.RowKit
end Go.Proofs.YtjkjlblongeljaaGreatDoor

namespace Go.Proofs.YtjkjlblongeljaaGreatDoor
open Go.RowKit
theorem zeV {n j:Nat} (hn:n<2 ^ 64) (hj:j<PC n):(TOPS 0 n)[j]?=some (HGT n j,KGT n j):=by
  unfold TOPS
  rw [List.getElem?_map,(z2z hn hj).1]
  rfl
end Go.Proofs.YtjkjlblongeljaaGreatDoor

namespace Go.Proofs.YtjkjlblongeljaaGreatDoor
open Go.RowKit
def Has (w:World) (g:Nat) (c:Array Value) (t:TypeId):Prop:=w.heap[g]?=some (.cells c t)
theorem Has.cell {w:World} {g:Nat} {c:Array Value} {t:TypeId} (h:Has w g c t) (i:Nat):w.cell? ⟨g,i,none⟩=c[i]?:=cell_of_row w g i c t _ h
theorem Has.lt {w:World} {g:Nat} {c:Array Value} {t:TypeId} (h:Has w g c t):g<w.heap.size:=(Array.getElem?_eq_some_iff.1 h).1
theorem Has.frozen {w:World} {g:Nat} {c:Array Value} {t:TypeId} (h:Has w g c t) (i:Nat):w.frozen? ⟨g,i,none⟩=false:=by
  have e:w.heap[g]?=some (.cells c t):=h
  simp [World.frozen?,e]
theorem Has.set {w:World} {g:Nat} {c:Array Value} {t:TypeId} (h:Has w g c t) (i:Nat) (v:Value):Has (w.setCell ⟨g,i,none⟩ v) g (c.setIfInBounds i v) t:=by
  have e:w.heap[g]?=some (.cells c t):=h
  unfold Has
  rw [setCell_eq_setRow w g i c t _ v e,setRow_heap w g c _ t _ e]
theorem Has.other {w:World} {g:Nat} {c:Array Value} {t:TypeId} (h:Has w g c t) {a:Addr} (ha:g≠a.block) (v:Value):Has (w.setCell a v) g c t:=by
  have e:w.heap[g]?=some (.cells c t):=h
  unfold Has
  rw [Below.heap_setCell w a v g ha,e]
theorem Has.below {B:Nat} {w w':World} {g:Nat} {c:Array Value} {t:TypeId} (h:Has w g c t) (hb:Below B w w') (hg:g<B):Has w' g c t:=(hb.block g hg).trans h
theorem Has.keep {w w':World} {g:Nat} {c:Array Value} {t:TypeId} (h:Has w g c t) (hb:Below w.heap.size w w'):Has w' g c t:=h.below hb h.lt
theorem Has.alloc {w:World} {g:Nat} {c:Array Value} {t:TypeId} (h:Has w g c t) (o:Obj):Has (w.alloc o) g c t:=by
  have e:w.heap[g]?=some (.cells c t):=h
  unfold Has
  rw [Below.heap_alloc w o g h.lt,e]
theorem Has.new (w:World) (c:Array Value) (t:TypeId):Has (w.alloc (.cells c t)) w.heap.size c t:=heap_alloc_new w _
theorem Has.at (w:World) (c:Array Value) (t:TypeId) {g:Nat} (hg:g=w.heap.size):Has (w.alloc (.cells c t)) g c t:=by subst hg;exact Has.new w c t
theorem Has.row {w:World} {g:Nat} {c:Array Value} {t:TypeId} (h:Has w g c t) (c':Array Value):Has (w.setRow g c') g c' t:=setRow_heap w g c c' t _ h
theorem Has.row_other {w:World} {g k:Nat} {c:Array Value} {t:TypeId} (h:Has w g c t) (hk:g≠k) (c':Array Value):Has (w.setRow k c') g c t:=by
  have e:w.heap[g]?=some (.cells c t):=h
  unfold Has
  rw [setRow_other w k g c' hk,e]
theorem Has.drewN {w:World} {g:Nat} {c:Array Value} {t:TypeId} (h:Has w g c t) (n:Nat):Has (w.drewN n) g c t:=h
theorem z2l {w:World} {b i j:Nat} (h:i≠j) (v:Value):(w.setCell ⟨b,i,none⟩ v).cell? ⟨b,j,none⟩=w.cell? ⟨b,j,none⟩:=World.cell?_setCell_other w _ _ v (fun e=>h (congrArg Addr.off e))
theorem z06 {B g:Nat} {w0 w:World} (hb:Below B w0 w) (hBg:B≤g) (cs:Array Value):Below B w0 (w.setRow g cs):=
  ⟨hb.os,hb.tape,hb.output,by have:=hb.size;simpa [World.setRow] using this,fun k hk=>by rw [setRow_other w g k cs (by omega)];exact hb.block k hk⟩
end Go.Proofs.YtjkjlblongeljaaGreatDoor

namespace Go.Proofs.YtjkjlblongeljaaGreatDoor
open Go.RowKit
end Go.Proofs.YtjkjlblongeljaaGreatDoor

namespace Go.Proofs.YtjkjlblongeljaaGreatDoor
open Go.RowKit
end Go.Proofs.YtjkjlblongeljaaGreatDoor
