/- Texts of ClashMembers, one behind the other: PosPeaksPlain, PosSpot, PosKin, PosPlace, PosOk, PosBackward. -/
import Derived.Deep.LoopGhost
import Derived.Deep.QuietTactic
import Derived.BigQuiet
import Derived.Deep.RegionHeld3
import Derived.RangeFuncBox
import Derived.RangeFuncLeaves
import Derived.RangeFuncCalls
import Derived.Shelf.Abstract
import Derived.Shelf.RegionOpen
import Derived.WalkKit
import Derived.OwnWalkIn
import Derived.TacticsInMore
import Derived.LoopNIn
import Derived.LoopIn
import Derived.Maps.AppendAt
import Derived.Test.YtbmjoiiagldklaaGreatDoorClashMembersP1
import Derived.Test.YtbmjoiiagldklaaGreatDoorClashMembersP2
namespace Go.Proofs.YtbmjoiiagldklaaGreatDoor
def UP (h n:Nat):List Nat:=PL (64 - h) h (n / 2 ^ h)
theorem zbT {h n:Nat} (hh:h<64):UP h n=if n / 2 ^ h % 2=1 then h :: UP (h+1) n else UP (h+1) n:=by
  unfold UP
  rw [show 64 - h=(64 - (h+1))+1 by omega,PL,Nat.div_div_eq_div_mul,← Nat.pow_succ]
theorem zha (n:Nat):UP 0 n=z0J n:=by
  unfold UP z0J
  simp
theorem zjT {h n:Nat} (hn:n<2 ^ h):UP h n=[]:=by
  unfold UP
  rw [Nat.div_eq_of_lt hn,z83]
def HS (h n:Nat):List Nat:=(UP h n).reverse
theorem z2N {h n:Nat} (hh:h<64) (hb:n / 2 ^ h % 2=1):HS h n=HS (h+1) n ++ [h]:=by
  unfold HS
  rw [zbT hh,if_pos hb,List.reverse_cons]
theorem z2y {h n:Nat} (hh:h<64) (hb:¬ n / 2 ^ h % 2=1):HS h n=HS (h+1) n:=by
  unfold HS
  rw [zbT hh,if_neg hb]
theorem z9M {h n:Nat} (hn:n<2 ^ h):HS h n=[]:=by
  unfold HS
  rw [zjT hn]
  rfl
theorem zhb (n:Nat):HS 0 n=(z0J n).reverse:=by
  unfold HS
  rw [zha]
theorem z2O {n:Nat} (hn:n<2 ^ 64):∀ h,h≤64→(HS h n).length=PC (n / 2 ^ h):=by
  have key:∀ d h,h+d=64→(HS h n).length=PC (n / 2 ^ h):=by
    intro d
    induction d with
    | zero=>
      intro h e
      obtain rfl:h=64:=by omega
      rw [z9M hn,Nat.div_eq_of_lt hn,z1n]
      rfl
    | succ d ih=>
      intro h e
      have ih:=ih (h+1) (by omega)
      rw [z0R,Nat.div_div_eq_div_mul,← Nat.pow_succ,← ih]
      by_cases hb:n / 2 ^ h % 2=1
      · rw [z2N (by omega) hb,List.length_append,List.length_singleton]
        omega
      · rw [z2y (by omega) hb]
        omega
  intro h hh
  exact key (64 - h) h (by omega)
theorem zfP {n h:Nat}:h≤64→∃ t,HS 0 n=HS h n ++ t:=by
  induction h with
  | zero=>exact fun _=>⟨[],by simp⟩
  | succ h ih=>
    intro hh
    obtain ⟨t,ht⟩:=ih (by omega)
    by_cases hb:n / 2 ^ h % 2=1
    · exact ⟨h :: t,by rw [ht,z2N (by omega) hb];simp⟩
    · exact ⟨t,by rw [ht,z2y (by omega) hb]⟩
theorem ze7 {n:Nat}:∀ h x,h≤64→x∈HS h n→h≤x∧x<64∧n / 2 ^ x % 2=1:=by
  have key:∀ d h,h+d=64→∀ x,x∈HS h n→h≤x∧x<64∧n / 2 ^ x % 2=1:=by
    intro d
    induction d with
    | zero=>
      intro h e x hx
      obtain rfl:h=64:=by omega
      simp [HS,UP,PL] at hx
    | succ d ih=>
      intro h e x hx
      by_cases hb:n / 2 ^ h % 2=1
      · rw [z2N (by omega) hb,List.mem_append,List.mem_singleton] at hx
        rcases hx with hx | rfl
        · have:=ih (h+1) (by omega) x hx
          exact ⟨by omega,this.2⟩
        · exact ⟨Nat.le_refl _,by omega,hb⟩
      · rw [z2y (by omega) hb] at hx
        have:=ih (h+1) (by omega) x hx
        exact ⟨by omega,this.2⟩
  intro h x hh
  exact key (64 - h) h (by omega) x
def PKP (n h:Nat):Nat:=PLC h (2*(n / 2 ^ (h+1)))
def z1s (n:Nat):List Nat:=(HS 0 n).map (PKP n)
theorem z2l {n:Nat} (hn:n<2 ^ 64):(z1s n).length=PC n:=by
  unfold z1s
  rw [List.length_map,z2O hn 0 (by omega)]
  simp
theorem z0O (n h:Nat):n / 2 ^ (h+1)=n / 2 ^ h / 2:=by rw [Nat.div_div_eq_div_mul,← Nat.pow_succ]
theorem z50 (m h:Nat):z0t ((2*m+1)*2 ^ h)=z0t (2*m*2 ^ h)+TREE h:=by
  have h1:=z19 ((2*m+1)*2 ^ h)
  have h2:=z19 (2*m*2 ^ h)
  rw [z38,z5B,Nat.add_mul,Nat.one_mul] at h1
  rw [z38,z7Z] at h2
  have h3:=z23 h
  rw [Nat.pow_succ] at h3
  rw [Nat.add_mul,Nat.one_mul]
  unfold TREE
  rw [Nat.pow_succ]
  omega
theorem z5D {n h:Nat} (hb:n / 2 ^ h % 2=1):n / 2 ^ h=2*(n / 2 ^ (h+1))+1:=by
  rw [z0O]
  omega
theorem z9N {n h:Nat} (hb:¬ n / 2 ^ h % 2=1):n / 2 ^ h=2*(n / 2 ^ (h+1)):=by
  rw [z0O]
  omega
theorem z1i (m h:Nat):2*m*2 ^ h=m*2 ^ (h+1):=by
  rw [Nat.pow_succ,Nat.mul_comm 2 m,Nat.mul_assoc,Nat.mul_comm 2]
def ST (l:List Nat):Nat × List Nat:=l.foldl (fun s h=>((s.1+TREE h) % 2 ^ 64,s.2 ++ [((s.1+TREE h) % 2 ^ 64+(2 ^ 64 - 1)) % 2 ^ 64])) (0,[])
theorem z84 (l:List Nat) (h:Nat):ST (l ++ [h])=(((ST l).1+TREE h) % 2 ^ 64,(ST l).2 ++ [(((ST l).1+TREE h) % 2 ^ 64+(2 ^ 64 - 1)) % 2 ^ 64]):=by
  unfold ST
  rw [List.foldl_append]
  rfl
theorem z5E {n:Nat} (hn:n≤4611686018427387904):z0t n≤9223372036854775807:=by
  rw [← zcG]
  exact z9E hn
theorem zkI {n:Nat} (hn:n≤4611686018427387904):∀ h,h≤64→ST (HS h n)=(z0t (n / 2 ^ h*2 ^ h),(HS h n).map (PKP n)):=by
  have key:∀ d h,h+d=64→ST (HS h n)=(z0t (n / 2 ^ h*2 ^ h),(HS h n).map (PKP n)):=by
    intro d
    induction d with
    | zero=>
      intro h e
      obtain rfl:h=64:=by omega
      rw [z9M (by omega),Nat.div_eq_of_lt (by omega),Nat.zero_mul,z2W]
      rfl
    | succ d ih=>
      intro h e
      have ih:=ih (h+1) (by omega)
      by_cases hb:n / 2 ^ h % 2=1
      · have e1:=z5D hb
        have h2:z0t (n / 2 ^ h*2 ^ h)=z0t (n / 2 ^ (h+1)*2 ^ (h+1))+TREE h:=by
          rw [e1,z50,z1i]
        have h3:z0t (n / 2 ^ h*2 ^ h)≤9223372036854775807:=z5E (Nat.le_trans (Nat.div_mul_le_self _ _) hn)
        have h4:=z23 h
        have hs:(z0t (n / 2 ^ (h+1)*2 ^ (h+1))+TREE h) % 2 ^ 64=z0t (n / 2 ^ h*2 ^ h):=by
          rw [← h2]
          omega
        have hp:(z0t (n / 2 ^ h*2 ^ h)+(2 ^ 64 - 1)) % 2 ^ 64=PKP n h:=by
          unfold PKP PLC
          rw [z1i]
          unfold TREE at h2
          omega
        rw [z2N (by omega) hb,z84,ih]
        dsimp only
        rw [hs,hp,List.map_append]
        rfl
      · rw [z2y (by omega) hb,ih,z9N hb,z1i]
  intro h hh
  exact key (64 - h) h (by omega)
theorem zjU {n:Nat} (hn:n≤4611686018427387904):ST (HS 0 n)=(z0t n,z1s n):=by
  have:=zkI hn 0 (by omega)
  unfold z1s
  simpa using this
theorem z6s {a b:Nat} (h:a ^^^ b=0):a=b:=by
  have:a ^^^ (a ^^^ b)=a ^^^ 0:=by rw [h]
  rw [← Nat.xor_assoc,Nat.xor_self,Nat.zero_xor,Nat.xor_zero] at this
  exact this.symm
def RISE (i n:Nat):Nat:=LEN (i ^^^ n) - 1
theorem z0K {i n:Nat} (hi:i<n) (hn:n≤4611686018427387904):1≤LEN (i ^^^ n)∧RISE i n≤62∧n / 2 ^ RISE i n % 2=1∧i / 2 ^ (RISE i n+1)=n / 2 ^ (RISE i n+1)∧i / 2 ^ RISE i n=2*(n / 2 ^ (RISE i n+1)):=by
  have hX:i ^^^ n<2 ^ 63:=Nat.xor_lt_two_pow (by omega) (by omega)
  have h0:i ^^^ n≠0:=by
    intro h
    have:i=n:=z6s h
    omega
  obtain ⟨h1,h2,h3⟩:=z9I (i ^^^ n) (by omega) h0
  have hR:LEN (i ^^^ n)=RISE i n+1:=by unfold RISE;omega
  rw [hR] at h3
  rw [show LEN (i ^^^ n) - 1=RISE i n from rfl] at h2
  generalize RISE i n=H at *
  have hH:H≤62:=by
    rcases Nat.lt_or_ge 62 H with h | h
    · have:2 ^ 63≤2 ^ H:=Nat.pow_le_pow_right (by decide) h
      omega
    · exact h
  have e1:i / 2 ^ (H+1)=n / 2 ^ (H+1):=by
    have:(i ^^^ n) / 2 ^ (H+1)=0:=Nat.div_eq_of_lt h3
    rw [← Nat.shiftRight_eq_div_pow,Nat.shiftRight_xor_distrib,Nat.shiftRight_eq_div_pow,Nat.shiftRight_eq_div_pow] at this
    exact z6s this
  have e2:i / 2 ^ H ^^^ n / 2 ^ H=1:=by
    have:(i ^^^ n) / 2 ^ H=1:=by
      rw [Nat.pow_succ] at h3
      apply Nat.div_eq_of_lt_le
      · omega
      · omega
    rw [← Nat.shiftRight_eq_div_pow,Nat.shiftRight_xor_distrib,Nat.shiftRight_eq_div_pow,Nat.shiftRight_eq_div_pow] at this
    exact this
  have e3:i / 2 ^ H≤n / 2 ^ H:=Nat.div_le_div_right (Nat.le_of_lt hi)
  have e4:i / 2 ^ H≠n / 2 ^ H:=by
    intro h
    rw [h,Nat.xor_self] at e2
    omega
  rw [z0O,z0O] at e1
  refine ⟨by omega,hH,?_,?_,?_⟩
  · omega
  · rw [z0O,z0O]
    exact e1
  · rw [z0O]
    omega
def KTH (i n:Nat):Nat:=PC (n / 2 ^ (RISE i n+1))
theorem z9O {i n:Nat} (hi:i<n) (hn:n≤4611686018427387904):(HS 0 n)[KTH i n]?=some (RISE i n):=by
  obtain ⟨_,h1,h2,_,_⟩:=z0K hi hn
  obtain ⟨t,ht⟩:=zfP (n:=n) (h:=RISE i n) (by omega)
  have hl:=z2O (n:=n) (by omega) (RISE i n+1) (by omega)
  rw [ht,z2N (by omega) h2,List.append_assoc]
  unfold KTH
  rw [← hl,List.getElem?_append_right (Nat.le_refl _)]
  simp
theorem z2m {i n:Nat} (hi:i<n) (hn:n≤4611686018427387904):KTH i n<PC n:=by
  have h:=z9O hi hn
  have hl:=z2O (n:=n) (by omega) 0 (by omega)
  rw [Nat.pow_zero,Nat.div_one] at hl
  rw [← hl]
  exact (List.getElem?_eq_some_iff.1 h).1
def SIB (k:Nat):Nat:=if k % 2=1 then k - 1 else k+1
def WAY (i H:Nat):List Nat:=(List.range H).map fun h=>PLC h (SIB (i / 2 ^ h))
theorem z9P (i H:Nat):WAY i (H+1)=WAY i H ++ [PLC H (SIB (i / 2 ^ H))]:=by simp [WAY,List.range_succ]
theorem z7g (i H:Nat):(WAY i H).length=H:=by simp [WAY]
theorem Node.up {h k:Nat} (a:Node h k) (hh:h<62):Node (h+1) (k / 2):=by
  refine ⟨hh,?_⟩
  have:=a.2
  rw [show 62 - h=(62 - (h+1))+1 by omega,Nat.pow_succ] at this
  omega
theorem Node.sib {h k:Nat} (a:Node h k) (hh:h<62):Node h (SIB k):=by
  refine ⟨a.1,?_⟩
  have h1:=a.2
  rw [show 62 - h=(62 - (h+1))+1 by omega,Nat.pow_succ] at h1 ⊢
  unfold SIB
  split <;> omega
theorem Node.leaf {i:Nat} (hi:i<4611686018427387904):Node 0 i:=⟨by omega,by simpa using hi⟩
theorem Node.over {i:Nat} (hi:i<4611686018427387904):∀ h,h≤62→Node h (i / 2 ^ h):=by
  intro h
  induction h with
  | zero=>
    intro _
    simpa using Node.leaf hi
  | succ h ih=>
    intro hh
    have:=(ih (by omega)).up (by omega)
    rw [z0O]
    exact this
theorem Node.peak {n h:Nat} (hn:n≤4611686018427387904) (hb:n / 2 ^ h % 2=1):Node h (2*(n / 2 ^ (h+1))):=by
  have h62:h≤62:=by
    rcases Nat.lt_or_ge 62 h with h1 | h1
    · have:2 ^ 63≤2 ^ h:=Nat.pow_le_pow_right (by decide) h1
      rw [Nat.div_eq_of_lt (by omega)] at hb
      omega
    · exact h1
  refine ⟨h62,?_⟩
  have h1:n / 2 ^ h≤2 ^ (62 - h):=by
    have:n / 2 ^ h≤2 ^ 62 / 2 ^ h:=Nat.div_le_div_right (by simpa using hn)
    rw [Nat.pow_div h62 (by decide)] at this
    exact this
  rw [z5D hb] at h1
  omega
end Go.Proofs.YtbmjoiiagldklaaGreatDoor

namespace Go.Proofs.YtbmjoiiagldklaaGreatDoor
open Go.RowKit
abbrev SPOT (h k:Nat):Value:=.agg #[.int .u8 (h:Int),.int .u64 (k:Int)]
theorem zbU (X:Nat) (hX:X<2 ^ 64) (w:World):Calls Tryz.prog 122 #[.int .u64 (X:Int)] w fun e w'=>e=.returned (.int .i64 ((LEN X:Nat) - 1:Int))∧w=w':=by
  have hl:LEN X≤64:=by
    unfold LEN
    have:=z2E (X / 72057594037927936)
    have:=z2E (X / 281474976710656)
    have:=z2E (X / 1099511627776)
    have:=z2E (X / 4294967296)
    have:=z2E (X / 16777216)
    have:=z2E (X / 65536)
    have:=z2E (X / 256)
    have:=z2E X
    repeat' split
    all_goals omega
  exact zfK X _ w (fun w=>zjS X hX w) (by omega) (by omega)
theorem zfQ (p:Int) (hp:9223372036854775807≤p) (w:World):Calls Tryz.prog 76 #[.int .u64 p] w fun e w'=>e=.returned (.tuple #[SPOT 0 0,.bool false])∧Below w.heap.size w w':=by
  go_enter Tryz.func76,Tryz.ntmps76
  go_wp2
  refine bodyPost_ret (v:=.tuple #[SPOT 0 0,.bool false]) ?_ rfl ⟨rfl,(Below.refl _ _).alloc (Nat.le_refl _) _⟩
  simp [results,Tryz.f76,go_sem]
theorem zjV {m H:Nat} (hH:1≤H):m*2 ^ H ||| 2 ^ (H - 1)=(2*m+1)*2 ^ (H - 1):=by
  have h1:2 ^ (H - 1)<2 ^ H:=Nat.pow_lt_pow_right (by decide) (by omega)
  have h2:=Nat.shiftLeft_add_eq_or_of_lt h1 m
  rw [Nat.shiftLeft_eq] at h2
  rw [← h2,Nat.add_mul,Nat.one_mul]
  congr 1
  obtain ⟨j,rfl⟩:∃ j,H=j+1:=⟨H - 1,by omega⟩
  rw [Nat.add_sub_cancel,Nat.pow_succ,Nat.mul_comm 2 m,Nat.mul_assoc,Nat.mul_comm 2]
theorem z85 (h k:Nat) (hN:Node h k) (w:World):Calls Tryz.prog 76 #[.int .u64 ((PLC h k:Nat):Int)] w fun e w'=>e=.returned (.tuple #[SPOT h k,.bool true])∧Below w.heap.size w w':=by
  have hp:=hN.lt
  obtain ⟨p,hpe⟩:∃ p,p=PLC h k:=⟨_,rfl⟩
  rw [← hpe] at hp ⊢
  have HN:Aside (Node h k∧p=PLC h k∧p<9223372036854775807):=⟨hN,hpe,hp⟩
  have hd:decide ((9223372036854775807:Int)≤(p:Int))=false:=by simp;omega
  have e1:IntKind.u64.wrap ((p:Int)+1)=(p:Int)+1:=by rw [z0d];omega
  have c1:=zbU (p+1) (by omega)
  obtain ⟨h1,h2,h3⟩:=z9I (p+1) (by omega) (by omega)
  obtain ⟨H,hH⟩:∃ H,LEN (p+1)=H+1:=⟨LEN (p+1) - 1,by omega⟩
  rw [hH] at h2 h3 c1
  rw [show (((H+1:Nat):Int) - 1)=(H:Int) by omega,show ((p+1:Nat):Int)=(p:Int)+1 by omega] at c1
  have HH:Aside (H≤62∧p+2≤2 ^ (H+1)):=by
    refine ⟨?_,by omega⟩
    rcases Nat.lt_or_ge 62 H with h | h
    · have:2 ^ 63≤2 ^ H:=Nat.pow_le_pow_right (by decide) h
      simp at h2
      omega
    · exact h
  clear hN hpe hp h1 h2 h3 hH
  go_enter Tryz.func76,Tryz.ntmps76
  go_wp2_with fail
  refine (c1 _).mono ?_
  rintro e w' ⟨rfl,rfl⟩
  clear c1
  go_wp2
  go_loopg [0,4,5] H (fun g s0 s4 s5 wx=>∃ q L:Nat,s0=.int .u64 (q:Int)∧s4=.int .i64 (g:Int)∧s5=.int .u64 (L:Int)∧Aside (wx=w.alloc (.cells #[.int .u8 0,.int .u64 0] 110)∧g≤62∧q+2≤2 ^ (g+1)∧∃ m,L=m*2 ^ g∧Node g m∧p=z0t L+q))
  case atStart=>exact ⟨p,0,rfl,rfl,rfl,rfl,HH.out.1,HH.out.2,0,by simp,⟨HH.out.1,Nat.two_pow_pos _⟩,by rw [z2W];omega⟩
  case round=>
    obtain ⟨q,L,rfl,rfl,rfl,A⟩:=hrel
    obtain ⟨hw,hg,hq,m,hL,hNm,hpL⟩:=A.out
    clear A
    have e2:IntKind.u64.wrap ((q:Int)+1)=(q:Int)+1:=by
      have:2 ^ (gk+1)≤2 ^ 63:=Nat.pow_le_pow_right (by decide) (by omega)
      rw [z0d]
      omega
    have c1:=z33 gk (by omega)
    by_cases hT:q+1=TREE gk
    · have hmk:h=gk∧k=m:=by
        refine HN.out.1.one hNm ?_
        rw [← HN.out.2.1,hpL,hL]
        unfold PLC
        unfold TREE at hT
        have:=z23 gk
        omega
      obtain ⟨rfl,rfl⟩:=hmk
      have hLk:(L:Int) / 2 ^ h=(k:Int):=by
        rw [hL,z2c,Nat.mul_div_cancel _ (Nat.two_pow_pos h)]
      rw [← hT,show ((q+1:Nat):Int)=(q:Int)+1 by omega] at c1
      have R:Aside (L=k*2 ^ h∧h≤62∧(L:Int) / 2 ^ h=(k:Int)):=⟨hL,hg,hLk⟩
      clear hg hq hL hNm hpL HN HH hT hLk
      subst hw
      go_wp2_with fail
      refine (c1 _).mono ?_
      rintro e w' ⟨rfl,rfl⟩
      clear c1
      go_wp2
      obtain ⟨hL,hg,hLk⟩:=R.out
      rw [show (h:Int) % 256=(h:Int) by omega,show min h 64=h by omega,hLk]
      refine bodyPost_ret (v:=.tuple #[SPOT h k,.bool true]) ?_ rfl ⟨rfl,(Below.refl _ _).alloc (Nat.le_refl _) _⟩
      simp [results,Tryz.f76,go_sem]
    · have h1 : 1≤gk:=by
        rcases Nat.eq_zero_or_pos gk with h0 | h0
        · subst h0
          simp at hq
          unfold TREE at hT
          simp at hT
          omega
        · exact h0
      obtain ⟨g,rfl⟩:∃ g,gk=g+1:=⟨gk - 1,by omega⟩
      have c2:=z33 g (by omega)
      have hb:((q:Int)+1 == ((TREE (g+1):Nat):Int))=false:=by simp;omega
      generalize hT1:TREE (g+1)=t1 at *
      have e3:wrap64 (g:Int)=(g:Int):=by unfold wrap64;omega
      rw [show (((g+1:Nat):Int))=(g:Int)+1 by omega] at c1 ⊢
      have R:Aside (wr=w.alloc (.cells #[.int .u8 0,.int .u64 0] 110)∧g+1≤62∧q+2≤2 ^ (g+1+1)∧L=m*2 ^ (g+1)∧Node (g+1) m∧p=z0t L+q∧q+1≠t1∧TREE (g+1)=t1):=⟨hw,hg,hq,hL,hNm,hpL,hT,hT1⟩
      clear hw hg hq hL hNm hpL hT hT1 h1 HN HH
      by_cases hlt:TREE g≤q
      · have hd2:decide (((TREE g:Nat):Int)≤(q:Int))=true:=by simp;omega
        obtain ⟨t2,ht2⟩:∃ t2,TREE g=t2:=⟨_,rfl⟩
        rw [ht2] at c2 hd2
        have hd3:(t2:Int)≤(q:Int):=by simpa using hd2
        have R2:Aside (TREE g=t2∧t2≤q):=⟨ht2,by omega⟩
        clear hlt ht2 hd2
        go_wp2_with fail
        refine (c1 _).mono ?_
        rintro e w' ⟨rfl,rfl⟩
        clear c1
        go_wp2_with fail
        refine (c2 _).mono ?_
        rintro e w' ⟨rfl,rfl⟩
        clear c2
        go_wp2
        go_roundg g
        case measure=>omega
        case rel=>
          obtain ⟨r1,r2,r3,r4,r5,r6,r7,r8⟩:=R.out
          obtain ⟨s1,s2⟩:=R2.out
          have hpw:=z23 g
          have hpp:2 ^ (g+1+1)=2*2 ^ (g+1):=by rw [Nat.pow_succ 2 (g+1),Nat.mul_comm]
          have hp63:2 ^ (g+1+1)≤2 ^ 63:=Nat.pow_le_pow_right (by decide) (by omega)
          have hg64:2 ^ g<2 ^ 64:=Nat.pow_lt_pow_right (by decide) (by omega)
          have hL64:L<2 ^ 64:=by
            have:=r5.span
            rw [Nat.add_mul,← r4] at this
            omega
          have ea:IntKind.u64.wrap ((q:Int) - t2)=((q - t2:Nat):Int):=by rw [z0d];omega
          have eb:bits .or .u64 (L:Int) (IntKind.u64.wrap (2 ^ min g 64))=(((2*m+1)*2 ^ g:Nat):Int):=by
            have e5:IntKind.u64.wrap (2 ^ min g 64)=((2 ^ g:Nat):Int):=by
              rw [z0d,show min g 64=g by omega,Int.natCast_pow]
              have:((2 ^ g:Nat):Int)=(2:Int) ^ g:=by simp
              have h7:((2:Nat):Int)=2:=rfl
              rw [h7,← this]
              omega
            rw [e5,zcz hL64 hg64,r4]
            exact congrArg (fun x:Nat=>(x:Int)) (zjV (m:=m) (H:=g+1) (by omega))
          unfold TREE at s1 r8
          rw [ea,eb,e3]
          refine ⟨q - t2,(2*m+1)*2 ^ g,rfl,rfl,rfl,r1,by omega,by omega,2*m+1,rfl,⟨by omega,?_⟩,?_⟩
          · have:=r5.2
            rw [show 62 - g=62 - (g+1)+1 by omega,Nat.pow_succ]
            omega
          · have e6:=z50 m g
            rw [z1i,← r4] at e6
            rw [e6,r6]
            unfold TREE
            omega
      · have hd3:¬ ((TREE g:Nat):Int)≤(q:Int):=by omega
        obtain ⟨t2,ht2⟩:∃ t2,TREE g=t2:=⟨_,rfl⟩
        rw [ht2] at c2 hd3
        have R2:Aside (TREE g=t2∧q<t2):=⟨ht2,by omega⟩
        clear hlt ht2
        go_wp2_with fail
        refine (c1 _).mono ?_
        rintro e w' ⟨rfl,rfl⟩
        clear c1
        go_wp2_with fail
        refine (c2 _).mono ?_
        rintro e w' ⟨rfl,rfl⟩
        clear c2
        go_wp2
        go_roundg g
        case measure=>omega
        case rel=>
          obtain ⟨r1,r2,r3,r4,r5,r6,r7,r8⟩:=R.out
          obtain ⟨s1,s2⟩:=R2.out
          have hpw:=z23 g
          unfold TREE at s1
          rw [e3]
          refine ⟨q,L,rfl,rfl,rfl,r1,by omega,by omega,2*m,by rw [z1i,← r4],⟨by omega,?_⟩,r6⟩
          have:=r5.2
          rw [show 62 - g=62 - (g+1)+1 by omega,Nat.pow_succ]
          omega
end Go.Proofs.YtbmjoiiagldklaaGreatDoor

namespace Go.Proofs.YtbmjoiiagldklaaGreatDoor
open Go.RowKit
def SpotAt (p:Int) (h k:Nat) (ok:Bool):Prop:=∀ w,Calls Tryz.prog 76 #[.int .u64 p] w fun e w'=>e=.returned (.tuple #[SPOT h k,.bool ok])∧Below w.heap.size w w'
theorem SpotAt.node {h k:Nat} (hN:Node h k):SpotAt ((PLC h k:Nat):Int) h k true:=fun w=>z85 h k hN w
theorem SpotAt.out {p:Int} (hp:9223372036854775807≤p):SpotAt p 0 0 false:=fun w=>zfQ p hp w
theorem z5F (p:Int) (h k:Nat) (b:Bool) (w:World) (ha:(bits .and .u64 (k:Int) 1 == 1)=b) (cs:SpotAt p h k true):
    Calls Tryz.prog 38 #[.int .u64 p] w fun e w'=>e=.returned (.bool b)∧Below w.heap.size w w':=by
  have cs:=cs w
  go_enter Tryz.func38,Tryz.ntmps38
  go_wp2_with fail
  refine cs.mono ?_
  rintro e w1 ⟨rfl,hb⟩
  clear cs
  have R:Aside (Below w.heap.size w w1):=hb
  clear hb
  go_wp2
  go_ret
  exact ⟨rfl,R.out.alloc R.out.size _⟩
end Go.Proofs.YtbmjoiiagldklaaGreatDoor

namespace Go.Proofs.YtbmjoiiagldklaaGreatDoor
open Go.RowKit
theorem z0P {P:Program} {f:FuncId} {args:Array Value} {w:World} {n:Nat} {v:Value}
    (h:Calls P f args (w.drewN n) fun e w'=>e=.returned v∧w.drewN n=w'):Calls P f args (w.drewN n) fun e w''=>e=.returned v∧∃ m,w''=w.drewN m:=
  h.mono fun _ _ ⟨he,hm⟩=>⟨he,n,hm.symm⟩
end Go.Proofs.YtbmjoiiagldklaaGreatDoor

namespace Go.Proofs.YtbmjoiiagldklaaGreatDoor
open Go.RowKit
theorem zhc (k:Nat) (hk:k<2 ^ 64):bits .and .u64 (k:Int) 1=((k % 2:Nat):Int):=by
  have:bits .and .u64 (k:Int) ((1:Nat):Int)=((k &&& 1:Nat):Int):=z5A hk (by decide)
  rw [Nat.and_one_is_mod] at this
  exact this
theorem ze8 (k:Nat) (hk:k<2 ^ 64):(bits .and .u64 (k:Int) 1 == 1)=decide (k % 2=1):=by
  rw [zhc k hk,Bool.eq_iff_iff]
  simp
  omega
theorem zcQ (h k:Nat):PLC (h+1) (k / 2)=if k % 2=1 then PLC h k+1 else PLC h k+TREE h+1:=by
  split
  · have:=z5C h (k / 2)
    rw [show 2*(k / 2)+1=k by omega] at this
    exact this
  · have:=z6r h (k / 2)
    rw [show 2*(k / 2)=k by omega] at this
    have h3:=z23 h
    unfold TREE
    omega
theorem zb4 (h k:Nat):PLC h (SIB k)=if k % 2=1 then PLC h k - TREE h else PLC h k+TREE h:=by
  unfold SIB
  split
  · have:=z80 h (k / 2)
    rw [show 2*(k / 2)+1=k by omega,show 2*(k / 2)=k - 1 by omega] at this
    omega
  · have:=z80 h (k / 2)
    rw [show 2*(k / 2)=k by omega] at this
    omega
theorem z9o {h k:Nat} (hk:k % 2=1):TREE h≤PLC h k:=by
  have:=z80 h (k / 2)
  rw [show 2*(k / 2)+1=k by omega] at this
  omega
theorem zhd (h k:Nat) (hN:Node h k) (hh:h<62) (w:World):Calls Tryz.prog 101 #[.int .u64 ((PLC h k:Nat):Int),.int .i64 (h:Int),.bool (decide (k % 2=1))] w fun e w'=>e=.returned (.int .u64 ((PLC (h+1) (k / 2):Nat):Int))∧w=w':=by
  have h1:=(hN.up hh).lt
  have h2:=zcQ h k
  by_cases hk:k % 2=1
  · rw [if_pos hk] at h2
    rw [decide_eq_true hk]
    have:=zcP (PLC h k:Nat) (h:Int) w
    rw [show IntKind.u64.wrap (((PLC h k:Nat):Int)+1)=((PLC (h+1) (k / 2):Nat):Int) by rw [z0d];omega] at this
    exact this
  · rw [if_neg hk] at h2
    rw [decide_eq_false hk]
    have:=ze4 (PLC h k:Nat) (h:Int) (TREE h:Nat) w (fun w=>z33 h (by omega) w)
    rw [show IntKind.u64.wrap (IntKind.u64.wrap (((PLC h k:Nat):Int)+((TREE h:Nat):Int))+1)=((PLC (h+1) (k / 2):Nat):Int) by rw [z0d,z0d];omega] at this
    exact this
theorem ze9 (h k:Nat) (hN:Node h k) (hh:h<62) (w:World):Calls Tryz.prog 100 #[.int .u64 ((PLC h k:Nat):Int),.int .i64 (h:Int),.bool (decide (k % 2=1))] w fun e w'=>e=.returned (.int .u64 ((PLC h (SIB k):Nat):Int))∧w=w':=by
  have h0:=hN.lt
  have h1:=(hN.sib hh).lt
  have h2:=zb4 h k
  by_cases hk:k % 2=1
  · rw [if_pos hk] at h2
    rw [decide_eq_true hk]
    have h3:=z9o (h:=h) hk
    have:=z9J (PLC h k:Nat) (h:Int) (TREE h:Nat) w (fun w=>z33 h (by omega) w)
    rw [show IntKind.u64.wrap (((PLC h k:Nat):Int) - ((TREE h:Nat):Int))=((PLC h (SIB k):Nat):Int) by rw [z0d];omega] at this
    exact this
  · rw [if_neg hk] at h2
    rw [decide_eq_false hk]
    have:=zb2 (PLC h k:Nat) (h:Int) (TREE h:Nat) w (fun w=>z33 h (by omega) w)
    rw [show IntKind.u64.wrap (((PLC h k:Nat):Int)+((TREE h:Nat):Int))=((PLC h (SIB k):Nat):Int) by rw [z0d];omega] at this
    exact this
theorem z2z (h k:Nat) (hN:Node h k) (w:World):Calls Tryz.prog 38 #[.int .u64 ((PLC h k:Nat):Int)] w fun e w'=>e=.returned (.bool (decide (k % 2=1)))∧Below w.heap.size w w':=
  z5F _ h k _ w (ze8 k (by have:=hN.index_lt;omega)) (.node hN)
end Go.Proofs.YtbmjoiiagldklaaGreatDoor

namespace Go.Proofs.YtbmjoiiagldklaaGreatDoor
open Go.RowKit Go.Shelf
attribute [local go_sem] Oper.semAt_some
def UPTO {α:Type} (f:Nat→α) (k:Nat):List α:=(List.range k).map f
theorem z2g {α:Type} (f:Nat→α) (k:Nat):UPTO f (k+1)=UPTO f k ++ [f k]:=by simp [UPTO,List.range_succ]
theorem z3z {α:Type} (f:Nat→α) (k:Nat):(UPTO f k).length=k:=by simp [UPTO]
def KB (n₀ Bs:Nat) (A B:World):Prop:=Below n₀ A B∧B.cell? ⟨Bs,0,none⟩=A.cell? ⟨Bs,0,none⟩
theorem KB.t {n₀ Bs:Nat} {A B C:World} (h:KB n₀ Bs A B) (k:KB n₀ Bs B C):KB n₀ Bs A C:=⟨h.1.trans k.1,k.2.trans h.2⟩
theorem KB.b {n₀ Bs:Nat} {w:World} (hn:n₀≤w.heap.size) (hB:Bs<w.heap.size) (W:World) (l:Nat) (o o':Obj) (hl:w.heap.size≤l) (h:W.heap[l]?=some o) (h1:o.isCells=false) (h2:o.isWalk=false):KB n₀ Bs W (W.putObj l o'):=
  ⟨belowK_b hn W l o o' hl h h1 h2,(belowK_b (Nat.le_refl w.heap.size) W l o o' hl h h1 h2).cell (p:=⟨Bs,0,none⟩) hB⟩
def BACK (len:Nat) (f:Nat→Fin 64) (j:Nat):Nat × Fin 64:=(len - 1 - j,f (len - 1 - j))
set_option maxRecDepth 100000 in
set_option maxHeartbeats 2000000 in
theorem z9Q (F:Fence) (n:Nat) (hF:F.fn 159) (hro:F.round=none) (hn:1≤n) (l Bs n₀ b len cap:Nat) (f:Nat→Fin 64) (hreach:len≤64) (hb:b<n₀) (J Jx:List (Nat × Fin 64)→World→Prop)
    (hY:∀ pre x W,J pre W→pre.length<len→YieldAt F (n - 1) Tryz.prog l #[.int .i64 (x.1:Int),.int .i64 (x.2.val:Int)] W fun e W'=>
      (e=.returned (.bool true)∧J (pre ++ [x]) W'∧KB n₀ Bs W W')∨(e=.returned (.bool false)∧Jx (pre ++ [x]) W'))
    (W:World) (hBs:W.cell? ⟨Bs,0,none⟩=some (.slice (some ⟨b,0,none⟩) len cap)) (hc:∀ j,j<len→W.cell? ⟨b,j,none⟩=some (.int .i64 ((f j).val:Int))) (h0:J [] W):
    CallsIn F n Tryz.prog 159 #[.func (.yield l) #[] #[],.pointer (some ⟨Bs,0,none⟩)] W fun e W'=>(∃ v,e=.returned v)∧
      ((∃ ys,ys=UPTO (BACK len f) len∧J ys W')∨(∃ pre,(∃ k,k≤len∧pre=UPTO (BACK len f) k)∧Jx pre W')):=by
  refine callsIn_of_wp Tryz.func159 rfl hF ?_ hro
  simp only [Tryz.ntmps159,List.size_toArray,List.length_cons,List.length_nil,Nat.reduceAdd,Nat.reduceSub,Array.replicate_succ,Array.replicate_zero,List.push_toArray,List.append_toArray,List.nil_append,List.cons_append]
  have e1:wrap64 ((len:Int) - 1)=(len:Int) - 1:=by unfold wrap64;omega
  gi_wp2
  gi_loopw [3] (fun i wr=>∃ k:Nat,k≤len∧i=.int .i64 ((len:Int) - 1 - (k:Int))∧J (UPTO (BACK len f) k) wr∧KB n₀ Bs W wr)
    (fun i _=>(intOf i+1).toNat)
  case atStart=>exact ⟨0,Nat.zero_le _,by simp,h0,Below.refl _ _,rfl⟩
  case round=>
    obtain ⟨k,hk,rfl,hJs,hnx⟩:=hrel
    by_cases hlt:k<len
    · obtain ⟨j,hj⟩:∃ j:Nat,(len:Int) - 1 - (k:Int)=(j:Int):=⟨len - 1 - k,by omega⟩
      have hjl:j<len:=by omega
      have hbk:BACK len f k=(j,f j):=by
        unfold BACK
        rw [show len - 1 - k=j by omega]
      have hcx:wr.cell? ⟨b,j,none⟩=some (.int .i64 ((f j).val:Int)):=(hnx.1.cell (p:=⟨b,j,none⟩) hb).trans (hc j hjl)
      have hcs:wr.cell? ⟨Bs,0,none⟩=some (.slice (some ⟨b,0,none⟩) len cap):=hnx.2.trans hBs
      obtain ⟨fn,tmps,assign,body,hy,hR⟩:=hY _ (j,f j) wr hJs (by rw [z3z];exact hlt)
      dsimp only at hy
      rw [hj]
      have e2:wrap64 ((j:Int) - 1)=(j:Int) - 1:=by unfold wrap64;omega
      have hJ':Aside ((len:Int) - 1 - (k:Int)=(j:Int)):=hj
      have hjl':(j:Int)<(len:Int):=by omega
      clear hj
      gi_wp2
      refine hR.mono ?_
      rintro e W3 (⟨rfl,hJ3,hk3⟩ | ⟨rfl,hJx3⟩)
      · gi_wp2
        go_roundw
        case rel=>exact ⟨k+1,by omega,by have:=hJ'.out;congr 1;omega,by rw [z2g,hbk];exact hJ3,hnx.t hk3⟩
        case measure=>simp [intOf]
      · gi_wp2
        refine bodyPost_ret (results_none rfl _ _ _) rfl ?_
        exact ⟨⟨_,rfl⟩,.inr ⟨_,⟨k+1,by omega,by rw [z2g,hbk]⟩,hJx3⟩⟩
    · obtain rfl:k=len:=by omega
      rw [show (k:Int) - 1 - (k:Int) = -1 by omega]
      gi_wp2
      go_end0
      exact ⟨⟨_,rfl⟩,.inl ⟨_,rfl,hJs⟩⟩
set_option maxHeartbeats 1000000 in
theorem zb5 (F:Fence) (n:Nat) (hF:F.fn 129) (hro:F.round=none) (a:Option Addr) (len cap:Nat) (w:World):
    CallsIn F n Tryz.prog 129 #[.slice a len cap] w fun e w'=>e=.returned (.func (.func 159) #[] #[.pointer (some ⟨w.heap.size,0,none⟩)])∧w'=w.alloc (.cells #[.slice a len cap] 176):=by
  refine callsIn_of_wp Tryz.func129 rfl hF ?_ hro
  simp only [Tryz.ntmps129,List.size_toArray,List.length_cons,List.length_nil,Nat.reduceAdd,Nat.reduceSub,Array.replicate_succ,Array.replicate_zero,List.push_toArray,List.append_toArray,List.nil_append,List.cons_append]
  gi_wp2
  go_ret
  exact ⟨rfl,rfl⟩
theorem z86 (F:Fence) (n:Nat) (hF:F.fn 159) (hro:F.round=none) (hn:1≤n) (Bs n₀ b len cap:Nat) (f:Nat→Fin 64) (hreach:len≤64) (hb:b<n₀) (w:World) (hBs:Bs<w.heap.size) (hn₀:n₀≤w.heap.size)
    (hc:w.cell? ⟨Bs,0,none⟩=some (.slice (some ⟨b,0,none⟩) len cap)) (hI:∀ j,j<len→w.cell? ⟨b,j,none⟩=some (.int .i64 ((f j).val:Int))):
    SeqStopsK F n Tryz.prog 159 #[.pointer (some ⟨Bs,0,none⟩)] (fun x:Nat × Fin 64=>#[Value.int .i64 (x.1:Int),Value.int .i64 (x.2.val:Int)]) (KB n₀ Bs) (fun ys=>ys=UPTO (BACK len f) len)
      (fun pre=>∃ k,k≤len∧pre=UPTO (BACK len f) k) len w:=fun l J Jx W hW _ _ hY h0=>
  z9Q F n hF hro hn l Bs n₀ b len cap f hreach hb J Jx hY W ((hW.cell (p:=⟨Bs,0,none⟩) hBs).trans hc) (fun j hj=>(hW.cell (p:=⟨b,j,none⟩) (by show b<_;omega)).trans (hI j hj)) h0
end Go.Proofs.YtbmjoiiagldklaaGreatDoor
