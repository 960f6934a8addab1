/- Texts of SpanMakes, one behind the other: PosSpot, PosKin, PosPlace, PosOk, MmrCalls, MmrTree, StoreHeld, MmrHeld, NumByteCalls, NumAppend. -/
import Derived.Deep.LoopGhost
import Derived.Deep.QuietTactic
import Derived.BigQuiet
import Derived.Deep.RegionHeld3
import Derived.Deep.AppendLies
import Derived.Laws.AppendOwnNone
import Derived.Test.YtnmalbngdhjhjaaGreatDoorSpanMakesP19
namespace Go.Proofs.YtnmalbngdhjhjaaGreatDoor
open Go.RowKit
abbrev SPOT (h k:Nat):Value:=.agg #[.int .u8 (h:Int),.int .u64 (k:Int)]
theorem zfA (X:Nat) (hX:X<2 ^ 64) (w:World):Calls Tryz.prog 158 #[.int .u64 (X:Int)] w fun e w'=>e=.returned (.int .i64 ((LEN X:Nat) - 1:Int))∧w=w':=by
  have hl:LEN X≤64:=by
    unfold LEN
    have:=z2o (X / 72057594037927936)
    have:=z2o (X / 281474976710656)
    have:=z2o (X / 1099511627776)
    have:=z2o (X / 4294967296)
    have:=z2o (X / 16777216)
    have:=z2o (X / 65536)
    have:=z2o (X / 256)
    have:=z2o X
    repeat' split
    all_goals omega
  exact ze5 X _ w (fun w=>zgA X hX w) (by omega) (by omega)
theorem zeb (p:Int) (hp:9223372036854775807≤p) (w:World):Calls Tryz.prog 97 #[.int .u64 p] w fun e w'=>e=.returned (.tuple #[SPOT 0 0,.bool false])∧Below w.heap.size w w':=by
  go_enter Tryz.func97,Tryz.ntmps97
  go_wp2
  refine bodyPost_ret (v:=.tuple #[SPOT 0 0,.bool false]) ?_ rfl ⟨rfl,(Below.refl _ _).alloc (Nat.le_refl _) _⟩
  simp [results,Tryz.f97,go_sem]
theorem zgD {m H:Nat} (hH:1≤H):m*2 ^ H ||| 2 ^ (H - 1)=(2*m+1)*2 ^ (H - 1):=by
  have h1:2 ^ (H - 1)<2 ^ H:=Nat.pow_lt_pow_right (by decide) (by omega)
  have h2:=Nat.shiftLeft_add_eq_or_of_lt h1 m
  rw [Nat.shiftLeft_eq] at h2
  rw [← h2,Nat.add_mul,Nat.one_mul]
  congr 1
  obtain ⟨j,rfl⟩:∃ j,H=j+1:=⟨H - 1,by omega⟩
  rw [Nat.add_sub_cancel,Nat.pow_succ,Nat.mul_comm 2 m,Nat.mul_assoc,Nat.mul_comm 2]
theorem zfB (h k:Nat) (hN:Node h k) (w:World):Calls Tryz.prog 97 #[.int .u64 ((PLC h k:Nat):Int)] w fun e w'=>e=.returned (.tuple #[SPOT h k,.bool true])∧Below w.heap.size w w':=by
  have hp:=hN.lt
  obtain ⟨p,hpe⟩:∃ p,p=PLC h k:=⟨_,rfl⟩
  rw [← hpe] at hp ⊢
  have HN:Aside (Node h k∧p=PLC h k∧p<9223372036854775807):=⟨hN,hpe,hp⟩
  have hd:decide ((9223372036854775807:Int)≤(p:Int))=false:=by simp;omega
  have e1:IntKind.u64.wrap ((p:Int)+1)=(p:Int)+1:=by rw [z0a];omega
  have c1:=zfA (p+1) (by omega)
  obtain ⟨h1,h2,h3⟩:=ze4 (p+1) (by omega) (by omega)
  obtain ⟨H,hH⟩:∃ H,LEN (p+1)=H+1:=⟨LEN (p+1) - 1,by omega⟩
  rw [hH] at h2 h3 c1
  rw [show (((H+1:Nat):Int) - 1)=(H:Int) by omega,show ((p+1:Nat):Int)=(p:Int)+1 by omega] at c1
  have HH:Aside (H≤62∧p+2≤2 ^ (H+1)):=by
    refine ⟨?_,by omega⟩
    rcases Nat.lt_or_ge 62 H with h | h
    · have:2 ^ 63≤2 ^ H:=Nat.pow_le_pow_right (by decide) h
      simp at h2
      omega
    · exact h
  clear hN hpe hp h1 h2 h3 hH
  go_enter Tryz.func97,Tryz.ntmps97
  go_wp2_with fail
  refine (c1 _).mono ?_
  rintro e w' ⟨rfl,rfl⟩
  clear c1
  go_wp2
  go_loopg [0,4,5] H (fun g s0 s4 s5 wx=>∃ q L:Nat,s0=.int .u64 (q:Int)∧s4=.int .i64 (g:Int)∧s5=.int .u64 (L:Int)∧Aside (wx=w.alloc (.cells #[.int .u8 0,.int .u64 0] 104)∧g≤62∧q+2≤2 ^ (g+1)∧∃ m,L=m*2 ^ g∧Node g m∧p=z01 L+q))
  case atStart=>exact ⟨p,0,rfl,rfl,rfl,rfl,HH.out.1,HH.out.2,0,by simp,⟨HH.out.1,Nat.two_pow_pos _⟩,by rw [z26];omega⟩
  case round=>
    obtain ⟨q,L,rfl,rfl,rfl,A⟩:=hrel
    obtain ⟨hw,hg,hq,m,hL,hNm,hpL⟩:=A.out
    clear A
    have e2:IntKind.u64.wrap ((q:Int)+1)=(q:Int)+1:=by
      have:2 ^ (gk+1)≤2 ^ 63:=Nat.pow_le_pow_right (by decide) (by omega)
      rw [z0a]
      omega
    have c1:=z2M gk (by omega)
    by_cases hT:q+1=TREE gk
    · have hmk:h=gk∧k=m:=by
        refine HN.out.1.one hNm ?_
        rw [← HN.out.2.1,hpL,hL]
        unfold PLC
        unfold TREE at hT
        have:=z1M gk
        omega
      obtain ⟨rfl,rfl⟩:=hmk
      have hLk:(L:Int) / 2 ^ h=(k:Int):=by
        rw [hL,z3D,Nat.mul_div_cancel _ (Nat.two_pow_pos h)]
      rw [← hT,show ((q+1:Nat):Int)=(q:Int)+1 by omega] at c1
      have R:Aside (L=k*2 ^ h∧h≤62∧(L:Int) / 2 ^ h=(k:Int)):=⟨hL,hg,hLk⟩
      clear hg hq hL hNm hpL HN HH hT hLk
      subst hw
      go_wp2_with fail
      refine (c1 _).mono ?_
      rintro e w' ⟨rfl,rfl⟩
      clear c1
      go_wp2
      obtain ⟨hL,hg,hLk⟩:=R.out
      rw [show (h:Int) % 256=(h:Int) by omega,show min h 64=h by omega,hLk]
      refine bodyPost_ret (v:=.tuple #[SPOT h k,.bool true]) ?_ rfl ⟨rfl,(Below.refl _ _).alloc (Nat.le_refl _) _⟩
      simp [results,Tryz.f97,go_sem]
    · have h1 : 1≤gk:=by
        rcases Nat.eq_zero_or_pos gk with h0 | h0
        · subst h0
          simp at hq
          unfold TREE at hT
          simp at hT
          omega
        · exact h0
      obtain ⟨g,rfl⟩:∃ g,gk=g+1:=⟨gk - 1,by omega⟩
      have c2:=z2M g (by omega)
      have hb:((q:Int)+1 == ((TREE (g+1):Nat):Int))=false:=by simp;omega
      generalize hT1:TREE (g+1)=t1 at *
      have e3:wrap64 (g:Int)=(g:Int):=by unfold wrap64;omega
      rw [show (((g+1:Nat):Int))=(g:Int)+1 by omega] at c1 ⊢
      have R:Aside (wr=w.alloc (.cells #[.int .u8 0,.int .u64 0] 104)∧g+1≤62∧q+2≤2 ^ (g+1+1)∧L=m*2 ^ (g+1)∧Node (g+1) m∧p=z01 L+q∧q+1≠t1∧TREE (g+1)=t1):=⟨hw,hg,hq,hL,hNm,hpL,hT,hT1⟩
      clear hw hg hq hL hNm hpL hT hT1 h1 HN HH
      by_cases hlt:TREE g≤q
      · have hd2:decide (((TREE g:Nat):Int)≤(q:Int))=true:=by simp;omega
        obtain ⟨t2,ht2⟩:∃ t2,TREE g=t2:=⟨_,rfl⟩
        rw [ht2] at c2 hd2
        have hd3:(t2:Int)≤(q:Int):=by simpa using hd2
        have R2:Aside (TREE g=t2∧t2≤q):=⟨ht2,by omega⟩
        clear hlt ht2 hd2
        go_wp2_with fail
        refine (c1 _).mono ?_
        rintro e w' ⟨rfl,rfl⟩
        clear c1
        go_wp2_with fail
        refine (c2 _).mono ?_
        rintro e w' ⟨rfl,rfl⟩
        clear c2
        go_wp2
        go_roundg g
        case measure=>omega
        case rel=>
          obtain ⟨r1,r2,r3,r4,r5,r6,r7,r8⟩:=R.out
          obtain ⟨s1,s2⟩:=R2.out
          have hpw:=z1M g
          have hpp:2 ^ (g+1+1)=2*2 ^ (g+1):=by rw [Nat.pow_succ 2 (g+1),Nat.mul_comm]
          have hp63:2 ^ (g+1+1)≤2 ^ 63:=Nat.pow_le_pow_right (by decide) (by omega)
          have hg64:2 ^ g<2 ^ 64:=Nat.pow_lt_pow_right (by decide) (by omega)
          have hL64:L<2 ^ 64:=by
            have:=r5.span
            rw [Nat.add_mul,← r4] at this
            omega
          have ea:IntKind.u64.wrap ((q:Int) - t2)=((q - t2:Nat):Int):=by rw [z0a];omega
          have eb:bits .or .u64 (L:Int) (IntKind.u64.wrap (2 ^ min g 64))=(((2*m+1)*2 ^ g:Nat):Int):=by
            have e5:IntKind.u64.wrap (2 ^ min g 64)=((2 ^ g:Nat):Int):=by
              rw [z0a,show min g 64=g by omega,Int.natCast_pow]
              have:((2 ^ g:Nat):Int)=(2:Int) ^ g:=by simp
              have h7:((2:Nat):Int)=2:=rfl
              rw [h7,← this]
              omega
            rw [e5,z5K hL64 hg64,r4]
            exact congrArg (fun x:Nat=>(x:Int)) (zgD (m:=m) (H:=g+1) (by omega))
          unfold TREE at s1 r8
          rw [ea,eb,e3]
          refine ⟨q - t2,(2*m+1)*2 ^ g,rfl,rfl,rfl,r1,by omega,by omega,2*m+1,rfl,⟨by omega,?_⟩,?_⟩
          · have:=r5.2
            rw [show 62 - g=62 - (g+1)+1 by omega,Nat.pow_succ]
            omega
          · have e6:=z3X m g
            rw [z0X,← r4] at e6
            rw [e6,r6]
            unfold TREE
            omega
      · have hd3:¬ ((TREE g:Nat):Int)≤(q:Int):=by omega
        obtain ⟨t2,ht2⟩:∃ t2,TREE g=t2:=⟨_,rfl⟩
        rw [ht2] at c2 hd3
        have R2:Aside (TREE g=t2∧q<t2):=⟨ht2,by omega⟩
        clear hlt ht2
        go_wp2_with fail
        refine (c1 _).mono ?_
        rintro e w' ⟨rfl,rfl⟩
        clear c1
        go_wp2_with fail
        refine (c2 _).mono ?_
        rintro e w' ⟨rfl,rfl⟩
        clear c2
        go_wp2
        go_roundg g
        case measure=>omega
        case rel=>
          obtain ⟨r1,r2,r3,r4,r5,r6,r7,r8⟩:=R.out
          obtain ⟨s1,s2⟩:=R2.out
          have hpw:=z1M g
          unfold TREE at s1
          rw [e3]
          refine ⟨q,L,rfl,rfl,rfl,r1,by omega,by omega,2*m,by rw [z0X,← r4],⟨by omega,?_⟩,r6⟩
          have:=r5.2
          rw [show 62 - g=62 - (g+1)+1 by omega,Nat.pow_succ]
          omega
end Go.Proofs.YtnmalbngdhjhjaaGreatDoor

namespace Go.Proofs.YtnmalbngdhjhjaaGreatDoor
open Go.RowKit
def SpotAt (p:Int) (h k:Nat) (ok:Bool):Prop:=∀ w,Calls Tryz.prog 97 #[.int .u64 p] w fun e w'=>e=.returned (.tuple #[SPOT h k,.bool ok])∧Below w.heap.size w w'
theorem SpotAt.node {h k:Nat} (hN:Node h k):SpotAt ((PLC h k:Nat):Int) h k true:=fun w=>zfB h k hN w
theorem SpotAt.out {p:Int} (hp:9223372036854775807≤p):SpotAt p 0 0 false:=fun w=>zeb p hp w
theorem zcH (p:Int) (h k:Nat) (r s:Int) (w:World) (e0:IntKind.u64.wrap ((k:Int)+1)=(k:Int)+1) (e1:IntKind.u64.wrap ((k:Int)*2 ^ min h 64)=r) (e2:IntKind.u64.wrap (((k:Int)+1)*2 ^ min h 64)=s) (cs:SpotAt p h k true):
    Calls Tryz.prog 214 #[.int .u64 p] w fun e w'=>e=.returned (.tuple #[.int .u64 r,.int .u64 s,.bool true])∧Below w.heap.size w w':=by
  have cs:=cs w
  go_enter Tryz.func214,Tryz.ntmps214
  go_wp2_with fail
  refine cs.mono ?_
  rintro e w1 ⟨rfl,hb⟩
  clear cs
  have R:Aside (Below w.heap.size w w1):=hb
  clear hb
  go_wp2
  have hc0:(w1.alloc (.cells #[.int .u8 (h:Int),.int .u64 (k:Int)] 104)).cell? ⟨w1.heap.size,0,none⟩=some (.int .u8 (h:Int)):=by simp
  have hc1:(w1.alloc (.cells #[.int .u8 (h:Int),.int .u64 (k:Int)] 104)).cell? ⟨w1.heap.size,1,none⟩=some (.int .u64 (k:Int)):=by simp
  have R2:Aside (Below w.heap.size w (w1.alloc (.cells #[.int .u8 (h:Int),.int .u64 (k:Int)] 104))):=R.out.alloc R.out.size _
  clear R
  generalize w1.alloc (.cells #[.int .u8 (h:Int),.int .u64 (k:Int)] 104)=W at *
  generalize w1.heap.size=b at *
  go_quiet (fail)
  go_wp2
  go_ret3
  exact ⟨rfl,below_drewN R2.out nq⟩
theorem z9l (p:Int) (h k:Nat) (b:Bool) (r:Int) (w:World) (hh:((h:Int) == 62)=false) (hm:wrap64 (h:Int)=(h:Int)) (ha:(bits .and .u64 (k:Int) 1 == 1)=b) (cs:SpotAt p h k true)
    (co:∀ w,Calls Tryz.prog 160 #[.int .u64 p,.int .i64 (h:Int),.bool b] w fun e w'=>e=.returned (.int .u64 r)∧w=w'):
    Calls Tryz.prog 98 #[.int .u64 p] w fun e w'=>e=.returned (.tuple #[.int .u64 r,.bool true])∧Below w.heap.size w w':=by
  have cs:=cs w
  go_enter Tryz.func98,Tryz.ntmps98
  go_wp2_with fail
  refine cs.mono ?_
  rintro e w1 ⟨rfl,hb⟩
  clear cs
  have R:Aside (Below w.heap.size w w1):=hb
  clear hb
  go_wp2_with fail
  refine (co _).mono ?_
  rintro e w2 ⟨rfl,rfl⟩
  clear co
  go_wp2
  go_ret2
  exact ⟨rfl,R.out.alloc R.out.size _⟩
theorem zec (p q:Int) (h g k:Nat) (r:Int) (w:World) (hh:((h:Int) == 0)=false) (hm:wrap64 (h:Int)=(h:Int)) (hg:wrap64 ((h:Int) - 1)=(g:Int)) (hq:IntKind.u64.wrap (p - 1)=q) (cs:SpotAt p h k true)
    (co:∀ w,Calls Tryz.prog 160 #[.int .u64 q,.int .i64 (g:Int),.bool true] w fun e w'=>e=.returned (.int .u64 r)∧w=w'):
    Calls Tryz.prog 174 #[.int .u64 p] w fun e w'=>e=.returned (.tuple #[.int .u64 r,.int .u64 q,.bool true])∧Below w.heap.size w w':=by
  have cs:=cs w
  go_enter Tryz.func174,Tryz.ntmps174
  go_wp2_with fail
  refine cs.mono ?_
  rintro e w1 ⟨rfl,hb⟩
  clear cs
  have R:Aside (Below w.heap.size w w1):=hb
  clear hb
  go_wp2_with fail
  refine (co _).mono ?_
  rintro e w2 ⟨rfl,rfl⟩
  clear co
  go_wp2
  go_ret3
  exact ⟨rfl,R.out.alloc R.out.size _⟩
theorem z4m (p:Int) (h k:Nat) (b:Bool) (w:World) (ha:(bits .and .u64 (k:Int) 1 == 1)=b) (cs:SpotAt p h k true):
    Calls Tryz.prog 52 #[.int .u64 p] w fun e w'=>e=.returned (.bool b)∧Below w.heap.size w w':=by
  have cs:=cs w
  go_enter Tryz.func52,Tryz.ntmps52
  go_wp2_with fail
  refine cs.mono ?_
  rintro e w1 ⟨rfl,hb⟩
  clear cs
  have R:Aside (Below w.heap.size w w1):=hb
  clear hb
  go_wp2
  go_ret
  exact ⟨rfl,R.out.alloc R.out.size _⟩
end Go.Proofs.YtnmalbngdhjhjaaGreatDoor

namespace Go.Proofs.YtnmalbngdhjhjaaGreatDoor
open Go.RowKit
theorem z0y {P:Program} {f:FuncId} {args:Array Value} {w:World} {n:Nat} {v:Value}
    (h:Calls P f args (w.drewN n) fun e w'=>e=.returned v∧w.drewN n=w'):Calls P f args (w.drewN n) fun e w''=>e=.returned v∧∃ m,w''=w.drewN m:=
  h.mono fun _ _ ⟨he,hm⟩=>⟨he,n,hm.symm⟩
end Go.Proofs.YtnmalbngdhjhjaaGreatDoor

namespace Go.Proofs.YtnmalbngdhjhjaaGreatDoor
open Go.RowKit
theorem zfC (k:Nat) (hk:k<2 ^ 64):bits .and .u64 (k:Int) 1=((k % 2:Nat):Int):=by
  have:bits .and .u64 (k:Int) ((1:Nat):Int)=((k &&& 1:Nat):Int):=z4h hk (by decide)
  rw [Nat.and_one_is_mod] at this
  exact this
theorem zcI (k:Nat) (hk:k<2 ^ 64):(bits .and .u64 (k:Int) 1 == 1)=decide (k % 2=1):=by
  rw [zfC k hk,Bool.eq_iff_iff]
  simp
  omega
theorem z8e (a h:Nat) (hh:h≤62) (hl:a*2 ^ h<2 ^ 64):IntKind.u64.wrap ((a:Int)*2 ^ min h 64)=((a*2 ^ h:Nat):Int):=by
  rw [show min h 64=h by omega,z7E,Nat.mod_eq_of_lt hl]
theorem z9m (h k:Nat):PLC h (SIB k)=if k % 2=1 then PLC h k - TREE h else PLC h k+TREE h:=by
  unfold SIB
  split
  · have:=z4T h (k / 2)
    rw [show 2*(k / 2)+1=k by omega,show 2*(k / 2)=k - 1 by omega] at this
    omega
  · have:=z4T h (k / 2)
    rw [show 2*(k / 2)=k by omega] at this
    omega
theorem z7q {h k:Nat} (hk:k % 2=1):TREE h≤PLC h k:=by
  have:=z4T h (k / 2)
  rw [show 2*(k / 2)+1=k by omega] at this
  omega
theorem zcJ (h k:Nat) (hN:Node h k) (hh:h<62) (w:World):Calls Tryz.prog 160 #[.int .u64 ((PLC h k:Nat):Int),.int .i64 (h:Int),.bool (decide (k % 2=1))] w fun e w'=>e=.returned (.int .u64 ((PLC h (SIB k):Nat):Int))∧w=w':=by
  have h0:=hN.lt
  have h1:=(hN.sib hh).lt
  have h2:=z9m h k
  by_cases hk:k % 2=1
  · rw [if_pos hk] at h2
    rw [decide_eq_true hk]
    have h3:=z7q (h:=h) hk
    have:=z4A (PLC h k:Nat) (h:Int) (TREE h:Nat) w (fun w=>z2M h (by omega) w)
    rw [show IntKind.u64.wrap (((PLC h k:Nat):Int) - ((TREE h:Nat):Int))=((PLC h (SIB k):Nat):Int) by rw [z0a];omega] at this
    exact this
  · rw [if_neg hk] at h2
    rw [decide_eq_false hk]
    have:=z9j (PLC h k:Nat) (h:Int) (TREE h:Nat) w (fun w=>z2M h (by omega) w)
    rw [show IntKind.u64.wrap (((PLC h k:Nat):Int)+((TREE h:Nat):Int))=((PLC h (SIB k):Nat):Int) by rw [z0a];omega] at this
    exact this
theorem zbj (h k:Nat) (hN:Node h k) (hh:h<62) (w:World):Calls Tryz.prog 98 #[.int .u64 ((PLC h k:Nat):Int)] w fun e w'=>e=.returned (.tuple #[.int .u64 ((PLC h (SIB k):Nat):Int),.bool true])∧Below w.heap.size w w':=
  z9l _ h k (decide (k % 2=1)) _ w (by simp;omega) (by unfold wrap64;omega) (zcI k (by have:=hN.index_lt;omega)) (.node hN) (fun w=>zcJ h k hN hh w)
theorem Node.kid {h k:Nat} (a:Node (h+1) k):Node h (2*k)∧Node h (2*k+1):=by
  have h1:=a.1
  have h2:=a.2
  have e:2 ^ (62 - h)=2 ^ (62 - (h+1))*2:=by rw [← Nat.pow_succ];congr 1;omega
  exact ⟨⟨by omega,by rw [e];omega⟩,⟨by omega,by rw [e];omega⟩⟩
theorem zfD (h k:Nat) (hN:Node (h+1) k) (w:World):Calls Tryz.prog 174 #[.int .u64 ((PLC (h+1) k:Nat):Int)] w fun e w'=>e=.returned (.tuple #[.int .u64 ((PLC h (2*k):Nat):Int),.int .u64 ((PLC h (2*k+1):Nat):Int),.bool true])∧Below w.heap.size w w':=by
  have h1:=hN.1
  have h2:=z2Y h k
  have h3:=z4T h k
  have h4:=hN.lt
  refine zec _ ((PLC h (2*k+1):Nat):Int) (h+1) h k _ w (by simp;omega) (by unfold wrap64;omega) (by unfold wrap64;omega) (by rw [z0a];omega) (.node hN) (fun w=>?_)
  have:=z4A (PLC h (2*k+1):Nat) (h:Int) (TREE h:Nat) w (fun w=>z2M h (by omega) w)
  rw [show IntKind.u64.wrap (((PLC h (2*k+1):Nat):Int) - ((TREE h:Nat):Int))=((PLC h (2*k):Nat):Int) by rw [z0a];omega] at this
  exact this
theorem right_ok (h k:Nat) (hN:Node h k) (w:World):Calls Tryz.prog 52 #[.int .u64 ((PLC h k:Nat):Int)] w fun e w'=>e=.returned (.bool (decide (k % 2=1)))∧Below w.heap.size w w':=
  z4m _ h k _ w (zcI k (by have:=hN.index_lt;omega)) (.node hN)
theorem z5s (h k:Nat) (hN:Node h k) (w:World):Calls Tryz.prog 214 #[.int .u64 ((PLC h k:Nat):Int)] w fun e w'=>e=.returned (.tuple #[.int .u64 ((k*2 ^ h:Nat):Int),.int .u64 (((k+1)*2 ^ h:Nat):Int),.bool true])∧Below w.heap.size w w':=by
  have h1:=hN.1
  have h3:=hN.span
  have h4:=hN.index_lt
  have h5:k*2 ^ h≤(k+1)*2 ^ h:=Nat.mul_le_mul_right _ (by omega)
  refine zcH _ h k _ _ w (by rw [z0a];omega) (z8e k h h1 (by omega)) ?_ (.node hN)
  have:=z8e (k+1) h h1 (by omega)
  rw [show (((k+1:Nat)):Int)=(k:Int)+1 by omega] at this
  exact this
end Go.Proofs.YtnmalbngdhjhjaaGreatDoor

namespace Go.Proofs.YtnmalbngdhjhjaaGreatDoor.HX
open Go.RowKit
set_option maxRecDepth 100000
theorem z8f {fn:Func} {p:Tmp} {ty:TypeId} (h:fn.results=#[.cell p ty]) (tmps:Array Value) (w:World) (g:Nat) (t:TypeId) (cs:Array Value) (fr:Nat × Nat) (k:Nat) (el:TypeId)
    (hp:tmps.getD p undef=.pointer (some ⟨g,0,none⟩)) (hg:w.heap[g]?=some (.cells cs t fr))
    (hu:Tryz.prog.underlying ty=some (.array k el)) (hi:(Tryz.prog.info? ty).map (·.size)=some cs.size):
    (results fn tmps).run Tryz.prog w=.ok (.agg cs) w:=by
  have hp':tmps[p]?.getD undef=.pointer (some ⟨g,0,none⟩):=by simpa using hp
  simp [results,h,hp',asAddr,run_loadVar_row w g t ty cs fr (.array k el) hg hu rfl hi]
set_option maxHeartbeats 1000000 in
theorem zfE {w:World} {B g log len alive N:Nat} {C:z02} (hS:STORE w B g log len alive N C) (j k:Nat) (hN:Node j k) (hj:j<62) (hs:PLC j (SIB k)<len) (L:Nat→Nat) (hL:AT C log (PLC j (SIB k))=some L):
    Calls Tryz.prog 54 #[.pointer (some ⟨g,0,none⟩),.int .u64 ((PLC j k:Nat):Int)] w fun e w'=>e=.returned (.agg (UARR .u8 32 L))∧Below w.heap.size w w':=by
  have hz:=z1A
  obtain ⟨w0,hw0⟩:∃ w0,w.alloc (.cells (UARR .u8 32 fun _=>0) 35)=w0:=⟨_,rfl⟩
  have hb0:Below w.heap.size w w0:=by rw [← hw0];exact (Below.refl _ _).alloc (Nat.le_refl _) _
  have h40:Has w0 w.heap.size (UARR .u8 32 fun _=>0) 35:=by rw [← hw0];exact Has.new w _ _
  have cs:=zbj j k hN hj w0
  have hp64:PLC j (SIB k)<2 ^ 64:=by have:=hS.short;omega
  have cg:=fun (W:World) (hb:Below w0.heap.size w0 W)=>zc8 ((hS.below hb0).below hb) (PLC j (SIB k)) hp64
  have e1:GOTH C log len (PLC j (SIB k))=L:=by unfold GOTH;rw [if_pos hs,hL];rfl
  have e2:GOT C log len (PLC j (SIB k))=0:=by unfold GOT;rw [if_pos hs,hL];rfl
  rw [e1,e2] at cg
  clear hS hN hj hs hL e1 e2 hp64
  generalize PLC j (SIB k)=q at *
  generalize PLC j k=p at *
  go_enter Tryz.func54,Tryz.ntmps54
  go_wp2_with fail
  refine cs.mono ?_
  rintro e w1 ⟨rfl,hb1⟩
  clear cs
  go_wp2_with fail
  refine (cg w1 hb1).mono ?_
  rintro e w2 ⟨rfl,hb2⟩
  clear cg
  have hst:=run_storeCells_new (P:=Tryz.prog) w2 35 (UARR .u8 32 fun _=>0) (UARR .u8 32 L) (z04 _) (by rw [z03,z03]) (z0j _ _ _)
  have hsu:=z03 .u8 32 L
  obtain ⟨w3,hw3⟩:∃ w3,w2.alloc (.cells (UARR .u8 32 L) 35)=w3:=⟨_,rfl⟩
  have hb12:Below w0.heap.size w0 w2:=hb1.trans (hb2.mono hb1.size)
  have hb3:Below w0.heap.size w0 w3:=by rw [← hw3];exact hb12.alloc hb12.size _
  have hF3:Has w3 w2.heap.size (UARR .u8 32 L) 35:=by rw [← hw3];exact Has.new w2 _ _
  have h43:=h40.keep hb3
  have hb3':Below w.heap.size w w3:=hb0.trans (hb3.mono hb0.size)
  have hst2:=z0F h43 L
  go_wp2_with (first
    | (refine wpList_load_row rfl 35 (.tmp 7) rfl w2.heap.size rfl 35 (UARR .u8 32 L) (0,0) _ hF3 Tryz.underlying35 rfl (z04 _) ?_)
    | fail)
  refine bodyPost_ret (v:=.agg (UARR .u8 32 L)) ?_ rfl ⟨rfl,z0d hb3' (Nat.le_refl _) _⟩
  exact z8f rfl _ _ w.heap.size 35 _ (0,0) _ _ rfl (h43.row _) Tryz.underlying35 (z04 _)
set_option maxHeartbeats 1000000 in
theorem z9n {w:World} {B g log len alive N:Nat} {C:z02} (hS:STORE w B g log len alive N C) (p:Nat) (hp:p<2 ^ 64):
    Calls Tryz.prog 127 #[.pointer (some ⟨g,0,none⟩),.int .u64 (p:Int)] w fun e w'=>e=.returned (.tuple #[.agg (UARR .u8 32 (GOTH C log len p)),.int .i64 (GOT C log len p)])∧Below w.heap.size w w':=by
  have hz:=z1A
  obtain ⟨w0,hw0⟩:∃ w0,w.alloc (.cells (UARR .u8 32 fun _=>0) 35)=w0:=⟨_,rfl⟩
  have hb0:Below w.heap.size w w0:=by rw [← hw0];exact (Below.refl _ _).alloc (Nat.le_refl _) _
  have h40:Has w0 w.heap.size (UARR .u8 32 fun _=>0) 35:=by rw [← hw0];exact Has.new w _ _
  have cg:=zc8 (hS.below hb0) p hp
  clear hS
  generalize GOTH C log len p=L at *
  generalize GOT C log len p=E at *
  go_enter Tryz.func127,Tryz.ntmps127
  go_wp2_with fail
  refine cg.mono ?_
  rintro e w1 ⟨rfl,hb1⟩
  clear cg
  have h41:=h40.keep hb1
  have hst2:=z0F h41 L
  have hb1':Below w.heap.size w w1:=hb0.trans (hb1.mono hb0.size)
  have hsu:=z03 .u8 32 L
  go_wp2
  refine bodyPost_ret (v:=.tuple #[.agg (UARR .u8 32 L),.int .i64 E]) ?_ rfl ⟨rfl,z0d hb1' (Nat.le_refl _) _⟩
  exact z0D rfl _ _ w.heap.size 35 _ (0,0) _ _ rfl (h41.row _) _ rfl Tryz.underlying35 (z04 _)
end Go.Proofs.YtnmalbngdhjhjaaGreatDoor.HX

namespace Go.Proofs.YtnmalbngdhjhjaaGreatDoor.HX
open Go.RowKit
set_option maxRecDepth 100000
structure FOREST (w:World) (B g:Nat) (d:Int) (log n:Nat) (C:z02) (f:Nat→Nat→Nat):Prop where
  store:STORE w B g log (z01 n) (z01 n) (z01 n) C
  width:w.cell? ⟨g,5,none⟩=some (.int .i64 d)
  size:w.cell? ⟨g,6,none⟩=some (.int .u64 (n:Int))
  free:w.frozen? ⟨g,6,none⟩=false
  node:∀ h k,(k+1)*2 ^ h≤n→AT C log (PLC h k)=some (VAL d f h k)
  byte:∀ k,k<n→∀ i,f k i<256
  few:n≤2 ^ 20
  base:B≤g
def z65 (d:Int) (log:Nat):Array Value:=#[.int .i64 (log:Int),.int .u64 0,.int .u64 0,.map none,.map none,.int .i64 d,.int .u64 0]
theorem FOREST.new {w:World} {B g:Nat} {d:Int} {log:Nat} (h:Has w g (z65 d log) 86) (hl:log≤16) (hB:B≤g) (f:Nat→Nat→Nat):FOREST w B g d log 0 (fun _=>none) f:=by
  refine ⟨⟨hl,by decide,h.cell 0,h.cell 1,h.cell 2,fun i _=>h.frozen i,⟨_,_,_,h,by decide,by decide,by decide⟩,⟨none,h.cell 3,fun _ _=>rfl,fun b e=>by cases e⟩,fun k gc rs e=>(by cases e),fun k k' gc gc' rs rs' _ e=>by cases e⟩,h.cell 5,h.cell 6,h.frozen 6,fun h k hk=>?_,fun k hk=>by omega,by decide,hB⟩
  have:=z6x h k
  omega
theorem FOREST.below {w w':World} {B g:Nat} {d:Int} {log n:Nat} {C:z02} {f:Nat→Nat→Nat} (h:FOREST w B g d log n C f) (hb:Below w.heap.size w w'):FOREST w' B g d log n C f:=by
  have hg:=h.store.lt
  refine ⟨h.store.below hb,(hb.cell (p:=⟨g,5,none⟩) hg).trans h.width,(hb.cell (p:=⟨g,6,none⟩) hg).trans h.size,?_,h.node,h.byte,h.few,h.base⟩
  exact (World.frozen?_of_block (w:=w) (by exact hb.block g hg)).trans h.free
set_option maxHeartbeats 1000000 in
theorem zbk (d:Int) (log:Nat) (h:log≤16) (w:World):Calls Tryz.prog 7 #[.int .i64 d,.int .i64 (log:Int)] w fun e w'=>
    ∃ g,e=.returned (.tuple #[.pointer (some ⟨g,0,none⟩),.int .i64 0])∧w.heap.size≤g∧Has w' g (z65 d log) 86∧Below w.heap.size w w':=by
  have cn:=z94 log h w
  obtain ⟨w1,hw1⟩:∃ w1,w.alloc (.cells (zaT log) 84)=w1:=⟨_,rfl⟩
  rw [hw1] at cn
  have hH:Has w1 w.heap.size (zaT log) 84:=by rw [← hw1];exact Has.new w _ _
  have hb:Below w.heap.size w w1:=by rw [← hw1];exact (Below.refl _ _).alloc (Nat.le_refl _) _
  clear hw1
  go_enter Tryz.func7,Tryz.ntmps7
  go_wp2_with fail
  refine cn.mono ?_
  rintro e w2 ⟨rfl,rfl⟩
  clear cn
  have x0:=hH.cell 0
  have x1:=hH.cell 1
  have x2:=hH.cell 2
  have x3:=hH.cell 3
  have x4:=hH.cell 4
  go_wp2_with fail
  go_ret2
  exact ⟨_,rfl,hb.size,Has.new _ _ _,hb.alloc hb.size _⟩
end Go.Proofs.YtnmalbngdhjhjaaGreatDoor.HX

namespace Go.Proofs.YtnmalbngdhjhjaaGreatDoor.HX
open Go.RowKit
set_option maxRecDepth 100000
theorem STORE.held {w w':World} {B g log len alive N:Nat} {C:z02} (hS:STORE w B g log len alive N C) (hg:w'.heap[g]?=w.heap[g]?) (hblk:∀ x,FOOT w g C x→w'.heap[x]?=w.heap[x]?):STORE w' B g log len alive N C∧(∀ x,FOOT w' g C x→FOOT w g C x)∧∀ i,w'.cell? ⟨g,i,none⟩=w.cell? ⟨g,i,none⟩:=by
  have cell:∀ i,w'.cell? ⟨g,i,none⟩=w.cell? ⟨g,i,none⟩:=fun i=>World.cell?_of_block (w:=w) (by exact hg)
  have hch:∀ k gc rk,C k=some (gc,rk)→w'.heap[gc]?=w.heap[gc]?∧(∀ v x,w.cell? ⟨gc,0,none⟩=some v→v.ownBlock=some x→w'.heap[x]?=w.heap[x]?)∧∀ r∈rk,w'.heap[r.gh]?=w.heap[r.gh]?:=fun k gc rk e=>
    ⟨hblk _ (.inr ⟨k,gc,rk,e,.inl rfl⟩),fun v x hv hx=>hblk _ (.inr ⟨k,gc,rk,e,.inr (.inl ⟨v,hv,hx⟩)⟩),fun r hr=>hblk _ (.inr ⟨k,gc,rk,e,.inr (.inr ⟨r,hr,rfl⟩)⟩)⟩
  have hcc:∀ k gc rk,C k=some (gc,rk)→w'.cell? ⟨gc,0,none⟩=w.cell? ⟨gc,0,none⟩:=fun k gc rk e=>World.cell?_of_block (w:=w) (by exact (hch k gc rk e).1)
  refine ⟨⟨hS.small,hS.short,(cell 0).trans hS.c0,(cell 1).trans hS.c1,(cell 2).trans hS.c2,fun i hi=>?_,?_,?_,?_,?_⟩,fun x h=>?_,cell⟩
  · have:=hS.live i hi
    unfold World.frozen? at this ⊢
    rw [show w'.heap[g]?=w.heap[g]? from hg]
    exact this
  · obtain ⟨cs,t,fr,k1,k2⟩:=hS.kind
    exact ⟨cs,t,fr,hg.trans k1,k2⟩
  · obtain ⟨mv,m1,m2,m3⟩:=hS.map
    refine ⟨mv,(cell 3).trans m1,m2,fun x e=>?_⟩
    obtain ⟨c1,n,c2,c3⟩:=m3 x e
    refine ⟨c1,n,c2,c3.at (hblk x (.inl (by rw [m1,e])))⟩
  · intro k gc rk e
    obtain ⟨b1,b2,b3⟩:=hS.chunk k gc rk e
    obtain ⟨d1,d2,d3⟩:=hch k gc rk e
    exact ⟨b1,b2.at d1 d2 d3,b3⟩
  · intro k k' gc gc' rs rs' hne e e'
    obtain ⟨o1,o2,o3⟩:=hS.one k k' gc gc' rs rs' hne e e'
    exact ⟨o1,o2,fun v v' hv hv'=>o3 v v' (by rw [← hcc k gc rs e];exact hv) (by rw [← hcc k' gc' rs' e'];exact hv')⟩
  · rcases h with h | ⟨k,gc,rs,e,h⟩
    · left;rw [← cell 3];exact h
    · refine .inr ⟨k,gc,rs,e,?_⟩
      rcases h with h | ⟨v,hv,h⟩ | h
      · exact .inl h
      · exact .inr (.inl ⟨v,by rw [← hcc k gc rs e];exact hv,h⟩)
      · exact .inr (.inr h)
def APART (w:World) (g:Nat) (C:z02) (g':Nat) (C':z02):Prop:=∀ x,(x=g∨FOOT w g C x)→(x=g'∨FOOT w g' C' x)→False
theorem APART.symm {w:World} {g g':Nat} {C C':z02} (h:APART w g C g' C'):APART w g' C' g C:=fun x a b=>h x b a
theorem STORE.foot_base {w:World} {B g log len alive N b:Nat} {C:z02} (hS:STORE w B g log len alive N C) (hb:FOOT w g C b):B≤b:=by
  rcases hb with e | ⟨k,gc,rs,e,h⟩
  · obtain ⟨mv,m1,m2,m3⟩:=hS.map
    rw [e] at m1
    have hm:mv=some b:=by cases Option.some.inj m1;rfl
    exact (m3 b hm).1
  · have hC:=(hS.chunk k gc rs e).2.1
    rcases h with rfl | ⟨v,hv,h⟩ | ⟨r,hr,rfl⟩
    · exact hC.far
    · obtain ⟨v0,h1,h2⟩:=hC.box
      rw [h1.cell 0] at hv
      cases Option.some.inj hv
      exact (h2.lt b h).1
    · exact ((hC.row r hr).2.2.2.2.lt r.gh rfl).1
theorem STORE.later {w w':World} {B g g' log len alive N log' len' alive' N':Nat} {C C':z02} (h:STORE w B g log len alive N C) (hb:Below w.heap.size w w') (h':STORE w' w.heap.size g' log' len' alive' N' C') (hg':w.heap.size≤g'):APART w' g C g' C':=fun x hx hx'=>by
  have h1:x<w.heap.size:=by
    rcases hx with rfl | hf
    · exact h.lt
    · exact h.foot_lt (h.foot_below hb hf)
  rcases hx' with rfl | hf
  · omega
  · have:=h'.foot_base hf
    omega
end Go.Proofs.YtnmalbngdhjhjaaGreatDoor.HX

namespace Go.Proofs.YtnmalbngdhjhjaaGreatDoor.HX
open Go.RowKit
set_option maxRecDepth 100000
theorem FOREST.held {w w':World} {B g:Nat} {d:Int} {log n:Nat} {C:z02} {f:Nat→Nat→Nat} (h:FOREST w B g d log n C f) (hg:w'.heap[g]?=w.heap[g]?) (hblk:∀ x,FOOT w g C x→w'.heap[x]?=w.heap[x]?):FOREST w' B g d log n C f∧∀ x,FOOT w' g C x→FOOT w g C x:=by
  obtain ⟨s1,s2,s3⟩:=h.store.held hg hblk
  exact ⟨⟨s1,(s3 5).trans h.width,(s3 6).trans h.size,s1.live 6 (by decide),h.node,h.byte,h.few,h.base⟩,s2⟩
theorem APART.below {w w':World} {B B' g g':Nat} {d d':Int} {log log' n n':Nat} {C C':z02} {f f':Nat→Nat→Nat} (ha:APART w g C g' C') (h:FOREST w B g d log n C f) (h':FOREST w B' g' d' log' n' C' f') (hb:Below w.heap.size w w'):APART w' g C g' C':=fun x hx hx'=>
  ha x (hx.imp id (h.store.foot_below hb)) (hx'.imp id (h'.store.foot_below hb))
theorem APART.later {w w':World} {B g g':Nat} {d:Int} {log n:Nat} {C C':z02} {f:Nat→Nat→Nat} (h:FOREST w B g d log n C f) (hb:Below w.heap.size w w') (hg':w.heap.size≤g') (hf':∀ x,x<w.heap.size→¬ FOOT w' g' C' x):APART w' g C g' C':=fun x hx hx'=>by
  have h1:x<w.heap.size:=by
    rcases hx with rfl | hf
    · exact h.store.lt
    · exact h.store.foot_lt (h.store.foot_below hb hf)
  rcases hx' with rfl | hf
  · omega
  · exact hf' x h1 hf
end Go.Proofs.YtnmalbngdhjhjaaGreatDoor.HX

namespace Go.Proofs.YtnmalbngdhjhjaaGreatDoor
open Go.RowKit
theorem z4w {F f:Nat→Int} {i:Nat} {v:Int} (A:∀ j,f j=if j<i then F j else 0) (hv:v=F i):∀ j,(if j=i then v else f j)=if j<i+1 then F j else 0:=fun j=>by
  by_cases e:j=i
  · subst e
    simp [hv]
  · rw [if_neg e,A j]
    by_cases e2:j<i
    · rw [if_pos e2,if_pos (by omega)]
    · rw [if_neg e2,if_neg (by omega)]
theorem z6y (x:Int) (n:Nat) (F:Nat→Int) (hn:(n:Int)≤8) (w:World) (c:∀ w,Calls Tryz.prog 217 #[.int .u64 x,.int .i64 (8*(n:Int))] w fun e w'=>e=.returned (.int .u64 0)∧w=w')
    (ci:∀ i:Nat,i<n→∃ s:Int,Aside (s % 256=F i)∧∀ w,Calls Tryz.prog 217 #[.int .u64 x,.int .i64 (8*((n:Int) - 1 - (i:Int)))] w fun e w'=>e=.returned (.int .u64 s)∧w=w'):
    Calls Tryz.prog 242 #[.int .u64 x,.int .i64 (n:Int)] w fun e w'=>e=.returned (.tuple #[.slice (some ⟨w.heap.size,0,none⟩) n n,.int .i64 0])∧w.alloc (.cells (BARR n F) 5)=w':=by
  have hmk:=z5N n (by omega)
  have CI:Aside (∀ i:Nat,i<n→∃ s:Int,Aside (s % 256=F i)∧∀ w,Calls Tryz.prog 217 #[.int .u64 x,.int .i64 (8*((n:Int) - 1 - (i:Int)))] w fun e w'=>e=.returned (.int .u64 s)∧w=w'):=ci
  clear ci
  go_enter Tryz.func242,Tryz.ntmps242
  go_wp2_with fail
  refine (c _).mono ?_
  rintro e w' ⟨rfl,rfl⟩
  go_wp2
  go_loopg [23] n (fun g s23 wx=>∃ (i:Nat) (f:Nat→Int),i+g=n∧Aside (∀ j,f j=if j<i then F j else 0)∧s23=.int .i64 i∧wx=w.alloc (.cells (BARR n f) 5))
  case atStart=>exact ⟨0,fun _=>0,by omega,fun j=>by simp,rfl,rfl⟩
  case round=>
    obtain ⟨i,f,hig,A,rfl,rfl⟩:=hrel
    cases gk with
    | zero=>
      obtain rfl:i=n:=by omega
      have hf:BARR i f=BARR i F:=z7K fun j hj=>by rw [A.out j,if_pos hj]
      rw [hf]
      clear hf A
      go_wp2
      go_ret2
      exact ⟨rfl,rfl⟩
    | succ g=>
      have hi:(i:Int)<(n:Int):=by omega
      have hc:(BARR n f)[i]?=some (.int .u8 (f i)):=z1z n f i (by omega)
      have hs:∀ v,(BARR n f).setIfInBounds i (.int .u8 v)=BARR n (fun j=>if j=i then v else f j):=fun v=>z5k n f i v
      obtain ⟨s,hsF,cs⟩:=CI.out i (by omega)
      go_wp2_with fail
      refine (cs _).mono ?_
      rintro e w' ⟨rfl,rfl⟩
      go_wp2
      go_roundg g
      case measure=>omega
      case rel=>exact ⟨i+1,_,by omega,z4w A.out hsF.out,by go_num,rfl⟩
def BYTE (X n:Nat):Nat→Int:=fun i=>((X / 2 ^ (8*(n - 1 - i)) % 256:Nat):Int)
theorem zcn (X n:Nat) (hX:X<2 ^ 64) (hn:n≤8) (h:X / 2 ^ (8*n)=0) (w:World):
    Calls Tryz.prog 242 #[.int .u64 (X:Int),.int .i64 (n:Int)] w fun e w'=>e=.returned (.tuple #[.slice (some ⟨w.heap.size,0,none⟩) n n,.int .i64 0])∧w.alloc (.cells (BARR n (BYTE X n)) 5)=w':=by
  refine z6y X n (BYTE X n) (by omega) w (fun w=>?_) (fun i hi=>?_)
  · have k:=z4i X (8*(n:Int)) hX (by omega) (by omega) w
    have hs:SHR X (8*(n:Int))=0:=by
      unfold SHR
      rw [if_neg (by omega),show (8*(n:Int)).toNat=8*n by omega,h]
    rw [hs] at k
    exact k
  · refine ⟨(SHR X (8*((n:Int) - 1 - (i:Int))):Nat),?_,fun w=>z4i X _ hX (by omega) (by omega) w⟩
    unfold SHR BYTE Aside
    rw [if_neg (by omega),show (8*((n:Int) - 1 - (i:Int))).toNat=8*(n - 1 - i) by omega]
    simp
end Go.Proofs.YtnmalbngdhjhjaaGreatDoor

namespace Go.Proofs.YtnmalbngdhjhjaaGreatDoor
open Go.RowKit
def z00 (l:List Int):List Value:=l.map (Value.int .u8)
theorem z0r (a b:List Int):z00 (a ++ b)=z00 a ++ z00 b:=by simp [z00]
theorem z0t (l:List Int) (i:Nat) (h:i<l.length):(z00 l)[i]?=some (.int .u8 (l.getD i 0)):=by
  simp [z00,h,List.getD_eq_getElem?_getD]
theorem z1l (l:List Int):∀ u∈z00 l,u.oneCell'=true:=fun u hu=>by
  simp [z00] at hu
  obtain ⟨x,_,rfl⟩:=hu
  rfl
theorem z18:∃ i,Tryz.prog.info? 5=some i∧i.zero=some (.int .u8 0)∧i.size=1∧i.bytes=1:=by
  obtain ⟨i,hi,h⟩:=Option.map_eq_some_iff.1 z0M
  simp only [Prod.mk.injEq] at h
  exact ⟨i,hi,h.1,h.2.1,h.2.2⟩
theorem z1b {ops:Array Oper} {rest:List Oper} {o:Oper} {a:Act} {Q:Exit→Act→World→Prop} (w:World) (hgd:o.guard=none) (s x:Operand)
    (ho:o.op=.call {callee:=.builtin .append,args:=#[s,x],argTypes:=#[53,53]})
    (base:Nat) (v:Value) (n:Nat) (xs:List Int) (hs:a.eval s=v) (hown:w.ownsRow base 5 1 v n (z00 xs))
    (b off m c:Nat) (l:List Int) (hx:a.eval x=.slice (some ⟨b,off,none⟩) m c) (hB:Bytes w (some ⟨b,off,none⟩) m l)
    (hm:0<m) (hb:n+m≤140737488355328) (hbase:base≤w.heap.size)
    (h:∀ g cap w',w'.ownsRow base 5 1 (.slice (some ⟨g,0,none⟩) (n+m) cap) (n+m) (z00 (xs ++ l))→w.grownBy w' v.ownBlock→g<w'.heap.size→wpList Tryz.prog ops Q rest (a.put o.dst (.slice (some ⟨g,0,none⟩) (n+m) cap)) w'):wpList Tryz.prog ops Q (o :: rest) a w:=by
  obtain ⟨i,hi,hz,hs1,hby⟩:=z18
  obtain ⟨b',off',e,_,hc⟩:=hB.2.1 hm
  simp only [Option.some.injEq,Addr.mk.injEq] at e
  obtain ⟨rfl,rfl,_⟩:=e
  refine wpList_append_lies w hgd s x 53 ho base 5 i (.int .u8 0) 1 1 Tryz.underlying53 hi hz hs1 hby rfl (by decide) v n (z00 xs) hs hown ⟨b,off,none⟩ m c (z00 l) hx (by simp [z00,hB.1]) ?_ (z1l l) hm (by simp only [maxLen];omega) (by omega) hbase w.heap.size rfl ?_
  · intro j u hj
    have hjl:j<l.length:=by
      have:=(List.getElem?_eq_some_iff.1 hj).1
      simpa [z00] using this
    rw [z0t l j hjl] at hj
    rw [z0L,hc j (by rw [← hB.1];exact hjl)]
    exact hj
  · intro g cap w' h1 h2 _ h4
    rw [← z0r] at h1
    exact h g cap w' h1 h2 h4
theorem z1q (w:World) (row:Option Nat):w.grownBy w row:=⟨rfl,rfl,rfl,Nat.le_refl _,fun _ _ _=>rfl⟩
theorem z5q {ops:Array Oper} {rest:List Oper} {o:Oper} {a:Act} {Q:Exit→Act→World→Prop} (w:World) (hgd:o.guard=none) (s x:Operand)
    (ho:o.op=.call {callee:=.builtin .append,args:=#[s,x],argTypes:=#[53,53]})
    (base:Nat) (v:Value) (n:Nat) (xs:List Int) (hs:a.eval s=v) (hown:w.ownsRow base 5 1 v n (z00 xs))
    (ao:Option Addr) (c:Nat) (hx:a.eval x=.slice ao 0 c) (hc:ao=none→c=0) (hn:n≤140737488355328) (hbase:base≤w.heap.size)
    (h:∀ a' c' w',w'.ownsRow base 5 1 (.slice a' n c') n (z00 xs)→w.grownBy w' v.ownBlock→wpList Tryz.prog ops Q rest (a.put o.dst (.slice a' n c')) w'):wpList Tryz.prog ops Q (o :: rest) a w:=by
  obtain ⟨i,hi,hz,hs1,hby⟩:=z18
  have form:∀ (v':Value) (w':World),w'.ownsRow base 5 1 v' n (z00 xs)→∃ a' c',v'=.slice a' n c':=fun v' w' h=>by
    rcases h.2 with ⟨rfl,rfl⟩ | ⟨g,cap,cur,rfl,_⟩
    · exact ⟨none,0,rfl⟩
    · exact ⟨_,cap,rfl⟩
  cases ao with
  | none=>
    obtain rfl:=hc rfl
    refine wpList_append_own_none hgd s x 53 ho base 5 i 1 Tryz.underlying53 hi v n (z00 xs) hs hown hx ?_
    obtain ⟨a',c',rfl⟩:=form v w hown
    exact h a' c' w hown (z1q _ _)
  | some ad=>
    refine wpList_append_own w hgd s x 53 ho base 5 i (.int .u8 0) 1 1 Tryz.underlying53 hi hz hs1 hby rfl (by decide) v n (z00 xs) hs hown ad 0 c [] hx rfl (fun j u hj=>by simp at hj) (fun u hu=>by simp at hu) (by simp only [maxLen];omega) (by omega) hbase ?_
    intro v' w' h1 h2 _
    simp only [Nat.add_zero,List.append_nil] at h1
    obtain ⟨a',c',rfl⟩:=form v' w' h1
    exact h a' c' w' h1 h2
theorem z1V {w:World} {base g n cap:Nat} {l:List Int} (h:w.ownsRow base 5 1 (.slice (some ⟨g,0,none⟩) n cap) n (z00 l)) (hg:g<w.heap.size) (hl:∀ x∈l,0≤x∧x≤255):Bytes w (some ⟨g,0,none⟩) n l:=by
  have hlen:l.length=n:=by have:=h.1;simpa [z00] using this
  refine ⟨hlen,fun _=>⟨g,0,rfl,hg,fun i hi=>?_⟩,hl⟩
  rw [Nat.zero_add,h.cellAt i (by omega),z0t l i (by omega)]
theorem z71 (w:World) (base:Nat) (hb:base≤w.heap.size):(w.alloc (.cells #[] 5)).ownsRow base 5 1 (.slice (some ⟨w.heap.size,0,none⟩) 0 0) 0 (z00 []):=
  World.ownsRow_lit w #[] 0 hb (by simp [maxLen]) rfl
theorem z3g (w:World) (n:Nat) (f:Nat→Int) (l:List Int) (hl:l.length=n) (hf:∀ i,i<n→f i=l.getD i 0) (hr:∀ x∈l,0≤x∧x≤255):Bytes (w.alloc (.cells (BARR n f) 5)) (some ⟨w.heap.size,0,none⟩) n l:=by
  refine ⟨hl,fun _=>⟨w.heap.size,0,rfl,by simp,fun i hi=>?_⟩,hr⟩
  rw [Nat.zero_add,World.cell?_alloc_at _ _ _ _ rfl,z1z n f i hi,hf i hi]
theorem z1t {w:World} {base n c:Nat} {a:Option Addr} {l:List Int} (h:w.ownsRow base 5 1 (.slice a n c) n (z00 l)) (hl:∀ x∈l,0≤x∧x≤255):Bytes w a n l∧n≤c:=by
  rcases h.2 with ⟨hv,hn⟩ | ⟨g,cap,cur,hv,_,hg,hc,_⟩
  · simp only [Value.slice.injEq] at hv
    obtain ⟨rfl,rfl,rfl⟩:=hv
    have:l=[]:=by have:=h.1;simpa [z00] using this
    subst this
    exact ⟨⟨rfl,fun h=>by omega,fun x hx=>by simp at hx⟩,Nat.le_refl _⟩
  · simp only [Value.slice.injEq] at hv
    obtain ⟨rfl,_,rfl⟩:=hv
    exact ⟨z1V h (Array.getElem?_eq_some_iff.1 hg).1 hl,hc⟩
theorem z4U {ops:Array Oper} {rest:List Oper} {o:Oper} {a:Act} {Q:Exit→Act→World→Prop} (w:World) (hgd:o.guard=none) (s x:Operand)
    (ho:o.op=.call {callee:=.builtin .append,args:=#[s,x],argTypes:=#[53,53]})
    (base:Nat) (v:Value) (n:Nat) (xs:List Int) (hs:a.eval s=v) (hown:w.ownsRow base 5 1 v n (z00 xs))
    (ao:Option Addr) (m c:Nat) (l:List Int) (hx:a.eval x=.slice ao m c) (hB:Bytes w ao m l) (hc:ao=none→c=0)
    (N:Nat) (L:List Int) (hN:n+m=N) (hL:xs ++ l=L) (hb:N≤140737488355328) (hbase:base≤w.heap.size)
    (h:∀ a' c' w',w'.ownsRow base 5 1 (.slice a' N c') N (z00 L)→w.grownBy w' v.ownBlock→wpList Tryz.prog ops Q rest (a.put o.dst (.slice a' N c')) w'):wpList Tryz.prog ops Q (o :: rest) a w:=by
  subst hN hL
  rcases Nat.eq_zero_or_pos m with hm | hm
  · subst hm
    have hl:l=[]:=by have:=hB.1;simpa using this
    subst hl
    refine z5q w hgd s x ho base v n xs hs hown ao c hx hc (by omega) hbase ?_
    simpa using h
  · obtain ⟨b,off,rfl,_,_⟩:=hB.2.1 hm
    refine z1b w hgd s x ho base v n xs hs hown b off m c l hx hB hm hb hbase ?_
    intro g cap w' h1 h2 _
    exact h _ cap w' h1 h2
end Go.Proofs.YtnmalbngdhjhjaaGreatDoor
