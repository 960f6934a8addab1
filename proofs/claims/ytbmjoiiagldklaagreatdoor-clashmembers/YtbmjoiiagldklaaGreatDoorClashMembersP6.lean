/- Texts of ClashMembers, one behind the other: PosRefSpot, PosRefKin, PosTops, PosRefPeaks, PosRefPeak, PosRefPath, PosAwake. -/
import Derived.Test.YtbmjoiiagldklaaGreatDoorClashMembersP3
import Derived.Test.YtbmjoiiagldklaaGreatDoorClashMembersP4
import Derived.Test.YtbmjoiiagldklaaGreatDoorClashMembersP5
namespace Go.Proofs.YtbmjoiiagldklaaGreatDoor
open Go.RowKit
theorem zbb (p:Int) (hp:9223372036854775807≤p) (w:World):Calls Tryz.prog 183 #[.int .u64 p] w fun e w'=>e=.returned (.tuple #[SPOT 0 0,.bool false])∧Below w.heap.size w w':=by
  have c1:=z1B 62 (by omega)
  rw [show (((2 ^ 62:Nat):Int))=4611686018427387904 by decide,show (((62:Nat):Int))=62 from rfl] at c1
  have hd:(9223372036854775806:Int)<p:=by omega
  go_enter Tryz.func183,Tryz.ntmps183
  go_wp2_with fail
  refine (c1 _).mono ?_
  rintro e w' ⟨rfl,rfl⟩
  clear c1
  go_wp2
  refine bodyPost_ret (v:=.tuple #[SPOT 0 0,.bool false]) ?_ rfl ⟨rfl,(Below.refl _ _).alloc (Nat.le_refl _) _⟩
  simp [results,Tryz.f183,go_sem]
theorem zep {a b c:Nat} (h:a+b=c) (hc:c<2 ^ 64):IntKind.u64.wrap ((a:Int)+(b:Int))=(c:Int):=by rw [z0d];omega
theorem zjX {a c:Nat} (h:a+1=c) (hc:c<2 ^ 64):IntKind.u64.wrap ((a:Int)+1)=(c:Int):=by rw [z0d];omega
theorem zjY {a c:Nat} (h:c+1=a) (hc:c<2 ^ 64):IntKind.u64.wrap ((a:Int) - 1)=(c:Int):=by rw [z0d];omega
theorem zeq {a c:Nat} (h:2*a=c) (hc:c<2 ^ 64):IntKind.u64.wrap (2*(a:Int))=(c:Int):=by rw [z0d];omega
theorem zhg {a c:Nat} (h:2*c=a) (hc:c<2 ^ 64):IntKind.u64.wrap ((a:Int) / 2)=(c:Int):=by rw [z0d];omega
theorem zg7 {a c:Nat} (h:2*c=a):(a:Int) / 2=(c:Int):=by omega
theorem zg8 {g m b p z1 bz:Nat} (hg:g+1≤62) (hN:Node (g+1) m) (hb:b=z0t (m*2 ^ (g+1))) (hbp:b≤p) (hpu:p+2≤b+2 ^ (g+1+1)) (hz:2 ^ (g+1)=z1+1) (hbz:b+z1=bz) (hT:p≠b+2*z1):
    Node g (2*m)∧Node g (2*m+1)∧b=z0t (2*m*2 ^ g)∧bz=z0t ((2*m+1)*2 ^ g)∧(bz≤p→p+2≤bz+2 ^ (g+1))∧(p<bz→p+2≤b+2 ^ (g+1)):=by
  have h2:=hN.2
  have e:2 ^ (62 - g)=2 ^ (62 - (g+1))*2:=by rw [← Nat.pow_succ];congr 1;omega
  have e2:2 ^ (g+1+1)=2*(z1+1):=by rw [Nat.pow_succ,hz,Nat.mul_comm]
  refine ⟨⟨by omega,by rw [e];omega⟩,⟨by omega,by rw [e];omega⟩,by rw [hb,z1i],?_,fun h=>by omega,fun h=>by omega⟩
  rw [z50,z1i,← hb]
  unfold TREE
  omega
theorem zcU (h k:Nat) (hN:Node h k) (w:World):Calls Tryz.prog 183 #[.int .u64 ((PLC h k:Nat):Int)] w fun e w'=>e=.returned (.tuple #[SPOT h k,.bool true])∧Below w.heap.size w w':=by
  have hp:=hN.lt
  obtain ⟨p,hpe⟩:∃ p,p=PLC h k:=⟨_,rfl⟩
  rw [← hpe] at hp ⊢
  have HN:Aside (Node h k∧p=PLC h k∧p<9223372036854775807):=⟨hN,hpe,hp⟩
  have c1:=z1B 62 (by omega)
  rw [show (((2 ^ 62:Nat):Int))=4611686018427387904 by decide,show (((62:Nat):Int))=62 from rfl] at c1
  have hd:¬ (9223372036854775806:Int)<(p:Int):=by omega
  clear hN hpe hp
  go_enter Tryz.func183,Tryz.ntmps183
  go_wp2_with fail
  refine (c1 _).mono ?_
  rintro e w' ⟨rfl,rfl⟩
  clear c1
  go_wp2
  go_loopg [4,5,6] 62 (fun g s4 s5 s6 wx=>∃ b m:Nat,s4=.int .u64 (b:Int)∧s5=.int .i64 (g:Int)∧s6=.int .u64 (m:Int)∧Aside (wx=w.alloc (.cells #[.int .u8 0,.int .u64 0] 110)∧g≤62∧b=z0t (m*2 ^ g)∧Node g m∧b≤p∧p+2≤b+2 ^ (g+1)))
  case atStart=>exact ⟨0,0,rfl,rfl,rfl,rfl,by omega,by simp [z2W],⟨by omega,by simp⟩,by omega,by have:=HN.out.2.2;omega⟩
  case round=>
    obtain ⟨b,m,rfl,rfl,rfl,A⟩:=hrel
    obtain ⟨hw,hg,hb,hNm,hbp,hpu⟩:=A.out
    clear A
    have hpl:2 ^ gk≤2 ^ 62:=Nat.pow_le_pow_right (by decide) hg
    obtain ⟨z1,hz⟩:∃ z1,2 ^ gk=z1+1:=⟨2 ^ gk - 1,by have:=Nat.two_pow_pos gk;omega⟩
    have c1:=z1B gk (by omega)
    rw [hz] at c1 hpl
    have hbl:b<9223372036854775807:=by have:=HN.out.2.2;omega
    obtain ⟨u,hu⟩:∃ u,2*z1=u:=⟨_,rfl⟩
    obtain ⟨bu,hbu⟩:∃ bu,b+u=bu:=⟨_,rfl⟩
    have e1:IntKind.u64.wrap (((z1+1:Nat):Int) - 1)=(z1:Int):=zjY rfl (by omega)
    have e1':IntKind.u64.wrap (z1:Int)=(z1:Int):=by rw [z0d];omega
    rw [show ((z1+1:Nat):Int)=(z1:Int)+1 by omega] at c1 e1
    have e2:IntKind.u64.wrap (2*(z1:Int))=(u:Int):=zeq hu (by omega)
    have e3:IntKind.u64.wrap ((b:Int)+(u:Int))=(bu:Int):=zep hbu (by omega)
    by_cases hT:p=bu
    · have hmk:h=gk∧k=m:=by
        refine HN.out.1.one hNm ?_
        rw [← HN.out.2.1]
        unfold PLC
        rw [hz] at hb
        rw [Nat.pow_succ,hz,← hb]
        omega
      obtain ⟨rfl,rfl⟩:=hmk
      have hT':((p:Int) == (bu:Int))=true:=by simp;omega
      have hh:(h:Int) % 256=(h:Int):=by omega
      clear hg hb hNm hbp hpu HN hpl hbl hz hu hbu hT
      subst hw
      go_wp2_with fail
      refine (c1 _).mono ?_
      rintro e w' ⟨rfl,rfl⟩
      clear c1
      go_wp2
      refine bodyPost_ret (v:=.tuple #[SPOT h k,.bool true]) ?_ rfl ⟨rfl,(Below.refl _ _).alloc (Nat.le_refl _) _⟩
      simp [results,Tryz.f183,go_sem]
    · have hT':((p:Int) == (bu:Int))=false:=by simp;omega
      have h1:1≤gk:=by
        rcases Nat.eq_zero_or_pos gk with h0 | h0
        · subst h0
          simp at hz
          omega
        · exact h0
      obtain ⟨g,rfl⟩:∃ g,gk=g+1:=⟨gk - 1,by omega⟩
      have hm62:=hNm.index_lt
      obtain ⟨bz,hbz⟩:∃ bz,b+z1=bz:=⟨_,rfl⟩
      obtain ⟨m2,hm2⟩:∃ m2,2*m=m2:=⟨_,rfl⟩
      obtain ⟨m3,hm3⟩:∃ m3,m2+1=m3:=⟨_,rfl⟩
      have RR:=zg8 hg hNm hb hbp hpu hz hbz (by omega)
      rw [hm2,hm3] at RR
      have e4:IntKind.u64.wrap (2*(m:Int))=(m2:Int):=zeq hm2 (by omega)
      have e5:IntKind.u64.wrap ((u:Int) / 2)=(z1:Int):=zhg hu (by omega)
      have e5':(u:Int) / 2=(z1:Int):=zg7 hu
      have e6:wrap64 (g:Int)=(g:Int):=by unfold wrap64;omega
      have e7:IntKind.u64.wrap ((b:Int)+(z1:Int))=(bz:Int):=zep hbz (by omega)
      have e8:IntKind.u64.wrap ((m2:Int)+1)=(m3:Int):=zjX hm3 (by omega)
      have R:Aside (wr=w.alloc (.cells #[.int .u8 0,.int .u64 0] 110)∧g+1≤62∧b≤p∧Node g m2∧Node g m3∧b=z0t (m2*2 ^ g)∧bz=z0t (m3*2 ^ g)∧(bz≤p→p+2≤bz+2 ^ (g+1))∧(p<bz→p+2≤b+2 ^ (g+1))):=⟨hw,hg,hbp,RR⟩
      rw [show (((g+1:Nat):Int))=(g:Int)+1 by omega] at c1 ⊢
      clear RR hw hg hNm hbp hb hpu hT hz hbz hbu hu HN hpl hbl h1 hm62 hm2 hm3 hd
      by_cases hlt:bz≤p
      · have hd3:(bz:Int)≤(p:Int):=by omega
        have R2:Aside (bz≤p):=hlt
        clear hlt
        go_wp2_with fail
        refine (c1 _).mono ?_
        rintro e w' ⟨rfl,rfl⟩
        clear c1
        go_wp2
        go_roundg g
        case measure=>omega
        case rel=>
          obtain ⟨r1,r2,r3,r4,r5,r6,r7,r8,r9⟩:=R.out
          have s1:=R2.out
          rw [e6]
          exact ⟨bz,m3,rfl,rfl,rfl,r1,by omega,r7,r5,s1,r8 s1⟩
      · have hd3:¬ (bz:Int)≤(p:Int):=by omega
        have R2:Aside (p<bz):=by unfold Aside;omega
        clear hlt
        go_wp2_with fail
        refine (c1 _).mono ?_
        rintro e w' ⟨rfl,rfl⟩
        clear c1
        go_wp2
        go_roundg g
        case measure=>omega
        case rel=>
          obtain ⟨r1,r2,r3,r4,r5,r6,r7,r8,r9⟩:=R.out
          have s1:=R2.out
          rw [e6]
          exact ⟨b,m2,rfl,rfl,rfl,r1,by omega,r6,r4,r3,r9 s1⟩
end Go.Proofs.YtbmjoiiagldklaaGreatDoor

namespace Go.Proofs.YtbmjoiiagldklaaGreatDoor
open Go.RowKit
def RefAt (p:Int) (h k:Nat) (ok:Bool):Prop:=∀ w,Calls Tryz.prog 183 #[.int .u64 p] w fun e w'=>e=.returned (.tuple #[SPOT h k,.bool ok])∧Below w.heap.size w w'
theorem RefAt.node {h k:Nat} (hN:Node h k):RefAt ((PLC h k:Nat):Int) h k true:=fun w=>zcU h k hN w
theorem RefAt.out {p:Int} (hp:9223372036854775807≤p):RefAt p 0 0 false:=fun w=>zbb p hp w
theorem z9Z (h k:Nat) (t z y l a r:Int) (w:World) (hh:h≤62) (hm:wrap64 (h:Int)=(h:Int)) (hm2:IntKind.u64.wrap (h:Int)=(h:Int)) (ht:wrap64 (62 - (h:Int))=t) (hk:decide (y≤(k:Int))=false)
    (cy:∀ w,Calls Tryz.prog 87 #[.int .i64 t] w fun e w'=>e=.returned (.int .u64 y)∧w=w') (cz:∀ w,Calls Tryz.prog 87 #[.int .i64 (h:Int)] w fun e w'=>e=.returned (.int .u64 z)∧w=w')
    (e0:IntKind.u64.wrap ((k:Int)+1)=(k:Int)+1) (e1:IntKind.u64.wrap (IntKind.u64.wrap (((k:Int)+1)*z) - 1)=l) (ca:∀ w,Calls Tryz.prog 174 #[.int .u64 l] w fun e w'=>e=.returned (.tuple #[.int .u64 a,.bool true])∧w=w') (e2:IntKind.u64.wrap (a+(h:Int))=r):
    Calls Tryz.prog 146 #[SPOT h k] w fun e w'=>e=.returned (.tuple #[.int .u64 r,.bool true])∧Below w.heap.size w w':=by
  have hd:decide ((62:Int)<(h:Int))=false:=by simp;omega
  go_enter Tryz.func146,Tryz.ntmps146
  go_wp2
  have hc0:(w.alloc (.cells #[.int .u8 (h:Int),.int .u64 (k:Int)] 110)).cell? ⟨w.heap.size,0,none⟩=some (.int .u8 (h:Int)):=by simp
  have hc1:(w.alloc (.cells #[.int .u8 (h:Int),.int .u64 (k:Int)] 110)).cell? ⟨w.heap.size,1,none⟩=some (.int .u64 (k:Int)):=by simp
  have R2:Aside (Below w.heap.size w (w.alloc (.cells #[.int .u8 (h:Int),.int .u64 (k:Int)] 110))):=(Below.refl _ _).alloc (Nat.le_refl _) _
  generalize w.alloc (.cells #[.int .u8 (h:Int),.int .u64 (k:Int)] 110)=W at *
  generalize hb:w.heap.size=b at *
  clear hh
  go_quiet ((go_at_call 87;exact z0P (cy _)))
  have R3:Aside (Below b w (W.drewN nq)):=below_drewN R2.out nq
  have hc0':(W.drewN nq).cell? ⟨b,0,none⟩=some (.int .u8 (h:Int)):=hc0
  have hc1':(W.drewN nq).cell? ⟨b,1,none⟩=some (.int .u64 (k:Int)):=hc1
  clear hc0 hc1 R2 cy
  generalize W.drewN nq=W2 at *
  go_wp2
  go_quiet (first | (go_at_call 87;exact z0P (cz _)) | (go_at_call 174;exact z0P (ca _)))
  go_wp2
  go_ret2
  exact ⟨rfl,by rw [hb];exact below_drewN R3.out _⟩
theorem z7m (p:Int) (h k k1:Nat) (r:Int) (w:World) (hh:((h:Int) == 62)=false) (e1:IntKind.u64.wrap ((k:Int)+1)=(k1:Int)) (ha:((k:Int) % 2 == 1)=false) (cs:RefAt p h k true)
    (cp:∀ w,Calls Tryz.prog 146 #[SPOT h k1] w fun e w'=>e=.returned (.tuple #[.int .u64 r,.bool true])∧Below w.heap.size w w'):
    Calls Tryz.prog 160 #[.int .u64 p] w fun e w'=>e=.returned (.tuple #[.int .u64 r,.bool true])∧Below w.heap.size w w':=by
  have cs:=cs w
  go_enter Tryz.func160,Tryz.ntmps160
  go_wp2_with fail
  refine cs.mono ?_
  rintro e w1 ⟨rfl,hb⟩
  clear cs
  have R:Aside (Below w.heap.size w w1):=hb
  clear hb
  go_wp2_with fail
  refine (cp _).mono ?_
  rintro e w2 ⟨rfl,hb2⟩
  have R2:Aside (Below w.heap.size w w2):=(R.out.alloc R.out.size _).trans (hb2.mono (by have:=R.out.size;simp;omega))
  clear cp hb2 R
  go_wp2
  go_ret2
  exact ⟨rfl,R2.out⟩
theorem z6V (p:Int) (h k k1:Nat) (r:Int) (w:World) (hh:((h:Int) == 62)=false) (e1:IntKind.u64.wrap ((k:Int) - 1)=(k1:Int)) (ha:((k:Int) % 2 == 1)=true) (cs:RefAt p h k true)
    (cp:∀ w,Calls Tryz.prog 146 #[SPOT h k1] w fun e w'=>e=.returned (.tuple #[.int .u64 r,.bool true])∧Below w.heap.size w w'):
    Calls Tryz.prog 160 #[.int .u64 p] w fun e w'=>e=.returned (.tuple #[.int .u64 r,.bool true])∧Below w.heap.size w w':=by
  have cs:=cs w
  go_enter Tryz.func160,Tryz.ntmps160
  go_wp2_with fail
  refine cs.mono ?_
  rintro e w1 ⟨rfl,hb⟩
  clear cs
  have R:Aside (Below w.heap.size w w1):=hb
  clear hb
  go_wp2_with fail
  refine (cp _).mono ?_
  rintro e w2 ⟨rfl,hb2⟩
  have R2:Aside (Below w.heap.size w w2):=(R.out.alloc R.out.size _).trans (hb2.mono (by have:=R.out.size;simp;omega))
  clear cp hb2 R
  go_wp2
  go_ret2
  exact ⟨rfl,R2.out⟩
theorem zc5 (k:Nat):((k:Int) % 2 == 1)=decide (k % 2=1):=by
  rw [Bool.eq_iff_iff]
  simp
  omega
theorem z2G (h k:Nat) (hN:Node h k) (w:World):Calls Tryz.prog 146 #[SPOT h k] w fun e w'=>e=.returned (.tuple #[.int .u64 ((PLC h k:Nat):Int),.bool true])∧Below w.heap.size w w':=by
  have h1:=hN.1
  have h2:=hN.2
  have h3:=hN.span
  have h4:=hN.index_lt
  have h5:=hN.lt
  have h7:=zfE h k
  have h8:=zh0 h k
  refine z9Z h k ((62 - h:Nat):Int) ((2 ^ h:Nat):Int) ((2 ^ (62 - h):Nat):Int) (((k+1)*2 ^ h - 1:Nat):Int) ((z0t ((k+1)*2 ^ h - 1):Nat):Int) _ w h1 (by unfold wrap64;omega) (by rw [z0d];omega) (by unfold wrap64;omega) (by simp only [decide_eq_false_iff_not];omega) (fun w=>z1B _ (by omega) w) (fun w=>z1B _ (by omega) w) (by rw [z0d];omega) ?_ (fun w=>zba _ (by omega) w) ?_
  · rw [show (((k:Int)+1)*((2 ^ h:Nat):Int))=(((k+1)*2 ^ h:Nat):Int) by rw [Int.natCast_mul];rfl]
    generalize (k+1)*2 ^ h=x at *
    rw [z0d,z0d]
    omega
  · rw [z0d]
    omega
theorem z9p (h k:Nat) (hN:Node h k) (hh:h<62) (w:World):Calls Tryz.prog 160 #[.int .u64 ((PLC h k:Nat):Int)] w fun e w'=>e=.returned (.tuple #[.int .u64 ((PLC h (SIB k):Nat):Int),.bool true])∧Below w.heap.size w w':=by
  have hs:=hN.sib hh
  have hi:=hN.index_lt
  by_cases hk:k % 2=1
  · have e:SIB k=k - 1:=by unfold SIB;rw [if_pos hk]
    rw [e] at hs ⊢
    exact z6V _ h k (k - 1) _ w (by simp;omega) (by rw [z0d];omega) (by rw [zc5,decide_eq_true hk]) (.node hN) (fun w=>z2G _ _ hs w)
  · have e:SIB k=k+1:=by unfold SIB;rw [if_neg hk]
    rw [e] at hs ⊢
    exact z7m _ h k (k+1) _ w (by simp;omega) (by rw [z0d];omega) (by rw [zc5,decide_eq_false hk]) (.node hN) (fun w=>z2G _ _ hs w)
end Go.Proofs.YtbmjoiiagldklaaGreatDoor

namespace Go.Proofs.YtbmjoiiagldklaaGreatDoor
open Go.RowKit
def TOPS (h n:Nat):List (Nat × Nat):=(HS h n).map fun g=>(g,2*(n / 2 ^ (g+1)))
theorem zg9 {h n:Nat} (hh:h<64) (hb:n / 2 ^ h % 2=1):TOPS h n=TOPS (h+1) n ++ [(h,2*(n / 2 ^ (h+1)))]:=by
  unfold TOPS
  rw [z2N hh hb,List.map_append]
  rfl
theorem zcV {h n:Nat} (hh:h<64) (hb:¬ n / 2 ^ h % 2=1):TOPS h n=TOPS (h+1) n:=by
  unfold TOPS
  rw [z2y hh hb]
theorem z3C {n:Nat} (hn:n<2 ^ 64) (h:Nat) (hh:h≤64):(TOPS h n).length=PC (n / 2 ^ h):=by
  unfold TOPS
  rw [List.length_map]
  exact z2O hn h hh
theorem zcW {n h at' r:Nat} (ha:at'=n / 2 ^ (h+1)*2 ^ (h+1)) (hr:r=n - at'):at'≤n∧(2 ^ h≤r↔n / 2 ^ h % 2=1)∧at' / 2 ^ h=2*(n / 2 ^ (h+1))∧(n / 2 ^ h % 2=1→at'+2 ^ h=n / 2 ^ h*2 ^ h)∧(¬ n / 2 ^ h % 2=1→at'=n / 2 ^ h*2 ^ h):=by
  have hp:=Nat.two_pow_pos h
  have e1:at'=2*(n / 2 ^ (h+1))*2 ^ h:=by rw [ha,z1i]
  have hd:=Nat.div_add_mod n (2 ^ h)
  have hm:=Nat.mod_lt n hp
  rw [Nat.mul_comm] at hd
  have hq:at' / 2 ^ h=2*(n / 2 ^ (h+1)):=by rw [e1,Nat.mul_div_cancel _ hp]
  by_cases hb:n / 2 ^ h % 2=1
  · have h2:=z5D hb
    have e2:n / 2 ^ h*2 ^ h=at'+2 ^ h:=by rw [h2,Nat.add_mul,Nat.one_mul,← e1]
    exact ⟨by omega,⟨fun _=>hb,fun _=>by omega⟩,hq,fun _=>e2.symm,fun h=>absurd hb h⟩
  · have h2:=z9N hb
    have e2:n / 2 ^ h*2 ^ h=at':=by rw [h2,← e1]
    exact ⟨by omega,⟨fun _=>by omega,fun h=>absurd h hb⟩,hq,fun h=>absurd h hb,fun _=>e2.symm⟩
set_option maxHeartbeats 1000000 in
theorem zc6 (n:Nat) (hn:n≤4611686018427387904) (w:World):Calls Tryz.prog 51 #[.int .u64 (n:Int)] w fun e w'=>
    ∃ v,e=.returned v∧w'.ownsRow w.heap.size 110 2 v (PC n) (z13 (TOPS 0 n))∧Below w.heap.size w w':=by
  have HN:Aside (n≤4611686018427387904):=hn
  have hd:¬ (4611686018427387904:Int)<(n:Int):=by omega
  clear hn
  go_enter Tryz.func51,Tryz.ntmps51
  go_wp2
  go_loopg [3,4,5] 63 (fun q s3 s4 s5 wx=>∃ a:Nat,s4=.int .u64 (a:Int)∧s5=.int .i64 ((q:Int) - 1)∧Aside (q≤63∧a=n / 2 ^ q*2 ^ q∧wx.ownsRow w.heap.size 110 2 s3 (PC (n / 2 ^ q)) (z13 (TOPS q n))∧Below w.heap.size w wx))
  case atStart=>
    have hz:n / 2 ^ 63=0:=Nat.div_eq_of_lt (by have:=HN.out;omega)
    refine ⟨0,rfl,rfl,by omega,by rw [hz,Nat.zero_mul],?_,Below.refl _ _⟩
    rw [hz,z1n]
    have ht:TOPS 63 n=[]:=by
      unfold TOPS
      rw [z9M (by have:=HN.out;omega)]
      rfl
    rw [ht]
    exact ⟨rfl,.inl ⟨rfl,rfl⟩⟩
  case round=>
    obtain ⟨a,rfl,rfl,A⟩:=hrel
    cases gk with
    | zero=>
      have hlt:¬ (0:Int)≤((0:Nat):Int) - 1:=by omega
      go_wp2
      go_ret
      obtain ⟨_,_,hown,hbel⟩:=A.out
      rw [Nat.pow_zero,Nat.div_one] at hown
      exact ⟨_,rfl,hown,hbel⟩
    | succ h=>
      obtain ⟨h63,ha,hown,hbel⟩:=A.out
      have hnn:=HN.out
      obtain ⟨r,hr⟩:∃ r,r=n - a:=⟨_,rfl⟩
      obtain ⟨p1,p2,p3,p4,p5⟩:=zcW ha hr
      have c:=z1B h (by omega)
      have hpw:2 ^ h≤2 ^ 62:=Nat.pow_le_pow_right (by decide) (by omega)
      have hp0:=Nat.two_pow_pos h
      have e0:((h+1:Nat):Int) - 1=(h:Int):=by omega
      have e0':¬ (h:Int)<0:=by omega
      have e1:IntKind.u64.wrap ((n:Int) - (a:Int))=(r:Int):=by rw [z0d];omega
      have e3:(h:Int) % 256=(h:Int):=by omega
      have e4:wrap64 ((h:Int) - 1)=(h:Int) - 1:=by unfold wrap64;omega
      rw [e0]
      by_cases hb:n / 2 ^ h % 2=1
      · have hge:2 ^ h≤r:=p2.2 hb
        have pq:=p4 hb
        have e5:(a:Int) / ((2 ^ h:Nat):Int)=((2*(n / 2 ^ (h+1)):Nat):Int):=by rw [← p3,Int.natCast_ediv]
        have hT:=zg9 (n:=n) (h:=h) (by omega) hb
        have hPC:PC (n / 2 ^ h)=PC (n / 2 ^ (h+1))+1:=by rw [z0R,← z0O];omega
        have hlen:PC (n / 2 ^ (h+1))≤1000:=by have:=z0V 64 (n / 2 ^ (h+1)) (Nat.lt_of_le_of_lt (Nat.div_le_self _ _) (by omega));omega
        have hk64:2*(n / 2 ^ (h+1))<2 ^ 64:=by rw [← p3];exact Nat.lt_of_le_of_lt (Nat.div_le_self _ _) (by omega)
        generalize 2*(n / 2 ^ (h+1))=k at *
        have e7:IntKind.u64.wrap (k:Int)=(k:Int):=by rw [z0d];omega
        have e6:IntKind.u64.wrap ((a:Int)+((2 ^ h:Nat):Int))=((n / 2 ^ h*2 ^ h:Nat):Int):=by rw [z0d,← pq];omega
        have hge':((2 ^ h:Nat):Int)≤(r:Int):=by omega
        have hz0:¬ ((2 ^ h:Nat):Int)=0:=by omega
        generalize hm:PC (n / 2 ^ (h+1))=m at *
        generalize hl:TOPS (h+1) n=l at *
        generalize ((2 ^ h:Nat):Int)=z at *
        generalize hx:n / 2 ^ h*2 ^ h=x at *
        have R:Aside (h≤62∧x=n / 2 ^ h*2 ^ h∧wr.ownsRow w.heap.size 110 2 u3 m (z13 l)∧Below w.heap.size w wr∧m≤1000∧PC (n / 2 ^ h)=m+1∧TOPS h n=l ++ [(h,k)]):=⟨by omega,hx.symm,hown,hbel,hlen,hPC,hT⟩
        clear A HN h63 ha hown hbel hnn hr p1 p2 p3 p4 p5 hpw hp0 hb hge pq hT hPC hlen hk64 hm hl hx
        go_wp2_with fail
        refine (c _).mono ?_
        rintro e w' ⟨rfl,rfl⟩
        go_wp2_with fail
        refine (c _).mono ?_
        rintro e w' ⟨rfl,rfl⟩
        go_wp2_with (at_builtin;refine zfX _ rfl (.tmp 19) (.tmp 27) rfl w.heap.size u3 m l rfl (R.out.2.2.1.alloc _) wr.heap.size 1 h k rfl (by rw [World.cell?_alloc_at _ _ _ _ rfl];rfl) (by rw [World.cell?_alloc_at _ _ _ _ rfl];rfl) R.out.2.2.2.2.1 (by have:=R.out.2.2.2.1.size;simp;omega) ?_;intro g' cap w1 hown hgrow hg)
        obtain ⟨r1,r2,r3,r4,r5,r6,r7⟩:=R.out
        have R2:Aside (h≤63∧x=n / 2 ^ h*2 ^ h∧w1.ownsRow w.heap.size 110 2 (.slice (some ⟨g',0,none⟩) (m+1) cap) (PC (n / 2 ^ h)) (z13 (TOPS h n))∧Below w.heap.size w w1):=⟨by omega,r2,by rw [r6,r7];exact hown,(r4.alloc r4.size _).grown hgrow (by have:=r4.size;simp;omega) (fun k e=>(r3.lt k e).1)⟩
        clear hown hgrow hg R r1 r2 r3 r4 r5 r6 r7
        refine (c _).mono ?_
        rintro e w' ⟨rfl,rfl⟩
        clear c
        go_wp2
        go_roundg h
        case measure=>omega
        case rel=>exact ⟨x,by first | rfl | (rw [e6]),by first | rfl | (rw [e4]),R2.out⟩
      · have hge:¬ 2 ^ h≤r:=fun h=>hb (p2.1 h)
        have pq:=p5 hb
        have hge':¬ ((2 ^ h:Nat):Int)≤(r:Int):=by omega
        have hT:=zcV (n:=n) (h:=h) (by omega) hb
        have hPC:PC (n / 2 ^ h)=PC (n / 2 ^ (h+1)):=by rw [z0R,← z0O];omega
        generalize ((2 ^ h:Nat):Int)=z at *
        have R:Aside (h≤63∧a=n / 2 ^ h*2 ^ h∧wr.ownsRow w.heap.size 110 2 u3 (PC (n / 2 ^ h)) (z13 (TOPS h n))∧Below w.heap.size w wr):=⟨by omega,pq,by rw [hT,hPC];exact hown,hbel⟩
        clear A HN h63 ha hown hbel hnn hr p1 p2 p3 p4 p5 hpw hp0 hb hge pq hT hPC
        go_wp2_with fail
        refine (c _).mono ?_
        rintro e w' ⟨rfl,rfl⟩
        clear c
        go_wp2
        go_roundg h
        case measure=>omega
        case rel=>exact ⟨a,rfl,by first | rfl | (rw [e4]),R.out⟩
end Go.Proofs.YtbmjoiiagldklaaGreatDoor

namespace Go.Proofs.YtbmjoiiagldklaaGreatDoor
open Go.RowKit
theorem z2Y (n:Nat) (hn:n≤4611686018427387904) (w:World):Calls Tryz.prog 51 #[.int .u64 (n:Int)] w fun e w'=>
    ∃ a cap,e=.returned (.slice a (PC n) cap)∧Spots w' a (TOPS 0 n)∧Below w.heap.size w w':=by
  refine (zc6 n hn w).mono ?_
  rintro e w' ⟨v,rfl,hown,hb⟩
  have hl:=z3C (n:=n) (by omega) 0 (by omega)
  rw [Nat.pow_zero,Nat.div_one] at hl
  obtain ⟨a,cap,rfl,hs⟩:=zec hl hown
  exact ⟨a,cap,rfl,hs,hb⟩
theorem zer {n:Nat} (hn:n≤4611686018427387904) {j h k:Nat} (e:(TOPS 0 n)[j]?=some (h,k)):Node h k∧h<64:=by
  unfold TOPS at e
  rw [List.getElem?_map] at e
  obtain ⟨g,hg,e2⟩:=Option.map_eq_some_iff.1 e
  simp only [Prod.mk.injEq] at e2
  obtain ⟨rfl,rfl⟩:=e2
  obtain ⟨_,h1,h2⟩:=ze7 0 g (by omega) (List.mem_of_getElem? hg)
  exact ⟨Node.peak hn h2,h1⟩
theorem zcX (n:Nat):z1s n=(TOPS 0 n).map fun x=>PLC x.1 x.2:=by
  unfold z1s TOPS
  rw [List.map_map]
  rfl
set_option maxHeartbeats 1000000 in
theorem zbc (n:Nat) (hn:n≤4611686018427387904) (w:World):Calls Tryz.prog 131 #[.int .u64 (n:Int)] w fun e w'=>
    ∃ v,e=.returned v∧w'.ownsRow w.heap.size 24 1 v (PC n) (z0a (z1s n))∧Below w.heap.size w w':=by
  have c:=z2Y n hn w
  have hl:=z3C (n:=n) (by omega) 0 (by omega)
  rw [Nat.pow_zero,Nat.div_one] at hl
  have hP:=z0V 64 n (by omega)
  have hN:=fun (j h k:Nat) (e:(TOPS 0 n)[j]?=some (h,k))=>zer hn e
  have hpt:=zcX n
  generalize PC n=L at *
  generalize TOPS 0 n=l at *
  have HL:Aside (l.length=L∧L≤64∧(∀ j h k,l[j]?=some (h,k)→Node h k∧h<64)∧z1s n=l.map fun x=>PLC x.1 x.2):=⟨hl,hP,hN,hpt⟩
  clear hn hl hP hN hpt
  go_enter Tryz.func131,Tryz.ntmps131
  go_wp2_with fail
  refine c.mono ?_
  rintro e w1 ⟨a,cap,rfl,hs,hb⟩
  have R1:Aside (Spots w1 a l∧Below w.heap.size w w1):=⟨hs,hb⟩
  clear c hs hb
  go_wp2
  go_loopg [3,5] L (fun q s3 s5 wx=>∃ j:Nat,s5=.int .i64 (j:Int)∧Aside (j+q=L∧wx.ownsRow w1.heap.size 24 1 s3 j (z0a ((l.take j).map fun x=>PLC x.1 x.2))∧Below w1.heap.size w1 wx))
  case atStart=>exact ⟨0,rfl,by omega,⟨rfl,.inl ⟨rfl,rfl⟩⟩,Below.refl _ _⟩
  case round=>
    obtain ⟨j,rfl,A⟩:=hrel
    cases gk with
    | zero=>
      obtain rfl:j=L:=by have:=A.out.1;omega
      have hlt:¬ (j:Int)<(j:Int):=by omega
      go_wp2
      go_ret
      obtain ⟨_,hown,hbel⟩:=A.out
      rw [List.take_of_length_le (by rw [HL.out.1];omega),← HL.out.2.2.2] at hown
      exact ⟨_,rfl,z0L hown R1.out.2.size,R1.out.2.trans (hbel.mono R1.out.2.size)⟩
    | succ q=>
      have hjl:j<L:=by have:=A.out.1;omega
      have hlt:(j:Int)<(L:Int):=by omega
      have hj0:¬ (j:Int)<0:=by omega
      obtain ⟨⟨h,k⟩,hx⟩:∃ x,l[j]?=some x:=⟨_,List.getElem?_eq_getElem (by rw [HL.out.1];exact hjl)⟩
      obtain ⟨g,rfl,hg,hc⟩:=R1.out.1 (by rw [HL.out.1];omega)
      have h0:wr.cell? ⟨g,j*2,none⟩=some (.int .u8 (h:Int)):=(A.out.2.2.cell (p:=⟨g,j*2,none⟩) hg).trans (hc j h k hx).1
      have h1:wr.cell? ⟨g,j*2+1,none⟩=some (.int .u64 (k:Int)):=(A.out.2.2.cell (p:=⟨g,j*2+1,none⟩) hg).trans (hc j h k hx).2
      have cp:=fun w=>z2G h k (HL.out.2.2.1 j h k hx).1 w
      have e1:wrap64 ((j:Int)+1)=((j+1:Nat):Int):=by have:=HL.out.2.1;unfold wrap64;omega
      have ht:(l.take (j+1)).map (fun x=>PLC x.1 x.2)=(l.take j).map (fun x=>PLC x.1 x.2) ++ [PLC h k]:=by
        rw [List.take_add_one,hx]
        simp
      generalize PLC h k=y at *
      generalize hm:(l.take j).map (fun x=>PLC x.1 x.2)=m at *
      generalize hm2:(l.take (j+1)).map (fun x=>PLC x.1 x.2)=m2 at *
      have R:Aside (j+1+q=L∧wr.ownsRow w1.heap.size 24 1 u3 j (z0a m)∧Below w1.heap.size w1 wr∧j≤1000∧m2=m ++ [y]∧(l.take (j+1)).map (fun x=>PLC x.1 x.2)=m2):=⟨by have:=A.out.1;omega,A.out.2.1,A.out.2.2,by have:=HL.out.2.1;omega,ht,hm2⟩
      clear A HL R1 hx hg hc ht hm hm2 hjl
      go_wp2_with fail
      refine (cp _).mono ?_
      rintro e w2 ⟨rfl,hb⟩
      replace R:Aside (j+1+q=L∧w2.ownsRow w1.heap.size 24 1 u3 j (z0a m)∧Below w1.heap.size w1 w2∧j≤1000∧m2=m ++ [y]∧(l.take (j+1)).map (fun x=>PLC x.1 x.2)=m2):=⟨R.out.1,z1a R.out.2.1 hb,R.out.2.2.1.trans (hb.mono R.out.2.2.1.size),R.out.2.2.2⟩
      clear cp hb h0 h1
      go_wp2_with (at_builtin;refine z3I _ rfl (.tmp 24) (.tmp 26) rfl w1.heap.size u3 j m rfl (R.out.2.1.alloc _) w2.heap.size 1 y rfl (by rw [World.cell?_alloc_at _ _ _ _ rfl];rfl) R.out.2.2.2.1 (by have:=R.out.2.2.1.size;simp;omega) ?_;intro g' cap' w3 hown hgrow hg)
      obtain ⟨r1,r2,r3,r4,r5,r6⟩:=R.out
      have R2:Aside (j+1+q=L∧w3.ownsRow w1.heap.size 24 1 (.slice (some ⟨g',0,none⟩) (j+1) cap') (j+1) (z0a ((l.take (j+1)).map fun x=>PLC x.1 x.2))∧Below w1.heap.size w1 w3):=⟨r1,by rw [r6,r5];exact hown,(r3.alloc r3.size _).grown hgrow (by have:=r3.size;simp;omega) (fun k e=>(r2.lt k e).1)⟩
      clear hown hgrow hg R r1 r2 r3 r4 r5 r6
      go_wp2
      go_roundg q
      case measure=>omega
      case rel=>exact ⟨j+1,by first | rfl | (rw [e1]),R2.out⟩
end Go.Proofs.YtbmjoiiagldklaaGreatDoor

namespace Go.Proofs.YtbmjoiiagldklaaGreatDoor
open Go.RowKit
theorem zcY {x:Nat} (h:x<2 ^ 64):IntKind.u64.wrap (x:Int)=(x:Int):=by
  rw [z0d]
  omega
theorem z8b {n j:Nat} (hn:n<2 ^ 64) (hj:j<PC n):(TOPS 0 n)[j]?=some (HGT n j,KGT n j):=by
  unfold TOPS
  rw [List.getElem?_map,(z2n hn hj).1]
  rfl
theorem z8c {i n:Nat} (hi:i<n) (hn:n≤4611686018427387904):HGT n (KTH i n)=RISE i n:=by
  unfold HGT
  rw [List.getD_eq_getElem?_getD,z9O hi hn]
  rfl
theorem zes {i n k:Nat} (hi:i<n) (hn:n≤4611686018427387904) (hk:k<KTH i n):i / 2 ^ HGT n k≠KGT n k:=by
  have hK:=z2m hi hn
  obtain ⟨_,h62,hb,hq,_⟩:=z0K hi hn
  obtain ⟨_,h2,h3⟩:=z2n (n:=n) (i:=k) (by omega) (by omega)
  have hlt:RISE i n<HGT n k:=by
    rcases Nat.lt_or_ge (RISE i n) (HGT n k) with h | h
    · exact h
    · have:=zc3 n (a:=HGT n k+1) (b:=RISE i n+1) (by omega)
      unfold KTH at hk
      omega
  have e:∀ x:Nat,x / 2 ^ HGT n k=x / 2 ^ (RISE i n+1) / 2 ^ (HGT n k - (RISE i n+1)):=fun x=>by rw [Nat.div_div_eq_div_mul,← Nat.pow_add,show RISE i n+1+(HGT n k - (RISE i n+1))=HGT n k by omega]
  have h4:=z5D h2
  rw [e i,hq,← e n,h4]
  unfold KGT
  omega
theorem zhh {i n:Nat} (hi:i<n) (hn:n≤4611686018427387904):i / 2 ^ HGT n (KTH i n)=KGT n (KTH i n):=by
  unfold KGT
  rw [z8c hi hn]
  exact (z0K hi hn).2.2.2.2
set_option maxHeartbeats 1000000 in
theorem z57 (i n:Nat) (hi:i<n) (hn:n≤4611686018427387904) (w:World):Calls Tryz.prog 50 #[.int .u64 (i:Int),.int .u64 (n:Int)] w fun e w'=>e=.returned (.tuple #[.int .i64 ((KTH i n:Nat):Int),.bool true])∧Below w.heap.size w w':=by
  have c:=z2Y n hn w
  have hK:=z2m hi hn
  have hP:=z0V 64 n (by omega)
  have h1:=fun (k:Nat) (hk:k<KTH i n)=>zes hi hn hk
  have h2:=zhh hi hn
  have hT:=fun (j:Nat) (hj:j<PC n)=>z8b (n:=n) (by omega) hj
  have hN:=fun (j:Nat) (hj:j<PC n)=>(z8Q hn hj).1
  have hL:=z3C (n:=n) (by omega) 0 (by omega)
  rw [Nat.pow_zero,Nat.div_one] at hL
  have hd:¬ (n:Int)≤(i:Int):=by omega
  have hi64:i<2 ^ 64:=by omega
  generalize KTH i n=K at *
  generalize PC n=L at *
  generalize HGT n=hh at *
  generalize KGT n=kk at *
  generalize TOPS 0 n=l at *
  have HA:Aside (K<L∧L≤64∧(∀ k,k<K→i / 2 ^ hh k≠kk k)∧i / 2 ^ hh K=kk K∧(∀ j,j<L→l[j]?=some (hh j,kk j))∧(∀ j,j<L→hh j≤62)∧l.length=L∧i<2 ^ 64):=⟨hK,hP,h1,h2,hT,hN,hL,hi64⟩
  clear hi hn hK hP h1 h2 hT hN hL hi64
  go_enter Tryz.func50,Tryz.ntmps50
  go_wp2_with fail
  refine c.mono ?_
  rintro e w1 ⟨a,cap,rfl,hs,hb⟩
  have R1:Aside (Spots w1 a l∧Below w.heap.size w w1):=⟨hs,hb⟩
  clear c hs hb
  go_wp2
  go_loopg [7] K (fun q s7 wx=>∃ j:Nat,s7=.int .i64 (j:Int)∧Aside (j+q=K∧Below w1.heap.size w1 wx))
  case atStart=>exact ⟨0,rfl,by omega,Below.refl _ _⟩
  case round=>
    obtain ⟨j,rfl,A⟩:=hrel
    obtain ⟨g,z,t,hv,kv,rfl,y0,y1,b1,b2,b3,b4,b5,b6,b7,b8,b9⟩:∃ (g:Nat) (z t:Int) (hv kv:Nat),a=some ⟨g,0,none⟩∧wr.cell? ⟨g,j*2,none⟩=some (.int .u8 (hv:Int))∧wr.cell? ⟨g,j*2+1,none⟩=some (.int .u64 (kv:Int))∧(∀ w,Calls Tryz.prog 87 #[.int .i64 (hv:Int)] w fun e w'=>e=.returned (.int .u64 z)∧w=w')∧wrap64 (hv:Int)=(hv:Int)∧¬ z=0∧(i:Int) / z=t∧IntKind.u64.wrap t=t∧(j<L∧j≤64)∧(gk=0→j=K)∧(gk=0→t=(kv:Int))∧(gk≠0→¬ t=(kv:Int)):=by
      obtain ⟨a1,a2,a3,a4,a5,a6,a7,a8⟩:=HA.out
      have hjK:=A.out.1
      have hjL:j<L:=by omega
      obtain ⟨g,rfl,hg,hc⟩:=R1.out.1 (by omega)
      have hx:=a5 j hjL
      have h62:=a6 j hjL
      have hp0:=Nat.two_pow_pos (hh j)
      refine ⟨g,((2 ^ hh j:Nat):Int),((i / 2 ^ hh j:Nat):Int),hh j,kk j,rfl,(A.out.2.cell (p:=⟨g,j*2,none⟩) hg).trans (hc _ _ _ hx).1,(A.out.2.cell (p:=⟨g,j*2+1,none⟩) hg).trans (hc _ _ _ hx).2,fun w=>z1B (hh j) (by omega) w,by unfold wrap64;omega,?_,(Int.natCast_ediv _ _).symm,zcY (Nat.lt_of_le_of_lt (Nat.div_le_self _ _) a8),⟨hjL,by omega⟩,fun h=>by omega,fun h=>?_,fun h=>?_⟩
      · generalize 2 ^ hh j=x at hp0
        omega
      · obtain rfl:j=K:=by omega
        rw [a4]
      · have:=a3 j (by omega)
        generalize i / 2 ^ hh j=x at this
        omega
    have hlt:(j:Int)<(L:Int):=by omega
    have hj0:¬ (j:Int)<0:=by omega
    have hj0':(0:Int)≤(j:Int):=by omega
    have e1:wrap64 ((j:Int)+1)=((j+1:Nat):Int):=by unfold wrap64;omega
    have b3':(z == 0)=false:=by simpa using b3
    cases gk with
    | zero=>
      obtain rfl:=b7 rfl
      have heq:(t == (kv:Int))=true:=by simpa using b8 rfl
      have R:Aside (Below w.heap.size w wr):=R1.out.2.trans (A.out.2.mono R1.out.2.size)
      clear A HA R1 b6 b7 b8 b9
      go_wp2_with fail
      refine (b1 _).mono ?_
      rintro e w' ⟨rfl,rfl⟩
      clear b1
      go_wp2
      go_quiet (fail)
      go_wp2
      go_ret2
      exact ⟨rfl,below_drewN R.out _⟩
    | succ q=>
      have hne:(t == (kv:Int))=false:=by simpa using b9 (by omega)
      have B:Aside (j+1+q=K∧Below w1.heap.size w1 wr):=⟨by have:=A.out.1;omega,A.out.2⟩
      clear A HA R1 b6 b7 b8 b9
      go_wp2_with fail
      refine (b1 _).mono ?_
      rintro e w' ⟨rfl,rfl⟩
      clear b1
      go_wp2
      go_quiet (fail)
      go_wp2
      go_roundg q
      case measure=>omega
      case rel=>exact ⟨j+1,by first | rfl | (rw [e1]),B.out.1,below_drewN B.out.2 _⟩
end Go.Proofs.YtbmjoiiagldklaaGreatDoor

namespace Go.Proofs.YtbmjoiiagldklaaGreatDoor
open Go.RowKit
set_option maxHeartbeats 2000000 in
theorem zcZ (i n:Nat) (hi:i<n) (hn:n≤4611686018427387904) (w:World):Calls Tryz.prog 130 #[.int .u64 (i:Int),.int .u64 (n:Int)] w fun e w'=>
    ∃ v,e=.returned (.tuple #[v,.bool true])∧w'.ownsRow w.heap.size 24 1 v (RISE i n) (z0a (WAY i (RISE i n)))∧Below w.heap.size w w':=by
  have c1:=z57 i n hi hn w
  have c2:=z2Y n hn
  have hK:=z2m hi hn
  have hP:=z0V 64 n (by omega)
  have hT:=z8b (n:=n) (by omega) hK
  rw [z8c hi hn] at hT
  have h62:=(z0K hi hn).2.1
  have hlt:i<4611686018427387904:=by omega
  generalize KTH i n=K at *
  generalize PC n=L at *
  generalize KGT n K=kk at *
  generalize TOPS 0 n=l at *
  generalize RISE i n=H at *
  have HA:Aside (K<L∧L≤64∧l[K]?=some (H,kk)∧H≤62∧i<4611686018427387904):=⟨hK,hP,hT,h62,hlt⟩
  have hKL:(K:Int)<(L:Int):=by omega
  have hK0:¬ (K:Int)<0:=by omega
  clear hi hn hK hP hT h62 hlt
  go_enter Tryz.func130,Tryz.ntmps130
  go_wp2_with fail
  refine c1.mono ?_
  rintro e w1 ⟨rfl,hb⟩
  have R1:Aside (Below w.heap.size w w1):=hb
  clear c1 hb
  go_wp2_with fail
  refine (c2 _).mono ?_
  rintro e w2 ⟨a,cap,rfl,hs,hb⟩
  obtain ⟨g,rfl,hg,hc⟩:=hs (by have:=(List.getElem?_eq_some_iff.1 HA.out.2.2.1).1;omega)
  have y0:=(hc _ _ _ HA.out.2.2.1).1
  replace R1:Aside (Below w.heap.size w w2):=R1.out.trans (hb.mono R1.out.size)
  clear c2 hb hs hc hg
  go_wp2
  have hB:Below w2.heap.size w2 (w2.alloc (.cells #[.int .u8 0,.int .u64 (i:Int)] 110)):=(Below.refl _ _).alloc (Nat.le_refl _) _
  have hH:=Has.new w2 #[.int .u8 0,.int .u64 (i:Int)] 110
  have R2:Aside (Below w.heap.size w (w2.alloc (.cells #[.int .u8 0,.int .u64 (i:Int)] 110))∧Has (w2.alloc (.cells #[.int .u8 0,.int .u64 (i:Int)] 110)) w2.heap.size #[.int .u8 0,.int .u64 (i:Int)] 110∧w.heap.size≤w2.heap.size):=⟨R1.out.trans (hB.mono R1.out.size),hH,R1.out.size⟩
  generalize w2.alloc (.cells #[.int .u8 0,.int .u64 (i:Int)] 110)=w3 at *
  clear hB hH R1 y0
  generalize w2.heap.size=sb at *
  go_loopg [8] H (fun q s8 wx=>∃ j:Nat,Aside (j+q=H∧wx.ownsRow (sb+1) 24 1 s8 j (z0a (WAY i j))∧Has wx sb #[.int .u8 (j:Int),.int .u64 ((i / 2 ^ j:Nat):Int)] 110∧Below w.heap.size w wx))
  case atStart=>exact ⟨0,by omega,⟨rfl,.inl ⟨rfl,rfl⟩⟩,by rw [Nat.pow_zero,Nat.div_one];exact R2.out.2.1,R2.out.1⟩
  case round=>
    obtain ⟨j,A⟩:=hrel
    have y0:wr.cell? ⟨sb,0,none⟩=some (.int .u8 (j:Int)):=A.out.2.2.1.cell 0
    cases gk with
    | zero=>
      obtain rfl:j=H:=by have:=A.out.1;omega
      have hlt:¬ (j:Int)<(j:Int):=by omega
      go_wp2
      go_ret2
      obtain ⟨_,hown,_,hbel⟩:=A.out
      exact ⟨_,rfl,z0L hown (by have:=R2.out.2.2;omega),hbel⟩
    | succ q=>
      have y1:wr.cell? ⟨sb,1,none⟩=some (.int .u64 ((i / 2 ^ j:Nat):Int)):=A.out.2.2.1.cell 1
      have hjH:j<H:=by have:=A.out.1;omega
      have hlt:(j:Int)<(H:Int):=by omega
      have hN:=Node.over HA.out.2.2.2.2 j (by have:=HA.out.2.2.2.1;omega)
      have cp:=fun w=>z2G j (i / 2 ^ j) hN w
      have cs:=fun w=>z9p j (i / 2 ^ j) hN (by have:=HA.out.2.2.2.1;omega) w
      have e1:((j:Int)+1) % 256=((j+1:Nat):Int):=by have:=HA.out.2.2.2.1;omega
      have hk64:i / 2 ^ j<2 ^ 62:=hN.index_lt
      have hw:=z9P i j
      have hhalf:=z0O i j
      have hj63:j≤63:=by have:=HA.out.2.2.2.1;omega
      generalize hk:i / 2 ^ j=k at *
      generalize hk2:i / 2 ^ (j+1)=k2 at *
      have e2:(k:Int) / 2=(k2:Int):=by omega
      have e3:IntKind.u64.wrap (k2:Int)=(k2:Int):=zcY (by omega)
      generalize PLC j k=x at *
      generalize PLC j (SIB k)=y at *
      have R:Aside (j+1+q=H∧wr.ownsRow (sb+1) 24 1 u8 j (z0a (WAY i j))∧Has wr sb #[.int .u8 (j:Int),.int .u64 (k:Int)] 110∧Below w.heap.size w wr∧j≤1000∧WAY i (j+1)=WAY i j ++ [y]∧i / 2 ^ (j+1)=k2∧w.heap.size≤sb):=⟨by have:=A.out.1;omega,A.out.2.1,A.out.2.2.1,A.out.2.2.2,by omega,hw,hk2,R2.out.2.2⟩
      clear A HA R2 hjH hN hk64 hw hhalf hj63 hk hk2
      go_wp2_with fail
      refine (cp _).mono ?_
      rintro e w4 ⟨rfl,hb⟩
      obtain ⟨r1,r2,r3,r4,r5,r6,r7,r8⟩:=R.out
      replace R:Aside (j+1+q=H∧w4.ownsRow (sb+1) 24 1 u8 j (z0a (WAY i j))∧Has w4 sb #[.int .u8 (j:Int),.int .u64 (k:Int)] 110∧Below w.heap.size w w4∧j≤1000∧WAY i (j+1)=WAY i j ++ [y]∧i / 2 ^ (j+1)=k2∧w.heap.size≤sb):=⟨r1,z1a r2 hb,r3.keep hb,r4.trans (hb.mono r4.size),r5,r6,r7,r8⟩
      clear cp hb y0 y1 r1 r2 r3 r4 r5 r6 r7 r8
      go_wp2_with fail
      refine (cs _).mono ?_
      rintro e w5 ⟨rfl,hb⟩
      obtain ⟨r1,r2,r3,r4,r5,r6,r7,r8⟩:=R.out
      replace R:Aside (j+1+q=H∧w5.ownsRow (sb+1) 24 1 u8 j (z0a (WAY i j))∧Has w5 sb #[.int .u8 (j:Int),.int .u64 (k:Int)] 110∧Below w.heap.size w w5∧j≤1000∧WAY i (j+1)=WAY i j ++ [y]∧i / 2 ^ (j+1)=k2∧w.heap.size≤sb):=⟨r1,z1a r2 hb,r3.keep hb,r4.trans (hb.mono r4.size),r5,r6,r7,r8⟩
      clear cs hb r1 r2 r3 r4 r5 r6 r7 r8
      go_wp2_with (at_builtin;refine z3I _ rfl (.tmp 45) (.tmp 47) rfl (sb+1) u8 j (WAY i j) rfl (R.out.2.1.alloc _) w5.heap.size 1 y rfl (by rw [World.cell?_alloc_at _ _ _ _ rfl];rfl) R.out.2.2.2.2.1 (by have:=R.out.2.2.1.lt;simp;omega) ?_;intro g' cap' w6 hown hgrow hg;have HH:Aside (Has w6 sb #[.int .u8 (j:Int),.int .u64 (k:Int)] 110):=Has.below (R.out.2.2.1.alloc _) ((Below.refl (sb+1) _).grown hgrow (by have:=R.out.2.2.1.lt;simp;omega) (fun k e=>(R.out.2.1.lt k e).1)) (Nat.lt_succ_self _);have y0:w6.cell? ⟨sb,0,none⟩=some (.int .u8 (j:Int)):=HH.out.cell 0;have y1:w6.cell? ⟨sb,1,none⟩=some (.int .u64 (k:Int)):=HH.out.cell 1;have z0:w6.frozen? ⟨sb,0,none⟩=false:=HH.out.frozen 0;have z1:w6.frozen? ⟨sb,1,none⟩=false:=HH.out.frozen 1)
      obtain ⟨r1,r2,r3,r4,r5,r6,r7,r8⟩:=R.out
      have R3:Aside (j+1+q=H∧w6.ownsRow (sb+1) 24 1 (.slice (some ⟨g',0,none⟩) (j+1) cap') (j+1) (z0a (WAY i (j+1)))∧Has w6 sb #[.int .u8 (j:Int),.int .u64 (k:Int)] 110∧Below w.heap.size w w6∧i / 2 ^ (j+1)=k2∧w.heap.size≤sb):=⟨r1,by rw [r6];exact hown,HH.out,(r4.alloc r4.size _).grown hgrow (by have:=r4.size;simp;omega) (fun k e=>by have:=(r2.lt k e).1;omega),r7,r8⟩
      clear hown hgrow hg R r1 r2 r3 r4 r5 r6 r7 r8 HH y0 y1 z0 z1
      go_roundg q
      case measure=>omega
      case rel=>
        obtain ⟨r1,r2,r3,r4,r7,r8⟩:=R3.out
        refine ⟨j+1,r1,ownsRow_setCell_below (ownsRow_setCell_below r2 (Nat.lt_succ_self _) _) (Nat.lt_succ_self _) _,?_,(r4.setCell r8 _).setCell r8 _⟩
        have h:=(r3.set 0 (.int .u8 ((j:Int)+1))).set 1 (.int .u64 (k2:Int))
        rw [r7]
        exact h
end Go.Proofs.YtbmjoiiagldklaaGreatDoor

namespace Go.Proofs.YtbmjoiiagldklaaGreatDoor
open Go.RowKit
theorem zet {w:World} {base g n cap:Nat} {l:List Nat} (h:w.ownsRow base 24 1 (.slice (some ⟨g,0,none⟩) n cap) n (z0a l)) (i:Nat) (hi:i<l.length):w.cell? ⟨g,i,none⟩=some (.int .u64 (l.getD i 0:Nat)):=by
  have hlen:l.length=n:=by have:=h.1;simpa [z0a] using this
  rw [h.cellAt i (by omega)]
  unfold z0a
  rw [List.getElem?_map,List.getD_eq_getElem?_getD,List.getElem?_eq_getElem hi]
  rfl
end Go.Proofs.YtbmjoiiagldklaaGreatDoor
