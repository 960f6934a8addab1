/- Texts of SpanVerifies, one behind the other: NumLongCalls, NumLongPlain, ProofMark, ProofHashPlain, ProofHashes, ProofLong, ProofDecodePlain, ProofRoundPlain, NumRefBytes. -/
import Derived.Deep.RegionLaw
import Derived.Laws.CopyOwn
import Derived.Test.YthdpkaiieomdoaaGreatDoorSpanVerifiesP5
namespace Go.Proofs.YthdpkaiieomdoaaGreatDoor
open Go.RowKit
def LG (l:List Int) (n:Nat):Nat→Nat→Int→Int × Int × Int
  | 0,_,_=>(0,0,10)
  | f+1,k,x=>if k=n then (0,0,11) else if 128≤l.getD k 0 then LG l n f (k+1) (x+l.getD k 0 % 128*128 ^ k)
    else if k=9∧1<l.getD k 0 then (0,0,10) else if l.getD k 0=0∧0<k then (0,0,12) else (x+l.getD k 0*128 ^ k,(k:Int)+1,0)
theorem z7X {l:List Int} {n f k:Nat} {x:Int} (h:k=n):LG l n (f+1) k x=(0,0,11):=by
  show (if k=n then _ else _)=_
  rw [if_pos h]
theorem z6j {l:List Int} {n f k:Nat} {x:Int} (h:k≠n) (hc:128≤l.getD k 0):LG l n (f+1) k x=LG l n f (k+1) (x+l.getD k 0 % 128*128 ^ k):=by
  show (if k=n then _ else _)=_
  rw [if_neg h,if_pos hc]
theorem z5Q {l:List Int} {n f k:Nat} {x:Int} (h:k≠n) (hc:¬ 128≤l.getD k 0):LG l n (f+1) k x=if k=9∧1<l.getD k 0 then (0,0,10) else if l.getD k 0=0∧0<k then (0,0,12) else (x+l.getD k 0*128 ^ k,(k:Int)+1,0):=by
  show (if k=n then _ else _)=_
  rw [if_neg h,if_neg hc]
theorem pow7 (k:Nat):(2:Nat) ^ (7*k)=128 ^ k:=by rw [Nat.pow_mul]
theorem z4m (L k:Nat):SHL L (7*(k:Int))=L*128 ^ k % 2 ^ 64:=by
  unfold SHL
  rw [if_neg (by omega),show (7*(k:Int)).toNat=7*k by omega,pow7]
theorem zbX (L k:Nat):SHR L (7*(k:Int))=L / 128 ^ k:=by
  unfold SHR
  rw [if_neg (by omega),show (7*(k:Int)).toNat=7*k by omega,pow7]
theorem z58 {L k:Nat} (hL:L<128) (hk:k≤8):L*128 ^ k % 2 ^ 64=L*128 ^ k:=by
  have h:=Nat.pow_le_pow_right (n:=128) (by decide) hk
  have h2:L*128 ^ k≤127*128 ^ 8:=Nat.mul_le_mul (by omega) h
  exact Nat.mod_eq_of_lt (Nat.lt_of_le_of_lt h2 (by decide))
theorem zaG {L k:Nat} (hL:L<128) (hk:k≤9):L*128 ^ k % 2 ^ 64 / 128 ^ k=if k=9 then L % 2 else L:=by
  by_cases h:k=9
  · subst h
    rw [if_pos rfl]
    omega
  · rw [if_neg h,z58 hL (by omega),Nat.mul_div_cancel _ (Nat.pow_pos (by decide))]
theorem z7Y {x L k:Nat} (hx:x<128 ^ k) (hL:L<128) (hk:k≤8):bits .or .u64 (x:Int) ((L*128 ^ k % 2 ^ 64:Nat):Int)=((x+L*128 ^ k:Nat):Int):=by
  have h8:=Nat.pow_le_pow_right (n:=128) (by decide) hk
  have hx2:x<2 ^ 64:=Nat.lt_of_lt_of_le hx (Nat.le_trans h8 (by decide))
  rw [z9S hx2 (Nat.mod_lt _ (by decide)),z58 hL hk,Nat.or_comm,nat_join (7*k) _ x (by rw [pow7];exact Nat.mul_mod_left _ _) (by rw [pow7];exact hx),Nat.add_comm]
theorem zbY {x L:Nat} (hx:x<128 ^ 9) (hL:L<2):bits .or .u64 (x:Int) ((L*128 ^ 9 % 2 ^ 64:Nat):Int)=((x+L*128 ^ 9:Nat):Int):=by
  have h1:L*128 ^ 9 % 2 ^ 64=L*128 ^ 9:=Nat.mod_eq_of_lt (by omega)
  rw [z9S (Nat.lt_of_lt_of_le hx (by decide)) (Nat.mod_lt _ (by decide)),h1,Nat.or_comm,nat_join (7*9) _ x (by omega) (by omega),Nat.add_comm]
def Gath (l:List Int) (n k:Nat) (y:Int) (R:Int × Int × Int):Prop:=∃ x:Nat,LG l n (10 - k) k (x:Int)=R∧(k≤9→y=(x:Int)∧x<128 ^ k)
theorem Gath.start (l:List Int) (n:Nat):Gath l n 0 0 (LG l n 10 0 0):=⟨0,rfl,fun _=>⟨rfl,by decide⟩⟩
theorem Gath.next {l:List Int} {n k:Nat} {y v p:Int} {R:Int × Int × Int} (A:Gath l n k y R) (hk:k≤9) (hkn:k≠n) (hv:l.getD k 0=v) (h0:128≤v)
    (hp:p=((SHL (v % 128).toNat (7*(k:Int)):Nat):Int)):Gath l n (k+1) (bits .or .u64 y p) R:=by
  obtain ⟨x,hx,hy⟩:=A
  obtain ⟨rfl,hlt⟩:=hy hk
  obtain ⟨L,hL⟩:∃ L:Nat,v % 128=(L:Int):=⟨(v % 128).toNat,by omega⟩
  rw [show 10 - k=10 - (k+1)+1 by omega,z6j hkn (by rw [hv];exact h0),hv,hL] at hx
  have hL128:L<128:=by omega
  rw [hL,Int.toNat_natCast,z4m] at hp
  refine ⟨x+L*128 ^ k,?_,fun h=>?_⟩
  · rw [← hx]
    congr 1
  · rw [hp,z7Y hlt hL128 (by omega)]
    refine ⟨rfl,?_⟩
    have:L*128 ^ k≤127*128 ^ k:=Nat.mul_le_mul_right _ (by omega)
    rw [Nat.pow_succ]
    omega
theorem Gath.hit {l:List Int} {n k:Nat} {y v:Int} {R:Int × Int × Int} (A:Gath l n k y R) (hk:k≤9) (hkn:k≠n) (hv:l.getD k 0=v) (h1:¬ 128≤v):
    R=if k=9∧1<v then (0,0,10) else if v=0∧0<k then (0,0,12) else (y+v*128 ^ k,(k:Int)+1,0):=by
  obtain ⟨x,hx,hy⟩:=A
  obtain ⟨rfl,hlt⟩:=hy hk
  rw [show 10 - k=9 - k+1 by omega,z5Q hkn (by rw [hv];exact h1),hv] at hx
  exact hx.symm
theorem Gath.val {l:List Int} {n k:Nat} {y v p:Int} {R:Int × Int × Int} (A:Gath l n k y R) (hk:k≤9) (h0:0≤v) (h1:¬ 128≤v) (h9:¬ (k=9∧1<v))
    (hp:p=((SHL (v % 128).toNat (7*(k:Int)):Nat):Int)):bits .or .u64 y p=y+v*128 ^ k:=by
  obtain ⟨x,_,hy⟩:=A
  obtain ⟨rfl,hlt⟩:=hy hk
  obtain ⟨L,rfl⟩:∃ L:Nat,v=(L:Int):=⟨v.toNat,by omega⟩
  rw [show (((L:Int) % 128).toNat)=L by omega,z4m] at hp
  by_cases h:k=9
  · subst h
    rw [hp,zbY hlt (by omega)]
    simp
  · rw [hp,z7Y hlt (by omega) (by omega)]
    simp
theorem z6k {v p q:Int} {k:Nat} (hk:k≤9) (h0:0≤v) (h1:¬ 128≤v) (hp:p=((SHL (v % 128).toNat (7*(k:Int)):Nat):Int)) (hq:q=((SHR p.toNat (7*(k:Int)):Nat):Int)):
    (q != v % 128)=decide (k=9∧1<v):=by
  obtain ⟨L,rfl⟩:∃ L:Nat,v=(L:Int):=⟨v.toNat,by omega⟩
  rw [show (((L:Int) % 128).toNat)=L by omega,z4m] at hp
  rw [hp,Int.toNat_natCast,zbX,zaG (by omega) hk] at hq
  rw [hq,Bool.eq_iff_iff,bne_iff_ne,decide_eq_true_iff]
  split <;> omega
set_option maxHeartbeats 2000000 in
theorem zaH (b off n c:Nat) (l:List Int) (R:Int × Int × Int) (r1 r2 r3:Int) (hR:Aside (LG l n 10 0 0=R∧R=(r1,r2,r3))) (w:World) (hB:Bytes w (some ⟨b,off,none⟩) n l) (h0:0<n) (hn:(n:Int)<10) (hcap:(n:Int)≤(c:Int)) (hmax:n≤140737488355328):
    Calls Tryz.prog 145 #[.slice (some ⟨b,off,none⟩) n c] w fun e w'=>e=.returned (.tuple #[.int .u64 r1,.int .i64 r2,.int .i64 r3])∧w=w':=by
  obtain ⟨b',off',e,_,hc0⟩:=hB.2.1 h0
  simp only [Option.some.injEq,Addr.mk.injEq] at e
  obtain ⟨rfl,rfl,_⟩:=e
  have HC:Aside ((∀ i,i<n→w.cell? ⟨b,off+i,none⟩=some (.int .u8 (l.getD i 0)))∧∀ i,0≤l.getD i 0∧l.getD i 0≤255):=⟨hc0,hB.get⟩
  have hcap0:0<(c:Int):=by omega
  clear hB hc0
  go_enter Tryz.func145,Tryz.ntmps145
  go_wp2
  go_loop [5,16] (fun s5 s16=>∃ (k:Nat) (y:Int),(k:Int)≤(n:Int)∧Aside (Gath l n k y R)∧s5=.int .u64 y∧s16=.int .i64 k) (fun _ i=>n - (intOf i).toNat)
  case atStart=>exact ⟨0,0,by omega,hR.out.1 ▸ Gath.start l n,rfl,rfl⟩
  case round=>
    obtain ⟨k,y,hk,A,rfl,rfl⟩:=hrel
    by_cases hlt:(k:Int)<(n:Int)
    · have hc := HC.out.1 k (by omega)
      have hcb:=HC.out.2 k
      generalize hv:l.getD k 0=v at hc hcb
      have Hv:Aside (l.getD k 0=v):=hv
      clear hv
      have hv0:=hcb.1
      have hv1:=hcb.2
      clear hcb
      obtain ⟨p,hp⟩:∃ p:Int,p=((SHL (v % 128).toNat (7*(k:Int)):Nat):Int):=⟨_,rfl⟩
      have hpl:0≤p∧p<2 ^ 64:=by
        have:=z7b (show (v % 128).toNat<2 ^ 64 by omega) (7*(k:Int))
        omega
      have c1:∀ w,Calls Tryz.prog 182 #[.int .u64 (v % 128),.int .i64 (7*(k:Int))] w fun e w'=>e=.returned (.int .u64 p)∧w=w':=fun w=>by
        have h:=z7g (v % 128).toNat (7*(k:Int)) (by omega) (by omega) (by omega) w
        rw [← hp,Int.toNat_of_nonneg (by omega)] at h
        exact h
      by_cases h128:128≤v
      · have HP:Aside (p=((SHL (v % 128).toNat (7*(k:Int)):Nat):Int)):=hp
        clear hp hpl
        go_wp2_with fail
        refine (c1 _).mono ?_
        rintro e w' ⟨rfl,rfl⟩
        go_wp2
        go_round
        case rel=>exact ⟨k+1,_,by omega,A.out.next (by omega) (by omega) Hv.out h128 HP.out,rfl,by go_num⟩
        case measure=>simp [intOf];omega
      · obtain ⟨q,hq⟩:∃ q:Int,q=((SHR p.toNat (7*(k:Int)):Nat):Int):=⟨_,rfl⟩
        have c2:∀ w,Calls Tryz.prog 183 #[.int .u64 p,.int .i64 (7*(k:Int))] w fun e w'=>e=.returned (.int .u64 q)∧w=w':=fun w=>by
          have h:=z2l p.toNat (7*(k:Int)) (by omega) (by omega) (by omega) w
          rw [← hq,Int.toNat_of_nonneg hpl.1] at h
          exact h
        have hs:=z6k (show k≤9 by omega) hv0 h128 hp hq
        have hit:=A.out.hit (by omega) (by omega) Hv.out h128
        rw [hR.out.2] at hit
        have hval:=fun h9=>A.out.val (by omega) hv0 h128 h9 hp
        clear hp hpl hq
        by_cases hr:k=9∧1<v
        · rw [if_pos hr] at hit
          simp only [Prod.mk.injEq] at hit
          obtain ⟨rfl,rfl,rfl⟩:=hit
          have hs':(q != v % 128)=true:=by rw [hs];simp [hr]
          clear hs hval hr
          go_wp2_with fail
          refine (c1 _).mono ?_
          rintro e w' ⟨rfl,rfl⟩
          go_wp2_with fail
          refine (c2 _).mono ?_
          rintro e w' ⟨rfl,rfl⟩
          go_wp2
          go_ret3
          exact ⟨rfl,rfl⟩
        · rw [if_neg hr] at hit
          have hs':(q != v % 128)=false:=by rw [hs];simp only [decide_eq_false_iff_not];exact hr
          have hval':=hval hr
          clear hs hval hr
          by_cases hz:v=0∧0<k
          · rw [if_pos hz] at hit
            simp only [Prod.mk.injEq] at hit
            obtain ⟨rfl,rfl,rfl⟩:=hit
            obtain ⟨rfl,hk0⟩:=hz
            have hk0':0<(k:Int):=by omega
            clear hval'
            go_wp2_with fail
            refine (c1 _).mono ?_
            rintro e w' ⟨rfl,rfl⟩
            go_wp2_with fail
            refine (c2 _).mono ?_
            rintro e w' ⟨rfl,rfl⟩
            go_wp2
            go_ret3
            exact ⟨rfl,rfl⟩
          · rw [if_neg hz] at hit
            simp only [Prod.mk.injEq] at hit
            obtain ⟨e1,rfl,rfl⟩:=hit
            rw [← e1] at hval'
            have HE:Aside (bits .or .u64 y p=r1):=hval'
            clear hval' e1
            by_cases hv00:v=0
            · have hk0:¬ 0<(k:Int):=by omega
              have hvb:(v == 0)=true:=by simp [hv00]
              clear hz hv00
              go_wp2_with fail
              refine (c1 _).mono ?_
              rintro e w' ⟨rfl,rfl⟩
              go_wp2_with fail
              refine (c2 _).mono ?_
              rintro e w' ⟨rfl,rfl⟩
              go_wp2
              go_ret3
              exact ⟨by rw [← HE.out];rfl,rfl⟩
            · have hvb:(v == 0)=false:=by simp [hv00]
              clear hz hv00
              go_wp2_with fail
              refine (c1 _).mono ?_
              rintro e w' ⟨rfl,rfl⟩
              go_wp2_with fail
              refine (c2 _).mono ?_
              rintro e w' ⟨rfl,rfl⟩
              go_wp2
              go_ret3
              exact ⟨by rw [← HE.out];rfl,rfl⟩
    · have hk':k=n:=by omega
      subst hk'
      have hit:=A.out
      obtain ⟨x,hx,_⟩:=hit
      rw [show 10 - k=9 - k+1 by omega,z7X rfl,hR.out.2] at hx
      simp only [Prod.mk.injEq] at hx
      obtain ⟨rfl,rfl,rfl⟩:=hx
      clear A
      go_wp2
      go_ret3
      exact ⟨rfl,rfl⟩
set_option maxHeartbeats 2000000 in
theorem zbZ (b off n c:Nat) (l:List Int) (R:Int × Int × Int) (r1 r2 r3:Int) (hR:Aside (LG l n 10 0 0=R∧R=(r1,r2,r3))) (w:World) (hB:Bytes w (some ⟨b,off,none⟩) n l) (h0:0<n) (hn:10<(n:Int)) (hcap:(n:Int)≤(c:Int)) (hmax:n≤140737488355328):
    Calls Tryz.prog 145 #[.slice (some ⟨b,off,none⟩) n c] w fun e w'=>e=.returned (.tuple #[.int .u64 r1,.int .i64 r2,.int .i64 r3])∧w=w':=by
  obtain ⟨b',off',e,_,hc0⟩:=hB.2.1 h0
  simp only [Option.some.injEq,Addr.mk.injEq] at e
  obtain ⟨rfl,rfl,_⟩:=e
  have HC:Aside ((∀ i,i<n→w.cell? ⟨b,off+i,none⟩=some (.int .u8 (l.getD i 0)))∧∀ i,0≤l.getD i 0∧l.getD i 0≤255):=⟨hc0,hB.get⟩
  have hcap0:0<(c:Int):=by omega
  have h10c:(10:Int)≤(c:Int):=by omega
  clear hB hc0
  go_enter Tryz.func145,Tryz.ntmps145
  go_wp2
  go_loop [5,16] (fun s5 s16=>∃ (k:Nat) (y:Int),(k:Int)≤10∧Aside (Gath l n k y R)∧s5=.int .u64 y∧s16=.int .i64 k) (fun _ i=>10 - (intOf i).toNat)
  case atStart=>exact ⟨0,0,by omega,hR.out.1 ▸ Gath.start l n,rfl,rfl⟩
  case round=>
    obtain ⟨k,y,hk,A,rfl,rfl⟩:=hrel
    by_cases hlt:(k:Int)<10
    · have hc := HC.out.1 k (by omega)
      have hcb:=HC.out.2 k
      generalize hv:l.getD k 0=v at hc hcb
      have Hv:Aside (l.getD k 0=v):=hv
      clear hv
      have hv0:=hcb.1
      have hv1:=hcb.2
      clear hcb
      obtain ⟨p,hp⟩:∃ p:Int,p=((SHL (v % 128).toNat (7*(k:Int)):Nat):Int):=⟨_,rfl⟩
      have hpl:0≤p∧p<2 ^ 64:=by
        have:=z7b (show (v % 128).toNat<2 ^ 64 by omega) (7*(k:Int))
        omega
      have c1:∀ w,Calls Tryz.prog 182 #[.int .u64 (v % 128),.int .i64 (7*(k:Int))] w fun e w'=>e=.returned (.int .u64 p)∧w=w':=fun w=>by
        have h:=z7g (v % 128).toNat (7*(k:Int)) (by omega) (by omega) (by omega) w
        rw [← hp,Int.toNat_of_nonneg (by omega)] at h
        exact h
      by_cases h128:128≤v
      · have HP:Aside (p=((SHL (v % 128).toNat (7*(k:Int)):Nat):Int)):=hp
        clear hp hpl
        go_wp2_with fail
        refine (c1 _).mono ?_
        rintro e w' ⟨rfl,rfl⟩
        go_wp2
        go_round
        case rel=>exact ⟨k+1,_,by omega,A.out.next (by omega) (by omega) Hv.out h128 HP.out,rfl,by go_num⟩
        case measure=>simp [intOf];omega
      · obtain ⟨q,hq⟩:∃ q:Int,q=((SHR p.toNat (7*(k:Int)):Nat):Int):=⟨_,rfl⟩
        have c2:∀ w,Calls Tryz.prog 183 #[.int .u64 p,.int .i64 (7*(k:Int))] w fun e w'=>e=.returned (.int .u64 q)∧w=w':=fun w=>by
          have h:=z2l p.toNat (7*(k:Int)) (by omega) (by omega) (by omega) w
          rw [← hq,Int.toNat_of_nonneg hpl.1] at h
          exact h
        have hs:=z6k (show k≤9 by omega) hv0 h128 hp hq
        have hit:=A.out.hit (by omega) (by omega) Hv.out h128
        rw [hR.out.2] at hit
        have hval:=fun h9=>A.out.val (by omega) hv0 h128 h9 hp
        clear hp hpl hq
        by_cases hr:k=9∧1<v
        · rw [if_pos hr] at hit
          simp only [Prod.mk.injEq] at hit
          obtain ⟨rfl,rfl,rfl⟩:=hit
          have hs':(q != v % 128)=true:=by rw [hs];simp [hr]
          clear hs hval hr
          go_wp2_with fail
          refine (c1 _).mono ?_
          rintro e w' ⟨rfl,rfl⟩
          go_wp2_with fail
          refine (c2 _).mono ?_
          rintro e w' ⟨rfl,rfl⟩
          go_wp2
          go_ret3
          exact ⟨rfl,rfl⟩
        · rw [if_neg hr] at hit
          have hs':(q != v % 128)=false:=by rw [hs];simp only [decide_eq_false_iff_not];exact hr
          have hval':=hval hr
          clear hs hval hr
          by_cases hz:v=0∧0<k
          · rw [if_pos hz] at hit
            simp only [Prod.mk.injEq] at hit
            obtain ⟨rfl,rfl,rfl⟩:=hit
            obtain ⟨rfl,hk0⟩:=hz
            have hk0':0<(k:Int):=by omega
            clear hval'
            go_wp2_with fail
            refine (c1 _).mono ?_
            rintro e w' ⟨rfl,rfl⟩
            go_wp2_with fail
            refine (c2 _).mono ?_
            rintro e w' ⟨rfl,rfl⟩
            go_wp2
            go_ret3
            exact ⟨rfl,rfl⟩
          · rw [if_neg hz] at hit
            simp only [Prod.mk.injEq] at hit
            obtain ⟨e1,rfl,rfl⟩:=hit
            rw [← e1] at hval'
            have HE:Aside (bits .or .u64 y p=r1):=hval'
            clear hval' e1
            by_cases hv00:v=0
            · have hk0:¬ 0<(k:Int):=by omega
              have hvb:(v == 0)=true:=by simp [hv00]
              clear hz hv00
              go_wp2_with fail
              refine (c1 _).mono ?_
              rintro e w' ⟨rfl,rfl⟩
              go_wp2_with fail
              refine (c2 _).mono ?_
              rintro e w' ⟨rfl,rfl⟩
              go_wp2
              go_ret3
              exact ⟨by rw [← HE.out];rfl,rfl⟩
            · have hvb:(v == 0)=false:=by simp [hv00]
              clear hz hv00
              go_wp2_with fail
              refine (c1 _).mono ?_
              rintro e w' ⟨rfl,rfl⟩
              go_wp2_with fail
              refine (c2 _).mono ?_
              rintro e w' ⟨rfl,rfl⟩
              go_wp2
              go_ret3
              exact ⟨by rw [← HE.out];rfl,rfl⟩
    · have hk':k=10:=by omega
      subst hk'
      have hit:=A.out
      obtain ⟨x,hx,_⟩:=hit
      rw [show 10 - 10=0 by omega,hR.out.2] at hx
      have hx:(0,0,10)=(r1,r2,r3):=hx
      simp only [Prod.mk.injEq] at hx
      obtain ⟨rfl,rfl,rfl⟩:=hx
      clear A
      go_wp2
      go_ret3
      exact ⟨rfl,rfl⟩
set_option maxHeartbeats 2000000 in
theorem zdl (b off c:Nat) (l:List Int) (R:Int × Int × Int) (r1 r2 r3:Int) (hR:Aside (LG l 10 10 0 0=R∧R=(r1,r2,r3))) (w:World) (hB:Bytes w (some ⟨b,off,none⟩) 10 l) (hcap:(10:Int)≤(c:Int)):
    Calls Tryz.prog 145 #[.slice (some ⟨b,off,none⟩) 10 c] w fun e w'=>e=.returned (.tuple #[.int .u64 r1,.int .i64 r2,.int .i64 r3])∧w=w':=by
  obtain ⟨b',off',e,_,hc0⟩:=hB.2.1 (by decide)
  simp only [Option.some.injEq,Addr.mk.injEq] at e
  obtain ⟨rfl,rfl,_⟩:=e
  have HC:Aside ((∀ i,i<10→w.cell? ⟨b,off+i,none⟩=some (.int .u8 (l.getD i 0)))∧∀ i,0≤l.getD i 0∧l.getD i 0≤255):=⟨hc0,hB.get⟩
  have hcap0:0<(c:Int):=by omega
  clear hB hc0
  go_enter Tryz.func145,Tryz.ntmps145
  go_wp2
  go_loop [5,16] (fun s5 s16=>∃ (k:Nat) (y:Int),(k:Int)≤10∧Aside (Gath l 10 k y R)∧s5=.int .u64 y∧s16=.int .i64 k) (fun _ i=>10 - (intOf i).toNat)
  case atStart=>exact ⟨0,0,by omega,hR.out.1 ▸ Gath.start l 10,rfl,rfl⟩
  case round=>
    obtain ⟨k,y,hk,A,rfl,rfl⟩:=hrel
    by_cases hlt:(k:Int)<10
    · have hc := HC.out.1 k (by omega)
      have hcb:=HC.out.2 k
      generalize hv:l.getD k 0=v at hc hcb
      have Hv:Aside (l.getD k 0=v):=hv
      clear hv
      have hv0:=hcb.1
      have hv1:=hcb.2
      clear hcb
      obtain ⟨p,hp⟩:∃ p:Int,p=((SHL (v % 128).toNat (7*(k:Int)):Nat):Int):=⟨_,rfl⟩
      have hpl:0≤p∧p<2 ^ 64:=by
        have:=z7b (show (v % 128).toNat<2 ^ 64 by omega) (7*(k:Int))
        omega
      have c1:∀ w,Calls Tryz.prog 182 #[.int .u64 (v % 128),.int .i64 (7*(k:Int))] w fun e w'=>e=.returned (.int .u64 p)∧w=w':=fun w=>by
        have h:=z7g (v % 128).toNat (7*(k:Int)) (by omega) (by omega) (by omega) w
        rw [← hp,Int.toNat_of_nonneg (by omega)] at h
        exact h
      by_cases h128:128≤v
      · have HP:Aside (p=((SHL (v % 128).toNat (7*(k:Int)):Nat):Int)):=hp
        clear hp hpl
        go_wp2_with fail
        refine (c1 _).mono ?_
        rintro e w' ⟨rfl,rfl⟩
        go_wp2
        go_round
        case rel=>exact ⟨k+1,_,by omega,A.out.next (by omega) (by omega) Hv.out h128 HP.out,rfl,by go_num⟩
        case measure=>simp [intOf];omega
      · obtain ⟨q,hq⟩:∃ q:Int,q=((SHR p.toNat (7*(k:Int)):Nat):Int):=⟨_,rfl⟩
        have c2:∀ w,Calls Tryz.prog 183 #[.int .u64 p,.int .i64 (7*(k:Int))] w fun e w'=>e=.returned (.int .u64 q)∧w=w':=fun w=>by
          have h:=z2l p.toNat (7*(k:Int)) (by omega) (by omega) (by omega) w
          rw [← hq,Int.toNat_of_nonneg hpl.1] at h
          exact h
        have hs:=z6k (show k≤9 by omega) hv0 h128 hp hq
        have hit:=A.out.hit (by omega) (by omega) Hv.out h128
        rw [hR.out.2] at hit
        have hval:=fun h9=>A.out.val (by omega) hv0 h128 h9 hp
        clear hp hpl hq
        by_cases hr:k=9∧1<v
        · rw [if_pos hr] at hit
          simp only [Prod.mk.injEq] at hit
          obtain ⟨rfl,rfl,rfl⟩:=hit
          have hs':(q != v % 128)=true:=by rw [hs];simp [hr]
          clear hs hval hr
          go_wp2_with fail
          refine (c1 _).mono ?_
          rintro e w' ⟨rfl,rfl⟩
          go_wp2_with fail
          refine (c2 _).mono ?_
          rintro e w' ⟨rfl,rfl⟩
          go_wp2
          go_ret3
          exact ⟨rfl,rfl⟩
        · rw [if_neg hr] at hit
          have hs':(q != v % 128)=false:=by rw [hs];simp only [decide_eq_false_iff_not];exact hr
          have hval':=hval hr
          clear hs hval hr
          by_cases hz:v=0∧0<k
          · rw [if_pos hz] at hit
            simp only [Prod.mk.injEq] at hit
            obtain ⟨rfl,rfl,rfl⟩:=hit
            obtain ⟨rfl,hk0⟩:=hz
            have hk0':0<(k:Int):=by omega
            clear hval'
            go_wp2_with fail
            refine (c1 _).mono ?_
            rintro e w' ⟨rfl,rfl⟩
            go_wp2_with fail
            refine (c2 _).mono ?_
            rintro e w' ⟨rfl,rfl⟩
            go_wp2
            go_ret3
            exact ⟨rfl,rfl⟩
          · rw [if_neg hz] at hit
            simp only [Prod.mk.injEq] at hit
            obtain ⟨e1,rfl,rfl⟩:=hit
            rw [← e1] at hval'
            have HE:Aside (bits .or .u64 y p=r1):=hval'
            clear hval' e1
            by_cases hv00:v=0
            · have hk0:¬ 0<(k:Int):=by omega
              have hvb:(v == 0)=true:=by simp [hv00]
              clear hz hv00
              go_wp2_with fail
              refine (c1 _).mono ?_
              rintro e w' ⟨rfl,rfl⟩
              go_wp2_with fail
              refine (c2 _).mono ?_
              rintro e w' ⟨rfl,rfl⟩
              go_wp2
              go_ret3
              exact ⟨by rw [← HE.out];rfl,rfl⟩
            · have hvb:(v == 0)=false:=by simp [hv00]
              clear hz hv00
              go_wp2_with fail
              refine (c1 _).mono ?_
              rintro e w' ⟨rfl,rfl⟩
              go_wp2_with fail
              refine (c2 _).mono ?_
              rintro e w' ⟨rfl,rfl⟩
              go_wp2
              go_ret3
              exact ⟨by rw [← HE.out];rfl,rfl⟩
    · have hk':k=10:=by omega
      subst hk'
      have hit:=A.out
      obtain ⟨x,hx,_⟩:=hit
      rw [show 10 - 10=0 by omega,hR.out.2] at hx
      have hx:(0,0,10)=(r1,r2,r3):=hx
      simp only [Prod.mk.injEq] at hx
      obtain ⟨rfl,rfl,rfl⟩:=hx
      clear A
      go_wp2
      go_ret3
      exact ⟨rfl,rfl⟩
theorem zaI (a:Option Addr) (c:Nat) (w:World):Calls Tryz.prog 145 #[.slice a 0 c] w fun e w'=>e=.returned (.tuple #[.int .u64 0,.int .i64 0,.int .i64 11])∧w=w':=by
  go_enter Tryz.func145,Tryz.ntmps145
  go_wp2
  refine wp_loop_rounds 1 ?_
  rw [rounds_succ]
  go_wp2
  go_ret3
  exact ⟨rfl,rfl⟩
theorem zew (a:Option Addr) (n c:Nat) (l:List Int) (w:World) (hB:Bytes w a n l) (hcap:n≤c) (hmax:n≤140737488355328):
    Calls Tryz.prog 145 #[.slice a n c] w fun e w'=>e=.returned (.tuple #[.int .u64 (LG l n 10 0 0).1,.int .i64 (LG l n 10 0 0).2.1,.int .i64 (LG l n 10 0 0).2.2])∧w=w':=by
  rcases Nat.eq_zero_or_pos n with h | h
  · subst h
    exact zaI a c w
  · obtain ⟨b,off,rfl,_,_⟩:=hB.2.1 h
    by_cases h10:(n:Int)<10
    · exact zaH b off n c l _ _ _ _ ⟨rfl,rfl⟩ w hB h h10 (by omega) hmax
    · by_cases h10':n=10
      · subst h10'
        exact zdl b off c l _ _ _ _ ⟨rfl,rfl⟩ w hB (by omega)
      · exact zbZ b off n c l _ _ _ _ ⟨rfl,rfl⟩ w hB h (by omega) (by omega) hmax
end Go.Proofs.YthdpkaiieomdoaaGreatDoor

namespace Go.Proofs.YthdpkaiieomdoaaGreatDoor
open Go.RowKit
def VAL (d:Nat→Nat):Nat→Nat
  | 0=>0
  | m+1=>VAL d m+d m*128 ^ m
theorem z4n {d:Nat→Nat} (hd:∀ i,d i<128):∀ m,VAL d m<128 ^ m
  | 0=>by simp [VAL]
  | m+1=>by
    have:=z4n hd m
    have h2:d m*128 ^ m≤127*128 ^ m:=Nat.mul_le_mul_right _ (by have:=hd m;omega)
    simp only [VAL,Nat.pow_succ]
    omega
theorem z6I {d:Nat→Nat} (hd:∀ i,d i<128):∀ (m t i:Nat),i<m→(VAL d m+t*128 ^ m) / 128 ^ i % 128=d i
  | 0,_,_,h=>by omega
  | m + 1,t,i,h=>by
    have e:VAL d (m+1)+t*128 ^ (m+1)=VAL d m+(d m+t*128)*128 ^ m:=by
      simp only [VAL]
      rw [Nat.add_mul,Nat.pow_succ,Nat.mul_assoc,Nat.mul_comm 128,← Nat.add_assoc]
    rw [e]
    by_cases hi:i=m
    · subst hi
      rw [Nat.add_mul_div_right _ _ (Nat.pow_pos (by decide)),Nat.div_eq_of_lt (z4n hd i)]
      have:=hd i
      omega
    · exact z6I hd m _ i (by omega)
theorem zex {d:Nat→Nat} (hd:∀ i,d i<128) (m t:Nat):(VAL d m+t*128 ^ m) / 128 ^ m=t:=by
  rw [Nat.add_mul_div_right _ _ (Nat.pow_pos (by decide)),Nat.div_eq_of_lt (z4n hd m),Nat.zero_add]
def DIG (l:List Int):Nat→Nat:=fun i=>(l.getD i 0 % 128).toNat
theorem z7Z (l:List Int) (i:Nat):DIG l i<128:=by unfold DIG;omega
theorem z4o {l:List Int} {n:Nat}:∀ (m f:Nat),(∀ i,i<m→128≤l.getD i 0)→(∀ i,i<m→i≠n)→LG l n (f+m) 0 0=LG l n f m (VAL (DIG l) m:Nat)
  | 0,f,_,_=>rfl
  | m+1,f,h,hn=>by
    rw [show f+(m+1)=f+1+m by omega,z4o m (f+1) (fun i hi=>h i (by omega)) (fun i hi=>hn i (by omega)),z6j (hn m (by omega)) (h m (by omega))]
    congr 1
    simp only [VAL,DIG]
    rw [Int.natCast_add,Int.natCast_mul,Int.natCast_pow,Int.toNat_of_nonneg (by omega)]
    rfl
theorem z80 {l:List Int} {n:Nat}:∀ (f k:Nat) (x:Int),k≤n→(LG l n f k x).2.2=0→∃ m,k≤m∧m<k+f∧m<n∧(∀ i,k≤i→i<m→128≤l.getD i 0)∧¬ 128≤l.getD m 0∧¬ (m=9∧1<l.getD m 0)∧¬ (l.getD m 0=0∧0<m)
  | 0,k,x,_,h=>by simp [LG] at h
  | f + 1,k,x,hkn,h=>by
    by_cases h1:k=n
    · rw [z7X h1] at h
      simp at h
    · by_cases h2:128≤l.getD k 0
      · rw [z6j h1 h2] at h
        obtain ⟨m,a,b,c,d,e,g,i⟩:=z80 f (k+1) _ (by omega) h
        refine ⟨m,by omega,by omega,c,fun j hj1 hj2=>?_,e,g,i⟩
        by_cases hj:j=k
        · rw [hj];exact h2
        · exact d j (by omega) hj2
      · rw [z5Q h1 h2] at h
        by_cases h3:k=9∧1<l.getD k 0
        · rw [if_pos h3] at h
          simp at h
        · rw [if_neg h3] at h
          by_cases h4:l.getD k 0=0∧0<k
          · rw [if_pos h4] at h
            simp at h
          · exact ⟨k,Nat.le_refl _,by omega,by omega,fun j hj1 hj2=>by omega,h2,h3,h4⟩
theorem zfF {l:List Int} {n m:Nat} (hm:m≤9) (hmn:m<n) (h:∀ i,i<m→128≤l.getD i 0) (h1:¬ 128≤l.getD m 0) (h2:¬ (m=9∧1<l.getD m 0)) (h3:¬ (l.getD m 0=0∧0<m)):
    LG l n 10 0 0=((VAL (DIG l) m:Nat)+l.getD m 0*128 ^ m,(m:Int)+1,0):=by
  rw [show 10=9 - m+1+m by omega,z4o m (9 - m+1) h (fun i hi=>by omega),z5Q (by omega) h1,if_neg h2,if_neg h3]
theorem zc0 {a b:List Int} {i:Nat} (h:i<a.length):(a ++ b).getD i 0=a.getD i 0:=by
  rw [List.getD_eq_getElem?_getD,List.getElem?_append_left h,← List.getD_eq_getElem?_getD]
theorem zc1 {X i:Nat} (h:i<NTOP X):(z0o X).getD i 0=((X / 128 ^ i % 128+128:Nat):Int):=by
  unfold z0o
  rw [zc0 (by rw [z1Q];exact h),List.getD_eq_getElem?_getD]
  simp [z0K,h]
theorem zaJ (X:Nat):(z0o X).getD (NTOP X) 0=((X / 128 ^ NTOP X:Nat):Int):=by
  unfold z0o
  rw [List.getD_eq_getElem?_getD,List.getElem?_append_right (by rw [z1Q];exact Nat.le_refl _),z1Q]
  simp
theorem zey {l:List Int} {n:Nat} (hl:l.length=n) (hr:∀ i,0≤l.getD i 0∧l.getD i 0≤255) (h:(LG l n 10 0 0).2.2=0):
    ∃ Z m:Nat,Z<2 ^ 64∧m<n∧m≤9∧LG l n 10 0 0=((Z:Int),(m:Int)+1,0)∧NTOP Z=m∧z0o Z=l.take (m+1):=by
  obtain ⟨m,_,hm,hmn,hlow,h1,h2,h3⟩:=z80 10 0 0 (by omega) h
  have hlow':∀ i,i<m→128≤l.getD i 0:=fun i hi=>hlow i (by omega) hi
  have hat:=zfF (show m≤9 by omega) hmn hlow' h1 h2 h3
  obtain ⟨t,ht⟩:∃ t:Nat,l.getD m 0=(t:Int):=⟨(l.getD m 0).toNat,by have:=hr m;omega⟩
  have hd:=z7Z l
  have hvl:=z4n hd m
  obtain ⟨Z,hZ⟩:∃ Z:Nat,Z=VAL (DIG l) m+t*128 ^ m:=⟨_,rfl⟩
  have hZ64:Z<2 ^ 64:=by
    by_cases h9:m=9
    · subst h9
      omega
    · have h8:=Nat.pow_le_pow_right (n:=128) (by decide) (show m≤8 by omega)
      have h5:t*128 ^ m≤127*128 ^ 8:=Nat.mul_le_mul (by omega) h8
      omega
  have htop:Z / 128 ^ m=t:=by rw [hZ,zex hd]
  have hdig:∀ i,i<m→Z / 128 ^ i % 128=DIG l i:=fun i hi=>by rw [hZ,z6I hd m t i hi]
  have hN:NTOP Z=m:=by
    refine z6a hZ64 (fun i hi=>?_) (by rw [htop];omega)
    have ht1:1≤t:=by omega
    have h6:Z / 128 ^ i / 128 ^ (m - i)=t:=by rw [Nat.div_div_eq_div_mul,← Nat.pow_add,show i+(m - i)=m by omega,htop]
    have h7:128 ^ (m - i)≤Z / 128 ^ i:=by
      rcases Nat.lt_or_ge (Z / 128 ^ i) (128 ^ (m - i)) with h8 | h8
      · rw [Nat.div_eq_of_lt h8] at h6
        omega
      · exact h8
    have h8:=Nat.pow_le_pow_right (n:=128) (by decide) (show 1≤m - i by omega)
    omega
  refine ⟨Z,m,hZ64,hmn,by omega,?_,hN,?_⟩
  · rw [hat,ht,hZ,Int.natCast_add,Int.natCast_mul,Int.natCast_pow]
    rfl
  · apply List.ext_getElem?
    intro i
    by_cases hi:i<m+1
    · rw [List.getElem?_take_of_lt hi]
      have e1:(z0o Z)[i]?=some ((z0o Z).getD i 0):=by
        rw [List.getD_eq_getElem?_getD,List.getElem?_eq_getElem (by rw [z0S,hN];exact hi)]
        rfl
      have e2:l[i]?=some (l.getD i 0):=by
        rw [List.getD_eq_getElem?_getD,List.getElem?_eq_getElem (by omega)]
        rfl
      rw [e1,e2]
      congr 1
      by_cases him:i=m
      · subst him
        rw [← hN,zaJ,hN,htop,ht]
      · rw [zc1 (by omega),hdig i (by omega)]
        have:=hlow' i (by omega)
        have:=hr i
        unfold DIG
        omega
    · rw [List.getElem?_eq_none (by rw [z0S,hN];omega),List.getElem?_eq_none (by rw [List.length_take];omega)]
end Go.Proofs.YthdpkaiieomdoaaGreatDoor

namespace Go.Proofs.YthdpkaiieomdoaaGreatDoor
open Go.RowKit
set_option maxRecDepth 100000
theorem Bytes.rest {w:World} {b off n:Nat} {l:List Int} (h:Bytes w (some ⟨b,off,none⟩) n l) (k:Nat) (hk:k≤n):Bytes w (some ⟨b,off+k,none⟩) (n - k) (l.drop k):=by
  refine ⟨by rw [List.length_drop,h.1],fun hn=>?_,fun x hx=>h.2.2 x (List.mem_of_mem_drop hx)⟩
  obtain ⟨b',o',e,hl,hc⟩:=h.2.1 (by omega)
  simp only [Option.some.injEq,Addr.mk.injEq] at e
  obtain ⟨rfl,rfl,_⟩:=e
  refine ⟨b,off+k,rfl,hl,fun i hi=>?_⟩
  rw [show off+k+i=off+(k+i) by omega,hc (k+i) (by omega)]
  congr 2
  rw [List.getD_eq_getElem?_getD,List.getD_eq_getElem?_getD,List.getElem?_drop]
def REST (b off c k:Nat):Option Addr:=if c=k then some ⟨b,off,none⟩ else some ⟨b,off+k,none⟩
theorem Bytes.behind {w:World} {b off n c:Nat} {l:List Int} (h:Bytes w (some ⟨b,off,none⟩) n l) (k:Nat) (hk:k≤n) (hc:n≤c):Bytes w (REST b off c k) (n - k) (l.drop k):=by
  unfold REST
  split
  · have h0:n - k=0:=by omega
    rw [h0]
    refine ⟨?_,fun h=>by omega,fun x hx=>h.2.2 x (List.mem_of_mem_drop hx)⟩
    rw [List.length_drop,h.1,h0]
  · exact h.rest k hk
end Go.Proofs.YthdpkaiieomdoaaGreatDoor

namespace Go.Proofs.YthdpkaiieomdoaaGreatDoor
open Go.RowKit
set_option maxRecDepth 100000
theorem zaK:(Tryz.prog.info? 23).map (fun i=>(i.size,i.bytes,i.zero.isSome))=some (32,32,true):=by kernel_rfl
theorem z8W (N:Nat) (hN:N≤1000) (w:World):∃ Z:List Value,Z.length=32*N∧(Instr.makeSlice 25 (.int .i64 (N:Int)) (.int .i64 (N:Int))).run Tryz.prog w=.ok (.slice (some ⟨w.heap.size,0,none⟩) N N) (w.alloc (.cells Z.toArray 23)):=by
  obtain ⟨i,hi,h⟩:=Option.map_eq_some_iff.1 zaK
  simp only [Prod.mk.injEq] at h
  obtain ⟨h1,h2,h3⟩:=h
  obtain ⟨z,hz⟩:=Option.isSome_iff_exists.1 h3
  have h:=run_make (P:=Tryz.prog) w 25 23 i z Tryz.underlying25 hi hz .i64 .i64 N N (by omega) (by omega) (by rw [h2];omega) (by omega)
  refine ⟨(madeCells z.cells (N*i.size)).toList,?_,?_⟩
  · rw [Array.length_toList,size_madeCells,h1]
    omega
  · simpa using h
def z1b (l:List Int) (Z:List Value) (i:Nat):List Value:=z00 (l.take (32*i)) ++ Z.drop (32*i)
theorem zaL (l:List Int) (Z:List Value):z1b l Z 0=Z:=by simp [z1b,z00]
theorem zc2 {l:List Int} {Z:List Value} {N:Nat} (hl:l.length=32*N) (hZ:Z.length=32*N):z1b l Z N=z00 l:=by
  unfold z1b
  rw [List.take_of_length_le (by omega),List.drop_of_length_le (by omega),List.append_nil]
theorem z81 {l:List Int} {Z:List Value} {N i:Nat} (hl:l.length=32*N) (hZ:Z.length=32*N) (hi:i≤N):(z1b l Z i).length=32*N:=by
  unfold z1b
  rw [List.length_append,List.length_drop,z00,List.length_map,List.length_take]
  omega
theorem zaM {l:List Int} (Z:List Value) {N i:Nat} (hl:l.length=32*N) (hi:i<N):splice (z1b l Z i) (i*32) (z00 (HSH l i))=z1b l Z (i+1):=by
  have h1:(z00 (l.take (32*i))).length=i*32:=by
    rw [z00,List.length_map,List.length_take]
    omega
  have h2:(z00 (HSH l i)).length=32:=by
    rw [z00,List.length_map]
    exact z0y hl hi
  unfold splice z1b
  rw [List.take_append_of_le_length (by omega),List.take_of_length_le (by omega),z2T,z0m,h2,List.append_assoc]
  congr 2
  rw [List.drop_append,List.drop_of_length_le (by omega),List.nil_append,h1,List.drop_drop]
  congr 1
  omega
end Go.Proofs.YthdpkaiieomdoaaGreatDoor

namespace Go.Proofs.YthdpkaiieomdoaaGreatDoor
open Go.RowKit
set_option maxRecDepth 100000
end Go.Proofs.YthdpkaiieomdoaaGreatDoor

namespace Go.Proofs.YthdpkaiieomdoaaGreatDoor
open Go.RowKit
def LNG (t:List Int):Int × Int × Int:=LG t t.length 10 0 0
theorem z34 {t:List Int} (hr:∀ x∈t,0≤x∧x≤255) (h:(LNG t).2.2=0):∃ Z m:Nat,Z<2 ^ 64∧1≤m∧m≤t.length∧LNG t=((Z:Int),(m:Int),0)∧z0o Z=t.take m:=by
  have hr':∀ i,0≤t.getD i 0∧t.getD i 0≤255:=fun i=>by
    by_cases hi:i<t.length
    · rw [List.getD_eq_getElem?_getD,List.getElem?_eq_getElem hi]
      exact hr _ (List.getElem_mem hi)
    · rw [List.getD_eq_getElem?_getD,List.getElem?_eq_none (by omega)]
      simp
  obtain ⟨Z,m,h1,h2,h3,h4,h5,h6⟩:=zey (l:=t) rfl hr' h
  exact ⟨Z,m+1,h1,by omega,by omega,by unfold LNG;rw [h4];simp,h6⟩
end Go.Proofs.YthdpkaiieomdoaaGreatDoor

namespace Go.Proofs.YthdpkaiieomdoaaGreatDoor
open Go.RowKit
abbrev DANS:=Int × Nat × Nat × Nat × List Int
def DERR (E:Int):DANS:=(E,0,0,0,[])
def DC3 (PF:Nat→Nat→Int × List Nat) (X Y:Nat) (t:List Int):DANS:=
  if (PF X Y).1≠0 then DERR (PF X Y).1 else if t.length<32*(PF X Y).2.length then DERR 11 else if 32*(PF X Y).2.length<t.length then DERR 13 else (0,X,Y,(PF X Y).2.length,t)
def DC2 (PF:Nat→Nat→Int × List Nat) (X:Nat) (t:List Int):DANS:=
  if (LNG t).2.2≠0 then DERR (LNG t).2.2 else DC3 PF X (LNG t).1.toNat (t.drop (LNG t).2.1.toNat)
def DC1 (chk:Nat→Bool) (PF:Nat→Nat→Int × List Nat) (t:List Int):DANS:=
  if (LNG t).2.2≠0 then DERR (LNG t).2.2 else if chk (LNG t).1.toNat=true then DERR 30 else DC2 PF (LNG t).1.toNat (t.drop (LNG t).2.1.toNat)
def DC0 (K:Int) (chk:Nat→Bool) (PF:Nat→Nat→Int × List Nat) (l:List Int):DANS:=
  if l.length=0 then DERR 11 else if l.getD 0 0≠K then DERR 14 else DC1 chk PF (l.drop 1)
end Go.Proofs.YthdpkaiieomdoaaGreatDoor

namespace Go.Proofs.YthdpkaiieomdoaaGreatDoor
open Go.RowKit
end Go.Proofs.YthdpkaiieomdoaaGreatDoor

namespace Go.Proofs.YthdpkaiieomdoaaGreatDoor
open Go.RowKit
set_option maxHeartbeats 1000000 in
theorem z3g (X:Nat) (hX:X<2 ^ 64) (w:World):Calls Tryz.prog 74 #[.int .u64 (X:Int)] w fun e w'=>
    ∃ g cap,e=.returned (.slice (some ⟨g,0,none⟩) (NTOP X+1) cap)∧w'.ownsRow w.heap.size 5 1 (.slice (some ⟨g,0,none⟩) (NTOP X+1) cap) (NTOP X+1) (z00 (z0o X))∧g<w'.heap.size∧Below w.heap.size w w':=by
  have HX:Aside (X<2 ^ 64):=hX
  clear hX
  go_enter Tryz.func74,Tryz.ntmps74
  go_wp2
  go_loopg [0,3] 10 (fun g s0 s3 wx=>∃ (j x:Nat),j+g=10∧Aside (x=X / 128 ^ j∧(∀ i,i<j→128≤X / 128 ^ i)∧wx.ownsRow w.heap.size 5 1 s3 j (z00 (z0K X j))∧Below w.heap.size w wx)∧s0=.int .u64 (x:Int))
  case atStart=>exact ⟨0,X,by omega,⟨by simp,fun i hi=>by omega,World.ownsRow_nil _ _ _ _,Below.refl _ _⟩,rfl⟩
  case round=>
    obtain ⟨j,x,hjg,A,rfl⟩:=hrel
    have hxl:(x:Int)≤18446744073709551615:=by
      have:=Nat.div_le_self X (128 ^ j)
      have h1:=A.out.1
      have h2:=HX.out
      omega
    have HXL:Aside ((x:Int)≤18446744073709551615):=hxl
    clear hxl
    by_cases hx:128≤(x:Int)
    · go_wp2_with (at_builtin;refine z0D _ rfl (.tmp 6) (.tmp 11) rfl w.heap.size u3 j (z0K X j) rfl (A.out.2.2.1.alloc _) wr.heap.size 0 1 1 [(x:Int) % 128+128] rfl (z1U wr _ (by omega) (by omega)) (by omega) (by omega) (by have:=A.out.2.2.2.size;simp;omega) ?_;intro g cap w1 hown hgrow hg)
      have R:(x / 128=X / 128 ^ (j+1))∧(∀ i,i<j+1→128≤X / 128 ^ i)∧w1.ownsRow w.heap.size 5 1 (.slice (some ⟨g,0,none⟩) (j+1) cap) (j+1) (z00 (z0K X (j+1)))∧Below w.heap.size w w1:=by
        obtain ⟨hxe,hall,hown0,hb⟩:=A.out
        refine ⟨by rw [hxe,Nat.div_div_eq_div_mul,← Nat.pow_succ],fun i hi=>?_,?_,?_⟩
        · by_cases e:i=j
          · rw [e,← hxe];omega
          · exact hall i (by omega)
        · rw [z4O,show ((X / 128 ^ j % 128+128:Nat):Int)=(x:Int) % 128+128 by rw [← hxe];omega]
          exact hown
        · exact (hb.alloc hb.size _).grown hgrow (by have:=hb.size;simp;omega) (fun k e=>(hown0.lt k e).1)
      have HR:Aside ((x / 128=X / 128 ^ (j+1))∧(∀ i,i<j+1→128≤X / 128 ^ i)∧w1.ownsRow w.heap.size 5 1 (.slice (some ⟨g,0,none⟩) (j+1) cap) (j+1) (z00 (z0K X (j+1)))∧Below w.heap.size w w1):=R
      have hj9:j<9:=by
        obtain ⟨hxe,hall,_,_⟩:=A.out
        rcases Nat.lt_or_ge j 9 with h | h
        · exact h
        · have h1:=z7r X h
          have h2:X / 128 ^ 9<2:=Nat.div_lt_of_lt_mul (Nat.lt_of_lt_of_le HX.out (by decide))
          omega
      clear hown hgrow hg R A
      go_wp2
      go_roundg (gk - 1)
      case measure=>omega
      case rel=>exact ⟨j+1,x / 128,by omega,HR,by have:=HXL.out;rw [show IntKind.u64.wrap ((x:Int) / 128)=((x / 128:Nat):Int) by rw [z09];omega]⟩
    · go_wp2_with (at_builtin;refine z0D _ rfl (.tmp 15) (.tmp 18) rfl w.heap.size u3 j (z0K X j) rfl (A.out.2.2.1.alloc _) wr.heap.size 0 1 1 [(x:Int)] rfl (z1U wr _ (by omega) (by omega)) (by omega) (by omega) (by have:=A.out.2.2.2.size;simp;omega) ?_;intro g cap w1 hown hgrow hg)
      obtain ⟨hxe,hall,hown0,hb⟩:=A.out
      have hN:NTOP X=j:=z6a HX.out hall (by rw [← hxe];omega)
      have R:w1.ownsRow w.heap.size 5 1 (.slice (some ⟨g,0,none⟩) (NTOP X+1) cap) (NTOP X+1) (z00 (z0o X))∧g<w1.heap.size∧Below w.heap.size w w1:=by
        refine ⟨?_,hg,(hb.alloc hb.size _).grown hgrow (by have:=hb.size;simp;omega) (fun k e=>(hown0.lt k e).1)⟩
        unfold z0o
        rw [hN,← hxe]
        exact hown
      have HR:Aside (w1.ownsRow w.heap.size 5 1 (.slice (some ⟨g,0,none⟩) (NTOP X+1) cap) (NTOP X+1) (z00 (z0o X))∧g<w1.heap.size∧Below w.heap.size w w1):=R
      have HN:Aside (NTOP X=j):=hN
      clear hown hgrow hg R A hxe hall hown0 hb hN
      go_wp2
      go_ret
      obtain ⟨h1,h2,h3⟩:=HR.out
      refine ⟨g,cap,?_,h1,h2,h3⟩
      rw [HN.out]
      rfl
end Go.Proofs.YthdpkaiieomdoaaGreatDoor
