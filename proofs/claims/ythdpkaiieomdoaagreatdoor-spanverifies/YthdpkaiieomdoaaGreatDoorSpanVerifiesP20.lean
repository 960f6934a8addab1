/- Texts of SpanVerifies, one behind the other: NumRefLong, ProofRefDecode, ProofRefEncode, ManyRefEncode, ManyUpRegions, ManyUp, ManyUpNode, ManyClimb, ManyFaceC, ManyClimbCall, ManyRefClimb, ManyRefBag. -/
import Derived.Test.YthdpkaiieomdoaaGreatDoorSpanVerifiesP18
import Derived.Test.YthdpkaiieomdoaaGreatDoorSpanVerifiesP19
namespace Go.Proofs.YthdpkaiieomdoaaGreatDoor
open Go.RowKit
theorem z73 (a:Option Addr) (c:Nat) (w:World):Calls Tryz.prog 66 #[.slice a 0 c] w fun e w'=>e=.returned (.tuple #[.int .u64 0,.int .i64 0,.int .i64 11])∧w=w':=by
  go_enter Tryz.func66,Tryz.ntmps66
  go_wp2
  refine wp_loop_rounds 1 ?_
  rw [rounds_succ]
  go_wp2
  go_ret3
  exact ⟨rfl,rfl⟩
def Tops (d:Nat→Nat) (j:Nat) (x:Int) (V:Nat):Prop:=∃ y:Nat,x=(y:Int)∧VAL d j+y*128 ^ j=V
theorem Tops.down {d:Nat→Nat} {j V:Nat} {x v:Int} (A:Tops d (j+1) x V) (hV:V<2 ^ 64) (hv:(v % 128).toNat=d j):Tops d j (IntKind.u64.wrap (IntKind.u64.wrap (128*x)+v % 128)) V:=by
  obtain ⟨y,rfl,hy⟩:=A
  have e:VAL d j+(128*y+d j)*128 ^ j=V:=by
    rw [← hy,VAL,Nat.add_mul,Nat.pow_succ,Nat.mul_comm 128 y,Nat.mul_assoc,Nat.mul_comm 128 (128 ^ j)]
    omega
  have hl:128*y+d j≤V:=by
    have h1:(128*y+d j)*1≤(128*y+d j)*128 ^ j:=Nat.mul_le_mul_left _ (Nat.pow_pos (by decide))
    omega
  refine ⟨128*y+d j,?_,e⟩
  rw [z09,z09,← hv]
  omega
theorem zc3 {l:List Int} {n:Nat} (hn:10≤n) (h:∀ i,i<10→128≤l.getD i 0):LG l n 10 0 0=(0,0,10):=by
  have:=z4o 10 0 h (fun i hi=>by omega) (n:=n)
  simpa [LG] using this
theorem zc4 {l:List Int} {n:Nat} (hn:n<10) (h:∀ i,i<n→128≤l.getD i 0):LG l n 10 0 0=(0,0,11):=by
  have:=z4o n (9 - n+1) h (fun i hi=>by omega) (n:=n)
  rw [show 9 - n+1+n=10 by omega,z7X rfl] at this
  exact this
theorem zez {l:List Int} {n m:Nat} (hm:m≤9) (hmn:m<n) (h:∀ i,i<m→128≤l.getD i 0) (h1:¬ 128≤l.getD m 0):
    LG l n 10 0 0=if m=9∧1<l.getD m 0 then (0,0,10) else if l.getD m 0=0∧0<m then (0,0,12) else ((VAL (DIG l) m:Nat)+l.getD m 0*128 ^ m,(m:Int)+1,0):=by
  rw [show 10=9 - m+1+m by omega,z4o m (9 - m+1) h (fun i hi=>by omega),z5Q (by omega) h1]
theorem z82 {l:List Int} {k:Nat} {v r1:Int} (hr:∀ i,0≤l.getD i 0∧l.getD i 0≤255) (hv:l.getD k 0=v) (hk:k≤9) (h1:v<128) (h9:k=9→v≤1) (he:r1=(VAL (DIG l) k:Nat)+v*128 ^ k):
    Tops (DIG l) (k+1) 0 (VAL (DIG l) (k+1))∧VAL (DIG l) (k+1)<2 ^ 64∧r1=((VAL (DIG l) (k+1):Nat):Int):=by
  have hd:((DIG l k:Nat):Int)=v:=by
    have:=hr k
    unfold DIG
    rw [hv] at this ⊢
    omega
  have hvl:=z4n (z7Z l) k
  refine ⟨⟨0,rfl,by simp⟩,?_,?_⟩
  · rw [VAL]
    by_cases h:k=9
    · subst h
      have:=h9 rfl
      have hd1:DIG l 9≤1:=by omega
      have h3:DIG l 9*128 ^ 9≤1*128 ^ 9:=Nat.mul_le_mul_right _ hd1
      omega
    · have h8:=Nat.pow_le_pow_right (n:=128) (by decide) (show k≤8 by omega)
      have h5:DIG l k*128 ^ k≤127*128 ^ 8:=Nat.mul_le_mul (by have:=z7Z l k;omega) h8
      omega
  · rw [he,VAL,Int.natCast_add,Int.natCast_mul,Int.natCast_pow,hd]
    rfl
set_option maxHeartbeats 4000000 in
theorem z8X (b off n c:Nat) (l:List Int) (r1 r2 r3:Int) (hR:Aside (LG l n 10 0 0=(r1,r2,r3))) (w:World) (hB:Bytes w (some ⟨b,off,none⟩) n l) (h0:0<n) (hmax:n≤140737488355328):
    Calls Tryz.prog 66 #[.slice (some ⟨b,off,none⟩) n c] w fun e w'=>e=.returned (.tuple #[.int .u64 r1,.int .i64 r2,.int .i64 r3])∧w=w':=by
  obtain ⟨b',off',e,_,hc0⟩:=hB.2.1 h0
  simp only [Option.some.injEq,Addr.mk.injEq] at e
  obtain ⟨rfl,rfl,_⟩:=e
  have HC:Aside ((∀ i,i<n→w.cell? ⟨b,off+i,none⟩=some (.int .u8 (l.getD i 0)))∧∀ i,0≤l.getD i 0∧l.getD i 0≤255):=⟨hc0,hB.get⟩
  clear hB hc0
  go_enter Tryz.func66,Tryz.ntmps66
  go_wp2
  go_loop [5] (fun s5=>∃ k:Nat,k≤n∧k≤10∧Aside (∀ i,i<k→128≤l.getD i 0)∧s5=.int .i64 k) (fun i=>10 - (intOf i).toNat)
  case atStart=>exact ⟨0,by omega,by omega,fun i hi=>by omega,rfl⟩
  case round=>
    obtain ⟨k,hkn,hk10,A,rfl⟩:=hrel
    by_cases hlt:(k:Int)<(n:Int)
    · by_cases h10:(k:Int)<10
      · have hc := HC.out.1 k (by omega)
        have hcb:=HC.out.2 k
        generalize hv:l.getD k 0=v at hc hcb
        have Hv:Aside (l.getD k 0=v):=hv
        clear hv
        have hv0:=hcb.1
        have hv1:=hcb.2
        clear hcb
        by_cases h128:128≤v
        · go_wp2
          go_round
          case rel=>
            refine ⟨k+1,by omega,by omega,fun i hi=>?_,by go_num⟩
            by_cases e:i=k
            · rw [e,Hv.out];exact h128
            · exact A.out i (by omega)
          case measure=>first | (simp [intOf];done) | (simp [intOf];omega)
        · have hst := zez (l:=l) (n:=n) (m:=k) (by omega) (by omega) A.out (by rw [Hv.out];exact h128)
          rw [Hv.out,hR.out] at hst
          have hk10':((k:Int) == 10)=false:=by simp;omega
          have hkn':((k:Int) == (n:Int))=false:=by simp;omega
          by_cases h9:k=9
          · subst h9
            by_cases hr:1<v
            · rw [if_pos ⟨rfl,hr⟩] at hst
              simp only [Prod.mk.injEq] at hst
              obtain ⟨rfl,rfl,rfl⟩:=hst
              clear A
              go_wp2
              go_ret3
              exact ⟨rfl,rfl⟩
            · rw [if_neg (fun h=>hr h.2)] at hst
              by_cases hz:v=0
              · subst hz
                rw [if_pos ⟨rfl,by decide⟩] at hst
                simp only [Prod.mk.injEq] at hst
                obtain ⟨rfl,rfl,rfl⟩:=hst
                clear A
                go_wp2
                go_ret3
                exact ⟨rfl,rfl⟩
              · rw [if_neg (fun h=>hz h.1)] at hst
                simp only [Prod.mk.injEq] at hst
                have hvb:(v == 0)=false:=by simp [hz]
                clear hz
                have HV:Aside (Tops (DIG l) (9+1) 0 (VAL (DIG l) (9+1))∧VAL (DIG l) (9+1)<2 ^ 64∧r1=((VAL (DIG l) (9+1):Nat):Int)):=z82 (HC.out.2) Hv.out (by omega) (by omega) (by omega) hst.1
                obtain ⟨_,rfl,rfl⟩:=hst
                clear A
                go_wp2
                go_loop [6,7] (fun s6 s7=>∃ (j:Nat) (x:Int),j≤9+1∧Aside (Tops (DIG l) j x (VAL (DIG l) (9+1)))∧s6=.int .u64 x∧s7=.int .i64 ((j:Int) - 1)) (fun _ s=>(intOf s+1).toNat)
                case atStart=>exact ⟨9+1,0,Nat.le_refl _,HV.out.1,rfl,by first | rfl | go_num⟩
                case round=>
                  obtain ⟨j,x,hj,B,rfl,rfl⟩:=hrel
                  cases j with
                  | zero=>
                    obtain rfl:x=r1:=by
                      obtain ⟨y,rfl,hy⟩:=B.out
                      rw [HV.out.2.2,← hy]
                      simp [VAL]
                    clear B HV
                    go_wp2
                    go_ret3
                    exact ⟨rfl,rfl⟩
                  | succ i=>
                    have hi1:((i+1:Nat):Int) - 1=(i:Int):=by omega
                    rw [hi1]
                    have hi0:(0:Int)≤(i:Int):=by omega
                    have hin:(i:Int)<(n:Int):=by omega
                    have hci:=HC.out.1 i (by omega)
                    have hcbi:=HC.out.2 i
                    generalize hvi:l.getD i 0=u at hci hcbi
                    have Hu:Aside (l.getD i 0=u):=hvi
                    clear hvi hi1
                    have hu0:=hcbi.1
                    have hu1:=hcbi.2
                    clear hcbi
                    go_wp2
                    go_round
                    case rel=>exact ⟨i,_,by omega,B.out.down HV.out.2.1 (by unfold DIG;rw [Hu.out]),rfl,by go_num⟩
                    case measure=>first | (simp [intOf];done) | (simp [intOf];omega)
          · rw [if_neg (fun h=>h9 h.1)] at hst
            have h9':((k:Int) == 9)=false:=by simp;omega
            by_cases hk0:k=0
            · subst hk0
              rw [if_neg (fun h=>by omega)] at hst
              rw [Nat.add_zero] at hc
              simp only [Prod.mk.injEq] at hst
              have HV:Aside (Tops (DIG l) (0+1) 0 (VAL (DIG l) (0+1))∧VAL (DIG l) (0+1)<2 ^ 64∧r1=((VAL (DIG l) (0+1):Nat):Int)):=z82 (HC.out.2) Hv.out (by omega) (by omega) (by omega) hst.1
              obtain ⟨_,rfl,rfl⟩:=hst
              clear A
              go_wp2
              go_loop [6,7] (fun s6 s7=>∃ (j:Nat) (x:Int),j≤0+1∧Aside (Tops (DIG l) j x (VAL (DIG l) (0+1)))∧s6=.int .u64 x∧s7=.int .i64 ((j:Int) - 1)) (fun _ s=>(intOf s+1).toNat)
              case atStart=>exact ⟨0+1,0,Nat.le_refl _,HV.out.1,rfl,by first | rfl | go_num⟩
              case round=>
                obtain ⟨j,x,hj,B,rfl,rfl⟩:=hrel
                cases j with
                | zero=>
                  obtain rfl:x=r1:=by
                    obtain ⟨y,rfl,hy⟩:=B.out
                    rw [HV.out.2.2,← hy]
                    simp [VAL]
                  clear B HV
                  go_wp2
                  go_ret3
                  exact ⟨rfl,rfl⟩
                | succ i=>
                  have hi1:((i+1:Nat):Int) - 1=(i:Int):=by omega
                  rw [hi1]
                  have hi0:(0:Int)≤(i:Int):=by omega
                  have hin:(i:Int)<(n:Int):=by omega
                  have hci:=HC.out.1 i (by omega)
                  have hcbi:=HC.out.2 i
                  generalize hvi:l.getD i 0=u at hci hcbi
                  have Hu:Aside (l.getD i 0=u):=hvi
                  clear hvi hi1
                  have hu0:=hcbi.1
                  have hu1:=hcbi.2
                  clear hcbi
                  go_wp2
                  go_round
                  case rel=>exact ⟨i,_,by omega,B.out.down HV.out.2.1 (by unfold DIG;rw [Hu.out]),rfl,by go_num⟩
                  case measure=>first | (simp [intOf];done) | (simp [intOf];omega)
            · have hkp:0<(k:Int):=by omega
              by_cases hz:v=0
              · subst hz
                rw [if_pos ⟨rfl,by omega⟩] at hst
                simp only [Prod.mk.injEq] at hst
                obtain ⟨rfl,rfl,rfl⟩:=hst
                clear A
                go_wp2
                go_ret3
                exact ⟨rfl,rfl⟩
              · rw [if_neg (fun h=>hz h.1)] at hst
                simp only [Prod.mk.injEq] at hst
                have hvb:(v == 0)=false:=by simp [hz]
                clear hz
                have HV:Aside (Tops (DIG l) (k+1) 0 (VAL (DIG l) (k+1))∧VAL (DIG l) (k+1)<2 ^ 64∧r1=((VAL (DIG l) (k+1):Nat):Int)):=z82 (HC.out.2) Hv.out (by omega) (by omega) (by omega) hst.1
                obtain ⟨_,rfl,rfl⟩:=hst
                clear A
                go_wp2
                go_loop [6,7] (fun s6 s7=>∃ (j:Nat) (x:Int),j≤k+1∧Aside (Tops (DIG l) j x (VAL (DIG l) (k+1)))∧s6=.int .u64 x∧s7=.int .i64 ((j:Int) - 1)) (fun _ s=>(intOf s+1).toNat)
                case atStart=>exact ⟨k+1,0,Nat.le_refl _,HV.out.1,rfl,by first | rfl | go_num⟩
                case round=>
                  obtain ⟨j,x,hj,B,rfl,rfl⟩:=hrel
                  cases j with
                  | zero=>
                    obtain rfl:x=r1:=by
                      obtain ⟨y,rfl,hy⟩:=B.out
                      rw [HV.out.2.2,← hy]
                      simp [VAL]
                    clear B HV
                    go_wp2
                    go_ret3
                    exact ⟨rfl,rfl⟩
                  | succ i=>
                    have hi1:((i+1:Nat):Int) - 1=(i:Int):=by omega
                    rw [hi1]
                    have hi0:(0:Int)≤(i:Int):=by omega
                    have hin:(i:Int)<(n:Int):=by omega
                    have hci:=HC.out.1 i (by omega)
                    have hcbi:=HC.out.2 i
                    generalize hvi:l.getD i 0=u at hci hcbi
                    have Hu:Aside (l.getD i 0=u):=hvi
                    clear hvi hi1
                    have hu0:=hcbi.1
                    have hu1:=hcbi.2
                    clear hcbi
                    go_wp2
                    go_round
                    case rel=>exact ⟨i,_,by omega,B.out.down HV.out.2.1 (by unfold DIG;rw [Hu.out]),rfl,by go_num⟩
                    case measure=>first | (simp [intOf];done) | (simp [intOf];omega)
      · obtain rfl:k=10:=by omega
        have hall:=zc3 (n:=n) (by omega) A.out
        rw [hR.out] at hall
        simp only [Prod.mk.injEq] at hall
        obtain ⟨rfl,rfl,rfl⟩:=hall
        clear A
        go_wp2
        go_ret3
        exact ⟨rfl,rfl⟩
    · obtain rfl:k=n:=by omega
      by_cases h10:k=10
      · subst h10
        have hall:=zc3 (n:=10) (by omega) A.out
        rw [hR.out] at hall
        simp only [Prod.mk.injEq] at hall
        obtain ⟨rfl,rfl,rfl⟩:=hall
        clear A
        go_wp2
        go_ret3
        exact ⟨rfl,rfl⟩
      · have hall:=zc4 (l:=l) (n:=k) (by omega) A.out
        rw [hR.out] at hall
        simp only [Prod.mk.injEq] at hall
        obtain ⟨rfl,rfl,rfl⟩:=hall
        have hk10':((k:Int) == 10)=false:=by simp;omega
        clear A
        go_wp2
        go_ret3
        exact ⟨rfl,rfl⟩
theorem zaN (a:Option Addr) (n c:Nat) (l:List Int) (w:World) (hB:Bytes w a n l) (hmax:n≤140737488355328):
    Calls Tryz.prog 66 #[.slice a n c] w fun e w'=>e=.returned (.tuple #[.int .u64 (LG l n 10 0 0).1,.int .i64 (LG l n 10 0 0).2.1,.int .i64 (LG l n 10 0 0).2.2])∧w=w':=by
  rcases Nat.eq_zero_or_pos n with h | h
  · subst h
    exact z73 a c w
  · obtain ⟨b,off,rfl,_,_⟩:=hB.2.1 h
    exact z8X b off n c l _ _ _ rfl w hB h hmax
end Go.Proofs.YthdpkaiieomdoaaGreatDoor

namespace Go.Proofs.YthdpkaiieomdoaaGreatDoor
open Go.RowKit
set_option maxRecDepth 100000
def z1k (h:List Int) (k:Nat):List Int:=h.take k ++ List.replicate (32 - k) 0
theorem zaO (h:List Int):z1k h 0=ZND:=rfl
theorem zc5 {h:List Int} (hl:h.length=32):z1k h 32=h:=by
  unfold z1k
  rw [List.take_of_length_le (by omega)]
  simp
theorem z1c {h:List Int} (hl:h.length=32) {k:Nat} (hk:k≤32):(z1k h k).length=32:=by
  unfold z1k
  simp
  omega
theorem zaP {h:List Int} (hl:h.length=32) {k:Nat} (hk:k<32):(z00 (z1k h k)).toArray.setIfInBounds k (.int .u8 (h.getD k 0))=(z00 (z1k h (k+1))).toArray:=by
  apply Array.ext_getElem?
  intro j
  rw [Array.getElem?_setIfInBounds]
  by_cases hj:j<32
  · rw [List.getElem?_toArray,List.getElem?_toArray,z0k _ j (by rw [z1c hl (by omega)];exact hj),z0k _ j (by rw [z1c hl (by omega)];exact hj)]
    have hs:(z00 (z1k h k)).toArray.size=32:=by simp [z00,z1c hl (show k≤32 by omega)]
    by_cases e:k=j
    · subst e
      rw [if_pos rfl,if_pos (by omega)]
      unfold z1k
      rw [List.getD_eq_getElem?_getD (l:=h.take (k+1) ++ _),List.getElem?_append_left (by simp;omega),List.getElem?_take,if_pos (by omega),List.getD_eq_getElem?_getD]
    · rw [if_neg e]
      unfold z1k
      congr 2
      rw [List.getD_eq_getElem?_getD,List.getD_eq_getElem?_getD]
      by_cases e2:j<k
      · rw [List.getElem?_append_left (by simp;omega),List.getElem?_append_left (by simp;omega),List.getElem?_take,if_pos e2,List.getElem?_take,if_pos (by omega)]
      · rw [List.getElem?_append_right (by simp;omega),List.getElem?_append_right (by simp;omega),List.getElem?_replicate,List.getElem?_replicate]
        simp only [List.length_take]
        rw [if_pos (by omega),if_pos (by omega)]
  · rw [if_neg (by omega),Array.getElem?_eq_none (by simp [z00,z1c hl (show k≤32 by omega)];omega),Array.getElem?_eq_none (by simp [z00,z1c hl (show k+1≤32 by omega)];omega)]
def TAKN (t:List Int) (N:Nat):Int × Nat × List Int:=if t.length<32*N then (11,0,[]) else if 32*N<t.length then (13,0,[]) else (0,N,t)
theorem z24 (w:World) (b:Nat):w.ownsRow b 23 32 (.slice none 0 0) 0 (z00 []):=World.ownsRow_nil _ _ _ _
set_option maxHeartbeats 2000000 in
theorem zeA (a:Option Addr) (m c N:Nat) (hm:m≤1000000) (hN:N≤1000) (t:List Int) (w:World) (hB:Bytes w a m t):
    Calls Tryz.prog 68 #[.slice a m c,.int .i64 (N:Int)] w fun e w'=>∃ v,e=.returned (.tuple #[v,.int .i64 (TAKN t N).1])∧w'.ownsRow w.heap.size 23 32 v (TAKN t N).2.1 (z00 (TAKN t N).2.2)∧Below w.heap.size w w':=by
  have hlm:t.length=m:=hB.1
  have e32:wrap64 (32*(N:Int))=32*(N:Int):=by unfold wrap64;omega
  have q1:IntKind.i64.wrap ((m:Int) / 32)=(m:Int) / 32:=by rw [IntKind.wrap_i64];omega
  have q2:(m:Int).tdiv 32=(m:Int) / 32:=Int.tdiv_eq_ediv_of_nonneg (by omega)
  unfold TAKN
  rw [hlm]
  by_cases h1:m<32*N
  · rw [if_pos h1]
    have k1:(m:Int) / 32<(N:Int):=by omega
    clear hB hm hN h1 hlm
    go_enter Tryz.func68,Tryz.ntmps68
    go_wp2
    go_ret2
    exact ⟨_,rfl,z24 _ _,Below.refl _ _⟩
  · rw [if_neg h1]
    have k1:¬ (m:Int) / 32<(N:Int):=by omega
    by_cases h2:32*N<m
    · rw [if_pos h2]
      have k2:32*(N:Int)<(m:Int):=by omega
      clear hB hm hN h1 h2 hlm
      go_enter Tryz.func68,Tryz.ntmps68
      go_wp2
      go_ret2
      exact ⟨_,rfl,z24 _ _,Below.refl _ _⟩
    · rw [if_neg h2]
      dsimp only
      have k2:¬ 32*(N:Int)<(m:Int):=by omega
      have HA:Aside (m=32*N∧t.length=32*N∧N≤1000∧Bytes w a m t):=⟨by omega,by omega,hN,hB⟩
      clear hB hm hN h1 h2 hlm
      go_enter Tryz.func68,Tryz.ntmps68
      go_wp2
      clear k1 k2 q1 q2 e32
      go_loopg [6,7] N (fun q s6 s7 wx=>∃ i:Nat,s7=.int .i64 (i:Int)∧Aside (i+q=N∧wx.ownsRow w.heap.size 23 32 s6 i (z00 (t.take (32*i)))∧Below w.heap.size w wx))
      case atStart=>exact ⟨0,rfl,by omega,z24 _ _,Below.refl _ _⟩
      case round=>
        obtain ⟨i,rfl,A⟩:=hrel
        cases gk with
        | zero=>
          obtain rfl:i=N:=by have:=A.out.1;omega
          have hlt:¬ (i:Int)<(i:Int):=by omega
          have R:Aside (wr.ownsRow w.heap.size 23 32 u6 i (z00 t)∧Below w.heap.size w wr):=by
            have:=A.out.2.1
            rw [List.take_of_length_le (by have:=HA.out;omega)] at this
            exact ⟨this,A.out.2.2⟩
          clear A HA
          go_wp2
          go_ret2
          exact ⟨_,rfl,R.out.1,R.out.2⟩
        | succ q=>
          have hlt:(i:Int)<(N:Int):=by have:=A.out.1;omega
          go_wp2
          generalize wr=wo at *
          have R0:Aside (i+1+q=N∧(wo.alloc (.cells ZARR 23)).ownsRow w.heap.size 23 32 u6 i (z00 (t.take (32*i)))∧Below w.heap.size w (wo.alloc (.cells ZARR 23))∧Has (wo.alloc (.cells ZARR 23)) wo.heap.size (z00 (z1k (HSH t i) 0)).toArray 23∧(HSH t i).length=32):=by
            obtain ⟨a1,a2,a3⟩:=A.out
            exact ⟨by omega,a2.alloc _,a3.alloc a3.size _,by rw [zaO,z0P];exact Has.new _ _ _,z0y HA.out.2.1 (by omega)⟩
          have BB:Aside (w.heap.size≤wo.heap.size∧∀ k,u6.ownBlock=some k→k≠wo.heap.size):=⟨A.out.2.2.size,fun k e=>by have:=(A.out.2.1.lt k e).2;omega⟩
          clear A
          obtain ⟨hb,hhb⟩:∃ hb,hb=wo.heap.size:=⟨_,rfl⟩
          rw [← hhb] at R0 BB ⊢
          clear hhb
          rw [show (#[.int .u8 0,.int .u8 0,.int .u8 0,.int .u8 0,.int .u8 0,.int .u8 0,.int .u8 0,.int .u8 0,.int .u8 0,.int .u8 0,.int .u8 0,.int .u8 0,.int .u8 0,.int .u8 0,.int .u8 0,.int .u8 0,.int .u8 0,.int .u8 0,.int .u8 0,.int .u8 0,.int .u8 0,.int .u8 0,.int .u8 0,.int .u8 0,.int .u8 0,.int .u8 0,.int .u8 0,.int .u8 0,.int .u8 0,.int .u8 0,.int .u8 0,.int .u8 0]:Array Value)=ZARR from rfl]
          generalize wo.alloc (.cells ZARR 23)=w1 at *
          go_loopg [9] 32 (fun p s9 wx=>∃ k:Nat,s9=.int .i64 (k:Int)∧Aside (k+p=32∧wx.ownsRow w.heap.size 23 32 u6 i (z00 (t.take (32*i)))∧Below w.heap.size w wx∧Has wx hb (z00 (z1k (HSH t i) k)).toArray 23))
          case atStart=>exact ⟨0,rfl,by omega,R0.out.2.1,R0.out.2.2.1,R0.out.2.2.2.1⟩
          case round=>
            obtain ⟨k,rfl,A⟩:=hrel
            cases gk with
            | zero=>
              obtain rfl:k=32:=by have:=A.out.1;omega
              have hlt2:¬ (((32:Nat):Int))<32:=by omega
              have R:Aside (i+1+q=N∧wr.ownsRow w.heap.size 23 32 u6 i (z00 (t.take (32*i)))∧Below w.heap.size w wr∧Has wr hb (z00 (HSH t i)).toArray 23∧t.take (32*(i+1))=t.take (32*i) ++ HSH t i∧N≤1000):=by
                obtain ⟨a1,a2,a3,a4⟩:=A.out
                rw [zc5 R0.out.2.2.2.2] at a4
                exact ⟨R0.out.1,a2,a3,a4,z2T t i,HA.out.2.2.1⟩
              have h32:=R0.out.2.2.2.2
              have E1:Aside (wrap64 ((i:Int)+1)=((i+1:Nat):Int)):=by have:=R.out;show wrap64 ((i:Int)+1)=((i+1:Nat):Int);unfold wrap64;omega
              clear A R0 HA
              generalize HSH t i=H at *
              go_wp2_with (first
                | (refine wpList_load_row rfl 23 (.tmp 8) rfl hb rfl 23 (z00 H).toArray (0,0) _ R.out.2.2.2.1 Tryz.underlying23 rfl (z03 h32) ?_)
                | (refine z17 _ rfl 25 23 (.tmp 39) rfl (z00 H).toArray rfl 32 _ _ Tryz.underlying25 z16 (by simp [z00,h32]) rfl (by decide) (by decide) ?_)
                | (at_builtin;refine z2a _ rfl (.tmp 38) (.tmp 40) rfl w.heap.size u6 i _ rfl (R.out.2.1.alloc _) _ 1 H h32 rfl (Has.new _ _ _) (by have:=R.out;omega) (by have:=R.out.2.2.1.size;simp;omega) ?_;intro g2 c2 w2 hown hgrow hat hg))
              have R2:Aside (i+1+q=N∧w2.ownsRow w.heap.size 23 32 (.slice (some ⟨g2,0,none⟩) (i+1) c2) (i+1) (z00 (t.take (32*(i+1))))∧Below w.heap.size w w2):=by
                obtain ⟨r1,r2,r3,r4,r5,r6⟩:=R.out
                refine ⟨r1,by rw [r5,z0m];exact hown,(r3.alloc r3.size _).grown hgrow (by have:=r3.size;simp;omega) (fun k e=>(r2.lt k e).1)⟩
              clear hown hgrow hat hg R h32
              have e1:=E1.out
              go_wp2
              go_roundg q
              case measure=>exact Nat.lt_succ_self _
              case rel=>exact ⟨i+1,by first | rfl | (rw [E1.out]),R2.out⟩
            | succ p=>
              obtain ⟨a1,a2,a3,a4⟩:=A.out
              have hk:k<32:=by omega
              have hlt2:(k:Int)<32:=by omega
              obtain ⟨h1,h2,h3,h4⟩:=HA.out
              have hiN:i<N:=by have:=R0.out.1;omega
              obtain ⟨b,o,rfl,hbl,hc⟩:=h4.2.1 (by omega)
              obtain ⟨J,hJ⟩:∃ J,32*i+k=J:=⟨_,rfl⟩
              have hx:wr.cell? ⟨b,o+J,none⟩=some (.int .u8 ((HSH t i).getD k 0)):=by
                rw [z5E hk,hJ]
                exact (a3.cell (p:=⟨b,o+J,none⟩) hbl).trans (hc J (by omega))
              have M1:Aside (wrap64 (32*(i:Int))=32*(i:Int)):=by show wrap64 (32*(i:Int))=32*(i:Int);unfold wrap64;omega
              have M2:Aside (wrap64 (32*(i:Int)+(k:Int))=(J:Int)):=by show wrap64 (32*(i:Int)+(k:Int))=(J:Int);unfold wrap64;omega
              have m3:(J:Int)<(m:Int):=by omega
              have y0:wr.cell? ⟨hb,k,none⟩=some (.int .u8 ((z1k (HSH t i) k).getD k 0)):=by
                rw [a4.cell,List.getElem?_toArray,z0k _ k (by rw [z1c R0.out.2.2.2.2 (by omega)];exact hk)]
              have y1:wr.frozen? ⟨hb,k,none⟩=false:=a4.frozen k
              have hst:=a4.set k (.int .u8 ((HSH t i).getD k 0))
              rw [zaP R0.out.2.2.2.2 hk] at hst
              have R:Aside (k+1+p=32∧(wr.setCell ⟨hb,k,none⟩ (.int .u8 ((HSH t i).getD k 0))).ownsRow w.heap.size 23 32 u6 i (z00 (t.take (32*i)))∧Below w.heap.size w (wr.setCell ⟨hb,k,none⟩ (.int .u8 ((HSH t i).getD k 0)))∧Has (wr.setCell ⟨hb,k,none⟩ (.int .u8 ((HSH t i).getD k 0))) hb (z00 (z1k (HSH t i) (k+1))).toArray 23):=
                ⟨by omega,z3x a2 fun j hj=>Below.heap_setCell _ _ _ j (BB.out.2 j hj),a3.setCell (p:=⟨hb,k,none⟩) BB.out.1 _,hst⟩
              have E1:Aside (wrap64 ((k:Int)+1)=((k+1:Nat):Int)):=by show wrap64 ((k:Int)+1)=((k+1:Nat):Int);unfold wrap64;omega
              clear a1 a2 a3 a4 hk h1 h2 h3 h4 hbl hc hJ hst A HA R0 BB
              generalize (HSH t i).getD k 0=v at *
              generalize (z1k (HSH t i) k).getD k 0=v0 at *
              have e1:=E1.out
              have m1:=M1.out
              have m2:=M2.out
              go_wp2
              go_roundg p
              case measure=>exact Nat.lt_succ_self _
              case rel=>exact ⟨k+1,by first | rfl | (rw [E1.out]),R.out⟩
end Go.Proofs.YthdpkaiieomdoaaGreatDoor

namespace Go.Proofs.YthdpkaiieomdoaaGreatDoor
open Go.RowKit
set_option maxRecDepth 100000
theorem zc6 {l:List Int} {J:Nat} (h:J<l.length):l.take (J+1)=l.take J ++ [l.getD J 0]:=by
  rw [List.take_add_one,List.getElem?_eq_getElem h,List.getD_eq_getElem?_getD,List.getElem?_eq_getElem h]
  rfl
set_option maxHeartbeats 2000000 in
theorem zfi (B:Nat) (v:Value) (np:Nat) (PRE:List Int) (hnp:np≤1000000) (a:Option Addr) (n c:Nat) (hn:n≤1000) (l:List Int) (w:World) (hB:B≤w.heap.size) (hv:w.ownsRow B 5 1 v np (z00 PRE)) (hF:Flat w a n l) (hFa:0<n→∀ b o,a=some ⟨b,o,none⟩→b<B):
    Calls Tryz.prog 75 #[v,.slice a n c] w fun e w'=>∃ v',e=.returned v'∧w'.ownsRow B 5 1 v' (np+32*n) (z00 (PRE ++ l))∧Below B w w':=by
  have HA:Aside (np≤1000000∧n≤1000∧l.length=32*n∧Flat w a n l∧(0<n→∀ b o,a=some ⟨b,o,none⟩→b<B)∧B≤w.heap.size):=⟨hnp,hn,hF.1,hF,hFa,hB⟩
  have V0:Aside (w.ownsRow B 5 1 v np (z00 PRE)):=hv
  clear hnp hn hF hFa hB hv
  go_enter Tryz.func75,Tryz.ntmps75
  go_wp2
  go_loopg [0,5] n (fun q s0 s5 wx=>∃ i:Nat,s5=.int .i64 (i:Int)∧Aside (i+q=n∧wx.ownsRow B 5 1 s0 (np+32*i) (z00 (PRE ++ l.take (32*i)))∧Below B w wx))
  case atStart=>exact ⟨0,rfl,by omega,by simpa using V0.out,Below.refl _ _⟩
  case round=>
    obtain ⟨i,rfl,A⟩:=hrel
    clear V0
    cases gk with
    | zero=>
      obtain rfl:i=n:=by have:=A.out.1;omega
      have hlt:¬ (i:Int)<(i:Int):=by omega
      have R:Aside (wr.ownsRow B 5 1 u0 (np+32*i) (z00 (PRE ++ l))∧Below B w wr):=by
        have:=A.out.2.1
        rw [List.take_of_length_le (by have:=HA.out;omega)] at this
        exact ⟨this,A.out.2.2⟩
      clear A HA
      go_wp2
      go_ret
      exact ⟨_,rfl,R.out⟩
    | succ q=>
      have hlt:(i:Int)<(n:Int):=by have:=A.out.1;omega
      have R0:Aside (i+1+q=n∧wr.ownsRow B 5 1 u0 (np+(32*i+0)) (z00 (PRE ++ l.take (32*i+0)))∧Below B w wr):=⟨by have:=A.out.1;omega,A.out.2.1,A.out.2.2⟩
      clear A
      go_wp2
      generalize wr=wo at *
      generalize u0=vo at *
      go_loopg [0,6] 32 (fun p s0 s6 wx=>∃ k:Nat,s6=.int .i64 (k:Int)∧Aside (k+p=32∧wx.ownsRow B 5 1 s0 (np+(32*i+k)) (z00 (PRE ++ l.take (32*i+k)))∧Below B w wx))
      case atStart=>exact ⟨0,rfl,by omega,R0.out.2.1,R0.out.2.2⟩
      case round=>
        obtain ⟨k,rfl,A⟩:=hrel
        cases gk with
        | zero=>
          obtain rfl:k=32:=by have:=A.out.1;omega
          have hlt2:¬ (((32:Nat):Int))<32:=by omega
          have R:Aside (i+1+q=n∧wr.ownsRow B 5 1 u0 (np+32*(i+1)) (z00 (PRE ++ l.take (32*(i+1))))∧Below B w wr):=⟨R0.out.1,by rw [show 32*(i+1)=32*i+32 by omega];exact A.out.2.1,A.out.2.2⟩
          have E1:Aside (wrap64 ((i:Int)+1)=((i+1:Nat):Int)):=by have:=HA.out;show wrap64 ((i:Int)+1)=((i+1:Nat):Int);unfold wrap64;omega
          clear A R0 HA
          have e1:=E1.out
          go_wp2
          go_roundg q
          case measure=>exact Nat.lt_succ_self _
          case rel=>exact ⟨i+1,by first | rfl | (rw [E1.out]),R.out⟩
        | succ p=>
          obtain ⟨a1,a2,a3⟩:=A.out
          obtain ⟨h1,h2,h3,h4,h5,h6⟩:=HA.out
          have hiN:i<n:=by have:=R0.out.1;omega
          have hk:k<32:=by omega
          have hlt2:(k:Int)<32:=by omega
          obtain ⟨b,o,rfl,hbl,hc⟩:=h4.2.1 (by omega)
          have hx:wr.cell? ⟨b,o+i*32+k,none⟩=some (.int .u8 (l.getD (32*i+k) 0)):=by
            rw [show o+i*32+k=o+(32*i+k) by omega]
            exact (a3.cell (p:=⟨b,o+(32*i+k),none⟩) (h5 (by omega) b o rfl)).trans (hc _ (by omega))
          have hrng:=h4.2.2 (l.getD (32*i+k) 0) (by rw [List.getD_eq_getElem?_getD,List.getElem?_eq_getElem (by omega)];exact List.getElem_mem _)
          have htk:=zc6 (l:=l) (J:=32*i+k) (by omega)
          have R:Aside (k+1+p=32∧np+(32*i+k)+1≤140737488355328∧wr.ownsRow B 5 1 u0 (np+(32*i+k)) (z00 (PRE ++ l.take (32*i+k)))∧Below B w wr∧B≤wr.heap.size∧(0≤l.getD (32*i+k) 0∧l.getD (32*i+k) 0≤255)∧PRE ++ l.take (32*i+(k+1))=PRE ++ l.take (32*i+k) ++ [l.getD (32*i+k) 0]):=⟨by omega,by omega,a2,a3,Nat.le_trans h6 a3.size,hrng,by rw [← Nat.add_assoc,htk,List.append_assoc]⟩
          have E1:Aside (wrap64 ((k:Int)+1)=((k+1:Nat):Int)):=by show wrap64 ((k:Int)+1)=((k+1:Nat):Int);unfold wrap64;omega
          clear a1 a2 a3 h1 h2 h3 h4 h5 h6 hiN hk hbl hc hrng htk A R0 HA
          generalize l.getD (32*i+k) 0=x at *
          go_wp2_with (at_builtin;refine z0D _ rfl (.tmp 17) (.tmp 24) rfl B u0 (np+(32*i+k)) _ rfl (R.out.2.2.1.alloc _) wr.heap.size 0 1 1 [x] rfl (z1U wr x R.out.2.2.2.2.2.1.1 R.out.2.2.2.2.2.1.2) (by decide) R.out.2.1 (by have:=R.out.2.2.2.2.1;simp;omega) ?_;intro g2 c2 w2 hown hgrow hg)
          have R2:Aside (k+1+p=32∧w2.ownsRow B 5 1 (.slice (some ⟨g2,0,none⟩) (np+(32*i+k)+1) c2) (np+(32*i+(k+1))) (z00 (PRE ++ l.take (32*i+(k+1))))∧Below B w w2):=by
            obtain ⟨r1,r2,r3,r4,r5,r6,r7⟩:=R.out
            refine ⟨r1,by rw [r7,show np+(32*i+(k+1))=np+(32*i+k)+1 by omega];exact hown,(r4.alloc r5 _).grown hgrow (by simp;omega) (fun k e=>(r3.lt k e).1)⟩
          clear hown hgrow hg R hx
          have e1:=E1.out
          go_wp2
          go_roundg p
          case measure=>exact Nat.lt_succ_self _
          case rel=>exact ⟨k+1,by first | rfl | (rw [E1.out]),R2.out⟩
end Go.Proofs.YthdpkaiieomdoaaGreatDoor

namespace Go.Proofs.YthdpkaiieomdoaaGreatDoor
open Go.RowKit
set_option maxRecDepth 100000
end Go.Proofs.YthdpkaiieomdoaaGreatDoor

namespace Go.Proofs.YthdpkaiieomdoaaGreatDoor
open Go.RowKit
set_option maxRecDepth 100000
end Go.Proofs.YthdpkaiieomdoaaGreatDoor

namespace Go.Proofs.YthdpkaiieomdoaaGreatDoor
open Go.RowKit
set_option maxRecDepth 100000
def LSH (w0:World) (bc:Nat) (v:Value) (n:Nat) (l:List Int):Prop:=∃ a c,v=.slice a n c∧n≤c∧Flat w0 a n l∧∀ x,a=some x→x.block≠bc
theorem LSH.rest {w0:World} {bc b o n c:Nat} {l:List Int} (hF:Flat w0 (some ⟨b,o,none⟩) n l) (hc:n≤c) (hn:0<n) (hb:b≠bc):LSH w0 bc (.slice (SLA (some ⟨b,o,none⟩) c 1) (n - 1) (c - 1)) (n - 1) (l.drop 32):=by
  refine ⟨_,_,rfl,by omega,hF.behind 1 hn hc,fun x hx=>?_⟩
  unfold SLA at hx
  dsimp only at hx
  split at hx <;> cases hx <;> exact hb
theorem z8Y {w:World} {g:Nat} {l:List Value} {t:TypeId} (h:Has w g l.toArray t):w.rangeAt g 0 l:=fun j v hv=>by rw [Nat.zero_add,h.cell,List.getElem?_toArray];exact hv
theorem BUT.set_new {bc g:Nat} {w w':World} (h:BUT bc w w') (hg:w.heap.size≤g) (hc:bc<w.heap.size) (cs:Array Value):BUT bc w (w'.setRow g cs):=
  ⟨fun q hq hne=>(setRow_other w' g q cs (by omega)).trans (h.1 q hq hne),z04 h.2 (by omega) cs⟩
end Go.Proofs.YthdpkaiieomdoaaGreatDoor

namespace Go.Proofs.YthdpkaiieomdoaaGreatDoor
open Go.RowKit
set_option maxRecDepth 100000
def INDB (w0:World) (bc:Nat) (a:Option Addr):Prop:=∀ x,a=some x→x.block≠bc∧x.block<w0.heap.size∧x.spot=none
theorem NUML.but {bc:Nat} {w w':World} {a:Option Addr} {L:List Nat} (h:NUML w a L) (hb:BUT bc w w') (ha:INDB w bc a):NUML w' a L:=fun h0=>by
  obtain ⟨b,o,e,hlt,hc⟩:=h h0
  exact ⟨b,o,e,Nat.lt_of_lt_of_le hlt hb.2.size,fun i x hx=>(World.cell?_of_block (w:=w) (by exact hb.1 b hlt (ha _ e).1)).trans (hc i x hx)⟩
end Go.Proofs.YthdpkaiieomdoaaGreatDoor

namespace Go.Proofs.YthdpkaiieomdoaaGreatDoor
open Go.RowKit
set_option maxRecDepth 100000
def AMID (B N:Nat) (L:List Nat):Prop:=∀ x∈L,B≤x∧x<N
theorem AMID.take {B N h k r:Nat} {L:List Nat} (hA:AMID B N L) (hR:RISES L) (hr:RANKS L ((k+1)*2 ^ h) r) (hB:k*2 ^ h=B):UNR h k (L.take r):=by
  refine ⟨hR.take r,fun x hx=>?_⟩
  have h1:=hA x (List.mem_of_mem_take hx)
  obtain ⟨i,hi⟩:=List.getElem?_of_mem hx
  rw [List.getElem?_take] at hi
  split at hi
  · rename_i hlt
    exact ⟨by omega,hr.lo i x hlt hi⟩
  · cases hi
theorem AMID.drop {B N h k r:Nat} {L:List Nat} (hA:AMID B N L) (hr:RANKS L ((k+1)*2 ^ h) r):AMID ((k+1)*2 ^ h) N (L.drop r):=fun x hx=>by
  have h1:=hA x (List.mem_of_mem_drop hx)
  obtain ⟨i,hi⟩:=List.getElem?_of_mem hx
  rw [List.getElem?_drop] at hi
  exact ⟨hr.hi (r+i) x (by omega) hi,h1.2⟩
theorem z4p {s:Nat × Nat}:∀ {l:List (Nat × Nat)} {j:Nat},l[j]?=some s→l.drop j=s :: l.drop (j+1)
  | [],j,h=>by simp at h
  | x :: l,0,h=>by simp at h;simp [h]
  | x :: l,j+1,h=>by simpa using z4p (l:=l) (j:=j) (by simpa using h)
theorem zdm {w:World} {B s n:Nat} {t:TypeId} {v:Value} {xs:List Value} (h:w.ownsRow B t s v n xs):∃ a c,v=.slice a n c:=by
  rcases h.2 with ⟨e,h0⟩ | ⟨g,cap,cur,e,_⟩
  · exact ⟨none,0,by rw [e,h0]⟩
  · exact ⟨_,_,e⟩
end Go.Proofs.YthdpkaiieomdoaaGreatDoor

namespace Go.Proofs.YthdpkaiieomdoaaGreatDoor
open Go.RowKit
set_option maxRecDepth 100000
end Go.Proofs.YthdpkaiieomdoaaGreatDoor

namespace Go.Proofs.YthdpkaiieomdoaaGreatDoor
open Go.RowKit
set_option maxRecDepth 100000
structure CLMD (w w':World) (b3 n:Nat) (Z:List Int):Prop where
  row:∃ v,Has w' b3 #[v] 25∧w'.ownsRow w.heap.size 23 32 v n (z00 Z)
  keep:∀ b,b<w.heap.size→b≠b3→w'.heap[b]?=w.heap[b]?
  below:Below b3 w w'
def ANSC (w:World) (A:Int × Nat × List Int) (e:Ending) (w':World):Prop:=∃ a c,e=.returned (.tuple #[.slice a A.2.1 c,.int .i64 A.1])∧w'.ownsRow w.heap.size 23 32 (.slice a A.2.1 c) A.2.1 (z00 A.2.2)∧Below w.heap.size w w'
end Go.Proofs.YthdpkaiieomdoaaGreatDoor

namespace Go.Proofs.YthdpkaiieomdoaaGreatDoor
open Go.RowKit
set_option maxRecDepth 100000
theorem z83 (n:Nat) (hn:n≤4611686018427387904) (w:World):Calls Tryz.prog 39 #[.int .u64 (n:Int)] w fun e w'=>
    ∃ a cap,e=.returned (.slice a (PC n) cap)∧Spots w' a (TPS n)∧(∀ x,a=some x→w.heap.size≤x.block)∧Below w.heap.size w w':=by
  refine (z6b n hn w).mono ?_
  rintro e w' ⟨v,rfl,hown,hb⟩
  have hl:=z4P (n:=n) (by omega) 0 (by omega)
  rw [Nat.pow_zero,Nat.div_one] at hl
  obtain ⟨a,cap,rfl,hs⟩:=z6w hl hown
  refine ⟨a,cap,rfl,hs,fun x hx=>?_,hb⟩
  subst hx
  exact (hown.lt x.block rfl).1
end Go.Proofs.YthdpkaiieomdoaaGreatDoor

namespace Go.Proofs.YthdpkaiieomdoaaGreatDoor
open Go.RowKit
set_option maxRecDepth 100000
set_option maxHeartbeats 4000000 in
theorem z84 (d:Int) (a:Option Addr) (c:Nat) (w:World):
    Calls Tryz.prog 36 #[.int .i64 d,.int .u64 ((0:Nat):Int),.slice a 0 c] w fun e w'=>e=.returned (.tuple #[.agg (z00 (z0u d 0 ZND)).toArray,.int .i64 0])∧Below w.heap.size w w':=by
  obtain ⟨w0,hw0⟩:∃ w0,w.alloc (.cells ZARR 23)=w0:=⟨_,rfl⟩
  have hb0:Below w.heap.size w w0:=by rw [← hw0];exact (Below.refl _ _).alloc (Nat.le_refl _) _
  have h40:Has w0 w.heap.size (z00 ZND).toArray 23:=by rw [← hw0,← z0P];exact Has.new w _ _
  have co:=z83 0 (by omega) w0
  rw [show PC 0=0 from rfl] at co
  have CR:Aside (∀ W,Calls Tryz.prog 69 #[.int .i64 d,.int .u64 0,.agg (z00 ZND).toArray] W fun e w'=>e=.returned (.agg (z00 (z0u d 0 ZND)).toArray)∧Below W.heap.size W w'):=fun W=>z56 d 0 (by omega) ZND zbJ W
  have hYH:IsH (z0u d 0 ZND):=z2Z _ _ _
  generalize z0u d 0 ZND=Y at *
  have y32:=hYH.1
  have R0:Aside (Below w.heap.size w w0∧Has w0 w.heap.size (z00 ZND).toArray 23):=⟨hb0,h40⟩
  clear hb0 h40 hYH
  go_enter Tryz.func36,Tryz.ntmps36
  go_upto_region 1 with fail
  go_wp2_with fail
  refine co.mono ?_
  rintro e w1 ⟨a1,c1,rfl,_,_,hb1⟩
  have R1:Aside (Below w.heap.size w w1∧Has w1 w.heap.size (z00 ZND).toArray 23):=⟨R0.out.1.trans (hb1.mono R0.out.1.size),R0.out.2.keep hb1⟩
  clear co hb1 R0 hw0
  have cr:=CR.out w1
  go_wp2_with fail
  refine cr.mono ?_
  rintro e w2 ⟨rfl,hb2⟩
  have h42:=R1.out.2.keep hb2
  have hb3:Below w.heap.size w w2:=R1.out.1.trans (hb2.mono R1.out.1.size)
  clear hb2 R1 cr CR
  go_wp2_with (refine wpList_store_row rfl 23 (.tmp 6) (.tmp 25) rfl _ _ rfl rfl 23 _ h42 (z03 y32) (by simp [z00,y32];rfl) (z0i Y) ?_)
  refine bodyPost_ret (v:=.tuple #[.agg (z00 Y).toArray,.int .i64 0]) (z1O rfl _ _ w.heap.size 23 _ (0,0) _ _ _ rfl rfl (Has.row h42 _) Tryz.underlying23 (z03 y32)) rfl ⟨rfl,z04 hb3 (Nat.le_refl _) _⟩
theorem zaQ (d:Int) (n:Nat) (hn:n≤4611686018427387904) (a:Option Addr) (k c:Nat) (hk:k=PC n) (l:List Int) (w:World) (hF:Flat w a k l):
    Calls Tryz.prog 36 #[.int .i64 d,.int .u64 (n:Int),.slice a k c] w fun e w'=>e=.returned (.tuple #[.agg (z00 (z0u d n (FLD d l k))).toArray,.int .i64 0])∧Below w.heap.size w w':=by
  by_cases h0:k=0
  · have hn0:n=0:=z2y (by omega)
    subst h0 hn0
    have e:FLD d l 0=ZND:=by unfold FLD;rw [if_pos rfl]
    rw [e]
    exact z84 d a c w
  · exact zaC d n hn a k c hk h0 l w hF
end Go.Proofs.YthdpkaiieomdoaaGreatDoor
