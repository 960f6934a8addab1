/- Texts of ClashBlocks, one behind the other: VerifyBag, VerifyRefPlain, ClashPlain, ClashMap, StepLists. -/
import Derived.Deep.AppendLies
import Derived.Test.YtbmjoiiagldklaaDoorClashBlocksP6
import Derived.Test.YtbmjoiiagldklaaDoorClashBlocksP12
import Derived.Test.YtbmjoiiagldklaaDoorClashBlocksP13
namespace Go.Proofs.YtbmjoiiagldklaaDoor
open Go.RowKit
set_option maxRecDepth 100000
def FA (d:Int) (l:List Int) (n:Nat):Nat→List Int
  | 0=>HSH l (n - 1)
  | k+1=>z1q d (HSH l (n - 2 - k)) (FA d l n k)
def FLD (d:Int) (l:List Int) (n:Nat):List Int:=if n=0 then ZND else FA d l n (n - 1)
theorem z6S {d:Int} {l:List Int} {n:Nat} (hl:l.length=32*n) (hr:∀ x∈l,0≤x∧x≤255) (hn:0<n):∀ k,IsH (FA d l n k)
  | 0=>z1N hl hr (by omega)
  | k+1=>z6k _ _ _
theorem z9j {d:Int} {l:List Int} {n:Nat} (hl:l.length=32*n) (hr:∀ x∈l,0≤x∧x≤255):IsH (FLD d l n):=by
  unfold FLD
  split
  · exact z5o
  · exact z6S hl hr (by omega) _
theorem z1O {fn:Func} {p:Tmp} {ty:TypeId} (h:fn.results=#[.cell p ty]) (tmps:Array Value) (w:World) (g:Nat) (t:TypeId) (cs:Array Value) (fr:Nat × Nat) (k:Nat) (el:TypeId)
    (hp:tmps.getD p undef=.pointer (some ⟨g,0,none⟩)) (hg:w.heap[g]?=some (.cells cs t fr))
    (hu:Tryd.prog.underlying ty=some (.array k el)) (hi:(Tryd.prog.info? ty).map (·.size)=some cs.size):
    (results fn tmps).run Tryd.prog w=.ok (.agg cs) w:=by
  have hp':tmps[p]?.getD undef=.pointer (some ⟨g,0,none⟩):=by simpa using hp
  simp [results,h,hp',asAddr,run_loadVar_row w g t ty cs fr (.array k el) hg hu rfl hi]
set_option maxHeartbeats 4000000 in
theorem zdy (d:Int) (a:Option Addr) (n c:Nat) (hn:n≤1000) (l:List Int) (w:World) (hF:Flat w a n l) (hX:HX.Tabled w):
    Calls Tryd.prog 47 #[.int .i64 d,.slice a n c] w fun e w'=>e=.returned (.agg (z00 (FLD d l n)).toArray)∧Below w.heap.size w w':=by
  have R0:Aside (Below w.heap.size w (w.alloc (.cells ZARR 26))∧Has (w.alloc (.cells ZARR 26)) w.heap.size (z00 ZND).toArray 26):=⟨(Below.refl _ _).alloc (Nat.le_refl _) _,by rw [z3u];exact Has.new _ _ _⟩
  by_cases h0:n=0
  · subst h0
    have e:FLD d l 0=ZND:=rfl
    rw [e]
    clear hF hX hn e
    go_enter Tryd.func47,Tryd.ntmps47
    go_upto_region 2 with fail
    rw [show (#[.int .u8 0,.int .u8 0,.int .u8 0,.int .u8 0,.int .u8 0,.int .u8 0,.int .u8 0,.int .u8 0,.int .u8 0,.int .u8 0,.int .u8 0,.int .u8 0,.int .u8 0,.int .u8 0,.int .u8 0,.int .u8 0,.int .u8 0,.int .u8 0,.int .u8 0,.int .u8 0,.int .u8 0,.int .u8 0,.int .u8 0,.int .u8 0,.int .u8 0,.int .u8 0,.int .u8 0,.int .u8 0,.int .u8 0,.int .u8 0,.int .u8 0,.int .u8 0]:Array Value)=ZARR from rfl]
    generalize w.alloc (.cells ZARR 26)=W0 at *
    go_wp2_with (rw [show (#[.int .u8 0,.int .u8 0,.int .u8 0,.int .u8 0,.int .u8 0,.int .u8 0,.int .u8 0,.int .u8 0,.int .u8 0,.int .u8 0,.int .u8 0,.int .u8 0,.int .u8 0,.int .u8 0,.int .u8 0,.int .u8 0,.int .u8 0,.int .u8 0,.int .u8 0,.int .u8 0,.int .u8 0,.int .u8 0,.int .u8 0,.int .u8 0,.int .u8 0,.int .u8 0,.int .u8 0,.int .u8 0,.int .u8 0,.int .u8 0,.int .u8 0,.int .u8 0]:Array Value)=(z00 ZND).toArray from rfl];refine wpList_store_row rfl 26 (.tmp 4) (.tmp 11) rfl _ _ rfl rfl 26 _ R0.out.2 (z08 rfl) rfl (z0G ZND) ?_)
    refine bodyPost_ret (v:=.agg (z00 ZND).toArray) (z1O rfl _ _ w.heap.size 26 _ (0,0) _ _ rfl (Has.row R0.out.2 _) Tryd.underlying26 (z08 rfl)) rfl ⟨rfl,z0q R0.out.1 (Nat.le_refl _) _⟩
  · obtain ⟨m,hm⟩:∃ m,n=m+1:=⟨n - 1,by omega⟩
    obtain ⟨gn,o,rfl,hgn,hcn⟩:=hF.2.1 (by omega)
    have hz:¬ (n:Int)=0:=by omega
    have e1:wrap64 ((n:Int) - 1)=(m:Int):=by unfold wrap64;omega
    have hml:(m:Int)<(n:Int):=by omega
    have hm0:(0:Int)≤(m:Int):=by omega
    have e:FLD d l n=FA d l n m:=by unfold FLD;rw [if_neg h0,show n - 1=m by omega]
    rw [e]
    have HA:Aside (n=m+1∧n≤1000∧Flat w (some ⟨gn,o,none⟩) n l∧HX.Tabled w∧gn<w.heap.size∧∀ k,IsH (FA d l n k)):=⟨hm,hn,hF,hX,hgn,z6S hF.1 hF.2.2 (by omega)⟩
    clear hm hn hF hX hgn hcn h0 e
    go_enter Tryd.func47,Tryd.ntmps47
    go_upto_region 3 with fail
    rw [show (#[.int .u8 0,.int .u8 0,.int .u8 0,.int .u8 0,.int .u8 0,.int .u8 0,.int .u8 0,.int .u8 0,.int .u8 0,.int .u8 0,.int .u8 0,.int .u8 0,.int .u8 0,.int .u8 0,.int .u8 0,.int .u8 0,.int .u8 0,.int .u8 0,.int .u8 0,.int .u8 0,.int .u8 0,.int .u8 0,.int .u8 0,.int .u8 0,.int .u8 0,.int .u8 0,.int .u8 0,.int .u8 0,.int .u8 0,.int .u8 0,.int .u8 0,.int .u8 0]:Array Value)=ZARR from rfl]
    generalize w.alloc (.cells ZARR 26)=W0 at *
    have hat:W0.rangeAt gn (o+m*32) (z00 (FA d l n 0)):=by
      have h1:=(HA.out.2.2.1.below R0.out.1).at (show m<n by have:=HA.out.1;omega)
      have h2:FA d l n 0=HSH l m:=by have:=HA.out.1;rw [FA,show n - 1=m by omega]
      rw [h2]
      exact h1
    have h32:=(HA.out.2.2.2.2.2 0).1
    generalize hA0:FA d l n 0=A0 at *
    go_wp2_with (first
      | (refine wpList_load_mid rfl 26 (.tmp 17) rfl gn (o+m*32) rfl (z00 A0) _ hat Tryd.underlying26 rfl (z0a h32) ?_)
      | (refine wpList_store_row rfl 26 (.tmp 6) (.tmp 18) rfl _ _ rfl rfl 26 _ (Has.new W0 _ _) (z08 h32) (by simp [z00,h32]) (z0G A0) ?_;rw [World.setRow_alloc_new]))
    have R1:Aside (Below w.heap.size w (W0.alloc (.cells (z00 A0).toArray 26))∧Has (W0.alloc (.cells (z00 A0).toArray 26)) w.heap.size (z00 ZND).toArray 26∧Has (W0.alloc (.cells (z00 A0).toArray 26)) W0.heap.size (z00 (FA d l n 0)).toArray 26∧w.heap.size<W0.heap.size):=⟨R0.out.1.alloc R0.out.1.size _,R0.out.2.alloc _,by rw [hA0];exact Has.new _ _ _,R0.out.2.lt⟩
    clear hat h32 hA0 R0
    generalize W0.alloc (.cells (z00 A0).toArray 26)=W1 at *
    generalize W0.heap.size=b6 at *
    clear W0
    have K:Aside (w.heap.size<b6):=R1.out.2.2.2
    have E0:Aside (wrap64 ((m:Int) - 1)=(m:Int) - 1):=by have:=HA.out.1;have:=HA.out.2.1;show wrap64 ((m:Int) - 1)=(m:Int) - 1;unfold wrap64;omega
    go_loopg [7] m (fun q s7 wx=>∃ x:Int,s7=.int .i64 x∧Aside (q≤m∧x=(q:Int) - 1∧Below w.heap.size w wx∧Has wx w.heap.size (z00 ZND).toArray 26∧Has wx b6 (z00 (FA d l n (m - q))).toArray 26))
    case atStart=>exact ⟨_,rfl,Nat.le_refl _,E0.out,R1.out.1,R1.out.2.1,by rw [Nat.sub_self];exact R1.out.2.2.1⟩
    case round=>
      obtain ⟨x,rfl,A⟩:=hrel
      clear R1 E0
      cases gk with
      | zero=>
        obtain rfl:x = -1:=by have:=A.out.2.1;omega
        have y32:=(HA.out.2.2.2.2.2 m).1
        have hH4:=A.out.2.2.2.1
        have hH6:Has wr b6 (z00 (FA d l n m)).toArray 26:=A.out.2.2.2.2
        have hb:=A.out.2.2.1
        clear A HA
        generalize hY0:FA d l n m=Y at *
        go_wp2_with (first
          | (refine wpList_load_row rfl 26 (.tmp 6) rfl b6 rfl 26 (z00 Y).toArray (0,0) _ hH6 Tryd.underlying26 rfl (z08 y32) ?_)
          | (refine wpList_store_row rfl 26 (.tmp 4) (.tmp 32) rfl _ _ rfl rfl 26 _ hH4 (z08 y32) (by simp [z00,y32];rfl) (z0G Y) ?_))
        refine bodyPost_ret (v:=.agg (z00 Y).toArray) (z1O rfl _ _ w.heap.size 26 _ (0,0) _ _ rfl (Has.row hH4 _) Tryd.underlying26 (z08 y32)) rfl ⟨by rw [hY0],z0q hb (Nat.le_refl _) _⟩
      | succ q=>
        obtain rfl:x=(q:Int):=by have:=A.out.2.1;omega
        have hq0:(0:Int)≤(q:Int):=by omega
        have hb:=A.out.2.2.1
        obtain ⟨h1,h2,h3,h4,h5,h6⟩:=HA.out
        have hqm:q+1≤m:=A.out.1
        have eY:FA d l n (m - q)=z1q d (HSH l q) (FA d l n (m - (q+1))):=by
          rw [show m - q=(m - (q+1))+1 by omega,FA,show n - 2 - (m - (q+1))=q by omega]
        have hL:IsH (HSH l q):=z1N h3.1 h3.2.2 (by omega)
        have hR:=h6 (m - (q+1))
        have hY:=h6 (m - q)
        have hb1:(q:Int)<(n:Int):=by omega
        have cF:=zf9 d (HSH l q) (FA d l n (m - (q+1))) hL hR wr.drew (h4.below hb.drew)
        have hLr:=((h3.below hb).at (show q<n by omega))
        have hE1:Aside (wrap64 ((q:Int) - 1)=(q:Int) - 1):=by show wrap64 ((q:Int) - 1)=(q:Int) - 1;unfold wrap64;omega
        rw [← eY] at cF
        clear h1 h2 h3 h4 h5 h6 eY hb HA
        generalize FA d l n (m - (q+1))=R at *
        generalize HSH l q=L at *
        have hH6:=A.out.2.2.2.2
        go_upto_region 8 with fail
        refine z8y _ _ _ _ _ _ _ _ _ _ _ _ _ _ _ _ _ _ _ _ _ _ _ _ _ _ _ _ _ wr b6 gn o n c q d L R (FA d l n (m - q)) hL.1 hR.1 hY.1 hb1 hLr (z0v hH6) (fun W=>Below w.heap.size w W∧Has W w.heap.size (z00 ZND).toArray 26) (cF.mono ?_) (fun _ _ _ _ _ h=>h) ?_
        · rintro e w' ⟨rfl,hb⟩
          have hb':Below wr.heap.size wr w':=(Below.refl _ wr).drew.trans hb
          exact ⟨_,rfl,rfl,hH6.keep hb',A.out.2.2.1.trans (hb'.mono A.out.2.2.1.size),A.out.2.2.2.1.keep hb'⟩
        · rintro X w' ⟨rfl,g1,g2,g3⟩
          dsimp only
          have Z:Aside (q≤m∧(q:Int) - 1=(q:Int) - 1∧Below w.heap.size w (w'.setRow b6 (z00 (FA d l n (m - q))).toArray)∧Has (w'.setRow b6 (z00 (FA d l n (m - q))).toArray) w.heap.size (z00 ZND).toArray 26∧Has (w'.setRow b6 (z00 (FA d l n (m - q))).toArray) b6 (z00 (FA d l n (m - q))).toArray 26):=⟨by omega,rfl,z0q g2 (by have:=K.out;omega) _,g3.row_other (by have:=K.out;omega) _,g1.row _⟩
          clear cF hLr hL hR hY hb1 hq0 hqm A g1 g2 g3 hH6
          have e1:=hE1.out
          generalize w'.setRow b6 (z00 (FA d l n (m - q))).toArray=w3 at *
          go_wp2
          go_roundg q
          case measure=>exact Nat.lt_succ_self _
          case rel=>exact ⟨_,rfl,Z.out.1,rfl,Z.out.2.2⟩
end Go.Proofs.YtbmjoiiagldklaaDoor

namespace Go.Proofs.YtbmjoiiagldklaaDoor
set_option maxRecDepth 100000
def WAYH (d:Int) (leaf:List Int) (I:Nat) (l:List Int):Nat→List Int
  | 0=>leaf
  | t+1=>if I / 2 ^ t % 2=0 then z0F d (WAYH d leaf I l t) (HSH l t) else z0F d (HSH l t) (WAYH d leaf I l t)
theorem z7t {ss:List (Nat × Nat)} {l:List Int} (hp:ss.Pairwise Off) {t h k:Nat} (ht:ss[t]?=some (h,k)):∀ N,t<N→N≤ss.length→HAND ss l N h k=HSH l t
  | 0,h0,_=>by omega
  | N + 1,h1,h2=>by
    rw [HAND]
    by_cases e:t=N
    · subst e
      rw [show ss.getD t (0,0)=(h,k) by rw [List.getD_eq_getElem?_getD,ht];rfl]
      exact z5C _ _ _ _
    · have hlt:t<N:=by omega
      obtain ⟨s,hs⟩:∃ s,ss[N]?=some s:=⟨_,List.getElem?_eq_getElem (by omega)⟩
      have ho:=Pairwise.at_lt hp hlt ht hs
      rw [show ss.getD N (0,0)=s by rw [List.getD_eq_getElem?_getD,hs];rfl]
      rw [z2d]
      · exact z7t hp ht N hlt (by omega)
      · rintro ⟨e1,e2⟩
        obtain ⟨a,b⟩:=s
        dsimp only at e1 e2
        subst e1 e2
        have:=Nat.two_pow_pos h
        unfold Off at ho
        dsimp only at ho
        rw [Nat.add_mul] at ho
        omega
theorem z6m {d:Int} {I:Nat} {M:Nat→Nat→List Int} {h k:Nat} (hk:k≠I / 2 ^ h):∀ t,JN d I M t h k=M h k
  | 0=>rfl
  | t + 1=>by
    rw [JN,z2d]
    · exact z6m hk t
    · rintro ⟨e1,e2⟩
      subst e1
      exact hk e2
theorem zaZ {i n t:Nat} (ht:t<RISE i n):(PSP i n)[t]?=some (t,SIB (i / 2 ^ t)):=by
  unfold PSP
  rw [List.getElem?_append_left (by rw [z1y];exact ht)]
  simp [WAYS,ht]
theorem zfc {i n j:Nat} (hj:j≠KTH i n):(PSP i n)[RISE i n+(if j<KTH i n then j else j - 1)]?=(SPAN 0 n)[j]?:=by
  unfold PSP
  rw [List.getElem?_append_right (by rw [z1y];omega),z1y,Nat.add_sub_cancel_left,List.getElem?_eraseIdx]
  by_cases h:j<KTH i n
  · rw [if_pos h,if_pos h]
  · rw [if_neg h,if_neg (by omega),show j - 1+1=j by omega]
theorem z4Y {q:Nat}:(q % 2=0→SIB q=2*(q / 2)+1∧2*(q / 2)=q)∧(q % 2=1→SIB q=2*(q / 2)∧2*(q / 2)+1=q):=by
  unfold SIB
  refine ⟨fun h=>?_,fun h=>?_⟩ <;> (try split) <;> omega
theorem zdz {d:Int} {leaf:List Int} {S I:Nat} (hI:I<S) (hS:S≤4611686018427387904) (l:List Int):∀ t,t≤RISE I S→JN d I (MPUT (HAND (PSP I S) l (PSP I S).length) 0 I leaf) t t (I / 2 ^ t)=WAYH d leaf I l t
  | 0,_=>by
    rw [JN,Nat.pow_zero,Nat.div_one]
    exact z5C _ _ _ _
  | t + 1,h=>by
    have ih:=zdz hI hS (d:=d) (leaf:=leaf) l t (by omega)
    obtain ⟨p1,p2,_⟩:=z4O hI hS
    have hw:=zaZ (i:=I) (n:=S) (t:=t) (by omega)
    have hlt:t<(PSP I S).length:=(List.getElem?_eq_some_iff.1 hw).1
    have hd:I / 2 ^ (t+1)=I / 2 ^ t / 2:=by rw [Nat.pow_succ,Nat.div_div_eq_div_mul]
    have hsib:JN d I (MPUT (HAND (PSP I S) l (PSP I S).length) 0 I leaf) t t (SIB (I / 2 ^ t))=HSH l t:=by
      have hne:SIB (I / 2 ^ t)≠I / 2 ^ t:=by have:=z4Y (q:=I / 2 ^ t);omega
      rw [z6m hne,z2d,z7t p2 hw _ hlt (Nat.le_refl _)]
      rintro ⟨e1,e2⟩
      subst e1
      rw [Nat.pow_zero,Nat.div_one] at hne e2
      exact hne e2
    rw [JN,z5C,WAYH,hd]
    by_cases hq:I / 2 ^ t % 2=0
    · obtain ⟨e1,e2⟩:=z4Y.1 hq
      rw [if_pos hq,← e1,hsib,e2,ih]
    · obtain ⟨e1,e2⟩:=z4Y.2 (by omega:I / 2 ^ t % 2=1)
      rw [if_neg hq,e2,← e1,hsib,ih]
def PEK (d:Int) (leaf:List Int) (S I:Nat) (l:List Int) (j:Nat):List Int:=if j=KTH I S then WAYH d leaf I l (RISE I S) else HSH l (RISE I S+(if j<KTH I S then j else j - 1))
theorem z9k {d:Int} {leaf:List Int} {S I:Nat} (hI:I<S) (hS:S≤4611686018427387904) (l:List Int) {j h k:Nat} (hj:(SPAN 0 S)[j]?=some (h,k)):CLM d leaf S I l h k=PEK d leaf S I l j:=by
  unfold CLM PEK
  by_cases e:j=KTH I S
  · subst e
    rw [if_pos rfl]
    have h1:=(z6g hI hS).1
    rw [hj] at h1
    simp only [Option.some.injEq,Prod.mk.injEq] at h1
    rw [h1.1,h1.2]
    exact zdz hI hS l _ (Nat.le_refl _)
  · rw [if_neg e]
    have h1:=zfc (i:=I) (n:=S) e
    rw [hj] at h1
    obtain ⟨p1,p2,_⟩:=z4O hI hS
    have h3:=(p1 _ (List.mem_of_getElem? h1)).2.2
    have hlt:=(List.getElem?_eq_some_iff.1 h1).1
    have hne:k≠I / 2 ^ h:=by
      rintro rfl
      apply h3
      dsimp only
      exact ⟨Nat.div_mul_le_self I _,by have:=Nat.lt_div_mul_add (a:=I) (Nat.two_pow_pos h);rw [Nat.add_mul];omega⟩
    rw [z6m hne,z2d,z7t p2 h1 _ hlt (Nat.le_refl _)]
    rintro ⟨e1,e2⟩
    subst e1
    rw [Nat.pow_zero,Nat.div_one] at hne
    exact hne e2
end Go.Proofs.YtbmjoiiagldklaaDoor

namespace Go.Proofs.YtbmjoiiagldklaaDoor
set_option maxRecDepth 100000
def z0D (l r:List Int):List Nat:=1 :: (NATS l ++ NATS r)
def z0Z (l r:List Int):List Nat:=2 :: (NATS l ++ NATS r)
def z1f (n:Nat) (r:List Int):List Nat:=3 :: (HX.BE8 n ++ NATS r)
def HSHT (d:Int) (t:List Nat):List Int:=LST (HX.z0e d t)
theorem z3w (d:Int) (t:List Nat):IsH (HSHT d t):=z6Q fun i=>HX.z1Z d _ _ i
def INJ (d:Int) (T:List (List Nat)):Prop:=∀ s∈T,∀ t∈T,HSHT d s=HSHT d t→s=t
theorem z64 (h:List Int):(NATS h).length=32:=by simp [NATS]
theorem z6n {h k:List Int} (hh:IsH h) (hk:IsH k) (e:NATS h=NATS k):h=k:=by
  apply List.ext_getElem (by rw [hh.1,hk.1])
  intro i h1 h2
  have e2:(NATS h)[i]?=(NATS k)[i]?:=by rw [e]
  have hi:i<32:=by rw [← hh.1];exact h1
  simp only [NATS,List.getElem?_map,List.getElem?_range hi,Option.map_some,Option.some.injEq,FNC] at e2
  rw [List.getD_eq_getElem?_getD,List.getD_eq_getElem?_getD,List.getElem?_eq_getElem h1,List.getElem?_eq_getElem h2,Option.getD_some,Option.getD_some] at e2
  have a:=hh.2 _ (List.getElem_mem h1)
  have b:=hk.2 _ (List.getElem_mem h2)
  omega
theorem z89 {l r l' r':List Int} (hl:IsH l) (hr:IsH r) (hl':IsH l') (hr':IsH r') (e:NATS l ++ NATS r=NATS l' ++ NATS r'):l=l'∧r=r':=by
  obtain ⟨a,b⟩:=List.append_inj e (by rw [z64,z64])
  exact ⟨z6n hl hl' a,z6n hr hr' b⟩
theorem z9l {d:Int} {T:List (List Nat)} (hT:INJ d T) {l r l' r':List Int} (hl:IsH l) (hr:IsH r) (hl':IsH l') (hr':IsH r') (h1:z0D l r∈T) (h2:z0D l' r'∈T) (e:z0F d l r=z0F d l' r'):l=l'∧r=r':=by
  have:=hT _ h1 _ h2 e
  unfold z0D at this
  exact z89 hl hr hl' hr' (List.cons.inj this).2
theorem zfd {d:Int} {T:List (List Nat)} (hT:INJ d T) {l r l' r':List Int} (hl:IsH l) (hr:IsH r) (hl':IsH l') (hr':IsH r') (h1:z0Z l r∈T) (h2:z0Z l' r'∈T) (e:z1q d l r=z1q d l' r'):l=l'∧r=r':=by
  have:=hT _ h1 _ h2 e
  unfold z0Z at this
  exact z89 hl hr hl' hr' (List.cons.inj this).2
theorem zfe {d:Int} {T:List (List Nat)} (hT:INJ d T) {n:Nat} {r r':List Int} (hr:IsH r) (hr':IsH r') (h1:z1f n r∈T) (h2:z1f n r'∈T) (e:z1A d n r=z1A d n r'):r=r':=by
  have:=hT _ h1 _ h2 e
  unfold z1f at this
  exact z6n hr hr' (List.append_cancel_left (List.cons.inj this).2)
def BAGS (d:Int) (n k:Nat) (l:List Int) (T:List (List Nat)):Prop:=(∀ q,q+1<k→z0Z (HSH l (k - 2 - q)) (FA d l k q)∈T)∧z1f n (FLD d l k)∈T
theorem BAGS.mono {d:Int} {n k:Nat} {l:List Int} {T T':List (List Nat)} (h:BAGS d n k l T) (hs:∀ t∈T,t∈T'):BAGS d n k l T':=⟨fun q hq=>hs _ (h.1 q hq),hs _ h.2⟩
theorem zg8 {d:Int} {n k:Nat} {l l':List Int} {T:List (List Nat)} (hT:INJ d T) (hl:l.length=32*k) (hr:∀ x∈l,0≤x∧x≤255) (hl':l'.length=32*k) (hr':∀ x∈l',0≤x∧x≤255) (h1:BAGS d n k l T) (h2:BAGS d n k l' T) (e:z1A d n (FLD d l k)=z1A d n (FLD d l' k)):l=l':=by
  have e1:=zfe hT (z9j hl hr) (z9j hl' hr') h1.2 h2.2 e
  by_cases hk:k=0
  · subst hk
    rw [List.length_eq_zero_iff.1 hl,List.length_eq_zero_iff.1 hl']
  · unfold FLD at e1
    rw [if_neg hk,if_neg hk] at e1
    have step:∀ q,q+1<k→FA d l k (q+1)=FA d l' k (q+1)→HSH l (k - 2 - q)=HSH l' (k - 2 - q)∧FA d l k q=FA d l' k q:=fun q hq e2=>
      zfd hT (z1N hl hr (by omega)) (z6S hl hr (by omega) q) (z1N hl' hr' (by omega)) (z6S hl' hr' (by omega) q) (h1.1 q hq) (h2.1 q hq) e2
    have down:∀ j,j≤k - 1→FA d l k (k - 1 - j)=FA d l' k (k - 1 - j):=by
      intro j
      induction j with
      | zero=>intro _;exact e1
      | succ j ih=>
        intro hj
        have:=ih (by omega)
        rw [show k - 1 - j=(k - 1 - (j+1))+1 by omega] at this
        exact (step _ (by omega) this).2
    refine zg6 hl hl' fun i hi=>?_
    by_cases hi1:i=k - 1
    · have:=down (k - 1) (Nat.le_refl _)
      rw [Nat.sub_self] at this
      rw [hi1]
      exact this
    · have:=down i (by omega)
      rw [show k - 1 - i=(k - 2 - i)+1 by omega] at this
      have:=(step (k - 2 - i) (by omega) this).1
      rw [show k - 2 - (k - 2 - i)=i by omega] at this
      exact this
def WAYT (d:Int) (leaf:List Int) (I m:Nat) (l:List Int) (T:List (List Nat)):Prop:=∀ t,t<m→(if I / 2 ^ t % 2=0 then z0D (WAYH d leaf I l t) (HSH l t) else z0D (HSH l t) (WAYH d leaf I l t))∈T
theorem WAYT.mono {d:Int} {leaf:List Int} {I m:Nat} {l:List Int} {T T':List (List Nat)} (h:WAYT d leaf I m l T) (hs:∀ t∈T,t∈T'):WAYT d leaf I m l T':=fun t ht=>hs _ (h t ht)
theorem z6o {d:Int} {leaf:List Int} {I:Nat} {l:List Int} (hleaf:IsH leaf):∀ t,IsH (WAYH d leaf I l t)
  | 0=>hleaf
  | t+1=>by
    rw [WAYH]
    split
    · exact z2U _ _ _
    · exact z2U _ _ _
theorem zg9 {d:Int} {x y:List Int} {I m N:Nat} {l l':List Int} {T:List (List Nat)} (hT:INJ d T) (hx:IsH x) (hy:IsH y) (hm:m≤N) (hl:l.length=32*N) (hr:∀ x∈l,0≤x∧x≤255) (hl':l'.length=32*N) (hr':∀ x∈l',0≤x∧x≤255) (h1:WAYT d x I m l T) (h2:WAYT d y I m l' T) (e:WAYH d x I l m=WAYH d y I l' m):x=y:=by
  induction m with
  | zero=>exact e
  | succ m ih=>
    refine ih (by omega) (fun t ht=>h1 t (by omega)) (fun t ht=>h2 t (by omega)) ?_
    have a:=h1 m (by omega)
    have b:=h2 m (by omega)
    rw [WAYH,WAYH] at e
    have i1:=z6o (d:=d) (I:=I) (l:=l) hx m
    have i2:=z6o (d:=d) (I:=I) (l:=l') hy m
    have i3:=z1N hl hr (show m<N by omega)
    have i4:=z1N hl' hr' (show m<N by omega)
    by_cases hq:I / 2 ^ m % 2=0
    · rw [if_pos hq] at a b
      rw [if_pos hq,if_pos hq] at e
      exact (z9l hT i1 i3 i2 i4 a b e).1
    · rw [if_neg hq] at a b
      rw [if_neg hq,if_neg hq] at e
      exact (z9l hT i3 i1 i4 i2 a b e).2
end Go.Proofs.YtbmjoiiagldklaaDoor

namespace Go.Proofs.YtbmjoiiagldklaaDoor
open Go.RowKit Go.Maps
set_option maxRecDepth 100000
theorem zb0:(26:TypeId)<Tryd.prog.types.size:=of_decide_eq_true (by kernel_rfl)
theorem zff:(match Tryd.prog.underlying 26 with | some (.array _ _) | some (.struct _)=>true | _=>false)=true:=by rw [Tryd.underlying26]
theorem lawH:Keyed Tryd.prog 26:=Keyed.of_law (deep_law_laid z8V (m:=2) (by omega) zb0 (by kernel_rfl) zff)
def HKL (h:List Int):Lit:=.string (keyBytes ((List.range 32).map fun i=>[Lit.int .u8 (h.getD i 0)]).flatten)
theorem z8a {α β:Type} (f:α→Option β) (g:α→β):∀ l:List α,(∀ x∈l,f x=some (g x))→l.mapM f=some (l.map g)
  | [],_=>rfl
  | x :: l,h=>by
    rw [List.mapM_cons,h x (List.mem_cons_self ..),z8a f g l (fun y hy=>h y (List.mem_cons_of_mem _ hy))]
    rfl
theorem z3x {h:List Int} (hh:IsH h):keyOf Tryd.prog 26 (.agg (z00 h).toArray)=some (HKL h):=by
  have c3:Tryd.prog.cellsOf 26=32:=by kernel_rfl
  have c1:Tryd.prog.cellsOf 5=1:=by kernel_rfl
  have ht:Tryd.prog.keyType 26=true:=by kernel_rfl
  have hl:(z00 h).length=32:=by simp [z00,hh.1]
  have hf:(Value.agg (z00 h).toArray).formed Tryd.prog 26=true:=by simp [Value.formed,Tryd.underlying26,c3,hl]
  obtain ⟨m,hm⟩:∃ m,Tryd.prog.types.size=m+1:=⟨Tryd.prog.types.size - 1,(Nat.succ_pred_eq_of_pos (Nat.lt_of_le_of_lt (Nat.zero_le _) zb0)).symm⟩
  unfold keyOf
  simp only [Tryd.underlying26,ht,hf,hm]
  simp only [Bool.and_self,if_true,Program.keyLits,Tryd.underlying26,Value.cells,c1,c3,hl]
  rw [z8a _ (fun i=>[Lit.int .u8 (h.getD i 0)]) (List.range 32)]
  · rfl
  · intro i hi
    have hi:i<32:=List.mem_range.1 hi
    have e:((z00 h).drop (i*1)).take 1=[.int .u8 (h.getD i 0)]:=by
      rw [Nat.mul_one]
      apply List.ext_getElem?
      intro j
      rw [List.getElem?_take]
      cases j with
      | zero=>
        simp only [Nat.zero_lt_one,if_true,List.getElem?_drop,Nat.add_zero,List.getElem?_cons_zero]
        unfold z00
        rw [List.getElem?_map,List.getD_eq_getElem?_getD,List.getElem?_eq_getElem (by rw [hh.1];exact hi)]
        rfl
      | succ j=>simp
    have hr:0≤h.getD i 0∧h.getD i 0≤255:=by
      rw [List.getD_eq_getElem?_getD,List.getElem?_eq_getElem (by rw [hh.1];exact hi)]
      exact hh.2 _ (List.getElem_mem _)
    have w0:(Lit.int .u8 (h.getD i 0)).wf=true:=WalkArith.wf_u8 (by omega)
    rw [e]
    simp only [Tryd.underlying5]
    rw [if_pos ⟨trivial,w0⟩]
theorem zdA {h k:List Int} (e:z00 h=z00 k):h=k:=by
  unfold z00 at e
  exact List.map_inj_right (f:=Value.int .u8) (fun x y hxy=>by simpa using hxy) |>.1 e
theorem zb1 {h k:List Int} (hh:IsH h) (hk:IsH k) (e:HKL h=HKL k):h=k:=by
  have h1:=z3x hh
  have h2:=z3x hk
  rw [← e] at h2
  have:=lawH.inj h1 h2
  simp only [Value.agg.injEq] at this
  exact zdA (by simpa using this)
def OWNT (w:World) (base g c:Nat) (t:List Nat):Prop:=w.ownsRow base 5 1 (.slice (some ⟨g,0,none⟩) t.length c) t.length (HX.z00 (HX.INTS t))∧HX.Small8 t∧0<t.length∧t.length≤200
theorem OWNT.at {w w':World} {base g c:Nat} {t:List Nat} (h:OWNT w base g c t) (hg:w'.heap[g]?=w.heap[g]?):OWNT w' base g c t:=by
  refine ⟨⟨h.1.1,h.1.2.imp id ?_⟩,h.2⟩
  rintro ⟨g2,c2,cur,e1,e2,e3,e4⟩
  have:g2=g:=by cases e1;rfl
  subst this
  exact ⟨g2,c2,cur,e1,e2,hg.trans e3,e4⟩
theorem OWNT.lt {w:World} {base g c:Nat} {t:List Nat} (h:OWNT w base g c t):base≤g∧g<w.heap.size:=h.1.lt g rfl
theorem OWNT.cap {w:World} {base g c:Nat} {t:List Nat} (h:OWNT w base g c t):t.length≤c:=by
  rcases h.1.2 with ⟨e,_⟩ | ⟨g2,cap,cur,e,_,_,h2,_⟩
  · cases e
  · cases e;exact h2
theorem OWNT.text {w:World} {base g c:Nat} {t:List Nat} (h:OWNT w base g c t):HX.Text w (some ⟨g,0,none⟩) t.length t:=
  ⟨rfl,fun _=>⟨g,0,rfl,h.lt.2,fun i hi=>by
    rw [Nat.zero_add,h.1.cellAt i (by omega)]
    simp [HX.z00,HX.INTS,List.getD_eq_getElem?_getD,hi]⟩,h.2.1⟩
structure STEPM (b g:Nat) (w w':World):Prop where
  os:w'.os=w.os
  tape:w'.tape=w.tape
  output:w'.output=w.output
  size:w.heap.size≤w'.heap.size
  block:∀ k,k<w.heap.size→k≠b→k≠g→w'.heap[k]?=w.heap[k]?
theorem STEPM.refl (b g:Nat) (w:World):STEPM b g w w:=⟨rfl,rfl,rfl,Nat.le_refl _,fun _ _ _ _=>rfl⟩
theorem STEPM.trans {b g:Nat} {w w' w'':World} (h:STEPM b g w w') (k:STEPM b g w' w''):STEPM b g w w'':=⟨k.os.trans h.os,k.tape.trans h.tape,k.output.trans h.output,Nat.le_trans h.size k.size,fun i h1 h2 h3=>(k.block i (Nat.lt_of_lt_of_le h1 h.size) h2 h3).trans (h.block i h1 h2 h3)⟩
theorem STEPM.of_below {b g:Nat} {w w':World} (h:Below w.heap.size w w'):STEPM b g w w':=⟨h.os,h.tape,h.output,h.size,fun k h1 _ _=>h.block k h1⟩
theorem STEPM.below {b g base:Nat} {w w':World} (h:STEPM b g w w') (h0:base≤w.heap.size) (h1:base≤b) (h2:base≤g):Below base w w':=⟨h.os,h.tape,h.output,h.size,fun k hk=>h.block k (by omega) (by omega) (by omega)⟩
theorem STEPM.grown {b g:Nat} {w w':World} (h:w.grownBy w' (some g)):STEPM b g w w':=⟨h.os,h.tape,h.output,h.size,fun k h1 _ h3=>h.block k h1 (fun e=>h3 (by simpa using e))⟩
theorem STEPM.setRow {b g:Nat} (w:World) (cs:Array Value):STEPM b g w (w.setRow b cs):=⟨rfl,rfl,rfl,by simp,fun k _ h2 _=>setRow_other w b k cs h2⟩
def FST (d:Int) (T:List (List Nat)) (h:List Int):Option (List Nat):=T.reverse.find? fun s=>decide (HSHT d s=h)
def CLS (d:Int):List (List Nat)→Option (List Nat × List Nat)
  | []=>none
  | t :: T=>match FST d T (HSHT d t) with
    | none=>CLS d T
    | some s=>if s=t then CLS d T else some (s,t)
theorem z4Z (d:Int) (t:List Nat) (T:List (List Nat)) (h:List Int):FST d (t :: T) h=(FST d T h).or (if HSHT d t=h then some t else none):=by
  unfold FST
  rw [List.reverse_cons,List.find?_append]
  congr 1
  by_cases e:HSHT d t=h <;> simp [e]
theorem z6p {d:Int} {T:List (List Nat)} {h:List Int} {s:List Nat} (e:FST d T h=some s):s∈T∧HSHT d s=h:=by
  unfold FST at e
  exact ⟨List.mem_reverse.1 (List.mem_of_find?_eq_some e),by simpa using List.find?_some e⟩
theorem zfg {d:Int} {T:List (List Nat)} {h:List Int} (e:FST d T h=none):∀ s∈T,HSHT d s≠h:=fun s hs=>by
  unfold FST at e
  simpa using List.find?_eq_none.1 e s (List.mem_reverse.2 hs)
theorem z9m {d:Int}:∀ {T:List (List Nat)} {s t:List Nat},CLS d T=some (s,t)→s≠t∧HSHT d s=HSHT d t∧s∈T∧t∈T
  | [],s,t,e=>by simp [CLS] at e
  | x :: T,s,t,e=>by
    have rcc:CLS d T=some (s,t)→s≠t∧HSHT d s=HSHT d t∧s∈x :: T∧t∈x :: T:=fun e=>by
      obtain ⟨a,b,c1,c2⟩:=z9m e
      exact ⟨a,b,List.mem_cons_of_mem _ c1,List.mem_cons_of_mem _ c2⟩
    rw [CLS] at e
    cases hf:FST d T (HSHT d x) with
    | none=>rw [hf] at e;exact rcc e
    | some y=>
      rw [hf] at e
      dsimp only at e
      by_cases hy:y=x
      · rw [if_pos hy] at e;exact rcc e
      · rw [if_neg hy] at e
        simp only [Option.some.injEq,Prod.mk.injEq] at e
        obtain ⟨rfl,rfl⟩:=e
        exact ⟨hy,(z6p hf).2,List.mem_cons_of_mem _ (z6p hf).1,List.mem_cons_self ..⟩
theorem INJ.new {d:Int} {T:List (List Nat)} {t:List Nat} (h:INJ d T) (hn:∀ s∈T,HSHT d s≠HSHT d t):INJ d (t :: T):=by
  intro a ha b hb e
  rcases List.mem_cons.1 ha with ea | ha1
  · rcases List.mem_cons.1 hb with eb | hb1
    · rw [ea,eb]
    · rw [ea] at e
      exact absurd e.symm (hn b hb1)
  · rcases List.mem_cons.1 hb with eb | hb1
    · rw [eb] at e
      exact absurd e (hn a ha1)
    · exact h a ha1 b hb1 e
theorem INJ.again {d:Int} {T:List (List Nat)} {t:List Nat} (h:INJ d T) (ht:t∈T):INJ d (t :: T):=by
  have sub:∀ a∈t :: T,a∈T:=fun a ha=>by
    rcases List.mem_cons.1 ha with rfl | ha
    · exact ht
    · exact ha
  exact fun a ha b hb e=>h a (sub a ha) b (sub b hb) e
theorem z6q {d:Int}:∀ {T:List (List Nat)},CLS d T=none→INJ d T
  | [],_=>fun _ h=>by simp at h
  | x :: T,e=>by
    rw [CLS] at e
    cases hf:FST d T (HSHT d x) with
    | none=>rw [hf] at e;exact (z6q e).new (zfg hf)
    | some y=>
      rw [hf] at e
      dsimp only at e
      by_cases hy:y=x
      · rw [if_pos hy] at e;exact (z6q e).again (hy ▸ (z6p hf).1)
      · rw [if_neg hy] at e;cases e
def TOLD (w:World) (base top:Nat) (ok:Nat→Prop) (b g:Nat) (A B:Value) (s t:List Nat):Prop:=∃ gA cA gB cB,A=.slice (some ⟨gA,0,none⟩) s.length cA∧B=.slice (some ⟨gB,0,none⟩) t.length cB∧OWNT w base gA cA s∧OWNT w base gB cB t∧gA≠gB∧(gA<top∧ok gA)∧(gB<top∧ok gB)∧gA≠b∧gA≠g∧gB≠b∧gB≠g
theorem TOLD.at {w w':World} {base top b g:Nat} {ok:Nat→Prop} {A B:Value} {s t:List Nat} (h:TOLD w base top ok b g A B s t) {top':Nat} (ht:top≤top') (hk:∀ k,k<top→k≠b→k≠g→w'.heap[k]?=w.heap[k]?):TOLD w' base top' ok b g A B s t:=by
  obtain ⟨gA,cA,gB,cB,e1,e2,o1,o2,n1,l1,l2,m1,m2,m3,m4⟩:=h
  exact ⟨gA,cA,gB,cB,e1,e2,o1.at (hk _ l1.1 m1 m2),o2.at (hk _ l2.1 m3 m4),n1,⟨by omega,l1.2⟩,⟨by omega,l2.2⟩,m1,m2,m3,m4⟩
structure MET (w:World) (base top:Nat) (ok:Nat→Prop) (b g:Nat) (d:Int) (T:List (List Nat)):Prop where
  hb:base≤b∧b<top
  hg:base≤g∧g<top
  ne:b≠g
  htop:top≤w.heap.size
  blk:∃ a1 n1 c1 a2 n2 c2,Has w b #[.int .i64 d,.map (some g),.slice a1 n1 c1,.slice a2 n2 c2,.bool (CLS d T).isSome] 59∧∀ s t,CLS d T=some (s,t)→TOLD w base top ok b g (.slice a1 n1 c1) (.slice a2 n2 c2) s t
  map:∃ D:DataW Value,w.ownsMap Tryd.prog 26 RV g T.length D∧(∀ h,IsH h→FST d T h=none→Maps.has D (HKL h)=false)∧∀ h t,IsH h→FST d T h=some t→Maps.has D (HKL h)=true∧∃ gt c,D.atKey (HKL h) (.held (.slice none 0 0))=.held (.slice (some ⟨gt,0,none⟩) t.length c)∧OWNT w base gt c t∧(gt<top∧ok gt)∧gt≠b∧gt≠g
theorem OWNT.cells {w:World} {base g c:Nat} {t:List Nat} (h:OWNT w base g c t):∃ o:Obj,w.heap[g]?=some o∧o.isCells=true:=by
  rcases h.1.2 with ⟨e,_⟩ | ⟨g2,cap,cur,e,_,e3,_⟩
  · cases e
  · cases e;exact ⟨_,e3,rfl⟩
theorem MET.keepc {w w':World} {base top b g:Nat} {ok:Nat→Prop} {d:Int} {T:List (List Nat)} (h:MET w base top ok b g d T) (hk:∀ k,k<top→(k=b∨k=g∨ok k∧∃ o:Obj,w.heap[k]?=some o∧o.isCells=true)→w'.heap[k]?=w.heap[k]?) {top':Nat} (ht:top≤top') (hs:top'≤w'.heap.size):MET w' base top' ok b g d T:=by
  obtain ⟨a1,n1,c1,a2,n2,c2,h1,h2⟩:=h.blk
  obtain ⟨D,m1,m2,m3⟩:=h.map
  refine ⟨⟨h.hb.1,by have:=h.hb.2;omega⟩,⟨h.hg.1,by have:=h.hg.2;omega⟩,h.ne,hs,⟨a1,n1,c1,a2,n2,c2,(hk b h.hb.2 (.inl rfl)).trans h1,fun s t e=>?_⟩,D,?_,m2,fun x t hx e=>?_⟩
  · obtain ⟨gA,cA,gB,cB,e1,e2,o1,o2,n1,l1,l2,m1,m2,m3,m4⟩:=h2 s t e
    exact ⟨gA,cA,gB,cB,e1,e2,o1.at (hk _ l1.1 (.inr (.inr ⟨l1.2,o1.cells⟩))),o2.at (hk _ l2.1 (.inr (.inr ⟨l2.2,o2.cells⟩))),n1,⟨by omega,l1.2⟩,⟨by omega,l2.2⟩,m1,m2,m3,m4⟩
  · obtain ⟨es,clock,a1,r⟩:=m1
    exact ⟨es,clock,(hk g h.hg.2 (.inr (.inl rfl))).trans a1,r⟩
  · obtain ⟨a0,gt,c,a3,a4,a5,a6,a7⟩:=m3 x t hx e
    exact ⟨a0,gt,c,a3,a4.at (hk _ a5.1 (.inr (.inr ⟨a5.2,a4.cells⟩))),⟨by omega,a5.2⟩,a6,a7⟩
theorem MET.sub {w:World} {base top b g:Nat} {ok ok':Nat→Prop} {d:Int} {T:List (List Nat)} (h:MET w base top ok b g d T) (hk:∀ k,k<top→ok k→ok' k):MET w base top ok' b g d T:=by
  obtain ⟨a1,n1,c1,a2,n2,c2,h1,h2⟩:=h.blk
  obtain ⟨D,m1,m2,m3⟩:=h.map
  refine ⟨h.hb,h.hg,h.ne,h.htop,⟨a1,n1,c1,a2,n2,c2,h1,fun s t e=>?_⟩,D,m1,m2,fun x t hx e=>?_⟩
  · obtain ⟨gA,cA,gB,cB,e1,e2,o1,o2,n1,l1,l2,r⟩:=h2 s t e
    exact ⟨gA,cA,gB,cB,e1,e2,o1,o2,n1,⟨l1.1,hk _ l1.1 l1.2⟩,⟨l2.1,hk _ l2.1 l2.2⟩,r⟩
  · obtain ⟨a0,gt,c,a3,a4,a5,r⟩:=m3 x t hx e
    exact ⟨a0,gt,c,a3,a4,⟨a5.1,hk _ a5.1 a5.2⟩,r⟩
theorem MET.keep {w w':World} {base top b g:Nat} {ok:Nat→Prop} {d:Int} {T:List (List Nat)} (h:MET w base top ok b g d T) (hk:∀ k,k<top→w'.heap[k]?=w.heap[k]?) {top':Nat} (ht:top≤top') (hs:top'≤w'.heap.size):MET w' base top' ok b g d T:=h.keepc (fun k a _=>hk k a) ht hs
theorem MET.below {w w':World} {base top b g:Nat} {ok:Nat→Prop} {d:Int} {T:List (List Nat)} (h:MET w base top ok b g d T) (hb:Below w.heap.size w w'):MET w' base top ok b g d T:=h.keep (fun k hk=>hb.block k (Nat.lt_of_lt_of_le hk h.htop)) (Nat.le_refl _) (Nat.le_trans h.htop hb.size)
theorem zfh (w:World):(zeroValue 30).run Tryd.prog w=.ok (.slice none 0 0) w:=by kernel_rfl
theorem MET.look {w:World} {base top b g:Nat} {ok:Nat→Prop} {d:Int} {T:List (List Nat)} (h:MET w base top ok b g d T) {x:List Int} (hx:IsH x):
    (∃ gt c t,FST d T x=some t∧OWNT w base gt c t∧(gt<top∧ok gt)∧gt≠b∧gt≠g∧(Instr.lookup 57 (.map (some g)) (.agg (z00 x).toArray) true).run Tryd.prog w=.ok (.tuple #[.slice (some ⟨gt,0,none⟩) t.length c,.bool true]) w)∨
    (FST d T x=none∧∃ v,(Instr.lookup 57 (.map (some g)) (.agg (z00 x).toArray) true).run Tryd.prog w=.ok (.tuple #[v,.bool false]) w):=by
  obtain ⟨D,m1,m2,m3⟩:=h.map
  obtain ⟨v,ps,r1,r2⟩:=m1.look_ok lawH Tryd.underlying57 (zfh w) (show RV (.slice none 0 0)=some (.held (.slice none 0 0),[]) from rfl) (z3x hx)
  cases e:FST d T x with
  | some t=>
    obtain ⟨a0,gt,c,a3,a4,a5,a6,a7⟩:=m3 x t hx e
    refine .inl ⟨gt,c,t,rfl,a4,a5,a6,a7,?_⟩
    rw [a3] at r2
    simp only [RV,Option.some.injEq,Prod.mk.injEq,DataW.held.injEq] at r2
    rw [r1,a0,r2.1]
  | none=>
    refine .inr ⟨rfl,v,?_⟩
    rw [r1,m2 x hx e]
theorem MET.store {w:World} {base top b g:Nat} {ok:Nat→Prop} {d:Int} {T:List (List Nat)} (h:MET w base top ok b g d T) (hT:T.length≤100000) {gt c:Nat} {t:List Nat} (ht:OWNT w base gt c t) (htop:top≤gt) (hok:ok gt) (hn:FST d T (HSHT d t)=none) {top':Nat} (hgt':gt<top') (hs':top'≤w.heap.size):∃ w',(Instr.mapUpdate 57 (.map (some g)) (.agg (z00 (HSHT d t)).toArray) (.slice (some ⟨gt,0,none⟩) t.length c)).run Tryd.prog w=.ok () w'∧MET w' base top' ok b g d (t :: T)∧STEPM b g w w'∧∀ k,k<w.heap.size→k≠g→w'.heap[k]?=w.heap[k]?:=by
  obtain ⟨a1,n1,c1,a2,n2,c2,h1,h2⟩:=h.blk
  obtain ⟨D,m1,m2,m3⟩:=h.map
  obtain ⟨w',r1,r2,r3⟩:=m1.update lawH Tryd.underlying57 (by unfold maxLen;omega) (z3x (z3w d t)) (show RV (.slice (some ⟨gt,0,none⟩) t.length c)=some (.held (.slice (some ⟨gt,0,none⟩) t.length c),[]) from rfl)
  have hgt:=ht.lt
  have hk:∀ k,k<w.heap.size→k≠g→w'.heap[k]?=w.heap[k]?:=fun k hk hne=>r3.block k hk (fun e=>hne (by simpa using e))
  have hsz:=r3.size
  have htp:=h.htop
  have b1:=h.hb
  have g1:=h.hg
  have hkey:WideAt.IsKeyLit (HKL (HSHT d t)):=lawH.key (z3x (z3w d t))
  have ec:CLS d (t :: T)=CLS d T:=by rw [CLS,hn]
  refine ⟨w',r1,⟨⟨b1.1,by omega⟩,⟨g1.1,by omega⟩,h.ne,by omega,⟨a1,n1,c1,a2,n2,c2,by rw [ec];exact (hk b (by omega) h.ne).trans h1,fun s x e=>(h2 s x (by rw [← ec];exact e)).at (by omega) (fun k a1 _ a3=>hk k (by omega) a3)⟩,_,r2,fun x hx e=>?_,fun x s hx e=>?_⟩,STEPM.grown r3,hk⟩
  · rw [z4Z] at e
    simp only [Option.or_eq_none_iff] at e
    have e2:HKL x≠HKL (HSHT d t):=fun e2=>by
      have:=zb1 hx (z3w d t) e2
      rw [if_pos this.symm] at e
      cases e.2
    rw [Maps.has_put_other e2]
    exact m2 x hx e.1
  · by_cases e2:HKL x=HKL (HSHT d t)
    · have:=zb1 hx (z3w d t) e2
      subst this
      rw [z4Z,hn,if_pos rfl] at e
      simp only [Option.none_or,Option.some.injEq] at e
      subst e
      exact ⟨Maps.has_put_same m1.isMap hkey _,gt,c,Maps.atKey_put_same m1.isMap hkey _ _,ht.at (hk _ (by omega) (by omega)),⟨by omega,hok⟩,by omega,by omega⟩
    · rw [z4Z,if_neg (fun e3=>e2 (by rw [e3])),Option.or_none] at e
      obtain ⟨a0,gs,cs,a3,a4,a5,a6,a7⟩:=m3 x s hx e
      exact ⟨by rw [Maps.has_put_other e2];exact a0,gs,cs,by rw [Maps.atKey_put_other e2];exact a3,a4.at (hk _ (by omega) (by omega)),⟨by omega,a5.2⟩,a6,a7⟩
theorem z38 {d:Int} {T:List (List Nat)} {s t:List Nat} (hs:FST d T (HSHT d t)=some s) (x:List Int):FST d (t :: T) x=FST d T x:=by
  rw [z4Z]
  by_cases e:HSHT d t=x
  · rw [← e,hs];rfl
  · rw [if_neg e,Option.or_none]
theorem MET.again {w:World} {base top b g:Nat} {ok:Nat→Prop} {d:Int} {T:List (List Nat)} (h:MET w base top ok b g d T) {t:List Nat} (ht:FST d T (HSHT d t)=some t) {top':Nat} (ht':top≤top') (hs':top'≤w.heap.size):MET w base top' ok b g d (t :: T):=by
  have h:=h.keep (w':=w) (fun _ _=>rfl) ht' hs'
  obtain ⟨a1,n1,c1,a2,n2,c2,h1,h2⟩:=h.blk
  obtain ⟨D,m1,m2,m3⟩:=h.map
  have ec:CLS d (t :: T)=CLS d T:=by rw [CLS,ht];exact if_pos rfl
  refine ⟨h.hb,h.hg,h.ne,h.htop,⟨a1,n1,c1,a2,n2,c2,by rw [ec];exact h1,fun s x e=>h2 s x (by rw [← ec];exact e)⟩,D,m1.mono (by simp),fun x hx e=>?_,fun x s hx e=>?_⟩
  · rw [z38 ht] at e
    exact m2 x hx e
  · rw [z38 ht] at e
    exact m3 x s hx e
theorem MET.found {w:World} {base top b g:Nat} {ok:Nat→Prop} {d:Int} {T:List (List Nat)} (h:MET w base top ok b g d T) {gs cs gt ct:Nat} {s t:List Nat} (hs:OWNT w base gs cs s) (ht:OWNT w base gt ct t) (hst:s≠t) (he:FST d T (HSHT d t)=some s) (l1:gs<top∧ok gs) (n1:gs≠b) (n2:gs≠g) (l2:top≤gt) (hok:ok gt) {top':Nat} (hgt':gt<top') (hs':top'≤w.heap.size):MET (w.setRow b #[.int .i64 d,.map (some g),.slice (some ⟨gs,0,none⟩) s.length cs,.slice (some ⟨gt,0,none⟩) t.length ct,.bool true]) base top' ok b g d (t :: T):=by
  have htp:=h.htop
  have b1:=h.hb
  have g1:=h.hg
  have hgt:=ht.lt
  obtain ⟨_,_,_,_,_,_,h1, -⟩:=h.blk
  obtain ⟨D,m1,m2,m3⟩:=h.map
  have ec:CLS d (t :: T)=some (s,t):=by rw [CLS,he];exact if_neg hst
  have hk:∀ k,k≠b→(w.setRow b #[.int .i64 d,.map (some g),.slice (some ⟨gs,0,none⟩) s.length cs,.slice (some ⟨gt,0,none⟩) t.length ct,.bool true]).heap[k]?=w.heap[k]?:=fun k hne=>setRow_other w b k _ hne
  refine ⟨⟨b1.1,by omega⟩,⟨g1.1,by omega⟩,h.ne,by simpa using hs',⟨_,_,_,_,_,_,by rw [ec];exact Has.row h1 _,fun s' t' e=>?_⟩,D,?_,fun x hx e=>?_,fun x y hx e=>?_⟩
  · rw [ec] at e
    simp only [Option.some.injEq,Prod.mk.injEq] at e
    obtain ⟨rfl,rfl⟩:=e
    exact ⟨gs,cs,gt,ct,rfl,rfl,hs.at (hk _ n1),ht.at (hk _ (by omega)),by omega,⟨by omega,l1.2⟩,⟨by omega,hok⟩,n1,n2,by omega,by omega⟩
  · obtain ⟨es,clock,a1,a2,a3,r⟩:=m1
    exact ⟨es,clock,(hk g h.ne.symm).trans a1,a2,by simp;omega,r⟩
  · rw [z38 he] at e
    exact m2 x hx e
  · rw [z38 he] at e
    obtain ⟨a0,gx,cx,a3,a4,a5,a6,a7⟩:=m3 x y hx e
    exact ⟨a0,gx,cx,a3,a4.at (hk _ a6),⟨by omega,a5.2⟩,a6,a7⟩
end Go.Proofs.YtbmjoiiagldklaaDoor

namespace Go.Proofs.YtbmjoiiagldklaaDoor
open Go.RowKit
set_option maxRecDepth 100000
theorem z0V {ops:Array Oper} {o:Oper} {a:Act} {w w':World} {K:Act→World→Prop} {Q:Exit→Act→World→Prop} {E:Prop} {v:Value} (hw:Region.wanted o (yielded ops a.tmps)=true)
    (hrun:(execOp a.eval o).run Tryd.prog w=.ok (.value v) w') (h:K (a.put o.dst v) w'):if Region.wanted o (yielded ops a.tmps)=true then Oper.wp Tryd.prog o a w K Q else E:=by
  rw [if_pos hw]
  unfold Oper.wp
  rw [hrun]
  exact h
end Go.Proofs.YtbmjoiiagldklaaDoor
