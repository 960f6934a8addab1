/- Texts of SpanVerifies, one behind the other: SpanTexts, SpanMarks, SpanAwake, SpanPairs. -/
import Derived.Test.YthdpkaiieomdoaaGreatDoorSpanVerifiesP33
namespace Go.Proofs.YthdpkaiieomdoaaGreatDoor
open Go.RowKit
set_option maxRecDepth 100000
set_option maxHeartbeats 1000000 in
theorem z8l (a:Option Addr) (n c:Nat) (hn:n≤1000) (hc:a=none→c=0) (l:List Int) (w:World) (hF:Flat w a n l):Calls Tryz.prog 7 #[.slice a n c] w (zfD w n l):=by
  have HA:Aside (n≤1000∧(a=none→c=0)∧Flat w a n l):=⟨hn,hc,hF⟩
  clear hn hc hF
  go_enter Tryz.func7,Tryz.ntmps7
  go_wp2_with (first
    | (at_builtin;refine z5N _ rfl (.tmp 3) (.tmp 4) rfl w.heap.size (.slice (some ⟨w.heap.size,0,none⟩) 0 0) 0 [] rfl (z3c w) a n c l rfl (HA.out.2.2.below ((Below.refl _ _).alloc (Nat.le_refl _) _)) HA.out.2.1 (by have:=HA.out.1;omega) (by simp) ?_;rw [Nat.zero_add,List.nil_append];intro a1 c1 w1 hown1 hgrow1
       have R1:Aside (w1.ownsRow w.heap.size 23 32 (.slice a1 n c1) n (z00 l)∧Below w.heap.size w w1):=⟨hown1,((Below.refl _ w).alloc (Nat.le_refl _) _).grown hgrow1 (by simp) (fun k e=>by cases e;exact Nat.le_refl _)⟩
       clear hown1 hgrow1)
    | (rw [← z9B];refine z17 _ rfl 25 23 (.tmp 6) rfl (z00 MRK).toArray rfl 32 _ _ Tryz.underlying25 z16 (by rfl) rfl (by decide) (by decide) ?_)
    | (at_builtin;refine z2a _ rfl (.tmp 5) (.tmp 7) rfl w.heap.size (.slice a1 n c1) n (z00 l) rfl (R1.out.1.alloc _) w1.heap.size 1 MRK rfl rfl (Has.new _ _ _) (by have:=HA.out.1;omega) (by have:=R1.out.2.size;simp;omega) ?_;intro g2 c2 w2 hown2 hgrow2 hat2 hg2
       obtain ⟨f1,f2,f3,f4⟩:=z8K hown2 HA.out.2.2.1 rfl
       have hcap:(n:Int)≤(c2:Int):=by omega
       have R2:Aside (w2.ownsRow w.heap.size 23 32 (.slice (some ⟨g2,0,none⟩) n c2) n (z00 l)∧n+1≤c2∧w2.rangeAt g2 (n*32) (z00 MRK)∧g2<w2.heap.size∧Below w.heap.size w w2):=⟨f1,f2,f3,f4,(R1.out.2.alloc R1.out.2.size _).grown hgrow2 (by have:=R1.out.2.size;simp;omega) (fun k e=>(R1.out.1.lt k e).1)⟩
       clear hown2 hgrow2 hat2 hg2 f1 f2 f3 f4))
  go_ret
  exact ⟨_,_,rfl,R2.out⟩
set_option maxHeartbeats 1000000 in
theorem zch (a:Option Addr) (n c:Nat) (hn:n≤1000000) (hc:a=none→c=0) (l:List Int) (w:World) (hB:Bytes w a n l):Calls Tryz.prog 8 #[.slice a n c] w (zfc w n l):=by
  have HA:Aside (n≤1000000∧(a=none→c=0)∧Bytes w a n l):=⟨hn,hc,hB⟩
  clear hn hc hB
  go_enter Tryz.func8,Tryz.ntmps8
  go_wp2_with (at_builtin;first
    | (refine z3k _ rfl (.tmp 3) (.tmp 4) rfl w.heap.size (.slice (some ⟨w.heap.size,0,none⟩) 0 0) 0 [] rfl (z4b w _ (Nat.le_refl _)) a n c l rfl (HA.out.2.2.below ((Below.refl _ _).alloc (Nat.le_refl _) _)) HA.out.2.1 n l (Nat.zero_add n) rfl (by have:=HA.out.1;omega) (by simp) ?_;intro a1 c1 w1 hown1 hgrow1
       have R1:Aside (w1.ownsRow w.heap.size 5 1 (.slice a1 n c1) n (z00 l)∧Below w.heap.size w w1):=⟨hown1,((Below.refl _ w).alloc (Nat.le_refl _) _).grown hgrow1 (by simp) (fun k e=>by cases e;exact Nat.le_refl _)⟩
       clear hown1 hgrow1)
    | (refine z0D _ rfl (.tmp 5) (.tmp 6) rfl w.heap.size (.slice a1 n c1) n l rfl (R1.out.1.alloc _) w1.heap.size 0 1 1 [171] rfl (z1U w1 171 (by decide) (by decide)) (by decide) (by have:=HA.out.1;omega) (by have:=R1.out.2.size;simp;omega) ?_;intro g2 c2 w2 hown2 hgrow2 hg2
       obtain ⟨f1,f2,f3⟩:=zbG hown2 HA.out.2.2.1
       have hcap:(n:Int)≤(c2:Int):=by omega
       have R2:Aside (w2.ownsRow w.heap.size 5 1 (.slice (some ⟨g2,0,none⟩) n c2) n (z00 l)∧n+1≤c2∧w2.cell? ⟨g2,n,none⟩=some (.int .u8 171)∧g2<w2.heap.size∧Below w.heap.size w w2):=⟨f1,f2,f3,hg2,(R1.out.2.alloc R1.out.2.size _).grown hgrow2 (by have:=R1.out.2.size;simp;omega) (fun k e=>(R1.out.1.lt k e).1)⟩
       clear hown2 hgrow2 hg2 f1 f2 f3))
  go_ret
  exact ⟨_,_,rfl,R2.out⟩
set_option maxHeartbeats 1000000 in
theorem z6W (g n cap:Nat) (y:Option Addr) (cy:Nat) (l:List Int) (hn:n≤1000) (hc:n+1≤cap) (w:World) (hA:Flat w (some ⟨g,0,none⟩) n l) (hB:Flat w y n l) (hg:g<w.heap.size) (hm:w.rangeAt g (n*32) (z00 MRK)):
    Calls Tryz.prog 11 #[.slice (some ⟨g,0,none⟩) n cap,.slice y n cy] w fun e w'=>e=.returned (.bool true)∧Below w.heap.size w w':=by
  have cs:=z2v (some ⟨g,0,none⟩) y n n cap cy l l w hA hB (by omega)
  rw [decide_eq_true rfl] at cs
  have e1:wrap64 ((n:Int)+1)=((n+1:Nat):Int):=by unfold wrap64;omega
  have k0:((n+1:Nat):Int)≤(cap:Int):=by omega
  have k1:(n:Int)+1≤(cap:Int):=by omega
  have k2:(n:Int)<(n:Int)+1:=by omega
  have HM:Aside (g<w.heap.size∧w.rangeAt g (n*32) (z00 MRK)):=⟨hg,hm⟩
  have hnq:∀ x y (W:World),(do eqGuard .eql 23 x y (.agg (z00 MRK).toArray) (.agg (z00 MRK).toArray);binOp .eql 23 (.agg (z00 MRK).toArray) (.agg (z00 MRK).toArray):Sem Value).run Tryz.prog W=.ok (.bool true) W:=fun x y W=>by
    have:=zad (h:=MRK) (g:=MRK) rfl rfl x y W
    rw [this]
    simp
  clear hn hA hB hg hm
  go_enter Tryz.func11,Tryz.ntmps11
  go_wp2_with fail
  refine cs.mono ?_
  rintro e w1 ⟨rfl,hb1⟩
  have hr1:w1.rangeAt g (n*32) (z00 MRK):=z2j HM.out.2 hb1 HM.out.1
  have FN:Aside (Below w.heap.size w w1):=hb1
  clear cs hb1 HM
  go_wp2_with (first
    | (refine z9c (by rfl) 23 (.tmp 16) rfl g (n*32) rfl (z00 MRK) _ hr1 Tryz.underlying23 rfl (z0j rfl) ?_)
    | (rw [← z9B];refine zdL (by rfl) (z1z (hnq _ _ _)) ?_))
  go_ret
  exact ⟨rfl,FN.out⟩
set_option maxHeartbeats 1000000 in
theorem zaW (g n cap:Nat) (y:Option Addr) (cy:Nat) (l:List Int) (hn:n≤100000) (hc:n+1≤cap) (w:World) (hA:Bytes w (some ⟨g,0,none⟩) n l) (hB:Bytes w y n l) (hg:g<w.heap.size) (hm:w.cell? ⟨g,n,none⟩=some (.int .u8 171)):
    Calls Tryz.prog 12 #[.slice (some ⟨g,0,none⟩) n cap,.slice y n cy] w fun e w'=>e=.returned (.bool true)∧Below w.heap.size w w':=by
  have cs:=z4h (some ⟨g,0,none⟩) y n n cap cy l l w hA hB (by omega)
  rw [decide_eq_true rfl] at cs
  have e1:wrap64 ((n:Int)+1)=((n+1:Nat):Int):=by unfold wrap64;omega
  have k1:(n:Int)+1≤(cap:Int):=by omega
  have k2:(n:Int)<(n:Int)+1:=by omega
  have HM:Aside (g<w.heap.size∧w.cell? ⟨g,n,none⟩=some (.int .u8 171)):=⟨hg,hm⟩
  clear hn hA hB hg hm
  go_enter Tryz.func12,Tryz.ntmps12
  go_wp2_with fail
  refine cs.mono ?_
  rintro e w1 ⟨rfl,hb1⟩
  have x0:w1.cell? ⟨g,n,none⟩=some (.int .u8 171):=(hb1.cell (p:=⟨g,n,none⟩) HM.out.1).trans HM.out.2
  have FN:Aside (Below w.heap.size w w1):=hb1
  clear cs hb1 HM
  go_wp2_with fail
  go_ret
  exact ⟨rfl,FN.out⟩
end Go.Proofs.YthdpkaiieomdoaaGreatDoor

namespace Go.Proofs.YthdpkaiieomdoaaGreatDoor
open Go.RowKit
set_option maxRecDepth 100000
set_option maxHeartbeats 2000000 in
theorem z6X (B:Nat) (v:Value) (n:Nat) (xs:List Value) (m:Int) (hn:n≤900) (w:World) (hB:B≤w.heap.size) (h:w.ownsRow B 23 32 v n xs):Calls Tryz.prog 16 #[v,.int .u8 m] w fun e w'=>
    ∃ g cap,e=.returned (.slice (some ⟨g,0,none⟩) (n+1+1) cap)∧w'.ownsRow B 23 32 (.slice (some ⟨g,0,none⟩) (n+1+1) cap) (n+1+1) (z00 (MKS m (n+1+1)))∧w.grownBy w' v.ownBlock∧(v.ownBlock=some g∨w.heap.size≤g):=by
  obtain ⟨a,c,rfl,hc,ha⟩:=z3H h
  have hxs:xs.length=32*n:=by have:=h.1;omega
  have HA:Aside (n≤900∧xs.length=32*n∧w.ownsRow B 23 32 (.slice a n c) n xs∧(0<n→∃ g,a=some ⟨g,0,none⟩)∧B≤w.heap.size):=⟨hn,hxs,h,ha,hB⟩
  clear h ha hxs hn hB hc
  go_enter Tryz.func16,Tryz.ntmps16
  go_wp2
  go_loopg [5] n (fun q s5 wx=>∃ j:Nat,s5=.int .i64 (j:Int)∧Aside (j+q=n∧wx.ownsRow B 23 32 (.slice a n c) n (MKP xs m j)∧w.grownBy wx (Value.slice a n c).ownBlock))
  case atStart=>exact ⟨0,rfl,by omega,by rw [zdn];exact HA.out.2.2.1,z1F _ _⟩
  case round=>
    obtain ⟨j,rfl,A⟩:=hrel
    cases gk with
    | zero =>
      obtain rfl:j=n:=by have:=A.out.1;omega
      have hlt:¬ (j:Int)<(j:Int):=by omega
      have R:Aside (wr.ownsRow B 23 32 (.slice a j c) j (z00 (MKS m j))∧w.grownBy wr (Value.slice a j c).ownBlock∧j≤900∧B≤wr.heap.size∧w.heap.size≤wr.heap.size):=by
        obtain ⟨_,h1,h2⟩:=A.out
        obtain ⟨a1,a2,a3,a4,a5⟩:=HA.out
        rw [zeB a2] at h1
        have hs:=z2z h2
        exact ⟨h1,h2,a1,Nat.le_trans a5 hs,hs⟩
      clear A HA
      go_wp2_with (first
        | (rw [← z5R];refine z17 _ rfl 25 23 (.tmp 19) rfl (z00 (MK m)).toArray rfl 32 _ _ Tryz.underlying25 z16 (by rfl) rfl (by decide) (by decide) ?_)
        | (at_builtin;refine z2a _ rfl (.tmp 17) (.tmp 20) rfl B _ j (z00 (MKS m j)) rfl (R.out.1.alloc _) wr.heap.size 1 (MK m) rfl rfl (Has.new _ _ _) (by have:=R.out.2.2.1;omega) (by have:=R.out.2.2.2.1;simp;omega) ?_;intro g1 q1 w1 hown1 hgrow1 hat1 hg1
           have S:Aside (w1.ownsRow B 23 32 (.slice (some ⟨g1,0,none⟩) (j+1) q1) (j+1) (z00 (MKS m (j+1)))∧w.grownBy w1 (Value.slice a j c).ownBlock∧((Value.slice a j c).ownBlock=some g1∨w.heap.size≤g1)∧B≤w1.heap.size∧w.heap.size≤w1.heap.size):=⟨by rw [MKS,z0m];exact hown1,z1s (z1s R.out.2.1 (z4R _ _ _) (.inl rfl)) hgrow1 (.inl rfl),hat1.imp id fun e=>by have:=R.out.2.2.2.2;rw [e];simp;omega,by have h1:=z2z hgrow1;have h2:=R.out.2.2.2.1;simp at h1;omega,by have h1:=z2z hgrow1;have h2:=R.out.2.2.2.2;simp at h1;omega⟩
           clear hown1 hgrow1 hat1 hg1)
        | (rw [← z5R];refine z17 _ rfl 25 23 (.tmp 23) rfl (z00 (MK m)).toArray rfl 32 _ _ Tryz.underlying25 z16 (by rfl) rfl (by decide) (by decide) ?_)
        | (at_builtin;refine z2a _ rfl (.tmp 21) (.tmp 24) rfl B _ (j+1) _ rfl (S.out.1.alloc _) w1.heap.size 1 (MK m) rfl rfl (Has.new _ _ _) (by have:=R.out.2.2.1;omega) (by have h1:=S.out.2.2.2.1;simp;omega) ?_;intro g2 q2 w2 hown2 hgrow2 hat2 hg2))
      have S2:Aside (w2.ownsRow B 23 32 (.slice (some ⟨g2,0,none⟩) (j+1+1) q2) (j+1+1) (z00 (MKS m (j+1+1)))∧w.grownBy w2 (Value.slice a j c).ownBlock∧((Value.slice a j c).ownBlock=some g2∨w.heap.size≤g2)):=by
        obtain ⟨s1,s2,s3,s4,s5⟩:=S.out
        refine ⟨?_,z1s (z1s s2 (z4R _ _ _) (.inl rfl)) hgrow2 ?_,?_⟩
        · rw [show MKS m (j+1+1)=MKS m (j+1) ++ MK m from rfl,z0m]
          exact hown2
        · rcases s3 with s3 | s3
          · exact .inl s3.symm
          · exact .inr fun g e=>by cases e;exact s3
        · rcases hat2 with e | e
          · cases e
            exact s3
          · exact .inr (by rw [e];simp;omega)
      clear hown2 hgrow2 hat2 hg2 S R
      go_wp2
      go_ret
      exact ⟨_,_,rfl,S2.out⟩
    | succ q=>
      obtain ⟨hj,hown,hgr⟩:=A.out
      obtain ⟨a1,a2,a3,a4,a5⟩:=HA.out
      have hlt:(j:Int)<(n:Int):=by omega
      obtain ⟨g,rfl⟩:=a4 (by omega)
      have hth:wr.there g (j*32) (z00 (MK m)).toArray.size:=fun i hi=>by
        have hi:i<32:=hi
        refine ⟨?_,hown.frozenAt _⟩
        rw [hown.cellAt (j*32+i) (by omega),List.getElem?_eq_getElem (by rw [z5S a2 (by omega)];omega)]
        rfl
      have hst:=z86 (z00 (MK m)) _ (j*32) wr hown
      rw [zdo a2 (by omega)] at hst
      have R:Aside (j+1+q=n∧(wr.setCells g (j*32) (z00 (MK m)).toArray.toList).ownsRow B 23 32 (.slice (some ⟨g,0,none⟩) n c) n (MKP xs m (j+1))∧w.grownBy (wr.setCells g (j*32) (z00 (MK m)).toArray.toList) (Value.slice (some ⟨g,0,none⟩) n c).ownBlock):=⟨by omega,hst.1,z1s hgr hst.2 (.inl rfl)⟩
      have E1:Aside (wrap64 ((j:Int)+1)=((j+1:Nat):Int)):=by show wrap64 ((j:Int)+1)=((j+1:Nat):Int);unfold wrap64;omega
      clear hj hown hgr a1 a2 a3 a4 a5 hst A HA
      go_wp2_with (first
        | (rw [← z5R];refine wpList_store_mid rfl 23 (.tmp 16) (.tmp 15) rfl g (j*32) (z00 (MK m)).toArray rfl rfl hth (z03 (z2q m)) (z0i (MK m)) ?_))
      generalize wr.setCells g (j*32) (z00 (MK m)).toArray.toList=w2 at *
      have e1:=E1.out
      go_wp2
      go_roundg q
      case measure=>exact Nat.lt_succ_self _
      case rel=>exact ⟨j+1,by first | rfl | (rw [E1.out]),R.out⟩
set_option maxHeartbeats 1000000 in
theorem z8m (B g n c:Nat) (m:Int) (hn:n≤1000000) (w:World) (h:w.ownsRow B 23 32 (.slice (some ⟨g,0,none⟩) n c) n (z00 (MKS m n))):Calls Tryz.prog 17 #[.slice (some ⟨g,0,none⟩) n c,.int .u8 m] w fun e w'=>e=.returned (.bool true)∧w=w':=by
  have HA:Aside (n≤1000000∧w.ownsRow B 23 32 (.slice (some ⟨g,0,none⟩) n c) n (z00 (MKS m n))):=⟨hn,h⟩
  clear hn h
  go_enter Tryz.func17,Tryz.ntmps17
  go_wp2
  go_loopg [5] n (fun q s5 wx=>∃ j:Nat,s5=.int .i64 (j:Int)∧Aside (j+q=n)∧wx=w)
  case atStart=>exact ⟨0,rfl,by show 0+n=n;omega,rfl⟩
  case round=>
    obtain ⟨j,rfl,A,rfl⟩:=hrel
    cases gk with
    | zero=>
      obtain rfl:j=n:=by have:=A.out;omega
      have hlt:¬ (j:Int)<(j:Int):=by omega
      clear A HA
      go_wp2
      go_ret
      exact ⟨rfl,rfl⟩
    | succ q=>
      have hj:j+1+q=n:=by have:=A.out;omega
      have hlt:(j:Int)<(n:Int):=by omega
      have hat:wr.rangeAt g (j*32) (z00 (MK m)):=fun i v hv=>by
        have hi:i<32:=(List.getElem?_eq_some_iff.1 hv).1
        have:=HA.out.2.cellAt (j*32+i) (by omega)
        rw [this,z0k _ _ (by rw [z1J];omega),show j*32+i=32*j+i by omega,← z5E hi,zfl m (by omega),← hv,z0k _ _ (by rw [z2q];exact hi)]
      have R:Aside (j+1+q=n):=hj
      have E1:Aside (wrap64 ((j:Int)+1)=((j+1:Nat):Int)):=by have:=HA.out.1;show wrap64 ((j:Int)+1)=((j+1:Nat):Int);unfold wrap64;omega
      have hnq:∀ x y (W:World),(do eqGuard .neq 23 x y (.agg (z00 (MK m)).toArray) (.agg (z00 (MK m)).toArray);binOp .neq 23 (.agg (z00 (MK m)).toArray) (.agg (z00 (MK m)).toArray):Sem Value).run Tryz.prog W=.ok (.bool false) W:=fun x y W=>zbq (MK m) (z2q m) x y W
      clear hj A HA
      go_wp2_with (first
        | (refine wpList_load_mid rfl 23 (.tmp 14) rfl g (j*32) rfl (z00 (MK m)) _ hat Tryz.underlying23 rfl (z0j (z2q m)) ?_)
        | (rw [← z5R];refine wpList_plain rfl (fun K hK=>z6J (z1z (hnq _ _ _)) (hK _ _ ?_))))
      have e1:=E1.out
      go_wp2
      go_roundg q
      case measure=>exact Nat.lt_succ_self _
      case rel=>exact ⟨j+1,by first | rfl | (rw [E1.out]),R,rfl⟩
end Go.Proofs.YthdpkaiieomdoaaGreatDoor

namespace Go.Proofs.YthdpkaiieomdoaaGreatDoor
open Go.RowKit
set_option maxRecDepth 100000
def HSV:List Int:=7 :: List.replicate 31 0
theorem zeT:(z00 HSV).toArray=#[.int .u8 7,.int .u8 0,.int .u8 0,.int .u8 0,.int .u8 0,.int .u8 0,.int .u8 0,.int .u8 0,.int .u8 0,.int .u8 0,.int .u8 0,.int .u8 0,.int .u8 0,.int .u8 0,.int .u8 0,.int .u8 0,.int .u8 0,.int .u8 0,.int .u8 0,.int .u8 0,.int .u8 0,.int .u8 0,.int .u8 0,.int .u8 0,.int .u8 0,.int .u8 0,.int .u8 0,.int .u8 0,.int .u8 0,.int .u8 0,.int .u8 0,.int .u8 0]:=rfl
theorem zci:SPA 1 3 7=[0,4,9,10]:=by decide +kernel
theorem zcj:SPE 1 3 7=0:=by decide +kernel
theorem zaX:SENC 3 0 2 1 HSV=(0,83 :: 3 :: 0 :: 2 :: HSV):=by decide +kernel
theorem z60 {w:World} {B s n c:Nat} {t:TypeId} {a:Option Addr} {xs:List Value} (h:w.ownsRow B t s (.slice a n c) n xs) (hn:0<n):∃ g,a=some ⟨g,0,none⟩:=by
  rcases h.2 with ⟨e,h0⟩ | ⟨g,cap,cur,e,_⟩
  · omega
  · simp only [Value.slice.injEq] at e
    exact ⟨g,e.1⟩
theorem z8n (w:World):Flat (w.alloc (.cells (z00 HSV).toArray 23)) (some ⟨w.heap.size,0,none⟩) 1 HSV:=by
  refine ⟨rfl,fun _=>⟨w.heap.size,0,rfl,by simp,fun j hj=>?_⟩,by decide⟩
  rw [(Has.new w (z00 HSV).toArray 23).cell (0+j),Nat.zero_add,List.getElem?_toArray]
  exact z0k HSV j hj
set_option maxHeartbeats 2000000 in
theorem zaY (w:World) (hT:Tabled w) (h0:0<w.heap.size):Calls Tryz.prog 18 #[] w fun e w'=>e=.returned (.bool true)∧Below w.heap.size w w':=by
  have cp:=z2w 1 3 7 w hT h0
  rw [zci,zcj] at cp
  have B1:Aside (Tabled w∧0<w.heap.size):=⟨hT,h0⟩
  clear hT h0
  go_enter Tryz.func18,Tryz.ntmps18
  go_wp2_with fail
  refine cp.mono ?_
  rintro e w2 ⟨a2,c2,rfl,hown2,hb2⟩
  clear cp
  have R2:Aside (w2.ownsRow w.heap.size 24 1 (.slice a2 4 c2) 4 (z0h [0,4,9,10])∧Below w.heap.size w w2):=⟨hown2,hb2⟩
  clear hown2 hb2
  obtain ⟨w4,e4⟩:∃ w4,w2.alloc (.cells (z00 HSV).toArray 23)=w4:=⟨_,rfl⟩
  have hb4:Below w2.heap.size w2 w4:=by rw [← e4];exact (Below.refl _ _).alloc (Nat.le_refl _) _
  have hbw4:Below w.heap.size w w4:=R2.out.2.trans (hb4.mono R2.out.2.size)
  have hF4:Flat w4 (some ⟨w2.heap.size,0,none⟩) 1 HSV:=by rw [← e4];exact z8n w2
  have ce:=z74 3 0 2 (some ⟨w2.heap.size,0,none⟩) 1 1 HSV w4 (by decide) hF4 (B1.out.1.below B1.out.2 hbw4) (by have:=B1.out.2;have:=hbw4.size;omega)
  rw [zaX] at ce
  rw [zeT] at e4
  have hM:RBOX 3 0 2 (some ⟨w2.heap.size,0,none⟩) 1 1=#[.int .u64 3,.int .u64 0,.int .u64 2,.slice (some ⟨w2.heap.size,0,none⟩) 1 1]:=rfl
  rw [hM] at ce
  have R4:Aside (w4.ownsRow w.heap.size 24 1 (.slice a2 4 c2) 4 (z0h [0,4,9,10])∧Below w.heap.size w w4):=⟨z0v R2.out.1 hb4,hbw4⟩
  clear hM hb4 hbw4 hF4 R2 B1
  go_wp2_with fail
  refine ce.mono ?_
  rintro e w5 ⟨a5,c5,rfl,hown5,hb5⟩
  clear ce e4
  have o2:=z0v R4.out.1 hb5
  obtain ⟨g2,rfl⟩:=z60 o2 (by decide)
  obtain ⟨g5,rfl⟩:=z60 hown5 (by decide)
  have y0:w5.cell? ⟨g2,0,none⟩=some (.int .u64 0):=o2.cellAt 0 (by decide)
  have y1:w5.cell? ⟨g2,1,none⟩=some (.int .u64 4):=o2.cellAt 1 (by decide)
  have y2:w5.cell? ⟨g2,2,none⟩=some (.int .u64 9):=o2.cellAt 2 (by decide)
  have z0:w5.cell? ⟨g5,0,none⟩=some (.int .u8 83):=hown5.cellAt 0 (by decide)
  have z3:w5.cell? ⟨g5,3,none⟩=some (.int .u8 2):=hown5.cellAt 3 (by decide)
  have z4:w5.cell? ⟨g5,4,none⟩=some (.int .u8 7):=hown5.cellAt 4 (by decide)
  have FN:Aside (Below w.heap.size w w5):=R4.out.2.trans (hb5.mono R4.out.2.size)
  have hlen:(83 :: 3 :: 0 :: 2 :: HSV).length=36:=rfl
  rw [hlen]
  clear o2 hown5 hb5 R4
  go_wp2_with fail
  go_ret
  exact ⟨rfl,FN.out⟩
end Go.Proofs.YthdpkaiieomdoaaGreatDoor

namespace Go.Proofs.YthdpkaiieomdoaaGreatDoor
open Go.RowKit
set_option maxRecDepth 100000
structure DPAIR (t:TypeId) (z:Nat) (w0 w:World) (B:Nat) (a:Value) (na:Nat) (xa:List Value) (b:Value) (nb:Nat) (xb:List Value):Prop where
  ra:w.ownsRow B t z a na xa
  rb:w.ownsRow B t z b nb xb
  ap:∀ g,a.ownBlock=some g→b.ownBlock≠some g
  bl:Below B w0 w
  bs:B≤w0.heap.size
section
variable {t:TypeId} {z:Nat} {w0 w:World} {B:Nat} {a:Value} {na:Nat} {xa:List Value} {b:Value} {nb:Nat} {xb:List Value}
theorem DPAIR.step {w':World} (h:DPAIR t z w0 w B a na xa b nb xb) {a':Value} {na':Nat} {xa':List Value} (hown:w'.ownsRow B t z a' na' xa') (hg:w.grownBy w' a.ownBlock) (hat:∀ g,a'.ownBlock=some g→a.ownBlock=some g∨w.heap.size≤g):DPAIR t z w0 w' B a' na' xa' b nb xb:=by
  refine ⟨hown,z4L h.rb hg h.ap,fun g e1 e2=>?_,h.bl.grown hg (Nat.le_trans h.bs h.bl.size) (fun k e=>(h.ra.lt k e).1),h.bs⟩
  rcases hat g e1 with h1 | h1
  · exact h.ap g h1 e2
  · have:=(h.rb.lt g e2).2
    omega
theorem DPAIR.alloc (h:DPAIR t z w0 w B a na xa b nb xb) (o:Obj):DPAIR t z w0 (w.alloc o) B a na xa b nb xb:=⟨z1a h.ra o,z1a h.rb o,h.ap,h.bl.alloc (Nat.le_trans h.bs h.bl.size) o,h.bs⟩
end
end Go.Proofs.YthdpkaiieomdoaaGreatDoor
