/- Texts of SpanVerifies, one behind the other: HashRefTexts, HashSumTexts, VerifyRefBag, ManySearch, ManyPlain, ProofSlices. -/
import Derived.Deep.RegionHeldLaw
import Derived.Deep.RegionHeld3
import Derived.Test.YthdpkaiieomdoaaGreatDoorSpanVerifiesP16
namespace Go.Proofs.YthdpkaiieomdoaaGreatDoor.HX
open Go.RowKit
set_option maxRecDepth 100000
theorem zdj (w:World) (x:Nat) (base:Nat) (hb:base≤w.heap.size):(w.alloc (.cells #[.int .u8 (x:Int)] 5)).ownsRow base 5 1 (.slice (some ⟨w.heap.size,0,none⟩) 1 1) 1 (z00 (INTS [x])):=
  ⟨rfl,.inr ⟨w.heap.size,1,#[.int .u8 (x:Int)],rfl,hb,by first | exact (Has.new w _ _) | exact (Has.new w _ _).1 | simp,by decide,by decide,rfl,rfl⟩⟩
theorem z5n {w w1:World} {x:Nat} {ba bb m1 m2:Nat} {l1 l2:List Nat} (hb:Below w.heap.size w w1) (h1:Text w1 (some ⟨ba,0,none⟩) m1 l1) (h2:Text w1 (some ⟨bb,0,none⟩) m2 l2):
    Aside (Bytes (w1.alloc (.cells #[.int .u8 (x:Int)] 5)) (some ⟨ba,0,none⟩) m1 (INTS l1)∧(w1.alloc (.cells #[.int .u8 (x:Int)] 5)).ownsRow w.heap.size 5 1 (.slice (some ⟨w1.heap.size,0,none⟩) 1 1) 1 (z00 (INTS [x]))∧w.heap.size≤w1.heap.size∧
      (∀ w',(w1.alloc (.cells #[.int .u8 (x:Int)] 5)).grownBy w' (some w1.heap.size)→Bytes w' (some ⟨bb,0,none⟩) m2 (INTS l2)∧w.heap.size≤w'.heap.size∧Below w.heap.size w w'∧w1.heap.size<w'.heap.size)):=by
  refine ⟨(h1.below ((Below.refl _ _).alloc (Nat.le_refl _) _)).bytes,zdj w1 x _ hb.size,hb.size,fun w' hg=>?_⟩
  have hb':Below w1.heap.size w1 w':=((Below.refl _ _).alloc (Nat.le_refl _) _).grown hg (by simp) (fun k e=>by cases e;exact Nat.le_refl _)
  have hs:=hg.size
  simp at hs
  exact ⟨(h2.below hb').bytes,Nat.le_trans hb.size hb'.size,hb.trans (hb'.mono hb.size),by omega⟩
theorem z6f (l r:Nat→Nat) (hl:∀ i,l i<256) (hr:∀ i,r i<256) (w:World):Calls Tryz.prog 118 #[.agg (UARR .u8 32 l),.agg (UARR .u8 32 r)] w fun e w'=>
    ∃ a' c',e=.returned (.slice a' 65 c')∧w'.ownsRow w.heap.size 5 1 (.slice a' 65 c') 65 (z00 (INTS (1 :: ((List.range 32).map l ++ (List.range 32).map r))))∧Below w.heap.size w w':=by
  have hs32:=z1u
  obtain ⟨w1,hw1⟩:∃ w1,w1=(w.alloc (.cells (UARR .u8 32 l) 23)).alloc (.cells (UARR .u8 32 r) 23):=⟨_,rfl⟩
  have U:Below w.heap.size w w1∧Has w1 w.heap.size (UARR .u8 32 l) 23∧Has w1 (w.heap.size+1) (UARR .u8 32 r) 23:=by
    rw [hw1]
    exact ⟨((Below.refl _ _).alloc (Nat.le_refl _) _).alloc (by simp) _,(Has.new w _ _).alloc _,Has.at _ _ _ (by simp)⟩
  have T1:=z5n (x:=1) U.1.drew (Has.text (w:=w1.drew) U.2.1 hl) (Has.text (w:=w1.drew) U.2.2 hr)
  clear U hl hr
  go_enter Tryz.func118,Tryz.ntmps118
  go_wp2_with fail
  rw [← hw1]
  clear hw1
  generalize hh:w.heap.size+1=h at *
  clear hh
  go_region_held_law (fun _=>True) (trivial) (first
    | (refine z2I _ (by rfl) (.tmp 5) (.tmp 6) (by rfl) w.heap.size _ 1 (INTS [1]) (by rfl) T1.out.2.1 w.heap.size 0 32 32 (INTS ((List.range 32).map l)) (by rfl) T1.out.1 (by decide) (by decide) (by have:=T1.out.2.2.1;simp at this ⊢;omega) 33 rfl ?_;intro g5 c5 w5 hown5 hgrow5 hat5 hlt5)
    | (refine z2I _ (by rfl) (.tmp 7) (.tmp 8) (by rfl) w.heap.size _ 33 _ (by rfl) hown5 h 0 32 32 (INTS ((List.range 32).map r)) (by rfl) (T1.out.2.2.2 _ hgrow5).1 (by decide) (by decide) (T1.out.2.2.2 _ hgrow5).2.1 65 rfl ?_;intro g6 c6 w6 hown6 hgrow6 hat6 hlt6))
  have S:Aside (w6.ownsRow w.heap.size 5 1 (.slice (some ⟨g6,0,none⟩) 65 c6) 65 (z00 (INTS (1 :: ((List.range 32).map l ++ (List.range 32).map r))))∧Below w.heap.size w w6):=by
    have hb5:=(T1.out.2.2.2 _ hgrow5).2.2.1
    refine ⟨?_,hb5.grown hgrow6 hb5.size (fun k e=>(hown5.lt k e).1)⟩
    have e:INTS [1] ++ INTS ((List.range 32).map l) ++ INTS ((List.range 32).map r)=INTS (1 :: ((List.range 32).map l ++ (List.range 32).map r)):=by simp [INTS]
    rw [e] at hown6
    exact hown6
  clear hown5 hgrow5 hat5 hlt5 hown6 hgrow6 hat6 hlt6 T1
  go_simp
  go_wp2
  go_ret
  exact ⟨_,_,rfl,S.out.1,S.out.2⟩
theorem z6g (l r:Nat→Nat) (hl:∀ i,l i<256) (hr:∀ i,r i<256) (w:World):Calls Tryz.prog 115 #[.agg (UARR .u8 32 l),.agg (UARR .u8 32 r)] w fun e w'=>
    ∃ a' c',e=.returned (.slice a' 65 c')∧w'.ownsRow w.heap.size 5 1 (.slice a' 65 c') 65 (z00 (INTS (2 :: ((List.range 32).map l ++ (List.range 32).map r))))∧Below w.heap.size w w':=by
  have hs32:=z1u
  obtain ⟨w1,hw1⟩:∃ w1,w1=(w.alloc (.cells (UARR .u8 32 l) 23)).alloc (.cells (UARR .u8 32 r) 23):=⟨_,rfl⟩
  have U:Below w.heap.size w w1∧Has w1 w.heap.size (UARR .u8 32 l) 23∧Has w1 (w.heap.size+1) (UARR .u8 32 r) 23:=by
    rw [hw1]
    exact ⟨((Below.refl _ _).alloc (Nat.le_refl _) _).alloc (by simp) _,(Has.new w _ _).alloc _,Has.at _ _ _ (by simp)⟩
  have T1:=z5n (x:=2) U.1.drew (Has.text (w:=w1.drew) U.2.1 hl) (Has.text (w:=w1.drew) U.2.2 hr)
  clear U hl hr
  go_enter Tryz.func115,Tryz.ntmps115
  go_wp2_with fail
  rw [← hw1]
  clear hw1
  generalize hh:w.heap.size+1=h at *
  clear hh
  go_region_held_law (fun _=>True) (trivial) (first
    | (refine z2I _ (by rfl) (.tmp 5) (.tmp 6) (by rfl) w.heap.size _ 1 (INTS [2]) (by rfl) T1.out.2.1 w.heap.size 0 32 32 (INTS ((List.range 32).map l)) (by rfl) T1.out.1 (by decide) (by decide) (by have:=T1.out.2.2.1;simp at this ⊢;omega) 33 rfl ?_;intro g5 c5 w5 hown5 hgrow5 hat5 hlt5)
    | (refine z2I _ (by rfl) (.tmp 7) (.tmp 8) (by rfl) w.heap.size _ 33 _ (by rfl) hown5 h 0 32 32 (INTS ((List.range 32).map r)) (by rfl) (T1.out.2.2.2 _ hgrow5).1 (by decide) (by decide) (T1.out.2.2.2 _ hgrow5).2.1 65 rfl ?_;intro g6 c6 w6 hown6 hgrow6 hat6 hlt6))
  have S:Aside (w6.ownsRow w.heap.size 5 1 (.slice (some ⟨g6,0,none⟩) 65 c6) 65 (z00 (INTS (2 :: ((List.range 32).map l ++ (List.range 32).map r))))∧Below w.heap.size w w6):=by
    have hb5:=(T1.out.2.2.2 _ hgrow5).2.2.1
    refine ⟨?_,hb5.grown hgrow6 hb5.size (fun k e=>(hown5.lt k e).1)⟩
    have e:INTS [2] ++ INTS ((List.range 32).map l) ++ INTS ((List.range 32).map r)=INTS (2 :: ((List.range 32).map l ++ (List.range 32).map r)):=by simp [INTS]
    rw [e] at hown6
    exact hown6
  clear hown5 hgrow5 hat5 hlt5 hown6 hgrow6 hat6 hlt6 T1
  go_simp
  go_wp2
  go_ret
  exact ⟨_,_,rfl,S.out.1,S.out.2⟩
theorem z6h (n:Nat) (hn:n<2 ^ 64) (r:Nat→Nat) (hr:∀ i,r i<256) (w:World):Calls Tryz.prog 114 #[.int .u64 (n:Int),.agg (UARR .u8 32 r)] w fun e w'=>
    ∃ a' c',e=.returned (.slice a' 41 c')∧w'.ownsRow w.heap.size 5 1 (.slice a' 41 c') 41 (z00 (INTS (3 :: (BE8 n ++ (List.range 32).map r))))∧Below w.heap.size w w':=by
  have hs32:=z1u
  have hs8:=z51
  have hz8:=zbM
  have H:Aside (n<2 ^ 64∧∀ i,r i<256):=⟨hn,hr⟩
  clear hn hr
  go_enter Tryz.func114,Tryz.ntmps114
  go_wp2
  obtain ⟨w7,tb,hw7,htb,T⟩:∃ w7 tb,w7=(w.alloc (.cells (UARR .u8 32 r) 23)).alloc (.cells (UARR .u8 8 fun _=>0) 148)∧tb=w.heap.size+1∧Aside (Has w7 tb (UARR .u8 8 fun _=>0) 148∧Has w7 w.heap.size (UARR .u8 32 r) 23∧Below w.heap.size w w7∧w.heap.size≠tb∧w.heap.size≤tb):=
    ⟨_,_,rfl,rfl,Has.at _ _ _ (by simp),(Has.new w _ _).alloc _,((Below.refl _ _).alloc (Nat.le_refl _) _).alloc (by simp) _,by omega,by omega⟩
  rw [← hw7,← htb]
  clear hw7 htb
  go_loopg [0,6] 8 (fun q s0 s6 wx=>∃ z:Nat,s0=.int .u64 (z:Int)∧s6=.int .i64 ((q:Int) - 1)∧Aside (q≤8∧z=n / 2 ^ (8*(8 - q))∧Has wx tb (UARR .u8 8 fun j=>if q≤j then n / 2 ^ (8*(7 - j)) % 256 else 0) 148∧Has wx w.heap.size (UARR .u8 32 r) 23∧Below w.heap.size w wx))
  case atStart=>
    refine ⟨n,rfl,rfl,by omega,by simp,?_,T.out.2.1,T.out.2.2.1⟩
    have:(UARR .u8 8 fun j=>if 8≤j then n / 2 ^ (8*(7 - j)) % 256 else 0)=UARR .u8 8 fun _=>0:=z0g fun j hj=>by rw [if_neg (by omega)]
    rw [this]
    exact T.out.1
  case round=>
    obtain ⟨z,rfl,rfl,A⟩:=hrel
    cases gk with
    | zero=>
      have hlt:¬ (0:Int)≤((0:Nat):Int) - 1:=by omega
      have T1:Aside (Bytes (wr.drew.alloc (.cells #[.int .u8 ((3:Nat):Int)] 5)) (some ⟨tb,0,none⟩) 8 (INTS (BE8 n))∧(wr.drew.alloc (.cells #[.int .u8 ((3:Nat):Int)] 5)).ownsRow w.heap.size 5 1 (.slice (some ⟨wr.drew.heap.size,0,none⟩) 1 1) 1 (z00 (INTS [3]))∧w.heap.size≤wr.drew.heap.size∧
      (∀ w',(wr.drew.alloc (.cells #[.int .u8 ((3:Nat):Int)] 5)).grownBy w' (some wr.drew.heap.size)→Bytes w' (some ⟨w.heap.size,0,none⟩) 32 (INTS ((List.range 32).map r))∧w.heap.size≤w'.heap.size∧Below w.heap.size w w'∧wr.drew.heap.size<w'.heap.size)):=by
        obtain ⟨-, -,hH,hr,hbel⟩:=A.out
        have h2:Has wr tb (UARR .u8 8 fun j=>n / 2 ^ (8*(7 - j)) % 256) 148:=by simpa using hH
        have hT8:Text wr.drew (some ⟨tb,0,none⟩) 8 (BE8 n):=z7O (w:=wr.drew) (t:=148) (f:=fun j=>n / 2 ^ (8*(7 - j)) % 256) h2 (fun i=>Nat.mod_lt _ (by decide))
        exact z5n (x:=3) hbel.drew hT8 (Has.text (w:=wr.drew) hr H.out.2)
      clear A T hz8
      go_wp2_with fail
      go_region_held_law (fun _=>True) (trivial) (first
        | (refine z2I _ (by rfl) (.tmp 18) (.tmp 19) (by rfl) w.heap.size _ 1 (INTS [3]) (by rfl) T1.out.2.1 tb 0 8 8 (INTS (BE8 n)) (by rfl) T1.out.1 (by decide) (by decide) (by have:=T1.out.2.2.1;simp at this ⊢;omega) 9 rfl ?_;intro g5 c5 w5 hown5 hgrow5 hat5 hlt5)
        | (refine z2I _ (by rfl) (.tmp 20) (.tmp 21) (by rfl) w.heap.size _ 9 _ (by rfl) hown5 w.heap.size 0 32 32 (INTS ((List.range 32).map r)) (by rfl) (T1.out.2.2.2 _ hgrow5).1 (by decide) (by decide) (T1.out.2.2.2 _ hgrow5).2.1 41 rfl ?_;intro g6 c6 w6 hown6 hgrow6 hat6 hlt6))
      have S:Aside (w6.ownsRow w.heap.size 5 1 (.slice (some ⟨g6,0,none⟩) 41 c6) 41 (z00 (INTS (3 :: (BE8 n ++ (List.range 32).map r))))∧Below w.heap.size w w6):=by
        have hb5:=(T1.out.2.2.2 _ hgrow5).2.2.1
        refine ⟨?_,hb5.grown hgrow6 hb5.size (fun k e=>(hown5.lt k e).1)⟩
        have e:INTS [3] ++ INTS (BE8 n) ++ INTS ((List.range 32).map r)=INTS (3 :: (BE8 n ++ (List.range 32).map r)):=by simp [INTS]
        rw [e] at hown6
        exact hown6
      clear hown5 hgrow5 hat5 hlt5 hown6 hgrow6 hat6 hlt6 T1
      go_simp
      go_wp2
      go_ret
      exact ⟨_,_,rfl,S.out.1,S.out.2⟩
    | succ q=>
      obtain ⟨q8,hz,hH,hrr,hbel⟩:=A.out
      have e0:((q+1:Nat):Int) - 1=(q:Int):=by omega
      have e0':¬ (q:Int)<0:=by omega
      have e0'':(q:Int)<8:=by omega
      have ew:wrap64 ((q:Int) - 1)=(q:Int) - 1:=by unfold wrap64;omega
      have hz64':z<2 ^ 64:=by rw [hz];exact Nat.lt_of_le_of_lt (Nat.div_le_self _ _) H.out.1
      obtain ⟨b0,hb0⟩:∃ b0,z % 256=b0:=⟨_,rfl⟩
      obtain ⟨z2,hz2⟩:∃ z2,z / 256=z2:=⟨_,rfl⟩
      have em:(z:Int) % 256=(b0:Int):=by omega
      have em2:(b0:Int) % 256=(b0:Int):=by omega
      have ed:(z:Int) / 256=(z2:Int):=by omega
      have ed2:IntKind.u64.wrap (z2:Int)=(z2:Int):=by rw [z09];omega
      have em3:IntKind.u64.wrap (b0:Int)=(b0:Int):=by rw [z09];omega
      have y0:wr.cell? ⟨tb,q,none⟩=some (.int .u8 0):=by
        rw [hH.cell q,z07 _ _ _ _ (by omega),if_neg (by omega)]
        rfl
      have f0:wr.frozen? ⟨tb,q,none⟩=false:=hH.frozen q
      have R:Aside (q≤8∧z2=n / 2 ^ (8*(8 - q))∧Has (wr.setCell ⟨tb,q,none⟩ (.int .u8 (b0:Int))) tb (UARR .u8 8 fun j=>if q≤j then n / 2 ^ (8*(7 - j)) % 256 else 0) 148∧Has (wr.setCell ⟨tb,q,none⟩ (.int .u8 (b0:Int))) w.heap.size (UARR .u8 32 r) 23∧Below w.heap.size w (wr.setCell ⟨tb,q,none⟩ (.int .u8 (b0:Int)))):=by
        refine ⟨by omega,?_,?_,hrr.other (a:=⟨tb,q,none⟩) T.out.2.2.2.1 _,hbel.setCell (p:=⟨tb,q,none⟩) T.out.2.2.2.2 _⟩
        · rw [← hz2,hz,Nat.div_div_eq_div_mul,show (256:Nat)=2 ^ 8 from rfl,← Nat.pow_add]
          congr 2
          omega
        · have h:=hH.set q (.int .u8 (b0:Int))
          rw [z1A] at h
          have e:(UARR .u8 8 fun j=>if j=q then b0 else if q+1≤j then n / 2 ^ (8*(7 - j)) % 256 else 0)=UARR .u8 8 fun j=>if q≤j then n / 2 ^ (8*(7 - j)) % 256 else 0:=z0g fun j hj=>by
            by_cases e:j=q
            · subst e
              rw [if_pos rfl,if_pos (Nat.le_refl _),← hb0,hz]
              congr 3
              omega
            · rw [if_neg e]
              by_cases e2:q+1≤j
              · rw [if_pos e2,if_pos (by omega)]
              · rw [if_neg e2,if_neg (by omega)]
          rw [e] at h
          exact h
      rw [e0]
      clear A hz hH hrr hbel q8 hb0 hz2 hz64'
      go_wp2
      go_roundg q
      case measure=>omega
      case rel=>exact ⟨z2,by first | rfl,by first | rfl | (rw [ew]),R.out⟩
end Go.Proofs.YthdpkaiieomdoaaGreatDoor.HX

namespace Go.Proofs.YthdpkaiieomdoaaGreatDoor.HX
open Go.RowKit
set_option maxRecDepth 100000
theorem z3f {w:World} (d:Int) {B n c:Nat} {a:Option Addr} {l:List Nat} (h:w.ownsRow B 5 1 (.slice a n c) n (z00 (INTS l))) (hs:Small8 l) (hl:l.length<5000):
    Calls Tryz.prog 21 #[.int .i64 d,.slice (some ⟨w.heap.size,0,none⟩) 1 1] (w.alloc (.cells #[.slice a n c] 26)) fun e w'=>e=.returned (.agg (UARR .u8 32 (z0t d l)))∧Below (w.alloc (.cells #[.slice a n c] 26)).heap.size (w.alloc (.cells #[.slice a n c] 26)) w':=by
  have:=zbR d _ 1 1 _ _ (z4g h hs).1.zero (fun p hp=>by simp only [List.mem_singleton] at hp;subst hp;exact (z4g h hs).2) (by rw [z3E];omega) (by decide)
  rw [z3E] at this
  exact this
theorem zaz (d:Int) (l r:Nat→Nat) (hl:∀ i,l i<256) (hr:∀ i,r i<256) (w:World):Calls Tryz.prog 78 #[.int .i64 d,.agg (UARR .u8 32 l),.agg (UARR .u8 32 r)] w fun e w'=>e=.returned (.agg (UARR .u8 32 (z0t d (1 :: ((List.range 32).map l ++ (List.range 32).map r)))))∧Below w.heap.size w w':=by
  have hz:=z0T
  have ct:=fun W=>z6f l r hl hr W
  have H:Aside ((∀ i,l i<256)∧(∀ i,r i<256)):=⟨hl,hr⟩
  obtain ⟨W,zb,lb,rb,hW,hzb,hlb,hrb,R,h4,h5⟩:∃ W zb lb rb,W=((w.alloc (.cells (UARR .u8 32 l) 23)).alloc (.cells (UARR .u8 32 r) 23)).alloc (.cells (UARR .u8 32 fun _=>0) 23)∧zb=w.heap.size+1+1∧lb=w.heap.size∧rb=w.heap.size+1∧Aside (Has W zb (UARR .u8 32 fun _=>0) 23∧Below w.heap.size w W∧w.heap.size≤zb)∧W.rangeAt lb 0 (z06 .u8 32 l)∧W.rangeAt rb 0 (z06 .u8 32 r):=by
    refine ⟨_,_,_,_,rfl,rfl,rfl,rfl,⟨Has.at _ _ _ (by simp),(((Below.refl _ _).alloc (Nat.le_refl _) _).alloc (by simp) _).alloc (by simp;omega) _,by omega⟩,(((Has.new w _ _).alloc _).alloc _).whole,((Has.at _ _ _ (by simp)).alloc _).whole⟩
  clear hl hr
  go_enter Tryz.func78,Tryz.ntmps78
  go_wp2_with (first
    | (rw [← hW];refine wpList_load_mid rfl 23 (.tmp 4) rfl w.heap.size 0 rfl (z06 .u8 32 l) (.array 32 5) (by rw [← hlb];exact h4) Tryz.underlying23 rfl (by rw [z08];exact z0B) ?_;rw [← z0q])
    | (refine wpList_load_mid rfl 23 (.tmp 5) rfl (w.heap.size+1) 0 rfl (z06 .u8 32 r) (.array 32 5) (by rw [← hrb];exact h5) Tryz.underlying23 rfl (by rw [z08];exact z0B) ?_;rw [← z0q]))
  rw [← hzb]
  refine (ct _).mono ?_
  rintro e w2 ⟨a',c',rfl,hown,hb⟩
  rw [← hW] at hown hb
  clear ct h4 h5 hW hzb hlb hrb
  have S:Aside (Has w2 zb (UARR .u8 32 fun _=>0) 23∧Below w.heap.size w w2):=⟨R.out.1.keep hb,R.out.2.1.trans (hb.mono R.out.2.1.size)⟩
  have cs:=z3f d hown (z1v (by decide) (z1H (z0Q H.out.1) (z0Q H.out.2))) (by simp)
  have Z:Aside (w.heap.size≤zb):=R.out.2.2
  clear hown hb R
  go_wp2_with fail
  refine cs.mono ?_
  rintro e w3 ⟨rfl,hb3⟩
  have hb4:Below w2.heap.size w2 w3:=((Below.refl _ _).alloc (Nat.le_refl _) _).trans (hb3.mono (by simp))
  have S2:Aside (Has w3 zb (UARR .u8 32 fun _=>0) 23∧Below w.heap.size w w3):=⟨S.out.1.keep hb4,S.out.2.trans (hb4.mono S.out.2.size)⟩
  clear cs hb3 hb4 S
  go_wp2_with (first
    | (refine wpList_store_row rfl 23 _ _ rfl _ _ rfl rfl _ _ S2.out.1 (z02 _) (by rw [z01,z01]) (z0e _ _ _) ?_))
  refine bodyPost_ret (v:=.agg (UARR .u8 32 (z0t d (1 :: ((List.range 32).map l ++ (List.range 32).map r))))) ?_ rfl ⟨rfl,z04 S2.out.2 Z.out _⟩
  exact results_cell_row rfl _ _ zb 23 _ (0,0) _ rfl (S2.out.1.row _) Tryz.underlying23 rfl (z02 _)
theorem zaA (d:Int) (l r:Nat→Nat) (hl:∀ i,l i<256) (hr:∀ i,r i<256) (w:World):Calls Tryz.prog 70 #[.int .i64 d,.agg (UARR .u8 32 l),.agg (UARR .u8 32 r)] w fun e w'=>e=.returned (.agg (UARR .u8 32 (z0t d (2 :: ((List.range 32).map l ++ (List.range 32).map r)))))∧Below w.heap.size w w':=by
  have hz:=z0T
  have ct:=fun W=>z6g l r hl hr W
  have H:Aside ((∀ i,l i<256)∧(∀ i,r i<256)):=⟨hl,hr⟩
  obtain ⟨W,zb,lb,rb,hW,hzb,hlb,hrb,R,h4,h5⟩:∃ W zb lb rb,W=((w.alloc (.cells (UARR .u8 32 l) 23)).alloc (.cells (UARR .u8 32 r) 23)).alloc (.cells (UARR .u8 32 fun _=>0) 23)∧zb=w.heap.size+1+1∧lb=w.heap.size∧rb=w.heap.size+1∧Aside (Has W zb (UARR .u8 32 fun _=>0) 23∧Below w.heap.size w W∧w.heap.size≤zb)∧W.rangeAt lb 0 (z06 .u8 32 l)∧W.rangeAt rb 0 (z06 .u8 32 r):=by
    refine ⟨_,_,_,_,rfl,rfl,rfl,rfl,⟨Has.at _ _ _ (by simp),(((Below.refl _ _).alloc (Nat.le_refl _) _).alloc (by simp) _).alloc (by simp;omega) _,by omega⟩,(((Has.new w _ _).alloc _).alloc _).whole,((Has.at _ _ _ (by simp)).alloc _).whole⟩
  clear hl hr
  go_enter Tryz.func70,Tryz.ntmps70
  go_wp2_with (first
    | (rw [← hW];refine wpList_load_mid rfl 23 (.tmp 4) rfl w.heap.size 0 rfl (z06 .u8 32 l) (.array 32 5) (by rw [← hlb];exact h4) Tryz.underlying23 rfl (by rw [z08];exact z0B) ?_;rw [← z0q])
    | (refine wpList_load_mid rfl 23 (.tmp 5) rfl (w.heap.size+1) 0 rfl (z06 .u8 32 r) (.array 32 5) (by rw [← hrb];exact h5) Tryz.underlying23 rfl (by rw [z08];exact z0B) ?_;rw [← z0q]))
  rw [← hzb]
  refine (ct _).mono ?_
  rintro e w2 ⟨a',c',rfl,hown,hb⟩
  rw [← hW] at hown hb
  clear ct h4 h5 hW hzb hlb hrb
  have S:Aside (Has w2 zb (UARR .u8 32 fun _=>0) 23∧Below w.heap.size w w2):=⟨R.out.1.keep hb,R.out.2.1.trans (hb.mono R.out.2.1.size)⟩
  have cs:=z3f d hown (z1v (by decide) (z1H (z0Q H.out.1) (z0Q H.out.2))) (by simp)
  have Z:Aside (w.heap.size≤zb):=R.out.2.2
  clear hown hb R
  go_wp2_with fail
  refine cs.mono ?_
  rintro e w3 ⟨rfl,hb3⟩
  have hb4:Below w2.heap.size w2 w3:=((Below.refl _ _).alloc (Nat.le_refl _) _).trans (hb3.mono (by simp))
  have S2:Aside (Has w3 zb (UARR .u8 32 fun _=>0) 23∧Below w.heap.size w w3):=⟨S.out.1.keep hb4,S.out.2.trans (hb4.mono S.out.2.size)⟩
  clear cs hb3 hb4 S
  go_wp2_with (first
    | (refine wpList_store_row rfl 23 _ _ rfl _ _ rfl rfl _ _ S2.out.1 (z02 _) (by rw [z01,z01]) (z0e _ _ _) ?_))
  refine bodyPost_ret (v:=.agg (UARR .u8 32 (z0t d (2 :: ((List.range 32).map l ++ (List.range 32).map r))))) ?_ rfl ⟨rfl,z04 S2.out.2 Z.out _⟩
  exact results_cell_row rfl _ _ zb 23 _ (0,0) _ rfl (S2.out.1.row _) Tryz.underlying23 rfl (z02 _)
theorem zaB (d:Int) (n:Nat) (hn:n<2 ^ 64) (r:Nat→Nat) (hr:∀ i,r i<256) (w:World):Calls Tryz.prog 69 #[.int .i64 d,.int .u64 (n:Int),.agg (UARR .u8 32 r)] w fun e w'=>e=.returned (.agg (UARR .u8 32 (z0t d (3 :: (BE8 n ++ (List.range 32).map r)))))∧Below w.heap.size w w':=by
  have hz:=z0T
  have ct:=fun W=>z6h n hn r hr W
  have H:Aside ((∀ i,r i<256)):=hr
  obtain ⟨W,zb,rb,hW,hzb,hrb,R,h5⟩:∃ W zb rb,W=(w.alloc (.cells (UARR .u8 32 r) 23)).alloc (.cells (UARR .u8 32 fun _=>0) 23)∧zb=w.heap.size+1∧rb=w.heap.size∧Aside (Has W zb (UARR .u8 32 fun _=>0) 23∧Below w.heap.size w W∧w.heap.size≤zb)∧W.rangeAt rb 0 (z06 .u8 32 r):=by
    refine ⟨_,_,_,rfl,rfl,rfl,⟨Has.at _ _ _ (by simp),((Below.refl _ _).alloc (Nat.le_refl _) _).alloc (by simp) _,by omega⟩,((Has.new w _ _).alloc _).whole⟩
  clear hn hr
  go_enter Tryz.func69,Tryz.ntmps69
  go_wp2_with (first
    | (rw [← hW];refine wpList_load_mid rfl 23 (.tmp 5) rfl w.heap.size 0 rfl (z06 .u8 32 r) (.array 32 5) (by rw [← hrb];exact h5) Tryz.underlying23 rfl (by rw [z08];exact z0B) ?_;rw [← z0q]))
  rw [← hzb]
  refine (ct _).mono ?_
  rintro e w2 ⟨a',c',rfl,hown,hb⟩
  rw [← hW] at hown hb
  clear ct h5 hW hzb hrb
  have S:Aside (Has w2 zb (UARR .u8 32 fun _=>0) 23∧Below w.heap.size w w2):=⟨R.out.1.keep hb,R.out.2.1.trans (hb.mono R.out.2.1.size)⟩
  have cs:=z3f d hown (z1v (by decide) (z1H (z6D n) (z0Q H.out))) (by simp [BE8])
  have Z:Aside (w.heap.size≤zb):=R.out.2.2
  clear hown hb R
  go_wp2_with fail
  refine cs.mono ?_
  rintro e w3 ⟨rfl,hb3⟩
  have hb4:Below w2.heap.size w2 w3:=((Below.refl _ _).alloc (Nat.le_refl _) _).trans (hb3.mono (by simp))
  have S2:Aside (Has w3 zb (UARR .u8 32 fun _=>0) 23∧Below w.heap.size w w3):=⟨S.out.1.keep hb4,S.out.2.trans (hb4.mono S.out.2.size)⟩
  clear cs hb3 hb4 S
  go_wp2_with (first
    | (refine wpList_store_row rfl 23 _ _ rfl _ _ rfl rfl _ _ S2.out.1 (z02 _) (by rw [z01,z01]) (z0e _ _ _) ?_))
  refine bodyPost_ret (v:=.agg (UARR .u8 32 (z0t d (3 :: (BE8 n ++ (List.range 32).map r))))) ?_ rfl ⟨rfl,z04 S2.out.2 Z.out _⟩
  exact results_cell_row rfl _ _ zb 23 _ (0,0) _ rfl (S2.out.1.row _) Tryz.underlying23 rfl (z02 _)
end Go.Proofs.YthdpkaiieomdoaaGreatDoor.HX

namespace Go.Proofs.YthdpkaiieomdoaaGreatDoor
open Go.RowKit
set_option maxRecDepth 100000
theorem z8T (d:Int) (l r:List Int) (hl:IsH l) (hr:IsH r) (w:World):Calls Tryz.prog 70 #[.int .i64 d,.agg (z00 l).toArray,.agg (z00 r).toArray] w fun e w'=>e=.returned (.agg (z00 (z3F d l r)).toArray)∧Below w.heap.size w w':=by
  rw [z0F hl,z0F hr]
  refine (HX.zaA d (FNC l) (FNC r) (z1N hl) (z1N hr) w).mono ?_
  rintro e w' ⟨rfl,hb⟩
  exact ⟨by rw [z1j];rfl,hb⟩
theorem z56 (d:Int) (n:Nat) (hn:n<2 ^ 64) (r:List Int) (hr:IsH r) (w:World):Calls Tryz.prog 69 #[.int .i64 d,.int .u64 (n:Int),.agg (z00 r).toArray] w fun e w'=>e=.returned (.agg (z00 (z0u d n r)).toArray)∧Below w.heap.size w w':=by
  rw [z0F hr]
  refine (HX.zaB d n hn (FNC r) (z1N hr) w).mono ?_
  rintro e w' ⟨rfl,hb⟩
  exact ⟨by rw [z1j];rfl,hb⟩
set_option maxHeartbeats 4000000 in
theorem zaC (d:Int) (n:Nat) (hn:n≤4611686018427387904) (a:Option Addr) (k c:Nat) (hk:k=PC n) (h0:k≠0) (l:List Int) (w:World) (hF:Flat w a k l):
    Calls Tryz.prog 36 #[.int .i64 d,.int .u64 (n:Int),.slice a k c] w fun e w'=>e=.returned (.tuple #[.agg (z00 (z0u d n (FLD d l k))).toArray,.int .i64 0])∧Below w.heap.size w w':=by
  obtain ⟨w0,hw0⟩:∃ w0,w.alloc (.cells ZARR 23)=w0:=⟨_,rfl⟩
  have hb0:Below w.heap.size w w0:=by rw [← hw0];exact (Below.refl _ _).alloc (Nat.le_refl _) _
  have h40:Has w0 w.heap.size (z00 ZND).toArray 23:=by rw [← hw0,← z0P];exact Has.new w _ _
  have h1':¬ (4611686018427387904:Int)<(n:Int):=by omega
  have hk64:k≤64:=by rw [hk];exact z13 64 n (by omega)
  have co:=z6b n hn w0
  generalize z0b (TOPS 0 n)=SC at co
  rw [← hk] at co
  obtain ⟨m,hm⟩:∃ m,k=m+1:=⟨k - 1,by omega⟩
  obtain ⟨gn,o,rfl,hgn, -⟩:=hF.2.1 (by omega)
  have hz0:((k:Int) == 0)=false:=beq_eq_false_iff_ne.2 (by omega)
  have e1:wrap64 ((k:Int) - 1)=(m:Int):=by unfold wrap64;omega
  have e2:wrap64 ((k:Int) - 2)=(m:Int) - 1:=by unfold wrap64;omega
  have hml:(m:Int)<(k:Int):=by omega
  have e:FLD d l k=FA d l k m:=by unfold FLD;rw [if_neg h0,show k - 1=m by omega]
  have hFA:=zat (d:=d) hF.1 hF.2.2 (by omega)
  have CR:Aside (∀ W,Calls Tryz.prog 69 #[.int .i64 d,.int .u64 (n:Int),.agg (z00 (FA d l k m)).toArray] W fun e w'=>e=.returned (.agg (z00 (z0u d n (FLD d l k))).toArray)∧Below W.heap.size W w'):=fun W=>by
    rw [e]
    exact z56 d n (by omega) (FA d l k m) (hFA m) W
  have hYH:IsH (z0u d n (FLD d l k)):=z2Z _ _ _
  generalize z0u d n (FLD d l k)=Y at *
  have HA:Aside (k=m+1∧k≤64∧Flat w (some ⟨gn,o,none⟩) k l∧gn<w.heap.size∧(∀ i,IsH (FA d l k i))∧FA d l k 0=HSH l m∧Y.length=32):=⟨hm,hk64,hF,hgn,hFA,by rw [FA,show k - 1=m by omega],hYH.1⟩
  have R0:Aside (Below w.heap.size w w0∧Has w0 w.heap.size (z00 ZND).toArray 23):=⟨hb0,h40⟩
  clear hm hn hgn h0 e hF hk hk64 hb0 h40 hFA hYH
  go_enter Tryz.func36,Tryz.ntmps36
  go_upto_region 1 with fail
  go_wp2_with fail
  refine co.mono ?_
  rintro e w1 ⟨v,rfl,hown,hb1⟩
  obtain ⟨a',c',rfl,_⟩:∃ a' c',v=.slice a' k c'∧True:=by
    rcases hown.2 with ⟨e,h⟩ | ⟨g,cap,cur,e,_⟩
    · exact ⟨none,0,by rw [e,h],trivial⟩
    · exact ⟨_,_,e,trivial⟩
  clear co hown
  have R1:Aside (Below w.heap.size w w1∧Has w1 w.heap.size (z00 ZND).toArray 23):=⟨R0.out.1.trans (hb1.mono R0.out.1.size),R0.out.2.keep hb1⟩
  clear hb1 hw0
  have hat:w1.rangeAt gn (o+m*32) (z00 (FA d l k 0)):=by rw [HA.out.2.2.2.2.2.1];exact (HA.out.2.2.1.below R1.out.1).at (show m<k by have:=HA.out.1;omega)
  have h32:=(HA.out.2.2.2.2.1 0).1
  generalize hA0:FA d l k 0=A0 at *
  go_wp2_with (first
    | (refine wpList_load_mid rfl 23 (.tmp 30) rfl gn (o+m*32) rfl (z00 A0) _ hat Tryz.underlying23 rfl (z0j h32) ?_)
    | (refine wpList_store_row rfl 23 (.tmp 8) (.tmp 31) rfl _ _ rfl rfl 23 _ (Has.new w1 _ _) (z03 h32) (by simp [z00,h32]) (z0i A0) ?_;rw [World.setRow_alloc_new]))
  have R2:Aside (Below w.heap.size w (w1.alloc (.cells (z00 A0).toArray 23))∧Has (w1.alloc (.cells (z00 A0).toArray 23)) w.heap.size (z00 ZND).toArray 23∧Has (w1.alloc (.cells (z00 A0).toArray 23)) w1.heap.size (z00 (FA d l k 0)).toArray 23∧w.heap.size<w1.heap.size):=⟨R1.out.1.alloc R1.out.1.size _,R1.out.2.alloc _,by rw [hA0];exact Has.new _ _ _,R1.out.2.lt⟩
  clear hat h32 hA0 R0 R1
  generalize w1.alloc (.cells (z00 A0).toArray 23)=W1 at *
  generalize w1.heap.size=b8 at *
  have K:Aside (w.heap.size<b8):=R2.out.2.2.2
  go_loopg [9] m (fun q s9 wx=>∃ x:Int,s9=.int .i64 x∧Aside (q≤m∧x=(q:Int) - 1∧Below w.heap.size w wx∧Has wx w.heap.size (z00 ZND).toArray 23∧Has wx b8 (z00 (FA d l k (m - q))).toArray 23))
  case atStart=>exact ⟨_,rfl,Nat.le_refl _,by first | rfl | exact e2,R2.out.1,R2.out.2.1,by rw [Nat.sub_self];exact R2.out.2.2.1⟩
  case round=>
    obtain ⟨x,rfl,A⟩:=hrel
    clear R2 e1 e2
    cases gk with
    | zero=>
      obtain rfl:x = -1:=by have:=A.out.2.1;omega
      have hH8:Has wr b8 (z00 (FA d l k m)).toArray 23:=A.out.2.2.2.2
      have A2:Aside (Below w.heap.size w wr∧Has wr w.heap.size (z00 ZND).toArray 23):=⟨A.out.2.2.1,A.out.2.2.2.1⟩
      have x32:=(HA.out.2.2.2.2.1 m).1
      have y32:=HA.out.2.2.2.2.2.2
      have cr:=CR.out wr
      clear A HA CR
      generalize FA d l k m=X at *
      go_wp2_with (refine wpList_load_row rfl 23 (.tmp 8) rfl b8 rfl 23 (z00 X).toArray (0,0) _ hH8 Tryz.underlying23 rfl (z03 x32) ?_)
      refine cr.mono ?_
      rintro e w2 ⟨rfl,hb2⟩
      clear cr
      have h42:=A2.out.2.keep hb2
      have hb3:Below w.heap.size w w2:=A2.out.1.trans (hb2.mono A2.out.1.size)
      clear hb2 A2
      go_wp2_with (refine wpList_store_row rfl 23 (.tmp 6) (.tmp 49) rfl _ _ rfl rfl 23 _ h42 (z03 y32) (by simp [z00,y32];rfl) (z0i Y) ?_)
      refine bodyPost_ret (v:=.tuple #[.agg (z00 Y).toArray,.int .i64 0]) (z1O rfl _ _ w.heap.size 23 _ (0,0) _ _ _ rfl rfl (Has.row h42 _) Tryz.underlying23 (z03 y32)) rfl ⟨rfl,z04 hb3 (Nat.le_refl _) _⟩
    | succ q=>
      obtain rfl:x=(q:Int):=by have:=A.out.2.1;omega
      have hq0:(0:Int)≤(q:Int):=by omega
      obtain ⟨h1,h2,h3,h5,h6,_,_⟩:=HA.out
      have hqm:q+1≤m:=A.out.1
      have hb1:(q:Int)<(k:Int):=by omega
      have eY:FA d l k (m - q)=z3F d (HSH l q) (FA d l k (m - (q+1))):=by
        rw [show m - q=(m - (q+1))+1 by omega,FA,show k - 2 - (m - (q+1))=q by omega]
      have hE1:Aside (wrap64 ((q:Int) - 1)=(q:Int) - 1):=by show wrap64 ((q:Int) - 1)=(q:Int) - 1;unfold wrap64;omega
      have H2:Aside (w.rangeAt gn (o+q*32) (z00 (HSH l q))∧gn<w.heap.size∧IsH (HSH l q)∧(∀ i,IsH (FA d l k i))∧FA d l k (m - q)=z3F d (HSH l q) (FA d l k (m - (q+1)))∧Below w.heap.size w wr∧Has wr w.heap.size (z00 ZND).toArray 23∧Has wr b8 (z00 (FA d l k (m - (q+1)))).toArray 23∧q≤m):=⟨h3.at (by omega),h5,z7L h3.1 h3.2.2 (by omega),h6,eY,A.out.2.2.1,A.out.2.2.2.1,A.out.2.2.2.2,by omega⟩
      clear h1 h2 h3 h5 h6 eY A HA hqm CR
      go_upto_region 11 with fail
      refine z7M wr gn o k c b8 q d (HSH l q) (FA d l k (m - (q+1))) (FA d l k (m - q)) H2.out.2.2.1.1 (H2.out.2.2.2.1 _).1 (H2.out.2.2.2.1 _).1 hb1 (fun V=>Below wr.heap.size wr V) (Below.refl _ _).drew (fun V hV=>?_) (fun V hV=>?_) (fun V hV=>?_) (fun _ _ _ _ _ h=>h) ?_
      · exact ⟨z2j H2.out.1 (H2.out.2.2.2.2.2.1.trans (hV.mono H2.out.2.2.2.2.2.1.size)) H2.out.2.1,H2.out.2.2.2.2.2.2.2.1.keep hV⟩
      · exact z2j H2.out.1 (z04 (H2.out.2.2.2.2.2.1.trans (hV.mono H2.out.2.2.2.2.2.1.size)) (Nat.le_of_lt K.out) _) H2.out.2.1
      · refine (z8T d (HSH l q) (FA d l k (m - (q+1))) H2.out.2.2.1 (H2.out.2.2.2.1 _) V).mono ?_
        rintro e V' ⟨rfl,hb⟩
        exact ⟨by rw [H2.out.2.2.2.2.1],hV.trans (hb.mono hV.size)⟩
      · rintro W3 ⟨w0',hw0',hW3⟩
        have Z:Aside (q≤m∧Below w.heap.size w W3∧Has W3 w.heap.size (z00 ZND).toArray 23∧Has W3 b8 (z00 (FA d l k (m - q))).toArray 23):=by
          have hV2:Below w.heap.size w w0':=H2.out.2.2.2.2.2.1.trans (hw0'.mono H2.out.2.2.2.2.2.1.size)
          rw [hW3]
          exact ⟨H2.out.2.2.2.2.2.2.2.2,z04 hV2 (Nat.le_of_lt K.out) _,(H2.out.2.2.2.2.2.2.1.keep hw0').row_other (by have:=K.out;omega) _,(H2.out.2.2.2.2.2.2.2.1.keep hw0').row _⟩
        clear hW3 hw0' H2
        have e1:=hE1.out
        go_wp2_with fail
        go_roundg q
        case measure=>exact Nat.lt_succ_self _
        case rel=>exact ⟨_,rfl,Z.out.1,by first | rfl | exact hE1.out,Z.out.2⟩
end Go.Proofs.YthdpkaiieomdoaaGreatDoor

namespace Go.Proofs.YthdpkaiieomdoaaGreatDoor
open Go.RowKit
set_option maxRecDepth 100000
def NUML (w:World) (a:Option Addr) (L:List Nat):Prop:=0<L.length→∃ b o,a=some ⟨b,o,none⟩∧b<w.heap.size∧∀ i x,L[i]?=some x→w.cell? ⟨b,o+i,none⟩=some (.int .u64 ((x:Nat):Int))
theorem NUML.below {w w':World} {a:Option Addr} {L:List Nat} {B:Nat} (h:NUML w a L) (hb:Below B w w') (hB:∀ x,a=some x→x.block<B):NUML w' a L:=fun h0=>by
  obtain ⟨b,o,e,hl,hc⟩:=h h0
  have h1:b<B:=hB _ e
  exact ⟨b,o,e,by have:=hb.size;omega,fun i x hx=>(hb.cell (p:=⟨b,o+i,none⟩) h1).trans (hc i x hx)⟩
def RISES (L:List Nat):Prop:=∀ (i j x y:Nat),i<j→L[i]?=some x→L[j]?=some y→x<y
structure RANKS (L:List Nat) (t k:Nat):Prop where
  le:k≤L.length
  lo:∀ i x,i<k→L[i]?=some x→x<t
  hi:∀ i x,k≤i→L[i]?=some x→t≤x
end Go.Proofs.YthdpkaiieomdoaaGreatDoor

namespace Go.Proofs.YthdpkaiieomdoaaGreatDoor
set_option maxRecDepth 100000
def NEED:Nat→Nat→List Nat→List Nat
  | h,k,[]=>[PLC h k]
  | 0,_,_ :: _=>[]
  | h+1,k,x :: l=>NEED h (2*k) ((x :: l).filter fun y=>decide (y<(2*k+1)*2 ^ h)) ++ NEED h (2*k+1) ((x :: l).filter fun y=>!decide (y<(2*k+1)*2 ^ h))
theorem z3K (h k:Nat):NEED h k []=[PLC h k]:=by cases h <;> rfl
theorem z4k (h k x:Nat) (l:List Nat):NEED (h+1) k (x :: l)=NEED h (2*k) ((x :: l).filter fun y=>decide (y<(2*k+1)*2 ^ h)) ++ NEED h (2*k+1) ((x :: l).filter fun y=>!decide (y<(2*k+1)*2 ^ h)):=rfl
theorem RANKS.take:∀ {L:List Nat} {t r:Nat},RANKS L t r→L.take r=L.filter fun y=>decide (y<t)
  | [],t,r,_=>by simp
  | x :: l,t,0,h=>by
    rw [List.take_zero]
    symm
    rw [List.filter_eq_nil_iff]
    intro y hy
    obtain ⟨i,hi⟩:=List.getElem?_of_mem hy
    have:=h.hi i y (Nat.zero_le _) hi
    simp
    omega
  | x :: l,t,r+1,h=>by
    have hx:x<t:=h.lo 0 x (by omega) rfl
    have h':RANKS l t r:=⟨by have:=h.le;simp at this;omega,fun i y hi hy=>h.lo (i+1) y (by omega) (by simpa using hy),fun i y hi hy=>h.hi (i+1) y (by omega) (by simpa using hy)⟩
    rw [List.take_succ_cons,List.filter_cons_of_pos (by simpa using hx),h'.take]
theorem RANKS.drop:∀ {L:List Nat} {t r:Nat},RANKS L t r→L.drop r=L.filter fun y=>!decide (y<t)
  | [],t,r,_=>by simp
  | x :: l,t,0,h=>by
    rw [List.drop_zero]
    symm
    rw [List.filter_eq_self]
    intro y hy
    obtain ⟨i,hi⟩:=List.getElem?_of_mem hy
    have:=h.hi i y (Nat.zero_le _) hi
    simp
    omega
  | x :: l,t,r+1,h=>by
    have hx:x<t:=h.lo 0 x (by omega) rfl
    have h':RANKS l t r:=⟨by have:=h.le;simp at this;omega,fun i y hi hy=>h.lo (i+1) y (by omega) (by simpa using hy),fun i y hi hy=>h.hi (i+1) y (by omega) (by simpa using hy)⟩
    rw [List.drop_succ_cons,List.filter_cons_of_neg (by simpa using hx),h'.drop]
theorem RISES.take {L:List Nat} (h:RISES L) (r:Nat):RISES (L.take r):=fun i j x y hij hx hy=>by
  rw [List.getElem?_take] at hx hy
  split at hx
  · split at hy
    · exact h i j x y hij hx hy
    · cases hy
  · cases hx
theorem RISES.drop {L:List Nat} (h:RISES L) (r:Nat):RISES (L.drop r):=fun i j x y hij hx hy=>by
  rw [List.getElem?_drop] at hx hy
  exact h (r+i) (r+j) x y (by omega) hx hy
theorem zbS {h k r:Nat} {L:List Nat} (hL:L≠[]) (hr:RANKS L ((2*k+1)*2 ^ h) r):NEED (h+1) k L=NEED h (2*k) (L.take r) ++ NEED h (2*k+1) (L.drop r):=by
  cases L with
  | nil=>exact absurd rfl hL
  | cons x l=>rw [z4k,hr.take,hr.drop]
def z2k:List (Nat × Nat)→List Nat→List Nat
  | [],_=>[]
  | (h,k) :: ps,L=>NEED h k (L.filter fun y=>decide (y<(k+1)*2 ^ h)) ++ z2k ps (L.filter fun y=>!decide (y<(k+1)*2 ^ h))
theorem zaD {h k r:Nat} {L:List Nat} (ps:List (Nat × Nat)) (hr:RANKS L ((k+1)*2 ^ h) r):z2k ((h,k) :: ps) L=NEED h k (L.take r) ++ z2k ps (L.drop r):=by
  rw [z2k,hr.take,hr.drop]
end Go.Proofs.YthdpkaiieomdoaaGreatDoor

namespace Go.Proofs.YthdpkaiieomdoaaGreatDoor
open Go.RowKit
set_option maxRecDepth 100000
def SLA (a:Option Addr) (c k:Nat):Option Addr:=match a with
  | none=>none
  | some ad=>if c=k then some ad else some ⟨ad.block,ad.off+k*32,none⟩
theorem z7U (b off n c k:Nat) (hk:k≤n) (hc:n≤c) (w:World):(Instr.slice 25 (.slice (some ⟨b,off,none⟩) n c) (some (.int .i64 (k:Int))) none none).run Tryz.prog w=.ok (.slice (SLA (some ⟨b,off,none⟩) c k) (n - k) (c - k)) w:=by
  have k1:(k:Int)≤(n:Int):=by omega
  by_cases e:c=k
  · obtain rfl:n=c:=by omega
    subst e
    simp [SLA,go_sem]
  · simp [SLA,e,go_sem,k1,Addr.add]
theorem Flat.behind {w:World} {a:Option Addr} {n c:Nat} {l:List Int} (h:Flat w a n l) (k:Nat) (hk:k≤n) (hc:n≤c):Flat w (SLA a c k) (n - k) (l.drop (32*k)):=by
  refine ⟨by rw [List.length_drop,h.1];omega,fun h0=>?_,fun x hx=>h.2.2 x (List.mem_of_mem_drop hx)⟩
  obtain ⟨b,o,rfl,hb,hcs⟩:=h.2.1 (by omega)
  have hck:¬ c=k:=by omega
  refine ⟨b,o+k*32,by simp [SLA,hck],hb,fun j hj=>?_⟩
  rw [show o+k*32+j=o+(32*k+j) by omega,hcs (32*k+j) (by omega)]
  congr 2
  rw [List.getD_eq_getElem?_getD,List.getD_eq_getElem?_getD,List.getElem?_drop]
end Go.Proofs.YthdpkaiieomdoaaGreatDoor
