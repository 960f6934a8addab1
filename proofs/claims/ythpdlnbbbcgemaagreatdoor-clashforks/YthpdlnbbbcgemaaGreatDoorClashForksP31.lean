/- Texts of ClashForks, one behind the other: HashRefTexts, HashSumTexts, NumRefBytes, NumRefLong. -/
import Derived.Deep.RegionHeldLaw
import Derived.Deep.RegionHeld3
import Derived.Test.YthpdlnbbbcgemaaGreatDoorClashForksP29
namespace Go.Proofs.YthpdlnbbbcgemaaGreatDoor.HX
open Go.RowKit
set_option maxRecDepth 100000
theorem zf1 (w:World) (x:Nat) (base:Nat) (hb:base≤w.heap.size):(w.alloc (.cells #[.int .u8 (x:Int)] 5)).ownsRow base 5 1 (.slice (some ⟨w.heap.size,0,none⟩) 1 1) 1 (z01 (INTS [x])):=
  ⟨rfl,.inr ⟨w.heap.size,1,#[.int .u8 (x:Int)],rfl,hb,by first | exact (Has.new w _ _) | exact (Has.new w _ _).1 | simp,by decide,by decide,rfl,rfl⟩⟩
theorem z5V {w w1:World} {x:Nat} {ba bb m1 m2:Nat} {l1 l2:List Nat} (hb:Below w.heap.size w w1) (h1:Text w1 (some ⟨ba,0,none⟩) m1 l1) (h2:Text w1 (some ⟨bb,0,none⟩) m2 l2):
    Aside (Bytes (w1.alloc (.cells #[.int .u8 (x:Int)] 5)) (some ⟨ba,0,none⟩) m1 (INTS l1)∧(w1.alloc (.cells #[.int .u8 (x:Int)] 5)).ownsRow w.heap.size 5 1 (.slice (some ⟨w1.heap.size,0,none⟩) 1 1) 1 (z01 (INTS [x]))∧w.heap.size≤w1.heap.size∧
      (∀ w',(w1.alloc (.cells #[.int .u8 (x:Int)] 5)).grownBy w' (some w1.heap.size)→Bytes w' (some ⟨bb,0,none⟩) m2 (INTS l2)∧w.heap.size≤w'.heap.size∧Below w.heap.size w w'∧w1.heap.size<w'.heap.size)):=by
  refine ⟨(h1.below ((Below.refl _ _).alloc (Nat.le_refl _) _)).bytes,zf1 w1 x _ hb.size,hb.size,fun w' hg=>?_⟩
  have hb':Below w1.heap.size w1 w':=((Below.refl _ _).alloc (Nat.le_refl _) _).grown hg (by simp) (fun k e=>by cases e;exact Nat.le_refl _)
  have hs:=hg.size
  simp at hs
  exact ⟨(h2.below hb').bytes,Nat.le_trans hb.size hb'.size,hb.trans (hb'.mono hb.size),by omega⟩
theorem z7c (l r:Nat→Nat) (hl:∀ i,l i<256) (hr:∀ i,r i<256) (w:World):Calls Tryz.prog 61 #[.agg (UARR .u8 32 l),.agg (UARR .u8 32 r)] w fun e w'=>
    ∃ a' c',e=.returned (.slice a' 65 c')∧w'.ownsRow w.heap.size 5 1 (.slice a' 65 c') 65 (z01 (INTS (1 :: ((List.range 32).map l ++ (List.range 32).map r))))∧Below w.heap.size w w':=by
  have hs32:=z1M
  obtain ⟨w1,hw1⟩:∃ w1,w1=(w.alloc (.cells (UARR .u8 32 l) 24)).alloc (.cells (UARR .u8 32 r) 24):=⟨_,rfl⟩
  have U:Below w.heap.size w w1∧Has w1 w.heap.size (UARR .u8 32 l) 24∧Has w1 (w.heap.size+1) (UARR .u8 32 r) 24:=by
    rw [hw1]
    exact ⟨((Below.refl _ _).alloc (Nat.le_refl _) _).alloc (by simp) _,(Has.new w _ _).alloc _,Has.at _ _ _ (by simp)⟩
  have T1:=z5V (x:=1) U.1.drew (Has.text (w:=w1.drew) U.2.1 hl) (Has.text (w:=w1.drew) U.2.2 hr)
  clear U hl hr
  go_enter Tryz.func61,Tryz.ntmps61
  go_wp2_with fail
  rw [← hw1]
  clear hw1
  generalize hh:w.heap.size+1=h at *
  clear hh
  go_region_held_law (fun _=>True) (trivial) (first
    | (refine z37 _ (by rfl) (.tmp 5) (.tmp 6) (by rfl) w.heap.size _ 1 (INTS [1]) (by rfl) T1.out.2.1 w.heap.size 0 32 32 (INTS ((List.range 32).map l)) (by rfl) T1.out.1 (by decide) (by decide) (by have:=T1.out.2.2.1;simp at this ⊢;omega) 33 rfl ?_;intro g5 c5 w5 hown5 hgrow5 hat5 hlt5)
    | (refine z37 _ (by rfl) (.tmp 7) (.tmp 8) (by rfl) w.heap.size _ 33 _ (by rfl) hown5 h 0 32 32 (INTS ((List.range 32).map r)) (by rfl) (T1.out.2.2.2 _ hgrow5).1 (by decide) (by decide) (T1.out.2.2.2 _ hgrow5).2.1 65 rfl ?_;intro g6 c6 w6 hown6 hgrow6 hat6 hlt6))
  have S:Aside (w6.ownsRow w.heap.size 5 1 (.slice (some ⟨g6,0,none⟩) 65 c6) 65 (z01 (INTS (1 :: ((List.range 32).map l ++ (List.range 32).map r))))∧Below w.heap.size w w6):=by
    have hb5:=(T1.out.2.2.2 _ hgrow5).2.2.1
    refine ⟨?_,hb5.grown hgrow6 hb5.size (fun k e=>(hown5.lt k e).1)⟩
    have e:INTS [1] ++ INTS ((List.range 32).map l) ++ INTS ((List.range 32).map r)=INTS (1 :: ((List.range 32).map l ++ (List.range 32).map r)):=by simp [INTS]
    rw [e] at hown6
    exact hown6
  clear hown5 hgrow5 hat5 hlt5 hown6 hgrow6 hat6 hlt6 T1
  go_simp
  go_wp2
  go_ret
  exact ⟨_,_,rfl,S.out.1,S.out.2⟩
theorem z7d (l r:Nat→Nat) (hl:∀ i,l i<256) (hr:∀ i,r i<256) (w:World):Calls Tryz.prog 63 #[.agg (UARR .u8 32 l),.agg (UARR .u8 32 r)] w fun e w'=>
    ∃ a' c',e=.returned (.slice a' 65 c')∧w'.ownsRow w.heap.size 5 1 (.slice a' 65 c') 65 (z01 (INTS (2 :: ((List.range 32).map l ++ (List.range 32).map r))))∧Below w.heap.size w w':=by
  have hs32:=z1M
  obtain ⟨w1,hw1⟩:∃ w1,w1=(w.alloc (.cells (UARR .u8 32 l) 24)).alloc (.cells (UARR .u8 32 r) 24):=⟨_,rfl⟩
  have U:Below w.heap.size w w1∧Has w1 w.heap.size (UARR .u8 32 l) 24∧Has w1 (w.heap.size+1) (UARR .u8 32 r) 24:=by
    rw [hw1]
    exact ⟨((Below.refl _ _).alloc (Nat.le_refl _) _).alloc (by simp) _,(Has.new w _ _).alloc _,Has.at _ _ _ (by simp)⟩
  have T1:=z5V (x:=2) U.1.drew (Has.text (w:=w1.drew) U.2.1 hl) (Has.text (w:=w1.drew) U.2.2 hr)
  clear U hl hr
  go_enter Tryz.func63,Tryz.ntmps63
  go_wp2_with fail
  rw [← hw1]
  clear hw1
  generalize hh:w.heap.size+1=h at *
  clear hh
  go_region_held_law (fun _=>True) (trivial) (first
    | (refine z37 _ (by rfl) (.tmp 5) (.tmp 6) (by rfl) w.heap.size _ 1 (INTS [2]) (by rfl) T1.out.2.1 w.heap.size 0 32 32 (INTS ((List.range 32).map l)) (by rfl) T1.out.1 (by decide) (by decide) (by have:=T1.out.2.2.1;simp at this ⊢;omega) 33 rfl ?_;intro g5 c5 w5 hown5 hgrow5 hat5 hlt5)
    | (refine z37 _ (by rfl) (.tmp 7) (.tmp 8) (by rfl) w.heap.size _ 33 _ (by rfl) hown5 h 0 32 32 (INTS ((List.range 32).map r)) (by rfl) (T1.out.2.2.2 _ hgrow5).1 (by decide) (by decide) (T1.out.2.2.2 _ hgrow5).2.1 65 rfl ?_;intro g6 c6 w6 hown6 hgrow6 hat6 hlt6))
  have S:Aside (w6.ownsRow w.heap.size 5 1 (.slice (some ⟨g6,0,none⟩) 65 c6) 65 (z01 (INTS (2 :: ((List.range 32).map l ++ (List.range 32).map r))))∧Below w.heap.size w w6):=by
    have hb5:=(T1.out.2.2.2 _ hgrow5).2.2.1
    refine ⟨?_,hb5.grown hgrow6 hb5.size (fun k e=>(hown5.lt k e).1)⟩
    have e:INTS [2] ++ INTS ((List.range 32).map l) ++ INTS ((List.range 32).map r)=INTS (2 :: ((List.range 32).map l ++ (List.range 32).map r)):=by simp [INTS]
    rw [e] at hown6
    exact hown6
  clear hown5 hgrow5 hat5 hlt5 hown6 hgrow6 hat6 hlt6 T1
  go_simp
  go_wp2
  go_ret
  exact ⟨_,_,rfl,S.out.1,S.out.2⟩
theorem z7e (n:Nat) (hn:n<2 ^ 64) (r:Nat→Nat) (hr:∀ i,r i<256) (w:World):Calls Tryz.prog 62 #[.int .u64 (n:Int),.agg (UARR .u8 32 r)] w fun e w'=>
    ∃ a' c',e=.returned (.slice a' 41 c')∧w'.ownsRow w.heap.size 5 1 (.slice a' 41 c') 41 (z01 (INTS (3 :: (BE8 n ++ (List.range 32).map r))))∧Below w.heap.size w w':=by
  have hs32:=z1M
  have hs8:=z5q
  have hz8:=zd1
  have H:Aside (n<2 ^ 64∧∀ i,r i<256):=⟨hn,hr⟩
  clear hn hr
  go_enter Tryz.func62,Tryz.ntmps62
  go_wp2
  obtain ⟨w7,tb,hw7,htb,T⟩:∃ w7 tb,w7=(w.alloc (.cells (UARR .u8 32 r) 24)).alloc (.cells (UARR .u8 8 fun _=>0) 139)∧tb=w.heap.size+1∧Aside (Has w7 tb (UARR .u8 8 fun _=>0) 139∧Has w7 w.heap.size (UARR .u8 32 r) 24∧Below w.heap.size w w7∧w.heap.size≠tb∧w.heap.size≤tb):=
    ⟨_,_,rfl,rfl,Has.at _ _ _ (by simp),(Has.new w _ _).alloc _,((Below.refl _ _).alloc (Nat.le_refl _) _).alloc (by simp) _,by omega,by omega⟩
  rw [← hw7,← htb]
  clear hw7 htb
  go_loopg [0,6] 8 (fun q s0 s6 wx=>∃ z:Nat,s0=.int .u64 (z:Int)∧s6=.int .i64 ((q:Int) - 1)∧Aside (q≤8∧z=n / 2 ^ (8*(8 - q))∧Has wx tb (UARR .u8 8 fun j=>if q≤j then n / 2 ^ (8*(7 - j)) % 256 else 0) 139∧Has wx w.heap.size (UARR .u8 32 r) 24∧Below w.heap.size w wx))
  case atStart=>
    refine ⟨n,rfl,rfl,by omega,by simp,?_,T.out.2.1,T.out.2.2.1⟩
    have:(UARR .u8 8 fun j=>if 8≤j then n / 2 ^ (8*(7 - j)) % 256 else 0)=UARR .u8 8 fun _=>0:=z0o fun j hj=>by rw [if_neg (by omega)]
    rw [this]
    exact T.out.1
  case round=>
    obtain ⟨z,rfl,rfl,A⟩:=hrel
    cases gk with
    | zero=>
      have hlt:¬ (0:Int)≤((0:Nat):Int) - 1:=by omega
      have T1:Aside (Bytes (wr.drew.alloc (.cells #[.int .u8 ((3:Nat):Int)] 5)) (some ⟨tb,0,none⟩) 8 (INTS (BE8 n))∧(wr.drew.alloc (.cells #[.int .u8 ((3:Nat):Int)] 5)).ownsRow w.heap.size 5 1 (.slice (some ⟨wr.drew.heap.size,0,none⟩) 1 1) 1 (z01 (INTS [3]))∧w.heap.size≤wr.drew.heap.size∧
      (∀ w',(wr.drew.alloc (.cells #[.int .u8 ((3:Nat):Int)] 5)).grownBy w' (some wr.drew.heap.size)→Bytes w' (some ⟨w.heap.size,0,none⟩) 32 (INTS ((List.range 32).map r))∧w.heap.size≤w'.heap.size∧Below w.heap.size w w'∧wr.drew.heap.size<w'.heap.size)):=by
        obtain ⟨-, -,hH,hr,hbel⟩:=A.out
        have h2:Has wr tb (UARR .u8 8 fun j=>n / 2 ^ (8*(7 - j)) % 256) 139:=by simpa using hH
        have hT8:Text wr.drew (some ⟨tb,0,none⟩) 8 (BE8 n):=z8W (w:=wr.drew) (t:=139) (f:=fun j=>n / 2 ^ (8*(7 - j)) % 256) h2 (fun i=>Nat.mod_lt _ (by decide))
        exact z5V (x:=3) hbel.drew hT8 (Has.text (w:=wr.drew) hr H.out.2)
      clear A T hz8
      go_wp2_with fail
      go_region_held_law (fun _=>True) (trivial) (first
        | (refine z37 _ (by rfl) (.tmp 18) (.tmp 19) (by rfl) w.heap.size _ 1 (INTS [3]) (by rfl) T1.out.2.1 tb 0 8 8 (INTS (BE8 n)) (by rfl) T1.out.1 (by decide) (by decide) (by have:=T1.out.2.2.1;simp at this ⊢;omega) 9 rfl ?_;intro g5 c5 w5 hown5 hgrow5 hat5 hlt5)
        | (refine z37 _ (by rfl) (.tmp 20) (.tmp 21) (by rfl) w.heap.size _ 9 _ (by rfl) hown5 w.heap.size 0 32 32 (INTS ((List.range 32).map r)) (by rfl) (T1.out.2.2.2 _ hgrow5).1 (by decide) (by decide) (T1.out.2.2.2 _ hgrow5).2.1 41 rfl ?_;intro g6 c6 w6 hown6 hgrow6 hat6 hlt6))
      have S:Aside (w6.ownsRow w.heap.size 5 1 (.slice (some ⟨g6,0,none⟩) 41 c6) 41 (z01 (INTS (3 :: (BE8 n ++ (List.range 32).map r))))∧Below w.heap.size w w6):=by
        have hb5:=(T1.out.2.2.2 _ hgrow5).2.2.1
        refine ⟨?_,hb5.grown hgrow6 hb5.size (fun k e=>(hown5.lt k e).1)⟩
        have e:INTS [3] ++ INTS (BE8 n) ++ INTS ((List.range 32).map r)=INTS (3 :: (BE8 n ++ (List.range 32).map r)):=by simp [INTS]
        rw [e] at hown6
        exact hown6
      clear hown5 hgrow5 hat5 hlt5 hown6 hgrow6 hat6 hlt6 T1
      go_simp
      go_wp2
      go_ret
      exact ⟨_,_,rfl,S.out.1,S.out.2⟩
    | succ q=>
      obtain ⟨q8,hz,hH,hrr,hbel⟩:=A.out
      have e0:((q+1:Nat):Int) - 1=(q:Int):=by omega
      have e0':¬ (q:Int)<0:=by omega
      have e0'':(q:Int)<8:=by omega
      have ew:wrap64 ((q:Int) - 1)=(q:Int) - 1:=by unfold wrap64;omega
      have hz64':z<2 ^ 64:=by rw [hz];exact Nat.lt_of_le_of_lt (Nat.div_le_self _ _) H.out.1
      obtain ⟨b0,hb0⟩:∃ b0,z % 256=b0:=⟨_,rfl⟩
      obtain ⟨z2,hz2⟩:∃ z2,z / 256=z2:=⟨_,rfl⟩
      have em:(z:Int) % 256=(b0:Int):=by omega
      have em2:(b0:Int) % 256=(b0:Int):=by omega
      have ed:(z:Int) / 256=(z2:Int):=by omega
      have ed2:IntKind.u64.wrap (z2:Int)=(z2:Int):=by rw [z06];omega
      have em3:IntKind.u64.wrap (b0:Int)=(b0:Int):=by rw [z06];omega
      have y0:wr.cell? ⟨tb,q,none⟩=some (.int .u8 0):=by
        rw [hH.cell q,z0a _ _ _ _ (by omega),if_neg (by omega)]
        rfl
      have f0:wr.frozen? ⟨tb,q,none⟩=false:=hH.frozen q
      have R:Aside (q≤8∧z2=n / 2 ^ (8*(8 - q))∧Has (wr.setCell ⟨tb,q,none⟩ (.int .u8 (b0:Int))) tb (UARR .u8 8 fun j=>if q≤j then n / 2 ^ (8*(7 - j)) % 256 else 0) 139∧Has (wr.setCell ⟨tb,q,none⟩ (.int .u8 (b0:Int))) w.heap.size (UARR .u8 32 r) 24∧Below w.heap.size w (wr.setCell ⟨tb,q,none⟩ (.int .u8 (b0:Int)))):=by
        refine ⟨by omega,?_,?_,hrr.other (a:=⟨tb,q,none⟩) T.out.2.2.2.1 _,hbel.setCell (p:=⟨tb,q,none⟩) T.out.2.2.2.2 _⟩
        · rw [← hz2,hz,Nat.div_div_eq_div_mul,show (256:Nat)=2 ^ 8 from rfl,← Nat.pow_add]
          congr 2
          omega
        · have h:=hH.set q (.int .u8 (b0:Int))
          rw [z1T] at h
          have e:(UARR .u8 8 fun j=>if j=q then b0 else if q+1≤j then n / 2 ^ (8*(7 - j)) % 256 else 0)=UARR .u8 8 fun j=>if q≤j then n / 2 ^ (8*(7 - j)) % 256 else 0:=z0o fun j hj=>by
            by_cases e:j=q
            · subst e
              rw [if_pos rfl,if_pos (Nat.le_refl _),← hb0,hz]
              congr 3
              omega
            · rw [if_neg e]
              by_cases e2:q+1≤j
              · rw [if_pos e2,if_pos (by omega)]
              · rw [if_neg e2,if_neg (by omega)]
          rw [e] at h
          exact h
      rw [e0]
      clear A hz hH hrr hbel q8 hb0 hz2 hz64'
      go_wp2
      go_roundg q
      case measure=>omega
      case rel=>exact ⟨z2,by first | rfl,by first | rfl | (rw [ew]),R.out⟩
end Go.Proofs.YthpdlnbbbcgemaaGreatDoor.HX

namespace Go.Proofs.YthpdlnbbbcgemaaGreatDoor.HX
open Go.RowKit
set_option maxRecDepth 100000
theorem z3M {w:World} (d:Int) {B n c:Nat} {a:Option Addr} {l:List Nat} (h:w.ownsRow B 5 1 (.slice a n c) n (z01 (INTS l))) (hs:Small8 l) (hl:l.length<5000):
    Calls Tryz.prog 52 #[.int .i64 d,.slice (some ⟨w.heap.size,0,none⟩) 1 1] (w.alloc (.cells #[.slice a n c] 25)) fun e w'=>e=.returned (.agg (UARR .u8 32 (z08 d l)))∧Below (w.alloc (.cells #[.slice a n c] 25)).heap.size (w.alloc (.cells #[.slice a n c] 25)) w':=by
  have:=z7D d _ 1 1 _ _ (z4H h hs).1.zero (fun p hp=>by simp only [List.mem_singleton] at hp;subst hp;exact (z4H h hs).2) (by rw [z4f];omega) (by decide)
  rw [z4f] at this
  exact this
theorem zbV (d:Int) (l r:Nat→Nat) (hl:∀ i,l i<256) (hr:∀ i,r i<256) (w:World):Calls Tryz.prog 33 #[.int .i64 d,.agg (UARR .u8 32 l),.agg (UARR .u8 32 r)] w fun e w'=>e=.returned (.agg (UARR .u8 32 (z08 d (1 :: ((List.range 32).map l ++ (List.range 32).map r)))))∧Below w.heap.size w w':=by
  have hz:=z18
  have ct:=fun W=>z7c l r hl hr W
  have H:Aside ((∀ i,l i<256)∧(∀ i,r i<256)):=⟨hl,hr⟩
  obtain ⟨W,zb,lb,rb,hW,hzb,hlb,hrb,R,h4,h5⟩:∃ W zb lb rb,W=((w.alloc (.cells (UARR .u8 32 l) 24)).alloc (.cells (UARR .u8 32 r) 24)).alloc (.cells (UARR .u8 32 fun _=>0) 24)∧zb=w.heap.size+1+1∧lb=w.heap.size∧rb=w.heap.size+1∧Aside (Has W zb (UARR .u8 32 fun _=>0) 24∧Below w.heap.size w W∧w.heap.size≤zb)∧W.rangeAt lb 0 (z09 .u8 32 l)∧W.rangeAt rb 0 (z09 .u8 32 r):=by
    refine ⟨_,_,_,_,rfl,rfl,rfl,rfl,⟨Has.at _ _ _ (by simp),(((Below.refl _ _).alloc (Nat.le_refl _) _).alloc (by simp) _).alloc (by simp;omega) _,by omega⟩,(((Has.new w _ _).alloc _).alloc _).whole,((Has.at _ _ _ (by simp)).alloc _).whole⟩
  clear hl hr
  go_enter Tryz.func33,Tryz.ntmps33
  go_wp2_with (first
    | (rw [← hW];refine wpList_load_mid rfl 24 (.tmp 4) rfl w.heap.size 0 rfl (z09 .u8 32 l) (.array 32 5) (by rw [← hlb];exact h4) Tryz.underlying24 rfl (by rw [z0b];exact z0P) ?_;rw [← z0B])
    | (refine wpList_load_mid rfl 24 (.tmp 5) rfl (w.heap.size+1) 0 rfl (z09 .u8 32 r) (.array 32 5) (by rw [← hrb];exact h5) Tryz.underlying24 rfl (by rw [z0b];exact z0P) ?_;rw [← z0B]))
  rw [← hzb]
  refine (ct _).mono ?_
  rintro e w2 ⟨a',c',rfl,hown,hb⟩
  rw [← hW] at hown hb
  clear ct h4 h5 hW hzb hlb hrb
  have S:Aside (Has w2 zb (UARR .u8 32 fun _=>0) 24∧Below w.heap.size w w2):=⟨R.out.1.keep hb,R.out.2.1.trans (hb.mono R.out.2.1.size)⟩
  have cs:=z3M d hown (z1N (by decide) (z24 (z15 H.out.1) (z15 H.out.2))) (by simp)
  have Z:Aside (w.heap.size≤zb):=R.out.2.2
  clear hown hb R
  go_wp2_with fail
  refine cs.mono ?_
  rintro e w3 ⟨rfl,hb3⟩
  have hb4:Below w2.heap.size w2 w3:=((Below.refl _ _).alloc (Nat.le_refl _) _).trans (hb3.mono (by simp))
  have S2:Aside (Has w3 zb (UARR .u8 32 fun _=>0) 24∧Below w.heap.size w w3):=⟨S.out.1.keep hb4,S.out.2.trans (hb4.mono S.out.2.size)⟩
  clear cs hb3 hb4 S
  go_wp2_with (first
    | (refine wpList_store_row rfl 24 _ _ rfl _ _ rfl rfl _ _ S2.out.1 (z04 _) (by rw [z03,z03]) (z0n _ _ _) ?_))
  refine bodyPost_ret (v:=.agg (UARR .u8 32 (z08 d (1 :: ((List.range 32).map l ++ (List.range 32).map r))))) ?_ rfl ⟨rfl,z0d S2.out.2 Z.out _⟩
  exact results_cell_row rfl _ _ zb 24 _ (0,0) _ rfl (S2.out.1.row _) Tryz.underlying24 rfl (z04 _)
theorem zbW (d:Int) (l r:Nat→Nat) (hl:∀ i,l i<256) (hr:∀ i,r i<256) (w:World):Calls Tryz.prog 35 #[.int .i64 d,.agg (UARR .u8 32 l),.agg (UARR .u8 32 r)] w fun e w'=>e=.returned (.agg (UARR .u8 32 (z08 d (2 :: ((List.range 32).map l ++ (List.range 32).map r)))))∧Below w.heap.size w w':=by
  have hz:=z18
  have ct:=fun W=>z7d l r hl hr W
  have H:Aside ((∀ i,l i<256)∧(∀ i,r i<256)):=⟨hl,hr⟩
  obtain ⟨W,zb,lb,rb,hW,hzb,hlb,hrb,R,h4,h5⟩:∃ W zb lb rb,W=((w.alloc (.cells (UARR .u8 32 l) 24)).alloc (.cells (UARR .u8 32 r) 24)).alloc (.cells (UARR .u8 32 fun _=>0) 24)∧zb=w.heap.size+1+1∧lb=w.heap.size∧rb=w.heap.size+1∧Aside (Has W zb (UARR .u8 32 fun _=>0) 24∧Below w.heap.size w W∧w.heap.size≤zb)∧W.rangeAt lb 0 (z09 .u8 32 l)∧W.rangeAt rb 0 (z09 .u8 32 r):=by
    refine ⟨_,_,_,_,rfl,rfl,rfl,rfl,⟨Has.at _ _ _ (by simp),(((Below.refl _ _).alloc (Nat.le_refl _) _).alloc (by simp) _).alloc (by simp;omega) _,by omega⟩,(((Has.new w _ _).alloc _).alloc _).whole,((Has.at _ _ _ (by simp)).alloc _).whole⟩
  clear hl hr
  go_enter Tryz.func35,Tryz.ntmps35
  go_wp2_with (first
    | (rw [← hW];refine wpList_load_mid rfl 24 (.tmp 4) rfl w.heap.size 0 rfl (z09 .u8 32 l) (.array 32 5) (by rw [← hlb];exact h4) Tryz.underlying24 rfl (by rw [z0b];exact z0P) ?_;rw [← z0B])
    | (refine wpList_load_mid rfl 24 (.tmp 5) rfl (w.heap.size+1) 0 rfl (z09 .u8 32 r) (.array 32 5) (by rw [← hrb];exact h5) Tryz.underlying24 rfl (by rw [z0b];exact z0P) ?_;rw [← z0B]))
  rw [← hzb]
  refine (ct _).mono ?_
  rintro e w2 ⟨a',c',rfl,hown,hb⟩
  rw [← hW] at hown hb
  clear ct h4 h5 hW hzb hlb hrb
  have S:Aside (Has w2 zb (UARR .u8 32 fun _=>0) 24∧Below w.heap.size w w2):=⟨R.out.1.keep hb,R.out.2.1.trans (hb.mono R.out.2.1.size)⟩
  have cs:=z3M d hown (z1N (by decide) (z24 (z15 H.out.1) (z15 H.out.2))) (by simp)
  have Z:Aside (w.heap.size≤zb):=R.out.2.2
  clear hown hb R
  go_wp2_with fail
  refine cs.mono ?_
  rintro e w3 ⟨rfl,hb3⟩
  have hb4:Below w2.heap.size w2 w3:=((Below.refl _ _).alloc (Nat.le_refl _) _).trans (hb3.mono (by simp))
  have S2:Aside (Has w3 zb (UARR .u8 32 fun _=>0) 24∧Below w.heap.size w w3):=⟨S.out.1.keep hb4,S.out.2.trans (hb4.mono S.out.2.size)⟩
  clear cs hb3 hb4 S
  go_wp2_with (first
    | (refine wpList_store_row rfl 24 _ _ rfl _ _ rfl rfl _ _ S2.out.1 (z04 _) (by rw [z03,z03]) (z0n _ _ _) ?_))
  refine bodyPost_ret (v:=.agg (UARR .u8 32 (z08 d (2 :: ((List.range 32).map l ++ (List.range 32).map r))))) ?_ rfl ⟨rfl,z0d S2.out.2 Z.out _⟩
  exact results_cell_row rfl _ _ zb 24 _ (0,0) _ rfl (S2.out.1.row _) Tryz.underlying24 rfl (z04 _)
theorem zbX (d:Int) (n:Nat) (hn:n<2 ^ 64) (r:Nat→Nat) (hr:∀ i,r i<256) (w:World):Calls Tryz.prog 34 #[.int .i64 d,.int .u64 (n:Int),.agg (UARR .u8 32 r)] w fun e w'=>e=.returned (.agg (UARR .u8 32 (z08 d (3 :: (BE8 n ++ (List.range 32).map r)))))∧Below w.heap.size w w':=by
  have hz:=z18
  have ct:=fun W=>z7e n hn r hr W
  have H:Aside ((∀ i,r i<256)):=hr
  obtain ⟨W,zb,rb,hW,hzb,hrb,R,h5⟩:∃ W zb rb,W=(w.alloc (.cells (UARR .u8 32 r) 24)).alloc (.cells (UARR .u8 32 fun _=>0) 24)∧zb=w.heap.size+1∧rb=w.heap.size∧Aside (Has W zb (UARR .u8 32 fun _=>0) 24∧Below w.heap.size w W∧w.heap.size≤zb)∧W.rangeAt rb 0 (z09 .u8 32 r):=by
    refine ⟨_,_,_,rfl,rfl,rfl,⟨Has.at _ _ _ (by simp),((Below.refl _ _).alloc (Nat.le_refl _) _).alloc (by simp) _,by omega⟩,((Has.new w _ _).alloc _).whole⟩
  clear hn hr
  go_enter Tryz.func34,Tryz.ntmps34
  go_wp2_with (first
    | (rw [← hW];refine wpList_load_mid rfl 24 (.tmp 5) rfl w.heap.size 0 rfl (z09 .u8 32 r) (.array 32 5) (by rw [← hrb];exact h5) Tryz.underlying24 rfl (by rw [z0b];exact z0P) ?_;rw [← z0B]))
  rw [← hzb]
  refine (ct _).mono ?_
  rintro e w2 ⟨a',c',rfl,hown,hb⟩
  rw [← hW] at hown hb
  clear ct h5 hW hzb hrb
  have S:Aside (Has w2 zb (UARR .u8 32 fun _=>0) 24∧Below w.heap.size w w2):=⟨R.out.1.keep hb,R.out.2.1.trans (hb.mono R.out.2.1.size)⟩
  have cs:=z3M d hown (z1N (by decide) (z24 (z7w n) (z15 H.out))) (by simp [BE8])
  have Z:Aside (w.heap.size≤zb):=R.out.2.2
  clear hown hb R
  go_wp2_with fail
  refine cs.mono ?_
  rintro e w3 ⟨rfl,hb3⟩
  have hb4:Below w2.heap.size w2 w3:=((Below.refl _ _).alloc (Nat.le_refl _) _).trans (hb3.mono (by simp))
  have S2:Aside (Has w3 zb (UARR .u8 32 fun _=>0) 24∧Below w.heap.size w w3):=⟨S.out.1.keep hb4,S.out.2.trans (hb4.mono S.out.2.size)⟩
  clear cs hb3 hb4 S
  go_wp2_with (first
    | (refine wpList_store_row rfl 24 _ _ rfl _ _ rfl rfl _ _ S2.out.1 (z04 _) (by rw [z03,z03]) (z0n _ _ _) ?_))
  refine bodyPost_ret (v:=.agg (UARR .u8 32 (z08 d (3 :: (BE8 n ++ (List.range 32).map r))))) ?_ rfl ⟨rfl,z0d S2.out.2 Z.out _⟩
  exact results_cell_row rfl _ _ zb 24 _ (0,0) _ rfl (S2.out.1.row _) Tryz.underlying24 rfl (z04 _)
end Go.Proofs.YthpdlnbbbcgemaaGreatDoor.HX

namespace Go.Proofs.YthpdlnbbbcgemaaGreatDoor
open Go.RowKit
set_option maxHeartbeats 1000000 in
theorem z5w (X:Nat) (hX:X<2 ^ 64) (w:World):Calls Tryz.prog 58 #[.int .u64 (X:Int)] w fun e w'=>
    ∃ g cap,e=.returned (.slice (some ⟨g,0,none⟩) (NTOP X+1) cap)∧w'.ownsRow w.heap.size 5 1 (.slice (some ⟨g,0,none⟩) (NTOP X+1) cap) (NTOP X+1) (z01 (z0w X))∧g<w'.heap.size∧Below w.heap.size w w':=by
  have HX:Aside (X<2 ^ 64):=hX
  clear hX
  go_enter Tryz.func58,Tryz.ntmps58
  go_wp2
  go_loopg [0,3] 10 (fun g s0 s3 wx=>∃ (j x:Nat),j+g=10∧Aside (x=X / 128 ^ j∧(∀ i,i<j→128≤X / 128 ^ i)∧wx.ownsRow w.heap.size 5 1 s3 j (z01 (z1p X j))∧Below w.heap.size w wx)∧s0=.int .u64 (x:Int))
  case atStart=>exact ⟨0,X,by omega,⟨by simp,fun i hi=>by omega,World.ownsRow_nil _ _ _ _,Below.refl _ _⟩,rfl⟩
  case round=>
    obtain ⟨j,x,hjg,A,rfl⟩:=hrel
    have hxl:(x:Int)≤18446744073709551615:=by
      have:=Nat.div_le_self X (128 ^ j)
      have h1:=A.out.1
      have h2:=HX.out
      omega
    have HXL:Aside ((x:Int)≤18446744073709551615):=hxl
    clear hxl
    by_cases hx:128≤(x:Int)
    · go_wp2_with (at_builtin;refine z1o _ rfl (.tmp 6) (.tmp 11) rfl w.heap.size u3 j (z1p X j) rfl (A.out.2.2.1.alloc _) wr.heap.size 0 1 1 [(x:Int) % 128+128] rfl (z3s wr _ (by omega) (by omega)) (by omega) (by omega) (by have:=A.out.2.2.2.size;simp;omega) ?_;intro g cap w1 hown hgrow hg)
      have R:(x / 128=X / 128 ^ (j+1))∧(∀ i,i<j+1→128≤X / 128 ^ i)∧w1.ownsRow w.heap.size 5 1 (.slice (some ⟨g,0,none⟩) (j+1) cap) (j+1) (z01 (z1p X (j+1)))∧Below w.heap.size w w1:=by
        obtain ⟨hxe,hall,hown0,hb⟩:=A.out
        refine ⟨by rw [hxe,Nat.div_div_eq_div_mul,← Nat.pow_succ],fun i hi=>?_,?_,?_⟩
        · by_cases e:i=j
          · rw [e,← hxe];omega
          · exact hall i (by omega)
        · rw [z9z,show ((X / 128 ^ j % 128+128:Nat):Int)=(x:Int) % 128+128 by rw [← hxe];omega]
          exact hown
        · exact (hb.alloc hb.size _).grown hgrow (by have:=hb.size;simp;omega) (fun k e=>(hown0.lt k e).1)
      have HR:Aside ((x / 128=X / 128 ^ (j+1))∧(∀ i,i<j+1→128≤X / 128 ^ i)∧w1.ownsRow w.heap.size 5 1 (.slice (some ⟨g,0,none⟩) (j+1) cap) (j+1) (z01 (z1p X (j+1)))∧Below w.heap.size w w1):=R
      have hj9:j<9:=by
        obtain ⟨hxe,hall,_,_⟩:=A.out
        rcases Nat.lt_or_ge j 9 with h | h
        · exact h
        · have h1:=ze4 X h
          have h2:X / 128 ^ 9<2:=Nat.div_lt_of_lt_mul (Nat.lt_of_lt_of_le HX.out (by decide))
          omega
      clear hown hgrow hg R A
      go_wp2
      go_roundg (gk - 1)
      case measure=>omega
      case rel=>exact ⟨j+1,x / 128,by omega,HR,by have:=HXL.out;rw [show IntKind.u64.wrap ((x:Int) / 128)=((x / 128:Nat):Int) by rw [z06];omega]⟩
    · go_wp2_with (at_builtin;refine z1o _ rfl (.tmp 15) (.tmp 18) rfl w.heap.size u3 j (z1p X j) rfl (A.out.2.2.1.alloc _) wr.heap.size 0 1 1 [(x:Int)] rfl (z3s wr _ (by omega) (by omega)) (by omega) (by omega) (by have:=A.out.2.2.2.size;simp;omega) ?_;intro g cap w1 hown hgrow hg)
      obtain ⟨hxe,hall,hown0,hb⟩:=A.out
      have hN:NTOP X=j:=zas HX.out hall (by rw [← hxe];omega)
      have R:w1.ownsRow w.heap.size 5 1 (.slice (some ⟨g,0,none⟩) (NTOP X+1) cap) (NTOP X+1) (z01 (z0w X))∧g<w1.heap.size∧Below w.heap.size w w1:=by
        refine ⟨?_,hg,(hb.alloc hb.size _).grown hgrow (by have:=hb.size;simp;omega) (fun k e=>(hown0.lt k e).1)⟩
        unfold z0w
        rw [hN,← hxe]
        exact hown
      have HR:Aside (w1.ownsRow w.heap.size 5 1 (.slice (some ⟨g,0,none⟩) (NTOP X+1) cap) (NTOP X+1) (z01 (z0w X))∧g<w1.heap.size∧Below w.heap.size w w1):=R
      have HN:Aside (NTOP X=j):=hN
      clear hown hgrow hg R A hxe hall hown0 hb hN
      go_wp2
      go_ret
      obtain ⟨h1,h2,h3⟩:=HR.out
      refine ⟨g,cap,?_,h1,h2,h3⟩
      rw [HN.out]
      rfl
end Go.Proofs.YthpdlnbbbcgemaaGreatDoor

namespace Go.Proofs.YthpdlnbbbcgemaaGreatDoor
open Go.RowKit
theorem z86 (a:Option Addr) (c:Nat) (w:World):Calls Tryz.prog 27 #[.slice a 0 c] w fun e w'=>e=.returned (.tuple #[.int .u64 0,.int .i64 0,.int .i64 11])∧w=w':=by
  go_enter Tryz.func27,Tryz.ntmps27
  go_wp2
  refine wp_loop_rounds 1 ?_
  rw [rounds_succ]
  go_wp2
  go_ret3
  exact ⟨rfl,rfl⟩
def Tops (d:Nat→Nat) (j:Nat) (x:Int) (V:Nat):Prop:=∃ y:Nat,x=(y:Int)∧VAL d j+y*128 ^ j=V
theorem Tops.down {d:Nat→Nat} {j V:Nat} {x v:Int} (A:Tops d (j+1) x V) (hV:V<2 ^ 64) (hv:(v % 128).toNat=d j):Tops d j (IntKind.u64.wrap (IntKind.u64.wrap (128*x)+v % 128)) V:=by
  obtain ⟨y,rfl,hy⟩:=A
  have e:VAL d j+(128*y+d j)*128 ^ j=V:=by
    rw [← hy,VAL,Nat.add_mul,Nat.pow_succ,Nat.mul_comm 128 y,Nat.mul_assoc,Nat.mul_comm 128 (128 ^ j)]
    omega
  have hl:128*y+d j≤V:=by
    have h1:(128*y+d j)*1≤(128*y+d j)*128 ^ j:=Nat.mul_le_mul_left _ (Nat.pow_pos (by decide))
    omega
  refine ⟨128*y+d j,?_,e⟩
  rw [z06,z06,← hv]
  omega
theorem zdo {l:List Int} {n:Nat} (hn:10≤n) (h:∀ i,i<10→128≤l.getD i 0):LG l n 10 0 0=(0,0,10):=by
  have:=z4V 10 0 h (fun i hi=>by omega) (n:=n)
  simpa [LG] using this
theorem zdp {l:List Int} {n:Nat} (hn:n<10) (h:∀ i,i<n→128≤l.getD i 0):LG l n 10 0 0=(0,0,11):=by
  have:=z4V n (9 - n+1) h (fun i hi=>by omega) (n:=n)
  rw [show 9 - n+1+n=10 by omega,z9e rfl] at this
  exact this
theorem zgh {l:List Int} {n m:Nat} (hm:m≤9) (hmn:m<n) (h:∀ i,i<m→128≤l.getD i 0) (h1:¬ 128≤l.getD m 0):
    LG l n 10 0 0=if m=9∧1<l.getD m 0 then (0,0,10) else if l.getD m 0=0∧0<m then (0,0,12) else ((VAL (DIG l) m:Nat)+l.getD m 0*128 ^ m,(m:Int)+1,0):=by
  rw [show 10=9 - m+1+m by omega,z4V m (9 - m+1) h (fun i hi=>by omega),z6t (by omega) h1]
theorem z9m {l:List Int} {k:Nat} {v r1:Int} (hr:∀ i,0≤l.getD i 0∧l.getD i 0≤255) (hv:l.getD k 0=v) (hk:k≤9) (h1:v<128) (h9:k=9→v≤1) (he:r1=(VAL (DIG l) k:Nat)+v*128 ^ k):
    Tops (DIG l) (k+1) 0 (VAL (DIG l) (k+1))∧VAL (DIG l) (k+1)<2 ^ 64∧r1=((VAL (DIG l) (k+1):Nat):Int):=by
  have hd:((DIG l k:Nat):Int)=v:=by
    have:=hr k
    unfold DIG
    rw [hv] at this ⊢
    omega
  have hvl:=z4U (z9g l) k
  refine ⟨⟨0,rfl,by simp⟩,?_,?_⟩
  · rw [VAL]
    by_cases h:k=9
    · subst h
      have:=h9 rfl
      have hd1:DIG l 9≤1:=by omega
      have h3:DIG l 9*128 ^ 9≤1*128 ^ 9:=Nat.mul_le_mul_right _ hd1
      omega
    · have h8:=Nat.pow_le_pow_right (n:=128) (by decide) (show k≤8 by omega)
      have h5:DIG l k*128 ^ k≤127*128 ^ 8:=Nat.mul_le_mul (by have:=z9g l k;omega) h8
      omega
  · rw [he,VAL,Int.natCast_add,Int.natCast_mul,Int.natCast_pow,hd]
    rfl
set_option maxHeartbeats 4000000 in
theorem za2 (b off n c:Nat) (l:List Int) (r1 r2 r3:Int) (hR:Aside (LG l n 10 0 0=(r1,r2,r3))) (w:World) (hB:Bytes w (some ⟨b,off,none⟩) n l) (h0:0<n) (hmax:n≤140737488355328):
    Calls Tryz.prog 27 #[.slice (some ⟨b,off,none⟩) n c] w fun e w'=>e=.returned (.tuple #[.int .u64 r1,.int .i64 r2,.int .i64 r3])∧w=w':=by
  obtain ⟨b',off',e,_,hc0⟩:=hB.2.1 h0
  simp only [Option.some.injEq,Addr.mk.injEq] at e
  obtain ⟨rfl,rfl,_⟩:=e
  have HC:Aside ((∀ i,i<n→w.cell? ⟨b,off+i,none⟩=some (.int .u8 (l.getD i 0)))∧∀ i,0≤l.getD i 0∧l.getD i 0≤255):=⟨hc0,hB.get⟩
  clear hB hc0
  go_enter Tryz.func27,Tryz.ntmps27
  go_wp2
  go_loop [5] (fun s5=>∃ k:Nat,k≤n∧k≤10∧Aside (∀ i,i<k→128≤l.getD i 0)∧s5=.int .i64 k) (fun i=>10 - (intOf i).toNat)
  case atStart=>exact ⟨0,by omega,by omega,fun i hi=>by omega,rfl⟩
  case round=>
    obtain ⟨k,hkn,hk10,A,rfl⟩:=hrel
    by_cases hlt:(k:Int)<(n:Int)
    · by_cases h10:(k:Int)<10
      · have hc := HC.out.1 k (by omega)
        have hcb:=HC.out.2 k
        generalize hv:l.getD k 0=v at hc hcb
        have Hv:Aside (l.getD k 0=v):=hv
        clear hv
        have hv0:=hcb.1
        have hv1:=hcb.2
        clear hcb
        by_cases h128:128≤v
        · go_wp2
          go_round
          case rel=>
            refine ⟨k+1,by omega,by omega,fun i hi=>?_,by go_num⟩
            by_cases e:i=k
            · rw [e,Hv.out];exact h128
            · exact A.out i (by omega)
          case measure=>first | (simp [intOf];done) | (simp [intOf];omega)
        · have hst := zgh (l:=l) (n:=n) (m:=k) (by omega) (by omega) A.out (by rw [Hv.out];exact h128)
          rw [Hv.out,hR.out] at hst
          have hk10':((k:Int) == 10)=false:=by simp;omega
          have hkn':((k:Int) == (n:Int))=false:=by simp;omega
          by_cases h9:k=9
          · subst h9
            by_cases hr:1<v
            · rw [if_pos ⟨rfl,hr⟩] at hst
              simp only [Prod.mk.injEq] at hst
              obtain ⟨rfl,rfl,rfl⟩:=hst
              clear A
              go_wp2
              go_ret3
              exact ⟨rfl,rfl⟩
            · rw [if_neg (fun h=>hr h.2)] at hst
              by_cases hz:v=0
              · subst hz
                rw [if_pos ⟨rfl,by decide⟩] at hst
                simp only [Prod.mk.injEq] at hst
                obtain ⟨rfl,rfl,rfl⟩:=hst
                clear A
                go_wp2
                go_ret3
                exact ⟨rfl,rfl⟩
              · rw [if_neg (fun h=>hz h.1)] at hst
                simp only [Prod.mk.injEq] at hst
                have hvb:(v == 0)=false:=by simp [hz]
                clear hz
                have HV:Aside (Tops (DIG l) (9+1) 0 (VAL (DIG l) (9+1))∧VAL (DIG l) (9+1)<2 ^ 64∧r1=((VAL (DIG l) (9+1):Nat):Int)):=z9m (HC.out.2) Hv.out (by omega) (by omega) (by omega) hst.1
                obtain ⟨_,rfl,rfl⟩:=hst
                clear A
                go_wp2
                go_loop [6,7] (fun s6 s7=>∃ (j:Nat) (x:Int),j≤9+1∧Aside (Tops (DIG l) j x (VAL (DIG l) (9+1)))∧s6=.int .u64 x∧s7=.int .i64 ((j:Int) - 1)) (fun _ s=>(intOf s+1).toNat)
                case atStart=>exact ⟨9+1,0,Nat.le_refl _,HV.out.1,rfl,by first | rfl | go_num⟩
                case round=>
                  obtain ⟨j,x,hj,B,rfl,rfl⟩:=hrel
                  cases j with
                  | zero=>
                    obtain rfl:x=r1:=by
                      obtain ⟨y,rfl,hy⟩:=B.out
                      rw [HV.out.2.2,← hy]
                      simp [VAL]
                    clear B HV
                    go_wp2
                    go_ret3
                    exact ⟨rfl,rfl⟩
                  | succ i=>
                    have hi1:((i+1:Nat):Int) - 1=(i:Int):=by omega
                    rw [hi1]
                    have hi0:(0:Int)≤(i:Int):=by omega
                    have hin:(i:Int)<(n:Int):=by omega
                    have hci:=HC.out.1 i (by omega)
                    have hcbi:=HC.out.2 i
                    generalize hvi:l.getD i 0=u at hci hcbi
                    have Hu:Aside (l.getD i 0=u):=hvi
                    clear hvi hi1
                    have hu0:=hcbi.1
                    have hu1:=hcbi.2
                    clear hcbi
                    go_wp2
                    go_round
                    case rel=>exact ⟨i,_,by omega,B.out.down HV.out.2.1 (by unfold DIG;rw [Hu.out]),rfl,by go_num⟩
                    case measure=>first | (simp [intOf];done) | (simp [intOf];omega)
          · rw [if_neg (fun h=>h9 h.1)] at hst
            have h9':((k:Int) == 9)=false:=by simp;omega
            by_cases hk0:k=0
            · subst hk0
              rw [if_neg (fun h=>by omega)] at hst
              rw [Nat.add_zero] at hc
              simp only [Prod.mk.injEq] at hst
              have HV:Aside (Tops (DIG l) (0+1) 0 (VAL (DIG l) (0+1))∧VAL (DIG l) (0+1)<2 ^ 64∧r1=((VAL (DIG l) (0+1):Nat):Int)):=z9m (HC.out.2) Hv.out (by omega) (by omega) (by omega) hst.1
              obtain ⟨_,rfl,rfl⟩:=hst
              clear A
              go_wp2
              go_loop [6,7] (fun s6 s7=>∃ (j:Nat) (x:Int),j≤0+1∧Aside (Tops (DIG l) j x (VAL (DIG l) (0+1)))∧s6=.int .u64 x∧s7=.int .i64 ((j:Int) - 1)) (fun _ s=>(intOf s+1).toNat)
              case atStart=>exact ⟨0+1,0,Nat.le_refl _,HV.out.1,rfl,by first | rfl | go_num⟩
              case round=>
                obtain ⟨j,x,hj,B,rfl,rfl⟩:=hrel
                cases j with
                | zero=>
                  obtain rfl:x=r1:=by
                    obtain ⟨y,rfl,hy⟩:=B.out
                    rw [HV.out.2.2,← hy]
                    simp [VAL]
                  clear B HV
                  go_wp2
                  go_ret3
                  exact ⟨rfl,rfl⟩
                | succ i=>
                  have hi1:((i+1:Nat):Int) - 1=(i:Int):=by omega
                  rw [hi1]
                  have hi0:(0:Int)≤(i:Int):=by omega
                  have hin:(i:Int)<(n:Int):=by omega
                  have hci:=HC.out.1 i (by omega)
                  have hcbi:=HC.out.2 i
                  generalize hvi:l.getD i 0=u at hci hcbi
                  have Hu:Aside (l.getD i 0=u):=hvi
                  clear hvi hi1
                  have hu0:=hcbi.1
                  have hu1:=hcbi.2
                  clear hcbi
                  go_wp2
                  go_round
                  case rel=>exact ⟨i,_,by omega,B.out.down HV.out.2.1 (by unfold DIG;rw [Hu.out]),rfl,by go_num⟩
                  case measure=>first | (simp [intOf];done) | (simp [intOf];omega)
            · have hkp:0<(k:Int):=by omega
              by_cases hz:v=0
              · subst hz
                rw [if_pos ⟨rfl,by omega⟩] at hst
                simp only [Prod.mk.injEq] at hst
                obtain ⟨rfl,rfl,rfl⟩:=hst
                clear A
                go_wp2
                go_ret3
                exact ⟨rfl,rfl⟩
              · rw [if_neg (fun h=>hz h.1)] at hst
                simp only [Prod.mk.injEq] at hst
                have hvb:(v == 0)=false:=by simp [hz]
                clear hz
                have HV:Aside (Tops (DIG l) (k+1) 0 (VAL (DIG l) (k+1))∧VAL (DIG l) (k+1)<2 ^ 64∧r1=((VAL (DIG l) (k+1):Nat):Int)):=z9m (HC.out.2) Hv.out (by omega) (by omega) (by omega) hst.1
                obtain ⟨_,rfl,rfl⟩:=hst
                clear A
                go_wp2
                go_loop [6,7] (fun s6 s7=>∃ (j:Nat) (x:Int),j≤k+1∧Aside (Tops (DIG l) j x (VAL (DIG l) (k+1)))∧s6=.int .u64 x∧s7=.int .i64 ((j:Int) - 1)) (fun _ s=>(intOf s+1).toNat)
                case atStart=>exact ⟨k+1,0,Nat.le_refl _,HV.out.1,rfl,by first | rfl | go_num⟩
                case round=>
                  obtain ⟨j,x,hj,B,rfl,rfl⟩:=hrel
                  cases j with
                  | zero=>
                    obtain rfl:x=r1:=by
                      obtain ⟨y,rfl,hy⟩:=B.out
                      rw [HV.out.2.2,← hy]
                      simp [VAL]
                    clear B HV
                    go_wp2
                    go_ret3
                    exact ⟨rfl,rfl⟩
                  | succ i=>
                    have hi1:((i+1:Nat):Int) - 1=(i:Int):=by omega
                    rw [hi1]
                    have hi0:(0:Int)≤(i:Int):=by omega
                    have hin:(i:Int)<(n:Int):=by omega
                    have hci:=HC.out.1 i (by omega)
                    have hcbi:=HC.out.2 i
                    generalize hvi:l.getD i 0=u at hci hcbi
                    have Hu:Aside (l.getD i 0=u):=hvi
                    clear hvi hi1
                    have hu0:=hcbi.1
                    have hu1:=hcbi.2
                    clear hcbi
                    go_wp2
                    go_round
                    case rel=>exact ⟨i,_,by omega,B.out.down HV.out.2.1 (by unfold DIG;rw [Hu.out]),rfl,by go_num⟩
                    case measure=>first | (simp [intOf];done) | (simp [intOf];omega)
      · obtain rfl:k=10:=by omega
        have hall:=zdo (n:=n) (by omega) A.out
        rw [hR.out] at hall
        simp only [Prod.mk.injEq] at hall
        obtain ⟨rfl,rfl,rfl⟩:=hall
        clear A
        go_wp2
        go_ret3
        exact ⟨rfl,rfl⟩
    · obtain rfl:k=n:=by omega
      by_cases h10:k=10
      · subst h10
        have hall:=zdo (n:=10) (by omega) A.out
        rw [hR.out] at hall
        simp only [Prod.mk.injEq] at hall
        obtain ⟨rfl,rfl,rfl⟩:=hall
        clear A
        go_wp2
        go_ret3
        exact ⟨rfl,rfl⟩
      · have hall:=zdp (l:=l) (n:=k) (by omega) A.out
        rw [hR.out] at hall
        simp only [Prod.mk.injEq] at hall
        obtain ⟨rfl,rfl,rfl⟩:=hall
        have hk10':((k:Int) == 10)=false:=by simp;omega
        clear A
        go_wp2
        go_ret3
        exact ⟨rfl,rfl⟩
theorem z6y (a:Option Addr) (n c:Nat) (l:List Int) (w:World) (hB:Bytes w a n l) (hmax:n≤140737488355328):
    Calls Tryz.prog 27 #[.slice a n c] w fun e w'=>e=.returned (.tuple #[.int .u64 (LG l n 10 0 0).1,.int .i64 (LG l n 10 0 0).2.1,.int .i64 (LG l n 10 0 0).2.2])∧w=w':=by
  rcases Nat.eq_zero_or_pos n with h | h
  · subst h
    exact z86 a c w
  · obtain ⟨b,off,rfl,_,_⟩:=hB.2.1 h
    exact za2 b off n c l _ _ _ rfl w hB h hmax
end Go.Proofs.YthpdlnbbbcgemaaGreatDoor
