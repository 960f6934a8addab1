/- Texts of VerifyPrefixes, one behind the other: HashRefTexts, HashSumTexts. -/
import Derived.Deep.RegionHeldLaw
import Derived.Deep.RegionHeld3
import Derived.Test.YtkcfhgflgkejoaaGreatDoorVerifyPrefixesP16
import Derived.Test.YtkcfhgflgkejoaaGreatDoorVerifyPrefixesP24
/- The document's texts: LeafText, NodeText, FoldText and RootText. -/
namespace Go.Proofs.YtkcfhgflgkejoaaGreatDoor.HX
open Go.RowKit
set_option maxRecDepth 100000

theorem own_byte (w : World) (x : Nat) (base : Nat) (hb : base ≤ w.heap.size) : (w.alloc (.cells #[.int .u8 (x : Int)] 5)).ownsRow base 5 1 (.slice (some ⟨w.heap.size,0,none⟩) 1 1) 1 (CELLS (INTS [x])) :=
  ⟨rfl,.inr ⟨w.heap.size,1,#[.int .u8 (x : Int)],rfl,hb,by first | exact (Has.new w _ _) | exact (Has.new w _ _).1 | simp,by decide,by decide,rfl,rfl⟩⟩
/-- what the region of two appends wants, and what it leaves. -/
theorem two_apps {w w1 : World} {x : Nat} {ba bb m1 m2 : Nat} {l1 l2 : List Nat} (hb : Below w.heap.size w w1) (h1 : Text w1 (some ⟨ba,0,none⟩) m1 l1) (h2 : Text w1 (some ⟨bb,0,none⟩) m2 l2) :
    Aside (Bytes (w1.alloc (.cells #[.int .u8 (x : Int)] 5)) (some ⟨ba,0,none⟩) m1 (INTS l1) ∧ (w1.alloc (.cells #[.int .u8 (x : Int)] 5)).ownsRow w.heap.size 5 1 (.slice (some ⟨w1.heap.size,0,none⟩) 1 1) 1 (CELLS (INTS [x])) ∧ w.heap.size ≤ w1.heap.size ∧
      (∀ w',(w1.alloc (.cells #[.int .u8 (x : Int)] 5)).grownBy w' (some w1.heap.size) → Bytes w' (some ⟨bb,0,none⟩) m2 (INTS l2) ∧ w.heap.size ≤ w'.heap.size ∧ Below w.heap.size w w' ∧ w1.heap.size < w'.heap.size)) := by
  refine ⟨(h1.below ((Below.refl _ _).alloc (Nat.le_refl _) _)).bytes,own_byte w1 x _ hb.size,hb.size,fun w' hg => ?_⟩
  have hb' : Below w1.heap.size w1 w' := ((Below.refl _ _).alloc (Nat.le_refl _) _).grown hg (by simp) (fun k e => by cases e; exact Nat.le_refl _)
  have hs := hg.size
  simp at hs
  exact ⟨(h2.below hb').bytes,Nat.le_trans hb.size hb'.size,hb.trans (hb'.mono hb.size),by omega⟩
theorem refnodetext_ok (l r : Nat → Nat) (hl : ∀ i,l i < 256) (hr : ∀ i,r i < 256) (w : World) : Calls Tryz.prog 78 #[.agg (UARR .u8 32 l),.agg (UARR .u8 32 r)] w fun e w' =>
    ∃ a' c',e = .returned (.slice a' 65 c') ∧ w'.ownsRow w.heap.size 5 1 (.slice a' 65 c') 65 (CELLS (INTS (1 :: ((List.range 32).map l ++ (List.range 32).map r)))) ∧ Below w.heap.size w w' := by
  have hs32 := slice_whole
  obtain ⟨w1,hw1⟩ : ∃ w1,w1 = (w.alloc (.cells (UARR .u8 32 l) 23)).alloc (.cells (UARR .u8 32 r) 23) := ⟨_,rfl⟩
  have U : Below w.heap.size w w1 ∧ Has w1 w.heap.size (UARR .u8 32 l) 23 ∧ Has w1 (w.heap.size + 1) (UARR .u8 32 r) 23 := by
    rw [hw1]
    exact ⟨((Below.refl _ _).alloc (Nat.le_refl _) _).alloc (by simp) _,(Has.new w _ _).alloc _,Has.at _ _ _ (by simp)⟩
  have T1 := two_apps (x := 1) U.1.drew (Has.text (w := w1.drew) U.2.1 hl) (Has.text (w := w1.drew) U.2.2 hr)
  clear U hl hr
  go_enter Tryz.func78,Tryz.ntmps78
  go_wp2_with fail
  rw [← hw1]
  clear hw1
  generalize hh : w.heap.size + 1 = h at *
  clear hh
  go_region_held_law (fun _ => True) (trivial) (first
    | (refine step_u8 _ (by rfl) (.tmp 5) (.tmp 6) (by rfl) w.heap.size _ 1 (INTS [1]) (by rfl) T1.out.2.1 w.heap.size 0 32 32 (INTS ((List.range 32).map l)) (by rfl) T1.out.1 (by decide) (by decide) (by have := T1.out.2.2.1; simp at this ⊢; omega) 33 rfl ?_; intro g5 c5 w5 hown5 hgrow5 hat5 hlt5)
    | (refine step_u8 _ (by rfl) (.tmp 7) (.tmp 8) (by rfl) w.heap.size _ 33 _ (by rfl) hown5 h 0 32 32 (INTS ((List.range 32).map r)) (by rfl) (T1.out.2.2.2 _ hgrow5).1 (by decide) (by decide) (T1.out.2.2.2 _ hgrow5).2.1 65 rfl ?_; intro g6 c6 w6 hown6 hgrow6 hat6 hlt6))
  have S : Aside (w6.ownsRow w.heap.size 5 1 (.slice (some ⟨g6,0,none⟩) 65 c6) 65 (CELLS (INTS (1 :: ((List.range 32).map l ++ (List.range 32).map r)))) ∧ Below w.heap.size w w6) := by
    have hb5 := (T1.out.2.2.2 _ hgrow5).2.2.1
    refine ⟨?_,hb5.grown hgrow6 hb5.size (fun k e => (hown5.lt k e).1)⟩
    have e : INTS [1] ++ INTS ((List.range 32).map l) ++ INTS ((List.range 32).map r) = INTS (1 :: ((List.range 32).map l ++ (List.range 32).map r)) := by simp [INTS]
    rw [e] at hown6
    exact hown6
  clear hown5 hgrow5 hat5 hlt5 hown6 hgrow6 hat6 hlt6 T1
  go_simp
  go_wp2
  go_ret
  exact ⟨_,_,rfl,S.out.1,S.out.2⟩
theorem reffoldtext_ok (l r : Nat → Nat) (hl : ∀ i,l i < 256) (hr : ∀ i,r i < 256) (w : World) : Calls Tryz.prog 80 #[.agg (UARR .u8 32 l),.agg (UARR .u8 32 r)] w fun e w' =>
    ∃ a' c',e = .returned (.slice a' 65 c') ∧ w'.ownsRow w.heap.size 5 1 (.slice a' 65 c') 65 (CELLS (INTS (2 :: ((List.range 32).map l ++ (List.range 32).map r)))) ∧ Below w.heap.size w w' := by
  have hs32 := slice_whole
  obtain ⟨w1,hw1⟩ : ∃ w1,w1 = (w.alloc (.cells (UARR .u8 32 l) 23)).alloc (.cells (UARR .u8 32 r) 23) := ⟨_,rfl⟩
  have U : Below w.heap.size w w1 ∧ Has w1 w.heap.size (UARR .u8 32 l) 23 ∧ Has w1 (w.heap.size + 1) (UARR .u8 32 r) 23 := by
    rw [hw1]
    exact ⟨((Below.refl _ _).alloc (Nat.le_refl _) _).alloc (by simp) _,(Has.new w _ _).alloc _,Has.at _ _ _ (by simp)⟩
  have T1 := two_apps (x := 2) U.1.drew (Has.text (w := w1.drew) U.2.1 hl) (Has.text (w := w1.drew) U.2.2 hr)
  clear U hl hr
  go_enter Tryz.func80,Tryz.ntmps80
  go_wp2_with fail
  rw [← hw1]
  clear hw1
  generalize hh : w.heap.size + 1 = h at *
  clear hh
  go_region_held_law (fun _ => True) (trivial) (first
    | (refine step_u8 _ (by rfl) (.tmp 5) (.tmp 6) (by rfl) w.heap.size _ 1 (INTS [2]) (by rfl) T1.out.2.1 w.heap.size 0 32 32 (INTS ((List.range 32).map l)) (by rfl) T1.out.1 (by decide) (by decide) (by have := T1.out.2.2.1; simp at this ⊢; omega) 33 rfl ?_; intro g5 c5 w5 hown5 hgrow5 hat5 hlt5)
    | (refine step_u8 _ (by rfl) (.tmp 7) (.tmp 8) (by rfl) w.heap.size _ 33 _ (by rfl) hown5 h 0 32 32 (INTS ((List.range 32).map r)) (by rfl) (T1.out.2.2.2 _ hgrow5).1 (by decide) (by decide) (T1.out.2.2.2 _ hgrow5).2.1 65 rfl ?_; intro g6 c6 w6 hown6 hgrow6 hat6 hlt6))
  have S : Aside (w6.ownsRow w.heap.size 5 1 (.slice (some ⟨g6,0,none⟩) 65 c6) 65 (CELLS (INTS (2 :: ((List.range 32).map l ++ (List.range 32).map r)))) ∧ Below w.heap.size w w6) := by
    have hb5 := (T1.out.2.2.2 _ hgrow5).2.2.1
    refine ⟨?_,hb5.grown hgrow6 hb5.size (fun k e => (hown5.lt k e).1)⟩
    have e : INTS [2] ++ INTS ((List.range 32).map l) ++ INTS ((List.range 32).map r) = INTS (2 :: ((List.range 32).map l ++ (List.range 32).map r)) := by simp [INTS]
    rw [e] at hown6
    exact hown6
  clear hown5 hgrow5 hat5 hlt5 hown6 hgrow6 hat6 hlt6 T1
  go_simp
  go_wp2
  go_ret
  exact ⟨_,_,rfl,S.out.1,S.out.2⟩
theorem refroottext_ok (n : Nat) (hn : n < 2 ^ 64) (r : Nat → Nat) (hr : ∀ i,r i < 256) (w : World) : Calls Tryz.prog 79 #[.int .u64 (n : Int),.agg (UARR .u8 32 r)] w fun e w' =>
    ∃ a' c',e = .returned (.slice a' 41 c') ∧ w'.ownsRow w.heap.size 5 1 (.slice a' 41 c') 41 (CELLS (INTS (3 :: (BE8 n ++ (List.range 32).map r)))) ∧ Below w.heap.size w w' := by
  have hs32 := slice_whole
  have hs8 := slice_eight
  have hz8 := zero8b
  have H : Aside (n < 2 ^ 64 ∧ ∀ i,r i < 256) := ⟨hn,hr⟩
  clear hn hr
  go_enter Tryz.func79,Tryz.ntmps79
  go_wp2
  obtain ⟨w7,tb,hw7,htb,T⟩ : ∃ w7 tb,w7 = (w.alloc (.cells (UARR .u8 32 r) 23)).alloc (.cells (UARR .u8 8 fun _ => 0) 133) ∧ tb = w.heap.size + 1 ∧ Aside (Has w7 tb (UARR .u8 8 fun _ => 0) 133 ∧ Has w7 w.heap.size (UARR .u8 32 r) 23 ∧ Below w.heap.size w w7 ∧ w.heap.size ≠ tb ∧ w.heap.size ≤ tb) :=
    ⟨_,_,rfl,rfl,Has.at _ _ _ (by simp),(Has.new w _ _).alloc _,((Below.refl _ _).alloc (Nat.le_refl _) _).alloc (by simp) _,by omega,by omega⟩
  rw [← hw7, ← htb]
  clear hw7 htb
  go_loopg [0,6] 8 (fun q s0 s6 wx => ∃ z : Nat,s0 = .int .u64 (z : Int) ∧ s6 = .int .i64 ((q : Int) - 1) ∧ Aside (q ≤ 8 ∧ z = n / 2 ^ (8 * (8 - q)) ∧ Has wx tb (UARR .u8 8 fun j => if q ≤ j then n / 2 ^ (8 * (7 - j)) % 256 else 0) 133 ∧ Has wx w.heap.size (UARR .u8 32 r) 23 ∧ Below w.heap.size w wx))
  case atStart =>
    refine ⟨n,rfl,rfl,by omega,by simp, ?_,T.out.2.1,T.out.2.2.1⟩
    have : (UARR .u8 8 fun j => if 8 ≤ j then n / 2 ^ (8 * (7 - j)) % 256 else 0) = UARR .u8 8 fun _ => 0 := UARR_ext fun j hj => by rw [if_neg (by omega)]
    rw [this]
    exact T.out.1
  case round =>
    obtain ⟨z,rfl,rfl,A⟩ := hrel
    cases gk with
    | zero =>
      have hlt : ¬ (0 : Int) ≤ ((0 : Nat) : Int) - 1 := by omega
      have T1 : Aside (Bytes (wr.drew.alloc (.cells #[.int .u8 ((3 : Nat) : Int)] 5)) (some ⟨tb,0,none⟩) 8 (INTS (BE8 n)) ∧ (wr.drew.alloc (.cells #[.int .u8 ((3 : Nat) : Int)] 5)).ownsRow w.heap.size 5 1 (.slice (some ⟨wr.drew.heap.size,0,none⟩) 1 1) 1 (CELLS (INTS [3])) ∧ w.heap.size ≤ wr.drew.heap.size ∧
      (∀ w',(wr.drew.alloc (.cells #[.int .u8 ((3 : Nat) : Int)] 5)).grownBy w' (some wr.drew.heap.size) → Bytes w' (some ⟨w.heap.size,0,none⟩) 32 (INTS ((List.range 32).map r)) ∧ w.heap.size ≤ w'.heap.size ∧ Below w.heap.size w w' ∧ wr.drew.heap.size < w'.heap.size)) := by
        obtain ⟨-, -,hH,hr,hbel⟩ := A.out
        have h2 : Has wr tb (UARR .u8 8 fun j => n / 2 ^ (8 * (7 - j)) % 256) 133 := by simpa using hH
        have hT8 : Text wr.drew (some ⟨tb,0,none⟩) 8 (BE8 n) := has_text (w := wr.drew) (t := 133) (f := fun j => n / 2 ^ (8 * (7 - j)) % 256) h2 (fun i => Nat.mod_lt _ (by decide))
        exact two_apps (x := 3) hbel.drew hT8 (Has.text (w := wr.drew) hr H.out.2)
      clear A T hz8
      go_wp2_with fail
      go_region_held_law (fun _ => True) (trivial) (first
        | (refine step_u8 _ (by rfl) (.tmp 18) (.tmp 19) (by rfl) w.heap.size _ 1 (INTS [3]) (by rfl) T1.out.2.1 tb 0 8 8 (INTS (BE8 n)) (by rfl) T1.out.1 (by decide) (by decide) (by have := T1.out.2.2.1; simp at this ⊢; omega) 9 rfl ?_; intro g5 c5 w5 hown5 hgrow5 hat5 hlt5)
        | (refine step_u8 _ (by rfl) (.tmp 20) (.tmp 21) (by rfl) w.heap.size _ 9 _ (by rfl) hown5 w.heap.size 0 32 32 (INTS ((List.range 32).map r)) (by rfl) (T1.out.2.2.2 _ hgrow5).1 (by decide) (by decide) (T1.out.2.2.2 _ hgrow5).2.1 41 rfl ?_; intro g6 c6 w6 hown6 hgrow6 hat6 hlt6))
      have S : Aside (w6.ownsRow w.heap.size 5 1 (.slice (some ⟨g6,0,none⟩) 41 c6) 41 (CELLS (INTS (3 :: (BE8 n ++ (List.range 32).map r)))) ∧ Below w.heap.size w w6) := by
        have hb5 := (T1.out.2.2.2 _ hgrow5).2.2.1
        refine ⟨?_,hb5.grown hgrow6 hb5.size (fun k e => (hown5.lt k e).1)⟩
        have e : INTS [3] ++ INTS (BE8 n) ++ INTS ((List.range 32).map r) = INTS (3 :: (BE8 n ++ (List.range 32).map r)) := by simp [INTS]
        rw [e] at hown6
        exact hown6
      clear hown5 hgrow5 hat5 hlt5 hown6 hgrow6 hat6 hlt6 T1
      go_simp
      go_wp2
      go_ret
      exact ⟨_,_,rfl,S.out.1,S.out.2⟩
    | succ q =>
      obtain ⟨q8,hz,hH,hrr,hbel⟩ := A.out
      have e0 : ((q + 1 : Nat) : Int) - 1 = (q : Int) := by omega
      have e0' : ¬ (q : Int) < 0 := by omega
      have e0'' : (q : Int) < 8 := by omega
      have ew : wrap64 ((q : Int) - 1) = (q : Int) - 1 := by unfold wrap64; omega
      have hz64' : z < 2 ^ 64 := by rw [hz]; exact Nat.lt_of_le_of_lt (Nat.div_le_self _ _) H.out.1
      obtain ⟨b0,hb0⟩ : ∃ b0,z % 256 = b0 := ⟨_,rfl⟩
      obtain ⟨z2,hz2⟩ : ∃ z2,z / 256 = z2 := ⟨_,rfl⟩
      have em : (z : Int) % 256 = (b0 : Int) := by omega
      have em2 : (b0 : Int) % 256 = (b0 : Int) := by omega
      have ed : (z : Int) / 256 = (z2 : Int) := by omega
      have ed2 : IntKind.u64.wrap (z2 : Int) = (z2 : Int) := by rw [wrapU]; omega
      have em3 : IntKind.u64.wrap (b0 : Int) = (b0 : Int) := by rw [wrapU]; omega
      have y0 : wr.cell? ⟨tb,q,none⟩ = some (.int .u8 0) := by
        rw [hH.cell q,UARR_get _ _ _ _ (by omega),if_neg (by omega)]
        rfl
      have f0 : wr.frozen? ⟨tb,q,none⟩ = false := hH.frozen q
      have R : Aside (q ≤ 8 ∧ z2 = n / 2 ^ (8 * (8 - q)) ∧ Has (wr.setCell ⟨tb,q,none⟩ (.int .u8 (b0 : Int))) tb (UARR .u8 8 fun j => if q ≤ j then n / 2 ^ (8 * (7 - j)) % 256 else 0) 133 ∧ Has (wr.setCell ⟨tb,q,none⟩ (.int .u8 (b0 : Int))) w.heap.size (UARR .u8 32 r) 23 ∧ Below w.heap.size w (wr.setCell ⟨tb,q,none⟩ (.int .u8 (b0 : Int)))) := by
        refine ⟨by omega, ?_, ?_,hrr.other (a := ⟨tb,q,none⟩) T.out.2.2.2.1 _,hbel.setCell (p := ⟨tb,q,none⟩) T.out.2.2.2.2 _⟩
        · rw [← hz2,hz,Nat.div_div_eq_div_mul,show (256 : Nat) = 2 ^ 8 from rfl, ← Nat.pow_add]
          congr 2
          omega
        · have h := hH.set q (.int .u8 (b0 : Int))
          rw [UARR_set] at h
          have e : (UARR .u8 8 fun j => if j = q then b0 else if q + 1 ≤ j then n / 2 ^ (8 * (7 - j)) % 256 else 0) = UARR .u8 8 fun j => if q ≤ j then n / 2 ^ (8 * (7 - j)) % 256 else 0 := UARR_ext fun j hj => by
            by_cases e : j = q
            · subst e
              rw [if_pos rfl,if_pos (Nat.le_refl _), ← hb0,hz]
              congr 3
              omega
            · rw [if_neg e]
              by_cases e2 : q + 1 ≤ j
              · rw [if_pos e2,if_pos (by omega)]
              · rw [if_neg e2,if_neg (by omega)]
          rw [e] at h
          exact h
      rw [e0]
      clear A hz hH hrr hbel q8 hb0 hz2 hz64'
      go_wp2
      go_roundg q
      case measure => omega
      case rel => exact ⟨z2,by first | rfl,by first | rfl | (rw [ew]),R.out⟩
end Go.Proofs.YtkcfhgflgkejoaaGreatDoor.HX

/- The hashes of the texts: Leaf, Node, Fold and Root, of the document (those of package hash: HashSumPlain). -/
namespace Go.Proofs.YtkcfhgflgkejoaaGreatDoor.HX
open Go.RowKit
set_option maxRecDepth 100000

/-- the same, of the document. -/
theorem lone_refsum {w : World} (d : Int) {B n c : Nat} {a : Option Addr} {l : List Nat} (h : w.ownsRow B 5 1 (.slice a n c) n (CELLS (INTS l))) (hs : Small8 l) (hl : l.length < 5000) :
    Calls Tryz.prog 77 #[.int .i64 d,.slice (some ⟨w.heap.size,0,none⟩) 1 1] (w.alloc (.cells #[.slice a n c] 25)) fun e w' => e = .returned (.agg (UARR .u8 32 (HASHOF d l))) ∧ Below (w.alloc (.cells #[.slice a n c] 25)).heap.size (w.alloc (.cells #[.slice a n c] 25)) w' := by
  have := refsum_ok d _ 1 1 _ _ (own_parts h hs).1.zero (fun p hp => by simp only [List.mem_singleton] at hp; subst hp; exact (own_parts h hs).2) (by rw [join_one]; omega) (by decide)
  rw [join_one] at this
  exact this
theorem refnode_ok (d : Int) (l r : Nat → Nat) (hl : ∀ i,l i < 256) (hr : ∀ i,r i < 256) (w : World) : Calls Tryz.prog 46 #[.int .i64 d,.agg (UARR .u8 32 l),.agg (UARR .u8 32 r)] w fun e w' => e = .returned (.agg (UARR .u8 32 (HASHOF d (1 :: ((List.range 32).map l ++ (List.range 32).map r))))) ∧ Below w.heap.size w w' := by
  have hz := zero32
  have ct := fun W => refnodetext_ok l r hl hr W
  have H : Aside ((∀ i,l i < 256) ∧ (∀ i,r i < 256)) := ⟨hl,hr⟩
  obtain ⟨W,zb,lb,rb,hW,hzb,hlb,hrb,R,h4,h5⟩ : ∃ W zb lb rb,W = ((w.alloc (.cells (UARR .u8 32 l) 23)).alloc (.cells (UARR .u8 32 r) 23)).alloc (.cells (UARR .u8 32 fun _ => 0) 23) ∧ zb = w.heap.size + 1 + 1 ∧ lb = w.heap.size ∧ rb = w.heap.size + 1 ∧ Aside (Has W zb (UARR .u8 32 fun _ => 0) 23 ∧ Below w.heap.size w W ∧ w.heap.size ≤ zb) ∧ W.rangeAt lb 0 (ULIST .u8 32 l) ∧ W.rangeAt rb 0 (ULIST .u8 32 r) := by
    refine ⟨_,_,_,_,rfl,rfl,rfl,rfl,⟨Has.at _ _ _ (by simp),(((Below.refl _ _).alloc (Nat.le_refl _) _).alloc (by simp) _).alloc (by simp; omega) _,by omega⟩,(((Has.new w _ _).alloc _).alloc _).whole,((Has.at _ _ _ (by simp)).alloc _).whole⟩
  clear hl hr
  go_enter Tryz.func46,Tryz.ntmps46
  go_wp2_with (first
    | (rw [← hW]; refine wpList_load_mid rfl 23 (.tmp 4) rfl w.heap.size 0 rfl (ULIST .u8 32 l) (.array 32 5) (by rw [← hlb]; exact h4) Tryz.underlying23 rfl (by rw [ULIST_length]; exact info_hash) ?_; rw [← UARR_list])
    | (refine wpList_load_mid rfl 23 (.tmp 5) rfl (w.heap.size + 1) 0 rfl (ULIST .u8 32 r) (.array 32 5) (by rw [← hrb]; exact h5) Tryz.underlying23 rfl (by rw [ULIST_length]; exact info_hash) ?_; rw [← UARR_list]))
  rw [← hzb]
  refine (ct _).mono ?_
  rintro e w2 ⟨a',c',rfl,hown,hb⟩
  rw [← hW] at hown hb
  clear ct h4 h5 hW hzb hlb hrb
  have S : Aside (Has w2 zb (UARR .u8 32 fun _ => 0) 23 ∧ Below w.heap.size w w2) := ⟨R.out.1.keep hb,R.out.2.1.trans (hb.mono R.out.2.1.size)⟩
  have cs := lone_refsum d hown (small_cons' (by decide) (small_app' (small_map' H.out.1) (small_map' H.out.2))) (by simp)
  have Z : Aside (w.heap.size ≤ zb) := R.out.2.2
  clear hown hb R
  go_wp2_with fail
  refine cs.mono ?_
  rintro e w3 ⟨rfl,hb3⟩
  have hb4 : Below w2.heap.size w2 w3 := ((Below.refl _ _).alloc (Nat.le_refl _) _).trans (hb3.mono (by simp))
  have S2 : Aside (Has w3 zb (UARR .u8 32 fun _ => 0) 23 ∧ Below w.heap.size w w3) := ⟨S.out.1.keep hb4,S.out.2.trans (hb4.mono S.out.2.size)⟩
  clear cs hb3 hb4 S
  go_wp2_with (first
    | (refine wpList_store_row rfl 23 _ _ rfl _ _ rfl rfl _ _ S2.out.1 (info_HASH _) (by rw [UARR_size,UARR_size]) (UARR_one _ _ _) ?_))
  refine bodyPost_ret (v := .agg (UARR .u8 32 (HASHOF d (1 :: ((List.range 32).map l ++ (List.range 32).map r))))) ?_ rfl ⟨rfl,below_row S2.out.2 Z.out _⟩
  exact results_cell_row rfl _ _ zb 23 _ (0,0) _ rfl (S2.out.1.row _) Tryz.underlying23 rfl (info_HASH _)
theorem reffold_ok (d : Int) (l r : Nat → Nat) (hl : ∀ i,l i < 256) (hr : ∀ i,r i < 256) (w : World) : Calls Tryz.prog 48 #[.int .i64 d,.agg (UARR .u8 32 l),.agg (UARR .u8 32 r)] w fun e w' => e = .returned (.agg (UARR .u8 32 (HASHOF d (2 :: ((List.range 32).map l ++ (List.range 32).map r))))) ∧ Below w.heap.size w w' := by
  have hz := zero32
  have ct := fun W => reffoldtext_ok l r hl hr W
  have H : Aside ((∀ i,l i < 256) ∧ (∀ i,r i < 256)) := ⟨hl,hr⟩
  obtain ⟨W,zb,lb,rb,hW,hzb,hlb,hrb,R,h4,h5⟩ : ∃ W zb lb rb,W = ((w.alloc (.cells (UARR .u8 32 l) 23)).alloc (.cells (UARR .u8 32 r) 23)).alloc (.cells (UARR .u8 32 fun _ => 0) 23) ∧ zb = w.heap.size + 1 + 1 ∧ lb = w.heap.size ∧ rb = w.heap.size + 1 ∧ Aside (Has W zb (UARR .u8 32 fun _ => 0) 23 ∧ Below w.heap.size w W ∧ w.heap.size ≤ zb) ∧ W.rangeAt lb 0 (ULIST .u8 32 l) ∧ W.rangeAt rb 0 (ULIST .u8 32 r) := by
    refine ⟨_,_,_,_,rfl,rfl,rfl,rfl,⟨Has.at _ _ _ (by simp),(((Below.refl _ _).alloc (Nat.le_refl _) _).alloc (by simp) _).alloc (by simp; omega) _,by omega⟩,(((Has.new w _ _).alloc _).alloc _).whole,((Has.at _ _ _ (by simp)).alloc _).whole⟩
  clear hl hr
  go_enter Tryz.func48,Tryz.ntmps48
  go_wp2_with (first
    | (rw [← hW]; refine wpList_load_mid rfl 23 (.tmp 4) rfl w.heap.size 0 rfl (ULIST .u8 32 l) (.array 32 5) (by rw [← hlb]; exact h4) Tryz.underlying23 rfl (by rw [ULIST_length]; exact info_hash) ?_; rw [← UARR_list])
    | (refine wpList_load_mid rfl 23 (.tmp 5) rfl (w.heap.size + 1) 0 rfl (ULIST .u8 32 r) (.array 32 5) (by rw [← hrb]; exact h5) Tryz.underlying23 rfl (by rw [ULIST_length]; exact info_hash) ?_; rw [← UARR_list]))
  rw [← hzb]
  refine (ct _).mono ?_
  rintro e w2 ⟨a',c',rfl,hown,hb⟩
  rw [← hW] at hown hb
  clear ct h4 h5 hW hzb hlb hrb
  have S : Aside (Has w2 zb (UARR .u8 32 fun _ => 0) 23 ∧ Below w.heap.size w w2) := ⟨R.out.1.keep hb,R.out.2.1.trans (hb.mono R.out.2.1.size)⟩
  have cs := lone_refsum d hown (small_cons' (by decide) (small_app' (small_map' H.out.1) (small_map' H.out.2))) (by simp)
  have Z : Aside (w.heap.size ≤ zb) := R.out.2.2
  clear hown hb R
  go_wp2_with fail
  refine cs.mono ?_
  rintro e w3 ⟨rfl,hb3⟩
  have hb4 : Below w2.heap.size w2 w3 := ((Below.refl _ _).alloc (Nat.le_refl _) _).trans (hb3.mono (by simp))
  have S2 : Aside (Has w3 zb (UARR .u8 32 fun _ => 0) 23 ∧ Below w.heap.size w w3) := ⟨S.out.1.keep hb4,S.out.2.trans (hb4.mono S.out.2.size)⟩
  clear cs hb3 hb4 S
  go_wp2_with (first
    | (refine wpList_store_row rfl 23 _ _ rfl _ _ rfl rfl _ _ S2.out.1 (info_HASH _) (by rw [UARR_size,UARR_size]) (UARR_one _ _ _) ?_))
  refine bodyPost_ret (v := .agg (UARR .u8 32 (HASHOF d (2 :: ((List.range 32).map l ++ (List.range 32).map r))))) ?_ rfl ⟨rfl,below_row S2.out.2 Z.out _⟩
  exact results_cell_row rfl _ _ zb 23 _ (0,0) _ rfl (S2.out.1.row _) Tryz.underlying23 rfl (info_HASH _)
theorem refroot_ok (d : Int) (n : Nat) (hn : n < 2 ^ 64) (r : Nat → Nat) (hr : ∀ i,r i < 256) (w : World) : Calls Tryz.prog 47 #[.int .i64 d,.int .u64 (n : Int),.agg (UARR .u8 32 r)] w fun e w' => e = .returned (.agg (UARR .u8 32 (HASHOF d (3 :: (BE8 n ++ (List.range 32).map r))))) ∧ Below w.heap.size w w' := by
  have hz := zero32
  have ct := fun W => refroottext_ok n hn r hr W
  have H : Aside ((∀ i,r i < 256)) := hr
  obtain ⟨W,zb,rb,hW,hzb,hrb,R,h5⟩ : ∃ W zb rb,W = (w.alloc (.cells (UARR .u8 32 r) 23)).alloc (.cells (UARR .u8 32 fun _ => 0) 23) ∧ zb = w.heap.size + 1 ∧ rb = w.heap.size ∧ Aside (Has W zb (UARR .u8 32 fun _ => 0) 23 ∧ Below w.heap.size w W ∧ w.heap.size ≤ zb) ∧ W.rangeAt rb 0 (ULIST .u8 32 r) := by
    refine ⟨_,_,_,rfl,rfl,rfl,⟨Has.at _ _ _ (by simp),((Below.refl _ _).alloc (Nat.le_refl _) _).alloc (by simp) _,by omega⟩,((Has.new w _ _).alloc _).whole⟩
  clear hn hr
  go_enter Tryz.func47,Tryz.ntmps47
  go_wp2_with (first
    | (rw [← hW]; refine wpList_load_mid rfl 23 (.tmp 5) rfl w.heap.size 0 rfl (ULIST .u8 32 r) (.array 32 5) (by rw [← hrb]; exact h5) Tryz.underlying23 rfl (by rw [ULIST_length]; exact info_hash) ?_; rw [← UARR_list]))
  rw [← hzb]
  refine (ct _).mono ?_
  rintro e w2 ⟨a',c',rfl,hown,hb⟩
  rw [← hW] at hown hb
  clear ct h5 hW hzb hrb
  have S : Aside (Has w2 zb (UARR .u8 32 fun _ => 0) 23 ∧ Below w.heap.size w w2) := ⟨R.out.1.keep hb,R.out.2.1.trans (hb.mono R.out.2.1.size)⟩
  have cs := lone_refsum d hown (small_cons' (by decide) (small_app' (small_be8 n) (small_map' H.out))) (by simp [BE8])
  have Z : Aside (w.heap.size ≤ zb) := R.out.2.2
  clear hown hb R
  go_wp2_with fail
  refine cs.mono ?_
  rintro e w3 ⟨rfl,hb3⟩
  have hb4 : Below w2.heap.size w2 w3 := ((Below.refl _ _).alloc (Nat.le_refl _) _).trans (hb3.mono (by simp))
  have S2 : Aside (Has w3 zb (UARR .u8 32 fun _ => 0) 23 ∧ Below w.heap.size w w3) := ⟨S.out.1.keep hb4,S.out.2.trans (hb4.mono S.out.2.size)⟩
  clear cs hb3 hb4 S
  go_wp2_with (first
    | (refine wpList_store_row rfl 23 _ _ rfl _ _ rfl rfl _ _ S2.out.1 (info_HASH _) (by rw [UARR_size,UARR_size]) (UARR_one _ _ _) ?_))
  refine bodyPost_ret (v := .agg (UARR .u8 32 (HASHOF d (3 :: (BE8 n ++ (List.range 32).map r))))) ?_ rfl ⟨rfl,below_row S2.out.2 Z.out _⟩
  exact results_cell_row rfl _ _ zb 23 _ (0,0) _ rfl (S2.out.1.row _) Tryz.underlying23 rfl (info_HASH _)
end Go.Proofs.YtkcfhgflgkejoaaGreatDoor.HX
