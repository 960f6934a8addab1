/- Texts of VerifyReaches, one behind the other: VerifyMarks, VerifyRow8, VerifyReachesWalk, PosDoor. -/
import Derived.Test.YtkcfhgflgkejoaaGreatDoorRows
import Derived.ProofKit
import Derived.LaidMore
import Derived.OpenShut
import Derived.Stop.Joined
import Derived.Test.YtkcfhgflgkejoaaGreatDoorVerifyReachesP7
import Derived.Test.YtkcfhgflgkejoaaGreatDoorVerifyReachesP17
import Derived.Test.YtkcfhgflgkejoaaGreatDoorVerifyReachesP33
import Derived.Test.YtkcfhgflgkejoaaGreatDoorVerifyReachesP36
/- What mark and all of the law answer. -/
namespace Go.Proofs.YtkcfhgflgkejoaaGreatDoor
open Go.RowKit
set_option maxRecDepth 100000

set_option maxHeartbeats 2000000 in
theorem mark8_ok (B : Nat) (v : Value) (n : Nat) (xs : List Value) (m : Int) (hn : n ≤ 900) (w : World) (hB : B ≤ w.heap.size) (h : w.ownsRow B 23 32 v n xs) : Calls Tryz.prog 15 #[v, .int .u8 m] w fun e w' =>
    ∃ g cap, e = .returned (.slice (some ⟨g, 0, none⟩) (n + 1 + 1) cap) ∧ w'.ownsRow B 23 32 (.slice (some ⟨g, 0, none⟩) (n + 1 + 1) cap) (n + 1 + 1) (CELLS (MKS m (n + 1 + 1))) ∧ w.grownBy w' v.ownBlock ∧ (v.ownBlock = some g ∨ w.heap.size ≤ g) := by
  obtain ⟨a, c, rfl, hc, ha⟩ := own_shapeh h
  have hxs : xs.length = 32 * n := by have := h.1; omega
  have HA : Aside (n ≤ 900 ∧ xs.length = 32 * n ∧ w.ownsRow B 23 32 (.slice a n c) n xs ∧ (0 < n → ∃ g, a = some ⟨g, 0, none⟩) ∧ B ≤ w.heap.size) := ⟨hn, hxs, h, ha, hB⟩
  clear h ha hxs hn hB hc
  go_enter Tryz.func15, Tryz.ntmps15
  go_wp2
  go_loopg [5] n (fun q s5 wx => ∃ j : Nat, s5 = .int .i64 (j : Int) ∧ Aside (j + q = n ∧ wx.ownsRow B 23 32 (.slice a n c) n (MKP xs m j) ∧ w.grownBy wx (Value.slice a n c).ownBlock))
  case atStart => exact ⟨0, rfl, by omega, by rw [MKP_zero]; exact HA.out.2.2.1, grown_refl _ _⟩
  case round =>
    obtain ⟨j, rfl, A⟩ := hrel
    cases gk with
    | zero =>
      obtain rfl : j = n := by have := A.out.1; omega
      have hlt : ¬ (j : Int) < (j : Int) := by omega
      have R : Aside (wr.ownsRow B 23 32 (.slice a j c) j (CELLS (MKS m j)) ∧ w.grownBy wr (Value.slice a j c).ownBlock ∧ j ≤ 900 ∧ B ≤ wr.heap.size ∧ w.heap.size ≤ wr.heap.size) := by
        obtain ⟨_, h1, h2⟩ := A.out
        obtain ⟨a1, a2, a3, a4, a5⟩ := HA.out
        rw [MKP_all a2] at h1
        have hs := grown_size h2
        exact ⟨h1, h2, a1, Nat.le_trans a5 hs, hs⟩
      clear A HA
      go_wp2_with (first
        | (rw [← MK_arr]; refine build_one _ rfl 32 23 (.tmp 19) rfl (CELLS (MK m)).toArray rfl 32 _ _ Tryz.underlying32 info_hashv (by rfl) rfl (by decide) (by decide) ?_)
        | (at_builtin; refine app_hash _ rfl (.tmp 17) (.tmp 20) rfl B _ j (CELLS (MKS m j)) rfl (R.out.1.alloc _) wr.heap.size 1 (MK m) rfl rfl (Has.new _ _ _) (by have := R.out.2.2.1; omega) (by have := R.out.2.2.2.1; simp; omega) ?_; intro g1 q1 w1 hown1 hgrow1 hat1 hg1
           have S : Aside (w1.ownsRow B 23 32 (.slice (some ⟨g1, 0, none⟩) (j + 1) q1) (j + 1) (CELLS (MKS m (j + 1))) ∧ w.grownBy w1 (Value.slice a j c).ownBlock ∧ ((Value.slice a j c).ownBlock = some g1 ∨ w.heap.size ≤ g1) ∧ B ≤ w1.heap.size ∧ w.heap.size ≤ w1.heap.size) := ⟨by rw [MKS, CELLS_append]; exact hown1, grown_trans (grown_trans R.out.2.1 (grown_alloc _ _ _) (.inl rfl)) hgrow1 (.inl rfl), hat1.imp id fun e => by have := R.out.2.2.2.2; rw [e]; simp; omega, by have h1 := grown_size hgrow1; have h2 := R.out.2.2.2.1; simp at h1; omega, by have h1 := grown_size hgrow1; have h2 := R.out.2.2.2.2; simp at h1; omega⟩
           clear hown1 hgrow1 hat1 hg1)
        | (rw [← MK_arr]; refine build_one _ rfl 32 23 (.tmp 23) rfl (CELLS (MK m)).toArray rfl 32 _ _ Tryz.underlying32 info_hashv (by rfl) rfl (by decide) (by decide) ?_)
        | (at_builtin; refine app_hash _ rfl (.tmp 21) (.tmp 24) rfl B _ (j + 1) _ rfl (S.out.1.alloc _) w1.heap.size 1 (MK m) rfl rfl (Has.new _ _ _) (by have := R.out.2.2.1; omega) (by have h1 := S.out.2.2.2.1; simp; omega) ?_; intro g2 q2 w2 hown2 hgrow2 hat2 hg2))
      have S2 : Aside (w2.ownsRow B 23 32 (.slice (some ⟨g2, 0, none⟩) (j + 1 + 1) q2) (j + 1 + 1) (CELLS (MKS m (j + 1 + 1))) ∧ w.grownBy w2 (Value.slice a j c).ownBlock ∧ ((Value.slice a j c).ownBlock = some g2 ∨ w.heap.size ≤ g2)) := by
        obtain ⟨s1, s2, s3, s4, s5⟩ := S.out
        refine ⟨?_, grown_trans (grown_trans s2 (grown_alloc _ _ _) (.inl rfl)) hgrow2 ?_, ?_⟩
        · rw [show MKS m (j + 1 + 1) = MKS m (j + 1) ++ MK m from rfl, CELLS_append]
          exact hown2
        · rcases s3 with s3 | s3
          · exact .inl s3.symm
          · exact .inr fun g e => by cases e; exact s3
        · rcases hat2 with e | e
          · cases e
            exact s3
          · exact .inr (by rw [e]; simp; omega)
      clear hown2 hgrow2 hat2 hg2 S R
      go_wp2
      go_ret
      exact ⟨_, _, rfl, S2.out⟩
    | succ q =>
      obtain ⟨hj, hown, hgr⟩ := A.out
      obtain ⟨a1, a2, a3, a4, a5⟩ := HA.out
      have hlt : (j : Int) < (n : Int) := by omega
      obtain ⟨g, rfl⟩ := a4 (by omega)
      have hth : wr.there g (j * 32) (CELLS (MK m)).toArray.size := fun i hi => by
        have hi : i < 32 := hi
        refine ⟨?_, hown.frozenAt _⟩
        rw [hown.cellAt (j * 32 + i) (by omega), List.getElem?_eq_getElem (by rw [MKP_length a2 (by omega)]; omega)]
        rfl
      have hst := own_over (CELLS (MK m)) _ (j * 32) wr hown
      rw [MKP_next a2 (by omega)] at hst
      have R : Aside (j + 1 + q = n ∧ (wr.setCells g (j * 32) (CELLS (MK m)).toArray.toList).ownsRow B 23 32 (.slice (some ⟨g, 0, none⟩) n c) n (MKP xs m (j + 1)) ∧ w.grownBy (wr.setCells g (j * 32) (CELLS (MK m)).toArray.toList) (Value.slice (some ⟨g, 0, none⟩) n c).ownBlock) := ⟨by omega, hst.1, grown_trans hgr hst.2 (.inl rfl)⟩
      have E1 : Aside (wrap64 ((j : Int) + 1) = ((j + 1 : Nat) : Int)) := by show wrap64 ((j : Int) + 1) = ((j + 1 : Nat) : Int); unfold wrap64; omega
      clear hj hown hgr a1 a2 a3 a4 a5 hst A HA
      go_wp2_with (first
        | (rw [← MK_arr]; refine wpList_store_mid rfl 23 (.tmp 16) (.tmp 15) rfl g (j * 32) (CELLS (MK m)).toArray rfl rfl hth (info_arr (MK_length m)) (cells_one (MK m)) ?_))
      generalize wr.setCells g (j * 32) (CELLS (MK m)).toArray.toList = w2 at *
      have e1 := E1.out
      go_wp2
      go_roundg q
      case measure => exact Nat.lt_succ_self _
      case rel => exact ⟨j + 1, by first | rfl | (rw [E1.out]), R.out⟩
set_option maxHeartbeats 1000000 in
theorem all8_ok (B g n c : Nat) (m : Int) (hn : n ≤ 1000000) (w : World) (h : w.ownsRow B 23 32 (.slice (some ⟨g, 0, none⟩) n c) n (CELLS (MKS m n))) : Calls Tryz.prog 16 #[.slice (some ⟨g, 0, none⟩) n c, .int .u8 m] w fun e w' => e = .returned (.bool true) ∧ w = w' := by
  have HA : Aside (n ≤ 1000000 ∧ w.ownsRow B 23 32 (.slice (some ⟨g, 0, none⟩) n c) n (CELLS (MKS m n))) := ⟨hn, h⟩
  clear hn h
  go_enter Tryz.func16, Tryz.ntmps16
  go_wp2
  go_loopg [5] n (fun q s5 wx => ∃ j : Nat, s5 = .int .i64 (j : Int) ∧ Aside (j + q = n) ∧ wx = w)
  case atStart => exact ⟨0, rfl, by show 0 + n = n; omega, rfl⟩
  case round =>
    obtain ⟨j, rfl, A, rfl⟩ := hrel
    cases gk with
    | zero =>
      obtain rfl : j = n := by have := A.out; omega
      have hlt : ¬ (j : Int) < (j : Int) := by omega
      clear A HA
      go_wp2
      go_ret
      exact ⟨rfl, rfl⟩
    | succ q =>
      have hj : j + 1 + q = n := by have := A.out; omega
      have hlt : (j : Int) < (n : Int) := by omega
      have hat : wr.rangeAt g (j * 32) (CELLS (MK m)) := fun i v hv => by
        have hi : i < 32 := (List.getElem?_eq_some_iff.1 hv).1
        have := HA.out.2.cellAt (j * 32 + i) (by omega)
        rw [this, CELLS_get _ _ (by rw [MKS_length]; omega), show j * 32 + i = 32 * j + i by omega, ← HSH_at hi, MKS_at m (by omega), ← hv, CELLS_get _ _ (by rw [MK_length]; exact hi)]
      have R : Aside (j + 1 + q = n) := hj
      have E1 : Aside (wrap64 ((j : Int) + 1) = ((j + 1 : Nat) : Int)) := by have := HA.out.1; show wrap64 ((j : Int) + 1) = ((j + 1 : Nat) : Int); unfold wrap64; omega
      have hnq : ∀ x y (W : World), (do eqGuard .neq 23 x y (.agg (CELLS (MK m)).toArray) (.agg (CELLS (MK m)).toArray); binOp .neq 23 (.agg (CELLS (MK m)).toArray) (.agg (CELLS (MK m)).toArray) : Sem Value).run Tryz.prog W = .ok (.bool false) W := fun x y W => neq_cells (MK m) (MK_length m) x y W
      clear hj A HA
      go_wp2_with (first
        | (refine wpList_load_mid rfl 23 (.tmp 14) rfl g (j * 32) rfl (CELLS (MK m)) _ hat Tryz.underlying23 rfl (info_cells (MK_length m)) ?_)
        | (rw [← MK_arr]; refine wpList_plain rfl (fun K hK => step_pure (run_value (hnq _ _ _)) (hK _ _ ?_))))
      have e1 := E1.out
      go_wp2
      go_roundg q
      case measure => exact Nat.lt_succ_self _
      case rel => exact ⟨j + 1, by first | rfl | (rw [E1.out]), R, rfl⟩
end Go.Proofs.YtkcfhgflgkejoaaGreatDoor

/- What row and marked of the law answer, as chapter 8 asks them. -/
namespace Go.Proofs.YtkcfhgflgkejoaaGreatDoor
open Go.RowKit
set_option maxRecDepth 100000

set_option maxHeartbeats 1000000 in
theorem row8_ok (a : Option Addr) (n c : Nat) (hn : n ≤ 1000) (hc : a = none → c = 0) (l : List Int) (w : World) (hF : Flat w a n l) : Calls Tryz.prog 11 #[.slice a n c] w (ROWED w n l) := by
  have HA : Aside (n ≤ 1000 ∧ (a = none → c = 0) ∧ Flat w a n l) := ⟨hn, hc, hF⟩
  clear hn hc hF
  go_enter Tryz.func11, Tryz.ntmps11
  go_wp2_with (first
    | (at_builtin; refine app_hashes _ rfl (.tmp 3) (.tmp 4) rfl w.heap.size (.slice (some ⟨w.heap.size, 0, none⟩) 0 0) 0 [] rfl (own_empty32 w) a n c l rfl (HA.out.2.2.below ((Below.refl _ _).alloc (Nat.le_refl _) _)) HA.out.2.1 (by have := HA.out.1; omega) (by simp) ?_; rw [Nat.zero_add, List.nil_append]; intro a1 c1 w1 hown1 hgrow1
       have R1 : Aside (w1.ownsRow w.heap.size 23 32 (.slice a1 n c1) n (CELLS l) ∧ Below w.heap.size w w1) := ⟨hown1, ((Below.refl _ w).alloc (Nat.le_refl _) _).grown hgrow1 (by simp) (fun k e => by cases e; exact Nat.le_refl _)⟩
       clear hown1 hgrow1)
    | (rw [← MRK_arr]; refine build_one _ rfl 32 23 (.tmp 6) rfl (CELLS MRK).toArray rfl 32 _ _ Tryz.underlying32 info_hashv (by rfl) rfl (by decide) (by decide) ?_)
    | (at_builtin; refine app_hash _ rfl (.tmp 5) (.tmp 7) rfl w.heap.size (.slice a1 n c1) n (CELLS l) rfl (R1.out.1.alloc _) w1.heap.size 1 MRK rfl rfl (Has.new _ _ _) (by have := HA.out.1; omega) (by have := R1.out.2.size; simp; omega) ?_; intro g2 c2 w2 hown2 hgrow2 hat2 hg2
       obtain ⟨f1, f2, f3, f4⟩ := own_front32 hown2 HA.out.2.2.1 rfl
       have hcap : (n : Int) ≤ (c2 : Int) := by omega
       have R2 : Aside (w2.ownsRow w.heap.size 23 32 (.slice (some ⟨g2, 0, none⟩) n c2) n (CELLS l) ∧ n + 1 ≤ c2 ∧ w2.rangeAt g2 (n * 32) (CELLS MRK) ∧ g2 < w2.heap.size ∧ Below w.heap.size w w2) := ⟨f1, f2, f3, f4, (R1.out.2.alloc R1.out.2.size _).grown hgrow2 (by have := R1.out.2.size; simp; omega) (fun k e => (R1.out.1.lt k e).1)⟩
       clear hown2 hgrow2 hat2 hg2 f1 f2 f3 f4))
  go_ret
  exact ⟨_, _, rfl, R2.out⟩
theorem marked8_ok (g n c : Nat) (hn : n ≤ 1000) (hc : n + 1 ≤ c) (w : World) (h : w.rangeAt g (n * 32) (CELLS MRK)) : Calls Tryz.prog 17 #[.slice (some ⟨g, 0, none⟩) n c] w fun e w' => e = .returned (.bool true) ∧ w = w' := by
  have hw : wrap64 ((n : Int) + 1) = ((n + 1 : Nat) : Int) := by unfold wrap64; omega
  have h1 : ((n + 1 : Nat) : Int) ≤ (c : Int) := by omega
  have h2 : (n : Int) + 1 ≤ (c : Int) := by omega
  have hb0 : (0 : Int) ≤ (n : Int) := Int.natCast_nonneg n
  have hb1 : (n : Int) < (n : Int) + 1 := Int.lt_succ (n : Int)
  have hnq : ∀ x y (W : World), (do eqGuard .eql 23 x y (.agg (CELLS MRK).toArray) (.agg (CELLS MRK).toArray); binOp .eql 23 (.agg (CELLS MRK).toArray) (.agg (CELLS MRK).toArray) : Sem Value).run Tryz.prog W = .ok (.bool true) W := fun x y W => by
    have := eql_hashes (h := MRK) (g := MRK) rfl rfl x y W
    rw [this]
    simp
  clear hn hc
  go_enter Tryz.func17, Tryz.ntmps17
  go_wp2_with (first
    | (refine wpList_load_mid rfl 23 (.tmp 10) rfl g (n * 32) rfl (CELLS MRK) _ h Tryz.underlying23 rfl (info_cells rfl) ?_)
    | (rw [← MRK_arr]; refine wpList_plain rfl (fun K hK => step_pure (run_value (hnq _ _ _)) (hK _ _ ?_))))
  go_ret
  exact ⟨rfl, rfl⟩
end Go.Proofs.YtkcfhgflgkejoaaGreatDoor

/- The law VerifyReaches returns true. -/
namespace Go.Proofs.YtkcfhgflgkejoaaGreatDoor
open Go.RowKit
set_option maxRecDepth 100000

theorem RCA_few {d : Int} {js : List (Nat × Nat)} {F S n : Nat} {l : List Int} (hF : F < 2 ^ 64) (hS : S < 2 ^ 64) : (RCA d js F S n l).2.1.1 ≤ 64 ∧ (RCA d js F S n l).2.2.1 ≤ 64 := by
  unfold RCA
  split
  · exact ⟨Nat.zero_le _, Nat.zero_le _⟩
  · split
    · exact ⟨Nat.zero_le _, Nat.zero_le _⟩
    · exact ⟨PC_lt_pow 64 F hF, PC_lt_pow 64 S hS⟩
/-- four values, by their numbers. -/
def F4 {α : Type} (p q r s : α) : Nat → α := fun x => if x = 0 then p else if x = 1 then q else if x = 2 then r else s
theorem fam4 {w w5 w6 : World} {N1 N2 : Nat} {X1 X2 : List Value} {va vb vc vd : Value} (h5 : w.heap.size ≤ w5.heap.size) (ha : w6.ownsRow w.heap.size 23 32 va N1 X1) (hb : w6.ownsRow w.heap.size 23 32 vb N2 X2) (hc : w6.ownsRow w5.heap.size 23 32 vc N1 X1) (hd : w6.ownsRow w5.heap.size 23 32 vd N2 X2)
    (ka : ∀ k, va.ownBlock = some k → k < w5.heap.size) (kb : ∀ k, vb.ownBlock = some k → k < w5.heap.size) (hab : ∀ k, va.ownBlock = some k → vb.ownBlock ≠ some k) (hcd : ∀ k, vc.ownBlock = some k → vd.ownBlock ≠ some k) : FAM 4 23 32 w6 w.heap.size (fun k => k < w.heap.size) (F4 va vb vc vd) (F4 N1 N2 N1 N2) (F4 X1 X2 X1 X2) := by
  have hc' := own_mono hc h5
  have hd' := own_mono hd h5
  have lc : ∀ k, vc.ownBlock = some k → w5.heap.size ≤ k := fun k e => (hc.lt k e).1
  have ld : ∀ k, vd.ownBlock = some k → w5.heap.size ≤ k := fun k e => (hd.lt k e).1
  have cases4 : ∀ x : Nat, x < 4 → x = 0 ∨ x = 1 ∨ x = 2 ∨ x = 3 := fun x hx => by omega
  refine ⟨fun x hx => ?_, fun x y hx hy hne k e1 e2 => ?_, fun x hx k e h => ?_⟩
  · rcases cases4 x hx with rfl | rfl | rfl | rfl
    · exact ha
    · exact hb
    · exact hc'
    · exact hd'
  · rcases cases4 x hx with rfl | rfl | rfl | rfl <;> rcases cases4 y hy with rfl | rfl | rfl | rfl <;> simp only [F4] at e1 e2
    · exact hne rfl
    · exact hab k e1 e2
    · have := ka k e1; have := lc k e2; omega
    · have := ka k e1; have := ld k e2; omega
    · exact hab k e2 e1
    · exact hne rfl
    · have := kb k e1; have := lc k e2; omega
    · have := kb k e1; have := ld k e2; omega
    · have := ka k e2; have := lc k e1; omega
    · have := kb k e2; have := lc k e1; omega
    · exact hne rfl
    · exact hcd k e1 e2
    · have := ka k e2; have := ld k e1; omega
    · have := kb k e2; have := ld k e1; omega
    · exact hcd k e2 e1
    · exact hne rfl
  · rcases cases4 x hx with rfl | rfl | rfl | rfl
    · have := (ha.lt k e).1; omega
    · have := (hb.lt k e).1; omega
    · have := (hc'.lt k e).1; omega
    · have := (hd'.lt k e).1; omega
theorem reaches_long (d : Int) (F S : Nat) (a : Option Addr) (n c : Nat) (w : World) (h : (300 : Int) < (n : Int)) :
    Calls Tryz.prog 4 #[.int .i64 d, .agg #[.int .u64 (F : Int), .int .u64 (S : Int), .slice a n c]] w fun e w' => e = .returned (.bool true) ∧ Below w.heap.size w w' := by
  obtain ⟨W0, hW0⟩ : ∃ W0, w.alloc (.cells #[.int .u64 (F : Int), .int .u64 (S : Int), .slice a n c] 34) = W0 := ⟨_, rfl⟩
  obtain ⟨bp, hbp⟩ : ∃ bp, w.heap.size = bp := ⟨_, rfl⟩
  have HB : Aside (Below w.heap.size w W0) := by rw [← hW0]; exact (Below.refl _ _).alloc (Nat.le_refl _) _
  have hH : Has W0 bp #[.int .u64 (F : Int), .int .u64 (S : Int), .slice a n c] 34 := by rw [← hW0, ← hbp]; exact Has.new _ _ _
  have x2 := hH.cell 2
  clear hH
  go_enter Tryz.func4, Tryz.ntmps4
  go_upto_region 1 with fail
  clear hW0 hbp
  go_wp2_with fail
  go_ret
  exact ⟨rfl, HB.out⟩
set_option maxHeartbeats 16000000 in
theorem reaches_core (d : Int) (F S : Nat) (hF : F < 2 ^ 64) (hS : S < 2 ^ 64) (a : Option Addr) (n c : Nat) (hn : n ≤ 300) (l : List Int) (w : World) (hL : Flat w a n l) (hc : a = none → c = 0) (hnc : n ≤ c) (hT : Tabled w) (hX : HX.Tabled w) (h0 : 2 < w.heap.size) :
    Calls Tryz.prog 4 #[.int .i64 d, .agg #[.int .u64 (F : Int), .int .u64 (S : Int), .slice a n c]] w fun e w' => e = .returned (.bool true) ∧ Below w.heap.size w w' := by
  have i1 : ¬ (300 : Int) < (n : Int) := by omega
  obtain ⟨t, hLW, hJ⟩ := joins_at F S hF
  have hrg := RCA_range (d := d) (js := JSX F S t) (F := F) (S := S) hL.1 hL.2.2
  have hfew := RCA_few (d := d) (js := JSX F S t) (F := F) (S := S) (n := n) (l := l) hF hS
  obtain ⟨A, hA⟩ : ∃ A, RCA d (JSX F S t) F S n l = A := ⟨_, rfl⟩
  rw [hA] at hrg hfew
  have CR : Aside (∀ W, Below w.heap.size w W → Calls Tryz.prog 12 #[.int .i64 d, .agg #[.int .u64 (F : Int), .int .u64 (S : Int), .slice a n c]] W (ANSR W A)) := fun W hb => by
    rw [← hA]
    exact refreach_ok d F S t hF hS hLW a n c (by omega) hnc hc l W (hL.below hb)
  have CC : Aside (∀ W g q, Below w.heap.size w W → Flat W (some ⟨g, 0, none⟩) n l → Calls Tryz.prog 13 #[.int .i64 d, .agg #[.int .u64 (F : Int), .int .u64 (S : Int), .slice (some ⟨g, 0, none⟩) n q]] W (ANSR W A)) := fun W g q hb hf => by
    rw [← hA]
    exact reach_ok d F S (JSX F S t) hJ (some ⟨g, 0, none⟩) n q l W hf (hT.below (by omega) hb) (hX.below hb) (Nat.lt_of_lt_of_le h0 hb.size)
  have CA : Aside (∀ W, Below w.heap.size w W → Calls Tryz.prog 10 #[] W fun e w' => e = .returned (.bool true) ∧ Below W.heap.size W w') := fun W hb => awake8_ok W (hT.below (by omega) hb) (hX.below hb) (Nat.lt_of_lt_of_le h0 hb.size)
  unfold ANSR at CR CC
  obtain ⟨E, ⟨N1, Z1⟩, N2, Z2⟩ := A
  dsimp only at *
  have HA : Aside (n ≤ 300 ∧ Flat w a n l ∧ (∀ x ∈ Z1, 0 ≤ x ∧ x ≤ 255) ∧ (∀ x ∈ Z2, 0 ≤ x ∧ x ≤ 255) ∧ N1 ≤ 64 ∧ N2 ≤ 64) := ⟨hn, hL, hrg.1, hrg.2, hfew.1, hfew.2⟩
  obtain ⟨W0, hW0⟩ : ∃ W0, w.alloc (.cells #[.int .u64 (F : Int), .int .u64 (S : Int), .slice a n c] 34) = W0 := ⟨_, rfl⟩
  obtain ⟨bp, hbp⟩ : ∃ bp, w.heap.size = bp := ⟨_, rfl⟩
  have R0 : Aside (Below w.heap.size w W0 ∧ Has W0 bp #[.int .u64 (F : Int), .int .u64 (S : Int), .slice a n c] 34) := by
    rw [← hW0, ← hbp]
    exact ⟨(Below.refl _ _).alloc (Nat.le_refl _) _, Has.new _ _ _⟩
  have x0 := R0.out.2.cell 0
  have x1 := R0.out.2.cell 1
  have x2 := R0.out.2.cell 2
  have HC : Aside (a = none → c = 0) := hc
  clear hF hS hn hL hc hnc hT hX h0 hrg hfew hA hLW hJ
  go_enter Tryz.func4, Tryz.ntmps4
  go_upto_region 1 with fail
  have HB4 : Aside (w.heap.size = bp) := hbp
  clear hW0 hbp
  go_upto_region 4 with fail
  obtain ⟨w1, e1⟩ : ∃ w1, W0.alloc (.cells #[.int .u64 (F : Int), .int .u64 (S : Int), .slice a n c] 34) = w1 := ⟨_, rfl⟩
  obtain ⟨b7, hb7⟩ : ∃ b7, W0.heap.size = b7 := ⟨_, rfl⟩
  rw [e1, hb7]
  have hb1 : Below W0.heap.size W0 w1 := by rw [← e1]; exact (Below.refl _ _).alloc (Nat.le_refl _) _
  have R1 : Aside (Below w.heap.size w w1 ∧ Has w1 bp #[.int .u64 (F : Int), .int .u64 (S : Int), .slice a n c] 34 ∧ Has w1 b7 #[.int .u64 (F : Int), .int .u64 (S : Int), .slice a n c] 34 ∧ bp ≠ b7 ∧ w.heap.size ≤ b7) := ⟨R0.out.1.trans (hb1.mono R0.out.1.size), R0.out.2.keep hb1, by rw [← e1, ← hb7]; exact Has.new _ _ _, by have := R0.out.2.lt; omega, by rw [← hb7]; exact R0.out.1.size⟩
  clear e1 hb7 hb1 R0 x0 x1 x2
  have x2 := R1.out.2.1.cell 2
  have cw := row8_ok a n c (by have := HA.out.1; omega) HC.out l w1 (HA.out.2.1.below R1.out.1)
  go_wp2_with fail
  refine cw.mono ?_
  rintro e w2 ⟨g, q, rfl, og, hq, hmk, hg, hb2⟩
  have y2 := (R1.out.2.2.1.keep hb2).cell 2
  have yf := (R1.out.2.2.1.keep hb2).frozen 2
  have hg7 : g ≠ b7 := by have h1 := (og.lt g rfl).1; have h2 := R1.out.2.2.1.lt; omega
  have R2 : Aside (Below w.heap.size w w2 ∧ Has w2 bp #[.int .u64 (F : Int), .int .u64 (S : Int), .slice a n c] 34 ∧ Has w2 b7 #[.int .u64 (F : Int), .int .u64 (S : Int), .slice a n c] 34 ∧ Flat w2 (some ⟨g, 0, none⟩) n l ∧ w2.rangeAt g (n * 32) (CELLS MRK) ∧ g < w2.heap.size ∧ n + 1 ≤ q ∧ g ≠ b7) := ⟨R1.out.1.trans (hb2.mono R1.out.1.size), R1.out.2.1.keep hb2, R1.out.2.2.1.keep hb2, own_flat og HA.out.2.1.2.2, hmk, hg, hq, hg7⟩
  clear cw og hq hmk hg hb2 x2 hg7
  go_upto_region 5 with fail
  obtain ⟨w3, e3⟩ : ∃ w3, w2.setCell ⟨b7, 2, none⟩ (.slice (some ⟨g, 0, none⟩) n q) = w3 := ⟨_, rfl⟩
  rw [e3]
  have R3 : Aside (Below w.heap.size w w3 ∧ Has w3 bp #[.int .u64 (F : Int), .int .u64 (S : Int), .slice a n c] 34 ∧ Has w3 b7 #[.int .u64 (F : Int), .int .u64 (S : Int), .slice (some ⟨g, 0, none⟩) n q] 34 ∧ Flat w3 (some ⟨g, 0, none⟩) n l ∧ w3.rangeAt g (n * 32) (CELLS MRK) ∧ g < w3.heap.size ∧ n + 1 ≤ q) := by
    obtain ⟨r1, r3, r4, r5, r6, r7, r8, r9⟩ := R2.out
    rw [← e3]
    exact ⟨r1.setCell (p := ⟨b7, 2, none⟩) R1.out.2.2.2.2 _, r3.other (a := ⟨b7, 2, none⟩) R1.out.2.2.2.1 _, r4.set 2 _, r5.other (a := ⟨b7, 2, none⟩) r9 _, range_other r6 (a := ⟨b7, 2, none⟩) r9 _, Nat.lt_of_lt_of_le r7 (KeepsWalks.setCell w2 ⟨b7, 2, none⟩ (.slice (some ⟨g, 0, none⟩) n q)).size, r8⟩
  have hq2 : Aside (n + 1 ≤ q) := R3.out.2.2.2.2.2.2
  clear R1 R2 e3 y2 yf
  have p0 := R3.out.2.1.cell 0
  have p1 := R3.out.2.1.cell 1
  have p2 := R3.out.2.1.cell 2
  have cc := CR.out w3 R3.out.1
  go_wp2_with fail
  refine cc.mono ?_
  rintro e w4 ⟨a6, c6, a7, c7, rfl, o6, o7, hb4, _⟩
  have K4 : Aside (∀ W, Below w4.heap.size w4 W → Below w.heap.size w W ∧ Has W bp #[.int .u64 (F : Int), .int .u64 (S : Int), .slice a n c] 34 ∧ Has W b7 #[.int .u64 (F : Int), .int .u64 (S : Int), .slice (some ⟨g, 0, none⟩) n q] 34 ∧ Flat W (some ⟨g, 0, none⟩) n l ∧ W.rangeAt g (n * 32) (CELLS MRK) ∧ Flat W a n l ∧ Flat W a6 N1 Z1 ∧ Flat W a7 N2 Z2) := fun W hb => by
    obtain ⟨r1, r3, r4, r5, r6, r7, r8⟩ := R3.out
    have h3 : Below w3.heap.size w3 W := hb4.trans (hb.mono hb4.size)
    have h := r1.trans (h3.mono r1.size)
    exact ⟨h, r3.keep h3, r4.keep h3, r5.below h3, range_below r6 h3 r7, HA.out.2.1.below h, (own_flat o6 HA.out.2.2.1).below hb, (own_flat o7 HA.out.2.2.2.1).below hb⟩
  clear cc o6 o7 hb4 p0 p1 p2 R3 CR
  obtain ⟨_, _, hs7, _, _, _, _, _⟩ := K4.out w4 (Below.refl _ _)
  have p0 := hs7.cell 0
  have p1 := hs7.cell 1
  have p2 := hs7.cell 2
  have cc := CC.out w4 g q (K4.out w4 (Below.refl _ _)).1 (K4.out w4 (Below.refl _ _)).2.2.2.1
  clear hs7
  go_wp2_with fail
  refine cc.mono ?_
  rintro e w5 ⟨a9, c9, a10, c10, rfl, o1, o2, hbn, hap⟩
  have W5 : Aside (Below w4.heap.size w4 w5 ∧ w5.ownsRow w4.heap.size 23 32 (.slice a9 N1 c9) N1 (CELLS Z1) ∧ w5.ownsRow w4.heap.size 23 32 (.slice a10 N2 c10) N2 (CELLS Z2) ∧ ∀ k, (Value.slice a9 N1 c9).ownBlock = some k → (Value.slice a10 N2 c10).ownBlock ≠ some k) := ⟨hbn, o1, o2, hap⟩
  clear cc o1 o2 hbn hap p0 p1 p2
  obtain ⟨_, _, hs7, _, _, _, _, _⟩ := K4.out w5 W5.out.1
  have p0 := hs7.cell 0
  have p1 := hs7.cell 1
  have p2 := hs7.cell 2
  have cc := CC.out w5 g q (K4.out w5 W5.out.1).1 (K4.out w5 W5.out.1).2.2.2.1
  clear hs7
  go_wp2_with fail
  refine cc.mono ?_
  rintro e w6 ⟨a12, c12, a13, c13, rfl, o1, o2, hbn, hap⟩
  have W6 : Aside (Below w4.heap.size w4 w6 ∧ FAM 4 23 32 w6 w4.heap.size (fun k => k < w4.heap.size) (F4 (.slice a9 N1 c9) (.slice a10 N2 c10) (.slice a12 N1 c12) (.slice a13 N2 c13)) (F4 N1 N2 N1 N2) (F4 (CELLS Z1) (CELLS Z2) (CELLS Z1) (CELLS Z2))) := by
    obtain ⟨r1, r2, r3, r4⟩ := W5.out
    exact ⟨r1.trans (hbn.mono r1.size), fam4 r1.size (own_below r2 hbn) (own_below r3 hbn) o1 o2 (fun k e => (r2.lt k e).2) (fun k e => (r3.lt k e).2) r4 hap⟩
  clear cc o1 o2 hbn hap p0 p1 p2 W5
  have SH : Aside (∀ W av cv au cu N Z, N ≤ 64 → Flat W av N Z → Flat W au N Z → Calls Tryz.prog 14 #[.slice av N cv, .slice au N cu] W fun e w' => e = .returned (.bool true) ∧ Below W.heap.size W w') := fun W av cv au cu N Z hN h1 h2 => by
    have h := samehashes_ok av au N N cv cu Z Z W h1 h2 (by omega)
    rw [decide_eq_true rfl] at h
    exact h
  have hE : (E == E) = true := beq_self_eq_true E
  have cs := SH.out w6 a9 c9 a6 c6 N1 Z1 HA.out.2.2.2.2.1 (own_flat (W6.out.2.row 0 (by decide)) HA.out.2.2.1) (K4.out w6 W6.out.1).2.2.2.2.2.2.1
  go_wp2_with fail
  refine cs.mono ?_
  rintro e v0 ⟨rfl, hbn⟩
  have V0 : Aside (Below w4.heap.size w4 v0 ∧ FAM 4 23 32 v0 w4.heap.size (fun k => k < w4.heap.size) (F4 (.slice a9 N1 c9) (.slice a10 N2 c10) (.slice a12 N1 c12) (.slice a13 N2 c13)) (F4 N1 N2 N1 N2) (F4 (CELLS Z1) (CELLS Z2) (CELLS Z1) (CELLS Z2))) := ⟨W6.out.1.trans (hbn.mono W6.out.1.size), W6.out.2.below hbn⟩
  clear cs hbn W6
  have cs := SH.out v0 a10 c10 a7 c7 N2 Z2 HA.out.2.2.2.2.2 (own_flat (V0.out.2.row 1 (by decide)) HA.out.2.2.2.1) (K4.out v0 V0.out.1).2.2.2.2.2.2.2
  go_wp2_with fail
  refine cs.mono ?_
  rintro e v1 ⟨rfl, hbn⟩
  have V1 : Aside (Below w4.heap.size w4 v1 ∧ FAM 4 23 32 v1 w4.heap.size (fun k => k < w4.heap.size) (F4 (.slice a9 N1 c9) (.slice a10 N2 c10) (.slice a12 N1 c12) (.slice a13 N2 c13)) (F4 N1 N2 N1 N2) (F4 (CELLS Z1) (CELLS Z2) (CELLS Z1) (CELLS Z2))) := ⟨V0.out.1.trans (hbn.mono V0.out.1.size), V0.out.2.below hbn⟩
  clear cs hbn V0
  have cs := SH.out v1 a12 c12 a6 c6 N1 Z1 HA.out.2.2.2.2.1 (own_flat (V1.out.2.row 2 (by decide)) HA.out.2.2.1) (K4.out v1 V1.out.1).2.2.2.2.2.2.1
  go_wp2_with fail
  refine cs.mono ?_
  rintro e v2 ⟨rfl, hbn⟩
  have V2 : Aside (Below w4.heap.size w4 v2 ∧ FAM 4 23 32 v2 w4.heap.size (fun k => k < w4.heap.size) (F4 (.slice a9 N1 c9) (.slice a10 N2 c10) (.slice a12 N1 c12) (.slice a13 N2 c13)) (F4 N1 N2 N1 N2) (F4 (CELLS Z1) (CELLS Z2) (CELLS Z1) (CELLS Z2))) := ⟨V1.out.1.trans (hbn.mono V1.out.1.size), V1.out.2.below hbn⟩
  clear cs hbn V1
  have cs := SH.out v2 a13 c13 a7 c7 N2 Z2 HA.out.2.2.2.2.2 (own_flat (V2.out.2.row 3 (by decide)) HA.out.2.2.2.1) (K4.out v2 V2.out.1).2.2.2.2.2.2.2
  go_wp2_with fail
  refine cs.mono ?_
  rintro e v3 ⟨rfl, hbn⟩
  have V3 : Aside (Below w4.heap.size w4 v3 ∧ FAM 4 23 32 v3 w4.heap.size (fun k => k < w4.heap.size) (F4 (.slice a9 N1 c9) (.slice a10 N2 c10) (.slice a12 N1 c12) (.slice a13 N2 c13)) (F4 N1 N2 N1 N2) (F4 (CELLS Z1) (CELLS Z2) (CELLS Z1) (CELLS Z2))) := ⟨V2.out.1.trans (hbn.mono V2.out.1.size), V2.out.2.below hbn⟩
  clear cs hbn V2
  have cm := mark8_ok w4.heap.size (.slice a9 N1 c9) N1 (CELLS Z1) 201 (by have := HA.out.2.2.2.2.1; omega) v3 V3.out.1.size (V3.out.2.row 0 (by decide))
  go_wp2_with fail
  refine cm.mono ?_
  rintro e m0 ⟨g0, k0, rfl, og, gr, at9⟩
  have M0 : Aside (Below w4.heap.size w4 m0 ∧ FAM 4 23 32 m0 w4.heap.size (fun k => k < w4.heap.size) (UPD (F4 (.slice a9 N1 c9) (.slice a10 N2 c10) (.slice a12 N1 c12) (.slice a13 N2 c13)) 0 (.slice (some ⟨g0, 0, none⟩) (N1 + 1 + 1) k0)) (UPD (F4 N1 N2 N1 N2) 0 (N1 + 1 + 1)) (UPD (F4 (CELLS Z1) (CELLS Z2) (CELLS Z1) (CELLS Z2)) 0 (CELLS (MKS 201 (N1 + 1 + 1))))) := by
    obtain ⟨f1, f2⟩ := V3.out.2.turn (x := 0) (by decide) (fun k hk => Nat.lt_of_lt_of_le hk V3.out.1.size) og gr at9
    refine ⟨V3.out.1.grown gr V3.out.1.size (fun k e => ?_), f1⟩
    have := (V3.out.2.row 0 (by decide)).lt k e
    omega
  clear cm og gr at9 V3
  have cm := mark8_ok w4.heap.size (.slice a10 N2 c10) N2 (CELLS Z2) 202 (by have := HA.out.2.2.2.2.2; omega) m0 M0.out.1.size (M0.out.2.row 1 (by decide))
  go_wp2_with fail
  refine cm.mono ?_
  rintro e m1 ⟨g1, k1, rfl, og, gr, at9⟩
  have M1 : Aside (Below w4.heap.size w4 m1 ∧ FAM 4 23 32 m1 w4.heap.size (fun k => k < w4.heap.size) (UPD (UPD (F4 (.slice a9 N1 c9) (.slice a10 N2 c10) (.slice a12 N1 c12) (.slice a13 N2 c13)) 0 (.slice (some ⟨g0, 0, none⟩) (N1 + 1 + 1) k0)) 1 (.slice (some ⟨g1, 0, none⟩) (N2 + 1 + 1) k1)) (UPD (UPD (F4 N1 N2 N1 N2) 0 (N1 + 1 + 1)) 1 (N2 + 1 + 1)) (UPD (UPD (F4 (CELLS Z1) (CELLS Z2) (CELLS Z1) (CELLS Z2)) 0 (CELLS (MKS 201 (N1 + 1 + 1)))) 1 (CELLS (MKS 202 (N2 + 1 + 1))))) := by
    obtain ⟨f1, f2⟩ := M0.out.2.turn (x := 1) (by decide) (fun k hk => Nat.lt_of_lt_of_le hk M0.out.1.size) og gr at9
    refine ⟨M0.out.1.grown gr M0.out.1.size (fun k e => ?_), f1⟩
    have := (M0.out.2.row 1 (by decide)).lt k e
    omega
  clear cm og gr at9 M0
  have cm := mark8_ok w4.heap.size (.slice a12 N1 c12) N1 (CELLS Z1) 203 (by have := HA.out.2.2.2.2.1; omega) m1 M1.out.1.size (M1.out.2.row 2 (by decide))
  go_wp2_with fail
  refine cm.mono ?_
  rintro e m2 ⟨g2, k2, rfl, og, gr, at9⟩
  have M2 : Aside (Below w4.heap.size w4 m2 ∧ FAM 4 23 32 m2 w4.heap.size (fun k => k < w4.heap.size) (UPD (UPD (UPD (F4 (.slice a9 N1 c9) (.slice a10 N2 c10) (.slice a12 N1 c12) (.slice a13 N2 c13)) 0 (.slice (some ⟨g0, 0, none⟩) (N1 + 1 + 1) k0)) 1 (.slice (some ⟨g1, 0, none⟩) (N2 + 1 + 1) k1)) 2 (.slice (some ⟨g2, 0, none⟩) (N1 + 1 + 1) k2)) (UPD (UPD (UPD (F4 N1 N2 N1 N2) 0 (N1 + 1 + 1)) 1 (N2 + 1 + 1)) 2 (N1 + 1 + 1)) (UPD (UPD (UPD (F4 (CELLS Z1) (CELLS Z2) (CELLS Z1) (CELLS Z2)) 0 (CELLS (MKS 201 (N1 + 1 + 1)))) 1 (CELLS (MKS 202 (N2 + 1 + 1)))) 2 (CELLS (MKS 203 (N1 + 1 + 1))))) := by
    obtain ⟨f1, f2⟩ := M1.out.2.turn (x := 2) (by decide) (fun k hk => Nat.lt_of_lt_of_le hk M1.out.1.size) og gr at9
    refine ⟨M1.out.1.grown gr M1.out.1.size (fun k e => ?_), f1⟩
    have := (M1.out.2.row 2 (by decide)).lt k e
    omega
  clear cm og gr at9 M1
  have cm := mark8_ok w4.heap.size (.slice a13 N2 c13) N2 (CELLS Z2) 204 (by have := HA.out.2.2.2.2.2; omega) m2 M2.out.1.size (M2.out.2.row 3 (by decide))
  go_wp2_with fail
  refine cm.mono ?_
  rintro e m3 ⟨g3, k3, rfl, og, gr, at9⟩
  have M3 : Aside (Below w4.heap.size w4 m3 ∧ FAM 4 23 32 m3 w4.heap.size (fun k => k < w4.heap.size) (UPD (UPD (UPD (UPD (F4 (.slice a9 N1 c9) (.slice a10 N2 c10) (.slice a12 N1 c12) (.slice a13 N2 c13)) 0 (.slice (some ⟨g0, 0, none⟩) (N1 + 1 + 1) k0)) 1 (.slice (some ⟨g1, 0, none⟩) (N2 + 1 + 1) k1)) 2 (.slice (some ⟨g2, 0, none⟩) (N1 + 1 + 1) k2)) 3 (.slice (some ⟨g3, 0, none⟩) (N2 + 1 + 1) k3)) (UPD (UPD (UPD (UPD (F4 N1 N2 N1 N2) 0 (N1 + 1 + 1)) 1 (N2 + 1 + 1)) 2 (N1 + 1 + 1)) 3 (N2 + 1 + 1)) (UPD (UPD (UPD (UPD (F4 (CELLS Z1) (CELLS Z2) (CELLS Z1) (CELLS Z2)) 0 (CELLS (MKS 201 (N1 + 1 + 1)))) 1 (CELLS (MKS 202 (N2 + 1 + 1)))) 2 (CELLS (MKS 203 (N1 + 1 + 1)))) 3 (CELLS (MKS 204 (N2 + 1 + 1))))) := by
    obtain ⟨f1, f2⟩ := M2.out.2.turn (x := 3) (by decide) (fun k hk => Nat.lt_of_lt_of_le hk M2.out.1.size) og gr at9
    refine ⟨M2.out.1.grown gr M2.out.1.size (fun k e => ?_), f1⟩
    have := (M2.out.2.row 3 (by decide)).lt k e
    omega
  clear cm og gr at9 M2
  have ca := all8_ok w4.heap.size g0 (N1 + 1 + 1) k0 201 (by have := HA.out.2.2.2.2.1; omega) m3 (M3.out.2.row 0 (by decide))
  go_wp2_with fail
  refine ca.mono ?_
  rintro e w11 ⟨rfl, rfl⟩
  clear ca
  have ca := all8_ok w4.heap.size g1 (N2 + 1 + 1) k1 202 (by have := HA.out.2.2.2.2.2; omega) m3 (M3.out.2.row 1 (by decide))
  go_wp2_with fail
  refine ca.mono ?_
  rintro e w11 ⟨rfl, rfl⟩
  clear ca
  have ca := all8_ok w4.heap.size g2 (N1 + 1 + 1) k2 203 (by have := HA.out.2.2.2.2.1; omega) m3 (M3.out.2.row 2 (by decide))
  go_wp2_with fail
  refine ca.mono ?_
  rintro e w11 ⟨rfl, rfl⟩
  clear ca
  have ca := all8_ok w4.heap.size g3 (N2 + 1 + 1) k3 204 (by have := HA.out.2.2.2.2.2; omega) m3 (M3.out.2.row 3 (by decide))
  go_wp2_with fail
  refine ca.mono ?_
  rintro e w11 ⟨rfl, rfl⟩
  clear ca
  obtain ⟨_, hsp, hs7, fg, _, fa, _, _⟩ := K4.out m3 M3.out.1
  have p1 := hsp.cell 2
  have p2 := hs7.cell 2
  have cs := samehashes_ok (some ⟨g, 0, none⟩) a n n q c l l m3 fg fa (by have := HA.out.1; omega)
  rw [decide_eq_true rfl] at cs
  clear hsp hs7 fg fa
  go_wp2_with fail
  refine cs.mono ?_
  rintro e u1 ⟨rfl, hbn⟩
  have U1 : Aside (Below w4.heap.size w4 u1) := M3.out.1.trans (hbn.mono M3.out.1.size)
  clear cs hbn p1 p2 M3
  obtain ⟨_, _, hs7, _, hmk, _, _, _⟩ := K4.out u1 U1.out
  have p2 := hs7.cell 2
  have ck := marked8_ok g n q (by have := HA.out.1; omega) hq2.out u1 hmk
  clear hs7 hmk
  go_wp2_with fail
  refine ck.mono ?_
  rintro e w12 ⟨rfl, rfl⟩
  clear ck p2
  obtain ⟨_, _, hs7, _, _, _, _, _⟩ := K4.out u1 U1.out
  have p0 := hs7.cell 0
  have p1 := hs7.cell 1
  have p2 := hs7.cell 2
  have cc := CC.out u1 g q (K4.out u1 U1.out).1 (K4.out u1 U1.out).2.2.2.1
  clear hs7
  go_wp2_with fail
  refine cc.mono ?_
  rintro e u2 ⟨a20, c20, a21, c21, rfl, o1, o2, hbn, hap⟩
  have U2 : Aside (Below w4.heap.size w4 u2 ∧ Flat u2 a20 N1 Z1 ∧ Flat u2 a21 N2 Z2) := ⟨U1.out.trans (hbn.mono U1.out.size), own_flat o1 HA.out.2.2.1, own_flat o2 HA.out.2.2.2.1⟩
  clear cc o1 o2 hbn hap p0 p1 p2 U1
  have cs := SH.out u2 a20 c20 a6 c6 N1 Z1 HA.out.2.2.2.2.1 U2.out.2.1 (K4.out u2 U2.out.1).2.2.2.2.2.2.1
  go_wp2_with fail
  refine cs.mono ?_
  rintro e u3 ⟨rfl, hbn⟩
  have U3 : Aside (Below w4.heap.size w4 u3 ∧ Flat u3 a21 N2 Z2) := ⟨U2.out.1.trans (hbn.mono U2.out.1.size), U2.out.2.2.below hbn⟩
  clear cs hbn U2
  have cs := SH.out u3 a21 c21 a7 c7 N2 Z2 HA.out.2.2.2.2.2 U3.out.2 (K4.out u3 U3.out.1).2.2.2.2.2.2.2
  go_wp2_with fail
  refine cs.mono ?_
  rintro e u4 ⟨rfl, hbn⟩
  have U4 : Aside (Below w.heap.size w u4) := (K4.out u4 (U3.out.1.trans (hbn.mono U3.out.1.size))).1
  clear cs hbn U3
  have cw := CA.out u4 U4.out
  go_wp2_with fail
  refine cw.mono ?_
  rintro e u5 ⟨rfl, hbn⟩
  have U5 : Aside (Below w.heap.size w u5) := U4.out.trans (hbn.mono U4.out.size)
  clear cw hbn
  go_wp2_with fail
  go_ret
  exact ⟨rfl, U5.out⟩
theorem verifyReaches_walk (d : Int) (F S : Nat) (a : Option Addr) (n c : Nat) (l : List Int) (w : World) (hF : F < 2 ^ 64) (hS : S < 2 ^ 64) (hL : Flat w a n l) (hc : a = none → c = 0) (hnc : n ≤ c) (hT : Tabled w) (hX : HX.Tabled w) (h0 : 2 < w.heap.size) :
    Calls Tryz.prog 4 #[.int .i64 d, .agg #[.int .u64 (F : Int), .int .u64 (S : Int), .slice a n c]] w fun e w' => e = .returned (.bool true) ∧ Below w.heap.size w w' := by
  by_cases h : n ≤ 300
  · exact reaches_core d F S hF hS a n c h l w hL hc hnc hT hX h0
  · exact reaches_long d F S a n c w (by omega)
end Go.Proofs.YtkcfhgflgkejoaaGreatDoor

/- What the card's row gives the walks of layer 3: spots that came in; the table of math/bits. -/
namespace Go.Proofs.YtkcfhgflgkejoaaGreatDoor
open Go.ChangeShapes Go.WideShapes Go.ChangeAt Go.WideMaps Go.WideElems Go.RowKit
set_option maxRecDepth 100000

theorem own : ownKnob Tryz.prog.godebug = none := by kernel_rfl
theorem laidOut : laidOutB Tryz.prog = true := by kernel_rfl
theorem gTab : Tryz.prog.globalNamed "math/bits.deBruijn64tab" = some 0 := by kernel_rfl
theorem tTab : (Tryz.prog.globals[0]?).map (·.type) = some 137 := by kernel_rfl
theorem tabData {H : Type} : (Rows.laid_math_bits_deBruijn64tab : DataW H) = .agg (TAB.map fun n => .lit (.int .u8 (n : Nat))) := rfl
end Go.Proofs.YtkcfhgflgkejoaaGreatDoor
