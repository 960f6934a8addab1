/- Texts of VerifyClimbs, one behind the other: VerifyMarks, VerifyRow8, VerifyClimbsWalk, PosDoor. -/
import Derived.Test.YtfgbojbhheokjaaGreatDoorRows
import Derived.ProofKit
import Derived.LaidMore
import Derived.OpenShut
import Derived.Stop.Joined
import Derived.Test.YtfgbojbhheokjaaGreatDoorVerifyClimbsP9
import Derived.Test.YtfgbojbhheokjaaGreatDoorVerifyClimbsP20
import Derived.Test.YtfgbojbhheokjaaGreatDoorVerifyClimbsP33
import Derived.Test.YtfgbojbhheokjaaGreatDoorVerifyClimbsP35
import Derived.Test.YtfgbojbhheokjaaGreatDoorVerifyClimbsP39
/- What mark and all of the law answer. -/
namespace Go.Proofs.YtfgbojbhheokjaaGreatDoor
open Go.RowKit
set_option maxRecDepth 100000

set_option maxHeartbeats 2000000 in
theorem mark8_ok (B : Nat) (v : Value) (n : Nat) (xs : List Value) (m : Int) (hn : n ≤ 900) (w : World) (hB : B ≤ w.heap.size) (h : w.ownsRow B 23 32 v n xs) : Calls Tryz.prog 9 #[v, .int .u8 m] w fun e w' =>
    ∃ g cap, e = .returned (.slice (some ⟨g, 0, none⟩) (n + 1 + 1) cap) ∧ w'.ownsRow B 23 32 (.slice (some ⟨g, 0, none⟩) (n + 1 + 1) cap) (n + 1 + 1) (CELLS (MKS m (n + 1 + 1))) ∧ w.grownBy w' v.ownBlock ∧ (v.ownBlock = some g ∨ w.heap.size ≤ g) := by
  obtain ⟨a, c, rfl, hc, ha⟩ := own_shapeh h
  have hxs : xs.length = 32 * n := by have := h.1; omega
  have HA : Aside (n ≤ 900 ∧ xs.length = 32 * n ∧ w.ownsRow B 23 32 (.slice a n c) n xs ∧ (0 < n → ∃ g, a = some ⟨g, 0, none⟩) ∧ B ≤ w.heap.size) := ⟨hn, hxs, h, ha, hB⟩
  clear h ha hxs hn hB hc
  go_enter Tryz.func9, Tryz.ntmps9
  go_wp2
  go_loopg [5] n (fun q s5 wx => ∃ j : Nat, s5 = .int .i64 (j : Int) ∧ Aside (j + q = n ∧ wx.ownsRow B 23 32 (.slice a n c) n (MKP xs m j) ∧ w.grownBy wx (Value.slice a n c).ownBlock))
  case atStart => exact ⟨0, rfl, by omega, by rw [MKP_zero]; exact HA.out.2.2.1, grown_refl _ _⟩
  case round =>
    obtain ⟨j, rfl, A⟩ := hrel
    cases gk with
    | zero =>
      obtain rfl : j = n := by have := A.out.1; omega
      have hlt : ¬ (j : Int) < (j : Int) := by omega
      have R : Aside (wr.ownsRow B 23 32 (.slice a j c) j (CELLS (MKS m j)) ∧ w.grownBy wr (Value.slice a j c).ownBlock ∧ j ≤ 900 ∧ B ≤ wr.heap.size ∧ w.heap.size ≤ wr.heap.size) := by
        obtain ⟨_, h1, h2⟩ := A.out
        obtain ⟨a1, a2, a3, a4, a5⟩ := HA.out
        rw [MKP_all a2] at h1
        have hs := grown_size h2
        exact ⟨h1, h2, a1, Nat.le_trans a5 hs, hs⟩
      clear A HA
      go_wp2_with (first
        | (rw [← MK_arr]; refine build_one _ rfl 25 23 (.tmp 19) rfl (CELLS (MK m)).toArray rfl 32 _ _ Tryz.underlying25 info_hashv (by rfl) rfl (by decide) (by decide) ?_)
        | (at_builtin; refine app_hash _ rfl (.tmp 17) (.tmp 20) rfl B _ j (CELLS (MKS m j)) rfl (R.out.1.alloc _) wr.heap.size 1 (MK m) rfl rfl (Has.new _ _ _) (by have := R.out.2.2.1; omega) (by have := R.out.2.2.2.1; simp; omega) ?_; intro g1 q1 w1 hown1 hgrow1 hat1 hg1
           have S : Aside (w1.ownsRow B 23 32 (.slice (some ⟨g1, 0, none⟩) (j + 1) q1) (j + 1) (CELLS (MKS m (j + 1))) ∧ w.grownBy w1 (Value.slice a j c).ownBlock ∧ ((Value.slice a j c).ownBlock = some g1 ∨ w.heap.size ≤ g1) ∧ B ≤ w1.heap.size ∧ w.heap.size ≤ w1.heap.size) := ⟨by rw [MKS, CELLS_append]; exact hown1, grown_trans (grown_trans R.out.2.1 (grown_alloc _ _ _) (.inl rfl)) hgrow1 (.inl rfl), hat1.imp id fun e => by have := R.out.2.2.2.2; rw [e]; simp; omega, by have h1 := grown_size hgrow1; have h2 := R.out.2.2.2.1; simp at h1; omega, by have h1 := grown_size hgrow1; have h2 := R.out.2.2.2.2; simp at h1; omega⟩
           clear hown1 hgrow1 hat1 hg1)
        | (rw [← MK_arr]; refine build_one _ rfl 25 23 (.tmp 23) rfl (CELLS (MK m)).toArray rfl 32 _ _ Tryz.underlying25 info_hashv (by rfl) rfl (by decide) (by decide) ?_)
        | (at_builtin; refine app_hash _ rfl (.tmp 21) (.tmp 24) rfl B _ (j + 1) _ rfl (S.out.1.alloc _) w1.heap.size 1 (MK m) rfl rfl (Has.new _ _ _) (by have := R.out.2.2.1; omega) (by have h1 := S.out.2.2.2.1; simp; omega) ?_; intro g2 q2 w2 hown2 hgrow2 hat2 hg2))
      have S2 : Aside (w2.ownsRow B 23 32 (.slice (some ⟨g2, 0, none⟩) (j + 1 + 1) q2) (j + 1 + 1) (CELLS (MKS m (j + 1 + 1))) ∧ w.grownBy w2 (Value.slice a j c).ownBlock ∧ ((Value.slice a j c).ownBlock = some g2 ∨ w.heap.size ≤ g2)) := by
        obtain ⟨s1, s2, s3, s4, s5⟩ := S.out
        refine ⟨?_, grown_trans (grown_trans s2 (grown_alloc _ _ _) (.inl rfl)) hgrow2 ?_, ?_⟩
        · rw [show MKS m (j + 1 + 1) = MKS m (j + 1) ++ MK m from rfl, CELLS_append]
          exact hown2
        · rcases s3 with s3 | s3
          · exact .inl s3.symm
          · exact .inr fun g e => by cases e; exact s3
        · rcases hat2 with e | e
          · cases e
            exact s3
          · exact .inr (by rw [e]; simp; omega)
      clear hown2 hgrow2 hat2 hg2 S R
      go_wp2
      go_ret
      exact ⟨_, _, rfl, S2.out⟩
    | succ q =>
      obtain ⟨hj, hown, hgr⟩ := A.out
      obtain ⟨a1, a2, a3, a4, a5⟩ := HA.out
      have hlt : (j : Int) < (n : Int) := by omega
      obtain ⟨g, rfl⟩ := a4 (by omega)
      have hth : wr.there g (j * 32) (CELLS (MK m)).toArray.size := fun i hi => by
        have hi : i < 32 := hi
        refine ⟨?_, hown.frozenAt _⟩
        rw [hown.cellAt (j * 32 + i) (by omega), List.getElem?_eq_getElem (by rw [MKP_length a2 (by omega)]; omega)]
        rfl
      have hst := own_over (CELLS (MK m)) _ (j * 32) wr hown
      rw [MKP_next a2 (by omega)] at hst
      have R : Aside (j + 1 + q = n ∧ (wr.setCells g (j * 32) (CELLS (MK m)).toArray.toList).ownsRow B 23 32 (.slice (some ⟨g, 0, none⟩) n c) n (MKP xs m (j + 1)) ∧ w.grownBy (wr.setCells g (j * 32) (CELLS (MK m)).toArray.toList) (Value.slice (some ⟨g, 0, none⟩) n c).ownBlock) := ⟨by omega, hst.1, grown_trans hgr hst.2 (.inl rfl)⟩
      have E1 : Aside (wrap64 ((j : Int) + 1) = ((j + 1 : Nat) : Int)) := by show wrap64 ((j : Int) + 1) = ((j + 1 : Nat) : Int); unfold wrap64; omega
      clear hj hown hgr a1 a2 a3 a4 a5 hst A HA
      go_wp2_with (first
        | (rw [← MK_arr]; refine wpList_store_mid rfl 23 (.tmp 16) (.tmp 15) rfl g (j * 32) (CELLS (MK m)).toArray rfl rfl hth (info_arr (MK_length m)) (cells_one (MK m)) ?_))
      generalize wr.setCells g (j * 32) (CELLS (MK m)).toArray.toList = w2 at *
      have e1 := E1.out
      go_wp2
      go_roundg q
      case measure => exact Nat.lt_succ_self _
      case rel => exact ⟨j + 1, by first | rfl | (rw [E1.out]), R.out⟩
set_option maxHeartbeats 1000000 in
theorem all8_ok (B g n c : Nat) (m : Int) (hn : n ≤ 1000000) (w : World) (h : w.ownsRow B 23 32 (.slice (some ⟨g, 0, none⟩) n c) n (CELLS (MKS m n))) : Calls Tryz.prog 10 #[.slice (some ⟨g, 0, none⟩) n c, .int .u8 m] w fun e w' => e = .returned (.bool true) ∧ w = w' := by
  have HA : Aside (n ≤ 1000000 ∧ w.ownsRow B 23 32 (.slice (some ⟨g, 0, none⟩) n c) n (CELLS (MKS m n))) := ⟨hn, h⟩
  clear hn h
  go_enter Tryz.func10, Tryz.ntmps10
  go_wp2
  go_loopg [5] n (fun q s5 wx => ∃ j : Nat, s5 = .int .i64 (j : Int) ∧ Aside (j + q = n) ∧ wx = w)
  case atStart => exact ⟨0, rfl, by show 0 + n = n; omega, rfl⟩
  case round =>
    obtain ⟨j, rfl, A, rfl⟩ := hrel
    cases gk with
    | zero =>
      obtain rfl : j = n := by have := A.out; omega
      have hlt : ¬ (j : Int) < (j : Int) := by omega
      clear A HA
      go_wp2
      go_ret
      exact ⟨rfl, rfl⟩
    | succ q =>
      have hj : j + 1 + q = n := by have := A.out; omega
      have hlt : (j : Int) < (n : Int) := by omega
      have hat : wr.rangeAt g (j * 32) (CELLS (MK m)) := fun i v hv => by
        have hi : i < 32 := (List.getElem?_eq_some_iff.1 hv).1
        have := HA.out.2.cellAt (j * 32 + i) (by omega)
        rw [this, CELLS_get _ _ (by rw [MKS_length]; omega), show j * 32 + i = 32 * j + i by omega, ← HSH_at hi, MKS_at m (by omega), ← hv, CELLS_get _ _ (by rw [MK_length]; exact hi)]
      have R : Aside (j + 1 + q = n) := hj
      have E1 : Aside (wrap64 ((j : Int) + 1) = ((j + 1 : Nat) : Int)) := by have := HA.out.1; show wrap64 ((j : Int) + 1) = ((j + 1 : Nat) : Int); unfold wrap64; omega
      have hnq : ∀ x y (W : World), (do eqGuard .neq 23 x y (.agg (CELLS (MK m)).toArray) (.agg (CELLS (MK m)).toArray); binOp .neq 23 (.agg (CELLS (MK m)).toArray) (.agg (CELLS (MK m)).toArray) : Sem Value).run Tryz.prog W = .ok (.bool false) W := fun x y W => neq_cells (MK m) (MK_length m) x y W
      clear hj A HA
      go_wp2_with (first
        | (refine wpList_load_mid rfl 23 (.tmp 14) rfl g (j * 32) rfl (CELLS (MK m)) _ hat Tryz.underlying23 rfl (info_cells (MK_length m)) ?_)
        | (rw [← MK_arr]; refine wpList_plain rfl (fun K hK => step_pure (run_value (hnq _ _ _)) (hK _ _ ?_))))
      have e1 := E1.out
      go_wp2
      go_roundg q
      case measure => exact Nat.lt_succ_self _
      case rel => exact ⟨j + 1, by first | rfl | (rw [E1.out]), R, rfl⟩
end Go.Proofs.YtfgbojbhheokjaaGreatDoor

/- What row and marked of the law answer, as chapter 8 asks them. -/
namespace Go.Proofs.YtfgbojbhheokjaaGreatDoor
open Go.RowKit
set_option maxRecDepth 100000

set_option maxHeartbeats 1000000 in
theorem row8_ok (a : Option Addr) (n c : Nat) (hn : n ≤ 1000) (hc : a = none → c = 0) (l : List Int) (w : World) (hF : Flat w a n l) : Calls Tryz.prog 5 #[.slice a n c] w (ROWED w n l) := by
  have HA : Aside (n ≤ 1000 ∧ (a = none → c = 0) ∧ Flat w a n l) := ⟨hn, hc, hF⟩
  clear hn hc hF
  go_enter Tryz.func5, Tryz.ntmps5
  go_wp2_with (first
    | (at_builtin; refine app_hashes _ rfl (.tmp 3) (.tmp 4) rfl w.heap.size (.slice (some ⟨w.heap.size, 0, none⟩) 0 0) 0 [] rfl (own_empty32 w) a n c l rfl (HA.out.2.2.below ((Below.refl _ _).alloc (Nat.le_refl _) _)) HA.out.2.1 (by have := HA.out.1; omega) (by simp) ?_; rw [Nat.zero_add, List.nil_append]; intro a1 c1 w1 hown1 hgrow1
       have R1 : Aside (w1.ownsRow w.heap.size 23 32 (.slice a1 n c1) n (CELLS l) ∧ Below w.heap.size w w1) := ⟨hown1, ((Below.refl _ w).alloc (Nat.le_refl _) _).grown hgrow1 (by simp) (fun k e => by cases e; exact Nat.le_refl _)⟩
       clear hown1 hgrow1)
    | (rw [← MRK_arr]; refine build_one _ rfl 25 23 (.tmp 6) rfl (CELLS MRK).toArray rfl 32 _ _ Tryz.underlying25 info_hashv (by rfl) rfl (by decide) (by decide) ?_)
    | (at_builtin; refine app_hash _ rfl (.tmp 5) (.tmp 7) rfl w.heap.size (.slice a1 n c1) n (CELLS l) rfl (R1.out.1.alloc _) w1.heap.size 1 MRK rfl rfl (Has.new _ _ _) (by have := HA.out.1; omega) (by have := R1.out.2.size; simp; omega) ?_; intro g2 c2 w2 hown2 hgrow2 hat2 hg2
       obtain ⟨f1, f2, f3, f4⟩ := own_front32 hown2 HA.out.2.2.1 rfl
       have hcap : (n : Int) ≤ (c2 : Int) := by omega
       have R2 : Aside (w2.ownsRow w.heap.size 23 32 (.slice (some ⟨g2, 0, none⟩) n c2) n (CELLS l) ∧ n + 1 ≤ c2 ∧ w2.rangeAt g2 (n * 32) (CELLS MRK) ∧ g2 < w2.heap.size ∧ Below w.heap.size w w2) := ⟨f1, f2, f3, f4, (R1.out.2.alloc R1.out.2.size _).grown hgrow2 (by have := R1.out.2.size; simp; omega) (fun k e => (R1.out.1.lt k e).1)⟩
       clear hown2 hgrow2 hat2 hg2 f1 f2 f3 f4))
  go_ret
  exact ⟨_, _, rfl, R2.out⟩
theorem marked8_ok (g n c : Nat) (hn : n ≤ 1000) (hc : n + 1 ≤ c) (w : World) (h : w.rangeAt g (n * 32) (CELLS MRK)) : Calls Tryz.prog 11 #[.slice (some ⟨g, 0, none⟩) n c] w fun e w' => e = .returned (.bool true) ∧ w = w' := by
  have hw : wrap64 ((n : Int) + 1) = ((n + 1 : Nat) : Int) := by unfold wrap64; omega
  have h1 : ((n + 1 : Nat) : Int) ≤ (c : Int) := by omega
  have h2 : (n : Int) + 1 ≤ (c : Int) := by omega
  have hb0 : (0 : Int) ≤ (n : Int) := Int.natCast_nonneg n
  have hb1 : (n : Int) < (n : Int) + 1 := Int.lt_succ (n : Int)
  have hnq : ∀ x y (W : World), (do eqGuard .eql 23 x y (.agg (CELLS MRK).toArray) (.agg (CELLS MRK).toArray); binOp .eql 23 (.agg (CELLS MRK).toArray) (.agg (CELLS MRK).toArray) : Sem Value).run Tryz.prog W = .ok (.bool true) W := fun x y W => by
    have := eql_hashes (h := MRK) (g := MRK) rfl rfl x y W
    rw [this]
    simp
  clear hn hc
  go_enter Tryz.func11, Tryz.ntmps11
  go_wp2_with (first
    | (refine wpList_load_mid rfl 23 (.tmp 10) rfl g (n * 32) rfl (CELLS MRK) _ h Tryz.underlying23 rfl (info_cells rfl) ?_)
    | (rw [← MRK_arr]; refine wpList_plain rfl (fun K hK => step_pure (run_value (hnq _ _ _)) (hK _ _ ?_))))
  go_ret
  exact ⟨rfl, rfl⟩
end Go.Proofs.YtfgbojbhheokjaaGreatDoor

/- The law VerifyClimbs returns true. -/
namespace Go.Proofs.YtfgbojbhheokjaaGreatDoor
open Go.RowKit
set_option maxRecDepth 100000

theorem own_holdh {w w' : World} {B s n : Nat} {t : TypeId} {v : Value} {xs : List Value} (h : w.ownsRow B t s v n xs) (hk : ∀ k, v.ownBlock = some k → w'.heap[k]? = w.heap[k]?) : w'.ownsRow B t s v n xs := by
  refine ⟨h.1, ?_⟩
  rcases h.2 with h | ⟨g, cap, cur, rfl, hb, hg, r⟩
  · exact .inl h
  · exact .inr ⟨g, cap, cur, rfl, hb, by rw [hk g rfl]; exact hg, r⟩
theorem CLA_few {d : Int} {leaf : List Int} {S I n : Nat} {l : List Int} (hS : S < 2 ^ 64) : (CLA d leaf S I n l).2.1 ≤ 64 := by
  unfold CLA
  split
  · exact Nat.zero_le _
  · split
    · exact Nat.zero_le _
    · exact PC_lt_pow 64 S hS
theorem climbs_long (d : Int) (leaf : List Int) (S I : Nat) (a : Option Addr) (n c : Nat) (w : World) (h : (300 : Int) < (n : Int)) :
    Calls Tryz.prog 3 #[.int .i64 d, .agg (CELLS leaf).toArray, .agg #[.int .u64 (S : Int), .int .u64 (I : Int), .slice a n c]] w fun e w' => e = .returned (.bool true) ∧ Below w.heap.size w w' := by
  obtain ⟨W0, hW0⟩ : ∃ W0, (w.alloc (.cells (CELLS leaf).toArray 23)).alloc (.cells #[.int .u64 (S : Int), .int .u64 (I : Int), .slice a n c] 27) = W0 := ⟨_, rfl⟩
  obtain ⟨bp, hbp⟩ : ∃ bp, w.heap.size + 1 = bp := ⟨_, rfl⟩
  have HB : Aside (Below w.heap.size w W0) := by rw [← hW0]; exact ((Below.refl _ _).alloc (Nat.le_refl _) _).alloc (by simp) _
  have hH : Has W0 bp #[.int .u64 (S : Int), .int .u64 (I : Int), .slice a n c] 27 := by rw [← hW0, ← hbp]; exact Has.at _ _ _ (by simp)
  have x2 := hH.cell 2
  clear hH
  go_enter Tryz.func3, Tryz.ntmps3
  go_upto_region 1 with fail
  clear hW0 hbp
  go_wp2_with fail
  go_ret
  exact ⟨rfl, HB.out⟩
set_option maxHeartbeats 16000000 in
theorem climbs_core (d : Int) (leaf : List Int) (hleaf : IsH leaf) (S I : Nat) (hS : S < 2 ^ 64) (hI : I < 2 ^ 64) (a : Option Addr) (n c : Nat) (hn : n ≤ 300) (l : List Int) (w : World) (hF : Flat w a n l) (hc : a = none → c = 0) (hT : Tabled w) (hX : HX.Tabled w) (h0 : 2 < w.heap.size) :
    Calls Tryz.prog 3 #[.int .i64 d, .agg (CELLS leaf).toArray, .agg #[.int .u64 (S : Int), .int .u64 (I : Int), .slice a n c]] w fun e w' => e = .returned (.bool true) ∧ Below w.heap.size w w' := by
  have i1 : ¬ (300 : Int) < (n : Int) := by omega
  have hrg := CLA_range (d := d) (S := S) (I := I) hleaf hF.1 hF.2.2
  have hfew := CLA_few (d := d) (leaf := leaf) (I := I) (n := n) (l := l) hS
  obtain ⟨A, hA⟩ : ∃ A, CLA d leaf S I n l = A := ⟨_, rfl⟩
  rw [hA] at hrg hfew
  have CR : Aside (∀ W, Below w.heap.size w W → Calls Tryz.prog 6 #[.int .i64 d, .agg (CELLS leaf).toArray, .agg #[.int .u64 (S : Int), .int .u64 (I : Int), .slice a n c]] W (ANSH W A)) := fun W hb => by
    rw [← hA]
    exact refclimb_ok d leaf hleaf S I hS hI a n c (by omega) l W (hF.below hb)
  have CC : Aside (∀ W g q, Below w.heap.size w W → Flat W (some ⟨g, 0, none⟩) n l → Calls Tryz.prog 7 #[.int .i64 d, .agg (CELLS leaf).toArray, .agg #[.int .u64 (S : Int), .int .u64 (I : Int), .slice (some ⟨g, 0, none⟩) n q]] W (ANSH W A)) := fun W g q hb hf => by
    rw [← hA]
    exact climb_ok d leaf hleaf S I (some ⟨g, 0, none⟩) n q l W hf (hT.below (by omega) hb) (hX.below hb) (Nat.lt_of_lt_of_le h0 hb.size)
  have CA : Aside (∀ W, Below w.heap.size w W → Calls Tryz.prog 12 #[] W fun e w' => e = .returned (.bool true) ∧ Below W.heap.size W w') := fun W hb => awake8_ok W (hT.below (by omega) hb) (hX.below hb) (Nat.lt_of_lt_of_le h0 hb.size)
  have HA : Aside (n ≤ 300 ∧ Flat w a n l ∧ (∀ x ∈ A.2.2, 0 ≤ x ∧ x ≤ 255) ∧ A.2.1 ≤ 64 ∧ leaf.length = 32) := ⟨hn, hF, hrg, hfew, hleaf.1⟩
  unfold ANSH at CR CC
  obtain ⟨E, hE⟩ : ∃ E, A.1 = E := ⟨_, rfl⟩
  obtain ⟨N, hN⟩ : ∃ N, A.2.1 = N := ⟨_, rfl⟩
  obtain ⟨Z, hZ⟩ : ∃ Z, A.2.2 = Z := ⟨_, rfl⟩
  rw [hE, hN, hZ] at CR CC
  rw [hN, hZ] at HA
  obtain ⟨W0, hW0⟩ : ∃ W0, (w.alloc (.cells (CELLS leaf).toArray 23)).alloc (.cells #[.int .u64 (S : Int), .int .u64 (I : Int), .slice a n c] 27) = W0 := ⟨_, rfl⟩
  obtain ⟨b4, hb4⟩ : ∃ b4, w.heap.size = b4 := ⟨_, rfl⟩
  obtain ⟨bp, hbp⟩ : ∃ bp, b4 + 1 = bp := ⟨_, rfl⟩
  have R0 : Aside (Below w.heap.size w W0 ∧ Has W0 b4 (CELLS leaf).toArray 23 ∧ Has W0 bp #[.int .u64 (S : Int), .int .u64 (I : Int), .slice a n c] 27) := by
    rw [← hW0, ← hbp, ← hb4]
    exact ⟨((Below.refl _ _).alloc (Nat.le_refl _) _).alloc (by simp) _, (Has.new _ _ _).alloc _, Has.at _ _ _ (by simp)⟩
  have x0 := R0.out.2.2.cell 0
  have x1 := R0.out.2.2.cell 1
  have x2 := R0.out.2.2.cell 2
  have HC : Aside (a = none → c = 0) := hc
  have l32 := hleaf.1
  clear hleaf hS hI hn hF hc hT hX h0 hrg hfew hA hE hN hZ
  go_enter Tryz.func3, Tryz.ntmps3
  go_upto_region 1 with fail
  have HB4 : Aside (w.heap.size = b4 ∧ b4 + 1 = bp) := ⟨hb4, hbp⟩
  clear hW0 hb4 hbp
  go_upto_region 4 with fail
  obtain ⟨w1, e1⟩ : ∃ w1, W0.alloc (.cells #[.int .u64 (S : Int), .int .u64 (I : Int), .slice a n c] 27) = w1 := ⟨_, rfl⟩
  obtain ⟨b7, hb7⟩ : ∃ b7, W0.heap.size = b7 := ⟨_, rfl⟩
  rw [e1, hb7]
  have hb1 : Below W0.heap.size W0 w1 := by rw [← e1]; exact (Below.refl _ _).alloc (Nat.le_refl _) _
  have R1 : Aside (Below w.heap.size w w1 ∧ Has w1 b4 (CELLS leaf).toArray 23 ∧ Has w1 bp #[.int .u64 (S : Int), .int .u64 (I : Int), .slice a n c] 27 ∧ Has w1 b7 #[.int .u64 (S : Int), .int .u64 (I : Int), .slice a n c] 27 ∧ b4 ≠ b7 ∧ bp ≠ b7 ∧ w.heap.size ≤ b7) := ⟨R0.out.1.trans (hb1.mono R0.out.1.size), R0.out.2.1.keep hb1, R0.out.2.2.keep hb1, by rw [← e1, ← hb7]; exact Has.new _ _ _, by have := R0.out.2.1.lt; omega, by have := R0.out.2.2.lt; omega, by rw [← hb7]; exact R0.out.1.size⟩
  clear e1 hb7 hb1 R0 x0 x1 x2
  have x2 := R1.out.2.2.1.cell 2
  have cw := row8_ok a n c (by have := HA.out.1; omega) HC.out l w1 (HA.out.2.1.below R1.out.1)
  go_wp2_with fail
  refine cw.mono ?_
  rintro e w2 ⟨g, q, rfl, og, hq, hmk, hg, hb2⟩
  have y2 := (R1.out.2.2.2.1.keep hb2).cell 2
  have yf := (R1.out.2.2.2.1.keep hb2).frozen 2
  have hg7 : g ≠ b7 := by have h1 := (og.lt g rfl).1; have h2 := R1.out.2.2.2.1.lt; omega
  have R2 : Aside (Below w.heap.size w w2 ∧ Has w2 b4 (CELLS leaf).toArray 23 ∧ Has w2 bp #[.int .u64 (S : Int), .int .u64 (I : Int), .slice a n c] 27 ∧ Has w2 b7 #[.int .u64 (S : Int), .int .u64 (I : Int), .slice a n c] 27 ∧ Flat w2 (some ⟨g, 0, none⟩) n l ∧ w2.rangeAt g (n * 32) (CELLS MRK) ∧ g < w2.heap.size ∧ n + 1 ≤ q ∧ g ≠ b7) := ⟨R1.out.1.trans (hb2.mono R1.out.1.size), R1.out.2.1.keep hb2, R1.out.2.2.1.keep hb2, R1.out.2.2.2.1.keep hb2, own_flat og HA.out.2.1.2.2, hmk, hg, hq, hg7⟩
  clear cw og hq hmk hg hb2 x2 hg7
  go_upto_region 5 with fail
  obtain ⟨w3, e3⟩ : ∃ w3, w2.setCell ⟨b7, 2, none⟩ (.slice (some ⟨g, 0, none⟩) n q) = w3 := ⟨_, rfl⟩
  rw [e3]
  have R3 : Aside (Below w.heap.size w w3 ∧ Has w3 b4 (CELLS leaf).toArray 23 ∧ Has w3 bp #[.int .u64 (S : Int), .int .u64 (I : Int), .slice a n c] 27 ∧ Has w3 b7 #[.int .u64 (S : Int), .int .u64 (I : Int), .slice (some ⟨g, 0, none⟩) n q] 27 ∧ Flat w3 (some ⟨g, 0, none⟩) n l ∧ w3.rangeAt g (n * 32) (CELLS MRK) ∧ g < w3.heap.size ∧ n + 1 ≤ q) := by
    obtain ⟨r1, r2, r3, r4, r5, r6, r7, r8, r9⟩ := R2.out
    rw [← e3]
    exact ⟨r1.setCell (p := ⟨b7, 2, none⟩) R1.out.2.2.2.2.2.2 _, r2.other (a := ⟨b7, 2, none⟩) R1.out.2.2.2.2.1 _, r3.other (a := ⟨b7, 2, none⟩) R1.out.2.2.2.2.2.1 _, r4.set 2 _, r5.other (a := ⟨b7, 2, none⟩) r9 _, range_other r6 (a := ⟨b7, 2, none⟩) r9 _, Nat.lt_of_lt_of_le r7 (KeepsWalks.setCell w2 ⟨b7, 2, none⟩ (.slice (some ⟨g, 0, none⟩) n q)).size, r8⟩
  clear R1 R2 e3 y2 yf
  have K3 : Aside (∀ W, Below w3.heap.size w3 W → Below w.heap.size w W ∧ Has W b4 (CELLS leaf).toArray 23 ∧ Has W bp #[.int .u64 (S : Int), .int .u64 (I : Int), .slice a n c] 27 ∧ Has W b7 #[.int .u64 (S : Int), .int .u64 (I : Int), .slice (some ⟨g, 0, none⟩) n q] 27 ∧ Flat W (some ⟨g, 0, none⟩) n l ∧ W.rangeAt g (n * 32) (CELLS MRK) ∧ Flat W a n l) := fun W hb => by
    obtain ⟨r1, r2, r3, r4, r5, r6, r7, r8⟩ := R3.out
    have h := r1.trans (hb.mono r1.size)
    exact ⟨h, r2.keep hb, r3.keep hb, r4.keep hb, r5.below hb, range_below r6 hb r7, HA.out.2.1.below h⟩
  have hq2 : Aside (n + 1 ≤ q) := R3.out.2.2.2.2.2.2.2
  clear R3
  obtain ⟨_, hs4, hsp, hs7, _, _, _⟩ := K3.out w3 (Below.refl _ _)
  have p0 := hsp.cell 0
  have p1 := hsp.cell 1
  have p2 := hsp.cell 2
  clear hs7
  have cc := CR.out w3 (K3.out w3 (Below.refl _ _)).1
  go_wp2_with (refine wpList_load_row rfl 23 (.tmp 4) rfl b4 rfl 23 (CELLS leaf).toArray (0, 0) _ hs4 Tryz.underlying23 rfl (info_arr l32) ?_)
  refine cc.mono ?_
  rintro e w4 ⟨a8, c8, rfl, o8, hb4'⟩
  have W4 : Aside (Below w3.heap.size w3 w4 ∧ w4.ownsRow w3.heap.size 23 32 (.slice a8 N c8) N (CELLS Z)) := ⟨hb4', o8⟩
  clear cc o8 hb4' hs4 hsp p0 p1 p2 CR
  obtain ⟨_, hs4, hsp, hs7, _, _, _⟩ := K3.out w4 W4.out.1
  have p0 := hs7.cell 0
  have p1 := hs7.cell 1
  have p2 := hs7.cell 2
  clear hsp
  have cc := CC.out w4 g q (K3.out w4 W4.out.1).1 (K3.out w4 W4.out.1).2.2.2.2.1
  go_wp2_with (refine wpList_load_row rfl 23 (.tmp 4) rfl b4 rfl 23 (CELLS leaf).toArray (0, 0) _ hs4 Tryz.underlying23 rfl (info_arr l32) ?_)
  refine cc.mono ?_
  rintro e w5 ⟨a10, c10, rfl, o10, hb5⟩
  have W5 : Aside (Below w3.heap.size w3 w5 ∧ w5.ownsRow w3.heap.size 23 32 (.slice a8 N c8) N (CELLS Z) ∧ w5.ownsRow w4.heap.size 23 32 (.slice a10 N c10) N (CELLS Z) ∧ w4.heap.size ≤ w5.heap.size ∧ (∀ k, (Value.slice a8 N c8).ownBlock = some k → k < w4.heap.size) ∧ w3.heap.size ≤ w4.heap.size) := ⟨W4.out.1.trans (hb5.mono W4.out.1.size), own_below W4.out.2 hb5, o10, hb5.size, fun k e => (W4.out.2.lt k e).2, W4.out.1.size⟩
  clear cc o10 hb5 hs4 hs7 p0 p1 p2 W4
  obtain ⟨_, hs4, hsp, hs7, _, _, _⟩ := K3.out w5 W5.out.1
  have p0 := hs7.cell 0
  have p1 := hs7.cell 1
  have p2 := hs7.cell 2
  clear hsp
  have cc := CC.out w5 g q (K3.out w5 W5.out.1).1 (K3.out w5 W5.out.1).2.2.2.2.1
  go_wp2_with (refine wpList_load_row rfl 23 (.tmp 4) rfl b4 rfl 23 (CELLS leaf).toArray (0, 0) _ hs4 Tryz.underlying23 rfl (info_arr l32) ?_)
  refine cc.mono ?_
  rintro e w6 ⟨a12, c12, rfl, o12, hb6⟩
  have W6 : Aside (Below w3.heap.size w3 w6 ∧ w6.ownsRow w3.heap.size 23 32 (.slice a8 N c8) N (CELLS Z) ∧ w6.ownsRow w4.heap.size 23 32 (.slice a10 N c10) N (CELLS Z) ∧ w6.ownsRow w5.heap.size 23 32 (.slice a12 N c12) N (CELLS Z) ∧ (∀ k, (Value.slice a8 N c8).ownBlock = some k → k < w4.heap.size) ∧ (∀ k, (Value.slice a10 N c10).ownBlock = some k → k < w5.heap.size) ∧ w3.heap.size ≤ w4.heap.size ∧ w4.heap.size ≤ w5.heap.size ∧ w5.heap.size ≤ w6.heap.size) := ⟨W5.out.1.trans (hb6.mono W5.out.1.size), own_below W5.out.2.1 hb6, own_below W5.out.2.2.1 hb6, o12, W5.out.2.2.2.2.1, fun k e => (W5.out.2.2.1.lt k e).2, W5.out.2.2.2.2.2, W5.out.2.2.2.1, hb6.size⟩
  clear cc o12 hb6 hs4 hs7 p0 p1 p2 W5
  have SH : Aside (∀ W av cv, Flat W av N Z → Flat W a8 N Z → Calls Tryz.prog 8 #[.slice av N cv, .slice a8 N c8] W fun e w' => e = .returned (.bool true) ∧ Below W.heap.size W w') := fun W av cv h1 h2 => by
    have h := samehashes_ok av a8 N N cv c8 Z Z W h1 h2 (by have := HA.out.2.2.2.1; omega)
    rw [decide_eq_true rfl] at h
    exact h
  have hE : (E == E) = true := beq_self_eq_true E
  have cs := SH.out w6 a10 c10 (own_flat W6.out.2.2.1 HA.out.2.2.1) (own_flat W6.out.2.1 HA.out.2.2.1)
  go_wp2_with fail
  refine cs.mono ?_
  rintro e w7 ⟨rfl, hb7'⟩
  have B7 : Aside (Below w6.heap.size w6 w7) := hb7'
  clear cs hb7'
  have cs := SH.out w7 a12 c12 ((own_flat W6.out.2.2.2.1 HA.out.2.2.1).below B7.out) ((own_flat W6.out.2.1 HA.out.2.2.1).below B7.out)
  go_wp2_with fail
  refine cs.mono ?_
  rintro e w8 ⟨rfl, hb8⟩
  have B8 : Aside (Below w6.heap.size w6 w8) := B7.out.trans (hb8.mono B7.out.size)
  clear cs hb8 B7
  have cm := mark8_ok w4.heap.size (.slice a10 N c10) N (CELLS Z) 201 (by have := HA.out.2.2.2.1; omega) w8 (by have := W6.out.2.2.2.2.2.2.2.2; have := W6.out.2.2.2.2.2.2.2.1; have := B8.out.size; omega) (own_below W6.out.2.2.1 B8.out)
  go_wp2_with fail
  refine cm.mono ?_
  rintro e w9 ⟨g14, c14, rfl, o14, gr9, at9⟩
  have W9 : Aside (Below w3.heap.size w3 w9 ∧ w9.ownsRow w3.heap.size 23 32 (.slice a8 N c8) N (CELLS Z) ∧ w9.ownsRow w4.heap.size 23 32 (.slice (some ⟨g14, 0, none⟩) (N + 1 + 1) c14) (N + 1 + 1) (CELLS (MKS 201 (N + 1 + 1))) ∧ w9.ownsRow w5.heap.size 23 32 (.slice a12 N c12) N (CELLS Z) ∧ (∀ k, (Value.slice a12 N c12).ownBlock = some k → k < w6.heap.size) ∧ (g14 < w5.heap.size ∨ w6.heap.size ≤ g14) ∧ w6.heap.size ≤ w9.heap.size) := by
    obtain ⟨r1, r2, r3, r4, r5, r6, r7, r8, r9⟩ := W6.out
    have s8 := B8.out.size
    have q2 := own_below r2 B8.out
    have q4 := own_below r4 B8.out
    have b8 := r1.trans (B8.out.mono r1.size)
    refine ⟨b8.grown gr9 b8.size (fun k e => by have := (r3.lt k e).1; omega), own_holdh q2 fun k e => gr9.block k (q2.lt k e).2 fun e2 => ?_, o14, own_holdh q4 fun k e => gr9.block k (q4.lt k e).2 fun e2 => ?_, fun k e => (r4.lt k e).2, ?_, by have := gr9.size; omega⟩
    · have h1 := r5 k e
      have h2 := (r3.lt k e2.symm).1
      omega
    · have h1 := (r4.lt k e).1
      have h2 := r6 k e2.symm
      omega
    · rcases at9 with h | h
      · exact .inl (r6 g14 h)
      · exact .inr (by omega)
  have S6 : Aside (w3.heap.size ≤ w4.heap.size ∧ w4.heap.size ≤ w5.heap.size ∧ w5.heap.size ≤ w6.heap.size ∧ ∀ k, (Value.slice a8 N c8).ownBlock = some k → k < w4.heap.size) := ⟨W6.out.2.2.2.2.2.2.1, W6.out.2.2.2.2.2.2.2.1, W6.out.2.2.2.2.2.2.2.2, W6.out.2.2.2.2.1⟩
  clear cm o14 gr9 at9 W6 B8
  have cm := mark8_ok w5.heap.size (.slice a12 N c12) N (CELLS Z) 202 (by have := HA.out.2.2.2.1; omega) w9 (by have := S6.out.2.2.1; have := W9.out.2.2.2.2.2.2; omega) W9.out.2.2.2.1
  go_wp2_with fail
  refine cm.mono ?_
  rintro e w10 ⟨g15, c15, rfl, o15, gr10, at10⟩
  have W10 : Aside (Below w3.heap.size w3 w10 ∧ w10.ownsRow w3.heap.size 23 32 (.slice a8 N c8) N (CELLS Z) ∧ w10.ownsRow w4.heap.size 23 32 (.slice (some ⟨g14, 0, none⟩) (N + 1 + 1) c14) (N + 1 + 1) (CELLS (MKS 201 (N + 1 + 1))) ∧ w10.ownsRow w5.heap.size 23 32 (.slice (some ⟨g15, 0, none⟩) (N + 1 + 1) c15) (N + 1 + 1) (CELLS (MKS 202 (N + 1 + 1)))) := by
    obtain ⟨r1, r2, r3, r4, r5, r6, r7⟩ := W9.out
    obtain ⟨s1, s2, s3, s4⟩ := S6.out
    refine ⟨r1.grown gr10 r1.size (fun k e => by have := (r4.lt k e).1; omega), own_holdh r2 fun k e => gr10.block k (r2.lt k e).2 fun e2 => ?_, own_holdh r3 fun k e => gr10.block k (r3.lt k e).2 fun e2 => ?_, o15⟩
    · have h1 := s4 k e
      have h2 := (r4.lt k e2.symm).1
      omega
    · obtain rfl : g14 = k := by simpa [Value.ownBlock] using e
      have h1 := (r4.lt g14 e2.symm).1
      have h2 := r5 g14 e2.symm
      omega
  clear cm o15 gr10 at10 W9 S6
  have ca := all8_ok w4.heap.size g14 (N + 1 + 1) c14 201 (by have := HA.out.2.2.2.1; omega) w10 W10.out.2.2.1
  go_wp2_with fail
  refine ca.mono ?_
  rintro e w11 ⟨rfl, rfl⟩
  clear ca
  have ca := all8_ok w5.heap.size g15 (N + 1 + 1) c15 202 (by have := HA.out.2.2.2.1; omega) w10 W10.out.2.2.2
  go_wp2_with fail
  refine ca.mono ?_
  rintro e w11 ⟨rfl, rfl⟩
  clear ca
  obtain ⟨_, _, hsp, hs7, fg, _, fa⟩ := K3.out w10 W10.out.1
  have p1 := hsp.cell 2
  have p2 := hs7.cell 2
  have cs := samehashes_ok (some ⟨g, 0, none⟩) a n n q c l l w10 fg fa (by have := HA.out.1; omega)
  rw [decide_eq_true rfl] at cs
  clear hsp hs7 fg fa
  go_wp2_with fail
  refine cs.mono ?_
  rintro e w11 ⟨rfl, hb11⟩
  have B11 : Aside (Below w10.heap.size w10 w11 ∧ Below w3.heap.size w3 w11) := ⟨hb11, W10.out.1.trans (hb11.mono W10.out.1.size)⟩
  clear cs hb11 p1 p2
  obtain ⟨_, _, _, hs7, _, hmk, _⟩ := K3.out w11 B11.out.2
  have p2 := hs7.cell 2
  have ck := marked8_ok g n q (by have := HA.out.1; omega) hq2.out w11 hmk
  clear hs7 hmk
  go_wp2_with fail
  refine ck.mono ?_
  rintro e w12 ⟨rfl, rfl⟩
  clear ck p2
  obtain ⟨_, hs4, hsp, hs7, _, _, _⟩ := K3.out w11 B11.out.2
  have p0 := hs7.cell 0
  have p1 := hs7.cell 1
  have p2 := hs7.cell 2
  clear hsp
  have cc := CC.out w11 g q (K3.out w11 B11.out.2).1 (K3.out w11 B11.out.2).2.2.2.2.1
  go_wp2_with (refine wpList_load_row rfl 23 (.tmp 4) rfl b4 rfl 23 (CELLS leaf).toArray (0, 0) _ hs4 Tryz.underlying23 rfl (info_arr l32) ?_)
  refine cc.mono ?_
  rintro e w13 ⟨a16, c16, rfl, o16, hb13⟩
  have W13 : Aside (Below w3.heap.size w3 w13 ∧ w13.ownsRow w3.heap.size 23 32 (.slice a8 N c8) N (CELLS Z) ∧ w13.ownsRow w11.heap.size 23 32 (.slice a16 N c16) N (CELLS Z)) := ⟨B11.out.2.trans (hb13.mono B11.out.2.size), own_below (own_below W10.out.2.1 B11.out.1) hb13, o16⟩
  clear cc o16 hb13 hs4 hs7 p0 p1 p2 W10 B11
  have cs := SH.out w13 a16 c16 (own_flat W13.out.2.2 HA.out.2.2.1) (own_flat W13.out.2.1 HA.out.2.2.1)
  go_wp2_with fail
  refine cs.mono ?_
  rintro e w14 ⟨rfl, hb14⟩
  have B14 : Aside (Below w.heap.size w w14) := (K3.out w14 (W13.out.1.trans (hb14.mono W13.out.1.size))).1
  clear cs hb14 W13
  have cw := CA.out w14 B14.out
  go_wp2_with fail
  refine cw.mono ?_
  rintro e w15 ⟨rfl, hb15⟩
  have B15 : Aside (Below w.heap.size w w15) := B14.out.trans (hb15.mono B14.out.size)
  clear cw hb15
  go_wp2_with fail
  go_ret
  exact ⟨rfl, B15.out⟩
theorem verifyClimbs_walk (d : Int) (leaf : List Int) (S I : Nat) (a : Option Addr) (n c : Nat) (l : List Int) (w : World) (hm : leaf.length = 32) (hr : ∀ x ∈ leaf, 0 ≤ x ∧ x ≤ 255) (hS : S < 2 ^ 64) (hI : I < 2 ^ 64) (hF : Flat w a n l) (hc : a = none → c = 0) (hT : Tabled w) (hX : HX.Tabled w) (h0 : 2 < w.heap.size) :
    Calls Tryz.prog 3 #[.int .i64 d, .agg (CELLS leaf).toArray, .agg #[.int .u64 (S : Int), .int .u64 (I : Int), .slice a n c]] w fun e w' => e = .returned (.bool true) ∧ Below w.heap.size w w' := by
  by_cases h : n ≤ 300
  · exact climbs_core d leaf ⟨hm, hr⟩ S I hS hI a n c h l w hF hc hT hX h0
  · exact climbs_long d leaf S I a n c w (by omega)
end Go.Proofs.YtfgbojbhheokjaaGreatDoor

/- What the card's row gives the walks of layer 3: spots that came in; the table of math/bits. -/
namespace Go.Proofs.YtfgbojbhheokjaaGreatDoor
open Go.ChangeShapes Go.WideShapes Go.ChangeAt Go.WideMaps Go.WideElems Go.RowKit
set_option maxRecDepth 100000

theorem own : ownKnob Tryz.prog.godebug = none := by kernel_rfl
theorem laidOut : laidOutB Tryz.prog = true := by kernel_rfl
theorem gTab : Tryz.prog.globalNamed "math/bits.deBruijn64tab" = some 2 := by kernel_rfl
theorem tTab : (Tryz.prog.globals[2]?).map (·.type) = some 117 := by kernel_rfl
theorem tabData {H : Type} : (Rows.laid_math_bits_deBruijn64tab : DataW H) = .agg (TAB.map fun n => .lit (.int .u8 (n : Nat))) := rfl
theorem of_laid {W : World} (h : laidMetH Tryz.prog [("math/bits.deBruijn64tab", Rows.laid_math_bits_deBruijn64tab)] W) : Tabled W ∧ 0 < W.heap.size := by
  rw [MakeChecks.laidMetH_plain _ _ _ (by kernel_rfl)] at h
  obtain ⟨ps, ⟨g0, t0, cs0, f0, p0, q0, hg0, ht0, hv0, hd0, _, _⟩, _, _⟩ := h
  obtain rfl := Option.some.inj (gTab.symm.trans hg0)
  obtain rfl := Option.some.inj (tTab.symm.trans ht0)
  obtain ⟨xs, m1, rfl, hx1, hlen, hn, hel⟩ := DataW.trod_array Tryz.underlying117 hd0
  have c5 : Tryz.prog.cellsOf 5 = 1 := by kernel_rfl
  simp only [Prod.mk.injEq] at hx1
  have hx := hx1.1
  rw [tabData] at hx
  simp only [DataW.agg.injEq] at hx
  have T : Tabled W := fun i hi => by
    have h0 := hel i hi
    have hi' : i < xs.length := by omega
    rw [List.getElem?_eq_getElem hi', c5, Nat.mul_one] at h0
    obtain ⟨k, e1, e2, _⟩ := DataW.trod_int Tryz.underlying5 h0
    have hk : (k : Int) = ((TAB.getD i 0 : Nat) : Int) := by
      have hz := congrArg (fun l => l[i]?) hx
      have hT : i < TAB.length := hi
      simp only [List.getElem?_map, List.getElem?_eq_getElem hi', List.getElem?_eq_getElem hT, Option.map_some, e2] at hz
      simp at hz
      rw [List.getD_eq_getElem?_getD, List.getElem?_eq_getElem hT]
      simpa using hz.symm
    have hv := World.var?_cell hg0 hv0 i
    rw [hv, ← hk]
    have := congrArg (fun l => l[0]?) e1
    simp at this
    simpa using this
  refine ⟨T, ?_⟩
  have := T 0 (by decide)
  exact Nat.lt_of_le_of_lt (Nat.zero_le _) (World.block_lt_of_cell? W _ this)
/-- a spot that came in. -/
theorem open_spot {H : Type} {enc : TypeId × Value → H} {W : World} {r : Reach} {b0 base : Nat} {sp : Nat → Bool} {held : Bool} {v : Value} {d : DataW H} {ps : List MemPlace}
    (hval : Value.okWide Tryz.prog W r b0 50 v) (hd : DataW.Trod enc Tryz.prog W base sp held 50 v d ps) : ∃ h k : Nat, h < 256 ∧ k < 2 ^ 64 ∧ v = SPOT h k := by
  simp only [Value.okWide, Tryz.underlying50] at hval
  obtain ⟨cs, rfl, hsz, _⟩ := hval
  obtain ⟨fuel, hf⟩ := hd
  obtain ⟨y0, y1, m, _, hl, h0, h1⟩ := trod_struct2 Tryz.underlying50 hf
  obtain ⟨a, e1, _, e3⟩ := DataW.trod_int Tryz.underlying5 h0
  obtain ⟨b, f1, _, f3⟩ := DataW.trod_int Tryz.underlying24 h1
  have c1 : Tryz.prog.cellsOf 5 = 1 := by kernel_rfl
  have c2 : Tryz.prog.cellsOf 24 = 1 := by kernel_rfl
  have c3 : Tryz.prog.cellsOf 50 = 2 := by kernel_rfl
  rw [c3] at hsz
  rw [c1] at e1
  rw [c2] at f1
  have ha := bounds_u8 e3
  have hb := wf_u64 f3
  obtain ⟨x, y, rfl⟩ : ∃ x y, cs = #[x, y] := by
    obtain ⟨l⟩ := cs
    match l, hsz with
    | [x, y], _ => exact ⟨x, y, rfl⟩
  simp [Value.cells] at e1 f1
  subst e1 f1
  refine ⟨a.toNat, b.toNat, by omega, by omega, ?_⟩
  rw [SPOT, Int.toNat_of_nonneg (by omega), Int.toNat_of_nonneg (by omega)]
end Go.Proofs.YtfgbojbhheokjaaGreatDoor
