/- Texts of ProofReads, one behind the other: ProofNodes. -/
import Derived.Test.YtfjmbfppilfepaaDoorProofReadsP19
/- What nodes, each and still of the law answer. -/
namespace Go.Proofs.YtfjmbfppilfepaaDoor
open Go.RowKit
set_option maxRecDepth 100000

set_option maxHeartbeats 2000000 in
theorem nodes_ok (B : Nat) (v : Value) (n : Nat) (xs : List Value) (m : Int) (hn : n ≤ 900) (w : World) (hB : B ≤ w.heap.size) (h : w.ownsRow B 53 32 v n xs) : Calls Tryd.prog 20 #[v, .int .u8 m] w fun e w' =>
    ∃ g cap, e = .returned (.slice (some ⟨g, 0, none⟩) (n + 1 + 1) cap) ∧ w'.ownsRow B 53 32 (.slice (some ⟨g, 0, none⟩) (n + 1 + 1) cap) (n + 1 + 1) (CELLS (MKS m (n + 1 + 1))) ∧ w.grownBy w' v.ownBlock ∧ (v.ownBlock = some g ∨ w.heap.size ≤ g) := by
  obtain ⟨a, c, rfl, hc, ha⟩ := own_shapeh h
  have hxs : xs.length = 32 * n := by have := h.1; omega
  have HA : Aside (n ≤ 900 ∧ xs.length = 32 * n ∧ w.ownsRow B 53 32 (.slice a n c) n xs ∧ (0 < n → ∃ g, a = some ⟨g, 0, none⟩) ∧ B ≤ w.heap.size) := ⟨hn, hxs, h, ha, hB⟩
  clear h ha hxs hn hB hc
  go_enter Tryd.func20, Tryd.ntmps20
  go_wp2
  go_loopg [5] n (fun q s5 wx => ∃ j : Nat, s5 = .int .i64 (j : Int) ∧ Aside (j + q = n ∧ wx.ownsRow B 53 32 (.slice a n c) n (MKP xs m j) ∧ w.grownBy wx (Value.slice a n c).ownBlock))
  case atStart => exact ⟨0, rfl, by omega, by rw [MKP_zero]; exact HA.out.2.2.1, grown_refl _ _⟩
  case round =>
    obtain ⟨j, rfl, A⟩ := hrel
    cases gk with
    | zero =>
      obtain rfl : j = n := by have := A.out.1; omega
      have hlt : ¬ (j : Int) < (j : Int) := by omega
      have R : Aside (wr.ownsRow B 53 32 (.slice a j c) j (CELLS (MKS m j)) ∧ w.grownBy wr (Value.slice a j c).ownBlock ∧ j ≤ 900 ∧ B ≤ wr.heap.size ∧ w.heap.size ≤ wr.heap.size) := by
        obtain ⟨_, h1, h2⟩ := A.out
        obtain ⟨a1, a2, a3, a4, a5⟩ := HA.out
        rw [MKP_all a2] at h1
        have hs := grown_size h2
        exact ⟨h1, h2, a1, Nat.le_trans a5 hs, hs⟩
      clear A HA
      go_wp2_with (first
        | (rw [← MK_arr]; refine build_one _ rfl 23 53 (.tmp 19) rfl (CELLS (MK m)).toArray rfl 32 _ _ Tryd.underlying23 info_hashv (by rfl) rfl (by decide) (by decide) ?_)
        | (at_builtin; refine app_hash _ rfl (.tmp 17) (.tmp 20) rfl B _ j (CELLS (MKS m j)) rfl (R.out.1.alloc _) wr.heap.size 1 (MK m) rfl rfl (Has.new _ _ _) (by have := R.out.2.2.1; omega) (by have := R.out.2.2.2.1; simp; omega) ?_; intro g1 q1 w1 hown1 hgrow1 hat1 hg1
           have S : Aside (w1.ownsRow B 53 32 (.slice (some ⟨g1, 0, none⟩) (j + 1) q1) (j + 1) (CELLS (MKS m (j + 1))) ∧ w.grownBy w1 (Value.slice a j c).ownBlock ∧ ((Value.slice a j c).ownBlock = some g1 ∨ w.heap.size ≤ g1) ∧ B ≤ w1.heap.size ∧ w.heap.size ≤ w1.heap.size) := ⟨by rw [MKS, CELLS_append]; exact hown1, grown_trans (grown_trans R.out.2.1 (grown_alloc _ _ _) (.inl rfl)) hgrow1 (.inl rfl), hat1.imp id fun e => by have := R.out.2.2.2.2; rw [e]; simp; omega, by have h1 := grown_size hgrow1; have h2 := R.out.2.2.2.1; simp at h1; omega, by have h1 := grown_size hgrow1; have h2 := R.out.2.2.2.2; simp at h1; omega⟩
           clear hown1 hgrow1 hat1 hg1)
        | (rw [← MK_arr]; refine build_one _ rfl 23 53 (.tmp 23) rfl (CELLS (MK m)).toArray rfl 32 _ _ Tryd.underlying23 info_hashv (by rfl) rfl (by decide) (by decide) ?_)
        | (at_builtin; refine app_hash _ rfl (.tmp 21) (.tmp 24) rfl B _ (j + 1) _ rfl (S.out.1.alloc _) w1.heap.size 1 (MK m) rfl rfl (Has.new _ _ _) (by have := R.out.2.2.1; omega) (by have h1 := S.out.2.2.2.1; simp; omega) ?_; intro g2 q2 w2 hown2 hgrow2 hat2 hg2))
      have S2 : Aside (w2.ownsRow B 53 32 (.slice (some ⟨g2, 0, none⟩) (j + 1 + 1) q2) (j + 1 + 1) (CELLS (MKS m (j + 1 + 1))) ∧ w.grownBy w2 (Value.slice a j c).ownBlock ∧ ((Value.slice a j c).ownBlock = some g2 ∨ w.heap.size ≤ g2)) := by
        obtain ⟨s1, s2, s3, s4, s5⟩ := S.out
        refine ⟨?_, grown_trans (grown_trans s2 (grown_alloc _ _ _) (.inl rfl)) hgrow2 ?_, ?_⟩
        · rw [show MKS m (j + 1 + 1) = MKS m (j + 1) ++ MK m from rfl, CELLS_append]
          exact hown2
        · rcases s3 with s3 | s3
          · exact .inl s3.symm
          · exact .inr fun g e => by cases e; exact s3
        · rcases hat2 with e | e
          · cases e
            exact s3
          · exact .inr (by rw [e]; simp; omega)
      clear hown2 hgrow2 hat2 hg2 S R
      go_wp2
      go_ret
      exact ⟨_, _, rfl, S2.out⟩
    | succ q =>
      obtain ⟨hj, hown, hgr⟩ := A.out
      obtain ⟨a1, a2, a3, a4, a5⟩ := HA.out
      have hlt : (j : Int) < (n : Int) := by omega
      obtain ⟨g, rfl⟩ := a4 (by omega)
      have hth : wr.there g (j * 32) (CELLS (MK m)).toArray.size := fun i hi => by
        have hi : i < 32 := hi
        refine ⟨?_, hown.frozenAt _⟩
        rw [hown.cellAt (j * 32 + i) (by omega), List.getElem?_eq_getElem (by rw [MKP_length a2 (by omega)]; omega)]
        rfl
      have hst := own_over (CELLS (MK m)) _ (j * 32) wr hown
      rw [MKP_next a2 (by omega)] at hst
      have R : Aside (j + 1 + q = n ∧ (wr.setCells g (j * 32) (CELLS (MK m)).toArray.toList).ownsRow B 53 32 (.slice (some ⟨g, 0, none⟩) n c) n (MKP xs m (j + 1)) ∧ w.grownBy (wr.setCells g (j * 32) (CELLS (MK m)).toArray.toList) (Value.slice (some ⟨g, 0, none⟩) n c).ownBlock) := ⟨by omega, hst.1, grown_trans hgr hst.2 (.inl rfl)⟩
      have E1 : Aside (wrap64 ((j : Int) + 1) = ((j + 1 : Nat) : Int)) := by show wrap64 ((j : Int) + 1) = ((j + 1 : Nat) : Int); unfold wrap64; omega
      clear hj hown hgr a1 a2 a3 a4 a5 hst A HA
      go_wp2_with (first
        | (rw [← MK_arr]; refine wpList_store_mid rfl 53 (.tmp 16) (.tmp 15) rfl g (j * 32) (CELLS (MK m)).toArray rfl rfl hth (info_arr (MK_length m)) (cells_one (MK m)) ?_))
      generalize wr.setCells g (j * 32) (CELLS (MK m)).toArray.toList = w2 at *
      have e1 := E1.out
      go_wp2
      go_roundg q
      case measure => exact Nat.lt_succ_self _
      case rel => exact ⟨j + 1, by first | rfl | (rw [E1.out]), R.out⟩
set_option maxHeartbeats 1000000 in
theorem each_ok (B g n c : Nat) (m : Int) (hn : n ≤ 1000000) (w : World) (h : w.ownsRow B 53 32 (.slice (some ⟨g, 0, none⟩) n c) n (CELLS (MKS m n))) : Calls Tryd.prog 21 #[.slice (some ⟨g, 0, none⟩) n c, .int .u8 m] w fun e w' => e = .returned (.bool true) ∧ w = w' := by
  have HA : Aside (n ≤ 1000000 ∧ w.ownsRow B 53 32 (.slice (some ⟨g, 0, none⟩) n c) n (CELLS (MKS m n))) := ⟨hn, h⟩
  clear hn h
  go_enter Tryd.func21, Tryd.ntmps21
  go_wp2
  go_loopg [5] n (fun q s5 wx => ∃ j : Nat, s5 = .int .i64 (j : Int) ∧ Aside (j + q = n) ∧ wx = w)
  case atStart => exact ⟨0, rfl, by show 0 + n = n; omega, rfl⟩
  case round =>
    obtain ⟨j, rfl, A, rfl⟩ := hrel
    cases gk with
    | zero =>
      obtain rfl : j = n := by have := A.out; omega
      have hlt : ¬ (j : Int) < (j : Int) := by omega
      clear A HA
      go_wp2
      go_ret
      exact ⟨rfl, rfl⟩
    | succ q =>
      have hj : j + 1 + q = n := by have := A.out; omega
      have hlt : (j : Int) < (n : Int) := by omega
      have hat : wr.rangeAt g (j * 32) (CELLS (MK m)) := fun i v hv => by
        have hi : i < 32 := (List.getElem?_eq_some_iff.1 hv).1
        have := HA.out.2.cellAt (j * 32 + i) (by omega)
        rw [this, CELLS_get _ _ (by rw [MKS_length]; omega), show j * 32 + i = 32 * j + i by omega, ← HSH_at hi, MKS_at m (by omega), ← hv, CELLS_get _ _ (by rw [MK_length]; exact hi)]
      have R : Aside (j + 1 + q = n) := hj
      have E1 : Aside (wrap64 ((j : Int) + 1) = ((j + 1 : Nat) : Int)) := by have := HA.out.1; show wrap64 ((j : Int) + 1) = ((j + 1 : Nat) : Int); unfold wrap64; omega
      have hnq : ∀ x y (W : World), (do eqGuard .neq 53 x y (.agg (CELLS (MK m)).toArray) (.agg (CELLS (MK m)).toArray); binOp .neq 53 (.agg (CELLS (MK m)).toArray) (.agg (CELLS (MK m)).toArray) : Sem Value).run Tryd.prog W = .ok (.bool false) W := fun x y W => neq_cells (MK m) (MK_length m) x y W
      clear hj A HA
      go_wp2_with (first
        | (refine wpList_load_mid rfl 53 (.tmp 14) rfl g (j * 32) rfl (CELLS (MK m)) _ hat Tryd.underlying53 rfl (info_cells (MK_length m)) ?_)
        | (rw [← MK_arr]; refine wpList_plain rfl (fun K hK => step_pure (run_value (hnq _ _ _)) (hK _ _ ?_))))
      have e1 := E1.out
      go_wp2
      go_roundg q
      case measure => exact Nat.lt_succ_self _
      case rel => exact ⟨j + 1, by first | rfl | (rw [E1.out]), R, rfl⟩

theorem still_ok (g n c : Nat) (hn : n ≤ 1000000) (hc : n + 1 ≤ c) (w : World) (h : w.cell? ⟨g, n, none⟩ = some (.int .u8 171)) : Calls Tryd.prog 19 #[.slice (some ⟨g, 0, none⟩) n c] w fun e w' => e = .returned (.bool true) ∧ w = w' := by
  have hw : wrap64 ((n : Int) + 1) = ((n + 1 : Nat) : Int) := by unfold wrap64; omega
  have h1 : ((n + 1 : Nat) : Int) ≤ (c : Int) := by omega
  have h2 : (n : Int) + 1 ≤ (c : Int) := by omega
  have hb0 : (0 : Int) ≤ (n : Int) := Int.natCast_nonneg n
  have hb1 : (n : Int) < (n : Int) + 1 := Int.lt_succ (n : Int)
  clear hn hc
  go_enter Tryd.func19, Tryd.ntmps19
  go_wp2
  go_ret
  exact ⟨rfl, rfl⟩
end Go.Proofs.YtfjmbfppilfepaaDoor
