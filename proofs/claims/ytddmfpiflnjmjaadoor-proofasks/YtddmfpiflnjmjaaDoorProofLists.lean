/- Two lists of numbers that read the same; a list written over and grown; does it have the mark alone? -/
import Derived.Test.YtddmfpiflnjmjaaDoorProofRefPlaces
namespace Go.Proofs.YtddmfpiflnjmjaaDoor
open Go.RowKit
set_option maxRecDepth 100000

theorem samenumbers_ok (va vb : Value) (l : List Nat) (w : World) (hn : l.length ≤ 1000) (ha : Nums w va l) (hb : Nums w vb l) :
    Calls Tryd.prog 12 #[va, vb] w fun e w' => e = .returned (.bool true) ∧ Below w.heap.size w w' := by
  obtain ⟨a, ca, rfl, hA⟩ := ha
  obtain ⟨b, cb, rfl, hB⟩ := hb
  generalize hL : l.length = n at *
  rcases Nat.eq_zero_or_pos n with h | h
  · subst h
    clear hA hB hL
    go_enter Tryd.func12, Tryd.ntmps12
    go_wp2
    refine wp_loop_rounds 1 ?_
    rw [rounds_succ]
    go_wp2
    go_ret
    exact ⟨rfl, Below.refl _ _⟩
  · obtain ⟨ga, rfl, la, hca⟩ := hA h
    obtain ⟨gb, rfl, lb, hcb⟩ := hB h
    have HC : Aside ((∀ (i : Nat), i < n → w.cell? ⟨ga, i, none⟩ = some (.int .u64 ((l.getD i 0 : Nat) : Int))) ∧ (∀ (i : Nat), i < n → w.cell? ⟨gb, i, none⟩ = some (.int .u64 ((l.getD i 0 : Nat) : Int))) ∧ ga < w.heap.size ∧ gb < w.heap.size) := ⟨hca, hcb, la, lb⟩
    clear hA hB hca hcb la lb hL
    go_enter Tryd.func12, Tryd.ntmps12
    go_wp2
    go_loopg [5] n (fun g s5 wx => ∃ k : Nat, k + g = n ∧ s5 = .int .i64 k ∧ Aside (Below w.heap.size w wx))
    case atStart => exact ⟨0, by omega, rfl, Below.refl _ _⟩
    case round =>
      obtain ⟨k, hkg, rfl, A⟩ := hrel
      cases gk with
      | zero =>
        obtain rfl : k = n := by omega
        go_wp2
        go_ret
        exact ⟨rfl, A.out⟩
      | succ g =>
        have hlt : (k : Int) < (n : Int) := by omega
        have h1 : wr.cell? ⟨ga, k, none⟩ = some (.int .u64 ((l.getD k 0 : Nat) : Int)) := (A.out.cell (by exact HC.out.2.2.1)).trans (HC.out.1 k (by omega))
        have h2 : wr.cell? ⟨gb, k, none⟩ = some (.int .u64 ((l.getD k 0 : Nat) : Int)) := (A.out.cell (by exact HC.out.2.2.2)).trans (HC.out.2.1 k (by omega))
        generalize l.getD k 0 = v at h1 h2
        go_wp2
        go_quiet (fail)
        go_wp2
        go_roundg g
        case measure => omega
        case rel => exact ⟨k + 1, by omega, by go_num, below_drewN A.out _⟩
theorem grown_trans {w w1 w2 : World} {r r' : Option Nat} (h : w.grownBy w1 r) (h' : w1.grownBy w2 r') (hr : r' = r ∨ ∀ g, r' = some g → w.heap.size ≤ g) : w.grownBy w2 r := by
  obtain ⟨a1, a2, a3, a4, a5⟩ := h
  obtain ⟨b1, b2, b3, b4, b5⟩ := h'
  refine ⟨by rw [b1, a1], by rw [b2, a2], by rw [b3, a3], Nat.le_trans a4 b4, fun k hk hne => ?_⟩
  rw [b5 k (by omega) (fun e => ?_), a5 k hk hne]
  rcases hr with hr | hr
  · exact hne (by rw [e, hr])
  · have := hr k e.symm
    omega
theorem grown_size {w w' : World} {r : Option Nat} (h : w.grownBy w' r) : w.heap.size ≤ w'.heap.size := by
  obtain ⟨_, _, _, hs, _⟩ := h
  exact hs
theorem grown_alloc (w : World) (o : Obj) (r : Option Nat) : w.grownBy (w.alloc o) r := ⟨rfl, rfl, rfl, by simp, fun k hk _ => heap_alloc_old w o hk⟩
theorem own_form {w : World} {B n g m c : Nat} {xs : List Value} (h : w.ownsRow B 22 1 (.slice (some ⟨g, 0, none⟩) m c) n xs) : m = n := by
  rcases h.2 with ⟨e, _⟩ | ⟨_, _, _, e, _⟩
  · simp at e
  · simp at e
    omega
/-- the first j cells are the mark. -/
def OVER (xs : List Value) (u : Value) (j : Nat) : List Value := List.replicate j u ++ xs.drop j
theorem OVER_zero (xs : List Value) (u : Value) : OVER xs u 0 = xs := by simp [OVER]
theorem OVER_all (xs : List Value) (u : Value) : OVER xs u xs.length = List.replicate xs.length u := by simp [OVER]
theorem OVER_next {xs : List Value} {u : Value} {j : Nat} (hj : j < xs.length) : (OVER xs u j).set j u = OVER xs u (j + 1) := by
  unfold OVER
  rw [List.set_append_right _ _ (by simp)]
  simp only [List.length_replicate, Nat.sub_self]
  rw [List.drop_eq_getElem_cons hj, List.set_cons_zero, List.replicate_succ']
  simp
set_option maxHeartbeats 1000000 in
theorem numbers_ok (B : Nat) (v : Value) (n : Nat) (xs : List Value) (m : Nat) (hn : n ≤ 200) (w : World) (hB : B ≤ w.heap.size) (h : w.ownsRow B 22 1 v n xs) : Calls Tryd.prog 13 #[v, .int .u64 (m : Int)] w fun e w' =>
    ∃ g cap, e = .returned (.slice (some ⟨g, 0, none⟩) (n + 1 + 1) cap) ∧ w'.ownsRow B 22 1 (.slice (some ⟨g, 0, none⟩) (n + 1 + 1) cap) (n + 1 + 1) (List.replicate (n + 1 + 1) (.int .u64 (m : Int))) ∧ w.grownBy w' v.ownBlock ∧ (v.ownBlock = some g ∨ w.heap.size ≤ g) := by
  obtain ⟨a, c, rfl, ha⟩ := own_slice h
  have hxs : xs.length = n := by have := h.1; omega
  have HA : Aside (n ≤ 200 ∧ xs.length = n ∧ w.ownsRow B 22 1 (.slice a n c) n xs ∧ (0 < n → ∃ g, a = some ⟨g, 0, none⟩) ∧ B ≤ w.heap.size) := ⟨hn, hxs, h, fun h0 => by obtain ⟨g, e, _⟩ := ha h0; exact ⟨g, e⟩, hB⟩
  clear h ha hxs hn hB
  go_enter Tryd.func13, Tryd.ntmps13
  go_wp2
  go_loopg [5] n (fun q s5 wx => ∃ j : Nat, s5 = .int .i64 (j : Int) ∧ Aside (j + q = n ∧ wx.ownsRow B 22 1 (.slice a n c) n (OVER xs (.int .u64 (m : Int)) j) ∧ w.grownBy wx (Value.slice a n c).ownBlock))
  case atStart => exact ⟨0, rfl, by omega, by rw [OVER_zero]; exact HA.out.2.2.1, grown_refl _ _⟩
  case round =>
    obtain ⟨j, rfl, A⟩ := hrel
    cases gk with
    | zero =>
      obtain rfl : j = n := by have := A.out.1; omega
      have hlt : ¬ (j : Int) < (j : Int) := by omega
      have R : Aside (wr.ownsRow B 22 1 (.slice a j c) j (List.replicate j (.int .u64 (m : Int))) ∧ w.grownBy wr (Value.slice a j c).ownBlock ∧ j ≤ 200 ∧ B ≤ wr.heap.size ∧ w.heap.size ≤ wr.heap.size) := by
        obtain ⟨_, h1, h2⟩ := A.out
        obtain ⟨a1, a2, a3, a4, a5⟩ := HA.out
        have e : OVER xs (.int .u64 (m : Int)) j = List.replicate j (.int .u64 (m : Int)) := by
          have := OVER_all xs (.int .u64 (m : Int))
          rw [a2] at this
          exact this
        rw [e] at h1
        have hs := grown_size h2
        exact ⟨h1, h2, a1, Nat.le_trans a5 hs, hs⟩
      clear A HA
      go_wp2_with (at_builtin; first
        | (refine app_more _ rfl (.tmp 16) (.tmp 18) rfl B _ j (List.replicate j (.int .u64 (m : Int))) rfl (R.out.1.alloc _) wr.heap.size 1 (m : Int) rfl (by rw [World.cell?_alloc_at _ _ _ _ rfl]; rfl) (by have := R.out.2.2.1; omega) (by have := R.out.2.2.2.1; simp; omega) ?_; intro g1 q1 w1 hown1 hgrow1 hat1 hg1
           have S : Aside (w1.ownsRow B 22 1 (.slice (some ⟨g1, 0, none⟩) (j + 1) q1) (j + 1) (List.replicate j (.int .u64 (m : Int)) ++ [.int .u64 (m : Int)]) ∧ w.grownBy w1 (Value.slice a j c).ownBlock ∧ ((Value.slice a j c).ownBlock = some g1 ∨ w.heap.size ≤ g1) ∧ B ≤ w1.heap.size ∧ w.heap.size ≤ w1.heap.size) := ⟨hown1, grown_trans (grown_trans R.out.2.1 (grown_alloc _ _ _) (.inl rfl)) hgrow1 (.inl rfl), hat1.imp id fun e => by have := R.out.2.2.2.2; rw [e]; simp; omega, by have h1 := grown_size hgrow1; have h2 := R.out.2.2.2.1; simp at h1; omega, by have h1 := grown_size hgrow1; have h2 := R.out.2.2.2.2; simp at h1; omega⟩
           clear hown1 hgrow1 hat1 hg1)
        | (refine app_more _ rfl (.tmp 19) (.tmp 21) rfl B _ (j + 1) _ rfl (S.out.1.alloc _) w1.heap.size 1 (m : Int) rfl (by rw [World.cell?_alloc_at _ _ _ _ rfl]; rfl) (by have := R.out.2.2.1; omega) (by have h1 := S.out.2.2.2.1; simp; omega) ?_; intro g2 q2 w2 hown2 hgrow2 hat2 hg2))
      have S2 : Aside (w2.ownsRow B 22 1 (.slice (some ⟨g2, 0, none⟩) (j + 1 + 1) q2) (j + 1 + 1) (List.replicate (j + 1 + 1) (.int .u64 (m : Int))) ∧ w.grownBy w2 (Value.slice a j c).ownBlock ∧ ((Value.slice a j c).ownBlock = some g2 ∨ w.heap.size ≤ g2)) := by
        obtain ⟨s1, s2, s3, s4, s5⟩ := S.out
        refine ⟨?_, grown_trans (grown_trans s2 (grown_alloc _ _ _) (.inl rfl)) hgrow2 ?_, ?_⟩
        · rw [List.replicate_succ', List.replicate_succ']
          exact hown2
        · rcases s3 with s3 | s3
          · exact .inl s3.symm
          · exact .inr fun g e => by cases e; exact s3
        · rcases hat2 with e | e
          · cases e
            exact s3
          · exact .inr (by rw [e]; simp; omega)
      clear hown2 hgrow2 hat2 hg2 S R
      go_wp2
      go_ret
      exact ⟨_, _, rfl, S2.out⟩
    | succ q =>
      obtain ⟨hj, hown, hgr⟩ := A.out
      obtain ⟨a1, a2, a3, a4, a5⟩ := HA.out
      have hlt : (j : Int) < (n : Int) := by omega
      obtain ⟨g, rfl⟩ := a4 (by omega)
      have hc := hown.cellAt j (by omega)
      obtain ⟨x, hx⟩ : ∃ x, (OVER xs (.int .u64 (m : Int)) j)[j]? = some x := ⟨_, List.getElem?_eq_getElem (by have := hown.1; omega)⟩
      rw [hx] at hc
      have hfz : wr.frozen? ⟨g, j, none⟩ = false := by
        rcases hown.2 with ⟨e, _⟩ | ⟨g', c', cur, e, _, hg, _⟩
        · cases e
        · cases e
          exact Has.frozen (show Has wr g cur 22 from hg) j
      have hst := (hown.stored j (.int .u64 (m : Int))).1
      have hnx := OVER_next (u := .int .u64 (m : Int)) (show j < xs.length by omega)
      have R : Aside (j + 1 + q = n ∧ (wr.setCell ⟨g, j, none⟩ (.int .u64 (m : Int))).ownsRow B 22 1 (.slice (some ⟨g, 0, none⟩) n c) n (OVER xs (.int .u64 (m : Int)) (j + 1)) ∧ w.grownBy (wr.setCell ⟨g, j, none⟩ (.int .u64 (m : Int))) (Value.slice (some ⟨g, 0, none⟩) n c).ownBlock) := ⟨by omega, by rw [← hnx]; exact hst, grown_trans hgr (grown_set wr g j _) (.inl rfl)⟩
      have E1 : Aside (wrap64 ((j : Int) + 1) = ((j + 1 : Nat) : Int)) := by show wrap64 ((j : Int) + 1) = ((j + 1 : Nat) : Int); unfold wrap64; omega
      clear hj hown hgr a1 a2 a3 a4 a5 hx hst hnx A HA
      have e1 := E1.out
      go_wp2
      go_roundg q
      case measure => exact Nat.lt_succ_self _
      case rel => exact ⟨j + 1, by first | rfl | (rw [E1.out]), R.out⟩
theorem all_ok (g n c m : Nat) (hn : n ≤ 1000) (w : World) (h : ∀ j, j < n → w.cell? ⟨g, j, none⟩ = some (.int .u64 (m : Int))) : Calls Tryd.prog 14 #[.slice (some ⟨g, 0, none⟩) n c, .int .u64 (m : Int)] w fun e w' => e = .returned (.bool true) ∧ w = w' := by
  have HA : Aside (n ≤ 1000 ∧ ∀ j, j < n → w.cell? ⟨g, j, none⟩ = some (.int .u64 (m : Int))) := ⟨hn, h⟩
  clear hn h
  go_enter Tryd.func14, Tryd.ntmps14
  go_wp2
  go_loopg [5] n (fun q s5 wx => ∃ j : Nat, s5 = .int .i64 (j : Int) ∧ Aside (j + q = n) ∧ wx = w)
  case atStart => exact ⟨0, rfl, by show 0 + n = n; omega, rfl⟩
  case round =>
    obtain ⟨j, rfl, A, rfl⟩ := hrel
    cases gk with
    | zero =>
      obtain rfl : j = n := by have := A.out; omega
      have hlt : ¬ (j : Int) < (j : Int) := by omega
      clear A HA
      go_wp2
      go_ret
      exact ⟨rfl, rfl⟩
    | succ q =>
      have hj : j + 1 + q = n := by have := A.out; omega
      have hlt : (j : Int) < (n : Int) := by omega
      have hc := HA.out.2 j (by omega)
      have R : Aside (j + 1 + q = n) := hj
      have E1 : Aside (wrap64 ((j : Int) + 1) = ((j + 1 : Nat) : Int)) := by have := HA.out.1; show wrap64 ((j : Int) + 1) = ((j + 1 : Nat) : Int); unfold wrap64; omega
      clear hj A HA
      have e1 := E1.out
      go_wp2
      go_roundg q
      case measure => exact Nat.lt_succ_self _
      case rel => exact ⟨j + 1, by first | rfl | (rw [E1.out]), R, rfl⟩
end Go.Proofs.YtddmfpiflnjmjaaDoor
