/- What the law's asked answers: the spy was asked for the places, as far as it answered, and the list has what it told; the walk of ProofAsks. -/
import Derived.Test.YtddmfpiflnjmjaaDoorProofAskedRegion
namespace Go.Proofs.YtddmfpiflnjmjaaDoor
open Go.RowKit
set_option maxRecDepth 100000

theorem case_all {R : Int} {N : Nat} (h : N ≤ R.toNat) : (R < 0 ∧ N = 0) ∨ (¬ R < 0 ∧ ¬ R < (N : Int)) := by omega
theorem case_ref {R : Int} {N Z L : Nat} (hZ : R.toNat = Z) (hR : Z < N) (hN : N ≤ 188) (hL : Z + 1 = L) : (R < 0 ∧ (0 : Int) < (N : Int) ∧ L = 1) ∨ (¬ R < 0 ∧ R < (N : Int) ∧ wrap64 (R + 1) = (L : Int)) := by
  by_cases h : R < 0
  · exact .inl ⟨h, by omega, by omega⟩
  · exact .inr ⟨h, by omega, by unfold wrap64; omega⟩
theorem asked_err (sb : Nat) (R E : Int) (hE : ¬ E = 0) (va : Value) (av : Option Addr) (ca : Nat) (hva : va = .slice av 0 ca) (wv : Value) (w : World) (h : Has w sb #[va, .int .i64 R] 34) :
    Calls Tryd.prog 17 #[.pointer (some ⟨sb, 0, none⟩), wv, .int .i64 E, .slice none 0 0, .int .i64 E] w fun e w' => e = .returned (.bool true) ∧ w = w' := by
  subst hva
  have hE' : (E != 0) = true := by simp [hE]
  have h0 : w.cell? ⟨sb, 0, none⟩ = some (.slice av 0 ca) := h.cell 0
  clear h
  go_enter Tryd.func17, Tryd.ntmps17
  go_wp2
  go_ret
  exact ⟨rfl, rfl⟩
theorem NDS_at {P : List Nat} {N k j : Nat} (_ : P.length = N) (hk : k < N) (hj : j < 32) : (CELLS (NDS P N))[k * 32 + j]? = (CELLS (HND (P.getD k 0) k))[j]? := by
  have key : ∀ N, k < N → (NDS P N)[k * 32 + j]? = (HND (P.getD k 0) k)[j]? := by
    intro N
    induction N with
    | zero => intro h; omega
    | succ N ih =>
      intro h
      rw [NDS_succ]
      by_cases e : k = N
      · subst e
        rw [List.getElem?_append_right (by rw [NDS_length]; omega), NDS_length]
        congr 1
        omega
      · rw [List.getElem?_append_left (by rw [NDS_length]; omega)]
        exact ih (by omega)
  unfold CELLS
  rw [List.getElem?_map, List.getElem?_map, key N hk]
set_option maxHeartbeats 4000000 in
theorem asked_all (sb : Nat) (R : Int) (P : List Nat) (hP : P.length ≤ 188) (hp64 : ∀ p ∈ P, p < 2 ^ 64) (hR : P.length ≤ R.toNat) (va wv lv : Value) (B : Nat) (w : World) (hS : SPY w B sb R P va) (hW : Nums w wv P) (hL : w.ownsRow B 82 32 lv P.length (CELLS (NDS P P.length))) :
    Calls Tryd.prog 17 #[.pointer (some ⟨sb, 0, none⟩), wv, .int .i64 0, lv, .int .i64 0] w fun e w' => e = .returned (.bool true) ∧ Below w.heap.size w w' := by
  obtain ⟨N, hN⟩ : ∃ N, P.length = N := ⟨_, rfl⟩
  obtain ⟨aw, cw, rfl, hwc⟩ := hW
  obtain ⟨aa, ca, rfl, hac⟩ := nums_own hS.row
  obtain ⟨al, cl, rfl⟩ : ∃ al cl, lv = .slice al P.length cl := by
    rcases hL.2 with ⟨e, h0⟩ | ⟨g, cap, cur, e, _⟩
    · exact ⟨none, 0, by rw [e, h0]⟩
    · exact ⟨_, cap, e⟩
  rw [hN] at hwc hac hL hR
  rw [hN]
  have hh := hS.has
  rw [hN] at hh
  have h0 : w.cell? ⟨sb, 0, none⟩ = some (.slice aa N ca) := hh.cell 0
  have h1 : w.cell? ⟨sb, 1, none⟩ = some (.int .i64 R) := hh.cell 1
  have hsb := hh.lt
  have HA : Aside (P.length = N ∧ N ≤ 188 ∧ (∀ p ∈ P, p < 2 ^ 64) ∧ w.ownsRow B 82 32 (.slice al N cl) N (CELLS (NDS P N)) ∧ (0 < N → ∃ g, aw = some ⟨g, 0, none⟩ ∧ g < w.heap.size ∧ ∀ (j : Nat), j < N → w.cell? ⟨g, j, none⟩ = some (.int .u64 ((P.getD j 0 : Nat) : Int))) ∧ (0 < N → ∃ g, aa = some ⟨g, 0, none⟩ ∧ g < w.heap.size ∧ ∀ (j : Nat), j < N → w.cell? ⟨g, j, none⟩ = some (.int .u64 ((P.getD j 0 : Nat) : Int))) ∧ sb < w.heap.size ∧ w.cell? ⟨sb, 0, none⟩ = some (.slice aa N ca)) := ⟨hN, by omega, hp64, hL, hwc, hac, hsb, h0⟩
  have hcase := case_all hR
  clear hN hP hp64 hR hS hL hwc hac hh hsb
  go_enter Tryd.func17, Tryd.ntmps17
  rcases hcase with ⟨hc1, hc2⟩ | ⟨hc1, hc2⟩
  · subst hc2
    go_wp2
    refine wp_loop_rounds 1 ?_
    rw [rounds_succ]
    go_wp2
    go_ret
    exact ⟨rfl, Below.refl _ _⟩
  · go_wp2
    clear h0 h1
    go_loopg [13] N (fun q s13 wx => ∃ k : Nat, s13 = .int .i64 (k : Int) ∧ Aside (k + q = N ∧ Below w.heap.size w wx))
    case atStart => exact ⟨0, rfl, by omega, Below.refl _ _⟩
    case round =>
      obtain ⟨k, rfl, A⟩ := hrel
      cases gk with
      | zero =>
        obtain rfl : k = N := by have := A.out.1; omega
        have hlt : ¬ (k : Int) < (k : Int) := by omega
        have R1 : Aside (Below w.heap.size w wr) := A.out.2
        clear A HA
        go_wp2
        go_ret
        exact ⟨rfl, R1.out⟩
      | succ q =>
        obtain ⟨hk, hbel⟩ := A.out
        obtain ⟨a1, a2, a3, a4, a5, a6, a7, a8⟩ := HA.out
        have hlt : (k : Int) < (N : Int) := by omega
        obtain ⟨gw, rfl, hgw, hcw⟩ := a5 (by omega)
        obtain ⟨ga, rfl, hga, hca⟩ := a6 (by omega)
        obtain ⟨gl, el, hgl⟩ : ∃ gl, al = some ⟨gl, 0, none⟩ ∧ gl < w.heap.size := by
          rcases a4.2 with ⟨e, h0⟩ | ⟨g, cap, cur, e, _, hg, _⟩
          · omega
          · cases e
            exact ⟨g, rfl, (Array.getElem?_eq_some_iff.1 hg).1⟩
        subst el
        obtain ⟨y, hy⟩ : ∃ y, P.getD k 0 = y := ⟨_, rfl⟩
        have hy64 : y < 2 ^ 64 := by
          rw [← hy]
          apply a3
          rw [List.getD_eq_getElem?_getD, List.getElem?_eq_getElem (by omega)]
          exact List.getElem_mem _
        have y0 : wr.cell? ⟨sb, 0, none⟩ = some (.slice (some ⟨ga, 0, none⟩) N ca) := (hbel.cell (p := ⟨sb, 0, none⟩) a7).trans a8
        have y1 : wr.cell? ⟨ga, k, none⟩ = some (.int .u64 (y : Int)) := by rw [← hy]; exact (hbel.cell (p := ⟨ga, k, none⟩) hga).trans (hca k (by omega))
        have y2 : wr.cell? ⟨gw, k, none⟩ = some (.int .u64 (y : Int)) := by rw [← hy]; exact (hbel.cell (p := ⟨gw, k, none⟩) hgw).trans (hcw k (by omega))
        have y3 : wr.rangeAt gl (k * 32) (CELLS (HND y k)) := by
          intro j v hv
          have hj : j < 32 := by
            have := (List.getElem?_eq_some_iff.1 hv).1
            rw [CELLS, List.length_map, HND_length] at this
            exact this
          refine (hbel.cell (p := ⟨gl, k * 32 + j, none⟩) hgl).trans ?_
          have := a4.cellAt (k * 32 + j) (by omega)
          rw [this, NDS_at a1 (by omega) hj, hy]
          exact hv
        have K : Aside (k + 1 + q = N ∧ Below w.heap.size w wr) := ⟨by omega, hbel⟩
        have E1 : Aside (wrap64 ((k : Int) + 1) = ((k + 1 : Nat) : Int)) := by show wrap64 ((k : Int) + 1) = ((k + 1 : Nat) : Int); unfold wrap64; omega
        have E2 : Aside (IntKind.u64.wrap ((y : Int) / 256) = (y : Int) / 256 ∧ IntKind.i64.wrap ((k : Int) + 1) = (k : Int) + 1) := ⟨by rw [wrapU]; omega, by rw [IntKind.wrap_i64]; omega⟩
        clear hk hbel a1 a2 a3 a4 a5 a6 a7 a8 A HA hgw hcw hga hca hgl hy hy64
        go_wp2
        refine askedtold _ _ _ _ _ _ _ _ _ _ _ _ _ _ _ _ _ _ _ _ _ _ _ _ _ _ _ _ _ _ _ _ _ _ _ _ _ _ _ _ _ _ _ _ _ _ _ _ _ _ _ _ _ _ _ _ _ _ _ _ _ _ _ _ _ _ _ _ _ _ _ _ _ _ _ _ _ _ _ _ _ _ _ _ _ _ _ _ _ _ _ _ _ _ _ _ _ _ _ _ _ _ _ _ _ wr w sb ga N ca gw N cw gl N cl k y hlt hlt hlt E2.out.1 E2.out.2 ⟨y0, y1, y2, y3, K.out.2⟩ (fun _ _ _ _ _ h => h) (fun w2 hw2 => ?_)
        have K2 : Aside (k + 1 + q = N ∧ Below w.heap.size w w2) := ⟨K.out.1, hw2.2.2.2.2⟩
        clear hw2 y0 y1 y2 y3 K E2
        have e1 := E1.out
        go_wp2
        go_roundg q
        case measure => exact Nat.lt_succ_self _
        case rel => exact ⟨k + 1, by first | rfl | (rw [E1.out]), K2.out⟩
set_option maxHeartbeats 4000000 in
theorem asked_ref (sb : Nat) (R : Int) (P : List Nat) (hP : P.length ≤ 188) (hR : R.toNat < P.length) (va wv : Value) (B : Nat) (w : World) (hS : SPY w B sb R (P.take (R.toNat + 1)) va) (hW : Nums w wv P) :
    Calls Tryd.prog 17 #[.pointer (some ⟨sb, 0, none⟩), wv, .int .i64 0, .slice none 0 0, .int .i64 50] w fun e w' => e = .returned (.bool true) ∧ Below w.heap.size w w' := by
  obtain ⟨N, hN⟩ : ∃ N, P.length = N := ⟨_, rfl⟩
  obtain ⟨Z, hZ⟩ : ∃ Z, R.toNat = Z := ⟨_, rfl⟩
  rw [hZ] at hR hS
  obtain ⟨aw, cw, rfl, hwc⟩ := hW
  obtain ⟨aa, ca, rfl, hac⟩ := nums_own hS.row
  have hlen : (P.take (Z + 1)).length = Z + 1 := by rw [List.length_take]; omega
  have hget : ∀ j, j < Z + 1 → (P.take (Z + 1)).getD j 0 = P.getD j 0 := fun j hj => by
    rw [List.getD_eq_getElem?_getD, List.getD_eq_getElem?_getD, List.getElem?_take, if_pos hj]
  have hh := hS.has
  rw [hlen] at hac hh
  obtain ⟨ga, rfl, hga, hca⟩ := hac (by omega)
  obtain ⟨gw, rfl, hgw, hcw⟩ := hwc (by omega)
  rw [hN]
  rw [hN] at hcw
  have h0 : w.cell? ⟨sb, 0, none⟩ = some (.slice (some ⟨ga, 0, none⟩) (Z + 1) ca) := hh.cell 0
  have h1 : w.cell? ⟨sb, 1, none⟩ = some (.int .i64 R) := hh.cell 1
  have hsb := hh.lt
  obtain ⟨L, hL⟩ : ∃ L, Z + 1 = L := ⟨_, rfl⟩
  rw [hL] at h0 hca hget
  have HA : Aside (L ≤ N ∧ N ≤ 188 ∧ ga < w.heap.size ∧ gw < w.heap.size ∧ sb < w.heap.size ∧ (∀ j, j < L → w.cell? ⟨ga, j, none⟩ = some (.int .u64 ((P.getD j 0 : Nat) : Int))) ∧ (∀ j, j < N → w.cell? ⟨gw, j, none⟩ = some (.int .u64 ((P.getD j 0 : Nat) : Int))) ∧ w.cell? ⟨sb, 0, none⟩ = some (.slice (some ⟨ga, 0, none⟩) L ca)) := ⟨by omega, by omega, hga, hgw, hsb, fun j hj => by rw [← hget j hj]; exact hca j hj, hcw, h0⟩
  have hcase := case_ref hZ (show Z < N by rw [← hN]; exact hR) (show N ≤ 188 by rw [← hN]; exact hP) hL
  clear hN hP hR hS hlen hwc hac hh hsb hget hca hcw hga hgw hL hZ
  go_enter Tryd.func17, Tryd.ntmps17
  rcases hcase with ⟨hc1, hc2, hc3⟩ | ⟨hc1, hc2, hc3⟩
  · subst hc3
    go_wp2
    clear h0 h1
    go_loopg [13] 1 (fun q s13 wx => ∃ k : Nat, s13 = .int .i64 (k : Int) ∧ Aside (k + q = 1 ∧ Below w.heap.size w wx))
    case atStart => exact ⟨0, rfl, by omega, Below.refl _ _⟩
    case round =>
      obtain ⟨k, rfl, A⟩ := hrel
      cases gk with
      | zero =>
        obtain rfl : k = 1 := by have := A.out.1; omega
        have R1 : Aside (Below w.heap.size w wr) := A.out.2
        clear A HA
        go_wp2
        go_ret
        exact ⟨rfl, R1.out⟩
      | succ q =>
        obtain ⟨hk, hbel⟩ := A.out
        obtain ⟨a1, a2, a3, a4, a5, a6, a7, a8⟩ := HA.out
        have hlt : (k : Int) < ((1 : Nat) : Int) := by omega
        have hlt1 : (k : Int) < 1 := by omega
        have hltN : (k : Int) < (N : Int) := by omega
        obtain ⟨y, hy⟩ : ∃ y, P.getD k 0 = y := ⟨_, rfl⟩
        have y0 : wr.cell? ⟨sb, 0, none⟩ = some (.slice (some ⟨ga, 0, none⟩) 1 ca) := (hbel.cell (p := ⟨sb, 0, none⟩) a5).trans a8
        have y1 : wr.cell? ⟨ga, k, none⟩ = some (.int .u64 (y : Int)) := by rw [← hy]; exact (hbel.cell (p := ⟨ga, k, none⟩) a3).trans (a6 k (by omega))
        have y2 : wr.cell? ⟨gw, k, none⟩ = some (.int .u64 (y : Int)) := by rw [← hy]; exact (hbel.cell (p := ⟨gw, k, none⟩) a4).trans (a7 k (by omega))
        have K : Aside (k + 1 + q = 1 ∧ Below w.heap.size w wr) := ⟨by omega, hbel⟩
        have E1 : Aside (wrap64 ((k : Int) + 1) = ((k + 1 : Nat) : Int)) := by show wrap64 ((k : Int) + 1) = ((k + 1 : Nat) : Int); unfold wrap64; omega
        clear hk hbel a1 a2 a3 a4 a5 a6 a7 a8 A HA hy
        go_wp2
        refine askedrefused _ _ _ _ _ _ _ _ _ _ _ _ _ _ _ _ _ _ _ _ _ _ _ _ _ _ _ _ _ _ _ _ _ _ _ _ _ _ _ _ _ _ _ _ _ _ _ _ _ _ _ _ _ _ _ _ _ _ _ _ _ _ _ _ _ _ _ _ _ _ _ _ _ _ _ _ _ _ _ _ _ _ _ _ _ _ _ _ _ _ _ _ _ _ _ _ _ _ _ _ _ _ _ _ _ wr w sb ga 1 ca gw N cw k y (.slice none 0 0) hlt hltN ⟨y0, y1, y2, K.out.2⟩ (fun _ _ _ _ _ h => h) (fun w2 hw2 => ?_)
        have K2 : Aside (k + 1 + q = 1 ∧ Below w.heap.size w w2) := ⟨K.out.1, hw2.2.2.2⟩
        clear hw2 y0 y1 y2 K
        have e1 := E1.out
        go_wp2
        go_roundg q
        case measure => exact Nat.lt_succ_self _
        case rel => exact ⟨k + 1, by first | rfl | (rw [E1.out]), K2.out⟩
  · go_wp2
    clear h0 h1 hc3
    go_loopg [13] L (fun q s13 wx => ∃ k : Nat, s13 = .int .i64 (k : Int) ∧ Aside (k + q = L ∧ Below w.heap.size w wx))
    case atStart => exact ⟨0, rfl, by omega, Below.refl _ _⟩
    case round =>
      obtain ⟨k, rfl, A⟩ := hrel
      cases gk with
      | zero =>
        obtain rfl : k = L := by have := A.out.1; omega
        have R1 : Aside (Below w.heap.size w wr) := A.out.2
        clear A HA
        go_wp2
        go_ret
        exact ⟨rfl, R1.out⟩
      | succ q =>
        obtain ⟨hk, hbel⟩ := A.out
        obtain ⟨a1, a2, a3, a4, a5, a6, a7, a8⟩ := HA.out
        have hlt : (k : Int) < ((L : Nat) : Int) := by omega
        have hlt1 : (k : Int) < (L : Int) := by omega
        have hltN : (k : Int) < (N : Int) := by omega
        obtain ⟨y, hy⟩ : ∃ y, P.getD k 0 = y := ⟨_, rfl⟩
        have y0 : wr.cell? ⟨sb, 0, none⟩ = some (.slice (some ⟨ga, 0, none⟩) L ca) := (hbel.cell (p := ⟨sb, 0, none⟩) a5).trans a8
        have y1 : wr.cell? ⟨ga, k, none⟩ = some (.int .u64 (y : Int)) := by rw [← hy]; exact (hbel.cell (p := ⟨ga, k, none⟩) a3).trans (a6 k (by omega))
        have y2 : wr.cell? ⟨gw, k, none⟩ = some (.int .u64 (y : Int)) := by rw [← hy]; exact (hbel.cell (p := ⟨gw, k, none⟩) a4).trans (a7 k (by omega))
        have K : Aside (k + 1 + q = L ∧ Below w.heap.size w wr) := ⟨by omega, hbel⟩
        have E1 : Aside (wrap64 ((k : Int) + 1) = ((k + 1 : Nat) : Int)) := by show wrap64 ((k : Int) + 1) = ((k + 1 : Nat) : Int); unfold wrap64; omega
        clear hk hbel a1 a2 a3 a4 a5 a6 a7 a8 A HA hy
        go_wp2
        refine askedrefused _ _ _ _ _ _ _ _ _ _ _ _ _ _ _ _ _ _ _ _ _ _ _ _ _ _ _ _ _ _ _ _ _ _ _ _ _ _ _ _ _ _ _ _ _ _ _ _ _ _ _ _ _ _ _ _ _ _ _ _ _ _ _ _ _ _ _ _ _ _ _ _ _ _ _ _ _ _ _ _ _ _ _ _ _ _ _ _ _ _ _ _ _ _ _ _ _ _ _ _ _ _ _ _ _ wr w sb ga L ca gw N cw k y (.slice none 0 0) hlt hltN ⟨y0, y1, y2, K.out.2⟩ (fun _ _ _ _ _ h => h) (fun w2 hw2 => ?_)
        have K2 : Aside (k + 1 + q = L ∧ Below w.heap.size w w2) := ⟨K.out.1, hw2.2.2.2⟩
        clear hw2 y0 y1 y2 K
        have e1 := E1.out
        go_wp2
        go_roundg q
        case measure => exact Nat.lt_succ_self _
        case rel => exact ⟨k + 1, by first | rfl | (rw [E1.out]), K2.out⟩
theorem PLCS_64 {S : List (Nat × Nat)} (h : ∀ s ∈ S, Node s.1 s.2) : ∀ p ∈ PLCS S, p < 2 ^ 64 := fun p hp => by
  obtain ⟨s, hs, rfl⟩ := List.mem_map.1 hp
  have := (h s hs).lt
  omega
theorem PLA_64 (i n : Nat) : ∀ p ∈ (PLA i n).2, p < 2 ^ 64 := by
  unfold PLA
  split
  · simp
  · split
    · simp
    · exact PLCS_64 fun s hs => ((PSP_spec (by omega) (by omega)).1 s hs).1
theorem PPA_64 (m n : Nat) : ∀ p ∈ (PPA m n).2, p < 2 ^ 64 := by
  unfold PPA
  split
  · simp
  · exact PLCS_64 fun s hs => ((PXS_tile (by omega) (by omega)).within s hs).2.2
/-- a fresh spy. -/
theorem spy_new (w : World) (R : Int) : SPY (w.alloc (.cells #[.slice none 0 0, .int .i64 R] 34)) w.heap.size w.heap.size R [] (.slice none 0 0) :=
  ⟨Has.new _ _ _, World.ownsRow_nil _ _ _ _, by simp [Value.ownBlock], Nat.le_refl _⟩
/-- what was made of the spy, held against the places: asked answers true. -/
theorem asked_made {w w' : World} {B sb : Nat} {R : Int} {D : Int × List Nat} {X Y : Nat} {e : Ending} (hfew : D.2.length ≤ 188) (h64 : ∀ p ∈ D.2, p < 2 ^ 64) (h : MADE w B sb R D X Y e w') :
    Below B w w' ∧ ∃ (x y : Int) (ua : Option Addr) (un uc : Nat) (F : Int), e = .returned (.tuple #[.agg #[.int .u64 x, .int .u64 y, .slice ua un uc], .int .i64 F]) ∧ ((F = 0 ∧ x = X ∧ y = Y) ∨ (¬ F = 0 ∧ x = 0 ∧ y = 0)) ∧
      ∀ (wv : Value) (o : Obj), Nums (w'.alloc o) wv D.2 → Calls Tryd.prog 17 #[.pointer (some ⟨sb, 0, none⟩), wv, .int .i64 D.1, .slice ua un uc, .int .i64 F] (w'.alloc o) fun e w2 => e = .returned (.bool true) ∧ Below (w'.alloc o).heap.size (w'.alloc o) w2 := by
  obtain ⟨v, hb, h | h | h⟩ := h
  · obtain ⟨h1, hS, rfl⟩ := h
    refine ⟨hb, 0, 0, none, 0, 0, D.1, rfl, .inr ⟨h1, rfl, rfl⟩, fun wv o _ => ?_⟩
    obtain ⟨av, cv, e, _⟩ := nums_own hS.row
    refine (asked_err sb R D.1 h1 v av cv e wv (w'.alloc o) (hS.has.alloc o)).mono ?_
    rintro e w2 ⟨rfl, rfl⟩
    exact ⟨rfl, Below.refl _ _⟩
  · obtain ⟨h1, h2, hS, u, rfl, hu, _, _⟩ := h
    obtain ⟨ua, uc, rfl⟩ : ∃ ua uc, u = .slice ua D.2.length uc := by
      rcases hu.2 with ⟨e, h0⟩ | ⟨g, cap, cur, e, _⟩
      · exact ⟨none, 0, by rw [e, h0]⟩
      · exact ⟨_, cap, e⟩
    refine ⟨hb, X, Y, ua, _, uc, 0, rfl, .inl ⟨rfl, rfl, rfl⟩, fun wv o hW => ?_⟩
    rw [h1]
    exact asked_all sb R D.2 hfew h64 h2 v wv _ B (w'.alloc o) ⟨hS.has.alloc o, hS.row.alloc o, hS.ne, hS.lo⟩ hW (hu.alloc o)
  · obtain ⟨h1, h2, hS, rfl⟩ := h
    refine ⟨hb, 0, 0, none, 0, 0, 50, rfl, .inr ⟨by decide, rfl, rfl⟩, fun wv o hW => ?_⟩
    rw [h1]
    exact asked_ref sb R D.2 hfew h2 v wv B (w'.alloc o) ⟨hS.has.alloc o, hS.row.alloc o, hS.ne, hS.lo⟩ hW
set_option maxHeartbeats 4000000 in
theorem asks_core (i m n : Nat) (R : Int) (w : World) (hT : Tabled w) (h0 : 0 < w.heap.size) :
    Calls Tryd.prog 4 #[.int .u64 (i : Int), .int .u64 (m : Int), .int .u64 (n : Int), .int .i64 R] w fun e w' => e = .returned (.bool true) ∧ Below w.heap.size w w' := by
  have c1 := refpla_ok i n w
  have c2 := fun w => refppa_ok m n w
  have HT : Aside (∀ W, Below w.heap.size w W → Tabled W ∧ 0 < W.heap.size) := fun W h => ⟨hT.below h0 h, Nat.lt_of_lt_of_le h0 h.size⟩
  have HM : Aside (∀ W B sb v0, B ≤ W.heap.size → SPY W B sb R [] v0 → v0.ownBlock = none → Tabled W → 0 < W.heap.size → Calls Tryd.prog 16 #[.iface 32 (.pointer (some ⟨sb, 0, none⟩)), .int .u64 (i : Int), .int .u64 (n : Int)] W (MADE W B sb R (PLA i n) n i)) := fun W B sb v0 a b c d e => make_ok n i (PLA_few i n) (PLA_64 i n) B sb R v0 W a b c d e
  have HX : Aside (∀ W B sb v0, B ≤ W.heap.size → SPY W B sb R [] v0 → v0.ownBlock = none → Tabled W → 0 < W.heap.size → Calls Tryd.prog 18 #[.iface 32 (.pointer (some ⟨sb, 0, none⟩)), .int .u64 (m : Int), .int .u64 (n : Int)] W (MADE W B sb R (PPA m n) m n)) := fun W B sb v0 a b c d e => makeprefix_ok m n (PPA_few m n) (PPA_64 m n) B sb R v0 W a b c d e
  have HP : Aside ((PLA i n).2.length ≤ 188 ∧ (∀ p ∈ (PLA i n).2, p < 2 ^ 64) ∧ (PPA m n).2.length ≤ 188 ∧ (∀ p ∈ (PPA m n).2, p < 2 ^ 64)) := ⟨PLA_few i n, PLA_64 i n, PPA_few m n, PPA_64 m n⟩
  generalize PLA i n = D at *
  generalize PPA m n = D2 at *
  clear hT h0
  go_enter Tryd.func4, Tryd.ntmps4
  go_wp2_with fail
  refine c1.mono ?_
  rintro e w1 ⟨wv, rfl, hrow, hb1⟩
  clear c1
  have R1 : Aside (Below w.heap.size w w1 ∧ Nums w1 wv D.2) := ⟨hb1, nums_own hrow⟩
  clear hrow hb1
  go_wp2_with fail
  have hb2 : Below w1.heap.size w1 (w1.alloc (.cells #[.slice none 0 0, .int .i64 R] 34)) := (Below.refl _ _).alloc (Nat.le_refl _) _
  have cm := HM.out (w1.alloc (.cells #[.slice none 0 0, .int .i64 R] 34)) w1.heap.size w1.heap.size _ (by simp) (spy_new w1 R) rfl (HT.out _ (R1.out.1.trans (hb2.mono R1.out.1.size))).1 (HT.out _ (R1.out.1.trans (hb2.mono R1.out.1.size))).2
  refine cm.mono ?_
  clear cm HM
  intro e w2 hm
  obtain ⟨hbm, x, y, ua, un, uc, F, rfl, hF, hask⟩ := asked_made HP.out.1 HP.out.2.1 hm
  have R2 : Aside (Below w.heap.size w w2 ∧ Below w1.heap.size w1 w2 ∧ Nums w2 wv D.2) := by
    have h1 := hb2.trans hbm
    exact ⟨R1.out.1.trans (h1.mono R1.out.1.size), h1, R1.out.2.below h1 (Nat.le_refl _)⟩
  have HK : Aside (∀ (wv : Value) (o : Obj), Nums (w2.alloc o) wv D.2 → Calls Tryd.prog 17 #[.pointer (some ⟨w1.heap.size, 0, none⟩), wv, .int .i64 D.1, .slice ua un uc, .int .i64 F] (w2.alloc o) fun e w3 => e = .returned (.bool true) ∧ Below (w2.alloc o).heap.size (w2.alloc o) w3) := hask
  clear hm hbm hb2 hask R1
  go_wp2_with fail
  have hpB := Has.new w2 #[.int .u64 x, .int .u64 y, .slice ua un uc] 37
  have hbA : Below w2.heap.size w2 (w2.alloc (.cells #[.int .u64 x, .int .u64 y, .slice ua un uc] 37)) := (Below.refl _ _).alloc (Nat.le_refl _) _
  refine (HK.out wv _ (R2.out.2.2.below hbA (Nat.le_refl _))).mono ?_
  rintro e w3 ⟨rfl, hb3⟩
  clear HK
  have hp3 := hpB.keep hb3
  have p0 : w3.cell? ⟨w2.heap.size, 0, none⟩ = some (.int .u64 x) := hp3.cell 0
  have p1 : w3.cell? ⟨w2.heap.size, 1, none⟩ = some (.int .u64 y) := hp3.cell 1
  have R3 : Aside (Below w.heap.size w w3) := by
    have h1 := hbA.trans (hb3.mono hbA.size)
    exact R2.out.1.trans (h1.mono R2.out.1.size)
  clear hb3 hbA hpB hp3 R2
  have hF2 : (F = 0 ∧ x = (n : Int) ∧ y = (i : Int)) ∨ (¬ F = 0 ∧ x = 0 ∧ y = 0) := hF
  clear hF
  have CA : Aside (∀ W, Below w.heap.size w W → Calls Tryd.prog 15 #[] W fun e w' => e = .returned (.bool true) ∧ Below W.heap.size W w') := fun W h => proofawake_ok W (HT.out W h).1 (HT.out W h).2
  rcases hF2 with ⟨rfl, rfl, rfl⟩ | ⟨hF, rfl, rfl⟩
  · go_wp2_with fail
    refine (c2 _).mono ?_
    clear p0 p1
    rintro e w4 ⟨wv2, rfl, hrow, hb4⟩
    have R4 : Aside (Below w.heap.size w w4 ∧ Nums w4 wv2 D2.2) := ⟨R3.out.trans (hb4.mono R3.out.size), nums_own hrow⟩
    clear hrow hb4 R3 c2
    go_wp2_with fail
    have hb5 : Below w4.heap.size w4 (w4.alloc (.cells #[.slice none 0 0, .int .i64 R] 34)) := (Below.refl _ _).alloc (Nat.le_refl _) _
    refine (HX.out (w4.alloc (.cells #[.slice none 0 0, .int .i64 R] 34)) w4.heap.size w4.heap.size _ (by simp) (spy_new w4 R) rfl (HT.out _ (R4.out.1.trans (hb5.mono R4.out.1.size))).1 (HT.out _ (R4.out.1.trans (hb5.mono R4.out.1.size))).2).mono ?_
    clear HX
    intro e w5 hm
    obtain ⟨hbm, x, y, va, vn, vc, G, rfl, hG, hask⟩ := asked_made HP.out.2.2.1 HP.out.2.2.2 hm
    have R5 : Aside (Below w.heap.size w w5 ∧ Nums w5 wv2 D2.2) := by
      have h1 := hb5.trans hbm
      exact ⟨R4.out.1.trans (h1.mono R4.out.1.size), R4.out.2.below h1 (Nat.le_refl _)⟩
    have HK : Aside (∀ (wv : Value) (o : Obj), Nums (w5.alloc o) wv D2.2 → Calls Tryd.prog 17 #[.pointer (some ⟨w4.heap.size, 0, none⟩), wv, .int .i64 D2.1, .slice va vn vc, .int .i64 G] (w5.alloc o) fun e w3 => e = .returned (.bool true) ∧ Below (w5.alloc o).heap.size (w5.alloc o) w3) := hask
    clear hm hbm hb5 hask R4 HT HP
    go_wp2_with fail
    have hpB := Has.new w5 #[.int .u64 x, .int .u64 y, .slice va vn vc] 42
    have hbA : Below w5.heap.size w5 (w5.alloc (.cells #[.int .u64 x, .int .u64 y, .slice va vn vc] 42)) := (Below.refl _ _).alloc (Nat.le_refl _) _
    refine (HK.out wv2 _ (R5.out.2.below hbA (Nat.le_refl _))).mono ?_
    rintro e w6 ⟨rfl, hb6⟩
    clear HK
    have hp6 := hpB.keep hb6
    have q0 : w6.cell? ⟨w5.heap.size, 0, none⟩ = some (.int .u64 x) := hp6.cell 0
    have q1 : w6.cell? ⟨w5.heap.size, 1, none⟩ = some (.int .u64 y) := hp6.cell 1
    have R6 : Aside (Below w.heap.size w w6) := by
      have h1 := hbA.trans (hb6.mono hbA.size)
      exact R5.out.1.trans (h1.mono R5.out.1.size)
    clear hb6 hbA hpB hp6 R5
    have hG2 : (G = 0 ∧ x = (m : Int) ∧ y = (n : Int)) ∨ (¬ G = 0 ∧ x = 0 ∧ y = 0) := hG
    clear hG
    rcases hG2 with ⟨rfl, rfl, rfl⟩ | ⟨hG, rfl, rfl⟩
    · go_wp2_with fail
      refine (CA.out _ R6.out).mono ?_
      rintro e w7 ⟨rfl, hb7⟩
      have R7 : Aside (Below w.heap.size w w7) := R6.out.trans (hb7.mono R6.out.size)
      clear hb7 R6 CA q0 q1
      go_wp2
      go_ret
      exact ⟨rfl, R7.out⟩
    · have hG' : (G == 0) = false := by simp [hG]
      have hG'' : (G != 0) = true := by simp [hG]
      clear hG
      go_wp2_with fail
      refine (CA.out _ R6.out).mono ?_
      rintro e w7 ⟨rfl, hb7⟩
      have R7 : Aside (Below w.heap.size w w7) := R6.out.trans (hb7.mono R6.out.size)
      clear hb7 R6 CA q0 q1
      go_wp2
      go_ret
      exact ⟨rfl, R7.out⟩
  · have hF' : (F == 0) = false := by simp [hF]
    have hF'' : (F != 0) = true := by simp [hF]
    clear hF
    go_wp2_with fail
    refine (c2 _).mono ?_
    clear p0 p1 hF' hF''
    rintro e w4 ⟨wv2, rfl, hrow, hb4⟩
    have R4 : Aside (Below w.heap.size w w4 ∧ Nums w4 wv2 D2.2) := ⟨R3.out.trans (hb4.mono R3.out.size), nums_own hrow⟩
    clear hrow hb4 R3 c2
    go_wp2_with fail
    have hb5 : Below w4.heap.size w4 (w4.alloc (.cells #[.slice none 0 0, .int .i64 R] 34)) := (Below.refl _ _).alloc (Nat.le_refl _) _
    refine (HX.out (w4.alloc (.cells #[.slice none 0 0, .int .i64 R] 34)) w4.heap.size w4.heap.size _ (by simp) (spy_new w4 R) rfl (HT.out _ (R4.out.1.trans (hb5.mono R4.out.1.size))).1 (HT.out _ (R4.out.1.trans (hb5.mono R4.out.1.size))).2).mono ?_
    clear HX
    intro e w5 hm
    obtain ⟨hbm, x, y, va, vn, vc, G, rfl, hG, hask⟩ := asked_made HP.out.2.2.1 HP.out.2.2.2 hm
    have R5 : Aside (Below w.heap.size w w5 ∧ Nums w5 wv2 D2.2) := by
      have h1 := hb5.trans hbm
      exact ⟨R4.out.1.trans (h1.mono R4.out.1.size), R4.out.2.below h1 (Nat.le_refl _)⟩
    have HK : Aside (∀ (wv : Value) (o : Obj), Nums (w5.alloc o) wv D2.2 → Calls Tryd.prog 17 #[.pointer (some ⟨w4.heap.size, 0, none⟩), wv, .int .i64 D2.1, .slice va vn vc, .int .i64 G] (w5.alloc o) fun e w3 => e = .returned (.bool true) ∧ Below (w5.alloc o).heap.size (w5.alloc o) w3) := hask
    clear hm hbm hb5 hask R4 HT HP
    go_wp2_with fail
    have hpB := Has.new w5 #[.int .u64 x, .int .u64 y, .slice va vn vc] 42
    have hbA : Below w5.heap.size w5 (w5.alloc (.cells #[.int .u64 x, .int .u64 y, .slice va vn vc] 42)) := (Below.refl _ _).alloc (Nat.le_refl _) _
    refine (HK.out wv2 _ (R5.out.2.below hbA (Nat.le_refl _))).mono ?_
    rintro e w6 ⟨rfl, hb6⟩
    clear HK
    have hp6 := hpB.keep hb6
    have q0 : w6.cell? ⟨w5.heap.size, 0, none⟩ = some (.int .u64 x) := hp6.cell 0
    have q1 : w6.cell? ⟨w5.heap.size, 1, none⟩ = some (.int .u64 y) := hp6.cell 1
    have R6 : Aside (Below w.heap.size w w6) := by
      have h1 := hbA.trans (hb6.mono hbA.size)
      exact R5.out.1.trans (h1.mono R5.out.1.size)
    clear hb6 hbA hpB hp6 R5
    have hG2 : (G = 0 ∧ x = (m : Int) ∧ y = (n : Int)) ∨ (¬ G = 0 ∧ x = 0 ∧ y = 0) := hG
    clear hG
    rcases hG2 with ⟨rfl, rfl, rfl⟩ | ⟨hG, rfl, rfl⟩
    · go_wp2_with fail
      refine (CA.out _ R6.out).mono ?_
      rintro e w7 ⟨rfl, hb7⟩
      have R7 : Aside (Below w.heap.size w w7) := R6.out.trans (hb7.mono R6.out.size)
      clear hb7 R6 CA q0 q1
      go_wp2
      go_ret
      exact ⟨rfl, R7.out⟩
    · have hG' : (G == 0) = false := by simp [hG]
      have hG'' : (G != 0) = true := by simp [hG]
      clear hG
      go_wp2_with fail
      refine (CA.out _ R6.out).mono ?_
      rintro e w7 ⟨rfl, hb7⟩
      have R7 : Aside (Below w.heap.size w w7) := R6.out.trans (hb7.mono R6.out.size)
      clear hb7 R6 CA q0 q1
      go_wp2
      go_ret
      exact ⟨rfl, R7.out⟩
theorem proofAsks_walk (a0 a1 a2 a3 : Int) (w0 : (Lit.int .u64 a0).wf = true) (w1 : (Lit.int .u64 a1).wf = true) (w2 : (Lit.int .u64 a2).wf = true) (_ : (Lit.int .i64 a3).wf = true) (w : World) (hT : Tabled w) (h0 : 0 < w.heap.size) :
    Calls Tryd.prog 4 #[.int .u64 a0, .int .u64 a1, .int .u64 a2, .int .i64 a3] w fun e w' => e = .returned (.bool true) ∧ Below w.heap.size w w' := by
  have b0 := wf_u64 w0
  have b1 := wf_u64 w1
  have b2 := wf_u64 w2
  obtain ⟨i, rfl⟩ : ∃ X : Nat, a0 = (X : Int) := ⟨a0.toNat, by omega⟩
  obtain ⟨m, rfl⟩ : ∃ X : Nat, a1 = (X : Int) := ⟨a1.toNat, by omega⟩
  obtain ⟨n, rfl⟩ : ∃ X : Nat, a2 = (X : Int) := ⟨a2.toNat, by omega⟩
  exact asks_core i m n a3 w hT h0
end Go.Proofs.YtddmfpiflnjmjaaDoor
