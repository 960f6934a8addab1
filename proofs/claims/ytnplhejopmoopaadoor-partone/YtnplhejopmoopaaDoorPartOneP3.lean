/- Texts of PartOne, one behind the other: HashSchedule, HashJoined. -/
import Derived.Deep.RegionHeld3
import Derived.Deep.RegionWith
import Derived.Lib.SliceRun
import Derived.Test.YtnplhejopmoopaaDoorPartOneP2
/- What schedule of package hash answers. -/
namespace Go.Proofs.YtnplhejopmoopaaDoor.HX
open Go.RowKit

theorem zero64 : (#[.int .u32 0, .int .u32 0, .int .u32 0, .int .u32 0, .int .u32 0, .int .u32 0, .int .u32 0, .int .u32 0, .int .u32 0, .int .u32 0, .int .u32 0, .int .u32 0, .int .u32 0, .int .u32 0, .int .u32 0, .int .u32 0, .int .u32 0, .int .u32 0, .int .u32 0, .int .u32 0, .int .u32 0, .int .u32 0, .int .u32 0, .int .u32 0, .int .u32 0, .int .u32 0, .int .u32 0, .int .u32 0, .int .u32 0, .int .u32 0, .int .u32 0, .int .u32 0, .int .u32 0, .int .u32 0, .int .u32 0, .int .u32 0, .int .u32 0, .int .u32 0, .int .u32 0, .int .u32 0, .int .u32 0, .int .u32 0, .int .u32 0, .int .u32 0, .int .u32 0, .int .u32 0, .int .u32 0, .int .u32 0, .int .u32 0, .int .u32 0, .int .u32 0, .int .u32 0, .int .u32 0, .int .u32 0, .int .u32 0, .int .u32 0, .int .u32 0, .int .u32 0, .int .u32 0, .int .u32 0, .int .u32 0, .int .u32 0, .int .u32 0, .int .u32 0] : Array Value) = UARR .u32 64 fun _ => 0 := rfl
theorem SCHL_zero (b : Nat → Nat) : (UARR .u32 64 fun j => if j < 16 then WORDAT b (4 * j) else 0) = UARR .u32 64 (SCHL b 0) := UARR_ext fun j _ => by rw [SCHL]
theorem schedule_ok (s : Nat → Nat) (h : ∀ i, s i < 256) (w : World) : Calls Tryd.prog 92 #[.agg (UARR .u8 64 s)] w fun e w' => e = .returned (.agg (UARR .u32 64 (SCH s))) ∧ Below w.heap.size w w' := by
  have hz := zero64
  have H : Aside (∀ i, s i < 256) := h
  clear h
  go_enter Tryd.func92, Tryd.ntmps92
  go_wp2
  go_loopg [6] 16 (fun g s5 wx => ∃ i : Nat, i + g = 16 ∧ s5 = .int .i64 i ∧ Aside (Below w.heap.size w wx ∧ Has wx w.heap.size (UARR .u8 64 s) 127 ∧ Has wx (w.heap.size + 1) (UARR .u32 64 fun _ => 0) 147 ∧ Has wx (w.heap.size + 2) (UARR .u32 64 fun j => if j < i then WORDAT s (4 * j) else 0) 147))
  case atStart =>
    refine ⟨0, by omega, rfl, ?_⟩
    have e : (UARR .u32 64 fun j => if j < 0 then WORDAT s (4 * j) else 0) = UARR .u32 64 fun _ => 0 := UARR_ext fun j _ => if_neg (by omega)
    rw [e]
    exact ⟨(((Below.refl _ _).alloc (Nat.le_refl _) _).alloc (by simp) _).alloc (by simp; omega) _, ((Has.new w _ _).alloc _).alloc _, (Has.at _ _ _ (by simp)).alloc _, Has.at _ _ _ (by simp)⟩
  case round =>
    obtain ⟨i, hig, rfl, A⟩ := hrel
    cases gk with
    | zero =>
      obtain rfl : i = 16 := by omega
      rw [SCHL_zero] at A
      clear hz
      go_wp2
      go_loopg [5] 48 (fun g s5 wx => ∃ k : Nat, k + g = 48 ∧ s5 = .int .i64 ((16 + k : Nat) : Int) ∧ Aside (Below w.heap.size w wx ∧ Has wx (w.heap.size + 1) (UARR .u32 64 fun _ => 0) 147 ∧ Has wx (w.heap.size + 2) (UARR .u32 64 (SCHL s k)) 147))
      case atStart => exact ⟨0, by omega, rfl, A.out.1, A.out.2.2.1, A.out.2.2.2⟩
      case round =>
        obtain ⟨k, hkg, rfl, A⟩ := hrel
        cases gk with
        | zero =>
          obtain rfl : k = 48 := by omega
          obtain ⟨hb, h1, h2⟩ := A.out
          go_wp2_with (first
            | (refine wpList_load_row rfl 147 _ rfl _ rfl _ _ (0, 0) _ h2 Tryd.underlying147 rfl (info_W64 _) ?_)
            | (refine wpList_store_row rfl 147 _ _ rfl _ _ rfl rfl _ _ h1 (info_W64 _) (by rw [UARR_size, UARR_size]) (UARR_one _ _ _) ?_))
          refine bodyPost_ret (v := .agg (UARR .u32 64 (SCH s))) ?_ rfl ⟨rfl, below_row hb (by omega) _⟩
          exact results_cell_row rfl _ _ (w.heap.size + 1) 147 _ (0, 0) _ rfl (h1.row _) Tryd.underlying147 rfl (info_W64 _)
        | succ g =>
          obtain ⟨hb, h1, h2⟩ := A.out
          have hlt : (((16 + k : Nat) : Int)) < 64 := by omega
          have ca : wr.cell? ⟨w.heap.size + 1 + 1, 14 + k, none⟩ = some (.int .u32 (SCHL s k (14 + k) : Nat)) := by rw [h2.cell, UARR_get _ _ _ _ (by omega)]
          have cb : wr.cell? ⟨w.heap.size + 1 + 1, 9 + k, none⟩ = some (.int .u32 (SCHL s k (9 + k) : Nat)) := by rw [h2.cell, UARR_get _ _ _ _ (by omega)]
          have cc : wr.cell? ⟨w.heap.size + 1 + 1, 1 + k, none⟩ = some (.int .u32 (SCHL s k (1 + k) : Nat)) := by rw [h2.cell, UARR_get _ _ _ _ (by omega)]
          have cd : wr.cell? ⟨w.heap.size + 1 + 1, k, none⟩ = some (.int .u32 (SCHL s k k : Nat)) := by rw [h2.cell, UARR_get _ _ _ _ (by omega)]
          have ct : wr.cell? ⟨w.heap.size + 1 + 1, 16 + k, none⟩ = some (.int .u32 (SCHL s k (16 + k) : Nat)) := by rw [h2.cell, UARR_get _ _ _ _ (by omega)]
          have hf : wr.frozen? ⟨w.heap.size + 1 + 1, 16 + k, none⟩ = false := h2.frozen _
          have la := SCHL_lt H.out k (14 + k)
          have lc := SCHL_lt H.out k (1 + k)
          have c1 : ∀ w, Calls Tryd.prog 101 #[.int .u32 (SCHL s k (14 + k) : Nat), .int .i64 17, .int .i64 19, .int .i64 10] w fun e w' => e = .returned (.int .u32 (SPILL 17 19 10 (SCHL s k (14 + k)) : Nat)) ∧ ∃ m, w' = w.drewN m := fun w => spill_ok _ 17 19 10 la (by decide) (by decide) (by decide) w
          have c2 : ∀ w, Calls Tryd.prog 101 #[.int .u32 (SCHL s k (1 + k) : Nat), .int .i64 7, .int .i64 18, .int .i64 3] w fun e w' => e = .returned (.int .u32 (SPILL 7 18 3 (SCHL s k (1 + k)) : Nat)) ∧ ∃ m, w' = w.drewN m := fun w => spill_ok _ 7 18 3 lc (by decide) (by decide) (by decide) w
          have R : Aside (Below w.heap.size w wr ∧ Has wr (w.heap.size + 1) (UARR .u32 64 fun _ => 0) 147 ∧ Has wr (w.heap.size + 2) (UARR .u32 64 (SCHL s k)) 147) := ⟨hb, h1, h2⟩
          have V : Aside ((SPILL 17 19 10 (SCHL s k (14 + k)) + SCHL s k (9 + k) + SPILL 7 18 3 (SCHL s k (1 + k)) + SCHL s k k) % 4294967296 = SCHL s (k + 1) (16 + k)) := by rw [Aside, SCHL, if_pos rfl]
          generalize SPILL 17 19 10 (SCHL s k (14 + k)) = p at *
          generalize SPILL 7 18 3 (SCHL s k (1 + k)) = q at *
          generalize SCHL s k (14 + k) = va at *
          generalize SCHL s k (9 + k) = vb at *
          generalize SCHL s k (1 + k) = vc at *
          generalize SCHL s k (16 + k) = vt at *
          generalize hvd : SCHL s k k = vd at *
          obtain ⟨T, hT⟩ : ∃ T, T = 16 + k := ⟨_, rfl⟩
          obtain ⟨a, ha⟩ : ∃ a, a = 14 + k := ⟨_, rfl⟩
          obtain ⟨b, hbb⟩ : ∃ b, b = 9 + k := ⟨_, rfl⟩
          obtain ⟨c, hcc⟩ : ∃ c, c = 1 + k := ⟨_, rfl⟩
          have E : Aside (T = 16 + k ∧ k + (g + 1) = 48) := ⟨hT, hkg⟩
          rw [← hT] at hlt ct hf ⊢
          rw [← ha] at ca
          rw [← hbb] at cb
          rw [← hcc] at cc
          have e1 : (T : Int) - 2 = (a : Int) := by omega
          have e2 : (T : Int) - 7 = (b : Int) := by omega
          have e3 : (T : Int) - 15 = (c : Int) := by omega
          have e4 : (T : Int) - 16 = (k : Int) := by omega
          have f1 : IntKind.i64.wrap (a : Int) = (a : Int) := by rw [IntKind.wrap_i64]; omega
          have f2 : IntKind.i64.wrap (b : Int) = (b : Int) := by rw [IntKind.wrap_i64]; omega
          have f3 : IntKind.i64.wrap (c : Int) = (c : Int) := by rw [IntKind.wrap_i64]; omega
          have f4 : IntKind.i64.wrap (k : Int) = (k : Int) := by rw [IntKind.wrap_i64]; omega
          have g1 : (a : Int) < 64 := by omega
          have g2 : (b : Int) < 64 := by omega
          have g3 : (c : Int) < 64 := by omega
          have g4 : (k : Int) < 64 := by omega
          have n1 : ¬ T = a ∧ ¬ a = T := by omega
          have n2 : ¬ T = b ∧ ¬ b = T := by omega
          have n3 : ¬ T = c ∧ ¬ c = T := by omega
          have n4 : ¬ T = k ∧ ¬ k = T := by omega
          clear hb h1 h2 la lc hvd A hkg hT ha hbb hcc
          go_wp2_with fail
          go_region_held3 (fun W : World => W.cell? ⟨w.heap.size + 1 + 1, a, none⟩ = some (.int .u32 (va : Int)) ∧ W.cell? ⟨w.heap.size + 1 + 1, b, none⟩ = some (.int .u32 (vb : Int)) ∧ W.cell? ⟨w.heap.size + 1 + 1, c, none⟩ = some (.int .u32 (vc : Int)) ∧ W.cell? ⟨w.heap.size + 1 + 1, k, none⟩ = some (.int .u32 (vd : Int))) (first | go_keep | (refine ⟨?_, ?_, ?_, ?_⟩ <;> (rw [set_off (by omega)]; simp only [World.cell?_drewN]; assumption))) (first | (go_at_call_of 101 (va : Int); refine (c1 _).mono ?_; rintro e w5 ⟨rfl, m1, rfl⟩) | (go_at_call_of 101 (vc : Int); refine (c2 _).mono ?_; rintro e w6 ⟨rfl, m2, rfl⟩))
          have hx : IntKind.u32.wrap (IntKind.u32.wrap (IntKind.u32.wrap ((p : Int) + (vb : Int)) + (q : Int)) + (vd : Int)) = ((SCHL s (k + 1) (16 + k) : Nat) : Int) := by
            rw [← V.out, wrap32U, wrap32U, wrap32U]
            omega
          rw [hx]
          clear hx
          generalize hz2 : SCHL s (k + 1) (16 + k) = z
          have HZ : Aside (SCHL s (k + 1) (16 + k) = z) := hz2
          clear hz2
          go_wp2
          go_roundg g
          case measure => have := E.out.2; omega
          case rel =>
            obtain ⟨hb, h1, h2⟩ := R.out
            obtain ⟨hT, hkg⟩ := E.out
            refine ⟨k + 1, by omega, by rw [hT]; go_num, (below_drewN hb _).setCell (by show _ ≤ w.heap.size + 1 + 1; omega) _, (h1.drewN _).other (by show w.heap.size + 1 ≠ w.heap.size + 1 + 1; omega) _, ?_⟩
            have h3 := (h2.drewN (1 + m1 + m2)).set T (.int .u32 (z : Int))
            rw [UARR_set] at h3
            have e : (UARR .u32 64 fun j => if j = T then z else SCHL s k j) = UARR .u32 64 (SCHL s (k + 1)) := UARR_ext fun j _ => by
              rw [← HZ.out, hT]
              by_cases e : j = 16 + k
              · rw [if_pos e, e]
              · rw [if_neg e, SCHL, if_neg e]
            rw [e] at h3
            exact h3
    | succ g =>
      obtain ⟨hb, h0, h1, h2⟩ := A.out
      have hi : (i : Int) < 16 := by omega
      have hi2 : (i : Int) < 64 := by omega
      have hsl := slice_block w.heap.size (4 * i) (by omega) (4 * (i : Int)) (by omega)
      have hw := word_ok w.heap.size (4 * i) (64 - 4 * i) (64 - 4 * i) s H.out (4 * i) wr (by omega) (fun j hj => by rw [h0.cell, UARR_get _ _ _ _ (by omega)])
      have hc : wr.cell? ⟨w.heap.size + 1 + 1, i, none⟩ = some (.int .u32 0) := by rw [h2.cell, UARR_get _ _ _ _ (by omega), if_neg (by omega)]; rfl
      have hf : wr.frozen? ⟨w.heap.size + 1 + 1, i, none⟩ = false := h2.frozen i
      generalize hv : WORDAT s (4 * i) = v at hw
      have R : Aside (Below w.heap.size w wr ∧ Has wr w.heap.size (UARR .u8 64 s) 127 ∧ Has wr (w.heap.size + 1) (UARR .u32 64 fun _ => 0) 147 ∧ Has wr (w.heap.size + 2) (UARR .u32 64 fun j => if j < i then WORDAT s (4 * j) else 0) 147 ∧ WORDAT s (4 * i) = v) := ⟨hb, h0, h1, h2, hv⟩
      clear hb h0 h1 h2 hv A hz
      go_wp2_with fail
      refine hw.mono ?_
      rintro e w' ⟨rfl, m, rfl⟩
      clear hw
      go_wp2
      go_roundg g
      case measure => omega
      case rel =>
        obtain ⟨hb, h0, h1, h2, hv⟩ := R.out
        refine ⟨i + 1, by omega, by go_num, ?_⟩
        rw [← ufill (F := fun j => WORDAT s (4 * j)) (fun j => rfl) v hv.symm]
        exact ⟨(below_drewN hb m).setCell (by show _ ≤ w.heap.size + 1 + 1; omega) _, (h0.drewN m).other (by show w.heap.size ≠ w.heap.size + 1 + 1; omega) _, (h1.drewN m).other (by show w.heap.size + 1 ≠ w.heap.size + 1 + 1; omega) _, (h2.drewN m).set i _⟩
end Go.Proofs.YtnplhejopmoopaaDoor.HX

/- What joined and narrow of package hash answer. -/
namespace Go.Proofs.YtnplhejopmoopaaDoor.HX
open Go.RowKit

theorem zero32 : (#[.int .u8 0, .int .u8 0, .int .u8 0, .int .u8 0, .int .u8 0, .int .u8 0, .int .u8 0, .int .u8 0, .int .u8 0, .int .u8 0, .int .u8 0, .int .u8 0, .int .u8 0, .int .u8 0, .int .u8 0, .int .u8 0, .int .u8 0, .int .u8 0, .int .u8 0, .int .u8 0, .int .u8 0, .int .u8 0, .int .u8 0, .int .u8 0, .int .u8 0, .int .u8 0, .int .u8 0, .int .u8 0, .int .u8 0, .int .u8 0, .int .u8 0, .int .u8 0] : Array Value) = UARR .u8 32 fun _ => 0 := rfl
theorem BYTEW_at (x : Nat → Nat) (i r : Nat) (hr : r < 4) : BYTEW x (4 * i + r) = x i / 2 ^ (24 - 8 * r) % 256 := by
  unfold BYTEW
  rw [show (4 * i + r) / 4 = i by omega, show (4 * i + r) % 4 = r by omega]
theorem index_w8 (x : Nat → Nat) : ∀ (i : Nat), i < 8 → ∀ w : World, (Instr.index 145 (.agg (UARR .u32 8 x)) (.int .i64 (i : Int))).run Tryd.prog w = .ok (.int .u32 (x i : Nat)) w
  | 0, _, _ => by kernel_rfl
  | 1, _, _ => by kernel_rfl
  | 2, _, _ => by kernel_rfl
  | 3, _, _ => by kernel_rfl
  | 4, _, _ => by kernel_rfl
  | 5, _, _ => by kernel_rfl
  | 6, _, _ => by kernel_rfl
  | 7, _, _ => by kernel_rfl
  | n + 8, h, _ => absurd h (by omega)
theorem joined_ok (x : Nat → Nat) (h : ∀ i, x i < 2 ^ 32) (w : World) : Calls Tryd.prog 90 #[.agg (UARR .u32 8 x)] w fun e w' => e = .returned (.agg (UARR .u8 32 (BYTEW x))) ∧ Below w.heap.size w w' := by
  have hz := zero32
  have H : Aside (∀ i, x i < 2 ^ 32) := h
  clear h
  go_enter Tryd.func90, Tryd.ntmps90
  go_wp2_with (refine wpList_load_row rfl 145 _ rfl _ rfl 145 (UARR .u32 8 x) (0, 0) _ (((Has.new w _ _).alloc _).alloc _) Tryd.underlying145 rfl (info_W8 _) ?_)
  go_loopg [8] 8 (fun g s5 wx => ∃ i : Nat, i + g = 8 ∧ s5 = .int .i64 i ∧ Aside (Below w.heap.size w wx ∧ Has wx (w.heap.size + 1) (UARR .u8 32 fun _ => 0) 27 ∧ Has wx (w.heap.size + 2) (UARR .u8 32 fun j => if j < 4 * i then BYTEW x j else 0) 27))
  case atStart =>
    refine ⟨0, by omega, rfl, ?_⟩
    have e : (UARR .u8 32 fun j => if j < 4 * 0 then BYTEW x j else 0) = UARR .u8 32 fun _ => 0 := UARR_ext fun j _ => if_neg (by omega)
    rw [e]
    exact ⟨(((Below.refl _ _).alloc (Nat.le_refl _) _).alloc (by simp) _).alloc (by simp; omega) _, (Has.at _ _ _ (by simp)).alloc _, Has.at _ _ _ (by simp)⟩
  case round =>
    obtain ⟨i, hig, rfl, A⟩ := hrel
    clear hz
    cases gk with
    | zero =>
      obtain rfl : i = 8 := by omega
      obtain ⟨hb, h1, h2⟩ := A.out
      go_wp2_with (first
        | (refine wpList_load_row rfl 27 _ rfl _ rfl _ _ (0, 0) _ h2 Tryd.underlying27 rfl (info_HASH _) ?_)
        | (refine wpList_store_row rfl 27 _ _ rfl _ _ rfl rfl _ _ h1 (info_HASH _) (by rw [UARR_size, UARR_size]) (UARR_one _ _ _) ?_))
      have e : (UARR .u8 32 fun j => if j < 4 * 8 then BYTEW x j else 0) = UARR .u8 32 (BYTEW x) := UARR_ext fun j hj => by rw [if_pos (by omega)]
      rw [e]
      refine bodyPost_ret (v := .agg (UARR .u8 32 (BYTEW x))) ?_ rfl ⟨rfl, below_row hb (by omega) _⟩
      exact results_cell_row rfl _ _ (w.heap.size + 1) 27 _ (0, 0) _ rfl (h1.row _) Tryd.underlying27 rfl (info_HASH _)
    | succ g =>
      obtain ⟨hb, h1, h2⟩ := A.out
      have hi : (i : Int) < 8 := by omega
      have hxi := index_w8 x i (by omega)
      have c0 : wr.cell? ⟨w.heap.size + 1 + 1, 4 * i, none⟩ = some (.int .u8 0) := by rw [h2.cell, UARR_get _ _ _ _ (by omega), if_neg (by omega)]; rfl
      have c1 : wr.cell? ⟨w.heap.size + 1 + 1, 4 * i + 1, none⟩ = some (.int .u8 0) := by rw [h2.cell, UARR_get _ _ _ _ (by omega), if_neg (by omega)]; rfl
      have c2 : wr.cell? ⟨w.heap.size + 1 + 1, 4 * i + 2, none⟩ = some (.int .u8 0) := by rw [h2.cell, UARR_get _ _ _ _ (by omega), if_neg (by omega)]; rfl
      have c3 : wr.cell? ⟨w.heap.size + 1 + 1, 4 * i + 3, none⟩ = some (.int .u8 0) := by rw [h2.cell, UARR_get _ _ _ _ (by omega), if_neg (by omega)]; rfl
      have f0 : wr.frozen? ⟨w.heap.size + 1 + 1, 4 * i, none⟩ = false := h2.frozen _
      have f1 : wr.frozen? ⟨w.heap.size + 1 + 1, 4 * i + 1, none⟩ = false := h2.frozen _
      have f2 : wr.frozen? ⟨w.heap.size + 1 + 1, 4 * i + 2, none⟩ = false := h2.frozen _
      have f3 : wr.frozen? ⟨w.heap.size + 1 + 1, 4 * i + 3, none⟩ = false := h2.frozen _
      have R : Aside (Below w.heap.size w wr ∧ Has wr (w.heap.size + 1) (UARR .u8 32 fun _ => 0) 27 ∧ Has wr (w.heap.size + 2) (UARR .u8 32 fun j => if j < 4 * i then BYTEW x j else 0) 27) := ⟨hb, h1, h2⟩
      clear hb h1 h2 A
      generalize hX : x i = X at *
      obtain ⟨o, ho⟩ : ∃ o, o = 4 * i := ⟨_, rfl⟩
      rw [← ho] at c0 c1 c2 c3 f0 f1 f2 f3
      have e0 : 4 * (i : Int) = (o : Int) := by omega
      obtain ⟨o1, ho1⟩ : ∃ o1, o1 = o + 1 := ⟨_, rfl⟩
      obtain ⟨o2, ho2⟩ : ∃ o2, o2 = o + 2 := ⟨_, rfl⟩
      obtain ⟨o3, ho3⟩ : ∃ o3, o3 = o + 3 := ⟨_, rfl⟩
      rw [← ho1] at c1 f1
      rw [← ho2] at c2 f2
      rw [← ho3] at c3 f3
      have e1 : (o : Int) + 1 = (o1 : Int) := by omega
      have e2 : (o : Int) + 2 = (o2 : Int) := by omega
      have e3 : (o : Int) + 3 = (o3 : Int) := by omega
      have E : Aside (o = 4 * i ∧ x i = X ∧ o1 = o + 1 ∧ o2 = o + 2 ∧ o3 = o + 3) := ⟨ho, hX, ho1, ho2, ho3⟩
      have l0 : (o : Int) < 32 := by omega
      have l1 : (o1 : Int) < 32 := by omega
      have l2 : (o2 : Int) < 32 := by omega
      have l3 : (o3 : Int) < 32 := by omega
      have n1 : (⟨w.heap.size + 1 + 1, o, none⟩ : Addr) ≠ ⟨w.heap.size + 1 + 1, o1, none⟩ := fun e => by have := congrArg Addr.off e; simp at this; omega
      have n2 : (⟨w.heap.size + 1 + 1, o, none⟩ : Addr) ≠ ⟨w.heap.size + 1 + 1, o2, none⟩ := fun e => by have := congrArg Addr.off e; simp at this; omega
      have n3 : (⟨w.heap.size + 1 + 1, o, none⟩ : Addr) ≠ ⟨w.heap.size + 1 + 1, o3, none⟩ := fun e => by have := congrArg Addr.off e; simp at this; omega
      have n4 : (⟨w.heap.size + 1 + 1, o1, none⟩ : Addr) ≠ ⟨w.heap.size + 1 + 1, o2, none⟩ := fun e => by have := congrArg Addr.off e; simp at this; omega
      have n5 : (⟨w.heap.size + 1 + 1, o1, none⟩ : Addr) ≠ ⟨w.heap.size + 1 + 1, o3, none⟩ := fun e => by have := congrArg Addr.off e; simp at this; omega
      have n6 : (⟨w.heap.size + 1 + 1, o2, none⟩ : Addr) ≠ ⟨w.heap.size + 1 + 1, o3, none⟩ := fun e => by have := congrArg Addr.off e; simp at this; omega
      clear ho hX ho1 ho2 ho3
      go_wp2
      go_roundg g
      case measure => omega
      case rel =>
        obtain ⟨hb, h1, h2⟩ := R.out
        obtain ⟨rfl, rfl, rfl, rfl, rfl⟩ := E.out
        refine ⟨i + 1, by omega, by go_num, ((((hb.setCell (by show _ ≤ w.heap.size + 1 + 1; omega) _).setCell (by show _ ≤ w.heap.size + 1 + 1; omega) _).setCell (by show _ ≤ w.heap.size + 1 + 1; omega) _).setCell (by show _ ≤ w.heap.size + 1 + 1; omega) _), ((((h1.other (by show w.heap.size + 1 ≠ w.heap.size + 1 + 1; omega) _).other (by show w.heap.size + 1 ≠ w.heap.size + 1 + 1; omega) _).other (by show w.heap.size + 1 ≠ w.heap.size + 1 + 1; omega) _).other (by show w.heap.size + 1 ≠ w.heap.size + 1 + 1; omega) _), ?_⟩
        have k0 : BYTEW x (4 * i) = x i / 16777216 % 256 := BYTEW_at x i 0 (by omega)
        have k1 : BYTEW x (4 * i + 1) = x i / 65536 % 256 := BYTEW_at x i 1 (by omega)
        have k2 : BYTEW x (4 * i + 2) = x i / 256 % 256 := BYTEW_at x i 2 (by omega)
        have k3 : BYTEW x (4 * i + 3) = x i % 256 := by rw [BYTEW_at x i 3 (by omega)]; simp
        have q0 : (x i : Int) / 16777216 % 256 = ((BYTEW x (4 * i) : Nat) : Int) := by rw [k0]; omega
        have q1 : (x i : Int) / 65536 % 256 = ((BYTEW x (4 * i + 1) : Nat) : Int) := by rw [k1]; omega
        have q2 : (x i : Int) / 256 % 256 = ((BYTEW x (4 * i + 2) : Nat) : Int) := by rw [k2]; omega
        have q3 : (x i : Int) % 256 = ((BYTEW x (4 * i + 3) : Nat) : Int) := by rw [k3]; omega
        rw [q0, q1, q2, q3]
        have h3 := (((h2.set (4 * i) (.int .u8 (BYTEW x (4 * i) : Nat))).set (4 * i + 1) (.int .u8 (BYTEW x (4 * i + 1) : Nat))).set (4 * i + 2) (.int .u8 (BYTEW x (4 * i + 2) : Nat))).set (4 * i + 3) (.int .u8 (BYTEW x (4 * i + 3) : Nat))
        rw [ufill (F := BYTEW x) (fun _ => rfl) _ rfl, ufill (F := BYTEW x) (fun _ => rfl) _ rfl, ufill (F := BYTEW x) (fun _ => rfl) _ rfl, ufill (F := BYTEW x) (fun _ => rfl) _ rfl] at h3
        exact h3

/-- cells that are written one behind the other. -/
theorem Has.cells {k : IntKind} {n g : Nat} {t : TypeId} : ∀ (vs : List Nat) (o : Nat) (f : Nat → Nat) (w : World), Has w g (UARR k n f) t →
    Has (w.setCells g o (vs.map fun v => Value.int k ((v : Nat) : Int))) g (UARR k n fun j => if o ≤ j ∧ j < o + vs.length then vs.getD (j - o) 0 else f j) t
  | [], o, f, w, h => by
    have e : (UARR k n fun j => if o ≤ j ∧ j < o + ([] : List Nat).length then ([] : List Nat).getD (j - o) 0 else f j) = UARR k n f := UARR_ext fun j _ => if_neg (by rw [List.length_nil]; omega)
    rw [e]
    exact h
  | v :: vs, o, f, w, h => by
    have h1 := Has.cells vs (o + 1) _ _ (UARR_set k n f o v ▸ h.set o (.int k (v : Int)))
    have e : (UARR k n fun j => if o + 1 ≤ j ∧ j < o + 1 + vs.length then vs.getD (j - (o + 1)) 0 else if j = o then v else f j) = UARR k n fun j => if o ≤ j ∧ j < o + (v :: vs).length then (v :: vs).getD (j - o) 0 else f j := UARR_ext fun j _ => by
      rw [List.length_cons]
      by_cases e : j = o
      · subst e
        rw [if_neg (by omega), if_pos rfl, if_pos (by omega), Nat.sub_self]
        rfl
      · rw [if_neg e]
        by_cases e2 : o + 1 ≤ j ∧ j < o + 1 + vs.length
        · rw [if_pos e2, if_pos (by omega)]
          obtain ⟨q, hq⟩ : ∃ q, j - o = q + 1 := ⟨j - o - 1, by omega⟩
          rw [hq, show j - (o + 1) = q by omega]
          rfl
        · rw [if_neg e2, if_neg (by omega)]
    rw [e] at h1
    exact h1
theorem Has.cells_other {g b : Nat} {t : TypeId} {c : Array Value} (hb : g ≠ b) : ∀ (vs : List Value) (o : Nat) (w : World), Has w g c t → Has (w.setCells b o vs) g c t
  | [], _, _, h => h
  | _ :: vs, o, _, h => Has.cells_other hb vs (o + 1) _ (h.other (by exact hb) _)
theorem below_cells {B b : Nat} {w0 : World} (hB : B ≤ b) : ∀ (vs : List Value) (o : Nat) (w : World), Below B w0 w → Below B w0 (w.setCells b o vs)
  | [], _, _, h => h
  | _ :: vs, o, _, h => below_cells hB vs (o + 1) _ (h.setCell (by exact hB) _)
theorem NARROW_whole {w : Int} (h : WID w = 32) (s : Nat → Nat) : UARR .u8 32 (NARROW w s) = UARR .u8 32 s := UARR_ext fun j hj => by unfold NARROW; rw [if_pos (by omega)]
theorem clear_u8 (w : World) (b o n c : Nat) (ty : TypeId) (hn : 0 < n) (hc : ∀ j, j < n → (w.cell? ⟨b, o + j, none⟩).isSome = true) (hf : ∀ j, j < n → w.frozen? ⟨b, o + j, none⟩ = false) :
    (Builtin.clear_ #[104] ty #[.slice (some ⟨b, o, none⟩) n c]).run Tryd.prog w = .ok (.tuple #[]) (w.setCells b o (List.replicate n (.int .u8 0))) := by
  obtain ⟨i8, hi, h8⟩ := Option.map_eq_some_iff.1 info_u8
  simp only [Prod.mk.injEq] at h8
  exact Lib.run_clear_slice w 104 5 ty (.int .u8 0) Tryd.underlying104 (fun w => by simp [zeroValue, typeInfo, hi, h8.1]) rfl rfl b o n c hn hc hf
/-- the two blocks of narrow, the first one cleared from n on. -/
theorem narrow_blocks (d : Int) (n : Nat) (hn : WID d = n) (h32 : n < 32) (s : Nat → Nat) (w : World) :
    (∀ ty, (Builtin.clear_ #[104] ty #[.slice (some ⟨w.heap.size, n, none⟩) (32 - n) (32 - n)]).run Tryd.prog ((w.alloc (.cells (UARR .u8 32 s) 27)).alloc (.cells (UARR .u8 32 fun _ => 0) 27)) = .ok (.tuple #[]) (((w.alloc (.cells (UARR .u8 32 s) 27)).alloc (.cells (UARR .u8 32 fun _ => 0) 27)).setCells w.heap.size n (List.replicate (32 - n) (.int .u8 0)))) ∧
    Has (((w.alloc (.cells (UARR .u8 32 s) 27)).alloc (.cells (UARR .u8 32 fun _ => 0) 27)).setCells w.heap.size n (List.replicate (32 - n) (.int .u8 0))) w.heap.size (UARR .u8 32 (NARROW d s)) 27 ∧
    Has (((w.alloc (.cells (UARR .u8 32 s) 27)).alloc (.cells (UARR .u8 32 fun _ => 0) 27)).setCells w.heap.size n (List.replicate (32 - n) (.int .u8 0))) (w.heap.size + 1) (UARR .u8 32 fun _ => 0) 27 ∧
    Below w.heap.size w (((w.alloc (.cells (UARR .u8 32 s) 27)).alloc (.cells (UARR .u8 32 fun _ => 0) 27)).setCells w.heap.size n (List.replicate (32 - n) (.int .u8 0))) := by
  have h0 : Has ((w.alloc (.cells (UARR .u8 32 s) 27)).alloc (.cells (UARR .u8 32 fun _ => 0) 27)) w.heap.size (UARR .u8 32 s) 27 := (Has.new w _ _).alloc _
  have h1 : Has ((w.alloc (.cells (UARR .u8 32 s) 27)).alloc (.cells (UARR .u8 32 fun _ => 0) 27)) (w.heap.size + 1) (UARR .u8 32 fun _ => 0) 27 := Has.at _ _ _ (by simp)
  have hb : Below w.heap.size w ((w.alloc (.cells (UARR .u8 32 s) 27)).alloc (.cells (UARR .u8 32 fun _ => 0) 27)) := ((Below.refl _ _).alloc (Nat.le_refl _) _).alloc (by simp) _
  refine ⟨fun ty => clear_u8 _ _ n (32 - n) (32 - n) ty (by omega) (fun j hj => by rw [h0.cell, UARR_get _ _ _ _ (by omega)]; rfl) (fun j _ => h0.frozen _), ?_, h1.cells_other (by omega) _ _ _, below_cells (Nat.le_refl _) _ _ _ hb⟩
  have h2 := h0.cells (List.replicate (32 - n) 0) n
  have e : (UARR .u8 32 fun j => if n ≤ j ∧ j < n + (List.replicate (32 - n) 0).length then (List.replicate (32 - n) 0).getD (j - n) 0 else s j) = UARR .u8 32 (NARROW d s) := UARR_ext fun j hj => by
    unfold NARROW
    rw [hn, List.length_replicate]
    by_cases e : j < n
    · rw [if_neg (by omega), if_pos e]
    · rw [if_pos (by omega), if_neg e]
      rw [List.getD_eq_getElem?_getD, List.getElem?_replicate]
      split <;> rfl
  rw [e, List.map_replicate] at h2
  exact h2
set_option maxRecDepth 100000 in
theorem narrow_ok (d : Int) (s : Nat → Nat) (w : World) : Calls Tryd.prog 89 #[.int .i64 d, .agg (UARR .u8 32 s)] w fun e w' => e = .returned (.agg (UARR .u8 32 (NARROW d s))) ∧ Below w.heap.size w w' := by
  have hz := zero32
  by_cases d1 : d < 1
  · have hW : WID d = 1 := by unfold WID; omega
    have K := narrow_blocks d 1 hW (by decide) s w
    have HCL : Aside _ := K.1
    have HC : Aside _ := K.2
    clear K hW
    go_enter Tryd.func89, Tryd.ntmps89
    go_wp2
    rw [HCL.out]
    go_wp2_with (first
      | (refine wpList_load_row rfl 27 _ rfl _ rfl _ _ (0, 0) _ HC.out.1 Tryd.underlying27 rfl (info_HASH _) ?_)
      | (refine wpList_store_row rfl 27 _ _ rfl _ _ rfl rfl _ _ HC.out.2.1 (info_HASH _) (by rw [UARR_size, UARR_size]) (UARR_one _ _ _) ?_))
    refine bodyPost_ret (v := .agg (UARR .u8 32 (NARROW d s))) ?_ rfl ⟨rfl, below_row HC.out.2.2 (by omega) _⟩
    exact results_cell_row rfl _ _ (w.heap.size + 1) 27 _ (0, 0) _ rfl (HC.out.2.1.row _) Tryd.underlying27 rfl (info_HASH _)
  · have d2 : 1 ≤ d := by omega
    by_cases d3 : d < 32
    · obtain ⟨n, rfl⟩ : ∃ n : Nat, d = (n : Int) := ⟨d.toNat, by omega⟩
      have hW : WID n = n := by unfold WID; omega
      have K := narrow_blocks n n hW (by omega) s w
      have HCL : Aside _ := K.1
      have HC : Aside _ := K.2
      have hsl := slice_hash w.heap.size n (by omega) (n : Int) rfl
      clear K hW
      go_enter Tryd.func89, Tryd.ntmps89
      go_wp2
      rw [HCL.out]
      go_wp2_with (first
        | (refine wpList_load_row rfl 27 _ rfl _ rfl _ _ (0, 0) _ HC.out.1 Tryd.underlying27 rfl (info_HASH _) ?_)
        | (refine wpList_store_row rfl 27 _ _ rfl _ _ rfl rfl _ _ HC.out.2.1 (info_HASH _) (by rw [UARR_size, UARR_size]) (UARR_one _ _ _) ?_))
      refine bodyPost_ret (v := .agg (UARR .u8 32 (NARROW n s))) ?_ rfl ⟨rfl, below_row HC.out.2.2 (by omega) _⟩
      exact results_cell_row rfl _ _ (w.heap.size + 1) 27 _ (0, 0) _ rfl (HC.out.2.1.row _) Tryd.underlying27 rfl (info_HASH _)
    · have hW : WID d = 32 := by unfold WID; omega
      have HCL : Aside (∀ ty b (w : World), (Builtin.clear_ #[104] ty #[.slice (some ⟨b, 0, none⟩) 0 0]).run Tryd.prog w = .ok (.tuple #[]) w) := fun ty b w => by simp [Builtin.clear_, run_underlying Tryd.underlying104]
      have HC : Aside (Has ((w.alloc (.cells (UARR .u8 32 s) 27)).alloc (.cells (UARR .u8 32 fun _ => 0) 27)) w.heap.size (UARR .u8 32 (NARROW d s)) 27 ∧ Has ((w.alloc (.cells (UARR .u8 32 s) 27)).alloc (.cells (UARR .u8 32 fun _ => 0) 27)) (w.heap.size + 1) (UARR .u8 32 fun _ => 0) 27 ∧ Below w.heap.size w ((w.alloc (.cells (UARR .u8 32 s) 27)).alloc (.cells (UARR .u8 32 fun _ => 0) 27))) :=
        ⟨by rw [NARROW_whole hW]; exact (Has.new w _ _).alloc _, Has.at _ _ _ (by simp), ((Below.refl _ _).alloc (Nat.le_refl _) _).alloc (by simp) _⟩
      rcases Int.lt_or_eq_of_le (show (32 : Int) ≤ d by omega) with d4 | d4
      · clear hW
        go_enter Tryd.func89, Tryd.ntmps89
        go_wp2
        rw [HCL.out]
        go_wp2_with (first
          | (refine wpList_load_row rfl 27 _ rfl _ rfl _ _ (0, 0) _ HC.out.1 Tryd.underlying27 rfl (info_HASH _) ?_)
          | (refine wpList_store_row rfl 27 _ _ rfl _ _ rfl rfl _ _ HC.out.2.1 (info_HASH _) (by rw [UARR_size, UARR_size]) (UARR_one _ _ _) ?_))
        refine bodyPost_ret (v := .agg (UARR .u8 32 (NARROW d s))) ?_ rfl ⟨rfl, below_row HC.out.2.2 (by omega) _⟩
        exact results_cell_row rfl _ _ (w.heap.size + 1) 27 _ (0, 0) _ rfl (HC.out.2.1.row _) Tryd.underlying27 rfl (info_HASH _)
      · subst d4
        clear hW
        go_enter Tryd.func89, Tryd.ntmps89
        go_wp2
        rw [HCL.out]
        go_wp2_with (first
          | (refine wpList_load_row rfl 27 _ rfl _ rfl _ _ (0, 0) _ HC.out.1 Tryd.underlying27 rfl (info_HASH _) ?_)
          | (refine wpList_store_row rfl 27 _ _ rfl _ _ rfl rfl _ _ HC.out.2.1 (info_HASH _) (by rw [UARR_size, UARR_size]) (UARR_one _ _ _) ?_))
        refine bodyPost_ret (v := .agg (UARR .u8 32 (NARROW 32 s))) ?_ rfl ⟨rfl, below_row HC.out.2.2 (by omega) _⟩
        exact results_cell_row rfl _ _ (w.heap.size + 1) 27 _ (0, 0) _ rfl (HC.out.2.1.row _) Tryd.underlying27 rfl (info_HASH _)
end Go.Proofs.YtnplhejopmoopaaDoor.HX
