/- What schedule of package hash answers. -/
import Derived.Test.YtihdhaamphdljaaDoorHashArr
import Derived.Deep.RegionHeld3
import Derived.Deep.RegionWith
namespace Go.Proofs.YtihdhaamphdljaaDoor
open Go.RowKit

def ZERO64 : Array Value := UARR .u32 64 fun _ => 0
theorem zero64 : (#[.int .u32 0, .int .u32 0, .int .u32 0, .int .u32 0, .int .u32 0, .int .u32 0, .int .u32 0, .int .u32 0, .int .u32 0, .int .u32 0, .int .u32 0, .int .u32 0, .int .u32 0, .int .u32 0, .int .u32 0, .int .u32 0, .int .u32 0, .int .u32 0, .int .u32 0, .int .u32 0, .int .u32 0, .int .u32 0, .int .u32 0, .int .u32 0, .int .u32 0, .int .u32 0, .int .u32 0, .int .u32 0, .int .u32 0, .int .u32 0, .int .u32 0, .int .u32 0, .int .u32 0, .int .u32 0, .int .u32 0, .int .u32 0, .int .u32 0, .int .u32 0, .int .u32 0, .int .u32 0, .int .u32 0, .int .u32 0, .int .u32 0, .int .u32 0, .int .u32 0, .int .u32 0, .int .u32 0, .int .u32 0, .int .u32 0, .int .u32 0, .int .u32 0, .int .u32 0, .int .u32 0, .int .u32 0, .int .u32 0, .int .u32 0, .int .u32 0, .int .u32 0, .int .u32 0, .int .u32 0, .int .u32 0, .int .u32 0, .int .u32 0, .int .u32 0] : Array Value) = UARR .u32 64 fun _ => 0 := rfl
theorem SCHL_zero (b : Nat → Nat) : (UARR .u32 64 fun j => if j < 16 then WORDAT b (4 * j) else 0) = UARR .u32 64 (SCHL b 0) := UARR_ext fun j _ => by rw [SCHL]
theorem schedule_ok (s : Nat → Nat) (h : ∀ i, s i < 256) (w : World) : Calls Tryd.prog 31 #[.agg (UARR .u8 64 s)] w fun e w' => e = .returned (.agg (UARR .u32 64 (SCH s))) ∧ Below w.heap.size w w' := by
  have hz := zero64
  have H : Aside (∀ i, s i < 256) := h
  clear h
  go_enter Tryd.func31, Tryd.ntmps31
  go_wp2
  go_loopg [6] 16 (fun g s5 wx => ∃ i : Nat, i + g = 16 ∧ s5 = .int .i64 i ∧ Aside (Below w.heap.size w wx ∧ Has wx w.heap.size (UARR .u8 64 s) 48 ∧ Has wx (w.heap.size + 1) (UARR .u32 64 fun _ => 0) 63 ∧ Has wx (w.heap.size + 2) (UARR .u32 64 fun j => if j < i then WORDAT s (4 * j) else 0) 63))
  case atStart =>
    refine ⟨0, by omega, rfl, ?_⟩
    have e : (UARR .u32 64 fun j => if j < 0 then WORDAT s (4 * j) else 0) = UARR .u32 64 fun _ => 0 := UARR_ext fun j _ => if_neg (by omega)
    rw [e]
    exact ⟨(((Below.refl _ _).alloc (Nat.le_refl _) _).alloc (by simp) _).alloc (by simp; omega) _, ((Has.new w _ _).alloc _).alloc _, (Has.at _ _ _ (by simp)).alloc _, Has.at _ _ _ (by simp)⟩
  case round =>
    obtain ⟨i, hig, rfl, A⟩ := hrel
    cases gk with
    | zero =>
      obtain rfl : i = 16 := by omega
      rw [SCHL_zero] at A
      clear hz
      go_wp2
      go_loopg [5] 48 (fun g s5 wx => ∃ k : Nat, k + g = 48 ∧ s5 = .int .i64 ((16 + k : Nat) : Int) ∧ Aside (Below w.heap.size w wx ∧ Has wx (w.heap.size + 1) (UARR .u32 64 fun _ => 0) 63 ∧ Has wx (w.heap.size + 2) (UARR .u32 64 (SCHL s k)) 63))
      case atStart => exact ⟨0, by omega, rfl, A.out.1, A.out.2.2.1, A.out.2.2.2⟩
      case round =>
        obtain ⟨k, hkg, rfl, A⟩ := hrel
        cases gk with
        | zero =>
          obtain rfl : k = 48 := by omega
          obtain ⟨hb, h1, h2⟩ := A.out
          go_wp2_with (first
            | (refine wpList_load_row rfl 63 _ rfl _ rfl _ _ (0, 0) _ h2 Tryd.underlying63 rfl (info_W64 _) ?_)
            | (refine wpList_store_row rfl 63 _ _ rfl _ _ rfl rfl _ _ h1 (info_W64 _) (by rw [UARR_size, UARR_size]) (UARR_one _ _ _) ?_))
          refine bodyPost_ret (v := .agg (UARR .u32 64 (SCH s))) ?_ rfl ⟨rfl, below_row hb (by omega) _⟩
          exact results_cell_row rfl _ _ (w.heap.size + 1) 63 _ (0, 0) _ rfl (h1.row _) Tryd.underlying63 rfl (info_W64 _)
        | succ g =>
          obtain ⟨hb, h1, h2⟩ := A.out
          have hlt : (((16 + k : Nat) : Int)) < 64 := by omega
          have ca : wr.cell? ⟨w.heap.size + 1 + 1, 14 + k, none⟩ = some (.int .u32 (SCHL s k (14 + k) : Nat)) := by rw [h2.cell, UARR_get _ _ _ _ (by omega)]
          have cb : wr.cell? ⟨w.heap.size + 1 + 1, 9 + k, none⟩ = some (.int .u32 (SCHL s k (9 + k) : Nat)) := by rw [h2.cell, UARR_get _ _ _ _ (by omega)]
          have cc : wr.cell? ⟨w.heap.size + 1 + 1, 1 + k, none⟩ = some (.int .u32 (SCHL s k (1 + k) : Nat)) := by rw [h2.cell, UARR_get _ _ _ _ (by omega)]
          have cd : wr.cell? ⟨w.heap.size + 1 + 1, k, none⟩ = some (.int .u32 (SCHL s k k : Nat)) := by rw [h2.cell, UARR_get _ _ _ _ (by omega)]
          have ct : wr.cell? ⟨w.heap.size + 1 + 1, 16 + k, none⟩ = some (.int .u32 (SCHL s k (16 + k) : Nat)) := by rw [h2.cell, UARR_get _ _ _ _ (by omega)]
          have hf : wr.frozen? ⟨w.heap.size + 1 + 1, 16 + k, none⟩ = false := h2.frozen _
          have la := SCHL_lt H.out k (14 + k)
          have lc := SCHL_lt H.out k (1 + k)
          have c1 : ∀ w, Calls Tryd.prog 39 #[.int .u32 (SCHL s k (14 + k) : Nat), .int .i64 17, .int .i64 19, .int .i64 10] w fun e w' => e = .returned (.int .u32 (SPILL 17 19 10 (SCHL s k (14 + k)) : Nat)) ∧ ∃ m, w' = w.drewN m := fun w => spill_ok _ 17 19 10 la (by decide) (by decide) (by decide) w
          have c2 : ∀ w, Calls Tryd.prog 39 #[.int .u32 (SCHL s k (1 + k) : Nat), .int .i64 7, .int .i64 18, .int .i64 3] w fun e w' => e = .returned (.int .u32 (SPILL 7 18 3 (SCHL s k (1 + k)) : Nat)) ∧ ∃ m, w' = w.drewN m := fun w => spill_ok _ 7 18 3 lc (by decide) (by decide) (by decide) w
          have R : Aside (Below w.heap.size w wr ∧ Has wr (w.heap.size + 1) (UARR .u32 64 fun _ => 0) 63 ∧ Has wr (w.heap.size + 2) (UARR .u32 64 (SCHL s k)) 63) := ⟨hb, h1, h2⟩
          have V : Aside ((SPILL 17 19 10 (SCHL s k (14 + k)) + SCHL s k (9 + k) + SPILL 7 18 3 (SCHL s k (1 + k)) + SCHL s k k) % 4294967296 = SCHL s (k + 1) (16 + k)) := by rw [Aside, SCHL, if_pos rfl]
          generalize SPILL 17 19 10 (SCHL s k (14 + k)) = p at *
          generalize SPILL 7 18 3 (SCHL s k (1 + k)) = q at *
          generalize SCHL s k (14 + k) = va at *
          generalize SCHL s k (9 + k) = vb at *
          generalize SCHL s k (1 + k) = vc at *
          generalize SCHL s k (16 + k) = vt at *
          generalize hvd : SCHL s k k = vd at *
          obtain ⟨T, hT⟩ : ∃ T, T = 16 + k := ⟨_, rfl⟩
          obtain ⟨a, ha⟩ : ∃ a, a = 14 + k := ⟨_, rfl⟩
          obtain ⟨b, hbb⟩ : ∃ b, b = 9 + k := ⟨_, rfl⟩
          obtain ⟨c, hcc⟩ : ∃ c, c = 1 + k := ⟨_, rfl⟩
          have E : Aside (T = 16 + k ∧ k + (g + 1) = 48) := ⟨hT, hkg⟩
          rw [← hT] at hlt ct hf ⊢
          rw [← ha] at ca
          rw [← hbb] at cb
          rw [← hcc] at cc
          have e1 : (T : Int) - 2 = (a : Int) := by omega
          have e2 : (T : Int) - 7 = (b : Int) := by omega
          have e3 : (T : Int) - 15 = (c : Int) := by omega
          have e4 : (T : Int) - 16 = (k : Int) := by omega
          have f1 : IntKind.i64.wrap (a : Int) = (a : Int) := by rw [IntKind.wrap_i64]; omega
          have f2 : IntKind.i64.wrap (b : Int) = (b : Int) := by rw [IntKind.wrap_i64]; omega
          have f3 : IntKind.i64.wrap (c : Int) = (c : Int) := by rw [IntKind.wrap_i64]; omega
          have f4 : IntKind.i64.wrap (k : Int) = (k : Int) := by rw [IntKind.wrap_i64]; omega
          have g1 : (a : Int) < 64 := by omega
          have g2 : (b : Int) < 64 := by omega
          have g3 : (c : Int) < 64 := by omega
          have g4 : (k : Int) < 64 := by omega
          have n1 : ¬ T = a ∧ ¬ a = T := by omega
          have n2 : ¬ T = b ∧ ¬ b = T := by omega
          have n3 : ¬ T = c ∧ ¬ c = T := by omega
          have n4 : ¬ T = k ∧ ¬ k = T := by omega
          clear hb h1 h2 la lc hvd A hkg hT ha hbb hcc
          go_wp2_with fail
          go_region_held3 (fun W : World => W.cell? ⟨w.heap.size + 1 + 1, a, none⟩ = some (.int .u32 (va : Int)) ∧ W.cell? ⟨w.heap.size + 1 + 1, b, none⟩ = some (.int .u32 (vb : Int)) ∧ W.cell? ⟨w.heap.size + 1 + 1, c, none⟩ = some (.int .u32 (vc : Int)) ∧ W.cell? ⟨w.heap.size + 1 + 1, k, none⟩ = some (.int .u32 (vd : Int))) (first | go_keep | (refine ⟨?_, ?_, ?_, ?_⟩ <;> (rw [set_off (by omega)]; simp only [World.cell?_drewN]; assumption))) (first | (go_at_call_of 39 (va : Int); refine (c1 _).mono ?_; rintro e w5 ⟨rfl, m1, rfl⟩) | (go_at_call_of 39 (vc : Int); refine (c2 _).mono ?_; rintro e w6 ⟨rfl, m2, rfl⟩))
          have hx : IntKind.u32.wrap (IntKind.u32.wrap (IntKind.u32.wrap ((p : Int) + (vb : Int)) + (q : Int)) + (vd : Int)) = ((SCHL s (k + 1) (16 + k) : Nat) : Int) := by
            rw [← V.out, wrap32U, wrap32U, wrap32U]
            omega
          rw [hx]
          clear hx
          generalize hz2 : SCHL s (k + 1) (16 + k) = z
          have HZ : Aside (SCHL s (k + 1) (16 + k) = z) := hz2
          clear hz2
          go_wp2
          go_roundg g
          case measure => have := E.out.2; omega
          case rel =>
            obtain ⟨hb, h1, h2⟩ := R.out
            obtain ⟨hT, hkg⟩ := E.out
            refine ⟨k + 1, by omega, by rw [hT]; go_num, (below_drewN hb _).setCell (by show _ ≤ w.heap.size + 1 + 1; omega) _, (h1.drewN _).other (by show w.heap.size + 1 ≠ w.heap.size + 1 + 1; omega) _, ?_⟩
            have h3 := (h2.drewN (1 + m1 + m2)).set T (.int .u32 (z : Int))
            rw [UARR_set] at h3
            have e : (UARR .u32 64 fun j => if j = T then z else SCHL s k j) = UARR .u32 64 (SCHL s (k + 1)) := UARR_ext fun j _ => by
              rw [← HZ.out, hT]
              by_cases e : j = 16 + k
              · rw [if_pos e, e]
              · rw [if_neg e, SCHL, if_neg e]
            rw [e] at h3
            exact h3
    | succ g =>
      obtain ⟨hb, h0, h1, h2⟩ := A.out
      have hi : (i : Int) < 16 := by omega
      have hi2 : (i : Int) < 64 := by omega
      have hsl := slice_block w.heap.size (4 * i) (by omega) (4 * (i : Int)) (by omega)
      have hw := word_ok w.heap.size (4 * i) (64 - 4 * i) (64 - 4 * i) s H.out (4 * i) wr (by omega) (fun j hj => by rw [h0.cell, UARR_get _ _ _ _ (by omega)])
      have hc : wr.cell? ⟨w.heap.size + 1 + 1, i, none⟩ = some (.int .u32 0) := by rw [h2.cell, UARR_get _ _ _ _ (by omega), if_neg (by omega)]; rfl
      have hf : wr.frozen? ⟨w.heap.size + 1 + 1, i, none⟩ = false := h2.frozen i
      generalize hv : WORDAT s (4 * i) = v at hw
      have R : Aside (Below w.heap.size w wr ∧ Has wr w.heap.size (UARR .u8 64 s) 48 ∧ Has wr (w.heap.size + 1) (UARR .u32 64 fun _ => 0) 63 ∧ Has wr (w.heap.size + 2) (UARR .u32 64 fun j => if j < i then WORDAT s (4 * j) else 0) 63 ∧ WORDAT s (4 * i) = v) := ⟨hb, h0, h1, h2, hv⟩
      clear hb h0 h1 h2 hv A hz
      go_wp2_with fail
      refine hw.mono ?_
      rintro e w' ⟨rfl, m, rfl⟩
      clear hw
      go_wp2
      go_roundg g
      case measure => omega
      case rel =>
        obtain ⟨hb, h0, h1, h2, hv⟩ := R.out
        refine ⟨i + 1, by omega, by go_num, ?_⟩
        rw [← ufill (F := fun j => WORDAT s (4 * j)) (fun j => rfl) v hv.symm]
        exact ⟨(below_drewN hb m).setCell (by show _ ≤ w.heap.size + 1 + 1; omega) _, (h0.drewN m).other (by show w.heap.size ≠ w.heap.size + 1 + 1; omega) _, (h1.drewN m).other (by show w.heap.size + 1 ≠ w.heap.size + 1 + 1; omega) _, (h2.drewN m).set i _⟩
end Go.Proofs.YtihdhaamphdljaaDoor
