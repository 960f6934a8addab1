/- What the document's answers give for a node's kin. -/
import Derived.Test.YtddmfpiflnjmjaaDoorPosRefSpot
import Derived.Test.YtddmfpiflnjmjaaDoorPosOk
namespace Go.Proofs.YtddmfpiflnjmjaaDoor
open Go.RowKit

/-- the document's Spot answers so at p. -/
def RefAt (p : Int) (h k : Nat) (ok : Bool) : Prop := ∀ w, Calls Tryd.prog 85 #[.int .u64 p] w fun e w' => e = .returned (.tuple #[SPOT h k, .bool ok]) ∧ Below w.heap.size w w'
theorem RefAt.node {h k : Nat} (hN : Node h k) : RefAt ((PLC h k : Nat) : Int) h k true := fun w => refspot_ok h k hN w
theorem RefAt.out {p : Int} (hp : 9223372036854775807 ≤ p) : RefAt p 0 0 false := fun w => refspot_not p hp w
theorem refsibling_top (p : Int) (k : Nat) (w : World) (cs : RefAt p 62 k true) : Calls Tryd.prog 66 #[.int .u64 p] w fun e w' => e = .returned (.tuple #[.int .u64 0, .bool false]) ∧ Below w.heap.size w w' := by
  have cs := cs w
  go_enter Tryd.func66, Tryd.ntmps66
  go_wp2_with fail
  refine cs.mono ?_
  rintro e w1 ⟨rfl, hb⟩
  clear cs
  have R : Aside (Below w.heap.size w w1) := hb
  clear hb
  go_wp2
  go_ret2
  exact ⟨rfl, R.out.alloc R.out.size _⟩
theorem refsibling_not (p : Int) (h k : Nat) (w : World) (cs : RefAt p h k false) : Calls Tryd.prog 66 #[.int .u64 p] w fun e w' => e = .returned (.tuple #[.int .u64 0, .bool false]) ∧ Below w.heap.size w w' := by
  have cs := cs w
  go_enter Tryd.func66, Tryd.ntmps66
  go_wp2_with fail
  refine cs.mono ?_
  rintro e w1 ⟨rfl, hb⟩
  clear cs
  have R : Aside (Below w.heap.size w w1) := hb
  clear hb
  go_wp2
  go_ret2
  exact ⟨rfl, R.out.alloc R.out.size _⟩
theorem refplace_raw (h k : Nat) (t z y l a r : Int) (w : World) (hh : h ≤ 62) (hm : wrap64 (h : Int) = (h : Int)) (hm2 : IntKind.u64.wrap (h : Int) = (h : Int)) (ht : wrap64 (62 - (h : Int)) = t) (hk : decide (y ≤ (k : Int)) = false)
    (cy : ∀ w, Calls Tryd.prog 67 #[.int .i64 t] w fun e w' => e = .returned (.int .u64 y) ∧ w = w') (cz : ∀ w, Calls Tryd.prog 67 #[.int .i64 (h : Int)] w fun e w' => e = .returned (.int .u64 z) ∧ w = w')
    (e0 : IntKind.u64.wrap ((k : Int) + 1) = (k : Int) + 1) (e1 : IntKind.u64.wrap (IntKind.u64.wrap (((k : Int) + 1) * z) - 1) = l) (ca : ∀ w, Calls Tryd.prog 68 #[.int .u64 l] w fun e w' => e = .returned (.tuple #[.int .u64 a, .bool true]) ∧ w = w') (e2 : IntKind.u64.wrap (a + (h : Int)) = r) :
    Calls Tryd.prog 41 #[SPOT h k] w fun e w' => e = .returned (.tuple #[.int .u64 r, .bool true]) ∧ Below w.heap.size w w' := by
  have hd : decide ((62 : Int) < (h : Int)) = false := by simp; omega
  go_enter Tryd.func41, Tryd.ntmps41
  go_wp2
  have hc0 : (w.alloc (.cells #[.int .u8 (h : Int), .int .u64 (k : Int)] 76)).cell? ⟨w.heap.size, 0, none⟩ = some (.int .u8 (h : Int)) := by simp
  have hc1 : (w.alloc (.cells #[.int .u8 (h : Int), .int .u64 (k : Int)] 76)).cell? ⟨w.heap.size, 1, none⟩ = some (.int .u64 (k : Int)) := by simp
  have R2 : Aside (Below w.heap.size w (w.alloc (.cells #[.int .u8 (h : Int), .int .u64 (k : Int)] 76))) := (Below.refl _ _).alloc (Nat.le_refl _) _
  generalize w.alloc (.cells #[.int .u8 (h : Int), .int .u64 (k : Int)] 76) = W at *
  generalize hb : w.heap.size = b at *
  clear hh
  go_quiet ((go_at_call 67; exact quiet_eq (cy _)))
  have R3 : Aside (Below b w (W.drewN nq)) := below_drewN R2.out nq
  have hc0' : (W.drewN nq).cell? ⟨b, 0, none⟩ = some (.int .u8 (h : Int)) := hc0
  have hc1' : (W.drewN nq).cell? ⟨b, 1, none⟩ = some (.int .u64 (k : Int)) := hc1
  clear hc0 hc1 R2 cy
  generalize W.drewN nq = W2 at *
  go_wp2
  go_quiet (first | (go_at_call 67; exact quiet_eq (cz _)) | (go_at_call 68; exact quiet_eq (ca _)))
  go_wp2
  go_ret2
  exact ⟨rfl, by rw [hb]; exact below_drewN R3.out _⟩
theorem refplace_high (h k : Nat) (hh : 62 < h) (hm : wrap64 (h : Int) = (h : Int)) (w : World) : Calls Tryd.prog 41 #[SPOT h k] w fun e w' => e = .returned (.tuple #[.int .u64 0, .bool false]) ∧ Below w.heap.size w w' := by
  have hd : decide ((62 : Int) < (h : Int)) = true := by simp; omega
  go_enter Tryd.func41, Tryd.ntmps41
  go_wp2
  have hc0 : (w.alloc (.cells #[.int .u8 (h : Int), .int .u64 (k : Int)] 76)).cell? ⟨w.heap.size, 0, none⟩ = some (.int .u8 (h : Int)) := by simp
  have R2 : Aside (Below w.heap.size w (w.alloc (.cells #[.int .u8 (h : Int), .int .u64 (k : Int)] 76))) := (Below.refl _ _).alloc (Nat.le_refl _) _
  generalize w.alloc (.cells #[.int .u8 (h : Int), .int .u64 (k : Int)] 76) = W at *
  generalize hb : w.heap.size = b at *
  go_quiet (fail)
  go_wp2
  go_ret2
  exact ⟨rfl, by rw [hb]; exact below_drewN R2.out nq⟩
theorem refplace_wide (h k : Nat) (t y : Int) (w : World) (hh : h ≤ 62) (hm : wrap64 (h : Int) = (h : Int)) (ht : wrap64 (62 - (h : Int)) = t) (hk : decide (y ≤ (k : Int)) = true) (cy : ∀ w, Calls Tryd.prog 67 #[.int .i64 t] w fun e w' => e = .returned (.int .u64 y) ∧ w = w') :
    Calls Tryd.prog 41 #[SPOT h k] w fun e w' => e = .returned (.tuple #[.int .u64 0, .bool false]) ∧ Below w.heap.size w w' := by
  have hd : decide ((62 : Int) < (h : Int)) = false := by simp; omega
  go_enter Tryd.func41, Tryd.ntmps41
  go_wp2
  have hc0 : (w.alloc (.cells #[.int .u8 (h : Int), .int .u64 (k : Int)] 76)).cell? ⟨w.heap.size, 0, none⟩ = some (.int .u8 (h : Int)) := by simp
  have hc1 : (w.alloc (.cells #[.int .u8 (h : Int), .int .u64 (k : Int)] 76)).cell? ⟨w.heap.size, 1, none⟩ = some (.int .u64 (k : Int)) := by simp
  have R2 : Aside (Below w.heap.size w (w.alloc (.cells #[.int .u8 (h : Int), .int .u64 (k : Int)] 76))) := (Below.refl _ _).alloc (Nat.le_refl _) _
  generalize w.alloc (.cells #[.int .u8 (h : Int), .int .u64 (k : Int)] 76) = W at *
  generalize hb : w.heap.size = b at *
  clear hh
  go_quiet ((go_at_call 67; exact quiet_eq (cy _)))
  go_wp2
  go_ret2
  exact ⟨rfl, by rw [hb]; exact below_drewN R2.out nq⟩
theorem refsibling_left (p : Int) (h k k1 : Nat) (r : Int) (w : World) (hh : ((h : Int) == 62) = false) (e1 : IntKind.u64.wrap ((k : Int) + 1) = (k1 : Int)) (ha : ((k : Int) % 2 == 1) = false) (cs : RefAt p h k true)
    (cp : ∀ w, Calls Tryd.prog 41 #[SPOT h k1] w fun e w' => e = .returned (.tuple #[.int .u64 r, .bool true]) ∧ Below w.heap.size w w') :
    Calls Tryd.prog 66 #[.int .u64 p] w fun e w' => e = .returned (.tuple #[.int .u64 r, .bool true]) ∧ Below w.heap.size w w' := by
  have cs := cs w
  go_enter Tryd.func66, Tryd.ntmps66
  go_wp2_with fail
  refine cs.mono ?_
  rintro e w1 ⟨rfl, hb⟩
  clear cs
  have R : Aside (Below w.heap.size w w1) := hb
  clear hb
  go_wp2_with fail
  refine (cp _).mono ?_
  rintro e w2 ⟨rfl, hb2⟩
  have R2 : Aside (Below w.heap.size w w2) := (R.out.alloc R.out.size _).trans (hb2.mono (by have := R.out.size; simp; omega))
  clear cp hb2 R
  go_wp2
  go_ret2
  exact ⟨rfl, R2.out⟩
theorem refsibling_right (p : Int) (h k k1 : Nat) (r : Int) (w : World) (hh : ((h : Int) == 62) = false) (e1 : IntKind.u64.wrap ((k : Int) - 1) = (k1 : Int)) (ha : ((k : Int) % 2 == 1) = true) (cs : RefAt p h k true)
    (cp : ∀ w, Calls Tryd.prog 41 #[SPOT h k1] w fun e w' => e = .returned (.tuple #[.int .u64 r, .bool true]) ∧ Below w.heap.size w w') :
    Calls Tryd.prog 66 #[.int .u64 p] w fun e w' => e = .returned (.tuple #[.int .u64 r, .bool true]) ∧ Below w.heap.size w w' := by
  have cs := cs w
  go_enter Tryd.func66, Tryd.ntmps66
  go_wp2_with fail
  refine cs.mono ?_
  rintro e w1 ⟨rfl, hb⟩
  clear cs
  have R : Aside (Below w.heap.size w w1) := hb
  clear hb
  go_wp2_with fail
  refine (cp _).mono ?_
  rintro e w2 ⟨rfl, hb2⟩
  have R2 : Aside (Below w.heap.size w w2) := (R.out.alloc R.out.size _).trans (hb2.mono (by have := R.out.size; simp; omega))
  clear cp hb2 R
  go_wp2
  go_ret2
  exact ⟨rfl, R2.out⟩
theorem odd_mod (k : Nat) : ((k : Int) % 2 == 1) = decide (k % 2 = 1) := by
  rw [Bool.eq_iff_iff]
  simp
  omega
theorem refplace_ok (h k : Nat) (hN : Node h k) (w : World) : Calls Tryd.prog 41 #[SPOT h k] w fun e w' => e = .returned (.tuple #[.int .u64 ((PLC h k : Nat) : Int), .bool true]) ∧ Below w.heap.size w w' := by
  have h1 := hN.1
  have h2 := hN.2
  have h3 := hN.span
  have h4 := hN.index_lt
  have h5 := hN.lt
  have h7 := PLC_last h k
  have h8 := last_lt h k
  refine refplace_raw h k ((62 - h : Nat) : Int) ((2 ^ h : Nat) : Int) ((2 ^ (62 - h) : Nat) : Int) (((k + 1) * 2 ^ h - 1 : Nat) : Int) ((NODES ((k + 1) * 2 ^ h - 1) : Nat) : Int) _ w h1 (by unfold wrap64; omega) (by rw [wrapU]; omega) (by unfold wrap64; omega) (by simp only [decide_eq_false_iff_not]; omega) (fun w => power_ok _ (by omega) w) (fun w => power_ok _ (by omega) w) (by rw [wrapU]; omega) ?_ (fun w => refnodes_ok _ (by omega) w) ?_
  · rw [show (((k : Int) + 1) * ((2 ^ h : Nat) : Int)) = (((k + 1) * 2 ^ h : Nat) : Int) by rw [Int.natCast_mul]; rfl]
    generalize (k + 1) * 2 ^ h = x at *
    rw [wrapU, wrapU]
    omega
  · rw [wrapU]
    omega
theorem refplace_not (h k : Nat) (hh : h < 256) (hN : ¬ Node h k) (w : World) : Calls Tryd.prog 41 #[SPOT h k] w fun e w' => e = .returned (.tuple #[.int .u64 0, .bool false]) ∧ Below w.heap.size w w' := by
  rcases Nat.lt_or_ge 62 h with h1 | h1
  · exact refplace_high h k h1 (by unfold wrap64; omega) w
  · have h2 : 2 ^ (62 - h) ≤ k := by
      rcases Nat.lt_or_ge k (2 ^ (62 - h)) with h3 | h3
      · exact absurd ⟨h1, h3⟩ hN
      · exact h3
    exact refplace_wide h k ((62 - h : Nat) : Int) ((2 ^ (62 - h) : Nat) : Int) w h1 (by unfold wrap64; omega) (by unfold wrap64; omega) (by simp only [decide_eq_true_eq]; omega) (fun w => power_ok _ (by omega) w)
theorem refsibling_ok (h k : Nat) (hN : Node h k) (hh : h < 62) (w : World) : Calls Tryd.prog 66 #[.int .u64 ((PLC h k : Nat) : Int)] w fun e w' => e = .returned (.tuple #[.int .u64 ((PLC h (SIB k) : Nat) : Int), .bool true]) ∧ Below w.heap.size w w' := by
  have hs := hN.sib hh
  have hi := hN.index_lt
  by_cases hk : k % 2 = 1
  · have e : SIB k = k - 1 := by unfold SIB; rw [if_pos hk]
    rw [e] at hs ⊢
    exact refsibling_right _ h k (k - 1) _ w (by simp; omega) (by rw [wrapU]; omega) (by rw [odd_mod, decide_eq_true hk]) (.node hN) (fun w => refplace_ok _ _ hs w)
  · have e : SIB k = k + 1 := by unfold SIB; rw [if_neg hk]
    rw [e] at hs ⊢
    exact refsibling_left _ h k (k + 1) _ w (by simp; omega) (by rw [wrapU]; omega) (by rw [odd_mod, decide_eq_false hk]) (.node hN) (fun w => refplace_ok _ _ hs w)
end Go.Proofs.YtddmfpiflnjmjaaDoor
