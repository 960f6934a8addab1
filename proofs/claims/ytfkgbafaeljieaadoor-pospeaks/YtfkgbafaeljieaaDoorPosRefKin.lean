/- What the document's answers give for a node's kin. -/
import Derived.Test.YtfkgbafaeljieaaDoorPosRefSpot
import Derived.Test.YtfkgbafaeljieaaDoorPosOk
namespace Go.Proofs.YtfkgbafaeljieaaDoor
open Go.RowKit

/-- the document's Spot answers so at p. -/
def RefAt (p : Int) (h k : Nat) (ok : Bool) : Prop := ∀ w, Calls Tryd.prog 19 #[.int .u64 p] w fun e w' => e = .returned (.tuple #[SPOT h k, .bool ok]) ∧ Below w.heap.size w w'
theorem RefAt.node {h k : Nat} (hN : Node h k) : RefAt ((PLC h k : Nat) : Int) h k true := fun w => refspot_ok h k hN w
theorem RefAt.out {p : Int} (hp : 9223372036854775807 ≤ p) : RefAt p 0 0 false := fun w => refspot_not p hp w
theorem refindex_leaf (p : Int) (k : Nat) (w : World) (cs : RefAt p 0 k true) : Calls Tryd.prog 17 #[.int .u64 p] w fun e w' => e = .returned (.tuple #[.int .u64 (k : Int), .bool true]) ∧ Below w.heap.size w w' := by
  have cs := cs w
  go_enter Tryd.func17, Tryd.ntmps17
  go_wp2_with fail
  refine cs.mono ?_
  rintro e w1 ⟨rfl, hb⟩
  clear cs
  have R : Aside (Below w.heap.size w w1) := hb
  clear hb
  go_wp2
  go_ret2
  exact ⟨rfl, R.out.alloc R.out.size _⟩
theorem refindex_inner (p : Int) (h k : Nat) (w : World) (hh : 0 < h) (cs : RefAt p h k true) : Calls Tryd.prog 17 #[.int .u64 p] w fun e w' => e = .returned (.tuple #[.int .u64 0, .bool false]) ∧ Below w.heap.size w w' := by
  have cs := cs w
  have hd : ((h : Int) != 0) = true := by simp; omega
  go_enter Tryd.func17, Tryd.ntmps17
  go_wp2_with fail
  refine cs.mono ?_
  rintro e w1 ⟨rfl, hb⟩
  clear cs
  have R : Aside (Below w.heap.size w w1) := hb
  clear hb
  go_wp2
  go_ret2
  exact ⟨rfl, R.out.alloc R.out.size _⟩
theorem refindex_not (p : Int) (h k : Nat) (w : World) (cs : RefAt p h k false) : Calls Tryd.prog 17 #[.int .u64 p] w fun e w' => e = .returned (.tuple #[.int .u64 0, .bool false]) ∧ Below w.heap.size w w' := by
  have cs := cs w
  go_enter Tryd.func17, Tryd.ntmps17
  go_wp2_with fail
  refine cs.mono ?_
  rintro e w1 ⟨rfl, hb⟩
  clear cs
  have R : Aside (Below w.heap.size w w1) := hb
  clear hb
  go_wp2
  go_ret2
  exact ⟨rfl, R.out.alloc R.out.size _⟩
theorem refparent_top (p : Int) (k : Nat) (w : World) (cs : RefAt p 62 k true) : Calls Tryd.prog 23 #[.int .u64 p] w fun e w' => e = .returned (.tuple #[.int .u64 0, .bool false]) ∧ Below w.heap.size w w' := by
  have cs := cs w
  go_enter Tryd.func23, Tryd.ntmps23
  go_wp2_with fail
  refine cs.mono ?_
  rintro e w1 ⟨rfl, hb⟩
  clear cs
  have R : Aside (Below w.heap.size w w1) := hb
  clear hb
  go_wp2
  go_ret2
  exact ⟨rfl, R.out.alloc R.out.size _⟩
theorem refparent_not (p : Int) (h k : Nat) (w : World) (cs : RefAt p h k false) : Calls Tryd.prog 23 #[.int .u64 p] w fun e w' => e = .returned (.tuple #[.int .u64 0, .bool false]) ∧ Below w.heap.size w w' := by
  have cs := cs w
  go_enter Tryd.func23, Tryd.ntmps23
  go_wp2_with fail
  refine cs.mono ?_
  rintro e w1 ⟨rfl, hb⟩
  clear cs
  have R : Aside (Below w.heap.size w w1) := hb
  clear hb
  go_wp2
  go_ret2
  exact ⟨rfl, R.out.alloc R.out.size _⟩
theorem refsibling_top (p : Int) (k : Nat) (w : World) (cs : RefAt p 62 k true) : Calls Tryd.prog 25 #[.int .u64 p] w fun e w' => e = .returned (.tuple #[.int .u64 0, .bool false]) ∧ Below w.heap.size w w' := by
  have cs := cs w
  go_enter Tryd.func25, Tryd.ntmps25
  go_wp2_with fail
  refine cs.mono ?_
  rintro e w1 ⟨rfl, hb⟩
  clear cs
  have R : Aside (Below w.heap.size w w1) := hb
  clear hb
  go_wp2
  go_ret2
  exact ⟨rfl, R.out.alloc R.out.size _⟩
theorem refsibling_not (p : Int) (h k : Nat) (w : World) (cs : RefAt p h k false) : Calls Tryd.prog 25 #[.int .u64 p] w fun e w' => e = .returned (.tuple #[.int .u64 0, .bool false]) ∧ Below w.heap.size w w' := by
  have cs := cs w
  go_enter Tryd.func25, Tryd.ntmps25
  go_wp2_with fail
  refine cs.mono ?_
  rintro e w1 ⟨rfl, hb⟩
  clear cs
  have R : Aside (Below w.heap.size w w1) := hb
  clear hb
  go_wp2
  go_ret2
  exact ⟨rfl, R.out.alloc R.out.size _⟩
theorem refkids_leaf (p : Int) (k : Nat) (w : World) (cs : RefAt p 0 k true) : Calls Tryd.prog 27 #[.int .u64 p] w fun e w' => e = .returned (.tuple #[.int .u64 0, .int .u64 0, .bool false]) ∧ Below w.heap.size w w' := by
  have cs := cs w
  go_enter Tryd.func27, Tryd.ntmps27
  go_wp2_with fail
  refine cs.mono ?_
  rintro e w1 ⟨rfl, hb⟩
  clear cs
  have R : Aside (Below w.heap.size w w1) := hb
  clear hb
  go_wp2
  go_ret3
  exact ⟨rfl, R.out.alloc R.out.size _⟩
theorem refkids_not (p : Int) (h k : Nat) (w : World) (cs : RefAt p h k false) : Calls Tryd.prog 27 #[.int .u64 p] w fun e w' => e = .returned (.tuple #[.int .u64 0, .int .u64 0, .bool false]) ∧ Below w.heap.size w w' := by
  have cs := cs w
  go_enter Tryd.func27, Tryd.ntmps27
  go_wp2_with fail
  refine cs.mono ?_
  rintro e w1 ⟨rfl, hb⟩
  clear cs
  have R : Aside (Below w.heap.size w w1) := hb
  clear hb
  go_wp2
  go_ret3
  exact ⟨rfl, R.out.alloc R.out.size _⟩
theorem refright_not (p : Int) (h k : Nat) (w : World) (cs : RefAt p h k false) : Calls Tryd.prog 29 #[.int .u64 p] w fun e w' => e = .returned (.bool false) ∧ Below w.heap.size w w' := by
  have cs := cs w
  go_enter Tryd.func29, Tryd.ntmps29
  go_wp2_with fail
  refine cs.mono ?_
  rintro e w1 ⟨rfl, hb⟩
  clear cs
  have R : Aside (Below w.heap.size w w1) := hb
  clear hb
  go_wp2
  go_ret
  exact ⟨rfl, R.out.alloc R.out.size _⟩
theorem refunder_not (p : Int) (h k : Nat) (w : World) (cs : RefAt p h k false) : Calls Tryd.prog 31 #[.int .u64 p] w fun e w' => e = .returned (.tuple #[.int .u64 0, .int .u64 0, .bool false]) ∧ Below w.heap.size w w' := by
  have cs := cs w
  go_enter Tryd.func31, Tryd.ntmps31
  go_wp2_with fail
  refine cs.mono ?_
  rintro e w1 ⟨rfl, hb⟩
  clear cs
  have R : Aside (Below w.heap.size w w1) := hb
  clear hb
  go_wp2
  go_ret3
  exact ⟨rfl, R.out.alloc R.out.size _⟩
theorem refsince_raw (p r s : Int) (ok : Bool) (w : World) (cu : ∀ w, Calls Tryd.prog 31 #[.int .u64 p] w fun e w' => e = .returned (.tuple #[.int .u64 r, .int .u64 s, .bool ok]) ∧ Below w.heap.size w w') :
    Calls Tryd.prog 33 #[.int .u64 p] w fun e w' => e = .returned (.tuple #[.int .u64 s, .bool ok]) ∧ Below w.heap.size w w' := by
  have cu := cu w
  go_enter Tryd.func33, Tryd.ntmps33
  go_wp2_with fail
  refine cu.mono ?_
  rintro e w1 ⟨rfl, hb⟩
  clear cu
  have R : Aside (Below w.heap.size w w1) := hb
  clear hb
  go_wp2
  go_ret2
  exact ⟨rfl, R.out⟩
theorem refright_raw (p : Int) (h k : Nat) (b : Bool) (w : World) (ha : ((k : Int) % 2 == 1) = b) (cs : RefAt p h k true) :
    Calls Tryd.prog 29 #[.int .u64 p] w fun e w' => e = .returned (.bool b) ∧ Below w.heap.size w w' := by
  have cs := cs w
  go_enter Tryd.func29, Tryd.ntmps29
  go_wp2_with fail
  refine cs.mono ?_
  rintro e w1 ⟨rfl, hb⟩
  clear cs
  have R : Aside (Below w.heap.size w w1) := hb
  clear hb
  go_wp2
  go_ret
  exact ⟨rfl, R.out.alloc R.out.size _⟩
theorem refunder_raw (p : Int) (h k : Nat) (z r s : Int) (w : World) (hm : wrap64 (h : Int) = (h : Int)) (e0 : IntKind.u64.wrap ((k : Int) + 1) = (k : Int) + 1) (e1 : IntKind.u64.wrap ((k : Int) * z) = r) (e2 : IntKind.u64.wrap (((k : Int) + 1) * z) = s) (cp : ∀ w, Calls Tryd.prog 44 #[.int .i64 (h : Int)] w fun e w' => e = .returned (.int .u64 z) ∧ w = w') (cs : RefAt p h k true) :
    Calls Tryd.prog 31 #[.int .u64 p] w fun e w' => e = .returned (.tuple #[.int .u64 r, .int .u64 s, .bool true]) ∧ Below w.heap.size w w' := by
  have cs := cs w
  go_enter Tryd.func31, Tryd.ntmps31
  go_wp2_with fail
  refine cs.mono ?_
  rintro e w1 ⟨rfl, hb⟩
  clear cs
  have R : Aside (Below w.heap.size w w1) := hb
  clear hb
  go_wp2_with fail
  refine (cp _).mono ?_
  rintro e w2 ⟨rfl, rfl⟩
  clear cp
  go_wp2
  have hc1 : (w1.alloc (.cells #[.int .u8 (h : Int), .int .u64 (k : Int)] 28)).cell? ⟨w1.heap.size, 1, none⟩ = some (.int .u64 (k : Int)) := by simp
  have R2 : Aside (Below w.heap.size w (w1.alloc (.cells #[.int .u8 (h : Int), .int .u64 (k : Int)] 28))) := R.out.alloc R.out.size _
  clear R
  generalize w1.alloc (.cells #[.int .u8 (h : Int), .int .u64 (k : Int)] 28) = W at *
  generalize w1.heap.size = b at *
  go_quiet (fail)
  go_wp2
  go_ret3
  exact ⟨rfl, below_drewN R2.out nq⟩
theorem refplace_raw (h k : Nat) (t z y l a r : Int) (w : World) (hh : h ≤ 62) (hm : wrap64 (h : Int) = (h : Int)) (hm2 : IntKind.u64.wrap (h : Int) = (h : Int)) (ht : wrap64 (62 - (h : Int)) = t) (hk : decide (y ≤ (k : Int)) = false)
    (cy : ∀ w, Calls Tryd.prog 44 #[.int .i64 t] w fun e w' => e = .returned (.int .u64 y) ∧ w = w') (cz : ∀ w, Calls Tryd.prog 44 #[.int .i64 (h : Int)] w fun e w' => e = .returned (.int .u64 z) ∧ w = w')
    (e0 : IntKind.u64.wrap ((k : Int) + 1) = (k : Int) + 1) (e1 : IntKind.u64.wrap (IntKind.u64.wrap (((k : Int) + 1) * z) - 1) = l) (ca : ∀ w, Calls Tryd.prog 10 #[.int .u64 l] w fun e w' => e = .returned (.tuple #[.int .u64 a, .bool true]) ∧ w = w') (e2 : IntKind.u64.wrap (a + (h : Int)) = r) :
    Calls Tryd.prog 21 #[SPOT h k] w fun e w' => e = .returned (.tuple #[.int .u64 r, .bool true]) ∧ Below w.heap.size w w' := by
  have hd : decide ((62 : Int) < (h : Int)) = false := by simp; omega
  go_enter Tryd.func21, Tryd.ntmps21
  go_wp2
  have hc0 : (w.alloc (.cells #[.int .u8 (h : Int), .int .u64 (k : Int)] 28)).cell? ⟨w.heap.size, 0, none⟩ = some (.int .u8 (h : Int)) := by simp
  have hc1 : (w.alloc (.cells #[.int .u8 (h : Int), .int .u64 (k : Int)] 28)).cell? ⟨w.heap.size, 1, none⟩ = some (.int .u64 (k : Int)) := by simp
  have R2 : Aside (Below w.heap.size w (w.alloc (.cells #[.int .u8 (h : Int), .int .u64 (k : Int)] 28))) := (Below.refl _ _).alloc (Nat.le_refl _) _
  generalize w.alloc (.cells #[.int .u8 (h : Int), .int .u64 (k : Int)] 28) = W at *
  generalize hb : w.heap.size = b at *
  clear hh
  go_quiet ((go_at_call 44; exact quiet_eq (cy _)))
  have R3 : Aside (Below b w (W.drewN nq)) := below_drewN R2.out nq
  have hc0' : (W.drewN nq).cell? ⟨b, 0, none⟩ = some (.int .u8 (h : Int)) := hc0
  have hc1' : (W.drewN nq).cell? ⟨b, 1, none⟩ = some (.int .u64 (k : Int)) := hc1
  clear hc0 hc1 R2 cy
  generalize W.drewN nq = W2 at *
  go_wp2
  go_quiet (first | (go_at_call 44; exact quiet_eq (cz _)) | (go_at_call 10; exact quiet_eq (ca _)))
  go_wp2
  go_ret2
  exact ⟨rfl, by rw [hb]; exact below_drewN R3.out _⟩
theorem refplace_high (h k : Nat) (hh : 62 < h) (hm : wrap64 (h : Int) = (h : Int)) (w : World) : Calls Tryd.prog 21 #[SPOT h k] w fun e w' => e = .returned (.tuple #[.int .u64 0, .bool false]) ∧ Below w.heap.size w w' := by
  have hd : decide ((62 : Int) < (h : Int)) = true := by simp; omega
  go_enter Tryd.func21, Tryd.ntmps21
  go_wp2
  have hc0 : (w.alloc (.cells #[.int .u8 (h : Int), .int .u64 (k : Int)] 28)).cell? ⟨w.heap.size, 0, none⟩ = some (.int .u8 (h : Int)) := by simp
  have R2 : Aside (Below w.heap.size w (w.alloc (.cells #[.int .u8 (h : Int), .int .u64 (k : Int)] 28))) := (Below.refl _ _).alloc (Nat.le_refl _) _
  generalize w.alloc (.cells #[.int .u8 (h : Int), .int .u64 (k : Int)] 28) = W at *
  generalize hb : w.heap.size = b at *
  go_quiet (fail)
  go_wp2
  go_ret2
  exact ⟨rfl, by rw [hb]; exact below_drewN R2.out nq⟩
theorem refplace_wide (h k : Nat) (t y : Int) (w : World) (hh : h ≤ 62) (hm : wrap64 (h : Int) = (h : Int)) (ht : wrap64 (62 - (h : Int)) = t) (hk : decide (y ≤ (k : Int)) = true) (cy : ∀ w, Calls Tryd.prog 44 #[.int .i64 t] w fun e w' => e = .returned (.int .u64 y) ∧ w = w') :
    Calls Tryd.prog 21 #[SPOT h k] w fun e w' => e = .returned (.tuple #[.int .u64 0, .bool false]) ∧ Below w.heap.size w w' := by
  have hd : decide ((62 : Int) < (h : Int)) = false := by simp; omega
  go_enter Tryd.func21, Tryd.ntmps21
  go_wp2
  have hc0 : (w.alloc (.cells #[.int .u8 (h : Int), .int .u64 (k : Int)] 28)).cell? ⟨w.heap.size, 0, none⟩ = some (.int .u8 (h : Int)) := by simp
  have hc1 : (w.alloc (.cells #[.int .u8 (h : Int), .int .u64 (k : Int)] 28)).cell? ⟨w.heap.size, 1, none⟩ = some (.int .u64 (k : Int)) := by simp
  have R2 : Aside (Below w.heap.size w (w.alloc (.cells #[.int .u8 (h : Int), .int .u64 (k : Int)] 28))) := (Below.refl _ _).alloc (Nat.le_refl _) _
  generalize w.alloc (.cells #[.int .u8 (h : Int), .int .u64 (k : Int)] 28) = W at *
  generalize hb : w.heap.size = b at *
  clear hh
  go_quiet ((go_at_call 44; exact quiet_eq (cy _)))
  go_wp2
  go_ret2
  exact ⟨rfl, by rw [hb]; exact below_drewN R2.out nq⟩
theorem refparent_raw (p : Int) (h h1 k m : Nat) (r : Int) (w : World) (hh : ((h : Int) == 62) = false) (e1 : ((h : Int) + 1) % 256 = (h1 : Int)) (e2 : (k : Int) / 2 = (m : Int)) (e3 : IntKind.u64.wrap (m : Int) = (m : Int)) (cs : RefAt p h k true)
    (cp : ∀ w, Calls Tryd.prog 21 #[SPOT h1 m] w fun e w' => e = .returned (.tuple #[.int .u64 r, .bool true]) ∧ Below w.heap.size w w') :
    Calls Tryd.prog 23 #[.int .u64 p] w fun e w' => e = .returned (.tuple #[.int .u64 r, .bool true]) ∧ Below w.heap.size w w' := by
  have cs := cs w
  go_enter Tryd.func23, Tryd.ntmps23
  go_wp2_with fail
  refine cs.mono ?_
  rintro e w1 ⟨rfl, hb⟩
  clear cs
  have R : Aside (Below w.heap.size w w1) := hb
  clear hb
  go_wp2_with fail
  refine (cp _).mono ?_
  rintro e w2 ⟨rfl, hb2⟩
  have R2 : Aside (Below w.heap.size w w2) := (R.out.alloc R.out.size _).trans (hb2.mono (by have := R.out.size; simp; omega))
  clear cp hb2 R
  go_wp2
  go_ret2
  exact ⟨rfl, R2.out⟩
theorem refsibling_left (p : Int) (h k k1 : Nat) (r : Int) (w : World) (hh : ((h : Int) == 62) = false) (e1 : IntKind.u64.wrap ((k : Int) + 1) = (k1 : Int)) (ha : ((k : Int) % 2 == 1) = false) (cs : RefAt p h k true)
    (cp : ∀ w, Calls Tryd.prog 21 #[SPOT h k1] w fun e w' => e = .returned (.tuple #[.int .u64 r, .bool true]) ∧ Below w.heap.size w w') :
    Calls Tryd.prog 25 #[.int .u64 p] w fun e w' => e = .returned (.tuple #[.int .u64 r, .bool true]) ∧ Below w.heap.size w w' := by
  have cs := cs w
  go_enter Tryd.func25, Tryd.ntmps25
  go_wp2_with fail
  refine cs.mono ?_
  rintro e w1 ⟨rfl, hb⟩
  clear cs
  have R : Aside (Below w.heap.size w w1) := hb
  clear hb
  go_wp2_with fail
  refine (cp _).mono ?_
  rintro e w2 ⟨rfl, hb2⟩
  have R2 : Aside (Below w.heap.size w w2) := (R.out.alloc R.out.size _).trans (hb2.mono (by have := R.out.size; simp; omega))
  clear cp hb2 R
  go_wp2
  go_ret2
  exact ⟨rfl, R2.out⟩
theorem refsibling_right (p : Int) (h k k1 : Nat) (r : Int) (w : World) (hh : ((h : Int) == 62) = false) (e1 : IntKind.u64.wrap ((k : Int) - 1) = (k1 : Int)) (ha : ((k : Int) % 2 == 1) = true) (cs : RefAt p h k true)
    (cp : ∀ w, Calls Tryd.prog 21 #[SPOT h k1] w fun e w' => e = .returned (.tuple #[.int .u64 r, .bool true]) ∧ Below w.heap.size w w') :
    Calls Tryd.prog 25 #[.int .u64 p] w fun e w' => e = .returned (.tuple #[.int .u64 r, .bool true]) ∧ Below w.heap.size w w' := by
  have cs := cs w
  go_enter Tryd.func25, Tryd.ntmps25
  go_wp2_with fail
  refine cs.mono ?_
  rintro e w1 ⟨rfl, hb⟩
  clear cs
  have R : Aside (Below w.heap.size w w1) := hb
  clear hb
  go_wp2_with fail
  refine (cp _).mono ?_
  rintro e w2 ⟨rfl, hb2⟩
  have R2 : Aside (Below w.heap.size w w2) := (R.out.alloc R.out.size _).trans (hb2.mono (by have := R.out.size; simp; omega))
  clear cp hb2 R
  go_wp2
  go_ret2
  exact ⟨rfl, R2.out⟩
theorem refkids_raw (p : Int) (h h1 k m n : Nat) (r s : Int) (w : World) (hh : ((h : Int) == 0) = false) (e1 : ((h : Int) - 1) % 256 = (h1 : Int)) (e2 : IntKind.u64.wrap (2 * (k : Int)) = (m : Int)) (e3 : IntKind.u64.wrap ((m : Int) + 1) = (n : Int)) (cs : RefAt p h k true)
    (cp : ∀ w, Calls Tryd.prog 21 #[SPOT h1 m] w fun e w' => e = .returned (.tuple #[.int .u64 r, .bool true]) ∧ Below w.heap.size w w')
    (cq : ∀ w, Calls Tryd.prog 21 #[SPOT h1 n] w fun e w' => e = .returned (.tuple #[.int .u64 s, .bool true]) ∧ Below w.heap.size w w') :
    Calls Tryd.prog 27 #[.int .u64 p] w fun e w' => e = .returned (.tuple #[.int .u64 r, .int .u64 s, .bool true]) ∧ Below w.heap.size w w' := by
  have cs := cs w
  go_enter Tryd.func27, Tryd.ntmps27
  go_wp2_with fail
  refine cs.mono ?_
  rintro e w1 ⟨rfl, hb⟩
  clear cs
  have R : Aside (Below w.heap.size w w1) := hb
  clear hb
  go_wp2_with fail
  refine (cp _).mono ?_
  rintro e w2 ⟨rfl, hb2⟩
  have hc0 : w2.cell? ⟨w1.heap.size, 0, none⟩ = some (.int .u8 (h : Int)) := (hb2.cell (p := ⟨w1.heap.size, 0, none⟩) (by simp)).trans (by simp)
  have hc1 : w2.cell? ⟨w1.heap.size, 1, none⟩ = some (.int .u64 (k : Int)) := (hb2.cell (p := ⟨w1.heap.size, 1, none⟩) (by simp)).trans (by simp)
  have R2 : Aside (Below w.heap.size w w2) := (R.out.alloc R.out.size _).trans (hb2.mono (by have := R.out.size; simp; omega))
  clear cp hb2 R
  go_wp2_with fail
  refine (cq _).mono ?_
  rintro e w3 ⟨rfl, hb3⟩
  have R3 : Aside (Below w.heap.size w w3) := R2.out.trans (hb3.mono R2.out.size)
  clear cq hb3 R2
  go_wp2
  go_ret3
  exact ⟨rfl, R3.out⟩
theorem refleaf_ok (n : Nat) (hn : n < 4611686018427387904) (w : World) : Calls Tryd.prog 15 #[.int .u64 (n : Int)] w fun e w' => e = .returned (.tuple #[.int .u64 ((NODES n : Nat) : Int), .bool true]) ∧ w = w' := by
  have c1 := refnodes_ok n (by omega)
  have hd : ¬ (4611686018427387904 : Int) ≤ (n : Int) := by omega
  clear hn
  generalize ((NODES n : Nat) : Int) = r at *
  go_enter Tryd.func15, Tryd.ntmps15
  go_wp2_with fail
  refine (c1 _).mono ?_
  rintro e w' ⟨rfl, rfl⟩
  clear c1
  go_wp2
  go_ret2
  exact ⟨rfl, rfl⟩
theorem refleaf_not (n : Int) (hn : 4611686018427387904 ≤ n) (w : World) : Calls Tryd.prog 15 #[.int .u64 n] w fun e w' => e = .returned (.tuple #[.int .u64 0, .bool false]) ∧ w = w' := by
  go_enter Tryd.func15, Tryd.ntmps15
  go_wp2
  go_ret2
  exact ⟨rfl, rfl⟩
theorem odd_mod (k : Nat) : ((k : Int) % 2 == 1) = decide (k % 2 = 1) := by
  rw [Bool.eq_iff_iff]
  simp
  omega
theorem refplace_ok (h k : Nat) (hN : Node h k) (w : World) : Calls Tryd.prog 21 #[SPOT h k] w fun e w' => e = .returned (.tuple #[.int .u64 ((PLC h k : Nat) : Int), .bool true]) ∧ Below w.heap.size w w' := by
  have h1 := hN.1
  have h2 := hN.2
  have h3 := hN.span
  have h4 := hN.index_lt
  have h5 := hN.lt
  have h7 := PLC_last h k
  have h8 := last_lt h k
  refine refplace_raw h k ((62 - h : Nat) : Int) ((2 ^ h : Nat) : Int) ((2 ^ (62 - h) : Nat) : Int) (((k + 1) * 2 ^ h - 1 : Nat) : Int) ((NODES ((k + 1) * 2 ^ h - 1) : Nat) : Int) _ w h1 (by unfold wrap64; omega) (by rw [wrapU]; omega) (by unfold wrap64; omega) (by simp only [decide_eq_false_iff_not]; omega) (fun w => power_ok _ (by omega) w) (fun w => power_ok _ (by omega) w) (by rw [wrapU]; omega) ?_ (fun w => refnodes_ok _ (by omega) w) ?_
  · rw [show (((k : Int) + 1) * ((2 ^ h : Nat) : Int)) = (((k + 1) * 2 ^ h : Nat) : Int) by rw [Int.natCast_mul]; rfl]
    generalize (k + 1) * 2 ^ h = x at *
    rw [wrapU, wrapU]
    omega
  · rw [wrapU]
    omega
theorem refplace_not (h k : Nat) (hh : h < 256) (hN : ¬ Node h k) (w : World) : Calls Tryd.prog 21 #[SPOT h k] w fun e w' => e = .returned (.tuple #[.int .u64 0, .bool false]) ∧ Below w.heap.size w w' := by
  rcases Nat.lt_or_ge 62 h with h1 | h1
  · exact refplace_high h k h1 (by unfold wrap64; omega) w
  · have h2 : 2 ^ (62 - h) ≤ k := by
      rcases Nat.lt_or_ge k (2 ^ (62 - h)) with h3 | h3
      · exact absurd ⟨h1, h3⟩ hN
      · exact h3
    exact refplace_wide h k ((62 - h : Nat) : Int) ((2 ^ (62 - h) : Nat) : Int) w h1 (by unfold wrap64; omega) (by unfold wrap64; omega) (by simp only [decide_eq_true_eq]; omega) (fun w => power_ok _ (by omega) w)
theorem refparent_ok (h k : Nat) (hN : Node h k) (hh : h < 62) (w : World) : Calls Tryd.prog 23 #[.int .u64 ((PLC h k : Nat) : Int)] w fun e w' => e = .returned (.tuple #[.int .u64 ((PLC (h + 1) (k / 2) : Nat) : Int), .bool true]) ∧ Below w.heap.size w w' :=
  refparent_raw _ h (h + 1) k (k / 2) _ w (by simp; omega) (by omega) (by omega) (by have := hN.index_lt; rw [wrapU]; omega) (.node hN) (fun w => refplace_ok _ _ (hN.up hh) w)
theorem refsibling_ok (h k : Nat) (hN : Node h k) (hh : h < 62) (w : World) : Calls Tryd.prog 25 #[.int .u64 ((PLC h k : Nat) : Int)] w fun e w' => e = .returned (.tuple #[.int .u64 ((PLC h (SIB k) : Nat) : Int), .bool true]) ∧ Below w.heap.size w w' := by
  have hs := hN.sib hh
  have hi := hN.index_lt
  by_cases hk : k % 2 = 1
  · have e : SIB k = k - 1 := by unfold SIB; rw [if_pos hk]
    rw [e] at hs ⊢
    exact refsibling_right _ h k (k - 1) _ w (by simp; omega) (by rw [wrapU]; omega) (by rw [odd_mod, decide_eq_true hk]) (.node hN) (fun w => refplace_ok _ _ hs w)
  · have e : SIB k = k + 1 := by unfold SIB; rw [if_neg hk]
    rw [e] at hs ⊢
    exact refsibling_left _ h k (k + 1) _ w (by simp; omega) (by rw [wrapU]; omega) (by rw [odd_mod, decide_eq_false hk]) (.node hN) (fun w => refplace_ok _ _ hs w)
theorem refkids_ok (h k : Nat) (hN : Node (h + 1) k) (w : World) : Calls Tryd.prog 27 #[.int .u64 ((PLC (h + 1) k : Nat) : Int)] w fun e w' => e = .returned (.tuple #[.int .u64 ((PLC h (2 * k) : Nat) : Int), .int .u64 ((PLC h (2 * k + 1) : Nat) : Int), .bool true]) ∧ Below w.heap.size w w' := by
  have h1 := hN.1
  have h2 := hN.kid
  have h3 := h2.2.index_lt
  exact refkids_raw _ (h + 1) h k (2 * k) (2 * k + 1) _ _ w (by simp; omega) (by omega) (by rw [wrapU]; omega) (by rw [wrapU]; omega) (.node hN) (fun w => refplace_ok _ _ h2.1 w) (fun w => refplace_ok _ _ h2.2 w)
theorem refright_ok (h k : Nat) (hN : Node h k) (w : World) : Calls Tryd.prog 29 #[.int .u64 ((PLC h k : Nat) : Int)] w fun e w' => e = .returned (.bool (decide (k % 2 = 1))) ∧ Below w.heap.size w w' :=
  refright_raw _ h k _ w (odd_mod k) (.node hN)
theorem refunder_ok (h k : Nat) (hN : Node h k) (w : World) : Calls Tryd.prog 31 #[.int .u64 ((PLC h k : Nat) : Int)] w fun e w' => e = .returned (.tuple #[.int .u64 ((k * 2 ^ h : Nat) : Int), .int .u64 (((k + 1) * 2 ^ h : Nat) : Int), .bool true]) ∧ Below w.heap.size w w' := by
  have h1 := hN.1
  have h3 := hN.span
  have h4 := hN.index_lt
  have h5 : k * 2 ^ h ≤ (k + 1) * 2 ^ h := Nat.mul_le_mul_right _ (by omega)
  refine refunder_raw _ h k ((2 ^ h : Nat) : Int) _ _ w (by unfold wrap64; omega) (by rw [wrapU]; omega) ?_ ?_ (fun w => power_ok _ (by omega) w) (.node hN)
  · rw [← Int.natCast_mul]
    generalize k * 2 ^ h = x at *
    rw [wrapU]
    omega
  · rw [show (((k : Int) + 1) * ((2 ^ h : Nat) : Int)) = (((k + 1) * 2 ^ h : Nat) : Int) by rw [Int.natCast_mul]; rfl]
    generalize (k + 1) * 2 ^ h = x at *
    rw [wrapU]
    omega
theorem refsince_ok (h k : Nat) (hN : Node h k) (w : World) : Calls Tryd.prog 33 #[.int .u64 ((PLC h k : Nat) : Int)] w fun e w' => e = .returned (.tuple #[.int .u64 (((k + 1) * 2 ^ h : Nat) : Int), .bool true]) ∧ Below w.heap.size w w' :=
  refsince_raw _ _ _ _ w (fun w => refunder_ok h k hN w)
end Go.Proofs.YtfkgbafaeljieaaDoor
