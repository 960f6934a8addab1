/- What Place answers. -/
import Derived.Test.YtddmfpiflnjmjaaDoorPosKin
namespace Go.Proofs.YtddmfpiflnjmjaaDoor
open Go.RowKit

theorem quiet_eq {P : Program} {f : FuncId} {args : Array Value} {w : World} {n : Nat} {v : Value}
    (h : Calls P f args (w.drewN n) fun e w' => e = .returned v ∧ w.drewN n = w') : Calls P f args (w.drewN n) fun e w'' => e = .returned v ∧ ∃ m, w'' = w.drewN m :=
  h.mono fun _ _ ⟨he, hm⟩ => ⟨he, n, hm.symm⟩
theorem place_high (h k : Nat) (hh : 62 < h) (w : World) : Calls Tryd.prog 46 #[SPOT h k] w fun e w' => e = .returned (.tuple #[.int .u64 0, .bool false]) ∧ Below w.heap.size w w' := by
  have hd : decide ((62 : Int) < (h : Int)) = true := by simp; omega
  go_enter Tryd.func46, Tryd.ntmps46
  go_wp2
  have hc0 : (w.alloc (.cells #[.int .u8 (h : Int), .int .u64 (k : Int)] 76)).cell? ⟨w.heap.size, 0, none⟩ = some (.int .u8 (h : Int)) := by simp
  have R2 : Aside (Below w.heap.size w (w.alloc (.cells #[.int .u8 (h : Int), .int .u64 (k : Int)] 76))) := (Below.refl _ _).alloc (Nat.le_refl _) _
  generalize w.alloc (.cells #[.int .u8 (h : Int), .int .u64 (k : Int)] 76) = W at *
  generalize hb : w.heap.size = b at *
  go_quiet (fail)
  go_wp2
  go_ret2
  exact ⟨rfl, by rw [hb]; exact below_drewN R2.out nq⟩
theorem place_wide (h k : Nat) (t m : Int) (w : World) (hh : h ≤ 62) (hm : wrap64 (h : Int) = (h : Int)) (ht : wrap64 (62 - (h : Int)) = t) (hk : decide (m < (k : Int)) = true) (cm : ∀ w, Calls Tryd.prog 80 #[.int .i64 t] w fun e w' => e = .returned (.int .u64 m) ∧ w = w') :
    Calls Tryd.prog 46 #[SPOT h k] w fun e w' => e = .returned (.tuple #[.int .u64 0, .bool false]) ∧ Below w.heap.size w w' := by
  have hd : decide ((62 : Int) < (h : Int)) = false := by simp; omega
  go_enter Tryd.func46, Tryd.ntmps46
  go_wp2
  have hc0 : (w.alloc (.cells #[.int .u8 (h : Int), .int .u64 (k : Int)] 76)).cell? ⟨w.heap.size, 0, none⟩ = some (.int .u8 (h : Int)) := by simp
  have hc1 : (w.alloc (.cells #[.int .u8 (h : Int), .int .u64 (k : Int)] 76)).cell? ⟨w.heap.size, 1, none⟩ = some (.int .u64 (k : Int)) := by simp
  have R2 : Aside (Below w.heap.size w (w.alloc (.cells #[.int .u8 (h : Int), .int .u64 (k : Int)] 76))) := (Below.refl _ _).alloc (Nat.le_refl _) _
  generalize w.alloc (.cells #[.int .u8 (h : Int), .int .u64 (k : Int)] 76) = W at *
  generalize hb : w.heap.size = b at *
  clear hh
  go_quiet ((go_at_call 80; exact quiet_eq (cm _)))
  go_wp2
  go_ret2
  exact ⟨rfl, by rw [hb]; exact below_drewN R2.out nq⟩
theorem place_raw (h k : Nat) (t m l a r : Int) (w : World) (hh : h ≤ 62) (hm : wrap64 (h : Int) = (h : Int)) (hm2 : IntKind.u64.wrap (h : Int) = (h : Int)) (ht : wrap64 (62 - (h : Int)) = t) (hk : decide (m < (k : Int)) = false) (cm : ∀ w, Calls Tryd.prog 80 #[.int .i64 t] w fun e w' => e = .returned (.int .u64 m) ∧ w = w')
    (e0 : IntKind.u64.wrap ((k : Int) + 1) = (k : Int) + 1) (e1 : IntKind.u64.wrap (IntKind.u64.wrap (((k : Int) + 1) * 2 ^ min h 64) - 1) = l) (ca : ∀ w, Calls Tryd.prog 70 #[.int .u64 l] w fun e w' => e = .returned (.int .u64 a) ∧ w = w') (e2 : IntKind.u64.wrap (a + (h : Int)) = r) :
    Calls Tryd.prog 46 #[SPOT h k] w fun e w' => e = .returned (.tuple #[.int .u64 r, .bool true]) ∧ Below w.heap.size w w' := by
  have hd : decide ((62 : Int) < (h : Int)) = false := by simp; omega
  go_enter Tryd.func46, Tryd.ntmps46
  go_wp2
  have hc0 : (w.alloc (.cells #[.int .u8 (h : Int), .int .u64 (k : Int)] 76)).cell? ⟨w.heap.size, 0, none⟩ = some (.int .u8 (h : Int)) := by simp
  have hc1 : (w.alloc (.cells #[.int .u8 (h : Int), .int .u64 (k : Int)] 76)).cell? ⟨w.heap.size, 1, none⟩ = some (.int .u64 (k : Int)) := by simp
  have R2 : Aside (Below w.heap.size w (w.alloc (.cells #[.int .u8 (h : Int), .int .u64 (k : Int)] 76))) := (Below.refl _ _).alloc (Nat.le_refl _) _
  generalize w.alloc (.cells #[.int .u8 (h : Int), .int .u64 (k : Int)] 76) = W at *
  generalize hb : w.heap.size = b at *
  clear hh
  go_quiet ((go_at_call 80; exact quiet_eq (cm _)))
  have R3 : Aside (Below b w (W.drewN nq)) := below_drewN R2.out nq
  have hc0' : (W.drewN nq).cell? ⟨b, 0, none⟩ = some (.int .u8 (h : Int)) := hc0
  have hc1' : (W.drewN nq).cell? ⟨b, 1, none⟩ = some (.int .u64 (k : Int)) := hc1
  clear hc0 hc1 R2 cm
  generalize W.drewN nq = W2 at *
  go_wp2
  go_quiet ((go_at_call 70; exact quiet_eq (ca _)))
  go_wp2
  go_ret2
  exact ⟨rfl, by rw [hb]; exact below_drewN R3.out _⟩
end Go.Proofs.YtddmfpiflnjmjaaDoor
