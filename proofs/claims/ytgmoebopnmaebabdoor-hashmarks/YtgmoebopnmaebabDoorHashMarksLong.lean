/- The law HashMarks returns true, whatever it is handed. -/
import Derived.Test.YtgmoebopnmaebabDoorHashMarksWalk
namespace Go.Proofs.YtgmoebopnmaebabDoor
open Go.RowKit
set_option maxRecDepth 100000

theorem marks_below (w : World) (a b c d : Nat → Nat) : Below w.heap.size w ((((w.alloc (.cells (UARR .u8 32 a) 24)).alloc (.cells (UARR .u8 32 b) 24)).alloc (.cells (UARR .u8 32 c) 24)).alloc (.cells (UARR .u8 32 d) 24)) :=
  ((((Below.refl _ _).alloc (Nat.le_refl _) _).alloc (by simp) _).alloc (by simp; omega) _).alloc (by simp; omega) _
theorem marks_long1 (u v : Option Addr) (p q cp cq : Nat) (a b c d : Nat → Nat) (n m : Nat) (w : World) (hp : 3000 < (p : Int)) :
    Calls Tryd.prog 5 #[.slice u p cp, .slice v q cq, .agg (UARR .u8 32 a), .agg (UARR .u8 32 b), .agg (UARR .u8 32 c), .agg (UARR .u8 32 d), .int .u64 (n : Int), .int .u64 (m : Int)] w fun e w' => e = .returned (.bool true) ∧ Below w.heap.size w w' := by
  go_enter Tryd.func5, Tryd.ntmps5
  go_wp2
  go_ret
  exact ⟨rfl, marks_below w a b c d⟩
theorem marks_long2 (u v : Option Addr) (p q cp cq : Nat) (a b c d : Nat → Nat) (n m : Nat) (w : World) (hp : ¬ 3000 < (p : Int)) (hq : 3000 < (q : Int)) :
    Calls Tryd.prog 5 #[.slice u p cp, .slice v q cq, .agg (UARR .u8 32 a), .agg (UARR .u8 32 b), .agg (UARR .u8 32 c), .agg (UARR .u8 32 d), .int .u64 (n : Int), .int .u64 (m : Int)] w fun e w' => e = .returned (.bool true) ∧ Below w.heap.size w w' := by
  go_enter Tryd.func5, Tryd.ntmps5
  go_wp2
  go_ret
  exact ⟨rfl, marks_below w a b c d⟩
theorem hashMarks_walk (u v : Option Addr) (p q cp cq : Nat) (lp lq : List Nat) (a b c d : Nat → Nat) (n m : Nat) (ha : ∀ i, a i < 256) (hb : ∀ i, b i < 256) (hc : ∀ i, c i < 256) (hd : ∀ i, d i < 256) (hn : n < 2 ^ 64) (hm : m < 2 ^ 64) (w : World) (hT : Tabled w)
    (hP : Text w u p lp) (hQ : Text w v q lq) (hu : u = none → cp = 0) (hv : v = none → cq = 0) :
    Calls Tryd.prog 5 #[.slice u p cp, .slice v q cq, .agg (UARR .u8 32 a), .agg (UARR .u8 32 b), .agg (UARR .u8 32 c), .agg (UARR .u8 32 d), .int .u64 (n : Int), .int .u64 (m : Int)] w fun e w' => e = .returned (.bool true) ∧ Below w.heap.size w w' := by
  by_cases hp : 3000 < (p : Int)
  · exact marks_long1 u v p q cp cq a b c d n m w hp
  · by_cases hq : 3000 < (q : Int)
    · exact marks_long2 u v p q cp cq a b c d n m w hp hq
    · exact marks_walk u v p q cp cq lp lq a b c d n m ha hb hc hd hn hm w hT hP hQ hu hv hp hq
end Go.Proofs.YtgmoebopnmaebabDoor
