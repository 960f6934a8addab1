/- A block that stays while a list of one's own grows. -/
import Derived.Test.YtddmfpiflnjmjaaDoorPosHas
import Derived.Test.YtddmfpiflnjmjaaDoorCutCalls
namespace Go.Proofs.YtddmfpiflnjmjaaDoor
open Go.RowKit

theorem Has.grew {w w' : World} {g : Nat} {c : Array Value} {t : TypeId} {row : Option Nat} (h : Has w g c t) (hg : w.grownBy w' row) (hne : row ≠ some g) : Has w' g c t := by
  obtain ⟨_, _, _, _, hk⟩ := hg
  exact (hk g h.lt (fun e => hne e.symm)).trans h
theorem kept_new {wr w1 : World} {c : Array Value} {t t' : TypeId} {base s n : Nat} {v : Value} {xs : List Value} {o : Obj} (hown : wr.ownsRow base t' s v n xs) (hgrow : ((wr.alloc (.cells c t)).alloc o).grownBy w1 v.ownBlock) : Has w1 wr.heap.size c t :=
  ((Has.new wr c t).alloc o).grew hgrow (fun e => by have := (hown.lt _ e).2; omega)
end Go.Proofs.YtddmfpiflnjmjaaDoor
