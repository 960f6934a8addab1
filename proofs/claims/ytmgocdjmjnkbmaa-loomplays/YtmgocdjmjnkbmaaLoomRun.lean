/- A law's run by picks. -/
import Derived.Test.YtmgocdjmjnkbmaaLoomHold
namespace Go.Proofs.Ytmgocdjmjnkbmaa
open Go.RowKit

/-- a law's run by picks, behind t moves. -/
structure RUN (w0 : World) (g n jobs room : Nat) (t : Nat) (bb : Bool) (s : LM) (w : World) : Prop where
  hold : HOLD w0 g s w
  W : s.W = n
  jobs : s.jobs = jobs
  room : s.room = room
  made : s.made = t
  canc : s.canc = bb
  nq : bb = false → NQ s
theorem rem_range (x : Int) (L : Nat) (h : 0 < L) : -(L : Int) < x.tmod (L : Int) ∧ x.tmod (L : Int) < (L : Int) := by
  have h1 := Int.natAbs_tmod x (L : Int)
  have h2 : x.natAbs % (L : Int).natAbs < L := by rw [Int.natAbs_natCast]; exact Nat.mod_lt _ h
  omega
end Go.Proofs.Ytmgocdjmjnkbmaa
