/- A slice of acts (a number and a text each) that lies there. -/
import Derived.Test.YtihdhaamphdljaaDoorHashTexts2
namespace Go.Proofs.YtihdhaamphdljaaDoor
open Go.RowKit
/-- an act: its number and its text. -/
structure AC where
  k : Int
  p : PART
/-- a slice of acts that lies there. -/
def Acts (w : World) (a : Option Addr) (k : Nat) (qs : List AC) : Prop :=
  qs.length = k ∧ (0 < k → ∃ b off, a = some ⟨b, off, none⟩ ∧ b < w.heap.size ∧ ∀ (i : Nat) (q : AC), qs[i]? = some q → w.cell? ⟨b, off + i * 2, none⟩ = some (.int .i64 q.k) ∧ w.cell? ⟨b, off + i * 2 + 1, none⟩ = some (.slice q.p.a q.p.n q.p.c)) ∧ ∀ q ∈ qs, Text w q.p.a q.p.n q.p.l ∧ (q.p.a = none → q.p.c = 0) ∧ q.p.n ≤ q.p.c ∧ q.p.n < 2 ^ 60
end Go.Proofs.YtihdhaamphdljaaDoor
