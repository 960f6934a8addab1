/-
  No cell of these rows narrows 'for every input' (looked for: loops, veiled, ifaces, maps, wideKeys, modest, calm, conditions, laid).
  DERIVED. THE GIVEN ROWS OF THIS SEAT. 4 by the template 'for every input the law returns true; each argument reads behind the call as it read before'; 0 by the template 'total and deterministic' (their statements: YtpbhjnceiomgoaaTotals.lean).
  GIVEN WITH THE SEED: the statements are not yours to turn. If you find one false, say at which input.
  Laid BY PROGRAM, IN A SANDBOX (cutbox-rows.mjs): the forced cells as the released guide's own fill.sh prints them over the translation 8cb5405cc9331940… (all of the seat's roots in one cut). By AI agents, Wed Nov 11 2026. No macro, syntax, notation, axiom, sorry.
-/
import Derived.Test.YtpbhjnceiomgoaaChecked
import GoSem.Claim
import GoSem.ClaimJoined
import GoSem.ClaimMapViews
import Derived.JoinedTies
import Derived.KernelRfl
namespace Go.Proofs.Ytpbhjnceiomgoaa
/- THE CELL 'sum', in the pinned program and in every row, IS THE sha256 OF THE DUMP (.gsa) THAT YtpbhjnceiomgoaaProg.lean LOADS. Nothing in Lean hashes anything: it is a label: what it is worth is what the hold of that sum in a sandbox is worth. -/
noncomputable def Try.pinned : Pinned := { name := "ytpbhjnceiomgoaa", sum := "8cb5405cc9331940c7fecad36ea349a035852f9a3f3a7b60ffe286b92ec217d2", checked := Try.checked }
namespace Rows
def none {H : Type} : Left H := { results := [], args := [] }

/-- 'massiflaw5.StoreSweeps': WHATEVER THE INPUT: true; the input reads as it did. -/
def storeSweepsSpec : ChangeSpec := { name := "storeSweeps", fn := fun _ => fun
  | [d1, d2, d3, d4] => { results := [.lit (.bool true)], args := [d1, d2, d3, d4] }
  | _ => none }
def storeSweepsRow : OpenClaim := { program := "ytpbhjnceiomgoaa", sum := "8cb5405cc9331940c7fecad36ea349a035852f9a3f3a7b60ffe286b92ec217d2", func := "massif/massiflaw5.StoreSweeps", spec := "storeSweeps", inPlace := ["slices.overlaps[massif/store.row]", "slices.overlaps[massif/api.Hash]"], unfollowed := true, recurses := true, plainKeys := false, apart := false }
def StoreSweepsSaid : Prop := storeSweepsRow.holds Try.pinned (OpenSpec.ofChange storeSweepsSpec)

/-- ITS FALSE NEIGHBOUR: 'it returns false'. Refute it at one input. -/
def storeSweepsWrong : ChangeSpec := { name := "storeSweeps", fn := fun _ => fun
  | [d1, d2, d3, d4] => { results := [.lit (.bool false)], args := [d1, d2, d3, d4] }
  | _ => none }
def StoreSweepsWrongFalsely : Prop := storeSweepsRow.holds Try.pinned (OpenSpec.ofChange storeSweepsWrong)

/-- 'massiflaw5.StoreBacks': WHATEVER THE INPUT: true; the input reads as it did. -/
def storeBacksSpec : ChangeSpec := { name := "storeBacks", fn := fun _ => fun
  | [d1, d2, d3] => { results := [.lit (.bool true)], args := [d1, d2, d3] }
  | _ => none }
def storeBacksRow : OpenClaim := { program := "ytpbhjnceiomgoaa", sum := "8cb5405cc9331940c7fecad36ea349a035852f9a3f3a7b60ffe286b92ec217d2", func := "massif/massiflaw5.StoreBacks", spec := "storeBacks", inPlace := ["slices.overlaps[massif/store.row]", "slices.overlaps[massif/api.Hash]"], unfollowed := true, recurses := true, plainKeys := false, apart := false }
def StoreBacksSaid : Prop := storeBacksRow.holds Try.pinned (OpenSpec.ofChange storeBacksSpec)

/-- ITS FALSE NEIGHBOUR: 'it returns false'. Refute it at one input. -/
def storeBacksWrong : ChangeSpec := { name := "storeBacks", fn := fun _ => fun
  | [d1, d2, d3] => { results := [.lit (.bool false)], args := [d1, d2, d3] }
  | _ => none }
def StoreBacksWrongFalsely : Prop := storeBacksRow.holds Try.pinned (OpenSpec.ofChange storeBacksWrong)

/-- 'massiflaw5.StoreCuts': WHATEVER THE INPUT: true; the input reads as it did. -/
def storeCutsSpec : ChangeSpec := { name := "storeCuts", fn := fun _ => fun
  | [d1, d2, d3, d4] => { results := [.lit (.bool true)], args := [d1, d2, d3, d4] }
  | _ => none }
def storeCutsRow : OpenClaim := { program := "ytpbhjnceiomgoaa", sum := "8cb5405cc9331940c7fecad36ea349a035852f9a3f3a7b60ffe286b92ec217d2", func := "massif/massiflaw5.StoreCuts", spec := "storeCuts", inPlace := ["slices.overlaps[massif/store.row]", "slices.overlaps[massif/api.Hash]"], unfollowed := true, recurses := true, plainKeys := false, apart := false }
def StoreCutsSaid : Prop := storeCutsRow.holds Try.pinned (OpenSpec.ofChange storeCutsSpec)

/-- ITS FALSE NEIGHBOUR: 'it returns false'. Refute it at one input. -/
def storeCutsWrong : ChangeSpec := { name := "storeCuts", fn := fun _ => fun
  | [d1, d2, d3, d4] => { results := [.lit (.bool false)], args := [d1, d2, d3, d4] }
  | _ => none }
def StoreCutsWrongFalsely : Prop := storeCutsRow.holds Try.pinned (OpenSpec.ofChange storeCutsWrong)

/-- 'massiflaw5.StorePins': WHATEVER THE INPUT: true; the input reads as it did. -/
def storePinsSpec : ChangeSpec := { name := "storePins", fn := fun _ => fun
  | [d1, d2, d3, d4] => { results := [.lit (.bool true)], args := [d1, d2, d3, d4] }
  | _ => none }
def storePinsRow : OpenClaim := { program := "ytpbhjnceiomgoaa", sum := "8cb5405cc9331940c7fecad36ea349a035852f9a3f3a7b60ffe286b92ec217d2", func := "massif/massiflaw5.StorePins", spec := "storePins", inPlace := ["slices.overlaps[massif/store.row]", "slices.overlaps[massif/api.Hash]"], unfollowed := true, recurses := true, plainKeys := false, apart := false }
def StorePinsSaid : Prop := storePinsRow.holds Try.pinned (OpenSpec.ofChange storePinsSpec)

/-- ITS FALSE NEIGHBOUR: 'it returns false'. Refute it at one input. -/
def storePinsWrong : ChangeSpec := { name := "storePins", fn := fun _ => fun
  | [d1, d2, d3, d4] => { results := [.lit (.bool false)], args := [d1, d2, d3, d4] }
  | _ => none }
def StorePinsWrongFalsely : Prop := storePinsRow.holds Try.pinned (OpenSpec.ofChange storePinsWrong)

/- THE SECOND FORM. 'bulk': how many values and letters a reading holds, each counted each time it is reached (what is shared counts as often as it is met; a slice's spare places count too). A statement '..UptoSaid' is the law's where the arguments, and the package variables that the reading takes, are together of bulk at most 1048576: NARROWER than '..Said'. Prove '..Said' where nothing that the law and all that it calls make is longer than what came in: it says more and counts as full. Else prove '..UptoSaid'. A law counts once. -/
mutual
def uptoBulk {H : Type} : DataW H → Nat
  | .lit (.string bytes) => bytes.length + 1
  | .lit _ => 1
  | .nil => 1
  | .ptr d => uptoBulk d + 1
  | .slice elems spare => uptoBulkAll elems + uptoBulkAll spare + 1
  | .agg parts => uptoBulkAll parts + 1
  | .iface _ d => uptoBulk d + 1
  | .map entries => uptoBulkEntries entries + 1
  | .held _ => 1
def uptoBulkAll {H : Type} : List (DataW H) → Nat
  | [] => 0
  | d :: r => uptoBulk d + uptoBulkAll r
def uptoBulkEntries {H : Type} : List (Lit × DataW H) → Nat
  | [] => 0
  | x :: r => uptoBulkEntry x + uptoBulkEntries r
def uptoBulkEntry {H : Type} : Lit × DataW H → Nat
  | (.string bytes, d) => bytes.length + uptoBulk d + 1
  | (_, d) => uptoBulk d + 1
 end
def uptoSmall : (H : Type) → List (DataW H) → Bool := fun _ ds => decide (uptoBulkAll ds ≤ 1048576)
def OpenSpec.upto (s : _root_.Go.ChangeSpec) : _root_.Go.OpenSpec := { _root_.Go.OpenSpec.ofChange s with cond := some uptoSmall }

/-- 'massiflaw5.StoreSweeps', WHERE WHAT IT READS IS OF BULK AT MOST 1048576: true; the input reads as it did. -/
def storeSweepsUptoRow : OpenClaim := { program := "ytpbhjnceiomgoaa", sum := "8cb5405cc9331940c7fecad36ea349a035852f9a3f3a7b60ffe286b92ec217d2", func := "massif/massiflaw5.StoreSweeps", spec := "storeSweeps", inPlace := ["slices.overlaps[massif/store.row]", "slices.overlaps[massif/api.Hash]"], unfollowed := true, recurses := true, plainKeys := false, apart := false, narrowed := true }
def StoreSweepsUptoSaid : Prop := storeSweepsUptoRow.holds Try.pinned (OpenSpec.upto storeSweepsSpec)

/-- 'massiflaw5.StoreBacks', WHERE WHAT IT READS IS OF BULK AT MOST 1048576: true; the input reads as it did. -/
def storeBacksUptoRow : OpenClaim := { program := "ytpbhjnceiomgoaa", sum := "8cb5405cc9331940c7fecad36ea349a035852f9a3f3a7b60ffe286b92ec217d2", func := "massif/massiflaw5.StoreBacks", spec := "storeBacks", inPlace := ["slices.overlaps[massif/store.row]", "slices.overlaps[massif/api.Hash]"], unfollowed := true, recurses := true, plainKeys := false, apart := false, narrowed := true }
def StoreBacksUptoSaid : Prop := storeBacksUptoRow.holds Try.pinned (OpenSpec.upto storeBacksSpec)

/-- 'massiflaw5.StoreCuts', WHERE WHAT IT READS IS OF BULK AT MOST 1048576: true; the input reads as it did. -/
def storeCutsUptoRow : OpenClaim := { program := "ytpbhjnceiomgoaa", sum := "8cb5405cc9331940c7fecad36ea349a035852f9a3f3a7b60ffe286b92ec217d2", func := "massif/massiflaw5.StoreCuts", spec := "storeCuts", inPlace := ["slices.overlaps[massif/store.row]", "slices.overlaps[massif/api.Hash]"], unfollowed := true, recurses := true, plainKeys := false, apart := false, narrowed := true }
def StoreCutsUptoSaid : Prop := storeCutsUptoRow.holds Try.pinned (OpenSpec.upto storeCutsSpec)

/-- 'massiflaw5.StorePins', WHERE WHAT IT READS IS OF BULK AT MOST 1048576: true; the input reads as it did. -/
def storePinsUptoRow : OpenClaim := { program := "ytpbhjnceiomgoaa", sum := "8cb5405cc9331940c7fecad36ea349a035852f9a3f3a7b60ffe286b92ec217d2", func := "massif/massiflaw5.StorePins", spec := "storePins", inPlace := ["slices.overlaps[massif/store.row]", "slices.overlaps[massif/api.Hash]"], unfollowed := true, recurses := true, plainKeys := false, apart := false, narrowed := true }
def StorePinsUptoSaid : Prop := storePinsUptoRow.holds Try.pinned (OpenSpec.upto storePinsSpec)

end Rows
end Go.Proofs.Ytpbhjnceiomgoaa
