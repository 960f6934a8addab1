/- Texts of ClashBlocks, one behind the other: HashRefRegions, HashBlocksRegion. -/
import Derived.Deep.RegionHeld3
import Derived.Test.YtbmjoiiagldklaaDoorClashBlocksP11
import Derived.Test.YtbmjoiiagldklaaDoorClashBlocksP31
namespace Go.Proofs.YtbmjoiiagldklaaDoor.HX
open Go.RowKit Go.Shelf
set_option maxRecDepth 100000
theorem z9X (F G:Nat→Nat) (x y:Operand) (w:World):(do eqGuard .neq 26 x y (.agg (UARR .u8 32 F)) (.agg (UARR .u8 32 G));binOp .neq 26 (.agg (UARR .u8 32 F)) (.agg (UARR .u8 32 G)):Sem Value).run Tryd.prog w=.ok (.bool (!((List.range 32).all fun i=>F i == G i))) w:=by
  simp only [Sem.run_bind,run_eqGuard_agg (P:=Tryd.prog) w .neq 26 x y _ _ (by kernel_rfl),Result.andThen_ok,run_neq_struct,z1p]
theorem zea (F G:Nat→Nat) (x y:Operand) (w:World):(do eqGuard .neq 42 x y (.agg (UARR .u8 64 F)) (.agg (UARR .u8 64 G));binOp .neq 42 (.agg (UARR .u8 64 F)) (.agg (UARR .u8 64 G)):Sem Value).run Tryd.prog w=.ok (.bool (!((List.range 64).all fun i=>F i == G i))) w:=by
  simp only [Sem.run_bind,run_eqGuard_agg (P:=Tryd.prog) w .neq 42 x y _ _ (by kernel_rfl),Result.andThen_ok,run_neq_struct,z65 9998 64 42 Tryd.underlying42]
theorem z2J {ops:Array Oper} {Q:Exit→Act→World→Prop} {md:Region.Mode} {S:World→Prop} {fuel:Nat} {listed:Array Bool} {a:Act} {w:World} {o:Oper} (i:Nat) (hr:Region.ready md ops listed=[i]) (ho:ops[i]?=some o)
    (h:∀ K':Act→World→Prop,Shut (∀ a w,S w→(S w→wpAnyH Tryd.prog md ops Q S fuel (listed.setIfInBounds i true) a w)→K' a w)→if Region.wanted o (yielded ops a.tmps)=true then Oper.wp Tryd.prog o a w K' Q else K' (a.put o.dst undef) w):wpAnyH Tryd.prog md ops Q S (fuel+1) listed a w:=
  wpAnyH_ready hr (by simp) (AllReadyH.cons ho h AllReadyH.nil)
end Go.Proofs.YtbmjoiiagldklaaDoor.HX

namespace Go.Proofs.YtbmjoiiagldklaaDoor.HX
open Go.RowKit
set_option maxRecDepth 100000
theorem z9Y (F G:Nat→Nat) (x y:Operand) (w:World):(do eqGuard .eql 26 x y (.agg (UARR .u8 32 F)) (.agg (UARR .u8 32 G));binOp .eql 26 (.agg (UARR .u8 32 F)) (.agg (UARR .u8 32 G)):Sem Value).run Tryd.prog w=.ok (.bool ((List.range 32).all fun i=>F i == G i)) w:=by
  simp only [Sem.run_bind,run_eqGuard_agg (P:=Tryd.prog) w .eql 26 x y _ _ (by kernel_rfl),Result.andThen_ok,run_eql_struct,z1p]
theorem z3e {w:World} {g:Nat} {Z:Nat→Nat} (h:Has w g (UARR .u8 192 Z) 44) (o m:Nat) (hm:o+m≤192) (F:Nat→Nat) (hF:∀ i,i<m→Z (o+i)=F i):w.rangeAt g o (z09 .u8 m F):=fun j v hv=>by
  obtain ⟨hj,rfl⟩:=z1r hv
  rw [h.cell,z0f _ _ _ _ (by omega),hF j hj]
theorem z5Q {w:World} {g:Nat} {S T P R:Nat→Nat} (h:Has w g (UARR .u8 192 (z0m S T P R)) 44):w.rangeAt g 0 (z09 .u8 32 S):=z3e h 0 32 (by decide) S fun i hi=>by rw [Nat.zero_add,z0m,if_pos hi]
theorem z5R {w:World} {g:Nat} {S T P R:Nat→Nat} (h:Has w g (UARR .u8 192 (z0m S T P R)) 44):w.rangeAt g 32 (z09 .u8 32 T):=z3e h 32 32 (by decide) T fun i hi=>by rw [z0m,if_neg (by omega),if_pos (by omega),show 32+i - 32=i by omega]
theorem z7P {w:World} {g:Nat} {S T P R:Nat→Nat} (h:Has w g (UARR .u8 192 (z0m S T P R)) 44):w.rangeAt g 64 (z09 .u8 64 P):=z3e h 64 64 (by decide) P fun i hi=>by rw [z0m,if_neg (by omega),if_neg (by omega),if_pos (by omega),show 64+i - 64=i by omega]
theorem z7Q {w:World} {g:Nat} {S T P R:Nat→Nat} (h:Has w g (UARR .u8 192 (z0m S T P R)) 44):w.rangeAt g 128 (z09 .u8 64 R):=z3e h 128 64 (by decide) R fun i hi=>by rw [z0m,if_neg (by omega),if_neg (by omega),if_neg (by omega),show 128+i - 128=i by omega]
end Go.Proofs.YtbmjoiiagldklaaDoor.HX
