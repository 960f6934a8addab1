/- Texts of ClashPeaks, one behind the other: ClashAwake, MmrPlain, StoreCalls, StoreSearch, StoreFind, StoreMap, StoreRegions, StorePlain, StoreGet, StoreStore, StoreInsert, StorePutRegions, StorePut, StorePutNew, StorePutPlain, StorePutOk, StorePutCall, StoreSputRegions, StoreSputPlain, StoreSputTurn, StoreSput, StoreSputFirst, StorePush, StoreSame, StoreTree, MmrAppendRegions, MmrRefBagRegion, MmrFoldRegion, MmrCalls, MmrBag, MmrTree, StoreHashList, MmrPeaks, MmrOldCalls, MmrBagAny. -/
import Derived.Deep.RegionHeld3
import Derived.Maps.OwnSet
import Derived.DeepKeys4
import Derived.Deep.MidRow
import Derived.Deep.Cut
import Derived.Deep.AppendLies
import Derived.Great.BuildSlice
import Derived.Test.YtbmjoiiagldklaaDoorClashPeaksP2
import Derived.Test.YtbmjoiiagldklaaDoorClashPeaksP4
import Derived.Test.YtbmjoiiagldklaaDoorClashPeaksP10
import Derived.Test.YtbmjoiiagldklaaDoorClashPeaksP13
import Derived.Test.YtbmjoiiagldklaaDoorClashPeaksP14
import Derived.Test.YtbmjoiiagldklaaDoorClashPeaksP25
import Derived.Test.YtbmjoiiagldklaaDoorClashPeaksP30
/- massiflaw9's awake answers true. -/
namespace Go.Proofs.YtbmjoiiagldklaaDoor.HX
open Go.RowKit
set_option maxRecDepth 100000

theorem one_text (w : World) (x : Nat) (hx : x < 256) : Text (w.alloc (.cells #[.int .u8 x] 5)) (some ⟨w.heap.size, 0, none⟩) 1 [x] := by
  refine ⟨rfl, fun _ => ⟨w.heap.size, 0, rfl, by simp, fun i hi => ?_⟩, fun y hy => by simp at hy; omega⟩
  obtain rfl : i = 0 := by omega
  rw [World.cell?_alloc_at _ _ _ _ rfl]
  rfl
theorem three_text (w : World) (x y z : Nat) (hx : x < 256) (hy : y < 256) (hz : z < 256) : Text (w.alloc (.cells #[.int .u8 x, .int .u8 y, .int .u8 z] 5)) (some ⟨w.heap.size, 0, none⟩) 3 [x, y, z] := by
  refine ⟨rfl, fun _ => ⟨w.heap.size, 0, rfl, by simp, fun i hi => ?_⟩, fun u hu => by simp at hu; omega⟩
  rw [World.cell?_alloc_at _ _ _ _ rfl]
  have e : i = 0 ∨ i = 1 ∨ i = 2 := by omega
  rcases e with rfl | rfl | rfl <;> rfl
theorem twin_facts (i : Nat) (L : List Nat) (h1 : i = 1142 → L = [118, 4, 1]) (h2 : L ≠ [0]) : (((List.range 32).all fun i => HASHOF 1 L i == HASHOF 1 [0] i) = true → HOLDS 1 [0] L = true) ∧ (i = 1142 → ((List.range 32).all fun i => HASHOF 1 L i == HASHOF 1 [0] i) = true) := by
  refine ⟨fun h => ?_, fun h => ?_⟩
  · rw [HOLDS_ne 1 (fun e => h2 e.symm), List.all_eq_true]
    intro j hj
    have := List.all_eq_true.1 h j hj
    simp only [beq_iff_eq] at this ⊢
    exact this.symm
  · rw [h1 h]
    exact twin_hash
theorem some_hash (d : Int) (l : List Nat) : ∃ F : Nat → Nat, HASHOF d l = F := ⟨_, rfl⟩
theorem twin_answer (i : Nat) (L : List Nat) (h1 : i = 1142 → L = [118, 4, 1]) (h2 : L ≠ [0]) (F1 F2 : Nat → Nat) (e1 : HASHOF 1 L = F1) (e2 : HASHOF 1 [0] = F2) : ∃ r : Bool, (∀ w, (Op.equalIn 10000 26 (.agg (UARR .u8 32 F1)) (.agg (UARR .u8 32 F2))).run Tryd.prog w = .ok r w) ∧ Aside ((r = true → HOLDS 1 [0] L = true) ∧ (i = 1142 → r = true)) := by
  subst e1 e2
  exact ⟨_, fun w => equal_hash _ _ w, twin_facts i L h1 h2⟩
set_option maxHeartbeats 4000000 in
theorem awake9_ok (w : World) (hT : Tabled w) : Calls Tryd.prog 11 #[] w fun e w' => e = .returned (.bool true) ∧ Below w.heap.size w w' := by
  have t1 : Text (w.alloc (.cells #[.int .u8 0] 5)) (some ⟨w.heap.size, 0, none⟩) 1 [0] := one_text w 0 (by decide)
  have b1 : Below w.heap.size w (w.alloc (.cells #[.int .u8 0] 5)) := (Below.refl _ _).alloc (Nat.le_refl _) _
  have t2 : Text ((w.alloc (.cells #[.int .u8 0] 5)).alloc (.cells #[.int .u8 0] 5)) (some ⟨w.heap.size, 0, none⟩) 1 [0] := t1.below ((Below.refl _ _).alloc (Nat.le_refl _) _)
  have t3 : Text ((w.alloc (.cells #[.int .u8 0] 5)).alloc (.cells #[.int .u8 0] 5)) (some ⟨w.heap.size + 1, 0, none⟩) 1 [0] := by
    have h := one_text (w.alloc (.cells #[.int .u8 0] 5)) 0 (by decide)
    rw [show (w.alloc (.cells #[.int .u8 0] 5)).heap.size = w.heap.size + 1 by simp] at h
    exact h
  have b2 : Below w.heap.size w ((w.alloc (.cells #[.int .u8 0] 5)).alloc (.cells #[.int .u8 0] 5)) := b1.alloc b1.size _
  have hsz : ((w.alloc (.cells #[.int .u8 0] 5)).alloc (.cells #[.int .u8 0] 5)).heap.size = w.heap.size + 2 := by simp
  have c1 := holds9_ok 1 (some ⟨w.heap.size, 0, none⟩) 1 1 [0] (some ⟨w.heap.size + 1, 0, none⟩) 1 1 [0] _ t2 (by decide) (fun x hx => by cases hx; rw [hsz]; simp) (by decide) t3 (by decide) (fun x hx => by cases hx; rw [hsz]; simp) (by decide) (hT.below b2)
  have z0 := HOLDS_eq 1 [0]
  generalize HOLDS 1 [0] [0] = z at *
  subst z0
  have R : Aside (Tabled w ∧ Text ((w.alloc (.cells #[.int .u8 0] 5)).alloc (.cells #[.int .u8 0] 5)) (some ⟨w.heap.size, 0, none⟩) 1 [0] ∧ Below w.heap.size w ((w.alloc (.cells #[.int .u8 0] 5)).alloc (.cells #[.int .u8 0] 5)) ∧ ((w.alloc (.cells #[.int .u8 0] 5)).alloc (.cells #[.int .u8 0] 5)).heap.size = w.heap.size + 2) := ⟨hT, t2, b2, hsz⟩
  clear t1 b1 t2 t3 b2 hsz hT
  obtain ⟨F2, hF2⟩ := some_hash 1 [0]
  go_enter Tryd.func11, Tryd.ntmps11
  go_wp2_with fail
  refine c1.mono ?_
  rintro e w1 ⟨rfl, hb1⟩
  clear c1
  have S : Aside (Tabled w ∧ Text w1 (some ⟨w.heap.size, 0, none⟩) 1 [0] ∧ Below w.heap.size w w1 ∧ w.heap.size < w1.heap.size) := ⟨R.out.1, R.out.2.1.below hb1, R.out.2.2.1.trans (hb1.mono R.out.2.2.1.size), by have := hb1.size; have := R.out.2.2.2; omega⟩
  clear R hb1
  go_wp2_with fail
  obtain ⟨N0, hN0⟩ : ∃ N0 : Nat, N0 = 1141 := ⟨_, rfl⟩
  go_loopg [2, 3] N0 (fun r s2 s3 wx => ∃ i : Nat, i + r = 1142 ∧ 1 ≤ i ∧ s3 = .int .i64 i ∧ Aside (Below w1.heap.size w1 wx))
  case atStart => exact ⟨1, by omega, by omega, rfl, Below.refl _ _⟩
  case round =>
    obtain ⟨i, hir, hi1, rfl, A⟩ := hrel
    have hlt : (i : Int) < 100000 := by omega
    have e1 : ((i % 256 : Nat) : Int) = (i : Int) % 256 := by omega
    have e2 : ((i / 256 : Nat) : Int) = (i : Int) / 256 := by omega
    have tx := three_text wr (i % 256) (i / 256) 1 (by omega) (by omega) (by decide)
    rw [e1, e2] at tx
    have bx : Below wr.heap.size wr (wr.alloc (.cells #[.int .u8 ((i : Int) % 256), .int .u8 ((i : Int) / 256), .int .u8 ((1 : Nat) : Int)] 5)) := (Below.refl _ _).alloc (Nat.le_refl _) _
    have sx : (wr.alloc (.cells #[.int .u8 ((i : Int) % 256), .int .u8 ((i : Int) / 256), .int .u8 ((1 : Nat) : Int)] 5)).heap.size = wr.heap.size + 1 := by simp
    have hq1 : i = 1142 → [i % 256, i / 256, 1] = [118, 4, 1] := fun h => by subst h; rfl
    have Sw : Aside (Below w.heap.size w wr ∧ w.heap.size < wr.heap.size) := ⟨S.out.2.2.1.trans (A.out.mono S.out.2.2.1.size), Nat.lt_of_lt_of_le S.out.2.2.2 A.out.size⟩
    have HL : Aside ((i = 1142 → [i % 256, i / 256, 1] = [118, 4, 1]) ∧ [i % 256, i / 256, 1] ≠ [0]) := ⟨hq1, by simp⟩
    generalize [i % 256, i / 256, 1] = L at *
    have ca := sum9 1 ((wr.alloc (.cells #[.int .u8 ((i : Int) % 256), .int .u8 ((i : Int) / 256), .int .u8 ((1 : Nat) : Int)] 5)).alloc (.cells #[.slice (some ⟨wr.heap.size, 0, none⟩) 3 3] 30)) (wr.heap.size + 1) (some ⟨wr.heap.size, 0, none⟩) 3 3 L (Has.at _ _ _ sx.symm) (tx.below ((Below.refl _ _).alloc (Nat.le_refl _) _)) (by decide) (fun x hx => by cases hx; simp; omega) (by decide) (S.out.1.below ((Sw.out.1.trans (bx.mono Sw.out.1.size)).alloc (by rw [sx]; have := Sw.out.2; omega) _))
    obtain ⟨F1, hF1⟩ := some_hash 1 L
    rw [hF1] at ca
    obtain ⟨wa, hwa⟩ : ∃ wa, (wr.alloc (.cells #[.int .u8 ((i : Int) % 256), .int .u8 ((i : Int) / 256), .int .u8 ((1 : Nat) : Int)] 5)).alloc (.cells #[.slice (some ⟨wr.heap.size, 0, none⟩) 3 3] 30) = wa := ⟨_, rfl⟩
    have ba : Below w.heap.size w wa := by rw [← hwa]; exact (Sw.out.1.trans (bx.mono Sw.out.1.size)).alloc (by rw [sx]; have := Sw.out.2; omega) _
    have br : Below wr.heap.size wr wa := by rw [← hwa]; exact bx.alloc (by rw [sx]; omega) _
    have ta : Text wa (some ⟨wr.heap.size, 0, none⟩) 3 L := by rw [← hwa]; exact tx.below ((Below.refl _ _).alloc (Nat.le_refl _) _)
    have ga : wr.heap.size < wa.heap.size := by rw [← hwa]; simp; omega
    clear tx bx sx hq1
    go_wp2_with fail
    rw [show (Value.int IntKind.u8 1) = .int .u8 ((1 : Nat) : Int) from rfl]
    rw [hwa] at ca ⊢
    refine ca.mono ?_
    rintro e w2 ⟨rfl, hb2⟩
    clear ca hwa
    have b2 : Below w.heap.size w w2 := ba.trans (hb2.mono ba.size)
    have cb := sum9 1 (w2.alloc (.cells #[.slice (some ⟨w.heap.size, 0, none⟩) 1 1] 30)) w2.heap.size (some ⟨w.heap.size, 0, none⟩) 1 1 [0] (Has.new _ _ _) ((((S.out.2.1.below A.out).below br).below hb2).below ((Below.refl _ _).alloc (Nat.le_refl _) _)) (by decide) (fun x hx => by cases hx; simp; have := Sw.out.2; have := hb2.size; omega) (by decide) (S.out.1.below (b2.alloc b2.size _))
    rw [hF2] at cb
    have M : Aside (Below w.heap.size w w2 ∧ Text w2 (some ⟨wr.heap.size, 0, none⟩) 3 L ∧ wr.heap.size < w2.heap.size ∧ Text w2 (some ⟨w.heap.size, 0, none⟩) 1 [0] ∧ Below wr.heap.size wr w2) := ⟨b2, ta.below hb2, Nat.lt_of_lt_of_le ga hb2.size, ((S.out.2.1.below A.out).below br).below hb2, br.trans (hb2.mono br.size)⟩
    clear ba br ta ga hb2 b2
    go_wp2_with fail
    refine cb.mono ?_
    rintro e w3 ⟨rfl, hb3⟩
    clear cb
    have M3 : Aside (Below w.heap.size w w3 ∧ Text w3 (some ⟨wr.heap.size, 0, none⟩) 3 L ∧ wr.heap.size < w3.heap.size ∧ Text w3 (some ⟨w.heap.size, 0, none⟩) 1 [0] ∧ Below wr.heap.size wr w3) := by
      have hbb : Below w2.heap.size w2 w3 := ((Below.refl _ _).alloc (Nat.le_refl _) _).trans (hb3.mono (by simp))
      obtain ⟨m1, m2, m3, m4, m5⟩ := M.out
      exact ⟨m1.trans (hbb.mono m1.size), m2.below hbb, Nat.lt_of_lt_of_le m3 hbb.size, m4.below hbb, m5.trans (hbb.mono m5.size)⟩
    clear M hb3
    obtain ⟨r, hq, HH⟩ := twin_answer i L HL.out.1 HL.out.2 F1 F2 hF1 hF2
    clear hF1
    cases r with
    | true =>
      have ch := holds9_ok 1 (some ⟨w.heap.size, 0, none⟩) 1 1 [0] (some ⟨wr.heap.size, 0, none⟩) 3 3 L w3 M3.out.2.2.2.1 (by decide) (fun x hx => by cases hx; have := Sw.out.2; have := M3.out.2.2.1; show w.heap.size < _; omega) (by decide) M3.out.2.1 (by decide) (fun x hx => by cases hx; exact M3.out.2.2.1) (by decide) (S.out.1.below M3.out.1)
      rw [HH.out.1 rfl] at ch
      clear HH
      go_wp2_with fail
      refine ch.mono ?_
      rintro e w4 ⟨rfl, hb4⟩
      clear ch
      have N : Aside (Below w.heap.size w w4) := M3.out.1.trans (hb4.mono M3.out.1.size)
      clear hb4
      go_wp2
      go_ret
      exact ⟨rfl, N.out⟩
    | false =>
      have hne : i ≠ 1142 := fun h => by have := HH.out.2 h; cases this
      have e3 : wrap64 ((i : Int) + 1) = ((i + 1 : Nat) : Int) := by unfold wrap64; omega
      have B : Aside (Below w1.heap.size w1 w3) := A.out.trans (M3.out.2.2.2.2.mono A.out.size)
      obtain ⟨gk', rfl⟩ : ∃ g, gk = g + 1 := ⟨gk - 1, by omega⟩
      clear HH
      go_wp2
      go_roundg gk'
      case measure => omega
      exact ⟨i + 1, by omega, by omega, rfl, B.out⟩
end Go.Proofs.YtbmjoiiagldklaaDoor.HX

/- The hashes of a forest's nodes, and which an append makes. -/
namespace Go.Proofs.YtbmjoiiagldklaaDoor.HX
open Go.RowKit
set_option maxRecDepth 100000

/-- the hash over two. -/
def NODEF (d : Int) (l r : Nat → Nat) : Nat → Nat := HX.HASHOF d (1 :: ((List.range 32).map l ++ (List.range 32).map r))
/-- the hash of the k-th node of height h over the leaves f. -/
def VAL (d : Int) (f : Nat → Nat → Nat) : Nat → Nat → Nat → Nat
  | 0, k => f k
  | h + 1, k => NODEF d (VAL d f h (2 * k)) (VAL d f h (2 * k + 1))
/-- the first j bits of n are set. -/
def ONES (n j : Nat) : Prop := ∀ i, i < j → n / 2 ^ i % 2 = 1
theorem ONES.next {n j : Nat} (h : ONES n j) (hj : n / 2 ^ j % 2 = 1) : ONES n (j + 1) := fun i hi => by
  by_cases e : i = j
  · subst e; exact hj
  · exact h i (by omega)
theorem half_pow (n j : Nat) : n / 2 ^ (j + 1) = n / 2 ^ j / 2 := by rw [Nat.pow_succ, Nat.div_div_eq_div_mul]
/-- all that lies under it are the leaves up to n. -/
theorem ONES.span {n : Nat} : ∀ {j : Nat}, ONES n j → (n / 2 ^ j + 1) * 2 ^ j = n + 1
  | 0, _ => by simp
  | j + 1, h => by
    have h1 := h j (by omega)
    have ih := ONES.span (n := n) (j := j) fun i hi => h i (by omega)
    have e : n / 2 ^ j = 2 * (n / 2 ^ (j + 1)) + 1 := by rw [half_pow]; omega
    rw [← ih, e]
    generalize n / 2 ^ (j + 1) = q
    rw [Nat.pow_succ, show 2 * q + 1 + 1 = (q + 1) * 2 by omega, Nat.mul_assoc, Nat.mul_comm (2 ^ j) 2]
theorem ONES.lt {n t : Nat} (h : ONES n t) : t ≤ n := by
  have h1 := h.span
  have h2 : t < 2 ^ t := Nat.lt_two_pow_self
  have h3 : 1 * 2 ^ t ≤ (n / 2 ^ t + 1) * 2 ^ t := Nat.mul_le_mul_right _ (Nat.le_add_left 1 _)
  generalize n / 2 ^ t = q at *
  omega
end Go.Proofs.YtbmjoiiagldklaaDoor.HX

/- What the small functions under package store answer: cmp.Compare, rowOf, bitOf, New, the comparison of a row. -/
namespace Go.Proofs.YtbmjoiiagldklaaDoor.HX
open Go.RowKit

end Go.Proofs.YtbmjoiiagldklaaDoor.HX

/- What slices.BinarySearchFunc answers of rising rows. -/
namespace Go.Proofs.YtbmjoiiagldklaaDoor.HX
open Go.RowKit

/-- a row as it lies in memory: its number, its bits, the slice of its hashes. -/
structure RW where
  num : Nat
  live : Nat
  a : Option Addr
  n : Nat
  c : Nat
end Go.Proofs.YtbmjoiiagldklaaDoor.HX

/- chunkOf, rank, chunk.find. -/
namespace Go.Proofs.YtbmjoiiagldklaaDoor.HX
open Go.RowKit

end Go.Proofs.YtbmjoiiagldklaaDoor.HX

/- The map from keys to chunks: which block the chunk of a number is in. -/
namespace Go.Proofs.YtbmjoiiagldklaaDoor.HX
open Go.RowKit Go.Maps
set_option maxRecDepth 100000

theorem laidOutP : laidOutB Tryd.prog = true := by kernel_rfl
/-- what a key reads as. -/
def KK (k : Nat) : Lit := .string (keyBytes [.int .u64 (k : Int)])
end Go.Proofs.YtbmjoiiagldklaaDoor.HX

/- The regions of package store that draw their order. -/
namespace Go.Proofs.YtbmjoiiagldklaaDoor.HX
open Go.RowKit
set_option maxRecDepth 100000

theorem run_value {s : Sem Value} {w w' : World} {v : Value} (h : s.run Tryd.prog w = .ok v w') : (do pure (Next.value (← s)) : Sem Next).run Tryd.prog w = .ok (.value v) w' := by
  simp [h]
theorem run_skip {s : Sem Unit} {w w' : World} (h : s.run Tryd.prog w = .ok () w') : (do s; pure Next.skip : Sem Next).run Tryd.prog w = .ok .skip w' := by
  simp [h]
theorem step_skip {ops : Array Oper} {o : Oper} {a : Act} {w w' : World} {K : Act → World → Prop} {Q : Exit → Act → World → Prop} {E : Prop} (hg : o.guard = none)
    (hrun : (execOp a.eval o).run Tryd.prog w = .ok .skip w') (h : K (a.put o.dst undef) w') : if Region.wanted o (yielded ops a.tmps) = true then Oper.wp Tryd.prog o a w K Q else E := by
  have hw : Region.wanted o (yielded ops a.tmps) = true := by simp [Region.wanted, hg]
  rw [if_pos hw]
  unfold Oper.wp
  rw [hrun]
  exact h
theorem anyHone {ops : Array Oper} {Q : Exit → Act → World → Prop} {md : Region.Mode} {S : World → Prop} {fuel : Nat} {listed : Array Bool} {a : Act} {w : World} {o : Oper} (i : Nat) (hr : Region.ready md ops listed = [i]) (ho : ops[i]? = some o)
    (h : ∀ K' : Act → World → Prop, Shut (∀ a w, S w → (S w → wpAnyH Tryd.prog md ops Q S fuel (listed.setIfInBounds i true) a w) → K' a w) → if Region.wanted o (yielded ops a.tmps) = true then Oper.wp Tryd.prog o a w K' Q else K' (a.put o.dst undef) w) : wpAnyH Tryd.prog md ops Q S (fuel + 1) listed a w :=
  wpAnyH_ready hr (by simp) (AllReadyH.cons ho h AllReadyH.nil)
end Go.Proofs.YtbmjoiiagldklaaDoor.HX

/- Bits and ranks; rows and what they hold. -/
namespace Go.Proofs.YtbmjoiiagldklaaDoor.HX
open Go.RowKit
set_option maxRecDepth 100000

/-- how many of the first k bits are set. -/
def RK (X : Nat) : Nat → Nat
  | 0 => 0
  | k + 1 => RK X k + if X.testBit k then 1 else 0
/-- a row: its number, its bits, the block and the room of its hashes, and these. -/
structure ROW where
  num : Nat
  live : Nat
  gh : Nat
  ch : Nat
  hs : List (Nat → Nat)
/-- hashes as cells. -/
def HL (hs : List (Nat → Nat)) : List Value := hs.flatMap fun h => ULIST .u8 32 h
/-- what a chunk has at the place p. -/
def LOOK (rs : List ROW) (p : Nat) : Option (Nat → Nat) := (rs.find? fun r => r.num == p / 64).bind fun r => if r.live.testBit (p % 64) then r.hs[RK r.live (p % 64)]? else none
end Go.Proofs.YtbmjoiiagldklaaDoor.HX

/- What chunk.get answers. -/
namespace Go.Proofs.YtbmjoiiagldklaaDoor.HX
open Go.RowKit
set_option maxRecDepth 100000

theorem results_hash {fn : Func} {p q : Tmp} {ty : TypeId} (h : fn.results = #[.cell p ty, .tmp q]) (tmps : Array Value) (w : World) (g : Nat) (t : TypeId) (cs : Array Value) (fr : Nat × Nat) (n : Nat) (e : TypeId)
    (hp : tmps.getD p undef = .pointer (some ⟨g, 0, none⟩)) (hg : w.heap[g]? = some (.cells cs t fr)) (v : Value) (hq : tmps.getD q undef = v)
    (hu : Tryd.prog.underlying ty = some (.array n e)) (hi : (Tryd.prog.info? ty).map (·.size) = some cs.size) :
    (results fn tmps).run Tryd.prog w = .ok (.tuple #[.agg cs, v]) w := by
  have hp' : tmps[p]?.getD undef = .pointer (some ⟨g, 0, none⟩) := by simpa using hp
  have hq' : tmps[q]?.getD undef = v := by simpa using hq
  simp [results, h, hp', hq', asAddr, run_loadVar_row w g t ty cs fr (.array n e) hg hu rfl hi]
theorem zeroHash : ∀ w, (zeroValue 26).run Tryd.prog w = .ok (.agg (UARR .u8 32 fun _ => 0)) w := (zero_of_info (P := Tryd.prog) (n := 32) (by kernel_rfl)).1
theorem store_cells32 {w : World} {g : Nat} {f : Nat → Nat} (h : Has w g (UARR .u8 32 f) 26) (F : Nat → Nat) : (storeCells ⟨g, 0, none⟩ (UARR .u8 32 F).toList 0).run Tryd.prog w = .ok () (w.setRow g (UARR .u8 32 F)) := by
  have := run_storeCells_from (P := Tryd.prog) g 26 (UARR .u8 32 F).toList 0 _ w h (by rw [UARR_size, Array.length_toList, UARR_size]) (fun v hv => by have := Array.all_eq_true_iff_forall_mem.1 (UARR_one .u8 32 F) v (by simpa using hv); exact this)
  simpa using this
end Go.Proofs.YtbmjoiiagldklaaDoor.HX

/- A store in memory; Store.find, Get, Live. -/
namespace Go.Proofs.YtbmjoiiagldklaaDoor.HX
open Go.RowKit Go.Maps
set_option maxRecDepth 100000

/-- which chunk a number has: its block and its rows. -/
abbrev CHUNKS := Nat → Option (Nat × List ROW)
end Go.Proofs.YtbmjoiiagldklaaDoor.HX

/- slices.Insert at the end of a list of one's own: of hashes, of rows. -/
namespace Go.Proofs.YtbmjoiiagldklaaDoor.HX
open Go.RowKit
set_option maxRecDepth 100000

theorem own_shape {w : World} {B n s : Nat} {t : TypeId} {v : Value} {xs : List Value} (h : w.ownsRow B t s v n xs) : ∃ a cap, v = .slice a n cap := by
  rcases h.2 with ⟨rfl, rfl⟩ | ⟨g, cap, cur, rfl, _⟩
  · exact ⟨none, 0, rfl⟩
  · exact ⟨_, cap, rfl⟩
end Go.Proofs.YtbmjoiiagldklaaDoor.HX

/- The regions of chunk.put that draw their order. -/
namespace Go.Proofs.YtbmjoiiagldklaaDoor.HX
open Go.RowKit
set_option maxRecDepth 100000

theorem step_val {ops : Array Oper} {o : Oper} {a : Act} {w w' : World} {K : Act → World → Prop} {Q : Exit → Act → World → Prop} {E : Prop} {v : Value} (hg : o.guard = none)
    (hrun : (execOp a.eval o).run Tryd.prog w = .ok (.value v) w') (h : K (a.put o.dst v) w') : if Region.wanted o (yielded ops a.tmps) = true then Oper.wp Tryd.prog o a w K Q else E := by
  have hw : Region.wanted o (yielded ops a.tmps) = true := by simp [Region.wanted, hg]
  rw [if_pos hw]
  unfold Oper.wp
  rw [hrun]
  exact h
end Go.Proofs.YtbmjoiiagldklaaDoor.HX

/- chunk.put, in raw memory: one hash more in a row that is there. -/
namespace Go.Proofs.YtbmjoiiagldklaaDoor.HX
open Go.RowKit
set_option maxRecDepth 100000

end Go.Proofs.YtbmjoiiagldklaaDoor.HX

/- chunk.put, in raw memory: a new row at the end. -/
namespace Go.Proofs.YtbmjoiiagldklaaDoor.HX
open Go.RowKit
set_option maxRecDepth 100000

end Go.Proofs.YtbmjoiiagldklaaDoor.HX

/- What a chunk has when the next place is put: in plain lists. -/
namespace Go.Proofs.YtbmjoiiagldklaaDoor.HX
open Go.RowKit
set_option maxRecDepth 100000

end Go.Proofs.YtbmjoiiagldklaaDoor.HX

/- chunk.put of the next place: what the chunk has then. -/
namespace Go.Proofs.YtbmjoiiagldklaaDoor.HX
open Go.RowKit
set_option maxRecDepth 100000

/-- what stands from index i on: nothing, or one row with this number, these bits and hashes. -/
def REST (rs : List ROW) (i q live : Nat) (hs : List (Nat → Nat)) : Prop := (rs.length = i ∧ live = 0 ∧ hs = []) ∨ ∃ r, rs[i]? = some r ∧ i + 1 = rs.length ∧ r.num = q ∧ r.live = live ∧ r.hs = hs
theorem REST.drop {rs : List ROW} {i q live : Nat} {hs : List (Nat → Nat)} (h : REST rs i q live hs) : ∀ s ∈ rs.drop i, s.num = q := fun s hs' => by
  rcases h with ⟨h, _⟩ | ⟨r, hr, hi, hq, _⟩
  · rw [List.drop_of_length_le (by omega)] at hs'
    cases hs'
  · rw [List.drop_eq_getElem_cons (by omega), List.drop_of_length_le (by omega)] at hs'
    simp only [List.mem_singleton] at hs'
    rw [List.getElem?_eq_getElem (by omega)] at hr
    rw [hs', Option.some.inj hr]
    exact hq
theorem REST.look {rs : List ROW} {i q live p : Nat} {hs : List (Nat → Nat)} (h : REST rs i q live hs) (hlow : ∀ s ∈ rs.take i, s.num < q) (hp : p / 64 = q) : LOOK rs p = if live.testBit (p % 64) then hs[RK live (p % 64)]? else none := by
  have hf : (rs.take i).find? (fun r => r.num == p / 64) = none := List.find?_eq_none.2 fun s hs' => by
    have := hlow s hs'
    simp
    omega
  unfold LOOK
  conv => lhs; rw [← List.take_append_drop i rs, List.find?_append, hf]
  rcases h with ⟨h, rfl, rfl⟩ | ⟨r, hr, hi, hq, rfl, rfl⟩
  · rw [List.drop_of_length_le (by omega)]
    simp
  · have e : rs.drop i = [r] := by
      rw [List.drop_eq_getElem_cons (by omega), List.drop_of_length_le (by omega)]
      rw [List.getElem?_eq_getElem (by omega)] at hr
      rw [Option.some.inj hr]
    rw [e]
    have hb : (r.num == p / 64) = true := by simp; omega
    simp [hb]
end Go.Proofs.YtbmjoiiagldklaaDoor.HX

/- chunk.put of the next place, as called. -/
namespace Go.Proofs.YtbmjoiiagldklaaDoor.HX
open Go.RowKit
set_option maxRecDepth 100000

end Go.Proofs.YtbmjoiiagldklaaDoor.HX

/- The regions of Store.put that draw their order. -/
namespace Go.Proofs.YtbmjoiiagldklaaDoor.HX
open Go.RowKit Go.Maps
set_option maxRecDepth 100000

end Go.Proofs.YtbmjoiiagldklaaDoor.HX

/- A store in which one place more lives: what it is then. -/
namespace Go.Proofs.YtbmjoiiagldklaaDoor.HX
open Go.RowKit Go.Maps
set_option maxRecDepth 100000

/-- the blocks that a store has beside its own. -/
def FOOT (w : World) (g : Nat) (C : CHUNKS) (b : Nat) : Prop := w.cell? ⟨g, 3, none⟩ = some (.map (some b)) ∨ ∃ k gc rs, C k = some (gc, rs) ∧ (b = gc ∨ (∃ v, w.cell? ⟨gc, 0, none⟩ = some v ∧ v.ownBlock = some b) ∨ ∃ r ∈ rs, r.gh = b)
/-- the chunk K has other rows now. -/
def WITH (C : CHUNKS) (K gc : Nat) (rs : List ROW) : CHUNKS := fun j => if j = K then some (gc, rs) else C j
theorem WITH_at {C : CHUNKS} {K gc : Nat} {rs : List ROW} : WITH C K gc rs K = some (gc, rs) := if_pos rfl
theorem WITH_ne {C : CHUNKS} {K gc j : Nat} {rs : List ROW} (h : j ≠ K) : WITH C K gc rs j = C j := if_neg h
/-- no chunk without a row. -/
def FULL (C : CHUNKS) : Prop := ∀ k gc rs, C k = some (gc, rs) → rs ≠ []
/-- the same but for the chunk K. -/
def FULLB (C : CHUNKS) (K : Nat) : Prop := ∀ k gc rs, k ≠ K → C k = some (gc, rs) → rs ≠ []
theorem FULLB.full {C : CHUNKS} {K gc : Nat} {rs : List ROW} (h : FULLB C K) (hr : rs ≠ []) : FULL (WITH C K gc rs) := fun k gc' rs' e => by
  by_cases hk : k = K
  · subst hk
    rw [WITH_at] at e
    cases e
    exact hr
  · rw [WITH_ne hk] at e
    exact h k gc' rs' hk e
end Go.Proofs.YtbmjoiiagldklaaDoor.HX

/- A store that gets its map, or one chunk more; steps of a store. -/
namespace Go.Proofs.YtbmjoiiagldklaaDoor.HX
open Go.RowKit Go.Maps
set_option maxRecDepth 100000

/-- what a step of a store leaves alone: all that is not its own. -/
structure STEP0 (w w' : World) (g : Nat) (C C' : CHUNKS) : Prop where
  foot : ∀ b, FOOT w' g C' b → FOOT w g C b ∨ w.heap.size ≤ b
  same : ∀ b, b < w.heap.size → b ≠ g → ¬ FOOT w g C b → w'.heap[b]? = w.heap[b]?
  size : w.heap.size ≤ w'.heap.size
  pins : ∀ i, 4 ≤ i → w'.cell? ⟨g, i, none⟩ = w.cell? ⟨g, i, none⟩
theorem STEP0.trans {w w' w'' : World} {g : Nat} {C C' C'' : CHUNKS} (h : STEP0 w w' g C C') (h' : STEP0 w' w'' g C' C'') : STEP0 w w'' g C C'' := by
  have hs := h.size
  refine ⟨fun b hb => ?_, fun b hb hg hf => ?_, Nat.le_trans h.size h'.size, fun i hi => (h'.pins i hi).trans (h.pins i hi)⟩
  · rcases h'.foot b hb with h1 | h1
    · exact h.foot b h1
    · exact .inr (by omega)
  · refine (h'.same b (by omega) hg (fun hf' => ?_)).trans (h.same b hb hg hf)
    rcases h.foot b hf' with h1 | h1
    · exact hf h1
    · omega
/-- the same, and no chunk is left without a row. -/
structure STEP (w w' : World) (g : Nat) (C C' : CHUNKS) : Prop extends STEP0 w w' g C C' where
  full : FULL C → FULL C'
theorem STEP.trans {w w' w'' : World} {g : Nat} {C C' C'' : CHUNKS} (h : STEP w w' g C C') (h' : STEP w' w'' g C' C'') : STEP w w'' g C C'' := ⟨h.toSTEP0.trans h'.toSTEP0, fun x => h'.full (h.full x)⟩
end Go.Proofs.YtbmjoiiagldklaaDoor.HX

/- Store.put of the next place. -/
namespace Go.Proofs.YtbmjoiiagldklaaDoor.HX
open Go.RowKit Go.Maps
set_option maxRecDepth 100000

end Go.Proofs.YtbmjoiiagldklaaDoor.HX

/- Store.put into a store without a map; Store.put of the next place. -/
namespace Go.Proofs.YtbmjoiiagldklaaDoor.HX
open Go.RowKit Go.Maps
set_option maxRecDepth 100000

end Go.Proofs.YtbmjoiiagldklaaDoor.HX

/- Store.Push. -/
namespace Go.Proofs.YtbmjoiiagldklaaDoor.HX
open Go.RowKit Go.Maps
set_option maxRecDepth 100000

end Go.Proofs.YtbmjoiiagldklaaDoor.HX

/- A store whose blocks are as they were. -/
namespace Go.Proofs.YtbmjoiiagldklaaDoor.HX
open Go.RowKit
set_option maxRecDepth 100000

end Go.Proofs.YtbmjoiiagldklaaDoor.HX

/- A store inside a larger struct: what lies behind it in its block. -/
namespace Go.Proofs.YtbmjoiiagldklaaDoor.HX
open Go.RowKit
set_option maxRecDepth 100000

/-- a step that may write what lies behind the store in its block. -/
structure TSTEP (w w' : World) (g : Nat) (C C' : CHUNKS) : Prop where
  foot : ∀ b, FOOT w' g C' b → FOOT w g C b ∨ w.heap.size ≤ b
  same : ∀ b, b < w.heap.size → b ≠ g → ¬ FOOT w g C b → w'.heap[b]? = w.heap[b]?
  size : w.heap.size ≤ w'.heap.size
theorem TSTEP.trans {w w' w'' : World} {g : Nat} {C C' C'' : CHUNKS} (h : TSTEP w w' g C C') (h' : TSTEP w' w'' g C' C'') : TSTEP w w'' g C C'' := by
  have hs := h.size
  refine ⟨fun b hb => ?_, fun b hb hg hf => ?_, Nat.le_trans h.size h'.size⟩
  · rcases h'.foot b hb with h1 | h1
    · exact h.foot b h1
    · exact .inr (by omega)
  · refine (h'.same b (by omega) hg (fun hf' => ?_)).trans (h.same b hb hg hf)
    rcases h.foot b hf' with h1 | h1
    · exact hf h1
    · omega
end Go.Proofs.YtbmjoiiagldklaaDoor.HX

/- The regions of Append of package mmr that draw their order. -/
namespace Go.Proofs.YtbmjoiiagldklaaDoor.HX
open Go.RowKit
set_option maxRecDepth 100000

end Go.Proofs.YtbmjoiiagldklaaDoor.HX

/- The region of massifref6.Bag that draws its order. -/
namespace Go.Proofs.YtbmjoiiagldklaaDoor.HX
open Go.RowKit
set_option maxRecDepth 100000

end Go.Proofs.YtbmjoiiagldklaaDoor.HX

/- The region of folded of package mmr that draws its order. -/
namespace Go.Proofs.YtbmjoiiagldklaaDoor.HX
open Go.RowKit
set_option maxRecDepth 100000

end Go.Proofs.YtbmjoiiagldklaaDoor.HX

/- A tree's small calls: left, Node, New. -/
namespace Go.Proofs.YtbmjoiiagldklaaDoor.HX
open Go.RowKit
set_option maxRecDepth 100000

end Go.Proofs.YtbmjoiiagldklaaDoor.HX

/- folded and Bag of package mmr, hashes as functions. -/
namespace Go.Proofs.YtbmjoiiagldklaaDoor.HX
open Go.RowKit
set_option maxRecDepth 100000

/-- a slice of hashes lies there. -/
def HASHES (w : World) (a : Option Addr) (n : Nat) (hs : Nat → Nat → Nat) : Prop := 0 < n → ∃ b o, a = some ⟨b, o, none⟩ ∧ b < w.heap.size ∧ ∀ i, i < n → w.rangeAt b (o + i * 32) (ULIST .u8 32 (hs i))
theorem HASHES.below {w w' : World} {a : Option Addr} {n : Nat} {hs : Nat → Nat → Nat} (h : HASHES w a n hs) (hb : Below w.heap.size w w') : HASHES w' a n hs := fun hn => by
  obtain ⟨b, o, e, hl, hc⟩ := h hn
  exact ⟨b, o, e, Nat.lt_of_lt_of_le hl hb.size, fun i hi => range_below (hc i hi) hb hl⟩
end Go.Proofs.YtbmjoiiagldklaaDoor.HX

/- A tree as it lies in memory: its store, its width, its size; each node's hash. -/
namespace Go.Proofs.YtbmjoiiagldklaaDoor.HX
open Go.RowKit
set_option maxRecDepth 100000

end Go.Proofs.YtbmjoiiagldklaaDoor.HX

/- Lists of hashes that are made and grow. -/
namespace Go.Proofs.YtbmjoiiagldklaaDoor.HX
open Go.RowKit
set_option maxRecDepth 100000

end Go.Proofs.YtbmjoiiagldklaaDoor.HX

/- peaks of package mmr: the hashes of the peaks of an earlier size. -/
namespace Go.Proofs.YtbmjoiiagldklaaDoor.HX
open Go.RowKit
set_option maxRecDepth 100000

end Go.Proofs.YtbmjoiiagldklaaDoor.HX

/- Bag, Old, Root, Peaks, Size of package mmr. -/
namespace Go.Proofs.YtbmjoiiagldklaaDoor.HX
open Go.RowKit
set_option maxRecDepth 100000

end Go.Proofs.YtbmjoiiagldklaaDoor.HX

/- What Bag of package mmr answers for any size and any list of peaks. -/
namespace Go.Proofs.YtbmjoiiagldklaaDoor.HX
open Go.RowKit
set_option maxRecDepth 100000

end Go.Proofs.YtbmjoiiagldklaaDoor.HX
