/- Texts of FindPlays, one behind the other: PosFour, CutCalls, CutHas, CutSpan, CutOver, ProofPlaces, ProofBytes, ProofEncode, CutRefSpan, ProofRefPlaces, ProofLists, RegionSteps, ProofCells, PosForestMap, FindMap. -/
import Derived.Deep.QuietTactic
import Derived.BigQuiet
import Derived.Deep.MidRow
import Derived.Test.YtlbcnaenhghieaaProg
import Derived.WalkKit
import Derived.WalkLawsBesides
import Derived.Deep.RegionHeld3
import Derived.Deep.CutRange
import Derived.Great.BuildSlice
import Derived.ChangeKeysEq
import Derived.Maps.OwnSet
import Derived.DeepKeys4
import Derived.Maps.Ext
import Derived.Test.YtlbcnaenhghieaaFindPlaysP1
/- Two lists that read the same; four lists of one's own, none of which shares a block with another. -/
namespace Go.Proofs.Ytlbcnaenhghieaa
open Go.RowKit

/-- a list of numbers lies there. -/
def Nums (w : World) (v : Value) (l : List Nat) : Prop := ∃ a cap, v = .slice a l.length cap ∧ (0 < l.length → ∃ g, a = some ⟨g, 0, none⟩ ∧ g < w.heap.size ∧ ∀ (j : Nat), j < l.length → w.cell? ⟨g, j, none⟩ = some (.int .u64 ((l.getD j 0 : Nat) : Int)))
theorem Nums.below {w w' : World} {v : Value} {l : List Nat} {B : Nat} (h : Nums w v l) (hb : Below B w w') (hB : w.heap.size ≤ B) : Nums w' v l := by
  obtain ⟨a, cap, rfl, h⟩ := h
  refine ⟨a, cap, rfl, fun h0 => ?_⟩
  obtain ⟨g, e, hg, hc⟩ := h h0
  exact ⟨g, e, Nat.lt_of_lt_of_le hg hb.size, fun j hj => (hb.cell (p := ⟨g, j, none⟩) (Nat.lt_of_lt_of_le hg hB)).trans (hc j hj)⟩
/-- four lists of one's own: no two in one block, none in a block of K. -/
structure Four (w : World) (B : Nat) (K : Nat → Prop) (v : Nat → Value) (n : Nat → Nat) (xs : Nat → List Value) : Prop where
  row : ∀ x, x < 4 → w.ownsRow B 31 1 (v x) (n x) (xs x)
  apart : ∀ x y, x < 4 → y < 4 → x ≠ y → ∀ g, (v x).ownBlock = some g → (v y).ownBlock ≠ some g
  off : ∀ x, x < 4 → ∀ g, (v x).ownBlock = some g → ¬ K g
/-- a function that is another one at one place. -/
def UPD {α : Type} (f : Nat → α) (x : Nat) (a : α) : Nat → α := fun z => if z = x then a else f z
theorem UPD_at {α : Type} (f : Nat → α) (x : Nat) (a : α) : UPD f x a x = a := by simp [UPD]
theorem UPD_other {α : Type} (f : Nat → α) {x z : Nat} (a : α) (h : z ≠ x) : UPD f x a z = f z := by simp [UPD, h]
theorem Four.alloc {w : World} {B : Nat} {K : Nat → Prop} {v : Nat → Value} {n : Nat → Nat} {xs : Nat → List Value} (h : Four w B K v n xs) (o : Obj) : Four (w.alloc o) B K v n xs := ⟨fun x hx => (h.row x hx).alloc o, h.apart, h.off⟩
theorem Four.below {w w' : World} {B : Nat} {K : Nat → Prop} {v : Nat → Value} {n : Nat → Nat} {xs : Nat → List Value} (h : Four w B K v n xs) (hb : Below w.heap.size w w') : Four w' B K v n xs := ⟨fun x hx => own_below (h.row x hx) hb, h.apart, h.off⟩
theorem grown_set (W : World) (b j : Nat) (v : Value) : W.grownBy (W.setCell ⟨b, j, none⟩ v) (some b) :=
  ⟨rfl, rfl, rfl, (KeepsWalks.setCell W _ v).size, fun k _ hk => Below.heap_setCell _ _ _ k (fun e => hk (by rw [e]))⟩
/-- what is stored into one of the four. -/
theorem Four.store {w : World} {B : Nat} {K : Nat → Prop} {v : Nat → Value} {n : Nat → Nat} {xs : Nat → List Value} (h : Four w B K v n xs) {x g m cap : Nat} (hx : x < 4) (hv : v x = .slice (some ⟨g, 0, none⟩) m cap) (j : Nat) (u : Value) :
    Four (w.setCell ⟨g, j, none⟩ u) B K v n (UPD xs x ((xs x).set j u)) := by
  refine ⟨fun z hz => ?_, h.apart, h.off⟩
  by_cases e : z = x
  · subst e
    have hr := h.row z hz
    rw [hv] at hr ⊢
    have hm : m = n z := by
      rcases hr.2 with ⟨e, _⟩ | ⟨_, _, _, e, _⟩
      · simp at e
      · simp at e
        omega
    subst hm
    rw [UPD_at]
    exact (hr.stored j u).1
  · rw [UPD_other xs _ e]
    refine (h.row z hz).kept (grown_set w g j u) (.inr fun e2 => ?_)
    exact h.apart x z hx hz (fun e3 => e e3.symm) g (by rw [hv]; rfl) e2
theorem Has.grown {w w' : World} {g : Nat} {c : Array Value} {t : TypeId} {row : Option Nat} (h : Has w g c t) (hg : w.grownBy w' row) (hne : row ≠ some g) : Has w' g c t := by
  obtain ⟨_, _, _, _, hk⟩ := hg
  exact (hk g h.lt (fun e => hne e.symm)).trans h
end Go.Proofs.Ytlbcnaenhghieaa

/- What the small functions of package cut answer. -/
namespace Go.Proofs.Ytlbcnaenhghieaa
open Go.RowKit

end Go.Proofs.Ytlbcnaenhghieaa

/- A block that stays while a list of one's own grows. -/
namespace Go.Proofs.Ytlbcnaenhghieaa
open Go.RowKit

end Go.Proofs.Ytlbcnaenhghieaa

/- What Span answers. -/
namespace Go.Proofs.Ytlbcnaenhghieaa
open Go.RowKit

end Go.Proofs.Ytlbcnaenhghieaa

/- What Over answers, of any list of spots. -/
namespace Go.Proofs.Ytlbcnaenhghieaa
open Go.RowKit

/-- a list of spots lies there. -/
def Lie (w : World) (a : Option Addr) (l : List (Nat × Nat)) : Prop := 0 < l.length → ∃ g o, a = some ⟨g, o, none⟩ ∧ g < w.heap.size ∧ ∀ (j h k : Nat), l[j]? = some (h, k) → w.cell? ⟨g, o + j * 2, none⟩ = some (.int .u8 (h : Int)) ∧ w.cell? ⟨g, o + j * 2 + 1, none⟩ = some (.int .u64 (k : Int))
theorem Lie.below {w w' : World} {a : Option Addr} {l : List (Nat × Nat)} (h : Lie w a l) (hb : Below w.heap.size w w') : Lie w' a l := fun h0 => by
  obtain ⟨g, o, e, hg, hc⟩ := h h0
  exact ⟨g, o, e, Nat.lt_of_lt_of_le hg hb.size, fun j x y he => ⟨(hb.cell (p := ⟨g, o + j * 2, none⟩) hg).trans (hc j x y he).1, (hb.cell (p := ⟨g, o + j * 2 + 1, none⟩) hg).trans (hc j x y he).2⟩⟩
end Go.Proofs.Ytlbcnaenhghieaa

/- What Places and PrefixPlaces of package proof answer. -/
namespace Go.Proofs.Ytlbcnaenhghieaa
open Go.RowKit

end Go.Proofs.Ytlbcnaenhghieaa

/- What written, Encode and EncodePrefix of package proof answer. -/
namespace Go.Proofs.Ytlbcnaenhghieaa
open Go.RowKit
set_option maxRecDepth 100000

/-- so many hashes lie there, told as their bytes, one behind the other. -/
def Flat (w : World) (a : Option Addr) (n : Nat) (l : List Int) : Prop :=
  l.length = 32 * n ∧ (0 < n → ∃ b o, a = some ⟨b, o, none⟩ ∧ b < w.heap.size ∧ ∀ j, j < 32 * n → w.cell? ⟨b, o + j, none⟩ = some (.int .u8 (l.getD j 0))) ∧ ∀ x ∈ l, 0 ≤ x ∧ x ≤ 255
theorem Flat.below {w w' : World} {a : Option Addr} {n : Nat} {l : List Int} (h : Flat w a n l) (hb : Below w.heap.size w w') : Flat w' a n l :=
  ⟨h.1, fun hn => by
    obtain ⟨b, o, e, hl, hc⟩ := h.2.1 hn
    exact ⟨b, o, e, Nat.lt_of_lt_of_le hl hb.size, fun i hi => (hb.cell (by exact hl)).trans (hc i hi)⟩, h.2.2⟩
/-- the bytes of the i-th hash. -/
def HSH (l : List Int) (i : Nat) : List Int := (l.drop (32 * i)).take 32
theorem HSH_length {l : List Int} {n i : Nat} (hl : l.length = 32 * n) (hi : i < n) : (HSH l i).length = 32 := by
  unfold HSH
  rw [List.length_take, List.length_drop]
  omega
theorem HSH_at {l : List Int} {i j : Nat} (hj : j < 32) : (HSH l i).getD j 0 = l.getD (32 * i + j) 0 := by
  unfold HSH
  rw [List.getD_eq_getElem?_getD, List.getElem?_take, if_pos hj, List.getElem?_drop, List.getD_eq_getElem?_getD]
theorem HSH_next (l : List Int) (i : Nat) : l.take (32 * (i + 1)) = l.take (32 * i) ++ HSH l i := by
  unfold HSH
  rw [show 32 * (i + 1) = 32 * i + 32 by omega, List.take_add]
theorem info_hash32 : (Try.prog.info? 30).map (·.size) = some 32 := by kernel_rfl
theorem info_cells {h : List Int} (hl : h.length = 32) : (Try.prog.info? 30).map (·.size) = some (CELLS h).length := by
  rw [info_hash32, show (CELLS h).length = 32 by simp [CELLS, hl]]
theorem info_arr {h : List Int} (hl : h.length = 32) : (Try.prog.info? 30).map (·.size) = some (CELLS h).toArray.size := by
  rw [info_hash32, show (CELLS h).toArray.size = 32 by simp [CELLS, hl]]
theorem cells_one (h : List Int) : (CELLS h).toArray.all (·.oneCell') = true := by
  rw [Array.all_eq_true_iff_forall_mem]
  intro v hv
  exact CELLS_one h v (by simpa using hv)
theorem Flat.at {w : World} {b o n : Nat} {l : List Int} {i : Nat} (h : Flat w (some ⟨b, o, none⟩) n l) (hi : i < n) : w.rangeAt b (o + i * 32) (CELLS (HSH l i)) := by
  intro j v hv
  obtain ⟨b', o', e, _, hc⟩ := h.2.1 (by omega)
  simp only [Option.some.injEq, Addr.mk.injEq] at e
  obtain ⟨rfl, rfl, _⟩ := e
  have hj : j < 32 := by
    have := (List.getElem?_eq_some_iff.1 hv).1
    rw [show (CELLS (HSH l i)).length = 32 by simp [CELLS, HSH_length h.1 hi]] at this
    exact this
  rw [CELLS_get _ _ (by rw [HSH_length h.1 hi]; exact hj), HSH_at hj] at hv
  rw [show o + i * 32 + j = o + (32 * i + j) by omega, hc _ (by omega)]
  exact hv
end Go.Proofs.Ytlbcnaenhghieaa

/- What Encode and EncodePrefix answer, of any proof; the law's awake. -/
namespace Go.Proofs.Ytlbcnaenhghieaa
open Go.RowKit
set_option maxRecDepth 100000

/-! the law's awake -/
end Go.Proofs.Ytlbcnaenhghieaa

/- What the document's Span answers. -/
namespace Go.Proofs.Ytlbcnaenhghieaa
open Go.RowKit

end Go.Proofs.Ytlbcnaenhghieaa

/- What the document's Places and PrefixPlaces answer; two lists of numbers that read the same or not. -/
namespace Go.Proofs.Ytlbcnaenhghieaa
open Go.RowKit
set_option maxRecDepth 100000

end Go.Proofs.Ytlbcnaenhghieaa

/- Two lists of numbers that read the same; a list written over and grown; does it have the mark alone? -/
namespace Go.Proofs.Ytlbcnaenhghieaa
open Go.RowKit
set_option maxRecDepth 100000

theorem samenumbers_ok (va vb : Value) (l : List Nat) (w : World) (hn : l.length ≤ 1000) (ha : Nums w va l) (hb : Nums w vb l) :
    Calls Try.prog 20 #[va, vb] w fun e w' => e = .returned (.bool true) ∧ Below w.heap.size w w' := by
  obtain ⟨a, ca, rfl, hA⟩ := ha
  obtain ⟨b, cb, rfl, hB⟩ := hb
  generalize hL : l.length = n at *
  rcases Nat.eq_zero_or_pos n with h | h
  · subst h
    clear hA hB hL
    go_enter Try.func20, Try.ntmps20
    go_wp2
    refine wp_loop_rounds 1 ?_
    rw [rounds_succ]
    go_wp2
    go_ret
    exact ⟨rfl, Below.refl _ _⟩
  · obtain ⟨ga, rfl, la, hca⟩ := hA h
    obtain ⟨gb, rfl, lb, hcb⟩ := hB h
    have HC : Aside ((∀ (i : Nat), i < n → w.cell? ⟨ga, i, none⟩ = some (.int .u64 ((l.getD i 0 : Nat) : Int))) ∧ (∀ (i : Nat), i < n → w.cell? ⟨gb, i, none⟩ = some (.int .u64 ((l.getD i 0 : Nat) : Int))) ∧ ga < w.heap.size ∧ gb < w.heap.size) := ⟨hca, hcb, la, lb⟩
    clear hA hB hca hcb la lb hL
    go_enter Try.func20, Try.ntmps20
    go_wp2
    go_loopg [5] n (fun g s5 wx => ∃ k : Nat, k + g = n ∧ s5 = .int .i64 k ∧ Aside (Below w.heap.size w wx))
    case atStart => exact ⟨0, by omega, rfl, Below.refl _ _⟩
    case round =>
      obtain ⟨k, hkg, rfl, A⟩ := hrel
      cases gk with
      | zero =>
        obtain rfl : k = n := by omega
        go_wp2
        go_ret
        exact ⟨rfl, A.out⟩
      | succ g =>
        have hlt : (k : Int) < (n : Int) := by omega
        have h1 : wr.cell? ⟨ga, k, none⟩ = some (.int .u64 ((l.getD k 0 : Nat) : Int)) := (A.out.cell (by exact HC.out.2.2.1)).trans (HC.out.1 k (by omega))
        have h2 : wr.cell? ⟨gb, k, none⟩ = some (.int .u64 ((l.getD k 0 : Nat) : Int)) := (A.out.cell (by exact HC.out.2.2.2)).trans (HC.out.2.1 k (by omega))
        generalize l.getD k 0 = v at h1 h2
        go_wp2
        go_quiet (fail)
        go_wp2
        go_roundg g
        case measure => omega
        case rel => exact ⟨k + 1, by omega, by go_num, below_drewN A.out _⟩
theorem grown_trans {w w1 w2 : World} {r r' : Option Nat} (h : w.grownBy w1 r) (h' : w1.grownBy w2 r') (hr : r' = r ∨ ∀ g, r' = some g → w.heap.size ≤ g) : w.grownBy w2 r := by
  obtain ⟨a1, a2, a3, a4, a5⟩ := h
  obtain ⟨b1, b2, b3, b4, b5⟩ := h'
  refine ⟨by rw [b1, a1], by rw [b2, a2], by rw [b3, a3], Nat.le_trans a4 b4, fun k hk hne => ?_⟩
  rw [b5 k (by omega) (fun e => ?_), a5 k hk hne]
  rcases hr with hr | hr
  · exact hne (by rw [e, hr])
  · have := hr k e.symm
    omega
end Go.Proofs.Ytlbcnaenhghieaa

/- Steps of a region that draws its order, one operation at a time. -/
namespace Go.Proofs.Ytlbcnaenhghieaa
open Go.RowKit
set_option maxRecDepth 100000

theorem step_skip {ops : Array Oper} {o : Oper} {a : Act} {w w' : World} {K : Act → World → Prop} {Q : Exit → Act → World → Prop} {E : Prop} (hg : o.guard = none)
    (hrun : (execOp a.eval o).run Try.prog w = .ok .skip w') (h : K (a.put o.dst undef) w') : if Region.wanted o (yielded ops a.tmps) = true then Oper.wp Try.prog o a w K Q else E := by
  have hw : Region.wanted o (yielded ops a.tmps) = true := by simp [Region.wanted, hg]
  rw [if_pos hw]
  unfold Oper.wp
  rw [hrun]
  exact h
theorem run_skip {s : Sem Unit} {w w' : World} (h : s.run Try.prog w = .ok () w') : (do s; pure Next.skip : Sem Next).run Try.prog w = .ok .skip w' := by
  simp [h]
theorem run_value {s : Sem Value} {w w' : World} {v : Value} (h : s.run Try.prog w = .ok v w') : (do pure (Next.value (← s)) : Sem Next).run Try.prog w = .ok (.value v) w' := by
  simp [h, Result.andThen]
end Go.Proofs.Ytlbcnaenhghieaa

/- Hashes as cells: held against each other, put behind a list, a list of one; a row whose block stays. -/
namespace Go.Proofs.Ytlbcnaenhghieaa
open Go.RowKit
set_option maxRecDepth 100000

theorem own_heap {w w' : World} {B : Nat} {t : TypeId} {s : Nat} {v : Value} {n : Nat} {xs : List Value} (h : w.ownsRow B t s v n xs) (hk : ∀ k, v.ownBlock = some k → w'.heap[k]? = w.heap[k]?) : w'.ownsRow B t s v n xs := by
  refine ⟨h.1, ?_⟩
  rcases h.2 with h | ⟨g, cap, cur, rfl, hb, hg, r⟩
  · exact .inl h
  · exact .inr ⟨g, cap, cur, rfl, hb, by rw [hk g rfl]; exact hg, r⟩
def ZND : List Int := List.replicate 32 0
/-- a hash that is zero, cell by cell. -/
abbrev ZARR : Array Value := #[.int .u8 0, .int .u8 0, .int .u8 0, .int .u8 0, .int .u8 0, .int .u8 0, .int .u8 0, .int .u8 0, .int .u8 0, .int .u8 0, .int .u8 0, .int .u8 0, .int .u8 0, .int .u8 0, .int .u8 0, .int .u8 0, .int .u8 0, .int .u8 0, .int .u8 0, .int .u8 0, .int .u8 0, .int .u8 0, .int .u8 0, .int .u8 0, .int .u8 0, .int .u8 0, .int .u8 0, .int .u8 0, .int .u8 0, .int .u8 0, .int .u8 0, .int .u8 0]
theorem ZARR_eq : (CELLS ZND).toArray = ZARR := rfl
theorem results_hash {fn : Func} {p q : Tmp} {ty : TypeId} (h : fn.results = #[.cell p ty, .tmp q]) (tmps : Array Value) (w : World) (g : Nat) (t : TypeId) (cs : Array Value) (fr : Nat × Nat) (k : Nat) (el : TypeId)
    (hp : tmps.getD p undef = .pointer (some ⟨g, 0, none⟩)) (hg : w.heap[g]? = some (.cells cs t fr)) (v : Value) (hq : tmps.getD q undef = v)
    (hu : Try.prog.underlying ty = some (.array k el)) (hi : (Try.prog.info? ty).map (·.size) = some cs.size) :
    (results fn tmps).run Try.prog w = .ok (.tuple #[.agg cs, v]) w := by
  have hp' : tmps[p]?.getD undef = .pointer (some ⟨g, 0, none⟩) := by simpa using hp
  have hq' : tmps[q]?.getD undef = v := by simpa using hq
  simp [results, h, hp', hq', asAddr, run_loadVar_row w g t ty cs fr (.array k el) hg hu rfl hi]
theorem info_hashv : (Try.prog.info? 30).map (fun i => (i.zero, i.size, i.bytes)) = some (some (.agg ZARR), 32, 32) := by kernel_rfl
theorem app_hashm {ops : Array Oper} {rest : List Oper} {o : Oper} {a : Act} {Q : Exit → Act → World → Prop} (w : World) (hgd : o.guard = none) (s x : Operand)
    (ho : o.op = .call { callee := .builtin .append, args := #[s, x], argTypes := #[26, 26] })
    (base : Nat) (v : Value) (n : Nat) (xs : List Value) (hs : a.eval s = v) (hown : w.ownsRow base 30 32 v n xs)
    (b c : Nat) (y : List Int) (hl : y.length = 32) (hx : a.eval x = .slice (some ⟨b, 0, none⟩) 1 c) (hc : Has w b (CELLS y).toArray 30)
    (hb : n ≤ 100000) (hbase : base ≤ w.heap.size)
    (h : ∀ g cap w', w'.ownsRow base 30 32 (.slice (some ⟨g, 0, none⟩) (n + 1) cap) (n + 1) (xs ++ CELLS y) → w.grownBy w' v.ownBlock → (v.ownBlock = some g ∨ g = w.heap.size) → g < w'.heap.size → wpList Try.prog ops Q rest (a.put o.dst (.slice (some ⟨g, 0, none⟩) (n + 1) cap)) w') : wpList Try.prog ops Q (o :: rest) a w := by
  obtain ⟨i, hi, hz, hs1, hby⟩ := info_parts info_hashv
  refine wpList_append_lies w hgd s x 26 ho base 30 i (.agg ZARR) 32 32 Try.underlying26 hi hz hs1 hby rfl (by decide) v n xs hs hown ⟨b, 0, none⟩ 1 c (CELLS y) hx (by rw [CELLS, List.length_map, hl]) ?_ (CELLS_one y) (by decide) (by simp only [maxLen]; omega) (by omega) hbase w.heap.size rfl h
  intro j u hj
  rw [addr_add, Nat.zero_add, hc.cell, List.getElem?_toArray]
  exact hj
/-- a list of one aggregate. -/
theorem build_one {ops : Array Oper} {rest : List Oper} {o : Oper} {a : Act} {Q : Exit → Act → World → Prop} (w : World) (hg : o.guard = none) (t e : TypeId) (x : Operand) (ho : o.op = .buildSlice t 1 #[(0, x)]) (C : Array Value) (hx : a.eval x = .agg C) (n : Nat) (z : Value) (by' : Nat)
    (hu : Try.prog.underlying t = some (.slice e)) (hi : (Try.prog.info? e).map (fun i => (i.zero, i.size, i.bytes)) = some (some z, n, by')) (hC : C.size = n) (hz : z.cells.size = n) (hn : 0 < n) (hs : n ≤ 1000)
    (h : wpList Try.prog ops Q rest (a.put o.dst (.slice (some ⟨w.heap.size, 0, none⟩) 1 1)) (w.alloc (.cells C e))) : wpList Try.prog ops Q (o :: rest) a w := by
  obtain ⟨i, hie, hz', hs1, _⟩ := info_parts hi
  refine wpList_buildSlice hg t e 1 _ ho C i z hu hie hz' (by rw [hs1]; omega) (by rw [hs1]; omega) ?_ h
  have := Great.fill_whole (s := n) hn [.agg C] ((Array.range (1 * i.size)).map (z.cells[· % z.cells.size]!)) (fun v hv => by simp at hv; subst hv; exact hC) (by simp [hs1])
  simp [Value.cells] at this
  rw [hs1]
  simp [hx]
  rw [hs1] at this
  exact this
theorem items_cells (d : Nat) (h g : List Int) (hh : h.length = 32) (hg : g.length = 32) (w : World) : ∀ is : List Nat, (∀ i ∈ is, i < 32) → (Op.eqItems (d + 1) 5 1 (CELLS h).toArray (CELLS g).toArray is).run Try.prog w = .ok (is.all fun i => h.getD i 0 == g.getD i 0) w
  | [], _ => by simp [Op.eqItems]
  | i :: is, hi => by
    have hp : Try.prog.plainKey 5 = true := by kernel_rfl
    have hi32 : i < 32 := hi i (by simp)
    have h1 := run_part_plain (P := Try.prog) w hp (show (CELLS h).toArray[i]? = some (.int .u8 (h.getD i 0)) by rw [List.getElem?_toArray, CELLS_get h i (by omega)])
    have h2 := run_part_plain (P := Try.prog) w hp (show (CELLS g).toArray[i]? = some (.int .u8 (g.getD i 0)) by rw [List.getElem?_toArray, CELLS_get g i (by omega)])
    have h3 := run_equalIn_int (P := Try.prog) w d 5 .u8 .u8 (h.getD i 0) (g.getD i 0) Try.underlying5
    have ih := items_cells d h g hh hg w is (fun j hj => hi j (by simp [hj]))
    rw [Op.eqItems, Nat.mul_one]
    simp only [Sem.run_bind, h1, h2, h3, Result.andThen_ok]
    by_cases e : h.getD i 0 = g.getD i 0
    · have e2 : (h.getD i 0 == g.getD i 0) = true := by simpa using e
      rw [List.all_cons, e2, Bool.true_and, if_neg (by simp)]
      exact ih
    · have e2 : (h.getD i 0 == g.getD i 0) = false := by simpa using e
      rw [List.all_cons, e2]
      simp
theorem equal_cells (h g : List Int) (hh : h.length = 32) (hg : g.length = 32) (w : World) : (Op.equalIn 10000 30 (.agg (CELLS h).toArray) (.agg (CELLS g).toArray)).run Try.prog w = .ok ((List.range 32).all fun i => h.getD i 0 == g.getD i 0) w := by
  obtain ⟨i8, hi, _⟩ := Option.map_eq_some_iff.1 info_u8
  rw [run_equalIn_array (P := Try.prog) w 9999 (CELLS h).toArray (CELLS g).toArray Try.underlying30 hi]
  have hc : Try.prog.cellsOf 5 = 1 := by kernel_rfl
  rw [hc]
  exact items_cells 9998 h g hh hg w _ (fun i hi => by simpa using hi)
theorem neq_cells (h : List Int) (hh : h.length = 32) (x y : Operand) (w : World) : (do eqGuard .neq 30 x y (.agg (CELLS h).toArray) (.agg (CELLS h).toArray); binOp .neq 30 (.agg (CELLS h).toArray) (.agg (CELLS h).toArray) : Sem Value).run Try.prog w = .ok (.bool false) w := by
  simp only [Sem.run_bind, run_eqGuard_agg (P := Try.prog) w .neq 30 x y _ _ (by kernel_rfl), Result.andThen_ok, run_neq_struct, equal_cells h h hh hh]
  simp
theorem all_cells {h g : List Int} (hh : h.length = 32) (hg : g.length = 32) : ((List.range 32).all fun i => h.getD i 0 == g.getD i 0) = decide (h = g) := by
  by_cases e : h = g
  · subst e
    simp
  · rw [decide_eq_false e, Bool.eq_false_iff]
    intro hx
    rw [List.all_eq_true] at hx
    apply e
    apply List.ext_getElem (by omega)
    intro i h1 h2
    have := hx i (by simp; omega)
    simpa [List.getD, h1, h2] using this
theorem equal_hashes {h g : List Int} (hh : h.length = 32) (hg : g.length = 32) (w : World) : (Op.equalIn 10000 30 (.agg (CELLS h).toArray) (.agg (CELLS g).toArray)).run Try.prog w = .ok (decide (h = g)) w := by
  rw [equal_cells h g hh hg, all_cells hh hg]
theorem neq_hashes {h g : List Int} (hh : h.length = 32) (hg : g.length = 32) (x y : Operand) (w : World) : (do eqGuard .neq 30 x y (.agg (CELLS h).toArray) (.agg (CELLS g).toArray); binOp .neq 30 (.agg (CELLS h).toArray) (.agg (CELLS g).toArray) : Sem Value).run Try.prog w = .ok (.bool (!decide (h = g))) w := by
  simp only [Sem.run_bind, run_eqGuard_agg (P := Try.prog) w .neq 30 x y _ _ (by kernel_rfl), Result.andThen_ok, run_neq_struct, equal_hashes hh hg]
theorem eql_hashes {h g : List Int} (hh : h.length = 32) (hg : g.length = 32) (x y : Operand) (w : World) : (do eqGuard .eql 30 x y (.agg (CELLS h).toArray) (.agg (CELLS g).toArray); binOp .eql 30 (.agg (CELLS h).toArray) (.agg (CELLS g).toArray) : Sem Value).run Try.prog w = .ok (.bool (decide (h = g))) w := by
  simp only [Sem.run_bind, run_eqGuard_agg (P := Try.prog) w .eql 30 x y _ _ (by kernel_rfl), Result.andThen_ok, run_eql_struct, equal_hashes hh hg]
end Go.Proofs.Ytlbcnaenhghieaa

/- A map from spots to places, made by the call. -/
namespace Go.Proofs.Ytlbcnaenhghieaa
open Go.RowKit Go.Maps
set_option maxRecDepth 100000

theorem laidOutP : laidOutB Try.prog = true := by kernel_rfl
/-- what a spot reads as, as a key. -/
def KL (h k : Nat) : Lit := .string (keyBytes [.int .u8 (h : Int), .int .u64 (k : Int)])
/-- a number as a datum. -/
abbrev U64 (n : Nat) : DataW Unit := .lit (.int .u64 (n : Int))
/-- the map holds just the nodes ahead of m, each with its place. -/
def MapOk (D : DataW Unit) (m : Nat) : Prop := ∀ h k, h < 256 → k < 2 ^ 64 → (Maps.has D (KL h k) = true ↔ Node h k ∧ PLC h k < m) ∧ (Node h k → PLC h k < m → D.atKey (KL h k) (U64 0) = U64 (PLC h k))
theorem MapOk.none : MapOk (.map []) 0 := fun h k _ _ => ⟨⟨fun e => by simp [Maps.has] at e, fun e => by omega⟩, fun _ e => by omega⟩
end Go.Proofs.Ytlbcnaenhghieaa

/- A map from hashes to the last indices at which they stand. -/
namespace Go.Proofs.Ytlbcnaenhghieaa
open Go.RowKit Go.Maps
set_option maxRecDepth 100000

/-- a hash: 32 bytes. -/
def FISH (h : List Int) : Prop := h.length = 32 ∧ ∀ x ∈ h, 0 ≤ x ∧ x ≤ 255
theorem rowF : (30 : TypeId) < Try.prog.types.size := of_decide_eq_true (by kernel_rfl)
theorem wideF : (match Try.prog.underlying 30 with | some (.array _ _) | some (.struct _) => true | _ => false) = true := by rw [Try.underlying30]
theorem lawF : Keyed Try.prog 30 := Keyed.of_law (deep_law_laid laidOutP (m := 2) (by omega) rowF (by kernel_rfl) wideF)
/-- what a hash reads as, as a key. -/
def HKF (h : List Int) : Lit := .string (keyBytes ((List.range 32).map fun i => [Lit.int .u8 (h.getD i 0)]).flatten)
theorem byte_wf {x : Int} (h : (Lit.int .u8 x).wf = true) : 0 ≤ x ∧ x ≤ 255 := by
  simp only [Lit.wf, Bool.and_eq_true, decide_eq_true_eq] at h
  exact h
theorem mapM_each {α β : Type} (f : α → Option β) (g : α → β) : ∀ l : List α, (∀ x ∈ l, f x = some (g x)) → l.mapM f = some (l.map g)
  | [], _ => rfl
  | x :: l, h => by
    rw [List.mapM_cons, h x (List.mem_cons_self ..), mapM_each f g l (fun y hy => h y (List.mem_cons_of_mem _ hy))]
    rfl
theorem mapM_mem {α β : Type} (f : α → Option β) : ∀ (l : List α) (r : List β), l.mapM f = some r → ∀ x ∈ l, ∃ y, f x = some y
  | [], _, _, x, hx => by simp at hx
  | a :: l, r, h, x, hx => by
    rw [List.mapM_cons] at h
    cases ha : f a with
    | none => rw [ha] at h; simp at h
    | some y =>
      rw [ha] at h
      cases hl : l.mapM f with
      | none => rw [hl] at h; simp at h
      | some r' =>
        rcases List.mem_cons.1 hx with rfl | hx'
        · exact ⟨y, ha⟩
        · exact mapM_mem f l r' hl x hx'
theorem hkf_ok {h : List Int} (hh : FISH h) : keyOf Try.prog 30 (.agg (CELLS h).toArray) = some (HKF h) := by
  have c3 : Try.prog.cellsOf 30 = 32 := by kernel_rfl
  have c1 : Try.prog.cellsOf 5 = 1 := by kernel_rfl
  have ht : Try.prog.keyType 30 = true := by kernel_rfl
  have hl : (CELLS h).length = 32 := by simp [CELLS, hh.1]
  have hf : (Value.agg (CELLS h).toArray).formed Try.prog 30 = true := by simp [Value.formed, Try.underlying30, c3, hl]
  obtain ⟨m, hm⟩ : ∃ m, Try.prog.types.size = m + 1 := ⟨Try.prog.types.size - 1, (Nat.succ_pred_eq_of_pos (Nat.lt_of_le_of_lt (Nat.zero_le _) rowF)).symm⟩
  unfold keyOf
  simp only [Try.underlying30, ht, hf, hm]
  simp only [Bool.and_self, if_true, Program.keyLits, Try.underlying30, Value.cells, c1, c3, hl]
  rw [mapM_each _ (fun i => [Lit.int .u8 (h.getD i 0)]) (List.range 32)]
  · rfl
  · intro i hi
    have hi : i < 32 := List.mem_range.1 hi
    have e : ((CELLS h).drop (i * 1)).take 1 = [.int .u8 (h.getD i 0)] := by
      rw [Nat.mul_one]
      apply List.ext_getElem?
      intro j
      rw [List.getElem?_take]
      cases j with
      | zero =>
        simp only [Nat.zero_lt_one, if_true, List.getElem?_drop, Nat.add_zero, List.getElem?_cons_zero]
        unfold CELLS
        rw [List.getElem?_map, List.getD_eq_getElem?_getD, List.getElem?_eq_getElem (by rw [hh.1]; exact hi)]
        rfl
      | succ j => simp
    have hr : 0 ≤ h.getD i 0 ∧ h.getD i 0 ≤ 255 := by
      rw [List.getD_eq_getElem?_getD, List.getElem?_eq_getElem (by rw [hh.1]; exact hi)]
      exact hh.2 _ (List.getElem_mem _)
    have w0 : (Lit.int .u8 (h.getD i 0)).wf = true := WalkArith.wf_u8 (by omega)
    rw [e]
    simp only [Try.underlying5]
    rw [if_pos ⟨trivial, w0⟩]
/-- what reads as a key is a hash. -/
theorem hkf_inv {v : Value} {kl : Lit} (h : keyOf Try.prog 30 v = some kl) : ∃ l, FISH l ∧ v = .agg (CELLS l).toArray := by
  have c3 : Try.prog.cellsOf 30 = 32 := by kernel_rfl
  have c1 : Try.prog.cellsOf 5 = 1 := by kernel_rfl
  obtain ⟨m, hm⟩ : ∃ m, Try.prog.types.size = m + 1 := ⟨Try.prog.types.size - 1, (Nat.succ_pred_eq_of_pos (Nat.lt_of_le_of_lt (Nat.zero_le _) rowF)).symm⟩
  unfold keyOf at h
  simp only [Try.underlying30, hm] at h
  split at h
  · rename_i hf
    simp only [Bool.and_eq_true] at hf
    obtain ⟨-, hf⟩ := hf
    cases v with
    | agg cs =>
      simp only [Value.formed, Try.underlying30, c3, beq_iff_eq] at hf
      have hl : cs.toList.length = 32 := by simpa using hf
      simp only [Program.keyLits, Try.underlying30, Value.cells, c1, c3, hl, if_true] at h
      have hi : ∀ i, i < 32 → ∃ n : Int, cs.toList[i]? = some (.int .u8 n) ∧ 0 ≤ n ∧ n ≤ 255 := by
        intro i hi
        simp only [Option.map_eq_some_iff] at h
        obtain ⟨_, ⟨r, hM, _⟩, _⟩ := h
        obtain ⟨y, hy⟩ := mapM_mem _ _ _ hM i (List.mem_range.2 hi)
        have e : (cs.toList.drop (i * 1)).take 1 = [cs.toList[i]'(by omega)] := by
          rw [Nat.mul_one]
          apply List.ext_getElem?
          intro j
          rw [List.getElem?_take]
          cases j with
          | zero => simp [List.getElem?_eq_getElem (show i < cs.toList.length by omega)]
          | succ j => simp
        rw [e] at hy
        simp only [Try.underlying5] at hy
        rw [List.getElem?_eq_getElem (show i < cs.toList.length by omega)]
        cases hc : cs.toList[i]'(by omega) with
        | int q n =>
          rw [hc] at hy
          by_cases hq : q = .u8 ∧ (Lit.int .u8 n).wf = true
          · obtain ⟨rfl, hw⟩ := hq
            have := byte_wf hw
            exact ⟨n, rfl, by omega, by omega⟩
          · simp [hq] at hy
        | _ => rw [hc] at hy; simp at hy
      let g : Nat → Int := fun i => match cs.toList[i]? with | some (.int _ n) => n | _ => 0
      refine ⟨(List.range 32).map g, ⟨by simp, fun x hx => ?_⟩, ?_⟩
      · obtain ⟨i, hi', rfl⟩ := List.mem_map.1 hx
        obtain ⟨n, e, r⟩ := hi i (List.mem_range.1 hi')
        simp only [g, e]
        exact r
      · congr 1
        apply Array.ext'
        rw [List.toList_toArray]
        unfold CELLS
        apply List.ext_getElem?
        intro i
        by_cases c : i < 32
        · obtain ⟨n, e, r⟩ := hi i c
          rw [e, List.getElem?_map, List.getElem?_map, List.getElem?_range c]
          simp only [Option.map_some, g, e]
        · rw [List.getElem?_eq_none (by omega), List.getElem?_eq_none (by simp; omega)]
    | _ => simp [Value.formed, Try.underlying30] at hf
  · cases h
theorem CELLS_one_to {h k : List Int} (e : CELLS h = CELLS k) : h = k := by
  unfold CELLS at e
  exact List.map_inj_right (f := Value.int .u8) (fun x y hxy => by simpa using hxy) |>.1 e
theorem HKF_inj {h k : List Int} (hh : FISH h) (hk : FISH k) (e : HKF h = HKF k) : h = k := by
  have h1 := hkf_ok hh
  have h2 := hkf_ok hk
  rw [← e] at h2
  have := lawF.inj h1 h2
  simp only [Value.agg.injEq] at this
  exact CELLS_one_to (by simpa using this)
theorem zeroF (w : World) : (zeroValue 3).run Try.prog w = .ok (.int .i64 0) w := by kernel_rfl
/-- the map's content: each hash that stands below n has its last index. -/
structure FOK (f : Nat → List Int) (n : Nat) (D : DataW Unit) : Prop where
  size : Maps.size D = UNL f n
  has : ∀ h, FISH h → (Maps.has D (HKF h) = true ↔ LSTI f n h ≠ -1)
  at_ : ∀ h, FISH h → LSTI f n h ≠ -1 → ∀ z, D.atKey (HKF h) z = .lit (.int .i64 (LSTI f n h))
/-- block b is such a map. -/
def FMAP (w : World) (b : Nat) (f : Nat → List Int) (n : Nat) : Prop := ∃ D : DataW Unit, w.ownsMap Try.prog 30 (plainElem Try.prog 3) b (UNL f n) D ∧ FOK f n D
theorem own_tight {w : World} {b n : Nat} {D : DataW Unit} (h : w.ownsMap Try.prog 30 (plainElem Try.prog 3) b n D) : w.ownsMap Try.prog 30 (plainElem Try.prog 3) b (Maps.size D) D := by
  obtain ⟨es, clock, hb, F, _, rfl⟩ := h
  exact ⟨es, clock, hb, F, by simp [Maps.size, length_sorted], rfl⟩
theorem FOK.none (f : Nat → List Int) : FOK f 0 (.map []) := ⟨rfl, fun h _ => by simp [Maps.has, LSTI], fun h _ e => absurd rfl e⟩
theorem FMAP.made (w : World) (f : Nat → List Int) : FMAP (w.alloc (.map #[] 0)) w.heap.size f 0 := ⟨_, World.ownsMap_made w _ _ _, FOK.none f⟩
theorem FMAP.lt {w : World} {b n : Nat} {f : Nat → List Int} (h : FMAP w b f n) : b < w.heap.size := let ⟨_, h1, _⟩ := h; h1.lt
theorem FMAP.at {w w' : World} {b n : Nat} {f : Nat → List Int} (h : FMAP w b f n) (hb : w'.heap[b]? = w.heap[b]?) : FMAP w' b f n := by
  obtain ⟨D, ⟨es, clock, h1, r⟩, h2⟩ := h
  exact ⟨D, ⟨es, clock, hb.trans h1, r⟩, h2⟩
theorem FMAP.congr {w : World} {b n : Nat} {f g : Nat → List Int} (h : FMAP w b f n) (e : ∀ i, i < n → f i = g i) : FMAP w b g n := by
  obtain ⟨D, h1, h2⟩ := h
  rw [UNL_congr e] at h1
  exact ⟨D, h1, by rw [← UNL_congr e]; exact h2.size, fun h hh => by rw [← LSTI_congr h e]; exact h2.has h hh, fun h hh => by rw [← LSTI_congr h e]; exact h2.at_ h hh⟩
/-- the last index of a hash, and whether there is one. -/
theorem FMAP.look {w : World} {b n : Nat} {f : Nat → List Int} (H : FMAP w b f n) {h : List Int} (hh : FISH h) : ∃ v, (Instr.lookup 50 (.map (some b)) (.agg (CELLS h).toArray) true).run Try.prog w = .ok (.tuple #[.int .i64 v, .bool (decide (LSTI f n h ≠ -1))]) w ∧ (LSTI f n h ≠ -1 → v = LSTI f n h) := by
  obtain ⟨D, h1, h2⟩ := H
  obtain ⟨v, ps, r1, r2⟩ := h1.look_ok lawF Try.underlying50 (zeroF w) (plainElem_int Try.underlying3 (by decide)) (hkf_ok hh)
  obtain ⟨c, rfl, hc, hwc⟩ := plainElem_int_inv Try.underlying3 r2
  have hc' := congrArg Prod.fst hc
  refine ⟨c, ?_, fun e => ?_⟩
  · rw [r1]
    have := h2.has h hh
    by_cases e : LSTI f n h = -1
    · have e2 : Maps.has D (HKF h) = false := by
        cases hb : Maps.has D (HKF h)
        · rfl
        · exact absurd e (this.1 hb)
      rw [e2]; simp [e]
    · rw [this.2 e]; simp [e]
  · rw [h2.at_ h hh e] at hc'
    simpa using hc'.symm
theorem look_noneF {h : List Int} (hh : FISH h) (w : World) : (Instr.lookup 50 (.map none) (.agg (CELLS h).toArray) true).run Try.prog w = .ok (.tuple #[.int .i64 0, .bool false]) w := by
  have hc := lawF.check w true (hkf_ok hh)
  rcases lawF.find w (hkf_ok hh) [] (fun e he => by cases he) with ⟨hf, _⟩ | ⟨j, e, _, he, _⟩
  · simp [Instr.lookup, run_underlying Try.underlying50, hc, hf]
  · simp at he
/-- a hash that stands: its last index, by the plain lookup. -/
theorem FMAP.get {w : World} {b n : Nat} {f : Nat → List Int} (H : FMAP w b f n) {h : List Int} (hh : FISH h) (hn : LSTI f n h ≠ -1) : (Instr.lookup 50 (.map (some b)) (.agg (CELLS h).toArray) false).run Try.prog w = .ok (.int .i64 (LSTI f n h)) w := by
  obtain ⟨D, h1, h2⟩ := H
  obtain ⟨c, r1, r2, _⟩ := h1.lookup_int lawF Try.underlying50 Try.underlying3 (zeroF w) (hkf_ok hh)
  rw [h2.at_ h hh hn] at r2
  simp at r2
  rw [r1, r2]
/-- one leaf more. -/
theorem FMAP.add {w : World} {b n : Nat} {f : Nat → List Int} (H : FMAP w b f n) (hn : n < 2 ^ 40) (hh : FISH (f n)) : ∃ w', (Instr.mapUpdate 50 (.map (some b)) (.agg (CELLS (f n)).toArray) (.int .i64 (n : Int))).run Try.prog w = .ok () w' ∧ FMAP w' b f (n + 1) ∧ w.grownBy w' (some b) := by
  obtain ⟨D, h1, h2⟩ := H
  have hu := UNL_le f n
  obtain ⟨w', r1, r2, r3⟩ := h1.update lawF Try.underlying50 (by unfold maxLen; omega) (hkf_ok hh) (plainElem_int Try.underlying3 (WalkArith.wf_i64 (n := (n : Int)) (by omega)))
  have hkey : WideAt.IsKeyLit (HKF (f n)) := lawF.key (hkf_ok hh)
  have hs : Maps.size (D.put (HKF (f n)) (.lit (.int .i64 (n : Int)))) = UNL f (n + 1) := by
    rw [Maps.size_put (h1.tidy lawF), h2.size, UNL]
    by_cases c : LSTI f n (f n) = -1
    · rw [if_pos c, if_neg (fun x => (h2.has _ hh).1 x c)]
    · rw [if_neg c, if_pos ((h2.has _ hh).2 c)]; rfl
  refine ⟨w', r1, ⟨_, hs ▸ own_tight r2, hs, fun h hf => ?_, fun h hf e z => ?_⟩, r3⟩
  · by_cases e : f n = h
    · subst e
      rw [Maps.has_put_same h1.isMap hkey, LSTI, if_pos rfl]
      exact ⟨fun _ => by omega, fun _ => rfl⟩
    · have hne : HKF h ≠ HKF (f n) := fun x => e (HKF_inj hf hh x).symm
      rw [Maps.has_put_other hne, LSTI, if_neg e]
      exact h2.has h hf
  · by_cases c : f n = h
    · subst c
      rw [Maps.atKey_put_same h1.isMap hkey, LSTI, if_pos rfl]
    · have hne : HKF h ≠ HKF (f n) := fun x => c (HKF_inj hf hh x).symm
      rw [LSTI, if_neg c] at e
      rw [Maps.atKey_put_other hne, LSTI, if_neg c]
      exact h2.at_ h hf e z
/-- the last leaf is forgotten, where it stood once alone. -/
theorem FMAP.del {w : World} {b n : Nat} {f : Nat → List Int} (H : FMAP w b f (n + 1)) (hh : FISH (f n)) (h0 : LSTI f n (f n) = -1) (ty : TypeId) : ∃ w', (Builtin.delete_ #[50, 30] ty #[.map (some b), .agg (CELLS (f n)).toArray]).run Try.prog w = .ok (.tuple #[]) w' ∧ FMAP w' b f n ∧ w.mapTurned w' b := by
  obtain ⟨D, h1, h2⟩ := H
  obtain ⟨w', r1, r2, r3⟩ := h1.drop lawF Try.underlying50 (hkf_ok hh) ty
  have ha : Maps.has D (HKF (f n)) = true := (h2.has _ hh).2 (by rw [LSTI, if_pos rfl]; omega)
  have hs : Maps.size (D.del (HKF (f n))) = UNL f n := by
    have := Maps.size_del (k := HKF (f n)) (h1.tidy lawF)
    rw [ha, if_pos rfl, h2.size, UNL, if_pos h0] at this
    omega
  refine ⟨w', r1, ⟨_, hs ▸ own_tight r2, hs, fun h hf => ?_, fun h hf e z => ?_⟩, r3⟩
  · by_cases e : f n = h
    · subst e
      rw [Maps.has_del_same]
      simp [h0]
    · have hne : HKF h ≠ HKF (f n) := fun x => e (HKF_inj hf hh x).symm
      rw [Maps.has_del_other hne, h2.has h hf, LSTI, if_neg e]
  · have c : f n ≠ h := fun c => e (c ▸ h0)
    have hne : HKF h ≠ HKF (f n) := fun x => c (HKF_inj hf hh x).symm
    rw [Maps.atKey_del_other hne, h2.at_ h hf (by rw [LSTI, if_neg c]; exact e), LSTI, if_neg c]
/-- the last leaf is forgotten, where it stood ahead, too. -/
theorem FMAP.back {w : World} {b n : Nat} {f : Nat → List Int} (H : FMAP w b f (n + 1)) (hn : n < 2 ^ 40) (hh : FISH (f n)) (h0 : LSTI f n (f n) ≠ -1) : ∃ w', (Instr.mapUpdate 50 (.map (some b)) (.agg (CELLS (f n)).toArray) (.int .i64 (LSTI f n (f n)))).run Try.prog w = .ok () w' ∧ FMAP w' b f n ∧ w.grownBy w' (some b) := by
  obtain ⟨D, h1, h2⟩ := H
  have hu := UNL_le f (n + 1)
  have hr := LSTI_range f (f n) n
  obtain ⟨w', r1, r2, r3⟩ := h1.update lawF Try.underlying50 (by unfold maxLen; omega) (hkf_ok hh) (plainElem_int Try.underlying3 (WalkArith.wf_i64 (n := LSTI f n (f n)) (by omega)))
  have hkey : WideAt.IsKeyLit (HKF (f n)) := lawF.key (hkf_ok hh)
  have hs : Maps.size (D.put (HKF (f n)) (.lit (.int .i64 (LSTI f n (f n))))) = UNL f n := by
    rw [Maps.size_put (h1.tidy lawF), h2.size, UNL, if_neg h0, if_pos ((h2.has _ hh).2 (by rw [LSTI, if_pos rfl]; omega))]; rfl
  refine ⟨w', r1, ⟨_, hs ▸ own_tight r2, hs, fun h hf => ?_, fun h hf e z => ?_⟩, r3⟩
  · by_cases e : f n = h
    · subst e
      rw [Maps.has_put_same h1.isMap hkey]
      exact ⟨fun _ => h0, fun _ => rfl⟩
    · have hne : HKF h ≠ HKF (f n) := fun x => e (HKF_inj hf hh x).symm
      rw [Maps.has_put_other hne, h2.has h hf, LSTI, if_neg e]
  · by_cases c : f n = h
    · subst c
      rw [Maps.atKey_put_same h1.isMap hkey]
    · have hne : HKF h ≠ HKF (f n) := fun x => c (HKF_inj hf hh x).symm
      rw [Maps.atKey_put_other hne, h2.at_ h hf (by rw [LSTI, if_neg c]; exact e), LSTI, if_neg c]
theorem FMAP.count {w : World} {b n : Nat} {f : Nat → List Int} (H : FMAP w b f n) (ty : TypeId) : (Builtin.len_ #[50] ty #[.map (some b)]).run Try.prog w = .ok (.int .i64 (UNL f n : Nat)) w := by
  obtain ⟨D, h1, h2⟩ := H
  rw [h1.len Try.underlying50 ty, h2.size]
theorem FMAP.grown {w w' : World} {b n : Nat} {f : Nat → List Int} {row : Option Nat} (h : FMAP w b f n) (hg : w.grownBy w' row) (hne : row ≠ some b) : FMAP w' b f n := h.at (hg.block b h.lt (fun e => hne e.symm))
theorem FMAP.below {w w' : World} {b n B : Nat} {f : Nat → List Int} (h : FMAP w b f n) (hb : Below B w w') (hB : b < B) : FMAP w' b f n := h.at (hb.block b hB)
end Go.Proofs.Ytlbcnaenhghieaa
