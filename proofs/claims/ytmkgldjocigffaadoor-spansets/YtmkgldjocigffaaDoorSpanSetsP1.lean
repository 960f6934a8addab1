/- Texts of SpanSets, one behind the other: NumPlain, NumCalls, NumSlice, NumByteCalls, NumAppend, NumShortCalls, NumPop. -/
import Derived.WalkKit
import Derived.WalkLawsBesides
import Derived.OpenShut
import Derived.Test.YtmkgldjocigffaaDoorProg
import Derived.Deep.LoopGhost
import Derived.Deep.OwnRows
import Derived.Deep.QuietTactic
import Derived.BigQuiet
import Derived.Deep.AppendLies
import Derived.Laws.AppendOwnNone
/- Plain facts on numbers of 64 bits and their bits; no Go in sight. -/
namespace Go.Proofs.YtmkgldjocigffaaDoor
open Go.RowKit

/-- x times 2^n, rounded down, modulo 2^64. -/
def SHL (x : Nat) (n : Int) : Nat := if n < 0 then x / 2 ^ (-n).toNat else x * 2 ^ n.toNat % 2 ^ 64
/-- the lowest n bits. -/
def MASK (n : Int) : Nat := 2 ^ min n.toNat 64 - 1
/-! bit by bit -/
/-! what the walk writes -/
theorem wf_u64 {x : Int} (h : (Lit.int .u64 x).wf = true) : 0 ≤ x ∧ x < 2 ^ 64 := by
  have := bounds_u64 h
  omega
theorem wrapU (z : Int) : IntKind.u64.wrap z = z % 2 ^ 64 := by rw [IntKind.wrap_u64]; rfl
theorem up_eq (n : Int) (h0 : n < 2 ^ 63) (h : ¬ n < 0) : (IntKind.u64.wrap n).toNat = n.toNat := by
  rw [wrapU]; omega
theorem div_cast (X k : Nat) : (X : Int) / 2 ^ k = ((X / 2 ^ k : Nat) : Int) := by simp
theorem mul_cast (X k : Nat) : IntKind.u64.wrap ((X : Int) * 2 ^ k) = ((X * 2 ^ k % 2 ^ 64 : Nat) : Int) := by rw [wrapU]; simp
theorem mask_raw_eq {n : Int} (h1 : n < 2 ^ 63) :
    (if n ≤ 0 then 0 else IntKind.u64.wrap (IntKind.u64.wrap (1 * 2 ^ min (IntKind.u64.wrap n).toNat 64) - 1)) = ((MASK n : Nat) : Int) := by
  unfold MASK
  split
  · rename_i h
    rw [show n.toNat = 0 by omega]; rfl
  · rename_i h
    rw [up_eq n h1 (by omega)]
    have e : (1 : Int) * 2 ^ min n.toNat 64 = ((2 ^ min n.toNat 64 : Nat) : Int) := by simp
    rw [e, wrapU, wrapU]
    have h1 : 2 ^ min n.toNat 64 ≤ 2 ^ 64 := Nat.pow_le_pow_right (by decide) (Nat.min_le_right _ _)
    have h2 : 0 < 2 ^ min n.toNat 64 := Nat.two_pow_pos _
    generalize 2 ^ min n.toNat 64 = p at *
    omega
theorem and_eq {a b : Nat} (ha : a < 2 ^ 64) (hb : b < 2 ^ 64) : bits .and .u64 (a : Int) (b : Int) = ((a &&& b : Nat) : Int) := bits_and_u64_nat a b ha hb
theorem or_eq {a b : Nat} (ha : a < 2 ^ 64) (hb : b < 2 ^ 64) : bits .or .u64 (a : Int) (b : Int) = ((a ||| b : Nat) : Int) := bits_or_u64_nat a b ha hb
theorem ofInt_toNat (n : Int) : (BitVec.ofInt 64 n).toNat = (n % 2 ^ 64).toNat := by simp [BitVec.toNat_ofInt]
theorem and127 (n : Int) : bits .and .i64 n 127 = n % 128 := by
  show IntKind.i64.wrap ((BitVec.ofInt 64 n &&& BitVec.ofInt 64 127).toNat : Int) = _
  have h7 : (BitVec.ofInt 64 127).toNat = 127 := by decide
  rw [BitVec.toNat_and, ofInt_toNat, h7, nat_mask7, IntKind.wrap_i64]
  omega

/-! shifts in two parts -/
/-! fields -/
end Go.Proofs.YtmkgldjocigffaaDoor

/- What the small functions of package num answer, call by call, and that awake answers true. -/
namespace Go.Proofs.YtmkgldjocigffaaDoor
open Go.RowKit

theorem mask_raw (n : Int) (w : World) : Calls Tryd.prog 68 #[.int .i64 n] w fun e w' => e = .returned (.int .u64 (if n ≤ 0 then 0 else IntKind.u64.wrap (IntKind.u64.wrap (1 * 2 ^ min (IntKind.u64.wrap n).toNat 64) - 1))) ∧ w = w' := by
  by_cases h : n ≤ 0
  · rw [if_pos h]
    go_enter Tryd.func68, Tryd.ntmps68
    go_wp2
    go_ret
    exact ⟨rfl, rfl⟩
  · rw [if_neg h]
    go_enter Tryd.func68, Tryd.ntmps68
    go_wp2
    go_ret
    exact ⟨rfl, rfl⟩

theorem mask_ok (n : Int) (h1 : n < 2 ^ 63) (w : World) : Calls Tryd.prog 68 #[.int .i64 n] w fun e w' => e = .returned (.int .u64 ((MASK n : Nat) : Int)) ∧ w = w' :=
  (mask_raw n w).mono fun e w' h => by rw [mask_raw_eq h1] at h; exact h

end Go.Proofs.YtmkgldjocigffaaDoor

/- Slices of bytes: rows of cells by a function; what a slice reads as. -/
namespace Go.Proofs.YtmkgldjocigffaaDoor
open Go.RowKit

theorem info_u8 : (Tryd.prog.info? 5).map (fun i => (i.zero, i.size, i.bytes)) = some (some (.int .u8 0), 1, 1) := by kernel_rfl
/-- a slice that came in: nil, or a row of cells, each a byte. -/
def IsRow (k : IntKind) (w : World) (a : Option Addr) (len cap : Nat) (zs : List Int) : Prop :=
  (a = none ∧ len = 0 ∧ cap = 0 ∧ zs = []) ∨
  ∃ x, a = some x ∧ len ≤ cap ∧ cap ≤ maxLen ∧ zs.length = cap ∧ (∀ i, i < zs.length → w.cell? (x.add i) = some (.int k (zs.getD i 0))) ∧ ∀ n ∈ zs, (Lit.int k n).wf = true

/-- a slice of n bytes reads as l. -/
def Bytes (w : World) (a : Option Addr) (n : Nat) (l : List Int) : Prop :=
  l.length = n ∧ (0 < n → ∃ b off, a = some ⟨b, off, none⟩ ∧ b < w.heap.size ∧ ∀ i, i < n → w.cell? ⟨b, off + i, none⟩ = some (.int .u8 (l.getD i 0))) ∧ ∀ x ∈ l, 0 ≤ x ∧ x ≤ 255
theorem Bytes.below {w w' : World} {a : Option Addr} {n : Nat} {l : List Int} (h : Bytes w a n l) (hb : Below w.heap.size w w') : Bytes w' a n l :=
  ⟨h.1, fun hn => by
    obtain ⟨b, off, e, hl, hc⟩ := h.2.1 hn
    exact ⟨b, off, e, Nat.lt_of_lt_of_le hl hb.size, fun i hi => (hb.cell (by exact hl)).trans (hc i hi)⟩, h.2.2⟩
theorem addr_add (b off i : Nat) : (⟨b, off, none⟩ : Addr).add i = ⟨b, off + i, none⟩ := by unfold Addr.add; split <;> simp_all
theorem IsRow.bytes {w : World} {a : Option Addr} {n c : Nat} {zs : List Int} (h : IsRow .u8 w a n c zs) : Bytes w a n (zs.take n) := by
  rcases h with ⟨rfl, rfl, rfl, rfl⟩ | ⟨x, rfl, hl, _, hz, hcell, hwf⟩
  · exact ⟨rfl, fun h => by omega, fun x hx => by simp at hx⟩
  · refine ⟨by simp [hz, hl], fun hn => ?_, fun y hy => ?_⟩
    · obtain ⟨b, off, spot⟩ := x
      have hc := hcell 0 (by omega)
      have hspot : spot = none := by simpa [Addr.add] using World.cell?_spot hc
      subst hspot
      refine ⟨b, off, rfl, block_lt_of_cell (by simpa [Addr.add] using hc), fun i hi => ?_⟩
      have := hcell i (by omega)
      rw [addr_add] at this
      rw [this]
      congr 2
      simp [List.getD_eq_getElem?_getD, hi]
    · have := bounds_u8 (hwf y (List.mem_of_mem_take hy))
      exact this

end Go.Proofs.YtmkgldjocigffaaDoor

/- What FromBig and Big of package num and the law's same answer. -/
namespace Go.Proofs.YtmkgldjocigffaaDoor
open Go.RowKit

end Go.Proofs.YtmkgldjocigffaaDoor

/- append of bytes onto a row of the call's own. -/
namespace Go.Proofs.YtmkgldjocigffaaDoor
open Go.RowKit

/-- bytes as cells. -/
def CELLS (l : List Int) : List Value := l.map (Value.int .u8)
theorem CELLS_append (a b : List Int) : CELLS (a ++ b) = CELLS a ++ CELLS b := by simp [CELLS]
theorem CELLS_get (l : List Int) (i : Nat) (h : i < l.length) : (CELLS l)[i]? = some (.int .u8 (l.getD i 0)) := by
  simp [CELLS, h, List.getD_eq_getElem?_getD]
theorem CELLS_one (l : List Int) : ∀ u ∈ CELLS l, u.oneCell' = true := fun u hu => by
  simp [CELLS] at hu
  obtain ⟨x, _, rfl⟩ := hu
  rfl
theorem info_parts_u8 : ∃ i, Tryd.prog.info? 5 = some i ∧ i.zero = some (.int .u8 0) ∧ i.size = 1 ∧ i.bytes = 1 := by
  obtain ⟨i, hi, h⟩ := Option.map_eq_some_iff.1 info_u8
  simp only [Prod.mk.injEq] at h
  exact ⟨i, hi, h.1, h.2.1, h.2.2⟩

theorem app_u8 {ops : Array Oper} {rest : List Oper} {o : Oper} {a : Act} {Q : Exit → Act → World → Prop} (w : World) (hgd : o.guard = none) (s x : Operand)
    (ho : o.op = .call { callee := .builtin .append, args := #[s, x], argTypes := #[38, 38] })
    (base : Nat) (v : Value) (n : Nat) (xs : List Int) (hs : a.eval s = v) (hown : w.ownsRow base 5 1 v n (CELLS xs))
    (b off m c : Nat) (l : List Int) (hx : a.eval x = .slice (some ⟨b, off, none⟩) m c) (hB : Bytes w (some ⟨b, off, none⟩) m l)
    (hm : 0 < m) (hb : n + m ≤ 140737488355328) (hbase : base ≤ w.heap.size)
    (h : ∀ g cap w', w'.ownsRow base 5 1 (.slice (some ⟨g, 0, none⟩) (n + m) cap) (n + m) (CELLS (xs ++ l)) → w.grownBy w' v.ownBlock → g < w'.heap.size → wpList Tryd.prog ops Q rest (a.put o.dst (.slice (some ⟨g, 0, none⟩) (n + m) cap)) w') : wpList Tryd.prog ops Q (o :: rest) a w := by
  obtain ⟨i, hi, hz, hs1, hby⟩ := info_parts_u8
  obtain ⟨b', off', e, _, hc⟩ := hB.2.1 hm
  simp only [Option.some.injEq, Addr.mk.injEq] at e
  obtain ⟨rfl, rfl, _⟩ := e
  refine wpList_append_lies w hgd s x 38 ho base 5 i (.int .u8 0) 1 1 Tryd.underlying38 hi hz hs1 hby rfl (by decide) v n (CELLS xs) hs hown ⟨b, off, none⟩ m c (CELLS l) hx (by simp [CELLS, hB.1]) ?_ (CELLS_one l) hm (by simp only [maxLen]; omega) (by omega) hbase w.heap.size rfl ?_
  · intro j u hj
    have hjl : j < l.length := by
      have := (List.getElem?_eq_some_iff.1 hj).1
      simpa [CELLS] using this
    rw [CELLS_get l j hjl] at hj
    rw [addr_add, hc j (by rw [← hB.1]; exact hjl)]
    exact hj
  · intro g cap w' h1 h2 _ h4
    rw [← CELLS_append] at h1
    exact h g cap w' h1 h2 h4

/-- what is owned reads so. -/
theorem own_bytes {w : World} {base g n cap : Nat} {l : List Int} (h : w.ownsRow base 5 1 (.slice (some ⟨g, 0, none⟩) n cap) n (CELLS l)) (hg : g < w.heap.size) (hl : ∀ x ∈ l, 0 ≤ x ∧ x ≤ 255) : Bytes w (some ⟨g, 0, none⟩) n l := by
  have hlen : l.length = n := by have := h.1; simpa [CELLS] using this
  refine ⟨hlen, fun _ => ⟨g, 0, rfl, hg, fun i hi => ?_⟩, hl⟩
  rw [Nat.zero_add, h.cellAt i (by omega), CELLS_get l i (by omega)]
/-! bytes and their number -/
end Go.Proofs.YtmkgldjocigffaaDoor

/- What Short of package num answers. -/
namespace Go.Proofs.YtmkgldjocigffaaDoor
open Go.RowKit

/-- the j lowest groups of 7 bits, 128 added to each. -/
def GROUPS (X j : Nat) : List Int := (List.range j).map fun i => ((X / 128 ^ i % 128 + 128 : Nat) : Int)
theorem GROUPS_succ (X j : Nat) : GROUPS X (j + 1) = GROUPS X j ++ [((X / 128 ^ j % 128 + 128 : Nat) : Int)] := by simp [GROUPS, List.range_succ]
theorem GROUPS_length (X j : Nat) : (GROUPS X j).length = j := by simp [GROUPS]
/-- how many groups but the last one X has. -/
def TOPG (X : Nat) : Nat → Nat
  | 0 => 0
  | k + 1 => if X < 128 then 0 else TOPG (X / 128) k + 1
def NTOP (X : Nat) : Nat := TOPG X 9
/-- X in groups of 7 bits, the lowest first. -/
def SHORT (X : Nat) : List Int := GROUPS X (NTOP X) ++ [((X / 128 ^ NTOP X : Nat) : Int)]
theorem SHORT_length (X : Nat) : (SHORT X).length = NTOP X + 1 := by simp [SHORT, GROUPS_length]
theorem TOPG_le : ∀ (k X : Nat), TOPG X k ≤ k
  | 0, _ => Nat.le_refl _
  | k + 1, X => by
    unfold TOPG
    split
    · omega
    · have := TOPG_le k (X / 128)
      omega
theorem TOPG_below : ∀ (k X j : Nat), j < TOPG X k → 128 ≤ X / 128 ^ j
  | 0, _, _, h => by simp [TOPG] at h
  | k + 1, X, j, h => by
    unfold TOPG at h
    split at h
    · omega
    · cases j with
      | zero => simp; omega
      | succ j =>
        have := TOPG_below k (X / 128) j (by omega)
        rw [Nat.div_div_eq_div_mul, Nat.mul_comm, ← Nat.pow_succ] at this
        exact this
theorem TOPG_at : ∀ (k X : Nat), X < 128 ^ (k + 1) → X / 128 ^ TOPG X k < 128
  | 0, X, h => by simpa [TOPG] using h
  | k + 1, X, h => by
    unfold TOPG
    split
    · simpa using ‹X < 128›
    · have := TOPG_at k (X / 128) (by rw [Nat.pow_succ] at h; exact Nat.div_lt_of_lt_mul (by omega))
      rw [Nat.div_div_eq_div_mul, Nat.mul_comm, ← Nat.pow_succ] at this
      exact this
theorem NTOP_le (X : Nat) : NTOP X ≤ 9 := TOPG_le 9 X
theorem NTOP_at {X : Nat} (hX : X < 2 ^ 64) : X / 128 ^ NTOP X < 128 := TOPG_at 9 X (Nat.lt_of_lt_of_le hX (by decide))
theorem NTOP_eq {X : Nat} (hX : X < 2 ^ 64) {j : Nat} (hj : ∀ i, i < j → 128 ≤ X / 128 ^ i) (h : X / 128 ^ j < 128) : NTOP X = j := by
  rcases Nat.lt_trichotomy (NTOP X) j with h1 | h1 | h1
  · have := hj _ h1
    have := NTOP_at hX
    omega
  · exact h1
  · have := TOPG_below 9 X j h1
    omega
theorem div_anti (X : Nat) {i j : Nat} (h : i ≤ j) : X / 128 ^ j ≤ X / 128 ^ i := Nat.div_le_div_left (Nat.pow_le_pow_right (by decide) h) (Nat.pow_pos (by decide))
theorem GROUPS_range (X j : Nat) : ∀ x ∈ GROUPS X j, 0 ≤ x ∧ x ≤ 255 := fun x hx => by
  simp only [GROUPS, List.mem_map] at hx
  obtain ⟨i, _, rfl⟩ := hx
  omega
theorem SHORT_range {X : Nat} (hX : X < 2 ^ 64) : ∀ x ∈ SHORT X, 0 ≤ x ∧ x ≤ 255 := fun x hx => by
  simp only [SHORT, List.mem_append, List.mem_singleton] at hx
  rcases hx with hx | rfl
  · exact GROUPS_range X _ x hx
  · have := NTOP_at hX
    generalize X / 128 ^ NTOP X = y at *
    omega

theorem one_bytes (w : World) (v : Int) (h0 : 0 ≤ v) (h1 : v ≤ 255) : Bytes (w.alloc (.cells #[.int .u8 v] 5)) (some ⟨w.heap.size, 0, none⟩) 1 [v] := by
  refine ⟨rfl, fun _ => ⟨w.heap.size, 0, rfl, by simp, fun i hi => ?_⟩, fun x hx => by simp at hx; omega⟩
  obtain rfl : i = 0 := by omega
  rw [Nat.zero_add, World.cell?_alloc_at _ _ _ _ rfl]
  rfl
theorem own_made (w : World) (base : Nat) (hb : base ≤ w.heap.size) (cur : Array Value) (cap : Nat) (hm : cap ≤ 1000) (hs : cur.size = cap) : (w.alloc (.cells cur 5)).ownsRow base 5 1 (.slice (some ⟨w.heap.size, 0, none⟩) 0 cap) 0 (CELLS []) :=
  World.ownsRow_made w cur cap hb (by simp only [maxLen]; omega) (by omega)

set_option maxHeartbeats 1000000 in
theorem short_ok (X : Nat) (hX : X < 2 ^ 64) (w : World) : Calls Tryd.prog 58 #[.int .u64 (X : Int)] w fun e w' =>
    ∃ g cap, e = .returned (.slice (some ⟨g, 0, none⟩) (NTOP X + 1) cap) ∧ w'.ownsRow w.heap.size 5 1 (.slice (some ⟨g, 0, none⟩) (NTOP X + 1) cap) (NTOP X + 1) (CELLS (SHORT X)) ∧ g < w'.heap.size ∧ Below w.heap.size w w' := by
  have hmk : ∀ w : World, (Instr.makeSlice 38 (.int .i64 0) (.int .i64 10)).run Tryd.prog w = .ok (.slice (some ⟨w.heap.size, 0, none⟩) 0 10) (w.alloc (.cells #[.int .u8 0, .int .u8 0, .int .u8 0, .int .u8 0, .int .u8 0, .int .u8 0, .int .u8 0, .int .u8 0, .int .u8 0, .int .u8 0] 5)) := fun _ => by kernel_rfl
  have HX : Aside (X < 2 ^ 64) := hX
  clear hX
  go_enter Tryd.func58, Tryd.ntmps58
  go_wp2
  go_loopg [0, 3] 10 (fun g s0 s3 wx => ∃ (j x : Nat), j + g = 10 ∧ Aside (x = X / 128 ^ j ∧ (∀ i, i < j → 128 ≤ X / 128 ^ i) ∧ wx.ownsRow w.heap.size 5 1 s3 j (CELLS (GROUPS X j)) ∧ Below w.heap.size w wx) ∧ s0 = .int .u64 (x : Int))
  case atStart => exact ⟨0, X, by omega, ⟨by simp, fun i hi => by omega, own_made w _ (Nat.le_refl _) _ 10 (by decide) rfl, (Below.refl _ _).alloc (Nat.le_refl _) _⟩, rfl⟩
  case round =>
    obtain ⟨j, x, hjg, A, rfl⟩ := hrel
    by_cases hx : 128 ≤ (x : Int)
    · go_wp2_with (at_builtin; refine app_u8 _ rfl (.tmp 9) (.tmp 14) rfl w.heap.size u3 j (GROUPS X j) rfl (A.out.2.2.1.alloc _) wr.heap.size 0 1 1 [(x : Int) % 128 + 128] rfl (one_bytes wr _ (by omega) (by omega)) (by omega) (by omega) (by have := A.out.2.2.2.size; simp; omega) ?_; intro g cap w1 hown hgrow hg)
      have R : (x / 128 = X / 128 ^ (j + 1)) ∧ (∀ i, i < j + 1 → 128 ≤ X / 128 ^ i) ∧ w1.ownsRow w.heap.size 5 1 (.slice (some ⟨g, 0, none⟩) (j + 1) cap) (j + 1) (CELLS (GROUPS X (j + 1))) ∧ Below w.heap.size w w1 := by
        obtain ⟨hxe, hall, hown0, hb⟩ := A.out
        refine ⟨by rw [hxe, Nat.div_div_eq_div_mul, ← Nat.pow_succ], fun i hi => ?_, ?_, ?_⟩
        · by_cases e : i = j
          · rw [e, ← hxe]; omega
          · exact hall i (by omega)
        · rw [GROUPS_succ, show ((X / 128 ^ j % 128 + 128 : Nat) : Int) = (x : Int) % 128 + 128 by rw [← hxe]; omega]
          exact hown
        · exact (hb.alloc hb.size _).grown hgrow (by have := hb.size; simp; omega) (fun k e => (hown0.lt k e).1)
      have HR : Aside ((x / 128 = X / 128 ^ (j + 1)) ∧ (∀ i, i < j + 1 → 128 ≤ X / 128 ^ i) ∧ w1.ownsRow w.heap.size 5 1 (.slice (some ⟨g, 0, none⟩) (j + 1) cap) (j + 1) (CELLS (GROUPS X (j + 1))) ∧ Below w.heap.size w w1) := R
      have hj9 : j < 9 := by
        obtain ⟨hxe, hall, _, _⟩ := A.out
        rcases Nat.lt_or_ge j 9 with h | h
        · exact h
        · have h1 := div_anti X h
          have h2 : X / 128 ^ 9 < 2 := Nat.div_lt_of_lt_mul (Nat.lt_of_lt_of_le HX.out (by decide))
          omega
      clear hown hgrow hg R A
      go_wp2
      go_roundg (gk - 1)
      case measure => omega
      case rel => exact ⟨j + 1, x / 128, by omega, HR, by first | rfl | go_num⟩
    · go_wp2_with (at_builtin; refine app_u8 _ rfl (.tmp 16) (.tmp 19) rfl w.heap.size u3 j (GROUPS X j) rfl (A.out.2.2.1.alloc _) wr.heap.size 0 1 1 [(x : Int)] rfl (one_bytes wr _ (by omega) (by omega)) (by omega) (by omega) (by have := A.out.2.2.2.size; simp; omega) ?_; intro g cap w1 hown hgrow hg)
      obtain ⟨hxe, hall, hown0, hb⟩ := A.out
      have hN : NTOP X = j := NTOP_eq HX.out hall (by rw [← hxe]; omega)
      have R : w1.ownsRow w.heap.size 5 1 (.slice (some ⟨g, 0, none⟩) (NTOP X + 1) cap) (NTOP X + 1) (CELLS (SHORT X)) ∧ g < w1.heap.size ∧ Below w.heap.size w w1 := by
        refine ⟨?_, hg, (hb.alloc hb.size _).grown hgrow (by have := hb.size; simp; omega) (fun k e => (hown0.lt k e).1)⟩
        unfold SHORT
        rw [hN, ← hxe]
        exact hown
      have HR : Aside (w1.ownsRow w.heap.size 5 1 (.slice (some ⟨g, 0, none⟩) (NTOP X + 1) cap) (NTOP X + 1) (CELLS (SHORT X)) ∧ g < w1.heap.size ∧ Below w.heap.size w w1) := R
      have HN : Aside (NTOP X = j) := hN
      clear hown hgrow hg R A hxe hall hown0 hb hN
      go_wp2
      go_ret
      obtain ⟨h1, h2, h3⟩ := HR.out
      refine ⟨g, cap, ?_, h1, h2, h3⟩
      rw [HN.out]
      rfl
end Go.Proofs.YtmkgldjocigffaaDoor

/- How many bits are set: sums of digits, two at a time; no Go in sight. -/
namespace Go.Proofs.YtmkgldjocigffaaDoor
open Go.RowKit

/-- the sum of the n lowest digits of w bits. -/
def DSUM (w : Nat) : Nat → Nat → Nat
  | 0, _ => 0
  | n + 1, x => x % 2 ^ w + DSUM w n (x / 2 ^ w)
/-- every second one of 2 n digits of k bits, all their bits. -/
def MSK (k : Nat) : Nat → Nat
  | 0 => 0
  | n + 1 => (2 ^ k - 1) + 2 ^ (2 * k) * MSK k n
/-- digits of k bits put together two by two. -/
def ADDF (k : Nat) : Nat → Nat → Nat
  | 0, _ => 0
  | n + 1, x => (x % 2 ^ k + x / 2 ^ k % 2 ^ k) + 2 ^ (2 * k) * ADDF k n (x / 2 ^ (2 * k))
/-- every digit is at most D. -/
def DLE (w D : Nat) : Nat → Nat → Prop
  | 0, _ => True
  | n + 1, x => x % 2 ^ w ≤ D ∧ DLE w D n (x / 2 ^ w)

theorem and_split (b q r s t : Nat) (hr : r < 2 ^ b) (hs : s < 2 ^ b) : (r + 2 ^ b * q) &&& (s + 2 ^ b * t) = (r &&& s) + 2 ^ b * (q &&& t) := by
  rw [Nat.add_comm r, Nat.add_comm s, Nat.add_comm (r &&& s)]
  apply Nat.eq_of_testBit_eq
  intro i
  have hrs : r &&& s < 2 ^ b := Nat.lt_of_le_of_lt Nat.and_le_left hr
  rw [Nat.testBit_and, Nat.testBit_two_pow_mul_add _ hr, Nat.testBit_two_pow_mul_add _ hs, Nat.testBit_two_pow_mul_add _ hrs]
  split
  · rw [Nat.testBit_and]
  · rw [Nat.testBit_and]
theorem sq_pow (k : Nat) : 2 ^ (2 * k) = 2 ^ k * 2 ^ k := by rw [Nat.two_mul, Nat.pow_add]
theorem low_lt (k : Nat) : 2 ^ k - 1 < 2 ^ (2 * k) := by
  have h1 : 2 ^ k ≤ 2 ^ (2 * k) := Nat.pow_le_pow_right (by decide) (by omega)
  have h2 := Nat.two_pow_pos k
  omega
theorem split2 (k x : Nat) : x = x % 2 ^ (2 * k) + 2 ^ (2 * k) * (x / 2 ^ (2 * k)) := (Nat.mod_add_div _ _).symm
theorem mod_mod2 (k x : Nat) : x % 2 ^ (2 * k) % 2 ^ k = x % 2 ^ k := Nat.mod_mod_of_dvd _ ⟨2 ^ k, sq_pow k⟩
theorem and_MSK (k : Nat) : ∀ (n x : Nat), x &&& MSK k (n + 1) = x % 2 ^ k + 2 ^ (2 * k) * (x / 2 ^ (2 * k) &&& MSK k n) := fun n x => by
  conv => lhs; rw [split2 k x]
  show _ &&& ((2 ^ k - 1) + 2 ^ (2 * k) * MSK k n) = _
  rw [and_split _ _ _ _ _ (Nat.mod_lt _ (Nat.two_pow_pos _)) (low_lt k), Nat.and_two_pow_sub_one_eq_mod, mod_mod2]
theorem div_div2 (k x : Nat) : x / 2 ^ k / 2 ^ (2 * k) = x / 2 ^ (2 * k) / 2 ^ k := by rw [Nat.div_div_eq_div_mul, Nat.div_div_eq_div_mul, Nat.mul_comm]
theorem ADDF_eq (k : Nat) : ∀ (n x : Nat), (x / 2 ^ k &&& MSK k n) + (x &&& MSK k n) = ADDF k n x
  | 0, x => by simp [MSK, ADDF]
  | n + 1, x => by
    rw [and_MSK, and_MSK, div_div2, ADDF, ← ADDF_eq k n (x / 2 ^ (2 * k)), Nat.mul_add]
    omega
theorem two_le_pow {k : Nat} (hk : 1 ≤ k) : 2 ≤ 2 ^ k := Nat.le_trans (by decide) (Nat.pow_le_pow_right (n := 2) (by decide) hk)
theorem pair_lt {k : Nat} (hk : 1 ≤ k) (x : Nat) : x % 2 ^ k + x / 2 ^ k % 2 ^ k < 2 ^ (2 * k) := by
  have h1 := Nat.mod_lt x (Nat.two_pow_pos k)
  have h2 := Nat.mod_lt (x / 2 ^ k) (Nat.two_pow_pos k)
  have h3 : 2 * 2 ^ k ≤ 2 ^ k * 2 ^ k := Nat.mul_le_mul_right _ (two_le_pow hk)
  rw [sq_pow]
  omega
theorem ADDF_low {k : Nat} (hk : 1 ≤ k) (n x : Nat) : ADDF k (n + 1) x % 2 ^ (2 * k) = x % 2 ^ k + x / 2 ^ k % 2 ^ k := by
  rw [ADDF, Nat.add_mul_mod_self_left, Nat.mod_eq_of_lt (pair_lt hk x)]
theorem ADDF_high {k : Nat} (hk : 1 ≤ k) (n x : Nat) : ADDF k (n + 1) x / 2 ^ (2 * k) = ADDF k n (x / 2 ^ (2 * k)) := by
  rw [ADDF, Nat.add_mul_div_left _ _ (Nat.two_pow_pos _), Nat.div_eq_of_lt (pair_lt hk x), Nat.zero_add]
theorem DSUM_ADDF {k : Nat} (hk : 1 ≤ k) : ∀ (n x : Nat), DSUM (2 * k) n (ADDF k n x) = DSUM k (2 * n) x
  | 0, x => rfl
  | n + 1, x => by
    rw [DSUM, ADDF_low hk, ADDF_high hk, DSUM_ADDF hk n, show 2 * (n + 1) = 2 * n + 1 + 1 by omega, DSUM, DSUM, Nat.div_div_eq_div_mul, ← sq_pow]
    omega
theorem DLE_ADDF {k D : Nat} (hk : 1 ≤ k) : ∀ (n x : Nat), DLE k D (2 * n) x → DLE (2 * k) (2 * D) n (ADDF k n x)
  | 0, _, _ => trivial
  | n + 1, x, h => by
    rw [show 2 * (n + 1) = 2 * n + 1 + 1 by omega] at h
    obtain ⟨h1, h2, h3⟩ := h
    refine ⟨?_, ?_⟩
    · rw [ADDF_low hk]
      omega
    · rw [ADDF_high hk]
      refine DLE_ADDF hk n _ ?_
      rw [Nat.div_div_eq_div_mul, ← sq_pow] at h3
      exact h3
theorem DLE_bits : ∀ (n x : Nat), DLE 1 1 n x
  | 0, _ => trivial
  | n + 1, _ => ⟨by omega, DLE_bits n _⟩
/-- where two neighbours never carry, the mask may come behind the sum. -/
theorem ADDF_late {k D : Nat} (hk : 1 ≤ k) (hD : 2 * D < 2 ^ k) : ∀ (n x : Nat), x < 2 ^ (2 * k * n) → DLE k D (2 * n) x → (x / 2 ^ k + x) &&& MSK k n = ADDF k n x
  | 0, x, _, _ => by simp [MSK, ADDF]
  | n + 1, x, hx, h => by
    rw [show 2 * (n + 1) = 2 * n + 1 + 1 by omega] at h
    obtain ⟨h1, h2, h3⟩ := h
    rw [Nat.div_div_eq_div_mul, ← sq_pow] at h3
    have hq : x / 2 ^ (2 * k) < 2 ^ (2 * k * n) := Nat.div_lt_of_lt_mul (by rw [← Nat.pow_add, show 2 * k + 2 * k * n = 2 * k * (n + 1) by rw [Nat.mul_add, Nat.mul_one, Nat.add_comm]]; exact hx)
    have ih := ADDF_late hk hD n (x / 2 ^ (2 * k)) hq h3
    have hq0 : x / 2 ^ (2 * k) % 2 ^ k ≤ D := by
      cases n with
      | zero =>
        have : x / 2 ^ (2 * k) = 0 := by simpa using hq
        rw [this]
        simp
      | succ n => exact h3.1
    have hp := Nat.two_pow_pos k
    have e1 : x = x % 2 ^ k + 2 ^ k * (x / 2 ^ k % 2 ^ k) + 2 ^ k * 2 ^ k * (x / 2 ^ (2 * k)) := by
      have a := (Nat.mod_add_div x (2 ^ k)).symm
      have b := (Nat.mod_add_div (x / 2 ^ k) (2 ^ k)).symm
      rw [Nat.div_div_eq_div_mul, ← sq_pow] at b
      conv => lhs; rw [a, b]
      rw [Nat.mul_add, ← Nat.mul_assoc, Nat.add_assoc]
    have e2 : x / 2 ^ k = x / 2 ^ k % 2 ^ k + 2 ^ k * (x / 2 ^ (2 * k) % 2 ^ k) + 2 ^ k * 2 ^ k * (x / 2 ^ (2 * k) / 2 ^ k) := by
      have a := (Nat.mod_add_div (x / 2 ^ k) (2 ^ k)).symm
      rw [Nat.div_div_eq_div_mul, ← sq_pow] at a
      have b := (Nat.mod_add_div (x / 2 ^ (2 * k)) (2 ^ k)).symm
      conv => lhs; rw [a, b]
      rw [Nat.mul_add, ← Nat.mul_assoc, Nat.add_assoc]
    have e3 : x / 2 ^ k + x = (x % 2 ^ k + x / 2 ^ k % 2 ^ k + 2 ^ k * (x / 2 ^ k % 2 ^ k + x / 2 ^ (2 * k) % 2 ^ k)) + 2 ^ (2 * k) * (x / 2 ^ (2 * k) / 2 ^ k + x / 2 ^ (2 * k)) := by
      conv => lhs; rw [e2]; arg 2; rw [e1]
      rw [sq_pow, Nat.mul_add, Nat.mul_add]
      omega
    have hlow : x % 2 ^ k + x / 2 ^ k % 2 ^ k + 2 ^ k * (x / 2 ^ k % 2 ^ k + x / 2 ^ (2 * k) % 2 ^ k) < 2 ^ (2 * k) := by
      have h4 : 2 ^ k * (x / 2 ^ k % 2 ^ k + x / 2 ^ (2 * k) % 2 ^ k) ≤ 2 ^ k * (2 ^ k - 1) := Nat.mul_le_mul_left _ (by omega)
      rw [Nat.mul_sub, Nat.mul_one] at h4
      have h5 : 2 ^ k ≤ 2 ^ k * 2 ^ k := Nat.le_mul_of_pos_left _ hp
      have h6 := sq_pow k
      generalize 2 ^ k * (x / 2 ^ k % 2 ^ k + x / 2 ^ (2 * k) % 2 ^ k) = y at h4
      generalize x / 2 ^ (2 * k) % 2 ^ k = z at *
      generalize 2 ^ k * 2 ^ k = u at *
      generalize 2 ^ (2 * k) = v at *
      omega
    rw [e3]
    show _ &&& ((2 ^ k - 1) + 2 ^ (2 * k) * MSK k n) = _
    rw [and_split _ _ _ _ _ hlow (low_lt k), Nat.and_two_pow_sub_one_eq_mod, ih, Nat.add_mul_mod_self_left, Nat.mod_eq_of_lt (by omega), ADDF]

/-! all together -/
def POP (X : Nat) : Nat := DSUM 1 64 X
theorem m0_eq : MSK 1 32 = 6148914691236517205 := by decide
theorem m1_eq : MSK 2 16 = 3689348814741910323 := by decide
theorem m2_eq : MSK 4 8 = 1085102592571150095 := by decide
theorem ADDF_lt {k : Nat} (hk : 1 ≤ k) : ∀ (n x : Nat), ADDF k n x < 2 ^ (2 * k * n)
  | 0, _ => by simp [ADDF]
  | n + 1, x => by
    have h1 := ADDF_lt hk n (x / 2 ^ (2 * k))
    have h2 := pair_lt hk x
    rw [ADDF, show 2 * k * (n + 1) = 2 * k * n + 2 * k by rw [Nat.mul_add, Nat.mul_one], Nat.pow_add]
    have h3 : 2 ^ (2 * k) * ADDF k n (x / 2 ^ (2 * k)) ≤ 2 ^ (2 * k) * (2 ^ (2 * k * n) - 1) := Nat.mul_le_mul_left _ (by omega)
    rw [Nat.mul_sub, Nat.mul_one, Nat.mul_comm _ (2 ^ (2 * k * n))] at h3
    have h4 : 2 ^ (2 * k) ≤ 2 ^ (2 * k * n) * 2 ^ (2 * k) := Nat.le_mul_of_pos_left _ (Nat.two_pow_pos _)
    omega
theorem div_low {a b q : Nat} (h : b < a) : (b + a * q) / a = q := by rw [Nat.add_mul_div_left _ _ (by omega), Nat.div_eq_of_lt h, Nat.zero_add]
theorem pop_s2 {d0 d1 d2 x R1 R2 R3 : Nat} (e0 : x = d0 + 256 * R1) (e1 : R1 = d1 + 256 * R2) (e2 : R2 = d2 + 256 * R3) : x + R1 = (d0 + d1 + 256 * (d1 + d2)) + 65536 * (R2 + R3) := by
  subst e0 e1 e2
  omega
theorem pop_s3 {d0 d1 d2 d3 d4 d5 d6 d7 x R1 R2 R3 R4 R5 R6 : Nat} (e0 : x = d0 + 256 * R1) (e1 : R1 = d1 + 256 * R2) (e2 : R2 = d2 + 256 * R3) (e3 : R3 = d3 + 256 * R4) (e4 : R4 = d4 + 256 * R5) (e5 : R5 = d5 + 256 * R6) (e6 : R6 = d6 + 256 * d7) :
    x + R1 + (R2 + R3) = (d0 + d1 + d2 + d3 + 256 * (d1 + d2 + d3 + d4) + 65536 * (d2 + d3 + d4 + d5) + 16777216 * (d3 + d4 + d5 + d6)) + 4294967296 * (R4 + R5 + R6 + d7) := by
  subst e0 e1 e2 e3 e4 e5 e6
  omega
theorem pop_s4 {d0 d1 d2 d3 d4 d5 d6 d7 x R1 R2 R3 R4 R5 R6 : Nat} (e0 : x = d0 + 256 * R1) (e1 : R1 = d1 + 256 * R2) (e2 : R2 = d2 + 256 * R3) (e3 : R3 = d3 + 256 * R4) (e4 : R4 = d4 + 256 * R5) (e5 : R5 = d5 + 256 * R6) (e6 : R6 = d6 + 256 * d7) :
    x + R1 + (R2 + R3) + (R4 + R5 + R6 + d7) = (d0 + (d1 + (d2 + (d3 + (d4 + (d5 + (d6 + d7))))))) + 128 * (2 * (R1 + R2 + R3 + R4 + R5 + R6 + d7)) := by
  rw [e0]
  have h : R1 + (R2 + R3) + (R4 + R5 + R6 + d7) = (d1 + 256 * R2) + ((d2 + 256 * R3) + (d3 + 256 * R4)) + ((d4 + 256 * R5) + (d5 + 256 * R6) + (d6 + 256 * d7) + d7) := by
    rw [← e1, ← e2, ← e3, ← e4, ← e5, ← e6]
  clear e0 e1 e2 e3 e4 e5 e6
  omega
theorem pop_b {d7 d6 R6 : Nat} {B : Nat} (e6 : R6 = d6 + 256 * d7) (h6 : d6 ≤ 8) (h7 : d7 ≤ B) : R6 ≤ 8 + 256 * B := by
  subst e6
  omega
theorem pop_low2 {d0 d1 d2 : Nat} (h0 : d0 ≤ 8) (h1 : d1 ≤ 8) (h2 : d2 ≤ 8) : d0 + d1 + 256 * (d1 + d2) < 65536 := by omega
theorem pop_low3 {d0 d1 d2 d3 d4 d5 d6 : Nat} (h0 : d0 ≤ 8) (h1 : d1 ≤ 8) (h2 : d2 ≤ 8) (h3 : d3 ≤ 8) (h4 : d4 ≤ 8) (h5 : d5 ≤ 8) (h6 : d6 ≤ 8) : d0 + d1 + d2 + d3 + 256 * (d1 + d2 + d3 + d4) + 65536 * (d2 + d3 + d4 + d5) + 16777216 * (d3 + d4 + d5 + d6) < 4294967296 := by omega
theorem pop_low4 {d0 d1 d2 d3 d4 d5 d6 d7 : Nat} (h0 : d0 ≤ 8) (h1 : d1 ≤ 8) (h2 : d2 ≤ 8) (h3 : d3 ≤ 8) (h4 : d4 ≤ 8) (h5 : d5 ≤ 8) (h6 : d6 ≤ 8) (h7 : d7 ≤ 8) : d0 + (d1 + (d2 + (d3 + (d4 + (d5 + (d6 + d7)))))) < 128 := by omega
theorem pop_top {x R1 R2 R3 R4 R5 R6 d7 : Nat} (h7 : d7 ≤ 8) (b6 : R6 ≤ 8 + 256 * 8) (b5 : R5 ≤ 8 + 256 * (8 + 256 * 8)) (b4 : R4 ≤ 8 + 256 * (8 + 256 * (8 + 256 * 8))) (b3 : R3 ≤ 8 + 256 * (8 + 256 * (8 + 256 * (8 + 256 * 8)))) (b2 : R2 ≤ 8 + 256 * (8 + 256 * (8 + 256 * (8 + 256 * (8 + 256 * 8))))) (b1 : R1 ≤ 8 + 256 * (8 + 256 * (8 + 256 * (8 + 256 * (8 + 256 * (8 + 256 * 8)))))) (b0 : x ≤ 8 + 256 * (8 + 256 * (8 + 256 * (8 + 256 * (8 + 256 * (8 + 256 * (8 + 256 * 8))))))) :
    x + R1 + (R2 + R3) + (R4 + R5 + R6 + d7) < 2 ^ 64 := by omega
theorem pop_horner (d0 d1 d2 d3 d4 d5 d6 d7 : Nat) (h0 : d0 ≤ 8) (h1 : d1 ≤ 8) (h2 : d2 ≤ 8) (h3 : d3 ≤ 8) (h4 : d4 ≤ 8) (h5 : d5 ≤ 8) (h6 : d6 ≤ 8) (h7 : d7 ≤ 8) (x R1 R2 R3 R4 R5 R6 : Nat)
    (e0 : x = d0 + 256 * R1) (e1 : R1 = d1 + 256 * R2) (e2 : R2 = d2 + 256 * R3) (e3 : R3 = d3 + 256 * R4) (e4 : R4 = d4 + 256 * R5) (e5 : R5 = d5 + 256 * R6) (e6 : R6 = d6 + 256 * d7) :
    (x + x / 256 + (x + x / 256) / 65536 + (x + x / 256 + (x + x / 256) / 65536) / 4294967296) % 128 = d0 + (d1 + (d2 + (d3 + (d4 + (d5 + (d6 + d7)))))) ∧ x + x / 256 + (x + x / 256) / 65536 + (x + x / 256 + (x + x / 256) / 65536) / 4294967296 < 2 ^ 64 := by
  have q1 : x / 256 = R1 := by rw [e0]; exact div_low (Nat.lt_of_le_of_lt h0 (by decide))
  have q2 : (x + R1) / 65536 = R2 + R3 := by rw [pop_s2 e0 e1 e2]; exact div_low (pop_low2 h0 h1 h2)
  have q3 : (x + R1 + (R2 + R3)) / 4294967296 = R4 + R5 + R6 + d7 := by rw [pop_s3 e0 e1 e2 e3 e4 e5 e6]; exact div_low (pop_low3 h0 h1 h2 h3 h4 h5 h6)
  rw [q1, q2, q3]
  have b6 := pop_b e6 h6 h7
  have b5 := pop_b e5 h5 b6
  have b4 := pop_b e4 h4 b5
  have b3 := pop_b e3 h3 b4
  have b2 := pop_b e2 h2 b3
  have b1 := pop_b e1 h1 b2
  have b0 := pop_b e0 h0 b1
  refine ⟨?_, pop_top h7 b6 b5 b4 b3 b2 b1 b0⟩
  rw [pop_s4 e0 e1 e2 e3 e4 e5 e6, Nat.add_mul_mod_self_left, Nat.mod_eq_of_lt (pop_low4 h0 h1 h2 h3 h4 h5 h6 h7)]
theorem pop_last {x : Nat} (hx : x < 2 ^ 64) (h : DLE 8 8 8 x) : (x + x / 256 + (x + x / 256) / 65536 + (x + x / 256 + (x + x / 256) / 65536) / 4294967296) % 128 = DSUM 8 8 x ∧ x + x / 256 + (x + x / 256) / 65536 + (x + x / 256 + (x + x / 256) / 65536) / 4294967296 < 2 ^ 64 := by
  obtain ⟨h0, h1, h2, h3, h4, h5, h6, h7, _⟩ := h
  simp only [DSUM, Nat.add_zero]
  simp only [Nat.reducePow] at *
  have l7 : x / 256 / 256 / 256 / 256 / 256 / 256 / 256 < 256 := by
    have e : x / 256 / 256 / 256 / 256 / 256 / 256 / 256 = x / 72057594037927936 := by simp only [Nat.div_div_eq_div_mul]
    rw [e]
    exact Nat.div_lt_of_lt_mul hx
  rw [Nat.mod_eq_of_lt l7] at h7 ⊢
  exact pop_horner _ _ _ _ _ _ _ _ h0 h1 h2 h3 h4 h5 h6 h7 x (x / 256) (x / 256 / 256) (x / 256 / 256 / 256) (x / 256 / 256 / 256 / 256) (x / 256 / 256 / 256 / 256 / 256) (x / 256 / 256 / 256 / 256 / 256 / 256)
    (Nat.mod_add_div _ _).symm (Nat.mod_add_div _ _).symm (Nat.mod_add_div _ _).symm (Nat.mod_add_div _ _).symm (Nat.mod_add_div _ _).symm (Nat.mod_add_div _ _).symm (Nat.mod_add_div _ _).symm
/-- what OnesCount64 works out. -/
def X1 (X : Nat) : Nat := (X / 2 &&& 6148914691236517205) + (X &&& 6148914691236517205)
def X2 (X : Nat) : Nat := (X1 X / 4 &&& 3689348814741910323) + (X1 X &&& 3689348814741910323)
def X3 (X : Nat) : Nat := (X2 X / 16 + X2 X) &&& 1085102592571150095
theorem X1_eq (X : Nat) : X1 X = ADDF 1 32 X := by
  have := ADDF_eq 1 32 X
  rw [m0_eq] at this
  exact this
theorem X2_eq (X : Nat) : X2 X = ADDF 2 16 (X1 X) := by
  have := ADDF_eq 2 16 (X1 X)
  rw [m1_eq] at this
  exact this
theorem X2_le (X : Nat) : DLE 4 4 16 (X2 X) := by
  rw [X2_eq]
  refine DLE_ADDF (k := 2) (D := 2) (by decide) 16 _ ?_
  rw [X1_eq]
  exact DLE_ADDF (k := 1) (D := 1) (by decide) 32 _ (DLE_bits 64 X)
theorem X2_lt (X : Nat) : X2 X < 2 ^ 64 := by
  rw [X2_eq]
  exact ADDF_lt (k := 2) (by decide) 16 _
theorem X3_eq (X : Nat) : X3 X = ADDF 4 8 (X2 X) := by
  have := ADDF_late (k := 4) (D := 4) (by decide) (by decide) 8 (X2 X) (X2_lt X) (X2_le X)
  rw [m2_eq] at this
  exact this
theorem X3_le (X : Nat) : DLE 8 8 8 (X3 X) := by
  rw [X3_eq]
  exact DLE_ADDF (k := 4) (D := 4) (by decide) 8 _ (X2_le X)
theorem X3_lt (X : Nat) : X3 X < 2 ^ 64 := by
  rw [X3_eq]
  exact ADDF_lt (k := 4) (by decide) 8 _
theorem X3_sum (X : Nat) : DSUM 8 8 (X3 X) = POP X := by
  rw [X3_eq]
  have a := DSUM_ADDF (k := 4) (by decide) 8 (X2 X)
  have b := DSUM_ADDF (k := 2) (by decide) 16 (X1 X)
  have c := DSUM_ADDF (k := 1) (by decide) 32 X
  rw [← X2_eq] at b
  rw [← X1_eq] at c
  exact a.trans (b.trans c)
end Go.Proofs.YtmkgldjocigffaaDoor
