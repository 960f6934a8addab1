/- Lists of hashes that are made and grow. -/
import Derived.Test.YtkmcmngdainofaaStoreInsert
import Derived.Great.BuildSlice
namespace Go.Proofs.Ytkmcmngdainofaa
open Go.RowKit
set_option maxRecDepth 100000

/-- a list of one hash. -/
theorem build_hash {ops : Array Oper} {rest : List Oper} {o : Oper} {a : Act} {Q : Exit → Act → World → Prop} (w : World) (hg : o.guard = none) (x : Operand) (ho : o.op = .buildSlice 22 1 #[(0, x)]) (f : Nat → Nat) (hx : a.eval x = .agg (UARR .u8 32 f))
    (h : wpList Try.prog ops Q rest (a.put o.dst (.slice (some ⟨w.heap.size, 0, none⟩) 1 1)) (w.alloc (.cells (UARR .u8 32 f) 33))) : wpList Try.prog ops Q (o :: rest) a w := by
  obtain ⟨i, hie, hz', hs1, _⟩ := info_parts info_hashT
  refine wpList_buildSlice hg 22 33 1 _ ho (UARR .u8 32 f) i _ Try.underlying22 hie hz' (by rw [hs1]; omega) (by rw [hs1]; omega) ?_ h
  have := Great.fill_whole (s := 32) (by decide) [.agg (UARR .u8 32 f)] ((Array.range (1 * i.size)).map ((Value.agg (UARR .u8 32 fun _ => 0)).cells[· % (Value.agg (UARR .u8 32 fun _ => 0)).cells.size]!)) (fun v hv => by simp at hv; subst hv; exact UARR_size _ _ _) (by simp [hs1])
  simp [Value.cells] at this
  rw [hs1]
  simp [hx]
  rw [hs1] at this
  exact this
/-- a hash is appended. -/
theorem app_hashf {ops : Array Oper} {rest : List Oper} {o : Oper} {a : Act} {Q : Exit → Act → World → Prop} (w : World) (hgd : o.guard = none) (s x : Operand)
    (ho : o.op = .call { callee := .builtin .append, args := #[s, x], argTypes := #[22, 22] }) (base : Nat) (v : Value) (n : Nat) (xs : List Value) (hs : a.eval s = v) (hown : w.ownsRow base 33 32 v n xs)
    (b c : Nat) (f : Nat → Nat) (hx : a.eval x = .slice (some ⟨b, 0, none⟩) 1 c) (hb : Has w b (UARR .u8 32 f) 33) (hn : n ≤ 100000) (hbase : base ≤ w.heap.size)
    (h : ∀ g cap w', w'.ownsRow base 33 32 (.slice (some ⟨g, 0, none⟩) (n + 1) cap) (n + 1) (xs ++ ULIST .u8 32 f) → w.grownBy w' v.ownBlock → (v.ownBlock = some g ∨ g = w.heap.size) → g < w'.heap.size → wpList Try.prog ops Q rest (a.put o.dst (.slice (some ⟨g, 0, none⟩) (n + 1) cap)) w') : wpList Try.prog ops Q (o :: rest) a w := by
  obtain ⟨i, hi, hz, hs1, hby⟩ := info_parts info_hashT
  exact wpList_append_lies w hgd s x 22 ho base 33 i _ 32 32 Try.underlying22 hi hz hs1 hby (by simp [Value.cells, UARR_size]) (by decide) v n xs hs hown ⟨b, 0, none⟩ 1 c (ULIST .u8 32 f) hx (by rw [ULIST_length]) (fun j u hj => by rw [Addr.add_mid, hb.cell, Nat.zero_add, UARR_list, List.getElem?_toArray]; exact hj) (ULIST_one _ _ _) (by decide) (by simp only [maxLen]; omega) (by omega) hbase w.heap.size rfl h
theorem HL_snoc' (hs : List (Nat → Nat)) (h : Nat → Nat) : HL (hs ++ [h]) = HL hs ++ ULIST .u8 32 h := by simp [HL]
theorem make_hashesf (N : Nat) (hN : N ≤ 1000) (w : World) : ∃ cur : Array Value, cur.size = N * 32 ∧ (Instr.makeSlice 22 (.int .i64 0) (.int .i64 (N : Int))).run Try.prog w = .ok (.slice (some ⟨w.heap.size, 0, none⟩) 0 N) (w.alloc (.cells cur 33)) := by
  obtain ⟨i, hi, hz, h1, h2⟩ := info_parts info_hashT
  have h := run_make (P := Try.prog) w 22 33 i _ Try.underlying22 hi hz .i64 .i64 0 N (by omega) (by omega) (by rw [h2]; omega) (by omega)
  refine ⟨madeCells (Value.agg (UARR .u8 32 fun _ => 0)).cells (N * i.size), ?_, ?_⟩
  · rw [size_madeCells, h1]
  · simpa using h
theorem own_room {w : World} {N : Nat} (hN : N ≤ 1000) {cur : Array Value} (hc : cur.size = N * 32) : (w.alloc (.cells cur 33)).ownsRow w.heap.size 33 32 (.slice (some ⟨w.heap.size, 0, none⟩) 0 N) 0 (HL []) := by
  refine ⟨rfl, .inr ⟨w.heap.size, N, cur, rfl, Nat.le_refl _, Has.new w cur 33, by omega, by simp only [maxLen]; omega, hc, by simp [HL]⟩⟩
theorem own_at {w : World} {B g m c k : Nat} {l : List (Nat → Nat)} {f : Nat → Nat} (h : w.ownsRow B 33 32 (.slice (some ⟨g, 0, none⟩) m c) m (HL l)) (hl : l.length = m) (hk : l[k]? = some f) : w.rangeAt g (k * 32) (ULIST .u8 32 f) := by
  intro j v hv
  have hj : j < 32 := by
    have := (List.getElem?_eq_some_iff.1 hv).1
    rwa [ULIST_length] at this
  have hkm : k < m := by
    have := (List.getElem?_eq_some_iff.1 hk).1
    omega
  rw [h.cellAt (k * 32 + j) (by omega), HL_get l k j f hk hj, ← hv, ULIST_get _ _ _ _ hj]
end Go.Proofs.Ytkmcmngdainofaa
