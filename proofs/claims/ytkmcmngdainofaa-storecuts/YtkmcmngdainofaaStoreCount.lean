/- In how many chunks a node lives: two stores with the same nodes have as many. -/
import Derived.Maps.Ext
import Derived.Test.YtkmcmngdainofaaStoreDrop
namespace Go.Proofs.Ytkmcmngdainofaa
open Go.RowKit Go.Maps Go.WideShapes
open Go.WideElems (Fit rg rd_key rg_of)
set_option maxRecDepth 100000

theorem key_inv {v : Value} {l : Lit} (h : keyOf Try.prog 51 v = some l) : ∃ k, k < 2 ^ 64 ∧ l = KK k := by
  have c3 : Try.prog.cellsOf 51 = 1 := by kernel_rfl
  have c2 : Try.prog.cellsOf 29 = 1 := by kernel_rfl
  obtain ⟨m, hm⟩ : ∃ m, Try.prog.types.size = m + 1 := ⟨Try.prog.types.size - 1, (Nat.succ_pred_eq_of_pos (Nat.lt_of_le_of_lt (Nat.zero_le _) rowKey)).symm⟩
  unfold keyOf at h
  simp only [Try.underlying51, hm] at h
  split at h
  · rename_i hf
    simp only [Bool.and_eq_true] at hf
    obtain ⟨-, hf⟩ := hf
    cases hv : v.cells.toList with
    | nil => rw [hv] at h; simp [Program.keyLits, Try.underlying51, c3] at h
    | cons x xs =>
      cases xs with
      | cons y ys => rw [hv] at h; simp [Program.keyLits, Try.underlying51, c3] at h
      | nil =>
        rw [hv] at h
        simp [Program.keyLits, Try.underlying51, Try.underlying29, c2, c3] at h
        cases x with
        | int q n =>
          by_cases hq : q = .u64 ∧ (Lit.int .u64 n).wf = true
          · simp [hq] at h
            have hb := wf_u64 hq.2
            obtain ⟨k, rfl⟩ : ∃ k : Nat, n = (k : Int) := ⟨n.toNat, by omega⟩
            refine ⟨k, by omega, ?_⟩
            unfold KK
            rw [← h]
          · simp [hq] at h
        | _ => simp at h
  · cases h
theorem mem_keys {w : World} {b n : Nat} {es : List (Lit × DataW Unit)} (h : w.ownsMap Try.prog 51 PE b n (.map es)) : ∀ p ∈ es, ∃ k, k < 2 ^ 64 ∧ p.1 = KK k := by
  obtain ⟨es0, clock, _, F, _, e⟩ := h
  cases e
  intro p hp
  obtain ⟨v, hv⟩ := fit_keys F p ((sorted_perm _).mem_iff.1 hp)
  exact key_inv hv
theorem has_mem {es : List (Lit × DataW Unit)} {k : Nat} (hk : k < 2 ^ 64) : Maps.has (.map es) (KK k) = true ↔ ∃ p ∈ es, p.1 = KK k := by
  have hkey : WideAt.IsKeyLit (KK k) := lawKey.key (keyk_ok hk)
  rw [Maps.has_eq, List.any_eq_true]
  constructor
  · rintro ⟨p, hp, e⟩
    refine ⟨p, hp, Classical.byContradiction fun hne => ?_⟩
    rw [sameKey_ne hne] at e
    cases e
  · rintro ⟨p, hp, e⟩
    exact ⟨p, hp, by rw [e]; exact WideAt.sameKey_self hkey⟩
/-- what the map of a store reads as: its keys are the chunks. -/
def CHS (D : DataW Unit) (C : CHUNKS) : Prop := Canon D ∧ (∀ es, D = .map es → ∀ p ∈ es, ∃ k, k < 2 ^ 64 ∧ p.1 = KK k) ∧ ∀ k, k < 2 ^ 64 → Maps.has D (KK k) = (C k).isSome
theorem size_same {D D' : DataW Unit} {C C' : CHUNKS} (h : CHS D C) (h' : CHS D' C') (hC : ∀ k, (C k).isSome = (C' k).isSome) : Maps.size D = Maps.size D' := by
  obtain ⟨⟨es, rfl, h1, _⟩, h2, h3⟩ := h
  obtain ⟨⟨es', rfl, h1', _⟩, h2', h3'⟩ := h'
  have hh : ∀ k, k < 2 ^ 64 → ((∃ p ∈ es, p.1 = KK k) ↔ ∃ p ∈ es', p.1 = KK k) := fun k hk => by
    rw [← has_mem hk, ← has_mem hk, h3 k hk, h3' k hk, hC]
  have e : es.map (fun p => (p.1, (DataW.nil : DataW Unit))) = es'.map (fun p => (p.1, (DataW.nil : DataW Unit))) := by
    refine eq_of_mem_rising ?_ ?_ (fun p => ?_)
    · rw [List.pairwise_map]; exact h1
    · rw [List.pairwise_map]; exact h1'
    · rw [List.mem_map, List.mem_map]
      constructor
      · rintro ⟨q, hq, rfl⟩
        obtain ⟨k, hk, ek⟩ := h2 _ rfl q hq
        obtain ⟨q', hq', eq'⟩ := (hh k hk).1 ⟨q, hq, ek⟩
        exact ⟨q', hq', by rw [eq', ek]⟩
      · rintro ⟨q, hq, rfl⟩
        obtain ⟨k, hk, ek⟩ := h2' _ rfl q hq
        obtain ⟨q', hq', eq'⟩ := (hh k hk).2 ⟨q, hq, ek⟩
        exact ⟨q', hq', by rw [eq', ek]⟩
  have := congrArg List.length e
  simpa [Maps.size_eq] using this
/-- the number of chunks of a store. -/
def CNT (w : World) (g z : Nat) : Prop := ∃ mv, w.cell? ⟨g, 3, none⟩ = some mv ∧ ∀ ty, (Builtin.len_ #[44] ty #[mv]).run Try.prog w = .ok (.int .i64 (z : Int)) w
theorem STORE.cnt {w : World} {B g log len alive N : Nat} {C : CHUNKS} (h : STORE w B g log len alive N C) : ∃ D, CHS D C ∧ CNT w g (Maps.size D) := by
  obtain ⟨mv, m1, m2, m3⟩ := h.map
  cases mv with
  | none => exact ⟨.map [], ⟨canon_empty, fun es e p hp => (by cases e; cases hp), fun k _ => by rw [m2 rfl k]; rfl⟩, _, m1, fun ty => Maps.len_nil Try.underlying44 ty⟩
  | some b =>
    obtain ⟨_, n, _, D, h1, h2⟩ := m3 b rfl
    refine ⟨D, ⟨h1.canon lawKey, fun es e p hp => ?_, fun k hk => ?_⟩, _, m1, fun ty => h1.len Try.underlying44 ty⟩
    · subst e; exact mem_keys h1 p hp
    · rw [(h2 k hk).1]; show ((C k).map Prod.fst).isSome = _; cases C k <;> rfl
/-- a chunk is there where a node of it lives. -/
theorem FULL.some {w : World} {B g log len alive N : Nat} {C : CHUNKS} (h : STORE w B g log len alive N C) (hF : FULL C) (k : Nat) : (C k).isSome = true ↔ ∃ p, p / 2 ^ log = k ∧ (AT C log p).isSome = true := by
  constructor
  · intro hk
    cases hc : C k with
    | none => rw [hc] at hk; cases hk
    | some c =>
      obtain ⟨gc, rs⟩ := c
      obtain ⟨_, h2, h3⟩ := h.chunk k gc rs hc
      obtain ⟨r, hr⟩ := List.exists_mem_of_ne_nil _ (hF k gc rs hc)
      obtain ⟨j, hj, hb⟩ := h2.lives r hr
      obtain ⟨e, _⟩ := h3 r hr j hj hb
      refine ⟨r.num * 64 + j, e, ?_⟩
      unfold AT
      rw [e, hc]
      show (LOOK rs (r.num * 64 + j)).isSome = true
      have e1 : (r.num * 64 + j) / 64 = r.num := by omega
      have e2 : (r.num * 64 + j) % 64 = j := by omega
      rw [LOOK_mem (s := r) h2.rise hr e1.symm, e2, if_pos hb]
      obtain ⟨_, d2, d3, _⟩ := h2.row r hr
      have := RK_lt hj hb
      rw [List.getElem?_eq_getElem (by rw [d3]; exact this)]
      rfl
  · rintro ⟨p, rfl, hp⟩
    unfold AT at hp
    cases hc : C (p / 2 ^ log) with
    | none => rw [hc] at hp; cases hp
    | some c => rfl
theorem cnt_same {w w' : World} {B g log len alive N B' g' len' alive' N' : Nat} {C C' : CHUNKS} (h : STORE w B g log len alive N C) (h' : STORE w' B' g' log len' alive' N' C') (hF : FULL C) (hF' : FULL C') (hA : ∀ p, AT C log p = AT C' log p) : ∃ z, CNT w g z ∧ CNT w' g' z := by
  obtain ⟨D, h1, h2⟩ := h.cnt
  obtain ⟨D', h1', h2'⟩ := h'.cnt
  refine ⟨_, h2, ?_⟩
  rw [size_same h1 h1' (fun k => ?_)]
  · exact h2'
  · rw [Bool.eq_iff_iff, FULL.some h hF, FULL.some h' hF']
    simp only [hA]
theorem chunks_ok {w : World} {g z : Nat} (h : CNT w g z) : Calls Try.prog 12 #[.pointer (some ⟨g, 0, none⟩)] w fun e w' => e = .returned (.int .i64 (z : Int)) ∧ w = w' := by
  obtain ⟨mv, h1, h2⟩ := h
  have h3 := h2 3
  go_enter Try.func12, Try.ntmps12
  go_wp2
  go_ret
  exact ⟨rfl, rfl⟩
end Go.Proofs.Ytkmcmngdainofaa
