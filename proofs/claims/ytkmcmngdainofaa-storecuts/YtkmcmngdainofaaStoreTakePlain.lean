/- What a chunk has when a place is taken: in plain lists. -/
import Derived.Laws.BitsAllLaws
import Derived.Test.YtkmcmngdainofaaStoreTake
namespace Go.Proofs.Ytkmcmngdainofaa
open Go.RowKit Go.Maps
set_option maxRecDepth 100000

/-- a number without its bit k. -/
def CLR (X k : Nat) : Nat := X &&& (2 ^ 64 - 1 - 2 ^ k)
theorem mask_bit {k j : Nat} (hk : k < 64) : (2 ^ 64 - 1 - 2 ^ k).testBit j = (decide (j < 64) && !decide (k = j)) := by
  have h2 : 2 ^ 64 - 1 - 2 ^ k = 2 ^ 64 - (2 ^ k + 1) := by omega
  rw [h2, Nat.testBit_two_pow_sub_succ (Nat.pow_lt_pow_right (by decide) hk), Nat.testBit_two_pow]
theorem CLR_bit {X k j : Nat} (hX : X < 2 ^ 64) (hk : k < 64) : (CLR X k).testBit j = (X.testBit j && !decide (k = j)) := by
  unfold CLR
  rw [Nat.testBit_and, mask_bit hk]
  by_cases h : j < 64
  · simp [h]
  · have : X.testBit j = false := Nat.testBit_lt_two_pow (Nat.lt_of_lt_of_le hX (Nat.pow_le_pow_right (by decide) (by omega)))
    simp [this]
theorem CLR_lt {X k : Nat} (hX : X < 2 ^ 64) : CLR X k < 2 ^ 64 := Nat.lt_of_le_of_lt Nat.and_le_left hX
theorem CLR_or {X k : Nat} (hX : X < 2 ^ 64) (hk : k < 64) (h : X.testBit k = true) : CLR X k ||| 2 ^ k = X := by
  apply Nat.eq_of_testBit_eq
  intro j
  rw [or_bit, CLR_bit hX hk]
  by_cases e : k = j
  · subst e; simp [h]
  · simp [e]
theorem CLR_no {X k : Nat} (hX : X < 2 ^ 64) (hk : k < 64) : (CLR X k).testBit k = false := by rw [CLR_bit hX hk]; simp
theorem RK_CLR {X k : Nat} (hX : X < 2 ^ 64) (hk : k < 64) (h : X.testBit k = true) (j : Nat) : RK X j = RK (CLR X k) j + if k < j then 1 else 0 := by
  have := RK_or (CLR_no hX hk) j
  rw [CLR_or hX hk h] at this
  exact this
theorem POP_CLR {X k : Nat} (hX : X < 2 ^ 64) (hk : k < 64) (h : X.testBit k = true) : POP X = POP (CLR X k) + 1 := by
  have := POP_or (CLR_no hX hk) hk
  rw [CLR_or hX hk h] at this
  exact this
theorem CLR_val {X k : Nat} (hX : X < 2 ^ 64) (hk : k < 64) : bits .andNot .u64 (X : Int) ((2 ^ k : Nat) : Int) = ((CLR X k : Nat) : Int) := by
  unfold CLR
  have h2 : 2 ^ k < 2 ^ 64 := Nat.pow_lt_pow_right (by decide) hk
  exact u64_andNot_nat X (2 ^ k) (by omega) (by omega)
theorem flat_take {α : Type} (f : α → List Value) (s : Nat) (hf : ∀ x, (f x).length = s) : ∀ (l : List α) (i : Nat), (l.flatMap f).take (i * s) = (l.take i).flatMap f
  | [], i => by simp
  | x :: l, 0 => by simp
  | x :: l, i + 1 => by
    rw [List.flatMap_cons, List.take_succ_cons, List.flatMap_cons, Nat.succ_mul, List.take_append, hf, List.take_of_length_le (by rw [hf]; omega), Nat.add_sub_cancel, flat_take f s hf l i]
theorem flat_drop {α : Type} (f : α → List Value) (s : Nat) (hf : ∀ x, (f x).length = s) : ∀ (l : List α) (i : Nat), (l.flatMap f).drop (i * s) = (l.drop i).flatMap f
  | [], i => by simp
  | x :: l, 0 => by simp
  | x :: l, i + 1 => by
    rw [List.flatMap_cons, List.drop_succ_cons, Nat.succ_mul, ← flat_drop f s hf l i, List.drop_append, hf, List.drop_of_length_le (by rw [hf]; omega), Nat.add_sub_cancel, List.nil_append]
theorem HL_cut (hs : List (Nat → Nat)) (k : Nat) : (HL hs).take (k * 32) ++ (HL hs).drop ((k + 1) * 32) = HL (hs.eraseIdx k) := by
  unfold HL
  rw [flat_take _ 32 (fun _ => ULIST_length _ _ _), flat_drop _ 32 (fun _ => ULIST_length _ _ _), List.eraseIdx_eq_take_drop_succ, List.flatMap_append]
theorem RC_cut (rs : List ROW) (i : Nat) : (RC rs).take (i * 3) ++ (RC rs).drop ((i + 1) * 3) = RC (rs.eraseIdx i) := by
  unfold RC
  rw [flat_take _ 3 (fun _ => rfl), flat_drop _ 3 (fun _ => rfl), List.eraseIdx_eq_take_drop_succ, List.flatMap_append]
theorem RC_set : ∀ (rs : List ROW) (i : Nat) (r r' : ROW), rs[i]? = some r → r'.num = r.num → RC (rs.set i r') = ((RC rs).set (i * 3 + 2) r'.v).set (i * 3 + 1) (.int .u64 (r'.live : Int))
  | [], _, _, _, h, _ => by simp at h
  | x :: rs, 0, r, r', h, hn => by
    simp at h
    subst h
    simp [RC, hn]
  | x :: rs, i + 1, r, r', h, hn => by
    have ih := RC_set rs i r r' (by simpa using h) hn
    have e1 : RC (x :: rs) = [.int .u64 (x.num : Int), .int .u64 (x.live : Int), x.v] ++ RC rs := by simp [RC]
    have e2 : RC ((x :: rs).set (i + 1) r') = [.int .u64 (x.num : Int), .int .u64 (x.live : Int), x.v] ++ RC (rs.set i r') := by simp [RC]
    rw [e2, e1, ih, List.set_append_right _ _ (by simp; omega), List.set_append_right _ _ (by simp; omega)]
    simp only [List.length_cons, List.length_nil]
    rw [show (i + 1) * 3 + 2 - (0 + 1 + 1 + 1) = i * 3 + 2 by omega, show (i + 1) * 3 + 1 - (0 + 1 + 1 + 1) = i * 3 + 1 by omega]
theorem RC_one {rs : List ROW} : ∀ u ∈ RC rs, u.oneCell' = true := fun u hu => by
  simp only [RC, List.mem_flatMap] at hu
  obtain ⟨r, _, hu⟩ := hu
  simp at hu
  rcases hu with rfl | rfl | rfl <;> rfl
theorem HL_one {hs : List (Nat → Nat)} : ∀ u ∈ HL hs, u.oneCell' = true := fun u hu => by
  simp only [HL, List.mem_flatMap] at hu
  obtain ⟨r, _, hu⟩ := hu
  exact ULIST_one _ _ _ u hu
/-- the rows rs' are rs with the i-th turned into r', or taken out where r' has no bit. -/
def FEWER (rs rs' : List ROW) (i : Nat) (r' : ROW) : Prop := ∃ φ : Nat → Nat, (∀ a b, a < b → φ a < φ b) ∧ (∀ j s, rs'[j]? = some s → (φ j ≠ i ∧ rs[φ j]? = some s) ∨ (φ j = i ∧ s = r' ∧ r'.live ≠ 0)) ∧ (∀ j s, j ≠ i → rs[j]? = some s → s ∈ rs') ∧ (r'.live ≠ 0 → r' ∈ rs') ∧ rs'.length ≤ rs.length
theorem fewer_set {rs : List ROW} {i : Nat} {r' : ROW} (hi : i < rs.length) (h : r'.live ≠ 0) : FEWER rs (rs.set i r') i r' := by
  refine ⟨fun j => j, fun a b h => h, fun j s hs => ?_, fun j s hj hs => ?_, fun _ => List.mem_set hi r', by simp⟩
  · by_cases e : i = j
    · subst e
      rw [List.getElem?_set_self hi] at hs
      exact .inr ⟨rfl, (Option.some.inj hs).symm, h⟩
    · rw [List.getElem?_set_ne e] at hs
      exact .inl ⟨fun h => e h.symm, hs⟩
  · have : (rs.set i r')[j]? = some s := by rw [List.getElem?_set_ne (fun e => hj e.symm)]; exact hs
    exact List.mem_of_getElem? this
theorem fewer_erase {rs : List ROW} {i : Nat} {r' : ROW} (hi : i < rs.length) (h : r'.live = 0) : FEWER rs (rs.eraseIdx i) i r' := by
  refine ⟨fun j => if j < i then j else j + 1, fun a b h => ?_, fun j s hs => .inl ?_, fun j s hj hs => ?_, fun h' => absurd h h', by rw [List.length_eraseIdx]; split <;> omega⟩
  · dsimp only
    split <;> split <;> omega
  · rw [List.getElem?_eraseIdx] at hs
    dsimp only
    split
    · rename_i e
      rw [if_pos e] at hs
      exact ⟨by omega, hs⟩
    · rename_i e
      rw [if_neg e] at hs
      exact ⟨by omega, hs⟩
  · by_cases e : j < i
    · have : (rs.eraseIdx i)[j]? = some s := by rw [List.getElem?_eraseIdx, if_pos e]; exact hs
      exact List.mem_of_getElem? this
    · have : (rs.eraseIdx i)[j - 1]? = some s := by rw [List.getElem?_eraseIdx, if_neg (by omega), show j - 1 + 1 = j by omega]; exact hs
      exact List.mem_of_getElem? this
abbrev RISE (rs : List ROW) : Prop := ∀ (i j : Nat) (r s : ROW), i < j → rs[i]? = some r → rs[j]? = some s → r.num < s.num
theorem FEWER.rise {rs rs' : List ROW} {i : Nat} {r r' : ROW} (h : FEWER rs rs' i r') (hr : rs[i]? = some r) (hn : r'.num = r.num) (hR : RISE rs) : RISE rs' := fun a b x y hab hx hy => by
  obtain ⟨φ, m, f, _⟩ := h
  have hm := m a b hab
  have key : ∀ j s, rs'[j]? = some s → ∃ s0, rs[φ j]? = some s0 ∧ s0.num = s.num := fun j s hs => by
    rcases f j s hs with ⟨_, h1⟩ | ⟨h1, h2, _⟩
    · exact ⟨s, h1, rfl⟩
    · exact ⟨r, by rw [h1]; exact hr, by rw [h2, hn]⟩
  obtain ⟨x0, hx0, ex⟩ := key a x hx
  obtain ⟨y0, hy0, ey⟩ := key b y hy
  rw [← ex, ← ey]
  exact hR _ _ _ _ hm hx0 hy0
theorem LOOK_mem {rs : List ROW} {p : Nat} {s : ROW} (hR : RISE rs) (hs : s ∈ rs) (hn : s.num = p / 64) : LOOK rs p = if s.live.testBit (p % 64) then s.hs[RK s.live (p % 64)]? else none := by
  obtain ⟨j, hj⟩ := List.getElem?_of_mem hs
  exact LOOK_at hj hn hR
theorem FEWER.back {rs rs' : List ROW} {i : Nat} {r' s : ROW} (h : FEWER rs rs' i r') (hs : s ∈ rs') : (∃ j, j ≠ i ∧ rs[j]? = some s) ∨ (s = r' ∧ r'.live ≠ 0) := by
  obtain ⟨φ, m, f, _⟩ := h
  obtain ⟨j, hj⟩ := List.getElem?_of_mem hs
  rcases f j s hj with ⟨h1, h2⟩ | ⟨_, h2⟩
  · exact .inl ⟨_, h1, h2⟩
  · exact .inr h2
theorem LOOK_fewer {rs rs' : List ROW} {i p k gh ch : Nat} {r : ROW} (hr : rs[i]? = some r) (hn : r.num = p / 64) (hk : p % 64 = k) (hl : r.live < 2 ^ 64) (hb : r.live.testBit k = true) (hR : RISE rs) (h : FEWER rs rs' i ⟨r.num, CLR r.live k, gh, ch, r.hs.eraseIdx (RK r.live k)⟩) (p' : Nat) :
    LOOK rs' p' = if p' = p then none else LOOK rs p' := by
  have hR' := h.rise hr rfl hR
  have hk64 : k < 64 := by rw [← hk]; exact Nat.mod_lt _ (by decide)
  by_cases e : p' / 64 = r.num
  · have hL := LOOK_at hr e.symm hR
    by_cases e0 : CLR r.live k = 0
    · have hno : ∀ s ∈ rs', s.num ≠ p' / 64 := fun s hs en => by
        rcases h.back hs with ⟨j, hj, hjs⟩ | ⟨_, h2⟩
        · rcases Nat.lt_or_gt_of_ne hj with h1 | h1
          · have := hR j i s r h1 hjs hr; omega
          · have := hR i j r s h1 hr hjs; omega
        · exact h2 e0
      rw [LOOK_none hno]
      by_cases e2 : p' = p
      · rw [if_pos e2]
      · rw [if_neg e2, hL]
        have hj : ¬ k = p' % 64 := by omega
        have := CLR_bit (j := p' % 64) hl hk64
        rw [e0] at this
        simp [hj] at this
        rw [this]
        rfl
    · obtain ⟨φ, m, f1, f2, f3, f4⟩ := h
      rw [LOOK_mem hR' (f3 e0) (by exact e.symm), CLR_bit hl hk64]
      dsimp only
      by_cases e2 : p' = p
      · have hj : k = p' % 64 := by omega
        rw [if_pos e2]
        simp [hj]
      · have hj : ¬ k = p' % 64 := by omega
        rw [if_neg e2, hL]
        simp only [hj, decide_false, Bool.not_false, Bool.and_true]
        cases hb2 : r.live.testBit (p' % 64)
        · rfl
        · rw [if_pos rfl, if_pos rfl, List.getElem?_eraseIdx]
          have h1 := RK_CLR hl hk64 hb (p' % 64)
          have h2 := RK_CLR hl hk64 hb k
          rw [if_neg (Nat.lt_irrefl _)] at h2
          by_cases e3 : k < p' % 64
          · rw [if_pos e3] at h1
            have h3 := RK_mono (CLR r.live k) (i := k) (j := p' % 64) (by omega)
            rw [if_neg (by omega), h1]
          · rw [if_neg e3] at h1
            have h3 := RK_mono (CLR r.live k) (i := p' % 64 + 1) (j := k) (by omega)
            rw [RK, CLR_bit hl hk64, hb2] at h3
            simp [hj] at h3
            rw [if_pos (by omega), h1, Nat.add_zero]
  · have e2 : p' ≠ p := fun h => e (by rw [h]; exact hn.symm)
    rw [if_neg e2]
    by_cases hs : ∃ s ∈ rs, s.num = p' / 64
    · obtain ⟨s, hs, en⟩ := hs
      obtain ⟨j, hj⟩ := List.getElem?_of_mem hs
      have hji : j ≠ i := fun h => by subst h; rw [hr] at hj; cases hj; omega
      obtain ⟨φ, m, f1, f2, f3, f4⟩ := h
      rw [LOOK_mem hR hs en, LOOK_mem hR' (f2 j s hji hj) en]
    · rw [LOOK_none (rs := rs) (fun s h1 h2 => hs ⟨s, h1, h2⟩), LOOK_none]
      intro s h1 h2
      rcases h.back h1 with ⟨j, _, hjs⟩ | ⟨h3, _⟩
      · exact hs ⟨s, List.mem_of_getElem? hjs, h2⟩
      · rw [h3] at h2; exact e h2.symm
end Go.Proofs.Ytkmcmngdainofaa
