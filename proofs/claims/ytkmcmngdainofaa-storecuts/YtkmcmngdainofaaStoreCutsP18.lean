/- Texts of StoreCuts, one behind the other: StoreTakePlain, StoreThinRows, StoreThinState. -/
import Derived.Laws.BitsAllLaws
import Derived.Test.YtkmcmngdainofaaStoreCutsP17
/- What a chunk has when a place is taken: in plain lists. -/
namespace Go.Proofs.Ytkmcmngdainofaa
open Go.RowKit Go.Maps
set_option maxRecDepth 100000

/-- a number without its bit k. -/
def CLR (X k : Nat) : Nat := X &&& (2 ^ 64 - 1 - 2 ^ k)
theorem mask_bit {k j : Nat} (hk : k < 64) : (2 ^ 64 - 1 - 2 ^ k).testBit j = (decide (j < 64) && !decide (k = j)) := by
  have h2 : 2 ^ 64 - 1 - 2 ^ k = 2 ^ 64 - (2 ^ k + 1) := by omega
  rw [h2, Nat.testBit_two_pow_sub_succ (Nat.pow_lt_pow_right (by decide) hk), Nat.testBit_two_pow]
theorem CLR_bit {X k j : Nat} (hX : X < 2 ^ 64) (hk : k < 64) : (CLR X k).testBit j = (X.testBit j && !decide (k = j)) := by
  unfold CLR
  rw [Nat.testBit_and, mask_bit hk]
  by_cases h : j < 64
  · simp [h]
  · have : X.testBit j = false := Nat.testBit_lt_two_pow (Nat.lt_of_lt_of_le hX (Nat.pow_le_pow_right (by decide) (by omega)))
    simp [this]
theorem CLR_lt {X k : Nat} (hX : X < 2 ^ 64) : CLR X k < 2 ^ 64 := Nat.lt_of_le_of_lt Nat.and_le_left hX
theorem CLR_or {X k : Nat} (hX : X < 2 ^ 64) (hk : k < 64) (h : X.testBit k = true) : CLR X k ||| 2 ^ k = X := by
  apply Nat.eq_of_testBit_eq
  intro j
  rw [or_bit, CLR_bit hX hk]
  by_cases e : k = j
  · subst e; simp [h]
  · simp [e]
theorem CLR_no {X k : Nat} (hX : X < 2 ^ 64) (hk : k < 64) : (CLR X k).testBit k = false := by rw [CLR_bit hX hk]; simp
theorem RK_CLR {X k : Nat} (hX : X < 2 ^ 64) (hk : k < 64) (h : X.testBit k = true) (j : Nat) : RK X j = RK (CLR X k) j + if k < j then 1 else 0 := by
  have := RK_or (CLR_no hX hk) j
  rw [CLR_or hX hk h] at this
  exact this
theorem POP_CLR {X k : Nat} (hX : X < 2 ^ 64) (hk : k < 64) (h : X.testBit k = true) : POP X = POP (CLR X k) + 1 := by
  have := POP_or (CLR_no hX hk) hk
  rw [CLR_or hX hk h] at this
  exact this
theorem CLR_val {X k : Nat} (hX : X < 2 ^ 64) (hk : k < 64) : bits .andNot .u64 (X : Int) ((2 ^ k : Nat) : Int) = ((CLR X k : Nat) : Int) := by
  unfold CLR
  have h2 : 2 ^ k < 2 ^ 64 := Nat.pow_lt_pow_right (by decide) hk
  exact u64_andNot_nat X (2 ^ k) (by omega) (by omega)
theorem flat_take {α : Type} (f : α → List Value) (s : Nat) (hf : ∀ x, (f x).length = s) : ∀ (l : List α) (i : Nat), (l.flatMap f).take (i * s) = (l.take i).flatMap f
  | [], i => by simp
  | x :: l, 0 => by simp
  | x :: l, i + 1 => by
    rw [List.flatMap_cons, List.take_succ_cons, List.flatMap_cons, Nat.succ_mul, List.take_append, hf, List.take_of_length_le (by rw [hf]; omega), Nat.add_sub_cancel, flat_take f s hf l i]
theorem flat_drop {α : Type} (f : α → List Value) (s : Nat) (hf : ∀ x, (f x).length = s) : ∀ (l : List α) (i : Nat), (l.flatMap f).drop (i * s) = (l.drop i).flatMap f
  | [], i => by simp
  | x :: l, 0 => by simp
  | x :: l, i + 1 => by
    rw [List.flatMap_cons, List.drop_succ_cons, Nat.succ_mul, ← flat_drop f s hf l i, List.drop_append, hf, List.drop_of_length_le (by rw [hf]; omega), Nat.add_sub_cancel, List.nil_append]
theorem HL_cut (hs : List (Nat → Nat)) (k : Nat) : (HL hs).take (k * 32) ++ (HL hs).drop ((k + 1) * 32) = HL (hs.eraseIdx k) := by
  unfold HL
  rw [flat_take _ 32 (fun _ => ULIST_length _ _ _), flat_drop _ 32 (fun _ => ULIST_length _ _ _), List.eraseIdx_eq_take_drop_succ, List.flatMap_append]
theorem RC_cut (rs : List ROW) (i : Nat) : (RC rs).take (i * 3) ++ (RC rs).drop ((i + 1) * 3) = RC (rs.eraseIdx i) := by
  unfold RC
  rw [flat_take _ 3 (fun _ => rfl), flat_drop _ 3 (fun _ => rfl), List.eraseIdx_eq_take_drop_succ, List.flatMap_append]
theorem RC_set : ∀ (rs : List ROW) (i : Nat) (r r' : ROW), rs[i]? = some r → r'.num = r.num → RC (rs.set i r') = ((RC rs).set (i * 3 + 2) r'.v).set (i * 3 + 1) (.int .u64 (r'.live : Int))
  | [], _, _, _, h, _ => by simp at h
  | x :: rs, 0, r, r', h, hn => by
    simp at h
    subst h
    simp [RC, hn]
  | x :: rs, i + 1, r, r', h, hn => by
    have ih := RC_set rs i r r' (by simpa using h) hn
    have e1 : RC (x :: rs) = [.int .u64 (x.num : Int), .int .u64 (x.live : Int), x.v] ++ RC rs := by simp [RC]
    have e2 : RC ((x :: rs).set (i + 1) r') = [.int .u64 (x.num : Int), .int .u64 (x.live : Int), x.v] ++ RC (rs.set i r') := by simp [RC]
    rw [e2, e1, ih, List.set_append_right _ _ (by simp; omega), List.set_append_right _ _ (by simp; omega)]
    simp only [List.length_cons, List.length_nil]
    rw [show (i + 1) * 3 + 2 - (0 + 1 + 1 + 1) = i * 3 + 2 by omega, show (i + 1) * 3 + 1 - (0 + 1 + 1 + 1) = i * 3 + 1 by omega]
theorem RC_one {rs : List ROW} : ∀ u ∈ RC rs, u.oneCell' = true := fun u hu => by
  simp only [RC, List.mem_flatMap] at hu
  obtain ⟨r, _, hu⟩ := hu
  simp at hu
  rcases hu with rfl | rfl | rfl <;> rfl
theorem HL_one {hs : List (Nat → Nat)} : ∀ u ∈ HL hs, u.oneCell' = true := fun u hu => by
  simp only [HL, List.mem_flatMap] at hu
  obtain ⟨r, _, hu⟩ := hu
  exact ULIST_one _ _ _ u hu
/-- the rows rs' are rs with the i-th turned into r', or taken out where r' has no bit. -/
def FEWER (rs rs' : List ROW) (i : Nat) (r' : ROW) : Prop := ∃ φ : Nat → Nat, (∀ a b, a < b → φ a < φ b) ∧ (∀ j s, rs'[j]? = some s → (φ j ≠ i ∧ rs[φ j]? = some s) ∨ (φ j = i ∧ s = r' ∧ r'.live ≠ 0)) ∧ (∀ j s, j ≠ i → rs[j]? = some s → s ∈ rs') ∧ (r'.live ≠ 0 → r' ∈ rs') ∧ rs'.length ≤ rs.length
theorem fewer_set {rs : List ROW} {i : Nat} {r' : ROW} (hi : i < rs.length) (h : r'.live ≠ 0) : FEWER rs (rs.set i r') i r' := by
  refine ⟨fun j => j, fun a b h => h, fun j s hs => ?_, fun j s hj hs => ?_, fun _ => List.mem_set hi r', by simp⟩
  · by_cases e : i = j
    · subst e
      rw [List.getElem?_set_self hi] at hs
      exact .inr ⟨rfl, (Option.some.inj hs).symm, h⟩
    · rw [List.getElem?_set_ne e] at hs
      exact .inl ⟨fun h => e h.symm, hs⟩
  · have : (rs.set i r')[j]? = some s := by rw [List.getElem?_set_ne (fun e => hj e.symm)]; exact hs
    exact List.mem_of_getElem? this
theorem fewer_erase {rs : List ROW} {i : Nat} {r' : ROW} (hi : i < rs.length) (h : r'.live = 0) : FEWER rs (rs.eraseIdx i) i r' := by
  refine ⟨fun j => if j < i then j else j + 1, fun a b h => ?_, fun j s hs => .inl ?_, fun j s hj hs => ?_, fun h' => absurd h h', by rw [List.length_eraseIdx]; split <;> omega⟩
  · dsimp only
    split <;> split <;> omega
  · rw [List.getElem?_eraseIdx] at hs
    dsimp only
    split
    · rename_i e
      rw [if_pos e] at hs
      exact ⟨by omega, hs⟩
    · rename_i e
      rw [if_neg e] at hs
      exact ⟨by omega, hs⟩
  · by_cases e : j < i
    · have : (rs.eraseIdx i)[j]? = some s := by rw [List.getElem?_eraseIdx, if_pos e]; exact hs
      exact List.mem_of_getElem? this
    · have : (rs.eraseIdx i)[j - 1]? = some s := by rw [List.getElem?_eraseIdx, if_neg (by omega), show j - 1 + 1 = j by omega]; exact hs
      exact List.mem_of_getElem? this
abbrev RISE (rs : List ROW) : Prop := ∀ (i j : Nat) (r s : ROW), i < j → rs[i]? = some r → rs[j]? = some s → r.num < s.num
theorem FEWER.rise {rs rs' : List ROW} {i : Nat} {r r' : ROW} (h : FEWER rs rs' i r') (hr : rs[i]? = some r) (hn : r'.num = r.num) (hR : RISE rs) : RISE rs' := fun a b x y hab hx hy => by
  obtain ⟨φ, m, f, _⟩ := h
  have hm := m a b hab
  have key : ∀ j s, rs'[j]? = some s → ∃ s0, rs[φ j]? = some s0 ∧ s0.num = s.num := fun j s hs => by
    rcases f j s hs with ⟨_, h1⟩ | ⟨h1, h2, _⟩
    · exact ⟨s, h1, rfl⟩
    · exact ⟨r, by rw [h1]; exact hr, by rw [h2, hn]⟩
  obtain ⟨x0, hx0, ex⟩ := key a x hx
  obtain ⟨y0, hy0, ey⟩ := key b y hy
  rw [← ex, ← ey]
  exact hR _ _ _ _ hm hx0 hy0
theorem LOOK_mem {rs : List ROW} {p : Nat} {s : ROW} (hR : RISE rs) (hs : s ∈ rs) (hn : s.num = p / 64) : LOOK rs p = if s.live.testBit (p % 64) then s.hs[RK s.live (p % 64)]? else none := by
  obtain ⟨j, hj⟩ := List.getElem?_of_mem hs
  exact LOOK_at hj hn hR
theorem FEWER.back {rs rs' : List ROW} {i : Nat} {r' s : ROW} (h : FEWER rs rs' i r') (hs : s ∈ rs') : (∃ j, j ≠ i ∧ rs[j]? = some s) ∨ (s = r' ∧ r'.live ≠ 0) := by
  obtain ⟨φ, m, f, _⟩ := h
  obtain ⟨j, hj⟩ := List.getElem?_of_mem hs
  rcases f j s hj with ⟨h1, h2⟩ | ⟨_, h2⟩
  · exact .inl ⟨_, h1, h2⟩
  · exact .inr h2
theorem LOOK_fewer {rs rs' : List ROW} {i p k gh ch : Nat} {r : ROW} (hr : rs[i]? = some r) (hn : r.num = p / 64) (hk : p % 64 = k) (hl : r.live < 2 ^ 64) (hb : r.live.testBit k = true) (hR : RISE rs) (h : FEWER rs rs' i ⟨r.num, CLR r.live k, gh, ch, r.hs.eraseIdx (RK r.live k)⟩) (p' : Nat) :
    LOOK rs' p' = if p' = p then none else LOOK rs p' := by
  have hR' := h.rise hr rfl hR
  have hk64 : k < 64 := by rw [← hk]; exact Nat.mod_lt _ (by decide)
  by_cases e : p' / 64 = r.num
  · have hL := LOOK_at hr e.symm hR
    by_cases e0 : CLR r.live k = 0
    · have hno : ∀ s ∈ rs', s.num ≠ p' / 64 := fun s hs en => by
        rcases h.back hs with ⟨j, hj, hjs⟩ | ⟨_, h2⟩
        · rcases Nat.lt_or_gt_of_ne hj with h1 | h1
          · have := hR j i s r h1 hjs hr; omega
          · have := hR i j r s h1 hr hjs; omega
        · exact h2 e0
      rw [LOOK_none hno]
      by_cases e2 : p' = p
      · rw [if_pos e2]
      · rw [if_neg e2, hL]
        have hj : ¬ k = p' % 64 := by omega
        have := CLR_bit (j := p' % 64) hl hk64
        rw [e0] at this
        simp [hj] at this
        rw [this]
        rfl
    · obtain ⟨φ, m, f1, f2, f3, f4⟩ := h
      rw [LOOK_mem hR' (f3 e0) (by exact e.symm), CLR_bit hl hk64]
      dsimp only
      by_cases e2 : p' = p
      · have hj : k = p' % 64 := by omega
        rw [if_pos e2]
        simp [hj]
      · have hj : ¬ k = p' % 64 := by omega
        rw [if_neg e2, hL]
        simp only [hj, decide_false, Bool.not_false, Bool.and_true]
        cases hb2 : r.live.testBit (p' % 64)
        · rfl
        · rw [if_pos rfl, if_pos rfl, List.getElem?_eraseIdx]
          have h1 := RK_CLR hl hk64 hb (p' % 64)
          have h2 := RK_CLR hl hk64 hb k
          rw [if_neg (Nat.lt_irrefl _)] at h2
          by_cases e3 : k < p' % 64
          · rw [if_pos e3] at h1
            have h3 := RK_mono (CLR r.live k) (i := k) (j := p' % 64) (by omega)
            rw [if_neg (by omega), h1]
          · rw [if_neg e3] at h1
            have h3 := RK_mono (CLR r.live k) (i := p' % 64 + 1) (j := k) (by omega)
            rw [RK, CLR_bit hl hk64, hb2] at h3
            simp [hj] at h3
            rw [if_pos (by omega), h1, Nat.add_zero]
  · have e2 : p' ≠ p := fun h => e (by rw [h]; exact hn.symm)
    rw [if_neg e2]
    by_cases hs : ∃ s ∈ rs, s.num = p' / 64
    · obtain ⟨s, hs, en⟩ := hs
      obtain ⟨j, hj⟩ := List.getElem?_of_mem hs
      have hji : j ≠ i := fun h => by subst h; rw [hr] at hj; cases hj; omega
      obtain ⟨φ, m, f1, f2, f3, f4⟩ := h
      rw [LOOK_mem hR hs en, LOOK_mem hR' (f2 j s hji hj) en]
    · rw [LOOK_none (rs := rs) (fun s h1 h2 => hs ⟨s, h1, h2⟩), LOOK_none]
      intro s h1 h2
      rcases h.back h1 with ⟨j, _, hjs⟩ | ⟨h3, _⟩
      · exact hs ⟨s, List.mem_of_getElem? hjs, h2⟩
      · rw [h3] at h2; exact e h2.symm
end Go.Proofs.Ytkmcmngdainofaa

/- Rows of a chunk, one after the other thinned. -/
namespace Go.Proofs.Ytkmcmngdainofaa
open Go.RowKit Go.Maps
set_option maxRecDepth 100000

theorem over_two (P Q : List Value) (n l v l' v' : Value) : ((P ++ ([n, l, v] ++ Q)).take (P.length + 2) ++ [v'] ++ (P ++ ([n, l, v] ++ Q)).drop (P.length + 2 + 1)).take (P.length + 1) ++ [l'] ++ ((P ++ ([n, l, v] ++ Q)).take (P.length + 2) ++ [v'] ++ (P ++ ([n, l, v] ++ Q)).drop (P.length + 2 + 1)).drop (P.length + 1 + 1) = P ++ ([n, l', v'] ++ Q) := by
  have h1 : (P ++ ([n, l, v] ++ Q)).take (P.length + 2) = P ++ [n, l] := by
    rw [List.take_length_add_append]; rfl
  have h2 : (P ++ ([n, l, v] ++ Q)).drop (P.length + 2 + 1) = Q := by
    rw [show P.length + 2 + 1 = P.length + 3 by omega, List.drop_length_add_append]; rfl
  rw [h1, h2]
  have h3 : (P ++ [n, l] ++ [v'] ++ Q) = P ++ ([n, l, v'] ++ Q) := by simp
  rw [h3, show P.length + 1 + 1 = P.length + 2 by omega, List.take_length_add_append, List.drop_length_add_append]
  simp
/-- the i-th row with other bits and another list. -/
theorem own_thin {w : World} {B gr n cap i : Nat} {L : List ROW} {r : ROW} (h : w.ownsRow B 73 3 (.slice (some ⟨gr, 0, none⟩) n cap) n (RC L)) (hl : L.length = n) (hi : L[i]? = some r) (r' : ROW) (e1 : r'.num = r.num) :
    ((w.setCell ⟨gr, i * 3 + 2, none⟩ r'.v).setCell ⟨gr, i * 3 + 1, none⟩ (.int .u64 (r'.live : Int))).ownsRow B 73 3 (.slice (some ⟨gr, 0, none⟩) n cap) n (RC (L.set i r')) := by
  have hin : i < n := by have := (List.getElem?_eq_some_iff.1 hi).1; omega
  have h2 := own_written (o := i * 3 + 2) (vs := [r'.v]) h (by simp; omega)
  have h3 := own_written (o := i * 3 + 1) (vs := [.int .u64 (r'.live : Int)]) h2 (by simp; omega)
  have e : RC L = RC (L.take i) ++ (RC1 r ++ RC (L.drop (i + 1))) := by
    conv => lhs; rw [← List.take_append_drop i L, RC_append]
    rw [List.drop_eq_getElem_cons (by omega), show L[i] = r from (List.getElem?_eq_some_iff.1 hi).2]
    simp [RC]
  have e' : RC (L.set i r') = RC (L.take i) ++ (RC1 r' ++ RC (L.drop (i + 1))) := by
    rw [← RC_put3 L i r' (by omega), RC_first L i (by omega), show i * 3 + (RC1 r').length = (i + 1) * 3 by simp; omega, RC_rest L (i + 1) (by omega), List.append_assoc]
  have hP : (RC (L.take i)).length = i * 3 := by rw [RC_length]; simp; omega
  have k := over_two (RC (L.take i)) (RC (L.drop (i + 1))) (.int .u64 (r.num : Int)) (.int .u64 (r.live : Int)) r.v (.int .u64 (r'.live : Int)) r'.v
  rw [hP] at k
  rw [e', show RC1 r' = [.int .u64 (r.num : Int), .int .u64 (r'.live : Int), r'.v] by rw [← e1]]
  rw [e] at h3
  rw [← k]
  exact h3
/-- a row of which the bits st stay. -/
structure THR (st : Nat → Nat) (r r' : ROW) : Prop where
  num : r'.num = r.num
  live : r'.live = st r.num &&& r.live
  len : r'.hs.length = POP r'.live
  look : ∀ k, k < 64 → r'.live.testBit k = true → r'.hs[RK r'.live k]? = r.hs[RK r.live k]?
  byte : (∀ h ∈ r.hs, ∀ i, h i < 256) → ∀ h ∈ r'.hs, ∀ i, h i < 256
theorem THR.same {st : Nat → Nat} {r : ROW} (h : st r.num &&& r.live = r.live) (hl : r.hs.length = POP r.live) : THR st r r := ⟨rfl, h.symm, hl, fun _ _ _ => rfl, fun h => h⟩
theorem THR.kept {st : Nat → Nat} {r : ROW} {g2 c2 s : Nat} (h : st r.num &&& r.live = s) (hl : r.hs.length = POP r.live) : THR st r ⟨r.num, s, g2, c2, KPT r.live r.hs (PLACES s)⟩ := by
  refine ⟨rfl, h.symm, KPT_length _ _ _, fun k hk hb => ?_, fun h8 => KPT_mem (P := fun h => ∀ i, h i < 256) (fun _ => Nat.zero_lt_of_lt (by decide : (0 : Nat) < 256)) h8⟩
  refine KPT_at hk hb ?_
  have hb2 : r.live.testBit k = true := by
    have hb' : s.testBit k = true := hb
    rw [← h] at hb'
    exact stay_bits hb'
  rw [hl]
  exact RK_lt hk hb2
theorem RISE_iff {l : List ROW} : RISE l ↔ l.Pairwise (fun r s => r.num < s.num) := by
  rw [List.pairwise_iff_getElem]
  constructor
  · intro h i j hi hj hij
    exact h i j _ _ hij (List.getElem?_eq_getElem hi) (List.getElem?_eq_getElem hj)
  · intro h i j r s hij hr hs
    obtain ⟨h1, rfl⟩ := List.getElem?_eq_some_iff.1 hr
    obtain ⟨h2, rfl⟩ := List.getElem?_eq_some_iff.1 hs
    exact h i j h1 h2 hij
theorem RISE_thin {st : Nat → Nat} {rs L : List ROW} (hR : RISE rs) (hlen : L.length = rs.length) (hL : ∀ (k : Nat) (r : ROW), rs[k]? = some r → ∃ r', L[k]? = some r' ∧ THR st r r') : RISE L := fun i j r s hij hr hs => by
  have hi : i < rs.length := by have := (List.getElem?_eq_some_iff.1 hr).1; omega
  have hj : j < rs.length := by have := (List.getElem?_eq_some_iff.1 hs).1; omega
  obtain ⟨r2, h1, h2⟩ := hL i rs[i] (List.getElem?_eq_getElem hi)
  obtain ⟨s2, h3, h4⟩ := hL j rs[j] (List.getElem?_eq_getElem hj)
  rw [hr] at h1
  rw [hs] at h3
  cases h1
  cases h3
  rw [h2.num, h4.num]
  exact hR i j _ _ hij (List.getElem?_eq_getElem hi) (List.getElem?_eq_getElem hj)
theorem RISE_lives {l : List ROW} (h : RISE l) : RISE (LVS l) := RISE_iff.2 ((RISE_iff.1 h).filter _)
/-- what a chunk looks like whose rows are thinned, those in which nothing lives left out. -/
theorem LOOK_thin {st : Nat → Nat} {rs L : List ROW} (hR : RISE rs) (hlen : L.length = rs.length) (hL : ∀ (k : Nat) (r : ROW), rs[k]? = some r → ∃ r', L[k]? = some r' ∧ THR st r r') (p : Nat) : LOOK (LVS L) p = if (st (p / 64)).testBit (p % 64) = true then LOOK rs p else none := by
  have hRT := RISE_thin hR hlen hL
  have hRL := RISE_lives hRT
  by_cases hex : ∃ (k : Nat) (r : ROW), rs[k]? = some r ∧ r.num = p / 64
  · obtain ⟨k, r, hk, hn⟩ := hex
    obtain ⟨r', hk', ht⟩ := hL k r hk
    have e1 := LOOK_mem hR (List.mem_of_getElem? hk) hn
    have hb : r'.live.testBit (p % 64) = ((st (p / 64)).testBit (p % 64) && r.live.testBit (p % 64)) := by rw [ht.live, Nat.testBit_and, hn]
    by_cases h0 : r'.live.testBit (p % 64) = true
    · have hmem : r' ∈ LVS L := List.mem_filter.2 ⟨List.mem_of_getElem? hk', by
        simp
        intro e
        rw [e, Nat.zero_testBit] at h0
        cases h0⟩
      rw [LOOK_mem hRL hmem (by rw [ht.num, hn]), if_pos h0, ht.look _ (Nat.mod_lt _ (by decide)) h0]
      rw [h0] at hb
      simp only [Bool.true_eq, Bool.and_eq_true] at hb
      rw [if_pos hb.1, e1, if_pos hb.2]
    · have e2 : LOOK (LVS L) p = none := by
        by_cases hmem : r' ∈ LVS L
        · rw [LOOK_mem hRL hmem (by rw [ht.num, hn]), if_neg h0]
        · refine LOOK_none (fun s hs e => hmem ?_)
          obtain ⟨k2, hk2⟩ := List.getElem?_of_mem (List.mem_filter.1 hs).1
          have hnum : s.num = r'.num := by rw [e, ht.num, hn]
          rcases Nat.lt_trichotomy k k2 with h | h | h
          · have := hRT k k2 _ _ h hk' hk2; omega
          · subst h
            rw [hk'] at hk2
            cases hk2
            exact hs
          · have := hRT k2 k _ _ h hk2 hk'; omega
      rw [e2]
      by_cases hs : (st (p / 64)).testBit (p % 64) = true
      · rw [if_pos hs, e1]
        rw [hs, Bool.true_and] at hb
        rw [if_neg (by rw [← hb]; exact h0)]
      · rw [if_neg hs]
  · have e1 : LOOK rs p = none := LOOK_none (fun r hr e => by
      obtain ⟨k, hk⟩ := List.getElem?_of_mem hr
      exact hex ⟨k, r, hk, e⟩)
    have e2 : LOOK (LVS L) p = none := LOOK_none (fun r' hr' e => by
      obtain ⟨k, hk⟩ := List.getElem?_of_mem (List.mem_filter.1 hr').1
      have hkl : k < rs.length := by have := (List.getElem?_eq_some_iff.1 hk).1; omega
      obtain ⟨r2, h1, h2⟩ := hL k rs[k] (List.getElem?_eq_getElem hkl)
      rw [hk] at h1
      cases h1
      exact hex ⟨k, rs[k], List.getElem?_eq_getElem hkl, by rw [← h2.num]; exact e⟩)
    rw [e1, e2]
    split <;> rfl
end Go.Proofs.Ytkmcmngdainofaa

/- The state of a chunk while its rows are thinned. -/
namespace Go.Proofs.Ytkmcmngdainofaa
open Go.RowKit Go.Maps
set_option maxRecDepth 100000

/-- the closure of Cut: the bits below n. -/
theorem cutstay_ok (n row bn : Nat) (hn : n < 2 ^ 64) (w : World) (h : w.cell? ⟨bn, 0, none⟩ = some (.int .u64 (n : Int))) : Calls Try.prog 24 #[.int .u64 (row : Int), .pointer (some ⟨bn, 0, none⟩)] w fun e w' => e = .returned (.int .u64 (BLW n row : Int)) ∧ w = w' := by
  have c := below_ok n row hn w
  generalize BLW n row = b at *
  go_enter Try.func24, Try.ntmps24
  go_wp2_with fail
  refine c.mono ?_
  rintro e w' ⟨rfl, rfl⟩
  go_wp2
  go_ret
  exact ⟨rfl, rfl⟩
/-- the first i rows are thinned. -/
structure TST (w wx : World) (B gc gr n cap : Nat) (st : Nat → Nat) (rs L : List ROW) (i : Nat) : Prop where
  len : L.length = n
  box : Has wx gc #[.slice (some ⟨gr, 0, none⟩) n cap] 70
  rows : wx.ownsRow B 73 3 (.slice (some ⟨gr, 0, none⟩) n cap) n (RC L)
  done : ∀ (k : Nat) (r : ROW), rs[k]? = some r → ∃ r', L[k]? = some r' ∧ (k < i → THR st r r') ∧ (i ≤ k → r' = r)
  own : ∀ r ∈ L, wx.ownsRow B 33 32 r.v r.hs.length (HL r.hs)
  one : ∀ (a b : Nat) (r s : ROW), a ≠ b → L[a]? = some r → L[b]? = some s → r.gh ≠ s.gh
  old : ∀ r ∈ L, (∃ r0 ∈ rs, r0.gh = r.gh) ∨ w.heap.size ≤ r.gh
  same : ∀ b, b < w.heap.size → b ≠ gr → wx.heap[b]? = w.heap[b]?
  size : w.heap.size ≤ wx.heap.size
  base : B ≤ w.heap.size
  oto : OTO w wx
theorem TST.start {w : World} {B gc gr cap : Nat} {st : Nat → Nat} {rs : List ROW} (hC : CHUNK w B gc rs) (hb : Has w gc #[.slice (some ⟨gr, 0, none⟩) rs.length cap] 70) (hB : B ≤ w.heap.size) : TST w w B gc gr rs.length cap st rs rs 0 := by
  obtain ⟨v, h1, h2⟩ := hC.box
  have e : v = .slice (some ⟨gr, 0, none⟩) rs.length cap := by
    have := (h1.cell 0).symm.trans (hb.cell 0)
    exact Option.some.inj this
  subst e
  exact ⟨rfl, hb, h2, fun k r hr => ⟨r, hr, fun h => by omega, fun _ => rfl⟩, fun r hr => (hC.row r hr).2.2.2.2, hC.apart, fun r hr => .inl ⟨r, hr, rfl⟩, fun _ _ _ => rfl, Nat.le_refl _, hB, OTO.refl _⟩
theorem TST.below {w wx w' : World} {B gc gr n cap i : Nat} {st : Nat → Nat} {rs L : List ROW} (h : TST w wx B gc gr n cap st rs L i) (hb : Below wx.heap.size wx w') : TST w w' B gc gr n cap st rs L i :=
  ⟨h.len, h.box.keep hb, own_keep h.rows hb, h.done, fun r hr => own_keep (h.own r hr) hb, h.one, h.old, fun b hl hg => (hb.block b (Nat.lt_of_lt_of_le hl h.size)).trans (h.same b hl hg), Nat.le_trans h.size hb.size, h.base, h.oto.trans (OTO.of_below hb)⟩
theorem TST.skip {w wx : World} {B gc gr n cap i : Nat} {st : Nat → Nat} {rs L : List ROW} {r : ROW} (h : TST w wx B gc gr n cap st rs L i) (hr : rs[i]? = some r) (hs : st r.num &&& r.live = r.live) (hl : r.hs.length = POP r.live) : TST w wx B gc gr n cap st rs L (i + 1) := by
  refine ⟨h.len, h.box, h.rows, fun k q hq => ?_, h.own, h.one, h.old, h.same, h.size, h.base, h.oto⟩
  obtain ⟨q', h1, h2, h3⟩ := h.done k q hq
  refine ⟨q', h1, fun hk => ?_, fun hk => h3 (by omega)⟩
  by_cases e : k = i
  · subst e
    rw [hr] at hq
    cases hq
    rw [h3 (Nat.le_refl _)]
    exact THR.same hs hl
  · exact h2 (by omega)
theorem TST.next {w wx w1 : World} {B gc gr n cap i g2 c2 s : Nat} {st : Nat → Nat} {rs L : List ROW} {r : ROW} (h : TST w wx B gc gr n cap st rs L i) (hr : rs[i]? = some r) (hLi : L[i]? = some r) (hs : st r.num &&& r.live = s) (hl : r.hs.length = POP r.live) (hb : Below wx.heap.size wx w1)
    (ho : w1.ownsRow wx.heap.size 33 32 (.slice (some ⟨g2, 0, none⟩) (POP s) c2) (POP s) (HL (KPT r.live r.hs (PLACES s)))) :
    TST w ((w1.setCell ⟨gr, i * 3 + 2, none⟩ (.slice (some ⟨g2, 0, none⟩) (POP s) c2)).setCell ⟨gr, i * 3 + 1, none⟩ (.int .u64 (s : Int))) B gc gr n cap st rs (L.set i ⟨r.num, s, g2, c2, KPT r.live r.hs (PLACES s)⟩) (i + 1) := by
  have hB := h.below hb
  have hil : i < L.length := (List.getElem?_eq_some_iff.1 hLi).1
  obtain ⟨r', er'⟩ : ∃ r' : ROW, r' = ⟨r.num, s, g2, c2, KPT r.live r.hs (PLACES s)⟩ := ⟨_, rfl⟩
  have hv : r'.v = .slice (some ⟨g2, 0, none⟩) (POP s) c2 := by rw [er']; show Value.slice _ (KPT r.live r.hs (PLACES s)).length c2 = _; rw [KPT_length]
  have hlv : r'.live = s := by rw [er']
  have hgh : r'.gh = g2 := by rw [er']
  have hrn : r'.num = r.num := by rw [er']
  have hrl : r'.hs = KPT r.live r.hs (PLACES s) := by rw [er']
  have hT : THR st r r' := by rw [er']; exact THR.kept hs hl
  rw [← er']
  have hrows := own_thin hB.rows hB.len hLi r' hrn
  rw [hv, hlv] at hrows
  obtain ⟨w2, hw2⟩ : ∃ w2, (w1.setCell ⟨gr, i * 3 + 2, none⟩ (.slice (some ⟨g2, 0, none⟩) (POP s) c2)).setCell ⟨gr, i * 3 + 1, none⟩ (.int .u64 (s : Int)) = w2 := ⟨_, rfl⟩
  rw [hw2] at hrows ⊢
  have hset : ∀ b, b ≠ gr → w2.heap[b]? = w1.heap[b]? := fun b hne => by
    rw [← hw2]
    exact (Below.heap_setCell _ _ _ b (by exact hne)).trans (Below.heap_setCell _ _ _ b (by exact hne))
  have hsz : w2.heap.size = w1.heap.size := by rw [← hw2]; simp
  have hg2 := ho.lt g2 rfl
  have hgr := (h.rows.lt gr rfl)
  have hgrk : ∃ c, w1.heap[gr]? = some (.cells c 73 (0, 0)) := by
    obtain ⟨c1, e1, _⟩ := own_block hB.rows (b := gr) rfl
    exact ⟨c1, e1⟩
  obtain ⟨cg, hcg⟩ := hgrk
  have hold : ∀ q ∈ L, q.gh ≠ gr := fun q hq e => by
    obtain ⟨c1, e1, _⟩ := own_block (hB.own q hq) (b := q.gh) rfl
    rw [e, hcg] at e1
    cases e1
  have hlt : ∀ q ∈ L, q.gh < wx.heap.size := fun q hq => ((h.own q hq).lt q.gh rfl).2
  have hgcne : gc ≠ gr := fun e => by
    have := hB.box
    unfold Has at this
    rw [e, hcg] at this
    cases this
  have hmem : ∀ q, q ∈ L.set i r' → q = r' ∨ q ∈ L := fun q hq => (List.mem_or_eq_of_mem_set hq).symm
  refine ⟨by rw [List.length_set]; exact h.len, ?_, hrows, fun k q hq => ?_, fun q hq => ?_, fun a b q q' hab hq hq' => ?_, fun q hq => ?_, fun b hl' hne => (hset b hne).trans (hB.same b hl' hne), by rw [hsz]; exact hB.size, h.base, by rw [← hw2]; exact (hB.oto.trans (OTO.cell _ _ _)).trans (OTO.cell _ _ _)⟩
  · show w2.heap[gc]? = _
    rw [hset gc hgcne]
    exact hB.box
  · by_cases e : k = i
    · subst e
      rw [hr] at hq
      cases hq
      exact ⟨r', List.getElem?_set_self hil, fun _ => hT, fun hk => by omega⟩
    · obtain ⟨q', h1, h2, h3⟩ := h.done k q hq
      exact ⟨q', by rw [List.getElem?_set_ne (fun e' => e e'.symm)]; exact h1, fun hk => h2 (by omega), fun hk => h3 (by omega)⟩
  · rcases hmem q hq with rfl | hq
    · refine own_same (w := w1) ?_ (fun b hb' => hset b (fun e => ?_))
      · rw [hv, hrl, KPT_length]
        exact ⟨ho.1, ho.2.imp id fun ⟨g, c, cur, a, b, rest⟩ => ⟨g, c, cur, a, Nat.le_trans h.base (Nat.le_trans h.size b), rest⟩⟩
      · rw [hv] at hb'
        have : b = g2 := by cases hb'; rfl
        omega
    · exact own_same (hB.own q hq) (fun b hb' => hset b (fun e => hold q hq (by cases hb'; exact e)))
  · by_cases ea : a = i
    · subst ea
      rw [List.getElem?_set_self hil] at hq
      cases hq
      rw [List.getElem?_set_ne hab] at hq'
      rw [hgh]
      have := hlt q' (List.mem_of_getElem? hq')
      omega
    · rw [List.getElem?_set_ne (fun e => ea e.symm)] at hq
      by_cases eb : b = i
      · subst eb
        rw [List.getElem?_set_self hil] at hq'
        cases hq'
        rw [hgh]
        have := hlt q (List.mem_of_getElem? hq)
        omega
      · rw [List.getElem?_set_ne (fun e => eb e.symm)] at hq'
        exact h.one a b q q' hab hq hq'
  · rcases hmem q hq with rfl | hq
    · right
      rw [hgh]
      have := h.size
      omega
    · exact h.old q hq
end Go.Proofs.Ytkmcmngdainofaa
