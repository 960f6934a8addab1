/- What a chunk has when the next place is put: in plain lists. -/
import Derived.Test.YtkmcmngdainofaaStorePutNew
namespace Go.Proofs.Ytkmcmngdainofaa
open Go.RowKit
set_option maxRecDepth 100000

theorem or_bit (X k j : Nat) : (X ||| 2 ^ k).testBit j = (X.testBit j || decide (k = j)) := by rw [Nat.testBit_or, Nat.testBit_two_pow]
theorem RK_or {X k : Nat} (h : X.testBit k = false) : ∀ j, RK (X ||| 2 ^ k) j = RK X j + if k < j then 1 else 0
  | 0 => by simp [RK]
  | j + 1 => by
    rw [RK, RK, RK_or h j, or_bit]
    by_cases e : k = j
    · subst e
      rw [h]
      simp
    · have e1 : (X.testBit j || decide (k = j)) = X.testBit j := by simp [e]
      rw [e1]
      generalize (if X.testBit j = true then 1 else 0) = z
      by_cases e2 : k < j
      · have e3 : k < j + 1 := by omega
        simp only [e2, e3, if_true]
        omega
      · have e3 : ¬ k < j + 1 := by omega
        simp only [e2, e3, if_false]
        omega
theorem POP_or {X k : Nat} (h : X.testBit k = false) (hk : k < 64) : POP (X ||| 2 ^ k) = POP X + 1 := by
  rw [POP_RK, POP_RK, RK_or h, if_pos hk]
theorem or_lt {X k : Nat} (hX : X < 2 ^ 64) (hk : k < 64) : X ||| 2 ^ k < 2 ^ 64 := Nat.or_lt_two_pow hX (Nat.pow_lt_pow_right (by decide) hk)
/-- all set bits lie below k: the rank of k is their number. -/
theorem RK_last {X k : Nat} (hk : k ≤ 64) (h : ∀ j, j < 64 → X.testBit j = true → j < k) : RK X k = POP X := by
  rw [POP_RK, RK_none (k := k) hk (fun i a b => by
    cases hb : X.testBit i
    · rfl
    · have := h i b hb; omega)]
/-- one row more, or one hash more in the last row. -/
def MORE (rs : List ROW) (i q k gh ch : Nat) (live : Nat) (hs : List (Nat → Nat)) (h : Nat → Nat) : List ROW := rs.take i ++ [⟨q, live ||| 2 ^ k, gh, ch, hs ++ [h]⟩]
theorem HL_snoc (hs : List (Nat → Nat)) (h : Nat → Nat) : HL (hs ++ [h]) = HL hs ++ ULIST .u8 32 h := by simp [HL]
theorem RC_snoc (rs : List ROW) (r : ROW) : RC (rs ++ [r]) = RC rs ++ [.int .u64 (r.num : Int), .int .u64 (r.live : Int), r.v] := by simp [RC]
theorem set_two (xs : List Value) (n : Nat) (hn : xs.length = n * 3) (a b c b' c' : Value) : ((xs ++ [a, b, c]).set (n * 3 + 2) c').set (n * 3 + 1) b' = xs ++ [a, b', c'] := by
  rw [List.set_append_right _ _ (by omega), List.set_append_right _ _ (by omega), hn, show n * 3 + 2 - n * 3 = 2 by omega, show n * 3 + 1 - n * 3 = 1 by omega]
  rfl
theorem RC_more_old {rs : List ROW} {i q k gh ch : Nat} {r : ROW} {h : Nat → Nat} (hr : rs[i]? = some r) (hi : i + 1 = rs.length) (hq : r.num = q) : RC (MORE rs i q k gh ch r.live r.hs h) = ((RC rs).set (i * 3 + 2) (.slice (some ⟨gh, 0, none⟩) (r.hs.length + 1) ch)).set (i * 3 + 1) (.int .u64 ((r.live ||| 2 ^ k : Nat) : Int)) := by
  have hsplit : rs = rs.take i ++ [r] := by
    have h1 := List.take_append_drop i rs
    have h2 : rs.drop i = [r] := by
      rw [List.drop_eq_getElem_cons (by omega), List.drop_of_length_le (by omega)]
      rw [List.getElem?_eq_getElem (by omega)] at hr
      rw [Option.some.inj hr]
    rw [h2] at h1
    exact h1.symm
  have hl : (RC (rs.take i)).length = i * 3 := by rw [RC_length, List.length_take]; omega
  have e : RC rs = RC (rs.take i) ++ [.int .u64 (r.num : Int), .int .u64 (r.live : Int), r.v] := by
    conv => lhs; rw [hsplit]
    rw [RC_snoc]
  rw [MORE, RC_snoc, e, set_two _ i hl, hq]
  simp [ROW.v]
theorem RC_more_new {rs : List ROW} {n q k gh ch : Nat} {h : Nat → Nat} (hn : rs.length = n) : RC (MORE rs n q k gh ch 0 [] h) = ((RC rs ++ RQL q).set (n * 3 + 2) (.slice (some ⟨gh, 0, none⟩) 1 ch)).set (n * 3 + 1) (.int .u64 ((2 ^ k : Nat) : Int)) := by
  rw [MORE, List.take_of_length_le (by omega), RC_snoc, RQL, set_two _ n (by rw [RC_length, hn])]
  simp [ROW.v]
/-- the next place: behind all that are there. -/
def NEXT (rs : List ROW) (p : Nat) : Prop := ∀ r ∈ rs, r.num < p / 64 ∨ (r.num = p / 64 ∧ ∀ j, j < 64 → r.live.testBit j = true → j < p % 64)
theorem LOOK_take {rs : List ROW} {i p : Nat} {r : ROW} (hs : ∀ s ∈ rs.drop i, s.num ≠ p / 64) : LOOK (rs.take i ++ [r]) p = if r.num = p / 64 ∧ ∀ s ∈ rs.take i, s.num ≠ p / 64 then (if r.live.testBit (p % 64) then r.hs[RK r.live (p % 64)]? else none) else LOOK rs p := by
  unfold LOOK
  rw [List.find?_append]
  conv => rhs; rw [← List.take_append_drop i rs, List.find?_append]
  have hd : (rs.drop i).find? (fun r => r.num == p / 64) = none := List.find?_eq_none.2 fun s h => by simpa using hs s h
  rw [hd]
  cases hf : (rs.take i).find? (fun r => r.num == p / 64) with
  | some s =>
    have hm := List.mem_of_find?_eq_some hf
    have hn : s.num = p / 64 := by simpa using List.find?_some hf
    rw [if_neg (fun h => h.2 s (by rw [List.take_append_drop] at *; exact hm) hn)]
    simp
  | none =>
    have hno : ∀ s ∈ rs.take i, s.num ≠ p / 64 := fun s h => by simpa using List.find?_eq_none.1 hf s h
    by_cases e : r.num = p / 64
    · rw [if_pos ⟨e, by rw [List.take_append_drop]; exact hno⟩]
      simp [e]
    · rw [if_neg (fun h => e h.1)]
      simp [e]
end Go.Proofs.Ytkmcmngdainofaa
