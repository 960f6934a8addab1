/- chunk.put of the next place: what the chunk has then. -/
import Derived.Test.YtkmcmngdainofaaStorePutPlain
namespace Go.Proofs.Ytkmcmngdainofaa
open Go.RowKit
set_option maxRecDepth 100000

/-- what stands from index i on: nothing, or one row with this number, these bits and hashes. -/
def REST (rs : List ROW) (i q live : Nat) (hs : List (Nat → Nat)) : Prop := (rs.length = i ∧ live = 0 ∧ hs = []) ∨ ∃ r, rs[i]? = some r ∧ i + 1 = rs.length ∧ r.num = q ∧ r.live = live ∧ r.hs = hs
theorem REST.drop {rs : List ROW} {i q live : Nat} {hs : List (Nat → Nat)} (h : REST rs i q live hs) : ∀ s ∈ rs.drop i, s.num = q := fun s hs' => by
  rcases h with ⟨h, _⟩ | ⟨r, hr, hi, hq, _⟩
  · rw [List.drop_of_length_le (by omega)] at hs'
    cases hs'
  · rw [List.drop_eq_getElem_cons (by omega), List.drop_of_length_le (by omega)] at hs'
    simp only [List.mem_singleton] at hs'
    rw [List.getElem?_eq_getElem (by omega)] at hr
    rw [hs', Option.some.inj hr]
    exact hq
theorem REST.look {rs : List ROW} {i q live p : Nat} {hs : List (Nat → Nat)} (h : REST rs i q live hs) (hlow : ∀ s ∈ rs.take i, s.num < q) (hp : p / 64 = q) : LOOK rs p = if live.testBit (p % 64) then hs[RK live (p % 64)]? else none := by
  have hf : (rs.take i).find? (fun r => r.num == p / 64) = none := List.find?_eq_none.2 fun s hs' => by
    have := hlow s hs'
    simp
    omega
  unfold LOOK
  conv => lhs; rw [← List.take_append_drop i rs, List.find?_append, hf]
  rcases h with ⟨h, rfl, rfl⟩ | ⟨r, hr, hi, hq, rfl, rfl⟩
  · rw [List.drop_of_length_le (by omega)]
    simp
  · have e : rs.drop i = [r] := by
      rw [List.drop_eq_getElem_cons (by omega), List.drop_of_length_le (by omega)]
      rw [List.getElem?_eq_getElem (by omega)] at hr
      rw [Option.some.inj hr]
    rw [e]
    have hb : (r.num == p / 64) = true := by simp; omega
    simp [hb]
theorem LOOK_more {rs : List ROW} {i q k gh ch live p p' : Nat} {hs : List (Nat → Nat)} {h : Nat → Nat} (hR : REST rs i q live hs) (hlow : ∀ s ∈ rs.take i, s.num < q) (hq : p / 64 = q) (hk : p % 64 = k) (hbits : ∀ j, j < 64 → live.testBit j = true → j < k) (hlen : hs.length = POP live) :
    LOOK (MORE rs i q k gh ch live hs h) p' = if p' = p then some h else LOOK rs p' := by
  have hk64 : k < 64 := by rw [← hk]; exact Nat.mod_lt _ (by decide)
  have hno : live.testBit k = false := by
    cases hb : live.testBit k
    · rfl
    · have := hbits k hk64 hb; omega
  have hrk : RK live k = hs.length := by rw [hlen, RK_last (by omega) hbits]
  unfold MORE
  by_cases e : p' / 64 = q
  · have hf : (rs.take i).find? (fun r => r.num == p' / 64) = none := List.find?_eq_none.2 fun s hs' => by
      have := hlow s hs'
      simp
      omega
    have hL : LOOK (rs.take i ++ [⟨q, live ||| 2 ^ k, gh, ch, hs ++ [h]⟩]) p' = if (live ||| 2 ^ k).testBit (p' % 64) then (hs ++ [h])[RK (live ||| 2 ^ k) (p' % 64)]? else none := by
      unfold LOOK
      rw [List.find?_append, hf]
      have hb : (q == p' / 64) = true := by simp; omega
      simp [hb]
    rw [hL, hR.look hlow e, or_bit, RK_or hno]
    by_cases e2 : p' % 64 = k
    · have e3 : p' = p := by omega
      rw [if_pos e3, e2]
      simp only [decide_true, Bool.or_true, if_true, Nat.lt_irrefl, if_false, Nat.add_zero]
      rw [hrk, List.getElem?_append_right (Nat.le_refl _)]
      simp
    · have e3 : p' ≠ p := fun h => e2 (by rw [h]; exact hk)
      have e4 : ¬ k = p' % 64 := fun h => e2 h.symm
      rw [if_neg e3]
      simp only [e4, decide_false, Bool.or_false]
      cases hb : live.testBit (p' % 64)
      · simp
      · have hj := hbits _ (Nat.mod_lt _ (by decide)) hb
        have hr := RK_lt (Nat.mod_lt p' (show 0 < 64 by decide)) hb
        rw [if_pos rfl, if_pos rfl, if_neg (by omega), Nat.add_zero, List.getElem?_append_left (by omega)]
  · have e3 : p' ≠ p := fun h => e (by rw [h]; exact hq)
    rw [if_neg e3, LOOK_take (fun s hs' => by rw [hR.drop s hs']; exact fun h => e h.symm), if_neg (fun h => e h.1.symm)]
theorem RK_le (X : Nat) : ∀ k, RK X k ≤ k
  | 0 => Nat.le_refl _
  | k + 1 => by
    have := RK_le X k
    rw [RK]
    split <;> omega
/-- what putting leaves. -/
def PUTS (w : World) (B g p : Nat) (rs : List ROW) (h : Nat → Nat) (w' : World) : Prop :=
  ∃ rs', CHUNK w' B g rs' ∧ (∀ p', LOOK rs' p' = if p' = p then some h else LOOK rs p') ∧
    (∀ r ∈ rs', ∀ j, j < 64 → r.live.testBit j = true → r.num * 64 + j = p ∨ ∃ r0 ∈ rs, r0.num = r.num ∧ r0.live.testBit j = true) ∧
    (∀ r ∈ rs', (∃ r0 ∈ rs, r0.gh = r.gh) ∨ w.heap.size ≤ r.gh) ∧
    (∀ v v', w.cell? ⟨g, 0, none⟩ = some v → w'.cell? ⟨g, 0, none⟩ = some v' → v'.ownBlock = v.ownBlock ∨ ∃ b, v'.ownBlock = some b ∧ w.heap.size ≤ b) ∧
    w.heap.size ≤ w'.heap.size ∧ Below B w w' ∧
    ∀ b, b < w.heap.size → b ≠ g → (∀ v, w.cell? ⟨g, 0, none⟩ = some v → v.ownBlock ≠ some b) → (∀ r ∈ rs, r.gh ≠ b) → w'.heap[b]? = w.heap[b]?
theorem rows_apart {w : World} {B gr n m cap : Nat} {xs ys : List Value} {v : Value} (h1 : w.ownsRow B 73 3 (.slice (some ⟨gr, 0, none⟩) n cap) n xs) (h2 : w.ownsRow B 33 32 v m ys) : v.ownBlock ≠ some gr := fun e => by
  obtain ⟨c1, e1, _⟩ := own_block h1 (b := gr) rfl
  obtain ⟨c2, e2, _⟩ := own_block h2 e
  rw [e1] at e2
  cases e2
theorem own_same {w w' : World} {B s n : Nat} {t : TypeId} {v : Value} {xs : List Value} (h : w.ownsRow B t s v n xs) (hb : ∀ b, v.ownBlock = some b → w'.heap[b]? = w.heap[b]?) : w'.ownsRow B t s v n xs :=
  ⟨h.1, h.2.imp id fun ⟨g, c, cur, a, b, r, rest⟩ => ⟨g, c, cur, a, b, (hb g (by rw [a]; rfl)).trans r, rest⟩⟩
theorem mem_more {rs : List ROW} {i q k gh ch live : Nat} {hs : List (Nat → Nat)} {h : Nat → Nat} {r : ROW} (hr : r ∈ MORE rs i q k gh ch live hs h) : r ∈ rs.take i ∨ r = ⟨q, live ||| 2 ^ k, gh, ch, hs ++ [h]⟩ := by
  rcases List.mem_append.1 hr with h | h
  · exact .inl h
  · exact .inr (by simpa using h)
/-- the chunk with one row or one hash more. -/
theorem CHUNK.more {w w' : World} {B g i p q k gr cap gh ch live : Nat} {rs : List ROW} {hs : List (Nat → Nat)} {h : Nat → Nat} (hC : CHUNK w B g rs) (hR : REST rs i q live hs) (hlow : ∀ s ∈ rs.take i, s.num < q) (hq : p / 64 = q) (hk : p % 64 = k) (hp : p < 2 ^ 64) (hlive : live < 2 ^ 64) (hfew : rs.length + 1 < 2 ^ 40) (h8 : ∀ x ∈ hs ++ [h], ∀ i, x i < 256)
    (hbits : ∀ j, j < 64 → live.testBit j = true → j < k) (hlen : hs.length = POP live) (hil : i ≤ rs.length)
    (b1 : Has w' g #[.slice (some ⟨gr, 0, none⟩) (i + 1) cap] 70) (b2 : w'.ownsRow B 73 3 (.slice (some ⟨gr, 0, none⟩) (i + 1) cap) (i + 1) (RC (MORE rs i q k gh ch live hs h)))
    (b3 : w'.ownsRow B 33 32 (.slice (some ⟨gh, 0, none⟩) (hs.length + 1) ch) (hs.length + 1) (HL (hs ++ [h]))) (b4 : ∀ r ∈ rs.take i, w'.heap[r.gh]? = w.heap[r.gh]?) (b5 : ∀ r ∈ rs.take i, r.gh ≠ gh) : CHUNK w' B g (MORE rs i q k gh ch live hs h) := by
  have hk64 : k < 64 := by rw [← hk]; exact Nat.mod_lt _ (by decide)
  have hno : live.testBit k = false := by
    cases hb : live.testBit k
    · rfl
    · have := hbits k hk64 hb; omega
  have hlt : (rs.take i).length = i := by rw [List.length_take]; omega
  have hml : (MORE rs i q k gh ch live hs h).length = i + 1 := by rw [MORE, List.length_append, hlt]; rfl
  have hget : ∀ j r, (MORE rs i q k gh ch live hs h)[j]? = some r → (j < i ∧ rs[j]? = some r ∧ r ∈ rs.take i) ∨ (j = i ∧ r = ⟨q, live ||| 2 ^ k, gh, ch, hs ++ [h]⟩) := fun j r hr => by
    unfold MORE at hr
    by_cases hj : j < i
    · rw [List.getElem?_append_left (by omega)] at hr
      refine .inl ⟨hj, ?_, List.mem_of_getElem? hr⟩
      rw [List.getElem?_take_of_lt hj] at hr
      exact hr
    · rw [List.getElem?_append_right (by omega), hlt] at hr
      have hj0 : j - i = 0 := by
        have := (List.getElem?_eq_some_iff.1 hr).1
        simp at this
        omega
      rw [hj0] at hr
      simp at hr
      exact .inr ⟨by omega, hr.symm⟩
  refine ⟨⟨_, b1, by rw [hml]; exact b2⟩, hC.far, by rw [hml]; omega, fun a b r s hab ha hb => ?_, fun r hr => ?_, fun a b r s hab ha hb => ?_, fun r hr => ?_⟩
  · rcases hget a r ha with ⟨h1, h2, h3⟩ | ⟨rfl, rfl⟩
    · rcases hget b s hb with ⟨h4, h5, h6⟩ | ⟨rfl, rfl⟩
      · exact hC.rise a b r s hab h2 h5
      · exact hlow r h3
    · rcases hget b s hb with ⟨h4, h5, h6⟩ | ⟨h4, rfl⟩ <;> omega
  · rcases mem_more hr with h1 | rfl
    · obtain ⟨c1, c2, c3, c4, c5⟩ := hC.row r (List.mem_of_mem_take h1)
      exact ⟨c1, c2, c3, c4, own_same c5 fun b hb => by cases hb; exact b4 r h1⟩
    · exact ⟨by show q < 2 ^ 58; omega, or_lt hlive hk64, by show (hs ++ [h]).length = _; rw [List.length_append, hlen, POP_or hno hk64]; rfl, h8, by show w'.ownsRow B 33 32 (.slice (some ⟨gh, 0, none⟩) (hs ++ [h]).length ch) (hs ++ [h]).length (HL (hs ++ [h])); rw [List.length_append]; exact b3⟩
  · rcases hget a r ha with ⟨h1, h2, h3⟩ | ⟨rfl, rfl⟩
    · rcases hget b s hb with ⟨h4, h5, h6⟩ | ⟨rfl, rfl⟩
      · exact hC.apart a b r s hab h2 h5
      · exact b5 r h3
    · rcases hget b s hb with ⟨h4, h5, h6⟩ | ⟨h4, rfl⟩
      · exact fun e => b5 s h6 e.symm
      · omega
  · rcases mem_more hr with h1 | rfl
    · exact hC.lives r (List.mem_of_mem_take h1)
    · exact ⟨k, hk64, by rw [or_bit]; simp⟩
end Go.Proofs.Ytkmcmngdainofaa
