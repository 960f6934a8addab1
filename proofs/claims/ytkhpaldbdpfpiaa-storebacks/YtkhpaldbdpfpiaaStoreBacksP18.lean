/- Texts of StoreBacks, one behind the other: StorePutMidOk. -/
import Derived.Test.YtkhpaldbdpfpiaaStoreBacksP8
import Derived.Test.YtkhpaldbdpfpiaaStoreBacksP17
/- chunk.put of any place without a node: what the chunk has then. -/
namespace Go.Proofs.Ytkhpaldbdpfpiaa
open Go.RowKit
set_option maxRecDepth 100000

/-- what stands at index i: nothing with this number, or a row with it, these bits and hashes; what is behind begins at j. -/
def REST2 (rs : List ROW) (i j q live : Nat) (hs : List (Nat → Nat)) : Prop := (j = i ∧ live = 0 ∧ hs = [] ∧ i ≤ rs.length) ∨ ∃ r, rs[i]? = some r ∧ j = i + 1 ∧ r.num = q ∧ r.live = live ∧ r.hs = hs
def INSH (hs : List (Nat → Nat)) (rk : Nat) (h : Nat → Nat) : List (Nat → Nat) := hs.take rk ++ [h] ++ hs.drop rk
def MIDR (q k gh ch live : Nat) (hs : List (Nat → Nat)) (h : Nat → Nat) : ROW := ⟨q, live ||| 2 ^ k, gh, ch, INSH hs (RK live k) h⟩
def MID (rs : List ROW) (i j q k gh ch live : Nat) (hs : List (Nat → Nat)) (h : Nat → Nat) : List ROW := rs.take i ++ MIDR q k gh ch live hs h :: rs.drop j
theorem INSH_length {hs : List (Nat → Nat)} {rk : Nat} (h : Nat → Nat) : (INSH hs rk h).length = hs.length + 1 := by
  unfold INSH
  simp only [List.length_append, List.length_take, List.length_drop, List.length_singleton]
  omega
theorem INSH_low {hs : List (Nat → Nat)} {rk x : Nat} (h : Nat → Nat) (hr : rk ≤ hs.length) (hx : x < rk) : (INSH hs rk h)[x]? = hs[x]? := by
  unfold INSH
  rw [List.append_assoc, List.getElem?_append_left (by rw [List.length_take]; omega), List.getElem?_take_of_lt hx]
theorem INSH_at {hs : List (Nat → Nat)} {rk : Nat} (h : Nat → Nat) (hr : rk ≤ hs.length) : (INSH hs rk h)[rk]? = some h := by
  unfold INSH
  rw [List.append_assoc, List.getElem?_append_right (by rw [List.length_take]; omega), List.length_take, Nat.min_eq_left hr, Nat.sub_self]
  rfl
theorem INSH_high {hs : List (Nat → Nat)} {rk x : Nat} (h : Nat → Nat) (hr : rk ≤ hs.length) (hx : rk ≤ x) : (INSH hs rk h)[x + 1]? = hs[x]? := by
  unfold INSH
  rw [List.append_assoc, List.getElem?_append_right (by rw [List.length_take]; omega), List.length_take, Nat.min_eq_left hr, show x + 1 - rk = (x - rk) + 1 by omega]
  show (hs.drop rk)[x - rk]? = _
  rw [List.getElem?_drop, show rk + (x - rk) = x by omega]
theorem HL_app (a b : List (Nat → Nat)) : HL (a ++ b) = HL a ++ HL b := by simp [HL]
theorem HL_take (hs : List (Nat → Nat)) (k : Nat) (hk : k ≤ hs.length) : HL (hs.take k) = (HL hs).take (k * 32) := by
  have e : HL hs = HL (hs.take k) ++ HL (hs.drop k) := by rw [← HL_app, List.take_append_drop]
  rw [e, List.take_left' (by rw [HL_length, List.length_take, Nat.min_eq_left hk])]
theorem HL_drop (hs : List (Nat → Nat)) (k : Nat) (hk : k ≤ hs.length) : HL (hs.drop k) = (HL hs).drop (k * 32) := by
  have e : HL hs = HL (hs.take k) ++ HL (hs.drop k) := by rw [← HL_app, List.take_append_drop]
  rw [e, List.drop_left' (by rw [HL_length, List.length_take, Nat.min_eq_left hk])]
theorem HL_insh (hs : List (Nat → Nat)) (k : Nat) (h : Nat → Nat) (hk : k ≤ hs.length) : HL (INSH hs k h) = (HL hs).take (k * 32) ++ ULIST .u8 32 h ++ (HL hs).drop (k * 32) := by
  unfold INSH
  rw [HL_app, HL_app, HL_take hs k hk, HL_drop hs k hk]
  simp [HL]
theorem RC_app (a b : List ROW) : RC (a ++ b) = RC a ++ RC b := by simp [RC]
theorem RC_take (rs : List ROW) (k : Nat) (hk : k ≤ rs.length) : RC (rs.take k) = (RC rs).take (k * 3) := by
  have e : RC rs = RC (rs.take k) ++ RC (rs.drop k) := by rw [← RC_app, List.take_append_drop]
  rw [e, List.take_left' (by rw [RC_length, List.length_take, Nat.min_eq_left hk])]
theorem RC_drop (rs : List ROW) (k : Nat) (hk : k ≤ rs.length) : RC (rs.drop k) = (RC rs).drop (k * 3) := by
  have e : RC rs = RC (rs.take k) ++ RC (rs.drop k) := by rw [← RC_app, List.take_append_drop]
  rw [e, List.drop_left' (by rw [RC_length, List.length_take, Nat.min_eq_left hk])]
theorem RC_row (r : ROW) : RC [r] = [.int .u64 (r.num : Int), .int .u64 (r.live : Int), r.v] := by simp [RC]
theorem set_two' (xs ys : List Value) (n : Nat) (hn : xs.length = n * 3) (a b c b' c' : Value) : ((xs ++ [a, b, c] ++ ys).set (n * 3 + 2) c').set (n * 3 + 1) b' = xs ++ [a, b', c'] ++ ys := by
  have h := set_two xs n hn a b c b' c'
  have hl : (xs ++ [a, b, c]).length = n * 3 + 3 := by rw [List.length_append, hn]; rfl
  rw [List.set_append_left _ _ (by omega), List.set_append_left _ _ (by rw [List.length_set]; omega), h]
theorem RC_mid_old {rs : List ROW} {i q k gh ch : Nat} {r : ROW} {h : Nat → Nat} (hr : rs[i]? = some r) (hq : r.num = q) : RC (MID rs i (i + 1) q k gh ch r.live r.hs h) = ((RC rs).set (i * 3 + 2) (.slice (some ⟨gh, 0, none⟩) (r.hs.length + 1) ch)).set (i * 3 + 1) (.int .u64 ((r.live ||| 2 ^ k : Nat) : Int)) := by
  have hi := (List.getElem?_eq_some_iff.1 hr).1
  have hsplit : rs = rs.take i ++ [r] ++ rs.drop (i + 1) := by
    have h1 := List.take_append_drop i rs
    rw [List.drop_eq_getElem_cons hi] at h1
    rw [List.getElem?_eq_getElem hi] at hr
    rw [Option.some.inj hr] at h1
    rw [List.append_assoc]
    exact h1.symm
  have hl : (RC (rs.take i)).length = i * 3 := by rw [RC_length, List.length_take]; omega
  have e : RC rs = RC (rs.take i) ++ [.int .u64 (r.num : Int), .int .u64 (r.live : Int), r.v] ++ RC (rs.drop (i + 1)) := by
    conv => lhs; rw [hsplit]
    rw [RC_app, RC_app, RC_row]
  rw [e, set_two' _ _ i hl, MID, show MIDR q k gh ch r.live r.hs h :: rs.drop (i + 1) = [MIDR q k gh ch r.live r.hs h] ++ rs.drop (i + 1) from rfl, ← List.append_assoc, RC_app, RC_app, RC_row, hq]
  simp [ROW.v, MIDR, INSH_length]
theorem RC_mid_new {rs : List ROW} {i q k gh ch : Nat} {h : Nat → Nat} (hi : i ≤ rs.length) : RC (MID rs i i q k gh ch 0 [] h) = (((RC rs).take (i * 3) ++ RQL q ++ (RC rs).drop (i * 3)).set (i * 3 + 2) (.slice (some ⟨gh, 0, none⟩) 1 ch)).set (i * 3 + 1) (.int .u64 ((2 ^ k : Nat) : Int)) := by
  have hl : ((RC rs).take (i * 3)).length = i * 3 := by rw [List.length_take, RC_length]; omega
  rw [RQL, set_two' _ _ i hl, MID, show MIDR q k gh ch 0 [] h :: rs.drop i = [MIDR q k gh ch 0 [] h] ++ rs.drop i from rfl, ← List.append_assoc, RC_app, RC_app, RC_row, RC_take rs i hi, RC_drop rs i hi]
  simp [ROW.v, MIDR, INSH_length]
theorem RC_cells (rs : List ROW) : ∀ u ∈ RC rs, u.oneCell' = true := fun u hu => by
  unfold RC at hu
  obtain ⟨r, _, hr⟩ := List.mem_flatMap.1 hu
  simp [ROW.v] at hr
  rcases hr with rfl | rfl | rfl <;> rfl
theorem HL_cells (hs : List (Nat → Nat)) : ∀ u ∈ HL hs, u.oneCell' = true := fun u hu => by
  unfold HL at hu
  obtain ⟨r, _, hr⟩ := List.mem_flatMap.1 hu
  exact ULIST_one _ _ _ u hr
theorem RK_POP {X k : Nat} (hk : k ≤ 64) : RK X k ≤ POP X := by
  rw [POP_RK]
  exact RK_mono X hk
theorem RK_step {X i j : Nat} (h : i < j) (hb : X.testBit i = true) : RK X i < RK X j := by
  have h1 : RK X (i + 1) = RK X i + 1 := by rw [RK, hb]; rfl
  have h2 := RK_mono X (show i + 1 ≤ j by omega)
  omega
theorem find_low {rs : List ROW} {i q t : Nat} (hlow : ∀ s ∈ rs.take i, s.num < q) (ht : t = q) : (rs.take i).find? (fun r => r.num == t) = none := List.find?_eq_none.2 fun s hs => by
  have := hlow s hs
  simp
  omega
theorem find_high {rs : List ROW} {j q t : Nat} (hhigh : ∀ s ∈ rs.drop j, q < s.num) (ht : t = q) : (rs.drop j).find? (fun r => r.num == t) = none := List.find?_eq_none.2 fun s hs => by
  have := hhigh s hs
  simp
  omega
theorem REST2.split {rs : List ROW} {i j q live : Nat} {hs : List (Nat → Nat)} (h : REST2 rs i j q live hs) : (rs = rs.take i ++ rs.drop j ∧ live = 0 ∧ hs = []) ∨ ∃ r, rs = rs.take i ++ r :: rs.drop j ∧ r.num = q ∧ r.live = live ∧ r.hs = hs ∧ rs[i]? = some r ∧ j = i + 1 := by
  rcases h with ⟨rfl, rfl, rfl, _⟩ | ⟨r, hr, rfl, hq, rfl, rfl⟩
  · exact .inl ⟨(List.take_append_drop _ _).symm, rfl, rfl⟩
  · have hi := (List.getElem?_eq_some_iff.1 hr).1
    refine .inr ⟨r, ?_, hq, rfl, rfl, hr, rfl⟩
    have h1 := List.take_append_drop i rs
    rw [List.drop_eq_getElem_cons hi] at h1
    rw [List.getElem?_eq_getElem hi] at hr
    rw [Option.some.inj hr] at h1
    exact h1.symm
theorem LOOK_mid {rs : List ROW} {i j q k gh ch live p p' : Nat} {hs : List (Nat → Nat)} {h : Nat → Nat} (hR : REST2 rs i j q live hs) (hlow : ∀ s ∈ rs.take i, s.num < q) (hhigh : ∀ s ∈ rs.drop j, q < s.num) (hq : p / 64 = q) (hk : p % 64 = k) (hno : live.testBit k = false) (hlen : hs.length = POP live) :
    LOOK (MID rs i j q k gh ch live hs h) p' = if p' = p then some h else LOOK rs p' := by
  have hk64 : k < 64 := by rw [← hk]; exact Nat.mod_lt _ (by decide)
  have hrk : RK live k ≤ hs.length := by rw [hlen]; exact RK_POP (by omega)
  by_cases e : p' / 64 = q
  · have hL : LOOK (MID rs i j q k gh ch live hs h) p' = if (live ||| 2 ^ k).testBit (p' % 64) then (INSH hs (RK live k) h)[RK (live ||| 2 ^ k) (p' % 64)]? else none := by
      unfold LOOK MID
      rw [List.find?_append, find_low hlow e]
      have hb : ((MIDR q k gh ch live hs h).num == p' / 64) = true := by simp [MIDR]; omega
      simp only [Option.none_or, List.find?_cons, hb]
      rfl
    have hO : LOOK rs p' = if live.testBit (p' % 64) then hs[RK live (p' % 64)]? else none := by
      rcases hR.split with ⟨h1, rfl, rfl⟩ | ⟨r, h1, h2, rfl, rfl, _⟩
      · unfold LOOK
        rw [h1, List.find?_append, find_low hlow e]
        rw [find_high hhigh e]
        simp
      · unfold LOOK
        have hb : (r.num == p' / 64) = true := by simp; omega
        rw [h1, List.find?_append, find_low hlow e]
        simp only [Option.none_or, List.find?_cons, hb]
        rfl
    rw [hL, hO, or_bit, RK_or hno]
    by_cases e2 : p' % 64 = k
    · have e3 : p' = p := by omega
      rw [if_pos e3, e2]
      simp only [decide_true, Bool.or_true, if_true, Nat.lt_irrefl, if_false, Nat.add_zero]
      exact INSH_at h hrk
    · have e3 : p' ≠ p := fun h => e2 (by rw [h]; exact hk)
      have e4 : ¬ k = p' % 64 := fun h => e2 h.symm
      rw [if_neg e3]
      simp only [e4, decide_false, Bool.or_false]
      cases hb : live.testBit (p' % 64)
      · simp
      · rw [if_pos rfl, if_pos rfl]
        by_cases e5 : k < p' % 64
        · rw [if_pos e5]
          exact INSH_high h hrk (RK_mono live (by omega))
        · rw [if_neg e5, Nat.add_zero]
          exact INSH_low h hrk (RK_step (by omega) hb)
  · have e3 : p' ≠ p := fun h => e (by rw [h]; exact hq)
    rw [if_neg e3]
    have hb : ((MIDR q k gh ch live hs h).num == p' / 64) = false := by simp [MIDR]; omega
    have hM : LOOK (MID rs i j q k gh ch live hs h) p' = LOOK (rs.take i ++ rs.drop j) p' := by
      unfold LOOK MID
      rw [List.find?_append, List.find?_append, List.find?_cons, hb]
    rw [hM]
    rcases hR.split with ⟨h1, _⟩ | ⟨r, h1, h2, _⟩
    · rw [← h1]
    · have hb2 : (r.num == p' / 64) = false := by simp; omega
      conv => rhs; rw [h1]
      unfold LOOK
      rw [List.find?_append, List.find?_append, List.find?_cons, hb2]
theorem mem_mid {rs : List ROW} {i j q k gh ch live : Nat} {hs : List (Nat → Nat)} {h : Nat → Nat} {r : ROW} (hr : r ∈ MID rs i j q k gh ch live hs h) : r ∈ rs.take i ∨ r = MIDR q k gh ch live hs h ∨ r ∈ rs.drop j := by
  unfold MID at hr
  rcases List.mem_append.1 hr with h | h
  · exact .inl h
  · rcases List.mem_cons.1 h with h | h
    · exact .inr (.inl h)
    · exact .inr (.inr h)
theorem drop_at {rs : List ROW} {i : Nat} {s : ROW} (hs : s ∈ rs.drop i) : ∃ j, i ≤ j ∧ rs[j]? = some s := by
  obtain ⟨j, hj⟩ := List.getElem?_of_mem hs
  rw [List.getElem?_drop] at hj
  exact ⟨i + j, by omega, hj⟩
theorem get_mid {rs : List ROW} {i j q k gh ch live x : Nat} {hs : List (Nat → Nat)} {h : Nat → Nat} {r : ROW} (hil : i ≤ rs.length) (hr : (MID rs i j q k gh ch live hs h)[x]? = some r) : (x < i ∧ rs[x]? = some r ∧ r ∈ rs.take i) ∨ (x = i ∧ r = MIDR q k gh ch live hs h) ∨ (i < x ∧ rs[j + (x - i - 1)]? = some r ∧ r ∈ rs.drop j) := by
  have hlt : (rs.take i).length = i := by rw [List.length_take]; omega
  unfold MID at hr
  by_cases hx : x < i
  · rw [List.getElem?_append_left (by omega)] at hr
    have hm := List.mem_of_getElem? hr
    rw [List.getElem?_take_of_lt hx] at hr
    exact .inl ⟨hx, hr, hm⟩
  · rw [List.getElem?_append_right (by omega), hlt] at hr
    by_cases e : x = i
    · subst e
      rw [Nat.sub_self] at hr
      exact .inr (.inl ⟨rfl, by simpa using hr.symm⟩)
    · rw [show x - i = (x - i - 1) + 1 by omega, List.getElem?_cons_succ] at hr
      have hm := List.mem_of_getElem? hr
      rw [List.getElem?_drop] at hr
      exact .inr (.inr ⟨by omega, hr, hm⟩)
/-- the chunk with one row or one hash more, wherever. -/
theorem CHUNK.mid {w w' : World} {B g i j p q k gr cap gh ch live m : Nat} {rs : List ROW} {hs : List (Nat → Nat)} {h : Nat → Nat} (hC : CHUNK w B g rs) (hij : i ≤ j) (hil : i ≤ rs.length) (hlow : ∀ s ∈ rs.take i, s.num < q) (hhigh : ∀ s ∈ rs.drop j, q < s.num) (hq : p / 64 = q) (hk : p % 64 = k) (hp : p < 2 ^ 64) (hlive : live < 2 ^ 64) (hfew : rs.length + 1 < 2 ^ 40) (h8 : ∀ x ∈ hs, ∀ i, x i < 256) (h8' : ∀ i, h i < 256)
    (hno : live.testBit k = false) (hlen : hs.length = POP live) (hm : (MID rs i j q k gh ch live hs h).length = m) (hmf : m ≤ rs.length + 1)
    (b1 : Has w' g #[.slice (some ⟨gr, 0, none⟩) m cap] 59) (b2 : w'.ownsRow B 64 3 (.slice (some ⟨gr, 0, none⟩) m cap) m (RC (MID rs i j q k gh ch live hs h)))
    (b3 : w'.ownsRow B 32 32 (.slice (some ⟨gh, 0, none⟩) (hs.length + 1) ch) (hs.length + 1) (HL (INSH hs (RK live k) h))) (b4 : ∀ r, r ∈ rs.take i ∨ r ∈ rs.drop j → w'.heap[r.gh]? = w.heap[r.gh]?) (b5 : ∀ r, r ∈ rs.take i ∨ r ∈ rs.drop j → r.gh ≠ gh) : CHUNK w' B g (MID rs i j q k gh ch live hs h) := by
  have hk64 : k < 64 := by rw [← hk]; exact Nat.mod_lt _ (by decide)
  have hold : ∀ r, r ∈ rs.take i ∨ r ∈ rs.drop j → r ∈ rs := fun r hr => hr.elim List.mem_of_mem_take List.mem_of_mem_drop
  refine ⟨⟨_, b1, by rw [hm]; exact b2⟩, hC.far, by rw [hm]; omega, fun a b r s hab ha hb => ?_, fun r hr => ?_, fun a b r s hab ha hb => ?_, fun r hr => ?_⟩
  · rcases get_mid hil ha with ⟨h1, h2, h3⟩ | ⟨h1, rfl⟩ | ⟨h1, h2, h3⟩
    · rcases get_mid hil hb with ⟨h4, h5, h6⟩ | ⟨h4, rfl⟩ | ⟨h4, h5, h6⟩
      · exact hC.rise a b r s hab h2 h5
      · exact hlow r h3
      · exact hC.rise a _ r s (by omega) h2 h5
    · rcases get_mid hil hb with ⟨h4, h5, h6⟩ | ⟨h4, rfl⟩ | ⟨h4, h5, h6⟩
      · omega
      · omega
      · exact hhigh s h6
    · rcases get_mid hil hb with ⟨h4, h5, h6⟩ | ⟨h4, rfl⟩ | ⟨h4, h5, h6⟩
      · omega
      · omega
      · exact hC.rise _ _ r s (by omega) h2 h5
  · rcases mem_mid hr with h1 | rfl | h1
    · obtain ⟨c1, c2, c3, c4, c5⟩ := hC.row r (hold r (.inl h1))
      exact ⟨c1, c2, c3, c4, own_same c5 fun b hb => by cases hb; exact b4 r (.inl h1)⟩
    · refine ⟨by show q < 2 ^ 58; omega, or_lt hlive hk64, ?_, ?_, ?_⟩
      · show (INSH hs (RK live k) h).length = POP (live ||| 2 ^ k)
        rw [INSH_length, hlen, POP_or hno hk64]
      · intro x hx
        have hx : x ∈ hs.take (RK live k) ++ [h] ++ hs.drop (RK live k) := hx
        rcases List.mem_append.1 hx with hx | hx
        · rcases List.mem_append.1 hx with hx | hx
          · exact h8 x (List.mem_of_mem_take hx)
          · rw [List.mem_singleton.1 hx]; exact h8'
        · exact h8 x (List.mem_of_mem_drop hx)
      · show w'.ownsRow B 32 32 (.slice (some ⟨gh, 0, none⟩) (INSH hs (RK live k) h).length ch) (INSH hs (RK live k) h).length (HL (INSH hs (RK live k) h))
        rw [INSH_length]
        exact b3
    · obtain ⟨c1, c2, c3, c4, c5⟩ := hC.row r (hold r (.inr h1))
      exact ⟨c1, c2, c3, c4, own_same c5 fun b hb => by cases hb; exact b4 r (.inr h1)⟩
  · rcases get_mid hil ha with ⟨h1, h2, h3⟩ | ⟨h1, rfl⟩ | ⟨h1, h2, h3⟩
    · rcases get_mid hil hb with ⟨h4, h5, h6⟩ | ⟨h4, rfl⟩ | ⟨h4, h5, h6⟩
      · exact hC.apart a b r s hab h2 h5
      · exact b5 r (.inl h3)
      · exact hC.apart a _ r s (by omega) h2 h5
    · rcases get_mid hil hb with ⟨h4, h5, h6⟩ | ⟨h4, rfl⟩ | ⟨h4, h5, h6⟩
      · exact fun e => b5 s (.inl h6) e.symm
      · omega
      · exact fun e => b5 s (.inr h6) e.symm
    · rcases get_mid hil hb with ⟨h4, h5, h6⟩ | ⟨h4, rfl⟩ | ⟨h4, h5, h6⟩
      · exact hC.apart _ b r s (by omega) h2 h5
      · exact b5 r (.inr h3)
      · exact hC.apart _ _ r s (by omega) h2 h5
  · rcases mem_mid hr with h1 | rfl | h1
    · exact hC.lives r (hold r (.inl h1))
    · exact ⟨k, hk64, by show (live ||| 2 ^ k).testBit k = true; rw [or_bit]; simp⟩
    · exact hC.lives r (hold r (.inr h1))
theorem mid_bits {rs : List ROW} {i j p q k gh ch live : Nat} {hs : List (Nat → Nat)} {h : Nat → Nat} (hR : REST2 rs i j q live hs) (hq : p / 64 = q) (hk : p % 64 = k) : ∀ r ∈ MID rs i j q k gh ch live hs h, ∀ y, y < 64 → r.live.testBit y = true → r.num * 64 + y = p ∨ ∃ r0 ∈ rs, r0.num = r.num ∧ r0.live.testBit y = true := fun r hr y hy hb => by
  rcases mem_mid hr with h1 | rfl | h1
  · exact .inr ⟨r, List.mem_of_mem_take h1, rfl, hb⟩
  · have hb : (live ||| 2 ^ k).testBit y = true := hb
    rw [or_bit] at hb
    by_cases e : k = y
    · left
      show q * 64 + y = p
      omega
    · simp only [e, decide_false, Bool.or_false] at hb
      rcases hR with ⟨_, rfl, _⟩ | ⟨r0, hr0, _, hn, rfl, _⟩
      · simp at hb
      · exact .inr ⟨r0, List.mem_of_getElem? hr0, hn, hb⟩
  · exact .inr ⟨r, List.mem_of_mem_drop h1, rfl, hb⟩
/-- where a number stands, or would. -/
theorem stands_there {w : World} {B g : Nat} {rs : List ROW} (hC : CHUNK w B g rs) (t : Nat) : ∀ m, m ≤ rs.length → ∃ i, i ≤ m ∧ (∀ (j : Nat) (r : ROW), j < i → rs[j]? = some r → r.num < t) ∧ (∀ (j : Nat) (r : ROW), i ≤ j → j < m → rs[j]? = some r → t ≤ r.num)
  | 0, _ => ⟨0, Nat.le_refl _, (fun j r h => by omega), (fun j r h1 h2 => by omega)⟩
  | m + 1, hm => by
    obtain ⟨i, h1, h2, h3⟩ := stands_there hC t m (by omega)
    have hr : rs[m]? = some rs[m] := List.getElem?_eq_getElem (by omega)
    by_cases hlt : rs[m].num < t
    · by_cases him : i = m
      · subst him
        refine ⟨i + 1, Nat.le_refl _, fun j r hj e => ?_, (fun j r h4 h5 => by omega)⟩
        by_cases e2 : j = i
        · subst e2
          rw [hr] at e
          rw [← Option.some.inj e]
          exact hlt
        · exact h2 j r (by omega) e
      · exfalso
        have hi : rs[i]? = some rs[i] := List.getElem?_eq_getElem (by omega)
        have a1 := h3 i _ (Nat.le_refl _) (by omega) hi
        have a2 := hC.rise i m _ _ (by omega) hi hr
        omega
    · refine ⟨i, by omega, h2, fun j r h4 h5 e => ?_⟩
      by_cases e2 : j = m
      · subst e2
        rw [hr] at e
        rw [← Option.some.inj e]
        omega
      · exact h3 j r h4 (by omega) e
/-- what find answers where no row has the number. -/
theorem chunkfind_not {B g p i : Nat} {rs : List ROW} {w : World} (hC : CHUNK w B g rs) (hi : i ≤ rs.length) (h1 : ∀ (j : Nat) (r : ROW), j < i → rs[j]? = some r → r.num < p / 64) (h2 : ∀ (j : Nat) (r : ROW), i ≤ j → rs[j]? = some r → p / 64 < r.num) (W : World) (hW : Below w.heap.size w W) : Calls Try.prog 25 #[.pointer (some ⟨g, 0, none⟩), .int .u64 (p : Int)] W fun e w' => e = .returned (.tuple #[.int .i64 (i : Int), .bool false]) ∧ Below W.heap.size W w' := by
  refine (chunkfind_any hC W hW).mono ?_
  rintro e w' ⟨x, b, rfl, ⟨hx, hx1, hx2⟩, hb, hbel⟩
  have hlen : (rs.map ROW.rw).length = rs.length := List.length_map _
  have get : ∀ (j : Nat) (r : ROW), rs[j]? = some r → (rs.map ROW.rw)[j]? = some r.rw := fun j r e => by rw [List.getElem?_map, e]; rfl
  have ex : x = i := by
    rcases Nat.lt_trichotomy x i with h | h | h
    · have hr : rs[x]? = some rs[x] := List.getElem?_eq_getElem (by omega)
      have a1 := h1 x _ h hr
      have a2 : p / 64 ≤ rs[x].num := hx2 x _ (Nat.le_refl _) (get x _ hr)
      omega
    · exact h
    · have hr : rs[i]? = some rs[i] := List.getElem?_eq_getElem (by omega)
      have a1 := h2 i _ (Nat.le_refl _) hr
      have a2 : rs[i].num < p / 64 := hx1 i _ h (get i _ hr)
      omega
  subst ex
  have hbf : b = false := by
    cases b
    · rfl
    · exfalso
      obtain ⟨q, hq, hn⟩ := hb.1 rfl
      obtain ⟨r, hr, rfl⟩ := RW_get hq
      have a1 := h2 x r (Nat.le_refl _) hr
      have a2 : r.num = p / 64 := hn
      omega
  subst hbf
  exact ⟨rfl, hbel⟩
theorem chunkput_mid (B g p : Nat) (rs : List ROW) (h : Nat → Nat) (hp : p < 2 ^ 64) (hfew : rs.length + 1 < 2 ^ 40) (hN : LOOK rs p = none) (h8 : ∀ i, h i < 256) (w : World) (hC : CHUNK w B g rs) : Calls Try.prog 23 #[.pointer (some ⟨g, 0, none⟩), .int .u64 (p : Int), .agg (UARR .u8 32 h)] w fun e w' => (∃ v, e = .returned v) ∧ PUTS w B g p rs h w' := by
  obtain ⟨a, cap, hbx, hlie, hfrm, ho⟩ := hC.lies
  have hgl := hbx.lt
  have hBw : B ≤ w.heap.size := by have := hC.far; omega
  have hcell := hbx.cell 0
  obtain ⟨i, hi, hst1, hst2⟩ := stands_there hC (p / 64) rs.length (Nat.le_refl _)
  have hst2 : ∀ (j : Nat) (r : ROW), i ≤ j → rs[j]? = some r → p / 64 ≤ r.num := fun j r h1 e => hst2 j r h1 (List.getElem?_eq_some_iff.1 e).1 e
  have hlow : ∀ s ∈ rs.take i, s.num < p / 64 := fun s hs => by
    obtain ⟨j, hj, hjs⟩ := take_at hs
    exact hst1 j s hj hjs
  by_cases hL : ∃ r, rs[i]? = some r ∧ r.num = p / 64
  · obtain ⟨r, hr, hn⟩ := hL
    have hil := (List.getElem?_eq_some_iff.1 hr).1
    obtain ⟨gr, rfl, hBr, hgr⟩ := hfrm (by omega)
    have hrm := List.mem_of_getElem? hr
    obtain ⟨r1, r2, r3, r4, r5⟩ := hC.row r hrm
    have hhigh : ∀ s ∈ rs.drop (i + 1), p / 64 < s.num := fun s hs => by
      obtain ⟨j, hj, hjs⟩ := drop_at hs
      have := hC.rise i j r s (by omega) hr hjs
      omega
    have hR : REST2 rs i (i + 1) (p / 64) r.live r.hs := .inr ⟨r, hr, rfl, hn, rfl, rfl⟩
    have hk64 : p % 64 < 64 := Nat.mod_lt _ (by decide)
    have hrk : RK r.live (p % 64) ≤ r.hs.length := by rw [r3]; exact RK_POP (by omega)
    have hno : r.live.testBit (p % 64) = false := by
      cases hb : r.live.testBit (p % 64)
      · rfl
      · exfalso
        have h1 := LOOK_at hr hn hC.rise
        rw [hN, hb, if_pos rfl] at h1
        have h2 := RK_lt hk64 hb
        rw [List.getElem?_eq_getElem (by omega)] at h1
        cases h1
    have h64 : r.hs.length ≤ 1000 := by rw [r3, POP_RK]; have := RK_le r.live 64; omega
    refine (putold_mid B g gr i rs.length cap p (p % 64) r.live r.hs.length (RK r.live (p % 64)) (RC rs) (HL r.hs) r.v h w hbx ho hil (RC_get rs i 1 r hr (by decide)) (RC_get rs i 2 r hr (by decide)) r5 rfl hrk (HL_cells r.hs) r2 rfl hp hBw h64 (fun W hW => chunkfind_there hC hr hn W hW)).mono ?_
    rintro e w' ⟨he, gh, ch, b1, b2, b3, b4, b5, b6, b7⟩
    have hap : ∀ s, s ∈ rs.take i ∨ s ∈ rs.drop (i + 1) → s.gh ≠ r.gh ∧ s.gh < w.heap.size ∧ s.gh ≠ gr := fun s hs => by
      obtain ⟨j, hj, hjs⟩ : ∃ j, j ≠ i ∧ rs[j]? = some s := by
        rcases hs with hs | hs
        · obtain ⟨j, hj, hjs⟩ := take_at hs
          exact ⟨j, by omega, hjs⟩
        · obtain ⟨j, hj, hjs⟩ := drop_at hs
          exact ⟨j, by omega, hjs⟩
      have h5 := (hC.row s (List.mem_of_getElem? hjs)).2.2.2.2
      exact ⟨hC.apart j i s r hj hjs hr, (h5.lt s.gh rfl).2, fun e => rows_apart ho h5 (by rw [← e]; rfl)⟩
    have hghc : gh = r.gh ∨ w.heap.size ≤ gh := b4.imp (fun e => by have e2 : some r.gh = some gh := e; exact (Option.some.inj e2).symm) id
    have hml : (MID rs i (i + 1) (p / 64) (p % 64) gh ch r.live r.hs h).length = rs.length := by
      unfold MID
      simp only [List.length_append, List.length_take, List.length_cons, List.length_drop]
      omega
    refine ⟨he, MID rs i (i + 1) (p / 64) (p % 64) gh ch r.live r.hs h, ?_, fun p' => LOOK_mid hR hlow hhigh rfl rfl hno r3, mid_bits hR rfl rfl, ?_, ?_, b5, b6, ?_⟩
    · refine hC.mid (gr := gr) (cap := cap) (Nat.le_succ i) hi hlow hhigh rfl rfl hp r2 hfew r4 h8 hno r3 hml (by omega) b1 (by rw [RC_mid_old hr hn]; exact b2) (by rw [HL_insh _ _ _ hrk]; exact b3) (fun s hs => ?_) (fun s hs => ?_)
      · obtain ⟨c1, c2, c3⟩ := hap s hs
        exact b7 s.gh c2 c3 (fun e => c1 (by have e2 : some r.gh = some s.gh := e; exact (Option.some.inj e2).symm))
      · obtain ⟨c1, c2, c3⟩ := hap s hs
        rcases hghc with e | e
        · rw [e]; exact c1
        · omega
    · intro s hs
      rcases mem_mid hs with h1 | rfl | h1
      · exact .inl ⟨s, List.mem_of_mem_take h1, rfl⟩
      · exact hghc.imp (fun e => ⟨r, hrm, e.symm⟩) id
      · exact .inl ⟨s, List.mem_of_mem_drop h1, rfl⟩
    · intro v v' e1 e2
      rw [hcell] at e1
      rw [b1.cell 0] at e2
      have e1 := Option.some.inj e1
      have e2 := Option.some.inj e2
      left
      rw [← e1, ← e2]
    · intro b hb hbg hbv hbr
      refine b7 b hb (fun e => hbv _ hcell (by rw [e]; rfl)) (fun e => ?_)
      have e2 : some r.gh = some b := e
      exact hbr r hrm (Option.some.inj e2)
  · have hup : ∀ (j : Nat) (r : ROW), i ≤ j → rs[j]? = some r → p / 64 < r.num := fun j r h1 e => by
      have h2 := hst2 j r h1 e
      by_cases h3 : r.num = p / 64
      · exfalso
        by_cases e2 : j = i
        · subst e2
          exact hL ⟨r, e, h3⟩
        · have hil : i < rs.length := by have := (List.getElem?_eq_some_iff.1 e).1; omega
          have hri : rs[i]? = some rs[i] := List.getElem?_eq_getElem hil
          have a1 := hst2 i _ (Nat.le_refl _) hri
          have a2 := hC.rise i j _ r (by omega) hri e
          omega
      · omega
    have hhigh : ∀ s ∈ rs.drop i, p / 64 < s.num := fun s hs => by
      obtain ⟨j, hj, hjs⟩ := drop_at hs
      exact hup j s hj hjs
    have hR : REST2 rs i i (p / 64) 0 [] := .inl ⟨rfl, rfl, rfl, hi⟩
    have hp0 : ([] : List (Nat → Nat)).length = POP 0 := by rw [POP_RK, RK_zero]; rfl
    refine (putnew_mid B g rs.length i p (p / 64) (p % 64) (.slice a rs.length cap) (RC rs) h w hbx hC.far ho (by omega) hi (RC_cells rs) rfl rfl hp hBw (fun W hW => chunkfind_not hC hi hst1 hup W hW)).mono ?_
    rintro e w' ⟨he, gr, cap', gh, ch, b1, b2, b3, b4, b5, b6, b7, b8⟩
    have hml : (MID rs i i (p / 64) (p % 64) gh ch 0 [] h).length = rs.length + 1 := by
      unfold MID
      simp only [List.length_append, List.length_take, List.length_cons, List.length_drop]
      omega
    have hin : ∀ s, s ∈ rs.take i ∨ s ∈ rs.drop i → s ∈ rs := fun s hs => hs.elim List.mem_of_mem_take List.mem_of_mem_drop
    refine ⟨he, MID rs i i (p / 64) (p % 64) gh ch 0 [] h, ?_, fun p' => LOOK_mid hR hlow hhigh rfl rfl (by simp) hp0, mid_bits hR rfl rfl, ?_, ?_, b6, b7, ?_⟩
    · refine hC.mid (gr := gr) (cap := cap') (Nat.le_refl i) hi hlow hhigh rfl rfl hp (by decide) hfew (fun x hx => by cases hx) h8 (by simp) hp0 hml (Nat.le_refl _) b1 (by rw [RC_mid_new hi]; exact b2) (by rw [HL_insh [] (RK 0 (p % 64)) h (by rw [RK_zero]; exact Nat.le_refl _)]; simpa [HL] using b3) (fun s hs => ?_) (fun s hs => ?_)
      · have h5 := (hC.row s (hin s hs)).2.2.2.2
        refine b8 s.gh (h5.lt s.gh rfl).2 (fun e => ?_) (fun e => ?_)
        · obtain ⟨c, hc, _⟩ := own_block h5 (b := s.gh) rfl
          rw [e, show w.heap[g]? = _ from hbx] at hc
          cases hc
        · obtain ⟨j, hjs⟩ := List.getElem?_of_mem (hin s hs)
          have : 0 < rs.length := by have := (List.getElem?_eq_some_iff.1 hjs).1; omega
          obtain ⟨gr0, rfl, _⟩ := hfrm this
          exact rows_apart ho h5 (by have e2 : some gr0 = some s.gh := e; rw [Option.some.inj e2]; rfl)
      · have h5 := (hC.row s (hin s hs)).2.2.2.2
        have := (h5.lt s.gh rfl).2
        omega
    · intro s hs
      rcases mem_mid hs with h1 | rfl | h1
      · exact .inl ⟨s, List.mem_of_mem_take h1, rfl⟩
      · exact .inr b4
      · exact .inl ⟨s, List.mem_of_mem_drop h1, rfl⟩
    · intro v v' e1 e2
      rw [hcell] at e1
      rw [b1.cell 0] at e2
      have e1 := Option.some.inj e1
      have e2 := Option.some.inj e2
      rw [← e1, ← e2]
      rcases b5 with e | e
      · left
        exact e.symm
      · right
        exact ⟨gr, rfl, e⟩
    · intro b hb hbg hbv hbr
      exact b8 b hb hbg (hbv _ hcell)
end Go.Proofs.Ytkhpaldbdpfpiaa
