/- Rows of a chunk, one after the other thinned. -/
import Derived.Test.YtkmcmngdainofaaStoreDelRows
import Derived.Test.YtkmcmngdainofaaStoreTakePlain
namespace Go.Proofs.Ytkmcmngdainofaa
open Go.RowKit Go.Maps
set_option maxRecDepth 100000

theorem over_two (P Q : List Value) (n l v l' v' : Value) : ((P ++ ([n, l, v] ++ Q)).take (P.length + 2) ++ [v'] ++ (P ++ ([n, l, v] ++ Q)).drop (P.length + 2 + 1)).take (P.length + 1) ++ [l'] ++ ((P ++ ([n, l, v] ++ Q)).take (P.length + 2) ++ [v'] ++ (P ++ ([n, l, v] ++ Q)).drop (P.length + 2 + 1)).drop (P.length + 1 + 1) = P ++ ([n, l', v'] ++ Q) := by
  have h1 : (P ++ ([n, l, v] ++ Q)).take (P.length + 2) = P ++ [n, l] := by
    rw [List.take_length_add_append]; rfl
  have h2 : (P ++ ([n, l, v] ++ Q)).drop (P.length + 2 + 1) = Q := by
    rw [show P.length + 2 + 1 = P.length + 3 by omega, List.drop_length_add_append]; rfl
  rw [h1, h2]
  have h3 : (P ++ [n, l] ++ [v'] ++ Q) = P ++ ([n, l, v'] ++ Q) := by simp
  rw [h3, show P.length + 1 + 1 = P.length + 2 by omega, List.take_length_add_append, List.drop_length_add_append]
  simp
/-- the i-th row with other bits and another list. -/
theorem own_thin {w : World} {B gr n cap i : Nat} {L : List ROW} {r : ROW} (h : w.ownsRow B 73 3 (.slice (some ⟨gr, 0, none⟩) n cap) n (RC L)) (hl : L.length = n) (hi : L[i]? = some r) (r' : ROW) (e1 : r'.num = r.num) :
    ((w.setCell ⟨gr, i * 3 + 2, none⟩ r'.v).setCell ⟨gr, i * 3 + 1, none⟩ (.int .u64 (r'.live : Int))).ownsRow B 73 3 (.slice (some ⟨gr, 0, none⟩) n cap) n (RC (L.set i r')) := by
  have hin : i < n := by have := (List.getElem?_eq_some_iff.1 hi).1; omega
  have h2 := own_written (o := i * 3 + 2) (vs := [r'.v]) h (by simp; omega)
  have h3 := own_written (o := i * 3 + 1) (vs := [.int .u64 (r'.live : Int)]) h2 (by simp; omega)
  have e : RC L = RC (L.take i) ++ (RC1 r ++ RC (L.drop (i + 1))) := by
    conv => lhs; rw [← List.take_append_drop i L, RC_append]
    rw [List.drop_eq_getElem_cons (by omega), show L[i] = r from (List.getElem?_eq_some_iff.1 hi).2]
    simp [RC]
  have e' : RC (L.set i r') = RC (L.take i) ++ (RC1 r' ++ RC (L.drop (i + 1))) := by
    rw [← RC_put3 L i r' (by omega), RC_first L i (by omega), show i * 3 + (RC1 r').length = (i + 1) * 3 by simp; omega, RC_rest L (i + 1) (by omega), List.append_assoc]
  have hP : (RC (L.take i)).length = i * 3 := by rw [RC_length]; simp; omega
  have k := over_two (RC (L.take i)) (RC (L.drop (i + 1))) (.int .u64 (r.num : Int)) (.int .u64 (r.live : Int)) r.v (.int .u64 (r'.live : Int)) r'.v
  rw [hP] at k
  rw [e', show RC1 r' = [.int .u64 (r.num : Int), .int .u64 (r'.live : Int), r'.v] by rw [← e1]]
  rw [e] at h3
  rw [← k]
  exact h3
/-- a row of which the bits st stay. -/
structure THR (st : Nat → Nat) (r r' : ROW) : Prop where
  num : r'.num = r.num
  live : r'.live = st r.num &&& r.live
  len : r'.hs.length = POP r'.live
  look : ∀ k, k < 64 → r'.live.testBit k = true → r'.hs[RK r'.live k]? = r.hs[RK r.live k]?
  byte : (∀ h ∈ r.hs, ∀ i, h i < 256) → ∀ h ∈ r'.hs, ∀ i, h i < 256
theorem THR.same {st : Nat → Nat} {r : ROW} (h : st r.num &&& r.live = r.live) (hl : r.hs.length = POP r.live) : THR st r r := ⟨rfl, h.symm, hl, fun _ _ _ => rfl, fun h => h⟩
theorem THR.kept {st : Nat → Nat} {r : ROW} {g2 c2 s : Nat} (h : st r.num &&& r.live = s) (hl : r.hs.length = POP r.live) : THR st r ⟨r.num, s, g2, c2, KPT r.live r.hs (PLACES s)⟩ := by
  refine ⟨rfl, h.symm, KPT_length _ _ _, fun k hk hb => ?_, fun h8 => KPT_mem (P := fun h => ∀ i, h i < 256) (fun _ => Nat.zero_lt_of_lt (by decide : (0 : Nat) < 256)) h8⟩
  refine KPT_at hk hb ?_
  have hb2 : r.live.testBit k = true := by
    have hb' : s.testBit k = true := hb
    rw [← h] at hb'
    exact stay_bits hb'
  rw [hl]
  exact RK_lt hk hb2
theorem RISE_iff {l : List ROW} : RISE l ↔ l.Pairwise (fun r s => r.num < s.num) := by
  rw [List.pairwise_iff_getElem]
  constructor
  · intro h i j hi hj hij
    exact h i j _ _ hij (List.getElem?_eq_getElem hi) (List.getElem?_eq_getElem hj)
  · intro h i j r s hij hr hs
    obtain ⟨h1, rfl⟩ := List.getElem?_eq_some_iff.1 hr
    obtain ⟨h2, rfl⟩ := List.getElem?_eq_some_iff.1 hs
    exact h i j h1 h2 hij
theorem RISE_thin {st : Nat → Nat} {rs L : List ROW} (hR : RISE rs) (hlen : L.length = rs.length) (hL : ∀ (k : Nat) (r : ROW), rs[k]? = some r → ∃ r', L[k]? = some r' ∧ THR st r r') : RISE L := fun i j r s hij hr hs => by
  have hi : i < rs.length := by have := (List.getElem?_eq_some_iff.1 hr).1; omega
  have hj : j < rs.length := by have := (List.getElem?_eq_some_iff.1 hs).1; omega
  obtain ⟨r2, h1, h2⟩ := hL i rs[i] (List.getElem?_eq_getElem hi)
  obtain ⟨s2, h3, h4⟩ := hL j rs[j] (List.getElem?_eq_getElem hj)
  rw [hr] at h1
  rw [hs] at h3
  cases h1
  cases h3
  rw [h2.num, h4.num]
  exact hR i j _ _ hij (List.getElem?_eq_getElem hi) (List.getElem?_eq_getElem hj)
theorem RISE_lives {l : List ROW} (h : RISE l) : RISE (LVS l) := RISE_iff.2 ((RISE_iff.1 h).filter _)
/-- what a chunk looks like whose rows are thinned, those in which nothing lives left out. -/
theorem LOOK_thin {st : Nat → Nat} {rs L : List ROW} (hR : RISE rs) (hlen : L.length = rs.length) (hL : ∀ (k : Nat) (r : ROW), rs[k]? = some r → ∃ r', L[k]? = some r' ∧ THR st r r') (p : Nat) : LOOK (LVS L) p = if (st (p / 64)).testBit (p % 64) = true then LOOK rs p else none := by
  have hRT := RISE_thin hR hlen hL
  have hRL := RISE_lives hRT
  by_cases hex : ∃ (k : Nat) (r : ROW), rs[k]? = some r ∧ r.num = p / 64
  · obtain ⟨k, r, hk, hn⟩ := hex
    obtain ⟨r', hk', ht⟩ := hL k r hk
    have e1 := LOOK_mem hR (List.mem_of_getElem? hk) hn
    have hb : r'.live.testBit (p % 64) = ((st (p / 64)).testBit (p % 64) && r.live.testBit (p % 64)) := by rw [ht.live, Nat.testBit_and, hn]
    by_cases h0 : r'.live.testBit (p % 64) = true
    · have hmem : r' ∈ LVS L := List.mem_filter.2 ⟨List.mem_of_getElem? hk', by
        simp
        intro e
        rw [e, Nat.zero_testBit] at h0
        cases h0⟩
      rw [LOOK_mem hRL hmem (by rw [ht.num, hn]), if_pos h0, ht.look _ (Nat.mod_lt _ (by decide)) h0]
      rw [h0] at hb
      simp only [Bool.true_eq, Bool.and_eq_true] at hb
      rw [if_pos hb.1, e1, if_pos hb.2]
    · have e2 : LOOK (LVS L) p = none := by
        by_cases hmem : r' ∈ LVS L
        · rw [LOOK_mem hRL hmem (by rw [ht.num, hn]), if_neg h0]
        · refine LOOK_none (fun s hs e => hmem ?_)
          obtain ⟨k2, hk2⟩ := List.getElem?_of_mem (List.mem_filter.1 hs).1
          have hnum : s.num = r'.num := by rw [e, ht.num, hn]
          rcases Nat.lt_trichotomy k k2 with h | h | h
          · have := hRT k k2 _ _ h hk' hk2; omega
          · subst h
            rw [hk'] at hk2
            cases hk2
            exact hs
          · have := hRT k2 k _ _ h hk2 hk'; omega
      rw [e2]
      by_cases hs : (st (p / 64)).testBit (p % 64) = true
      · rw [if_pos hs, e1]
        rw [hs, Bool.true_and] at hb
        rw [if_neg (by rw [← hb]; exact h0)]
      · rw [if_neg hs]
  · have e1 : LOOK rs p = none := LOOK_none (fun r hr e => by
      obtain ⟨k, hk⟩ := List.getElem?_of_mem hr
      exact hex ⟨k, r, hk, e⟩)
    have e2 : LOOK (LVS L) p = none := LOOK_none (fun r' hr' e => by
      obtain ⟨k, hk⟩ := List.getElem?_of_mem (List.mem_filter.1 hr').1
      have hkl : k < rs.length := by have := (List.getElem?_eq_some_iff.1 hk).1; omega
      obtain ⟨r2, h1, h2⟩ := hL k rs[k] (List.getElem?_eq_getElem hkl)
      rw [hk] at h1
      cases h1
      exact hex ⟨k, rs[k], List.getElem?_eq_getElem hkl, by rw [← h2.num]; exact e⟩)
    rw [e1, e2]
    split <;> rfl
end Go.Proofs.Ytkmcmngdainofaa
