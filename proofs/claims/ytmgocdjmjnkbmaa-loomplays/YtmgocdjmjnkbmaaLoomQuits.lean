/- Who can quit; how many have left. -/
import Derived.Test.YtmgocdjmjnkbmaaLoomWho
namespace Go.Proofs.Ytmgocdjmjnkbmaa
open Go.RowKit
set_option maxRecDepth 100000

def QF (s : LM) (t : Nat) : Option MV := if WHS s ((t : Int) - 2) = 1 then none else some (6, (t : Int) - 2, 0)
theorem WHS_two (s : LM) (t : Nat) : WHS s (((t + 2 : Nat) : Int) - 2) = s.ws t := by
  unfold WHS
  rw [if_neg (by omega), if_neg (by omega)]
  congr 1
  omega
theorem QTS_pk (s : LM) : QTS s = PK (QF s) (s.W + 2) := by
  unfold QTS
  generalize s.W = n
  induction n with
  | zero =>
    rw [PK_zero, List.append_nil, PK_succ, PK_succ, PK_zero, List.nil_append]
    congr 1
    · show _ = (if WHS s (-2) = 1 then none else some (6, -2, 0)).toList
      show _ = (if s.fd = 1 then none else some (6, -2, 0)).toList
      split <;> rfl
    · show _ = (if WHS s (-1) = 1 then none else some (6, -1, 0)).toList
      show _ = (if s.col = 1 then none else some (6, -1, 0)).toList
      split <;> rfl
  | succ n ih =>
    rw [PK_succ, ← List.append_assoc, ih, PK_succ _ (n + 2)]
    congr 1
    unfold QF
    rw [WHS_two]
    have e : ((n + 2 : Nat) : Int) - 2 = (n : Int) := by omega
    rw [e]
theorem QTS_length (s : LM) : (QTS s).length ≤ s.W + 2 := by
  rw [QTS_pk]
  exact PK_length _ _
theorem GONE_cnt (s : LM) : GONE s = CNT (fun t => ISL (WHS s ((t : Int) - 2))) (s.W + 2) := by
  unfold GONE LEFTS
  generalize s.W = n
  induction n with
  | zero =>
    show FL s.fd + FL s.col + 0 = (0 + (if ISL s.fd = true then 1 else 0)) + (if ISL s.col = true then 1 else 0)
    unfold FL ISL
    simp
  | succ n ih =>
    show _ + (CNT _ n + (if ISL (s.ws n) = true then 1 else 0)) = CNT _ (n + 2) + (if ISL (WHS s (((n + 2 : Nat) : Int) - 2)) = true then 1 else 0)
    rw [WHS_two, ← ih]
    omega
set_option maxHeartbeats 1000000 in
theorem quits_ok {w : World} {B g gw : Nat} {va : Value} {s : LM} (h : LOOM w B g gw va s) (hW : s.W ≤ 64) (C : Nat) (v : Value) (l : List MV) (hl : l.length ≤ 1000) (hC : C ≤ w.heap.size) (hv : w.ownsRow C 42 3 v l.length (MCELLS l)) (ha : ∀ k, v.ownBlock = some k → ¬ FOOT g gw va k) : Calls Try.prog 42 #[.pointer (some ⟨g, 0, none⟩), v] w (EXT w C v (l ++ QTS s)) := by
  rw [QTS_pk]
  have hx5 : ∀ w' v', GREW w w' v v' → w'.cell? ⟨g, 5, none⟩ = some (.slice (some ⟨gw, 0, none⟩) s.W s.W) := fun w' v' hg => (h.grew hg ha).c5
  obtain ⟨f, hf⟩ : ∃ f : Nat → Option MV, f = QF s := ⟨_, rfl⟩
  rw [← hf]
  obtain ⟨n, hn⟩ : ∃ n, s.W = n := ⟨_, rfl⟩
  rw [hn] at hx5 hW ⊢
  have HA : Aside (LOOM w B g gw va s ∧ n ≤ 64 ∧ s.W = n ∧ l.length ≤ 1000 ∧ C ≤ w.heap.size ∧ f = QF s ∧ w.ownsRow C 42 3 v l.length (MCELLS l) ∧ (∀ k, v.ownBlock = some k → ¬ FOOT g gw va k) ∧ ∀ w' v', GREW w w' v v' → w'.cell? ⟨g, 5, none⟩ = some (.slice (some ⟨gw, 0, none⟩) n n)) := ⟨h, hW, hn, hl, hC, hf, hv, ha, hx5⟩
  clear h hW hn hl hC hf hv ha hx5
  go_enter Try.func42, Try.ntmps42
  go_wp2
  go_loopg [1, 5] (n + 2) (fun k s1 s5 wx => ∃ (t : Nat) (z : Int), t + k = n + 2 ∧ s5 = .int .i64 z ∧ Aside (z = (t : Int) - 2 ∧ wx.ownsRow C 42 3 s1 (l ++ PK f t).length (MCELLS (l ++ PK f t)) ∧ GREW w wx v s1))
  case atStart => exact ⟨0, -2, by omega, rfl, by omega, by rw [PK_zero, List.append_nil]; exact HA.out.2.2.2.2.2.2.1, GREW.refl _ _⟩
  case round =>
    obtain ⟨t, z, ht, rfl, A⟩ := hrel
    have x5 := HA.out.2.2.2.2.2.2.2.2 _ _ A.out.2.2
    cases gk with
    | zero =>
      obtain rfl : t = n + 2 := by omega
      have hz : ¬ z < (n : Int) := by have := A.out.1; omega
      go_wp2
      go_ret
      exact ⟨_, rfl, A.out.2.1, A.out.2.2⟩
    | succ k =>
      have hz : z < (n : Int) := by have := A.out.1; omega
      have hz2 : -2 ≤ z := by have := A.out.1; omega
      have L := HA.out.1.grew A.out.2.2 HA.out.2.2.2.2.2.2.2.1
      have cw := who_ok L z hz2 (by rw [HA.out.2.2.1]; exact hz)
      obtain ⟨b, o, hbo, y0, y1⟩ := L.who z hz2 (by rw [HA.out.2.2.1]; exact hz)
      rw [hbo] at cw
      have cg := gone_ok (WHS s z)
      have hn64 := HA.out.2.1
      have HT : Aside (t + (k + 1) = n + 2 ∧ z = (t : Int) - 2) := ⟨ht, A.out.1⟩
      by_cases hb : WHS s z = 1
      · rw [decide_eq_true hb] at cg
        generalize hAA : AT (WHS s z) = AA at *
        generalize hJJ : JB (WHS s z) = JJ at *
        have hR : Aside (PK f (t + 1) = PK f t) := by
          show _ = _
          rw [PK_succ, HA.out.2.2.2.2.2.1]
          unfold QF
          rw [← A.out.1, if_pos hb]
          exact List.append_nil _
        clear hb L hAA hJJ hbo ht
        go_wp2_with fail
        refine cw.mono ?_
        rintro e w1 ⟨rfl, rfl⟩
        clear cw
        go_wp2_with fail
        refine (cg _).mono ?_
        rintro e w1 ⟨rfl, hb1⟩
        clear cg
        have R2 : Aside (w1.ownsRow C 42 3 u1 (l ++ PK f (t + 1)).length (MCELLS (l ++ PK f (t + 1))) ∧ GREW w w1 v u1) := by
          rw [hR.out]
          exact ⟨own_turn A.out.2.1 (fun k e => hb1.block k (own_lt A.out.2.1 e).2), A.out.2.2.below hb1⟩
        clear hb1 A y0 y1
        go_wp2
        go_roundg k
        case measure => omega
        case rel => exact ⟨t + 1, z + 1, by have := HT.out.1; omega, rfl, by have := HT.out.2; omega, R2.out.1, R2.out.2⟩
      · rw [decide_eq_false hb] at cg
        generalize hAA : AT (WHS s z) = AA at *
        generalize hJJ : JB (WHS s z) = JJ at *
        have hR : Aside (PK f (t + 1) = PK f t ++ [(6, z, 0)]) := by
          show _ = _
          rw [PK_succ, HA.out.2.2.2.2.2.1]
          unfold QF
          rw [← A.out.1, if_neg hb]
          rfl
        clear hb L hAA hJJ hbo ht
        go_wp2_with fail
        refine cw.mono ?_
        rintro e w1 ⟨rfl, rfl⟩
        clear cw
        go_wp2_with fail
        refine (cg _).mono ?_
        rintro e w1 ⟨rfl, hb1⟩
        clear cg
        have R1 : Aside (w1.ownsRow C 42 3 u1 (l ++ PK f t).length (MCELLS (l ++ PK f t)) ∧ GREW w w1 v u1) := ⟨own_turn A.out.2.1 (fun k e => hb1.block k (own_lt A.out.2.1 e).2), A.out.2.2.below hb1⟩
        have R3 : Aside ((l ++ PK f t).length ≤ 100000 ∧ C ≤ w1.heap.size) := by
          have h1 := HA.out.2.2.2.1
          have h2 := PK_length f t
          have h3 := R1.out.2.size
          have h4 := HA.out.2.2.2.2.1
          have h5 := HT.out.1
          exact ⟨by rw [List.length_append]; omega, by omega⟩
        clear hb1 A y0 y1
        go_wp2_with (at_builtin; refine app_mv w w1 rfl (.tmp 22) (.tmp 25) rfl C v u1 (l ++ PK f t) (6, z, 0) rfl R1.out rfl R3.out.1 R3.out.2 ?_; intro g' cap w2 R2)
        go_roundg k
        case measure => omega
        case rel =>
          have R4 := R2.out
          rw [show (l ++ PK f t).length + 1 = l.length + (PK f t).length + 1 by rw [List.length_append]] at R4
          exact ⟨t + 1, z + 1, by have := HT.out.1; omega, rfl, by have := HT.out.2; omega, by rw [hR.out, ← List.append_assoc]; exact R4⟩
set_option maxHeartbeats 1000000 in
theorem gonecount_ok {w : World} {B g gw : Nat} {va : Value} {s : LM} (h : LOOM w B g gw va s) (hW : s.W ≤ 64) : Calls Try.prog 28 #[.pointer (some ⟨g, 0, none⟩)] w fun e w' => e = .returned (.int .i64 (GONE s : Int)) ∧ Below w.heap.size w w' := by
  rw [GONE_cnt]
  have hx5 : ∀ w', Below w.heap.size w w' → w'.cell? ⟨g, 5, none⟩ = some (.slice (some ⟨gw, 0, none⟩) s.W s.W) := fun w' hg => (h.below hg).c5
  obtain ⟨p, hp⟩ : ∃ p : Nat → Bool, p = fun t : Nat => ISL (WHS s ((t : Int) - 2)) := ⟨_, rfl⟩
  rw [← hp]
  obtain ⟨n, hn⟩ : ∃ n, s.W = n := ⟨_, rfl⟩
  rw [hn] at hx5 hW ⊢
  obtain ⟨G, hG⟩ : ∃ G, CNT p (n + 2) = G := ⟨_, rfl⟩
  rw [hG]
  have HA : Aside (LOOM w B g gw va s ∧ n ≤ 64 ∧ s.W = n ∧ (p = fun t : Nat => ISL (WHS s ((t : Int) - 2))) ∧ (∀ w', Below w.heap.size w w' → w'.cell? ⟨g, 5, none⟩ = some (.slice (some ⟨gw, 0, none⟩) n n)) ∧ CNT p (n + 2) = G) := ⟨h, hW, hn, hp, hx5, hG⟩
  clear h hW hn hp hx5 hG
  go_enter Try.func28, Try.ntmps28
  go_wp2
  go_loopg [3, 4] (n + 2) (fun k s3 s4 wx => ∃ (t c : Nat) (z : Int), t + k = n + 2 ∧ s4 = .int .i64 z ∧ s3 = .int .i64 (c : Int) ∧ Aside (z = (t : Int) - 2 ∧ c = CNT p t ∧ Below w.heap.size w wx))
  case atStart => exact ⟨0, 0, -2, by omega, rfl, rfl, by omega, rfl, Below.refl _ _⟩
  case round =>
    obtain ⟨t, c, z, ht, rfl, rfl, A⟩ := hrel
    have x5 := HA.out.2.2.2.2.1 _ A.out.2.2
    cases gk with
    | zero =>
      obtain rfl : t = n + 2 := by omega
      obtain rfl : c = G := by rw [← HA.out.2.2.2.2.2]; exact A.out.2.1
      have hz : ¬ z < (n : Int) := by have := A.out.1; omega
      go_wp2
      go_ret
      exact ⟨rfl, A.out.2.2⟩
    | succ k =>
      have hz : z < (n : Int) := by have := A.out.1; omega
      have hz2 : -2 ≤ z := by have := A.out.1; omega
      have L := HA.out.1.below A.out.2.2
      have cw := who_ok L z hz2 (by rw [HA.out.2.2.1]; exact hz)
      obtain ⟨b, o, hbo, y0, y1⟩ := L.who z hz2 (by rw [HA.out.2.2.1]; exact hz)
      rw [hbo] at cw
      have cg := gone_ok (WHS s z)
      have hn64 := HA.out.2.1
      have hct : c ≤ 66 := by rw [A.out.2.1]; have := CNT_le p t; omega
      have HT : Aside (t + (k + 1) = n + 2 ∧ z = (t : Int) - 2) := ⟨ht, A.out.1⟩
      by_cases hb : WHS s z = 1
      · rw [decide_eq_true hb] at cg
        generalize hAA : AT (WHS s z) = AA at *
        generalize hJJ : JB (WHS s z) = JJ at *
        have hR : Aside (c + 1 = CNT p (t + 1)) := by
          show _ = CNT p t + (if p t then 1 else 0)
          have e : p t = true := by rw [HA.out.2.2.2.1]; show ISL (WHS s ((t : Int) - 2)) = true; rw [← A.out.1, hb]; rfl
          rw [← A.out.2.1, e]
          rfl
        clear hb L hAA hJJ hbo ht
        go_wp2_with fail
        refine cw.mono ?_
        rintro e w1 ⟨rfl, rfl⟩
        clear cw
        go_wp2_with fail
        refine (cg _).mono ?_
        rintro e w1 ⟨rfl, hb1⟩
        clear cg
        have R2 : Aside (Below w.heap.size w w1) := A.out.2.2.trans (hb1.mono A.out.2.2.size)
        clear hb1 A y0 y1
        go_wp2
        go_roundg k
        case measure => omega
        case rel => exact ⟨t + 1, c + 1, z + 1, by have := HT.out.1; omega, rfl, rfl, by have := HT.out.2; omega, hR.out, R2.out⟩
      · rw [decide_eq_false hb] at cg
        generalize hAA : AT (WHS s z) = AA at *
        generalize hJJ : JB (WHS s z) = JJ at *
        have hR : Aside (c = CNT p (t + 1)) := by
          show _ = CNT p t + (if p t then 1 else 0)
          have e : p t = false := by rw [HA.out.2.2.2.1]; show ISL (WHS s ((t : Int) - 2)) = false; rw [← A.out.1]; exact decide_eq_false hb
          rw [← A.out.2.1, e]
          rfl
        clear hb L hAA hJJ hbo ht
        go_wp2_with fail
        refine cw.mono ?_
        rintro e w1 ⟨rfl, rfl⟩
        clear cw
        go_wp2_with fail
        refine (cg _).mono ?_
        rintro e w1 ⟨rfl, hb1⟩
        clear cg
        have R2 : Aside (Below w.heap.size w w1) := A.out.2.2.trans (hb1.mono A.out.2.2.size)
        clear hb1 A y0 y1
        go_wp2
        go_roundg k
        case measure => omega
        case rel => exact ⟨t + 1, c, z + 1, by have := HT.out.1; omega, rfl, rfl, by have := HT.out.2; omega, hR.out, R2.out⟩
end Go.Proofs.Ytmgocdjmjnkbmaa
