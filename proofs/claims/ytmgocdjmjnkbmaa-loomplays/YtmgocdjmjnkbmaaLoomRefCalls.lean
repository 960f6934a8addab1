/- The document's Most, Move, Cancel, Gone. -/
import Derived.Test.YtmgocdjmjnkbmaaLoomRefNew
import Derived.Test.YtmgocdjmjnkbmaaLoomRefMoves
import Derived.Test.YtmgocdjmjnkbmaaLoomAnswers
namespace Go.Proofs.Ytmgocdjmjnkbmaa
open Go.RowKit
set_option maxRecDepth 100000

theorem rcancel_ok {w : World} {B r bw cw : Nat} {vq vg : Value} {R : RR} {s : LM} (h : RLOOM w B r bw cw vq vg R) (hr : REL s R) (hc : s.canc = false) : Calls Try.prog 13 #[.pointer (some ⟨r, 0, none⟩)] w fun e w' => e = .returned (.int .i64 0) ∧ ∃ vq' vg' R', RAFTER w B r bw cw vq vg vq' vg' R' w' ∧ REL (CANC s) R' := by
  have x : w.cell? ⟨r, 10, none⟩ = some (.bool false) := by rw [← hc, ← hr.canc]; exact h.row.cell 10
  have z := h.row.frozen 10
  have HL : Aside (RLOOM w B r bw cw vq vg R ∧ REL s R) := ⟨h, hr⟩
  clear h hc hr
  go_enter Try.func13, Try.ntmps13
  go_wp2
  go_ret
  obtain ⟨h, hr⟩ := HL.out
  exact ⟨rfl, vq, vg, { R with canc := true }, h.set1 10 _ rfl rfl rfl rfl rfl rfl, ⟨hr.jobs, hr.room, hr.next, hr.fg, hr.qs, hr.sh, hr.W, hr.ws, hr.dn, hr.got, hr.out, rfl, hr.count, hr.top⟩⟩
theorem rcancel_not {w : World} {B r bw cw : Nat} {vq vg : Value} {R : RR} {s : LM} (h : RLOOM w B r bw cw vq vg R) (hr : REL s R) (hc : s.canc = true) : Calls Try.prog 13 #[.pointer (some ⟨r, 0, none⟩)] w fun e w' => e = .returned (.int .i64 130) ∧ w = w' := by
  have x : w.cell? ⟨r, 10, none⟩ = some (.bool true) := by rw [← hc, ← hr.canc]; exact h.row.cell 10
  clear h hc hr
  go_enter Try.func13, Try.ntmps13
  go_wp2
  go_ret
  exact ⟨rfl, rfl⟩
theorem rmove_not {w : World} {B r bw cw : Nat} {vq vg : Value} {R : RR} {s : LM} (h : RLOOM w B r bw cw vq vg R) (hr : REL s R) (hi : INV s) (hW : s.W ≤ 64) (k : Int) (hk : k < 0 ∨ ((MVS s).length : Int) ≤ k) : Calls Try.prog 7 #[.pointer (some ⟨r, 0, none⟩), .int .i64 k] w fun e w' => e = .returned (.int .i64 130) ∧ Below w.heap.size w w' := by
  have cm := rmoves_ok h hr hi hW
  clear h hW hr hi
  generalize MVS s = l at *
  go_enter Try.func7, Try.ntmps7
  go_wp2_with fail
  refine cm.mono ?_
  rintro e w1 ⟨v, rfl, ho, hb⟩
  clear cm
  obtain ⟨a, c, rfl, _⟩ := own_slice ho
  have HB : Aside (Below w.heap.size w w1) := hb
  clear ho hb
  by_cases h1 : k < 0
  · clear hk
    go_wp2
    go_ret
    exact ⟨rfl, HB.out⟩
  · have h2 : ((l.length : Nat) : Int) ≤ k := by omega
    clear hk
    go_wp2
    go_ret
    exact ⟨rfl, HB.out⟩
theorem rmove_ok {w : World} {B r bw cw : Nat} {vq vg : Value} {R : RR} {s : LM} (h : RLOOM w B r bw cw vq vg R) (hr : REL s R) (hi : INV s) (hs : SMALL s) (hjb : s.jobs ≤ 65536) (k : Nat) (m : MV) (hm : (MVS s)[k]? = some m) : Calls Try.prog 7 #[.pointer (some ⟨r, 0, none⟩), .int .i64 (k : Int)] w fun e w' => e = .returned (.int .i64 0) ∧ ∃ vq' vg' R', RAFTER w B r bw cw vq vg vq' vg' R' w' ∧ REL (DO s m) R' := by
  have cm := rmoves_ok h hr hi hs.w
  have HA : Aside (RLOOM w B r bw cw vq vg R ∧ SMALL s ∧ m ∈ MVS s ∧ (MVS s)[k]? = some m) := ⟨h, hs, List.mem_of_getElem? hm, hm⟩
  have HI : Aside (REL s R ∧ INV s ∧ s.jobs ≤ 65536) := ⟨hr, hi, hjb⟩
  have hk : k < (MVS s).length := (List.getElem?_eq_some_iff.1 hm).1
  clear h hs hm hr hi hjb
  go_enter Try.func7, Try.ntmps7
  go_wp2_with fail
  refine cm.mono ?_
  rintro e w1 ⟨v, rfl, ho, hb⟩
  clear cm
  obtain ⟨a, c, rfl, _⟩ := own_slice ho
  obtain ⟨b, rfl, _, _, y0, y1, y2⟩ := own_moves ho rfl k m HA.out.2.2.2
  have L1 := HA.out.1.below hb
  have cd := rmake_ok L1 HI.out.1 HI.out.2.1 HA.out.2.1 HI.out.2.2 m HA.out.2.2.1
  have hmv : MVAL m.1 m.2.1 m.2.2 = #[.int .i64 (m.1 : Int), .int .i64 m.2.1, .int .i64 (m.2.2 : Int)] := rfl
  rw [hmv] at cd
  have HB : Aside (RSTEP r bw vq vg vq vg w w1) := RSTEP.below hb
  have hk1 : (k : Int) < ((MVS s).length : Int) := by omega
  have hk2 : ¬ (k : Int) < 0 := by omega
  have hk3 : ¬ ((MVS s).length : Int) ≤ (k : Int) := by omega
  generalize (MVS s).length = n at *
  generalize (m.1 : Int) = M1 at *
  generalize m.2.1 = M2 at *
  generalize (m.2.2 : Int) = M3 at *
  clear ho hb L1 hmv
  go_wp2_with fail
  refine cd.mono ?_
  rintro e w2 ⟨rfl, vq', vg', R', q1, q2⟩
  clear cd y0 y1 y2
  have RR : Aside (RAFTER w B r bw cw vq vg vq' vg' R' w2 ∧ REL (DO s m) R') := ⟨⟨q1.1, HB.out.trans q1.2⟩, q2⟩
  clear q1 q2
  go_wp2
  go_ret
  exact ⟨rfl, vq', vg', R', RR.out⟩
theorem rnew_not (a b c : Int) (h : REF a b c) (w : World) : Calls Try.prog 15 #[.int .i64 a, .int .i64 b, .int .i64 c] w fun e w' => e = .returned (.tuple #[.pointer none, .int .i64 1]) ∧ w = w' := by
  unfold REF at h
  by_cases h1 : a < 1
  · clear h
    go_enter Try.func15, Try.ntmps15
    go_wp2
    go_ret2
    exact ⟨rfl, rfl⟩
  · by_cases h2 : 64 < a
    · clear h
      go_enter Try.func15, Try.ntmps15
      go_wp2
      go_ret2
      exact ⟨rfl, rfl⟩
    · by_cases h3 : b < 0
      · clear h
        go_enter Try.func15, Try.ntmps15
        go_wp2
        go_ret2
        exact ⟨rfl, rfl⟩
      · by_cases h4 : 65536 < b
        · clear h
          go_enter Try.func15, Try.ntmps15
          go_wp2
          go_ret2
          exact ⟨rfl, rfl⟩
        · by_cases h5 : c < 0
          · clear h
            go_enter Try.func15, Try.ntmps15
            go_wp2
            go_ret2
            exact ⟨rfl, rfl⟩
          · have h6 : 65536 < c := by omega
            clear h
            go_enter Try.func15, Try.ntmps15
            go_wp2
            go_ret2
            exact ⟨rfl, rfl⟩
theorem rgone_cnt {s : LM} {R : RR} (hr : REL s R) : CNT (fun i => R.gn i) R.W = LEFTS s := by
  rw [hr.W]
  unfold LEFTS
  refine CNT_congr _ ?_
  intro i hi
  rcases hr.ws i hi with ⟨e, g⟩ | ⟨e, g, _⟩ | ⟨e, g, _⟩
  all_goals rw [g]
  · rw [e]; rfl
  · rw [e]; rfl
  · unfold ISL; rw [decide_eq_false (by omega)]
theorem rgone_ok {w : World} {B r bw cw : Nat} {vq vg : Value} {R : RR} {s : LM} (h : RLOOM w B r bw cw vq vg R) (hr : REL s R) (hW : R.W ≤ 64) : Calls Try.prog 29 #[.pointer (some ⟨r, 0, none⟩)] w fun e w' => e = .returned (.int .i64 (GONE s : Int)) ∧ w = w' := by
  have x6 : w.cell? ⟨r, 6, none⟩ = some (.slice (some ⟨bw, 0, none⟩) R.W cw) := h.row.cell 6
  have x3 : w.cell? ⟨r, 3, none⟩ = some (.bool R.fg) := h.row.cell 3
  have x7 : w.cell? ⟨r, 7, none⟩ = some (.bool R.dn) := h.row.cell 7
  have HA : Aside (RLOOM w B r bw cw vq vg R ∧ R.W ≤ 64) := ⟨h, hW⟩
  have hg := rgone_cnt hr
  have HG : GONE s = (if R.fg then 1 else 0) + (if R.dn then 1 else 0) + CNT (fun i => R.gn i) R.W := by
    rw [hg, hr.fg, hr.dn]
    unfold GONE FL
    simp only [decide_eq_true_eq]
  obtain ⟨p, hp⟩ : ∃ p : Nat → Bool, p = fun i => R.gn i := ⟨_, rfl⟩
  obtain ⟨n, hn⟩ : ∃ n, R.W = n := ⟨_, rfl⟩
  rw [hn] at x6
  obtain ⟨G, hG⟩ : ∃ G, CNT p n = G := ⟨_, rfl⟩
  obtain ⟨F, hF⟩ : ∃ F, R.fg = F := ⟨_, rfl⟩
  obtain ⟨D, hD⟩ : ∃ D, R.dn = D := ⟨_, rfl⟩
  rw [hF] at x3
  rw [hD] at x7
  have HP : Aside ((p = fun i => R.gn i) ∧ R.W = n ∧ CNT p n = G) := ⟨hp, hn, hG⟩
  have hG2 : GONE s = (if F then 1 else 0) + (if D then 1 else 0) + G := by rw [HG, hF, hD, ← hG, hp, hn]
  have HG2 : Aside (GONE s = (if F then 1 else 0) + (if D then 1 else 0) + G) := hG2
  generalize GONE s = GG at *
  clear h hW hp hn hG hr hg HG hF hD hG2
  go_enter Try.func29, Try.ntmps29
  go_wp2
  go_loopg [3, 4] n (fun k s3 s4 wx => ∃ i c : Nat, i + k = n ∧ s4 = .int .i64 (i : Int) ∧ s3 = .int .i64 (c : Int) ∧ Aside (c = CNT p i ∧ wx = w))
  case atStart => exact ⟨0, 0, by omega, rfl, rfl, rfl, rfl⟩
  case round =>
    obtain ⟨i, c, hi, rfl, rfl, A⟩ := hrel
    obtain ⟨a1, rfl⟩ := A.out
    have hn64 : n ≤ 64 := by rw [← HP.out.2.1]; exact HA.out.2
    have hci : c ≤ i := by rw [a1]; exact CNT_le _ _
    cases gk with
    | zero =>
      obtain rfl : i = n := by omega
      obtain rfl : c = G := by rw [← HP.out.2.2]; exact a1
      clear a1 A
      cases F with
      | false =>
        cases D with
        | false =>
          have e : GG = c := by have := HG2.out; simpa using this
          subst e
          go_wp2
          go_ret
          exact ⟨rfl, rfl⟩
        | true =>
          have e : GG = c + 1 := by have := HG2.out; simp at this; omega
          subst e
          go_wp2
          go_ret
          exact ⟨by push_cast; rfl, rfl⟩
      | true =>
        cases D with
        | false =>
          have e : GG = c + 1 := by have := HG2.out; simp at this; omega
          subst e
          go_wp2
          go_ret
          exact ⟨by push_cast; rfl, rfl⟩
        | true =>
          have e : GG = c + 1 + 1 := by have := HG2.out; simp at this; omega
          subst e
          go_wp2
          go_ret
          exact ⟨by push_cast; rfl, rfl⟩
    | succ k =>
      have hlt : (i : Int) < (n : Int) := by omega
      have y1 := HA.out.1.gn i (by rw [HP.out.2.1]; omega)
      have hpi : p i = R.gn i := by rw [HP.out.1]
      have HC : Aside (CNT p (i + 1) = c + (if p i then 1 else 0)) := by show CNT p i + _ = _; rw [← a1]
      generalize R.gn i = Y at *
      clear a1 A
      cases Y with
      | false =>
        have HC2 : Aside (CNT p (i + 1) = c) := by rw [HC.out, hpi]; exact rfl
        clear hpi
        go_wp2
        go_roundg k
        case measure => omega
        case rel => exact ⟨i + 1, c, by omega, rfl, rfl, HC2.out.symm, rfl⟩
      | true =>
        have HC2 : Aside (CNT p (i + 1) = c + 1) := by rw [HC.out, hpi]; exact rfl
        clear hpi
        go_wp2
        go_roundg k
        case measure => omega
        case rel => exact ⟨i + 1, c + 1, by omega, rfl, rfl, HC2.out.symm, rfl⟩
end Go.Proofs.Ytmgocdjmjnkbmaa
