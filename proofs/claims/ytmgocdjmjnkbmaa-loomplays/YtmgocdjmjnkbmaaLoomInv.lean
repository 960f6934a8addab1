/- What stays true of a loom, whatever moves are made. -/
import Derived.Test.YtmgocdjmjnkbmaaLoomPlain
namespace Go.Proofs.Ytmgocdjmjnkbmaa

theorem no21 (h : 2 ≤ 1) : False := by omega
theorem no20 (h : 2 ≤ 0) : False := by omega
theorem no10 (h : 1 = 0) : False := by omega
theorem FL_one : FL 1 = 1 := rfl
theorem FL_zero {x : Nat} (h : x ≠ 1) : FL x = 0 := if_neg h
theorem NEXTF_ne (j n : Nat) : NEXTF j n ≠ 1 := by unfold NEXTF; split <;> omega
theorem CQ_open {s : LM} (h : s.col ≠ 1) : CQ s = 0 := if_neg (fun e => h e.1)
theorem ISB_of {x : Nat} (h : 2 ≤ x) : ISB x = true := decide_eq_true h
theorem ISB_not {x : Nat} (h : ¬ 2 ≤ x) : ISB x = false := decide_eq_false h
theorem ISL_of : ISL 1 = true := rfl
theorem ISL_not {x : Nat} (h : x ≠ 1) : ISL x = false := decide_eq_false h
theorem gauge_le (s : LM) : GAUGE s ≤ s.W := CNT_le _ _
theorem lefts_le (s : LM) : LEFTS s ≤ s.W := CNT_le _ _
/-- the part of the invariant that does not speak of moves made and of the top. -/
structure INV1 (s : LM) : Prop where
  fed : s.first + s.held ≤ s.jobs
  next : 2 ≤ s.fd → s.fd = s.first + s.held + 2 ∧ s.first + s.held < s.jobs
  nomore : s.fd = 0 → s.first + s.held = s.jobs
  colx : s.col ≤ 1
  open_ : s.col = 0 → s.ans.length < s.jobs
  count : GAUGE s + s.ans.length ≤ s.first
  zero : s.room = 0 → s.held = 0
  fits : s.held ≤ s.room
  nodup : s.ans.Nodup
  old : ∀ j, j ∈ s.ans → j < s.first
  busy : ∀ i, i < s.W → 2 ≤ s.ws i → s.ws i - 2 < s.first ∧ s.ws i - 2 ∉ s.ans
  one : ∀ i k, i < s.W → k < s.W → 2 ≤ s.ws i → s.ws i = s.ws k → i = k
def MADES (s : LM) : Nat := FL s.fd + LEFTS s + ROOMY s + s.first + s.ans.length + CQ s
theorem INV.of {s : LM} (h : INV1 s) (hm : s.made = MADES s) (ht : GAUGE s ≤ s.top ∧ s.top ≤ s.W ∧ s.top ≤ s.jobs) : INV s := ⟨h.fed, h.next, h.nomore, h.colx, h.open_, h.count, h.zero, h.fits, hm, ht, h.nodup, h.old, h.busy, h.one⟩
theorem INV.base {s : LM} (h : INV s) : INV1 s := ⟨h.fed, h.next, h.nomore, h.colx, h.open_, h.count, h.zero, h.fits, h.nodup, h.old, h.busy, h.one⟩
theorem inv_new (n jobs room : Nat) : INV { jobs := jobs, room := room, W := n, canc := false, fd := NEXTF 0 jobs, ws := fun _ => 0, col := if jobs = 0 then 1 else 0, first := 0, held := 0, made := 0, top := 0, ans := [] } := by
  have hg : CNT (fun _ => ISB 0) n = 0 := CNT_zero n (fun _ _ => rfl)
  have hl : CNT (fun _ => ISL 0) n = 0 := CNT_zero n (fun _ _ => rfl)
  refine INV.of ⟨Nat.zero_le _, ?_, ?_, ?_, ?_, ?_, fun _ => rfl, Nat.zero_le _, List.nodup_nil, (fun j hj => by cases hj), (fun i _ h => (no20 h).elim), (fun i k _ _ h => (no20 h).elim)⟩ ?_ ⟨?_, Nat.zero_le _, Nat.zero_le _⟩
  · show 2 ≤ NEXTF 0 jobs → NEXTF 0 jobs = _ ∧ _
    unfold NEXTF
    split <;> intro h <;> simp_all
  · show NEXTF 0 jobs = 0 → _
    unfold NEXTF
    split <;> intro h <;> simp_all
  · show (if jobs = 0 then 1 else 0) ≤ 1
    split <;> omega
  · show (if jobs = 0 then 1 else 0) = 0 → 0 < jobs
    split <;> omega
  · show CNT (fun _ => ISB 0) n + 0 ≤ 0
    omega
  · show 0 = FL (NEXTF 0 jobs) + CNT (fun _ => ISL 0) n + (if room = 0 then 0 else 0 + 0) + 0 + 0 + (if (if jobs = 0 then 1 else 0) = 1 ∧ 0 ≠ jobs then 1 else 0)
    rw [FL_zero (NEXTF_ne _ _), hl, if_neg (c := (if jobs = 0 then 1 else 0) = 1 ∧ 0 ≠ jobs) (fun e => by have h1 := e.1; have h2 := e.2; split at h1 <;> omega)]
    split <;> rfl
  · show CNT (fun _ => ISB 0) n ≤ 0
    omega
/-- behind a move: the gauge and what was counted. -/
theorem counted {s t : LM} (h : INV s) (h1 : INV1 t) (hm : t.made = s.made) (ht : t.top = s.top) (hW : t.W = s.W) (hj : t.jobs = s.jobs) (hc : MADES t = MADES s + 1) : INV (COUNTED t) := by
  have g1 := gauge_le t
  have g2 : GAUGE t ≤ t.jobs := by have := h1.count; have := h1.fed; omega
  have g3 := h.topw
  refine INV.of ⟨h1.fed, h1.next, h1.nomore, h1.colx, h1.open_, h1.count, h1.zero, h1.fits, h1.nodup, h1.old, h1.busy, h1.one⟩ ?_ ?_
  · show t.made + 1 = MADES t
    rw [hm, hc, h.made]
    rfl
  · show GAUGE t ≤ max t.top (GAUGE t) ∧ max t.top (GAUGE t) ≤ t.W ∧ max t.top (GAUGE t) ≤ t.jobs
    rw [ht, Nat.max_def]
    split
    · exact ⟨Nat.le_refl _, g1, g2⟩
    · exact ⟨by omega, by omega, by omega⟩
theorem inv1_puts {s : LM} (h : INV1 s) (h2 : 2 ≤ s.fd) (h3 : s.held < s.room) : INV1 (PUTS s) := by
  obtain ⟨e, hlt⟩ := h.next h2
  have ef : (PUTS s).fd = NEXTF (s.fd - 2 + 1) s.jobs := rfl
  refine ⟨by show s.first + (s.held + 1) ≤ s.jobs; omega, ?_, ?_, h.colx, h.open_, h.count, fun e0 => ?_, by show s.held + 1 ≤ s.room; omega, h.nodup, h.old, h.busy, h.one⟩
  · rw [ef]
    show 2 ≤ NEXTF _ _ → NEXTF _ _ = s.first + (s.held + 1) + 2 ∧ s.first + (s.held + 1) < s.jobs
    unfold NEXTF
    split <;> intro h <;> omega
  · rw [ef]
    show NEXTF _ _ = 0 → s.first + (s.held + 1) = s.jobs
    unfold NEXTF
    split <;> intro h <;> omega
  · have e0 : s.room = 0 := e0
    omega
/-- a job comes to an idle worker out of the channel: the room does not matter. -/
theorem inv1_gives {s : LM} (fed : s.first + s.held ≤ s.jobs) (next : 2 ≤ s.fd → s.fd = s.first + s.held + 2 ∧ s.first + s.held < s.jobs) (nomore : s.fd = 0 → s.first + s.held = s.jobs) (h : INV1 s ∨ (s.col ≤ 1 ∧ (s.col = 0 → s.ans.length < s.jobs) ∧ GAUGE s + s.ans.length ≤ s.first ∧ s.ans.Nodup ∧ (∀ j, j ∈ s.ans → j < s.first) ∧ (∀ i, i < s.W → 2 ≤ s.ws i → s.ws i - 2 < s.first ∧ s.ws i - 2 ∉ s.ans) ∧ ∀ i k, i < s.W → k < s.W → 2 ≤ s.ws i → s.ws i = s.ws k → i = k)) (hz : s.room = 0 → s.held - 1 = 0) (hr : s.held - 1 ≤ s.room) (h0 : 0 < s.held) (i : Nat) (hi : i < s.W) (hw : s.ws i = 0) : INV1 (GIVES s i s.first) := by
  have h : (s.col ≤ 1 ∧ (s.col = 0 → s.ans.length < s.jobs) ∧ GAUGE s + s.ans.length ≤ s.first ∧ s.ans.Nodup ∧ (∀ j, j ∈ s.ans → j < s.first) ∧ (∀ i, i < s.W → 2 ≤ s.ws i → s.ws i - 2 < s.first ∧ s.ws i - 2 ∉ s.ans) ∧ ∀ i k, i < s.W → k < s.W → 2 ≤ s.ws i → s.ws i = s.ws k → i = k) := by
    rcases h with h | h
    · exact ⟨h.colx, h.open_, h.count, h.nodup, h.old, h.busy, h.one⟩
    · exact h
  obtain ⟨a1, a2, a3, a4, a5, a6, a7⟩ := h
  have g := gauge_upd s i (s.first + 2) hi
  rw [hw, ISB_of (by omega : 2 ≤ s.first + 2)] at g
  have g' : CNT (fun k => ISB (UPD s.ws i (s.first + 2) k)) s.W = GAUGE s + 1 := by simpa [ISB] using g
  refine ⟨by show s.first + 1 + (s.held - 1) ≤ s.jobs; omega, fun hf => ?_, fun hf => ?_, a1, a2, ?_, hz, hr, a4, fun j hj => by have := a5 j hj; show j < s.first + 1; omega, fun k hk hb => ?_, fun k l hk hl hb he => ?_⟩
  · have := next hf
    show s.fd = s.first + 1 + (s.held - 1) + 2 ∧ s.first + 1 + (s.held - 1) < s.jobs
    omega
  · have := nomore hf
    show s.first + 1 + (s.held - 1) = s.jobs
    omega
  · show CNT (fun k => ISB (UPD s.ws i (s.first + 2) k)) s.W + s.ans.length ≤ s.first + 1
    omega
  · show UPD s.ws i (s.first + 2) k - 2 < s.first + 1 ∧ UPD s.ws i (s.first + 2) k - 2 ∉ s.ans
    have hb : 2 ≤ UPD s.ws i (s.first + 2) k := hb
    by_cases e : k = i
    · rw [e, UPD_same]
      refine ⟨by omega, fun hm => ?_⟩
      have := a5 _ hm
      omega
    · rw [UPD_other e] at hb ⊢
      have := a6 k hk hb
      exact ⟨by omega, this.2⟩
  · have hb : 2 ≤ UPD s.ws i (s.first + 2) k := hb
    have he : UPD s.ws i (s.first + 2) k = UPD s.ws i (s.first + 2) l := he
    by_cases e : k = i
    · by_cases e' : l = i
      · omega
      · rw [e, UPD_same, UPD_other e'] at he
        have := a6 l hl (by omega)
        omega
    · by_cases e' : l = i
      · rw [e', UPD_same, UPD_other e] at he
        rw [UPD_other e] at hb
        have := a6 k hk hb
        omega
      · rw [UPD_other e] at hb he
        rw [UPD_other e'] at he
        exact a7 k l hk hl hb he
theorem puts_fed {s : LM} (h : INV1 s) (h2 : 2 ≤ s.fd) : (PUTS s).first + (PUTS s).held ≤ (PUTS s).jobs ∧ (2 ≤ (PUTS s).fd → (PUTS s).fd = (PUTS s).first + (PUTS s).held + 2 ∧ (PUTS s).first + (PUTS s).held < (PUTS s).jobs) ∧ ((PUTS s).fd = 0 → (PUTS s).first + (PUTS s).held = (PUTS s).jobs) := by
  obtain ⟨e, hlt⟩ := h.next h2
  show s.first + (s.held + 1) ≤ s.jobs ∧ (2 ≤ NEXTF (s.fd - 2 + 1) s.jobs → NEXTF (s.fd - 2 + 1) s.jobs = s.first + (s.held + 1) + 2 ∧ s.first + (s.held + 1) < s.jobs) ∧ (NEXTF (s.fd - 2 + 1) s.jobs = 0 → s.first + (s.held + 1) = s.jobs)
  unfold NEXTF
  split
  · refine ⟨?_, ?_, ?_⟩ <;> omega
  · refine ⟨?_, ?_, ?_⟩ <;> omega
/-- somebody leaves. -/
theorem inv1_left {s : LM} (h : INV1 s) (i : Nat) (hi : i < s.W) : INV1 { s with ws := UPD s.ws i 1 } := by
  have g := gauge_upd s i 1 hi
  have g' : CNT (fun k => ISB (UPD s.ws i 1 k)) s.W ≤ GAUGE s := by
    rw [ISB_not (by omega : ¬ 2 ≤ 1)] at g
    simp only [Bool.false_eq_true, if_false] at g
    omega
  refine ⟨h.fed, h.next, h.nomore, h.colx, h.open_, ?_, h.zero, h.fits, h.nodup, h.old, fun k hk hb => ?_, fun k l hk hl hb he => ?_⟩
  · show CNT (fun k => ISB (UPD s.ws i 1 k)) s.W + s.ans.length ≤ s.first
    have := h.count
    omega
  · have hb : 2 ≤ UPD s.ws i 1 k := hb
    show UPD s.ws i 1 k - 2 < s.first ∧ UPD s.ws i 1 k - 2 ∉ s.ans
    by_cases e : k = i
    · rw [e, UPD_same] at hb
      omega
    · rw [UPD_other e] at hb ⊢
      exact h.busy k hk hb
  · have hb : 2 ≤ UPD s.ws i 1 k := hb
    have he : UPD s.ws i 1 k = UPD s.ws i 1 l := he
    by_cases e : k = i
    · rw [e, UPD_same] at hb
      omega
    · by_cases e' : l = i
      · rw [e', UPD_same] at he
        omega
      · rw [UPD_other e] at hb he
        rw [UPD_other e'] at he
        exact h.one k l hk hl hb he
theorem lefts_left (s : LM) (i : Nat) (hi : i < s.W) (hw : s.ws i ≠ 1) : LEFTS { s with ws := UPD s.ws i 1 } = LEFTS s + 1 := by
  have g := lefts_upd s i 1 hi
  rw [ISL_not hw, ISL_of] at g
  show CNT (fun k => ISL (UPD s.ws i 1 k)) s.W = _
  simpa using g
theorem lefts_same (s : LM) (i v : Nat) (hi : i < s.W) (hw : s.ws i ≠ 1) (hv : v ≠ 1) : CNT (fun k => ISL (UPD s.ws i v k)) s.W = LEFTS s := by
  have g := lefts_upd s i v hi
  rw [ISL_not hw, ISL_not hv] at g
  simpa using g
/-- a worker answers. -/
theorem inv1_answers {s : LM} (h : INV1 s) (i : Nat) (hi : i < s.W) (hw : 2 ≤ s.ws i) (hc : s.col ≠ 1) : INV1 (ANSWERS s i (s.ws i - 2)) ∧ GAUGE (ANSWERS s i (s.ws i - 2)) + 1 = GAUGE s := by
  have g := gauge_upd s i 0 hi
  have g' : CNT (fun k => ISB (UPD s.ws i 0 k)) s.W + 1 = GAUGE s := by
    rw [ISB_not (by omega : ¬ 2 ≤ 0), ISB_of hw] at g
    simpa using g
  have hb := h.busy i hi hw
  have hct := h.count
  have hln : (s.ans ++ [s.ws i - 2]).length = s.ans.length + 1 := by rw [List.length_append]; rfl
  have hcol : (ANSWERS s i (s.ws i - 2)).col = if s.ans.length + 1 = s.jobs then 1 else s.col := rfl
  have hcx := h.colx
  refine ⟨⟨h.fed, h.next, h.nomore, ?_, ?_, ?_, h.zero, h.fits, ?_, ?_, fun k hk hb' => ?_, fun k l hk hl hb' he => ?_⟩, g'⟩
  · rw [hcol]
    split <;> omega
  · rw [hcol]
    show _ → (s.ans ++ [s.ws i - 2]).length < s.jobs
    rw [hln]
    have hf := h.fed
    intro e
    have ho := h.open_ (by omega)
    split at e
    · omega
    · omega
  · show CNT (fun k => ISB (UPD s.ws i 0 k)) s.W + (s.ans ++ [s.ws i - 2]).length ≤ s.first
    omega
  · show (s.ans ++ [s.ws i - 2]).Nodup
    rw [List.nodup_append]
    refine ⟨h.nodup, by simp, ?_⟩
    intro a ha b hbm e
    simp at hbm
    subst e
    subst hbm
    exact hb.2 ha
  · intro j hj
    have hj : j ∈ s.ans ++ [s.ws i - 2] := hj
    rw [List.mem_append] at hj
    rcases hj with hj | hj
    · exact h.old j hj
    · simp at hj
      rw [hj]
      exact hb.1
  · have hb' : 2 ≤ UPD s.ws i 0 k := hb'
    show UPD s.ws i 0 k - 2 < s.first ∧ UPD s.ws i 0 k - 2 ∉ s.ans ++ [s.ws i - 2]
    by_cases e : k = i
    · rw [e, UPD_same] at hb'
      omega
    · rw [UPD_other e] at hb' ⊢
      have := h.busy k hk hb'
      refine ⟨this.1, fun hm => ?_⟩
      rw [List.mem_append] at hm
      rcases hm with hm | hm
      · exact this.2 hm
      · simp at hm
        exact e (h.one k i hk hi hb' (by omega))
  · have hb' : 2 ≤ UPD s.ws i 0 k := hb'
    have he : UPD s.ws i 0 k = UPD s.ws i 0 l := he
    by_cases e : k = i
    · rw [e, UPD_same] at hb'
      omega
    · by_cases e' : l = i
      · rw [e', UPD_same] at he
        omega
      · rw [UPD_other e] at hb' he
        rw [UPD_other e'] at he
        exact h.one k l hk hl hb' he
/-- what was true stays true. -/
theorem inv_do {s : LM} (h : INV s) {m : MV} (hm : m ∈ MVS s) : INV (DO s m) := by
  have hb := h.base
  rcases mem_MVS hm with ⟨rfl, h2, h3⟩ | ⟨i, h1, h2, h3, h4, rfl⟩ | ⟨i, h1, h2, h3, h4, rfl⟩ | ⟨rfl, h2⟩ | ⟨i, h1, h2, h3, h4, rfl⟩ | ⟨i, h1, h2, h3, rfl⟩ | ⟨h1, h2, rfl⟩ | ⟨h1, h2, rfl⟩ | ⟨i, h1, h2, h3, rfl⟩
  · refine counted h (t := PUTS s) (inv1_puts hb h2 h3) rfl rfl rfl rfl ?_
    show FL (NEXTF _ _) + LEFTS s + (if s.room = 0 then 0 else s.first + (s.held + 1)) + s.first + s.ans.length + CQ s = FL s.fd + LEFTS s + (if s.room = 0 then 0 else s.first + s.held) + s.first + s.ans.length + CQ s + 1
    rw [FL_zero (NEXTF_ne _ _), FL_zero (by omega), if_neg (by omega), if_neg (by omega)]
    omega
  · have hz := h.zero h3
    obtain ⟨e, hlt⟩ := h.next h4
    have ej : s.fd - 2 = (PUTS s).first := by show s.fd - 2 = s.first; omega
    have eD : DO1 s (2, (i : Int), s.fd - 2) = GIVES (PUTS s) i (PUTS s).first := by
      show GIVES (if s.room = 0 then PUTS s else s) (i : Int).toNat (s.fd - 2) = _
      rw [if_pos h3, Int.toNat_natCast, ej]
    have pf := puts_fed hb h4
    have hI : INV1 (GIVES (PUTS s) i (PUTS s).first) := inv1_gives pf.1 pf.2.1 pf.2.2 (.inr ⟨hb.colx, hb.open_, hb.count, hb.nodup, hb.old, hb.busy, hb.one⟩) (fun _ => by show s.held + 1 - 1 = 0; omega) (by show s.held + 1 - 1 ≤ s.room; omega) (by show 0 < s.held + 1; omega) i h1 h2
    show INV (COUNTED (DO1 s (2, (i : Int), s.fd - 2)))
    rw [eD]
    refine counted h hI rfl rfl rfl rfl ?_
    show FL (NEXTF _ _) + CNT (fun k => ISL (UPD s.ws i (s.first + 2) k)) s.W + (if s.room = 0 then 0 else s.first + 1 + (s.held + 1 - 1)) + (s.first + 1) + s.ans.length + CQ s = FL s.fd + LEFTS s + (if s.room = 0 then 0 else s.first + s.held) + s.first + s.ans.length + CQ s + 1
    rw [FL_zero (NEXTF_ne _ _), FL_zero (by omega), if_pos h3, if_pos h3, lefts_same s i _ h1 (by omega) (by omega)]
    omega
  · have eD : DO1 s (2, (i : Int), s.first) = GIVES s i s.first := by
      show GIVES (if s.room = 0 then PUTS s else s) (i : Int).toNat s.first = _
      rw [if_neg h3, Int.toNat_natCast]
    have hI : INV1 (GIVES s i s.first) := inv1_gives hb.fed hb.next hb.nomore (.inl hb) (fun e => absurd e h3) (by have := hb.fits; omega) h4 i h1 h2
    show INV (COUNTED (DO1 s (2, (i : Int), s.first)))
    rw [eD]
    refine counted h hI rfl rfl rfl rfl ?_
    show FL s.fd + CNT (fun k => ISL (UPD s.ws i (s.first + 2) k)) s.W + (if s.room = 0 then 0 else s.first + 1 + (s.held - 1)) + (s.first + 1) + s.ans.length + CQ s = FL s.fd + LEFTS s + (if s.room = 0 then 0 else s.first + s.held) + s.first + s.ans.length + CQ s + 1
    rw [if_neg h3, if_neg h3, lefts_same s i _ h1 (by omega) (by omega)]
    omega
  · refine counted h (t := { s with fd := 1 }) ⟨hb.fed, (fun e => (no21 e).elim), (fun e => (no10 e).elim), hb.colx, hb.open_, hb.count, hb.zero, hb.fits, hb.nodup, hb.old, hb.busy, hb.one⟩ rfl rfl rfl rfl ?_
    show FL 1 + LEFTS s + ROOMY s + s.first + s.ans.length + CQ s = FL s.fd + LEFTS s + ROOMY s + s.first + s.ans.length + CQ s + 1
    rw [FL_zero (by omega : s.fd ≠ 1), FL_one]
    omega
  · have eD : DO1 s (4, (i : Int), 0) = { s with ws := UPD s.ws i 1 } := by
      show LEAVES s (i : Int) = _
      unfold LEAVES
      rw [if_neg (by omega), if_neg (by omega), Int.toNat_natCast]
    show INV (COUNTED (DO1 s (4, (i : Int), 0)))
    rw [eD]
    refine counted h (inv1_left hb i h1) rfl rfl rfl rfl ?_
    show FL s.fd + LEFTS { s with ws := UPD s.ws i 1 } + ROOMY s + s.first + s.ans.length + CQ s = FL s.fd + LEFTS s + ROOMY s + s.first + s.ans.length + CQ s + 1
    rw [lefts_left s i h1 (by omega)]
    omega
  · have ha := inv1_answers hb i h1 h2 h3
    refine counted h (t := ANSWERS s i (s.ws i - 2)) ha.1 rfl rfl rfl rfl ?_
    have hq : CQ (ANSWERS s i (s.ws i - 2)) = 0 := by
      show (if (if s.ans.length + 1 = s.jobs then 1 else s.col) = 1 ∧ (s.ans ++ [s.ws i - 2]).length ≠ s.jobs then 1 else 0) = 0
      rw [List.length_append]
      show (if (if s.ans.length + 1 = s.jobs then 1 else s.col) = 1 ∧ s.ans.length + 1 ≠ s.jobs then 1 else 0) = 0
      by_cases e : s.ans.length + 1 = s.jobs
      · rw [if_neg (fun x => x.2 e)]
      · rw [if_neg e, if_neg (fun x => h3 x.1)]
    show FL s.fd + CNT (fun k => ISL (UPD s.ws i 0 k)) s.W + ROOMY s + s.first + (s.ans ++ [s.ws i - 2]).length + CQ (ANSWERS s i (s.ws i - 2)) = FL s.fd + LEFTS s + ROOMY s + s.first + s.ans.length + CQ s + 1
    rw [hq, CQ_open h3, lefts_same s i 0 h1 (by omega) (by omega), List.length_append]
    show _ + (s.ans.length + 1) + 0 = _
    omega
  · refine counted h (t := { s with fd := 1 }) ⟨hb.fed, (fun e => (no21 e).elim), (fun e => (no10 e).elim), hb.colx, hb.open_, hb.count, hb.zero, hb.fits, hb.nodup, hb.old, hb.busy, hb.one⟩ rfl rfl rfl rfl ?_
    show FL 1 + LEFTS s + ROOMY s + s.first + s.ans.length + CQ s = FL s.fd + LEFTS s + ROOMY s + s.first + s.ans.length + CQ s + 1
    rw [FL_zero h2, FL_one]
    omega
  · have hc0 : s.col = 0 := by have := hb.colx; omega
    refine counted h (t := { s with col := 1 }) ⟨hb.fed, hb.next, hb.nomore, Nat.le_refl _, (fun e => (no10 e).elim), hb.count, hb.zero, hb.fits, hb.nodup, hb.old, hb.busy, hb.one⟩ rfl rfl rfl rfl ?_
    show FL s.fd + LEFTS s + ROOMY s + s.first + s.ans.length + (if 1 = 1 ∧ s.ans.length ≠ s.jobs then 1 else 0) = FL s.fd + LEFTS s + ROOMY s + s.first + s.ans.length + CQ s + 1
    have := hb.open_ hc0
    rw [CQ_open h2, if_pos ⟨rfl, by omega⟩]
  · have eD : DO1 s (6, (i : Int), 0) = { s with ws := UPD s.ws i 1 } := by
      show LEAVES s (i : Int) = _
      unfold LEAVES
      rw [if_neg (by omega), if_neg (by omega), Int.toNat_natCast]
    show INV (COUNTED (DO1 s (6, (i : Int), 0)))
    rw [eD]
    refine counted h (inv1_left hb i h1) rfl rfl rfl rfl ?_
    show FL s.fd + LEFTS { s with ws := UPD s.ws i 1 } + ROOMY s + s.first + s.ans.length + CQ s = FL s.fd + LEFTS s + ROOMY s + s.first + s.ans.length + CQ s + 1
    rw [lefts_left s i h1 h2]
    omega
/-- what no move turns. -/
theorem do_same (s : LM) (m : MV) : (DO s m).W = s.W ∧ (DO s m).jobs = s.jobs ∧ (DO s m).room = s.room ∧ (DO s m).canc = s.canc ∧ (DO s m).made = s.made + 1 := by
  unfold DO COUNTED DO1 LEAVES GIVES
  dsimp only
  repeat' split
  all_goals exact ⟨rfl, rfl, rfl, rfl, rfl⟩
end Go.Proofs.Ytmgocdjmjnkbmaa
