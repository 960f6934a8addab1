/- As long as somebody is there, there is a move; how many moves there are. -/
import Derived.Test.YtmgocdjmjnkbmaaLoomInv
namespace Go.Proofs.Ytmgocdjmjnkbmaa

theorem gone_all (s : LM) : GONE s = s.W + 2 ↔ s.fd = 1 ∧ s.col = 1 ∧ ∀ i, i < s.W → s.ws i = 1 := by
  have hl := lefts_le s
  have f1 : FL s.fd ≤ 1 := by unfold FL; split <;> omega
  have f2 : FL s.col ≤ 1 := by unfold FL; split <;> omega
  constructor
  · intro h
    unfold GONE at h
    refine ⟨?_, ?_, ?_⟩
    · by_cases e : s.fd = 1
      · exact e
      · rw [FL_zero e] at h
        omega
    · by_cases e : s.col = 1
      · exact e
      · rw [FL_zero e] at h
        omega
    · intro i hi
      have := CNT_all (p := fun i => ISL (s.ws i)) s.W (by show LEFTS s = s.W; omega) i hi
      exact of_decide_eq_true this
  · rintro ⟨h1, h2, h3⟩
    have : LEFTS s = s.W := CNT_full s.W (fun i hi => by show ISL (s.ws i) = true; rw [h3 i hi]; rfl)
    unfold GONE
    rw [h1, h2, this, FL_one]
    omega
theorem gone_none {s : LM} (h : GONE s = s.W + 2) : MVS s = [] := by
  obtain ⟨h1, h2, h3⟩ := (gone_all s).1 h
  rw [List.eq_nil_iff_forall_not_mem]
  intro m hm
  rcases mem_MVS hm with ⟨_, q2, _⟩ | ⟨i, q1, q2, _⟩ | ⟨i, q1, q2, _⟩ | ⟨_, q2⟩ | ⟨i, q1, q2, _⟩ | ⟨i, q1, q2, _⟩ | ⟨_, q2, _⟩ | ⟨_, q2, _⟩ | ⟨i, q1, q2, _⟩
  · omega
  · have := h3 i q1; omega
  · have := h3 i q1; omega
  · omega
  · have := h3 i q1; omega
  · have := h3 i q1; omega
  · exact q2 h1
  · exact q2 h2
  · exact q2 (h3 i q1)
theorem PK_nil {f : Nat → Option MV} {n : Nat} (h : PK f n = []) {i : Nat} (hi : i < n) : f i = none := by
  cases e : f i with
  | none => rfl
  | some m =>
    have : m ∈ PK f n := PK_mem.2 ⟨i, hi, e⟩
    rw [h] at this
    cases this
theorem off_nil {s : LM} {k j : Nat} (h : OFF s k j = []) {i : Nat} (hi : i < s.W) : s.ws i ≠ 0 := by
  have := PK_nil h hi
  intro e
  rw [if_pos e] at this
  cases this
theorem ofb_nil {s : LM} (h : OFB s = []) {i : Nat} (hi : i < s.W) : ¬ 2 ≤ s.ws i := by
  have := PK_nil h hi
  intro e
  rw [if_pos e] at this
  cases this
theorem gauge_zero {s : LM} (h : ∀ i, i < s.W → ¬ 2 ≤ s.ws i) : GAUGE s = 0 := CNT_zero s.W (fun i hi => ISB_not (h i hi))
theorem gauge_pos {s : LM} {i : Nat} (hi : i < s.W) (h : 2 ≤ s.ws i) : 0 < GAUGE s := CNT_pos (p := fun i => ISB (s.ws i)) s.W hi (ISB_of h)
theorem mvs_nil {s : LM} (h : MVS s = []) : MV1 s = [] ∧ MV2 s = [] ∧ MV3 s = [] ∧ MV4 s = [] ∧ MV5 s = [] ∧ MV6 s = [] := by
  unfold MVS at h
  simp only [List.append_eq_nil_iff] at h
  exact ⟨h.1.1.1.1.1, h.1.1.1.1.2, h.1.1.1.2, h.1.1.2, h.1.2, h.2⟩
/-- without the quits: if nobody has quit, and no other move can be made, all have left. -/
theorem quiet_gone {s : LM} (h : INV s) (hn : NQ s) (hW : 1 ≤ s.W) (h1 : MV1 s = []) (h2 : MV2 s = []) (h3 : MV3 s = []) (h4 : MV4 s = []) (h5 : MV5 s = []) : GONE s = s.W + 2 := by
  have hb := h.base
  have i5 : s.col ≠ 1 → ∀ i, i < s.W → ¬ 2 ≤ s.ws i := fun hc i hi => by
    unfold MV5 at h5
    rw [if_neg hc] at h5
    exact ofb_nil h5 hi
  have i2 : ∀ j, OFFERED s = some j → ∀ i, i < s.W → s.ws i ≠ 0 := fun j hj i hi => by
    unfold MV2 at h2
    rw [hj] at h2
    exact off_nil h2 hi
  have hct := hn.count
  have hfd := hb.fed
  rcases (by omega : 2 ≤ s.fd ∨ s.fd = 0 ∨ s.fd = 1) with hf | hf | hf
  · exfalso
    obtain ⟨e, hlt⟩ := hb.next hf
    have hh : ¬ s.held < s.room := fun e => by
      unfold MV1 at h1
      rw [if_pos ⟨hf, e⟩] at h1
      cases h1
    have ho : ∃ j, OFFERED s = some j := by
      unfold OFFERED
      by_cases hr : s.room = 0
      · rw [if_pos hr, if_pos hf]
        exact ⟨_, rfl⟩
      · rw [if_neg hr, if_pos (by omega)]
        exact ⟨_, rfl⟩
    obtain ⟨j, ho⟩ := ho
    have a0 := i2 j ho 0 (by omega)
    have a1 : s.ws 0 ≠ 1 := fun e => by have := (hn.wl 0 (by omega) e).1; omega
    have a2 : 2 ≤ s.ws 0 := by omega
    have := gauge_pos (i := 0) (by omega) a2
    by_cases hc : s.col = 1
    · have := hn.coll hc
      omega
    · exact i5 hc 0 (by omega) a2
  · unfold MV3 at h3
    rw [if_pos hf] at h3
    cases h3
  · have hj := hn.fdl hf
    by_cases hh : s.held = 0
    · have i4 : ∀ i, i < s.W → s.ws i ≠ 0 := fun i hi => by
        unfold MV4 at h4
        rw [if_pos ⟨hf, hh⟩] at h4
        exact off_nil h4 hi
      have i6 : ∀ i, i < s.W → ¬ 2 ≤ s.ws i := fun i hi hb2 => by
        by_cases hc : s.col = 1
        · have := hn.coll hc
          have := gauge_pos hi hb2
          omega
        · exact i5 hc i hi hb2
      have hg := gauge_zero i6
      refine (gone_all s).2 ⟨hf, ?_, fun i hi => by have := i4 i hi; have := i6 i hi; omega⟩
      have hcx := hb.colx
      by_cases hc : s.col = 0
      · have := hb.open_ hc
        omega
      · omega
    · exfalso
      have hr : s.room ≠ 0 := fun e => hh (hb.zero e)
      have ho : OFFERED s = some s.first := by
        unfold OFFERED
        rw [if_neg hr, if_pos (by omega)]
      have a0 := i2 _ ho 0 (by omega)
      have a1 : s.ws 0 ≠ 1 := fun e => hh (hn.wl 0 (by omega) e).2
      have a2 : 2 ≤ s.ws 0 := by omega
      have := gauge_pos (i := 0) (by omega) a2
      by_cases hc : s.col = 1
      · have := hn.coll hc
        omega
      · exact i5 hc 0 (by omega) a2
theorem none_gone {s : LM} (h : INV s) (hn : s.canc = false → NQ s) (hW : 1 ≤ s.W) (hm : MVS s = []) : GONE s = s.W + 2 := by
  obtain ⟨h1, h2, h3, h4, h5, h6⟩ := mvs_nil hm
  cases hc : s.canc with
  | false => exact quiet_gone h (hn hc) hW h1 h2 h3 h4 h5
  | true =>
    unfold MV6 at h6
    rw [if_pos hc] at h6
    unfold QTS at h6
    simp only [List.append_eq_nil_iff] at h6
    obtain ⟨⟨a1, a2⟩, a3⟩ := h6
    refine (gone_all s).2 ⟨?_, ?_, fun i hi => ?_⟩
    · by_cases e : s.fd = 1
      · exact e
      · rw [if_neg e] at a1
        cases a1
    · by_cases e : s.col = 1
      · exact e
      · rw [if_neg e] at a2
        cases a2
    · have := PK_nil a3 hi
      by_cases e : s.ws i = 1
      · exact e
      · rw [if_neg e] at this
        cases this
/-- nobody has quit, and nobody quits. -/
theorem nq_do {s : LM} (h : INV s) (hn : NQ s) {m : MV} (hm : m ∈ MVS s) (h6 : m.1 ≠ 6) : NQ (DO s m) := by
  have hb := h.base
  have hct := hn.count
  rcases mem_MVS hm with ⟨rfl, h2, h3⟩ | ⟨i, h1, h2, h3, h4, rfl⟩ | ⟨i, h1, h2, h3, h4, rfl⟩ | ⟨rfl, h2⟩ | ⟨i, h1, h2, h3, h4, rfl⟩ | ⟨i, h1, h2, h3, rfl⟩ | ⟨h1, h2, rfl⟩ | ⟨h1, h2, rfl⟩ | ⟨i, h1, h2, h3, rfl⟩
  · exact ⟨fun e => absurd e (NEXTF_ne _ _), fun i hi e => by have := (hn.wl i hi e).1; omega, hn.count, hn.coll⟩
  · have eD : DO1 s (2, (i : Int), s.fd - 2) = GIVES (PUTS s) i (s.fd - 2) := by
      show GIVES (if s.room = 0 then PUTS s else s) (i : Int).toNat (s.fd - 2) = _
      rw [if_pos h3, Int.toNat_natCast]
    show NQ (COUNTED (DO1 s (2, (i : Int), s.fd - 2)))
    rw [eD]
    have g := gauge_upd s i (s.fd - 2 + 2) h1
    rw [h2, ISB_of (by omega : 2 ≤ s.fd - 2 + 2), ISB_not (by omega : ¬ 2 ≤ 0)] at g
    have g' : CNT (fun k => ISB (UPD s.ws i (s.fd - 2 + 2) k)) s.W = GAUGE s + 1 := by simpa using g
    refine ⟨fun e => absurd e (NEXTF_ne _ _), fun k hk e => ?_, ?_, hn.coll⟩
    · have e : UPD s.ws i (s.fd - 2 + 2) k = 1 := e
      by_cases ek : k = i
      · rw [ek, UPD_same] at e
        omega
      · rw [UPD_other ek] at e
        have := (hn.wl k hk e).1
        omega
    · show CNT (fun k => ISB (UPD s.ws i (s.fd - 2 + 2) k)) s.W + s.ans.length = s.first + 1
      omega
  · have eD : DO1 s (2, (i : Int), s.first) = GIVES s i s.first := by
      show GIVES (if s.room = 0 then PUTS s else s) (i : Int).toNat s.first = _
      rw [if_neg h3, Int.toNat_natCast]
    show NQ (COUNTED (DO1 s (2, (i : Int), s.first)))
    rw [eD]
    have g := gauge_upd s i (s.first + 2) h1
    rw [h2, ISB_of (by omega : 2 ≤ s.first + 2), ISB_not (by omega : ¬ 2 ≤ 0)] at g
    have g' : CNT (fun k => ISB (UPD s.ws i (s.first + 2) k)) s.W = GAUGE s + 1 := by simpa using g
    refine ⟨fun e => ?_, fun k hk e => ?_, ?_, hn.coll⟩
    · have := hn.fdl e
      show s.first + 1 + (s.held - 1) = s.jobs
      omega
    · have e : UPD s.ws i (s.first + 2) k = 1 := e
      by_cases ek : k = i
      · rw [ek, UPD_same] at e
        omega
      · rw [UPD_other ek] at e
        have := (hn.wl k hk e).2
        omega
    · show CNT (fun k => ISB (UPD s.ws i (s.first + 2) k)) s.W + s.ans.length = s.first + 1
      omega
  · have hj := hb.nomore h2
    exact ⟨fun _ => hj, fun i hi e => by have := (hn.wl i hi e).1; omega, hn.count, hn.coll⟩
  · have eD : DO1 s (4, (i : Int), 0) = { s with ws := UPD s.ws i 1 } := by
      show LEAVES s (i : Int) = _
      unfold LEAVES
      rw [if_neg (by omega), if_neg (by omega), Int.toNat_natCast]
    show NQ (COUNTED (DO1 s (4, (i : Int), 0)))
    rw [eD]
    have g := gauge_upd s i 1 h1
    rw [h2, ISB_not (by omega : ¬ 2 ≤ 1), ISB_not (by omega : ¬ 2 ≤ 0)] at g
    have g' : CNT (fun k => ISB (UPD s.ws i 1 k)) s.W = GAUGE s := by simpa using g
    refine ⟨hn.fdl, fun k hk e => ⟨h3, h4⟩, ?_, hn.coll⟩
    show CNT (fun k => ISB (UPD s.ws i 1 k)) s.W + s.ans.length = s.first
    omega
  · have ha := inv1_answers hb i h1 h2 h3
    refine ⟨hn.fdl, fun k hk e => ?_, ?_, fun e => ?_⟩
    · have e : UPD s.ws i 0 k = 1 := e
      by_cases ek : k = i
      · rw [ek, UPD_same] at e
        omega
      · rw [UPD_other ek] at e
        exact hn.wl k hk e
    · show GAUGE (ANSWERS s i (s.ws i - 2)) + (s.ans ++ [s.ws i - 2]).length = s.first
      rw [List.length_append]
      show _ + (s.ans.length + 1) = _
      omega
    · have e : (if s.ans.length + 1 = s.jobs then 1 else s.col) = 1 := e
      show (s.ans ++ [s.ws i - 2]).length = s.jobs
      rw [List.length_append]
      show s.ans.length + 1 = s.jobs
      split at e
      · assumption
      · exact absurd e h3
  · exact absurd rfl h6
  · exact absurd rfl h6
  · exact absurd rfl h6
theorem nocanc {s : LM} (hc : s.canc = false) {m : MV} (hm : m ∈ MVS s) : m.1 ≠ 6 := by
  rcases mem_MVS hm with ⟨rfl, h2, h3⟩ | ⟨i, h1, h2, h3, h4, rfl⟩ | ⟨i, h1, h2, h3, h4, rfl⟩ | ⟨rfl, h2⟩ | ⟨i, h1, h2, h3, h4, rfl⟩ | ⟨i, h1, h2, h3, rfl⟩ | ⟨h1, h2, rfl⟩ | ⟨h1, h2, rfl⟩ | ⟨i, h1, h2, h3, rfl⟩ <;> first | (rw [hc] at h1; cases h1; done) | (rw [hc] at h3; cases h3; done) | simp
theorem nq_new (n jobs room : Nat) : NQ { jobs := jobs, room := room, W := n, canc := false, fd := NEXTF 0 jobs, ws := fun _ => 0, col := if jobs = 0 then 1 else 0, first := 0, held := 0, made := 0, top := 0, ans := [] } := by
  refine ⟨fun e => absurd e (NEXTF_ne _ _), fun i _ e => absurd (show (0 : Nat) = 1 from e) (by decide), ?_, ?_⟩
  · show CNT (fun _ => ISB 0) n + 0 = 0
    have e : CNT (fun _ => ISB 0) n = 0 := CNT_zero n (fun _ _ => rfl)
    rw [e]
  · show (if jobs = 0 then 1 else 0) = 1 → 0 = jobs
    split
    · intro _
      omega
    · intro e
      omega
/-- how many moves were made, at most, and in the end. -/
theorem made_most {s : LM} (h : INV s) : s.made ≤ s.W + 1 + (if s.room = 0 then 2 * s.jobs else 3 * s.jobs) := by
  have hb := h.base
  have f1 : FL s.fd ≤ 1 := by unfold FL; split <;> omega
  have hl := lefts_le s
  have h1 := hb.fed
  have h2 := hb.count
  have hq : s.ans.length + CQ s ≤ s.jobs := by
    unfold CQ
    split
    · rename_i e
      omega
    · omega
  rw [h.made]
  unfold ROOMY
  split <;> omega
theorem made_end {s : LM} (h : INV s) (hn : NQ s) (hW : 1 ≤ s.W) (hg : GONE s = s.W + 2) : s.made = s.W + 1 + (if s.room = 0 then 2 * s.jobs else 3 * s.jobs) ∧ s.ans.length = s.jobs := by
  obtain ⟨g1, g2, g3⟩ := (gone_all s).1 hg
  have hb := h.base
  have hj := hn.fdl g1
  have hh := (hn.wl 0 (by omega) (g3 0 (by omega))).2
  have hgz : GAUGE s = 0 := gauge_zero (fun i hi => by have := g3 i hi; omega)
  have hct := hn.count
  have ha : s.ans.length = s.jobs := by omega
  have hl : LEFTS s = s.W := CNT_full s.W (fun i hi => by show ISL (s.ws i) = true; rw [g3 i hi]; rfl)
  refine ⟨?_, ha⟩
  rw [h.made, g1, hl, FL_one]
  have hq : CQ s = 0 := if_neg (fun e => e.2 ha)
  rw [hq]
  unfold ROOMY
  split <;> omega
/-- the cancel turns nothing of it. -/
theorem inv_canc {s : LM} (h : INV s) : INV { s with canc := true } := ⟨h.fed, h.next, h.nomore, h.colx, h.open_, h.count, h.zero, h.fits, h.made, h.topw, h.nodup, h.old, h.busy, h.one⟩
theorem nq_canc {s : LM} (h : NQ s) : NQ { s with canc := true } := ⟨h.fdl, h.wl, h.count, h.coll⟩
end Go.Proofs.Ytmgocdjmjnkbmaa
