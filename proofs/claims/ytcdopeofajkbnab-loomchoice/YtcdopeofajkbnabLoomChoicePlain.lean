/- Runs with a cancel ahead of all: one in which nobody quits as long as jobs are out, one in which the collector quits first. -/
import Derived.Test.YtcdopeofajkbnabLoomGoes
namespace Go.Proofs.Ytcdopeofajkbnab

/-- q: does the collector quit? -/
structure CH (q : Bool) (s : LM) : Prop where
  canc : s.canc = true
  how : (s.col = 0 ∧ NQ s) ∨ (s.col = 1 ∧ (q = false → s.ans.length = s.jobs) ∧ (q = true → s.ans.length ≠ s.jobs))
/-- the move that is taken as long as the collector is there. -/
def GOOD (q : Bool) (s : LM) (m : MV) : Prop := s.col = 0 → (q = false → m.1 ≠ 6) ∧ (q = true → m.1 = 6 ∧ m.2.1 = -1)
theorem ch_new (q : Bool) (n jobs room : Nat) (hj : 0 < jobs) : CH q { jobs := jobs, room := room, W := n, canc := true, fd := NEXTF 0 jobs, ws := fun _ => 0, col := if jobs = 0 then 1 else 0, first := 0, held := 0, made := 0, top := 0, ans := [] } := by
  refine ⟨rfl, .inl ⟨if_neg (by omega), ?_⟩⟩
  exact nq_canc (nq_new n jobs room)
theorem done_stays {s : LM} (hc : s.col = 1) {m : MV} (hm : m ∈ MVS s) : (DO s m).col = 1 ∧ (DO s m).ans = s.ans := by
  rcases mem_MVS hm with ⟨rfl, h2, h3⟩ | ⟨i, h1, h2, h3, h4, rfl⟩ | ⟨i, h1, h2, h3, h4, rfl⟩ | ⟨rfl, h2⟩ | ⟨i, h1, h2, h3, h4, rfl⟩ | ⟨i, h1, h2, h3, rfl⟩ | ⟨h1, h2, rfl⟩ | ⟨h1, h2, rfl⟩ | ⟨i, h1, h2, h3, rfl⟩
  · exact ⟨hc, rfl⟩
  · have eD : DO1 s (2, (i : Int), s.fd - 2) = GIVES (PUTS s) i (s.fd - 2) := by
      show GIVES (if s.room = 0 then PUTS s else s) (i : Int).toNat (s.fd - 2) = _
      rw [if_pos h3, Int.toNat_natCast]
    unfold DO
    rw [eD]
    exact ⟨hc, rfl⟩
  · have eD : DO1 s (2, (i : Int), s.first) = GIVES s i s.first := by
      show GIVES (if s.room = 0 then PUTS s else s) (i : Int).toNat s.first = _
      rw [if_neg h3, Int.toNat_natCast]
    unfold DO
    rw [eD]
    exact ⟨hc, rfl⟩
  · exact ⟨hc, rfl⟩
  · have eD : DO1 s (4, (i : Int), 0) = { s with ws := UPD s.ws i 1 } := by
      show LEAVES s (i : Int) = _
      unfold LEAVES
      rw [if_neg (by omega), if_neg (by omega), Int.toNat_natCast]
    unfold DO
    rw [eD]
    exact ⟨hc, rfl⟩
  · exact absurd hc h3
  · exact ⟨hc, rfl⟩
  · exact ⟨rfl, rfl⟩
  · have eD : DO1 s (6, (i : Int), 0) = { s with ws := UPD s.ws i 1 } := by
      show LEAVES s (i : Int) = _
      unfold LEAVES
      rw [if_neg (by omega), if_neg (by omega), Int.toNat_natCast]
    unfold DO
    rw [eD]
    exact ⟨hc, rfl⟩
theorem ch_do {q : Bool} {s : LM} (h : INV s) (hc : CH q s) {m : MV} (hm : m ∈ MVS s) (hg : GOOD q s m) : CH q (DO s m) := by
  have hs := do_same s m
  have hi := inv_do h hm
  refine ⟨hs.2.2.2.1.trans hc.canc, ?_⟩
  rcases hc.how with ⟨h0, hn⟩ | ⟨h1, h2, h3⟩
  · cases q with
    | false =>
      have hq := nq_do h hn hm ((hg h0).1 rfl)
      have hcx := hi.colx
      rcases (by omega : (DO s m).col = 0 ∨ (DO s m).col = 1) with e | e
      · exact .inl ⟨e, hq⟩
      · exact .inr ⟨e, fun _ => hq.coll e, fun e => by cases e⟩
    | true =>
      obtain ⟨g1, g2⟩ := (hg h0).2 rfl
      have ho := h.open_ h0
      have e : (DO s m).col = 1 ∧ (DO s m).ans = s.ans := by
        obtain ⟨k, x, j⟩ := m
        have g1 : k = 6 := g1
        have g2 : x = -1 := g2
        subst g1
        subst g2
        exact ⟨rfl, rfl⟩
      refine .inr ⟨e.1, (fun e => by cases e), fun _ => ?_⟩
      rw [e.2, hs.2.1]
      omega
  · have e := done_stays h1 hm
    refine .inr ⟨e.1, ?_, ?_⟩
    · rw [e.2, hs.2.1]
      exact h2
    · rw [e.2, hs.2.1]
      exact h3
/-- as long as the collector is there and nobody has quit, the first move is none of quitting. -/
theorem first_good {s : LM} (h : INV s) (hn : NQ s) (hW : 1 ≤ s.W) (h0 : s.col = 0) {m : MV} (hm : (MVS s)[0]? = some m) : m.1 ≠ 6 := by
  have key : MV1 s ++ MV2 s ++ MV3 s ++ MV4 s ++ MV5 s ≠ [] := by
    intro e
    simp only [List.append_eq_nil_iff] at e
    have := quiet_gone h hn hW e.1.1.1.1 e.1.1.1.2 e.1.1.2 e.1.2 e.2
    have := ((gone_all s).1 this).2.1
    omega
  have hmem : m ∈ MV1 s ++ MV2 s ++ MV3 s ++ MV4 s ++ MV5 s := by
    unfold MVS at hm
    cases hl : MV1 s ++ MV2 s ++ MV3 s ++ MV4 s ++ MV5 s with
    | nil => exact absurd hl key
    | cons a l =>
      rw [hl] at hm
      simp at hm
      rw [hm]
      exact List.mem_cons_self
  have h2 : m ∈ MVS { s with canc := false } := by
    show m ∈ MV1 s ++ MV2 s ++ MV3 s ++ MV4 s ++ MV5 s ++ _
    exact List.mem_append_left _ hmem
  exact nocanc (s := { s with canc := false }) rfl h2
theorem coll_quits {s : LM} (hc : s.canc = true) (h0 : s.col = 0) : ∃ j : Nat, (MVS s)[j]? = some ((6, -1, 0) : MV) := by
  have hmem : ((6, -1, 0) : MV) ∈ MVS s := by
    unfold MVS
    refine List.mem_append_right _ ?_
    unfold MV6
    rw [if_pos hc]
    unfold QTS
    refine List.mem_append_left _ (List.mem_append_right _ ?_)
    rw [if_neg (by omega)]
    exact List.mem_cons_self
  exact List.getElem?_of_mem hmem
end Go.Proofs.Ytcdopeofajkbnab
