/- A run in which whoever can be handed a job is. -/
import Derived.Test.YtcdopeofajkbnaaLoomGoes
namespace Go.Proofs.Ytcdopeofajkbnaa

/-- G workers hold a job, nobody has left, nothing has been answered. -/
structure TP (s : LM) (G : Nat) : Prop where
  gauge : GAUGE s = G
  first : s.first = G
  here : ∀ i, i < s.W → s.ws i ≠ 1
  canc : s.canc = false
  fd : s.fd ≠ 1
  held : s.held ≤ 1
  top : s.top = G
theorem tp_new (n jobs room : Nat) : TP { jobs := jobs, room := room, W := n, canc := false, fd := NEXTF 0 jobs, ws := fun _ => 0, col := if jobs = 0 then 1 else 0, first := 0, held := 0, made := 0, top := 0, ans := [] } 0 :=
  ⟨CNT_zero n (fun _ _ => rfl), rfl, fun _ _ => by show (0 : Nat) ≠ 1; omega, rfl, NEXTF_ne _ _, by show (0 : Nat) ≤ 1; omega, rfl⟩
theorem cnt_ne {p : Nat → Bool} : ∀ n, CNT p n < n → ∃ i, i < n ∧ p i = false
  | 0, h => by omega
  | n + 1, h => by
    by_cases hp : p n = true
    · unfold CNT at h
      rw [if_pos hp] at h
      obtain ⟨i, hi, h⟩ := cnt_ne (p := p) n (by omega)
      exact ⟨i, by omega, h⟩
    · exact ⟨n, by omega, by cases e : p n <;> simp_all⟩
/-- the first that is Put, up to i. -/
def KF (l : List MV) : Nat → Int
  | 0 => -1
  | i + 1 => if KF l i < 0 ∧ (l.getD i (0, 0, 0)).1 = 1 then (i : Int) else KF l i
theorem KF_zero {l : List MV} (h : (l.getD 0 (0, 0, 0)).1 = 1) : ∀ i, 0 < i → KF l i = 0
  | 0, h0 => by omega
  | 1, _ => by
    show (if (-1 : Int) < 0 ∧ (l.getD 0 (0, 0, 0)).1 = 1 then ((0 : Nat) : Int) else -1) = 0
    rw [if_pos ⟨by omega, h⟩]
    rfl
  | i + 2, _ => by
    have := KF_zero h (i + 1) (by omega)
    show (if KF l (i + 1) < 0 ∧ _ then _ else KF l (i + 1)) = 0
    rw [this, if_neg (fun e => by have := e.1; omega)]
theorem tp_put {s : LM} {G : Nat} (ht : TP s G) (h0 : s.held = 0) : TP (DO s (1, 0, s.fd - 2)) G := by
  refine ⟨ht.gauge, ht.first, ht.here, ht.canc, NEXTF_ne _ _, by show s.held + 1 ≤ 1; omega, ?_⟩
  show max s.top (GAUGE (PUTS s)) = G
  have e : GAUGE (PUTS s) = GAUGE s := rfl
  rw [e, ht.top, ht.gauge, Nat.max_self]
theorem tp_give {s : LM} {G : Nat} (h : INV s) (ht : TP s G) {m : MV} (hm : m ∈ MVS s) (h2 : m.1 = 2) : TP (DO s m) (G + 1) ∧ (DO s m).held ≤ s.held := by
  have hb := h.base
  have key : ∀ (t : LM) (i j : Nat), i < s.W → s.ws i = 0 → t.W = s.W → t.ws = s.ws → t.first = s.first → t.canc = s.canc → t.fd ≠ 1 → t.held ≤ s.held + 1 → t.top = s.top → TP (COUNTED (GIVES t i j)) (G + 1) ∧ (COUNTED (GIVES t i j)).held ≤ s.held := by
    intro t i j hi hw e1 e2 e3 e4 e5 e6 e7
    have g := gauge_upd s i (j + 2) hi
    rw [hw, ISB_of (by omega : 2 ≤ j + 2), ISB_not (by omega : ¬ 2 ≤ 0)] at g
    have g' : GAUGE (GIVES t i j) = G + 1 := by
      show CNT (fun k => ISB (UPD t.ws i (j + 2) k)) t.W = G + 1
      rw [e1, e2, ← ht.gauge]
      simpa using g
    have hh := ht.held
    refine ⟨⟨g', ?_, fun k hk => ?_, ?_, e5, ?_, ?_⟩, ?_⟩
    · show t.first + 1 = G + 1
      rw [e3, ht.first]
    · have hk : k < s.W := by rw [← e1]; exact hk
      show UPD t.ws i (j + 2) k ≠ 1
      rw [e2]
      by_cases e : k = i
      · rw [e, UPD_same]
        omega
      · rw [UPD_other e]
        exact ht.here k hk
    · show t.canc = false
      rw [e4, ht.canc]
    · show t.held - 1 ≤ 1
      omega
    · show max t.top (GAUGE (GIVES t i j)) = G + 1
      rw [g', e7, ht.top]
      omega
    · show t.held - 1 ≤ s.held
      omega
  rcases mem_MVS hm with ⟨rfl, q2, q3⟩ | ⟨i, q1, q2, q3, q4, rfl⟩ | ⟨i, q1, q2, q3, q4, rfl⟩ | ⟨rfl, q2⟩ | ⟨i, q1, q2, q3, q4, rfl⟩ | ⟨i, q1, q2, q3, rfl⟩ | ⟨q1, q2, rfl⟩ | ⟨q1, q2, rfl⟩ | ⟨i, q1, q2, q3, rfl⟩
  · simp at h2
  · have eD : DO1 s (2, (i : Int), s.fd - 2) = GIVES (PUTS s) i (s.fd - 2) := by
      show GIVES (if s.room = 0 then PUTS s else s) (i : Int).toNat (s.fd - 2) = _
      rw [if_pos q3, Int.toNat_natCast]
    unfold DO
    rw [eD]
    exact key (PUTS s) i _ q1 q2 rfl rfl rfl rfl (NEXTF_ne _ _) (Nat.le_refl _) rfl
  · have eD : DO1 s (2, (i : Int), s.first) = GIVES s i s.first := by
      show GIVES (if s.room = 0 then PUTS s else s) (i : Int).toNat s.first = _
      rw [if_neg q3, Int.toNat_natCast]
    unfold DO
    rw [eD]
    exact key s i _ q1 q2 rfl rfl rfl rfl ht.fd (by omega) rfl
  all_goals simp at h2
/-- with fewer jobs held than there can be: somebody can be handed one, or one can be put. -/
theorem tp_goes {s : LM} {G : Nat} (h : INV s) (ht : TP s G) (h1 : G < s.W) (h2 : G < s.jobs) : (∃ (i : Nat) (m : MV), (MVS s)[i]? = some m ∧ m.1 = 2) ∨ (s.held = 0 ∧ 2 ≤ s.fd ∧ (MVS s)[0]? = some (1, 0, s.fd - 2)) := by
  have hb := h.base
  obtain ⟨i, hi, hp⟩ := cnt_ne (p := fun i => ISB (s.ws i)) s.W (by have := ht.gauge; unfold GAUGE at this; omega)
  have hw : s.ws i = 0 := by
    have h3 := ht.here i hi
    have h4 : ¬ 2 ≤ s.ws i := of_decide_eq_false hp
    omega
  have give : ∀ j, OFFERED s = some j → ∃ (i : Nat) (m : MV), (MVS s)[i]? = some m ∧ m.1 = 2 := by
    intro j hj
    have hmem : ((2, (i : Int), j) : MV) ∈ MVS s := by
      unfold MVS
      simp only [List.mem_append]
      refine .inl (.inl (.inl (.inl (.inr ?_))))
      unfold MV2
      rw [hj]
      exact PK_mem.2 ⟨i, hi, by rw [if_pos hw]⟩
    obtain ⟨k, hk⟩ := List.getElem?_of_mem hmem
    exact ⟨k, _, hk, rfl⟩
  have hfd := ht.fd
  have hf := ht.first
  have hfed := hb.fed
  have busy : s.held = 0 → 2 ≤ s.fd := by
    intro e
    rcases (by omega : 2 ≤ s.fd ∨ s.fd = 0) with x | x
    · exact x
    · have := hb.nomore x
      omega
  by_cases hr : s.room = 0
  · left
    have hz := hb.zero hr
    refine give (s.fd - 2) ?_
    unfold OFFERED
    rw [if_pos hr, if_pos (busy hz)]
  · by_cases hh : 0 < s.held
    · left
      refine give s.first ?_
      unfold OFFERED
      rw [if_neg hr, if_pos hh]
    · right
      have h0 : s.held = 0 := by omega
      refine ⟨h0, busy h0, ?_⟩
      unfold MVS MV1
      rw [if_pos ⟨busy h0, by omega⟩]
      simp
end Go.Proofs.Ytcdopeofajkbnaa
