/- The loom in plain data: who stands where, the moves that can be made, what a move makes, and what stays true. -/
import Derived.WalkKit
namespace Go.Proofs.Ytmgocdjmjnkbmaa

/-- a move: its kind, its worker, its job. -/
abbrev MV := Nat × Int × Nat
/-- somebody's state is a number: 0 idle, 1 has left, j + 2 holds the job j. -/
structure LM where
  jobs : Nat
  room : Nat
  W : Nat
  canc : Bool
  fd : Nat
  ws : Nat → Nat
  col : Nat
  first : Nat
  held : Nat
  made : Nat
  top : Nat
  ans : List Nat
def PK (f : Nat → Option MV) (n : Nat) : List MV := (List.range n).filterMap f
theorem PK_zero (f : Nat → Option MV) : PK f 0 = [] := rfl
theorem PK_succ (f : Nat → Option MV) (n : Nat) : PK f (n + 1) = PK f n ++ (f n).toList := by
  unfold PK
  rw [List.range_succ, List.filterMap_append]
  cases h : f n <;> simp [h]
theorem PK_mem {f : Nat → Option MV} {n : Nat} {m : MV} : m ∈ PK f n ↔ ∃ i, i < n ∧ f i = some m := by
  unfold PK
  simp [List.mem_filterMap]
theorem PK_length (f : Nat → Option MV) (n : Nat) : (PK f n).length ≤ n := by
  unfold PK
  have := List.length_filterMap_le f (List.range n)
  rw [List.length_range] at this
  exact this
def CNT (p : Nat → Bool) : Nat → Nat
  | 0 => 0
  | n + 1 => CNT p n + (if p n then 1 else 0)
theorem CNT_le (p : Nat → Bool) : ∀ n, CNT p n ≤ n
  | 0 => Nat.le_refl _
  | n + 1 => by have := CNT_le p n; unfold CNT; split <;> omega
theorem CNT_congr {p q : Nat → Bool} : ∀ n, (∀ i, i < n → p i = q i) → CNT p n = CNT q n
  | 0, _ => rfl
  | n + 1, h => by unfold CNT; rw [CNT_congr n (fun i hi => h i (by omega)), h n (by omega)]
/-- one element turned: the count turns by what it was and is. -/
theorem CNT_upd {p q : Nat → Bool} {k : Nat} : ∀ n, k < n → (∀ i, i ≠ k → p i = q i) → CNT p n + (if q k then 1 else 0) = CNT q n + (if p k then 1 else 0)
  | 0, h, _ => by omega
  | n + 1, h, he => by
    unfold CNT
    by_cases hk : k = n
    · subst hk
      rw [CNT_congr k (fun i hi => he i (by omega))]
      omega
    · have := CNT_upd n (by omega) he
      rw [he n (by omega)]
      omega
theorem CNT_pos {p : Nat → Bool} {k : Nat} : ∀ n, k < n → p k = true → 0 < CNT p n
  | 0, h, _ => by omega
  | n + 1, h, he => by
    unfold CNT
    by_cases hk : k = n
    · subst hk
      rw [if_pos he]
      omega
    · have := CNT_pos n (by omega) he
      omega
theorem CNT_zero {p : Nat → Bool} : ∀ n, (∀ i, i < n → p i = false) → CNT p n = 0
  | 0, _ => rfl
  | n + 1, h => by unfold CNT; rw [CNT_zero n (fun i hi => h i (by omega)), h n (by omega)]; rfl
theorem CNT_all {p : Nat → Bool} : ∀ n, CNT p n = n → ∀ i, i < n → p i = true
  | 0, _, i, hi => by omega
  | n + 1, h, i, hi => by
    unfold CNT at h
    have := CNT_le p n
    by_cases hp : p n = true
    · rw [if_pos hp] at h
      by_cases e : i = n
      · rw [e]; exact hp
      · exact CNT_all n (by omega) i (by omega)
    · rw [if_neg hp] at h
      omega
theorem CNT_full {p : Nat → Bool} : ∀ n, (∀ i, i < n → p i = true) → CNT p n = n
  | 0, _ => rfl
  | n + 1, h => by unfold CNT; rw [CNT_full n (fun i hi => h i (by omega)), h n (by omega)]; rfl
def UPD (ws : Nat → Nat) (k v : Nat) : Nat → Nat := fun i => if i = k then v else ws i
theorem UPD_same (ws : Nat → Nat) (k v : Nat) : UPD ws k v k = v := if_pos rfl
theorem UPD_other {ws : Nat → Nat} {k v i : Nat} (h : i ≠ k) : UPD ws k v i = ws i := if_neg h
def ISB (x : Nat) : Bool := decide (2 ≤ x)
def ISL (x : Nat) : Bool := decide (x = 1)
def GAUGE (s : LM) : Nat := CNT (fun i => ISB (s.ws i)) s.W
def LEFTS (s : LM) : Nat := CNT (fun i => ISL (s.ws i)) s.W
def FL (x : Nat) : Nat := if x = 1 then 1 else 0
def GONE (s : LM) : Nat := FL s.fd + FL s.col + LEFTS s
def OFFERED (s : LM) : Option Nat := if s.room = 0 then (if 2 ≤ s.fd then some (s.fd - 2) else none) else if 0 < s.held then some s.first else none
def OFF (s : LM) (k j : Nat) : List MV := PK (fun i => if s.ws i = 0 then some (k, (i : Int), j) else none) s.W
def OFB (s : LM) : List MV := PK (fun i => if 2 ≤ s.ws i then some (5, (i : Int), s.ws i - 2) else none) s.W
def QTS (s : LM) : List MV := (if s.fd = 1 then [] else [(6, -2, 0)]) ++ (if s.col = 1 then [] else [(6, -1, 0)]) ++ PK (fun i => if s.ws i = 1 then none else some (6, (i : Int), 0)) s.W
def MV1 (s : LM) : List MV := if 2 ≤ s.fd ∧ s.held < s.room then [(1, 0, s.fd - 2)] else []
def MV2 (s : LM) : List MV := match OFFERED s with | some j => OFF s 2 j | none => []
def MV3 (s : LM) : List MV := if s.fd = 0 then [(3, 0, 0)] else []
def MV4 (s : LM) : List MV := if s.fd = 1 ∧ s.held = 0 then OFF s 4 0 else []
def MV5 (s : LM) : List MV := if s.col = 1 then [] else OFB s
def MV6 (s : LM) : List MV := if s.canc = true then QTS s else []
/-- the moves that can be made. -/
def MVS (s : LM) : List MV := MV1 s ++ MV2 s ++ MV3 s ++ MV4 s ++ MV5 s ++ MV6 s
def NEXTF (j jobs : Nat) : Nat := if j < jobs then j + 2 else 0
def PUTS (s : LM) : LM := { s with held := s.held + 1, fd := NEXTF (s.fd - 2 + 1) s.jobs }
def GIVES (s : LM) (i j : Nat) : LM := { s with first := s.first + 1, held := s.held - 1, ws := UPD s.ws i (j + 2) }
def ANSWERS (s : LM) (i j : Nat) : LM := { s with ws := UPD s.ws i 0, ans := s.ans ++ [j], col := if s.ans.length + 1 = s.jobs then 1 else s.col }
def LEAVES (s : LM) (x : Int) : LM := if x = -2 then { s with fd := 1 } else if x = -1 then { s with col := 1 } else { s with ws := UPD s.ws x.toNat 1 }
def DO1 (s : LM) (m : MV) : LM :=
  if m.1 = 1 then PUTS s
  else if m.1 = 2 then GIVES (if s.room = 0 then PUTS s else s) m.2.1.toNat m.2.2
  else if m.1 = 3 then { s with fd := 1 }
  else if m.1 = 5 then ANSWERS s m.2.1.toNat m.2.2
  else LEAVES s m.2.1
def COUNTED (s : LM) : LM := { s with made := s.made + 1, top := max s.top (GAUGE s) }
/-- what a move makes. -/
def DO (s : LM) (m : MV) : LM := COUNTED (DO1 s m)
/-- a move that can be made is one of these. -/
theorem mem_MVS {s : LM} {m : MV} (h : m ∈ MVS s) :
    (m = (1, 0, s.fd - 2) ∧ 2 ≤ s.fd ∧ s.held < s.room) ∨
    (∃ i, i < s.W ∧ s.ws i = 0 ∧ s.room = 0 ∧ 2 ≤ s.fd ∧ m = (2, (i : Int), s.fd - 2)) ∨
    (∃ i, i < s.W ∧ s.ws i = 0 ∧ s.room ≠ 0 ∧ 0 < s.held ∧ m = (2, (i : Int), s.first)) ∨
    (m = (3, 0, 0) ∧ s.fd = 0) ∨
    (∃ i, i < s.W ∧ s.ws i = 0 ∧ s.fd = 1 ∧ s.held = 0 ∧ m = (4, (i : Int), 0)) ∨
    (∃ i, i < s.W ∧ 2 ≤ s.ws i ∧ s.col ≠ 1 ∧ m = (5, (i : Int), s.ws i - 2)) ∨
    (s.canc = true ∧ s.fd ≠ 1 ∧ m = (6, -2, 0)) ∨ (s.canc = true ∧ s.col ≠ 1 ∧ m = (6, -1, 0)) ∨
    (∃ i, i < s.W ∧ s.ws i ≠ 1 ∧ s.canc = true ∧ m = (6, (i : Int), 0)) := by
  unfold MVS at h
  simp only [List.mem_append] at h
  rcases h with ((((h | h) | h) | h) | h) | h
  · unfold MV1 at h
    split at h
    · rename_i c
      simp at h
      exact .inl ⟨h, c⟩
    · simp at h
  · unfold MV2 OFFERED at h
    by_cases c : s.room = 0
    · rw [if_pos c] at h
      by_cases c2 : 2 ≤ s.fd
      · rw [if_pos c2] at h
        simp only [OFF, PK_mem] at h
        obtain ⟨i, hi, h⟩ := h
        split at h
        · rename_i c3
          exact .inr (.inl ⟨i, hi, c3, c, c2, by injection h with h; exact h.symm⟩)
        · cases h
      · rw [if_neg c2] at h
        simp at h
    · rw [if_neg c] at h
      by_cases c2 : 0 < s.held
      · rw [if_pos c2] at h
        simp only [OFF, PK_mem] at h
        obtain ⟨i, hi, h⟩ := h
        split at h
        · rename_i c3
          exact .inr (.inr (.inl ⟨i, hi, c3, c, c2, by injection h with h; exact h.symm⟩))
        · cases h
      · rw [if_neg c2] at h
        simp at h
  · unfold MV3 at h
    split at h
    · rename_i c
      simp at h
      exact .inr (.inr (.inr (.inl ⟨h, c⟩)))
    · simp at h
  · unfold MV4 at h
    split at h
    · rename_i c
      simp only [OFF, PK_mem] at h
      obtain ⟨i, hi, h⟩ := h
      split at h
      · rename_i c3
        exact .inr (.inr (.inr (.inr (.inl ⟨i, hi, c3, c.1, c.2, by injection h with h; exact h.symm⟩))))
      · cases h
    · simp at h
  · unfold MV5 at h
    split at h
    · simp at h
    · rename_i c
      simp only [OFB, PK_mem] at h
      obtain ⟨i, hi, h⟩ := h
      split at h
      · rename_i c3
        exact .inr (.inr (.inr (.inr (.inr (.inl ⟨i, hi, c3, c, by injection h with h; exact h.symm⟩)))))
      · cases h
  · unfold MV6 at h
    split at h
    · rename_i c
      unfold QTS at h
      simp only [List.mem_append] at h
      rcases h with (h | h) | h
      · split at h
        · simp at h
        · rename_i c2
          simp at h
          exact .inr (.inr (.inr (.inr (.inr (.inr (.inl ⟨c, c2, h⟩))))))
      · split at h
        · simp at h
        · rename_i c2
          simp at h
          exact .inr (.inr (.inr (.inr (.inr (.inr (.inr (.inl ⟨c, c2, h⟩)))))))
      · simp only [PK_mem] at h
        obtain ⟨i, hi, h⟩ := h
        split at h
        · cases h
        · rename_i c3
          exact .inr (.inr (.inr (.inr (.inr (.inr (.inr (.inr ⟨i, hi, c3, c, by injection h with h; exact h.symm⟩)))))))
    · simp at h
/-- has the collector quit? -/
def CQ (s : LM) : Nat := if s.col = 1 ∧ s.ans.length ≠ s.jobs then 1 else 0
def ROOMY (s : LM) : Nat := if s.room = 0 then 0 else s.first + s.held
/-- what is true of every loom. -/
structure INV (s : LM) : Prop where
  fed : s.first + s.held ≤ s.jobs
  next : 2 ≤ s.fd → s.fd = s.first + s.held + 2 ∧ s.first + s.held < s.jobs
  nomore : s.fd = 0 → s.first + s.held = s.jobs
  colx : s.col ≤ 1
  open_ : s.col = 0 → s.ans.length < s.jobs
  count : GAUGE s + s.ans.length ≤ s.first
  zero : s.room = 0 → s.held = 0
  fits : s.held ≤ s.room
  made : s.made = FL s.fd + LEFTS s + ROOMY s + s.first + s.ans.length + CQ s
  topw : GAUGE s ≤ s.top ∧ s.top ≤ s.W ∧ s.top ≤ s.jobs
  nodup : s.ans.Nodup
  old : ∀ j, j ∈ s.ans → j < s.first
  busy : ∀ i, i < s.W → 2 ≤ s.ws i → s.ws i - 2 < s.first ∧ s.ws i - 2 ∉ s.ans
  one : ∀ i k, i < s.W → k < s.W → 2 ≤ s.ws i → s.ws i = s.ws k → i = k
/-- nobody has quit. -/
structure NQ (s : LM) : Prop where
  fdl : s.fd = 1 → s.first + s.held = s.jobs
  wl : ∀ i, i < s.W → s.ws i = 1 → s.fd = 1 ∧ s.held = 0
  count : GAUGE s + s.ans.length = s.first
  coll : s.col = 1 → s.ans.length = s.jobs
theorem gauge_upd (s : LM) (i v : Nat) (hi : i < s.W) : CNT (fun k => ISB (UPD s.ws i v k)) s.W + (if ISB (s.ws i) then 1 else 0) = GAUGE s + (if ISB v then 1 else 0) := by
  have := CNT_upd (p := fun k => ISB (UPD s.ws i v k)) (q := fun k => ISB (s.ws k)) s.W hi (fun k hk => by simp only [UPD_other hk])
  simp only [UPD_same] at this
  exact this
theorem lefts_upd (s : LM) (i v : Nat) (hi : i < s.W) : CNT (fun k => ISL (UPD s.ws i v k)) s.W + (if ISL (s.ws i) then 1 else 0) = LEFTS s + (if ISL v then 1 else 0) := by
  have := CNT_upd (p := fun k => ISL (UPD s.ws i v k)) (q := fun k => ISL (s.ws k)) s.W hi (fun k hk => by simp only [UPD_other hk])
  simp only [UPD_same] at this
  exact this
end Go.Proofs.Ytmgocdjmjnkbmaa
