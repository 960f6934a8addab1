/- Texts of StoreBacks, one behind the other: StoreTwo, StoreAwake. -/
import Derived.ChangeKeysEq
import Derived.Test.YtkhpaldbdpfpiaaStoreBacksP12
import Derived.Test.YtkhpaldbdpfpiaaStoreBacksP15
import Derived.Test.YtkhpaldbdpfpiaaStoreBacksP19
/- Two stores of the same hashes, of which the one has lost some nodes. -/
namespace Go.Proofs.Ytkhpaldbdpfpiaa
open Go.RowKit Go.Maps
set_option maxRecDepth 100000

theorem items5 (d n : Nat) (F : Nat → Nat) (w : World) : ∀ is : List Nat, (∀ i ∈ is, i < n) → (Op.eqItems (d + 1) 5 1 (UARR .u8 n F) (UARR .u8 n F) is).run Try.prog w = .ok true w
  | [], _ => by simp [Op.eqItems]
  | i :: is, h => by
    have hp : Try.prog.plainKey 5 = true := by kernel_rfl
    have hi : i < n := h i (by simp)
    have h1 := run_part_plain (P := Try.prog) w hp (UARR_get .u8 n F i hi)
    have h3 := run_equalIn_int (P := Try.prog) w d 5 .u8 .u8 (F i : Nat) (F i : Nat) Try.underlying5
    have ih := items5 d n F w is (fun j hj => h j (by simp [hj]))
    rw [Op.eqItems, Nat.mul_one]
    simp only [Sem.run_bind, h1, h3, Result.andThen_ok]
    simp [ih]
theorem same5 (F : Nat → Nat) (w : World) : (Op.equalIn 10000 32 (.agg (UARR .u8 32 F)) (.agg (UARR .u8 32 F))).run Try.prog w = .ok true w := by
  obtain ⟨i8, hi, _⟩ := Option.map_eq_some_iff.1 info_u8
  rw [run_equalIn_array (P := Try.prog) w 9999 (UARR .u8 32 F) (UARR .u8 32 F) Try.underlying32 hi]
  have hc : Try.prog.cellsOf 5 = 1 := by kernel_rfl
  rw [hc]
  exact items5 9998 32 F w _ (fun i hi => by simpa using hi)
set_option maxHeartbeats 1000000 in
/-- Pin of a node that does not live. -/
theorem pin_not {w : World} {B g log len alive N : Nat} {C : CHUNKS} (hS : STORE w B g log len alive N C) (p : Nat) (hp : p < 2 ^ 64) (hl : p < len) (hA : AT C log p = none) : Calls Try.prog 8 #[.pointer (some ⟨g, 0, none⟩), .int .u64 (p : Int)] w fun e w' =>
    e = .returned (.int .i64 50) ∧ Below w.heap.size w w' := by
  have cg := get_ok hS p hp
  have e1 : GOT C log len p = 50 := by unfold GOT; rw [if_pos hl, hA]; rfl
  rw [e1] at cg
  have hz := zeroHash
  obtain ⟨F, hF⟩ : ∃ F, GOTH C log len p = F := ⟨_, rfl⟩
  rw [hF] at cg
  clear hF hS hp hl hA e1
  go_enter Try.func8, Try.ntmps8
  go_wp2_with fail
  refine cg.mono ?_
  rintro e w1 ⟨rfl, hb1⟩
  clear cg
  have hst := run_storeCells_new (P := Try.prog) w1 32 (UARR .u8 32 fun _ => 0) (UARR .u8 32 F) (info_HASH _) (by rw [UARR_size, UARR_size]) (UARR_one _ _ _)
  have hsu := UARR_size .u8 32 F
  obtain ⟨w2, hw2⟩ : ∃ w2, w1.alloc (.cells (UARR .u8 32 F) 32) = w2 := ⟨_, rfl⟩
  rw [hw2] at hst
  have E : Aside (Below w.heap.size w w2) := by rw [← hw2]; exact hb1.alloc hb1.size _
  clear hw2 hb1
  go_wp2
  go_ret
  exact ⟨rfl, E.out⟩
/-- how many of the first n live. -/
def CT (A : Nat → Bool) : Nat → Nat
  | 0 => 0
  | n + 1 => CT A n + if A n then 1 else 0
theorem CT_le (A : Nat → Bool) : ∀ n, CT A n ≤ n
  | 0 => Nat.le_refl _
  | n + 1 => by have := CT_le A n; unfold CT; split <;> omega
theorem CT_all {A : Nat → Bool} : ∀ {n}, (∀ p, p < n → A p = true) → CT A n = n
  | 0, _ => rfl
  | n + 1, h => by unfold CT; rw [CT_all (fun p hp => h p (by omega)), if_pos (h n (by omega))]
theorem CT_congr {A A' : Nat → Bool} : ∀ {n}, (∀ p, p < n → A p = A' p) → CT A n = CT A' n
  | 0, _ => rfl
  | n + 1, h => by unfold CT; rw [CT_congr (fun p hp => h p (by omega)), h n (by omega)]
/-- A, but b at p. -/
def SETB (A : Nat → Bool) (p : Nat) (b : Bool) : Nat → Bool := fun q => if q = p then b else A q
theorem SETB_at (A : Nat → Bool) (p : Nat) (b : Bool) : SETB A p b p = b := if_pos rfl
theorem SETB_ne {A : Nat → Bool} {p q : Nat} {b : Bool} (h : q ≠ p) : SETB A p b q = A q := if_neg h
theorem CT_set (A : Nat → Bool) (p : Nat) : ∀ n, p < n → CT (SETB A p false) n + 1 = CT (SETB A p true) n
  | 0, h => by omega
  | n + 1, h => by
    unfold CT
    by_cases e : p = n
    · subst e
      rw [SETB_at, SETB_at, CT_congr (A := SETB A p false) (A' := SETB A p true) (fun q hq => by rw [SETB_ne (by omega), SETB_ne (by omega)])]
      simp
    · have := CT_set A p n (by omega)
      rw [SETB_ne (fun h => e h.symm), SETB_ne (fun h => e h.symm)]
      omega
theorem SETB_id {A : Nat → Bool} {p : Nat} {b : Bool} (h : A p = b) : SETB A p b = A := funext fun q => by
  by_cases e : q = p
  · subst e; rw [SETB_at, h]
  · rw [SETB_ne e]
/-- the nodes that live. -/
def LIV (n : Nat) (A : Nat → Bool) (hs : Nat → Nat → Nat) (p : Nat) : Option (Nat → Nat) := if p < n ∧ A p = true then some (hs p) else none
theorem LIV_some {n : Nat} {A : Nat → Bool} {hs : Nat → Nat → Nat} {p : Nat} (h : p < n) (h' : A p = true) : LIV n A hs p = some (hs p) := if_pos ⟨h, h'⟩
theorem LIV_none {n : Nat} {A : Nat → Bool} {hs : Nat → Nat → Nat} {p : Nat} (h' : A p = false) : LIV n A hs p = none := if_neg (fun x => by rw [h'] at x; cases x.2)
/-- the two stores: at g the one, at t the other. -/
structure TWO5 (w0 w : World) (g t log n M : Nat) (A : Nat → Bool) (hs : Nat → Nat → Nat) (C D : CHUNKS) : Prop where
  one : ∃ N, N ≤ M ∧ STORE w g g log n (CT A n) N C
  pins : PINS w g g 0 C (fun _ => 0)
  has : ∀ p, AT C log p = LIV n A hs p
  full : FULL C
  two : STORE w t t log n n n D
  has2 : ∀ p, AT D log p = LIV n (fun _ => true) hs p
  full2 : FULL D
  apart : APART w g C t D
  low : Below g w0 w
  small : n ≤ 200
def TWO (w0 w : World) (g t log n M : Nat) (A : Nat → Bool) (hs : Nat → Nat → Nat) : Prop := ∃ C D, TWO5 w0 w g t log n M A hs C D
theorem TWO5.below {w0 w w' : World} {g t log n M : Nat} {A : Nat → Bool} {hs : Nat → Nat → Nat} {C D : CHUNKS} (h : TWO5 w0 w g t log n M A hs C D) (hb : Below w.heap.size w w') : TWO5 w0 w' g t log n M A hs C D := by
  obtain ⟨N, hN, h1⟩ := h.one
  exact ⟨⟨N, hN, h1.below hb⟩, h.pins.below h1 hb, h.has, h.full, h.two.below hb, h.has2, h.full2, fun x hx hx' => h.apart x (hx.imp id (h1.foot_below hb)) (hx'.imp id (h.two.foot_below hb)), h.low.trans (hb.mono (by have := h1.lt; omega)), h.small⟩
theorem TWO.below {w0 w w' : World} {g t log n M : Nat} {A : Nat → Bool} {hs : Nat → Nat → Nat} (h : TWO w0 w g t log n M A hs) (hb : Below w.heap.size w w') : TWO w0 w' g t log n M A hs := by
  obtain ⟨C, D, h⟩ := h
  exact ⟨C, D, h.below hb⟩
theorem TWO.made {w w1 w2 : World} {log n : Nat} {hs : Nat → Nat → Nat} (hn : n ≤ 200) (h1 : FILLED w1 w.heap.size w.heap.size log n hs) (b1 : Below w.heap.size w w1) (h2 : FILLED w2 w1.heap.size w1.heap.size log n hs) (b2 : Below w1.heap.size w1 w2) : TWO w w2 w.heap.size w1.heap.size log n 200 (fun _ => true) hs := by
  obtain ⟨C, c1, c2, c3, c4⟩ := h1
  obtain ⟨D, d1, d2, d3, d4⟩ := h2
  have e : ∀ p, LIV n (fun _ => true) hs p = if p < n then some (hs p) else none := fun p => by unfold LIV; simp
  refine ⟨C, D, ⟨n, hn, ?_⟩, c2.below c1 b2, fun p => by rw [c3, e], c4, d1, fun p => by rw [d3, e], d4, c1.later b2 d1 (Nat.le_refl _), b1.trans (b2.mono b1.size), hn⟩
  rw [CT_all (fun _ _ => rfl)]
  exact c1.below b2
theorem t_drop {w0 w : World} {g t log n M p : Nat} {A : Nat → Bool} {hs : Nat → Nat → Nat} (h : TWO w0 w g t log n M A hs) (hp : p < n) : Calls Try.prog 5 #[.pointer (some ⟨g, 0, none⟩), .int .u64 (p : Int)] w fun e w' => e = .returned (.int .i64 0) ∧ TWO w0 w' g t log n M (SETB A p false) hs := by
  obtain ⟨C, D, h⟩ := h
  obtain ⟨N, hN, h1⟩ := h.one
  have hn := h.small
  cases hA : A p with
  | false =>
    rw [SETB_id hA]
    refine (drop_dead h1 h.pins p (by omega) hp rfl (by rw [h.has, LIV_none hA])).mono ?_
    rintro e w' ⟨rfl, hb⟩
    exact ⟨rfl, C, D, h.below hb⟩
  | true =>
    have hc := CT_set A p n hp
    rw [SETB_id hA] at hc
    have hle := CT_le A n
    refine (drop_live h1 h.pins p _ (hs p) (by omega) hp rfl (by rw [h.has, LIV_some hp hA]) hc (by omega) (Nat.le_refl _)).mono ?_
    rintro e w' ⟨rfl, C', d1, d2, d3, d4, d5⟩
    obtain ⟨k1, k2⟩ := h.two.beside h.apart d4
    refine ⟨rfl, C', D, ⟨N, hN, d1⟩, d3, fun q => ?_, d4.full h.full, k1, h.has2, h.full2, k2, h.low.trans d5, h.small⟩
    rw [d2, h.has]
    by_cases e : q = p
    · subst e; rw [if_pos rfl, LIV_none (SETB_at _ _ _)]
    · rw [if_neg e]; unfold LIV; rw [SETB_ne e]
theorem t_drop_far {w0 w : World} {g t log n M p : Nat} {A : Nat → Bool} {hs : Nat → Nat → Nat} (h : TWO w0 w g t log n M A hs) (hp : n ≤ p) : Calls Try.prog 5 #[.pointer (some ⟨g, 0, none⟩), .int .u64 (p : Int)] w fun e w' => e = .returned (.int .i64 31) ∧ w = w' := by
  obtain ⟨C, D, h⟩ := h
  obtain ⟨N, hN, h1⟩ := h.one
  exact drop_far h1 p hp
theorem t_back_far {w0 w : World} {g t log n M p : Nat} {A : Nat → Bool} {hs : Nat → Nat → Nat} (h : TWO w0 w g t log n M A hs) (hp : n ≤ p) (x : Nat → Nat) : Calls Try.prog 6 #[.pointer (some ⟨g, 0, none⟩), .int .u64 (p : Int), .agg (UARR .u8 32 x)] w fun e w' => e = .returned (.int .i64 31) ∧ TWO w0 w' g t log n M A hs := by
  obtain ⟨C, D, h⟩ := h
  obtain ⟨N, hN, h1⟩ := h.one
  refine (back_far h1 p x hp).mono ?_
  rintro e w' ⟨rfl, hb⟩
  exact ⟨rfl, C, D, h.below hb⟩
theorem t_live {w0 w : World} {g t log n M p : Nat} {A : Nat → Bool} {hs : Nat → Nat → Nat} (h : TWO w0 w g t log n M A hs) (hp : p < n) : Calls Try.prog 7 #[.pointer (some ⟨g, 0, none⟩), .int .u64 (p : Int)] w fun e w' => e = .returned (.bool (A p)) ∧ TWO w0 w' g t log n M A hs := by
  obtain ⟨C, D, h⟩ := h
  obtain ⟨N, hN, h1⟩ := h.one
  have hn := h.small
  refine (live_ok h1 p (by omega)).mono ?_
  rintro e w' ⟨rfl, hb⟩
  refine ⟨?_, C, D, h.below hb⟩
  rw [h.has]
  cases hA : A p with
  | true => rw [LIV_some hp hA]; rfl
  | false => rw [LIV_none hA]; rfl
theorem t_pin {w0 w : World} {g t log n M p : Nat} {A : Nat → Bool} {hs : Nat → Nat → Nat} (h : TWO w0 w g t log n M A hs) (hp : p < n) (hA : A p = false) : Calls Try.prog 8 #[.pointer (some ⟨g, 0, none⟩), .int .u64 (p : Int)] w fun e w' => e = .returned (.int .i64 50) ∧ TWO w0 w' g t log n M A hs := by
  obtain ⟨C, D, h⟩ := h
  obtain ⟨N, hN, h1⟩ := h.one
  have hn := h.small
  refine (pin_not h1 p (by omega) hp (by rw [h.has, LIV_none hA])).mono ?_
  rintro e w' ⟨rfl, hb⟩
  exact ⟨rfl, C, D, h.below hb⟩
theorem t_back {w0 w : World} {g t log n M p : Nat} {A : Nat → Bool} {hs : Nat → Nat → Nat} (h : TWO w0 w g t log n M A hs) (hp : p < n) (hA : A p = false) (h8 : ∀ i, hs p i < 256) (hM : M < 2 ^ 40) : Calls Try.prog 6 #[.pointer (some ⟨g, 0, none⟩), .int .u64 (p : Int), .agg (UARR .u8 32 (hs p))] w fun e w' => e = .returned (.int .i64 0) ∧ TWO w0 w' g t log n (M + 1) (SETB A p true) hs := by
  obtain ⟨C, D, h⟩ := h
  obtain ⟨N, hN, h1⟩ := h.one
  have hn := h.small
  have hc := CT_set A p n hp
  rw [SETB_id hA] at hc
  have hle := CT_le A n
  refine (back_ok h1 p (hs p) h8 (by omega) hp (by rw [h.has, LIV_none hA]) (by omega) (Nat.le_refl _) (by omega)).mono ?_
  rintro e w' ⟨rfl, C', d1, d2, d4, d5⟩
  obtain ⟨k1, k2⟩ := h.two.beside h.apart d4
  obtain ⟨cs, tt, fr, z1, _⟩ := h1.kind
  rw [hc] at d1
  refine ⟨rfl, C', D, ⟨N + 1, by omega, d1⟩, h.pins.step d4 ⟨cs, tt, fr, z1⟩, fun q => ?_, d4.full h.full, k1, h.has2, h.full2, k2, h.low.trans d5, h.small⟩
  rw [d2, h.has]
  by_cases e : q = p
  · subst e; rw [if_pos rfl, LIV_some hp (SETB_at _ _ _)]
  · rw [if_neg e]; unfold LIV; rw [SETB_ne e]
theorem t_back_live {w0 w : World} {g t log n M p : Nat} {A : Nat → Bool} {hs : Nat → Nat → Nat} (h : TWO w0 w g t log n M A hs) (hp : p < n) (hA : A p = true) (x : Nat → Nat) : Calls Try.prog 6 #[.pointer (some ⟨g, 0, none⟩), .int .u64 (p : Int), .agg (UARR .u8 32 x)] w fun e w' => e = .returned (.int .i64 53) ∧ TWO w0 w' g t log n M A hs := by
  obtain ⟨C, D, h⟩ := h
  obtain ⟨N, hN, h1⟩ := h.one
  have hn := h.small
  refine (back_live h1 p x (hs p) (by omega) hp (by rw [h.has, LIV_some hp hA])).mono ?_
  rintro e w' ⟨rfl, hb⟩
  exact ⟨rfl, C, D, h.below hb⟩
theorem t_get {w0 w : World} {g t log n M p : Nat} {A : Nat → Bool} {hs : Nat → Nat → Nat} (h : TWO w0 w g t log n M A hs) (hp : p < n) (hA : A p = true) : Calls Try.prog 9 #[.pointer (some ⟨g, 0, none⟩), .int .u64 (p : Int)] w fun e w' => e = .returned (.tuple #[.agg (UARR .u8 32 (hs p)), .int .i64 0]) ∧ Below w.heap.size w w' := by
  obtain ⟨C, D, h⟩ := h
  obtain ⟨N, hN, h1⟩ := h.one
  have hn := h.small
  have c := get_ok h1 p (by omega)
  have e1 : GOT C log n p = 0 := by unfold GOT; rw [if_pos hp, h.has, LIV_some hp hA]; rfl
  have e2 : GOTH C log n p = hs p := by unfold GOTH; rw [if_pos hp, h.has, LIV_some hp hA]; rfl
  rw [e1, e2] at c
  exact c
theorem t_get2 {w0 w : World} {g t log n M p : Nat} {A : Nat → Bool} {hs : Nat → Nat → Nat} (h : TWO w0 w g t log n M A hs) (hp : p < n) : Calls Try.prog 9 #[.pointer (some ⟨t, 0, none⟩), .int .u64 (p : Int)] w fun e w' => e = .returned (.tuple #[.agg (UARR .u8 32 (hs p)), .int .i64 0]) ∧ Below w.heap.size w w' := by
  obtain ⟨C, D, h⟩ := h
  have hn := h.small
  have c := get_ok h.two p (by omega)
  have e1 : GOT D log n p = 0 := by unfold GOT; rw [if_pos hp, h.has2, LIV_some hp rfl]; rfl
  have e2 : GOTH D log n p = hs p := by unfold GOTH; rw [if_pos hp, h.has2, LIV_some hp rfl]; rfl
  rw [e1, e2] at c
  exact c
theorem t_pins {w0 w : World} {g t log n M p : Nat} {A : Nat → Bool} {hs : Nat → Nat → Nat} (h : TWO w0 w g t log n M A hs) (hp : p < n) : Calls Try.prog 10 #[.pointer (some ⟨g, 0, none⟩), .int .u64 (p : Int)] w fun e w' => e = .returned (.int .i64 0) ∧ w = w' := by
  obtain ⟨C, D, h⟩ := h
  have hn := h.small
  exact pins_ok h.pins p (by omega)
/-- what the two tell of themselves, once all live. -/
theorem t_last {w0 w : World} {g t log n M : Nat} {A : Nat → Bool} {hs : Nat → Nat → Nat} (h : TWO w0 w g t log n M A hs) (hA : ∀ p, p < n → A p = true) : ∃ z : Nat, w.cell? ⟨g, 1, none⟩ = some (.int .u64 (n : Int)) ∧ w.cell? ⟨t, 1, none⟩ = some (.int .u64 (n : Int)) ∧ w.cell? ⟨g, 2, none⟩ = some (.int .u64 (n : Int)) ∧ w.cell? ⟨t, 2, none⟩ = some (.int .u64 (n : Int)) ∧ CNT w g z ∧ CNT w t z := by
  obtain ⟨C, D, h⟩ := h
  obtain ⟨N, hN, h1⟩ := h.one
  rw [CT_all hA] at h1
  obtain ⟨z, z1, z2⟩ := cnt_same h1 h.two h.full h.full2 (fun p => by
    rw [h.has, h.has2]
    unfold LIV
    by_cases e : p < n
    · simp [e, hA p e]
    · simp [e])
  exact ⟨z, h1.c1, h.two.c1, h1.c2, h.two.c2, z1, z2⟩
end Go.Proofs.Ytkhpaldbdpfpiaa

/- massiflaw5.awake. -/
namespace Go.Proofs.Ytkhpaldbdpfpiaa
open Go.RowKit Go.Maps
set_option maxRecDepth 100000

/-- a hash with this first byte, noughts behind it. -/
def HB (x : Nat) : Nat → Nat := fun i => if i = 0 then x else 0
theorem HB_lt (x : Nat) (h : x < 256) : ∀ i, HB x i < 256 := fun i => by unfold HB; split <;> omega
theorem build7 (w : World) : (Instr.build 32 #[(0, .int .u8 7)]).run Try.prog w = .ok (.agg (UARR .u8 32 (HB 7))) w := run_build (P := Try.prog) w 32 _ _ (by kernel_rfl)
theorem build8 (w : World) : (Instr.build 32 #[(0, .int .u8 8)]).run Try.prog w = .ok (.agg (UARR .u8 32 (HB 8))) w := run_build (P := Try.prog) w 32 _ _ (by kernel_rfl)
theorem same8 (w : World) : (Op.equalIn 10000 32 (.agg (UARR .u8 32 (HB 8))) (.agg ((UARR .u8 32 fun _ => 0).setIfInBounds 0 (.int .u8 8)))).run Try.prog w = .ok true w := by kernel_rfl
/-- a load of a whole row where a guard is met. -/
theorem wpList_load_row_if {ops : Array Oper} {rest : List Oper} {o : Oper} {a : Act} {w : World} {Q : Exit → Act → World → Prop} (hw : Region.wanted o (yielded ops a.tmps) = true) (ty : TypeId) (x : Operand) (ho : o.op = .load ty x) (n : Nat) (e : TypeId)
    (b : Nat) (hx : a.eval x = .pointer (some ⟨b, 0, none⟩)) (t : TypeId) (cs : Array Value) (fr : Nat × Nat) (hb : w.heap[b]? = some (.cells cs t fr)) (hu : Try.prog.underlying ty = some (.array n e)) (hi : (Try.prog.info? ty).map (·.size) = some cs.size)
    (h : wpList Try.prog ops Q rest (a.put o.dst (.agg cs)) w) : wpList Try.prog ops Q (o :: rest) a w := by
  simp only [wpList]
  rw [if_pos hw]
  exact .inl (wp_load_row ty x ho b hx t cs fr (.array n e) hb hu rfl hi h)
set_option maxHeartbeats 4000000 in
theorem awake_ok (w : World) : Calls Try.prog 14 #[] w fun e w' => e = .returned (.bool true) ∧ Below w.heap.size w w' := by
  have cN := storenew_ok 1 (by decide) w
  obtain ⟨f1, f2⟩ := STORE.fresh w 1 (by decide)
  have HF : Aside (STORE (w.alloc (.cells (FRESH 1) 47)) w.heap.size w.heap.size 1 0 0 0 (fun _ => none) ∧ PINS (w.alloc (.cells (FRESH 1) 47)) w.heap.size w.heap.size 0 (fun _ => none) (fun _ => 0) ∧ Below w.heap.size w (w.alloc (.cells (FRESH 1) 47))) := ⟨f1, f2, (Below.refl _ _).alloc (Nat.le_refl _) _⟩
  clear f1 f2
  have h7 := build7
  have h8 := build8
  go_enter Try.func14, Try.ntmps14
  go_wp2_with fail
  refine cN.mono ?_
  rintro e w1 ⟨rfl, rfl⟩
  clear cN
  obtain ⟨w1, hw1⟩ : ∃ w1, w.alloc (.cells (FRESH 1) 47) = w1 := ⟨_, rfl⟩
  rw [hw1] at HF ⊢
  clear hw1
  obtain ⟨g, hg⟩ : ∃ g, w.heap.size = g := ⟨_, rfl⟩
  have HG : Aside (w.heap.size = g) := hg
  rw [hg] at HF ⊢
  clear hg
  go_wp2_with fail
  refine (push_ok HF.out.1 (HB 7) (HB_lt 7 (by decide)) (by decide) (by decide) (Nat.le_refl _) (by decide)).mono ?_
  rintro e w2 ⟨rfl, hP⟩
  have H2 : Aside (FILLED w2 g g 1 1 (fun i => if i = 0 then HB 7 else HB 8) ∧ Below g w w2) := by
    obtain ⟨f1, f2, f3⟩ := HF.out
    obtain ⟨_, _, _, _, hb2⟩ := id hP
    exact ⟨FILLED.push (n := 0) (hs := fun i => if i = 0 then HB 7 else HB 8) f1 f2 (fun p => rfl) (fun k gc rs e => by cases e) hP, f3.trans hb2⟩
  clear HF hP
  obtain ⟨⟨C, f1, f2, f3, f5⟩, f4⟩ := H2.out
  have cP := push_ok f1 (HB 8) (HB_lt 8 (by decide)) (by decide) (by decide) (Nat.le_refl _) (by decide)
  have HC : Aside (STORE w2 g g 1 1 1 1 C ∧ PINS w2 g g 0 C (fun _ => 0) ∧ (∀ p, AT C 1 p = if p < 1 then some ((fun i => if i = 0 then HB 7 else HB 8) p) else none) ∧ Below g w w2 ∧ FULL C) := ⟨f1, f2, f3, f4, f5⟩
  clear f1 f2 f3 f4 f5
  go_wp2_with fail
  refine cP.mono ?_
  rintro e w3 ⟨rfl, hP⟩
  have H3 : Aside (FILLED w3 g g 1 2 (fun i => if i = 0 then HB 7 else HB 8) ∧ Below g w w3) := by
    obtain ⟨f1, f2, f3, f4, f5⟩ := HC.out
    obtain ⟨_, _, _, _, hb2⟩ := id hP
    exact ⟨FILLED.push (n := 1) (hs := fun i => if i = 0 then HB 7 else HB 8) f1 f2 f3 f5 hP, f4.trans hb2⟩
  clear H2 hP cP h7 HC
  obtain ⟨⟨C1, f1, f2, f3, -⟩, f4⟩ := H3.out
  have cD := drop_live f1 f2 0 1 (HB 7) (by decide) (by decide) rfl (f3 0) rfl (by decide) (Nat.le_refl _)
  have HC : Aside ((∀ p, AT C1 1 p = if p < 2 then some ((fun i => if i = 0 then HB 7 else HB 8) p) else none) ∧ Below g w w3) := ⟨f3, f4⟩
  clear f1 f2 f3 f4
  go_wp2_with fail
  refine cD.mono ?_
  rintro e w4 ⟨rfl, hD⟩
  have H4 : Aside (∃ C', STORE w4 g g 1 2 1 2 C' ∧ AT C' 1 0 = none ∧ AT C' 1 1 = some (HB 8) ∧ Below g w w4) := by
    obtain ⟨f3, f4⟩ := HC.out
    obtain ⟨C', d1, d2, d3, d4, d5⟩ := hD
    refine ⟨C', d1, d2 0, ?_, f4.trans d5⟩
    rw [d2, if_neg (by decide), f3]
    rfl
  clear H3 hD cD HC
  obtain ⟨C4, f1, f2, f3, f4⟩ := H4.out
  have cG := get_ok f1 1 (by decide)
  have e1 : GOT C4 1 2 1 = 0 := by unfold GOT; rw [f3]; rfl
  have e2 : GOTH C4 1 2 1 = HB 8 := by unfold GOTH; rw [f3]; rfl
  rw [e1, e2] at cG
  clear e1 e2 f1 f2 f3 f4
  have hz := zeroHash
  go_wp2_with fail
  refine cG.mono ?_
  rintro e w5 ⟨rfl, hb5⟩
  clear cG
  have hst := run_storeCells_new (P := Try.prog) w5 32 (UARR .u8 32 fun _ => 0) (UARR .u8 32 (HB 8)) (info_HASH _) (by rw [UARR_size, UARR_size]) (UARR_one _ _ _)
  have hsu := UARR_size .u8 32 (HB 8)
  obtain ⟨w6, hw6⟩ : ∃ w6, w5.alloc (.cells (UARR .u8 32 (HB 8)) 32) = w6 := ⟨_, rfl⟩
  rw [hw6] at hst
  have hb6 : Below w4.heap.size w4 w6 := by rw [← hw6]; exact hb5.alloc hb5.size _
  have h66 : Has w6 w5.heap.size (UARR .u8 32 (HB 8)) 32 := by rw [← hw6]; exact Has.new w5 _ _
  have cG : Calls Try.prog 9 #[.pointer (some ⟨g, 0, none⟩), .int .u64 0] w6 fun e w' => e = .returned (.tuple #[.agg (UARR .u8 32 fun _ => 0), .int .i64 50]) ∧ Below w6.heap.size w6 w' := by
    obtain ⟨C', f1, f2, f3, f4⟩ := H4.out
    have := get_ok (f1.below hb6) 0 (by decide)
    have e1 : GOT C' 1 2 0 = 50 := by unfold GOT; rw [f2]; rfl
    have e2 : GOTH C' 1 2 0 = fun _ => 0 := by unfold GOTH; rw [f2]; rfl
    rw [e1, e2] at this
    exact this
  clear hw6
  go_wp2_with fail
  refine cG.mono ?_
  rintro e w7 ⟨rfl, hb7⟩
  clear cG hst hsu
  have hst := run_storeCells_new (P := Try.prog) w7 32 (UARR .u8 32 fun _ => 0) (UARR .u8 32 fun _ => 0) (info_HASH _) rfl (UARR_one _ _ _)
  have hsu := UARR_size .u8 32 (fun _ => 0)
  obtain ⟨w8, hw8⟩ : ∃ w8, w7.alloc (.cells (UARR .u8 32 fun _ => 0) 32) = w8 := ⟨_, rfl⟩
  replace hst := hst.trans (by rw [hw8])
  have hb8 : Below w6.heap.size w6 w8 := by rw [← hw8]; exact hb7.alloc hb7.size _
  have h68 := h66.keep hb8
  have hb48 : Below w4.heap.size w4 w8 := hb6.trans (hb8.mono hb6.size)
  have HE : Aside (Below g w w8) := by
    obtain ⟨C', f1, f2, f3, f4⟩ := H4.out
    exact f4.trans (hb48.mono (by have := f1.lt; omega))
  have cL : Calls Try.prog 13 #[.pointer (some ⟨g, 0, none⟩)] w8 fun e w' => e = .returned (.int .u64 2) ∧ w8 = w' := by
    obtain ⟨C', f1, f2, f3, f4⟩ := H4.out
    exact len_ok g 2 w8 (f1.below hb48).c1
  have cA : Calls Try.prog 11 #[.pointer (some ⟨g, 0, none⟩)] w8 fun e w' => e = .returned (.int .u64 1) ∧ w8 = w' := by
    obtain ⟨C', f1, f2, f3, f4⟩ := H4.out
    exact alive_ok g 1 w8 (f1.below hb48).c2
  have hsame := same8
  clear hw8 hb8 hb48 hb7 hb6 hb5 h66 H4
  go_wp2_with (first
    | (refine wpList_load_row_if (by rfl) 32 (.tmp 6) rfl 32 5 w5.heap.size rfl 32 (UARR .u8 32 (HB 8)) (0, 0) h68 Try.underlying32 (info_HASH _) ?_)
    | (refine cL.mono ?_; rintro e w' ⟨rfl, rfl⟩)
    | (refine cA.mono ?_; rintro e w' ⟨rfl, rfl⟩)
    | fail)
  go_ret
  rw [HG.out]
  exact ⟨rfl, HE.out⟩
end Go.Proofs.Ytkhpaldbdpfpiaa
