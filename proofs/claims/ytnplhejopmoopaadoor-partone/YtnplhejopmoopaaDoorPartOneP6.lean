/- Texts of PartOne, one behind the other: HashBig, HashAppend, HashSum, HashSums, HashAll, HashAbc, HashAwake, HashRow. -/
import Derived.Test.YtnplhejopmoopaaDoorProg
import Derived.Deep.AppendLies
import Derived.Laws.AppendOwnNone
import Derived.Test.YtnplhejopmoopaaDoorPartOneP5
/- What Big of package num answers, where eight bytes are asked for. -/
namespace Go.Proofs.YtnplhejopmoopaaDoor.HX
open Go.RowKit

theorem shr_raw (x n : Int) (w : World) : Calls Tryd.prog 103 #[.int .u64 x, .int .i64 n] w fun e w' => e = .returned (.int .u64 (if n < 0 then IntKind.u64.wrap (x * 2 ^ min (IntKind.u64.wrap (-IntKind.u64.wrap n)).toNat 64) else x / 2 ^ min (IntKind.u64.wrap n).toNat 64)) ∧ w = w' := by
  by_cases h : n < 0
  · rw [if_pos h]
    go_enter Tryd.func103, Tryd.ntmps103
    go_wp2
    go_ret
    exact ⟨rfl, rfl⟩
  · rw [if_neg h]
    go_enter Tryd.func103, Tryd.ntmps103
    go_wp2
    go_ret
    exact ⟨rfl, rfl⟩
theorem shr_ok (X : Nat) (n : Int) (hX : X < 2 ^ 64) (h0 : -(2 ^ 63) ≤ n) (h1 : n < 2 ^ 63) (w : World) : Calls Tryd.prog 103 #[.int .u64 (X : Int), .int .i64 n] w fun e w' => e = .returned (.int .u64 ((SHR X n : Nat) : Int)) ∧ w = w' :=
  (shr_raw X n w).mono fun e w' h => by rw [shr_raw_eq hX h0 h1] at h; exact h
/-- an array that is filled from 0 on. -/
theorem bfill_put {F f : Nat → Int} {i : Nat} {v : Int} (A : ∀ j, f j = if j < i then F j else 0) (hv : v = F i) : ∀ j, (if j = i then v else f j) = if j < i + 1 then F j else 0 := fun j => by
  by_cases e : j = i
  · subst e
    simp [hv]
  · rw [if_neg e, A j]
    by_cases e2 : j < i
    · rw [if_pos e2, if_pos (by omega)]
    · rw [if_neg e2, if_neg (by omega)]
theorem big_raw (x : Int) (n : Nat) (F : Nat → Int) (hn : (n : Int) ≤ 8) (w : World) (c : ∀ w, Calls Tryd.prog 103 #[.int .u64 x, .int .i64 (8 * (n : Int))] w fun e w' => e = .returned (.int .u64 0) ∧ w = w')
    (ci : ∀ i : Nat, i < n → ∃ s : Int, Aside (s % 256 = F i) ∧ ∀ w, Calls Tryd.prog 103 #[.int .u64 x, .int .i64 (8 * ((n : Int) - 1 - (i : Int)))] w fun e w' => e = .returned (.int .u64 s) ∧ w = w') :
    Calls Tryd.prog 97 #[.int .u64 x, .int .i64 (n : Int)] w fun e w' => e = .returned (.tuple #[.slice (some ⟨w.heap.size, 0, none⟩) n n, .int .i64 0]) ∧ w.alloc (.cells (BARR n F) 5) = w' := by
  have hmk := make_bytes n (by omega)
  have CI : Aside (∀ i : Nat, i < n → ∃ s : Int, Aside (s % 256 = F i) ∧ ∀ w, Calls Tryd.prog 103 #[.int .u64 x, .int .i64 (8 * ((n : Int) - 1 - (i : Int)))] w fun e w' => e = .returned (.int .u64 s) ∧ w = w') := ci
  clear ci
  go_enter Tryd.func97, Tryd.ntmps97
  go_wp2_with fail
  refine (c _).mono ?_
  rintro e w' ⟨rfl, rfl⟩
  go_wp2
  go_loopg [23] n (fun g s23 wx => ∃ (i : Nat) (f : Nat → Int), i + g = n ∧ Aside (∀ j, f j = if j < i then F j else 0) ∧ s23 = .int .i64 i ∧ wx = w.alloc (.cells (BARR n f) 5))
  case atStart => exact ⟨0, fun _ => 0, by omega, fun j => by simp, rfl, rfl⟩
  case round =>
    obtain ⟨i, f, hig, A, rfl, rfl⟩ := hrel
    cases gk with
    | zero =>
      obtain rfl : i = n := by omega
      have hf : BARR i f = BARR i F := BARR_ext fun j hj => by rw [A.out j, if_pos hj]
      rw [hf]
      clear hf A
      go_wp2
      go_ret2
      exact ⟨rfl, rfl⟩
    | succ g =>
      have hi : (i : Int) < (n : Int) := by omega
      have hc : (BARR n f)[i]? = some (.int .u8 (f i)) := BARR_get n f i (by omega)
      have hs : ∀ v, (BARR n f).setIfInBounds i (.int .u8 v) = BARR n (fun j => if j = i then v else f j) := fun v => BARR_set n f i v
      obtain ⟨s, hsF, cs⟩ := CI.out i (by omega)
      go_wp2_with fail
      refine (cs _).mono ?_
      rintro e w' ⟨rfl, rfl⟩
      go_wp2
      go_roundg g
      case measure => omega
      case rel => exact ⟨i + 1, _, by omega, bfill_put A.out hsF.out, by go_num, rfl⟩
/-- the i-th of n bytes of x, the highest first. -/
def BYTE (X n : Nat) : Nat → Int := fun i => ((X / 2 ^ (8 * (n - 1 - i)) % 256 : Nat) : Int)
theorem big_ok (X n : Nat) (hX : X < 2 ^ 64) (hn : n ≤ 8) (h : X / 2 ^ (8 * n) = 0) (w : World) :
    Calls Tryd.prog 97 #[.int .u64 (X : Int), .int .i64 (n : Int)] w fun e w' => e = .returned (.tuple #[.slice (some ⟨w.heap.size, 0, none⟩) n n, .int .i64 0]) ∧ w.alloc (.cells (BARR n (BYTE X n)) 5) = w' := by
  refine big_raw X n (BYTE X n) (by omega) w (fun w => ?_) (fun i hi => ?_)
  · have k := shr_ok X (8 * (n : Int)) hX (by omega) (by omega) w
    have hs : SHR X (8 * (n : Int)) = 0 := by
      unfold SHR
      rw [if_neg (by omega), show (8 * (n : Int)).toNat = 8 * n by omega, h]
    rw [hs] at k
    exact k
  · refine ⟨(SHR X (8 * ((n : Int) - 1 - (i : Int))) : Nat), ?_, fun w => shr_ok X _ hX (by omega) (by omega) w⟩
    unfold SHR BYTE Aside
    rw [if_neg (by omega), show (8 * ((n : Int) - 1 - (i : Int))).toNat = 8 * (n - 1 - i) by omega]
    simp
end Go.Proofs.YtnplhejopmoopaaDoor.HX

/- append of bytes onto a row of the call's own. -/
namespace Go.Proofs.YtnplhejopmoopaaDoor.HX
open Go.RowKit

/-- bytes as cells. -/
def CELLS (l : List Int) : List Value := l.map (Value.int .u8)
theorem CELLS_append (a b : List Int) : CELLS (a ++ b) = CELLS a ++ CELLS b := by simp [CELLS]
theorem CELLS_get (l : List Int) (i : Nat) (h : i < l.length) : (CELLS l)[i]? = some (.int .u8 (l.getD i 0)) := by
  simp [CELLS, h, List.getD_eq_getElem?_getD]
theorem CELLS_one (l : List Int) : ∀ u ∈ CELLS l, u.oneCell' = true := fun u hu => by
  simp [CELLS] at hu
  obtain ⟨x, _, rfl⟩ := hu
  rfl
theorem info_parts_u8 : ∃ i, Tryd.prog.info? 5 = some i ∧ i.zero = some (.int .u8 0) ∧ i.size = 1 ∧ i.bytes = 1 := by
  obtain ⟨i, hi, h⟩ := Option.map_eq_some_iff.1 info_u8
  simp only [Prod.mk.injEq] at h
  exact ⟨i, hi, h.1, h.2.1, h.2.2⟩

theorem app_u8 {ops : Array Oper} {rest : List Oper} {o : Oper} {a : Act} {Q : Exit → Act → World → Prop} (w : World) (hgd : o.guard = none) (s x : Operand)
    (ho : o.op = .call { callee := .builtin .append, args := #[s, x], argTypes := #[104, 104] })
    (base : Nat) (v : Value) (n : Nat) (xs : List Int) (hs : a.eval s = v) (hown : w.ownsRow base 5 1 v n (CELLS xs))
    (b off m c : Nat) (l : List Int) (hx : a.eval x = .slice (some ⟨b, off, none⟩) m c) (hB : Bytes w (some ⟨b, off, none⟩) m l)
    (hm : 0 < m) (hb : n + m ≤ 140737488355328) (hbase : base ≤ w.heap.size)
    (h : ∀ g cap w', w'.ownsRow base 5 1 (.slice (some ⟨g, 0, none⟩) (n + m) cap) (n + m) (CELLS (xs ++ l)) → w.grownBy w' v.ownBlock → g < w'.heap.size → wpList Tryd.prog ops Q rest (a.put o.dst (.slice (some ⟨g, 0, none⟩) (n + m) cap)) w') : wpList Tryd.prog ops Q (o :: rest) a w := by
  obtain ⟨i, hi, hz, hs1, hby⟩ := info_parts_u8
  obtain ⟨b', off', e, _, hc⟩ := hB.2.1 hm
  simp only [Option.some.injEq, Addr.mk.injEq] at e
  obtain ⟨rfl, rfl, _⟩ := e
  refine wpList_append_lies w hgd s x 104 ho base 5 i (.int .u8 0) 1 1 Tryd.underlying104 hi hz hs1 hby rfl (by decide) v n (CELLS xs) hs hown ⟨b, off, none⟩ m c (CELLS l) hx (by simp [CELLS, hB.1]) ?_ (CELLS_one l) hm (by simp only [maxLen]; omega) (by omega) hbase w.heap.size rfl ?_
  · intro j u hj
    have hjl : j < l.length := by
      have := (List.getElem?_eq_some_iff.1 hj).1
      simpa [CELLS] using this
    rw [CELLS_get l j hjl] at hj
    rw [addr_add, hc j (by rw [← hB.1]; exact hjl)]
    exact hj
  · intro g cap w' h1 h2 _ h4
    rw [← CELLS_append] at h1
    exact h g cap w' h1 h2 h4

theorem grown_refl (w : World) (row : Option Nat) : w.grownBy w row := ⟨rfl, rfl, rfl, Nat.le_refl _, fun _ _ _ => rfl⟩
/-- nothing is appended. -/
theorem app_zero {ops : Array Oper} {rest : List Oper} {o : Oper} {a : Act} {Q : Exit → Act → World → Prop} (w : World) (hgd : o.guard = none) (s x : Operand)
    (ho : o.op = .call { callee := .builtin .append, args := #[s, x], argTypes := #[104, 104] })
    (base : Nat) (v : Value) (n : Nat) (xs : List Int) (hs : a.eval s = v) (hown : w.ownsRow base 5 1 v n (CELLS xs))
    (ao : Option Addr) (c : Nat) (hx : a.eval x = .slice ao 0 c) (hc : ao = none → c = 0) (hn : n ≤ 140737488355328) (hbase : base ≤ w.heap.size)
    (h : ∀ a' c' w', w'.ownsRow base 5 1 (.slice a' n c') n (CELLS xs) → w.grownBy w' v.ownBlock → wpList Tryd.prog ops Q rest (a.put o.dst (.slice a' n c')) w') : wpList Tryd.prog ops Q (o :: rest) a w := by
  obtain ⟨i, hi, hz, hs1, hby⟩ := info_parts_u8
  have form : ∀ (v' : Value) (w' : World), w'.ownsRow base 5 1 v' n (CELLS xs) → ∃ a' c', v' = .slice a' n c' := fun v' w' h => by
    rcases h.2 with ⟨rfl, rfl⟩ | ⟨g, cap, cur, rfl, _⟩
    · exact ⟨none, 0, rfl⟩
    · exact ⟨_, cap, rfl⟩
  cases ao with
  | none =>
    obtain rfl := hc rfl
    refine wpList_append_own_none hgd s x 104 ho base 5 i 1 Tryd.underlying104 hi v n (CELLS xs) hs hown hx ?_
    obtain ⟨a', c', rfl⟩ := form v w hown
    exact h a' c' w hown (grown_refl _ _)
  | some ad =>
    refine wpList_append_own w hgd s x 104 ho base 5 i (.int .u8 0) 1 1 Tryd.underlying104 hi hz hs1 hby rfl (by decide) v n (CELLS xs) hs hown ad 0 c [] hx rfl (fun j u hj => by simp at hj) (fun u hu => by simp at hu) (by simp only [maxLen]; omega) (by omega) hbase ?_
    intro v' w' h1 h2 _
    simp only [Nat.add_zero, List.append_nil] at h1
    obtain ⟨a', c', rfl⟩ := form v' w' h1
    exact h a' c' w' h1 h2

/-- what is owned reads so. -/
theorem own_bytes {w : World} {base g n cap : Nat} {l : List Int} (h : w.ownsRow base 5 1 (.slice (some ⟨g, 0, none⟩) n cap) n (CELLS l)) (hg : g < w.heap.size) (hl : ∀ x ∈ l, 0 ≤ x ∧ x ≤ 255) : Bytes w (some ⟨g, 0, none⟩) n l := by
  have hlen : l.length = n := by have := h.1; simpa [CELLS] using this
  refine ⟨hlen, fun _ => ⟨g, 0, rfl, hg, fun i hi => ?_⟩, hl⟩
  rw [Nat.zero_add, h.cellAt i (by omega), CELLS_get l i (by omega)]
theorem row_bytes (w : World) (n : Nat) (f : Nat → Int) (l : List Int) (hl : l.length = n) (hf : ∀ i, i < n → f i = l.getD i 0) (hr : ∀ x ∈ l, 0 ≤ x ∧ x ≤ 255) : Bytes (w.alloc (.cells (BARR n f) 5)) (some ⟨w.heap.size, 0, none⟩) n l := by
  refine ⟨hl, fun _ => ⟨w.heap.size, 0, rfl, by simp, fun i hi => ?_⟩, hr⟩
  rw [Nat.zero_add, World.cell?_alloc_at _ _ _ _ rfl, BARR_get n f i hi, hf i hi]

theorem own_bytes_any {w : World} {base n c : Nat} {a : Option Addr} {l : List Int} (h : w.ownsRow base 5 1 (.slice a n c) n (CELLS l)) (hl : ∀ x ∈ l, 0 ≤ x ∧ x ≤ 255) : Bytes w a n l ∧ n ≤ c := by
  rcases h.2 with ⟨hv, hn⟩ | ⟨g, cap, cur, hv, _, hg, hc, _⟩
  · simp only [Value.slice.injEq] at hv
    obtain ⟨rfl, rfl, rfl⟩ := hv
    have : l = [] := by have := h.1; simpa [CELLS] using this
    subst this
    exact ⟨⟨rfl, fun h => by omega, fun x hx => by simp at hx⟩, Nat.le_refl _⟩
  · simp only [Value.slice.injEq] at hv
    obtain ⟨rfl, _, rfl⟩ := hv
    exact ⟨own_bytes h (Array.getElem?_eq_some_iff.1 hg).1 hl, hc⟩
/-- bytes are appended, or none. -/
theorem app_any {ops : Array Oper} {rest : List Oper} {o : Oper} {a : Act} {Q : Exit → Act → World → Prop} (w : World) (hgd : o.guard = none) (s x : Operand)
    (ho : o.op = .call { callee := .builtin .append, args := #[s, x], argTypes := #[104, 104] })
    (base : Nat) (v : Value) (n : Nat) (xs : List Int) (hs : a.eval s = v) (hown : w.ownsRow base 5 1 v n (CELLS xs))
    (ao : Option Addr) (m c : Nat) (l : List Int) (hx : a.eval x = .slice ao m c) (hB : Bytes w ao m l) (hc : ao = none → c = 0)
    (N : Nat) (L : List Int) (hN : n + m = N) (hL : xs ++ l = L) (hb : N ≤ 140737488355328) (hbase : base ≤ w.heap.size)
    (h : ∀ a' c' w', w'.ownsRow base 5 1 (.slice a' N c') N (CELLS L) → w.grownBy w' v.ownBlock → wpList Tryd.prog ops Q rest (a.put o.dst (.slice a' N c')) w') : wpList Tryd.prog ops Q (o :: rest) a w := by
  subst hN hL
  rcases Nat.eq_zero_or_pos m with hm | hm
  · subst hm
    have hl : l = [] := by have := hB.1; simpa using this
    subst hl
    refine app_zero w hgd s x ho base v n xs hs hown ao c hx hc (by omega) hbase ?_
    simpa using h
  · obtain ⟨b, off, rfl, _, _⟩ := hB.2.1 hm
    refine app_u8 w hgd s x ho base v n xs hs hown b off m c l hx hB hm hb hbase ?_
    intro g cap w' h1 h2 _
    exact h _ cap w' h1 h2

end Go.Proofs.YtnplhejopmoopaaDoor.HX

/- What ending, New and the Sum of a Hasher answer. -/
namespace Go.Proofs.YtnplhejopmoopaaDoor.HX
open Go.RowKit
set_option maxRecDepth 100000

/-! bytes as natural numbers -/
def INTS (l : List Nat) : List Int := l.map fun (x : Nat) => (x : Int)
theorem INTS_get (l : List Nat) (i : Nat) : (INTS l).getD i 0 = ((l.getD i 0 : Nat) : Int) := by
  unfold INTS
  rw [List.getD_eq_getElem?_getD, List.getElem?_map, List.getD_eq_getElem?_getD]
  cases l[i]? <;> rfl
theorem Text.bytes {w : World} {a : Option Addr} {n : Nat} {l : List Nat} (h : Text w a n l) : Bytes w a n (INTS l) :=
  ⟨by rw [INTS, List.length_map]; exact h.1, fun hn => by
    obtain ⟨b, off, e, hl, hc⟩ := h.2.1 hn
    exact ⟨b, off, e, hl, fun i hi => by rw [INTS_get]; exact hc i hi⟩, fun x hx => by
    obtain ⟨y, hy, rfl⟩ := List.mem_map.1 hx
    have := h.2.2 y hy
    omega⟩
theorem Text.of_bytes {w : World} {a : Option Addr} {n : Nat} {l : List Nat} (h : Bytes w a n (INTS l)) : Text w a n l :=
  ⟨by have := h.1; rwa [INTS, List.length_map] at this, fun hn => by
    obtain ⟨b, off, e, hl, hc⟩ := h.2.1 hn
    exact ⟨b, off, e, hl, fun i hi => by rw [← INTS_get]; exact hc i hi⟩, fun x hx => by
    have := h.2.2 (x : Int) (List.mem_map.2 ⟨x, hx, rfl⟩)
    omega⟩
theorem INTS_bounds {l : List Nat} (h : Small8 l) : ∀ x ∈ INTS l, 0 ≤ x ∧ x ≤ 255 := fun x hx => by
  obtain ⟨y, hy, rfl⟩ := List.mem_map.1 hx
  have := h y hy
  omega
theorem INTS_append (a b : List Nat) : INTS (a ++ b) = INTS a ++ INTS b := by simp [INTS]

/-- the i-th of the eight bytes of X, the highest first. -/
def BE8 (X : Nat) : List Nat := (List.range 8).map fun i => X / 2 ^ (8 * (7 - i)) % 256
/-- how many noughts stand behind a text of n bytes. -/
def NOUGHTS (n : Nat) : Nat := (119 - n % 64) % 64
/-- what stands behind a text of n bytes. -/
def HEAD (n : Nat) : List Nat := 128 :: List.replicate (NOUGHTS n) 0
def END (n : Nat) : List Nat := HEAD n ++ BE8 (8 * n)
theorem BE8_length (X : Nat) : (BE8 X).length = 8 := by simp [BE8]
theorem HEAD_length (n : Nat) : (HEAD n).length = NOUGHTS n + 1 := by simp [HEAD]
theorem END_length (n : Nat) : (END n).length = NOUGHTS n + 9 := by rw [END, List.length_append, HEAD_length, BE8_length]
theorem BE8_small (X : Nat) : Small8 (BE8 X) := fun x hx => by
  simp [BE8] at hx
  obtain ⟨i, _, rfl⟩ := hx
  exact Nat.mod_lt _ (by decide)
theorem END_small (n : Nat) : Small8 (END n) := fun x hx => by
  rcases List.mem_append.1 hx with hx | hx
  · rcases List.mem_cons.1 hx with rfl | hx
    · decide
    · rw [List.eq_of_mem_replicate hx]
      decide
  · exact BE8_small _ x hx
theorem NOUGHTS_raw (n : Nat) : (IntKind.u64.wrap (55 - (n : Int))).tmod 64 = ((NOUGHTS n : Nat) : Int) := by
  unfold NOUGHTS
  rw [wrapU]
  rw [Int.tmod_eq_emod_of_nonneg (by omega)]
  omega
theorem HEAD_get (n i : Nat) : (HEAD n).getD i 0 = if i = 0 then 128 else 0 := by
  unfold HEAD
  cases i with
  | zero => rfl
  | succ i =>
    rw [if_neg (by omega)]
    show (List.replicate (NOUGHTS n) 0).getD i 0 = 0
    rw [List.getD_eq_getElem?_getD, List.getElem?_replicate]
    split <;> rfl

theorem ineight_ok (X : Nat) (hX : X < 2 ^ 64) (w : World) : Calls Tryd.prog 83 #[.int .u64 (X : Int)] w fun e w' => e = .returned (.slice (some ⟨w.heap.size, 0, none⟩) 8 8) ∧ w.alloc (.cells (BARR 8 (BYTE X 8)) 5) = w' := by
  have cb : ∀ w, Calls Tryd.prog 97 #[.int .u64 (X : Int), .int .i64 8] w fun e w' => e = .returned (.tuple #[.slice (some ⟨w.heap.size, 0, none⟩) 8 8, .int .i64 0]) ∧ w.alloc (.cells (BARR 8 (BYTE X 8)) 5) = w' := fun w => big_ok X 8 hX (by decide) (Nat.div_eq_of_lt hX) w
  clear hX
  go_enter Tryd.func83, Tryd.ntmps83
  go_wp2_with fail
  refine (cb _).mono ?_
  rintro e w' ⟨rfl, rfl⟩
  go_wp2
  go_ret
  exact ⟨rfl, rfl⟩
theorem owns_has {w : World} {base g m k : Nat} {f : Nat → Int} {xs : List Int} (h : Has w g (BARR k f) 5) (hb : base ≤ g) (hm : m ≤ k) (hk : k ≤ 1000) (hx : xs.length = m) (hf : ∀ i, i < m → f i = xs.getD i 0) : w.ownsRow base 5 1 (.slice (some ⟨g, 0, none⟩) m k) m (CELLS xs) := by
  refine ⟨by simp [CELLS, hx], Or.inr ⟨g, k, BARR k f, rfl, hb, h, hm, by simp only [maxLen]; omega, by rw [BARR_size]; omega, ?_⟩⟩
  rw [Nat.mul_one]
  apply List.ext_getElem?
  intro i
  by_cases hi : i < m
  · rw [CELLS_get _ _ (by omega), List.getElem?_take_of_lt hi]
    have := BARR_get k f i (by omega)
    rw [← Array.getElem?_toList] at this
    rw [this, hf i hi]
  · rw [List.getElem?_eq_none (by rw [List.length_take]; omega), List.getElem?_eq_none (by simp [CELLS]; omega)]
theorem ending_ok (n : Nat) (hn : n < 2 ^ 60) (w : World) : Calls Tryd.prog 79 #[.int .u64 (n : Int)] w fun e w' =>
    ∃ a c, e = .returned (.slice a (NOUGHTS n + 9) c) ∧ Text w' a (NOUGHTS n + 9) (END n) ∧ NOUGHTS n + 9 ≤ c ∧ (∀ x, a = some x → w.heap.size ≤ x.block) ∧ Below w.heap.size w w' := by
  have hN := NOUGHTS_raw n
  obtain ⟨m, hm⟩ : ∃ m, m = NOUGHTS n + 1 := ⟨_, rfl⟩
  have hz : NOUGHTS n < 64 := Nat.mod_lt _ (by decide)
  have hw1 : IntKind.u64.wrap (1 + ((NOUGHTS n : Nat) : Int)) = (m : Int) := by rw [wrapU]; omega
  have hmk : ∀ w : World, (Instr.makeSlice 104 (.int .u64 (m : Int)) (.int .i64 73)).run Tryd.prog w = .ok (.slice (some ⟨w.heap.size, 0, none⟩) m 73) (w.alloc (.cells (BARR 73 fun _ => 0) 5)) := fun w => by
    obtain ⟨i8, hi, h8⟩ := Option.map_eq_some_iff.1 info_u8
    simp only [Prod.mk.injEq] at h8
    have h := run_make (P := Tryd.prog) w 104 5 i8 (.int .u8 0) Tryd.underlying104 hi h8.1 .u64 .i64 (m : Int) 73 (by omega) (by omega) (by rw [h8.2.2]; decide) (by decide)
    rw [h8.2.1] at h
    have e : madeCells (Value.int .u8 0).cells (((73 : Int).toNat) * 1) = BARR 73 fun _ => 0 := BARR_made 73
    rw [e] at h
    exact h
  have hX : IntKind.u64.wrap (8 * (n : Int)) = ((8 * n : Nat) : Int) := by rw [wrapU]; omega
  have ci := ineight_ok (8 * n) (by omega)
  generalize hx8 : 8 * n = X at *
  have H : Aside (8 * n = X ∧ m = NOUGHTS n + 1 ∧ NOUGHTS n < 64) := ⟨hx8, hm, hz⟩
  have hm0 : (0 : Int) < (m : Int) := by omega
  clear hx8 hm hz hn
  generalize hz2 : NOUGHTS n = z at *
  have HZ : Aside (NOUGHTS n = z) := hz2
  clear hz2
  go_enter Tryd.func79, Tryd.ntmps79
  go_wp2_with fail
  refine (ci _).mono ?_
  rintro e w1 ⟨rfl, rfl⟩
  clear ci
  have e0 : (BARR 73 fun _ => 0).setIfInBounds 0 (Value.int .u8 128) = BARR 73 fun j => if j = 0 then 128 else 0 := BARR_set 73 _ 0 128
  rw [e0]
  clear e0
  have hH : Has ((w.alloc (.cells (BARR 73 fun j => if j = 0 then 128 else 0) 5)).alloc (.cells (BARR 8 (BYTE X 8)) 5)) w.heap.size (BARR 73 fun j => if j = 0 then 128 else 0) 5 := (Has.new w _ _).alloc _
  have hO : ((w.alloc (.cells (BARR 73 fun j => if j = 0 then 128 else 0) 5)).alloc (.cells (BARR 8 (BYTE X 8)) 5)).ownsRow w.heap.size 5 1 (.slice (some ⟨w.heap.size, 0, none⟩) m 73) m (CELLS (INTS (HEAD n))) := by
    refine owns_has hH (Nat.le_refl _) (by have := H.out; omega) (by decide) (by rw [INTS, List.length_map, HEAD_length, HZ.out]; exact H.out.2.1.symm) (fun i _ => ?_)
    rw [INTS_get, HEAD_get]
    split <;> rfl
  have hT : Bytes ((w.alloc (.cells (BARR 73 fun j => if j = 0 then 128 else 0) 5)).alloc (.cells (BARR 8 (BYTE X 8)) 5)) (some ⟨w.heap.size + 1, 0, none⟩) 8 (INTS (BE8 X)) := by
    have h := row_bytes (w.alloc (.cells (BARR 73 fun j => if j = 0 then 128 else 0) 5)) 8 (BYTE X 8) (INTS (BE8 X)) (by rw [INTS, List.length_map, BE8_length]) (fun i hi => by
      rw [INTS_get]
      unfold BYTE BE8
      rw [List.getD_eq_getElem?_getD, List.getElem?_map, List.getElem?_range hi]
      rfl) (INTS_bounds (BE8_small X))
    have e : (w.alloc (.cells (BARR 73 fun j => if j = 0 then 128 else 0) 5)).heap.size = w.heap.size + 1 := by simp
    rw [e] at h
    exact h
  have hB : Below w.heap.size w ((w.alloc (.cells (BARR 73 fun j => if j = 0 then 128 else 0) 5)).alloc (.cells (BARR 8 (BYTE X 8)) 5)) := ((Below.refl _ _).alloc (Nat.le_refl _) _).alloc (by simp) _
  have R : Aside (_ ∧ _ ∧ _) := ⟨hO, hT, hB⟩
  clear hH hO hT hB
  go_wp2_with (at_builtin; refine app_u8 _ rfl (.tmp 13) (.tmp 16) rfl w.heap.size (.slice (some ⟨w.heap.size, 0, none⟩) m 73) m (INTS (HEAD n)) rfl R.out.1 (w.heap.size + 1) 0 8 8 (INTS (BE8 X)) rfl R.out.2.1 (by decide) (by have := H.out; omega) (by simp; omega) ?_; intro g cap w' hown hgrow hg)
  have hb2 : Below w.heap.size w w' := R.out.2.2.grown hgrow (by simp; omega) (fun k e => by simp [Value.ownBlock] at e; omega)
  have hge : w.heap.size ≤ g := by
    rcases hown.2 with ⟨h, _⟩ | ⟨g2, c2, cur, h, hle, _⟩
    · simp at h
    · simp only [Value.slice.injEq, Option.some.injEq, Addr.mk.injEq] at h
      omega
  rw [← INTS_append, ← H.out.1] at hown
  have hown2 : w'.ownsRow w.heap.size 5 1 (.slice (some ⟨g, 0, none⟩) (m + 8) cap) (m + 8) (CELLS (INTS (END n))) := hown
  obtain ⟨hby, hle⟩ := own_bytes_any hown2 (INTS_bounds (END_small n))
  have S : Aside (Bytes w' (some ⟨g, 0, none⟩) (m + 8) (INTS (END n)) ∧ m + 8 ≤ cap ∧ w.heap.size ≤ g ∧ Below w.heap.size w w') := ⟨hby, hle, hge, hb2⟩
  clear hb2 hge hown hown2 hby hle hgrow hg R
  go_wp2
  go_ret
  obtain ⟨s1, s2, s3, s4⟩ := S.out
  have e : m + 8 = z + 9 := by have := H.out; omega
  rw [e] at s1 s2
  refine ⟨some ⟨g, 0, none⟩, cap, ?_, Text.of_bytes s1, s2, fun x hx => by simp only [Option.some.injEq] at hx; rw [← hx]; exact s3, s4⟩
  rw [← e]
  rfl
end Go.Proofs.YtnplhejopmoopaaDoor.HX

/- What New and the Sum of a Hasher answer. -/
namespace Go.Proofs.YtnplhejopmoopaaDoor.HX
open Go.RowKit
set_option maxRecDepth 100000

theorem begin_lt (i : Nat) : BEGIN.getD i 0 < 2 ^ 32 := by
  by_cases h : i < 8
  · have : ∀ j, j < 8 → BEGIN.getD j 0 < 2 ^ 32 := by decide
    exact this i h
  · have : BEGIN.length = 8 := rfl
    rw [List.getD_eq_getElem?_getD, List.getElem?_eq_none (by omega)]
    decide
theorem Tabled.begin {w : World} (h : Tabled w) : w.rangeAt 1 0 (ULIST .u32 8 fun i => BEGIN.getD i 0) := fun j v hv => by
  have hj : j < 8 := by have := (List.getElem?_eq_some_iff.1 hv).1; rw [ULIST_length] at this; exact this
  rw [ULIST_get _ _ _ _ hj] at hv
  rw [Nat.zero_add, h.2.1 j hj, hv]
theorem first_ok (d : Int) (w : World) (hT : Tabled w) : Calls Tryd.prog 77 #[.int .i64 d] w fun e w' => e = .returned (.agg (UARR .u8 32 (FIRST d))) ∧ Below w.heap.size w w' := by
  have hz := zero32
  have cj := joined_ok (fun i => BEGIN.getD i 0) begin_lt
  have cn := narrow_ok d (BYTEW fun i => BEGIN.getD i 0)
  have HT : Aside (Tabled w) := hT
  clear hT
  go_enter Tryd.func77, Tryd.ntmps77
  go_wp2_with (first
    | (refine wpList_load_mid rfl 145 _ rfl 1 0 rfl (ULIST .u32 8 fun i => BEGIN.getD i 0) _ (World.rangeAt_alloc HT.out.begin _) Tryd.underlying145 rfl (by rw [ULIST_length]; exact info_w8) ?_))
  rw [← UARR_list]
  refine (cj _).mono ?_
  rintro e w1 ⟨rfl, hb1⟩
  clear cj
  have R : Aside (Below w.heap.size w w1 ∧ Has w1 w.heap.size (UARR .u8 32 fun _ => 0) 27) := ⟨((Below.refl _ _).alloc (Nat.le_refl _) _).trans (hb1.mono (by simp)), (Has.new w _ _).keep hb1⟩
  clear hb1
  go_wp2_with fail
  refine (cn _).mono ?_
  rintro e w2 ⟨rfl, hb2⟩
  clear cn
  have Q : Aside (Below w.heap.size w w2 ∧ Has w2 w.heap.size (UARR .u8 32 fun _ => 0) 27) := ⟨R.out.1.trans (hb2.mono R.out.1.size), R.out.2.keep hb2⟩
  clear R hb2 hz
  go_wp2_with (first
    | (refine wpList_store_row rfl 27 _ _ rfl _ _ rfl rfl _ _ Q.out.2 (info_HASH _) (by rw [UARR_size, UARR_size]) (UARR_one _ _ _) ?_))
  refine bodyPost_ret (v := .agg (UARR .u8 32 (FIRST d))) ?_ rfl ⟨rfl, below_row Q.out.1 (Nat.le_refl _) _⟩
  exact results_cell_row rfl _ _ w.heap.size 27 _ (0, 0) _ rfl (Q.out.2.row _) Tryd.underlying27 rfl (info_HASH _)
theorem setRow_last2 (w : World) (o : Obj) (c c' : Array Value) (t : TypeId) : ((w.alloc o).alloc (.cells c t)).setRow (w.heap.size + 1) c' = (w.alloc o).alloc (.cells c' t) := by
  have e : (w.alloc o).heap.size = w.heap.size + 1 := by simp
  rw [← e]
  exact World.setRow_alloc_new _ _ _ _
theorem new_ok (d : Int) (w : World) (hT : Tabled w) : Calls Tryd.prog 65 #[.int .i64 d] w fun e w' => ∃ g, e = .returned (.pointer (some ⟨g, 0, none⟩)) ∧ w.heap.size ≤ g ∧ HASHER w' g d [] ∧ Below w.heap.size w w' := by
  have cf := fun w (h : Tabled w) => first_ok d w h
  have HT : Aside (Tabled w) := hT
  clear hT
  go_enter Tryd.func65, Tryd.ntmps65
  go_wp2_with fail
  refine (cf _ (by exact HT.out)).mono ?_
  rintro e w1 ⟨rfl, hb1⟩
  clear cf
  have R : Aside (Below w.heap.size w w1) := hb1
  clear hb1
  go_wp2_with (first | (refine wpList_build rfl 132 _ rfl (by kernel_rfl) ?_; generalize hc : Option.getD (Tryd.prog.built 132 _) #[] = C; obtain rfl : HARR d (FIRST d) (fun _ => 0) 0 = C := by { rw [← hc]; kernel_rfl }; clear hc))
  go_ret
  refine ⟨w1.heap.size, rfl, R.out.size, ⟨fun _ => 0, Has.new _ _ _, fun _ => (by decide : (0 : Nat) < 256), fun i hi => ?_⟩, R.out.alloc R.out.size _⟩
  simp at hi
theorem zero_hasher : ∀ w, (zeroValue 132).run Tryd.prog w = .ok (.agg (HARR 0 (fun _ => 0) (fun _ => 0) 0)) w := (zero_of_info (P := Tryd.prog) (n := 98) (by kernel_rfl)).1
/-- the hash of a text. -/
def HASHOF (d : Int) (l : List Nat) : Nat → Nat := STATE d (l ++ END l.length) ((l ++ END l.length).length / 64)
theorem HASHER.below {w w' : World} {g : Nat} {d : Int} {l : List Nat} (h : HASHER w g d l) (hb : Below w.heap.size w w') : HASHER w' g d l := by
  obtain ⟨b, h1, h2⟩ := h
  exact ⟨b, h1.keep hb, h2⟩
theorem sumh_ok (g : Nat) (d : Int) (l : List Nat) (w : World) (hH : HASHER w g d l) (hT : Tabled w) (hl : Small8 l) (hlen : l.length < 2 ^ 60) : Calls Tryd.prog 67 #[.pointer (some ⟨g, 0, none⟩)] w fun e w' => e = .returned (.agg (UARR .u8 32 (HASHOF d l))) ∧ Below w.heap.size w w' := by
  have hz := zero32
  have hz98 := zero_hasher
  obtain ⟨b, hHas, hb8, hbl⟩ := hH
  have ce := ending_ok l.length hlen
  have H : Aside (Tabled w ∧ Small8 l ∧ l.length < 2 ^ 60 ∧ Has w g (HARR d (STATE d l (l.length / 64)) b l.length) 132 ∧ (∀ i, b i < 256) ∧ ∀ i, i < l.length % 64 → b i = l.getD (64 * (l.length / 64) + i) 0) := ⟨hT, hl, hlen, hHas, hb8, hbl⟩
  have ct : ((w.alloc (.cells (UARR .u8 32 fun _ => 0) 27)).alloc (.cells (HARR d (STATE d l (l.length / 64)) b l.length) 132)).cell? ⟨g, 97, none⟩ = some (.int .u64 (l.length : Nat)) := by rw [((hHas.alloc _).alloc _).cell, HARR_taken]
  clear hT hl hlen hHas hb8 hbl
  go_enter Tryd.func67, Tryd.ntmps67
  go_wp2_with (first
    | (refine wpList_load_row rfl 132 _ rfl _ rfl 132 (HARR d (STATE d l (l.length / 64)) b l.length) (0, 0) _ (H.out.2.2.2.1.alloc _) Tryd.underlying132 rfl (info_HASHER _ _ _ _) ?_)
    | (refine wpList_store_row rfl 132 _ _ rfl _ _ rfl rfl 132 (HARR 0 (fun _ => 0) (fun _ => 0) 0) (Has.at _ _ _ (by simp)) (info_HASHER _ _ _ _) (by rw [HARR_size, HARR_size]) (HARR_one _ _ _ _) ?_; rw [setRow_last2]))
  refine (ce _).mono ?_
  rintro e w1 ⟨a1, c1, rfl, ht1, hc1, hs1, hb1⟩
  clear ce
  have hH1 : HASHER w1 (w.heap.size + 1) d l := by
    obtain ⟨h1, h2, h3, h4, h5, h6⟩ := H.out
    exact ⟨b, (Has.at _ _ _ (by simp)).keep hb1, h5, h6⟩
  have hT1 : Tabled w1 := (H.out.1.below (((Below.refl _ _).alloc (Nat.le_refl _) _).alloc (by simp) _)).below hb1
  have cw := write_ok (w.heap.size + 1) d l (END l.length) a1 (NOUGHTS l.length + 9) c1 w1 hH1 hT1 (by have := H.out.1.2.2; omega) ht1 (fun x hx => by have := hs1 x hx; simp at this; omega) hc1 H.out.2.1 (by have := H.out.2.2.1; have : NOUGHTS l.length < 64 := Nat.mod_lt _ (by decide); omega)
  have R : Aside (Below w.heap.size w w1 ∧ Has w1 w.heap.size (UARR .u8 32 fun _ => 0) 27) := ⟨(((Below.refl _ _).alloc (Nat.le_refl _) _).alloc (by simp) _).trans (hb1.mono (by simp; omega)), ((Has.new w _ _).alloc _).keep hb1⟩
  clear ht1 hc1 hs1 hb1 hH1 hT1 hz hz98
  go_wp2_with fail
  refine cw.mono ?_
  rintro e w2 ⟨rfl, ⟨b2, hH2, _⟩, hG2⟩
  clear cw
  have S : Aside (Below w.heap.size w w2 ∧ Has w2 w.heap.size (UARR .u8 32 fun _ => 0) 27 ∧ w2.rangeAt (w.heap.size + 1) 1 (ULIST .u8 32 (HASHOF d l))) :=
    ⟨R.out.1.grown hG2 R.out.1.size (fun k e => by simp at e; omega), (hG2.block _ R.out.2.lt (by simp)).trans R.out.2, hH2.state⟩
  clear R hH2 hG2
  go_wp2_with (first
    | (refine wpList_load_mid rfl 27 _ rfl (w.heap.size + 1) 1 rfl (ULIST .u8 32 (HASHOF d l)) _ S.out.2.2 Tryd.underlying27 rfl (by rw [ULIST_length]; exact info_hash) ?_; rw [← UARR_list])
    | (refine wpList_store_row rfl 27 _ _ rfl _ _ rfl rfl _ _ S.out.2.1 (info_HASH _) (by rw [UARR_size, UARR_size]) (UARR_one _ _ _) ?_))
  refine bodyPost_ret (v := .agg (UARR .u8 32 (HASHOF d l))) ?_ rfl ⟨rfl, below_row S.out.1 (Nat.le_refl _) _⟩
  exact results_cell_row rfl _ _ w.heap.size 27 _ (0, 0) _ rfl (S.out.2.1.row _) Tryd.underlying27 rfl (info_HASH _)
end Go.Proofs.YtnplhejopmoopaaDoor.HX

/- What Sum of package hash answers. -/
namespace Go.Proofs.YtnplhejopmoopaaDoor.HX
open Go.RowKit
set_option maxRecDepth 100000

/-- a slice of bytes and what it reads as. -/
structure PART where
  a : Option Addr
  n : Nat
  c : Nat
  l : List Nat
/-- slices of bytes, each in a cell. -/
def Parts (w : World) (a : Option Addr) (k : Nat) (ps : List PART) : Prop :=
  ps.length = k ∧ (0 < k → ∃ b off, a = some ⟨b, off, none⟩ ∧ b < w.heap.size ∧ ∀ i p, ps[i]? = some p → w.cell? ⟨b, off + i, none⟩ = some (.slice p.a p.n p.c)) ∧ ∀ p ∈ ps, Text w p.a p.n p.l ∧ p.n ≤ p.c ∧ ∀ x, p.a = some x → x.block < w.heap.size
/-- the parts, one behind the other. -/
def JOIN (ps : List PART) : List Nat := (ps.map PART.l).flatten
theorem JOIN_snoc (ps : List PART) (p : PART) : JOIN (ps ++ [p]) = JOIN ps ++ p.l := by simp [JOIN]
theorem JOIN_small {w : World} {a : Option Addr} {k : Nat} {ps : List PART} (h : Parts w a k ps) : ∀ qs : List PART, (∀ p ∈ qs, p ∈ ps) → Small8 (JOIN qs) := fun qs hq x hx => by
  obtain ⟨y, hy, hx⟩ := List.mem_flatten.1 hx
  obtain ⟨p, hp, rfl⟩ := List.mem_map.1 hy
  exact (h.2.2 p (hq p hp)).1.2.2 x hx
theorem JOIN_take_length (ps : List PART) (k : Nat) : (JOIN (ps.take k)).length ≤ (JOIN ps).length := by
  have : JOIN ps = JOIN (ps.take k) ++ JOIN (ps.drop k) := by
    unfold JOIN
    rw [← List.flatten_append, ← List.map_append, List.take_append_drop]
  rw [this, List.length_append]
  omega
theorem sum_ok (d : Int) (a : Option Addr) (k c : Nat) (ps : List PART) (w : World) (hP : Parts w a k ps) (hT : Tabled w) (hlen : (JOIN ps).length < 2 ^ 60) (hkk : k < 2 ^ 60) : Calls Tryd.prog 55 #[.int .i64 d, .slice a k c] w fun e w' => e = .returned (.agg (UARR .u8 32 (HASHOF d (JOIN ps)))) ∧ Below w.heap.size w w' := by
  have hz := zero32
  have H : Aside (Parts w a k ps ∧ Tabled w ∧ (JOIN ps).length < 2 ^ 60) := ⟨hP, hT, hlen⟩
  have HK : Aside (k < 2 ^ 60) := hkk
  have cn := fun w (h : Tabled w) => new_ok d w h
  clear hP hT hlen hkk
  go_enter Tryd.func55, Tryd.ntmps55
  go_wp2_with fail
  refine (cn _ (H.out.2.1.below ((Below.refl _ _).alloc (Nat.le_refl _) _))).mono ?_
  rintro e w1 ⟨g, rfl, hg, hH, hb1⟩
  clear cn
  have hb : Below w.heap.size w w1 := ((Below.refl _ _).alloc (Nat.le_refl _) _).trans (hb1.mono (by simp))
  have R : Aside (w.heap.size < g ∧ HASHER w1 g d [] ∧ Below w.heap.size w w1 ∧ Has w1 w.heap.size (UARR .u8 32 fun _ => 0) 27) := ⟨by simp at hg; omega, hH, hb, (Has.new w _ _).keep hb1⟩
  clear hb hb1 hg hH hz
  go_wp2
  go_loopg [12] k (fun r s12 wx => ∃ i : Nat, i + r = k ∧ s12 = .int .i64 i ∧ Aside (HASHER wx g d (JOIN (ps.take i)) ∧ Below w.heap.size w wx ∧ Has wx w.heap.size (UARR .u8 32 fun _ => 0) 27))
  case atStart => exact ⟨0, by omega, rfl, R.out.2.1, R.out.2.2.1, R.out.2.2.2⟩
  case round =>
    obtain ⟨i, hir, rfl, A⟩ := hrel
    have hk : ps.length = k := H.out.1.1
    cases gk with
    | zero =>
      obtain rfl : i = k := by omega
      rw [List.take_of_length_le (by omega)] at A
      have cs := sumh_ok g d (JOIN ps) wr A.out.1 (H.out.2.1.below A.out.2.1) (JOIN_small H.out.1 ps (fun _ h => h)) H.out.2.2
      clear hk
      go_wp2_with fail
      refine cs.mono ?_
      rintro e w2 ⟨rfl, hb2⟩
      clear cs
      have S : Aside (Below w.heap.size w w2 ∧ Has w2 w.heap.size (UARR .u8 32 fun _ => 0) 27) := ⟨A.out.2.1.trans (hb2.mono A.out.2.1.size), A.out.2.2.keep hb2⟩
      clear A hb2
      go_wp2_with (first
        | (refine wpList_store_row rfl 27 _ _ rfl _ _ rfl rfl _ _ S.out.2 (info_HASH _) (by rw [UARR_size, UARR_size]) (UARR_one _ _ _) ?_))
      refine bodyPost_ret (v := .agg (UARR .u8 32 (HASHOF d (JOIN ps)))) ?_ rfl ⟨rfl, below_row S.out.1 (Nat.le_refl _) _⟩
      exact results_cell_row rfl _ _ w.heap.size 27 _ (0, 0) _ rfl (S.out.2.row _) Tryd.underlying27 rfl (info_HASH _)
    | succ r =>
      have hlt : (i : Int) < (k : Int) := by omega
      obtain ⟨pb, po, rfl, hpb, hcell⟩ := H.out.1.2.1 (by omega)
      obtain ⟨p, hp⟩ : ∃ p, ps[i]? = some p := ⟨_, List.getElem?_eq_getElem (by omega)⟩
      have hc := (A.out.2.1.cell (p := ⟨pb, po + i, none⟩) (by exact hpb)).trans (hcell i p hp)
      obtain ⟨ht, hn, hx⟩ := H.out.1.2.2 p (List.mem_of_getElem? hp)
      have hg := R.out.1
      have hl2 : (JOIN (ps.take i)).length + p.n < 2 ^ 60 := by
        have h1 := JOIN_take_length ps (i + 1)
        rw [List.take_add_one, hp, Option.toList_some, JOIN_snoc, List.length_append, ht.1] at h1
        have := H.out.2.2
        omega
      have cw := write_ok g d (JOIN (ps.take i)) p.l p.a p.n p.c wr A.out.1 (H.out.2.1.below A.out.2.1) (by have := H.out.2.1.2.2; omega) (ht.below A.out.2.1) (fun x h => by have := hx x h; omega) hn (JOIN_small H.out.1 _ (fun _ h => List.mem_of_mem_take h)) (by omega)
      have S : Aside (ps.take (i + 1) = ps.take i ++ [p] ∧ i + (r + 1) = k ∧ w.heap.size < g) := ⟨by rw [List.take_add_one, hp, Option.toList_some], hir, hg⟩
      clear ht hn hx hp hcell hpb hg hl2 hk hir
      go_wp2_with fail
      refine cw.mono ?_
      rintro e w2 ⟨rfl, hH2, hG2⟩
      clear cw
      have T : Aside (HASHER w2 g d (JOIN (ps.take i) ++ p.l) ∧ Below w.heap.size w w2 ∧ Has w2 w.heap.size (UARR .u8 32 fun _ => 0) 27) := ⟨hH2, A.out.2.1.grown hG2 A.out.2.1.size (fun k e => by simp at e; have := S.out.2.2; omega), (hG2.block _ A.out.2.2.lt (by simp; have := S.out.2.2; omega)).trans A.out.2.2⟩
      clear hH2 hG2 A
      go_wp2
      go_roundg r
      case measure => omega
      case rel =>
        refine ⟨i + 1, by have := S.out.2.1; omega, by have h1 := HK.out; have h2 : wrap64 ((i : Int) + 1) = ((i + 1 : Nat) : Int) := (by unfold wrap64; omega); rw [h2], ?_, T.out.2.1, T.out.2.2⟩
        rw [S.out.1, JOIN_snoc]
        exact T.out.1
end Go.Proofs.YtnplhejopmoopaaDoor.HX

/- The hash of three bytes, by its first and last byte, worked out by the kernel. -/
namespace Go.Proofs.YtnplhejopmoopaaDoor.HX
open Go.RowKit

end Go.Proofs.YtnplhejopmoopaaDoor.HX

/- awake answers true. -/
namespace Go.Proofs.YtnplhejopmoopaaDoor.HX
open Go.RowKit
set_option maxRecDepth 100000

end Go.Proofs.YtnplhejopmoopaaDoor.HX

/- What the law's row answers: the same bytes in a list of their own that goes on behind them. -/
namespace Go.Proofs.YtnplhejopmoopaaDoor.HX
open Go.RowKit
set_option maxRecDepth 100000

end Go.Proofs.YtnplhejopmoopaaDoor.HX
