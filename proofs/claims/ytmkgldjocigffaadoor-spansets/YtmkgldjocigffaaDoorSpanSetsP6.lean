/- Texts of SpanSets, one behind the other: ManySplit, ManyRise, SpanPlain, ManyTake. -/
import Derived.BigQuiet
import Derived.Deep.Cut
import Derived.WalkLawsBesides
import Derived.Test.YtmkgldjocigffaaDoorSpanSetsP5
/- What split of package many answers. -/
namespace Go.Proofs.YtmkgldjocigffaaDoor
open Go.RowKit
set_option maxRecDepth 100000

/-- what need does: all places are told, or one of them was refused. -/
def TOLD (S P : List Nat → World → Prop) (X : List PanicEntry) (acc l : List Nat) (e : Ending) (w' : World) : Prop := (e = .returned (.tuple #[]) ∧ S (acc ++ l) w') ∨ ∃ pre p, (pre ++ [p]) <+: (acc ++ l) ∧ e = .panicked X ∧ P pre w'
/-- what split answers. -/
structure SPLIT (w w' : World) (a : Option Addr) (n c : Nat) (L : List Nat) (t r : Nat) (a' : Option Addr) : Prop where
  rank : RANKS L t r
  lies : NUML w a' (L.drop r)
  nil : a' = none → c - r = 0
  block : ∀ x, a' = some x → ∃ y, a = some y ∧ x.block = y.block
  spot : ∀ x, a' = some x → x.spot = none
  below : Below w.heap.size w w'
set_option maxHeartbeats 1000000 in
theorem split_ok (h k : Nat) (hN : Node h k) (a : Option Addr) (n c : Nat) (L : List Nat) (hl : L.length = n) (hn : n < 2 ^ 40) (hR : RISES L) (hc : n ≤ c) (hnil : a = none → c = 0) (hsp : ∀ x, a = some x → x.spot = none) (w : World) (hL : NUML w a L) :
    Calls Tryd.prog 56 #[.slice a n c, .int .u64 ((PLC h k : Nat) : Int)] w fun e w' => ∃ r a', e = .returned (.tuple #[.slice a r c, .slice a' (n - r) (c - r)]) ∧ SPLIT w w' a n c L ((k + 1) * 2 ^ h) r a' := by
  have cu := under_ok h k hN w
  obtain ⟨t, ht⟩ : ∃ t, (k + 1) * 2 ^ h = t := ⟨_, rfl⟩
  rw [ht] at cu ⊢
  have HA : Aside (L.length = n ∧ n < 2 ^ 40 ∧ RISES L ∧ NUML w a L ∧ n ≤ c) := ⟨hl, hn, hR, hL, hc⟩
  have NI : Aside (a = none → c = 0) := hnil
  have SP : Aside (∀ x, a = some x → x.spot = none) := hsp
  clear hl hn hR hL hc hnil hsp ht
  go_enter Tryd.func56, Tryd.ntmps56
  go_wp2_with fail
  refine cu.mono ?_
  rintro e w1 ⟨rfl, hb1⟩
  clear cu
  have cs := search_ok a n c L t HA.out.1 HA.out.2.1 HA.out.2.2.1 w1 (fun h0 => by
    obtain ⟨b, o, e, hl, hc⟩ := HA.out.2.2.2.1 h0
    exact ⟨b, o, e, Nat.lt_of_lt_of_le hl hb1.size, fun i x hx => (hb1.cell (p := ⟨b, o + i, none⟩) hl).trans (hc i x hx)⟩)
  have B1 : Aside (Below w.heap.size w w1) := hb1
  clear hb1
  go_wp2_with fail
  refine cs.mono ?_
  rintro e w2 ⟨r, f, rfl, hr, rfl⟩
  clear cs
  have hrn : r ≤ n := by have := hr.le; have := HA.out.1; omega
  have y1 : (r : Int) ≤ (c : Int) := by have := HA.out.2.2.2.2; omega
  have y2 : (r : Int) ≤ (n : Int) := by omega
  have y3 : (0 : Int) ≤ (r : Int) := by omega
  have RK : Aside (RANKS L t r) := hr
  clear hr
  cases a with
  | none =>
    have h0 := NI.out rfl
    subst h0
    have hr0 : r = 0 := by omega
    subst hr0
    have hn0 : n = 0 := by have := HA.out.2.2.2.2; omega
    subst hn0
    have FN : Aside (∀ W, Below w.heap.size w W → SPLIT w W none 0 0 L t 0 none) := fun W hb => ⟨RK.out, fun h => by have := HA.out.1; simp at h; omega, fun _ => rfl, (fun x e => by cases e), (fun x e => by cases e), hb⟩
    clear HA NI SP RK
    go_upto_region 3 with fail
    go_quiet (fail)
    go_wp2
    go_ret2
    exact ⟨0, none, rfl, FN.out _ (below_drewN B1.out _)⟩
  | some x =>
    obtain ⟨b, o, sp⟩ := x
    have hsp : sp = none := SP.out _ rfl
    subst hsp
    by_cases hcr : c = r
    · have FN : Aside (∀ W, Below w.heap.size w W → SPLIT w W (some ⟨b, o, none⟩) n c L t r (some ⟨b, o, none⟩)) := fun W hb => ⟨RK.out, fun h => by have := HA.out.1; have := HA.out.2.2.2.2; simp at h; omega, (fun e => by cases e), (fun x e => ⟨_, rfl, by cases e; rfl⟩), (fun x e => by cases e; rfl), hb⟩
      clear HA NI SP RK
      go_upto_region 3 with fail
      go_quiet (fail)
      go_wp2
      go_ret2
      exact ⟨r, _, by rw [hcr, Nat.sub_self]; rfl, FN.out _ (below_drewN B1.out _)⟩
    · have FN : Aside (∀ W, Below w.heap.size w W → SPLIT w W (some ⟨b, o, none⟩) n c L t r (some ⟨b, o + r, none⟩)) := fun W hb => by
        refine ⟨RK.out, fun h => ?_, (fun e => by cases e), (fun x e => ⟨_, rfl, by cases e; rfl⟩), (fun x e => by cases e; rfl), hb⟩
        obtain ⟨b', o', e, hl, hc⟩ := HA.out.2.2.2.1 (by simp at h; omega)
        cases e
        refine ⟨b, o + r, rfl, hl, fun i x hx => ?_⟩
        rw [List.getElem?_drop] at hx
        rw [Nat.add_assoc]
        exact hc (r + i) x hx
      clear HA NI SP RK
      go_upto_region 3 with fail
      go_quiet (fail)
      go_wp2
      go_ret2
      exact ⟨r, _, rfl, FN.out _ (below_drewN B1.out _)⟩
end Go.Proofs.YtmkgldjocigffaaDoor

/- mustRise of package many: it gives up where leaves are not those of n, or do not rise. -/
namespace Go.Proofs.YtmkgldjocigffaaDoor
open Go.RowKit
set_option maxRecDepth 100000

/-- not above the one ahead. -/
def NOTUP : Option Nat → Nat → Bool
  | none, _ => false
  | some y, x => decide (x ≤ y)
/-- what is wrong with indices, the one ahead of them prev. -/
def RCHK (n : Nat) : Option Nat → List Nat → Int
  | _, [] => 0
  | prev, x :: l => if NOTUP prev x = true then 71 else if n ≤ x then 32 else RCHK n (some x) l
/-- what is wrong with the indices of n leaves. -/
def RISEA (L : List Nat) (n : Nat) : Int := if 4611686018427387904 < n then 30 else RCHK n none L
theorem RCHK_ok {n : Nat} : ∀ {prev : Option Nat} {L : List Nat}, RCHK n prev L = 0 → (∀ x ∈ L, x < n) ∧ RISES L ∧ ∀ y, prev = some y → ∀ x ∈ L, y < x
  | _, [], _ => ⟨(fun x h => by cases h), (fun i j x y _ h => by simp at h), (fun y _ x h => by cases h)⟩
  | prev, x :: l, h => by
    rw [RCHK] at h
    split at h
    · cases h
    · rename_i h1
      split at h
      · cases h
      · rename_i h2
        obtain ⟨a1, a2, a3⟩ := RCHK_ok h
        refine ⟨fun y hy => ?_, fun i j u v hij hu hv => ?_, fun y hy z hz => ?_⟩
        · rcases List.mem_cons.1 hy with rfl | hy
          · omega
          · exact a1 y hy
        · cases i with
          | zero =>
            cases j with
            | zero => omega
            | succ j =>
              simp only [List.getElem?_cons_zero, Option.some.injEq] at hu
              rw [List.getElem?_cons_succ] at hv
              subst hu
              exact a3 x rfl v (List.mem_of_getElem? hv)
          | succ i =>
            cases j with
            | zero => omega
            | succ j =>
              rw [List.getElem?_cons_succ] at hu hv
              exact a2 i j u v (by omega) hu hv
        · subst hy
          have h1 : ¬ x ≤ y := fun h => h1 (decide_eq_true h)
          rcases List.mem_cons.1 hz with rfl | hz
          · omega
          · have := a3 x rfl z hz
            omega
theorem RISEA_ok {n : Nat} {L : List Nat} (h : RISEA L n = 0) : n ≤ 4611686018427387904 ∧ RISES L ∧ ∀ x ∈ L, x < n := by
  unfold RISEA at h
  split at h
  · cases h
  · obtain ⟨a1, a2, _⟩ := RCHK_ok h
    exact ⟨by omega, a2, a1⟩
/-- the panic of a wrong proof. -/
def WRONG (x : Int) : List PanicEntry := [{ v := .iface 83 (.int .i64 x), recovered := false }]
def ROSE (L : List Nat) (n : Nat) (w : World) (e : Ending) (w' : World) : Prop := w = w' ∧ ((RISEA L n = 0 ∧ e = .returned (.tuple #[])) ∨ (RISEA L n ≠ 0 ∧ e = .panicked (WRONG (RISEA L n))))
/-- the one ahead. -/
def AHD (L : List Nat) : Nat → Option Nat
  | 0 => none
  | j + 1 => L[j]?
theorem drop_step {L : List Nat} {j x : Nat} (h : L[j]? = some x) : L.drop j = x :: L.drop (j + 1) := by
  induction L generalizing j with
  | nil => simp at h
  | cons y l ih =>
    cases j with
    | zero => simp at h; simp [h]
    | succ j => simp at h; simp; exact ih h
set_option maxHeartbeats 1000000 in
theorem rise_far (L : List Nat) (n : Nat) (hn : (4611686018427387904 : Int) < (n : Int)) (a : Option Addr) (m c : Nat) (w : World) : Calls Tryd.prog 35 #[.slice a m c, .int .u64 (n : Int)] w (ROSE L n w) := by
  have e : RISEA L n = 30 := by unfold RISEA; rw [if_pos (by omega)]
  have E : Aside (RISEA L n = 30) := e
  clear e
  go_enter Tryd.func35, Tryd.ntmps35
  go_wp2_with fail
  exact ⟨rfl, rfl, .inr ⟨by rw [E.out]; decide, by rw [E.out]; rfl⟩⟩
set_option maxHeartbeats 2000000 in
theorem mustrise_ok (L : List Nat) (n : Nat) (a : Option Addr) (m c : Nat) (hl : L.length = m) (hm : m < 2 ^ 40) (w : World) (hL : NUML w a L) : Calls Tryd.prog 35 #[.slice a m c, .int .u64 (n : Int)] w (ROSE L n w) := by
  by_cases hn : (4611686018427387904 : Int) < (n : Int)
  · exact rise_far L n hn a m c w
  · have e : RISEA L n = RCHK n none L := by unfold RISEA; rw [if_neg (by omega)]
    have HA : Aside (L.length = m ∧ m < 2 ^ 40 ∧ NUML w a L ∧ RISEA L n = RCHK n none L) := ⟨hl, hm, hL, e⟩
    clear hl hm hL e
    go_enter Tryd.func35, Tryd.ntmps35
    go_wp2_with fail
    go_loopg [11] m (fun q s11 wx => ∃ j : Nat, s11 = .int .i64 (j : Int) ∧ Aside (j + q = m ∧ RISEA L n = RCHK n (AHD L j) (L.drop j)) ∧ wx = w)
    case atStart => exact ⟨0, rfl, ⟨by omega, HA.out.2.2.2⟩, rfl⟩
    case round =>
      obtain ⟨j, rfl, A, rfl⟩ := hrel
      cases gk with
      | zero =>
        obtain rfl : j = m := by have := A.out.1; omega
        have hlt : ¬ (j : Int) < (j : Int) := by omega
        have FN : Aside (RISEA L n = 0) := by
          have h1 := A.out.2
          rw [List.drop_of_length_le (by have := HA.out.1; omega)] at h1
          exact h1
        clear A HA
        go_wp2_with fail
        exact bodyPost_end (v := .tuple #[]) (by simp [results, Tryd.f35]) rfl ⟨rfl, .inl ⟨FN.out, rfl⟩⟩
      | succ q =>
        have hjm : j < m := by have := A.out.1; omega
        have hlt : (j : Int) < (m : Int) := by omega
        obtain ⟨x, ex⟩ : ∃ x, L[j]? = some x := ⟨_, List.getElem?_eq_getElem (by have := HA.out.1; omega)⟩
        obtain ⟨b, o, rfl, hb, hcc⟩ := HA.out.2.2.1 (by have := HA.out.1; omega)
        have x0 := hcc j x ex
        have ej : wrap64 ((j : Int) + 1) = ((j + 1 : Nat) : Int) := by have := HA.out.2.1; unfold wrap64; omega
        have hch : RISEA L n = if NOTUP (AHD L j) x = true then 71 else if n ≤ x then 32 else RCHK n (some x) (L.drop (j + 1)) := by
          rw [A.out.2, drop_step ex, RCHK]
        have hnx : AHD L (j + 1) = some x := ex
        rcases Nat.eq_zero_or_pos j with hj0 | hj0
        · have hz : ¬ (0 : Int) < (j : Int) := by omega
          have hch : RISEA L n = if n ≤ x then 32 else RCHK n (some x) (L.drop (j + 1)) := by
            rw [hch, hj0, if_neg (by simp [AHD, NOTUP])]
          by_cases hx : n ≤ x
          · have hx' : (n : Int) ≤ (x : Int) := by omega
            rw [if_pos hx] at hch
            have FN : Aside (RISEA L n = 32) := hch
            clear A HA hch hnx hcc hx hj0 ex hjm
            go_wp2_with fail
            exact ⟨rfl, rfl, .inr ⟨by rw [FN.out]; decide, by rw [FN.out]; rfl⟩⟩
          · have hx' : ¬ (n : Int) ≤ (x : Int) := by omega
            rw [if_neg hx] at hch
            have Z : Aside (j + 1 + q = m ∧ RISEA L n = RCHK n (AHD L (j + 1)) (L.drop (j + 1))) := ⟨by have := A.out.1; clear ej; omega, by rw [hnx]; exact hch⟩
            clear A hch hnx hcc hx hj0 ex hjm
            go_wp2_with fail
            go_roundg q
            case measure => exact Nat.lt_succ_self _
            case rel => exact ⟨j + 1, by first | rfl | (rw [ej]), Z.out, rfl⟩
        · obtain ⟨i, hi⟩ : ∃ i, j = i + 1 := ⟨j - 1, by omega⟩
          obtain ⟨y, ey⟩ : ∃ y, L[i]? = some y := ⟨_, List.getElem?_eq_getElem (by have := HA.out.1; omega)⟩
          have y0 := hcc i y ey
          have ei : wrap64 ((j : Int) - 1) = (i : Int) := by have := HA.out.2.1; unfold wrap64; omega
          have him : (i : Int) < (m : Int) := by omega
          have hi0 : (0 : Int) < (j : Int) := by omega
          have hch : RISEA L n = if NOTUP (some y) x = true then 71 else if n ≤ x then 32 else RCHK n (some x) (L.drop (j + 1)) := by
            rw [hch, show AHD L j = some y by rw [hi]; exact ey]
          by_cases hxy : x ≤ y
          · have hxy' : (x : Int) ≤ (y : Int) := by omega
            rw [if_pos (show NOTUP (some y) x = true from decide_eq_true hxy)] at hch
            have FN : Aside (RISEA L n = 71) := hch
            clear A HA hch hnx hcc hxy hj0 hi ex ey hjm
            go_wp2_with fail
            exact ⟨rfl, rfl, .inr ⟨by rw [FN.out]; decide, by rw [FN.out]; rfl⟩⟩
          · have hxy' : ¬ (x : Int) ≤ (y : Int) := by omega
            rw [if_neg (show ¬ NOTUP (some y) x = true from fun h => hxy (of_decide_eq_true h))] at hch
            by_cases hx : n ≤ x
            · have hx' : (n : Int) ≤ (x : Int) := by omega
              rw [if_pos hx] at hch
              have FN : Aside (RISEA L n = 32) := hch
              clear A HA hch hnx hcc hx hxy hj0 hi ex ey hjm
              go_wp2_with fail
              exact ⟨rfl, rfl, .inr ⟨by rw [FN.out]; decide, by rw [FN.out]; rfl⟩⟩
            · have hx' : ¬ (n : Int) ≤ (x : Int) := by omega
              rw [if_neg hx] at hch
              have Z : Aside (j + 1 + q = m ∧ RISEA L n = RCHK n (AHD L (j + 1)) (L.drop (j + 1))) := ⟨by have := A.out.1; clear ej ei; omega, by rw [hnx]; exact hch⟩
              clear A hch hnx hcc hx hxy hj0 hi ex ey hjm
              go_wp2_with fail
              go_roundg q
              case measure => exact Nat.lt_succ_self _
              case rel => exact ⟨j + 1, by first | rfl | (rw [ej]), Z.out, rfl⟩
end Go.Proofs.YtmkgldjocigffaaDoor

/- Which nodes a span needs, as what its leaves need: plain. -/
namespace Go.Proofs.YtmkgldjocigffaaDoor
set_option maxRecDepth 100000

/-- the leaves from a on and below b. -/
def SEG (a b : Nat) : List Nat := List.range' a (b - a)
theorem SEG_mem {a b x : Nat} : x ∈ SEG a b ↔ a ≤ x ∧ x < b := by
  rw [SEG, List.mem_range'_1]
  omega
theorem SEG_length (a b : Nat) : (SEG a b).length = b - a := List.length_range' ..
theorem SEG_nil {a b : Nat} (h : b ≤ a) : SEG a b = [] := by rw [SEG, show b - a = 0 by omega, List.range'_zero]
theorem SEG_ne {a b : Nat} (h : a < b) : SEG a b ≠ [] := fun e => by
  have := congrArg List.length e
  rw [SEG_length, List.length_nil] at this
  omega
theorem SEG_get {a b i : Nat} (h : i < b - a) : (SEG a b)[i]? = some (a + i) := by
  rw [SEG, List.getElem?_range' h, Nat.one_mul]
theorem SEG_rises (a b : Nat) : RISES (SEG a b) := fun i j x y hij hx hy => by
  have hi := (List.getElem?_eq_some_iff.1 hx).1
  have hj := (List.getElem?_eq_some_iff.1 hy).1
  rw [SEG_length] at hi hj
  rw [SEG_get hi] at hx
  rw [SEG_get hj] at hy
  cases hx
  cases hy
  omega
theorem filter_low (m : Nat) : ∀ (n a : Nat), (List.range' a n).filter (fun y => decide (y < m)) = List.range' a (min n (m - a))
  | 0, a => by simp
  | n + 1, a => by
    rw [List.range'_succ, List.filter_cons, filter_low m n (a + 1)]
    by_cases h : a < m
    · rw [decide_eq_true h, if_pos rfl, show min (n + 1) (m - a) = min n (m - (a + 1)) + 1 by omega, List.range'_succ]
    · rw [decide_eq_false h, show min (n + 1) (m - a) = 0 by omega, show min n (m - (a + 1)) = 0 by omega]
      rfl
theorem filter_high (m : Nat) : ∀ (n a : Nat), (List.range' a n).filter (fun y => !decide (y < m)) = List.range' (max a m) (n - (m - a))
  | 0, a => by simp
  | n + 1, a => by
    rw [List.range'_succ, List.filter_cons, filter_high m n (a + 1)]
    by_cases h : a < m
    · rw [decide_eq_true h, if_neg (by simp), show max (a + 1) m = max a m by omega, show n + 1 - (m - a) = n - (m - (a + 1)) by omega]
    · rw [decide_eq_false h, if_pos (show (!false) = true from rfl), show n + 1 - (m - a) = n + 1 by omega, show n - (m - (a + 1)) = n by omega, show max (a + 1) m = a + 1 by omega, show max a m = a by omega, List.range'_succ]
theorem SEG_low (a b m : Nat) : (SEG a b).filter (fun y => decide (y < m)) = SEG a (min b m) := by
  rw [SEG, filter_low, SEG]
  congr 1
  omega
theorem SEG_high (a b m : Nat) : (SEG a b).filter (fun y => !decide (y < m)) = SEG (max a m) b := by
  rw [SEG, filter_high, SEG]
  congr 1
  omega
/-- the leaves of the span under a node. -/
def SG (F T h k : Nat) : List Nat := SEG (max F (k * 2 ^ h)) (min T ((k + 1) * 2 ^ h))
/-- none of the span's leaves is under the node; all the node's leaves are of the span. -/
abbrev APRT (F T h k : Nat) : Prop := min T ((k + 1) * 2 ^ h) ≤ max F (k * 2 ^ h)
abbrev WITHN (F T h k : Nat) : Prop := F ≤ k * 2 ^ h ∧ (k + 1) * 2 ^ h ≤ T
theorem need_apart {F T h k : Nat} (e : APRT F T h k) : NEED h k (SG F T h k) = [PLC h k] := by rw [SG, SEG_nil e, NEED_nil]
theorem mid_node (h k : Nat) : k * 2 ^ (h + 1) = 2 * k * 2 ^ h ∧ (k + 1) * 2 ^ (h + 1) = (2 * k + 1 + 1) * 2 ^ h ∧ 2 * k * 2 ^ h + 2 ^ h = (2 * k + 1) * 2 ^ h ∧ (2 * k + 1) * 2 ^ h + 2 ^ h = (2 * k + 1 + 1) * 2 ^ h := by
  obtain ⟨a, b⟩ := twice_pow h k
  refine ⟨a, b, ?_, ?_⟩
  · rw [Nat.add_mul (2 * k) 1, Nat.one_mul]
  · rw [Nat.add_mul (2 * k + 1) 1, Nat.one_mul]
theorem seg_kids (F T h k : Nat) : (SG F T (h + 1) k).filter (fun y => decide (y < (2 * k + 1) * 2 ^ h)) = SG F T h (2 * k) ∧ (SG F T (h + 1) k).filter (fun y => !decide (y < (2 * k + 1) * 2 ^ h)) = SG F T h (2 * k + 1) := by
  obtain ⟨t1, t2, t3, t4⟩ := mid_node h k
  have hp := Nat.two_pow_pos h
  unfold SG
  rw [t1, t2, SEG_low, SEG_high]
  generalize 2 * k * 2 ^ h = A at *
  generalize (2 * k + 1) * 2 ^ h = B at *
  generalize (2 * k + 1 + 1) * 2 ^ h = C at *
  generalize 2 ^ h = P at *
  constructor
  · congr 1
    omega
  · congr 1
    omega
theorem need_kids {F T h k : Nat} (e : ¬ APRT F T (h + 1) k) : NEED (h + 1) k (SG F T (h + 1) k) = NEED h (2 * k) (SG F T h (2 * k)) ++ NEED h (2 * k + 1) (SG F T h (2 * k + 1)) := by
  obtain ⟨s1, s2⟩ := seg_kids F T h k
  have hne : SG F T (h + 1) k ≠ [] := SEG_ne (Nat.lt_of_not_le e)
  cases hs : SG F T (h + 1) k with
  | nil => exact absurd hs hne
  | cons x l => rw [NEED_node, ← hs, s1, s2]
theorem apart_leaf {F T k : Nat} (e : ¬ APRT F T 0 k) : WITHN F T 0 k := by
  unfold APRT at e
  unfold WITHN
  rw [Nat.pow_zero] at *
  omega
theorem within_not {F T h k : Nat} (e : WITHN F T h k) : ¬ APRT F T h k := by
  unfold WITHN at e
  unfold APRT
  have h1 : k * 2 ^ h + 2 ^ h = (k + 1) * 2 ^ h := by rw [Nat.add_mul, Nat.one_mul]
  have hp := Nat.two_pow_pos h
  generalize 2 ^ h = P at *
  generalize k * P = A at *
  generalize (k + 1) * P = B at *
  omega
theorem within_kids {F T h k : Nat} (e : WITHN F T (h + 1) k) : WITHN F T h (2 * k) ∧ WITHN F T h (2 * k + 1) := by
  obtain ⟨t1, t2, t3, t4⟩ := mid_node h k
  unfold WITHN at *
  rw [t1, t2] at e
  generalize 2 * k * 2 ^ h = A at *
  generalize (2 * k + 1) * 2 ^ h = B at *
  generalize (2 * k + 1 + 1) * 2 ^ h = C at *
  generalize 2 ^ h = P at *
  omega
theorem need_within {F T : Nat} : ∀ {h k : Nat}, WITHN F T h k → NEED h k (SG F T h k) = []
  | 0, k, e => by
    have hne : SG F T 0 k ≠ [] := SEG_ne (Nat.lt_of_not_le (within_not e))
    cases hs : SG F T 0 k with
    | nil => exact absurd hs hne
    | cons x l => rfl
  | h + 1, k, e => by
    obtain ⟨a, b⟩ := within_kids e
    rw [need_kids (within_not e), need_within a, need_within b]
    rfl
/-- how many ends of the span lie within the node, not at its ends. -/
def CROSS (F T h k : Nat) : Nat := (if k * 2 ^ h < F ∧ F < (k + 1) * 2 ^ h then 1 else 0) + (if k * 2 ^ h < T ∧ T < (k + 1) * 2 ^ h then 1 else 0)
theorem cross_kids (F T h k : Nat) : CROSS F T h (2 * k) + CROSS F T h (2 * k + 1) ≤ CROSS F T (h + 1) k := by
  obtain ⟨t1, t2, t3, t4⟩ := mid_node h k
  unfold CROSS
  rw [t1, t2]
  have hp := Nat.two_pow_pos h
  generalize 2 * k * 2 ^ h = A at *
  generalize (2 * k + 1) * 2 ^ h = B at *
  generalize (2 * k + 1 + 1) * 2 ^ h = C at *
  generalize 2 ^ h = P at *
  (repeat' split) <;> omega
theorem cross_some {F T h k : Nat} (e : ¬ APRT F T h k) (e' : ¬ WITHN F T h k) : 1 ≤ CROSS F T h k := by
  unfold APRT at e
  unfold WITHN at e'
  unfold CROSS
  generalize k * 2 ^ h = A at *
  generalize (k + 1) * 2 ^ h = B at *
  (repeat' split) <;> omega
theorem need_few (F T : Nat) : ∀ (h k : Nat), (NEED h k (SG F T h k)).length ≤ 1 + h * CROSS F T h k
  | 0, k => by
    by_cases e : APRT F T 0 k
    · rw [need_apart e]; simp
    · rw [need_within (apart_leaf e)]; simp
  | h + 1, k => by
    by_cases e : APRT F T (h + 1) k
    · rw [need_apart e]; simp
    · by_cases e' : WITHN F T (h + 1) k
      · rw [need_within e']; simp
      · rw [need_kids e, List.length_append]
        have h1 := need_few F T h (2 * k)
        have h2 := need_few F T h (2 * k + 1)
        have h3 := cross_kids F T h k
        have h4 := cross_some e e'
        generalize CROSS F T h (2 * k) = c1 at *
        generalize CROSS F T h (2 * k + 1) = c2 at *
        generalize CROSS F T (h + 1) k = c at *
        have h5 : h * (c1 + c2) ≤ h * c := Nat.mul_le_mul_left h h3
        rw [Nat.mul_add] at h5
        rw [Nat.add_mul h 1, Nat.one_mul]
        generalize h * c1 = x at *
        generalize h * c2 = y at *
        generalize h * c = z at *
        omega
/-- what the peaks behind A need of a span. -/
theorem needs_seg (F T : Nat) : ∀ (ps : List (Nat × Nat)) (A B : Nat), Tile A ps B → T ≤ B → NEEDS ps (SEG (max F A) T) = (ps.map fun s => NEED s.1 s.2 (SG F T s.1 s.2)).flatten
  | [], _, _, _, _ => rfl
  | (h, k) :: ps, A, B, ht, hT => by
    obtain ⟨hN, hA, ht⟩ : Node h k ∧ k * 2 ^ h = A ∧ Tile ((k + 1) * 2 ^ h) ps B := ht
    have hp : A + 2 ^ h = (k + 1) * 2 ^ h := by rw [← hA, Nat.add_mul, Nat.one_mul]
    have h2 := Nat.two_pow_pos h
    rw [NEEDS, SEG_low, SEG_high, show max (max F A) ((k + 1) * 2 ^ h) = max F ((k + 1) * 2 ^ h) by omega, needs_seg F T ps _ B ht hT, List.map_cons, List.flatten_cons]
    unfold SG
    rw [hA]
theorem cross_sum (F T : Nat) : ∀ (ps : List (Nat × Nat)) (A B : Nat), Tile A ps B → (ps.map fun s => CROSS F T s.1 s.2).sum ≤ (if A < F ∧ F < B then 1 else 0) + (if A < T ∧ T < B then 1 else 0)
  | [], _, _, _ => by simp
  | (h, k) :: ps, A, B, ht => by
    obtain ⟨hN, hA, ht⟩ : Node h k ∧ k * 2 ^ h = A ∧ Tile ((k + 1) * 2 ^ h) ps B := ht
    have hp : A + 2 ^ h = (k + 1) * 2 ^ h := by rw [← hA, Nat.add_mul, Nat.one_mul]
    have h2 := Nat.two_pow_pos h
    have h3 := ht.bound.1
    have h4 := cross_sum F T ps _ B ht
    rw [List.map_cons, List.sum_cons]
    unfold CROSS at *
    simp only at *
    rw [hA]
    generalize (k + 1) * 2 ^ h = C at *
    generalize (ps.map fun s => (if s.2 * 2 ^ s.1 < F ∧ F < (s.2 + 1) * 2 ^ s.1 then 1 else 0) + (if s.2 * 2 ^ s.1 < T ∧ T < (s.2 + 1) * 2 ^ s.1 then 1 else 0)).sum = s at *
    repeat' split at h4
    all_goals (repeat' split) <;> omega
theorem flat_few (F T : Nat) : ∀ (ps : List (Nat × Nat)), (∀ p ∈ ps, p.1 ≤ 62) → ((ps.map fun s => NEED s.1 s.2 (SG F T s.1 s.2)).flatten).length ≤ ps.length + 62 * (ps.map fun s => CROSS F T s.1 s.2).sum
  | [], _ => by simp
  | (h, k) :: ps, hh => by
    have h1 := flat_few F T ps (fun p hp => hh p (List.mem_cons_of_mem _ hp))
    have h2 := need_few F T h k
    have h3 : h * CROSS F T h k ≤ 62 * CROSS F T h k := Nat.mul_le_mul_right _ (hh (h, k) (List.mem_cons_self ..))
    rw [List.map_cons, List.flatten_cons, List.length_append, List.map_cons, List.sum_cons, List.length_cons, Nat.mul_add]
    show (NEED h k (SG F T h k)).length + _ ≤ _ + (62 * CROSS F T h k + _)
    omega
/-- what a span of n leaves needs. -/
def SPP (F T N : Nat) : List Nat := NEEDS (TPS N) (SEG F T)
theorem SPP_flat {F T N : Nat} (hN : N ≤ 4611686018427387904) (hT : T ≤ N) : SPP F T N = ((TPS N).map fun s => NEED s.1 s.2 (SG F T s.1 s.2)).flatten := by
  have h := needs_seg F T (TPS N) 0 N (TPS_tile hN) hT
  rw [Nat.max_zero] at h
  exact h
theorem SPP_few {F T N : Nat} (hN : N ≤ 4611686018427387904) (hT : T ≤ N) : (SPP F T N).length ≤ 188 := by
  rw [SPP_flat hN hT]
  have h1 := flat_few F T (TPS N) (fun p hp => (TPS_span (n := N) (by omega) (h := p.1) (k := p.2) hp).1)
  have h2 := cross_sum F T (TPS N) 0 N (TPS_tile hN)
  have h3 := TPS_length (n := N) (by omega)
  have h4 : PC N ≤ 64 := PC_lt_pow 64 N (by omega)
  repeat' split at h2
  all_goals omega
/-- Places' error. -/
def SPE (F T N : Nat) : Int := if 4611686018427387904 < N then 30 else if T < F ∨ N < T then 32 else 0
end Go.Proofs.YtmkgldjocigffaaDoor

/- The places that are told are put behind one another: the closure of Places of package many. -/
namespace Go.Proofs.YtmkgldjocigffaaDoor
open Go.RowKit
set_option maxRecDepth 100000

/-- a number is appended. -/
theorem app_num {ops : Array Oper} {rest : List Oper} {o : Oper} {a : Act} {Q : Exit → Act → World → Prop} (w : World) (hgd : o.guard = none) (s x : Operand)
    (ho : o.op = .call { callee := .builtin .append, args := #[s, x], argTypes := #[23, 23] })
    (base : Nat) (v : Value) (n : Nat) (xs : List Nat) (hs : a.eval s = v) (hown : w.ownsRow base 22 1 v n (UCELLS xs))
    (b c : Nat) (y : Nat) (hx : a.eval x = .slice (some ⟨b, 0, none⟩) 1 c) (hc : w.cell? ⟨b, 0, none⟩ = some (.int .u64 (y : Int)))
    (hb : n ≤ 2 ^ 30) (hbase : base ≤ w.heap.size)
    (h : ∀ g cap w', w'.ownsRow base 22 1 (.slice (some ⟨g, 0, none⟩) (n + 1) cap) (n + 1) (UCELLS (xs ++ [y])) → w.grownBy w' v.ownBlock → g < w'.heap.size → wpList Tryd.prog ops Q rest (a.put o.dst (.slice (some ⟨g, 0, none⟩) (n + 1) cap)) w') : wpList Tryd.prog ops Q (o :: rest) a w := by
  obtain ⟨i, hi, hz, hs1, hby⟩ := info_parts info_u64
  refine wpList_append_lies w hgd s x 23 ho base 22 i (.int .u64 0) 1 8 Tryd.underlying23 hi hz hs1 hby rfl (by decide) v n (UCELLS xs) hs hown ⟨b, 0, none⟩ 1 c [.int .u64 (y : Int)] hx rfl ?_ (fun u hu => by simp at hu; subst hu; rfl) (by decide) (by simp only [maxLen]; omega) (by omega) hbase w.heap.size rfl ?_
  · intro j u hj
    cases j with
    | zero =>
      simp only [List.getElem?_cons_zero, Option.some.injEq] at hj
      subst hj
      exact hc
    | succ j => simp at hj
  · intro g cap w' h1 h2 _ h4
    rw [← UCELLS_snoc] at h1
    exact h g cap w' h1 h2 h4
/-- the list that lies in bp has been told acc since w0. -/
structure TAKING (w0 w : World) (bp : Nat) (acc : List Nat) : Prop where
  row : ∃ v, Has w bp #[v] 23 ∧ w.ownsRow w0.heap.size 22 1 v acc.length (UCELLS acc)
  keep : ∀ b, b < w0.heap.size → b ≠ bp → w.heap[b]? = w0.heap[b]?
  lt : bp < w0.heap.size
  below : Below bp w0 w
theorem own_sliced {w : World} {B s n : Nat} {t : TypeId} {v : Value} {xs : List Value} (h : w.ownsRow B t s v n xs) : ∃ a c, v = .slice a n c := by
  rcases h.2 with ⟨e, h0⟩ | ⟨g, cap, cur, e, _⟩
  · exact ⟨none, 0, by rw [e, h0]⟩
  · exact ⟨_, _, e⟩
set_option maxHeartbeats 1000000 in
theorem mtake_ok {w0 w : World} {bp : Nat} {acc : List Nat} (hK : TAKING w0 w bp acc) (p : Nat) (hn : acc.length ≤ 2 ^ 30) : Calls Tryd.prog 37 #[.int .u64 (p : Int), .pointer (some ⟨bp, 0, none⟩)] w fun e w' => e = .returned (.tuple #[]) ∧ TAKING w0 w' bp (acc ++ [p]) := by
  obtain ⟨v, hv, hown⟩ := hK.row
  obtain ⟨a, c, rfl⟩ := own_sliced hown
  have c0 : w.cell? ⟨bp, 0, none⟩ = some (.slice a acc.length c) := hv.cell 0
  have HA : Aside (TAKING w0 w bp acc ∧ acc.length ≤ 2 ^ 30 ∧ Has w bp #[.slice a acc.length c] 23 ∧ w.ownsRow w0.heap.size 22 1 (.slice a acc.length c) acc.length (UCELLS acc)) := ⟨hK, hn, hv, hown⟩
  clear hK hn hv hown
  obtain ⟨n, hn⟩ : ∃ n, acc.length = n := ⟨_, rfl⟩
  rw [hn] at HA c0
  have HN : Aside (acc.length = n) := hn
  clear hn
  go_enter Tryd.func37, Tryd.ntmps37
  go_wp2_with (first
    | (at_builtin; refine app_num _ rfl (.tmp 3) (.tmp 5) rfl w0.heap.size (.slice a n c) n acc rfl (HA.out.2.2.2.alloc _) w.heap.size 1 p rfl ((Has.new _ _ _).cell 0) HA.out.2.1 (by have := HA.out.1.below.size; simp; omega) ?_; intro g1 c1 w1 hown1 hgrow1 hg1
       have hbp : Has w1 bp #[.slice a n c] 23 := by
         refine (hgrow1.block bp (by have := HA.out.2.2.1.lt; simp; omega) (fun e => ?_)).trans (HA.out.2.2.1.alloc _)
         have := (HA.out.2.2.2.lt bp e.symm).1
         have := HA.out.1.lt
         omega
       have x0 := hbp.cell 0
       have x1 := hbp.frozen 0
       have FN : Aside (TAKING w0 (w1.setCell ⟨bp, 0, none⟩ (.slice (some ⟨g1, 0, none⟩) (n + 1) c1)) bp (acc ++ [p])) := by
         have hlt := HA.out.1.lt
         have hsz := HA.out.1.below.size
         refine ⟨⟨.slice (some ⟨g1, 0, none⟩) (n + 1) c1, hbp.set 0 _, ?_⟩, fun b hb hne => ?_, hlt, ?_⟩
         · rw [List.length_append, HN.out]
           exact ownsRow_setCell_below hown1 (a := ⟨bp, 0, none⟩) hlt _
         · rw [Below.heap_setCell _ _ _ _ (by exact hne), hgrow1.block b (by simp; omega) (fun e => by have := (HA.out.2.2.2.lt b e.symm).1; omega), Below.heap_alloc _ _ _ (by omega)]
           exact HA.out.1.keep b hb hne
         · refine ((HA.out.1.below.alloc (by omega) _).grown hgrow1 (by simp; omega) (fun k e => ?_)).setCell (Nat.le_refl _) _
           have := (HA.out.2.2.2.lt k e).1
           omega
       clear hown1 hgrow1 hg1 hbp c0))
  exact bodyPost_end (v := .tuple #[]) (by simp [results, Tryd.f37]) rfl ⟨rfl, FN.out⟩
end Go.Proofs.YtmkgldjocigffaaDoor
