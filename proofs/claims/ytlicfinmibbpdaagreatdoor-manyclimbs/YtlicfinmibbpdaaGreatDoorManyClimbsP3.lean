/- Texts of ManyClimbs, one behind the other: NumListCalls, NumListPlain, PosPeaksPlain, PosSpot, PosBackward. -/
import Derived.WalkKit
import Derived.WalkLawsBesides
import Derived.Deep.LoopGhost
import Derived.Deep.OwnRows
import Derived.Deep.AppendLies
import Derived.RangeFuncBox
import Derived.RangeFuncLeaves
import Derived.RangeFuncCalls
import Derived.Shelf.Abstract
import Derived.Shelf.RegionOpen
import Derived.OwnWalkIn
import Derived.TacticsInMore
import Derived.LoopNIn
import Derived.LoopIn
import Derived.Maps.AppendAt
import Derived.Test.YtlicfinmibbpdaaGreatDoorManyClimbsP2
/- What Bits of package num answers: the places of the set bits, the lowest first. -/
namespace Go.Proofs.YtlicfinmibbpdaaGreatDoor
open Go.RowKit

/-- places as cells. -/
def ICELLS (l : List Nat) : List Value := l.map fun (x : Nat) => Value.int .i64 (x : Int)
theorem ICELLS_snoc (l : List Nat) (x : Nat) : ICELLS (l ++ [x]) = ICELLS l ++ [.int .i64 (x : Int)] := by simp [ICELLS]
theorem info_parts_int : ∃ i, Tryz.prog.info? 3 = some i ∧ i.zero = some (.int .i64 0) ∧ i.size = 1 ∧ i.bytes = 8 := by
  have h : (Tryz.prog.info? 3).map (fun i => (i.zero, i.size, i.bytes)) = some (some (.int .i64 0), 1, 8) := by kernel_rfl
  obtain ⟨i, hi, h⟩ := Option.map_eq_some_iff.1 h
  simp only [Prod.mk.injEq] at h
  exact ⟨i, hi, h.1, h.2.1, h.2.2⟩
theorem app_int {ops : Array Oper} {rest : List Oper} {o : Oper} {a : Act} {Q : Exit → Act → World → Prop} (w : World) (hgd : o.guard = none) (s x : Operand)
    (ho : o.op = .call { callee := .builtin .append, args := #[s, x], argTypes := #[142, 142] })
    (base : Nat) (v : Value) (n : Nat) (xs : List Nat) (hs : a.eval s = v) (hown : w.ownsRow base 3 1 v n (ICELLS xs))
    (b c : Nat) (y : Nat) (hx : a.eval x = .slice (some ⟨b, 0, none⟩) 1 c) (hc : w.cell? ⟨b, 0, none⟩ = some (.int .i64 (y : Int)))
    (hb : n ≤ 1000) (hbase : base ≤ w.heap.size)
    (h : ∀ g cap w', w'.ownsRow base 3 1 (.slice (some ⟨g, 0, none⟩) (n + 1) cap) (n + 1) (ICELLS (xs ++ [y])) → w.grownBy w' v.ownBlock → g < w'.heap.size → wpList Tryz.prog ops Q rest (a.put o.dst (.slice (some ⟨g, 0, none⟩) (n + 1) cap)) w') : wpList Tryz.prog ops Q (o :: rest) a w := by
  obtain ⟨i, hi, hz, hs1, hby⟩ := info_parts_int
  refine wpList_append_lies w hgd s x 142 ho base 3 i (.int .i64 0) 1 8 Tryz.underlying142 hi hz hs1 hby rfl (by decide) v n (ICELLS xs) hs hown ⟨b, 0, none⟩ 1 c [.int .i64 (y : Int)] hx rfl ?_ (fun u hu => by simp at hu; subst hu; rfl) (by decide) (by simp only [maxLen]; omega) (by omega) hbase w.heap.size rfl ?_
  · intro j u hj
    cases j with
    | zero =>
      simp only [List.getElem?_cons_zero, Option.some.injEq] at hj
      subst hj
      exact hc
    | succ j => simp at hj
  · intro g cap w' h1 h2 _ h4
    rw [← ICELLS_snoc] at h1
    exact h g cap w' h1 h2 h4
theorem make_ints (n : Nat) (hn : n ≤ 64) (w : World) : ∃ cur : Array Value, cur.size = n ∧ (Instr.makeSlice 142 (.int .i64 0) (.int .i64 (n : Int))).run Tryz.prog w = .ok (.slice (some ⟨w.heap.size, 0, none⟩) 0 n) (w.alloc (.cells cur 3)) := by
  obtain ⟨i, hi, hz, hs1, hby⟩ := info_parts_int
  have h := run_make (P := Tryz.prog) w 142 3 i (.int .i64 0) Tryz.underlying142 hi hz .i64 .i64 0 n (by omega) (by omega) (by rw [hby]; omega) (by omega)
  refine ⟨_, ?_, h⟩
  rw [size_madeCells, hs1]
  omega
theorem Tabled.below {w w' : World} (h : Tabled w) (_ : 0 < w.heap.size) (hb : Below w.heap.size w w') : Tabled w' := fun i hi => (hb.cell (by exact World.block_lt_of_cell? _ _ (h i hi))).trans (h i hi)
theorem bits_ok (X : Nat) (hX : X < 2 ^ 64) (w : World) (hT : Tabled w) (h0 : 0 < w.heap.size) : Calls Tryz.prog 104 #[.int .u64 (X : Int)] w fun e w' =>
    ∃ g cap, e = .returned (.slice (some ⟨g, 0, none⟩) (POP X) cap) ∧ w'.ownsRow w.heap.size 3 1 (.slice (some ⟨g, 0, none⟩) (POP X) cap) (POP X) (ICELLS (PLACES X)) ∧ g < w'.heap.size ∧ Below w.heap.size w w' := by
  obtain ⟨cur, hcs, hmk⟩ := make_ints (POP X) (POP_le X) w
  have HX : Aside (X < 2 ^ 64) := hX
  have HT : Aside (Tabled w ∧ 0 < w.heap.size ∧ cur.size = POP X) := ⟨hT, h0, hcs⟩
  have c1 := ones_ok X hX
  clear hX hT h0 hcs
  generalize hp : POP X = p at *
  have HP : Aside (POP X = p) := hp
  clear hp
  go_enter Tryz.func104, Tryz.ntmps104
  go_wp2_with fail
  refine (c1 _).mono ?_
  rintro e w' ⟨rfl, rfl⟩
  clear c1
  go_wp2
  go_loopg [0, 3] p (fun g s0 s2 wx => ∃ (x : Nat), Aside (∃ l : List Nat, l ++ PLACES x = PLACES X ∧ x < 2 ^ 64 ∧ g = POP x ∧ wx.ownsRow w.heap.size 3 1 s2 l.length (ICELLS l) ∧ (∃ b cap, s2 = .slice (some ⟨b, 0, none⟩) l.length cap ∧ b < wx.heap.size) ∧ Below w.heap.size w wx) ∧ s0 = .int .u64 (x : Int))
  case atStart => exact ⟨X, ⟨[], rfl, HX.out, HP.out.symm, World.ownsRow_made w cur p (Nat.le_refl _) (by have := POP_le X; rw [HP.out] at this; simp only [maxLen]; omega) (by rw [HT.out.2.2]; omega), ⟨_, _, rfl, by simp⟩, (Below.refl _ _).alloc (Nat.le_refl _) _⟩, rfl⟩
  case round =>
    obtain ⟨x, A, rfl⟩ := hrel
    clear hmk
    cases hx : ((x : Int) == 0) with
    | true =>
      obtain ⟨l, hl, hxl, hg, hown, ⟨b, cap, hs, hb⟩, hbel⟩ := A.out
      have hx0 : x = 0 := by simpa using hx
      have hl2 : l = PLACES X := by
        rw [hx0, show PLACES 0 = [] from PL_zero 64 0, List.append_nil] at hl
        exact hl
      have hlen : l.length = p := by rw [hl2, PLACES_length, HP.out]
      subst hs
      rw [hlen, hl2] at hown
      have R : Aside (wr.ownsRow w.heap.size 3 1 (.slice (some ⟨b, 0, none⟩) p cap) p (ICELLS (PLACES X)) ∧ b < wr.heap.size ∧ Below w.heap.size w wr ∧ l.length = p) := ⟨hown, hb, hbel, hlen⟩
      clear A hl hxl hg hown hb hbel hx0 hl2 hlen HX HT HP
      go_wp2
      go_ret
      obtain ⟨h1, h2, h3, h4⟩ := R.out
      refine ⟨b, cap, ?_, h1, h2, h3⟩
      rw [← h4]
      rfl
    | false =>
      obtain ⟨l, hl, hxl, hg, hown, ⟨b, cap, hs, hb⟩, hbel⟩ := A.out
      have hx0 : x ≠ 0 := by simpa using hx
      obtain ⟨t, q, e⟩ := low_split x hx0
      have ht : t < 64 := (neg_and hxl e).2
      have cl := low_raw x t wr (tz_ok x t q hxl e wr (HT.out.1.below HT.out.2.1 hbel))
      obtain ⟨y, hy⟩ : ∃ y, y = 2 ^ (t + 1) * q := ⟨_, rfl⟩
      have hya : x &&& (x - 1) = y := by rw [e, hy]; exact less_and t q
      have hstep : PLACES x = t :: PLACES y := by
        rw [e, hy]
        have := PL_step t 64 0 q ht
        rw [Nat.zero_add] at this
        exact this
      have hand : bits .and .u64 (x : Int) (IntKind.u64.wrap ((x : Int) - 1)) = (y : Int) := by
        have hm : IntKind.u64.wrap ((x : Int) - 1) = ((x - 1 : Nat) : Int) := by rw [wrapU]; omega
        rw [hm, and_eq hxl (by omega), hya]
      have hyx : y < 2 ^ 64 := Nat.lt_of_le_of_lt (by rw [← hya]; exact Nat.and_le_left) hxl
      have hlen : l.length ≤ 1000 := by
        have h1 := congrArg List.length hl
        have h2 := POP_le X
        rw [List.length_append, PLACES_length X] at h1
        omega
      have hPy : POP x = POP y + 1 := by
        rw [← PLACES_length, ← PLACES_length, hstep, List.length_cons]
      have R : Aside ((l ++ [t]) ++ PLACES y = PLACES X ∧ y < 2 ^ 64 ∧ gk = POP y + 1 ∧ wr.ownsRow w.heap.size 3 1 u3 l.length (ICELLS l) ∧ Below w.heap.size w wr ∧ l.length ≤ 1000) := ⟨by rw [List.append_assoc, List.singleton_append, ← hstep]; exact hl, hyx, by rw [hg, hPy], hown, hbel, hlen⟩
      clear A hl hxl hg hown hs hb hbel hx0 e ht hy hya hstep hyx hlen hPy HX HT HP
      go_wp2_with fail
      refine cl.mono ?_
      rintro e w' ⟨rfl, rfl⟩
      clear cl
      go_wp2_with (at_builtin; refine app_int _ rfl (.tmp 13) (.tmp 16) rfl w.heap.size u3 l.length l rfl (R.out.2.2.2.1.alloc _) wr.heap.size 1 t rfl (by rw [World.cell?_alloc_at _ _ _ _ rfl]; rfl) R.out.2.2.2.2.2 (by have := R.out.2.2.2.2.1.size; simp; omega) ?_; intro g cap w1 hown hgrow hg)
      obtain ⟨r1, r2, r3, r4, r5, r6⟩ := R.out
      have R2 : Aside ((l ++ [t]) ++ PLACES y = PLACES X ∧ y < 2 ^ 64 ∧ gk = POP y + 1 ∧ w1.ownsRow w.heap.size 3 1 (.slice (some ⟨g, 0, none⟩) (l.length + 1) cap) (l.length + 1) (ICELLS (l ++ [t])) ∧ g < w1.heap.size ∧ Below w.heap.size w w1) := ⟨r1, r2, r3, hown, hg, (r5.alloc r5.size _).grown hgrow (by have := r5.size; simp; omega) (fun k e => (r4.lt k e).1)⟩
      clear hown hgrow hg R r1 r2 r3 r4 r5 r6
      go_wp2
      go_roundg (gk - 1)
      case measure => have := R2.out.2.2.1; omega
      case rel =>
        obtain ⟨r1, r2, r3, r4, r5, r6⟩ := R2.out
        have e : (l ++ [t]).length = l.length + 1 := by simp
        exact ⟨y, ⟨l ++ [t], r1, r2, by omega, by rw [e]; exact r4, ⟨g, cap, by rw [e], r5⟩, r6⟩, by first | rfl | (rw [hand])⟩
end Go.Proofs.YtlicfinmibbpdaaGreatDoor

/- The places of the set bits: in order, and put together they are the number. -/
namespace Go.Proofs.YtlicfinmibbpdaaGreatDoor
open Go.RowKit

/-- numbers with one bit each, put together. -/
def SUMP (l : List Nat) : Nat := (l.map fun i => 2 ^ i).sum
theorem PL_range : ∀ k o X, ∀ i ∈ PL k o X, o ≤ i ∧ i < o + k
  | 0, _, _, i, h => by simp [PL] at h
  | k + 1, o, X, i, h => by
    have ih := PL_range k (o + 1) (X / 2) i
    unfold PL at h
    split at h
    · rcases List.mem_cons.1 h with rfl | h
      · omega
      · have := ih h
        omega
    · have := ih h
      omega
/-- the place of bit number i. -/
def PLACE (X i : Nat) : Nat := (PLACES X).getD i 0
theorem PLACE_at {X i : Nat} (h : i < POP X) : (PLACES X)[i]? = some (PLACE X i) := by
  rw [← PLACES_length] at h
  unfold PLACE
  rw [List.getD_eq_getElem?_getD, List.getElem?_eq_getElem h]
  rfl
theorem PLACE_le {X i : Nat} (h : i < POP X) : PLACE X i ≤ 63 := by
  have := PL_range 64 0 X _ (List.mem_of_getElem? (PLACE_at h))
  omega
/-- what the first i bits are, put together. -/
def PART (X i : Nat) : Nat := SUMP ((PLACES X).take i)
theorem places_at {w : World} {base g n cap : Nat} {X : Nat} (h : w.ownsRow base 3 1 (.slice (some ⟨g, 0, none⟩) n cap) n (ICELLS (PLACES X))) (i : Nat) (hi : i < POP X) : w.cell? ⟨g, i, none⟩ = some (.int .i64 (PLACE X i : Nat)) := by
  have hlen : (PLACES X).length = n := by have := h.1; simpa [ICELLS] using this
  rw [PLACES_length] at hlen
  rw [h.cellAt i (by omega)]
  unfold ICELLS
  rw [List.getElem?_map, PLACE_at hi]
  rfl
end Go.Proofs.YtlicfinmibbpdaaGreatDoor

/- Peaks in plain numbers: the heights of the peaks of n leaves, their places, which one stands over a leaf, the way there. -/
namespace Go.Proofs.YtlicfinmibbpdaaGreatDoor

/-- the places of the bits of n that are set, from h on. -/
def UP (h n : Nat) : List Nat := PL (64 - h) h (n / 2 ^ h)
theorem UP_step {h n : Nat} (hh : h < 64) : UP h n = if n / 2 ^ h % 2 = 1 then h :: UP (h + 1) n else UP (h + 1) n := by
  unfold UP
  rw [show 64 - h = (64 - (h + 1)) + 1 by omega, PL, Nat.div_div_eq_div_mul, ← Nat.pow_succ]
theorem UP_zero (n : Nat) : UP 0 n = PLACES n := by
  unfold UP PLACES
  simp
theorem UP_top {h n : Nat} (hn : n < 2 ^ h) : UP h n = [] := by
  unfold UP
  rw [Nat.div_eq_of_lt hn, PL_zero]
/-- the heights of the peaks of n leaves that are at least h, from the left. -/
def HS (h n : Nat) : List Nat := (UP h n).reverse
theorem HS_set {h n : Nat} (hh : h < 64) (hb : n / 2 ^ h % 2 = 1) : HS h n = HS (h + 1) n ++ [h] := by
  unfold HS
  rw [UP_step hh, if_pos hb, List.reverse_cons]
theorem HS_clear {h n : Nat} (hh : h < 64) (hb : ¬ n / 2 ^ h % 2 = 1) : HS h n = HS (h + 1) n := by
  unfold HS
  rw [UP_step hh, if_neg hb]
theorem HS_top {h n : Nat} (hn : n < 2 ^ h) : HS h n = [] := by
  unfold HS
  rw [UP_top hn]
  rfl
theorem HS_zero (n : Nat) : HS 0 n = (PLACES n).reverse := by
  unfold HS
  rw [UP_zero]
theorem HS_length {n : Nat} (hn : n < 2 ^ 64) : ∀ h, h ≤ 64 → (HS h n).length = PC (n / 2 ^ h) := by
  have key : ∀ d h, h + d = 64 → (HS h n).length = PC (n / 2 ^ h) := by
    intro d
    induction d with
    | zero =>
      intro h e
      obtain rfl : h = 64 := by omega
      rw [HS_top hn, Nat.div_eq_of_lt hn, PC_zero]
      rfl
    | succ d ih =>
      intro h e
      have ih := ih (h + 1) (by omega)
      rw [PC_step, Nat.div_div_eq_div_mul, ← Nat.pow_succ, ← ih]
      by_cases hb : n / 2 ^ h % 2 = 1
      · rw [HS_set (by omega) hb, List.length_append, List.length_singleton]
        omega
      · rw [HS_clear (by omega) hb]
        omega
  intro h hh
  exact key (64 - h) h (by omega)
theorem HS_set_of {n : Nat} : ∀ h x, h ≤ 64 → x ∈ HS h n → h ≤ x ∧ x < 64 ∧ n / 2 ^ x % 2 = 1 := by
  have key : ∀ d h, h + d = 64 → ∀ x, x ∈ HS h n → h ≤ x ∧ x < 64 ∧ n / 2 ^ x % 2 = 1 := by
    intro d
    induction d with
    | zero =>
      intro h e x hx
      obtain rfl : h = 64 := by omega
      simp [HS, UP, PL] at hx
    | succ d ih =>
      intro h e x hx
      by_cases hb : n / 2 ^ h % 2 = 1
      · rw [HS_set (by omega) hb, List.mem_append, List.mem_singleton] at hx
        rcases hx with hx | rfl
        · have := ih (h + 1) (by omega) x hx
          exact ⟨by omega, this.2⟩
        · exact ⟨Nat.le_refl _, by omega, hb⟩
      · rw [HS_clear (by omega) hb] at hx
        have := ih (h + 1) (by omega) x hx
        exact ⟨by omega, this.2⟩
  intro h x hh
  exact key (64 - h) h (by omega) x

/-- the place of the peak of height h of n leaves. -/
def PKP (n h : Nat) : Nat := PLC h (2 * (n / 2 ^ (h + 1)))
/-- the places of the peaks of n leaves, from the left. -/
def PEAKS (n : Nat) : List Nat := (HS 0 n).map (PKP n)
theorem half_pow (n h : Nat) : n / 2 ^ (h + 1) = n / 2 ^ h / 2 := by rw [Nat.div_div_eq_div_mul, ← Nat.pow_succ]
theorem NODES_plus (m h : Nat) : NODES ((2 * m + 1) * 2 ^ h) = NODES (2 * m * 2 ^ h) + TREE h := by
  have h1 := NODES_add ((2 * m + 1) * 2 ^ h)
  have h2 := NODES_add (2 * m * 2 ^ h)
  rw [PC_shift, PC_odd, Nat.add_mul, Nat.one_mul] at h1
  rw [PC_shift, PC_even] at h2
  have h3 := two_le h
  rw [Nat.pow_succ] at h3
  rw [Nat.add_mul, Nat.one_mul]
  unfold TREE
  rw [Nat.pow_succ]
  omega
theorem at_set {n h : Nat} (hb : n / 2 ^ h % 2 = 1) : n / 2 ^ h = 2 * (n / 2 ^ (h + 1)) + 1 := by
  rw [half_pow]
  omega
theorem at_clear {n h : Nat} (hb : ¬ n / 2 ^ h % 2 = 1) : n / 2 ^ h = 2 * (n / 2 ^ (h + 1)) := by
  rw [half_pow]
  omega
theorem double_pow (m h : Nat) : 2 * m * 2 ^ h = m * 2 ^ (h + 1) := by
  rw [Nat.pow_succ, Nat.mul_comm 2 m, Nat.mul_assoc, Nat.mul_comm 2]
/-- what the loop over the heights makes: how many nodes, and the places. -/
def ST (l : List Nat) : Nat × List Nat := l.foldl (fun s h => ((s.1 + TREE h) % 2 ^ 64, s.2 ++ [((s.1 + TREE h) % 2 ^ 64 + (2 ^ 64 - 1)) % 2 ^ 64])) (0, [])
theorem ST_snoc (l : List Nat) (h : Nat) : ST (l ++ [h]) = (((ST l).1 + TREE h) % 2 ^ 64, (ST l).2 ++ [(((ST l).1 + TREE h) % 2 ^ 64 + (2 ^ 64 - 1)) % 2 ^ 64]) := by
  unfold ST
  rw [List.foldl_append]
  rfl
theorem NODES_top {n : Nat} (hn : n ≤ 4611686018427387904) : NODES n ≤ 9223372036854775807 := by
  rw [← NODES_most]
  exact NODES_le hn
theorem ST_HS {n : Nat} (hn : n ≤ 4611686018427387904) : ∀ h, h ≤ 64 → ST (HS h n) = (NODES (n / 2 ^ h * 2 ^ h), (HS h n).map (PKP n)) := by
  have key : ∀ d h, h + d = 64 → ST (HS h n) = (NODES (n / 2 ^ h * 2 ^ h), (HS h n).map (PKP n)) := by
    intro d
    induction d with
    | zero =>
      intro h e
      obtain rfl : h = 64 := by omega
      rw [HS_top (by omega), Nat.div_eq_of_lt (by omega), Nat.zero_mul, NODES_zero]
      rfl
    | succ d ih =>
      intro h e
      have ih := ih (h + 1) (by omega)
      by_cases hb : n / 2 ^ h % 2 = 1
      · have e1 := at_set hb
        have h2 : NODES (n / 2 ^ h * 2 ^ h) = NODES (n / 2 ^ (h + 1) * 2 ^ (h + 1)) + TREE h := by
          rw [e1, NODES_plus, double_pow]
        have h3 : NODES (n / 2 ^ h * 2 ^ h) ≤ 9223372036854775807 := NODES_top (Nat.le_trans (Nat.div_mul_le_self _ _) hn)
        have h4 := two_le h
        have hs : (NODES (n / 2 ^ (h + 1) * 2 ^ (h + 1)) + TREE h) % 2 ^ 64 = NODES (n / 2 ^ h * 2 ^ h) := by
          rw [← h2]
          omega
        have hp : (NODES (n / 2 ^ h * 2 ^ h) + (2 ^ 64 - 1)) % 2 ^ 64 = PKP n h := by
          unfold PKP PLC
          rw [double_pow]
          unfold TREE at h2
          omega
        rw [HS_set (by omega) hb, ST_snoc, ih]
        dsimp only
        rw [hs, hp, List.map_append]
        rfl
      · rw [HS_clear (by omega) hb, ih, at_clear hb, double_pow]
  intro h hh
  exact key (64 - h) h (by omega)
theorem ST_all {n : Nat} (hn : n ≤ 4611686018427387904) : ST (HS 0 n) = (NODES n, PEAKS n) := by
  have := ST_HS hn 0 (by omega)
  unfold PEAKS
  simpa using this

theorem Node.up {h k : Nat} (a : Node h k) (hh : h < 62) : Node (h + 1) (k / 2) := by
  refine ⟨hh, ?_⟩
  have := a.2
  rw [show 62 - h = (62 - (h + 1)) + 1 by omega, Nat.pow_succ] at this
  omega
theorem Node.leaf {i : Nat} (hi : i < 4611686018427387904) : Node 0 i := ⟨by omega, by simpa using hi⟩
theorem Node.peak {n h : Nat} (hn : n ≤ 4611686018427387904) (hb : n / 2 ^ h % 2 = 1) : Node h (2 * (n / 2 ^ (h + 1))) := by
  have h62 : h ≤ 62 := by
    rcases Nat.lt_or_ge 62 h with h1 | h1
    · have : 2 ^ 63 ≤ 2 ^ h := Nat.pow_le_pow_right (by decide) h1
      rw [Nat.div_eq_of_lt (by omega)] at hb
      omega
    · exact h1
  refine ⟨h62, ?_⟩
  have h1 : n / 2 ^ h ≤ 2 ^ (62 - h) := by
    have : n / 2 ^ h ≤ 2 ^ 62 / 2 ^ h := Nat.div_le_div_right (by simpa using hn)
    rw [Nat.pow_div h62 (by decide)] at this
    exact this
  rw [at_set hb] at h1
  omega
end Go.Proofs.YtlicfinmibbpdaaGreatDoor

/- What Spot answers: the node that stands at a place. -/
namespace Go.Proofs.YtlicfinmibbpdaaGreatDoor
open Go.RowKit

/-- the spot (h, k) as a value. -/
abbrev SPOT (h k : Nat) : Value := .agg #[.int .u8 (h : Int), .int .u64 (k : Int)]
theorem high_ok (X : Nat) (hX : X < 2 ^ 64) (w : World) : Calls Tryz.prog 118 #[.int .u64 (X : Int)] w fun e w' => e = .returned (.int .i64 ((LEN X : Nat) - 1 : Int)) ∧ w = w' := by
  have hl : LEN X ≤ 64 := by
    unfold LEN
    have := L8_le (X / 72057594037927936)
    have := L8_le (X / 281474976710656)
    have := L8_le (X / 1099511627776)
    have := L8_le (X / 4294967296)
    have := L8_le (X / 16777216)
    have := L8_le (X / 65536)
    have := L8_le (X / 256)
    have := L8_le X
    repeat' split
    all_goals omega
  exact high_raw X _ w (fun w => len_ok X hX w) (by omega) (by omega)

theorem spot_not (p : Int) (hp : 9223372036854775807 ≤ p) (w : World) : Calls Tryz.prog 83 #[.int .u64 p] w fun e w' => e = .returned (.tuple #[SPOT 0 0, .bool false]) ∧ Below w.heap.size w w' := by
  go_enter Tryz.func83, Tryz.ntmps83
  go_wp2
  refine bodyPost_ret (v := .tuple #[SPOT 0 0, .bool false]) ?_ rfl ⟨rfl, (Below.refl _ _).alloc (Nat.le_refl _) _⟩
  simp [results, Tryz.f83, go_sem]
theorem or_low {m H : Nat} (hH : 1 ≤ H) : m * 2 ^ H ||| 2 ^ (H - 1) = (2 * m + 1) * 2 ^ (H - 1) := by
  have h1 : 2 ^ (H - 1) < 2 ^ H := Nat.pow_lt_pow_right (by decide) (by omega)
  have h2 := Nat.shiftLeft_add_eq_or_of_lt h1 m
  rw [Nat.shiftLeft_eq] at h2
  rw [← h2, Nat.add_mul, Nat.one_mul]
  congr 1
  obtain ⟨j, rfl⟩ : ∃ j, H = j + 1 := ⟨H - 1, by omega⟩
  rw [Nat.add_sub_cancel, Nat.pow_succ, Nat.mul_comm 2 m, Nat.mul_assoc, Nat.mul_comm 2]
theorem spot_ok (h k : Nat) (hN : Node h k) (w : World) : Calls Tryz.prog 83 #[.int .u64 ((PLC h k : Nat) : Int)] w fun e w' => e = .returned (.tuple #[SPOT h k, .bool true]) ∧ Below w.heap.size w w' := by
  have hp := hN.lt
  obtain ⟨p, hpe⟩ : ∃ p, p = PLC h k := ⟨_, rfl⟩
  rw [← hpe] at hp ⊢
  have HN : Aside (Node h k ∧ p = PLC h k ∧ p < 9223372036854775807) := ⟨hN, hpe, hp⟩
  have hd : decide ((9223372036854775807 : Int) ≤ (p : Int)) = false := by simp; omega
  have e1 : IntKind.u64.wrap ((p : Int) + 1) = (p : Int) + 1 := by rw [wrapU]; omega
  have c1 := high_ok (p + 1) (by omega)
  obtain ⟨h1, h2, h3⟩ := LEN_span (p + 1) (by omega) (by omega)
  obtain ⟨H, hH⟩ : ∃ H, LEN (p + 1) = H + 1 := ⟨LEN (p + 1) - 1, by omega⟩
  rw [hH] at h2 h3 c1
  rw [show (((H + 1 : Nat) : Int) - 1) = (H : Int) by omega, show ((p + 1 : Nat) : Int) = (p : Int) + 1 by omega] at c1
  have HH : Aside (H ≤ 62 ∧ p + 2 ≤ 2 ^ (H + 1)) := by
    refine ⟨?_, by omega⟩
    rcases Nat.lt_or_ge 62 H with h | h
    · have : 2 ^ 63 ≤ 2 ^ H := Nat.pow_le_pow_right (by decide) h
      simp at h2
      omega
    · exact h
  clear hN hpe hp h1 h2 h3 hH
  go_enter Tryz.func83, Tryz.ntmps83
  go_wp2_with fail
  refine (c1 _).mono ?_
  rintro e w' ⟨rfl, rfl⟩
  clear c1
  go_wp2
  go_loopg [0, 4, 5] H (fun g s0 s4 s5 wx => ∃ q L : Nat, s0 = .int .u64 (q : Int) ∧ s4 = .int .i64 (g : Int) ∧ s5 = .int .u64 (L : Int) ∧ Aside (wx = w.alloc (.cells #[.int .u8 0, .int .u64 0] 67) ∧ g ≤ 62 ∧ q + 2 ≤ 2 ^ (g + 1) ∧ ∃ m, L = m * 2 ^ g ∧ Node g m ∧ p = NODES L + q))
  case atStart => exact ⟨p, 0, rfl, rfl, rfl, rfl, HH.out.1, HH.out.2, 0, by simp, ⟨HH.out.1, Nat.two_pow_pos _⟩, by rw [NODES_zero]; omega⟩
  case round =>
    obtain ⟨q, L, rfl, rfl, rfl, A⟩ := hrel
    obtain ⟨hw, hg, hq, m, hL, hNm, hpL⟩ := A.out
    clear A
    have e2 : IntKind.u64.wrap ((q : Int) + 1) = (q : Int) + 1 := by
      have : 2 ^ (gk + 1) ≤ 2 ^ 63 := Nat.pow_le_pow_right (by decide) (by omega)
      rw [wrapU]
      omega
    have c1 := tree_ok gk (by omega)
    by_cases hT : q + 1 = TREE gk
    · have hmk : h = gk ∧ k = m := by
        refine HN.out.1.one hNm ?_
        rw [← HN.out.2.1, hpL, hL]
        unfold PLC
        unfold TREE at hT
        have := two_le gk
        omega
      obtain ⟨rfl, rfl⟩ := hmk
      have hLk : (L : Int) / 2 ^ h = (k : Int) := by
        rw [hL, div_cast, Nat.mul_div_cancel _ (Nat.two_pow_pos h)]
      rw [← hT, show ((q + 1 : Nat) : Int) = (q : Int) + 1 by omega] at c1
      have R : Aside (L = k * 2 ^ h ∧ h ≤ 62 ∧ (L : Int) / 2 ^ h = (k : Int)) := ⟨hL, hg, hLk⟩
      clear hg hq hL hNm hpL HN HH hT hLk
      subst hw
      go_wp2_with fail
      refine (c1 _).mono ?_
      rintro e w' ⟨rfl, rfl⟩
      clear c1
      go_wp2
      obtain ⟨hL, hg, hLk⟩ := R.out
      rw [show (h : Int) % 256 = (h : Int) by omega, show min h 64 = h by omega, hLk]
      refine bodyPost_ret (v := .tuple #[SPOT h k, .bool true]) ?_ rfl ⟨rfl, (Below.refl _ _).alloc (Nat.le_refl _) _⟩
      simp [results, Tryz.f83, go_sem]
    · have h1 : 1 ≤ gk := by
        rcases Nat.eq_zero_or_pos gk with h0 | h0
        · subst h0
          simp at hq
          unfold TREE at hT
          simp at hT
          omega
        · exact h0
      obtain ⟨g, rfl⟩ : ∃ g, gk = g + 1 := ⟨gk - 1, by omega⟩
      have c2 := tree_ok g (by omega)
      have hb : ((q : Int) + 1 == ((TREE (g + 1) : Nat) : Int)) = false := by simp; omega
      generalize hT1 : TREE (g + 1) = t1 at *
      have e3 : wrap64 (g : Int) = (g : Int) := by unfold wrap64; omega
      rw [show (((g + 1 : Nat) : Int)) = (g : Int) + 1 by omega] at c1 ⊢
      have R : Aside (wr = w.alloc (.cells #[.int .u8 0, .int .u64 0] 67) ∧ g + 1 ≤ 62 ∧ q + 2 ≤ 2 ^ (g + 1 + 1) ∧ L = m * 2 ^ (g + 1) ∧ Node (g + 1) m ∧ p = NODES L + q ∧ q + 1 ≠ t1 ∧ TREE (g + 1) = t1) := ⟨hw, hg, hq, hL, hNm, hpL, hT, hT1⟩
      clear hw hg hq hL hNm hpL hT hT1 h1 HN HH
      by_cases hlt : TREE g ≤ q
      · have hd2 : decide (((TREE g : Nat) : Int) ≤ (q : Int)) = true := by simp; omega
        obtain ⟨t2, ht2⟩ : ∃ t2, TREE g = t2 := ⟨_, rfl⟩
        rw [ht2] at c2 hd2
        have hd3 : (t2 : Int) ≤ (q : Int) := by simpa using hd2
        have R2 : Aside (TREE g = t2 ∧ t2 ≤ q) := ⟨ht2, by omega⟩
        clear hlt ht2 hd2
        go_wp2_with fail
        refine (c1 _).mono ?_
        rintro e w' ⟨rfl, rfl⟩
        clear c1
        go_wp2_with fail
        refine (c2 _).mono ?_
        rintro e w' ⟨rfl, rfl⟩
        clear c2
        go_wp2
        go_roundg g
        case measure => omega
        case rel =>
          obtain ⟨r1, r2, r3, r4, r5, r6, r7, r8⟩ := R.out
          obtain ⟨s1, s2⟩ := R2.out
          have hpw := two_le g
          have hpp : 2 ^ (g + 1 + 1) = 2 * 2 ^ (g + 1) := by rw [Nat.pow_succ 2 (g + 1), Nat.mul_comm]
          have hp63 : 2 ^ (g + 1 + 1) ≤ 2 ^ 63 := Nat.pow_le_pow_right (by decide) (by omega)
          have hg64 : 2 ^ g < 2 ^ 64 := Nat.pow_lt_pow_right (by decide) (by omega)
          have hL64 : L < 2 ^ 64 := by
            have := r5.span
            rw [Nat.add_mul, ← r4] at this
            omega
          have ea : IntKind.u64.wrap ((q : Int) - t2) = ((q - t2 : Nat) : Int) := by rw [wrapU]; omega
          have eb : bits .or .u64 (L : Int) (IntKind.u64.wrap (2 ^ min g 64)) = (((2 * m + 1) * 2 ^ g : Nat) : Int) := by
            have e5 : IntKind.u64.wrap (2 ^ min g 64) = ((2 ^ g : Nat) : Int) := by
              rw [wrapU, show min g 64 = g by omega, Int.natCast_pow]
              have : ((2 ^ g : Nat) : Int) = (2 : Int) ^ g := by simp
              have h7 : ((2 : Nat) : Int) = 2 := rfl
              rw [h7, ← this]
              omega
            rw [e5, or_eq hL64 hg64, r4]
            exact congrArg (fun x : Nat => (x : Int)) (or_low (m := m) (H := g + 1) (by omega))
          unfold TREE at s1 r8
          rw [ea, eb, e3]
          refine ⟨q - t2, (2 * m + 1) * 2 ^ g, rfl, rfl, rfl, r1, by omega, by omega, 2 * m + 1, rfl, ⟨by omega, ?_⟩, ?_⟩
          · have := r5.2
            rw [show 62 - g = 62 - (g + 1) + 1 by omega, Nat.pow_succ]
            omega
          · have e6 := NODES_plus m g
            rw [double_pow, ← r4] at e6
            rw [e6, r6]
            unfold TREE
            omega
      · have hd3 : ¬ ((TREE g : Nat) : Int) ≤ (q : Int) := by omega
        obtain ⟨t2, ht2⟩ : ∃ t2, TREE g = t2 := ⟨_, rfl⟩
        rw [ht2] at c2 hd3
        have R2 : Aside (TREE g = t2 ∧ q < t2) := ⟨ht2, by omega⟩
        clear hlt ht2
        go_wp2_with fail
        refine (c1 _).mono ?_
        rintro e w' ⟨rfl, rfl⟩
        clear c1
        go_wp2_with fail
        refine (c2 _).mono ?_
        rintro e w' ⟨rfl, rfl⟩
        clear c2
        go_wp2
        go_roundg g
        case measure => omega
        case rel =>
          obtain ⟨r1, r2, r3, r4, r5, r6, r7, r8⟩ := R.out
          obtain ⟨s1, s2⟩ := R2.out
          have hpw := two_le g
          unfold TREE at s1
          rw [e3]
          refine ⟨q, L, rfl, rfl, rfl, r1, by omega, by omega, 2 * m, by rw [double_pow, ← r4], ⟨by omega, ?_⟩, r6⟩
          have := r5.2
          rw [show 62 - g = 62 - (g + 1) + 1 by omega, Nat.pow_succ]
          omega
end Go.Proofs.YtlicfinmibbpdaaGreatDoor

/- slices.Backward over a list of heights: the heights come from the last to the first. -/
namespace Go.Proofs.YtlicfinmibbpdaaGreatDoor
open Go.RowKit Go.Shelf

attribute [local go_sem] Oper.semAt_some

/-- what has come when k rounds are over. -/
def UPTO {α : Type} (f : Nat → α) (k : Nat) : List α := (List.range k).map f
theorem UPTO_succ {α : Type} (f : Nat → α) (k : Nat) : UPTO f (k + 1) = UPTO f k ++ [f k] := by simp [UPTO, List.range_succ]
theorem UPTO_length {α : Type} (f : Nat → α) (k : Nat) : (UPTO f k).length = k := by simp [UPTO]

/-- what a round keeps: what lies below n₀, and the list's own box. -/
def KB (n₀ Bs : Nat) (A B : World) : Prop := Below n₀ A B ∧ B.cell? ⟨Bs, 0, none⟩ = A.cell? ⟨Bs, 0, none⟩
theorem KB.t {n₀ Bs : Nat} {A B C : World} (h : KB n₀ Bs A B) (k : KB n₀ Bs B C) : KB n₀ Bs A C := ⟨h.1.trans k.1, k.2.trans h.2⟩
theorem KB.b {n₀ Bs : Nat} {w : World} (hn : n₀ ≤ w.heap.size) (hB : Bs < w.heap.size) (W : World) (l : Nat) (o o' : Obj) (hl : w.heap.size ≤ l) (h : W.heap[l]? = some o) (h1 : o.isCells = false) (h2 : o.isWalk = false) : KB n₀ Bs W (W.putObj l o') :=
  ⟨belowK_b hn W l o o' hl h h1 h2, (belowK_b (Nat.le_refl w.heap.size) W l o o' hl h h1 h2).cell (p := ⟨Bs, 0, none⟩) hB⟩

/-- the pair that comes in round j: the index, and the height there. -/
def BACK (len : Nat) (f : Nat → Fin 64) (j : Nat) : Nat × Fin 64 := (len - 1 - j, f (len - 1 - j))

set_option maxRecDepth 100000 in
set_option maxHeartbeats 2000000 in
theorem backward1_in (F : Fence) (n : Nat) (hF : F.fn 133) (hro : F.round = none) (hn : 1 ≤ n) (l Bs n₀ b len cap : Nat) (f : Nat → Fin 64) (hreach : len ≤ 64) (hb : b < n₀) (J Jx : List (Nat × Fin 64) → World → Prop)
    (hY : ∀ pre x W, J pre W → pre.length < len → YieldAt F (n - 1) Tryz.prog l #[.int .i64 (x.1 : Int), .int .i64 (x.2.val : Int)] W fun e W' =>
      (e = .returned (.bool true) ∧ J (pre ++ [x]) W' ∧ KB n₀ Bs W W') ∨ (e = .returned (.bool false) ∧ Jx (pre ++ [x]) W'))
    (W : World) (hBs : W.cell? ⟨Bs, 0, none⟩ = some (.slice (some ⟨b, 0, none⟩) len cap)) (hc : ∀ j, j < len → W.cell? ⟨b, j, none⟩ = some (.int .i64 ((f j).val : Int))) (h0 : J [] W) :
    CallsIn F n Tryz.prog 133 #[.func (.yield l) #[] #[], .pointer (some ⟨Bs, 0, none⟩)] W fun e W' => (∃ v, e = .returned v) ∧
      ((∃ ys, ys = UPTO (BACK len f) len ∧ J ys W') ∨ (∃ pre, (∃ k, k ≤ len ∧ pre = UPTO (BACK len f) k) ∧ Jx pre W')) := by
  refine callsIn_of_wp Tryz.func133 rfl hF ?_ hro
  simp only [Tryz.ntmps133, List.size_toArray, List.length_cons, List.length_nil, Nat.reduceAdd, Nat.reduceSub, Array.replicate_succ, Array.replicate_zero, List.push_toArray, List.append_toArray, List.nil_append, List.cons_append]
  have e1 : wrap64 ((len : Int) - 1) = (len : Int) - 1 := by unfold wrap64; omega
  gi_wp2
  gi_loopw [3] (fun i wr => ∃ k : Nat, k ≤ len ∧ i = .int .i64 ((len : Int) - 1 - (k : Int)) ∧ J (UPTO (BACK len f) k) wr ∧ KB n₀ Bs W wr)
    (fun i _ => (intOf i + 1).toNat)
  case atStart => exact ⟨0, Nat.zero_le _, by simp, h0, Below.refl _ _, rfl⟩
  case round =>
    obtain ⟨k, hk, rfl, hJs, hnx⟩ := hrel
    by_cases hlt : k < len
    · obtain ⟨j, hj⟩ : ∃ j : Nat, (len : Int) - 1 - (k : Int) = (j : Int) := ⟨len - 1 - k, by omega⟩
      have hjl : j < len := by omega
      have hbk : BACK len f k = (j, f j) := by
        unfold BACK
        rw [show len - 1 - k = j by omega]
      have hcx : wr.cell? ⟨b, j, none⟩ = some (.int .i64 ((f j).val : Int)) := (hnx.1.cell (p := ⟨b, j, none⟩) hb).trans (hc j hjl)
      have hcs : wr.cell? ⟨Bs, 0, none⟩ = some (.slice (some ⟨b, 0, none⟩) len cap) := hnx.2.trans hBs
      obtain ⟨fn, tmps, assign, body, hy, hR⟩ := hY _ (j, f j) wr hJs (by rw [UPTO_length]; exact hlt)
      dsimp only at hy
      rw [hj]
      have e2 : wrap64 ((j : Int) - 1) = (j : Int) - 1 := by unfold wrap64; omega
      have hJ' : Aside ((len : Int) - 1 - (k : Int) = (j : Int)) := hj
      have hjl' : (j : Int) < (len : Int) := by omega
      clear hj
      gi_wp2
      refine hR.mono ?_
      rintro e W3 (⟨rfl, hJ3, hk3⟩ | ⟨rfl, hJx3⟩)
      · gi_wp2
        go_roundw
        case rel => exact ⟨k + 1, by omega, by have := hJ'.out; congr 1; omega, by rw [UPTO_succ, hbk]; exact hJ3, hnx.t hk3⟩
        case measure => simp [intOf]
      · gi_wp2
        refine bodyPost_ret (results_none rfl _ _ _) rfl ?_
        exact ⟨⟨_, rfl⟩, .inr ⟨_, ⟨k + 1, by omega, by rw [UPTO_succ, hbk]⟩, hJx3⟩⟩
    · obtain rfl : k = len := by omega
      rw [show (k : Int) - 1 - (k : Int) = -1 by omega]
      gi_wp2
      go_end0
      exact ⟨⟨_, rfl⟩, .inl ⟨_, rfl, hJs⟩⟩

set_option maxHeartbeats 1000000 in
theorem backward_in (F : Fence) (n : Nat) (hF : F.fn 105) (hro : F.round = none) (a : Option Addr) (len cap : Nat) (w : World) :
    CallsIn F n Tryz.prog 105 #[.slice a len cap] w fun e w' => e = .returned (.func (.func 133) #[] #[.pointer (some ⟨w.heap.size, 0, none⟩)]) ∧ w' = w.alloc (.cells #[.slice a len cap] 142) := by
  refine callsIn_of_wp Tryz.func105 rfl hF ?_ hro
  simp only [Tryz.ntmps105, List.size_toArray, List.length_cons, List.length_nil, Nat.reduceAdd, Nat.reduceSub, Array.replicate_succ, Array.replicate_zero, List.push_toArray, List.append_toArray, List.nil_append, List.cons_append]
  gi_wp2
  go_ret
  exact ⟨rfl, rfl⟩

theorem backward_stops (F : Fence) (n : Nat) (hF : F.fn 133) (hro : F.round = none) (hn : 1 ≤ n) (Bs n₀ b len cap : Nat) (f : Nat → Fin 64) (hreach : len ≤ 64) (hb : b < n₀) (w : World) (hBs : Bs < w.heap.size) (hn₀ : n₀ ≤ w.heap.size)
    (hc : w.cell? ⟨Bs, 0, none⟩ = some (.slice (some ⟨b, 0, none⟩) len cap)) (hI : ∀ j, j < len → w.cell? ⟨b, j, none⟩ = some (.int .i64 ((f j).val : Int))) :
    SeqStopsK F n Tryz.prog 133 #[.pointer (some ⟨Bs, 0, none⟩)] (fun x : Nat × Fin 64 => #[Value.int .i64 (x.1 : Int), Value.int .i64 (x.2.val : Int)]) (KB n₀ Bs) (fun ys => ys = UPTO (BACK len f) len)
      (fun pre => ∃ k, k ≤ len ∧ pre = UPTO (BACK len f) k) len w := fun l J Jx W hW _ _ hY h0 =>
  backward1_in F n hF hro hn l Bs n₀ b len cap f hreach hb J Jx hY W ((hW.cell (p := ⟨Bs, 0, none⟩) hBs).trans hc) (fun j hj => (hW.cell (p := ⟨b, j, none⟩) (by show b < _; omega)).trans (hI j hj)) h0
end Go.Proofs.YtlicfinmibbpdaaGreatDoor
