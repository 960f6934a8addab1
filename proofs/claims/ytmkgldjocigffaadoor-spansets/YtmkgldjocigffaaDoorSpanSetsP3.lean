/- Texts of SpanSets, one behind the other: NumListCalls, NumListPlain, PosPeaksPlain, CutPlain, PosCoversPlain, CutTopsPlain, ProofPlain, PosCalls. -/
import Derived.WalkKit
import Derived.WalkLawsBesides
import Derived.Deep.LoopGhost
import Derived.Deep.OwnRows
import Derived.Deep.AppendLies
import Derived.Test.YtmkgldjocigffaaDoorSpanSetsP2
/- What Bits of package num answers: the places of the set bits, the lowest first. -/
namespace Go.Proofs.YtmkgldjocigffaaDoor
open Go.RowKit

/-- places as cells. -/
def ICELLS (l : List Nat) : List Value := l.map fun (x : Nat) => Value.int .i64 (x : Int)
theorem ICELLS_snoc (l : List Nat) (x : Nat) : ICELLS (l ++ [x]) = ICELLS l ++ [.int .i64 (x : Int)] := by simp [ICELLS]
theorem info_parts_int : ∃ i, Tryd.prog.info? 3 = some i ∧ i.zero = some (.int .i64 0) ∧ i.size = 1 ∧ i.bytes = 8 := by
  have h : (Tryd.prog.info? 3).map (fun i => (i.zero, i.size, i.bytes)) = some (some (.int .i64 0), 1, 8) := by kernel_rfl
  obtain ⟨i, hi, h⟩ := Option.map_eq_some_iff.1 h
  simp only [Prod.mk.injEq] at h
  exact ⟨i, hi, h.1, h.2.1, h.2.2⟩
theorem app_int {ops : Array Oper} {rest : List Oper} {o : Oper} {a : Act} {Q : Exit → Act → World → Prop} (w : World) (hgd : o.guard = none) (s x : Operand)
    (ho : o.op = .call { callee := .builtin .append, args := #[s, x], argTypes := #[90, 90] })
    (base : Nat) (v : Value) (n : Nat) (xs : List Nat) (hs : a.eval s = v) (hown : w.ownsRow base 3 1 v n (ICELLS xs))
    (b c : Nat) (y : Nat) (hx : a.eval x = .slice (some ⟨b, 0, none⟩) 1 c) (hc : w.cell? ⟨b, 0, none⟩ = some (.int .i64 (y : Int)))
    (hb : n ≤ 1000) (hbase : base ≤ w.heap.size)
    (h : ∀ g cap w', w'.ownsRow base 3 1 (.slice (some ⟨g, 0, none⟩) (n + 1) cap) (n + 1) (ICELLS (xs ++ [y])) → w.grownBy w' v.ownBlock → g < w'.heap.size → wpList Tryd.prog ops Q rest (a.put o.dst (.slice (some ⟨g, 0, none⟩) (n + 1) cap)) w') : wpList Tryd.prog ops Q (o :: rest) a w := by
  obtain ⟨i, hi, hz, hs1, hby⟩ := info_parts_int
  refine wpList_append_lies w hgd s x 90 ho base 3 i (.int .i64 0) 1 8 Tryd.underlying90 hi hz hs1 hby rfl (by decide) v n (ICELLS xs) hs hown ⟨b, 0, none⟩ 1 c [.int .i64 (y : Int)] hx rfl ?_ (fun u hu => by simp at hu; subst hu; rfl) (by decide) (by simp only [maxLen]; omega) (by omega) hbase w.heap.size rfl ?_
  · intro j u hj
    cases j with
    | zero =>
      simp only [List.getElem?_cons_zero, Option.some.injEq] at hj
      subst hj
      exact hc
    | succ j => simp at hj
  · intro g cap w' h1 h2 _ h4
    rw [← ICELLS_snoc] at h1
    exact h g cap w' h1 h2 h4
theorem make_ints (n : Nat) (hn : n ≤ 64) (w : World) : ∃ cur : Array Value, cur.size = n ∧ (Instr.makeSlice 90 (.int .i64 0) (.int .i64 (n : Int))).run Tryd.prog w = .ok (.slice (some ⟨w.heap.size, 0, none⟩) 0 n) (w.alloc (.cells cur 3)) := by
  obtain ⟨i, hi, hz, hs1, hby⟩ := info_parts_int
  have h := run_make (P := Tryd.prog) w 90 3 i (.int .i64 0) Tryd.underlying90 hi hz .i64 .i64 0 n (by omega) (by omega) (by rw [hby]; omega) (by omega)
  refine ⟨_, ?_, h⟩
  rw [size_madeCells, hs1]
  omega
theorem Tabled.below {w w' : World} (h : Tabled w) (_ : 0 < w.heap.size) (hb : Below w.heap.size w w') : Tabled w' := fun i hi => (hb.cell (by exact World.block_lt_of_cell? _ _ (h i hi))).trans (h i hi)
theorem bits_ok (X : Nat) (hX : X < 2 ^ 64) (w : World) (hT : Tabled w) (h0 : 0 < w.heap.size) : Calls Tryd.prog 62 #[.int .u64 (X : Int)] w fun e w' =>
    ∃ g cap, e = .returned (.slice (some ⟨g, 0, none⟩) (POP X) cap) ∧ w'.ownsRow w.heap.size 3 1 (.slice (some ⟨g, 0, none⟩) (POP X) cap) (POP X) (ICELLS (PLACES X)) ∧ g < w'.heap.size ∧ Below w.heap.size w w' := by
  obtain ⟨cur, hcs, hmk⟩ := make_ints (POP X) (POP_le X) w
  have HX : Aside (X < 2 ^ 64) := hX
  have HT : Aside (Tabled w ∧ 0 < w.heap.size ∧ cur.size = POP X) := ⟨hT, h0, hcs⟩
  have c1 := ones_ok X hX
  clear hX hT h0 hcs
  generalize hp : POP X = p at *
  have HP : Aside (POP X = p) := hp
  clear hp
  go_enter Tryd.func62, Tryd.ntmps62
  go_wp2_with fail
  refine (c1 _).mono ?_
  rintro e w' ⟨rfl, rfl⟩
  clear c1
  go_wp2
  go_loopg [0, 3] p (fun g s0 s2 wx => ∃ (x : Nat), Aside (∃ l : List Nat, l ++ PLACES x = PLACES X ∧ x < 2 ^ 64 ∧ g = POP x ∧ wx.ownsRow w.heap.size 3 1 s2 l.length (ICELLS l) ∧ (∃ b cap, s2 = .slice (some ⟨b, 0, none⟩) l.length cap ∧ b < wx.heap.size) ∧ Below w.heap.size w wx) ∧ s0 = .int .u64 (x : Int))
  case atStart => exact ⟨X, ⟨[], rfl, HX.out, HP.out.symm, World.ownsRow_made w cur p (Nat.le_refl _) (by have := POP_le X; rw [HP.out] at this; simp only [maxLen]; omega) (by rw [HT.out.2.2]; omega), ⟨_, _, rfl, by simp⟩, (Below.refl _ _).alloc (Nat.le_refl _) _⟩, rfl⟩
  case round =>
    obtain ⟨x, A, rfl⟩ := hrel
    clear hmk
    cases hx : ((x : Int) == 0) with
    | true =>
      obtain ⟨l, hl, hxl, hg, hown, ⟨b, cap, hs, hb⟩, hbel⟩ := A.out
      have hx0 : x = 0 := by simpa using hx
      have hl2 : l = PLACES X := by
        rw [hx0, show PLACES 0 = [] from PL_zero 64 0, List.append_nil] at hl
        exact hl
      have hlen : l.length = p := by rw [hl2, PLACES_length, HP.out]
      subst hs
      rw [hlen, hl2] at hown
      have R : Aside (wr.ownsRow w.heap.size 3 1 (.slice (some ⟨b, 0, none⟩) p cap) p (ICELLS (PLACES X)) ∧ b < wr.heap.size ∧ Below w.heap.size w wr ∧ l.length = p) := ⟨hown, hb, hbel, hlen⟩
      clear A hl hxl hg hown hb hbel hx0 hl2 hlen HX HT HP
      go_wp2
      go_ret
      obtain ⟨h1, h2, h3, h4⟩ := R.out
      refine ⟨b, cap, ?_, h1, h2, h3⟩
      rw [← h4]
      rfl
    | false =>
      obtain ⟨l, hl, hxl, hg, hown, ⟨b, cap, hs, hb⟩, hbel⟩ := A.out
      have hx0 : x ≠ 0 := by simpa using hx
      obtain ⟨t, q, e⟩ := low_split x hx0
      have ht : t < 64 := (neg_and hxl e).2
      have cl := low_raw x t wr (tz_ok x t q hxl e wr (HT.out.1.below HT.out.2.1 hbel))
      obtain ⟨y, hy⟩ : ∃ y, y = 2 ^ (t + 1) * q := ⟨_, rfl⟩
      have hya : x &&& (x - 1) = y := by rw [e, hy]; exact less_and t q
      have hstep : PLACES x = t :: PLACES y := by
        rw [e, hy]
        have := PL_step t 64 0 q ht
        rw [Nat.zero_add] at this
        exact this
      have hand : bits .and .u64 (x : Int) (IntKind.u64.wrap ((x : Int) - 1)) = (y : Int) := by
        have hm : IntKind.u64.wrap ((x : Int) - 1) = ((x - 1 : Nat) : Int) := by rw [wrapU]; omega
        rw [hm, and_eq hxl (by omega), hya]
      have hyx : y < 2 ^ 64 := Nat.lt_of_le_of_lt (by rw [← hya]; exact Nat.and_le_left) hxl
      have hlen : l.length ≤ 1000 := by
        have h1 := congrArg List.length hl
        have h2 := POP_le X
        rw [List.length_append, PLACES_length X] at h1
        omega
      have hPy : POP x = POP y + 1 := by
        rw [← PLACES_length, ← PLACES_length, hstep, List.length_cons]
      have R : Aside ((l ++ [t]) ++ PLACES y = PLACES X ∧ y < 2 ^ 64 ∧ gk = POP y + 1 ∧ wr.ownsRow w.heap.size 3 1 u3 l.length (ICELLS l) ∧ Below w.heap.size w wr ∧ l.length ≤ 1000) := ⟨by rw [List.append_assoc, List.singleton_append, ← hstep]; exact hl, hyx, by rw [hg, hPy], hown, hbel, hlen⟩
      clear A hl hxl hg hown hs hb hbel hx0 e ht hy hya hstep hyx hlen hPy HX HT HP
      go_wp2_with fail
      refine cl.mono ?_
      rintro e w' ⟨rfl, rfl⟩
      clear cl
      go_wp2_with (at_builtin; refine app_int _ rfl (.tmp 13) (.tmp 16) rfl w.heap.size u3 l.length l rfl (R.out.2.2.2.1.alloc _) wr.heap.size 1 t rfl (by rw [World.cell?_alloc_at _ _ _ _ rfl]; rfl) R.out.2.2.2.2.2 (by have := R.out.2.2.2.2.1.size; simp; omega) ?_; intro g cap w1 hown hgrow hg)
      obtain ⟨r1, r2, r3, r4, r5, r6⟩ := R.out
      have R2 : Aside ((l ++ [t]) ++ PLACES y = PLACES X ∧ y < 2 ^ 64 ∧ gk = POP y + 1 ∧ w1.ownsRow w.heap.size 3 1 (.slice (some ⟨g, 0, none⟩) (l.length + 1) cap) (l.length + 1) (ICELLS (l ++ [t])) ∧ g < w1.heap.size ∧ Below w.heap.size w w1) := ⟨r1, r2, r3, hown, hg, (r5.alloc r5.size _).grown hgrow (by have := r5.size; simp; omega) (fun k e => (r4.lt k e).1)⟩
      clear hown hgrow hg R r1 r2 r3 r4 r5 r6
      go_wp2
      go_roundg (gk - 1)
      case measure => have := R2.out.2.2.1; omega
      case rel =>
        obtain ⟨r1, r2, r3, r4, r5, r6⟩ := R2.out
        have e : (l ++ [t]).length = l.length + 1 := by simp
        exact ⟨y, ⟨l ++ [t], r1, r2, by omega, by rw [e]; exact r4, ⟨g, cap, by rw [e], r5⟩, r6⟩, by first | rfl | (rw [hand])⟩
end Go.Proofs.YtmkgldjocigffaaDoor

/- The places of the set bits: in order, and put together they are the number. -/
namespace Go.Proofs.YtmkgldjocigffaaDoor
open Go.RowKit

theorem PL_range : ∀ k o X, ∀ i ∈ PL k o X, o ≤ i ∧ i < o + k
  | 0, _, _, i, h => by simp [PL] at h
  | k + 1, o, X, i, h => by
    have ih := PL_range k (o + 1) (X / 2) i
    unfold PL at h
    split at h
    · rcases List.mem_cons.1 h with rfl | h
      · omega
      · have := ih h
        omega
    · have := ih h
      omega
/-- the place of bit number i. -/
def PLACE (X i : Nat) : Nat := (PLACES X).getD i 0
theorem PLACE_at {X i : Nat} (h : i < POP X) : (PLACES X)[i]? = some (PLACE X i) := by
  rw [← PLACES_length] at h
  unfold PLACE
  rw [List.getD_eq_getElem?_getD, List.getElem?_eq_getElem h]
  rfl
theorem PLACE_le {X i : Nat} (h : i < POP X) : PLACE X i ≤ 63 := by
  have := PL_range 64 0 X _ (List.mem_of_getElem? (PLACE_at h))
  omega
theorem places_at {w : World} {base g n cap : Nat} {X : Nat} (h : w.ownsRow base 3 1 (.slice (some ⟨g, 0, none⟩) n cap) n (ICELLS (PLACES X))) (i : Nat) (hi : i < POP X) : w.cell? ⟨g, i, none⟩ = some (.int .i64 (PLACE X i : Nat)) := by
  have hlen : (PLACES X).length = n := by have := h.1; simpa [ICELLS] using this
  rw [PLACES_length] at hlen
  rw [h.cellAt i (by omega)]
  unfold ICELLS
  rw [List.getElem?_map, PLACE_at hi]
  rfl
end Go.Proofs.YtmkgldjocigffaaDoor

/- Peaks in plain numbers: the heights of the peaks of n leaves, their places, which one stands over a leaf, the way there. -/
namespace Go.Proofs.YtmkgldjocigffaaDoor

/-- the places of the bits of n that are set, from h on. -/
def UP (h n : Nat) : List Nat := PL (64 - h) h (n / 2 ^ h)
theorem UP_step {h n : Nat} (hh : h < 64) : UP h n = if n / 2 ^ h % 2 = 1 then h :: UP (h + 1) n else UP (h + 1) n := by
  unfold UP
  rw [show 64 - h = (64 - (h + 1)) + 1 by omega, PL, Nat.div_div_eq_div_mul, ← Nat.pow_succ]
theorem UP_zero (n : Nat) : UP 0 n = PLACES n := by
  unfold UP PLACES
  simp
theorem UP_top {h n : Nat} (hn : n < 2 ^ h) : UP h n = [] := by
  unfold UP
  rw [Nat.div_eq_of_lt hn, PL_zero]
/-- the heights of the peaks of n leaves that are at least h, from the left. -/
def HS (h n : Nat) : List Nat := (UP h n).reverse
theorem HS_set {h n : Nat} (hh : h < 64) (hb : n / 2 ^ h % 2 = 1) : HS h n = HS (h + 1) n ++ [h] := by
  unfold HS
  rw [UP_step hh, if_pos hb, List.reverse_cons]
theorem HS_clear {h n : Nat} (hh : h < 64) (hb : ¬ n / 2 ^ h % 2 = 1) : HS h n = HS (h + 1) n := by
  unfold HS
  rw [UP_step hh, if_neg hb]
theorem HS_top {h n : Nat} (hn : n < 2 ^ h) : HS h n = [] := by
  unfold HS
  rw [UP_top hn]
  rfl
theorem HS_zero (n : Nat) : HS 0 n = (PLACES n).reverse := by
  unfold HS
  rw [UP_zero]
theorem HS_length {n : Nat} (hn : n < 2 ^ 64) : ∀ h, h ≤ 64 → (HS h n).length = PC (n / 2 ^ h) := by
  have key : ∀ d h, h + d = 64 → (HS h n).length = PC (n / 2 ^ h) := by
    intro d
    induction d with
    | zero =>
      intro h e
      obtain rfl : h = 64 := by omega
      rw [HS_top hn, Nat.div_eq_of_lt hn, PC_zero]
      rfl
    | succ d ih =>
      intro h e
      have ih := ih (h + 1) (by omega)
      rw [PC_step, Nat.div_div_eq_div_mul, ← Nat.pow_succ, ← ih]
      by_cases hb : n / 2 ^ h % 2 = 1
      · rw [HS_set (by omega) hb, List.length_append, List.length_singleton]
        omega
      · rw [HS_clear (by omega) hb]
        omega
  intro h hh
  exact key (64 - h) h (by omega)
theorem HS_set_of {n : Nat} : ∀ h x, h ≤ 64 → x ∈ HS h n → h ≤ x ∧ x < 64 ∧ n / 2 ^ x % 2 = 1 := by
  have key : ∀ d h, h + d = 64 → ∀ x, x ∈ HS h n → h ≤ x ∧ x < 64 ∧ n / 2 ^ x % 2 = 1 := by
    intro d
    induction d with
    | zero =>
      intro h e x hx
      obtain rfl : h = 64 := by omega
      simp [HS, UP, PL] at hx
    | succ d ih =>
      intro h e x hx
      by_cases hb : n / 2 ^ h % 2 = 1
      · rw [HS_set (by omega) hb, List.mem_append, List.mem_singleton] at hx
        rcases hx with hx | rfl
        · have := ih (h + 1) (by omega) x hx
          exact ⟨by omega, this.2⟩
        · exact ⟨Nat.le_refl _, by omega, hb⟩
      · rw [HS_clear (by omega) hb] at hx
        have := ih (h + 1) (by omega) x hx
        exact ⟨by omega, this.2⟩
  intro h x hh
  exact key (64 - h) h (by omega) x

/-- the place of the peak of height h of n leaves. -/
def PKP (n h : Nat) : Nat := PLC h (2 * (n / 2 ^ (h + 1)))
/-- the places of the peaks of n leaves, from the left. -/
def PEAKS (n : Nat) : List Nat := (HS 0 n).map (PKP n)
theorem half_pow (n h : Nat) : n / 2 ^ (h + 1) = n / 2 ^ h / 2 := by rw [Nat.div_div_eq_div_mul, ← Nat.pow_succ]
theorem NODES_plus (m h : Nat) : NODES ((2 * m + 1) * 2 ^ h) = NODES (2 * m * 2 ^ h) + TREE h := by
  have h1 := NODES_add ((2 * m + 1) * 2 ^ h)
  have h2 := NODES_add (2 * m * 2 ^ h)
  rw [PC_shift, PC_odd, Nat.add_mul, Nat.one_mul] at h1
  rw [PC_shift, PC_even] at h2
  have h3 := two_le h
  rw [Nat.pow_succ] at h3
  rw [Nat.add_mul, Nat.one_mul]
  unfold TREE
  rw [Nat.pow_succ]
  omega
theorem at_set {n h : Nat} (hb : n / 2 ^ h % 2 = 1) : n / 2 ^ h = 2 * (n / 2 ^ (h + 1)) + 1 := by
  rw [half_pow]
  omega
theorem at_clear {n h : Nat} (hb : ¬ n / 2 ^ h % 2 = 1) : n / 2 ^ h = 2 * (n / 2 ^ (h + 1)) := by
  rw [half_pow]
  omega
theorem double_pow (m h : Nat) : 2 * m * 2 ^ h = m * 2 ^ (h + 1) := by
  rw [Nat.pow_succ, Nat.mul_comm 2 m, Nat.mul_assoc, Nat.mul_comm 2]
/-- what the loop over the heights makes: how many nodes, and the places. -/
def ST (l : List Nat) : Nat × List Nat := l.foldl (fun s h => ((s.1 + TREE h) % 2 ^ 64, s.2 ++ [((s.1 + TREE h) % 2 ^ 64 + (2 ^ 64 - 1)) % 2 ^ 64])) (0, [])
theorem ST_snoc (l : List Nat) (h : Nat) : ST (l ++ [h]) = (((ST l).1 + TREE h) % 2 ^ 64, (ST l).2 ++ [(((ST l).1 + TREE h) % 2 ^ 64 + (2 ^ 64 - 1)) % 2 ^ 64]) := by
  unfold ST
  rw [List.foldl_append]
  rfl
theorem NODES_top {n : Nat} (hn : n ≤ 4611686018427387904) : NODES n ≤ 9223372036854775807 := by
  rw [← NODES_most]
  exact NODES_le hn
theorem ST_HS {n : Nat} (hn : n ≤ 4611686018427387904) : ∀ h, h ≤ 64 → ST (HS h n) = (NODES (n / 2 ^ h * 2 ^ h), (HS h n).map (PKP n)) := by
  have key : ∀ d h, h + d = 64 → ST (HS h n) = (NODES (n / 2 ^ h * 2 ^ h), (HS h n).map (PKP n)) := by
    intro d
    induction d with
    | zero =>
      intro h e
      obtain rfl : h = 64 := by omega
      rw [HS_top (by omega), Nat.div_eq_of_lt (by omega), Nat.zero_mul, NODES_zero]
      rfl
    | succ d ih =>
      intro h e
      have ih := ih (h + 1) (by omega)
      by_cases hb : n / 2 ^ h % 2 = 1
      · have e1 := at_set hb
        have h2 : NODES (n / 2 ^ h * 2 ^ h) = NODES (n / 2 ^ (h + 1) * 2 ^ (h + 1)) + TREE h := by
          rw [e1, NODES_plus, double_pow]
        have h3 : NODES (n / 2 ^ h * 2 ^ h) ≤ 9223372036854775807 := NODES_top (Nat.le_trans (Nat.div_mul_le_self _ _) hn)
        have h4 := two_le h
        have hs : (NODES (n / 2 ^ (h + 1) * 2 ^ (h + 1)) + TREE h) % 2 ^ 64 = NODES (n / 2 ^ h * 2 ^ h) := by
          rw [← h2]
          omega
        have hp : (NODES (n / 2 ^ h * 2 ^ h) + (2 ^ 64 - 1)) % 2 ^ 64 = PKP n h := by
          unfold PKP PLC
          rw [double_pow]
          unfold TREE at h2
          omega
        rw [HS_set (by omega) hb, ST_snoc, ih]
        dsimp only
        rw [hs, hp, List.map_append]
        rfl
      · rw [HS_clear (by omega) hb, ih, at_clear hb, double_pow]
  intro h hh
  exact key (64 - h) h (by omega)
theorem ST_all {n : Nat} (hn : n ≤ 4611686018427387904) : ST (HS 0 n) = (NODES n, PEAKS n) := by
  have := ST_HS hn 0 (by omega)
  unfold PEAKS
  simpa using this

theorem Node.peak {n h : Nat} (hn : n ≤ 4611686018427387904) (hb : n / 2 ^ h % 2 = 1) : Node h (2 * (n / 2 ^ (h + 1))) := by
  have h62 : h ≤ 62 := by
    rcases Nat.lt_or_ge 62 h with h1 | h1
    · have : 2 ^ 63 ≤ 2 ^ h := Nat.pow_le_pow_right (by decide) h1
      rw [Nat.div_eq_of_lt (by omega)] at hb
      omega
    · exact h1
  refine ⟨h62, ?_⟩
  have h1 : n / 2 ^ h ≤ 2 ^ (62 - h) := by
    have : n / 2 ^ h ≤ 2 ^ 62 / 2 ^ h := Nat.div_le_div_right (by simpa using hn)
    rw [Nat.pow_div h62 (by decide)] at this
    exact this
  rw [at_set hb] at h1
  omega
end Go.Proofs.YtmkgldjocigffaaDoor

/- Spans of leaves as perfect trees, in plain numbers. -/
namespace Go.Proofs.YtmkgldjocigffaaDoor

/-- a perfect tree of height h begins at a and does not reach beyond b. -/
abbrev Fit (a h b : Nat) : Prop := a % 2 ^ h = 0 ∧ a + 2 ^ h ≤ b
theorem Fit.down {a h b : Nat} (f : Fit a (h + 1) b) : Fit a h b := by
  have h1 : 2 ^ (h + 1) = 2 ^ h * 2 := Nat.pow_succ 2 h
  have h2 := f.2
  refine ⟨?_, by omega⟩
  have h3 := f.1
  have h4 : 2 ^ h ∣ 2 ^ (h + 1) := ⟨2, h1⟩
  exact Nat.mod_eq_zero_of_dvd (Nat.dvd_trans h4 (Nat.dvd_of_mod_eq_zero h3))
theorem Fit.le {a g b : Nat} : ∀ h, h ≤ g → Fit a g b → Fit a h b := by
  intro h hg f
  induction g with
  | zero => obtain rfl : h = 0 := by omega
            exact f
  | succ g ih =>
    rcases Nat.lt_or_ge h (g + 1) with h1 | h1
    · exact ih (by omega) f.down
    · obtain rfl : h = g + 1 := by omega
      exact f
theorem Fit.zero {a b : Nat} (h : a < b) : Fit a 0 b := ⟨Nat.mod_one a, by simp; omega⟩
/-- the greatest height up to f that fits. -/
def HTF : Nat → Nat → Nat → Nat
  | 0, _, _ => 0
  | f + 1, a, b => if Fit a (f + 1) b then f + 1 else HTF f a b
/-- the height of the greatest tree that begins at a and does not reach beyond b. -/
def HT (a b : Nat) : Nat := HTF 62 a b
/-- spots that lie over the leaves from a to b - 1, one behind the other. -/
def Tile : Nat → List (Nat × Nat) → Nat → Prop
  | a, [], b => a = b
  | a, s :: l, b => Node s.1 s.2 ∧ s.2 * 2 ^ s.1 = a ∧ Tile ((s.2 + 1) * 2 ^ s.1) l b
/-- two neighbours that are siblings. -/
abbrev Sibs (x y : Nat × Nat) : Prop := x.1 = y.1 ∧ x.2 % 2 = 0 ∧ y.2 = x.2 + 1
/-- no two neighbours are siblings. -/
def Irr : List (Nat × Nat) → Prop
  | [] => True
  | x :: l => (∀ y, l.head? = some y → ¬ Sibs x y) ∧ Irr l
theorem Fit.node {a h b : Nat} (f : Fit a h b) (hh : h ≤ 62) (hb : b ≤ 4611686018427387904) : Node h (a / 2 ^ h) ∧ a / 2 ^ h * 2 ^ h = a ∧ (a / 2 ^ h + 1) * 2 ^ h = a + 2 ^ h := by
  have h1 : a / 2 ^ h * 2 ^ h = a := Nat.div_mul_cancel (Nat.dvd_of_mod_eq_zero f.1)
  have h2 : (a / 2 ^ h + 1) * 2 ^ h = a + 2 ^ h := by rw [Nat.add_mul, Nat.one_mul, h1]
  refine ⟨⟨hh, ?_⟩, h1, h2⟩
  have h3 : (a / 2 ^ h + 1) * 2 ^ h ≤ 2 ^ (62 - h) * 2 ^ h := by
    rw [h2, ← Nat.pow_add, show 62 - h + h = 62 by omega]
    have := f.2
    simp
    omega
  exact Nat.le_of_mul_le_mul_right h3 (Nat.two_pow_pos h)
theorem pow_up (h : Nat) : 2 ^ (h + 1) = 2 * 2 ^ h := by rw [Nat.pow_succ, Nat.mul_comm]
theorem Tile.bound {l : List (Nat × Nat)} : ∀ {a b : Nat}, Tile a l b → a ≤ b ∧ (l ≠ [] → a < b ∧ b ≤ 4611686018427387904) := by
  induction l with
  | nil => intro a b h; exact ⟨by have : a = b := h; omega, fun h => absurd rfl h⟩
  | cons s l ih =>
    intro a b ⟨h1, h2, h3⟩
    have i := ih h3
    have := Nat.two_pow_pos s.1
    have e : (s.2 + 1) * 2 ^ s.1 = s.2 * 2 ^ s.1 + 2 ^ s.1 := by rw [Nat.add_mul, Nat.one_mul]
    refine ⟨by omega, fun _ => ⟨by omega, ?_⟩⟩
    cases l with
    | nil =>
      have h4 : (s.2 + 1) * 2 ^ s.1 = b := h3
      have := h1.span
      simp at this
      omega
    | cons t l => exact (i.2 (by simp)).2
theorem Tile.append {l m : List (Nat × Nat)} : ∀ {a b c : Nat}, Tile a l b → Tile b m c → Tile a (l ++ m) c := by
  induction l with
  | nil => intro a b c h h2; have : a = b := h; rw [this]; exact h2
  | cons s l ih => intro a b c ⟨h1, h2, h3⟩ h4; exact ⟨h1, h2, ih h3 h4⟩
theorem Tile.node {l : List (Nat × Nat)} : ∀ {a b i h k : Nat}, Tile a l b → l[i]? = some (h, k) → Node h k := by
  induction l with
  | nil => intro a b i h k _ e; simp at e
  | cons s l ih =>
    intro a b i h k ⟨h1, h2, h3⟩ e
    cases i with
    | zero => simp at e; subst e; exact h1
    | succ i => exact ih h3 (by simpa using e)
theorem Tile.one {s : Nat × Nat} {a b : Nat} : Tile a [s] b ↔ Node s.1 s.2 ∧ s.2 * 2 ^ s.1 = a ∧ (s.2 + 1) * 2 ^ s.1 = b := Iff.rfl
end Go.Proofs.YtmkgldjocigffaaDoor

/- The peaks of n leaves, one behind the other, in plain numbers. -/
namespace Go.Proofs.YtmkgldjocigffaaDoor

theorem PC_eq_zero {n : Nat} (h : PC n = 0) : n = 0 := by
  induction n using Nat.strongRecOn with
  | _ n ih =>
    by_cases h0 : n = 0
    · exact h0
    · rw [PC_step] at h
      have := ih (n / 2) (by omega) (by omega)
      omega
theorem PC_split (n a b : Nat) (hab : a ≤ b) : n / 2 ^ a = n / 2 ^ b * 2 ^ (b - a) + n / 2 ^ a % 2 ^ (b - a) ∧ PC (n / 2 ^ a) = PC (n / 2 ^ b) + PC (n / 2 ^ a % 2 ^ (b - a)) := by
  have e : n / 2 ^ b = n / 2 ^ a / 2 ^ (b - a) := by rw [Nat.div_div_eq_div_mul, ← Nat.pow_add, show a + (b - a) = b by omega]
  have h1 : n / 2 ^ a = n / 2 ^ b * 2 ^ (b - a) + n / 2 ^ a % 2 ^ (b - a) := by
    rw [e, Nat.mul_comm]
    exact (Nat.div_add_mod _ _).symm
  refine ⟨h1, ?_⟩
  have h2 := PC_add (b - a) (n / 2 ^ b) (n / 2 ^ a % 2 ^ (b - a)) (Nat.mod_lt _ (Nat.two_pow_pos _))
  rw [← h1] at h2
  exact h2
theorem PC_mono (n : Nat) {a b : Nat} (hab : a ≤ b) : PC (n / 2 ^ b) ≤ PC (n / 2 ^ a) := by
  have := (PC_split n a b hab).2
  omega
theorem trunc_eq (n : Nat) {a b : Nat} (hab : a ≤ b) (h : PC (n / 2 ^ a) = PC (n / 2 ^ b)) : n / 2 ^ a * 2 ^ a = n / 2 ^ b * 2 ^ b := by
  obtain ⟨h1, h2⟩ := PC_split n a b hab
  have h3 : n / 2 ^ a % 2 ^ (b - a) = 0 := PC_eq_zero (by omega)
  rw [h3, Nat.add_zero] at h1
  rw [h1, Nat.mul_assoc, ← Nat.pow_add, show b - a + a = b by omega]
theorem HS_index {n : Nat} (hn : n < 2 ^ 64) : ∀ h, h ≤ 64 → ∀ i, i < PC (n / 2 ^ h) → ∃ g, h ≤ g ∧ g < 64 ∧ (HS h n)[i]? = some g ∧ n / 2 ^ g % 2 = 1 ∧ i = PC (n / 2 ^ (g + 1)) := by
  have key : ∀ d h, h + d = 64 → ∀ i, i < PC (n / 2 ^ h) → ∃ g, h ≤ g ∧ g < 64 ∧ (HS h n)[i]? = some g ∧ n / 2 ^ g % 2 = 1 ∧ i = PC (n / 2 ^ (g + 1)) := by
    intro d
    induction d with
    | zero =>
      intro h e i hi
      obtain rfl : h = 64 := by omega
      rw [Nat.div_eq_of_lt hn, PC_zero] at hi
      omega
    | succ d ih =>
      intro h e i hi
      have hl := HS_length hn (h + 1) (by omega)
      have hs : PC (n / 2 ^ h) = n / 2 ^ h % 2 + PC (n / 2 ^ (h + 1)) := by rw [PC_step, half_pow]
      rcases Nat.lt_or_ge i (PC (n / 2 ^ (h + 1))) with h1 | h1
      · obtain ⟨g, a, b, c, r⟩ := ih (h + 1) (by omega) i h1
        refine ⟨g, by omega, b, ?_, r⟩
        by_cases hb : n / 2 ^ h % 2 = 1
        · rw [HS_set (by omega) hb, List.getElem?_append_left (by omega)]
          exact c
        · rw [HS_clear (by omega) hb]
          exact c
      · have hb : n / 2 ^ h % 2 = 1 := by omega
        have hi' : i = PC (n / 2 ^ (h + 1)) := by omega
        refine ⟨h, Nat.le_refl _, by omega, ?_, hb, hi'⟩
        rw [HS_set (by omega) hb, List.getElem?_append_right (by omega), hl, hi']
        simp
  intro h hh
  exact key (64 - h) h (by omega)
/-- the height of the peak i of n leaves; the leaves ahead of it. -/
def HGT (n i : Nat) : Nat := (HS 0 n).getD i 0
def AHEAD (n : Nat) : Nat → Nat
  | 0 => 0
  | i + 1 => n / 2 ^ HGT n i * 2 ^ HGT n i
theorem HGT_at {n i : Nat} (hn : n < 2 ^ 64) (hi : i < PC n) : (HS 0 n)[i]? = some (HGT n i) ∧ n / 2 ^ HGT n i % 2 = 1 ∧ i = PC (n / 2 ^ (HGT n i + 1)) := by
  obtain ⟨g, _, _, c, d, e⟩ := HS_index hn 0 (by omega) i (by rw [Nat.pow_zero, Nat.div_one]; exact hi)
  have hg : HGT n i = g := by unfold HGT; rw [List.getD_eq_getElem?_getD, c]; rfl
  rw [hg]
  exact ⟨c, d, e⟩
/-- the index of the peak i among the nodes of its height. -/
def KGT (n i : Nat) : Nat := 2 * (n / 2 ^ (HGT n i + 1))
theorem PEAK_node {n i : Nat} (hn : n ≤ 4611686018427387904) (hi : i < PC n) : Node (HGT n i) (KGT n i) := Node.peak hn (HGT_at (by omega) hi).2.1
theorem PC_after {n i : Nat} (hn : n < 2 ^ 64) (hi : i < PC n) : PC (n / 2 ^ HGT n i) = i + 1 := by
  obtain ⟨_, h2, h3⟩ := HGT_at hn hi
  rw [PC_step, ← half_pow]
  omega
theorem HGT_falls {n i : Nat} (hn : n < 2 ^ 64) (hi : i + 1 < PC n) : HGT n (i + 1) < HGT n i := by
  have h1 := PC_after hn (i := i) (by omega)
  have h2 := (HGT_at hn hi).2.2
  rcases Nat.lt_or_ge (HGT n (i + 1)) (HGT n i) with h | h
  · exact h
  · have h3 := PC_mono n (a := HGT n i + 1) (b := HGT n (i + 1) + 1) (by omega)
    have h4 := (HGT_at hn (i := i) (by omega)).2.2
    omega
theorem AHEAD_from {n i : Nat} (hn : n < 2 ^ 64) (hi : i < PC n) : KGT n i * 2 ^ HGT n i = AHEAD n i := by
  have hk : KGT n i * 2 ^ HGT n i = n / 2 ^ (HGT n i + 1) * 2 ^ (HGT n i + 1) := double_pow _ _
  have h2 := (HGT_at hn hi).2.2
  cases i with
  | zero =>
    rw [hk, PC_eq_zero h2.symm, Nat.zero_mul]
    rfl
  | succ i =>
    have h1 := PC_after hn (i := i) (by omega)
    have h3 := HGT_falls hn hi
    rw [hk]
    exact trunc_eq n (by omega) (by omega)
theorem AHEAD_to {n i : Nat} (hn : n < 2 ^ 64) (hi : i < PC n) : (KGT n i + 1) * 2 ^ HGT n i = AHEAD n (i + 1) := by
  have := at_set (HGT_at hn hi).2.1
  show (2 * (n / 2 ^ (HGT n i + 1)) + 1) * 2 ^ HGT n i = n / 2 ^ HGT n i * 2 ^ HGT n i
  rw [← this]
theorem AHEAD_all {n : Nat} (hn : n < 2 ^ 64) : AHEAD n (PC n) = n := by
  cases h : PC n with
  | zero =>
    rw [PC_eq_zero h]
    rfl
  | succ i =>
    have h1 := PC_after hn (i := i) (by omega)
    have h2 := trunc_eq n (a := 0) (b := HGT n i) (by omega) (by rw [Nat.pow_zero, Nat.div_one]; omega)
    rw [Nat.pow_zero, Nat.div_one, Nat.mul_one] at h2
    exact h2.symm
end Go.Proofs.YtmkgldjocigffaaDoor

/- The spots of the peaks are the span of all leaves. -/
namespace Go.Proofs.YtmkgldjocigffaaDoor

/-- the peaks' spots from the j-th on. -/
def PKS (n j c : Nat) : List (Nat × Nat) := (List.range' j c).map fun i => (HGT n i, KGT n i)
theorem PKS_step (n j c : Nat) : PKS n j (c + 1) = (HGT n j, KGT n j) :: PKS n (j + 1) c := by simp [PKS, List.range'_succ]
theorem PKS_at {n c i : Nat} (h : i < c) : (PKS n 0 c)[i]? = some (HGT n i, KGT n i) := by
  simp [PKS, h]
theorem PKS_tile {n : Nat} (hn : n ≤ 4611686018427387904) : ∀ c j, j + c = PC n → Tile (AHEAD n j) (PKS n j c) n ∧ Irr (PKS n j c) := by
  intro c
  induction c with
  | zero =>
    intro j e
    obtain rfl : j = PC n := by omega
    exact ⟨AHEAD_all (by omega), trivial⟩
  | succ c ih =>
    intro j e
    obtain ⟨i1, i2⟩ := ih (j + 1) (by omega)
    rw [PKS_step]
    refine ⟨⟨PEAK_node hn (by omega), AHEAD_from (by omega) (by omega), ?_⟩, ?_, i2⟩
    · show Tile ((KGT n j + 1) * 2 ^ HGT n j) _ n
      rw [AHEAD_to (by omega) (by omega)]
      exact i1
    · intro y hy ⟨h1, _, _⟩
      cases c with
      | zero => simp [PKS] at hy
      | succ c =>
        rw [PKS_step] at hy
        simp at hy
        subst hy
        have := HGT_falls (n := n) (i := j) (by omega) (by omega)
        dsimp only at h1
        omega
end Go.Proofs.YtmkgldjocigffaaDoor

/- Which nodes a proof has, as spots: the siblings on the way up and the other peaks; the peaks of an earlier size and the spots behind it. -/
namespace Go.Proofs.YtmkgldjocigffaaDoor

/-- two spots have no leaf together. -/
def Off (s t : Nat × Nat) : Prop := (s.2 + 1) * 2 ^ s.1 ≤ t.2 * 2 ^ t.1 ∨ (t.2 + 1) * 2 ^ t.1 ≤ s.2 * 2 ^ s.1
/-- how many leaves lie under spots. -/
def SIZE (l : List (Nat × Nat)) : Nat := (l.map fun s => 2 ^ s.1).sum
theorem succ_pow (k h : Nat) : (k + 1) * 2 ^ h = k * 2 ^ h + 2 ^ h := by rw [Nat.add_mul, Nat.one_mul]
theorem Tile.size {l : List (Nat × Nat)} : ∀ {a b : Nat}, Tile a l b → a + SIZE l = b := by
  induction l with
  | nil => intro a b h; have : a = b := h; simp [SIZE, this]
  | cons s l ih =>
    intro a b ⟨h1, h2, h3⟩
    have := ih h3
    rw [succ_pow, h2] at this
    simp only [SIZE, List.map_cons, List.sum_cons] at this ⊢
    omega
theorem Tile.within {l : List (Nat × Nat)} : ∀ {a b : Nat}, Tile a l b → ∀ s ∈ l, a ≤ s.2 * 2 ^ s.1 ∧ (s.2 + 1) * 2 ^ s.1 ≤ b ∧ Node s.1 s.2 := by
  induction l with
  | nil => intro a b _ s hs; simp at hs
  | cons t l ih =>
    intro a b ⟨h1, h2, h3⟩ s hs
    rcases List.mem_cons.1 hs with rfl | hs
    · exact ⟨by omega, h3.bound.1, h1⟩
    · have := ih h3 s hs
      have h4 := succ_pow t.2 t.1
      have h5 := Nat.two_pow_pos t.1
      exact ⟨by omega, this.2⟩
theorem Tile.off {l : List (Nat × Nat)} : ∀ {a b : Nat}, Tile a l b → l.Pairwise Off := by
  induction l with
  | nil => intro a b _; exact List.Pairwise.nil
  | cons t l ih =>
    intro a b ⟨h1, h2, h3⟩
    refine List.Pairwise.cons (fun s hs => ?_) (ih h3)
    exact .inl (h3.within s hs).1
end Go.Proofs.YtmkgldjocigffaaDoor

/- What the small functions of package pos answer: tree, ahead, Nodes, over, beside, Leaf. -/
namespace Go.Proofs.YtmkgldjocigffaaDoor
open Go.RowKit

theorem MASK_TREE {h : Nat} (hh : h ≤ 63) : MASK ((h : Int) + 1) = TREE h := by
  unfold MASK TREE
  rw [show min ((h : Int) + 1).toNat 64 = h + 1 by omega]
theorem tree_raw (h r : Int) (w : World) (e : wrap64 (h + 1) = h + 1) (c : ∀ w, Calls Tryd.prog 68 #[.int .i64 (h + 1)] w fun e w' => e = .returned (.int .u64 r) ∧ w = w') :
    Calls Tryd.prog 54 #[.int .i64 h] w fun e w' => e = .returned (.int .u64 r) ∧ w = w' := by
  go_enter Tryd.func54, Tryd.ntmps54
  go_wp2_with fail
  refine (c _).mono ?_
  rintro e w' ⟨rfl, rfl⟩
  go_wp2
  go_ret
  exact ⟨rfl, rfl⟩
theorem tree_ok (h : Nat) (hh : h ≤ 63) (w : World) : Calls Tryd.prog 54 #[.int .i64 (h : Int)] w fun e w' => e = .returned (.int .u64 ((TREE h : Nat) : Int)) ∧ w = w' := by
  refine tree_raw h _ w (by unfold wrap64; omega) (fun w => ?_)
  rw [← MASK_TREE hh]
  exact mask_ok ((h : Int) + 1) (by omega) w
theorem ahead_raw (n c r : Int) (w : World) (e : IntKind.u64.wrap (IntKind.u64.wrap (n * 2) - IntKind.u64.wrap c) = r) (k : ∀ w, Calls Tryd.prog 52 #[.int .u64 n] w fun e w' => e = .returned (.int .i64 c) ∧ w = w') :
    Calls Tryd.prog 31 #[.int .u64 n] w fun e w' => e = .returned (.int .u64 r) ∧ w = w' := by
  go_enter Tryd.func31, Tryd.ntmps31
  go_wp2_with fail
  refine (k _).mono ?_
  rintro e w' ⟨rfl, rfl⟩
  go_wp2
  go_ret
  exact ⟨rfl, rfl⟩
theorem ahead_ok (n : Nat) (hn : n < 2 ^ 63) (w : World) : Calls Tryd.prog 31 #[.int .u64 (n : Int)] w fun e w' => e = .returned (.int .u64 ((NODES n : Nat) : Int)) ∧ w = w' := by
  refine ahead_raw n (POP n : Nat) _ w ?_ (fun w => ones_ok n (by omega) w)
  rw [POP_PC (by omega), wrapU, wrapU, wrapU]
  have := NODES_add n
  have := PC_le n
  omega
theorem nodes_raw (n r : Int) (w : World) (h : decide (4611686018427387904 < n) = false) (c : ∀ w, Calls Tryd.prog 31 #[.int .u64 n] w fun e w' => e = .returned (.int .u64 r) ∧ w = w') :
    Calls Tryd.prog 11 #[.int .u64 n] w fun e w' => e = .returned (.tuple #[.int .u64 r, .bool true]) ∧ w = w' := by
  go_enter Tryd.func11, Tryd.ntmps11
  have h' : ¬ 4611686018427387904 < n := by simpa using h
  go_wp2_with fail
  refine (c _).mono ?_
  rintro e w' ⟨rfl, rfl⟩
  go_wp2
  go_ret2
  exact ⟨rfl, rfl⟩
theorem nodes_ok (n : Nat) (hn : n ≤ 4611686018427387904) (w : World) : Calls Tryd.prog 11 #[.int .u64 (n : Int)] w fun e w' => e = .returned (.tuple #[.int .u64 ((NODES n : Nat) : Int), .bool true]) ∧ w = w' :=
  nodes_raw n _ w (by simp; omega) (fun w => ahead_ok n (by omega) w)
theorem beside_right (p h t : Int) (w : World) (c : ∀ w, Calls Tryd.prog 54 #[.int .i64 h] w fun e w' => e = .returned (.int .u64 t) ∧ w = w') :
    Calls Tryd.prog 73 #[.int .u64 p, .int .i64 h, .bool true] w fun e w' => e = .returned (.int .u64 (IntKind.u64.wrap (p - t))) ∧ w = w' := by
  go_enter Tryd.func73, Tryd.ntmps73
  go_wp2_with fail
  refine (c _).mono ?_
  rintro e w' ⟨rfl, rfl⟩
  go_wp2
  go_ret
  exact ⟨rfl, rfl⟩
end Go.Proofs.YtmkgldjocigffaaDoor
