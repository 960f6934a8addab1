/- What rise, Peak and Path answer. -/
import Derived.Test.YtddmfpiflnjmjaaDoorPosOk
import Derived.Test.YtddmfpiflnjmjaaDoorPosPeaksCall
import Derived.Deep.AppendLies
namespace Go.Proofs.YtddmfpiflnjmjaaDoor
open Go.RowKit

theorem app_u64 {ops : Array Oper} {rest : List Oper} {o : Oper} {a : Act} {Q : Exit → Act → World → Prop} (w : World) (hgd : o.guard = none) (s x : Operand)
    (ho : o.op = .call { callee := .builtin .append, args := #[s, x], argTypes := #[23, 23] })
    (base : Nat) (v : Value) (n : Nat) (xs : List Nat) (hs : a.eval s = v) (hown : w.ownsRow base 22 1 v n (UCELLS xs))
    (b c : Nat) (y : Nat) (hx : a.eval x = .slice (some ⟨b, 0, none⟩) 1 c) (hc : w.cell? ⟨b, 0, none⟩ = some (.int .u64 (y : Int)))
    (hb : n ≤ 1000) (hbase : base ≤ w.heap.size)
    (h : ∀ g cap w', w'.ownsRow base 22 1 (.slice (some ⟨g, 0, none⟩) (n + 1) cap) (n + 1) (UCELLS (xs ++ [y])) → w.grownBy w' v.ownBlock → g < w'.heap.size → wpList Tryd.prog ops Q rest (a.put o.dst (.slice (some ⟨g, 0, none⟩) (n + 1) cap)) w') : wpList Tryd.prog ops Q (o :: rest) a w := by
  obtain ⟨i, hi, hz, hs1, hby⟩ := info_parts info_u64
  refine wpList_append_lies w hgd s x 23 ho base 22 i (.int .u64 0) 1 8 Tryd.underlying23 hi hz hs1 hby rfl (by decide) v n (UCELLS xs) hs hown ⟨b, 0, none⟩ 1 c [.int .u64 (y : Int)] hx rfl ?_ (fun u hu => by simp at hu; subst hu; rfl) (by decide) (by simp only [maxLen]; omega) (by omega) hbase w.heap.size rfl ?_
  · intro j u hj
    cases j with
    | zero =>
      simp only [List.getElem?_cons_zero, Option.some.injEq] at hj
      subst hj
      exact hc
    | succ j => simp at hj
  · intro g cap w' h1 h2 _ h4
    rw [← UCELLS_snoc] at h1
    exact h g cap w' h1 h2 h4

theorem rise_raw (i n x r : Int) (w : World) (hd : decide (4611686018427387904 < n) = false) (hi : decide (n ≤ i) = false) (hx : bits .xor .u64 i n = x) (c : ∀ w, Calls Tryd.prog 78 #[.int .u64 x] w fun e w' => e = .returned (.int .i64 r) ∧ w = w') :
    Calls Tryd.prog 69 #[.int .u64 i, .int .u64 n] w fun e w' => e = .returned (.tuple #[.int .i64 r, .bool true]) ∧ w = w' := by
  go_enter Tryd.func69, Tryd.ntmps69
  have hd' : ¬ 4611686018427387904 < n := by simpa using hd
  have hi' : ¬ n ≤ i := by simpa using hi
  go_wp2_with fail
  refine (c _).mono ?_
  rintro e w' ⟨rfl, rfl⟩
  go_wp2
  go_ret2
  exact ⟨rfl, rfl⟩
theorem rise_ok (i n : Nat) (hi : i < n) (hn : n ≤ 4611686018427387904) (w : World) : Calls Tryd.prog 69 #[.int .u64 (i : Int), .int .u64 (n : Int)] w fun e w' => e = .returned (.tuple #[.int .i64 ((RISE i n : Nat) : Int), .bool true]) ∧ w = w' := by
  have hX : i ^^^ n < 2 ^ 63 := Nat.xor_lt_two_pow (by omega) (by omega)
  have h1 := (RISE_spec hi hn).1
  refine rise_raw i n ((i ^^^ n : Nat) : Int) _ w (by simp; omega) (by simp; omega) (bits_xor_u64_nat i n (by omega) (by omega)) (fun w => ?_)
  have := high_ok (i ^^^ n) (by omega) w
  rw [show ((LEN (i ^^^ n) : Nat) : Int) - 1 = ((RISE i n : Nat) : Int) by unfold RISE; omega] at this
  exact this
theorem rise_not (i n : Int) (h : ¬ (i < n ∧ n ≤ 4611686018427387904)) (w : World) : Calls Tryd.prog 69 #[.int .u64 i, .int .u64 n] w fun e w' => e = .returned (.tuple #[.int .i64 0, .bool false]) ∧ w = w' := by
  by_cases hd : 4611686018427387904 < n
  · clear h
    go_enter Tryd.func69, Tryd.ntmps69
    go_wp2
    go_ret2
    exact ⟨rfl, rfl⟩
  · have hi : n ≤ i := by omega
    clear h
    go_enter Tryd.func69, Tryd.ntmps69
    go_wp2
    go_ret2
    exact ⟨rfl, rfl⟩
theorem peak_raw (i n r x y k : Int) (w : World) (h : Nat) (hr : r = (h : Int)) (e1 : n / 2 ^ min h 64 = x) (e2 : x / 2 = y) (c : ∀ w, Calls Tryd.prog 69 #[.int .u64 i, .int .u64 n] w fun e w' => e = .returned (.tuple #[.int .i64 r, .bool true]) ∧ w = w') (co : ∀ w, Calls Tryd.prog 73 #[.int .u64 y] w fun e w' => e = .returned (.int .i64 k) ∧ w = w') :
    Calls Tryd.prog 43 #[.int .u64 i, .int .u64 n] w fun e w' => e = .returned (.tuple #[.int .i64 k, .bool true]) ∧ w = w' := by
  subst hr
  go_enter Tryd.func43, Tryd.ntmps43
  go_wp2_with fail
  refine (c _).mono ?_
  rintro e w' ⟨rfl, rfl⟩
  clear c
  go_wp2_with fail
  refine (co _).mono ?_
  rintro e w' ⟨rfl, rfl⟩
  go_wp2
  go_ret2
  exact ⟨rfl, rfl⟩
theorem peak_ok (i n : Nat) (hi : i < n) (hn : n ≤ 4611686018427387904) (w : World) : Calls Tryd.prog 43 #[.int .u64 (i : Int), .int .u64 (n : Int)] w fun e w' => e = .returned (.tuple #[.int .i64 ((KTH i n : Nat) : Int), .bool true]) ∧ w = w' := by
  have h2 := (RISE_spec hi hn).2.1
  refine peak_raw i n _ ((n / 2 ^ RISE i n : Nat) : Int) ((n / 2 ^ (RISE i n + 1) : Nat) : Int) _ w (RISE i n) rfl ?_ ?_ (fun w => rise_ok i n hi hn w) (fun w => ?_)
  · rw [show min (RISE i n) 64 = RISE i n by omega, div_cast]
  · rw [half_pow]
    omega
  · have hl : n / 2 ^ (RISE i n + 1) < 2 ^ 64 := Nat.lt_of_le_of_lt (Nat.div_le_self _ _) (by omega)
    have := ones_ok (n / 2 ^ (RISE i n + 1)) hl w
    rw [POP_PC hl] at this
    exact this
theorem peak_not (i n : Int) (h : ¬ (i < n ∧ n ≤ 4611686018427387904)) (w : World) : Calls Tryd.prog 43 #[.int .u64 i, .int .u64 n] w fun e w' => e = .returned (.tuple #[.int .i64 0, .bool false]) ∧ w = w' := by
  have c := rise_not i n h
  clear h
  go_enter Tryd.func43, Tryd.ntmps43
  go_wp2_with fail
  refine (c _).mono ?_
  rintro e w' ⟨rfl, rfl⟩
  clear c
  go_wp2
  go_ret2
  exact ⟨rfl, rfl⟩
theorem path_not (i n : Int) (h : ¬ (i < n ∧ n ≤ 4611686018427387904)) (w : World) : Calls Tryd.prog 42 #[.int .u64 i, .int .u64 n] w fun e w' => e = .returned (.tuple #[.slice none 0 0, .bool false]) ∧ w = w' := by
  have c := rise_not i n h
  clear h
  go_enter Tryd.func42, Tryd.ntmps42
  go_wp2_with fail
  refine (c _).mono ?_
  rintro e w' ⟨rfl, rfl⟩
  clear c
  go_wp2
  go_ret2
  exact ⟨rfl, rfl⟩
set_option maxHeartbeats 1000000 in
theorem path_ok (i n : Nat) (hi : i < n) (hn : n ≤ 4611686018427387904) (w : World) : Calls Tryd.prog 42 #[.int .u64 (i : Int), .int .u64 (n : Int)] w fun e w' =>
    ∃ g cap, e = .returned (.tuple #[.slice (some ⟨g, 0, none⟩) (RISE i n) cap, .bool true]) ∧ w'.ownsRow w.heap.size 22 1 (.slice (some ⟨g, 0, none⟩) (RISE i n) cap) (RISE i n) (UCELLS (WAY i (RISE i n))) ∧ g < w'.heap.size ∧ Below w.heap.size w w' := by
  have c1 := rise_ok i n hi hn
  have h62 := (RISE_spec hi hn).2.1
  have c2 := ahead_ok i (by omega)
  generalize RISE i n = H at *
  obtain ⟨cur, hcs, hmk⟩ := make_u64 H (by omega) w
  have HA : Aside (i < 4611686018427387904 ∧ H ≤ 62 ∧ cur.size = H) := ⟨by omega, h62, hcs⟩
  have hp : (NODES i : Nat) = PLC 0 (i / 2 ^ 0) := by rw [PLC_leaf, Nat.pow_zero, Nat.div_one]
  rw [hp] at c2
  clear hi hn h62 hcs hp
  go_enter Tryd.func42, Tryd.ntmps42
  go_wp2_with fail
  refine (c1 _).mono ?_
  rintro e w' ⟨rfl, rfl⟩
  clear c1
  go_wp2_with fail
  refine (c2 _).mono ?_
  rintro e w' ⟨rfl, rfl⟩
  clear c2
  go_wp2
  go_loopg [8, 9, 25] H (fun g s8 s9 s25 wx => ∃ j : Nat, s25 = .int .i64 (j : Int) ∧ s9 = .int .u64 ((PLC j (i / 2 ^ j) : Nat) : Int) ∧ Aside (j + g = H ∧ wx.ownsRow w.heap.size 22 1 s8 j (UCELLS (WAY i j)) ∧ (∃ b cap, s8 = .slice (some ⟨b, 0, none⟩) j cap ∧ b < wx.heap.size) ∧ Below w.heap.size w wx))
  case atStart => exact ⟨0, rfl, by rw [Nat.pow_zero, Nat.div_one], by omega, World.ownsRow_made w cur H (Nat.le_refl _) (by have := HA.out.2.1; simp only [maxLen]; omega) (by rw [HA.out.2.2]; omega), ⟨_, _, rfl, by simp⟩, (Below.refl _ _).alloc (Nat.le_refl _) _⟩
  case round =>
    obtain ⟨j, rfl, rfl, A⟩ := hrel
    clear hmk
    cases gk with
    | zero =>
      obtain ⟨hj, hown, ⟨b, cap, hs, hb⟩, hbel⟩ := A.out
      obtain rfl : j = H := by omega
      subst hs
      have hlt : ¬ (j : Int) < (j : Int) := by omega
      clear hj hown hb hbel HA
      go_wp2
      go_ret2
      obtain ⟨hj, hown, ⟨b', cap', hs, hb⟩, hbel⟩ := A.out
      cases hs
      exact ⟨b, cap, rfl, hown, hb, hbel⟩
    | succ g =>
      obtain ⟨hj, hown, ⟨b, cap, hs, hb⟩, hbel⟩ := A.out
      have hlt : (j : Int) < (H : Int) := by omega
      have h62 := HA.out.2.1
      have hN := Node.over HA.out.1 j (by omega)
      have cb := beside_ok j (i / 2 ^ j) hN (by omega)
      have co := over_ok j (i / 2 ^ j) hN (by omega)
      have hR : (bits .and .u64 ((i : Int) / 2 ^ min j 64) 1 == 1) = decide (i / 2 ^ j % 2 = 1) := by
        rw [show min j 64 = j by omega, div_cast]
        exact odd_eq _ (Nat.lt_of_le_of_lt (Nat.div_le_self _ _) (by have := HA.out.1; omega))
      have e1 : wrap64 ((j : Int) + 1) = ((j + 1 : Nat) : Int) := by unfold wrap64; omega
      have hj0 : ¬ (j : Int) < 0 := by omega
      rw [← half_pow] at co
      have hw := WAY_succ i j
      generalize hz : decide (i / 2 ^ j % 2 = 1) = z at *
      clear hz
      generalize PLC j (i / 2 ^ j) = x at *
      generalize PLC j (SIB (i / 2 ^ j)) = y at *
      generalize hv : PLC (j + 1) (i / 2 ^ (j + 1)) = v at *
      have R : Aside (j + 1 + g = H ∧ wr.ownsRow w.heap.size 22 1 u8 j (UCELLS (WAY i j)) ∧ Below w.heap.size w wr ∧ j ≤ 1000 ∧ WAY i (j + 1) = WAY i j ++ [y] ∧ PLC (j + 1) (i / 2 ^ (j + 1)) = v) := ⟨by omega, hown, hbel, by omega, hw, hv⟩
      clear A hj hown hs hb hbel h62 hN hw hv HA
      go_wp2_with fail
      refine (cb _).mono ?_
      rintro e w' ⟨rfl, rfl⟩
      clear cb
      go_wp2_with (at_builtin; refine app_u64 _ rfl (.tmp 33) (.tmp 38) rfl w.heap.size u8 j (WAY i j) rfl (R.out.2.1.alloc _) wr.heap.size 1 y rfl (by rw [World.cell?_alloc_at _ _ _ _ rfl]; rfl) R.out.2.2.2.1 (by have := R.out.2.2.1.size; simp; omega) ?_; intro g' cap w1 hown hgrow hg)
      obtain ⟨r1, r2, r3, r4, r5, r6⟩ := R.out
      have R2 : Aside (j + 1 + g = H ∧ w1.ownsRow w.heap.size 22 1 (.slice (some ⟨g', 0, none⟩) (j + 1) cap) (j + 1) (UCELLS (WAY i (j + 1))) ∧ g' < w1.heap.size ∧ Below w.heap.size w w1 ∧ PLC (j + 1) (i / 2 ^ (j + 1)) = v) := ⟨r1, by rw [r5]; exact hown, hg, (r3.alloc r3.size _).grown hgrow (by have := r3.size; simp; omega) (fun k e => (r2.lt k e).1), r6⟩
      clear hown hgrow hg R r1 r2 r3 r4 r5 r6
      refine (co _).mono ?_
      rintro e w' ⟨rfl, rfl⟩
      clear co
      go_wp2
      go_roundg g
      case measure => omega
      case rel =>
        obtain ⟨r1, r2, r3, r4, r6⟩ := R2.out
        exact ⟨j + 1, by first | rfl | (rw [e1]), by rw [r6], r1, r2, ⟨_, _, rfl, r3⟩, r4⟩
end Go.Proofs.YtddmfpiflnjmjaaDoor
