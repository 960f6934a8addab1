/- What the document's Tops gives: the spots of the peaks. -/
import Derived.Test.YtddmfpiflnjmjaaDoorPosRefKin
import Derived.Test.YtddmfpiflnjmjaaDoorPosSpotRow
namespace Go.Proofs.YtddmfpiflnjmjaaDoor
open Go.RowKit

/-- the spots of the peaks of n leaves whose height is at least h. -/
def TOPS (h n : Nat) : List (Nat × Nat) := (HS h n).map fun g => (g, 2 * (n / 2 ^ (g + 1)))
theorem TOPS_set {h n : Nat} (hh : h < 64) (hb : n / 2 ^ h % 2 = 1) : TOPS h n = TOPS (h + 1) n ++ [(h, 2 * (n / 2 ^ (h + 1)))] := by
  unfold TOPS
  rw [HS_set hh hb, List.map_append]
  rfl
theorem TOPS_clear {h n : Nat} (hh : h < 64) (hb : ¬ n / 2 ^ h % 2 = 1) : TOPS h n = TOPS (h + 1) n := by
  unfold TOPS
  rw [HS_clear hh hb]
theorem TOPS_length {n : Nat} (hn : n < 2 ^ 64) (h : Nat) (hh : h ≤ 64) : (TOPS h n).length = PC (n / 2 ^ h) := by
  unfold TOPS
  rw [List.length_map]
  exact HS_length hn h hh
/-- one height of Tops. -/
theorem tops_plain {n h at' r : Nat} (ha : at' = n / 2 ^ (h + 1) * 2 ^ (h + 1)) (hr : r = n - at') : at' ≤ n ∧ (2 ^ h ≤ r ↔ n / 2 ^ h % 2 = 1) ∧ at' / 2 ^ h = 2 * (n / 2 ^ (h + 1)) ∧ (n / 2 ^ h % 2 = 1 → at' + 2 ^ h = n / 2 ^ h * 2 ^ h) ∧ (¬ n / 2 ^ h % 2 = 1 → at' = n / 2 ^ h * 2 ^ h) := by
  have hp := Nat.two_pow_pos h
  have e1 : at' = 2 * (n / 2 ^ (h + 1)) * 2 ^ h := by rw [ha, double_pow]
  have hd := Nat.div_add_mod n (2 ^ h)
  have hm := Nat.mod_lt n hp
  rw [Nat.mul_comm] at hd
  have hq : at' / 2 ^ h = 2 * (n / 2 ^ (h + 1)) := by rw [e1, Nat.mul_div_cancel _ hp]
  by_cases hb : n / 2 ^ h % 2 = 1
  · have h2 := at_set hb
    have e2 : n / 2 ^ h * 2 ^ h = at' + 2 ^ h := by rw [h2, Nat.add_mul, Nat.one_mul, ← e1]
    exact ⟨by omega, ⟨fun _ => hb, fun _ => by omega⟩, hq, fun _ => e2.symm, fun h => absurd hb h⟩
  · have h2 := at_clear hb
    have e2 : n / 2 ^ h * 2 ^ h = at' := by rw [h2, ← e1]
    exact ⟨by omega, ⟨fun _ => by omega, fun h => absurd h hb⟩, hq, fun h => absurd h hb, fun _ => e2.symm⟩
theorem tops_not (n : Int) (hn : 4611686018427387904 < n) (w : World) : Calls Tryd.prog 65 #[.int .u64 n] w fun e w' => e = .returned (.slice none 0 0) ∧ w = w' := by
  go_enter Tryd.func65, Tryd.ntmps65
  go_wp2
  go_ret
  exact ⟨rfl, rfl⟩
set_option maxHeartbeats 1000000 in
theorem tops_ok (n : Nat) (hn : n ≤ 4611686018427387904) (w : World) : Calls Tryd.prog 65 #[.int .u64 (n : Int)] w fun e w' =>
    ∃ v, e = .returned v ∧ w'.ownsRow w.heap.size 76 2 v (PC n) (SCELLS (TOPS 0 n)) ∧ Below w.heap.size w w' := by
  have HN : Aside (n ≤ 4611686018427387904) := hn
  have hd : ¬ (4611686018427387904 : Int) < (n : Int) := by omega
  clear hn
  go_enter Tryd.func65, Tryd.ntmps65
  go_wp2
  go_loopg [3, 4, 5] 63 (fun q s3 s4 s5 wx => ∃ a : Nat, s4 = .int .u64 (a : Int) ∧ s5 = .int .i64 ((q : Int) - 1) ∧ Aside (q ≤ 63 ∧ a = n / 2 ^ q * 2 ^ q ∧ wx.ownsRow w.heap.size 76 2 s3 (PC (n / 2 ^ q)) (SCELLS (TOPS q n)) ∧ Below w.heap.size w wx))
  case atStart =>
    have hz : n / 2 ^ 63 = 0 := Nat.div_eq_of_lt (by have := HN.out; omega)
    refine ⟨0, rfl, rfl, by omega, by rw [hz, Nat.zero_mul], ?_, Below.refl _ _⟩
    rw [hz, PC_zero]
    have ht : TOPS 63 n = [] := by
      unfold TOPS
      rw [HS_top (by have := HN.out; omega)]
      rfl
    rw [ht]
    exact ⟨rfl, .inl ⟨rfl, rfl⟩⟩
  case round =>
    obtain ⟨a, rfl, rfl, A⟩ := hrel
    cases gk with
    | zero =>
      have hlt : ¬ (0 : Int) ≤ ((0 : Nat) : Int) - 1 := by omega
      go_wp2
      go_ret
      obtain ⟨_, _, hown, hbel⟩ := A.out
      rw [Nat.pow_zero, Nat.div_one] at hown
      exact ⟨_, rfl, hown, hbel⟩
    | succ h =>
      obtain ⟨h63, ha, hown, hbel⟩ := A.out
      have hnn := HN.out
      obtain ⟨r, hr⟩ : ∃ r, r = n - a := ⟨_, rfl⟩
      obtain ⟨p1, p2, p3, p4, p5⟩ := tops_plain ha hr
      have c := power_ok h (by omega)
      have hpw : 2 ^ h ≤ 2 ^ 62 := Nat.pow_le_pow_right (by decide) (by omega)
      have hp0 := Nat.two_pow_pos h
      have e0 : ((h + 1 : Nat) : Int) - 1 = (h : Int) := by omega
      have e0' : ¬ (h : Int) < 0 := by omega
      have e1 : IntKind.u64.wrap ((n : Int) - (a : Int)) = (r : Int) := by rw [wrapU]; omega
      have e3 : (h : Int) % 256 = (h : Int) := by omega
      have e4 : wrap64 ((h : Int) - 1) = (h : Int) - 1 := by unfold wrap64; omega
      rw [e0]
      by_cases hb : n / 2 ^ h % 2 = 1
      · have hge : 2 ^ h ≤ r := p2.2 hb
        have pq := p4 hb
        have e5 : (a : Int) / ((2 ^ h : Nat) : Int) = ((2 * (n / 2 ^ (h + 1)) : Nat) : Int) := by rw [← p3, Int.natCast_ediv]
        have hT := TOPS_set (n := n) (h := h) (by omega) hb
        have hPC : PC (n / 2 ^ h) = PC (n / 2 ^ (h + 1)) + 1 := by rw [PC_step, ← half_pow]; omega
        have hlen : PC (n / 2 ^ (h + 1)) ≤ 1000 := by have := PC_lt_pow 64 (n / 2 ^ (h + 1)) (Nat.lt_of_le_of_lt (Nat.div_le_self _ _) (by omega)); omega
        have hk64 : 2 * (n / 2 ^ (h + 1)) < 2 ^ 64 := by rw [← p3]; exact Nat.lt_of_le_of_lt (Nat.div_le_self _ _) (by omega)
        generalize 2 * (n / 2 ^ (h + 1)) = k at *
        have e7 : IntKind.u64.wrap (k : Int) = (k : Int) := by rw [wrapU]; omega
        have e6 : IntKind.u64.wrap ((a : Int) + ((2 ^ h : Nat) : Int)) = ((n / 2 ^ h * 2 ^ h : Nat) : Int) := by rw [wrapU, ← pq]; omega
        have hge' : ((2 ^ h : Nat) : Int) ≤ (r : Int) := by omega
        have hz0 : ¬ ((2 ^ h : Nat) : Int) = 0 := by omega
        generalize hm : PC (n / 2 ^ (h + 1)) = m at *
        generalize hl : TOPS (h + 1) n = l at *
        generalize ((2 ^ h : Nat) : Int) = z at *
        generalize hx : n / 2 ^ h * 2 ^ h = x at *
        have R : Aside (h ≤ 62 ∧ x = n / 2 ^ h * 2 ^ h ∧ wr.ownsRow w.heap.size 76 2 u3 m (SCELLS l) ∧ Below w.heap.size w wr ∧ m ≤ 1000 ∧ PC (n / 2 ^ h) = m + 1 ∧ TOPS h n = l ++ [(h, k)]) := ⟨by omega, hx.symm, hown, hbel, hlen, hPC, hT⟩
        clear A HN h63 ha hown hbel hnn hr p1 p2 p3 p4 p5 hpw hp0 hb hge pq hT hPC hlen hk64 hm hl hx
        go_wp2_with fail
        refine (c _).mono ?_
        rintro e w' ⟨rfl, rfl⟩
        go_wp2_with fail
        refine (c _).mono ?_
        rintro e w' ⟨rfl, rfl⟩
        go_wp2_with (at_builtin; refine app_spot _ rfl (.tmp 19) (.tmp 27) rfl w.heap.size u3 m l rfl (R.out.2.2.1.alloc _) wr.heap.size 1 h k rfl (by rw [World.cell?_alloc_at _ _ _ _ rfl]; rfl) (by rw [World.cell?_alloc_at _ _ _ _ rfl]; rfl) R.out.2.2.2.2.1 (by have := R.out.2.2.2.1.size; simp; omega) ?_; intro g' cap w1 hown hgrow hg)
        obtain ⟨r1, r2, r3, r4, r5, r6, r7⟩ := R.out
        have R2 : Aside (h ≤ 63 ∧ x = n / 2 ^ h * 2 ^ h ∧ w1.ownsRow w.heap.size 76 2 (.slice (some ⟨g', 0, none⟩) (m + 1) cap) (PC (n / 2 ^ h)) (SCELLS (TOPS h n)) ∧ Below w.heap.size w w1) := ⟨by omega, r2, by rw [r6, r7]; exact hown, (r4.alloc r4.size _).grown hgrow (by have := r4.size; simp; omega) (fun k e => (r3.lt k e).1)⟩
        clear hown hgrow hg R r1 r2 r3 r4 r5 r6 r7
        refine (c _).mono ?_
        rintro e w' ⟨rfl, rfl⟩
        clear c
        go_wp2
        go_roundg h
        case measure => omega
        case rel => exact ⟨x, by first | rfl | (rw [e6]), by first | rfl | (rw [e4]), R2.out⟩
      · have hge : ¬ 2 ^ h ≤ r := fun h => hb (p2.1 h)
        have pq := p5 hb
        have hge' : ¬ ((2 ^ h : Nat) : Int) ≤ (r : Int) := by omega
        have hT := TOPS_clear (n := n) (h := h) (by omega) hb
        have hPC : PC (n / 2 ^ h) = PC (n / 2 ^ (h + 1)) := by rw [PC_step, ← half_pow]; omega
        generalize ((2 ^ h : Nat) : Int) = z at *
        have R : Aside (h ≤ 63 ∧ a = n / 2 ^ h * 2 ^ h ∧ wr.ownsRow w.heap.size 76 2 u3 (PC (n / 2 ^ h)) (SCELLS (TOPS h n)) ∧ Below w.heap.size w wr) := ⟨by omega, pq, by rw [hT, hPC]; exact hown, hbel⟩
        clear A HN h63 ha hown hbel hnn hr p1 p2 p3 p4 p5 hpw hp0 hb hge pq hT hPC
        go_wp2_with fail
        refine (c _).mono ?_
        rintro e w' ⟨rfl, rfl⟩
        clear c
        go_wp2
        go_roundg h
        case measure => omega
        case rel => exact ⟨a, rfl, by first | rfl | (rw [e4]), R.out⟩
end Go.Proofs.YtddmfpiflnjmjaaDoor
