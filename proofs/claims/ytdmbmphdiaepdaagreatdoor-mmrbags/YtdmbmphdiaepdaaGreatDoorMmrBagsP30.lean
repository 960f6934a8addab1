/- Texts of MmrBags, one behind the other: PosTops, MmrRefBag. -/
import Derived.Test.YtdmbmphdiaepdaaGreatDoorMmrBagsP20
import Derived.Test.YtdmbmphdiaepdaaGreatDoorMmrBagsP25
import Derived.Test.YtdmbmphdiaepdaaGreatDoorMmrBagsP29
/- What the document's Tops gives: the spots of the peaks. -/
namespace Go.Proofs.YtdmbmphdiaepdaaGreatDoor
open Go.RowKit

/-- the spots of the peaks of n leaves whose height is at least h. -/
def TOPS (h n : Nat) : List (Nat × Nat) := (HS h n).map fun g => (g, 2 * (n / 2 ^ (g + 1)))
theorem TOPS_set {h n : Nat} (hh : h < 64) (hb : n / 2 ^ h % 2 = 1) : TOPS h n = TOPS (h + 1) n ++ [(h, 2 * (n / 2 ^ (h + 1)))] := by
  unfold TOPS
  rw [HS_set hh hb, List.map_append]
  rfl
theorem TOPS_clear {h n : Nat} (hh : h < 64) (hb : ¬ n / 2 ^ h % 2 = 1) : TOPS h n = TOPS (h + 1) n := by
  unfold TOPS
  rw [HS_clear hh hb]
theorem TOPS_length {n : Nat} (hn : n < 2 ^ 64) (h : Nat) (hh : h ≤ 64) : (TOPS h n).length = PC (n / 2 ^ h) := by
  unfold TOPS
  rw [List.length_map]
  exact HS_length hn h hh
/-- one height of Tops. -/
theorem tops_plain {n h at' r : Nat} (ha : at' = n / 2 ^ (h + 1) * 2 ^ (h + 1)) (hr : r = n - at') : at' ≤ n ∧ (2 ^ h ≤ r ↔ n / 2 ^ h % 2 = 1) ∧ at' / 2 ^ h = 2 * (n / 2 ^ (h + 1)) ∧ (n / 2 ^ h % 2 = 1 → at' + 2 ^ h = n / 2 ^ h * 2 ^ h) ∧ (¬ n / 2 ^ h % 2 = 1 → at' = n / 2 ^ h * 2 ^ h) := by
  have hp := Nat.two_pow_pos h
  have e1 : at' = 2 * (n / 2 ^ (h + 1)) * 2 ^ h := by rw [ha, double_pow]
  have hd := Nat.div_add_mod n (2 ^ h)
  have hm := Nat.mod_lt n hp
  rw [Nat.mul_comm] at hd
  have hq : at' / 2 ^ h = 2 * (n / 2 ^ (h + 1)) := by rw [e1, Nat.mul_div_cancel _ hp]
  by_cases hb : n / 2 ^ h % 2 = 1
  · have h2 := at_set hb
    have e2 : n / 2 ^ h * 2 ^ h = at' + 2 ^ h := by rw [h2, Nat.add_mul, Nat.one_mul, ← e1]
    exact ⟨by omega, ⟨fun _ => hb, fun _ => by omega⟩, hq, fun _ => e2.symm, fun h => absurd hb h⟩
  · have h2 := at_clear hb
    have e2 : n / 2 ^ h * 2 ^ h = at' := by rw [h2, ← e1]
    exact ⟨by omega, ⟨fun _ => by omega, fun h => absurd h hb⟩, hq, fun h => absurd h hb, fun _ => e2.symm⟩
theorem tops_not (n : Int) (hn : 4611686018427387904 < n) (w : World) : Calls Tryz.prog 15 #[.int .u64 n] w fun e w' => e = .returned (.slice none 0 0) ∧ w = w' := by
  go_enter Tryz.func15, Tryz.ntmps15
  go_wp2
  go_ret
  exact ⟨rfl, rfl⟩
set_option maxHeartbeats 1000000 in
theorem tops_ok (n : Nat) (hn : n ≤ 4611686018427387904) (w : World) : Calls Tryz.prog 15 #[.int .u64 (n : Int)] w fun e w' =>
    ∃ v, e = .returned v ∧ w'.ownsRow w.heap.size 61 2 v (PC n) (SCELLS (TOPS 0 n)) ∧ Below w.heap.size w w' := by
  have HN : Aside (n ≤ 4611686018427387904) := hn
  have hd : ¬ (4611686018427387904 : Int) < (n : Int) := by omega
  clear hn
  go_enter Tryz.func15, Tryz.ntmps15
  go_wp2
  go_loopg [3, 4, 5] 63 (fun q s3 s4 s5 wx => ∃ a : Nat, s4 = .int .u64 (a : Int) ∧ s5 = .int .i64 ((q : Int) - 1) ∧ Aside (q ≤ 63 ∧ a = n / 2 ^ q * 2 ^ q ∧ wx.ownsRow w.heap.size 61 2 s3 (PC (n / 2 ^ q)) (SCELLS (TOPS q n)) ∧ Below w.heap.size w wx))
  case atStart =>
    have hz : n / 2 ^ 63 = 0 := Nat.div_eq_of_lt (by have := HN.out; omega)
    refine ⟨0, rfl, rfl, by omega, by rw [hz, Nat.zero_mul], ?_, Below.refl _ _⟩
    rw [hz, PC_zero]
    have ht : TOPS 63 n = [] := by
      unfold TOPS
      rw [HS_top (by have := HN.out; omega)]
      rfl
    rw [ht]
    exact ⟨rfl, .inl ⟨rfl, rfl⟩⟩
  case round =>
    obtain ⟨a, rfl, rfl, A⟩ := hrel
    cases gk with
    | zero =>
      have hlt : ¬ (0 : Int) ≤ ((0 : Nat) : Int) - 1 := by omega
      go_wp2
      go_ret
      obtain ⟨_, _, hown, hbel⟩ := A.out
      rw [Nat.pow_zero, Nat.div_one] at hown
      exact ⟨_, rfl, hown, hbel⟩
    | succ h =>
      obtain ⟨h63, ha, hown, hbel⟩ := A.out
      have hnn := HN.out
      obtain ⟨r, hr⟩ : ∃ r, r = n - a := ⟨_, rfl⟩
      obtain ⟨p1, p2, p3, p4, p5⟩ := tops_plain ha hr
      have c := power_ok h (by omega)
      have hpw : 2 ^ h ≤ 2 ^ 62 := Nat.pow_le_pow_right (by decide) (by omega)
      have hp0 := Nat.two_pow_pos h
      have e0 : ((h + 1 : Nat) : Int) - 1 = (h : Int) := by omega
      have e0' : ¬ (h : Int) < 0 := by omega
      have e1 : IntKind.u64.wrap ((n : Int) - (a : Int)) = (r : Int) := by rw [wrapU]; omega
      have e3 : (h : Int) % 256 = (h : Int) := by omega
      have e4 : wrap64 ((h : Int) - 1) = (h : Int) - 1 := by unfold wrap64; omega
      rw [e0]
      by_cases hb : n / 2 ^ h % 2 = 1
      · have hge : 2 ^ h ≤ r := p2.2 hb
        have pq := p4 hb
        have e5 : (a : Int) / ((2 ^ h : Nat) : Int) = ((2 * (n / 2 ^ (h + 1)) : Nat) : Int) := by rw [← p3, Int.natCast_ediv]
        have hT := TOPS_set (n := n) (h := h) (by omega) hb
        have hPC : PC (n / 2 ^ h) = PC (n / 2 ^ (h + 1)) + 1 := by rw [PC_step, ← half_pow]; omega
        have hlen : PC (n / 2 ^ (h + 1)) ≤ 1000 := by have := PC_lt_pow 64 (n / 2 ^ (h + 1)) (Nat.lt_of_le_of_lt (Nat.div_le_self _ _) (by omega)); omega
        have hk64 : 2 * (n / 2 ^ (h + 1)) < 2 ^ 64 := by rw [← p3]; exact Nat.lt_of_le_of_lt (Nat.div_le_self _ _) (by omega)
        generalize 2 * (n / 2 ^ (h + 1)) = k at *
        have e7 : IntKind.u64.wrap (k : Int) = (k : Int) := by rw [wrapU]; omega
        have e6 : IntKind.u64.wrap ((a : Int) + ((2 ^ h : Nat) : Int)) = ((n / 2 ^ h * 2 ^ h : Nat) : Int) := by rw [wrapU, ← pq]; omega
        have hge' : ((2 ^ h : Nat) : Int) ≤ (r : Int) := by omega
        have hz0 : ¬ ((2 ^ h : Nat) : Int) = 0 := by omega
        generalize hm : PC (n / 2 ^ (h + 1)) = m at *
        generalize hl : TOPS (h + 1) n = l at *
        generalize ((2 ^ h : Nat) : Int) = z at *
        generalize hx : n / 2 ^ h * 2 ^ h = x at *
        have R : Aside (h ≤ 62 ∧ x = n / 2 ^ h * 2 ^ h ∧ wr.ownsRow w.heap.size 61 2 u3 m (SCELLS l) ∧ Below w.heap.size w wr ∧ m ≤ 1000 ∧ PC (n / 2 ^ h) = m + 1 ∧ TOPS h n = l ++ [(h, k)]) := ⟨by omega, hx.symm, hown, hbel, hlen, hPC, hT⟩
        clear A HN h63 ha hown hbel hnn hr p1 p2 p3 p4 p5 hpw hp0 hb hge pq hT hPC hlen hk64 hm hl hx
        go_wp2_with fail
        refine (c _).mono ?_
        rintro e w' ⟨rfl, rfl⟩
        go_wp2_with fail
        refine (c _).mono ?_
        rintro e w' ⟨rfl, rfl⟩
        go_wp2_with (at_builtin; refine app_spot _ rfl (.tmp 19) (.tmp 27) rfl w.heap.size u3 m l rfl (R.out.2.2.1.alloc _) wr.heap.size 1 h k rfl (by rw [World.cell?_alloc_at _ _ _ _ rfl]; rfl) (by rw [World.cell?_alloc_at _ _ _ _ rfl]; rfl) R.out.2.2.2.2.1 (by have := R.out.2.2.2.1.size; simp; omega) ?_; intro g' cap w1 hown hgrow hg)
        obtain ⟨r1, r2, r3, r4, r5, r6, r7⟩ := R.out
        have R2 : Aside (h ≤ 63 ∧ x = n / 2 ^ h * 2 ^ h ∧ w1.ownsRow w.heap.size 61 2 (.slice (some ⟨g', 0, none⟩) (m + 1) cap) (PC (n / 2 ^ h)) (SCELLS (TOPS h n)) ∧ Below w.heap.size w w1) := ⟨by omega, r2, by rw [r6, r7]; exact hown, (r4.alloc r4.size _).grown hgrow (by have := r4.size; simp; omega) (fun k e => (r3.lt k e).1)⟩
        clear hown hgrow hg R r1 r2 r3 r4 r5 r6 r7
        refine (c _).mono ?_
        rintro e w' ⟨rfl, rfl⟩
        clear c
        go_wp2
        go_roundg h
        case measure => omega
        case rel => exact ⟨x, by first | rfl | (rw [e6]), by first | rfl | (rw [e4]), R2.out⟩
      · have hge : ¬ 2 ^ h ≤ r := fun h => hb (p2.1 h)
        have pq := p5 hb
        have hge' : ¬ ((2 ^ h : Nat) : Int) ≤ (r : Int) := by omega
        have hT := TOPS_clear (n := n) (h := h) (by omega) hb
        have hPC : PC (n / 2 ^ h) = PC (n / 2 ^ (h + 1)) := by rw [PC_step, ← half_pow]; omega
        generalize ((2 ^ h : Nat) : Int) = z at *
        have R : Aside (h ≤ 63 ∧ a = n / 2 ^ h * 2 ^ h ∧ wr.ownsRow w.heap.size 61 2 u3 (PC (n / 2 ^ h)) (SCELLS (TOPS h n)) ∧ Below w.heap.size w wr) := ⟨by omega, pq, by rw [hT, hPC]; exact hown, hbel⟩
        clear A HN h63 ha hown hbel hnn hr p1 p2 p3 p4 p5 hpw hp0 hb hge pq hT hPC
        go_wp2_with fail
        refine (c _).mono ?_
        rintro e w' ⟨rfl, rfl⟩
        clear c
        go_wp2
        go_roundg h
        case measure => omega
        case rel => exact ⟨a, rfl, by first | rfl | (rw [e4]), R.out⟩
end Go.Proofs.YtdmbmphdiaepdaaGreatDoor

/- The document's Bag: massifref6.Bag. -/
namespace Go.Proofs.YtdmbmphdiaepdaaGreatDoor.HX
open Go.RowKit
set_option maxRecDepth 100000

theorem pc_none : ∀ n : Nat, PC n = 0 → n = 0 := by
  intro n
  induction n using Nat.strongRecOn with
  | _ n ih =>
    intro h
    by_cases h0 : n = 0
    · exact h0
    · have h1 := PC_step n
      have h2 := ih (n / 2) (by omega) (by omega)
      omega
set_option maxHeartbeats 2000000 in
theorem refbag_far (d : Int) (n : Nat) (a : Option Addr) (k c : Nat) (w : World) (h1' : (4611686018427387904 : Int) < (n : Int)) :
    Calls Tryz.prog 6 #[.int .i64 d, .int .u64 (n : Int), .slice a k c] w fun e w' => e = .returned (.tuple #[.agg (UARR .u8 32 fun _ => 0), .int .i64 30]) ∧ Below w.heap.size w w' := by
  have hz := zeroHash
  obtain ⟨w0, hw0⟩ : ∃ w0, w.alloc (.cells (UARR .u8 32 fun _ => 0) 26) = w0 := ⟨_, rfl⟩
  have hb0 : Below w.heap.size w w0 := by rw [← hw0]; exact (Below.refl _ _).alloc (Nat.le_refl _) _
  have h40 : Has w0 w.heap.size (UARR .u8 32 fun _ => 0) 26 := by rw [← hw0]; exact Has.new w _ _
  have hst2 := store_cells32 h40 (fun _ => 0)
  have hsu := UARR_size .u8 32 (fun _ => 0)
  go_enter Tryz.func6, Tryz.ntmps6
  go_wp2
  refine bodyPost_ret (v := .tuple #[.agg (UARR .u8 32 fun _ => 0), .int .i64 30]) ?_ rfl ⟨rfl, below_row hb0 (Nat.le_refl _) _⟩
  exact results_hash rfl _ _ w.heap.size 26 _ (0, 0) _ _ rfl (h40.row _) _ rfl Tryz.underlying26 (info_HASH _)
set_option maxHeartbeats 2000000 in
theorem refbag_count (d : Int) (n : Nat) (hn : n ≤ 4611686018427387904) (a : Option Addr) (k c : Nat) (w : World) (hk : k ≠ PC n) :
    Calls Tryz.prog 6 #[.int .i64 d, .int .u64 (n : Int), .slice a k c] w fun e w' => e = .returned (.tuple #[.agg (UARR .u8 32 fun _ => 0), .int .i64 70]) ∧ Below w.heap.size w w' := by
  have hz := zeroHash
  obtain ⟨w0, hw0⟩ : ∃ w0, w.alloc (.cells (UARR .u8 32 fun _ => 0) 26) = w0 := ⟨_, rfl⟩
  have hb0 : Below w.heap.size w w0 := by rw [← hw0]; exact (Below.refl _ _).alloc (Nat.le_refl _) _
  have h40 : Has w0 w.heap.size (UARR .u8 32 fun _ => 0) 26 := by rw [← hw0]; exact Has.new w _ _
  have h1' : ¬ (4611686018427387904 : Int) < (n : Int) := by omega
  have co := tops_ok n hn w0
  generalize SCELLS (TOPS 0 n) = SC at co
  generalize PC n = pp at *
  have e2 : ¬ (k : Int) = (pp : Int) := by omega
  clear hn
  go_enter Tryz.func6, Tryz.ntmps6
  go_wp2_with fail
  refine co.mono ?_
  rintro e w1 ⟨v, rfl, hown, hb1⟩
  obtain ⟨a', c', rfl⟩ := own_shape hown
  clear co hown
  have h41 := h40.keep hb1
  have hb01 : Below w.heap.size w w1 := hb0.trans (hb1.mono hb0.size)
  have hst2 := store_cells32 h41 (fun _ => 0)
  have hsu := UARR_size .u8 32 (fun _ => 0)
  clear hb1
  go_wp2
  refine bodyPost_ret (v := .tuple #[.agg (UARR .u8 32 fun _ => 0), .int .i64 70]) ?_ rfl ⟨rfl, below_row hb01 (Nat.le_refl _) _⟩
  exact results_hash rfl _ _ w.heap.size 26 _ (0, 0) _ _ rfl (h41.row _) _ rfl Tryz.underlying26 (info_HASH _)
set_option maxHeartbeats 2000000 in
theorem refbag_none (d : Int) (a : Option Addr) (c : Nat) (w : World) :
    Calls Tryz.prog 6 #[.int .i64 d, .int .u64 ((0 : Nat) : Int), .slice a 0 c] w fun e w' => e = .returned (.tuple #[.agg (UARR .u8 32 (ROOTF d 0 fun _ => 0)), .int .i64 0]) ∧ Below w.heap.size w w' := by
  have hz := zeroHash
  obtain ⟨w0, hw0⟩ : ∃ w0, w.alloc (.cells (UARR .u8 32 fun _ => 0) 26) = w0 := ⟨_, rfl⟩
  have hb0 : Below w.heap.size w w0 := by rw [← hw0]; exact (Below.refl _ _).alloc (Nat.le_refl _) _
  have h40 : Has w0 w.heap.size (UARR .u8 32 fun _ => 0) 26 := by rw [← hw0]; exact Has.new w _ _
  have co := tops_ok 0 (by decide) w0
  rw [PC_zero] at co
  generalize SCELLS (TOPS 0 0) = SC at co
  have cr := fun W => refroot_ok d 0 (by decide) (fun _ => 0) (fun _ => by decide) W
  have eR : ROOTF d 0 (fun _ => 0) = HASHOF d (3 :: (BE8 0 ++ (List.range 32).map fun _ => 0)) := rfl
  rw [← eR] at cr
  clear eR
  generalize ROOTF d 0 (fun _ => 0) = Y at *
  go_enter Tryz.func6, Tryz.ntmps6
  go_wp2_with fail
  refine co.mono ?_
  rintro e w1 ⟨v, rfl, hown, hb1⟩
  obtain ⟨a', c', rfl⟩ := own_shape hown
  clear co hown
  have h41 := h40.keep hb1
  have hb01 : Below w.heap.size w w1 := hb0.trans (hb1.mono hb0.size)
  clear hb1
  go_wp2_with fail
  refine (cr w1).mono ?_
  rintro e w2 ⟨rfl, hb2⟩
  clear cr
  have h42 := h41.keep hb2
  have hb3 : Below w.heap.size w w2 := hb01.trans (hb2.mono hb01.size)
  have hst2 := store_cells32 h42 Y
  have hsu := UARR_size .u8 32 Y
  clear hb2 hb01
  go_wp2
  refine bodyPost_ret (v := .tuple #[.agg (UARR .u8 32 Y), .int .i64 0]) ?_ rfl ⟨rfl, below_row hb3 (Nat.le_refl _) _⟩
  exact results_hash rfl _ _ w.heap.size 26 _ (0, 0) _ _ rfl (h42.row _) _ rfl Tryz.underlying26 (info_HASH _)
set_option maxHeartbeats 4000000 in
theorem refbag_some (d : Int) (n : Nat) (hn : n ≤ 4611686018427387904) (a : Option Addr) (k c : Nat) (hk : k = PC n) (h0 : k ≠ 0) (hs : Nat → Nat → Nat) (w : World) (hH : HASHES w a k hs) (h8 : ∀ i, i < k → ∀ j, hs i j < 256) :
    Calls Tryz.prog 6 #[.int .i64 d, .int .u64 (n : Int), .slice a k c] w fun e w' => e = .returned (.tuple #[.agg (UARR .u8 32 (ROOTF d n (FLDF d hs k))), .int .i64 0]) ∧ Below w.heap.size w w' := by
  have hz := zeroHash
  obtain ⟨w0, hw0⟩ : ∃ w0, w.alloc (.cells (UARR .u8 32 fun _ => 0) 26) = w0 := ⟨_, rfl⟩
  have hb0 : Below w.heap.size w w0 := by rw [← hw0]; exact (Below.refl _ _).alloc (Nat.le_refl _) _
  have h40 : Has w0 w.heap.size (UARR .u8 32 fun _ => 0) 26 := by rw [← hw0]; exact Has.new w _ _
  have h1' : ¬ (4611686018427387904 : Int) < (n : Int) := by omega
  have hk64 : k ≤ 64 := by rw [hk]; exact PC_lt_pow 64 n (by omega)
  have co := tops_ok n hn w0
  generalize SCELLS (TOPS 0 n) = SC at co
  rw [← hk] at co
  obtain ⟨m, hm⟩ : ∃ m, k = m + 1 := ⟨k - 1, by omega⟩
  obtain ⟨gn, o, rfl, hgn, hcn⟩ := hH (by omega)
  have hz0 : ((k : Int) == 0) = false := beq_eq_false_iff_ne.2 (by omega)
  have e1 : wrap64 ((k : Int) - 1) = (m : Int) := by unfold wrap64; omega
  have e2 : wrap64 ((k : Int) - 2) = (m : Int) - 1 := by unfold wrap64; omega
  have hml : (m : Int) < (k : Int) := by omega
  have e : FLDF d hs k = FAF d hs k m := by unfold FLDF; rw [if_neg h0, show k - 1 = m by omega]
  have hF8 := FLDF_lt (d := d) h8
  have CR : Aside (∀ W, Calls Tryz.prog 16 #[.int .i64 d, .int .u64 (n : Int), .agg (UARR .u8 32 (FAF d hs k m))] W fun e w' => e = .returned (.agg (UARR .u8 32 (ROOTF d n (FLDF d hs k)))) ∧ Below W.heap.size W w') := fun W => by
    rw [← e]
    exact refroot_ok d n (by omega) (FLDF d hs k) hF8 W
  generalize ROOTF d n (FLDF d hs k) = Y at *
  have HA : Aside (k = m + 1 ∧ k ≤ 64 ∧ (∀ i, i < k → w.rangeAt gn (o + i * 32) (ULIST .u8 32 (hs i))) ∧ gn < w.heap.size ∧ (∀ i j, FAF d hs k i j < 256) ∧ (∀ i, i < k → ∀ j, hs i j < 256)) := ⟨hm, hk64, hcn, hgn, FAF_lt h8 (by omega), h8⟩
  have hA0 : FAF d hs k 0 = hs m := by rw [FAF, show k - 1 = m by omega]
  have R0 : Aside (Below w.heap.size w w0 ∧ Has w0 w.heap.size (UARR .u8 32 fun _ => 0) 26 ∧ FAF d hs k 0 = hs m) := ⟨hb0, h40, hA0⟩
  clear hm hn hgn hcn h0 e hH h8 hF8 hk hk64 hb0 h40 hA0
  go_enter Tryz.func6, Tryz.ntmps6
  go_wp2_with fail
  refine co.mono ?_
  rintro e w1 ⟨v, rfl, hown, hb1⟩
  obtain ⟨a', c', rfl⟩ := own_shape hown
  clear co hown
  have R1 : Aside (Below w.heap.size w w1 ∧ Has w1 w.heap.size (UARR .u8 32 fun _ => 0) 26) := ⟨R0.out.1.trans (hb1.mono R0.out.1.size), R0.out.2.1.keep hb1⟩
  clear hb1 hw0
  have hat : w1.rangeAt gn (o + m * 32) (ULIST .u8 32 (hs m)) := range_below (HA.out.2.2.1 m (by have := HA.out.1; omega)) R1.out.1 HA.out.2.2.2.1
  have hst := run_storeCells_new (P := Tryz.prog) w1 26 (UARR .u8 32 fun _ => 0) (UARR .u8 32 (hs m)) (info_HASH _) (by rw [UARR_size, UARR_size]) (UARR_one _ _ _)
  have hsu := UARR_size .u8 32 (hs m)
  go_wp2_with (refine wpList_load_mid rfl 26 (.tmp 30) rfl gn (o + m * 32) rfl (ULIST .u8 32 (hs m)) _ hat Tryz.underlying26 rfl (by rw [ULIST_length]; exact info_hash) ?_; rw [← UARR_list])
  have R2 : Aside (Below w.heap.size w (w1.alloc (.cells (UARR .u8 32 (hs m)) 26)) ∧ Has (w1.alloc (.cells (UARR .u8 32 (hs m)) 26)) w.heap.size (UARR .u8 32 fun _ => 0) 26 ∧ Has (w1.alloc (.cells (UARR .u8 32 (hs m)) 26)) w1.heap.size (UARR .u8 32 (FAF d hs k 0)) 26 ∧ w.heap.size < w1.heap.size) := ⟨R1.out.1.alloc R1.out.1.size _, R1.out.2.alloc _, by rw [R0.out.2.2]; exact Has.new _ _ _, R1.out.2.lt⟩
  clear hat hst hsu R0 R1
  generalize w1.alloc (.cells (UARR .u8 32 (hs m)) 26) = W1 at *
  generalize w1.heap.size = b8 at *
  have K : Aside (w.heap.size < b8) := R2.out.2.2.2
  have E0 : Aside (wrap64 ((m : Int) - 1) = (m : Int) - 1) := by have := HA.out.1; have := HA.out.2.1; show wrap64 ((m : Int) - 1) = (m : Int) - 1; unfold wrap64; omega
  go_loopg [9] m (fun q s9 wx => ∃ x : Int, s9 = .int .i64 x ∧ Aside (q ≤ m ∧ x = (q : Int) - 1 ∧ Below w.heap.size w wx ∧ Has wx w.heap.size (UARR .u8 32 fun _ => 0) 26 ∧ Has wx b8 (UARR .u8 32 (FAF d hs k (m - q))) 26))
  case atStart => exact ⟨_, rfl, Nat.le_refl _, by first | rfl | exact e2, R2.out.1, R2.out.2.1, by rw [Nat.sub_self]; exact R2.out.2.2.1⟩
  case round =>
    obtain ⟨x, rfl, A⟩ := hrel
    clear R2 E0 e1 e2
    cases gk with
    | zero =>
      obtain rfl : x = -1 := by have := A.out.2.1; omega
      have hH8 : Has wr b8 (UARR .u8 32 (FAF d hs k m)) 26 := A.out.2.2.2.2
      have A2 : Aside (Below w.heap.size w wr ∧ Has wr w.heap.size (UARR .u8 32 fun _ => 0) 26) := ⟨A.out.2.2.1, A.out.2.2.2.1⟩
      have cr := CR.out wr
      clear A HA CR
      generalize FAF d hs k m = X at *
      go_wp2_with (refine wpList_load_row rfl 26 (.tmp 8) rfl b8 rfl 26 (UARR .u8 32 X) (0, 0) _ hH8 Tryz.underlying26 rfl (info_HASH _) ?_)
      refine cr.mono ?_
      rintro e w2 ⟨rfl, hb2⟩
      clear cr
      have h42 := A2.out.2.keep hb2
      have hb3 : Below w.heap.size w w2 := A2.out.1.trans (hb2.mono A2.out.1.size)
      have hst2 := store_cells32 h42 Y
      have hsu := UARR_size .u8 32 Y
      clear hb2 A2
      go_wp2
      refine bodyPost_ret (v := .tuple #[.agg (UARR .u8 32 Y), .int .i64 0]) ?_ rfl ⟨rfl, below_row hb3 (Nat.le_refl _) _⟩
      exact results_hash rfl _ _ w.heap.size 26 _ (0, 0) _ _ rfl (h42.row _) _ rfl Tryz.underlying26 (info_HASH _)
    | succ q =>
      obtain rfl : x = (q : Int) := by have := A.out.2.1; omega
      have hq0 : (0 : Int) ≤ (q : Int) := by omega
      obtain ⟨h1, h2, h3, h5, h6, h7⟩ := HA.out
      have hqm : q + 1 ≤ m := A.out.1
      have hb1 : (q : Int) < (k : Int) := by omega
      have eY : FAF d hs k (m - q) = FOLDF d (hs q) (FAF d hs k (m - (q + 1))) := by
        rw [show m - q = (m - (q + 1)) + 1 by omega, FAF, show k - 2 - (m - (q + 1)) = q by omega]
      have hr := h6 (m - (q + 1))
      have hl := h7 q (by omega)
      have hE1 : Aside (wrap64 ((q : Int) - 1) = (q : Int) - 1) := by show wrap64 ((q : Int) - 1) = (q : Int) - 1; unfold wrap64; omega
      have hb := A.out.2.2.1
      have H2 : Aside (w.rangeAt gn (o + q * 32) (ULIST .u8 32 (hs q)) ∧ gn < w.heap.size ∧ True ∧ (∀ j, hs q j < 256) ∧ (∀ j, FAF d hs k (m - (q + 1)) j < 256) ∧ FAF d hs k (m - q) = FOLDF d (hs q) (FAF d hs k (m - (q + 1))) ∧ Below w.heap.size w wr ∧ Has wr w.heap.size (UARR .u8 32 fun _ => 0) 26 ∧ Has wr b8 (UARR .u8 32 (FAF d hs k (m - (q + 1)))) 26 ∧ q ≤ m) := ⟨h3 q (by omega), h5, trivial, hl, hr, eY, hb, A.out.2.2.2.1, A.out.2.2.2.2, by omega⟩
      clear h1 h2 h3 h5 h6 h7 eY hb hr hl A HA hqm CR
      go_upto_region 11 with fail
      refine refbag_next wr gn o k c b8 q d (hs q) (FAF d hs k (m - (q + 1))) (FAF d hs k (m - q)) hb1 (fun V => Below wr.heap.size wr V) (Below.refl _ _).drew (fun V hV => ?_) (fun V hV => ?_) (fun V hV => ?_) (fun _ _ _ _ _ h => h) ?_
      · exact ⟨range_below (range_below H2.out.1 H2.out.2.2.2.2.2.2.1 H2.out.2.1) hV (Nat.lt_of_lt_of_le H2.out.2.1 H2.out.2.2.2.2.2.2.1.size), H2.out.2.2.2.2.2.2.2.2.1.keep hV⟩
      · have hV2 : Below w.heap.size w V := H2.out.2.2.2.2.2.2.1.trans (hV.mono H2.out.2.2.2.2.2.2.1.size)
        exact range_below H2.out.1 (below_row hV2 (Nat.le_of_lt K.out) _) H2.out.2.1
      · refine (reffold_ok d (hs q) (FAF d hs k (m - (q + 1))) H2.out.2.2.2.1 H2.out.2.2.2.2.1 V).mono ?_
        rintro e V' ⟨rfl, hb⟩
        exact ⟨by rw [H2.out.2.2.2.2.2.1]; rfl, hV.trans (hb.mono hV.size)⟩
      · intro W3 hW3
        obtain ⟨w0', hw0', hW3⟩ := hW3
        have Z : Aside (q ≤ m ∧ Below w.heap.size w W3 ∧ Has W3 w.heap.size (UARR .u8 32 fun _ => 0) 26 ∧ Has W3 b8 (UARR .u8 32 (FAF d hs k (m - q))) 26) := by
          have hV2 : Below w.heap.size w w0' := H2.out.2.2.2.2.2.2.1.trans (hw0'.mono H2.out.2.2.2.2.2.2.1.size)
          rw [hW3]
          exact ⟨H2.out.2.2.2.2.2.2.2.2.2, below_row hV2 (Nat.le_of_lt K.out) _, (H2.out.2.2.2.2.2.2.2.1.keep hw0').row_other (by have := K.out; omega) _, (H2.out.2.2.2.2.2.2.2.2.1.keep hw0').row _⟩
        clear hW3 hw0' H2
        have e1 := hE1.out
        go_wp2
        go_roundg q
        case measure => exact Nat.lt_succ_self _
        case rel => exact ⟨_, rfl, Z.out.1, by first | rfl | exact hE1.out, Z.out.2⟩
theorem refbag_any (d : Int) (n : Nat) (a : Option Addr) (k c : Nat) (hs : Nat → Nat → Nat) (w : World) (hH : HASHES w a k hs) (h8 : ∀ i, i < k → ∀ j, hs i j < 256) :
    Calls Tryz.prog 6 #[.int .i64 d, .int .u64 (n : Int), .slice a k c] w fun e w' => e = .returned (.tuple #[.agg (UARR .u8 32 (BAGF d n k hs).2), .int .i64 (BAGF d n k hs).1]) ∧ Below w.heap.size w w' := by
  by_cases h1 : 4611686018427387904 < n
  · rw [BAGF_far h1]
    exact refbag_far d n a k c w (by omega)
  · by_cases h2 : k = PC n
    · rw [BAGF_yes h1 h2]
      by_cases h0 : k = 0
      · have hn0 := pc_none n (by omega)
        subst h0 hn0
        rw [show FLDF d hs 0 = fun _ => 0 from rfl]
        exact refbag_none d a c w
      · exact refbag_some d n (by omega) a k c h2 h0 hs w hH h8
    · rw [BAGF_count h1 h2]
      exact refbag_count d n (by omega) a k c w h2
end Go.Proofs.YtdmbmphdiaepdaaGreatDoor.HX
