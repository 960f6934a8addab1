/- What the document's Peak gives. -/
import Derived.Test.YtddmfpiflnjmjaaDoorPosRefPeaks
import Derived.Test.YtddmfpiflnjmjaaDoorPosCoversPlain
namespace Go.Proofs.YtddmfpiflnjmjaaDoor
open Go.RowKit

theorem wr_id {x : Nat} (h : x < 2 ^ 64) : IntKind.u64.wrap (x : Int) = (x : Int) := by
  rw [wrapU]
  omega
theorem TOPS_at {n j : Nat} (hn : n < 2 ^ 64) (hj : j < PC n) : (TOPS 0 n)[j]? = some (HGT n j, KGT n j) := by
  unfold TOPS
  rw [List.getElem?_map, (HGT_at hn hj).1]
  rfl
theorem HGT_KTH {i n : Nat} (hi : i < n) (hn : n ≤ 4611686018427387904) : HGT n (KTH i n) = RISE i n := by
  unfold HGT
  rw [List.getD_eq_getElem?_getD, KTH_at hi hn]
  rfl
/-- ahead of its peak no peak is over the leaf. -/
theorem ahead_not {i n k : Nat} (hi : i < n) (hn : n ≤ 4611686018427387904) (hk : k < KTH i n) : i / 2 ^ HGT n k ≠ KGT n k := by
  have hK := KTH_lt hi hn
  obtain ⟨_, h62, hb, hq, _⟩ := RISE_spec hi hn
  obtain ⟨_, h2, h3⟩ := HGT_at (n := n) (i := k) (by omega) (by omega)
  have hlt : RISE i n < HGT n k := by
    rcases Nat.lt_or_ge (RISE i n) (HGT n k) with h | h
    · exact h
    · have := PC_mono n (a := HGT n k + 1) (b := RISE i n + 1) (by omega)
      unfold KTH at hk
      omega
  have e : ∀ x : Nat, x / 2 ^ HGT n k = x / 2 ^ (RISE i n + 1) / 2 ^ (HGT n k - (RISE i n + 1)) := fun x => by rw [Nat.div_div_eq_div_mul, ← Nat.pow_add, show RISE i n + 1 + (HGT n k - (RISE i n + 1)) = HGT n k by omega]
  have h4 := at_set h2
  rw [e i, hq, ← e n, h4]
  unfold KGT
  omega
theorem at_peak {i n : Nat} (hi : i < n) (hn : n ≤ 4611686018427387904) : i / 2 ^ HGT n (KTH i n) = KGT n (KTH i n) := by
  unfold KGT
  rw [HGT_KTH hi hn]
  exact (RISE_spec hi hn).2.2.2.2
theorem refpeak_out (i n : Int) (h : n ≤ i) (w : World) : Calls Tryd.prog 38 #[.int .u64 i, .int .u64 n] w fun e w' => e = .returned (.tuple #[.int .i64 0, .bool false]) ∧ w = w' := by
  go_enter Tryd.func38, Tryd.ntmps38
  go_wp2
  go_ret2
  exact ⟨rfl, rfl⟩
theorem refpeak_big (i n : Int) (hi : i < n) (h : 4611686018427387904 < n) (w : World) : Calls Tryd.prog 38 #[.int .u64 i, .int .u64 n] w fun e w' => e = .returned (.tuple #[.int .i64 0, .bool false]) ∧ w = w' := by
  have c := tops_not n h
  have hd : ¬ n ≤ i := by omega
  clear h hi
  go_enter Tryd.func38, Tryd.ntmps38
  go_wp2_with fail
  refine (c _).mono ?_
  rintro e w' ⟨rfl, rfl⟩
  clear c
  go_wp2
  go_loopg [7] 0 (fun _ s7 wx => s7 = .int .i64 0 ∧ wx = w)
  case atStart => exact ⟨rfl, rfl⟩
  case round =>
    obtain ⟨rfl, rfl⟩ := hrel
    go_wp2
    go_ret2
    exact ⟨rfl, rfl⟩
theorem refpeak_not (i n : Int) (h : ¬ (i < n ∧ n ≤ 4611686018427387904)) (w : World) : Calls Tryd.prog 38 #[.int .u64 i, .int .u64 n] w fun e w' => e = .returned (.tuple #[.int .i64 0, .bool false]) ∧ w = w' := by
  rcases Int.lt_or_le i n with h1 | h1
  · exact refpeak_big i n h1 (by omega) w
  · exact refpeak_out i n h1 w
set_option maxHeartbeats 1000000 in
theorem refpeak_ok (i n : Nat) (hi : i < n) (hn : n ≤ 4611686018427387904) (w : World) : Calls Tryd.prog 38 #[.int .u64 (i : Int), .int .u64 (n : Int)] w fun e w' => e = .returned (.tuple #[.int .i64 ((KTH i n : Nat) : Int), .bool true]) ∧ Below w.heap.size w w' := by
  have c := tops_spots n hn w
  have hK := KTH_lt hi hn
  have hP := PC_lt_pow 64 n (by omega)
  have h1 := fun (k : Nat) (hk : k < KTH i n) => ahead_not hi hn hk
  have h2 := at_peak hi hn
  have hT := fun (j : Nat) (hj : j < PC n) => TOPS_at (n := n) (by omega) hj
  have hN := fun (j : Nat) (hj : j < PC n) => (PEAK_node hn hj).1
  have hL := TOPS_length (n := n) (by omega) 0 (by omega)
  rw [Nat.pow_zero, Nat.div_one] at hL
  have hd : ¬ (n : Int) ≤ (i : Int) := by omega
  have hi64 : i < 2 ^ 64 := by omega
  generalize KTH i n = K at *
  generalize PC n = L at *
  generalize HGT n = hh at *
  generalize KGT n = kk at *
  generalize TOPS 0 n = l at *
  have HA : Aside (K < L ∧ L ≤ 64 ∧ (∀ k, k < K → i / 2 ^ hh k ≠ kk k) ∧ i / 2 ^ hh K = kk K ∧ (∀ j, j < L → l[j]? = some (hh j, kk j)) ∧ (∀ j, j < L → hh j ≤ 62) ∧ l.length = L ∧ i < 2 ^ 64) := ⟨hK, hP, h1, h2, hT, hN, hL, hi64⟩
  clear hi hn hK hP h1 h2 hT hN hL hi64
  go_enter Tryd.func38, Tryd.ntmps38
  go_wp2_with fail
  refine c.mono ?_
  rintro e w1 ⟨a, cap, rfl, hs, hb⟩
  have R1 : Aside (Spots w1 a l ∧ Below w.heap.size w w1) := ⟨hs, hb⟩
  clear c hs hb
  go_wp2
  go_loopg [7] K (fun q s7 wx => ∃ j : Nat, s7 = .int .i64 (j : Int) ∧ Aside (j + q = K ∧ Below w1.heap.size w1 wx))
  case atStart => exact ⟨0, rfl, by omega, Below.refl _ _⟩
  case round =>
    obtain ⟨j, rfl, A⟩ := hrel
    obtain ⟨g, z, t, hv, kv, rfl, y0, y1, b1, b2, b3, b4, b5, b6, b7, b8, b9⟩ : ∃ (g : Nat) (z t : Int) (hv kv : Nat), a = some ⟨g, 0, none⟩ ∧ wr.cell? ⟨g, j * 2, none⟩ = some (.int .u8 (hv : Int)) ∧ wr.cell? ⟨g, j * 2 + 1, none⟩ = some (.int .u64 (kv : Int)) ∧ (∀ w, Calls Tryd.prog 67 #[.int .i64 (hv : Int)] w fun e w' => e = .returned (.int .u64 z) ∧ w = w') ∧ wrap64 (hv : Int) = (hv : Int) ∧ ¬ z = 0 ∧ (i : Int) / z = t ∧ IntKind.u64.wrap t = t ∧ (j < L ∧ j ≤ 64) ∧ (gk = 0 → j = K) ∧ (gk = 0 → t = (kv : Int)) ∧ (gk ≠ 0 → ¬ t = (kv : Int)) := by
      obtain ⟨a1, a2, a3, a4, a5, a6, a7, a8⟩ := HA.out
      have hjK := A.out.1
      have hjL : j < L := by omega
      obtain ⟨g, rfl, hg, hc⟩ := R1.out.1 (by omega)
      have hx := a5 j hjL
      have h62 := a6 j hjL
      have hp0 := Nat.two_pow_pos (hh j)
      refine ⟨g, ((2 ^ hh j : Nat) : Int), ((i / 2 ^ hh j : Nat) : Int), hh j, kk j, rfl, (A.out.2.cell (p := ⟨g, j * 2, none⟩) hg).trans (hc _ _ _ hx).1, (A.out.2.cell (p := ⟨g, j * 2 + 1, none⟩) hg).trans (hc _ _ _ hx).2, fun w => power_ok (hh j) (by omega) w, by unfold wrap64; omega, ?_, (Int.natCast_ediv _ _).symm, wr_id (Nat.lt_of_le_of_lt (Nat.div_le_self _ _) a8), ⟨hjL, by omega⟩, fun h => by omega, fun h => ?_, fun h => ?_⟩
      · generalize 2 ^ hh j = x at hp0
        omega
      · obtain rfl : j = K := by omega
        rw [a4]
      · have := a3 j (by omega)
        generalize i / 2 ^ hh j = x at this
        omega
    have hlt : (j : Int) < (L : Int) := by omega
    have hj0 : ¬ (j : Int) < 0 := by omega
    have hj0' : (0 : Int) ≤ (j : Int) := by omega
    have e1 : wrap64 ((j : Int) + 1) = ((j + 1 : Nat) : Int) := by unfold wrap64; omega
    have b3' : (z == 0) = false := by simpa using b3
    cases gk with
    | zero =>
      obtain rfl := b7 rfl
      have heq : (t == (kv : Int)) = true := by simpa using b8 rfl
      have R : Aside (Below w.heap.size w wr) := R1.out.2.trans (A.out.2.mono R1.out.2.size)
      clear A HA R1 b6 b7 b8 b9
      go_wp2_with fail
      refine (b1 _).mono ?_
      rintro e w' ⟨rfl, rfl⟩
      clear b1
      go_wp2
      go_quiet (fail)
      go_wp2
      go_ret2
      exact ⟨rfl, below_drewN R.out _⟩
    | succ q =>
      have hne : (t == (kv : Int)) = false := by simpa using b9 (by omega)
      have B : Aside (j + 1 + q = K ∧ Below w1.heap.size w1 wr) := ⟨by have := A.out.1; omega, A.out.2⟩
      clear A HA R1 b6 b7 b8 b9
      go_wp2_with fail
      refine (b1 _).mono ?_
      rintro e w' ⟨rfl, rfl⟩
      clear b1
      go_wp2
      go_quiet (fail)
      go_wp2
      go_roundg q
      case measure => omega
      case rel => exact ⟨j + 1, by first | rfl | (rw [e1]), B.out.1, below_drewN B.out.2 _⟩
end Go.Proofs.YtddmfpiflnjmjaaDoor
