/- What the document's Path gives. -/
import Derived.Test.YtddmfpiflnjmjaaDoorPosRefPeak
import Derived.Test.YtddmfpiflnjmjaaDoorPosHas
namespace Go.Proofs.YtddmfpiflnjmjaaDoor
open Go.RowKit

theorem refpath_not (i n : Int) (h : ¬ (i < n ∧ n ≤ 4611686018427387904)) (w : World) : Calls Tryd.prog 37 #[.int .u64 i, .int .u64 n] w fun e w' => e = .returned (.tuple #[.slice none 0 0, .bool false]) ∧ w = w' := by
  have c := refpeak_not i n h
  clear h
  go_enter Tryd.func37, Tryd.ntmps37
  go_wp2_with fail
  refine (c _).mono ?_
  rintro e w' ⟨rfl, rfl⟩
  clear c
  go_wp2
  go_ret2
  exact ⟨rfl, rfl⟩
set_option maxHeartbeats 2000000 in
theorem refpath_ok (i n : Nat) (hi : i < n) (hn : n ≤ 4611686018427387904) (w : World) : Calls Tryd.prog 37 #[.int .u64 (i : Int), .int .u64 (n : Int)] w fun e w' =>
    ∃ v, e = .returned (.tuple #[v, .bool true]) ∧ w'.ownsRow w.heap.size 22 1 v (RISE i n) (UCELLS (WAY i (RISE i n))) ∧ Below w.heap.size w w' := by
  have c1 := refpeak_ok i n hi hn w
  have c2 := tops_spots n hn
  have hK := KTH_lt hi hn
  have hP := PC_lt_pow 64 n (by omega)
  have hT := TOPS_at (n := n) (by omega) hK
  rw [HGT_KTH hi hn] at hT
  have h62 := (RISE_spec hi hn).2.1
  have hlt : i < 4611686018427387904 := by omega
  generalize KTH i n = K at *
  generalize PC n = L at *
  generalize KGT n K = kk at *
  generalize TOPS 0 n = l at *
  generalize RISE i n = H at *
  have HA : Aside (K < L ∧ L ≤ 64 ∧ l[K]? = some (H, kk) ∧ H ≤ 62 ∧ i < 4611686018427387904) := ⟨hK, hP, hT, h62, hlt⟩
  have hKL : (K : Int) < (L : Int) := by omega
  have hK0 : ¬ (K : Int) < 0 := by omega
  clear hi hn hK hP hT h62 hlt
  go_enter Tryd.func37, Tryd.ntmps37
  go_wp2_with fail
  refine c1.mono ?_
  rintro e w1 ⟨rfl, hb⟩
  have R1 : Aside (Below w.heap.size w w1) := hb
  clear c1 hb
  go_wp2_with fail
  refine (c2 _).mono ?_
  rintro e w2 ⟨a, cap, rfl, hs, hb⟩
  obtain ⟨g, rfl, hg, hc⟩ := hs (by have := (List.getElem?_eq_some_iff.1 HA.out.2.2.1).1; omega)
  have y0 := (hc _ _ _ HA.out.2.2.1).1
  replace R1 : Aside (Below w.heap.size w w2) := R1.out.trans (hb.mono R1.out.size)
  clear c2 hb hs hc hg
  go_wp2
  have hB : Below w2.heap.size w2 (w2.alloc (.cells #[.int .u8 0, .int .u64 (i : Int)] 76)) := (Below.refl _ _).alloc (Nat.le_refl _) _
  have hH := Has.new w2 #[.int .u8 0, .int .u64 (i : Int)] 76
  have R2 : Aside (Below w.heap.size w (w2.alloc (.cells #[.int .u8 0, .int .u64 (i : Int)] 76)) ∧ Has (w2.alloc (.cells #[.int .u8 0, .int .u64 (i : Int)] 76)) w2.heap.size #[.int .u8 0, .int .u64 (i : Int)] 76 ∧ w.heap.size ≤ w2.heap.size) := ⟨R1.out.trans (hB.mono R1.out.size), hH, R1.out.size⟩
  generalize w2.alloc (.cells #[.int .u8 0, .int .u64 (i : Int)] 76) = w3 at *
  clear hB hH R1 y0
  generalize w2.heap.size = sb at *
  go_loopg [8] H (fun q s8 wx => ∃ j : Nat, Aside (j + q = H ∧ wx.ownsRow (sb + 1) 22 1 s8 j (UCELLS (WAY i j)) ∧ Has wx sb #[.int .u8 (j : Int), .int .u64 ((i / 2 ^ j : Nat) : Int)] 76 ∧ Below w.heap.size w wx))
  case atStart => exact ⟨0, by omega, ⟨rfl, .inl ⟨rfl, rfl⟩⟩, by rw [Nat.pow_zero, Nat.div_one]; exact R2.out.2.1, R2.out.1⟩
  case round =>
    obtain ⟨j, A⟩ := hrel
    have y0 : wr.cell? ⟨sb, 0, none⟩ = some (.int .u8 (j : Int)) := A.out.2.2.1.cell 0
    cases gk with
    | zero =>
      obtain rfl : j = H := by have := A.out.1; omega
      have hlt : ¬ (j : Int) < (j : Int) := by omega
      go_wp2
      go_ret2
      obtain ⟨_, hown, _, hbel⟩ := A.out
      exact ⟨_, rfl, own_mono hown (by have := R2.out.2.2; omega), hbel⟩
    | succ q =>
      have y1 : wr.cell? ⟨sb, 1, none⟩ = some (.int .u64 ((i / 2 ^ j : Nat) : Int)) := A.out.2.2.1.cell 1
      have hjH : j < H := by have := A.out.1; omega
      have hlt : (j : Int) < (H : Int) := by omega
      have hN := Node.over HA.out.2.2.2.2 j (by have := HA.out.2.2.2.1; omega)
      have cp := fun w => refplace_ok j (i / 2 ^ j) hN w
      have cs := fun w => refsibling_ok j (i / 2 ^ j) hN (by have := HA.out.2.2.2.1; omega) w
      have e1 : ((j : Int) + 1) % 256 = ((j + 1 : Nat) : Int) := by have := HA.out.2.2.2.1; omega
      have hk64 : i / 2 ^ j < 2 ^ 62 := hN.index_lt
      have hw := WAY_succ i j
      have hhalf := half_pow i j
      have hj63 : j ≤ 63 := by have := HA.out.2.2.2.1; omega
      generalize hk : i / 2 ^ j = k at *
      generalize hk2 : i / 2 ^ (j + 1) = k2 at *
      have e2 : (k : Int) / 2 = (k2 : Int) := by omega
      have e3 : IntKind.u64.wrap (k2 : Int) = (k2 : Int) := wr_id (by omega)
      generalize PLC j k = x at *
      generalize PLC j (SIB k) = y at *
      have R : Aside (j + 1 + q = H ∧ wr.ownsRow (sb + 1) 22 1 u8 j (UCELLS (WAY i j)) ∧ Has wr sb #[.int .u8 (j : Int), .int .u64 (k : Int)] 76 ∧ Below w.heap.size w wr ∧ j ≤ 1000 ∧ WAY i (j + 1) = WAY i j ++ [y] ∧ i / 2 ^ (j + 1) = k2 ∧ w.heap.size ≤ sb) := ⟨by have := A.out.1; omega, A.out.2.1, A.out.2.2.1, A.out.2.2.2, by omega, hw, hk2, R2.out.2.2⟩
      clear A HA R2 hjH hN hk64 hw hhalf hj63 hk hk2
      go_wp2_with fail
      refine (cp _).mono ?_
      rintro e w4 ⟨rfl, hb⟩
      obtain ⟨r1, r2, r3, r4, r5, r6, r7, r8⟩ := R.out
      replace R : Aside (j + 1 + q = H ∧ w4.ownsRow (sb + 1) 22 1 u8 j (UCELLS (WAY i j)) ∧ Has w4 sb #[.int .u8 (j : Int), .int .u64 (k : Int)] 76 ∧ Below w.heap.size w w4 ∧ j ≤ 1000 ∧ WAY i (j + 1) = WAY i j ++ [y] ∧ i / 2 ^ (j + 1) = k2 ∧ w.heap.size ≤ sb) := ⟨r1, own_below r2 hb, r3.keep hb, r4.trans (hb.mono r4.size), r5, r6, r7, r8⟩
      clear cp hb y0 y1 r1 r2 r3 r4 r5 r6 r7 r8
      go_wp2_with fail
      refine (cs _).mono ?_
      rintro e w5 ⟨rfl, hb⟩
      obtain ⟨r1, r2, r3, r4, r5, r6, r7, r8⟩ := R.out
      replace R : Aside (j + 1 + q = H ∧ w5.ownsRow (sb + 1) 22 1 u8 j (UCELLS (WAY i j)) ∧ Has w5 sb #[.int .u8 (j : Int), .int .u64 (k : Int)] 76 ∧ Below w.heap.size w w5 ∧ j ≤ 1000 ∧ WAY i (j + 1) = WAY i j ++ [y] ∧ i / 2 ^ (j + 1) = k2 ∧ w.heap.size ≤ sb) := ⟨r1, own_below r2 hb, r3.keep hb, r4.trans (hb.mono r4.size), r5, r6, r7, r8⟩
      clear cs hb r1 r2 r3 r4 r5 r6 r7 r8
      go_wp2_with (at_builtin; refine app_u64 _ rfl (.tmp 45) (.tmp 47) rfl (sb + 1) u8 j (WAY i j) rfl (R.out.2.1.alloc _) w5.heap.size 1 y rfl (by rw [World.cell?_alloc_at _ _ _ _ rfl]; rfl) R.out.2.2.2.2.1 (by have := R.out.2.2.1.lt; simp; omega) ?_; intro g' cap' w6 hown hgrow hg; have HH : Aside (Has w6 sb #[.int .u8 (j : Int), .int .u64 (k : Int)] 76) := Has.below (R.out.2.2.1.alloc _) ((Below.refl (sb + 1) _).grown hgrow (by have := R.out.2.2.1.lt; simp; omega) (fun k e => (R.out.2.1.lt k e).1)) (Nat.lt_succ_self _); have y0 : w6.cell? ⟨sb, 0, none⟩ = some (.int .u8 (j : Int)) := HH.out.cell 0; have y1 : w6.cell? ⟨sb, 1, none⟩ = some (.int .u64 (k : Int)) := HH.out.cell 1; have z0 : w6.frozen? ⟨sb, 0, none⟩ = false := HH.out.frozen 0; have z1 : w6.frozen? ⟨sb, 1, none⟩ = false := HH.out.frozen 1)
      obtain ⟨r1, r2, r3, r4, r5, r6, r7, r8⟩ := R.out
      have R3 : Aside (j + 1 + q = H ∧ w6.ownsRow (sb + 1) 22 1 (.slice (some ⟨g', 0, none⟩) (j + 1) cap') (j + 1) (UCELLS (WAY i (j + 1))) ∧ Has w6 sb #[.int .u8 (j : Int), .int .u64 (k : Int)] 76 ∧ Below w.heap.size w w6 ∧ i / 2 ^ (j + 1) = k2 ∧ w.heap.size ≤ sb) := ⟨r1, by rw [r6]; exact hown, HH.out, (r4.alloc r4.size _).grown hgrow (by have := r4.size; simp; omega) (fun k e => by have := (r2.lt k e).1; omega), r7, r8⟩
      clear hown hgrow hg R r1 r2 r3 r4 r5 r6 r7 r8 HH y0 y1 z0 z1
      go_roundg q
      case measure => omega
      case rel =>
        obtain ⟨r1, r2, r3, r4, r7, r8⟩ := R3.out
        refine ⟨j + 1, r1, ownsRow_setCell_below (ownsRow_setCell_below r2 (Nat.lt_succ_self _) _) (Nat.lt_succ_self _) _, ?_, (r4.setCell r8 _).setCell r8 _⟩
        have h := (r3.set 0 (.int .u8 ((j : Int) + 1))).set 1 (.int .u64 (k2 : Int))
        rw [r7]
        exact h
end Go.Proofs.YtddmfpiflnjmjaaDoor
