/- What the document's Peaks gives. -/
import Derived.Test.YtddmfpiflnjmjaaDoorPosTops
namespace Go.Proofs.YtddmfpiflnjmjaaDoor
open Go.RowKit

theorem tops_spots (n : Nat) (hn : n ≤ 4611686018427387904) (w : World) : Calls Tryd.prog 65 #[.int .u64 (n : Int)] w fun e w' =>
    ∃ a cap, e = .returned (.slice a (PC n) cap) ∧ Spots w' a (TOPS 0 n) ∧ Below w.heap.size w w' := by
  refine (tops_ok n hn w).mono ?_
  rintro e w' ⟨v, rfl, hown, hb⟩
  have hl := TOPS_length (n := n) (by omega) 0 (by omega)
  rw [Nat.pow_zero, Nat.div_one] at hl
  obtain ⟨a, cap, rfl, hs⟩ := spots_own hl hown
  exact ⟨a, cap, rfl, hs, hb⟩
theorem TOPS_node {n : Nat} (hn : n ≤ 4611686018427387904) {j h k : Nat} (e : (TOPS 0 n)[j]? = some (h, k)) : Node h k ∧ h < 64 := by
  unfold TOPS at e
  rw [List.getElem?_map] at e
  obtain ⟨g, hg, e2⟩ := Option.map_eq_some_iff.1 e
  simp only [Prod.mk.injEq] at e2
  obtain ⟨rfl, rfl⟩ := e2
  obtain ⟨_, h1, h2⟩ := HS_set_of 0 g (by omega) (List.mem_of_getElem? hg)
  exact ⟨Node.peak hn h2, h1⟩
theorem PEAKS_TOPS (n : Nat) : PEAKS n = (TOPS 0 n).map fun x => PLC x.1 x.2 := by
  unfold PEAKS TOPS
  rw [List.map_map]
  rfl
theorem refpeaks_not (n : Int) (hn : 4611686018427387904 < n) (w : World) : Calls Tryd.prog 39 #[.int .u64 n] w fun e w' => e = .returned (.slice none 0 0) ∧ w = w' := by
  have c := tops_not n hn
  clear hn
  go_enter Tryd.func39, Tryd.ntmps39
  go_wp2_with fail
  refine (c _).mono ?_
  rintro e w' ⟨rfl, rfl⟩
  clear c
  go_wp2
  go_loopg [3, 5] 0 (fun _ s3 s5 wx => s3 = .slice none 0 0 ∧ s5 = .int .i64 0 ∧ wx = w)
  case atStart => exact ⟨rfl, rfl, rfl⟩
  case round =>
    obtain ⟨rfl, rfl, rfl⟩ := hrel
    go_wp2
    go_ret
    exact ⟨rfl, rfl⟩
set_option maxHeartbeats 1000000 in
theorem refpeaks_ok (n : Nat) (hn : n ≤ 4611686018427387904) (w : World) : Calls Tryd.prog 39 #[.int .u64 (n : Int)] w fun e w' =>
    ∃ v, e = .returned v ∧ w'.ownsRow w.heap.size 22 1 v (PC n) (UCELLS (PEAKS n)) ∧ Below w.heap.size w w' := by
  have c := tops_spots n hn w
  have hl := TOPS_length (n := n) (by omega) 0 (by omega)
  rw [Nat.pow_zero, Nat.div_one] at hl
  have hP := PC_lt_pow 64 n (by omega)
  have hN := fun (j h k : Nat) (e : (TOPS 0 n)[j]? = some (h, k)) => TOPS_node hn e
  have hpt := PEAKS_TOPS n
  generalize PC n = L at *
  generalize TOPS 0 n = l at *
  have HL : Aside (l.length = L ∧ L ≤ 64 ∧ (∀ j h k, l[j]? = some (h, k) → Node h k ∧ h < 64) ∧ PEAKS n = l.map fun x => PLC x.1 x.2) := ⟨hl, hP, hN, hpt⟩
  clear hn hl hP hN hpt
  go_enter Tryd.func39, Tryd.ntmps39
  go_wp2_with fail
  refine c.mono ?_
  rintro e w1 ⟨a, cap, rfl, hs, hb⟩
  have R1 : Aside (Spots w1 a l ∧ Below w.heap.size w w1) := ⟨hs, hb⟩
  clear c hs hb
  go_wp2
  go_loopg [3, 5] L (fun q s3 s5 wx => ∃ j : Nat, s5 = .int .i64 (j : Int) ∧ Aside (j + q = L ∧ wx.ownsRow w1.heap.size 22 1 s3 j (UCELLS ((l.take j).map fun x => PLC x.1 x.2)) ∧ Below w1.heap.size w1 wx))
  case atStart => exact ⟨0, rfl, by omega, ⟨rfl, .inl ⟨rfl, rfl⟩⟩, Below.refl _ _⟩
  case round =>
    obtain ⟨j, rfl, A⟩ := hrel
    cases gk with
    | zero =>
      obtain rfl : j = L := by have := A.out.1; omega
      have hlt : ¬ (j : Int) < (j : Int) := by omega
      go_wp2
      go_ret
      obtain ⟨_, hown, hbel⟩ := A.out
      rw [List.take_of_length_le (by rw [HL.out.1]; omega), ← HL.out.2.2.2] at hown
      exact ⟨_, rfl, own_mono hown R1.out.2.size, R1.out.2.trans (hbel.mono R1.out.2.size)⟩
    | succ q =>
      have hjl : j < L := by have := A.out.1; omega
      have hlt : (j : Int) < (L : Int) := by omega
      have hj0 : ¬ (j : Int) < 0 := by omega
      obtain ⟨⟨h, k⟩, hx⟩ : ∃ x, l[j]? = some x := ⟨_, List.getElem?_eq_getElem (by rw [HL.out.1]; exact hjl)⟩
      obtain ⟨g, rfl, hg, hc⟩ := R1.out.1 (by rw [HL.out.1]; omega)
      have h0 : wr.cell? ⟨g, j * 2, none⟩ = some (.int .u8 (h : Int)) := (A.out.2.2.cell (p := ⟨g, j * 2, none⟩) hg).trans (hc j h k hx).1
      have h1 : wr.cell? ⟨g, j * 2 + 1, none⟩ = some (.int .u64 (k : Int)) := (A.out.2.2.cell (p := ⟨g, j * 2 + 1, none⟩) hg).trans (hc j h k hx).2
      have cp := fun w => refplace_ok h k (HL.out.2.2.1 j h k hx).1 w
      have e1 : wrap64 ((j : Int) + 1) = ((j + 1 : Nat) : Int) := by have := HL.out.2.1; unfold wrap64; omega
      have ht : (l.take (j + 1)).map (fun x => PLC x.1 x.2) = (l.take j).map (fun x => PLC x.1 x.2) ++ [PLC h k] := by
        rw [List.take_add_one, hx]
        simp
      generalize PLC h k = y at *
      generalize hm : (l.take j).map (fun x => PLC x.1 x.2) = m at *
      generalize hm2 : (l.take (j + 1)).map (fun x => PLC x.1 x.2) = m2 at *
      have R : Aside (j + 1 + q = L ∧ wr.ownsRow w1.heap.size 22 1 u3 j (UCELLS m) ∧ Below w1.heap.size w1 wr ∧ j ≤ 1000 ∧ m2 = m ++ [y] ∧ (l.take (j + 1)).map (fun x => PLC x.1 x.2) = m2) := ⟨by have := A.out.1; omega, A.out.2.1, A.out.2.2, by have := HL.out.2.1; omega, ht, hm2⟩
      clear A HL R1 hx hg hc ht hm hm2 hjl
      go_wp2_with fail
      refine (cp _).mono ?_
      rintro e w2 ⟨rfl, hb⟩
      replace R : Aside (j + 1 + q = L ∧ w2.ownsRow w1.heap.size 22 1 u3 j (UCELLS m) ∧ Below w1.heap.size w1 w2 ∧ j ≤ 1000 ∧ m2 = m ++ [y] ∧ (l.take (j + 1)).map (fun x => PLC x.1 x.2) = m2) := ⟨R.out.1, own_below R.out.2.1 hb, R.out.2.2.1.trans (hb.mono R.out.2.2.1.size), R.out.2.2.2⟩
      clear cp hb h0 h1
      go_wp2_with (at_builtin; refine app_u64 _ rfl (.tmp 24) (.tmp 26) rfl w1.heap.size u3 j m rfl (R.out.2.1.alloc _) w2.heap.size 1 y rfl (by rw [World.cell?_alloc_at _ _ _ _ rfl]; rfl) R.out.2.2.2.1 (by have := R.out.2.2.1.size; simp; omega) ?_; intro g' cap' w3 hown hgrow hg)
      obtain ⟨r1, r2, r3, r4, r5, r6⟩ := R.out
      have R2 : Aside (j + 1 + q = L ∧ w3.ownsRow w1.heap.size 22 1 (.slice (some ⟨g', 0, none⟩) (j + 1) cap') (j + 1) (UCELLS ((l.take (j + 1)).map fun x => PLC x.1 x.2)) ∧ Below w1.heap.size w1 w3) := ⟨r1, by rw [r6, r5]; exact hown, (r3.alloc r3.size _).grown hgrow (by have := r3.size; simp; omega) (fun k e => (r2.lt k e).1)⟩
      clear hown hgrow hg R r1 r2 r3 r4 r5 r6
      go_wp2
      go_roundg q
      case measure => omega
      case rel => exact ⟨j + 1, by first | rfl | (rw [e1]), R2.out⟩
end Go.Proofs.YtddmfpiflnjmjaaDoor
