/- What written, Encode and EncodePrefix of package proof answer. -/
import Derived.Test.YtddmfpiflnjmjaaDoorNumShortCalls
import Derived.Test.YtddmfpiflnjmjaaDoorProofPlaces
import Derived.Deep.MidRow
namespace Go.Proofs.YtddmfpiflnjmjaaDoor
open Go.RowKit
set_option maxRecDepth 100000

/-- so many hashes lie there, told as their bytes, one behind the other. -/
def Flat (w : World) (a : Option Addr) (n : Nat) (l : List Int) : Prop :=
  l.length = 32 * n ∧ (0 < n → ∃ b o, a = some ⟨b, o, none⟩ ∧ b < w.heap.size ∧ ∀ j, j < 32 * n → w.cell? ⟨b, o + j, none⟩ = some (.int .u8 (l.getD j 0))) ∧ ∀ x ∈ l, 0 ≤ x ∧ x ≤ 255
theorem Flat.below {w w' : World} {a : Option Addr} {n : Nat} {l : List Int} (h : Flat w a n l) (hb : Below w.heap.size w w') : Flat w' a n l :=
  ⟨h.1, fun hn => by
    obtain ⟨b, o, e, hl, hc⟩ := h.2.1 hn
    exact ⟨b, o, e, Nat.lt_of_lt_of_le hl hb.size, fun i hi => (hb.cell (by exact hl)).trans (hc i hi)⟩, h.2.2⟩
/-- the bytes of the i-th hash. -/
def HSH (l : List Int) (i : Nat) : List Int := (l.drop (32 * i)).take 32
theorem HSH_length {l : List Int} {n i : Nat} (hl : l.length = 32 * n) (hi : i < n) : (HSH l i).length = 32 := by
  unfold HSH
  rw [List.length_take, List.length_drop]
  omega
theorem HSH_at {l : List Int} {i j : Nat} (hj : j < 32) : (HSH l i).getD j 0 = l.getD (32 * i + j) 0 := by
  unfold HSH
  rw [List.getD_eq_getElem?_getD, List.getElem?_take, if_pos hj, List.getElem?_drop, List.getD_eq_getElem?_getD]
theorem HSH_mem {l : List Int} {i : Nat} {x : Int} (h : x ∈ HSH l i) : x ∈ l := List.mem_of_mem_drop (List.mem_of_mem_take h)
theorem HSH_next (l : List Int) (i : Nat) : l.take (32 * (i + 1)) = l.take (32 * i) ++ HSH l i := by
  unfold HSH
  rw [show 32 * (i + 1) = 32 * i + 32 by omega, List.take_add]
theorem info_hash32 : (Tryd.prog.info? 82).map (·.size) = some 32 := by kernel_rfl
theorem info_cells {h : List Int} (hl : h.length = 32) : (Tryd.prog.info? 82).map (·.size) = some (CELLS h).length := by
  rw [info_hash32, show (CELLS h).length = 32 by simp [CELLS, hl]]
theorem info_arr {h : List Int} (hl : h.length = 32) : (Tryd.prog.info? 82).map (·.size) = some (CELLS h).toArray.size := by
  rw [info_hash32, show (CELLS h).toArray.size = 32 by simp [CELLS, hl]]
theorem cells_one (h : List Int) : (CELLS h).toArray.all (·.oneCell') = true := by
  rw [Array.all_eq_true_iff_forall_mem]
  intro v hv
  exact CELLS_one h v (by simpa using hv)
theorem Flat.at {w : World} {b o n : Nat} {l : List Int} {i : Nat} (h : Flat w (some ⟨b, o, none⟩) n l) (hi : i < n) : w.rangeAt b (o + i * 32) (CELLS (HSH l i)) := by
  intro j v hv
  obtain ⟨b', o', e, _, hc⟩ := h.2.1 (by omega)
  simp only [Option.some.injEq, Addr.mk.injEq] at e
  obtain ⟨rfl, rfl, _⟩ := e
  have hj : j < 32 := by
    have := (List.getElem?_eq_some_iff.1 hv).1
    rw [show (CELLS (HSH l i)).length = 32 by simp [CELLS, HSH_length h.1 hi]] at this
    exact this
  rw [CELLS_get _ _ (by rw [HSH_length h.1 hi]; exact hj), HSH_at hj] at hv
  rw [show o + i * 32 + j = o + (32 * i + j) by omega, hc _ (by omega)]
  exact hv
/-- a box that holds a hash reads as its bytes. -/
theorem box_bytes (w : World) {h : List Int} (hl : h.length = 32) (hr : ∀ x ∈ h, 0 ≤ x ∧ x ≤ 255) (t : TypeId) : Bytes (w.alloc (.cells (CELLS h).toArray t)) (some ⟨w.heap.size, 0, none⟩) 32 h := by
  refine ⟨hl, fun _ => ⟨w.heap.size, 0, rfl, by simp, fun i hi => ?_⟩, hr⟩
  rw [Nat.zero_add, World.cell?_alloc_at _ _ _ _ rfl, List.getElem?_toArray, CELLS_get h i (by omega)]
theorem own_one (w : World) (x : Int) : (w.alloc (.cells #[.int .u8 x] 5)).ownsRow w.heap.size 5 1 (.slice (some ⟨w.heap.size, 0, none⟩) 1 1) 1 (CELLS [x]) :=
  World.ownsRow_lit w #[.int .u8 x] 1 (Nat.le_refl _) (by simp [maxLen]) rfl
theorem own_len {w : World} {base n : Nat} {v : Value} {l : List Int} (h : w.ownsRow base 5 1 v n (CELLS l)) : l.length = n := by
  have := h.1
  simpa [CELLS] using this

set_option maxHeartbeats 1000000 in
theorem written_ok (k : Int) (X Y : Nat) (hX : X < 2 ^ 64) (hY : Y < 2 ^ 64) (a : Option Addr) (n c : Nat) (hn : n ≤ 1000) (l : List Int) (w : World) (hF : Flat w a n l) :
    Calls Tryd.prog 52 #[.int .u8 k, .int .u64 (X : Int), .int .u64 (Y : Int), .slice a n c] w fun e w' => ∃ v, e = .returned v ∧ w'.ownsRow w.heap.size 5 1 v (k :: (SHORT X ++ SHORT Y ++ l)).length (CELLS (k :: (SHORT X ++ SHORT Y ++ l))) ∧ Below w.heap.size w w' := by
  have c1 := short_ok X hX
  have c2 := short_ok Y hY
  have hl1 := SHORT_length X
  have hl2 := SHORT_length Y
  have h91 := NTOP_le X
  have h92 := NTOP_le Y
  have hr1 := SHORT_range hX
  have hr2 := SHORT_range hY
  obtain ⟨L, hL⟩ : ∃ L, k :: (SHORT X ++ SHORT Y ++ l) = L := ⟨_, rfl⟩
  rw [hL]
  obtain ⟨N, hN⟩ : ∃ N, L.length = N := ⟨_, rfl⟩
  rw [hN]
  generalize SHORT X = SX at *
  generalize SHORT Y = SY at *
  have hn1 : 0 < NTOP X + 1 := by omega
  have hn2 : 0 < NTOP Y + 1 := by omega
  have hm1 : NTOP X + 1 ≤ 10 := by omega
  have hm2 : NTOP Y + 1 ≤ 10 := by omega
  clear h91 h92
  generalize NTOP X + 1 = nx at *
  generalize NTOP Y + 1 = ny at *
  have HA : Aside (Flat w a n l ∧ n ≤ 1000 ∧ SX.length = nx ∧ SY.length = ny ∧ nx ≤ 10 ∧ ny ≤ 10 ∧ (∀ x ∈ SX, 0 ≤ x ∧ x ≤ 255) ∧ (∀ x ∈ SY, 0 ≤ x ∧ x ≤ 255)) := ⟨hF, hn, hl1, hl2, hm1, hm2, hr1, hr2⟩
  have HL : Aside ([k] ++ SX ++ SY ++ l = L ∧ L.length = N) := ⟨by rw [← hL]; simp, hN⟩
  clear hF hn hl1 hl2 hm1 hm2 hr1 hr2 hL hN hX hY
  go_enter Tryd.func52, Tryd.ntmps52
  go_wp2_with fail
  have R0 : Aside ((w.alloc (.cells #[.int .u8 k] 5)).ownsRow w.heap.size 5 1 (.slice (some ⟨w.heap.size, 0, none⟩) 1 1) 1 (CELLS [k]) ∧ Below w.heap.size w (w.alloc (.cells #[.int .u8 k] 5))) := ⟨own_one w k, (Below.refl _ _).alloc (Nat.le_refl _) _⟩
  generalize w.alloc (.cells #[.int .u8 k] 5) = w1 at *
  refine (c1 _).mono ?_
  rintro e w2 ⟨g, cap, rfl, hown, hg, hb⟩
  clear c1
  have R1 : Aside (w2.ownsRow w.heap.size 5 1 (.slice (some ⟨w.heap.size, 0, none⟩) 1 1) 1 (CELLS [k]) ∧ Below w.heap.size w w2 ∧ Bytes w2 (some ⟨g, 0, none⟩) nx SX) := ⟨own_below R0.out.1 hb, R0.out.2.trans (hb.mono R0.out.2.size), own_bytes hown hg HA.out.2.2.2.2.2.2.1⟩
  clear hown hg hb R0
  go_wp2_with (at_builtin; refine app_u8 _ rfl (.tmp 14) (.tmp 16) rfl w.heap.size _ 1 [k] rfl R1.out.1 g 0 nx cap SX rfl R1.out.2.2 hn1 (by have := HA.out.2.2.2.2.1; omega) R1.out.2.1.size ?_; intro g3 cap3 w3 hown hgrow hg)
  have R2 : Aside (w3.ownsRow w.heap.size 5 1 (.slice (some ⟨g3, 0, none⟩) (1 + nx) cap3) (1 + nx) (CELLS ([k] ++ SX)) ∧ Below w.heap.size w w3) := ⟨hown, R1.out.2.1.grown hgrow R1.out.2.1.size (fun k e => (R1.out.1.lt k e).1)⟩
  clear hown hgrow hg R1
  refine (c2 _).mono ?_
  rintro e w4 ⟨g4, cap4, rfl, hown, hg, hb⟩
  clear c2
  have R3 : Aside (w4.ownsRow w.heap.size 5 1 (.slice (some ⟨g3, 0, none⟩) (1 + nx) cap3) (1 + nx) (CELLS ([k] ++ SX)) ∧ Below w.heap.size w w4 ∧ Bytes w4 (some ⟨g4, 0, none⟩) ny SY) := ⟨own_below R2.out.1 hb, R2.out.2.trans (hb.mono R2.out.2.size), own_bytes hown hg HA.out.2.2.2.2.2.2.2⟩
  clear hown hg hb R2
  go_wp2_with (at_builtin; refine app_u8 _ rfl (.tmp 18) (.tmp 20) rfl w.heap.size _ (1 + nx) ([k] ++ SX) rfl R3.out.1 g4 0 ny cap4 SY rfl R3.out.2.2 hn2 (by have := HA.out.2.2.2.2; omega) R3.out.2.1.size ?_; intro g5 cap5 w5 hown hgrow hg)
  have R4 : Aside (w5.ownsRow w.heap.size 5 1 (.slice (some ⟨g5, 0, none⟩) (1 + nx + ny) cap5) (1 + nx + ny) (CELLS ([k] ++ SX ++ SY)) ∧ Below w.heap.size w w5) := ⟨hown, R3.out.2.1.grown hgrow R3.out.2.1.size (fun k e => (R3.out.1.lt k e).1)⟩
  clear hown hgrow hg R3
  have HP : Aside (1 + nx + ny ≤ 21) := by
    obtain ⟨_, _, _, _, h5, h6, _⟩ := HA.out
    show 1 + nx + ny ≤ 21
    omega
  generalize [k] ++ SX ++ SY = PRE at *
  generalize 1 + nx + ny = np at *
  go_loopg [9, 24] n (fun q s9 s24 wx => ∃ i : Nat, s24 = .int .i64 (i : Int) ∧ Aside (i + q = n ∧ wx.ownsRow w.heap.size 5 1 s9 (np + 32 * i) (CELLS (PRE ++ l.take (32 * i))) ∧ Below w.heap.size w wx))
  case atStart => exact ⟨0, rfl, by omega, by simpa using R4.out.1, R4.out.2⟩
  case round =>
    obtain ⟨i, rfl, A⟩ := hrel
    clear R4
    cases gk with
    | zero =>
      obtain ⟨hi, hown, hbel⟩ := A.out
      obtain rfl : i = n := by omega
      have hlt : ¬ (i : Int) < (i : Int) := by omega
      have R : Aside (wr.ownsRow w.heap.size 5 1 u9 N (CELLS L) ∧ Below w.heap.size w wr) := by
        rw [List.take_of_length_le (by have := HA.out.1.1; omega), HL.out.1] at hown
        have := own_len hown
        rw [HL.out.2] at this
        rw [← this] at hown
        exact ⟨hown, hbel⟩
      clear hi hown hbel A HA HL HP
      go_wp2
      go_ret
      exact ⟨_, rfl, R.out.1, R.out.2⟩
    | succ q =>
      obtain ⟨hi, hown, hbel⟩ := A.out
      obtain ⟨a1, a2, _⟩ := HA.out
      have hlt : (i : Int) < (n : Int) := by omega
      obtain ⟨b, o, rfl, hbl, hc⟩ := a1.2.1 (by omega)
      have hat := (a1.below hbel).at (show i < n by omega)
      have h32 := HSH_length a1.1 (show i < n by omega)
      have hrr : ∀ x ∈ HSH l i, 0 ≤ x ∧ x ≤ 255 := fun x hx => a1.2.2 x (HSH_mem hx)
      have hnx := HSH_next l i
      have e1 : wrap64 ((i : Int) + 1) = ((i + 1 : Nat) : Int) := by unfold wrap64; omega
      have R : Aside (i + 1 + q = n ∧ n ≤ 1000 ∧ np ≤ 21 ∧ wr.ownsRow w.heap.size 5 1 u9 (np + 32 * i) (CELLS (PRE ++ l.take (32 * i))) ∧ Below w.heap.size w wr ∧ (HSH l i).length = 32 ∧ (∀ x ∈ HSH l i, 0 ≤ x ∧ x ≤ 255) ∧ PRE ++ l.take (32 * (i + 1)) = PRE ++ l.take (32 * i) ++ HSH l i) := ⟨by omega, a2, HP.out, hown, hbel, h32, hrr, by rw [hnx, List.append_assoc]⟩
      generalize HSH l i = H at *
      clear hi hown hbel a1 a2 hbl hc hrr hnx A HA HL HP
      go_wp2_with (first
        | (refine wpList_load_mid rfl 82 (.tmp 26) rfl b (o + i * 32) rfl (CELLS H) _ hat Tryd.underlying82 rfl (info_cells h32) ?_)
        | (refine wpList_store_row rfl 82 (.tmp 11) (.tmp 27) rfl _ _ rfl rfl 82 _ (Has.new wr _ _) (info_arr h32) (by simp [CELLS, h32]) (cells_one H) ?_; rw [World.setRow_alloc_new])
        | (at_builtin; refine app_u8 _ rfl (.tmp 28) (.tmp 29) rfl w.heap.size u9 (np + 32 * i) _ rfl (R.out.2.2.2.1.alloc _) wr.heap.size 0 32 32 H rfl (box_bytes wr R.out.2.2.2.2.2.1 R.out.2.2.2.2.2.2.1 _) (by omega) (by have := R.out; omega) (by have := R.out.2.2.2.2.1.size; simp; omega) ?_; intro g6 cap6 w6 hown hgrow hg))
      have R2 : Aside (i + 1 + q = n ∧ w6.ownsRow w.heap.size 5 1 (.slice (some ⟨g6, 0, none⟩) (np + 32 * i + 32) cap6) (np + 32 * (i + 1)) (CELLS (PRE ++ l.take (32 * (i + 1)))) ∧ Below w.heap.size w w6) := by
        obtain ⟨r1, r2, r3, r4, r5, r6, r7, r8⟩ := R.out
        refine ⟨r1, ?_, (r5.alloc r5.size _).grown hgrow (by have := r5.size; simp; omega) (fun k e => (r4.lt k e).1)⟩
        rw [r8, show np + 32 * (i + 1) = np + 32 * i + 32 by omega]
        exact hown
      clear hown hgrow hg R hat h32
      go_wp2
      go_roundg q
      case measure => omega
      case rel => exact ⟨i + 1, by first | rfl | (rw [e1]), R2.out⟩
end Go.Proofs.YtddmfpiflnjmjaaDoor
