/- Texts of ProofWrites, one behind the other: ProofBytes, ProofEncode. -/
import Derived.Deep.MidRow
import Derived.Test.YtfjmbfppilfepaaDoorProofWritesP2
import Derived.Test.YtfjmbfppilfepaaDoorProofWritesP14
/- What written, Encode and EncodePrefix of package proof answer. -/
namespace Go.Proofs.YtfjmbfppilfepaaDoor
open Go.RowKit
set_option maxRecDepth 100000

/-- so many hashes lie there, told as their bytes, one behind the other. -/
def Flat (w : World) (a : Option Addr) (n : Nat) (l : List Int) : Prop :=
  l.length = 32 * n ∧ (0 < n → ∃ b o, a = some ⟨b, o, none⟩ ∧ b < w.heap.size ∧ ∀ j, j < 32 * n → w.cell? ⟨b, o + j, none⟩ = some (.int .u8 (l.getD j 0))) ∧ ∀ x ∈ l, 0 ≤ x ∧ x ≤ 255
theorem Flat.below {w w' : World} {a : Option Addr} {n : Nat} {l : List Int} (h : Flat w a n l) (hb : Below w.heap.size w w') : Flat w' a n l :=
  ⟨h.1, fun hn => by
    obtain ⟨b, o, e, hl, hc⟩ := h.2.1 hn
    exact ⟨b, o, e, Nat.lt_of_lt_of_le hl hb.size, fun i hi => (hb.cell (by exact hl)).trans (hc i hi)⟩, h.2.2⟩
/-- the bytes of the i-th hash. -/
def HSH (l : List Int) (i : Nat) : List Int := (l.drop (32 * i)).take 32
theorem HSH_length {l : List Int} {n i : Nat} (hl : l.length = 32 * n) (hi : i < n) : (HSH l i).length = 32 := by
  unfold HSH
  rw [List.length_take, List.length_drop]
  omega
theorem HSH_at {l : List Int} {i j : Nat} (hj : j < 32) : (HSH l i).getD j 0 = l.getD (32 * i + j) 0 := by
  unfold HSH
  rw [List.getD_eq_getElem?_getD, List.getElem?_take, if_pos hj, List.getElem?_drop, List.getD_eq_getElem?_getD]
theorem HSH_mem {l : List Int} {i : Nat} {x : Int} (h : x ∈ HSH l i) : x ∈ l := List.mem_of_mem_drop (List.mem_of_mem_take h)
theorem HSH_next (l : List Int) (i : Nat) : l.take (32 * (i + 1)) = l.take (32 * i) ++ HSH l i := by
  unfold HSH
  rw [show 32 * (i + 1) = 32 * i + 32 by omega, List.take_add]
theorem info_hash32 : (Tryd.prog.info? 53).map (·.size) = some 32 := by kernel_rfl
theorem info_cells {h : List Int} (hl : h.length = 32) : (Tryd.prog.info? 53).map (·.size) = some (CELLS h).length := by
  rw [info_hash32, show (CELLS h).length = 32 by simp [CELLS, hl]]
theorem info_arr {h : List Int} (hl : h.length = 32) : (Tryd.prog.info? 53).map (·.size) = some (CELLS h).toArray.size := by
  rw [info_hash32, show (CELLS h).toArray.size = 32 by simp [CELLS, hl]]
theorem cells_one (h : List Int) : (CELLS h).toArray.all (·.oneCell') = true := by
  rw [Array.all_eq_true_iff_forall_mem]
  intro v hv
  exact CELLS_one h v (by simpa using hv)
theorem Flat.at {w : World} {b o n : Nat} {l : List Int} {i : Nat} (h : Flat w (some ⟨b, o, none⟩) n l) (hi : i < n) : w.rangeAt b (o + i * 32) (CELLS (HSH l i)) := by
  intro j v hv
  obtain ⟨b', o', e, _, hc⟩ := h.2.1 (by omega)
  simp only [Option.some.injEq, Addr.mk.injEq] at e
  obtain ⟨rfl, rfl, _⟩ := e
  have hj : j < 32 := by
    have := (List.getElem?_eq_some_iff.1 hv).1
    rw [show (CELLS (HSH l i)).length = 32 by simp [CELLS, HSH_length h.1 hi]] at this
    exact this
  rw [CELLS_get _ _ (by rw [HSH_length h.1 hi]; exact hj), HSH_at hj] at hv
  rw [show o + i * 32 + j = o + (32 * i + j) by omega, hc _ (by omega)]
  exact hv
/-- a box that holds a hash reads as its bytes. -/
theorem box_bytes (w : World) {h : List Int} (hl : h.length = 32) (hr : ∀ x ∈ h, 0 ≤ x ∧ x ≤ 255) (t : TypeId) : Bytes (w.alloc (.cells (CELLS h).toArray t)) (some ⟨w.heap.size, 0, none⟩) 32 h := by
  refine ⟨hl, fun _ => ⟨w.heap.size, 0, rfl, by simp, fun i hi => ?_⟩, hr⟩
  rw [Nat.zero_add, World.cell?_alloc_at _ _ _ _ rfl, List.getElem?_toArray, CELLS_get h i (by omega)]
theorem own_one (w : World) (x : Int) : (w.alloc (.cells #[.int .u8 x] 5)).ownsRow w.heap.size 5 1 (.slice (some ⟨w.heap.size, 0, none⟩) 1 1) 1 (CELLS [x]) :=
  World.ownsRow_lit w #[.int .u8 x] 1 (Nat.le_refl _) (by simp [maxLen]) rfl
theorem own_len {w : World} {base n : Nat} {v : Value} {l : List Int} (h : w.ownsRow base 5 1 v n (CELLS l)) : l.length = n := by
  have := h.1
  simpa [CELLS] using this

set_option maxHeartbeats 1000000 in
theorem written_ok (k : Int) (X Y : Nat) (hX : X < 2 ^ 64) (hY : Y < 2 ^ 64) (a : Option Addr) (n c : Nat) (hn : n ≤ 1000) (l : List Int) (w : World) (hF : Flat w a n l) :
    Calls Tryd.prog 31 #[.int .u8 k, .int .u64 (X : Int), .int .u64 (Y : Int), .slice a n c] w fun e w' => ∃ v, e = .returned v ∧ w'.ownsRow w.heap.size 5 1 v (k :: (SHORT X ++ SHORT Y ++ l)).length (CELLS (k :: (SHORT X ++ SHORT Y ++ l))) ∧ Below w.heap.size w w' := by
  have c1 := short_ok X hX
  have c2 := short_ok Y hY
  have hl1 := SHORT_length X
  have hl2 := SHORT_length Y
  have h91 := NTOP_le X
  have h92 := NTOP_le Y
  have hr1 := SHORT_range hX
  have hr2 := SHORT_range hY
  obtain ⟨L, hL⟩ : ∃ L, k :: (SHORT X ++ SHORT Y ++ l) = L := ⟨_, rfl⟩
  rw [hL]
  obtain ⟨N, hN⟩ : ∃ N, L.length = N := ⟨_, rfl⟩
  rw [hN]
  generalize SHORT X = SX at *
  generalize SHORT Y = SY at *
  have hn1 : 0 < NTOP X + 1 := by omega
  have hn2 : 0 < NTOP Y + 1 := by omega
  have hm1 : NTOP X + 1 ≤ 10 := by omega
  have hm2 : NTOP Y + 1 ≤ 10 := by omega
  clear h91 h92
  generalize NTOP X + 1 = nx at *
  generalize NTOP Y + 1 = ny at *
  have HA : Aside (Flat w a n l ∧ n ≤ 1000 ∧ SX.length = nx ∧ SY.length = ny ∧ nx ≤ 10 ∧ ny ≤ 10 ∧ (∀ x ∈ SX, 0 ≤ x ∧ x ≤ 255) ∧ (∀ x ∈ SY, 0 ≤ x ∧ x ≤ 255)) := ⟨hF, hn, hl1, hl2, hm1, hm2, hr1, hr2⟩
  have HL : Aside ([k] ++ SX ++ SY ++ l = L ∧ L.length = N) := ⟨by rw [← hL]; simp, hN⟩
  clear hF hn hl1 hl2 hm1 hm2 hr1 hr2 hL hN hX hY
  go_enter Tryd.func31, Tryd.ntmps31
  go_wp2_with fail
  have R0 : Aside ((w.alloc (.cells #[.int .u8 k] 5)).ownsRow w.heap.size 5 1 (.slice (some ⟨w.heap.size, 0, none⟩) 1 1) 1 (CELLS [k]) ∧ Below w.heap.size w (w.alloc (.cells #[.int .u8 k] 5))) := ⟨own_one w k, (Below.refl _ _).alloc (Nat.le_refl _) _⟩
  generalize w.alloc (.cells #[.int .u8 k] 5) = w1 at *
  refine (c1 _).mono ?_
  rintro e w2 ⟨g, cap, rfl, hown, hg, hb⟩
  clear c1
  have R1 : Aside (w2.ownsRow w.heap.size 5 1 (.slice (some ⟨w.heap.size, 0, none⟩) 1 1) 1 (CELLS [k]) ∧ Below w.heap.size w w2 ∧ Bytes w2 (some ⟨g, 0, none⟩) nx SX) := ⟨own_below R0.out.1 hb, R0.out.2.trans (hb.mono R0.out.2.size), own_bytes hown hg HA.out.2.2.2.2.2.2.1⟩
  clear hown hg hb R0
  go_wp2_with (at_builtin; refine app_u8 _ rfl (.tmp 14) (.tmp 16) rfl w.heap.size _ 1 [k] rfl R1.out.1 g 0 nx cap SX rfl R1.out.2.2 hn1 (by have := HA.out.2.2.2.2.1; omega) R1.out.2.1.size ?_; intro g3 cap3 w3 hown hgrow hg)
  have R2 : Aside (w3.ownsRow w.heap.size 5 1 (.slice (some ⟨g3, 0, none⟩) (1 + nx) cap3) (1 + nx) (CELLS ([k] ++ SX)) ∧ Below w.heap.size w w3) := ⟨hown, R1.out.2.1.grown hgrow R1.out.2.1.size (fun k e => (R1.out.1.lt k e).1)⟩
  clear hown hgrow hg R1
  refine (c2 _).mono ?_
  rintro e w4 ⟨g4, cap4, rfl, hown, hg, hb⟩
  clear c2
  have R3 : Aside (w4.ownsRow w.heap.size 5 1 (.slice (some ⟨g3, 0, none⟩) (1 + nx) cap3) (1 + nx) (CELLS ([k] ++ SX)) ∧ Below w.heap.size w w4 ∧ Bytes w4 (some ⟨g4, 0, none⟩) ny SY) := ⟨own_below R2.out.1 hb, R2.out.2.trans (hb.mono R2.out.2.size), own_bytes hown hg HA.out.2.2.2.2.2.2.2⟩
  clear hown hg hb R2
  go_wp2_with (at_builtin; refine app_u8 _ rfl (.tmp 18) (.tmp 20) rfl w.heap.size _ (1 + nx) ([k] ++ SX) rfl R3.out.1 g4 0 ny cap4 SY rfl R3.out.2.2 hn2 (by have := HA.out.2.2.2.2; omega) R3.out.2.1.size ?_; intro g5 cap5 w5 hown hgrow hg)
  have R4 : Aside (w5.ownsRow w.heap.size 5 1 (.slice (some ⟨g5, 0, none⟩) (1 + nx + ny) cap5) (1 + nx + ny) (CELLS ([k] ++ SX ++ SY)) ∧ Below w.heap.size w w5) := ⟨hown, R3.out.2.1.grown hgrow R3.out.2.1.size (fun k e => (R3.out.1.lt k e).1)⟩
  clear hown hgrow hg R3
  have HP : Aside (1 + nx + ny ≤ 21) := by
    obtain ⟨_, _, _, _, h5, h6, _⟩ := HA.out
    show 1 + nx + ny ≤ 21
    omega
  generalize [k] ++ SX ++ SY = PRE at *
  generalize 1 + nx + ny = np at *
  go_loopg [9, 24] n (fun q s9 s24 wx => ∃ i : Nat, s24 = .int .i64 (i : Int) ∧ Aside (i + q = n ∧ wx.ownsRow w.heap.size 5 1 s9 (np + 32 * i) (CELLS (PRE ++ l.take (32 * i))) ∧ Below w.heap.size w wx))
  case atStart => exact ⟨0, rfl, by omega, by simpa using R4.out.1, R4.out.2⟩
  case round =>
    obtain ⟨i, rfl, A⟩ := hrel
    clear R4
    cases gk with
    | zero =>
      obtain ⟨hi, hown, hbel⟩ := A.out
      obtain rfl : i = n := by omega
      have hlt : ¬ (i : Int) < (i : Int) := by omega
      have R : Aside (wr.ownsRow w.heap.size 5 1 u9 N (CELLS L) ∧ Below w.heap.size w wr) := by
        rw [List.take_of_length_le (by have := HA.out.1.1; omega), HL.out.1] at hown
        have := own_len hown
        rw [HL.out.2] at this
        rw [← this] at hown
        exact ⟨hown, hbel⟩
      clear hi hown hbel A HA HL HP
      go_wp2
      go_ret
      exact ⟨_, rfl, R.out.1, R.out.2⟩
    | succ q =>
      obtain ⟨hi, hown, hbel⟩ := A.out
      obtain ⟨a1, a2, _⟩ := HA.out
      have hlt : (i : Int) < (n : Int) := by omega
      obtain ⟨b, o, rfl, hbl, hc⟩ := a1.2.1 (by omega)
      have hat := (a1.below hbel).at (show i < n by omega)
      have h32 := HSH_length a1.1 (show i < n by omega)
      have hrr : ∀ x ∈ HSH l i, 0 ≤ x ∧ x ≤ 255 := fun x hx => a1.2.2 x (HSH_mem hx)
      have hnx := HSH_next l i
      have e1 : wrap64 ((i : Int) + 1) = ((i + 1 : Nat) : Int) := by unfold wrap64; omega
      have R : Aside (i + 1 + q = n ∧ n ≤ 1000 ∧ np ≤ 21 ∧ wr.ownsRow w.heap.size 5 1 u9 (np + 32 * i) (CELLS (PRE ++ l.take (32 * i))) ∧ Below w.heap.size w wr ∧ (HSH l i).length = 32 ∧ (∀ x ∈ HSH l i, 0 ≤ x ∧ x ≤ 255) ∧ PRE ++ l.take (32 * (i + 1)) = PRE ++ l.take (32 * i) ++ HSH l i) := ⟨by omega, a2, HP.out, hown, hbel, h32, hrr, by rw [hnx, List.append_assoc]⟩
      generalize HSH l i = H at *
      clear hi hown hbel a1 a2 hbl hc hrr hnx A HA HL HP
      go_wp2_with (first
        | (refine wpList_load_mid rfl 53 (.tmp 26) rfl b (o + i * 32) rfl (CELLS H) _ hat Tryd.underlying53 rfl (info_cells h32) ?_)
        | (refine wpList_store_row rfl 53 (.tmp 11) (.tmp 27) rfl _ _ rfl rfl 53 _ (Has.new wr _ _) (info_arr h32) (by simp [CELLS, h32]) (cells_one H) ?_; rw [World.setRow_alloc_new])
        | (at_builtin; refine app_u8 _ rfl (.tmp 28) (.tmp 29) rfl w.heap.size u9 (np + 32 * i) _ rfl (R.out.2.2.2.1.alloc _) wr.heap.size 0 32 32 H rfl (box_bytes wr R.out.2.2.2.2.2.1 R.out.2.2.2.2.2.2.1 _) (by omega) (by have := R.out; omega) (by have := R.out.2.2.2.2.1.size; simp; omega) ?_; intro g6 cap6 w6 hown hgrow hg))
      have R2 : Aside (i + 1 + q = n ∧ w6.ownsRow w.heap.size 5 1 (.slice (some ⟨g6, 0, none⟩) (np + 32 * i + 32) cap6) (np + 32 * (i + 1)) (CELLS (PRE ++ l.take (32 * (i + 1)))) ∧ Below w.heap.size w w6) := by
        obtain ⟨r1, r2, r3, r4, r5, r6, r7, r8⟩ := R.out
        refine ⟨r1, ?_, (r5.alloc r5.size _).grown hgrow (by have := r5.size; simp; omega) (fun k e => (r4.lt k e).1)⟩
        rw [r8, show np + 32 * (i + 1) = np + 32 * i + 32 by omega]
        exact hown
      clear hown hgrow hg R hat h32
      go_wp2
      go_roundg q
      case measure => omega
      case rel => exact ⟨i + 1, by first | rfl | (rw [e1]), R2.out⟩
end Go.Proofs.YtfjmbfppilfepaaDoor

/- What Encode and EncodePrefix answer, of any proof; the law's awake. -/
namespace Go.Proofs.YtfjmbfppilfepaaDoor
open Go.RowKit
set_option maxRecDepth 100000

/-- what Places answers: the error, the places. -/
def PLA (i n : Nat) : Int × List Nat := if 4611686018427387904 < n then (30, []) else if n ≤ i then (32, []) else (0, PLCS (PSP i n))
/-- what PrefixPlaces answers. -/
def PPA (m n : Nat) : Int × List Nat := if 4611686018427387904 < n ∨ n < m then (30, []) else (0, PLCS (PXS m n))
theorem PLA_few (i n : Nat) : (PLA i n).2.length ≤ 188 := by
  unfold PLA
  split
  · simp
  · split
    · simp
    · have := PSP_few (i := i) (n := n) (by omega) (by omega)
      simp only [PLCS_length]
      omega
theorem PPA_few (m n : Nat) : (PPA m n).2.length ≤ 188 := by
  unfold PPA
  split
  · simp
  · have := PXS_length (m := m) (n := n) (by omega) (by omega)
    simp only [PLCS_length]
    omega
theorem nil_row (w : World) : w.ownsRow w.heap.size 22 1 (.slice none 0 0) ([] : List Nat).length (UCELLS []) := World.ownsRow_nil _ _ _ _
theorem pla_ok (i n : Nat) (w : World) (hT : Tabled w) (h0 : 0 < w.heap.size) : Calls Tryd.prog 30 #[.int .u64 (i : Int), .int .u64 (n : Int)] w fun e w' =>
    ∃ v, e = .returned (.tuple #[v, .int .i64 (PLA i n).1]) ∧ w'.ownsRow w.heap.size 22 1 v (PLA i n).2.length (UCELLS (PLA i n).2) ∧ Below w.heap.size w w' := by
  unfold PLA
  split
  · refine (places_size _ _ (by omega) w).mono ?_
    rintro e w' ⟨rfl, rfl⟩
    exact ⟨_, rfl, nil_row w, Below.refl _ _⟩
  · split
    · refine (places_index _ _ (by omega) (by omega) w).mono ?_
      rintro e w' ⟨rfl, rfl⟩
      exact ⟨_, rfl, nil_row w, Below.refl _ _⟩
    · exact places_ok i n (by omega) (by omega) w hT h0
theorem ppa_ok (m n : Nat) (w : World) (hT : Tabled w) (h0 : 0 < w.heap.size) : Calls Tryd.prog 37 #[.int .u64 (m : Int), .int .u64 (n : Int)] w fun e w' =>
    ∃ v, e = .returned (.tuple #[v, .int .i64 (PPA m n).1]) ∧ w'.ownsRow w.heap.size 22 1 v (PPA m n).2.length (UCELLS (PPA m n).2) ∧ Below w.heap.size w w' := by
  unfold PPA
  split
  · refine (prefixplaces_not _ _ (by omega) w).mono ?_
    rintro e w' ⟨rfl, rfl⟩
    exact ⟨_, rfl, nil_row w, Below.refl _ _⟩
  · exact prefixplaces_ok m n (by omega) (by omega) w hT h0
/-- the bytes of a proof that needs P nodes (or none, by the error E) and has n, or what is wrong. -/
def ENCB (k E : Int) (P n X Y : Nat) (l : List Int) : Int × List Int := if E ≠ 0 then (E, []) else if n ≠ P then (70, []) else (0, k :: (SHORT X ++ SHORT Y ++ l))
/-- what Encode answers. -/
def ENC (S I n : Nat) (l : List Int) : Int × List Int := ENCB 77 (PLA I S).1 (PLA I S).2.length n S I l
/-- what EncodePrefix answers. -/
def ENX (F S n : Nat) (l : List Int) : Int × List Int := ENCB 80 (PPA F S).1 (PPA F S).2.length n F S l
theorem nil_bytes (w : World) : w.ownsRow w.heap.size 5 1 (.slice none 0 0) ([] : List Int).length (CELLS []) := World.ownsRow_nil _ _ _ _
theorem nil_bytes' (w : World) (b : Nat) : w.ownsRow b 5 1 (.slice none 0 0) ([] : List Int).length (CELLS []) := World.ownsRow_nil _ _ _ _
/-- an error and bytes of one's own are answered. -/
def ANSB (w : World) (A : Int × List Int) (e : Ending) (w' : World) : Prop := ∃ v, e = .returned (.tuple #[v, .int .i64 A.1]) ∧ w'.ownsRow w.heap.size 5 1 v A.2.length (CELLS A.2) ∧ Below w.heap.size w w'
set_option maxHeartbeats 1000000 in
theorem encode_raw (X Y E : Int) (a : Option Addr) (n c np : Nat) (P : List Nat) (L : List Int) (hnp : P.length = np) (w : World)
    (C1 : Aside (∀ W, Below w.heap.size w W → Calls Tryd.prog 30 #[.int .u64 Y, .int .u64 X] W fun e w' => ∃ v, e = .returned (.tuple #[v, .int .i64 E]) ∧ w'.ownsRow W.heap.size 22 1 v np (UCELLS P) ∧ Below W.heap.size W w'))
    (C2 : Aside (∀ W, Below w.heap.size w W → Calls Tryd.prog 31 #[.int .u8 77, .int .u64 X, .int .u64 Y, .slice a n c] W fun e w' => ∃ v, e = .returned v ∧ w'.ownsRow W.heap.size 5 1 v L.length (CELLS L) ∧ Below W.heap.size W w')) :
    Calls Tryd.prog 8 #[.agg #[.int .u64 X, .int .u64 Y, .slice a n c]] w (ANSB w (if E ≠ 0 then (E, []) else if n ≠ np then (70, []) else (0, L))) := by
  obtain ⟨A, hA⟩ : ∃ A, (if E ≠ 0 then (E, []) else if n ≠ np then (70, []) else (0, L)) = A := ⟨_, rfl⟩
  rw [hA]
  have HA : Aside ((if E ≠ 0 then (E, []) else if n ≠ np then (70, []) else (0, L)) = A) := hA
  clear hA
  obtain ⟨nl, hnl⟩ : ∃ nl, L.length = nl := ⟨_, rfl⟩
  rw [hnl] at C2
  have HN : Aside (L.length = nl) := hnl
  have HP : Aside (P.length = np) := hnp
  clear hnl hnp
  go_enter Tryd.func8, Tryd.ntmps8
  go_wp2_with fail
  have hH := Has.new w #[.int .u64 X, .int .u64 Y, .slice a n c] 25
  have hB : Aside (Below w.heap.size w (w.alloc (.cells #[.int .u64 X, .int .u64 Y, .slice a n c] 25))) := (Below.refl _ _).alloc (Nat.le_refl _) _
  refine (C1.out _ hB.out).mono ?_
  rintro e w1 ⟨v, rfl, hrow, hb⟩
  have hH := hH.keep hb
  have hz0 : w1.cell? ⟨w.heap.size, 0, none⟩ = some (.int .u64 X) := hH.cell 0
  have hz1 : w1.cell? ⟨w.heap.size, 1, none⟩ = some (.int .u64 Y) := hH.cell 1
  have hz2 : w1.cell? ⟨w.heap.size, 2, none⟩ = some (.slice a n c) := hH.cell 2
  have R : Aside (Below w.heap.size w w1) := hB.out.trans (hb.mono hB.out.size)
  obtain ⟨av, cv, rfl, _⟩ := own_slice hrow
  clear hrow hb hH hB C1
  by_cases hE : E = 0
  · subst hE
    by_cases hn : n = np
    · subst hn
      go_wp2_with fail
      refine (C2.out _ R.out).mono ?_
      rintro e w2 ⟨v, rfl, hrow, hb⟩
      have R2 : Aside (w2.ownsRow w.heap.size 5 1 v nl (CELLS L) ∧ Below w.heap.size w w2) := ⟨own_mono hrow R.out.size, R.out.trans (hb.mono R.out.size)⟩
      clear hrow hb C2 hz0 hz1 hz2 R
      go_wp2
      go_ret2
      have e : (0, L) = A := by have := HA.out; simpa using this
      rw [← e]
      refine ⟨v, rfl, ?_, R2.out.2⟩
      show w2.ownsRow w.heap.size 5 1 v L.length (CELLS L)
      rw [HN.out]
      exact R2.out.1
    · have hne : ¬ (n : Int) = (np : Int) := by omega
      have HE : Aside (¬ n = np) := hn
      clear C2 hn
      go_wp2
      go_ret2
      have e : (70, []) = A := by have := HA.out; simpa [HE.out] using this
      rw [← e]
      exact ⟨_, rfl, nil_bytes' _ _, R.out⟩
  · have HE : Aside (¬ E = 0) := hE
    have hne : ((E : Int) != 0) = true := by simp [hE]
    clear C2 hE
    go_wp2
    go_ret2
    have e : (E, []) = A := by have := HA.out; simpa [HE.out] using this
    rw [← e]
    exact ⟨_, rfl, nil_bytes' _ _, R.out⟩
theorem encode_ok (X Y : Nat) (hX : X < 2 ^ 64) (hY : Y < 2 ^ 64) (a : Option Addr) (n c : Nat) (hn : n ≤ 1000) (l : List Int) (w : World) (hF : Flat w a n l) (hT : Tabled w) (h0 : 0 < w.heap.size) :
    Calls Tryd.prog 8 #[.agg #[.int .u64 (X : Int), .int .u64 (Y : Int), .slice a n c]] w fun e w' =>
    ∃ v, e = .returned (.tuple #[v, .int .i64 (ENC X Y n l).1]) ∧ w'.ownsRow w.heap.size 5 1 v (ENC X Y n l).2.length (CELLS (ENC X Y n l).2) ∧ Below w.heap.size w w' := by
  refine (encode_raw X Y (PLA Y X).1 a n c _ (PLA Y X).2 (77 :: (SHORT X ++ SHORT Y ++ l)) rfl w (fun W h => pla_ok Y X W (hT.below h0 h) (Nat.lt_of_lt_of_le h0 h.size)) (fun W h => written_ok 77 X Y hX hY a n c hn l W (hF.below h))).mono ?_
  rintro e w' h
  exact h
set_option maxHeartbeats 1000000 in
theorem encodeprefix_raw (X Y E : Int) (a : Option Addr) (n c np : Nat) (P : List Nat) (L : List Int) (hnp : P.length = np) (w : World)
    (C1 : Aside (∀ W, Below w.heap.size w W → Calls Tryd.prog 37 #[.int .u64 X, .int .u64 Y] W fun e w' => ∃ v, e = .returned (.tuple #[v, .int .i64 E]) ∧ w'.ownsRow W.heap.size 22 1 v np (UCELLS P) ∧ Below W.heap.size W w'))
    (C2 : Aside (∀ W, Below w.heap.size w W → Calls Tryd.prog 31 #[.int .u8 80, .int .u64 X, .int .u64 Y, .slice a n c] W fun e w' => ∃ v, e = .returned v ∧ w'.ownsRow W.heap.size 5 1 v L.length (CELLS L) ∧ Below W.heap.size W w')) :
    Calls Tryd.prog 12 #[.agg #[.int .u64 X, .int .u64 Y, .slice a n c]] w (ANSB w (if E ≠ 0 then (E, []) else if n ≠ np then (70, []) else (0, L))) := by
  obtain ⟨A, hA⟩ : ∃ A, (if E ≠ 0 then (E, []) else if n ≠ np then (70, []) else (0, L)) = A := ⟨_, rfl⟩
  rw [hA]
  have HA : Aside ((if E ≠ 0 then (E, []) else if n ≠ np then (70, []) else (0, L)) = A) := hA
  clear hA
  obtain ⟨nl, hnl⟩ : ∃ nl, L.length = nl := ⟨_, rfl⟩
  rw [hnl] at C2
  have HN : Aside (L.length = nl) := hnl
  have HP : Aside (P.length = np) := hnp
  clear hnl hnp
  go_enter Tryd.func12, Tryd.ntmps12
  go_wp2_with fail
  have hH := Has.new w #[.int .u64 X, .int .u64 Y, .slice a n c] 27
  have hB : Aside (Below w.heap.size w (w.alloc (.cells #[.int .u64 X, .int .u64 Y, .slice a n c] 27))) := (Below.refl _ _).alloc (Nat.le_refl _) _
  refine (C1.out _ hB.out).mono ?_
  rintro e w1 ⟨v, rfl, hrow, hb⟩
  have hH := hH.keep hb
  have hz0 : w1.cell? ⟨w.heap.size, 0, none⟩ = some (.int .u64 X) := hH.cell 0
  have hz1 : w1.cell? ⟨w.heap.size, 1, none⟩ = some (.int .u64 Y) := hH.cell 1
  have hz2 : w1.cell? ⟨w.heap.size, 2, none⟩ = some (.slice a n c) := hH.cell 2
  have R : Aside (Below w.heap.size w w1) := hB.out.trans (hb.mono hB.out.size)
  obtain ⟨av, cv, rfl, _⟩ := own_slice hrow
  clear hrow hb hH hB C1
  by_cases hE : E = 0
  · subst hE
    by_cases hn : n = np
    · subst hn
      go_wp2_with fail
      refine (C2.out _ R.out).mono ?_
      rintro e w2 ⟨v, rfl, hrow, hb⟩
      have R2 : Aside (w2.ownsRow w.heap.size 5 1 v nl (CELLS L) ∧ Below w.heap.size w w2) := ⟨own_mono hrow R.out.size, R.out.trans (hb.mono R.out.size)⟩
      clear hrow hb C2 hz0 hz1 hz2 R
      go_wp2
      go_ret2
      have e : (0, L) = A := by have := HA.out; simpa using this
      rw [← e]
      refine ⟨v, rfl, ?_, R2.out.2⟩
      show w2.ownsRow w.heap.size 5 1 v L.length (CELLS L)
      rw [HN.out]
      exact R2.out.1
    · have hne : ¬ (n : Int) = (np : Int) := by omega
      have HE : Aside (¬ n = np) := hn
      clear C2 hn
      go_wp2
      go_ret2
      have e : (70, []) = A := by have := HA.out; simpa [HE.out] using this
      rw [← e]
      exact ⟨_, rfl, nil_bytes' _ _, R.out⟩
  · have HE : Aside (¬ E = 0) := hE
    have hne : ((E : Int) != 0) = true := by simp [hE]
    clear C2 hE
    go_wp2
    go_ret2
    have e : (E, []) = A := by have := HA.out; simpa [HE.out] using this
    rw [← e]
    exact ⟨_, rfl, nil_bytes' _ _, R.out⟩
theorem encodeprefix_ok (X Y : Nat) (hX : X < 2 ^ 64) (hY : Y < 2 ^ 64) (a : Option Addr) (n c : Nat) (hn : n ≤ 1000) (l : List Int) (w : World) (hF : Flat w a n l) (hT : Tabled w) (h0 : 0 < w.heap.size) :
    Calls Tryd.prog 12 #[.agg #[.int .u64 (X : Int), .int .u64 (Y : Int), .slice a n c]] w fun e w' =>
    ∃ v, e = .returned (.tuple #[v, .int .i64 (ENX X Y n l).1]) ∧ w'.ownsRow w.heap.size 5 1 v (ENX X Y n l).2.length (CELLS (ENX X Y n l).2) ∧ Below w.heap.size w w' := by
  refine (encodeprefix_raw X Y (PPA X Y).1 a n c _ (PPA X Y).2 (80 :: (SHORT X ++ SHORT Y ++ l)) rfl w (fun W h => ppa_ok X Y W (hT.below h0 h) (Nat.lt_of_lt_of_le h0 h.size)) (fun W h => written_ok 80 X Y hX hY a n c hn l W (hF.below h))).mono ?_
  rintro e w' h
  exact h
/-! the law's awake -/
theorem PLA_awake : PLA 1 7 = (0, [0, 5, 9, 10]) := by decide
theorem ENC_awake : ENC 1 0 0 [] = (0, [77, 1, 0]) := by decide
theorem row_at_u64 {w : World} {base : Nat} {v : Value} {l : List Nat} (h : w.ownsRow base 22 1 v l.length (UCELLS l)) (h0 : 0 < l.length) : ∃ g c, v = .slice (some ⟨g, 0, none⟩) l.length c ∧ g < w.heap.size ∧ ∀ j, j < l.length → w.cell? ⟨g, j, none⟩ = some (.int .u64 ((l.getD j 0 : Nat) : Int)) := by
  obtain ⟨a, c, e, hh⟩ := nums_own h
  obtain ⟨g, rfl, hg, hc⟩ := hh h0
  exact ⟨g, c, e, hg, hc⟩
theorem proofawake_ok (w : World) (hT : Tabled w) (h0 : 0 < w.heap.size) : Calls Tryd.prog 16 #[] w fun e w' => e = .returned (.bool true) ∧ Below w.heap.size w w' := by
  have c1 := pla_ok 1 7 w hT h0
  rw [PLA_awake] at c1
  have C2 : Aside (∀ W, Below w.heap.size w W → Calls Tryd.prog 8 #[.agg #[.int .u64 1, .int .u64 0, .slice none 0 0]] W fun e w' => ∃ v, e = .returned (.tuple #[v, .int .i64 0]) ∧ w'.ownsRow W.heap.size 5 1 v 3 (CELLS [77, 1, 0]) ∧ Below W.heap.size W w') := fun W h => by
    have := encode_ok 1 0 (by decide) (by decide) none 0 0 (by decide) [] W ⟨rfl, fun h => absurd h (by decide), by simp⟩ (hT.below h0 h) (Nat.lt_of_lt_of_le h0 h.size)
    rw [ENC_awake] at this
    exact this
  clear hT h0
  go_enter Tryd.func16, Tryd.ntmps16
  go_wp2_with fail
  refine c1.mono ?_
  rintro e w1 ⟨v, rfl, hrow, hb⟩
  clear c1
  obtain ⟨g, cg, rfl, hg, hc⟩ := row_at_u64 hrow (by decide)
  go_wp2_with fail
  refine (C2.out _ hb).mono ?_
  rintro e w2 ⟨v, rfl, hown, hb2⟩
  have hbb : Aside (Below w.heap.size w w2) := hb.trans (hb2.mono hb.size)
  have k0 : w2.cell? ⟨g, 0, none⟩ = some (.int .u64 0) := (hb2.cell (p := ⟨g, 0, none⟩) hg).trans (hc 0 (by decide))
  have k1 : w2.cell? ⟨g, 1, none⟩ = some (.int .u64 5) := (hb2.cell (p := ⟨g, 1, none⟩) hg).trans (hc 1 (by decide))
  have k2 : w2.cell? ⟨g, 2, none⟩ = some (.int .u64 9) := (hb2.cell (p := ⟨g, 2, none⟩) hg).trans (hc 2 (by decide))
  have hbx : ∃ g' c', v = .slice (some ⟨g', 0, none⟩) 3 c' ∧ w2.cell? ⟨g', 0, none⟩ = some (.int .u8 77) ∧ w2.cell? ⟨g', 1, none⟩ = some (.int .u8 1) := by
    rcases hown.2 with ⟨_, h⟩ | ⟨g', c', cur, rfl, _⟩
    · exact absurd h (by decide)
    · exact ⟨g', c', rfl, hown.cellAt 0 (by decide), hown.cellAt 1 (by decide)⟩
  obtain ⟨g', c', rfl, k3, k4⟩ := hbx
  clear hown hb2 hb hc hg hrow C2
  go_wp2
  go_ret
  exact ⟨rfl, hbb.out⟩
end Go.Proofs.YtfjmbfppilfepaaDoor
