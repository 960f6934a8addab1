/- Texts of ManySets, one behind the other: ManyRise, ManyWritten, ManyWhole, ManyFace. -/
import Derived.WalkLawsBesides
import Derived.Defers
import Derived.Recover
import Derived.Test.YtadpfcpipklmbabDoorManySetsP7
import Derived.Test.YtadpfcpipklmbabDoorManySetsP8
import Derived.Test.YtadpfcpipklmbabDoorManySetsP10
/- mustRise of package many: it gives up where leaves are not those of n, or do not rise. -/
namespace Go.Proofs.YtadpfcpipklmbabDoor
open Go.RowKit
set_option maxRecDepth 100000

/-- not above the one ahead. -/
def NOTUP : Option Nat → Nat → Bool
  | none, _ => false
  | some y, x => decide (x ≤ y)
/-- what is wrong with indices, the one ahead of them prev. -/
def RCHK (n : Nat) : Option Nat → List Nat → Int
  | _, [] => 0
  | prev, x :: l => if NOTUP prev x = true then 71 else if n ≤ x then 32 else RCHK n (some x) l
/-- what is wrong with the indices of n leaves. -/
def RISEA (L : List Nat) (n : Nat) : Int := if 4611686018427387904 < n then 30 else RCHK n none L
theorem RCHK_ok {n : Nat} : ∀ {prev : Option Nat} {L : List Nat}, RCHK n prev L = 0 → (∀ x ∈ L, x < n) ∧ RISES L ∧ ∀ y, prev = some y → ∀ x ∈ L, y < x
  | _, [], _ => ⟨(fun x h => by cases h), (fun i j x y _ h => by simp at h), (fun y _ x h => by cases h)⟩
  | prev, x :: l, h => by
    rw [RCHK] at h
    split at h
    · cases h
    · rename_i h1
      split at h
      · cases h
      · rename_i h2
        obtain ⟨a1, a2, a3⟩ := RCHK_ok h
        refine ⟨fun y hy => ?_, fun i j u v hij hu hv => ?_, fun y hy z hz => ?_⟩
        · rcases List.mem_cons.1 hy with rfl | hy
          · omega
          · exact a1 y hy
        · cases i with
          | zero =>
            cases j with
            | zero => omega
            | succ j =>
              simp only [List.getElem?_cons_zero, Option.some.injEq] at hu
              rw [List.getElem?_cons_succ] at hv
              subst hu
              exact a3 x rfl v (List.mem_of_getElem? hv)
          | succ i =>
            cases j with
            | zero => omega
            | succ j =>
              rw [List.getElem?_cons_succ] at hu hv
              exact a2 i j u v (by omega) hu hv
        · subst hy
          have h1 : ¬ x ≤ y := fun h => h1 (decide_eq_true h)
          rcases List.mem_cons.1 hz with rfl | hz
          · omega
          · have := a3 x rfl z hz
            omega
theorem RISEA_ok {n : Nat} {L : List Nat} (h : RISEA L n = 0) : n ≤ 4611686018427387904 ∧ RISES L ∧ ∀ x ∈ L, x < n := by
  unfold RISEA at h
  split at h
  · cases h
  · obtain ⟨a1, a2, _⟩ := RCHK_ok h
    exact ⟨by omega, a2, a1⟩
/-- the panic of a wrong proof. -/
def WRONG (x : Int) : List PanicEntry := [{ v := .iface 80 (.int .i64 x), recovered := false }]
def ROSE (L : List Nat) (n : Nat) (w : World) (e : Ending) (w' : World) : Prop := w = w' ∧ ((RISEA L n = 0 ∧ e = .returned (.tuple #[])) ∨ (RISEA L n ≠ 0 ∧ e = .panicked (WRONG (RISEA L n))))
/-- the one ahead. -/
def AHD (L : List Nat) : Nat → Option Nat
  | 0 => none
  | j + 1 => L[j]?
theorem drop_step {L : List Nat} {j x : Nat} (h : L[j]? = some x) : L.drop j = x :: L.drop (j + 1) := by
  induction L generalizing j with
  | nil => simp at h
  | cons y l ih =>
    cases j with
    | zero => simp at h; simp [h]
    | succ j => simp at h; simp; exact ih h
set_option maxHeartbeats 1000000 in
theorem rise_far (L : List Nat) (n : Nat) (hn : (4611686018427387904 : Int) < (n : Int)) (a : Option Addr) (m c : Nat) (w : World) : Calls Tryd.prog 23 #[.slice a m c, .int .u64 (n : Int)] w (ROSE L n w) := by
  have e : RISEA L n = 30 := by unfold RISEA; rw [if_pos (by omega)]
  have E : Aside (RISEA L n = 30) := e
  clear e
  go_enter Tryd.func23, Tryd.ntmps23
  go_wp2_with fail
  exact ⟨rfl, rfl, .inr ⟨by rw [E.out]; decide, by rw [E.out]; rfl⟩⟩
set_option maxHeartbeats 2000000 in
theorem mustrise_ok (L : List Nat) (n : Nat) (a : Option Addr) (m c : Nat) (hl : L.length = m) (hm : m < 2 ^ 40) (w : World) (hL : NUML w a L) : Calls Tryd.prog 23 #[.slice a m c, .int .u64 (n : Int)] w (ROSE L n w) := by
  by_cases hn : (4611686018427387904 : Int) < (n : Int)
  · exact rise_far L n hn a m c w
  · have e : RISEA L n = RCHK n none L := by unfold RISEA; rw [if_neg (by omega)]
    have HA : Aside (L.length = m ∧ m < 2 ^ 40 ∧ NUML w a L ∧ RISEA L n = RCHK n none L) := ⟨hl, hm, hL, e⟩
    clear hl hm hL e
    go_enter Tryd.func23, Tryd.ntmps23
    go_wp2_with fail
    go_loopg [11] m (fun q s11 wx => ∃ j : Nat, s11 = .int .i64 (j : Int) ∧ Aside (j + q = m ∧ RISEA L n = RCHK n (AHD L j) (L.drop j)) ∧ wx = w)
    case atStart => exact ⟨0, rfl, ⟨by omega, HA.out.2.2.2⟩, rfl⟩
    case round =>
      obtain ⟨j, rfl, A, rfl⟩ := hrel
      cases gk with
      | zero =>
        obtain rfl : j = m := by have := A.out.1; omega
        have hlt : ¬ (j : Int) < (j : Int) := by omega
        have FN : Aside (RISEA L n = 0) := by
          have h1 := A.out.2
          rw [List.drop_of_length_le (by have := HA.out.1; omega)] at h1
          exact h1
        clear A HA
        go_wp2_with fail
        exact bodyPost_end (v := .tuple #[]) (by simp [results, Tryd.f23]) rfl ⟨rfl, .inl ⟨FN.out, rfl⟩⟩
      | succ q =>
        have hjm : j < m := by have := A.out.1; omega
        have hlt : (j : Int) < (m : Int) := by omega
        obtain ⟨x, ex⟩ : ∃ x, L[j]? = some x := ⟨_, List.getElem?_eq_getElem (by have := HA.out.1; omega)⟩
        obtain ⟨b, o, rfl, hb, hcc⟩ := HA.out.2.2.1 (by have := HA.out.1; omega)
        have x0 := hcc j x ex
        have ej : wrap64 ((j : Int) + 1) = ((j + 1 : Nat) : Int) := by have := HA.out.2.1; unfold wrap64; omega
        have hch : RISEA L n = if NOTUP (AHD L j) x = true then 71 else if n ≤ x then 32 else RCHK n (some x) (L.drop (j + 1)) := by
          rw [A.out.2, drop_step ex, RCHK]
        have hnx : AHD L (j + 1) = some x := ex
        rcases Nat.eq_zero_or_pos j with hj0 | hj0
        · have hz : ¬ (0 : Int) < (j : Int) := by omega
          have hch : RISEA L n = if n ≤ x then 32 else RCHK n (some x) (L.drop (j + 1)) := by
            rw [hch, hj0, if_neg (by simp [AHD, NOTUP])]
          by_cases hx : n ≤ x
          · have hx' : (n : Int) ≤ (x : Int) := by omega
            rw [if_pos hx] at hch
            have FN : Aside (RISEA L n = 32) := hch
            clear A HA hch hnx hcc hx hj0 ex hjm
            go_wp2_with fail
            exact ⟨rfl, rfl, .inr ⟨by rw [FN.out]; decide, by rw [FN.out]; rfl⟩⟩
          · have hx' : ¬ (n : Int) ≤ (x : Int) := by omega
            rw [if_neg hx] at hch
            have Z : Aside (j + 1 + q = m ∧ RISEA L n = RCHK n (AHD L (j + 1)) (L.drop (j + 1))) := ⟨by have := A.out.1; clear ej; omega, by rw [hnx]; exact hch⟩
            clear A hch hnx hcc hx hj0 ex hjm
            go_wp2_with fail
            go_roundg q
            case measure => exact Nat.lt_succ_self _
            case rel => exact ⟨j + 1, by first | rfl | (rw [ej]), Z.out, rfl⟩
        · obtain ⟨i, hi⟩ : ∃ i, j = i + 1 := ⟨j - 1, by omega⟩
          obtain ⟨y, ey⟩ : ∃ y, L[i]? = some y := ⟨_, List.getElem?_eq_getElem (by have := HA.out.1; omega)⟩
          have y0 := hcc i y ey
          have ei : wrap64 ((j : Int) - 1) = (i : Int) := by have := HA.out.2.1; unfold wrap64; omega
          have him : (i : Int) < (m : Int) := by omega
          have hi0 : (0 : Int) < (j : Int) := by omega
          have hch : RISEA L n = if NOTUP (some y) x = true then 71 else if n ≤ x then 32 else RCHK n (some x) (L.drop (j + 1)) := by
            rw [hch, show AHD L j = some y by rw [hi]; exact ey]
          by_cases hxy : x ≤ y
          · have hxy' : (x : Int) ≤ (y : Int) := by omega
            rw [if_pos (show NOTUP (some y) x = true from decide_eq_true hxy)] at hch
            have FN : Aside (RISEA L n = 71) := hch
            clear A HA hch hnx hcc hxy hj0 hi ex ey hjm
            go_wp2_with fail
            exact ⟨rfl, rfl, .inr ⟨by rw [FN.out]; decide, by rw [FN.out]; rfl⟩⟩
          · have hxy' : ¬ (x : Int) ≤ (y : Int) := by omega
            rw [if_neg (show ¬ NOTUP (some y) x = true from fun h => hxy (of_decide_eq_true h))] at hch
            by_cases hx : n ≤ x
            · have hx' : (n : Int) ≤ (x : Int) := by omega
              rw [if_pos hx] at hch
              have FN : Aside (RISEA L n = 32) := hch
              clear A HA hch hnx hcc hx hxy hj0 hi ex ey hjm
              go_wp2_with fail
              exact ⟨rfl, rfl, .inr ⟨by rw [FN.out]; decide, by rw [FN.out]; rfl⟩⟩
            · have hx' : ¬ (n : Int) ≤ (x : Int) := by omega
              rw [if_neg hx] at hch
              have Z : Aside (j + 1 + q = m ∧ RISEA L n = RCHK n (AHD L (j + 1)) (L.drop (j + 1))) := ⟨by have := A.out.1; clear ej ei; omega, by rw [hnx]; exact hch⟩
              clear A hch hnx hcc hx hxy hj0 hi ex ey hjm
              go_wp2_with fail
              go_roundg q
              case measure => exact Nat.lt_succ_self _
              case rel => exact ⟨j + 1, by first | rfl | (rw [ej]), Z.out, rfl⟩
end Go.Proofs.YtadpfcpipklmbabDoor

/- written of package many: a proof in bytes. -/
namespace Go.Proofs.YtadpfcpipklmbabDoor
open Go.RowKit
set_option maxRecDepth 100000

/-- what each index is above the least that it can be. -/
def DIFS : Nat → List Nat → List Int
  | _, [] => []
  | k, x :: l => SHORT (x - k) ++ DIFS (x + 1) l
theorem DIFS_length : ∀ (L : List Nat) (k : Nat), (DIFS k L).length ≤ 10 * L.length
  | [], k => by simp [DIFS]
  | x :: l, k => by
    rw [DIFS, List.length_append, SHORT_length, List.length_cons]
    have h1 := DIFS_length l (x + 1)
    have h2 := NTOP_le (x - k)
    omega
/-- the bytes of a proof. -/
def MWRT (L : List Nat) (N : Nat) (l : List Int) : List Int := 78 :: (SHORT N ++ SHORT L.length ++ DIFS 0 L ++ l)
/-- the least that the j-th index can be. -/
def LST (L : List Nat) (j : Nat) : Nat := match AHD L j with | none => 0 | some y => y + 1
theorem LST_zero (L : List Nat) : LST L 0 = 0 := rfl
theorem LST_next {L : List Nat} {j x : Nat} (h : L[j]? = some x) : LST L (j + 1) = x + 1 := by
  unfold LST
  rw [show AHD L (j + 1) = some x from h]
theorem LST_le {L : List Nat} (hR : RISES L) {j x : Nat} (h : L[j]? = some x) : LST L j ≤ x := by
  cases j with
  | zero => exact Nat.zero_le _
  | succ i =>
    have hi : i < L.length := by have := (List.getElem?_eq_some_iff.1 h).1; omega
    have e := List.getElem?_eq_getElem hi
    rw [LST_next e]
    exact hR i (i + 1) _ _ (by omega) e h
/-- a proof as it lies in a box. -/
def MBOX (N : Nat) (a : Option Addr) (m c : Nat) (an : Option Addr) (K cn : Nat) : Array Value := #[.int .u64 (N : Int), .slice a m c, .slice an K cn]
theorem u64_gap {x k : Nat} (h : k ≤ x) (hx : x < 2 ^ 64) : IntKind.u64.wrap ((x : Int) - (k : Int)) = ((x - k : Nat) : Int) := by
  rw [wrapU]; omega
theorem u64_up {x : Nat} (hx : x < 2 ^ 63) : IntKind.u64.wrap ((x : Int) + 1) = ((x + 1 : Nat) : Int) := by
  rw [wrapU]; omega
theorem u64_len {x : Nat} (hx : x < 2 ^ 63) : IntKind.u64.wrap (x : Int) = (x : Int) := by
  rw [wrapU]; omega
set_option maxHeartbeats 2000000 in
theorem manywritten_ok (L : List Nat) (N : Nat) (hN : N < 2 ^ 64) (a : Option Addr) (m c : Nat) (an : Option Addr) (K cn : Nat) (l : List Int) (w : World) (hl : L.length = m) (hm : m < 2 ^ 20) (hK : K < 2 ^ 20) (hR : RISES L) (hx : ∀ x ∈ L, x < 2 ^ 62) (hL : NUML w a L) (hF : Flat w an K l) :
    Calls Tryd.prog 36 #[.agg (MBOX N a m c an K cn)] w fun e w' => ∃ v, e = .returned v ∧ w'.ownsRow w.heap.size 5 1 v (MWRT L N l).length (CELLS (MWRT L N l)) ∧ Below w.heap.size w w' := by
  have c1 := short_ok N hN
  have c2 := short_ok m (by omega)
  have hl1 := SHORT_length N
  have hl2 := SHORT_length m
  have h91 := NTOP_le N
  have h92 := NTOP_le m
  have hr1 := SHORT_range hN
  have hr2 := SHORT_range (X := m) (by omega)
  have eL : MWRT L N l = [78] ++ SHORT N ++ SHORT m ++ DIFS 0 L ++ l := by unfold MWRT; rw [hl]; simp
  obtain ⟨Z, hZ⟩ : ∃ Z, MWRT L N l = Z := ⟨_, rfl⟩
  rw [hZ]
  obtain ⟨NZ, hNZ⟩ : ∃ N, Z.length = N := ⟨_, rfl⟩
  rw [hNZ]
  generalize hSX : SHORT N = SX at *
  generalize hSY : SHORT m = SY at *
  have hn1 : 0 < NTOP N + 1 := by omega
  have hn2 : 0 < NTOP m + 1 := by omega
  have hm1 : NTOP N + 1 ≤ 10 := by omega
  have hm2 : NTOP m + 1 ≤ 10 := by omega
  clear h91 h92 hSX hSY
  generalize NTOP N + 1 = nx at *
  generalize NTOP m + 1 = ny at *
  have HA : Aside (Flat w an K l ∧ K < 2 ^ 20 ∧ SX.length = nx ∧ SY.length = ny ∧ nx ≤ 10 ∧ ny ≤ 10 ∧ (∀ x ∈ SX, 0 ≤ x ∧ x ≤ 255) ∧ (∀ x ∈ SY, 0 ≤ x ∧ x ≤ 255)) := ⟨hF, hK, hl1, hl2, hm1, hm2, hr1, hr2⟩
  have HL : Aside ([78] ++ SX ++ SY ++ DIFS 0 L ++ l = Z ∧ Z.length = NZ) := ⟨by rw [← hZ, eL], hNZ⟩
  have HI : Aside (L.length = m ∧ m < 2 ^ 20 ∧ RISES L ∧ (∀ x ∈ L, x < 2 ^ 62) ∧ NUML w a L) := ⟨hl, hm, hR, hx, hL⟩
  have eum := u64_len (x := m) (by omega)
  clear hF hK hl1 hl2 hm1 hm2 hr1 hr2 hZ hNZ hN eL hl hm hR hx hL
  obtain ⟨w0, hw0⟩ : ∃ w0, w.alloc (.cells (MBOX N a m c an K cn) 40) = w0 := ⟨_, rfl⟩
  have h1 : Has w0 w.heap.size (MBOX N a m c an K cn) 40 := by rw [← hw0]; exact Has.new w _ _
  have hb0 : Below w.heap.size w w0 := by rw [← hw0]; exact (Below.refl _ _).alloc (Nat.le_refl _) _
  have hM : (MBOX N a m c an K cn) = #[.int .u64 (N : Int), .slice a m c, .slice an K cn] := rfl
  have CC : Aside (∀ W, Below w0.heap.size w0 W → W.cell? ⟨w.heap.size, 0, none⟩ = some (.int .u64 (N : Int)) ∧ W.cell? ⟨w.heap.size, 1, none⟩ = some (.slice a m c) ∧ W.cell? ⟨w.heap.size, 2, none⟩ = some (.slice an K cn)) := fun W hb => ⟨(h1.keep hb).cell 0, (h1.keep hb).cell 1, (h1.keep hb).cell 2⟩
  have B0 : Aside (Below w.heap.size w w0) := hb0
  rw [hM] at hw0
  have R0 : Aside ((w0.alloc (.cells #[.int .u8 78] 5)).ownsRow w0.heap.size 5 1 (.slice (some ⟨w0.heap.size, 0, none⟩) 1 1) 1 (CELLS [78]) ∧ Below w0.heap.size w0 (w0.alloc (.cells #[.int .u8 78] 5))) := ⟨own_one w0 78, (Below.refl _ _).alloc (Nat.le_refl _) _⟩
  have x0 := (CC.out _ R0.out.2).1
  clear h1 hb0
  go_enter Tryd.func36, Tryd.ntmps36
  rw [hM]
  go_wp2_with fail
  generalize w0.alloc (.cells #[.int .u8 78] 5) = w1 at *
  refine (c1 _).mono ?_
  rintro e w2 ⟨g, cap, rfl, hown, hg, hb⟩
  clear c1 x0 hw0
  have R1 : Aside (w2.ownsRow w0.heap.size 5 1 (.slice (some ⟨w0.heap.size, 0, none⟩) 1 1) 1 (CELLS [78]) ∧ Below w0.heap.size w0 w2 ∧ Bytes w2 (some ⟨g, 0, none⟩) nx SX) := ⟨own_below R0.out.1 hb, R0.out.2.trans (hb.mono R0.out.2.size), own_bytes hown hg HA.out.2.2.2.2.2.2.1⟩
  clear hown hg hb R0
  go_wp2_with (first
    | (at_builtin; refine app_u8 _ rfl (.tmp 10) (.tmp 13) rfl w0.heap.size _ 1 [78] rfl R1.out.1 g 0 nx cap SX rfl R1.out.2.2 hn1 (by have := HA.out.2.2.2.2.1; omega) R1.out.2.1.size ?_; intro g3 cap3 w3 hown hgrow hg
       have R2 : Aside (w3.ownsRow w0.heap.size 5 1 (.slice (some ⟨g3, 0, none⟩) (1 + nx) cap3) (1 + nx) (CELLS ([78] ++ SX)) ∧ Below w0.heap.size w0 w3) := ⟨hown, R1.out.2.1.grown hgrow R1.out.2.1.size (fun k e => (R1.out.1.lt k e).1)⟩
       have x1 := (CC.out _ R2.out.2).2.1
       clear hown hgrow hg R1))
  refine (c2 _).mono ?_
  rintro e w4 ⟨g4, cap4, rfl, hown, hg, hb⟩
  clear c2 x1 eum
  have R3 : Aside (w4.ownsRow w0.heap.size 5 1 (.slice (some ⟨g3, 0, none⟩) (1 + nx) cap3) (1 + nx) (CELLS ([78] ++ SX)) ∧ Below w0.heap.size w0 w4 ∧ Bytes w4 (some ⟨g4, 0, none⟩) ny SY) := ⟨own_below R2.out.1 hb, R2.out.2.trans (hb.mono R2.out.2.size), own_bytes hown hg HA.out.2.2.2.2.2.2.2⟩
  clear hown hg hb R2
  go_wp2_with (first
    | (at_builtin; refine app_u8 _ rfl (.tmp 15) (.tmp 20) rfl w0.heap.size _ (1 + nx) ([78] ++ SX) rfl R3.out.1 g4 0 ny cap4 SY rfl R3.out.2.2 hn2 (by have := HA.out.2.2.2.2; omega) R3.out.2.1.size ?_; intro g5 cap5 w5 hown hgrow hg
       have R4 : Aside (w5.ownsRow w0.heap.size 5 1 (.slice (some ⟨g5, 0, none⟩) (1 + nx + ny) cap5) (1 + nx + ny) (CELLS ([78] ++ SX ++ SY)) ∧ Below w0.heap.size w0 w5) := ⟨hown, R3.out.2.1.grown hgrow R3.out.2.1.size (fun k e => (R3.out.1.lt k e).1)⟩
       have x1 := (CC.out _ R4.out.2).2.1
       clear hown hgrow hg R3))
  clear x1
  have HP : Aside (1 + nx + ny ≤ 21) := by
    obtain ⟨_, _, _, _, h5, h6, _⟩ := HA.out
    show 1 + nx + ny ≤ 21
    omega
  generalize [78] ++ SX ++ SY = PRE at *
  generalize 1 + nx + ny = np at *
  go_loopg [3, 4, 25] m (fun q s3 s4 s25 wx => ∃ (j k np' : Nat) (v : Value) (pre : List Int), v = s3 ∧ s4 = .int .u64 (k : Int) ∧ s25 = .int .i64 (j : Int) ∧ Aside (j + q = m ∧ k = LST L j ∧ wx.ownsRow w0.heap.size 5 1 v np' (CELLS (PRE ++ pre)) ∧ pre ++ DIFS k (L.drop j) = DIFS 0 L ∧ np' ≤ 21 + 10 * j ∧ Below w0.heap.size w0 wx))
  case atStart => exact ⟨0, 0, np, _, [], rfl, rfl, rfl, by omega, rfl, by simpa using R4.out.1, by simp, HP.out, R4.out.2⟩
  case round =>
    obtain ⟨j, k, np', v, pre, rfl, rfl, rfl, A⟩ := hrel
    clear R4 HP
    cases gk with
    | succ q =>
      have hjm : j < m := by have := A.out.1; omega
      have hlt : (j : Int) < (m : Int) := by omega
      obtain ⟨x, ex⟩ : ∃ x, L[j]? = some x := ⟨_, List.getElem?_eq_getElem (by have := HI.out.1; omega)⟩
      obtain ⟨b, o, rfl, hb, hcc⟩ := HI.out.2.2.2.2 (by have := HI.out.1; omega)
      have hx62 := HI.out.2.2.2.1 x (List.mem_of_getElem? ex)
      have x0 : wr.cell? ⟨b, o + j, none⟩ = some (.int .u64 (x : Int)) := (A.out.2.2.2.2.2.cell (p := ⟨b, o + j, none⟩) (by have := B0.out.size; show b < w0.heap.size; omega)).trans ((B0.out.cell (p := ⟨b, o + j, none⟩) hb).trans (hcc j x ex))
      have hle : k ≤ x := by rw [A.out.2.1]; exact LST_le HI.out.2.2.1 ex
      have eg := u64_gap hle (by omega)
      have eu := u64_up (x := x) (by omega)
      have ej : wrap64 ((j : Int) + 1) = ((j + 1 : Nat) : Int) := by have := HI.out.2.1; unfold wrap64; omega
      have cs := short_ok (x - k) (by omega)
      have hsl := SHORT_length (x - k)
      have hsn := NTOP_le (x - k)
      have hsr := SHORT_range (X := x - k) (by omega)
      have hdif : pre ++ (SHORT (x - k) ++ DIFS (x + 1) (L.drop (j + 1))) = DIFS 0 L := by
        have h1 := A.out.2.2.2.1
        rw [drop_step ex, DIFS] at h1
        exact h1
      have A2 : Aside (j + 1 + q = m ∧ x + 1 = LST L (j + 1) ∧ wr.ownsRow w0.heap.size 5 1 v np' (CELLS (PRE ++ pre)) ∧ pre ++ (SHORT (x - k) ++ DIFS (x + 1) (L.drop (j + 1))) = DIFS 0 L ∧ np' ≤ 21 + 10 * j ∧ Below w0.heap.size w0 wr ∧ (SHORT (x - k)).length = NTOP (x - k) + 1 ∧ NTOP (x - k) + 1 ≤ 10 ∧ (∀ y ∈ SHORT (x - k), 0 ≤ y ∧ y ≤ 255) ∧ j < 2 ^ 20) := ⟨by have := A.out.1; clear ej eg eu; omega, (LST_next ex).symm, A.out.2.2.1, hdif, A.out.2.2.2.2.1, A.out.2.2.2.2.2, hsl, by clear ej eg eu; omega, hsr, by have := HI.out.2.1; clear ej eg eu; omega⟩
      have hs0 : 0 < NTOP (x - k) + 1 := Nat.succ_pos _
      generalize hSD : SHORT (x - k) = SD at *
      generalize NTOP (x - k) + 1 = nd at *
      generalize x - k = xk at *
      clear A hdif hsl hsr hle hx62 ex hjm hcc hb hSD hsn
      go_wp2_with fail
      refine (cs _).mono ?_
      rintro e w6 ⟨g6, cap6, rfl, hown, hg, hb⟩
      clear cs x0
      have R5 : Aside (w6.ownsRow w0.heap.size 5 1 v np' (CELLS (PRE ++ pre)) ∧ Below w0.heap.size w0 w6 ∧ Bytes w6 (some ⟨g6, 0, none⟩) nd SD) := ⟨own_below A2.out.2.2.1 hb, A2.out.2.2.2.2.2.1.trans (hb.mono A2.out.2.2.2.2.2.1.size), own_bytes hown hg A2.out.2.2.2.2.2.2.2.2.1⟩
      clear hown hg hb
      go_wp2_with (first
        | (at_builtin; refine app_u8 _ rfl (.tmp 29) (.tmp 33) rfl w0.heap.size v np' (PRE ++ pre) rfl R5.out.1 g6 0 nd cap6 SD rfl R5.out.2.2 hs0 (by have := A2.out; omega) R5.out.2.1.size ?_; intro g7 cap7 w7 hown hgrow hg
           have Z7 : Aside (j + 1 + q = m ∧ x + 1 = LST L (j + 1) ∧ w7.ownsRow w0.heap.size 5 1 (.slice (some ⟨g7, 0, none⟩) (np' + nd) cap7) (np' + nd) (CELLS (PRE ++ (pre ++ SD))) ∧ (pre ++ SD) ++ DIFS (x + 1) (L.drop (j + 1)) = DIFS 0 L ∧ np' + nd ≤ 21 + 10 * (j + 1) ∧ Below w0.heap.size w0 w7) := ⟨A2.out.1, A2.out.2.1, by rw [← List.append_assoc]; exact hown, by rw [List.append_assoc]; exact A2.out.2.2.2.1, by have := A2.out; omega, R5.out.2.1.grown hgrow R5.out.2.1.size (fun k e => (R5.out.1.lt k e).1)⟩
           clear hown hgrow hg R5 A2))
      go_roundg q
      case measure => exact Nat.lt_succ_self _
      case rel => exact ⟨j + 1, x + 1, np' + nd, _, pre ++ SD, rfl, by first | rfl | exact congrArg (Value.int IntKind.u64) eu, by first | rfl | (rw [ej]), Z7.out⟩
    | zero =>
      obtain rfl : j = m := by have := A.out.1; omega
      have hlt : ¬ (j : Int) < (j : Int) := by omega
      have x2 := (CC.out _ A.out.2.2.2.2.2).2.2
      have A3 : Aside (wr.ownsRow w0.heap.size 5 1 v np' (CELLS (PRE ++ DIFS 0 L)) ∧ np' ≤ 2 ^ 24 ∧ Below w0.heap.size w0 wr) := by
        obtain ⟨h1, h2, h3, h4, h5, h6⟩ := A.out
        rw [List.drop_of_length_le (by have := HI.out.1; omega), DIFS, List.append_nil] at h4
        rw [h4] at h3
        exact ⟨h3, by have := HI.out.2.1; omega, h6⟩
      clear A
      go_wp2_with fail
      clear x2
      obtain ⟨PP, hPP⟩ : ∃ PP, PRE ++ DIFS 0 L = PP := ⟨_, rfl⟩
      have HZ : Aside (PP ++ l = Z) := show PP ++ l = Z by rw [← hPP]; exact HL.out.1
      rw [hPP] at A3
      clear hPP
      go_loopg [3, 41] K (fun q s3 s41 wx => ∃ (i : Nat) (u : Value), u = s3 ∧ s41 = .int .i64 (i : Int) ∧ Aside (i + q = K ∧ wx.ownsRow w0.heap.size 5 1 u (np' + 32 * i) (CELLS (PP ++ l.take (32 * i))) ∧ Below w0.heap.size w0 wx))
      case atStart => exact ⟨0, _, rfl, rfl, by omega, by simpa using A3.out.1, A3.out.2.2⟩
      case round =>
        obtain ⟨i, u, rfl, rfl, A⟩ := hrel
        cases gk with
        | zero =>
          obtain ⟨hi, hown, hbel⟩ := A.out
          obtain rfl : i = K := by omega
          have hlt2 : ¬ (i : Int) < (i : Int) := by omega
          have R : Aside (wr.ownsRow w.heap.size 5 1 u NZ (CELLS Z) ∧ Below w.heap.size w wr) := by
            rw [List.take_of_length_le (by have := HA.out.1.1; omega), HZ.out] at hown
            have := own_len hown
            rw [HL.out.2] at this
            rw [← this] at hown
            exact ⟨own_mono hown B0.out.size, B0.out.trans (hbel.mono B0.out.size)⟩
          clear hi hown hbel A HA HL HI A3
          go_wp2
          go_ret
          exact ⟨_, rfl, R.out.1, R.out.2⟩
        | succ q =>
          obtain ⟨hi, hown, hbel⟩ := A.out
          have hK20 := HA.out.2.1
          have a1 : Flat wr an K l := (HA.out.1.below B0.out).below hbel
          have hlt2 : (i : Int) < (K : Int) := by omega
          obtain ⟨b, o, rfl, hbl, hc⟩ := a1.2.1 (by omega)
          have hat := a1.at (show i < K by omega)
          have h32 := HSH_length a1.1 (show i < K by omega)
          have hrr : ∀ x ∈ HSH l i, 0 ≤ x ∧ x ≤ 255 := fun x hx => a1.2.2 x (HSH_mem hx)
          have hnx := HSH_next l i
          have e1 : wrap64 ((i : Int) + 1) = ((i + 1 : Nat) : Int) := by unfold wrap64; omega
          have R : Aside (i + 1 + q = K ∧ K < 2 ^ 20 ∧ np' ≤ 2 ^ 24 ∧ wr.ownsRow w0.heap.size 5 1 u (np' + 32 * i) (CELLS (PP ++ l.take (32 * i))) ∧ Below w0.heap.size w0 wr ∧ (HSH l i).length = 32 ∧ (∀ x ∈ HSH l i, 0 ≤ x ∧ x ≤ 255) ∧ PP ++ l.take (32 * (i + 1)) = PP ++ l.take (32 * i) ++ HSH l i) := ⟨by clear e1; omega, hK20, A3.out.2.1, hown, hbel, h32, hrr, by rw [hnx, List.append_assoc]⟩
          generalize HSH l i = H at *
          clear hi hown hbel a1 hbl hc hrr hnx A hK20 A3
          go_wp2_with (first
            | (refine wpList_load_mid rfl 56 (.tmp 43) rfl b (o + i * 32) rfl (CELLS H) _ hat Tryd.underlying56 rfl (info_cells h32) ?_)
            | (refine wpList_store_row rfl 56 (.tmp 8) (.tmp 44) rfl _ _ rfl rfl 56 _ (Has.new wr _ _) (info_arr h32) (by simp [CELLS, h32]) (cells_one H) ?_; rw [World.setRow_alloc_new])
            | (at_builtin; refine app_u8 _ rfl (.tmp 45) (.tmp 46) rfl w0.heap.size u (np' + 32 * i) _ rfl (R.out.2.2.2.1.alloc _) wr.heap.size 0 32 32 H rfl (box_bytes wr R.out.2.2.2.2.2.1 R.out.2.2.2.2.2.2.1 _) (by omega) (by have := R.out.1; have := R.out.2.1; have := R.out.2.2.1; omega) (by have := R.out.2.2.2.2.1.size; simp; omega) ?_; intro g6 cap6 w6 hown hgrow hg
               have R2 : Aside (i + 1 + q = K ∧ w6.ownsRow w0.heap.size 5 1 (.slice (some ⟨g6, 0, none⟩) (np' + 32 * i + 32) cap6) (np' + 32 * (i + 1)) (CELLS (PP ++ l.take (32 * (i + 1)))) ∧ Below w0.heap.size w0 w6) := by
                 obtain ⟨r1, r2, r3, r4, r5, r6, r7, r8⟩ := R.out
                 refine ⟨r1, ?_, (r5.alloc r5.size _).grown hgrow (by have := r5.size; simp; omega) (fun k e => (r4.lt k e).1)⟩
                 rw [r8, show np' + 32 * (i + 1) = np' + 32 * i + 32 by omega]
                 exact hown
               clear hown hgrow hg R hat h32))
          go_roundg q
          case measure => exact Nat.lt_succ_self _
          case rel => exact ⟨i + 1, _, rfl, by first | rfl | (rw [e1]), R2.out⟩
end Go.Proofs.YtadpfcpipklmbabDoor

/- mustBeWhole of package many: it gives up where a proof has other leaves than there are, or other nodes than they need. -/
namespace Go.Proofs.YtadpfcpipklmbabDoor
open Go.RowKit
set_option maxRecDepth 100000

/-- the number in bl is how many of K are left behind acc. -/
structure COUNTING (K : Nat) (w0 w : World) (bl : Nat) (acc : List Nat) : Prop where
  le : acc.length ≤ K
  row : Has w bl #[.int .i64 ((K - acc.length : Nat) : Int)] 3
  keep : ∀ b, b < w0.heap.size → b ≠ bl → w.heap[b]? = w0.heap[b]?
  lt : bl < w0.heap.size
  below : Below bl w0 w
theorem COUNTING.still {K : Nat} {w0 w w' : World} {bl : Nat} {acc : List Nat} (h : COUNTING K w0 w bl acc) (hb : Below w.heap.size w w') : COUNTING K w0 w' bl acc := by
  have hs := h.below.size
  have hlt := h.lt
  exact ⟨h.le, h.row.keep hb, fun b hb0 hne => (hb.block b (by omega)).trans (h.keep b hb0 hne), hlt, h.below.trans (hb.mono (by omega))⟩
set_option maxHeartbeats 1000000 in
theorem count_ok {K : Nat} {w0 w : World} {bl : Nat} {acc : List Nat} (hK20 : K < 2 ^ 20) (hK : COUNTING K w0 w bl acc) (p : Int) : Calls Tryd.prog 51 #[.int .u64 p, .pointer (some ⟨bl, 0, none⟩)] w fun e w' => (e = .returned (.tuple #[]) ∧ ∀ x, COUNTING K w0 w' bl (acc ++ [x])) ∨ (e = .panicked (WRONG 70) ∧ acc.length = K ∧ COUNTING K w0 w' bl acc) := by
  obtain ⟨r, hr⟩ : ∃ r, K - acc.length = r := ⟨_, rfl⟩
  have c0 := hK.row.cell 0
  have f0 := hK.row.frozen 0
  rw [hr] at c0
  have c0 : w.cell? ⟨bl, 0, none⟩ = some (.int .i64 (r : Int)) := c0
  have HA : Aside (COUNTING K w0 w bl acc ∧ K - acc.length = r ∧ K < 2 ^ 20) := ⟨hK, hr, hK20⟩
  clear hK hr hK20
  rcases Nat.eq_zero_or_pos r with h0 | h0
  · subst h0
    go_enter Tryd.func51, Tryd.ntmps51
    go_wp2_with fail
    exact ⟨rfl, .inr ⟨rfl, by have := HA.out.1.le; have := HA.out.2.1; omega, HA.out.1⟩⟩
  · have hz : ((r : Int) == 0) = false := beq_eq_false_iff_ne.2 (by omega)
    have e1 : wrap64 ((r : Int) - 1) = ((r - 1 : Nat) : Int) := by have := HA.out.2.1; have := HA.out.2.2; unfold wrap64; omega
    have FN : Aside (∀ x, COUNTING K w0 (w.setCell ⟨bl, 0, none⟩ (.int .i64 ((r - 1 : Nat) : Int))) bl (acc ++ [x])) := fun x => by
      have h1 := HA.out.1
      have h2 := HA.out.2.1
      refine ⟨by rw [List.length_append]; simp; clear e1; omega, ?_, fun b hb hne => (Below.heap_setCell _ _ _ _ (by exact hne)).trans (h1.keep b hb hne), h1.lt, h1.below.setCell (p := ⟨bl, 0, none⟩) (Nat.le_refl _) _⟩
      have h3 := h1.row.set 0 (.int .i64 ((r - 1 : Nat) : Int))
      rw [List.length_append, show K - (acc.length + [x].length) = r - 1 by simp; clear e1; omega]
      exact h3
    clear HA
    generalize r - 1 = r' at *
    go_enter Tryd.func51, Tryd.ntmps51
    go_wp2_with fail
    exact bodyPost_end (v := .tuple #[]) (by simp [results, Tryd.f51]) rfl (.inl ⟨rfl, FN.out⟩)
/-- what is wrong with a proof of so many nodes. -/
def MWA (L : List Nat) (N K : Nat) : Int := if RISEA L N ≠ 0 then RISEA L N else if K ≠ (NEEDS (TPS N) L).length then 70 else 0
theorem MWA_ok {L : List Nat} {N K : Nat} (h : MWA L N K = 0) : RISEA L N = 0 ∧ K = (NEEDS (TPS N) L).length := by
  unfold MWA at h
  split at h
  · rename_i h1; exact absurd h h1
  · rename_i h1
    split at h
    · cases h
    · rename_i h2
      exact ⟨by simpa using h1, by simpa using h2⟩
theorem MWA_rise {L : List Nat} {N K : Nat} (h : RISEA L N ≠ 0) : MWA L N K = RISEA L N := if_pos h
theorem MWA_count {L : List Nat} {N K : Nat} (h : RISEA L N = 0) (hk : K ≠ (NEEDS (TPS N) L).length) : MWA L N K = 70 := by
  unfold MWA
  rw [if_neg (by simpa using h), if_pos hk]
theorem MWA_yes {L : List Nat} {N K : Nat} (h : RISEA L N = 0) (hk : K = (NEEDS (TPS N) L).length) : MWA L N K = 0 := by
  unfold MWA
  rw [if_neg (by simpa using h), if_neg (by simpa using hk)]
def WHOLE (L : List Nat) (N K : Nat) (w : World) (e : Ending) (w' : World) : Prop := Below w.heap.size w w' ∧ ((MWA L N K = 0 ∧ e = .returned (.tuple #[])) ∨ (MWA L N K ≠ 0 ∧ e = .panicked (WRONG (MWA L N K))))
set_option maxHeartbeats 2000000 in
theorem mustwhole_ok (L : List Nat) (N : Nat) (a : Option Addr) (m c : Nat) (an : Option Addr) (K cn : Nat) (w : World) (hl : L.length = m) (hm : m < 2 ^ 20) (hc : m ≤ c) (hnil : a = none → c = 0) (hbl : ∀ x, a = some x → x.block < w.heap.size ∧ x.spot = none) (hK : K < 2 ^ 20) (hL : NUML w a L) (hT : Tabled w) (hw0 : 0 < w.heap.size) :
    Calls Tryd.prog 35 #[.agg (MBOX N a m c an K cn)] w (WHOLE L N K w) := by
  have hmf : ∀ (fn : Fn) (first cap : Array Value) (w : World), (Instr.makeFunc fn first cap).run Tryd.prog w = .ok (.func fn first cap) w := fun _ _ _ _ => rfl
  obtain ⟨w1, e1⟩ : ∃ w1, w.alloc (.cells (MBOX N a m c an K cn) 40) = w1 := ⟨_, rfl⟩
  have s1 : w1.heap.size = w.heap.size + 1 := by rw [← e1]; simp
  have h1 : Has w1 w.heap.size (MBOX N a m c an K cn) 40 := by rw [← e1]; exact Has.new w _ _
  have hb1 : Below w.heap.size w w1 := by rw [← e1]; exact (Below.refl _ _).alloc (Nat.le_refl _) _
  have hL1 : NUML w1 a L := fun hp => by
    obtain ⟨b, o, e, hlt, hcc⟩ := hL hp
    exact ⟨b, o, e, by omega, fun i x hx => (hb1.cell (p := ⟨b, o + i, none⟩) hlt).trans (hcc i x hx)⟩
  have hM : (MBOX N a m c an K cn) = #[.int .u64 (N : Int), .slice a m c, .slice an K cn] := rfl
  have cr := mustrise_ok L N a m c hl (by omega) w1 hL1
  have x0 := h1.cell 0
  have x1 := h1.cell 1
  have x2 := h1.cell 2
  rw [hM] at e1 x0 x1 x2
  have HA : Aside (L.length = m ∧ m < 2 ^ 20 ∧ m ≤ c ∧ (a = none → c = 0) ∧ (∀ x, a = some x → x.block < w.heap.size ∧ x.spot = none) ∧ K < 2 ^ 20 ∧ NUML w1 a L ∧ Tabled w1 ∧ w1.heap.size = w.heap.size + 1 ∧ Has w1 w.heap.size (MBOX N a m c an K cn) 40 ∧ Below w.heap.size w w1) := ⟨hl, hm, hc, hnil, hbl, hK, hL1, hT.below hw0 hb1, s1, h1, hb1⟩
  clear hl hm hc hnil hbl hK hL hT hw0 s1 hb1 hL1
  go_enter Tryd.func35, Tryd.ntmps35
  rw [hM]
  go_wp2_with fail
  refine cr.mono ?_
  rintro e w2 ⟨rfl, (⟨hr, rfl⟩ | ⟨hr, rfl⟩)⟩
  · clear cr
    obtain ⟨r1, r2, r3⟩ := RISEA_ok hr
    obtain ⟨w3, e3⟩ : ∃ w3, w1.alloc (.cells #[.int .i64 (K : Int)] 3) = w3 := ⟨_, rfl⟩
    have s3 : w3.heap.size = w.heap.size + 2 := by rw [← e3]; simp; have := HA.out.2.2.2.2.2.2.2.2.1; omega
    have h3 : Has w3 w1.heap.size #[.int .i64 (K : Int)] 3 := by rw [← e3]; exact Has.new w1 _ _
    have hb3 : Below w1.heap.size w1 w3 := by rw [← e3]; exact (Below.refl _ _).alloc (Nat.le_refl _) _
    have y0 : w3.cell? ⟨w.heap.size, 0, none⟩ = some (.int .u64 (N : Int)) := (h1.keep hb3).cell 0
    have y1 : w3.cell? ⟨w.heap.size, 1, none⟩ = some (.slice a m c) := (h1.keep hb3).cell 1
    obtain ⟨bj, hbj, hbn⟩ : ∃ bj, (∀ x, a = some x → x.block = bj ∧ x.spot = none) ∧ bj ≠ w1.heap.size := by
      have hs := HA.out.2.2.2.2.2.2.2.2.1
      cases a with
      | none => exact ⟨w1.heap.size + 1, fun x e => (by cases e), by omega⟩
      | some x => exact ⟨x.block, fun y e => (by cases e; exact ⟨rfl, (HA.out.2.2.2.2.1 x rfl).2⟩), by have := (HA.out.2.2.2.2.1 x rfl).1; omega⟩
    have hL3 : NUML w3 a L := fun hp => by
      obtain ⟨b, o, e, hlt, hcc⟩ := HA.out.2.2.2.2.2.2.1 hp
      exact ⟨b, o, e, Nat.lt_of_lt_of_le hlt hb3.size, fun i x hx => (hb3.cell (p := ⟨b, o + i, none⟩) hlt).trans (hcc i x hx)⟩
    have cn := needE_ok bj w1.heap.size (fun w0 acc w => COUNTING K w0 w w1.heap.size acc) (fun w0 acc w => acc.length = K ∧ COUNTING K w0 w w1.heap.size acc) (WRONG 70) (fun w0 acc w w' h hb => h.still hb) (fun w0 acc w h => ⟨fun b hb hne => h.keep b hb hne, h.below.size⟩) (fun w0 acc p w h _ => (count_ok HA.out.2.2.2.2.2.1 h (p : Int)).mono fun e w' hh => hh.imp (fun x => ⟨x.1, x.2 p⟩) (fun x => ⟨x.1, x.2⟩)) N r1 L a m c w3 HA.out.1 HA.out.2.1 r2 HA.out.2.2.1 HA.out.2.2.2.1 hbj hL3 hbn h3.lt (HA.out.2.2.2.2.2.2.2.1.below (by have := HA.out.2.2.2.2.2.2.2.2.1; omega) hb3)
      (fun w4 hb => ⟨Nat.zero_le _, h3.keep hb, fun b _ _ => rfl, (h3.keep hb).lt, Below.refl _ _⟩)
    have HR : Aside (RISEA L N = 0 ∧ Below w1.heap.size w1 w3 ∧ K < 2 ^ 20) := ⟨hr, hb3, HA.out.2.2.2.2.2.1⟩
    have BW : Aside (Below w.heap.size w w1) := HA.out.2.2.2.2.2.2.2.2.2.2
    clear r1 r2 r3 hbj hbn hr hL3 s3 h3 HA h1 hb3
    go_wp2_with fail
    refine cn.mono ?_
    rintro e w5 ⟨w4, hb4, (⟨rfl, ht⟩ | ⟨pre, p, hpre, rfl, hp1, hp2⟩)⟩
    · clear cn
      rw [List.nil_append] at ht
      have z0 := ht.row.cell 0
      obtain ⟨r, hrr⟩ : ∃ r, K - (NEEDS (TPS N) L).length = r := ⟨_, rfl⟩
      rw [hrr] at z0
      have z0 : w5.cell? ⟨w1.heap.size, 0, none⟩ = some (.int .i64 (r : Int)) := z0
      have hbW : Below w.heap.size w w5 := by
        have h34 : Below w1.heap.size w1 w4 := HR.out.2.1.trans (hb4.mono HR.out.2.1.size)
        have h1w : Below w.heap.size w w4 := BW.out.trans (h34.mono BW.out.size)
        exact h1w.trans (ht.below.mono BW.out.size)
      have hle := ht.le
      rcases Nat.eq_zero_or_pos r with h0 | h0
      · subst h0
        have FN : Aside (WHOLE L N K w (.returned (.tuple #[])) w5) := ⟨hbW, .inl ⟨MWA_yes HR.out.1 (by omega), rfl⟩⟩
        clear ht hbW hb4 hle hrr HR BW
        go_wp2_with fail
        exact bodyPost_end (v := .tuple #[]) (by simp [results, Tryd.f35]) rfl FN.out
      · have hgt : (0 : Int) < (r : Int) := by omega
        have hm7 := MWA_count (K := K) HR.out.1 (by omega)
        have FN : Aside (WHOLE L N K w (.panicked (WRONG 70)) w5) := ⟨hbW, .inr ⟨by rw [hm7]; decide, by rw [hm7]⟩⟩
        clear ht hbW hb4 hle hrr HR BW hm7
        go_wp2_with fail
        exact ⟨rfl, FN.out⟩
    · have hbW : Below w.heap.size w w5 := by
        have h34 : Below w1.heap.size w1 w4 := HR.out.2.1.trans (hb4.mono HR.out.2.1.size)
        have h1w : Below w.heap.size w w4 := BW.out.trans (h34.mono BW.out.size)
        exact h1w.trans (hp2.below.mono BW.out.size)
      have hlen := hpre.length_le
      rw [List.nil_append, List.length_append, hp1] at hlen
      have hm7 := MWA_count (K := K) HR.out.1 (by simp at hlen; omega)
      exact ⟨rfl, hbW, .inr ⟨by rw [hm7]; decide, by rw [hm7]⟩⟩
  · refine ⟨rfl, HA.out.2.2.2.2.2.2.2.2.2.2, .inr ⟨?_, ?_⟩⟩
    · rw [MWA_rise hr]; exact hr
    · rw [MWA_rise hr]
end Go.Proofs.YtadpfcpipklmbabDoor

/- face of package many: what it answers where the doing returns, where it panics. -/
namespace Go.Proofs.YtadpfcpipklmbabDoor
open Go.RowKit
set_option maxRecDepth 100000

theorem catch_panicking (p : Addr) (y x : Int) (older : List PanicEntry) (w : World) (hc : w.cell? p = some (.int .i64 y)) (hz : w.frozen? p = false) :
    CallsD Tryd.prog 41 #[.pointer (some p)] (.panicking ({ v := .iface 80 (.int .i64 x), recovered := false } :: older)) w fun e u' w' =>
      e = .returned (.tuple #[]) ∧ u' = .panicking ({ v := .iface 80 (.int .i64 x), recovered := true } :: older) ∧ w' = w.setCell p (.int .i64 x) := by
  have hta : ∀ (t : TypeId) (w : World), (Instr.typeAssert (.iface 80 (.int .i64 x)) t 80 false).run Tryd.prog w = .ok (.int .i64 x) w := fun t w => by rfl
  refine callsD_of_wpS Tryd.func41 rfl fun c₀ cs hu => ?_
  apply wpS_seq
  apply wpS_region
  simp [wpOpsS, go_sem, recoverD, hu, Tryd.ntmps41, Exit.thenS]
  refine wpS_of_wp ?_
  simp [Array.replicate]
  go_wp2
  simp [bodyPostS, results, Tryd.results41]
theorem catch_idle (p : Addr) (w : World) :
    CallsD Tryd.prog 41 #[.pointer (some p)] .returning w fun e u' w' => e = .returned (.tuple #[]) ∧ u' = .returning ∧ w' = w := by
  refine callsD_of_wpS Tryd.func41 rfl fun c₀ cs hu => ?_
  apply wpS_seq
  apply wpS_region
  simp [wpOpsS, go_sem, recoverD, hu, Tryd.ntmps41, Exit.thenS]
  refine wpS_of_wp ?_
  simp [Array.replicate]
  go_wp2
  cases c₀
  simp_all [bodyPostS, results, Tryd.results41]
end Go.Proofs.YtadpfcpipklmbabDoor
