/- Texts of SpanBytes, one behind the other: SpanEncode, ProofEncode. -/
import Derived.Test.YtmkgldjocigffaaDoorSpanBytesP9
/- Encode of package span. -/
namespace Go.Proofs.YtmkgldjocigffaaDoor
open Go.RowKit
set_option maxRecDepth 100000

/-- a proof as it lies in a box. -/
def RBOX (S F T : Nat) (a : Option Addr) (K c : Nat) : Array Value := #[.int .u64 (S : Int), .int .u64 (F : Int), .int .u64 (T : Int), .slice a K c]
/-- the bytes of a proof: its size, its first leaf, how many leaves, its nodes. -/
def SWRT (S F D : Nat) (l : List Int) : List Int := 83 :: (SHORT S ++ SHORT F ++ SHORT D ++ l)
theorem u64_gap20 {x k : Nat} (h : k ≤ x) (hx : x < 2 ^ 64) : IntKind.u64.wrap ((x : Int) - (k : Int)) = ((x - k : Nat) : Int) := by
  rw [wrapU]; omega
set_option maxHeartbeats 2000000 in
theorem swritten_ok (S F T : Nat) (hS : S < 2 ^ 64) (hF : F < 2 ^ 64) (hTT : T < 2 ^ 64) (hFT : F ≤ T) (an : Option Addr) (K cn : Nat) (l : List Int) (w : World) (hK : K < 2 ^ 20) (hN : Flat w an K l) :
    Calls Tryd.prog 41 #[.agg (RBOX S F T an K cn)] w fun e w' => ∃ v, e = .returned v ∧ w'.ownsRow w.heap.size 5 1 v (SWRT S F (T - F) l).length (CELLS (SWRT S F (T - F) l)) ∧ Below w.heap.size w w' := by
  have c1 := short_ok S hS
  have c2 := short_ok F hF
  have c3 := short_ok (T - F) (by omega)
  have hl1 := SHORT_length S
  have hl2 := SHORT_length F
  have hl3 := SHORT_length (T - F)
  have h91 := NTOP_le S
  have h92 := NTOP_le F
  have h93 := NTOP_le (T - F)
  have hr1 := SHORT_range hS
  have hr2 := SHORT_range hF
  have hr3 := SHORT_range (X := T - F) (by omega)
  have eg := u64_gap20 hFT hTT
  have eL : SWRT S F (T - F) l = [83] ++ SHORT S ++ SHORT F ++ SHORT (T - F) ++ l := by unfold SWRT; simp
  obtain ⟨Z, hZ⟩ : ∃ Z, SWRT S F (T - F) l = Z := ⟨_, rfl⟩
  rw [hZ]
  obtain ⟨NZ, hNZ⟩ : ∃ N, Z.length = N := ⟨_, rfl⟩
  rw [hNZ]
  obtain ⟨D, hD⟩ : ∃ D, T - F = D := ⟨_, rfl⟩
  rw [hD] at c3 hl3 h93 hr3 eg eL
  have hn1 : 0 < NTOP S + 1 := by omega
  have hn2 : 0 < NTOP F + 1 := by omega
  have hn3 : 0 < NTOP D + 1 := by omega
  have hm1 : NTOP S + 1 ≤ 10 := by omega
  have hm2 : NTOP F + 1 ≤ 10 := by omega
  have hm3 : NTOP D + 1 ≤ 10 := by omega
  generalize hSX : SHORT S = SX at *
  generalize hSY : SHORT F = SY at *
  generalize hSD : SHORT D = SD at *
  clear h91 h92 h93 hSX hSY hSD
  generalize NTOP S + 1 = nx at *
  generalize NTOP F + 1 = ny at *
  generalize NTOP D + 1 = nd at *
  have HA : Aside (Flat w an K l ∧ K < 2 ^ 20 ∧ nx ≤ 10 ∧ ny ≤ 10 ∧ nd ≤ 10 ∧ (∀ x ∈ SX, 0 ≤ x ∧ x ≤ 255) ∧ (∀ x ∈ SY, 0 ≤ x ∧ x ≤ 255) ∧ (∀ x ∈ SD, 0 ≤ x ∧ x ≤ 255)) := ⟨hN, hK, hm1, hm2, hm3, hr1, hr2, hr3⟩
  have HL : Aside ([83] ++ SX ++ SY ++ SD ++ l = Z ∧ Z.length = NZ) := ⟨by rw [← hZ, hD, eL], hNZ⟩
  have EG : Aside (IntKind.u64.wrap ((T : Int) - (F : Int)) = (D : Int)) := eg
  clear hN hK hm1 hm2 hm3 hr1 hr2 hr3 hZ hNZ eL hl1 hl2 hl3 hS hF hTT hFT hD eg
  obtain ⟨w0, hw0⟩ : ∃ w0, w.alloc (.cells (RBOX S F T an K cn) 37) = w0 := ⟨_, rfl⟩
  have h1 : Has w0 w.heap.size (RBOX S F T an K cn) 37 := by rw [← hw0]; exact Has.new w _ _
  have hb0 : Below w.heap.size w w0 := by rw [← hw0]; exact (Below.refl _ _).alloc (Nat.le_refl _) _
  have hM : (RBOX S F T an K cn) = #[.int .u64 (S : Int), .int .u64 (F : Int), .int .u64 (T : Int), .slice an K cn] := rfl
  have CC : Aside (∀ W, Below w0.heap.size w0 W → W.cell? ⟨w.heap.size, 0, none⟩ = some (.int .u64 (S : Int)) ∧ W.cell? ⟨w.heap.size, 1, none⟩ = some (.int .u64 (F : Int)) ∧ W.cell? ⟨w.heap.size, 2, none⟩ = some (.int .u64 (T : Int)) ∧ W.cell? ⟨w.heap.size, 3, none⟩ = some (.slice an K cn)) := fun W hb => ⟨(h1.keep hb).cell 0, (h1.keep hb).cell 1, (h1.keep hb).cell 2, (h1.keep hb).cell 3⟩
  have B0 : Aside (Below w.heap.size w w0) := hb0
  rw [hM] at hw0
  have R0 : Aside ((w0.alloc (.cells #[.int .u8 83] 5)).ownsRow w0.heap.size 5 1 (.slice (some ⟨w0.heap.size, 0, none⟩) 1 1) 1 (CELLS [83]) ∧ Below w0.heap.size w0 (w0.alloc (.cells #[.int .u8 83] 5))) := ⟨own_one w0 83, (Below.refl _ _).alloc (Nat.le_refl _) _⟩
  have x0 := (CC.out _ R0.out.2).1
  clear h1 hb0
  go_enter Tryd.func41, Tryd.ntmps41
  rw [hM]
  go_wp2_with fail
  generalize w0.alloc (.cells #[.int .u8 83] 5) = w1 at *
  refine (c1 _).mono ?_
  rintro e w2 ⟨g, cap, rfl, hown, hg, hb⟩
  clear c1 x0 hw0
  have R1 : Aside (w2.ownsRow w0.heap.size 5 1 (.slice (some ⟨w0.heap.size, 0, none⟩) 1 1) 1 (CELLS [83]) ∧ Below w0.heap.size w0 w2 ∧ Bytes w2 (some ⟨g, 0, none⟩) nx SX) := ⟨own_below R0.out.1 hb, R0.out.2.trans (hb.mono R0.out.2.size), own_bytes hown hg HA.out.2.2.2.2.2.1⟩
  clear hown hg hb R0
  go_wp2_with (first
    | (at_builtin; refine app_u8 _ rfl (.tmp 7) (.tmp 10) rfl w0.heap.size _ 1 [83] rfl R1.out.1 g 0 nx cap SX rfl R1.out.2.2 hn1 (by have := HA.out.2.2.1; omega) R1.out.2.1.size ?_; intro g3 cap3 w3 hown hgrow hg
       have R2 : Aside (w3.ownsRow w0.heap.size 5 1 (.slice (some ⟨g3, 0, none⟩) (1 + nx) cap3) (1 + nx) (CELLS ([83] ++ SX)) ∧ Below w0.heap.size w0 w3) := ⟨hown, R1.out.2.1.grown hgrow R1.out.2.1.size (fun k e => (R1.out.1.lt k e).1)⟩
       have x1 := (CC.out _ R2.out.2).2.1
       clear hown hgrow hg R1))
  refine (c2 _).mono ?_
  rintro e w4 ⟨g4, cap4, rfl, hown, hg, hb⟩
  clear c2 x1
  have R3 : Aside (w4.ownsRow w0.heap.size 5 1 (.slice (some ⟨g3, 0, none⟩) (1 + nx) cap3) (1 + nx) (CELLS ([83] ++ SX)) ∧ Below w0.heap.size w0 w4 ∧ Bytes w4 (some ⟨g4, 0, none⟩) ny SY) := ⟨own_below R2.out.1 hb, R2.out.2.trans (hb.mono R2.out.2.size), own_bytes hown hg HA.out.2.2.2.2.2.2.1⟩
  clear hown hg hb R2
  go_wp2_with (first
    | (at_builtin; refine app_u8 _ rfl (.tmp 12) (.tmp 15) rfl w0.heap.size _ (1 + nx) ([83] ++ SX) rfl R3.out.1 g4 0 ny cap4 SY rfl R3.out.2.2 hn2 (by have := HA.out; omega) R3.out.2.1.size ?_; intro g5 cap5 w5 hown hgrow hg
       have R4 : Aside (w5.ownsRow w0.heap.size 5 1 (.slice (some ⟨g5, 0, none⟩) (1 + nx + ny) cap5) (1 + nx + ny) (CELLS ([83] ++ SX ++ SY)) ∧ Below w0.heap.size w0 w5) := ⟨hown, R3.out.2.1.grown hgrow R3.out.2.1.size (fun k e => (R3.out.1.lt k e).1)⟩
       have x1 := (CC.out _ R4.out.2).2.1
       have x2 := (CC.out _ R4.out.2).2.2.1
       have eg := EG.out
       clear hown hgrow hg R3))
  refine (c3 _).mono ?_
  rintro e w6 ⟨g6, cap6, rfl, hown, hg, hb⟩
  clear c3 x1 x2 eg
  have R5 : Aside (w6.ownsRow w0.heap.size 5 1 (.slice (some ⟨g5, 0, none⟩) (1 + nx + ny) cap5) (1 + nx + ny) (CELLS ([83] ++ SX ++ SY)) ∧ Below w0.heap.size w0 w6 ∧ Bytes w6 (some ⟨g6, 0, none⟩) nd SD) := ⟨own_below R4.out.1 hb, R4.out.2.trans (hb.mono R4.out.2.size), own_bytes hown hg HA.out.2.2.2.2.2.2.2⟩
  clear hown hg hb R4
  go_wp2_with (first
    | (at_builtin; refine app_u8 _ rfl (.tmp 17) (.tmp 23) rfl w0.heap.size _ (1 + nx + ny) ([83] ++ SX ++ SY) rfl R5.out.1 g6 0 nd cap6 SD rfl R5.out.2.2 hn3 (by have := HA.out; omega) R5.out.2.1.size ?_; intro g7 cap7 w7 hown hgrow hg
       have R6 : Aside (w7.ownsRow w0.heap.size 5 1 (.slice (some ⟨g7, 0, none⟩) (1 + nx + ny + nd) cap7) (1 + nx + ny + nd) (CELLS ([83] ++ SX ++ SY ++ SD)) ∧ Below w0.heap.size w0 w7) := ⟨hown, R5.out.2.1.grown hgrow R5.out.2.1.size (fun k e => (R5.out.1.lt k e).1)⟩
       have x3 := (CC.out _ R6.out.2).2.2.2
       clear hown hgrow hg R5))
  clear x3
  have HP : Aside (1 + nx + ny + nd ≤ 31) := by
    obtain ⟨_, _, h4, h5, h6, _⟩ := HA.out
    show 1 + nx + ny + nd ≤ 31
    omega
  generalize [83] ++ SX ++ SY ++ SD = PRE at *
  generalize 1 + nx + ny + nd = np at *
  go_loopg [3, 28] K (fun q s3 s28 wx => ∃ i : Nat, s28 = .int .i64 (i : Int) ∧ Aside (i + q = K ∧ wx.ownsRow w0.heap.size 5 1 s3 (np + 32 * i) (CELLS (PRE ++ l.take (32 * i))) ∧ Below w0.heap.size w0 wx))
  case atStart => exact ⟨0, rfl, by omega, by simpa using R6.out.1, R6.out.2⟩
  case round =>
    obtain ⟨i, rfl, A⟩ := hrel
    clear R6
    cases gk with
    | zero =>
      obtain ⟨hi, hown, hbel⟩ := A.out
      obtain rfl : i = K := by omega
      have hlt : ¬ (i : Int) < (i : Int) := by omega
      have R : Aside (wr.ownsRow w.heap.size 5 1 u3 NZ (CELLS Z) ∧ Below w.heap.size w wr) := by
        rw [List.take_of_length_le (by have := HA.out.1.1; omega), HL.out.1] at hown
        have := own_len hown
        rw [HL.out.2] at this
        rw [← this] at hown
        exact ⟨own_mono hown B0.out.size, B0.out.trans (hbel.mono B0.out.size)⟩
      clear hi hown hbel A HA HL HP CC B0
      go_wp2
      go_ret
      exact ⟨_, rfl, R.out.1, R.out.2⟩
    | succ q =>
      obtain ⟨hi, hown, hbel⟩ := A.out
      obtain ⟨a1, a2, _⟩ := HA.out
      have hlt : (i : Int) < (K : Int) := by omega
      have hbw : Below w.heap.size w wr := B0.out.trans (hbel.mono B0.out.size)
      obtain ⟨b, o, rfl, hbl, hc⟩ := a1.2.1 (by omega)
      have hat := (a1.below hbw).at (show i < K by omega)
      have h32 := HSH_length a1.1 (show i < K by omega)
      have hrr : ∀ x ∈ HSH l i, 0 ≤ x ∧ x ≤ 255 := fun x hx => a1.2.2 x (HSH_mem hx)
      have hnx := HSH_next l i
      have e1 : wrap64 ((i : Int) + 1) = ((i + 1 : Nat) : Int) := by unfold wrap64; omega
      have R : Aside (i + 1 + q = K ∧ K < 2 ^ 20 ∧ np ≤ 31 ∧ wr.ownsRow w0.heap.size 5 1 u3 (np + 32 * i) (CELLS (PRE ++ l.take (32 * i))) ∧ Below w0.heap.size w0 wr ∧ (HSH l i).length = 32 ∧ (∀ x ∈ HSH l i, 0 ≤ x ∧ x ≤ 255) ∧ PRE ++ l.take (32 * (i + 1)) = PRE ++ l.take (32 * i) ++ HSH l i) := ⟨by omega, a2, HP.out, hown, hbel, h32, hrr, by rw [hnx, List.append_assoc]⟩
      generalize HSH l i = H at *
      clear hi hown hbel a1 a2 hbl hc hrr hnx A HA HL HP hbw CC B0
      go_wp2_with (first
        | (refine wpList_load_mid rfl 60 (.tmp 30) rfl b (o + i * 32) rfl (CELLS H) _ hat Tryd.underlying60 rfl (info_cells h32) ?_)
        | (refine wpList_store_row rfl 60 (.tmp 5) (.tmp 31) rfl _ _ rfl rfl 60 _ (Has.new wr _ _) (info_arr h32) (by simp [CELLS, h32]) (cells_one H) ?_; rw [World.setRow_alloc_new])
        | (at_builtin; refine app_u8 _ rfl (.tmp 32) (.tmp 33) rfl w0.heap.size u3 (np + 32 * i) _ rfl (R.out.2.2.2.1.alloc _) wr.heap.size 0 32 32 H rfl (box_bytes wr R.out.2.2.2.2.2.1 R.out.2.2.2.2.2.2.1 _) (by omega) (by have := R.out; omega) (by have := R.out.2.2.2.2.1.size; simp; omega) ?_; intro g8 cap8 w8 hown hgrow hg))
      have R2 : Aside (i + 1 + q = K ∧ w8.ownsRow w0.heap.size 5 1 (.slice (some ⟨g8, 0, none⟩) (np + 32 * i + 32) cap8) (np + 32 * (i + 1)) (CELLS (PRE ++ l.take (32 * (i + 1)))) ∧ Below w0.heap.size w0 w8) := by
        obtain ⟨r1, r2, r3, r4, r5, r6, r7, r8⟩ := R.out
        refine ⟨r1, ?_, (r5.alloc r5.size _).grown hgrow (by have := r5.size; simp; omega) (fun k e => (r4.lt k e).1)⟩
        rw [r8, show np + 32 * (i + 1) = np + 32 * i + 32 by omega]
        exact hown
      clear hown hgrow hg R hat h32
      go_wp2
      go_roundg q
      case measure => omega
      case rel => exact ⟨i + 1, by first | rfl | (rw [e1]), R2.out⟩
/-- what is wrong with a proof of K nodes. -/
def SWA (S F T K : Nat) : Int := if SPE F T S = 0 then (if K = (SPP F T S).length then 0 else 70) else SPE F T S
set_option maxHeartbeats 1000000 in
theorem swhole_ok (S F T : Nat) (an : Option Addr) (K cn : Nat) (w : World) (hT : Tabled w) (h0 : 0 < w.heap.size) : Calls Tryd.prog 40 #[.agg (RBOX S F T an K cn)] w fun e w' => e = .returned (.int .i64 (SWA S F T K)) ∧ Below w.heap.size w w' := by
  obtain ⟨w1, e1⟩ : ∃ w1, w.alloc (.cells (RBOX S F T an K cn) 37) = w1 := ⟨_, rfl⟩
  have hb1 : Below w.heap.size w w1 := by rw [← e1]; exact (Below.refl _ _).alloc (Nat.le_refl _) _
  have hH : Has w1 w.heap.size (RBOX S F T an K cn) 37 := by rw [← e1]; exact Has.new w _ _
  have cp := spanplaces_ok F T S w1 (hT.below h0 hb1) (by have := hb1.size; omega)
  have hM : (RBOX S F T an K cn) = #[.int .u64 (S : Int), .int .u64 (F : Int), .int .u64 (T : Int), .slice an K cn] := rfl
  have x0 : w1.cell? ⟨w.heap.size, 0, none⟩ = some (.int .u64 (S : Int)) := hH.cell 0
  have x1 : w1.cell? ⟨w.heap.size, 1, none⟩ = some (.int .u64 (F : Int)) := hH.cell 1
  have x2 : w1.cell? ⟨w.heap.size, 2, none⟩ = some (.int .u64 (T : Int)) := hH.cell 2
  have CC : Aside (∀ W, Below w1.heap.size w1 W → Below w.heap.size w W ∧ W.cell? ⟨w.heap.size, 3, none⟩ = some (.slice an K cn)) := fun W hb => ⟨hb1.trans (hb.mono hb1.size), (hH.keep hb).cell 3⟩
  rw [hM] at e1
  obtain ⟨E, hE⟩ : ∃ E, SPE F T S = E := ⟨_, rfl⟩
  have HE : Aside (E = 0 → SPA F T S = SPP F T S) := fun h => by unfold SPA; rw [if_pos (by rw [hE, h])]
  obtain ⟨P, hP⟩ : ∃ P, SPA F T S = P := ⟨_, rfl⟩
  obtain ⟨m, hm⟩ : ∃ m, P.length = m := ⟨_, rfl⟩
  have HR0 : SWA S F T K = if E = 0 then (if K = m then 0 else 70) else E := by
    unfold SWA
    rw [hE]
    by_cases h : E = 0
    · rw [if_pos h, if_pos h, ← HE.out h, hP, hm]
    · rw [if_neg h, if_neg h]
  have HR : Aside (SWA S F T K = if E = 0 then (if K = m then 0 else 70) else E) := HR0
  clear HR0
  obtain ⟨A, hA⟩ : ∃ A, SWA S F T K = A := ⟨_, rfl⟩
  rw [hE, hP] at cp
  rw [hA] at HR ⊢
  unfold ANSP20 at cp
  rw [hm] at cp
  clear hE HE hP hm hA hb1 hH hT h0
  go_enter Tryd.func40, Tryd.ntmps40
  rw [hM]
  go_wp2_with fail
  refine cp.mono ?_
  rintro e w2 ⟨a2, c2, rfl, hown, hb⟩
  obtain ⟨hbw, x3⟩ := CC.out w2 hb
  have FN : Aside (Below w.heap.size w w2) := hbw
  clear cp hown hb hbw e1 CC x0 x1 x2
  by_cases hE : E = 0
  · subst hE
    by_cases hk : K = m
    · subst hk
      have hA : 0 = A := by have := HR.out; simpa using this.symm
      have HAA : Aside ((0 : Int) = A) := hA
      clear hA HR
      go_wp2
      go_ret
      exact ⟨by first | rfl | (rw [HAA.out]; rfl) | (rw [← HAA.out]; rfl), FN.out⟩
    · have hne : ¬ (K : Int) = (m : Int) := by omega
      have hA : (70 : Int) = A := by have := HR.out; simpa [hk] using this.symm
      have HAA : Aside ((70 : Int) = A) := hA
      clear hA
      clear hk HR
      go_wp2
      go_ret
      exact ⟨by first | rfl | (rw [HAA.out]; rfl) | (rw [← HAA.out]; rfl), FN.out⟩
  · have hne : (E == 0) = false := beq_eq_false_iff_ne.2 hE
    have hA : E = A := by have := HR.out; simpa [hE] using this.symm
    have HAA : Aside (E = A) := hA
    clear hA
    clear HR
    go_wp2
    go_ret
    exact ⟨by first | rfl | (rw [HAA.out]; rfl) | (rw [← HAA.out]; rfl), FN.out⟩
/-- what Encode answers. -/
def SENC (S F T K : Nat) (l : List Int) : Int × List Int := if SWA S F T K = 0 then (0, SWRT S F (T - F) l) else (SWA S F T K, [])
/-- an error and bytes of one's own are answered. -/
def ANSB20 (w : World) (A : Int × List Int) (e : Ending) (w' : World) : Prop := ∃ a c, e = .returned (.tuple #[.slice a A.2.length c, .int .i64 A.1]) ∧ w'.ownsRow w.heap.size 5 1 (.slice a A.2.length c) A.2.length (CELLS A.2) ∧ Below w.heap.size w w'
theorem SWA_ok {S F T K : Nat} (h : SWA S F T K = 0) : S ≤ 4611686018427387904 ∧ F ≤ T ∧ T ≤ S ∧ K = (SPP F T S).length := by
  unfold SWA at h
  rcases SPE_cases F T S with ⟨e, _⟩ | ⟨e, _⟩ | ⟨e, _, h1, h2, h3⟩
  · rw [e] at h; simp at h
  · rw [e] at h; simp at h
  · rw [e] at h
    refine ⟨h1, h2, h3, ?_⟩
    by_cases hk : K = (SPP F T S).length
    · exact hk
    · rw [if_pos rfl, if_neg hk] at h; cases h
theorem own_noneb (w : World) (B : Nat) : w.ownsRow B 5 1 (.slice none ([] : List Int).length 0) ([] : List Int).length (CELLS []) := ⟨rfl, .inl ⟨rfl, rfl⟩⟩
theorem own_sl20 {w : World} {B s n : Nat} {t : TypeId} {v : Value} {xs : List Value} (h : w.ownsRow B t s v n xs) : ∃ a c, v = .slice a n c := by
  rcases h.2 with ⟨e, h0⟩ | ⟨g, cap, cur, e, _⟩
  · exact ⟨none, 0, by rw [e, h0]⟩
  · exact ⟨_, _, e⟩
set_option maxHeartbeats 1000000 in
theorem spanencode_ok (S F T : Nat) (an : Option Addr) (K cn : Nat) (l : List Int) (w : World) (hK : K < 2 ^ 20) (hN : Flat w an K l) (hT : Tabled w) (h0 : 0 < w.heap.size) : Calls Tryd.prog 16 #[.agg (RBOX S F T an K cn)] w (ANSB20 w (SENC S F T K l)) := by
  obtain ⟨w1, e1⟩ : ∃ w1, w.alloc (.cells (RBOX S F T an K cn) 37) = w1 := ⟨_, rfl⟩
  have hb1 : Below w.heap.size w w1 := by rw [← e1]; exact (Below.refl _ _).alloc (Nat.le_refl _) _
  have hH : Has w1 w.heap.size (RBOX S F T an K cn) 37 := by rw [← e1]; exact Has.new w _ _
  have cw := swhole_ok S F T an K cn w1 (hT.below h0 hb1) (by have := hb1.size; omega)
  have hM : (RBOX S F T an K cn) = #[.int .u64 (S : Int), .int .u64 (F : Int), .int .u64 (T : Int), .slice an K cn] := rfl
  have CC : Aside (∀ W, Below w1.heap.size w1 W → Below w.heap.size w W ∧ W.cell? ⟨w.heap.size, 0, none⟩ = some (.int .u64 (S : Int)) ∧ W.cell? ⟨w.heap.size, 1, none⟩ = some (.int .u64 (F : Int)) ∧ W.cell? ⟨w.heap.size, 2, none⟩ = some (.int .u64 (T : Int)) ∧ W.cell? ⟨w.heap.size, 3, none⟩ = some (.slice an K cn)) := fun W hb => ⟨hb1.trans (hb.mono hb1.size), (hH.keep hb).cell 0, (hH.keep hb).cell 1, (hH.keep hb).cell 2, (hH.keep hb).cell 3⟩
  have CW : Aside (SWA S F T K = 0 → ∀ W, Below w.heap.size w W → Calls Tryd.prog 41 #[.agg #[.int .u64 (S : Int), .int .u64 (F : Int), .int .u64 (T : Int), .slice an K cn]] W fun e w' => ∃ v, e = .returned v ∧ w'.ownsRow W.heap.size 5 1 v (SWRT S F (T - F) l).length (CELLS (SWRT S F (T - F) l)) ∧ Below W.heap.size W w') := fun h W hb => by
    obtain ⟨q1, q2, q3, _⟩ := SWA_ok h
    exact swritten_ok S F T (by omega) (by omega) (by omega) q2 an K cn l W hK (hN.below hb)
  obtain ⟨x0, x1, x2, x3⟩ := (CC.out w1 (Below.refl _ _)).2
  have HR : Aside (SENC S F T K l = if SWA S F T K = 0 then (0, SWRT S F (T - F) l) else (SWA S F T K, [])) := rfl
  rw [hM] at e1 cw
  generalize SENC S F T K l = A at *
  generalize SWA S F T K = E at *
  generalize SWRT S F (T - F) l = Z at *
  obtain ⟨nz, hnz⟩ : ∃ n, Z.length = n := ⟨_, rfl⟩
  have HZ : Aside (Z.length = nz) := hnz
  rw [hnz] at CW
  clear hb1 hH hT h0 hN hK hnz
  go_enter Tryd.func16, Tryd.ntmps16
  rw [hM]
  go_wp2_with fail
  refine cw.mono ?_
  rintro e w2 ⟨rfl, hb⟩
  clear cw x0 x1 x2 x3 e1
  obtain ⟨hbw, x0, x1, x2, x3⟩ := CC.out w2 hb
  have FN : Aside (Below w.heap.size w w2) := hbw
  clear hb hbw CC
  by_cases hE : E = 0
  · subst hE
    have c2 := CW.out rfl w2 FN.out
    have HA : Aside (A = (0, Z)) := HR.out.trans (if_pos rfl)
    clear HR CW
    go_wp2_with fail
    refine c2.mono ?_
    rintro e w3 ⟨v, rfl, hown, hb⟩
    obtain ⟨a, c, rfl⟩ := own_sl20 hown
    have R : Aside (w3.ownsRow w.heap.size 5 1 (.slice a nz c) nz (CELLS Z) ∧ Below w.heap.size w w3) := ⟨own_mono hown FN.out.size, FN.out.trans (hb.mono FN.out.size)⟩
    clear c2 hown hb FN x0 x1 x2 x3
    go_wp2_with fail
    go_ret2
    rw [HA.out]
    exact ⟨a, c, by show _ = Ending.returned (.tuple #[.slice a Z.length c, .int .i64 0]); rw [HZ.out]; rfl, by show w3.ownsRow w.heap.size 5 1 (.slice a Z.length c) Z.length (CELLS Z); rw [HZ.out]; exact R.out.1, R.out.2⟩
  · have hne : (E != 0) = true := by simp [hE]
    have HA : Aside (A = (E, [])) := HR.out.trans (if_neg hE)
    clear HR CW hE
    go_wp2_with fail
    go_ret2
    rw [HA.out]
    exact ⟨none, 0, rfl, own_noneb _ _, FN.out⟩
end Go.Proofs.YtmkgldjocigffaaDoor

/- What Encode and EncodePrefix answer, of any proof; the law's awake. -/
namespace Go.Proofs.YtmkgldjocigffaaDoor
open Go.RowKit
set_option maxRecDepth 100000

/-! the law's awake -/
end Go.Proofs.YtmkgldjocigffaaDoor
