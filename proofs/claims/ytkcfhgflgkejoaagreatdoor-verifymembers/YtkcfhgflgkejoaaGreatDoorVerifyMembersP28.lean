/- Texts of VerifyMembers, one behind the other: VerifyRefClimb, VerifyBag. -/
import Derived.Test.YtkcfhgflgkejoaaGreatDoorVerifyMembersP7
import Derived.Test.YtkcfhgflgkejoaaGreatDoorVerifyMembersP17
import Derived.Test.YtkcfhgflgkejoaaGreatDoorVerifyMembersP18
import Derived.Test.YtkcfhgflgkejoaaGreatDoorVerifyMembersP23
import Derived.Test.YtkcfhgflgkejoaaGreatDoorVerifyMembersP27
/- What the document's Climb answers: what the program's does. -/
namespace Go.Proofs.YtkcfhgflgkejoaaGreatDoor
open Go.RowKit
set_option maxRecDepth 100000

theorem refnodeh_ok (d : Int) (l r : List Int) (hl : IsH l) (hr : IsH r) (w : World) : Calls Tryz.prog 46 #[.int .i64 d, .agg (CELLS l).toArray, .agg (CELLS r).toArray] w fun e w' => e = .returned (.agg (CELLS (NODEH d l r)).toArray) ∧ Below w.heap.size w w' := by
  rw [cells_uarr hl, cells_uarr hr]
  refine (HX.refnode_ok d (FNC l) (FNC r) (FNC_lt hl) (FNC_lt hr) w).mono ?_
  rintro e w' ⟨rfl, hb⟩
  exact ⟨by rw [uarr_cells]; rfl, hb⟩
theorem WAYH_is {d : Int} {leaf : List Int} (hleaf : IsH leaf) {I : Nat} {l : List Int} : ∀ t, IsH (WAYH d leaf I l t)
  | 0 => hleaf
  | t + 1 => by
    rw [WAYH]
    split
    · exact NODEH_is _ _ _
    · exact NODEH_is _ _ _
theorem refclimb_err (d : Int) (leaf : List Int) (S I : Nat) (hS : S < 2 ^ 64) (hI : I < 2 ^ 64) (a : Option Addr) (n c : Nat) (hn : n ≤ 1000) (l : List Int) (w : World) (hF : Flat w a n l) (E : Int) (hE : (ENC S I n l).1 = E) (h0 : E ≠ 0) :
    Calls Tryz.prog 21 #[.int .i64 d, .agg (CELLS leaf).toArray, .agg #[.int .u64 (S : Int), .int .u64 (I : Int), .slice a n c]] w (ANSH w (E, 0, [])) := by
  obtain ⟨W0, hW0⟩ : ∃ W0, (w.alloc (.cells (CELLS leaf).toArray 23)).alloc (.cells #[.int .u64 (S : Int), .int .u64 (I : Int), .slice a n c] 46) = W0 := ⟨_, rfl⟩
  obtain ⟨bp, hbp⟩ : ∃ bp, w.heap.size + 1 = bp := ⟨_, rfl⟩
  have HB : Aside (Below w.heap.size w W0) := by rw [← hW0]; exact ((Below.refl _ _).alloc (Nat.le_refl _) _).alloc (by simp) _
  have hH : Has W0 bp #[.int .u64 (S : Int), .int .u64 (I : Int), .slice a n c] 46 := by rw [← hW0, ← hbp]; exact Has.at _ _ _ (by simp)
  have ce := refencode_ok S I hS hI a n c hn l W0 (hF.below HB.out)
  unfold ANSB at ce
  rw [hE] at ce
  generalize (ENC S I n l).2 = Z at ce
  have x0 := hH.cell 0
  have x1 := hH.cell 1
  have x2 := hH.cell 2
  clear hF hE hS hI hn hH
  go_enter Tryz.func21, Tryz.ntmps21
  go_upto_region 1 with fail
  clear hW0 hbp
  go_wp2_with fail
  refine ce.mono ?_
  rintro e w1 ⟨v, rfl, _, hb1⟩
  have R : Aside (Below w.heap.size w w1) := HB.out.trans (hb1.mono HB.out.size)
  clear ce hb1 HB x0 x1 x2
  go_wp2_with fail
  go_ret2
  exact ⟨none, 0, rfl, ⟨rfl, .inl ⟨rfl, rfl⟩⟩, R.out⟩
set_option maxHeartbeats 8000000 in
theorem refclimb_core (d : Int) (leaf : List Int) (hleaf : IsH leaf) (S I : Nat) (hIS : I < S) (hS : S ≤ 4611686018427387904) (a : Option Addr) (n c : Nat) (hn : n = (PSP I S).length) (l : List Int) (w : World) (hF : Flat w a n l) :
    Calls Tryz.prog 21 #[.int .i64 d, .agg (CELLS leaf).toArray, .agg #[.int .u64 (S : Int), .int .u64 (I : Int), .slice a n c]] w (ANSH w (0, PC S, CAT (CLM d leaf S I l) (SPAN 0 S))) := by
  have hlen := PSP_length hIS hS
  have hK := KTH_lt hIS hS
  have hR := RISE_spec hIS hS
  have hP := PC_lt_pow 64 S (by omega)
  have hEN : (ENC S I n l).1 = 0 := by
    have hPL : PLA I S = (0, PLCS (PSP I S)) := by
      unfold PLA
      rw [if_neg (by omega), if_neg (by omega)]
    unfold ENC ENCB
    rw [hPL, if_neg (by simp), if_neg (by rw [PLCS_length]; simpa using hn)]
  have hTK := TOPS_at (n := S) (by omega) hK
  rw [HGT_KTH hIS hS] at hTK
  have hPK : ∀ j, j < PC S → ∃ h k, (SPAN 0 S)[j]? = some (h, k) ∧ CLM d leaf S I l h k = PEK d leaf S I l j := fun j hj => ⟨_, _, SPAN_zero_at hS hj, CLM_peak hIS hS l (SPAN_zero_at hS hj)⟩
  have hSL := SPAN_zero_length hS
  have hTL : 0 < (TOPS 0 S).length := Nat.lt_of_le_of_lt (Nat.zero_le _) (List.getElem?_eq_some_iff.1 hTK).1
  obtain ⟨gn, o, hA⟩ : ∃ gn o, 0 < n → a = some ⟨gn, o, none⟩ ∧ gn < w.heap.size := by
    by_cases h : 0 < n
    · obtain ⟨gn, o, e, hg, _⟩ := hF.2.1 h
      exact ⟨gn, o, fun _ => ⟨e, hg⟩⟩
    · exact ⟨0, 0, fun h' => absurd h' h⟩
  obtain ⟨W0, hW0⟩ : ∃ W0, (w.alloc (.cells (CELLS leaf).toArray 23)).alloc (.cells #[.int .u64 (S : Int), .int .u64 (I : Int), .slice a n c] 46) = W0 := ⟨_, rfl⟩
  obtain ⟨b4, hb4⟩ : ∃ b4, w.heap.size = b4 := ⟨_, rfl⟩
  obtain ⟨bp, hbp⟩ : ∃ bp, b4 + 1 = bp := ⟨_, rfl⟩
  have R0 : Aside (Below w.heap.size w W0 ∧ Has W0 b4 (CELLS leaf).toArray 23 ∧ Has W0 bp #[.int .u64 (S : Int), .int .u64 (I : Int), .slice a n c] 46) := by
    rw [← hW0, ← hbp, ← hb4]
    exact ⟨((Below.refl _ _).alloc (Nat.le_refl _) _).alloc (by simp) _, (Has.new _ _ _).alloc _, Has.at _ _ _ (by simp)⟩
  have ce := refencode_ok S I (by omega) (by omega) a n c (by have := PSP_few hIS hS; omega) l W0 (hF.below R0.out.1)
  unfold ANSB at ce
  rw [hEN] at ce
  generalize (ENC S I n l).2 = Z at ce
  have CP : Aside (∀ W, Calls Tryz.prog 45 #[.int .u64 (I : Int), .int .u64 (S : Int)] W fun e w' => e = .returned (.tuple #[.int .i64 ((KTH I S : Nat) : Int), .bool true]) ∧ Below W.heap.size W w') := fun W => refpeak_ok I S hIS hS W
  have CT : Aside (∀ W, Calls Tryz.prog 31 #[.int .u64 (S : Int)] W fun e w' => ∃ a cap, e = .returned (.slice a (PC S) cap) ∧ Spots w' a (TOPS 0 S) ∧ Below W.heap.size W w') := fun W => tops_spots S hS W
  generalize hRI : RISE I S = R at *
  generalize hKT : KTH I S = K at *
  generalize KGT S K = kk at *
  have hPE : ∀ j, PEK d leaf S I l j = if j = K then WAYH d leaf I l R else HSH l (R + (if j < K then j else j - 1)) := fun j => by unfold PEK; rw [hKT, hRI]
  generalize TOPS 0 S = T at *
  generalize SPAN 0 S = ss at *
  generalize CLM d leaf S I l = M at *
  generalize PC S = m at *
  have HA : Aside (IsH leaf ∧ n + 1 = R + m ∧ K < m ∧ R ≤ 62 ∧ m ≤ 64 ∧ T[K]? = some (R, kk) ∧ 0 < T.length ∧ (∀ j, j < m → ∃ h k, ss[j]? = some (h, k) ∧ M h k = if j = K then WAYH d leaf I l R else HSH l (R + (if j < K then j else j - 1))) ∧ ss.length = m ∧ (0 < n → a = some ⟨gn, o, none⟩ ∧ gn < w.heap.size) ∧ Flat w a n l ∧ I < 2 ^ 64) := ⟨hleaf, by omega, hK, hR.2.1, hP, hTK, hTL, fun j hj => by obtain ⟨h, k, e1, e2⟩ := hPK j hj; exact ⟨h, k, e1, by rw [e2, hPE]⟩, hSL, hA, hF, by omega⟩
  have x0 := R0.out.2.2.cell 0
  have x1 := R0.out.2.2.cell 1
  have x2 := R0.out.2.2.cell 2
  clear hleaf hlen hK hR hP hEN hTK hPK hSL hTL hA hF hIS hS hn hRI hKT hPE
  go_enter Tryz.func21, Tryz.ntmps21
  go_upto_region 1 with fail
  go_wp2_with fail
  refine ce.mono ?_
  rintro e w1 ⟨v, rfl, _, hb1⟩
  have R1 : Aside (Below w.heap.size w w1 ∧ Has w1 b4 (CELLS leaf).toArray 23 ∧ Has w1 bp #[.int .u64 (S : Int), .int .u64 (I : Int), .slice a n c] 46) := ⟨R0.out.1.trans (hb1.mono R0.out.1.size), R0.out.2.1.keep hb1, R0.out.2.2.keep hb1⟩
  have HB4 : Aside (w.heap.size = b4 ∧ b4 + 1 = bp) := ⟨hb4, hbp⟩
  clear ce hb1 R0 x0 x1 x2 hW0 hb4 hbp
  have x0 := R1.out.2.2.cell 0
  have x1 := R1.out.2.2.cell 1
  have cp := CP.out w1
  go_wp2_with fail
  refine cp.mono ?_
  rintro e w2 ⟨rfl, hb2⟩
  have R2 : Aside (Below w.heap.size w w2 ∧ Has w2 b4 (CELLS leaf).toArray 23 ∧ Has w2 bp #[.int .u64 (S : Int), .int .u64 (I : Int), .slice a n c] 46) := ⟨R1.out.1.trans (hb2.mono R1.out.1.size), R1.out.2.1.keep hb2, R1.out.2.2.keep hb2⟩
  clear cp hb2 R1 x0 x1 CP
  have x0 := R2.out.2.2.cell 0
  have ct := CT.out w2
  go_wp2_with fail
  refine ct.mono ?_
  rintro e w3 ⟨at', cap', rfl, hsp, hb3⟩
  obtain ⟨gt, rfl, hgt, hcell⟩ := hsp HA.out.2.2.2.2.2.2.1
  have hck := (hcell K R kk HA.out.2.2.2.2.2.1).1
  have R3 : Aside (Below w.heap.size w w3 ∧ Has w3 b4 (CELLS leaf).toArray 23 ∧ Has w3 bp #[.int .u64 (S : Int), .int .u64 (I : Int), .slice a n c] 46 ∧ w3.cell? ⟨gt, K * 2, none⟩ = some (.int .u8 (R : Int)) ∧ gt < w3.heap.size) := ⟨R2.out.1.trans (hb3.mono R2.out.1.size), R2.out.2.1.keep hb3, R2.out.2.2.keep hb3, hck, hgt⟩
  clear ct hb3 R2 x0 CT hsp hck hgt hcell
  have x1 : w3.cell? ⟨bp, 1, none⟩ = some (.int .u64 (I : Int)) := R3.out.2.2.1.cell 1
  have h32 := HA.out.1.1
  have hs4 := R3.out.2.1
  go_upto_region 7 with (first
    | (refine wpList_load_row rfl 23 (.tmp 4) rfl b4 rfl 23 (CELLS leaf).toArray (0, 0) _ hs4 Tryz.underlying23 rfl (info_arr h32) ?_)
    | (refine wpList_store_row rfl 23 (.tmp 13) (.tmp 38) rfl _ _ rfl rfl 23 _ (Has.new w3 _ _) (info_arr h32) (by simp [CELLS, h32]) (cells_one leaf) ?_; rw [World.setRow_alloc_new]))
  have R4 : Aside (Below w3.heap.size w3 (w3.alloc (.cells (CELLS leaf).toArray 23)) ∧ Has (w3.alloc (.cells (CELLS leaf).toArray 23)) w3.heap.size (CELLS (WAYH d leaf I l 0)).toArray 23 ∧ b4 < w3.heap.size ∧ bp < w3.heap.size ∧ w.heap.size ≤ w3.heap.size) := ⟨(Below.refl _ _).alloc (Nat.le_refl _) _, Has.new _ _ _, R3.out.2.1.lt, R3.out.2.2.1.lt, R3.out.1.size⟩
  clear x1 h32 hs4
  generalize w3.alloc (.cells (CELLS leaf).toArray 23) = w4 at *
  obtain ⟨b13, hb13⟩ : ∃ b13, w3.heap.size = b13 := ⟨_, rfl⟩
  rw [hb13] at R4 ⊢
  have HB : Aside (w3.heap.size = b13) := hb13
  clear hb13
  have x1 : w4.cell? ⟨bp, 1, none⟩ = some (.int .u64 (I : Int)) := (R3.out.2.2.1.keep (by rw [HB.out]; exact R4.out.1)).cell 1
  go_wp2_with fail
  clear x1
  go_loopg [14, 15, 16] R (fun q s14 s15 s16 wx => ∃ t : Nat, s14 = .int .u64 ((I / 2 ^ t : Nat) : Int) ∧ s15 = .int .i64 (t : Int) ∧ s16 = .int .i64 (t : Int) ∧ Aside (t + q = R ∧ Below b13 w3 wx ∧ Has wx b13 (CELLS (WAYH d leaf I l t)).toArray 23))
  case atStart => exact ⟨0, by rw [Nat.pow_zero, Nat.div_one], rfl, rfl, by omega, R4.out.1, R4.out.2.1⟩
  case round =>
    obtain ⟨t, rfl, rfl, rfl, A⟩ := hrel
    have R5 : Aside (b4 < b13 ∧ bp < b13 ∧ w.heap.size ≤ b13) := R4.out.2.2
    clear R4
    have BW : Aside (Below w.heap.size w wr ∧ Below w3.heap.size w3 wr) := by
      have h : Below w3.heap.size w3 wr := by rw [HB.out]; exact A.out.2.1
      exact ⟨R3.out.1.trans (h.mono R3.out.1.size), h⟩
    have hck : wr.cell? ⟨gt, K * 2, none⟩ = some (.int .u8 (R : Int)) := (BW.out.2.cell (p := ⟨gt, K * 2, none⟩) R3.out.2.2.2.2).trans R3.out.2.2.2.1
    have k1 : (K : Int) < (m : Int) := by have := HA.out.2.2.1; omega
    have eR : wrap64 (R : Int) = (R : Int) := by have := HA.out.2.2.2.1; unfold wrap64; omega
    cases gk with
    | succ q =>
      have hlt : (t : Int) < (R : Int) := by have := A.out.1; omega
      have htn : t < n := by have := A.out.1; have := HA.out.2.1; have := HA.out.2.2.1; omega
      have hti : (t : Int) < (n : Int) := by omega
      obtain ⟨ha, hgn⟩ := HA.out.2.2.2.2.2.2.2.2.2.1 (by omega)
      have hat := Flat.at (b := gn) (o := o) (by rw [← ha]; exact HA.out.2.2.2.2.2.2.2.2.2.2.1) htn
      have hsp : Has wr bp #[.int .u64 (S : Int), .int .u64 (I : Int), .slice (some ⟨gn, o, none⟩) n c] 46 := by rw [← ha]; exact R3.out.2.2.1.keep BW.out.2
      have hL : IsH (HSH l t) := HSH_is HA.out.2.2.2.2.2.2.2.2.2.2.1.1 HA.out.2.2.2.2.2.2.2.2.2.2.1.2.2 htn
      have hX := WAYH_is HA.out.1 (d := d) (I := I) (l := l) t
      have hY := WAYH_is HA.out.1 (d := d) (I := I) (l := l) (t + 1)
      have et : wrap64 ((t : Int) + 1) = ((t + 1 : Nat) : Int) := by have := HA.out.2.2.2.1; unfold wrap64; omega
      have ed : IntKind.u64.wrap (((I / 2 ^ t : Nat) : Int).tdiv 2) = ((I / 2 ^ (t + 1) : Nat) : Int) := by
        have h1 : ((I / 2 ^ t : Nat) : Int).tdiv 2 = ((I / 2 ^ (t + 1) : Nat) : Int) := by rw [Int.tdiv_eq_ediv_of_nonneg (Int.natCast_nonneg _), Nat.pow_succ, ← Nat.div_div_eq_div_mul]; omega
        rw [h1]
        exact wr_id (Nat.lt_of_le_of_lt (Nat.div_le_self _ _) HA.out.2.2.2.2.2.2.2.2.2.2.2)
      have H2 : Aside (w.rangeAt gn (o + t * 32) (CELLS (HSH l t)) ∧ gn < w.heap.size ∧ Has wr bp #[.int .u64 (S : Int), .int .u64 (I : Int), .slice (some ⟨gn, o, none⟩) n c] 46 ∧ Has wr b13 (CELLS (WAYH d leaf I l t)).toArray 23 ∧ t + 1 + q = R ∧ Below b13 w3 wr) := ⟨hat, hgn, hsp, A.out.2.2, by have := A.out.1; omega, A.out.2.1⟩
      have hI0 : ∀ V, Below wr.heap.size wr V → (V.rangeAt gn (o + t * 32) (CELLS (HSH l t)) ∧ V.cell? ⟨bp, 2, none⟩ = some (.slice (some ⟨gn, o, none⟩) n c)) ∧ Has V b13 (CELLS (WAYH d leaf I l t)).toArray 23 := fun V hV => ⟨⟨range_below H2.out.1 (BW.out.1.trans (hV.mono BW.out.1.size)) H2.out.2.1, (H2.out.2.2.1.keep hV).cell 2⟩, H2.out.2.2.2.1.keep hV⟩
      have hRow : ∀ V, Below wr.heap.size wr V → (V.setRow b13 (CELLS (WAYH d leaf I l (t + 1))).toArray).rangeAt gn (o + t * 32) (CELLS (HSH l t)) ∧ (V.setRow b13 (CELLS (WAYH d leaf I l (t + 1))).toArray).cell? ⟨bp, 2, none⟩ = some (.slice (some ⟨gn, o, none⟩) n c) := fun V hV => ⟨range_below H2.out.1 (below_row (BW.out.1.trans (hV.mono BW.out.1.size)) R5.out.2.2 _) H2.out.2.1, ((H2.out.2.2.1.keep hV).row_other (by have := R5.out.2.1; omega) _).cell 2⟩
      have Z0 : Aside (∀ V, Below wr.heap.size wr V → t + 1 + q = R ∧ Below b13 w3 (V.setRow b13 (CELLS (WAYH d leaf I l (t + 1))).toArray) ∧ Has (V.setRow b13 (CELLS (WAYH d leaf I l (t + 1))).toArray) b13 (CELLS (WAYH d leaf I l (t + 1))).toArray 23) := fun V hV => ⟨H2.out.2.2.2.2.1, below_row (H2.out.2.2.2.2.2.trans (hV.mono (by have := H2.out.2.2.2.1.lt; omega))) (Nat.le_refl _) _, (H2.out.2.2.2.1.keep hV).row _⟩
      have II : Aside (∀ V, Below wr.heap.size wr V → (V.rangeAt gn (o + t * 32) (CELLS (HSH l t)) ∧ V.cell? ⟨bp, 2, none⟩ = some (.slice (some ⟨gn, o, none⟩) n c)) ∧ Has V b13 (CELLS (WAYH d leaf I l t)).toArray 23) := hI0
      have IR : Aside (∀ V, Below wr.heap.size wr V → (V.setRow b13 (CELLS (WAYH d leaf I l (t + 1))).toArray).rangeAt gn (o + t * 32) (CELLS (HSH l t)) ∧ (V.setRow b13 (CELLS (WAYH d leaf I l (t + 1))).toArray).cell? ⟨bp, 2, none⟩ = some (.slice (some ⟨gn, o, none⟩) n c)) := hRow
      have IH : Aside (IsH (HSH l t) ∧ IsH (WAYH d leaf I l t) ∧ IsH (WAYH d leaf I l (t + 1))) := ⟨hL, hX, hY⟩
      clear hI0 hRow hL hX hY H2 hat hsp ha hgn htn A R3 R5 BW HB HA HB4
      by_cases hq : I / 2 ^ t % 2 = 0
      · have em : (((I / 2 ^ t : Nat) : Int).tmod 2 == 0) = true := by rw [beq_iff_eq, Int.tmod_eq_emod_of_nonneg (Int.natCast_nonneg _)]; omega
        have eY : Aside (WAYH d leaf I l (t + 1) = NODEH d (WAYH d leaf I l t) (HSH l t)) := by show WAYH d leaf I l (t + 1) = _; rw [WAYH, if_pos hq]
        clear hq
        generalize ((I / 2 ^ t : Nat) : Int) = z14 at *
        go_upto_region 13 with fail
        refine refclimb_left wr gn o n c b13 bp t d (HSH l t) (WAYH d leaf I l t) (WAYH d leaf I l (t + 1)) IH.out.1.1 IH.out.2.1.1 IH.out.2.2.1 hti (fun V => Below wr.heap.size wr V) (Below.refl _ _).drew II.out IR.out (fun V hV => ?_) (fun _ _ _ _ _ h => h) ?_
        · refine (refnodeh_ok d (WAYH d leaf I l t) (HSH l t) IH.out.2.1 IH.out.1 V).mono ?_
          rintro e V' ⟨rfl, hb⟩
          exact ⟨by rw [eY.out], hV.trans (hb.mono hV.size)⟩
        · rintro W3 ⟨w0', hw0', hW3⟩
          have Z : Aside (t + 1 + q = R ∧ Below b13 w3 W3 ∧ Has W3 b13 (CELLS (WAYH d leaf I l (t + 1))).toArray 23) := by rw [hW3]; exact Z0.out w0' hw0'
          clear hW3 hw0' II IR IH Z0 eY
          go_wp2_with fail
          go_roundg q
          case measure => exact Nat.lt_succ_self _
          case rel => exact ⟨t + 1, by first | rfl | (rw [ed]), by first | rfl | (rw [et]), by first | rfl | (rw [et]), Z.out⟩
      · have em : (((I / 2 ^ t : Nat) : Int).tmod 2 == 0) = false := by rw [beq_eq_false_iff_ne, Int.tmod_eq_emod_of_nonneg (Int.natCast_nonneg _)]; omega
        have eY : Aside (WAYH d leaf I l (t + 1) = NODEH d (HSH l t) (WAYH d leaf I l t)) := by show WAYH d leaf I l (t + 1) = _; rw [WAYH, if_neg hq]
        clear hq
        generalize ((I / 2 ^ t : Nat) : Int) = z14 at *
        go_upto_region 14 with fail
        refine refclimb_right wr gn o n c b13 bp t d (HSH l t) (WAYH d leaf I l t) (WAYH d leaf I l (t + 1)) IH.out.1.1 IH.out.2.1.1 IH.out.2.2.1 hti (fun V => Below wr.heap.size wr V) (Below.refl _ _).drew II.out IR.out (fun V hV => ?_) (fun _ _ _ _ _ h => h) ?_
        · refine (refnodeh_ok d (HSH l t) (WAYH d leaf I l t) IH.out.1 IH.out.2.1 V).mono ?_
          rintro e V' ⟨rfl, hb⟩
          exact ⟨by rw [eY.out], hV.trans (hb.mono hV.size)⟩
        · rintro W3 ⟨w0', hw0', hW3⟩
          have Z : Aside (t + 1 + q = R ∧ Below b13 w3 W3 ∧ Has W3 b13 (CELLS (WAYH d leaf I l (t + 1))).toArray 23) := by rw [hW3]; exact Z0.out w0' hw0'
          clear hW3 hw0' II IR IH Z0 eY
          go_wp2_with fail
          go_roundg q
          case measure => exact Nat.lt_succ_self _
          case rel => exact ⟨t + 1, by first | rfl | (rw [ed]), by first | rfl | (rw [et]), by first | rfl | (rw [et]), Z.out⟩
    | zero =>
      obtain rfl : t = R := by have := A.out.1; omega
      have hlt : ¬ (t : Int) < (t : Int) := by omega
      obtain ⟨wv, hwv⟩ : ∃ wv, wv = wr := ⟨_, rfl⟩
      rw [← hwv] at A BW hck ⊢
      clear hwv
      have RV : Aside (Has wv bp #[.int .u64 (S : Int), .int .u64 (I : Int), .slice a n c] 46 ∧ Has wv b13 (CELLS (WAYH d leaf I l t)).toArray 23 ∧ Below w.heap.size w wv) := ⟨R3.out.2.2.1.keep BW.out.2, A.out.2.2, BW.out.1⟩
      clear A R3 R5 BW HB HB4
      generalize ((I / 2 ^ t : Nat) : Int) = z14 at *
      go_wp2_with fail
      clear hck eR hlt
      go_loopg [15, 17, 18] m (fun q s15 s17 s18 wx => ∃ j : Nat, s15 = .int .i64 ((t + (if j ≤ K then j else j - 1) : Nat) : Int) ∧ s18 = .int .i64 (j : Int) ∧ Aside (j + q = m ∧ wx.ownsRow wv.heap.size 23 32 s17 j (CELLS (CAT M (ss.take j))) ∧ Below wv.heap.size wv wx))
      case atStart => exact ⟨0, by simp, rfl, by omega, ⟨rfl, .inl ⟨rfl, rfl⟩⟩, Below.refl _ _⟩
      case round =>
        obtain ⟨j, rfl, rfl, A⟩ := hrel
        cases gk with
        | zero =>
          obtain rfl : j = m := by have := A.out.1; omega
          have hjm : ¬ (j : Int) < (j : Int) := by omega
          have RR : Aside (∃ a c, u17 = .slice a j c ∧ wr.ownsRow w.heap.size 23 32 (.slice a j c) j (CELLS (CAT M ss)) ∧ Below w.heap.size w wr) := by
            obtain ⟨_, h1, h2⟩ := A.out
            rw [List.take_of_length_le (by have := HA.out.2.2.2.2.2.2.2.2.1; omega)] at h1
            obtain ⟨a, c, rfl, _⟩ := own_shapeh h1
            exact ⟨a, c, rfl, own_mono h1 RV.out.2.2.size, RV.out.2.2.trans (h2.mono RV.out.2.2.size)⟩
          clear A RV HA
          generalize ((t + (if j ≤ K then j else j - 1) : Nat) : Int) = z15
          go_wp2_with fail
          go_ret2
          obtain ⟨a, c, e, h1, h2⟩ := RR.out
          exact ⟨a, c, by rw [e]; rfl, h1, h2⟩
        | succ q =>
          have hjm : (j : Int) < (m : Int) := by have := A.out.1; omega
          obtain ⟨h, k, e1, e2⟩ := HA.out.2.2.2.2.2.2.2.1 j (by omega)
          have eC := CAT_next (M := M) e1
          have ej : wrap64 ((j : Int) + 1) = ((j + 1 : Nat) : Int) := by have := HA.out.2.2.2.2.1; unfold wrap64; omega
          have R6 : Aside (j + 1 + q = m ∧ wr.ownsRow wv.heap.size 23 32 u17 j (CELLS (CAT M (ss.take j))) ∧ Below wv.heap.size wv wr ∧ j ≤ 64) := ⟨by have := A.out.1; omega, A.out.2.1, A.out.2.2, by have := HA.out.2.2.2.2.1; omega⟩
          clear A e1
          by_cases hjK : j = K
          · have hjk : ((j : Int) == (K : Int)) = true := by rw [beq_iff_eq]; omega
            rw [if_pos hjK] at e2
            rw [e2] at eC
            have EC : Aside (CAT M (ss.take (j + 1)) = CAT M (ss.take j) ++ WAYH d leaf I l t) := eC
            have x32 := (WAYH_is HA.out.1 (d := d) (I := I) (l := l) t).1
            have h13 : Has wr b13 (CELLS (WAYH d leaf I l t)).toArray 23 := RV.out.2.1.keep R6.out.2.2.1
            have ep : ((t + (if j ≤ K then j else j - 1) : Nat) : Int) = ((t + (if j + 1 ≤ K then j + 1 else j + 1 - 1) : Nat) : Int) := by rw [if_pos (by omega), if_neg (by omega)]; rfl
            clear e2 eC HA
            obtain ⟨z15, hz⟩ : ∃ z15 : Int, ((t + (if j + 1 ≤ K then j + 1 else j + 1 - 1) : Nat) : Int) = z15 := ⟨_, rfl⟩
            rw [ep, hz]
            have HZ : Aside (((t + (if j + 1 ≤ K then j + 1 else j + 1 - 1) : Nat) : Int) = z15) := hz
            clear ep hjK hz
            generalize WAYH d leaf I l t = X at *
            go_wp2_with (first
              | (refine wpList_load_row rfl 23 (.tmp 13) rfl b13 rfl 23 (CELLS X).toArray (0, 0) _ h13 Tryz.underlying23 rfl (info_arr x32) ?_)
              | (refine build_one _ rfl 32 23 (.tmp 84) rfl (CELLS X).toArray rfl 32 _ _ Tryz.underlying32 info_hashv (by simp [CELLS, x32]) rfl (by decide) (by decide) ?_)
              | (at_builtin; refine app_hash _ rfl (.tmp 83) (.tmp 85) rfl wv.heap.size u17 j _ rfl (R6.out.2.1.alloc _) _ 1 X x32 rfl (Has.new _ _ _) (by have := R6.out.2.2.2; omega) (by have := R6.out.2.2.1.size; simp; omega) ?_; intro g4 c4 w5 hown hgrow hat hg))
            have Z : Aside (j + 1 + q = m ∧ w5.ownsRow wv.heap.size 23 32 (.slice (some ⟨g4, 0, none⟩) (j + 1) c4) (j + 1) (CELLS (CAT M (ss.take (j + 1)))) ∧ Below wv.heap.size wv w5) := by
              obtain ⟨r1, r2, r3, _⟩ := R6.out
              exact ⟨r1, by rw [EC.out, CELLS_append]; exact hown, (r3.alloc r3.size _).grown hgrow (by have := r3.size; simp; omega) (fun k e => (r2.lt k e).1)⟩
            clear hown hgrow hat hg R6 EC h13 RV
            go_roundg q
            case measure => exact Nat.lt_succ_self _
            case rel => exact ⟨j + 1, by rw [HZ.out], by first | rfl | (rw [ej]), Z.out⟩
          · have hjk : ((j : Int) == (K : Int)) = false := by rw [beq_eq_false_iff_ne]; omega
            rw [if_neg hjK] at e2
            obtain ⟨p, hp⟩ : ∃ p, t + (if j < K then j else j - 1) = p := ⟨_, rfl⟩
            have hp1 : t + (if j ≤ K then j else j - 1) = p := by
              rw [← hp]
              by_cases h : j < K
              · rw [if_pos h, if_pos (by omega)]
              · rw [if_neg h, if_neg (by omega)]
            have hp2 : t + (if j + 1 ≤ K then j + 1 else j + 1 - 1) = p + 1 := by
              rw [← hp]
              by_cases h : j < K
              · rw [if_pos h, if_pos (by omega)]
                omega
              · rw [if_neg h, if_neg (by omega)]
                omega
            have hpn : p < n := by
              have h1 := HA.out.2.1
              have h2 := HA.out.2.2.1
              have h3 := R6.out.1
              rw [← hp]
              split <;> omega
            rw [hp] at e2
            rw [e2] at eC
            have EC : Aside (CAT M (ss.take (j + 1)) = CAT M (ss.take j) ++ HSH l p) := eC
            obtain ⟨ha, hgn⟩ := HA.out.2.2.2.2.2.2.2.2.2.1 (by omega)
            have hFr : Flat wr (some ⟨gn, o, none⟩) n l := by rw [← ha]; exact HA.out.2.2.2.2.2.2.2.2.2.2.1.below (RV.out.2.2.trans (R6.out.2.2.1.mono RV.out.2.2.size))
            have hat := hFr.at hpn
            have y2 : wr.cell? ⟨bp, 2, none⟩ = some (.slice (some ⟨gn, o, none⟩) n c) := by rw [← ha]; exact (RV.out.1.keep R6.out.2.2.1).cell 2
            have x32 := (HSH_is hFr.1 hFr.2.2 hpn).1
            have hpi : (p : Int) < (n : Int) := by omega
            have e1 : wrap64 ((p : Int) + 1) = ((p + 1 : Nat) : Int) := by have h1 := HA.out.2.1; have h2 := HA.out.2.2.2.1; have h3 := HA.out.2.2.2.2.1; unfold wrap64; omega
            have HP : Aside (t + (if j + 1 ≤ K then j + 1 else j + 1 - 1) = p + 1) := hp2
            clear e2 eC HA hp2 hp hFr ha hgn hpn hjK
            rw [hp1]
            clear hp1
            generalize HSH l p = X at *
            go_wp2_with (first
              | (refine wpList_load_mid rfl 23 (.tmp 91) rfl gn (o + p * 32) rfl (CELLS X) _ hat Tryz.underlying23 rfl (info_cells x32) ?_)
              | (refine build_one _ rfl 32 23 (.tmp 92) rfl (CELLS X).toArray rfl 32 _ _ Tryz.underlying32 info_hashv (by simp [CELLS, x32]) rfl (by decide) (by decide) ?_)
              | (at_builtin; refine app_hash _ rfl (.tmp 87) (.tmp 93) rfl wv.heap.size u17 j _ rfl (R6.out.2.1.alloc _) _ 1 X x32 rfl (Has.new _ _ _) (by have := R6.out.2.2.2; omega) (by have := R6.out.2.2.1.size; simp; omega) ?_; intro g4 c4 w5 hown hgrow hat4 hg))
            have Z : Aside (j + 1 + q = m ∧ w5.ownsRow wv.heap.size 23 32 (.slice (some ⟨g4, 0, none⟩) (j + 1) c4) (j + 1) (CELLS (CAT M (ss.take (j + 1)))) ∧ Below wv.heap.size wv w5) := by
              obtain ⟨r1, r2, r3, _⟩ := R6.out
              exact ⟨r1, by rw [EC.out, CELLS_append]; exact hown, (r3.alloc r3.size _).grown hgrow (by have := r3.size; simp; omega) (fun k e => (r2.lt k e).1)⟩
            clear hown hgrow hat4 hg R6 EC hat RV
            go_roundg q
            case measure => exact Nat.lt_succ_self _
            case rel => exact ⟨j + 1, by rw [HP.out]; first | rfl | (rw [e1]), by first | rfl | (rw [ej]), Z.out⟩
theorem refclimb_ok (d : Int) (leaf : List Int) (hleaf : IsH leaf) (S I : Nat) (hS : S < 2 ^ 64) (hI : I < 2 ^ 64) (a : Option Addr) (n c : Nat) (hn : n ≤ 1000) (l : List Int) (w : World) (hF : Flat w a n l) :
    Calls Tryz.prog 21 #[.int .i64 d, .agg (CELLS leaf).toArray, .agg #[.int .u64 (S : Int), .int .u64 (I : Int), .slice a n c]] w (ANSH w (CLA d leaf S I n l)) := by
  unfold CLA
  by_cases hE : (PLA I S).1 = 0
  · rw [if_neg (by simpa using hE)]
    have hIS : I < S ∧ S ≤ 4611686018427387904 := by
      unfold PLA at hE
      split at hE
      · simp at hE
      · split at hE
        · simp at hE
        · omega
    have hPL : PLA I S = (0, PLCS (PSP I S)) := by
      unfold PLA
      rw [if_neg (by omega), if_neg (by omega)]
    have hlen : (PLA I S).2.length = (PSP I S).length := by rw [hPL]; exact PLCS_length _
    by_cases hn2 : n = (PLA I S).2.length
    · rw [if_neg (by simpa using hn2)]
      exact refclimb_core d leaf hleaf S I hIS.1 hIS.2 a n c (by omega) l w hF
    · rw [if_pos hn2]
      exact refclimb_err d leaf S I hS hI a n c hn l w hF 70 (by unfold ENC ENCB; rw [if_neg (by simpa using hE), if_pos hn2]) (by decide)
  · rw [if_pos hE]
    exact refclimb_err d leaf S I hS hI a n c hn l w hF _ (by unfold ENC ENCB; rw [if_pos hE]) hE
end Go.Proofs.YtkcfhgflgkejoaaGreatDoor

/- What folded and Bag of package mmr and under of package verify answer. -/
namespace Go.Proofs.YtkcfhgflgkejoaaGreatDoor
open Go.RowKit
set_option maxRecDepth 100000

/-- the last one, and k more of n folded into it. -/
def FA (d : Int) (l : List Int) (n : Nat) : Nat → List Int
  | 0 => HSH l (n - 1)
  | k + 1 => FOLDH d (HSH l (n - 2 - k)) (FA d l n k)
/-- all of them in one. -/
def FLD (d : Int) (l : List Int) (n : Nat) : List Int := if n = 0 then ZND else FA d l n (n - 1)
theorem FA_is {d : Int} {l : List Int} {n : Nat} (hl : l.length = 32 * n) (hr : ∀ x ∈ l, 0 ≤ x ∧ x ≤ 255) (hn : 0 < n) : ∀ k, IsH (FA d l n k)
  | 0 => HSH_is hl hr (by omega)
  | k + 1 => FOLDH_is _ _ _
theorem FLD_is {d : Int} {l : List Int} {n : Nat} (hl : l.length = 32 * n) (hr : ∀ x ∈ l, 0 ≤ x ∧ x ≤ 255) : IsH (FLD d l n) := by
  unfold FLD
  split
  · exact ZND_is
  · exact FA_is hl hr (by omega) _
theorem results_one {fn : Func} {p : Tmp} {ty : TypeId} (h : fn.results = #[.cell p ty]) (tmps : Array Value) (w : World) (g : Nat) (t : TypeId) (cs : Array Value) (fr : Nat × Nat) (k : Nat) (el : TypeId)
    (hp : tmps.getD p undef = .pointer (some ⟨g, 0, none⟩)) (hg : w.heap[g]? = some (.cells cs t fr))
    (hu : Tryz.prog.underlying ty = some (.array k el)) (hi : (Tryz.prog.info? ty).map (·.size) = some cs.size) :
    (results fn tmps).run Tryz.prog w = .ok (.agg cs) w := by
  have hp' : tmps[p]?.getD undef = .pointer (some ⟨g, 0, none⟩) := by simpa using hp
  simp [results, h, hp', asAddr, run_loadVar_row w g t ty cs fr (.array k el) hg hu rfl hi]
set_option maxHeartbeats 4000000 in
theorem folded_ok (d : Int) (a : Option Addr) (n c : Nat) (hn : n ≤ 1000) (l : List Int) (w : World) (hF : Flat w a n l) (hX : HX.Tabled w) :
    Calls Tryz.prog 90 #[.int .i64 d, .slice a n c] w fun e w' => e = .returned (.agg (CELLS (FLD d l n)).toArray) ∧ Below w.heap.size w w' := by
  have R0 : Aside (Below w.heap.size w (w.alloc (.cells ZARR 23)) ∧ Has (w.alloc (.cells ZARR 23)) w.heap.size (CELLS ZND).toArray 23) := ⟨(Below.refl _ _).alloc (Nat.le_refl _) _, by rw [ZARR_eq]; exact Has.new _ _ _⟩
  by_cases h0 : n = 0
  · subst h0
    have e : FLD d l 0 = ZND := rfl
    rw [e]
    clear hF hX hn e
    go_enter Tryz.func90, Tryz.ntmps90
    go_upto_region 2 with fail
    rw [show (#[.int .u8 0, .int .u8 0, .int .u8 0, .int .u8 0, .int .u8 0, .int .u8 0, .int .u8 0, .int .u8 0, .int .u8 0, .int .u8 0, .int .u8 0, .int .u8 0, .int .u8 0, .int .u8 0, .int .u8 0, .int .u8 0, .int .u8 0, .int .u8 0, .int .u8 0, .int .u8 0, .int .u8 0, .int .u8 0, .int .u8 0, .int .u8 0, .int .u8 0, .int .u8 0, .int .u8 0, .int .u8 0, .int .u8 0, .int .u8 0, .int .u8 0, .int .u8 0] : Array Value) = ZARR from rfl]
    generalize w.alloc (.cells ZARR 23) = W0 at *
    go_wp2_with (rw [show (#[.int .u8 0, .int .u8 0, .int .u8 0, .int .u8 0, .int .u8 0, .int .u8 0, .int .u8 0, .int .u8 0, .int .u8 0, .int .u8 0, .int .u8 0, .int .u8 0, .int .u8 0, .int .u8 0, .int .u8 0, .int .u8 0, .int .u8 0, .int .u8 0, .int .u8 0, .int .u8 0, .int .u8 0, .int .u8 0, .int .u8 0, .int .u8 0, .int .u8 0, .int .u8 0, .int .u8 0, .int .u8 0, .int .u8 0, .int .u8 0, .int .u8 0, .int .u8 0] : Array Value) = (CELLS ZND).toArray from rfl]; refine wpList_store_row rfl 23 (.tmp 4) (.tmp 11) rfl _ _ rfl rfl 23 _ R0.out.2 (info_arr rfl) rfl (cells_one ZND) ?_)
    refine bodyPost_ret (v := .agg (CELLS ZND).toArray) (results_one rfl _ _ w.heap.size 23 _ (0, 0) _ _ rfl (Has.row R0.out.2 _) Tryz.underlying23 (info_arr rfl)) rfl ⟨rfl, below_row R0.out.1 (Nat.le_refl _) _⟩
  · obtain ⟨m, hm⟩ : ∃ m, n = m + 1 := ⟨n - 1, by omega⟩
    obtain ⟨gn, o, rfl, hgn, hcn⟩ := hF.2.1 (by omega)
    have hz : ¬ (n : Int) = 0 := by omega
    have e1 : wrap64 ((n : Int) - 1) = (m : Int) := by unfold wrap64; omega
    have hml : (m : Int) < (n : Int) := by omega
    have hm0 : (0 : Int) ≤ (m : Int) := by omega
    have e : FLD d l n = FA d l n m := by unfold FLD; rw [if_neg h0, show n - 1 = m by omega]
    rw [e]
    have HA : Aside (n = m + 1 ∧ n ≤ 1000 ∧ Flat w (some ⟨gn, o, none⟩) n l ∧ HX.Tabled w ∧ gn < w.heap.size ∧ ∀ k, IsH (FA d l n k)) := ⟨hm, hn, hF, hX, hgn, FA_is hF.1 hF.2.2 (by omega)⟩
    clear hm hn hF hX hgn hcn h0 e
    go_enter Tryz.func90, Tryz.ntmps90
    go_upto_region 3 with fail
    rw [show (#[.int .u8 0, .int .u8 0, .int .u8 0, .int .u8 0, .int .u8 0, .int .u8 0, .int .u8 0, .int .u8 0, .int .u8 0, .int .u8 0, .int .u8 0, .int .u8 0, .int .u8 0, .int .u8 0, .int .u8 0, .int .u8 0, .int .u8 0, .int .u8 0, .int .u8 0, .int .u8 0, .int .u8 0, .int .u8 0, .int .u8 0, .int .u8 0, .int .u8 0, .int .u8 0, .int .u8 0, .int .u8 0, .int .u8 0, .int .u8 0, .int .u8 0, .int .u8 0] : Array Value) = ZARR from rfl]
    generalize w.alloc (.cells ZARR 23) = W0 at *
    have hat : W0.rangeAt gn (o + m * 32) (CELLS (FA d l n 0)) := by
      have h1 := (HA.out.2.2.1.below R0.out.1).at (show m < n by have := HA.out.1; omega)
      have h2 : FA d l n 0 = HSH l m := by have := HA.out.1; rw [FA, show n - 1 = m by omega]
      rw [h2]
      exact h1
    have h32 := (HA.out.2.2.2.2.2 0).1
    generalize hA0 : FA d l n 0 = A0 at *
    go_wp2_with (first
      | (refine wpList_load_mid rfl 23 (.tmp 17) rfl gn (o + m * 32) rfl (CELLS A0) _ hat Tryz.underlying23 rfl (info_cells h32) ?_)
      | (refine wpList_store_row rfl 23 (.tmp 6) (.tmp 18) rfl _ _ rfl rfl 23 _ (Has.new W0 _ _) (info_arr h32) (by simp [CELLS, h32]) (cells_one A0) ?_; rw [World.setRow_alloc_new]))
    have R1 : Aside (Below w.heap.size w (W0.alloc (.cells (CELLS A0).toArray 23)) ∧ Has (W0.alloc (.cells (CELLS A0).toArray 23)) w.heap.size (CELLS ZND).toArray 23 ∧ Has (W0.alloc (.cells (CELLS A0).toArray 23)) W0.heap.size (CELLS (FA d l n 0)).toArray 23 ∧ w.heap.size < W0.heap.size) := ⟨R0.out.1.alloc R0.out.1.size _, R0.out.2.alloc _, by rw [hA0]; exact Has.new _ _ _, R0.out.2.lt⟩
    clear hat h32 hA0 R0
    generalize W0.alloc (.cells (CELLS A0).toArray 23) = W1 at *
    generalize W0.heap.size = b6 at *
    clear W0
    have K : Aside (w.heap.size < b6) := R1.out.2.2.2
    have E0 : Aside (wrap64 ((m : Int) - 1) = (m : Int) - 1) := by have := HA.out.1; have := HA.out.2.1; show wrap64 ((m : Int) - 1) = (m : Int) - 1; unfold wrap64; omega
    go_loopg [7] m (fun q s7 wx => ∃ x : Int, s7 = .int .i64 x ∧ Aside (q ≤ m ∧ x = (q : Int) - 1 ∧ Below w.heap.size w wx ∧ Has wx w.heap.size (CELLS ZND).toArray 23 ∧ Has wx b6 (CELLS (FA d l n (m - q))).toArray 23))
    case atStart => exact ⟨_, rfl, Nat.le_refl _, E0.out, R1.out.1, R1.out.2.1, by rw [Nat.sub_self]; exact R1.out.2.2.1⟩
    case round =>
      obtain ⟨x, rfl, A⟩ := hrel
      clear R1 E0
      cases gk with
      | zero =>
        obtain rfl : x = -1 := by have := A.out.2.1; omega
        have y32 := (HA.out.2.2.2.2.2 m).1
        have hH4 := A.out.2.2.2.1
        have hH6 : Has wr b6 (CELLS (FA d l n m)).toArray 23 := A.out.2.2.2.2
        have hb := A.out.2.2.1
        clear A HA
        generalize hY0 : FA d l n m = Y at *
        go_wp2_with (first
          | (refine wpList_load_row rfl 23 (.tmp 6) rfl b6 rfl 23 (CELLS Y).toArray (0, 0) _ hH6 Tryz.underlying23 rfl (info_arr y32) ?_)
          | (refine wpList_store_row rfl 23 (.tmp 4) (.tmp 32) rfl _ _ rfl rfl 23 _ hH4 (info_arr y32) (by simp [CELLS, y32]; rfl) (cells_one Y) ?_))
        refine bodyPost_ret (v := .agg (CELLS Y).toArray) (results_one rfl _ _ w.heap.size 23 _ (0, 0) _ _ rfl (Has.row hH4 _) Tryz.underlying23 (info_arr y32)) rfl ⟨by rw [hY0], below_row hb (Nat.le_refl _) _⟩
      | succ q =>
        obtain rfl : x = (q : Int) := by have := A.out.2.1; omega
        have hq0 : (0 : Int) ≤ (q : Int) := by omega
        have hb := A.out.2.2.1
        obtain ⟨h1, h2, h3, h4, h5, h6⟩ := HA.out
        have hqm : q + 1 ≤ m := A.out.1
        have eY : FA d l n (m - q) = FOLDH d (HSH l q) (FA d l n (m - (q + 1))) := by
          rw [show m - q = (m - (q + 1)) + 1 by omega, FA, show n - 2 - (m - (q + 1)) = q by omega]
        have hL : IsH (HSH l q) := HSH_is h3.1 h3.2.2 (by omega)
        have hR := h6 (m - (q + 1))
        have hY := h6 (m - q)
        have hb1 : (q : Int) < (n : Int) := by omega
        have cF := foldh_ok d (HSH l q) (FA d l n (m - (q + 1))) hL hR wr.drew (h4.below hb.drew)
        have hLr := ((h3.below hb).at (show q < n by omega))
        have hE1 : Aside (wrap64 ((q : Int) - 1) = (q : Int) - 1) := by show wrap64 ((q : Int) - 1) = (q : Int) - 1; unfold wrap64; omega
        rw [← eY] at cF
        clear h1 h2 h3 h4 h5 h6 eY hb HA
        generalize FA d l n (m - (q + 1)) = R at *
        generalize HSH l q = L at *
        have hH6 := A.out.2.2.2.2
        go_upto_region 8 with fail
        refine folded_region _ _ _ _ _ _ _ _ _ _ _ _ _ _ _ _ _ _ _ _ _ _ _ _ _ _ _ _ _ wr b6 gn o n c q d L R (FA d l n (m - q)) hL.1 hR.1 hY.1 hb1 hLr (has_range hH6) (fun W => Below w.heap.size w W ∧ Has W w.heap.size (CELLS ZND).toArray 23) (cF.mono ?_) (fun _ _ _ _ _ h => h) ?_
        · rintro e w' ⟨rfl, hb⟩
          have hb' : Below wr.heap.size wr w' := (Below.refl _ wr).drew.trans hb
          exact ⟨_, rfl, rfl, hH6.keep hb', A.out.2.2.1.trans (hb'.mono A.out.2.2.1.size), A.out.2.2.2.1.keep hb'⟩
        · rintro X w' ⟨rfl, g1, g2, g3⟩
          dsimp only
          have Z : Aside (q ≤ m ∧ (q : Int) - 1 = (q : Int) - 1 ∧ Below w.heap.size w (w'.setRow b6 (CELLS (FA d l n (m - q))).toArray) ∧ Has (w'.setRow b6 (CELLS (FA d l n (m - q))).toArray) w.heap.size (CELLS ZND).toArray 23 ∧ Has (w'.setRow b6 (CELLS (FA d l n (m - q))).toArray) b6 (CELLS (FA d l n (m - q))).toArray 23) := ⟨by omega, rfl, below_row g2 (by have := K.out; omega) _, g3.row_other (by have := K.out; omega) _, g1.row _⟩
          clear cF hLr hL hR hY hb1 hq0 hqm A g1 g2 g3 hH6
          have e1 := hE1.out
          generalize w'.setRow b6 (CELLS (FA d l n (m - q))).toArray = w3 at *
          go_wp2
          go_roundg q
          case measure => exact Nat.lt_succ_self _
          case rel => exact ⟨_, rfl, Z.out.1, rfl, Z.out.2.2⟩
end Go.Proofs.YtkcfhgflgkejoaaGreatDoor
