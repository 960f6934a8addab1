/- Texts of ClashPeaks, one behind the other: VerifyRefBagRegion, VerifyRefBag, ProofReaders, ProofInTurn, ProofSteps, ProofDecodeSteps, ProofDecode, ProofOwned, VerifyMember, VerifyPrefix, ProofRefDecoded, VerifyRefPrefix. -/
import Derived.Test.YtbmjoiiagldklaaDoorClashPeaksP5
import Derived.Test.YtbmjoiiagldklaaDoorClashPeaksP7
import Derived.Test.YtbmjoiiagldklaaDoorClashPeaksP14
import Derived.Test.YtbmjoiiagldklaaDoorClashPeaksP20
import Derived.Test.YtbmjoiiagldklaaDoorClashPeaksP22
import Derived.Test.YtbmjoiiagldklaaDoorClashPeaksP32
/- The region of massifref6.Bag that draws its order, hashes as lists. -/
namespace Go.Proofs.YtbmjoiiagldklaaDoor
open Go.RowKit
set_option maxRecDepth 100000

def RBGOPS : Array Oper := #[{ dst := some 39, op := Op.move (Operand.tmp 0), type := 3, pos := "ref.go:24", after := #[], guard := none }, { dst := some 40, op := Op.move (Operand.tmp 2), type := 23, pos := "ref.go:24", after := #[], guard := none }, { dst := some 41, op := Op.move (Operand.tmp 9), type := 3, pos := "ref.go:24", after := #[], guard := none }, { dst := some 42, op := Op.indexAddr 23 (Operand.tmp 40) (Operand.tmp 41), type := 0, pos := "ref.go:24", after := #[{ on := 1, ground := Ground.data }, { on := 2, ground := Ground.data }], guard := none }, { dst := some 43, op := Op.load 26 (Operand.tmp 42), type := 26, pos := "ref.go:24", after := #[{ on := 3, ground := Ground.data }], guard := none }, { dst := some 44, op := Op.load 26 (Operand.tmp 8), type := 26, pos := "ref.go:24", after := #[], guard := none }, { dst := some 45, op := Op.call { callee := Callee.value (Operand.func 20), args := #[Operand.tmp 39, Operand.tmp 43, Operand.tmp 44], argTypes := #[3, 26, 26] }, type := 26, pos := "ref.go:24", after := #[{ on := 0, ground := Ground.data }, { on := 4, ground := Ground.data }, { on := 5, ground := Ground.data }], guard := none }, { dst := none, op := Op.store 26 (Operand.tmp 8) (Operand.tmp 45), type := 0, pos := "ref.go:24", after := #[{ on := 6, ground := Ground.data }, { on := 6, ground := Ground.chain }, { on := 0, ground := Ground.phase }, { on := 1, ground := Ground.phase }, { on := 2, ground := Ground.phase }, { on := 3, ground := Ground.phase }, { on := 4, ground := Ground.phase }, { on := 5, ground := Ground.phase }, { on := 6, ground := Ground.phase }], guard := none }]
set_option maxHeartbeats 2000000 in
theorem refbag8_next {Q : Exit → Act → World → Prop} {u1 u3 u4 u5 u6 u7 u10 u11 u12 u13 u14 u15 u16 u17 u18 u19 u20 u21 u22 u23 u24 u25 u26 u27 u28 u29 u30 u31 u32 u33 u34 u35 u36 u37 u38 u39 u40 u41 u42 u43 u44 u45 u46 u47 u48 u49 : Value} (W : World) (gn o n c b q : Nat) (d : Int) (L X Y : List Int) (hL : L.length = 32) (hX : X.length = 32) (hY : Y.length = 32) (hq : (q : Int) < (n : Int)) (I : World → Prop) (h0 : I W.drew) (hI : ∀ w, I w → w.rangeAt gn (o + q * 32) (CELLS L) ∧ Has w b (CELLS X).toArray 26) (hRow : ∀ w, I w → (w.setRow b (CELLS Y).toArray).rangeAt gn (o + q * 32) (CELLS L))
    (q1 : ∀ w, I w → Calls Tryd.prog 20 #[.int .i64 d, .agg (CELLS L).toArray, .agg (CELLS X).toArray] w fun e w' => e = .returned (.agg (CELLS Y).toArray) ∧ I w') (hQ : ∀ c (a : Act) (t : Tmp) (v : Value) w, Q (.panic c) (a.put (some t) v) w → Q (.panic c) a w)
    (hfin : ∀ (w : World), (∃ w0 : World, I w0 ∧ w = w0.setRow b (CELLS Y).toArray) → Q .normal { tmps := #[.int .i64 d, u1, .slice (some ⟨gn, o, none⟩) n c, u3, u4, u5, u6, u7, .pointer (some ⟨b, 0, none⟩), .int .i64 (q : Int), u10, u11, u12, u13, u14, u15, u16, u17, u18, u19, u20, u21, u22, u23, u24, u25, u26, u27, u28, u29, u30, u31, u32, u33, u34, u35, u36, u37, u38, .int .i64 d, .slice (some ⟨gn, o, none⟩) n c, .int .i64 (q : Int), .pointer (some ⟨gn, (o + q * 32), none⟩), .agg (CELLS L).toArray, .agg (CELLS X).toArray, .agg (CELLS Y).toArray, u46, u47, u48, u49], defers := [] } w) : (Code.region 11 RBGOPS true).wp Tryd.prog Q { tmps := #[.int .i64 d, u1, .slice (some ⟨gn, o, none⟩) n c, u3, u4, u5, u6, u7, .pointer (some ⟨b, 0, none⟩), .int .i64 (q : Int), u10, u11, u12, u13, u14, u15, u16, u17, u18, u19, u20, u21, u22, u23, u24, u25, u26, u27, u28, u29, u30, u31, u32, u33, u34, u35, u36, u37, u38, u39, u40, u41, u42, u43, u44, u45, u46, u47, u48, u49], defers := [] } W := by
  have k5_6_7 : ∀ (w : World), (∃ w0 : World, I w0 ∧ w = w0.setRow b (CELLS Y).toArray) → wpAnyH Tryd.prog .any RBGOPS Q (fun w : World => w.rangeAt gn (o + q * 32) (CELLS L)) 0 #[true, true, true, true, true, true, true, true] { tmps := #[.int .i64 d, u1, .slice (some ⟨gn, o, none⟩) n c, u3, u4, u5, u6, u7, .pointer (some ⟨b, 0, none⟩), .int .i64 (q : Int), u10, u11, u12, u13, u14, u15, u16, u17, u18, u19, u20, u21, u22, u23, u24, u25, u26, u27, u28, u29, u30, u31, u32, u33, u34, u35, u36, u37, u38, .int .i64 d, .slice (some ⟨gn, o, none⟩) n c, .int .i64 (q : Int), .pointer (some ⟨gn, (o + q * 32), none⟩), .agg (CELLS L).toArray, .agg (CELLS X).toArray, .agg (CELLS Y).toArray, u46, u47, u48, u49], defers := [] } w := fun  w hp => by
    exact wpAnyH_done (by kernel_rfl) (hfin  w hp) _
  have k5_6 : ∀ (w : World), (I w) → wpAnyH Tryd.prog .any RBGOPS Q (fun w : World => w.rangeAt gn (o + q * 32) (CELLS L)) 1 #[true, true, true, true, true, true, true, false] { tmps := #[.int .i64 d, u1, .slice (some ⟨gn, o, none⟩) n c, u3, u4, u5, u6, u7, .pointer (some ⟨b, 0, none⟩), .int .i64 (q : Int), u10, u11, u12, u13, u14, u15, u16, u17, u18, u19, u20, u21, u22, u23, u24, u25, u26, u27, u28, u29, u30, u31, u32, u33, u34, u35, u36, u37, u38, .int .i64 d, .slice (some ⟨gn, o, none⟩) n c, .int .i64 (q : Int), .pointer (some ⟨gn, (o + q * 32), none⟩), .agg (CELLS L).toArray, .agg (CELLS X).toArray, .agg (CELLS Y).toArray, u46, u47, u48, u49], defers := [] } w := fun  w hp => by
    refine wpAnyH_ready (rs := [7]) (by kernel_rfl) (by simp) ?_
    refine AllReadyH.cons (o := { dst := none, op := Op.store 26 (Operand.tmp 8) (Operand.tmp 45), type := 0, pos := "ref.go:24", after := #[{ on := 6, ground := Ground.data }, { on := 6, ground := Ground.chain }, { on := 0, ground := Ground.phase }, { on := 1, ground := Ground.phase }, { on := 2, ground := Ground.phase }, { on := 3, ground := Ground.phase }, { on := 4, ground := Ground.phase }, { on := 5, ground := Ground.phase }, { on := 6, ground := Ground.phase }], guard := none }) rfl (fun K hK => ?_) ?_
    · exact step_of_list (by rfl) (wpList_store_row rfl 26 (.tmp 8) (.tmp 45) rfl _ _ rfl rfl 26 _ (hI _ hp).2 (info_arr hY) (by simp [CELLS, hX, hY]) (cells_one Y) ⟨rfl, (have hp : (fun (w : World) => (∃ w0 : World, I w0 ∧ w = w0.setRow b (CELLS Y).toArray))  _ := ⟨w, hp, rfl⟩; hK.out _ _ ((by obtain ⟨w0, h1, h2⟩ := hp; (first | rw [h2] | skip); exact hRow _ h1)) (fun _ => k5_6_7  _ hp))⟩)
    exact AllReadyH.nil
  have k5 : ∀ (w : World), (I w) → wpAnyH Tryd.prog .any RBGOPS Q (fun w : World => w.rangeAt gn (o + q * 32) (CELLS L)) 2 #[true, true, true, true, true, true, false, false] { tmps := #[.int .i64 d, u1, .slice (some ⟨gn, o, none⟩) n c, u3, u4, u5, u6, u7, .pointer (some ⟨b, 0, none⟩), .int .i64 (q : Int), u10, u11, u12, u13, u14, u15, u16, u17, u18, u19, u20, u21, u22, u23, u24, u25, u26, u27, u28, u29, u30, u31, u32, u33, u34, u35, u36, u37, u38, .int .i64 d, .slice (some ⟨gn, o, none⟩) n c, .int .i64 (q : Int), .pointer (some ⟨gn, (o + q * 32), none⟩), .agg (CELLS L).toArray, .agg (CELLS X).toArray, u45, u46, u47, u48, u49], defers := [] } w := fun  w hp => by
    refine wpAnyH_ready (rs := [6]) (by kernel_rfl) (by simp) ?_
    refine AllReadyH.cons (o := { dst := some 45, op := Op.call { callee := Callee.value (Operand.func 20), args := #[Operand.tmp 39, Operand.tmp 43, Operand.tmp 44], argTypes := #[3, 26, 26] }, type := 26, pos := "ref.go:24", after := #[{ on := 0, ground := Ground.data }, { on := 4, ground := Ground.data }, { on := 5, ground := Ground.data }], guard := none }) rfl (fun K hK => ?_) ?_
    · rw [if_pos (by rfl)]
      go_simp
      refine (show Calls _ _ _ w (fun e w' => e = .returned (.agg (CELLS Y).toArray) ∧ (I w')) from q1 w hp).mono ?_
      rintro e w' ⟨rfl, hp⟩
      exact hK.out _ _ ((hI _ hp).1) (fun _ => k5_6  w' hp)
    exact AllReadyH.nil
  have k : ∀ (w : World), (I w) → wpAnyH Tryd.prog .any RBGOPS Q (fun w : World => w.rangeAt gn (o + q * 32) (CELLS L)) 3 #[true, true, true, true, true, false, false, false] { tmps := #[.int .i64 d, u1, .slice (some ⟨gn, o, none⟩) n c, u3, u4, u5, u6, u7, .pointer (some ⟨b, 0, none⟩), .int .i64 (q : Int), u10, u11, u12, u13, u14, u15, u16, u17, u18, u19, u20, u21, u22, u23, u24, u25, u26, u27, u28, u29, u30, u31, u32, u33, u34, u35, u36, u37, u38, .int .i64 d, .slice (some ⟨gn, o, none⟩) n c, .int .i64 (q : Int), .pointer (some ⟨gn, (o + q * 32), none⟩), .agg (CELLS L).toArray, u44, u45, u46, u47, u48, u49], defers := [] } w := fun  w hp => by
    refine wpAnyH_ready (rs := [5]) (by kernel_rfl) (by simp) ?_
    refine AllReadyH.cons (o := { dst := some 44, op := Op.load 26 (Operand.tmp 8), type := 26, pos := "ref.go:24", after := #[], guard := none }) rfl (fun K hK => ?_) ?_
    · exact step_of_list (by rfl) (wpList_load_row rfl 26 (.tmp 8) rfl b rfl 26 (CELLS X).toArray (0, 0) _ (hI _ hp).2 Tryd.underlying26 rfl (info_arr hX) ⟨rfl, (have hp : (fun (w : World) => (I w))  w := hp; hK.out _ _ ((hI _ hp).1) (fun _ => k5  _ hp))⟩)
    exact AllReadyH.nil
  have hp := h0
  have hww : (fun w : World => w.rangeAt gn (o + q * 32) (CELLS L)) W.drew := (hI _ hp).1
  have last := k W.drew hp
  have z : wpAnyH Tryd.prog .any RBGOPS Q (fun w : World => w.rangeAt gn (o + q * 32) (CELLS L)) 8 #[false, false, false, false, false, false, false, false] { tmps := #[.int .i64 d, u1, .slice (some ⟨gn, o, none⟩) n c, u3, u4, u5, u6, u7, .pointer (some ⟨b, 0, none⟩), .int .i64 (q : Int), u10, u11, u12, u13, u14, u15, u16, u17, u18, u19, u20, u21, u22, u23, u24, u25, u26, u27, u28, u29, u30, u31, u32, u33, u34, u35, u36, u37, u38, u39, u40, u41, u42, u43, u44, u45, u46, u47, u48, u49], defers := [] } W.drew := by
    have t4 : wpAnyH Tryd.prog .any RBGOPS Q (fun w : World => w.rangeAt gn (o + q * 32) (CELLS L)) 4 #[true, true, true, true, false, false, false, false] { tmps := #[.int .i64 d, u1, .slice (some ⟨gn, o, none⟩) n c, u3, u4, u5, u6, u7, .pointer (some ⟨b, 0, none⟩), .int .i64 (q : Int), u10, u11, u12, u13, u14, u15, u16, u17, u18, u19, u20, u21, u22, u23, u24, u25, u26, u27, u28, u29, u30, u31, u32, u33, u34, u35, u36, u37, u38, .int .i64 d, .slice (some ⟨gn, o, none⟩) n c, .int .i64 (q : Int), .pointer (some ⟨gn, (o + q * 32), none⟩), u43, u44, u45, u46, u47, u48, u49], defers := [] } W.drew :=
      wpAnyH_take (i := 4) (oi := { dst := some 43, op := Op.load 26 (Operand.tmp 42), type := 26, pos := "ref.go:24", after := #[{ on := 3, ground := Ground.data }], guard := none }) (v := .agg (CELLS L).toArray) rfl (by kernel_rfl) (by kernel_rfl) (by kernel_rfl) (fun _ _ _ h => hQ _ _ _ _ _ h) (yieldsIf_load_mid (by rfl) 26 (.tmp 42) rfl gn (o + q * 32) rfl (CELLS L) _ (fun w h => h) Tryd.underlying26 rfl (info_cells hL)) hww last
    have t3 : wpAnyH Tryd.prog .any RBGOPS Q (fun w : World => w.rangeAt gn (o + q * 32) (CELLS L)) 5 #[true, true, true, false, false, false, false, false] { tmps := #[.int .i64 d, u1, .slice (some ⟨gn, o, none⟩) n c, u3, u4, u5, u6, u7, .pointer (some ⟨b, 0, none⟩), .int .i64 (q : Int), u10, u11, u12, u13, u14, u15, u16, u17, u18, u19, u20, u21, u22, u23, u24, u25, u26, u27, u28, u29, u30, u31, u32, u33, u34, u35, u36, u37, u38, .int .i64 d, .slice (some ⟨gn, o, none⟩) n c, .int .i64 (q : Int), u42, u43, u44, u45, u46, u47, u48, u49], defers := [] } W.drew :=
      wpAnyH_take (i := 3) (oi := { dst := some 42, op := Op.indexAddr 23 (Operand.tmp 40) (Operand.tmp 41), type := 0, pos := "ref.go:24", after := #[{ on := 1, ground := Ground.data }, { on := 2, ground := Ground.data }], guard := none }) (v := .pointer (some ⟨gn, (o + q * 32), none⟩)) rfl (by kernel_rfl) (by kernel_rfl) (by kernel_rfl) (fun _ _ _ h => hQ _ _ _ _ _ h) (Yields.yieldsIf (Or.inl ⟨by rfl, fun W => by go_simp⟩)) hww t4
    have t2 : wpAnyH Tryd.prog .any RBGOPS Q (fun w : World => w.rangeAt gn (o + q * 32) (CELLS L)) 6 #[true, true, false, false, false, false, false, false] { tmps := #[.int .i64 d, u1, .slice (some ⟨gn, o, none⟩) n c, u3, u4, u5, u6, u7, .pointer (some ⟨b, 0, none⟩), .int .i64 (q : Int), u10, u11, u12, u13, u14, u15, u16, u17, u18, u19, u20, u21, u22, u23, u24, u25, u26, u27, u28, u29, u30, u31, u32, u33, u34, u35, u36, u37, u38, .int .i64 d, .slice (some ⟨gn, o, none⟩) n c, u41, u42, u43, u44, u45, u46, u47, u48, u49], defers := [] } W.drew :=
      wpAnyH_take (i := 2) (oi := { dst := some 41, op := Op.move (Operand.tmp 9), type := 3, pos := "ref.go:24", after := #[], guard := none }) (v := .int .i64 (q : Int)) rfl (by kernel_rfl) (by kernel_rfl) (by kernel_rfl) (fun _ _ _ h => hQ _ _ _ _ _ h) (Yields.yieldsIf (Or.inl ⟨by rfl, fun W => by go_simp⟩)) hww t3
    have t1 : wpAnyH Tryd.prog .any RBGOPS Q (fun w : World => w.rangeAt gn (o + q * 32) (CELLS L)) 7 #[true, false, false, false, false, false, false, false] { tmps := #[.int .i64 d, u1, .slice (some ⟨gn, o, none⟩) n c, u3, u4, u5, u6, u7, .pointer (some ⟨b, 0, none⟩), .int .i64 (q : Int), u10, u11, u12, u13, u14, u15, u16, u17, u18, u19, u20, u21, u22, u23, u24, u25, u26, u27, u28, u29, u30, u31, u32, u33, u34, u35, u36, u37, u38, .int .i64 d, u40, u41, u42, u43, u44, u45, u46, u47, u48, u49], defers := [] } W.drew :=
      wpAnyH_take (i := 1) (oi := { dst := some 40, op := Op.move (Operand.tmp 2), type := 23, pos := "ref.go:24", after := #[], guard := none }) (v := .slice (some ⟨gn, o, none⟩) n c) rfl (by kernel_rfl) (by kernel_rfl) (by kernel_rfl) (fun _ _ _ h => hQ _ _ _ _ _ h) (Yields.yieldsIf (Or.inl ⟨by rfl, fun W => by go_simp⟩)) hww t2
    have t0 : wpAnyH Tryd.prog .any RBGOPS Q (fun w : World => w.rangeAt gn (o + q * 32) (CELLS L)) 8 #[false, false, false, false, false, false, false, false] { tmps := #[.int .i64 d, u1, .slice (some ⟨gn, o, none⟩) n c, u3, u4, u5, u6, u7, .pointer (some ⟨b, 0, none⟩), .int .i64 (q : Int), u10, u11, u12, u13, u14, u15, u16, u17, u18, u19, u20, u21, u22, u23, u24, u25, u26, u27, u28, u29, u30, u31, u32, u33, u34, u35, u36, u37, u38, u39, u40, u41, u42, u43, u44, u45, u46, u47, u48, u49], defers := [] } W.drew :=
      wpAnyH_take (i := 0) (oi := { dst := some 39, op := Op.move (Operand.tmp 0), type := 3, pos := "ref.go:24", after := #[], guard := none }) (v := .int .i64 d) rfl (by kernel_rfl) (by kernel_rfl) (by kernel_rfl) (fun _ _ _ h => hQ _ _ _ _ _ h) (Yields.yieldsIf (Or.inl ⟨by rfl, fun W => by go_simp⟩)) hww t1
    exact t0
  exact wp_region_held_drew (S := (fun w : World => w.rangeAt gn (o + q * 32) (CELLS L))) (by kernel_rfl) hww (fun _ => z)
end Go.Proofs.YtbmjoiiagldklaaDoor

/- What the document's Bag answers of as many peaks as there are, hashes as lists. -/
namespace Go.Proofs.YtbmjoiiagldklaaDoor
open Go.RowKit
set_option maxRecDepth 100000

theorem reffoldh_ok (d : Int) (l r : List Int) (hl : IsH l) (hr : IsH r) (w : World) : Calls Tryd.prog 20 #[.int .i64 d, .agg (CELLS l).toArray, .agg (CELLS r).toArray] w fun e w' => e = .returned (.agg (CELLS (FOLDH d l r)).toArray) ∧ Below w.heap.size w w' := by
  rw [cells_uarr hl, cells_uarr hr]
  refine (HX.reffold_ok d (FNC l) (FNC r) (FNC_lt hl) (FNC_lt hr) w).mono ?_
  rintro e w' ⟨rfl, hb⟩
  exact ⟨by rw [uarr_cells]; rfl, hb⟩
theorem refrooth_ok (d : Int) (n : Nat) (hn : n < 2 ^ 64) (r : List Int) (hr : IsH r) (w : World) : Calls Tryd.prog 19 #[.int .i64 d, .int .u64 (n : Int), .agg (CELLS r).toArray] w fun e w' => e = .returned (.agg (CELLS (ROOTH d n r)).toArray) ∧ Below w.heap.size w w' := by
  rw [cells_uarr hr]
  refine (HX.refroot_ok d n hn (FNC r) (FNC_lt hr) w).mono ?_
  rintro e w' ⟨rfl, hb⟩
  exact ⟨by rw [uarr_cells]; rfl, hb⟩
set_option maxHeartbeats 4000000 in
theorem refbag8_ok (d : Int) (n : Nat) (hn : n ≤ 4611686018427387904) (a : Option Addr) (k c : Nat) (hk : k = PC n) (h0 : k ≠ 0) (l : List Int) (w : World) (hF : Flat w a k l) :
    Calls Tryd.prog 6 #[.int .i64 d, .int .u64 (n : Int), .slice a k c] w fun e w' => e = .returned (.tuple #[.agg (CELLS (ROOTH d n (FLD d l k))).toArray, .int .i64 0]) ∧ Below w.heap.size w w' := by
  obtain ⟨w0, hw0⟩ : ∃ w0, w.alloc (.cells ZARR 26) = w0 := ⟨_, rfl⟩
  have hb0 : Below w.heap.size w w0 := by rw [← hw0]; exact (Below.refl _ _).alloc (Nat.le_refl _) _
  have h40 : Has w0 w.heap.size (CELLS ZND).toArray 26 := by rw [← hw0, ← ZARR_eq]; exact Has.new w _ _
  have h1' : ¬ (4611686018427387904 : Int) < (n : Int) := by omega
  have hk64 : k ≤ 64 := by rw [hk]; exact PC_lt_pow 64 n (by omega)
  have co := tops_ok n hn w0
  generalize SCELLS (TOPS 0 n) = SC at co
  rw [← hk] at co
  obtain ⟨m, hm⟩ : ∃ m, k = m + 1 := ⟨k - 1, by omega⟩
  obtain ⟨gn, o, rfl, hgn, -⟩ := hF.2.1 (by omega)
  have hz0 : ((k : Int) == 0) = false := beq_eq_false_iff_ne.2 (by omega)
  have e1 : wrap64 ((k : Int) - 1) = (m : Int) := by unfold wrap64; omega
  have e2 : wrap64 ((k : Int) - 2) = (m : Int) - 1 := by unfold wrap64; omega
  have hml : (m : Int) < (k : Int) := by omega
  have e : FLD d l k = FA d l k m := by unfold FLD; rw [if_neg h0, show k - 1 = m by omega]
  have hFA := FA_is (d := d) hF.1 hF.2.2 (by omega)
  have CR : Aside (∀ W, Calls Tryd.prog 19 #[.int .i64 d, .int .u64 (n : Int), .agg (CELLS (FA d l k m)).toArray] W fun e w' => e = .returned (.agg (CELLS (ROOTH d n (FLD d l k))).toArray) ∧ Below W.heap.size W w') := fun W => by
    rw [e]
    exact refrooth_ok d n (by omega) (FA d l k m) (hFA m) W
  have hYH : IsH (ROOTH d n (FLD d l k)) := ROOTH_is _ _ _
  generalize ROOTH d n (FLD d l k) = Y at *
  have HA : Aside (k = m + 1 ∧ k ≤ 64 ∧ Flat w (some ⟨gn, o, none⟩) k l ∧ gn < w.heap.size ∧ (∀ i, IsH (FA d l k i)) ∧ FA d l k 0 = HSH l m ∧ Y.length = 32) := ⟨hm, hk64, hF, hgn, hFA, by rw [FA, show k - 1 = m by omega], hYH.1⟩
  have R0 : Aside (Below w.heap.size w w0 ∧ Has w0 w.heap.size (CELLS ZND).toArray 26) := ⟨hb0, h40⟩
  clear hm hn hgn h0 e hF hk hk64 hb0 h40 hFA hYH
  go_enter Tryd.func6, Tryd.ntmps6
  go_upto_region 1 with fail
  go_wp2_with fail
  refine co.mono ?_
  rintro e w1 ⟨v, rfl, hown, hb1⟩
  obtain ⟨a', c', rfl, _⟩ : ∃ a' c', v = .slice a' k c' ∧ True := by
    rcases hown.2 with ⟨e, h⟩ | ⟨g, cap, cur, e, _⟩
    · exact ⟨none, 0, by rw [e, h], trivial⟩
    · exact ⟨_, _, e, trivial⟩
  clear co hown
  have R1 : Aside (Below w.heap.size w w1 ∧ Has w1 w.heap.size (CELLS ZND).toArray 26) := ⟨R0.out.1.trans (hb1.mono R0.out.1.size), R0.out.2.keep hb1⟩
  clear hb1 hw0
  have hat : w1.rangeAt gn (o + m * 32) (CELLS (FA d l k 0)) := by rw [HA.out.2.2.2.2.2.1]; exact (HA.out.2.2.1.below R1.out.1).at (show m < k by have := HA.out.1; omega)
  have h32 := (HA.out.2.2.2.2.1 0).1
  generalize hA0 : FA d l k 0 = A0 at *
  go_wp2_with (first
    | (refine wpList_load_mid rfl 26 (.tmp 30) rfl gn (o + m * 32) rfl (CELLS A0) _ hat Tryd.underlying26 rfl (info_cells h32) ?_)
    | (refine wpList_store_row rfl 26 (.tmp 8) (.tmp 31) rfl _ _ rfl rfl 26 _ (Has.new w1 _ _) (info_arr h32) (by simp [CELLS, h32]) (cells_one A0) ?_; rw [World.setRow_alloc_new]))
  have R2 : Aside (Below w.heap.size w (w1.alloc (.cells (CELLS A0).toArray 26)) ∧ Has (w1.alloc (.cells (CELLS A0).toArray 26)) w.heap.size (CELLS ZND).toArray 26 ∧ Has (w1.alloc (.cells (CELLS A0).toArray 26)) w1.heap.size (CELLS (FA d l k 0)).toArray 26 ∧ w.heap.size < w1.heap.size) := ⟨R1.out.1.alloc R1.out.1.size _, R1.out.2.alloc _, by rw [hA0]; exact Has.new _ _ _, R1.out.2.lt⟩
  clear hat h32 hA0 R0 R1
  generalize w1.alloc (.cells (CELLS A0).toArray 26) = W1 at *
  generalize w1.heap.size = b8 at *
  have K : Aside (w.heap.size < b8) := R2.out.2.2.2
  go_loopg [9] m (fun q s9 wx => ∃ x : Int, s9 = .int .i64 x ∧ Aside (q ≤ m ∧ x = (q : Int) - 1 ∧ Below w.heap.size w wx ∧ Has wx w.heap.size (CELLS ZND).toArray 26 ∧ Has wx b8 (CELLS (FA d l k (m - q))).toArray 26))
  case atStart => exact ⟨_, rfl, Nat.le_refl _, by first | rfl | exact e2, R2.out.1, R2.out.2.1, by rw [Nat.sub_self]; exact R2.out.2.2.1⟩
  case round =>
    obtain ⟨x, rfl, A⟩ := hrel
    clear R2 e1 e2
    cases gk with
    | zero =>
      obtain rfl : x = -1 := by have := A.out.2.1; omega
      have hH8 : Has wr b8 (CELLS (FA d l k m)).toArray 26 := A.out.2.2.2.2
      have A2 : Aside (Below w.heap.size w wr ∧ Has wr w.heap.size (CELLS ZND).toArray 26) := ⟨A.out.2.2.1, A.out.2.2.2.1⟩
      have x32 := (HA.out.2.2.2.2.1 m).1
      have y32 := HA.out.2.2.2.2.2.2
      have cr := CR.out wr
      clear A HA CR
      generalize FA d l k m = X at *
      go_wp2_with (refine wpList_load_row rfl 26 (.tmp 8) rfl b8 rfl 26 (CELLS X).toArray (0, 0) _ hH8 Tryd.underlying26 rfl (info_arr x32) ?_)
      refine cr.mono ?_
      rintro e w2 ⟨rfl, hb2⟩
      clear cr
      have h42 := A2.out.2.keep hb2
      have hb3 : Below w.heap.size w w2 := A2.out.1.trans (hb2.mono A2.out.1.size)
      clear hb2 A2
      go_wp2_with (refine wpList_store_row rfl 26 (.tmp 6) (.tmp 49) rfl _ _ rfl rfl 26 _ h42 (info_arr y32) (by simp [CELLS, y32]; rfl) (cells_one Y) ?_)
      refine bodyPost_ret (v := .tuple #[.agg (CELLS Y).toArray, .int .i64 0]) (results_two rfl _ _ w.heap.size 26 _ (0, 0) _ _ _ rfl rfl (Has.row h42 _) Tryd.underlying26 (info_arr y32)) rfl ⟨rfl, below_row hb3 (Nat.le_refl _) _⟩
    | succ q =>
      obtain rfl : x = (q : Int) := by have := A.out.2.1; omega
      have hq0 : (0 : Int) ≤ (q : Int) := by omega
      obtain ⟨h1, h2, h3, h5, h6, _, _⟩ := HA.out
      have hqm : q + 1 ≤ m := A.out.1
      have hb1 : (q : Int) < (k : Int) := by omega
      have eY : FA d l k (m - q) = FOLDH d (HSH l q) (FA d l k (m - (q + 1))) := by
        rw [show m - q = (m - (q + 1)) + 1 by omega, FA, show k - 2 - (m - (q + 1)) = q by omega]
      have hE1 : Aside (wrap64 ((q : Int) - 1) = (q : Int) - 1) := by show wrap64 ((q : Int) - 1) = (q : Int) - 1; unfold wrap64; omega
      have H2 : Aside (w.rangeAt gn (o + q * 32) (CELLS (HSH l q)) ∧ gn < w.heap.size ∧ IsH (HSH l q) ∧ (∀ i, IsH (FA d l k i)) ∧ FA d l k (m - q) = FOLDH d (HSH l q) (FA d l k (m - (q + 1))) ∧ Below w.heap.size w wr ∧ Has wr w.heap.size (CELLS ZND).toArray 26 ∧ Has wr b8 (CELLS (FA d l k (m - (q + 1)))).toArray 26 ∧ q ≤ m) := ⟨h3.at (by omega), h5, HSH_is h3.1 h3.2.2 (by omega), h6, eY, A.out.2.2.1, A.out.2.2.2.1, A.out.2.2.2.2, by omega⟩
      clear h1 h2 h3 h5 h6 eY A HA hqm CR
      go_upto_region 11 with fail
      refine refbag8_next wr gn o k c b8 q d (HSH l q) (FA d l k (m - (q + 1))) (FA d l k (m - q)) H2.out.2.2.1.1 (H2.out.2.2.2.1 _).1 (H2.out.2.2.2.1 _).1 hb1 (fun V => Below wr.heap.size wr V) (Below.refl _ _).drew (fun V hV => ?_) (fun V hV => ?_) (fun V hV => ?_) (fun _ _ _ _ _ h => h) ?_
      · exact ⟨range_below H2.out.1 (H2.out.2.2.2.2.2.1.trans (hV.mono H2.out.2.2.2.2.2.1.size)) H2.out.2.1, H2.out.2.2.2.2.2.2.2.1.keep hV⟩
      · exact range_below H2.out.1 (below_row (H2.out.2.2.2.2.2.1.trans (hV.mono H2.out.2.2.2.2.2.1.size)) (Nat.le_of_lt K.out) _) H2.out.2.1
      · refine (reffoldh_ok d (HSH l q) (FA d l k (m - (q + 1))) H2.out.2.2.1 (H2.out.2.2.2.1 _) V).mono ?_
        rintro e V' ⟨rfl, hb⟩
        exact ⟨by rw [H2.out.2.2.2.2.1], hV.trans (hb.mono hV.size)⟩
      · rintro W3 ⟨w0', hw0', hW3⟩
        have Z : Aside (q ≤ m ∧ Below w.heap.size w W3 ∧ Has W3 w.heap.size (CELLS ZND).toArray 26 ∧ Has W3 b8 (CELLS (FA d l k (m - q))).toArray 26) := by
          have hV2 : Below w.heap.size w w0' := H2.out.2.2.2.2.2.1.trans (hw0'.mono H2.out.2.2.2.2.2.1.size)
          rw [hW3]
          exact ⟨H2.out.2.2.2.2.2.2.2.2, below_row hV2 (Nat.le_of_lt K.out) _, (H2.out.2.2.2.2.2.2.1.keep hw0').row_other (by have := K.out; omega) _, (H2.out.2.2.2.2.2.2.2.1.keep hw0').row _⟩
        clear hW3 hw0' H2
        have e1 := hE1.out
        go_wp2_with fail
        go_roundg q
        case measure => exact Nat.lt_succ_self _
        case rel => exact ⟨_, rfl, Z.out.1, by first | rfl | exact hE1.out, Z.out.2⟩
end Go.Proofs.YtbmjoiiagldklaaDoor

/- What the parts of the two readers of package proof answer. -/
namespace Go.Proofs.YtbmjoiiagldklaaDoor
open Go.RowKit
set_option maxRecDepth 100000

end Go.Proofs.YtbmjoiiagldklaaDoor

/- Part by part: what inTurn answers, of the parts of either reader. -/
namespace Go.Proofs.YtbmjoiiagldklaaDoor
open Go.RowKit
set_option maxRecDepth 100000

end Go.Proofs.YtbmjoiiagldklaaDoor

/- What a reader has behind each part. -/
namespace Go.Proofs.YtbmjoiiagldklaaDoor
open Go.RowKit
set_option maxRecDepth 100000

/-- a reader's cells: what is left, two numbers, the nodes. -/
def RCELLS (v : Value) (X Y : Nat) (nv : Value) : Array Value := #[v, .int .u64 (X : Int), .int .u64 (Y : Int), nv]
/-- the reader and the list of its parts lie there; what was there before is as it was. -/
structure FRM (w0 w : World) (rb gl : Nat) (t : TypeId) (v : Value) (X Y : Nat) (nv : Value) (fl : Array Value) (tf : TypeId) : Prop where
  bel : Below w0.heap.size w0 w
  rd : Has w rb (RCELLS v X Y nv) t
  fl : Has w gl fl tf
  ne : gl ≠ rb
  lb : w0.heap.size ≤ rb
  lg : w0.heap.size ≤ gl
/-- the bytes that are left lie there. -/
def SRC (w0 : World) (a : Option Addr) (c : Nat) (t : List Int) : Prop := Bytes w0 a t.length t ∧ t.length ≤ c ∧ t.length ≤ 1000000
theorem FRM.drew {w0 w : World} {rb gl : Nat} {t : TypeId} {v : Value} {X Y : Nat} {nv : Value} {fl : Array Value} {tf : TypeId} (h : FRM w0 w rb gl t v X Y nv fl tf) : FRM w0 w.drew rb gl t v X Y nv fl tf := ⟨h.bel.drew, h.rd, h.fl, h.ne, h.lb, h.lg⟩
theorem FRM.keep {w0 w w' : World} {rb gl : Nat} {t : TypeId} {v : Value} {X Y : Nat} {nv : Value} {fl : Array Value} {tf : TypeId} (h : FRM w0 w rb gl t v X Y nv fl tf) (hb : Below w.heap.size w w') : FRM w0 w' rb gl t v X Y nv fl tf := ⟨h.bel.trans (hb.mono h.bel.size), h.rd.keep hb, h.fl.keep hb, h.ne, h.lb, h.lg⟩
theorem FRM.rest {w0 w : World} {rb gl : Nat} {t : TypeId} {v : Value} {X Y : Nat} {nv : Value} {fl : Array Value} {tf : TypeId} (h : FRM w0 w rb gl t v X Y nv fl tf) (v' : Value) : FRM w0 (w.setCell ⟨rb, 0, none⟩ v') rb gl t v' X Y nv fl tf :=
  ⟨h.bel.setCell (p := ⟨rb, 0, none⟩) h.lb _, h.rd.set 0 v', h.fl.other (a := ⟨rb, 0, none⟩) h.ne _, h.ne, h.lb, h.lg⟩
theorem SRC.drop {w0 : World} {b off c : Nat} {t : List Int} (h : SRC w0 (some ⟨b, off, none⟩) c t) (k : Nat) (hk : k ≤ t.length) : SRC w0 (REST b off c k) (c - k) (t.drop k) := by
  obtain ⟨h1, h2, h3⟩ := h
  have := h1.behind k hk h2
  refine ⟨?_, by rw [List.length_drop]; omega, by rw [List.length_drop]; omega⟩
  rw [List.length_drop]
  exact this
end Go.Proofs.YtbmjoiiagldklaaDoor

/- What Decode and DecodePrefix of package proof answer, of any bytes. -/
namespace Go.Proofs.YtbmjoiiagldklaaDoor
open Go.RowKit
set_option maxRecDepth 100000

/-! member -/
/-! prefix -/
end Go.Proofs.YtbmjoiiagldklaaDoor

/- What Decode and DecodePrefix of package proof answer, of any bytes. -/
namespace Go.Proofs.YtbmjoiiagldklaaDoor
open Go.RowKit
set_option maxRecDepth 100000

/-- a proof is answered, its nodes in a block of their own; or an error, and all is zero. -/
def DECD (w : World) (D : DANS) (e : Ending) (w' : World) : Prop :=
  ∃ v, e = .returned (.tuple #[v, .int .i64 D.1]) ∧ Below w.heap.size w w' ∧ ((D.1 ≠ 0 ∧ v = .agg #[.int .u64 0, .int .u64 0, .slice none 0 0]) ∨ (D.1 = 0 ∧ D.2.1 < 2 ^ 64 ∧ D.2.2.1 < 2 ^ 64 ∧ D.2.2.2.2.length = 32 * D.2.2.2.1 ∧ (∀ x ∈ D.2.2.2.2, 0 ≤ x ∧ x ≤ 255) ∧ ∃ g, v = .agg #[.int .u64 (D.2.1 : Int), .int .u64 (D.2.2.1 : Int), .slice (some ⟨g, 0, none⟩) D.2.2.2.1 D.2.2.2.1] ∧ w.heap.size ≤ g ∧ Has w' g (CELLS D.2.2.2.2).toArray 26))
end Go.Proofs.YtbmjoiiagldklaaDoor

/- What is read stands in rows of one's own; families of such rows, none in another's block. -/
namespace Go.Proofs.YtbmjoiiagldklaaDoor
open Go.RowKit
set_option maxRecDepth 100000

theorem DC3_err (PF : Nat → Nat → Int × List Nat) (X Y : Nat) (t : List Int) : DC3 PF X Y t = DERR (DC3 PF X Y t).1 ∨ (DC3 PF X Y t).1 = 0 := by
  unfold DC3
  split
  · exact .inl rfl
  · split
    · exact .inl rfl
    · split
      · exact .inl rfl
      · exact .inr rfl
theorem DC2_err (PF : Nat → Nat → Int × List Nat) (X : Nat) (t : List Int) : DC2 PF X t = DERR (DC2 PF X t).1 ∨ (DC2 PF X t).1 = 0 := by
  unfold DC2
  split
  · exact .inl rfl
  · exact DC3_err _ _ _ _
theorem DC1_err (chk : Nat → Bool) (PF : Nat → Nat → Int × List Nat) (t : List Int) : DC1 chk PF t = DERR (DC1 chk PF t).1 ∨ (DC1 chk PF t).1 = 0 := by
  unfold DC1
  split
  · exact .inl rfl
  · split
    · exact .inl rfl
    · exact DC2_err _ _ _
theorem DC0_err {K : Int} {chk : Nat → Bool} {PF : Nat → Nat → Int × List Nat} {l : List Int} (h : (DC0 K chk PF l).1 ≠ 0) : DC0 K chk PF l = DERR (DC0 K chk PF l).1 := by
  have : DC0 K chk PF l = DERR (DC0 K chk PF l).1 ∨ (DC0 K chk PF l).1 = 0 := by
    unfold DC0
    split
    · exact .inl rfl
    · split
      · exact .inl rfl
      · exact DC1_err _ _ _
  rcases this with h1 | h1
  · exact h1
  · exact absurd h1 h
theorem own_of_has {w : World} {B g N : Nat} {l : List Int} (h : Has w g (CELLS l).toArray 26) (hl : l.length = 32 * N) (hB : B ≤ g) (hN : N ≤ 1000) : w.ownsRow B 26 32 (.slice (some ⟨g, 0, none⟩) N N) N (CELLS l) := by
  refine ⟨by rw [CELLS, List.length_map, hl, Nat.mul_comm], .inr ⟨g, N, _, rfl, hB, h, Nat.le_refl _, by simp [maxLen]; omega, ?_, ?_⟩⟩
  · simp [CELLS, hl, Nat.mul_comm]
  · rw [List.take_of_length_le (by simp [CELLS, hl]; omega)]
/-- a proof is answered, its nodes in a row of one's own; or an error, and all is zero. -/
def DECO (w : World) (D : DANS) (e : Ending) (w' : World) : Prop :=
  ∃ a c, e = .returned (.tuple #[.agg #[.int .u64 (D.2.1 : Int), .int .u64 (D.2.2.1 : Int), .slice a D.2.2.2.1 c], .int .i64 D.1]) ∧ w'.ownsRow w.heap.size 26 32 (.slice a D.2.2.2.1 c) D.2.2.2.1 (CELLS D.2.2.2.2) ∧ (∀ x ∈ D.2.2.2.2, 0 ≤ x ∧ x ≤ 255) ∧ Below w.heap.size w w'
theorem DECD.own {w w' : World} {K : Int} {chk : Nat → Bool} {PF : Nat → Nat → Int × List Nat} {l : List Int} {e : Ending} (h : DECD w (DC0 K chk PF l) e w') (hf : (DC0 K chk PF l).1 = 0 → (DC0 K chk PF l).2.2.2.1 ≤ 1000) : DECO w (DC0 K chk PF l) e w' := by
  obtain ⟨v, rfl, hb, h⟩ := h
  rcases h with ⟨hE, rfl⟩ | ⟨hE, h1, h2, h3, h4, g, rfl, hg, hh⟩
  · have hD := DC0_err hE
    rw [hD]
    refine ⟨none, 0, rfl, World.ownsRow_nil _ _ _ _, by simp [DERR], hb⟩
  · exact ⟨_, _, rfl, own_of_has hh h3 hg (hf hE), h4, hb⟩
/-- M rows of one's own, of one kind, none in another's block, none in a block of K. -/
structure FAM (M : Nat) (t : TypeId) (s : Nat) (w : World) (B : Nat) (K : Nat → Prop) (v : Nat → Value) (n : Nat → Nat) (xs : Nat → List Value) : Prop where
  row : ∀ x, x < M → w.ownsRow B t s (v x) (n x) (xs x)
  apart : ∀ x y, x < M → y < M → x ≠ y → ∀ g, (v x).ownBlock = some g → (v y).ownBlock ≠ some g
  off : ∀ x, x < M → ∀ g, (v x).ownBlock = some g → ¬ K g
theorem FAM.below {M : Nat} {t : TypeId} {s : Nat} {w w' : World} {B : Nat} {K : Nat → Prop} {v : Nat → Value} {n : Nat → Nat} {xs : Nat → List Value} (h : FAM M t s w B K v n xs) (hb : Below w.heap.size w w') : FAM M t s w' B K v n xs := ⟨fun x hx => own_below (h.row x hx) hb, h.apart, h.off⟩
theorem FAM.heap {M : Nat} {t : TypeId} {s : Nat} {w w' : World} {B : Nat} {K : Nat → Prop} {v : Nat → Value} {n : Nat → Nat} {xs : Nat → List Value} (h : FAM M t s w B K v n xs) (hk : ∀ k, k < w.heap.size → ¬ K k → w'.heap[k]? = w.heap[k]?) : FAM M t s w' B K v n xs := ⟨fun x hx => own_heap (h.row x hx) fun k e => hk k ((h.row x hx).lt k e).2 (h.off x hx k e), h.apart, h.off⟩
end Go.Proofs.YtbmjoiiagldklaaDoor

/- What Member of package verify answers. -/
namespace Go.Proofs.YtbmjoiiagldklaaDoor
open Go.RowKit
set_option maxRecDepth 100000

end Go.Proofs.YtbmjoiiagldklaaDoor

/- What Prefix of package verify answers. -/
namespace Go.Proofs.YtbmjoiiagldklaaDoor
open Go.RowKit
set_option maxRecDepth 100000

end Go.Proofs.YtbmjoiiagldklaaDoor

/- What the document's Decode and DecodePrefix answer, of any bytes. -/
namespace Go.Proofs.YtbmjoiiagldklaaDoor
open Go.RowKit
set_option maxRecDepth 100000

theorem Flat.off {w : World} {a : Option Addr} {n : Nat} {l : List Int} (h : Flat w a n l) {x : Addr} (hx : ∀ b o, a = some ⟨b, o, none⟩ → b ≠ x.block) (u : Value) : Flat (w.setCell x u) a n l :=
  ⟨h.1, fun hn => by
    obtain ⟨b, o, e, hl, hc⟩ := h.2.1 hn
    exact ⟨b, o, e, Nat.lt_of_lt_of_le hl (KeepsWalks.setCell w x u).size, fun j hj => (World.cell?_setCell_other w _ _ u (fun e' => hx b o e (congrArg Addr.block e').symm)).trans (hc j hj)⟩, h.2.2⟩
end Go.Proofs.YtbmjoiiagldklaaDoor

/- What the document's Prefix answers: what the program's does. -/
namespace Go.Proofs.YtbmjoiiagldklaaDoor
open Go.RowKit
set_option maxRecDepth 100000

set_option maxHeartbeats 4000000 in
theorem refbag8_zero (d : Int) (a : Option Addr) (c : Nat) (w : World) :
    Calls Tryd.prog 6 #[.int .i64 d, .int .u64 ((0 : Nat) : Int), .slice a 0 c] w fun e w' => e = .returned (.tuple #[.agg (CELLS (ROOTH d 0 ZND)).toArray, .int .i64 0]) ∧ Below w.heap.size w w' := by
  obtain ⟨w0, hw0⟩ : ∃ w0, w.alloc (.cells ZARR 26) = w0 := ⟨_, rfl⟩
  have hb0 : Below w.heap.size w w0 := by rw [← hw0]; exact (Below.refl _ _).alloc (Nat.le_refl _) _
  have h40 : Has w0 w.heap.size (CELLS ZND).toArray 26 := by rw [← hw0, ← ZARR_eq]; exact Has.new w _ _
  have co := tops8_ok 0 (by omega) w0
  rw [show PC 0 = 0 from rfl] at co
  have CR : Aside (∀ W, Calls Tryd.prog 19 #[.int .i64 d, .int .u64 0, .agg (CELLS ZND).toArray] W fun e w' => e = .returned (.agg (CELLS (ROOTH d 0 ZND)).toArray) ∧ Below W.heap.size W w') := fun W => refrooth_ok d 0 (by omega) ZND ZND_is W
  have hYH : IsH (ROOTH d 0 ZND) := ROOTH_is _ _ _
  generalize ROOTH d 0 ZND = Y at *
  have y32 := hYH.1
  have R0 : Aside (Below w.heap.size w w0 ∧ Has w0 w.heap.size (CELLS ZND).toArray 26) := ⟨hb0, h40⟩
  clear hb0 h40 hYH
  go_enter Tryd.func6, Tryd.ntmps6
  go_upto_region 1 with fail
  go_wp2_with fail
  refine co.mono ?_
  rintro e w1 ⟨a1, c1, rfl, _, hb1⟩
  have R1 : Aside (Below w.heap.size w w1 ∧ Has w1 w.heap.size (CELLS ZND).toArray 26) := ⟨R0.out.1.trans (hb1.mono R0.out.1.size), R0.out.2.keep hb1⟩
  clear co hb1 R0 hw0
  have cr := CR.out w1
  go_wp2_with fail
  refine cr.mono ?_
  rintro e w2 ⟨rfl, hb2⟩
  have h42 := R1.out.2.keep hb2
  have hb3 : Below w.heap.size w w2 := R1.out.1.trans (hb2.mono R1.out.1.size)
  clear hb2 R1 cr CR
  go_wp2_with (refine wpList_store_row rfl 26 (.tmp 6) (.tmp 25) rfl _ _ rfl rfl 26 _ h42 (info_arr y32) (by simp [CELLS, y32]; rfl) (cells_one Y) ?_)
  refine bodyPost_ret (v := .tuple #[.agg (CELLS Y).toArray, .int .i64 0]) (results_two rfl _ _ w.heap.size 26 _ (0, 0) _ _ _ rfl rfl (Has.row h42 _) Tryd.underlying26 (info_arr y32)) rfl ⟨rfl, below_row hb3 (Nat.le_refl _) _⟩
theorem refbag8_any (d : Int) (n : Nat) (hn : n ≤ 4611686018427387904) (a : Option Addr) (k c : Nat) (hk : k = PC n) (l : List Int) (w : World) (hF : Flat w a k l) :
    Calls Tryd.prog 6 #[.int .i64 d, .int .u64 (n : Int), .slice a k c] w fun e w' => e = .returned (.tuple #[.agg (CELLS (ROOTH d n (FLD d l k))).toArray, .int .i64 0]) ∧ Below w.heap.size w w' := by
  by_cases h0 : k = 0
  · have hn0 : n = 0 := PC_eq_zero (by omega)
    subst h0 hn0
    have e : FLD d l 0 = ZND := by unfold FLD; rw [if_pos rfl]
    rw [e]
    exact refbag8_zero d a c w
  · exact refbag8_ok d n hn a k c hk h0 l w hF
end Go.Proofs.YtbmjoiiagldklaaDoor
