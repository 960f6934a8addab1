/- Texts of MmrBags, one behind the other: MmrRefBagRegion, MmrFoldRegion, NumLowCalls. -/
import Derived.Deep.LoopGhost
import Derived.Test.YtdmbmphdiaepdaaGreatDoorMmrBagsP9
import Derived.Test.YtdmbmphdiaepdaaGreatDoorMmrBagsP19
/- The region of massifref6.Bag that draws its order. -/
namespace Go.Proofs.YtdmbmphdiaepdaaGreatDoor.HX
open Go.RowKit
set_option maxRecDepth 100000

def MRBOPS : Array Oper := #[{ dst := some 39, op := Op.move (Operand.tmp 0), type := 3, pos := "ref.go:24", after := #[], guard := none }, { dst := some 40, op := Op.move (Operand.tmp 2), type := 23, pos := "ref.go:24", after := #[], guard := none }, { dst := some 41, op := Op.move (Operand.tmp 9), type := 3, pos := "ref.go:24", after := #[], guard := none }, { dst := some 42, op := Op.indexAddr 23 (Operand.tmp 40) (Operand.tmp 41), type := 0, pos := "ref.go:24", after := #[{ on := 1, ground := Ground.data }, { on := 2, ground := Ground.data }], guard := none }, { dst := some 43, op := Op.load 26 (Operand.tmp 42), type := 26, pos := "ref.go:24", after := #[{ on := 3, ground := Ground.data }], guard := none }, { dst := some 44, op := Op.load 26 (Operand.tmp 8), type := 26, pos := "ref.go:24", after := #[], guard := none }, { dst := some 45, op := Op.call { callee := Callee.value (Operand.func 17), args := #[Operand.tmp 39, Operand.tmp 43, Operand.tmp 44], argTypes := #[3, 26, 26] }, type := 26, pos := "ref.go:24", after := #[{ on := 0, ground := Ground.data }, { on := 4, ground := Ground.data }, { on := 5, ground := Ground.data }], guard := none }, { dst := none, op := Op.store 26 (Operand.tmp 8) (Operand.tmp 45), type := 0, pos := "ref.go:24", after := #[{ on := 6, ground := Ground.data }, { on := 6, ground := Ground.chain }, { on := 0, ground := Ground.phase }, { on := 1, ground := Ground.phase }, { on := 2, ground := Ground.phase }, { on := 3, ground := Ground.phase }, { on := 4, ground := Ground.phase }, { on := 5, ground := Ground.phase }, { on := 6, ground := Ground.phase }], guard := none }]
set_option maxHeartbeats 2000000 in
theorem refbag_next {Q : Exit → Act → World → Prop} {u1 u3 u4 u5 u6 u7 u10 u11 u12 u13 u14 u15 u16 u17 u18 u19 u20 u21 u22 u23 u24 u25 u26 u27 u28 u29 u30 u31 u32 u33 u34 u35 u36 u37 u38 u39 u40 u41 u42 u43 u44 u45 u46 u47 u48 u49 : Value} (W : World) (gn o n c b q : Nat) (d : Int) (l x y : Nat → Nat) (hq : (q : Int) < (n : Int)) (I : World → Prop) (h0 : I W.drew) (hI : ∀ w, I w → w.rangeAt gn (o + q * 32) (ULIST .u8 32 l) ∧ Has w b (UARR .u8 32 x) 26) (hRow : ∀ w, I w → (w.setRow b (UARR .u8 32 y)).rangeAt gn (o + q * 32) (ULIST .u8 32 l))
    (c1 : ∀ w, I w → Calls Tryz.prog 17 #[.int .i64 d, .agg (UARR .u8 32 l), .agg (UARR .u8 32 x)] w fun e w' => e = .returned (.agg (UARR .u8 32 y)) ∧ I w') (hQ : ∀ c (a : Act) (t : Tmp) (v : Value) w, Q (.panic c) (a.put (some t) v) w → Q (.panic c) a w)
    (hfin : ∀ (w : World), (∃ w0 : World, I w0 ∧ w = w0.setRow b (UARR .u8 32 y)) → Q .normal { tmps := #[.int .i64 d, u1, .slice (some ⟨gn, o, none⟩) n c, u3, u4, u5, u6, u7, .pointer (some ⟨b, 0, none⟩), .int .i64 (q : Int), u10, u11, u12, u13, u14, u15, u16, u17, u18, u19, u20, u21, u22, u23, u24, u25, u26, u27, u28, u29, u30, u31, u32, u33, u34, u35, u36, u37, u38, .int .i64 d, .slice (some ⟨gn, o, none⟩) n c, .int .i64 (q : Int), .pointer (some ⟨gn, (o + q * 32), none⟩), .agg (UARR .u8 32 l), .agg (UARR .u8 32 x), .agg (UARR .u8 32 y), u46, u47, u48, u49], defers := [] } w) : (Code.region 11 MRBOPS true).wp Tryz.prog Q { tmps := #[.int .i64 d, u1, .slice (some ⟨gn, o, none⟩) n c, u3, u4, u5, u6, u7, .pointer (some ⟨b, 0, none⟩), .int .i64 (q : Int), u10, u11, u12, u13, u14, u15, u16, u17, u18, u19, u20, u21, u22, u23, u24, u25, u26, u27, u28, u29, u30, u31, u32, u33, u34, u35, u36, u37, u38, u39, u40, u41, u42, u43, u44, u45, u46, u47, u48, u49], defers := [] } W := by
  have k5_6_7 : ∀ (w : World), (∃ w0 : World, I w0 ∧ w = w0.setRow b (UARR .u8 32 y)) → wpAnyH Tryz.prog .any MRBOPS Q (fun w : World => w.rangeAt gn (o + q * 32) (ULIST .u8 32 l)) 0 #[true, true, true, true, true, true, true, true] { tmps := #[.int .i64 d, u1, .slice (some ⟨gn, o, none⟩) n c, u3, u4, u5, u6, u7, .pointer (some ⟨b, 0, none⟩), .int .i64 (q : Int), u10, u11, u12, u13, u14, u15, u16, u17, u18, u19, u20, u21, u22, u23, u24, u25, u26, u27, u28, u29, u30, u31, u32, u33, u34, u35, u36, u37, u38, .int .i64 d, .slice (some ⟨gn, o, none⟩) n c, .int .i64 (q : Int), .pointer (some ⟨gn, (o + q * 32), none⟩), .agg (UARR .u8 32 l), .agg (UARR .u8 32 x), .agg (UARR .u8 32 y), u46, u47, u48, u49], defers := [] } w := fun  w hp => by
    exact wpAnyH_done (by kernel_rfl) (hfin  w hp) _
  have k5_6 : ∀ (w : World), (I w) → wpAnyH Tryz.prog .any MRBOPS Q (fun w : World => w.rangeAt gn (o + q * 32) (ULIST .u8 32 l)) 1 #[true, true, true, true, true, true, true, false] { tmps := #[.int .i64 d, u1, .slice (some ⟨gn, o, none⟩) n c, u3, u4, u5, u6, u7, .pointer (some ⟨b, 0, none⟩), .int .i64 (q : Int), u10, u11, u12, u13, u14, u15, u16, u17, u18, u19, u20, u21, u22, u23, u24, u25, u26, u27, u28, u29, u30, u31, u32, u33, u34, u35, u36, u37, u38, .int .i64 d, .slice (some ⟨gn, o, none⟩) n c, .int .i64 (q : Int), .pointer (some ⟨gn, (o + q * 32), none⟩), .agg (UARR .u8 32 l), .agg (UARR .u8 32 x), .agg (UARR .u8 32 y), u46, u47, u48, u49], defers := [] } w := fun  w hp => by
    refine wpAnyH_ready (rs := [7]) (by kernel_rfl) (by simp) ?_
    refine AllReadyH.cons (o := { dst := none, op := Op.store 26 (Operand.tmp 8) (Operand.tmp 45), type := 0, pos := "ref.go:24", after := #[{ on := 6, ground := Ground.data }, { on := 6, ground := Ground.chain }, { on := 0, ground := Ground.phase }, { on := 1, ground := Ground.phase }, { on := 2, ground := Ground.phase }, { on := 3, ground := Ground.phase }, { on := 4, ground := Ground.phase }, { on := 5, ground := Ground.phase }, { on := 6, ground := Ground.phase }], guard := none }) rfl (fun K hK => ?_) ?_
    · exact step_skip rfl (run_skip (store_hash (hI _ hp).2 y)) (have hp : (fun (w : World) => (∃ w0 : World, I w0 ∧ w = w0.setRow b (UARR .u8 32 y)))  _ := ⟨w, hp, rfl⟩; hK.out _ _ ((by obtain ⟨w0, h1, h2⟩ := hp; (first | rw [h2] | skip); exact hRow _ h1)) (fun _ => k5_6_7  _ hp))
    exact AllReadyH.nil
  have k5 : ∀ (w : World), (I w) → wpAnyH Tryz.prog .any MRBOPS Q (fun w : World => w.rangeAt gn (o + q * 32) (ULIST .u8 32 l)) 2 #[true, true, true, true, true, true, false, false] { tmps := #[.int .i64 d, u1, .slice (some ⟨gn, o, none⟩) n c, u3, u4, u5, u6, u7, .pointer (some ⟨b, 0, none⟩), .int .i64 (q : Int), u10, u11, u12, u13, u14, u15, u16, u17, u18, u19, u20, u21, u22, u23, u24, u25, u26, u27, u28, u29, u30, u31, u32, u33, u34, u35, u36, u37, u38, .int .i64 d, .slice (some ⟨gn, o, none⟩) n c, .int .i64 (q : Int), .pointer (some ⟨gn, (o + q * 32), none⟩), .agg (UARR .u8 32 l), .agg (UARR .u8 32 x), u45, u46, u47, u48, u49], defers := [] } w := fun  w hp => by
    refine wpAnyH_ready (rs := [6]) (by kernel_rfl) (by simp) ?_
    refine AllReadyH.cons (o := { dst := some 45, op := Op.call { callee := Callee.value (Operand.func 17), args := #[Operand.tmp 39, Operand.tmp 43, Operand.tmp 44], argTypes := #[3, 26, 26] }, type := 26, pos := "ref.go:24", after := #[{ on := 0, ground := Ground.data }, { on := 4, ground := Ground.data }, { on := 5, ground := Ground.data }], guard := none }) rfl (fun K hK => ?_) ?_
    · rw [if_pos (by rfl)]
      go_simp
      refine (show Calls _ _ _ w (fun e w' => e = .returned (.agg (UARR .u8 32 y)) ∧ (I w')) from c1 w hp).mono ?_
      rintro e w' ⟨rfl, hp⟩
      exact hK.out _ _ ((hI _ hp).1) (fun _ => k5_6  w' hp)
    exact AllReadyH.nil
  have k : ∀ (w : World), (I w) → wpAnyH Tryz.prog .any MRBOPS Q (fun w : World => w.rangeAt gn (o + q * 32) (ULIST .u8 32 l)) 3 #[true, true, true, true, true, false, false, false] { tmps := #[.int .i64 d, u1, .slice (some ⟨gn, o, none⟩) n c, u3, u4, u5, u6, u7, .pointer (some ⟨b, 0, none⟩), .int .i64 (q : Int), u10, u11, u12, u13, u14, u15, u16, u17, u18, u19, u20, u21, u22, u23, u24, u25, u26, u27, u28, u29, u30, u31, u32, u33, u34, u35, u36, u37, u38, .int .i64 d, .slice (some ⟨gn, o, none⟩) n c, .int .i64 (q : Int), .pointer (some ⟨gn, (o + q * 32), none⟩), .agg (UARR .u8 32 l), u44, u45, u46, u47, u48, u49], defers := [] } w := fun  w hp => by
    refine wpAnyH_ready (rs := [5]) (by kernel_rfl) (by simp) ?_
    refine AllReadyH.cons (o := { dst := some 44, op := Op.load 26 (Operand.tmp 8), type := 26, pos := "ref.go:24", after := #[], guard := none }) rfl (fun K hK => ?_) ?_
    · exact step_load rfl 26 (.tmp 8) rfl b 0 rfl (ULIST .u8 32 x) _ (hI _ hp).2.whole Tryz.underlying26 rfl (by rw [ULIST_length]; exact info_hash) (have hp : (fun (w : World) => (I w))  w := hp; hK.out _ _ ((hI _ hp).1) (fun _ => k5  _ hp))
    exact AllReadyH.nil
  have hp := h0
  have hww : (fun w : World => w.rangeAt gn (o + q * 32) (ULIST .u8 32 l)) W.drew := (hI _ hp).1
  have last := k W.drew hp
  have z : wpAnyH Tryz.prog .any MRBOPS Q (fun w : World => w.rangeAt gn (o + q * 32) (ULIST .u8 32 l)) 8 #[false, false, false, false, false, false, false, false] { tmps := #[.int .i64 d, u1, .slice (some ⟨gn, o, none⟩) n c, u3, u4, u5, u6, u7, .pointer (some ⟨b, 0, none⟩), .int .i64 (q : Int), u10, u11, u12, u13, u14, u15, u16, u17, u18, u19, u20, u21, u22, u23, u24, u25, u26, u27, u28, u29, u30, u31, u32, u33, u34, u35, u36, u37, u38, u39, u40, u41, u42, u43, u44, u45, u46, u47, u48, u49], defers := [] } W.drew := by
    have t4 : wpAnyH Tryz.prog .any MRBOPS Q (fun w : World => w.rangeAt gn (o + q * 32) (ULIST .u8 32 l)) 4 #[true, true, true, true, false, false, false, false] { tmps := #[.int .i64 d, u1, .slice (some ⟨gn, o, none⟩) n c, u3, u4, u5, u6, u7, .pointer (some ⟨b, 0, none⟩), .int .i64 (q : Int), u10, u11, u12, u13, u14, u15, u16, u17, u18, u19, u20, u21, u22, u23, u24, u25, u26, u27, u28, u29, u30, u31, u32, u33, u34, u35, u36, u37, u38, .int .i64 d, .slice (some ⟨gn, o, none⟩) n c, .int .i64 (q : Int), .pointer (some ⟨gn, (o + q * 32), none⟩), u43, u44, u45, u46, u47, u48, u49], defers := [] } W.drew :=
      wpAnyH_take (i := 4) (oi := { dst := some 43, op := Op.load 26 (Operand.tmp 42), type := 26, pos := "ref.go:24", after := #[{ on := 3, ground := Ground.data }], guard := none }) (v := .agg (UARR .u8 32 l)) rfl (by kernel_rfl) (by kernel_rfl) (by kernel_rfl) (fun _ _ _ h => hQ _ _ _ _ _ h) (yieldsIf_load_mid (by rfl) 26 (.tmp 42) rfl gn (o + q * 32) rfl (ULIST .u8 32 l) _ (fun w h => h) Tryz.underlying26 rfl (by rw [ULIST_length]; exact info_hash)) hww last
    have t3 : wpAnyH Tryz.prog .any MRBOPS Q (fun w : World => w.rangeAt gn (o + q * 32) (ULIST .u8 32 l)) 5 #[true, true, true, false, false, false, false, false] { tmps := #[.int .i64 d, u1, .slice (some ⟨gn, o, none⟩) n c, u3, u4, u5, u6, u7, .pointer (some ⟨b, 0, none⟩), .int .i64 (q : Int), u10, u11, u12, u13, u14, u15, u16, u17, u18, u19, u20, u21, u22, u23, u24, u25, u26, u27, u28, u29, u30, u31, u32, u33, u34, u35, u36, u37, u38, .int .i64 d, .slice (some ⟨gn, o, none⟩) n c, .int .i64 (q : Int), u42, u43, u44, u45, u46, u47, u48, u49], defers := [] } W.drew :=
      wpAnyH_take (i := 3) (oi := { dst := some 42, op := Op.indexAddr 23 (Operand.tmp 40) (Operand.tmp 41), type := 0, pos := "ref.go:24", after := #[{ on := 1, ground := Ground.data }, { on := 2, ground := Ground.data }], guard := none }) (v := .pointer (some ⟨gn, (o + q * 32), none⟩)) rfl (by kernel_rfl) (by kernel_rfl) (by kernel_rfl) (fun _ _ _ h => hQ _ _ _ _ _ h) (Yields.yieldsIf (Or.inl ⟨by rfl, fun W => by go_simp⟩)) hww t4
    have t2 : wpAnyH Tryz.prog .any MRBOPS Q (fun w : World => w.rangeAt gn (o + q * 32) (ULIST .u8 32 l)) 6 #[true, true, false, false, false, false, false, false] { tmps := #[.int .i64 d, u1, .slice (some ⟨gn, o, none⟩) n c, u3, u4, u5, u6, u7, .pointer (some ⟨b, 0, none⟩), .int .i64 (q : Int), u10, u11, u12, u13, u14, u15, u16, u17, u18, u19, u20, u21, u22, u23, u24, u25, u26, u27, u28, u29, u30, u31, u32, u33, u34, u35, u36, u37, u38, .int .i64 d, .slice (some ⟨gn, o, none⟩) n c, u41, u42, u43, u44, u45, u46, u47, u48, u49], defers := [] } W.drew :=
      wpAnyH_take (i := 2) (oi := { dst := some 41, op := Op.move (Operand.tmp 9), type := 3, pos := "ref.go:24", after := #[], guard := none }) (v := .int .i64 (q : Int)) rfl (by kernel_rfl) (by kernel_rfl) (by kernel_rfl) (fun _ _ _ h => hQ _ _ _ _ _ h) (Yields.yieldsIf (Or.inl ⟨by rfl, fun W => by go_simp⟩)) hww t3
    have t1 : wpAnyH Tryz.prog .any MRBOPS Q (fun w : World => w.rangeAt gn (o + q * 32) (ULIST .u8 32 l)) 7 #[true, false, false, false, false, false, false, false] { tmps := #[.int .i64 d, u1, .slice (some ⟨gn, o, none⟩) n c, u3, u4, u5, u6, u7, .pointer (some ⟨b, 0, none⟩), .int .i64 (q : Int), u10, u11, u12, u13, u14, u15, u16, u17, u18, u19, u20, u21, u22, u23, u24, u25, u26, u27, u28, u29, u30, u31, u32, u33, u34, u35, u36, u37, u38, .int .i64 d, u40, u41, u42, u43, u44, u45, u46, u47, u48, u49], defers := [] } W.drew :=
      wpAnyH_take (i := 1) (oi := { dst := some 40, op := Op.move (Operand.tmp 2), type := 23, pos := "ref.go:24", after := #[], guard := none }) (v := .slice (some ⟨gn, o, none⟩) n c) rfl (by kernel_rfl) (by kernel_rfl) (by kernel_rfl) (fun _ _ _ h => hQ _ _ _ _ _ h) (Yields.yieldsIf (Or.inl ⟨by rfl, fun W => by go_simp⟩)) hww t2
    have t0 : wpAnyH Tryz.prog .any MRBOPS Q (fun w : World => w.rangeAt gn (o + q * 32) (ULIST .u8 32 l)) 8 #[false, false, false, false, false, false, false, false] { tmps := #[.int .i64 d, u1, .slice (some ⟨gn, o, none⟩) n c, u3, u4, u5, u6, u7, .pointer (some ⟨b, 0, none⟩), .int .i64 (q : Int), u10, u11, u12, u13, u14, u15, u16, u17, u18, u19, u20, u21, u22, u23, u24, u25, u26, u27, u28, u29, u30, u31, u32, u33, u34, u35, u36, u37, u38, u39, u40, u41, u42, u43, u44, u45, u46, u47, u48, u49], defers := [] } W.drew :=
      wpAnyH_take (i := 0) (oi := { dst := some 39, op := Op.move (Operand.tmp 0), type := 3, pos := "ref.go:24", after := #[], guard := none }) (v := .int .i64 d) rfl (by kernel_rfl) (by kernel_rfl) (by kernel_rfl) (fun _ _ _ h => hQ _ _ _ _ _ h) (Yields.yieldsIf (Or.inl ⟨by rfl, fun W => by go_simp⟩)) hww t1
    exact t0
  exact wp_region_held_drew (S := (fun w : World => w.rangeAt gn (o + q * 32) (ULIST .u8 32 l))) (by kernel_rfl) hww (fun _ => z)
end Go.Proofs.YtdmbmphdiaepdaaGreatDoor.HX

/- The region of folded of package mmr that draws its order. -/
namespace Go.Proofs.YtdmbmphdiaepdaaGreatDoor.HX
open Go.RowKit
set_option maxRecDepth 100000

def MF8OPS : Array Oper := #[{ dst := some 25, op := Op.move (Operand.tmp 0), type := 3, pos := "grow.go:30", after := #[], guard := none }, { dst := some 26, op := Op.move (Operand.tmp 1), type := 23, pos := "grow.go:30", after := #[], guard := none }, { dst := some 27, op := Op.move (Operand.tmp 7), type := 3, pos := "grow.go:30", after := #[], guard := none }, { dst := some 28, op := Op.indexAddr 23 (Operand.tmp 26) (Operand.tmp 27), type := 0, pos := "grow.go:30", after := #[{ on := 1, ground := Ground.data }, { on := 2, ground := Ground.data }], guard := none }, { dst := some 29, op := Op.load 26 (Operand.tmp 28), type := 26, pos := "grow.go:30", after := #[{ on := 3, ground := Ground.data }], guard := none }, { dst := some 30, op := Op.load 26 (Operand.tmp 6), type := 26, pos := "grow.go:30", after := #[], guard := none }, { dst := some 31, op := Op.call { callee := Callee.value (Operand.func 28), args := #[Operand.tmp 25, Operand.tmp 29, Operand.tmp 30], argTypes := #[3, 26, 26] }, type := 26, pos := "grow.go:30", after := #[{ on := 0, ground := Ground.data }, { on := 4, ground := Ground.data }, { on := 5, ground := Ground.data }], guard := none }, { dst := none, op := Op.store 26 (Operand.tmp 6) (Operand.tmp 31), type := 0, pos := "grow.go:30", after := #[{ on := 6, ground := Ground.data }, { on := 6, ground := Ground.chain }, { on := 0, ground := Ground.phase }, { on := 1, ground := Ground.phase }, { on := 2, ground := Ground.phase }, { on := 3, ground := Ground.phase }, { on := 4, ground := Ground.phase }, { on := 5, ground := Ground.phase }, { on := 6, ground := Ground.phase }], guard := none }]
set_option maxHeartbeats 2000000 in
theorem folded_next {Q : Exit → Act → World → Prop} {u2 u3 u4 u5 u8 u9 u10 u11 u12 u13 u14 u15 u16 u17 u18 u19 u20 u21 u22 u23 u24 u25 u26 u27 u28 u29 u30 u31 u32 : Value} (W : World) (gn o n c b q : Nat) (d : Int) (l x y : Nat → Nat) (hq : (q : Int) < (n : Int)) (I : World → Prop) (h0 : I W.drew) (hI : ∀ w, I w → w.rangeAt gn (o + q * 32) (ULIST .u8 32 l) ∧ Has w b (UARR .u8 32 x) 26) (hRow : ∀ w, I w → (w.setRow b (UARR .u8 32 y)).rangeAt gn (o + q * 32) (ULIST .u8 32 l))
    (c1 : ∀ w, I w → Calls Tryz.prog 28 #[.int .i64 d, .agg (UARR .u8 32 l), .agg (UARR .u8 32 x)] w fun e w' => e = .returned (.agg (UARR .u8 32 y)) ∧ I w') (hQ : ∀ c (a : Act) (t : Tmp) (v : Value) w, Q (.panic c) (a.put (some t) v) w → Q (.panic c) a w)
    (hfin : ∀ (w : World), (∃ w0 : World, I w0 ∧ w = w0.setRow b (UARR .u8 32 y)) → Q .normal { tmps := #[.int .i64 d, .slice (some ⟨gn, o, none⟩) n c, u2, u3, u4, u5, .pointer (some ⟨b, 0, none⟩), .int .i64 (q : Int), u8, u9, u10, u11, u12, u13, u14, u15, u16, u17, u18, u19, u20, u21, u22, u23, u24, .int .i64 d, .slice (some ⟨gn, o, none⟩) n c, .int .i64 (q : Int), .pointer (some ⟨gn, (o + q * 32), none⟩), .agg (UARR .u8 32 l), .agg (UARR .u8 32 x), .agg (UARR .u8 32 y), u32], defers := [] } w) : (Code.region 8 MF8OPS true).wp Tryz.prog Q { tmps := #[.int .i64 d, .slice (some ⟨gn, o, none⟩) n c, u2, u3, u4, u5, .pointer (some ⟨b, 0, none⟩), .int .i64 (q : Int), u8, u9, u10, u11, u12, u13, u14, u15, u16, u17, u18, u19, u20, u21, u22, u23, u24, u25, u26, u27, u28, u29, u30, u31, u32], defers := [] } W := by
  have k5_6_7 : ∀ (w : World), (∃ w0 : World, I w0 ∧ w = w0.setRow b (UARR .u8 32 y)) → wpAnyH Tryz.prog .any MF8OPS Q (fun w : World => w.rangeAt gn (o + q * 32) (ULIST .u8 32 l)) 0 #[true, true, true, true, true, true, true, true] { tmps := #[.int .i64 d, .slice (some ⟨gn, o, none⟩) n c, u2, u3, u4, u5, .pointer (some ⟨b, 0, none⟩), .int .i64 (q : Int), u8, u9, u10, u11, u12, u13, u14, u15, u16, u17, u18, u19, u20, u21, u22, u23, u24, .int .i64 d, .slice (some ⟨gn, o, none⟩) n c, .int .i64 (q : Int), .pointer (some ⟨gn, (o + q * 32), none⟩), .agg (UARR .u8 32 l), .agg (UARR .u8 32 x), .agg (UARR .u8 32 y), u32], defers := [] } w := fun  w hp => by
    exact wpAnyH_done (by kernel_rfl) (hfin  w hp) _
  have k5_6 : ∀ (w : World), (I w) → wpAnyH Tryz.prog .any MF8OPS Q (fun w : World => w.rangeAt gn (o + q * 32) (ULIST .u8 32 l)) 1 #[true, true, true, true, true, true, true, false] { tmps := #[.int .i64 d, .slice (some ⟨gn, o, none⟩) n c, u2, u3, u4, u5, .pointer (some ⟨b, 0, none⟩), .int .i64 (q : Int), u8, u9, u10, u11, u12, u13, u14, u15, u16, u17, u18, u19, u20, u21, u22, u23, u24, .int .i64 d, .slice (some ⟨gn, o, none⟩) n c, .int .i64 (q : Int), .pointer (some ⟨gn, (o + q * 32), none⟩), .agg (UARR .u8 32 l), .agg (UARR .u8 32 x), .agg (UARR .u8 32 y), u32], defers := [] } w := fun  w hp => by
    refine wpAnyH_ready (rs := [7]) (by kernel_rfl) (by simp) ?_
    refine AllReadyH.cons (o := { dst := none, op := Op.store 26 (Operand.tmp 6) (Operand.tmp 31), type := 0, pos := "grow.go:30", after := #[{ on := 6, ground := Ground.data }, { on := 6, ground := Ground.chain }, { on := 0, ground := Ground.phase }, { on := 1, ground := Ground.phase }, { on := 2, ground := Ground.phase }, { on := 3, ground := Ground.phase }, { on := 4, ground := Ground.phase }, { on := 5, ground := Ground.phase }, { on := 6, ground := Ground.phase }], guard := none }) rfl (fun K hK => ?_) ?_
    · exact step_skip rfl (run_skip (store_hash (hI _ hp).2 y)) (have hp : (fun (w : World) => (∃ w0 : World, I w0 ∧ w = w0.setRow b (UARR .u8 32 y)))  _ := ⟨w, hp, rfl⟩; hK.out _ _ ((by obtain ⟨w0, h1, h2⟩ := hp; (first | rw [h2] | skip); exact hRow _ h1)) (fun _ => k5_6_7  _ hp))
    exact AllReadyH.nil
  have k5 : ∀ (w : World), (I w) → wpAnyH Tryz.prog .any MF8OPS Q (fun w : World => w.rangeAt gn (o + q * 32) (ULIST .u8 32 l)) 2 #[true, true, true, true, true, true, false, false] { tmps := #[.int .i64 d, .slice (some ⟨gn, o, none⟩) n c, u2, u3, u4, u5, .pointer (some ⟨b, 0, none⟩), .int .i64 (q : Int), u8, u9, u10, u11, u12, u13, u14, u15, u16, u17, u18, u19, u20, u21, u22, u23, u24, .int .i64 d, .slice (some ⟨gn, o, none⟩) n c, .int .i64 (q : Int), .pointer (some ⟨gn, (o + q * 32), none⟩), .agg (UARR .u8 32 l), .agg (UARR .u8 32 x), u31, u32], defers := [] } w := fun  w hp => by
    refine wpAnyH_ready (rs := [6]) (by kernel_rfl) (by simp) ?_
    refine AllReadyH.cons (o := { dst := some 31, op := Op.call { callee := Callee.value (Operand.func 28), args := #[Operand.tmp 25, Operand.tmp 29, Operand.tmp 30], argTypes := #[3, 26, 26] }, type := 26, pos := "grow.go:30", after := #[{ on := 0, ground := Ground.data }, { on := 4, ground := Ground.data }, { on := 5, ground := Ground.data }], guard := none }) rfl (fun K hK => ?_) ?_
    · rw [if_pos (by rfl)]
      go_simp
      refine (show Calls _ _ _ w (fun e w' => e = .returned (.agg (UARR .u8 32 y)) ∧ (I w')) from c1 w hp).mono ?_
      rintro e w' ⟨rfl, hp⟩
      exact hK.out _ _ ((hI _ hp).1) (fun _ => k5_6  w' hp)
    exact AllReadyH.nil
  have k : ∀ (w : World), (I w) → wpAnyH Tryz.prog .any MF8OPS Q (fun w : World => w.rangeAt gn (o + q * 32) (ULIST .u8 32 l)) 3 #[true, true, true, true, true, false, false, false] { tmps := #[.int .i64 d, .slice (some ⟨gn, o, none⟩) n c, u2, u3, u4, u5, .pointer (some ⟨b, 0, none⟩), .int .i64 (q : Int), u8, u9, u10, u11, u12, u13, u14, u15, u16, u17, u18, u19, u20, u21, u22, u23, u24, .int .i64 d, .slice (some ⟨gn, o, none⟩) n c, .int .i64 (q : Int), .pointer (some ⟨gn, (o + q * 32), none⟩), .agg (UARR .u8 32 l), u30, u31, u32], defers := [] } w := fun  w hp => by
    refine wpAnyH_ready (rs := [5]) (by kernel_rfl) (by simp) ?_
    refine AllReadyH.cons (o := { dst := some 30, op := Op.load 26 (Operand.tmp 6), type := 26, pos := "grow.go:30", after := #[], guard := none }) rfl (fun K hK => ?_) ?_
    · exact step_load rfl 26 (.tmp 6) rfl b 0 rfl (ULIST .u8 32 x) _ (hI _ hp).2.whole Tryz.underlying26 rfl (by rw [ULIST_length]; exact info_hash) (have hp : (fun (w : World) => (I w))  w := hp; hK.out _ _ ((hI _ hp).1) (fun _ => k5  _ hp))
    exact AllReadyH.nil
  have hp := h0
  have hww : (fun w : World => w.rangeAt gn (o + q * 32) (ULIST .u8 32 l)) W.drew := (hI _ hp).1
  have last := k W.drew hp
  have z : wpAnyH Tryz.prog .any MF8OPS Q (fun w : World => w.rangeAt gn (o + q * 32) (ULIST .u8 32 l)) 8 #[false, false, false, false, false, false, false, false] { tmps := #[.int .i64 d, .slice (some ⟨gn, o, none⟩) n c, u2, u3, u4, u5, .pointer (some ⟨b, 0, none⟩), .int .i64 (q : Int), u8, u9, u10, u11, u12, u13, u14, u15, u16, u17, u18, u19, u20, u21, u22, u23, u24, u25, u26, u27, u28, u29, u30, u31, u32], defers := [] } W.drew := by
    have t4 : wpAnyH Tryz.prog .any MF8OPS Q (fun w : World => w.rangeAt gn (o + q * 32) (ULIST .u8 32 l)) 4 #[true, true, true, true, false, false, false, false] { tmps := #[.int .i64 d, .slice (some ⟨gn, o, none⟩) n c, u2, u3, u4, u5, .pointer (some ⟨b, 0, none⟩), .int .i64 (q : Int), u8, u9, u10, u11, u12, u13, u14, u15, u16, u17, u18, u19, u20, u21, u22, u23, u24, .int .i64 d, .slice (some ⟨gn, o, none⟩) n c, .int .i64 (q : Int), .pointer (some ⟨gn, (o + q * 32), none⟩), u29, u30, u31, u32], defers := [] } W.drew :=
      wpAnyH_take (i := 4) (oi := { dst := some 29, op := Op.load 26 (Operand.tmp 28), type := 26, pos := "grow.go:30", after := #[{ on := 3, ground := Ground.data }], guard := none }) (v := .agg (UARR .u8 32 l)) rfl (by kernel_rfl) (by kernel_rfl) (by kernel_rfl) (fun _ _ _ h => hQ _ _ _ _ _ h) (yieldsIf_load_mid (by rfl) 26 (.tmp 28) rfl gn (o + q * 32) rfl (ULIST .u8 32 l) _ (fun w h => h) Tryz.underlying26 rfl (by rw [ULIST_length]; exact info_hash)) hww last
    have t3 : wpAnyH Tryz.prog .any MF8OPS Q (fun w : World => w.rangeAt gn (o + q * 32) (ULIST .u8 32 l)) 5 #[true, true, true, false, false, false, false, false] { tmps := #[.int .i64 d, .slice (some ⟨gn, o, none⟩) n c, u2, u3, u4, u5, .pointer (some ⟨b, 0, none⟩), .int .i64 (q : Int), u8, u9, u10, u11, u12, u13, u14, u15, u16, u17, u18, u19, u20, u21, u22, u23, u24, .int .i64 d, .slice (some ⟨gn, o, none⟩) n c, .int .i64 (q : Int), u28, u29, u30, u31, u32], defers := [] } W.drew :=
      wpAnyH_take (i := 3) (oi := { dst := some 28, op := Op.indexAddr 23 (Operand.tmp 26) (Operand.tmp 27), type := 0, pos := "grow.go:30", after := #[{ on := 1, ground := Ground.data }, { on := 2, ground := Ground.data }], guard := none }) (v := .pointer (some ⟨gn, (o + q * 32), none⟩)) rfl (by kernel_rfl) (by kernel_rfl) (by kernel_rfl) (fun _ _ _ h => hQ _ _ _ _ _ h) (Yields.yieldsIf (Or.inl ⟨by rfl, fun W => by go_simp⟩)) hww t4
    have t2 : wpAnyH Tryz.prog .any MF8OPS Q (fun w : World => w.rangeAt gn (o + q * 32) (ULIST .u8 32 l)) 6 #[true, true, false, false, false, false, false, false] { tmps := #[.int .i64 d, .slice (some ⟨gn, o, none⟩) n c, u2, u3, u4, u5, .pointer (some ⟨b, 0, none⟩), .int .i64 (q : Int), u8, u9, u10, u11, u12, u13, u14, u15, u16, u17, u18, u19, u20, u21, u22, u23, u24, .int .i64 d, .slice (some ⟨gn, o, none⟩) n c, u27, u28, u29, u30, u31, u32], defers := [] } W.drew :=
      wpAnyH_take (i := 2) (oi := { dst := some 27, op := Op.move (Operand.tmp 7), type := 3, pos := "grow.go:30", after := #[], guard := none }) (v := .int .i64 (q : Int)) rfl (by kernel_rfl) (by kernel_rfl) (by kernel_rfl) (fun _ _ _ h => hQ _ _ _ _ _ h) (Yields.yieldsIf (Or.inl ⟨by rfl, fun W => by go_simp⟩)) hww t3
    have t1 : wpAnyH Tryz.prog .any MF8OPS Q (fun w : World => w.rangeAt gn (o + q * 32) (ULIST .u8 32 l)) 7 #[true, false, false, false, false, false, false, false] { tmps := #[.int .i64 d, .slice (some ⟨gn, o, none⟩) n c, u2, u3, u4, u5, .pointer (some ⟨b, 0, none⟩), .int .i64 (q : Int), u8, u9, u10, u11, u12, u13, u14, u15, u16, u17, u18, u19, u20, u21, u22, u23, u24, .int .i64 d, u26, u27, u28, u29, u30, u31, u32], defers := [] } W.drew :=
      wpAnyH_take (i := 1) (oi := { dst := some 26, op := Op.move (Operand.tmp 1), type := 23, pos := "grow.go:30", after := #[], guard := none }) (v := .slice (some ⟨gn, o, none⟩) n c) rfl (by kernel_rfl) (by kernel_rfl) (by kernel_rfl) (fun _ _ _ h => hQ _ _ _ _ _ h) (Yields.yieldsIf (Or.inl ⟨by rfl, fun W => by go_simp⟩)) hww t2
    have t0 : wpAnyH Tryz.prog .any MF8OPS Q (fun w : World => w.rangeAt gn (o + q * 32) (ULIST .u8 32 l)) 8 #[false, false, false, false, false, false, false, false] { tmps := #[.int .i64 d, .slice (some ⟨gn, o, none⟩) n c, u2, u3, u4, u5, .pointer (some ⟨b, 0, none⟩), .int .i64 (q : Int), u8, u9, u10, u11, u12, u13, u14, u15, u16, u17, u18, u19, u20, u21, u22, u23, u24, u25, u26, u27, u28, u29, u30, u31, u32], defers := [] } W.drew :=
      wpAnyH_take (i := 0) (oi := { dst := some 25, op := Op.move (Operand.tmp 0), type := 3, pos := "grow.go:30", after := #[], guard := none }) (v := .int .i64 d) rfl (by kernel_rfl) (by kernel_rfl) (by kernel_rfl) (fun _ _ _ h => hQ _ _ _ _ _ h) (Yields.yieldsIf (Or.inl ⟨by rfl, fun W => by go_simp⟩)) hww t1
    exact t0
  exact wp_region_held_drew (S := (fun w : World => w.rangeAt gn (o + q * 32) (ULIST .u8 32 l))) (by kernel_rfl) hww (fun _ => z)
end Go.Proofs.YtdmbmphdiaepdaaGreatDoor.HX

/- What TrailingZeros64 and num's Low answer, where the table of math/bits lies as its text lays it. -/
namespace Go.Proofs.YtdmbmphdiaepdaaGreatDoor
open Go.RowKit

/-- the table by which the lowest set bit is found. -/
def TAB : List Nat := [0, 1, 56, 2, 57, 49, 28, 3, 61, 58, 42, 50, 38, 29, 17, 4, 62, 47, 59, 36, 45, 43, 51, 22, 53, 39, 33, 30, 24, 18, 12, 5, 63, 55, 48, 27, 60, 41, 37, 16, 46, 35, 44, 21, 52, 32, 23, 11, 54, 26, 40, 15, 34, 20, 31, 10, 25, 14, 19, 9, 13, 8, 7, 6]
/-- the table lies in the first block. -/
def Tabled (w : World) : Prop := ∀ i, i < 64 → w.cell? ⟨2, i, none⟩ = some (.int .u8 ((TAB.getD i 0 : Nat) : Int))
theorem TAB_hit : ∀ t, t < 64 → TAB.getD (2 ^ t * 285870213051353865 % 2 ^ 64 / 2 ^ 58) 0 = t := by decide
theorem low_split : ∀ X : Nat, X ≠ 0 → ∃ t q, X = 2 ^ t * (2 * q + 1) := fun X => by
  induction X using Nat.strongRecOn with
  | _ X ih =>
    intro h
    by_cases ho : X % 2 = 1
    · exact ⟨0, X / 2, by omega⟩
    · obtain ⟨t, q, e⟩ := ih (X / 2) (by omega) (by omega)
      refine ⟨t + 1, q, ?_⟩
      rw [Nat.pow_succ, Nat.mul_comm (2 ^ t) 2, Nat.mul_assoc, ← e]
      omega
theorem odd_and {q s : Nat} (h : 2 * q + 1 < 2 ^ s) : (2 * q + 1) &&& (2 ^ s - (2 * q + 1)) = 1 := by
  apply Nat.eq_of_testBit_eq
  intro i
  rw [Nat.testBit_and, Nat.testBit_two_pow_sub_succ (by omega)]
  cases i with
  | zero =>
    have hs : 0 < s := by
      rcases Nat.eq_zero_or_pos s with h0 | h0
      · subst h0
        simp at h
      · exact h0
    simp [Nat.testBit_zero, hs]
  | succ i =>
    rw [Nat.testBit_succ, Nat.testBit_succ, Nat.testBit_succ, show (2 * q + 1) / 2 = q by omega, show 2 * q / 2 = q by omega]
    simp
    intro h1 _
    exact h1
theorem neg_and {X t q : Nat} (hX : X < 2 ^ 64) (e : X = 2 ^ t * (2 * q + 1)) : X &&& (2 ^ 64 - X) = 2 ^ t ∧ t < 64 := by
  have hp := Nat.two_pow_pos t
  have ht : t < 64 := by
    rcases Nat.lt_or_ge t 64 with h | h
    · exact h
    · have h1 : 2 ^ 64 ≤ 2 ^ t := Nat.pow_le_pow_right (by decide) h
      have h2 : 2 ^ t * 1 ≤ 2 ^ t * (2 * q + 1) := Nat.mul_le_mul_left _ (by omega)
      omega
  have h64 : (2 : Nat) ^ 64 = 2 ^ t * 2 ^ (64 - t) := by rw [← Nat.pow_add, show t + (64 - t) = 64 by omega]
  have hq : 2 * q + 1 < 2 ^ (64 - t) := by
    rw [e, h64] at hX
    exact Nat.lt_of_mul_lt_mul_left hX
  refine ⟨?_, ht⟩
  rw [e, h64, ← Nat.mul_sub, Nat.mul_comm, Nat.mul_comm (2 ^ t), ← Nat.shiftLeft_eq, ← Nat.shiftLeft_eq, ← Nat.shiftLeft_and_distrib, odd_and hq, Nat.shiftLeft_eq, Nat.one_mul]

theorem tz_zero (w : World) : Calls Tryz.prog 117 #[.int .u64 0] w fun e w' => e = .returned (.int .i64 64) ∧ w = w' := by
  go_enter Tryz.func117, Tryz.ntmps117
  go_wp2
  go_ret
  exact ⟨rfl, rfl⟩
theorem tz_raw (x b p i t : Int) (w : World) (h0 : (x == 0) = false) (e1 : bits .and .u64 x (IntKind.u64.wrap (-x)) = b) (e2 : IntKind.u64.wrap (b * 285870213051353865) = p) (hi : p / 288230376151711744 = i) (hi1 : 0 ≤ i) (hi2 : i < 64)
    (hc : w.cell? ⟨2, i.toNat, none⟩ = some (.int .u8 t)) (ht : Aside (wrap64 t = t)) : Calls Tryz.prog 117 #[.int .u64 x] w fun e w' => e = .returned (.int .i64 t) ∧ w = w' := by
  go_enter Tryz.func117, Tryz.ntmps117
  go_wp2
  go_ret
  refine ⟨?_, rfl⟩
  rw [show (Value.int .i64 t) = .int .i64 (wrap64 t) by rw [ht.out]]
  rfl
theorem tz_ok (X t q : Nat) (hX : X < 2 ^ 64) (e : X = 2 ^ t * (2 * q + 1)) (w : World) (hT : Tabled w) : Calls Tryz.prog 117 #[.int .u64 (X : Int)] w fun e w' => e = .returned (.int .i64 (t : Int)) ∧ w = w' := by
  obtain ⟨ha, ht⟩ := neg_and hX e
  have hX0 : 0 < X := by
    rw [e]
    exact Nat.mul_pos (Nat.two_pow_pos t) (by omega)
  have hm : IntKind.u64.wrap (-(X : Int)) = ((2 ^ 64 - X : Nat) : Int) := by rw [wrapU]; omega
  have hb : bits .and .u64 (X : Int) (IntKind.u64.wrap (-(X : Int))) = ((2 ^ t : Nat) : Int) := by rw [hm, and_eq hX (by omega), ha]
  have hp : IntKind.u64.wrap (((2 ^ t : Nat) : Int) * 285870213051353865) = ((2 ^ t * 285870213051353865 % 2 ^ 64 : Nat) : Int) := by
    rw [wrapU]
    generalize 2 ^ t = u
    omega
  have hl : 2 ^ t * 285870213051353865 % 2 ^ 64 < 2 ^ 64 := Nat.mod_lt _ (by decide)
  have hi : 2 ^ t * 285870213051353865 % 2 ^ 64 / 2 ^ 58 < 64 := Nat.div_lt_of_lt_mul (by omega)
  have hc := hT _ hi
  rw [TAB_hit t ht] at hc
  refine tz_raw X _ _ ((2 ^ t * 285870213051353865 % 2 ^ 64 / 2 ^ 58 : Nat) : Int) t w (by simp; omega) hb hp ?_ (by omega) (by omega) (by rw [Int.toNat_natCast]; exact hc) (by unfold Aside wrap64; omega)
  generalize 2 ^ t * 285870213051353865 % 2 ^ 64 = u
  omega
theorem low_raw (x r : Int) (w : World) (c : Calls Tryz.prog 117 #[.int .u64 x] w fun e w' => e = .returned (.int .i64 r) ∧ w = w') :
    Calls Tryz.prog 102 #[.int .u64 x] w fun e w' => e = .returned (.int .i64 r) ∧ w = w' := by
  go_enter Tryz.func102, Tryz.ntmps102
  go_wp2_with fail
  refine c.mono ?_
  rintro e w' ⟨rfl, rfl⟩
  go_wp2
  go_ret
  exact ⟨rfl, rfl⟩
end Go.Proofs.YtdmbmphdiaepdaaGreatDoor
