/- Texts of VerifyPrefixes, one behind the other: VerifyRefBagRegion, VerifyRefBag, VerifyUnder, VerifyRooted. -/
import Derived.Test.YtkcfhgflgkejoaaGreatDoorVerifyPrefixesP7
import Derived.Test.YtkcfhgflgkejoaaGreatDoorVerifyPrefixesP9
import Derived.Test.YtkcfhgflgkejoaaGreatDoorVerifyPrefixesP16
import Derived.Test.YtkcfhgflgkejoaaGreatDoorVerifyPrefixesP20
import Derived.Test.YtkcfhgflgkejoaaGreatDoorVerifyPrefixesP25
import Derived.Test.YtkcfhgflgkejoaaGreatDoorVerifyPrefixesP29
/- The region of massifref6.Bag that draws its order, hashes as lists. -/
namespace Go.Proofs.YtkcfhgflgkejoaaGreatDoor
open Go.RowKit
set_option maxRecDepth 100000

def RBGOPS : Array Oper := #[{ dst := some 39,op := Op.move (Operand.tmp 0),type := 3,pos := "ref.go:24",after := #[],guard := none },{ dst := some 40,op := Op.move (Operand.tmp 2),type := 32,pos := "ref.go:24",after := #[],guard := none },{ dst := some 41,op := Op.move (Operand.tmp 9),type := 3,pos := "ref.go:24",after := #[],guard := none },{ dst := some 42,op := Op.indexAddr 32 (Operand.tmp 40) (Operand.tmp 41),type := 0,pos := "ref.go:24",after := #[{ on := 1,ground := Ground.data },{ on := 2,ground := Ground.data }],guard := none },{ dst := some 43,op := Op.load 23 (Operand.tmp 42),type := 23,pos := "ref.go:24",after := #[{ on := 3,ground := Ground.data }],guard := none },{ dst := some 44,op := Op.load 23 (Operand.tmp 8),type := 23,pos := "ref.go:24",after := #[],guard := none },{ dst := some 45,op := Op.call { callee := Callee.value (Operand.func 48),args := #[Operand.tmp 39,Operand.tmp 43,Operand.tmp 44],argTypes := #[3,23,23] },type := 23,pos := "ref.go:24",after := #[{ on := 0,ground := Ground.data },{ on := 4,ground := Ground.data },{ on := 5,ground := Ground.data }],guard := none },{ dst := none,op := Op.store 23 (Operand.tmp 8) (Operand.tmp 45),type := 0,pos := "ref.go:24",after := #[{ on := 6,ground := Ground.data },{ on := 6,ground := Ground.chain },{ on := 0,ground := Ground.phase },{ on := 1,ground := Ground.phase },{ on := 2,ground := Ground.phase },{ on := 3,ground := Ground.phase },{ on := 4,ground := Ground.phase },{ on := 5,ground := Ground.phase },{ on := 6,ground := Ground.phase }],guard := none }]
set_option maxHeartbeats 2000000 in
theorem refbag8_next {Q : Exit → Act → World → Prop} {u1 u3 u4 u5 u6 u7 u10 u11 u12 u13 u14 u15 u16 u17 u18 u19 u20 u21 u22 u23 u24 u25 u26 u27 u28 u29 u30 u31 u32 u33 u34 u35 u36 u37 u38 u39 u40 u41 u42 u43 u44 u45 u46 u47 u48 u49 : Value} (W : World) (gn o n c b q : Nat) (d : Int) (L X Y : List Int) (hL : L.length = 32) (hX : X.length = 32) (hY : Y.length = 32) (hq : (q : Int) < (n : Int)) (I : World → Prop) (h0 : I W.drew) (hI : ∀ w,I w → w.rangeAt gn (o + q * 32) (CELLS L) ∧ Has w b (CELLS X).toArray 23) (hRow : ∀ w,I w → (w.setRow b (CELLS Y).toArray).rangeAt gn (o + q * 32) (CELLS L))
    (q1 : ∀ w,I w → Calls Tryz.prog 48 #[.int .i64 d,.agg (CELLS L).toArray,.agg (CELLS X).toArray] w fun e w' => e = .returned (.agg (CELLS Y).toArray) ∧ I w') (hQ : ∀ c (a : Act) (t : Tmp) (v : Value) w,Q (.panic c) (a.put (some t) v) w → Q (.panic c) a w)
    (hfin : ∀ (w : World),(∃ w0 : World,I w0 ∧ w = w0.setRow b (CELLS Y).toArray) → Q .normal { tmps := #[.int .i64 d,u1,.slice (some ⟨gn,o,none⟩) n c,u3,u4,u5,u6,u7,.pointer (some ⟨b,0,none⟩),.int .i64 (q : Int),u10,u11,u12,u13,u14,u15,u16,u17,u18,u19,u20,u21,u22,u23,u24,u25,u26,u27,u28,u29,u30,u31,u32,u33,u34,u35,u36,u37,u38,.int .i64 d,.slice (some ⟨gn,o,none⟩) n c,.int .i64 (q : Int),.pointer (some ⟨gn,(o + q * 32),none⟩),.agg (CELLS L).toArray,.agg (CELLS X).toArray,.agg (CELLS Y).toArray,u46,u47,u48,u49],defers := [] } w) : (Code.region 11 RBGOPS true).wp Tryz.prog Q { tmps := #[.int .i64 d,u1,.slice (some ⟨gn,o,none⟩) n c,u3,u4,u5,u6,u7,.pointer (some ⟨b,0,none⟩),.int .i64 (q : Int),u10,u11,u12,u13,u14,u15,u16,u17,u18,u19,u20,u21,u22,u23,u24,u25,u26,u27,u28,u29,u30,u31,u32,u33,u34,u35,u36,u37,u38,u39,u40,u41,u42,u43,u44,u45,u46,u47,u48,u49],defers := [] } W := by
  have k5_6_7 : ∀ (w : World),(∃ w0 : World,I w0 ∧ w = w0.setRow b (CELLS Y).toArray) → wpAnyH Tryz.prog .any RBGOPS Q (fun w : World => w.rangeAt gn (o + q * 32) (CELLS L)) 0 #[true,true,true,true,true,true,true,true] { tmps := #[.int .i64 d,u1,.slice (some ⟨gn,o,none⟩) n c,u3,u4,u5,u6,u7,.pointer (some ⟨b,0,none⟩),.int .i64 (q : Int),u10,u11,u12,u13,u14,u15,u16,u17,u18,u19,u20,u21,u22,u23,u24,u25,u26,u27,u28,u29,u30,u31,u32,u33,u34,u35,u36,u37,u38,.int .i64 d,.slice (some ⟨gn,o,none⟩) n c,.int .i64 (q : Int),.pointer (some ⟨gn,(o + q * 32),none⟩),.agg (CELLS L).toArray,.agg (CELLS X).toArray,.agg (CELLS Y).toArray,u46,u47,u48,u49],defers := [] } w := fun  w hp => by
    exact wpAnyH_done (by kernel_rfl) (hfin  w hp) _
  have k5_6 : ∀ (w : World),(I w) → wpAnyH Tryz.prog .any RBGOPS Q (fun w : World => w.rangeAt gn (o + q * 32) (CELLS L)) 1 #[true,true,true,true,true,true,true,false] { tmps := #[.int .i64 d,u1,.slice (some ⟨gn,o,none⟩) n c,u3,u4,u5,u6,u7,.pointer (some ⟨b,0,none⟩),.int .i64 (q : Int),u10,u11,u12,u13,u14,u15,u16,u17,u18,u19,u20,u21,u22,u23,u24,u25,u26,u27,u28,u29,u30,u31,u32,u33,u34,u35,u36,u37,u38,.int .i64 d,.slice (some ⟨gn,o,none⟩) n c,.int .i64 (q : Int),.pointer (some ⟨gn,(o + q * 32),none⟩),.agg (CELLS L).toArray,.agg (CELLS X).toArray,.agg (CELLS Y).toArray,u46,u47,u48,u49],defers := [] } w := fun  w hp => by
    refine wpAnyH_ready (rs := [7]) (by kernel_rfl) (by simp) ?_
    refine AllReadyH.cons (o := { dst := none,op := Op.store 23 (Operand.tmp 8) (Operand.tmp 45),type := 0,pos := "ref.go:24",after := #[{ on := 6,ground := Ground.data },{ on := 6,ground := Ground.chain },{ on := 0,ground := Ground.phase },{ on := 1,ground := Ground.phase },{ on := 2,ground := Ground.phase },{ on := 3,ground := Ground.phase },{ on := 4,ground := Ground.phase },{ on := 5,ground := Ground.phase },{ on := 6,ground := Ground.phase }],guard := none }) rfl (fun K hK => ?_) ?_
    · exact step_of_list (by rfl) (wpList_store_row rfl 23 (.tmp 8) (.tmp 45) rfl _ _ rfl rfl 23 _ (hI _ hp).2 (info_arr hY) (by simp [CELLS,hX,hY]) (cells_one Y) ⟨rfl,(have hp : (fun (w : World) => (∃ w0 : World,I w0 ∧ w = w0.setRow b (CELLS Y).toArray))  _ := ⟨w,hp,rfl⟩; hK.out _ _ ((by obtain ⟨w0,h1,h2⟩ := hp; (first | rw [h2] | skip); exact hRow _ h1)) (fun _ => k5_6_7  _ hp))⟩)
    exact AllReadyH.nil
  have k5 : ∀ (w : World),(I w) → wpAnyH Tryz.prog .any RBGOPS Q (fun w : World => w.rangeAt gn (o + q * 32) (CELLS L)) 2 #[true,true,true,true,true,true,false,false] { tmps := #[.int .i64 d,u1,.slice (some ⟨gn,o,none⟩) n c,u3,u4,u5,u6,u7,.pointer (some ⟨b,0,none⟩),.int .i64 (q : Int),u10,u11,u12,u13,u14,u15,u16,u17,u18,u19,u20,u21,u22,u23,u24,u25,u26,u27,u28,u29,u30,u31,u32,u33,u34,u35,u36,u37,u38,.int .i64 d,.slice (some ⟨gn,o,none⟩) n c,.int .i64 (q : Int),.pointer (some ⟨gn,(o + q * 32),none⟩),.agg (CELLS L).toArray,.agg (CELLS X).toArray,u45,u46,u47,u48,u49],defers := [] } w := fun  w hp => by
    refine wpAnyH_ready (rs := [6]) (by kernel_rfl) (by simp) ?_
    refine AllReadyH.cons (o := { dst := some 45,op := Op.call { callee := Callee.value (Operand.func 48),args := #[Operand.tmp 39,Operand.tmp 43,Operand.tmp 44],argTypes := #[3,23,23] },type := 23,pos := "ref.go:24",after := #[{ on := 0,ground := Ground.data },{ on := 4,ground := Ground.data },{ on := 5,ground := Ground.data }],guard := none }) rfl (fun K hK => ?_) ?_
    · rw [if_pos (by rfl)]
      go_simp
      refine (show Calls _ _ _ w (fun e w' => e = .returned (.agg (CELLS Y).toArray) ∧ (I w')) from q1 w hp).mono ?_
      rintro e w' ⟨rfl,hp⟩
      exact hK.out _ _ ((hI _ hp).1) (fun _ => k5_6  w' hp)
    exact AllReadyH.nil
  have k : ∀ (w : World),(I w) → wpAnyH Tryz.prog .any RBGOPS Q (fun w : World => w.rangeAt gn (o + q * 32) (CELLS L)) 3 #[true,true,true,true,true,false,false,false] { tmps := #[.int .i64 d,u1,.slice (some ⟨gn,o,none⟩) n c,u3,u4,u5,u6,u7,.pointer (some ⟨b,0,none⟩),.int .i64 (q : Int),u10,u11,u12,u13,u14,u15,u16,u17,u18,u19,u20,u21,u22,u23,u24,u25,u26,u27,u28,u29,u30,u31,u32,u33,u34,u35,u36,u37,u38,.int .i64 d,.slice (some ⟨gn,o,none⟩) n c,.int .i64 (q : Int),.pointer (some ⟨gn,(o + q * 32),none⟩),.agg (CELLS L).toArray,u44,u45,u46,u47,u48,u49],defers := [] } w := fun  w hp => by
    refine wpAnyH_ready (rs := [5]) (by kernel_rfl) (by simp) ?_
    refine AllReadyH.cons (o := { dst := some 44,op := Op.load 23 (Operand.tmp 8),type := 23,pos := "ref.go:24",after := #[],guard := none }) rfl (fun K hK => ?_) ?_
    · exact step_of_list (by rfl) (wpList_load_row rfl 23 (.tmp 8) rfl b rfl 23 (CELLS X).toArray (0,0) _ (hI _ hp).2 Tryz.underlying23 rfl (info_arr hX) ⟨rfl,(have hp : (fun (w : World) => (I w))  w := hp; hK.out _ _ ((hI _ hp).1) (fun _ => k5  _ hp))⟩)
    exact AllReadyH.nil
  have hp := h0
  have hww : (fun w : World => w.rangeAt gn (o + q * 32) (CELLS L)) W.drew := (hI _ hp).1
  have last := k W.drew hp
  have z : wpAnyH Tryz.prog .any RBGOPS Q (fun w : World => w.rangeAt gn (o + q * 32) (CELLS L)) 8 #[false,false,false,false,false,false,false,false] { tmps := #[.int .i64 d,u1,.slice (some ⟨gn,o,none⟩) n c,u3,u4,u5,u6,u7,.pointer (some ⟨b,0,none⟩),.int .i64 (q : Int),u10,u11,u12,u13,u14,u15,u16,u17,u18,u19,u20,u21,u22,u23,u24,u25,u26,u27,u28,u29,u30,u31,u32,u33,u34,u35,u36,u37,u38,u39,u40,u41,u42,u43,u44,u45,u46,u47,u48,u49],defers := [] } W.drew := by
    have t4 : wpAnyH Tryz.prog .any RBGOPS Q (fun w : World => w.rangeAt gn (o + q * 32) (CELLS L)) 4 #[true,true,true,true,false,false,false,false] { tmps := #[.int .i64 d,u1,.slice (some ⟨gn,o,none⟩) n c,u3,u4,u5,u6,u7,.pointer (some ⟨b,0,none⟩),.int .i64 (q : Int),u10,u11,u12,u13,u14,u15,u16,u17,u18,u19,u20,u21,u22,u23,u24,u25,u26,u27,u28,u29,u30,u31,u32,u33,u34,u35,u36,u37,u38,.int .i64 d,.slice (some ⟨gn,o,none⟩) n c,.int .i64 (q : Int),.pointer (some ⟨gn,(o + q * 32),none⟩),u43,u44,u45,u46,u47,u48,u49],defers := [] } W.drew :=
      wpAnyH_take (i := 4) (oi := { dst := some 43,op := Op.load 23 (Operand.tmp 42),type := 23,pos := "ref.go:24",after := #[{ on := 3,ground := Ground.data }],guard := none }) (v := .agg (CELLS L).toArray) rfl (by kernel_rfl) (by kernel_rfl) (by kernel_rfl) (fun _ _ _ h => hQ _ _ _ _ _ h) (yieldsIf_load_mid (by rfl) 23 (.tmp 42) rfl gn (o + q * 32) rfl (CELLS L) _ (fun w h => h) Tryz.underlying23 rfl (info_cells hL)) hww last
    have t3 : wpAnyH Tryz.prog .any RBGOPS Q (fun w : World => w.rangeAt gn (o + q * 32) (CELLS L)) 5 #[true,true,true,false,false,false,false,false] { tmps := #[.int .i64 d,u1,.slice (some ⟨gn,o,none⟩) n c,u3,u4,u5,u6,u7,.pointer (some ⟨b,0,none⟩),.int .i64 (q : Int),u10,u11,u12,u13,u14,u15,u16,u17,u18,u19,u20,u21,u22,u23,u24,u25,u26,u27,u28,u29,u30,u31,u32,u33,u34,u35,u36,u37,u38,.int .i64 d,.slice (some ⟨gn,o,none⟩) n c,.int .i64 (q : Int),u42,u43,u44,u45,u46,u47,u48,u49],defers := [] } W.drew :=
      wpAnyH_take (i := 3) (oi := { dst := some 42,op := Op.indexAddr 32 (Operand.tmp 40) (Operand.tmp 41),type := 0,pos := "ref.go:24",after := #[{ on := 1,ground := Ground.data },{ on := 2,ground := Ground.data }],guard := none }) (v := .pointer (some ⟨gn,(o + q * 32),none⟩)) rfl (by kernel_rfl) (by kernel_rfl) (by kernel_rfl) (fun _ _ _ h => hQ _ _ _ _ _ h) (Yields.yieldsIf (Or.inl ⟨by rfl,fun W => by go_simp⟩)) hww t4
    have t2 : wpAnyH Tryz.prog .any RBGOPS Q (fun w : World => w.rangeAt gn (o + q * 32) (CELLS L)) 6 #[true,true,false,false,false,false,false,false] { tmps := #[.int .i64 d,u1,.slice (some ⟨gn,o,none⟩) n c,u3,u4,u5,u6,u7,.pointer (some ⟨b,0,none⟩),.int .i64 (q : Int),u10,u11,u12,u13,u14,u15,u16,u17,u18,u19,u20,u21,u22,u23,u24,u25,u26,u27,u28,u29,u30,u31,u32,u33,u34,u35,u36,u37,u38,.int .i64 d,.slice (some ⟨gn,o,none⟩) n c,u41,u42,u43,u44,u45,u46,u47,u48,u49],defers := [] } W.drew :=
      wpAnyH_take (i := 2) (oi := { dst := some 41,op := Op.move (Operand.tmp 9),type := 3,pos := "ref.go:24",after := #[],guard := none }) (v := .int .i64 (q : Int)) rfl (by kernel_rfl) (by kernel_rfl) (by kernel_rfl) (fun _ _ _ h => hQ _ _ _ _ _ h) (Yields.yieldsIf (Or.inl ⟨by rfl,fun W => by go_simp⟩)) hww t3
    have t1 : wpAnyH Tryz.prog .any RBGOPS Q (fun w : World => w.rangeAt gn (o + q * 32) (CELLS L)) 7 #[true,false,false,false,false,false,false,false] { tmps := #[.int .i64 d,u1,.slice (some ⟨gn,o,none⟩) n c,u3,u4,u5,u6,u7,.pointer (some ⟨b,0,none⟩),.int .i64 (q : Int),u10,u11,u12,u13,u14,u15,u16,u17,u18,u19,u20,u21,u22,u23,u24,u25,u26,u27,u28,u29,u30,u31,u32,u33,u34,u35,u36,u37,u38,.int .i64 d,u40,u41,u42,u43,u44,u45,u46,u47,u48,u49],defers := [] } W.drew :=
      wpAnyH_take (i := 1) (oi := { dst := some 40,op := Op.move (Operand.tmp 2),type := 32,pos := "ref.go:24",after := #[],guard := none }) (v := .slice (some ⟨gn,o,none⟩) n c) rfl (by kernel_rfl) (by kernel_rfl) (by kernel_rfl) (fun _ _ _ h => hQ _ _ _ _ _ h) (Yields.yieldsIf (Or.inl ⟨by rfl,fun W => by go_simp⟩)) hww t2
    have t0 : wpAnyH Tryz.prog .any RBGOPS Q (fun w : World => w.rangeAt gn (o + q * 32) (CELLS L)) 8 #[false,false,false,false,false,false,false,false] { tmps := #[.int .i64 d,u1,.slice (some ⟨gn,o,none⟩) n c,u3,u4,u5,u6,u7,.pointer (some ⟨b,0,none⟩),.int .i64 (q : Int),u10,u11,u12,u13,u14,u15,u16,u17,u18,u19,u20,u21,u22,u23,u24,u25,u26,u27,u28,u29,u30,u31,u32,u33,u34,u35,u36,u37,u38,u39,u40,u41,u42,u43,u44,u45,u46,u47,u48,u49],defers := [] } W.drew :=
      wpAnyH_take (i := 0) (oi := { dst := some 39,op := Op.move (Operand.tmp 0),type := 3,pos := "ref.go:24",after := #[],guard := none }) (v := .int .i64 d) rfl (by kernel_rfl) (by kernel_rfl) (by kernel_rfl) (fun _ _ _ h => hQ _ _ _ _ _ h) (Yields.yieldsIf (Or.inl ⟨by rfl,fun W => by go_simp⟩)) hww t1
    exact t0
  exact wp_region_held_drew (S := (fun w : World => w.rangeAt gn (o + q * 32) (CELLS L))) (by kernel_rfl) hww (fun _ => z)
end Go.Proofs.YtkcfhgflgkejoaaGreatDoor

/- What the document's Bag answers of as many peaks as there are, hashes as lists. -/
namespace Go.Proofs.YtkcfhgflgkejoaaGreatDoor
open Go.RowKit
set_option maxRecDepth 100000

theorem reffoldh_ok (d : Int) (l r : List Int) (hl : IsH l) (hr : IsH r) (w : World) : Calls Tryz.prog 48 #[.int .i64 d,.agg (CELLS l).toArray,.agg (CELLS r).toArray] w fun e w' => e = .returned (.agg (CELLS (FOLDH d l r)).toArray) ∧ Below w.heap.size w w' := by
  rw [cells_uarr hl,cells_uarr hr]
  refine (HX.reffold_ok d (FNC l) (FNC r) (FNC_lt hl) (FNC_lt hr) w).mono ?_
  rintro e w' ⟨rfl,hb⟩
  exact ⟨by rw [uarr_cells]; rfl,hb⟩
theorem refrooth_ok (d : Int) (n : Nat) (hn : n < 2 ^ 64) (r : List Int) (hr : IsH r) (w : World) : Calls Tryz.prog 47 #[.int .i64 d,.int .u64 (n : Int),.agg (CELLS r).toArray] w fun e w' => e = .returned (.agg (CELLS (ROOTH d n r)).toArray) ∧ Below w.heap.size w w' := by
  rw [cells_uarr hr]
  refine (HX.refroot_ok d n hn (FNC r) (FNC_lt hr) w).mono ?_
  rintro e w' ⟨rfl,hb⟩
  exact ⟨by rw [uarr_cells]; rfl,hb⟩
set_option maxHeartbeats 4000000 in
theorem refbag8_ok (d : Int) (n : Nat) (hn : n ≤ 4611686018427387904) (a : Option Addr) (k c : Nat) (hk : k = PC n) (h0 : k ≠ 0) (l : List Int) (w : World) (hF : Flat w a k l) :
    Calls Tryz.prog 22 #[.int .i64 d,.int .u64 (n : Int),.slice a k c] w fun e w' => e = .returned (.tuple #[.agg (CELLS (ROOTH d n (FLD d l k))).toArray,.int .i64 0]) ∧ Below w.heap.size w w' := by
  obtain ⟨w0,hw0⟩ : ∃ w0,w.alloc (.cells ZARR 23) = w0 := ⟨_,rfl⟩
  have hb0 : Below w.heap.size w w0 := by rw [← hw0]; exact (Below.refl _ _).alloc (Nat.le_refl _) _
  have h40 : Has w0 w.heap.size (CELLS ZND).toArray 23 := by rw [← hw0, ← ZARR_eq]; exact Has.new w _ _
  have h1' : ¬ (4611686018427387904 : Int) < (n : Int) := by omega
  have hk64 : k ≤ 64 := by rw [hk]; exact PC_lt_pow 64 n (by omega)
  have co := tops_ok n hn w0
  generalize SCELLS (TOPS 0 n) = SC at co
  rw [← hk] at co
  obtain ⟨m,hm⟩ : ∃ m,k = m + 1 := ⟨k - 1,by omega⟩
  obtain ⟨gn,o,rfl,hgn, -⟩ := hF.2.1 (by omega)
  have hz0 : ((k : Int) == 0) = false := beq_eq_false_iff_ne.2 (by omega)
  have e1 : wrap64 ((k : Int) - 1) = (m : Int) := by unfold wrap64; omega
  have e2 : wrap64 ((k : Int) - 2) = (m : Int) - 1 := by unfold wrap64; omega
  have hml : (m : Int) < (k : Int) := by omega
  have e : FLD d l k = FA d l k m := by unfold FLD; rw [if_neg h0,show k - 1 = m by omega]
  have hFA := FA_is (d := d) hF.1 hF.2.2 (by omega)
  have CR : Aside (∀ W,Calls Tryz.prog 47 #[.int .i64 d,.int .u64 (n : Int),.agg (CELLS (FA d l k m)).toArray] W fun e w' => e = .returned (.agg (CELLS (ROOTH d n (FLD d l k))).toArray) ∧ Below W.heap.size W w') := fun W => by
    rw [e]
    exact refrooth_ok d n (by omega) (FA d l k m) (hFA m) W
  have hYH : IsH (ROOTH d n (FLD d l k)) := ROOTH_is _ _ _
  generalize ROOTH d n (FLD d l k) = Y at *
  have HA : Aside (k = m + 1 ∧ k ≤ 64 ∧ Flat w (some ⟨gn,o,none⟩) k l ∧ gn < w.heap.size ∧ (∀ i,IsH (FA d l k i)) ∧ FA d l k 0 = HSH l m ∧ Y.length = 32) := ⟨hm,hk64,hF,hgn,hFA,by rw [FA,show k - 1 = m by omega],hYH.1⟩
  have R0 : Aside (Below w.heap.size w w0 ∧ Has w0 w.heap.size (CELLS ZND).toArray 23) := ⟨hb0,h40⟩
  clear hm hn hgn h0 e hF hk hk64 hb0 h40 hFA hYH
  go_enter Tryz.func22,Tryz.ntmps22
  go_upto_region 1 with fail
  go_wp2_with fail
  refine co.mono ?_
  rintro e w1 ⟨v,rfl,hown,hb1⟩
  obtain ⟨a',c',rfl,_⟩ : ∃ a' c',v = .slice a' k c' ∧ True := by
    rcases hown.2 with ⟨e,h⟩ | ⟨g,cap,cur,e,_⟩
    · exact ⟨none,0,by rw [e,h],trivial⟩
    · exact ⟨_,_,e,trivial⟩
  clear co hown
  have R1 : Aside (Below w.heap.size w w1 ∧ Has w1 w.heap.size (CELLS ZND).toArray 23) := ⟨R0.out.1.trans (hb1.mono R0.out.1.size),R0.out.2.keep hb1⟩
  clear hb1 hw0
  have hat : w1.rangeAt gn (o + m * 32) (CELLS (FA d l k 0)) := by rw [HA.out.2.2.2.2.2.1]; exact (HA.out.2.2.1.below R1.out.1).at (show m < k by have := HA.out.1; omega)
  have h32 := (HA.out.2.2.2.2.1 0).1
  generalize hA0 : FA d l k 0 = A0 at *
  go_wp2_with (first
    | (refine wpList_load_mid rfl 23 (.tmp 30) rfl gn (o + m * 32) rfl (CELLS A0) _ hat Tryz.underlying23 rfl (info_cells h32) ?_)
    | (refine wpList_store_row rfl 23 (.tmp 8) (.tmp 31) rfl _ _ rfl rfl 23 _ (Has.new w1 _ _) (info_arr h32) (by simp [CELLS,h32]) (cells_one A0) ?_; rw [World.setRow_alloc_new]))
  have R2 : Aside (Below w.heap.size w (w1.alloc (.cells (CELLS A0).toArray 23)) ∧ Has (w1.alloc (.cells (CELLS A0).toArray 23)) w.heap.size (CELLS ZND).toArray 23 ∧ Has (w1.alloc (.cells (CELLS A0).toArray 23)) w1.heap.size (CELLS (FA d l k 0)).toArray 23 ∧ w.heap.size < w1.heap.size) := ⟨R1.out.1.alloc R1.out.1.size _,R1.out.2.alloc _,by rw [hA0]; exact Has.new _ _ _,R1.out.2.lt⟩
  clear hat h32 hA0 R0 R1
  generalize w1.alloc (.cells (CELLS A0).toArray 23) = W1 at *
  generalize w1.heap.size = b8 at *
  have K : Aside (w.heap.size < b8) := R2.out.2.2.2
  go_loopg [9] m (fun q s9 wx => ∃ x : Int,s9 = .int .i64 x ∧ Aside (q ≤ m ∧ x = (q : Int) - 1 ∧ Below w.heap.size w wx ∧ Has wx w.heap.size (CELLS ZND).toArray 23 ∧ Has wx b8 (CELLS (FA d l k (m - q))).toArray 23))
  case atStart => exact ⟨_,rfl,Nat.le_refl _,by first | rfl | exact e2,R2.out.1,R2.out.2.1,by rw [Nat.sub_self]; exact R2.out.2.2.1⟩
  case round =>
    obtain ⟨x,rfl,A⟩ := hrel
    clear R2 e1 e2
    cases gk with
    | zero =>
      obtain rfl : x = -1 := by have := A.out.2.1; omega
      have hH8 : Has wr b8 (CELLS (FA d l k m)).toArray 23 := A.out.2.2.2.2
      have A2 : Aside (Below w.heap.size w wr ∧ Has wr w.heap.size (CELLS ZND).toArray 23) := ⟨A.out.2.2.1,A.out.2.2.2.1⟩
      have x32 := (HA.out.2.2.2.2.1 m).1
      have y32 := HA.out.2.2.2.2.2.2
      have cr := CR.out wr
      clear A HA CR
      generalize FA d l k m = X at *
      go_wp2_with (refine wpList_load_row rfl 23 (.tmp 8) rfl b8 rfl 23 (CELLS X).toArray (0,0) _ hH8 Tryz.underlying23 rfl (info_arr x32) ?_)
      refine cr.mono ?_
      rintro e w2 ⟨rfl,hb2⟩
      clear cr
      have h42 := A2.out.2.keep hb2
      have hb3 : Below w.heap.size w w2 := A2.out.1.trans (hb2.mono A2.out.1.size)
      clear hb2 A2
      go_wp2_with (refine wpList_store_row rfl 23 (.tmp 6) (.tmp 49) rfl _ _ rfl rfl 23 _ h42 (info_arr y32) (by simp [CELLS,y32]; rfl) (cells_one Y) ?_)
      refine bodyPost_ret (v := .tuple #[.agg (CELLS Y).toArray,.int .i64 0]) (results_two rfl _ _ w.heap.size 23 _ (0,0) _ _ _ rfl rfl (Has.row h42 _) Tryz.underlying23 (info_arr y32)) rfl ⟨rfl,below_row hb3 (Nat.le_refl _) _⟩
    | succ q =>
      obtain rfl : x = (q : Int) := by have := A.out.2.1; omega
      have hq0 : (0 : Int) ≤ (q : Int) := by omega
      obtain ⟨h1,h2,h3,h5,h6,_,_⟩ := HA.out
      have hqm : q + 1 ≤ m := A.out.1
      have hb1 : (q : Int) < (k : Int) := by omega
      have eY : FA d l k (m - q) = FOLDH d (HSH l q) (FA d l k (m - (q + 1))) := by
        rw [show m - q = (m - (q + 1)) + 1 by omega,FA,show k - 2 - (m - (q + 1)) = q by omega]
      have hE1 : Aside (wrap64 ((q : Int) - 1) = (q : Int) - 1) := by show wrap64 ((q : Int) - 1) = (q : Int) - 1; unfold wrap64; omega
      have H2 : Aside (w.rangeAt gn (o + q * 32) (CELLS (HSH l q)) ∧ gn < w.heap.size ∧ IsH (HSH l q) ∧ (∀ i,IsH (FA d l k i)) ∧ FA d l k (m - q) = FOLDH d (HSH l q) (FA d l k (m - (q + 1))) ∧ Below w.heap.size w wr ∧ Has wr w.heap.size (CELLS ZND).toArray 23 ∧ Has wr b8 (CELLS (FA d l k (m - (q + 1)))).toArray 23 ∧ q ≤ m) := ⟨h3.at (by omega),h5,HSH_is h3.1 h3.2.2 (by omega),h6,eY,A.out.2.2.1,A.out.2.2.2.1,A.out.2.2.2.2,by omega⟩
      clear h1 h2 h3 h5 h6 eY A HA hqm CR
      go_upto_region 11 with fail
      refine refbag8_next wr gn o k c b8 q d (HSH l q) (FA d l k (m - (q + 1))) (FA d l k (m - q)) H2.out.2.2.1.1 (H2.out.2.2.2.1 _).1 (H2.out.2.2.2.1 _).1 hb1 (fun V => Below wr.heap.size wr V) (Below.refl _ _).drew (fun V hV => ?_) (fun V hV => ?_) (fun V hV => ?_) (fun _ _ _ _ _ h => h) ?_
      · exact ⟨range_below H2.out.1 (H2.out.2.2.2.2.2.1.trans (hV.mono H2.out.2.2.2.2.2.1.size)) H2.out.2.1,H2.out.2.2.2.2.2.2.2.1.keep hV⟩
      · exact range_below H2.out.1 (below_row (H2.out.2.2.2.2.2.1.trans (hV.mono H2.out.2.2.2.2.2.1.size)) (Nat.le_of_lt K.out) _) H2.out.2.1
      · refine (reffoldh_ok d (HSH l q) (FA d l k (m - (q + 1))) H2.out.2.2.1 (H2.out.2.2.2.1 _) V).mono ?_
        rintro e V' ⟨rfl,hb⟩
        exact ⟨by rw [H2.out.2.2.2.2.1],hV.trans (hb.mono hV.size)⟩
      · rintro W3 ⟨w0',hw0',hW3⟩
        have Z : Aside (q ≤ m ∧ Below w.heap.size w W3 ∧ Has W3 w.heap.size (CELLS ZND).toArray 23 ∧ Has W3 b8 (CELLS (FA d l k (m - q))).toArray 23) := by
          have hV2 : Below w.heap.size w w0' := H2.out.2.2.2.2.2.1.trans (hw0'.mono H2.out.2.2.2.2.2.1.size)
          rw [hW3]
          exact ⟨H2.out.2.2.2.2.2.2.2.2,below_row hV2 (Nat.le_of_lt K.out) _,(H2.out.2.2.2.2.2.2.1.keep hw0').row_other (by have := K.out; omega) _,(H2.out.2.2.2.2.2.2.2.1.keep hw0').row _⟩
        clear hW3 hw0' H2
        have e1 := hE1.out
        go_wp2_with fail
        go_roundg q
        case measure => exact Nat.lt_succ_self _
        case rel => exact ⟨_,rfl,Z.out.1,by first | rfl | exact hE1.out,Z.out.2⟩
end Go.Proofs.YtkcfhgflgkejoaaGreatDoor

/- What Bag of package mmr and under of package verify answer. -/
namespace Go.Proofs.YtkcfhgflgkejoaaGreatDoor
open Go.RowKit
set_option maxRecDepth 100000

set_option maxHeartbeats 4000000 in
theorem bag_ok (d : Int) (n : Nat) (hn : n < 2 ^ 64) (a : Option Addr) (k c : Nat) (l : List Int) (w : World) (hF : Flat w a k l) (hX : HX.Tabled w) :
    Calls Tryz.prog 56 #[.int .i64 d,.int .u64 (n : Int),.slice a k c] w fun e w' => e = .returned (.tuple #[.agg (CELLS (BAGA d n k l).2).toArray,.int .i64 (BAGA d n k l).1]) ∧ Below w.heap.size w w' := by
  have R0 : Aside (Below w.heap.size w (w.alloc (.cells ZARR 23)) ∧ Has (w.alloc (.cells ZARR 23)) w.heap.size (CELLS ZND).toArray 23) := ⟨(Below.refl _ _).alloc (Nat.le_refl _) _,by rw [ZARR_eq]; exact Has.new _ _ _⟩
  have HA : Aside (Flat w a k l ∧ HX.Tabled w ∧ n < 2 ^ 64) := ⟨hF,hX,hn⟩
  clear hF hX
  by_cases h1 : 4611686018427387904 < n
  · have e : BAGA d n k l = (30,ZND) := if_pos h1
    rw [e]
    have h1' : (4611686018427387904 : Int) < (n : Int) := by omega
    clear e HA hn
    go_enter Tryz.func56,Tryz.ntmps56
    go_upto_region 2 with fail
    rw [show (#[.int .u8 0,.int .u8 0,.int .u8 0,.int .u8 0,.int .u8 0,.int .u8 0,.int .u8 0,.int .u8 0,.int .u8 0,.int .u8 0,.int .u8 0,.int .u8 0,.int .u8 0,.int .u8 0,.int .u8 0,.int .u8 0,.int .u8 0,.int .u8 0,.int .u8 0,.int .u8 0,.int .u8 0,.int .u8 0,.int .u8 0,.int .u8 0,.int .u8 0,.int .u8 0,.int .u8 0,.int .u8 0,.int .u8 0,.int .u8 0,.int .u8 0,.int .u8 0] : Array Value) = ZARR from rfl]
    generalize w.alloc (.cells ZARR 23) = W0 at *
    go_wp2_with (rw [show (#[.int .u8 0,.int .u8 0,.int .u8 0,.int .u8 0,.int .u8 0,.int .u8 0,.int .u8 0,.int .u8 0,.int .u8 0,.int .u8 0,.int .u8 0,.int .u8 0,.int .u8 0,.int .u8 0,.int .u8 0,.int .u8 0,.int .u8 0,.int .u8 0,.int .u8 0,.int .u8 0,.int .u8 0,.int .u8 0,.int .u8 0,.int .u8 0,.int .u8 0,.int .u8 0,.int .u8 0,.int .u8 0,.int .u8 0,.int .u8 0,.int .u8 0,.int .u8 0] : Array Value) = (CELLS ZND).toArray from rfl]; refine wpList_store_row rfl 23 (.tmp 6) (.tmp 10) rfl _ _ rfl rfl 23 _ R0.out.2 (info_arr rfl) rfl (cells_one ZND) ?_)
    refine bodyPost_ret (v := .tuple #[.agg (CELLS ZND).toArray,.int .i64 30]) (results_two rfl _ _ w.heap.size 23 _ (0,0) _ _ _ rfl rfl (Has.row R0.out.2 _) Tryz.underlying23 (info_arr rfl)) rfl ⟨rfl,below_row R0.out.1 (Nat.le_refl _) _⟩
  have h1' : ¬ (4611686018427387904 : Int) < (n : Int) := by omega
  have hpop := POP_PC hn
  by_cases h2 : k = PC n
  · have e : BAGA d n k l = (0,ROOTH d n (FLD d l k)) := by unfold BAGA; rw [if_neg h1,if_neg (by simpa using h2)]
    rw [e]
    have hk : Aside (k ≤ 64) := by have := PC_lt_pow 64 n hn; show k ≤ 64; omega
    have e2 : (k : Int) = ((POP n : Nat) : Int) := by rw [hpop,h2]
    clear e h2 hpop h1
    go_enter Tryz.func56,Tryz.ntmps56
    go_upto_region 3 with fail
    rw [show (#[.int .u8 0,.int .u8 0,.int .u8 0,.int .u8 0,.int .u8 0,.int .u8 0,.int .u8 0,.int .u8 0,.int .u8 0,.int .u8 0,.int .u8 0,.int .u8 0,.int .u8 0,.int .u8 0,.int .u8 0,.int .u8 0,.int .u8 0,.int .u8 0,.int .u8 0,.int .u8 0,.int .u8 0,.int .u8 0,.int .u8 0,.int .u8 0,.int .u8 0,.int .u8 0,.int .u8 0,.int .u8 0,.int .u8 0,.int .u8 0,.int .u8 0,.int .u8 0] : Array Value) = ZARR from rfl]
    generalize w.alloc (.cells ZARR 23) = W0 at *
    go_wp2_with fail
    refine (onescount_ok n hn W0).mono ?_
    rintro e w1 ⟨rfl,rfl⟩
    go_wp2_with fail
    refine (folded_ok d a k c (by have := hk.out; omega) l W0 (HA.out.1.below R0.out.1) (HA.out.2.1.below R0.out.1)).mono ?_
    rintro e w1 ⟨rfl,hb⟩
    have R1 : Aside (Below w.heap.size w w1 ∧ Has w1 w.heap.size (CELLS ZND).toArray 23) := ⟨R0.out.1.trans (hb.mono R0.out.1.size),R0.out.2.keep hb⟩
    clear hb R0
    have hI := FLD_is (d := d) HA.out.1.1 HA.out.1.2.2
    go_wp2_with fail
    refine (rooth_ok d n hn (FLD d l k) hI w1 (HA.out.2.1.below R1.out.1)).mono ?_
    rintro e w2 ⟨rfl,hb⟩
    have R2 : Aside (Below w.heap.size w w2 ∧ Has w2 w.heap.size (CELLS ZND).toArray 23) := ⟨R1.out.1.trans (hb.mono R1.out.1.size),R1.out.2.keep hb⟩
    clear hb R1 hI
    have y32 := (ROOTH_is d n (FLD d l k)).1
    generalize hY : ROOTH d n (FLD d l k) = Y at *
    go_wp2_with (refine wpList_store_row rfl 23 (.tmp 6) (.tmp 22) rfl _ _ rfl rfl 23 _ R2.out.2 (info_arr y32) (by simp [CELLS,y32]; rfl) (cells_one Y) ?_)
    refine bodyPost_ret (v := .tuple #[.agg (CELLS Y).toArray,.int .i64 0]) (results_two rfl _ _ w.heap.size 23 _ (0,0) _ _ _ rfl rfl (Has.row R2.out.2 _) Tryz.underlying23 (info_arr y32)) rfl ⟨by rw [hY],below_row R2.out.1 (Nat.le_refl _) _⟩
  · have e : BAGA d n k l = (70,ZND) := by unfold BAGA; rw [if_neg h1,if_pos h2]
    rw [e]
    exact bag_count d n hn a k c w h1' (by rw [hpop]; exact h2)
end Go.Proofs.YtkcfhgflgkejoaaGreatDoor

/- What under of package verify answers. -/
namespace Go.Proofs.YtkcfhgflgkejoaaGreatDoor
open Go.RowKit
set_option maxRecDepth 100000

theorem equalh {a b : List Int} (ha : IsH a) (hb : IsH b) (w : World) : (Op.equalIn 10000 23 (.agg (CELLS a).toArray) (.agg (CELLS b).toArray)).run Tryz.prog w = .ok (decide (a = b)) w := by
  rw [cells_uarr ha,cells_uarr hb,HX.equal_hash]
  congr 1
  by_cases e : a = b
  · subst e
    simp
  · rw [decide_eq_false e]
    refine Bool.eq_false_iff.2 fun h => e ?_
    have h' : ∀ i ∈ List.range 32,FNC a i = FNC b i := fun i hi => by simpa using List.all_eq_true.1 h i hi
    have h2 : LST (FNC a) = LST (FNC b) := by
      unfold LST
      exact List.map_congr_left fun i hi => by rw [h' i hi]
    rwa [LST_FNC ha,LST_FNC hb] at h2
/-- a load of a whole row where a guard is met. -/
theorem load_row_if {ops : Array Oper} {rest : List Oper} {o : Oper} {a : Act} {w : World} {Q : Exit → Act → World → Prop} (hw : Region.wanted o (yielded ops a.tmps) = true) (ty : TypeId) (x : Operand) (ho : o.op = .load ty x) (n : Nat) (e : TypeId)
    (b : Nat) (hx : a.eval x = .pointer (some ⟨b,0,none⟩)) (t : TypeId) (cs : Array Value) (fr : Nat × Nat) (hb : w.heap[b]? = some (.cells cs t fr)) (hu : Tryz.prog.underlying ty = some (.array n e)) (hi : (Tryz.prog.info? ty).map (·.size) = some cs.size)
    (h : wpList Tryz.prog ops Q rest (a.put o.dst (.agg cs)) w) : wpList Tryz.prog ops Q (o :: rest) a w := by
  simp only [wpList]
  rw [if_pos hw]
  exact .inl (wp_load_row ty x ho b hx t cs fr (.array n e) hb hu rfl hi h)
/-- what under answers. -/
def UNDA (d : Int) (n k : Nat) (l root : List Int) : Int := if (BAGA d n k l).1 = 0 ∧ (BAGA d n k l).2 = root then 0 else 80
set_option maxHeartbeats 4000000 in
theorem rooted_ok (d : Int) (n : Nat) (hn : n < 2 ^ 64) (a : Option Addr) (k c : Nat) (l root : List Int) (hroot : IsH root) (w : World) (hF : Flat w a k l) (hX : HX.Tabled w) :
    Calls Tryz.prog 25 #[.int .i64 d,.int .u64 (n : Int),.slice a k c,.agg (CELLS root).toArray] w fun e w' => e = .returned (.int .i64 (UNDA d n k l root)) ∧ Below w.heap.size w w' := by
  have R0 : Aside (Below w.heap.size w (w.alloc (.cells (CELLS root).toArray 23)) ∧ Has (w.alloc (.cells (CELLS root).toArray 23)) w.heap.size (CELLS root).toArray 23) := ⟨(Below.refl _ _).alloc (Nat.le_refl _) _,Has.new _ _ _⟩
  have cB := bag_ok d n hn a k c l (w.alloc (.cells (CELLS root).toArray 23)) (hF.below R0.out.1) (hX.below R0.out.1)
  have hI := BAGA_is (d := d) (n := n) (k := k) (l := l)
  have r32 := hroot.1
  have y32 := hI.1
  clear hF hX hn
  have HU : Aside (UNDA d n k l root = if (BAGA d n k l).1 = 0 ∧ (BAGA d n k l).2 = root then 0 else 80) := rfl
  generalize UNDA d n k l root = U at *
  generalize BAGA d n k l = B at *
  obtain ⟨E,Y⟩ := B
  dsimp only at *
  have HV : Aside ((E = 0 → Y = root → U = 0) ∧ (¬ Y = root → U = 80) ∧ (¬ E = 0 → U = 80)) := ⟨fun h1 h2 => HU.out.trans (if_pos ⟨h1,h2⟩),fun h => HU.out.trans (if_neg fun g => h g.2),fun h => HU.out.trans (if_neg fun g => h g.1)⟩
  clear HU
  go_enter Tryz.func25,Tryz.ntmps25
  go_upto_region 1 with fail
  generalize w.alloc (.cells (CELLS root).toArray 23) = W0 at *
  go_wp2_with fail
  refine cB.mono ?_
  rintro e w1 ⟨rfl,hb⟩
  clear cB
  have R1 : Aside (Below w.heap.size w (w1.alloc (.cells (CELLS Y).toArray 23)) ∧ Has (w1.alloc (.cells (CELLS Y).toArray 23)) w.heap.size (CELLS root).toArray 23 ∧ Has (w1.alloc (.cells (CELLS Y).toArray 23)) w1.heap.size (CELLS Y).toArray 23) := ⟨(R0.out.1.trans (hb.mono R0.out.1.size)).alloc (R0.out.1.trans (hb.mono R0.out.1.size)).size _,(R0.out.2.keep hb).alloc _,Has.new _ _ _⟩
  clear hb R0
  go_upto_region 2 with (first
    | (refine wpList_store_row rfl 23 (.tmp 9) (.tmp 16) rfl _ _ rfl rfl 23 _ (Has.new w1 _ _) (info_arr y32) (by simp [CELLS,y32]) (cells_one Y) ?_; rw [World.setRow_alloc_new])
    | fail)
  generalize w1.alloc (.cells (CELLS Y).toArray 23) = W1 at *
  generalize w1.heap.size = b9 at *
  clear w1 W0
  have hb := R1.out.1
  have h7 := R1.out.2.1
  have h9 := R1.out.2.2
  clear R1
  by_cases hE : E = 0
  · subst hE
    have hq := equalh hI hroot
    by_cases hY : Y = root
    · have HY : Aside (Y = root) := hY
      rw [decide_eq_true hY] at hq
      clear hI hroot hY
      go_wp2_with (first
        | (refine load_row_if (by rfl) 23 (.tmp 9) rfl 32 5 b9 rfl 23 (CELLS Y).toArray (0,0) h9 Tryz.underlying23 (info_arr y32) ?_)
        | (refine load_row_if (by rfl) 23 (.tmp 7) rfl 32 5 w.heap.size rfl 23 (CELLS root).toArray (0,0) h7 Tryz.underlying23 (info_arr r32) ?_)
        | fail)
      go_ret
      exact ⟨by rw [HV.out.1 (by simp) HY.out]; rfl,hb⟩
    · have HY : Aside (¬ Y = root) := hY
      rw [decide_eq_false hY] at hq
      clear hI hroot hY
      go_wp2_with (first
        | (refine load_row_if (by rfl) 23 (.tmp 9) rfl 32 5 b9 rfl 23 (CELLS Y).toArray (0,0) h9 Tryz.underlying23 (info_arr y32) ?_)
        | (refine load_row_if (by rfl) 23 (.tmp 7) rfl 32 5 w.heap.size rfl 23 (CELLS root).toArray (0,0) h7 Tryz.underlying23 (info_arr r32) ?_)
        | fail)
      go_ret
      exact ⟨by rw [HV.out.2.1 HY.out]; rfl,hb⟩
  · have HE : Aside (¬ E = 0) := hE
    clear hI hroot h7 h9
    go_wp2_with fail
    go_ret
    exact ⟨by rw [HV.out.2.2 HE.out]; rfl,hb⟩
end Go.Proofs.YtkcfhgflgkejoaaGreatDoor
