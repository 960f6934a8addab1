/- Texts of CarryEvents, one behind the other: VerifyRegions, HashPlain. -/
import Derived.WalkKit
import Derived.WalkLawsBesides
import Derived.OpenShut
import Derived.Laws.BitsAllLaws
import Derived.Test.YtkpgbhokoohimaaDoorCarryEventsP9
/- The regions of package verify that draw their order. -/
namespace Go.Proofs.YtkpgbhokoohimaaDoor
open Go.RowKit
set_option maxRecDepth 100000

def VHOPS : Array Oper := #[{ dst := some 29,op := Op.move (Operand.tmp 6),type := 87,pos := "climbed.go:20",after := #[],guard := none },{ dst := some 30,op := Op.load 63 (Operand.tmp 9),type := 63,pos := "climbed.go:20",after := #[],guard := none },{ dst := some 31,op := Op.move (Operand.tmp 1),type := 25,pos := "climbed.go:20",after := #[],guard := none },{ dst := some 32,op := Op.move (Operand.tmp 7),type := 3,pos := "climbed.go:20",after := #[],guard := none },{ dst := some 33,op := Op.indexAddr 25 (Operand.tmp 31) (Operand.tmp 32),type := 0,pos := "climbed.go:20",after := #[{ on := 2,ground := Ground.data },{ on := 3,ground := Ground.data }],guard := none },{ dst := some 34,op := Op.load 24 (Operand.tmp 33),type := 24,pos := "climbed.go:20",after := #[{ on := 4,ground := Ground.data }],guard := none },{ dst := none,op := Op.mapUpdate 87 (Operand.tmp 29) (Operand.tmp 30) (Operand.tmp 34),type := 0,pos := "climbed.go:20",after := #[{ on := 0,ground := Ground.data },{ on := 1,ground := Ground.data },{ on := 5,ground := Ground.data },{ on := 0,ground := Ground.phase },{ on := 1,ground := Ground.phase },{ on := 2,ground := Ground.phase },{ on := 3,ground := Ground.phase },{ on := 4,ground := Ground.phase },{ on := 5,ground := Ground.phase }],guard := none }]
set_option maxHeartbeats 2000000 in
theorem handed_region {Q : Exit → Act → World → Prop} (u0 u2 u3 u4 u5 u8 u10 u11 u12 u13 u14 u15 u16 u17 u18 u19 u20 u21 u22 u23 u24 u25 u26 u27 u28 u29 u30 u31 u32 u33 u34 u35 u36 : Value) (W : World) (mb b9 gn o n c i h k : Nat) (H : List Int) (hH : H.length = 32) (b1 : (i : Int) < (n : Int)) (P0 P1 : World → Prop) (t0 : ∀ w,P0 w → (fun W : World => W.cell? ⟨b9,0,none⟩ = some (.int .u8 (h : Int)) ∧ W.cell? ⟨b9,1,none⟩ = some (.int .u64 (k : Int)) ∧ W.rangeAt gn (o + i * 32) (CELLS H)) w) (t1 : ∀ w,P1 w → (fun W : World => W.cell? ⟨b9,0,none⟩ = some (.int .u8 (h : Int)) ∧ W.cell? ⟨b9,1,none⟩ = some (.int .u64 (k : Int)) ∧ W.rangeAt gn (o + i * 32) (CELLS H)) w) (s1 : ∀ w,P0 w → ∃ w',(Instr.mapUpdate 87 (.map (some mb)) (.agg #[.int .u8 (h : Int),.int .u64 (k : Int)]) (.agg (CELLS H).toArray)).run Tryd.prog w = .ok () w' ∧ P1 w') (h0 : P0 W.drew) (hQ : ∀ c (a : Act) (t : Tmp) (v : Value) w,Q (.panic c) (a.put (some t) v) w → Q (.panic c) a w)
    (hfin : ∀ (w : World),P1 w → Q .normal { tmps := #[u0,.slice (some ⟨gn,o,none⟩) n c,u2,u3,u4,u5,.map (some mb),.int .i64 (i : Int),u8,.pointer (some ⟨b9,0,none⟩),u10,u11,u12,u13,u14,u15,u16,u17,u18,u19,u20,u21,u22,u23,u24,u25,u26,u27,u28,.map (some mb),.agg #[.int .u8 (h : Int),.int .u64 (k : Int)],.slice (some ⟨gn,o,none⟩) n c,.int .i64 (i : Int),.pointer (some ⟨gn,o + i * 32,none⟩),.agg (CELLS H).toArray,u35,u36],defers := [] } w) : (Code.region 8 VHOPS true).wp Tryd.prog Q { tmps := #[u0,.slice (some ⟨gn,o,none⟩) n c,u2,u3,u4,u5,.map (some mb),.int .i64 (i : Int),u8,.pointer (some ⟨b9,0,none⟩),u10,u11,u12,u13,u14,u15,u16,u17,u18,u19,u20,u21,u22,u23,u24,u25,u26,u27,u28,u29,u30,u31,u32,u33,u34,u35,u36],defers := [] } W := by
  have k1 : ∀ (w : World),P1 w → wpAnyH Tryd.prog .any VHOPS Q (fun W : World => W.cell? ⟨b9,0,none⟩ = some (.int .u8 (h : Int)) ∧ W.cell? ⟨b9,1,none⟩ = some (.int .u64 (k : Int)) ∧ W.rangeAt gn (o + i * 32) (CELLS H)) 0 #[true,true,true,true,true,true,true] { tmps := #[u0,.slice (some ⟨gn,o,none⟩) n c,u2,u3,u4,u5,.map (some mb),.int .i64 (i : Int),u8,.pointer (some ⟨b9,0,none⟩),u10,u11,u12,u13,u14,u15,u16,u17,u18,u19,u20,u21,u22,u23,u24,u25,u26,u27,u28,.map (some mb),.agg #[.int .u8 (h : Int),.int .u64 (k : Int)],.slice (some ⟨gn,o,none⟩) n c,.int .i64 (i : Int),.pointer (some ⟨gn,o + i * 32,none⟩),.agg (CELLS H).toArray,u35,u36],defers := [] } w := fun  w hp => by
    have hww : (fun W : World => W.cell? ⟨b9,0,none⟩ = some (.int .u8 (h : Int)) ∧ W.cell? ⟨b9,1,none⟩ = some (.int .u64 (k : Int)) ∧ W.rangeAt gn (o + i * 32) (CELLS H)) w := t1 _ hp
    have last : wpAnyH Tryd.prog .any VHOPS Q (fun W : World => W.cell? ⟨b9,0,none⟩ = some (.int .u8 (h : Int)) ∧ W.cell? ⟨b9,1,none⟩ = some (.int .u64 (k : Int)) ∧ W.rangeAt gn (o + i * 32) (CELLS H)) 0 #[true,true,true,true,true,true,true] { tmps := #[u0,.slice (some ⟨gn,o,none⟩) n c,u2,u3,u4,u5,.map (some mb),.int .i64 (i : Int),u8,.pointer (some ⟨b9,0,none⟩),u10,u11,u12,u13,u14,u15,u16,u17,u18,u19,u20,u21,u22,u23,u24,u25,u26,u27,u28,.map (some mb),.agg #[.int .u8 (h : Int),.int .u64 (k : Int)],.slice (some ⟨gn,o,none⟩) n c,.int .i64 (i : Int),.pointer (some ⟨gn,o + i * 32,none⟩),.agg (CELLS H).toArray,u35,u36],defers := [] } w := wpAnyH_done (by kernel_rfl) (hfin  w hp) _
    exact last
  have k0 : ∀ (w : World),P0 w → wpAnyH Tryd.prog .any VHOPS Q (fun W : World => W.cell? ⟨b9,0,none⟩ = some (.int .u8 (h : Int)) ∧ W.cell? ⟨b9,1,none⟩ = some (.int .u64 (k : Int)) ∧ W.rangeAt gn (o + i * 32) (CELLS H)) 7 #[false,false,false,false,false,false,false] { tmps := #[u0,.slice (some ⟨gn,o,none⟩) n c,u2,u3,u4,u5,.map (some mb),.int .i64 (i : Int),u8,.pointer (some ⟨b9,0,none⟩),u10,u11,u12,u13,u14,u15,u16,u17,u18,u19,u20,u21,u22,u23,u24,u25,u26,u27,u28,u29,u30,u31,u32,u33,u34,u35,u36],defers := [] } w := fun  w hp => by
    have hww : (fun W : World => W.cell? ⟨b9,0,none⟩ = some (.int .u8 (h : Int)) ∧ W.cell? ⟨b9,1,none⟩ = some (.int .u64 (k : Int)) ∧ W.rangeAt gn (o + i * 32) (CELLS H)) w := t0 _ hp
    have last : wpAnyH Tryd.prog .any VHOPS Q (fun W : World => W.cell? ⟨b9,0,none⟩ = some (.int .u8 (h : Int)) ∧ W.cell? ⟨b9,1,none⟩ = some (.int .u64 (k : Int)) ∧ W.rangeAt gn (o + i * 32) (CELLS H)) 1 #[true,true,true,true,true,true,false] { tmps := #[u0,.slice (some ⟨gn,o,none⟩) n c,u2,u3,u4,u5,.map (some mb),.int .i64 (i : Int),u8,.pointer (some ⟨b9,0,none⟩),u10,u11,u12,u13,u14,u15,u16,u17,u18,u19,u20,u21,u22,u23,u24,u25,u26,u27,u28,.map (some mb),.agg #[.int .u8 (h : Int),.int .u64 (k : Int)],.slice (some ⟨gn,o,none⟩) n c,.int .i64 (i : Int),.pointer (some ⟨gn,o + i * 32,none⟩),.agg (CELLS H).toArray,u35,u36],defers := [] } w := by
      obtain ⟨w',hr,hp⟩ := s1 w hp
      refine anyHone (o := { dst := none,op := Op.mapUpdate 87 (Operand.tmp 29) (Operand.tmp 30) (Operand.tmp 34),type := 0,pos := "climbed.go:20",after := #[{ on := 0,ground := Ground.data },{ on := 1,ground := Ground.data },{ on := 5,ground := Ground.data },{ on := 0,ground := Ground.phase },{ on := 1,ground := Ground.phase },{ on := 2,ground := Ground.phase },{ on := 3,ground := Ground.phase },{ on := 4,ground := Ground.phase },{ on := 5,ground := Ground.phase }],guard := none }) 6 (by kernel_rfl) rfl (fun K hK => ?_)
      exact step_skip rfl (run_skip hr) (hK.out _ _ (t1 _ hp) (fun _ => k1  w' hp))
    have t5 : wpAnyH Tryd.prog .any VHOPS Q (fun W : World => W.cell? ⟨b9,0,none⟩ = some (.int .u8 (h : Int)) ∧ W.cell? ⟨b9,1,none⟩ = some (.int .u64 (k : Int)) ∧ W.rangeAt gn (o + i * 32) (CELLS H)) 2 #[true,true,true,true,true,false,false] { tmps := #[u0,.slice (some ⟨gn,o,none⟩) n c,u2,u3,u4,u5,.map (some mb),.int .i64 (i : Int),u8,.pointer (some ⟨b9,0,none⟩),u10,u11,u12,u13,u14,u15,u16,u17,u18,u19,u20,u21,u22,u23,u24,u25,u26,u27,u28,.map (some mb),.agg #[.int .u8 (h : Int),.int .u64 (k : Int)],.slice (some ⟨gn,o,none⟩) n c,.int .i64 (i : Int),.pointer (some ⟨gn,o + i * 32,none⟩),u34,u35,u36],defers := [] } w :=
      wpAnyH_take (i := 5) (oi := { dst := some 34,op := Op.load 24 (Operand.tmp 33),type := 24,pos := "climbed.go:20",after := #[{ on := 4,ground := Ground.data }],guard := none }) (v := .agg (CELLS H).toArray) rfl (by kernel_rfl) (by kernel_rfl) (by kernel_rfl) (fun _ _ _ h => hQ _ _ _ _ _ h) (yieldsIf_load_mid (by rfl) 24 (.tmp 33) rfl gn (o + i * 32) rfl (CELLS H) _ (fun w h => h.2.2) Tryd.underlying24 rfl (info_cells hH)) hww last
    have t4 : wpAnyH Tryd.prog .any VHOPS Q (fun W : World => W.cell? ⟨b9,0,none⟩ = some (.int .u8 (h : Int)) ∧ W.cell? ⟨b9,1,none⟩ = some (.int .u64 (k : Int)) ∧ W.rangeAt gn (o + i * 32) (CELLS H)) 3 #[true,true,true,true,false,false,false] { tmps := #[u0,.slice (some ⟨gn,o,none⟩) n c,u2,u3,u4,u5,.map (some mb),.int .i64 (i : Int),u8,.pointer (some ⟨b9,0,none⟩),u10,u11,u12,u13,u14,u15,u16,u17,u18,u19,u20,u21,u22,u23,u24,u25,u26,u27,u28,.map (some mb),.agg #[.int .u8 (h : Int),.int .u64 (k : Int)],.slice (some ⟨gn,o,none⟩) n c,.int .i64 (i : Int),u33,u34,u35,u36],defers := [] } w :=
      wpAnyH_take (i := 4) (oi := { dst := some 33,op := Op.indexAddr 25 (Operand.tmp 31) (Operand.tmp 32),type := 0,pos := "climbed.go:20",after := #[{ on := 2,ground := Ground.data },{ on := 3,ground := Ground.data }],guard := none }) (v := .pointer (some ⟨gn,o + i * 32,none⟩)) rfl (by kernel_rfl) (by kernel_rfl) (by kernel_rfl) (fun _ _ _ h => hQ _ _ _ _ _ h) (Yields.yieldsIf (Or.inl ⟨by rfl,fun W => by go_simp⟩)) hww t5
    have t3 : wpAnyH Tryd.prog .any VHOPS Q (fun W : World => W.cell? ⟨b9,0,none⟩ = some (.int .u8 (h : Int)) ∧ W.cell? ⟨b9,1,none⟩ = some (.int .u64 (k : Int)) ∧ W.rangeAt gn (o + i * 32) (CELLS H)) 4 #[true,true,true,false,false,false,false] { tmps := #[u0,.slice (some ⟨gn,o,none⟩) n c,u2,u3,u4,u5,.map (some mb),.int .i64 (i : Int),u8,.pointer (some ⟨b9,0,none⟩),u10,u11,u12,u13,u14,u15,u16,u17,u18,u19,u20,u21,u22,u23,u24,u25,u26,u27,u28,.map (some mb),.agg #[.int .u8 (h : Int),.int .u64 (k : Int)],.slice (some ⟨gn,o,none⟩) n c,u32,u33,u34,u35,u36],defers := [] } w :=
      wpAnyH_take (i := 3) (oi := { dst := some 32,op := Op.move (Operand.tmp 7),type := 3,pos := "climbed.go:20",after := #[],guard := none }) (v := .int .i64 (i : Int)) rfl (by kernel_rfl) (by kernel_rfl) (by kernel_rfl) (fun _ _ _ h => hQ _ _ _ _ _ h) (Yields.yieldsIf (Or.inl ⟨by rfl,fun W => by go_simp⟩)) hww t4
    have t2 : wpAnyH Tryd.prog .any VHOPS Q (fun W : World => W.cell? ⟨b9,0,none⟩ = some (.int .u8 (h : Int)) ∧ W.cell? ⟨b9,1,none⟩ = some (.int .u64 (k : Int)) ∧ W.rangeAt gn (o + i * 32) (CELLS H)) 5 #[true,true,false,false,false,false,false] { tmps := #[u0,.slice (some ⟨gn,o,none⟩) n c,u2,u3,u4,u5,.map (some mb),.int .i64 (i : Int),u8,.pointer (some ⟨b9,0,none⟩),u10,u11,u12,u13,u14,u15,u16,u17,u18,u19,u20,u21,u22,u23,u24,u25,u26,u27,u28,.map (some mb),.agg #[.int .u8 (h : Int),.int .u64 (k : Int)],u31,u32,u33,u34,u35,u36],defers := [] } w :=
      wpAnyH_take (i := 2) (oi := { dst := some 31,op := Op.move (Operand.tmp 1),type := 25,pos := "climbed.go:20",after := #[],guard := none }) (v := .slice (some ⟨gn,o,none⟩) n c) rfl (by kernel_rfl) (by kernel_rfl) (by kernel_rfl) (fun _ _ _ h => hQ _ _ _ _ _ h) (Yields.yieldsIf (Or.inl ⟨by rfl,fun W => by go_simp⟩)) hww t3
    have t1 : wpAnyH Tryd.prog .any VHOPS Q (fun W : World => W.cell? ⟨b9,0,none⟩ = some (.int .u8 (h : Int)) ∧ W.cell? ⟨b9,1,none⟩ = some (.int .u64 (k : Int)) ∧ W.rangeAt gn (o + i * 32) (CELLS H)) 6 #[true,false,false,false,false,false,false] { tmps := #[u0,.slice (some ⟨gn,o,none⟩) n c,u2,u3,u4,u5,.map (some mb),.int .i64 (i : Int),u8,.pointer (some ⟨b9,0,none⟩),u10,u11,u12,u13,u14,u15,u16,u17,u18,u19,u20,u21,u22,u23,u24,u25,u26,u27,u28,.map (some mb),u30,u31,u32,u33,u34,u35,u36],defers := [] } w :=
      wpAnyH_take (i := 1) (oi := { dst := some 30,op := Op.load 63 (Operand.tmp 9),type := 63,pos := "climbed.go:20",after := #[],guard := none }) (v := .agg #[.int .u8 (h : Int),.int .u64 (k : Int)]) rfl (by kernel_rfl) (by kernel_rfl) (by kernel_rfl) (fun _ _ _ h => hQ _ _ _ _ _ h) (Or.inl ⟨by rfl,fun w hw => by have hx := hw.1; have hy := hw.2.1; go_simp⟩) hww t2
    have t0 : wpAnyH Tryd.prog .any VHOPS Q (fun W : World => W.cell? ⟨b9,0,none⟩ = some (.int .u8 (h : Int)) ∧ W.cell? ⟨b9,1,none⟩ = some (.int .u64 (k : Int)) ∧ W.rangeAt gn (o + i * 32) (CELLS H)) 7 #[false,false,false,false,false,false,false] { tmps := #[u0,.slice (some ⟨gn,o,none⟩) n c,u2,u3,u4,u5,.map (some mb),.int .i64 (i : Int),u8,.pointer (some ⟨b9,0,none⟩),u10,u11,u12,u13,u14,u15,u16,u17,u18,u19,u20,u21,u22,u23,u24,u25,u26,u27,u28,u29,u30,u31,u32,u33,u34,u35,u36],defers := [] } w :=
      wpAnyH_take (i := 0) (oi := { dst := some 29,op := Op.move (Operand.tmp 6),type := 87,pos := "climbed.go:20",after := #[],guard := none }) (v := .map (some mb)) rfl (by kernel_rfl) (by kernel_rfl) (by kernel_rfl) (fun _ _ _ h => hQ _ _ _ _ _ h) (Yields.yieldsIf (Or.inl ⟨by rfl,fun W => by go_simp⟩)) hww t1
    exact t0
  have hp := h0
  exact wp_region_held_drew (S := (fun W : World => W.cell? ⟨b9,0,none⟩ = some (.int .u8 (h : Int)) ∧ W.cell? ⟨b9,1,none⟩ = some (.int .u64 (k : Int)) ∧ W.rangeAt gn (o + i * 32) (CELLS H))) (by kernel_rfl) (t0 _ hp) (fun _ => k0 _ hp)
def VJOPS : Array Oper := #[{ dst := some 27,op := Op.move (Operand.tmp 0),type := 87,pos := "climbed.go:30",after := #[],guard := none },{ dst := some 28,op := Op.load 63 (Operand.tmp 5),type := 63,pos := "climbed.go:30",after := #[],guard := none },{ dst := some 29,op := Op.move (Operand.tmp 1),type := 3,pos := "climbed.go:30",after := #[],guard := none },{ dst := some 30,op := Op.load 24 (Operand.tmp 6),type := 24,pos := "climbed.go:30",after := #[],guard := none },{ dst := some 31,op := Op.load 24 (Operand.tmp 7),type := 24,pos := "climbed.go:30",after := #[],guard := none },{ dst := some 32,op := Op.call { callee := Callee.value (Operand.func 47),args := #[Operand.tmp 29,Operand.tmp 30,Operand.tmp 31],argTypes := #[3,24,24] },type := 24,pos := "climbed.go:30",after := #[{ on := 2,ground := Ground.data },{ on := 3,ground := Ground.data },{ on := 4,ground := Ground.data }],guard := none },{ dst := none,op := Op.mapUpdate 87 (Operand.tmp 27) (Operand.tmp 28) (Operand.tmp 32),type := 0,pos := "climbed.go:30",after := #[{ on := 0,ground := Ground.data },{ on := 1,ground := Ground.data },{ on := 5,ground := Ground.data },{ on := 5,ground := Ground.chain },{ on := 0,ground := Ground.phase },{ on := 1,ground := Ground.phase },{ on := 2,ground := Ground.phase },{ on := 3,ground := Ground.phase },{ on := 4,ground := Ground.phase },{ on := 5,ground := Ground.phase }],guard := none }]
set_option maxHeartbeats 2000000 in
theorem join_region {Q : Exit → Act → World → Prop} (u2 u3 u4 u8 u9 u10 u11 u12 u13 u14 u15 u16 u17 u18 u19 u20 u21 u22 u23 u24 u25 u26 u27 u28 u29 u30 u31 u32 : Value) (W : World) (mb b5 b6 b7 h k : Nat) (d : Int) (L R : List Int) (hL : L.length = 32) (hR : R.length = 32) (P0 : World → Prop) (P1 P2 : Value → World → Prop) (t0 : ∀ w,P0 w → (fun W : World => W.cell? ⟨b5,0,none⟩ = some (.int .u8 (h : Int)) ∧ W.cell? ⟨b5,1,none⟩ = some (.int .u64 (k : Int)) ∧ W.rangeAt b6 0 (CELLS L) ∧ W.rangeAt b7 0 (CELLS R)) w) (t1 : ∀ X w,P1 X w → (fun W : World => W.cell? ⟨b5,0,none⟩ = some (.int .u8 (h : Int)) ∧ W.cell? ⟨b5,1,none⟩ = some (.int .u64 (k : Int)) ∧ W.rangeAt b6 0 (CELLS L) ∧ W.rangeAt b7 0 (CELLS R)) w) (t2 : ∀ X w,P2 X w → (fun W : World => W.cell? ⟨b5,0,none⟩ = some (.int .u8 (h : Int)) ∧ W.cell? ⟨b5,1,none⟩ = some (.int .u64 (k : Int)) ∧ W.rangeAt b6 0 (CELLS L) ∧ W.rangeAt b7 0 (CELLS R)) w) (c1 : ∀ w,P0 w → Calls Tryd.prog 47 #[.int .i64 d,.agg (CELLS L).toArray,.agg (CELLS R).toArray] w fun e w' => ∃ X,e = .returned X ∧ P1 X w') (s1 : ∀ X w,P1 X w → ∃ w',(Instr.mapUpdate 87 (.map (some mb)) (.agg #[.int .u8 (h : Int),.int .u64 (k : Int)]) X).run Tryd.prog w = .ok () w' ∧ P2 X w') (h0 : P0 W.drew) (hQ : ∀ c (a : Act) (t : Tmp) (v : Value) w,Q (.panic c) (a.put (some t) v) w → Q (.panic c) a w)
    (hfin : ∀ (X : Value) (w : World),P2 X w → Q .normal { tmps := #[.map (some mb),.int .i64 d,u2,u3,u4,.pointer (some ⟨b5,0,none⟩),.pointer (some ⟨b6,0,none⟩),.pointer (some ⟨b7,0,none⟩),u8,u9,u10,u11,u12,u13,u14,u15,u16,u17,u18,u19,u20,u21,u22,u23,u24,u25,u26,.map (some mb),.agg #[.int .u8 (h : Int),.int .u64 (k : Int)],.int .i64 d,.agg (CELLS L).toArray,.agg (CELLS R).toArray,X],defers := [] } w) : (Code.region 3 VJOPS true).wp Tryd.prog Q { tmps := #[.map (some mb),.int .i64 d,u2,u3,u4,.pointer (some ⟨b5,0,none⟩),.pointer (some ⟨b6,0,none⟩),.pointer (some ⟨b7,0,none⟩),u8,u9,u10,u11,u12,u13,u14,u15,u16,u17,u18,u19,u20,u21,u22,u23,u24,u25,u26,u27,u28,u29,u30,u31,u32],defers := [] } W := by
  have k2 : ∀ (X : Value) (w : World),P2 X w → wpAnyH Tryd.prog .any VJOPS Q (fun W : World => W.cell? ⟨b5,0,none⟩ = some (.int .u8 (h : Int)) ∧ W.cell? ⟨b5,1,none⟩ = some (.int .u64 (k : Int)) ∧ W.rangeAt b6 0 (CELLS L) ∧ W.rangeAt b7 0 (CELLS R)) 0 #[true,true,true,true,true,true,true] { tmps := #[.map (some mb),.int .i64 d,u2,u3,u4,.pointer (some ⟨b5,0,none⟩),.pointer (some ⟨b6,0,none⟩),.pointer (some ⟨b7,0,none⟩),u8,u9,u10,u11,u12,u13,u14,u15,u16,u17,u18,u19,u20,u21,u22,u23,u24,u25,u26,.map (some mb),.agg #[.int .u8 (h : Int),.int .u64 (k : Int)],.int .i64 d,.agg (CELLS L).toArray,.agg (CELLS R).toArray,X],defers := [] } w := fun X w hp => by
    have hww : (fun W : World => W.cell? ⟨b5,0,none⟩ = some (.int .u8 (h : Int)) ∧ W.cell? ⟨b5,1,none⟩ = some (.int .u64 (k : Int)) ∧ W.rangeAt b6 0 (CELLS L) ∧ W.rangeAt b7 0 (CELLS R)) w := t2 _ _ hp
    have last : wpAnyH Tryd.prog .any VJOPS Q (fun W : World => W.cell? ⟨b5,0,none⟩ = some (.int .u8 (h : Int)) ∧ W.cell? ⟨b5,1,none⟩ = some (.int .u64 (k : Int)) ∧ W.rangeAt b6 0 (CELLS L) ∧ W.rangeAt b7 0 (CELLS R)) 0 #[true,true,true,true,true,true,true] { tmps := #[.map (some mb),.int .i64 d,u2,u3,u4,.pointer (some ⟨b5,0,none⟩),.pointer (some ⟨b6,0,none⟩),.pointer (some ⟨b7,0,none⟩),u8,u9,u10,u11,u12,u13,u14,u15,u16,u17,u18,u19,u20,u21,u22,u23,u24,u25,u26,.map (some mb),.agg #[.int .u8 (h : Int),.int .u64 (k : Int)],.int .i64 d,.agg (CELLS L).toArray,.agg (CELLS R).toArray,X],defers := [] } w := wpAnyH_done (by kernel_rfl) (hfin X w hp) _
    exact last
  have k1 : ∀ (X : Value) (w : World),P1 X w → wpAnyH Tryd.prog .any VJOPS Q (fun W : World => W.cell? ⟨b5,0,none⟩ = some (.int .u8 (h : Int)) ∧ W.cell? ⟨b5,1,none⟩ = some (.int .u64 (k : Int)) ∧ W.rangeAt b6 0 (CELLS L) ∧ W.rangeAt b7 0 (CELLS R)) 1 #[true,true,true,true,true,true,false] { tmps := #[.map (some mb),.int .i64 d,u2,u3,u4,.pointer (some ⟨b5,0,none⟩),.pointer (some ⟨b6,0,none⟩),.pointer (some ⟨b7,0,none⟩),u8,u9,u10,u11,u12,u13,u14,u15,u16,u17,u18,u19,u20,u21,u22,u23,u24,u25,u26,.map (some mb),.agg #[.int .u8 (h : Int),.int .u64 (k : Int)],.int .i64 d,.agg (CELLS L).toArray,.agg (CELLS R).toArray,X],defers := [] } w := fun X w hp => by
    have hww : (fun W : World => W.cell? ⟨b5,0,none⟩ = some (.int .u8 (h : Int)) ∧ W.cell? ⟨b5,1,none⟩ = some (.int .u64 (k : Int)) ∧ W.rangeAt b6 0 (CELLS L) ∧ W.rangeAt b7 0 (CELLS R)) w := t1 _ _ hp
    have last : wpAnyH Tryd.prog .any VJOPS Q (fun W : World => W.cell? ⟨b5,0,none⟩ = some (.int .u8 (h : Int)) ∧ W.cell? ⟨b5,1,none⟩ = some (.int .u64 (k : Int)) ∧ W.rangeAt b6 0 (CELLS L) ∧ W.rangeAt b7 0 (CELLS R)) 1 #[true,true,true,true,true,true,false] { tmps := #[.map (some mb),.int .i64 d,u2,u3,u4,.pointer (some ⟨b5,0,none⟩),.pointer (some ⟨b6,0,none⟩),.pointer (some ⟨b7,0,none⟩),u8,u9,u10,u11,u12,u13,u14,u15,u16,u17,u18,u19,u20,u21,u22,u23,u24,u25,u26,.map (some mb),.agg #[.int .u8 (h : Int),.int .u64 (k : Int)],.int .i64 d,.agg (CELLS L).toArray,.agg (CELLS R).toArray,X],defers := [] } w := by
      obtain ⟨w',hr,hp⟩ := s1 X w hp
      refine anyHone (o := { dst := none,op := Op.mapUpdate 87 (Operand.tmp 27) (Operand.tmp 28) (Operand.tmp 32),type := 0,pos := "climbed.go:30",after := #[{ on := 0,ground := Ground.data },{ on := 1,ground := Ground.data },{ on := 5,ground := Ground.data },{ on := 5,ground := Ground.chain },{ on := 0,ground := Ground.phase },{ on := 1,ground := Ground.phase },{ on := 2,ground := Ground.phase },{ on := 3,ground := Ground.phase },{ on := 4,ground := Ground.phase },{ on := 5,ground := Ground.phase }],guard := none }) 6 (by kernel_rfl) rfl (fun K hK => ?_)
      exact step_skip rfl (run_skip hr) (hK.out _ _ (t2 _ _ hp) (fun _ => k2 X w' hp))
    exact last
  have k0 : ∀ (w : World),P0 w → wpAnyH Tryd.prog .any VJOPS Q (fun W : World => W.cell? ⟨b5,0,none⟩ = some (.int .u8 (h : Int)) ∧ W.cell? ⟨b5,1,none⟩ = some (.int .u64 (k : Int)) ∧ W.rangeAt b6 0 (CELLS L) ∧ W.rangeAt b7 0 (CELLS R)) 7 #[false,false,false,false,false,false,false] { tmps := #[.map (some mb),.int .i64 d,u2,u3,u4,.pointer (some ⟨b5,0,none⟩),.pointer (some ⟨b6,0,none⟩),.pointer (some ⟨b7,0,none⟩),u8,u9,u10,u11,u12,u13,u14,u15,u16,u17,u18,u19,u20,u21,u22,u23,u24,u25,u26,u27,u28,u29,u30,u31,u32],defers := [] } w := fun  w hp => by
    have hww : (fun W : World => W.cell? ⟨b5,0,none⟩ = some (.int .u8 (h : Int)) ∧ W.cell? ⟨b5,1,none⟩ = some (.int .u64 (k : Int)) ∧ W.rangeAt b6 0 (CELLS L) ∧ W.rangeAt b7 0 (CELLS R)) w := t0 _ hp
    have last : wpAnyH Tryd.prog .any VJOPS Q (fun W : World => W.cell? ⟨b5,0,none⟩ = some (.int .u8 (h : Int)) ∧ W.cell? ⟨b5,1,none⟩ = some (.int .u64 (k : Int)) ∧ W.rangeAt b6 0 (CELLS L) ∧ W.rangeAt b7 0 (CELLS R)) 2 #[true,true,true,true,true,false,false] { tmps := #[.map (some mb),.int .i64 d,u2,u3,u4,.pointer (some ⟨b5,0,none⟩),.pointer (some ⟨b6,0,none⟩),.pointer (some ⟨b7,0,none⟩),u8,u9,u10,u11,u12,u13,u14,u15,u16,u17,u18,u19,u20,u21,u22,u23,u24,u25,u26,.map (some mb),.agg #[.int .u8 (h : Int),.int .u64 (k : Int)],.int .i64 d,.agg (CELLS L).toArray,.agg (CELLS R).toArray,u32],defers := [] } w := by
      refine anyHone (o := { dst := some 32,op := Op.call { callee := Callee.value (Operand.func 47),args := #[Operand.tmp 29,Operand.tmp 30,Operand.tmp 31],argTypes := #[3,24,24] },type := 24,pos := "climbed.go:30",after := #[{ on := 2,ground := Ground.data },{ on := 3,ground := Ground.data },{ on := 4,ground := Ground.data }],guard := none }) 5 (by kernel_rfl) rfl (fun K hK => ?_)
      rw [if_pos (by rfl)]
      go_simp
      refine (c1 w hp).mono ?_
      rintro e w' ⟨X,rfl,hp⟩
      exact hK.out _ _ (t1 _ _ hp) (fun _ => k1 X w' hp)
    have t4 : wpAnyH Tryd.prog .any VJOPS Q (fun W : World => W.cell? ⟨b5,0,none⟩ = some (.int .u8 (h : Int)) ∧ W.cell? ⟨b5,1,none⟩ = some (.int .u64 (k : Int)) ∧ W.rangeAt b6 0 (CELLS L) ∧ W.rangeAt b7 0 (CELLS R)) 3 #[true,true,true,true,false,false,false] { tmps := #[.map (some mb),.int .i64 d,u2,u3,u4,.pointer (some ⟨b5,0,none⟩),.pointer (some ⟨b6,0,none⟩),.pointer (some ⟨b7,0,none⟩),u8,u9,u10,u11,u12,u13,u14,u15,u16,u17,u18,u19,u20,u21,u22,u23,u24,u25,u26,.map (some mb),.agg #[.int .u8 (h : Int),.int .u64 (k : Int)],.int .i64 d,.agg (CELLS L).toArray,u31,u32],defers := [] } w :=
      wpAnyH_take (i := 4) (oi := { dst := some 31,op := Op.load 24 (Operand.tmp 7),type := 24,pos := "climbed.go:30",after := #[],guard := none }) (v := .agg (CELLS R).toArray) rfl (by kernel_rfl) (by kernel_rfl) (by kernel_rfl) (fun _ _ _ h => hQ _ _ _ _ _ h) (yieldsIf_load_mid (by rfl) 24 (.tmp 7) rfl b7 0 rfl (CELLS R) _ (fun w h => h.2.2.2) Tryd.underlying24 rfl (info_cells hR)) hww last
    have t3 : wpAnyH Tryd.prog .any VJOPS Q (fun W : World => W.cell? ⟨b5,0,none⟩ = some (.int .u8 (h : Int)) ∧ W.cell? ⟨b5,1,none⟩ = some (.int .u64 (k : Int)) ∧ W.rangeAt b6 0 (CELLS L) ∧ W.rangeAt b7 0 (CELLS R)) 4 #[true,true,true,false,false,false,false] { tmps := #[.map (some mb),.int .i64 d,u2,u3,u4,.pointer (some ⟨b5,0,none⟩),.pointer (some ⟨b6,0,none⟩),.pointer (some ⟨b7,0,none⟩),u8,u9,u10,u11,u12,u13,u14,u15,u16,u17,u18,u19,u20,u21,u22,u23,u24,u25,u26,.map (some mb),.agg #[.int .u8 (h : Int),.int .u64 (k : Int)],.int .i64 d,u30,u31,u32],defers := [] } w :=
      wpAnyH_take (i := 3) (oi := { dst := some 30,op := Op.load 24 (Operand.tmp 6),type := 24,pos := "climbed.go:30",after := #[],guard := none }) (v := .agg (CELLS L).toArray) rfl (by kernel_rfl) (by kernel_rfl) (by kernel_rfl) (fun _ _ _ h => hQ _ _ _ _ _ h) (yieldsIf_load_mid (by rfl) 24 (.tmp 6) rfl b6 0 rfl (CELLS L) _ (fun w h => h.2.2.1) Tryd.underlying24 rfl (info_cells hL)) hww t4
    have t2 : wpAnyH Tryd.prog .any VJOPS Q (fun W : World => W.cell? ⟨b5,0,none⟩ = some (.int .u8 (h : Int)) ∧ W.cell? ⟨b5,1,none⟩ = some (.int .u64 (k : Int)) ∧ W.rangeAt b6 0 (CELLS L) ∧ W.rangeAt b7 0 (CELLS R)) 5 #[true,true,false,false,false,false,false] { tmps := #[.map (some mb),.int .i64 d,u2,u3,u4,.pointer (some ⟨b5,0,none⟩),.pointer (some ⟨b6,0,none⟩),.pointer (some ⟨b7,0,none⟩),u8,u9,u10,u11,u12,u13,u14,u15,u16,u17,u18,u19,u20,u21,u22,u23,u24,u25,u26,.map (some mb),.agg #[.int .u8 (h : Int),.int .u64 (k : Int)],u29,u30,u31,u32],defers := [] } w :=
      wpAnyH_take (i := 2) (oi := { dst := some 29,op := Op.move (Operand.tmp 1),type := 3,pos := "climbed.go:30",after := #[],guard := none }) (v := .int .i64 d) rfl (by kernel_rfl) (by kernel_rfl) (by kernel_rfl) (fun _ _ _ h => hQ _ _ _ _ _ h) (Yields.yieldsIf (Or.inl ⟨by rfl,fun W => by go_simp⟩)) hww t3
    have t1 : wpAnyH Tryd.prog .any VJOPS Q (fun W : World => W.cell? ⟨b5,0,none⟩ = some (.int .u8 (h : Int)) ∧ W.cell? ⟨b5,1,none⟩ = some (.int .u64 (k : Int)) ∧ W.rangeAt b6 0 (CELLS L) ∧ W.rangeAt b7 0 (CELLS R)) 6 #[true,false,false,false,false,false,false] { tmps := #[.map (some mb),.int .i64 d,u2,u3,u4,.pointer (some ⟨b5,0,none⟩),.pointer (some ⟨b6,0,none⟩),.pointer (some ⟨b7,0,none⟩),u8,u9,u10,u11,u12,u13,u14,u15,u16,u17,u18,u19,u20,u21,u22,u23,u24,u25,u26,.map (some mb),u28,u29,u30,u31,u32],defers := [] } w :=
      wpAnyH_take (i := 1) (oi := { dst := some 28,op := Op.load 63 (Operand.tmp 5),type := 63,pos := "climbed.go:30",after := #[],guard := none }) (v := .agg #[.int .u8 (h : Int),.int .u64 (k : Int)]) rfl (by kernel_rfl) (by kernel_rfl) (by kernel_rfl) (fun _ _ _ h => hQ _ _ _ _ _ h) (Or.inl ⟨by rfl,fun w hw => by have hx := hw.1; have hy := hw.2.1; go_simp⟩) hww t2
    have t0 : wpAnyH Tryd.prog .any VJOPS Q (fun W : World => W.cell? ⟨b5,0,none⟩ = some (.int .u8 (h : Int)) ∧ W.cell? ⟨b5,1,none⟩ = some (.int .u64 (k : Int)) ∧ W.rangeAt b6 0 (CELLS L) ∧ W.rangeAt b7 0 (CELLS R)) 7 #[false,false,false,false,false,false,false] { tmps := #[.map (some mb),.int .i64 d,u2,u3,u4,.pointer (some ⟨b5,0,none⟩),.pointer (some ⟨b6,0,none⟩),.pointer (some ⟨b7,0,none⟩),u8,u9,u10,u11,u12,u13,u14,u15,u16,u17,u18,u19,u20,u21,u22,u23,u24,u25,u26,u27,u28,u29,u30,u31,u32],defers := [] } w :=
      wpAnyH_take (i := 0) (oi := { dst := some 27,op := Op.move (Operand.tmp 0),type := 87,pos := "climbed.go:30",after := #[],guard := none }) (v := .map (some mb)) rfl (by kernel_rfl) (by kernel_rfl) (by kernel_rfl) (fun _ _ _ h => hQ _ _ _ _ _ h) (Yields.yieldsIf (Or.inl ⟨by rfl,fun W => by go_simp⟩)) hww t1
    exact t0
  have hp := h0
  exact wp_region_held_drew (S := (fun W : World => W.cell? ⟨b5,0,none⟩ = some (.int .u8 (h : Int)) ∧ W.cell? ⟨b5,1,none⟩ = some (.int .u64 (k : Int)) ∧ W.rangeAt b6 0 (CELLS L) ∧ W.rangeAt b7 0 (CELLS R))) (by kernel_rfl) (t0 _ hp) (fun _ => k0 _ hp)
end Go.Proofs.YtkpgbhokoohimaaDoor

/- One step of the hash, plainly: words of 32 bits as numbers; no Go in sight. -/
namespace Go.Proofs.YtkpgbhokoohimaaDoor.HX
open Go.RowKit

/-- x turned right by n bits. -/
def ROTR (n x : Nat) : Nat := x / 2 ^ n + x % 2 ^ n * 2 ^ (32 - n)
theorem ROTR_lt {n x : Nat} (hn : n ≤ 32) (hx : x < 2 ^ 32) : ROTR n x < 2 ^ 32 := by
  unfold ROTR
  have h1 : (2 : Nat) ^ 32 = 2 ^ n * 2 ^ (32 - n) := by rw [← Nat.pow_add]; congr 1; omega
  have h2 : x / 2 ^ n < 2 ^ (32 - n) := by
    apply Nat.div_lt_of_lt_mul
    rw [← h1]; exact hx
  have h3 : x % 2 ^ n + 1 ≤ 2 ^ n := Nat.mod_lt _ (Nat.two_pow_pos n)
  have h4 := Nat.mul_le_mul_right (2 ^ (32 - n)) h3
  rw [Nat.add_mul,Nat.one_mul, ← h1] at h4
  omega
theorem rot_or {n x : Nat} (hn : n ≤ 32) (hx : x < 2 ^ 32) : x * 2 ^ (32 - n) % 2 ^ 32 ||| x / 2 ^ n = ROTR n x := by
  have h1 : (2 : Nat) ^ 32 = 2 ^ n * 2 ^ (32 - n) := by rw [← Nat.pow_add]; congr 1; omega
  have h2 : x / 2 ^ n < 2 ^ (32 - n) := by
    apply Nat.div_lt_of_lt_mul
    rw [← h1]; exact hx
  have h3 : x * 2 ^ (32 - n) % 2 ^ 32 = x % 2 ^ n * 2 ^ (32 - n) := by
    rw [h1,Nat.mul_mod_mul_right]
  rw [h3,nat_join (32 - n) _ _ (Nat.mul_mod_left _ _) h2]
  unfold ROTR
  omega
def MIX (i j k x : Nat) : Nat := ROTR i x ^^^ ROTR j x ^^^ ROTR k x
def SPILL (i j k x : Nat) : Nat := ROTR i x ^^^ ROTR j x ^^^ x / 2 ^ k
def CHO (x y z : Nat) : Nat := (x &&& y) ^^^ ((4294967295 - x) &&& z)
def MAJ (x y z : Nat) : Nat := (x &&& y) ^^^ (x &&& z) ^^^ (y &&& z)
/-- the word in the four bytes from o on, the highest first. -/
def WORDAT (s : Nat → Nat) (o : Nat) : Nat := s o * 16777216 + s (o + 1) * 65536 + s (o + 2) * 256 + s (o + 3)
theorem WORDAT_lt {s : Nat → Nat} (o : Nat) (h : ∀ i,s i < 256) : WORDAT s o < 2 ^ 32 := by
  have h0 := h o; have h1 := h (o + 1); have h2 := h (o + 2); have h3 := h (o + 3)
  unfold WORDAT
  omega
/-- the words of a block, and the k that follow first. -/
def SCHL (b : Nat → Nat) : Nat → Nat → Nat
  | 0,t => if t < 16 then WORDAT b (4 * t) else 0
  | k + 1,t => if t = 16 + k then (SPILL 17 19 10 (SCHL b k (14 + k)) + SCHL b k (9 + k) + SPILL 7 18 3 (SCHL b k (1 + k)) + SCHL b k k) % 4294967296 else SCHL b k t
def SCH (b : Nat → Nat) : Nat → Nat := SCHL b 48
theorem SCHL_lt {b : Nat → Nat} (h : ∀ i,b i < 256) : ∀ k t,SCHL b k t < 2 ^ 32
  | 0,t => by
    unfold SCHL
    split
    · exact WORDAT_lt _ h
    · decide
  | k + 1,t => by
    unfold SCHL
    split
    · exact Nat.mod_lt _ (by decide)
    · exact SCHL_lt h k t
/-- the round constants. -/
def KLIST : List Nat := [1116352408,1899447441,3049323471,3921009573,961987163,1508970993,2453635748,2870763221,3624381080,310598401,607225278,1426881987,1925078388,2162078206,2614888103,3248222580,3835390401,4022224774,264347078,604807628,770255983,1249150122,1555081692,1996064986,2554220882,2821834349,2952996808,3210313671,3336571891,3584528711,113926993,338241895,666307205,773529912,1294757372,1396182291,1695183700,1986661051,2177026350,2456956037,2730485921,2820302411,3259730800,3345764771,3516065817,3600352804,4094571909,275423344,430227734,506948616,659060556,883997877,958139571,1322822218,1537002063,1747873779,1955562222,2024104815,2227730452,2361852424,2428436474,2756734187,3204031479,3329325298]
def KC (t : Nat) : Nat := KLIST.getD t 0
/-- eight words. -/
structure ST where
  a : Nat
  b : Nat
  c : Nat
  d : Nat
  e : Nat
  f : Nat
  g : Nat
  h : Nat
def T1 (k x : Nat) (s : ST) : Nat := (s.h + MIX 6 11 25 s.e + CHO s.e s.f s.g + k + x) % 4294967296
def T2 (s : ST) : Nat := (MIX 2 13 22 s.a + MAJ s.a s.b s.c) % 4294967296
def RND (k x : Nat) (s : ST) : ST := { a := (T1 k x s + T2 s) % 4294967296,b := s.a,c := s.b,d := s.c,e := (s.d + T1 k x s) % 4294967296,f := s.e,g := s.f,h := s.g }
def Small (s : ST) : Prop := s.a < 2 ^ 32 ∧ s.b < 2 ^ 32 ∧ s.c < 2 ^ 32 ∧ s.d < 2 ^ 32 ∧ s.e < 2 ^ 32 ∧ s.f < 2 ^ 32 ∧ s.g < 2 ^ 32 ∧ s.h < 2 ^ 32
theorem Small.rnd {s : ST} (h : Small s) (k x : Nat) : Small (RND k x s) := by
  obtain ⟨h1,h2,h3,h4,h5,h6,h7,h8⟩ := h
  exact ⟨Nat.mod_lt _ (by decide),h1,h2,h3,Nat.mod_lt _ (by decide),h5,h6,h7⟩
def RUN (x : Nat → Nat) (s : ST) : Nat → ST
  | 0 => s
  | t + 1 => RND (KC t) (x t) (RUN x s t)
theorem RUN_small (x : Nat → Nat) {s : ST} (h : Small s) : ∀ t,Small (RUN x s t)
  | 0 => h
  | t + 1 => (RUN_small x h t).rnd _ _
/-- the words of a state. -/
def STOF (s : Nat → Nat) : ST := { a := WORDAT s 0,b := WORDAT s 4,c := WORDAT s 8,d := WORDAT s 12,e := WORDAT s 16,f := WORDAT s 20,g := WORDAT s 24,h := WORDAT s 28 }
theorem STOF_small {s : Nat → Nat} (h : ∀ i,s i < 256) : Small (STOF s) :=
  ⟨WORDAT_lt _ h,WORDAT_lt _ h,WORDAT_lt _ h,WORDAT_lt _ h,WORDAT_lt _ h,WORDAT_lt _ h,WORDAT_lt _ h,WORDAT_lt _ h⟩
/-- the i-th of eight words. -/
def ST.at (s : ST) : Nat → Nat
  | 0 => s.a
  | 1 => s.b
  | 2 => s.c
  | 3 => s.d
  | 4 => s.e
  | 5 => s.f
  | 6 => s.g
  | 7 => s.h
  | _ => 0
/-- the words behind one step. -/
def OUTW (s b : Nat → Nat) (i : Nat) : Nat := (WORDAT s (4 * i) + (RUN (SCH b) (STOF s) 64).at i) % 4294967296
/-- the i-th byte of words, of each the highest first. -/
def BYTEW (x : Nat → Nat) (i : Nat) : Nat := x (i / 4) / 2 ^ (24 - 8 * (i % 4)) % 256
def WID (w : Int) : Nat := (min (max w 1) 32).toNat
def NARROW (w : Int) (s : Nat → Nat) (i : Nat) : Nat := if i < WID w then s i else 0
/-- one step of the hash. -/
def COMP (w : Int) (s b : Nat → Nat) : Nat → Nat := NARROW w (BYTEW (OUTW s b))
theorem BYTEW_lt (x : Nat → Nat) (i : Nat) : BYTEW x i < 256 := Nat.mod_lt _ (by decide)
theorem NARROW_lt {w : Int} {s : Nat → Nat} (h : ∀ i,s i < 256) (i : Nat) : NARROW w s i < 256 := by
  unfold NARROW
  split
  · exact h i
  · decide
theorem COMP_lt (w : Int) (s b : Nat → Nat) (i : Nat) : COMP w s b i < 256 := NARROW_lt (BYTEW_lt _) i
end Go.Proofs.YtkpgbhokoohimaaDoor.HX
