/- Texts of VerifyBinds, one behind the other: VerifyMember, VerifyReachRegion. -/
import Derived.Test.YtccghfpnakkmaaaDoorVerifyBindsP11
import Derived.Test.YtccghfpnakkmaaaDoorVerifyBindsP23
import Derived.Test.YtccghfpnakkmaaaDoorVerifyBindsP26
/- What Member of package verify answers. -/
namespace Go.Proofs.YtccghfpnakkmaaaDoor
open Go.RowKit
set_option maxRecDepth 100000

theorem CLA_range {d : Int} {leaf : List Int} {S I n : Nat} {l : List Int} (hleaf : IsH leaf) (hl : l.length = 32 * n) (hr : ∀ x ∈ l, 0 ≤ x ∧ x ≤ 255) : ∀ x ∈ (CLA d leaf S I n l).2.2, 0 ≤ x ∧ x ≤ 255 := by
  unfold CLA
  split
  · simp
  · split
    · simp
    · rename_i h1 h2
      have hlen : (PSP I S).length = n := by
        have h3 : n = (PLA I S).2.length := Decidable.not_not.1 h2
        have h4 : (PLA I S).1 = 0 := Decidable.not_not.1 h1
        rw [h3]
        unfold PLA at h4 ⊢
        split at h4
        · simp at h4
        · rename_i h5
          split at h4
          · simp at h4
          · rename_i h6
            rw [if_neg h5, if_neg h6]
            exact (PLCS_length _).symm
      intro x hx
      obtain ⟨s, _, hs⟩ := List.mem_flatMap.1 hx
      refine (JN_is (d := d) (I := I) (MPUT_is (HAND_is hl hr (PSP I S).length (by omega)) hleaf 0 I) (RISE I S) s.1 s.2).2 x hs
/-- what Member answers. -/
def MEMA (d : Int) (root : List Int) (n i : Nat) (leaf bl : List Int) : Int :=
  if (DEC bl).1 ≠ 0 then (DEC bl).1 else if (DEC bl).2.1 ≠ n then 30 else if (DEC bl).2.2.1 ≠ i then 32 else
    UNDA d n (CLA d leaf (DEC bl).2.1 (DEC bl).2.2.1 (DEC bl).2.2.2.1 (DEC bl).2.2.2.2).2.1 (CLA d leaf (DEC bl).2.1 (DEC bl).2.2.1 (DEC bl).2.2.2.1 (DEC bl).2.2.2.2).2.2 root
set_option maxHeartbeats 4000000 in
theorem member_ok (d : Int) (root : List Int) (hroot : IsH root) (n i : Nat) (hn : n < 2 ^ 64) (leaf : List Int) (hleaf : IsH leaf) (ba : Option Addr) (bn bc : Nat) (hbn : bn ≤ 1000000) (hbc : bn ≤ bc) (bl : List Int) (w : World) (hB : Bytes w ba bn bl) (hT : Tabled w) (hX : HX.Tabled w) (h0 : 2 < w.heap.size) :
    Calls Tryd.prog 6 #[.int .i64 d, .agg (CELLS root).toArray, .int .u64 (n : Int), .int .u64 (i : Int), .agg (CELLS leaf).toArray, .slice ba bn bc] w fun e w' => e = .returned (.int .i64 (MEMA d root n i leaf bl)) ∧ Below w.heap.size w w' := by
  have l32 := hleaf.1
  have r32 := hroot.1
  obtain ⟨b7, hb7⟩ : ∃ b7, b7 = w.heap.size := ⟨_, rfl⟩
  have R0 : Aside (Below w.heap.size w ((w.alloc (.cells (CELLS root).toArray 24)).alloc (.cells (CELLS leaf).toArray 24)) ∧ Has ((w.alloc (.cells (CELLS root).toArray 24)).alloc (.cells (CELLS leaf).toArray 24)) b7 (CELLS root).toArray 24 ∧ Has ((w.alloc (.cells (CELLS root).toArray 24)).alloc (.cells (CELLS leaf).toArray 24)) (b7 + 1) (CELLS leaf).toArray 24) := by
    rw [hb7]
    exact ⟨((Below.refl _ _).alloc (Nat.le_refl _) _).alloc (by simp) _, (Has.new _ _ _).alloc _, Has.at _ _ _ (by simp)⟩
  have HT : Aside (∀ W, Below w.heap.size w W → Tabled W ∧ HX.Tabled W ∧ 0 < W.heap.size ∧ Bytes W ba bn bl ∧ 2 < W.heap.size) := fun W h => by
    have hs := h.size
    exact ⟨hT.below (by omega) h, hX.below h, by omega, hB.below h, by omega⟩
  have HA : Aside (IsH root ∧ IsH leaf ∧ n < 2 ^ 64 ∧ bn ≤ 1000000 ∧ bn ≤ bc) := ⟨hroot, hleaf, hn, hbn, hbc⟩
  clear hroot hleaf hn hbn hbc hB hT hX h0
  obtain ⟨E, S, I, N, t, hD⟩ : ∃ E S I N t, DEC bl = (E, S, I, N, t) := ⟨_, _, _, _, _, rfl⟩
  have hU : MEMA d root n i leaf bl = if E ≠ 0 then E else if S ≠ n then 30 else if I ≠ i then 32 else UNDA d n (CLA d leaf S I N t).2.1 (CLA d leaf S I N t).2.2 root := by unfold MEMA; rw [hD]
  generalize MEMA d root n i leaf bl = U at *
  have HV : Aside ((¬ E = 0 → U = E) ∧ (E = 0 → ¬ S = n → U = 30) ∧ (E = 0 → S = n → ¬ I = i → U = 32) ∧ (E = 0 → S = n → I = i → U = UNDA d n (CLA d leaf S I N t).2.1 (CLA d leaf S I N t).2.2 root)) :=
    ⟨fun h => hU.trans (if_pos h), fun h1 h2 => by rw [hU, if_neg (by simpa using h1), if_pos h2], fun h1 h2 h3 => by rw [hU, if_neg (by simpa using h1), if_neg (by simpa using h2), if_pos h3], fun h1 h2 h3 => by rw [hU, if_neg (by simpa using h1), if_neg (by simpa using h2), if_neg (by simpa using h3)]⟩
  clear hU
  have HD : Aside (DEC bl = (E, S, I, N, t)) := hD
  clear hD
  go_enter Tryd.func6, Tryd.ntmps6
  go_upto_region 1 with fail
  rw [← hb7]
  have HB : Aside (b7 = w.heap.size) := hb7
  clear hb7
  generalize (w.alloc (.cells (CELLS root).toArray 24)).alloc (.cells (CELLS leaf).toArray 24) = W0 at *
  go_wp2_with fail
  have cD := decode_own ba bn bc HA.out.2.2.2.1 bl W0 (HT.out _ R0.out.1).2.2.2.1 HA.out.2.2.2.2 (HT.out _ R0.out.1).1 (HT.out _ R0.out.1).2.2.1
  rw [HD.out] at cD
  refine cD.mono ?_
  clear cD HD
  rintro e w1 ⟨a1, c1, rfl, hrow, hr, hb⟩
  dsimp only at *
  obtain ⟨b8, hb8⟩ : ∃ b, b = w1.heap.size := ⟨_, rfl⟩
  have hbb : Below w1.heap.size w1 (w1.alloc (.cells #[.int .u64 (S : Int), .int .u64 (I : Int), .slice a1 N c1] 53)) := (Below.refl _ _).alloc (Nat.le_refl _) _
  have R1 : Aside (Below w.heap.size w (w1.alloc (.cells #[.int .u64 (S : Int), .int .u64 (I : Int), .slice a1 N c1] 53)) ∧ Has (w1.alloc (.cells #[.int .u64 (S : Int), .int .u64 (I : Int), .slice a1 N c1] 53)) b7 (CELLS root).toArray 24 ∧ Has (w1.alloc (.cells #[.int .u64 (S : Int), .int .u64 (I : Int), .slice a1 N c1] 53)) (b7 + 1) (CELLS leaf).toArray 24 ∧ Has (w1.alloc (.cells #[.int .u64 (S : Int), .int .u64 (I : Int), .slice a1 N c1] 53)) b8 #[.int .u64 (S : Int), .int .u64 (I : Int), .slice a1 N c1] 53 ∧ Flat (w1.alloc (.cells #[.int .u64 (S : Int), .int .u64 (I : Int), .slice a1 N c1] 53)) a1 N t) :=
    ⟨(R0.out.1.trans (hb.mono R0.out.1.size)).trans (hbb.mono (R0.out.1.trans (hb.mono R0.out.1.size)).size), (R0.out.2.1.keep hb).keep hbb, (R0.out.2.2.keep hb).keep hbb, Has.at _ _ _ hb8, (own_flat hrow hr).below hbb⟩
  clear hrow hr hb hbb R0
  go_upto_region 2 with fail
  rw [← hb8]
  clear hb8
  generalize w1.alloc (.cells #[.int .u64 (S : Int), .int .u64 (I : Int), .slice a1 N c1] 53) = W1 at *
  clear w1 W0
  have y0 : W1.cell? ⟨b8, 0, none⟩ = some (.int .u64 (S : Int)) := R1.out.2.2.2.1.cell 0
  have y1 : W1.cell? ⟨b8, 1, none⟩ = some (.int .u64 (I : Int)) := R1.out.2.2.2.1.cell 1
  have y2 : W1.cell? ⟨b8, 2, none⟩ = some (.slice a1 N c1) := R1.out.2.2.2.1.cell 2
  have hb := R1.out.1
  by_cases hE : E = 0
  · by_cases hS : S = n
    · by_cases hI : I = i
      · have HW : Aside (U = UNDA d n (CLA d leaf S I N t).2.1 (CLA d leaf S I N t).2.2 root) := HV.out.2.2.2 hE hS hI
        subst hE hS hI
        clear HV
        have h10 := R1.out.2.2.1
        go_wp2_with (first
          | (refine wpList_load_row rfl 24 (.tmp 10) rfl (b7 + 1) rfl 24 (CELLS leaf).toArray (0, 0) _ h10 Tryd.underlying24 rfl (info_arr l32) ?_)
          | fail)
        refine (climb_ok d leaf HA.out.2.1 S I a1 N c1 t W1 R1.out.2.2.2.2 (HT.out _ hb).1 (HT.out _ hb).2.1 (HT.out _ hb).2.2.2.2).mono ?_
        have hrg := CLA_range (d := d) (S := S) (I := I) HA.out.2.1 R1.out.2.2.2.2.1 R1.out.2.2.2.2.2.2
        generalize CLA d leaf S I N t = C at *
        obtain ⟨CE, CN, CL⟩ := C
        rintro e w2 ⟨a2, c2, rfl, hrow, hb2⟩
        dsimp only at *
        have R2 : Aside (Below w.heap.size w w2 ∧ Has w2 b7 (CELLS root).toArray 24 ∧ Flat w2 a2 CN CL) := ⟨hb.trans (hb2.mono hb.size), R1.out.2.1.keep hb2, own_flat hrow hrg⟩
        clear hrow hrg hb2 hb R1 y0 y1 y2 h10
        have h7 := R2.out.2.1
        go_wp2_with (first
          | (refine wpList_load_row rfl 24 (.tmp 7) rfl b7 rfl 24 (CELLS root).toArray (0, 0) _ h7 Tryd.underlying24 rfl (info_arr r32) ?_)
          | fail)
        refine (rooted_ok d S HA.out.2.2.1 a2 CN c2 CL root HA.out.1 w2 R2.out.2.2 (HT.out _ R2.out.1).2.1).mono ?_
        rintro e w3 ⟨rfl, hb3⟩
        have R3 : Aside (Below w.heap.size w w3) := R2.out.1.trans (hb3.mono R2.out.1.size)
        clear hb3 R2 h7 HT HA
        go_wp2_with fail
        go_ret
        exact ⟨by rw [HW.out]; rfl, R3.out⟩
      · have HW : Aside (U = 32) := HV.out.2.2.1 hE hS hI
        have hI' : ¬ (I : Int) = (i : Int) := by omega
        subst hE hS
        clear HV HT HA R1
        go_wp2_with fail
        go_ret
        exact ⟨by rw [HW.out]; rfl, hb⟩
    · have HW : Aside (U = 30) := HV.out.2.1 hE hS
      have hS' : ¬ (S : Int) = (n : Int) := by omega
      subst hE
      clear HV HT HA R1
      go_wp2_with fail
      go_ret
      exact ⟨by rw [HW.out]; rfl, hb⟩
  · have HW : Aside (U = E) := HV.out.1 hE
    clear HV HT HA R1 y0 y1 y2
    go_wp2_with fail
    go_ret
    exact ⟨by rw [HW.out]; rfl, hb⟩
end Go.Proofs.YtccghfpnakkmaaaDoor

/- The region of Reach that draws its order. -/
namespace Go.Proofs.YtccghfpnakkmaaaDoor
open Go.RowKit
set_option maxRecDepth 100000

def VROPS : Array Oper := #[{ dst := some 51, op := Op.move (Operand.tmp 9), type := 104, pos := "verify.go:62", after := #[], guard := none }, { dst := some 52, op := Op.fieldAddr 60 (Operand.tmp 3) 0, type := 0, pos := "verify.go:62", after := #[], guard := none }, { dst := some 53, op := Op.load 22 (Operand.tmp 52), type := 22, pos := "verify.go:62", after := #[{ on := 1, ground := Ground.data }], guard := none }, { dst := some 54, op := Op.call { callee := Callee.value (Operand.func 59), args := #[Operand.tmp 51, Operand.tmp 53], argTypes := #[104, 22] }, type := 32, pos := "verify.go:62", after := #[{ on := 0, ground := Ground.data }, { on := 2, ground := Ground.data }], guard := none }, { dst := some 55, op := Op.move (Operand.tmp 9), type := 104, pos := "verify.go:62", after := #[], guard := none }, { dst := some 56, op := Op.fieldAddr 60 (Operand.tmp 3) 1, type := 0, pos := "verify.go:62", after := #[], guard := none }, { dst := some 57, op := Op.load 22 (Operand.tmp 56), type := 22, pos := "verify.go:62", after := #[{ on := 5, ground := Ground.data }], guard := none }, { dst := some 58, op := Op.call { callee := Callee.value (Operand.func 59), args := #[Operand.tmp 55, Operand.tmp 57], argTypes := #[104, 22] }, type := 32, pos := "verify.go:62", after := #[{ on := 4, ground := Ground.data }, { on := 6, ground := Ground.data }, { on := 3, ground := Ground.chain }], guard := none }, { dst := some 4, op := Op.assign (Operand.tmp 54), type := 32, pos := "verify.go:62", after := #[{ on := 3, ground := Ground.data }, { on := 7, ground := Ground.chain }, { on := 0, ground := Ground.phase }, { on := 1, ground := Ground.phase }, { on := 2, ground := Ground.phase }, { on := 3, ground := Ground.phase }, { on := 4, ground := Ground.textOnly Departure.lateStores }, { on := 5, ground := Ground.textOnly Departure.lateStores }, { on := 6, ground := Ground.textOnly Departure.lateStores }, { on := 7, ground := Ground.textOnly Departure.lateStoresUnsure }], guard := none }, { dst := some 5, op := Op.assign (Operand.tmp 58), type := 32, pos := "verify.go:62", after := #[{ on := 7, ground := Ground.data }, { on := 8, ground := Ground.chain }, { on := 0, ground := Ground.phase }, { on := 1, ground := Ground.phase }, { on := 2, ground := Ground.phase }, { on := 3, ground := Ground.phase }, { on := 4, ground := Ground.phase }, { on := 5, ground := Ground.phase }, { on := 6, ground := Ground.phase }, { on := 7, ground := Ground.phase }, { on := 8, ground := Ground.phase }], guard := none }, { dst := some 6, op := Op.assign (Operand.const (Value.int IntKind.i64 0)), type := 26, pos := "verify.go:62", after := #[{ on := 9, ground := Ground.chain }, { on := 0, ground := Ground.phase }, { on := 1, ground := Ground.phase }, { on := 2, ground := Ground.phase }, { on := 3, ground := Ground.phase }, { on := 4, ground := Ground.phase }, { on := 5, ground := Ground.phase }, { on := 6, ground := Ground.phase }, { on := 7, ground := Ground.phase }, { on := 8, ground := Ground.phase }, { on := 9, ground := Ground.phase }], guard := none }]
set_option maxHeartbeats 2000000 in
theorem reach_region {Q : Exit → Act → World → Prop} (u0 u1 u2 u4 u5 u6 u7 u8 u10 u11 u12 u13 u14 u15 u16 u17 u18 u19 u20 u21 u22 u23 u24 u25 u26 u27 u28 u29 u30 u31 u32 u33 u34 u35 u36 u37 u38 u39 u40 u41 u42 u43 u44 u45 u46 u47 u48 u49 u50 u51 u52 u53 u54 u55 u56 u57 u58 : Value) (W : World) (mb b3 F S : Nat) (P0 : World → Prop) (P1 : Value → World → Prop) (P2 : Value → Value → World → Prop) (t0 : ∀ w, P0 w → (fun W : World => W.cell? ⟨b3, 0, none⟩ = some (.int .u64 (F : Int)) ∧ W.cell? ⟨b3, 1, none⟩ = some (.int .u64 (S : Int))) w) (t1 : ∀ X w, P1 X w → (fun W : World => W.cell? ⟨b3, 0, none⟩ = some (.int .u64 (F : Int)) ∧ W.cell? ⟨b3, 1, none⟩ = some (.int .u64 (S : Int))) w) (t2 : ∀ X Y w, P2 X Y w → (fun W : World => W.cell? ⟨b3, 0, none⟩ = some (.int .u64 (F : Int)) ∧ W.cell? ⟨b3, 1, none⟩ = some (.int .u64 (S : Int))) w) (c1 : ∀ w, P0 w → Calls Tryd.prog 59 #[.map (some mb), .int .u64 (F : Int)] w fun e w' => ∃ X, e = .returned X ∧ P1 X w') (c2 : ∀ X w, P1 X w → Calls Tryd.prog 59 #[.map (some mb), .int .u64 (S : Int)] w fun e w' => ∃ Y, e = .returned Y ∧ P2 X Y w') (h0 : P0 W.drew) (hQ : ∀ c (a : Act) (t : Tmp) (v : Value) w, Q (.panic c) (a.put (some t) v) w → Q (.panic c) a w)
    (hfin : ∀ (X Y : Value) (w : World), P2 X Y w → Q .normal { tmps := #[u0, u1, u2, .pointer (some ⟨b3, 0, none⟩), X, Y, .int .i64 0, u7, u8, .map (some mb), u10, u11, u12, u13, u14, u15, u16, u17, u18, u19, u20, u21, u22, u23, u24, u25, u26, u27, u28, u29, u30, u31, u32, u33, u34, u35, u36, u37, u38, u39, u40, u41, u42, u43, u44, u45, u46, u47, u48, u49, u50, .map (some mb), .pointer (some ⟨b3, 0, none⟩), .int .u64 (F : Int), X, .map (some mb), .pointer (some ⟨b3, 1, none⟩), .int .u64 (S : Int), Y], defers := [] } w) : (Code.region 12 VROPS true).wp Tryd.prog Q { tmps := #[u0, u1, u2, .pointer (some ⟨b3, 0, none⟩), u4, u5, u6, u7, u8, .map (some mb), u10, u11, u12, u13, u14, u15, u16, u17, u18, u19, u20, u21, u22, u23, u24, u25, u26, u27, u28, u29, u30, u31, u32, u33, u34, u35, u36, u37, u38, u39, u40, u41, u42, u43, u44, u45, u46, u47, u48, u49, u50, u51, u52, u53, u54, u55, u56, u57, u58], defers := [] } W := by
  have k2 : ∀ (X Y : Value) (w : World), P2 X Y w → wpAnyH Tryd.prog .any VROPS Q (fun W : World => W.cell? ⟨b3, 0, none⟩ = some (.int .u64 (F : Int)) ∧ W.cell? ⟨b3, 1, none⟩ = some (.int .u64 (S : Int))) 3 #[true, true, true, true, true, true, true, true, false, false, false] { tmps := #[u0, u1, u2, .pointer (some ⟨b3, 0, none⟩), u4, u5, u6, u7, u8, .map (some mb), u10, u11, u12, u13, u14, u15, u16, u17, u18, u19, u20, u21, u22, u23, u24, u25, u26, u27, u28, u29, u30, u31, u32, u33, u34, u35, u36, u37, u38, u39, u40, u41, u42, u43, u44, u45, u46, u47, u48, u49, u50, .map (some mb), .pointer (some ⟨b3, 0, none⟩), .int .u64 (F : Int), X, .map (some mb), .pointer (some ⟨b3, 1, none⟩), .int .u64 (S : Int), Y], defers := [] } w := fun X Y w hp => by
    have hww : (fun W : World => W.cell? ⟨b3, 0, none⟩ = some (.int .u64 (F : Int)) ∧ W.cell? ⟨b3, 1, none⟩ = some (.int .u64 (S : Int))) w := t2 _ _ _ hp
    have last : wpAnyH Tryd.prog .any VROPS Q (fun W : World => W.cell? ⟨b3, 0, none⟩ = some (.int .u64 (F : Int)) ∧ W.cell? ⟨b3, 1, none⟩ = some (.int .u64 (S : Int))) 0 #[true, true, true, true, true, true, true, true, true, true, true] { tmps := #[u0, u1, u2, .pointer (some ⟨b3, 0, none⟩), X, Y, .int .i64 0, u7, u8, .map (some mb), u10, u11, u12, u13, u14, u15, u16, u17, u18, u19, u20, u21, u22, u23, u24, u25, u26, u27, u28, u29, u30, u31, u32, u33, u34, u35, u36, u37, u38, u39, u40, u41, u42, u43, u44, u45, u46, u47, u48, u49, u50, .map (some mb), .pointer (some ⟨b3, 0, none⟩), .int .u64 (F : Int), X, .map (some mb), .pointer (some ⟨b3, 1, none⟩), .int .u64 (S : Int), Y], defers := [] } w := wpAnyH_done (by kernel_rfl) (hfin X Y w hp) _
    have t10 : wpAnyH Tryd.prog .any VROPS Q (fun W : World => W.cell? ⟨b3, 0, none⟩ = some (.int .u64 (F : Int)) ∧ W.cell? ⟨b3, 1, none⟩ = some (.int .u64 (S : Int))) 1 #[true, true, true, true, true, true, true, true, true, true, false] { tmps := #[u0, u1, u2, .pointer (some ⟨b3, 0, none⟩), X, Y, u6, u7, u8, .map (some mb), u10, u11, u12, u13, u14, u15, u16, u17, u18, u19, u20, u21, u22, u23, u24, u25, u26, u27, u28, u29, u30, u31, u32, u33, u34, u35, u36, u37, u38, u39, u40, u41, u42, u43, u44, u45, u46, u47, u48, u49, u50, .map (some mb), .pointer (some ⟨b3, 0, none⟩), .int .u64 (F : Int), X, .map (some mb), .pointer (some ⟨b3, 1, none⟩), .int .u64 (S : Int), Y], defers := [] } w :=
      wpAnyH_take (i := 10) (oi := { dst := some 6, op := Op.assign (Operand.const (Value.int IntKind.i64 0)), type := 26, pos := "verify.go:62", after := #[{ on := 9, ground := Ground.chain }, { on := 0, ground := Ground.phase }, { on := 1, ground := Ground.phase }, { on := 2, ground := Ground.phase }, { on := 3, ground := Ground.phase }, { on := 4, ground := Ground.phase }, { on := 5, ground := Ground.phase }, { on := 6, ground := Ground.phase }, { on := 7, ground := Ground.phase }, { on := 8, ground := Ground.phase }, { on := 9, ground := Ground.phase }], guard := none }) (v := .int .i64 0) rfl (by kernel_rfl) (by kernel_rfl) (by kernel_rfl) (fun _ _ _ h => hQ _ _ _ _ _ h) (Yields.yieldsIf (Or.inl ⟨by rfl, fun W => by go_simp⟩)) hww last
    have t9 : wpAnyH Tryd.prog .any VROPS Q (fun W : World => W.cell? ⟨b3, 0, none⟩ = some (.int .u64 (F : Int)) ∧ W.cell? ⟨b3, 1, none⟩ = some (.int .u64 (S : Int))) 2 #[true, true, true, true, true, true, true, true, true, false, false] { tmps := #[u0, u1, u2, .pointer (some ⟨b3, 0, none⟩), X, u5, u6, u7, u8, .map (some mb), u10, u11, u12, u13, u14, u15, u16, u17, u18, u19, u20, u21, u22, u23, u24, u25, u26, u27, u28, u29, u30, u31, u32, u33, u34, u35, u36, u37, u38, u39, u40, u41, u42, u43, u44, u45, u46, u47, u48, u49, u50, .map (some mb), .pointer (some ⟨b3, 0, none⟩), .int .u64 (F : Int), X, .map (some mb), .pointer (some ⟨b3, 1, none⟩), .int .u64 (S : Int), Y], defers := [] } w :=
      wpAnyH_take (i := 9) (oi := { dst := some 5, op := Op.assign (Operand.tmp 58), type := 32, pos := "verify.go:62", after := #[{ on := 7, ground := Ground.data }, { on := 8, ground := Ground.chain }, { on := 0, ground := Ground.phase }, { on := 1, ground := Ground.phase }, { on := 2, ground := Ground.phase }, { on := 3, ground := Ground.phase }, { on := 4, ground := Ground.phase }, { on := 5, ground := Ground.phase }, { on := 6, ground := Ground.phase }, { on := 7, ground := Ground.phase }, { on := 8, ground := Ground.phase }], guard := none }) (v := Y) rfl (by kernel_rfl) (by kernel_rfl) (by kernel_rfl) (fun _ _ _ h => hQ _ _ _ _ _ h) (Yields.yieldsIf (Or.inl ⟨by rfl, fun W => by go_simp⟩)) hww t10
    have t8 : wpAnyH Tryd.prog .any VROPS Q (fun W : World => W.cell? ⟨b3, 0, none⟩ = some (.int .u64 (F : Int)) ∧ W.cell? ⟨b3, 1, none⟩ = some (.int .u64 (S : Int))) 3 #[true, true, true, true, true, true, true, true, false, false, false] { tmps := #[u0, u1, u2, .pointer (some ⟨b3, 0, none⟩), u4, u5, u6, u7, u8, .map (some mb), u10, u11, u12, u13, u14, u15, u16, u17, u18, u19, u20, u21, u22, u23, u24, u25, u26, u27, u28, u29, u30, u31, u32, u33, u34, u35, u36, u37, u38, u39, u40, u41, u42, u43, u44, u45, u46, u47, u48, u49, u50, .map (some mb), .pointer (some ⟨b3, 0, none⟩), .int .u64 (F : Int), X, .map (some mb), .pointer (some ⟨b3, 1, none⟩), .int .u64 (S : Int), Y], defers := [] } w :=
      wpAnyH_take (i := 8) (oi := { dst := some 4, op := Op.assign (Operand.tmp 54), type := 32, pos := "verify.go:62", after := #[{ on := 3, ground := Ground.data }, { on := 7, ground := Ground.chain }, { on := 0, ground := Ground.phase }, { on := 1, ground := Ground.phase }, { on := 2, ground := Ground.phase }, { on := 3, ground := Ground.phase }, { on := 4, ground := Ground.textOnly Departure.lateStores }, { on := 5, ground := Ground.textOnly Departure.lateStores }, { on := 6, ground := Ground.textOnly Departure.lateStores }, { on := 7, ground := Ground.textOnly Departure.lateStoresUnsure }], guard := none }) (v := X) rfl (by kernel_rfl) (by kernel_rfl) (by kernel_rfl) (fun _ _ _ h => hQ _ _ _ _ _ h) (Yields.yieldsIf (Or.inl ⟨by rfl, fun W => by go_simp⟩)) hww t9
    exact t8
  have k1 : ∀ (X : Value) (w : World), P1 X w → wpAnyH Tryd.prog .any VROPS Q (fun W : World => W.cell? ⟨b3, 0, none⟩ = some (.int .u64 (F : Int)) ∧ W.cell? ⟨b3, 1, none⟩ = some (.int .u64 (S : Int))) 4 #[true, true, true, true, true, true, true, false, false, false, false] { tmps := #[u0, u1, u2, .pointer (some ⟨b3, 0, none⟩), u4, u5, u6, u7, u8, .map (some mb), u10, u11, u12, u13, u14, u15, u16, u17, u18, u19, u20, u21, u22, u23, u24, u25, u26, u27, u28, u29, u30, u31, u32, u33, u34, u35, u36, u37, u38, u39, u40, u41, u42, u43, u44, u45, u46, u47, u48, u49, u50, .map (some mb), .pointer (some ⟨b3, 0, none⟩), .int .u64 (F : Int), X, .map (some mb), .pointer (some ⟨b3, 1, none⟩), .int .u64 (S : Int), u58], defers := [] } w := fun X w hp => by
    have hww : (fun W : World => W.cell? ⟨b3, 0, none⟩ = some (.int .u64 (F : Int)) ∧ W.cell? ⟨b3, 1, none⟩ = some (.int .u64 (S : Int))) w := t1 _ _ hp
    have last : wpAnyH Tryd.prog .any VROPS Q (fun W : World => W.cell? ⟨b3, 0, none⟩ = some (.int .u64 (F : Int)) ∧ W.cell? ⟨b3, 1, none⟩ = some (.int .u64 (S : Int))) 4 #[true, true, true, true, true, true, true, false, false, false, false] { tmps := #[u0, u1, u2, .pointer (some ⟨b3, 0, none⟩), u4, u5, u6, u7, u8, .map (some mb), u10, u11, u12, u13, u14, u15, u16, u17, u18, u19, u20, u21, u22, u23, u24, u25, u26, u27, u28, u29, u30, u31, u32, u33, u34, u35, u36, u37, u38, u39, u40, u41, u42, u43, u44, u45, u46, u47, u48, u49, u50, .map (some mb), .pointer (some ⟨b3, 0, none⟩), .int .u64 (F : Int), X, .map (some mb), .pointer (some ⟨b3, 1, none⟩), .int .u64 (S : Int), u58], defers := [] } w := by
      refine anyHone (o := { dst := some 58, op := Op.call { callee := Callee.value (Operand.func 59), args := #[Operand.tmp 55, Operand.tmp 57], argTypes := #[104, 22] }, type := 32, pos := "verify.go:62", after := #[{ on := 4, ground := Ground.data }, { on := 6, ground := Ground.data }, { on := 3, ground := Ground.chain }], guard := none }) 7 (by kernel_rfl) rfl (fun K hK => ?_)
      rw [if_pos (by rfl)]
      go_simp
      refine (c2 X w hp).mono ?_
      rintro e w' ⟨Y, rfl, hp⟩
      exact hK.out _ _ (t2 _ _ _ hp) (fun _ => k2 X Y w' hp)
    exact last
  have k0 : ∀ (w : World), P0 w → wpAnyH Tryd.prog .any VROPS Q (fun W : World => W.cell? ⟨b3, 0, none⟩ = some (.int .u64 (F : Int)) ∧ W.cell? ⟨b3, 1, none⟩ = some (.int .u64 (S : Int))) 11 #[false, false, false, false, false, false, false, false, false, false, false] { tmps := #[u0, u1, u2, .pointer (some ⟨b3, 0, none⟩), u4, u5, u6, u7, u8, .map (some mb), u10, u11, u12, u13, u14, u15, u16, u17, u18, u19, u20, u21, u22, u23, u24, u25, u26, u27, u28, u29, u30, u31, u32, u33, u34, u35, u36, u37, u38, u39, u40, u41, u42, u43, u44, u45, u46, u47, u48, u49, u50, u51, u52, u53, u54, u55, u56, u57, u58], defers := [] } w := fun  w hp => by
    have hww : (fun W : World => W.cell? ⟨b3, 0, none⟩ = some (.int .u64 (F : Int)) ∧ W.cell? ⟨b3, 1, none⟩ = some (.int .u64 (S : Int))) w := t0 _ hp
    have last : wpAnyH Tryd.prog .any VROPS Q (fun W : World => W.cell? ⟨b3, 0, none⟩ = some (.int .u64 (F : Int)) ∧ W.cell? ⟨b3, 1, none⟩ = some (.int .u64 (S : Int))) 5 #[true, true, true, false, true, true, true, false, false, false, false] { tmps := #[u0, u1, u2, .pointer (some ⟨b3, 0, none⟩), u4, u5, u6, u7, u8, .map (some mb), u10, u11, u12, u13, u14, u15, u16, u17, u18, u19, u20, u21, u22, u23, u24, u25, u26, u27, u28, u29, u30, u31, u32, u33, u34, u35, u36, u37, u38, u39, u40, u41, u42, u43, u44, u45, u46, u47, u48, u49, u50, .map (some mb), .pointer (some ⟨b3, 0, none⟩), .int .u64 (F : Int), u54, .map (some mb), .pointer (some ⟨b3, 1, none⟩), .int .u64 (S : Int), u58], defers := [] } w := by
      refine anyHone (o := { dst := some 54, op := Op.call { callee := Callee.value (Operand.func 59), args := #[Operand.tmp 51, Operand.tmp 53], argTypes := #[104, 22] }, type := 32, pos := "verify.go:62", after := #[{ on := 0, ground := Ground.data }, { on := 2, ground := Ground.data }], guard := none }) 3 (by kernel_rfl) rfl (fun K hK => ?_)
      rw [if_pos (by rfl)]
      go_simp
      refine (c1 w hp).mono ?_
      rintro e w' ⟨X, rfl, hp⟩
      exact hK.out _ _ (t1 _ _ hp) (fun _ => k1 X w' hp)
    have t6 : wpAnyH Tryd.prog .any VROPS Q (fun W : World => W.cell? ⟨b3, 0, none⟩ = some (.int .u64 (F : Int)) ∧ W.cell? ⟨b3, 1, none⟩ = some (.int .u64 (S : Int))) 6 #[true, true, true, false, true, true, false, false, false, false, false] { tmps := #[u0, u1, u2, .pointer (some ⟨b3, 0, none⟩), u4, u5, u6, u7, u8, .map (some mb), u10, u11, u12, u13, u14, u15, u16, u17, u18, u19, u20, u21, u22, u23, u24, u25, u26, u27, u28, u29, u30, u31, u32, u33, u34, u35, u36, u37, u38, u39, u40, u41, u42, u43, u44, u45, u46, u47, u48, u49, u50, .map (some mb), .pointer (some ⟨b3, 0, none⟩), .int .u64 (F : Int), u54, .map (some mb), .pointer (some ⟨b3, 1, none⟩), u57, u58], defers := [] } w :=
      wpAnyH_take (i := 6) (oi := { dst := some 57, op := Op.load 22 (Operand.tmp 56), type := 22, pos := "verify.go:62", after := #[{ on := 5, ground := Ground.data }], guard := none }) (v := .int .u64 (S : Int)) rfl (by kernel_rfl) (by kernel_rfl) (by kernel_rfl) (fun _ _ _ h => hQ _ _ _ _ _ h) (Or.inl ⟨by rfl, fun w hw => by have hx := hw.2; go_simp⟩) hww last
    have t5 : wpAnyH Tryd.prog .any VROPS Q (fun W : World => W.cell? ⟨b3, 0, none⟩ = some (.int .u64 (F : Int)) ∧ W.cell? ⟨b3, 1, none⟩ = some (.int .u64 (S : Int))) 7 #[true, true, true, false, true, false, false, false, false, false, false] { tmps := #[u0, u1, u2, .pointer (some ⟨b3, 0, none⟩), u4, u5, u6, u7, u8, .map (some mb), u10, u11, u12, u13, u14, u15, u16, u17, u18, u19, u20, u21, u22, u23, u24, u25, u26, u27, u28, u29, u30, u31, u32, u33, u34, u35, u36, u37, u38, u39, u40, u41, u42, u43, u44, u45, u46, u47, u48, u49, u50, .map (some mb), .pointer (some ⟨b3, 0, none⟩), .int .u64 (F : Int), u54, .map (some mb), u56, u57, u58], defers := [] } w :=
      wpAnyH_take (i := 5) (oi := { dst := some 56, op := Op.fieldAddr 60 (Operand.tmp 3) 1, type := 0, pos := "verify.go:62", after := #[], guard := none }) (v := .pointer (some ⟨b3, 1, none⟩)) rfl (by kernel_rfl) (by kernel_rfl) (by kernel_rfl) (fun _ _ _ h => hQ _ _ _ _ _ h) (Yields.yieldsIf (Or.inl ⟨by rfl, fun W => by go_simp⟩)) hww t6
    have t4 : wpAnyH Tryd.prog .any VROPS Q (fun W : World => W.cell? ⟨b3, 0, none⟩ = some (.int .u64 (F : Int)) ∧ W.cell? ⟨b3, 1, none⟩ = some (.int .u64 (S : Int))) 8 #[true, true, true, false, false, false, false, false, false, false, false] { tmps := #[u0, u1, u2, .pointer (some ⟨b3, 0, none⟩), u4, u5, u6, u7, u8, .map (some mb), u10, u11, u12, u13, u14, u15, u16, u17, u18, u19, u20, u21, u22, u23, u24, u25, u26, u27, u28, u29, u30, u31, u32, u33, u34, u35, u36, u37, u38, u39, u40, u41, u42, u43, u44, u45, u46, u47, u48, u49, u50, .map (some mb), .pointer (some ⟨b3, 0, none⟩), .int .u64 (F : Int), u54, u55, u56, u57, u58], defers := [] } w :=
      wpAnyH_take (i := 4) (oi := { dst := some 55, op := Op.move (Operand.tmp 9), type := 104, pos := "verify.go:62", after := #[], guard := none }) (v := .map (some mb)) rfl (by kernel_rfl) (by kernel_rfl) (by kernel_rfl) (fun _ _ _ h => hQ _ _ _ _ _ h) (Yields.yieldsIf (Or.inl ⟨by rfl, fun W => by go_simp⟩)) hww t5
    have t2 : wpAnyH Tryd.prog .any VROPS Q (fun W : World => W.cell? ⟨b3, 0, none⟩ = some (.int .u64 (F : Int)) ∧ W.cell? ⟨b3, 1, none⟩ = some (.int .u64 (S : Int))) 9 #[true, true, false, false, false, false, false, false, false, false, false] { tmps := #[u0, u1, u2, .pointer (some ⟨b3, 0, none⟩), u4, u5, u6, u7, u8, .map (some mb), u10, u11, u12, u13, u14, u15, u16, u17, u18, u19, u20, u21, u22, u23, u24, u25, u26, u27, u28, u29, u30, u31, u32, u33, u34, u35, u36, u37, u38, u39, u40, u41, u42, u43, u44, u45, u46, u47, u48, u49, u50, .map (some mb), .pointer (some ⟨b3, 0, none⟩), u53, u54, u55, u56, u57, u58], defers := [] } w :=
      wpAnyH_take (i := 2) (oi := { dst := some 53, op := Op.load 22 (Operand.tmp 52), type := 22, pos := "verify.go:62", after := #[{ on := 1, ground := Ground.data }], guard := none }) (v := .int .u64 (F : Int)) rfl (by kernel_rfl) (by kernel_rfl) (by kernel_rfl) (fun _ _ _ h => hQ _ _ _ _ _ h) (Or.inl ⟨by rfl, fun w hw => by have hx := hw.1; go_simp⟩) hww t4
    have t1 : wpAnyH Tryd.prog .any VROPS Q (fun W : World => W.cell? ⟨b3, 0, none⟩ = some (.int .u64 (F : Int)) ∧ W.cell? ⟨b3, 1, none⟩ = some (.int .u64 (S : Int))) 10 #[true, false, false, false, false, false, false, false, false, false, false] { tmps := #[u0, u1, u2, .pointer (some ⟨b3, 0, none⟩), u4, u5, u6, u7, u8, .map (some mb), u10, u11, u12, u13, u14, u15, u16, u17, u18, u19, u20, u21, u22, u23, u24, u25, u26, u27, u28, u29, u30, u31, u32, u33, u34, u35, u36, u37, u38, u39, u40, u41, u42, u43, u44, u45, u46, u47, u48, u49, u50, .map (some mb), u52, u53, u54, u55, u56, u57, u58], defers := [] } w :=
      wpAnyH_take (i := 1) (oi := { dst := some 52, op := Op.fieldAddr 60 (Operand.tmp 3) 0, type := 0, pos := "verify.go:62", after := #[], guard := none }) (v := .pointer (some ⟨b3, 0, none⟩)) rfl (by kernel_rfl) (by kernel_rfl) (by kernel_rfl) (fun _ _ _ h => hQ _ _ _ _ _ h) (Yields.yieldsIf (Or.inl ⟨by rfl, fun W => by go_simp⟩)) hww t2
    have t0 : wpAnyH Tryd.prog .any VROPS Q (fun W : World => W.cell? ⟨b3, 0, none⟩ = some (.int .u64 (F : Int)) ∧ W.cell? ⟨b3, 1, none⟩ = some (.int .u64 (S : Int))) 11 #[false, false, false, false, false, false, false, false, false, false, false] { tmps := #[u0, u1, u2, .pointer (some ⟨b3, 0, none⟩), u4, u5, u6, u7, u8, .map (some mb), u10, u11, u12, u13, u14, u15, u16, u17, u18, u19, u20, u21, u22, u23, u24, u25, u26, u27, u28, u29, u30, u31, u32, u33, u34, u35, u36, u37, u38, u39, u40, u41, u42, u43, u44, u45, u46, u47, u48, u49, u50, u51, u52, u53, u54, u55, u56, u57, u58], defers := [] } w :=
      wpAnyH_take (i := 0) (oi := { dst := some 51, op := Op.move (Operand.tmp 9), type := 104, pos := "verify.go:62", after := #[], guard := none }) (v := .map (some mb)) rfl (by kernel_rfl) (by kernel_rfl) (by kernel_rfl) (fun _ _ _ h => hQ _ _ _ _ _ h) (Yields.yieldsIf (Or.inl ⟨by rfl, fun W => by go_simp⟩)) hww t1
    exact t0
  have hp := h0
  exact wp_region_held_drew (S := (fun W : World => W.cell? ⟨b3, 0, none⟩ = some (.int .u64 (F : Int)) ∧ W.cell? ⟨b3, 1, none⟩ = some (.int .u64 (S : Int)))) (by kernel_rfl) (t0 _ hp) (fun _ => k0 _ hp)
end Go.Proofs.YtccghfpnakkmaaaDoor
