/- Texts of SpanRound, one behind the other: SpanRoundWalk, PosDoor, ProofDoor, SpanDoor. -/
import Derived.Test.YtmkgldjocigffaaDoorRows
import Derived.ProofKit
import Derived.LaidMore
import Derived.OpenShut
import Derived.Stop.Joined
import Derived.Deep.Strs
import Derived.Lib.SmallJoins
import Derived.Test.YtmkgldjocigffaaDoorSpanRoundP13
/- The law SpanRound returns true. -/
namespace Go.Proofs.YtmkgldjocigffaaDoor
open Go.RowKit
set_option maxRecDepth 100000

theorem sround_long (S F T : Nat) (x : Option Addr) (m cx : Nat) (y : Option Addr) (k cy : Nat) (w : World) (h : (200 : Int) < (m : Int) ∨ (6400 : Int) < (k : Int)) :
    Calls Tryd.prog 6 #[.agg #[.int .u64 (S : Int), .int .u64 (F : Int), .int .u64 (T : Int), .slice x m cx], .slice y k cy] w fun e w' => e = .returned (.bool true) ∧ Below w.heap.size w w' := by
  have FN : Aside (Below w.heap.size w (w.alloc (.cells #[.int .u64 (S : Int), .int .u64 (F : Int), .int .u64 (T : Int), .slice x m cx] 37))) := (Below.refl _ _).alloc (Nat.le_refl _) _
  by_cases h2 : (200 : Int) < (m : Int)
  · clear h
    go_enter Tryd.func6, Tryd.ntmps6
    go_wp2_with fail
    go_ret
    exact ⟨rfl, FN.out⟩
  · have h3 : (6400 : Int) < (k : Int) := by omega
    clear h
    go_enter Tryd.func6, Tryd.ntmps6
    go_wp2_with fail
    go_ret
    exact ⟨rfl, FN.out⟩
set_option maxHeartbeats 16000000 in
theorem sround_core (S F T : Nat) (x : Option Addr) (m cx : Nat) (l : List Int) (y : Option Addr) (k cy : Nat) (l2 : List Int) (w : World) (hm : m ≤ 200) (hcx : x = none → cx = 0) (hF : Flat w x m l) (hB : Bytes w y k l2) (hk : k ≤ 6400) (hcy : y = none → cy = 0) (hT : Tabled w) (h0 : 0 < w.heap.size) :
    Calls Tryd.prog 6 #[.agg #[.int .u64 (S : Int), .int .u64 (F : Int), .int .u64 (T : Int), .slice x m cx], .slice y k cy] w fun e w' => e = .returned (.bool true) ∧ Below w.heap.size w w' := by
  have tab : Aside (∀ W, Below w.heap.size w W → Tabled W ∧ 0 < W.heap.size) := fun W hb => ⟨hT.below h0 hb, by have := hb.size; omega⟩
  obtain ⟨w1, e1⟩ : ∃ w1, w.alloc (.cells #[.int .u64 (S : Int), .int .u64 (F : Int), .int .u64 (T : Int), .slice x m cx] 37) = w1 := ⟨_, rfl⟩
  have hb1 : Below w.heap.size w w1 := by rw [← e1]; exact (Below.refl _ _).alloc (Nat.le_refl _) _
  have hs1 : Has w1 w.heap.size #[.int .u64 (S : Int), .int .u64 (F : Int), .int .u64 (T : Int), .slice x m cx] 37 := by rw [← e1]; exact Has.new w _ _
  obtain ⟨w2, e2⟩ : ∃ w2, w1.alloc (.cells #[.int .u64 (S : Int), .int .u64 (F : Int), .int .u64 (T : Int), .slice x m cx] 37) = w2 := ⟨_, rfl⟩
  have hb2 : Below w1.heap.size w1 w2 := by rw [← e2]; exact (Below.refl _ _).alloc (Nat.le_refl _) _
  have hs2 : Has w2 w1.heap.size #[.int .u64 (S : Int), .int .u64 (F : Int), .int .u64 (T : Int), .slice x m cx] 37 := by rw [← e2]; exact Has.new w1 _ _
  have hs1' : Has w2 w.heap.size #[.int .u64 (S : Int), .int .u64 (F : Int), .int .u64 (T : Int), .slice x m cx] 37 := hs1.keep hb2
  have bw2 : Below w.heap.size w w2 := hb1.trans (hb2.mono hb1.size)
  have cg := row20_ok x m cx (by omega) hcx l w2 (hF.below bw2)
  have i2 : ¬ (200 : Int) < (m : Int) := by omega
  have i3 : ¬ (6400 : Int) < (k : Int) := by omega
  have hsz : w.heap.size < w1.heap.size := hs1.lt
  have HA : Aside (m ≤ 200 ∧ Flat w x m l ∧ Below w.heap.size w w2 ∧ Has w2 w.heap.size #[.int .u64 (S : Int), .int .u64 (F : Int), .int .u64 (T : Int), .slice x m cx] 37 ∧ Has w2 w1.heap.size #[.int .u64 (S : Int), .int .u64 (F : Int), .int .u64 (T : Int), .slice x m cx] 37 ∧ w.heap.size < w1.heap.size) := ⟨hm, hF, bw2, hs1', hs2, hsz⟩
  have HB : Aside (Bytes w y k l2 ∧ k ≤ 6400 ∧ (y = none → cy = 0)) := ⟨hB, hk, hcy⟩
  have x0 := hs1.cell 0
  have x1 := hs1.cell 1
  have x2 := hs1.cell 2
  have x3 := hs1.cell 3
  have infoM : (Tryd.prog.info? 37).map (·.size) = some (#[Value.int .u64 (S : Int), .int .u64 (F : Int), .int .u64 (T : Int), .slice x m cx] : Array Value).size := info_reach
  have allM : (#[Value.int .u64 (S : Int), .int .u64 (F : Int), .int .u64 (T : Int), .slice x m cx] : Array Value).all (·.oneCell') = true := by simp [Value.oneCell']
  have MM : Aside ((Tryd.prog.info? 37).map (·.size) = some (#[Value.int .u64 (S : Int), .int .u64 (F : Int), .int .u64 (T : Int), .slice x m cx] : Array Value).size ∧ (#[Value.int .u64 (S : Int), .int .u64 (F : Int), .int .u64 (T : Int), .slice x m cx] : Array Value).all (·.oneCell') = true) := ⟨infoM, allM⟩
  have y3 : w2.cell? ⟨w.heap.size, 3, none⟩ = some (.slice x m cx) := hs1'.cell 3
  clear hm hcx hF hB hk hcy hT h0 hb1 hs1 hb2 hs2 hs1' bw2 hsz infoM allM
  go_enter Tryd.func6, Tryd.ntmps6
  go_wp2_with (first
    | (refine wpList_store_row rfl 37 (.tmp 5) (.tmp 23) rfl _ _ rfl rfl 37 ZREACH (Has.new w1 _ _) MM.out.1 rfl MM.out.2 ?_; rw [World.setRow_alloc_new, e2]))
  refine cg.mono ?_
  rintro e w3 ⟨g3, q3, rfl, o3, r3, _, lt3, hb3⟩
  have k3 := HA.out.2.2.2.2.1.keep hb3
  have kk3 := k3.set 3 (.slice (some ⟨g3, 0, none⟩) m q3)
  have z3 : w3.cell? ⟨w1.heap.size, 3, none⟩ = some (.slice x m cx) := k3.cell 3
  have f3 : w3.frozen? ⟨w1.heap.size, 3, none⟩ = false := k3.frozen 3
  have B3 : Aside (Below w.heap.size w (w3.setCell ⟨w1.heap.size, 3, none⟩ (.slice (some ⟨g3, 0, none⟩) m q3)) ∧ Has (w3.setCell ⟨w1.heap.size, 3, none⟩ (.slice (some ⟨g3, 0, none⟩) m q3)) w.heap.size #[.int .u64 (S : Int), .int .u64 (F : Int), .int .u64 (T : Int), .slice x m cx] 37 ∧ Has (w3.setCell ⟨w1.heap.size, 3, none⟩ (.slice (some ⟨g3, 0, none⟩) m q3)) w1.heap.size #[.int .u64 (S : Int), .int .u64 (F : Int), .int .u64 (T : Int), .slice (some ⟨g3, 0, none⟩) m q3] 37 ∧ (w3.setCell ⟨w1.heap.size, 3, none⟩ (.slice (some ⟨g3, 0, none⟩) m q3)).ownsRow w2.heap.size 60 32 (.slice (some ⟨g3, 0, none⟩) m q3) m (CELLS l)) := by
    have b := HA.out.2.2.1.trans (hb3.mono HA.out.2.2.1.size)
    have hs := HA.out.2.2.2.2.2
    exact ⟨b.setCell (p := ⟨w1.heap.size, 3, none⟩) (Nat.le_of_lt hs) _, (HA.out.2.2.2.1.keep hb3).other (by show w.heap.size ≠ w1.heap.size; omega) _, kk3, ownsRow_setCell_below o3 (a := ⟨w1.heap.size, 3, none⟩) HA.out.2.2.2.2.1.lt _⟩
  clear cg o3 r3 lt3 hb3 k3 kk3 e1 e2 x0 x1 x2 x3 y3
  go_upto_region 5 with fail
  generalize w3.setCell ⟨w1.heap.size, 3, none⟩ (.slice (some ⟨g3, 0, none⟩) m q3) = w4 at *
  clear z3 f3
  have x0 : w4.cell? ⟨w1.heap.size, 0, none⟩ = some (.int .u64 (S : Int)) := B3.out.2.2.1.cell 0
  have x1 : w4.cell? ⟨w1.heap.size, 1, none⟩ = some (.int .u64 (F : Int)) := B3.out.2.2.1.cell 1
  have x2 : w4.cell? ⟨w1.heap.size, 2, none⟩ = some (.int .u64 (T : Int)) := B3.out.2.2.1.cell 2
  have x3 : w4.cell? ⟨w1.heap.size, 3, none⟩ = some (.slice (some ⟨g3, 0, none⟩) m q3) := B3.out.2.2.1.cell 3
  have ce := spanencode_ok S F T (some ⟨g3, 0, none⟩) m q3 l w4 (by have := HA.out.1; omega) (own_flat B3.out.2.2.2 HA.out.2.1.2.2) (tab.out w4 B3.out.1).1 (tab.out w4 B3.out.1).2
  unfold RBOX at ce
  by_cases hW : SWA S F T m = 0
  · have eM : SENC S F T m l = (0, SWRT S F (T - F) l) := if_pos hW
    have eD : SDEC (SWRT S F (T - F) l) = (0, S, F, T, m, l) := SDEC_SWRT hW HA.out.2.1.1
    have qq := SWA_ok hW
    have rZ := SWRT_range (l := l) (S := S) (F := F) (T := T) (by omega) (by omega) (by omega) HA.out.2.1.2.2
    have lZ := SWRT_length S F (T - F) l
    obtain ⟨Z, hZ⟩ : ∃ Z, SWRT S F (T - F) l = Z := ⟨_, rfl⟩
    rw [eM] at ce
    rw [hZ] at ce eD rZ lZ
    unfold ANSB20 at ce
    dsimp only at ce
    have ZZ : Aside (SDEC Z = (0, S, F, T, m, l) ∧ (∀ x ∈ Z, 0 ≤ x ∧ x ≤ 255) ∧ Z.length ≤ 1000000) := ⟨eD, rZ, by have := HA.out.2.1.1; have := HA.out.1; omega⟩
    clear eM eD rZ lZ hZ hW qq
    go_wp2_with fail
    refine ce.mono ?_
    rintro e w5 ⟨a5, c5, rfl, o5, hb5⟩
    have B5 : Aside (Below w.heap.size w w5 ∧ Has w5 w.heap.size #[.int .u64 (S : Int), .int .u64 (F : Int), .int .u64 (T : Int), .slice x m cx] 37 ∧ Bytes w5 a5 Z.length Z ∧ Z.length ≤ c5) := ⟨B3.out.1.trans (hb5.mono B3.out.1.size), B3.out.2.1.keep hb5, own_bytes_any o5 ZZ.out.2.1⟩
    have cd := spandecode_ok a5 Z.length c5 Z w5 B5.out.2.2.1 B5.out.2.2.2 ZZ.out.2.2 (tab.out w5 B5.out.1).1 (tab.out w5 B5.out.1).2
    rw [ZZ.out.1] at cd
    unfold DECS at cd
    dsimp only at cd
    clear ce o5 hb5 B3 ZZ x0 x1 x2 x3
    go_wp2_with fail
    refine cd.mono ?_
    rintro e w6 ⟨a6, c6, rfl, o6, hb6⟩
    have B6 : Aside (Below w.heap.size w w6 ∧ Has w6 w.heap.size #[.int .u64 (S : Int), .int .u64 (F : Int), .int .u64 (T : Int), .slice x m cx] 37 ∧ Flat w6 a6 m l) := ⟨B5.out.1.trans (hb6.mono B5.out.1.size), B5.out.2.1.keep hb6, own_flat o6 HA.out.2.1.2.2⟩
    clear cd o6 hb6 B5
    go_upto_region 8 with fail
    obtain ⟨w7, e7⟩ : ∃ w7, w6.alloc (.cells #[.int .u64 (S : Int), .int .u64 (F : Int), .int .u64 (T : Int), .slice a6 m c6] 37) = w7 := ⟨_, rfl⟩
    rw [e7]
    have hb7 : Below w6.heap.size w6 w7 := by rw [← e7]; exact (Below.refl _ _).alloc (Nat.le_refl _) _
    have hs7 : Has w7 w6.heap.size #[.int .u64 (S : Int), .int .u64 (F : Int), .int .u64 (T : Int), .slice a6 m c6] 37 := by rw [← e7]; exact Has.new w6 _ _
    have hp7 := B6.out.2.1.keep hb7
    have x0 : w7.cell? ⟨w6.heap.size, 0, none⟩ = some (.int .u64 (S : Int)) := hs7.cell 0
    have x1 : w7.cell? ⟨w6.heap.size, 1, none⟩ = some (.int .u64 (F : Int)) := hs7.cell 1
    have x2 : w7.cell? ⟨w6.heap.size, 2, none⟩ = some (.int .u64 (T : Int)) := hs7.cell 2
    have x3 : w7.cell? ⟨w6.heap.size, 3, none⟩ = some (.slice a6 m c6) := hs7.cell 3
    have y0 : w7.cell? ⟨w.heap.size, 0, none⟩ = some (.int .u64 (S : Int)) := hp7.cell 0
    have y1 : w7.cell? ⟨w.heap.size, 1, none⟩ = some (.int .u64 (F : Int)) := hp7.cell 1
    have y2 : w7.cell? ⟨w.heap.size, 2, none⟩ = some (.int .u64 (T : Int)) := hp7.cell 2
    have y3 : w7.cell? ⟨w.heap.size, 3, none⟩ = some (.slice x m cx) := hp7.cell 3
    have B7 : Aside (Below w.heap.size w w7) := B6.out.1.trans (hb7.mono B6.out.1.size)
    have cs := same20_ok S F T x a6 m m cx c6 l w7 (HA.out.2.1.below B7.out) (B6.out.2.2.below hb7) (by have := HA.out.1; omega)
    clear hb7 hs7 hp7 e7 B6
    go_wp2_with fail
    refine cs.mono ?_
    rintro e WT ⟨rfl, hb8⟩
    have WB : Aside (Below w.heap.size w WT) := B7.out.trans (hb8.mono B7.out.size)
    clear cs hb8 B7 x0 x1 x2 x3 y0 y1 y2 y3
    have ct := text20_ok y k cy (by have := HB.out.2.1; omega) HB.out.2.2 l2 WT (HB.out.1.below WB.out)
    go_wp2_with fail
    refine ct.mono ?_
    rintro e w20 ⟨g20, q20, rfl, o20, r20, _, lt20, hb20⟩
    have B20 : Aside (Below w.heap.size w w20 ∧ Bytes w20 (some ⟨g20, 0, none⟩) k l2 ∧ k ≤ q20) := ⟨WB.out.trans (hb20.mono WB.out.size), own_bytes o20 lt20 HB.out.1.2.2, by omega⟩
    clear ct o20 r20 lt20 hb20 WB
    have cd := spandecode_ok (some ⟨g20, 0, none⟩) k q20 l2 w20 B20.out.2.1 B20.out.2.2 (by have := HB.out.2.1; omega) (tab.out w20 B20.out.1).1 (tab.out w20 B20.out.1).2
    rcases SDEC_cases HB.out.1.2.2 with ⟨E, hE, eD⟩ | ⟨S2, F2, T2, K, t, eD, hW2, hK, hl2⟩
    · rw [eD] at cd
      unfold DECS SERR at cd
      dsimp only at cd
      have hE1 : (E != 0) = true := by simpa using hE
      have hE2 : (E == 0) = false := by simpa using hE
      clear eD hE
      go_wp2_with fail
      refine cd.mono ?_
      rintro e w21 ⟨a21, c21, rfl, _, hb21⟩
      have B21 : Aside (Below w.heap.size w w21) := B20.out.1.trans (hb21.mono B20.out.1.size)
      clear cd hb21 B20
      go_upto_region 11 with fail
      obtain ⟨w22, e22⟩ : ∃ w22, w21.alloc (.cells #[.int .u64 ((0 : Nat) : Int), .int .u64 ((0 : Nat) : Int), .int .u64 ((0 : Nat) : Int), .slice a21 0 c21] 37) = w22 := ⟨_, rfl⟩
      have B22 : Aside (Below w.heap.size w w22) := by show Below _ _ _; rw [← e22]; exact B21.out.alloc B21.out.size _
      simp only [Int.cast_ofNat_Int] at e22 ⊢
      rw [e22]
      have ca := awake20_ok w22 (tab.out w22 B22.out).1 (tab.out w22 B22.out).2
      clear e22 B21
      go_wp2_with fail
      refine ca.mono ?_
      rintro e w25 ⟨rfl, hb25⟩
      have B25 : Aside (Below w.heap.size w w25) := B22.out.trans (hb25.mono B22.out.size)
      clear ca hb25 B22
      go_wp2_with fail
      go_ret
      exact ⟨rfl, B25.out⟩
    · rw [eD] at cd
      unfold DECS at cd
      dsimp only at cd
      have q := SWA_ok hW2
      have QQ : Aside (SWA S2 F2 T2 K = 0 ∧ t.length = 32 * K ∧ l2 = SWRT S2 F2 (T2 - F2) t ∧ K ≤ 188 ∧ (∀ x ∈ t, 0 ≤ x ∧ x ≤ 255)) := ⟨hW2, hK, hl2, by rw [q.2.2.2]; exact SPP_few q.1 q.2.2.1, fun x hx => HB.out.1.2.2 x (by rw [hl2]; unfold SWRT; simp [hx])⟩
      clear eD q hW2 hK hl2
      go_wp2_with fail
      refine cd.mono ?_
      rintro e w21 ⟨a21, c21, rfl, o21, hb21⟩
      go_upto_region 11 with fail
      obtain ⟨w22, e22⟩ : ∃ w22, w21.alloc (.cells #[.int .u64 (S2 : Int), .int .u64 (F2 : Int), .int .u64 (T2 : Int), .slice a21 K c21] 37) = w22 := ⟨_, rfl⟩
      rw [e22]
      have hb22 : Below w21.heap.size w21 w22 := by rw [← e22]; exact (Below.refl _ _).alloc (Nat.le_refl _) _
      have hs22 : Has w22 w21.heap.size #[.int .u64 (S2 : Int), .int .u64 (F2 : Int), .int .u64 (T2 : Int), .slice a21 K c21] 37 := by rw [← e22]; exact Has.new w21 _ _
      have B22 : Aside (Below w.heap.size w w22) := (B20.out.1.trans (hb21.mono B20.out.1.size)).trans (hb22.mono (B20.out.1.trans (hb21.mono B20.out.1.size)).size)
      have x22 : w22.cell? ⟨w21.heap.size, 0, none⟩ = some (.int .u64 (S2 : Int)) := hs22.cell 0
      have y22 : w22.cell? ⟨w21.heap.size, 1, none⟩ = some (.int .u64 (F2 : Int)) := hs22.cell 1
      have z22 : w22.cell? ⟨w21.heap.size, 2, none⟩ = some (.int .u64 (T2 : Int)) := hs22.cell 2
      have v22 : w22.cell? ⟨w21.heap.size, 3, none⟩ = some (.slice a21 K c21) := hs22.cell 3
      have ce := spanencode_ok S2 F2 T2 a21 K c21 t w22 (by have := QQ.out.2.2.2.1; omega) (own_flat (own_below o21 hb22) QQ.out.2.2.2.2) (tab.out w22 B22.out).1 (tab.out w22 B22.out).2
      have eM : SENC S2 F2 T2 K t = (0, l2) := by unfold SENC; rw [if_pos QQ.out.1, ← QQ.out.2.2.1]
      rw [eM] at ce
      unfold ANSB20 RBOX at ce
      have hlk : l2.length = k := HB.out.1.1
      dsimp only at ce
      rw [hlk] at ce
      clear cd o21 hb21 hb22 hs22 e22 eM B20 QQ hlk
      go_wp2_with fail
      refine ce.mono ?_
      rintro e w23 ⟨a23, c23, rfl, o23, hb23⟩
      have B23 : Aside (Below w.heap.size w w23 ∧ Bytes w23 a23 k l2) := ⟨B22.out.trans (hb23.mono B22.out.size), (own_bytes_any o23 HB.out.1.2.2).1⟩
      have cs := samebytes_ok y a23 k k cy c23 l2 l2 w23 (HB.out.1.below B23.out.1) B23.out.2 (by have := HB.out.2.1; omega)
      rw [decide_eq_true rfl] at cs
      clear ce o23 hb23 B22 x22 y22 z22 v22
      go_wp2_with fail
      refine cs.mono ?_
      rintro e w24 ⟨rfl, hb24⟩
      have B24 : Aside (Below w.heap.size w w24) := B23.out.1.trans (hb24.mono B23.out.1.size)
      clear cs hb24 B23
      have ca := awake20_ok w24 (tab.out w24 B24.out).1 (tab.out w24 B24.out).2
      go_wp2_with fail
      refine ca.mono ?_
      rintro e w25 ⟨rfl, hb25⟩
      have B25 : Aside (Below w.heap.size w w25) := B24.out.trans (hb25.mono B24.out.size)
      clear ca hb25 B24
      go_wp2_with fail
      go_ret
      exact ⟨rfl, B25.out⟩
  · have eM : SENC S F T m l = (SWA S F T m, []) := if_neg hW
    rw [eM] at ce
    unfold ANSB20 at ce
    dsimp only at ce
    have hE1 : (SWA S F T m == 0) = false := by simpa using hW
    generalize SWA S F T m = E1 at *
    clear eM
    go_wp2_with fail
    refine ce.mono ?_
    rintro e WT ⟨a5, c5, rfl, o5, hb5⟩
    have WB : Aside (Below w.heap.size w WT) := B3.out.1.trans (hb5.mono B3.out.1.size)
    clear ce o5 hb5 B3 x0 x1 x2 x3
    have ct := text20_ok y k cy (by have := HB.out.2.1; omega) HB.out.2.2 l2 WT (HB.out.1.below WB.out)
    go_wp2_with fail
    refine ct.mono ?_
    rintro e w20 ⟨g20, q20, rfl, o20, r20, _, lt20, hb20⟩
    have B20 : Aside (Below w.heap.size w w20 ∧ Bytes w20 (some ⟨g20, 0, none⟩) k l2 ∧ k ≤ q20) := ⟨WB.out.trans (hb20.mono WB.out.size), own_bytes o20 lt20 HB.out.1.2.2, by omega⟩
    clear ct o20 r20 lt20 hb20 WB
    have cd := spandecode_ok (some ⟨g20, 0, none⟩) k q20 l2 w20 B20.out.2.1 B20.out.2.2 (by have := HB.out.2.1; omega) (tab.out w20 B20.out.1).1 (tab.out w20 B20.out.1).2
    rcases SDEC_cases HB.out.1.2.2 with ⟨E, hE, eD⟩ | ⟨S2, F2, T2, K, t, eD, hW2, hK, hl2⟩
    · rw [eD] at cd
      unfold DECS SERR at cd
      dsimp only at cd
      have hE1 : (E != 0) = true := by simpa using hE
      have hE2 : (E == 0) = false := by simpa using hE
      clear eD hE
      go_wp2_with fail
      refine cd.mono ?_
      rintro e w21 ⟨a21, c21, rfl, _, hb21⟩
      have B21 : Aside (Below w.heap.size w w21) := B20.out.1.trans (hb21.mono B20.out.1.size)
      clear cd hb21 B20
      go_upto_region 11 with fail
      obtain ⟨w22, e22⟩ : ∃ w22, w21.alloc (.cells #[.int .u64 ((0 : Nat) : Int), .int .u64 ((0 : Nat) : Int), .int .u64 ((0 : Nat) : Int), .slice a21 0 c21] 37) = w22 := ⟨_, rfl⟩
      have B22 : Aside (Below w.heap.size w w22) := by show Below _ _ _; rw [← e22]; exact B21.out.alloc B21.out.size _
      simp only [Int.cast_ofNat_Int] at e22 ⊢
      rw [e22]
      have ca := awake20_ok w22 (tab.out w22 B22.out).1 (tab.out w22 B22.out).2
      clear e22 B21
      go_wp2_with fail
      refine ca.mono ?_
      rintro e w25 ⟨rfl, hb25⟩
      have B25 : Aside (Below w.heap.size w w25) := B22.out.trans (hb25.mono B22.out.size)
      clear ca hb25 B22
      go_wp2_with fail
      go_ret
      exact ⟨rfl, B25.out⟩
    · rw [eD] at cd
      unfold DECS at cd
      dsimp only at cd
      have q := SWA_ok hW2
      have QQ : Aside (SWA S2 F2 T2 K = 0 ∧ t.length = 32 * K ∧ l2 = SWRT S2 F2 (T2 - F2) t ∧ K ≤ 188 ∧ (∀ x ∈ t, 0 ≤ x ∧ x ≤ 255)) := ⟨hW2, hK, hl2, by rw [q.2.2.2]; exact SPP_few q.1 q.2.2.1, fun x hx => HB.out.1.2.2 x (by rw [hl2]; unfold SWRT; simp [hx])⟩
      clear eD q hW2 hK hl2
      go_wp2_with fail
      refine cd.mono ?_
      rintro e w21 ⟨a21, c21, rfl, o21, hb21⟩
      go_upto_region 11 with fail
      obtain ⟨w22, e22⟩ : ∃ w22, w21.alloc (.cells #[.int .u64 (S2 : Int), .int .u64 (F2 : Int), .int .u64 (T2 : Int), .slice a21 K c21] 37) = w22 := ⟨_, rfl⟩
      rw [e22]
      have hb22 : Below w21.heap.size w21 w22 := by rw [← e22]; exact (Below.refl _ _).alloc (Nat.le_refl _) _
      have hs22 : Has w22 w21.heap.size #[.int .u64 (S2 : Int), .int .u64 (F2 : Int), .int .u64 (T2 : Int), .slice a21 K c21] 37 := by rw [← e22]; exact Has.new w21 _ _
      have B22 : Aside (Below w.heap.size w w22) := (B20.out.1.trans (hb21.mono B20.out.1.size)).trans (hb22.mono (B20.out.1.trans (hb21.mono B20.out.1.size)).size)
      have x22 : w22.cell? ⟨w21.heap.size, 0, none⟩ = some (.int .u64 (S2 : Int)) := hs22.cell 0
      have y22 : w22.cell? ⟨w21.heap.size, 1, none⟩ = some (.int .u64 (F2 : Int)) := hs22.cell 1
      have z22 : w22.cell? ⟨w21.heap.size, 2, none⟩ = some (.int .u64 (T2 : Int)) := hs22.cell 2
      have v22 : w22.cell? ⟨w21.heap.size, 3, none⟩ = some (.slice a21 K c21) := hs22.cell 3
      have ce := spanencode_ok S2 F2 T2 a21 K c21 t w22 (by have := QQ.out.2.2.2.1; omega) (own_flat (own_below o21 hb22) QQ.out.2.2.2.2) (tab.out w22 B22.out).1 (tab.out w22 B22.out).2
      have eM : SENC S2 F2 T2 K t = (0, l2) := by unfold SENC; rw [if_pos QQ.out.1, ← QQ.out.2.2.1]
      rw [eM] at ce
      unfold ANSB20 RBOX at ce
      have hlk : l2.length = k := HB.out.1.1
      dsimp only at ce
      rw [hlk] at ce
      clear cd o21 hb21 hb22 hs22 e22 eM B20 QQ hlk
      go_wp2_with fail
      refine ce.mono ?_
      rintro e w23 ⟨a23, c23, rfl, o23, hb23⟩
      have B23 : Aside (Below w.heap.size w w23 ∧ Bytes w23 a23 k l2) := ⟨B22.out.trans (hb23.mono B22.out.size), (own_bytes_any o23 HB.out.1.2.2).1⟩
      have cs := samebytes_ok y a23 k k cy c23 l2 l2 w23 (HB.out.1.below B23.out.1) B23.out.2 (by have := HB.out.2.1; omega)
      rw [decide_eq_true rfl] at cs
      clear ce o23 hb23 B22 x22 y22 z22 v22
      go_wp2_with fail
      refine cs.mono ?_
      rintro e w24 ⟨rfl, hb24⟩
      have B24 : Aside (Below w.heap.size w w24) := B23.out.1.trans (hb24.mono B23.out.1.size)
      clear cs hb24 B23
      have ca := awake20_ok w24 (tab.out w24 B24.out).1 (tab.out w24 B24.out).2
      go_wp2_with fail
      refine ca.mono ?_
      rintro e w25 ⟨rfl, hb25⟩
      have B25 : Aside (Below w.heap.size w w25) := B24.out.trans (hb25.mono B24.out.size)
      clear ca hb25 B24
      go_wp2_with fail
      go_ret
      exact ⟨rfl, B25.out⟩
theorem spanRound_walk (S F T : Nat) (x : Option Addr) (m cx : Nat) (l : List Int) (y : Option Addr) (k cy : Nat) (l2 : List Int) (w : World) (hcx : x = none → cx = 0) (hF : Flat w x m l) (hB : Bytes w y k l2) (hcy : y = none → cy = 0) (hT : Tabled w) (h0 : 0 < w.heap.size) :
    Calls Tryd.prog 6 #[.agg #[.int .u64 (S : Int), .int .u64 (F : Int), .int .u64 (T : Int), .slice x m cx], .slice y k cy] w fun e w' => e = .returned (.bool true) ∧ Below w.heap.size w w' := by
  by_cases h : m ≤ 200 ∧ k ≤ 6400
  · exact sround_core S F T x m cx l y k cy l2 w h.1 hcx hF hB h.2 hcy hT h0
  · exact sround_long S F T x m cx y k cy w (by omega)
end Go.Proofs.YtmkgldjocigffaaDoor

/- What the card's row gives the walks of layer 3: spots that came in; the table of math/bits. -/
namespace Go.Proofs.YtmkgldjocigffaaDoor
open Go.ChangeShapes Go.WideShapes Go.ChangeAt Go.WideMaps Go.WideElems Go.RowKit
set_option maxRecDepth 100000

theorem own : ownKnob Tryd.prog.godebug = none := by kernel_rfl
theorem laidOut : laidOutB Tryd.prog = true := by kernel_rfl
theorem gTab : Tryd.prog.globalNamed "math/bits.deBruijn64tab" = some 0 := by kernel_rfl
theorem tTab : (Tryd.prog.globals[0]?).map (·.type) = some 103 := by kernel_rfl
theorem tabData {H : Type} : (Rows.laid_math_bits_deBruijn64tab : DataW H) = .agg (TAB.map fun n => .lit (.int .u8 (n : Nat))) := rfl
theorem of_laid {W : World} (h : laidMetH Tryd.prog [("math/bits.deBruijn64tab", Rows.laid_math_bits_deBruijn64tab)] W) : Tabled W ∧ 0 < W.heap.size := by
  rw [MakeChecks.laidMetH_plain _ _ _ (by kernel_rfl)] at h
  obtain ⟨ps, ⟨g0, t0, cs0, f0, p0, q0, hg0, ht0, hv0, hd0, _, _⟩, _, _⟩ := h
  obtain rfl := Option.some.inj (gTab.symm.trans hg0)
  obtain rfl := Option.some.inj (tTab.symm.trans ht0)
  obtain ⟨xs, m1, rfl, hx1, hlen, hn, hel⟩ := DataW.trod_array Tryd.underlying103 hd0
  have c5 : Tryd.prog.cellsOf 5 = 1 := by kernel_rfl
  simp only [Prod.mk.injEq] at hx1
  have hx := hx1.1
  rw [tabData] at hx
  simp only [DataW.agg.injEq] at hx
  have T : Tabled W := fun i hi => by
    have h0 := hel i hi
    have hi' : i < xs.length := by omega
    rw [List.getElem?_eq_getElem hi', c5, Nat.mul_one] at h0
    obtain ⟨k, e1, e2, _⟩ := DataW.trod_int Tryd.underlying5 h0
    have hk : (k : Int) = ((TAB.getD i 0 : Nat) : Int) := by
      have hz := congrArg (fun l => l[i]?) hx
      have hT : i < TAB.length := hi
      simp only [List.getElem?_map, List.getElem?_eq_getElem hi', List.getElem?_eq_getElem hT, Option.map_some, e2] at hz
      simp at hz
      rw [List.getD_eq_getElem?_getD, List.getElem?_eq_getElem hT]
      simpa using hz.symm
    have hv := World.var?_cell hg0 hv0 i
    rw [hv, ← hk]
    have := congrArg (fun l => l[0]?) e1
    simp at this
    simpa using this
  refine ⟨T, ?_⟩
  have := T 0 (by decide)
  exact Nat.lt_of_le_of_lt (Nat.zero_le _) (World.block_lt_of_cell? W _ this)
end Go.Proofs.YtmkgldjocigffaaDoor

/- What the card's row gives the walks of layer 7: hashes, lists of hashes, proofs and bytes that came in. -/
namespace Go.Proofs.YtmkgldjocigffaaDoor
open Go.ChangeShapes Go.WideShapes Go.ChangeAt Go.WideMaps Go.WideElems Go.RowKit Go.Deep
set_option maxRecDepth 100000

/-- one hash, by its cells. -/
theorem open_hash {H : Type} {enc : TypeId × Value → H} {W : World} {fuel : Nat} {cs : List Value} {x : DataW H × List MemPlace} (hf : DataW.trod enc Tryd.prog W 0 (fun _ => true) true fuel 60 cs = some x) : ∃ h : List Int, h.length = 32 ∧ (∀ x ∈ h, 0 ≤ x ∧ x ≤ 255) ∧ cs = CELLS h := by
  obtain ⟨xs, m, rfl, _, hl, hn, hel⟩ := DataW.trod_array Tryd.underlying60 hf
  have c5 : Tryd.prog.cellsOf 5 = 1 := by kernel_rfl
  have c32 : Tryd.prog.cellsOf 60 = 32 := by kernel_rfl
  rw [c32] at hl
  have hx : ∀ i, i < 32 → ∃ k : Int, cs[i]? = some (.int .u8 k) ∧ 0 ≤ k ∧ k ≤ 255 := fun i hi => by
    have h0 := hel i hi
    rw [List.getElem?_eq_getElem (by omega), c5, Nat.mul_one] at h0
    obtain ⟨k, e1, _, e3⟩ := DataW.trod_int Tryd.underlying5 h0
    have hb := bounds_u8 e3
    refine ⟨k, ?_, by omega, by omega⟩
    have := congrArg (fun l => l[0]?) e1
    simpa using this
  have F : ∃ f : Nat → Int, ∀ i, i < 32 → cs[i]? = some (.int .u8 (f i)) ∧ 0 ≤ f i ∧ f i ≤ 255 := by
    refine ⟨fun i => if hi : i < 32 then (hx i hi).choose else 0, fun i hi => ?_⟩
    simp only [hi, dif_pos]
    exact (hx i hi).choose_spec
  obtain ⟨f, hf1⟩ := F
  refine ⟨(List.range 32).map f, by simp, fun x hx => ?_, ?_⟩
  · simp only [List.mem_map, List.mem_range] at hx
    obtain ⟨i, hi, rfl⟩ := hx
    exact (hf1 i hi).2
  · apply List.ext_getElem?
    intro i
    by_cases hi : i < 32
    · rw [(hf1 i hi).1, CELLS_get _ i (by simp; exact hi), List.getD_eq_getElem?_getD, List.getElem?_map, List.getElem?_range hi]
      rfl
    · rw [List.getElem?_eq_none (by omega), List.getElem?_eq_none (by simp [CELLS]; omega)]
/-- a list of hashes that came in. -/
theorem open_flat {H : Type} {enc : TypeId × Value → H} {W : World} {fuel : Nat} {a : Option Addr} {k c : Nat} {x : DataW H × List MemPlace} (hf : DataW.trod enc Tryd.prog W 0 (fun _ => true) true fuel 35 [.slice a k c] = some x) :
    ∃ l : List Int, Flat W a k l ∧ (a = none → c = 0) ∧ k ≤ c := by
  rcases DataW.trod_slice Tryd.underlying35 hf with ⟨h0, _⟩ | ⟨ad, len, cap, elems, rest, n, _, h0, hx, _, hl, hm, hlen, hel, _, _⟩
  · simp at h0
    obtain ⟨rfl, rfl, rfl⟩ := h0
    exact ⟨[], ⟨rfl, fun h => absurd h (by omega), by simp⟩, fun _ => rfl, Nat.le_refl _⟩
  · simp at h0
    obtain ⟨rfl, rfl, rfl⟩ := h0
    have c32 : Tryd.prog.cellsOf 60 = 32 := by kernel_rfl
    have each : ∀ i, i < k → ∃ h : List Int, h.length = 32 ∧ (∀ x ∈ h, 0 ≤ x ∧ x ≤ 255) ∧ ∀ j, j < 32 → W.cell? ((ad.add (i * 32)).add j) = some (.int .u8 (h.getD j 0)) := fun i hi => by
      have h := hel i hi
      rw [List.getElem?_eq_getElem (by omega), c32, Option.bind_eq_some_iff] at h
      obtain ⟨cs, hcs, ht⟩ := h
      obtain ⟨f, h1, h2, rfl⟩ := open_hash ht
      have hs := (World.cells?_some hcs).2.2
      refine ⟨f, h1, h2, fun j hj => ?_⟩
      have s := hs j hj
      rw [s]
      exact CELLS_get f j (by omega)
    have F : ∃ f : Nat → List Int, ∀ i, i < k → (f i).length = 32 ∧ (∀ x ∈ f i, 0 ≤ x ∧ x ≤ 255) ∧ ∀ j, j < 32 → W.cell? ((ad.add (i * 32)).add j) = some (.int .u8 ((f i).getD j 0)) := by
      refine ⟨fun i => if hi : i < k then (each i hi).choose else [], fun i hi => ?_⟩
      simp only [hi, dif_pos]
      exact (each i hi).choose_spec
    obtain ⟨f, hf2⟩ := F
    have hrange : ∀ i, i < k → ∀ j, j < 32 → 0 ≤ (f i).getD j 0 ∧ (f i).getD j 0 ≤ 255 := fun i hi j hj => by
      rw [List.getD_eq_getElem?_getD, List.getElem?_eq_getElem (by rw [(hf2 i hi).1]; exact hj)]
      exact (hf2 i hi).2.1 _ (List.getElem_mem _)
    refine ⟨(List.range (32 * k)).map fun m => (f (m / 32)).getD (m % 32) 0, ⟨by simp, fun h0k => ?_, fun x hx => ?_⟩, (fun e => by cases e), by omega⟩
    · obtain ⟨b, off, spot⟩ := ad
      have hc := (hf2 0 h0k).2.2 0 (by decide)
      have hspot : spot = none := by simpa [Addr.add] using World.cell?_spot hc
      subst hspot
      refine ⟨b, off, rfl, ?_, fun m hm => ?_⟩
      · have := World.block_lt_of_cell? W _ hc
        simpa [Addr.add] using this
      · have h1 := (hf2 (m / 32) (by omega)).2.2 (m % 32) (by omega)
        rw [addr_add, addr_add] at h1
        rw [List.getD_eq_getElem?_getD, List.getElem?_map, List.getElem?_range hm]
        simp only [Option.map_some, Option.getD_some]
        rw [← h1]
        congr 2
        omega
    · simp only [List.mem_map, List.mem_range] at hx
      obtain ⟨m, hm, rfl⟩ := hx
      exact hrange _ (by omega) _ (by omega)
/-- a list of bytes that came in. -/
theorem open_text {H : Type} {enc : TypeId × Value → H} {W : World} {a : Option Addr} {len cap : Nat} {d : DataW H} {ps : List MemPlace} (hd : DataW.Trod enc Tryd.prog W 0 (fun _ => true) true 38 (.slice a len cap) d ps) :
    ∃ l : List Int, Bytes W a len l ∧ (a = none → cap = 0) ∧ len ≤ cap := by
  obtain ⟨fuel, hf⟩ := hd
  rcases open_ints Tryd.underlying38 Tryd.underlying5 (by kernel_rfl) hf with ⟨hcs, _⟩ | ⟨x, l, c, zs, hcs, _, hl, hm, hz, hx, hcell, hwz⟩
  · simp [Value.cells] at hcs
    obtain ⟨rfl, rfl, rfl⟩ := hcs
    exact ⟨[], ⟨rfl, fun h => by omega, by simp⟩, fun _ => rfl, Nat.le_refl _⟩
  · simp [Value.cells] at hcs
    obtain ⟨rfl, rfl, rfl⟩ := hcs
    have hr : IsRow .u8 W (some x) len cap zs := .inr ⟨_, rfl, hl, hm, by simpa using hz, hcell, hwz⟩
    exact ⟨_, hr.bytes, (fun e => by cases e), hl⟩
end Go.Proofs.YtmkgldjocigffaaDoor

/- What the card's row gives the walks of layer 20: a proof of a span that came in. -/
namespace Go.Proofs.YtmkgldjocigffaaDoor
open Go.ChangeShapes Go.WideShapes Go.ChangeAt Go.WideMaps Go.WideElems Go.RowKit Go.Deep
set_option maxRecDepth 100000

theorem under_reach : ∃ f0 f1 f2 f3 : Field, Tryd.prog.underlying 37 = some (.struct #[f0, f1, f2, f3]) ∧ (f0.type = 22 ∧ f0.offset = 0) ∧ (f1.type = 22 ∧ f1.offset = 1) ∧ (f2.type = 22 ∧ f2.offset = 2) ∧ f3.type = 35 ∧ f3.offset = 3 := ⟨_, _, _, _, Tryd.underlying37, ⟨rfl, rfl⟩, ⟨rfl, rfl⟩, ⟨rfl, rfl⟩, rfl, rfl⟩
theorem cells_reach : Tryd.prog.cellsOf 37 = 4 := by kernel_rfl
theorem open_reach {H : Type} {enc : TypeId × Value → H} {W : World} {r : Reach} {b0 : Nat} {v : Value} {d : DataW H} {ps : List MemPlace}
    (hval : Value.okWide Tryd.prog W r b0 37 v) (hd : DataW.Trod enc Tryd.prog W 0 (fun _ => true) true 37 v d ps) : ∃ (S F T : Nat) (x : Option Addr) (m cx : Nat) (l : List Int), S < 2 ^ 64 ∧ F < 2 ^ 64 ∧ T < 2 ^ 64 ∧ v = .agg #[.int .u64 (S : Int), .int .u64 (F : Int), .int .u64 (T : Int), .slice x m cx] ∧ (x = none → cx = 0) ∧ Flat W x m l ∧ m ≤ cx := by
  obtain ⟨f0, f1, f2, f3, hu, ⟨t0, o0⟩, ⟨t1, o1⟩, ⟨t2, o2⟩, t3, o3⟩ := under_reach
  simp only [Value.okWide, hu] at hval
  obtain ⟨cs, rfl, hsz, _⟩ := hval
  obtain ⟨fuel, hf⟩ := hd
  obtain ⟨y0, y1, y2, y3, m, _, hl, h0, h1, h2, h3⟩ := Go.Joins.trod_struct4 hu hf
  rw [cells_reach] at hsz
  obtain ⟨x, y, z, u, rfl⟩ : ∃ x y z u, cs = #[x, y, z, u] := by
    obtain ⟨l⟩ := cs
    match l, hsz with
    | [x, y, z, u], _ => exact ⟨x, y, z, u, rfl⟩
  have c1 : Tryd.prog.cellsOf 22 = 1 := by kernel_rfl
  have c2 : Tryd.prog.cellsOf 35 = 1 := by kernel_rfl
  rw [t0, o0, c1] at h0
  rw [t1, o1, c1] at h1
  rw [t2, o2, c1] at h2
  rw [t3, o3, c2] at h3
  simp [Value.cells] at h0 h1 h2 h3
  obtain ⟨a, e1, _, e3⟩ := DataW.trod_int Tryd.underlying22 h0
  obtain ⟨b, g1, _, g3⟩ := DataW.trod_int Tryd.underlying22 h1
  obtain ⟨c, i1, _, i3⟩ := DataW.trod_int Tryd.underlying22 h2
  have ha := wf_u64 e3
  have hb := wf_u64 g3
  have hc := wf_u64 i3
  simp at e1 g1 i1
  subst e1 g1 i1
  obtain ⟨ad, k, cc, rfl⟩ : ∃ ad k c, u = .slice ad k c := by
    rcases DataW.trod_slice Tryd.underlying35 h3 with ⟨h0, _⟩ | ⟨ad, len, cap, elems, rest, n, _, h0, _⟩
    · simp at h0
      exact ⟨_, _, _, h0⟩
    · simp at h0
      exact ⟨_, _, _, h0⟩
  obtain ⟨l, q1, q2, q3⟩ := open_flat h3
  refine ⟨a.toNat, b.toNat, c.toNat, ad, k, cc, l, by omega, by omega, by omega, ?_, q2, q1, q3⟩
  rw [Int.toNat_of_nonneg (by omega), Int.toNat_of_nonneg (by omega), Int.toNat_of_nonneg (by omega)]
end Go.Proofs.YtmkgldjocigffaaDoor
