/- Texts of SpanBytes, one behind the other: SpanBytesWalk. -/
import Derived.Test.YtmkgldjocigffaaDoorSpanBytesP20
/- The law SpanBytes returns true. -/
namespace Go.Proofs.YtmkgldjocigffaaDoor
open Go.RowKit
set_option maxRecDepth 100000

theorem sbytes_long (S F T : Nat) (x : Option Addr) (m cx : Nat) (y : Option Addr) (k cy : Nat) (w : World) (h : (200 : Int) < (m : Int) ∨ (6400 : Int) < (k : Int)) :
    Calls Tryd.prog 5 #[.agg #[.int .u64 (S : Int), .int .u64 (F : Int), .int .u64 (T : Int), .slice x m cx], .slice y k cy] w fun e w' => e = .returned (.bool true) ∧ Below w.heap.size w w' := by
  have FN : Aside (Below w.heap.size w (w.alloc (.cells #[.int .u64 (S : Int), .int .u64 (F : Int), .int .u64 (T : Int), .slice x m cx] 37))) := (Below.refl _ _).alloc (Nat.le_refl _) _
  by_cases h2 : (200 : Int) < (m : Int)
  · clear h
    go_enter Tryd.func5, Tryd.ntmps5
    go_wp2_with fail
    go_ret
    exact ⟨rfl, FN.out⟩
  · have h3 : (6400 : Int) < (k : Int) := by omega
    clear h
    go_enter Tryd.func5, Tryd.ntmps5
    go_wp2_with fail
    go_ret
    exact ⟨rfl, FN.out⟩
theorem SENC_range {S F T K : Nat} {l : List Int} (hl : ∀ x ∈ l, 0 ≤ x ∧ x ≤ 255) (hk : l.length ≤ 6400) : (∀ x ∈ (SENC S F T K l).2, 0 ≤ x ∧ x ≤ 255) ∧ (SENC S F T K l).2.length ≤ 90000 := by
  unfold SENC
  by_cases h : SWA S F T K = 0
  · rw [if_pos h]
    have q := SWA_ok h
    exact ⟨SWRT_range (by omega) (by omega) (by omega) hl, by have := SWRT_length S F (T - F) l; show (SWRT S F (T - F) l).length ≤ 90000; omega⟩
  · rw [if_neg h]
    exact ⟨(fun x h => by cases h), Nat.zero_le _⟩
theorem SDEC_list {l : List Int} (hr : ∀ x ∈ l, 0 ≤ x ∧ x ≤ 255) : (∀ x ∈ (SDEC l).2.2.2.2.2, 0 ≤ x ∧ x ≤ 255) ∧ (SDEC l).2.2.2.2.2.length = 32 * (SDEC l).2.2.2.2.1 ∧ (SDEC l).2.2.2.2.1 ≤ 188 := by
  rcases SDEC_cases hr with ⟨E, _, e⟩ | ⟨S, F, T, K, t, e, h1, h2, h3⟩
  · rw [e]
    exact ⟨(fun x h => by cases h), rfl, Nat.zero_le _⟩
  · rw [e]
    have q := SWA_ok h1
    exact ⟨fun x hx => hr x (by rw [h3]; unfold SWRT; simp [show x ∈ t from hx]), h2, by show K ≤ 188; rw [q.2.2.2]; exact SPP_few q.1 q.2.2.1⟩
set_option maxHeartbeats 32000000 in
theorem sbytes_core (S F T : Nat) (x : Option Addr) (m cx : Nat) (l : List Int) (y : Option Addr) (k cy : Nat) (l2 : List Int) (w : World) (hm : m ≤ 200) (hcx : x = none → cx = 0) (hF : Flat w x m l) (hB : Bytes w y k l2) (hk : k ≤ 6400) (hcy : y = none → cy = 0) (hky : k ≤ cy) (hT : Tabled w) (h0 : 0 < w.heap.size) :
    Calls Tryd.prog 5 #[.agg #[.int .u64 (S : Int), .int .u64 (F : Int), .int .u64 (T : Int), .slice x m cx], .slice y k cy] w fun e w' => e = .returned (.bool true) ∧ Below w.heap.size w w' := by
  have tab : Aside (∀ W, Below w.heap.size w W → Tabled W ∧ 0 < W.heap.size) := fun W hb => ⟨hT.below h0 hb, by have := hb.size; omega⟩
  obtain ⟨w1, e1⟩ : ∃ w1, w.alloc (.cells #[.int .u64 (S : Int), .int .u64 (F : Int), .int .u64 (T : Int), .slice x m cx] 37) = w1 := ⟨_, rfl⟩
  have hb1 : Below w.heap.size w w1 := by rw [← e1]; exact (Below.refl _ _).alloc (Nat.le_refl _) _
  have hs1 : Has w1 w.heap.size #[.int .u64 (S : Int), .int .u64 (F : Int), .int .u64 (T : Int), .slice x m cx] 37 := by rw [← e1]; exact Has.new w _ _
  obtain ⟨w2, e2⟩ : ∃ w2, w1.alloc (.cells #[.int .u64 (S : Int), .int .u64 (F : Int), .int .u64 (T : Int), .slice x m cx] 37) = w2 := ⟨_, rfl⟩
  have hb2 : Below w1.heap.size w1 w2 := by rw [← e2]; exact (Below.refl _ _).alloc (Nat.le_refl _) _
  have hs2 : Has w2 w1.heap.size #[.int .u64 (S : Int), .int .u64 (F : Int), .int .u64 (T : Int), .slice x m cx] 37 := by rw [← e2]; exact Has.new w1 _ _
  have hs1' : Has w2 w.heap.size #[.int .u64 (S : Int), .int .u64 (F : Int), .int .u64 (T : Int), .slice x m cx] 37 := hs1.keep hb2
  have bw2 : Below w.heap.size w w2 := hb1.trans (hb2.mono hb1.size)
  have cg := row20_ok x m cx (by omega) hcx l w2 (hF.below bw2)
  have i2 : ¬ (200 : Int) < (m : Int) := by omega
  have i3 : ¬ (6400 : Int) < (k : Int) := by omega
  have hsz : w.heap.size < w1.heap.size := hs1.lt
  have HA : Aside (m ≤ 200 ∧ Flat w x m l ∧ Below w.heap.size w w2 ∧ Has w2 w.heap.size #[.int .u64 (S : Int), .int .u64 (F : Int), .int .u64 (T : Int), .slice x m cx] 37 ∧ Has w2 w1.heap.size #[.int .u64 (S : Int), .int .u64 (F : Int), .int .u64 (T : Int), .slice x m cx] 37 ∧ w.heap.size < w1.heap.size) := ⟨hm, hF, bw2, hs1', hs2, hsz⟩
  have HB : Aside (Bytes w y k l2 ∧ k ≤ 6400 ∧ (y = none → cy = 0) ∧ k ≤ cy) := ⟨hB, hk, hcy, hky⟩
  have hMR := SENC_range (S := S) (F := F) (T := T) (K := m) hF.2.2 (by have := hF.1; omega)
  obtain ⟨M, hM⟩ : ∃ M, SENC S F T m l = M := ⟨_, rfl⟩
  rw [hM] at hMR
  have MR : Aside (SENC S F T m l = M ∧ (∀ x ∈ M.2, 0 ≤ x ∧ x ≤ 255) ∧ M.2.length ≤ 90000) := ⟨hM, hMR⟩
  have x0 := hs1.cell 0
  have x1 := hs1.cell 1
  have x2 := hs1.cell 2
  have x3 := hs1.cell 3
  have infoM : (Tryd.prog.info? 37).map (·.size) = some (#[.int .u64 (S : Int), .int .u64 (F : Int), .int .u64 (T : Int), .slice x m cx] : Array Value).size := info_reach
  have allM : (#[.int .u64 (S : Int), .int .u64 (F : Int), .int .u64 (T : Int), .slice x m cx] : Array Value).all (·.oneCell') = true := by simp [Value.oneCell']
  have MM : Aside ((Tryd.prog.info? 37).map (·.size) = some (#[.int .u64 (S : Int), .int .u64 (F : Int), .int .u64 (T : Int), .slice x m cx] : Array Value).size ∧ (#[.int .u64 (S : Int), .int .u64 (F : Int), .int .u64 (T : Int), .slice x m cx] : Array Value).all (·.oneCell') = true) := ⟨infoM, allM⟩
  have y3 : w2.cell? ⟨w.heap.size, 3, none⟩ = some (.slice x m cx) := hs1'.cell 3
  clear hm hcx hF hB hk hcy hky hT h0 hb1 hs1 hb2 hs2 hs1' bw2 hsz infoM allM hM hMR
  go_enter Tryd.func5, Tryd.ntmps5
  go_wp2_with (first
    | (refine wpList_store_row rfl 37 (.tmp 5) (.tmp 33) rfl _ _ rfl rfl 37 ZREACH (Has.new w1 _ _) MM.out.1 rfl MM.out.2 ?_; rw [World.setRow_alloc_new, e2]))
  refine cg.mono ?_
  rintro e w3 ⟨g3, q3, rfl, o3, r3, mk3, lt3, hb3⟩
  have k3 := HA.out.2.2.2.2.1.keep hb3
  have kk3 := k3.set 3 (.slice (some ⟨g3, 0, none⟩) m q3)
  have z3 : w3.cell? ⟨w1.heap.size, 3, none⟩ = some (.slice x m cx) := k3.cell 3
  have f3 : w3.frozen? ⟨w1.heap.size, 3, none⟩ = false := k3.frozen 3
  have B3 : Aside (Below w.heap.size w (w3.setCell ⟨w1.heap.size, 3, none⟩ (.slice (some ⟨g3, 0, none⟩) m q3)) ∧ Has (w3.setCell ⟨w1.heap.size, 3, none⟩ (.slice (some ⟨g3, 0, none⟩) m q3)) w.heap.size #[.int .u64 (S : Int), .int .u64 (F : Int), .int .u64 (T : Int), .slice x m cx] 37 ∧ Has (w3.setCell ⟨w1.heap.size, 3, none⟩ (.slice (some ⟨g3, 0, none⟩) m q3)) w1.heap.size #[.int .u64 (S : Int), .int .u64 (F : Int), .int .u64 (T : Int), .slice (some ⟨g3, 0, none⟩) m q3] 37 ∧ (w3.setCell ⟨w1.heap.size, 3, none⟩ (.slice (some ⟨g3, 0, none⟩) m q3)).ownsRow w2.heap.size 60 32 (.slice (some ⟨g3, 0, none⟩) m q3) m (CELLS l) ∧ m + 1 ≤ q3 ∧ (w3.setCell ⟨w1.heap.size, 3, none⟩ (.slice (some ⟨g3, 0, none⟩) m q3)).rangeAt g3 (m * 32) (CELLS MRK) ∧ g3 < (w3.setCell ⟨w1.heap.size, 3, none⟩ (.slice (some ⟨g3, 0, none⟩) m q3)).heap.size) := by
    have b := HA.out.2.2.1.trans (hb3.mono HA.out.2.2.1.size)
    have hs := HA.out.2.2.2.2.2
    have hg3 : w2.heap.size ≤ g3 := (o3.lt g3 rfl).1
    have h12 : w1.heap.size < w2.heap.size := HA.out.2.2.2.2.1.lt
    refine ⟨b.setCell (p := ⟨w1.heap.size, 3, none⟩) (Nat.le_of_lt hs) _, (HA.out.2.2.2.1.keep hb3).other (by show w.heap.size ≠ w1.heap.size; omega) _, kk3, ownsRow_setCell_below o3 (a := ⟨w1.heap.size, 3, none⟩) h12 _, r3, fun j v hv => ?_, ?_⟩
    · refine (World.cell?_of_block (w := w3) ?_).trans (mk3 j v hv)
      exact Below.heap_setCell _ _ _ _ (by show g3 ≠ w1.heap.size; omega)
    · rw [World.size_setCell]; exact lt3
  clear cg o3 r3 mk3 lt3 hb3 k3 kk3 e1 e2 x0 x1 x2 x3 y3
  go_upto_region 5 with fail
  generalize w3.setCell ⟨w1.heap.size, 3, none⟩ (.slice (some ⟨g3, 0, none⟩) m q3) = w4 at *
  clear z3 f3
  have x0 : w4.cell? ⟨w.heap.size, 0, none⟩ = some (.int .u64 (S : Int)) := B3.out.2.1.cell 0
  have x1 : w4.cell? ⟨w.heap.size, 1, none⟩ = some (.int .u64 (F : Int)) := B3.out.2.1.cell 1
  have x2 : w4.cell? ⟨w.heap.size, 2, none⟩ = some (.int .u64 (T : Int)) := B3.out.2.1.cell 2
  have x3 : w4.cell? ⟨w.heap.size, 3, none⟩ = some (.slice x m cx) := B3.out.2.1.cell 3
  have cr := srefencode_ok S F T x m cx l w4 HA.out.1 (HA.out.2.1.below B3.out.1)
  rw [MR.out.1] at cr
  unfold ANSB20 RBOX at cr
  obtain ⟨Z, hZ⟩ : ∃ Z, M.2 = Z := ⟨_, rfl⟩
  obtain ⟨E, hE⟩ : ∃ E, M.1 = E := ⟨_, rfl⟩
  obtain ⟨zl, hzl⟩ : ∃ zl, Z.length = zl := ⟨_, rfl⟩
  rw [hZ, hE, hzl] at cr
  have MZ : Aside (M.2 = Z ∧ M.1 = E ∧ Z.length = zl ∧ (∀ x ∈ Z, 0 ≤ x ∧ x ≤ 255) ∧ zl ≤ 90000) := ⟨hZ, hE, hzl, by rw [← hZ]; exact MR.out.2.1, by rw [← hzl, ← hZ]; exact MR.out.2.2⟩
  clear hZ hE hzl
  have EN : Aside (∀ W, Below w4.heap.size w4 W → Calls Tryd.prog 16 #[.agg #[.int .u64 (S : Int), .int .u64 (F : Int), .int .u64 (T : Int), .slice (some ⟨g3, 0, none⟩) m q3]] W fun e w' => ∃ a c, e = .returned (.tuple #[.slice a zl c, .int .i64 E]) ∧ w'.ownsRow W.heap.size 5 1 (.slice a zl c) zl (CELLS Z) ∧ Below W.heap.size W w') := fun W hb => by
    have hbw : Below w.heap.size w W := B3.out.1.trans (hb.mono B3.out.1.size)
    have h := spanencode_ok S F T (some ⟨g3, 0, none⟩) m q3 l W (by have := HA.out.1; omega) (own_flat (own_below B3.out.2.2.2.1 hb) HA.out.2.1.2.2) (tab.out W hbw).1 (tab.out W hbw).2
    rw [MR.out.1] at h
    unfold ANSB20 RBOX at h
    rw [MZ.out.1, MZ.out.2.1, MZ.out.2.2.1] at h
    exact h
  go_wp2_with fail
  refine cr.mono ?_
  rintro e w5 ⟨a5, c5, rfl, o5, hb5⟩
  have W5 : Aside (Below w4.heap.size w4 w5 ∧ w5.ownsRow w4.heap.size 5 1 (.slice a5 zl c5) zl (CELLS Z) ∧ Has w5 w1.heap.size #[.int .u64 (S : Int), .int .u64 (F : Int), .int .u64 (T : Int), .slice (some ⟨g3, 0, none⟩) m q3] 37) := ⟨hb5, o5, B3.out.2.2.1.keep hb5⟩
  clear cr o5 hb5 x0 x1 x2 x3
  have x0 := W5.out.2.2.cell 0
  have x1 := W5.out.2.2.cell 1
  have x2 := W5.out.2.2.cell 2
  have x3 := W5.out.2.2.cell 3
  have ce1 := EN.out w5 W5.out.1
  go_wp2_with fail
  refine ce1.mono ?_
  rintro e w6 ⟨a6, c6, rfl, o6, hb6⟩
  have W6 : Aside (Below w4.heap.size w4 w6 ∧ Below w5.heap.size w5 w6 ∧ w6.ownsRow w5.heap.size 5 1 (.slice a6 zl c6) zl (CELLS Z) ∧ Has w6 w1.heap.size #[.int .u64 (S : Int), .int .u64 (F : Int), .int .u64 (T : Int), .slice (some ⟨g3, 0, none⟩) m q3] 37) := ⟨W5.out.1.trans (hb6.mono W5.out.1.size), hb6, o6, W5.out.2.2.keep hb6⟩
  clear ce1 o6 hb6 x0 x1 x2 x3
  have x0 := W6.out.2.2.2.cell 0
  have x1 := W6.out.2.2.2.cell 1
  have x2 := W6.out.2.2.2.cell 2
  have x3 := W6.out.2.2.2.cell 3
  have ce2 := EN.out w6 W6.out.1
  go_wp2_with fail
  refine ce2.mono ?_
  rintro e w7 ⟨a7, c7, rfl, o7, hb7⟩
  have W7 : Aside (Below w4.heap.size w4 w7 ∧ Below w5.heap.size w5 w7 ∧ w7.ownsRow w5.heap.size 5 1 (.slice a6 zl c6) zl (CELLS Z) ∧ w7.ownsRow w5.heap.size 5 1 (.slice a7 zl c7) zl (CELLS Z) ∧ (∀ g, (Value.slice a6 zl c6).ownBlock = some g → (Value.slice a7 zl c7).ownBlock ≠ some g) ∧ w7.ownsRow w4.heap.size 5 1 (.slice a5 zl c5) zl (CELLS Z)) := ⟨W6.out.1.trans (hb7.mono W6.out.1.size), W6.out.2.1.trans (hb7.mono W6.out.2.1.size), own_below W6.out.2.2.1 hb7, own_mono o7 W6.out.2.1.size, fun g e1 e2 => by have h1 := (W6.out.2.2.1.lt g e1).2; have h2 := (o7.lt g e2).1; omega, own_below (own_below W5.out.2.1 W6.out.2.1) hb7⟩
  clear ce2 o7 hb7 x0 x1 x2 x3 W6 EN
  have SB : Aside (∀ W av cv, Below w7.heap.size w7 W → Bytes W av zl Z → Calls Tryd.prog 17 #[.slice av zl cv, .slice a5 zl c5] W fun e w' => e = .returned (.bool true) ∧ Below W.heap.size W w') := fun W av cv hb h => by
    have h1 := samebytes_ok av a5 zl zl cv c5 Z Z W h (((own_bytes_any W7.out.2.2.2.2.2 MZ.out.2.2.2.1).1).below hb) (by have := MZ.out.2.2.2.2; omega)
    rw [decide_eq_true rfl] at h1
    exact h1
  have cs1 := SB.out w7 a6 c6 (Below.refl _ _) (own_bytes_any W7.out.2.2.1 MZ.out.2.2.2.1).1
  go_wp2_with fail
  refine cs1.mono ?_
  rintro e w8 ⟨rfl, hb8⟩
  have W8 : Aside (Below w7.heap.size w7 w8) := hb8
  clear cs1 hb8
  have cs2 := SB.out w8 a7 c7 W8.out ((own_bytes_any W7.out.2.2.2.1 MZ.out.2.2.2.1).1.below W8.out)
  go_wp2_with fail
  refine cs2.mono ?_
  rintro e w9 ⟨rfl, hb9⟩
  have W9 : Aside (Below w7.heap.size w7 w9 ∧ Below w4.heap.size w4 w9) := by
    have h1 : Below w7.heap.size w7 w9 := W8.out.trans (hb9.mono W8.out.size)
    exact ⟨h1, W7.out.1.trans (h1.mono W7.out.1.size)⟩
  clear cs2 hb9 W8 SB
  have z91 : w9.cell? ⟨w1.heap.size, 3, none⟩ = some (.slice (some ⟨g3, 0, none⟩) m q3) := (B3.out.2.2.1.keep W9.out.2).cell 3
  have z92 : w9.cell? ⟨w.heap.size, 3, none⟩ = some (.slice x m cx) := (B3.out.2.1.keep W9.out.2).cell 3
  have ckp := kept20_ok g3 m q3 x cx l (by have := HA.out.1; omega) B3.out.2.2.2.2.1 w9 (own_flat (own_below B3.out.2.2.2.1 W9.out.2) HA.out.2.1.2.2) (HA.out.2.1.below (B3.out.1.trans (W9.out.2.mono B3.out.1.size))) (Nat.lt_of_lt_of_le B3.out.2.2.2.2.2.2 W9.out.2.size) (range_below B3.out.2.2.2.2.2.1 W9.out.2 B3.out.2.2.2.2.2.2)
  go_wp2_with fail
  refine ckp.mono ?_
  rintro e w10 ⟨rfl, hb10⟩
  have PP : Aside (DPAIR 5 1 w5 w10 w5.heap.size (.slice a6 zl c6) zl (CELLS Z) (.slice a7 zl c7) zl (CELLS Z) ∧ (CELLS Z).length = zl) := by
    have h1 : Below w7.heap.size w7 w10 := W9.out.1.trans (hb10.mono W9.out.1.size)
    refine ⟨⟨own_below W7.out.2.2.1 h1, own_below W7.out.2.2.2.1 h1, W7.out.2.2.2.2.1, W7.out.2.1.trans (h1.mono W7.out.2.1.size), Nat.le_refl _⟩, by rw [CELLS, List.length_map, MZ.out.2.2.1]⟩
  have B5 : Aside (Below w.heap.size w w5) := B3.out.1.trans (W5.out.1.mono B3.out.1.size)
  have HZ : Aside (zl ≤ 90000) := MZ.out.2.2.2.2
  clear ckp hb10 W9 z91 z92 W7 W5 B3 MZ MR HA MM
  go_wp2_with fail
  go_loopg [12] zl (fun q s12 wx => ∃ j : Nat, s12 = .int .i64 (j : Int) ∧ Aside (j + q = zl ∧ DPAIR 5 1 w5 wx w5.heap.size (.slice a6 zl c6) zl (OVER (CELLS Z) (.int .u8 201) j) (.slice a7 zl c7) zl (OVER (CELLS Z) (.int .u8 202) j)))
  case atStart => exact ⟨0, rfl, by omega, by rw [OVER_zero, OVER_zero]; exact PP.out.1⟩
  case round =>
    obtain ⟨j, rfl, A⟩ := hrel
    cases gk with
    | succ q =>
      have hjn : j < zl := by have := A.out.1; omega
      have hlt : (j : Int) < (zl : Int) := by omega
      obtain ⟨ga, rfl⟩ := own_some20 A.out.2.ra (by omega)
      obtain ⟨gb, rfl⟩ := own_some20 A.out.2.rb (by omega)
      obtain ⟨⟨u1, y1⟩, f1, o1, r1⟩ := own_putd (v := .int .u8 201) A.out.2.ra hjn
      have st1 := A.out.2.step o1 r1 (fun _ e => .inl e)
      obtain ⟨⟨u2, y2⟩, f2, o2, r2⟩ := own_putd (v := .int .u8 202) st1.rb hjn
      have st2 := (st1.swap.step o2 r2 (fun _ e => .inl e)).swap
      have ej : wrap64 ((j : Int) + 1) = ((j + 1 : Nat) : Int) := by have := HZ.out; unfold wrap64; omega
      have S1 := OVER_next (u := .int .u8 201) (show j < (CELLS Z).length by have := PP.out.2; omega)
      have S2 := OVER_next (u := .int .u8 202) (show j < (CELLS Z).length by have := PP.out.2; omega)
      rw [S1, S2] at st2
      have ZZ : Aside (j + 1 + q = zl ∧ DPAIR 5 1 w5 ((wr.setCell ⟨ga, j, none⟩ (.int .u8 201)).setCell ⟨gb, j, none⟩ (.int .u8 202)) w5.heap.size (.slice (some ⟨ga, 0, none⟩) zl c6) zl (OVER (CELLS Z) (.int .u8 201) (j + 1)) (.slice (some ⟨gb, 0, none⟩) zl c7) zl (OVER (CELLS Z) (.int .u8 202) (j + 1))) := ⟨by have := A.out.1; clear ej; omega, st2⟩
      clear A o1 r1 st1 o2 r2 st2 S1 S2 hjn
      go_wp2_with fail
      go_roundg q
      case measure => exact Nat.lt_succ_self _
      case rel => exact ⟨j + 1, by first | rfl | (rw [ej]), ZZ.out⟩
    | zero =>
      obtain rfl : j = zl := by have := A.out.1; omega
      have hlt : ¬ (j : Int) < (j : Int) := by omega
      have P1 : Aside (DPAIR 5 1 w5 wr w5.heap.size (.slice a6 j c6) j (OVER (CELLS Z) (.int .u8 201) j) (.slice a7 j c7) j (OVER (CELLS Z) (.int .u8 202) j)) := A.out.2
      clear A
      go_wp2_with (first
        | (at_builtin; refine app_byted _ rfl (.tmp 93) (.tmp 94) rfl w5.heap.size (.slice a6 j c6) j _ rfl (P1.out.alloc _).ra wr.heap.size 1 201 rfl ((Has.new _ _ _).cell 0) (by have := HZ.out; omega) (by have := P1.out.bl.size; simp; omega) ?_; intro g11 c11 w11 ho11 hg11 hat11 hl11
           have P2 : Aside (DPAIR 5 1 w5 w11 w5.heap.size (.slice (some ⟨g11, 0, none⟩) (j + 1) c11) (j + 1) (List.replicate (j + 1) (.int .u8 201)) (.slice a7 j c7) j (OVER (CELLS Z) (.int .u8 202) j)) := by
             have h1 := (P1.out.alloc (.cells #[.int .u8 201] 5)).step ho11 hg11 (fun g e => by have e : g11 = g := (by simpa [Value.ownBlock] using e); subst e; exact hat11.imp id (fun e => Nat.le_of_eq e.symm))
             rw [OVER_growd PP.out.2] at h1
             exact h1
           clear ho11 hg11 hat11 hl11 P1)
        | (at_builtin; refine app_byted _ rfl (.tmp 96) (.tmp 97) rfl w5.heap.size (.slice a7 j c7) j _ rfl (P2.out.alloc _).rb w11.heap.size 1 202 rfl ((Has.new _ _ _).cell 0) (by have := HZ.out; omega) (by have := P2.out.bl.size; simp; omega) ?_; intro g12 c12 w12 ho12 hg12 hat12 hl12
           have P3 : Aside (DPAIR 5 1 w5 w12 w5.heap.size (.slice (some ⟨g11, 0, none⟩) (j + 1) c11) (j + 1) (List.replicate (j + 1) (.int .u8 201)) (.slice (some ⟨g12, 0, none⟩) (j + 1) c12) (j + 1) (List.replicate (j + 1) (.int .u8 202))) := by
             have h1 := ((P2.out.alloc (.cells #[.int .u8 202] 5)).swap.step ho12 hg12 (fun g e => by have e : g12 = g := (by simpa [Value.ownBlock] using e); subst e; exact hat12.imp id (fun e => Nat.le_of_eq e.symm))).swap
             rw [OVER_growd PP.out.2] at h1
             exact h1
           clear ho12 hg12 hat12 hl12 P2))
      go_loopg [13] (j + 1) (fun q s13 wx => ∃ t : Nat, s13 = .int .i64 (t : Int) ∧ Aside (t + q = j + 1) ∧ wx = w12)
      case atStart => exact ⟨0, rfl, by show 0 + (j + 1) = j + 1; omega, rfl⟩
      case round =>
        obtain ⟨t, rfl, A, rfl⟩ := hrel
        cases gk with
        | succ q =>
          have hlt3 : (t : Int) < (j : Int) + 1 := by have := A.out; omega
          have hltn : t < j + 1 := by have := A.out; omega
          have z1 : wr.cell? ⟨g11, t, none⟩ = some (.int .u8 201) := by
            have := P3.out.ra.cellAt t (by omega)
            rw [this, List.getElem?_replicate, if_pos hltn]
          have z2 : wr.cell? ⟨g12, t, none⟩ = some (.int .u8 202) := by
            have := P3.out.rb.cellAt t (by omega)
            rw [this, List.getElem?_replicate, if_pos hltn]
          have et : wrap64 ((t : Int) + 1) = ((t + 1 : Nat) : Int) := by have := HZ.out; unfold wrap64; omega
          have ZZ : Aside (t + 1 + q = j + 1) := by have := A.out; show t + 1 + q = j + 1; clear et; omega
          clear A hltn
          go_wp2_with fail
          go_roundg q
          case measure => exact Nat.lt_succ_self _
          case rel => exact ⟨t + 1, by first | rfl | (rw [et]), ZZ.out, rfl⟩
        | zero =>
          have ht : (t : Int) = (j : Int) + 1 := by have := A.out; omega
          have hlt3 : ¬ (t : Int) < (j : Int) + 1 := by omega
          have hlt4 : ¬ t < j + 1 := by omega
          have WB : Aside (Below w.heap.size w wr) := B5.out.trans (P3.out.bl.mono B5.out.size)
          clear A ht PP HZ P3 B5
          obtain ⟨wv, hwv⟩ : ∃ wv, wv = wr := ⟨_, rfl⟩
          rw [← hwv] at WB ⊢
          clear hwv
          obtain ⟨A, hA⟩ : ∃ A, SDEC l2 = A := ⟨_, rfl⟩
          obtain ⟨d1, d2, d3⟩ := SDEC_list HB.out.1.2.2
          rw [hA] at d1 d2 d3
          obtain ⟨K, hK⟩ : ∃ K, A.2.2.2.2.1 = K := ⟨_, rfl⟩
          obtain ⟨E2, hE2⟩ : ∃ E2, A.1 = E2 := ⟨_, rfl⟩
          obtain ⟨SZ, hSZ⟩ : ∃ SZ, A.2.1 = SZ := ⟨_, rfl⟩
          obtain ⟨FZ, hFZ⟩ : ∃ FZ, A.2.2.1 = FZ := ⟨_, rfl⟩
          obtain ⟨TZ, hTZ⟩ : ∃ TZ, A.2.2.2.1 = TZ := ⟨_, rfl⟩
          obtain ⟨LL, hLL⟩ : ∃ LL, A.2.2.2.2.2 = LL := ⟨_, rfl⟩
          rw [hLL] at d1 d2
          rw [hK] at d2 d3
          have DD : Aside ((∀ x ∈ LL, 0 ≤ x ∧ x ≤ 255) ∧ LL.length = 32 * K ∧ K ≤ 188) := ⟨d1, d2, d3⟩
          clear d1 d2 d3
          have ct := text20_ok y k cy (by have := HB.out.2.1; omega) HB.out.2.2.1 l2 wv (HB.out.1.below WB.out)
          go_wp2_with fail
          refine ct.mono ?_
          rintro e w20 ⟨gc, qc, rfl, o20, r20, mk20, lt20, hb20⟩
          have W20 : Aside (Below w.heap.size w w20 ∧ w20.ownsRow wv.heap.size 5 1 (.slice (some ⟨gc, 0, none⟩) k qc) k (CELLS l2) ∧ k + 1 ≤ qc ∧ w20.cell? ⟨gc, k, none⟩ = some (.int .u8 171) ∧ gc < w20.heap.size ∧ wv.heap.size ≤ gc) := ⟨WB.out.trans (hb20.mono WB.out.size), o20, r20, mk20, lt20, (o20.lt gc rfl).1⟩
          have WR : Aside (w.heap.size ≤ wv.heap.size) := WB.out.size
          clear ct o20 r20 mk20 lt20 hb20 WB
          have cq := srefdecode_ok y k cy l2 w20 (HB.out.1.below W20.out.1) HB.out.2.2.2 (by have := HB.out.2.1; omega)
          rw [hA] at cq
          unfold DECS at cq
          rw [hK, hE2, hSZ, hFZ, hTZ, hLL] at cq
          have DC : Aside (∀ W, Below w20.heap.size w20 W → Calls Tryd.prog 21 #[.slice (some ⟨gc, 0, none⟩) k qc] W fun e w' => ∃ a c, e = .returned (.tuple #[.agg #[.int .u64 (SZ : Int), .int .u64 (FZ : Int), .int .u64 (TZ : Int), .slice a K c], .int .i64 E2]) ∧ w'.ownsRow W.heap.size 60 32 (.slice a K c) K (CELLS LL) ∧ Below W.heap.size W w') := fun W hb => by
            have hbw : Below w.heap.size w W := W20.out.1.trans (hb.mono W20.out.1.size)
            have h := spandecode_ok (some ⟨gc, 0, none⟩) k qc l2 W ((own_bytes W20.out.2.1 W20.out.2.2.2.2.1 HB.out.1.2.2).below hb) (by have := W20.out.2.2.1; omega) (by have := HB.out.2.1; omega) (tab.out W hbw).1 (tab.out W hbw).2
            rw [hA] at h
            unfold DECS at h
            rw [hK, hE2, hSZ, hFZ, hTZ, hLL] at h
            exact h
          clear hA hK hE2 hSZ hFZ hTZ hLL
          go_wp2_with fail
          refine cq.mono ?_
          rintro e w21 ⟨aq, kq, rfl, oq, hb21⟩
          clear cq
          go_upto_region 22 with fail
          obtain ⟨w22, e22⟩ : ∃ w22, w21.alloc (.cells #[.int .u64 (SZ : Int), .int .u64 (FZ : Int), .int .u64 (TZ : Int), .slice aq K kq] 37) = w22 := ⟨_, rfl⟩
          rw [e22]
          have hb22 : Below w21.heap.size w21 w22 := by rw [← e22]; exact (Below.refl _ _).alloc (Nat.le_refl _) _
          have W22 : Aside (Below w20.heap.size w20 w22 ∧ Has w22 w21.heap.size #[.int .u64 (SZ : Int), .int .u64 (FZ : Int), .int .u64 (TZ : Int), .slice aq K kq] 37 ∧ w20.heap.size ≤ w21.heap.size ∧ w22.ownsRow w20.heap.size 60 32 (.slice aq K kq) K (CELLS LL)) := ⟨hb21.trans (hb22.mono hb21.size), by rw [← e22]; exact Has.new w21 _ _, hb21.size, own_below oq hb22⟩
          clear oq hb21 hb22 e22
          have cd1 := DC.out w22 W22.out.1
          go_wp2_with fail
          refine cd1.mono ?_
          rintro e w23 ⟨ar, kr, rfl, or1, hb23⟩
          clear cd1
          go_upto_region 23 with fail
          obtain ⟨w24, e24⟩ : ∃ w24, w23.alloc (.cells #[.int .u64 (SZ : Int), .int .u64 (FZ : Int), .int .u64 (TZ : Int), .slice ar K kr] 37) = w24 := ⟨_, rfl⟩
          rw [e24]
          have hb24 : Below w23.heap.size w23 w24 := by rw [← e24]; exact (Below.refl _ _).alloc (Nat.le_refl _) _
          have b224 : Below w22.heap.size w22 w24 := hb23.trans (hb24.mono hb23.size)
          have W24 : Aside (Below w22.heap.size w22 w24 ∧ w24.ownsRow w22.heap.size 60 32 (.slice ar K kr) K (CELLS LL) ∧ Has w24 w23.heap.size #[.int .u64 (SZ : Int), .int .u64 (FZ : Int), .int .u64 (TZ : Int), .slice ar K kr] 37 ∧ w22.heap.size ≤ w23.heap.size) := ⟨b224, own_below or1 hb24, by rw [← e24]; exact Has.new w23 _ _, hb23.size⟩
          clear or1 hb23 hb24 e24 b224
          have b204 : Below w20.heap.size w20 w24 := W22.out.1.trans (W24.out.1.mono W22.out.1.size)
          have cd2 := DC.out w24 b204
          go_wp2_with fail
          refine cd2.mono ?_
          rintro e w25 ⟨az, ks, rfl, os1, hb25⟩
          clear cd2 DC
          go_upto_region 24 with fail
          obtain ⟨w26, e26⟩ : ∃ w26, w25.alloc (.cells #[.int .u64 (SZ : Int), .int .u64 (FZ : Int), .int .u64 (TZ : Int), .slice az K ks] 37) = w26 := ⟨_, rfl⟩
          rw [e26]
          have hb26 : Below w25.heap.size w25 w26 := by rw [← e26]; exact (Below.refl _ _).alloc (Nat.le_refl _) _
          have b246 : Below w24.heap.size w24 w26 := hb25.trans (hb26.mono hb25.size)
          have sz24 := W24.out.1.size
          have W26 : Aside (Below w22.heap.size w22 w26 ∧ w26.ownsRow w22.heap.size 60 32 (.slice ar K kr) K (CELLS LL) ∧ w26.ownsRow w22.heap.size 60 32 (.slice az K ks) K (CELLS LL) ∧ Has w26 w23.heap.size #[.int .u64 (SZ : Int), .int .u64 (FZ : Int), .int .u64 (TZ : Int), .slice ar K kr] 37 ∧ Has w26 w25.heap.size #[.int .u64 (SZ : Int), .int .u64 (FZ : Int), .int .u64 (TZ : Int), .slice az K ks] 37 ∧ (∀ g, (Value.slice ar K kr).ownBlock = some g → (Value.slice az K ks).ownBlock ≠ some g) ∧ w22.heap.size ≤ w25.heap.size ∧ w22.heap.size ≤ w23.heap.size ∧ (∀ g, (Value.slice ar K kr).ownBlock = some g → g ≠ w23.heap.size ∧ g ≠ w25.heap.size) ∧ (∀ g, (Value.slice az K ks).ownBlock = some g → g ≠ w23.heap.size ∧ g ≠ w25.heap.size)) := by
            have l1 := W24.out.2.2.1.lt
            refine ⟨W24.out.1.trans (b246.mono sz24), own_below W24.out.2.1 b246, own_mono (own_below os1 hb26) sz24, W24.out.2.2.1.keep b246, by rw [← e26]; exact Has.new w25 _ _, fun g e1 e2 => ?_, Nat.le_trans sz24 hb25.size, W24.out.2.2.2, fun g e1 => ?_, fun g e1 => ?_⟩
            · have h1 := (W24.out.2.1.lt g e1).2
              have h2 := (os1.lt g e2).1
              omega
            · rcases W24.out.2.1.2 with ⟨e, _⟩ | ⟨g1, _, _, e, _, hg, _⟩
              · rw [e] at e1; simp [Value.ownBlock] at e1
              · rw [e] at e1
                have e1 : g1 = g := by simpa [Value.ownBlock] using e1
                subst e1
                have hlt : g1 < w24.heap.size := (Array.getElem?_eq_some_iff.1 hg).1
                refine ⟨fun h => ?_, by have := hb25.size; omega⟩
                have hh := W24.out.2.2.1
                unfold Has at hh
                rw [h, hh] at hg
                simp at hg
            · have h1 := os1.lt g e1
              refine ⟨by omega, ?_⟩
              omega
          clear os1 hb25 hb26 e26 b246 b204 sz24 W24
          have Q26 : Aside (∀ W, Below w26.heap.size w26 W → (W.cell? ⟨w21.heap.size, 0, none⟩ = some (.int .u64 (SZ : Int)) ∧ W.cell? ⟨w21.heap.size, 1, none⟩ = some (.int .u64 (FZ : Int)) ∧ W.cell? ⟨w21.heap.size, 2, none⟩ = some (.int .u64 (TZ : Int)) ∧ W.cell? ⟨w21.heap.size, 3, none⟩ = some (.slice aq K kq)) ∧ (W.cell? ⟨w23.heap.size, 0, none⟩ = some (.int .u64 (SZ : Int)) ∧ W.cell? ⟨w23.heap.size, 1, none⟩ = some (.int .u64 (FZ : Int)) ∧ W.cell? ⟨w23.heap.size, 2, none⟩ = some (.int .u64 (TZ : Int)) ∧ W.cell? ⟨w23.heap.size, 3, none⟩ = some (.slice ar K kr)) ∧ (W.cell? ⟨w25.heap.size, 0, none⟩ = some (.int .u64 (SZ : Int)) ∧ W.cell? ⟨w25.heap.size, 1, none⟩ = some (.int .u64 (FZ : Int)) ∧ W.cell? ⟨w25.heap.size, 2, none⟩ = some (.int .u64 (TZ : Int)) ∧ W.cell? ⟨w25.heap.size, 3, none⟩ = some (.slice az K ks))) := fun W hb => by
            have b := W26.out.1.trans (hb.mono W26.out.1.size)
            have hq := W22.out.2.1.keep b
            have hr := W26.out.2.2.2.1.keep hb
            have hs := W26.out.2.2.2.2.1.keep hb
            exact ⟨⟨hq.cell 0, hq.cell 1, hq.cell 2, hq.cell 3⟩, ⟨hr.cell 0, hr.cell 1, hr.cell 2, hr.cell 3⟩, ⟨hs.cell 0, hs.cell 1, hs.cell 2, hs.cell 3⟩⟩
          have SA : Aside (∀ W av cv, Below w22.heap.size w22 W → Flat W av K LL → Calls Tryd.prog 22 #[.agg #[.int .u64 (SZ : Int), .int .u64 (FZ : Int), .int .u64 (TZ : Int), .slice av K cv], .agg #[.int .u64 (SZ : Int), .int .u64 (FZ : Int), .int .u64 (TZ : Int), .slice aq K kq]] W fun e w' => e = .returned (.bool true) ∧ Below W.heap.size W w') := fun W av cv hb h2 => same20_ok SZ FZ TZ av aq K K cv kq LL W h2 (own_flat (own_below W22.out.2.2.2 hb) DD.out.1) (by have := DD.out.2.2; omega)
          obtain ⟨⟨p0, p1, p2, p3⟩, ⟨p4, p5, p6, p7⟩, _⟩ := Q26.out w26 (Below.refl _ _)
          have cs1 := SA.out w26 ar kr W26.out.1 (own_flat W26.out.2.1 DD.out.1)
          go_wp2_with fail
          refine cs1.mono ?_
          rintro e w27 ⟨rfl, hb27⟩
          have B27 : Aside (Below w26.heap.size w26 w27) := hb27
          clear cs1 hb27 p0 p1 p2 p3 p4 p5 p6 p7
          obtain ⟨⟨p0, p1, p2, p3⟩, _, ⟨p4, p5, p6, p7⟩⟩ := Q26.out w27 B27.out
          have cs2 := SA.out w27 az ks (W26.out.1.trans (B27.out.mono W26.out.1.size)) (own_flat (own_below W26.out.2.2.1 B27.out) DD.out.1)
          go_wp2_with fail
          refine cs2.mono ?_
          rintro e w28 ⟨rfl, hb28⟩
          have B28 : Aside (Below w26.heap.size w26 w28 ∧ Below w20.heap.size w20 w28) := by
            have h1 : Below w26.heap.size w26 w28 := B27.out.trans (hb28.mono B27.out.size)
            have h2 : Below w22.heap.size w22 w28 := W26.out.1.trans (h1.mono W26.out.1.size)
            exact ⟨h1, W22.out.1.trans (h2.mono W22.out.1.size)⟩
          clear cs2 hb28 B27 p0 p1 p2 p3 p4 p5 p6 p7
          have csl := still20_ok gc k qc y cy l2 (by have := HB.out.2.1; omega) W20.out.2.2.1 w28 ((own_bytes W20.out.2.1 W20.out.2.2.2.2.1 HB.out.1.2.2).below B28.out.2) (HB.out.1.below (W20.out.1.trans (B28.out.2.mono W20.out.1.size))) (Nat.lt_of_lt_of_le W20.out.2.2.2.2.1 B28.out.2.size) ((B28.out.2.cell (p := ⟨gc, k, none⟩) W20.out.2.2.2.2.1).trans W20.out.2.2.2.1)
          go_wp2_with fail
          refine csl.mono ?_
          rintro e w29 ⟨rfl, hb29⟩
          have B29 : Aside (Below w26.heap.size w26 w29 ∧ Below w20.heap.size w20 w29) := ⟨B28.out.1.trans (hb29.mono B28.out.1.size), B28.out.2.trans (hb29.mono B28.out.2.size)⟩
          clear csl hb29 B28
          go_wp2_with fail
          go_loopg [21] k (fun q s21 wx => ∃ t : Nat, s21 = .int .i64 (t : Int) ∧ Aside (t + q = k ∧ wx.ownsRow wv.heap.size 5 1 (.slice (some ⟨gc, 0, none⟩) k qc) k (INCS l2 t) ∧ w29.grownBy wx (some gc)))
          case atStart => exact ⟨0, rfl, by omega, by rw [INCS_zero]; exact own_below W20.out.2.1 B29.out.2, grown_refl _ _⟩
          case round =>
            obtain ⟨t, rfl, AA⟩ := hrel
            cases gk with
            | succ q =>
              have htk : t < k := by have := AA.out.1; omega
              have hltk : (t : Int) < (k : Int) := by omega
              obtain ⟨xb, exb⟩ : ∃ xb, l2[t]? = some xb := ⟨_, List.getElem?_eq_getElem (by have := HB.out.1.1; omega)⟩
              obtain ⟨n1, n2⟩ := INCS_at exb
              have hxb := HB.out.1.2.2 xb (List.mem_of_getElem? exb)
              have v0 := AA.out.2.1.cellAt t (by omega)
              rw [n1] at v0
              have v1 := AA.out.2.1.frozenAt t
              have ex1 : IntKind.u8.wrap (xb + 1) = (xb + 1) % 256 := rfl
              have et : wrap64 ((t : Int) + 1) = ((t + 1 : Nat) : Int) := by have := HB.out.2.1; unfold wrap64; omega
              obtain ⟨o1, r1⟩ := AA.out.2.1.stored t (.int .u8 ((xb + 1) % 256))
              rw [n2] at o1
              have ZZ : Aside (t + 1 + q = k ∧ (wr.setCell ⟨gc, t, none⟩ (.int .u8 ((xb + 1) % 256))).ownsRow wv.heap.size 5 1 (.slice (some ⟨gc, 0, none⟩) k qc) k (INCS l2 (t + 1)) ∧ w29.grownBy (wr.setCell ⟨gc, t, none⟩ (.int .u8 ((xb + 1) % 256))) (some gc)) := ⟨by have := AA.out.1; clear et; omega, o1, grown_trans AA.out.2.2 r1 (.inl rfl)⟩
              clear AA n1 n2 exb hxb o1 r1 htk
              generalize (xb + 1) % 256 = xc at *
              go_wp2_with fail
              go_roundg q
              case measure => exact Nat.lt_succ_self _
              case rel => exact ⟨t + 1, by first | rfl | (rw [et]), ZZ.out⟩
            | zero =>
              obtain rfl : t = k := by have := AA.out.1; omega
              have hltk : ¬ (t : Int) < (t : Int) := by omega
              have KP : Aside (∀ g, g ≠ gc → g < w29.heap.size → wr.heap[g]? = w29.heap[g]?) := fun g hne hlt => AA.out.2.2.block g hlt (fun e => hne (by simpa using e))
              have hgc : gc < w20.heap.size := W20.out.2.2.2.2.1
              have sz29 : w26.heap.size ≤ w29.heap.size := B29.out.1.size
              have sz26 : w22.heap.size ≤ w26.heap.size := W26.out.1.size
              have sz22 : w20.heap.size ≤ w22.heap.size := W22.out.1.size
              have hfull : Below wv.heap.size w29 wr := (Below.refl _ w29).grown AA.out.2.2 (by have := W20.out.2.2.2.2.2; omega) (fun k e => by have e : gc = k := (by simpa using e); have := W20.out.2.2.2.2.2; omega)
              have BW : Aside (Below w.heap.size w wr) := by
                have h1 : Below w.heap.size w w29 := W20.out.1.trans (B29.out.2.mono W20.out.1.size)
                exact h1.trans (hfull.mono WR.out)
              have HH : ∀ {g : Nat} {C : Array Value} {tt : TypeId}, Has w29 g C tt → g ≠ gc → Has wr g C tt := fun h hne => (KP.out _ hne h.lt).trans h
              have hq := HH ((W22.out.2.1.keep W26.out.1).keep B29.out.1) (by have := W22.out.2.2.1; omega)
              have hr := HH (W26.out.2.2.2.1.keep B29.out.1) (by have := W26.out.2.2.2.2.2.2.2.1; omega)
              have hs := HH (W26.out.2.2.2.2.1.keep B29.out.1) (by have := W26.out.2.2.2.2.2.2.1; omega)
              have OH : ∀ {B s n : Nat} {t : TypeId} {v : Value} {xs : List Value}, w29.ownsRow B t s v n xs → gc < B → wr.ownsRow B t s v n xs := fun h hlt => own_hold h fun k e => KP.out k (by have := (h.lt k e).1; omega) (h.lt k e).2
              have oq := OH (own_below (own_below W22.out.2.2.2 W26.out.1) B29.out.1) (by omega)
              have or1 := OH (own_below W26.out.2.1 B29.out.1) (by omega)
              have os1 := OH (own_below W26.out.2.2.1 B29.out.1) (by omega)
              have szr : w22.heap.size ≤ wr.heap.size := by have := AA.out.2.2.size; omega
              have cs := same20_ok SZ FZ TZ ar aq K K kr kq LL wr (own_flat or1 DD.out.1) (own_flat oq DD.out.1) (by have := DD.out.2.2; omega)
              have sz0 : w.heap.size ≤ w22.heap.size := by have := W20.out.1.size; omega
              have PW : Aside (w22.heap.size ≤ wr.heap.size ∧ Has wr w23.heap.size #[.int .u64 (SZ : Int), .int .u64 (FZ : Int), .int .u64 (TZ : Int), .slice ar K kr] 37 ∧ Has wr w25.heap.size #[.int .u64 (SZ : Int), .int .u64 (FZ : Int), .int .u64 (TZ : Int), .slice az K ks] 37 ∧ wr.ownsRow w22.heap.size 60 32 (.slice ar K kr) K (CELLS LL) ∧ wr.ownsRow w22.heap.size 60 32 (.slice az K ks) K (CELLS LL) ∧ (∀ g, (Value.slice ar K kr).ownBlock = some g → (Value.slice az K ks).ownBlock ≠ some g) ∧ (∀ g, (Value.slice ar K kr).ownBlock = some g → g ≠ w23.heap.size ∧ g ≠ w25.heap.size) ∧ (∀ g, (Value.slice az K ks).ownBlock = some g → g ≠ w23.heap.size ∧ g ≠ w25.heap.size) ∧ K ≤ 188 ∧ w.heap.size ≤ w22.heap.size ∧ w22.heap.size ≤ w23.heap.size ∧ w22.heap.size ≤ w25.heap.size) := ⟨szr, hr, hs, or1, os1, W26.out.2.2.2.2.2.1, W26.out.2.2.2.2.2.2.2.2.1, W26.out.2.2.2.2.2.2.2.2.2, DD.out.2.2, sz0, W26.out.2.2.2.2.2.2.2.1, W26.out.2.2.2.2.2.2.1⟩
              have p0 := hq.cell 0
              have p1 := hq.cell 1
              have p2 := hq.cell 2
              have p3 := hq.cell 3
              have p4 := hr.cell 0
              have p5 := hr.cell 1
              have p6 := hr.cell 2
              have p7 := hr.cell 3
              clear AA KP hgc sz29 sz26 sz22 hfull HH hq hr hs OH oq or1 os1 szr sz0 W20 W22 W26 B29 Q26 SA DD
              go_wp2_with fail
              refine cs.mono ?_
              rintro e w30 ⟨rfl, hb30⟩
              have W30 : Aside (Below wr.heap.size wr w30) := hb30
              clear cs hb30 p0 p1 p2 p3 p4 p5 p6 p7
              go_upto_region 32 with fail
              have SZ30 : Aside (w22.heap.size ≤ w30.heap.size) := Nat.le_trans PW.out.1 W30.out.size
              refine sbytes32 w30 w23.heap.size w25.heap.size K kr ks ar az (fun W => W = w30.drew) (fun g1 q1 W => W.ownsRow w22.heap.size 60 32 (.slice (some ⟨g1, 0, none⟩) (K + 1 + 1) q1) (K + 1 + 1) (CELLS (MKS 201 (K + 1 + 1))) ∧ w30.drew.grownBy W (Value.slice ar K kr).ownBlock ∧ ((Value.slice ar K kr).ownBlock = some g1 ∨ w30.heap.size ≤ g1))
                (fun g1 q1 g2 q2 W => ∃ V, (V.ownsRow w22.heap.size 60 32 (.slice (some ⟨g1, 0, none⟩) (K + 1 + 1) q1) (K + 1 + 1) (CELLS (MKS 201 (K + 1 + 1))) ∧ w30.drew.grownBy V (Value.slice ar K kr).ownBlock ∧ ((Value.slice ar K kr).ownBlock = some g1 ∨ w30.heap.size ≤ g1)) ∧ W.ownsRow w22.heap.size 60 32 (.slice (some ⟨g2, 0, none⟩) (K + 1 + 1) q2) (K + 1 + 1) (CELLS (MKS 202 (K + 1 + 1))) ∧ V.grownBy W (Value.slice az K ks).ownBlock ∧ ((Value.slice az K ks).ownBlock = some g2 ∨ V.heap.size ≤ g2)) rfl ?_ ?_ ?_ ?_ ?_ (fun _ _ _ _ _ h => h) ?_
              case refine_1 =>
                rintro W rfl
                exact ⟨(PW.out.2.1.keep W30.out).cell 3, (PW.out.2.2.1.keep W30.out).cell 3⟩
              case refine_2 =>
                rintro g q W ⟨_, hg, _⟩
                have h1 := PW.out.2.1.keep W30.out
                have h2 := PW.out.2.2.1.keep W30.out
                exact ⟨(World.cell?_of_block (w := w30) (by exact hg.block w23.heap.size h1.lt (fun e => (PW.out.2.2.2.2.2.2.1 _ e.symm).1 rfl))).trans (h1.cell 3), (World.cell?_of_block (w := w30) (by exact hg.block w25.heap.size h2.lt (fun e => (PW.out.2.2.2.2.2.2.1 _ e.symm).2 rfl))).trans (h2.cell 3)⟩
              case refine_3 =>
                rintro g q g2 q2 W ⟨V, ⟨_, hg, _⟩, _, hg2, _⟩
                have h1 := PW.out.2.1.keep W30.out
                have h2 := PW.out.2.2.1.keep W30.out
                have sV : w30.heap.size ≤ V.heap.size := hg.size
                exact ⟨(World.cell?_of_block (w := w30) (by exact (hg2.block w23.heap.size (Nat.lt_of_lt_of_le h1.lt sV) (fun e => (PW.out.2.2.2.2.2.2.2.1 _ e.symm).1 rfl)).trans (hg.block w23.heap.size h1.lt (fun e => (PW.out.2.2.2.2.2.2.1 _ e.symm).1 rfl)))).trans (h1.cell 3), (World.cell?_of_block (w := w30) (by exact (hg2.block w25.heap.size (Nat.lt_of_lt_of_le h2.lt sV) (fun e => (PW.out.2.2.2.2.2.2.2.1 _ e.symm).2 rfl)).trans (hg.block w25.heap.size h2.lt (fun e => (PW.out.2.2.2.2.2.2.1 _ e.symm).2 rfl)))).trans (h2.cell 3)⟩
              case refine_4 =>
                rintro W rfl
                refine (mark20_ok w22.heap.size (.slice ar K kr) K (CELLS LL) 201 (by have := PW.out.2.2.2.2.2.2.2.2.1; omega) w30.drew SZ30.out (own_below PW.out.2.2.2.1 W30.out.drew)).mono ?_
                rintro e W ⟨g, q, rfl, h1, h2, h3⟩
                exact ⟨g, q, rfl, h1, h2, h3⟩
              case refine_5 =>
                rintro g1 q1 V ⟨v1, v2, v3⟩
                have sV : w30.heap.size ≤ V.heap.size := v2.size
                have oz : V.ownsRow w22.heap.size 60 32 (.slice az K ks) K (CELLS LL) := own_off (own_below PW.out.2.2.2.2.1 W30.out.drew) v2 PW.out.2.2.2.2.2.1
                refine (mark20_ok w22.heap.size (.slice az K ks) K (CELLS LL) 202 (by have := PW.out.2.2.2.2.2.2.2.2.1; omega) V (Nat.le_trans SZ30.out sV) oz).mono ?_
                rintro e W ⟨g, q, rfl, h1, h2, h3⟩
                exact ⟨g, q, rfl, V, ⟨v1, v2, v3⟩, h1, h2, h3⟩
              rintro g1 q1 g2 q2 w33 ⟨V, ⟨v1, v2, v3⟩, u1, u2, u3⟩
              have sV : w30.heap.size ≤ V.heap.size := v2.size
              have FF : Aside (w33.ownsRow w22.heap.size 60 32 (.slice (some ⟨g1, 0, none⟩) (K + 1 + 1) q1) (K + 1 + 1) (CELLS (MKS 201 (K + 1 + 1))) ∧ w33.ownsRow w22.heap.size 60 32 (.slice (some ⟨g2, 0, none⟩) (K + 1 + 1) q2) (K + 1 + 1) (CELLS (MKS 202 (K + 1 + 1))) ∧ Below w.heap.size w w33) := by
                have oz30 := own_below PW.out.2.2.2.2.1 W30.out
                have or30 := own_below PW.out.2.2.2.1 W30.out
                refine ⟨own_off v1 u2 (fun g e e2 => ?_), u1, ?_⟩
                · have e2 : g1 = g := by simpa [Value.ownBlock] using e2
                  subst e2
                  rcases v3 with h | h
                  · exact PW.out.2.2.2.2.2.1 _ h e
                  · have := (oz30.lt _ e).2
                    omega
                · have b1 : Below w.heap.size w w30.drew := (BW.out.trans (W30.out.mono BW.out.size)).drew
                  have b2 : Below w.heap.size w V := b1.grown v2 b1.size (fun k e => by have := (or30.lt k e).1; have := PW.out.2.2.2.2.2.2.2.2.2.1; omega)
                  exact b2.grown u2 b2.size (fun k e => by have := (oz30.lt k e).1; have := PW.out.2.2.2.2.2.2.2.2.2.1; omega)
              have ca1 := all20_ok w22.heap.size g1 (K + 1 + 1) q1 201 (by have := PW.out.2.2.2.2.2.2.2.2.1; omega) w33 FF.out.1
              have ca2 := all20_ok w22.heap.size g2 (K + 1 + 1) q2 202 (by have := PW.out.2.2.2.2.2.2.2.2.1; omega) w33 FF.out.2.1
              have caw := awake20_ok w33 (tab.out w33 FF.out.2.2).1 (tab.out w33 FF.out.2.2).2
              clear v1 v2 v3 u1 u2 u3 sV
              go_wp2_with fail
              refine ca1.mono ?_
              rintro e w34 ⟨rfl, rfl⟩
              clear ca1
              go_wp2_with fail
              refine ca2.mono ?_
              rintro e w34 ⟨rfl, rfl⟩
              clear ca2
              go_wp2_with fail
              refine caw.mono ?_
              rintro e w35 ⟨rfl, hb35⟩
              have W35 : Aside (Below w.heap.size w w35) := FF.out.2.2.trans (hb35.mono FF.out.2.2.size)
              clear caw hb35
              go_wp2_with fail
              go_ret
              exact ⟨rfl, W35.out⟩
theorem spanBytes_walk (S F T : Nat) (x : Option Addr) (m cx : Nat) (l : List Int) (y : Option Addr) (k cy : Nat) (l2 : List Int) (w : World) (hcx : x = none → cx = 0) (hF : Flat w x m l) (hB : Bytes w y k l2) (hcy : y = none → cy = 0) (hky : k ≤ cy) (hT : Tabled w) (h0 : 0 < w.heap.size) :
    Calls Tryd.prog 5 #[.agg #[.int .u64 (S : Int), .int .u64 (F : Int), .int .u64 (T : Int), .slice x m cx], .slice y k cy] w fun e w' => e = .returned (.bool true) ∧ Below w.heap.size w w' := by
  by_cases h : m ≤ 200 ∧ k ≤ 6400
  · exact sbytes_core S F T x m cx l y k cy l2 w h.1 hcx hF hB h.2 hcy hky hT h0
  · exact sbytes_long S F T x m cx y k cy w (by omega)
end Go.Proofs.YtmkgldjocigffaaDoor
