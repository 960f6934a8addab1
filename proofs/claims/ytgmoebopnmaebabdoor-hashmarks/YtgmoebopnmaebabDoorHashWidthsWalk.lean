/- The law HashWidths returns true. -/
import Derived.Test.YtgmoebopnmaebabDoorHashRow
import Derived.Test.YtgmoebopnmaebabDoorHashEq
namespace Go.Proofs.YtgmoebopnmaebabDoor
open Go.RowKit

theorem NARROW_wid {a b : Int} (h : WID a = WID b) : NARROW a = NARROW b := by
  funext s i
  unfold NARROW
  rw [h]
theorem STATE_wid {a b : Int} (h : WID a = WID b) (l : List Nat) : ∀ k, STATE a l k = STATE b l k
  | 0 => by rw [STATE, STATE, FIRST, FIRST, NARROW_wid h]
  | k + 1 => by rw [STATE, STATE, STATE_wid h l k, COMP, COMP, NARROW_wid h]
theorem HASHOF_wid {a b : Int} (h : WID a = WID b) (l : List Nat) : HASHOF a l = HASHOF b l := by rw [HASHOF, HASHOF, STATE_wid h]
theorem STATE_cut (d : Int) (l : List Nat) (i : Nat) (h : WID d ≤ i) : ∀ k, STATE d l k i = 0
  | 0 => by rw [STATE, FIRST, NARROW, if_neg (by omega)]
  | k + 1 => by rw [STATE, COMP, NARROW, if_neg (by omega)]
theorem HASHOF_cut (d : Int) (l : List Nat) (i : Nat) (h : WID d ≤ i) : HASHOF d l i = 0 := by
  unfold HASHOF
  exact STATE_cut d _ i h _
/-- one slice in a list of slices. -/
theorem one_parts (w : World) (a : Option Addr) (n c : Nat) (l : List Nat) (hT : Text w a n l) (hc : n ≤ c) (hx : ∀ x, a = some x → x.block < w.heap.size) : Parts (w.alloc (.cells #[.slice a n c] 22)) (some ⟨w.heap.size, 0, none⟩) 1 [⟨a, n, c, l⟩] := by
  refine ⟨rfl, fun _ => ⟨w.heap.size, 0, rfl, by simp, fun i p hp => ?_⟩, fun p hp => ?_⟩
  · cases i with
    | zero =>
      simp only [List.getElem?_cons_zero, Option.some.injEq] at hp
      subst hp
      rw [(Has.new w #[.slice a n c] 22).cell]
      rfl
    | succ i => simp at hp
  · simp only [List.mem_singleton] at hp
    subst hp
    exact ⟨hT.below ((Below.refl _ _).alloc (Nat.le_refl _) _), hc, fun x h => by have := hx x h; simp; omega⟩
/-- the hash of one slice. -/
theorem sum_one (d : Int) (w : World) (a : Option Addr) (n c : Nat) (l : List Nat) (hT : Text w a n l) (hc : n ≤ c) (hx : ∀ x, a = some x → x.block < w.heap.size) (hn : n < 2 ^ 60) (h : Tabled w) : Calls Tryd.prog 6 #[.int .i64 d, .slice (some ⟨w.heap.size, 0, none⟩) 1 1] (w.alloc (.cells #[.slice a n c] 22)) fun e w' => e = .returned (.agg (UARR .u8 32 (HASHOF d l))) ∧ Below w.heap.size w w' := by
  have hb : Below w.heap.size w (w.alloc (.cells #[.slice a n c] 22)) := (Below.refl _ _).alloc (Nat.le_refl _) _
  have e : JOIN [⟨a, n, c, l⟩] = l := by simp [JOIN]
  have k := sum_ok d (some ⟨w.heap.size, 0, none⟩) 1 1 _ _ (one_parts w a n c l hT hc hx) (h.below hb) (by rw [e, hT.1]; exact hn) (by decide)
  rw [e] at k
  refine k.mono ?_
  rintro e w' ⟨he, hb'⟩
  exact ⟨he, hb.trans (hb'.mono hb.size)⟩
theorem Text.front {w : World} {a : Option Addr} {n : Nat} {l : List Nat} {x : Nat} (h : Text w a (n + 1) (l ++ [x])) : Text w a n l := by
  have hl : l.length = n := by have := h.1; simp at this; exact this
  refine ⟨hl, fun hn => ?_, fun y hy => h.2.2 y (List.mem_append_left _ hy)⟩
  obtain ⟨b, off, e, hlt, hc⟩ := h.2.1 (by omega)
  refine ⟨b, off, e, hlt, fun i hi => ?_⟩
  rw [hc i (by omega)]
  have e : (l ++ [x]).getD i 0 = l.getD i 0 := by rw [List.getD_eq_getElem?_getD, List.getD_eq_getElem?_getD, List.getElem?_append_left (by omega)]
  rw [e]
theorem tabled_at {w w' : World} (h : Tabled w) (hb : Below w.heap.size w w') : Tabled w' := h.below hb
theorem widths_long (d : Int) (a : Option Addr) (n c : Nat) (s b : Nat → Nat) (w : World) (hn : 3000 < (n : Int)) :
    Calls Tryd.prog 3 #[.int .i64 d, .slice a n c, .agg (UARR .u8 32 s), .agg (UARR .u8 64 b)] w fun e w' => e = .returned (.bool true) ∧ Below w.heap.size w w' := by
  go_enter Tryd.func3, Tryd.ntmps3
  go_wp2
  go_ret
  exact ⟨rfl, ((Below.refl _ _).alloc (Nat.le_refl _) _).alloc (by simp) _⟩
theorem widths_mid (d : Int) (h1 : 1 ≤ d) (h2 : d ≤ 32) (a : Option Addr) (n c : Nat) (l : List Nat) (s b : Nat → Nat) (hs : ∀ i, s i < 256) (hb : ∀ i, b i < 256) (w : World) (hn : ¬ 3000 < (n : Int)) (hA : Text w a n l) (hc : a = none → c = 0) (hT : Tabled w) :
    Calls Tryd.prog 3 #[.int .i64 d, .slice a n c, .agg (UARR .u8 32 s), .agg (UARR .u8 64 b)] w fun e w' => e = .returned (.bool true) ∧ Below w.heap.size w w' := by
  have hz := zero32
  obtain ⟨V, rfl⟩ : ∃ V : Nat, d = (V : Int) := ⟨d.toNat, by omega⟩
  have d1 : ¬ (V : Int) < 1 := by omega
  have d2 : ¬ 32 < (V : Int) := by omega
  have HW : Aside (WID (V : Int) = V ∧ WID (V : Int) = WID (V : Int)) := ⟨by unfold WID; omega, rfl⟩
  have cr := fun (w : World) (h : Text w a n l) => row_ok a n c l w h hc (by omega)
  have H : Aside (Text w a n l ∧ Tabled w ∧ (∀ i, s i < 256) ∧ (∀ i, b i < 256) ∧ n ≤ 3000) := ⟨hA, hT, hs, hb, by omega⟩
  clear hA hT hs hb hc
  go_enter Tryd.func3, Tryd.ntmps3
  go_wp2_with fail
  have hB0 : Below w.heap.size w ((w.alloc (.cells (UARR .u8 32 s) 24)).alloc (.cells (UARR .u8 64 b) 25)) := ((Below.refl _ _).alloc (Nat.le_refl _) _).alloc (by simp) _
  refine (cr _ (H.out.1.below hB0)).mono ?_
  rintro e w1 ⟨a1, c1, rfl, ht1, hc1, hx1, hb1⟩
  have R1 : Aside (Below w.heap.size w w1 ∧ Has w1 w.heap.size (UARR .u8 32 s) 24 ∧ Has w1 (w.heap.size + 1) (UARR .u8 64 b) 25) := ⟨hB0.trans (hb1.mono hB0.size), ((Has.new w _ _).alloc _).keep hb1, (Has.at _ _ _ (by simp)).keep hb1⟩
  have cs := sum_one (V : Int) w1 a1 n c1 l ht1.front (by omega) (fun x h => (hx1 x h).2) (by have := H.out.2.2.2.2; omega) (H.out.2.1.below R1.out.1)
  clear hB0 ht1 hc1 hx1 hb1
  go_wp2_with fail
  refine cs.mono ?_
  rintro e w2 ⟨rfl, hb2⟩
  clear cs
  have R2 : Aside (Below w.heap.size w w2 ∧ Has w2 w.heap.size (UARR .u8 32 s) 24 ∧ Has w2 (w.heap.size + 1) (UARR .u8 64 b) 25) := ⟨R1.out.1.trans (hb2.mono R1.out.1.size), R1.out.2.1.keep hb2, R1.out.2.2.keep hb2⟩
  clear R1 hb2
  generalize hF : HASHOF (V : Int) l = F at *
  have HF : Aside (HASHOF (V : Int) l = F) := hF
  clear hF
  have R3 : Aside (Below w.heap.size w (w2.alloc (.cells (UARR .u8 32 F) 24)) ∧ Has (w2.alloc (.cells (UARR .u8 32 F) 24)) w.heap.size (UARR .u8 32 s) 24 ∧ Has (w2.alloc (.cells (UARR .u8 32 F) 24)) (w.heap.size + 1) (UARR .u8 64 b) 25 ∧ Has (w2.alloc (.cells (UARR .u8 32 F) 24)) w2.heap.size (UARR .u8 32 F) 24) := ⟨R2.out.1.alloc R2.out.1.size _, R2.out.2.1.alloc _, R2.out.2.2.alloc _, Has.new _ _ _⟩
  clear R2
  go_wp2_with (first
    | (refine wpList_store_row rfl 24 _ _ rfl _ _ rfl rfl 24 (UARR .u8 32 fun _ => 0) (Has.new w2 _ _) (info_HASH _) (by rw [UARR_size, UARR_size]) (UARR_one _ _ _) ?_; rw [World.setRow_alloc_new]; generalize w2.alloc (.cells (UARR .u8 32 F) 24) = w3 at *; generalize w2.heap.size = g2 at *)
    | (refine wpList_load_row rfl 24 _ rfl _ rfl 24 (UARR .u8 32 s) (0, 0) _ R3.out.2.1 Tryd.underlying24 rfl (info_HASH _) ?_)
    | (refine wpList_load_row rfl 25 _ rfl _ rfl 25 (UARR .u8 64 b) (0, 0) _ R3.out.2.2.1 Tryd.underlying25 rfl (info_BLOCK _) ?_))
  refine (compress_ok 32 s b H.out.2.2.1 H.out.2.2.2.1 w3 (H.out.2.1.below R3.out.1)).mono ?_
  rintro e w4 ⟨rfl, hb4⟩
  generalize hG1 : COMP 32 s b = G1 at *
  have R5 : Aside (Below w.heap.size w (w4.alloc (.cells (UARR .u8 32 G1) 24)) ∧ Has (w4.alloc (.cells (UARR .u8 32 G1) 24)) w.heap.size (UARR .u8 32 s) 24 ∧ Has (w4.alloc (.cells (UARR .u8 32 G1) 24)) (w.heap.size + 1) (UARR .u8 64 b) 25 ∧ Has (w4.alloc (.cells (UARR .u8 32 G1) 24)) g2 (UARR .u8 32 F) 24 ∧ Has (w4.alloc (.cells (UARR .u8 32 G1) 24)) w4.heap.size (UARR .u8 32 G1) 24 ∧ COMP 32 s b = G1) :=
    ⟨(R3.out.1.trans (hb4.mono R3.out.1.size)).alloc (Nat.le_trans R3.out.1.size hb4.size) _, (R3.out.2.1.keep hb4).alloc _, (R3.out.2.2.1.keep hb4).alloc _, (R3.out.2.2.2.keep hb4).alloc _, Has.new _ _ _, hG1⟩
  clear R3 hb4 hG1
  go_wp2_with (first
    | (refine wpList_store_row rfl 24 _ _ rfl _ _ rfl rfl 24 (UARR .u8 32 fun _ => 0) (Has.new w4 _ _) (info_HASH _) (by rw [UARR_size, UARR_size]) (UARR_one _ _ _) ?_; rw [World.setRow_alloc_new]; generalize w4.alloc (.cells (UARR .u8 32 G1) 24) = w5 at *; generalize w4.heap.size = g4 at *)
    | (refine wpList_load_row rfl 24 _ rfl _ rfl 24 (UARR .u8 32 s) (0, 0) _ R5.out.2.1 Tryd.underlying24 rfl (info_HASH _) ?_)
    | (refine wpList_load_row rfl 25 _ rfl _ rfl 25 (UARR .u8 64 b) (0, 0) _ R5.out.2.2.1 Tryd.underlying25 rfl (info_BLOCK _) ?_))
  refine (compress_ok (V : Int) s b H.out.2.2.1 H.out.2.2.2.1 w5 (H.out.2.1.below R5.out.1)).mono ?_
  rintro e w6 ⟨rfl, hb6⟩
  generalize hG2 : COMP (V : Int) s b = G2 at *
  have R7 : Aside (Below w.heap.size w (w6.alloc (.cells (UARR .u8 32 G2) 24)) ∧ Has (w6.alloc (.cells (UARR .u8 32 G2) 24)) g2 (UARR .u8 32 F) 24 ∧ Has (w6.alloc (.cells (UARR .u8 32 G2) 24)) g4 (UARR .u8 32 G1) 24 ∧ Has (w6.alloc (.cells (UARR .u8 32 G2) 24)) w6.heap.size (UARR .u8 32 G2) 24) :=
    ⟨(R5.out.1.trans (hb6.mono R5.out.1.size)).alloc (Nat.le_trans R5.out.1.size hb6.size) _, (R5.out.2.2.2.1.keep hb6).alloc _, (R5.out.2.2.2.2.1.keep hb6).alloc _, Has.new _ _ _⟩
  have HG : Aside (COMP 32 s b = G1 ∧ COMP (V : Int) s b = G2) := ⟨R5.out.2.2.2.2.2, hG2⟩
  clear R5 hb6 hG2
  go_wp2_with (first
    | (refine wpList_store_row rfl 24 _ _ rfl _ _ rfl rfl 24 (UARR .u8 32 fun _ => 0) (Has.new w6 _ _) (info_HASH _) (by rw [UARR_size, UARR_size]) (UARR_one _ _ _) ?_; rw [World.setRow_alloc_new]; generalize w6.alloc (.cells (UARR .u8 32 G2) 24) = w7 at *; generalize w6.heap.size = g6 at *))
  clear hz
  go_loopg [13] 32 (fun r s13 wx => ∃ i : Nat, i + r = 32 ∧ s13 = .int .i64 i ∧ Aside (∃ m, wx = w7.drewN m))
  case atStart => exact ⟨0, by omega, rfl, 0, rfl⟩
  case round =>
    obtain ⟨i, hir, rfl, A⟩ := hrel
    have hW : WID (V : Int) = V := HW.out.1
    cases gk with
    | zero =>
      obtain rfl : i = 32 := by omega
      obtain ⟨m, hm⟩ := A.out
      have hbr : Below w.heap.size w wr := by rw [hm]; exact below_drewN R7.out.1 m
      have TX : Aside (Text wr a n l ∧ Tabled wr) := ⟨H.out.1.below hbr, H.out.2.1.below hbr⟩
      have hr : wr.rangeAt g2 0 (ULIST .u8 32 F) := by rw [hm]; exact (R7.out.2.1.drewN m).whole
      have hgl : g2 < wr.heap.size := by rw [hm]; exact (R7.out.2.1.drewN m).lt
      have HB : Aside (Below w.heap.size w wr) := hbr
      have hu1 := Tryd.underlying24
      have hi1 : (Tryd.prog.info? 24).map (·.size) = some (ULIST .u8 32 F).length := by rw [ULIST_length]; exact info_hash
      have heq : ∀ w, (Op.equalIn 10000 24 (.agg (ULIST .u8 32 F).toArray) (.agg (UARR .u8 32 F))).run Tryd.prog w = .ok true w := equal_same F
      have hn2 : n < 2 ^ 60 := by omega
      clear hm hbr A hW hir
      go_wp2_with fail
      go_region_held3 (fun W : World => W.rangeAt g2 0 (ULIST .u8 32 F)) (first | assumption | (exact World.rangeAt_alloc (by assumption) _)) (first | (go_at_call 7; refine (cr _ (by exact TX.out.1)).mono ?_; rintro e w8 ⟨a8, c8, rfl, ht8, hc8, hx8, hb8⟩; have q8 := range_below (g := g2) (o := 0) (cs := ULIST .u8 32 F) (by exact hr) hb8 (by exact hgl)) | (go_at_call 6; have k9 := sum_one (V : Int) w8 a8 n c8 l ht8.front (by omega) (fun x h => (hx8 x h).2) hn2 (tabled_at (by exact TX.out.2) hb8); rw [HF.out] at k9; refine k9.mono ?_; rintro e w9 ⟨rfl, hb9⟩; have q9 := range_below q8 hb9 (Nat.lt_of_lt_of_le hgl hb8.size)) | (go_at_call 9; refine (awake_ok w9 ((tabled_at (by exact TX.out.2) hb8).below hb9)).mono ?_; rintro e w10 ⟨rfl, hb10⟩; have q10 := range_below q9 hb10 (Nat.lt_of_lt_of_le hgl (Nat.le_trans hb8.size hb9.size))))
      have hbe : Below w.heap.size w w10 := (HB.out.drew.trans (hb8.mono HB.out.size)).trans ((hb9.mono (Nat.le_trans HB.out.size hb8.size)).trans (hb10.mono (Nat.le_trans HB.out.size (Nat.le_trans hb8.size hb9.size))))
      have HE : Aside (Below w.heap.size w w10) := hbe
      clear hbe
      go_wp2
      go_ret
      exact ⟨rfl, HE.out⟩
    | succ r =>
      have hlt : (i : Int) < 32 := by omega
      obtain ⟨m, hm⟩ := A.out
      have cF : wr.cell? ⟨g2, i, none⟩ = some (.int .u8 (F i : Nat)) := by rw [hm, (R7.out.2.1.drewN m).cell, UARR_get _ _ _ _ (by omega)]
      have cG1 : wr.cell? ⟨g4, i, none⟩ = some (.int .u8 (G1 i : Nat)) := by rw [hm, (R7.out.2.2.1.drewN m).cell, UARR_get _ _ _ _ (by omega)]
      have cG2 : wr.cell? ⟨g6, i, none⟩ = some (.int .u8 (G2 i : Nat)) := by rw [hm, (R7.out.2.2.2.drewN m).cell, UARR_get _ _ _ _ (by omega)]
      clear hm
      by_cases hiV : V ≤ i
      · have z1 : F i = 0 := by rw [← HF.out]; exact HASHOF_cut _ _ _ (by omega)
        have z2 : G2 i = 0 := by rw [← HG.out.2, COMP, NARROW, if_neg (by omega)]
        rw [z1] at cF
        rw [z2] at cG2
        have b1 : decide ((V : Int) ≤ (i : Int)) = true := by simp; omega
        have b2 : (V : Int) ≤ (i : Int) := by omega
        have b3 : decide ((i : Int) < (V : Int)) = false := by simp; omega
        have b4 : decide (i < V) = false := by simp; omega
        have b5 : decide (V ≤ i) = true := by simp; omega
        have E : Aside (i + (r + 1) = 32) := hir
        clear z1 z2 cG1 hiV hir hW
        simp only [Int.cast_ofNat_Int] at cF cG2
        go_wp2_with fail
        go_quiet (fail)
        go_wp2
        go_roundg r
        case measure => omega
        case rel =>
          obtain ⟨m, hm⟩ := A.out
          exact ⟨i + 1, by have := E.out; omega, by go_num, _, by rw [hm, World.drewN_drewN]⟩
      · have z1 : G2 i = G1 i := by rw [← HG.out.2, ← HG.out.1, COMP, COMP, NARROW, NARROW, if_pos (by omega), if_pos (by show i < 32; omega)]
        rw [z1] at cG2
        have b1 : decide ((V : Int) ≤ (i : Int)) = false := by simp; omega
        have b2 : (i : Int) < (V : Int) := by omega
        have b3 : decide ((i : Int) < (V : Int)) = true := by simp; omega
        have b4 : decide (i < V) = true := by simp; omega
        have b5 : decide (V ≤ i) = false := by simp; omega
        have E : Aside (i + (r + 1) = 32) := hir
        generalize G1 i = x at *
        clear z1 cF hiV hir hW
        go_wp2_with fail
        go_quiet (fail)
        go_wp2
        go_roundg r
        case measure => omega
        case rel =>
          obtain ⟨m, hm⟩ := A.out
          exact ⟨i + 1, by have := E.out; omega, by go_num, _, by rw [hm, World.drewN_drewN]⟩
theorem widths_low (d : Int) (h1 : d < 1) (a : Option Addr) (n c : Nat) (l : List Nat) (s b : Nat → Nat) (hs : ∀ i, s i < 256) (hb : ∀ i, b i < 256) (w : World) (hn : ¬ 3000 < (n : Int)) (hA : Text w a n l) (hc : a = none → c = 0) (hT : Tabled w) :
    Calls Tryd.prog 3 #[.int .i64 d, .slice a n c, .agg (UARR .u8 32 s), .agg (UARR .u8 64 b)] w fun e w' => e = .returned (.bool true) ∧ Below w.heap.size w w' := by
  have hz := zero32
  obtain ⟨V, hV⟩ : ∃ V : Nat, (V : Int) = 1 := ⟨1, rfl⟩
  have HV : Aside ((V : Int) = 1) := hV
  have HW : Aside (WID d = V ∧ WID (V : Int) = WID d) := ⟨by unfold WID; omega, by rw [hV]; unfold WID; omega⟩
  clear hV
  have cr := fun (w : World) (h : Text w a n l) => row_ok a n c l w h hc (by omega)
  have H : Aside (Text w a n l ∧ Tabled w ∧ (∀ i, s i < 256) ∧ (∀ i, b i < 256) ∧ n ≤ 3000) := ⟨hA, hT, hs, hb, by omega⟩
  clear hA hT hs hb hc
  go_enter Tryd.func3, Tryd.ntmps3
  go_wp2_with fail
  rw [← HV.out]
  have hB0 : Below w.heap.size w ((w.alloc (.cells (UARR .u8 32 s) 24)).alloc (.cells (UARR .u8 64 b) 25)) := ((Below.refl _ _).alloc (Nat.le_refl _) _).alloc (by simp) _
  refine (cr _ (H.out.1.below hB0)).mono ?_
  rintro e w1 ⟨a1, c1, rfl, ht1, hc1, hx1, hb1⟩
  have R1 : Aside (Below w.heap.size w w1 ∧ Has w1 w.heap.size (UARR .u8 32 s) 24 ∧ Has w1 (w.heap.size + 1) (UARR .u8 64 b) 25) := ⟨hB0.trans (hb1.mono hB0.size), ((Has.new w _ _).alloc _).keep hb1, (Has.at _ _ _ (by simp)).keep hb1⟩
  have cs := sum_one d w1 a1 n c1 l ht1.front (by omega) (fun x h => (hx1 x h).2) (by have := H.out.2.2.2.2; omega) (H.out.2.1.below R1.out.1)
  clear hB0 ht1 hc1 hx1 hb1
  go_wp2_with fail
  refine cs.mono ?_
  rintro e w2 ⟨rfl, hb2⟩
  clear cs
  have R2 : Aside (Below w.heap.size w w2 ∧ Has w2 w.heap.size (UARR .u8 32 s) 24 ∧ Has w2 (w.heap.size + 1) (UARR .u8 64 b) 25) := ⟨R1.out.1.trans (hb2.mono R1.out.1.size), R1.out.2.1.keep hb2, R1.out.2.2.keep hb2⟩
  clear R1 hb2
  generalize hF : HASHOF d l = F at *
  have HF : Aside (HASHOF d l = F) := hF
  clear hF
  have R3 : Aside (Below w.heap.size w (w2.alloc (.cells (UARR .u8 32 F) 24)) ∧ Has (w2.alloc (.cells (UARR .u8 32 F) 24)) w.heap.size (UARR .u8 32 s) 24 ∧ Has (w2.alloc (.cells (UARR .u8 32 F) 24)) (w.heap.size + 1) (UARR .u8 64 b) 25 ∧ Has (w2.alloc (.cells (UARR .u8 32 F) 24)) w2.heap.size (UARR .u8 32 F) 24) := ⟨R2.out.1.alloc R2.out.1.size _, R2.out.2.1.alloc _, R2.out.2.2.alloc _, Has.new _ _ _⟩
  clear R2
  go_wp2_with (first
    | (refine wpList_store_row rfl 24 _ _ rfl _ _ rfl rfl 24 (UARR .u8 32 fun _ => 0) (Has.new w2 _ _) (info_HASH _) (by rw [UARR_size, UARR_size]) (UARR_one _ _ _) ?_; rw [World.setRow_alloc_new]; generalize w2.alloc (.cells (UARR .u8 32 F) 24) = w3 at *; generalize w2.heap.size = g2 at *)
    | (refine wpList_load_row rfl 24 _ rfl _ rfl 24 (UARR .u8 32 s) (0, 0) _ R3.out.2.1 Tryd.underlying24 rfl (info_HASH _) ?_)
    | (refine wpList_load_row rfl 25 _ rfl _ rfl 25 (UARR .u8 64 b) (0, 0) _ R3.out.2.2.1 Tryd.underlying25 rfl (info_BLOCK _) ?_))
  refine (compress_ok 32 s b H.out.2.2.1 H.out.2.2.2.1 w3 (H.out.2.1.below R3.out.1)).mono ?_
  rintro e w4 ⟨rfl, hb4⟩
  generalize hG1 : COMP 32 s b = G1 at *
  have R5 : Aside (Below w.heap.size w (w4.alloc (.cells (UARR .u8 32 G1) 24)) ∧ Has (w4.alloc (.cells (UARR .u8 32 G1) 24)) w.heap.size (UARR .u8 32 s) 24 ∧ Has (w4.alloc (.cells (UARR .u8 32 G1) 24)) (w.heap.size + 1) (UARR .u8 64 b) 25 ∧ Has (w4.alloc (.cells (UARR .u8 32 G1) 24)) g2 (UARR .u8 32 F) 24 ∧ Has (w4.alloc (.cells (UARR .u8 32 G1) 24)) w4.heap.size (UARR .u8 32 G1) 24 ∧ COMP 32 s b = G1) :=
    ⟨(R3.out.1.trans (hb4.mono R3.out.1.size)).alloc (Nat.le_trans R3.out.1.size hb4.size) _, (R3.out.2.1.keep hb4).alloc _, (R3.out.2.2.1.keep hb4).alloc _, (R3.out.2.2.2.keep hb4).alloc _, Has.new _ _ _, hG1⟩
  clear R3 hb4 hG1
  go_wp2_with (first
    | (refine wpList_store_row rfl 24 _ _ rfl _ _ rfl rfl 24 (UARR .u8 32 fun _ => 0) (Has.new w4 _ _) (info_HASH _) (by rw [UARR_size, UARR_size]) (UARR_one _ _ _) ?_; rw [World.setRow_alloc_new]; generalize w4.alloc (.cells (UARR .u8 32 G1) 24) = w5 at *; generalize w4.heap.size = g4 at *)
    | (refine wpList_load_row rfl 24 _ rfl _ rfl 24 (UARR .u8 32 s) (0, 0) _ R5.out.2.1 Tryd.underlying24 rfl (info_HASH _) ?_)
    | (refine wpList_load_row rfl 25 _ rfl _ rfl 25 (UARR .u8 64 b) (0, 0) _ R5.out.2.2.1 Tryd.underlying25 rfl (info_BLOCK _) ?_))
  refine (compress_ok d s b H.out.2.2.1 H.out.2.2.2.1 w5 (H.out.2.1.below R5.out.1)).mono ?_
  rintro e w6 ⟨rfl, hb6⟩
  generalize hG2 : COMP d s b = G2 at *
  have R7 : Aside (Below w.heap.size w (w6.alloc (.cells (UARR .u8 32 G2) 24)) ∧ Has (w6.alloc (.cells (UARR .u8 32 G2) 24)) g2 (UARR .u8 32 F) 24 ∧ Has (w6.alloc (.cells (UARR .u8 32 G2) 24)) g4 (UARR .u8 32 G1) 24 ∧ Has (w6.alloc (.cells (UARR .u8 32 G2) 24)) w6.heap.size (UARR .u8 32 G2) 24) :=
    ⟨(R5.out.1.trans (hb6.mono R5.out.1.size)).alloc (Nat.le_trans R5.out.1.size hb6.size) _, (R5.out.2.2.2.1.keep hb6).alloc _, (R5.out.2.2.2.2.1.keep hb6).alloc _, Has.new _ _ _⟩
  have HG : Aside (COMP 32 s b = G1 ∧ COMP d s b = G2) := ⟨R5.out.2.2.2.2.2, hG2⟩
  clear R5 hb6 hG2
  go_wp2_with (first
    | (refine wpList_store_row rfl 24 _ _ rfl _ _ rfl rfl 24 (UARR .u8 32 fun _ => 0) (Has.new w6 _ _) (info_HASH _) (by rw [UARR_size, UARR_size]) (UARR_one _ _ _) ?_; rw [World.setRow_alloc_new]; generalize w6.alloc (.cells (UARR .u8 32 G2) 24) = w7 at *; generalize w6.heap.size = g6 at *))
  clear hz
  go_loopg [13] 32 (fun r s13 wx => ∃ i : Nat, i + r = 32 ∧ s13 = .int .i64 i ∧ Aside (∃ m, wx = w7.drewN m))
  case atStart => exact ⟨0, by omega, rfl, 0, rfl⟩
  case round =>
    obtain ⟨i, hir, rfl, A⟩ := hrel
    have hW : WID d = V := HW.out.1
    cases gk with
    | zero =>
      obtain rfl : i = 32 := by omega
      obtain ⟨m, hm⟩ := A.out
      have hbr : Below w.heap.size w wr := by rw [hm]; exact below_drewN R7.out.1 m
      have TX : Aside (Text wr a n l ∧ Tabled wr) := ⟨H.out.1.below hbr, H.out.2.1.below hbr⟩
      have hr : wr.rangeAt g2 0 (ULIST .u8 32 F) := by rw [hm]; exact (R7.out.2.1.drewN m).whole
      have hgl : g2 < wr.heap.size := by rw [hm]; exact (R7.out.2.1.drewN m).lt
      have HB : Aside (Below w.heap.size w wr) := hbr
      have hu1 := Tryd.underlying24
      have hi1 : (Tryd.prog.info? 24).map (·.size) = some (ULIST .u8 32 F).length := by rw [ULIST_length]; exact info_hash
      have heq : ∀ w, (Op.equalIn 10000 24 (.agg (ULIST .u8 32 F).toArray) (.agg (UARR .u8 32 F))).run Tryd.prog w = .ok true w := equal_same F
      have hn2 : n < 2 ^ 60 := by omega
      clear hm hbr A hW hir
      go_wp2_with fail
      go_region_held3 (fun W : World => W.rangeAt g2 0 (ULIST .u8 32 F)) (first | assumption | (exact World.rangeAt_alloc (by assumption) _)) (first | (go_at_call 7; refine (cr _ (by exact TX.out.1)).mono ?_; rintro e w8 ⟨a8, c8, rfl, ht8, hc8, hx8, hb8⟩; have q8 := range_below (g := g2) (o := 0) (cs := ULIST .u8 32 F) (by exact hr) hb8 (by exact hgl)) | (go_at_call 6; have k9 := sum_one (V : Int) w8 a8 n c8 l ht8.front (by omega) (fun x h => (hx8 x h).2) hn2 (tabled_at (by exact TX.out.2) hb8); rw [HASHOF_wid HW.out.2, HF.out] at k9; refine k9.mono ?_; rintro e w9 ⟨rfl, hb9⟩; have q9 := range_below q8 hb9 (Nat.lt_of_lt_of_le hgl hb8.size)) | (go_at_call 9; refine (awake_ok w9 ((tabled_at (by exact TX.out.2) hb8).below hb9)).mono ?_; rintro e w10 ⟨rfl, hb10⟩; have q10 := range_below q9 hb10 (Nat.lt_of_lt_of_le hgl (Nat.le_trans hb8.size hb9.size))))
      have hbe : Below w.heap.size w w10 := (HB.out.drew.trans (hb8.mono HB.out.size)).trans ((hb9.mono (Nat.le_trans HB.out.size hb8.size)).trans (hb10.mono (Nat.le_trans HB.out.size (Nat.le_trans hb8.size hb9.size))))
      have HE : Aside (Below w.heap.size w w10) := hbe
      clear hbe
      go_wp2
      go_ret
      exact ⟨rfl, HE.out⟩
    | succ r =>
      have hlt : (i : Int) < 32 := by omega
      obtain ⟨m, hm⟩ := A.out
      have cF : wr.cell? ⟨g2, i, none⟩ = some (.int .u8 (F i : Nat)) := by rw [hm, (R7.out.2.1.drewN m).cell, UARR_get _ _ _ _ (by omega)]
      have cG1 : wr.cell? ⟨g4, i, none⟩ = some (.int .u8 (G1 i : Nat)) := by rw [hm, (R7.out.2.2.1.drewN m).cell, UARR_get _ _ _ _ (by omega)]
      have cG2 : wr.cell? ⟨g6, i, none⟩ = some (.int .u8 (G2 i : Nat)) := by rw [hm, (R7.out.2.2.2.drewN m).cell, UARR_get _ _ _ _ (by omega)]
      clear hm
      by_cases hiV : V ≤ i
      · have z1 : F i = 0 := by rw [← HF.out]; exact HASHOF_cut _ _ _ (by omega)
        have z2 : G2 i = 0 := by rw [← HG.out.2, COMP, NARROW, if_neg (by omega)]
        rw [z1] at cF
        rw [z2] at cG2
        have b1 : decide ((V : Int) ≤ (i : Int)) = true := by simp; omega
        have b2 : (V : Int) ≤ (i : Int) := by omega
        have b3 : decide ((i : Int) < (V : Int)) = false := by simp; omega
        have b4 : decide (i < V) = false := by simp; omega
        have b5 : decide (V ≤ i) = true := by simp; omega
        have E : Aside (i + (r + 1) = 32) := hir
        clear z1 z2 cG1 hiV hir hW
        simp only [Int.cast_ofNat_Int] at cF cG2
        go_wp2_with fail
        go_quiet (fail)
        go_wp2
        go_roundg r
        case measure => omega
        case rel =>
          obtain ⟨m, hm⟩ := A.out
          exact ⟨i + 1, by have := E.out; omega, by go_num, _, by rw [hm, World.drewN_drewN]⟩
      · have z1 : G2 i = G1 i := by rw [← HG.out.2, ← HG.out.1, COMP, COMP, NARROW, NARROW, if_pos (by omega), if_pos (by show i < 32; omega)]
        rw [z1] at cG2
        have b1 : decide ((V : Int) ≤ (i : Int)) = false := by simp; omega
        have b2 : (i : Int) < (V : Int) := by omega
        have b3 : decide ((i : Int) < (V : Int)) = true := by simp; omega
        have b4 : decide (i < V) = true := by simp; omega
        have b5 : decide (V ≤ i) = false := by simp; omega
        have E : Aside (i + (r + 1) = 32) := hir
        generalize G1 i = x at *
        clear z1 cF hiV hir hW
        go_wp2_with fail
        go_quiet (fail)
        go_wp2
        go_roundg r
        case measure => omega
        case rel =>
          obtain ⟨m, hm⟩ := A.out
          exact ⟨i + 1, by have := E.out; omega, by go_num, _, by rw [hm, World.drewN_drewN]⟩
theorem widths_high (d : Int) (h1 : 32 < d) (a : Option Addr) (n c : Nat) (l : List Nat) (s b : Nat → Nat) (hs : ∀ i, s i < 256) (hb : ∀ i, b i < 256) (w : World) (hn : ¬ 3000 < (n : Int)) (hA : Text w a n l) (hc : a = none → c = 0) (hT : Tabled w) :
    Calls Tryd.prog 3 #[.int .i64 d, .slice a n c, .agg (UARR .u8 32 s), .agg (UARR .u8 64 b)] w fun e w' => e = .returned (.bool true) ∧ Below w.heap.size w w' := by
  have hz := zero32
  obtain ⟨V, hV⟩ : ∃ V : Nat, (V : Int) = 32 := ⟨32, rfl⟩
  have HV : Aside ((V : Int) = 32) := hV
  have HW : Aside (WID d = V ∧ WID (V : Int) = WID d) := ⟨by unfold WID; omega, by rw [hV]; unfold WID; omega⟩
  have h2 : ¬ d < 1 := by omega
  clear hV
  have cr := fun (w : World) (h : Text w a n l) => row_ok a n c l w h hc (by omega)
  have H : Aside (Text w a n l ∧ Tabled w ∧ (∀ i, s i < 256) ∧ (∀ i, b i < 256) ∧ n ≤ 3000) := ⟨hA, hT, hs, hb, by omega⟩
  clear hA hT hs hb hc
  go_enter Tryd.func3, Tryd.ntmps3
  go_wp2_with fail
  rw [← HV.out]
  have hB0 : Below w.heap.size w ((w.alloc (.cells (UARR .u8 32 s) 24)).alloc (.cells (UARR .u8 64 b) 25)) := ((Below.refl _ _).alloc (Nat.le_refl _) _).alloc (by simp) _
  refine (cr _ (H.out.1.below hB0)).mono ?_
  rintro e w1 ⟨a1, c1, rfl, ht1, hc1, hx1, hb1⟩
  have R1 : Aside (Below w.heap.size w w1 ∧ Has w1 w.heap.size (UARR .u8 32 s) 24 ∧ Has w1 (w.heap.size + 1) (UARR .u8 64 b) 25) := ⟨hB0.trans (hb1.mono hB0.size), ((Has.new w _ _).alloc _).keep hb1, (Has.at _ _ _ (by simp)).keep hb1⟩
  have cs := sum_one d w1 a1 n c1 l ht1.front (by omega) (fun x h => (hx1 x h).2) (by have := H.out.2.2.2.2; omega) (H.out.2.1.below R1.out.1)
  clear hB0 ht1 hc1 hx1 hb1
  go_wp2_with fail
  refine cs.mono ?_
  rintro e w2 ⟨rfl, hb2⟩
  clear cs
  have R2 : Aside (Below w.heap.size w w2 ∧ Has w2 w.heap.size (UARR .u8 32 s) 24 ∧ Has w2 (w.heap.size + 1) (UARR .u8 64 b) 25) := ⟨R1.out.1.trans (hb2.mono R1.out.1.size), R1.out.2.1.keep hb2, R1.out.2.2.keep hb2⟩
  clear R1 hb2
  generalize hF : HASHOF d l = F at *
  have HF : Aside (HASHOF d l = F) := hF
  clear hF
  have R3 : Aside (Below w.heap.size w (w2.alloc (.cells (UARR .u8 32 F) 24)) ∧ Has (w2.alloc (.cells (UARR .u8 32 F) 24)) w.heap.size (UARR .u8 32 s) 24 ∧ Has (w2.alloc (.cells (UARR .u8 32 F) 24)) (w.heap.size + 1) (UARR .u8 64 b) 25 ∧ Has (w2.alloc (.cells (UARR .u8 32 F) 24)) w2.heap.size (UARR .u8 32 F) 24) := ⟨R2.out.1.alloc R2.out.1.size _, R2.out.2.1.alloc _, R2.out.2.2.alloc _, Has.new _ _ _⟩
  clear R2
  go_wp2_with (first
    | (refine wpList_store_row rfl 24 _ _ rfl _ _ rfl rfl 24 (UARR .u8 32 fun _ => 0) (Has.new w2 _ _) (info_HASH _) (by rw [UARR_size, UARR_size]) (UARR_one _ _ _) ?_; rw [World.setRow_alloc_new]; generalize w2.alloc (.cells (UARR .u8 32 F) 24) = w3 at *; generalize w2.heap.size = g2 at *)
    | (refine wpList_load_row rfl 24 _ rfl _ rfl 24 (UARR .u8 32 s) (0, 0) _ R3.out.2.1 Tryd.underlying24 rfl (info_HASH _) ?_)
    | (refine wpList_load_row rfl 25 _ rfl _ rfl 25 (UARR .u8 64 b) (0, 0) _ R3.out.2.2.1 Tryd.underlying25 rfl (info_BLOCK _) ?_))
  refine (compress_ok 32 s b H.out.2.2.1 H.out.2.2.2.1 w3 (H.out.2.1.below R3.out.1)).mono ?_
  rintro e w4 ⟨rfl, hb4⟩
  generalize hG1 : COMP 32 s b = G1 at *
  have R5 : Aside (Below w.heap.size w (w4.alloc (.cells (UARR .u8 32 G1) 24)) ∧ Has (w4.alloc (.cells (UARR .u8 32 G1) 24)) w.heap.size (UARR .u8 32 s) 24 ∧ Has (w4.alloc (.cells (UARR .u8 32 G1) 24)) (w.heap.size + 1) (UARR .u8 64 b) 25 ∧ Has (w4.alloc (.cells (UARR .u8 32 G1) 24)) g2 (UARR .u8 32 F) 24 ∧ Has (w4.alloc (.cells (UARR .u8 32 G1) 24)) w4.heap.size (UARR .u8 32 G1) 24 ∧ COMP 32 s b = G1) :=
    ⟨(R3.out.1.trans (hb4.mono R3.out.1.size)).alloc (Nat.le_trans R3.out.1.size hb4.size) _, (R3.out.2.1.keep hb4).alloc _, (R3.out.2.2.1.keep hb4).alloc _, (R3.out.2.2.2.keep hb4).alloc _, Has.new _ _ _, hG1⟩
  clear R3 hb4 hG1
  go_wp2_with (first
    | (refine wpList_store_row rfl 24 _ _ rfl _ _ rfl rfl 24 (UARR .u8 32 fun _ => 0) (Has.new w4 _ _) (info_HASH _) (by rw [UARR_size, UARR_size]) (UARR_one _ _ _) ?_; rw [World.setRow_alloc_new]; generalize w4.alloc (.cells (UARR .u8 32 G1) 24) = w5 at *; generalize w4.heap.size = g4 at *)
    | (refine wpList_load_row rfl 24 _ rfl _ rfl 24 (UARR .u8 32 s) (0, 0) _ R5.out.2.1 Tryd.underlying24 rfl (info_HASH _) ?_)
    | (refine wpList_load_row rfl 25 _ rfl _ rfl 25 (UARR .u8 64 b) (0, 0) _ R5.out.2.2.1 Tryd.underlying25 rfl (info_BLOCK _) ?_))
  refine (compress_ok d s b H.out.2.2.1 H.out.2.2.2.1 w5 (H.out.2.1.below R5.out.1)).mono ?_
  rintro e w6 ⟨rfl, hb6⟩
  generalize hG2 : COMP d s b = G2 at *
  have R7 : Aside (Below w.heap.size w (w6.alloc (.cells (UARR .u8 32 G2) 24)) ∧ Has (w6.alloc (.cells (UARR .u8 32 G2) 24)) g2 (UARR .u8 32 F) 24 ∧ Has (w6.alloc (.cells (UARR .u8 32 G2) 24)) g4 (UARR .u8 32 G1) 24 ∧ Has (w6.alloc (.cells (UARR .u8 32 G2) 24)) w6.heap.size (UARR .u8 32 G2) 24) :=
    ⟨(R5.out.1.trans (hb6.mono R5.out.1.size)).alloc (Nat.le_trans R5.out.1.size hb6.size) _, (R5.out.2.2.2.1.keep hb6).alloc _, (R5.out.2.2.2.2.1.keep hb6).alloc _, Has.new _ _ _⟩
  have HG : Aside (COMP 32 s b = G1 ∧ COMP d s b = G2) := ⟨R5.out.2.2.2.2.2, hG2⟩
  clear R5 hb6 hG2
  go_wp2_with (first
    | (refine wpList_store_row rfl 24 _ _ rfl _ _ rfl rfl 24 (UARR .u8 32 fun _ => 0) (Has.new w6 _ _) (info_HASH _) (by rw [UARR_size, UARR_size]) (UARR_one _ _ _) ?_; rw [World.setRow_alloc_new]; generalize w6.alloc (.cells (UARR .u8 32 G2) 24) = w7 at *; generalize w6.heap.size = g6 at *))
  clear hz
  go_loopg [13] 32 (fun r s13 wx => ∃ i : Nat, i + r = 32 ∧ s13 = .int .i64 i ∧ Aside (∃ m, wx = w7.drewN m))
  case atStart => exact ⟨0, by omega, rfl, 0, rfl⟩
  case round =>
    obtain ⟨i, hir, rfl, A⟩ := hrel
    have hW : WID d = V := HW.out.1
    cases gk with
    | zero =>
      obtain rfl : i = 32 := by omega
      obtain ⟨m, hm⟩ := A.out
      have hbr : Below w.heap.size w wr := by rw [hm]; exact below_drewN R7.out.1 m
      have TX : Aside (Text wr a n l ∧ Tabled wr) := ⟨H.out.1.below hbr, H.out.2.1.below hbr⟩
      have hr : wr.rangeAt g2 0 (ULIST .u8 32 F) := by rw [hm]; exact (R7.out.2.1.drewN m).whole
      have hgl : g2 < wr.heap.size := by rw [hm]; exact (R7.out.2.1.drewN m).lt
      have HB : Aside (Below w.heap.size w wr) := hbr
      have hu1 := Tryd.underlying24
      have hi1 : (Tryd.prog.info? 24).map (·.size) = some (ULIST .u8 32 F).length := by rw [ULIST_length]; exact info_hash
      have heq : ∀ w, (Op.equalIn 10000 24 (.agg (ULIST .u8 32 F).toArray) (.agg (UARR .u8 32 F))).run Tryd.prog w = .ok true w := equal_same F
      have hn2 : n < 2 ^ 60 := by omega
      clear hm hbr A hW hir
      go_wp2_with fail
      go_region_held3 (fun W : World => W.rangeAt g2 0 (ULIST .u8 32 F)) (first | assumption | (exact World.rangeAt_alloc (by assumption) _)) (first | (go_at_call 7; refine (cr _ (by exact TX.out.1)).mono ?_; rintro e w8 ⟨a8, c8, rfl, ht8, hc8, hx8, hb8⟩; have q8 := range_below (g := g2) (o := 0) (cs := ULIST .u8 32 F) (by exact hr) hb8 (by exact hgl)) | (go_at_call 6; have k9 := sum_one (V : Int) w8 a8 n c8 l ht8.front (by omega) (fun x h => (hx8 x h).2) hn2 (tabled_at (by exact TX.out.2) hb8); rw [HASHOF_wid HW.out.2, HF.out] at k9; refine k9.mono ?_; rintro e w9 ⟨rfl, hb9⟩; have q9 := range_below q8 hb9 (Nat.lt_of_lt_of_le hgl hb8.size)) | (go_at_call 9; refine (awake_ok w9 ((tabled_at (by exact TX.out.2) hb8).below hb9)).mono ?_; rintro e w10 ⟨rfl, hb10⟩; have q10 := range_below q9 hb10 (Nat.lt_of_lt_of_le hgl (Nat.le_trans hb8.size hb9.size))))
      have hbe : Below w.heap.size w w10 := (HB.out.drew.trans (hb8.mono HB.out.size)).trans ((hb9.mono (Nat.le_trans HB.out.size hb8.size)).trans (hb10.mono (Nat.le_trans HB.out.size (Nat.le_trans hb8.size hb9.size))))
      have HE : Aside (Below w.heap.size w w10) := hbe
      clear hbe
      go_wp2
      go_ret
      exact ⟨rfl, HE.out⟩
    | succ r =>
      have hlt : (i : Int) < 32 := by omega
      obtain ⟨m, hm⟩ := A.out
      have cF : wr.cell? ⟨g2, i, none⟩ = some (.int .u8 (F i : Nat)) := by rw [hm, (R7.out.2.1.drewN m).cell, UARR_get _ _ _ _ (by omega)]
      have cG1 : wr.cell? ⟨g4, i, none⟩ = some (.int .u8 (G1 i : Nat)) := by rw [hm, (R7.out.2.2.1.drewN m).cell, UARR_get _ _ _ _ (by omega)]
      have cG2 : wr.cell? ⟨g6, i, none⟩ = some (.int .u8 (G2 i : Nat)) := by rw [hm, (R7.out.2.2.2.drewN m).cell, UARR_get _ _ _ _ (by omega)]
      clear hm
      by_cases hiV : V ≤ i
      · have z1 : F i = 0 := by rw [← HF.out]; exact HASHOF_cut _ _ _ (by omega)
        have z2 : G2 i = 0 := by rw [← HG.out.2, COMP, NARROW, if_neg (by omega)]
        rw [z1] at cF
        rw [z2] at cG2
        have b1 : decide ((V : Int) ≤ (i : Int)) = true := by simp; omega
        have b2 : (V : Int) ≤ (i : Int) := by omega
        have b3 : decide ((i : Int) < (V : Int)) = false := by simp; omega
        have b4 : decide (i < V) = false := by simp; omega
        have b5 : decide (V ≤ i) = true := by simp; omega
        have E : Aside (i + (r + 1) = 32) := hir
        clear z1 z2 cG1 hiV hir hW
        simp only [Int.cast_ofNat_Int] at cF cG2
        go_wp2_with fail
        go_quiet (fail)
        go_wp2
        go_roundg r
        case measure => omega
        case rel =>
          obtain ⟨m, hm⟩ := A.out
          exact ⟨i + 1, by have := E.out; omega, by go_num, _, by rw [hm, World.drewN_drewN]⟩
      · have z1 : G2 i = G1 i := by rw [← HG.out.2, ← HG.out.1, COMP, COMP, NARROW, NARROW, if_pos (by omega), if_pos (by show i < 32; omega)]
        rw [z1] at cG2
        have b1 : decide ((V : Int) ≤ (i : Int)) = false := by simp; omega
        have b2 : (i : Int) < (V : Int) := by omega
        have b3 : decide ((i : Int) < (V : Int)) = true := by simp; omega
        have b4 : decide (i < V) = true := by simp; omega
        have b5 : decide (V ≤ i) = false := by simp; omega
        have E : Aside (i + (r + 1) = 32) := hir
        generalize G1 i = x at *
        clear z1 cF hiV hir hW
        go_wp2_with fail
        go_quiet (fail)
        go_wp2
        go_roundg r
        case measure => omega
        case rel =>
          obtain ⟨m, hm⟩ := A.out
          exact ⟨i + 1, by have := E.out; omega, by go_num, _, by rw [hm, World.drewN_drewN]⟩
theorem hashWidths_walk (d : Int) (a : Option Addr) (n c : Nat) (l : List Nat) (s b : Nat → Nat) (hs : ∀ i, s i < 256) (hb : ∀ i, b i < 256) (w : World) (hA : Text w a n l) (hc : a = none → c = 0) (hT : Tabled w) :
    Calls Tryd.prog 3 #[.int .i64 d, .slice a n c, .agg (UARR .u8 32 s), .agg (UARR .u8 64 b)] w fun e w' => e = .returned (.bool true) ∧ Below w.heap.size w w' := by
  by_cases hn : 3000 < (n : Int)
  · exact widths_long d a n c s b w hn
  · by_cases h1 : d < 1
    · exact widths_low d h1 a n c l s b hs hb w hn hA hc hT
    · by_cases h2 : 32 < d
      · exact widths_high d h2 a n c l s b hs hb w hn hA hc hT
      · exact widths_mid d (by omega) (by omega) a n c l s b hs hb w hn hA hc hT
end Go.Proofs.YtgmoebopnmaebabDoor
