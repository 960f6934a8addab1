/- The law HashSums returns true. -/
import Derived.Test.YtkhhgdckidmmlaaDoorHashTexts2
import Derived.Test.YtkhhgdckidmmlaaDoorHashSame
import Derived.Test.YtkhhgdckidmmlaaDoorHashEq
import Derived.Deep.RegionHeld3
namespace Go.Proofs.YtkhhgdckidmmlaaDoor
open Go.RowKit
set_option maxRecDepth 100000

theorem join_map {gs : List GP} {ps : List PART} (h : gs.map GP.l = ps.map PART.l) : JOIN (GPARTS gs) = JOIN ps := by
  unfold JOIN GPARTS
  rw [List.map_map, ← h]
  rfl
theorem anyH_as {ops : Array Oper} {Q : Exit → Act → World → Prop} {md : Region.Mode} {S : World → Prop} {fuel : Nat} {listed : Array Bool} {a a' : Act} {w : World} (fuel' : Nat) (listed' : Array Bool) (hf : fuel = fuel') (hl : listed = listed') (ha : a = a') (h : wpAnyH Tryd.prog md ops Q S fuel' listed' a' w) : wpAnyH Tryd.prog md ops Q S fuel listed a w := by
  subst hf hl ha
  exact h
theorem anyH_one {ops : Array Oper} {Q : Exit → Act → World → Prop} {md : Region.Mode} {S : World → Prop} {fuel : Nat} {listed : Array Bool} {a : Act} {w : World} {o : Oper} (i : Nat) (hr : Region.ready md ops listed = [i]) (ho : ops[i]? = some o)
    (h : ∀ K' : Act → World → Prop, Shut (∀ a w, S w → (S w → wpAnyH Tryd.prog md ops Q S fuel (listed.setIfInBounds i true) a w) → K' a w) → if Region.wanted o (yielded ops a.tmps) = true then Oper.wp Tryd.prog o a w K' Q else K' (a.put o.dst undef) w) : wpAnyH Tryd.prog md ops Q S (fuel + 1) listed a w :=
  wpAnyH_ready hr (by simp) (AllReadyH.cons ho h AllReadyH.nil)
theorem set_same {α : Type} {l : List α} {i : Nat} {a : α} (h : l[i]? = some a) : l.set i a = l := by
  obtain ⟨hi, rfl⟩ := List.getElem?_eq_some_iff.1 h
  exact List.set_getElem_self hi
theorem sums_count {n m : Nat} (hn : n ≤ 3000) (hm : m < 2 ^ 60) : wrap64 ((1 : Int) + (m : Int)) = ((1 + m : Nat) : Int) ∧ wrap64 ((n : Int) + ((1 + m : Nat) : Int)) = ((n + (1 + m) : Nat) : Int) := by
  unfold wrap64
  omega
set_option maxHeartbeats 2000000 in
theorem hashSums_walk (d : Int) (a : Option Addr) (k c : Nat) (ps : List PART) (w : World) (hP : Parts0 w a k ps) (hnil : ∀ p ∈ ps, p.a = none → p.c = 0) (hT : Tabled w) (hkk : k < 2 ^ 60) (hpn : ∀ p ∈ ps, p.n < 2 ^ 60) : Calls Tryd.prog 3 #[.int .i64 d, .slice a k c] w fun e w' => e = .returned (.bool true) ∧ Below w.heap.size w w' := by
  have hz := zero32
  have H : Aside (Parts0 w a k ps ∧ (∀ p ∈ ps, p.a = none → p.c = 0) ∧ Tabled w ∧ k < 2 ^ 60 ∧ (∀ p ∈ ps, p.n < 2 ^ 60) ∧ ps.length = k) := ⟨hP, hnil, hT, hkk, hpn, hP.1⟩
  clear hP hnil hT hkk hpn
  go_enter Tryd.func3, Tryd.ntmps3
  go_wp2_with fail
  go_loopg [5, 6] k (fun r s5 s6 wx => ∃ i n : Nat, s5 = .int .i64 (n : Int) ∧ s6 = .int .i64 (i : Int) ∧ wx = w ∧ Aside (i + r = k ∧ n = i + (JOIN (ps.take i)).length ∧ n ≤ 3000))
  case atStart => exact ⟨0, 0, rfl, rfl, rfl, by omega, rfl, by omega⟩
  case round =>
    obtain ⟨i, n, rfl, rfl, hw, A⟩ := hrel
    replace hw := hw.symm
    subst hw
    cases gk with
    | zero =>
      obtain rfl : i = k := by have := A.out.1; omega
      have hlt : ¬ (i : Int) < (i : Int) := by omega
      have B : Aside (i + (JOIN ps).length ≤ 3000) := by
        obtain ⟨h1, h2, h3⟩ := A.out
        rw [List.take_of_length_le (by have := H.out.2.2.2.2.2; omega)] at h2
        exact h2 ▸ h3
      clear A
      go_wp2_with fail
      go_loopg [7, 8] i (fun r s7 s8 wx => ∃ (j : Nat) (gs : List GP), s8 = .int .i64 (j : Int) ∧ Aside (j + r = i ∧ GIVEN wx w.heap.size s7 gs ∧ gs.length = j ∧ gs.map GP.l = (ps.take j).map PART.l ∧ Below w.heap.size w wx))
      case atStart => exact ⟨0, [], rfl, by omega, GIVEN.start _ _, rfl, rfl, Below.refl _ _⟩
      case round =>
        obtain ⟨j, gs, rfl, A⟩ := hrel
        cases gk with
        | zero =>
          obtain rfl : j = i := by have := A.out.1; omega
          have hlt : ¬ (j : Int) < (j : Int) := by omega
          obtain ⟨-, hG, hgl, hmap, hbw⟩ := A.out
          rw [List.take_of_length_le (by have := H.out.2.2.2.2.2; omega)] at hmap
          have hjl : (JOIN ps).length ≤ 3000 := by have := B.out; omega
          have hj3 : j ≤ 3000 := by have := B.out; omega
          have cs := refsum_ok d a j c ps wr (H.out.1.below hbw) H.out.2.1 (by omega) H.out.2.2.2.1
          obtain ⟨a7, c7, hv7, -⟩ := own_form hG.own
          rw [hgl] at hv7
          subst hv7
          have cS := fun (W : World) (h : GIVEN W w.heap.size (.slice a7 j c7) gs) (hT : Tabled W) => sum_ok d a7 j c7 (GPARTS gs) W (h.parts hgl) hT (by rw [join_map hmap]; omega) H.out.2.2.2.1
          rw [join_map hmap] at cS
          have G : Aside (GIVEN wr w.heap.size (.slice a7 j c7) gs ∧ gs.length = j ∧ gs.map GP.l = ps.map PART.l ∧ Below w.heap.size w wr ∧ j ≤ 3000 ∧ (JOIN ps).length ≤ 3000) := ⟨hG, hgl, hmap, hbw, hj3, hjl⟩
          clear A B hG hgl hmap hbw hjl hj3
          go_wp2_with fail
          refine cs.mono ?_
          rintro e w4 ⟨rfl, hb4⟩
          clear cs
          generalize HASHOF d (JOIN ps) = F at *
          have G5 : Aside (GIVEN (w4.alloc (.cells (UARR .u8 32 F) 26)) w.heap.size (.slice a7 j c7) gs ∧ Below w.heap.size w (w4.alloc (.cells (UARR .u8 32 F) 26))) := by
            have h := G.out.1.keep hb4
            have hb := G.out.2.2.2.1.trans (hb4.mono G.out.2.2.2.1.size)
            exact ⟨h.keep ((Below.refl _ _).alloc (Nat.le_refl _) _), hb.alloc hb.size _⟩
          have hr : (w4.alloc (.cells (UARR .u8 32 F) 26)).rangeAt w4.heap.size 0 (ULIST .u8 32 F) := (Has.new w4 (UARR .u8 32 F) 26).whole
          have hgl : w4.heap.size < (w4.alloc (.cells (UARR .u8 32 F) 26)).heap.size := by simp
          clear hb4
          go_wp2_with (first
            | (refine wpList_store_row rfl 26 _ _ rfl _ _ rfl rfl 26 (UARR .u8 32 fun _ => 0) (Has.new w4 _ _) (info_HASH _) (by rw [UARR_size, UARR_size]) (UARR_one _ _ _) ?_; rw [World.setRow_alloc_new]; generalize w4.alloc (.cells (UARR .u8 32 F) 26) = w5 at *; generalize w4.heap.size = g4 at *))
          have hu1 := Tryd.underlying26
          have hi1 : (Tryd.prog.info? 26).map (·.size) = some (ULIST .u8 32 F).length := by rw [ULIST_length]; exact info_hash
          have heq : ∀ w, (Op.equalIn 10000 26 (.agg (UARR .u8 32 F)) (.agg (ULIST .u8 32 F).toArray)).run Tryd.prog w = .ok true w := equal_same F
          have HT : Aside (Tabled w) := H.out.2.2.1
          have D5 : Aside (GIVEN w5.drew w.heap.size (.slice a7 j c7) gs ∧ Below w.heap.size w w5.drew) := ⟨G5.out.1.keep (Below.refl _ _).drew, G5.out.2.drew⟩
          clear hz
          refine wp_region_held_drew (S := fun W : World => W.rangeAt g4 0 (ULIST .u8 32 F)) (by kernel_rfl) ((World.rangeAt_drew _ _ _ _).2 hr) (fun hr => ?_)
          refine wpAnyH_take (i := 0) (v := .int .i64 d) rfl (by kernel_rfl) (by kernel_rfl) (by kernel_rfl) (fun _ _ _ h => h) (Yields.yieldsIf (Or.inl ⟨by rfl, fun W => by go_simp⟩)) (by exact hr) ?_
          refine wpAnyH_take (i := 1) (v := .slice a7 j c7) rfl (by kernel_rfl) (by kernel_rfl) (by kernel_rfl) (fun _ _ _ h => h) (Yields.yieldsIf (Or.inl ⟨by rfl, fun W => by go_simp⟩)) (by exact hr) ?_
          refine wpAnyH_take (i := 3) (v := .agg (ULIST .u8 32 F).toArray) rfl (by kernel_rfl) (by kernel_rfl) (by kernel_rfl) (fun _ _ _ h => h) (yieldsIf_load_mid (by rfl) 26 (.tmp 9) (by rfl) g4 0 (by rfl) (ULIST .u8 32 F) (.array 32 5) (fun _ h => h) hu1 (by rfl) hi1) (by exact hr) ?_
          refine anyH_as (a' := ?N1) 16 #[true, true, false, true, false, false, false, false, false, false, false, false, false, false, false, false, false, false, false] (by kernel_rfl) (by kernel_rfl) ?HN1 ?HM1
          case HN1 =>
            go_simp
            exact rfl
          refine anyH_one (o := { dst := some 49, op := Op.call { callee := Callee.value (Operand.func 10), args := #[Operand.tmp 47, Operand.tmp 48], argTypes := #[3, 22] }, type := 26, pos := "law.go:46", after := #[{ on := 0, ground := Ground.data }, { on := 1, ground := Ground.data }], guard := none }) 2 (by kernel_rfl) rfl (fun K hK => ?_)
          rw [if_pos (by rfl)]
          go_simp
          refine (cS w5.drew D5.out.1 (HT.out.below D5.out.2)).mono ?_
          rintro e w6 ⟨rfl, hb6⟩
          have q6 : w6.rangeAt g4 0 (ULIST .u8 32 F) := range_below hr hb6 hgl
          refine hK.out _ _ q6 (fun _ => ?_)
          clear hK K
          refine anyH_as (a' := ?N2) 15 #[true, true, true, true, false, false, false, false, false, false, false, false, false, false, false, false, false, false, false] (by kernel_rfl) (by kernel_rfl) ?HN2 ?HM2
          case HN2 =>
            go_simp
            exact rfl
          refine wpAnyH_take (i := 4) (v := .bool false) rfl (by kernel_rfl) (by kernel_rfl) (by kernel_rfl) (fun _ _ _ h => h) (Yields.yieldsIf (Or.inl ⟨by rfl, fun W => by go_simp⟩)) (by exact q6) ?_
          refine wpAnyH_take (i := 5) (v := .bool false) rfl (by kernel_rfl) (by kernel_rfl) (by kernel_rfl) (fun _ _ _ h => h) (Yields.yieldsIf (Or.inl ⟨by rfl, fun W => by go_simp⟩)) (by exact q6) ?_
          refine anyH_as (a' := ?N3) 13 #[true, true, true, true, true, true, false, false, false, false, false, false, false, false, false, false, false, false, false] (by kernel_rfl) (by kernel_rfl) ?HN3 ?HM3
          case HN3 =>
            go_simp
            exact rfl
          refine wpAnyH_take (i := 6) (v := .int .i64 d) rfl (by kernel_rfl) (by kernel_rfl) (by kernel_rfl) (fun _ _ _ h => h) (Yields.yieldsIf (Or.inl ⟨by rfl, fun W => by go_simp⟩)) (by exact q6) ?_
          refine wpAnyH_take (i := 7) (v := .slice a7 j c7) rfl (by kernel_rfl) (by kernel_rfl) (by kernel_rfl) (fun _ _ _ h => h) (Yields.yieldsIf (Or.inl ⟨by rfl, fun W => by go_simp⟩)) (by exact q6) ?_
          refine wpAnyH_take (i := 9) (v := .agg (ULIST .u8 32 F).toArray) rfl (by kernel_rfl) (by kernel_rfl) (by kernel_rfl) (fun _ _ _ h => h) (yieldsIf_load_mid (by rfl) 26 (.tmp 9) (by rfl) g4 0 (by rfl) (ULIST .u8 32 F) (.array 32 5) (fun _ h => h) hu1 (by rfl) hi1) (by exact q6) ?_
          refine anyH_as (a' := ?N4) 10 #[true, true, true, true, true, true, true, true, false, true, false, false, false, false, false, false, false, false, false] (by kernel_rfl) (by kernel_rfl) ?HN4 ?HM4
          case HN4 =>
            go_simp
            exact rfl
          refine anyH_one (o := { dst := some 55, op := Op.call { callee := Callee.value (Operand.func 10), args := #[Operand.tmp 53, Operand.tmp 54], argTypes := #[3, 22] }, type := 26, pos := "law.go:46", after := #[{ on := 6, ground := Ground.data }, { on := 7, ground := Ground.data }, { on := 5, ground := Ground.chain }, { on := 5, ground := Ground.guard }], guard := some (5, false) }) 8 (by kernel_rfl) rfl (fun K hK => ?_)
          rw [if_pos (by rfl)]
          go_simp
          refine (cS w6 (D5.out.1.keep hb6) (HT.out.below (D5.out.2.trans (hb6.mono D5.out.2.size)))).mono ?_
          rintro e w7 ⟨rfl, hb7⟩
          have q7 : w7.rangeAt g4 0 (ULIST .u8 32 F) := range_below q6 hb7 (Nat.lt_of_lt_of_le hgl hb6.size)
          refine hK.out _ _ q7 (fun _ => ?_)
          clear hK K
          refine anyH_as (a' := ?N5) 9 #[true, true, true, true, true, true, true, true, true, true, false, false, false, false, false, false, false, false, false] (by kernel_rfl) (by kernel_rfl) ?HN5 ?HM5
          case HN5 =>
            go_simp
            exact rfl
          refine wpAnyH_take (i := 10) (v := .bool false) rfl (by kernel_rfl) (by kernel_rfl) (by kernel_rfl) (fun _ _ _ h => h) (Yields.yieldsIf (Or.inl ⟨by rfl, fun W => by go_simp⟩)) (by exact q7) ?_
          refine wpAnyH_take (i := 11) (v := .bool false) rfl (by kernel_rfl) (by kernel_rfl) (by kernel_rfl) (fun _ _ _ h => h) (Yields.yieldsIf (Or.inl ⟨by rfl, fun W => by go_simp⟩)) (by exact q7) ?_
          refine wpAnyH_take (i := 12) (v := .bool false) rfl (by kernel_rfl) (by kernel_rfl) (by kernel_rfl) (fun _ _ _ h => h) (Yields.yieldsIf (Or.inl ⟨by rfl, fun W => by go_simp⟩)) (by exact q7) ?_
          refine anyH_as (a' := ?N6) 6 #[true, true, true, true, true, true, true, true, true, true, true, true, true, false, false, false, false, false, false] (by kernel_rfl) (by kernel_rfl) ?HN6 ?HM6
          case HN6 =>
            go_simp
            exact rfl
          refine wpAnyH_take (i := 13) (v := .slice a7 j c7) rfl (by kernel_rfl) (by kernel_rfl) (by kernel_rfl) (fun _ _ _ h => h) (Yields.yieldsIf (Or.inl ⟨by rfl, fun W => by go_simp⟩)) (by exact q7) ?_
          refine wpAnyH_take (i := 14) (v := .int .i64 (j : Int)) rfl (by kernel_rfl) (by kernel_rfl) (by kernel_rfl) (fun _ _ _ h => h) (Yields.yieldsIf (Or.inl ⟨by rfl, fun W => by go_simp⟩)) (by exact q7) ?_
          refine wpAnyH_take (i := 15) (v := .slice a j c) rfl (by kernel_rfl) (by kernel_rfl) (by kernel_rfl) (fun _ _ _ h => h) (Yields.yieldsIf (Or.inl ⟨by rfl, fun W => by go_simp⟩)) (by exact q7) ?_
          refine wpAnyH_take (i := 16) (v := .int .i64 (j : Int)) rfl (by kernel_rfl) (by kernel_rfl) (by kernel_rfl) (fun _ _ _ h => h) (Yields.yieldsIf (Or.inl ⟨by rfl, fun W => by go_simp⟩)) (by exact q7) ?_
          refine wpAnyH_take (i := 17) (v := .bool false) rfl (by kernel_rfl) (by kernel_rfl) (by kernel_rfl) (fun _ _ _ h => h) (Yields.yieldsIf (Or.inl ⟨by rfl, fun W => by go_simp⟩)) (by exact q7) ?_
          refine wpAnyH_take (i := 18) (v := .bool false) rfl (by kernel_rfl) (by kernel_rfl) (by kernel_rfl) (fun _ _ _ h => h) (Yields.yieldsIf (Or.inl ⟨by rfl, fun W => by go_simp⟩)) (by exact q7) ?_
          refine anyH_as (a' := ?N7) 0 #[true, true, true, true, true, true, true, true, true, true, true, true, true, true, true, true, true, true, true] (by kernel_rfl) (by kernel_rfl) ?HN7 ?HM7
          case HN7 =>
            go_simp
            exact rfl
          refine wpAnyH_done (by kernel_rfl) ?_ _
          have G7 : Aside (GIVEN w7 w.heap.size (.slice a7 j c7) gs ∧ gs.length = j ∧ gs.map GP.l = ps.map PART.l ∧ Below w.heap.size w w7 ∧ j ≤ 3000 ∧ (JOIN ps).length ≤ 3000) := by
            have h6 := D5.out.2.trans (hb6.mono D5.out.2.size)
            exact ⟨(D5.out.1.keep hb6).keep hb7, G.out.2.1, G.out.2.2.1, h6.trans (hb7.mono h6.size), G.out.2.2.2.2⟩
          clear hb6 hb7 q6 q7 hr hgl G G5 D5 hu1 hi1 heq
          go_wp2_with fail
          go_loopg [10] j (fun r s10 wx => ∃ (i : Nat) (hs : List GP), s10 = .int .i64 (i : Int) ∧ Aside (i + r = j ∧ GIVEN wx w.heap.size (.slice a7 j c7) hs ∧ TURN i gs hs ∧ Below w.heap.size w wx))
          case atStart => exact ⟨0, gs, rfl, by omega, G7.out.1, TURN.start gs, G7.out.2.2.2.1⟩
          case round =>
            obtain ⟨i, hs, rfl, A⟩ := hrel
            cases gk with
            | zero =>
              obtain rfl : i = j := by have := A.out.1; omega
              have hlt : ¬ (i : Int) < (i : Int) := by omega
              obtain ⟨-, hG, hTU, hbw⟩ := A.out
              have hhl : hs.length = i := hTU.1.trans G7.out.2.1
              have hJ : (JOIN (GPARTS hs)).length ≤ 3000 := by rw [hTU.length, join_map G7.out.2.2.1]; exact G7.out.2.2.2.2.2
              have W : Aside (GIVEN wr w.heap.size (.slice a7 i c7) hs ∧ Below w.heap.size w wr ∧ hs.length = i ∧ (JOIN (GPARTS hs)).length ≤ 3000 ∧ i ≤ 3000) := ⟨hG, hbw, hhl, hJ, G7.out.2.2.2.2.1⟩
              clear hG hTU hbw hhl hJ A G7
              go_wp2_with fail
              generalize hwo : wr = wo at *
              clear hwo
              go_loopg [12, 13] i (fun r s12 s13 wx => ∃ (q : Nat) (ts : List PART), s13 = .int .i64 (q : Int) ∧ Aside (q + r = i ∧ TEXTS wx wo.heap.size s12 ts ∧ ts.length = q ∧ ts.map PART.l = (hs.take q).map GP.l ∧ Below wo.heap.size wo wx))
              case atStart => exact ⟨0, [], rfl, by omega, TEXTS.start _ _, rfl, rfl, Below.refl _ _⟩
              case round =>
                obtain ⟨q, ts, rfl, A⟩ := hrel
                cases gk with
                | zero =>
                  obtain rfl : q = i := by have := A.out.1; omega
                  have hlt2 : ¬ (q : Int) < (q : Int) := by omega
                  obtain ⟨-, hX, htl, hmap, hbo⟩ := A.out
                  rw [List.take_of_length_le (by have := W.out.2.2.1; omega)] at hmap
                  obtain ⟨a9, c9, hv, -⟩ := own_form hX.own
                  rw [htl] at hv
                  subst hv
                  have hJT : JOIN ts = JOIN (GPARTS hs) := (join_map hmap.symm).symm
                  have hbw : Below w.heap.size w wr := W.out.2.1.trans (hbo.mono W.out.2.1.size)
                  have c1 := sum_ok d a7 q c7 (GPARTS hs) wr ((W.out.1.keep hbo).parts W.out.2.2.1) (H.out.2.2.1.below hbw) (by have := W.out.2.2.2.1; omega) H.out.2.2.2.1
                  have c2 := fun (X : World) (h : Below wr.heap.size wr X) => refsum_ok d a9 q c9 ts X ((hX.parts htl).1.zero.below h) (hX.parts htl).2 (by have := W.out.2.2.2.1; rw [hJT]; omega) H.out.2.2.2.1
                  rw [hJT] at c2
                  generalize HASHOF d (JOIN (GPARTS hs)) = F2 at *
                  have heq2 : ∀ w, (Op.equalIn 10000 26 (.agg (UARR .u8 32 F2)) (.agg (UARR .u8 32 F2))).run Tryd.prog w = .ok true w := equal_same F2
                  have V : Aside (Below w.heap.size w wr ∧ Tabled w) := ⟨hbw, H.out.2.2.1⟩
                  clear A hX htl hmap hbo hJT hbw cS
                  go_wp2_with fail
                  refine c1.mono ?_
                  rintro e w10 ⟨rfl, hb10⟩
                  go_wp2_with fail
                  refine (c2 w10 hb10).mono ?_
                  rintro e w11 ⟨rfl, hb11⟩
                  have V11 : Aside (Below w.heap.size w w11) := by
                    have h1 := V.out.1.trans (hb10.mono V.out.1.size)
                    exact h1.trans (hb11.mono h1.size)
                  clear c1 c2 hb10 hb11
                  go_wp2_with fail
                  refine (awake_ok w11 (V.out.2.below V11.out)).mono ?_
                  rintro e w12 ⟨rfl, hb12⟩
                  have V12 : Aside (Below w.heap.size w w12) := V11.out.trans (hb12.mono V11.out.size)
                  clear hb12
                  go_wp2
                  go_ret
                  exact ⟨rfl, V12.out⟩
                | succ r =>
                  have hqi : q < i := by have := A.out.1; omega
                  have hlt2 : (q : Int) < (i : Int) := by omega
                  have hq0 : ¬ (q : Int) < 0 := by omega
                  obtain ⟨-, hX, htl, hmap, hbo⟩ := A.out
                  have hGk := W.out.1.keep hbo
                  obtain ⟨g7, c8, hv, -, -⟩ := hGk.own.form (by have := W.out.2.2.1; omega)
                  simp only [Value.slice.injEq] at hv
                  obtain ⟨rfl, -, -⟩ := hv
                  obtain ⟨p, hp⟩ : ∃ p, hs[q]? = some p := ⟨_, List.getElem?_eq_getElem (by have := W.out.2.2.1; omega)⟩
                  obtain ⟨x0, -, -, hg7⟩ := hGk.len hp rfl W.out.2.2.1
                  have ht := (hGk.text hp).1
                  have hj : (hs.take (q + 1)).map GP.l = (hs.take q).map GP.l ++ [p.l] := by rw [List.take_add_one, hp, Option.toList_some, List.map_append]; rfl
                  have hpl : p.l.length ≤ 3000 := by
                    have h1 := JOIN_take_length (GPARTS hs) (q + 1)
                    have h2 : (GPARTS hs)[q]? = some ⟨some ⟨p.g, 0, none⟩, p.l.length, p.c, p.l⟩ := by simp [GPARTS, hp]
                    rw [List.take_add_one, h2, Option.toList_some, JOIN_snoc, List.length_append] at h1
                    have := W.out.2.2.2.1
                    dsimp only at h1
                    omega
                  have eq2 : wrap64 ((q : Int) + 1) = ((q + 1 : Nat) : Int) := by have := W.out.2.2.2.2; unfold wrap64; omega
                  have T : Aside (q + 1 + r = i ∧ TEXTS wr wo.heap.size u12 ts ∧ ts.length = q ∧ ts.map PART.l ++ [p.l] = (hs.take (q + 1)).map GP.l ∧ Below wo.heap.size wo wr ∧ q ≤ 2 ^ 20 ∧ Small8 p.l ∧ p.l.length ≤ 3000) := ⟨by have := A.out.1; omega, hX, htl, by rw [hj, hmap], hbo, by have := W.out.2.2.2.2; omega, ht.2.2, hpl⟩
                  have HE1 : Aside (Bytes (wr.alloc (.cells #[] 5)) (some ⟨p.g, 0, none⟩) p.l.length (INTS p.l)) := (ht.below ((Below.refl _ _).alloc (Nat.le_refl _) _)).bytes
                  have HE2 : Aside (∀ w4, (wr.alloc (.cells #[] 5)).grownBy w4 (some wr.heap.size) → Below wr.heap.size wr w4) := fun w4 h => ((Below.refl _ _).alloc (Nat.le_refl _) _).grown h (by simp) (fun k e => by cases e; exact Nat.le_refl _)
                  clear A hX htl hmap hbo hGk hp ht hj hpl hqi
                  obtain ⟨pg, pc, pl⟩ := p
                  dsimp only at x0 T HE1
                  obtain ⟨N, hN⟩ : ∃ N, pl.length = N := ⟨_, rfl⟩
                  rw [hN] at x0 HE1 T
                  have x0' : (wr.alloc (.cells #[] 5)).cell? ⟨g7, q, none⟩ = some (.slice (some ⟨pg, 0, none⟩) N pc) := (((Below.refl wr.heap.size wr).alloc (Nat.le_refl _) (.cells #[] 5)).cell (p := ⟨g7, q, none⟩) (by exact hg7)).trans x0
                  clear hg7
                  go_wp2_with (first | (at_builtin; refine app_any _ rfl (.tmp 120) (.tmp 124) rfl wr.heap.size _ 0 [] rfl (own_empty wr _ (Nat.le_refl _)) (some ⟨pg, 0, none⟩) N pc (INTS pl) rfl HE1.out (fun h => by cases h) N (INTS pl) (by omega) rfl (by have := T.out.2.2.2.2.2.2.2; omega) (by simp) ?_; intro a4 c4 w4 hown4 hgrow4; have hb4 := HE2.out _ hgrow4) | (at_builtin; refine app_text w4 ⟨a4, N, c4, pl⟩ rfl (.tmp 119) (.tmp 126) rfl wo.heap.size u12 q ts rfl (by have h := own_keep T.out.2.1.own hb4; rw [T.out.2.2.1] at h; exact h) rfl T.out.2.2.2.2.2.1 (Nat.le_trans T.out.2.2.2.2.1.size hb4.size) ?_; intro g3 cap3 w3 hown3 hgrow3 hat3))
                  go_roundg r
                  case measure => exact Nat.lt_succ_self _
                  case rel =>
                    obtain ⟨t1, t2, t3, t4, t5, t6, t7, t8⟩ := T.out
                    have hb : Below wo.heap.size wo w4 := t5.trans (hb4.mono t5.size)
                    rw [← t3] at hown3
                    refine ⟨q + 1, ts ++ [⟨a4, N, c4, pl⟩], by first | rfl | (rw [eq2]), t1, ?_, by simp [t3], by rw [List.map_append]; exact t4, (hb.alloc hb.size _).grown hgrow3 (by have := hb.size; simp; omega) (fun q e => (t2.own.lt q e).1)⟩
                    have h := t2.push t5.size hb4 (by exact hown4) t7 hgrow3 hown3 hat3
                    rw [t3] at h
                    exact h
            | succ r =>
              have hij : i < j := by have := A.out.1; omega
              have hlt : (i : Int) < (j : Int) := by omega
              have hi0 : ¬ (i : Int) < 0 := by omega
              obtain ⟨-, hG, hTU, hbw⟩ := A.out
              have hhl : hs.length = j := hTU.1.trans G7.out.2.1
              obtain ⟨g7, c8, hv, -, -⟩ := hG.own.form (by omega)
              simp only [Value.slice.injEq] at hv
              obtain ⟨rfl, -, -⟩ := hv
              obtain ⟨p, hp⟩ : ∃ p, gs[i]? = some p := ⟨_, List.getElem?_eq_getElem (by have := G7.out.2.1; omega)⟩
              have hp2 := hTU.at hp
              obtain ⟨q, hq⟩ : ∃ q, ps[i]? = some q := ⟨_, List.getElem?_eq_getElem (by have := H.out.2.2.2.2.2; omega)⟩
              have hpq : p.l = q.l := by
                have h := congrArg (fun l => l[i]?) G7.out.2.2.1
                simp only [List.getElem?_map, hp, hq, Option.map_some, Option.some.injEq] at h
                exact h
              obtain ⟨x0, hne, hpg, hg7⟩ := hG.len hp2 rfl hhl
              obtain ⟨pb, po, rfl, hpb, hcell⟩ := H.out.1.2.1 (by omega)
              have x1 := (hbw.cell (p := ⟨pb, po + i, none⟩) (by exact hpb)).trans (hcell i q hq)
              have hqt := H.out.1.2.2 q (List.mem_of_getElem? hq)
              have hqn : p.l.length < 2 ^ 40 := by
                have h1 := JOIN_take_length ps (i + 1)
                have h2 := G7.out.2.2.2.2.2
                rw [List.take_add_one, hq, Option.toList_some, JOIN_snoc, List.length_append, ← hpq] at h1
                omega
              have cs := fun (W : World) (h : GIVEN W w.heap.size (.slice (some ⟨g7, 0, none⟩) j c7) hs) (hb : Below w.heap.size w W) => same_ok (some ⟨p.g, 0, none⟩) q.a p.l.length q.n p.c q.c p.l q.l W (h.text hp2).1 (hqt.below hb) hqn
              have cm := fun (W : World) (h : GIVEN W w.heap.size (.slice (some ⟨g7, 0, none⟩) j c7) hs) => marked_ok h hp2 hqn
              have hdec : decide (p.l = q.l) = true := by simp [hpq]
              rw [hdec] at cs
              have ei : wrap64 ((i : Int) + 1) = ((i + 1 : Nat) : Int) := by have := H.out.2.2.2.1; unfold wrap64; omega
              have T : Aside (i + 1 + r = j ∧ GIVEN wr w.heap.size (.slice (some ⟨g7, 0, none⟩) j c7) hs ∧ TURN i gs hs ∧ Below w.heap.size w wr ∧ hs.length = j ∧ gs[i]? = some p ∧ hs[i]? = some p ∧ p.l.length < 2 ^ 40) := ⟨by have := A.out.1; omega, hG, hTU, hbw, hhl, hp, hp2, hqn⟩
              have D : Aside (GIVEN wr.drew w.heap.size (.slice (some ⟨g7, 0, none⟩) j c7) hs ∧ Below w.heap.size w wr.drew) := ⟨hG.keep (Below.refl _ _).drew, hbw.drew⟩
              have hpbr : pb < wr.heap.size := Nat.lt_of_lt_of_le hpb hbw.size
              clear A hG hTU hbw hhl hp hp2 hq hpq hcell hqt hqn hdec hij
              obtain ⟨pg, pc, pl⟩ := p
              obtain ⟨qa, qn, qc, ql⟩ := q
              dsimp only at x0 x1 cs cm hne hpg
              obtain ⟨N, hN⟩ : ∃ N, pl.length = N := ⟨_, rfl⟩
              rw [hN] at x0 cs cm
              go_wp2_with fail
              go_region_held3 (fun W : World => W.cell? ⟨g7, i, none⟩ = some (.slice (some ⟨pg, 0, none⟩) N pc) ∧ W.cell? ⟨pb, po + i, none⟩ = some (.slice qa qn qc)) (go_keep) (first | (go_at_call 11; refine (cs _ (by exact D.out.1) (by exact D.out.2)).mono ?_; rintro e w8 ⟨rfl, hb8, hs8⟩; have z1 := (hb8.cell (p := ⟨g7, i, none⟩) (by exact hg7)).trans x0; have z3 := (hb8.cell (p := ⟨pb, po + i, none⟩) (by exact hpbr)).trans x1) | (go_at_call 12; refine (cm _ (by exact D.out.1.keep hb8)).mono ?_; rintro e w9 ⟨rfl, rfl⟩))
              have U : Aside (GIVEN w8 w.heap.size (.slice (some ⟨g7, 0, none⟩) j c7) hs ∧ Below w.heap.size w w8 ∧ pl.length = N) := ⟨D.out.1.keep hb8, D.out.2.trans (hb8.mono D.out.2.size), hN⟩
              clear D hb8 hs8 z1 z3 x0 x1 cs cm hpg hg7 hpbr hpb hN
              go_wp2_with fail
              go_loopg [11] N (fun r2 s11 wx => ∃ q : Nat, s11 = .int .i64 (q : Int) ∧ Aside (q + r2 = N ∧ GIVEN wx w.heap.size (.slice (some ⟨g7, 0, none⟩) j c7) (hs.set i ⟨pg, pc, TK q pl⟩) ∧ Below w.heap.size w wx))
              case atStart => exact ⟨0, rfl, by omega, by rw [TK_zero, set_same T.out.2.2.2.2.2.2.1]; exact U.out.1, U.out.2.1⟩
              case round =>
                obtain ⟨q, rfl, A⟩ := hrel
                obtain ⟨hqr, hG, hbw⟩ := A.out
                have hhl : hs.length = j := T.out.2.2.2.2.1
                have hil : i < hs.length := (List.getElem?_eq_some_iff.1 T.out.2.2.2.2.2.2.1).1
                have hget : (hs.set i ⟨pg, pc, TK q pl⟩)[i]? = some ⟨pg, pc, TK q pl⟩ := List.getElem?_set_self hil
                obtain ⟨x0, -, hpg, hg7⟩ := hG.len hget rfl (by rw [List.length_set]; exact hhl)
                dsimp only at x0 hpg
                rw [TK_length, U.out.2.2] at x0
                cases gk with
                | zero =>
                  obtain rfl : q = N := by omega
                  have hlt2 : ¬ (q : Int) < (q : Int) := by omega
                  have E : Aside (GIVEN wr w.heap.size (.slice (some ⟨g7, 0, none⟩) j c7) (hs.set i ⟨pg, pc, pl.map INC⟩) ∧ TURN (i + 1) gs (hs.set i ⟨pg, pc, pl.map INC⟩) ∧ Below w.heap.size w wr) := by
                    refine ⟨?_, T.out.2.2.1.next T.out.2.2.2.2.2.1, hbw⟩
                    rw [← TK_all, U.out.2.2]
                    exact hG
                  clear hG hbw hget hil hhl hqr A
                  go_wp2
                  go_roundg r
                  case measure => exact Nat.lt_succ_self _
                  case rel => exact ⟨i + 1, _, by first | rfl | (rw [ei]), T.out.1, E.out⟩
                | succ r2 =>
                  have hlt2 : (q : Int) < (N : Int) := by omega
                  have hq0 : ¬ (q : Int) < 0 := by omega
                  have hqp : q < pl.length := by rw [U.out.2.2]; omega
                  have hsv : Small8 pl := T.out.2.1.small i _ T.out.2.2.2.2.2.2.1
                  obtain ⟨hG2, f1, x1⟩ := hG.put (k := q) hget (by show q < (TK q pl).length; rw [TK_length]; exact hqp) (INC_lt (pl.getD q 0))
                  dsimp only at hG2 f1 x1
                  rw [TK_get q pl hqp] at x1
                  rw [List.set_set, ← TK_next q pl hqp] at hG2
                  have hv256 : pl.getD q 0 < 256 := hsv.get q
                  obtain ⟨v2, hv2⟩ : ∃ v2, INC (pl.getD q 0) = v2 := ⟨_, rfl⟩
                  rw [hv2] at hG2
                  generalize pl.getD q 0 = v at *
                  have e8 : IntKind.u8.wrap ((v : Int) + 1) = (v2 : Int) := by
                    rw [← hv2]
                    unfold INC
                    simp [IntKind.wrap, IntKind.signed, IntKind.bits]
                  have eq2 : wrap64 ((q : Int) + 1) = ((q + 1 : Nat) : Int) := by have := U.out.2.2; have := T.out.2.2.2.2.2.2.2; unfold wrap64; omega
                  have E : Aside (q + 1 + r2 = N ∧ GIVEN (wr.setCell ⟨pg, q, none⟩ (.int .u8 (v2 : Int))) w.heap.size (.slice (some ⟨g7, 0, none⟩) j c7) (hs.set i ⟨pg, pc, TK (q + 1) pl⟩) ∧ Below w.heap.size w wr ∧ w.heap.size ≤ pg) := ⟨by omega, hG2, hbw, ((hG.row i _ hget).lt pg rfl).1⟩
                  have k7 : (wr.setCell ⟨pg, q, none⟩ (.int .u8 (v2 : Int))).drew.cell? ⟨g7, i, none⟩ = some (.slice (some ⟨pg, 0, none⟩) N pc) := ((grown_set wr pg q (.int .u8 (v2 : Int))).cell_far ⟨g7, i, none⟩ hg7 (fun e => hne (Option.some.inj e))).trans x0
                  clear hG hG2 hbw hget hil hhl hqr A hqp hsv hv2 hv256
                  go_wp2_with fail
                  go_region
                  all_goals
                    have E2 : Aside (q + 1 + r2 = N ∧ GIVEN (wr.setCell ⟨pg, q, none⟩ (.int .u8 (v2 : Int))).drew w.heap.size (.slice (some ⟨g7, 0, none⟩) j c7) (hs.set i ⟨pg, pc, TK (q + 1) pl⟩) ∧ Below w.heap.size w (wr.setCell ⟨pg, q, none⟩ (.int .u8 (v2 : Int))).drew) := ⟨E.out.1, E.out.2.1.keep (Below.refl _ _).drew, (E.out.2.2.1.setCell (p := ⟨pg, q, none⟩) E.out.2.2.2 _).drew⟩
                    clear E k7 x0 x1 f1 hpg hg7
                    go_wp2
                    go_roundg r2
                    case measure => exact Nat.lt_succ_self _
                    case rel => exact ⟨q + 1, by first | rfl | (rw [eq2]), E2.out⟩
        | succ r =>
          have hik : j < i := by have := A.out.1; omega
          have hlt : (j : Int) < (i : Int) := by omega
          have hi0 : ¬ (j : Int) < 0 := by omega
          obtain ⟨pb, po, rfl, hpb, hcell⟩ := H.out.1.2.1 (by omega)
          obtain ⟨p, hp⟩ : ∃ p, ps[j]? = some p := ⟨_, List.getElem?_eq_getElem (by have := H.out.2.2.2.2.2; omega)⟩
          have hc := (A.out.2.2.2.2.cell (p := ⟨pb, po + j, none⟩) (by exact hpb)).trans (hcell j p hp)
          have hmem : p ∈ ps := List.mem_of_getElem? hp
          have ht := H.out.1.2.2 p hmem
          have hj : (ps.take (j + 1)).map PART.l = (ps.take j).map PART.l ++ [p.l] := by rw [List.take_add_one, hp, Option.toList_some, List.map_append]; rfl
          have ei : wrap64 ((j : Int) + 1) = ((j + 1 : Nat) : Int) := by have := H.out.2.2.2.1; unfold wrap64; omega
          have hpn : p.n < 2 ^ 40 := by
            have h1 := JOIN_take_length ps (j + 1)
            have h2 := B.out
            have h3 := ht.1
            rw [List.take_add_one, hp, Option.toList_some, JOIN_snoc, List.length_append] at h1
            omega
          have cr := row_own p.a p.n p.c p.l wr (ht.below A.out.2.2.2.2) (H.out.2.1 p hmem) hpn
          have hi3 : i ≤ 3000 := by have := B.out; omega
          have hsm : Small8 p.l := ht.2.2
          have hpl := ht.1
          clear ht hp hcell hpb hmem hpn
          obtain ⟨pa, pn, pc, pl⟩ := p
          dsimp only at hc hj cr hsm hpl
          subst hpl
          have T : Aside (j + 1 + r = i ∧ GIVEN wr w.heap.size u7 gs ∧ gs.length = j ∧ gs.map GP.l ++ [pl] = (ps.take (j + 1)).map PART.l ∧ Below w.heap.size w wr ∧ Small8 pl ∧ j ≤ 2 ^ 20) := ⟨by have := A.out.1; omega, A.out.2.1, A.out.2.2.1, by rw [hj, A.out.2.2.2.1], A.out.2.2.2.2, hsm, by omega⟩
          clear A hj hsm hi3 hik
          go_wp2_with (first | (go_at_call 8; refine cr.mono ?_; rintro e w2 ⟨g2, c2, rfl, hown2, hb2⟩) | (at_builtin; refine app_given w2 ⟨g2, c2, pl⟩ rfl (.tmp 36) (.tmp 42) rfl w.heap.size u7 j gs rfl (by have h := own_keep T.out.2.1.own hb2; rw [T.out.2.2.1] at h; exact h) rfl T.out.2.2.2.2.2.2 (Nat.le_trans T.out.2.2.2.2.1.size hb2.size) ?_; intro g3 cap3 w3 hown3 hgrow3 hat3))
          go_roundg r
          case measure => exact Nat.lt_succ_self _
          case rel =>
            obtain ⟨t1, t2, t3, t4, t5, t6, t7⟩ := T.out
            have hb : Below w.heap.size w w2 := t5.trans (hb2.mono t5.size)
            rw [← t3] at hown3
            refine ⟨j + 1, gs ++ [⟨g2, c2, pl⟩], by first | rfl | (rw [ei]), t1, ?_, by simp [t3], by rw [List.map_append]; exact t4, (hb.alloc hb.size _).grown hgrow3 (by have := hb.size; simp; omega) (fun q e => (t2.own.lt q e).1)⟩
            have h := t2.push t5.size hb2 hown2 t6 hgrow3 hown3 hat3
            rw [t3] at h
            exact h
    | succ r =>
      have hik : i < k := by have := A.out.1; omega
      have hlt : (i : Int) < (k : Int) := by omega
      have hi0 : ¬ (i : Int) < 0 := by omega
      obtain ⟨pb, po, rfl, hpb, hcell⟩ := H.out.1.2.1 (by omega)
      obtain ⟨p, hp⟩ : ∃ p, ps[i]? = some p := ⟨_, List.getElem?_eq_getElem (by have := H.out.2.2.2.2.2; omega)⟩
      have hc := hcell i p hp
      have hmem : p ∈ ps := List.mem_of_getElem? hp
      have ht := H.out.1.2.2 p hmem
      have hj : JOIN (ps.take (i + 1)) = JOIN (ps.take i) ++ p.l := by rw [List.take_add_one, hp, Option.toList_some, JOIN_snoc]
      obtain ⟨e1, e2⟩ := sums_count A.out.2.2 (H.out.2.2.2.2.1 p hmem)
      have ei : wrap64 ((i : Int) + 1) = ((i + 1 : Nat) : Int) := by have := H.out.2.2.2.1; unfold wrap64; omega
      obtain ⟨n2, hn2⟩ : ∃ n2, n + (1 + p.n) = n2 := ⟨_, rfl⟩
      obtain ⟨n1, hn1⟩ : ∃ n1, 1 + p.n = n1 := ⟨_, rfl⟩
      have T : Aside (i + 1 + r = k ∧ n2 = i + 1 + (JOIN (ps.take (i + 1))).length) := ⟨by have := A.out.1; omega, by have h1 := A.out.2.1; have h2 := ht.1; rw [hj, List.length_append]; omega⟩
      rw [hn2] at e2
      rw [hn1] at e1 e2
      clear ht hp hcell hpb hmem hj hn1 hn2 A
      obtain ⟨pa, pn, pc, pl⟩ := p
      dsimp only at hc e1
      by_cases hbig : (3000 : Int) < (n2 : Int)
      · go_wp2
        go_ret
        exact ⟨rfl, Below.refl _ _⟩
      · go_wp2
        go_roundg r
        case measure => exact Nat.lt_succ_self _
        case rel => exact ⟨i + 1, n2, by first | rfl | (rw [e2]) | (rw [e1, e2]), by first | rfl | (rw [ei]), rfl, T.out.1, T.out.2, by omega⟩
end Go.Proofs.YtkhhgdckidmmlaaDoor
