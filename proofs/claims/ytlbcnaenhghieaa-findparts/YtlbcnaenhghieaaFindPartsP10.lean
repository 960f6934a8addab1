/- Texts of FindParts, one behind the other: FindPartsWalk, FindDoor. -/
import Derived.Test.YtlbcnaenhghieaaProg
import Derived.Test.YtlbcnaenhghieaaChecked
import Derived.ProofKit
import Derived.OpenShut
import Derived.ChangeOld
import Derived.Below
import Derived.Carry
import Derived.SevenTiedAt
import Derived.Deep.Strs
import Derived.Test.YtlbcnaenhghieaaFindPartsP9
/- FindParts: the indices of unlike hashes; cut off and added again. -/
namespace Go.Proofs.Ytlbcnaenhghieaa
open Go.RowKit Go.Maps
set_option maxRecDepth 100000

theorem HSH_fish {l : List Int} {n i : Nat} (hl : l.length = 32 * n) (hr : ∀ x ∈ l, 0 ≤ x ∧ x ≤ 255) (hi : i < n) : FISH (HSH l i) := ⟨HSH_length hl hi, fun x hx => hr x (HSH_mem hx)⟩
/-- a find beside what came in. -/
structure PTW (w wx : World) (p i : Nat) (l : List Int) (v : Value) (m : Option Nat) : Prop where
  find : FIND wx p p v m (HSH l) i
  bel : Below p w wx
theorem PTW.step {w wx wy : World} {p i j : Nat} {l : List Int} {v v' : Value} {m m' : Option Nat} (h : PTW w wx p i l v m) (hF : FIND wy p p v' m' (HSH l) j) (hS : FSTP wx wy p v m v' m') : PTW w wy p j l v' m' :=
  ⟨hF, ⟨hS.os.trans h.bel.os, hS.tape.trans h.bel.tape, hS.output.trans h.bel.output, Nat.le_trans h.bel.size hS.size, fun k hk => (hS.block k (by have := h.find.box.lt; omega) (fun e => by have := (h.find.lt k e).1; omega)).trans (h.bel.block k hk)⟩⟩
theorem PTW.keep {w wx wy : World} {p i : Nat} {l : List Int} {v : Value} {m : Option Nat} (h : PTW w wx p i l v m) (hb : Below wx.heap.size wx wy) : PTW w wy p i l v m := h.step (h.find.keep hb) (FSTP.of_below hb)
/-- how often each has been met, as cells. -/
def METC (l : List Int) (n i k : Nat) : List Value := (List.range n).map fun j => Value.int .i64 ((MET (HSH l) n i k j : Nat) : Int)
theorem METC_length (l : List Int) (n i k : Nat) : (METC l n i k).length = n := by simp [METC]
theorem METC_get {l : List Int} {n i k j : Nat} (h : j < n) : (METC l n i k)[j]? = some (.int .i64 ((MET (HSH l) n i k j : Nat) : Int)) := by
  unfold METC
  rw [List.getElem?_map, List.getElem?_range h]
  rfl
theorem METC_congr {l : List Int} {n i k i' k' : Nat} (h : ∀ j, j < n → MET (HSH l) n i k j = MET (HSH l) n i' k' j) : METC l n i k = METC l n i' k' := by
  unfold METC
  apply List.map_congr_left
  intro j hj
  rw [h j (List.mem_range.1 hj)]
theorem METC_set {l : List Int} {n i k x : Nat} (h0 : LSTI (HSH l) i (HSH l i) = -1) (hx : (ATS (HSH l) n (HSH l i))[k]? = some x) (hn : x < n) : (METC l n i k).set x (.int .i64 1) = METC l n i (k + 1) := by
  apply List.ext_getElem?
  intro j
  by_cases hj : j < n
  · rw [List.getElem?_set, METC_get hj, METC_get hj, METC_length]
    by_cases e : x = j
    · subst e
      rw [if_pos rfl, if_pos hn, (MET_hit h0 hx).2]
      rfl
    · rw [if_neg e, MET_miss hx (fun c => e c.symm)]
  · rw [List.getElem?_eq_none (by simp [METC]; omega), List.getElem?_eq_none (by simp [METC]; omega)]
structure PMT (w wx : World) (p gm n i k : Nat) (l : List Int) (v : Value) (m : Option Nat) : Prop where
  find : FIND wx p p v m (HSH l) n
  bel : Below p w wx
  met : Has wx gm (METC l n i k).toArray 3
  off : ∀ b, FFT p v m b → b < gm
  ge : p ≤ gm
theorem PMT.keep {w wx wy : World} {p gm n i k : Nat} {l : List Int} {v : Value} {m : Option Nat} (h : PMT w wx p gm n i k l v m) (hb : Below wx.heap.size wx wy) : PMT w wy p gm n i k l v m :=
  ⟨h.find.keep hb, h.bel.trans (hb.mono (Nat.le_of_lt h.find.box.lt)), h.met.keep hb, h.off, h.ge⟩
theorem PMT.turn {w wx : World} {p gm n i k i' k' : Nat} {l : List Int} {v : Value} {m : Option Nat} (h : PMT w wx p gm n i k l v m) (e : ∀ j, j < n → MET (HSH l) n i k j = MET (HSH l) n i' k' j) : PMT w wx p gm n i' k' l v m :=
  ⟨h.find, h.bel, by rw [← METC_congr e]; exact h.met, h.off, h.ge⟩
theorem PMT.hit {w wx : World} {p gm n i k x : Nat} {l : List Int} {v : Value} {m : Option Nat} (h : PMT w wx p gm n i k l v m) (h0 : LSTI (HSH l) i (HSH l i) = -1) (hx : (ATS (HSH l) n (HSH l i))[k]? = some x) (hn : x < n) : PMT w (wx.setCell ⟨gm, x, none⟩ (.int .i64 1)) p gm n i (k + 1) l v m := by
  refine ⟨h.find.at fun b hb => Below.heap_setCell _ _ _ b (fun e => by have := h.off b hb; simp only at e; omega), h.bel.setCell h.ge _, ?_, h.off, h.ge⟩
  have := h.met.set x (.int .i64 1)
  rw [List.setIfInBounds_toArray, METC_set h0 hx hn] at this
  exact this
theorem zeros_row (n : Nat) (hn : n ≤ 200) (w : World) : ∃ cur : Array Value, cur.toList = List.replicate n (.int .i64 0) ∧ (Instr.makeSlice 45 (.int .i64 (n : Int)) (.int .i64 (n : Int))).run Try.prog w = .ok (.slice (some ⟨w.heap.size, 0, none⟩) n n) (w.alloc (.cells cur 3)) := by
  have h0 : (Try.prog.info? 3).map (fun i => (i.zero, i.size, i.bytes)) = some (some (.int .i64 0), 1, 8) := by kernel_rfl
  obtain ⟨i, hi, hz, h1, h2⟩ := info_parts h0
  have h := run_make (P := Try.prog) w 45 3 i _ Try.underlying45 hi hz .i64 .i64 n n (by omega) (by omega) (by rw [h2]; omega) (by omega)
  refine ⟨madeCells (Value.int .i64 0).cells (n * i.size), ?_, ?_⟩
  · rw [h1, Nat.mul_one]
    simp [madeCells, Value.cells, Nat.mod_one, List.map_const']
  · exact h
set_option maxHeartbeats 8000000 in
theorem findParts_walk (l : List Int) (a : Option Addr) (n c k : Nat) (w : World) (hF : Flat w a n l) (hk : k < 2 ^ 64) : Calls Try.prog 4 #[.slice a n c, .int .u64 (k : Int)] w fun e w' => e = .returned (.bool true) ∧ Below w.heap.size w w' := by
  by_cases h200 : 200 < n
  · have hgt : (200 : Int) < (n : Int) := by omega
    clear hF
    go_enter Try.func4, Try.ntmps4
    go_wp2
    go_ret
    exact ⟨rfl, Below.refl _ _⟩
  have hN : n ≤ 200 := by omega
  have hgt : ¬ 200 < n := h200
  have HA : Aside (Flat w a n l ∧ n ≤ 200 ∧ k < 2 ^ 64 ∧ ∀ i, i < n → FISH (HSH l i)) := ⟨hF, hN, hk, fun i hi => HSH_fish hF.1 hF.2.2 hi⟩
  have hnew := find_new (HSH l) w
  clear hF h200 hk
  go_enter Try.func4, Try.ntmps4
  go_wp2_with fail
  refine hnew.mono ?_
  rintro e w1 ⟨rfl, F1, bl1⟩
  clear hnew
  obtain ⟨p, hp⟩ : ∃ p, w.heap.size = p := ⟨_, rfl⟩
  have HP : Aside (w.heap.size = p) := hp
  rw [hp] at F1 bl1 ⊢
  have P0 : Aside (PTW w w1 p 0 l (.slice none 0 0) none) := ⟨F1, bl1⟩
  clear F1 bl1 hp
  go_wp2_with fail
  go_loopg [6] n (fun q s6 wx => ∃ (i : Nat) (v : Value) (m : Option Nat), s6 = .int .i64 (i : Int) ∧ Aside (i + q = n ∧ PTW w wx p i l v m))
  case atStart => exact ⟨0, _, _, rfl, by omega, P0.out⟩
  case round =>
    obtain ⟨i, v, m, rfl, A⟩ := hrel
    cases gk with
    | succ q =>
      have hin : i < n := by have := A.out.1; omega
      have hlt : (i : Int) < (n : Int) := by omega
      obtain ⟨gl, ol, rfl, hgl, -⟩ := HA.out.1.2.1 (by omega)
      have hr : wr.rangeAt gl (ol + i * 32) (CELLS (HSH l i)) := (HA.out.1.below (by rw [HP.out]; exact A.out.2.bel)).at hin
      have h32 : (HSH l i).length = 32 := (HA.out.2.2.2 i hin).1
      have hadd := find_add A.out.2.find (HA.out.2.2.2 i hin) (by omega)
      have ei : wrap64 ((i : Int) + 1) = ((i + 1 : Nat) : Int) := by unfold wrap64; omega
      have R : Aside (i + 1 + q = n ∧ PTW w wr p i l v m) := ⟨by have := A.out.1; omega, A.out.2⟩
      clear A hin hgl
      go_wp2_with (first
        | (refine wpList_load_mid rfl 30 (.tmp 31) rfl gl (ol + i * 32) rfl (CELLS (HSH l i)) _ hr Try.underlying30 rfl (info_cells h32) ?_)
        | fail)
      refine hadd.mono ?_
      rintro e w2 ⟨v2, m2, rfl, F2, S2⟩
      have Z : Aside (PTW w w2 p (i + 1) l v2 m2) := R.out.2.step F2 S2
      clear hadd F2 S2 hr
      go_wp2
      go_roundg q
      case measure => exact Nat.lt_succ_self _
      case rel => exact ⟨i + 1, v2, m2, by first | rfl | rw [ei], R.out.1, Z.out⟩
    | zero =>
      obtain rfl : i = n := A.out.1
      have hlt : ¬ (i : Int) < (i : Int) := by omega
      obtain ⟨cur, hcur, hmk⟩ := zeros_row i hN wr
      obtain ⟨gm, hgm⟩ : ∃ g, wr.heap.size = g := ⟨_, rfl⟩
      have M0 : Aside (PMT w (wr.alloc (.cells cur 3)) p gm i 0 0 l v m) := by
        have hb : Below wr.heap.size wr (wr.alloc (.cells cur 3)) := (Below.refl _ _).alloc (Nat.le_refl _) _
        have ec : cur = (METC l i 0 0).toArray := by
          apply Array.ext'
          rw [hcur, List.toList_toArray]
          unfold METC
          simp only [MET_zero]
          simp [List.map_const']
        refine ⟨A.out.2.find.keep hb, A.out.2.bel.trans (hb.mono (Nat.le_of_lt A.out.2.find.box.lt)), ?_, fun b hb => ?_, ?_⟩
        · rw [← ec, ← hgm]
          exact Has.new _ _ _
        · have := (A.out.2.find.lt b hb).2
          omega
        · have := A.out.2.find.box.lt
          omega
      rw [hgm] at hmk
      obtain ⟨w3, hw3⟩ : ∃ w3, wr.alloc (.cells cur 3) = w3 := ⟨_, rfl⟩
      rw [hw3] at hmk M0
      clear A hcur hw3 hgm
      go_wp2_with fail
      clear hmk
      go_loopg [8, 9, 10, 11] i (fun q s8 s9 _ _ wx => ∃ (j : Nat), s8 = .int .i64 (UNL (HSH l) j : Nat) ∧ s9 = .int .i64 (j : Int) ∧ Aside (j + q = i ∧ PMT w wx p gm i j 0 l v m))
      case atStart => exact ⟨0, rfl, rfl, by omega, M0.out⟩
      case round =>
        obtain ⟨j, rfl, rfl, A⟩ := hrel
        cases gk with
        | succ q =>
          have hin : j < i := by have := A.out.1; omega
          have hlt : (j : Int) < (i : Int) := by omega
          obtain ⟨gl, ol, rfl, hgl, -⟩ := HA.out.1.2.1 (by omega)
          have hr0 : ∀ W, Below p w W → ∀ t, t < i → W.rangeAt gl (ol + t * 32) (CELLS (HSH l t)) := fun W hb t ht => (HA.out.1.below (by rw [HP.out]; exact hb)).at ht
          have hr := hr0 wr A.out.2.bel j hin
          have h32 : (HSH l j).length = 32 := (HA.out.2.2.2 j hin).1
          have hat := find_at A.out.2.find (by omega) (HA.out.2.2.2 j hin)
          have hju : IntKind.u64.wrap (j : Int) = (j : Int) := u64f (by omega)
          have hiu : IntKind.u64.wrap (i : Int) = (i : Int) := u64f (by omega)
          have HR : Aside (∀ W, Below p w W → ∀ t, t < i → W.rangeAt gl (ol + t * 32) (CELLS (HSH l t))) := hr0
          have R : Aside (j + 1 + q = i ∧ j < i ∧ PMT w wr p gm i j 0 l v m) := ⟨by have := A.out.1; omega, hin, A.out.2⟩
          clear A hgl hr0
          go_wp2_with (first
            | (refine wpList_load_mid rfl 30 (.tmp 46) rfl gl (ol + j * 32) rfl (CELLS (HSH l j)) _ hr Try.underlying30 rfl (info_cells h32) ?_)
            | fail)
          refine hat.mono ?_
          rintro e w4 ⟨aa, ac, rfl, hown, hb4⟩
          clear hat hr
          have hpos := ATS_pos (f := HSH l) hin
          have hfirst := ATS_first (f := HSH l) hin
          have hlen := ATS_length (HSH l) (HSH l j) i
          obtain ⟨kn, hkn⟩ : ∃ kn, (ATS (HSH l) i (HSH l j)).length = kn := ⟨_, rfl⟩
          obtain ⟨x0, hx0⟩ : ∃ x, (ATS (HSH l) i (HSH l j))[0]? = some x := ⟨_, List.getElem?_eq_getElem hpos⟩
          rw [hkn] at hown hpos hlen ⊢
          obtain ⟨ga, rfl, hga⟩ : ∃ g, aa = some ⟨g, 0, none⟩ ∧ wr.heap.size ≤ g := by
            rcases hown.2 with ⟨_, e0⟩ | ⟨g, cap, cur, e, hg, _⟩
            · omega
            · cases e
              exact ⟨g, rfl, hg⟩
          have M4 : PMT w w4 p gm i j 0 l v m := R.out.2.2.keep hb4
          have hgm : gm < ga := by have := R.out.2.2.met.lt; omega
          have hnega : Aside (ga ≠ gm) := by show ga ≠ gm; omega
          obtain ⟨S0, hS0⟩ : ∃ S, wr.heap.size = S := ⟨_, rfl⟩
          rw [hS0] at hown
          have c0 : w4.cell? ⟨ga, 0, none⟩ = some (.int .u64 (x0 : Int)) := by
            rw [hown.cellAt 0 (by omega), UCELLS_get, hx0]
            rfl
          have hkn0 : ((kn : Int) == 0) = false := by rw [beq_eq_false_iff_ne]; omega
          have hkn1 : (0 : Int) < (kn : Int) := by omega
          have RR : Aside (PMT w w4 p gm i j 0 l v m ∧ w4.ownsRow S0 31 1 (.slice (some ⟨ga, 0, none⟩) kn ac) kn (UCELLS (ATS (HSH l) i (HSH l j))) ∧ gm < ga ∧ kn ≤ i ∧ (ATS (HSH l) i (HSH l j)).length = kn) := ⟨M4, hown, hgm, hlen, hkn⟩
          have ej : wrap64 ((j : Int) + 1) = ((j + 1 : Nat) : Int) := by unfold wrap64; omega
          clear M4 hown hgm hlen hkn hb4 hga
          by_cases hl1 : LSTI (HSH l) j (HSH l j) = -1
          · have e0 : x0 = j := by
              have := hfirst.2 hl1
              rw [hx0] at this
              exact Option.some.inj this
            have eq1 : ((x0 : Int) == (j : Int)) = true := by rw [beq_iff_eq]; omega
            have eu : wrap64 (((UNL (HSH l) j : Nat) : Int) + 1) = ((UNL (HSH l) (j + 1) : Nat) : Int) := by
              rw [UNL, if_pos hl1]
              have := UNL_le (HSH l) j
              unfold wrap64
              omega
            have HL : Aside (LSTI (HSH l) j (HSH l j) = -1) := hl1
            clear hfirst hx0 hl1
            have HU : Aside (wrap64 (((UNL (HSH l) j : Nat) : Int) + 1) = ((UNL (HSH l) (j + 1) : Nat) : Int)) := eu
            go_wp2_with fail
            clear c0 eq1 hkn0 hkn1 hju eu
            have hBga : ∀ W : World, W.ownsRow S0 31 1 (.slice (some ⟨ga, 0, none⟩) kn ac) kn (UCELLS (ATS (HSH l) i (HSH l j))) → ∀ (t x : Nat), (ATS (HSH l) i (HSH l j))[t]? = some x → W.cell? ⟨ga, t, none⟩ = some (.int .u64 (x : Int)) := fun W h t x e => by
              have ht := (List.getElem?_eq_some_iff.1 e).1
              rw [h.cellAt t (by have := RR.out.2.2.2.2; omega), UCELLS_get, e]
              rfl
            have HG : Aside (∀ W : World, W.ownsRow S0 31 1 (.slice (some ⟨ga, 0, none⟩) kn ac) kn (UCELLS (ATS (HSH l) i (HSH l j))) → ∀ (t x : Nat), (ATS (HSH l) i (HSH l j))[t]? = some x → W.cell? ⟨ga, t, none⟩ = some (.int .u64 (x : Int))) := hBga
            clear hBga
            go_loopg [11] kn (fun z s11 wx => ∃ (t : Nat), s11 = .int .i64 (t : Int) ∧ Aside (t + z = kn ∧ PMT w wx p gm i j t l v m ∧ wx.ownsRow S0 31 1 (.slice (some ⟨ga, 0, none⟩) kn ac) kn (UCELLS (ATS (HSH l) i (HSH l j)))))
            case atStart => exact ⟨0, rfl, by omega, RR.out.1, RR.out.2.1⟩
            case round =>
              obtain ⟨t, rfl, B⟩ := hrel
              cases gk with
              | succ z =>
                have htk : t < kn := by have := B.out.1; omega
                have hltt : (t : Int) < (kn : Int) := by omega
                obtain ⟨x, hx⟩ : ∃ x, (ATS (HSH l) i (HSH l j))[t]? = some x := ⟨_, List.getElem?_eq_getElem (by have := RR.out.2.2.2.2; omega)⟩
                obtain ⟨hxi, hxe⟩ := ATS_mem.1 (List.mem_of_getElem? hx)
                have hxlt : (x : Int) < (i : Int) := by omega
                have hxge : ¬ (i : Int) ≤ (x : Int) := by omega
                have cx : ∀ W, W = wr.drew → W.cell? ⟨ga, t, none⟩ = some (.int .u64 (x : Int)) ∧ W.rangeAt gl (ol + x * 32) (CELLS (HSH l j)) ∧ W.rangeAt gl (ol + j * 32) (CELLS (HSH l j)) := by
                  rintro W rfl
                  refine ⟨HG.out _ B.out.2.2 t x hx, ?_, HR.out _ B.out.2.1.bel.drew j hin⟩
                  have := HR.out _ B.out.2.1.bel.drew x hxi
                  rwa [hxe] at this
                have k0 : wr.cell? ⟨gm, x, none⟩ = some (.int .i64 0) := by
                  rw [B.out.2.1.met.cell, List.getElem?_toArray, METC_get hxi, (MET_hit HL.out hx).1]
                  rfl
                have f0 : wr.frozen? ⟨gm, x, none⟩ = false := B.out.2.1.met.frozen x
                have l0 : wr.cell? ⟨ga, t, none⟩ = some (.int .u64 (x : Int)) := HG.out _ B.out.2.2 t x hx
                have et : wrap64 ((t : Int) + 1) = ((t + 1 : Nat) : Int) := by have := RR.out.2.2.2.1; unfold wrap64; omega
                have HX2 : Aside (t + 1 + z = kn ∧ PMT w (wr.drew.setCell ⟨gm, x, none⟩ (.int .i64 1)) p gm i j (t + 1) l v m ∧ (wr.drew.setCell ⟨gm, x, none⟩ (.int .i64 1)).ownsRow S0 31 1 (.slice (some ⟨ga, 0, none⟩) kn ac) kn (UCELLS (ATS (HSH l) i (HSH l j)))) := ⟨(Nat.add_right_comm t 1 z).trans B.out.1, (B.out.2.1.keep (Below.refl _ _).drew).hit HL.out hx hxi, ownsRow_setCell_other (w := wr.drew) (a := ⟨gm, x, none⟩) B.out.2.2 (fun e => hnega.out (by simpa [Value.ownBlock] using e)) _⟩
                have e11 : wrap64 ((0 : Int) + 1) = 1 := by simp [wrap64]
                clear B hxi hxe hx htk HG
                go_upto_region 23 with fail
                refine fparts23 wr gl ol i c ga kn ac j t x (HSH l j) h32 hltt hlt hxlt hxge hiu (fun W => W = wr.drew) rfl (fun W h => cx W h) (fun _ _ _ _ _ h => h) ?_
                rintro W rfl
                clear cx
                have k1 : wr.drew.cell? ⟨gm, x, none⟩ = some (.int .i64 0) := k0
                have f1 : wr.drew.frozen? ⟨gm, x, none⟩ = false := f0
                have l1 : wr.drew.cell? ⟨ga, t, none⟩ = some (.int .u64 (x : Int)) := l0
                clear k0 f0 l0
                generalize wr.drew = W2 at *
                go_wp2
                clear k1 f1 l1
                go_roundg z
                case measure => exact Nat.lt_succ_self _
                case rel => exact ⟨t + 1, by first | rfl | rw [et], HX2.out⟩
              | zero =>
                obtain rfl : t = kn := B.out.1
                have hltt : ¬ (t : Int) < (t : Int) := by omega
                have Z : Aside (PMT w wr p gm i (j + 1) 0 l v m) := by
                  have := B.out.2.1
                  rw [← RR.out.2.2.2.2] at this
                  exact this.turn fun y hy => MET_end hy
                have HQ : Aside (j + 1 + q = i) := R.out.1
                clear B HG RR HR R
                go_wp2_with fail
                go_roundg q
                case measure => exact Nat.lt_succ_self _
                case rel => exact ⟨j + 1, by first | rfl | rw [HU.out], by first | rfl | rw [ej], HQ.out, Z.out⟩
          · have e0 : x0 ≠ j := fun e => hl1 (hfirst.1 (by rw [hx0, e]))
            have eq1 : ((x0 : Int) == (j : Int)) = false := by rw [beq_eq_false_iff_ne]; omega
            have Z : Aside (PMT w w4 p gm i (j + 1) 0 l v m) := RR.out.1.turn fun t _ => MET_skip hl1
            have eu : UNL (HSH l) (j + 1) = UNL (HSH l) j := by rw [UNL, if_neg hl1]; rfl
            have HQ : Aside (j + 1 + q = i) := R.out.1
            clear hfirst hx0 hl1 RR HR R
            go_wp2_with fail
            go_roundg q
            case measure => exact Nat.lt_succ_self _
            case rel => exact ⟨j + 1, by rw [eu], by first | rfl | rw [ej], HQ.out, Z.out⟩
        | zero =>
          obtain rfl : j = i := A.out.1
          have M9 : Aside (PMT w wr p gm j j 0 l v m) := A.out.2
          have hltj : ¬ (j : Int) < (j : Int) := by omega
          clear A M0
          go_wp2_with fail
          go_loopg [12] j (fun q s12 wx => ∃ (i : Nat), s12 = .int .i64 (i : Int) ∧ wx = wr ∧ Aside (i + q = j))
          case atStart => exact ⟨0, rfl, rfl, by show 0 + j = j; omega⟩
          case round =>
            obtain ⟨i, rfl, rfl, A⟩ := hrel
            cases gk with
            | succ q =>
              have hin : i < j := by have := A.out; omega
              have hlt : (i : Int) < (j : Int) := by omega
              have m1 : wr.cell? ⟨gm, i, none⟩ = some (.int .i64 1) := by
                rw [M9.out.met.cell, List.getElem?_toArray, METC_get hin, MET_all hin]
                rfl
              have ei : wrap64 ((i : Int) + 1) = ((i + 1 : Nat) : Int) := by unfold wrap64; omega
              have HQ : Aside (i + 1 + q = j) := (Nat.add_right_comm i 1 q).trans A.out
              clear A
              go_wp2_with fail
              go_roundg q
              case measure => exact Nat.lt_succ_self _
              case rel => exact ⟨i + 1, by first | rfl | rw [ei], rfl, HQ.out⟩
            | zero =>
              obtain rfl : i = j := A.out
              have hun := find_unlike M9.out.find
              have huc : ((UNL (HSH l) i : Nat) : Int) = ((UNL (HSH l) i : Nat) : Int) := rfl
              have hiu : IntKind.u64.wrap (i : Int) = (i : Int) := u64f (by omega)
              have P9 : Aside (PTW w wr p i l v m) := ⟨M9.out.find, M9.out.bel⟩
              clear M9 A
              obtain ⟨U, hU⟩ : ∃ U, UNL (HSH l) i = U := ⟨_, rfl⟩
              rw [hU] at hun huc ⊢
              have HU : Aside (UNL (HSH l) i = U) := hU
              clear hU
              go_wp2_with fail
              refine hun.mono ?_
              rintro e w5 ⟨rfl, rfl⟩
              clear hun
              by_cases hk : i < k
              · have hki : (i : Int) < (k : Int) := by omega
                have hct := find_cut_no P9.out.find (by omega) k hk
                have hsz := find_size P9.out.find (by omega)
                have haw := awake22_ok wr
                have hui : ((i : Int) == (i : Int)) = true := by simp
                have Z : Aside (∀ w', Below wr.heap.size wr w' → Below w.heap.size w w') := fun w' hb => by
                  rw [HP.out]
                  exact P9.out.bel.trans (hb.mono (Nat.le_of_lt P9.out.find.box.lt))
                clear P9 HA
                go_wp2_with fail
                refine hct.mono ?_
                rintro e w6 ⟨rfl, rfl⟩
                clear hct
                go_wp2_with fail
                refine hsz.mono ?_
                rintro e w6 ⟨rfl, rfl⟩
                clear hsz
                go_wp2_with fail
                refine haw.mono ?_
                rintro e w6 ⟨rfl, hb6⟩
                have ZZ : Aside (Below w.heap.size w w6) := Z.out w6 hb6
                clear haw hb6 Z
                go_wp2
                go_ret
                exact ⟨rfl, ZZ.out⟩
              · have hki : ¬ (i : Int) < (k : Int) := by omega
                have hki2 : (decide (i < k)) = false := by rw [decide_eq_false_iff_not]; exact hk
                have hct := find_cut P9.out.find (by omega) k (by omega)
                have hkk : (decide (k = k)) = true := by simp
                go_wp2_with fail
                refine hct.mono ?_
                rintro e w6 ⟨v6, m6, rfl, F6, S6⟩
                have P6 : Aside (PTW w w6 p k l v6 m6) := P9.out.step F6 S6
                have hsz := find_size P6.out.find (by omega)
                have hke : ((k : Int) == (k : Int)) = true := by simp
                have hkb : ((k : Int) != (k : Int)) = false := by simp
                clear hct F6 S6 P9
                go_wp2_with fail
                refine hsz.mono ?_
                rintro e w7 ⟨rfl, rfl⟩
                clear hsz
                go_wp2_with fail
                go_loopg [13, 14, 15] (i - k) (fun q s13 _ _ wx => ∃ (j : Nat) (v : Value) (m : Option Nat), s13 = .int .u64 (j : Int) ∧ Aside (j + q = i ∧ PTW w wx p j l v m))
                case atStart => exact ⟨k, v6, m6, rfl, by show k + (i - k) = i; omega, P6.out⟩
                case round =>
                  obtain ⟨j, v, m, rfl, A⟩ := hrel
                  cases gk with
                  | succ q =>
                    have hji : j < i := by have := A.out.1; omega
                    have hlt : (j : Int) < (i : Int) := by omega
                    obtain ⟨gl, ol, rfl, hgl, -⟩ := HA.out.1.2.1 (by omega)
                    have hlf := find_leaf_no A.out.2.find (by omega) j (Nat.le_refl _) (by omega)
                    have h32 : (HSH l j).length = 32 := (HA.out.2.2.2 j hji).1
                    have hz := zeroHashF
                    have R : Aside (j + 1 + q = i ∧ PTW w wr p j l v m ∧ j < i) := ⟨(Nat.add_right_comm j 1 q).trans A.out.1, A.out.2, hji⟩
                    have ej : IntKind.u64.wrap ((j : Int) + 1) = ((j + 1 : Nat) : Int) := u64f (n := j + 1) (by omega)
                    clear A hgl
                    go_wp2_with fail
                    refine hlf.mono ?_
                    rintro e w8 ⟨rfl, hb8⟩
                    clear hlf
                    obtain ⟨bx, hbx⟩ : ∃ b, w8.heap.size = b := ⟨_, rfl⟩
                    have kz : Has (w8.alloc (.cells ZARR 30)) bx (CELLS ZND).toArray 30 := by rw [← hbx]; exact Has.new _ _ _
                    have hst := store_cellsF kz (y := ZND) rfl rfl
                    rw [← hbx, World.setRow_alloc_new, hbx] at hst
                    have hst2 : (storeCells ⟨bx, 0, none⟩ ZARR.toList 0).run Try.prog (w8.alloc (.cells ZARR 30)) = .ok () (w8.alloc (.cells ZARR 30)) := hst
                    have hb9 : Below wr.heap.size wr (w8.alloc (.cells ZARR 30)) := hb8.alloc hb8.size _
                    have hzs : ZARR.size = 32 := rfl
                    generalize ZARR = Z0 at *
                    obtain ⟨w9, hw9⟩ : ∃ w9, w8.alloc (.cells Z0 30) = w9 := ⟨_, rfl⟩
                    rw [hw9] at hst2 hb9
                    have P9 : PTW w w9 p j l v m := R.out.2.1.keep hb9
                    have hr : w9.rangeAt gl (ol + j * 32) (CELLS (HSH l j)) := (HA.out.1.below (by rw [HP.out]; exact P9.bel)).at R.out.2.2
                    have hadd := find_add P9.find (HA.out.2.2.2 j R.out.2.2) (by omega)
                    have RS : Aside (∀ w' v' m', FIND w' p p v' m' (HSH l) (j + 1) → FSTP w9 w' p v m v' m' → PTW w w' p (j + 1) l v' m') := fun w' v' m' h1 h2 => P9.step h1 h2
                    have hjj : ((j : Int) != (j : Int)) = false := by simp
                    clear kz hst hb8 hb9 P9
                    go_wp2_with (first
                      | (refine load_mid_if22 (by rfl) 30 (.tmp 162) rfl gl (ol + j * 32) rfl (CELLS (HSH l j)) _ hr Try.underlying30 rfl (info_cells h32) ?_)
                      | fail)
                    refine hadd.mono ?_
                    rintro e w10 ⟨v10, m10, rfl, F10, S10⟩
                    have ZZ : Aside (PTW w w10 p (j + 1) l v10 m10) := RS.out w10 v10 m10 F10 S10
                    clear hadd F10 S10 RS hst2 hw9 hr hz hzs
                    go_wp2_with fail
                    go_roundg q
                    case measure => exact Nat.lt_succ_self _
                    case rel => exact ⟨j + 1, v10, m10, by first | rfl | rw [ej], R.out.1, ZZ.out⟩
                  | zero =>
                    obtain rfl : j = i := A.out.1
                    have hlt : ¬ (j : Int) < (j : Int) := by omega
                    have hun := find_unlike A.out.2.find
                    rw [HU.out] at hun
                    have haw := awake22_ok wr
                    have hub : ((U : Int) == (U : Int)) = true := by simp
                    have Z : Aside (∀ w', Below wr.heap.size wr w' → Below w.heap.size w w') := fun w' hb => by
                      rw [HP.out]
                      exact A.out.2.bel.trans (hb.mono (Nat.le_of_lt A.out.2.find.box.lt))
                    clear A HA
                    go_wp2_with fail
                    refine hun.mono ?_
                    rintro e w6 ⟨rfl, rfl⟩
                    clear hun
                    go_wp2_with fail
                    refine haw.mono ?_
                    rintro e w6 ⟨rfl, hb6⟩
                    have ZZ : Aside (Below w.heap.size w w6) := Z.out w6 hb6
                    clear haw hb6 Z
                    go_wp2
                    go_ret
                    exact ⟨rfl, ZZ.out⟩
end Go.Proofs.Ytlbcnaenhghieaa

/- What a row gives the walks of layer 22: lists of hashes and numbers that came in. -/
namespace Go.Proofs.Ytlbcnaenhghieaa
open Go.ChangeShapes Go.WideShapes Go.ChangeAt Go.WideMaps Go.WideElems Go.RowKit
set_option maxRecDepth 100000

theorem own : ownKnob Try.prog.godebug = none := by kernel_rfl
theorem laidOut : laidOutB Try.prog = true := by kernel_rfl
theorem nat_of_u64 {b : Int} (h : (Lit.int .u64 b).wf = true) : ∃ a : Nat, b = (a : Int) ∧ a < 2 ^ 64 := by
  simp only [Lit.wf, Bool.and_eq_true, decide_eq_true_eq] at h
  obtain ⟨h1, h2⟩ := h
  have h3 : b < 18446744073709551616 := by
    have e : IntKind.u64.max = 18446744073709551615 := by decide
    omega
  have h0 : 0 ≤ b := by
    have e : IntKind.u64.min = 0 := by decide
    omega
  exact ⟨b.toNat, by omega, by omega⟩
theorem open_hashF {H : Type} {enc : TypeId × Value → H} {W : World} {fuel : Nat} {cs : List Value} {x : DataW H × List MemPlace} (hf : DataW.trod enc Try.prog W 0 (fun _ => true) true fuel 30 cs = some x) : ∃ h : List Int, h.length = 32 ∧ (∀ x ∈ h, 0 ≤ x ∧ x ≤ 255) ∧ cs = CELLS h := by
  obtain ⟨xs, m, rfl, _, hl, hn, hel⟩ := DataW.trod_array Try.underlying30 hf
  have c5 : Try.prog.cellsOf 5 = 1 := by kernel_rfl
  have c32 : Try.prog.cellsOf 30 = 32 := by kernel_rfl
  rw [c32] at hl
  have hx : ∀ i, i < 32 → ∃ k : Int, cs[i]? = some (.int .u8 k) ∧ 0 ≤ k ∧ k ≤ 255 := fun i hi => by
    have h0 := hel i hi
    rw [List.getElem?_eq_getElem (by omega), c5, Nat.mul_one] at h0
    obtain ⟨k, e1, _, e3⟩ := DataW.trod_int Try.underlying5 h0
    have hb := bounds_u8 e3
    refine ⟨k, ?_, by omega, by omega⟩
    have := congrArg (fun l => l[0]?) e1
    simpa using this
  have F : ∃ f : Nat → Int, ∀ i, i < 32 → cs[i]? = some (.int .u8 (f i)) ∧ 0 ≤ f i ∧ f i ≤ 255 := by
    refine ⟨fun i => if hi : i < 32 then (hx i hi).choose else 0, fun i hi => ?_⟩
    simp only [hi, dif_pos]
    exact (hx i hi).choose_spec
  obtain ⟨f, hf1⟩ := F
  refine ⟨(List.range 32).map f, by simp, fun x hx => ?_, ?_⟩
  · simp only [List.mem_map, List.mem_range] at hx
    obtain ⟨i, hi, rfl⟩ := hx
    exact (hf1 i hi).2
  · apply List.ext_getElem?
    intro i
    by_cases hi : i < 32
    · rw [(hf1 i hi).1, CELLS_get _ i (by simp; exact hi), List.getD_eq_getElem?_getD, List.getElem?_map, List.getElem?_range hi]
      rfl
    · rw [List.getElem?_eq_none (by omega), List.getElem?_eq_none (by simp [CELLS]; omega)]
/-- a list of hashes that came in. -/
theorem open_flatF {H : Type} {enc : TypeId × Value → H} {W : World} {fuel : Nat} {a : Option Addr} {k c : Nat} {x : DataW H × List MemPlace} (hf : DataW.trod enc Try.prog W 0 (fun _ => true) true fuel 26 [.slice a k c] = some x) :
    ∃ l : List Int, Flat W a k l ∧ (a = none → c = 0) ∧ k ≤ c := by
  rcases DataW.trod_slice Try.underlying26 hf with ⟨h0, _⟩ | ⟨ad, len, cap, elems, rest, n, _, h0, hx, _, hl, hm, hlen, hel, _, _⟩
  · simp at h0
    obtain ⟨rfl, rfl, rfl⟩ := h0
    exact ⟨[], ⟨rfl, fun h => absurd h (by omega), by simp⟩, fun _ => rfl, Nat.le_refl _⟩
  · simp at h0
    obtain ⟨rfl, rfl, rfl⟩ := h0
    have c32 : Try.prog.cellsOf 30 = 32 := by kernel_rfl
    have each : ∀ i, i < k → ∃ h : List Int, h.length = 32 ∧ (∀ x ∈ h, 0 ≤ x ∧ x ≤ 255) ∧ ∀ j, j < 32 → W.cell? ((ad.add (i * 32)).add j) = some (.int .u8 (h.getD j 0)) := fun i hi => by
      have h := hel i hi
      rw [List.getElem?_eq_getElem (by omega), c32, Option.bind_eq_some_iff] at h
      obtain ⟨cs, hcs, ht⟩ := h
      obtain ⟨f, h1, h2, rfl⟩ := open_hashF ht
      have hs := (World.cells?_some hcs).2.2
      refine ⟨f, h1, h2, fun j hj => ?_⟩
      have s := hs j hj
      rw [s]
      exact CELLS_get f j (by omega)
    have F : ∃ f : Nat → List Int, ∀ i, i < k → (f i).length = 32 ∧ (∀ x ∈ f i, 0 ≤ x ∧ x ≤ 255) ∧ ∀ j, j < 32 → W.cell? ((ad.add (i * 32)).add j) = some (.int .u8 ((f i).getD j 0)) := by
      refine ⟨fun i => if hi : i < k then (each i hi).choose else [], fun i hi => ?_⟩
      simp only [hi, dif_pos]
      exact (each i hi).choose_spec
    obtain ⟨f, hf2⟩ := F
    have hrange : ∀ i, i < k → ∀ j, j < 32 → 0 ≤ (f i).getD j 0 ∧ (f i).getD j 0 ≤ 255 := fun i hi j hj => by
      rw [List.getD_eq_getElem?_getD, List.getElem?_eq_getElem (by rw [(hf2 i hi).1]; exact hj)]
      exact (hf2 i hi).2.1 _ (List.getElem_mem _)
    refine ⟨(List.range (32 * k)).map fun m => (f (m / 32)).getD (m % 32) 0, ⟨by simp, fun h0k => ?_, fun x hx => ?_⟩, (fun e => by cases e), by omega⟩
    · obtain ⟨b, off, spot⟩ := ad
      have hc := (hf2 0 h0k).2.2 0 (by decide)
      have hspot : spot = none := by simpa [Addr.add] using World.cell?_spot hc
      subst hspot
      refine ⟨b, off, rfl, ?_, fun m hm => ?_⟩
      · have := World.block_lt_of_cell? W _ hc
        simpa [Addr.add] using this
      · have h1 := (hf2 (m / 32) (by omega)).2.2 (m % 32) (by omega)
        rw [addr_add, addr_add] at h1
        rw [List.getD_eq_getElem?_getD, List.getElem?_map, List.getElem?_range hm]
        simp only [Option.map_some, Option.getD_some]
        rw [← h1]
        congr 2
        omega
    · simp only [List.mem_map, List.mem_range] at hx
      obtain ⟨m, hm, rfl⟩ := hx
      exact hrange _ (by omega) _ (by omega)
/-- a list of hashes, as an argument. -/
theorem open_listF {H : Type} {enc : TypeId × Value → H} {W : World} {a : Option Addr} {k c : Nat} {d : DataW H} {ps : List MemPlace} (hd : DataW.Trod enc Try.prog W 0 (fun _ => true) true 26 (.slice a k c) d ps) : ∃ l : List Int, Flat W a k l ∧ (a = none → c = 0) ∧ k ≤ c := by
  obtain ⟨fuel, hf⟩ := hd
  exact open_flatF (by simpa [Value.cells] using hf)
end Go.Proofs.Ytlbcnaenhghieaa
