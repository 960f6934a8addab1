/- Texts of FindPlays, one behind the other: FindPlaysState, FindPlaysWalk, FindDoor, FindActDoor. -/
import Derived.Test.YtlbcnaenhghieaaProg
import Derived.Test.YtlbcnaenhghieaaChecked
import Derived.ProofKit
import Derived.OpenShut
import Derived.ChangeOld
import Derived.Below
import Derived.Carry
import Derived.SevenTiedAt
import Derived.Deep.Strs
import Derived.Test.YtlbcnaenhghieaaFindPlaysP14
import Derived.Test.YtlbcnaenhghieaaFindPlaysP15
/- The find and the document's side by side. -/
namespace Go.Proofs.Ytlbcnaenhghieaa
open Go.RowKit
set_option maxRecDepth 100000

structure PLS (w wx : World) (p p2 n n2 : Nat) (f : Nat → List Int) (v : Value) (m : Option Nat) (v2 : Value) : Prop where
  find : FIND wx p p v m f n
  ref : RFIND wx p p2 v2 f n2
  apart : ∀ k, FFT p v m k → ¬ FFT p2 v2 none k
  bel : Below p w wx
theorem PLS.congr {w wx : World} {p p2 n n2 : Nat} {f g : Nat → List Int} {v v2 : Value} {m : Option Nat} (h : PLS w wx p p2 n n2 f v m v2) (e : ∀ i, i < n → f i = g i) (e2 : ∀ i, i < n2 → f i = g i) : PLS w wx p p2 n n2 g v m v2 := ⟨h.find.congr e, h.ref.congr e2, h.apart, h.bel⟩
theorem PLS.one {w wx w' : World} {p p2 n n2 n' : Nat} {f : Nat → List Int} {v v2 v' : Value} {m m' : Option Nat} (h : PLS w wx p p2 n n2 f v m v2) (hF : FIND w' p p v' m' f n') (hS : FSTP wx w' p v m v' m') : PLS w w' p p2 n' n2 f v' m' v2 := by
  refine ⟨hF, h.ref.at fun k hk => hS.block k (h.ref.lt k hk).2 (fun e => h.apart k e hk), fun k e e2 => ?_, ⟨hS.os.trans h.bel.os, hS.tape.trans h.bel.tape, hS.output.trans h.bel.output, Nat.le_trans h.bel.size hS.size, fun k hk => (hS.block k (by have := h.find.box.lt; omega) (fun e => by have := (h.find.lt k e).1; omega)).trans (h.bel.block k hk)⟩⟩
  rcases hS.foot k e with c | c
  · exact h.apart k c e2
  · have := (h.ref.lt k e2).2
    omega
theorem PLS.two {w wx w' : World} {p p2 n n2 n' : Nat} {f : Nat → List Int} {v v2 v2' : Value} {m : Option Nat} (h : PLS w wx p p2 n n2 f v m v2) (hF : RFIND w' p p2 v2' f n') (hS : FSTP wx w' p2 v2 none v2' none) : PLS w w' p p2 n n' f v m v2' := by
  refine ⟨h.find.at fun k hk => hS.block k (h.find.lt k hk).2 (fun e => h.apart k hk e), hF, fun k e e2 => ?_, ⟨hS.os.trans h.bel.os, hS.tape.trans h.bel.tape, hS.output.trans h.bel.output, Nat.le_trans h.bel.size hS.size, fun k hk => (hS.block k (by have := h.find.box.lt; omega) (fun e => by have := (h.ref.lt k e).1; omega)).trans (h.bel.block k hk)⟩⟩
  rcases hS.foot k e2 with c | c
  · exact h.apart k e c
  · have := (h.find.lt k e).2
    omega
theorem PLS.keep {w wx w' : World} {p p2 n n2 : Nat} {f : Nat → List Int} {v v2 : Value} {m : Option Nat} (h : PLS w wx p p2 n n2 f v m v2) (hb : Below wx.heap.size wx w') : PLS w w' p p2 n n2 f v m v2 := h.one (h.find.keep hb) (FSTP.of_below hb)
/-- behind the first, the second, the third list. -/
def CH1 (W0 W : World) (k : Nat) (L : List Nat) (a1 : Option Addr) (c1 : Nat) : Prop := Below W0.heap.size W0 W ∧ W.ownsRow W0.heap.size 31 1 (.slice a1 k c1) k (UCELLS L)
def CH2 (W0 W : World) (k : Nat) (L : List Nat) (a1 : Option Addr) (c1 : Nat) (a2 : Option Addr) (c2 : Nat) : Prop := TWN W0 W W0.heap.size k (.slice a1 k c1) (.slice a2 k c2) L L
def CH3 (W0 W : World) (k : Nat) (L : List Nat) (a1 : Option Addr) (c1 : Nat) (a2 : Option Addr) (c2 : Nat) (a3 : Option Addr) (c3 : Nat) : Prop := TWN W0 W W0.heap.size k (.slice a1 k c1) (.slice a2 k c2) L L ∧ Nums W (.slice a3 k c3) L
theorem chain1 {w W0 : World} {p p2 n k : Nat} {f : Nat → List Int} {v v2 : Value} {m : Option Nat} {h : List Int} (H : PLS w W0 p p2 n n f v m v2) (hn : n ≤ 1000) (hh : FISH h) (hk : (ATS f n h).length = k) (W : World) (hb : Below W0.heap.size W0 W) : Calls Try.prog 9 #[.pointer (some ⟨p, 0, none⟩), .agg (CELLS h).toArray] W fun e w' => ∃ (a1 : Option Addr) (c1 : Nat), e = .returned (.slice a1 k c1) ∧ CH1 W0 w' k (ATS f n h) a1 c1 :=
  (find_at (H.keep hb).find (by omega) hh).mono (by
    rintro e w' ⟨a, c, rfl, h1, h2⟩
    rw [hk] at h1 ⊢
    exact ⟨a, c, rfl, hb.trans (h2.mono hb.size), own_mono h1 hb.size⟩)
theorem chain2 {w W0 : World} {p p2 n k : Nat} {f : Nat → List Int} {v v2 : Value} {m : Option Nat} {h : List Int} (H : PLS w W0 p p2 n n f v m v2) (hn : n ≤ 1000) (hh : FISH h) (hk : (ATS f n h).length = k) (a1 : Option Addr) (c1 : Nat) (W : World) (hc : CH1 W0 W k (ATS f n h) a1 c1) : Calls Try.prog 9 #[.pointer (some ⟨p, 0, none⟩), .agg (CELLS h).toArray] W fun e w' => ∃ (a2 : Option Addr) (c2 : Nat), e = .returned (.slice a2 k c2) ∧ CH2 W0 w' k (ATS f n h) a1 c1 a2 c2 :=
  (find_at (H.keep hc.1).find (by omega) hh).mono (by
    rintro e w' ⟨a, c, rfl, h1, h2⟩
    rw [hk] at h1 ⊢
    refine ⟨a, c, rfl, own_heap hc.2 fun j e => h2.block j (hc.2.lt j e).2, own_mono h1 hc.1.size, fun j e e2 => ?_, hc.1.trans (h2.mono hc.1.size)⟩
    have := (hc.2.lt j e).2
    have := (h1.lt j e2).1
    omega)
theorem chain3 {w W0 : World} {p p2 n k : Nat} {f : Nat → List Int} {v v2 : Value} {m : Option Nat} {h : List Int} (H : PLS w W0 p p2 n n f v m v2) (hn : n ≤ 1000) (hh : FISH h) (hk : (ATS f n h).length = k) (a1 : Option Addr) (c1 : Nat) (a2 : Option Addr) (c2 : Nat) (W : World) (hc : CH2 W0 W k (ATS f n h) a1 c1 a2 c2) : Calls Try.prog 10 #[.pointer (some ⟨p2, 0, none⟩), .agg (CELLS h).toArray] W fun e w' => ∃ (a3 : Option Addr) (c3 : Nat), e = .returned (.slice a3 k c3) ∧ CH3 W0 w' k (ATS f n h) a1 c1 a2 c2 a3 c3 :=
  (find_rat (H.keep hc.bel).ref (by omega) hh).mono (by
    rintro e w' ⟨a, c, rfl, h1, h2⟩
    rw [hk] at h1 ⊢
    exact ⟨a, c, rfl, hc.keep hc.bel.size h2, nums_own22 h1⟩)
theorem chain4 {W0 : World} {k : Nat} {L : List Nat} (hk : k ≤ 1000) (hL : L.length = k) (a1 : Option Addr) (c1 : Nat) (a2 : Option Addr) (c2 : Nat) (a3 : Option Addr) (c3 : Nat) (W : World) (hc : CH3 W0 W k L a1 c1 a2 c2 a3 c3) : Calls Try.prog 8 #[.slice a1 k c1, .slice a2 k c2, .slice a3 k c3] W fun e w' => e = .returned (.bool true) ∧ Below W0.heap.size W0 w' :=
  (same22_ok hc.2 ⟨hc.1.one, hc.1.two, hc.1.ne, Below.refl _ _⟩ hk hL hc.1.bel.size).mono (by
    rintro e w' ⟨rfl, hb⟩
    exact ⟨rfl, hc.1.bel.trans hb⟩)
/-- what stands at an index, or nothing. -/
theorem leaf_any {w W0 : World} {p p2 n : Nat} {f : Nat → List Int} {v v2 : Value} {m : Option Nat} (H : PLS w W0 p p2 n n f v m v2) (hn : n ≤ 1000) (I : Nat) (hI : I < 2 ^ 64) : ∃ (X : List Int) (E : Int), X.length = 32 ∧ (∀ W, Below W0.heap.size W0 W → Calls Try.prog 11 #[.pointer (some ⟨p, 0, none⟩), .int .u64 (I : Int)] W fun e w' => e = .returned (.tuple #[.agg (CELLS X).toArray, .int .i64 E]) ∧ Below W.heap.size W w') ∧ (∀ W, Below W0.heap.size W0 W → Calls Try.prog 12 #[.pointer (some ⟨p2, 0, none⟩), .int .u64 (I : Int)] W fun e w' => e = .returned (.tuple #[.agg (CELLS X).toArray, .int .i64 E]) ∧ Below W.heap.size W w') := by
  by_cases h : I < n
  · refine ⟨f I, 0, (H.find.is I h).1, fun W hb => ?_, fun W hb => ?_⟩
    · exact (find_leaf_yes (H.keep hb).find (by omega) I h).mono (by rintro e w' ⟨rfl, h2⟩; exact ⟨rfl, h2⟩)
    · exact (find_rleaf_yes (H.keep hb).ref (by omega) I h).mono (by rintro e w' ⟨rfl, h2⟩; exact ⟨rfl, h2⟩)
  · refine ⟨ZND, 32, rfl, fun W hb => ?_, fun W hb => ?_⟩
    · exact (find_leaf_no (H.keep hb).find (by omega) I (by omega) hI).mono (by rintro e w' ⟨rfl, h2⟩; exact ⟨by rw [ZARR_eq], h2⟩)
    · exact (find_rleaf_no (H.keep hb).ref (by omega) I (by omega) hI).mono (by rintro e w' ⟨rfl, h2⟩; exact ⟨by rw [ZARR_eq], h2⟩)
end Go.Proofs.Ytlbcnaenhghieaa

/- FindPlays: whatever is done to a find. -/
namespace Go.Proofs.Ytlbcnaenhghieaa
open Go.RowKit
set_option maxRecDepth 100000

/-- an act: what, the leaf, the number. -/
structure ACTT where
  what : Int
  leaf : List Int
  num : Nat
/-- an act's cells. -/
def ACT (t : ACTT) : List Value := .int .i64 t.what :: (CELLS t.leaf ++ [.int .u64 (t.num : Int)])
theorem ACT_length {t : ACTT} (h : t.leaf.length = 32) : (ACT t).length = 34 := by simp [ACT, CELLS, h]
theorem ACT_one (t : ACTT) : ∀ v ∈ ACT t, v.oneCell' = true := fun v hv => by
  rcases List.mem_cons.1 hv with rfl | h
  · rfl
  · rcases List.mem_append.1 h with h | h
    · exact CELLS_one _ v h
    · simp only [List.mem_singleton] at h
      subst h
      rfl
def ZACT : Array Value := #[.int .i64 0] ++ ZARR ++ #[.int .u64 0]
theorem zeroAct (w : World) : (zeroValue 33).run Try.prog w = .ok (.agg ZACT) w := by kernel_rfl
theorem ZACT_eq : ZACT = (ACT ⟨0, ZND, 0⟩).toArray := by kernel_rfl
theorem info_act {t : ACTT} (h : t.leaf.length = 32) : (Try.prog.info? 33).map (·.size) = some (ACT t).length := by
  rw [ACT_length h]
  kernel_rfl
theorem store_act {w : World} {g : Nat} {x y : ACTT} (h : Has w g (ACT x).toArray 33) (hx : x.leaf.length = 32) (hy : y.leaf.length = 32) : (storeCells ⟨g, 0, none⟩ (ACT y) 0).run Try.prog w = .ok () (w.setRow g (ACT y).toArray) := by
  have := run_storeCells_from (P := Try.prog) g 33 (ACT y) 0 _ w h (by simp [ACT_length hx, ACT_length hy]) (ACT_one y)
  simpa using this
/-- the acts that came in. -/
def ACTS (w : World) (a : Option Addr) (A : List ACTT) : Prop := 0 < A.length → ∃ b o, a = some ⟨b, o, none⟩ ∧ b < w.heap.size ∧ ∀ i t, A[i]? = some t → w.rangeAt b (o + i * 34) (ACT t)
/-- an act in a block of its own. -/
theorem act_facts {w : World} {bx : Nat} {t : ACTT} (h : Has w bx (ACT t).toArray 33) (hl : t.leaf.length = 32) : w.cell? ⟨bx, 0, none⟩ = some (.int .i64 t.what) ∧ w.rangeAt bx 1 (CELLS t.leaf) ∧ w.cell? ⟨bx, 33, none⟩ = some (.int .u64 (t.num : Int)) := by
  have hc : (CELLS t.leaf).length = 32 := by simp [CELLS, hl]
  refine ⟨by rw [h.cell]; rfl, fun j u hj => ?_, ?_⟩
  · have hj2 := (List.getElem?_eq_some_iff.1 hj).1
    rw [h.cell, List.getElem?_toArray, ACT, Nat.add_comm 1 j, List.getElem?_cons_succ, List.getElem?_append_left hj2]
    exact hj
  · rw [h.cell, List.getElem?_toArray, ACT, List.getElem?_cons_succ, List.getElem?_append_right (by omega), hc]
    rfl
theorem build_nil : Try.prog.built 28 [] = some #[.slice none 0 0] := by kernel_rfl
set_option maxHeartbeats 16000000 in
theorem findPlays_walk (A : List ACTT) (a : Option Addr) (n c : Nat) (w : World) (hA : ACTS w a A) (hl : A.length = n) (ht : ∀ t ∈ A, FISH t.leaf ∧ (Lit.int .i64 t.what).wf = true ∧ t.num < 2 ^ 64) : Calls Try.prog 3 #[.slice a n c] w fun e w' => e = .returned (.bool true) ∧ Below w.heap.size w w' := by
  by_cases h200 : 200 < n
  · have hgt : (200 : Int) < (n : Int) := by omega
    clear hA ht hl
    go_enter Try.func3, Try.ntmps3
    go_wp2
    go_ret
    exact ⟨rfl, Below.refl _ _⟩
  have hgt : (decide ((200 : Int) < (n : Int))) = false := by rw [decide_eq_false_iff_not]; omega
  have HA : Aside (ACTS w a A ∧ A.length = n ∧ n ≤ 200 ∧ ∀ t ∈ A, FISH t.leaf ∧ (Lit.int .i64 t.what).wf = true ∧ t.num < 2 ^ 64) := ⟨hA, hl, by omega, ht⟩
  have hnew := find_new (fun _ => ZND) w
  have hbn := build_nil
  clear hA hl ht h200
  go_enter Try.func3, Try.ntmps3
  go_wp2_with fail
  refine hnew.mono ?_
  rintro e w1 ⟨rfl, F1, bl1⟩
  clear hnew
  obtain ⟨p, hp⟩ : ∃ p, w.heap.size = p := ⟨_, rfl⟩
  have HP : Aside (w.heap.size = p) := hp
  rw [hp] at F1 bl1 ⊢
  obtain ⟨p2, hp2⟩ : ∃ p2, w1.heap.size = p2 := ⟨_, rfl⟩
  have hpp : p < p2 := by have := F1.box.lt; omega
  have P0 : Aside (PLS w (w1.alloc (.cells #[.slice none 0 0] 28)) p p2 0 0 (fun _ => ZND) (.slice none 0 0) none (.slice none 0 0)) := by
    have hb : Below w1.heap.size w1 (w1.alloc (.cells #[.slice none 0 0] 28)) := (Below.refl _ _).alloc (Nat.le_refl _) _
    refine ⟨F1.keep hb, ⟨by rw [← hp2]; exact Has.new _ _ _, World.ownsRow_nil _ _ _ _, fun i hi => by omega, by omega, fun e => by cases e⟩, ?_, bl1.trans (hb.mono (by omega))⟩
    rintro k (e | e | e) (e2 | e2 | e2)
    · omega
    · cases e2
    · cases e2
    · cases e
    · cases e
    · cases e
    · cases e
    · cases e
    · cases e
  have hbx : (Value.agg #[.slice none 0 0]).cells = #[.slice none 0 0] := rfl
  clear F1 bl1 hp
  go_wp2_with fail
  obtain ⟨w2, hw2⟩ : ∃ w2, w1.alloc (.cells #[.slice none 0 0] 28) = w2 := ⟨_, rfl⟩
  rw [hw2] at P0 ⊢
  clear hw2 hp2 hpp hbx hbn hgt
  go_loopg [5] n (fun q s5 wx => ∃ (i k : Nat) (f : Nat → List Int) (v : Value) (m : Option Nat) (v2 : Value), s5 = .int .i64 (i : Int) ∧ Aside (i + q = n ∧ k ≤ i ∧ PLS w wx p p2 k k f v m v2))
  case atStart => exact ⟨0, 0, _, _, _, _, rfl, by show 0 + n = n; omega, Nat.le_refl _, P0.out⟩
  case round =>
    obtain ⟨i, k, f, v, m, v2, rfl, A1⟩ := hrel
    cases gk with
    | succ q =>
      have hin : i < n := by have := A1.out.1; omega
      have hlt : (i : Int) < (n : Int) := by omega
      obtain ⟨b, o, rfl, hbl, hcs⟩ := HA.out.1 (by have := HA.out.2.1; omega)
      obtain ⟨t, ht⟩ : ∃ t, A[i]? = some t := ⟨_, List.getElem?_eq_getElem (by have := HA.out.2.1; omega)⟩
      obtain ⟨hfi, hwf, hnum⟩ := HA.out.2.2.2 t (List.mem_of_getElem? ht)
      have y1 : wr.rangeAt b (o + i * 34) (ACT t) := fun j u hj => (A1.out.2.2.bel.cell (p := ⟨b, o + i * 34 + j, none⟩) (by have := HP.out; show b < p; omega)).trans (hcs i t ht j u hj)
      have hia := info_act hfi.1
      obtain ⟨bx, hbx⟩ : ∃ b, wr.heap.size = b := ⟨_, rfl⟩
      obtain ⟨w3, hw3⟩ : ∃ w3, wr.alloc (.cells (ACT t).toArray 33) = w3 := ⟨_, rfl⟩
      have kz : Has (wr.alloc (.cells ZACT 33)) bx (ACT ⟨0, ZND, 0⟩).toArray 33 := by rw [← hbx, ← ZACT_eq]; exact Has.new _ _ _
      have hst := store_act kz rfl hfi.1 (y := t)
      rw [← hbx, World.setRow_alloc_new, hw3, hbx] at hst
      have kx : Has w3 bx (ACT t).toArray 33 := by rw [← hw3, ← hbx]; exact Has.new _ _ _
      have hb3 : Below wr.heap.size wr w3 := by rw [← hw3]; exact (Below.refl _ _).alloc (Nat.le_refl _) _
      have P3 : PLS w w3 p p2 k k f v m v2 := A1.out.2.2.keep hb3
      obtain ⟨f0, f1, f2⟩ := act_facts kx hfi.1
      have hz := zeroAct
      have hzl : (ACT t).length = 34 := ACT_length hfi.1
      have ei : wrap64 ((i : Int) + 1) = ((i + 1 : Nat) : Int) := by have := HA.out.2.2.1; unfold wrap64; omega
      have OFF : Aside ((∀ j, FFT p v m j → j < bx) ∧ (∀ j, FFT p2 v2 none j → j < bx)) := ⟨fun j e => by have := (A1.out.2.2.find.lt j e).2; omega, fun j e => by have := (A1.out.2.2.ref.lt j e).2; omega⟩
      have R : Aside (i + 1 + q = n ∧ k ≤ i ∧ PLS w w3 p p2 k k f v m v2 ∧ Has w3 bx (ACT t).toArray 33 ∧ FISH t.leaf ∧ t.num < 2 ^ 64 ∧ i ≤ 200 ∧ bx < w3.heap.size) := ⟨(Nat.add_right_comm i 1 q).trans A1.out.1, A1.out.2.1, P3, kx, hfi, hnum, by have := HA.out.2.2.1; omega, kx.lt⟩
      have EQ : Aside (ACT t = ACT t) := rfl
      generalize hE : ACT t = E at y1 hia hst hzl
      clear A1 hbl hcs kz kx P3 hin hw3 hb3 ht
      generalize ZACT = Z at hz hst
      go_upto_region 12 with (first
        | (refine wpList_load_mid rfl 33 (.tmp 28) rfl b (o + i * 34) rfl E _ y1 Try.underlying33 rfl hia ?_)
        | fail)
      clear hst hz y1 hia hzl hE EQ hbx
      have DONE : Aside (∀ W, (∃ k f v m v2, k ≤ i + 1 ∧ PLS w W p p2 k k f v m v2) → ∃ (i' k : Nat) (f : Nat → List Int) (v : Value) (m : Option Nat) (v2 : Value), Value.int .i64 (wrap64 ((i : Int) + 1)) = .int .i64 (i' : Int) ∧ Aside (i' + q = n ∧ k ≤ i' ∧ PLS w W p p2 k k f v m v2)) := fun W ⟨k, f, v, m, v2, h1, h2⟩ => ⟨i + 1, k, f, v, m, v2, by rw [ei], R.out.1, h1, h2⟩
      have DONE2 : Aside (∀ W, (∃ k f v m v2, k ≤ i + 1 ∧ PLS w W p p2 k k f v m v2) → ∃ (i' k : Nat) (f : Nat → List Int) (v : Value) (m : Option Nat) (v2 : Value), Value.int .i64 ((i : Int) + 1) = .int .i64 (i' : Int) ∧ Aside (i' + q = n ∧ k ≤ i' ∧ PLS w W p p2 k k f v m v2)) := fun W ⟨k, f, v, m, v2, h1, h2⟩ => ⟨i + 1, k, f, v, m, v2, rfl, R.out.1, h1, h2⟩
      by_cases d1 : t.what = 1
      · have e1 : (t.what == 1) = true := by simp [d1]
        rw [d1] at f0 ⊢
        go_upto_region 13 with fail
        obtain ⟨g, hg1, hg2⟩ : ∃ g : Nat → List Int, (∀ j, j < k → f j = g j) ∧ g k = t.leaf := ⟨fun j => if j = k then t.leaf else f j, fun j hj => (if_neg (by omega)).symm, if_pos rfl⟩
        refine fplays13 w3 p p2 bx t.leaf R.out.2.2.2.2.1.1 k (fun W => W = w3.drew) (fun W => (∃ v' m', PLS w W p p2 (k + 1) k g v' m' v2) ∧ Has W bx (ACT t).toArray 33) (fun W => (∃ v' m' v2', PLS w W p p2 (k + 1) (k + 1) g v' m' v2') ∧ Has W bx (ACT t).toArray 33) rfl ?_ ?_ ?_ ?_ ?_ (fun _ _ _ _ _ h => h) ?_
        · rintro W rfl
          exact f1
        · exact fun W h => (act_facts h.2 R.out.2.2.2.2.1.1).2.1
        · exact fun W h => (act_facts h.2 R.out.2.2.2.2.1.1).2.1
        · rintro W rfl
          have P : PLS w w3.drew p p2 k k g v m v2 := (R.out.2.2.1.keep (Below.refl _ _).drew).congr hg1 hg1
          have c := find_add P.find (by rw [hg2]; exact R.out.2.2.2.2.1) (by have := R.out.2.1; have := R.out.2.2.2.2.2.2.1; omega)
          rw [hg2] at c
          refine c.mono ?_
          rintro e w' ⟨v', m', rfl, F', S'⟩
          exact ⟨rfl, ⟨v', m', P.one F' S'⟩, S'.has (show Has w3.drew bx _ _ from R.out.2.2.2.1) fun e => by have := OFF.out.1 bx e; omega⟩
        · rintro W ⟨⟨v', m', P⟩, hx⟩
          have c := find_radd P.ref (by rw [hg2]; exact R.out.2.2.2.2.1) (by have := R.out.2.1; have := R.out.2.2.2.2.2.2.1; omega)
          rw [hg2] at c
          refine c.mono ?_
          rintro e w' ⟨v2', rfl, F', S'⟩
          exact ⟨rfl, ⟨v', m', v2', P.two F' S'⟩, S'.has hx fun e => by have := OFF.out.2 bx e; omega⟩
        · rintro W ⟨⟨v', m', v2', P⟩, -⟩
          have Z : Aside (∃ k f v m v2, k ≤ i + 1 ∧ PLS w W p p2 k k f v m v2) := ⟨k + 1, _, v', m', v2', by have := R.out.2.1; omega, P⟩
          clear P R OFF f0 f1 f2
          go_wp2
          go_roundg q
          case measure => exact Nat.lt_succ_self _
          case rel => first | exact DONE2.out _ Z.out | exact DONE.out _ Z.out
      by_cases d2 : t.what = 2
      · rw [d2] at f0 ⊢
        go_upto_region 16 with fail
        have hkl : (ATS f k t.leaf).length ≤ 1000 := by have := ATS_length f t.leaf k; have := R.out.2.1; have := R.out.2.2.2.2.2.2.1; omega
        have hk5 : k ≤ 1000 := by have := R.out.2.1; have := R.out.2.2.2.2.2.2.1; omega
        have PD : Aside (PLS w w3.drew p p2 k k f v m v2) := R.out.2.2.1.keep (Below.refl _ _).drew
        have hx3 : ∀ W, Below w3.drew.heap.size w3.drew W → W.rangeAt bx 1 (CELLS t.leaf) := fun W hb => (act_facts ((show Has w3.drew bx _ _ from R.out.2.2.2.1).keep hb) R.out.2.2.2.2.1.1).2.1
        refine fplays16 w3 p p2 (ATS f k t.leaf).length bx t.leaf R.out.2.2.2.2.1.1 (fun W => Below w3.drew.heap.size w3.drew W) (fun a1 c1 W => CH1 w3.drew W _ (ATS f k t.leaf) a1 c1) (fun a1 c1 a2 c2 W => CH2 w3.drew W _ (ATS f k t.leaf) a1 c1 a2 c2) (fun a1 c1 a2 c2 a3 c3 W => CH3 w3.drew W _ (ATS f k t.leaf) a1 c1 a2 c2 a3 c3) (fun W => Below w3.drew.heap.size w3.drew W) (Below.refl _ _) (fun W h => hx3 W h) (fun _ _ W h => hx3 W h.1) (fun _ _ _ _ W h => hx3 W h.bel) (fun _ _ _ _ _ _ W h => hx3 W h.1.bel) (fun W h => hx3 W h) (fun W h => chain1 PD.out hk5 R.out.2.2.2.2.1 rfl W h) (fun a1 c1 W h => chain2 PD.out hk5 R.out.2.2.2.2.1 rfl a1 c1 W h) (fun a1 c1 a2 c2 W h => chain3 PD.out hk5 R.out.2.2.2.2.1 rfl a1 c1 a2 c2 W h) (fun a1 c1 a2 c2 a3 c3 W h => chain4 hkl rfl a1 c1 a2 c2 a3 c3 W h) (fun _ _ _ _ _ h => h) ?_
        intro a1 c1 a2 c2 a3 c3 W hb
        have Z : Aside (∃ k f v m v2, k ≤ i + 1 ∧ PLS w W p p2 k k f v m v2) := ⟨k, f, v, m, v2, by have := R.out.2.1; omega, PD.out.keep hb⟩
        clear PD R OFF f0 f1 f2 hb hx3
        go_wp2
        go_roundg q
        case measure => exact Nat.lt_succ_self _
        case rel => first | exact DONE2.out _ Z.out | exact DONE.out _ Z.out
      by_cases d3 : t.what = 3
      · rw [d3] at f0 ⊢
        obtain ⟨X, E0, hX, c1, c2⟩ := leaf_any R.out.2.2.1 (by have := R.out.2.1; have := R.out.2.2.2.2.2.2.1; omega) t.num R.out.2.2.2.2.2.1
        have CA := c1 w3 (Below.refl _ _)
        have CB : Aside (∀ W, Below w3.heap.size w3 W → Calls Try.prog 12 #[.pointer (some ⟨p2, 0, none⟩), .int .u64 (t.num : Int)] W fun e w' => e = .returned (.tuple #[.agg (CELLS X).toArray, .int .i64 E0]) ∧ Below W.heap.size W w') := c2
        have hz2 := zeroHashF
        have hXl : (CELLS X).length = 32 := by simp [CELLS, hX]
        have ROWH : Aside (∀ W : World, (storeCells ⟨W.heap.size, 0, none⟩ (CELLS X) 0).run Try.prog (W.alloc (.cells ZARR 30)) = .ok () (W.alloc (.cells (CELLS X).toArray 30))) := fun W => by
          have h := store_cellsF (x := ZND) (y := X) (g := W.heap.size) (w := W.alloc (.cells (CELLS ZND).toArray 30)) (Has.new _ _ _) rfl hX
          rw [World.setRow_alloc_new] at h
          exact h
        have HXS : Aside (X.length = 32) := hX
        clear c1 c2 hX
        generalize ZARR = Z1 at *
        go_wp2_with fail
        refine CA.mono ?_
        rintro e w4 ⟨rfl, hb4⟩
        clear CA
        have st4 := ROWH.out w4
        obtain ⟨b7, hb7⟩ : ∃ b, w4.heap.size = b := ⟨_, rfl⟩
        obtain ⟨w5, hw5⟩ : ∃ w5, w4.alloc (.cells (CELLS X).toArray 30) = w5 := ⟨_, rfl⟩
        have k7 : Has w5 b7 (CELLS X).toArray 30 := by rw [← hw5, ← hb7]; exact Has.new _ _ _
        have hb5 : Below w3.heap.size w3 w5 := by rw [← hw5]; exact hb4.alloc hb4.size _
        rw [hw5, hb7] at st4
        have f5 : w5.cell? ⟨bx, 33, none⟩ = some (.int .u64 (t.num : Int)) := (act_facts (R.out.2.2.2.1.keep hb5) R.out.2.2.2.2.1.1).2.2
        have c5 := CB.out w5 hb5
        clear hw5 hb4
        go_wp2_with fail
        refine c5.mono ?_
        rintro e w6 ⟨rfl, hb6⟩
        clear c5 CB f5 st4 hb7
        have st6 := ROWH.out w6
        obtain ⟨b9, hb9⟩ : ∃ b, w6.heap.size = b := ⟨_, rfl⟩
        obtain ⟨w7, hw7⟩ : ∃ w7, w6.alloc (.cells (CELLS X).toArray 30) = w7 := ⟨_, rfl⟩
        have k9 : Has w7 b9 (CELLS X).toArray 30 := by rw [← hw7, ← hb9]; exact Has.new _ _ _
        have hb7 : Below w5.heap.size w5 w7 := by rw [← hw7]; exact hb6.alloc hb6.size _
        have k7' : Has w7 b7 (CELLS X).toArray 30 := k7.keep hb7
        rw [hw7, hb9] at st6
        have Z : Aside (∃ k f v m v2, k ≤ i + 1 ∧ PLS w w7 p p2 k k f v m v2) := ⟨k, f, v, m, v2, by have := R.out.2.1; omega, R.out.2.2.1.keep (hb5.trans (hb7.mono hb5.size))⟩
        have HX : Aside (X.length = 32 ∧ Has w7 b9 (CELLS X).toArray 30 ∧ Has w7 b7 (CELLS X).toArray 30) := ⟨HXS.out, k9, k7'⟩
        have hEE : ((E0 : Int) != E0) = false := by simp
        clear R OFF f0 f1 f2 hb5 hb6 hb7 k7 k9 k7' hw7 ROWH HXS hfi hwf hnum
        go_wp2_with (first
          | (refine load_mid_if22 (by rfl) 30 (.tmp 7) rfl b7 0 rfl (CELLS X) _ (has_rangef HX.out.2.2) Try.underlying30 rfl (info_cells HX.out.1) ?_)
          | (refine load_mid_if22 (by rfl) 30 (.tmp 9) rfl b9 0 rfl (CELLS X) _ (has_rangef HX.out.2.1) Try.underlying30 rfl (info_cells HX.out.1) ?_)
          | (refine plain_if22 (by rfl) (run_value (neq_cells X HX.out.1 _ _ _)) ?_)
          | fail)
        go_wp2
        go_roundg q
        case measure => exact Nat.lt_succ_self _
        case rel => first | exact DONE2.out _ Z.out | exact DONE.out _ Z.out
      by_cases d4 : t.what = 4
      · rw [d4] at f0 ⊢
        have c4 := tells22_ok R.out.2.2.1.find R.out.2.2.1.ref (by have := R.out.2.1; have := R.out.2.2.2.2.2.2.1; omega)
        go_wp2_with fail
        refine c4.mono ?_
        rintro e W ⟨rfl, hb⟩
        have Z : Aside (∃ k f v m v2, k ≤ i + 1 ∧ PLS w W p p2 k k f v m v2) := ⟨k, f, v, m, v2, by have := R.out.2.1; omega, R.out.2.2.1.keep hb⟩
        clear c4 hb R OFF f0 f1 f2
        go_wp2
        go_roundg q
        case measure => exact Nat.lt_succ_self _
        case rel => first | exact DONE2.out _ Z.out | exact DONE.out _ Z.out
      by_cases d5 : t.what = 5
      · rw [d5] at f0 ⊢
        go_upto_region 27 with fail
        have hk5 : k < 100000 := by have := R.out.2.1; have := R.out.2.2.2.2.2.2.1; omega
        have PD : Aside (PLS w w3.drew p p2 k k f v m v2) := R.out.2.2.1.keep (Below.refl _ _).drew
        by_cases hI : t.num ≤ k
        · refine fplays27 w3 p p2 bx t.num 0 (fun W => W = w3.drew) (fun W => (∃ v' m', PLS w W p p2 t.num k f v' m' v2) ∧ Has W bx (ACT t).toArray 33) (fun W => (∃ v' m' v2', PLS w W p p2 t.num t.num f v' m' v2') ∧ Has W bx (ACT t).toArray 33) rfl ?_ ?_ ?_ ?_ ?_ (fun _ _ _ _ _ h => h) ?_
          · rintro W rfl
            exact f2
          · exact fun W h => (act_facts h.2 R.out.2.2.2.2.1.1).2.2
          · exact fun W h => (act_facts h.2 R.out.2.2.2.2.1.1).2.2
          · rintro W rfl
            refine (find_cut PD.out.find hk5 t.num hI).mono ?_
            rintro e w' ⟨v', m', rfl, F', S'⟩
            exact ⟨rfl, ⟨v', m', PD.out.one F' S'⟩, S'.has (show Has w3.drew bx _ _ from R.out.2.2.2.1) fun e => by have := OFF.out.1 bx e; omega⟩
          · rintro W ⟨⟨v', m', P⟩, hx⟩
            refine (find_rcut P.ref hk5 t.num hI).mono ?_
            rintro e w' ⟨v2', rfl, F', S'⟩
            exact ⟨rfl, ⟨v', m', v2', P.two F' S'⟩, S'.has hx fun e => by have := OFF.out.2 bx e; omega⟩
          · rintro W ⟨⟨v', m', v2', P⟩, -⟩
            have Z : Aside (∃ k f v m v2, k ≤ i + 1 ∧ PLS w W p p2 k k f v m v2) := ⟨t.num, f, v', m', v2', by have := R.out.2.1; omega, P⟩
            clear P PD R OFF f0 f1 f2
            go_wp2
            go_roundg q
            case measure => exact Nat.lt_succ_self _
            case rel => first | exact DONE2.out _ Z.out | exact DONE.out _ Z.out
        · refine fplays27 w3 p p2 bx t.num 30 (fun W => W = w3.drew) (fun W => W = w3.drew) (fun W => W = w3.drew) rfl ?_ ?_ ?_ ?_ ?_ (fun _ _ _ _ _ h => h) ?_
          · rintro W rfl
            exact f2
          · rintro W rfl
            exact f2
          · rintro W rfl
            exact f2
          · rintro W rfl
            refine (find_cut_no PD.out.find hk5 t.num (by omega)).mono ?_
            rintro e w' ⟨rfl, rfl⟩
            exact ⟨rfl, rfl⟩
          · rintro W rfl
            refine (find_rcut_no PD.out.ref hk5 t.num (by omega)).mono ?_
            rintro e w' ⟨rfl, rfl⟩
            exact ⟨rfl, rfl⟩
          · rintro W rfl
            have Z : Aside (∃ k f v m v2, k ≤ i + 1 ∧ PLS w w3.drew p p2 k k f v m v2) := ⟨k, f, v, m, v2, by have := R.out.2.1; omega, PD.out⟩
            clear PD R OFF f0 f1 f2
            go_wp2
            go_roundg q
            case measure => exact Nat.lt_succ_self _
            case rel => first | exact DONE2.out _ Z.out | exact DONE.out _ Z.out
      · have Z : Aside (∃ k f v m v2, k ≤ i + 1 ∧ PLS w w3 p p2 k k f v m v2) := ⟨k, f, v, m, v2, by have := R.out.2.1; omega, R.out.2.2.1⟩
        have e1 : (t.what == 1) = false := by simp [d1]
        have e2 : (t.what == 2) = false := by simp [d2]
        have e3 : (t.what == 3) = false := by simp [d3]
        have e4 : (t.what == 4) = false := by simp [d4]
        have e5 : (t.what == 5) = false := by simp [d5]
        clear R OFF f1 f2 hfi hwf hnum d1 d2 d3 d4 d5
        generalize t.what = tw at *
        go_wp2
        go_roundg q
        case measure => exact Nat.lt_succ_self _
        case rel => first | exact DONE2.out _ Z.out | exact DONE.out _ Z.out
    | zero =>
      obtain rfl : i = n := A1.out.1
      have hlt : ¬ (i : Int) < (i : Int) := by omega
      obtain ⟨W0, rfl⟩ : ∃ W0, W0 = wr := ⟨_, rfl⟩
      have PQ : Aside (PLS w W0 p p2 k k f v m v2 ∧ k ≤ 1000) := ⟨A1.out.2.2, by have := A1.out.2.1; have := HA.out.2.2.1; omega⟩
      obtain ⟨a2, c2, rfl, -, hg2⟩ := PQ.out.1.ref.slice
      have HG : Aside (0 < k → ∃ g, a2 = some ⟨g, 0, none⟩) := hg2
      clear A1 HA P0 hg2
      go_wp2_with fail
      go_loopg [11] k (fun q s11 wx => ∃ (j : Nat), s11 = .int .i64 (j : Int) ∧ Aside (j + q = k ∧ Below W0.heap.size W0 wx))
      case atStart => exact ⟨0, rfl, by show 0 + k = k; omega, Below.refl _ _⟩
      case round =>
        obtain ⟨j, rfl, B⟩ := hrel
        have P : PLS w wr p p2 k k f v m (.slice a2 k c2) := PQ.out.1.keep B.out.2
        have x0 := P.ref.box.cell 0
        cases gk with
        | succ q =>
          have hjk : j < k := by have := B.out.1; omega
          have hlt : (j : Int) < (k : Int) := by omega
          obtain ⟨g, rfl⟩ := HG.out (by omega)
          have hkl : (ATS f k (f j)).length ≤ 1000 := by have := ATS_length f (f j) k; have := PQ.out.2; omega
          have PD : Aside (PLS w wr.drew p p2 k k f v m (.slice (some ⟨g, 0, none⟩) k c2) ∧ FISH (f j) ∧ j < k ∧ k ≤ 1000) := ⟨P.keep (Below.refl _ _).drew, P.ref.is j hjk, hjk, PQ.out.2⟩
          have HQ : Aside (j + 1 + q = k ∧ Below W0.heap.size W0 wr.drew) := ⟨(Nat.add_right_comm j 1 q).trans B.out.1, B.out.2.drew⟩
          have ej : wrap64 ((j : Int) + 1) = ((j + 1 : Nat) : Int) := by have := PQ.out.2; unfold wrap64; omega
          have hx3 : ∀ W, Below wr.drew.heap.size wr.drew W → W.cell? ⟨p2, 0, none⟩ = some (.slice (some ⟨g, 0, none⟩) k c2) ∧ W.rangeAt g (j * 32) (CELLS (f j)) := fun W hb => ⟨(PD.out.1.keep hb).ref.box.cell 0, (PD.out.1.keep hb).ref.hash PD.out.2.2.1⟩
          clear B P hjk
          go_upto_region 32 with fail
          clear x0
          refine fplays32 wr p p2 (ATS f k (f j)).length g k c2 j hlt (f j) PD.out.2.1.1 (fun W => Below wr.drew.heap.size wr.drew W) (fun a1 c1 W => CH1 wr.drew W _ (ATS f k (f j)) a1 c1) (fun a1 c1 a2 c2 W => CH2 wr.drew W _ (ATS f k (f j)) a1 c1 a2 c2) (fun a1 c1 a2 c2 a3 c3 W => CH3 wr.drew W _ (ATS f k (f j)) a1 c1 a2 c2 a3 c3) (fun W => Below wr.drew.heap.size wr.drew W) (Below.refl _ _) (fun W h => hx3 W h) (fun _ _ W h => hx3 W h.1) (fun _ _ _ _ W h => hx3 W h.bel) (fun _ _ _ _ _ _ W h => hx3 W h.1.bel) (fun W h => hx3 W h) (fun W h => chain1 PD.out.1 PD.out.2.2.2 PD.out.2.1 rfl W h) (fun a1 c1 W h => chain2 PD.out.1 PD.out.2.2.2 PD.out.2.1 rfl a1 c1 W h) (fun a1 c1 a2 c2 W h => chain3 PD.out.1 PD.out.2.2.2 PD.out.2.1 rfl a1 c1 a2 c2 W h) (fun a1 c1 a2 c2 a3 c3 W h => chain4 hkl rfl a1 c1 a2 c2 a3 c3 W h) (fun _ _ _ _ _ h => h) ?_
          intro a1 c1 a2 c2' a3 c3 W hb
          have Z : Aside (Below W0.heap.size W0 W) := HQ.out.2.trans (hb.mono HQ.out.2.size)
          have HQ2 : Aside (j + 1 + q = k) := HQ.out.1
          clear PD hb hx3 HQ hkl
          go_wp2
          go_roundg q
          case measure => exact Nat.lt_succ_self _
          case rel => exact ⟨j + 1, by first | rfl | rw [ej], HQ2.out, Z.out⟩
        | zero =>
          obtain rfl : j = k := B.out.1
          have hlt : ¬ (j : Int) < (j : Int) := by omega
          have ct := tells22_ok P.find P.ref (by have := PQ.out.2; omega)
          have Z : Aside (∀ W, Below wr.heap.size wr W → Below w.heap.size w W) := fun W hb => by
            rw [HP.out]
            exact P.bel.trans (hb.mono (by have := P.find.box.lt; omega))
          clear P B PQ
          go_wp2_with fail
          refine ct.mono ?_
          rintro e w5 ⟨rfl, hb5⟩
          have ca := awake22_ok w5
          clear ct
          go_wp2_with fail
          refine ca.mono ?_
          rintro e w6 ⟨rfl, hb6⟩
          have ZZ : Aside (Below w.heap.size w w6) := Z.out w6 (hb5.trans (hb6.mono hb5.size))
          clear ca hb5 hb6 Z
          go_wp2
          go_ret
          exact ⟨rfl, ZZ.out⟩
end Go.Proofs.Ytlbcnaenhghieaa

/- What a row gives the walks of layer 22: lists of hashes and numbers that came in. -/
namespace Go.Proofs.Ytlbcnaenhghieaa
open Go.ChangeShapes Go.WideShapes Go.ChangeAt Go.WideMaps Go.WideElems Go.RowKit
set_option maxRecDepth 100000

theorem own : ownKnob Try.prog.godebug = none := by kernel_rfl
theorem laidOut : laidOutB Try.prog = true := by kernel_rfl
theorem nat_of_u64 {b : Int} (h : (Lit.int .u64 b).wf = true) : ∃ a : Nat, b = (a : Int) ∧ a < 2 ^ 64 := by
  simp only [Lit.wf, Bool.and_eq_true, decide_eq_true_eq] at h
  obtain ⟨h1, h2⟩ := h
  have h3 : b < 18446744073709551616 := by
    have e : IntKind.u64.max = 18446744073709551615 := by decide
    omega
  have h0 : 0 ≤ b := by
    have e : IntKind.u64.min = 0 := by decide
    omega
  exact ⟨b.toNat, by omega, by omega⟩
theorem open_hashF {H : Type} {enc : TypeId × Value → H} {W : World} {fuel : Nat} {cs : List Value} {x : DataW H × List MemPlace} (hf : DataW.trod enc Try.prog W 0 (fun _ => true) true fuel 30 cs = some x) : ∃ h : List Int, h.length = 32 ∧ (∀ x ∈ h, 0 ≤ x ∧ x ≤ 255) ∧ cs = CELLS h := by
  obtain ⟨xs, m, rfl, _, hl, hn, hel⟩ := DataW.trod_array Try.underlying30 hf
  have c5 : Try.prog.cellsOf 5 = 1 := by kernel_rfl
  have c32 : Try.prog.cellsOf 30 = 32 := by kernel_rfl
  rw [c32] at hl
  have hx : ∀ i, i < 32 → ∃ k : Int, cs[i]? = some (.int .u8 k) ∧ 0 ≤ k ∧ k ≤ 255 := fun i hi => by
    have h0 := hel i hi
    rw [List.getElem?_eq_getElem (by omega), c5, Nat.mul_one] at h0
    obtain ⟨k, e1, _, e3⟩ := DataW.trod_int Try.underlying5 h0
    have hb := bounds_u8 e3
    refine ⟨k, ?_, by omega, by omega⟩
    have := congrArg (fun l => l[0]?) e1
    simpa using this
  have F : ∃ f : Nat → Int, ∀ i, i < 32 → cs[i]? = some (.int .u8 (f i)) ∧ 0 ≤ f i ∧ f i ≤ 255 := by
    refine ⟨fun i => if hi : i < 32 then (hx i hi).choose else 0, fun i hi => ?_⟩
    simp only [hi, dif_pos]
    exact (hx i hi).choose_spec
  obtain ⟨f, hf1⟩ := F
  refine ⟨(List.range 32).map f, by simp, fun x hx => ?_, ?_⟩
  · simp only [List.mem_map, List.mem_range] at hx
    obtain ⟨i, hi, rfl⟩ := hx
    exact (hf1 i hi).2
  · apply List.ext_getElem?
    intro i
    by_cases hi : i < 32
    · rw [(hf1 i hi).1, CELLS_get _ i (by simp; exact hi), List.getD_eq_getElem?_getD, List.getElem?_map, List.getElem?_range hi]
      rfl
    · rw [List.getElem?_eq_none (by omega), List.getElem?_eq_none (by simp [CELLS]; omega)]
end Go.Proofs.Ytlbcnaenhghieaa

/- What a row gives the walk of FindPlays: acts that came in. -/
namespace Go.Proofs.Ytlbcnaenhghieaa
open Go.ChangeShapes Go.WideShapes Go.ChangeAt Go.WideMaps Go.WideElems Go.RowKit Go.Deep
set_option maxRecDepth 100000

theorem under_act : ∃ f0 f1 f2 : Field, Try.prog.underlying 33 = some (.struct #[f0, f1, f2]) ∧ f0.type = 3 ∧ f0.offset = 0 ∧ f1.type = 30 ∧ f1.offset = 1 ∧ f2.type = 31 ∧ f2.offset = 33 := ⟨_, _, _, Try.underlying33, rfl, rfl, rfl, rfl, rfl, rfl⟩
theorem open_act {H : Type} {enc : TypeId × Value → H} {W : World} {fuel : Nat} {cs : List Value} {x : DataW H × List MemPlace} (hf : DataW.trod enc Try.prog W 0 (fun _ => true) true fuel 33 cs = some x) : ∃ t : ACTT, (FISH t.leaf ∧ (Lit.int .i64 t.what).wf = true ∧ t.num < 2 ^ 64) ∧ cs = ACT t := by
  obtain ⟨f0, f1, f2, hu, t0, o0, t1, o1, t2, o2⟩ := under_act
  obtain ⟨y0, y1, y2, m, _, hl, h0, h1, h2⟩ := trod_struct3 hu hf
  have c34 : Try.prog.cellsOf 33 = 34 := by kernel_rfl
  have c32 : Try.prog.cellsOf 30 = 32 := by kernel_rfl
  have ci : Try.prog.cellsOf 3 = 1 := by kernel_rfl
  have cu : Try.prog.cellsOf 31 = 1 := by kernel_rfl
  rw [c34] at hl
  rw [t0, o0, ci] at h0
  rw [t1, o1, c32] at h1
  rw [t2, o2, cu] at h2
  obtain ⟨k, e0, _, w0⟩ := DataW.trod_int Try.underlying3 h0
  obtain ⟨h, hh1, hh2, e1⟩ := open_hashF h1
  obtain ⟨u, e2, _, w2⟩ := DataW.trod_int Try.underlying31 h2
  obtain ⟨num, rfl, hn⟩ := nat_of_u64 w2
  refine ⟨⟨k, h, num⟩, ⟨⟨hh1, hh2⟩, w0, hn⟩, ?_⟩
  have d0 : cs = (cs.drop 0).take 1 ++ ((cs.drop 1).take 32 ++ (cs.drop 33).take 1) := by
    rw [List.drop_zero]
    have a1 : (cs.drop 33).take 1 = cs.drop 33 := List.take_of_length_le (by rw [List.length_drop]; omega)
    have a2 : (cs.drop 1).take 32 ++ cs.drop 33 = cs.drop 1 := by
      have := List.take_append_drop 32 (cs.drop 1)
      rw [List.drop_drop] at this
      exact this
    rw [a1, a2, List.take_append_drop]
  rw [d0, e0, e1, e2]
  rfl
/-- acts that came in. -/
theorem open_acts {H : Type} {enc : TypeId × Value → H} {W : World} {a : Option Addr} {k c : Nat} {d : DataW H} {ps : List MemPlace} (hd : DataW.Trod enc Try.prog W 0 (fun _ => true) true 22 (.slice a k c) d ps) : ∃ A : List ACTT, A.length = k ∧ ACTS W a A ∧ (∀ t ∈ A, FISH t.leaf ∧ (Lit.int .i64 t.what).wf = true ∧ t.num < 2 ^ 64) := by
  obtain ⟨fuel, hf0⟩ := hd
  have hf : DataW.trod enc Try.prog W 0 (fun _ => true) true fuel 22 [.slice a k c] = some (d, ps) := by simpa [Value.cells] using hf0
  rcases DataW.trod_slice Try.underlying22 hf with ⟨h0, _⟩ | ⟨ad, len, cap, elems, rest, n, _, h0, hx, _, hl, hm, hlen, hel, _, _⟩
  · simp at h0
    obtain ⟨rfl, rfl, rfl⟩ := h0
    exact ⟨[], rfl, (fun h => by simp at h), by simp⟩
  · simp at h0
    obtain ⟨rfl, rfl, rfl⟩ := h0
    have c34 : Try.prog.cellsOf 33 = 34 := by kernel_rfl
    have each : ∀ i, i < k → ∃ t : ACTT, (FISH t.leaf ∧ (Lit.int .i64 t.what).wf = true ∧ t.num < 2 ^ 64) ∧ ∀ j u, (ACT t)[j]? = some u → W.cell? ((ad.add (i * 34)).add j) = some u := fun i hi => by
      have h := hel i hi
      rw [List.getElem?_eq_getElem (by omega), c34, Option.bind_eq_some_iff] at h
      obtain ⟨cs, hcs, ht⟩ := h
      obtain ⟨t, h1, rfl⟩ := open_act ht
      have hs := (World.cells?_some hcs).2.2
      refine ⟨t, h1, fun j u hj => ?_⟩
      have hj2 := (List.getElem?_eq_some_iff.1 hj).1
      rw [ACT_length h1.1.1] at hj2
      exact (hs j hj2).trans hj
    have F : ∃ f : Nat → ACTT, ∀ i, i < k → (FISH (f i).leaf ∧ (Lit.int .i64 (f i).what).wf = true ∧ (f i).num < 2 ^ 64) ∧ ∀ j u, (ACT (f i))[j]? = some u → W.cell? ((ad.add (i * 34)).add j) = some u := by
      refine ⟨fun i => if hi : i < k then (each i hi).choose else ⟨0, [], 0⟩, fun i hi => ?_⟩
      simp only [hi, dif_pos]
      exact (each i hi).choose_spec
    obtain ⟨f, hf2⟩ := F
    refine ⟨(List.range k).map f, by simp, fun h0k => ?_, fun t ht => ?_⟩
    · have hk0 : 0 < k := by simpa using h0k
      obtain ⟨b, off, spot⟩ := ad
      have hc := (hf2 0 hk0).2 0 (.int .i64 (f 0).what) rfl
      have hspot : spot = none := by simpa [Addr.add] using World.cell?_spot hc
      subst hspot
      refine ⟨b, off, rfl, ?_, fun i t ht j u hj => ?_⟩
      · have := World.block_lt_of_cell? W _ hc
        simpa [Addr.add] using this
      · have hi : i < k := by
          have := (List.getElem?_eq_some_iff.1 ht).1
          simpa using this
        rw [List.getElem?_map, List.getElem?_range hi] at ht
        obtain rfl := Option.some.inj ht
        have h1 := (hf2 i hi).2 j u hj
        rw [addr_add, addr_add] at h1
        exact h1
    · simp only [List.mem_map, List.mem_range] at ht
      obtain ⟨i, hi, rfl⟩ := ht
      exact (hf2 i hi).1
end Go.Proofs.Ytlbcnaenhghieaa
