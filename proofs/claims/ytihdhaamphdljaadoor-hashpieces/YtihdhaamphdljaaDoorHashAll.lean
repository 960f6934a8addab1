/- What Sum of package hash answers. -/
import Derived.Test.YtihdhaamphdljaaDoorHashSums
namespace Go.Proofs.YtihdhaamphdljaaDoor
open Go.RowKit
set_option maxRecDepth 100000

/-- a slice of bytes and what it reads as. -/
structure PART where
  a : Option Addr
  n : Nat
  c : Nat
  l : List Nat
/-- slices of bytes, each in a cell. -/
def Parts (w : World) (a : Option Addr) (k : Nat) (ps : List PART) : Prop :=
  ps.length = k ∧ (0 < k → ∃ b off, a = some ⟨b, off, none⟩ ∧ b < w.heap.size ∧ ∀ i p, ps[i]? = some p → w.cell? ⟨b, off + i, none⟩ = some (.slice p.a p.n p.c)) ∧ ∀ p ∈ ps, Text w p.a p.n p.l ∧ p.n ≤ p.c ∧ ∀ x, p.a = some x → x.block < w.heap.size
/-- the parts, one behind the other. -/
def JOIN (ps : List PART) : List Nat := (ps.map PART.l).flatten
theorem JOIN_snoc (ps : List PART) (p : PART) : JOIN (ps ++ [p]) = JOIN ps ++ p.l := by simp [JOIN]
theorem JOIN_small {w : World} {a : Option Addr} {k : Nat} {ps : List PART} (h : Parts w a k ps) : ∀ qs : List PART, (∀ p ∈ qs, p ∈ ps) → Small8 (JOIN qs) := fun qs hq x hx => by
  obtain ⟨y, hy, hx⟩ := List.mem_flatten.1 hx
  obtain ⟨p, hp, rfl⟩ := List.mem_map.1 hy
  exact (h.2.2 p (hq p hp)).1.2.2 x hx
theorem JOIN_take_length (ps : List PART) (k : Nat) : (JOIN (ps.take k)).length ≤ (JOIN ps).length := by
  have : JOIN ps = JOIN (ps.take k) ++ JOIN (ps.drop k) := by
    unfold JOIN
    rw [← List.flatten_append, ← List.map_append, List.take_append_drop]
  rw [this, List.length_append]
  omega
theorem sum_ok (d : Int) (a : Option Addr) (k c : Nat) (ps : List PART) (w : World) (hP : Parts w a k ps) (hT : Tabled w) (hlen : (JOIN ps).length < 2 ^ 60) (hkk : k < 2 ^ 60) : Calls Tryd.prog 26 #[.int .i64 d, .slice a k c] w fun e w' => e = .returned (.agg (UARR .u8 32 (HASHOF d (JOIN ps)))) ∧ Below w.heap.size w w' := by
  have hz := zero32
  have H : Aside (Parts w a k ps ∧ Tabled w ∧ (JOIN ps).length < 2 ^ 60) := ⟨hP, hT, hlen⟩
  have HK : Aside (k < 2 ^ 60) := hkk
  have cn := fun w (h : Tabled w) => new_ok d w h
  clear hP hT hlen hkk
  go_enter Tryd.func26, Tryd.ntmps26
  go_wp2_with fail
  refine (cn _ (H.out.2.1.below ((Below.refl _ _).alloc (Nat.le_refl _) _))).mono ?_
  rintro e w1 ⟨g, rfl, hg, hH, hb1⟩
  clear cn
  have hb : Below w.heap.size w w1 := ((Below.refl _ _).alloc (Nat.le_refl _) _).trans (hb1.mono (by simp))
  have R : Aside (w.heap.size < g ∧ HASHER w1 g d [] ∧ Below w.heap.size w w1 ∧ Has w1 w.heap.size (UARR .u8 32 fun _ => 0) 35) := ⟨by simp at hg; omega, hH, hb, (Has.new w _ _).keep hb1⟩
  clear hb hb1 hg hH hz
  go_wp2
  go_loopg [12] k (fun r s12 wx => ∃ i : Nat, i + r = k ∧ s12 = .int .i64 i ∧ Aside (HASHER wx g d (JOIN (ps.take i)) ∧ Below w.heap.size w wx ∧ Has wx w.heap.size (UARR .u8 32 fun _ => 0) 35))
  case atStart => exact ⟨0, by omega, rfl, R.out.2.1, R.out.2.2.1, R.out.2.2.2⟩
  case round =>
    obtain ⟨i, hir, rfl, A⟩ := hrel
    have hk : ps.length = k := H.out.1.1
    cases gk with
    | zero =>
      obtain rfl : i = k := by omega
      rw [List.take_of_length_le (by omega)] at A
      have cs := sumh_ok g d (JOIN ps) wr A.out.1 (H.out.2.1.below A.out.2.1) (JOIN_small H.out.1 ps (fun _ h => h)) H.out.2.2
      clear hk
      go_wp2_with fail
      refine cs.mono ?_
      rintro e w2 ⟨rfl, hb2⟩
      clear cs
      have S : Aside (Below w.heap.size w w2 ∧ Has w2 w.heap.size (UARR .u8 32 fun _ => 0) 35) := ⟨A.out.2.1.trans (hb2.mono A.out.2.1.size), A.out.2.2.keep hb2⟩
      clear A hb2
      go_wp2_with (first
        | (refine wpList_store_row rfl 35 _ _ rfl _ _ rfl rfl _ _ S.out.2 (info_HASH _) (by rw [UARR_size, UARR_size]) (UARR_one _ _ _) ?_))
      refine bodyPost_ret (v := .agg (UARR .u8 32 (HASHOF d (JOIN ps)))) ?_ rfl ⟨rfl, below_row S.out.1 (Nat.le_refl _) _⟩
      exact results_cell_row rfl _ _ w.heap.size 35 _ (0, 0) _ rfl (S.out.2.row _) Tryd.underlying35 rfl (info_HASH _)
    | succ r =>
      have hlt : (i : Int) < (k : Int) := by omega
      obtain ⟨pb, po, rfl, hpb, hcell⟩ := H.out.1.2.1 (by omega)
      obtain ⟨p, hp⟩ : ∃ p, ps[i]? = some p := ⟨_, List.getElem?_eq_getElem (by omega)⟩
      have hc := (A.out.2.1.cell (p := ⟨pb, po + i, none⟩) (by exact hpb)).trans (hcell i p hp)
      obtain ⟨ht, hn, hx⟩ := H.out.1.2.2 p (List.mem_of_getElem? hp)
      have hg := R.out.1
      have hl2 : (JOIN (ps.take i)).length + p.n < 2 ^ 60 := by
        have h1 := JOIN_take_length ps (i + 1)
        rw [List.take_add_one, hp, Option.toList_some, JOIN_snoc, List.length_append, ht.1] at h1
        have := H.out.2.2
        omega
      have cw := write_ok g d (JOIN (ps.take i)) p.l p.a p.n p.c wr A.out.1 (H.out.2.1.below A.out.2.1) (by have := H.out.2.1.2.2; omega) (ht.below A.out.2.1) (fun x h => by have := hx x h; omega) hn (JOIN_small H.out.1 _ (fun _ h => List.mem_of_mem_take h)) (by omega)
      have S : Aside (ps.take (i + 1) = ps.take i ++ [p] ∧ i + (r + 1) = k ∧ w.heap.size < g) := ⟨by rw [List.take_add_one, hp, Option.toList_some], hir, hg⟩
      clear ht hn hx hp hcell hpb hg hl2 hk hir
      go_wp2_with fail
      refine cw.mono ?_
      rintro e w2 ⟨rfl, hH2, hG2⟩
      clear cw
      have T : Aside (HASHER w2 g d (JOIN (ps.take i) ++ p.l) ∧ Below w.heap.size w w2 ∧ Has w2 w.heap.size (UARR .u8 32 fun _ => 0) 35) := ⟨hH2, A.out.2.1.grown hG2 A.out.2.1.size (fun k e => by simp at e; have := S.out.2.2; omega), (hG2.block _ A.out.2.2.lt (by simp; have := S.out.2.2; omega)).trans A.out.2.2⟩
      clear hH2 hG2 A
      go_wp2
      go_roundg r
      case measure => omega
      case rel =>
        refine ⟨i + 1, by have := S.out.2.1; omega, by have h1 := HK.out; have h2 : wrap64 ((i : Int) + 1) = ((i + 1 : Nat) : Int) := (by unfold wrap64; omega); rw [h2], ?_, T.out.2.1, T.out.2.2⟩
        rw [S.out.1, JOIN_snoc]
        exact T.out.1
end Go.Proofs.YtihdhaamphdljaaDoor
