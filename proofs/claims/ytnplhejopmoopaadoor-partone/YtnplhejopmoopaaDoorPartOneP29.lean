/- Texts of PartOne, one behind the other: PartOnePlain. -/
import Derived.Test.YtnplhejopmoopaaDoorPartOneP28
/- What PartOne wants of two trees that are unlike at one leaf. -/
namespace Go.Proofs.YtnplhejopmoopaaDoor
open Go.RowKit
set_option maxRecDepth 100000

/-- one leaf is another one. -/
def PUTF (hs : Nat → Nat → Nat) (i : Nat) (O : Nat → Nat) : Nat → Nat → Nat := fun k => if k = i then O else hs k
theorem HL_put (hs : Nat → Nat → Nat) (O : Nat → Nat) (n j : Nat) : HX.OVERW (HX.HL (HX.FSTS hs n)) (j * 32) (HX.UARR .u8 32 O).toList = HX.HL (HX.FSTS (PUTF hs j O) n) := by
  have hl : (HX.UARR .u8 32 O).toList.length = 32 := by rw [Array.length_toList, HX.UARR_size]
  apply List.ext_getElem?
  intro p
  by_cases hp : p < 32 * n
  · rw [HX.OVERW_get _ _ _ _ (by rw [HX.HL_FSTS_length]; exact hp), HX.HLF_at _ hp, HX.HLF_at _ hp, hl]
    by_cases h1 : j * 32 ≤ p ∧ p < j * 32 + 32
    · rw [if_pos h1, show p / 32 = j by omega, show p % 32 = p - j * 32 by omega]
      unfold PUTF
      rw [if_pos rfl, HX.UARR_list, HX.ULIST_get _ _ _ _ (by omega)]
    · rw [if_neg h1]
      unfold PUTF
      rw [if_neg (by omega)]
  · rw [List.getElem?_eq_none (by rw [HX.OVERW_length, HX.HL_FSTS_length]; omega), List.getElem?_eq_none (by rw [HX.HL_FSTS_length]; omega)]
theorem hashes_same {w : World} {a : Option Addr} {n : Nat} {f g : Nat → Nat → Nat} (h : HX.HASHES w a n f) (e : ∀ i, i < n → f i = g i) : HX.HASHES w a n g := fun hn => by
  obtain ⟨b, o, h1, h2, h3⟩ := h hn
  exact ⟨b, o, h1, h2, fun i hi => by rw [← e i hi]; exact h3 i hi⟩
theorem tans_peaks {w0 : World} {Ba ga Bb gb n : Nat} {d : Int} {Ca Cb : HX.CHUNKS} {fa fb : Nat → Nat → Nat} (hA : HX.FOREST w0 Ba ga d 2 n Ca fa) (hB : HX.FOREST w0 Bb gb d 2 n Cb fb) {C : Array Value} {E : Int} (h : ∀ e, TANS fa fb (PFST (fun _ => 0) (fun _ => 0) (TSAME n Ca Cb) n) e → e = .returned (.tuple #[.agg C, .int .i64 E])) (hE : E ≠ 0) : ∀ s ∈ SPAN 0 n, TSAME n Ca Cb (PLC s.1 s.2) = true := by
  have hfew := hA.few
  rcases PFST_tree (S := TSAME n Ca Cb) (n := n) (by omega) (tsame_up hA hB) with ⟨_, _, h3⟩ | ⟨k, h1, _⟩
  · exact h3
  · have := h _ (.inr ⟨k, h1, rfl⟩)
    simp only [Ending.returned.injEq, Value.tuple.injEq, Array.mk.injEq, List.cons.injEq, Value.int.injEq] at this
    exact absurd this.2.1.2.symm hE
theorem FAF_same {d : Int} {v v' : Nat → Nat → Nat} {M : Nat} (h : ∀ i, i < M → ∀ j, j < 32 → v i j = v' i j) (hM : 0 < M) : ∀ k, k < M → ∀ j, j < 32 → HX.FAF d v M k j = HX.FAF d v' M k j
  | 0, _, j, hj => h (M - 1) (by omega) j hj
  | k + 1, hk, j, _ => by
    have ih := FAF_same (d := d) h hM k (by omega)
    have e1 : (List.range 32).map (v (M - 2 - k)) = (List.range 32).map (v' (M - 2 - k)) := List.map_congr_left fun x hx => h (M - 2 - k) (by omega) x (by simpa using hx)
    have e2 : (List.range 32).map (HX.FAF d v M k) = (List.range 32).map (HX.FAF d v' M k) := List.map_congr_left fun x hx => ih x (by simpa using hx)
    show HX.FOLDF d (v (M - 2 - k)) (HX.FAF d v M k) j = HX.FOLDF d (v' (M - 2 - k)) (HX.FAF d v' M k) j
    unfold HX.FOLDF
    rw [e1, e2]
theorem root_same {w0 : World} {Ba ga Bb gb n : Nat} {d : Int} {Ca Cb : HX.CHUNKS} {fa fb : Nat → Nat → Nat} (hA : HX.FOREST w0 Ba ga d 2 n Ca fa) (hB : HX.FOREST w0 Bb gb d 2 n Cb fb) (h : ∀ s ∈ SPAN 0 n, TSAME n Ca Cb (PLC s.1 s.2) = true) : HX.ROOTOF d fa n = HX.ROOTOF d fb n := by
  have hfew := hA.few
  have hv : ∀ i, i < PC n → ∀ j, j < 32 → (HX.PKV d fa n).getD i (fun _ => 0) j = (HX.PKV d fb n).getD i (fun _ => 0) j := by
    intro i hi j hj
    obtain ⟨a1, _, _⟩ := HGT_at (n := n) (i := i) (by omega) hi
    have e : ∀ f, (HX.PKV d f n).getD i (fun _ => 0) = HX.VAL d f (HGT n i) (KGT n i) := fun f => by
      rw [List.getD_eq_getElem?_getD, HX.PKV, List.getElem?_map, a1]
      rfl
    rw [e fa, e fb]
    have hat := SPAN_zero_at (n := n) (i := i) (by omega) hi
    have hm := List.mem_of_getElem? hat
    have hs := h _ hm
    have hin := ((tile_span (a := 0) (b := n) (by omega) (Nat.zero_le n)).within _ hm).2.1
    dsimp only at hs hin
    unfold TSAME at hs
    rw [(goth_at hA hin).1, (goth_at hB hin).1] at hs
    simp only [List.all_eq_true, List.mem_range, beq_iff_eq] at hs
    exact hs j hj
  unfold HX.ROOTOF HX.ROOTF HX.FLDF
  rcases Nat.eq_zero_or_pos (PC n) with h0 | h0
  · rw [if_pos h0, if_pos h0]
  · rw [if_neg (by omega), if_neg (by omega)]
    have e2 : (List.range 32).map (HX.FAF d (fun i => (HX.PKV d fa n).getD i fun _ => 0) (PC n) (PC n - 1)) = (List.range 32).map (HX.FAF d (fun i => (HX.PKV d fb n).getD i fun _ => 0) (PC n) (PC n - 1)) := List.map_congr_left fun x hx => FAF_same hv h0 _ (by omega) x (by simpa using hx)
    rw [e2]
/-- unlike at one leaf alone: that is where they part. -/
theorem one_part {hs : Nat → Nat → Nat} {O X Y : Nat → Nat} {n i k q T : Nat} {E : Int} (h : PRESU hs (PUTF hs i O) n k X Y q E T) : (E = 0 ∧ k = i ∧ X = hs i ∧ Y = O) ∨ E = 210 := by
  rcases h with ⟨h1, _, _, h4, h5, h6, _⟩ | h
  · refine .inl ⟨h1, ?_⟩
    by_cases e : k = i
    · subst e
      exact ⟨rfl, h4, by rw [h5]; unfold PUTF; rw [if_pos rfl]⟩
    · have : PUTF hs i O k = hs k := by unfold PUTF; rw [if_neg e]
      rw [this] at h6
      simp at h6
  · exact .inr h.1
theorem own_empty21 (w : World) : (w.alloc (.cells #[] 27)).ownsRow w.heap.size 27 32 (.slice (some ⟨w.heap.size, 0, none⟩) 0 0) 0 [] :=
  World.ownsRow_lit w #[] 0 (Nat.le_refl _) (by simp [maxLen]) rfl
end Go.Proofs.YtnplhejopmoopaaDoor
