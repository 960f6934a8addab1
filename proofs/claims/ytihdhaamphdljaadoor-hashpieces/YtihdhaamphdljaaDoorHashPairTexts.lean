/- What LeafText, NodeText and FoldText of package hash answer. -/
import Derived.Test.YtihdhaamphdljaaDoorHashText
namespace Go.Proofs.YtihdhaamphdljaaDoor
open Go.RowKit
set_option maxRecDepth 100000

theorem own_mono {w : World} {base base' : Nat} {t : TypeId} {s : Nat} {v : Value} {n : Nat} {xs : List Value} (h : w.ownsRow base t s v n xs) (hb : base' ≤ base) : w.ownsRow base' t s v n xs :=
  ⟨h.1, h.2.imp id fun ⟨g, c, cur, a, b, r⟩ => ⟨g, c, cur, a, Nat.le_trans hb b, r⟩⟩
theorem slice_whole (b : Nat) (w : World) : (Instr.sliceAt 35 (.pointer (some ⟨b, 0, none⟩)) none none none).run Tryd.prog w = .ok (.slice (some ⟨b, 0, none⟩) 32 32) w := by
  have hn : Tryd.prog.arrayLen 35 = 32 := by kernel_rfl
  rw [run_sliceAt_array_all w 35 ⟨b, 0, none⟩ (by kernel_rfl), hn]
  have he : Tryd.prog.elem 35 = 5 := by kernel_rfl
  obtain ⟨i8, hi, h8⟩ := Option.map_eq_some_iff.1 info_u8
  simp only [Prod.mk.injEq] at h8
  rw [he]
  simp [sizeOf, typeInfo, hi, h8.2.1, slicedAt, Addr.add]
/-- the bytes of an array, as a text. -/
theorem Has.text {w : World} {g : Nat} {f : Nat → Nat} {t : TypeId} (h : Has w g (UARR .u8 32 f) t) (hf : ∀ i, f i < 256) : Text w (some ⟨g, 0, none⟩) 32 ((List.range 32).map f) :=
  ⟨by simp, fun _ => ⟨g, 0, rfl, h.lt, fun i hi => by rw [Nat.zero_add, h.cell, UARR_get _ _ _ _ hi, List.getD_eq_getElem?_getD, List.getElem?_map, List.getElem?_range hi]; rfl⟩, fun x hx => by obtain ⟨i, _, rfl⟩ := List.mem_map.1 hx; exact hf i⟩
theorem two_parts {w : World} {l r : Nat → Nat} {g h : Nat} {t u : TypeId} (hl : ∀ i, l i < 256) (hr : ∀ i, r i < 256) (h1 : Has w g (UARR .u8 32 l) t) (h2 : Has w h (UARR .u8 32 r) u) : Parts (w.alloc (.cells #[.slice (some ⟨g, 0, none⟩) 32 32, .slice (some ⟨h, 0, none⟩) 32 32] 23)) (some ⟨w.heap.size, 0, none⟩) 2 [⟨some ⟨g, 0, none⟩, 32, 32, (List.range 32).map l⟩, ⟨some ⟨h, 0, none⟩, 32, 32, (List.range 32).map r⟩] :=
  ⟨rfl, fun _ => ⟨w.heap.size, 0, rfl, by simp, fun i p hp => by
    have hi : i < 2 := (List.getElem?_eq_some_iff.1 hp).1
    rw [World.cell?_alloc_at _ _ _ _ rfl]
    have h2 : i = 0 ∨ i = 1 := by omega
    rcases h2 with rfl | rfl <;> (simp at hp; subst hp; rfl)⟩, fun p hp => by
    simp only [List.mem_cons, List.not_mem_nil, or_false] at hp
    rcases hp with rfl | rfl
    · exact ⟨(h1.alloc _).text hl, Nat.le_refl _, fun x e => by simp only [Option.some.injEq] at e; rw [← e]; exact (h1.alloc _).lt⟩
    · exact ⟨(h2.alloc _).text hr, Nat.le_refl _, fun x e => by simp only [Option.some.injEq] at e; rw [← e]; exact (h2.alloc _).lt⟩⟩
theorem two_join (l r : Nat → Nat) (g h : Nat) : JOIN [⟨some ⟨g, 0, none⟩, 32, 32, (List.range 32).map l⟩, ⟨some ⟨h, 0, none⟩, 32, 32, (List.range 32).map r⟩] = (List.range 32).map l ++ (List.range 32).map r := by simp [JOIN]

end Go.Proofs.YtihdhaamphdljaaDoor
