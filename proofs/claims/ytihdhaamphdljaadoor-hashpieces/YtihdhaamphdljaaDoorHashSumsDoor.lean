/- What the card's row gives the walk of HashSums: a slice of slices of bytes that came in. -/
import Derived.Test.YtihdhaamphdljaaDoorHashDoor
import Derived.Test.YtihdhaamphdljaaDoorHashRefSum
namespace Go.Proofs.YtihdhaamphdljaaDoor
open Go.ChangeShapes Go.WideShapes Go.ChangeAt Go.WideMaps Go.WideElems Go.RowKit

theorem weights_all {H : Type} {P : Program} {e : TypeId} : ∀ {l : List (DataW H)} {d : DataW H}, d ∈ l → ∀ n ∈ d.weights P e, n ∈ DataW.weightsAll P e l
  | [], d, h, _, _ => by simp at h
  | x :: l, d, h, n, hn => by
    simp only [DataW.weightsAll, List.mem_append]
    rcases List.mem_cons.1 h with rfl | h
    · exact .inl hn
    · exact .inr (weights_all h n hn)
theorem weights_slice {H : Type} {t e : TypeId} (ht : Tryd.prog.underlying t = some (.slice e)) (es sp : List (DataW H)) : (DataW.slice es sp).weights Tryd.prog t = (es.length + sp.length) * Tryd.prog.bytesOf e :: (DataW.weightsAll Tryd.prog e es ++ DataW.weightsAll Tryd.prog e sp) := by
  simp only [DataW.weights, ht]
/-- one slice of bytes, by its cells. -/
theorem open_one {H : Type} {enc : TypeId × Value → H} {W : World} {fuel : Nat} {cs : List Value} {x : DataW H × List MemPlace} (hd : DataW.trod enc Tryd.prog W 0 (fun _ => true) true fuel 23 cs = some x) (R : Nat) (hR : ∀ m ∈ x.1.weights Tryd.prog 23, m ≤ R) :
    ∃ p : PART, cs = [.slice p.a p.n p.c] ∧ Text W p.a p.n p.l ∧ (p.a = none → p.c = 0) ∧ p.n ≤ R := by
  have b1 : Tryd.prog.bytesOf 5 = 1 := by kernel_rfl
  have hs : ∃ a n c, cs = [.slice a n c] ∧ n ≤ R := by
    rcases DataW.trod_slice Tryd.underlying23 hd with ⟨rfl, _⟩ | ⟨a, len, cap, es, rs, _, _, rfl, hx, _, hl, hm, hlen, _⟩
    · exact ⟨none, 0, 0, rfl, Nat.zero_le _⟩
    · refine ⟨some a, len, cap, rfl, ?_⟩
      rw [hx] at hR
      have h := hR _ (by rw [weights_slice Tryd.underlying23]; exact List.mem_cons_self ..)
      rw [b1, Nat.mul_one, List.length_map, hlen] at h
      omega
  obtain ⟨a, n, c, rfl, hn⟩ := hs
  obtain ⟨l, ht, hc⟩ := open_text (enc := enc) (W := W) (a := a) (len := n) (cap := c) (d := x.1) (ps := x.2) ⟨fuel, by simpa [Value.cells] using hd⟩
  exact ⟨⟨a, n, c, l⟩, rfl, ht, hc, hn⟩
theorem open_parts {H : Type} {enc : TypeId × Value → H} {W : World} {a : Option Addr} {k c : Nat} {d : DataW H} {ps : List MemPlace} (hd : DataW.Trod enc Tryd.prog W 0 (fun _ => true) true 29 (.slice a k c) d ps) (R : Nat) (hR : ∀ m ∈ d.weights Tryd.prog 29, m ≤ R) :
    ∃ qs : List PART, Parts0 W a k qs ∧ (∀ p ∈ qs, p.a = none → p.c = 0) ∧ k ≤ R ∧ ∀ p ∈ qs, p.n ≤ R := by
  obtain ⟨fuel, hf⟩ := hd
  rcases DataW.trod_slice Tryd.underlying29 hf with ⟨h0, _⟩ | ⟨ad, len, cap, elems, rest, n, _, h0, hx, _, hl, hm, hlen, hel, _, _⟩
  · simp [Value.cells] at h0
    obtain ⟨rfl, rfl, rfl⟩ := h0
    exact ⟨[], ⟨rfl, fun h => by omega, fun p hp => by simp at hp⟩, fun p hp => by simp at hp, Nat.zero_le _, fun p hp => by simp at hp⟩
  · simp [Value.cells] at h0
    obtain ⟨rfl, rfl, rfl⟩ := h0
    have c1 : Tryd.prog.cellsOf 23 = 1 := by kernel_rfl
    have b24 : Tryd.prog.bytesOf 23 = 24 := by kernel_rfl
    obtain ⟨hx, -⟩ := Prod.mk.inj hx
    subst hx
    rw [weights_slice Tryd.underlying29] at hR
    have hk : k ≤ R := by
      have h := hR _ (List.mem_cons_self ..)
      rw [b24, List.length_map, hlen] at h
      omega
    have each : ∀ i, i < k → ∃ p : PART, W.cell? (ad.add i) = some (.slice p.a p.n p.c) ∧ Text W p.a p.n p.l ∧ (p.a = none → p.c = 0) ∧ p.n ≤ R := fun i hi => by
      have h := hel i hi
      rw [List.getElem?_eq_getElem (by omega), c1, Nat.mul_one, Option.bind_eq_some_iff] at h
      obtain ⟨cs, hcs, ht⟩ := h
      obtain ⟨p, rfl, h1, h2, h3⟩ := open_one ht R (fun m hm => hR m (List.mem_cons_of_mem _ (List.mem_append_left _ (weights_all (List.mem_map.2 ⟨_, List.getElem_mem (by omega), rfl⟩) m hm))))
      exact ⟨p, cell_of_cells?_one hcs, h1, h2, h3⟩
    have F : ∃ f : Nat → PART, ∀ i, i < k → W.cell? (ad.add i) = some (.slice (f i).a (f i).n (f i).c) ∧ Text W (f i).a (f i).n (f i).l ∧ ((f i).a = none → (f i).c = 0) ∧ (f i).n ≤ R := by
      refine ⟨fun i => if hi : i < k then (each i hi).choose else ⟨none, 0, 0, []⟩, fun i hi => ?_⟩
      simp only [hi, dif_pos]
      exact (each i hi).choose_spec
    obtain ⟨f, hf2⟩ := F
    have mem : ∀ p ∈ (List.range k).map f, ∃ i, i < k ∧ p = f i := fun p hp => by
      obtain ⟨i, hi, rfl⟩ := List.mem_map.1 hp
      exact ⟨i, List.mem_range.1 hi, rfl⟩
    refine ⟨(List.range k).map f, ⟨by simp, fun h => ?_, fun p hp => ?_⟩, fun p hp => ?_, hk, fun p hp => ?_⟩
    · obtain ⟨b, off, spot⟩ := ad
      have hc := (hf2 0 h).1
      have hspot : spot = none := by simpa [Addr.add] using World.cell?_spot hc
      subst hspot
      refine ⟨b, off, rfl, block_lt_of_cell (by simpa [Addr.add] using hc), fun i p hp => ?_⟩
      have hi : i < k := by have := (List.getElem?_eq_some_iff.1 hp).1; simpa using this
      have := (hf2 i hi).1
      rw [addr_add] at this
      rw [List.getElem?_map, List.getElem?_range hi] at hp
      obtain rfl := Option.some.inj hp
      exact this
    · obtain ⟨i, hi, rfl⟩ := mem p hp
      exact (hf2 i hi).2.1
    · obtain ⟨i, hi, rfl⟩ := mem p hp
      exact (hf2 i hi).2.2.1
    · obtain ⟨i, hi, rfl⟩ := mem p hp
      exact (hf2 i hi).2.2.2
end Go.Proofs.YtihdhaamphdljaaDoor
