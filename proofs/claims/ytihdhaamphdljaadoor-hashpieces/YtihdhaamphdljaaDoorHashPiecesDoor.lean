/- What the card's row gives the walk of HashPieces: a slice of acts that came in. -/
import Derived.Test.YtihdhaamphdljaaDoorHashSumsDoor
import Derived.Test.YtihdhaamphdljaaDoorHashActs
namespace Go.Proofs.YtihdhaamphdljaaDoor
open Go.ChangeShapes Go.WideShapes Go.ChangeAt Go.WideMaps Go.WideElems Go.RowKit

theorem weights_act {H : Type} (x y : DataW H) : ∀ m ∈ y.weights Tryd.prog 23, m ∈ (DataW.agg [x, y]).weights Tryd.prog 25 := fun m hm => by
  simp only [DataW.weights, Tryd.underlying25, List.map_cons, List.map_nil, DataW.weightsEach, List.mem_append]
  exact .inr (.inl hm)
theorem trod_room {H : Type} {enc : TypeId × Value → H} {W : World} {fuel : Nat} {a : Option Addr} {n c : Nat} {x : DataW H × List MemPlace} (hd : DataW.trod enc Tryd.prog W 0 (fun _ => true) true fuel 23 [.slice a n c] = some x) : n ≤ c := by
  rcases DataW.trod_slice Tryd.underlying23 hd with ⟨h0, _⟩ | ⟨ad, len, cap, es, rs, _, _, h0, hx, _, hl, _⟩
  · simp at h0
    omega
  · simp at h0
    omega
/-- one act, by its cells. -/
theorem open_act {H : Type} {enc : TypeId × Value → H} {W : World} {fuel : Nat} {cs : List Value} {x : DataW H × List MemPlace} (hf : DataW.trod enc Tryd.prog W 0 (fun _ => true) true fuel 25 cs = some x) (R : Nat) (hR : ∀ m ∈ x.1.weights Tryd.prog 25, m ≤ R) :
    ∃ q : AC, cs = [.int .i64 q.k, .slice q.p.a q.p.n q.p.c] ∧ Text W q.p.a q.p.n q.p.l ∧ (q.p.a = none → q.p.c = 0) ∧ q.p.n ≤ q.p.c ∧ q.p.n ≤ R := by
  obtain ⟨y0, y1, m, hx, hl, h0, h1⟩ := trod_struct2 Tryd.underlying25 hf
  obtain ⟨a, e1, _, e3⟩ := DataW.trod_int Tryd.underlying3 h0
  have c1 : Tryd.prog.cellsOf 3 = 1 := by kernel_rfl
  have c2 : Tryd.prog.cellsOf 23 = 1 := by kernel_rfl
  have c3 : Tryd.prog.cellsOf 25 = 2 := by kernel_rfl
  rw [c3] at hl
  rw [c1] at e1
  rw [c2] at h1
  rw [hx] at hR
  obtain ⟨p, e2, h2, h3, h4⟩ := open_one h1 R (fun m hm => hR m (weights_act _ _ m hm))
  rw [e2] at h1
  have h5 := trod_room h1
  match cs, hl with
  | [x, y], _ =>
    simp at e1 e2
    subst e1 e2
    exact ⟨⟨a, p⟩, rfl, h2, h3, h5, h4⟩
theorem open_acts {H : Type} {enc : TypeId × Value → H} {W : World} {a : Option Addr} {k c : Nat} {d : DataW H} {ps : List MemPlace} (hd : DataW.Trod enc Tryd.prog W 0 (fun _ => true) true 22 (.slice a k c) d ps) (R : Nat) (hR2 : R < 2 ^ 60) (hR : ∀ m ∈ d.weights Tryd.prog 22, m ≤ R) :
    ∃ qs : List AC, Acts W a k qs ∧ k ≤ R := by
  obtain ⟨fuel, hf⟩ := hd
  rcases DataW.trod_slice Tryd.underlying22 hf with ⟨h0, _⟩ | ⟨ad, len, cap, elems, rest, n, _, h0, hx, _, hl, hm, hlen, hel, _, _⟩
  · simp [Value.cells] at h0
    obtain ⟨rfl, rfl, rfl⟩ := h0
    exact ⟨[], ⟨rfl, fun h => by omega, fun p hp => by simp at hp⟩, Nat.zero_le _⟩
  · simp [Value.cells] at h0
    obtain ⟨rfl, rfl, rfl⟩ := h0
    have c2 : Tryd.prog.cellsOf 25 = 2 := by kernel_rfl
    have b32 : Tryd.prog.bytesOf 25 = 32 := by kernel_rfl
    obtain ⟨hx, -⟩ := Prod.mk.inj hx
    subst hx
    rw [weights_slice Tryd.underlying22] at hR
    have hk : k ≤ R := by
      have h := hR _ (List.mem_cons_self ..)
      rw [b32, List.length_map, hlen] at h
      omega
    have each : ∀ i, i < k → ∃ q : AC, W.cell? (ad.add (i * 2)) = some (.int .i64 q.k) ∧ W.cell? ((ad.add (i * 2)).add 1) = some (.slice q.p.a q.p.n q.p.c) ∧ Text W q.p.a q.p.n q.p.l ∧ (q.p.a = none → q.p.c = 0) ∧ q.p.n ≤ q.p.c ∧ q.p.n ≤ R := fun i hi => by
      have h := hel i hi
      rw [List.getElem?_eq_getElem (by omega), c2, Option.bind_eq_some_iff] at h
      obtain ⟨cs, hcs, ht⟩ := h
      obtain ⟨q, rfl, h1, h2, h3, h4⟩ := open_act ht R (fun m hm => hR m (List.mem_cons_of_mem _ (List.mem_append_left _ (weights_all (List.mem_map.2 ⟨_, List.getElem_mem (by omega), rfl⟩) m hm))))
      have hs := (World.cells?_some hcs).2.2
      have s0 := hs 0 (by decide)
      have s1 := hs 1 (by decide)
      exact ⟨q, by simpa [Addr.add] using s0, by simpa using s1, h1, h2, h3, h4⟩
    have F : ∃ f : Nat → AC, ∀ i, i < k → W.cell? (ad.add (i * 2)) = some (.int .i64 (f i).k) ∧ W.cell? ((ad.add (i * 2)).add 1) = some (.slice (f i).p.a (f i).p.n (f i).p.c) ∧ Text W (f i).p.a (f i).p.n (f i).p.l ∧ ((f i).p.a = none → (f i).p.c = 0) ∧ (f i).p.n ≤ (f i).p.c ∧ (f i).p.n ≤ R := by
      refine ⟨fun i => if hi : i < k then (each i hi).choose else ⟨0, ⟨none, 0, 0, []⟩⟩, fun i hi => ?_⟩
      simp only [hi, dif_pos]
      exact (each i hi).choose_spec
    obtain ⟨f, hf2⟩ := F
    refine ⟨(List.range k).map f, ⟨by simp, fun h => ?_, fun p hp => ?_⟩, hk⟩
    · obtain ⟨b, off, spot⟩ := ad
      have hc := (hf2 0 h).1
      have hspot : spot = none := by simpa [Addr.add] using World.cell?_spot hc
      subst hspot
      refine ⟨b, off, rfl, block_lt_of_cell (by simpa [Addr.add] using hc), fun i p hp => ?_⟩
      have hi : i < k := by have := (List.getElem?_eq_some_iff.1 hp).1; simpa using this
      have h1 := (hf2 i hi).1
      have h2 := (hf2 i hi).2.1
      rw [addr_add] at h1
      rw [addr_add, addr_add] at h2
      rw [List.getElem?_map, List.getElem?_range hi] at hp
      obtain rfl := Option.some.inj hp
      exact ⟨h1, h2⟩
    · obtain ⟨i, hi, rfl⟩ := List.mem_map.1 hp
      obtain ⟨-, -, h1, h2, h3, h4⟩ := hf2 i (List.mem_range.1 hi)
      exact ⟨h1, h2, h3, by omega⟩
end Go.Proofs.YtihdhaamphdljaaDoor
