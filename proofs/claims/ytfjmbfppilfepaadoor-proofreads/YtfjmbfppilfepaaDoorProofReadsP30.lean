/- Texts of ProofReads, one behind the other: ProofReadsWalk. -/
import Derived.Test.YtfjmbfppilfepaaDoorProofReadsP21
import Derived.Test.YtfjmbfppilfepaaDoorProofReadsP27
import Derived.Test.YtfjmbfppilfepaaDoorProofReadsP29
/- The walk of ProofReads. -/
namespace Go.Proofs.YtfjmbfppilfepaaDoor
open Go.RowKit
set_option maxRecDepth 100000

/-- a proof as a value. -/
abbrev PV (X Y : Nat) (a : Option Addr) (n c : Nat) : Array Value := #[.int .u64 (X : Int), .int .u64 (Y : Int), .slice a n c]
/-- one more, as a byte. -/
def INC8 (x : Int) : Int := (x + 1) % 256
/-- the first j are one more. -/
def TKI (l : List Int) (j : Nat) : List Int := (l.take j).map INC8 ++ l.drop j
theorem TKI_zero (l : List Int) : TKI l 0 = l := by simp [TKI]
theorem TKI_all {l : List Int} {n : Nat} (h : l.length = n) : TKI l n = l.map INC8 := by
  unfold TKI
  rw [List.take_of_length_le (by omega), List.drop_of_length_le (by omega), List.append_nil]
theorem TKI_length (l : List Int) (j : Nat) : (TKI l j).length = l.length := by
  unfold TKI
  simp
  omega
theorem TKI_at {l : List Int} {j : Nat} (hj : j < l.length) : (TKI l j).getD j 0 = l.getD j 0 := by
  unfold TKI
  rw [List.getD_eq_getElem?_getD, List.getElem?_append_right (by simp; omega), List.getElem?_drop, List.getD_eq_getElem?_getD]
  congr 2
  simp
  omega
theorem TKI_next {l : List Int} {j : Nat} (hj : j < l.length) : (CELLS (TKI l j)).set j (.int .u8 (INC8 (l.getD j 0))) = CELLS (TKI l (j + 1)) := by
  unfold TKI
  have e : j - (CELLS ((l.take j).map INC8)).length = 0 := by simp [CELLS]; omega
  rw [List.drop_eq_getElem_cons hj, CELLS_append, List.set_append_right _ _ (by simp [CELLS]; omega), e, show CELLS (l[j] :: l.drop (j + 1)) = .int .u8 l[j] :: CELLS (l.drop (j + 1)) from rfl, List.set_cons_zero]
  rw [List.take_add_one, List.getElem?_eq_getElem hj, List.getD_eq_getElem?_getD, List.getElem?_eq_getElem hj, List.map_append, List.append_assoc, CELLS_append]
  rfl
theorem INC8_range (l : List Int) : ∀ x ∈ l.map INC8, 0 ≤ x ∧ x ≤ 255 := fun x hx => by
  obtain ⟨y, _, rfl⟩ := List.mem_map.1 hx
  unfold INC8
  omega
theorem inc8_wrap (x : Int) : IntKind.u8.wrap (x + 1) = INC8 x := by simp [IntKind.wrap, IntKind.bits, IntKind.signed, INC8]
theorem flat_grown {w w' : World} {a : Option Addr} {n g : Nat} {l : List Int} (h : Flat w a n l) (ha : ∀ b o, a = some ⟨b, o, none⟩ → b ≠ g) (hg : w.grownBy w' (some g)) : Flat w' a n l :=
  ⟨h.1, fun hn => by
    obtain ⟨b, o, e, hl, hc⟩ := h.2.1 hn
    refine ⟨b, o, e, Nat.lt_of_lt_of_le hl hg.size, fun j hj => ?_⟩
    rw [← hc j hj]
    exact World.cell?_of_block (a := ⟨b, o + j, none⟩) (hg.block b hl fun e' => ha b o e (Option.some.inj e')), h.2.2⟩
/-- what stays while the lists are written over. -/
structure KEP (w W : World) (gt ct bn : Nat) (bl : List Int) (b4 b8 b10 b12 b14 : Nat) (C4 C8 C10 C12 C14 : Array Value) : Prop where
  bel : Below w.heap.size w W
  txt : W.ownsRow w.heap.size 5 1 (.slice (some ⟨gt, 0, none⟩) bn ct) bn (CELLS bl)
  gtl : gt < W.heap.size
  h4 : Has W b4 C4 25
  h8 : Has W b8 C8 25
  h10 : Has W b10 C10 25
  h12 : Has W b12 C12 27
  h14 : Has W b14 C14 27
/-- its blocks. -/
def KBS (gt b4 b8 b10 b12 b14 : Nat) (k : Nat) : Prop := k = gt ∨ k = b4 ∨ k = b8 ∨ k = b10 ∨ k = b12 ∨ k = b14
theorem KEP.lt {w W : World} {gt ct bn : Nat} {bl : List Int} {b4 b8 b10 b12 b14 : Nat} {C4 C8 C10 C12 C14 : Array Value} (h : KEP w W gt ct bn bl b4 b8 b10 b12 b14 C4 C8 C10 C12 C14) : ∀ k, KBS gt b4 b8 b10 b12 b14 k → k < W.heap.size := fun k hk => by
  rcases hk with rfl | rfl | rfl | rfl | rfl | rfl
  · exact h.gtl
  · exact h.h4.lt
  · exact h.h8.lt
  · exact h.h10.lt
  · exact h.h12.lt
  · exact h.h14.lt
theorem KEP.step {w W W' : World} {gt ct bn : Nat} {bl : List Int} {b4 b8 b10 b12 b14 : Nat} {C4 C8 C10 C12 C14 : Array Value} (h : KEP w W gt ct bn bl b4 b8 b10 b12 b14 C4 C8 C10 C12 C14) (hb : Below W.heap.size W W') : KEP w W' gt ct bn bl b4 b8 b10 b12 b14 C4 C8 C10 C12 C14 :=
  ⟨h.bel.trans (hb.mono h.bel.size), own_below h.txt hb, Nat.lt_of_lt_of_le h.gtl hb.size, h.h4.keep hb, h.h8.keep hb, h.h10.keep hb, h.h12.keep hb, h.h14.keep hb⟩
theorem KEP.heap {w W W' : World} {gt ct bn : Nat} {bl : List Int} {b4 b8 b10 b12 b14 : Nat} {C4 C8 C10 C12 C14 : Array Value} (h : KEP w W gt ct bn bl b4 b8 b10 b12 b14 C4 C8 C10 C12 C14) (hb : Below w.heap.size w W') (hs : W.heap.size ≤ W'.heap.size) (hk : ∀ k, KBS gt b4 b8 b10 b12 b14 k → W'.heap[k]? = W.heap[k]?) : KEP w W' gt ct bn bl b4 b8 b10 b12 b14 C4 C8 C10 C12 C14 :=
  ⟨hb, own_heap h.txt fun k e => hk k (.inl (by have : gt = k := by simpa [Value.ownBlock] using e
                                                exact this.symm)), Nat.lt_of_lt_of_le h.gtl hs, (hk b4 (.inr (.inl rfl))).trans h.h4, (hk b8 (.inr (.inr (.inl rfl)))).trans h.h8, (hk b10 (.inr (.inr (.inr (.inl rfl))))).trans h.h10, (hk b12 (.inr (.inr (.inr (.inr (.inl rfl)))))).trans h.h12, (hk b14 (.inr (.inr (.inr (.inr (.inr rfl)))))).trans h.h14⟩
def V4 {α : Type} (p q r s : α) (x : Nat) : α := if x = 0 then p else if x = 1 then q else if x = 2 then r else s
theorem four_cases {P : Nat → Prop} (h0 : P 0) (h1 : P 1) (h2 : P 2) (h3 : P 3) : ∀ x, x < 4 → P x := fun x hx => by
  match x, hx with
  | 0, _ => exact h0
  | 1, _ => exact h1
  | 2, _ => exact h2
  | 3, _ => exact h3
/-- four rows, one behind the other. -/
theorem FAM.of_four {t : TypeId} {s : Nat} {w : World} {B : Nat} {K : Nat → Prop} {v0 v1 v2 v3 : Value} {n0 n1 n2 n3 : Nat} {x0 x1 x2 x3 : List Value} {lo0 hi0 lo1 hi1 lo2 hi2 lo3 hi3 : Nat}
    (r0 : w.ownsRow B t s v0 n0 x0) (r1 : w.ownsRow B t s v1 n1 x1) (r2 : w.ownsRow B t s v2 n2 x2) (r3 : w.ownsRow B t s v3 n3 x3)
    (s0 : ∀ g, v0.ownBlock = some g → lo0 < g ∧ g < hi0) (s1 : ∀ g, v1.ownBlock = some g → lo1 < g ∧ g < hi1) (s2 : ∀ g, v2.ownBlock = some g → lo2 < g ∧ g < hi2) (s3 : ∀ g, v3.ownBlock = some g → lo3 < g ∧ g < hi3)
    (a0 : hi0 ≤ lo1) (a1 : hi1 ≤ lo2) (a2 : hi2 ≤ lo3) (q : lo1 < hi1 ∧ lo2 < hi2) (hK : ∀ k, K k → ¬ (lo0 < k ∧ k < hi0) ∧ ¬ (lo1 < k ∧ k < hi1) ∧ ¬ (lo2 < k ∧ k < hi2) ∧ ¬ (lo3 < k ∧ k < hi3)) : FAM 4 t s w B K (V4 v0 v1 v2 v3) (V4 n0 n1 n2 n3) (V4 x0 x1 x2 x3) := by
  refine ⟨four_cases r0 r1 r2 r3, ?_, ?_⟩
  · intro x y hx hy hne g h1 h2
    have key : ∀ z, z < 4 → (V4 v0 v1 v2 v3 z).ownBlock = some g → V4 lo0 lo1 lo2 lo3 z < g ∧ g < V4 hi0 hi1 hi2 hi3 z := four_cases (s0 g) (s1 g) (s2 g) (s3 g)
    have k1 := key x hx h1
    have k2 := key y hy h2
    match x, y, hx, hy with
    | 0, 0, _, _ => exact hne rfl
    | 1, 1, _, _ => exact hne rfl
    | 2, 2, _, _ => exact hne rfl
    | 3, 3, _, _ => exact hne rfl
    | 0, 1, _, _ | 0, 2, _, _ | 0, 3, _, _ | 1, 0, _, _ | 1, 2, _, _ | 1, 3, _, _ | 2, 0, _, _ | 2, 1, _, _ | 2, 3, _, _ | 3, 0, _, _ | 3, 1, _, _ | 3, 2, _, _ =>
      simp only [V4] at k1 k2
      simp at k1 k2
      omega
  · refine four_cases ?_ ?_ ?_ ?_
    · exact fun g e hk => (hK g hk).1 (s0 g e)
    · exact fun g e hk => (hK g hk).2.1 (s1 g e)
    · exact fun g e hk => (hK g hk).2.2.1 (s2 g e)
    · exact fun g e hk => (hK g hk).2.2.2 (s3 g e)
/-- one of the four is written over. -/
theorem nodes_step {w W : World} {gt ct bn : Nat} {bl : List Int} {b4 b8 b10 b12 b14 : Nat} {C4 C8 C10 C12 C14 : Array Value} (h : KEP w W gt ct bn bl b4 b8 b10 b12 b14 C4 C8 C10 C12 C14) {v : Nat → Value} {n : Nat → Nat} {xs : Nat → List Value} (f : FAM 4 53 32 W w.heap.size (KBS gt b4 b8 b10 b12 b14) v n xs) (i : Nat) (hi : i < 4) (mk : Int) (hn : n i ≤ 900) :
    Calls Tryd.prog 20 #[v i, .int .u8 mk] W fun e w' => ∃ g c, e = .returned (.slice (some ⟨g, 0, none⟩) (n i + 1 + 1) c) ∧ KEP w w' gt ct bn bl b4 b8 b10 b12 b14 C4 C8 C10 C12 C14 ∧ FAM 4 53 32 w' w.heap.size (KBS gt b4 b8 b10 b12 b14) (UPD v i (.slice (some ⟨g, 0, none⟩) (n i + 1 + 1) c)) (UPD n i (n i + 1 + 1)) (UPD xs i (CELLS (MKS mk (n i + 1 + 1)))) := by
  refine (nodes_ok w.heap.size (v i) (n i) (xs i) mk hn W h.bel.size (f.row i hi)).mono ?_
  rintro e w' ⟨g, c, rfl, hown, hg, hat⟩
  obtain ⟨h1, h2⟩ := f.turn hi h.lt hown hg hat
  exact ⟨g, c, rfl, h.heap (h.bel.grown hg h.bel.size (fun k e => ((f.row i hi).lt k e).1)) hg.size h2, h1⟩
abbrev SL (g n c : Nat) : Value := .slice (some ⟨g, 0, none⟩) n c
set_option maxHeartbeats 8000000 in
theorem proofReads_core (ba : Option Addr) (bn bc : Nat) (hbc : ba = none → bc = 0) (hbn : bn ≤ bc) (bl : List Int) (w : World) (hB : Bytes w ba bn bl) (hT : Tabled w) (h0 : 0 < w.heap.size) (l3 : bn ≤ 9600) :
    Calls Tryd.prog 4 #[.slice ba bn bc] w fun e w' => e = .returned (.bool true) ∧ Below w.heap.size w w' := by
  have k3 : ¬ (9600 : Int) < (bn : Int) := by omega
  obtain ⟨E, X, Y, N, l, hD1⟩ : ∃ E X Y N l, DEC bl = (E, X, Y, N, l) := ⟨_, _, _, _, _, rfl⟩
  obtain ⟨E', F, Z, M, k, hD2⟩ : ∃ E' F Z M k, DEX bl = (E', F, Z, M, k) := ⟨_, _, _, _, _, rfl⟩
  have HD1 : Aside (DEC bl = (E, X, Y, N, l)) := hD1
  have HD2 : Aside (DEX bl = (E', F, Z, M, k)) := hD2
  have HN : Aside (N ≤ 188 ∧ M ≤ 188) := by
    have h1 : (DEC bl).2.2.2.1 ≤ 188 := DC0_few (DEC_few hB.2.2)
    have h2 : (DEX bl).2.2.2.1 ≤ 188 := DC0_few (DEX_few hB.2.2)
    rw [hD1] at h1
    rw [hD2] at h2
    exact ⟨h1, h2⟩
  have HA : Aside (Bytes w ba bn bl ∧ bn ≤ bc ∧ (ba = none → bc = 0) ∧ bn ≤ 9600) := ⟨hB, hbn, hbc, l3⟩
  have HT : Aside (∀ W, Below w.heap.size w W → Tabled W ∧ 0 < W.heap.size) := fun W h => ⟨hT.below h0 h, Nat.lt_of_lt_of_le h0 h.size⟩
  clear hbc hbn hB hT h0 l3 hD1 hD2
  go_enter Tryd.func4, Tryd.ntmps4
  go_wp2_with fail
  refine (text_ok ba bn bc (by have := HA.out; omega) HA.out.2.2.1 bl w HA.out.1).mono ?_
  rintro e w1 ⟨gt, ct, rfl, hown, hcap, hmk, hg, hb⟩
  have A1 : Aside (Below w.heap.size w w1 ∧ w1.ownsRow w.heap.size 5 1 (.slice (some ⟨gt, 0, none⟩) bn ct) bn (CELLS bl) ∧ gt < w1.heap.size ∧ w1.cell? ⟨gt, bn, none⟩ = some (.int .u8 171) ∧ (w.heap.size ≤ gt ∧ bn + 1 ≤ ct)) := ⟨hb, hown, hg, hmk, ⟨(hown.lt gt rfl).1, hcap⟩⟩
  clear hown hcap hmk hg hb k3
  go_wp2_with fail
  have cD := refdecode_ok ba bn bc (by have := HA.out; omega) bl w1 (HA.out.1.below A1.out.1) HA.out.2.1
  rw [HD1.out] at cD
  refine cD.mono ?_
  clear cD
  rintro e w2 ⟨a4, c4, rfl, hF, hb, hfr⟩
  dsimp only at *
  have A2 : Aside (Below w.heap.size w w2 ∧ w2.ownsRow w.heap.size 5 1 (.slice (some ⟨gt, 0, none⟩) bn ct) bn (CELLS bl) ∧ gt < w2.heap.size ∧ w2.cell? ⟨gt, bn, none⟩ = some (.int .u8 171) ∧ (w.heap.size ≤ gt ∧ bn + 1 ≤ ct) ∧ Flat w2 a4 N l ∧ (∀ b o, a4 = some ⟨b, o, none⟩ → b ≠ gt) ∧ gt < w2.heap.size) := ⟨A1.out.1.trans (hb.mono A1.out.1.size), own_below A1.out.2.1 hb, Nat.lt_of_lt_of_le A1.out.2.2.1 hb.size, (hb.cell (p := ⟨gt, bn, none⟩) A1.out.2.2.1).trans A1.out.2.2.2.1, A1.out.2.2.2.2, hF, fun b o e => by have h1 := hfr b o e; have h2 := A1.out.2.2.1; omega, Nat.lt_of_lt_of_le A1.out.2.2.1 hb.size⟩
  clear hF hfr hb
  obtain ⟨b4, hb4⟩ : ∃ b, b = w2.heap.size := ⟨_, rfl⟩
  have hb : Below w2.heap.size w2 (w2.alloc (.cells (PV X Y a4 N c4) 25)) := (Below.refl _ _).alloc (Nat.le_refl _) _
  have A3 : Aside (Below w.heap.size w (w2.alloc (.cells (PV X Y a4 N c4) 25)) ∧ (w2.alloc (.cells (PV X Y a4 N c4) 25)).ownsRow w.heap.size 5 1 (.slice (some ⟨gt, 0, none⟩) bn ct) bn (CELLS bl) ∧ gt < (w2.alloc (.cells (PV X Y a4 N c4) 25)).heap.size ∧ (w2.alloc (.cells (PV X Y a4 N c4) 25)).cell? ⟨gt, bn, none⟩ = some (.int .u8 171) ∧ (w.heap.size ≤ gt ∧ bn + 1 ≤ ct) ∧ Flat (w2.alloc (.cells (PV X Y a4 N c4) 25)) a4 N l ∧ (∀ b o, a4 = some ⟨b, o, none⟩ → b ≠ gt) ∧ gt < (w2.alloc (.cells (PV X Y a4 N c4) 25)).heap.size ∧ Has (w2.alloc (.cells (PV X Y a4 N c4) 25)) b4 (PV X Y a4 N c4) 25 ∧ b4 < (w2.alloc (.cells (PV X Y a4 N c4) 25)).heap.size ∧ gt < b4) := ⟨A2.out.1.trans (hb.mono A2.out.1.size), own_below A2.out.2.1 hb, Nat.lt_of_lt_of_le A2.out.2.2.1 hb.size, (hb.cell (p := ⟨gt, bn, none⟩) A2.out.2.2.1).trans A2.out.2.2.2.1, A2.out.2.2.2.2.1, A2.out.2.2.2.2.2.1.below hb, A2.out.2.2.2.2.2.2.1, Nat.lt_of_lt_of_le A2.out.2.2.2.2.2.2.2 hb.size, by rw [hb4]; exact Has.new _ _ _, by rw [hb4]; simp, by rw [hb4]; exact A2.out.2.2.1⟩
  clear A2 hb
  go_wp2_with fail
  rw [← hb4]
  clear hb4
  generalize w2.alloc (.cells (PV X Y a4 N c4) 25) = w4 at *
  go_wp2_with fail
  have cD := refdecodeprefix_ok ba bn bc (by have := HA.out; omega) bl w4 (HA.out.1.below A3.out.1) HA.out.2.1
  rw [HD2.out] at cD
  refine cD.mono ?_
  clear cD
  rintro e w5 ⟨a6, c6, rfl, hF, hb, hfr⟩
  dsimp only at *
  have A5 : Aside (Below w.heap.size w w5 ∧ w5.ownsRow w.heap.size 5 1 (.slice (some ⟨gt, 0, none⟩) bn ct) bn (CELLS bl) ∧ gt < w5.heap.size ∧ w5.cell? ⟨gt, bn, none⟩ = some (.int .u8 171) ∧ (w.heap.size ≤ gt ∧ bn + 1 ≤ ct) ∧ Flat w5 a4 N l ∧ (∀ b o, a4 = some ⟨b, o, none⟩ → b ≠ gt) ∧ gt < w5.heap.size ∧ Has w5 b4 (PV X Y a4 N c4) 25 ∧ b4 < w5.heap.size ∧ gt < b4 ∧ Flat w5 a6 M k ∧ (∀ b o, a6 = some ⟨b, o, none⟩ → b ≠ gt) ∧ gt < w5.heap.size) := ⟨A3.out.1.trans (hb.mono A3.out.1.size), own_below A3.out.2.1 hb, Nat.lt_of_lt_of_le A3.out.2.2.1 hb.size, (hb.cell (p := ⟨gt, bn, none⟩) A3.out.2.2.1).trans A3.out.2.2.2.1, A3.out.2.2.2.2.1, A3.out.2.2.2.2.2.1.below hb, A3.out.2.2.2.2.2.2.1, Nat.lt_of_lt_of_le A3.out.2.2.2.2.2.2.2.1 hb.size, A3.out.2.2.2.2.2.2.2.2.1.keep hb, Nat.lt_of_lt_of_le A3.out.2.2.2.2.2.2.2.2.2.1 hb.size, A3.out.2.2.2.2.2.2.2.2.2.2, hF, fun b o e => by have h1 := hfr b o e; have h2 := A3.out.2.2.1; omega, Nat.lt_of_lt_of_le A3.out.2.2.1 hb.size⟩
  clear hF hfr hb
  obtain ⟨b6, hb6⟩ : ∃ b, b = w5.heap.size := ⟨_, rfl⟩
  have hb : Below w5.heap.size w5 (w5.alloc (.cells (PV F Z a6 M c6) 27)) := (Below.refl _ _).alloc (Nat.le_refl _) _
  have A6 : Aside (Below w.heap.size w (w5.alloc (.cells (PV F Z a6 M c6) 27)) ∧ (w5.alloc (.cells (PV F Z a6 M c6) 27)).ownsRow w.heap.size 5 1 (.slice (some ⟨gt, 0, none⟩) bn ct) bn (CELLS bl) ∧ gt < (w5.alloc (.cells (PV F Z a6 M c6) 27)).heap.size ∧ (w5.alloc (.cells (PV F Z a6 M c6) 27)).cell? ⟨gt, bn, none⟩ = some (.int .u8 171) ∧ (w.heap.size ≤ gt ∧ bn + 1 ≤ ct) ∧ Flat (w5.alloc (.cells (PV F Z a6 M c6) 27)) a4 N l ∧ (∀ b o, a4 = some ⟨b, o, none⟩ → b ≠ gt) ∧ gt < (w5.alloc (.cells (PV F Z a6 M c6) 27)).heap.size ∧ Has (w5.alloc (.cells (PV F Z a6 M c6) 27)) b4 (PV X Y a4 N c4) 25 ∧ b4 < (w5.alloc (.cells (PV F Z a6 M c6) 27)).heap.size ∧ gt < b4 ∧ Flat (w5.alloc (.cells (PV F Z a6 M c6) 27)) a6 M k ∧ (∀ b o, a6 = some ⟨b, o, none⟩ → b ≠ gt) ∧ gt < (w5.alloc (.cells (PV F Z a6 M c6) 27)).heap.size ∧ Has (w5.alloc (.cells (PV F Z a6 M c6) 27)) b6 (PV F Z a6 M c6) 27 ∧ b6 < (w5.alloc (.cells (PV F Z a6 M c6) 27)).heap.size ∧ gt < b6 ∧ b4 < b6) := ⟨A5.out.1.trans (hb.mono A5.out.1.size), own_below A5.out.2.1 hb, Nat.lt_of_lt_of_le A5.out.2.2.1 hb.size, (hb.cell (p := ⟨gt, bn, none⟩) A5.out.2.2.1).trans A5.out.2.2.2.1, A5.out.2.2.2.2.1, A5.out.2.2.2.2.2.1.below hb, A5.out.2.2.2.2.2.2.1, Nat.lt_of_lt_of_le A5.out.2.2.2.2.2.2.2.1 hb.size, A5.out.2.2.2.2.2.2.2.2.1.keep hb, Nat.lt_of_lt_of_le A5.out.2.2.2.2.2.2.2.2.2.1 hb.size, A5.out.2.2.2.2.2.2.2.2.2.2.1, A5.out.2.2.2.2.2.2.2.2.2.2.2.1.below hb, A5.out.2.2.2.2.2.2.2.2.2.2.2.2.1, Nat.lt_of_lt_of_le A5.out.2.2.2.2.2.2.2.2.2.2.2.2.2 hb.size, by rw [hb6]; exact Has.new _ _ _, by rw [hb6]; simp, by rw [hb6]; exact A5.out.2.2.1, by rw [hb6]; exact A5.out.2.2.2.2.2.2.2.2.2.1⟩
  clear A5 hb
  go_wp2_with fail
  rw [← hb6]
  clear hb6
  generalize w5.alloc (.cells (PV F Z a6 M c6) 27) = w7 at *
  go_wp2_with fail
  have cD := decode_own (some ⟨gt, 0, none⟩) bn ct (by have := HA.out; omega) bl w7 (own_bytes A6.out.2.1 A6.out.2.2.1 HA.out.1.2.2) (by have := A6.out.2.2.2.2.1; omega) (HT.out _ A6.out.1).1 (HT.out _ A6.out.1).2
  rw [HD1.out] at cD
  refine cD.mono ?_
  clear cD
  rintro e w8 ⟨a8, c8, rfl, hR, -, hb⟩
  dsimp only at *
  have A8 : Aside (Below w.heap.size w w8 ∧ w8.ownsRow w.heap.size 5 1 (.slice (some ⟨gt, 0, none⟩) bn ct) bn (CELLS bl) ∧ gt < w8.heap.size ∧ w8.cell? ⟨gt, bn, none⟩ = some (.int .u8 171) ∧ (w.heap.size ≤ gt ∧ bn + 1 ≤ ct) ∧ Flat w8 a4 N l ∧ (∀ b o, a4 = some ⟨b, o, none⟩ → b ≠ gt) ∧ gt < w8.heap.size ∧ Has w8 b4 (PV X Y a4 N c4) 25 ∧ b4 < w8.heap.size ∧ gt < b4 ∧ Flat w8 a6 M k ∧ (∀ b o, a6 = some ⟨b, o, none⟩ → b ≠ gt) ∧ gt < w8.heap.size ∧ Has w8 b6 (PV F Z a6 M c6) 27 ∧ b6 < w8.heap.size ∧ gt < b6 ∧ b4 < b6 ∧ w8.ownsRow w.heap.size 53 32 (.slice a8 N c8) N (CELLS l) ∧ (∀ g, (Value.slice a8 N c8).ownBlock = some g → b6 < g ∧ g < w8.heap.size)) := ⟨A6.out.1.trans (hb.mono A6.out.1.size), own_below A6.out.2.1 hb, Nat.lt_of_lt_of_le A6.out.2.2.1 hb.size, (hb.cell (p := ⟨gt, bn, none⟩) A6.out.2.2.1).trans A6.out.2.2.2.1, A6.out.2.2.2.2.1, A6.out.2.2.2.2.2.1.below hb, A6.out.2.2.2.2.2.2.1, Nat.lt_of_lt_of_le A6.out.2.2.2.2.2.2.2.1 hb.size, A6.out.2.2.2.2.2.2.2.2.1.keep hb, Nat.lt_of_lt_of_le A6.out.2.2.2.2.2.2.2.2.2.1 hb.size, A6.out.2.2.2.2.2.2.2.2.2.2.1, A6.out.2.2.2.2.2.2.2.2.2.2.2.1.below hb, A6.out.2.2.2.2.2.2.2.2.2.2.2.2.1, Nat.lt_of_lt_of_le A6.out.2.2.2.2.2.2.2.2.2.2.2.2.2.1 hb.size, A6.out.2.2.2.2.2.2.2.2.2.2.2.2.2.2.1.keep hb, Nat.lt_of_lt_of_le A6.out.2.2.2.2.2.2.2.2.2.2.2.2.2.2.2.1 hb.size, A6.out.2.2.2.2.2.2.2.2.2.2.2.2.2.2.2.2.1, A6.out.2.2.2.2.2.2.2.2.2.2.2.2.2.2.2.2.2, own_mono hR (A6.out.1).size, fun g e => by have h1 := hR.lt g e; have h2 := A6.out.2.2.2.2.2.2.2.2.2.2.2.2.2.2.2.1; omega⟩
  clear hR hb
  obtain ⟨b8, hb8⟩ : ∃ b, b = w8.heap.size := ⟨_, rfl⟩
  have hb : Below w8.heap.size w8 (w8.alloc (.cells (PV X Y a8 N c8) 25)) := (Below.refl _ _).alloc (Nat.le_refl _) _
  have A9 : Aside (Below w.heap.size w (w8.alloc (.cells (PV X Y a8 N c8) 25)) ∧ (w8.alloc (.cells (PV X Y a8 N c8) 25)).ownsRow w.heap.size 5 1 (.slice (some ⟨gt, 0, none⟩) bn ct) bn (CELLS bl) ∧ gt < (w8.alloc (.cells (PV X Y a8 N c8) 25)).heap.size ∧ (w8.alloc (.cells (PV X Y a8 N c8) 25)).cell? ⟨gt, bn, none⟩ = some (.int .u8 171) ∧ (w.heap.size ≤ gt ∧ bn + 1 ≤ ct) ∧ Flat (w8.alloc (.cells (PV X Y a8 N c8) 25)) a4 N l ∧ (∀ b o, a4 = some ⟨b, o, none⟩ → b ≠ gt) ∧ gt < (w8.alloc (.cells (PV X Y a8 N c8) 25)).heap.size ∧ Has (w8.alloc (.cells (PV X Y a8 N c8) 25)) b4 (PV X Y a4 N c4) 25 ∧ b4 < (w8.alloc (.cells (PV X Y a8 N c8) 25)).heap.size ∧ gt < b4 ∧ Flat (w8.alloc (.cells (PV X Y a8 N c8) 25)) a6 M k ∧ (∀ b o, a6 = some ⟨b, o, none⟩ → b ≠ gt) ∧ gt < (w8.alloc (.cells (PV X Y a8 N c8) 25)).heap.size ∧ Has (w8.alloc (.cells (PV X Y a8 N c8) 25)) b6 (PV F Z a6 M c6) 27 ∧ b6 < (w8.alloc (.cells (PV X Y a8 N c8) 25)).heap.size ∧ gt < b6 ∧ b4 < b6 ∧ (w8.alloc (.cells (PV X Y a8 N c8) 25)).ownsRow w.heap.size 53 32 (.slice a8 N c8) N (CELLS l) ∧ (∀ g, (Value.slice a8 N c8).ownBlock = some g → b6 < g ∧ g < b8) ∧ Has (w8.alloc (.cells (PV X Y a8 N c8) 25)) b8 (PV X Y a8 N c8) 25 ∧ b8 < (w8.alloc (.cells (PV X Y a8 N c8) 25)).heap.size ∧ b6 < b8) := ⟨A8.out.1.trans (hb.mono A8.out.1.size), own_below A8.out.2.1 hb, Nat.lt_of_lt_of_le A8.out.2.2.1 hb.size, (hb.cell (p := ⟨gt, bn, none⟩) A8.out.2.2.1).trans A8.out.2.2.2.1, A8.out.2.2.2.2.1, A8.out.2.2.2.2.2.1.below hb, A8.out.2.2.2.2.2.2.1, Nat.lt_of_lt_of_le A8.out.2.2.2.2.2.2.2.1 hb.size, A8.out.2.2.2.2.2.2.2.2.1.keep hb, Nat.lt_of_lt_of_le A8.out.2.2.2.2.2.2.2.2.2.1 hb.size, A8.out.2.2.2.2.2.2.2.2.2.2.1, A8.out.2.2.2.2.2.2.2.2.2.2.2.1.below hb, A8.out.2.2.2.2.2.2.2.2.2.2.2.2.1, Nat.lt_of_lt_of_le A8.out.2.2.2.2.2.2.2.2.2.2.2.2.2.1 hb.size, A8.out.2.2.2.2.2.2.2.2.2.2.2.2.2.2.1.keep hb, Nat.lt_of_lt_of_le A8.out.2.2.2.2.2.2.2.2.2.2.2.2.2.2.2.1 hb.size, A8.out.2.2.2.2.2.2.2.2.2.2.2.2.2.2.2.2.1, A8.out.2.2.2.2.2.2.2.2.2.2.2.2.2.2.2.2.2.1, own_below A8.out.2.2.2.2.2.2.2.2.2.2.2.2.2.2.2.2.2.2.1 hb, by rw [hb8]; exact A8.out.2.2.2.2.2.2.2.2.2.2.2.2.2.2.2.2.2.2.2, by rw [hb8]; exact Has.new _ _ _, by rw [hb8]; simp, by rw [hb8]; exact A8.out.2.2.2.2.2.2.2.2.2.2.2.2.2.2.2.1⟩
  clear A8 hb
  go_wp2_with fail
  rw [← hb8]
  clear hb8
  generalize w8.alloc (.cells (PV X Y a8 N c8) 25) = w10 at *
  go_wp2_with fail
  have cD := decode_own (some ⟨gt, 0, none⟩) bn ct (by have := HA.out; omega) bl w10 (own_bytes A9.out.2.1 A9.out.2.2.1 HA.out.1.2.2) (by have := A9.out.2.2.2.2.1; omega) (HT.out _ A9.out.1).1 (HT.out _ A9.out.1).2
  rw [HD1.out] at cD
  refine cD.mono ?_
  clear cD
  rintro e w11 ⟨a10, c10, rfl, hR, -, hb⟩
  dsimp only at *
  have A11 : Aside (Below w.heap.size w w11 ∧ w11.ownsRow w.heap.size 5 1 (.slice (some ⟨gt, 0, none⟩) bn ct) bn (CELLS bl) ∧ gt < w11.heap.size ∧ w11.cell? ⟨gt, bn, none⟩ = some (.int .u8 171) ∧ (w.heap.size ≤ gt ∧ bn + 1 ≤ ct) ∧ Flat w11 a4 N l ∧ (∀ b o, a4 = some ⟨b, o, none⟩ → b ≠ gt) ∧ gt < w11.heap.size ∧ Has w11 b4 (PV X Y a4 N c4) 25 ∧ b4 < w11.heap.size ∧ gt < b4 ∧ Flat w11 a6 M k ∧ (∀ b o, a6 = some ⟨b, o, none⟩ → b ≠ gt) ∧ gt < w11.heap.size ∧ Has w11 b6 (PV F Z a6 M c6) 27 ∧ b6 < w11.heap.size ∧ gt < b6 ∧ b4 < b6 ∧ w11.ownsRow w.heap.size 53 32 (.slice a8 N c8) N (CELLS l) ∧ (∀ g, (Value.slice a8 N c8).ownBlock = some g → b6 < g ∧ g < b8) ∧ Has w11 b8 (PV X Y a8 N c8) 25 ∧ b8 < w11.heap.size ∧ b6 < b8 ∧ w11.ownsRow w.heap.size 53 32 (.slice a10 N c10) N (CELLS l) ∧ (∀ g, (Value.slice a10 N c10).ownBlock = some g → b8 < g ∧ g < w11.heap.size)) := ⟨A9.out.1.trans (hb.mono A9.out.1.size), own_below A9.out.2.1 hb, Nat.lt_of_lt_of_le A9.out.2.2.1 hb.size, (hb.cell (p := ⟨gt, bn, none⟩) A9.out.2.2.1).trans A9.out.2.2.2.1, A9.out.2.2.2.2.1, A9.out.2.2.2.2.2.1.below hb, A9.out.2.2.2.2.2.2.1, Nat.lt_of_lt_of_le A9.out.2.2.2.2.2.2.2.1 hb.size, A9.out.2.2.2.2.2.2.2.2.1.keep hb, Nat.lt_of_lt_of_le A9.out.2.2.2.2.2.2.2.2.2.1 hb.size, A9.out.2.2.2.2.2.2.2.2.2.2.1, A9.out.2.2.2.2.2.2.2.2.2.2.2.1.below hb, A9.out.2.2.2.2.2.2.2.2.2.2.2.2.1, Nat.lt_of_lt_of_le A9.out.2.2.2.2.2.2.2.2.2.2.2.2.2.1 hb.size, A9.out.2.2.2.2.2.2.2.2.2.2.2.2.2.2.1.keep hb, Nat.lt_of_lt_of_le A9.out.2.2.2.2.2.2.2.2.2.2.2.2.2.2.2.1 hb.size, A9.out.2.2.2.2.2.2.2.2.2.2.2.2.2.2.2.2.1, A9.out.2.2.2.2.2.2.2.2.2.2.2.2.2.2.2.2.2.1, own_below A9.out.2.2.2.2.2.2.2.2.2.2.2.2.2.2.2.2.2.2.1 hb, A9.out.2.2.2.2.2.2.2.2.2.2.2.2.2.2.2.2.2.2.2.1, A9.out.2.2.2.2.2.2.2.2.2.2.2.2.2.2.2.2.2.2.2.2.1.keep hb, Nat.lt_of_lt_of_le A9.out.2.2.2.2.2.2.2.2.2.2.2.2.2.2.2.2.2.2.2.2.2.1 hb.size, A9.out.2.2.2.2.2.2.2.2.2.2.2.2.2.2.2.2.2.2.2.2.2.2, own_mono hR (A9.out.1).size, fun g e => by have h1 := hR.lt g e; have h2 := A9.out.2.2.2.2.2.2.2.2.2.2.2.2.2.2.2.2.2.2.2.2.2.1; omega⟩
  clear hR hb
  obtain ⟨b10, hb10⟩ : ∃ b, b = w11.heap.size := ⟨_, rfl⟩
  have hb : Below w11.heap.size w11 (w11.alloc (.cells (PV X Y a10 N c10) 25)) := (Below.refl _ _).alloc (Nat.le_refl _) _
  have A12 : Aside (Below w.heap.size w (w11.alloc (.cells (PV X Y a10 N c10) 25)) ∧ (w11.alloc (.cells (PV X Y a10 N c10) 25)).ownsRow w.heap.size 5 1 (.slice (some ⟨gt, 0, none⟩) bn ct) bn (CELLS bl) ∧ gt < (w11.alloc (.cells (PV X Y a10 N c10) 25)).heap.size ∧ (w11.alloc (.cells (PV X Y a10 N c10) 25)).cell? ⟨gt, bn, none⟩ = some (.int .u8 171) ∧ (w.heap.size ≤ gt ∧ bn + 1 ≤ ct) ∧ Flat (w11.alloc (.cells (PV X Y a10 N c10) 25)) a4 N l ∧ (∀ b o, a4 = some ⟨b, o, none⟩ → b ≠ gt) ∧ gt < (w11.alloc (.cells (PV X Y a10 N c10) 25)).heap.size ∧ Has (w11.alloc (.cells (PV X Y a10 N c10) 25)) b4 (PV X Y a4 N c4) 25 ∧ b4 < (w11.alloc (.cells (PV X Y a10 N c10) 25)).heap.size ∧ gt < b4 ∧ Flat (w11.alloc (.cells (PV X Y a10 N c10) 25)) a6 M k ∧ (∀ b o, a6 = some ⟨b, o, none⟩ → b ≠ gt) ∧ gt < (w11.alloc (.cells (PV X Y a10 N c10) 25)).heap.size ∧ Has (w11.alloc (.cells (PV X Y a10 N c10) 25)) b6 (PV F Z a6 M c6) 27 ∧ b6 < (w11.alloc (.cells (PV X Y a10 N c10) 25)).heap.size ∧ gt < b6 ∧ b4 < b6 ∧ (w11.alloc (.cells (PV X Y a10 N c10) 25)).ownsRow w.heap.size 53 32 (.slice a8 N c8) N (CELLS l) ∧ (∀ g, (Value.slice a8 N c8).ownBlock = some g → b6 < g ∧ g < b8) ∧ Has (w11.alloc (.cells (PV X Y a10 N c10) 25)) b8 (PV X Y a8 N c8) 25 ∧ b8 < (w11.alloc (.cells (PV X Y a10 N c10) 25)).heap.size ∧ b6 < b8 ∧ (w11.alloc (.cells (PV X Y a10 N c10) 25)).ownsRow w.heap.size 53 32 (.slice a10 N c10) N (CELLS l) ∧ (∀ g, (Value.slice a10 N c10).ownBlock = some g → b8 < g ∧ g < b10) ∧ Has (w11.alloc (.cells (PV X Y a10 N c10) 25)) b10 (PV X Y a10 N c10) 25 ∧ b10 < (w11.alloc (.cells (PV X Y a10 N c10) 25)).heap.size ∧ b8 < b10) := ⟨A11.out.1.trans (hb.mono A11.out.1.size), own_below A11.out.2.1 hb, Nat.lt_of_lt_of_le A11.out.2.2.1 hb.size, (hb.cell (p := ⟨gt, bn, none⟩) A11.out.2.2.1).trans A11.out.2.2.2.1, A11.out.2.2.2.2.1, A11.out.2.2.2.2.2.1.below hb, A11.out.2.2.2.2.2.2.1, Nat.lt_of_lt_of_le A11.out.2.2.2.2.2.2.2.1 hb.size, A11.out.2.2.2.2.2.2.2.2.1.keep hb, Nat.lt_of_lt_of_le A11.out.2.2.2.2.2.2.2.2.2.1 hb.size, A11.out.2.2.2.2.2.2.2.2.2.2.1, A11.out.2.2.2.2.2.2.2.2.2.2.2.1.below hb, A11.out.2.2.2.2.2.2.2.2.2.2.2.2.1, Nat.lt_of_lt_of_le A11.out.2.2.2.2.2.2.2.2.2.2.2.2.2.1 hb.size, A11.out.2.2.2.2.2.2.2.2.2.2.2.2.2.2.1.keep hb, Nat.lt_of_lt_of_le A11.out.2.2.2.2.2.2.2.2.2.2.2.2.2.2.2.1 hb.size, A11.out.2.2.2.2.2.2.2.2.2.2.2.2.2.2.2.2.1, A11.out.2.2.2.2.2.2.2.2.2.2.2.2.2.2.2.2.2.1, own_below A11.out.2.2.2.2.2.2.2.2.2.2.2.2.2.2.2.2.2.2.1 hb, A11.out.2.2.2.2.2.2.2.2.2.2.2.2.2.2.2.2.2.2.2.1, A11.out.2.2.2.2.2.2.2.2.2.2.2.2.2.2.2.2.2.2.2.2.1.keep hb, Nat.lt_of_lt_of_le A11.out.2.2.2.2.2.2.2.2.2.2.2.2.2.2.2.2.2.2.2.2.2.1 hb.size, A11.out.2.2.2.2.2.2.2.2.2.2.2.2.2.2.2.2.2.2.2.2.2.2.1, own_below A11.out.2.2.2.2.2.2.2.2.2.2.2.2.2.2.2.2.2.2.2.2.2.2.2.1 hb, by rw [hb10]; exact A11.out.2.2.2.2.2.2.2.2.2.2.2.2.2.2.2.2.2.2.2.2.2.2.2.2, by rw [hb10]; exact Has.new _ _ _, by rw [hb10]; simp, by rw [hb10]; exact A11.out.2.2.2.2.2.2.2.2.2.2.2.2.2.2.2.2.2.2.2.2.2.1⟩
  clear A11 hb
  go_wp2_with fail
  rw [← hb10]
  clear hb10
  generalize w11.alloc (.cells (PV X Y a10 N c10) 25) = w13 at *
  go_wp2_with fail
  have cD := decodeprefix_own (some ⟨gt, 0, none⟩) bn ct (by have := HA.out; omega) bl w13 (own_bytes A12.out.2.1 A12.out.2.2.1 HA.out.1.2.2) (by have := A12.out.2.2.2.2.1; omega) (HT.out _ A12.out.1).1 (HT.out _ A12.out.1).2
  rw [HD2.out] at cD
  refine cD.mono ?_
  clear cD
  rintro e w14 ⟨a12, c12, rfl, hR, -, hb⟩
  dsimp only at *
  have A14 : Aside (Below w.heap.size w w14 ∧ w14.ownsRow w.heap.size 5 1 (.slice (some ⟨gt, 0, none⟩) bn ct) bn (CELLS bl) ∧ gt < w14.heap.size ∧ w14.cell? ⟨gt, bn, none⟩ = some (.int .u8 171) ∧ (w.heap.size ≤ gt ∧ bn + 1 ≤ ct) ∧ Flat w14 a4 N l ∧ (∀ b o, a4 = some ⟨b, o, none⟩ → b ≠ gt) ∧ gt < w14.heap.size ∧ Has w14 b4 (PV X Y a4 N c4) 25 ∧ b4 < w14.heap.size ∧ gt < b4 ∧ Flat w14 a6 M k ∧ (∀ b o, a6 = some ⟨b, o, none⟩ → b ≠ gt) ∧ gt < w14.heap.size ∧ Has w14 b6 (PV F Z a6 M c6) 27 ∧ b6 < w14.heap.size ∧ gt < b6 ∧ b4 < b6 ∧ w14.ownsRow w.heap.size 53 32 (.slice a8 N c8) N (CELLS l) ∧ (∀ g, (Value.slice a8 N c8).ownBlock = some g → b6 < g ∧ g < b8) ∧ Has w14 b8 (PV X Y a8 N c8) 25 ∧ b8 < w14.heap.size ∧ b6 < b8 ∧ w14.ownsRow w.heap.size 53 32 (.slice a10 N c10) N (CELLS l) ∧ (∀ g, (Value.slice a10 N c10).ownBlock = some g → b8 < g ∧ g < b10) ∧ Has w14 b10 (PV X Y a10 N c10) 25 ∧ b10 < w14.heap.size ∧ b8 < b10 ∧ w14.ownsRow w.heap.size 53 32 (.slice a12 M c12) M (CELLS k) ∧ (∀ g, (Value.slice a12 M c12).ownBlock = some g → b10 < g ∧ g < w14.heap.size)) := ⟨A12.out.1.trans (hb.mono A12.out.1.size), own_below A12.out.2.1 hb, Nat.lt_of_lt_of_le A12.out.2.2.1 hb.size, (hb.cell (p := ⟨gt, bn, none⟩) A12.out.2.2.1).trans A12.out.2.2.2.1, A12.out.2.2.2.2.1, A12.out.2.2.2.2.2.1.below hb, A12.out.2.2.2.2.2.2.1, Nat.lt_of_lt_of_le A12.out.2.2.2.2.2.2.2.1 hb.size, A12.out.2.2.2.2.2.2.2.2.1.keep hb, Nat.lt_of_lt_of_le A12.out.2.2.2.2.2.2.2.2.2.1 hb.size, A12.out.2.2.2.2.2.2.2.2.2.2.1, A12.out.2.2.2.2.2.2.2.2.2.2.2.1.below hb, A12.out.2.2.2.2.2.2.2.2.2.2.2.2.1, Nat.lt_of_lt_of_le A12.out.2.2.2.2.2.2.2.2.2.2.2.2.2.1 hb.size, A12.out.2.2.2.2.2.2.2.2.2.2.2.2.2.2.1.keep hb, Nat.lt_of_lt_of_le A12.out.2.2.2.2.2.2.2.2.2.2.2.2.2.2.2.1 hb.size, A12.out.2.2.2.2.2.2.2.2.2.2.2.2.2.2.2.2.1, A12.out.2.2.2.2.2.2.2.2.2.2.2.2.2.2.2.2.2.1, own_below A12.out.2.2.2.2.2.2.2.2.2.2.2.2.2.2.2.2.2.2.1 hb, A12.out.2.2.2.2.2.2.2.2.2.2.2.2.2.2.2.2.2.2.2.1, A12.out.2.2.2.2.2.2.2.2.2.2.2.2.2.2.2.2.2.2.2.2.1.keep hb, Nat.lt_of_lt_of_le A12.out.2.2.2.2.2.2.2.2.2.2.2.2.2.2.2.2.2.2.2.2.2.1 hb.size, A12.out.2.2.2.2.2.2.2.2.2.2.2.2.2.2.2.2.2.2.2.2.2.2.1, own_below A12.out.2.2.2.2.2.2.2.2.2.2.2.2.2.2.2.2.2.2.2.2.2.2.2.1 hb, A12.out.2.2.2.2.2.2.2.2.2.2.2.2.2.2.2.2.2.2.2.2.2.2.2.2.1, A12.out.2.2.2.2.2.2.2.2.2.2.2.2.2.2.2.2.2.2.2.2.2.2.2.2.2.1.keep hb, Nat.lt_of_lt_of_le A12.out.2.2.2.2.2.2.2.2.2.2.2.2.2.2.2.2.2.2.2.2.2.2.2.2.2.2.1 hb.size, A12.out.2.2.2.2.2.2.2.2.2.2.2.2.2.2.2.2.2.2.2.2.2.2.2.2.2.2.2, own_mono hR (A12.out.1).size, fun g e => by have h1 := hR.lt g e; have h2 := A12.out.2.2.2.2.2.2.2.2.2.2.2.2.2.2.2.2.2.2.2.2.2.2.2.2.2.2.1; omega⟩
  clear hR hb
  obtain ⟨b12, hb12⟩ : ∃ b, b = w14.heap.size := ⟨_, rfl⟩
  have hb : Below w14.heap.size w14 (w14.alloc (.cells (PV F Z a12 M c12) 27)) := (Below.refl _ _).alloc (Nat.le_refl _) _
  have A15 : Aside (Below w.heap.size w (w14.alloc (.cells (PV F Z a12 M c12) 27)) ∧ (w14.alloc (.cells (PV F Z a12 M c12) 27)).ownsRow w.heap.size 5 1 (.slice (some ⟨gt, 0, none⟩) bn ct) bn (CELLS bl) ∧ gt < (w14.alloc (.cells (PV F Z a12 M c12) 27)).heap.size ∧ (w14.alloc (.cells (PV F Z a12 M c12) 27)).cell? ⟨gt, bn, none⟩ = some (.int .u8 171) ∧ (w.heap.size ≤ gt ∧ bn + 1 ≤ ct) ∧ Flat (w14.alloc (.cells (PV F Z a12 M c12) 27)) a4 N l ∧ (∀ b o, a4 = some ⟨b, o, none⟩ → b ≠ gt) ∧ gt < (w14.alloc (.cells (PV F Z a12 M c12) 27)).heap.size ∧ Has (w14.alloc (.cells (PV F Z a12 M c12) 27)) b4 (PV X Y a4 N c4) 25 ∧ b4 < (w14.alloc (.cells (PV F Z a12 M c12) 27)).heap.size ∧ gt < b4 ∧ Flat (w14.alloc (.cells (PV F Z a12 M c12) 27)) a6 M k ∧ (∀ b o, a6 = some ⟨b, o, none⟩ → b ≠ gt) ∧ gt < (w14.alloc (.cells (PV F Z a12 M c12) 27)).heap.size ∧ Has (w14.alloc (.cells (PV F Z a12 M c12) 27)) b6 (PV F Z a6 M c6) 27 ∧ b6 < (w14.alloc (.cells (PV F Z a12 M c12) 27)).heap.size ∧ gt < b6 ∧ b4 < b6 ∧ (w14.alloc (.cells (PV F Z a12 M c12) 27)).ownsRow w.heap.size 53 32 (.slice a8 N c8) N (CELLS l) ∧ (∀ g, (Value.slice a8 N c8).ownBlock = some g → b6 < g ∧ g < b8) ∧ Has (w14.alloc (.cells (PV F Z a12 M c12) 27)) b8 (PV X Y a8 N c8) 25 ∧ b8 < (w14.alloc (.cells (PV F Z a12 M c12) 27)).heap.size ∧ b6 < b8 ∧ (w14.alloc (.cells (PV F Z a12 M c12) 27)).ownsRow w.heap.size 53 32 (.slice a10 N c10) N (CELLS l) ∧ (∀ g, (Value.slice a10 N c10).ownBlock = some g → b8 < g ∧ g < b10) ∧ Has (w14.alloc (.cells (PV F Z a12 M c12) 27)) b10 (PV X Y a10 N c10) 25 ∧ b10 < (w14.alloc (.cells (PV F Z a12 M c12) 27)).heap.size ∧ b8 < b10 ∧ (w14.alloc (.cells (PV F Z a12 M c12) 27)).ownsRow w.heap.size 53 32 (.slice a12 M c12) M (CELLS k) ∧ (∀ g, (Value.slice a12 M c12).ownBlock = some g → b10 < g ∧ g < b12) ∧ Has (w14.alloc (.cells (PV F Z a12 M c12) 27)) b12 (PV F Z a12 M c12) 27 ∧ b12 < (w14.alloc (.cells (PV F Z a12 M c12) 27)).heap.size ∧ b10 < b12) := ⟨A14.out.1.trans (hb.mono A14.out.1.size), own_below A14.out.2.1 hb, Nat.lt_of_lt_of_le A14.out.2.2.1 hb.size, (hb.cell (p := ⟨gt, bn, none⟩) A14.out.2.2.1).trans A14.out.2.2.2.1, A14.out.2.2.2.2.1, A14.out.2.2.2.2.2.1.below hb, A14.out.2.2.2.2.2.2.1, Nat.lt_of_lt_of_le A14.out.2.2.2.2.2.2.2.1 hb.size, A14.out.2.2.2.2.2.2.2.2.1.keep hb, Nat.lt_of_lt_of_le A14.out.2.2.2.2.2.2.2.2.2.1 hb.size, A14.out.2.2.2.2.2.2.2.2.2.2.1, A14.out.2.2.2.2.2.2.2.2.2.2.2.1.below hb, A14.out.2.2.2.2.2.2.2.2.2.2.2.2.1, Nat.lt_of_lt_of_le A14.out.2.2.2.2.2.2.2.2.2.2.2.2.2.1 hb.size, A14.out.2.2.2.2.2.2.2.2.2.2.2.2.2.2.1.keep hb, Nat.lt_of_lt_of_le A14.out.2.2.2.2.2.2.2.2.2.2.2.2.2.2.2.1 hb.size, A14.out.2.2.2.2.2.2.2.2.2.2.2.2.2.2.2.2.1, A14.out.2.2.2.2.2.2.2.2.2.2.2.2.2.2.2.2.2.1, own_below A14.out.2.2.2.2.2.2.2.2.2.2.2.2.2.2.2.2.2.2.1 hb, A14.out.2.2.2.2.2.2.2.2.2.2.2.2.2.2.2.2.2.2.2.1, A14.out.2.2.2.2.2.2.2.2.2.2.2.2.2.2.2.2.2.2.2.2.1.keep hb, Nat.lt_of_lt_of_le A14.out.2.2.2.2.2.2.2.2.2.2.2.2.2.2.2.2.2.2.2.2.2.1 hb.size, A14.out.2.2.2.2.2.2.2.2.2.2.2.2.2.2.2.2.2.2.2.2.2.2.1, own_below A14.out.2.2.2.2.2.2.2.2.2.2.2.2.2.2.2.2.2.2.2.2.2.2.2.1 hb, A14.out.2.2.2.2.2.2.2.2.2.2.2.2.2.2.2.2.2.2.2.2.2.2.2.2.1, A14.out.2.2.2.2.2.2.2.2.2.2.2.2.2.2.2.2.2.2.2.2.2.2.2.2.2.1.keep hb, Nat.lt_of_lt_of_le A14.out.2.2.2.2.2.2.2.2.2.2.2.2.2.2.2.2.2.2.2.2.2.2.2.2.2.2.1 hb.size, A14.out.2.2.2.2.2.2.2.2.2.2.2.2.2.2.2.2.2.2.2.2.2.2.2.2.2.2.2.1, own_below A14.out.2.2.2.2.2.2.2.2.2.2.2.2.2.2.2.2.2.2.2.2.2.2.2.2.2.2.2.2.1 hb, by rw [hb12]; exact A14.out.2.2.2.2.2.2.2.2.2.2.2.2.2.2.2.2.2.2.2.2.2.2.2.2.2.2.2.2.2, by rw [hb12]; exact Has.new _ _ _, by rw [hb12]; simp, by rw [hb12]; exact A14.out.2.2.2.2.2.2.2.2.2.2.2.2.2.2.2.2.2.2.2.2.2.2.2.2.2.2.1⟩
  clear A14 hb
  go_wp2_with fail
  rw [← hb12]
  clear hb12
  generalize w14.alloc (.cells (PV F Z a12 M c12) 27) = w16 at *
  go_wp2_with fail
  have cD := decodeprefix_own (some ⟨gt, 0, none⟩) bn ct (by have := HA.out; omega) bl w16 (own_bytes A15.out.2.1 A15.out.2.2.1 HA.out.1.2.2) (by have := A15.out.2.2.2.2.1; omega) (HT.out _ A15.out.1).1 (HT.out _ A15.out.1).2
  rw [HD2.out] at cD
  refine cD.mono ?_
  clear cD
  rintro e w17 ⟨a14, c14, rfl, hR, -, hb⟩
  dsimp only at *
  have A17 : Aside (Below w.heap.size w w17 ∧ w17.ownsRow w.heap.size 5 1 (.slice (some ⟨gt, 0, none⟩) bn ct) bn (CELLS bl) ∧ gt < w17.heap.size ∧ w17.cell? ⟨gt, bn, none⟩ = some (.int .u8 171) ∧ (w.heap.size ≤ gt ∧ bn + 1 ≤ ct) ∧ Flat w17 a4 N l ∧ (∀ b o, a4 = some ⟨b, o, none⟩ → b ≠ gt) ∧ gt < w17.heap.size ∧ Has w17 b4 (PV X Y a4 N c4) 25 ∧ b4 < w17.heap.size ∧ gt < b4 ∧ Flat w17 a6 M k ∧ (∀ b o, a6 = some ⟨b, o, none⟩ → b ≠ gt) ∧ gt < w17.heap.size ∧ Has w17 b6 (PV F Z a6 M c6) 27 ∧ b6 < w17.heap.size ∧ gt < b6 ∧ b4 < b6 ∧ w17.ownsRow w.heap.size 53 32 (.slice a8 N c8) N (CELLS l) ∧ (∀ g, (Value.slice a8 N c8).ownBlock = some g → b6 < g ∧ g < b8) ∧ Has w17 b8 (PV X Y a8 N c8) 25 ∧ b8 < w17.heap.size ∧ b6 < b8 ∧ w17.ownsRow w.heap.size 53 32 (.slice a10 N c10) N (CELLS l) ∧ (∀ g, (Value.slice a10 N c10).ownBlock = some g → b8 < g ∧ g < b10) ∧ Has w17 b10 (PV X Y a10 N c10) 25 ∧ b10 < w17.heap.size ∧ b8 < b10 ∧ w17.ownsRow w.heap.size 53 32 (.slice a12 M c12) M (CELLS k) ∧ (∀ g, (Value.slice a12 M c12).ownBlock = some g → b10 < g ∧ g < b12) ∧ Has w17 b12 (PV F Z a12 M c12) 27 ∧ b12 < w17.heap.size ∧ b10 < b12 ∧ w17.ownsRow w.heap.size 53 32 (.slice a14 M c14) M (CELLS k) ∧ (∀ g, (Value.slice a14 M c14).ownBlock = some g → b12 < g ∧ g < w17.heap.size)) := ⟨A15.out.1.trans (hb.mono A15.out.1.size), own_below A15.out.2.1 hb, Nat.lt_of_lt_of_le A15.out.2.2.1 hb.size, (hb.cell (p := ⟨gt, bn, none⟩) A15.out.2.2.1).trans A15.out.2.2.2.1, A15.out.2.2.2.2.1, A15.out.2.2.2.2.2.1.below hb, A15.out.2.2.2.2.2.2.1, Nat.lt_of_lt_of_le A15.out.2.2.2.2.2.2.2.1 hb.size, A15.out.2.2.2.2.2.2.2.2.1.keep hb, Nat.lt_of_lt_of_le A15.out.2.2.2.2.2.2.2.2.2.1 hb.size, A15.out.2.2.2.2.2.2.2.2.2.2.1, A15.out.2.2.2.2.2.2.2.2.2.2.2.1.below hb, A15.out.2.2.2.2.2.2.2.2.2.2.2.2.1, Nat.lt_of_lt_of_le A15.out.2.2.2.2.2.2.2.2.2.2.2.2.2.1 hb.size, A15.out.2.2.2.2.2.2.2.2.2.2.2.2.2.2.1.keep hb, Nat.lt_of_lt_of_le A15.out.2.2.2.2.2.2.2.2.2.2.2.2.2.2.2.1 hb.size, A15.out.2.2.2.2.2.2.2.2.2.2.2.2.2.2.2.2.1, A15.out.2.2.2.2.2.2.2.2.2.2.2.2.2.2.2.2.2.1, own_below A15.out.2.2.2.2.2.2.2.2.2.2.2.2.2.2.2.2.2.2.1 hb, A15.out.2.2.2.2.2.2.2.2.2.2.2.2.2.2.2.2.2.2.2.1, A15.out.2.2.2.2.2.2.2.2.2.2.2.2.2.2.2.2.2.2.2.2.1.keep hb, Nat.lt_of_lt_of_le A15.out.2.2.2.2.2.2.2.2.2.2.2.2.2.2.2.2.2.2.2.2.2.1 hb.size, A15.out.2.2.2.2.2.2.2.2.2.2.2.2.2.2.2.2.2.2.2.2.2.2.1, own_below A15.out.2.2.2.2.2.2.2.2.2.2.2.2.2.2.2.2.2.2.2.2.2.2.2.1 hb, A15.out.2.2.2.2.2.2.2.2.2.2.2.2.2.2.2.2.2.2.2.2.2.2.2.2.1, A15.out.2.2.2.2.2.2.2.2.2.2.2.2.2.2.2.2.2.2.2.2.2.2.2.2.2.1.keep hb, Nat.lt_of_lt_of_le A15.out.2.2.2.2.2.2.2.2.2.2.2.2.2.2.2.2.2.2.2.2.2.2.2.2.2.2.1 hb.size, A15.out.2.2.2.2.2.2.2.2.2.2.2.2.2.2.2.2.2.2.2.2.2.2.2.2.2.2.2.1, own_below A15.out.2.2.2.2.2.2.2.2.2.2.2.2.2.2.2.2.2.2.2.2.2.2.2.2.2.2.2.2.1 hb, A15.out.2.2.2.2.2.2.2.2.2.2.2.2.2.2.2.2.2.2.2.2.2.2.2.2.2.2.2.2.2.1, A15.out.2.2.2.2.2.2.2.2.2.2.2.2.2.2.2.2.2.2.2.2.2.2.2.2.2.2.2.2.2.2.1.keep hb, Nat.lt_of_lt_of_le A15.out.2.2.2.2.2.2.2.2.2.2.2.2.2.2.2.2.2.2.2.2.2.2.2.2.2.2.2.2.2.2.2.1 hb.size, A15.out.2.2.2.2.2.2.2.2.2.2.2.2.2.2.2.2.2.2.2.2.2.2.2.2.2.2.2.2.2.2.2.2, own_mono hR (A15.out.1).size, fun g e => by have h1 := hR.lt g e; have h2 := A15.out.2.2.2.2.2.2.2.2.2.2.2.2.2.2.2.2.2.2.2.2.2.2.2.2.2.2.2.2.2.2.2.1; omega⟩
  clear hR hb
  obtain ⟨b14, hb14⟩ : ∃ b, b = w17.heap.size := ⟨_, rfl⟩
  have hb : Below w17.heap.size w17 (w17.alloc (.cells (PV F Z a14 M c14) 27)) := (Below.refl _ _).alloc (Nat.le_refl _) _
  have A18 : Aside (Below w.heap.size w (w17.alloc (.cells (PV F Z a14 M c14) 27)) ∧ (w17.alloc (.cells (PV F Z a14 M c14) 27)).ownsRow w.heap.size 5 1 (.slice (some ⟨gt, 0, none⟩) bn ct) bn (CELLS bl) ∧ gt < (w17.alloc (.cells (PV F Z a14 M c14) 27)).heap.size ∧ (w17.alloc (.cells (PV F Z a14 M c14) 27)).cell? ⟨gt, bn, none⟩ = some (.int .u8 171) ∧ (w.heap.size ≤ gt ∧ bn + 1 ≤ ct) ∧ Flat (w17.alloc (.cells (PV F Z a14 M c14) 27)) a4 N l ∧ (∀ b o, a4 = some ⟨b, o, none⟩ → b ≠ gt) ∧ gt < (w17.alloc (.cells (PV F Z a14 M c14) 27)).heap.size ∧ Has (w17.alloc (.cells (PV F Z a14 M c14) 27)) b4 (PV X Y a4 N c4) 25 ∧ b4 < (w17.alloc (.cells (PV F Z a14 M c14) 27)).heap.size ∧ gt < b4 ∧ Flat (w17.alloc (.cells (PV F Z a14 M c14) 27)) a6 M k ∧ (∀ b o, a6 = some ⟨b, o, none⟩ → b ≠ gt) ∧ gt < (w17.alloc (.cells (PV F Z a14 M c14) 27)).heap.size ∧ Has (w17.alloc (.cells (PV F Z a14 M c14) 27)) b6 (PV F Z a6 M c6) 27 ∧ b6 < (w17.alloc (.cells (PV F Z a14 M c14) 27)).heap.size ∧ gt < b6 ∧ b4 < b6 ∧ (w17.alloc (.cells (PV F Z a14 M c14) 27)).ownsRow w.heap.size 53 32 (.slice a8 N c8) N (CELLS l) ∧ (∀ g, (Value.slice a8 N c8).ownBlock = some g → b6 < g ∧ g < b8) ∧ Has (w17.alloc (.cells (PV F Z a14 M c14) 27)) b8 (PV X Y a8 N c8) 25 ∧ b8 < (w17.alloc (.cells (PV F Z a14 M c14) 27)).heap.size ∧ b6 < b8 ∧ (w17.alloc (.cells (PV F Z a14 M c14) 27)).ownsRow w.heap.size 53 32 (.slice a10 N c10) N (CELLS l) ∧ (∀ g, (Value.slice a10 N c10).ownBlock = some g → b8 < g ∧ g < b10) ∧ Has (w17.alloc (.cells (PV F Z a14 M c14) 27)) b10 (PV X Y a10 N c10) 25 ∧ b10 < (w17.alloc (.cells (PV F Z a14 M c14) 27)).heap.size ∧ b8 < b10 ∧ (w17.alloc (.cells (PV F Z a14 M c14) 27)).ownsRow w.heap.size 53 32 (.slice a12 M c12) M (CELLS k) ∧ (∀ g, (Value.slice a12 M c12).ownBlock = some g → b10 < g ∧ g < b12) ∧ Has (w17.alloc (.cells (PV F Z a14 M c14) 27)) b12 (PV F Z a12 M c12) 27 ∧ b12 < (w17.alloc (.cells (PV F Z a14 M c14) 27)).heap.size ∧ b10 < b12 ∧ (w17.alloc (.cells (PV F Z a14 M c14) 27)).ownsRow w.heap.size 53 32 (.slice a14 M c14) M (CELLS k) ∧ (∀ g, (Value.slice a14 M c14).ownBlock = some g → b12 < g ∧ g < b14) ∧ Has (w17.alloc (.cells (PV F Z a14 M c14) 27)) b14 (PV F Z a14 M c14) 27 ∧ b14 < (w17.alloc (.cells (PV F Z a14 M c14) 27)).heap.size ∧ b12 < b14) := ⟨A17.out.1.trans (hb.mono A17.out.1.size), own_below A17.out.2.1 hb, Nat.lt_of_lt_of_le A17.out.2.2.1 hb.size, (hb.cell (p := ⟨gt, bn, none⟩) A17.out.2.2.1).trans A17.out.2.2.2.1, A17.out.2.2.2.2.1, A17.out.2.2.2.2.2.1.below hb, A17.out.2.2.2.2.2.2.1, Nat.lt_of_lt_of_le A17.out.2.2.2.2.2.2.2.1 hb.size, A17.out.2.2.2.2.2.2.2.2.1.keep hb, Nat.lt_of_lt_of_le A17.out.2.2.2.2.2.2.2.2.2.1 hb.size, A17.out.2.2.2.2.2.2.2.2.2.2.1, A17.out.2.2.2.2.2.2.2.2.2.2.2.1.below hb, A17.out.2.2.2.2.2.2.2.2.2.2.2.2.1, Nat.lt_of_lt_of_le A17.out.2.2.2.2.2.2.2.2.2.2.2.2.2.1 hb.size, A17.out.2.2.2.2.2.2.2.2.2.2.2.2.2.2.1.keep hb, Nat.lt_of_lt_of_le A17.out.2.2.2.2.2.2.2.2.2.2.2.2.2.2.2.1 hb.size, A17.out.2.2.2.2.2.2.2.2.2.2.2.2.2.2.2.2.1, A17.out.2.2.2.2.2.2.2.2.2.2.2.2.2.2.2.2.2.1, own_below A17.out.2.2.2.2.2.2.2.2.2.2.2.2.2.2.2.2.2.2.1 hb, A17.out.2.2.2.2.2.2.2.2.2.2.2.2.2.2.2.2.2.2.2.1, A17.out.2.2.2.2.2.2.2.2.2.2.2.2.2.2.2.2.2.2.2.2.1.keep hb, Nat.lt_of_lt_of_le A17.out.2.2.2.2.2.2.2.2.2.2.2.2.2.2.2.2.2.2.2.2.2.1 hb.size, A17.out.2.2.2.2.2.2.2.2.2.2.2.2.2.2.2.2.2.2.2.2.2.2.1, own_below A17.out.2.2.2.2.2.2.2.2.2.2.2.2.2.2.2.2.2.2.2.2.2.2.2.1 hb, A17.out.2.2.2.2.2.2.2.2.2.2.2.2.2.2.2.2.2.2.2.2.2.2.2.2.1, A17.out.2.2.2.2.2.2.2.2.2.2.2.2.2.2.2.2.2.2.2.2.2.2.2.2.2.1.keep hb, Nat.lt_of_lt_of_le A17.out.2.2.2.2.2.2.2.2.2.2.2.2.2.2.2.2.2.2.2.2.2.2.2.2.2.2.1 hb.size, A17.out.2.2.2.2.2.2.2.2.2.2.2.2.2.2.2.2.2.2.2.2.2.2.2.2.2.2.2.1, own_below A17.out.2.2.2.2.2.2.2.2.2.2.2.2.2.2.2.2.2.2.2.2.2.2.2.2.2.2.2.2.1 hb, A17.out.2.2.2.2.2.2.2.2.2.2.2.2.2.2.2.2.2.2.2.2.2.2.2.2.2.2.2.2.2.1, A17.out.2.2.2.2.2.2.2.2.2.2.2.2.2.2.2.2.2.2.2.2.2.2.2.2.2.2.2.2.2.2.1.keep hb, Nat.lt_of_lt_of_le A17.out.2.2.2.2.2.2.2.2.2.2.2.2.2.2.2.2.2.2.2.2.2.2.2.2.2.2.2.2.2.2.2.1 hb.size, A17.out.2.2.2.2.2.2.2.2.2.2.2.2.2.2.2.2.2.2.2.2.2.2.2.2.2.2.2.2.2.2.2.2.1, own_below A17.out.2.2.2.2.2.2.2.2.2.2.2.2.2.2.2.2.2.2.2.2.2.2.2.2.2.2.2.2.2.2.2.2.2.1 hb, by rw [hb14]; exact A17.out.2.2.2.2.2.2.2.2.2.2.2.2.2.2.2.2.2.2.2.2.2.2.2.2.2.2.2.2.2.2.2.2.2.2, by rw [hb14]; exact Has.new _ _ _, by rw [hb14]; simp, by rw [hb14]; exact A17.out.2.2.2.2.2.2.2.2.2.2.2.2.2.2.2.2.2.2.2.2.2.2.2.2.2.2.2.2.2.2.2.1⟩
  clear A17 hb
  go_upto_region 10 with fail
  rw [← hb14]
  clear hb14
  generalize w17.alloc (.cells (PV F Z a14 M c14) 27) = w19 at *
  have y80 : w19.cell? ⟨b8, 0, none⟩ = some (.int .u64 (X : Int)) := (A18.out.2.2.2.2.2.2.2.2.2.2.2.2.2.2.2.2.2.2.2.2.1).cell 0
  have y81 : w19.cell? ⟨b8, 1, none⟩ = some (.int .u64 (Y : Int)) := (A18.out.2.2.2.2.2.2.2.2.2.2.2.2.2.2.2.2.2.2.2.2.1).cell 1
  have y82 : w19.cell? ⟨b8, 2, none⟩ = some (.slice a8 N c8) := (A18.out.2.2.2.2.2.2.2.2.2.2.2.2.2.2.2.2.2.2.2.2.1).cell 2
  have y40 : w19.cell? ⟨b4, 0, none⟩ = some (.int .u64 (X : Int)) := (A18.out.2.2.2.2.2.2.2.2.1).cell 0
  have y41 : w19.cell? ⟨b4, 1, none⟩ = some (.int .u64 (Y : Int)) := (A18.out.2.2.2.2.2.2.2.2.1).cell 1
  have y42 : w19.cell? ⟨b4, 2, none⟩ = some (.slice a4 N c4) := (A18.out.2.2.2.2.2.2.2.2.1).cell 2
  go_wp2_with fail
  clear y80 y81 y82 y40 y41 y42
  refine (sameproofs_ok X Y a8 a4 N N c8 c4 l w19 (own_flat (A18.out.2.2.2.2.2.2.2.2.2.2.2.2.2.2.2.2.2.2.1) (A18.out.2.2.2.2.2.1).2.2) (A18.out.2.2.2.2.2.1) (by have := HN.out; omega)).mono ?_
  rintro e w20 ⟨rfl, hb⟩
  have A20 : Aside (Below w.heap.size w w20 ∧ w20.ownsRow w.heap.size 5 1 (.slice (some ⟨gt, 0, none⟩) bn ct) bn (CELLS bl) ∧ gt < w20.heap.size ∧ w20.cell? ⟨gt, bn, none⟩ = some (.int .u8 171) ∧ (w.heap.size ≤ gt ∧ bn + 1 ≤ ct) ∧ Flat w20 a4 N l ∧ (∀ b o, a4 = some ⟨b, o, none⟩ → b ≠ gt) ∧ gt < w20.heap.size ∧ Has w20 b4 (PV X Y a4 N c4) 25 ∧ b4 < w20.heap.size ∧ gt < b4 ∧ Flat w20 a6 M k ∧ (∀ b o, a6 = some ⟨b, o, none⟩ → b ≠ gt) ∧ gt < w20.heap.size ∧ Has w20 b6 (PV F Z a6 M c6) 27 ∧ b6 < w20.heap.size ∧ gt < b6 ∧ b4 < b6 ∧ w20.ownsRow w.heap.size 53 32 (.slice a8 N c8) N (CELLS l) ∧ (∀ g, (Value.slice a8 N c8).ownBlock = some g → b6 < g ∧ g < b8) ∧ Has w20 b8 (PV X Y a8 N c8) 25 ∧ b8 < w20.heap.size ∧ b6 < b8 ∧ w20.ownsRow w.heap.size 53 32 (.slice a10 N c10) N (CELLS l) ∧ (∀ g, (Value.slice a10 N c10).ownBlock = some g → b8 < g ∧ g < b10) ∧ Has w20 b10 (PV X Y a10 N c10) 25 ∧ b10 < w20.heap.size ∧ b8 < b10 ∧ w20.ownsRow w.heap.size 53 32 (.slice a12 M c12) M (CELLS k) ∧ (∀ g, (Value.slice a12 M c12).ownBlock = some g → b10 < g ∧ g < b12) ∧ Has w20 b12 (PV F Z a12 M c12) 27 ∧ b12 < w20.heap.size ∧ b10 < b12 ∧ w20.ownsRow w.heap.size 53 32 (.slice a14 M c14) M (CELLS k) ∧ (∀ g, (Value.slice a14 M c14).ownBlock = some g → b12 < g ∧ g < b14) ∧ Has w20 b14 (PV F Z a14 M c14) 27 ∧ b14 < w20.heap.size ∧ b12 < b14) := ⟨A18.out.1.trans (hb.mono A18.out.1.size), own_below A18.out.2.1 hb, Nat.lt_of_lt_of_le A18.out.2.2.1 hb.size, (hb.cell (p := ⟨gt, bn, none⟩) A18.out.2.2.1).trans A18.out.2.2.2.1, A18.out.2.2.2.2.1, A18.out.2.2.2.2.2.1.below hb, A18.out.2.2.2.2.2.2.1, Nat.lt_of_lt_of_le A18.out.2.2.2.2.2.2.2.1 hb.size, A18.out.2.2.2.2.2.2.2.2.1.keep hb, Nat.lt_of_lt_of_le A18.out.2.2.2.2.2.2.2.2.2.1 hb.size, A18.out.2.2.2.2.2.2.2.2.2.2.1, A18.out.2.2.2.2.2.2.2.2.2.2.2.1.below hb, A18.out.2.2.2.2.2.2.2.2.2.2.2.2.1, Nat.lt_of_lt_of_le A18.out.2.2.2.2.2.2.2.2.2.2.2.2.2.1 hb.size, A18.out.2.2.2.2.2.2.2.2.2.2.2.2.2.2.1.keep hb, Nat.lt_of_lt_of_le A18.out.2.2.2.2.2.2.2.2.2.2.2.2.2.2.2.1 hb.size, A18.out.2.2.2.2.2.2.2.2.2.2.2.2.2.2.2.2.1, A18.out.2.2.2.2.2.2.2.2.2.2.2.2.2.2.2.2.2.1, own_below A18.out.2.2.2.2.2.2.2.2.2.2.2.2.2.2.2.2.2.2.1 hb, A18.out.2.2.2.2.2.2.2.2.2.2.2.2.2.2.2.2.2.2.2.1, A18.out.2.2.2.2.2.2.2.2.2.2.2.2.2.2.2.2.2.2.2.2.1.keep hb, Nat.lt_of_lt_of_le A18.out.2.2.2.2.2.2.2.2.2.2.2.2.2.2.2.2.2.2.2.2.2.1 hb.size, A18.out.2.2.2.2.2.2.2.2.2.2.2.2.2.2.2.2.2.2.2.2.2.2.1, own_below A18.out.2.2.2.2.2.2.2.2.2.2.2.2.2.2.2.2.2.2.2.2.2.2.2.1 hb, A18.out.2.2.2.2.2.2.2.2.2.2.2.2.2.2.2.2.2.2.2.2.2.2.2.2.1, A18.out.2.2.2.2.2.2.2.2.2.2.2.2.2.2.2.2.2.2.2.2.2.2.2.2.2.1.keep hb, Nat.lt_of_lt_of_le A18.out.2.2.2.2.2.2.2.2.2.2.2.2.2.2.2.2.2.2.2.2.2.2.2.2.2.2.1 hb.size, A18.out.2.2.2.2.2.2.2.2.2.2.2.2.2.2.2.2.2.2.2.2.2.2.2.2.2.2.2.1, own_below A18.out.2.2.2.2.2.2.2.2.2.2.2.2.2.2.2.2.2.2.2.2.2.2.2.2.2.2.2.2.1 hb, A18.out.2.2.2.2.2.2.2.2.2.2.2.2.2.2.2.2.2.2.2.2.2.2.2.2.2.2.2.2.2.1, A18.out.2.2.2.2.2.2.2.2.2.2.2.2.2.2.2.2.2.2.2.2.2.2.2.2.2.2.2.2.2.2.1.keep hb, Nat.lt_of_lt_of_le A18.out.2.2.2.2.2.2.2.2.2.2.2.2.2.2.2.2.2.2.2.2.2.2.2.2.2.2.2.2.2.2.2.1 hb.size, A18.out.2.2.2.2.2.2.2.2.2.2.2.2.2.2.2.2.2.2.2.2.2.2.2.2.2.2.2.2.2.2.2.2.1, own_below A18.out.2.2.2.2.2.2.2.2.2.2.2.2.2.2.2.2.2.2.2.2.2.2.2.2.2.2.2.2.2.2.2.2.2.1 hb, A18.out.2.2.2.2.2.2.2.2.2.2.2.2.2.2.2.2.2.2.2.2.2.2.2.2.2.2.2.2.2.2.2.2.2.2.1, A18.out.2.2.2.2.2.2.2.2.2.2.2.2.2.2.2.2.2.2.2.2.2.2.2.2.2.2.2.2.2.2.2.2.2.2.2.1.keep hb, Nat.lt_of_lt_of_le A18.out.2.2.2.2.2.2.2.2.2.2.2.2.2.2.2.2.2.2.2.2.2.2.2.2.2.2.2.2.2.2.2.2.2.2.2.2.1 hb.size, A18.out.2.2.2.2.2.2.2.2.2.2.2.2.2.2.2.2.2.2.2.2.2.2.2.2.2.2.2.2.2.2.2.2.2.2.2.2.2⟩
  clear A18 hb
  have y100 : w20.cell? ⟨b10, 0, none⟩ = some (.int .u64 (X : Int)) := (A20.out.2.2.2.2.2.2.2.2.2.2.2.2.2.2.2.2.2.2.2.2.2.2.2.2.2.1).cell 0
  have y101 : w20.cell? ⟨b10, 1, none⟩ = some (.int .u64 (Y : Int)) := (A20.out.2.2.2.2.2.2.2.2.2.2.2.2.2.2.2.2.2.2.2.2.2.2.2.2.2.1).cell 1
  have y102 : w20.cell? ⟨b10, 2, none⟩ = some (.slice a10 N c10) := (A20.out.2.2.2.2.2.2.2.2.2.2.2.2.2.2.2.2.2.2.2.2.2.2.2.2.2.1).cell 2
  have y40 : w20.cell? ⟨b4, 0, none⟩ = some (.int .u64 (X : Int)) := (A20.out.2.2.2.2.2.2.2.2.1).cell 0
  have y41 : w20.cell? ⟨b4, 1, none⟩ = some (.int .u64 (Y : Int)) := (A20.out.2.2.2.2.2.2.2.2.1).cell 1
  have y42 : w20.cell? ⟨b4, 2, none⟩ = some (.slice a4 N c4) := (A20.out.2.2.2.2.2.2.2.2.1).cell 2
  go_wp2_with fail
  clear y100 y101 y102 y40 y41 y42
  refine (sameproofs_ok X Y a10 a4 N N c10 c4 l w20 (own_flat (A20.out.2.2.2.2.2.2.2.2.2.2.2.2.2.2.2.2.2.2.2.2.2.2.2.1) (A20.out.2.2.2.2.2.1).2.2) (A20.out.2.2.2.2.2.1) (by have := HN.out; omega)).mono ?_
  rintro e w21 ⟨rfl, hb⟩
  have A21 : Aside (Below w.heap.size w w21 ∧ w21.ownsRow w.heap.size 5 1 (.slice (some ⟨gt, 0, none⟩) bn ct) bn (CELLS bl) ∧ gt < w21.heap.size ∧ w21.cell? ⟨gt, bn, none⟩ = some (.int .u8 171) ∧ (w.heap.size ≤ gt ∧ bn + 1 ≤ ct) ∧ Flat w21 a4 N l ∧ (∀ b o, a4 = some ⟨b, o, none⟩ → b ≠ gt) ∧ gt < w21.heap.size ∧ Has w21 b4 (PV X Y a4 N c4) 25 ∧ b4 < w21.heap.size ∧ gt < b4 ∧ Flat w21 a6 M k ∧ (∀ b o, a6 = some ⟨b, o, none⟩ → b ≠ gt) ∧ gt < w21.heap.size ∧ Has w21 b6 (PV F Z a6 M c6) 27 ∧ b6 < w21.heap.size ∧ gt < b6 ∧ b4 < b6 ∧ w21.ownsRow w.heap.size 53 32 (.slice a8 N c8) N (CELLS l) ∧ (∀ g, (Value.slice a8 N c8).ownBlock = some g → b6 < g ∧ g < b8) ∧ Has w21 b8 (PV X Y a8 N c8) 25 ∧ b8 < w21.heap.size ∧ b6 < b8 ∧ w21.ownsRow w.heap.size 53 32 (.slice a10 N c10) N (CELLS l) ∧ (∀ g, (Value.slice a10 N c10).ownBlock = some g → b8 < g ∧ g < b10) ∧ Has w21 b10 (PV X Y a10 N c10) 25 ∧ b10 < w21.heap.size ∧ b8 < b10 ∧ w21.ownsRow w.heap.size 53 32 (.slice a12 M c12) M (CELLS k) ∧ (∀ g, (Value.slice a12 M c12).ownBlock = some g → b10 < g ∧ g < b12) ∧ Has w21 b12 (PV F Z a12 M c12) 27 ∧ b12 < w21.heap.size ∧ b10 < b12 ∧ w21.ownsRow w.heap.size 53 32 (.slice a14 M c14) M (CELLS k) ∧ (∀ g, (Value.slice a14 M c14).ownBlock = some g → b12 < g ∧ g < b14) ∧ Has w21 b14 (PV F Z a14 M c14) 27 ∧ b14 < w21.heap.size ∧ b12 < b14) := ⟨A20.out.1.trans (hb.mono A20.out.1.size), own_below A20.out.2.1 hb, Nat.lt_of_lt_of_le A20.out.2.2.1 hb.size, (hb.cell (p := ⟨gt, bn, none⟩) A20.out.2.2.1).trans A20.out.2.2.2.1, A20.out.2.2.2.2.1, A20.out.2.2.2.2.2.1.below hb, A20.out.2.2.2.2.2.2.1, Nat.lt_of_lt_of_le A20.out.2.2.2.2.2.2.2.1 hb.size, A20.out.2.2.2.2.2.2.2.2.1.keep hb, Nat.lt_of_lt_of_le A20.out.2.2.2.2.2.2.2.2.2.1 hb.size, A20.out.2.2.2.2.2.2.2.2.2.2.1, A20.out.2.2.2.2.2.2.2.2.2.2.2.1.below hb, A20.out.2.2.2.2.2.2.2.2.2.2.2.2.1, Nat.lt_of_lt_of_le A20.out.2.2.2.2.2.2.2.2.2.2.2.2.2.1 hb.size, A20.out.2.2.2.2.2.2.2.2.2.2.2.2.2.2.1.keep hb, Nat.lt_of_lt_of_le A20.out.2.2.2.2.2.2.2.2.2.2.2.2.2.2.2.1 hb.size, A20.out.2.2.2.2.2.2.2.2.2.2.2.2.2.2.2.2.1, A20.out.2.2.2.2.2.2.2.2.2.2.2.2.2.2.2.2.2.1, own_below A20.out.2.2.2.2.2.2.2.2.2.2.2.2.2.2.2.2.2.2.1 hb, A20.out.2.2.2.2.2.2.2.2.2.2.2.2.2.2.2.2.2.2.2.1, A20.out.2.2.2.2.2.2.2.2.2.2.2.2.2.2.2.2.2.2.2.2.1.keep hb, Nat.lt_of_lt_of_le A20.out.2.2.2.2.2.2.2.2.2.2.2.2.2.2.2.2.2.2.2.2.2.1 hb.size, A20.out.2.2.2.2.2.2.2.2.2.2.2.2.2.2.2.2.2.2.2.2.2.2.1, own_below A20.out.2.2.2.2.2.2.2.2.2.2.2.2.2.2.2.2.2.2.2.2.2.2.2.1 hb, A20.out.2.2.2.2.2.2.2.2.2.2.2.2.2.2.2.2.2.2.2.2.2.2.2.2.1, A20.out.2.2.2.2.2.2.2.2.2.2.2.2.2.2.2.2.2.2.2.2.2.2.2.2.2.1.keep hb, Nat.lt_of_lt_of_le A20.out.2.2.2.2.2.2.2.2.2.2.2.2.2.2.2.2.2.2.2.2.2.2.2.2.2.2.1 hb.size, A20.out.2.2.2.2.2.2.2.2.2.2.2.2.2.2.2.2.2.2.2.2.2.2.2.2.2.2.2.1, own_below A20.out.2.2.2.2.2.2.2.2.2.2.2.2.2.2.2.2.2.2.2.2.2.2.2.2.2.2.2.2.1 hb, A20.out.2.2.2.2.2.2.2.2.2.2.2.2.2.2.2.2.2.2.2.2.2.2.2.2.2.2.2.2.2.1, A20.out.2.2.2.2.2.2.2.2.2.2.2.2.2.2.2.2.2.2.2.2.2.2.2.2.2.2.2.2.2.2.1.keep hb, Nat.lt_of_lt_of_le A20.out.2.2.2.2.2.2.2.2.2.2.2.2.2.2.2.2.2.2.2.2.2.2.2.2.2.2.2.2.2.2.2.1 hb.size, A20.out.2.2.2.2.2.2.2.2.2.2.2.2.2.2.2.2.2.2.2.2.2.2.2.2.2.2.2.2.2.2.2.2.1, own_below A20.out.2.2.2.2.2.2.2.2.2.2.2.2.2.2.2.2.2.2.2.2.2.2.2.2.2.2.2.2.2.2.2.2.2.1 hb, A20.out.2.2.2.2.2.2.2.2.2.2.2.2.2.2.2.2.2.2.2.2.2.2.2.2.2.2.2.2.2.2.2.2.2.2.1, A20.out.2.2.2.2.2.2.2.2.2.2.2.2.2.2.2.2.2.2.2.2.2.2.2.2.2.2.2.2.2.2.2.2.2.2.2.1.keep hb, Nat.lt_of_lt_of_le A20.out.2.2.2.2.2.2.2.2.2.2.2.2.2.2.2.2.2.2.2.2.2.2.2.2.2.2.2.2.2.2.2.2.2.2.2.2.1 hb.size, A20.out.2.2.2.2.2.2.2.2.2.2.2.2.2.2.2.2.2.2.2.2.2.2.2.2.2.2.2.2.2.2.2.2.2.2.2.2.2⟩
  clear A20 hb
  have y120 : w21.cell? ⟨b12, 0, none⟩ = some (.int .u64 (F : Int)) := (A21.out.2.2.2.2.2.2.2.2.2.2.2.2.2.2.2.2.2.2.2.2.2.2.2.2.2.2.2.2.2.2.1).cell 0
  have y121 : w21.cell? ⟨b12, 1, none⟩ = some (.int .u64 (Z : Int)) := (A21.out.2.2.2.2.2.2.2.2.2.2.2.2.2.2.2.2.2.2.2.2.2.2.2.2.2.2.2.2.2.2.1).cell 1
  have y122 : w21.cell? ⟨b12, 2, none⟩ = some (.slice a12 M c12) := (A21.out.2.2.2.2.2.2.2.2.2.2.2.2.2.2.2.2.2.2.2.2.2.2.2.2.2.2.2.2.2.2.1).cell 2
  have y60 : w21.cell? ⟨b6, 0, none⟩ = some (.int .u64 (F : Int)) := (A21.out.2.2.2.2.2.2.2.2.2.2.2.2.2.2.1).cell 0
  have y61 : w21.cell? ⟨b6, 1, none⟩ = some (.int .u64 (Z : Int)) := (A21.out.2.2.2.2.2.2.2.2.2.2.2.2.2.2.1).cell 1
  have y62 : w21.cell? ⟨b6, 2, none⟩ = some (.slice a6 M c6) := (A21.out.2.2.2.2.2.2.2.2.2.2.2.2.2.2.1).cell 2
  go_wp2_with fail
  clear y120 y121 y122 y60 y61 y62
  refine (sameprefixes_ok F Z a12 a6 M M c12 c6 k w21 (own_flat (A21.out.2.2.2.2.2.2.2.2.2.2.2.2.2.2.2.2.2.2.2.2.2.2.2.2.2.2.2.2.1) (A21.out.2.2.2.2.2.2.2.2.2.2.2.1).2.2) (A21.out.2.2.2.2.2.2.2.2.2.2.2.1) (by have := HN.out; omega)).mono ?_
  rintro e w22 ⟨rfl, hb⟩
  have A22 : Aside (Below w.heap.size w w22 ∧ w22.ownsRow w.heap.size 5 1 (.slice (some ⟨gt, 0, none⟩) bn ct) bn (CELLS bl) ∧ gt < w22.heap.size ∧ w22.cell? ⟨gt, bn, none⟩ = some (.int .u8 171) ∧ (w.heap.size ≤ gt ∧ bn + 1 ≤ ct) ∧ Flat w22 a4 N l ∧ (∀ b o, a4 = some ⟨b, o, none⟩ → b ≠ gt) ∧ gt < w22.heap.size ∧ Has w22 b4 (PV X Y a4 N c4) 25 ∧ b4 < w22.heap.size ∧ gt < b4 ∧ Flat w22 a6 M k ∧ (∀ b o, a6 = some ⟨b, o, none⟩ → b ≠ gt) ∧ gt < w22.heap.size ∧ Has w22 b6 (PV F Z a6 M c6) 27 ∧ b6 < w22.heap.size ∧ gt < b6 ∧ b4 < b6 ∧ w22.ownsRow w.heap.size 53 32 (.slice a8 N c8) N (CELLS l) ∧ (∀ g, (Value.slice a8 N c8).ownBlock = some g → b6 < g ∧ g < b8) ∧ Has w22 b8 (PV X Y a8 N c8) 25 ∧ b8 < w22.heap.size ∧ b6 < b8 ∧ w22.ownsRow w.heap.size 53 32 (.slice a10 N c10) N (CELLS l) ∧ (∀ g, (Value.slice a10 N c10).ownBlock = some g → b8 < g ∧ g < b10) ∧ Has w22 b10 (PV X Y a10 N c10) 25 ∧ b10 < w22.heap.size ∧ b8 < b10 ∧ w22.ownsRow w.heap.size 53 32 (.slice a12 M c12) M (CELLS k) ∧ (∀ g, (Value.slice a12 M c12).ownBlock = some g → b10 < g ∧ g < b12) ∧ Has w22 b12 (PV F Z a12 M c12) 27 ∧ b12 < w22.heap.size ∧ b10 < b12 ∧ w22.ownsRow w.heap.size 53 32 (.slice a14 M c14) M (CELLS k) ∧ (∀ g, (Value.slice a14 M c14).ownBlock = some g → b12 < g ∧ g < b14) ∧ Has w22 b14 (PV F Z a14 M c14) 27 ∧ b14 < w22.heap.size ∧ b12 < b14) := ⟨A21.out.1.trans (hb.mono A21.out.1.size), own_below A21.out.2.1 hb, Nat.lt_of_lt_of_le A21.out.2.2.1 hb.size, (hb.cell (p := ⟨gt, bn, none⟩) A21.out.2.2.1).trans A21.out.2.2.2.1, A21.out.2.2.2.2.1, A21.out.2.2.2.2.2.1.below hb, A21.out.2.2.2.2.2.2.1, Nat.lt_of_lt_of_le A21.out.2.2.2.2.2.2.2.1 hb.size, A21.out.2.2.2.2.2.2.2.2.1.keep hb, Nat.lt_of_lt_of_le A21.out.2.2.2.2.2.2.2.2.2.1 hb.size, A21.out.2.2.2.2.2.2.2.2.2.2.1, A21.out.2.2.2.2.2.2.2.2.2.2.2.1.below hb, A21.out.2.2.2.2.2.2.2.2.2.2.2.2.1, Nat.lt_of_lt_of_le A21.out.2.2.2.2.2.2.2.2.2.2.2.2.2.1 hb.size, A21.out.2.2.2.2.2.2.2.2.2.2.2.2.2.2.1.keep hb, Nat.lt_of_lt_of_le A21.out.2.2.2.2.2.2.2.2.2.2.2.2.2.2.2.1 hb.size, A21.out.2.2.2.2.2.2.2.2.2.2.2.2.2.2.2.2.1, A21.out.2.2.2.2.2.2.2.2.2.2.2.2.2.2.2.2.2.1, own_below A21.out.2.2.2.2.2.2.2.2.2.2.2.2.2.2.2.2.2.2.1 hb, A21.out.2.2.2.2.2.2.2.2.2.2.2.2.2.2.2.2.2.2.2.1, A21.out.2.2.2.2.2.2.2.2.2.2.2.2.2.2.2.2.2.2.2.2.1.keep hb, Nat.lt_of_lt_of_le A21.out.2.2.2.2.2.2.2.2.2.2.2.2.2.2.2.2.2.2.2.2.2.1 hb.size, A21.out.2.2.2.2.2.2.2.2.2.2.2.2.2.2.2.2.2.2.2.2.2.2.1, own_below A21.out.2.2.2.2.2.2.2.2.2.2.2.2.2.2.2.2.2.2.2.2.2.2.2.1 hb, A21.out.2.2.2.2.2.2.2.2.2.2.2.2.2.2.2.2.2.2.2.2.2.2.2.2.1, A21.out.2.2.2.2.2.2.2.2.2.2.2.2.2.2.2.2.2.2.2.2.2.2.2.2.2.1.keep hb, Nat.lt_of_lt_of_le A21.out.2.2.2.2.2.2.2.2.2.2.2.2.2.2.2.2.2.2.2.2.2.2.2.2.2.2.1 hb.size, A21.out.2.2.2.2.2.2.2.2.2.2.2.2.2.2.2.2.2.2.2.2.2.2.2.2.2.2.2.1, own_below A21.out.2.2.2.2.2.2.2.2.2.2.2.2.2.2.2.2.2.2.2.2.2.2.2.2.2.2.2.2.1 hb, A21.out.2.2.2.2.2.2.2.2.2.2.2.2.2.2.2.2.2.2.2.2.2.2.2.2.2.2.2.2.2.1, A21.out.2.2.2.2.2.2.2.2.2.2.2.2.2.2.2.2.2.2.2.2.2.2.2.2.2.2.2.2.2.2.1.keep hb, Nat.lt_of_lt_of_le A21.out.2.2.2.2.2.2.2.2.2.2.2.2.2.2.2.2.2.2.2.2.2.2.2.2.2.2.2.2.2.2.2.1 hb.size, A21.out.2.2.2.2.2.2.2.2.2.2.2.2.2.2.2.2.2.2.2.2.2.2.2.2.2.2.2.2.2.2.2.2.1, own_below A21.out.2.2.2.2.2.2.2.2.2.2.2.2.2.2.2.2.2.2.2.2.2.2.2.2.2.2.2.2.2.2.2.2.2.1 hb, A21.out.2.2.2.2.2.2.2.2.2.2.2.2.2.2.2.2.2.2.2.2.2.2.2.2.2.2.2.2.2.2.2.2.2.2.1, A21.out.2.2.2.2.2.2.2.2.2.2.2.2.2.2.2.2.2.2.2.2.2.2.2.2.2.2.2.2.2.2.2.2.2.2.2.1.keep hb, Nat.lt_of_lt_of_le A21.out.2.2.2.2.2.2.2.2.2.2.2.2.2.2.2.2.2.2.2.2.2.2.2.2.2.2.2.2.2.2.2.2.2.2.2.2.1 hb.size, A21.out.2.2.2.2.2.2.2.2.2.2.2.2.2.2.2.2.2.2.2.2.2.2.2.2.2.2.2.2.2.2.2.2.2.2.2.2.2⟩
  clear A21 hb
  have y140 : w22.cell? ⟨b14, 0, none⟩ = some (.int .u64 (F : Int)) := (A22.out.2.2.2.2.2.2.2.2.2.2.2.2.2.2.2.2.2.2.2.2.2.2.2.2.2.2.2.2.2.2.2.2.2.2.2.1).cell 0
  have y141 : w22.cell? ⟨b14, 1, none⟩ = some (.int .u64 (Z : Int)) := (A22.out.2.2.2.2.2.2.2.2.2.2.2.2.2.2.2.2.2.2.2.2.2.2.2.2.2.2.2.2.2.2.2.2.2.2.2.1).cell 1
  have y142 : w22.cell? ⟨b14, 2, none⟩ = some (.slice a14 M c14) := (A22.out.2.2.2.2.2.2.2.2.2.2.2.2.2.2.2.2.2.2.2.2.2.2.2.2.2.2.2.2.2.2.2.2.2.2.2.1).cell 2
  have y60 : w22.cell? ⟨b6, 0, none⟩ = some (.int .u64 (F : Int)) := (A22.out.2.2.2.2.2.2.2.2.2.2.2.2.2.2.1).cell 0
  have y61 : w22.cell? ⟨b6, 1, none⟩ = some (.int .u64 (Z : Int)) := (A22.out.2.2.2.2.2.2.2.2.2.2.2.2.2.2.1).cell 1
  have y62 : w22.cell? ⟨b6, 2, none⟩ = some (.slice a6 M c6) := (A22.out.2.2.2.2.2.2.2.2.2.2.2.2.2.2.1).cell 2
  go_wp2_with fail
  clear y140 y141 y142 y60 y61 y62
  refine (sameprefixes_ok F Z a14 a6 M M c14 c6 k w22 (own_flat (A22.out.2.2.2.2.2.2.2.2.2.2.2.2.2.2.2.2.2.2.2.2.2.2.2.2.2.2.2.2.2.2.2.2.2.1) (A22.out.2.2.2.2.2.2.2.2.2.2.2.1).2.2) (A22.out.2.2.2.2.2.2.2.2.2.2.2.1) (by have := HN.out; omega)).mono ?_
  rintro e w23 ⟨rfl, hb⟩
  have A23 : Aside (Below w.heap.size w w23 ∧ w23.ownsRow w.heap.size 5 1 (.slice (some ⟨gt, 0, none⟩) bn ct) bn (CELLS bl) ∧ gt < w23.heap.size ∧ w23.cell? ⟨gt, bn, none⟩ = some (.int .u8 171) ∧ (w.heap.size ≤ gt ∧ bn + 1 ≤ ct) ∧ Flat w23 a4 N l ∧ (∀ b o, a4 = some ⟨b, o, none⟩ → b ≠ gt) ∧ gt < w23.heap.size ∧ Has w23 b4 (PV X Y a4 N c4) 25 ∧ b4 < w23.heap.size ∧ gt < b4 ∧ Flat w23 a6 M k ∧ (∀ b o, a6 = some ⟨b, o, none⟩ → b ≠ gt) ∧ gt < w23.heap.size ∧ Has w23 b6 (PV F Z a6 M c6) 27 ∧ b6 < w23.heap.size ∧ gt < b6 ∧ b4 < b6 ∧ w23.ownsRow w.heap.size 53 32 (.slice a8 N c8) N (CELLS l) ∧ (∀ g, (Value.slice a8 N c8).ownBlock = some g → b6 < g ∧ g < b8) ∧ Has w23 b8 (PV X Y a8 N c8) 25 ∧ b8 < w23.heap.size ∧ b6 < b8 ∧ w23.ownsRow w.heap.size 53 32 (.slice a10 N c10) N (CELLS l) ∧ (∀ g, (Value.slice a10 N c10).ownBlock = some g → b8 < g ∧ g < b10) ∧ Has w23 b10 (PV X Y a10 N c10) 25 ∧ b10 < w23.heap.size ∧ b8 < b10 ∧ w23.ownsRow w.heap.size 53 32 (.slice a12 M c12) M (CELLS k) ∧ (∀ g, (Value.slice a12 M c12).ownBlock = some g → b10 < g ∧ g < b12) ∧ Has w23 b12 (PV F Z a12 M c12) 27 ∧ b12 < w23.heap.size ∧ b10 < b12 ∧ w23.ownsRow w.heap.size 53 32 (.slice a14 M c14) M (CELLS k) ∧ (∀ g, (Value.slice a14 M c14).ownBlock = some g → b12 < g ∧ g < b14) ∧ Has w23 b14 (PV F Z a14 M c14) 27 ∧ b14 < w23.heap.size ∧ b12 < b14) := ⟨A22.out.1.trans (hb.mono A22.out.1.size), own_below A22.out.2.1 hb, Nat.lt_of_lt_of_le A22.out.2.2.1 hb.size, (hb.cell (p := ⟨gt, bn, none⟩) A22.out.2.2.1).trans A22.out.2.2.2.1, A22.out.2.2.2.2.1, A22.out.2.2.2.2.2.1.below hb, A22.out.2.2.2.2.2.2.1, Nat.lt_of_lt_of_le A22.out.2.2.2.2.2.2.2.1 hb.size, A22.out.2.2.2.2.2.2.2.2.1.keep hb, Nat.lt_of_lt_of_le A22.out.2.2.2.2.2.2.2.2.2.1 hb.size, A22.out.2.2.2.2.2.2.2.2.2.2.1, A22.out.2.2.2.2.2.2.2.2.2.2.2.1.below hb, A22.out.2.2.2.2.2.2.2.2.2.2.2.2.1, Nat.lt_of_lt_of_le A22.out.2.2.2.2.2.2.2.2.2.2.2.2.2.1 hb.size, A22.out.2.2.2.2.2.2.2.2.2.2.2.2.2.2.1.keep hb, Nat.lt_of_lt_of_le A22.out.2.2.2.2.2.2.2.2.2.2.2.2.2.2.2.1 hb.size, A22.out.2.2.2.2.2.2.2.2.2.2.2.2.2.2.2.2.1, A22.out.2.2.2.2.2.2.2.2.2.2.2.2.2.2.2.2.2.1, own_below A22.out.2.2.2.2.2.2.2.2.2.2.2.2.2.2.2.2.2.2.1 hb, A22.out.2.2.2.2.2.2.2.2.2.2.2.2.2.2.2.2.2.2.2.1, A22.out.2.2.2.2.2.2.2.2.2.2.2.2.2.2.2.2.2.2.2.2.1.keep hb, Nat.lt_of_lt_of_le A22.out.2.2.2.2.2.2.2.2.2.2.2.2.2.2.2.2.2.2.2.2.2.1 hb.size, A22.out.2.2.2.2.2.2.2.2.2.2.2.2.2.2.2.2.2.2.2.2.2.2.1, own_below A22.out.2.2.2.2.2.2.2.2.2.2.2.2.2.2.2.2.2.2.2.2.2.2.2.1 hb, A22.out.2.2.2.2.2.2.2.2.2.2.2.2.2.2.2.2.2.2.2.2.2.2.2.2.1, A22.out.2.2.2.2.2.2.2.2.2.2.2.2.2.2.2.2.2.2.2.2.2.2.2.2.2.1.keep hb, Nat.lt_of_lt_of_le A22.out.2.2.2.2.2.2.2.2.2.2.2.2.2.2.2.2.2.2.2.2.2.2.2.2.2.2.1 hb.size, A22.out.2.2.2.2.2.2.2.2.2.2.2.2.2.2.2.2.2.2.2.2.2.2.2.2.2.2.2.1, own_below A22.out.2.2.2.2.2.2.2.2.2.2.2.2.2.2.2.2.2.2.2.2.2.2.2.2.2.2.2.2.1 hb, A22.out.2.2.2.2.2.2.2.2.2.2.2.2.2.2.2.2.2.2.2.2.2.2.2.2.2.2.2.2.2.1, A22.out.2.2.2.2.2.2.2.2.2.2.2.2.2.2.2.2.2.2.2.2.2.2.2.2.2.2.2.2.2.2.1.keep hb, Nat.lt_of_lt_of_le A22.out.2.2.2.2.2.2.2.2.2.2.2.2.2.2.2.2.2.2.2.2.2.2.2.2.2.2.2.2.2.2.2.1 hb.size, A22.out.2.2.2.2.2.2.2.2.2.2.2.2.2.2.2.2.2.2.2.2.2.2.2.2.2.2.2.2.2.2.2.2.1, own_below A22.out.2.2.2.2.2.2.2.2.2.2.2.2.2.2.2.2.2.2.2.2.2.2.2.2.2.2.2.2.2.2.2.2.2.1 hb, A22.out.2.2.2.2.2.2.2.2.2.2.2.2.2.2.2.2.2.2.2.2.2.2.2.2.2.2.2.2.2.2.2.2.2.2.1, A22.out.2.2.2.2.2.2.2.2.2.2.2.2.2.2.2.2.2.2.2.2.2.2.2.2.2.2.2.2.2.2.2.2.2.2.2.1.keep hb, Nat.lt_of_lt_of_le A22.out.2.2.2.2.2.2.2.2.2.2.2.2.2.2.2.2.2.2.2.2.2.2.2.2.2.2.2.2.2.2.2.2.2.2.2.2.1 hb.size, A22.out.2.2.2.2.2.2.2.2.2.2.2.2.2.2.2.2.2.2.2.2.2.2.2.2.2.2.2.2.2.2.2.2.2.2.2.2.2⟩
  clear A22 hb
  go_wp2_with fail
  refine (bytes_ok (some ⟨gt, 0, none⟩) ba bn bn ct bc bl bl w23 (own_bytes (A23.out.2.1) (A23.out.2.2.1) HA.out.1.2.2) (HA.out.1.below (A23.out.1)) (by have := HA.out; omega)).mono ?_
  rintro e w24 ⟨rfl, hb⟩
  have hdt : decide (bl = bl) = true := by simp
  rw [hdt]
  have A24 : Aside (Below w.heap.size w w24 ∧ w24.ownsRow w.heap.size 5 1 (.slice (some ⟨gt, 0, none⟩) bn ct) bn (CELLS bl) ∧ gt < w24.heap.size ∧ w24.cell? ⟨gt, bn, none⟩ = some (.int .u8 171) ∧ (w.heap.size ≤ gt ∧ bn + 1 ≤ ct) ∧ Flat w24 a4 N l ∧ (∀ b o, a4 = some ⟨b, o, none⟩ → b ≠ gt) ∧ gt < w24.heap.size ∧ Has w24 b4 (PV X Y a4 N c4) 25 ∧ b4 < w24.heap.size ∧ gt < b4 ∧ Flat w24 a6 M k ∧ (∀ b o, a6 = some ⟨b, o, none⟩ → b ≠ gt) ∧ gt < w24.heap.size ∧ Has w24 b6 (PV F Z a6 M c6) 27 ∧ b6 < w24.heap.size ∧ gt < b6 ∧ b4 < b6 ∧ w24.ownsRow w.heap.size 53 32 (.slice a8 N c8) N (CELLS l) ∧ (∀ g, (Value.slice a8 N c8).ownBlock = some g → b6 < g ∧ g < b8) ∧ Has w24 b8 (PV X Y a8 N c8) 25 ∧ b8 < w24.heap.size ∧ b6 < b8 ∧ w24.ownsRow w.heap.size 53 32 (.slice a10 N c10) N (CELLS l) ∧ (∀ g, (Value.slice a10 N c10).ownBlock = some g → b8 < g ∧ g < b10) ∧ Has w24 b10 (PV X Y a10 N c10) 25 ∧ b10 < w24.heap.size ∧ b8 < b10 ∧ w24.ownsRow w.heap.size 53 32 (.slice a12 M c12) M (CELLS k) ∧ (∀ g, (Value.slice a12 M c12).ownBlock = some g → b10 < g ∧ g < b12) ∧ Has w24 b12 (PV F Z a12 M c12) 27 ∧ b12 < w24.heap.size ∧ b10 < b12 ∧ w24.ownsRow w.heap.size 53 32 (.slice a14 M c14) M (CELLS k) ∧ (∀ g, (Value.slice a14 M c14).ownBlock = some g → b12 < g ∧ g < b14) ∧ Has w24 b14 (PV F Z a14 M c14) 27 ∧ b14 < w24.heap.size ∧ b12 < b14) := ⟨A23.out.1.trans (hb.mono A23.out.1.size), own_below A23.out.2.1 hb, Nat.lt_of_lt_of_le A23.out.2.2.1 hb.size, (hb.cell (p := ⟨gt, bn, none⟩) A23.out.2.2.1).trans A23.out.2.2.2.1, A23.out.2.2.2.2.1, A23.out.2.2.2.2.2.1.below hb, A23.out.2.2.2.2.2.2.1, Nat.lt_of_lt_of_le A23.out.2.2.2.2.2.2.2.1 hb.size, A23.out.2.2.2.2.2.2.2.2.1.keep hb, Nat.lt_of_lt_of_le A23.out.2.2.2.2.2.2.2.2.2.1 hb.size, A23.out.2.2.2.2.2.2.2.2.2.2.1, A23.out.2.2.2.2.2.2.2.2.2.2.2.1.below hb, A23.out.2.2.2.2.2.2.2.2.2.2.2.2.1, Nat.lt_of_lt_of_le A23.out.2.2.2.2.2.2.2.2.2.2.2.2.2.1 hb.size, A23.out.2.2.2.2.2.2.2.2.2.2.2.2.2.2.1.keep hb, Nat.lt_of_lt_of_le A23.out.2.2.2.2.2.2.2.2.2.2.2.2.2.2.2.1 hb.size, A23.out.2.2.2.2.2.2.2.2.2.2.2.2.2.2.2.2.1, A23.out.2.2.2.2.2.2.2.2.2.2.2.2.2.2.2.2.2.1, own_below A23.out.2.2.2.2.2.2.2.2.2.2.2.2.2.2.2.2.2.2.1 hb, A23.out.2.2.2.2.2.2.2.2.2.2.2.2.2.2.2.2.2.2.2.1, A23.out.2.2.2.2.2.2.2.2.2.2.2.2.2.2.2.2.2.2.2.2.1.keep hb, Nat.lt_of_lt_of_le A23.out.2.2.2.2.2.2.2.2.2.2.2.2.2.2.2.2.2.2.2.2.2.1 hb.size, A23.out.2.2.2.2.2.2.2.2.2.2.2.2.2.2.2.2.2.2.2.2.2.2.1, own_below A23.out.2.2.2.2.2.2.2.2.2.2.2.2.2.2.2.2.2.2.2.2.2.2.2.1 hb, A23.out.2.2.2.2.2.2.2.2.2.2.2.2.2.2.2.2.2.2.2.2.2.2.2.2.1, A23.out.2.2.2.2.2.2.2.2.2.2.2.2.2.2.2.2.2.2.2.2.2.2.2.2.2.1.keep hb, Nat.lt_of_lt_of_le A23.out.2.2.2.2.2.2.2.2.2.2.2.2.2.2.2.2.2.2.2.2.2.2.2.2.2.2.1 hb.size, A23.out.2.2.2.2.2.2.2.2.2.2.2.2.2.2.2.2.2.2.2.2.2.2.2.2.2.2.2.1, own_below A23.out.2.2.2.2.2.2.2.2.2.2.2.2.2.2.2.2.2.2.2.2.2.2.2.2.2.2.2.2.1 hb, A23.out.2.2.2.2.2.2.2.2.2.2.2.2.2.2.2.2.2.2.2.2.2.2.2.2.2.2.2.2.2.1, A23.out.2.2.2.2.2.2.2.2.2.2.2.2.2.2.2.2.2.2.2.2.2.2.2.2.2.2.2.2.2.2.1.keep hb, Nat.lt_of_lt_of_le A23.out.2.2.2.2.2.2.2.2.2.2.2.2.2.2.2.2.2.2.2.2.2.2.2.2.2.2.2.2.2.2.2.1 hb.size, A23.out.2.2.2.2.2.2.2.2.2.2.2.2.2.2.2.2.2.2.2.2.2.2.2.2.2.2.2.2.2.2.2.2.1, own_below A23.out.2.2.2.2.2.2.2.2.2.2.2.2.2.2.2.2.2.2.2.2.2.2.2.2.2.2.2.2.2.2.2.2.2.1 hb, A23.out.2.2.2.2.2.2.2.2.2.2.2.2.2.2.2.2.2.2.2.2.2.2.2.2.2.2.2.2.2.2.2.2.2.2.1, A23.out.2.2.2.2.2.2.2.2.2.2.2.2.2.2.2.2.2.2.2.2.2.2.2.2.2.2.2.2.2.2.2.2.2.2.2.1.keep hb, Nat.lt_of_lt_of_le A23.out.2.2.2.2.2.2.2.2.2.2.2.2.2.2.2.2.2.2.2.2.2.2.2.2.2.2.2.2.2.2.2.2.2.2.2.2.1 hb.size, A23.out.2.2.2.2.2.2.2.2.2.2.2.2.2.2.2.2.2.2.2.2.2.2.2.2.2.2.2.2.2.2.2.2.2.2.2.2.2⟩
  clear A23 hb hdt
  go_wp2_with fail
  refine (still_ok gt bn ct (by have := HA.out; omega) (by have := A24.out.2.2.2.2.1; omega) w24 (A24.out.2.2.2.1)).mono ?_
  rintro e w' ⟨rfl, rfl⟩
  go_upto_region 12 with fail
  go_wp2_with fail
  go_loopg [16] bn (fun q s16 wx => ∃ j : Nat, s16 = .int .i64 (j : Int) ∧ Aside (j + q = bn ∧ wx.ownsRow w.heap.size 5 1 (.slice (some ⟨gt, 0, none⟩) bn ct) bn (CELLS (TKI bl j)) ∧ w24.grownBy wx (some gt)))
  case atStart => exact ⟨0, rfl, by omega, by rw [TKI_zero]; exact A24.out.2.1, grown_refl _ _⟩
  case round =>
    obtain ⟨j, rfl, A⟩ := hrel
    cases gk with
    | succ q =>
      obtain ⟨a1, a2, a3⟩ := A.out
      have hl : bl.length = bn := HA.out.1.1
      have hlt : (j : Int) < (bn : Int) := by omega
      have hc : wr.cell? ⟨gt, j, none⟩ = some (.int .u8 (bl.getD j 0)) := by
        rw [a2.cellAt j (by omega), CELLS_get _ _ (by rw [TKI_length]; omega), TKI_at (by omega)]
      have hf := a2.frozenAt j
      have hst := (a2.stored j (.int .u8 (INC8 (bl.getD j 0)))).1
      rw [TKI_next (by omega)] at hst
      have R : Aside (j + 1 + q = bn ∧ (wr.setCell ⟨gt, j, none⟩ (.int .u8 (INC8 (bl.getD j 0)))).ownsRow w.heap.size 5 1 (.slice (some ⟨gt, 0, none⟩) bn ct) bn (CELLS (TKI bl (j + 1))) ∧ w24.grownBy (wr.setCell ⟨gt, j, none⟩ (.int .u8 (INC8 (bl.getD j 0)))) (some gt)) := ⟨by omega, hst, grown_trans a3 (grown_set wr gt j _) (.inl rfl)⟩
      have E1 : Aside (wrap64 ((j : Int) + 1) = ((j + 1 : Nat) : Int)) := by have := HA.out; show wrap64 ((j : Int) + 1) = ((j + 1 : Nat) : Int); unfold wrap64; omega
      have e8 := inc8_wrap (bl.getD j 0)
      clear a1 a2 a3 hl hst A HA HT HN HD1 HD2 A24
      generalize bl.getD j 0 = x at *
      generalize INC8 x = y at *
      have e1 := E1.out
      go_wp2
      go_roundg q
      case measure => exact Nat.lt_succ_self _
      case rel => exact ⟨j + 1, by first | rfl | (rw [E1.out]), R.out⟩
    | zero =>
      obtain rfl : j = bn := by have := A.out.1; omega
      have hlt : ¬ (j : Int) < (j : Int) := by omega
      have hown := A.out.2.1
      have hgr := A.out.2.2
      have hl : bl.length = j := HA.out.1.1
      rw [TKI_all hl] at hown
      clear A
      have hne : w.heap.size ≤ gt ∧ j + 1 ≤ ct ∧ gt < b4 ∧ b4 < b6 ∧ b6 < b8 ∧ b8 < b10 ∧ b10 < b12 ∧ b12 < b14 := ⟨(A24.out.2.2.2.2.1).1, (A24.out.2.2.2.2.1).2, (A24.out.2.2.2.2.2.2.2.2.2.2.1), (A24.out.2.2.2.2.2.2.2.2.2.2.2.2.2.2.2.2.2.1), (A24.out.2.2.2.2.2.2.2.2.2.2.2.2.2.2.2.2.2.2.2.2.2.2.1), (A24.out.2.2.2.2.2.2.2.2.2.2.2.2.2.2.2.2.2.2.2.2.2.2.2.2.2.2.2.1), (A24.out.2.2.2.2.2.2.2.2.2.2.2.2.2.2.2.2.2.2.2.2.2.2.2.2.2.2.2.2.2.2.2.2.1), (A24.out.2.2.2.2.2.2.2.2.2.2.2.2.2.2.2.2.2.2.2.2.2.2.2.2.2.2.2.2.2.2.2.2.2.2.2.2.2)⟩
      have Z0 : Aside (Below w.heap.size w wr ∧ wr.ownsRow w.heap.size 5 1 (.slice (some ⟨gt, 0, none⟩) j ct) j (CELLS (bl.map INC8)) ∧ gt < wr.heap.size ∧ Has wr b4 (PV X Y a4 N c4) 25 ∧ Has wr b6 (PV F Z a6 M c6) 27 ∧ Has wr b8 (PV X Y a8 N c8) 25 ∧ Has wr b10 (PV X Y a10 N c10) 25 ∧ Has wr b12 (PV F Z a12 M c12) 27 ∧ Has wr b14 (PV F Z a14 M c14) 27 ∧ Flat wr a4 N l ∧ Flat wr a6 M k ∧ wr.ownsRow w.heap.size 53 32 (.slice a8 N c8) N (CELLS l) ∧ (∀ g, (Value.slice a8 N c8).ownBlock = some g → b6 < g ∧ g < b8) ∧ wr.ownsRow w.heap.size 53 32 (.slice a10 N c10) N (CELLS l) ∧ (∀ g, (Value.slice a10 N c10).ownBlock = some g → b8 < g ∧ g < b10) ∧ wr.ownsRow w.heap.size 53 32 (.slice a12 M c12) M (CELLS k) ∧ (∀ g, (Value.slice a12 M c12).ownBlock = some g → b10 < g ∧ g < b12) ∧ wr.ownsRow w.heap.size 53 32 (.slice a14 M c14) M (CELLS k) ∧ (∀ g, (Value.slice a14 M c14).ownBlock = some g → b12 < g ∧ g < b14) ∧ (w.heap.size ≤ gt ∧ j + 1 ≤ ct ∧ gt < b4 ∧ b4 < b6 ∧ b6 < b8 ∧ b8 < b10 ∧ b10 < b12 ∧ b12 < b14)) := ⟨(A24.out.1).grown hgr (A24.out.1).size (fun k e => by cases e; exact hne.1), hown, Nat.lt_of_lt_of_le (A24.out.2.2.1) hgr.size, (A24.out.2.2.2.2.2.2.2.2.1).grown hgr (by simp; omega), (A24.out.2.2.2.2.2.2.2.2.2.2.2.2.2.2.1).grown hgr (by simp; omega), (A24.out.2.2.2.2.2.2.2.2.2.2.2.2.2.2.2.2.2.2.2.2.1).grown hgr (by simp; omega), (A24.out.2.2.2.2.2.2.2.2.2.2.2.2.2.2.2.2.2.2.2.2.2.2.2.2.2.1).grown hgr (by simp; omega), (A24.out.2.2.2.2.2.2.2.2.2.2.2.2.2.2.2.2.2.2.2.2.2.2.2.2.2.2.2.2.2.2.1).grown hgr (by simp; omega), (A24.out.2.2.2.2.2.2.2.2.2.2.2.2.2.2.2.2.2.2.2.2.2.2.2.2.2.2.2.2.2.2.2.2.2.2.2.1).grown hgr (by simp; omega), flat_grown (A24.out.2.2.2.2.2.1) (A24.out.2.2.2.2.2.2.1) hgr, flat_grown (A24.out.2.2.2.2.2.2.2.2.2.2.2.1) (A24.out.2.2.2.2.2.2.2.2.2.2.2.2.1) hgr, own_heap (A24.out.2.2.2.2.2.2.2.2.2.2.2.2.2.2.2.2.2.2.1) (fun k e => hgr.block k ((A24.out.2.2.2.2.2.2.2.2.2.2.2.2.2.2.2.2.2.2.1).lt k e).2 (by have := (A24.out.2.2.2.2.2.2.2.2.2.2.2.2.2.2.2.2.2.2.2.1) k e; simp; omega)), (A24.out.2.2.2.2.2.2.2.2.2.2.2.2.2.2.2.2.2.2.2.1), own_heap (A24.out.2.2.2.2.2.2.2.2.2.2.2.2.2.2.2.2.2.2.2.2.2.2.2.1) (fun k e => hgr.block k ((A24.out.2.2.2.2.2.2.2.2.2.2.2.2.2.2.2.2.2.2.2.2.2.2.2.1).lt k e).2 (by have := (A24.out.2.2.2.2.2.2.2.2.2.2.2.2.2.2.2.2.2.2.2.2.2.2.2.2.1) k e; simp; omega)), (A24.out.2.2.2.2.2.2.2.2.2.2.2.2.2.2.2.2.2.2.2.2.2.2.2.2.1), own_heap (A24.out.2.2.2.2.2.2.2.2.2.2.2.2.2.2.2.2.2.2.2.2.2.2.2.2.2.2.2.2.1) (fun k e => hgr.block k ((A24.out.2.2.2.2.2.2.2.2.2.2.2.2.2.2.2.2.2.2.2.2.2.2.2.2.2.2.2.2.1).lt k e).2 (by have := (A24.out.2.2.2.2.2.2.2.2.2.2.2.2.2.2.2.2.2.2.2.2.2.2.2.2.2.2.2.2.2.1) k e; simp; omega)), (A24.out.2.2.2.2.2.2.2.2.2.2.2.2.2.2.2.2.2.2.2.2.2.2.2.2.2.2.2.2.2.1), own_heap (A24.out.2.2.2.2.2.2.2.2.2.2.2.2.2.2.2.2.2.2.2.2.2.2.2.2.2.2.2.2.2.2.2.2.2.1) (fun k e => hgr.block k ((A24.out.2.2.2.2.2.2.2.2.2.2.2.2.2.2.2.2.2.2.2.2.2.2.2.2.2.2.2.2.2.2.2.2.2.1).lt k e).2 (by have := (A24.out.2.2.2.2.2.2.2.2.2.2.2.2.2.2.2.2.2.2.2.2.2.2.2.2.2.2.2.2.2.2.2.2.2.2.1) k e; simp; omega)), (A24.out.2.2.2.2.2.2.2.2.2.2.2.2.2.2.2.2.2.2.2.2.2.2.2.2.2.2.2.2.2.2.2.2.2.2.1), hne⟩
      clear hown hgr hne A24
      have y80 : wr.cell? ⟨b8, 0, none⟩ = some (.int .u64 (X : Int)) := (Z0.out.2.2.2.2.2.1).cell 0
      have y81 : wr.cell? ⟨b8, 1, none⟩ = some (.int .u64 (Y : Int)) := (Z0.out.2.2.2.2.2.1).cell 1
      have y82 : wr.cell? ⟨b8, 2, none⟩ = some (.slice a8 N c8) := (Z0.out.2.2.2.2.2.1).cell 2
      have y40 : wr.cell? ⟨b4, 0, none⟩ = some (.int .u64 (X : Int)) := (Z0.out.2.2.2.1).cell 0
      have y41 : wr.cell? ⟨b4, 1, none⟩ = some (.int .u64 (Y : Int)) := (Z0.out.2.2.2.1).cell 1
      have y42 : wr.cell? ⟨b4, 2, none⟩ = some (.slice a4 N c4) := (Z0.out.2.2.2.1).cell 2
      go_wp2_with fail
      clear y80 y81 y82 y40 y41 y42
      refine (sameproofs_ok X Y a8 a4 N N c8 c4 l wr (own_flat (Z0.out.2.2.2.2.2.2.2.2.2.2.2.1) (Z0.out.2.2.2.2.2.2.2.2.2.1).2.2) (Z0.out.2.2.2.2.2.2.2.2.2.1) (by have := HN.out; omega)).mono ?_
      rintro e w25 ⟨rfl, hb⟩
      have A25 : Aside (Below w.heap.size w w25 ∧ w25.ownsRow w.heap.size 5 1 (.slice (some ⟨gt, 0, none⟩) j ct) j (CELLS (bl.map INC8)) ∧ gt < w25.heap.size ∧ Has w25 b4 (PV X Y a4 N c4) 25 ∧ Has w25 b6 (PV F Z a6 M c6) 27 ∧ Has w25 b8 (PV X Y a8 N c8) 25 ∧ Has w25 b10 (PV X Y a10 N c10) 25 ∧ Has w25 b12 (PV F Z a12 M c12) 27 ∧ Has w25 b14 (PV F Z a14 M c14) 27 ∧ Flat w25 a4 N l ∧ Flat w25 a6 M k ∧ w25.ownsRow w.heap.size 53 32 (.slice a8 N c8) N (CELLS l) ∧ (∀ g, (Value.slice a8 N c8).ownBlock = some g → b6 < g ∧ g < b8) ∧ w25.ownsRow w.heap.size 53 32 (.slice a10 N c10) N (CELLS l) ∧ (∀ g, (Value.slice a10 N c10).ownBlock = some g → b8 < g ∧ g < b10) ∧ w25.ownsRow w.heap.size 53 32 (.slice a12 M c12) M (CELLS k) ∧ (∀ g, (Value.slice a12 M c12).ownBlock = some g → b10 < g ∧ g < b12) ∧ w25.ownsRow w.heap.size 53 32 (.slice a14 M c14) M (CELLS k) ∧ (∀ g, (Value.slice a14 M c14).ownBlock = some g → b12 < g ∧ g < b14) ∧ (w.heap.size ≤ gt ∧ j + 1 ≤ ct ∧ gt < b4 ∧ b4 < b6 ∧ b6 < b8 ∧ b8 < b10 ∧ b10 < b12 ∧ b12 < b14)) := ⟨Z0.out.1.trans (hb.mono Z0.out.1.size), own_below Z0.out.2.1 hb, Nat.lt_of_lt_of_le Z0.out.2.2.1 hb.size, Z0.out.2.2.2.1.keep hb, Z0.out.2.2.2.2.1.keep hb, Z0.out.2.2.2.2.2.1.keep hb, Z0.out.2.2.2.2.2.2.1.keep hb, Z0.out.2.2.2.2.2.2.2.1.keep hb, Z0.out.2.2.2.2.2.2.2.2.1.keep hb, Z0.out.2.2.2.2.2.2.2.2.2.1.below hb, Z0.out.2.2.2.2.2.2.2.2.2.2.1.below hb, own_below Z0.out.2.2.2.2.2.2.2.2.2.2.2.1 hb, Z0.out.2.2.2.2.2.2.2.2.2.2.2.2.1, own_below Z0.out.2.2.2.2.2.2.2.2.2.2.2.2.2.1 hb, Z0.out.2.2.2.2.2.2.2.2.2.2.2.2.2.2.1, own_below Z0.out.2.2.2.2.2.2.2.2.2.2.2.2.2.2.2.1 hb, Z0.out.2.2.2.2.2.2.2.2.2.2.2.2.2.2.2.2.1, own_below Z0.out.2.2.2.2.2.2.2.2.2.2.2.2.2.2.2.2.2.1 hb, Z0.out.2.2.2.2.2.2.2.2.2.2.2.2.2.2.2.2.2.2.1, Z0.out.2.2.2.2.2.2.2.2.2.2.2.2.2.2.2.2.2.2.2⟩
      clear Z0 hb
      have y120 : w25.cell? ⟨b12, 0, none⟩ = some (.int .u64 (F : Int)) := (A25.out.2.2.2.2.2.2.2.1).cell 0
      have y121 : w25.cell? ⟨b12, 1, none⟩ = some (.int .u64 (Z : Int)) := (A25.out.2.2.2.2.2.2.2.1).cell 1
      have y122 : w25.cell? ⟨b12, 2, none⟩ = some (.slice a12 M c12) := (A25.out.2.2.2.2.2.2.2.1).cell 2
      have y60 : w25.cell? ⟨b6, 0, none⟩ = some (.int .u64 (F : Int)) := (A25.out.2.2.2.2.1).cell 0
      have y61 : w25.cell? ⟨b6, 1, none⟩ = some (.int .u64 (Z : Int)) := (A25.out.2.2.2.2.1).cell 1
      have y62 : w25.cell? ⟨b6, 2, none⟩ = some (.slice a6 M c6) := (A25.out.2.2.2.2.1).cell 2
      go_wp2_with fail
      clear y120 y121 y122 y60 y61 y62
      refine (sameprefixes_ok F Z a12 a6 M M c12 c6 k w25 (own_flat (A25.out.2.2.2.2.2.2.2.2.2.2.2.2.2.2.2.1) (A25.out.2.2.2.2.2.2.2.2.2.2.1).2.2) (A25.out.2.2.2.2.2.2.2.2.2.2.1) (by have := HN.out; omega)).mono ?_
      rintro e w26 ⟨rfl, hb⟩
      have A26 : Aside (Below w.heap.size w w26 ∧ w26.ownsRow w.heap.size 5 1 (.slice (some ⟨gt, 0, none⟩) j ct) j (CELLS (bl.map INC8)) ∧ gt < w26.heap.size ∧ Has w26 b4 (PV X Y a4 N c4) 25 ∧ Has w26 b6 (PV F Z a6 M c6) 27 ∧ Has w26 b8 (PV X Y a8 N c8) 25 ∧ Has w26 b10 (PV X Y a10 N c10) 25 ∧ Has w26 b12 (PV F Z a12 M c12) 27 ∧ Has w26 b14 (PV F Z a14 M c14) 27 ∧ Flat w26 a4 N l ∧ Flat w26 a6 M k ∧ w26.ownsRow w.heap.size 53 32 (.slice a8 N c8) N (CELLS l) ∧ (∀ g, (Value.slice a8 N c8).ownBlock = some g → b6 < g ∧ g < b8) ∧ w26.ownsRow w.heap.size 53 32 (.slice a10 N c10) N (CELLS l) ∧ (∀ g, (Value.slice a10 N c10).ownBlock = some g → b8 < g ∧ g < b10) ∧ w26.ownsRow w.heap.size 53 32 (.slice a12 M c12) M (CELLS k) ∧ (∀ g, (Value.slice a12 M c12).ownBlock = some g → b10 < g ∧ g < b12) ∧ w26.ownsRow w.heap.size 53 32 (.slice a14 M c14) M (CELLS k) ∧ (∀ g, (Value.slice a14 M c14).ownBlock = some g → b12 < g ∧ g < b14) ∧ (w.heap.size ≤ gt ∧ j + 1 ≤ ct ∧ gt < b4 ∧ b4 < b6 ∧ b6 < b8 ∧ b8 < b10 ∧ b10 < b12 ∧ b12 < b14)) := ⟨A25.out.1.trans (hb.mono A25.out.1.size), own_below A25.out.2.1 hb, Nat.lt_of_lt_of_le A25.out.2.2.1 hb.size, A25.out.2.2.2.1.keep hb, A25.out.2.2.2.2.1.keep hb, A25.out.2.2.2.2.2.1.keep hb, A25.out.2.2.2.2.2.2.1.keep hb, A25.out.2.2.2.2.2.2.2.1.keep hb, A25.out.2.2.2.2.2.2.2.2.1.keep hb, A25.out.2.2.2.2.2.2.2.2.2.1.below hb, A25.out.2.2.2.2.2.2.2.2.2.2.1.below hb, own_below A25.out.2.2.2.2.2.2.2.2.2.2.2.1 hb, A25.out.2.2.2.2.2.2.2.2.2.2.2.2.1, own_below A25.out.2.2.2.2.2.2.2.2.2.2.2.2.2.1 hb, A25.out.2.2.2.2.2.2.2.2.2.2.2.2.2.2.1, own_below A25.out.2.2.2.2.2.2.2.2.2.2.2.2.2.2.2.1 hb, A25.out.2.2.2.2.2.2.2.2.2.2.2.2.2.2.2.2.1, own_below A25.out.2.2.2.2.2.2.2.2.2.2.2.2.2.2.2.2.2.1 hb, A25.out.2.2.2.2.2.2.2.2.2.2.2.2.2.2.2.2.2.2.1, A25.out.2.2.2.2.2.2.2.2.2.2.2.2.2.2.2.2.2.2.2⟩
      clear A25 hb
      go_upto_region 18 with fail
      have FM0 : Aside (FAM 4 53 32 w26 w.heap.size (KBS gt b4 b8 b10 b12 b14) (V4 (.slice a8 N c8) (.slice a10 N c10) (.slice a12 M c12) (.slice a14 M c14)) (V4 N N M M) (V4 (CELLS l) (CELLS l) (CELLS k) (CELLS k))) := FAM.of_four (A26.out.2.2.2.2.2.2.2.2.2.2.2.1) (A26.out.2.2.2.2.2.2.2.2.2.2.2.2.2.1) (A26.out.2.2.2.2.2.2.2.2.2.2.2.2.2.2.2.1) (A26.out.2.2.2.2.2.2.2.2.2.2.2.2.2.2.2.2.2.1) (A26.out.2.2.2.2.2.2.2.2.2.2.2.2.1) (A26.out.2.2.2.2.2.2.2.2.2.2.2.2.2.2.1) (A26.out.2.2.2.2.2.2.2.2.2.2.2.2.2.2.2.2.1) (A26.out.2.2.2.2.2.2.2.2.2.2.2.2.2.2.2.2.2.2.1) (Nat.le_refl _) (Nat.le_refl _) (Nat.le_refl _) (by have := A26.out.2.2.2.2.2.2.2.2.2.2.2.2.2.2.2.2.2.2.2; omega) (fun k hk => by have := A26.out.2.2.2.2.2.2.2.2.2.2.2.2.2.2.2.2.2.2.2; unfold KBS at hk; omega)
      have KP0 : Aside (KEP w w26 gt ct j (bl.map INC8) b4 b8 b10 b12 b14 (PV X Y a4 N c4) (PV X Y a8 N c8) (PV X Y a10 N c10) (PV F Z a12 M c12) (PV F Z a14 M c14)) := ⟨A26.out.1, A26.out.2.1, A26.out.2.2.1, A26.out.2.2.2.1, A26.out.2.2.2.2.2.1, A26.out.2.2.2.2.2.2.1, A26.out.2.2.2.2.2.2.2.1, A26.out.2.2.2.2.2.2.2.2.1⟩
      have NE : Aside (w.heap.size ≤ gt ∧ j + 1 ≤ ct ∧ gt < b4 ∧ b4 < b6 ∧ b6 < b8 ∧ b8 < b10 ∧ b10 < b12 ∧ b12 < b14) := A26.out.2.2.2.2.2.2.2.2.2.2.2.2.2.2.2.2.2.2.2
      clear A26
      refine four_nodes _ _ _ _ _ _ _ _ _ _ _ _ _ _ _ _ _ _ _ _ _ _ _ _ _ _ _ _ _ _ _ _ _ _ _ _ _ _ _ _ _ _ _ _ _ _ _ _ _ _ _ _ _ _ _ _ _ _ _ _ _ _ _ _ _ _ _ _ _ _ _ _ _ _ _ _ _ _ _ _ _ _ _ _ _ _ _ _ _ _ _ _ _ _ _ _ _ _ _ _ _ _ _ _ _ _ _ _ _ _ _ _ _ _ _ _ _ _ _ _ _ _ _ _ _ _ _ _ _ _ _ _ _ _ _ _ _ _ _ _ _ _ _ _ _ _ _ _ _ _ _ _ _ _ _ _ _ _ _ _ _ _ _ _ _ _ _ _ _ _ _ _ _ _ _ _ _ _ _ _ _ _ _ _ _ b8 b10 b12 b14 a8 a10 a12 a14 N c8 N c10 M c12 M c14 (fun W : World => KEP w W gt ct j (bl.map INC8) b4 b8 b10 b12 b14 (PV X Y a4 N c4) (PV X Y a8 N c8) (PV X Y a10 N c10) (PV F Z a12 M c12) (PV F Z a14 M c14) ∧ FAM 4 53 32 W w.heap.size (KBS gt b4 b8 b10 b12 b14) (V4 (.slice a8 N c8) (.slice a10 N c10) (.slice a12 M c12) (.slice a14 M c14)) (V4 N N M M) (V4 (CELLS l) (CELLS l) (CELLS k) (CELLS k))) (fun X1 (W : World) => ∃ g1 e1, X1 = SL g1 (N + 1 + 1) e1 ∧ KEP w W gt ct j (bl.map INC8) b4 b8 b10 b12 b14 (PV X Y a4 N c4) (PV X Y a8 N c8) (PV X Y a10 N c10) (PV F Z a12 M c12) (PV F Z a14 M c14) ∧ FAM 4 53 32 W w.heap.size (KBS gt b4 b8 b10 b12 b14) (UPD (V4 (.slice a8 N c8) (.slice a10 N c10) (.slice a12 M c12) (.slice a14 M c14)) 0 (SL g1 (N + 1 + 1) e1)) (UPD (V4 N N M M) 0 (N + 1 + 1)) (UPD (V4 (CELLS l) (CELLS l) (CELLS k) (CELLS k)) 0 (CELLS (MKS 201 (N + 1 + 1))))) (fun X1 X2 (W : World) => ∃ g1 e1, ∃ g2 e2, X1 = SL g1 (N + 1 + 1) e1 ∧ X2 = SL g2 (N + 1 + 1) e2 ∧ KEP w W gt ct j (bl.map INC8) b4 b8 b10 b12 b14 (PV X Y a4 N c4) (PV X Y a8 N c8) (PV X Y a10 N c10) (PV F Z a12 M c12) (PV F Z a14 M c14) ∧ FAM 4 53 32 W w.heap.size (KBS gt b4 b8 b10 b12 b14) (UPD (UPD (V4 (.slice a8 N c8) (.slice a10 N c10) (.slice a12 M c12) (.slice a14 M c14)) 0 (SL g1 (N + 1 + 1) e1)) 1 (SL g2 (N + 1 + 1) e2)) (UPD (UPD (V4 N N M M) 0 (N + 1 + 1)) 1 (N + 1 + 1)) (UPD (UPD (V4 (CELLS l) (CELLS l) (CELLS k) (CELLS k)) 0 (CELLS (MKS 201 (N + 1 + 1)))) 1 (CELLS (MKS 202 (N + 1 + 1))))) (fun X1 X2 X3 (W : World) => ∃ g1 e1, ∃ g2 e2, ∃ g3 e3, X1 = SL g1 (N + 1 + 1) e1 ∧ X2 = SL g2 (N + 1 + 1) e2 ∧ X3 = SL g3 (M + 1 + 1) e3 ∧ KEP w W gt ct j (bl.map INC8) b4 b8 b10 b12 b14 (PV X Y a4 N c4) (PV X Y a8 N c8) (PV X Y a10 N c10) (PV F Z a12 M c12) (PV F Z a14 M c14) ∧ FAM 4 53 32 W w.heap.size (KBS gt b4 b8 b10 b12 b14) (UPD (UPD (UPD (V4 (.slice a8 N c8) (.slice a10 N c10) (.slice a12 M c12) (.slice a14 M c14)) 0 (SL g1 (N + 1 + 1) e1)) 1 (SL g2 (N + 1 + 1) e2)) 2 (SL g3 (M + 1 + 1) e3)) (UPD (UPD (UPD (V4 N N M M) 0 (N + 1 + 1)) 1 (N + 1 + 1)) 2 (M + 1 + 1)) (UPD (UPD (UPD (V4 (CELLS l) (CELLS l) (CELLS k) (CELLS k)) 0 (CELLS (MKS 201 (N + 1 + 1)))) 1 (CELLS (MKS 202 (N + 1 + 1)))) 2 (CELLS (MKS 203 (M + 1 + 1))))) (fun X1 X2 X3 X4 (W : World) => ∃ g1 e1, ∃ g2 e2, ∃ g3 e3, ∃ g4 e4, X1 = SL g1 (N + 1 + 1) e1 ∧ X2 = SL g2 (N + 1 + 1) e2 ∧ X3 = SL g3 (M + 1 + 1) e3 ∧ X4 = SL g4 (M + 1 + 1) e4 ∧ KEP w W gt ct j (bl.map INC8) b4 b8 b10 b12 b14 (PV X Y a4 N c4) (PV X Y a8 N c8) (PV X Y a10 N c10) (PV F Z a12 M c12) (PV F Z a14 M c14) ∧ FAM 4 53 32 W w.heap.size (KBS gt b4 b8 b10 b12 b14) (UPD (UPD (UPD (UPD (V4 (.slice a8 N c8) (.slice a10 N c10) (.slice a12 M c12) (.slice a14 M c14)) 0 (SL g1 (N + 1 + 1) e1)) 1 (SL g2 (N + 1 + 1) e2)) 2 (SL g3 (M + 1 + 1) e3)) 3 (SL g4 (M + 1 + 1) e4)) (UPD (UPD (UPD (UPD (V4 N N M M) 0 (N + 1 + 1)) 1 (N + 1 + 1)) 2 (M + 1 + 1)) 3 (M + 1 + 1)) (UPD (UPD (UPD (UPD (V4 (CELLS l) (CELLS l) (CELLS k) (CELLS k)) 0 (CELLS (MKS 201 (N + 1 + 1)))) 1 (CELLS (MKS 202 (N + 1 + 1)))) 2 (CELLS (MKS 203 (M + 1 + 1)))) 3 (CELLS (MKS 204 (M + 1 + 1))))) (fun  W ⟨h, _⟩ => ⟨h.h8.cell 2, h.h10.cell 2, h.h12.cell 2, h.h14.cell 2⟩) (fun _ W ⟨_, _, _, h, _⟩ => ⟨h.h8.cell 2, h.h10.cell 2, h.h12.cell 2, h.h14.cell 2⟩) (fun _ _ W ⟨_, _, _, _, _, _, h, _⟩ => ⟨h.h8.cell 2, h.h10.cell 2, h.h12.cell 2, h.h14.cell 2⟩) (fun _ _ _ W ⟨_, _, _, _, _, _, _, _, _, h, _⟩ => ⟨h.h8.cell 2, h.h10.cell 2, h.h12.cell 2, h.h14.cell 2⟩) (fun _ _ _ _ W ⟨_, _, _, _, _, _, _, _, _, _, _, _, h, _⟩ => ⟨h.h8.cell 2, h.h10.cell 2, h.h12.cell 2, h.h14.cell 2⟩) ?_ ?_ ?_ ?_ ⟨KP0.out.step ((Below.refl _ _).drew), FM0.out.below ((Below.refl _ _).drew)⟩ (fun _ _ _ _ _ h => h) ?_
      · rintro  W ⟨hk, hf⟩
        refine (nodes_step hk hf 0 (by decide) 201 (show N ≤ 900 by have := HN.out; omega)).mono ?_
        rintro e w' ⟨g1, e1, rfl, hk, hf⟩
        exact ⟨_, rfl, g1, e1, rfl, hk, hf⟩
      · rintro X1 W ⟨g1, e1, rfl, hk, hf⟩
        refine (nodes_step hk hf 1 (by decide) 202 (show N ≤ 900 by have := HN.out; omega)).mono ?_
        rintro e w' ⟨g2, e2, rfl, hk, hf⟩
        exact ⟨_, rfl, g1, e1, g2, e2, rfl, rfl, hk, hf⟩
      · rintro X1 X2 W ⟨g1, e1, g2, e2, rfl, rfl, hk, hf⟩
        refine (nodes_step hk hf 2 (by decide) 203 (show M ≤ 900 by have := HN.out; omega)).mono ?_
        rintro e w' ⟨g3, e3, rfl, hk, hf⟩
        exact ⟨_, rfl, g1, e1, g2, e2, g3, e3, rfl, rfl, rfl, hk, hf⟩
      · rintro X1 X2 X3 W ⟨g1, e1, g2, e2, g3, e3, rfl, rfl, rfl, hk, hf⟩
        refine (nodes_step hk hf 3 (by decide) 204 (show M ≤ 900 by have := HN.out; omega)).mono ?_
        rintro e w' ⟨g4, e4, rfl, hk, hf⟩
        exact ⟨_, rfl, g1, e1, g2, e2, g3, e3, g4, e4, rfl, rfl, rfl, rfl, hk, hf⟩
      rintro X1 X2 X3 X4 W ⟨g1, e1, g2, e2, g3, e3, g4, e4, rfl, rfl, rfl, rfl, hk, hf⟩
      have KP : Aside (KEP w W gt ct j (bl.map INC8) b4 b8 b10 b12 b14 (PV X Y a4 N c4) (PV X Y a8 N c8) (PV X Y a10 N c10) (PV F Z a12 M c12) (PV F Z a14 M c14)) := hk
      have R1 : Aside (W.ownsRow w.heap.size 53 32 (SL g1 (N + 1 + 1) e1) (N + 1 + 1) (CELLS (MKS 201 (N + 1 + 1)))) := hf.row 0 (by decide)
      have R2 : Aside (W.ownsRow w.heap.size 53 32 (SL g2 (N + 1 + 1) e2) (N + 1 + 1) (CELLS (MKS 202 (N + 1 + 1)))) := hf.row 1 (by decide)
      have R3 : Aside (W.ownsRow w.heap.size 53 32 (SL g3 (M + 1 + 1) e3) (M + 1 + 1) (CELLS (MKS 203 (M + 1 + 1)))) := hf.row 2 (by decide)
      have R4 : Aside (W.ownsRow w.heap.size 53 32 (SL g4 (M + 1 + 1) e4) (M + 1 + 1) (CELLS (MKS 204 (M + 1 + 1)))) := hf.row 3 (by decide)
      clear hk hf KP0 FM0
      go_wp2_with fail
      refine (each_ok w.heap.size g1 (N + 1 + 1) e1 201 (by have := HN.out; omega) W R1.out).mono ?_
      rintro e w' ⟨rfl, rfl⟩
      go_wp2_with fail
      refine (each_ok w.heap.size g2 (N + 1 + 1) e2 202 (by have := HN.out; omega) W R2.out).mono ?_
      rintro e w' ⟨rfl, rfl⟩
      go_wp2_with fail
      refine (each_ok w.heap.size g3 (M + 1 + 1) e3 203 (by have := HN.out; omega) W R3.out).mono ?_
      rintro e w' ⟨rfl, rfl⟩
      go_wp2_with fail
      refine (each_ok w.heap.size g4 (M + 1 + 1) e4 204 (by have := HN.out; omega) W R4.out).mono ?_
      rintro e w' ⟨rfl, rfl⟩
      clear R1 R2 R3 R4
      have HB2 : Aside (Bytes W (some ⟨gt, 0, none⟩) j (bl.map INC8)) := own_bytes KP.out.txt KP.out.gtl (INC8_range bl)
      go_wp2_with (at_builtin; refine app_any _ rfl (.tmp 164) (.tmp 165) rfl W.heap.size (.slice (some ⟨W.heap.size, 0, none⟩) 0 0) 0 [] rfl (own_empty W _ (Nat.le_refl _)) (some ⟨gt, 0, none⟩) j ct (bl.map INC8) rfl (HB2.out.below ((Below.refl _ _).alloc (Nat.le_refl _) _)) (fun e => by cases e) j (bl.map INC8) (Nat.zero_add j) rfl (by have := HA.out; omega) (by simp) ?_; intro at1 ct1 V1 hown1 hgrow1)
      have hbV : Below W.heap.size W V1 := ((Below.refl _ W).alloc (Nat.le_refl _) _).grown hgrow1 (by simp) (fun k e => by cases e; exact Nat.le_refl _)
      have hby := own_bytes_any hown1 (INC8_range bl)
      have K1 : Aside (KEP w V1 gt ct j (bl.map INC8) b4 b8 b10 b12 b14 (PV X Y a4 N c4) (PV X Y a8 N c8) (PV X Y a10 N c10) (PV F Z a12 M c12) (PV F Z a14 M c14) ∧ Bytes V1 at1 j (bl.map INC8) ∧ j ≤ ct1) := ⟨KP.out.step hbV, hby.1, hby.2⟩
      clear hown1 hgrow1 hbV hby HB2 KP
      obtain ⟨E2, X2, Y2, N2, l2, hD3⟩ : ∃ E X Y N l, DEC (bl.map INC8) = (E, X, Y, N, l) := ⟨_, _, _, _, _, rfl⟩
      have HN2 : Aside (N2 ≤ 188) := by
        have h1 : (DEC (bl.map INC8)).2.2.2.1 ≤ 188 := DC0_few (DEC_few (INC8_range bl))
        rw [hD3] at h1
        exact h1
      have HD3 : Aside (DEC (bl.map INC8) = (E2, X2, Y2, N2, l2)) := hD3
      clear hD3
      have cD := refdecode_ok at1 j ct1 (by have := HA.out; omega) (bl.map INC8) V1 K1.out.2.1 K1.out.2.2
      rw [HD3.out] at cD
      refine cD.mono ?_
      clear cD
      rintro e V2 ⟨a20, c20, rfl, hF, hb, hfr⟩
      dsimp only at *
      have K2 : Aside (KEP w V2 gt ct j (bl.map INC8) b4 b8 b10 b12 b14 (PV X Y a4 N c4) (PV X Y a8 N c8) (PV X Y a10 N c10) (PV F Z a12 M c12) (PV F Z a14 M c14) ∧ Flat V2 a20 N2 l2 ∧ ∀ b o, a20 = some ⟨b, o, none⟩ → b ≠ b4 ∧ b ≠ b8) := ⟨K1.out.1.step hb, hF, fun b o e => by have h1 := hfr b o e; have h2 := K1.out.1.h4.lt; have h3 := K1.out.1.h8.lt; omega⟩
      clear hF hb hfr K1
      have y0 : V2.cell? ⟨b4, 0, none⟩ = some (.int .u64 (X : Int)) := K2.out.1.h4.cell 0
      have y1 : V2.cell? ⟨b4, 1, none⟩ = some (.int .u64 (Y : Int)) := K2.out.1.h4.cell 1
      have y2 : V2.cell? ⟨b4, 2, none⟩ = some (.slice a4 N c4) := K2.out.1.h4.cell 2
      have f0 := K2.out.1.h4.frozen 0
      have f1 := K2.out.1.h4.frozen 1
      have f2 := K2.out.1.h4.frozen 2
      go_wp2_with fail
      clear y0 y1 y2 f0 f1 f2
      obtain ⟨V3, hV3⟩ : ∃ V3, V3 = ((V2.setCell ⟨b4, 0, none⟩ (.int .u64 (X2 : Int))).setCell ⟨b4, 1, none⟩ (.int .u64 (Y2 : Int))).setCell ⟨b4, 2, none⟩ (.slice a20 N2 c20) := ⟨_, rfl⟩
      have K3 : Aside (Below w.heap.size w V3 ∧ V3.ownsRow w.heap.size 5 1 (.slice (some ⟨gt, 0, none⟩) j ct) j (CELLS (bl.map INC8)) ∧ gt < V3.heap.size ∧ Has V3 b4 (PV X2 Y2 a20 N2 c20) 25 ∧ Has V3 b8 (PV X Y a8 N c8) 25 ∧ Flat V3 a20 N2 l2) := by
        obtain ⟨k1, k2, k3⟩ := K2.out
        obtain ⟨n1, n2, n3, n4, n5, n6, n7, n8⟩ := NE.out
        rw [hV3]
        refine ⟨((k1.bel.setCell (p := ⟨b4, 0, none⟩) (by show w.heap.size ≤ b4; omega) _).setCell (p := ⟨b4, 1, none⟩) (by show w.heap.size ≤ b4; omega) _).setCell (p := ⟨b4, 2, none⟩) (by show w.heap.size ≤ b4; omega) _, own_heap k1.txt (fun i e => ?_), ?_, ((k1.h4.set 0 (.int .u64 (X2 : Int))).set 1 (.int .u64 (Y2 : Int))).set 2 (.slice a20 N2 c20), ((k1.h8.other (a := ⟨b4, 0, none⟩) (by show b8 ≠ b4; omega) _).other (a := ⟨b4, 1, none⟩) (by show b8 ≠ b4; omega) _).other (a := ⟨b4, 2, none⟩) (by show b8 ≠ b4; omega) _, ((k2.off (x := ⟨b4, 0, none⟩) (fun b o e => (k3 b o e).1) _).off (x := ⟨b4, 1, none⟩) (fun b o e => (k3 b o e).1) _).off (x := ⟨b4, 2, none⟩) (fun b o e => (k3 b o e).1) _⟩
        · have e : gt = i := by simpa [Value.ownBlock] using e
          subst e
          rw [Below.heap_setCell _ _ _ gt (by show gt ≠ b4; omega), Below.heap_setCell _ _ _ gt (by show gt ≠ b4; omega), Below.heap_setCell _ _ _ gt (by show gt ≠ b4; omega)]
        · exact Nat.lt_of_lt_of_le k1.gtl (Nat.le_trans (KeepsWalks.setCell V2 _ _).size (Nat.le_trans (KeepsWalks.setCell _ _ _).size (KeepsWalks.setCell _ _ _).size))
      have K2' : Aside (∀ b o, a20 = some ⟨b, o, none⟩ → b ≠ b8) := fun b o e => (K2.out.2.2 b o e).2
      rw [← hV3]
      clear hV3 K2
      have cD := decode_own (some ⟨gt, 0, none⟩) j ct (by have := HA.out; omega) (bl.map INC8) V3 (own_bytes K3.out.2.1 K3.out.2.2.1 (INC8_range bl)) (by have := NE.out; omega) (HT.out _ K3.out.1).1 (HT.out _ K3.out.1).2
      rw [HD3.out] at cD
      refine cD.mono ?_
      clear cD
      rintro e V4' ⟨a30, c30, rfl, hR, hrg, hb⟩
      dsimp only at *
      have K4 : Aside (Below w.heap.size w V4' ∧ Has V4' b4 (PV X2 Y2 a20 N2 c20) 25 ∧ Has V4' b8 (PV X Y a8 N c8) 25 ∧ Flat V4' a20 N2 l2 ∧ Flat V4' a30 N2 l2 ∧ ∀ b o, a30 = some ⟨b, o, none⟩ → b ≠ b8) := ⟨K3.out.1.trans (hb.mono K3.out.1.size), K3.out.2.2.2.1.keep hb, K3.out.2.2.2.2.1.keep hb, K3.out.2.2.2.2.2.below hb, own_flat hR hrg, fun b o e => by subst e; have h1 := (hR.lt b rfl).1; have h2 := K3.out.2.2.2.2.1.lt; omega⟩
      clear hR hrg hb K3
      have y0 : V4'.cell? ⟨b8, 0, none⟩ = some (.int .u64 (X : Int)) := K4.out.2.2.1.cell 0
      have y1 : V4'.cell? ⟨b8, 1, none⟩ = some (.int .u64 (Y : Int)) := K4.out.2.2.1.cell 1
      have y2 : V4'.cell? ⟨b8, 2, none⟩ = some (.slice a8 N c8) := K4.out.2.2.1.cell 2
      have f0 := K4.out.2.2.1.frozen 0
      have f1 := K4.out.2.2.1.frozen 1
      have f2 := K4.out.2.2.1.frozen 2
      go_upto_region 24 with fail
      clear y0 y1 y2 f0 f1 f2
      obtain ⟨V5, hV5⟩ : ∃ V5, V5 = ((V4'.setCell ⟨b8, 0, none⟩ (.int .u64 (X2 : Int))).setCell ⟨b8, 1, none⟩ (.int .u64 (Y2 : Int))).setCell ⟨b8, 2, none⟩ (.slice a30 N2 c30) := ⟨_, rfl⟩
      have K5 : Aside (Below w.heap.size w V5 ∧ Has V5 b4 (PV X2 Y2 a20 N2 c20) 25 ∧ Has V5 b8 (PV X2 Y2 a30 N2 c30) 25 ∧ Flat V5 a20 N2 l2 ∧ Flat V5 a30 N2 l2) := by
        obtain ⟨k1, k2, k3, k4, k5, k6⟩ := K4.out
        obtain ⟨n1, n2, n3, n4, n5, n6, n7, n8⟩ := NE.out
        have k7 := K2'.out
        rw [hV5]
        exact ⟨((k1.setCell (p := ⟨b8, 0, none⟩) (by show w.heap.size ≤ b8; omega) _).setCell (p := ⟨b8, 1, none⟩) (by show w.heap.size ≤ b8; omega) _).setCell (p := ⟨b8, 2, none⟩) (by show w.heap.size ≤ b8; omega) _, ((k2.other (a := ⟨b8, 0, none⟩) (by show b4 ≠ b8; omega) _).other (a := ⟨b8, 1, none⟩) (by show b4 ≠ b8; omega) _).other (a := ⟨b8, 2, none⟩) (by show b4 ≠ b8; omega) _, ((k3.set 0 (.int .u64 (X2 : Int))).set 1 (.int .u64 (Y2 : Int))).set 2 (.slice a30 N2 c30), ((k4.off (x := ⟨b8, 0, none⟩) k7 _).off (x := ⟨b8, 1, none⟩) k7 _).off (x := ⟨b8, 2, none⟩) k7 _, ((k5.off (x := ⟨b8, 0, none⟩) k6 _).off (x := ⟨b8, 1, none⟩) k6 _).off (x := ⟨b8, 2, none⟩) k6 _⟩
      rw [← hV5]
      clear hV5 K4 K2'
      have y80 : V5.cell? ⟨b8, 0, none⟩ = some (.int .u64 (X2 : Int)) := K5.out.2.2.1.cell 0
      have y81 : V5.cell? ⟨b8, 1, none⟩ = some (.int .u64 (Y2 : Int)) := K5.out.2.2.1.cell 1
      have y82 : V5.cell? ⟨b8, 2, none⟩ = some (.slice a30 N2 c30) := K5.out.2.2.1.cell 2
      have y40 : V5.cell? ⟨b4, 0, none⟩ = some (.int .u64 (X2 : Int)) := K5.out.2.1.cell 0
      have y41 : V5.cell? ⟨b4, 1, none⟩ = some (.int .u64 (Y2 : Int)) := K5.out.2.1.cell 1
      have y42 : V5.cell? ⟨b4, 2, none⟩ = some (.slice a20 N2 c20) := K5.out.2.1.cell 2
      go_wp2_with fail
      clear y80 y81 y82 y40 y41 y42
      refine (sameproofs_ok X2 Y2 a30 a20 N2 N2 c30 c20 l2 V5 K5.out.2.2.2.2 K5.out.2.2.2.1 (by have := HN2.out; omega)).mono ?_
      rintro e V6 ⟨rfl, hb⟩
      have K6 : Aside (Below w.heap.size w V6) := K5.out.1.trans (hb.mono K5.out.1.size)
      clear hb K5
      go_wp2_with fail
      refine (proofawake_ok V6 (HT.out _ K6.out).1 (HT.out _ K6.out).2).mono ?_
      rintro e V7 ⟨rfl, hb⟩
      have K7 : Aside (Below w.heap.size w V7) := K6.out.trans (hb.mono K6.out.size)
      clear hb K6
      go_wp2
      go_ret
      exact ⟨rfl, K7.out⟩
theorem proofReads_walk (ba : Option Addr) (bn bc : Nat) (bl : List Int) (w : World) (hB : Bytes w ba bn bl) (hbc : ba = none → bc = 0) (hbn : bn ≤ bc) (hT : Tabled w) (h0 : 0 < w.heap.size) :
    Calls Tryd.prog 4 #[.slice ba bn bc] w fun e w' => e = .returned (.bool true) ∧ Below w.heap.size w w' := by
  by_cases h : 9600 < bn
  · have k3 : (9600 : Int) < (bn : Int) := by omega
    clear hB hbc hbn hT h0 h
    go_enter Tryd.func4, Tryd.ntmps4
    go_wp2_with fail
    go_ret
    exact ⟨rfl, Below.refl _ _⟩
  · exact proofReads_core ba bn bc hbc hbn bl w hB hT h0 (by omega)
end Go.Proofs.YtfjmbfppilfepaaDoor
