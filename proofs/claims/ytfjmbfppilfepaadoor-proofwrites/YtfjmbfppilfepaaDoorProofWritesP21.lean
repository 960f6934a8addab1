/- Texts of ProofWrites, one behind the other: ProofFlats, ProofMarked, ProofPairs. -/
import Derived.Test.YtfjmbfppilfepaaDoorProofWritesP19
/- Lists of hashes and of bytes that lie somewhere: what a row of one's own, a block, a cut of them give. -/
namespace Go.Proofs.YtfjmbfppilfepaaDoor
open Go.RowKit
set_option maxRecDepth 100000

theorem range_below {w w' : World} {g o : Nat} {cs : List Value} (h : w.rangeAt g o cs) (hb : Below w.heap.size w w') (hg : g < w.heap.size) : w'.rangeAt g o cs := fun j v hv => (hb.cell (p := ⟨g, o + j, none⟩) hg).trans (h j v hv)
theorem range_other {w : World} {g o : Nat} {cs : List Value} (h : w.rangeAt g o cs) {a : Addr} (ha : g ≠ a.block) (u : Value) : (w.setCell a u).rangeAt g o cs := fun j v hv => (World.cell?_setCell_other w _ _ u (fun e => ha (congrArg Addr.block e).symm)).trans (h j v hv)
theorem Flat.other {w : World} {b o n : Nat} {l : List Int} (h : Flat w (some ⟨b, o, none⟩) n l) {a : Addr} (ha : b ≠ a.block) (u : Value) : Flat (w.setCell a u) (some ⟨b, o, none⟩) n l :=
  ⟨h.1, fun hn => by
    obtain ⟨b', o', e, hl, hc⟩ := h.2.1 hn
    cases e
    exact ⟨b, o, rfl, Nat.lt_of_lt_of_le hl (KeepsWalks.setCell w a u).size, fun j hj => (World.cell?_setCell_other w _ _ u (fun e => ha (congrArg Addr.block e).symm)).trans (hc j hj)⟩, h.2.2⟩
theorem own_flat {w : World} {B n : Nat} {a : Option Addr} {c : Nat} {l : List Int} (h : w.ownsRow B 53 32 (.slice a n c) n (CELLS l)) (hr : ∀ x ∈ l, 0 ≤ x ∧ x ≤ 255) : Flat w a n l := by
  have hl : l.length = 32 * n := by have := h.1; simpa [CELLS, Nat.mul_comm] using this
  refine ⟨hl, fun hn => ?_, hr⟩
  rcases h.2 with ⟨e, h0⟩ | ⟨g, cap, cur, e, _, hg, _⟩
  · omega
  · cases e
    refine ⟨g, 0, rfl, (Array.getElem?_eq_some_iff.1 hg).1, fun j hj => ?_⟩
    have := h.cellAt j (by omega)
    rw [Nat.zero_add, this, CELLS_get l j (by omega)]
theorem nil_flat (w : World) : Flat w none 0 [] := ⟨rfl, fun h => absurd h (by decide), by simp⟩
theorem has_flat {w : World} {g n : Nat} {l : List Int} (h : Has w g (CELLS l).toArray 53) (hl : l.length = 32 * n) (hr : ∀ x ∈ l, 0 ≤ x ∧ x ≤ 255) : Flat w (some ⟨g, 0, none⟩) n l :=
  ⟨hl, fun _ => ⟨g, 0, rfl, h.lt, fun j hj => by rw [Nat.zero_add, h.cell, List.getElem?_toArray, CELLS_get l j (by omega)]⟩, hr⟩
theorem own_sl {w : World} {B n : Nat} {v : Value} {l : List Int} (h : w.ownsRow B 5 1 v n (CELLS l)) (hr : ∀ x ∈ l, 0 ≤ x ∧ x ≤ 255) : ∃ a c, v = .slice a n c ∧ Bytes w a n l ∧ n ≤ c := by
  obtain ⟨a, c, rfl⟩ : ∃ a c, v = .slice a n c := by
    rcases h.2 with ⟨rfl, h0⟩ | ⟨g, cap, cur, rfl, _⟩
    · subst h0
      exact ⟨none, 0, rfl⟩
    · exact ⟨_, _, rfl⟩
  exact ⟨a, c, rfl, own_bytes_any h hr⟩
theorem ENCB_range {k E : Int} {P n X Y : Nat} {l c : List Int} {E' : Int} (hX : X < 2 ^ 64) (hY : Y < 2 ^ 64) (hk : 0 ≤ k ∧ k ≤ 255) (hr : ∀ x ∈ l, 0 ≤ x ∧ x ≤ 255) (h : ENCB k E P n X Y l = (E', c)) : ∀ x ∈ c, 0 ≤ x ∧ x ≤ 255 := by
  unfold ENCB at h
  split at h
  · cases h
    simp
  · split at h
    · cases h
      simp
    · cases h
      intro x hx
      simp only [List.mem_cons, List.mem_append] at hx
      rcases hx with rfl | (hx | hx) | hx
      · exact hk
      · exact SHORT_range hX x hx
      · exact SHORT_range hY x hx
      · exact hr x hx
theorem ENCB_long {k E : Int} {P n X Y : Nat} {l c : List Int} {E' : Int} (hl : l.length = 32 * n) (h : ENCB k E P n X Y l = (E', c)) : c.length ≤ 21 + 32 * n := by
  have h1 := SHORT_length X
  have h2 := SHORT_length Y
  have h3 := NTOP_le X
  have h4 := NTOP_le Y
  unfold ENCB at h
  split at h
  · cases h
    simp
  · split at h
    · cases h
      simp
    · cases h
      simp
      omega
theorem Bytes.take {w : World} {a : Option Addr} {n : Nat} {l : List Int} (h : Bytes w a n l) {m : Nat} (hm : m ≤ n) : Bytes w a m (l.take m) := by
  refine ⟨by rw [List.length_take, h.1]; omega, fun h0 => ?_, fun x hx => h.2.2 x (List.mem_of_mem_take hx)⟩
  obtain ⟨b, o, e, hb, hc⟩ := h.2.1 (by omega)
  refine ⟨b, o, e, hb, fun i hi => ?_⟩
  rw [hc i (by omega), List.getD_eq_getElem?_getD, List.getD_eq_getElem?_getD, List.getElem?_take, if_pos hi]
end Go.Proofs.YtfjmbfppilfepaaDoor

/- A list of hashes of one's own that is written over with a mark. -/
namespace Go.Proofs.YtfjmbfppilfepaaDoor
open Go.RowKit
set_option maxRecDepth 100000

/-- values laid over a list, one behind the other, from o on. -/
def OVERW (xs : List Value) : Nat → List Value → List Value
  | _, [] => xs
  | o, v :: vs => OVERW (xs.set o v) (o + 1) vs
theorem OVERW_eq : ∀ (vs xs : List Value) (o : Nat), o + vs.length ≤ xs.length → OVERW xs o vs = xs.take o ++ vs ++ xs.drop (o + vs.length)
  | [], xs, o, _ => by simp [OVERW]
  | v :: vs, xs, o, h => by
    simp only [List.length_cons] at h
    rw [OVERW, OVERW_eq vs (xs.set o v) (o + 1) (by rw [List.length_set]; omega)]
    rw [List.take_set, List.drop_set, if_pos (by omega)]
    rw [List.take_add_one, List.getElem?_eq_getElem (by omega)]
    simp only [Option.toList_some, List.length_cons]
    rw [List.set_append_right _ _ (by simp; omega)]
    simp only [List.length_take, show min o xs.length = o by omega, Nat.sub_self, List.set_cons_zero]
    simp [Nat.add_comm, Nat.add_left_comm]
theorem own_over {B : Nat} {t : TypeId} {s g n c : Nat} : ∀ (vs xs : List Value) (o : Nat) (w : World), w.ownsRow B t s (.slice (some ⟨g, 0, none⟩) n c) n xs → (w.setCells g o vs).ownsRow B t s (.slice (some ⟨g, 0, none⟩) n c) n (OVERW xs o vs) ∧ w.grownBy (w.setCells g o vs) (some g)
  | [], xs, o, w, h => ⟨h, grown_refl _ _⟩
  | v :: vs, xs, o, w, h => by
    obtain ⟨h1, h2⟩ := h.stored o v
    obtain ⟨h3, h4⟩ := own_over vs _ (o + 1) _ h1
    exact ⟨h3, grown_trans h2 h4 (.inl rfl)⟩
/-- the mark m. -/
def MK (m : Int) : List Int := m :: List.replicate 31 0
theorem MK_length (m : Int) : (MK m).length = 32 := rfl
theorem MK_arr (m : Int) : (CELLS (MK m)).toArray = #[.int .u8 m, .int .u8 0, .int .u8 0, .int .u8 0, .int .u8 0, .int .u8 0, .int .u8 0, .int .u8 0, .int .u8 0, .int .u8 0, .int .u8 0, .int .u8 0, .int .u8 0, .int .u8 0, .int .u8 0, .int .u8 0, .int .u8 0, .int .u8 0, .int .u8 0, .int .u8 0, .int .u8 0, .int .u8 0, .int .u8 0, .int .u8 0, .int .u8 0, .int .u8 0, .int .u8 0, .int .u8 0, .int .u8 0, .int .u8 0, .int .u8 0, .int .u8 0] := rfl
/-- so many marks. -/
def MKS (m : Int) : Nat → List Int
  | 0 => []
  | k + 1 => MKS m k ++ MK m
theorem MKS_length (m : Int) : ∀ k, (MKS m k).length = 32 * k
  | 0 => rfl
  | k + 1 => by rw [MKS, List.length_append, MKS_length m k, MK_length]; omega
theorem MKS_add (m : Int) (a : Nat) : ∀ b, MKS m (a + b) = MKS m a ++ MKS m b
  | 0 => by simp [MKS]
  | b + 1 => by rw [← Nat.add_assoc, MKS, MKS, MKS_add m a b, List.append_assoc]
theorem MKS_at (m : Int) {k i : Nat} (hi : i < k) : HSH (MKS m k) i = MK m := by
  unfold HSH
  rw [show k = i + (1 + (k - i - 1)) by omega, MKS_add, MKS_add, List.drop_left' (by rw [MKS_length]), List.take_left' (by rw [MKS_length])]
  rfl
/-- the first j are marks. -/
def MKP (xs : List Value) (m : Int) (j : Nat) : List Value := CELLS (MKS m j) ++ xs.drop (32 * j)
theorem MKP_zero (xs : List Value) (m : Int) : MKP xs m 0 = xs := by simp [MKP, MKS, CELLS]
theorem MKP_all {xs : List Value} {n : Nat} (h : xs.length = 32 * n) (m : Int) : MKP xs m n = CELLS (MKS m n) := by
  unfold MKP
  rw [List.drop_of_length_le (by omega), List.append_nil]
theorem MKP_length {xs : List Value} {n j : Nat} (h : xs.length = 32 * n) (hj : j ≤ n) (m : Int) : (MKP xs m j).length = 32 * n := by
  unfold MKP
  rw [List.length_append, List.length_drop, CELLS, List.length_map, MKS_length]
  omega
theorem MKP_next {xs : List Value} {n j : Nat} (h : xs.length = 32 * n) (hj : j < n) (m : Int) : OVERW (MKP xs m j) (j * 32) (CELLS (MK m)) = MKP xs m (j + 1) := by
  have hl : (CELLS (MK m)).length = 32 := rfl
  have hk : (CELLS (MKS m j)).length = j * 32 := by rw [CELLS, List.length_map, MKS_length]; omega
  rw [OVERW_eq _ _ _ (by rw [MKP_length h (by omega), hl]; omega), hl]
  unfold MKP
  rw [List.take_left' hk, List.drop_append, List.drop_of_length_le (by omega), List.nil_append, hk, List.drop_drop, MKS, CELLS_append]
  rw [show 32 * j + (j * 32 + 32 - j * 32) = 32 * (j + 1) by omega]
theorem step_pure {o : Oper} {a : Act} {w w' : World} {K : Act → World → Prop} {Q : Exit → Act → World → Prop} {v : Value} (hrun : (execOp a.eval o).run Tryd.prog w = .ok (.value v) w') (h : K (a.put o.dst v) w') : Oper.wp Tryd.prog o a w K Q := by
  unfold Oper.wp
  rw [hrun]
  exact h
end Go.Proofs.YtfjmbfppilfepaaDoor

/- Two proofs that came in, and their copies with rows of their own; is the mark behind a row as it was? -/
namespace Go.Proofs.YtfjmbfppilfepaaDoor
open Go.RowKit
set_option maxRecDepth 100000

/-- a proof as a value. -/
abbrev PV (X Y : Nat) (a : Option Addr) (n c : Nat) : Array Value := #[.int .u64 (X : Int), .int .u64 (Y : Int), .slice a n c]
/-- what lies there while the law goes on: the two that came in, and their copies with rows of their own, with marks behind them. -/
structure RND (w W : World) (b3 b4 g7 g8 : Nat) (S I : Nat) (pa : Option Addr) (pn pc : Nat) (F Z : Nat) (xa : Option Addr) (xn xc : Nat) (rg cg rx cx : Nat) (pl xl : List Int) : Prop where
  bel : Below w.heap.size w W
  h3 : Has W b3 (PV S I pa pn pc) 25
  h4 : Has W b4 (PV F Z xa xn xc) 27
  h7 : Has W g7 (PV S I (some ⟨rg, 0, none⟩) pn cg) 25
  h8 : Has W g8 (PV F Z (some ⟨rx, 0, none⟩) xn cx) 27
  fg : Flat W (some ⟨rg, 0, none⟩) pn pl
  fx : Flat W (some ⟨rx, 0, none⟩) xn xl
  mg : W.rangeAt rg (pn * 32) (CELLS MRK) ∧ rg < W.heap.size ∧ pn + 1 ≤ cg
  mx : W.rangeAt rx (xn * 32) (CELLS MRK) ∧ rx < W.heap.size ∧ xn + 1 ≤ cx
theorem RND.step {w W W' : World} {b3 b4 g7 g8 S I : Nat} {pa : Option Addr} {pn pc F Z : Nat} {xa : Option Addr} {xn xc rg cg rx cx : Nat} {pl xl : List Int} (h : RND w W b3 b4 g7 g8 S I pa pn pc F Z xa xn xc rg cg rx cx pl xl) (hb : Below W.heap.size W W') : RND w W' b3 b4 g7 g8 S I pa pn pc F Z xa xn xc rg cg rx cx pl xl :=
  ⟨h.bel.trans (hb.mono h.bel.size), h.h3.keep hb, h.h4.keep hb, h.h7.keep hb, h.h8.keep hb, h.fg.below hb, h.fx.below hb, ⟨range_below h.mg.1 hb h.mg.2.1, Nat.lt_of_lt_of_le h.mg.2.1 hb.size, h.mg.2.2⟩, ⟨range_below h.mx.1 hb h.mx.2.1, Nat.lt_of_lt_of_le h.mx.2.1 hb.size, h.mx.2.2⟩⟩
/-- the two structures, before their lists are laid into them. -/
structure RN0 (w W : World) (b3 b4 g7 g8 : Nat) (S I : Nat) (pa : Option Addr) (pn pc : Nat) (F Z : Nat) (xa : Option Addr) (xn xc : Nat) (na : Option Addr) (nc : Nat) : Prop where
  bel : Below w.heap.size w W
  h3 : Has W b3 (PV S I pa pn pc) 25
  h4 : Has W b4 (PV F Z xa xn xc) 27
  h7 : Has W g7 (PV S I na pn nc) 25
  h8 : Has W g8 (PV F Z xa xn xc) 27
  ne : g7 ≠ g8 ∧ b3 ≠ g7 ∧ b3 ≠ g8 ∧ b4 ≠ g7 ∧ b4 ≠ g8 ∧ w.heap.size ≤ g7 ∧ w.heap.size ≤ g8
theorem RN0.step {w W W' : World} {b3 b4 g7 g8 S I : Nat} {pa : Option Addr} {pn pc F Z : Nat} {xa : Option Addr} {xn xc : Nat} {na : Option Addr} {nc : Nat} (h : RN0 w W b3 b4 g7 g8 S I pa pn pc F Z xa xn xc na nc) (hb : Below W.heap.size W W') : RN0 w W' b3 b4 g7 g8 S I pa pn pc F Z xa xn xc na nc :=
  ⟨h.bel.trans (hb.mono h.bel.size), h.h3.keep hb, h.h4.keep hb, h.h7.keep hb, h.h8.keep hb, h.ne⟩
/-- a list with its mark. -/
structure MKD (W : World) (g7 g8 r n c : Nat) (l : List Int) : Prop where
  fl : Flat W (some ⟨r, 0, none⟩) n l
  mr : W.rangeAt r (n * 32) (CELLS MRK) ∧ r < W.heap.size ∧ n + 1 ≤ c
  ne : r ≠ g7 ∧ r ≠ g8
theorem MKD.step {W W' : World} {g7 g8 r n c : Nat} {l : List Int} (h : MKD W g7 g8 r n c l) (hb : Below W.heap.size W W') : MKD W' g7 g8 r n c l :=
  ⟨h.fl.below hb, ⟨range_below h.mr.1 hb h.mr.2.1, Nat.lt_of_lt_of_le h.mr.2.1 hb.size, h.mr.2.2⟩, h.ne⟩
theorem MKD.other {W : World} {g7 g8 r n c : Nat} {l : List Int} (h : MKD W g7 g8 r n c l) {a : Addr} (ha : r ≠ a.block) (u : Value) : MKD (W.setCell a u) g7 g8 r n c l :=
  ⟨h.fl.other ha u, ⟨range_other h.mr.1 ha u, Nat.lt_of_lt_of_le h.mr.2.1 (KeepsWalks.setCell W a u).size, h.mr.2.2⟩, h.ne⟩
theorem marked_ok (g n c : Nat) (hn : n ≤ 1000) (hc : n + 1 ≤ c) (w : World) (h : w.rangeAt g (n * 32) (CELLS MRK)) : Calls Tryd.prog 25 #[.slice (some ⟨g, 0, none⟩) n c] w fun e w' => e = .returned (.bool true) ∧ w = w' := by
  have hw : wrap64 ((n : Int) + 1) = ((n + 1 : Nat) : Int) := by unfold wrap64; omega
  have h1 : ((n + 1 : Nat) : Int) ≤ (c : Int) := by omega
  have h2 : (n : Int) + 1 ≤ (c : Int) := by omega
  have hb0 : (0 : Int) ≤ (n : Int) := Int.natCast_nonneg n
  have hb1 : (n : Int) < (n : Int) + 1 := Int.lt_succ (n : Int)
  have hnq : ∀ x y (W : World), (do eqGuard .eql 53 x y (.agg (CELLS MRK).toArray) (.agg (CELLS MRK).toArray); binOp .eql 53 (.agg (CELLS MRK).toArray) (.agg (CELLS MRK).toArray) : Sem Value).run Tryd.prog W = .ok (.bool true) W := fun x y W => by
    have := eql_hashes (h := MRK) (g := MRK) rfl rfl x y W
    rw [this]
    simp
  clear hn hc
  go_enter Tryd.func25, Tryd.ntmps25
  go_wp2_with (first
    | (refine wpList_load_mid rfl 53 (.tmp 10) rfl g (n * 32) rfl (CELLS MRK) _ h Tryd.underlying53 rfl (info_cells rfl) ?_)
    | (rw [← MRK_arr]; refine wpList_plain rfl (fun K hK => step_pure (run_value (hnq _ _ _)) (hK _ _ ?_))))
  go_ret
  exact ⟨rfl, rfl⟩
end Go.Proofs.YtfjmbfppilfepaaDoor
