/- Texts of SpanBytes, one behind the other: ProofMarked, ManySlice, SpanReader, ProofReaders, ProofDecodeSteps, ProofDecode, ProofOwned, SpanNodes. -/
import Derived.Deep.RegionLaw
import Derived.Laws.CopyOwn
import Derived.Test.YtmkgldjocigffaaDoorSpanBytesP14
/- A list of hashes of one's own that is written over with a mark. -/
namespace Go.Proofs.YtmkgldjocigffaaDoor
open Go.RowKit
set_option maxRecDepth 100000

/-- values laid over a list, one behind the other, from o on. -/
def OVERW (xs : List Value) : Nat → List Value → List Value
  | _, [] => xs
  | o, v :: vs => OVERW (xs.set o v) (o + 1) vs
theorem OVERW_eq : ∀ (vs xs : List Value) (o : Nat), o + vs.length ≤ xs.length → OVERW xs o vs = xs.take o ++ vs ++ xs.drop (o + vs.length)
  | [], xs, o, _ => by simp [OVERW]
  | v :: vs, xs, o, h => by
    simp only [List.length_cons] at h
    rw [OVERW, OVERW_eq vs (xs.set o v) (o + 1) (by rw [List.length_set]; omega)]
    rw [List.take_set, List.drop_set, if_pos (by omega)]
    rw [List.take_add_one, List.getElem?_eq_getElem (by omega)]
    simp only [Option.toList_some, List.length_cons]
    rw [List.set_append_right _ _ (by simp; omega)]
    simp only [List.length_take, show min o xs.length = o by omega, Nat.sub_self, List.set_cons_zero]
    simp [Nat.add_comm, Nat.add_left_comm]
theorem own_over {B : Nat} {t : TypeId} {s g n c : Nat} : ∀ (vs xs : List Value) (o : Nat) (w : World), w.ownsRow B t s (.slice (some ⟨g, 0, none⟩) n c) n xs → (w.setCells g o vs).ownsRow B t s (.slice (some ⟨g, 0, none⟩) n c) n (OVERW xs o vs) ∧ w.grownBy (w.setCells g o vs) (some g)
  | [], xs, o, w, h => ⟨h, grown_refl _ _⟩
  | v :: vs, xs, o, w, h => by
    obtain ⟨h1, h2⟩ := h.stored o v
    obtain ⟨h3, h4⟩ := own_over vs _ (o + 1) _ h1
    exact ⟨h3, grown_trans h2 h4 (.inl rfl)⟩
/-- the mark m. -/
def MK (m : Int) : List Int := m :: List.replicate 31 0
theorem MK_length (m : Int) : (MK m).length = 32 := rfl
theorem MK_arr (m : Int) : (CELLS (MK m)).toArray = #[.int .u8 m, .int .u8 0, .int .u8 0, .int .u8 0, .int .u8 0, .int .u8 0, .int .u8 0, .int .u8 0, .int .u8 0, .int .u8 0, .int .u8 0, .int .u8 0, .int .u8 0, .int .u8 0, .int .u8 0, .int .u8 0, .int .u8 0, .int .u8 0, .int .u8 0, .int .u8 0, .int .u8 0, .int .u8 0, .int .u8 0, .int .u8 0, .int .u8 0, .int .u8 0, .int .u8 0, .int .u8 0, .int .u8 0, .int .u8 0, .int .u8 0, .int .u8 0] := rfl
/-- so many marks. -/
def MKS (m : Int) : Nat → List Int
  | 0 => []
  | k + 1 => MKS m k ++ MK m
theorem MKS_length (m : Int) : ∀ k, (MKS m k).length = 32 * k
  | 0 => rfl
  | k + 1 => by rw [MKS, List.length_append, MKS_length m k, MK_length]; omega
theorem MKS_add (m : Int) (a : Nat) : ∀ b, MKS m (a + b) = MKS m a ++ MKS m b
  | 0 => by simp [MKS]
  | b + 1 => by rw [← Nat.add_assoc, MKS, MKS, MKS_add m a b, List.append_assoc]
theorem MKS_at (m : Int) {k i : Nat} (hi : i < k) : HSH (MKS m k) i = MK m := by
  unfold HSH
  rw [show k = i + (1 + (k - i - 1)) by omega, MKS_add, MKS_add, List.drop_left' (by rw [MKS_length]), List.take_left' (by rw [MKS_length])]
  rfl
/-- the first j are marks. -/
def MKP (xs : List Value) (m : Int) (j : Nat) : List Value := CELLS (MKS m j) ++ xs.drop (32 * j)
theorem MKP_zero (xs : List Value) (m : Int) : MKP xs m 0 = xs := by simp [MKP, MKS, CELLS]
theorem MKP_all {xs : List Value} {n : Nat} (h : xs.length = 32 * n) (m : Int) : MKP xs m n = CELLS (MKS m n) := by
  unfold MKP
  rw [List.drop_of_length_le (by omega), List.append_nil]
theorem MKP_length {xs : List Value} {n j : Nat} (h : xs.length = 32 * n) (hj : j ≤ n) (m : Int) : (MKP xs m j).length = 32 * n := by
  unfold MKP
  rw [List.length_append, List.length_drop, CELLS, List.length_map, MKS_length]
  omega
theorem MKP_next {xs : List Value} {n j : Nat} (h : xs.length = 32 * n) (hj : j < n) (m : Int) : OVERW (MKP xs m j) (j * 32) (CELLS (MK m)) = MKP xs m (j + 1) := by
  have hl : (CELLS (MK m)).length = 32 := rfl
  have hk : (CELLS (MKS m j)).length = j * 32 := by rw [CELLS, List.length_map, MKS_length]; omega
  rw [OVERW_eq _ _ _ (by rw [MKP_length h (by omega), hl]; omega), hl]
  unfold MKP
  rw [List.take_left' hk, List.drop_append, List.drop_of_length_le (by omega), List.nil_append, hk, List.drop_drop, MKS, CELLS_append]
  rw [show 32 * j + (j * 32 + 32 - j * 32) = 32 * (j + 1) by omega]
theorem step_pure {o : Oper} {a : Act} {w w' : World} {K : Act → World → Prop} {Q : Exit → Act → World → Prop} {v : Value} (hrun : (execOp a.eval o).run Tryd.prog w = .ok (.value v) w') (h : K (a.put o.dst v) w') : Oper.wp Tryd.prog o a w K Q := by
  unfold Oper.wp
  rw [hrun]
  exact h
end Go.Proofs.YtmkgldjocigffaaDoor

/- s[k:] of a list of bytes, whatever room is left. -/
namespace Go.Proofs.YtmkgldjocigffaaDoor
open Go.RowKit
set_option maxRecDepth 100000

theorem slice_from {ops : Array Oper} {rest : List Oper} {o : Oper} {a : Act} {Q : Exit → Act → World → Prop} (w : World) (hgd : o.guard = none) (x y : Operand) (ho : o.op = .slice 38 x (some y) none none)
    (b off n c k : Nat) (hx : a.eval x = .slice (some ⟨b, off, none⟩) n c) (hy : a.eval y = .int .i64 (k : Int)) (hk : k ≤ n) (hc : n ≤ c)
    (h : wpList Tryd.prog ops Q rest (a.put o.dst (.slice (REST b off c k) (n - k) (c - k))) w) : wpList Tryd.prog ops Q (o :: rest) a w := by
  refine wpList_plain hgd fun K hK => step_pure ?_ (hK _ _ h)
  have k1 : (k : Int) ≤ (n : Int) := by omega
  have k2 : (n : Int) ≤ (c : Int) := by omega
  have k4 : (k : Int) ≤ (c : Int) := by omega
  have k5 : ¬ (k : Int) < 0 := by omega
  unfold execOp
  rw [ho]
  by_cases hck : c = k
  · have hr : REST b off c k = some ⟨b, off, none⟩ := by simp [REST, hck]
    have hn : n = k := by omega
    rw [hr]
    subst hck hn
    simp only [Option.map_some, Option.map_none, hx, hy]
    clear hx hy h ho hK hgd
    go_simp
  · have hr : REST b off c k = some ⟨b, off + k, none⟩ := by simp [REST, hck]
    have hc1 : ¬ c - k = 0 := by omega
    rw [hr]
    simp only [Option.map_some, Option.map_none, hx, hy]
    clear hx hy h ho hK hgd
    go_simp
end Go.Proofs.YtmkgldjocigffaaDoor

/- The reader of package span: the mark, a number. -/
namespace Go.Proofs.YtmkgldjocigffaaDoor
open Go.RowKit
set_option maxRecDepth 100000

/-- the reader rb has the bytes t left, and E is what is wrong; they lie as they lay in w0. -/
structure RD20 (w0 w : World) (rb : Nat) (E : Int) (t : List Int) : Prop where
  rd : ∃ a c, Has w rb #[.slice a t.length c, .int .i64 E] 76 ∧ SRC w0 a c t
  bel : Below w0.heap.size w0 w
  lb : w0.heap.size ≤ rb
theorem RD20.lt {w0 w : World} {rb : Nat} {E : Int} {t : List Int} (h : RD20 w0 w rb E t) : rb < w.heap.size := by
  obtain ⟨_, _, h1, _⟩ := h.rd
  exact h1.lt
theorem RD20.keep {w0 w w' : World} {rb : Nat} {E : Int} {t : List Int} (h : RD20 w0 w rb E t) (hb : Below w.heap.size w w') : RD20 w0 w' rb E t := by
  obtain ⟨a, c, h1, h2⟩ := h.rd
  exact ⟨⟨a, c, h1.keep hb, h2⟩, h.bel.trans (hb.mono h.bel.size), h.lb⟩
/-- another block is written to. -/
theorem RD20.other {w0 w w' : World} {rb pb : Nat} {E : Int} {t : List Int} (h : RD20 w0 w rb E t) (hs : STAY w w' pb) (hne : rb ≠ pb) (hp : w0.heap.size ≤ pb) : RD20 w0 w' rb E t := by
  obtain ⟨a, c, h1, h2⟩ := h.rd
  exact ⟨⟨a, c, hs.has h1 hne, h2⟩, h.bel.trans (hs.bl.mono hp), h.lb⟩
theorem RD20.moved {w0 w : World} {rb b off c k : Nat} {E : Int} {t : List Int} (h : RD20 w0 w rb E t) (hh : Has w rb #[.slice (some ⟨b, off, none⟩) t.length c, .int .i64 E] 76) (hs : SRC w0 (some ⟨b, off, none⟩) c t) (hk : k ≤ t.length) : RD20 w0 (w.setCell ⟨rb, 0, none⟩ (.slice (REST b off c k) (t.length - k) (c - k))) rb E (t.drop k) := by
  refine ⟨⟨_, _, ?_, hs.drop k hk⟩, h.bel.setCell (p := ⟨rb, 0, none⟩) h.lb _, h.lb⟩
  rw [List.length_drop]
  exact hh.set 0 _
theorem RD20.wrong {w0 w : World} {rb : Nat} {E : Int} {t : List Int} (h : RD20 w0 w rb E t) (E' : Int) : RD20 w0 (w.setCell ⟨rb, 1, none⟩ (.int .i64 E')) rb E' t := by
  obtain ⟨a, c, h1, h2⟩ := h.rd
  exact ⟨⟨a, c, h1.set 1 _, h2⟩, h.bel.setCell (p := ⟨rb, 1, none⟩) h.lb _, h.lb⟩
/-- what the mark leaves. -/
def K20 (l : List Int) : Int × List Int := if l.length = 0 then (11, l) else if l.getD 0 0 ≠ 83 then (14, l) else (0, l.drop 1)
/-- what a method leaves of the reader. -/
def RDS (w0 w : World) (rb : Nat) (E : Int) (t : List Int) (w' : World) : Prop := RD20 w0 w' rb E t ∧ STAY w w' rb
theorem skind_ok {w0 w : World} {rb : Nat} {l : List Int} (R : RD20 w0 w rb 0 l) : Calls Tryd.prog 59 #[.pointer (some ⟨rb, 0, none⟩)] w fun e w' => e = .returned (.tuple #[]) ∧ RDS w0 w rb (K20 l).1 (K20 l).2 w' := by
  obtain ⟨a, c, h1, h2⟩ := R.rd
  have x0 : w.cell? ⟨rb, 0, none⟩ = some (.slice a l.length c) := h1.cell 0
  have x1 : w.cell? ⟨rb, 1, none⟩ = some (.int .i64 0) := h1.cell 1
  have z0 : w.frozen? ⟨rb, 0, none⟩ = false := h1.frozen 0
  have z1 : w.frozen? ⟨rb, 1, none⟩ = false := h1.frozen 1
  by_cases hl : l.length = 0
  · have hK : K20 l = (11, l) := if_pos hl
    have FN : Aside (RDS w0 w rb 11 l (w.setCell ⟨rb, 1, none⟩ (.int .i64 11))) := ⟨R.wrong 11, STAY.set _ _ _ _⟩
    rw [hK]
    rw [hl] at x0
    clear R h1 h2 hK hl
    go_enter Tryd.func59, Tryd.ntmps59
    go_wp2
    exact bodyPost_ret (v := .tuple #[]) (by simp [results, Tryd.f59]) rfl ⟨rfl, FN.out⟩
  · obtain ⟨b, off, rfl, hb, hc⟩ := h2.addr (by omega)
    have y0 : w.cell? ⟨b, off, none⟩ = some (.int .u8 (l.getD 0 0)) := (R.bel.cell (p := ⟨b, off, none⟩) hb).trans (by have := hc 0 (by omega); rw [Nat.add_zero] at this; exact this)
    have hn0 : ¬ (l.length : Int) = 0 := by omega
    have hn1 : (0 : Int) < (l.length : Int) := by omega
    have hn2 : 0 < l.length := by omega
    have hcap : l.length ≤ c := h2.2.1
    by_cases hx : l.getD 0 0 = 83
    · have hK : K20 l = (0, l.drop 1) := by unfold K20; rw [if_neg hl, if_neg (fun h => h hx)]
      rw [hK]
      rw [hx] at y0
      have FN : Aside (RDS w0 w rb 0 (l.drop 1) (w.setCell ⟨rb, 0, none⟩ (.slice (REST b off c 1) (l.length - 1) (c - 1)))) := ⟨R.moved h1 h2 (by omega), STAY.set _ _ _ _⟩
      obtain ⟨a', ha'⟩ : ∃ a', REST b off c 1 = a' := ⟨_, rfl⟩
      rw [ha'] at FN
      obtain ⟨n, hn⟩ : ∃ n, l.length = n := ⟨_, rfl⟩
      rw [hn] at FN x0 hn0 hn1 hn2 hcap
      have k1 : (1 : Int) ≤ (n : Int) := by omega
      have k2 : (n : Int) ≤ (c : Int) := by omega
      by_cases h1 : c = 1
      · have HA : Aside (some ⟨b, off, none⟩ = a') := by
          rw [← ha']
          simp [REST, h1, Aside]
        obtain rfl : n = 1 := by omega
        subst h1
        clear ha' hn hx hl R h2 hK
        go_enter Tryd.func59, Tryd.ntmps59
        go_wp2
        have F2 := FN.out
        rw [← HA.out] at F2
        exact bodyPost_end (v := .tuple #[]) (by simp [results, Tryd.f59]) rfl ⟨rfl, F2⟩
      · have HA : Aside (some ⟨b, off + 1, none⟩ = a') := by
          rw [← ha']
          simp [REST, h1, Aside]
        have hc1 : ¬ c - 1 = 0 := by omega
        clear ha' hn hx hl R h2 hK
        go_enter Tryd.func59, Tryd.ntmps59
        go_wp2
        have F2 := FN.out
        rw [← HA.out] at F2
        exact bodyPost_end (v := .tuple #[]) (by simp [results, Tryd.f59]) rfl ⟨rfl, F2⟩
    · have hK : K20 l = (14, l) := by unfold K20; rw [if_neg hl, if_pos hx]
      rw [hK]
      have FN : Aside (RDS w0 w rb 14 l (w.setCell ⟨rb, 1, none⟩ (.int .i64 14))) := ⟨R.wrong 14, STAY.set _ _ _ _⟩
      generalize l.getD 0 0 = x at *
      generalize l.length = n at *
      clear R h1 h2 hK hl hb hc
      go_enter Tryd.func59, Tryd.ntmps59
      go_wp2
      exact bodyPost_ret (v := .tuple #[]) (by simp [results, Tryd.f59]) rfl ⟨rfl, FN.out⟩
/-- what is wrong with the number in front, which may be as great as most. -/
def SNE (t : List Int) (most : Nat) (bey : Int) : Int := if (LNG t).2.2 = 0 then (if (most : Int) < (LNG t).1 then bey else 0) else (LNG t).2.2
/-- what number answers, and what is left. -/
def NUM20 (E : Int) (t : List Int) (most : Nat) (bey : Int) (x : Nat) (E' : Int) (t' : List Int) : Prop :=
  x ≤ most ∧ ((E ≠ 0 ∧ x = 0 ∧ E' = E) ∨ (E = 0 ∧ SNE t most bey ≠ 0 ∧ x = 0 ∧ E' = SNE t most bey) ∨ (E = 0 ∧ SNE t most bey = 0 ∧ (x : Int) = (LNG t).1 ∧ E' = 0 ∧ t' = t.drop (LNG t).2.1.toNat))
set_option maxHeartbeats 1000000 in
theorem snumber_ok {w0 w : World} {rb : Nat} {E : Int} {t : List Int} (R : RD20 w0 w rb E t) (most : Nat) (bey : Int) (hbey : bey ≠ 0) : Calls Tryd.prog 60 #[.pointer (some ⟨rb, 0, none⟩), .int .u64 (most : Int), .int .i64 bey] w fun e w' => ∃ (x : Nat) (E' : Int) (t' : List Int), e = .returned (.int .u64 (x : Int)) ∧ NUM20 E t most bey x E' t' ∧ RDS w0 w rb E' t' w' := by
  obtain ⟨a, c, h1, h2⟩ := R.rd
  have x0 : w.cell? ⟨rb, 0, none⟩ = some (.slice a t.length c) := h1.cell 0
  have x1 : w.cell? ⟨rb, 1, none⟩ = some (.int .i64 E) := h1.cell 1
  have z0 : w.frozen? ⟨rb, 0, none⟩ = false := h1.frozen 0
  have z1 : w.frozen? ⟨rb, 1, none⟩ = false := h1.frozen 1
  by_cases hE : E = 0
  · subst hE
    have cl := long_ok a t.length c t w (h2.1.below R.bel) h2.2.1 (by have := h2.2.2; omega)
    rw [show LG t t.length 10 0 0 = LNG t from rfl] at cl
    have hS : SNE t most bey = if (LNG t).2.2 = 0 then (if (most : Int) < (LNG t).1 then bey else 0) else (LNG t).2.2 := rfl
    by_cases h3 : (LNG t).2.2 = 0
    · obtain ⟨Z, m, q1, q2, q3, q4, q5⟩ := LNG_back h2.1.2.2 h3
      rw [q4] at cl hS
      rw [if_pos rfl] at hS
      by_cases hZ : (most : Int) < (Z : Int)
      · rw [if_pos hZ] at hS
        have FN : Aside (∃ (x : Nat) (E' : Int) (t' : List Int), ((0 : Int) = (x : Int)) ∧ NUM20 0 t most bey x E' t' ∧ RDS w0 w rb E' t' (w.setCell ⟨rb, 1, none⟩ (.int .i64 bey))) := ⟨0, bey, t, rfl, ⟨Nat.zero_le _, .inr (.inl ⟨rfl, by rw [hS]; exact hbey, rfl, hS.symm⟩)⟩, R.wrong bey, STAY.set _ _ _ _⟩
        have hb' : (bey != 0) = true := by simp [hbey]
        clear R h1 h2 q1 q2 q3 q4 q5 h3 hS hbey
        go_enter Tryd.func60, Tryd.ntmps60
        go_wp2_with fail
        refine cl.mono ?_
        rintro e w' ⟨rfl, rfl⟩
        clear cl
        go_wp2
        go_ret
        obtain ⟨x, E', t', g1, g2, g3⟩ := FN.out
        exact ⟨x, E', t', by rw [← g1]; rfl, g2, g3⟩
      · rw [if_neg hZ] at hS
        obtain ⟨b, off, rfl, hb, hcs⟩ := h2.addr (by omega)
        have FN : Aside (∃ (x : Nat) (E' : Int) (t' : List Int), ((Z : Int) = (x : Int)) ∧ NUM20 0 t most bey x E' t' ∧ RDS w0 w rb E' t' (w.setCell ⟨rb, 0, none⟩ (.slice (REST b off c m) (t.length - m) (c - m)))) := ⟨Z, 0, t.drop m, rfl, ⟨by omega, .inr (.inr ⟨rfl, hS, by rw [q4], rfl, by rw [q4]; rfl⟩)⟩, R.moved h1 h2 q3, STAY.set _ _ _ _⟩
        have hk : m ≤ t.length := q3
        have hc : t.length ≤ c := h2.2.1
        generalize t.length = n at *
        clear R h1 h2 q1 q2 q3 q4 q5 h3 hS hbey hb hcs
        go_enter Tryd.func60, Tryd.ntmps60
        go_wp2_with fail
        refine cl.mono ?_
        rintro e w' ⟨rfl, rfl⟩
        clear cl
        go_wp2_with (first
          | (refine slice_from _ rfl (.tmp 42) (.tmp 43) rfl b off n c m rfl rfl hk hc ?_))
        go_ret
        obtain ⟨x, E', t', g1, g2, g3⟩ := FN.out
        exact ⟨x, E', t', by rw [← g1]; rfl, g2, g3⟩
    · rw [if_neg h3] at hS
      have FN : Aside (∃ (x : Nat) (E' : Int) (t' : List Int), ((0 : Int) = (x : Int)) ∧ NUM20 0 t most bey x E' t' ∧ RDS w0 w rb E' t' (w.setCell ⟨rb, 1, none⟩ (.int .i64 (LNG t).2.2))) := ⟨0, (LNG t).2.2, t, rfl, ⟨Nat.zero_le _, .inr (.inl ⟨rfl, by rw [hS]; exact h3, rfl, hS.symm⟩)⟩, R.wrong _, STAY.set _ _ _ _⟩
      generalize (LNG t).2.2 = r3 at *
      generalize (LNG t).2.1 = r2 at *
      generalize (LNG t).1 = r1 at *
      have hb' : (r3 != 0) = true := by simp [h3]
      have hb2 : (r3 == 0) = false := beq_eq_false_iff_ne.2 h3
      clear R h1 h2 hS hbey
      go_enter Tryd.func60, Tryd.ntmps60
      go_wp2_with fail
      refine cl.mono ?_
      rintro e w' ⟨rfl, rfl⟩
      clear cl
      go_wp2
      go_ret
      obtain ⟨x, E', t', g1, g2, g3⟩ := FN.out
      exact ⟨x, E', t', by rw [← g1]; rfl, g2, g3⟩
  · have hb' : (E != 0) = true := by simp [hE]
    have FN : Aside (NUM20 E t most bey 0 E t ∧ RDS w0 w rb E t w) := ⟨⟨Nat.zero_le _, .inl ⟨hE, rfl, rfl⟩⟩, R, STAY.refl _ _⟩
    clear R h1 h2
    go_enter Tryd.func60, Tryd.ntmps60
    go_wp2
    go_ret
    exact ⟨0, E, t, rfl, FN.out.1, FN.out.2⟩
end Go.Proofs.YtmkgldjocigffaaDoor

/- What the parts of the two readers of package proof answer. -/
namespace Go.Proofs.YtmkgldjocigffaaDoor
open Go.RowKit
set_option maxRecDepth 100000

end Go.Proofs.YtmkgldjocigffaaDoor

/- What Decode and DecodePrefix of package proof answer, of any bytes. -/
namespace Go.Proofs.YtmkgldjocigffaaDoor
open Go.RowKit
set_option maxRecDepth 100000

/-! member -/
/-! prefix -/
end Go.Proofs.YtmkgldjocigffaaDoor

/- What Decode and DecodePrefix of package proof answer, of any bytes. -/
namespace Go.Proofs.YtmkgldjocigffaaDoor
open Go.RowKit
set_option maxRecDepth 100000

end Go.Proofs.YtmkgldjocigffaaDoor

/- What is read stands in rows of one's own; families of such rows, none in another's block. -/
namespace Go.Proofs.YtmkgldjocigffaaDoor
open Go.RowKit
set_option maxRecDepth 100000

theorem own_of_has {w : World} {B g N : Nat} {l : List Int} (h : Has w g (CELLS l).toArray 60) (hl : l.length = 32 * N) (hB : B ≤ g) (hN : N ≤ 1000) : w.ownsRow B 60 32 (.slice (some ⟨g, 0, none⟩) N N) N (CELLS l) := by
  refine ⟨by rw [CELLS, List.length_map, hl, Nat.mul_comm], .inr ⟨g, N, _, rfl, hB, h, Nat.le_refl _, by simp [maxLen]; omega, ?_, ?_⟩⟩
  · simp [CELLS, hl, Nat.mul_comm]
  · rw [List.take_of_length_le (by simp [CELLS, hl]; omega)]
/-- M rows of one's own, of one kind, none in another's block, none in a block of K. -/
structure FAM (M : Nat) (t : TypeId) (s : Nat) (w : World) (B : Nat) (K : Nat → Prop) (v : Nat → Value) (n : Nat → Nat) (xs : Nat → List Value) : Prop where
  row : ∀ x, x < M → w.ownsRow B t s (v x) (n x) (xs x)
  apart : ∀ x y, x < M → y < M → x ≠ y → ∀ g, (v x).ownBlock = some g → (v y).ownBlock ≠ some g
  off : ∀ x, x < M → ∀ g, (v x).ownBlock = some g → ¬ K g
theorem FAM.below {M : Nat} {t : TypeId} {s : Nat} {w w' : World} {B : Nat} {K : Nat → Prop} {v : Nat → Value} {n : Nat → Nat} {xs : Nat → List Value} (h : FAM M t s w B K v n xs) (hb : Below w.heap.size w w') : FAM M t s w' B K v n xs := ⟨fun x hx => own_below (h.row x hx) hb, h.apart, h.off⟩
theorem FAM.heap {M : Nat} {t : TypeId} {s : Nat} {w w' : World} {B : Nat} {K : Nat → Prop} {v : Nat → Value} {n : Nat → Nat} {xs : Nat → List Value} (h : FAM M t s w B K v n xs) (hk : ∀ k, k < w.heap.size → ¬ K k → w'.heap[k]? = w.heap[k]?) : FAM M t s w' B K v n xs := ⟨fun x hx => own_heap (h.row x hx) fun k e => hk k ((h.row x hx).lt k e).2 (h.off x hx k e), h.apart, h.off⟩
end Go.Proofs.YtmkgldjocigffaaDoor

/- The reader of package span: the nodes. -/
namespace Go.Proofs.YtmkgldjocigffaaDoor
open Go.RowKit
set_option maxRecDepth 100000

/-- what nodes answers and leaves, of a span that needs M: how many, their bytes. -/
def NOD20 (E : Int) (t : List Int) (M : Nat) (K : Nat) (E' : Int) (l : List Int) : Prop :=
  (E ≠ 0 ∧ K = 0 ∧ E' = E ∧ l = []) ∨ (E = 0 ∧ t.length < 32 * M ∧ K = 0 ∧ E' = 11 ∧ l = []) ∨ (E = 0 ∧ 32 * M < t.length ∧ K = 0 ∧ E' = 13 ∧ l = []) ∨ (E = 0 ∧ t.length = 32 * M ∧ K = M ∧ E' = 0 ∧ l = t)
/-- what nodes answers. -/
def NDS20 (w0 w : World) (rb : Nat) (E : Int) (t : List Int) (M : Nat) (e : Ending) (w' : World) : Prop := ∃ (a : Option Addr) (K c : Nat) (E' : Int) (l t' : List Int), e = .returned (.slice a K c) ∧ NOD20 E t M K E' l ∧ w'.ownsRow w.heap.size 60 32 (.slice a K c) K (CELLS l) ∧ RDS w0 w rb E' t' w'
theorem own_noneh (w : World) (B : Nat) : w.ownsRow B 60 32 (.slice none 0 0) 0 (CELLS []) := World.ownsRow_nil _ _ _ _
set_option maxHeartbeats 4000000 in
theorem snodes_none {w0 w : World} {rb : Nat} {E : Int} {t : List Int} (R : RD20 w0 w rb E t) (hE : E ≠ 0) (F T S : Int) (M : Nat) : Calls Tryd.prog 61 #[.pointer (some ⟨rb, 0, none⟩), .int .u64 F, .int .u64 T, .int .u64 S] w (NDS20 w0 w rb E t M) := by
  obtain ⟨a, c, h1, h2⟩ := R.rd
  have x1 : w.cell? ⟨rb, 1, none⟩ = some (.int .i64 E) := h1.cell 1
  have hb' : (E != 0) = true := by simp [hE]
  have FN : Aside (NDS20 w0 w rb E t M (.returned (.slice none 0 0)) w) := ⟨none, 0, 0, E, [], t, rfl, .inl ⟨hE, rfl, rfl, rfl⟩, own_noneh _ _, R, STAY.refl _ _⟩
  clear R h1 h2
  go_enter Tryd.func61, Tryd.ntmps61
  go_wp2
  go_ret
  exact FN.out
set_option maxHeartbeats 4000000 in
theorem snodes_ok {w0 w : World} {rb : Nat} {t : List Int} (R : RD20 w0 w rb 0 t) (F T S : Nat) (hS : S ≤ 4611686018427387904) (hF : F ≤ T) (hTS : T ≤ S) (hT : Tabled w) (hp0 : 0 < w.heap.size) : Calls Tryd.prog 61 #[.pointer (some ⟨rb, 0, none⟩), .int .u64 (F : Int), .int .u64 (T : Int), .int .u64 (S : Int)] w (NDS20 w0 w rb 0 t (SPP F T S).length) := by
  obtain ⟨a, c, h1, h2⟩ := R.rd
  have cp := spanplaces_ok F T S w hT hp0
  have e1 : SPE F T S = 0 := by unfold SPE; rw [if_neg (by omega), if_neg (by omega)]
  have e2 : SPA F T S = SPP F T S := by unfold SPA; rw [if_pos e1]
  have hfew := SPP_few (F := F) hS hTS
  rw [e1, e2] at cp
  unfold ANSP20 at cp
  generalize SPP F T S = P at *
  obtain ⟨M, hM⟩ : ∃ M, P.length = M := ⟨_, rfl⟩
  rw [hM] at cp hfew ⊢
  obtain ⟨n, hn⟩ : ∃ n, t.length = n := ⟨_, rfl⟩
  rw [hn] at h1
  have x1 : w.cell? ⟨rb, 1, none⟩ = some (.int .i64 0) := h1.cell 1
  have HR : Aside (RD20 w0 w rb 0 t ∧ Has w rb #[.slice a n c, .int .i64 0] 76 ∧ SRC w0 a c t ∧ t.length = n ∧ M ≤ 188) := ⟨R, h1, h2, hn, hfew⟩
  have eM : wrap64 (32 * (M : Int)) = ((32 * M : Nat) : Int) := by unfold wrap64; omega
  clear R h1 h2 hM hn hS hF hTS hT hp0 e1 e2 hfew
  go_enter Tryd.func61, Tryd.ntmps61
  go_wp2_with fail
  refine cp.mono ?_
  rintro e w1 ⟨a1, k1, rfl, _, hb1⟩
  clear cp x1
  have R1 : Aside (RD20 w0 w1 rb 0 t ∧ STAY w w1 rb ∧ Below w.heap.size w w1) := ⟨HR.out.1.keep hb1, STAY.of hb1 (Nat.le_of_lt HR.out.1.lt), hb1⟩
  have H1 := HR.out.2.1.keep hb1
  have x0 : w1.cell? ⟨rb, 0, none⟩ = some (.slice a n c) := H1.cell 0
  have x1 : w1.cell? ⟨rb, 1, none⟩ = some (.int .i64 0) := H1.cell 1
  have z1 : w1.frozen? ⟨rb, 1, none⟩ = false := H1.frozen 1
  have HH : Aside (Has w1 rb #[.slice a n c, .int .i64 0] 76) := H1
  clear hb1 H1
  rcases Nat.lt_trichotomy n (32 * M) with hlt | heq | hgt
  · have k1' : (n : Int) < ((32 * M : Nat) : Int) := by omega
    have FN : Aside (NDS20 w0 w rb 0 t M (.returned (.slice none 0 0)) (w1.setCell ⟨rb, 1, none⟩ (.int .i64 11))) := ⟨none, 0, 0, 11, [], t, rfl, .inr (.inl ⟨rfl, by rw [HR.out.2.2.2.1]; exact hlt, rfl, rfl, rfl⟩), own_noneh _ _, R1.out.1.wrong 11, R1.out.2.1.trans (STAY.set _ _ _ _)⟩
    clear hlt
    generalize 32 * M = LL at *
    go_wp2
    go_ret
    exact FN.out
  · have k1' : ¬ (n : Int) < ((32 * M : Nat) : Int) := by omega
    have k2' : ¬ ((32 * M : Nat) : Int) < (n : Int) := by omega
    obtain ⟨Z, hZ, hmk⟩ := make_hashes M (by have := HR.out.2.2.2.2; omega) w1
    obtain ⟨LL, hLL⟩ : ∃ LL, 32 * M = LL := ⟨_, rfl⟩
    rw [hLL] at eM k1' k2'
    have kd1 : decide (n < LL) = false := decide_eq_false (by omega)
    have kd2 : decide (LL < n) = false := decide_eq_false (by omega)
    have kn1 : ¬ n < LL := by omega
    have kn2 : ¬ LL < n := by omega
    have HA : Aside (t.length = 32 * M ∧ Z.length = 32 * M ∧ n = 32 * M ∧ n ≤ c ∧ Bytes w1 a n t ∧ rb < w1.heap.size) := ⟨by rw [HR.out.2.2.2.1]; exact heq, hZ, heq, by have := HR.out.2.2.1.2.1; have := HR.out.2.2.2.1; omega, by have h := HR.out.2.2.1.1.below R1.out.1.bel; rw [HR.out.2.2.2.1] at h; exact h, R1.out.1.lt⟩
    clear hZ heq hLL x1 z1
    go_wp2
    clear eM hmk x0
    go_loopg [54] M (fun q s54 wx => ∃ i : Nat, s54 = .int .i64 (i : Int) ∧ Aside (i + q = M ∧ Below w1.heap.size w1 wx ∧ w1.heap.size < wx.heap.size ∧ Has wx w1.heap.size (PARTH t Z i).toArray 60))
    case atStart => exact ⟨0, rfl, by omega, (Below.refl _ _).alloc (Nat.le_refl _) _, by simp, by rw [PARTH_zero]; exact Has.new _ _ _⟩
    case round =>
      obtain ⟨i, rfl, A⟩ := hrel
      obtain ⟨hi, hbel, hsz, hhas⟩ := A.out
      obtain ⟨a1, a2, a3, a4, a5, a6⟩ := HA.out
      cases gk with
      | zero =>
        obtain rfl : i = M := by omega
        have hlt : ¬ (i : Int) < (i : Int) := by omega
        have FN : Aside (NDS20 w0 w rb 0 t i (.returned (.slice (some ⟨w1.heap.size, 0, none⟩) i i)) wr) := by
          rw [PARTH_all a1 a2] at hhas
          exact ⟨_, i, i, 0, t, t, rfl, .inr (.inr (.inr ⟨rfl, a1, rfl, rfl, rfl⟩)), own_of_has hhas a1 R1.out.2.2.size (by have := HR.out.2.2.2.2; omega), R1.out.1.keep hbel, R1.out.2.1.trans (STAY.of hbel (Nat.le_of_lt R1.out.1.lt))⟩
        clear hi hbel hsz hhas a1 a2 a3 a4 a5 a6 A HA HR R1 HH
        go_wp2
        go_ret
        exact FN.out
      | succ q =>
        have hlt : (i : Int) < (M : Int) := by omega
        obtain ⟨b, o, rfl, hbl, hcs⟩ := a5.2.1 (by omega)
        have y0 : wr.cell? ⟨rb, 0, none⟩ = some (.slice (some ⟨b, o, none⟩) n c) := (hbel.cell (p := ⟨rb, 0, none⟩) a6).trans (HH.out.cell 0)
        obtain ⟨I, hI⟩ : ∃ I, i * 32 = I := ⟨_, rfl⟩
        have m2 : (I : Int) ≤ (n : Int) := by omega
        have m3 : (n : Int) ≤ (c : Int) := by omega
        have m4 : ¬ c = I := by omega
        have h32 : (CELLS (HSH t i)).length = 32 := by
          rw [CELLS, List.length_map]
          exact HSH_length a1 (by omega)
        have hsrc : ∀ j v, (CELLS (HSH t i))[j]? = some v → wr.cell? ((⟨b, o + I, none⟩ : Addr).add j) = some v := by
          intro j v hv
          have hj : j < 32 := by
            have := (List.getElem?_eq_some_iff.1 hv).1
            omega
          rw [CELLS_get _ _ (by rw [HSH_length a1 (by omega)]; exact hj), HSH_at hj] at hv
          rw [addr_add, show o + I + j = o + (32 * i + j) by omega]
          exact ((hbel.cell (p := ⟨b, o + (32 * i + j), none⟩) hbl).trans (hcs (32 * i + j) (by omega))).trans hv
        have hpl := PARTH_length a1 a2 (show i ≤ M by omega)
        have hnx := PARTH_next Z a1 (show i < M by omega)
        have hone := CELLS_one (HSH t i)
        have RR : Aside (i + 1 + q = M ∧ Below w1.heap.size w1 wr ∧ w1.heap.size < wr.heap.size ∧ Has wr w1.heap.size (PARTH t Z i).toArray 60 ∧ splice (PARTH t Z i) (i * 32) (CELLS (HSH t i)) = PARTH t Z (i + 1)) := ⟨by omega, hbel, hsz, hhas, hnx⟩
        have SS : Aside ((CELLS (HSH t i)).length = Nat.min (n - I) 32 ∧ i * 32 + (CELLS (HSH t i)).length ≤ (PARTH t Z i).length) := ⟨by rw [h32]; exact (Nat.min_eq_right (show 32 ≤ n - I by omega)).symm, by omega⟩
        have hM188 := HR.out.2.2.2.2
        have E2 : Aside (wrap64 (32 * (i : Int)) = (I : Int)) := by show wrap64 (32 * (i : Int)) = (I : Int); unfold wrap64; omega
        have E3 : Aside (IntKind.i64.wrap (32 * (i : Int)) = (I : Int)) := by show IntKind.i64.wrap (32 * (i : Int)) = (I : Int); rw [IntKind.wrap_i64]; omega
        have E1 : Aside (wrap64 ((i : Int) + 1) = ((i + 1 : Nat) : Int)) := by show wrap64 ((i : Int) + 1) = ((i + 1 : Nat) : Int); unfold wrap64; omega
        clear hi hbel hsz hhas a1 a2 a3 a4 a5 a6 A HA hbl hcs hpl hnx hI hM188 HR R1 HH
        generalize CELLS (HSH t i) = H at *
        have hu8 : (Tryd.prog.info? 5).map (·.size) = some 1 := by kernel_rfl
        have m1 := E2.out
        have m5 := E3.out
        go_wp2
        go_region_law (refine step_copy_splice rfl (.tmp 60) (.tmp 67) 38 38 rfl 5 Tryd.underlying38 hu8 (some ⟨w1.heap.size, i * 32, none⟩) (some ⟨b, o + I, none⟩) 32 32 (n - I) (c - I) (by simp [Act.eval, Act.put]) (by simp [Act.eval, Act.put]) w1.heap.size (i * 32) (PARTH t Z i) 60 (by exact RR.out.2.2.2.1) H SS.out.1 (fun _ => ⟨rfl, _, rfl, hsrc⟩) SS.out.2 hone w1.heap.size w1 (by exact RR.out.2.1.drew) (Nat.le_refl _) ?_; intro w4 hg4 hb4)
        have R2 : Aside (i + 1 + q = M ∧ Below w1.heap.size w1 w4 ∧ w1.heap.size < w4.heap.size ∧ Has w4 w1.heap.size (PARTH t Z (i + 1)).toArray 60) := by
          obtain ⟨r1, r2, r3, r4, r5⟩ := RR.out
          have hg5 : w4.heap[w1.heap.size]? = some (.cells (splice (PARTH t Z i) (i * 32) H).toArray 60 (0, 0)) := hg4
          rw [r5] at hg5
          exact ⟨r1, hb4, (Array.getElem?_eq_some_iff.1 hg5).1, hg5⟩
        clear RR SS hg4 hb4 hsrc hone h32 m1 m5 y0
        have e1 := E1.out
        go_wp2
        go_roundg q
        case measure => exact Nat.lt_succ_self _
        case rel => exact ⟨i + 1, by first | rfl | (rw [E1.out]), R2.out⟩
  · have k1' : ¬ (n : Int) < ((32 * M : Nat) : Int) := by omega
    have k2' : ((32 * M : Nat) : Int) < (n : Int) := by omega
    have FN : Aside (NDS20 w0 w rb 0 t M (.returned (.slice none 0 0)) (w1.setCell ⟨rb, 1, none⟩ (.int .i64 13))) := ⟨none, 0, 0, 13, [], t, rfl, .inr (.inr (.inl ⟨rfl, by rw [HR.out.2.2.2.1]; exact hgt, rfl, rfl, rfl⟩)), own_noneh _ _, R1.out.1.wrong 13, R1.out.2.1.trans (STAY.set _ _ _ _)⟩
    clear hgt
    generalize 32 * M = LL at *
    go_wp2
    go_ret
    exact FN.out
end Go.Proofs.YtmkgldjocigffaaDoor
