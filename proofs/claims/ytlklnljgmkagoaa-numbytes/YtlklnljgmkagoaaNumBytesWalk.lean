/- The law NumBytes: walked. -/
import Derived.Test.YtlklnljgmkagoaaNumRefLong
namespace Go.Proofs.Ytlklnljgmkagoaa
open Go.RowKit

/-- a row of bytes of the call's own. -/
def Own (w : World) (base g n cap : Nat) (l : List Int) : Prop := w.ownsRow base 5 1 (.slice (some ⟨g, 0, none⟩) n cap) n (CELLS l) ∧ g < w.heap.size ∧ base ≤ g
theorem Own.below {w w' : World} {base g n cap : Nat} {l : List Int} (h : Own w base g n cap l) (hb : Below w.heap.size w w') : Own w' base g n cap l :=
  ⟨h.1.kept (row := none) ⟨hb.os, hb.tape, hb.output, hb.size, fun k hk _ => hb.block k hk⟩ (Or.inr (by simp [Value.ownBlock])), Nat.lt_of_lt_of_le h.2.1 hb.size, h.2.2⟩
theorem Own.kept {w w' : World} {base g n cap g' : Nat} {l : List Int} (h : Own w base g n cap l) (hb : w.grownBy w' (some g')) (hne : g ≠ g') : Own w' base g n cap l :=
  ⟨h.1.kept hb (Or.inr (by simp [Value.ownBlock, hne])), Nat.lt_of_lt_of_le h.2.1 hb.size, h.2.2⟩
theorem own_of {w : World} {base g n cap : Nat} {l : List Int} (h : w.ownsRow base 5 1 (.slice (some ⟨g, 0, none⟩) n cap) n (CELLS l)) (hg : g < w.heap.size) : Own w base g n cap l := ⟨h, hg, (h.lt g rfl).1⟩
theorem Own.bytes {w : World} {base g n cap : Nat} {l : List Int} (h : Own w base g n cap l) (hl : ∀ x ∈ l, 0 ≤ x ∧ x ≤ 255) : Bytes w (some ⟨g, 0, none⟩) n l := own_bytes h.1 h.2.1 hl
theorem Own.front {w : World} {base g n cap v : Nat} {l : List Int} (h : Own w base g (n + 1) cap (l ++ [(v : Int)])) (hn : l.length = n) (hl : ∀ x ∈ l, 0 ≤ x ∧ x ≤ 255) (hv : v ≤ 255) : Bytes w (some ⟨g, 0, none⟩) n l ∧ w.cell? ⟨g, n, none⟩ = some (.int .u8 (v : Int)) ∧ (n : Int) + 1 ≤ (cap : Int) := by
  have hb := h.bytes (fun y hy => by
    rcases List.mem_append.1 hy with h | h
    · exact hl y h
    · simp at h; omega)
  have hc : n + 1 ≤ cap := by
    rcases h.1.2 with ⟨hv, _⟩ | ⟨_, _, _, hv, _, _, hc, _⟩
    · cases hv
    · simp only [Value.slice.injEq] at hv
      obtain ⟨_, _, rfl⟩ := hv
      exact hc
  obtain ⟨b, off, e, _, hcell⟩ := hb.2.1 (by omega)
  simp only [Option.some.injEq, Addr.mk.injEq] at e
  obtain ⟨rfl, rfl, _⟩ := e
  refine ⟨⟨hn, fun _ => ⟨g, 0, rfl, h.2.1, fun i hi => ?_⟩, hl⟩, ?_, by omega⟩
  · rw [hcell i (by omega)]
    congr 2
    rw [List.getD_eq_getElem?_getD, List.getElem?_append_left (by omega), ← List.getD_eq_getElem?_getD]
  · have := hcell n (by omega)
    rw [Nat.zero_add] at this
    rw [this]
    congr 2
    rw [List.getD_eq_getElem?_getD, List.getElem?_append_right (by omega), hn]
    simp
/-- one byte is appended. -/
theorem app_one {ops : Array Oper} {rest : List Oper} {o : Oper} {a : Act} {Q : Exit → Act → World → Prop} (w : World) (u : Nat) (hu : u ≤ 255) (hgd : o.guard = none) (s x : Operand)
    (ho : o.op = .call { callee := .builtin .append, args := #[s, x], argTypes := #[37, 37] })
    (base : Nat) (a0 : Option Addr) (n c0 : Nat) (xs : List Int) (hs : a.eval s = .slice a0 n c0) (hown : w.ownsRow base 5 1 (.slice a0 n c0) n (CELLS xs))
    (hx : a.eval x = .slice (some ⟨w.heap.size, 0, none⟩) 1 1) (hb : n + 1 ≤ 140737488355328) (hbase : base ≤ w.heap.size)
    (h : ∀ g cap w', Own w' base g (n + 1) cap (xs ++ [(u : Int)]) → (w.alloc (.cells #[.int .u8 (u : Int)] 5)).grownBy w' (Value.slice a0 n c0).ownBlock → ((Value.slice a0 n c0).ownBlock = some g ∨ w.heap.size < g) → wpList Try.prog ops Q rest (a.put o.dst (.slice (some ⟨g, 0, none⟩) (n + 1) cap)) w') : wpList Try.prog ops Q (o :: rest) a (w.alloc (.cells #[.int .u8 (u : Int)] 5)) := by
  obtain ⟨i, hi, hz, hs1, hby⟩ := info_parts_u8
  refine wpList_append_lies _ hgd s x 37 ho base 5 i (.int .u8 0) 1 1 Try.underlying37 hi hz hs1 hby rfl (by decide) _ n (CELLS xs) hs (hown.alloc _) ⟨w.heap.size, 0, none⟩ 1 1 (CELLS [(u : Int)]) hx (by simp [CELLS]) ?_ (CELLS_one _) (by omega) (by simp only [maxLen]; omega) (by omega) (by simp; omega) (w.heap.size + 1) (by simp) ?_
  · intro j y hj
    have hB := one_bytes w (u : Int) (by omega) (by omega)
    have hjl : j < 1 := by
      have := (List.getElem?_eq_some_iff.1 hj).1
      simpa [CELLS] using this
    obtain rfl : j = 0 := by omega
    rw [addr_add, World.cell?_alloc_at _ _ _ _ rfl]
    simpa [CELLS] using hj
  · intro g cap w' h1 h2 h3 h4
    rw [← CELLS_append] at h1
    refine h g cap w' (own_of h1 h4) h2 ?_
    rcases h3 with h3 | h3
    · exact Or.inl h3
    · exact Or.inr (by omega)

theorem step12 {w w11 w12 : World} {b6 b7 b8 g7 g8 g9 g12 K cap7 cap8 cap9 cap12 : Nat} {u : Int} {S L : List Int} (H : Below w.heap.size w w11 ∧ Own w11 b6 g7 K cap7 S ∧ Own w11 b7 g8 K cap8 S ∧ Own w11 b8 g9 K cap9 S ∧ g7 ≠ g8 ∧ g7 ≠ g9 ∧ g8 ≠ g9) (hb6 : w.heap.size ≤ b6)
    (h : Own w12 b6 g12 (K + 1) cap12 L) (hg : (w11.alloc (.cells #[.int .u8 u] 5)).grownBy w12 (some g7)) (hat : some g7 = some g12 ∨ w11.heap.size < g12) :
    Below w.heap.size w w12 ∧ Own w12 b6 g12 (K + 1) cap12 L ∧ Own w12 b7 g8 K cap8 S ∧ Own w12 b8 g9 K cap9 S ∧ g12 ≠ g8 ∧ g8 ≠ g9 := by
  obtain ⟨hb, h7, h8, h9, n78, n79, n89⟩ := H
  have E : Below w11.heap.size w11 (w11.alloc (.cells #[.int .u8 u] 5)) := (Below.refl _ _).alloc (Nat.le_refl _) _
  refine ⟨(hb.alloc hb.size _).grown hg (by have := hb.size; simp; omega) (fun k e => by cases e; have := h7.2.2; omega), h, (h8.below E).kept hg (fun e => n78 e.symm), (h9.below E).kept hg (fun e => n79 e.symm), ?_, n89⟩
  rcases hat with hat | hat
  · cases hat
    exact n78
  · have := h8.2.1
    omega
theorem step13 {w w12 w13 : World} {b6 b7 b8 g8 g9 g12 g13 K cap8 cap9 cap12 cap13 : Nat} {u : Int} {S L L' : List Int} (H : Below w.heap.size w w12 ∧ Own w12 b6 g12 (K + 1) cap12 L ∧ Own w12 b7 g8 K cap8 S ∧ Own w12 b8 g9 K cap9 S ∧ g12 ≠ g8 ∧ g8 ≠ g9) (hb7 : w.heap.size ≤ b7)
    (h : Own w13 b7 g13 (K + 1) cap13 L') (hg : (w12.alloc (.cells #[.int .u8 u] 5)).grownBy w13 (some g8)) :
    Below w.heap.size w w13 ∧ Own w13 b6 g12 (K + 1) cap12 L ∧ Own w13 b7 g13 (K + 1) cap13 L' ∧ Own w13 b8 g9 K cap9 S := by
  obtain ⟨hb, h12, h8, h9, n128, n89⟩ := H
  have E : Below w12.heap.size w12 (w12.alloc (.cells #[.int .u8 u] 5)) := (Below.refl _ _).alloc (Nat.le_refl _) _
  exact ⟨(hb.alloc hb.size _).grown hg (by have := hb.size; simp; omega) (fun k e => by cases e; have := h8.2.2; omega), (h12.below E).kept hg n128, h, (h9.below E).kept hg (fun e => n89 e.symm)⟩

set_option maxRecDepth 100000 in
set_option maxHeartbeats 8000000 in
theorem numBytes_core (x n er v ev r1 r2 r3 : Int) (m nb c K : Nat) (lb l S : List Int) (a : Option Addr) (w : World)
    (cBig : ∀ w, Calls Try.prog 31 #[.int .u64 x, .int .i64 n] w fun e w' => ∃ a c, e = .returned (.tuple #[.slice a m c, .int .i64 er]) ∧ Bytes w' a m lb ∧ Below w.heap.size w w')
    (cRBig : ∀ w, Calls Try.prog 32 #[.int .u64 x, .int .i64 n] w fun e w' => ∃ a c, e = .returned (.tuple #[.slice a m c, .int .i64 er]) ∧ Bytes w' a m lb ∧ Below w.heap.size w w')
    (HM : Aside (m ≤ 8)) (HB : Aside (Bytes w a nb l ∧ (a = none → c = 0) ∧ nb ≤ 140737488351232)) (hnb : (nb : Int) ≤ 140737488351232)
    (cFB : Aside (∀ w a c, Bytes w a nb l → Calls Try.prog 34 #[.slice a nb c] w fun e w' => e = .returned (.tuple #[.int .u64 v, .int .i64 ev]) ∧ w = w'))
    (cRFB : Aside (∀ w a c, Bytes w a nb l → Calls Try.prog 35 #[.slice a nb c] w fun e w' => e = .returned (.tuple #[.int .u64 v, .int .i64 ev]) ∧ w = w'))
    (cL : Aside (∀ w a c, Bytes w a nb l → nb ≤ c → Calls Try.prog 36 #[.slice a nb c] w fun e w' => e = .returned (.tuple #[.int .u64 r1, .int .i64 r2, .int .i64 r3]) ∧ w = w'))
    (cRL : Aside (∀ w a c, Bytes w a nb l → Calls Try.prog 37 #[.slice a nb c] w fun e w' => e = .returned (.tuple #[.int .u64 r1, .int .i64 r2, .int .i64 r3]) ∧ w = w'))
    (cS : ∀ w, Calls Try.prog 38 #[.int .u64 x] w fun e w' => ∃ g cap, e = .returned (.slice (some ⟨g, 0, none⟩) K cap) ∧ w'.ownsRow w.heap.size 5 1 (.slice (some ⟨g, 0, none⟩) K cap) K (CELLS S) ∧ g < w'.heap.size ∧ Below w.heap.size w w')
    (cRS : ∀ w, Calls Try.prog 39 #[.int .u64 x] w fun e w' => ∃ g cap, e = .returned (.slice (some ⟨g, 0, none⟩) K cap) ∧ w'.ownsRow w.heap.size 5 1 (.slice (some ⟨g, 0, none⟩) K cap) K (CELLS S) ∧ g < w'.heap.size ∧ Below w.heap.size w w')
    (HS : Aside ((∀ y ∈ S, 0 ≤ y ∧ y ≤ 255) ∧ 1 ≤ K ∧ K ≤ 10)) (hK1 : 1 ≤ (K : Int)) (hK10 : (K : Int) ≤ 10) :
    Calls Try.prog 7 #[.int .u64 x, .int .i64 n, .slice a nb c] w fun e w' => e = .returned (.bool true) ∧ Below w.heap.size w w' := by
  go_enter Try.func7, Try.ntmps7
  go_wp2_with fail
  refine (cBig _).mono ?_
  rintro e w1 ⟨a1, c1, rfl, hB1, hb1⟩
  have H1 : Aside (Bytes w1 a1 m lb ∧ Below w.heap.size w w1) := ⟨hB1, hb1⟩
  clear hB1 hb1
  go_wp2_with fail
  refine (cRBig _).mono ?_
  rintro e w2 ⟨a2, c2, rfl, hB2, hb2⟩
  have H2 : Aside (Bytes w2 a1 m lb ∧ Bytes w2 a2 m lb ∧ Below w.heap.size w w2) := ⟨H1.out.1.below hb2, hB2, H1.out.2.trans (hb2.mono H1.out.2.size)⟩
  clear hB2 hb2 H1
  go_wp2_with fail
  refine (same_ok a1 a2 m c1 c2 lb _ H2.out.1 H2.out.2.1 (by have := HM.out; omega)).mono ?_
  rintro e w3 ⟨rfl, hb3, hs3⟩
  have H3 : Aside (Below w.heap.size w w3) := H2.out.2.2.trans (hb3.mono H2.out.2.2.size)
  clear hb3 hs3 H2
  have E1 : Below w3.heap.size w3 (w3.alloc (.cells #[] 5)) := (Below.refl _ _).alloc (Nat.le_refl _) _
  have HE1 : Aside (Bytes (w3.alloc (.cells #[] 5)) a nb l) := (HB.out.1.below H3.out).below E1
  have HE2 : Aside (∀ w4, (w3.alloc (.cells #[] 5)).grownBy w4 (some w3.heap.size) → Below w3.heap.size w3 w4) := fun w4 h => E1.grown h (by simp) (fun k e => by cases e; exact Nat.le_refl _)
  clear E1
  go_wp2_with (first | (at_builtin; refine app_any _ rfl (.tmp 46) (.tmp 47) rfl w3.heap.size _ 0 [] rfl (own_empty w3 _ (Nat.le_refl _)) a nb c l rfl HE1.out HB.out.2.1 nb l (by omega) rfl (by have := HB.out.2.2; omega) (by simp) ?_; intro a4 c4 w4 hown4 hgrow4) | (at_builtin; refine app_one w4 171 (by decide) rfl (.tmp 48) (.tmp 49) rfl w3.heap.size a4 nb c4 l rfl hown4 rfl (by have := HB.out.2.2; omega) (by have := (HE2.out _ hgrow4).size; omega) ?_; intro g5 cap5 w5 hown5 hgrow5 hat5; have hcap5 := (hown5.front HB.out.1.1 HB.out.1.2.2 (by decide)).2.2))
  have hfr := hown5.front HB.out.1.1 HB.out.1.2.2 (by decide)
  have hb4 := HE2.out _ hgrow4
  have hb35 : Below w3.heap.size w3 w5 := (hb4.alloc hb4.size _).grown hgrow5 (by have := hb4.size; simp; omega) (fun k e => (hown4.lt k e).1)
  have hb5 : Below w.heap.size w w5 := H3.out.trans (hb35.mono H3.out.size)
  have H5 : Aside (Below w.heap.size w w5 ∧ Bytes w5 (some ⟨g5, 0, none⟩) nb l ∧ Bytes w5 a nb l ∧ w5.cell? ⟨g5, nb, none⟩ = some (.int .u8 171) ∧ g5 < w5.heap.size) := ⟨hb5, hfr.1, HB.out.1.below hb5, hfr.2.1, hown5.2.1⟩
  clear hfr hb4 hb35 hb5 hown4 hgrow4 hown5 hgrow5 hat5 H3 HE1 HE2
  refine (cFB.out w5 _ cap5 H5.out.2.1).mono ?_
  rintro e w' ⟨rfl, rfl⟩
  go_wp2_with fail
  refine (cRFB.out w5 a c H5.out.2.2.1).mono ?_
  rintro e w' ⟨rfl, rfl⟩
  go_wp2_with fail
  refine (cL.out w5 _ cap5 H5.out.2.1 (by omega)).mono ?_
  rintro e w' ⟨rfl, rfl⟩
  go_wp2_with fail
  refine (cRL.out w5 a c H5.out.2.2.1).mono ?_
  rintro e w' ⟨rfl, rfl⟩
  go_wp2_with fail
  refine (same_ok _ a nb cap5 c l w5 H5.out.2.1 H5.out.2.2.1 (by have := HB.out.2.2; omega)).mono ?_
  rintro e w6 ⟨rfl, hb6, hs6⟩
  have hc6 : w6.cell? ⟨g5, nb, none⟩ = some (.int .u8 171) := (hb6.cell (by exact H5.out.2.2.2.2)).trans H5.out.2.2.2.1
  have H6 : Aside (Below w.heap.size w w6) := H5.out.1.trans (hb6.mono H5.out.1.size)
  clear hb6 hs6 H5
  go_wp2_with fail
  clear hc6 hcap5
  refine (cS _).mono ?_
  rintro e w7 ⟨g7, cap7, rfl, ho7, hg7, hb7⟩
  have H7 : Aside (Below w.heap.size w w7 ∧ Own w7 w6.heap.size g7 K cap7 S) := ⟨H6.out.trans (hb7.mono H6.out.size), own_of ho7 hg7⟩
  have HW6 : Aside (w.heap.size ≤ w6.heap.size ∧ w.heap.size ≤ w7.heap.size) := ⟨H6.out.size, H7.out.1.size⟩
  clear ho7 hg7 hb7 H6
  go_wp2_with fail
  refine (cS _).mono ?_
  rintro e w8 ⟨g8, cap8, rfl, ho8, hg8, hb8⟩
  have H8 : Aside (Below w.heap.size w w8 ∧ Own w8 w6.heap.size g7 K cap7 S ∧ Own w8 w7.heap.size g8 K cap8 S ∧ g7 ≠ g8) := by
    have h8 := own_of ho8 hg8
    exact ⟨H7.out.1.trans (hb8.mono H7.out.1.size), H7.out.2.below hb8, h8, by have := H7.out.2.2.1; have := h8.2.2; omega⟩
  clear ho8 hg8 hb8 H7
  go_wp2_with fail
  refine (cRS _).mono ?_
  rintro e w9 ⟨g9, cap9, rfl, ho9, hg9, hb9⟩
  have H9 : Aside (Below w.heap.size w w9 ∧ Own w9 w6.heap.size g7 K cap7 S ∧ Own w9 w7.heap.size g8 K cap8 S ∧ Own w9 w8.heap.size g9 K cap9 S ∧ g7 ≠ g8 ∧ g7 ≠ g9 ∧ g8 ≠ g9) := by
    have h9 := own_of ho9 hg9
    exact ⟨H8.out.1.trans (hb9.mono H8.out.1.size), H8.out.2.1.below hb9, H8.out.2.2.1.below hb9, h9, H8.out.2.2.2, by have := H8.out.2.1.2.1; have := h9.2.2; omega, by have := H8.out.2.2.1.2.1; have := h9.2.2; omega⟩
  clear ho9 hg9 hb9 H8
  go_wp2_with fail
  refine (same_ok _ _ K cap7 cap9 S w9 (H9.out.2.1.bytes HS.out.1) (H9.out.2.2.2.1.bytes HS.out.1) (by omega)).mono ?_
  rintro e w10 ⟨rfl, hb10, hs10⟩
  have H10 : Aside (Below w.heap.size w w10 ∧ Own w10 w6.heap.size g7 K cap7 S ∧ Own w10 w7.heap.size g8 K cap8 S ∧ Own w10 w8.heap.size g9 K cap9 S ∧ g7 ≠ g8 ∧ g7 ≠ g9 ∧ g8 ≠ g9) :=
    ⟨H9.out.1.trans (hb10.mono H9.out.1.size), H9.out.2.1.below hb10, H9.out.2.2.1.below hb10, H9.out.2.2.2.1.below hb10, H9.out.2.2.2.2⟩
  clear hb10 hs10 H9
  go_wp2_with fail
  refine (same_ok _ _ K cap8 cap9 S w10 (H10.out.2.2.1.bytes HS.out.1) (H10.out.2.2.2.1.bytes HS.out.1) (by omega)).mono ?_
  rintro e w11 ⟨rfl, hb11, hs11⟩
  have H11 : Aside (Below w.heap.size w w11 ∧ Own w11 w6.heap.size g7 K cap7 S ∧ Own w11 w7.heap.size g8 K cap8 S ∧ Own w11 w8.heap.size g9 K cap9 S ∧ g7 ≠ g8 ∧ g7 ≠ g9 ∧ g8 ≠ g9) :=
    ⟨H10.out.1.trans (hb11.mono H10.out.1.size), H10.out.2.1.below hb11, H10.out.2.2.1.below hb11, H10.out.2.2.2.1.below hb11, H10.out.2.2.2.2⟩
  clear hb11 hs11 H10
  have HSl : Aside (S.length = K) := (H11.out.2.1.bytes HS.out.1).1
  go_wp2_with (first | (at_builtin; refine app_one w11 1 (by decide) rfl (.tmp 131) (.tmp 132) rfl w6.heap.size (some ⟨g7, 0, none⟩) K cap7 S rfl H11.out.2.1.1 rfl (by omega) (by have := H11.out.2.1.2; omega) ?_; intro g12 cap12 w12 ho12 hgr12 hat12) | (at_builtin; refine app_one w12 2 (by decide) rfl (.tmp 134) (.tmp 135) rfl w7.heap.size (some ⟨g8, 0, none⟩) K cap8 S rfl (step12 H11.out HW6.out.1 ho12 hgr12 hat12).2.2.1.1 rfl (by omega) (by have := (step12 H11.out HW6.out.1 ho12 hgr12 hat12).2.2.1.2; omega) ?_; intro g13 cap13 w13 ho13 hgr13 hat13; have H13 := step13 (step12 H11.out HW6.out.1 ho12 hgr12 hat12) HW6.out.2 ho13 hgr13; have f1 := H13.2.1.front HSl.out HS.out.1 (by decide); have f2 := H13.2.2.1.front HSl.out HS.out.1 (by decide); have hc1 : w13.cell? ⟨g12, K, none⟩ = some (.int .u8 1) := f1.2.1; have hc2 : w13.cell? ⟨g13, K, none⟩ = some (.int .u8 2) := f2.2.1; have hk1 := f1.2.2; have hk2 := f2.2.2; have H14 : Aside (Below w.heap.size w w13 ∧ Bytes w13 (some ⟨g12, 0, none⟩) K S ∧ Own w13 w8.heap.size g9 K cap9 S) := ⟨H13.1, f1.1, H13.2.2.2⟩; clear f1 f2 H13 ho12 hgr12 hat12 ho13 hgr13 hat13 H11))
  refine (same_ok _ _ K cap12 cap9 S w13 H14.out.2.1 (H14.out.2.2.bytes HS.out.1) (by omega)).mono ?_
  rintro e w14 ⟨rfl, hb14, hs14⟩
  have H15 : Aside (Below w.heap.size w w14 ∧ Own w14 w8.heap.size g9 K cap9 S) := ⟨H14.out.1.trans (hb14.mono H14.out.1.size), H14.out.2.2.below hb14⟩
  clear hb14 hs14 H14 hc1 hc2 hk1 hk2
  go_wp2_with fail
  refine (cS _).mono ?_
  rintro e w15 ⟨g15, cap15, rfl, ho15, hg15, hb15⟩
  have H16 : Aside (Below w.heap.size w w15 ∧ Own w15 w8.heap.size g9 K cap9 S ∧ Own w15 w14.heap.size g15 K cap15 S) := ⟨H15.out.1.trans (hb15.mono H15.out.1.size), H15.out.2.below hb15, own_of ho15 hg15⟩
  clear ho15 hg15 hb15 H15
  go_wp2_with fail
  refine (same_ok _ _ K cap15 cap9 S w15 (H16.out.2.2.bytes HS.out.1) (H16.out.2.1.bytes HS.out.1) (by omega)).mono ?_
  rintro e w16 ⟨rfl, hb16, hs16⟩
  have H17 : Aside (Below w.heap.size w w16) := H16.out.1.trans (hb16.mono H16.out.1.size)
  clear hb16 hs16 H16
  go_wp2_with fail
  refine (awake_ok _).mono ?_
  rintro e w17 ⟨rfl, hg, hb⟩
  go_wp2
  go_ret
  exact ⟨rfl, H17.out.trans (hb.mono H17.out.size)⟩

theorem bytes_nil (w : World) (a : Option Addr) : Bytes w a 0 [] := ⟨rfl, fun h => by omega, fun x hx => by simp at hx⟩
theorem byte_list (X n : Nat) : ∃ l : List Int, l.length = n ∧ (∀ i, i < n → BYTE X n i = l.getD i 0) ∧ ∀ y ∈ l, 0 ≤ y ∧ y ≤ 255 := by
  refine ⟨(List.range n).map (BYTE X n), by simp, fun i hi => ?_, fun y hy => ?_⟩
  · simp [List.getD_eq_getElem?_getD, hi]
  · simp only [List.mem_map] at hy
    obtain ⟨i, _, rfl⟩ := hy
    unfold BYTE
    omega
theorem big_both (X : Nat) (n : Int) (hX : X < 2 ^ 64) : ∃ (m : Nat) (lb : List Int) (er : Int), m ≤ 8 ∧
    (∀ w, Calls Try.prog 31 #[.int .u64 (X : Int), .int .i64 n] w fun e w' => ∃ a c, e = .returned (.tuple #[.slice a m c, .int .i64 er]) ∧ Bytes w' a m lb ∧ Below w.heap.size w w') ∧
    (∀ w, Calls Try.prog 32 #[.int .u64 (X : Int), .int .i64 n] w fun e w' => ∃ a c, e = .returned (.tuple #[.slice a m c, .int .i64 er]) ∧ Bytes w' a m lb ∧ Below w.heap.size w w') := by
  by_cases h : n < 0 ∨ 8 < n
  · refine ⟨0, [], 1, by decide, fun w => (big_arg X n h w).mono ?_, fun w => (refbig_arg X n h w).mono ?_⟩
    · rintro e w' ⟨rfl, rfl⟩
      exact ⟨none, 0, rfl, bytes_nil _ _, Below.refl _ _⟩
    · rintro e w' ⟨rfl, rfl⟩
      exact ⟨none, 0, rfl, bytes_nil _ _, Below.refl _ _⟩
  · obtain ⟨N, rfl⟩ : ∃ N : Nat, n = (N : Int) := ⟨n.toNat, by omega⟩
    by_cases h0 : X / 2 ^ (8 * N) = 0
    · obtain ⟨lb, hl, hb, hr⟩ := byte_list X N
      refine ⟨N, lb, 0, by omega, fun w => (big_ok X N hX (by omega) h0 w).mono ?_, fun w => (refbig_any X N hX (by omega) (.slice (some ⟨w.heap.size, 0, none⟩) N N) 0 w (fun w0 e => ⟨fun _ => ⟨by rw [e], rfl⟩, fun hne => absurd h0 hne⟩)).mono ?_⟩
      · rintro e w' ⟨rfl, rfl⟩
        exact ⟨_, N, rfl, row_bytes w N _ lb hl hb hr, (Below.refl _ _).alloc (Nat.le_refl _) _⟩
      · rintro e w' ⟨rfl, rfl⟩
        exact ⟨_, N, rfl, row_bytes w N _ lb hl hb hr, (Below.refl _ _).alloc (Nat.le_refl _) _⟩
    · refine ⟨0, [], 10, by decide, fun w => (big_range X N hX (by omega) h0 w).mono ?_, fun w => (refbig_any X N hX (by omega) (.slice none 0 0) 10 w (fun w0 e => ⟨fun h => absurd h h0, fun _ => ⟨rfl, rfl⟩⟩)).mono ?_⟩
      · rintro e w' ⟨rfl, rfl⟩
        exact ⟨none, 0, rfl, bytes_nil _ _, Below.refl _ _⟩
      · rintro e w' ⟨rfl, rfl⟩
        exact ⟨none, 0, rfl, bytes_nil _ _, (Below.refl _ _).alloc (Nat.le_refl _) _⟩
theorem frombig_both (nb : Nat) (l : List Int) : ∃ v ev : Int,
    (∀ w a c, Bytes w a nb l → Calls Try.prog 34 #[.slice a nb c] w fun e w' => e = .returned (.tuple #[.int .u64 v, .int .i64 ev]) ∧ w = w') ∧
    (∀ w a c, Bytes w a nb l → Calls Try.prog 35 #[.slice a nb c] w fun e w' => e = .returned (.tuple #[.int .u64 v, .int .i64 ev]) ∧ w = w') := by
  by_cases h : nb ≤ 8
  · exact ⟨BIGV l, 0, fun w a c hB => frombig_raw a nb c l _ rfl w hB h, fun w a c hB => reffrombig_raw a nb c l _ rfl w hB h⟩
  · exact ⟨0, 2, fun w a c _ => frombig_long a nb c (by omega) w, fun w a c _ => reffrombig_long a nb c (by omega) w⟩
theorem numBytes_walk (a0 : Int) (a1 : Int) (a2 : Option Addr) (len2 cap2 : Nat) (z2 : List Int) (w : World) (w0 : (Lit.int .u64 a0).wf = true) (w2 : IsRow .u8 w a2 len2 cap2 z2) (s2 : cap2 ≤ 140737488351232) :
    Calls Try.prog 7 #[.int .u64 a0, .int .i64 a1, .slice a2 len2 cap2] w fun e w' => e = .returned (.bool true) ∧ Below w.heap.size w w' := by
  have b0 := wf_u64 w0
  obtain ⟨X, rfl⟩ : ∃ X : Nat, a0 = (X : Int) := ⟨a0.toNat, by omega⟩
  have hX : X < 2 ^ 64 := by omega
  have hB := w2.bytes
  have hc : (a2 = none → cap2 = 0) ∧ len2 ≤ cap2 := by
    rcases w2 with ⟨_, rfl, rfl, _⟩ | ⟨x, rfl, hl, _⟩
    · exact ⟨fun _ => rfl, Nat.le_refl _⟩
    · exact ⟨fun h => (by cases h), hl⟩
  obtain ⟨m, lb, er, hm, cBig, cRBig⟩ := big_both X a1 hX
  obtain ⟨v, ev, cFB, cRFB⟩ := frombig_both len2 (z2.take len2)
  have hN := NTOP_le X
  exact numBytes_core X a1 er v ev _ _ _ m len2 cap2 (NTOP X + 1) lb (z2.take len2) (SHORT X) a2 w cBig cRBig hm ⟨hB, hc.1, by omega⟩ (by omega) cFB cRFB (fun w a c hB hc => long_ok a len2 c _ w hB hc (by omega)) (fun w a c hB => reflong_ok a len2 c _ w hB (by omega)) (fun w => short_ok X hX w) (fun w => refshort_ok X hX w) ⟨SHORT_range hX, by omega, by omega⟩ (by omega) (by omega)
end Go.Proofs.Ytlklnljgmkagoaa
