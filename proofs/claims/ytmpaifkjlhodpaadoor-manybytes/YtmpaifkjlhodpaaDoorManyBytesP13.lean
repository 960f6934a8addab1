/- Texts of ManyBytes, one behind the other: ManyWhole, ManyDecodePlain, CutRefSpan, ProofRefPlaces, ProofLists, RegionSteps, ProofCells. -/
import Derived.Test.YtmpaifkjlhodpaaDoorProg
import Derived.WalkKit
import Derived.WalkLawsBesides
import Derived.Deep.RegionHeld3
import Derived.Deep.CutRange
import Derived.Deep.MidRow
import Derived.Great.BuildSlice
import Derived.ChangeKeysEq
import Derived.Test.YtmpaifkjlhodpaaDoorManyBytesP6
import Derived.Test.YtmpaifkjlhodpaaDoorManyBytesP8
import Derived.Test.YtmpaifkjlhodpaaDoorManyBytesP11
import Derived.Test.YtmpaifkjlhodpaaDoorManyBytesP12
/- mustBeWhole of package many: it gives up where a proof has other leaves than there are, or other nodes than they need. -/
namespace Go.Proofs.YtmpaifkjlhodpaaDoor
open Go.RowKit
set_option maxRecDepth 100000

/-- the number in bl is how many of K are left behind acc. -/
structure COUNTING (K : Nat) (w0 w : World) (bl : Nat) (acc : List Nat) : Prop where
  le : acc.length ≤ K
  row : Has w bl #[.int .i64 ((K - acc.length : Nat) : Int)] 3
  keep : ∀ b, b < w0.heap.size → b ≠ bl → w.heap[b]? = w0.heap[b]?
  lt : bl < w0.heap.size
  below : Below bl w0 w
theorem COUNTING.still {K : Nat} {w0 w w' : World} {bl : Nat} {acc : List Nat} (h : COUNTING K w0 w bl acc) (hb : Below w.heap.size w w') : COUNTING K w0 w' bl acc := by
  have hs := h.below.size
  have hlt := h.lt
  exact ⟨h.le, h.row.keep hb, fun b hb0 hne => (hb.block b (by omega)).trans (h.keep b hb0 hne), hlt, h.below.trans (hb.mono (by omega))⟩
set_option maxHeartbeats 1000000 in
theorem count_ok {K : Nat} {w0 w : World} {bl : Nat} {acc : List Nat} (hK20 : K < 2 ^ 20) (hK : COUNTING K w0 w bl acc) (p : Int) : Calls Tryd.prog 49 #[.int .u64 p, .pointer (some ⟨bl, 0, none⟩)] w fun e w' => (e = .returned (.tuple #[]) ∧ ∀ x, COUNTING K w0 w' bl (acc ++ [x])) ∨ (e = .panicked (WRONG 70) ∧ acc.length = K ∧ COUNTING K w0 w' bl acc) := by
  obtain ⟨r, hr⟩ : ∃ r, K - acc.length = r := ⟨_, rfl⟩
  have c0 := hK.row.cell 0
  have f0 := hK.row.frozen 0
  rw [hr] at c0
  have c0 : w.cell? ⟨bl, 0, none⟩ = some (.int .i64 (r : Int)) := c0
  have HA : Aside (COUNTING K w0 w bl acc ∧ K - acc.length = r ∧ K < 2 ^ 20) := ⟨hK, hr, hK20⟩
  clear hK hr hK20
  rcases Nat.eq_zero_or_pos r with h0 | h0
  · subst h0
    go_enter Tryd.func49, Tryd.ntmps49
    go_wp2_with fail
    exact ⟨rfl, .inr ⟨rfl, by have := HA.out.1.le; have := HA.out.2.1; omega, HA.out.1⟩⟩
  · have hz : ((r : Int) == 0) = false := beq_eq_false_iff_ne.2 (by omega)
    have e1 : wrap64 ((r : Int) - 1) = ((r - 1 : Nat) : Int) := by have := HA.out.2.1; have := HA.out.2.2; unfold wrap64; omega
    have FN : Aside (∀ x, COUNTING K w0 (w.setCell ⟨bl, 0, none⟩ (.int .i64 ((r - 1 : Nat) : Int))) bl (acc ++ [x])) := fun x => by
      have h1 := HA.out.1
      have h2 := HA.out.2.1
      refine ⟨by rw [List.length_append]; simp; clear e1; omega, ?_, fun b hb hne => (Below.heap_setCell _ _ _ _ (by exact hne)).trans (h1.keep b hb hne), h1.lt, h1.below.setCell (p := ⟨bl, 0, none⟩) (Nat.le_refl _) _⟩
      have h3 := h1.row.set 0 (.int .i64 ((r - 1 : Nat) : Int))
      rw [List.length_append, show K - (acc.length + [x].length) = r - 1 by simp; clear e1; omega]
      exact h3
    clear HA
    generalize r - 1 = r' at *
    go_enter Tryd.func49, Tryd.ntmps49
    go_wp2_with fail
    exact bodyPost_end (v := .tuple #[]) (by simp [results, Tryd.f49]) rfl (.inl ⟨rfl, FN.out⟩)
/-- what is wrong with a proof of so many nodes. -/
def MWA (L : List Nat) (N K : Nat) : Int := if RISEA L N ≠ 0 then RISEA L N else if K ≠ (NEEDS (TPS N) L).length then 70 else 0
theorem MWA_ok {L : List Nat} {N K : Nat} (h : MWA L N K = 0) : RISEA L N = 0 ∧ K = (NEEDS (TPS N) L).length := by
  unfold MWA at h
  split at h
  · rename_i h1; exact absurd h h1
  · rename_i h1
    split at h
    · cases h
    · rename_i h2
      exact ⟨by simpa using h1, by simpa using h2⟩
theorem MWA_rise {L : List Nat} {N K : Nat} (h : RISEA L N ≠ 0) : MWA L N K = RISEA L N := if_pos h
theorem MWA_count {L : List Nat} {N K : Nat} (h : RISEA L N = 0) (hk : K ≠ (NEEDS (TPS N) L).length) : MWA L N K = 70 := by
  unfold MWA
  rw [if_neg (by simpa using h), if_pos hk]
theorem MWA_yes {L : List Nat} {N K : Nat} (h : RISEA L N = 0) (hk : K = (NEEDS (TPS N) L).length) : MWA L N K = 0 := by
  unfold MWA
  rw [if_neg (by simpa using h), if_neg (by simpa using hk)]
def WHOLE (L : List Nat) (N K : Nat) (w : World) (e : Ending) (w' : World) : Prop := Below w.heap.size w w' ∧ ((MWA L N K = 0 ∧ e = .returned (.tuple #[])) ∨ (MWA L N K ≠ 0 ∧ e = .panicked (WRONG (MWA L N K))))
set_option maxHeartbeats 2000000 in
theorem mustwhole_ok (L : List Nat) (N : Nat) (a : Option Addr) (m c : Nat) (an : Option Addr) (K cn : Nat) (w : World) (hl : L.length = m) (hm : m < 2 ^ 20) (hc : m ≤ c) (hnil : a = none → c = 0) (hbl : ∀ x, a = some x → x.block < w.heap.size ∧ x.spot = none) (hK : K < 2 ^ 20) (hL : NUML w a L) (hT : Tabled w) (hw0 : 0 < w.heap.size) :
    Calls Tryd.prog 35 #[.agg (MBOX N a m c an K cn)] w (WHOLE L N K w) := by
  have hmf : ∀ (fn : Fn) (first cap : Array Value) (w : World), (Instr.makeFunc fn first cap).run Tryd.prog w = .ok (.func fn first cap) w := fun _ _ _ _ => rfl
  obtain ⟨w1, e1⟩ : ∃ w1, w.alloc (.cells (MBOX N a m c an K cn) 32) = w1 := ⟨_, rfl⟩
  have s1 : w1.heap.size = w.heap.size + 1 := by rw [← e1]; simp
  have h1 : Has w1 w.heap.size (MBOX N a m c an K cn) 32 := by rw [← e1]; exact Has.new w _ _
  have hb1 : Below w.heap.size w w1 := by rw [← e1]; exact (Below.refl _ _).alloc (Nat.le_refl _) _
  have hL1 : NUML w1 a L := fun hp => by
    obtain ⟨b, o, e, hlt, hcc⟩ := hL hp
    exact ⟨b, o, e, by omega, fun i x hx => (hb1.cell (p := ⟨b, o + i, none⟩) hlt).trans (hcc i x hx)⟩
  have hM : (MBOX N a m c an K cn) = #[.int .u64 (N : Int), .slice a m c, .slice an K cn] := rfl
  have cr := mustrise_ok L N a m c hl (by omega) w1 hL1
  have x0 := h1.cell 0
  have x1 := h1.cell 1
  have x2 := h1.cell 2
  rw [hM] at e1 x0 x1 x2
  have HA : Aside (L.length = m ∧ m < 2 ^ 20 ∧ m ≤ c ∧ (a = none → c = 0) ∧ (∀ x, a = some x → x.block < w.heap.size ∧ x.spot = none) ∧ K < 2 ^ 20 ∧ NUML w1 a L ∧ Tabled w1 ∧ w1.heap.size = w.heap.size + 1 ∧ Has w1 w.heap.size (MBOX N a m c an K cn) 32 ∧ Below w.heap.size w w1) := ⟨hl, hm, hc, hnil, hbl, hK, hL1, hT.below hw0 hb1, s1, h1, hb1⟩
  clear hl hm hc hnil hbl hK hL hT hw0 s1 hb1 hL1
  go_enter Tryd.func35, Tryd.ntmps35
  rw [hM]
  go_wp2_with fail
  refine cr.mono ?_
  rintro e w2 ⟨rfl, (⟨hr, rfl⟩ | ⟨hr, rfl⟩)⟩
  · clear cr
    obtain ⟨r1, r2, r3⟩ := RISEA_ok hr
    obtain ⟨w3, e3⟩ : ∃ w3, w1.alloc (.cells #[.int .i64 (K : Int)] 3) = w3 := ⟨_, rfl⟩
    have s3 : w3.heap.size = w.heap.size + 2 := by rw [← e3]; simp; have := HA.out.2.2.2.2.2.2.2.2.1; omega
    have h3 : Has w3 w1.heap.size #[.int .i64 (K : Int)] 3 := by rw [← e3]; exact Has.new w1 _ _
    have hb3 : Below w1.heap.size w1 w3 := by rw [← e3]; exact (Below.refl _ _).alloc (Nat.le_refl _) _
    have y0 : w3.cell? ⟨w.heap.size, 0, none⟩ = some (.int .u64 (N : Int)) := (h1.keep hb3).cell 0
    have y1 : w3.cell? ⟨w.heap.size, 1, none⟩ = some (.slice a m c) := (h1.keep hb3).cell 1
    obtain ⟨bj, hbj, hbn⟩ : ∃ bj, (∀ x, a = some x → x.block = bj ∧ x.spot = none) ∧ bj ≠ w1.heap.size := by
      have hs := HA.out.2.2.2.2.2.2.2.2.1
      cases a with
      | none => exact ⟨w1.heap.size + 1, fun x e => (by cases e), by omega⟩
      | some x => exact ⟨x.block, fun y e => (by cases e; exact ⟨rfl, (HA.out.2.2.2.2.1 x rfl).2⟩), by have := (HA.out.2.2.2.2.1 x rfl).1; omega⟩
    have hL3 : NUML w3 a L := fun hp => by
      obtain ⟨b, o, e, hlt, hcc⟩ := HA.out.2.2.2.2.2.2.1 hp
      exact ⟨b, o, e, Nat.lt_of_lt_of_le hlt hb3.size, fun i x hx => (hb3.cell (p := ⟨b, o + i, none⟩) hlt).trans (hcc i x hx)⟩
    have cn := needE_ok bj w1.heap.size (fun w0 acc w => COUNTING K w0 w w1.heap.size acc) (fun w0 acc w => acc.length = K ∧ COUNTING K w0 w w1.heap.size acc) (WRONG 70) (fun w0 acc w w' h hb => h.still hb) (fun w0 acc w h => ⟨fun b hb hne => h.keep b hb hne, h.below.size⟩) (fun w0 acc p w h _ => (count_ok HA.out.2.2.2.2.2.1 h (p : Int)).mono fun e w' hh => hh.imp (fun x => ⟨x.1, x.2 p⟩) (fun x => ⟨x.1, x.2⟩)) N r1 L a m c w3 HA.out.1 HA.out.2.1 r2 HA.out.2.2.1 HA.out.2.2.2.1 hbj hL3 hbn h3.lt (HA.out.2.2.2.2.2.2.2.1.below (by have := HA.out.2.2.2.2.2.2.2.2.1; omega) hb3)
      (fun w4 hb => ⟨Nat.zero_le _, h3.keep hb, fun b _ _ => rfl, (h3.keep hb).lt, Below.refl _ _⟩)
    have HR : Aside (RISEA L N = 0 ∧ Below w1.heap.size w1 w3 ∧ K < 2 ^ 20) := ⟨hr, hb3, HA.out.2.2.2.2.2.1⟩
    have BW : Aside (Below w.heap.size w w1) := HA.out.2.2.2.2.2.2.2.2.2.2
    clear r1 r2 r3 hbj hbn hr hL3 s3 h3 HA h1 hb3
    go_wp2_with fail
    refine cn.mono ?_
    rintro e w5 ⟨w4, hb4, (⟨rfl, ht⟩ | ⟨pre, p, hpre, rfl, hp1, hp2⟩)⟩
    · clear cn
      rw [List.nil_append] at ht
      have z0 := ht.row.cell 0
      obtain ⟨r, hrr⟩ : ∃ r, K - (NEEDS (TPS N) L).length = r := ⟨_, rfl⟩
      rw [hrr] at z0
      have z0 : w5.cell? ⟨w1.heap.size, 0, none⟩ = some (.int .i64 (r : Int)) := z0
      have hbW : Below w.heap.size w w5 := by
        have h34 : Below w1.heap.size w1 w4 := HR.out.2.1.trans (hb4.mono HR.out.2.1.size)
        have h1w : Below w.heap.size w w4 := BW.out.trans (h34.mono BW.out.size)
        exact h1w.trans (ht.below.mono BW.out.size)
      have hle := ht.le
      rcases Nat.eq_zero_or_pos r with h0 | h0
      · subst h0
        have FN : Aside (WHOLE L N K w (.returned (.tuple #[])) w5) := ⟨hbW, .inl ⟨MWA_yes HR.out.1 (by omega), rfl⟩⟩
        clear ht hbW hb4 hle hrr HR BW
        go_wp2_with fail
        exact bodyPost_end (v := .tuple #[]) (by simp [results, Tryd.f35]) rfl FN.out
      · have hgt : (0 : Int) < (r : Int) := by omega
        have hm7 := MWA_count (K := K) HR.out.1 (by omega)
        have FN : Aside (WHOLE L N K w (.panicked (WRONG 70)) w5) := ⟨hbW, .inr ⟨by rw [hm7]; decide, by rw [hm7]⟩⟩
        clear ht hbW hb4 hle hrr HR BW hm7
        go_wp2_with fail
        exact ⟨rfl, FN.out⟩
    · have hbW : Below w.heap.size w w5 := by
        have h34 : Below w1.heap.size w1 w4 := HR.out.2.1.trans (hb4.mono HR.out.2.1.size)
        have h1w : Below w.heap.size w w4 := BW.out.trans (h34.mono BW.out.size)
        exact h1w.trans (hp2.below.mono BW.out.size)
      have hlen := hpre.length_le
      rw [List.nil_append, List.length_append, hp1] at hlen
      have hm7 := MWA_count (K := K) HR.out.1 (by simp at hlen; omega)
      exact ⟨rfl, hbW, .inr ⟨by rw [hm7]; decide, by rw [hm7]⟩⟩
  · refine ⟨rfl, HA.out.2.2.2.2.2.2.2.2.2.2, .inr ⟨?_, ?_⟩⟩
    · rw [MWA_rise hr]; exact hr
    · rw [MWA_rise hr]
end Go.Proofs.YtmpaifkjlhodpaaDoor

/- What Decode of package many answers, of any bytes: plain. -/
namespace Go.Proofs.YtmpaifkjlhodpaaDoor
set_option maxRecDepth 100000

/-- an error, the size, the indices, the nodes' bytes. -/
abbrev MANS := Int × Nat × List Nat × List Int
def MERR (E : Int) : MANS := (E, 0, [], [])
/-- behind the indices. -/
def MD3 (n : Nat) (A : Int × List Nat × List Int) : MANS :=
  if A.1 ≠ 0 then MERR A.1 else if A.2.2.length < 32 * (NEEDS (TPS n) A.2.1).length then MERR 11 else if 32 * (NEEDS (TPS n) A.2.1).length < A.2.2.length then MERR 13 else (0, n, A.2.1, A.2.2)
/-- behind the mark. -/
def MD1 (t : List Int) : MANS :=
  if (LNG t).2.2 ≠ 0 then MERR (LNG t).2.2 else if 4611686018427387904 < (LNG t).1.toNat then MERR 30 else MD3 (LNG t).1.toNat (IDXS (LNG t).1.toNat (t.drop (LNG t).2.1.toNat))
def MDC : List Int → MANS
  | [] => MERR 11
  | x :: t => if x = 78 then MD1 t else MERR 14
theorem MD1_ok {t : List Int} {Z m : Nat} (h : LNG t = ((Z : Int), (m : Int), 0)) (hz : Z ≤ 4611686018427387904) : MD1 t = MD3 Z (IDXS Z (t.drop m)) := by
  unfold MD1
  rw [h]
  simp only [ne_eq, not_true_eq_false, if_false, Int.toNat_natCast]
  rw [if_neg (by omega)]
theorem MD1_far {t : List Int} {Z m : Nat} (h : LNG t = ((Z : Int), (m : Int), 0)) (hz : 4611686018427387904 < Z) : MD1 t = MERR 30 := by
  unfold MD1
  rw [h]
  simp only [ne_eq, not_true_eq_false, if_false, Int.toNat_natCast]
  rw [if_pos hz]
theorem MD1_bad {t : List Int} (h : (LNG t).2.2 ≠ 0) : MD1 t = MERR (LNG t).2.2 := by
  unfold MD1
  rw [if_pos h]
/-- the indices that are read are of n leaves, and rise. -/
theorem IDX_rise {n : Nat} : ∀ (c k : Nat) (t : List Int), (IDX n c k t).1 = 0 → (∀ x ∈ (IDX n c k t).2.1, k ≤ x ∧ x < n) ∧ (IDX n c k t).2.1.Pairwise (· < ·)
  | 0, _, _, _ => ⟨fun x h => by simp [IDX] at h, by simp [IDX]⟩
  | c + 1, k, t, h => by
    rw [IDX] at h ⊢
    split at h
    · rename_i h1
      exact absurd h h1
    · rename_i h1
      rw [if_neg h1]
      split at h
      · cases h
      · rename_i h2
        rw [if_neg h2]
        obtain ⟨a1, a2⟩ := IDX_rise c _ _ h
        generalize (LNG t).1.toNat = Z at *
        refine ⟨fun x hx => ?_, List.pairwise_cons.2 ⟨fun y hy => ?_, a2⟩⟩
        · rcases List.mem_cons.1 hx with e | hx
          · omega
          · have := a1 x hx
            omega
        · have := a1 y hy
          omega
theorem rises_of {L : List Nat} (h : L.Pairwise (· < ·)) : RISES L := fun i j x y hij hx hy => by
  obtain ⟨hi, rfl⟩ := List.getElem?_eq_some_iff.1 hx
  obtain ⟨hj, rfl⟩ := List.getElem?_eq_some_iff.1 hy
  exact List.pairwise_iff_getElem.1 h i j hi hj hij
theorem IDXS_rise {n : Nat} {t : List Int} (h : (IDXS n t).1 = 0) : (∀ x ∈ (IDXS n t).2.1, x < n) ∧ RISES (IDXS n t).2.1 := by
  unfold IDXS at h ⊢
  split at h
  · rename_i h1
    exact absurd h h1
  · rename_i h1
    rw [if_neg h1]
    obtain ⟨a1, a2⟩ := IDX_rise _ _ _ h
    exact ⟨fun x hx => (a1 x hx).2, rises_of a2⟩
theorem RCHK_yes {n : Nat} : ∀ (L : List Nat) (prev : Option Nat), L.Pairwise (· < ·) → (∀ x ∈ L, x < n) → (∀ y, prev = some y → ∀ x ∈ L, y < x) → RCHK n prev L = 0
  | [], _, _, _, _ => rfl
  | x :: l, prev, hp, hx, hy => by
    rw [RCHK, if_neg, if_neg (by have := hx x (List.mem_cons_self ..); omega)]
    · exact RCHK_yes l (some x) (List.pairwise_cons.1 hp).2 (fun z hz => hx z (List.mem_cons_of_mem _ hz)) (fun y e z hz => by cases e; exact (List.pairwise_cons.1 hp).1 z hz)
    · cases prev with
      | none => simp [NOTUP]
      | some y =>
        have := hy y rfl x (List.mem_cons_self ..)
        simp [NOTUP]
        omega
theorem pair_of {L : List Nat} (h : RISES L) : L.Pairwise (· < ·) := by
  rw [List.pairwise_iff_getElem]
  intro i j hi hj hij
  exact h i j _ _ hij (List.getElem?_eq_getElem hi) (List.getElem?_eq_getElem hj)
theorem RISEA_yes {n : Nat} {L : List Nat} (hn : n ≤ 4611686018427387904) (hr : RISES L) (hx : ∀ x ∈ L, x < n) : RISEA L n = 0 := by
  unfold RISEA
  rw [if_neg (by omega)]
  exact RCHK_yes L none (pair_of hr) hx (fun y e => by cases e)
/-- indices that are read are not more than the bytes. -/
theorem IDX_few {n : Nat} : ∀ (c k : Nat) (t : List Int), (∀ x ∈ t, 0 ≤ x ∧ x ≤ 255) → (IDX n c k t).1 = 0 → (IDX n c k t).2.1.length + (IDX n c k t).2.2.length ≤ t.length ∧ (∀ x ∈ (IDX n c k t).2.2, 0 ≤ x ∧ x ≤ 255) ∧ (IDX n c k t).2.1.length = c
  | 0, _, _, hr, _ => ⟨by simp [IDX], by simpa [IDX] using hr, by simp [IDX]⟩
  | c + 1, k, t, hr, h => by
    by_cases hl : (LNG t).2.2 = 0
    · obtain ⟨Z, m, q1, q2, q3, q4, q5⟩ := LNG_back hr hl
      by_cases hz : n - k ≤ Z
      · rw [IDX_far q4 hz] at h
        cases h
      · rw [IDX_next q4 hz] at h ⊢
        obtain ⟨a1, a2, a3⟩ := IDX_few c (k + Z + 1) (t.drop m) (fun x hx => hr x (List.mem_of_mem_drop hx)) h
        refine ⟨?_, a2, by simp [a3]⟩
        rw [List.length_drop] at a1
        simp only [List.length_cons]
        omega
    · rw [IDX_bad hl] at h
      exact absurd h hl
theorem IDXS_few {n : Nat} {t : List Int} (hr : ∀ x ∈ t, 0 ≤ x ∧ x ≤ 255) (h : (IDXS n t).1 = 0) : (IDXS n t).2.1.length + (IDXS n t).2.2.length ≤ t.length ∧ ∀ x ∈ (IDXS n t).2.2, 0 ≤ x ∧ x ≤ 255 := by
  unfold IDXS at h ⊢
  split at h
  · rename_i h1
    exact absurd h h1
  · rename_i h1
    rw [if_neg h1]
    obtain ⟨Z, m, q1, q2, q3, q4, q5⟩ := LNG_back hr (by simpa using h1)
    rw [q4] at h ⊢
    simp only [Int.toNat_natCast] at h ⊢
    obtain ⟨a1, a2, _⟩ := IDX_few Z 0 (t.drop m) (fun x hx => hr x (List.mem_of_mem_drop hx)) h
    rw [List.length_drop] at a1
    exact ⟨by omega, a2⟩
end Go.Proofs.YtmpaifkjlhodpaaDoor

/- What the document's Span answers. -/
namespace Go.Proofs.YtmpaifkjlhodpaaDoor
open Go.RowKit

theorem wrap_near' (h : Nat) (hh : h < 62) : wrap64 ((h + 1 : Nat) : Int) = ((h + 1 : Nat) : Int) := by unfold wrap64; omega
theorem wrap_pow (h : Nat) (hh : h ≤ 62) : wrap64 ((h : Int) + 1) = ((h + 1 : Nat) : Int) := by unfold wrap64; omega
end Go.Proofs.YtmpaifkjlhodpaaDoor

/- What the document's Places and PrefixPlaces answer; two lists of numbers that read the same or not. -/
namespace Go.Proofs.YtmpaifkjlhodpaaDoor
open Go.RowKit
set_option maxRecDepth 100000

end Go.Proofs.YtmpaifkjlhodpaaDoor

/- Two lists of numbers that read the same; a list written over and grown; does it have the mark alone? -/
namespace Go.Proofs.YtmpaifkjlhodpaaDoor
open Go.RowKit
set_option maxRecDepth 100000

theorem samenumbers_ok (va vb : Value) (l : List Nat) (w : World) (hn : l.length ≤ 1000) (ha : Nums w va l) (hb : Nums w vb l) :
    Calls Tryd.prog 9 #[va, vb] w fun e w' => e = .returned (.bool true) ∧ Below w.heap.size w w' := by
  obtain ⟨a, ca, rfl, hA⟩ := ha
  obtain ⟨b, cb, rfl, hB⟩ := hb
  generalize hL : l.length = n at *
  rcases Nat.eq_zero_or_pos n with h | h
  · subst h
    clear hA hB hL
    go_enter Tryd.func9, Tryd.ntmps9
    go_wp2
    refine wp_loop_rounds 1 ?_
    rw [rounds_succ]
    go_wp2
    go_ret
    exact ⟨rfl, Below.refl _ _⟩
  · obtain ⟨ga, rfl, la, hca⟩ := hA h
    obtain ⟨gb, rfl, lb, hcb⟩ := hB h
    have HC : Aside ((∀ (i : Nat), i < n → w.cell? ⟨ga, i, none⟩ = some (.int .u64 ((l.getD i 0 : Nat) : Int))) ∧ (∀ (i : Nat), i < n → w.cell? ⟨gb, i, none⟩ = some (.int .u64 ((l.getD i 0 : Nat) : Int))) ∧ ga < w.heap.size ∧ gb < w.heap.size) := ⟨hca, hcb, la, lb⟩
    clear hA hB hca hcb la lb hL
    go_enter Tryd.func9, Tryd.ntmps9
    go_wp2
    go_loopg [5] n (fun g s5 wx => ∃ k : Nat, k + g = n ∧ s5 = .int .i64 k ∧ Aside (Below w.heap.size w wx))
    case atStart => exact ⟨0, by omega, rfl, Below.refl _ _⟩
    case round =>
      obtain ⟨k, hkg, rfl, A⟩ := hrel
      cases gk with
      | zero =>
        obtain rfl : k = n := by omega
        go_wp2
        go_ret
        exact ⟨rfl, A.out⟩
      | succ g =>
        have hlt : (k : Int) < (n : Int) := by omega
        have h1 : wr.cell? ⟨ga, k, none⟩ = some (.int .u64 ((l.getD k 0 : Nat) : Int)) := (A.out.cell (by exact HC.out.2.2.1)).trans (HC.out.1 k (by omega))
        have h2 : wr.cell? ⟨gb, k, none⟩ = some (.int .u64 ((l.getD k 0 : Nat) : Int)) := (A.out.cell (by exact HC.out.2.2.2)).trans (HC.out.2.1 k (by omega))
        generalize l.getD k 0 = v at h1 h2
        go_wp2
        go_quiet (fail)
        go_wp2
        go_roundg g
        case measure => omega
        case rel => exact ⟨k + 1, by omega, by go_num, below_drewN A.out _⟩
theorem grown_trans {w w1 w2 : World} {r r' : Option Nat} (h : w.grownBy w1 r) (h' : w1.grownBy w2 r') (hr : r' = r ∨ ∀ g, r' = some g → w.heap.size ≤ g) : w.grownBy w2 r := by
  obtain ⟨a1, a2, a3, a4, a5⟩ := h
  obtain ⟨b1, b2, b3, b4, b5⟩ := h'
  refine ⟨by rw [b1, a1], by rw [b2, a2], by rw [b3, a3], Nat.le_trans a4 b4, fun k hk hne => ?_⟩
  rw [b5 k (by omega) (fun e => ?_), a5 k hk hne]
  rcases hr with hr | hr
  · exact hne (by rw [e, hr])
  · have := hr k e.symm
    omega
theorem grown_size {w w' : World} {r : Option Nat} (h : w.grownBy w' r) : w.heap.size ≤ w'.heap.size := by
  obtain ⟨_, _, _, hs, _⟩ := h
  exact hs
theorem grown_alloc (w : World) (o : Obj) (r : Option Nat) : w.grownBy (w.alloc o) r := ⟨rfl, rfl, rfl, by simp, fun k hk _ => heap_alloc_old w o hk⟩
theorem own_form {w : World} {B n g m c : Nat} {xs : List Value} (h : w.ownsRow B 23 1 (.slice (some ⟨g, 0, none⟩) m c) n xs) : m = n := by
  rcases h.2 with ⟨e, _⟩ | ⟨_, _, _, e, _⟩
  · simp at e
  · simp at e
    omega
/-- the first j cells are the mark. -/
def OVER (xs : List Value) (u : Value) (j : Nat) : List Value := List.replicate j u ++ xs.drop j
theorem OVER_zero (xs : List Value) (u : Value) : OVER xs u 0 = xs := by simp [OVER]
theorem OVER_all (xs : List Value) (u : Value) : OVER xs u xs.length = List.replicate xs.length u := by simp [OVER]
theorem OVER_next {xs : List Value} {u : Value} {j : Nat} (hj : j < xs.length) : (OVER xs u j).set j u = OVER xs u (j + 1) := by
  unfold OVER
  rw [List.set_append_right _ _ (by simp)]
  simp only [List.length_replicate, Nat.sub_self]
  rw [List.drop_eq_getElem_cons hj, List.set_cons_zero, List.replicate_succ']
  simp
end Go.Proofs.YtmpaifkjlhodpaaDoor

/- Steps of a region that draws its order, one operation at a time. -/
namespace Go.Proofs.YtmpaifkjlhodpaaDoor
open Go.RowKit
set_option maxRecDepth 100000

theorem step_val {ops : Array Oper} {o : Oper} {a : Act} {w w' : World} {K : Act → World → Prop} {Q : Exit → Act → World → Prop} {E : Prop} {v : Value} (hg : o.guard = none)
    (hrun : (execOp a.eval o).run Tryd.prog w = .ok (.value v) w') (h : K (a.put o.dst v) w') : if Region.wanted o (yielded ops a.tmps) = true then Oper.wp Tryd.prog o a w K Q else E := by
  have hw : Region.wanted o (yielded ops a.tmps) = true := by simp [Region.wanted, hg]
  rw [if_pos hw]
  unfold Oper.wp
  rw [hrun]
  exact h
theorem step_skip {ops : Array Oper} {o : Oper} {a : Act} {w w' : World} {K : Act → World → Prop} {Q : Exit → Act → World → Prop} {E : Prop} (hg : o.guard = none)
    (hrun : (execOp a.eval o).run Tryd.prog w = .ok .skip w') (h : K (a.put o.dst undef) w') : if Region.wanted o (yielded ops a.tmps) = true then Oper.wp Tryd.prog o a w K Q else E := by
  have hw : Region.wanted o (yielded ops a.tmps) = true := by simp [Region.wanted, hg]
  rw [if_pos hw]
  unfold Oper.wp
  rw [hrun]
  exact h
theorem run_skip {s : Sem Unit} {w w' : World} (h : s.run Tryd.prog w = .ok () w') : (do s; pure Next.skip : Sem Next).run Tryd.prog w = .ok .skip w' := by
  simp [h]
theorem anyHone {ops : Array Oper} {Q : Exit → Act → World → Prop} {md : Region.Mode} {S : World → Prop} {fuel : Nat} {listed : Array Bool} {a : Act} {w : World} {o : Oper} (i : Nat) (hr : Region.ready md ops listed = [i]) (ho : ops[i]? = some o)
    (h : ∀ K' : Act → World → Prop, Shut (∀ a w, S w → (S w → wpAnyH Tryd.prog md ops Q S fuel (listed.setIfInBounds i true) a w) → K' a w) → if Region.wanted o (yielded ops a.tmps) = true then Oper.wp Tryd.prog o a w K' Q else K' (a.put o.dst undef) w) : wpAnyH Tryd.prog md ops Q S (fuel + 1) listed a w :=
  wpAnyH_ready hr (by simp) (AllReadyH.cons ho h AllReadyH.nil)
theorem run_value {s : Sem Value} {w w' : World} {v : Value} (h : s.run Tryd.prog w = .ok v w') : (do pure (Next.value (← s)) : Sem Next).run Tryd.prog w = .ok (.value v) w' := by
  simp [h, Result.andThen]
end Go.Proofs.YtmpaifkjlhodpaaDoor

/- Hashes as cells: held against each other, put behind a list, a list of one; a row whose block stays. -/
namespace Go.Proofs.YtmpaifkjlhodpaaDoor
open Go.RowKit
set_option maxRecDepth 100000

theorem own_heap {w w' : World} {B : Nat} {t : TypeId} {s : Nat} {v : Value} {n : Nat} {xs : List Value} (h : w.ownsRow B t s v n xs) (hk : ∀ k, v.ownBlock = some k → w'.heap[k]? = w.heap[k]?) : w'.ownsRow B t s v n xs := by
  refine ⟨h.1, ?_⟩
  rcases h.2 with h | ⟨g, cap, cur, rfl, hb, hg, r⟩
  · exact .inl h
  · exact .inr ⟨g, cap, cur, rfl, hb, by rw [hk g rfl]; exact hg, r⟩
def ZND : List Int := List.replicate 32 0
/-- a hash that is zero, cell by cell. -/
abbrev ZARR : Array Value := #[.int .u8 0, .int .u8 0, .int .u8 0, .int .u8 0, .int .u8 0, .int .u8 0, .int .u8 0, .int .u8 0, .int .u8 0, .int .u8 0, .int .u8 0, .int .u8 0, .int .u8 0, .int .u8 0, .int .u8 0, .int .u8 0, .int .u8 0, .int .u8 0, .int .u8 0, .int .u8 0, .int .u8 0, .int .u8 0, .int .u8 0, .int .u8 0, .int .u8 0, .int .u8 0, .int .u8 0, .int .u8 0, .int .u8 0, .int .u8 0, .int .u8 0, .int .u8 0]
theorem ZARR_eq : (CELLS ZND).toArray = ZARR := rfl
theorem results_hash {fn : Func} {p q : Tmp} {ty : TypeId} (h : fn.results = #[.cell p ty, .tmp q]) (tmps : Array Value) (w : World) (g : Nat) (t : TypeId) (cs : Array Value) (fr : Nat × Nat) (k : Nat) (el : TypeId)
    (hp : tmps.getD p undef = .pointer (some ⟨g, 0, none⟩)) (hg : w.heap[g]? = some (.cells cs t fr)) (v : Value) (hq : tmps.getD q undef = v)
    (hu : Tryd.prog.underlying ty = some (.array k el)) (hi : (Tryd.prog.info? ty).map (·.size) = some cs.size) :
    (results fn tmps).run Tryd.prog w = .ok (.tuple #[.agg cs, v]) w := by
  have hp' : tmps[p]?.getD undef = .pointer (some ⟨g, 0, none⟩) := by simpa using hp
  have hq' : tmps[q]?.getD undef = v := by simpa using hq
  simp [results, h, hp', hq', asAddr, run_loadVar_row w g t ty cs fr (.array k el) hg hu rfl hi]
theorem info_hashv : (Tryd.prog.info? 57).map (fun i => (i.zero, i.size, i.bytes)) = some (some (.agg ZARR), 32, 32) := by kernel_rfl
theorem app_hash {ops : Array Oper} {rest : List Oper} {o : Oper} {a : Act} {Q : Exit → Act → World → Prop} (w : World) (hgd : o.guard = none) (s x : Operand)
    (ho : o.op = .call { callee := .builtin .append, args := #[s, x], argTypes := #[30, 30] })
    (base : Nat) (v : Value) (n : Nat) (xs : List Value) (hs : a.eval s = v) (hown : w.ownsRow base 57 32 v n xs)
    (b c : Nat) (y : List Int) (hl : y.length = 32) (hx : a.eval x = .slice (some ⟨b, 0, none⟩) 1 c) (hc : Has w b (CELLS y).toArray 57)
    (hb : n ≤ 1000) (hbase : base ≤ w.heap.size)
    (h : ∀ g cap w', w'.ownsRow base 57 32 (.slice (some ⟨g, 0, none⟩) (n + 1) cap) (n + 1) (xs ++ CELLS y) → w.grownBy w' v.ownBlock → (v.ownBlock = some g ∨ g = w.heap.size) → g < w'.heap.size → wpList Tryd.prog ops Q rest (a.put o.dst (.slice (some ⟨g, 0, none⟩) (n + 1) cap)) w') : wpList Tryd.prog ops Q (o :: rest) a w := by
  obtain ⟨i, hi, hz, hs1, hby⟩ := info_parts info_hashv
  refine wpList_append_lies w hgd s x 30 ho base 57 i (.agg ZARR) 32 32 Tryd.underlying30 hi hz hs1 hby rfl (by decide) v n xs hs hown ⟨b, 0, none⟩ 1 c (CELLS y) hx (by rw [CELLS, List.length_map, hl]) ?_ (CELLS_one y) (by decide) (by simp only [maxLen]; omega) (by omega) hbase w.heap.size rfl h
  intro j u hj
  rw [addr_add, Nat.zero_add, hc.cell, List.getElem?_toArray]
  exact hj
/-- a list of one aggregate. -/
theorem build_one {ops : Array Oper} {rest : List Oper} {o : Oper} {a : Act} {Q : Exit → Act → World → Prop} (w : World) (hg : o.guard = none) (t e : TypeId) (x : Operand) (ho : o.op = .buildSlice t 1 #[(0, x)]) (C : Array Value) (hx : a.eval x = .agg C) (n : Nat) (z : Value) (by' : Nat)
    (hu : Tryd.prog.underlying t = some (.slice e)) (hi : (Tryd.prog.info? e).map (fun i => (i.zero, i.size, i.bytes)) = some (some z, n, by')) (hC : C.size = n) (hz : z.cells.size = n) (hn : 0 < n) (hs : n ≤ 1000)
    (h : wpList Tryd.prog ops Q rest (a.put o.dst (.slice (some ⟨w.heap.size, 0, none⟩) 1 1)) (w.alloc (.cells C e))) : wpList Tryd.prog ops Q (o :: rest) a w := by
  obtain ⟨i, hie, hz', hs1, _⟩ := info_parts hi
  refine wpList_buildSlice hg t e 1 _ ho C i z hu hie hz' (by rw [hs1]; omega) (by rw [hs1]; omega) ?_ h
  have := Great.fill_whole (s := n) hn [.agg C] ((Array.range (1 * i.size)).map (z.cells[· % z.cells.size]!)) (fun v hv => by simp at hv; subst hv; exact hC) (by simp [hs1])
  simp [Value.cells] at this
  rw [hs1]
  simp [hx]
  rw [hs1] at this
  exact this
theorem items_cells (d : Nat) (h g : List Int) (hh : h.length = 32) (hg : g.length = 32) (w : World) : ∀ is : List Nat, (∀ i ∈ is, i < 32) → (Op.eqItems (d + 1) 5 1 (CELLS h).toArray (CELLS g).toArray is).run Tryd.prog w = .ok (is.all fun i => h.getD i 0 == g.getD i 0) w
  | [], _ => by simp [Op.eqItems]
  | i :: is, hi => by
    have hp : Tryd.prog.plainKey 5 = true := by kernel_rfl
    have hi32 : i < 32 := hi i (by simp)
    have h1 := run_part_plain (P := Tryd.prog) w hp (show (CELLS h).toArray[i]? = some (.int .u8 (h.getD i 0)) by rw [List.getElem?_toArray, CELLS_get h i (by omega)])
    have h2 := run_part_plain (P := Tryd.prog) w hp (show (CELLS g).toArray[i]? = some (.int .u8 (g.getD i 0)) by rw [List.getElem?_toArray, CELLS_get g i (by omega)])
    have h3 := run_equalIn_int (P := Tryd.prog) w d 5 .u8 .u8 (h.getD i 0) (g.getD i 0) Tryd.underlying5
    have ih := items_cells d h g hh hg w is (fun j hj => hi j (by simp [hj]))
    rw [Op.eqItems, Nat.mul_one]
    simp only [Sem.run_bind, h1, h2, h3, Result.andThen_ok]
    by_cases e : h.getD i 0 = g.getD i 0
    · have e2 : (h.getD i 0 == g.getD i 0) = true := by simpa using e
      rw [List.all_cons, e2, Bool.true_and, if_neg (by simp)]
      exact ih
    · have e2 : (h.getD i 0 == g.getD i 0) = false := by simpa using e
      rw [List.all_cons, e2]
      simp
theorem equal_cells (h g : List Int) (hh : h.length = 32) (hg : g.length = 32) (w : World) : (Op.equalIn 10000 57 (.agg (CELLS h).toArray) (.agg (CELLS g).toArray)).run Tryd.prog w = .ok ((List.range 32).all fun i => h.getD i 0 == g.getD i 0) w := by
  obtain ⟨i8, hi, _⟩ := Option.map_eq_some_iff.1 info_u8
  rw [run_equalIn_array (P := Tryd.prog) w 9999 (CELLS h).toArray (CELLS g).toArray Tryd.underlying57 hi]
  have hc : Tryd.prog.cellsOf 5 = 1 := by kernel_rfl
  rw [hc]
  exact items_cells 9998 h g hh hg w _ (fun i hi => by simpa using hi)
theorem neq_cells (h : List Int) (hh : h.length = 32) (x y : Operand) (w : World) : (do eqGuard .neq 57 x y (.agg (CELLS h).toArray) (.agg (CELLS h).toArray); binOp .neq 57 (.agg (CELLS h).toArray) (.agg (CELLS h).toArray) : Sem Value).run Tryd.prog w = .ok (.bool false) w := by
  simp only [Sem.run_bind, run_eqGuard_agg (P := Tryd.prog) w .neq 57 x y _ _ (by kernel_rfl), Result.andThen_ok, run_neq_struct, equal_cells h h hh hh]
  simp
theorem all_cells {h g : List Int} (hh : h.length = 32) (hg : g.length = 32) : ((List.range 32).all fun i => h.getD i 0 == g.getD i 0) = decide (h = g) := by
  by_cases e : h = g
  · subst e
    simp
  · rw [decide_eq_false e, Bool.eq_false_iff]
    intro hx
    rw [List.all_eq_true] at hx
    apply e
    apply List.ext_getElem (by omega)
    intro i h1 h2
    have := hx i (by simp; omega)
    simpa [List.getD, h1, h2] using this
theorem equal_hashes {h g : List Int} (hh : h.length = 32) (hg : g.length = 32) (w : World) : (Op.equalIn 10000 57 (.agg (CELLS h).toArray) (.agg (CELLS g).toArray)).run Tryd.prog w = .ok (decide (h = g)) w := by
  rw [equal_cells h g hh hg, all_cells hh hg]
theorem neq_hashes {h g : List Int} (hh : h.length = 32) (hg : g.length = 32) (x y : Operand) (w : World) : (do eqGuard .neq 57 x y (.agg (CELLS h).toArray) (.agg (CELLS g).toArray); binOp .neq 57 (.agg (CELLS h).toArray) (.agg (CELLS g).toArray) : Sem Value).run Tryd.prog w = .ok (.bool (!decide (h = g))) w := by
  simp only [Sem.run_bind, run_eqGuard_agg (P := Tryd.prog) w .neq 57 x y _ _ (by kernel_rfl), Result.andThen_ok, run_neq_struct, equal_hashes hh hg]
theorem eql_hashes {h g : List Int} (hh : h.length = 32) (hg : g.length = 32) (x y : Operand) (w : World) : (do eqGuard .eql 57 x y (.agg (CELLS h).toArray) (.agg (CELLS g).toArray); binOp .eql 57 (.agg (CELLS h).toArray) (.agg (CELLS g).toArray) : Sem Value).run Tryd.prog w = .ok (.bool (decide (h = g))) w := by
  simp only [Sem.run_bind, run_eqGuard_agg (P := Tryd.prog) w .eql 57 x y _ _ (by kernel_rfl), Result.andThen_ok, run_eql_struct, equal_hashes hh hg]
theorem info_hashn : (Tryd.prog.info? 57).map (fun i => (i.size, i.bytes, i.zero.isSome)) = some (32, 32, true) := by kernel_rfl
theorem make_nodes (N : Nat) (hN : N ≤ 1000) (w : World) : ∃ cur : Array Value, cur.size = N * 32 ∧ (Instr.makeSlice 30 (.int .i64 0) (.int .i64 (N : Int))).run Tryd.prog w = .ok (.slice (some ⟨w.heap.size, 0, none⟩) 0 N) (w.alloc (.cells cur 57)) := by
  obtain ⟨i, hi, h⟩ := Option.map_eq_some_iff.1 info_hashn
  simp only [Prod.mk.injEq] at h
  obtain ⟨h1, h2, h3⟩ := h
  obtain ⟨z, hz⟩ := Option.isSome_iff_exists.1 h3
  have h := run_make (P := Tryd.prog) w 30 57 i z Tryd.underlying30 hi hz .i64 .i64 0 N (by omega) (by omega) (by rw [h2]; omega) (by omega)
  refine ⟨madeCells z.cells (N * i.size), ?_, ?_⟩
  · rw [size_madeCells, h1]
  · simpa using h
end Go.Proofs.YtmpaifkjlhodpaaDoor
