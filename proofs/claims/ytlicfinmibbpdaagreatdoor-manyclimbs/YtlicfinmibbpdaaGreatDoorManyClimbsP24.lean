/- Texts of ManyClimbs, one behind the other: ManyNeedE, ManyWritten. -/
import Derived.Test.YtlicfinmibbpdaaGreatDoorManyClimbsP15
/- needUnder and need of package many, with the closure of Encode. -/
namespace Go.Proofs.YtlicfinmibbpdaaGreatDoor
open Go.RowKit
set_option maxRecDepth 100000

set_option maxHeartbeats 2000000 in
theorem underE_ok (w0 : World) (bi : Nat) (CP : Nat) (S P : List Nat → World → Prop) (X : List PanicEntry)
    (hS : ∀ acc w w', S acc w → Below w.heap.size w w' → S acc w') (hB : ∀ acc w, S acc w → (bi < w0.heap.size → w.heap[bi]? = w0.heap[bi]?) ∧ w0.heap.size ≤ w.heap.size)
    (ht : ∀ acc (p : Nat) w, S acc w → acc.length ≤ 2 ^ 30 → Calls Tryz.prog 68 #[.int .u64 (p : Int), .pointer (some ⟨CP, 0, none⟩)] w fun e w' => (e = .returned (.tuple #[]) ∧ S (acc ++ [p]) w') ∨ (e = .panicked X ∧ P acc w')) :
    ∀ (h k : Nat), Node h k → ∀ (L : List Nat) (a : Option Addr) (n c : Nat) (acc : List Nat) (w : World), L.length = n → n < 2 ^ 40 → RISES L → n ≤ c → (a = none → c = 0) → (∀ x, a = some x → x.block = bi ∧ x.spot = none) → NUML w0 a L → S acc w → acc.length + (NEED h k L).length ≤ 2 ^ 30 →
    Calls Tryz.prog 103 #[.int .u64 ((PLC h k : Nat) : Int), .slice a n c, .func (.func 68) #[] #[.pointer (some ⟨CP, 0, none⟩)]] w (TOLD S P X acc (NEED h k L)) := by
  intro h
  induction h with
  | zero =>
    intro k hN L a n c acc w hl hn hR hc hnil hbl hL hw hlen
    cases L with
    | nil =>
      obtain rfl : n = 0 := by simpa using hl.symm
      rw [NEED_nil] at hlen ⊢
      have ct := ht acc (PLC 0 k) w hw (by simp at hlen; omega)
      clear hl hn hR hc hnil hbl hL hw hlen ht hS hB
      go_enter Tryz.func103, Tryz.ntmps103
      go_wp2_with fail
      refine ct.mono ?_
      rintro e w1 (⟨rfl, h1⟩ | ⟨rfl, h1⟩)
      · clear ct
        have FN : Aside (S (acc ++ [PLC 0 k]) w1) := h1
        clear h1
        go_wp2_with fail
        exact bodyPost_ret (v := .tuple #[]) (by simp [results, Tryz.f103]) rfl (.inl ⟨rfl, FN.out⟩)
      · exact ⟨rfl, .inr ⟨acc, PLC 0 k, List.prefix_refl _, rfl, h1⟩⟩
    | cons x l =>
      have hn0 : ((n : Int) == 0) = false := beq_eq_false_iff_ne.2 (by simp at hl; omega)
      have ck := kids_leaf ((PLC 0 k : Nat) : Int) k w (.node hN)
      have HS : Aside (∀ w', Below w.heap.size w w' → S (acc ++ []) w') := fun w' hb => by rw [List.append_nil]; exact hS acc w w' hw hb
      clear hl hn hR hc hnil hbl hL hw hlen ht hS hB
      go_enter Tryz.func103, Tryz.ntmps103
      go_wp2_with fail
      refine ck.mono ?_
      rintro e w1 ⟨rfl, h1⟩
      clear ck
      have FN : Aside (S (acc ++ []) w1) := HS.out w1 h1
      clear h1 HS
      go_wp2_with fail
      exact bodyPost_ret (v := .tuple #[]) (by simp [results, Tryz.f103]) rfl (.inl ⟨rfl, FN.out⟩)
  | succ h ih =>
    intro k hN L a n c acc w hl hn hR hc hnil hbl hL hw hlen
    by_cases hLe : L = []
    · subst hLe
      obtain rfl : n = 0 := by simpa using hl.symm
      rw [NEED_nil] at hlen ⊢
      have ct := ht acc (PLC (h + 1) k) w hw (by simp at hlen; omega)
      clear hl hn hR hc hnil hbl hL hw hlen ht hS hB ih
      go_enter Tryz.func103, Tryz.ntmps103
      go_wp2_with fail
      refine ct.mono ?_
      rintro e w1 (⟨rfl, h1⟩ | ⟨rfl, h1⟩)
      · clear ct
        have FN : Aside (S (acc ++ [PLC (h + 1) k]) w1) := h1
        clear h1
        go_wp2_with fail
        exact bodyPost_ret (v := .tuple #[]) (by simp [results, Tryz.f103]) rfl (.inl ⟨rfl, FN.out⟩)
      · exact ⟨rfl, .inr ⟨acc, PLC (h + 1) k, List.prefix_refl _, rfl, h1⟩⟩
    · have hn0 : ((n : Int) == 0) = false := beq_eq_false_iff_ne.2 (by have := List.length_pos_iff.2 hLe; omega)
      obtain ⟨hNl, hNr⟩ := hN.kid
      have ck := kids_ok h k hN w
      have HA : Aside (L.length = n ∧ n < 2 ^ 40 ∧ RISES L ∧ n ≤ c ∧ (a = none → c = 0) ∧ (∀ x, a = some x → x.block = bi ∧ x.spot = none) ∧ NUML w0 a L ∧ S acc w ∧ acc.length + (NEED (h + 1) k L).length ≤ 2 ^ 30 ∧ L ≠ []) := ⟨hl, hn, hR, hc, hnil, hbl, hL, hw, hlen, hLe⟩
      have NS : Aside ((∀ acc w w', S acc w → Below w.heap.size w w' → S acc w') ∧ (∀ acc w, S acc w → (bi < w0.heap.size → w.heap[bi]? = w0.heap[bi]?) ∧ w0.heap.size ≤ w.heap.size) ∧ Node h (2 * k) ∧ Node h (2 * k + 1)) := ⟨hS, hB, hNl, hNr⟩
      have IH : Aside _ := ih
      clear hl hn hR hc hnil hbl hL hw hlen ht hS hB ih hNl hNr hLe
      go_enter Tryz.func103, Tryz.ntmps103
      go_wp2_with fail
      refine ck.mono ?_
      rintro e w1 ⟨rfl, hb1⟩
      clear ck
      have S1 : Aside (S acc w1) := NS.out.1 acc w w1 HA.out.2.2.2.2.2.2.2.1 hb1
      have hN1 : NUML w1 a L := fun h0 => by
        obtain ⟨b, o, e, hl, hcc⟩ := HA.out.2.2.2.2.2.2.1 h0
        have hbb : b = bi := (HA.out.2.2.2.2.2.1 _ e).1
        obtain ⟨k1, k2⟩ := NS.out.2.1 acc w1 S1.out
        subst hbb
        exact ⟨b, o, e, by omega, fun i x hx => (World.cell?_of_block (w := w0) (by exact k1 hl)).trans (hcc i x hx)⟩
      have cs := split_ok h (2 * k) NS.out.2.2.1 a n c L HA.out.1 HA.out.2.1 HA.out.2.2.1 HA.out.2.2.2.1 HA.out.2.2.2.2.1 (fun x e => (HA.out.2.2.2.2.2.1 x e).2) w1 hN1
      clear hb1 hN1
      go_wp2_with fail
      refine cs.mono ?_
      rintro e w2 ⟨r, a', rfl, hs⟩
      clear cs
      have hsp : NEED (h + 1) k L = NEED h (2 * k) (L.take r) ++ NEED h (2 * k + 1) (L.drop r) := NEED_take HA.out.2.2.2.2.2.2.2.2.2 hs.rank
      have hrn := hs.rank.le
      have ML : Aside (NUML w0 a (L.take r)) := fun h0 => by
        obtain ⟨b, o, e, hl, hcc⟩ := HA.out.2.2.2.2.2.2.1 (by rw [List.length_take] at h0; omega)
        refine ⟨b, o, e, hl, fun i x hx => hcc i x ?_⟩
        rw [List.getElem?_take] at hx
        split at hx
        · exact hx
        · cases hx
      have MR : Aside (NUML w0 a' (L.drop r) ∧ ∀ x, a' = some x → x.block = bi ∧ x.spot = none) := by
        refine ⟨fun h0 => ?_, fun x hx => ?_⟩
        · obtain ⟨b, o, e, hl, hcc⟩ := hs.lies h0
          obtain ⟨y, e2, e3⟩ := hs.block _ e
          have hbb : b = bi := by have := (HA.out.2.2.2.2.2.1 _ e2).1; rw [← e3] at this; exact this
          obtain ⟨k1, k2⟩ := NS.out.2.1 acc w1 S1.out
          obtain ⟨b', o', e', hl', _⟩ := HA.out.2.2.2.2.2.2.1 (by rw [List.length_drop] at h0; omega)
          have hbi : bi < w0.heap.size := by have h9 : b' = bi := (HA.out.2.2.2.2.2.1 _ e').1; omega
          subst hbb
          exact ⟨b, o, e, hbi, fun i x hx => (World.cell?_of_block (w := w1) (by exact (k1 hbi).symm)).trans (hcc i x hx)⟩
        · obtain ⟨y, e2, e3⟩ := hs.block x hx
          refine ⟨by rw [e3]; exact (HA.out.2.2.2.2.2.1 _ e2).1, hs.spot x hx⟩
      have S2 : Aside (S acc w2) := NS.out.1 acc w1 w2 S1.out hs.below
      have NL : Aside (a' = none → c - r = 0) := hs.nil
      have SP : Aside (NEED (h + 1) k L = NEED h (2 * k) (L.take r) ++ NEED h (2 * k + 1) (L.drop r) ∧ r ≤ n ∧ acc.length + (NEED h (2 * k) (L.take r)).length + (NEED h (2 * k + 1) (L.drop r)).length ≤ 2 ^ 30) := by
        refine ⟨hsp, by have := HA.out.1; omega, ?_⟩
        have h1 := HA.out.2.2.2.2.2.2.2.2.1
        rw [hsp, List.length_append] at h1
        omega
      clear hs hsp hrn S1
      have c1 := IH.out (2 * k) NS.out.2.2.1 (L.take r) a r c acc w2 (by rw [List.length_take]; have := SP.out.2.1; have := HA.out.1; omega) (by have := SP.out.2.1; have := HA.out.2.1; omega) (HA.out.2.2.1.take r) (by have := SP.out.2.1; have := HA.out.2.2.2.1; omega) HA.out.2.2.2.2.1 HA.out.2.2.2.2.2.1 ML.out S2.out (by have := SP.out.2.2; omega)
      go_wp2_with fail
      refine c1.mono ?_
      rintro e w3 (⟨rfl, h3⟩ | ⟨pre, p, hp, rfl, h3⟩)
      · clear c1
        have c2 := IH.out (2 * k + 1) NS.out.2.2.2 (L.drop r) a' (n - r) (c - r) (acc ++ NEED h (2 * k) (L.take r)) w3 (by rw [List.length_drop]; have := HA.out.1; omega) (by have := HA.out.2.1; omega) (HA.out.2.2.1.drop r) (by have := HA.out.2.2.2.1; omega) NL.out MR.out.2 MR.out.1 h3 (by rw [List.length_append]; exact SP.out.2.2)
        have SQ : Aside (acc ++ NEED h (2 * k) (L.take r) ++ NEED h (2 * k + 1) (L.drop r) = acc ++ NEED (h + 1) k L) := show acc ++ NEED h (2 * k) (L.take r) ++ NEED h (2 * k + 1) (L.drop r) = acc ++ NEED (h + 1) k L by rw [SP.out.1, List.append_assoc]
        clear h3 IH HA NS ML MR S2 NL SP
        go_wp2_with fail
        refine c2.mono ?_
        rintro e w4 (⟨rfl, h4⟩ | ⟨pre, p, hp, rfl, h4⟩)
        · have FN : Aside (S (acc ++ NEED (h + 1) k L) w4) := by rw [SQ.out] at h4; exact h4
          clear h4 c2 SQ
          go_wp2_with fail
          exact bodyPost_end (v := .tuple #[]) (by simp [results, Tryz.f103]) rfl (.inl ⟨rfl, FN.out⟩)
        · rw [SQ.out] at hp
          exact ⟨rfl, .inr ⟨pre, p, hp, rfl, h4⟩⟩
      · refine ⟨rfl, .inr ⟨pre, p, hp.trans ?_, rfl, h3⟩⟩
        rw [SP.out.1, ← List.append_assoc]
        exact List.prefix_append _ _
set_option maxHeartbeats 2000000 in
theorem needE_ok (bi CP : Nat) (S P : World → List Nat → World → Prop) (X : List PanicEntry)
    (hS : ∀ w0 acc w w', S w0 acc w → Below w.heap.size w w' → S w0 acc w') (hB : ∀ w0 acc w, S w0 acc w → (∀ b, b < w0.heap.size → b ≠ CP → w.heap[b]? = w0.heap[b]?) ∧ w0.heap.size ≤ w.heap.size)
    (ht : ∀ w0 acc (p : Nat) w, S w0 acc w → acc.length ≤ 2 ^ 30 → Calls Tryz.prog 68 #[.int .u64 (p : Int), .pointer (some ⟨CP, 0, none⟩)] w fun e w' => (e = .returned (.tuple #[]) ∧ S w0 (acc ++ [p]) w') ∨ (e = .panicked X ∧ P w0 acc w'))
    (N : Nat) (hN : N ≤ 4611686018427387904) (L : List Nat) (a : Option Addr) (n c : Nat) (w : World) (hl : L.length = n) (hn : n < 2 ^ 20) (hR : RISES L) (hc : n ≤ c) (hnil : a = none → c = 0) (hbl : ∀ x, a = some x → x.block = bi ∧ x.spot = none) (hL : NUML w a L) (hCb : bi ≠ CP) (hCP : CP < w.heap.size) (hT : Tabled w)
    (h0 : ∀ w1, Below w.heap.size w w1 → S w1 [] w1) :
    Calls Tryz.prog 67 #[.slice a n c, .int .u64 (N : Int), .func (.func 68) #[] #[.pointer (some ⟨CP, 0, none⟩)]] w fun e w' => ∃ w1, Below w.heap.size w w1 ∧ TOLD (S w1) (P w1) X [] (NEEDS (TPS N) L) e w' := by
  have cp := peaks_ok N hN w hT (by omega)
  have hPC : PC N ≤ 64 := PC_lt_pow 64 N (by omega)
  have hlen := TPS_length (n := N) (by omega)
  have hmost := NEEDS_most (TPS N) L (fun p hp => (TPS_span (n := N) (by omega) (h := p.1) (k := p.2) hp).1)
  have HA : Aside (n < 2 ^ 20 ∧ N ≤ 2 ^ 62 ∧ PC N ≤ 64 ∧ (TPS N).length = PC N ∧ (NEEDS (TPS N) L).length ≤ 2 ^ 30 ∧ bi ≠ CP ∧ CP < w.heap.size) := ⟨hn, by omega, hPC, hlen, by omega, hCb, hCP⟩
  have ST : Aside ((∀ w0 acc w w', S w0 acc w → Below w.heap.size w w' → S w0 acc w') ∧ (∀ w0 acc w, S w0 acc w → (∀ b, b < w0.heap.size → b ≠ CP → w.heap[b]? = w0.heap[b]?) ∧ w0.heap.size ≤ w.heap.size)) := ⟨hS, hB⟩
  have HT : Aside (∀ w0 acc (p : Nat) w, S w0 acc w → acc.length ≤ 2 ^ 30 → Calls Tryz.prog 68 #[.int .u64 (p : Int), .pointer (some ⟨CP, 0, none⟩)] w fun e w' => (e = .returned (.tuple #[]) ∧ S w0 (acc ++ [p]) w') ∨ (e = .panicked X ∧ P w0 acc w')) := ht
  have LL : Aside (L.length = n ∧ RISES L ∧ n ≤ c ∧ (a = none → c = 0) ∧ (∀ x, a = some x → x.block = bi ∧ x.spot = none) ∧ NUML w a L ∧ ∀ w1, Below w.heap.size w w1 → S w1 [] w1) := ⟨hl, hR, hc, hnil, hbl, hL, h0⟩
  clear hN hl hn hR hc hnil hbl hL hCb hCP hT h0 hS hB ht hPC hlen hmost
  go_enter Tryz.func67, Tryz.ntmps67
  go_wp2_with fail
  refine cp.mono ?_
  rintro e w1 ⟨g, cg, rfl, hown, hb1⟩
  clear cp
  obtain ⟨m, hm⟩ : ∃ m, PC N = m := ⟨_, rfl⟩
  rw [hm] at hown ⊢
  have R1 : Aside (w1.ownsRow w.heap.size 23 1 (.slice (some ⟨g, 0, none⟩) m cg) m (UCELLS (PEAKS N)) ∧ Below w.heap.size w w1 ∧ PC N = m ∧ g ≠ CP ∧ g < w1.heap.size ∧ w.heap.size ≤ g) := ⟨hown, hb1, hm, by have h1 := (hown.lt g rfl).1; have := HA.out.2.2.2.2.2.2; omega, (hown.lt g rfl).2, (hown.lt g rfl).1⟩
  have L0 : Aside (NUML w1 a L) := fun h0 => by
    obtain ⟨b, o, e, hl, hcc⟩ := LL.out.2.2.2.2.2.1 h0
    exact ⟨b, o, e, Nat.lt_of_lt_of_le hl hb1.size, fun i x hx => (hb1.cell (p := ⟨b, o + i, none⟩) hl).trans (hcc i x hx)⟩
  clear hown hb1 hm
  go_wp2_with fail
  go_loopg [0, 13] m (fun q s0 s13 wx => ∃ (j n' c' : Nat) (a' : Option Addr) (Lj told : List Nat), s0 = .slice a' n' c' ∧ s13 = .int .i64 (j : Int) ∧ Aside (j + q = m ∧ Lj.length = n' ∧ n' ≤ n ∧ RISES Lj ∧ n' ≤ c' ∧ (a' = none → c' = 0) ∧ (∀ x, a' = some x → x.block = bi ∧ x.spot = none) ∧ NUML w1 a' Lj ∧ S w1 told wx ∧ NEEDS (TPS N) L = told ++ NEEDS ((TPS N).drop j) Lj))
  case atStart => exact ⟨0, n, c, a, L, [], rfl, rfl, by omega, LL.out.1, Nat.le_refl _, LL.out.2.1, LL.out.2.2.1, LL.out.2.2.2.1, LL.out.2.2.2.2.1, L0.out, LL.out.2.2.2.2.2.2 w1 R1.out.2.1, by simp⟩
  case round =>
    obtain ⟨j, n', c', a', Lj, told, rfl, rfl, A⟩ := hrel
    clear L0 LL
    cases gk with
    | zero =>
      obtain rfl : j = m := by have := A.out.1; omega
      have hlt : ¬ (j : Int) < (j : Int) := by omega
      have FN : Aside (∃ w1, Below w.heap.size w w1 ∧ TOLD (S w1) (P w1) X [] (NEEDS (TPS N) L) (.returned (.tuple #[])) wr) := by
        obtain ⟨h1, h2, h3, h4, h5, h6, h7, h8, h9, h10⟩ := A.out
        refine ⟨w1, R1.out.2.1, .inl ⟨rfl, ?_⟩⟩
        rw [List.drop_of_length_le (by have := R1.out.2.2.1; have := HA.out.2.2.2.1; omega)] at h10
        rw [h10, NEEDS, List.append_nil, List.nil_append]
        exact h9
      clear A R1 ST HT HA
      go_wp2_with fail
      exact bodyPost_end (v := .tuple #[]) (by simp [results, Tryz.f67]) rfl FN.out
    | succ q =>
      have hlt : (j : Int) < (m : Int) := by have := A.out.1; omega
      have hjm : j < (TPS N).length := by have := A.out.1; have := R1.out.2.2.1; have := HA.out.2.2.2.1; omega
      obtain ⟨⟨h, k⟩, ehk⟩ : ∃ s, (TPS N)[j]? = some s := ⟨_, List.getElem?_eq_getElem hjm⟩
      have hsp := TPS_span HA.out.2.1 (List.mem_of_getElem? ehk)
      have epk := TPS_peak ehk
      obtain ⟨k1, k2⟩ := ST.out.2 w1 told wr A.out.2.2.2.2.2.2.2.2.1
      have hcell : wr.cell? ⟨g, j, none⟩ = some (.int .u64 ((PLC h k : Nat) : Int)) := by
        have h1 := R1.out.1.cellAt j (by have := A.out.1; omega)
        refine (World.cell?_of_block (w := w1) (by exact k1 g R1.out.2.2.2.2.1 R1.out.2.2.2.1)).trans (h1.trans ?_)
        rw [UCELLS, List.getElem?_map, epk]
        rfl
      have ej : wrap64 ((j : Int) + 1) = ((j + 1 : Nat) : Int) := by have := A.out.1; have := R1.out.2.2.1; have := HA.out.2.2.1; unfold wrap64; omega
      have hN1 : NUML wr a' Lj := fun h0 => by
        obtain ⟨b, o, e, hl, hcc⟩ := A.out.2.2.2.2.2.2.2.1 h0
        have hbb : b = bi := (A.out.2.2.2.2.2.2.1 _ e).1
        exact ⟨b, o, e, by omega, fun i x hx => (World.cell?_of_block (w := w1) (by exact k1 b hl (by rw [hbb]; exact HA.out.2.2.2.2.2.1))).trans (hcc i x hx)⟩
      have cs := split_ok h k hsp.2.2 a' n' c' Lj A.out.2.1 (by have := A.out.2.2.1; have := HA.out.1; omega) A.out.2.2.2.1 A.out.2.2.2.2.1 A.out.2.2.2.2.2.1 (fun x e => (A.out.2.2.2.2.2.2.1 x e).2) wr hN1
      have SP : Aside (Node h k ∧ (TPS N)[j]? = some (h, k) ∧ j < (TPS N).length) := ⟨hsp.2.2, ehk, hjm⟩
      clear hsp ehk epk k1 k2 hN1 hjm
      go_wp2_with fail
      refine cs.mono ?_
      rintro e w2 ⟨r, a2, rfl, hs⟩
      clear cs hcell
      have hdrop : (TPS N).drop j = (h, k) :: (TPS N).drop (j + 1) := drop_at SP.out.2.1
      have hneed := NEEDS_take ((TPS N).drop (j + 1)) hs.rank
      rw [← hdrop] at hneed
      have hrn := hs.rank.le
      have S2 : S w1 told w2 := ST.out.1 w1 told wr w2 A.out.2.2.2.2.2.2.2.2.1 hs.below
      have MR : Aside (NUML w1 a2 (Lj.drop r) ∧ (∀ x, a2 = some x → x.block = bi ∧ x.spot = none) ∧ (a2 = none → c' - r = 0) ∧ r ≤ n' ∧ NUML w1 a' (Lj.take r) ∧ NEEDS ((TPS N).drop j) Lj = NEED h k (Lj.take r) ++ NEEDS ((TPS N).drop (j + 1)) (Lj.drop r)) := by
        refine ⟨fun h0 => ?_, fun x hx => ?_, hs.nil, by have := A.out.2.1; omega, fun h0 => ?_, hneed⟩
        · obtain ⟨b, o, e, hl, hcc⟩ := hs.lies h0
          obtain ⟨y, e2, e3⟩ := hs.block _ e
          have hbb : b = bi := by have := (A.out.2.2.2.2.2.2.1 _ e2).1; rw [← e3] at this; exact this
          obtain ⟨k1, k2⟩ := ST.out.2 w1 told wr A.out.2.2.2.2.2.2.2.2.1
          obtain ⟨b', o', e', hl', _⟩ := A.out.2.2.2.2.2.2.2.1 (by rw [List.length_drop] at h0; omega)
          have hbi : bi < w1.heap.size := by have h9 : b' = bi := (A.out.2.2.2.2.2.2.1 _ e').1; omega
          subst hbb
          exact ⟨b, o, e, hbi, fun i x hx => (World.cell?_of_block (w := wr) (by exact (k1 b hbi HA.out.2.2.2.2.2.1).symm)).trans (hcc i x hx)⟩
        · obtain ⟨y, e2, e3⟩ := hs.block x hx
          exact ⟨by rw [e3]; exact (A.out.2.2.2.2.2.2.1 _ e2).1, hs.spot x hx⟩
        · obtain ⟨b, o, e, hl, hcc⟩ := A.out.2.2.2.2.2.2.2.1 (by rw [List.length_take] at h0; omega)
          refine ⟨b, o, e, hl, fun i x hx => hcc i x ?_⟩
          rw [List.getElem?_take] at hx
          split at hx
          · exact hx
          · cases hx
      have TL : Aside (told.length + (NEED h k (Lj.take r)).length ≤ 2 ^ 30 ∧ NEEDS (TPS N) L = told ++ NEED h k (Lj.take r) ++ NEEDS ((TPS N).drop (j + 1)) (Lj.drop r)) := by
        have h1 := A.out.2.2.2.2.2.2.2.2.2
        rw [MR.out.2.2.2.2.2, ← List.append_assoc] at h1
        refine ⟨?_, h1⟩
        have h2 := HA.out.2.2.2.2.1
        rw [h1, List.length_append, List.length_append] at h2
        omega
      have cu := underE_ok w1 bi CP (S w1) (P w1) X (ST.out.1 w1) (fun acc w hw => ⟨fun hbi => (ST.out.2 w1 acc w hw).1 bi hbi HA.out.2.2.2.2.2.1, (ST.out.2 w1 acc w hw).2⟩) (HT.out w1) h k SP.out.1 (Lj.take r) a' r c' told w2 (by rw [List.length_take]; have := A.out.2.1; have := MR.out.2.2.2.1; omega) (by have := MR.out.2.2.2.1; have := A.out.2.2.1; have := HA.out.1; omega) (A.out.2.2.2.1.take r) (by have := MR.out.2.2.2.1; have := A.out.2.2.2.2.1; omega) A.out.2.2.2.2.2.1 A.out.2.2.2.2.2.2.1 MR.out.2.2.2.2.1 S2 TL.out.1
      clear hs hdrop hneed hrn S2
      go_wp2_with fail
      refine cu.mono ?_
      rintro e w3 (⟨rfl, h3⟩ | ⟨pre, p, hp, rfl, h3⟩)
      · have Z : Aside (j + 1 + q = m ∧ (Lj.drop r).length = n' - r ∧ n' - r ≤ n ∧ RISES (Lj.drop r) ∧ n' - r ≤ c' - r ∧ (a2 = none → c' - r = 0) ∧ (∀ x, a2 = some x → x.block = bi ∧ x.spot = none) ∧ NUML w1 a2 (Lj.drop r) ∧ S w1 (told ++ NEED h k (Lj.take r)) w3 ∧ NEEDS (TPS N) L = (told ++ NEED h k (Lj.take r)) ++ NEEDS ((TPS N).drop (j + 1)) (Lj.drop r)) := by
          obtain ⟨h1, h2, _, h4, h5, _⟩ := A.out
          refine ⟨by clear ej; omega, by rw [List.length_drop, h2], by have := A.out.2.2.1; clear ej; omega, h4.drop r, by clear ej; omega, MR.out.2.2.1, MR.out.2.1, MR.out.1, h3, TL.out.2⟩
        clear h3 cu A MR TL SP R1
        go_wp2_with fail
        go_roundg q
        case measure => exact Nat.lt_succ_self _
        case rel => exact ⟨j + 1, n' - r, c' - r, a2, Lj.drop r, told ++ NEED h k (Lj.take r), rfl, by first | rfl | (rw [ej]), Z.out⟩
      · refine ⟨rfl, w1, R1.out.2.1, .inr ⟨pre, p, hp.trans ?_, rfl, h3⟩⟩
        rw [List.nil_append, TL.out.2]
        exact List.prefix_append _ _
end Go.Proofs.YtlicfinmibbpdaaGreatDoor

/- written of package many: a proof in bytes. -/
namespace Go.Proofs.YtlicfinmibbpdaaGreatDoor
open Go.RowKit
set_option maxRecDepth 100000

/-- what each index is above the least that it can be. -/
def DIFS : Nat → List Nat → List Int
  | _, [] => []
  | k, x :: l => SHORT (x - k) ++ DIFS (x + 1) l
/-- the bytes of a proof. -/
def MWRT (L : List Nat) (N : Nat) (l : List Int) : List Int := 78 :: (SHORT N ++ SHORT L.length ++ DIFS 0 L ++ l)
/-- the least that the j-th index can be. -/
def LSX (L : List Nat) (j : Nat) : Nat := match AHD L j with | none => 0 | some y => y + 1
theorem LSX_zero (L : List Nat) : LSX L 0 = 0 := rfl
theorem LSX_next {L : List Nat} {j x : Nat} (h : L[j]? = some x) : LSX L (j + 1) = x + 1 := by
  unfold LSX
  rw [show AHD L (j + 1) = some x from h]
theorem LSX_le {L : List Nat} (hR : RISES L) {j x : Nat} (h : L[j]? = some x) : LSX L j ≤ x := by
  cases j with
  | zero => exact Nat.zero_le _
  | succ i =>
    have hi : i < L.length := by have := (List.getElem?_eq_some_iff.1 h).1; omega
    have e := List.getElem?_eq_getElem hi
    rw [LSX_next e]
    exact hR i (i + 1) _ _ (by omega) e h
/-- a proof as it lies in a box. -/
def MBOX (N : Nat) (a : Option Addr) (m c : Nat) (an : Option Addr) (K cn : Nat) : Array Value := #[.int .u64 (N : Int), .slice a m c, .slice an K cn]
theorem u64_gap {x k : Nat} (h : k ≤ x) (hx : x < 2 ^ 64) : IntKind.u64.wrap ((x : Int) - (k : Int)) = ((x - k : Nat) : Int) := by
  rw [wrapU]; omega
theorem u64_up {x : Nat} (hx : x < 2 ^ 63) : IntKind.u64.wrap ((x : Int) + 1) = ((x + 1 : Nat) : Int) := by
  rw [wrapU]; omega
theorem u64_len {x : Nat} (hx : x < 2 ^ 63) : IntKind.u64.wrap (x : Int) = (x : Int) := by
  rw [wrapU]; omega
set_option maxHeartbeats 2000000 in
theorem manywritten_ok (L : List Nat) (N : Nat) (hN : N < 2 ^ 64) (a : Option Addr) (m c : Nat) (an : Option Addr) (K cn : Nat) (l : List Int) (w : World) (hl : L.length = m) (hm : m < 2 ^ 20) (hK : K < 2 ^ 20) (hR : RISES L) (hx : ∀ x ∈ L, x < 2 ^ 62) (hL : NUML w a L) (hF : Flat w an K l) :
    Calls Tryz.prog 51 #[.agg (MBOX N a m c an K cn)] w fun e w' => ∃ v, e = .returned v ∧ w'.ownsRow w.heap.size 5 1 v (MWRT L N l).length (CELLS (MWRT L N l)) ∧ Below w.heap.size w w' := by
  have c1 := short_ok N hN
  have c2 := short_ok m (by omega)
  have hl1 := SHORT_length N
  have hl2 := SHORT_length m
  have h91 := NTOP_le N
  have h92 := NTOP_le m
  have hr1 := SHORT_range hN
  have hr2 := SHORT_range (X := m) (by omega)
  have eL : MWRT L N l = [78] ++ SHORT N ++ SHORT m ++ DIFS 0 L ++ l := by unfold MWRT; rw [hl]; simp
  obtain ⟨Z, hZ⟩ : ∃ Z, MWRT L N l = Z := ⟨_, rfl⟩
  rw [hZ]
  obtain ⟨NZ, hNZ⟩ : ∃ N, Z.length = N := ⟨_, rfl⟩
  rw [hNZ]
  generalize hSX : SHORT N = SX at *
  generalize hSY : SHORT m = SY at *
  have hn1 : 0 < NTOP N + 1 := by omega
  have hn2 : 0 < NTOP m + 1 := by omega
  have hm1 : NTOP N + 1 ≤ 10 := by omega
  have hm2 : NTOP m + 1 ≤ 10 := by omega
  clear h91 h92 hSX hSY
  generalize NTOP N + 1 = nx at *
  generalize NTOP m + 1 = ny at *
  have HA : Aside (Flat w an K l ∧ K < 2 ^ 20 ∧ SX.length = nx ∧ SY.length = ny ∧ nx ≤ 10 ∧ ny ≤ 10 ∧ (∀ x ∈ SX, 0 ≤ x ∧ x ≤ 255) ∧ (∀ x ∈ SY, 0 ≤ x ∧ x ≤ 255)) := ⟨hF, hK, hl1, hl2, hm1, hm2, hr1, hr2⟩
  have HL : Aside ([78] ++ SX ++ SY ++ DIFS 0 L ++ l = Z ∧ Z.length = NZ) := ⟨by rw [← hZ, eL], hNZ⟩
  have HI : Aside (L.length = m ∧ m < 2 ^ 20 ∧ RISES L ∧ (∀ x ∈ L, x < 2 ^ 62) ∧ NUML w a L) := ⟨hl, hm, hR, hx, hL⟩
  have eum := u64_len (x := m) (by omega)
  clear hF hK hl1 hl2 hm1 hm2 hr1 hr2 hZ hNZ hN eL hl hm hR hx hL
  obtain ⟨w0, hw0⟩ : ∃ w0, w.alloc (.cells (MBOX N a m c an K cn) 26) = w0 := ⟨_, rfl⟩
  have h1 : Has w0 w.heap.size (MBOX N a m c an K cn) 26 := by rw [← hw0]; exact Has.new w _ _
  have hb0 : Below w.heap.size w w0 := by rw [← hw0]; exact (Below.refl _ _).alloc (Nat.le_refl _) _
  have hM : (MBOX N a m c an K cn) = #[.int .u64 (N : Int), .slice a m c, .slice an K cn] := rfl
  have CC : Aside (∀ W, Below w0.heap.size w0 W → W.cell? ⟨w.heap.size, 0, none⟩ = some (.int .u64 (N : Int)) ∧ W.cell? ⟨w.heap.size, 1, none⟩ = some (.slice a m c) ∧ W.cell? ⟨w.heap.size, 2, none⟩ = some (.slice an K cn)) := fun W hb => ⟨(h1.keep hb).cell 0, (h1.keep hb).cell 1, (h1.keep hb).cell 2⟩
  have B0 : Aside (Below w.heap.size w w0) := hb0
  rw [hM] at hw0
  have R0 : Aside ((w0.alloc (.cells #[.int .u8 78] 5)).ownsRow w0.heap.size 5 1 (.slice (some ⟨w0.heap.size, 0, none⟩) 1 1) 1 (CELLS [78]) ∧ Below w0.heap.size w0 (w0.alloc (.cells #[.int .u8 78] 5))) := ⟨own_one w0 78, (Below.refl _ _).alloc (Nat.le_refl _) _⟩
  have x0 := (CC.out _ R0.out.2).1
  clear h1 hb0
  go_enter Tryz.func51, Tryz.ntmps51
  rw [hM]
  go_wp2_with fail
  generalize w0.alloc (.cells #[.int .u8 78] 5) = w1 at *
  refine (c1 _).mono ?_
  rintro e w2 ⟨g, cap, rfl, hown, hg, hb⟩
  clear c1 x0 hw0
  have R1 : Aside (w2.ownsRow w0.heap.size 5 1 (.slice (some ⟨w0.heap.size, 0, none⟩) 1 1) 1 (CELLS [78]) ∧ Below w0.heap.size w0 w2 ∧ Bytes w2 (some ⟨g, 0, none⟩) nx SX) := ⟨own_below R0.out.1 hb, R0.out.2.trans (hb.mono R0.out.2.size), own_bytes hown hg HA.out.2.2.2.2.2.2.1⟩
  clear hown hg hb R0
  go_wp2_with (first
    | (at_builtin; refine app_u8 _ rfl (.tmp 10) (.tmp 13) rfl w0.heap.size _ 1 [78] rfl R1.out.1 g 0 nx cap SX rfl R1.out.2.2 hn1 (by have := HA.out.2.2.2.2.1; omega) R1.out.2.1.size ?_; intro g3 cap3 w3 hown hgrow hg
       have R2 : Aside (w3.ownsRow w0.heap.size 5 1 (.slice (some ⟨g3, 0, none⟩) (1 + nx) cap3) (1 + nx) (CELLS ([78] ++ SX)) ∧ Below w0.heap.size w0 w3) := ⟨hown, R1.out.2.1.grown hgrow R1.out.2.1.size (fun k e => (R1.out.1.lt k e).1)⟩
       have x1 := (CC.out _ R2.out.2).2.1
       clear hown hgrow hg R1))
  refine (c2 _).mono ?_
  rintro e w4 ⟨g4, cap4, rfl, hown, hg, hb⟩
  clear c2 x1 eum
  have R3 : Aside (w4.ownsRow w0.heap.size 5 1 (.slice (some ⟨g3, 0, none⟩) (1 + nx) cap3) (1 + nx) (CELLS ([78] ++ SX)) ∧ Below w0.heap.size w0 w4 ∧ Bytes w4 (some ⟨g4, 0, none⟩) ny SY) := ⟨own_below R2.out.1 hb, R2.out.2.trans (hb.mono R2.out.2.size), own_bytes hown hg HA.out.2.2.2.2.2.2.2⟩
  clear hown hg hb R2
  go_wp2_with (first
    | (at_builtin; refine app_u8 _ rfl (.tmp 15) (.tmp 20) rfl w0.heap.size _ (1 + nx) ([78] ++ SX) rfl R3.out.1 g4 0 ny cap4 SY rfl R3.out.2.2 hn2 (by have := HA.out.2.2.2.2; omega) R3.out.2.1.size ?_; intro g5 cap5 w5 hown hgrow hg
       have R4 : Aside (w5.ownsRow w0.heap.size 5 1 (.slice (some ⟨g5, 0, none⟩) (1 + nx + ny) cap5) (1 + nx + ny) (CELLS ([78] ++ SX ++ SY)) ∧ Below w0.heap.size w0 w5) := ⟨hown, R3.out.2.1.grown hgrow R3.out.2.1.size (fun k e => (R3.out.1.lt k e).1)⟩
       have x1 := (CC.out _ R4.out.2).2.1
       clear hown hgrow hg R3))
  clear x1
  have HP : Aside (1 + nx + ny ≤ 21) := by
    obtain ⟨_, _, _, _, h5, h6, _⟩ := HA.out
    show 1 + nx + ny ≤ 21
    omega
  generalize [78] ++ SX ++ SY = PRE at *
  generalize 1 + nx + ny = np at *
  go_loopg [3, 4, 25] m (fun q s3 s4 s25 wx => ∃ (j k np' : Nat) (v : Value) (pre : List Int), v = s3 ∧ s4 = .int .u64 (k : Int) ∧ s25 = .int .i64 (j : Int) ∧ Aside (j + q = m ∧ k = LSX L j ∧ wx.ownsRow w0.heap.size 5 1 v np' (CELLS (PRE ++ pre)) ∧ pre ++ DIFS k (L.drop j) = DIFS 0 L ∧ np' ≤ 21 + 10 * j ∧ Below w0.heap.size w0 wx))
  case atStart => exact ⟨0, 0, np, _, [], rfl, rfl, rfl, by omega, rfl, by simpa using R4.out.1, by simp, HP.out, R4.out.2⟩
  case round =>
    obtain ⟨j, k, np', v, pre, rfl, rfl, rfl, A⟩ := hrel
    clear R4 HP
    cases gk with
    | succ q =>
      have hjm : j < m := by have := A.out.1; omega
      have hlt : (j : Int) < (m : Int) := by omega
      obtain ⟨x, ex⟩ : ∃ x, L[j]? = some x := ⟨_, List.getElem?_eq_getElem (by have := HI.out.1; omega)⟩
      obtain ⟨b, o, rfl, hb, hcc⟩ := HI.out.2.2.2.2 (by have := HI.out.1; omega)
      have hx62 := HI.out.2.2.2.1 x (List.mem_of_getElem? ex)
      have x0 : wr.cell? ⟨b, o + j, none⟩ = some (.int .u64 (x : Int)) := (A.out.2.2.2.2.2.cell (p := ⟨b, o + j, none⟩) (by have := B0.out.size; show b < w0.heap.size; omega)).trans ((B0.out.cell (p := ⟨b, o + j, none⟩) hb).trans (hcc j x ex))
      have hle : k ≤ x := by rw [A.out.2.1]; exact LSX_le HI.out.2.2.1 ex
      have eg := u64_gap hle (by omega)
      have eu := u64_up (x := x) (by omega)
      have ej : wrap64 ((j : Int) + 1) = ((j + 1 : Nat) : Int) := by have := HI.out.2.1; unfold wrap64; omega
      have cs := short_ok (x - k) (by omega)
      have hsl := SHORT_length (x - k)
      have hsn := NTOP_le (x - k)
      have hsr := SHORT_range (X := x - k) (by omega)
      have hdif : pre ++ (SHORT (x - k) ++ DIFS (x + 1) (L.drop (j + 1))) = DIFS 0 L := by
        have h1 := A.out.2.2.2.1
        rw [drop_step ex, DIFS] at h1
        exact h1
      have A2 : Aside (j + 1 + q = m ∧ x + 1 = LSX L (j + 1) ∧ wr.ownsRow w0.heap.size 5 1 v np' (CELLS (PRE ++ pre)) ∧ pre ++ (SHORT (x - k) ++ DIFS (x + 1) (L.drop (j + 1))) = DIFS 0 L ∧ np' ≤ 21 + 10 * j ∧ Below w0.heap.size w0 wr ∧ (SHORT (x - k)).length = NTOP (x - k) + 1 ∧ NTOP (x - k) + 1 ≤ 10 ∧ (∀ y ∈ SHORT (x - k), 0 ≤ y ∧ y ≤ 255) ∧ j < 2 ^ 20) := ⟨by have := A.out.1; clear ej eg eu; omega, (LSX_next ex).symm, A.out.2.2.1, hdif, A.out.2.2.2.2.1, A.out.2.2.2.2.2, hsl, by clear ej eg eu; omega, hsr, by have := HI.out.2.1; clear ej eg eu; omega⟩
      have hs0 : 0 < NTOP (x - k) + 1 := Nat.succ_pos _
      generalize hSD : SHORT (x - k) = SD at *
      generalize NTOP (x - k) + 1 = nd at *
      generalize x - k = xk at *
      clear A hdif hsl hsr hle hx62 ex hjm hcc hb hSD hsn
      go_wp2_with fail
      refine (cs _).mono ?_
      rintro e w6 ⟨g6, cap6, rfl, hown, hg, hb⟩
      clear cs x0
      have R5 : Aside (w6.ownsRow w0.heap.size 5 1 v np' (CELLS (PRE ++ pre)) ∧ Below w0.heap.size w0 w6 ∧ Bytes w6 (some ⟨g6, 0, none⟩) nd SD) := ⟨own_below A2.out.2.2.1 hb, A2.out.2.2.2.2.2.1.trans (hb.mono A2.out.2.2.2.2.2.1.size), own_bytes hown hg A2.out.2.2.2.2.2.2.2.2.1⟩
      clear hown hg hb
      go_wp2_with (first
        | (at_builtin; refine app_u8 _ rfl (.tmp 29) (.tmp 33) rfl w0.heap.size v np' (PRE ++ pre) rfl R5.out.1 g6 0 nd cap6 SD rfl R5.out.2.2 hs0 (by have := A2.out; omega) R5.out.2.1.size ?_; intro g7 cap7 w7 hown hgrow hg
           have Z7 : Aside (j + 1 + q = m ∧ x + 1 = LSX L (j + 1) ∧ w7.ownsRow w0.heap.size 5 1 (.slice (some ⟨g7, 0, none⟩) (np' + nd) cap7) (np' + nd) (CELLS (PRE ++ (pre ++ SD))) ∧ (pre ++ SD) ++ DIFS (x + 1) (L.drop (j + 1)) = DIFS 0 L ∧ np' + nd ≤ 21 + 10 * (j + 1) ∧ Below w0.heap.size w0 w7) := ⟨A2.out.1, A2.out.2.1, by rw [← List.append_assoc]; exact hown, by rw [List.append_assoc]; exact A2.out.2.2.2.1, by have := A2.out; omega, R5.out.2.1.grown hgrow R5.out.2.1.size (fun k e => (R5.out.1.lt k e).1)⟩
           clear hown hgrow hg R5 A2))
      go_roundg q
      case measure => exact Nat.lt_succ_self _
      case rel => exact ⟨j + 1, x + 1, np' + nd, _, pre ++ SD, rfl, by first | rfl | exact congrArg (Value.int IntKind.u64) eu, by first | rfl | (rw [ej]), Z7.out⟩
    | zero =>
      obtain rfl : j = m := by have := A.out.1; omega
      have hlt : ¬ (j : Int) < (j : Int) := by omega
      have x2 := (CC.out _ A.out.2.2.2.2.2).2.2
      have A3 : Aside (wr.ownsRow w0.heap.size 5 1 v np' (CELLS (PRE ++ DIFS 0 L)) ∧ np' ≤ 2 ^ 24 ∧ Below w0.heap.size w0 wr) := by
        obtain ⟨h1, h2, h3, h4, h5, h6⟩ := A.out
        rw [List.drop_of_length_le (by have := HI.out.1; omega), DIFS, List.append_nil] at h4
        rw [h4] at h3
        exact ⟨h3, by have := HI.out.2.1; omega, h6⟩
      clear A
      go_wp2_with fail
      clear x2
      obtain ⟨PP, hPP⟩ : ∃ PP, PRE ++ DIFS 0 L = PP := ⟨_, rfl⟩
      have HZ : Aside (PP ++ l = Z) := show PP ++ l = Z by rw [← hPP]; exact HL.out.1
      rw [hPP] at A3
      clear hPP
      go_loopg [3, 41] K (fun q s3 s41 wx => ∃ (i : Nat) (u : Value), u = s3 ∧ s41 = .int .i64 (i : Int) ∧ Aside (i + q = K ∧ wx.ownsRow w0.heap.size 5 1 u (np' + 32 * i) (CELLS (PP ++ l.take (32 * i))) ∧ Below w0.heap.size w0 wx))
      case atStart => exact ⟨0, _, rfl, rfl, by omega, by simpa using A3.out.1, A3.out.2.2⟩
      case round =>
        obtain ⟨i, u, rfl, rfl, A⟩ := hrel
        cases gk with
        | zero =>
          obtain ⟨hi, hown, hbel⟩ := A.out
          obtain rfl : i = K := by omega
          have hlt2 : ¬ (i : Int) < (i : Int) := by omega
          have R : Aside (wr.ownsRow w.heap.size 5 1 u NZ (CELLS Z) ∧ Below w.heap.size w wr) := by
            rw [List.take_of_length_le (by have := HA.out.1.1; omega), HZ.out] at hown
            have := own_len hown
            rw [HL.out.2] at this
            rw [← this] at hown
            exact ⟨own_mono hown B0.out.size, B0.out.trans (hbel.mono B0.out.size)⟩
          clear hi hown hbel A HA HL HI A3
          go_wp2
          go_ret
          exact ⟨_, rfl, R.out.1, R.out.2⟩
        | succ q =>
          obtain ⟨hi, hown, hbel⟩ := A.out
          have hK20 := HA.out.2.1
          have a1 : Flat wr an K l := (HA.out.1.below B0.out).below hbel
          have hlt2 : (i : Int) < (K : Int) := by omega
          obtain ⟨b, o, rfl, hbl, hc⟩ := a1.2.1 (by omega)
          have hat := a1.at (show i < K by omega)
          have h32 := HSH_length a1.1 (show i < K by omega)
          have hrr : ∀ x ∈ HSH l i, 0 ≤ x ∧ x ≤ 255 := fun x hx => a1.2.2 x (HSH_mem hx)
          have hnx := HSH_next l i
          have e1 : wrap64 ((i : Int) + 1) = ((i + 1 : Nat) : Int) := by unfold wrap64; omega
          have R : Aside (i + 1 + q = K ∧ K < 2 ^ 20 ∧ np' ≤ 2 ^ 24 ∧ wr.ownsRow w0.heap.size 5 1 u (np' + 32 * i) (CELLS (PP ++ l.take (32 * i))) ∧ Below w0.heap.size w0 wr ∧ (HSH l i).length = 32 ∧ (∀ x ∈ HSH l i, 0 ≤ x ∧ x ≤ 255) ∧ PP ++ l.take (32 * (i + 1)) = PP ++ l.take (32 * i) ++ HSH l i) := ⟨by clear e1; omega, hK20, A3.out.2.1, hown, hbel, h32, hrr, by rw [hnx, List.append_assoc]⟩
          generalize HSH l i = H at *
          clear hi hown hbel a1 hbl hc hrr hnx A hK20 A3
          go_wp2_with (first
            | (refine wpList_load_mid rfl 38 (.tmp 43) rfl b (o + i * 32) rfl (CELLS H) _ hat Tryz.underlying38 rfl (info_cells h32) ?_)
            | (refine wpList_store_row rfl 38 (.tmp 8) (.tmp 44) rfl _ _ rfl rfl 38 _ (Has.new wr _ _) (info_arr h32) (by simp [CELLS, h32]) (cells_one H) ?_; rw [World.setRow_alloc_new])
            | (at_builtin; refine app_u8 _ rfl (.tmp 45) (.tmp 46) rfl w0.heap.size u (np' + 32 * i) _ rfl (R.out.2.2.2.1.alloc _) wr.heap.size 0 32 32 H rfl (box_bytes wr R.out.2.2.2.2.2.1 R.out.2.2.2.2.2.2.1 _) (by omega) (by have := R.out.1; have := R.out.2.1; have := R.out.2.2.1; omega) (by have := R.out.2.2.2.2.1.size; simp; omega) ?_; intro g6 cap6 w6 hown hgrow hg
               have R2 : Aside (i + 1 + q = K ∧ w6.ownsRow w0.heap.size 5 1 (.slice (some ⟨g6, 0, none⟩) (np' + 32 * i + 32) cap6) (np' + 32 * (i + 1)) (CELLS (PP ++ l.take (32 * (i + 1)))) ∧ Below w0.heap.size w0 w6) := by
                 obtain ⟨r1, r2, r3, r4, r5, r6, r7, r8⟩ := R.out
                 refine ⟨r1, ?_, (r5.alloc r5.size _).grown hgrow (by have := r5.size; simp; omega) (fun k e => (r4.lt k e).1)⟩
                 rw [r8, show np' + 32 * (i + 1) = np' + 32 * i + 32 by omega]
                 exact hown
               clear hown hgrow hg R hat h32))
          go_roundg q
          case measure => exact Nat.lt_succ_self _
          case rel => exact ⟨i + 1, _, rfl, by first | rfl | (rw [e1]), R2.out⟩
end Go.Proofs.YtlicfinmibbpdaaGreatDoor
