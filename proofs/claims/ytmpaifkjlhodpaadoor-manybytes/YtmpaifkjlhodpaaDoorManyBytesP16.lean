/- Texts of ManyBytes, one behind the other: ManyNeedD, ProofSame. -/
import Derived.Test.YtmpaifkjlhodpaaDoorManyBytesP7
import Derived.Test.YtmpaifkjlhodpaaDoorManyBytesP10
import Derived.Test.YtmpaifkjlhodpaaDoorManyBytesP11
import Derived.Test.YtmpaifkjlhodpaaDoorManyBytesP13
/- needUnder and need of package many, with the closure of Decode. -/
namespace Go.Proofs.YtmpaifkjlhodpaaDoor
open Go.RowKit
set_option maxRecDepth 100000

set_option maxHeartbeats 2000000 in
theorem underD_ok (w0 : World) (bi : Nat) (CP QB : Nat) (S P : List Nat → World → Prop) (X : List PanicEntry)
    (hS : ∀ acc w w', S acc w → Below w.heap.size w w' → S acc w') (hB : ∀ acc w, S acc w → (bi < w0.heap.size → w.heap[bi]? = w0.heap[bi]?) ∧ w0.heap.size ≤ w.heap.size)
    (ht : ∀ acc (p : Nat) w, S acc w → acc.length ≤ 2 ^ 30 → Calls Tryd.prog 54 #[.int .u64 (p : Int), .pointer (some ⟨CP, 0, none⟩), .pointer (some ⟨QB, 0, none⟩)] w fun e w' => (e = .returned (.tuple #[]) ∧ S (acc ++ [p]) w') ∨ (e = .panicked X ∧ P acc w')) :
    ∀ (h k : Nat), Node h k → ∀ (L : List Nat) (a : Option Addr) (n c : Nat) (acc : List Nat) (w : World), L.length = n → n < 2 ^ 40 → RISES L → n ≤ c → (a = none → c = 0) → (∀ x, a = some x → x.block = bi ∧ x.spot = none) → NUML w0 a L → S acc w → acc.length + (NEED h k L).length ≤ 2 ^ 30 →
    Calls Tryd.prog 48 #[.int .u64 ((PLC h k : Nat) : Int), .slice a n c, .func (.func 54) #[] #[.pointer (some ⟨CP, 0, none⟩), .pointer (some ⟨QB, 0, none⟩)]] w (TOLD S P X acc (NEED h k L)) := by
  intro h
  induction h with
  | zero =>
    intro k hN L a n c acc w hl hn hR hc hnil hbl hL hw hlen
    cases L with
    | nil =>
      obtain rfl : n = 0 := by simpa using hl.symm
      rw [NEED_nil] at hlen ⊢
      have ct := ht acc (PLC 0 k) w hw (by simp at hlen; omega)
      clear hl hn hR hc hnil hbl hL hw hlen ht hS hB
      go_enter Tryd.func48, Tryd.ntmps48
      go_wp2_with fail
      refine ct.mono ?_
      rintro e w1 (⟨rfl, h1⟩ | ⟨rfl, h1⟩)
      · clear ct
        have FN : Aside (S (acc ++ [PLC 0 k]) w1) := h1
        clear h1
        go_wp2_with fail
        exact bodyPost_ret (v := .tuple #[]) (by simp [results, Tryd.f48]) rfl (.inl ⟨rfl, FN.out⟩)
      · exact ⟨rfl, .inr ⟨acc, PLC 0 k, List.prefix_refl _, rfl, h1⟩⟩
    | cons x l =>
      have hn0 : ((n : Int) == 0) = false := beq_eq_false_iff_ne.2 (by simp at hl; omega)
      have ck := kids_leaf ((PLC 0 k : Nat) : Int) k w (.node hN)
      have HS : Aside (∀ w', Below w.heap.size w w' → S (acc ++ []) w') := fun w' hb => by rw [List.append_nil]; exact hS acc w w' hw hb
      clear hl hn hR hc hnil hbl hL hw hlen ht hS hB
      go_enter Tryd.func48, Tryd.ntmps48
      go_wp2_with fail
      refine ck.mono ?_
      rintro e w1 ⟨rfl, h1⟩
      clear ck
      have FN : Aside (S (acc ++ []) w1) := HS.out w1 h1
      clear h1 HS
      go_wp2_with fail
      exact bodyPost_ret (v := .tuple #[]) (by simp [results, Tryd.f48]) rfl (.inl ⟨rfl, FN.out⟩)
  | succ h ih =>
    intro k hN L a n c acc w hl hn hR hc hnil hbl hL hw hlen
    by_cases hLe : L = []
    · subst hLe
      obtain rfl : n = 0 := by simpa using hl.symm
      rw [NEED_nil] at hlen ⊢
      have ct := ht acc (PLC (h + 1) k) w hw (by simp at hlen; omega)
      clear hl hn hR hc hnil hbl hL hw hlen ht hS hB ih
      go_enter Tryd.func48, Tryd.ntmps48
      go_wp2_with fail
      refine ct.mono ?_
      rintro e w1 (⟨rfl, h1⟩ | ⟨rfl, h1⟩)
      · clear ct
        have FN : Aside (S (acc ++ [PLC (h + 1) k]) w1) := h1
        clear h1
        go_wp2_with fail
        exact bodyPost_ret (v := .tuple #[]) (by simp [results, Tryd.f48]) rfl (.inl ⟨rfl, FN.out⟩)
      · exact ⟨rfl, .inr ⟨acc, PLC (h + 1) k, List.prefix_refl _, rfl, h1⟩⟩
    · have hn0 : ((n : Int) == 0) = false := beq_eq_false_iff_ne.2 (by have := List.length_pos_iff.2 hLe; omega)
      obtain ⟨hNl, hNr⟩ := hN.kid
      have ck := kids_ok h k hN w
      have HA : Aside (L.length = n ∧ n < 2 ^ 40 ∧ RISES L ∧ n ≤ c ∧ (a = none → c = 0) ∧ (∀ x, a = some x → x.block = bi ∧ x.spot = none) ∧ NUML w0 a L ∧ S acc w ∧ acc.length + (NEED (h + 1) k L).length ≤ 2 ^ 30 ∧ L ≠ []) := ⟨hl, hn, hR, hc, hnil, hbl, hL, hw, hlen, hLe⟩
      have NS : Aside ((∀ acc w w', S acc w → Below w.heap.size w w' → S acc w') ∧ (∀ acc w, S acc w → (bi < w0.heap.size → w.heap[bi]? = w0.heap[bi]?) ∧ w0.heap.size ≤ w.heap.size) ∧ Node h (2 * k) ∧ Node h (2 * k + 1)) := ⟨hS, hB, hNl, hNr⟩
      have IH : Aside _ := ih
      clear hl hn hR hc hnil hbl hL hw hlen ht hS hB ih hNl hNr hLe
      go_enter Tryd.func48, Tryd.ntmps48
      go_wp2_with fail
      refine ck.mono ?_
      rintro e w1 ⟨rfl, hb1⟩
      clear ck
      have S1 : Aside (S acc w1) := NS.out.1 acc w w1 HA.out.2.2.2.2.2.2.2.1 hb1
      have hN1 : NUML w1 a L := fun h0 => by
        obtain ⟨b, o, e, hl, hcc⟩ := HA.out.2.2.2.2.2.2.1 h0
        have hbb : b = bi := (HA.out.2.2.2.2.2.1 _ e).1
        obtain ⟨k1, k2⟩ := NS.out.2.1 acc w1 S1.out
        subst hbb
        exact ⟨b, o, e, by omega, fun i x hx => (World.cell?_of_block (w := w0) (by exact k1 hl)).trans (hcc i x hx)⟩
      have cs := split_ok h (2 * k) NS.out.2.2.1 a n c L HA.out.1 HA.out.2.1 HA.out.2.2.1 HA.out.2.2.2.1 HA.out.2.2.2.2.1 (fun x e => (HA.out.2.2.2.2.2.1 x e).2) w1 hN1
      clear hb1 hN1
      go_wp2_with fail
      refine cs.mono ?_
      rintro e w2 ⟨r, a', rfl, hs⟩
      clear cs
      have hsp : NEED (h + 1) k L = NEED h (2 * k) (L.take r) ++ NEED h (2 * k + 1) (L.drop r) := NEED_take HA.out.2.2.2.2.2.2.2.2.2 hs.rank
      have hrn := hs.rank.le
      have ML : Aside (NUML w0 a (L.take r)) := fun h0 => by
        obtain ⟨b, o, e, hl, hcc⟩ := HA.out.2.2.2.2.2.2.1 (by rw [List.length_take] at h0; omega)
        refine ⟨b, o, e, hl, fun i x hx => hcc i x ?_⟩
        rw [List.getElem?_take] at hx
        split at hx
        · exact hx
        · cases hx
      have MR : Aside (NUML w0 a' (L.drop r) ∧ ∀ x, a' = some x → x.block = bi ∧ x.spot = none) := by
        refine ⟨fun h0 => ?_, fun x hx => ?_⟩
        · obtain ⟨b, o, e, hl, hcc⟩ := hs.lies h0
          obtain ⟨y, e2, e3⟩ := hs.block _ e
          have hbb : b = bi := by have := (HA.out.2.2.2.2.2.1 _ e2).1; rw [← e3] at this; exact this
          obtain ⟨k1, k2⟩ := NS.out.2.1 acc w1 S1.out
          obtain ⟨b', o', e', hl', _⟩ := HA.out.2.2.2.2.2.2.1 (by rw [List.length_drop] at h0; omega)
          have hbi : bi < w0.heap.size := by have h9 : b' = bi := (HA.out.2.2.2.2.2.1 _ e').1; omega
          subst hbb
          exact ⟨b, o, e, hbi, fun i x hx => (World.cell?_of_block (w := w1) (by exact (k1 hbi).symm)).trans (hcc i x hx)⟩
        · obtain ⟨y, e2, e3⟩ := hs.block x hx
          refine ⟨by rw [e3]; exact (HA.out.2.2.2.2.2.1 _ e2).1, hs.spot x hx⟩
      have S2 : Aside (S acc w2) := NS.out.1 acc w1 w2 S1.out hs.below
      have NL : Aside (a' = none → c - r = 0) := hs.nil
      have SP : Aside (NEED (h + 1) k L = NEED h (2 * k) (L.take r) ++ NEED h (2 * k + 1) (L.drop r) ∧ r ≤ n ∧ acc.length + (NEED h (2 * k) (L.take r)).length + (NEED h (2 * k + 1) (L.drop r)).length ≤ 2 ^ 30) := by
        refine ⟨hsp, by have := HA.out.1; omega, ?_⟩
        have h1 := HA.out.2.2.2.2.2.2.2.2.1
        rw [hsp, List.length_append] at h1
        omega
      clear hs hsp hrn S1
      have c1 := IH.out (2 * k) NS.out.2.2.1 (L.take r) a r c acc w2 (by rw [List.length_take]; have := SP.out.2.1; have := HA.out.1; omega) (by have := SP.out.2.1; have := HA.out.2.1; omega) (HA.out.2.2.1.take r) (by have := SP.out.2.1; have := HA.out.2.2.2.1; omega) HA.out.2.2.2.2.1 HA.out.2.2.2.2.2.1 ML.out S2.out (by have := SP.out.2.2; omega)
      go_wp2_with fail
      refine c1.mono ?_
      rintro e w3 (⟨rfl, h3⟩ | ⟨pre, p, hp, rfl, h3⟩)
      · clear c1
        have c2 := IH.out (2 * k + 1) NS.out.2.2.2 (L.drop r) a' (n - r) (c - r) (acc ++ NEED h (2 * k) (L.take r)) w3 (by rw [List.length_drop]; have := HA.out.1; omega) (by have := HA.out.2.1; omega) (HA.out.2.2.1.drop r) (by have := HA.out.2.2.2.1; omega) NL.out MR.out.2 MR.out.1 h3 (by rw [List.length_append]; exact SP.out.2.2)
        have SQ : Aside (acc ++ NEED h (2 * k) (L.take r) ++ NEED h (2 * k + 1) (L.drop r) = acc ++ NEED (h + 1) k L) := show acc ++ NEED h (2 * k) (L.take r) ++ NEED h (2 * k + 1) (L.drop r) = acc ++ NEED (h + 1) k L by rw [SP.out.1, List.append_assoc]
        clear h3 IH HA NS ML MR S2 NL SP
        go_wp2_with fail
        refine c2.mono ?_
        rintro e w4 (⟨rfl, h4⟩ | ⟨pre, p, hp, rfl, h4⟩)
        · have FN : Aside (S (acc ++ NEED (h + 1) k L) w4) := by rw [SQ.out] at h4; exact h4
          clear h4 c2 SQ
          go_wp2_with fail
          exact bodyPost_end (v := .tuple #[]) (by simp [results, Tryd.f48]) rfl (.inl ⟨rfl, FN.out⟩)
        · rw [SQ.out] at hp
          exact ⟨rfl, .inr ⟨pre, p, hp, rfl, h4⟩⟩
      · refine ⟨rfl, .inr ⟨pre, p, hp.trans ?_, rfl, h3⟩⟩
        rw [SP.out.1, ← List.append_assoc]
        exact List.prefix_append _ _
set_option maxHeartbeats 2000000 in
theorem needD_ok (bi CP QB RB : Nat) (S P : World → List Nat → World → Prop) (X : List PanicEntry)
    (hS : ∀ w0 acc w w', S w0 acc w → Below w.heap.size w w' → S w0 acc w') (hB : ∀ w0 acc w, S w0 acc w → (∀ b, b < w0.heap.size → b ≠ CP → b ≠ RB → w.heap[b]? = w0.heap[b]?) ∧ w0.heap.size ≤ w.heap.size)
    (ht : ∀ w0 acc (p : Nat) w, S w0 acc w → acc.length ≤ 2 ^ 30 → Calls Tryd.prog 54 #[.int .u64 (p : Int), .pointer (some ⟨CP, 0, none⟩), .pointer (some ⟨QB, 0, none⟩)] w fun e w' => (e = .returned (.tuple #[]) ∧ S w0 (acc ++ [p]) w') ∨ (e = .panicked X ∧ P w0 acc w'))
    (N : Nat) (hN : N ≤ 4611686018427387904) (L : List Nat) (a : Option Addr) (n c : Nat) (w : World) (hl : L.length = n) (hn : n < 2 ^ 20) (hR : RISES L) (hc : n ≤ c) (hnil : a = none → c = 0) (hbl : ∀ x, a = some x → x.block = bi ∧ x.spot = none) (hL : NUML w a L) (hCb : bi ≠ CP ∧ bi ≠ RB) (hCP : CP < w.heap.size ∧ RB < w.heap.size) (hT : Tabled w)
    (h0 : ∀ w1, Below w.heap.size w w1 → S w1 [] w1) :
    Calls Tryd.prog 29 #[.slice a n c, .int .u64 (N : Int), .func (.func 54) #[] #[.pointer (some ⟨CP, 0, none⟩), .pointer (some ⟨QB, 0, none⟩)]] w fun e w' => ∃ w1, Below w.heap.size w w1 ∧ TOLD (S w1) (P w1) X [] (NEEDS (TPS N) L) e w' := by
  have cp := peaks_ok N hN w hT (by omega)
  have hPC : PC N ≤ 64 := PC_lt_pow 64 N (by omega)
  have hlen := TPS_length (n := N) (by omega)
  have hmost := NEEDS_most (TPS N) L (fun p hp => (TPS_span (n := N) (by omega) (h := p.1) (k := p.2) hp).1)
  have HA : Aside (n < 2 ^ 20 ∧ N ≤ 2 ^ 62 ∧ PC N ≤ 64 ∧ (TPS N).length = PC N ∧ (NEEDS (TPS N) L).length ≤ 2 ^ 30 ∧ (bi ≠ CP ∧ bi ≠ RB) ∧ (CP < w.heap.size ∧ RB < w.heap.size)) := ⟨hn, by omega, hPC, hlen, by omega, hCb, hCP⟩
  have ST : Aside ((∀ w0 acc w w', S w0 acc w → Below w.heap.size w w' → S w0 acc w') ∧ (∀ w0 acc w, S w0 acc w → (∀ b, b < w0.heap.size → b ≠ CP → b ≠ RB → w.heap[b]? = w0.heap[b]?) ∧ w0.heap.size ≤ w.heap.size)) := ⟨hS, hB⟩
  have HT : Aside (∀ w0 acc (p : Nat) w, S w0 acc w → acc.length ≤ 2 ^ 30 → Calls Tryd.prog 54 #[.int .u64 (p : Int), .pointer (some ⟨CP, 0, none⟩), .pointer (some ⟨QB, 0, none⟩)] w fun e w' => (e = .returned (.tuple #[]) ∧ S w0 (acc ++ [p]) w') ∨ (e = .panicked X ∧ P w0 acc w')) := ht
  have LL : Aside (L.length = n ∧ RISES L ∧ n ≤ c ∧ (a = none → c = 0) ∧ (∀ x, a = some x → x.block = bi ∧ x.spot = none) ∧ NUML w a L ∧ ∀ w1, Below w.heap.size w w1 → S w1 [] w1) := ⟨hl, hR, hc, hnil, hbl, hL, h0⟩
  clear hN hl hn hR hc hnil hbl hL hCb hCP hT h0 hS hB ht hPC hlen hmost
  go_enter Tryd.func29, Tryd.ntmps29
  go_wp2_with fail
  refine cp.mono ?_
  rintro e w1 ⟨g, cg, rfl, hown, hb1⟩
  clear cp
  obtain ⟨m, hm⟩ : ∃ m, PC N = m := ⟨_, rfl⟩
  rw [hm] at hown ⊢
  have R1 : Aside (w1.ownsRow w.heap.size 23 1 (.slice (some ⟨g, 0, none⟩) m cg) m (UCELLS (PEAKS N)) ∧ Below w.heap.size w w1 ∧ PC N = m ∧ (g ≠ CP ∧ g ≠ RB) ∧ g < w1.heap.size ∧ w.heap.size ≤ g) := ⟨hown, hb1, hm, by have h1 := (hown.lt g rfl).1; have := HA.out.2.2.2.2.2.2; omega, (hown.lt g rfl).2, (hown.lt g rfl).1⟩
  have L0 : Aside (NUML w1 a L) := fun h0 => by
    obtain ⟨b, o, e, hl, hcc⟩ := LL.out.2.2.2.2.2.1 h0
    exact ⟨b, o, e, Nat.lt_of_lt_of_le hl hb1.size, fun i x hx => (hb1.cell (p := ⟨b, o + i, none⟩) hl).trans (hcc i x hx)⟩
  clear hown hb1 hm
  go_wp2_with fail
  go_loopg [0, 13] m (fun q s0 s13 wx => ∃ (j n' c' : Nat) (a' : Option Addr) (Lj told : List Nat), s0 = .slice a' n' c' ∧ s13 = .int .i64 (j : Int) ∧ Aside (j + q = m ∧ Lj.length = n' ∧ n' ≤ n ∧ RISES Lj ∧ n' ≤ c' ∧ (a' = none → c' = 0) ∧ (∀ x, a' = some x → x.block = bi ∧ x.spot = none) ∧ NUML w1 a' Lj ∧ S w1 told wx ∧ NEEDS (TPS N) L = told ++ NEEDS ((TPS N).drop j) Lj))
  case atStart => exact ⟨0, n, c, a, L, [], rfl, rfl, by omega, LL.out.1, Nat.le_refl _, LL.out.2.1, LL.out.2.2.1, LL.out.2.2.2.1, LL.out.2.2.2.2.1, L0.out, LL.out.2.2.2.2.2.2 w1 R1.out.2.1, by simp⟩
  case round =>
    obtain ⟨j, n', c', a', Lj, told, rfl, rfl, A⟩ := hrel
    clear L0 LL
    cases gk with
    | zero =>
      obtain rfl : j = m := by have := A.out.1; omega
      have hlt : ¬ (j : Int) < (j : Int) := by omega
      have FN : Aside (∃ w1, Below w.heap.size w w1 ∧ TOLD (S w1) (P w1) X [] (NEEDS (TPS N) L) (.returned (.tuple #[])) wr) := by
        obtain ⟨h1, h2, h3, h4, h5, h6, h7, h8, h9, h10⟩ := A.out
        refine ⟨w1, R1.out.2.1, .inl ⟨rfl, ?_⟩⟩
        rw [List.drop_of_length_le (by have := R1.out.2.2.1; have := HA.out.2.2.2.1; omega)] at h10
        rw [h10, NEEDS, List.append_nil, List.nil_append]
        exact h9
      clear A R1 ST HT HA
      go_wp2_with fail
      exact bodyPost_end (v := .tuple #[]) (by simp [results, Tryd.f29]) rfl FN.out
    | succ q =>
      have hlt : (j : Int) < (m : Int) := by have := A.out.1; omega
      have hjm : j < (TPS N).length := by have := A.out.1; have := R1.out.2.2.1; have := HA.out.2.2.2.1; omega
      obtain ⟨⟨h, k⟩, ehk⟩ : ∃ s, (TPS N)[j]? = some s := ⟨_, List.getElem?_eq_getElem hjm⟩
      have hsp := TPS_span HA.out.2.1 (List.mem_of_getElem? ehk)
      have epk := TPS_peak ehk
      obtain ⟨k1, k2⟩ := ST.out.2 w1 told wr A.out.2.2.2.2.2.2.2.2.1
      have hcell : wr.cell? ⟨g, j, none⟩ = some (.int .u64 ((PLC h k : Nat) : Int)) := by
        have h1 := R1.out.1.cellAt j (by have := A.out.1; omega)
        refine (World.cell?_of_block (w := w1) (by exact k1 g R1.out.2.2.2.2.1 R1.out.2.2.2.1.1 R1.out.2.2.2.1.2)).trans (h1.trans ?_)
        rw [UCELLS, List.getElem?_map, epk]
        rfl
      have ej : wrap64 ((j : Int) + 1) = ((j + 1 : Nat) : Int) := by have := A.out.1; have := R1.out.2.2.1; have := HA.out.2.2.1; unfold wrap64; omega
      have hN1 : NUML wr a' Lj := fun h0 => by
        obtain ⟨b, o, e, hl, hcc⟩ := A.out.2.2.2.2.2.2.2.1 h0
        have hbb : b = bi := (A.out.2.2.2.2.2.2.1 _ e).1
        exact ⟨b, o, e, by omega, fun i x hx => (World.cell?_of_block (w := w1) (by exact k1 b hl (by rw [hbb]; exact HA.out.2.2.2.2.2.1.1) (by rw [hbb]; exact HA.out.2.2.2.2.2.1.2))).trans (hcc i x hx)⟩
      have cs := split_ok h k hsp.2.2 a' n' c' Lj A.out.2.1 (by have := A.out.2.2.1; have := HA.out.1; omega) A.out.2.2.2.1 A.out.2.2.2.2.1 A.out.2.2.2.2.2.1 (fun x e => (A.out.2.2.2.2.2.2.1 x e).2) wr hN1
      have SP : Aside (Node h k ∧ (TPS N)[j]? = some (h, k) ∧ j < (TPS N).length) := ⟨hsp.2.2, ehk, hjm⟩
      clear hsp ehk epk k1 k2 hN1 hjm
      go_wp2_with fail
      refine cs.mono ?_
      rintro e w2 ⟨r, a2, rfl, hs⟩
      clear cs hcell
      have hdrop : (TPS N).drop j = (h, k) :: (TPS N).drop (j + 1) := drop_at SP.out.2.1
      have hneed := NEEDS_take ((TPS N).drop (j + 1)) hs.rank
      rw [← hdrop] at hneed
      have hrn := hs.rank.le
      have S2 : S w1 told w2 := ST.out.1 w1 told wr w2 A.out.2.2.2.2.2.2.2.2.1 hs.below
      have MR : Aside (NUML w1 a2 (Lj.drop r) ∧ (∀ x, a2 = some x → x.block = bi ∧ x.spot = none) ∧ (a2 = none → c' - r = 0) ∧ r ≤ n' ∧ NUML w1 a' (Lj.take r) ∧ NEEDS ((TPS N).drop j) Lj = NEED h k (Lj.take r) ++ NEEDS ((TPS N).drop (j + 1)) (Lj.drop r)) := by
        refine ⟨fun h0 => ?_, fun x hx => ?_, hs.nil, by have := A.out.2.1; omega, fun h0 => ?_, hneed⟩
        · obtain ⟨b, o, e, hl, hcc⟩ := hs.lies h0
          obtain ⟨y, e2, e3⟩ := hs.block _ e
          have hbb : b = bi := by have := (A.out.2.2.2.2.2.2.1 _ e2).1; rw [← e3] at this; exact this
          obtain ⟨k1, k2⟩ := ST.out.2 w1 told wr A.out.2.2.2.2.2.2.2.2.1
          obtain ⟨b', o', e', hl', _⟩ := A.out.2.2.2.2.2.2.2.1 (by rw [List.length_drop] at h0; omega)
          have hbi : bi < w1.heap.size := by have h9 : b' = bi := (A.out.2.2.2.2.2.2.1 _ e').1; omega
          subst hbb
          exact ⟨b, o, e, hbi, fun i x hx => (World.cell?_of_block (w := wr) (by exact (k1 b hbi HA.out.2.2.2.2.2.1.1 HA.out.2.2.2.2.2.1.2).symm)).trans (hcc i x hx)⟩
        · obtain ⟨y, e2, e3⟩ := hs.block x hx
          exact ⟨by rw [e3]; exact (A.out.2.2.2.2.2.2.1 _ e2).1, hs.spot x hx⟩
        · obtain ⟨b, o, e, hl, hcc⟩ := A.out.2.2.2.2.2.2.2.1 (by rw [List.length_take] at h0; omega)
          refine ⟨b, o, e, hl, fun i x hx => hcc i x ?_⟩
          rw [List.getElem?_take] at hx
          split at hx
          · exact hx
          · cases hx
      have TL : Aside (told.length + (NEED h k (Lj.take r)).length ≤ 2 ^ 30 ∧ NEEDS (TPS N) L = told ++ NEED h k (Lj.take r) ++ NEEDS ((TPS N).drop (j + 1)) (Lj.drop r)) := by
        have h1 := A.out.2.2.2.2.2.2.2.2.2
        rw [MR.out.2.2.2.2.2, ← List.append_assoc] at h1
        refine ⟨?_, h1⟩
        have h2 := HA.out.2.2.2.2.1
        rw [h1, List.length_append, List.length_append] at h2
        omega
      have cu := underD_ok w1 bi CP QB (S w1) (P w1) X (ST.out.1 w1) (fun acc w hw => ⟨fun hbi => (ST.out.2 w1 acc w hw).1 bi hbi HA.out.2.2.2.2.2.1.1 HA.out.2.2.2.2.2.1.2, (ST.out.2 w1 acc w hw).2⟩) (HT.out w1) h k SP.out.1 (Lj.take r) a' r c' told w2 (by rw [List.length_take]; have := A.out.2.1; have := MR.out.2.2.2.1; omega) (by have := MR.out.2.2.2.1; have := A.out.2.2.1; have := HA.out.1; omega) (A.out.2.2.2.1.take r) (by have := MR.out.2.2.2.1; have := A.out.2.2.2.2.1; omega) A.out.2.2.2.2.2.1 A.out.2.2.2.2.2.2.1 MR.out.2.2.2.2.1 S2 TL.out.1
      clear hs hdrop hneed hrn S2
      go_wp2_with fail
      refine cu.mono ?_
      rintro e w3 (⟨rfl, h3⟩ | ⟨pre, p, hp, rfl, h3⟩)
      · have Z : Aside (j + 1 + q = m ∧ (Lj.drop r).length = n' - r ∧ n' - r ≤ n ∧ RISES (Lj.drop r) ∧ n' - r ≤ c' - r ∧ (a2 = none → c' - r = 0) ∧ (∀ x, a2 = some x → x.block = bi ∧ x.spot = none) ∧ NUML w1 a2 (Lj.drop r) ∧ S w1 (told ++ NEED h k (Lj.take r)) w3 ∧ NEEDS (TPS N) L = (told ++ NEED h k (Lj.take r)) ++ NEEDS ((TPS N).drop (j + 1)) (Lj.drop r)) := by
          obtain ⟨h1, h2, _, h4, h5, _⟩ := A.out
          refine ⟨by clear ej; omega, by rw [List.length_drop, h2], by have := A.out.2.2.1; clear ej; omega, h4.drop r, by clear ej; omega, MR.out.2.2.1, MR.out.2.1, MR.out.1, h3, TL.out.2⟩
        clear h3 cu A MR TL SP R1
        go_wp2_with fail
        go_roundg q
        case measure => exact Nat.lt_succ_self _
        case rel => exact ⟨j + 1, n' - r, c' - r, a2, Lj.drop r, told ++ NEED h k (Lj.take r), rfl, by first | rfl | (rw [ej]), Z.out⟩
      · refine ⟨rfl, w1, R1.out.2.1, .inr ⟨pre, p, hp.trans ?_, rfl, h3⟩⟩
        rw [List.nil_append, TL.out.2]
        exact List.prefix_append _ _
end Go.Proofs.YtmpaifkjlhodpaaDoor

/- Are these the same hashes? -/
namespace Go.Proofs.YtmpaifkjlhodpaaDoor
open Go.RowKit
set_option maxRecDepth 100000

theorem hsh_ext {l k : List Int} {n : Nat} (hl : l.length = 32 * n) (hk : k.length = 32 * n) (h : ∀ i, i < n → HSH l i = HSH k i) : l = k := by
  have e : ∀ i, i ≤ n → l.take (32 * i) = k.take (32 * i) := by
    intro i
    induction i with
    | zero => intro _; simp
    | succ i ih => intro hi; rw [HSH_next, HSH_next, ih (by omega), h i (by omega)]
  have := e n (Nat.le_refl _)
  rwa [List.take_of_length_le (by omega), List.take_of_length_le (by omega)] at this
def SHOPS : Array Oper := #[{ dst := some 17, op := Op.move (Operand.tmp 0), type := 30, pos := "ref.go:176", after := #[], guard := none }, { dst := some 18, op := Op.move (Operand.tmp 5), type := 3, pos := "ref.go:176", after := #[], guard := none }, { dst := some 19, op := Op.indexAddr 30 (Operand.tmp 17) (Operand.tmp 18), type := 0, pos := "ref.go:176", after := #[{ on := 0, ground := Ground.data }, { on := 1, ground := Ground.data }], guard := none }, { dst := some 20, op := Op.load 57 (Operand.tmp 19), type := 57, pos := "ref.go:176", after := #[{ on := 2, ground := Ground.data }], guard := none }, { dst := some 21, op := Op.move (Operand.tmp 1), type := 30, pos := "ref.go:176", after := #[], guard := none }, { dst := some 22, op := Op.move (Operand.tmp 5), type := 3, pos := "ref.go:176", after := #[], guard := none }, { dst := some 23, op := Op.indexAddr 30 (Operand.tmp 21) (Operand.tmp 22), type := 0, pos := "ref.go:176", after := #[{ on := 4, ground := Ground.data }, { on := 5, ground := Ground.data }], guard := none }, { dst := some 24, op := Op.load 57 (Operand.tmp 23), type := 57, pos := "ref.go:176", after := #[{ on := 6, ground := Ground.data }], guard := none }, { dst := some 25, op := Op.binOp BinOp.neq 57 (Operand.tmp 20) (Operand.tmp 24) 57, type := 4, pos := "ref.go:176", after := #[{ on := 3, ground := Ground.data }, { on := 7, ground := Ground.data }], guard := none }]
set_option maxHeartbeats 2000000 in
theorem same_region {Q : Exit → Act → World → Prop} (u2 u3 u4 u6 u7 u8 u9 u10 u11 u12 u13 u14 u15 u16 u17 u18 u19 u20 u21 u22 u23 u24 u25 : Value) (W : World) (w0 : World) (ba oa n ca bb ob m cb i : Nat) (H K : List Int) (hH : H.length = 32) (hK : K.length = 32) (b1 : (i : Int) < (n : Int)) (b2 : (i : Int) < (m : Int)) (hS : (fun W : World => W.rangeAt ba (oa + i * 32) (CELLS H) ∧ W.rangeAt bb (ob + i * 32) (CELLS K) ∧ Below w0.heap.size w0 W) W) (hQ : ∀ c (a : Act) (t : Tmp) (v : Value) w, Q (.panic c) (a.put (some t) v) w → Q (.panic c) a w)
    (h : ∀ w, (fun W : World => W.rangeAt ba (oa + i * 32) (CELLS H) ∧ W.rangeAt bb (ob + i * 32) (CELLS K) ∧ Below w0.heap.size w0 W) w → Q .normal { tmps := #[.slice (some ⟨ba, oa, none⟩) n ca, .slice (some ⟨bb, ob, none⟩) m cb, u2, u3, u4, .int .i64 (i : Int), u6, u7, u8, u9, u10, u11, u12, u13, u14, u15, u16, .slice (some ⟨ba, oa, none⟩) n ca, .int .i64 (i : Int), .pointer (some ⟨ba, oa + i * 32, none⟩), .agg (CELLS H).toArray, .slice (some ⟨bb, ob, none⟩) m cb, .int .i64 (i : Int), .pointer (some ⟨bb, ob + i * 32, none⟩), .agg (CELLS K).toArray, .bool (!decide (H = K))], defers := [] } w) : (Code.region 6 SHOPS true).wp Tryd.prog Q { tmps := #[.slice (some ⟨ba, oa, none⟩) n ca, .slice (some ⟨bb, ob, none⟩) m cb, u2, u3, u4, .int .i64 (i : Int), u6, u7, u8, u9, u10, u11, u12, u13, u14, u15, u16, u17, u18, u19, u20, u21, u22, u23, u24, u25], defers := [] } W := by
  have hs0 : (fun W : World => W.rangeAt ba (oa + i * 32) (CELLS H) ∧ W.rangeAt bb (ob + i * 32) (CELLS K) ∧ Below w0.heap.size w0 W) W.drew := ⟨hS.1, hS.2.1, hS.2.2.drew⟩
  have k0 : ∀ w, (fun W : World => W.rangeAt ba (oa + i * 32) (CELLS H) ∧ W.rangeAt bb (ob + i * 32) (CELLS K) ∧ Below w0.heap.size w0 W) w → wpAnyH Tryd.prog .any SHOPS Q (fun W : World => W.rangeAt ba (oa + i * 32) (CELLS H) ∧ W.rangeAt bb (ob + i * 32) (CELLS K) ∧ Below w0.heap.size w0 W) 9 #[false, false, false, false, false, false, false, false, false] { tmps := #[.slice (some ⟨ba, oa, none⟩) n ca, .slice (some ⟨bb, ob, none⟩) m cb, u2, u3, u4, .int .i64 (i : Int), u6, u7, u8, u9, u10, u11, u12, u13, u14, u15, u16, u17, u18, u19, u20, u21, u22, u23, u24, u25], defers := [] } w := fun w hw => by
    have hww : (fun W : World => W.rangeAt ba (oa + i * 32) (CELLS H) ∧ W.rangeAt bb (ob + i * 32) (CELLS K) ∧ Below w0.heap.size w0 W) w := hw
    have last : wpAnyH Tryd.prog .any SHOPS Q (fun W : World => W.rangeAt ba (oa + i * 32) (CELLS H) ∧ W.rangeAt bb (ob + i * 32) (CELLS K) ∧ Below w0.heap.size w0 W) 0 #[true, true, true, true, true, true, true, true, true] { tmps := #[.slice (some ⟨ba, oa, none⟩) n ca, .slice (some ⟨bb, ob, none⟩) m cb, u2, u3, u4, .int .i64 (i : Int), u6, u7, u8, u9, u10, u11, u12, u13, u14, u15, u16, .slice (some ⟨ba, oa, none⟩) n ca, .int .i64 (i : Int), .pointer (some ⟨ba, oa + i * 32, none⟩), .agg (CELLS H).toArray, .slice (some ⟨bb, ob, none⟩) m cb, .int .i64 (i : Int), .pointer (some ⟨bb, ob + i * 32, none⟩), .agg (CELLS K).toArray, .bool (!decide (H = K))], defers := [] } w := wpAnyH_done (by kernel_rfl) (h w hw) _
    have t8 : wpAnyH Tryd.prog .any SHOPS Q (fun W : World => W.rangeAt ba (oa + i * 32) (CELLS H) ∧ W.rangeAt bb (ob + i * 32) (CELLS K) ∧ Below w0.heap.size w0 W) 1 #[true, true, true, true, true, true, true, true, false] { tmps := #[.slice (some ⟨ba, oa, none⟩) n ca, .slice (some ⟨bb, ob, none⟩) m cb, u2, u3, u4, .int .i64 (i : Int), u6, u7, u8, u9, u10, u11, u12, u13, u14, u15, u16, .slice (some ⟨ba, oa, none⟩) n ca, .int .i64 (i : Int), .pointer (some ⟨ba, oa + i * 32, none⟩), .agg (CELLS H).toArray, .slice (some ⟨bb, ob, none⟩) m cb, .int .i64 (i : Int), .pointer (some ⟨bb, ob + i * 32, none⟩), .agg (CELLS K).toArray, u25], defers := [] } w :=
      wpAnyH_take (i := 8) (oi := { dst := some 25, op := Op.binOp BinOp.neq 57 (Operand.tmp 20) (Operand.tmp 24) 57, type := 4, pos := "ref.go:176", after := #[{ on := 3, ground := Ground.data }, { on := 7, ground := Ground.data }], guard := none }) (v := .bool (!decide (H = K))) rfl (by kernel_rfl) (by kernel_rfl) (by kernel_rfl) (fun _ _ _ h => hQ _ _ _ _ _ h) (Yields.yieldsIf (Or.inl ⟨by rfl, fun W => run_value (neq_hashes hH hK _ _ W)⟩)) hww last
    have t7 : wpAnyH Tryd.prog .any SHOPS Q (fun W : World => W.rangeAt ba (oa + i * 32) (CELLS H) ∧ W.rangeAt bb (ob + i * 32) (CELLS K) ∧ Below w0.heap.size w0 W) 2 #[true, true, true, true, true, true, true, false, false] { tmps := #[.slice (some ⟨ba, oa, none⟩) n ca, .slice (some ⟨bb, ob, none⟩) m cb, u2, u3, u4, .int .i64 (i : Int), u6, u7, u8, u9, u10, u11, u12, u13, u14, u15, u16, .slice (some ⟨ba, oa, none⟩) n ca, .int .i64 (i : Int), .pointer (some ⟨ba, oa + i * 32, none⟩), .agg (CELLS H).toArray, .slice (some ⟨bb, ob, none⟩) m cb, .int .i64 (i : Int), .pointer (some ⟨bb, ob + i * 32, none⟩), u24, u25], defers := [] } w :=
      wpAnyH_take (i := 7) (oi := { dst := some 24, op := Op.load 57 (Operand.tmp 23), type := 57, pos := "ref.go:176", after := #[{ on := 6, ground := Ground.data }], guard := none }) (v := .agg (CELLS K).toArray) rfl (by kernel_rfl) (by kernel_rfl) (by kernel_rfl) (fun _ _ _ h => hQ _ _ _ _ _ h) (yieldsIf_load_mid (by rfl) 57 (.tmp 23) rfl bb (ob + i * 32) rfl (CELLS K) _ (fun w h => h.2.1) Tryd.underlying57 rfl (info_cells hK)) hww t8
    have t6 : wpAnyH Tryd.prog .any SHOPS Q (fun W : World => W.rangeAt ba (oa + i * 32) (CELLS H) ∧ W.rangeAt bb (ob + i * 32) (CELLS K) ∧ Below w0.heap.size w0 W) 3 #[true, true, true, true, true, true, false, false, false] { tmps := #[.slice (some ⟨ba, oa, none⟩) n ca, .slice (some ⟨bb, ob, none⟩) m cb, u2, u3, u4, .int .i64 (i : Int), u6, u7, u8, u9, u10, u11, u12, u13, u14, u15, u16, .slice (some ⟨ba, oa, none⟩) n ca, .int .i64 (i : Int), .pointer (some ⟨ba, oa + i * 32, none⟩), .agg (CELLS H).toArray, .slice (some ⟨bb, ob, none⟩) m cb, .int .i64 (i : Int), u23, u24, u25], defers := [] } w :=
      wpAnyH_take (i := 6) (oi := { dst := some 23, op := Op.indexAddr 30 (Operand.tmp 21) (Operand.tmp 22), type := 0, pos := "ref.go:176", after := #[{ on := 4, ground := Ground.data }, { on := 5, ground := Ground.data }], guard := none }) (v := .pointer (some ⟨bb, ob + i * 32, none⟩)) rfl (by kernel_rfl) (by kernel_rfl) (by kernel_rfl) (fun _ _ _ h => hQ _ _ _ _ _ h) (Yields.yieldsIf (Or.inl ⟨by rfl, fun W => by go_simp⟩)) hww t7
    have t5 : wpAnyH Tryd.prog .any SHOPS Q (fun W : World => W.rangeAt ba (oa + i * 32) (CELLS H) ∧ W.rangeAt bb (ob + i * 32) (CELLS K) ∧ Below w0.heap.size w0 W) 4 #[true, true, true, true, true, false, false, false, false] { tmps := #[.slice (some ⟨ba, oa, none⟩) n ca, .slice (some ⟨bb, ob, none⟩) m cb, u2, u3, u4, .int .i64 (i : Int), u6, u7, u8, u9, u10, u11, u12, u13, u14, u15, u16, .slice (some ⟨ba, oa, none⟩) n ca, .int .i64 (i : Int), .pointer (some ⟨ba, oa + i * 32, none⟩), .agg (CELLS H).toArray, .slice (some ⟨bb, ob, none⟩) m cb, u22, u23, u24, u25], defers := [] } w :=
      wpAnyH_take (i := 5) (oi := { dst := some 22, op := Op.move (Operand.tmp 5), type := 3, pos := "ref.go:176", after := #[], guard := none }) (v := .int .i64 (i : Int)) rfl (by kernel_rfl) (by kernel_rfl) (by kernel_rfl) (fun _ _ _ h => hQ _ _ _ _ _ h) (Yields.yieldsIf (Or.inl ⟨by rfl, fun W => by go_simp⟩)) hww t6
    have t4 : wpAnyH Tryd.prog .any SHOPS Q (fun W : World => W.rangeAt ba (oa + i * 32) (CELLS H) ∧ W.rangeAt bb (ob + i * 32) (CELLS K) ∧ Below w0.heap.size w0 W) 5 #[true, true, true, true, false, false, false, false, false] { tmps := #[.slice (some ⟨ba, oa, none⟩) n ca, .slice (some ⟨bb, ob, none⟩) m cb, u2, u3, u4, .int .i64 (i : Int), u6, u7, u8, u9, u10, u11, u12, u13, u14, u15, u16, .slice (some ⟨ba, oa, none⟩) n ca, .int .i64 (i : Int), .pointer (some ⟨ba, oa + i * 32, none⟩), .agg (CELLS H).toArray, u21, u22, u23, u24, u25], defers := [] } w :=
      wpAnyH_take (i := 4) (oi := { dst := some 21, op := Op.move (Operand.tmp 1), type := 30, pos := "ref.go:176", after := #[], guard := none }) (v := .slice (some ⟨bb, ob, none⟩) m cb) rfl (by kernel_rfl) (by kernel_rfl) (by kernel_rfl) (fun _ _ _ h => hQ _ _ _ _ _ h) (Yields.yieldsIf (Or.inl ⟨by rfl, fun W => by go_simp⟩)) hww t5
    have t3 : wpAnyH Tryd.prog .any SHOPS Q (fun W : World => W.rangeAt ba (oa + i * 32) (CELLS H) ∧ W.rangeAt bb (ob + i * 32) (CELLS K) ∧ Below w0.heap.size w0 W) 6 #[true, true, true, false, false, false, false, false, false] { tmps := #[.slice (some ⟨ba, oa, none⟩) n ca, .slice (some ⟨bb, ob, none⟩) m cb, u2, u3, u4, .int .i64 (i : Int), u6, u7, u8, u9, u10, u11, u12, u13, u14, u15, u16, .slice (some ⟨ba, oa, none⟩) n ca, .int .i64 (i : Int), .pointer (some ⟨ba, oa + i * 32, none⟩), u20, u21, u22, u23, u24, u25], defers := [] } w :=
      wpAnyH_take (i := 3) (oi := { dst := some 20, op := Op.load 57 (Operand.tmp 19), type := 57, pos := "ref.go:176", after := #[{ on := 2, ground := Ground.data }], guard := none }) (v := .agg (CELLS H).toArray) rfl (by kernel_rfl) (by kernel_rfl) (by kernel_rfl) (fun _ _ _ h => hQ _ _ _ _ _ h) (yieldsIf_load_mid (by rfl) 57 (.tmp 19) rfl ba (oa + i * 32) rfl (CELLS H) _ (fun w h => h.1) Tryd.underlying57 rfl (info_cells hH)) hww t4
    have t2 : wpAnyH Tryd.prog .any SHOPS Q (fun W : World => W.rangeAt ba (oa + i * 32) (CELLS H) ∧ W.rangeAt bb (ob + i * 32) (CELLS K) ∧ Below w0.heap.size w0 W) 7 #[true, true, false, false, false, false, false, false, false] { tmps := #[.slice (some ⟨ba, oa, none⟩) n ca, .slice (some ⟨bb, ob, none⟩) m cb, u2, u3, u4, .int .i64 (i : Int), u6, u7, u8, u9, u10, u11, u12, u13, u14, u15, u16, .slice (some ⟨ba, oa, none⟩) n ca, .int .i64 (i : Int), u19, u20, u21, u22, u23, u24, u25], defers := [] } w :=
      wpAnyH_take (i := 2) (oi := { dst := some 19, op := Op.indexAddr 30 (Operand.tmp 17) (Operand.tmp 18), type := 0, pos := "ref.go:176", after := #[{ on := 0, ground := Ground.data }, { on := 1, ground := Ground.data }], guard := none }) (v := .pointer (some ⟨ba, oa + i * 32, none⟩)) rfl (by kernel_rfl) (by kernel_rfl) (by kernel_rfl) (fun _ _ _ h => hQ _ _ _ _ _ h) (Yields.yieldsIf (Or.inl ⟨by rfl, fun W => by go_simp⟩)) hww t3
    have t1 : wpAnyH Tryd.prog .any SHOPS Q (fun W : World => W.rangeAt ba (oa + i * 32) (CELLS H) ∧ W.rangeAt bb (ob + i * 32) (CELLS K) ∧ Below w0.heap.size w0 W) 8 #[true, false, false, false, false, false, false, false, false] { tmps := #[.slice (some ⟨ba, oa, none⟩) n ca, .slice (some ⟨bb, ob, none⟩) m cb, u2, u3, u4, .int .i64 (i : Int), u6, u7, u8, u9, u10, u11, u12, u13, u14, u15, u16, .slice (some ⟨ba, oa, none⟩) n ca, u18, u19, u20, u21, u22, u23, u24, u25], defers := [] } w :=
      wpAnyH_take (i := 1) (oi := { dst := some 18, op := Op.move (Operand.tmp 5), type := 3, pos := "ref.go:176", after := #[], guard := none }) (v := .int .i64 (i : Int)) rfl (by kernel_rfl) (by kernel_rfl) (by kernel_rfl) (fun _ _ _ h => hQ _ _ _ _ _ h) (Yields.yieldsIf (Or.inl ⟨by rfl, fun W => by go_simp⟩)) hww t2
    have t0 : wpAnyH Tryd.prog .any SHOPS Q (fun W : World => W.rangeAt ba (oa + i * 32) (CELLS H) ∧ W.rangeAt bb (ob + i * 32) (CELLS K) ∧ Below w0.heap.size w0 W) 9 #[false, false, false, false, false, false, false, false, false] { tmps := #[.slice (some ⟨ba, oa, none⟩) n ca, .slice (some ⟨bb, ob, none⟩) m cb, u2, u3, u4, .int .i64 (i : Int), u6, u7, u8, u9, u10, u11, u12, u13, u14, u15, u16, u17, u18, u19, u20, u21, u22, u23, u24, u25], defers := [] } w :=
      wpAnyH_take (i := 0) (oi := { dst := some 17, op := Op.move (Operand.tmp 0), type := 30, pos := "ref.go:176", after := #[], guard := none }) (v := .slice (some ⟨ba, oa, none⟩) n ca) rfl (by kernel_rfl) (by kernel_rfl) (by kernel_rfl) (fun _ _ _ h => hQ _ _ _ _ _ h) (Yields.yieldsIf (Or.inl ⟨by rfl, fun W => by go_simp⟩)) hww t1
    exact t0
  exact wp_region_held_drew (S := (fun W : World => W.rangeAt ba (oa + i * 32) (CELLS H) ∧ W.rangeAt bb (ob + i * 32) (CELLS K) ∧ Below w0.heap.size w0 W)) (by kernel_rfl) hs0 (fun _ => k0 _ hs0)
set_option maxHeartbeats 1000000 in
theorem samehashes_ok (a b : Option Addr) (n m ca cb : Nat) (l k : List Int) (w : World) (hA : Flat w a n l) (hB : Flat w b m k) (hn : n ≤ 1000000) :
    Calls Tryd.prog 37 #[.slice a n ca, .slice b m cb] w fun e w' => e = .returned (.bool (decide (l = k))) ∧ Below w.heap.size w w' := by
  by_cases hnm : n = m
  · subst hnm
    rcases Nat.eq_zero_or_pos n with h | h
    · subst h
      have hd : decide (l = k) = true := by
        rw [List.eq_nil_of_length_eq_zero hA.1, List.eq_nil_of_length_eq_zero hB.1]
        rfl
      rw [hd]
      clear hA hB hd
      go_enter Tryd.func37, Tryd.ntmps37
      go_wp2
      refine wp_loop_rounds 1 ?_
      rw [rounds_succ]
      go_wp2
      go_ret
      exact ⟨rfl, Below.refl _ _⟩
    · obtain ⟨ba, oa, rfl, la, hca⟩ := hA.2.1 h
      obtain ⟨bb, ob, rfl, lb, hcb⟩ := hB.2.1 h
      have HC : Aside (Flat w (some ⟨ba, oa, none⟩) n l ∧ Flat w (some ⟨bb, ob, none⟩) n k ∧ n ≤ 1000000) := ⟨hA, hB, hn⟩
      clear hA hB hca hcb la lb hn
      obtain ⟨D, hD⟩ : ∃ D, D = decide (l = k) := ⟨_, rfl⟩
      rw [← hD]
      have HD : Aside (D = decide (l = k)) := hD
      clear hD
      go_enter Tryd.func37, Tryd.ntmps37
      go_wp2
      go_loopg [5] n (fun g s5 wx => ∃ i : Nat, s5 = .int .i64 i ∧ Aside (i + g = n ∧ Below w.heap.size w wx ∧ ∀ j, j < i → HSH l j = HSH k j))
      case atStart => exact ⟨0, rfl, by omega, Below.refl _ _, fun j hj => by omega⟩
      case round =>
        obtain ⟨i, rfl, A⟩ := hrel
        cases gk with
        | zero =>
          obtain rfl : i = n := by have := A.out.1; omega
          have hlt : ¬ (i : Int) < (i : Int) := by omega
          have hd : Aside (D = true) := by
            show D = true
            rw [HD.out, decide_eq_true_iff]
            exact hsh_ext HC.out.1.1 HC.out.2.1.1 A.out.2.2
          clear HD HC
          go_wp2
          go_ret
          exact ⟨by rw [hd.out]; rfl, A.out.2.1⟩
        | succ g =>
          obtain ⟨hig, hbel, hbef⟩ := A.out
          have hlt : (i : Int) < (n : Int) := by omega
          have r1 := (HC.out.1.below hbel).at (show i < n by omega)
          have r2 := (HC.out.2.1.below hbel).at (show i < n by omega)
          have l1 := HSH_length HC.out.1.1 (show i < n by omega)
          have l2 := HSH_length HC.out.2.1.1 (show i < n by omega)
          have E1 : Aside (wrap64 ((i : Int) + 1) = ((i + 1 : Nat) : Int)) := by have := HC.out.2.2; show wrap64 ((i : Int) + 1) = ((i + 1 : Nat) : Int); unfold wrap64; omega
          by_cases he : HSH l i = HSH k i
          · have B : Aside (i + 1 + g = n ∧ ∀ j, j < i + 1 → HSH l j = HSH k j) := ⟨by omega, fun j hj => by
              by_cases e : j = i
              · rw [e]; exact he
              · exact hbef j (by omega)⟩
            have hdf : (!decide (HSH l i = HSH k i)) = false := by rw [he]; simp
            have Z : Aside (Below w.heap.size w wr) := hbel
            clear he hig hbel hbef A HD HC
            generalize HSH l i = H at *
            generalize HSH k i = K at *
            go_upto_region 6 with fail
            refine same_region _ _ _ _ _ _ _ _ _ _ _ _ _ _ _ _ _ _ _ _ _ _ _ _ w ba oa n ca bb ob n cb i H K l1 l2 hlt hlt ⟨r1, r2, Z.out⟩ (fun _ _ _ _ _ h => h) ?_
            rintro w1 ⟨_, _, q3⟩
            rw [hdf]
            clear r1 r2 l1 l2 hdf
            have Z2 : Aside (Below w.heap.size w w1) := q3
            clear q3 Z
            have e1 := E1.out
            go_wp2
            go_roundg g
            case measure => exact Nat.lt_succ_self _
            case rel => exact ⟨i + 1, by first | rfl | (rw [E1.out]), B.out.1, Z2.out, B.out.2⟩
          · have hd : Aside (D = false) := by
              show D = false
              rw [HD.out, decide_eq_false_iff_not]
              intro e
              rw [e] at he
              exact he rfl
            have hdf : (!decide (HSH l i = HSH k i)) = true := by simp [he]
            have Z : Aside (Below w.heap.size w wr) := hbel
            clear he hig hbel hbef A HD HC E1
            generalize HSH l i = H at *
            generalize HSH k i = K at *
            go_upto_region 6 with fail
            refine same_region _ _ _ _ _ _ _ _ _ _ _ _ _ _ _ _ _ _ _ _ _ _ _ _ w ba oa n ca bb ob n cb i H K l1 l2 hlt hlt ⟨r1, r2, Z.out⟩ (fun _ _ _ _ _ h => h) ?_
            rintro w1 ⟨_, _, q3⟩
            rw [hdf]
            clear r1 r2 l1 l2 hdf
            have Z2 : Aside (Below w.heap.size w w1) := q3
            clear q3 Z
            go_wp2
            go_ret
            exact ⟨by rw [hd.out]; rfl, Z2.out⟩
  · have hne : ¬ (n : Int) = (m : Int) := by omega
    have hd : decide (l = k) = false := by
      rw [decide_eq_false_iff_not]
      intro e
      rw [e] at hA
      have := hA.1.symm.trans hB.1
      omega
    rw [hd]
    clear hA hB hd
    go_enter Tryd.func37, Tryd.ntmps37
    go_wp2
    go_ret
    exact ⟨rfl, Below.refl _ _⟩
end Go.Proofs.YtmpaifkjlhodpaaDoor
