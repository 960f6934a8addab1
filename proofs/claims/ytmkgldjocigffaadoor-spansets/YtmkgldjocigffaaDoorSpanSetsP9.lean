/- Texts of SpanSets, one behind the other: ManyNeedP, ManyFace, ManyFaceP, ManyPlacesCall, ProofEncode, NumLongCalls, NumLongPlain, ProofMark, ProofHashPlain, ProofHashes, ProofLong, ProofDecodePlain, ProofInTurn. -/
import Derived.Defers
import Derived.Recover
import Derived.Deep.RegionLaw
import Derived.Laws.CopyOwn
import Derived.Test.YtmkgldjocigffaaDoorSpanSetsP6
/- needUnder and need of package many, with the closure of Places. -/
namespace Go.Proofs.YtmkgldjocigffaaDoor
open Go.RowKit
set_option maxRecDepth 100000

set_option maxHeartbeats 2000000 in
theorem underP_ok (w0 : World) (bi : Nat) (CP : Nat) (S P : List Nat → World → Prop) (X : List PanicEntry)
    (hS : ∀ acc w w', S acc w → Below w.heap.size w w' → S acc w') (hB : ∀ acc w, S acc w → (bi < w0.heap.size → w.heap[bi]? = w0.heap[bi]?) ∧ w0.heap.size ≤ w.heap.size)
    (ht : ∀ acc (p : Nat) w, S acc w → acc.length ≤ 2 ^ 30 → Calls Tryd.prog 37 #[.int .u64 (p : Int), .pointer (some ⟨CP, 0, none⟩)] w fun e w' => (e = .returned (.tuple #[]) ∧ S (acc ++ [p]) w') ∨ (e = .panicked X ∧ P acc w')) :
    ∀ (h k : Nat), Node h k → ∀ (L : List Nat) (a : Option Addr) (n c : Nat) (acc : List Nat) (w : World), L.length = n → n < 2 ^ 40 → RISES L → n ≤ c → (a = none → c = 0) → (∀ x, a = some x → x.block = bi ∧ x.spot = none) → NUML w0 a L → S acc w → acc.length + (NEED h k L).length ≤ 2 ^ 30 →
    Calls Tryd.prog 57 #[.int .u64 ((PLC h k : Nat) : Int), .slice a n c, .func (.func 37) #[] #[.pointer (some ⟨CP, 0, none⟩)]] w (TOLD S P X acc (NEED h k L)) := by
  intro h
  induction h with
  | zero =>
    intro k hN L a n c acc w hl hn hR hc hnil hbl hL hw hlen
    cases L with
    | nil =>
      obtain rfl : n = 0 := by simpa using hl.symm
      rw [NEED_nil] at hlen ⊢
      have ct := ht acc (PLC 0 k) w hw (by simp at hlen; omega)
      clear hl hn hR hc hnil hbl hL hw hlen ht hS hB
      go_enter Tryd.func57, Tryd.ntmps57
      go_wp2_with fail
      refine ct.mono ?_
      rintro e w1 (⟨rfl, h1⟩ | ⟨rfl, h1⟩)
      · clear ct
        have FN : Aside (S (acc ++ [PLC 0 k]) w1) := h1
        clear h1
        go_wp2_with fail
        exact bodyPost_ret (v := .tuple #[]) (by simp [results, Tryd.f57]) rfl (.inl ⟨rfl, FN.out⟩)
      · exact ⟨rfl, .inr ⟨acc, PLC 0 k, List.prefix_refl _, rfl, h1⟩⟩
    | cons x l =>
      have hn0 : ((n : Int) == 0) = false := beq_eq_false_iff_ne.2 (by simp at hl; omega)
      have ck := kids_leaf ((PLC 0 k : Nat) : Int) k w (.node hN)
      have HS : Aside (∀ w', Below w.heap.size w w' → S (acc ++ []) w') := fun w' hb => by rw [List.append_nil]; exact hS acc w w' hw hb
      clear hl hn hR hc hnil hbl hL hw hlen ht hS hB
      go_enter Tryd.func57, Tryd.ntmps57
      go_wp2_with fail
      refine ck.mono ?_
      rintro e w1 ⟨rfl, h1⟩
      clear ck
      have FN : Aside (S (acc ++ []) w1) := HS.out w1 h1
      clear h1 HS
      go_wp2_with fail
      exact bodyPost_ret (v := .tuple #[]) (by simp [results, Tryd.f57]) rfl (.inl ⟨rfl, FN.out⟩)
  | succ h ih =>
    intro k hN L a n c acc w hl hn hR hc hnil hbl hL hw hlen
    by_cases hLe : L = []
    · subst hLe
      obtain rfl : n = 0 := by simpa using hl.symm
      rw [NEED_nil] at hlen ⊢
      have ct := ht acc (PLC (h + 1) k) w hw (by simp at hlen; omega)
      clear hl hn hR hc hnil hbl hL hw hlen ht hS hB ih
      go_enter Tryd.func57, Tryd.ntmps57
      go_wp2_with fail
      refine ct.mono ?_
      rintro e w1 (⟨rfl, h1⟩ | ⟨rfl, h1⟩)
      · clear ct
        have FN : Aside (S (acc ++ [PLC (h + 1) k]) w1) := h1
        clear h1
        go_wp2_with fail
        exact bodyPost_ret (v := .tuple #[]) (by simp [results, Tryd.f57]) rfl (.inl ⟨rfl, FN.out⟩)
      · exact ⟨rfl, .inr ⟨acc, PLC (h + 1) k, List.prefix_refl _, rfl, h1⟩⟩
    · have hn0 : ((n : Int) == 0) = false := beq_eq_false_iff_ne.2 (by have := List.length_pos_iff.2 hLe; omega)
      obtain ⟨hNl, hNr⟩ := hN.kid
      have ck := kids_ok h k hN w
      have HA : Aside (L.length = n ∧ n < 2 ^ 40 ∧ RISES L ∧ n ≤ c ∧ (a = none → c = 0) ∧ (∀ x, a = some x → x.block = bi ∧ x.spot = none) ∧ NUML w0 a L ∧ S acc w ∧ acc.length + (NEED (h + 1) k L).length ≤ 2 ^ 30 ∧ L ≠ []) := ⟨hl, hn, hR, hc, hnil, hbl, hL, hw, hlen, hLe⟩
      have NS : Aside ((∀ acc w w', S acc w → Below w.heap.size w w' → S acc w') ∧ (∀ acc w, S acc w → (bi < w0.heap.size → w.heap[bi]? = w0.heap[bi]?) ∧ w0.heap.size ≤ w.heap.size) ∧ Node h (2 * k) ∧ Node h (2 * k + 1)) := ⟨hS, hB, hNl, hNr⟩
      have IH : Aside _ := ih
      clear hl hn hR hc hnil hbl hL hw hlen ht hS hB ih hNl hNr hLe
      go_enter Tryd.func57, Tryd.ntmps57
      go_wp2_with fail
      refine ck.mono ?_
      rintro e w1 ⟨rfl, hb1⟩
      clear ck
      have S1 : Aside (S acc w1) := NS.out.1 acc w w1 HA.out.2.2.2.2.2.2.2.1 hb1
      have hN1 : NUML w1 a L := fun h0 => by
        obtain ⟨b, o, e, hl, hcc⟩ := HA.out.2.2.2.2.2.2.1 h0
        have hbb : b = bi := (HA.out.2.2.2.2.2.1 _ e).1
        obtain ⟨k1, k2⟩ := NS.out.2.1 acc w1 S1.out
        subst hbb
        exact ⟨b, o, e, by omega, fun i x hx => (World.cell?_of_block (w := w0) (by exact k1 hl)).trans (hcc i x hx)⟩
      have cs := split_ok h (2 * k) NS.out.2.2.1 a n c L HA.out.1 HA.out.2.1 HA.out.2.2.1 HA.out.2.2.2.1 HA.out.2.2.2.2.1 (fun x e => (HA.out.2.2.2.2.2.1 x e).2) w1 hN1
      clear hb1 hN1
      go_wp2_with fail
      refine cs.mono ?_
      rintro e w2 ⟨r, a', rfl, hs⟩
      clear cs
      have hsp : NEED (h + 1) k L = NEED h (2 * k) (L.take r) ++ NEED h (2 * k + 1) (L.drop r) := NEED_take HA.out.2.2.2.2.2.2.2.2.2 hs.rank
      have hrn := hs.rank.le
      have ML : Aside (NUML w0 a (L.take r)) := fun h0 => by
        obtain ⟨b, o, e, hl, hcc⟩ := HA.out.2.2.2.2.2.2.1 (by rw [List.length_take] at h0; omega)
        refine ⟨b, o, e, hl, fun i x hx => hcc i x ?_⟩
        rw [List.getElem?_take] at hx
        split at hx
        · exact hx
        · cases hx
      have MR : Aside (NUML w0 a' (L.drop r) ∧ ∀ x, a' = some x → x.block = bi ∧ x.spot = none) := by
        refine ⟨fun h0 => ?_, fun x hx => ?_⟩
        · obtain ⟨b, o, e, hl, hcc⟩ := hs.lies h0
          obtain ⟨y, e2, e3⟩ := hs.block _ e
          have hbb : b = bi := by have := (HA.out.2.2.2.2.2.1 _ e2).1; rw [← e3] at this; exact this
          obtain ⟨k1, k2⟩ := NS.out.2.1 acc w1 S1.out
          obtain ⟨b', o', e', hl', _⟩ := HA.out.2.2.2.2.2.2.1 (by rw [List.length_drop] at h0; omega)
          have hbi : bi < w0.heap.size := by have h9 : b' = bi := (HA.out.2.2.2.2.2.1 _ e').1; omega
          subst hbb
          exact ⟨b, o, e, hbi, fun i x hx => (World.cell?_of_block (w := w1) (by exact (k1 hbi).symm)).trans (hcc i x hx)⟩
        · obtain ⟨y, e2, e3⟩ := hs.block x hx
          refine ⟨by rw [e3]; exact (HA.out.2.2.2.2.2.1 _ e2).1, hs.spot x hx⟩
      have S2 : Aside (S acc w2) := NS.out.1 acc w1 w2 S1.out hs.below
      have NL : Aside (a' = none → c - r = 0) := hs.nil
      have SP : Aside (NEED (h + 1) k L = NEED h (2 * k) (L.take r) ++ NEED h (2 * k + 1) (L.drop r) ∧ r ≤ n ∧ acc.length + (NEED h (2 * k) (L.take r)).length + (NEED h (2 * k + 1) (L.drop r)).length ≤ 2 ^ 30) := by
        refine ⟨hsp, by have := HA.out.1; omega, ?_⟩
        have h1 := HA.out.2.2.2.2.2.2.2.2.1
        rw [hsp, List.length_append] at h1
        omega
      clear hs hsp hrn S1
      have c1 := IH.out (2 * k) NS.out.2.2.1 (L.take r) a r c acc w2 (by rw [List.length_take]; have := SP.out.2.1; have := HA.out.1; omega) (by have := SP.out.2.1; have := HA.out.2.1; omega) (HA.out.2.2.1.take r) (by have := SP.out.2.1; have := HA.out.2.2.2.1; omega) HA.out.2.2.2.2.1 HA.out.2.2.2.2.2.1 ML.out S2.out (by have := SP.out.2.2; omega)
      go_wp2_with fail
      refine c1.mono ?_
      rintro e w3 (⟨rfl, h3⟩ | ⟨pre, p, hp, rfl, h3⟩)
      · clear c1
        have c2 := IH.out (2 * k + 1) NS.out.2.2.2 (L.drop r) a' (n - r) (c - r) (acc ++ NEED h (2 * k) (L.take r)) w3 (by rw [List.length_drop]; have := HA.out.1; omega) (by have := HA.out.2.1; omega) (HA.out.2.2.1.drop r) (by have := HA.out.2.2.2.1; omega) NL.out MR.out.2 MR.out.1 h3 (by rw [List.length_append]; exact SP.out.2.2)
        have SQ : Aside (acc ++ NEED h (2 * k) (L.take r) ++ NEED h (2 * k + 1) (L.drop r) = acc ++ NEED (h + 1) k L) := show acc ++ NEED h (2 * k) (L.take r) ++ NEED h (2 * k + 1) (L.drop r) = acc ++ NEED (h + 1) k L by rw [SP.out.1, List.append_assoc]
        clear h3 IH HA NS ML MR S2 NL SP
        go_wp2_with fail
        refine c2.mono ?_
        rintro e w4 (⟨rfl, h4⟩ | ⟨pre, p, hp, rfl, h4⟩)
        · have FN : Aside (S (acc ++ NEED (h + 1) k L) w4) := by rw [SQ.out] at h4; exact h4
          clear h4 c2 SQ
          go_wp2_with fail
          exact bodyPost_end (v := .tuple #[]) (by simp [results, Tryd.f57]) rfl (.inl ⟨rfl, FN.out⟩)
        · rw [SQ.out] at hp
          exact ⟨rfl, .inr ⟨pre, p, hp, rfl, h4⟩⟩
      · refine ⟨rfl, .inr ⟨pre, p, hp.trans ?_, rfl, h3⟩⟩
        rw [SP.out.1, ← List.append_assoc]
        exact List.prefix_append _ _
set_option maxHeartbeats 2000000 in
theorem needP_ok (bi CP : Nat) (S P : World → List Nat → World → Prop) (X : List PanicEntry)
    (hS : ∀ w0 acc w w', S w0 acc w → Below w.heap.size w w' → S w0 acc w') (hB : ∀ w0 acc w, S w0 acc w → (∀ b, b < w0.heap.size → b ≠ CP → w.heap[b]? = w0.heap[b]?) ∧ w0.heap.size ≤ w.heap.size)
    (ht : ∀ w0 acc (p : Nat) w, S w0 acc w → acc.length ≤ 2 ^ 30 → Calls Tryd.prog 37 #[.int .u64 (p : Int), .pointer (some ⟨CP, 0, none⟩)] w fun e w' => (e = .returned (.tuple #[]) ∧ S w0 (acc ++ [p]) w') ∨ (e = .panicked X ∧ P w0 acc w'))
    (N : Nat) (hN : N ≤ 4611686018427387904) (L : List Nat) (a : Option Addr) (n c : Nat) (w : World) (hl : L.length = n) (hn : n < 2 ^ 20) (hR : RISES L) (hc : n ≤ c) (hnil : a = none → c = 0) (hbl : ∀ x, a = some x → x.block = bi ∧ x.spot = none) (hL : NUML w a L) (hCb : bi ≠ CP) (hCP : CP < w.heap.size) (hT : Tabled w)
    (h0 : ∀ w1, Below w.heap.size w w1 → S w1 [] w1) :
    Calls Tryd.prog 36 #[.slice a n c, .int .u64 (N : Int), .func (.func 37) #[] #[.pointer (some ⟨CP, 0, none⟩)]] w fun e w' => ∃ w1, Below w.heap.size w w1 ∧ TOLD (S w1) (P w1) X [] (NEEDS (TPS N) L) e w' := by
  have cp := peaks_ok N hN w hT (by omega)
  have hPC : PC N ≤ 64 := PC_lt_pow 64 N (by omega)
  have hlen := TPS_length (n := N) (by omega)
  have hmost := NEEDS_most (TPS N) L (fun p hp => (TPS_span (n := N) (by omega) (h := p.1) (k := p.2) hp).1)
  have HA : Aside (n < 2 ^ 20 ∧ N ≤ 2 ^ 62 ∧ PC N ≤ 64 ∧ (TPS N).length = PC N ∧ (NEEDS (TPS N) L).length ≤ 2 ^ 30 ∧ bi ≠ CP ∧ CP < w.heap.size) := ⟨hn, by omega, hPC, hlen, by omega, hCb, hCP⟩
  have ST : Aside ((∀ w0 acc w w', S w0 acc w → Below w.heap.size w w' → S w0 acc w') ∧ (∀ w0 acc w, S w0 acc w → (∀ b, b < w0.heap.size → b ≠ CP → w.heap[b]? = w0.heap[b]?) ∧ w0.heap.size ≤ w.heap.size)) := ⟨hS, hB⟩
  have HT : Aside (∀ w0 acc (p : Nat) w, S w0 acc w → acc.length ≤ 2 ^ 30 → Calls Tryd.prog 37 #[.int .u64 (p : Int), .pointer (some ⟨CP, 0, none⟩)] w fun e w' => (e = .returned (.tuple #[]) ∧ S w0 (acc ++ [p]) w') ∨ (e = .panicked X ∧ P w0 acc w')) := ht
  have LL : Aside (L.length = n ∧ RISES L ∧ n ≤ c ∧ (a = none → c = 0) ∧ (∀ x, a = some x → x.block = bi ∧ x.spot = none) ∧ NUML w a L ∧ ∀ w1, Below w.heap.size w w1 → S w1 [] w1) := ⟨hl, hR, hc, hnil, hbl, hL, h0⟩
  clear hN hl hn hR hc hnil hbl hL hCb hCP hT h0 hS hB ht hPC hlen hmost
  go_enter Tryd.func36, Tryd.ntmps36
  go_wp2_with fail
  refine cp.mono ?_
  rintro e w1 ⟨g, cg, rfl, hown, hb1⟩
  clear cp
  obtain ⟨m, hm⟩ : ∃ m, PC N = m := ⟨_, rfl⟩
  rw [hm] at hown ⊢
  have R1 : Aside (w1.ownsRow w.heap.size 22 1 (.slice (some ⟨g, 0, none⟩) m cg) m (UCELLS (PEAKS N)) ∧ Below w.heap.size w w1 ∧ PC N = m ∧ g ≠ CP ∧ g < w1.heap.size ∧ w.heap.size ≤ g) := ⟨hown, hb1, hm, by have h1 := (hown.lt g rfl).1; have := HA.out.2.2.2.2.2.2; omega, (hown.lt g rfl).2, (hown.lt g rfl).1⟩
  have L0 : Aside (NUML w1 a L) := fun h0 => by
    obtain ⟨b, o, e, hl, hcc⟩ := LL.out.2.2.2.2.2.1 h0
    exact ⟨b, o, e, Nat.lt_of_lt_of_le hl hb1.size, fun i x hx => (hb1.cell (p := ⟨b, o + i, none⟩) hl).trans (hcc i x hx)⟩
  clear hown hb1 hm
  go_wp2_with fail
  go_loopg [0, 13] m (fun q s0 s13 wx => ∃ (j n' c' : Nat) (a' : Option Addr) (Lj told : List Nat), s0 = .slice a' n' c' ∧ s13 = .int .i64 (j : Int) ∧ Aside (j + q = m ∧ Lj.length = n' ∧ n' ≤ n ∧ RISES Lj ∧ n' ≤ c' ∧ (a' = none → c' = 0) ∧ (∀ x, a' = some x → x.block = bi ∧ x.spot = none) ∧ NUML w1 a' Lj ∧ S w1 told wx ∧ NEEDS (TPS N) L = told ++ NEEDS ((TPS N).drop j) Lj))
  case atStart => exact ⟨0, n, c, a, L, [], rfl, rfl, by omega, LL.out.1, Nat.le_refl _, LL.out.2.1, LL.out.2.2.1, LL.out.2.2.2.1, LL.out.2.2.2.2.1, L0.out, LL.out.2.2.2.2.2.2 w1 R1.out.2.1, by simp⟩
  case round =>
    obtain ⟨j, n', c', a', Lj, told, rfl, rfl, A⟩ := hrel
    clear L0 LL
    cases gk with
    | zero =>
      obtain rfl : j = m := by have := A.out.1; omega
      have hlt : ¬ (j : Int) < (j : Int) := by omega
      have FN : Aside (∃ w1, Below w.heap.size w w1 ∧ TOLD (S w1) (P w1) X [] (NEEDS (TPS N) L) (.returned (.tuple #[])) wr) := by
        obtain ⟨h1, h2, h3, h4, h5, h6, h7, h8, h9, h10⟩ := A.out
        refine ⟨w1, R1.out.2.1, .inl ⟨rfl, ?_⟩⟩
        rw [List.drop_of_length_le (by have := R1.out.2.2.1; have := HA.out.2.2.2.1; omega)] at h10
        rw [h10, NEEDS, List.append_nil, List.nil_append]
        exact h9
      clear A R1 ST HT HA
      go_wp2_with fail
      exact bodyPost_end (v := .tuple #[]) (by simp [results, Tryd.f36]) rfl FN.out
    | succ q =>
      have hlt : (j : Int) < (m : Int) := by have := A.out.1; omega
      have hjm : j < (TPS N).length := by have := A.out.1; have := R1.out.2.2.1; have := HA.out.2.2.2.1; omega
      obtain ⟨⟨h, k⟩, ehk⟩ : ∃ s, (TPS N)[j]? = some s := ⟨_, List.getElem?_eq_getElem hjm⟩
      have hsp := TPS_span HA.out.2.1 (List.mem_of_getElem? ehk)
      have epk := TPS_peak ehk
      obtain ⟨k1, k2⟩ := ST.out.2 w1 told wr A.out.2.2.2.2.2.2.2.2.1
      have hcell : wr.cell? ⟨g, j, none⟩ = some (.int .u64 ((PLC h k : Nat) : Int)) := by
        have h1 := R1.out.1.cellAt j (by have := A.out.1; omega)
        refine (World.cell?_of_block (w := w1) (by exact k1 g R1.out.2.2.2.2.1 R1.out.2.2.2.1)).trans (h1.trans ?_)
        rw [UCELLS, List.getElem?_map, epk]
        rfl
      have ej : wrap64 ((j : Int) + 1) = ((j + 1 : Nat) : Int) := by have := A.out.1; have := R1.out.2.2.1; have := HA.out.2.2.1; unfold wrap64; omega
      have hN1 : NUML wr a' Lj := fun h0 => by
        obtain ⟨b, o, e, hl, hcc⟩ := A.out.2.2.2.2.2.2.2.1 h0
        have hbb : b = bi := (A.out.2.2.2.2.2.2.1 _ e).1
        exact ⟨b, o, e, by omega, fun i x hx => (World.cell?_of_block (w := w1) (by exact k1 b hl (by rw [hbb]; exact HA.out.2.2.2.2.2.1))).trans (hcc i x hx)⟩
      have cs := split_ok h k hsp.2.2 a' n' c' Lj A.out.2.1 (by have := A.out.2.2.1; have := HA.out.1; omega) A.out.2.2.2.1 A.out.2.2.2.2.1 A.out.2.2.2.2.2.1 (fun x e => (A.out.2.2.2.2.2.2.1 x e).2) wr hN1
      have SP : Aside (Node h k ∧ (TPS N)[j]? = some (h, k) ∧ j < (TPS N).length) := ⟨hsp.2.2, ehk, hjm⟩
      clear hsp ehk epk k1 k2 hN1 hjm
      go_wp2_with fail
      refine cs.mono ?_
      rintro e w2 ⟨r, a2, rfl, hs⟩
      clear cs hcell
      have hdrop : (TPS N).drop j = (h, k) :: (TPS N).drop (j + 1) := drop_at SP.out.2.1
      have hneed := NEEDS_take ((TPS N).drop (j + 1)) hs.rank
      rw [← hdrop] at hneed
      have hrn := hs.rank.le
      have S2 : S w1 told w2 := ST.out.1 w1 told wr w2 A.out.2.2.2.2.2.2.2.2.1 hs.below
      have MR : Aside (NUML w1 a2 (Lj.drop r) ∧ (∀ x, a2 = some x → x.block = bi ∧ x.spot = none) ∧ (a2 = none → c' - r = 0) ∧ r ≤ n' ∧ NUML w1 a' (Lj.take r) ∧ NEEDS ((TPS N).drop j) Lj = NEED h k (Lj.take r) ++ NEEDS ((TPS N).drop (j + 1)) (Lj.drop r)) := by
        refine ⟨fun h0 => ?_, fun x hx => ?_, hs.nil, by have := A.out.2.1; omega, fun h0 => ?_, hneed⟩
        · obtain ⟨b, o, e, hl, hcc⟩ := hs.lies h0
          obtain ⟨y, e2, e3⟩ := hs.block _ e
          have hbb : b = bi := by have := (A.out.2.2.2.2.2.2.1 _ e2).1; rw [← e3] at this; exact this
          obtain ⟨k1, k2⟩ := ST.out.2 w1 told wr A.out.2.2.2.2.2.2.2.2.1
          obtain ⟨b', o', e', hl', _⟩ := A.out.2.2.2.2.2.2.2.1 (by rw [List.length_drop] at h0; omega)
          have hbi : bi < w1.heap.size := by have h9 : b' = bi := (A.out.2.2.2.2.2.2.1 _ e').1; omega
          subst hbb
          exact ⟨b, o, e, hbi, fun i x hx => (World.cell?_of_block (w := wr) (by exact (k1 b hbi HA.out.2.2.2.2.2.1).symm)).trans (hcc i x hx)⟩
        · obtain ⟨y, e2, e3⟩ := hs.block x hx
          exact ⟨by rw [e3]; exact (A.out.2.2.2.2.2.2.1 _ e2).1, hs.spot x hx⟩
        · obtain ⟨b, o, e, hl, hcc⟩ := A.out.2.2.2.2.2.2.2.1 (by rw [List.length_take] at h0; omega)
          refine ⟨b, o, e, hl, fun i x hx => hcc i x ?_⟩
          rw [List.getElem?_take] at hx
          split at hx
          · exact hx
          · cases hx
      have TL : Aside (told.length + (NEED h k (Lj.take r)).length ≤ 2 ^ 30 ∧ NEEDS (TPS N) L = told ++ NEED h k (Lj.take r) ++ NEEDS ((TPS N).drop (j + 1)) (Lj.drop r)) := by
        have h1 := A.out.2.2.2.2.2.2.2.2.2
        rw [MR.out.2.2.2.2.2, ← List.append_assoc] at h1
        refine ⟨?_, h1⟩
        have h2 := HA.out.2.2.2.2.1
        rw [h1, List.length_append, List.length_append] at h2
        omega
      have cu := underP_ok w1 bi CP (S w1) (P w1) X (ST.out.1 w1) (fun acc w hw => ⟨fun hbi => (ST.out.2 w1 acc w hw).1 bi hbi HA.out.2.2.2.2.2.1, (ST.out.2 w1 acc w hw).2⟩) (HT.out w1) h k SP.out.1 (Lj.take r) a' r c' told w2 (by rw [List.length_take]; have := A.out.2.1; have := MR.out.2.2.2.1; omega) (by have := MR.out.2.2.2.1; have := A.out.2.2.1; have := HA.out.1; omega) (A.out.2.2.2.1.take r) (by have := MR.out.2.2.2.1; have := A.out.2.2.2.2.1; omega) A.out.2.2.2.2.2.1 A.out.2.2.2.2.2.2.1 MR.out.2.2.2.2.1 S2 TL.out.1
      clear hs hdrop hneed hrn S2
      go_wp2_with fail
      refine cu.mono ?_
      rintro e w3 (⟨rfl, h3⟩ | ⟨pre, p, hp, rfl, h3⟩)
      · have Z : Aside (j + 1 + q = m ∧ (Lj.drop r).length = n' - r ∧ n' - r ≤ n ∧ RISES (Lj.drop r) ∧ n' - r ≤ c' - r ∧ (a2 = none → c' - r = 0) ∧ (∀ x, a2 = some x → x.block = bi ∧ x.spot = none) ∧ NUML w1 a2 (Lj.drop r) ∧ S w1 (told ++ NEED h k (Lj.take r)) w3 ∧ NEEDS (TPS N) L = (told ++ NEED h k (Lj.take r)) ++ NEEDS ((TPS N).drop (j + 1)) (Lj.drop r)) := by
          obtain ⟨h1, h2, _, h4, h5, _⟩ := A.out
          refine ⟨by clear ej; omega, by rw [List.length_drop, h2], by have := A.out.2.2.1; clear ej; omega, h4.drop r, by clear ej; omega, MR.out.2.2.1, MR.out.2.1, MR.out.1, h3, TL.out.2⟩
        clear h3 cu A MR TL SP R1
        go_wp2_with fail
        go_roundg q
        case measure => exact Nat.lt_succ_self _
        case rel => exact ⟨j + 1, n' - r, c' - r, a2, Lj.drop r, told ++ NEED h k (Lj.take r), rfl, by first | rfl | (rw [ej]), Z.out⟩
      · refine ⟨rfl, w1, R1.out.2.1, .inr ⟨pre, p, hp.trans ?_, rfl, h3⟩⟩
        rw [List.nil_append, TL.out.2]
        exact List.prefix_append _ _
end Go.Proofs.YtmkgldjocigffaaDoor

/- face of package many: what it answers where the doing returns, where it panics. -/
namespace Go.Proofs.YtmkgldjocigffaaDoor
open Go.RowKit
set_option maxRecDepth 100000

theorem catch_panicking (p : Addr) (y x : Int) (older : List PanicEntry) (w : World) (hc : w.cell? p = some (.int .i64 y)) (hz : w.frozen? p = false) :
    CallsD Tryd.prog 55 #[.pointer (some p)] (.panicking ({ v := .iface 83 (.int .i64 x), recovered := false } :: older)) w fun e u' w' =>
      e = .returned (.tuple #[]) ∧ u' = .panicking ({ v := .iface 83 (.int .i64 x), recovered := true } :: older) ∧ w' = w.setCell p (.int .i64 x) := by
  have hta : ∀ (t : TypeId) (w : World), (Instr.typeAssert (.iface 83 (.int .i64 x)) t 83 false).run Tryd.prog w = .ok (.int .i64 x) w := fun t w => by rfl
  refine callsD_of_wpS Tryd.func55 rfl fun c₀ cs hu => ?_
  apply wpS_seq
  apply wpS_region
  simp [wpOpsS, go_sem, recoverD, hu, Tryd.ntmps55, Exit.thenS]
  refine wpS_of_wp ?_
  simp [Array.replicate]
  go_wp2
  simp [bodyPostS, results, Tryd.results55]
theorem catch_idle (p : Addr) (w : World) :
    CallsD Tryd.prog 55 #[.pointer (some p)] .returning w fun e u' w' => e = .returned (.tuple #[]) ∧ u' = .returning ∧ w' = w := by
  refine callsD_of_wpS Tryd.func55 rfl fun c₀ cs hu => ?_
  apply wpS_seq
  apply wpS_region
  simp [wpOpsS, go_sem, recoverD, hu, Tryd.ntmps55, Exit.thenS]
  refine wpS_of_wp ?_
  simp [Array.replicate]
  go_wp2
  cases c₀
  simp_all [bodyPostS, results, Tryd.results55]
end Go.Proofs.YtmkgldjocigffaaDoor

/- face of package many, with the doing of Places. -/
namespace Go.Proofs.YtmkgldjocigffaaDoor
open Go.RowKit
set_option maxRecDepth 100000

/-- what face answers. -/
def FACED (w : World) (G : World → Prop) (B : Int → World → Prop) (e : Ending) (w'' : World) : Prop :=
  (e = .returned (.int .i64 0) ∧ ∃ w', G w' ∧ w'' = w'.setCell ⟨w.heap.size, 0, none⟩ (.int .i64 0)) ∨ ∃ x w', e = .returned (.int .i64 x) ∧ B x w' ∧ w'' = w'.setCell ⟨w.heap.size, 0, none⟩ (.int .i64 x)
set_option maxHeartbeats 1000000 in
theorem faceP_ok (b0 b1 b2 : Nat) (w : World) (G : World → Prop) (B : Int → World → Prop)
    (hdo : Calls Tryd.prog 34 #[.pointer (some ⟨b0, 0, none⟩), .pointer (some ⟨b1, 0, none⟩), .pointer (some ⟨b2, 0, none⟩)] (w.alloc (.cells #[.int .i64 0] 24)) fun e w' => (e = .returned (.tuple #[]) ∧ G w') ∨ ∃ x, e = .panicked (WRONG x) ∧ B x w')
    (hG : ∀ w', G w' → Has w' w.heap.size #[.int .i64 0] 24) (hB : ∀ x w', B x w' → Has w' w.heap.size #[.int .i64 0] 24) :
    Calls Tryd.prog 33 #[.func (.func 34) #[] #[.pointer (some ⟨b0, 0, none⟩), .pointer (some ⟨b1, 0, none⟩), .pointer (some ⟨b2, 0, none⟩)]] w (FACED w G B) := by
  have hmf : ∀ (fn : Fn) (first cap : Array Value) (w : World), (Instr.makeFunc fn first cap).run Tryd.prog w = .ok (.func fn first cap) w := fun _ _ _ _ => rfl
  have HG : Aside (∀ w', G w' → Has w' w.heap.size #[.int .i64 0] 24) := hG
  have HB : Aside (∀ x w', B x w' → Has w' w.heap.size #[.int .i64 0] 24) := hB
  clear hG hB
  go_enter_defers Tryd.func33, Tryd.ntmps33
  go_wp2_with fail
  refine hdo.mono ?_
  rintro e w1 (⟨rfl, h1⟩ | ⟨x, rfl, h1⟩)
  · clear hdo
    have hh := HG.out w1 h1
    have c0 := hh.cell 0
    have f0 := hh.frozen 0
    have G1 : Aside (G w1) := h1
    clear h1
    go_wp2_with fail
    refine leaves_cons (f := 55) (args := #[.pointer (some ⟨w.heap.size, 0, none⟩)]) (by simp) (by simp [go_sem]) ?_
    refine (catch_idle ⟨w.heap.size, 0, none⟩ _).mono ?_
    rintro e u' w'' ⟨rfl, rfl, rfl⟩
    have c1 := (hh.set 0 (.int .i64 0)).cell 0
    simp [Leaves, settle, results, Tryd.results33, go_sem, c1]
    exact .inl ⟨rfl, w1, G1.out, rfl⟩
  · have hh := HB.out x w1 h1
    have c0 := hh.cell 0
    have f0 := hh.frozen 0
    refine leaves_cons (f := 55) (args := #[.pointer (some ⟨w.heap.size, 0, none⟩)]) (by simp) (by simp [go_sem]) ?_
    refine (catch_panicking ⟨w.heap.size, 0, none⟩ 0 x [] w1 c0 f0).mono ?_
    rintro e u' w'' ⟨rfl, rfl, rfl⟩
    have c1 := (hh.set 0 (.int .i64 x)).cell 0
    simp [Leaves, settle, results, Tryd.results33, go_sem, c1]
    exact .inr ⟨x, w1, rfl, h1, rfl⟩
end Go.Proofs.YtmkgldjocigffaaDoor

/- Places of package many. -/
namespace Go.Proofs.YtmkgldjocigffaaDoor
open Go.RowKit
set_option maxRecDepth 100000

theorem TAKING.still {w0 w w' : World} {bp : Nat} {acc : List Nat} (h : TAKING w0 w bp acc) (hb : Below w.heap.size w w') : TAKING w0 w' bp acc := by
  obtain ⟨v, h1, h2⟩ := h.row
  have hs := h.below.size
  have hlt := h.lt
  refine ⟨⟨v, h1.keep hb, ?_⟩, fun b hb0 hne => (hb.block b (by omega)).trans (h.keep b hb0 hne), hlt, h.below.trans (hb.mono (by omega))⟩
  refine ⟨h2.1, h2.2.imp id ?_⟩
  rintro ⟨g', c, cur, rfl, b, r, rest⟩
  exact ⟨g', c, cur, rfl, b, (hb.block g' (Array.getElem?_eq_some_iff.1 r).1).trans r, rest⟩
/-- what Places answers. -/
def PLCA (L : List Nat) (N : Nat) : List Nat := if RISEA L N = 0 then NEEDS (TPS N) L else []
set_option maxHeartbeats 2000000 in
theorem placesdo_ok (L : List Nat) (N : Nat) (a : Option Addr) (m c : Nat) (b0 b1 b2 : Nat) (w : World) (hl : L.length = m) (hm : m < 2 ^ 20) (hc : m ≤ c) (hnil : a = none → c = 0) (hbl : ∀ x, a = some x → x.block ≠ b2 ∧ x.spot = none) (hL : NUML w a L) (hT : Tabled w)
    (h0 : Has w b0 #[.slice a m c] 23) (h1 : Has w b1 #[.int .u64 (N : Int)] 22) (h2 : Has w b2 #[.slice none 0 0] 23) :
    Calls Tryd.prog 34 #[.pointer (some ⟨b0, 0, none⟩), .pointer (some ⟨b1, 0, none⟩), .pointer (some ⟨b2, 0, none⟩)] w fun e w' =>
      (e = .returned (.tuple #[]) ∧ (RISEA L N = 0 ∧ ∃ w1, Below w.heap.size w w1 ∧ TAKING w1 w' b2 (NEEDS (TPS N) L))) ∨ ∃ x, e = .panicked (WRONG x) ∧ (x = RISEA L N ∧ x ≠ 0 ∧ w' = w) := by
  have hmf : ∀ (fn : Fn) (first cap : Array Value) (w : World), (Instr.makeFunc fn first cap).run Tryd.prog w = .ok (.func fn first cap) w := fun _ _ _ _ => rfl
  have cm := mustrise_ok L N a m c hl (by omega) w hL
  have x0 := h0.cell 0
  have x1 := h1.cell 0
  have hb2 := h2.lt
  have HA : Aside (L.length = m ∧ m < 2 ^ 20 ∧ m ≤ c ∧ (a = none → c = 0) ∧ (∀ x, a = some x → x.block ≠ b2 ∧ x.spot = none) ∧ NUML w a L ∧ Tabled w ∧ Has w b2 #[.slice none 0 0] 23) := ⟨hl, hm, hc, hnil, hbl, hL, hT, h2⟩
  clear hl hm hc hnil hbl hL hT h2 h0 h1
  go_enter Tryd.func34, Tryd.ntmps34
  go_wp2_with fail
  refine cm.mono ?_
  rintro e w1 ⟨rfl, (⟨hr, rfl⟩ | ⟨hr, rfl⟩)⟩
  · clear cm
    obtain ⟨r1, r2, r3⟩ := RISEA_ok hr
    obtain ⟨bj, hbj, hbn⟩ : ∃ bj, (∀ x, a = some x → x.block = bj ∧ x.spot = none) ∧ bj ≠ b2 := by
      cases a with
      | none => exact ⟨b2 + 1, fun x e => (by cases e), by omega⟩
      | some x => exact ⟨x.block, fun y e => (by cases e; exact ⟨rfl, (HA.out.2.2.2.2.1 x rfl).2⟩), (HA.out.2.2.2.2.1 x rfl).1⟩
    have cn := needP_ok bj b2 (fun w0 acc w => TAKING w0 w b2 acc) (fun _ _ _ => False) [] (fun w0 acc w w' h hb => h.still hb) (fun w0 acc w h => ⟨fun b hb hne => h.keep b hb hne, h.below.size⟩) (fun w0 acc p w h hn => (mtake_ok h p hn).mono fun e w' hh => .inl hh) N r1 L a m c w HA.out.1 HA.out.2.1 r2 HA.out.2.2.1 HA.out.2.2.2.1 hbj HA.out.2.2.2.2.2.1 hbn hb2 HA.out.2.2.2.2.2.2.1
      (fun w1 hb => ⟨⟨.slice none 0 0, HA.out.2.2.2.2.2.2.2.keep hb, ⟨rfl, .inl ⟨rfl, rfl⟩⟩⟩, fun b _ _ => rfl, (HA.out.2.2.2.2.2.2.2.keep hb).lt, Below.refl _ _⟩)
    have HR : Aside (RISEA L N = 0) := hr
    clear r1 r2 r3 hbj hbn HA hr hb2
    go_wp2_with fail
    refine cn.mono ?_
    rintro e w2 ⟨w1, hb1, (⟨rfl, ht⟩ | ⟨pre, p, _, _, hf⟩)⟩
    · clear cn
      have FN : Aside (∃ w1, Below w.heap.size w w1 ∧ TAKING w1 w2 b2 (NEEDS (TPS N) L)) := ⟨w1, hb1, by rw [List.nil_append] at ht; exact ht⟩
      clear hb1 ht
      go_wp2_with fail
      exact bodyPost_end (v := .tuple #[]) (by simp [results, Tryd.f34]) rfl (.inl ⟨rfl, HR.out, FN.out⟩)
    · exact hf.elim
  · exact ⟨rfl, .inr ⟨_, rfl, rfl, hr, rfl⟩⟩
/-- what is answered: an error and a list of numbers. -/
def ANSN (w : World) (E : Int) (l : List Nat) (e : Ending) (w' : World) : Prop := ∃ a c, e = .returned (.tuple #[.slice a l.length c, .int .i64 E]) ∧ w'.ownsRow w.heap.size 22 1 (.slice a l.length c) l.length (UCELLS l) ∧ Below w.heap.size w w'
set_option maxHeartbeats 2000000 in
theorem manyplaces_ok (L : List Nat) (N : Nat) (a : Option Addr) (m c : Nat) (w : World) (hl : L.length = m) (hm : m < 2 ^ 20) (hc : m ≤ c) (hnil : a = none → c = 0) (hbl : ∀ x, a = some x → x.block < w.heap.size ∧ x.spot = none) (hL : NUML w a L) (hT : Tabled w) (hw0 : 0 < w.heap.size) :
    Calls Tryd.prog 13 #[.slice a m c, .int .u64 (N : Int)] w (ANSN w (RISEA L N) (PLCA L N)) := by
  have hmf : ∀ (fn : Fn) (first cap : Array Value) (w : World), (Instr.makeFunc fn first cap).run Tryd.prog w = .ok (.func fn first cap) w := fun _ _ _ _ => rfl
  obtain ⟨w1, e1⟩ : ∃ w1, w.alloc (.cells #[.slice a m c] 23) = w1 := ⟨_, rfl⟩
  obtain ⟨w2, e2⟩ : ∃ w2, w1.alloc (.cells #[.int .u64 (N : Int)] 22) = w2 := ⟨_, rfl⟩
  obtain ⟨w3, e3⟩ : ∃ w3, w2.alloc (.cells #[.slice none 0 0] 23) = w3 := ⟨_, rfl⟩
  obtain ⟨w4, e4⟩ : ∃ w4, w3.alloc (.cells #[.int .i64 0] 24) = w4 := ⟨_, rfl⟩
  have s1 : w1.heap.size = w.heap.size + 1 := by rw [← e1]; simp
  have s2 : w2.heap.size = w.heap.size + 2 := by rw [← e2]; simp; omega
  have s3 : w3.heap.size = w.heap.size + 3 := by rw [← e3]; simp; omega
  have s4 : w4.heap.size = w.heap.size + 4 := by rw [← e4]; simp; omega
  have hb4 : Below w.heap.size w w4 := by
    rw [← e4, ← e3, ← e2, ← e1]
    exact ((((Below.refl _ _).alloc (Nat.le_refl _) _).alloc (by simp) _).alloc (by simp; omega) _).alloc (by simp; omega) _
  have h0 : Has w4 w.heap.size #[.slice a m c] 23 := by
    rw [← e4, ← e3, ← e2, ← e1]
    exact (((Has.new w _ _).alloc _).alloc _).alloc _
  have h1 : Has w4 w1.heap.size #[.int .u64 (N : Int)] 22 := by
    rw [← e4, ← e3, ← e2]
    exact ((Has.new w1 _ _).alloc _).alloc _
  have h2 : Has w4 w2.heap.size #[.slice none 0 0] 23 := by
    rw [← e4, ← e3]
    exact (Has.new w2 _ _).alloc _
  have h3 : Has w4 w3.heap.size #[.int .i64 0] 24 := by
    rw [← e4]
    exact Has.new w3 _ _
  have hL4 : NUML w4 a L := fun hp => by
    obtain ⟨b, o, e, hlt, hcc⟩ := hL hp
    exact ⟨b, o, e, by omega, fun i x hx => (hb4.cell (p := ⟨b, o + i, none⟩) hlt).trans (hcc i x hx)⟩
  have cd := placesdo_ok L N a m c w.heap.size w1.heap.size w2.heap.size w4 hl hm hc hnil (fun x e => ⟨by have := (hbl x e).1; omega, (hbl x e).2⟩) hL4 (hT.below hw0 hb4) h0 h1 h2
  rw [← e4] at cd
  have cf := faceP_ok w.heap.size w1.heap.size w2.heap.size w3 _ _ cd
    (fun w' ⟨_, wx, hbx, ht⟩ => by
      rw [e4] at hbx
      exact (ht.keep w3.heap.size (by have := hbx.size; omega) (by omega)).trans (h3.keep hbx))
    (fun x w' ⟨_, _, e⟩ => by rw [e, e4]; exact h3)
  rw [e4] at cf
  have FIN : Aside (∀ e w', FACED w3 (fun w' => RISEA L N = 0 ∧ ∃ w1, Below w4.heap.size w4 w1 ∧ TAKING w1 w' w2.heap.size (NEEDS (TPS N) L)) (fun x w' => x = RISEA L N ∧ x ≠ 0 ∧ w' = w4) e w' → e = .returned (.int .i64 (RISEA L N)) ∧ Below w.heap.size w w' ∧ ∃ a' c', Has w' w2.heap.size #[.slice a' (PLCA L N).length c'] 23 ∧ w'.ownsRow w.heap.size 22 1 (.slice a' (PLCA L N).length c') (PLCA L N).length (UCELLS (PLCA L N))) := by
    rintro e w' (⟨rfl, wx, ⟨hr, wy, hby, ht⟩, rfl⟩ | ⟨x, wx, rfl, ⟨rfl, hx, rfl⟩, rfl⟩)
    · have hP : PLCA L N = NEEDS (TPS N) L := if_pos hr
      have hsz := hby.size
      obtain ⟨v, hv, hown⟩ := ht.row
      obtain ⟨a', c', rfl⟩ := own_sliced hown
      refine ⟨by rw [hr], ?_, a', c', ?_, ?_⟩
      · exact ((hb4.trans (hby.mono hb4.size)).trans (ht.below.mono (by omega))).setCell (by show w.heap.size ≤ w3.heap.size; omega) _
      · rw [hP]
        exact hv.other (by show w2.heap.size ≠ w3.heap.size; omega) _
      · rw [hP]
        exact own_mono (ownsRow_setCell_below hown (a := ⟨w3.heap.size, 0, none⟩) (by show w3.heap.size < wy.heap.size; omega) _) (by omega)
    · have hP : PLCA L N = [] := if_neg hx
      refine ⟨rfl, hb4.setCell (by show w.heap.size ≤ w3.heap.size; omega) _, none, 0, ?_, ?_⟩
      · rw [hP]
        exact h2.other (by show w2.heap.size ≠ w3.heap.size; omega) _
      · rw [hP]
        exact ⟨rfl, .inl ⟨rfl, rfl⟩⟩
  clear cd h0 h1 h2 h3 hL4 hb4 hl hm hc hnil hbl hL hT s1 s2 s3 s4 e4 hw0
  go_enter Tryd.func13, Tryd.ntmps13
  go_wp2_with fail
  refine cf.mono ?_
  intro e w5 hh
  obtain ⟨rfl, hb5, a', c', hv, hown⟩ := FIN.out e w5 hh
  have x0 := hv.cell 0
  have FN : Aside (ANSN w (RISEA L N) (PLCA L N) (.returned (.tuple #[.slice a' (PLCA L N).length c', .int .i64 (RISEA L N)])) w5) := ⟨a', c', rfl, hown, hb5⟩
  clear hh hb5 hv hown FIN cf
  go_wp2_with fail
  go_ret2
  exact FN.out
end Go.Proofs.YtmkgldjocigffaaDoor

/- What Encode and EncodePrefix answer, of any proof; the law's awake. -/
namespace Go.Proofs.YtmkgldjocigffaaDoor
open Go.RowKit
set_option maxRecDepth 100000

/-! the law's awake -/
end Go.Proofs.YtmkgldjocigffaaDoor

/- What Long of package num answers. -/
namespace Go.Proofs.YtmkgldjocigffaaDoor
open Go.RowKit

/-- what a number in groups of 7 bits reads as, from the k-th byte on: the number, how many bytes, what is wrong. -/
def LG (l : List Int) (n : Nat) : Nat → Nat → Int → Int × Int × Int
  | 0, _, _ => (0, 0, 10)
  | f + 1, k, x => if k = n then (0, 0, 11) else if 128 ≤ l.getD k 0 then LG l n f (k + 1) (x + l.getD k 0 % 128 * 128 ^ k)
    else if k = 9 ∧ 1 < l.getD k 0 then (0, 0, 10) else if l.getD k 0 = 0 ∧ 0 < k then (0, 0, 12) else (x + l.getD k 0 * 128 ^ k, (k : Int) + 1, 0)
/-! shifts by whole groups -/
theorem pow7 (k : Nat) : (2 : Nat) ^ (7 * k) = 128 ^ k := by rw [Nat.pow_mul]
theorem group_shl (L k : Nat) : SHL L (7 * (k : Int)) = L * 128 ^ k % 2 ^ 64 := by
  unfold SHL
  rw [if_neg (by omega), show (7 * (k : Int)).toNat = 7 * k by omega, pow7]
theorem group_small {L k : Nat} (hL : L < 128) (hk : k ≤ 8) : L * 128 ^ k % 2 ^ 64 = L * 128 ^ k := by
  have h := Nat.pow_le_pow_right (n := 128) (by decide) hk
  have h2 : L * 128 ^ k ≤ 127 * 128 ^ 8 := Nat.mul_le_mul (by omega) h
  exact Nat.mod_eq_of_lt (Nat.lt_of_le_of_lt h2 (by decide))
theorem group_or {x L k : Nat} (hx : x < 128 ^ k) (hL : L < 128) (hk : k ≤ 8) : bits .or .u64 (x : Int) ((L * 128 ^ k % 2 ^ 64 : Nat) : Int) = ((x + L * 128 ^ k : Nat) : Int) := by
  have h8 := Nat.pow_le_pow_right (n := 128) (by decide) hk
  have hx2 : x < 2 ^ 64 := Nat.lt_of_lt_of_le hx (Nat.le_trans h8 (by decide))
  rw [or_eq hx2 (Nat.mod_lt _ (by decide)), group_small hL hk, Nat.or_comm, nat_join (7 * k) _ x (by rw [pow7]; exact Nat.mul_mod_left _ _) (by rw [pow7]; exact hx), Nat.add_comm]
theorem group_or9 {x L : Nat} (hx : x < 128 ^ 9) (hL : L < 2) : bits .or .u64 (x : Int) ((L * 128 ^ 9 % 2 ^ 64 : Nat) : Int) = ((x + L * 128 ^ 9 : Nat) : Int) := by
  have h1 : L * 128 ^ 9 % 2 ^ 64 = L * 128 ^ 9 := Nat.mod_eq_of_lt (by omega)
  rw [or_eq (Nat.lt_of_lt_of_le hx (by decide)) (Nat.mod_lt _ (by decide)), h1, Nat.or_comm, nat_join (7 * 9) _ x (by omega) (by omega), Nat.add_comm]

/-- what holds of the number that has been gathered ahead of the k-th byte. -/
def Gath (l : List Int) (n k : Nat) (y : Int) (R : Int × Int × Int) : Prop := ∃ x : Nat, LG l n (10 - k) k (x : Int) = R ∧ (k ≤ 9 → y = (x : Int) ∧ x < 128 ^ k)
theorem Gath.val {l : List Int} {n k : Nat} {y v p : Int} {R : Int × Int × Int} (A : Gath l n k y R) (hk : k ≤ 9) (h0 : 0 ≤ v) (h1 : ¬ 128 ≤ v) (h9 : ¬ (k = 9 ∧ 1 < v))
    (hp : p = ((SHL (v % 128).toNat (7 * (k : Int)) : Nat) : Int)) : bits .or .u64 y p = y + v * 128 ^ k := by
  obtain ⟨x, _, hy⟩ := A
  obtain ⟨rfl, hlt⟩ := hy hk
  obtain ⟨L, rfl⟩ : ∃ L : Nat, v = (L : Int) := ⟨v.toNat, by omega⟩
  rw [show (((L : Int) % 128).toNat) = L by omega, group_shl] at hp
  by_cases h : k = 9
  · subst h
    rw [hp, group_or9 hlt (by omega)]
    simp
  · rw [hp, group_or hlt (by omega) (by omega)]
    simp
end Go.Proofs.YtmkgldjocigffaaDoor

/- Short and Long, as lists; no Go in sight. -/
namespace Go.Proofs.YtmkgldjocigffaaDoor
open Go.RowKit

end Go.Proofs.YtmkgldjocigffaaDoor

/- What the readers of package proof do with the bytes that are left: the mark, a number. -/
namespace Go.Proofs.YtmkgldjocigffaaDoor
open Go.RowKit
set_option maxRecDepth 100000

/-- s[k:], of bytes: what is behind. -/
theorem Bytes.rest {w : World} {b off n : Nat} {l : List Int} (h : Bytes w (some ⟨b, off, none⟩) n l) (k : Nat) (hk : k ≤ n) : Bytes w (some ⟨b, off + k, none⟩) (n - k) (l.drop k) := by
  refine ⟨by rw [List.length_drop, h.1], fun hn => ?_, fun x hx => h.2.2 x (List.mem_of_mem_drop hx)⟩
  obtain ⟨b', o', e, hl, hc⟩ := h.2.1 (by omega)
  simp only [Option.some.injEq, Addr.mk.injEq] at e
  obtain ⟨rfl, rfl, _⟩ := e
  refine ⟨b, off + k, rfl, hl, fun i hi => ?_⟩
  rw [show off + k + i = off + (k + i) by omega, hc (k + i) (by omega)]
  congr 2
  rw [List.getD_eq_getElem?_getD, List.getD_eq_getElem?_getD, List.getElem?_drop]
/-- where s[k:] begins: where no room is left, the address stays. -/
def REST (b off c k : Nat) : Option Addr := if c = k then some ⟨b, off, none⟩ else some ⟨b, off + k, none⟩
theorem Bytes.behind {w : World} {b off n c : Nat} {l : List Int} (h : Bytes w (some ⟨b, off, none⟩) n l) (k : Nat) (hk : k ≤ n) (hc : n ≤ c) : Bytes w (REST b off c k) (n - k) (l.drop k) := by
  unfold REST
  split
  · have h0 : n - k = 0 := by omega
    rw [h0]
    refine ⟨?_, fun h => by omega, fun x hx => h.2.2 x (List.mem_of_mem_drop hx)⟩
    rw [List.length_drop, h.1, h0]
  · exact h.rest k hk
end Go.Proofs.YtmkgldjocigffaaDoor

/- A list of hashes that is made, and filled node by node. -/
namespace Go.Proofs.YtmkgldjocigffaaDoor
open Go.RowKit
set_option maxRecDepth 100000

end Go.Proofs.YtmkgldjocigffaaDoor

/- What the readers of package proof do with the bytes that are left: the nodes. -/
namespace Go.Proofs.YtmkgldjocigffaaDoor
open Go.RowKit
set_option maxRecDepth 100000

end Go.Proofs.YtmkgldjocigffaaDoor

/- A number in front of bytes. -/
namespace Go.Proofs.YtmkgldjocigffaaDoor
open Go.RowKit

end Go.Proofs.YtmkgldjocigffaaDoor

/- What Decode and DecodePrefix answer, of any bytes. -/
namespace Go.Proofs.YtmkgldjocigffaaDoor
open Go.RowKit

end Go.Proofs.YtmkgldjocigffaaDoor

/- Part by part: what inTurn answers, of the parts of either reader. -/
namespace Go.Proofs.YtmkgldjocigffaaDoor
open Go.RowKit
set_option maxRecDepth 100000

end Go.Proofs.YtmkgldjocigffaaDoor
