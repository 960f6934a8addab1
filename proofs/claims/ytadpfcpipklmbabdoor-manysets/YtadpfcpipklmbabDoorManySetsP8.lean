/- Texts of ManySets, one behind the other: ManyNeedE, NumSlice, NumByteCalls, NumAppend. -/
import Derived.Test.YtadpfcpipklmbabDoorProg
import Derived.WalkKit
import Derived.WalkLawsBesides
import Derived.Deep.LoopGhost
import Derived.Deep.OwnRows
import Derived.Deep.QuietTactic
import Derived.BigQuiet
import Derived.Deep.AppendLies
import Derived.Laws.AppendOwnNone
import Derived.Test.YtadpfcpipklmbabDoorManySetsP1
import Derived.Test.YtadpfcpipklmbabDoorManySetsP2
import Derived.Test.YtadpfcpipklmbabDoorManySetsP6
import Derived.Test.YtadpfcpipklmbabDoorManySetsP7
/- needUnder and need of package many, with the closure of Encode. -/
namespace Go.Proofs.YtadpfcpipklmbabDoor
open Go.RowKit
set_option maxRecDepth 100000

set_option maxHeartbeats 2000000 in
theorem underE_ok (w0 : World) (bi : Nat) (CP : Nat) (S P : List Nat → World → Prop) (X : List PanicEntry)
    (hS : ∀ acc w w', S acc w → Below w.heap.size w w' → S acc w') (hB : ∀ acc w, S acc w → (bi < w0.heap.size → w.heap[bi]? = w0.heap[bi]?) ∧ w0.heap.size ≤ w.heap.size)
    (ht : ∀ acc (p : Nat) w, S acc w → acc.length ≤ 2 ^ 30 → Calls Tryd.prog 51 #[.int .u64 (p : Int), .pointer (some ⟨CP, 0, none⟩)] w fun e w' => (e = .returned (.tuple #[]) ∧ S (acc ++ [p]) w') ∨ (e = .panicked X ∧ P acc w')) :
    ∀ (h k : Nat), Node h k → ∀ (L : List Nat) (a : Option Addr) (n c : Nat) (acc : List Nat) (w : World), L.length = n → n < 2 ^ 40 → RISES L → n ≤ c → (a = none → c = 0) → (∀ x, a = some x → x.block = bi ∧ x.spot = none) → NUML w0 a L → S acc w → acc.length + (NEED h k L).length ≤ 2 ^ 30 →
    Calls Tryd.prog 43 #[.int .u64 ((PLC h k : Nat) : Int), .slice a n c, .func (.func 51) #[] #[.pointer (some ⟨CP, 0, none⟩)]] w (TOLD S P X acc (NEED h k L)) := by
  intro h
  induction h with
  | zero =>
    intro k hN L a n c acc w hl hn hR hc hnil hbl hL hw hlen
    cases L with
    | nil =>
      obtain rfl : n = 0 := by simpa using hl.symm
      rw [NEED_nil] at hlen ⊢
      have ct := ht acc (PLC 0 k) w hw (by simp at hlen; omega)
      clear hl hn hR hc hnil hbl hL hw hlen ht hS hB
      go_enter Tryd.func43, Tryd.ntmps43
      go_wp2_with fail
      refine ct.mono ?_
      rintro e w1 (⟨rfl, h1⟩ | ⟨rfl, h1⟩)
      · clear ct
        have FN : Aside (S (acc ++ [PLC 0 k]) w1) := h1
        clear h1
        go_wp2_with fail
        exact bodyPost_ret (v := .tuple #[]) (by simp [results, Tryd.f43]) rfl (.inl ⟨rfl, FN.out⟩)
      · exact ⟨rfl, .inr ⟨acc, PLC 0 k, List.prefix_refl _, rfl, h1⟩⟩
    | cons x l =>
      have hn0 : ((n : Int) == 0) = false := beq_eq_false_iff_ne.2 (by simp at hl; omega)
      have ck := kids_leaf ((PLC 0 k : Nat) : Int) k w (.node hN)
      have HS : Aside (∀ w', Below w.heap.size w w' → S (acc ++ []) w') := fun w' hb => by rw [List.append_nil]; exact hS acc w w' hw hb
      clear hl hn hR hc hnil hbl hL hw hlen ht hS hB
      go_enter Tryd.func43, Tryd.ntmps43
      go_wp2_with fail
      refine ck.mono ?_
      rintro e w1 ⟨rfl, h1⟩
      clear ck
      have FN : Aside (S (acc ++ []) w1) := HS.out w1 h1
      clear h1 HS
      go_wp2_with fail
      exact bodyPost_ret (v := .tuple #[]) (by simp [results, Tryd.f43]) rfl (.inl ⟨rfl, FN.out⟩)
  | succ h ih =>
    intro k hN L a n c acc w hl hn hR hc hnil hbl hL hw hlen
    by_cases hLe : L = []
    · subst hLe
      obtain rfl : n = 0 := by simpa using hl.symm
      rw [NEED_nil] at hlen ⊢
      have ct := ht acc (PLC (h + 1) k) w hw (by simp at hlen; omega)
      clear hl hn hR hc hnil hbl hL hw hlen ht hS hB ih
      go_enter Tryd.func43, Tryd.ntmps43
      go_wp2_with fail
      refine ct.mono ?_
      rintro e w1 (⟨rfl, h1⟩ | ⟨rfl, h1⟩)
      · clear ct
        have FN : Aside (S (acc ++ [PLC (h + 1) k]) w1) := h1
        clear h1
        go_wp2_with fail
        exact bodyPost_ret (v := .tuple #[]) (by simp [results, Tryd.f43]) rfl (.inl ⟨rfl, FN.out⟩)
      · exact ⟨rfl, .inr ⟨acc, PLC (h + 1) k, List.prefix_refl _, rfl, h1⟩⟩
    · have hn0 : ((n : Int) == 0) = false := beq_eq_false_iff_ne.2 (by have := List.length_pos_iff.2 hLe; omega)
      obtain ⟨hNl, hNr⟩ := hN.kid
      have ck := kids_ok h k hN w
      have HA : Aside (L.length = n ∧ n < 2 ^ 40 ∧ RISES L ∧ n ≤ c ∧ (a = none → c = 0) ∧ (∀ x, a = some x → x.block = bi ∧ x.spot = none) ∧ NUML w0 a L ∧ S acc w ∧ acc.length + (NEED (h + 1) k L).length ≤ 2 ^ 30 ∧ L ≠ []) := ⟨hl, hn, hR, hc, hnil, hbl, hL, hw, hlen, hLe⟩
      have NS : Aside ((∀ acc w w', S acc w → Below w.heap.size w w' → S acc w') ∧ (∀ acc w, S acc w → (bi < w0.heap.size → w.heap[bi]? = w0.heap[bi]?) ∧ w0.heap.size ≤ w.heap.size) ∧ Node h (2 * k) ∧ Node h (2 * k + 1)) := ⟨hS, hB, hNl, hNr⟩
      have IH : Aside _ := ih
      clear hl hn hR hc hnil hbl hL hw hlen ht hS hB ih hNl hNr hLe
      go_enter Tryd.func43, Tryd.ntmps43
      go_wp2_with fail
      refine ck.mono ?_
      rintro e w1 ⟨rfl, hb1⟩
      clear ck
      have S1 : Aside (S acc w1) := NS.out.1 acc w w1 HA.out.2.2.2.2.2.2.2.1 hb1
      have hN1 : NUML w1 a L := fun h0 => by
        obtain ⟨b, o, e, hl, hcc⟩ := HA.out.2.2.2.2.2.2.1 h0
        have hbb : b = bi := (HA.out.2.2.2.2.2.1 _ e).1
        obtain ⟨k1, k2⟩ := NS.out.2.1 acc w1 S1.out
        subst hbb
        exact ⟨b, o, e, by omega, fun i x hx => (World.cell?_of_block (w := w0) (by exact k1 hl)).trans (hcc i x hx)⟩
      have cs := split_ok h (2 * k) NS.out.2.2.1 a n c L HA.out.1 HA.out.2.1 HA.out.2.2.1 HA.out.2.2.2.1 HA.out.2.2.2.2.1 (fun x e => (HA.out.2.2.2.2.2.1 x e).2) w1 hN1
      clear hb1 hN1
      go_wp2_with fail
      refine cs.mono ?_
      rintro e w2 ⟨r, a', rfl, hs⟩
      clear cs
      have hsp : NEED (h + 1) k L = NEED h (2 * k) (L.take r) ++ NEED h (2 * k + 1) (L.drop r) := NEED_take HA.out.2.2.2.2.2.2.2.2.2 hs.rank
      have hrn := hs.rank.le
      have ML : Aside (NUML w0 a (L.take r)) := fun h0 => by
        obtain ⟨b, o, e, hl, hcc⟩ := HA.out.2.2.2.2.2.2.1 (by rw [List.length_take] at h0; omega)
        refine ⟨b, o, e, hl, fun i x hx => hcc i x ?_⟩
        rw [List.getElem?_take] at hx
        split at hx
        · exact hx
        · cases hx
      have MR : Aside (NUML w0 a' (L.drop r) ∧ ∀ x, a' = some x → x.block = bi ∧ x.spot = none) := by
        refine ⟨fun h0 => ?_, fun x hx => ?_⟩
        · obtain ⟨b, o, e, hl, hcc⟩ := hs.lies h0
          obtain ⟨y, e2, e3⟩ := hs.block _ e
          have hbb : b = bi := by have := (HA.out.2.2.2.2.2.1 _ e2).1; rw [← e3] at this; exact this
          obtain ⟨k1, k2⟩ := NS.out.2.1 acc w1 S1.out
          obtain ⟨b', o', e', hl', _⟩ := HA.out.2.2.2.2.2.2.1 (by rw [List.length_drop] at h0; omega)
          have hbi : bi < w0.heap.size := by have h9 : b' = bi := (HA.out.2.2.2.2.2.1 _ e').1; omega
          subst hbb
          exact ⟨b, o, e, hbi, fun i x hx => (World.cell?_of_block (w := w1) (by exact (k1 hbi).symm)).trans (hcc i x hx)⟩
        · obtain ⟨y, e2, e3⟩ := hs.block x hx
          refine ⟨by rw [e3]; exact (HA.out.2.2.2.2.2.1 _ e2).1, hs.spot x hx⟩
      have S2 : Aside (S acc w2) := NS.out.1 acc w1 w2 S1.out hs.below
      have NL : Aside (a' = none → c - r = 0) := hs.nil
      have SP : Aside (NEED (h + 1) k L = NEED h (2 * k) (L.take r) ++ NEED h (2 * k + 1) (L.drop r) ∧ r ≤ n ∧ acc.length + (NEED h (2 * k) (L.take r)).length + (NEED h (2 * k + 1) (L.drop r)).length ≤ 2 ^ 30) := by
        refine ⟨hsp, by have := HA.out.1; omega, ?_⟩
        have h1 := HA.out.2.2.2.2.2.2.2.2.1
        rw [hsp, List.length_append] at h1
        omega
      clear hs hsp hrn S1
      have c1 := IH.out (2 * k) NS.out.2.2.1 (L.take r) a r c acc w2 (by rw [List.length_take]; have := SP.out.2.1; have := HA.out.1; omega) (by have := SP.out.2.1; have := HA.out.2.1; omega) (HA.out.2.2.1.take r) (by have := SP.out.2.1; have := HA.out.2.2.2.1; omega) HA.out.2.2.2.2.1 HA.out.2.2.2.2.2.1 ML.out S2.out (by have := SP.out.2.2; omega)
      go_wp2_with fail
      refine c1.mono ?_
      rintro e w3 (⟨rfl, h3⟩ | ⟨pre, p, hp, rfl, h3⟩)
      · clear c1
        have c2 := IH.out (2 * k + 1) NS.out.2.2.2 (L.drop r) a' (n - r) (c - r) (acc ++ NEED h (2 * k) (L.take r)) w3 (by rw [List.length_drop]; have := HA.out.1; omega) (by have := HA.out.2.1; omega) (HA.out.2.2.1.drop r) (by have := HA.out.2.2.2.1; omega) NL.out MR.out.2 MR.out.1 h3 (by rw [List.length_append]; exact SP.out.2.2)
        have SQ : Aside (acc ++ NEED h (2 * k) (L.take r) ++ NEED h (2 * k + 1) (L.drop r) = acc ++ NEED (h + 1) k L) := show acc ++ NEED h (2 * k) (L.take r) ++ NEED h (2 * k + 1) (L.drop r) = acc ++ NEED (h + 1) k L by rw [SP.out.1, List.append_assoc]
        clear h3 IH HA NS ML MR S2 NL SP
        go_wp2_with fail
        refine c2.mono ?_
        rintro e w4 (⟨rfl, h4⟩ | ⟨pre, p, hp, rfl, h4⟩)
        · have FN : Aside (S (acc ++ NEED (h + 1) k L) w4) := by rw [SQ.out] at h4; exact h4
          clear h4 c2 SQ
          go_wp2_with fail
          exact bodyPost_end (v := .tuple #[]) (by simp [results, Tryd.f43]) rfl (.inl ⟨rfl, FN.out⟩)
        · rw [SQ.out] at hp
          exact ⟨rfl, .inr ⟨pre, p, hp, rfl, h4⟩⟩
      · refine ⟨rfl, .inr ⟨pre, p, hp.trans ?_, rfl, h3⟩⟩
        rw [SP.out.1, ← List.append_assoc]
        exact List.prefix_append _ _
set_option maxHeartbeats 2000000 in
theorem needE_ok (bi CP : Nat) (S P : World → List Nat → World → Prop) (X : List PanicEntry)
    (hS : ∀ w0 acc w w', S w0 acc w → Below w.heap.size w w' → S w0 acc w') (hB : ∀ w0 acc w, S w0 acc w → (∀ b, b < w0.heap.size → b ≠ CP → w.heap[b]? = w0.heap[b]?) ∧ w0.heap.size ≤ w.heap.size)
    (ht : ∀ w0 acc (p : Nat) w, S w0 acc w → acc.length ≤ 2 ^ 30 → Calls Tryd.prog 51 #[.int .u64 (p : Int), .pointer (some ⟨CP, 0, none⟩)] w fun e w' => (e = .returned (.tuple #[]) ∧ S w0 (acc ++ [p]) w') ∨ (e = .panicked X ∧ P w0 acc w'))
    (N : Nat) (hN : N ≤ 4611686018427387904) (L : List Nat) (a : Option Addr) (n c : Nat) (w : World) (hl : L.length = n) (hn : n < 2 ^ 20) (hR : RISES L) (hc : n ≤ c) (hnil : a = none → c = 0) (hbl : ∀ x, a = some x → x.block = bi ∧ x.spot = none) (hL : NUML w a L) (hCb : bi ≠ CP) (hCP : CP < w.heap.size) (hT : Tabled w)
    (h0 : ∀ w1, Below w.heap.size w w1 → S w1 [] w1) :
    Calls Tryd.prog 24 #[.slice a n c, .int .u64 (N : Int), .func (.func 51) #[] #[.pointer (some ⟨CP, 0, none⟩)]] w fun e w' => ∃ w1, Below w.heap.size w w1 ∧ TOLD (S w1) (P w1) X [] (NEEDS (TPS N) L) e w' := by
  have cp := peaks_ok N hN w hT (by omega)
  have hPC : PC N ≤ 64 := PC_lt_pow 64 N (by omega)
  have hlen := TPS_length (n := N) (by omega)
  have hmost := NEEDS_most (TPS N) L (fun p hp => (TPS_span (n := N) (by omega) (h := p.1) (k := p.2) hp).1)
  have HA : Aside (n < 2 ^ 20 ∧ N ≤ 2 ^ 62 ∧ PC N ≤ 64 ∧ (TPS N).length = PC N ∧ (NEEDS (TPS N) L).length ≤ 2 ^ 30 ∧ bi ≠ CP ∧ CP < w.heap.size) := ⟨hn, by omega, hPC, hlen, by omega, hCb, hCP⟩
  have ST : Aside ((∀ w0 acc w w', S w0 acc w → Below w.heap.size w w' → S w0 acc w') ∧ (∀ w0 acc w, S w0 acc w → (∀ b, b < w0.heap.size → b ≠ CP → w.heap[b]? = w0.heap[b]?) ∧ w0.heap.size ≤ w.heap.size)) := ⟨hS, hB⟩
  have HT : Aside (∀ w0 acc (p : Nat) w, S w0 acc w → acc.length ≤ 2 ^ 30 → Calls Tryd.prog 51 #[.int .u64 (p : Int), .pointer (some ⟨CP, 0, none⟩)] w fun e w' => (e = .returned (.tuple #[]) ∧ S w0 (acc ++ [p]) w') ∨ (e = .panicked X ∧ P w0 acc w')) := ht
  have LL : Aside (L.length = n ∧ RISES L ∧ n ≤ c ∧ (a = none → c = 0) ∧ (∀ x, a = some x → x.block = bi ∧ x.spot = none) ∧ NUML w a L ∧ ∀ w1, Below w.heap.size w w1 → S w1 [] w1) := ⟨hl, hR, hc, hnil, hbl, hL, h0⟩
  clear hN hl hn hR hc hnil hbl hL hCb hCP hT h0 hS hB ht hPC hlen hmost
  go_enter Tryd.func24, Tryd.ntmps24
  go_wp2_with fail
  refine cp.mono ?_
  rintro e w1 ⟨g, cg, rfl, hown, hb1⟩
  clear cp
  obtain ⟨m, hm⟩ : ∃ m, PC N = m := ⟨_, rfl⟩
  rw [hm] at hown ⊢
  have R1 : Aside (w1.ownsRow w.heap.size 23 1 (.slice (some ⟨g, 0, none⟩) m cg) m (UCELLS (PEAKS N)) ∧ Below w.heap.size w w1 ∧ PC N = m ∧ g ≠ CP ∧ g < w1.heap.size ∧ w.heap.size ≤ g) := ⟨hown, hb1, hm, by have h1 := (hown.lt g rfl).1; have := HA.out.2.2.2.2.2.2; omega, (hown.lt g rfl).2, (hown.lt g rfl).1⟩
  have L0 : Aside (NUML w1 a L) := fun h0 => by
    obtain ⟨b, o, e, hl, hcc⟩ := LL.out.2.2.2.2.2.1 h0
    exact ⟨b, o, e, Nat.lt_of_lt_of_le hl hb1.size, fun i x hx => (hb1.cell (p := ⟨b, o + i, none⟩) hl).trans (hcc i x hx)⟩
  clear hown hb1 hm
  go_wp2_with fail
  go_loopg [0, 13] m (fun q s0 s13 wx => ∃ (j n' c' : Nat) (a' : Option Addr) (Lj told : List Nat), s0 = .slice a' n' c' ∧ s13 = .int .i64 (j : Int) ∧ Aside (j + q = m ∧ Lj.length = n' ∧ n' ≤ n ∧ RISES Lj ∧ n' ≤ c' ∧ (a' = none → c' = 0) ∧ (∀ x, a' = some x → x.block = bi ∧ x.spot = none) ∧ NUML w1 a' Lj ∧ S w1 told wx ∧ NEEDS (TPS N) L = told ++ NEEDS ((TPS N).drop j) Lj))
  case atStart => exact ⟨0, n, c, a, L, [], rfl, rfl, by omega, LL.out.1, Nat.le_refl _, LL.out.2.1, LL.out.2.2.1, LL.out.2.2.2.1, LL.out.2.2.2.2.1, L0.out, LL.out.2.2.2.2.2.2 w1 R1.out.2.1, by simp⟩
  case round =>
    obtain ⟨j, n', c', a', Lj, told, rfl, rfl, A⟩ := hrel
    clear L0 LL
    cases gk with
    | zero =>
      obtain rfl : j = m := by have := A.out.1; omega
      have hlt : ¬ (j : Int) < (j : Int) := by omega
      have FN : Aside (∃ w1, Below w.heap.size w w1 ∧ TOLD (S w1) (P w1) X [] (NEEDS (TPS N) L) (.returned (.tuple #[])) wr) := by
        obtain ⟨h1, h2, h3, h4, h5, h6, h7, h8, h9, h10⟩ := A.out
        refine ⟨w1, R1.out.2.1, .inl ⟨rfl, ?_⟩⟩
        rw [List.drop_of_length_le (by have := R1.out.2.2.1; have := HA.out.2.2.2.1; omega)] at h10
        rw [h10, NEEDS, List.append_nil, List.nil_append]
        exact h9
      clear A R1 ST HT HA
      go_wp2_with fail
      exact bodyPost_end (v := .tuple #[]) (by simp [results, Tryd.f24]) rfl FN.out
    | succ q =>
      have hlt : (j : Int) < (m : Int) := by have := A.out.1; omega
      have hjm : j < (TPS N).length := by have := A.out.1; have := R1.out.2.2.1; have := HA.out.2.2.2.1; omega
      obtain ⟨⟨h, k⟩, ehk⟩ : ∃ s, (TPS N)[j]? = some s := ⟨_, List.getElem?_eq_getElem hjm⟩
      have hsp := TPS_span HA.out.2.1 (List.mem_of_getElem? ehk)
      have epk := TPS_peak ehk
      obtain ⟨k1, k2⟩ := ST.out.2 w1 told wr A.out.2.2.2.2.2.2.2.2.1
      have hcell : wr.cell? ⟨g, j, none⟩ = some (.int .u64 ((PLC h k : Nat) : Int)) := by
        have h1 := R1.out.1.cellAt j (by have := A.out.1; omega)
        refine (World.cell?_of_block (w := w1) (by exact k1 g R1.out.2.2.2.2.1 R1.out.2.2.2.1)).trans (h1.trans ?_)
        rw [UCELLS, List.getElem?_map, epk]
        rfl
      have ej : wrap64 ((j : Int) + 1) = ((j + 1 : Nat) : Int) := by have := A.out.1; have := R1.out.2.2.1; have := HA.out.2.2.1; unfold wrap64; omega
      have hN1 : NUML wr a' Lj := fun h0 => by
        obtain ⟨b, o, e, hl, hcc⟩ := A.out.2.2.2.2.2.2.2.1 h0
        have hbb : b = bi := (A.out.2.2.2.2.2.2.1 _ e).1
        exact ⟨b, o, e, by omega, fun i x hx => (World.cell?_of_block (w := w1) (by exact k1 b hl (by rw [hbb]; exact HA.out.2.2.2.2.2.1))).trans (hcc i x hx)⟩
      have cs := split_ok h k hsp.2.2 a' n' c' Lj A.out.2.1 (by have := A.out.2.2.1; have := HA.out.1; omega) A.out.2.2.2.1 A.out.2.2.2.2.1 A.out.2.2.2.2.2.1 (fun x e => (A.out.2.2.2.2.2.2.1 x e).2) wr hN1
      have SP : Aside (Node h k ∧ (TPS N)[j]? = some (h, k) ∧ j < (TPS N).length) := ⟨hsp.2.2, ehk, hjm⟩
      clear hsp ehk epk k1 k2 hN1 hjm
      go_wp2_with fail
      refine cs.mono ?_
      rintro e w2 ⟨r, a2, rfl, hs⟩
      clear cs hcell
      have hdrop : (TPS N).drop j = (h, k) :: (TPS N).drop (j + 1) := drop_at SP.out.2.1
      have hneed := NEEDS_take ((TPS N).drop (j + 1)) hs.rank
      rw [← hdrop] at hneed
      have hrn := hs.rank.le
      have S2 : S w1 told w2 := ST.out.1 w1 told wr w2 A.out.2.2.2.2.2.2.2.2.1 hs.below
      have MR : Aside (NUML w1 a2 (Lj.drop r) ∧ (∀ x, a2 = some x → x.block = bi ∧ x.spot = none) ∧ (a2 = none → c' - r = 0) ∧ r ≤ n' ∧ NUML w1 a' (Lj.take r) ∧ NEEDS ((TPS N).drop j) Lj = NEED h k (Lj.take r) ++ NEEDS ((TPS N).drop (j + 1)) (Lj.drop r)) := by
        refine ⟨fun h0 => ?_, fun x hx => ?_, hs.nil, by have := A.out.2.1; omega, fun h0 => ?_, hneed⟩
        · obtain ⟨b, o, e, hl, hcc⟩ := hs.lies h0
          obtain ⟨y, e2, e3⟩ := hs.block _ e
          have hbb : b = bi := by have := (A.out.2.2.2.2.2.2.1 _ e2).1; rw [← e3] at this; exact this
          obtain ⟨k1, k2⟩ := ST.out.2 w1 told wr A.out.2.2.2.2.2.2.2.2.1
          obtain ⟨b', o', e', hl', _⟩ := A.out.2.2.2.2.2.2.2.1 (by rw [List.length_drop] at h0; omega)
          have hbi : bi < w1.heap.size := by have h9 : b' = bi := (A.out.2.2.2.2.2.2.1 _ e').1; omega
          subst hbb
          exact ⟨b, o, e, hbi, fun i x hx => (World.cell?_of_block (w := wr) (by exact (k1 b hbi HA.out.2.2.2.2.2.1).symm)).trans (hcc i x hx)⟩
        · obtain ⟨y, e2, e3⟩ := hs.block x hx
          exact ⟨by rw [e3]; exact (A.out.2.2.2.2.2.2.1 _ e2).1, hs.spot x hx⟩
        · obtain ⟨b, o, e, hl, hcc⟩ := A.out.2.2.2.2.2.2.2.1 (by rw [List.length_take] at h0; omega)
          refine ⟨b, o, e, hl, fun i x hx => hcc i x ?_⟩
          rw [List.getElem?_take] at hx
          split at hx
          · exact hx
          · cases hx
      have TL : Aside (told.length + (NEED h k (Lj.take r)).length ≤ 2 ^ 30 ∧ NEEDS (TPS N) L = told ++ NEED h k (Lj.take r) ++ NEEDS ((TPS N).drop (j + 1)) (Lj.drop r)) := by
        have h1 := A.out.2.2.2.2.2.2.2.2.2
        rw [MR.out.2.2.2.2.2, ← List.append_assoc] at h1
        refine ⟨?_, h1⟩
        have h2 := HA.out.2.2.2.2.1
        rw [h1, List.length_append, List.length_append] at h2
        omega
      have cu := underE_ok w1 bi CP (S w1) (P w1) X (ST.out.1 w1) (fun acc w hw => ⟨fun hbi => (ST.out.2 w1 acc w hw).1 bi hbi HA.out.2.2.2.2.2.1, (ST.out.2 w1 acc w hw).2⟩) (HT.out w1) h k SP.out.1 (Lj.take r) a' r c' told w2 (by rw [List.length_take]; have := A.out.2.1; have := MR.out.2.2.2.1; omega) (by have := MR.out.2.2.2.1; have := A.out.2.2.1; have := HA.out.1; omega) (A.out.2.2.2.1.take r) (by have := MR.out.2.2.2.1; have := A.out.2.2.2.2.1; omega) A.out.2.2.2.2.2.1 A.out.2.2.2.2.2.2.1 MR.out.2.2.2.2.1 S2 TL.out.1
      clear hs hdrop hneed hrn S2
      go_wp2_with fail
      refine cu.mono ?_
      rintro e w3 (⟨rfl, h3⟩ | ⟨pre, p, hp, rfl, h3⟩)
      · have Z : Aside (j + 1 + q = m ∧ (Lj.drop r).length = n' - r ∧ n' - r ≤ n ∧ RISES (Lj.drop r) ∧ n' - r ≤ c' - r ∧ (a2 = none → c' - r = 0) ∧ (∀ x, a2 = some x → x.block = bi ∧ x.spot = none) ∧ NUML w1 a2 (Lj.drop r) ∧ S w1 (told ++ NEED h k (Lj.take r)) w3 ∧ NEEDS (TPS N) L = (told ++ NEED h k (Lj.take r)) ++ NEEDS ((TPS N).drop (j + 1)) (Lj.drop r)) := by
          obtain ⟨h1, h2, _, h4, h5, _⟩ := A.out
          refine ⟨by clear ej; omega, by rw [List.length_drop, h2], by have := A.out.2.2.1; clear ej; omega, h4.drop r, by clear ej; omega, MR.out.2.2.1, MR.out.2.1, MR.out.1, h3, TL.out.2⟩
        clear h3 cu A MR TL SP R1
        go_wp2_with fail
        go_roundg q
        case measure => exact Nat.lt_succ_self _
        case rel => exact ⟨j + 1, n' - r, c' - r, a2, Lj.drop r, told ++ NEED h k (Lj.take r), rfl, by first | rfl | (rw [ej]), Z.out⟩
      · refine ⟨rfl, w1, R1.out.2.1, .inr ⟨pre, p, hp.trans ?_, rfl, h3⟩⟩
        rw [List.nil_append, TL.out.2]
        exact List.prefix_append _ _
end Go.Proofs.YtadpfcpipklmbabDoor

/- Slices of bytes: rows of cells by a function; what a slice reads as. -/
namespace Go.Proofs.YtadpfcpipklmbabDoor
open Go.RowKit

/-- n cells, each a byte. -/
def BARR (n : Nat) (f : Nat → Int) : Array Value := ((List.range n).map fun i => Value.int .u8 (f i)).toArray
theorem BARR_size (n : Nat) (f : Nat → Int) : (BARR n f).size = n := by simp [BARR]
theorem BARR_get (n : Nat) (f : Nat → Int) (i : Nat) (h : i < n) : (BARR n f)[i]? = some (.int .u8 (f i)) := by simp [BARR, h]
theorem BARR_ext {n : Nat} {f g : Nat → Int} (h : ∀ i, i < n → f i = g i) : BARR n f = BARR n g := by
  unfold BARR
  congr 1
  apply List.map_congr_left
  intro i hi
  rw [h i (by simpa using hi)]
theorem BARR_set (n : Nat) (f : Nat → Int) (i : Nat) (v : Int) : (BARR n f).setIfInBounds i (.int .u8 v) = BARR n fun j => if j = i then v else f j := by
  apply Array.ext_getElem?
  intro j
  by_cases hj : j < n
  · rw [BARR_get _ _ j hj, Array.getElem?_setIfInBounds]
    by_cases h : i = j
    · subst h
      simp [BARR_size, hj]
    · have h' : ¬ j = i := fun e => h e.symm
      simp [h, h', BARR_get _ _ j hj]
  · rw [Array.getElem?_eq_none (by simp [BARR_size]; omega), Array.getElem?_eq_none (by simp [BARR_size]; omega)]
theorem BARR_made (n : Nat) : madeCells #[Value.int .u8 0] n = BARR n fun _ => 0 := by
  apply Array.ext_getElem?
  intro j
  by_cases hj : j < n
  · rw [BARR_get _ _ j hj]
    simp [madeCells, hj, Nat.mod_one]
  · rw [Array.getElem?_eq_none (by simp [madeCells]; omega), Array.getElem?_eq_none (by simp [BARR_size]; omega)]
theorem info_u8 : (Tryd.prog.info? 5).map (fun i => (i.zero, i.size, i.bytes)) = some (some (.int .u8 0), 1, 1) := by kernel_rfl
theorem make_bytes (n : Nat) (hn : n ≤ 1000000) (w : World) : (Instr.makeSlice 41 (.int .i64 (n : Int)) (.int .i64 (n : Int))).run Tryd.prog w = .ok (.slice (some ⟨w.heap.size, 0, none⟩) n n) (w.alloc (.cells (BARR n fun _ => 0) 5)) := by
  rw [run_make_row' 41 5 (.int .u8 0) 1 Tryd.underlying41 info_u8 rfl .i64 .i64 n (by omega) (by omega) w, BARR_made]

/-- a slice that came in: nil, or a row of cells, each a byte. -/
def IsRow (k : IntKind) (w : World) (a : Option Addr) (len cap : Nat) (zs : List Int) : Prop :=
  (a = none ∧ len = 0 ∧ cap = 0 ∧ zs = []) ∨
  ∃ x, a = some x ∧ len ≤ cap ∧ cap ≤ maxLen ∧ zs.length = cap ∧ (∀ i, i < zs.length → w.cell? (x.add i) = some (.int k (zs.getD i 0))) ∧ ∀ n ∈ zs, (Lit.int k n).wf = true

/-- a slice of n bytes reads as l. -/
def Bytes (w : World) (a : Option Addr) (n : Nat) (l : List Int) : Prop :=
  l.length = n ∧ (0 < n → ∃ b off, a = some ⟨b, off, none⟩ ∧ b < w.heap.size ∧ ∀ i, i < n → w.cell? ⟨b, off + i, none⟩ = some (.int .u8 (l.getD i 0))) ∧ ∀ x ∈ l, 0 ≤ x ∧ x ≤ 255
theorem Bytes.below {w w' : World} {a : Option Addr} {n : Nat} {l : List Int} (h : Bytes w a n l) (hb : Below w.heap.size w w') : Bytes w' a n l :=
  ⟨h.1, fun hn => by
    obtain ⟨b, off, e, hl, hc⟩ := h.2.1 hn
    exact ⟨b, off, e, Nat.lt_of_lt_of_le hl hb.size, fun i hi => (hb.cell (by exact hl)).trans (hc i hi)⟩, h.2.2⟩
theorem Bytes.get {w : World} {a : Option Addr} {n : Nat} {l : List Int} (h : Bytes w a n l) (i : Nat) : 0 ≤ l.getD i 0 ∧ l.getD i 0 ≤ 255 := by
  by_cases hi : i < l.length
  · rw [List.getD_eq_getElem?_getD, List.getElem?_eq_getElem hi]
    exact h.2.2 _ (List.getElem_mem hi)
  · rw [List.getD_eq_getElem?_getD, List.getElem?_eq_none (by omega)]
    simp
theorem addr_add (b off i : Nat) : (⟨b, off, none⟩ : Addr).add i = ⟨b, off + i, none⟩ := by unfold Addr.add; split <;> simp_all
theorem IsRow.bytes {w : World} {a : Option Addr} {n c : Nat} {zs : List Int} (h : IsRow .u8 w a n c zs) : Bytes w a n (zs.take n) := by
  rcases h with ⟨rfl, rfl, rfl, rfl⟩ | ⟨x, rfl, hl, _, hz, hcell, hwf⟩
  · exact ⟨rfl, fun h => by omega, fun x hx => by simp at hx⟩
  · refine ⟨by simp [hz, hl], fun hn => ?_, fun y hy => ?_⟩
    · obtain ⟨b, off, spot⟩ := x
      have hc := hcell 0 (by omega)
      have hspot : spot = none := by simpa [Addr.add] using World.cell?_spot hc
      subst hspot
      refine ⟨b, off, rfl, block_lt_of_cell (by simpa [Addr.add] using hc), fun i hi => ?_⟩
      have := hcell i (by omega)
      rw [addr_add] at this
      rw [this]
      congr 2
      simp [List.getD_eq_getElem?_getD, hi]
    · have := bounds_u8 (hwf y (List.mem_of_mem_take hy))
      exact this

/-- the number that bytes are, the highest first. -/
def BIGV (l : List Int) : Int := l.foldl (fun acc x => acc * 256 + x) 0
theorem BIGV_snoc (l : List Int) (x : Int) : BIGV (l ++ [x]) = BIGV l * 256 + x := by simp [BIGV]
theorem foldl_bounds : ∀ (l : List Int) (acc : Int) (k : Nat), 0 ≤ acc → acc < 256 ^ k → (∀ x ∈ l, 0 ≤ x ∧ x ≤ 255) → 0 ≤ l.foldl (fun acc x => acc * 256 + x) acc ∧ l.foldl (fun acc x => acc * 256 + x) acc < 256 ^ (k + l.length)
  | [], acc, k, h0, h1, _ => by simpa using ⟨h0, h1⟩
  | x :: l, acc, k, h0, h1, hl => by
    have hx := hl x (by simp)
    have hp : (256 : Int) ^ (k + 1) = 256 ^ k * 256 := Int.pow_succ 256 k
    have := foldl_bounds l (acc * 256 + x) (k + 1) (by omega) (by omega) (fun y hy => hl y (by simp [hy]))
    rw [List.length_cons, show k + (l.length + 1) = k + 1 + l.length by omega]
    exact this
theorem BIGV_bounds (l : List Int) (hl : ∀ x ∈ l, 0 ≤ x ∧ x ≤ 255) : 0 ≤ BIGV l ∧ BIGV l < 256 ^ l.length := by
  have := foldl_bounds l 0 0 (by decide) (by decide) hl
  simpa [BIGV] using this
end Go.Proofs.YtadpfcpipklmbabDoor

/- What FromBig and Big of package num and the law's same answer. -/
namespace Go.Proofs.YtadpfcpipklmbabDoor
open Go.RowKit

theorem or_byte {x c : Int} (h0 : 0 ≤ x) (h1 : x < 2 ^ 56) (c0 : 0 ≤ c) (c1 : c ≤ 255) : bits .or .u64 (IntKind.u64.wrap (x * 256)) (IntKind.u64.wrap c) = x * 256 + c := by
  obtain ⟨X, rfl⟩ : ∃ X : Nat, x = (X : Int) := ⟨x.toNat, by omega⟩
  obtain ⟨C, rfl⟩ : ∃ C : Nat, c = (C : Int) := ⟨c.toNat, by omega⟩
  have e1 : IntKind.u64.wrap ((X : Int) * 256) = ((X * 256 : Nat) : Int) := by rw [wrapU]; omega
  have e2 : IntKind.u64.wrap (C : Int) = (C : Int) := by rw [wrapU]; omega
  rw [e1, e2, or_eq (by omega) (by omega), nat_join 8 (X * 256) C (by omega) (by omega)]
  simp

theorem take_next (l : List Int) (k : Nat) (hk : k < l.length) : l.take (k + 1) = l.take k ++ [l.getD k 0] := by
  rw [List.take_add_one, List.getElem?_eq_getElem hk]
  simp [List.getD_eq_getElem?_getD, hk]
theorem frombig_step {w : World} {a : Option Addr} {n k : Nat} {l : List Int} {x v : Int} (hB : Bytes w a n l) (hn : n ≤ 8) (hk : k < n) (hx : x = BIGV (l.take k)) (hv : l.getD k 0 = v) :
    bits .or .u64 (IntKind.u64.wrap (x * 256)) (IntKind.u64.wrap v) = BIGV (l.take (k + 1)) := by
  have hb := BIGV_bounds (l.take k) (fun y hy => hB.2.2 y (List.mem_of_mem_take hy))
  have hl : (l.take k).length = k := by rw [List.length_take, hB.1]; omega
  rw [hl] at hb
  have hp : (256 : Int) ^ k ≤ 72057594037927936 := by
    have h7 := Nat.pow_le_pow_right (n := 256) (by decide) (show k ≤ 7 by omega)
    have e : ((256 ^ k : Nat) : Int) = 256 ^ k := by rw [Int.natCast_pow]; rfl
    omega
  have hg := hB.get k
  rw [hv] at hg
  rw [hx, or_byte hb.1 (by omega) hg.1 hg.2, take_next l k (by rw [hB.1]; exact hk), BIGV_snoc, hv]
/-- an array that is filled from 0 on. -/
theorem bfill_put {F f : Nat → Int} {i : Nat} {v : Int} (A : ∀ j, f j = if j < i then F j else 0) (hv : v = F i) : ∀ j, (if j = i then v else f j) = if j < i + 1 then F j else 0 := fun j => by
  by_cases e : j = i
  · subst e
    simp [hv]
  · rw [if_neg e, A j]
    by_cases e2 : j < i
    · rw [if_pos e2, if_pos (by omega)]
    · rw [if_neg e2, if_neg (by omega)]
/-- the i-th of n bytes of x, the highest first. -/
def BYTE (X n : Nat) : Nat → Int := fun i => ((X / 2 ^ (8 * (n - 1 - i)) % 256 : Nat) : Int)
end Go.Proofs.YtadpfcpipklmbabDoor

/- append of bytes onto a row of the call's own. -/
namespace Go.Proofs.YtadpfcpipklmbabDoor
open Go.RowKit

/-- bytes as cells. -/
def CELLS (l : List Int) : List Value := l.map (Value.int .u8)
theorem CELLS_append (a b : List Int) : CELLS (a ++ b) = CELLS a ++ CELLS b := by simp [CELLS]
theorem CELLS_get (l : List Int) (i : Nat) (h : i < l.length) : (CELLS l)[i]? = some (.int .u8 (l.getD i 0)) := by
  simp [CELLS, h, List.getD_eq_getElem?_getD]
theorem CELLS_one (l : List Int) : ∀ u ∈ CELLS l, u.oneCell' = true := fun u hu => by
  simp [CELLS] at hu
  obtain ⟨x, _, rfl⟩ := hu
  rfl
theorem info_parts_u8 : ∃ i, Tryd.prog.info? 5 = some i ∧ i.zero = some (.int .u8 0) ∧ i.size = 1 ∧ i.bytes = 1 := by
  obtain ⟨i, hi, h⟩ := Option.map_eq_some_iff.1 info_u8
  simp only [Prod.mk.injEq] at h
  exact ⟨i, hi, h.1, h.2.1, h.2.2⟩

theorem app_u8 {ops : Array Oper} {rest : List Oper} {o : Oper} {a : Act} {Q : Exit → Act → World → Prop} (w : World) (hgd : o.guard = none) (s x : Operand)
    (ho : o.op = .call { callee := .builtin .append, args := #[s, x], argTypes := #[41, 41] })
    (base : Nat) (v : Value) (n : Nat) (xs : List Int) (hs : a.eval s = v) (hown : w.ownsRow base 5 1 v n (CELLS xs))
    (b off m c : Nat) (l : List Int) (hx : a.eval x = .slice (some ⟨b, off, none⟩) m c) (hB : Bytes w (some ⟨b, off, none⟩) m l)
    (hm : 0 < m) (hb : n + m ≤ 140737488355328) (hbase : base ≤ w.heap.size)
    (h : ∀ g cap w', w'.ownsRow base 5 1 (.slice (some ⟨g, 0, none⟩) (n + m) cap) (n + m) (CELLS (xs ++ l)) → w.grownBy w' v.ownBlock → g < w'.heap.size → wpList Tryd.prog ops Q rest (a.put o.dst (.slice (some ⟨g, 0, none⟩) (n + m) cap)) w') : wpList Tryd.prog ops Q (o :: rest) a w := by
  obtain ⟨i, hi, hz, hs1, hby⟩ := info_parts_u8
  obtain ⟨b', off', e, _, hc⟩ := hB.2.1 hm
  simp only [Option.some.injEq, Addr.mk.injEq] at e
  obtain ⟨rfl, rfl, _⟩ := e
  refine wpList_append_lies w hgd s x 41 ho base 5 i (.int .u8 0) 1 1 Tryd.underlying41 hi hz hs1 hby rfl (by decide) v n (CELLS xs) hs hown ⟨b, off, none⟩ m c (CELLS l) hx (by simp [CELLS, hB.1]) ?_ (CELLS_one l) hm (by simp only [maxLen]; omega) (by omega) hbase w.heap.size rfl ?_
  · intro j u hj
    have hjl : j < l.length := by
      have := (List.getElem?_eq_some_iff.1 hj).1
      simpa [CELLS] using this
    rw [CELLS_get l j hjl] at hj
    rw [addr_add, hc j (by rw [← hB.1]; exact hjl)]
    exact hj
  · intro g cap w' h1 h2 _ h4
    rw [← CELLS_append] at h1
    exact h g cap w' h1 h2 h4

theorem grown_refl (w : World) (row : Option Nat) : w.grownBy w row := ⟨rfl, rfl, rfl, Nat.le_refl _, fun _ _ _ => rfl⟩
/-- nothing is appended. -/
theorem app_zero {ops : Array Oper} {rest : List Oper} {o : Oper} {a : Act} {Q : Exit → Act → World → Prop} (w : World) (hgd : o.guard = none) (s x : Operand)
    (ho : o.op = .call { callee := .builtin .append, args := #[s, x], argTypes := #[41, 41] })
    (base : Nat) (v : Value) (n : Nat) (xs : List Int) (hs : a.eval s = v) (hown : w.ownsRow base 5 1 v n (CELLS xs))
    (ao : Option Addr) (c : Nat) (hx : a.eval x = .slice ao 0 c) (hc : ao = none → c = 0) (hn : n ≤ 140737488355328) (hbase : base ≤ w.heap.size)
    (h : ∀ a' c' w', w'.ownsRow base 5 1 (.slice a' n c') n (CELLS xs) → w.grownBy w' v.ownBlock → wpList Tryd.prog ops Q rest (a.put o.dst (.slice a' n c')) w') : wpList Tryd.prog ops Q (o :: rest) a w := by
  obtain ⟨i, hi, hz, hs1, hby⟩ := info_parts_u8
  have form : ∀ (v' : Value) (w' : World), w'.ownsRow base 5 1 v' n (CELLS xs) → ∃ a' c', v' = .slice a' n c' := fun v' w' h => by
    rcases h.2 with ⟨rfl, rfl⟩ | ⟨g, cap, cur, rfl, _⟩
    · exact ⟨none, 0, rfl⟩
    · exact ⟨_, cap, rfl⟩
  cases ao with
  | none =>
    obtain rfl := hc rfl
    refine wpList_append_own_none hgd s x 41 ho base 5 i 1 Tryd.underlying41 hi v n (CELLS xs) hs hown hx ?_
    obtain ⟨a', c', rfl⟩ := form v w hown
    exact h a' c' w hown (grown_refl _ _)
  | some ad =>
    refine wpList_append_own w hgd s x 41 ho base 5 i (.int .u8 0) 1 1 Tryd.underlying41 hi hz hs1 hby rfl (by decide) v n (CELLS xs) hs hown ad 0 c [] hx rfl (fun j u hj => by simp at hj) (fun u hu => by simp at hu) (by simp only [maxLen]; omega) (by omega) hbase ?_
    intro v' w' h1 h2 _
    simp only [Nat.add_zero, List.append_nil] at h1
    obtain ⟨a', c', rfl⟩ := form v' w' h1
    exact h a' c' w' h1 h2

/-- what is owned reads so. -/
theorem own_bytes {w : World} {base g n cap : Nat} {l : List Int} (h : w.ownsRow base 5 1 (.slice (some ⟨g, 0, none⟩) n cap) n (CELLS l)) (hg : g < w.heap.size) (hl : ∀ x ∈ l, 0 ≤ x ∧ x ≤ 255) : Bytes w (some ⟨g, 0, none⟩) n l := by
  have hlen : l.length = n := by have := h.1; simpa [CELLS] using this
  refine ⟨hlen, fun _ => ⟨g, 0, rfl, hg, fun i hi => ?_⟩, hl⟩
  rw [Nat.zero_add, h.cellAt i (by omega), CELLS_get l i (by omega)]
theorem own_empty (w : World) (base : Nat) (hb : base ≤ w.heap.size) : (w.alloc (.cells #[] 5)).ownsRow base 5 1 (.slice (some ⟨w.heap.size, 0, none⟩) 0 0) 0 (CELLS []) :=
  World.ownsRow_lit w #[] 0 hb (by simp [maxLen]) rfl
theorem row_bytes (w : World) (n : Nat) (f : Nat → Int) (l : List Int) (hl : l.length = n) (hf : ∀ i, i < n → f i = l.getD i 0) (hr : ∀ x ∈ l, 0 ≤ x ∧ x ≤ 255) : Bytes (w.alloc (.cells (BARR n f) 5)) (some ⟨w.heap.size, 0, none⟩) n l := by
  refine ⟨hl, fun _ => ⟨w.heap.size, 0, rfl, by simp, fun i hi => ?_⟩, hr⟩
  rw [Nat.zero_add, World.cell?_alloc_at _ _ _ _ rfl, BARR_get n f i hi, hf i hi]

theorem own_bytes_any {w : World} {base n c : Nat} {a : Option Addr} {l : List Int} (h : w.ownsRow base 5 1 (.slice a n c) n (CELLS l)) (hl : ∀ x ∈ l, 0 ≤ x ∧ x ≤ 255) : Bytes w a n l ∧ n ≤ c := by
  rcases h.2 with ⟨hv, hn⟩ | ⟨g, cap, cur, hv, _, hg, hc, _⟩
  · simp only [Value.slice.injEq] at hv
    obtain ⟨rfl, rfl, rfl⟩ := hv
    have : l = [] := by have := h.1; simpa [CELLS] using this
    subst this
    exact ⟨⟨rfl, fun h => by omega, fun x hx => by simp at hx⟩, Nat.le_refl _⟩
  · simp only [Value.slice.injEq] at hv
    obtain ⟨rfl, _, rfl⟩ := hv
    exact ⟨own_bytes h (Array.getElem?_eq_some_iff.1 hg).1 hl, hc⟩
/-- bytes are appended, or none. -/
theorem app_any {ops : Array Oper} {rest : List Oper} {o : Oper} {a : Act} {Q : Exit → Act → World → Prop} (w : World) (hgd : o.guard = none) (s x : Operand)
    (ho : o.op = .call { callee := .builtin .append, args := #[s, x], argTypes := #[41, 41] })
    (base : Nat) (v : Value) (n : Nat) (xs : List Int) (hs : a.eval s = v) (hown : w.ownsRow base 5 1 v n (CELLS xs))
    (ao : Option Addr) (m c : Nat) (l : List Int) (hx : a.eval x = .slice ao m c) (hB : Bytes w ao m l) (hc : ao = none → c = 0)
    (N : Nat) (L : List Int) (hN : n + m = N) (hL : xs ++ l = L) (hb : N ≤ 140737488355328) (hbase : base ≤ w.heap.size)
    (h : ∀ a' c' w', w'.ownsRow base 5 1 (.slice a' N c') N (CELLS L) → w.grownBy w' v.ownBlock → wpList Tryd.prog ops Q rest (a.put o.dst (.slice a' N c')) w') : wpList Tryd.prog ops Q (o :: rest) a w := by
  subst hN hL
  rcases Nat.eq_zero_or_pos m with hm | hm
  · subst hm
    have hl : l = [] := by have := hB.1; simpa using this
    subst hl
    refine app_zero w hgd s x ho base v n xs hs hown ao c hx hc (by omega) hbase ?_
    simpa using h
  · obtain ⟨b, off, rfl, _, _⟩ := hB.2.1 hm
    refine app_u8 w hgd s x ho base v n xs hs hown b off m c l hx hB hm hb hbase ?_
    intro g cap w' h1 h2 _
    exact h _ cap w' h1 h2

/-! bytes and their number -/
theorem foldl_split : ∀ (l : List Int) (acc : Int), l.foldl (fun acc x => acc * 256 + x) acc = acc * 256 ^ l.length + BIGV l
  | [], acc => by simp [BIGV]
  | x :: l, acc => by
    rw [List.foldl_cons, foldl_split l, List.length_cons, Int.pow_succ]
    have : BIGV (x :: l) = x * 256 ^ l.length + BIGV l := by
      show List.foldl (fun acc x => acc * 256 + x) (0 * 256 + x) l = _
      rw [foldl_split l]
      simp
    rw [this, Int.add_mul, Int.mul_assoc, Int.mul_comm 256, Int.add_assoc]
theorem BIGV_append (a b : List Int) : BIGV (a ++ b) = BIGV a * 256 ^ b.length + BIGV b := by
  show List.foldl _ 0 (a ++ b) = _
  rw [List.foldl_append, foldl_split b]
  rfl
theorem BIGV_byte (l : List Int) (hl : ∀ x ∈ l, 0 ≤ x ∧ x ≤ 255) (X : Nat) (hX : BIGV l = (X : Int)) (i : Nat) (hi : i < l.length) : BYTE X l.length i = l.getD i 0 := by
  have hs : l = l.take (i + 1) ++ l.drop (i + 1) := (List.take_append_drop (i + 1) l).symm
  have h1 := BIGV_append (l.take (i + 1)) (l.drop (i + 1))
  rw [← hs, take_next l i hi, BIGV_snoc] at h1
  have hd := BIGV_bounds (l.drop (i + 1)) (fun x hx => hl x (List.mem_of_mem_drop hx))
  have ht := BIGV_bounds (l.take i) (fun x hx => hl x (List.mem_of_mem_take hx))
  have hx := hl (l.getD i 0) (by
    rw [List.getD_eq_getElem?_getD, List.getElem?_eq_getElem hi]
    exact List.getElem_mem hi)
  rw [List.length_drop, show l.length - (i + 1) = l.length - 1 - i by omega] at h1 hd
  have hp : (256 : Int) ^ (l.length - 1 - i) = ((2 ^ (8 * (l.length - 1 - i)) : Nat) : Int) := by
    rw [Nat.pow_mul]
    simp
  rw [hp] at h1 hd
  unfold BYTE
  generalize 2 ^ (8 * (l.length - 1 - i)) = p at h1 hd
  generalize l.getD i 0 = y at h1 hx
  generalize BIGV (l.drop (i + 1)) = z at h1 hd
  generalize BIGV (l.take i) = t at h1 ht
  rw [hX] at h1
  have hp0 : (0 : Int) < (p : Int) := by omega
  have hq : ((X / p : Nat) : Int) = t * 256 + y := by
    rw [Int.natCast_ediv, h1, Int.add_comm, Int.add_mul_ediv_right _ _ (by omega), Int.ediv_eq_zero_of_lt hd.1 hd.2, Int.zero_add]
  omega
theorem BIGV_fits (l : List Int) (hl : ∀ x ∈ l, 0 ≤ x ∧ x ≤ 255) (X : Nat) (hX : BIGV l = (X : Int)) : X / 2 ^ (8 * l.length) = 0 := by
  have h := (BIGV_bounds l hl).2
  have hp : (256 : Int) ^ l.length = ((2 ^ (8 * l.length) : Nat) : Int) := by
    rw [Nat.pow_mul]
    simp
  rw [hp, hX] at h
  exact Nat.div_eq_of_lt (by omega)
end Go.Proofs.YtadpfcpipklmbabDoor
