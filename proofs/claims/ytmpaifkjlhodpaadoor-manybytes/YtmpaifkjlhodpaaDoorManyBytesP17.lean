/- Texts of ManyBytes, one behind the other: ProofTexts, ProofRow, ProofFlats, ManyRead. -/
import Derived.Test.YtmpaifkjlhodpaaDoorManyBytesP8
import Derived.Test.YtmpaifkjlhodpaaDoorManyBytesP15
import Derived.Test.YtmpaifkjlhodpaaDoorManyBytesP16
/- The same bytes in a list of their own that goes on behind them; are these the same bytes? -/
namespace Go.Proofs.YtmpaifkjlhodpaaDoor
open Go.RowKit
set_option maxRecDepth 100000

theorem own_front {w : World} {base g n cap : Nat} {l : List Int} {x : Int} (h : w.ownsRow base 5 1 (.slice (some ⟨g, 0, none⟩) (n + 1) cap) (n + 1) (CELLS (l ++ [x]))) (hl : l.length = n) : w.ownsRow base 5 1 (.slice (some ⟨g, 0, none⟩) n cap) n (CELLS l) ∧ n + 1 ≤ cap ∧ w.cell? ⟨g, n, none⟩ = some (.int .u8 x) := by
  have hc := h.cellAt n (by omega)
  have hx : (CELLS (l ++ [x]))[n]? = some (.int .u8 x) := by
    rw [← hl]
    simp [CELLS]
  rcases h.2 with ⟨e, _⟩ | ⟨g', cap', cur, e, hb, hg, h1, h2, h3, h4⟩
  · cases e
  · cases e
    refine ⟨⟨by rw [CELLS, List.length_map, hl, Nat.mul_one], .inr ⟨g, cap, cur, rfl, hb, hg, by omega, h2, h3, ?_⟩⟩, h1, hc.trans hx⟩
    have h5 := congrArg (List.take (n * 1)) h4
    rw [List.take_take, show min (n * 1) ((n + 1) * 1) = n * 1 by omega] at h5
    rw [h5, CELLS_append, List.take_left' (by rw [CELLS, List.length_map, hl, Nat.mul_one])]
/-- what text answers. -/
def TEXTED (w : World) (n : Nat) (l : List Int) (e : Ending) (w' : World) : Prop :=
  ∃ g cap, e = .returned (.slice (some ⟨g, 0, none⟩) n cap) ∧ w'.ownsRow w.heap.size 5 1 (.slice (some ⟨g, 0, none⟩) n cap) n (CELLS l) ∧ n + 1 ≤ cap ∧ w'.cell? ⟨g, n, none⟩ = some (.int .u8 171) ∧ g < w'.heap.size ∧ Below w.heap.size w w'
end Go.Proofs.YtmpaifkjlhodpaaDoor

/- The same hashes in a list of their own that goes on behind them; are these the same bytes, the same proofs? -/
namespace Go.Proofs.YtmpaifkjlhodpaaDoor
open Go.RowKit
set_option maxRecDepth 100000

theorem bytes_ext {l k : List Int} {n : Nat} (hl : l.length = n) (hk : k.length = n) (h : ∀ j, j < n → l.getD j 0 = k.getD j 0) : l = k := by
  apply List.ext_getElem (by omega)
  intro i h1 h2
  have := h i (by omega)
  simpa [List.getD, h1, h2] using this
set_option maxHeartbeats 1000000 in
theorem samebytes_ok (a b : Option Addr) (n m ca cb : Nat) (l k : List Int) (w : World) (hA : Bytes w a n l) (hB : Bytes w b m k) (hn : n ≤ 1000000) : Calls Tryd.prog 16 #[.slice a n ca, .slice b m cb] w fun e w' => e = .returned (.bool (decide (l = k))) ∧ Below w.heap.size w w' := by
  by_cases hnm : n = m
  · subst hnm
    rcases Nat.eq_zero_or_pos n with h | h
    · subst h
      have hd : decide (l = k) = true := by
        rw [List.eq_nil_of_length_eq_zero hA.1, List.eq_nil_of_length_eq_zero hB.1]
        rfl
      rw [hd]
      clear hA hB hd
      go_enter Tryd.func16, Tryd.ntmps16
      go_wp2
      refine wp_loop_rounds 1 ?_
      rw [rounds_succ]
      go_wp2
      go_ret
      exact ⟨rfl, Below.refl _ _⟩
    · obtain ⟨ba, oa, rfl, la, hca⟩ := hA.2.1 h
      obtain ⟨bb, ob, rfl, lb, hcb⟩ := hB.2.1 h
      have HC : Aside ((∀ i, i < n → w.cell? ⟨ba, oa + i, none⟩ = some (.int .u8 (l.getD i 0))) ∧ (∀ i, i < n → w.cell? ⟨bb, ob + i, none⟩ = some (.int .u8 (k.getD i 0))) ∧ ba < w.heap.size ∧ bb < w.heap.size ∧ l.length = n ∧ k.length = n ∧ n ≤ 1000000) := ⟨hca, hcb, la, lb, hA.1, hB.1, hn⟩
      clear hA hB hca hcb la lb hn
      obtain ⟨D, hD⟩ : ∃ D, D = decide (l = k) := ⟨_, rfl⟩
      rw [← hD]
      have HD : Aside (D = decide (l = k)) := hD
      clear hD
      go_enter Tryd.func16, Tryd.ntmps16
      go_wp2
      go_loopg [5] n (fun g s5 wx => ∃ i : Nat, s5 = .int .i64 i ∧ Aside (i + g = n ∧ Below w.heap.size w wx ∧ ∀ j, j < i → l.getD j 0 = k.getD j 0))
      case atStart => exact ⟨0, rfl, by omega, Below.refl _ _, fun j hj => by omega⟩
      case round =>
        obtain ⟨i, rfl, A⟩ := hrel
        cases gk with
        | zero =>
          obtain rfl : i = n := by have := A.out.1; omega
          have hlt : ¬ (i : Int) < (i : Int) := by omega
          have hd : Aside (D = true) := by
            show D = true
            rw [HD.out, decide_eq_true_iff]
            exact bytes_ext HC.out.2.2.2.2.1 HC.out.2.2.2.2.2.1 A.out.2.2
          clear HD HC
          go_wp2
          go_ret
          exact ⟨by rw [hd.out]; rfl, A.out.2.1⟩
        | succ g =>
          obtain ⟨hig, hbel, hbef⟩ := A.out
          have hlt : (i : Int) < (n : Int) := by omega
          have h1 : wr.cell? ⟨ba, oa + i, none⟩ = some (.int .u8 (l.getD i 0)) := (hbel.cell (by exact HC.out.2.2.1)).trans (HC.out.1 i (by omega))
          have h2 : wr.cell? ⟨bb, ob + i, none⟩ = some (.int .u8 (k.getD i 0)) := (hbel.cell (by exact HC.out.2.2.2.1)).trans (HC.out.2.1 i (by omega))
          have E1 : Aside (wrap64 ((i : Int) + 1) = ((i + 1 : Nat) : Int)) := by have := HC.out.2.2.2.2.2.2; show wrap64 ((i : Int) + 1) = ((i + 1 : Nat) : Int); unfold wrap64; omega
          by_cases he : l.getD i 0 = k.getD i 0
          · have B : Aside (i + 1 + g = n ∧ Below w.heap.size w wr ∧ ∀ j, j < i + 1 → l.getD j 0 = k.getD j 0) := ⟨by omega, hbel, fun j hj => by
              by_cases e : j = i
              · rw [e]; exact he
              · exact hbef j (by omega)⟩
            rw [← he] at h2
            clear he hig hbel hbef A HD HC
            generalize l.getD i 0 = v at h1 h2
            have e1 := E1.out
            go_wp2
            go_quiet (fail)
            go_wp2
            go_roundg g
            case measure => exact Nat.lt_succ_self _
            case rel => exact ⟨i + 1, by first | rfl | (rw [E1.out]), B.out.1, below_drewN B.out.2.1 _, B.out.2.2⟩
          · have hd : Aside (D = false) := by
              show D = false
              rw [HD.out, decide_eq_false_iff_not]
              intro e
              rw [e] at he
              exact he rfl
            have Z : Aside (Below w.heap.size w wr) := hbel
            clear hig hbel hbef A HD HC E1
            generalize l.getD i 0 = v1 at h1 he
            generalize k.getD i 0 = v2 at h2 he
            go_wp2
            go_quiet (fail)
            go_wp2
            go_ret
            exact ⟨by rw [hd.out]; rfl, below_drewN Z.out _⟩
  · have hne : ¬ (n : Int) = (m : Int) := by omega
    have hd : decide (l = k) = false := by
      rw [decide_eq_false_iff_not]
      intro e
      rw [e] at hA
      exact hnm (hA.1.symm.trans hB.1)
    rw [hd]
    clear hA hB hd
    go_enter Tryd.func16, Tryd.ntmps16
    go_wp2
    go_ret
    exact ⟨rfl, Below.refl _ _⟩
/-! a list of hashes, copied with a mark behind it -/
theorem Flat.none_nil {w : World} {n : Nat} {l : List Int} (h : Flat w none n l) : n = 0 ∧ l = [] := by
  have h0 : n = 0 := by
    rcases Nat.eq_zero_or_pos n with h0 | h0
    · exact h0
    · obtain ⟨_, _, e, _⟩ := h.2.1 h0
      cases e
  subst h0
  exact ⟨rfl, List.eq_nil_of_length_eq_zero h.1⟩
theorem own_shapeh {w : World} {B n : Nat} {v : Value} {xs : List Value} (h : w.ownsRow B 57 32 v n xs) : ∃ a c, v = .slice a n c ∧ n ≤ c ∧ (0 < n → ∃ g, a = some ⟨g, 0, none⟩) := by
  rcases h.2 with ⟨rfl, h0⟩ | ⟨g, cap, cur, rfl, _, _, h1, _⟩
  · subst h0
    exact ⟨none, 0, rfl, Nat.le_refl _, fun h => by omega⟩
  · exact ⟨_, _, rfl, h1, fun _ => ⟨g, rfl⟩⟩
theorem app_hashes {ops : Array Oper} {rest : List Oper} {o : Oper} {a : Act} {Q : Exit → Act → World → Prop} (w : World) (hgd : o.guard = none) (s x : Operand)
    (ho : o.op = .call { callee := .builtin .append, args := #[s, x], argTypes := #[30, 30] })
    (base : Nat) (v : Value) (n : Nat) (xs : List Value) (hs : a.eval s = v) (hown : w.ownsRow base 57 32 v n xs)
    (ad : Option Addr) (m c : Nat) (l : List Int) (hx : a.eval x = .slice ad m c) (hL : Flat w ad m l) (hc : ad = none → c = 0)
    (hb : n + m ≤ 100000) (hbase : base ≤ w.heap.size)
    (hh : ∀ a' c' w', w'.ownsRow base 57 32 (.slice a' (n + m) c') (n + m) (xs ++ CELLS l) → w.grownBy w' v.ownBlock → wpList Tryd.prog ops Q rest (a.put o.dst (.slice a' (n + m) c')) w') : wpList Tryd.prog ops Q (o :: rest) a w := by
  obtain ⟨i, hi, hz, hs1, hby⟩ := info_parts info_hashv
  cases ad with
  | none =>
    obtain rfl := hc rfl
    obtain ⟨rfl, rfl⟩ := hL.none_nil
    refine wpList_append_own_none hgd s x 30 ho base 57 i 32 Tryd.underlying30 hi v n xs hs hown hx ?_
    obtain ⟨a', c', rfl, _, _⟩ := own_shapeh hown
    have := hh a' c' w (by simpa [CELLS] using hown) (grown_refl _ _)
    simpa using this
  | some ad =>
    have hcells : ∀ j u, (CELLS l)[j]? = some u → w.cell? (ad.add j) = some u := by
      intro j u hu
      have hj : j < l.length := by
        have := (List.getElem?_eq_some_iff.1 hu).1
        simpa [CELLS] using this
      have hl := hL.1
      obtain ⟨g, o', e, _, hc'⟩ := hL.2.1 (by omega)
      cases e
      rw [addr_add, hc' j (by omega), ← hu, CELLS_get l j hj]
    refine wpList_append_own w hgd s x 30 ho base 57 i _ 32 32 Tryd.underlying30 hi hz hs1 hby rfl (by decide) v n xs hs hown ad m c (CELLS l) hx (by rw [CELLS, List.length_map, hL.1]; omega) hcells (CELLS_one l) (by simp only [maxLen]; omega) (by omega) hbase ?_
    intro v' w' h1 h2 _
    obtain ⟨a', c', rfl, _, _⟩ := own_shapeh h1
    exact hh a' c' w' h1 h2
/-- the mark behind a list of hashes. -/
def MRK : List Int := 171 :: List.replicate 31 0
theorem MRK_arr : (CELLS MRK).toArray = #[.int .u8 171, .int .u8 0, .int .u8 0, .int .u8 0, .int .u8 0, .int .u8 0, .int .u8 0, .int .u8 0, .int .u8 0, .int .u8 0, .int .u8 0, .int .u8 0, .int .u8 0, .int .u8 0, .int .u8 0, .int .u8 0, .int .u8 0, .int .u8 0, .int .u8 0, .int .u8 0, .int .u8 0, .int .u8 0, .int .u8 0, .int .u8 0, .int .u8 0, .int .u8 0, .int .u8 0, .int .u8 0, .int .u8 0, .int .u8 0, .int .u8 0, .int .u8 0] := rfl
theorem own_front32 {w : World} {base g n cap : Nat} {l m : List Int} (h : w.ownsRow base 57 32 (.slice (some ⟨g, 0, none⟩) (n + 1) cap) (n + 1) (CELLS l ++ CELLS m)) (hl : l.length = 32 * n) (hm : m.length = 32) : w.ownsRow base 57 32 (.slice (some ⟨g, 0, none⟩) n cap) n (CELLS l) ∧ n + 1 ≤ cap ∧ w.rangeAt g (n * 32) (CELLS m) ∧ g < w.heap.size := by
  have hr : w.rangeAt g (n * 32) (CELLS m) := by
    intro j v hv
    have hj : j < 32 := by
      have := (List.getElem?_eq_some_iff.1 hv).1
      simpa [CELLS, hm] using this
    have := h.cellAt (n * 32 + j) (by omega)
    rw [this, List.getElem?_append_right (by simp [CELLS]; omega), show n * 32 + j - (CELLS l).length = j by simp [CELLS]; omega]
    exact hv
  rcases h.2 with ⟨e, _⟩ | ⟨g', cap', cur, e, hb, hg, h1, h2, h3, h4⟩
  · cases e
  · cases e
    refine ⟨⟨by rw [CELLS, List.length_map, hl, Nat.mul_comm], .inr ⟨g, cap, cur, rfl, hb, hg, by omega, h2, h3, ?_⟩⟩, h1, hr, (Array.getElem?_eq_some_iff.1 hg).1⟩
    have h5 := congrArg (List.take (n * 32)) h4
    rw [List.take_take, show min (n * 32) ((n + 1) * 32) = n * 32 by omega] at h5
    rw [h5, List.take_left' (by rw [CELLS, List.length_map, hl, Nat.mul_comm])]
/-- what row answers. -/
def ROWED (w : World) (n : Nat) (l : List Int) (e : Ending) (w' : World) : Prop :=
  ∃ g cap, e = .returned (.slice (some ⟨g, 0, none⟩) n cap) ∧ w'.ownsRow w.heap.size 57 32 (.slice (some ⟨g, 0, none⟩) n cap) n (CELLS l) ∧ n + 1 ≤ cap ∧ w'.rangeAt g (n * 32) (CELLS MRK) ∧ g < w'.heap.size ∧ Below w.heap.size w w'
theorem own_empty32 (w : World) : (w.alloc (.cells #[] 57)).ownsRow w.heap.size 57 32 (.slice (some ⟨w.heap.size, 0, none⟩) 0 0) 0 [] :=
  World.ownsRow_lit w #[] 0 (Nat.le_refl _) (by simp [maxLen]) rfl
end Go.Proofs.YtmpaifkjlhodpaaDoor

/- Lists of hashes and of bytes that lie somewhere: what a row of one's own, a block, a cut of them give. -/
namespace Go.Proofs.YtmpaifkjlhodpaaDoor
open Go.RowKit
set_option maxRecDepth 100000

theorem range_below {w w' : World} {g o : Nat} {cs : List Value} (h : w.rangeAt g o cs) (hb : Below w.heap.size w w') (hg : g < w.heap.size) : w'.rangeAt g o cs := fun j v hv => (hb.cell (p := ⟨g, o + j, none⟩) hg).trans (h j v hv)
theorem range_other {w : World} {g o : Nat} {cs : List Value} (h : w.rangeAt g o cs) {a : Addr} (ha : g ≠ a.block) (u : Value) : (w.setCell a u).rangeAt g o cs := fun j v hv => (World.cell?_setCell_other w _ _ u (fun e => ha (congrArg Addr.block e).symm)).trans (h j v hv)
theorem Flat.other {w : World} {b o n : Nat} {l : List Int} (h : Flat w (some ⟨b, o, none⟩) n l) {a : Addr} (ha : b ≠ a.block) (u : Value) : Flat (w.setCell a u) (some ⟨b, o, none⟩) n l :=
  ⟨h.1, fun hn => by
    obtain ⟨b', o', e, hl, hc⟩ := h.2.1 hn
    cases e
    exact ⟨b, o, rfl, Nat.lt_of_lt_of_le hl (KeepsWalks.setCell w a u).size, fun j hj => (World.cell?_setCell_other w _ _ u (fun e => ha (congrArg Addr.block e).symm)).trans (hc j hj)⟩, h.2.2⟩
theorem own_flat {w : World} {B n : Nat} {a : Option Addr} {c : Nat} {l : List Int} (h : w.ownsRow B 57 32 (.slice a n c) n (CELLS l)) (hr : ∀ x ∈ l, 0 ≤ x ∧ x ≤ 255) : Flat w a n l := by
  have hl : l.length = 32 * n := by have := h.1; simpa [CELLS, Nat.mul_comm] using this
  refine ⟨hl, fun hn => ?_, hr⟩
  rcases h.2 with ⟨e, h0⟩ | ⟨g, cap, cur, e, _, hg, _⟩
  · omega
  · cases e
    refine ⟨g, 0, rfl, (Array.getElem?_eq_some_iff.1 hg).1, fun j hj => ?_⟩
    have := h.cellAt j (by omega)
    rw [Nat.zero_add, this, CELLS_get l j (by omega)]
theorem nil_flat (w : World) : Flat w none 0 [] := ⟨rfl, fun h => absurd h (by decide), by simp⟩
theorem has_flat {w : World} {g n : Nat} {l : List Int} (h : Has w g (CELLS l).toArray 57) (hl : l.length = 32 * n) (hr : ∀ x ∈ l, 0 ≤ x ∧ x ≤ 255) : Flat w (some ⟨g, 0, none⟩) n l :=
  ⟨hl, fun _ => ⟨g, 0, rfl, h.lt, fun j hj => by rw [Nat.zero_add, h.cell, List.getElem?_toArray, CELLS_get l j (by omega)]⟩, hr⟩
theorem own_sl {w : World} {B n : Nat} {v : Value} {l : List Int} (h : w.ownsRow B 5 1 v n (CELLS l)) (hr : ∀ x ∈ l, 0 ≤ x ∧ x ≤ 255) : ∃ a c, v = .slice a n c ∧ Bytes w a n l ∧ n ≤ c := by
  obtain ⟨a, c, rfl⟩ : ∃ a c, v = .slice a n c := by
    rcases h.2 with ⟨rfl, h0⟩ | ⟨g, cap, cur, rfl, _⟩
    · subst h0
      exact ⟨none, 0, rfl⟩
    · exact ⟨_, _, rfl⟩
  exact ⟨a, c, rfl, own_bytes_any h hr⟩
theorem ENCB_range {k E : Int} {P n X Y : Nat} {l c : List Int} {E' : Int} (hX : X < 2 ^ 64) (hY : Y < 2 ^ 64) (hk : 0 ≤ k ∧ k ≤ 255) (hr : ∀ x ∈ l, 0 ≤ x ∧ x ≤ 255) (h : ENCB k E P n X Y l = (E', c)) : ∀ x ∈ c, 0 ≤ x ∧ x ≤ 255 := by
  unfold ENCB at h
  split at h
  · cases h
    simp
  · split at h
    · cases h
      simp
    · cases h
      intro x hx
      simp only [List.mem_cons, List.mem_append] at hx
      rcases hx with rfl | (hx | hx) | hx
      · exact hk
      · exact SHORT_range hX x hx
      · exact SHORT_range hY x hx
      · exact hr x hx
theorem ENCB_long {k E : Int} {P n X Y : Nat} {l c : List Int} {E' : Int} (hl : l.length = 32 * n) (h : ENCB k E P n X Y l = (E', c)) : c.length ≤ 21 + 32 * n := by
  have h1 := SHORT_length X
  have h2 := SHORT_length Y
  have h3 := NTOP_le X
  have h4 := NTOP_le Y
  unfold ENCB at h
  split at h
  · cases h
    simp
  · split at h
    · cases h
      simp
    · cases h
      simp
      omega
theorem Bytes.take {w : World} {a : Option Addr} {n : Nat} {l : List Int} (h : Bytes w a n l) {m : Nat} (hm : m ≤ n) : Bytes w a m (l.take m) := by
  refine ⟨by rw [List.length_take, h.1]; omega, fun h0 => ?_, fun x hx => h.2.2 x (List.mem_of_mem_take hx)⟩
  obtain ⟨b, o, e, hb, hc⟩ := h.2.1 (by omega)
  refine ⟨b, o, e, hb, fun i hi => ?_⟩
  rw [hc i (by omega), List.getD_eq_getElem?_getD, List.getD_eq_getElem?_getD, List.getElem?_take, if_pos hi]
end Go.Proofs.YtmpaifkjlhodpaaDoor

/- The closure of Decode of package many: the next node is read and put behind the others. -/
namespace Go.Proofs.YtmpaifkjlhodpaaDoor
open Go.RowKit
set_option maxRecDepth 100000

/-- so many nodes of the bytes t have been read. -/
structure READING (wS w0 w : World) (LB pb qb rb : Nat) (N : Int) (iv : Value) (t : List Int) (acc : List Nat) : Prop where
  le : 32 * acc.length ≤ t.length
  row : ∃ v, Has w pb #[.int .u64 N, iv, v] 32 ∧ w.ownsRow w0.heap.size 57 32 v acc.length (CELLS (t.take (32 * acc.length)))
  box : Has w qb #[.pointer (some ⟨rb, 0, none⟩)] 78
  rdr : RDR wS w rb (t.drop (32 * acc.length))
  keep : ∀ b, b < w0.heap.size → b ≠ pb → b ≠ rb → w.heap[b]? = w0.heap[b]?
  below : Below LB w0 w
  lt : pb < w0.heap.size ∧ rb < w0.heap.size ∧ qb < w0.heap.size ∧ LB ≤ pb ∧ LB ≤ rb
  ne : pb ≠ rb ∧ qb ≠ pb ∧ qb ≠ rb
  src : wS.heap.size ≤ pb
/-- no node is left. -/
def READOUT (w0 w : World) (LB pb rb : Nat) (t : List Int) (acc : List Nat) : Prop := t.length < 32 * (acc.length + 1) ∧ (∀ b, b < w0.heap.size → b ≠ pb → b ≠ rb → w.heap[b]? = w0.heap[b]?) ∧ Below LB w0 w
theorem READING.still {wS w0 w w' : World} {LB pb qb rb : Nat} {N : Int} {iv : Value} {t : List Int} {acc : List Nat} (h : READING wS w0 w LB pb qb rb N iv t acc) (hb : Below w.heap.size w w') : READING wS w0 w' LB pb qb rb N iv t acc := by
  obtain ⟨v, h1, h2⟩ := h.row
  have hs := h.below.size
  have hl := h.lt
  exact ⟨h.le, ⟨v, h1.keep hb, own_below h2 hb⟩, h.box.keep hb, h.rdr.keep hb, fun b hb0 e1 e2 => (hb.block b (by omega)).trans (h.keep b hb0 e1 e2), h.below.trans (hb.mono (by omega)), hl, h.ne, h.src⟩
theorem own_formh {w : World} {B s n : Nat} {t : TypeId} {v : Value} {xs : List Value} (h : w.ownsRow B t s v n xs) : ∃ a c, v = .slice a n c := by
  rcases h.2 with ⟨e, h0⟩ | ⟨g, cap, cur, e, _⟩
  · exact ⟨none, 0, by rw [e, h0]⟩
  · exact ⟨_, _, e⟩
set_option maxHeartbeats 2000000 in
theorem read_short {wS w0 w : World} {LB pb qb rb : Nat} {N : Int} {iv : Value} {t : List Int} {acc : List Nat} (h : READING wS w0 w LB pb qb rb N iv t acc) (p : Int) (hs : t.length < 32 * (acc.length + 1)) :
    Calls Tryd.prog 54 #[.int .u64 p, .pointer (some ⟨pb, 0, none⟩), .pointer (some ⟨qb, 0, none⟩)] w fun e w' => e = .panicked (WRONG 11) ∧ READOUT w0 w' LB pb rb t acc := by
  have hd := h.still (w' := w.drew) (Below.refl _ _).drew
  have ch := mhash_short hd.rdr (by rw [List.length_drop]; omega)
  obtain ⟨v, h1, h2⟩ := h.row
  have x0 : w.cell? ⟨pb, 2, none⟩ = some v := h1.cell 2
  have x1 : w.cell? ⟨qb, 0, none⟩ = some (.pointer (some ⟨rb, 0, none⟩)) := h.box.cell 0
  have y0 : w.drew.cell? ⟨pb, 2, none⟩ = some v := x0
  have y1 : w.drew.cell? ⟨qb, 0, none⟩ = some (.pointer (some ⟨rb, 0, none⟩)) := x1
  have FN : Aside (∀ W, Below w.drew.heap.size w.drew W → READOUT w0 W LB pb rb t acc) := fun W hb => ⟨hs, fun b hb0 e1 e2 => (hd.still hb).keep b hb0 e1 e2, (hd.still hb).below⟩
  clear h hd h1 h2 hs
  go_enter Tryd.func54, Tryd.ntmps54
  go_upto_region 0 with fail
  refine read0die w pb qb rb v (WRONG 11) (fun W => W = w.drew) (fun W => READOUT w0 W LB pb rb t acc) rfl (fun W hW => by subst hW; exact ⟨y1, y0⟩) (fun _ W hd hW => ⟨hd, rfl, hW⟩) (fun W hW => ?_) (fun _ _ _ _ _ h => h)
  subst hW
  exact ch.mono fun e w' ⟨he, hb⟩ => ⟨he, FN.out w' hb⟩
theorem take_32more (t : List Int) (k : Nat) : t.take (32 * (k + 1)) = t.take (32 * k) ++ (t.drop (32 * k)).take 32 := by
  rw [Nat.mul_add, Nat.mul_one, List.take_add]
set_option maxHeartbeats 2000000 in
theorem read_more {wS w0 w : World} {LB pb qb rb : Nat} {N : Int} {iv : Value} {t : List Int} {acc : List Nat} (h : READING wS w0 w LB pb qb rb N iv t acc) (p : Nat) (hs : 32 * (acc.length + 1) ≤ t.length) (hacc : acc.length ≤ 100000) :
    Calls Tryd.prog 54 #[.int .u64 (p : Int), .pointer (some ⟨pb, 0, none⟩), .pointer (some ⟨qb, 0, none⟩)] w fun e w' => e = .returned (.tuple #[]) ∧ READING wS w0 w' LB pb qb rb N iv t (acc ++ [p]) := by
  obtain ⟨v, h1, h2⟩ := h.row
  obtain ⟨av, cv, rfl⟩ := own_formh h2
  obtain ⟨n, hn⟩ : ∃ n, acc.length = n := ⟨_, rfl⟩
  rw [hn] at h1 h2 hacc hs
  have hH : ((t.drop (32 * n)).take 32).length = 32 := by rw [List.length_take, List.length_drop]; omega
  have hl := h.lt
  have hne := h.ne
  have hsrc := h.src
  -- the world before and behind the call of hash
  obtain ⟨P0, hP0⟩ : ∃ P0 : World → Prop, P0 = fun W => W = w.drew := ⟨_, rfl⟩
  obtain ⟨P1, hP1⟩ : ∃ P1 : World → Prop, P1 = fun W => ∃ w1, (RDR wS w1 rb (t.drop (32 * (n + 1))) ∧ STAY w.drew w1 rb) ∧ Below w1.heap.size w1 W := ⟨_, rfl⟩
  obtain ⟨P2, hP2⟩ : ∃ P2 : World → Prop, P2 = fun W => ∃ w1, P1 w1 ∧ w1.grownBy W (Value.slice av n cv).ownBlock := ⟨_, rfl⟩
  have S0 : ∀ W, P0 W → W.cell? ⟨qb, 0, none⟩ = some (.pointer (some ⟨rb, 0, none⟩)) ∧ W.cell? ⟨pb, 2, none⟩ = some (.slice av n cv) := fun W hW => by
    rw [hP0] at hW
    rw [hW]
    exact ⟨h.box.cell 0, h1.cell 2⟩
  -- behind the call
  have G1 : ∀ W, P1 W → Has W qb #[.pointer (some ⟨rb, 0, none⟩)] 78 ∧ Has W pb #[.int .u64 N, iv, .slice av n cv] 32 ∧ W.ownsRow w0.heap.size 57 32 (.slice av n cv) n (CELLS (t.take (32 * n))) ∧ w0.heap.size ≤ W.heap.size ∧ RDR wS W rb (t.drop (32 * (n + 1))) ∧ (∀ b, b < w0.heap.size → b ≠ pb → b ≠ rb → W.heap[b]? = w0.heap[b]?) ∧ Below LB w0 W := fun W hW => by
    rw [hP1] at hW
    obtain ⟨w1, ⟨r1, s1⟩, hb⟩ := hW
    have sz1 : w.heap.size ≤ w1.heap.size := s1.bl.size
    have sz0 : w0.heap.size ≤ w.heap.size := h.below.size
    have o1 : w1.ownsRow w0.heap.size 57 32 (.slice av n cv) n (CELLS (t.take (32 * n))) := own_heap h2 fun k e => s1.kp k (h2.lt k e).2 (by have := (h2.lt k e).1; omega)
    refine ⟨(s1.has (w := w.drew) h.box hne.2.2).keep hb, (s1.has (w := w.drew) h1 hne.1).keep hb, own_below o1 hb, by have := hb.size; omega, r1.keep hb, fun b hb0 e1 e2 => ?_, ?_⟩
    · exact (hb.block b (by omega)).trans ((s1.kp b (by show b < w.heap.size; omega) e2).trans (h.keep b hb0 e1 e2))
    · exact (h.below.trans ((show Below rb w w1 from ⟨s1.bl.os, s1.bl.tape, s1.bl.output, s1.bl.size, s1.bl.block⟩).mono hl.2.2.2.2)).trans (hb.mono (by omega))
  have G2 : ∀ W, P2 W → Has W qb #[.pointer (some ⟨rb, 0, none⟩)] 78 ∧ Has W pb #[.int .u64 N, iv, .slice av n cv] 32 ∧ RDR wS W rb (t.drop (32 * (n + 1))) ∧ (∀ b, b < w0.heap.size → b ≠ pb → b ≠ rb → W.heap[b]? = w0.heap[b]?) ∧ Below LB w0 W ∧ w0.heap.size ≤ W.heap.size := fun W hW => by
    rw [hP2] at hW
    obtain ⟨w1, p1, hg⟩ := hW
    obtain ⟨a1, a2, a3, a4, a5, a6, a7⟩ := G1 w1 p1
    have hb : Below w0.heap.size w1 W := (Below.refl _ w1).grown hg a4 (fun k e => (a3.lt k e).1)
    have hb1 := hb.size
    refine ⟨a1.below hb hl.2.2.1, a2.below hb hl.1, ?_, fun b hb0 e1 e2 => (hb.block b hb0).trans (a6 b hb0 e1 e2), a7.trans (hb.mono (by omega)), by omega⟩
    obtain ⟨ar, cr, q1, q2⟩ := a5.rd
    exact ⟨⟨ar, cr, q1.below hb hl.2.1, q2⟩, a5.bel.trans (hb.mono (by have := a5.lb; omega)), a5.lb⟩
  have HC : Aside (∀ W, P0 W → Calls Tryd.prog 55 #[.pointer (some ⟨rb, 0, none⟩)] W fun e w' => e = .returned (.agg (CELLS ((t.drop (32 * n)).take 32)).toArray) ∧ P1 w') := fun W hW => by
    rw [hP0] at hW
    rw [hW]
    have hd := (h.still (w' := w.drew) (Below.refl _ _).drew).rdr
    rw [hn] at hd
    refine (mhash_ok hd (by rw [List.length_drop]; omega)).mono ?_
    rintro e w' ⟨he, r1, s1⟩
    refine ⟨he, ?_⟩
    rw [hP1]
    rw [List.drop_drop] at r1
    exact ⟨w', ⟨r1, s1⟩, Below.refl _ _⟩
  have FIN : Aside (∀ W g q, P2 W → W.ownsRow w0.heap.size 57 32 (.slice (some ⟨g, 0, none⟩) (n + 1) q) (n + 1) (CELLS (t.take (32 * n)) ++ CELLS ((t.drop (32 * n)).take 32)) → READING wS w0 (W.setCell ⟨pb, 2, none⟩ (.slice (some ⟨g, 0, none⟩) (n + 1) q)) LB pb qb rb N iv t (acc ++ [p])) := fun W g q hW ho => by
    obtain ⟨a1, a2, a3, a4, a5, a6⟩ := G2 W hW
    have el : (acc ++ [p]).length = n + 1 := by rw [List.length_append, hn]; rfl
    have st : STAY W (W.setCell ⟨pb, 2, none⟩ (.slice (some ⟨g, 0, none⟩) (n + 1) q)) pb := STAY.set _ _ _ _
    refine ⟨by rw [el]; exact hs, ⟨_, a2.set 2 _, ?_⟩, st.has a1 hne.2.1, ?_, fun b hb0 e1 e2 => (st.kp b (by omega) e1).trans (a4 b hb0 e1 e2), a5.setCell (p := ⟨pb, 2, none⟩) hl.2.2.2.1 _, hl, hne, hsrc⟩
    · rw [el, take_32more, CELLS_append]
      exact ownsRow_setCell_below ho (a := ⟨pb, 2, none⟩) hl.1 _
    · rw [el]
      exact a3.other st (fun e => hne.1 e.symm) hsrc
  have AL : ∀ W o, P1 W → P1 (W.alloc o) := fun W o hW => by
    rw [hP1] at hW ⊢
    obtain ⟨w1, q1, hb⟩ := hW
    exact ⟨w1, q1, hb.alloc hb.size o⟩
  have GR : ∀ W W', P1 W → W.grownBy W' (Value.slice av n cv).ownBlock → P2 W' := fun W W' h1 h2 => by rw [hP2]; exact ⟨W, h1, h2⟩
  have HG : Aside ((∀ W, P1 W → W.cell? ⟨qb, 0, none⟩ = some (.pointer (some ⟨rb, 0, none⟩)) ∧ W.cell? ⟨pb, 2, none⟩ = some (.slice av n cv) ∧ W.ownsRow w0.heap.size 57 32 (.slice av n cv) n (CELLS (t.take (32 * n))) ∧ w0.heap.size ≤ W.heap.size) ∧ (∀ W, P2 W → W.cell? ⟨qb, 0, none⟩ = some (.pointer (some ⟨rb, 0, none⟩))) ∧ (∀ W, P2 W → (∃ u, W.cell? ⟨pb, 2, none⟩ = some u) ∧ W.frozen? ⟨pb, 2, none⟩ = false)) := ⟨fun W hW => ⟨(G1 W hW).1.cell 0, (G1 W hW).2.1.cell 2, (G1 W hW).2.2.1, (G1 W hW).2.2.2.1⟩, fun W hW => (G2 W hW).1.cell 0, fun W hW => ⟨⟨_, (G2 W hW).2.1.cell 2⟩, (G2 W hW).2.1.frozen 2⟩⟩
  have h00 : P0 w.drew := by rw [hP0]
  have HN : Aside (((t.drop (32 * n)).take 32).length = 32 ∧ n ≤ 100000 ∧ qb ≠ pb) := ⟨hH, hacc, hne.2.1⟩
  clear h1 h2 h hs hn hacc hH hl hne hsrc G1 G2
  go_enter Tryd.func54, Tryd.ntmps54
  go_upto_region 0 with fail
  refine read0 w pb qb rb w0.heap.size av n cv _ _ HN.out.1 HN.out.2.1 HN.out.2.2 P0 P1 P2 h00 S0 HG.out.1 HG.out.2.1 AL GR HG.out.2.2 HC.out (fun _ _ _ _ _ h => h) ?_
  rintro z g q W ⟨wx, ⟨p2, ho⟩, rfl⟩
  have FN := FIN.out wx g q p2 ho
  have FF : Aside (READING wS w0 (wx.setCell ⟨pb, 2, none⟩ (.slice (some ⟨g, 0, none⟩) (n + 1) q)) LB pb qb rb N iv t (acc ++ [p])) := FN
  clear FN p2 ho FIN HG HN HC S0 AL GR h00 hP0 hP1 hP2
  generalize (CELLS ((t.drop (32 * n)).take 32)).toArray = U
  go_wp2_with fail
  exact bodyPost_end (v := .tuple #[]) (by simp [results, Tryd.f54]) rfl ⟨rfl, FF.out⟩
end Go.Proofs.YtmpaifkjlhodpaaDoor
