/- chunk.thin under the closure of Cut. -/
import Derived.Test.YtkmcmngdainofaaStoreThinState
namespace Go.Proofs.Ytkmcmngdainofaa
open Go.RowKit Go.Maps
set_option maxRecDepth 100000

/-- how many nodes rows have. -/
def SUMP : List ROW → Nat
  | [] => 0
  | r :: l => POP r.live + SUMP l
theorem SUMP_append : ∀ a b : List ROW, SUMP (a ++ b) = SUMP a + SUMP b
  | [], b => by simp [SUMP]
  | r :: a, b => by simp [SUMP, SUMP_append a b]; omega
theorem SUMP_take {l : List ROW} {i : Nat} {r : ROW} (h : l[i]? = some r) : SUMP (l.take (i + 1)) = SUMP (l.take i) + POP r.live := by
  rw [List.take_add_one, h, SUMP_append]
  simp [SUMP]
theorem POP_nil : POP 0 = 0 := by
  rw [POP_RK]
  exact RK_none (k := 0) (by omega) (fun i _ _ => Nat.zero_testBit i)
theorem SUMP_lives : ∀ l : List ROW, SUMP (LVS l) = SUMP l
  | [] => rfl
  | r :: l => by
    have ih := SUMP_lives l
    unfold LVS at ih ⊢
    by_cases h : r.live = 0
    · rw [List.filter_cons_of_neg (by simp [h]), ih]
      simp [SUMP, h, POP_nil]
    · rw [List.filter_cons_of_pos (by simp [h])]
      show POP r.live + SUMP (List.filter _ l) = POP r.live + SUMP l
      rw [ih]
/-- what chunk.thin leaves. -/
def CTHIN (w : World) (B gc gr : Nat) (st : Nat → Nat) (rs : List ROW) (gone : Nat) (w' : World) : Prop :=
  ∃ L : List ROW, CHUNK w' B gc (LVS L) ∧ L.length = rs.length ∧ (∀ (k : Nat) (r : ROW), rs[k]? = some r → ∃ r', L[k]? = some r' ∧ THR st r r') ∧ gone + SUMP (LVS L) = SUMP rs ∧ (∀ r ∈ LVS L, (∃ r0 ∈ rs, r0.gh = r.gh) ∨ w.heap.size ≤ r.gh) ∧
    (∃ cap, w'.cell? ⟨gc, 0, none⟩ = some (.slice (some ⟨gr, 0, none⟩) (LVS L).length cap)) ∧ w.heap.size ≤ w'.heap.size ∧ (∀ b, b < w.heap.size → b ≠ gc → b ≠ gr → w'.heap[b]? = w.heap[b]?) ∧ OTO w w'
theorem APA_iff {l : List ROW} : (∀ (i j : Nat) (r s : ROW), i ≠ j → l[i]? = some r → l[j]? = some s → r.gh ≠ s.gh) ↔ l.Pairwise (fun r s => r.gh ≠ s.gh) := by
  rw [List.pairwise_iff_getElem]
  constructor
  · intro h i j hi hj hij
    exact h i j _ _ (by omega) (List.getElem?_eq_getElem hi) (List.getElem?_eq_getElem hj)
  · intro h i j r s hij hr hs
    obtain ⟨h1, rfl⟩ := List.getElem?_eq_some_iff.1 hr
    obtain ⟨h2, rfl⟩ := List.getElem?_eq_some_iff.1 hs
    rcases Nat.lt_or_gt_of_ne hij with h' | h'
    · exact h i j h1 h2 h'
    · exact fun e => h j i h2 h1 h' e.symm
theorem bit_of_ne {X : Nat} (hX : X < 2 ^ 64) (h : X ≠ 0) : ∃ j, j < 64 ∧ X.testBit j = true := by
  obtain ⟨t, q, e⟩ := low_split X h
  exact ⟨t, (neg_and hX e).2, low_bit e⟩
theorem TST.finish {w wx w2 : World} {B gc gr n cap : Nat} {st : Nat → Nat} {rs L : List ROW} (hC : CHUNK w B gc rs) (hn : rs.length = n) (h : TST w wx B gc gr n cap st rs L n) (hst : ∀ q, st q < 2 ^ 64) (h1 : w2.ownsRow B 73 3 (.slice (some ⟨gr, 0, none⟩) (LVS L).length cap) (LVS L).length (RC (LVS L))) (h2 : ∀ b, b < wx.heap.size → b ≠ gr → w2.heap[b]? = wx.heap[b]?) :
    gc ≠ gr ∧ Has w2 gc #[.slice (some ⟨gr, 0, none⟩) n cap] 70 ∧ CHUNK (w2.setCell ⟨gc, 0, none⟩ (.slice (some ⟨gr, 0, none⟩) (LVS L).length cap)) B gc (LVS L) ∧ (w2.setCell ⟨gc, 0, none⟩ (.slice (some ⟨gr, 0, none⟩) (LVS L).length cap)).cell? ⟨gc, 0, none⟩ = some (.slice (some ⟨gr, 0, none⟩) (LVS L).length cap) := by
  obtain ⟨cg, hcg, _⟩ := own_block h.rows (b := gr) rfl
  have hgcne : gc ≠ gr := fun e => by
    have := h.box
    unfold Has at this
    rw [e, hcg] at this
    cases this
  have hbx : Has w2 gc #[.slice (some ⟨gr, 0, none⟩) n cap] 70 := by
    show w2.heap[gc]? = _
    rw [h2 gc h.box.lt hgcne]
    exact h.box
  obtain ⟨w3, hw3⟩ : ∃ w3, w2.setCell ⟨gc, 0, none⟩ (.slice (some ⟨gr, 0, none⟩) (LVS L).length cap) = w3 := ⟨_, rfl⟩
  rw [hw3]
  have hset : ∀ b, b ≠ gc → w3.heap[b]? = w2.heap[b]? := fun b hb => by rw [← hw3]; exact Below.heap_setCell _ _ _ b (by exact hb)
  have hb3 : Has w3 gc #[.slice (some ⟨gr, 0, none⟩) (LVS L).length cap] 70 := by
    rw [← hw3]
    show (w2.setCell _ _).heap[gc]? = _
    have := hbx
    unfold Has at this
    simp [World.setCell, Array.getElem?_modify, this]
  have hall : ∀ (k : Nat) (r : ROW), rs[k]? = some r → ∃ r', L[k]? = some r' ∧ THR st r r' := fun k r hr => by
    obtain ⟨r', a1, a2, _⟩ := h.done k r hr
    exact ⟨r', a1, a2 (by have := (List.getElem?_eq_some_iff.1 hr).1; omega)⟩
  have hR := RISE_thin hC.rise (by rw [h.len, hn]) hall
  have hrow : ∀ q ∈ L, ∃ r ∈ rs, THR st r q := fun q hq => by
    obtain ⟨k, hk⟩ := List.getElem?_of_mem hq
    have hkl : k < rs.length := by have := (List.getElem?_eq_some_iff.1 hk).1; have := h.len; omega
    obtain ⟨r', a1, a2⟩ := hall k rs[k] (List.getElem?_eq_getElem hkl)
    rw [hk] at a1
    cases a1
    exact ⟨rs[k], List.getElem_mem _, a2⟩
  have hsub : ∀ q ∈ LVS L, q ∈ L ∧ q.live ≠ 0 := fun q hq => by
    have := List.mem_filter.1 hq
    exact ⟨this.1, by simpa using this.2⟩
  have hlv : ∀ q ∈ L, q.live < 2 ^ 64 := fun q hq => by
    obtain ⟨r, _, ht⟩ := hrow q hq
    rw [ht.live]
    exact Nat.lt_of_le_of_lt Nat.and_le_left (hst _)
  refine ⟨hgcne, hbx, ⟨⟨_, hb3, own_same h1 (fun b hb => hset b (fun e => ?_))⟩, hC.far, ?_, RISE_lives hR, fun q hq => ?_, APA_iff.2 ((APA_iff.1 h.one).filter _), fun q hq => bit_of_ne (hlv q (hsub q hq).1) (hsub q hq).2⟩, hb3.cell 0⟩
  · have : b = gr := by cases hb; rfl
    exact hgcne (by rw [← e, this])
  · have := List.length_filter_le (fun r : ROW => decide (r.live ≠ 0)) L
    have := hC.few
    have := h.len
    unfold LVS
    omega
  · obtain ⟨hqL, _⟩ := hsub q hq
    obtain ⟨r, hr, ht⟩ := hrow q hqL
    obtain ⟨z1, z2, z3, z4, z5⟩ := hC.row r hr
    have ho := h.own q hqL
    have hol := ho.lt q.gh rfl
    obtain ⟨cq, hcq, _⟩ := own_block ho (b := q.gh) rfl
    have n1 : q.gh ≠ gr := fun e => by rw [e, hcg] at hcq; cases hcq
    have n2 : q.gh ≠ gc := fun e => by
      have := h.box
      unfold Has at this
      rw [e, this] at hcq
      cases hcq
    exact ⟨by rw [ht.num]; exact z1, hlv q hqL, ht.len, ht.byte z4, own_same ho (fun b hb => by
      have : b = q.gh := by cases hb; rfl
      rw [this, hset _ n2, h2 _ hol.2 n1])⟩
set_option maxHeartbeats 2000000 in
theorem chthin_cut (B gc gr cap bn N : Nat) (rs : List ROW) (hN : N < 2 ^ 64) (w : World) (hC : CHUNK w B gc rs) (hbx : Has w gc #[.slice (some ⟨gr, 0, none⟩) rs.length cap] 70) (hB : B ≤ w.heap.size) (hbn : w.cell? ⟨bn, 0, none⟩ = some (.int .u64 (N : Int))) (hne : bn ≠ gr) : Calls Try.prog 27 #[.pointer (some ⟨gc, 0, none⟩), .func (.func 24) #[] #[.pointer (some ⟨bn, 0, none⟩)]] w fun e w' =>
    ∃ gone : Nat, e = .returned (.int .u64 (gone : Int)) ∧ CTHIN w B gc gr (BLW N) rs gone w' := by
  have T0 : Aside (TST w w B gc gr rs.length cap (BLW N) rs rs 0) := TST.start hC hbx hB
  have H : Aside (CHUNK w B gc rs ∧ N < 2 ^ 64 ∧ w.cell? ⟨bn, 0, none⟩ = some (.int .u64 (N : Int)) ∧ bn ≠ gr ∧ rs.length < 2 ^ 40 ∧ bn < w.heap.size) := ⟨hC, hN, hbn, hne, hC.few, World.block_lt_of_cell? _ _ hbn⟩
  have hb0 : w.cell? ⟨gc, 0, none⟩ = some (.slice (some ⟨gr, 0, none⟩) rs.length cap) := hbx.cell 0
  obtain ⟨n, hn⟩ : ∃ n, rs.length = n := ⟨_, rfl⟩
  have HN : Aside (rs.length = n) := hn
  rw [hn] at T0 H hb0
  clear hn hC hbx hB hbn hne hN
  go_enter Try.func27, Try.ntmps27
  go_wp2
  clear hb0
  go_loopg [5, 13] n (fun k s5 s13 wx => ∃ i g : Nat, i + k = n ∧ s5 = .int .i64 (g : Int) ∧ s13 = .int .i64 (i : Int) ∧ Aside (g ≤ 64 * i ∧ ∃ L, TST w wx B gc gr n cap (BLW N) rs L i ∧ g + SUMP (L.take i) = SUMP (rs.take i)))
  case atStart => exact ⟨0, 0, by omega, rfl, rfl, by omega, rs, T0.out, by simp [SUMP]⟩
  case round =>
    obtain ⟨i, g, hik, rfl, rfl, Z⟩ := hrel
    cases gk with
    | zero =>
      obtain rfl : i = n := by omega
      have hlt : ¬ (i : Int) < (i : Int) := by omega
      obtain ⟨hg, L, hT, hsum⟩ := Z.out
      have x0 : wr.cell? ⟨gc, 0, none⟩ = some (.slice (some ⟨gr, 0, none⟩) i cap) := hT.box.cell 0
      have cD := delgone_ok B gr i cap L hT.len H.out.2.2.2.2.1 wr hT.rows
      have hi40 := H.out.2.2.2.2.1
      have hwg : IntKind.u64.wrap (g : Int) = (g : Int) := wrap_nat rfl (by omega)
      have HT : Aside (TST w wr B gc gr i cap (BLW N) rs L i ∧ g + SUMP L = SUMP rs) := ⟨hT, by
        rw [List.take_of_length_le (Nat.le_of_eq hT.len), List.take_of_length_le (Nat.le_of_eq HN.out)] at hsum
        exact hsum⟩
      clear hT hsum hg Z hi40
      go_wp2_with fail
      refine cD.mono ?_
      rintro e w2 ⟨rfl, d1, d2, d3, d4⟩
      clear cD
      obtain ⟨f1, f2, f3, f4⟩ := TST.finish H.out.1 HN.out HT.out.1 (fun q => BLW_lt N q) d1 d2
      have y0 : w2.cell? ⟨gc, 0, none⟩ = some (.slice (some ⟨gr, 0, none⟩) i cap) := f2.cell 0
      have y1 : w2.frozen? ⟨gc, 0, none⟩ = false := f2.frozen 0
      have E : Aside (CTHIN w B gc gr (BLW N) rs g (w2.setCell ⟨gc, 0, none⟩ (.slice (some ⟨gr, 0, none⟩) (LVS L).length cap))) := by
        obtain ⟨t1, t2⟩ := HT.out
        refine ⟨L, f3, by rw [t1.len, HN.out], fun k r hr => ?_, by rw [SUMP_lives]; exact t2, fun q hq => t1.old q (List.mem_filter.1 hq).1, ⟨cap, f4⟩, ?_, fun b hb n1 n2 => ?_, (t1.oto.trans d4).trans (OTO.cell _ _ _)⟩
        · obtain ⟨r', a1, a2, _⟩ := t1.done k r hr
          exact ⟨r', a1, a2 (by have := (List.getElem?_eq_some_iff.1 hr).1; have := HN.out; omega)⟩
        · have := t1.size
          simp
          omega
        · exact ((Below.heap_setCell _ _ _ b (by exact n1)).trans (d2 b (Nat.lt_of_lt_of_le hb t1.size) n2)).trans (t1.same b hb n2)
      clear d1 d2 d3 d4 f1 f2 f3 f4 HT
      go_wp2
      go_ret
      exact ⟨g, by first | rfl | (rw [hwg]; rfl), E.out⟩
    | succ k =>
      obtain ⟨hg, L, hT, hsum⟩ := Z.out
      have hin : i < n := by omega
      have hlt : (i : Int) < (n : Int) := Int.ofNat_lt.2 hin
      obtain ⟨r, hr⟩ : ∃ r, rs[i]? = some r := ⟨_, List.getElem?_eq_getElem (by rw [HN.out]; omega)⟩
      have hLi : L[i]? = some r := by
        obtain ⟨r', h1, _, h3⟩ := hT.done i r hr
        rw [h3 (Nat.le_refl _)] at h1
        exact h1
      have hw1 := step_w64 hin H.out.2.2.2.2.1
      have x0 : wr.cell? ⟨gc, 0, none⟩ = some (.slice (some ⟨gr, 0, none⟩) n cap) := hT.box.cell 0
      obtain ⟨x1, x2, x3⟩ := rows_lie hT.rows hLi
      have hgr : gr < wr.heap.size := (hT.rows.lt gr rfl).2
      obtain ⟨o1, _, hcap, _⟩ := own_cell hT.rows
      obtain ⟨q1, q2, q3, q4, q5⟩ := H.out.1.row r (List.mem_of_getElem? hr)
      have hbn2 : wr.cell? ⟨bn, 0, none⟩ = some (.int .u64 (N : Int)) := (World.cell?_of_block (w := w) (by exact hT.same bn H.out.2.2.2.2.2 H.out.2.2.2.1)).trans H.out.2.2.1
      have cS := cutstay_ok N r.num bn H.out.2.1 wr hbn2
      obtain ⟨st, hst⟩ : ∃ st, BLW N r.num = st := ⟨_, rfl⟩
      have hst64 : st < 2 ^ 64 := by rw [← hst]; exact BLW_lt _ _
      rw [hst] at cS
      have HR : Aside (rs[i]? = some r ∧ L[i]? = some r ∧ TST w wr B gc gr n cap (BLW N) rs L i ∧ g + SUMP (L.take i) = SUMP (rs.take i) ∧ g ≤ 64 * i ∧ i + 1 + k = n ∧ BLW N r.num = st ∧ r.hs.length = POP r.live) := ⟨hr, hLi, hT, hsum, hg, by omega, hst, q3⟩
      have hg1 : g ≤ 64 * i := hg
      have hi40 : i < 2 ^ 40 := Nat.lt_trans hin H.out.2.2.2.2.1
      have hp := POP_le r.live
      by_cases hs : st &&& r.live = r.live
      · have cR := rowthin_same gr (i * 3) r.live st q2 hst64 hs wr x2
        have HS : Aside (st &&& r.live = r.live) := hs
        have hwg : wrap64 (g : Int) = (g : Int) := by unfold wrap64; omega
        clear hr hLi hT hsum hg hin q1 q2 q3 q4 q5 hst hst64 hs o1 hcap Z hgr x2 x3 hg1 hi40 hp
        go_wp2_with (first
          | (refine cS.mono ?_; rintro e w' ⟨rfl, rfl⟩)
          | (refine cR.mono ?_; rintro e w' ⟨rfl, rfl⟩)
          | fail)
        go_roundg k
        case measure => omega
        case rel =>
          obtain ⟨r1, r2, r3, r4, r5, r6, r7, r8⟩ := HR.out
          refine ⟨i + 1, g, r6, by first | rfl | (rw [hwg]), by first | rfl | (rw [hw1]), by omega, L, r3.skip r1 (by rw [r7]; exact HS.out) r8, ?_⟩
          rw [SUMP_take r1, SUMP_take r2]
          omega
      · obtain ⟨s, hse⟩ : ∃ s, st &&& r.live = s := ⟨_, rfl⟩
        have hsne : s ≠ r.live := by rw [← hse]; exact hs
        have hle : POP s ≤ POP r.live := POP_sub (fun k _ h => by rw [← hse] at h; exact stay_bits h)
        have hown := hT.own r (List.mem_of_getElem? hLi)
        have cR := rowthin_ok gr (i * 3) r.live st s r.gh r.hs.length r.ch r.hs q2 hst64 hse hsne q3 rfl wr x2 x3 (o1 _ (by omega)).2 (o1 _ (by omega)).2 (hown.lt r.gh rfl).2 (fun k x hx => own_at hown rfl hx)
        obtain ⟨d, hd⟩ : ∃ d, POP r.live - POP s = d := ⟨_, rfl⟩
        rw [hd] at cR
        have HS : Aside (st &&& r.live = s ∧ POP r.live - POP s = d ∧ POP s ≤ POP r.live ∧ POP r.live ≤ 64) := ⟨hse, hd, hle, hp⟩
        have hwg : wrap64 ((g : Int) + (d : Int)) = ((g + d : Nat) : Int) := by unfold wrap64; omega
        clear hr hLi hT hsum hg hin q1 q2 q3 q4 q5 hst hst64 hs o1 hcap Z hgr x2 x3 hg1 hi40 hp hse hsne hle hown hd
        go_wp2_with (first
          | (refine cS.mono ?_; rintro e w' ⟨rfl, rfl⟩)
          | fail)
        refine cR.mono ?_
        rintro e w2 ⟨rfl, g2, c2, w1, t1, t2, t3⟩
        have Z2 : Aside (∃ L', TST w w2 B gc gr n cap (BLW N) rs L' (i + 1) ∧ SUMP (L'.take (i + 1)) = SUMP (L.take i) + POP s) := by
          obtain ⟨r1, r2, r3, r4, r5, r6, r7, r8⟩ := HR.out
          have hil : i < L.length := (List.getElem?_eq_some_iff.1 r2).1
          refine ⟨_, by rw [t3]; exact r3.next r1 r2 (by rw [r7]; exact HS.out.1) r8 t1 t2, ?_⟩
          rw [SUMP_take (List.getElem?_set_self hil), List.take_set_of_le (Nat.le_refl _)]
        clear t1 t2 t3 cR cS
        go_wp2
        go_roundg k
        case measure => omega
        case rel =>
          obtain ⟨r1, r2, r3, r4, r5, r6, r7, r8⟩ := HR.out
          obtain ⟨L', u1, u2⟩ := Z2.out
          obtain ⟨v1, v2, v3, v4⟩ := HS.out
          refine ⟨i + 1, g + d, r6, by first | rfl | (rw [hwg]), by first | rfl | (rw [hw1]), by omega, L', u1, ?_⟩
          rw [SUMP_take r1, u2]
          omega
end Go.Proofs.Ytkmcmngdainofaa
