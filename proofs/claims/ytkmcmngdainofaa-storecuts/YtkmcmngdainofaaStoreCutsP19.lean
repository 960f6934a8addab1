/- Texts of StoreCuts, one behind the other: StoreChunkThin, StoreChange, StoreThinStep. -/
import Derived.Test.YtkmcmngdainofaaStoreCutsP10
import Derived.Test.YtkmcmngdainofaaStoreCutsP18
/- chunk.thin under the closure of Cut. -/
namespace Go.Proofs.Ytkmcmngdainofaa
open Go.RowKit Go.Maps
set_option maxRecDepth 100000

/-- how many nodes rows have. -/
def SUMP : List ROW → Nat
  | [] => 0
  | r :: l => POP r.live + SUMP l
theorem SUMP_append : ∀ a b : List ROW, SUMP (a ++ b) = SUMP a + SUMP b
  | [], b => by simp [SUMP]
  | r :: a, b => by simp [SUMP, SUMP_append a b]; omega
theorem SUMP_take {l : List ROW} {i : Nat} {r : ROW} (h : l[i]? = some r) : SUMP (l.take (i + 1)) = SUMP (l.take i) + POP r.live := by
  rw [List.take_add_one, h, SUMP_append]
  simp [SUMP]
theorem POP_nil : POP 0 = 0 := by
  rw [POP_RK]
  exact RK_none (k := 0) (by omega) (fun i _ _ => Nat.zero_testBit i)
theorem SUMP_lives : ∀ l : List ROW, SUMP (LVS l) = SUMP l
  | [] => rfl
  | r :: l => by
    have ih := SUMP_lives l
    unfold LVS at ih ⊢
    by_cases h : r.live = 0
    · rw [List.filter_cons_of_neg (by simp [h]), ih]
      simp [SUMP, h, POP_nil]
    · rw [List.filter_cons_of_pos (by simp [h])]
      show POP r.live + SUMP (List.filter _ l) = POP r.live + SUMP l
      rw [ih]
/-- what chunk.thin leaves. -/
def CTHIN (w : World) (B gc gr : Nat) (st : Nat → Nat) (rs : List ROW) (gone : Nat) (w' : World) : Prop :=
  ∃ L : List ROW, CHUNK w' B gc (LVS L) ∧ L.length = rs.length ∧ (∀ (k : Nat) (r : ROW), rs[k]? = some r → ∃ r', L[k]? = some r' ∧ THR st r r') ∧ gone + SUMP (LVS L) = SUMP rs ∧ (∀ r ∈ LVS L, (∃ r0 ∈ rs, r0.gh = r.gh) ∨ w.heap.size ≤ r.gh) ∧
    (∃ cap, w'.cell? ⟨gc, 0, none⟩ = some (.slice (some ⟨gr, 0, none⟩) (LVS L).length cap)) ∧ w.heap.size ≤ w'.heap.size ∧ (∀ b, b < w.heap.size → b ≠ gc → b ≠ gr → w'.heap[b]? = w.heap[b]?) ∧ OTO w w'
theorem APA_iff {l : List ROW} : (∀ (i j : Nat) (r s : ROW), i ≠ j → l[i]? = some r → l[j]? = some s → r.gh ≠ s.gh) ↔ l.Pairwise (fun r s => r.gh ≠ s.gh) := by
  rw [List.pairwise_iff_getElem]
  constructor
  · intro h i j hi hj hij
    exact h i j _ _ (by omega) (List.getElem?_eq_getElem hi) (List.getElem?_eq_getElem hj)
  · intro h i j r s hij hr hs
    obtain ⟨h1, rfl⟩ := List.getElem?_eq_some_iff.1 hr
    obtain ⟨h2, rfl⟩ := List.getElem?_eq_some_iff.1 hs
    rcases Nat.lt_or_gt_of_ne hij with h' | h'
    · exact h i j h1 h2 h'
    · exact fun e => h j i h2 h1 h' e.symm
theorem bit_of_ne {X : Nat} (hX : X < 2 ^ 64) (h : X ≠ 0) : ∃ j, j < 64 ∧ X.testBit j = true := by
  obtain ⟨t, q, e⟩ := low_split X h
  exact ⟨t, (neg_and hX e).2, low_bit e⟩
theorem TST.finish {w wx w2 : World} {B gc gr n cap : Nat} {st : Nat → Nat} {rs L : List ROW} (hC : CHUNK w B gc rs) (hn : rs.length = n) (h : TST w wx B gc gr n cap st rs L n) (hst : ∀ q, st q < 2 ^ 64) (h1 : w2.ownsRow B 73 3 (.slice (some ⟨gr, 0, none⟩) (LVS L).length cap) (LVS L).length (RC (LVS L))) (h2 : ∀ b, b < wx.heap.size → b ≠ gr → w2.heap[b]? = wx.heap[b]?) :
    gc ≠ gr ∧ Has w2 gc #[.slice (some ⟨gr, 0, none⟩) n cap] 70 ∧ CHUNK (w2.setCell ⟨gc, 0, none⟩ (.slice (some ⟨gr, 0, none⟩) (LVS L).length cap)) B gc (LVS L) ∧ (w2.setCell ⟨gc, 0, none⟩ (.slice (some ⟨gr, 0, none⟩) (LVS L).length cap)).cell? ⟨gc, 0, none⟩ = some (.slice (some ⟨gr, 0, none⟩) (LVS L).length cap) := by
  obtain ⟨cg, hcg, _⟩ := own_block h.rows (b := gr) rfl
  have hgcne : gc ≠ gr := fun e => by
    have := h.box
    unfold Has at this
    rw [e, hcg] at this
    cases this
  have hbx : Has w2 gc #[.slice (some ⟨gr, 0, none⟩) n cap] 70 := by
    show w2.heap[gc]? = _
    rw [h2 gc h.box.lt hgcne]
    exact h.box
  obtain ⟨w3, hw3⟩ : ∃ w3, w2.setCell ⟨gc, 0, none⟩ (.slice (some ⟨gr, 0, none⟩) (LVS L).length cap) = w3 := ⟨_, rfl⟩
  rw [hw3]
  have hset : ∀ b, b ≠ gc → w3.heap[b]? = w2.heap[b]? := fun b hb => by rw [← hw3]; exact Below.heap_setCell _ _ _ b (by exact hb)
  have hb3 : Has w3 gc #[.slice (some ⟨gr, 0, none⟩) (LVS L).length cap] 70 := by
    rw [← hw3]
    show (w2.setCell _ _).heap[gc]? = _
    have := hbx
    unfold Has at this
    simp [World.setCell, Array.getElem?_modify, this]
  have hall : ∀ (k : Nat) (r : ROW), rs[k]? = some r → ∃ r', L[k]? = some r' ∧ THR st r r' := fun k r hr => by
    obtain ⟨r', a1, a2, _⟩ := h.done k r hr
    exact ⟨r', a1, a2 (by have := (List.getElem?_eq_some_iff.1 hr).1; omega)⟩
  have hR := RISE_thin hC.rise (by rw [h.len, hn]) hall
  have hrow : ∀ q ∈ L, ∃ r ∈ rs, THR st r q := fun q hq => by
    obtain ⟨k, hk⟩ := List.getElem?_of_mem hq
    have hkl : k < rs.length := by have := (List.getElem?_eq_some_iff.1 hk).1; have := h.len; omega
    obtain ⟨r', a1, a2⟩ := hall k rs[k] (List.getElem?_eq_getElem hkl)
    rw [hk] at a1
    cases a1
    exact ⟨rs[k], List.getElem_mem _, a2⟩
  have hsub : ∀ q ∈ LVS L, q ∈ L ∧ q.live ≠ 0 := fun q hq => by
    have := List.mem_filter.1 hq
    exact ⟨this.1, by simpa using this.2⟩
  have hlv : ∀ q ∈ L, q.live < 2 ^ 64 := fun q hq => by
    obtain ⟨r, _, ht⟩ := hrow q hq
    rw [ht.live]
    exact Nat.lt_of_le_of_lt Nat.and_le_left (hst _)
  refine ⟨hgcne, hbx, ⟨⟨_, hb3, own_same h1 (fun b hb => hset b (fun e => ?_))⟩, hC.far, ?_, RISE_lives hR, fun q hq => ?_, APA_iff.2 ((APA_iff.1 h.one).filter _), fun q hq => bit_of_ne (hlv q (hsub q hq).1) (hsub q hq).2⟩, hb3.cell 0⟩
  · have : b = gr := by cases hb; rfl
    exact hgcne (by rw [← e, this])
  · have := List.length_filter_le (fun r : ROW => decide (r.live ≠ 0)) L
    have := hC.few
    have := h.len
    unfold LVS
    omega
  · obtain ⟨hqL, _⟩ := hsub q hq
    obtain ⟨r, hr, ht⟩ := hrow q hqL
    obtain ⟨z1, z2, z3, z4, z5⟩ := hC.row r hr
    have ho := h.own q hqL
    have hol := ho.lt q.gh rfl
    obtain ⟨cq, hcq, _⟩ := own_block ho (b := q.gh) rfl
    have n1 : q.gh ≠ gr := fun e => by rw [e, hcg] at hcq; cases hcq
    have n2 : q.gh ≠ gc := fun e => by
      have := h.box
      unfold Has at this
      rw [e, this] at hcq
      cases hcq
    exact ⟨by rw [ht.num]; exact z1, hlv q hqL, ht.len, ht.byte z4, own_same ho (fun b hb => by
      have : b = q.gh := by cases hb; rfl
      rw [this, hset _ n2, h2 _ hol.2 n1])⟩
set_option maxHeartbeats 2000000 in
theorem chthin_cut (B gc gr cap bn N : Nat) (rs : List ROW) (hN : N < 2 ^ 64) (w : World) (hC : CHUNK w B gc rs) (hbx : Has w gc #[.slice (some ⟨gr, 0, none⟩) rs.length cap] 70) (hB : B ≤ w.heap.size) (hbn : w.cell? ⟨bn, 0, none⟩ = some (.int .u64 (N : Int))) (hne : bn ≠ gr) : Calls Try.prog 27 #[.pointer (some ⟨gc, 0, none⟩), .func (.func 24) #[] #[.pointer (some ⟨bn, 0, none⟩)]] w fun e w' =>
    ∃ gone : Nat, e = .returned (.int .u64 (gone : Int)) ∧ CTHIN w B gc gr (BLW N) rs gone w' := by
  have T0 : Aside (TST w w B gc gr rs.length cap (BLW N) rs rs 0) := TST.start hC hbx hB
  have H : Aside (CHUNK w B gc rs ∧ N < 2 ^ 64 ∧ w.cell? ⟨bn, 0, none⟩ = some (.int .u64 (N : Int)) ∧ bn ≠ gr ∧ rs.length < 2 ^ 40 ∧ bn < w.heap.size) := ⟨hC, hN, hbn, hne, hC.few, World.block_lt_of_cell? _ _ hbn⟩
  have hb0 : w.cell? ⟨gc, 0, none⟩ = some (.slice (some ⟨gr, 0, none⟩) rs.length cap) := hbx.cell 0
  obtain ⟨n, hn⟩ : ∃ n, rs.length = n := ⟨_, rfl⟩
  have HN : Aside (rs.length = n) := hn
  rw [hn] at T0 H hb0
  clear hn hC hbx hB hbn hne hN
  go_enter Try.func27, Try.ntmps27
  go_wp2
  clear hb0
  go_loopg [5, 13] n (fun k s5 s13 wx => ∃ i g : Nat, i + k = n ∧ s5 = .int .i64 (g : Int) ∧ s13 = .int .i64 (i : Int) ∧ Aside (g ≤ 64 * i ∧ ∃ L, TST w wx B gc gr n cap (BLW N) rs L i ∧ g + SUMP (L.take i) = SUMP (rs.take i)))
  case atStart => exact ⟨0, 0, by omega, rfl, rfl, by omega, rs, T0.out, by simp [SUMP]⟩
  case round =>
    obtain ⟨i, g, hik, rfl, rfl, Z⟩ := hrel
    cases gk with
    | zero =>
      obtain rfl : i = n := by omega
      have hlt : ¬ (i : Int) < (i : Int) := by omega
      obtain ⟨hg, L, hT, hsum⟩ := Z.out
      have x0 : wr.cell? ⟨gc, 0, none⟩ = some (.slice (some ⟨gr, 0, none⟩) i cap) := hT.box.cell 0
      have cD := delgone_ok B gr i cap L hT.len H.out.2.2.2.2.1 wr hT.rows
      have hi40 := H.out.2.2.2.2.1
      have hwg : IntKind.u64.wrap (g : Int) = (g : Int) := wrap_nat rfl (by omega)
      have HT : Aside (TST w wr B gc gr i cap (BLW N) rs L i ∧ g + SUMP L = SUMP rs) := ⟨hT, by
        rw [List.take_of_length_le (Nat.le_of_eq hT.len), List.take_of_length_le (Nat.le_of_eq HN.out)] at hsum
        exact hsum⟩
      clear hT hsum hg Z hi40
      go_wp2_with fail
      refine cD.mono ?_
      rintro e w2 ⟨rfl, d1, d2, d3, d4⟩
      clear cD
      obtain ⟨f1, f2, f3, f4⟩ := TST.finish H.out.1 HN.out HT.out.1 (fun q => BLW_lt N q) d1 d2
      have y0 : w2.cell? ⟨gc, 0, none⟩ = some (.slice (some ⟨gr, 0, none⟩) i cap) := f2.cell 0
      have y1 : w2.frozen? ⟨gc, 0, none⟩ = false := f2.frozen 0
      have E : Aside (CTHIN w B gc gr (BLW N) rs g (w2.setCell ⟨gc, 0, none⟩ (.slice (some ⟨gr, 0, none⟩) (LVS L).length cap))) := by
        obtain ⟨t1, t2⟩ := HT.out
        refine ⟨L, f3, by rw [t1.len, HN.out], fun k r hr => ?_, by rw [SUMP_lives]; exact t2, fun q hq => t1.old q (List.mem_filter.1 hq).1, ⟨cap, f4⟩, ?_, fun b hb n1 n2 => ?_, (t1.oto.trans d4).trans (OTO.cell _ _ _)⟩
        · obtain ⟨r', a1, a2, _⟩ := t1.done k r hr
          exact ⟨r', a1, a2 (by have := (List.getElem?_eq_some_iff.1 hr).1; have := HN.out; omega)⟩
        · have := t1.size
          simp
          omega
        · exact ((Below.heap_setCell _ _ _ b (by exact n1)).trans (d2 b (Nat.lt_of_lt_of_le hb t1.size) n2)).trans (t1.same b hb n2)
      clear d1 d2 d3 d4 f1 f2 f3 f4 HT
      go_wp2
      go_ret
      exact ⟨g, by first | rfl | (rw [hwg]; rfl), E.out⟩
    | succ k =>
      obtain ⟨hg, L, hT, hsum⟩ := Z.out
      have hin : i < n := by omega
      have hlt : (i : Int) < (n : Int) := Int.ofNat_lt.2 hin
      obtain ⟨r, hr⟩ : ∃ r, rs[i]? = some r := ⟨_, List.getElem?_eq_getElem (by rw [HN.out]; omega)⟩
      have hLi : L[i]? = some r := by
        obtain ⟨r', h1, _, h3⟩ := hT.done i r hr
        rw [h3 (Nat.le_refl _)] at h1
        exact h1
      have hw1 := step_w64 hin H.out.2.2.2.2.1
      have x0 : wr.cell? ⟨gc, 0, none⟩ = some (.slice (some ⟨gr, 0, none⟩) n cap) := hT.box.cell 0
      obtain ⟨x1, x2, x3⟩ := rows_lie hT.rows hLi
      have hgr : gr < wr.heap.size := (hT.rows.lt gr rfl).2
      obtain ⟨o1, _, hcap, _⟩ := own_cell hT.rows
      obtain ⟨q1, q2, q3, q4, q5⟩ := H.out.1.row r (List.mem_of_getElem? hr)
      have hbn2 : wr.cell? ⟨bn, 0, none⟩ = some (.int .u64 (N : Int)) := (World.cell?_of_block (w := w) (by exact hT.same bn H.out.2.2.2.2.2 H.out.2.2.2.1)).trans H.out.2.2.1
      have cS := cutstay_ok N r.num bn H.out.2.1 wr hbn2
      obtain ⟨st, hst⟩ : ∃ st, BLW N r.num = st := ⟨_, rfl⟩
      have hst64 : st < 2 ^ 64 := by rw [← hst]; exact BLW_lt _ _
      rw [hst] at cS
      have HR : Aside (rs[i]? = some r ∧ L[i]? = some r ∧ TST w wr B gc gr n cap (BLW N) rs L i ∧ g + SUMP (L.take i) = SUMP (rs.take i) ∧ g ≤ 64 * i ∧ i + 1 + k = n ∧ BLW N r.num = st ∧ r.hs.length = POP r.live) := ⟨hr, hLi, hT, hsum, hg, by omega, hst, q3⟩
      have hg1 : g ≤ 64 * i := hg
      have hi40 : i < 2 ^ 40 := Nat.lt_trans hin H.out.2.2.2.2.1
      have hp := POP_le r.live
      by_cases hs : st &&& r.live = r.live
      · have cR := rowthin_same gr (i * 3) r.live st q2 hst64 hs wr x2
        have HS : Aside (st &&& r.live = r.live) := hs
        have hwg : wrap64 (g : Int) = (g : Int) := by unfold wrap64; omega
        clear hr hLi hT hsum hg hin q1 q2 q3 q4 q5 hst hst64 hs o1 hcap Z hgr x2 x3 hg1 hi40 hp
        go_wp2_with (first
          | (refine cS.mono ?_; rintro e w' ⟨rfl, rfl⟩)
          | (refine cR.mono ?_; rintro e w' ⟨rfl, rfl⟩)
          | fail)
        go_roundg k
        case measure => omega
        case rel =>
          obtain ⟨r1, r2, r3, r4, r5, r6, r7, r8⟩ := HR.out
          refine ⟨i + 1, g, r6, by first | rfl | (rw [hwg]), by first | rfl | (rw [hw1]), by omega, L, r3.skip r1 (by rw [r7]; exact HS.out) r8, ?_⟩
          rw [SUMP_take r1, SUMP_take r2]
          omega
      · obtain ⟨s, hse⟩ : ∃ s, st &&& r.live = s := ⟨_, rfl⟩
        have hsne : s ≠ r.live := by rw [← hse]; exact hs
        have hle : POP s ≤ POP r.live := POP_sub (fun k _ h => by rw [← hse] at h; exact stay_bits h)
        have hown := hT.own r (List.mem_of_getElem? hLi)
        have cR := rowthin_ok gr (i * 3) r.live st s r.gh r.hs.length r.ch r.hs q2 hst64 hse hsne q3 rfl wr x2 x3 (o1 _ (by omega)).2 (o1 _ (by omega)).2 (hown.lt r.gh rfl).2 (fun k x hx => own_at hown rfl hx)
        obtain ⟨d, hd⟩ : ∃ d, POP r.live - POP s = d := ⟨_, rfl⟩
        rw [hd] at cR
        have HS : Aside (st &&& r.live = s ∧ POP r.live - POP s = d ∧ POP s ≤ POP r.live ∧ POP r.live ≤ 64) := ⟨hse, hd, hle, hp⟩
        have hwg : wrap64 ((g : Int) + (d : Int)) = ((g + d : Nat) : Int) := by unfold wrap64; omega
        clear hr hLi hT hsum hg hin q1 q2 q3 q4 q5 hst hst64 hs o1 hcap Z hgr x2 x3 hg1 hi40 hp hse hsne hle hown hd
        go_wp2_with (first
          | (refine cS.mono ?_; rintro e w' ⟨rfl, rfl⟩)
          | fail)
        refine cR.mono ?_
        rintro e w2 ⟨rfl, g2, c2, w1, t1, t2, t3⟩
        have Z2 : Aside (∃ L', TST w w2 B gc gr n cap (BLW N) rs L' (i + 1) ∧ SUMP (L'.take (i + 1)) = SUMP (L.take i) + POP s) := by
          obtain ⟨r1, r2, r3, r4, r5, r6, r7, r8⟩ := HR.out
          have hil : i < L.length := (List.getElem?_eq_some_iff.1 r2).1
          refine ⟨_, by rw [t3]; exact r3.next r1 r2 (by rw [r7]; exact HS.out.1) r8 t1 t2, ?_⟩
          rw [SUMP_take (List.getElem?_set_self hil), List.take_set_of_le (Nat.le_refl _)]
        clear t1 t2 t3 cR cS
        go_wp2
        go_roundg k
        case measure => omega
        case rel =>
          obtain ⟨r1, r2, r3, r4, r5, r6, r7, r8⟩ := HR.out
          obtain ⟨L', u1, u2⟩ := Z2.out
          obtain ⟨v1, v2, v3, v4⟩ := HS.out
          refine ⟨i + 1, g + d, r6, by first | rfl | (rw [hwg]), by first | rfl | (rw [hw1]), by omega, L', u1, ?_⟩
          rw [SUMP_take r1, u2]
          omega
end Go.Proofs.Ytkmcmngdainofaa

/- A store of which one chunk is changed: what is left of it lived there ahead. -/
namespace Go.Proofs.Ytkmcmngdainofaa
open Go.RowKit Go.Maps
set_option maxRecDepth 100000

/-- a chunk that has lost some nodes. -/
def CHGS (w : World) (B g : Nat) (rs rs' : List ROW) (w' : World) : Prop :=
  CHUNK w' B g rs' ∧ (∀ r ∈ rs', ∀ j, j < 64 → r.live.testBit j = true → ∃ r0 ∈ rs, r0.num = r.num ∧ r0.live.testBit j = true) ∧
    (∀ r ∈ rs', (∃ r0 ∈ rs, r0.gh = r.gh) ∨ w.heap.size ≤ r.gh) ∧
    (∀ v v', w.cell? ⟨g, 0, none⟩ = some v → w'.cell? ⟨g, 0, none⟩ = some v' → v'.ownBlock = v.ownBlock ∨ ∃ b, v'.ownBlock = some b ∧ w.heap.size ≤ b) ∧
    w.heap.size ≤ w'.heap.size ∧
    ∀ b, b < w.heap.size → b ≠ g → (∀ v, w.cell? ⟨g, 0, none⟩ = some v → v.ownBlock ≠ some b) → (∀ r ∈ rs, r.gh ≠ b) → w'.heap[b]? = w.heap[b]?
theorem STORE.change {W W' : World} {B g log len alive N K gc : Nat} (al : Nat) {C : CHUNKS} {rs rs' : List ROW} (hS : STORE W B g log len alive N C) (hK : C K = some (gc, rs)) (hP : CHGS W B gc rs rs' W') :
    STORE (W'.setCell ⟨g, 2, none⟩ (.int .u64 (al : Int))) B g log len al N (WITH C K gc rs') ∧ (∀ b, FOOT (W'.setCell ⟨g, 2, none⟩ (.int .u64 (al : Int))) g (WITH C K gc rs') b → FOOT W g C b ∨ W.heap.size ≤ b) ∧ (∀ b, b < W.heap.size → b ≠ g → ¬ FOOT W g C b → (W'.setCell ⟨g, 2, none⟩ (.int .u64 (al : Int))).heap[b]? = W.heap[b]?) ∧
      (∀ i, i ≠ 2 → (W'.setCell ⟨g, 2, none⟩ (.int .u64 (al : Int))).cell? ⟨g, i, none⟩ = W.cell? ⟨g, i, none⟩) ∧ W.heap.size ≤ (W'.setCell ⟨g, 2, none⟩ (.int .u64 (al : Int))).heap.size := by
  obtain ⟨q1, q3, q4, q5, q6, q8⟩ := hP
  obtain ⟨cs, t, fr, k1, k2, k3, k4⟩ := hS.kind
  obtain ⟨a1, a2, a3⟩ := hS.chunk K gc rs hK
  obtain ⟨⟨_, y1⟩, y2, y3⟩ := a2.kinds
  have hgl := hS.lt
  -- the block of the store
  have hg : W'.heap[g]? = W.heap[g]? := q8 g hgl (other_kind k1 y1 k2) (fun v hv e => by obtain ⟨_, hc⟩ := y2 v g hv e; exact other_kind k1 hc k3 rfl) (fun r hr e => by obtain ⟨_, hc⟩ := y3 r hr; rw [e] at hc; exact other_kind k1 hc k4 rfl)
  have hcell : ∀ i, W'.cell? ⟨g, i, none⟩ = W.cell? ⟨g, i, none⟩ := fun i => World.cell?_of_block (w := W) (by exact hg)
  obtain ⟨w5, hw5⟩ : ∃ w5, W'.setCell ⟨g, 2, none⟩ (.int .u64 (al : Int)) = w5 := ⟨_, rfl⟩
  rw [hw5]
  have hset : ∀ b, b ≠ g → w5.heap[b]? = W'.heap[b]? := fun b hb => by rw [← hw5]; exact Below.heap_setCell _ _ _ b (by exact hb)
  have hc5 : ∀ i, i ≠ 2 → w5.cell? ⟨g, i, none⟩ = W.cell? ⟨g, i, none⟩ := fun i hi => by rw [← hw5, set_off (fun e => hi e.symm)]; exact hcell i
  have hs5 : w5.heap.size = W'.heap.size := by rw [← hw5]; simp
  obtain ⟨mv, m1, m2, m3⟩ := hS.map
  -- blocks of another kind keep
  have keep : ∀ b c t' fr', W.heap[b]? = some (.cells c t' fr') → b ≠ g → b ≠ gc → (∀ v, W.cell? ⟨gc, 0, none⟩ = some v → v.ownBlock ≠ some b) → (∀ r ∈ rs, r.gh ≠ b) → w5.heap[b]? = W.heap[b]? := fun b c t' fr' hb e1 e2 e3 e4 => (hset b e1).trans (q8 b (Array.getElem?_eq_some_iff.1 hb).1 e2 e3 e4)
  -- the other chunks
  have hother : ∀ k gc' rk, k ≠ K → C k = some (gc', rk) → w5.heap[gc']? = W.heap[gc']? ∧ (∀ v b, W.cell? ⟨gc', 0, none⟩ = some v → v.ownBlock = some b → w5.heap[b]? = W.heap[b]?) ∧ ∀ r ∈ rk, w5.heap[r.gh]? = W.heap[r.gh]? := fun k gc' rk hk e => by
    obtain ⟨b1, b2, b3⟩ := hS.chunk k gc' rk e
    obtain ⟨⟨_, z1⟩, z2, z3⟩ := b2.kinds
    obtain ⟨o1, o2, o3⟩ := hS.one k K gc' gc rk rs hk e hK
    refine ⟨keep gc' _ _ _ z1 (fun e => other_kind k1 z1 k2 e.symm) o1 (fun v hv e => by obtain ⟨_, hc⟩ := y2 v _ hv e; exact other_kind z1 hc (by decide) rfl) (fun r hr e => by obtain ⟨_, hc⟩ := y3 r hr; rw [e] at hc; exact other_kind z1 hc (by decide) rfl), fun v b hv hb => ?_, fun r hr => ?_⟩
    · obtain ⟨_, hcb⟩ := z2 v b hv hb
      refine keep b _ _ _ hcb (fun e => other_kind k1 hcb k3 e.symm) (other_kind hcb y1 (by decide)) (fun v' hv' e => ?_) (fun r hr e => by obtain ⟨_, hc⟩ := y3 r hr; rw [e] at hc; exact other_kind hcb hc (by decide) rfl)
      rcases o3 v v' hv hv' with h | h
      · rw [hb] at h; cases h
      · exact h (hb.trans e.symm)
    · obtain ⟨_, hcr⟩ := z3 r hr
      exact keep r.gh _ _ _ hcr (fun e => other_kind k1 hcr k4 e.symm) (other_kind hcr y1 (by decide)) (fun v hv e => by obtain ⟨_, hc⟩ := y2 v _ hv e; exact other_kind hcr hc (by decide) rfl) (fun r' hr' e => o2 r hr r' hr' e.symm)
  have hocell : ∀ k gc' rk, k ≠ K → C k = some (gc', rk) → ∀ i, w5.cell? ⟨gc', i, none⟩ = W.cell? ⟨gc', i, none⟩ := fun k gc' rk hk e i => World.cell?_of_block (w := W) (by exact (hother k gc' rk hk e).1)
  -- the chunk itself
  obtain ⟨⟨_, x1⟩, x2, x3⟩ := q1.kinds
  have k1' : W'.heap[g]? = some (.cells cs t fr) := hg.trans k1
  have hgcg : gc ≠ g := fun e => other_kind k1' x1 k2 e.symm
  have hgcell : w5.cell? ⟨gc, 0, none⟩ = W'.cell? ⟨gc, 0, none⟩ := World.cell?_of_block (w := W') (by exact hset gc hgcg)
  have q1' : CHUNK w5 B gc rs' := q1.at (hset gc hgcg) (fun v b hv hb => by obtain ⟨_, hc⟩ := x2 v b hv hb; exact hset b (fun e => other_kind k1' hc k3 e.symm)) (fun r hr => by obtain ⟨_, hc⟩ := x3 r hr; exact hset r.gh (fun e => other_kind k1' hc k4 e.symm))
  obtain ⟨v0, hv0, ho0⟩ := a2.box
  have hv0c : W.cell? ⟨gc, 0, none⟩ = some v0 := hv0.cell 0
  have hone : ∀ k' gc' rk, k' ≠ K → C k' = some (gc', rk) → gc ≠ gc' ∧ (∀ r ∈ rs', ∀ r' ∈ rk, r.gh ≠ r'.gh) ∧ ∀ v v', w5.cell? ⟨gc, 0, none⟩ = some v → w5.cell? ⟨gc', 0, none⟩ = some v' → v.ownBlock = none ∨ v.ownBlock ≠ v'.ownBlock := fun k' gc' rk hk e => by
    obtain ⟨o1, o2, o3⟩ := hS.one K k' gc gc' rs rk (fun h => hk h.symm) hK e
    obtain ⟨_, z2, z3⟩ := (hS.chunk k' gc' rk e).2.1.kinds
    refine ⟨o1, fun r hr r' hr' => ?_, fun v v' hv hv' => ?_⟩
    · rcases q4 r hr with ⟨r0, h1, h2⟩ | h1
      · rw [← h2]; exact o2 r0 h1 r' hr'
      · obtain ⟨_, hc⟩ := z3 r' hr'
        have := (Array.getElem?_eq_some_iff.1 hc).1
        omega
    · rw [hgcell] at hv
      rw [hocell k' gc' rk hk e 0] at hv'
      rcases q5 v0 v hv0c hv with h1 | ⟨b, h1, h2⟩
      · rw [h1]; exact o3 v0 v' hv0c hv'
      · refine .inr (fun h => ?_)
        rw [h1] at h
        obtain ⟨_, hc⟩ := z2 v' b hv' h.symm
        have := (Array.getElem?_eq_some_iff.1 hc).1
        omega
  refine ⟨⟨hS.small, hS.short, (hc5 0 (by decide)).trans hS.c0, (hc5 1 (by decide)).trans hS.c1, ?_, fun i hi => ?_, ?_, ?_, ?_, ?_⟩, ?_, ?_, hc5, by rw [hs5]; exact q6⟩
  · rw [← hw5]
    exact World.cell?_setCell_same _ _ _ (by rw [hcell 2]; exact hS.c2)
  · rw [← hw5, World.frozen?_setCell]
    have := hS.live i hi
    unfold World.frozen? at this ⊢
    rw [show W'.heap[g]? = W.heap[g]? from hg]
    exact this
  · obtain ⟨cs', h1⟩ := set_kind (i := 2) k1' (.int .u64 (al : Int))
    exact ⟨cs', t, fr, by rw [← hw5]; exact h1, k2, k3, k4⟩
  · refine ⟨mv, (hc5 3 (by decide)).trans m1, fun e k => ?_, fun b e => ?_⟩
    · have := m2 e K
      rw [hK] at this
      cases this
    · obtain ⟨c1, n, c2, c3⟩ := m3 b e
      refine ⟨c1, n, c2, ?_⟩
      have hM : (fun k => (WITH C K gc rs' k).map Prod.fst) = fun k => (C k).map Prod.fst := funext fun k => by
        by_cases e : k = K
        · subst e; rw [WITH_at, hK]; rfl
        · rw [WITH_ne e]
      rw [hM]
      refine c3.at ?_
      obtain ⟨D, ⟨es, clock, h1, _⟩, _⟩ := c3
      have hbc : ∀ {b' c t' fr'}, W.heap[b']? = some (.cells c t' fr') → b ≠ b' := fun h2 e => by rw [← e, h1] at h2; cases h2
      refine (hset b (hbc k1)).trans (q8 b (Array.getElem?_eq_some_iff.1 h1).1 (hbc y1) (fun v hv e => ?_) (fun r hr e => ?_))
      · obtain ⟨_, hc⟩ := y2 v b hv e
        exact hbc hc rfl
      · obtain ⟨_, hc⟩ := y3 r hr
        exact hbc hc e.symm
  · intro k gc' rk e
    by_cases ek : k = K
    · subst ek
      rw [WITH_at] at e
      cases e
      refine ⟨a1, q1', fun r hr j hj hb => ?_⟩
      obtain ⟨r0, h1, h2, h3⟩ := q3 r hr j hj hb
      rw [← h2]
      exact a3 r0 h1 j hj h3
    · rw [WITH_ne ek] at e
      obtain ⟨b1, b2, b3⟩ := hS.chunk k gc' rk e
      obtain ⟨d1, d2, d3⟩ := hother k gc' rk ek e
      exact ⟨b1, b2.at d1 d2 d3, b3⟩
  · intro k k' gk gk' rk rk' hne e e'
    by_cases ek : k = K
    · subst ek
      rw [WITH_at] at e
      cases e
      rw [WITH_ne (fun h => hne h.symm)] at e'
      exact hone k' gk' rk' (fun h => hne h.symm) e'
    · rw [WITH_ne ek] at e
      by_cases ek' : k' = K
      · subst ek'
        rw [WITH_at] at e'
        cases e'
        obtain ⟨o1, o2, o3⟩ := hone k gk rk ek e
        refine ⟨fun h => o1 h.symm, fun r hr r' hr' h => o2 r' hr' r hr h.symm, fun v v' hv hv' => ?_⟩
        rcases o3 v' v hv' hv with h | h
        · by_cases hn : v.ownBlock = none
          · exact .inl hn
          · exact .inr (fun e => hn (e.trans h))
        · exact .inr (fun e => h e.symm)
      · rw [WITH_ne ek'] at e'
        obtain ⟨o1, o2, o3⟩ := hS.one k k' gk gk' rk rk' hne e e'
        refine ⟨o1, o2, fun v v' hv hv' => o3 v v' ?_ ?_⟩
        · rw [← hocell k gk rk ek e 0]; exact hv
        · rw [← hocell k' gk' rk' ek' e' 0]; exact hv'
  · intro b hb
    rcases hb with h1 | ⟨k, gc', rk, e, h1⟩
    · left; left
      rw [← hc5 3 (by decide)]
      exact h1
    · by_cases ek : k = K
      · subst ek
        rw [WITH_at] at e
        cases e
        rcases h1 with h1 | ⟨v, hv, h1⟩ | ⟨r, hr, h1⟩
        · exact .inl (.inr ⟨_, _, _, hK, .inl h1⟩)
        · rw [hgcell] at hv
          rcases q5 v0 v hv0c hv with h2 | ⟨b', h2, h3⟩
          · exact .inl (.inr ⟨_, _, _, hK, .inr (.inl ⟨v0, hv0c, by rw [← h2]; exact h1⟩)⟩)
          · rw [h1] at h2
            cases h2
            exact .inr h3
        · rcases q4 r hr with ⟨r0, h2, h3⟩ | h2
          · exact .inl (.inr ⟨_, _, _, hK, .inr (.inr ⟨r0, h2, by rw [h3]; exact h1⟩)⟩)
          · rw [h1] at h2
            exact .inr h2
      · rw [WITH_ne ek] at e
        rcases h1 with h1 | ⟨v, hv, h1⟩ | h1
        · exact .inl (.inr ⟨_, _, _, e, .inl h1⟩)
        · rw [hocell k gc' rk ek e 0] at hv
          exact .inl (.inr ⟨_, _, _, e, .inr (.inl ⟨v, hv, h1⟩)⟩)
        · exact .inl (.inr ⟨_, _, _, e, .inr (.inr h1)⟩)
  · intro b hb hbg hf
    exact (hset b hbg).trans (q8 b hb (fun e => hf (.inr ⟨_, _, _, hK, .inl e⟩)) (fun v hv e => hf (.inr ⟨_, _, _, hK, .inr (.inl ⟨v, hv, e⟩)⟩)) (fun r hr e => hf (.inr ⟨_, _, _, hK, .inr (.inr ⟨r, hr, e⟩)⟩)))
end Go.Proofs.Ytkmcmngdainofaa

/- A store of which one chunk was thinned. -/
namespace Go.Proofs.Ytkmcmngdainofaa
open Go.RowKit Go.Maps
set_option maxRecDepth 100000

theorem CTHIN.changes {w w' : World} {B gc gr gone n cap : Nat} {st : Nat → Nat} {rs : List ROW} (hC : CHUNK w B gc rs) (hbx : Has w gc #[.slice (some ⟨gr, 0, none⟩) n cap] 70) (h : CTHIN w B gc gr st rs gone w') : ∃ rs', CHGS w B gc rs rs' w' ∧ (∀ p, LOOK rs' p = if (st (p / 64)).testBit (p % 64) = true then LOOK rs p else none) ∧ gone + SUMP rs' = SUMP rs := by
  obtain ⟨L, h1, h2, h3, h4, h5, ⟨cap', h6⟩, h7, h8, -⟩ := h
  refine ⟨LVS L, ⟨h1, fun q hq j hj hb => ?_, h5, fun v v' hv hv' => ?_, h7, fun b hb n1 n2 _ => h8 b hb n1 (fun e => n2 _ (hbx.cell 0) (by rw [e]; rfl))⟩, LOOK_thin hC.rise h2 h3, h4⟩
  · obtain ⟨k, hk⟩ := List.getElem?_of_mem (List.mem_filter.1 hq).1
    have hkl : k < rs.length := by have := (List.getElem?_eq_some_iff.1 hk).1; omega
    obtain ⟨r', a1, a2⟩ := h3 k rs[k] (List.getElem?_eq_getElem hkl)
    rw [hk] at a1
    cases a1
    refine ⟨rs[k], List.getElem_mem _, a2.num.symm, ?_⟩
    rw [a2.live] at hb
    exact stay_bits hb
  · rw [hbx.cell 0] at hv
    rw [h6] at hv'
    cases Option.some.inj hv
    cases Option.some.inj hv'
    exact .inl rfl
/-- the places that stay, by their rows' bits. -/
theorem BLW_place (n p : Nat) : (BLW n (p / 64)).testBit (p % 64) = decide (p < n) := by
  rw [BLW_bit (Nat.mod_lt _ (by decide))]
  congr 1
  rw [show p / 64 * 64 + p % 64 = p by omega]
/-- one chunk is cut at n. -/
theorem STORE.thinned {W W' : World} {B g log len alive N K gc gr gone n cap m : Nat} (al : Nat) {C : CHUNKS} {rs : List ROW} (hS : STORE W B g log len alive N C) (hK : C K = some (gc, rs)) (hbx : Has W gc #[.slice (some ⟨gr, 0, none⟩) m cap] 70) (h : CTHIN W B gc gr (BLW n) rs gone W') :
    ∃ rs', STORE (W'.setCell ⟨g, 2, none⟩ (.int .u64 (al : Int))) B g log len al N (WITH C K gc rs') ∧ (∀ p, AT (WITH C K gc rs') log p = if p / 2 ^ log = K ∧ n ≤ p then none else AT C log p) ∧ gone + SUMP rs' = SUMP rs ∧ STEP0 W (W'.setCell ⟨g, 2, none⟩ (.int .u64 (al : Int))) g C (WITH C K gc rs') := by
  obtain ⟨rs', c1, c2, c3⟩ := h.changes (hS.chunk K gc rs hK).2.1 hbx
  obtain ⟨d1, d2, d3, d4, d5⟩ := hS.change al hK c1
  refine ⟨rs', d1, fun p => ?_, c3, ⟨d2, d3, d5, fun i hi => d4 i (by omega)⟩⟩
  unfold AT
  by_cases e : p / 2 ^ log = K
  · rw [e, WITH_at, hK]
    show LOOK rs' p = if K = K ∧ n ≤ p then none else LOOK rs p
    rw [c2, BLW_place]
    by_cases hp : p < n
    · rw [if_pos (by simp [hp]), if_neg (by omega)]
    · rw [if_neg (by simp [hp]), if_pos ⟨rfl, by omega⟩]
  · rw [WITH_ne e, if_neg (fun x => e x.1)]
end Go.Proofs.Ytkmcmngdainofaa
