/- The state of a chunk while its rows are thinned. -/
import Derived.Test.YtkmcmngdainofaaStoreThinRows
namespace Go.Proofs.Ytkmcmngdainofaa
open Go.RowKit Go.Maps
set_option maxRecDepth 100000

/-- the closure of Cut: the bits below n. -/
theorem cutstay_ok (n row bn : Nat) (hn : n < 2 ^ 64) (w : World) (h : w.cell? ⟨bn, 0, none⟩ = some (.int .u64 (n : Int))) : Calls Try.prog 24 #[.int .u64 (row : Int), .pointer (some ⟨bn, 0, none⟩)] w fun e w' => e = .returned (.int .u64 (BLW n row : Int)) ∧ w = w' := by
  have c := below_ok n row hn w
  generalize BLW n row = b at *
  go_enter Try.func24, Try.ntmps24
  go_wp2_with fail
  refine c.mono ?_
  rintro e w' ⟨rfl, rfl⟩
  go_wp2
  go_ret
  exact ⟨rfl, rfl⟩
/-- the first i rows are thinned. -/
structure TST (w wx : World) (B gc gr n cap : Nat) (st : Nat → Nat) (rs L : List ROW) (i : Nat) : Prop where
  len : L.length = n
  box : Has wx gc #[.slice (some ⟨gr, 0, none⟩) n cap] 70
  rows : wx.ownsRow B 73 3 (.slice (some ⟨gr, 0, none⟩) n cap) n (RC L)
  done : ∀ (k : Nat) (r : ROW), rs[k]? = some r → ∃ r', L[k]? = some r' ∧ (k < i → THR st r r') ∧ (i ≤ k → r' = r)
  own : ∀ r ∈ L, wx.ownsRow B 33 32 r.v r.hs.length (HL r.hs)
  one : ∀ (a b : Nat) (r s : ROW), a ≠ b → L[a]? = some r → L[b]? = some s → r.gh ≠ s.gh
  old : ∀ r ∈ L, (∃ r0 ∈ rs, r0.gh = r.gh) ∨ w.heap.size ≤ r.gh
  same : ∀ b, b < w.heap.size → b ≠ gr → wx.heap[b]? = w.heap[b]?
  size : w.heap.size ≤ wx.heap.size
  base : B ≤ w.heap.size
  oto : OTO w wx
theorem TST.start {w : World} {B gc gr cap : Nat} {st : Nat → Nat} {rs : List ROW} (hC : CHUNK w B gc rs) (hb : Has w gc #[.slice (some ⟨gr, 0, none⟩) rs.length cap] 70) (hB : B ≤ w.heap.size) : TST w w B gc gr rs.length cap st rs rs 0 := by
  obtain ⟨v, h1, h2⟩ := hC.box
  have e : v = .slice (some ⟨gr, 0, none⟩) rs.length cap := by
    have := (h1.cell 0).symm.trans (hb.cell 0)
    exact Option.some.inj this
  subst e
  exact ⟨rfl, hb, h2, fun k r hr => ⟨r, hr, fun h => by omega, fun _ => rfl⟩, fun r hr => (hC.row r hr).2.2.2.2, hC.apart, fun r hr => .inl ⟨r, hr, rfl⟩, fun _ _ _ => rfl, Nat.le_refl _, hB, OTO.refl _⟩
theorem TST.below {w wx w' : World} {B gc gr n cap i : Nat} {st : Nat → Nat} {rs L : List ROW} (h : TST w wx B gc gr n cap st rs L i) (hb : Below wx.heap.size wx w') : TST w w' B gc gr n cap st rs L i :=
  ⟨h.len, h.box.keep hb, own_keep h.rows hb, h.done, fun r hr => own_keep (h.own r hr) hb, h.one, h.old, fun b hl hg => (hb.block b (Nat.lt_of_lt_of_le hl h.size)).trans (h.same b hl hg), Nat.le_trans h.size hb.size, h.base, h.oto.trans (OTO.of_below hb)⟩
theorem TST.skip {w wx : World} {B gc gr n cap i : Nat} {st : Nat → Nat} {rs L : List ROW} {r : ROW} (h : TST w wx B gc gr n cap st rs L i) (hr : rs[i]? = some r) (hs : st r.num &&& r.live = r.live) (hl : r.hs.length = POP r.live) : TST w wx B gc gr n cap st rs L (i + 1) := by
  refine ⟨h.len, h.box, h.rows, fun k q hq => ?_, h.own, h.one, h.old, h.same, h.size, h.base, h.oto⟩
  obtain ⟨q', h1, h2, h3⟩ := h.done k q hq
  refine ⟨q', h1, fun hk => ?_, fun hk => h3 (by omega)⟩
  by_cases e : k = i
  · subst e
    rw [hr] at hq
    cases hq
    rw [h3 (Nat.le_refl _)]
    exact THR.same hs hl
  · exact h2 (by omega)
theorem TST.next {w wx w1 : World} {B gc gr n cap i g2 c2 s : Nat} {st : Nat → Nat} {rs L : List ROW} {r : ROW} (h : TST w wx B gc gr n cap st rs L i) (hr : rs[i]? = some r) (hLi : L[i]? = some r) (hs : st r.num &&& r.live = s) (hl : r.hs.length = POP r.live) (hb : Below wx.heap.size wx w1)
    (ho : w1.ownsRow wx.heap.size 33 32 (.slice (some ⟨g2, 0, none⟩) (POP s) c2) (POP s) (HL (KPT r.live r.hs (PLACES s)))) :
    TST w ((w1.setCell ⟨gr, i * 3 + 2, none⟩ (.slice (some ⟨g2, 0, none⟩) (POP s) c2)).setCell ⟨gr, i * 3 + 1, none⟩ (.int .u64 (s : Int))) B gc gr n cap st rs (L.set i ⟨r.num, s, g2, c2, KPT r.live r.hs (PLACES s)⟩) (i + 1) := by
  have hB := h.below hb
  have hil : i < L.length := (List.getElem?_eq_some_iff.1 hLi).1
  obtain ⟨r', er'⟩ : ∃ r' : ROW, r' = ⟨r.num, s, g2, c2, KPT r.live r.hs (PLACES s)⟩ := ⟨_, rfl⟩
  have hv : r'.v = .slice (some ⟨g2, 0, none⟩) (POP s) c2 := by rw [er']; show Value.slice _ (KPT r.live r.hs (PLACES s)).length c2 = _; rw [KPT_length]
  have hlv : r'.live = s := by rw [er']
  have hgh : r'.gh = g2 := by rw [er']
  have hrn : r'.num = r.num := by rw [er']
  have hrl : r'.hs = KPT r.live r.hs (PLACES s) := by rw [er']
  have hT : THR st r r' := by rw [er']; exact THR.kept hs hl
  rw [← er']
  have hrows := own_thin hB.rows hB.len hLi r' hrn
  rw [hv, hlv] at hrows
  obtain ⟨w2, hw2⟩ : ∃ w2, (w1.setCell ⟨gr, i * 3 + 2, none⟩ (.slice (some ⟨g2, 0, none⟩) (POP s) c2)).setCell ⟨gr, i * 3 + 1, none⟩ (.int .u64 (s : Int)) = w2 := ⟨_, rfl⟩
  rw [hw2] at hrows ⊢
  have hset : ∀ b, b ≠ gr → w2.heap[b]? = w1.heap[b]? := fun b hne => by
    rw [← hw2]
    exact (Below.heap_setCell _ _ _ b (by exact hne)).trans (Below.heap_setCell _ _ _ b (by exact hne))
  have hsz : w2.heap.size = w1.heap.size := by rw [← hw2]; simp
  have hg2 := ho.lt g2 rfl
  have hgr := (h.rows.lt gr rfl)
  have hgrk : ∃ c, w1.heap[gr]? = some (.cells c 73 (0, 0)) := by
    obtain ⟨c1, e1, _⟩ := own_block hB.rows (b := gr) rfl
    exact ⟨c1, e1⟩
  obtain ⟨cg, hcg⟩ := hgrk
  have hold : ∀ q ∈ L, q.gh ≠ gr := fun q hq e => by
    obtain ⟨c1, e1, _⟩ := own_block (hB.own q hq) (b := q.gh) rfl
    rw [e, hcg] at e1
    cases e1
  have hlt : ∀ q ∈ L, q.gh < wx.heap.size := fun q hq => ((h.own q hq).lt q.gh rfl).2
  have hgcne : gc ≠ gr := fun e => by
    have := hB.box
    unfold Has at this
    rw [e, hcg] at this
    cases this
  have hmem : ∀ q, q ∈ L.set i r' → q = r' ∨ q ∈ L := fun q hq => (List.mem_or_eq_of_mem_set hq).symm
  refine ⟨by rw [List.length_set]; exact h.len, ?_, hrows, fun k q hq => ?_, fun q hq => ?_, fun a b q q' hab hq hq' => ?_, fun q hq => ?_, fun b hl' hne => (hset b hne).trans (hB.same b hl' hne), by rw [hsz]; exact hB.size, h.base, by rw [← hw2]; exact (hB.oto.trans (OTO.cell _ _ _)).trans (OTO.cell _ _ _)⟩
  · show w2.heap[gc]? = _
    rw [hset gc hgcne]
    exact hB.box
  · by_cases e : k = i
    · subst e
      rw [hr] at hq
      cases hq
      exact ⟨r', List.getElem?_set_self hil, fun _ => hT, fun hk => by omega⟩
    · obtain ⟨q', h1, h2, h3⟩ := h.done k q hq
      exact ⟨q', by rw [List.getElem?_set_ne (fun e' => e e'.symm)]; exact h1, fun hk => h2 (by omega), fun hk => h3 (by omega)⟩
  · rcases hmem q hq with rfl | hq
    · refine own_same (w := w1) ?_ (fun b hb' => hset b (fun e => ?_))
      · rw [hv, hrl, KPT_length]
        exact ⟨ho.1, ho.2.imp id fun ⟨g, c, cur, a, b, rest⟩ => ⟨g, c, cur, a, Nat.le_trans h.base (Nat.le_trans h.size b), rest⟩⟩
      · rw [hv] at hb'
        have : b = g2 := by cases hb'; rfl
        omega
    · exact own_same (hB.own q hq) (fun b hb' => hset b (fun e => hold q hq (by cases hb'; exact e)))
  · by_cases ea : a = i
    · subst ea
      rw [List.getElem?_set_self hil] at hq
      cases hq
      rw [List.getElem?_set_ne hab] at hq'
      rw [hgh]
      have := hlt q' (List.mem_of_getElem? hq')
      omega
    · rw [List.getElem?_set_ne (fun e => ea e.symm)] at hq
      by_cases eb : b = i
      · subst eb
        rw [List.getElem?_set_self hil] at hq'
        cases hq'
        rw [hgh]
        have := hlt q (List.mem_of_getElem? hq)
        omega
      · rw [List.getElem?_set_ne (fun e => eb e.symm)] at hq'
        exact h.one a b q q' hab hq hq'
  · rcases hmem q hq with rfl | hq
    · right
      rw [hgh]
      have := h.size
      omega
    · exact h.old q hq
end Go.Proofs.Ytkmcmngdainofaa
