/- chunk.take, as called. -/
import Derived.Test.YtkmcmngdainofaaStoreTakePlain
namespace Go.Proofs.Ytkmcmngdainofaa
open Go.RowKit Go.Maps
set_option maxRecDepth 100000

theorem some_bit {X : Nat} (h : X ≠ 0) : ∃ j, X.testBit j = true := by
  by_cases e : ∃ j, X.testBit j = true
  · exact e
  · exfalso
    apply h
    apply Nat.eq_of_testBit_eq
    intro j
    rw [Nat.zero_testBit]
    cases hb : X.testBit j
    · rfl
    · exact absurd ⟨j, hb⟩ e
theorem CHUNK.fewer {w w' : World} {B g i k n1 : Nat} {rs rs' : List ROW} {r : ROW} {v : Value} (hC : CHUNK w B g rs) (hr : rs[i]? = some r) (hk : k < 64) (hb : r.live.testBit k = true) (h : FEWER rs rs' i ⟨r.num, CLR r.live k, r.gh, r.ch, r.hs.eraseIdx (RK r.live k)⟩)
    (b1 : Has w' g #[v] 70) (b2 : w'.ownsRow B 73 3 v rs'.length (RC rs')) (hn1 : (r.hs.eraseIdx (RK r.live k)).length = n1)
    (b3 : w'.ownsRow B 33 32 (.slice (some ⟨r.gh, 0, none⟩) n1 r.ch) n1 (HL (r.hs.eraseIdx (RK r.live k)))) (b4 : ∀ j s, j ≠ i → rs[j]? = some s → w'.heap[s.gh]? = w.heap[s.gh]?) : CHUNK w' B g rs' := by
  have hrm := List.mem_of_getElem? hr
  obtain ⟨r1, r2, r3, r4, r5⟩ := hC.row r hrm
  have hF := h
  obtain ⟨φ, m, f1, f2, f3, f4⟩ := h
  refine ⟨⟨v, b1, b2⟩, hC.far, Nat.lt_of_le_of_lt f4 hC.few, hF.rise hr rfl hC.rise, fun s hs => ?_, fun a b x y hab hx hy => ?_, fun s hs => ?_⟩
  · rcases hF.back hs with ⟨j, hj, hjs⟩ | ⟨rfl, _⟩
    · obtain ⟨c1, c2, c3, c4, c5⟩ := hC.row s (List.mem_of_getElem? hjs)
      exact ⟨c1, c2, c3, c4, own_same c5 fun b hb => by cases hb; exact b4 j s hj hjs⟩
    · refine ⟨r1, CLR_lt r2, ?_, fun x hx => r4 x (List.mem_of_mem_eraseIdx hx), ?_⟩
      · show (r.hs.eraseIdx (RK r.live k)).length = POP (CLR r.live k)
        have h1 := POP_CLR r2 hk hb
        have h2 := RK_lt hk hb
        rw [List.length_eraseIdx, if_pos (by omega)]
        omega
      · show w'.ownsRow B 33 32 (.slice (some ⟨r.gh, 0, none⟩) (r.hs.eraseIdx (RK r.live k)).length r.ch) (r.hs.eraseIdx (RK r.live k)).length (HL (r.hs.eraseIdx (RK r.live k)))
        rw [hn1]
        exact b3
  · have key : ∀ j s, rs'[j]? = some s → ∃ s0, rs[φ j]? = some s0 ∧ s0.gh = s.gh := fun j s hs => by
      rcases f1 j s hs with ⟨_, h1⟩ | ⟨h1, h2, _⟩
      · exact ⟨s, h1, rfl⟩
      · exact ⟨r, by rw [h1]; exact hr, by rw [h2]⟩
    obtain ⟨x0, hx0, ex⟩ := key a x hx
    obtain ⟨y0, hy0, ey⟩ := key b y hy
    rw [← ex, ← ey]
    refine hC.apart _ _ _ _ (fun e => ?_) hx0 hy0
    rcases Nat.lt_or_gt_of_ne hab with h1 | h1
    · have := m _ _ h1; omega
    · have := m _ _ h1; omega
  · rcases hF.back hs with ⟨j, hj, hjs⟩ | ⟨rfl, h0⟩
    · exact hC.lives s (List.mem_of_getElem? hjs)
    · obtain ⟨j, hj⟩ := some_bit h0
      refine ⟨j, ?_, hj⟩
      rcases Nat.lt_or_ge j 64 with h1 | h1
      · exact h1
      · have := Nat.testBit_lt_two_pow (x := CLR r.live k) (i := j) (Nat.lt_of_lt_of_le (CLR_lt r2) (Nat.pow_le_pow_right (by decide) h1))
        rw [this] at hj
        cases hj
/-- what taking leaves. -/
def TAKES (w : World) (B g p : Nat) (rs : List ROW) (w' : World) : Prop :=
  ∃ rs', CHUNK w' B g rs' ∧ (∀ p', LOOK rs' p' = if p' = p then none else LOOK rs p') ∧
    (∀ r ∈ rs', ∃ r0 ∈ rs, r0.num = r.num ∧ r0.gh = r.gh ∧ ∀ j, j < 64 → r.live.testBit j = true → r0.live.testBit j = true) ∧
    (∀ v v', w.cell? ⟨g, 0, none⟩ = some v → w'.cell? ⟨g, 0, none⟩ = some v' → v'.ownBlock = v.ownBlock) ∧
    w.heap.size ≤ w'.heap.size ∧ Below B w w' ∧
    ∀ b, b < w.heap.size → b ≠ g → (∀ v, w.cell? ⟨g, 0, none⟩ = some v → v.ownBlock ≠ some b) → (∀ r ∈ rs, r.gh ≠ b) → w'.heap[b]? = w.heap[b]?
theorem LOOK_some {rs : List ROW} {p : Nat} {h : Nat → Nat} (hL : LOOK rs p = some h) : ∃ (i : Nat) (r : ROW), rs[i]? = some r ∧ r.num = p / 64 ∧ r.live.testBit (p % 64) = true := by
  unfold LOOK at hL
  cases hf : rs.find? fun r => r.num == p / 64 with
  | none => rw [hf] at hL; cases hL
  | some r =>
    rw [hf] at hL
    obtain ⟨i, hi⟩ := List.getElem?_of_mem (List.mem_of_find?_eq_some hf)
    refine ⟨i, r, hi, by simpa using List.find?_some hf, ?_⟩
    cases hb : r.live.testBit (p % 64) with
    | true => rfl
    | false => simp [hb] at hL
theorem chunktake_ok (B g p : Nat) (rs : List ROW) (h : Nat → Nat) (hp : p < 2 ^ 64) (w : World) (hC : CHUNK w B g rs) (hL : LOOK rs p = some h) : Calls Try.prog 41 #[.pointer (some ⟨g, 0, none⟩), .int .u64 (p : Int)] w fun e w' => (∃ v, e = .returned v) ∧ TAKES w B g p rs w' := by
  obtain ⟨i, r, hr, hn, hb⟩ := LOOK_some hL
  obtain ⟨k, hk⟩ : ∃ k, p % 64 = k := ⟨_, rfl⟩
  rw [hk] at hb
  have hk64 : k < 64 := by rw [← hk]; exact Nat.mod_lt _ (by decide)
  obtain ⟨a, cap, hbx, hlie, hfrm, ho⟩ := hC.lies
  have hil := (List.getElem?_eq_some_iff.1 hr).1
  obtain ⟨gr, rfl, hBr, hgr⟩ := hfrm (by omega)
  have hrm := List.mem_of_getElem? hr
  obtain ⟨r1, r2, r3, r4, r5⟩ := hC.row r hrm
  have hrk := RK_lt hk64 hb
  rw [← r3] at hrk
  have h64 : r.hs.length ≤ 1000 := by rw [r3, POP_RK]; have := RK_le r.live 64; omega
  have hcell := hbx.cell 0
  have hgh := (r5.lt r.gh rfl).2
  have hg_gr : g ≠ gr := fun e => by
    obtain ⟨c, hc, _⟩ := own_block ho (b := gr) rfl
    rw [← e, show w.heap[g]? = _ from hbx] at hc
    cases hc
  have hg_gh : g ≠ r.gh := fun e => by
    obtain ⟨c, hc, _⟩ := own_block r5 (b := r.gh) rfl
    rw [← e, show w.heap[g]? = _ from hbx] at hc
    cases hc
  have hgh_gr : r.gh ≠ gr := fun e => rows_apart ho r5 (by rw [← e]; rfl)
  refine (take_raw B g gr i rs.length cap p k r.live (CLR r.live k) r.hs.length (r.hs.length - 1) (RK r.live k) (RK r.live k + 1) r.gh r.ch (RC rs) (HL r.hs) w hbx ho hil (RC_get rs i 1 r hr (by decide)) (RC_get rs i 2 r hr (by decide)) r5 rfl rfl rfl hrk h64 r2 hk hp hC.far (CLR_val r2 hk64) HL_one RC_one ⟨hgh_gr, hg_gr, hg_gh⟩ (chunkfind_there hC hr hn w (Below.refl _ _))).mono ?_
  rintro e w' ⟨he, hcase, t2, t3, t4, t5⟩
  refine ⟨he, ?_⟩
  obtain ⟨r', hr'⟩ : ∃ r' : ROW, r' = ⟨r.num, CLR r.live k, r.gh, r.ch, r.hs.eraseIdx (RK r.live k)⟩ := ⟨_, rfl⟩
  have hlen : (r.hs.eraseIdx (RK r.live k)).length = r.hs.length - 1 := by rw [List.length_eraseIdx, if_pos hrk]
  have hxs : ((RC rs).set (i * 3 + 2) (.slice (some ⟨r.gh, 0, none⟩) (r.hs.length - 1) r.ch)).set (i * 3 + 1) (.int .u64 ((CLR r.live k : Nat) : Int)) = RC (rs.set i r') := by
    rw [RC_set rs i r r' hr (by rw [hr']), hr']
    show _ = ((RC rs).set (i * 3 + 2) (.slice (some ⟨r.gh, 0, none⟩) (r.hs.eraseIdx (RK r.live k)).length r.ch)).set (i * 3 + 1) (.int .u64 ((CLR r.live k : Nat) : Int))
    rw [hlen]
  rw [hxs] at hcase
  rw [HL_cut] at t2
  have hfr : ∀ j s, j ≠ i → rs[j]? = some s → w'.heap[s.gh]? = w.heap[s.gh]? := fun j s hj hjs => by
    have h5 := (hC.row s (List.mem_of_getElem? hjs)).2.2.2.2
    refine t5 s.gh (h5.lt s.gh rfl).2 (fun e => ?_) (fun e => rows_apart ho h5 (by rw [← e]; rfl)) (hC.apart j i s r hj hjs hr)
    obtain ⟨c, hc, _⟩ := own_block h5 (b := s.gh) rfl
    rw [e, show w.heap[g]? = _ from hbx] at hc
    cases hc
  have main : ∃ rs' n, FEWER rs rs' i r' ∧ Has w' g #[.slice (some ⟨gr, 0, none⟩) n cap] 70 ∧ n = rs'.length ∧ w'.ownsRow B 73 3 (.slice (some ⟨gr, 0, none⟩) n cap) n (RC rs') := by
    rcases hcase with ⟨h0, c1, c2⟩ | ⟨h0, c1, c2⟩
    · exact ⟨rs.set i r', _, fewer_set hil (by rw [hr']; exact h0), c1, by simp, c2⟩
    · rw [RC_cut, List.eraseIdx_set_eq] at c2
      exact ⟨rs.eraseIdx i, _, fewer_erase hil (by rw [hr']; exact h0), c1, by rw [List.length_eraseIdx, if_pos hil], c2⟩
  obtain ⟨rs', n, hF, c1, hnn, c2⟩ := main
  subst hnn
  have hF' := hF
  rw [hr'] at hF'
  refine ⟨rs', hC.fewer hr hk64 hb hF' c1 c2 hlen t2 hfr, LOOK_fewer hr hn hk r2 hb hC.rise hF', fun s hs => ?_, fun v v' e1 e2 => ?_, t3, t4, fun b h1 h2 h3 h4 => t5 b h1 h2 (fun e => h3 _ hcell (by rw [e]; rfl)) (fun e => h4 r hrm e.symm)⟩
  · rcases hF'.back hs with ⟨j, _, hjs⟩ | ⟨rfl, _⟩
    · exact ⟨s, List.mem_of_getElem? hjs, rfl, rfl, fun _ _ h => h⟩
    · refine ⟨r, hrm, rfl, rfl, fun j _ hj => ?_⟩
      have hj' : (CLR r.live k).testBit j = true := hj
      rw [CLR_bit r2 hk64] at hj'
      cases hx : r.live.testBit j
      · rw [hx] at hj'; cases hj'
      · rfl
  · rw [hcell] at e1
    rw [c1.cell 0] at e2
    have e1 := Option.some.inj e1
    have e2 := Option.some.inj e2
    rw [← e1, ← e2]
    rfl
end Go.Proofs.Ytkmcmngdainofaa
