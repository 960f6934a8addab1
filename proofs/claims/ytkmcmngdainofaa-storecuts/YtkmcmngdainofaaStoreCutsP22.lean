/- Texts of StoreCuts, one behind the other: StoreSthin. -/
import Derived.Test.YtkmcmngdainofaaStoreCutsP20
import Derived.Test.YtkmcmngdainofaaStoreCutsP21
/- Store.thin under the closure of Cut. -/
namespace Go.Proofs.Ytkmcmngdainofaa
open Go.RowKit Go.Maps
set_option maxRecDepth 100000

/-- what Store.thin leaves. -/
def STHIN (w : World) (B g log len alive N K n : Nat) (C : CHUNKS) (rs : List ROW) (w' : World) : Prop := ∃ C' gone rs', STORE w' B g log len (alive - gone) N C' ∧ (∀ p, AT C' log p = if p / 2 ^ log = K ∧ n ≤ p then none else AT C log p) ∧ STEP w w' g C C' ∧ gone + SUMP rs' = SUMP rs ∧ ((rs' = [] ∧ C' K = none) ∨ (rs' ≠ [] ∧ ∃ gc, C' K = some (gc, rs'))) ∧ (∀ k, k ≠ K → C' k = C k) ∧ OTO w w'
theorem STORE.thin_self {W W' : World} {B g log len alive N K gc gr gone m cap : Nat} {st : Nat → Nat} {C : CHUNKS} {rs : List ROW} (hS : STORE W B g log len alive N C) (hK : C K = some (gc, rs)) (hbx : Has W gc #[.slice (some ⟨gr, 0, none⟩) m cap] 70) (h : CTHIN W B gc gr st rs gone W') : W'.heap[g]? = W.heap[g]? := by
  obtain ⟨rs', ⟨q1, q3, q4, q5, q6, q8⟩, _⟩ := h.changes (hS.chunk K gc rs hK).2.1 hbx
  obtain ⟨cs, t, fr, k1, k2, k3, k4⟩ := hS.kind
  obtain ⟨⟨_, y1⟩, y2, y3⟩ := (hS.chunk K gc rs hK).2.1.kinds
  exact q8 g hS.lt (other_kind k1 y1 k2) (fun v hv e => by obtain ⟨_, hc⟩ := y2 v g hv e; exact other_kind k1 hc k3 rfl) (fun r hr e => by obtain ⟨_, hc⟩ := y3 r hr; rw [e] at hc; exact other_kind k1 hc k4 rfl)
set_option maxHeartbeats 4000000 in
theorem sthin_ok {w : World} {B g log len alive N : Nat} {C : CHUNKS} (hS : STORE w B g log len alive N C) (K gc gr cap bn n : Nat) (rs : List ROW) (hK : C K = some (gc, rs)) (hbx : Has w gc #[.slice (some ⟨gr, 0, none⟩) rs.length cap] 70) (hal : SUMP rs ≤ alive) (hsm : alive < 2 ^ 40) (hn : n < 2 ^ 64) (hBw : B ≤ w.heap.size) (hbn : w.cell? ⟨bn, 0, none⟩ = some (.int .u64 (n : Int))) (hne : bn ≠ gr) : Calls Try.prog 19 #[.pointer (some ⟨g, 0, none⟩), KEY K, .func (.func 24) #[] #[.pointer (some ⟨bn, 0, none⟩)]] w fun e w' =>
    (∃ v, e = .returned v) ∧ STHIN w B g log len alive N K n C rs w' := by
  obtain ⟨mv, m1, m2, m3⟩ := hS.map
  obtain ⟨b, rfl⟩ : ∃ b, mv = some b := by
    cases mv with
    | none => rw [m2 rfl K] at hK; cases hK
    | some b => exact ⟨b, rfl⟩
  have hg := hS.lt
  have hz := zeroKey
  have H : Aside (STORE w B g log len alive N C ∧ C K = some (gc, rs) ∧ Has w gc #[.slice (some ⟨gr, 0, none⟩) rs.length cap] 70 ∧ SUMP rs ≤ alive ∧ alive < 2 ^ 40 ∧ n < 2 ^ 64 ∧ B ≤ w.heap.size ∧ w.cell? ⟨bn, 0, none⟩ = some (.int .u64 (n : Int)) ∧ bn ≠ gr ∧ g < w.heap.size ∧ w.cell? ⟨g, 3, none⟩ = some (.map (some b))) := ⟨hS, hK, hbx, hal, hsm, hn, hBw, hbn, hne, hg, m1⟩
  clear hS hK hbx hal hsm hn hBw hbn hne m1 m2 m3
  go_enter Try.func19, Try.ntmps19
  obtain ⟨a1, a2, a3, a4, a5, a6, a7, a8, a9, a10, a11⟩ := H.out
  have hb2 : Below w.heap.size w (w.alloc (.cells #[.int .u64 (K : Int)] 51)) := (Below.refl _ _).alloc (Nat.le_refl _) _
  have hK64 : K < 2 ^ 64 := (a1.chunk K gc rs a2).1
  have h3 : (w.alloc (.cells #[.int .u64 (K : Int)] 51)).cell? ⟨g, 3, none⟩ = some (.map (some b)) := (hb2.cell (by exact a10)).trans a11
  have hS2 := a1.below hb2.drew
  have hlook : (Instr.lookup 44 (.map (some b)) (KEY K) false).run Try.prog (w.alloc (.cells #[.int .u64 (K : Int)] 51)).drew = .ok (.pointer (some ⟨gc, 0, none⟩)) (w.alloc (.cells #[.int .u64 (K : Int)] 51)).drew := by
    obtain ⟨mv, m1, m2, m3⟩ := hS2.map
    have h3' : (w.alloc (.cells #[.int .u64 (K : Int)] 51)).drew.cell? ⟨g, 3, none⟩ = some (.map (some b)) := h3
    rw [h3'] at m1
    have hmv : mv = some b := by cases Option.some.inj m1; rfl
    obtain ⟨_, n, _, hcm⟩ := m3 b hmv
    exact hcm.get hK64 (by rw [a2]; rfl)
  have h42 : Has (w.alloc (.cells #[.int .u64 (K : Int)] 51)).drew w.heap.size #[.int .u64 (K : Int)] 51 := Has.new w _ _
  clear a1 a2 a3 a4 a5 a6 a7 a8 a9 a10 a11
  go_upto_region 1 with fail
  refine sthin1 _ _ _ _ _ _ _ _ _ _ _ _ _ _ _ _ _ _ _ _ _ _ _ _ _ _ _ _ _ g w.heap.size K (.map (some b)) (.pointer (some ⟨gc, 0, none⟩)) h3 (Has.new w _ _) hlook (fun _ _ _ _ _ h => h) ?_
  obtain ⟨W2, hW2⟩ : ∃ W2, (w.alloc (.cells #[.int .u64 (K : Int)] 51)).drew = W2 := ⟨_, rfl⟩
  rw [hW2] at h42 hS2 ⊢
  have HB : Aside (Below w.heap.size w W2 ∧ STORE W2 B g log len alive N C ∧ Has W2 w.heap.size #[.int .u64 (K : Int)] 51 ∧ K < 2 ^ 64) := ⟨by rw [← hW2]; exact hb2.drew, hS2, h42, hK64⟩
  clear hW2 hlook h3 hb2 hS2 h42 hK64
  go_upto_region 2 with fail
  refine sthin2 W2 g gc alive _ (fun V => Below W2.heap.size W2 V) (fun gone V => ∃ V0, Below W2.heap.size W2 V0 ∧ CTHIN V0 B gc gr (BLW n) rs gone V) (Below.refl _ _).drew (fun V hV => (HB.out.2.1.below hV).c2) (fun gone V hV => ?_) (fun V hV => ?_) (fun _ _ _ _ _ h => h) ?_
  · obtain ⟨V0, v1, v2⟩ := hV
    have s0 := HB.out.2.1.below v1
    have hself := s0.thin_self H.out.2.1 ((H.out.2.2.1.keep HB.out.1).keep v1) v2
    refine ⟨(World.cell?_of_block (w := V0) (by exact hself)).trans s0.c2, ?_⟩
    have := s0.live 2 (by decide)
    unfold World.frozen? at this ⊢
    rw [show V.heap[g]? = V0.heap[g]? from hself]
    exact this
  · have s0 := HB.out.2.1.below hV
    have hlt : bn < w.heap.size := World.block_lt_of_cell? _ _ H.out.2.2.2.2.2.2.2.1
    have e1 : V.cell? ⟨bn, 0, none⟩ = some (.int .u64 (n : Int)) := ((hV.cell (by exact Nat.lt_of_lt_of_le hlt HB.out.1.size)).trans (HB.out.1.cell (by exact hlt))).trans H.out.2.2.2.2.2.2.2.1
    refine (chthin_cut B gc gr cap bn n rs H.out.2.2.2.2.2.1 V (s0.chunk K gc rs H.out.2.1).2.1 ((H.out.2.2.1.keep HB.out.1).keep hV) (Nat.le_trans H.out.2.2.2.2.2.2.1 (Nat.le_trans HB.out.1.size hV.size)) e1 H.out.2.2.2.2.2.2.2.2.1).mono ?_
    rintro e V' ⟨gone, rfl, hc⟩
    exact ⟨gone, rfl, V, hV, hc⟩
  · intro gone w3 hw3
    obtain ⟨w0, ⟨V0, v1, v2⟩, e3⟩ := hw3
    obtain ⟨a1, a2, a3, a4, a5, a6, a7, a8, a9, a10, a11⟩ := H.out
    have s0 := HB.out.2.1.below v1
    have hb0 : Has V0 gc #[.slice (some ⟨gr, 0, none⟩) rs.length cap] 70 := (a3.keep HB.out.1).keep v1
    have hself := s0.thin_self a2 hb0 v2
    obtain ⟨rs1, ⟨_, _, _, _, _, q8⟩, _⟩ := v2.changes (s0.chunk K gc rs a2).2.1 hb0
    obtain ⟨rs', t1, t2, t3, t4⟩ := s0.thinned (alive - gone) a2 hb0 v2
    have hgone : gone ≤ alive := by omega
    have hwr : IntKind.u64.wrap ((alive : Int) - (gone : Int)) = ((alive - gone : Nat) : Int) := wrap_nat (by omega) (by omega)
    rw [hwr] at e3
    rw [← e3] at t1 t4
    have hV : Below w.heap.size w V0 := HB.out.1.trans (v1.mono HB.out.1.size)
    have h40 : Has V0 w.heap.size #[.int .u64 (K : Int)] 51 := HB.out.2.2.1.keep v1
    have hmap3 : w3.cell? ⟨g, 3, none⟩ = some (.map (some b)) := by
      rw [e3, set_off (by decide)]
      exact ((World.cell?_of_block (w := V0) (by exact hself)).trans (hV.cell (by exact a10))).trans a11
    have h44 : Has w3 w.heap.size #[.int .u64 (K : Int)] 51 := by
      obtain ⟨⟨_, y1⟩, y2, y3⟩ := (s0.chunk K gc rs a2).2.1.kinds
      have h41 : Has w0 w.heap.size #[.int .u64 (K : Int)] 51 := (q8 _ h40.lt (other_kind h40 y1 (by decide)) (fun v hv e => by obtain ⟨_, hc⟩ := y2 v _ hv e; exact other_kind h40 hc (by decide) rfl) (fun r hr e => by obtain ⟨_, hc⟩ := y3 r hr; rw [e] at hc; exact other_kind h40 hc (by decide) rfl)).trans h40
      rw [e3]
      exact h41.other (by show w.heap.size ≠ g; omega) _
    have hC4 := (t1.chunk K gc rs' WITH_at).2.1
    obtain ⟨a, cap2, hbx4, -, -, -⟩ := hC4.lies
    have cE := empty_ok gc a rs'.length cap2 w3 (hbx4.cell 0)
    have HO : Aside (OTO w w3) := by
      obtain ⟨_, _, _, _, _, _, _, _, _, ho⟩ := v2
      rw [e3]
      exact ((OTO.of_below hV).trans ho).trans (OTO.cell _ _ _)
    have HF : Aside (STORE w3 B g log len (alive - gone) N (WITH C K gc rs') ∧ (∀ p, AT (WITH C K gc rs') log p = if p / 2 ^ log = K ∧ n ≤ p then none else AT C log p) ∧ STEP0 w w3 g C (WITH C K gc rs') ∧ gone + SUMP rs' = SUMP rs ∧ K < 2 ^ 64) := ⟨t1, t2, (STEP.below a1 hV).toSTEP0.trans t4, t3, HB.out.2.2.2⟩
    clear a1 a2 a3 a4 a5 a6 a7 a8 a9 a10 a11 s0 hb0 hself q8 t1 t2 t3 t4 hgone hwr e3 hV h40 hC4 hbx4 v1 v2 HB
    by_cases hn0 : rs'.length = 0
    · have hd : decide (rs'.length = 0) = true := decide_eq_true hn0
      rw [hd] at cE
      have hnil : rs' = [] := List.eq_nil_of_length_eq_zero hn0
      subst hnil
      obtain ⟨f1, f2, f3, f4, f5⟩ := HF.out
      obtain ⟨mv, m1, m2, m3⟩ := f1.map
      rw [hmap3] at m1
      have hmv : mv = some b := by cases Option.some.inj m1; rfl
      subst hmv
      obtain ⟨hBb, m, hmN, hcm⟩ := m3 b rfl
      obtain ⟨w5, u1, u2, u3⟩ := (show ChunkMap w3.drew b m _ from hcm).drop f5 0
      have hgr := u3.grown
      obtain ⟨g1, g2, g3⟩ := f1.drop (w2 := w5) WITH_at hmap3 (fun x hx hxb => (hgr.block x hx (fun e => hxb (by cases e; rfl)))) hgr.size ⟨m, hmN, u2⟩
      have E : Aside (STHIN w B g log len alive N K n C rs w5) := ⟨_, gone, [], g1, fun p' => (g2 p').trans (f2 p'), ⟨f3.trans g3, fun x k gc' rs' e => by obtain ⟨hk, e⟩ := WITHOUT_some e; rw [WITH_ne hk] at e; exact x k gc' rs' e⟩, f4, .inl ⟨rfl, WITHOUT_at⟩, (fun k hk => by rw [WITHOUT_ne hk, WITH_ne hk]), (HO.out.trans (OTO.of_below ((Below.refl 0 w3).drew))).trans (OTO.of_grown hgr)⟩
      clear f1 f2 f3 f4 f5 m2 m3 hcm u2 u3 hgr g1 g2 g3 hn0 hd hBb HF
      go_wp2_with (refine cE.mono ?_; rintro e w' ⟨rfl, rfl⟩)
      go_upto_region 4 with fail
      refine sthin4 _ _ _ _ _ _ _ _ _ _ _ _ _ _ _ _ _ _ _ _ _ _ _ _ _ _ _ _ _ g w.heap.size K b w5 hmap3 h44 u1 (fun _ _ _ _ _ h => h) ?_
      go_wp2
      go_end0
      exact ⟨⟨_, rfl⟩, E.out⟩
    · have hd : decide (rs'.length = 0) = false := decide_eq_false hn0
      rw [hd] at cE
      have hne : rs' ≠ [] := fun e => hn0 (by rw [e]; rfl)
      clear hn0 hd
      go_wp2_with (refine cE.mono ?_; rintro e w' ⟨rfl, rfl⟩)
      go_end0
      obtain ⟨f1, f2, f3, f4, f5⟩ := HF.out
      exact ⟨⟨_, rfl⟩, _, gone, rs', f1, f2, ⟨f3, fun x => (x.but _).full hne⟩, f4, .inr ⟨hne, gc, WITH_at⟩, (fun k hk => WITH_ne hk), HO.out⟩
end Go.Proofs.Ytkmcmngdainofaa
