/- Store.take. -/
import Derived.Test.YtkmcmngdainofaaStoreTaken
namespace Go.Proofs.Ytkmcmngdainofaa
open Go.RowKit Go.Maps
set_option maxRecDepth 100000

theorem empty_ok (g : Nat) (a : Option Addr) (n cap : Nat) (w : World) (h : w.cell? ⟨g, 0, none⟩ = some (.slice a n cap)) : Calls Try.prog 28 #[.pointer (some ⟨g, 0, none⟩)] w fun e w' => e = .returned (.bool (decide (n = 0))) ∧ w = w' := by
  have hd : ((n : Int) == 0) = decide (n = 0) := by
    by_cases e : n = 0
    · simp [e]
    · simp [e]
  go_enter Try.func28, Try.ntmps28
  go_wp2
  go_ret
  exact ⟨rfl, rfl⟩
/-- what Store.take leaves. -/
def STAKES (w : World) (B g log len alive N p : Nat) (C : CHUNKS) (w' : World) : Prop := ∃ C', STORE w' B g log len alive N C' ∧ (∀ p', AT C' log p' = if p' = p then none else AT C log p') ∧ STEP w w' g C C' ∧ Below B w w'
theorem STORE.take_self {W W' : World} {B g log len alive N K gc p : Nat} {C : CHUNKS} {rs : List ROW} (hS : STORE W B g log len alive N C) (hK : C K = some (gc, rs)) (hP : TAKES W B gc p rs W') : W'.heap[g]? = W.heap[g]? := by
  obtain ⟨rs', q1, q2, q3, q5, q6, q7, q8⟩ := hP
  obtain ⟨cs, t, fr, k1, k2, k3, k4⟩ := hS.kind
  obtain ⟨a1, a2, a3⟩ := hS.chunk K gc rs hK
  obtain ⟨⟨_, y1⟩, y2, y3⟩ := a2.kinds
  exact q8 g hS.lt (other_kind k1 y1 k2) (fun v hv e => by obtain ⟨_, hc⟩ := y2 v g hv e; exact other_kind k1 hc k3 rfl) (fun r hr e => by obtain ⟨_, hc⟩ := y3 r hr; rw [e] at hc; exact other_kind k1 hc k4 rfl)
set_option maxHeartbeats 4000000 in
theorem stake_ok {w : World} {B g log len alive N : Nat} {C : CHUNKS} (hS : STORE w B g log len alive N C) (p al : Nat) (h : Nat → Nat) (hp : p < len) (hA : AT C log p = some h) (hal : al + 1 = alive) (hsm : alive < 2 ^ 40) (hBg : B ≤ g) : Calls Try.prog 31 #[.pointer (some ⟨g, 0, none⟩), .int .u64 (p : Int)] w fun e w' =>
    (∃ v, e = .returned v) ∧ STAKES w B g log len al N p C w' := by
  obtain ⟨K, hKe⟩ : ∃ K, p / 2 ^ log = K := ⟨_, rfl⟩
  obtain ⟨gc, rs, hK, hL⟩ : ∃ gc rs, C K = some (gc, rs) ∧ LOOK rs p = some h := by
    unfold AT at hA
    rw [hKe] at hA
    cases hc : C K with
    | none => rw [hc] at hA; cases hA
    | some x => rw [hc] at hA; exact ⟨x.1, x.2, rfl, hA⟩
  obtain ⟨mv, m1, m2, m3⟩ := hS.map
  obtain ⟨b, rfl⟩ : ∃ b, mv = some b := by
    cases mv with
    | none => rw [m2 rfl K] at hK; cases hK
    | some b => exact ⟨b, rfl⟩
  have hg := hS.lt
  have ck := hS.key p w (Below.refl _ _)
  have hz := zeroKey
  have hlen := hS.short
  have H : Aside (STORE w B g log len alive N C ∧ p < len ∧ al + 1 = alive ∧ alive < 2 ^ 40 ∧ C K = some (gc, rs) ∧ LOOK rs p = some h ∧ len < 2 ^ 40 ∧ g < w.heap.size ∧ w.cell? ⟨g, 3, none⟩ = some (.map (some b)) ∧ B ≤ g) := ⟨hS, hp, hal, hsm, hK, hL, hlen, hg, m1, hBg⟩
  have HK : Aside (p / 2 ^ log = K) := hKe
  rw [hKe] at ck
  clear hS hp hal hsm hK hL hlen hBg hKe m1 m2 m3 hA
  go_enter Try.func31, Try.ntmps31
  go_wp2_with fail
  refine ck.mono ?_
  rintro e w1 ⟨rfl, hb1⟩
  clear ck
  obtain ⟨a1, a2, a3, a4, a5, a6, a7, a8, a9, a10⟩ := H.out
  have hb2 : Below w.heap.size w (w1.alloc (.cells #[.int .u64 (K : Int)] 51)) := hb1.alloc hb1.size _
  have hK64 : K < 2 ^ 64 := (a1.chunk K gc rs a5).1
  have h3 : (w1.alloc (.cells #[.int .u64 (K : Int)] 51)).cell? ⟨g, 3, none⟩ = some (.map (some b)) := (hb2.cell (by exact a8)).trans a9
  have hS2 := a1.below hb2.drew
  have hlook : (Instr.lookup 44 (.map (some b)) (KEY K) false).run Try.prog (w1.alloc (.cells #[.int .u64 (K : Int)] 51)).drew = .ok (.pointer (some ⟨gc, 0, none⟩)) (w1.alloc (.cells #[.int .u64 (K : Int)] 51)).drew := by
    obtain ⟨mv, m1, m2, m3⟩ := hS2.map
    have h3' : (w1.alloc (.cells #[.int .u64 (K : Int)] 51)).drew.cell? ⟨g, 3, none⟩ = some (.map (some b)) := h3
    rw [h3'] at m1
    have hmv : mv = some b := by cases Option.some.inj m1; rfl
    obtain ⟨_, n, _, hcm⟩ := m3 b hmv
    exact hcm.get hK64 (by rw [a5]; rfl)
  have hC2 := (hS2.chunk K gc rs a5).2.1
  have cT := chunktake_ok B gc p rs h (by omega) _ hC2 a6
  have h42 : Has (w1.alloc (.cells #[.int .u64 (K : Int)] 51)).drew w1.heap.size #[.int .u64 (K : Int)] 51 := Has.new w1 _ _
  have hT2 := STEP.below a1 hb2.drew
  clear a2 a3 a4 a6 a7 a9 a10
  go_upto_region 1 with fail
  refine stake1 _ _ _ _ _ _ _ _ _ _ _ _ _ _ _ _ _ _ _ _ _ _ _ _ _ _ _ _ _ _ _ g w1.heap.size K (.map (some b)) (.pointer (some ⟨gc, 0, none⟩)) h3 (Has.new w1 _ _) hlook (fun _ _ _ _ _ h => h) ?_
  obtain ⟨W2, hW2⟩ : ∃ W2, (w1.alloc (.cells #[.int .u64 (K : Int)] 51)).drew = W2 := ⟨_, rfl⟩
  rw [hW2] at h42 hS2 hC2 hT2 cT ⊢
  have hB2 : Below w.heap.size w W2 := by rw [← hW2]; exact hb2.drew
  clear hW2 hlook h3 hb2
  go_wp2_with fail
  refine cT.mono ?_
  rintro e w3 ⟨⟨v3, rfl⟩, hP⟩
  clear cT
  obtain ⟨a1, a2, a3, a4, a5, a6, a7, a8, a9, a10⟩ := H.out
  have hself := hS2.take_self a5 hP
  have z2 : w3.cell? ⟨g, 2, none⟩ = some (.int .u64 (alive : Int)) := (World.cell?_of_block (w := W2) (by exact hself)).trans hS2.c2
  have zf : w3.frozen? ⟨g, 2, none⟩ = false := by
    have := hS2.live 2 (by decide)
    unfold World.frozen? at this ⊢
    rw [show w3.heap[g]? = W2.heap[g]? from hself]
    exact this
  have hwr : IntKind.u64.wrap ((alive : Int) - 1) = (al : Int) := wrap_nat (by omega) (by omega)
  have h43 : Has w3 w1.heap.size #[.int .u64 (K : Int)] 51 := by
    obtain ⟨rs', q1, q2, q3, q5, q6, q7, q8⟩ := hP
    obtain ⟨⟨_, y1⟩, y2, y3⟩ := hC2.kinds
    exact (q8 _ h42.lt (other_kind h42 y1 (by decide)) (fun v hv e => by obtain ⟨_, hc⟩ := y2 v _ hv e; exact other_kind h42 hc (by decide) rfl) (fun r hr e => by obtain ⟨_, hc⟩ := y3 r hr; rw [e] at hc; exact other_kind h42 hc (by decide) rfl)).trans h42
  have hBP : Below B W2 w3 := by obtain ⟨rs', q1, q2, q3, q5, q6, q7, q8⟩ := hP; exact q7
  obtain ⟨rs', s1, s2, s3, s4, s5, s6⟩ := hS2.take al a5 HK.out a2 hP
  have hst : STEP0 W2 (w3.setCell ⟨g, 2, none⟩ (.int .u64 (al : Int))) g C (WITH C K gc rs') := ⟨s3, s4, s6, fun i hi => s5 i (by omega)⟩
  obtain ⟨w4, hw4⟩ : ∃ w4, w3.setCell ⟨g, 2, none⟩ (.int .u64 (al : Int)) = w4 := ⟨_, rfl⟩
  have h44 : Has w4 w1.heap.size #[.int .u64 (K : Int)] 51 := by rw [← hw4]; exact h43.other (by show w1.heap.size ≠ g; have := hb1.size; omega) _
  have hB4 : Below B w w4 := by rw [← hw4]; exact ((hB2.mono (by omega)).trans hBP).setCell (p := ⟨g, 2, none⟩) a10 _
  rw [hw4] at s1 hst s5
  have hC4 := (s1.chunk K gc rs' WITH_at).2.1
  obtain ⟨a, cap, hbx, -, -, -⟩ := hC4.lies
  have cE := empty_ok gc a rs'.length cap w4 (hbx.cell 0)
  have hmap4 : w4.cell? ⟨g, 3, none⟩ = some (.map (some b)) := (s5 3 (by decide)).trans ((hB2.cell (by exact a8)).trans a9)
  have HF : Aside (STORE w4 B g log len al N (WITH C K gc rs') ∧ (∀ p', AT (WITH C K gc rs') log p' = if p' = p then none else AT C log p') ∧ STEP0 w w4 g C (WITH C K gc rs') ∧ Below B w w4 ∧ K < 2 ^ 64 ∧ B ≤ g ∧ g < w.heap.size) := ⟨s1, s2, hT2.toSTEP0.trans hst, hB4, hK64, a10, a8⟩
  clear a1 a2 a3 a4 a5 a6 a7 a9 a10 hS2 hC2 hT2 hB2 hself hBP s1 s2 s3 s4 s5 s6 hst hC4 hbx hB4 h42 h43 hP hb1 hg a8
  by_cases hn : rs'.length = 0
  · have hd : decide (rs'.length = 0) = true := decide_eq_true hn
    rw [hd] at cE
    have hnil : rs' = [] := List.eq_nil_of_length_eq_zero hn
    subst hnil
    obtain ⟨f1, f2, f3, f4, f5, f6, f7⟩ := HF.out
    obtain ⟨mv, m1, m2, m3⟩ := f1.map
    rw [hmap4] at m1
    have hmv : mv = some b := by cases Option.some.inj m1; rfl
    subst hmv
    obtain ⟨hBb, n, hnN, hcm⟩ := m3 b rfl
    have hbl := hcm.lt
    obtain ⟨w5, u1, u2, u3⟩ := (show ChunkMap w4.drew b n _ from hcm).drop f5 0
    have hgr := u3.grown
    have hdr := f1.drop (w2 := w5) WITH_at hmap4 (fun x hx hxb => (hgr.block x hx (fun e => hxb (by cases e; rfl)))) hgr.size ⟨n, hnN, u2⟩
    obtain ⟨g1, g2, g3⟩ := hdr
    have hB5 : Below B w w5 := f4.drew.grown hgr (by have := f4.size; show B ≤ w4.heap.size; omega) (fun x e => by cases e; exact hBb)
    have E : Aside (STAKES w B g log len al N p C w5) := ⟨_, g1, fun p' => (g2 p').trans (f2 p'), ⟨f3.trans g3, fun x k gc' rs' e => by obtain ⟨hk, e⟩ := WITHOUT_some e; rw [WITH_ne hk] at e; exact x k gc' rs' e⟩, hB5⟩
    clear f1 f2 f3 f4 f5 f6 f7 m2 m3 hcm u2 u3 hgr g1 g2 g3 hB5 hn hd hBb hbl
    go_wp2_with (refine cE.mono ?_; rintro e w' ⟨rfl, rfl⟩)
    go_upto_region 5 with fail
    refine stake5 _ _ _ _ _ _ _ _ _ _ _ _ _ _ _ _ _ _ _ _ _ _ _ _ _ _ _ _ _ _ _ g w1.heap.size K b w5 hmap4 h44 u1 (fun _ _ _ _ _ h => h) ?_
    go_wp2
    go_end0
    exact ⟨⟨_, rfl⟩, E.out⟩
  · have hd : decide (rs'.length = 0) = false := decide_eq_false hn
    rw [hd] at cE
    have hne : rs' ≠ [] := fun e => hn (by rw [e]; rfl)
    clear hn hd
    go_wp2_with (refine cE.mono ?_; rintro e w' ⟨rfl, rfl⟩)
    go_end0
    obtain ⟨f1, f2, f3, f4, -⟩ := HF.out
    exact ⟨⟨_, rfl⟩, _, f1, f2, ⟨f3, fun x => (x.but _).full hne⟩, f4⟩
end Go.Proofs.Ytkmcmngdainofaa
