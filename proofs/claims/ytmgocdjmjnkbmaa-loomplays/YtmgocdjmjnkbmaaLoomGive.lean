/- What a move makes: give, answer. -/
import Derived.Test.YtmgocdjmjnkbmaaLoomPut
namespace Go.Proofs.Ytmgocdjmjnkbmaa
open Go.RowKit
set_option maxRecDepth 100000

/-- a move as a value. -/
def MVAL (k : Nat) (x : Int) (j : Nat) : Array Value := #[.int .i64 (k : Int), .int .i64 x, .int .i64 (j : Int)]
/-- a worker's state is written over. -/
theorem LOOM.setws {w : World} {B g gw : Nat} {va : Value} {s : LM} (h : LOOM w B g gw va s) (i x : Nat) : LOOM ((w.setCell ⟨gw, i * 2, none⟩ (.int .i64 (AT x))).setCell ⟨gw, i * 2 + 1, none⟩ (.int .i64 (JB x))) B g gw va { s with ws := UPD s.ws i x } := by
  obtain ⟨c, hc⟩ := h.wk
  have hk : ∀ k, k ≠ gw → ((w.setCell ⟨gw, i * 2, none⟩ (.int .i64 (AT x))).setCell ⟨gw, i * 2 + 1, none⟩ (.int .i64 (JB x))).heap[k]? = w.heap[k]? := fun k hk => set_two w gw (i * 2) _ _ k hk
  have hat : ∀ (o : Nat) (v : Value), w.cell? ⟨gw, o, none⟩ = some v → o ≠ i * 2 → o ≠ i * 2 + 1 → ((w.setCell ⟨gw, i * 2, none⟩ (.int .i64 (AT x))).setCell ⟨gw, i * 2 + 1, none⟩ (.int .i64 (JB x))).cell? ⟨gw, o, none⟩ = some v := fun o v hv h1 h2 => by
    rw [set_off (fun e => h2 e.symm), set_off (fun e => h1 e.symm)]
    exact hv
  refine ⟨(hk g h.ne).trans h.row, ⟨_, (hc.set _ _).set _ _⟩, fun k hk' => ?_, fun k hk' => ?_, own_turn h.own (fun k e => hk k (fun e' => h.aw (e' ▸ e))), h.ne, h.ag, h.aw, h.bg, h.bw⟩
  · by_cases e : k = i
    · subst e
      rw [set_off (by omega)]
      show _ = some (Value.int .i64 (AT (UPD s.ws k x k)))
      rw [UPD_same]
      have hs := h.at_ k hk'
      rw [hc.cell] at hs
      rw [(hc.set _ _).cell]
      have hlt : k * 2 < c.size := by
        rcases Nat.lt_or_ge (k * 2) c.size with h' | h'
        · exact h'
        · rw [Array.getElem?_eq_none h'] at hs
          cases hs
      simp [hlt]
    · show _ = some (Value.int .i64 (AT (UPD s.ws i x k)))
      rw [UPD_other e]
      exact hat _ _ (h.at_ k hk') (by omega) (by omega)
  · by_cases e : k = i
    · subst e
      show _ = some (Value.int .i64 (JB (UPD s.ws k x k)))
      rw [UPD_same]
      have hs := h.jb k hk'
      rw [hc.cell] at hs
      rw [((hc.set _ _).set _ _).cell]
      have hlt : k * 2 + 1 < c.size := by
        rcases Nat.lt_or_ge (k * 2 + 1) c.size with h' | h'
        · exact h'
        · rw [Array.getElem?_eq_none h'] at hs
          cases hs
      simp [hlt]
    · show _ = some (Value.int .i64 (JB (UPD s.ws i x k)))
      rw [UPD_other e]
      exact hat _ _ (h.jb k hk') (by omega) (by omega)
theorem LOOM.wfrozen {w : World} {B g gw : Nat} {va : Value} {s : LM} (h : LOOM w B g gw va s) (o : Nat) : w.frozen? ⟨gw, o, none⟩ = false := by
  obtain ⟨c, hc⟩ := h.wk
  exact hc.frozen o
set_option maxHeartbeats 1000000 in
theorem give_ok {w : World} {B g gw : Nat} {va : Value} {s : LM} (h : LOOM w B g gw va s) (i j : Nat) (hi : i < s.W) (h1 : s.room = 0 → 2 ≤ s.fd) (h2 : s.room ≠ 0 → 0 < s.held) (hf2 : s.fd < 2 ^ 39) (hh : s.held < 2 ^ 39) (hfi : s.first < 2 ^ 39) : Calls Try.prog 34 #[.pointer (some ⟨g, 0, none⟩), .agg (MVAL 2 (i : Int) j)] w fun e w' => e = .returned (.tuple #[]) ∧ AFTER w B g gw va va (GIVES (if s.room = 0 then PUTS s else s) i j) w' := by
  obtain ⟨s1, hs1⟩ : ∃ s1, (if s.room = 0 then PUTS s else s) = s1 := ⟨_, rfl⟩
  rw [hs1]
  have HS : Aside (s1.W = s.W ∧ 0 < s1.held ∧ s1.held < 2 ^ 40 ∧ s1.first < 2 ^ 40) := by
    rw [← hs1]
    split
    · exact ⟨rfl, Nat.succ_pos _, by show s.held + 1 < _; omega, by show s.first < _; omega⟩
    · rename_i hr
      exact ⟨rfl, h2 hr, by omega, by omega⟩
  have HF : Aside (∀ k, FOOT g gw va k → k < w.heap.size) := fun k hk => (h.foot hk).2
  have HA : Aside (LOOM w B g gw va s ∧ i < s.W) := ⟨h, hi⟩
  obtain ⟨w1, hw1⟩ : ∃ w1, w.alloc (.cells (MVAL 2 (i : Int) j) 42) = w1 := ⟨_, rfl⟩
  have HB : Aside (AFTER w B g gw va va s w1 ∧ Has w1 w.heap.size (MVAL 2 (i : Int) j) 42) := by
    rw [← hw1]
    exact ⟨⟨h.below ((Below.refl _ _).alloc (Nat.le_refl _) _), STEP.below ((Below.refl _ _).alloc (Nat.le_refl _) _)⟩, Has.new _ _ _⟩
  have x1 := HB.out.1.1.c1
  have hmv : MVAL 2 (i : Int) j = #[.int .i64 2, .int .i64 (i : Int), .int .i64 (j : Int)] := rfl
  rw [hmv] at hw1 ⊢
  obtain ⟨b, hb⟩ : ∃ b, w.heap.size = b := ⟨_, rfl⟩
  have HN : Aside (w.heap.size = b) := hb
  go_enter Try.func34, Try.ntmps34
  go_upto_if 8 with fail
  go_cut [] from 4 to 35 (fun W => Aside (AFTER w B g gw va va s1 W ∧ Has W w.heap.size (MVAL 2 (i : Int) j) 42))
  case first =>
    by_cases hr : s.room = 0
    · rw [if_pos hr] at hs1
      have cp := put_ok HB.out.1.1 (h1 hr) (by omega) (by omega)
      rw [hs1] at cp
      have hrb : ((s.room : Int) == 0) = true := by rw [hr]; rfl
      rw [hrb]
      clear hr hs1 x1 hrb
      go_wp2_with fail
      refine cp.mono ?_
      rintro e w2 ⟨rfl, hL, hS⟩
      clear cp
      have R : Aside (AFTER w B g gw va va s1 w2 ∧ Has w2 w.heap.size (MVAL 2 (i : Int) j) 42) := ⟨⟨hL, HB.out.1.2.trans hS⟩, (hS.block _ HB.out.2.lt (fun e => Nat.lt_irrefl _ (HF.out _ e))).trans HB.out.2⟩
      clear hL hS
      go_wp2
      go_meet
      case rel => exact R
    · rw [if_neg hr] at hs1
      have hrb : ((s.room : Int) == 0) = false := by simp [hr]
      rw [hrb]
      clear hr x1 hrb
      go_wp2
      go_meet
      case rel => rw [← hs1]; exact HB
  case rest =>
    have R := hcut.out
    obtain ⟨q1, q2, q3, q4⟩ := HS.out
    have x8 := R.1.1.c8
    have x9 := R.1.1.c9
    have z8 := R.1.1.row.frozen 8
    have z9 := R.1.1.row.frozen 9
    have e8 : wrap64 ((s1.first : Int) + 1) = ((s1.first + 1 : Nat) : Int) := by unfold wrap64; omega
    have e9 : wrap64 ((s1.held : Int) - 1) = ((s1.held - 1 : Nat) : Int) := by unfold wrap64; omega
    have HR : Aside (AFTER w B g gw va va s1 wc ∧ Has wc b (MVAL 2 (i : Int) j) 42) := by rw [← hb]; exact R
    have HE : Aside (((s1.held : Int) - 1) = ((s1.held - 1 : Nat) : Int)) := by show _ = _; omega
    obtain ⟨F, hF⟩ : ∃ F, s1.first = F := ⟨_, rfl⟩
    obtain ⟨HD, hHD⟩ : ∃ HD, s1.held = HD := ⟨_, rfl⟩
    have HG : Aside (s1.first = F ∧ s1.held = HD) := ⟨hF, hHD⟩
    rw [hF] at x8 e8
    rw [hHD] at x9 e9
    clear hw1 x1 h h1 h2 hf2 hh hfi hs1 R hcut q1 q2 q3 q4 hi hb hF hHD
    go_upto_region 5 with fail
    obtain ⟨s2, hs2⟩ : ∃ s2 : LM, s2 = { s1 with first := s1.first + 1, held := s1.held - 1 } := ⟨_, rfl⟩
    have hS2 : s2.W = s1.W ∧ GIVES s1 i j = { s2 with ws := UPD s2.ws i (j + 2) } := by rw [hs2]; exact ⟨rfl, rfl⟩
    obtain ⟨w5, hw5⟩ : ∃ w5, (wc.setCell ⟨g, 8, none⟩ (.int .i64 ((F : Int) + 1))).setCell ⟨g, 9, none⟩ (.int .i64 ((HD - 1 : Nat) : Int)) = w5 := ⟨_, rfl⟩
    have L5 : AFTER w B g gw va va s2 w5 ∧ Has w5 b (MVAL 2 (i : Int) j) 42 := by
      rw [← hw5, ← HG.out.1, ← HG.out.2, hs2]
      have hne : b ≠ g := fun e => by have := HF.out g (.inl rfl); have := HN.out; omega
      refine ⟨⟨HR.out.1.1.store ((HR.out.1.1.row.set 8 _).set 9 _) (fun k hk => set_two wc g 8 _ _ k hk) rfl rfl rfl, HR.out.1.2.trans (STEP.two (.inl rfl) _ _)⟩, ?_⟩
      exact (set_two wc g 8 _ _ b hne).trans HR.out.2
    have hiw : i < s2.W := by rw [hS2.1, HS.out.1]; exact HA.out.2
    have HP : Aside (∀ k, k = b → ¬ FOOT g gw va k) := fun k e hk => by have := HF.out k hk; have := HN.out; omega
    rw [hw5]
    refine give5 _ g gw b s2.W i j _ _ (by omega) (fun w2 => AFTER w B g gw va va s2 w2 ∧ Has w2 b (MVAL 2 (i : Int) j) 42) ⟨⟨L5.1.1.drew, L5.1.2.drew⟩, L5.2⟩ (fun w2 h2 => h2.1.1.c5) (fun w2 h2 => h2.2.cell 1) (fun w2 h2 => h2.2.cell 2) (fun w2 h2 => ⟨h2.1.1.at_ i hiw, h2.1.1.jb i hiw, h2.1.1.wfrozen _, h2.1.1.wfrozen _⟩) (fun _ _ _ _ _ h => h) ?_
    rintro w2 ⟨wx, hx, rfl⟩
    refine bodyPost_end (v := .tuple #[]) (by simp [results, Try.f34]) rfl ⟨rfl, ?_⟩
    rw [hS2.2]
    have hq := hx.1.1.setws i (j + 2)
    rw [AT_busy (by omega), JB_busy (by omega), Nat.add_sub_cancel] at hq
    exact ⟨hq, hx.1.2.trans (STEP.two (.inr (.inl rfl)) _ _)⟩
/-- the answers have grown, the loom has not heard of it yet. -/
structure HALF (w : World) (B g gw : Nat) (va v2 : Value) (s : LM) (l : List Nat) (w' : World) : Prop where
  row : Has w' g (LC s gw va) 57
  wk : ∃ c, Has w' gw c 54
  at_ : ∀ i, i < s.W → w'.cell? ⟨gw, i * 2, none⟩ = some (.int .i64 (AT (s.ws i)))
  jb : ∀ i, i < s.W → w'.cell? ⟨gw, i * 2 + 1, none⟩ = some (.int .i64 (JB (s.ws i)))
  own : w'.ownsRow B 3 1 v2 l.length (ICELLS l)
  ne : g ≠ gw
  ag : v2.ownBlock ≠ some g
  aw : v2.ownBlock ≠ some gw
  bg : B ≤ g
  bw : B ≤ gw
  step : STEP g gw va v2 w w'
theorem half_of {w w1 w2 : World} {B g gw : Nat} {va : Value} {s : LM} (h : AFTER w B g gw va va s w1) (g2 n c2 : Nat) (l : List Nat) (ho : w2.ownsRow B 3 1 (.slice (some ⟨g2, 0, none⟩) n c2) l.length (ICELLS l)) (hg : w1.grownBy w2 va.ownBlock) (h2 : va.ownBlock = some g2 ∨ g2 = w1.heap.size) : HALF w B g gw va (.slice (some ⟨g2, 0, none⟩) n c2) s l w2 := by
  have hlt := h.1.lt
  have hk : ∀ k, k < w1.heap.size → va.ownBlock ≠ some k → w2.heap[k]? = w1.heap[k]? := fun k hk hv => hg.block k hk (fun e => hv e.symm)
  have e1 := hk g hlt.1 h.1.ag
  have e2 := hk gw hlt.2 h.1.aw
  obtain ⟨c, hc⟩ := h.1.wk
  refine ⟨e1.trans h.1.row, ⟨c, e2.trans hc⟩, fun i hi => (World.cell?_of_block (w := w1) e2).trans (h.1.at_ i hi), fun i hi => (World.cell?_of_block (w := w1) e2).trans (h.1.jb i hi), ho, h.1.ne, ?_, ?_, h.1.bg, h.1.bw, ?_⟩
  · intro e
    have e : some g2 = some g := e
    cases e
    rcases h2 with h2 | h2
    · exact h.1.ag h2
    · omega
  · intro e
    have e : some g2 = some gw := e
    cases e
    rcases h2 with h2 | h2
    · exact h.1.aw h2
    · omega
  · refine ⟨hg.os.trans h.2.os, hg.tape.trans h.2.tape, hg.output.trans h.2.output, Nat.le_trans h.2.size hg.size, fun k hkw hf => ?_, fun k hf => ?_⟩
    · exact (hk k (Nat.lt_of_lt_of_le hkw h.2.size) (fun e => hf (.inr (.inr e)))).trans (h.2.block k hkw hf)
    · rcases hf with hf | hf | hf
      · exact .inl (.inl hf)
      · exact .inl (.inr (.inl hf))
      · have e : some g2 = some k := hf
        cases e
        rcases h2 with h2 | h2
        · exact .inl (.inr (.inr h2))
        · exact .inr (by have := h.2.size; omega)
theorem HALF.done {w w' : World} {B g gw : Nat} {va v2 : Value} {s : LM} {l : List Nat} (h : HALF w B g gw va v2 s l w') : AFTER w B g gw va v2 { s with ans := l } (w'.setCell ⟨g, 12, none⟩ v2) := by
  have e2 : (w'.setCell ⟨g, 12, none⟩ v2).heap[gw]? = w'.heap[gw]? := Below.heap_setCell _ _ _ gw (fun e => h.ne e.symm)
  obtain ⟨c, hc⟩ := h.wk
  refine ⟨⟨h.row.set 12 v2, ⟨c, e2.trans hc⟩, fun i hi => (World.cell?_of_block (w := w') e2).trans (h.at_ i hi), fun i hi => (World.cell?_of_block (w := w') e2).trans (h.jb i hi), own_turn h.own (fun k e => Below.heap_setCell _ _ _ k (fun e' => h.ag (e.trans (congrArg some e')))), h.ne, h.ag, h.aw, h.bg, h.bw⟩, ?_⟩
  refine ⟨h.step.os, h.step.tape, h.step.output, by simpa [World.setCell] using h.step.size, fun k hk hf => ?_, h.step.new⟩
  exact (Below.heap_setCell _ _ _ k (fun e => hf (.inl e))).trans (h.step.block k hk hf)
set_option maxHeartbeats 1000000 in
theorem answer_ok {w : World} {B g gw : Nat} {va : Value} {s : LM} (h : LOOM w B g gw va s) (i j : Nat) (hi : i < s.W) (hl : s.ans.length ≤ 70000) : Calls Try.prog 35 #[.pointer (some ⟨g, 0, none⟩), .agg (MVAL 5 (i : Int) j)] w fun e w' => e = .returned (.tuple #[]) ∧ ∃ va', AFTER w B g gw va va' (ANSWERS s i j) w' := by
  have HF : Aside (∀ k, FOOT g gw va k → B ≤ k ∧ k < w.heap.size) := fun k hk => h.foot hk
  have HA : Aside (LOOM w B g gw va s ∧ i < s.W ∧ s.ans.length ≤ 70000) := ⟨h, hi, hl⟩
  obtain ⟨w1, hw1⟩ : ∃ w1, w.alloc (.cells (MVAL 5 (i : Int) j) 42) = w1 := ⟨_, rfl⟩
  have HB : Aside (AFTER w B g gw va va s w1 ∧ Has w1 w.heap.size (MVAL 5 (i : Int) j) 42) := by
    rw [← hw1]
    exact ⟨⟨h.below ((Below.refl _ _).alloc (Nat.le_refl _) _), STEP.below ((Below.refl _ _).alloc (Nat.le_refl _) _)⟩, Has.new _ _ _⟩
  have hmv : MVAL 5 (i : Int) j = #[.int .i64 5, .int .i64 (i : Int), .int .i64 (j : Int)] := rfl
  rw [hmv] at hw1 ⊢
  obtain ⟨b, hb⟩ : ∃ b, w.heap.size = b := ⟨_, rfl⟩
  have HN : Aside (w.heap.size = b) := hb
  have HP : Aside (¬ FOOT g gw va b) := fun hk => by have := (HF.out b hk).2; omega
  rw [hb] at HB
  go_enter Try.func35, Try.ntmps35
  go_upto_region 1 with fail
  have hiw : i < s.W := hi
  refine ans1 _ g gw b s.W i _ _ (by omega) (fun w2 => AFTER w B g gw va va s w2 ∧ Has w2 b (MVAL 5 (i : Int) j) 42) ⟨⟨HB.out.1.1.drew, HB.out.1.2.drew⟩, HB.out.2⟩ (fun w2 h2 => h2.1.1.c5) (fun w2 h2 => h2.2.cell 1) (fun w2 h2 => ⟨h2.1.1.at_ i hiw, h2.1.1.jb i hiw, h2.1.1.wfrozen _, h2.1.1.wfrozen _⟩) (fun _ _ _ _ _ h => h) ?_
  rintro w2 ⟨wx, hx, rfl⟩
  dsimp only
  obtain ⟨s2, hs2⟩ : ∃ s2 : LM, s2 = { s with ws := UPD s.ws i 0 } := ⟨_, rfl⟩
  obtain ⟨w3, hw3⟩ : ∃ w3, (wx.setCell ⟨gw, i * 2, none⟩ (.int .i64 0)).setCell ⟨gw, i * 2 + 1, none⟩ (.int .i64 0) = w3 := ⟨_, rfl⟩
  have L3 : AFTER w B g gw va va s2 w3 ∧ Has w3 b (MVAL 5 (i : Int) j) 42 := by
    rw [← hw3, hs2]
    have hne : b ≠ gw := fun e => HP.out (.inr (.inl e))
    exact ⟨⟨hx.1.1.setws i 0, hx.1.2.trans (STEP.two (.inr (.inl rfl)) _ _)⟩, (set_two wx gw _ _ _ b hne).trans hx.2⟩
  rw [hw3]
  have hS : s2.ans = s.ans ∧ s2.jobs = s.jobs ∧ s2.col = s.col := by rw [hs2]; exact ⟨rfl, rfl, rfl⟩
  have HS : Aside (s2 = { s with ws := UPD s.ws i 0 } ∧ s2.ans = s.ans ∧ s2.jobs = s.jobs) := ⟨hs2, hS.1, hS.2.1⟩
  have HL : Aside (AFTER w B g gw va va s2 w3 ∧ Has w3 b (MVAL 5 (i : Int) j) 42) := L3
  clear hw3 hw1 hs2 hS L3 hx HB hiw h hi hl
  go_upto_region 2 with fail
  have hIC : ICELLS s2.ans ++ [.int .i64 (j : Int)] = ICELLS (s2.ans ++ [j]) := by simp [ICELLS]
  refine ans2 _ g b j s2.ans.length B va (ICELLS s2.ans) (by rw [HS.out.2.1]; have := HA.out.2.2; omega) (fun w2 => AFTER w B g gw va va s2 w2 ∧ Has w2 b (MVAL 5 (i : Int) j) 42) (fun g2 c2 w2 => HALF w B g gw va (.slice (some ⟨g2, 0, none⟩) (s2.ans.length + 1) c2) s2 (s2.ans ++ [j]) w2) ⟨⟨HL.out.1.1.drew, HL.out.1.2.drew⟩, HL.out.2⟩ (fun w2 o h2 => ⟨h2.1.below ((Below.refl _ _).alloc (Nat.le_refl _) _), h2.2.alloc _⟩) (fun w2 h2 => h2.1.1.c12) (fun w2 h2 => h2.2.cell 2) (fun w2 h2 => by have := h2.1.1.bg; have := h2.1.1.lt.1; omega) (fun w2 h2 => h2.1.1.own) (fun g2 c2 w2 h2 => ⟨h2.row.cell 12, h2.row.frozen 12⟩) (fun w2 w4 g2 c2 h2 z1 z2 z3 => half_of h2.1 g2 _ c2 _ (by rw [← hIC, List.length_append]; exact z1) z2 z3) (fun _ _ _ _ _ h => h) ?_
  rintro bx g2 c2 w4 ⟨wy, hy, rfl⟩
  dsimp only
  have HY : Aside (AFTER w B g gw va (.slice (some ⟨g2, 0, none⟩) (s2.ans.length + 1) c2) { s2 with ans := s2.ans ++ [j] } (wy.setCell ⟨g, 12, none⟩ (.slice (some ⟨g2, 0, none⟩) (s2.ans.length + 1) c2))) := hy.done
  obtain ⟨w5, hw5⟩ : ∃ w5, wy.setCell ⟨g, 12, none⟩ (.slice (some ⟨g2, 0, none⟩) (s2.ans.length + 1) c2) = w5 := ⟨_, rfl⟩
  rw [hw5] at HY ⊢
  have x12 := HY.out.1.c12
  have x0 := HY.out.1.c0
  have x6 := HY.out.1.c6
  have x7 := HY.out.1.c7
  have z6 := HY.out.1.row.frozen 6
  have z7 := HY.out.1.row.frozen 7
  dsimp only at x0 x6 x7
  have hlen : s2.ans.length = s.ans.length := by rw [HS.out.2.1]
  have hjob : s2.jobs = s.jobs := HS.out.2.2
  have HD : Aside (ANSWERS s i j = { s2 with ans := s2.ans ++ [j], col := if s.ans.length + 1 = s.jobs then 1 else s2.col }) := by show _ = _; rw [HS.out.1]; exact rfl
  rw [hlen] at x12
  rw [hjob] at x0
  have hnl := HA.out.2.2
  generalize hNL : s.ans.length = NL at *
  generalize hNJ : s.jobs = NJ at *
  clear hIC hw5 hy HL hNL hNJ hlen hjob
  by_cases hq : NL + 1 = NJ
  · have hq1 : ((NL : Int) + 1 == (NJ : Int)) = true := by simp; omega
    have hq2 : (((NL + 1 : Nat) : Int) == (NJ : Int)) = true := by simp; omega
    rw [if_pos hq] at HD
    go_upto_region 3 with fail
    go_quiet (fail)
    all_goals
      go_wp2
      refine bodyPost_end (v := .tuple #[]) (by simp [results, Try.f35]) rfl ⟨rfl, .slice (some ⟨g2, 0, none⟩) (s2.ans.length + 1) c2, ?_⟩
      rw [HD.out]
      exact ⟨(HY.out.1.turn (w' := w5.drewN nq) (fun _ _ => rfl)).setcol 1, (HY.out.2.trans (⟨rfl, rfl, rfl, Nat.le_refl _, fun _ _ _ => rfl, fun _ h => .inl h⟩ : STEP g gw _ _ w5 (w5.drewN nq))).trans (STEP.two (.inl rfl) _ _)⟩
  · have hq1 : ((NL : Int) + 1 == (NJ : Int)) = false := by simp; omega
    have hq2 : (((NL + 1 : Nat) : Int) == (NJ : Int)) = false := by simp; omega
    rw [if_neg hq] at HD
    go_upto_region 3 with fail
    go_quiet (fail)
    all_goals
      go_wp2
      refine bodyPost_end (v := .tuple #[]) (by simp [results, Try.f35]) rfl ⟨rfl, .slice (some ⟨g2, 0, none⟩) (s2.ans.length + 1) c2, ?_⟩
      rw [HD.out]
      exact ⟨HY.out.1.turn (w' := w5.drewN nq) (fun _ _ => rfl), HY.out.2.trans (⟨rfl, rfl, rfl, Nat.le_refl _, fun _ _ _ => rfl, fun _ h => .inl h⟩ : STEP g gw _ _ w5 (w5.drewN nq))⟩
end Go.Proofs.Ytmgocdjmjnkbmaa
