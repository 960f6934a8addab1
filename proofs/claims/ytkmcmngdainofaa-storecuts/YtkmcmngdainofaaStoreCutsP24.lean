/- Texts of StoreCuts, one behind the other: StoreDrop, StoreCount, StoreCountMore, StoreLives, StoreSince, StoreTree. -/
import Derived.Maps.Ext
import Derived.Test.YtkmcmngdainofaaStoreCutsP11
import Derived.Test.YtkmcmngdainofaaStoreCutsP19
import Derived.Test.YtkmcmngdainofaaStoreCutsP21
import Derived.Test.YtkmcmngdainofaaStoreCutsP23
/- Store.Drop. -/
namespace Go.Proofs.Ytkmcmngdainofaa
open Go.RowKit Go.Maps
set_option maxRecDepth 100000

/-- what Drop leaves of a node that lives and has no pin. -/
def DROPPED (w : World) (B g log len alive N n p : Nat) (C : CHUNKS) (P : Nat → Nat) (w' : World) : Prop := ∃ C', STORE w' B g log len alive N C' ∧ (∀ p', AT C' log p' = if p' = p then none else AT C log p') ∧ PINS w' B g n C' P ∧ STEP w w' g C C' ∧ Below B w w'
set_option maxHeartbeats 1000000 in
theorem drop_live {w : World} {B g log len alive N n : Nat} {C : CHUNKS} {P : Nat → Nat} (hS : STORE w B g log len alive N C) (hP : PINS w B g n C P) (p al : Nat) (h : Nat → Nat) (hp : p < 2 ^ 64) (hl : p < len) (h0 : P p = 0) (hA : AT C log p = some h) (hal : al + 1 = alive) (hsm : alive < 2 ^ 40) (hBg : B ≤ g) : Calls Try.prog 22 #[.pointer (some ⟨g, 0, none⟩), .int .u64 (p : Int)] w fun e w' => e = .returned (.int .i64 0) ∧ DROPPED w B g log len al N n p C P w' := by
  have hc1 := hS.c1
  have hge : ¬ (len : Int) ≤ (p : Int) := by omega
  obtain ⟨mv, l1, l2⟩ := hP.look p hp
  rw [h0] at l2
  have cL := live_ok hS p hp
  rw [hA] at cL
  have H : Aside (STORE w B g log len alive N C ∧ PINS w B g n C P ∧ p < len ∧ AT C log p = some h ∧ al + 1 = alive ∧ alive < 2 ^ 40 ∧ B ≤ g ∧ g < w.heap.size) := ⟨hS, hP, hl, hA, hal, hsm, hBg, hS.lt⟩
  clear hS hP hl hA hal hsm hBg
  go_enter Try.func22, Try.ntmps22
  go_wp2_with (refine cL.mono ?_; rintro e w1 ⟨rfl, hb⟩; clear cL)
  obtain ⟨a1, a2, a3, a4, a5, a6, a7, a8⟩ := H.out
  have cT := stake_ok (a1.below hb) p al h a3 a4 a5 a6 a7
  have HB : Aside (Below w.heap.size w w1) := hb
  clear a1 a2 a3 a4 a5 a6 a7 a8 hb
  refine cT.mono ?_
  rintro e w2 ⟨⟨v, rfl⟩, hT⟩
  have HT : Aside (STAKES w1 B g log len al N p C w2) := hT
  clear hT cT
  go_wp2
  go_ret
  obtain ⟨a1, a2, a3, a4, a5, a6, a7, a8⟩ := H.out
  obtain ⟨C', c1, c2, c3, c4⟩ := HT.out
  have hst := (STEP.below a1 HB.out).trans c3
  obtain ⟨cs, t, fr, k1, _⟩ := a1.kind
  exact ⟨rfl, C', c1, c2, a2.step hst ⟨cs, t, fr, k1⟩, hst, (HB.out.mono (by omega)).trans c4⟩
end Go.Proofs.Ytkmcmngdainofaa

/- In how many chunks a node lives: two stores with the same nodes have as many. -/
namespace Go.Proofs.Ytkmcmngdainofaa
open Go.RowKit Go.Maps Go.WideShapes
open Go.WideElems (Fit rg rd_key rg_of)
set_option maxRecDepth 100000

theorem key_inv {v : Value} {l : Lit} (h : keyOf Try.prog 51 v = some l) : ∃ k, k < 2 ^ 64 ∧ l = KK k := by
  have c3 : Try.prog.cellsOf 51 = 1 := by kernel_rfl
  have c2 : Try.prog.cellsOf 29 = 1 := by kernel_rfl
  obtain ⟨m, hm⟩ : ∃ m, Try.prog.types.size = m + 1 := ⟨Try.prog.types.size - 1, (Nat.succ_pred_eq_of_pos (Nat.lt_of_le_of_lt (Nat.zero_le _) rowKey)).symm⟩
  unfold keyOf at h
  simp only [Try.underlying51, hm] at h
  split at h
  · rename_i hf
    simp only [Bool.and_eq_true] at hf
    obtain ⟨-, hf⟩ := hf
    cases hv : v.cells.toList with
    | nil => rw [hv] at h; simp [Program.keyLits, Try.underlying51, c3] at h
    | cons x xs =>
      cases xs with
      | cons y ys => rw [hv] at h; simp [Program.keyLits, Try.underlying51, c3] at h
      | nil =>
        rw [hv] at h
        simp [Program.keyLits, Try.underlying51, Try.underlying29, c2, c3] at h
        cases x with
        | int q n =>
          by_cases hq : q = .u64 ∧ (Lit.int .u64 n).wf = true
          · simp [hq] at h
            have hb := wf_u64 hq.2
            obtain ⟨k, rfl⟩ : ∃ k : Nat, n = (k : Int) := ⟨n.toNat, by omega⟩
            refine ⟨k, by omega, ?_⟩
            unfold KK
            rw [← h]
          · simp [hq] at h
        | _ => simp at h
  · cases h
theorem mem_keys {w : World} {b n : Nat} {es : List (Lit × DataW Unit)} (h : w.ownsMap Try.prog 51 PE b n (.map es)) : ∀ p ∈ es, ∃ k, k < 2 ^ 64 ∧ p.1 = KK k := by
  obtain ⟨es0, clock, _, F, _, e⟩ := h
  cases e
  intro p hp
  obtain ⟨v, hv⟩ := fit_keys F p ((sorted_perm _).mem_iff.1 hp)
  exact key_inv hv
theorem has_mem {es : List (Lit × DataW Unit)} {k : Nat} (hk : k < 2 ^ 64) : Maps.has (.map es) (KK k) = true ↔ ∃ p ∈ es, p.1 = KK k := by
  have hkey : WideAt.IsKeyLit (KK k) := lawKey.key (keyk_ok hk)
  rw [Maps.has_eq, List.any_eq_true]
  constructor
  · rintro ⟨p, hp, e⟩
    refine ⟨p, hp, Classical.byContradiction fun hne => ?_⟩
    rw [sameKey_ne hne] at e
    cases e
  · rintro ⟨p, hp, e⟩
    exact ⟨p, hp, by rw [e]; exact WideAt.sameKey_self hkey⟩
/-- what the map of a store reads as: its keys are the chunks. -/
def CHS (D : DataW Unit) (C : CHUNKS) : Prop := Canon D ∧ (∀ es, D = .map es → ∀ p ∈ es, ∃ k, k < 2 ^ 64 ∧ p.1 = KK k) ∧ ∀ k, k < 2 ^ 64 → Maps.has D (KK k) = (C k).isSome
/-- a chunk is there where a node of it lives. -/
theorem FULL.some {w : World} {B g log len alive N : Nat} {C : CHUNKS} (h : STORE w B g log len alive N C) (hF : FULL C) (k : Nat) : (C k).isSome = true ↔ ∃ p, p / 2 ^ log = k ∧ (AT C log p).isSome = true := by
  constructor
  · intro hk
    cases hc : C k with
    | none => rw [hc] at hk; cases hk
    | some c =>
      obtain ⟨gc, rs⟩ := c
      obtain ⟨_, h2, h3⟩ := h.chunk k gc rs hc
      obtain ⟨r, hr⟩ := List.exists_mem_of_ne_nil _ (hF k gc rs hc)
      obtain ⟨j, hj, hb⟩ := h2.lives r hr
      obtain ⟨e, _⟩ := h3 r hr j hj hb
      refine ⟨r.num * 64 + j, e, ?_⟩
      unfold AT
      rw [e, hc]
      show (LOOK rs (r.num * 64 + j)).isSome = true
      have e1 : (r.num * 64 + j) / 64 = r.num := by omega
      have e2 : (r.num * 64 + j) % 64 = j := by omega
      rw [LOOK_mem (s := r) h2.rise hr e1.symm, e2, if_pos hb]
      obtain ⟨_, d2, d3, _⟩ := h2.row r hr
      have := RK_lt hj hb
      rw [List.getElem?_eq_getElem (by rw [d3]; exact this)]
      rfl
  · rintro ⟨p, rfl, hp⟩
    unfold AT at hp
    cases hc : C (p / 2 ^ log) with
    | none => rw [hc] at hp; cases hp
    | some c => rfl
end Go.Proofs.Ytkmcmngdainofaa

/- How many chunks there are at least. -/
namespace Go.Proofs.Ytkmcmngdainofaa
open Go.RowKit Go.Maps Go.WideShapes
set_option maxRecDepth 100000

theorem apart_ge {α : Type} [DecidableEq α] : ∀ (ks l : List α), ks.Nodup → (∀ k ∈ ks, k ∈ l) → ks.length ≤ l.length
  | [], l, _, _ => Nat.zero_le _
  | k :: ks, l, hn, h => by
    obtain ⟨h1, h2⟩ := List.nodup_cons.1 hn
    have hk := h k (by simp)
    have ih := apart_ge ks (l.erase k) h2 (fun x hx => (List.mem_erase_of_ne (fun e => h1 (by rw [← e]; exact hx))).2 (h x (by simp [hx])))
    rw [List.length_erase_of_mem hk] at ih
    have : 0 < l.length := List.length_pos_of_mem hk
    simp
    omega
theorem keys_apart (n : Nat) (hn : n ≤ 2 ^ 64) : ((List.range n).map KK).Nodup := by
  rw [List.nodup_iff_pairwise_ne, List.pairwise_map]
  refine List.Pairwise.imp_of_mem ?_ (List.nodup_iff_pairwise_ne.1 List.nodup_range)
  intro a b ha hb hab e
  exact hab (KK_inj (by have := List.mem_range.1 ha; omega) (by have := List.mem_range.1 hb; omega) e)
theorem CHS.many {D : DataW Unit} {C : CHUNKS} (h : CHS D C) (n : Nat) (hn : n ≤ 2 ^ 64) (hC : ∀ k, k < n → (C k).isSome = true) : n ≤ Maps.size D := by
  classical
  obtain ⟨⟨es, rfl, _, _⟩, _, h3⟩ := h
  have := apart_ge ((List.range n).map KK) (es.map Prod.fst) (keys_apart n hn) (fun x hx => by
    obtain ⟨k, hk, rfl⟩ := List.mem_map.1 hx
    have hk2 := List.mem_range.1 hk
    obtain ⟨p, hp, e⟩ := (has_mem (es := es) (k := k) (by omega)).1 (by rw [h3 k (by omega)]; exact hC k hk2)
    exact List.mem_map.2 ⟨p, hp, e⟩)
  simpa [Maps.size_eq] using this
end Go.Proofs.Ytkmcmngdainofaa

/- How many nodes live: a chunk's rows counted, a store's places counted. -/
namespace Go.Proofs.Ytkmcmngdainofaa
open Go.RowKit
set_option maxRecDepth 100000

/-- how many numbers below n there are of which P says so. -/
def LCT (P : Nat → Bool) : Nat → Nat
  | 0 => 0
  | n + 1 => LCT P n + if P n then 1 else 0
theorem LCT_congr {P Q : Nat → Bool} : ∀ {n : Nat}, (∀ p, p < n → P p = Q p) → LCT P n = LCT Q n
  | 0, _ => rfl
  | n + 1, h => by rw [LCT, LCT, LCT_congr fun p hp => h p (by omega), h n (by omega)]
theorem LCT_none {P : Nat → Bool} : ∀ {n : Nat}, (∀ p, p < n → P p = false) → LCT P n = 0
  | 0, _ => rfl
  | n + 1, h => by rw [LCT, LCT_none fun p hp => h p (by omega), h n (by omega)]; rfl
theorem LCT_all {P : Nat → Bool} : ∀ {n : Nat}, (∀ p, p < n → P p = true) → LCT P n = n
  | 0, _ => rfl
  | n + 1, h => by rw [LCT, LCT_all fun p hp => h p (by omega), h n (by omega)]; rfl
theorem LCT_or {P Q : Nat → Bool} (hd : ∀ p, P p = true → Q p = true → False) : ∀ n, LCT (fun p => P p || Q p) n = LCT P n + LCT Q n
  | 0 => rfl
  | n + 1 => by
    rw [LCT, LCT, LCT, LCT_or hd n]
    have := hd n
    cases hp : P n <;> cases hq : Q n <;> simp_all <;> omega
theorem LCT_add {P : Nat → Bool} (a : Nat) : ∀ b, LCT P (a + b) = LCT P a + LCT (fun j => P (a + j)) b
  | 0 => by simp [LCT]
  | b + 1 => by rw [← Nat.add_assoc, LCT, LCT_add a b, LCT]; omega
theorem LCT_le {P Q : Nat → Bool} (h : ∀ p, P p = true → Q p = true) : ∀ n, LCT P n ≤ LCT Q n
  | 0 => Nat.le_refl _
  | n + 1 => by
    rw [LCT, LCT]
    have := LCT_le h n
    have h1 := h n
    cases hp : P n <;> cases hq : Q n <;> simp_all <;> omega
theorem LCT_bits (X : Nat) : ∀ k, LCT (fun j => X.testBit j) k = RK X k
  | 0 => rfl
  | k + 1 => by rw [LCT, RK, LCT_bits X k]
/-- does the row have a node at the place p? -/
def HASP (r : ROW) (p : Nat) : Bool := r.num == p / 64 && r.live.testBit (p % 64)
theorem LCT_row {r : ROW} {M : Nat} (hM : r.num * 64 + 64 ≤ M) : LCT (HASP r) M = POP r.live := by
  obtain ⟨e, rfl⟩ : ∃ e, M = r.num * 64 + (64 + e) := ⟨M - r.num * 64 - 64, by omega⟩
  rw [LCT_add, LCT_add, LCT_none fun p hp => ?_, LCT_none (n := e) fun p hp => ?_, LCT_congr (Q := fun j => r.live.testBit j) fun j hj => ?_, LCT_bits, POP_RK]
  · omega
  · have : (r.num == (r.num * 64 + j) / 64) = true := beq_iff_eq.2 (by omega)
    unfold HASP
    rw [this, show (r.num * 64 + j) % 64 = j by omega]
    rfl
  · have : (r.num == (r.num * 64 + (64 + p)) / 64) = false := beq_eq_false_iff_ne.2 (by omega)
    unfold HASP
    rw [this]
    rfl
  · have : (r.num == p / 64) = false := beq_eq_false_iff_ne.2 (by omega)
    unfold HASP
    rw [this]
    rfl
theorem SUMP_count : ∀ {rs : List ROW} {M : Nat}, rs.Pairwise (fun r s => r.num < s.num) → (∀ r ∈ rs, r.num * 64 + 64 ≤ M) → SUMP rs = LCT (fun p => rs.any fun r => HASP r p) M
  | [], M, _, _ => (LCT_none (P := fun p => ([] : List ROW).any fun r => HASP r p) (n := M) fun p _ => rfl).symm
  | r :: l, M, hp, hM => by
    obtain ⟨h1, h2⟩ := List.pairwise_cons.1 hp
    rw [SUMP, SUMP_count h2 (fun s hs => hM s (List.mem_cons_of_mem _ hs)), ← LCT_row (hM r (List.mem_cons_self ..))]
    rw [← LCT_or]
    · rfl
    · intro p hr hl
      obtain ⟨s, hs, e⟩ := List.any_eq_true.1 hl
      unfold HASP at hr e
      have a1 := h1 s hs
      have a2 : r.num = p / 64 := by simp at hr; exact hr.1
      have a3 : s.num = p / 64 := by simp at e; exact e.1
      omega
theorem LOOK_any {w : World} {B g : Nat} {rs : List ROW} (hC : CHUNK w B g rs) (p : Nat) : (LOOK rs p).isSome = rs.any fun r => HASP r p := by
  by_cases hex : ∃ (i : Nat) (r : ROW), rs[i]? = some r ∧ r.num = p / 64
  · obtain ⟨i, r, hr, hn⟩ := hex
    rw [LOOK_at hr hn hC.rise]
    have hm := List.mem_of_getElem? hr
    obtain ⟨_, _, hl, _, _⟩ := hC.row r hm
    by_cases hb : r.live.testBit (p % 64) = true
    · rw [if_pos hb, List.getElem?_eq_getElem (by rw [hl]; exact RK_lt (Nat.mod_lt _ (by decide)) hb)]
      symm
      rw [Option.isSome_some, List.any_eq_true]
      exact ⟨r, hm, by unfold HASP; rw [hb, hn]; simp⟩
    · rw [if_neg hb]
      symm
      rw [Option.isSome_none, List.any_eq_false]
      intro s hs he
      obtain ⟨j, hj⟩ := List.mem_iff_getElem?.1 hs
      unfold HASP at he
      simp at he
      have : i = j := by
        rcases Nat.lt_trichotomy i j with h | h | h
        · have := hC.rise i j r s h hr hj; omega
        · exact h
        · have := hC.rise j i s r h hj hr; omega
      subst this
      rw [hr] at hj
      cases hj
      exact hb he.2
  · rw [LOOK_none fun r hr e => by obtain ⟨i, hi⟩ := List.mem_iff_getElem?.1 hr; exact hex ⟨i, r, hi, e⟩]
    symm
    rw [Option.isSome_none, List.any_eq_false]
    intro s hs he
    obtain ⟨j, hj⟩ := List.mem_iff_getElem?.1 hs
    unfold HASP at he
    simp at he
    exact hex ⟨j, s, hj, he.1⟩
/-- how many nodes of the store live below M. -/
def LIVES (C : CHUNKS) (log M : Nat) : Nat := LCT (fun p => (AT C log p).isSome) M
/-- those of one chunk are its rows' bits. -/
theorem SUMP_chunk {w : World} {B g log len alive N : Nat} {C : CHUNKS} (hS : STORE w B g log len alive N C) {K gc : Nat} {rs : List ROW} (hK : C K = some (gc, rs)) {M : Nat} (hM : len ≤ M) : SUMP rs = LCT (fun p => decide (p / 2 ^ log = K) && (AT C log p).isSome) M := by
  obtain ⟨_, hC, hin⟩ := hS.chunk K gc rs hK
  have hp : rs.Pairwise (fun r s => r.num < s.num) := RISE_iff.1 hC.rise
  obtain ⟨T, hT⟩ : ∃ T, ∀ r ∈ rs, r.num * 64 + 64 ≤ T := by
    clear hS hK hC hin hp
    induction rs with
    | nil => exact ⟨0, fun r hr => by cases hr⟩
    | cons a l ih =>
      obtain ⟨T, h⟩ := ih
      refine ⟨T + (a.num * 64 + 64), fun r hr => ?_⟩
      rcases List.mem_cons.1 hr with rfl | hr
      · omega
      · have := h r hr
        omega
  have hone : ∀ p, (rs.any fun r => HASP r p) = (decide (p / 2 ^ log = K) && (AT C log p).isSome) := fun p => by
    rw [← LOOK_any hC p]
    by_cases e : p / 2 ^ log = K
    · unfold AT
      rw [e, hK, decide_eq_true rfl]
      rfl
    · rw [decide_eq_false e, Bool.false_and, LOOK_any hC p, List.any_eq_false]
      intro r hr he
      unfold HASP at he
      simp at he
      have := (hin r hr (p % 64) (Nat.mod_lt _ (by decide)) he.2).1
      rw [he.1, show p / 64 * 64 + p % 64 = p by omega] at this
      exact e this
  have hfar : ∀ p, len ≤ p → (rs.any fun r => HASP r p) = false := fun p hl => by
    rw [List.any_eq_false]
    intro r hr he
    unfold HASP at he
    simp at he
    have := (hin r hr (p % 64) (Nat.mod_lt _ (by decide)) he.2).2
    rw [he.1] at this
    omega
  have hcut : ∀ X, len ≤ X → LCT (fun p => rs.any fun r => HASP r p) X = LCT (fun p => rs.any fun r => HASP r p) len := fun X hX => by
    obtain ⟨e, rfl⟩ : ∃ e, X = len + e := ⟨X - len, by omega⟩
    rw [LCT_add, LCT_none (n := e) fun p _ => hfar _ (by omega)]
    omega
  rw [SUMP_count (M := T + len) hp (fun r hr => by have := hT r hr; omega), hcut _ (by omega), ← hcut M hM]
  exact LCT_congr fun p _ => hone p
/-- a store whose number of living nodes is what it says. -/
def ALV (C : CHUNKS) (log len alive : Nat) : Prop := alive = LIVES C log len
theorem ALV.sump {w : World} {B g log len alive N : Nat} {C : CHUNKS} (hS : STORE w B g log len alive N C) (h : ALV C log len alive) {K gc : Nat} {rs : List ROW} (hK : C K = some (gc, rs)) : SUMP rs ≤ alive := by
  rw [SUMP_chunk hS hK (Nat.le_refl _), show alive = LIVES C log len from h]
  refine LCT_le (fun p hp => ?_) _
  simp at hp
  exact hp.2
end Go.Proofs.Ytkmcmngdainofaa

/- Store.since of a store that has all its nodes: the chunks from n's on. -/
namespace Go.Proofs.Ytkmcmngdainofaa
open Go.RowKit Go.Maps
set_option maxRecDepth 100000

/-- keys as cells. -/
def KYS (fi j : Nat) : List Value := (List.range j).map fun i => .int .u64 ((fi + i : Nat) : Int)
theorem KYS_succ (fi j : Nat) : KYS fi (j + 1) = KYS fi j ++ [.int .u64 ((fi + j : Nat) : Int)] := by simp [KYS, List.range_succ]
theorem info_keyT : (Try.prog.info? 51).map (fun i => (i.zero, i.size, i.bytes)) = some (some (.agg #[.int .u64 0]), 1, 8) := by kernel_rfl
theorem build_key {ops : Array Oper} {rest : List Oper} {o : Oper} {a : Act} {Q : Exit → Act → World → Prop} (w : World) (hg : o.guard = none) (x : Operand) (ho : o.op = .buildSlice 55 1 #[(0, x)]) (k : Nat) (hx : a.eval x = KEY k)
    (h : wpList Try.prog ops Q rest (a.put o.dst (.slice (some ⟨w.heap.size, 0, none⟩) 1 1)) (w.alloc (.cells #[.int .u64 (k : Int)] 51))) : wpList Try.prog ops Q (o :: rest) a w := by
  obtain ⟨i, hie, hz', hs1, _⟩ := info_parts info_keyT
  refine wpList_buildSlice hg 55 51 1 _ ho #[.int .u64 (k : Int)] i _ Try.underlying55 hie hz' (by rw [hs1]; omega) (by rw [hs1]; omega) ?_ h
  have := Great.fill_whole (s := 1) (by decide) [KEY k] ((Array.range (1 * i.size)).map ((Value.agg #[.int .u64 0]).cells[· % (Value.agg #[.int .u64 0]).cells.size]!)) (fun v hv => by simp at hv; subst hv; rfl) (by simp [hs1])
  simp [Value.cells] at this
  rw [hs1]
  simp [hx, Value.cells]
  rw [hs1] at this
  simpa using this
theorem app_key {ops : Array Oper} {rest : List Oper} {o : Oper} {a : Act} {Q : Exit → Act → World → Prop} (w : World) (hgd : o.guard = none) (s x : Operand)
    (ho : o.op = .call { callee := .builtin .append, args := #[s, x], argTypes := #[55, 55] }) (base : Nat) (v : Value) (n : Nat) (xs : List Value) (hs : a.eval s = v) (hown : w.ownsRow base 51 1 v n xs)
    (b c k : Nat) (hx : a.eval x = .slice (some ⟨b, 0, none⟩) 1 c) (hb : Has w b #[.int .u64 (k : Int)] 51) (hn : n ≤ 100000) (hbase : base ≤ w.heap.size)
    (h : ∀ g cap w', w'.ownsRow base 51 1 (.slice (some ⟨g, 0, none⟩) (n + 1) cap) (n + 1) (xs ++ [.int .u64 (k : Int)]) → w.grownBy w' v.ownBlock → (v.ownBlock = some g ∨ g = w.heap.size) → g < w'.heap.size → wpList Try.prog ops Q rest (a.put o.dst (.slice (some ⟨g, 0, none⟩) (n + 1) cap)) w') : wpList Try.prog ops Q (o :: rest) a w := by
  obtain ⟨i, hi, hz, hs1, hby⟩ := info_parts info_keyT
  exact wpList_append_lies w hgd s x 55 ho base 51 i _ 1 8 Try.underlying55 hi hz hs1 hby (by simp [Value.cells]) (by decide) v n xs hs hown ⟨b, 0, none⟩ 1 c [.int .u64 (k : Int)] hx (by simp) (fun j u hj => by rw [Addr.add_mid, hb.cell, Nat.zero_add, ← hj]; cases j <;> simp) (fun u hu => by simp at hu; subst hu; rfl) (by decide) (by simp only [maxLen]; omega) (by omega) hbase w.heap.size rfl h
theorem u64_small {n : Nat} (h : n < 2 ^ 64) : IntKind.u64.wrap (n : Int) = (n : Int) := by
  simp [IntKind.wrap, IntKind.signed, IntKind.bits]
  omega
/-- the keys of the chunks from fi to la lie there. -/
def SINCE (w : World) (fi cnt : Nat) (e : Ending) (w' : World) : Prop := ∃ a c, e = .returned (.slice a cnt c) ∧ w'.ownsRow w.heap.size 51 1 (.slice a cnt c) cnt (KYS fi cnt) ∧ Below w.heap.size w w'
/-- the keys so far, and the next one. -/
structure SLP0 (w wx : World) (fi la j b6 b8 kk : Nat) (v : Value) : Prop where
  bel : Below w.heap.size w wx
  row : wx.ownsRow w.heap.size 51 1 v j (KYS fi j)
  cur : Has wx b8 #[.int .u64 (kk : Int)] 51
  last : Has wx b6 #[.int .u64 (la : Int)] 51
  n8 : w.heap.size ≤ b8
  ne : b8 ≠ b6
  a8 : v.ownBlock ≠ some b8
  a6 : v.ownBlock ≠ some b6
abbrev SLP (w wx : World) (fi la j b6 b8 : Nat) (v : Value) : Prop := SLP0 w wx fi la j b6 b8 (fi + j) v
theorem own_drew {w : World} {B s n : Nat} {t : TypeId} {v : Value} {xs : List Value} (h : w.ownsRow B t s v n xs) : w.drew.ownsRow B t s v n xs := h
theorem own_heap5 {w w' : World} {B : Nat} {t : TypeId} {s : Nat} {v : Value} {n : Nat} {xs : List Value} (h : w.ownsRow B t s v n xs) (hk : ∀ k, v.ownBlock = some k → w'.heap[k]? = w.heap[k]?) : w'.ownsRow B t s v n xs := by
  refine ⟨h.1, ?_⟩
  rcases h.2 with h | ⟨g, cap, cur, rfl, hb, hg, r⟩
  · exact .inl h
  · exact .inr ⟨g, cap, cur, rfl, hb, by rw [hk g rfl]; exact hg, r⟩
theorem slp_app {w w3 w5 : World} {fi la j b6 b8 kk g5 cap5 sc : Nat} {sa : Option Addr} (h : SLP w w3 fi la j b6 b8 (.slice sa j sc)) (hk : fi + j = kk) (hown : w5.ownsRow w.heap.size 51 1 (.slice (some ⟨g5, 0, none⟩) (j + 1) cap5) (j + 1) (KYS fi j ++ [.int .u64 (kk : Int)])) (hgrow : (w3.alloc (.cells #[.int .u64 (kk : Int)] 51)).grownBy w5 (Value.slice sa j sc).ownBlock) (hat : (Value.slice sa j sc).ownBlock = some g5 ∨ g5 = (w3.alloc (.cells #[.int .u64 (kk : Int)] 51)).heap.size) : SLP0 w w5 fi la (j + 1) b6 b8 kk (.slice (some ⟨g5, 0, none⟩) (j + 1) cap5) := by
  have hs : (w3.alloc (.cells #[.int .u64 (kk : Int)] 51)).heap.size = w3.heap.size + 1 := by simp
  have h8 := h.cur.lt
  have h6 := h.last.lt
  have keep : ∀ {b : Nat} {A : Array Value} {t : TypeId}, Has w3 b A t → (Value.slice sa j sc).ownBlock ≠ some b → Has w5 b A t := fun {b A t} hh hne => (hgrow.block b (by have := hh.lt; omega) (fun e => hne e.symm)).trans (hh.alloc _)
  have hg : ∀ b, b < w3.heap.size → (Value.slice sa j sc).ownBlock ≠ some b → g5 ≠ b := fun b hb hne e => by
    subst e
    rcases hat with e | e
    · exact hne e
    · omega
  have hb1 := h.bel.alloc h.bel.size (.cells #[.int .u64 (kk : Int)] 51)
  refine ⟨hb1.grown hgrow hb1.size (fun k e => (h.row.lt k e).1), by rw [KYS_succ, hk]; exact hown, by have := keep h.cur h.a8; rw [hk] at this; exact this, keep h.last h.a6, h.n8, h.ne, fun e => hg b8 h8 h.a8 (by simpa [Value.ownBlock] using e), fun e => hg b6 h6 h.a6 (by simpa [Value.ownBlock] using e)⟩
theorem since_none {w : World} {B g log len alive N : Nat} {C : CHUNKS} (hS : STORE w B g log len alive N C) (n : Nat) (hn : len ≤ n) : Calls Try.prog 23 #[.pointer (some ⟨g, 0, none⟩), .int .u64 (n : Int)] w (SINCE w 0 0) := by
  have h1 := hS.c1
  have hle : (len : Int) ≤ (n : Int) := by omega
  clear hS
  go_enter Try.func23, Try.ntmps23
  go_wp2
  go_ret
  exact ⟨none, 0, rfl, World.ownsRow_nil _ _ _ _, Below.refl _ _⟩
set_option maxHeartbeats 4000000 in
theorem since_ok {w : World} {B g log len alive N : Nat} {C : CHUNKS} (hS : STORE w B g log len alive N C) (n : Nat) (hn : n < len) (hlen : len ≤ 1000) (hN : N ≤ 1000) (hall : ∀ k, k ≤ (len - 1) / 2 ^ log → (C k).isSome = true) : Calls Try.prog 23 #[.pointer (some ⟨g, 0, none⟩), .int .u64 (n : Int)] w (SINCE w (n / 2 ^ log) ((len - 1) / 2 ^ log - n / 2 ^ log + 1)) := by
  have hlog := hS.small
  obtain ⟨fi, hfi⟩ : ∃ fi, n / 2 ^ log = fi := ⟨_, rfl⟩
  obtain ⟨la, hla⟩ : ∃ la, (len - 1) / 2 ^ log = la := ⟨_, rfl⟩
  have hfl : fi ≤ la := by rw [← hfi, ← hla]; exact Nat.div_le_div_right (by omega)
  have hl1000 : la ≤ 1000 := by rw [← hla]; exact Nat.le_trans (Nat.div_le_self _ _) (by omega)
  rw [hfi, hla]
  obtain ⟨cnt, hcnt⟩ : ∃ cnt, la - fi + 1 = cnt := ⟨_, rfl⟩
  rw [hcnt]
  rw [hla] at hall
  obtain ⟨l1, hl1⟩ : ∃ l1, len - 1 = l1 := ⟨_, rfl⟩
  rw [hl1] at hla
  have hmin : min ((log : Int)).toNat 64 = log := by simp; omega
  have key : ∀ (p r : Nat), p / 2 ^ log = r → ∀ W, Below w.heap.size w W → Calls Try.prog 29 #[.pointer (some ⟨g, 0, none⟩), .int .u64 (p : Int)] W fun e w' => e = .returned (KEY r) ∧ Below w.heap.size w w' ∧ Below W.heap.size W w' := fun p r hr W h => by
    refine (chunkof_raw g (p : Int) (log : Int) (r : Int) (by omega) W (hS.below h).c0 (by rw [hmin, ← hr]; simp)).mono ?_
    rintro e w' ⟨rfl, hb⟩
    exact ⟨rfl, h.trans (hb.mono h.size), hb⟩
  obtain ⟨mv, m1, m2, m3⟩ := hS.map
  obtain ⟨b, rfl⟩ : ∃ b, mv = some b := by
    cases mv with
    | none => have := hall 0 (Nat.zero_le _); rw [m2 rfl 0] at this; cases this
    | some b => exact ⟨b, rfl⟩
  obtain ⟨_, n', hn', D, d1, d2⟩ := m3 b rfl
  have hD : CHS D C := ⟨d1.canon lawKey, fun es e p hp => by subst e; exact mem_keys d1 p hp, fun k hk => by rw [(d2 k hk).1]; show ((C k).map Prod.fst).isSome = _; cases C k <;> rfl⟩
  have hz : la < Maps.size D := by
    have := hD.many (la + 1) (by omega) (fun k hk => hall k (by omega))
    omega
  have hzn : Maps.size D ≤ 1000 := by
    have := d1.size_le
    omega
  have hsub : IntKind.u64.wrap ((la : Int) - (fi : Int)) = ((la - fi : Nat) : Int) := by
    rw [show (la : Int) - (fi : Int) = ((la - fi : Nat) : Int) by omega]
    exact u64_small (by omega)
  have HC : Aside (∀ W, Below w.heap.size w W → W.cell? ⟨g, 3, none⟩ = some (.map (some b)) ∧ (∀ ty, (Builtin.len_ #[44] ty #[.map (some b)]).run Try.prog W = .ok (.int .i64 ((Maps.size D : Nat) : Int)) W) ∧ ∀ k, k ≤ la → ∃ v, (Instr.lookup 44 (.map (some b)) (KEY k) true).run Try.prog W = .ok (.tuple #[v, .bool true]) W) := fun W h => by
    have dW : W.ownsMap Try.prog 51 PE b n' D := by
      obtain ⟨es, clock, h3, r⟩ := d1
      exact ⟨es, clock, (h.block b (Array.getElem?_eq_some_iff.1 h3).1).trans h3, r⟩
    refine ⟨(h.cell (p := ⟨g, 3, none⟩) hS.lt).trans m1, fun ty => dW.len Try.underlying44 ty, fun k hk => ?_⟩
    obtain ⟨v, hv, _⟩ := ChunkMap.look (M := fun k => (C k).map Prod.fst) ⟨D, dW, d2⟩ (k := k) (by omega)
    have e : ((C k).map Prod.fst).isSome = true := by have := hall k hk; cases hc : C k with
      | none => rw [hc] at this; cases this
      | some x => rfl
    rw [e] at hv
    exact ⟨v, hv⟩
  generalize Maps.size D = z at *
  have h1 := hS.c1
  have hlt : ¬ (len : Int) ≤ (n : Int) := by omega
  have hw1 : IntKind.u64.wrap ((len : Int) - 1) = (l1 : Int) := by
    rw [show (len : Int) - 1 = (l1 : Int) by omega]
    exact u64_small (by omega)
  have c1 := key n fi hfi
  have c2 := key l1 la hla
  have HA : Aside (fi ≤ la ∧ la ≤ 1000 ∧ la < z ∧ z ≤ 1000 ∧ ∀ W, Below w.heap.size w W → W.cell? ⟨g, 1, none⟩ = some (.int .u64 (len : Int))) := ⟨hfl, hl1000, hz, hzn, fun W h => (hS.below h).c1⟩
  have HU : Aside (IntKind.u64.wrap ((la : Int) - (fi : Int)) = ((la - fi : Nat) : Int)) := hsub
  clear hS hn hlen hall hlog hfi hla hfl hl1000 hl1 hmin key hD hz hzn hsub m1 m2 m3 d1 d2 hn' hN
  go_enter Try.func23, Try.ntmps23
  go_upto_region 3 with fail
  refine since3 w g n len l1 fi la w.heap.size hw1 (fun W => Below w.heap.size w W) (Below.refl _ _).drew HA.out.2.2.2.2 (fun W h => h.size) (fun W o h => h.alloc h.size o) (fun W b j v h hb => h.setCell (p := ⟨b, j, none⟩) hb v) c1 c2 (fun _ _ _ _ _ h => h) ?_
  rintro b5 b6 w1 ⟨hb1, k5, n5, k6, n6, hne⟩
  dsimp only
  clear c1 c2 hw1
  go_upto_region 5 with fail
  have hm1 := HC.out w1.drew hb1.drew
  refine since5 w1 g b5 b6 la fi (la - fi) z (.map (some b)) HU.out (u64_small (by have := HA.out; omega)) (by have := HA.out; omega) (fun W => W = w1.drew) rfl (fun W h => ?_) (fun _ _ _ _ _ h => h) ?_
  · subst h
    exact ⟨k6.cell 0, k5.cell 0, hm1.1, hm1.2.1 _⟩
  rintro w2 rfl
  dsimp only
  clear hm1
  have hb2 : Below w.heap.size w w1.drew := hb1.drew
  have k52 : Has w1.drew b5 #[.int .u64 (fi : Int)] 51 := k5
  have k62 : Has w1.drew b6 #[.int .u64 (la : Int)] 51 := k6
  generalize w1.drew = w2 at *
  clear k5 k6 hb1
  go_upto_region 7 with (first
    | (refine wpList_load_row rfl 51 (.tmp 5) rfl b5 rfl 51 #[.int .u64 (fi : Int)] (0, 0) _ k52 Try.underlying51 rfl (by kernel_rfl) ?_)
    | fail)
  have K0 : Aside (la - fi + 1 = cnt ∧ SLP w (w2.alloc (.cells #[.int .u64 (fi : Int)] 51)) fi la 0 b6 w2.heap.size (.slice none 0 0)) := ⟨hcnt, ⟨hb2.alloc hb2.size _, World.ownsRow_nil _ _ _ _, Has.new _ _ _, k62.alloc _, hb2.size, by have := k62.lt; omega, (fun e => by cases e), (fun e => by cases e)⟩⟩
  clear k52 k62 hb2 n5 n6 hne hcnt HU h1 hlt
  go_loopg [7, 8] cnt (fun r s7 s8 wx => ∃ (j b8 : Nat) (sa : Option Addr) (sc : Nat), s8 = .pointer (some ⟨b8, 0, none⟩) ∧ s7 = .slice sa j sc ∧ Aside (j + r = cnt ∧ SLP w wx fi la j b6 b8 (.slice sa j sc)))
  case atStart => exact ⟨0, _, none, 0, rfl, rfl, by omega, K0.out.2⟩
  case round =>
    obtain ⟨j, b8, sa, sc, rfl, rfl, A⟩ := hrel
    have hfl := HA.out.1
    have hcn := K0.out.1
    have x8 : wr.cell? ⟨b8, 0, none⟩ = some (.int .u64 ((fi + j : Nat) : Int)) := A.out.2.cur.cell 0
    have x6 : wr.cell? ⟨b6, 0, none⟩ = some (.int .u64 (la : Int)) := A.out.2.last.cell 0
    cases gk with
    | zero =>
      have hj : j = cnt := by have := A.out.1; omega
      have hle : ¬ ((fi + j : Nat) : Int) ≤ (la : Int) := by omega
      have R : Aside (SINCE w fi cnt (.returned (.slice sa cnt sc)) wr) := by
        refine ⟨sa, sc, rfl, ?_, A.out.2.bel⟩
        have := A.out.2.row
        rw [hj] at this
        exact this
      subst hj
      clear A K0 HA HC hfl hcn
      go_wp2
      go_ret
      exact R.out
    | succ r =>
      have hjr : j + 1 + r = cnt := by have := A.out.1; omega
      have hle : ((fi + j : Nat) : Int) ≤ (la : Int) := by omega
      have HJ : Aside (j + 1 + r = cnt ∧ fi + j ≤ la ∧ j ≤ 2000) := ⟨hjr, by omega, by have := HA.out; omega⟩
      obtain ⟨kk, hkk⟩ : ∃ kk, fi + j = kk := ⟨_, rfl⟩
      have HKK : Aside (fi + j = kk) := hkk
      have k8 : Has wr b8 #[.int .u64 (kk : Int)] 51 := by rw [← hkk]; exact A.out.2.cur
      rw [hkk] at x8 hle
      clear hjr hcn hfl hkk
      go_upto_region 9 with fail
      obtain ⟨q1, _, q3⟩ := HC.out wr.drew A.out.2.bel.drew
      obtain ⟨v, hv⟩ := q3 kk (by have := HJ.out; have := HKK.out; omega)
      refine since9 wr g b8 kk (.map (some b)) v true (fun W => W = wr.drew) rfl (fun W h => by subst h; exact ⟨q1, k8, hv⟩) (fun _ _ _ _ _ h => h) ?_
      rintro w3 rfl
      dsimp only
      clear q1 q3 hv
      have A3 : Aside (SLP w wr.drew fi la j b6 b8 (.slice sa j sc)) := ⟨A.out.2.bel.drew, own_drew A.out.2.row, A.out.2.cur, A.out.2.last, A.out.2.n8, A.out.2.ne, A.out.2.a8, A.out.2.a6⟩
      have k83 : Has wr.drew b8 #[.int .u64 (kk : Int)] 51 := k8
      generalize wr.drew = w3 at *
      clear A k8 x8 x6
      go_upto_region 12 with (first
        | (refine wpList_load_row rfl 51 (.tmp 8) rfl b8 rfl 51 #[.int .u64 (kk : Int)] (0, 0) _ k83 Try.underlying51 rfl (by kernel_rfl) ?_)
        | (refine build_key _ rfl (.tmp 61) rfl kk rfl ?_)
        | (at_builtin; refine app_key _ rfl (.tmp 60) (.tmp 62) rfl w.heap.size (.slice sa j sc) j (KYS fi j) rfl (A3.out.row.alloc _) w3.heap.size 1 kk rfl (Has.new _ _ _) (by have := HJ.out; omega) (by have := A3.out.bel.size; simp; omega) ?_; intro g5 cap5 w5 hown hgrow hat hg5
           have B5 : Aside (SLP0 w w5 fi la (j + 1) b6 b8 kk (.slice (some ⟨g5, 0, none⟩) (j + 1) cap5)) := slp_app A3.out HKK.out hown hgrow hat
           have k85 := B5.out.cur
           clear hown hgrow hat hg5 A3)
        | fail)
      clear k83 hle
      go_upto_region 8 with (first
        | (refine wpList_load_row rfl 51 (.tmp 8) rfl b8 rfl 51 #[.int .u64 (kk : Int)] (0, 0) _ k85 Try.underlying51 rfl (by kernel_rfl) ?_)
        | fail)
      obtain ⟨w6, hw6⟩ : ∃ w6, w5.alloc (.cells #[.int .u64 (kk : Int)] 51) = w6 := ⟨_, rfl⟩
      obtain ⟨b9, hb9⟩ : ∃ b9, w5.heap.size = b9 := ⟨_, rfl⟩
      rw [hw6, hb9]
      have k9 : Has w6 b9 #[.int .u64 (kk : Int)] 51 := by rw [← hw6, ← hb9]; exact Has.new _ _ _
      have B6 : Aside (j + 1 + r = cnt ∧ SLP w (w6.setCell ⟨b9, 0, none⟩ (.int .u64 ((kk + 1 : Nat) : Int))) fi la (j + 1) b6 b9 (.slice (some ⟨g5, 0, none⟩) (j + 1) cap5)) := by
        have h5 := B5.out
        have l6 := h5.last.lt
        have hz := h5.bel.size
        have hg5 := (h5.row.lt g5 rfl).2
        have b6' : Below w.heap.size w w6 := by rw [← hw6]; exact h5.bel.alloc hz _
        have n9 : w.heap.size ≤ b9 := by omega
        refine ⟨HJ.out.1, ⟨b6'.setCell (p := ⟨b9, 0, none⟩) n9 _, ?_, ?_, ?_, n9, by omega, fun e => ?_, fun e => h5.a6 e⟩⟩
        · have h6 : w6.ownsRow w.heap.size 51 1 (.slice (some ⟨g5, 0, none⟩) (j + 1) cap5) (j + 1) (KYS fi (j + 1)) := by rw [← hw6]; exact h5.row.alloc _
          refine own_heap5 h6 fun k e => ?_
          have : g5 = k := by simpa [Value.ownBlock] using e
          exact Below.heap_setCell w6 ⟨b9, 0, none⟩ _ k (by show k ≠ b9; omega)
        · have := k9.set 0 (.int .u64 ((kk + 1 : Nat) : Int))
          rw [show fi + (j + 1) = kk + 1 by have := HKK.out; omega]
          exact this
        · have h6 : Has w6 b6 #[.int .u64 (la : Int)] 51 := by rw [← hw6]; exact h5.last.alloc _
          exact (Below.heap_setCell w6 ⟨b9, 0, none⟩ _ b6 (by show b6 ≠ b9; omega)).trans h6
        · have : g5 = b9 := by simpa [Value.ownBlock] using e
          omega
      have x9 : w6.cell? ⟨b9, 0, none⟩ = some (.int .u64 (kk : Int)) := k9.cell 0
      have f9 := k9.frozen 0
      have hwk : IntKind.u64.wrap ((kk : Int) + 1) = ((kk + 1 : Nat) : Int) := by
        rw [show (kk : Int) + 1 = ((kk + 1 : Nat) : Int) by omega]
        exact u64_small (by have := HA.out; have := HJ.out; have := HKK.out; omega)
      clear hw6 hb9 k9 k85 B5
      go_wp2
      go_roundg r
      case measure => exact Nat.lt_succ_self _
      case rel => exact ⟨j + 1, b9, some ⟨g5, 0, none⟩, cap5, rfl, rfl, B6.out⟩
end Go.Proofs.Ytkmcmngdainofaa

/- A store inside a larger struct: what lies behind it in its block. -/
namespace Go.Proofs.Ytkmcmngdainofaa
open Go.RowKit
set_option maxRecDepth 100000

theorem STORE.foot_lt {w : World} {B g log len alive N b : Nat} {C : CHUNKS} (hS : STORE w B g log len alive N C) (hb : FOOT w g C b) : b < w.heap.size := by
  rcases hb with e | ⟨k, gc, rs, e, h⟩
  · obtain ⟨mv, m1, m2, m3⟩ := hS.map
    rw [e] at m1
    have hm : mv = some b := by cases Option.some.inj m1; rfl
    obtain ⟨_, n, _, hc⟩ := m3 b hm
    exact hc.lt
  · obtain ⟨⟨_, z1⟩, z2, z3⟩ := (hS.chunk k gc rs e).2.1.kinds
    rcases h with rfl | ⟨v, hv, h⟩ | ⟨r, hr, rfl⟩
    · exact (Array.getElem?_eq_some_iff.1 z1).1
    · obtain ⟨_, hc⟩ := z2 v b hv h
      exact (Array.getElem?_eq_some_iff.1 hc).1
    · obtain ⟨_, hc⟩ := z3 r hr
      exact (Array.getElem?_eq_some_iff.1 hc).1
theorem STORE.foot_below {w w' : World} {B g log len alive N b : Nat} {C : CHUNKS} (hS : STORE w B g log len alive N C) (hb : Below w.heap.size w w') (hf : FOOT w' g C b) : FOOT w g C b := by
  have hg := hS.lt
  have cell : ∀ i, w'.cell? ⟨g, i, none⟩ = w.cell? ⟨g, i, none⟩ := fun i => hb.cell (by exact hg)
  rcases hf with h | ⟨k, gc, rs, e, h⟩
  · left; rw [← cell 3]; exact h
  · refine .inr ⟨k, gc, rs, e, ?_⟩
    rcases h with h | ⟨v, hv, h⟩ | h
    · exact .inl h
    · obtain ⟨x, hx, _⟩ := (hS.chunk k gc rs e).2.1.box
      exact .inr (.inl ⟨v, by rw [← hv]; exact (hb.cell (by exact hx.lt)).symm, h⟩)
    · exact .inr (.inr h)
/-- a step that may write what lies behind the store in its block. -/
structure TSTEP (w w' : World) (g : Nat) (C C' : CHUNKS) : Prop where
  foot : ∀ b, FOOT w' g C' b → FOOT w g C b ∨ w.heap.size ≤ b
  same : ∀ b, b < w.heap.size → b ≠ g → ¬ FOOT w g C b → w'.heap[b]? = w.heap[b]?
  size : w.heap.size ≤ w'.heap.size
theorem TSTEP.trans {w w' w'' : World} {g : Nat} {C C' C'' : CHUNKS} (h : TSTEP w w' g C C') (h' : TSTEP w' w'' g C' C'') : TSTEP w w'' g C C'' := by
  have hs := h.size
  refine ⟨fun b hb => ?_, fun b hb hg hf => ?_, Nat.le_trans h.size h'.size⟩
  · rcases h'.foot b hb with h1 | h1
    · exact h.foot b h1
    · exact .inr (by omega)
  · refine (h'.same b (by omega) hg (fun hf' => ?_)).trans (h.same b hb hg hf)
    rcases h.foot b hf' with h1 | h1
    · exact hf h1
    · omega
end Go.Proofs.Ytkmcmngdainofaa
