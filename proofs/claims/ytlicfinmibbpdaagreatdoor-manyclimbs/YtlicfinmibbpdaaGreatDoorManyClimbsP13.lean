/- Texts of ManyClimbs, one behind the other: ManyClimbPlain, ManySplit, PosForestMap, VerifyMap, ManyNext, StepLists, ManyMup. -/
import Derived.BigQuiet
import Derived.Deep.Cut
import Derived.Maps.OwnSet
import Derived.DeepKeys4
import Derived.Deep.AppendLies
import Derived.Test.YtlicfinmibbpdaaGreatDoorManyClimbsP12
/- What leaves and nodes lead up to: plain. -/
namespace Go.Proofs.YtlicfinmibbpdaaGreatDoor
set_option maxRecDepth 100000

/-- the hash of the k-th node of height h over the leaves L, and what is left of the hashes of leaves and of nodes. -/
def MUP (d : Int) : Nat → Nat → List Nat → List Int → List Int → List Int × List Int × List Int
  | _, _, [], lv, nd => (HSH nd 0, lv, nd.drop 32)
  | 0, _, _ :: _, lv, nd => (HSH lv 0, lv.drop 32, nd)
  | h + 1, k, x :: l, lv, nd =>
    (NODEH d (MUP d h (2 * k) ((x :: l).filter fun y => decide (y < (2 * k + 1) * 2 ^ h)) lv nd).1
      (MUP d h (2 * k + 1) ((x :: l).filter fun y => !decide (y < (2 * k + 1) * 2 ^ h)) (MUP d h (2 * k) ((x :: l).filter fun y => decide (y < (2 * k + 1) * 2 ^ h)) lv nd).2.1 (MUP d h (2 * k) ((x :: l).filter fun y => decide (y < (2 * k + 1) * 2 ^ h)) lv nd).2.2).1,
     (MUP d h (2 * k + 1) ((x :: l).filter fun y => !decide (y < (2 * k + 1) * 2 ^ h)) (MUP d h (2 * k) ((x :: l).filter fun y => decide (y < (2 * k + 1) * 2 ^ h)) lv nd).2.1 (MUP d h (2 * k) ((x :: l).filter fun y => decide (y < (2 * k + 1) * 2 ^ h)) lv nd).2.2).2)
theorem MUP_nil (d : Int) (h k : Nat) (lv nd : List Int) : MUP d h k [] lv nd = (HSH nd 0, lv, nd.drop 32) := by cases h <;> rfl
theorem MUP_take {d : Int} {h k r : Nat} {L : List Nat} {lv nd : List Int} (hL : L ≠ []) (hr : RANKS L ((2 * k + 1) * 2 ^ h) r) :
    MUP d (h + 1) k L lv nd = (NODEH d (MUP d h (2 * k) (L.take r) lv nd).1 (MUP d h (2 * k + 1) (L.drop r) (MUP d h (2 * k) (L.take r) lv nd).2.1 (MUP d h (2 * k) (L.take r) lv nd).2.2).1, (MUP d h (2 * k + 1) (L.drop r) (MUP d h (2 * k) (L.take r) lv nd).2.1 (MUP d h (2 * k) (L.take r) lv nd).2.2).2) := by
  cases L with
  | nil => exact absurd rfl hL
  | cons x l => rw [hr.take, hr.drop]; rfl
theorem ranks_some : ∀ {L : List Nat}, RISES L → ∀ t, ∃ r, RANKS L t r
  | [], _, t => ⟨0, by simp, (fun i x h => by omega), fun i x _ h => by simp at h⟩
  | x :: l, hR, t => by
    by_cases hx : x < t
    · obtain ⟨r, hr⟩ := ranks_some (L := l) (fun i j a b hij ha hb => hR (i + 1) (j + 1) a b (by omega) (by simpa using ha) (by simpa using hb)) t
      refine ⟨r + 1, by have := hr.le; simp; omega, fun i y hi hy => ?_, fun i y hi hy => ?_⟩
      · cases i with
        | zero => simp at hy; omega
        | succ i => exact hr.lo i y (by omega) (by simpa using hy)
      · cases i with
        | zero => omega
        | succ i => exact hr.hi i y (by omega) (by simpa using hy)
    · refine ⟨0, Nat.zero_le _, (fun i y h => by omega), fun i y _ hy => ?_⟩
      cases i with
      | zero => simp at hy; omega
      | succ i => have := hR 0 (i + 1) x y (by omega) rfl hy; omega
/-- leaves that lie under a node, and rise. -/
def UNR (h k : Nat) (L : List Nat) : Prop := RISES L ∧ ∀ x ∈ L, k * 2 ^ h ≤ x ∧ x < (k + 1) * 2 ^ h
theorem UNR.leaf {k x : Nat} {l : List Nat} (h : UNR 0 k (x :: l)) : l = [] := by
  cases l with
  | nil => rfl
  | cons y m =>
    have h1 := h.1 0 1 x y (by omega) rfl rfl
    have h2 := h.2 x (by simp)
    have h3 := h.2 y (by simp)
    simp at h2 h3
    omega
theorem two_pow_half (h k : Nat) : (2 * k) * 2 ^ h = k * 2 ^ (h + 1) ∧ (2 * k + 1 + 1) * 2 ^ h = (k + 1) * 2 ^ (h + 1) := by
  rw [Nat.pow_succ]
  constructor
  · rw [Nat.mul_comm 2 k, Nat.mul_assoc, Nat.mul_comm 2]
  · rw [show 2 * k + 1 + 1 = 2 * (k + 1) by omega, Nat.mul_comm 2 (k + 1), Nat.mul_assoc, Nat.mul_comm 2]
theorem UNR.left {h k r : Nat} {L : List Nat} (hL : UNR (h + 1) k L) (hr : RANKS L ((2 * k + 1) * 2 ^ h) r) : UNR h (2 * k) (L.take r) := by
  refine ⟨hL.1.take r, fun x hx => ?_⟩
  have h1 := hL.2 x (List.mem_of_mem_take hx)
  obtain ⟨i, hi⟩ := List.getElem?_of_mem hx
  rw [List.getElem?_take] at hi
  split at hi
  · rename_i hlt
    have h2 := hr.lo i x hlt hi
    have h3 := two_pow_half h k
    omega
  · cases hi
theorem UNR.right {h k r : Nat} {L : List Nat} (hL : UNR (h + 1) k L) (hr : RANKS L ((2 * k + 1) * 2 ^ h) r) : UNR h (2 * k + 1) (L.drop r) := by
  refine ⟨hL.1.drop r, fun x hx => ?_⟩
  have h1 := hL.2 x (List.mem_of_mem_drop hx)
  obtain ⟨i, hi⟩ := List.getElem?_of_mem hx
  rw [List.getElem?_drop] at hi
  have h2 := hr.hi (r + i) x (by omega) hi
  have h3 := two_pow_half h k
  omega
/-- so many hashes. -/
def HSS (n : Nat) (l : List Int) : Prop := l.length = 32 * n ∧ ∀ x ∈ l, 0 ≤ x ∧ x ≤ 255
theorem HSS.first {n : Nat} {l : List Int} (h : HSS n l) (hn : 0 < n) : IsH (HSH l 0) := by
  refine ⟨?_, fun x hx => h.2 x (List.mem_of_mem_drop (List.mem_of_mem_take hx))⟩
  unfold HSH
  rw [List.length_take, List.length_drop, h.1]
  omega
theorem HSS.rest {n : Nat} {l : List Int} (h : HSS n l) : HSS (n - 1) (l.drop 32) := ⟨by rw [List.length_drop, h.1]; omega, fun x hx => h.2 x (List.mem_of_mem_drop hx)⟩
/-- how many hashes are taken, and that what comes out is one. -/
theorem MUP_spec (d : Int) : ∀ (h k : Nat) (L : List Nat) (lv nd : List Int) (i j : Nat), UNR h k L → HSS i lv → HSS j nd → L.length ≤ i → (NEED h k L).length ≤ j →
    IsH (MUP d h k L lv nd).1 ∧ HSS (i - L.length) (MUP d h k L lv nd).2.1 ∧ HSS (j - (NEED h k L).length) (MUP d h k L lv nd).2.2 := by
  intro h
  induction h with
  | zero =>
    intro k L lv nd i j hU hi hj h1 h2
    cases L with
    | nil => rw [NEED_nil] at h2 ⊢; exact ⟨hj.first h2, hi, hj.rest⟩
    | cons x l =>
      obtain rfl := hU.leaf
      exact ⟨hi.first h1, hi.rest, hj⟩
  | succ h ih =>
    intro k L lv nd i j hU hi hj h1 h2
    by_cases hL : L = []
    · subst hL
      rw [NEED_nil] at h2 ⊢
      exact ⟨hj.first h2, hi, hj.rest⟩
    · obtain ⟨r, hr⟩ : ∃ r, RANKS L ((2 * k + 1) * 2 ^ h) r := ranks_some hU.1 _
      have hN := NEED_take hL hr
      rw [hN, List.length_append] at h2
      have hle := hr.le
      have q1 := ih (2 * k) (L.take r) lv nd i j (hU.left hr) hi hj (by rw [List.length_take]; omega) (by omega)
      have q2 := ih (2 * k + 1) (L.drop r) _ _ _ _ (hU.right hr) q1.2.1 q1.2.2 (by rw [List.length_take, List.length_drop]; omega) (by omega)
      rw [MUP_take hL hr, hN, List.length_append]
      refine ⟨NODEH_is _ _ _, ?_, ?_⟩
      · have := q2.2.1
        rwa [List.length_take, List.length_drop, show i - min r L.length - (L.length - r) = i - L.length by omega] at this
      · have := q2.2.2
        rwa [Nat.sub_sub] at this
/-- peak by peak. -/
def MUPS (d : Int) : List (Nat × Nat) → List Nat → List Int → List Int → List Int
  | [], _, _, _ => []
  | (h, k) :: ps, L, lv, nd => (MUP d h k (L.filter fun y => decide (y < (k + 1) * 2 ^ h)) lv nd).1 ++ MUPS d ps (L.filter fun y => !decide (y < (k + 1) * 2 ^ h)) (MUP d h k (L.filter fun y => decide (y < (k + 1) * 2 ^ h)) lv nd).2.1 (MUP d h k (L.filter fun y => decide (y < (k + 1) * 2 ^ h)) lv nd).2.2
theorem MUPS_take {d : Int} {h k r : Nat} {L : List Nat} {lv nd : List Int} (ps : List (Nat × Nat)) (hr : RANKS L ((k + 1) * 2 ^ h) r) : MUPS d ((h, k) :: ps) L lv nd = (MUP d h k (L.take r) lv nd).1 ++ MUPS d ps (L.drop r) (MUP d h k (L.take r) lv nd).2.1 (MUP d h k (L.take r) lv nd).2.2 := by
  rw [MUPS, hr.take, hr.drop]
end Go.Proofs.YtlicfinmibbpdaaGreatDoor

/- What split of package many answers. -/
namespace Go.Proofs.YtlicfinmibbpdaaGreatDoor
open Go.RowKit
set_option maxRecDepth 100000

/-- what need does: all places are told, or one of them was refused. -/
def TOLD (S P : List Nat → World → Prop) (X : List PanicEntry) (acc l : List Nat) (e : Ending) (w' : World) : Prop := (e = .returned (.tuple #[]) ∧ S (acc ++ l) w') ∨ ∃ pre p, (pre ++ [p]) <+: (acc ++ l) ∧ e = .panicked X ∧ P pre w'
/-- what split answers. -/
structure SPLIT (w w' : World) (a : Option Addr) (n c : Nat) (L : List Nat) (t r : Nat) (a' : Option Addr) : Prop where
  rank : RANKS L t r
  lies : NUML w a' (L.drop r)
  nil : a' = none → c - r = 0
  block : ∀ x, a' = some x → ∃ y, a = some y ∧ x.block = y.block
  spot : ∀ x, a' = some x → x.spot = none
  below : Below w.heap.size w w'
set_option maxHeartbeats 1000000 in
theorem split_ok (h k : Nat) (hN : Node h k) (a : Option Addr) (n c : Nat) (L : List Nat) (hl : L.length = n) (hn : n < 2 ^ 40) (hR : RISES L) (hc : n ≤ c) (hnil : a = none → c = 0) (hsp : ∀ x, a = some x → x.spot = none) (w : World) (hL : NUML w a L) :
    Calls Tryz.prog 70 #[.slice a n c, .int .u64 ((PLC h k : Nat) : Int)] w fun e w' => ∃ r a', e = .returned (.tuple #[.slice a r c, .slice a' (n - r) (c - r)]) ∧ SPLIT w w' a n c L ((k + 1) * 2 ^ h) r a' := by
  have cu := under_ok h k hN w
  obtain ⟨t, ht⟩ : ∃ t, (k + 1) * 2 ^ h = t := ⟨_, rfl⟩
  rw [ht] at cu ⊢
  have HA : Aside (L.length = n ∧ n < 2 ^ 40 ∧ RISES L ∧ NUML w a L ∧ n ≤ c) := ⟨hl, hn, hR, hL, hc⟩
  have NI : Aside (a = none → c = 0) := hnil
  have SP : Aside (∀ x, a = some x → x.spot = none) := hsp
  clear hl hn hR hL hc hnil hsp ht
  go_enter Tryz.func70, Tryz.ntmps70
  go_wp2_with fail
  refine cu.mono ?_
  rintro e w1 ⟨rfl, hb1⟩
  clear cu
  have cs := search_ok a n c L t HA.out.1 HA.out.2.1 HA.out.2.2.1 w1 (fun h0 => by
    obtain ⟨b, o, e, hl, hc⟩ := HA.out.2.2.2.1 h0
    exact ⟨b, o, e, Nat.lt_of_lt_of_le hl hb1.size, fun i x hx => (hb1.cell (p := ⟨b, o + i, none⟩) hl).trans (hc i x hx)⟩)
  have B1 : Aside (Below w.heap.size w w1) := hb1
  clear hb1
  go_wp2_with fail
  refine cs.mono ?_
  rintro e w2 ⟨r, f, rfl, hr, rfl⟩
  clear cs
  have hrn : r ≤ n := by have := hr.le; have := HA.out.1; omega
  have y1 : (r : Int) ≤ (c : Int) := by have := HA.out.2.2.2.2; omega
  have y2 : (r : Int) ≤ (n : Int) := by omega
  have y3 : (0 : Int) ≤ (r : Int) := by omega
  have RK : Aside (RANKS L t r) := hr
  clear hr
  cases a with
  | none =>
    have h0 := NI.out rfl
    subst h0
    have hr0 : r = 0 := by omega
    subst hr0
    have hn0 : n = 0 := by have := HA.out.2.2.2.2; omega
    subst hn0
    have FN : Aside (∀ W, Below w.heap.size w W → SPLIT w W none 0 0 L t 0 none) := fun W hb => ⟨RK.out, fun h => by have := HA.out.1; simp at h; omega, fun _ => rfl, (fun x e => by cases e), (fun x e => by cases e), hb⟩
    clear HA NI SP RK
    go_upto_region 3 with fail
    go_quiet (fail)
    go_wp2
    go_ret2
    exact ⟨0, none, rfl, FN.out _ (below_drewN B1.out _)⟩
  | some x =>
    obtain ⟨b, o, sp⟩ := x
    have hsp : sp = none := SP.out _ rfl
    subst hsp
    by_cases hcr : c = r
    · have FN : Aside (∀ W, Below w.heap.size w W → SPLIT w W (some ⟨b, o, none⟩) n c L t r (some ⟨b, o, none⟩)) := fun W hb => ⟨RK.out, fun h => by have := HA.out.1; have := HA.out.2.2.2.2; simp at h; omega, (fun e => by cases e), (fun x e => ⟨_, rfl, by cases e; rfl⟩), (fun x e => by cases e; rfl), hb⟩
      clear HA NI SP RK
      go_upto_region 3 with fail
      go_quiet (fail)
      go_wp2
      go_ret2
      exact ⟨r, _, by rw [hcr, Nat.sub_self]; rfl, FN.out _ (below_drewN B1.out _)⟩
    · have FN : Aside (∀ W, Below w.heap.size w W → SPLIT w W (some ⟨b, o, none⟩) n c L t r (some ⟨b, o + r, none⟩)) := fun W hb => by
        refine ⟨RK.out, fun h => ?_, (fun e => by cases e), (fun x e => ⟨_, rfl, by cases e; rfl⟩), (fun x e => by cases e; rfl), hb⟩
        obtain ⟨b', o', e, hl, hc⟩ := HA.out.2.2.2.1 (by simp at h; omega)
        cases e
        refine ⟨b, o + r, rfl, hl, fun i x hx => ?_⟩
        rw [List.getElem?_drop] at hx
        rw [Nat.add_assoc]
        exact hc (r + i) x hx
      clear HA NI SP RK
      go_upto_region 3 with fail
      go_quiet (fail)
      go_wp2
      go_ret2
      exact ⟨r, _, rfl, FN.out _ (below_drewN B1.out _)⟩
end Go.Proofs.YtlicfinmibbpdaaGreatDoor

/- A map from spots to places, made by the call. -/
namespace Go.Proofs.YtlicfinmibbpdaaGreatDoor
open Go.RowKit Go.Maps
set_option maxRecDepth 100000

theorem laidOutP : laidOutB Tryz.prog = true := by kernel_rfl
theorem rowSpot : (67 : TypeId) < Tryz.prog.types.size := of_decide_eq_true (by kernel_rfl)
theorem wideSpot : (match Tryz.prog.underlying 67 with | some (.array _ _) | some (.struct _) => true | _ => false) = true := by rw [Tryz.underlying67]
theorem law : Keyed Tryz.prog 67 := Keyed.of_law (deep_law_laid laidOutP (m := 2) (by omega) rowSpot (by kernel_rfl) wideSpot)
/-- what a spot reads as, as a key. -/
def KL (h k : Nat) : Lit := .string (keyBytes [.int .u8 (h : Int), .int .u64 (k : Int)])
theorem key_ok {h k : Nat} (hh : h < 256) (hk : k < 2 ^ 64) : keyOf Tryz.prog 67 (SPOT h k) = some (KL h k) := by
  have w0 : (Lit.int .u8 (h : Int)).wf = true := WalkArith.wf_u8 (by omega)
  have w1 : (Lit.int .u64 (k : Int)).wf = true := WalkArith.wf_u64 (by omega)
  have c3 : Tryz.prog.cellsOf 67 = 2 := by kernel_rfl
  have c1 : Tryz.prog.cellsOf 5 = 1 := by kernel_rfl
  have c2 : Tryz.prog.cellsOf 23 = 1 := by kernel_rfl
  have ht : Tryz.prog.keyType 67 = true := by kernel_rfl
  have hf : (SPOT h k).formed Tryz.prog 67 = true := by simp [Value.formed, Tryz.underlying67, c3]
  obtain ⟨m, hm⟩ : ∃ m, Tryz.prog.types.size = m + 1 := ⟨Tryz.prog.types.size - 1, (Nat.succ_pred_eq_of_pos (Nat.lt_of_le_of_lt (Nat.zero_le _) rowSpot)).symm⟩
  unfold keyOf
  simp only [Tryz.underlying67, ht, hf, hm]
  simp [Program.keyLits, Tryz.underlying67, Tryz.underlying5, Tryz.underlying23, c1, c2, c3, Value.cells, w0, w1, KL]
theorem KL_inj {h k h' k' : Nat} (hh : h < 256) (hk : k < 2 ^ 64) (hh' : h' < 256) (hk' : k' < 2 ^ 64) (e : KL h k = KL h' k') : h = h' ∧ k = k' := by
  have h1 := key_ok hh hk
  have h2 := key_ok hh' hk'
  rw [← e] at h2
  have := law.inj h1 h2
  simp at this
  omega
/-- a number as a datum. -/
abbrev U64 (n : Nat) : DataW Unit := .lit (.int .u64 (n : Int))
/-- the map holds just the nodes ahead of m, each with its place. -/
def MapOk (D : DataW Unit) (m : Nat) : Prop := ∀ h k, h < 256 → k < 2 ^ 64 → (Maps.has D (KL h k) = true ↔ Node h k ∧ PLC h k < m) ∧ (Node h k → PLC h k < m → D.atKey (KL h k) (U64 0) = U64 (PLC h k))
theorem Node.small {h k : Nat} (a : Node h k) : h < 256 ∧ k < 2 ^ 64 := ⟨by have := a.1; omega, by have := a.index_lt; omega⟩
theorem MapOk.put {D : DataW Unit} {m h k : Nat} (hD : Maps.IsMap D) (hM : MapOk D m) (hN : Node h k) (hp : PLC h k = m) : MapOk (D.put (KL h k) (U64 m)) (m + 1) := by
  intro h' k' hh' hk'
  obtain ⟨hh, hk⟩ := hN.small
  have hkey : WideAt.IsKeyLit (KL h k) := law.key (key_ok hh hk)
  by_cases e : KL h' k' = KL h k
  · obtain ⟨rfl, rfl⟩ := KL_inj hh' hk' hh hk e
    exact ⟨⟨fun _ => ⟨hN, by omega⟩, fun _ => Maps.has_put_same hD hkey _⟩, fun _ _ => by rw [Maps.atKey_put_same hD hkey, hp]⟩
  · have hne : ∀ _ : Node h' k', PLC h' k' ≠ m := fun hN' e2 => e (by obtain ⟨rfl, rfl⟩ := hN'.one hN (by omega); rfl)
    rw [Maps.has_put_other e, Maps.atKey_put_other e]
    obtain ⟨a, b⟩ := hM h' k' hh' hk'
    refine ⟨⟨fun h => ?_, fun h => ?_⟩, fun h1 h2 => b h1 (by have := hne h1; omega)⟩
    · have := a.1 h
      exact ⟨this.1, by omega⟩
    · exact a.2 ⟨h.1, by have := hne h.1; omega⟩
/-- block b is such a map. -/
def Placed (w : World) (b m : Nat) : Prop := ∃ D : DataW Unit, w.ownsMap Tryz.prog 67 (plainElem Tryz.prog 23) b m D ∧ MapOk D m
theorem Placed.kept {w w' : World} {b m : Nat} {row : Option Nat} (h : Placed w b m) (hg : w.grownBy w' row) (hne : some b ≠ row) : Placed w' b m := let ⟨D, h1, h2⟩ := h; ⟨D, h1.kept hg hne, h2⟩
theorem Placed.lt {w : World} {b m : Nat} (h : Placed w b m) : b < w.heap.size := let ⟨_, h1, _⟩ := h; h1.lt
theorem Placed.below {w w' : World} {b m : Nat} (h : Placed w b m) (hb : Below w.heap.size w w') : Placed w' b m := by
  have hlt := h.lt
  obtain ⟨D, ⟨es, clock, h1, r⟩, h2⟩ := h
  exact ⟨D, ⟨es, clock, (hb.block b hlt).trans h1, r⟩, h2⟩
theorem Placed.alloc {w : World} {b m : Nat} (h : Placed w b m) (o : Obj) : Placed (w.alloc o) b m := h.below ((Below.refl _ _).alloc (Nat.le_refl _) _)
theorem Placed.setCell {w : World} {b m : Nat} (h : Placed w b m) {a : Addr} (ha : b ≠ a.block) (u : Value) : Placed (w.setCell a u) b m := let ⟨D, h1, h2⟩ := h; ⟨D, h1.setCell ha u, h2⟩
end Go.Proofs.YtlicfinmibbpdaaGreatDoor

/- A map from spots to hashes, made by the call. -/
namespace Go.Proofs.YtlicfinmibbpdaaGreatDoor
open Go.RowKit Go.Maps
set_option maxRecDepth 100000

/-- how a value reads: as itself. -/
def RV (v : Value) : Option (DataW Value × List MemPlace) := some (.held v, [])
/-- block b is a map that holds the hash M h k at each spot (h, k): zero where it has none. -/
def SMAP (w : World) (b n : Nat) (M : Nat → Nat → List Int) : Prop := ∃ D : DataW Value, w.ownsMap Tryz.prog 67 RV b n D ∧ ∀ h k, h < 256 → k < 2 ^ 64 → D.atKey (KL h k) (.held (.agg ZARR)) = .held (.agg (CELLS (M h k)).toArray)
theorem SMAP.lt {w : World} {b n : Nat} {M : Nat → Nat → List Int} (h : SMAP w b n M) : b < w.heap.size := let ⟨_, h1, _⟩ := h; h1.lt
theorem SMAP.at {w w' : World} {b n : Nat} {M : Nat → Nat → List Int} (h : SMAP w b n M) (hb : w'.heap[b]? = w.heap[b]?) : SMAP w' b n M := by
  obtain ⟨D, ⟨es, clock, h1, r⟩, h2⟩ := h
  exact ⟨D, ⟨es, clock, hb.trans h1, r⟩, h2⟩
theorem SMAP.below {w w' : World} {b n : Nat} {M : Nat → Nat → List Int} (h : SMAP w b n M) (hb : Below w.heap.size w w') : SMAP w' b n M := h.at (hb.block b h.lt)
end Go.Proofs.YtlicfinmibbpdaaGreatDoor

/- next of package many: the first hash of a list is taken. -/
namespace Go.Proofs.YtlicfinmibbpdaaGreatDoor
open Go.RowKit
set_option maxRecDepth 100000

/-- all blocks but one are as they were. -/
def BUT (bc : Nat) (w w' : World) : Prop := (∀ q, q < w.heap.size → q ≠ bc → w'.heap[q]? = w.heap[q]?) ∧ Below bc w w'
theorem BUT.refl (bc : Nat) (w : World) : BUT bc w w := ⟨fun _ _ _ => rfl, Below.refl _ _⟩
theorem BUT.trans {bc : Nat} {w w1 w2 : World} (h : BUT bc w w1) (h' : BUT bc w1 w2) : BUT bc w w2 :=
  ⟨fun q hq hne => (h'.1 q (Nat.lt_of_lt_of_le hq h.2.size) hne).trans (h.1 q hq hne), h.2.trans h'.2⟩
theorem BUT.of_below {bc : Nat} {w w' : World} (hb : Below w.heap.size w w') (hc : bc ≤ w.heap.size) : BUT bc w w' := ⟨fun q hq _ => hb.block q hq, hb.mono hc⟩
theorem Flat.but {bc : Nat} {w w' : World} {a : Option Addr} {n : Nat} {l : List Int} (h : Flat w a n l) (hb : BUT bc w w') (ha : ∀ x, a = some x → x.block ≠ bc) : Flat w' a n l := by
  refine ⟨h.1, fun h0 => ?_, h.2.2⟩
  obtain ⟨b, o, e, hlt, hc⟩ := h.2.1 h0
  exact ⟨b, o, e, Nat.lt_of_lt_of_le hlt hb.2.size, fun j hj => (World.cell?_of_block (w := w) (by exact hb.1 b hlt (ha _ e))).trans (hc j hj)⟩
theorem results_first {fn : Func} {p : Tmp} {ty : TypeId} (h : fn.results = #[.cell p ty]) (tmps : Array Value) (w : World) (g : Nat) (t : TypeId) (cs : Array Value) (fr : Nat × Nat) (k : Nat) (el : TypeId)
    (hp : tmps.getD p undef = .pointer (some ⟨g, 0, none⟩)) (hg : w.heap[g]? = some (.cells cs t fr))
    (hu : Tryz.prog.underlying ty = some (.array k el)) (hi : (Tryz.prog.info? ty).map (·.size) = some cs.size) :
    (results fn tmps).run Tryz.prog w = .ok (.agg cs) w := by
  have hp' : tmps[p]?.getD undef = .pointer (some ⟨g, 0, none⟩) := by simpa using hp
  simp [results, h, hp', asAddr, run_loadVar_row w g t ty cs fr (.array k el) hg hu rfl hi]
theorem slice_one (b off n c : Nat) (hk : 0 < n) (hc : n ≤ c) (w : World) : (Instr.slice 22 (.slice (some ⟨b, off, none⟩) n c) (some (.int .i64 1)) none none).run Tryz.prog w = .ok (.slice (SLA (some ⟨b, off, none⟩) c 1) (n - 1) (c - 1)) w := slice_hashes b off n c 1 hk hc w
set_option maxHeartbeats 4000000 in
theorem next_ok (bc i b o n c : Nat) (l : List Int) (cs : Array Value) (w : World) (hH : Has w bc cs 113) (hi : cs[i]? = some (.slice (some ⟨b, o, none⟩) n c)) (hn : 0 < n) (hc : n ≤ c) (hb : b ≠ bc) (hF : Flat w (some ⟨b, o, none⟩) n l) :
    Calls Tryz.prog 109 #[.pointer (some ⟨bc, i, none⟩)] w fun e w' => e = .returned (.agg (CELLS (HSH l 0)).toArray) ∧ Has w' bc (cs.setIfInBounds i (.slice (SLA (some ⟨b, o, none⟩) c 1) (n - 1) (c - 1))) 113 ∧ BUT bc w w' := by
  have y32 := HSH_length hF.1 hn
  have hbl := hH.lt
  obtain ⟨W0, hW0⟩ : ∃ W0, w.alloc (.cells ZARR 38) = W0 := ⟨_, rfl⟩
  obtain ⟨b2, hb2⟩ : ∃ b2, w.heap.size = b2 := ⟨_, rfl⟩
  have R0 : Aside (Below w.heap.size w W0 ∧ Has W0 b2 (CELLS ZND).toArray 38 ∧ Has W0 bc cs 113 ∧ bc < b2 ∧ w.heap.size = b2) := by
    rw [← hW0, ← hb2]
    exact ⟨(Below.refl _ _).alloc (Nat.le_refl _) _, by rw [ZARR_eq]; exact Has.new _ _ _, hH.alloc _, hbl, rfl⟩
  have hlt : (0 : Int) < (n : Int) := by omega
  have hat : W0.rangeAt b (o + 0 * 32) (CELLS (HSH l 0)) := (hF.below R0.out.1).at hn
  have x0 : W0.cell? ⟨bc, i, none⟩ = some (.slice (some ⟨b, o, none⟩) n c) := (R0.out.2.2.1.cell i).trans hi
  have hsl : Aside (∀ w, (Instr.slice 22 (.slice (some ⟨b, o, none⟩) n c) (some (.int .i64 1)) none none).run Tryz.prog w = .ok (.slice (SLA (some ⟨b, o, none⟩) c 1) (n - 1) (c - 1)) w) := slice_one b o n c hn hc
  have B : Aside (b ≠ bc) := hb
  have HI : Aside (cs[i]? = some (.slice (some ⟨b, o, none⟩) n c)) := hi
  clear hF hn hc hH hbl hb hi
  generalize HSH l 0 = Y at *
  generalize SLA (some ⟨b, o, none⟩) c 1 = a' at *
  generalize n - 1 = n' at *
  generalize c - 1 = c' at *
  go_enter Tryz.func109, Tryz.ntmps109
  go_upto_region 2 with (first
    | (refine wpList_load_mid rfl 38 (.tmp 7) rfl b (o + 0 * 32) rfl (CELLS Y) _ hat Tryz.underlying38 rfl (info_cells y32) ?_)
    | (refine wpList_store_row rfl 38 (.tmp 3) (.tmp 8) rfl _ _ rfl rfl 38 _ (Has.new W0 _ _) (info_arr y32) (by simp [CELLS, y32]) (cells_one Y) ?_; rw [World.setRow_alloc_new]))
  clear hW0 hat x0 hlt
  have R1 : Aside (Below w.heap.size w (W0.alloc (.cells (CELLS Y).toArray 38)) ∧ Has (W0.alloc (.cells (CELLS Y).toArray 38)) b2 (CELLS ZND).toArray 38 ∧ Has (W0.alloc (.cells (CELLS Y).toArray 38)) W0.heap.size (CELLS Y).toArray 38 ∧ Has (W0.alloc (.cells (CELLS Y).toArray 38)) bc cs 113 ∧ b2 < W0.heap.size) := ⟨R0.out.1.alloc R0.out.1.size _, R0.out.2.1.alloc _, Has.new _ _ _, R0.out.2.2.1.alloc _, R0.out.2.1.lt⟩
  generalize W0.alloc (.cells (CELLS Y).toArray 38) = W1 at *
  generalize W0.heap.size = b3 at *
  have x1 : W1.cell? ⟨bc, i, none⟩ = some (.slice (some ⟨b, o, none⟩) n c) := (R1.out.2.2.2.1.cell i).trans HI.out
  have f1 := R1.out.2.2.2.1.frozen i
  have hs2 := hsl.out
  obtain ⟨V, hV⟩ : ∃ V, Value.slice a' n' c' = V := ⟨_, rfl⟩
  have H3 : Has (W1.setCell ⟨bc, i, none⟩ V) b3 (CELLS Y).toArray 38 := R1.out.2.2.1.other (by show b3 ≠ bc; have := R1.out.2.2.2.2; have := R0.out.2.2.2.1; omega) _
  have H2 : Has (W1.setCell ⟨bc, i, none⟩ V) b2 (CELLS ZND).toArray 38 := R1.out.2.1.other (by show b2 ≠ bc; have := R0.out.2.2.2.1; omega) _
  have FN : Aside (Has ((W1.setCell ⟨bc, i, none⟩ V).setRow b2 (CELLS Y).toArray) bc (cs.setIfInBounds i V) 113 ∧ BUT bc w ((W1.setCell ⟨bc, i, none⟩ V).setRow b2 (CELLS Y).toArray)) := by
    have h1 := R0.out.2.2.2
    refine ⟨(R1.out.2.2.2.1.set i V).row_other (by omega) _, fun q hq hne => ?_, ?_⟩
    · rw [setRow_other _ b2 q _ (by omega), Below.heap_setCell _ _ _ _ (by exact hne)]
      exact R1.out.1.block q hq
    · exact below_row ((R1.out.1.mono (by show bc ≤ _; omega)).setCell (p := ⟨bc, i, none⟩) (Nat.le_refl _) _) (by show bc ≤ _; omega) _
  subst hV
  clear hsl R0 R1 B HI
  go_wp2_with (first
    | (refine wpList_load_row rfl 38 (.tmp 3) rfl b3 rfl 38 (CELLS Y).toArray (0, 0) _ H3 Tryz.underlying38 rfl (info_arr y32) ?_)
    | (refine wpList_store_row rfl 38 (.tmp 2) (.tmp 15) rfl _ _ rfl rfl 38 _ H2 (info_arr y32) (by simp [CELLS, y32]; rfl) (cells_one Y) ?_))
  refine bodyPost_ret (v := .agg (CELLS Y).toArray) (results_first rfl _ _ b2 38 _ (0, 0) _ _ rfl (Has.row H2 _) Tryz.underlying38 (info_arr y32)) rfl ⟨rfl, FN.out⟩
end Go.Proofs.YtlicfinmibbpdaaGreatDoor

/- Laws of one operation, at a step of a region that draws its order. -/
namespace Go.Proofs.YtlicfinmibbpdaaGreatDoor
open Go.RowKit
set_option maxRecDepth 100000

theorem wp_both {P : Program} {o : Oper} {a : Act} {w : World} {K K' : Act → World → Prop} {Q Q' : Exit → Act → World → Prop} (h : ∀ a w, K a w → K' a w) (hq : ∀ c a w, Q (.panic c) a w → Q' (.panic c) a w) (hl : LetsOut Q → LetsOut Q') (hh : o.wp P a w K Q) : o.wp P a w K' Q' := by
  unfold Oper.wp at *
  generalize (execOp a.eval o).run P w = r at *
  cases r with
  | ok n w' =>
    cases n <;> simp only [Oper.upon] at hh ⊢ <;>
      first
        | exact h _ _ hh
        | exact Calls.mono hh (fun e w'' he => by cases e <;> first | exact h _ _ he | exact hq _ _ _ he | exact hl he)
        | exact Rows.mono hh (fun _ _ he => h _ _ he)
  | halt x w' => cases x <;> simp only [Oper.upon] at hh ⊢ <;> first | exact hq _ _ _ hh | exact hh
/-- a law of one operation in a row serves at a step. -/
theorem step_of_list {P : Program} {ops : Array Oper} {o : Oper} {a : Act} {w : World} {K : Act → World → Prop} {Q : Exit → Act → World → Prop} {E : Prop} (hw : Region.wanted o (yielded ops a.tmps) = true)
    (h : wpList P ops (fun e a w => e = Exit.normal ∧ K a w) [o] a w) : if Region.wanted o (yielded ops a.tmps) = true then Oper.wp P o a w K Q else E := by
  rw [if_pos hw]
  unfold wpList at h
  rw [if_pos hw] at h
  rcases h with h | ⟨_, a', w', h', _⟩
  · exact wp_both (fun a w h => by unfold wpList at h; exact h.2) (fun c a w h => by cases h.1) (fun h => by obtain ⟨_, _, h, _⟩ := h; cases h) h
  · cases h'
/-- an operation that gives a value. -/
theorem step_valw {ops : Array Oper} {o : Oper} {a : Act} {w w' : World} {K : Act → World → Prop} {Q : Exit → Act → World → Prop} {E : Prop} {v : Value} (hw : Region.wanted o (yielded ops a.tmps) = true)
    (hrun : (execOp a.eval o).run Tryz.prog w = .ok (.value v) w') (h : K (a.put o.dst v) w') : if Region.wanted o (yielded ops a.tmps) = true then Oper.wp Tryz.prog o a w K Q else E := by
  rw [if_pos hw]
  unfold Oper.wp
  rw [hrun]
  exact h
/-- one element of one cell is appended. -/
theorem step_push {P : Program} {ops : Array Oper} {o : Oper} {a : Act} {K : Act → World → Prop} {Q : Exit → Act → World → Prop} {E : Prop} (w : World) (hgd : o.guard = none) (s x : Operand) (t e : TypeId) (z : Value) (bt : Nat)
    (ho : o.op = .call { callee := .builtin .append, args := #[s, x], argTypes := #[t, t] }) (hu : P.underlying t = some (.slice e)) (hi : (P.info? e).map (fun i => (i.zero, i.size, i.bytes)) = some (some z, 1, bt)) (hz : z.cells.size = 1) (hbt : bt ≤ 1000)
    (base : Nat) (v : Value) (n : Nat) (xs : List Value) (hs : a.eval s = v) (hown : w.ownsRow base e 1 v n xs)
    (b c : Nat) (u : Value) (hx : a.eval x = .slice (some ⟨b, 0, none⟩) 1 c) (hc0 : w.cell? ⟨b, 0, none⟩ = some u) (h1 : u.oneCell' = true) (hb : n ≤ 100000) (hbase : base ≤ w.heap.size)
    (hh : ∀ g cap w', w'.ownsRow base e 1 (.slice (some ⟨g, 0, none⟩) (n + 1) cap) (n + 1) (xs ++ [u]) → w.grownBy w' v.ownBlock → (v.ownBlock = some g ∨ g = w.heap.size) → g < w'.heap.size → K (a.put o.dst (.slice (some ⟨g, 0, none⟩) (n + 1) cap)) w') : if Region.wanted o (yielded ops a.tmps) = true then Oper.wp P o a w K Q else E := by
  obtain ⟨i, hi, h8⟩ := Option.map_eq_some_iff.1 hi
  simp only [Prod.mk.injEq] at h8
  have hbb : (n + 1) * bt ≤ 140737488355328 := Nat.le_trans (Nat.mul_le_mul (Nat.add_le_add_right hb 1) hbt) (by decide)
  refine step_append_lies w hgd s x t ho base e i z 1 bt hu hi h8.1 h8.2.1 h8.2.2 hz (by decide) v n xs hs hown ⟨b, 0, none⟩ 1 c [u] hx rfl ?_ (fun u2 hu => by simp at hu; subst hu; exact h1) (by decide) (by simp only [maxLen]; omega) hbb hbase w.heap.size rfl hh
  intro j u2 hj
  cases j with
  | zero =>
    simp only [List.getElem?_cons_zero, Option.some.injEq] at hj
    subst hj
    exact hc0
  | succ j => simp at hj
end Go.Proofs.YtlicfinmibbpdaaGreatDoor

/- What up of package many and the document's over build and store. -/
namespace Go.Proofs.YtlicfinmibbpdaaGreatDoor
open Go.RowKit
set_option maxRecDepth 100000

/-- a step as it lies in memory. -/
def MSTP (A B Y : List Int) : Array Value := (CELLS A ++ CELLS B ++ CELLS Y).toArray
theorem list32m (l : List Int) (h : l.length = 32) : ∃ f : Nat → Int, l = (List.range 32).map f := by
  refine ⟨fun i => l.getD i 0, List.ext_getElem (by simp [h]) fun i h1 h2 => ?_⟩
  simp [List.getD_eq_getElem?_getD, List.getElem?_eq_getElem h1]
theorem built_mstep (A B Y : List Int) (lA : A.length = 32) (lB : B.length = 32) (lY : Y.length = 32) : Tryz.prog.built 73 [(0, .agg (CELLS A).toArray), (1, .agg (CELLS B).toArray), (2, .agg (CELLS Y).toArray)] = some (MSTP A B Y) := by
  obtain ⟨f, rfl⟩ := list32m A lA
  obtain ⟨g, rfl⟩ := list32m B lB
  obtain ⟨h, rfl⟩ := list32m Y lY
  kernel_rfl
theorem MSTP_size {A B Y : List Int} (lA : A.length = 32) (lB : B.length = 32) (lY : Y.length = 32) : (MSTP A B Y).size = 96 := by simp [MSTP, CELLS, lA, lB, lY]
theorem info_mstep {A B Y : List Int} (lA : A.length = 32) (lB : B.length = 32) (lY : Y.length = 32) : (Tryz.prog.info? 73).map (·.size) = some (CELLS A ++ CELLS B ++ CELLS Y).length := by
  have e : (CELLS A ++ CELLS B ++ CELLS Y).length = 96 := by simp [CELLS, lA, lB, lY]
  have h : (Tryz.prog.info? 73).map (·.size) = some 96 := by kernel_rfl
  rw [e]
  exact h
theorem run_value10 {s : Sem Value} {w w' : World} {v : Value} (h : s.run Tryz.prog w = .ok v w') : (do pure (Next.value (← s)) : Sem Next).run Tryz.prog w = .ok (.value v) w' := by
  simp [h]
theorem run_skip10 {s : Sem Unit} {w w' : World} (h : s.run Tryz.prog w = .ok () w') : (do s; pure Next.skip : Sem Next).run Tryz.prog w = .ok .skip w' := by
  simp [h]
theorem alloc_mstep {a : Act} (w : World) (o : Oper) (ho : o.op = .alloc 73) : (execOp a.eval o).run Tryz.prog w = .ok (.value (.pointer (some ⟨w.heap.size, 0, none⟩))) (w.alloc (.cells (MSTP ZND ZND ZND) 73)) := by
  simp [execOp, ho, go_sem]
  rfl
theorem store_hash10 {w : World} {g : Nat} {A X : List Int} (h : Has w g (CELLS A).toArray 38) (lA : A.length = 32) (lX : X.length = 32) : (Instr.storeAt 38 (.pointer (some ⟨g, 0, none⟩)) (.agg (CELLS X).toArray)).run Tryz.prog w = .ok () (w.setRow g (CELLS X).toArray) := by
  simp only [Instr.storeAt, Instr.sureAddr, Sem.run_bind, Sem.run_pure, Result.andThen]
  exact run_storeVar_row w g 38 38 (CELLS A).toArray (CELLS X).toArray h (info_arr lX) (by simp [CELLS, lA, lX]) (cells_one X)
theorem store_mstep {w : World} {g : Nat} {A B Y : List Int} (h : Has w g (MSTP ZND ZND ZND) 73) (lA : A.length = 32) (lB : B.length = 32) (lY : Y.length = 32) : (Instr.storeAt 73 (.pointer (some ⟨g, 0, none⟩)) (.agg (MSTP A B Y))).run Tryz.prog w = .ok () (w.setRow g (MSTP A B Y)) := by
  simp only [Instr.storeAt, Instr.sureAddr, Sem.run_bind, Sem.run_pure, Result.andThen]
  exact run_storeVar_row w g 73 73 (MSTP ZND ZND ZND) (MSTP A B Y) h (by rw [MSTP_size lA lB lY]; exact (info_mstep lA lB lY).trans (by simp [CELLS, lA, lB, lY])) (by rw [MSTP_size lA lB lY]; rfl) (by
    rw [Array.all_eq_true_iff_forall_mem]
    intro v hv
    have hv : v ∈ CELLS A ++ CELLS B ++ CELLS Y := by simpa [MSTP] using hv
    rcases List.mem_append.1 hv with hv | hv
    · rcases List.mem_append.1 hv with hv | hv
      · exact CELLS_one A v hv
      · exact CELLS_one B v hv
    · exact CELLS_one Y v hv)
theorem store_mrow {w : World} {g : Nat} {cs : Array Value} {a1 a2 : Option Addr} {n1 n2 c1 c2 : Nat} (h : Has w g cs 61) (hc : cs.size = 2) : (Instr.storeAt 61 (.pointer (some ⟨g, 0, none⟩)) (.agg #[.slice a1 n1 c1, .slice a2 n2 c2])).run Tryz.prog w = .ok () (w.setRow g #[.slice a1 n1 c1, .slice a2 n2 c2]) := by
  simp only [Instr.storeAt, Instr.sureAddr, Sem.run_bind, Sem.run_pure, Result.andThen]
  exact run_storeVar_row w g 61 61 cs _ h (by kernel_rfl) (by rw [hc]; rfl) (by simp [go_sem, Value.oneCell'])
theorem load_mrow {w : World} {g : Nat} {a1 a2 : Option Addr} {n1 n2 c1 c2 : Nat} (h : Has w g #[.slice a1 n1 c1, .slice a2 n2 c2] 61) : (Instr.loadAt 61 (.pointer (some ⟨g, 0, none⟩))).run Tryz.prog w = .ok (.agg #[.slice a1 n1 c1, .slice a2 n2 c2]) w := by
  have x := h.cell 0
  have y := h.cell 1
  simp only [Instr.loadAt, Instr.sureAddr, Sem.run_bind, Sem.run_pure, Result.andThen]
  exact run_loadVar_row w g 61 61 _ (0, 0) _ h Tryz.underlying61 rfl (by kernel_rfl)
end Go.Proofs.YtlicfinmibbpdaaGreatDoor
