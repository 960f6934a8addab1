/- The document's loom as it lies in memory. -/
import Derived.Test.YtmgocdjmjnkbmaaLoomNew
import Derived.Test.YtmgocdjmjnkbmaaLoomGoes
namespace Go.Proofs.Ytmgocdjmjnkbmaa
open Go.RowKit
set_option maxRecDepth 100000

/-- the document's loom as plain data. -/
structure RR where
  jobs : Nat
  room : Nat
  next : Nat
  fg : Bool
  qs : List Nat
  sh : Bool
  W : Nat
  jb : Nat → Int
  gn : Nat → Bool
  dn : Bool
  got : List Nat
  out : Nat
  canc : Bool
  count : Nat
  top : Nat
def RC (R : RR) (bw cw : Nat) (vq vg : Value) : Array Value := #[.int .i64 (R.jobs : Int), .int .i64 (R.room : Int), .int .i64 (R.next : Int), .bool R.fg, vq, .bool R.sh, .slice (some ⟨bw, 0, none⟩) R.W cw, .bool R.dn, vg, .int .i64 (R.out : Int), .bool R.canc, .int .i64 (R.count : Int), .int .i64 (R.top : Int)]
def RFOOT (r bw : Nat) (vq vg : Value) (k : Nat) : Prop := k = r ∨ k = bw ∨ vq.ownBlock = some k ∨ vg.ownBlock = some k
structure RLOOM (w : World) (B r bw cw : Nat) (vq vg : Value) (R : RR) : Prop where
  row : Has w r (RC R bw cw vq vg) 49
  wk : ∃ c, Has w bw c 61
  jb : ∀ i, i < R.W → w.cell? ⟨bw, i * 2, none⟩ = some (.int .i64 (R.jb i))
  gn : ∀ i, i < R.W → w.cell? ⟨bw, i * 2 + 1, none⟩ = some (.bool (R.gn i))
  oq : w.ownsRow B 3 1 vq R.qs.length (ICELLS R.qs)
  og : w.ownsRow B 3 1 vg R.got.length (ICELLS R.got)
  ne : r ≠ bw
  qr : vq.ownBlock ≠ some r
  qw : vq.ownBlock ≠ some bw
  gr : vg.ownBlock ≠ some r
  gw : vg.ownBlock ≠ some bw
  qg : ∀ k, vq.ownBlock = some k → vg.ownBlock ≠ some k
  br : B ≤ r
  bb : B ≤ bw
theorem RLOOM.lt {w : World} {B r bw cw : Nat} {vq vg : Value} {R : RR} (h : RLOOM w B r bw cw vq vg R) : r < w.heap.size ∧ bw < w.heap.size := by
  obtain ⟨c, hc⟩ := h.wk
  exact ⟨h.row.lt, hc.lt⟩
theorem RLOOM.foot {w : World} {B r bw cw : Nat} {vq vg : Value} {R : RR} (h : RLOOM w B r bw cw vq vg R) {k : Nat} (hk : RFOOT r bw vq vg k) : B ≤ k ∧ k < w.heap.size := by
  rcases hk with rfl | rfl | hk | hk
  · exact ⟨h.br, h.lt.1⟩
  · exact ⟨h.bb, h.lt.2⟩
  · exact own_lt h.oq hk
  · exact own_lt h.og hk
theorem RLOOM.turn {w w' : World} {B r bw cw : Nat} {vq vg : Value} {R : RR} (h : RLOOM w B r bw cw vq vg R) (ht : ∀ k, RFOOT r bw vq vg k → w'.heap[k]? = w.heap[k]?) : RLOOM w' B r bw cw vq vg R := by
  have e1 := ht r (.inl rfl)
  have e2 := ht bw (.inr (.inl rfl))
  obtain ⟨c, hc⟩ := h.wk
  exact ⟨e1.trans h.row, ⟨c, e2.trans hc⟩, fun i hi => (World.cell?_of_block (w := w) e2).trans (h.jb i hi), fun i hi => (World.cell?_of_block (w := w) e2).trans (h.gn i hi), own_turn h.oq (fun k e => ht k (.inr (.inr (.inl e)))), own_turn h.og (fun k e => ht k (.inr (.inr (.inr e)))), h.ne, h.qr, h.qw, h.gr, h.gw, h.qg, h.br, h.bb⟩
theorem RLOOM.below {w w' : World} {B r bw cw : Nat} {vq vg : Value} {R : RR} (h : RLOOM w B r bw cw vq vg R) (hb : Below w.heap.size w w') : RLOOM w' B r bw cw vq vg R := h.turn fun k hk => hb.block k (h.foot hk).2
theorem RLOOM.grew {w w' : World} {v v' : Value} {B r bw cw : Nat} {vq vg : Value} {R : RR} (h : RLOOM w B r bw cw vq vg R) (hg : GREW w w' v v') (hv : ∀ k, v.ownBlock = some k → ¬ RFOOT r bw vq vg k) : RLOOM w' B r bw cw vq vg R :=
  h.turn fun k hk => hg.block k (h.foot hk).2 (fun e => hv k e hk)
/-- the cells of the loom itself are written over. -/
theorem RLOOM.store {w w' : World} {B r bw cw : Nat} {vq vg : Value} {R R' : RR} (h : RLOOM w B r bw cw vq vg R) (hr : Has w' r (RC R' bw cw vq vg) 49) (hk : ∀ k, k ≠ r → w'.heap[k]? = w.heap[k]?) (h1 : R'.W = R.W) (h2 : R'.jb = R.jb) (h3 : R'.gn = R.gn) (h4 : R'.qs = R.qs) (h5 : R'.got = R.got) : RLOOM w' B r bw cw vq vg R' := by
  have e2 := hk bw (fun e => h.ne e.symm)
  obtain ⟨c, hc⟩ := h.wk
  refine ⟨hr, ⟨c, e2.trans hc⟩, fun i hi => ?_, fun i hi => ?_, ?_, ?_, h.ne, h.qr, h.qw, h.gr, h.gw, h.qg, h.br, h.bb⟩
  · rw [h2]
    exact (World.cell?_of_block (w := w) e2).trans (h.jb i (h1 ▸ hi))
  · rw [h3]
    exact (World.cell?_of_block (w := w) e2).trans (h.gn i (h1 ▸ hi))
  · rw [h4]
    exact own_turn h.oq (fun k e => hk k (fun e' => h.qr (e' ▸ e)))
  · rw [h5]
    exact own_turn h.og (fun k e => hk k (fun e' => h.gr (e' ▸ e)))
theorem RLOOM.wfrozen {w : World} {B r bw cw : Nat} {vq vg : Value} {R : RR} (h : RLOOM w B r bw cw vq vg R) (o : Nat) : w.frozen? ⟨bw, o, none⟩ = false := by
  obtain ⟨c, hc⟩ := h.wk
  exact hc.frozen o
/-- a step: what is no block of its own is as it was. -/
structure RSTEP (r bw : Nat) (vq vg vq' vg' : Value) (w w' : World) : Prop where
  os : w'.os = w.os
  tape : w'.tape = w.tape
  output : w'.output = w.output
  size : w.heap.size ≤ w'.heap.size
  block : ∀ k, k < w.heap.size → ¬ RFOOT r bw vq vg k → w'.heap[k]? = w.heap[k]?
  new : ∀ k, RFOOT r bw vq' vg' k → RFOOT r bw vq vg k ∨ w.heap.size ≤ k
theorem RSTEP.refl (r bw : Nat) (vq vg : Value) (w : World) : RSTEP r bw vq vg vq vg w w := ⟨rfl, rfl, rfl, Nat.le_refl _, fun _ _ _ => rfl, fun _ h => .inl h⟩
theorem RSTEP.trans {r bw : Nat} {vq vg vq1 vg1 vq2 vg2 : Value} {w w1 w2 : World} (h : RSTEP r bw vq vg vq1 vg1 w w1) (k : RSTEP r bw vq1 vg1 vq2 vg2 w1 w2) : RSTEP r bw vq vg vq2 vg2 w w2 := by
  refine ⟨k.os.trans h.os, k.tape.trans h.tape, k.output.trans h.output, Nat.le_trans h.size k.size, fun i hi hf => (k.block i (Nat.lt_of_lt_of_le hi h.size) ?_).trans (h.block i hi hf), fun i hi => ?_⟩
  · intro e
    rcases h.new i e with x | x
    · exact hf x
    · omega
  · rcases k.new i hi with x | x
    · exact h.new i x
    · exact .inr (Nat.le_trans h.size x)
theorem RSTEP.below {r bw : Nat} {vq vg : Value} {w w' : World} (hb : Below w.heap.size w w') : RSTEP r bw vq vg vq vg w w' := ⟨hb.os, hb.tape, hb.output, hb.size, fun k hk _ => hb.block k hk, fun _ h => .inl h⟩
theorem RSTEP.set {r bw : Nat} {vq vg : Value} {w : World} {a : Addr} (ha : RFOOT r bw vq vg a.block) (v : Value) : RSTEP r bw vq vg vq vg w (w.setCell a v) := ⟨rfl, rfl, rfl, by simp [World.setCell], fun k _ hf => Below.heap_setCell w a v k (fun e => hf (e ▸ ha)), fun _ h => .inl h⟩
theorem RSTEP.drew {r bw : Nat} {vq vg vq' vg' : Value} {w w' : World} (h : RSTEP r bw vq vg vq' vg' w w') : RSTEP r bw vq vg vq' vg' w w'.drew := ⟨h.os, h.tape, h.output, h.size, h.block, h.new⟩
theorem RLOOM.drew {w : World} {B r bw cw : Nat} {vq vg : Value} {R : RR} (h : RLOOM w B r bw cw vq vg R) : RLOOM w.drew B r bw cw vq vg R := h.turn (fun _ _ => rfl)
abbrev RAFTER (w : World) (B r bw cw : Nat) (vq vg vq' vg' : Value) (R : RR) (w' : World) : Prop := RLOOM w' B r bw cw vq' vg' R ∧ RSTEP r bw vq vg vq' vg' w w'
theorem RAFTER.below {w w1 w2 : World} {B r bw cw : Nat} {vq vg vq' vg' : Value} {R : RR} (h : RAFTER w B r bw cw vq vg vq' vg' R w1) (hb : Below w1.heap.size w1 w2) : RAFTER w B r bw cw vq vg vq' vg' R w2 := ⟨h.1.below hb, h.2.trans (RSTEP.below hb)⟩
/-- one cell of the loom itself. -/
theorem RLOOM.set1 {w : World} {B r bw cw : Nat} {vq vg : Value} {R R' : RR} (h : RLOOM w B r bw cw vq vg R) (i : Nat) (v : Value) (e : (RC R bw cw vq vg).setIfInBounds i v = RC R' bw cw vq vg) (h1 : R'.W = R.W) (h2 : R'.jb = R.jb) (h3 : R'.gn = R.gn) (h4 : R'.qs = R.qs) (h5 : R'.got = R.got) : RAFTER w B r bw cw vq vg vq vg R' (w.setCell ⟨r, i, none⟩ v) :=
  ⟨h.store (e ▸ h.row.set i v) (fun k hk => Below.heap_setCell w _ _ k hk) h1 h2 h3 h4 h5, RSTEP.set (a := ⟨r, i, none⟩) (.inl rfl) v⟩
/-- a worker's job, or whether it has left. -/
theorem RLOOM.setjb {w : World} {B r bw cw : Nat} {vq vg : Value} {R : RR} (h : RLOOM w B r bw cw vq vg R) (i : Nat) (x : Int) : RAFTER w B r bw cw vq vg vq vg { R with jb := fun k => if k = i then x else R.jb k } (w.setCell ⟨bw, i * 2, none⟩ (.int .i64 x)) := by
  obtain ⟨c, hc⟩ := h.wk
  have hk : ∀ k, k ≠ bw → (w.setCell ⟨bw, i * 2, none⟩ (.int .i64 x)).heap[k]? = w.heap[k]? := fun k hk => Below.heap_setCell w _ _ k hk
  refine ⟨⟨(hk r h.ne).trans h.row, ⟨_, hc.set _ _⟩, fun k hk' => ?_, fun k hk' => ?_, own_turn h.oq (fun k e => hk k (fun e' => h.qw (e' ▸ e))), own_turn h.og (fun k e => hk k (fun e' => h.gw (e' ▸ e))), h.ne, h.qr, h.qw, h.gr, h.gw, h.qg, h.br, h.bb⟩, RSTEP.set (a := ⟨bw, i * 2, none⟩) (.inr (.inl rfl)) _⟩
  · show _ = some (Value.int .i64 (if k = i then x else R.jb k))
    by_cases e : k = i
    · subst e
      rw [if_pos rfl]
      have hs := h.jb k hk'
      rw [hc.cell] at hs
      rw [(hc.set _ _).cell]
      have hlt : k * 2 < c.size := by
        rcases Nat.lt_or_ge (k * 2) c.size with h' | h'
        · exact h'
        · rw [Array.getElem?_eq_none h'] at hs
          cases hs
      simp [hlt]
    · rw [if_neg e, set_off (by omega)]
      exact h.jb k hk'
  · rw [set_off (by omega)]
    exact h.gn k hk'
theorem RLOOM.setgn {w : World} {B r bw cw : Nat} {vq vg : Value} {R : RR} (h : RLOOM w B r bw cw vq vg R) (i : Nat) : RAFTER w B r bw cw vq vg vq vg { R with gn := fun k => if k = i then true else R.gn k } (w.setCell ⟨bw, i * 2 + 1, none⟩ (.bool true)) := by
  obtain ⟨c, hc⟩ := h.wk
  have hk : ∀ k, k ≠ bw → (w.setCell ⟨bw, i * 2 + 1, none⟩ (.bool true)).heap[k]? = w.heap[k]? := fun k hk => Below.heap_setCell w _ _ k hk
  refine ⟨⟨(hk r h.ne).trans h.row, ⟨_, hc.set _ _⟩, fun k hk' => ?_, fun k hk' => ?_, own_turn h.oq (fun k e => hk k (fun e' => h.qw (e' ▸ e))), own_turn h.og (fun k e => hk k (fun e' => h.gw (e' ▸ e))), h.ne, h.qr, h.qw, h.gr, h.gw, h.qg, h.br, h.bb⟩, RSTEP.set (a := ⟨bw, i * 2 + 1, none⟩) (.inr (.inl rfl)) _⟩
  · rw [set_off (by omega)]
    exact h.jb k hk'
  · show _ = some (Value.bool (if k = i then true else R.gn k))
    by_cases e : k = i
    · subst e
      rw [if_pos rfl]
      have hs := h.gn k hk'
      rw [hc.cell] at hs
      rw [(hc.set _ _).cell]
      have hlt : k * 2 + 1 < c.size := by
        rcases Nat.lt_or_ge (k * 2 + 1) c.size with h' | h'
        · exact h'
        · rw [Array.getElem?_eq_none h'] at hs
          cases hs
      simp [hlt]
    · rw [if_neg e, set_off (by omega)]
      exact h.gn k hk'
/-- somebody's state, here and there. -/
def WREL (x : Nat) (j : Int) (g : Bool) : Prop := (x = 1 ∧ g = true) ∨ (x = 0 ∧ g = false ∧ j = -1) ∨ (2 ≤ x ∧ g = false ∧ j = ((x - 2 : Nat) : Int))
/-- what the channel holds. -/
def QL (first held : Nat) : List Nat := (List.range held).map (· + first)
/-- the document's loom is the loom s. -/
structure REL (s : LM) (R : RR) : Prop where
  jobs : R.jobs = s.jobs
  room : R.room = s.room
  next : R.next = s.first + s.held
  fg : R.fg = decide (s.fd = 1)
  qs : R.qs = QL s.first s.held
  sh : R.sh = decide (s.fd = 1)
  W : R.W = s.W
  ws : ∀ i, i < s.W → WREL (s.ws i) (R.jb i) (R.gn i)
  dn : R.dn = decide (s.col = 1)
  got : R.got = s.ans
  out : R.out = OUTC s
  canc : R.canc = s.canc
  count : R.count = s.made
  top : R.top = s.top
theorem QL_length (a b : Nat) : (QL a b).length = b := by simp [QL]
theorem QL_snoc (a b : Nat) : QL a (b + 1) = QL a b ++ [a + b] := by
  unfold QL
  rw [List.range_succ, List.map_append]
  simp [Nat.add_comm]
theorem QL_tail (a b : Nat) : QL a (b + 1) = a :: QL (a + 1) b := by
  unfold QL
  rw [List.range_succ_eq_map]
  simp only [List.map_cons, List.map_map, Nat.zero_add]
  congr 1
  apply List.map_congr_left
  intro x _
  simp
  omega
set_option maxHeartbeats 1000000 in
theorem rgauge_ok {w : World} {B r bw cw : Nat} {vq vg : Value} {R : RR} (h : RLOOM w B r bw cw vq vg R) (hW : R.W ≤ 64) : Calls Try.prog 26 #[.pointer (some ⟨r, 0, none⟩)] w fun e w' => e = .returned (.int .i64 (CNT (fun i => decide (0 ≤ R.jb i) && !R.gn i) R.W : Int)) ∧ w = w' := by
  have x6 : w.cell? ⟨r, 6, none⟩ = some (.slice (some ⟨bw, 0, none⟩) R.W cw) := h.row.cell 6
  have HA : Aside (RLOOM w B r bw cw vq vg R ∧ R.W ≤ 64) := ⟨h, hW⟩
  obtain ⟨p, hp⟩ : ∃ p : Nat → Bool, p = fun i => decide (0 ≤ R.jb i) && !R.gn i := ⟨_, rfl⟩
  rw [← hp]
  obtain ⟨n, hn⟩ : ∃ n, R.W = n := ⟨_, rfl⟩
  rw [hn] at x6 ⊢
  obtain ⟨G, hG⟩ : ∃ G, CNT p n = G := ⟨_, rfl⟩
  rw [hG]
  have HP : Aside ((p = fun i => decide (0 ≤ R.jb i) && !R.gn i) ∧ R.W = n ∧ CNT p n = G) := ⟨hp, hn, hG⟩
  clear h hW hp hn hG
  go_enter Try.func26, Try.ntmps26
  go_wp2
  go_loopg [3, 4] n (fun k s3 s4 wx => ∃ i c : Nat, i + k = n ∧ s4 = .int .i64 (i : Int) ∧ s3 = .int .i64 (c : Int) ∧ Aside (c = CNT p i ∧ wx = w))
  case atStart => exact ⟨0, 0, by omega, rfl, rfl, rfl, rfl⟩
  case round =>
    obtain ⟨i, c, hi, rfl, rfl, A⟩ := hrel
    obtain ⟨a1, rfl⟩ := A.out
    cases gk with
    | zero =>
      obtain rfl : i = n := by omega
      obtain rfl : c = G := by rw [← HP.out.2.2]; exact a1
      clear a1 A
      go_wp2
      go_ret
      exact ⟨rfl, rfl⟩
    | succ k =>
      have hlt : (i : Int) < (n : Int) := by omega
      have hn64 : n ≤ 64 := by rw [← HP.out.2.1]; exact HA.out.2
      have hci : c ≤ i := by rw [a1]; exact CNT_le _ _
      have y0 := HA.out.1.jb i (by rw [HP.out.2.1]; omega)
      have y1 := HA.out.1.gn i (by rw [HP.out.2.1]; omega)
      have hpi : p i = (decide (0 ≤ R.jb i) && !R.gn i) := by rw [HP.out.1]
      have HC : Aside (CNT p (i + 1) = c + (if p i then 1 else 0)) := by show CNT p i + _ = _; rw [← a1]
      generalize R.jb i = J at *
      generalize R.gn i = GG at *
      clear a1 A
      by_cases hJ : 0 ≤ J
      · cases GG with
        | false =>
          have HC2 : Aside (CNT p (i + 1) = c + 1) := by rw [HC.out, hpi, decide_eq_true hJ]; exact rfl
          clear hpi
          go_wp2
          go_roundg k
          case measure => omega
          case rel => exact ⟨i + 1, c + 1, by omega, rfl, rfl, HC2.out.symm, rfl⟩
        | true =>
          have HC2 : Aside (CNT p (i + 1) = c) := by rw [HC.out, hpi, decide_eq_true hJ]; exact rfl
          clear hpi
          go_wp2
          go_roundg k
          case measure => omega
          case rel => exact ⟨i + 1, c, by omega, rfl, rfl, HC2.out.symm, rfl⟩
      · have HC2 : Aside (CNT p (i + 1) = c) := by rw [HC.out, hpi, decide_eq_false hJ]; exact rfl
        clear hpi
        go_wp2
        go_roundg k
        case measure => omega
        case rel => exact ⟨i + 1, c, by omega, rfl, rfl, HC2.out.symm, rfl⟩
end Go.Proofs.Ytmgocdjmjnkbmaa
