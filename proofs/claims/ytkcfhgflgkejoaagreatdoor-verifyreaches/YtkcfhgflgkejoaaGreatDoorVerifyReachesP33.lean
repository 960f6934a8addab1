/- Texts of VerifyReaches, one behind the other: ProofDecode, ProofOwned, VerifyMember, VerifyPrefix, ProofRefDecoded, VerifyRefPrefix, VerifyLast8, VerifyJoinsPick, HashFast. -/
import Derived.Test.YtkcfhgflgkejoaaGreatDoorVerifyReachesP15
import Derived.Test.YtkcfhgflgkejoaaGreatDoorVerifyReachesP17
import Derived.Test.YtkcfhgflgkejoaaGreatDoorVerifyReachesP20
import Derived.Test.YtkcfhgflgkejoaaGreatDoorVerifyReachesP27
import Derived.Test.YtkcfhgflgkejoaaGreatDoorVerifyReachesP31
import Derived.Test.YtkcfhgflgkejoaaGreatDoorVerifyReachesP32
/- What Decode and DecodePrefix of package proof answer, of any bytes. -/
namespace Go.Proofs.YtkcfhgflgkejoaaGreatDoor
open Go.RowKit
set_option maxRecDepth 100000

/-- a proof is answered, its nodes in a block of their own; or an error, and all is zero. -/
def DECD (w : World) (D : DANS) (e : Ending) (w' : World) : Prop :=
  ∃ v, e = .returned (.tuple #[v, .int .i64 D.1]) ∧ Below w.heap.size w w' ∧ ((D.1 ≠ 0 ∧ v = .agg #[.int .u64 0, .int .u64 0, .slice none 0 0]) ∨ (D.1 = 0 ∧ D.2.1 < 2 ^ 64 ∧ D.2.2.1 < 2 ^ 64 ∧ D.2.2.2.2.length = 32 * D.2.2.2.1 ∧ (∀ x ∈ D.2.2.2.2, 0 ≤ x ∧ x ≤ 255) ∧ ∃ g, v = .agg #[.int .u64 (D.2.1 : Int), .int .u64 (D.2.2.1 : Int), .slice (some ⟨g, 0, none⟩) D.2.2.2.1 D.2.2.2.1] ∧ w.heap.size ≤ g ∧ Has w' g (CELLS D.2.2.2.2).toArray 23))
set_option maxHeartbeats 2000000 in
theorem decode_ok (a : Option Addr) (n c : Nat) (hn : n ≤ 1000000) (l : List Int) (w : World) (hB : Bytes w a n l) (hc : n ≤ c) (hT : Tabled w) (h0 : 0 < w.heap.size) :
    Calls Tryz.prog 23 #[.slice a n c] w (DECD w (DEC l)) := by
  have hln : l.length = n := hB.1
  obtain ⟨D, hD⟩ : ∃ D, DEC l = D := ⟨_, rfl⟩
  rw [hD]
  have hDD : D = DC0 77 TOOBIG (fun S I => PLA I S) l := hD.symm
  have HA : Aside (Bytes w a n l ∧ l.length = n ∧ n ≤ c ∧ n ≤ 1000000 ∧ D = DC0 77 TOOBIG (fun S I => PLA I S) l ∧ Tabled w ∧ 0 < w.heap.size) := ⟨hB, hln, hc, hn, hDD, hT, h0⟩
  clear hB hc hn hD hT h0 hln hDD
  go_enter Tryz.func23, Tryz.ntmps23
  go_wp2_with fail
  have hR := Has.new w #[.int .u64 0, .int .u64 0, .slice none 0 0] 46
  have hb0 : Below w.heap.size w (w.alloc (.cells #[.int .u64 0, .int .u64 0, .slice none 0 0] 46)) := (Below.refl _ _).alloc (Nat.le_refl _) _
  have hs0 : (w.alloc (.cells #[.int .u64 0, .int .u64 0, .slice none 0 0] 46)).heap.size = w.heap.size + 1 := by simp
  generalize w.alloc (.cells #[.int .u64 0, .int .u64 0, .slice none 0 0] 46) = w0 at *
  rw [← hs0]
  obtain ⟨b1, b2, b3, b4, b5, b6, b7⟩ := HA.out
  have hP0 : RPP w0 w0.heap.size (w0.heap.size + 1) 87 #[.func (.func 50) #[.pointer (some ⟨w0.heap.size, 0, none⟩)] #[], .func (.func 51) #[.pointer (some ⟨w0.heap.size, 0, none⟩)] #[], .func (.func 52) #[.pointer (some ⟨w0.heap.size, 0, none⟩)] #[], .func (.func 53) #[.pointer (some ⟨w0.heap.size, 0, none⟩)] #[]] 89 77 TOOBIG (fun S I => PLA I S) D 0
      ((w0.alloc (.cells #[.slice a n c, .int .u64 0, .int .u64 0, .slice none 0 0] 87)).alloc (.cells #[.func (.func 50) #[.pointer (some ⟨w0.heap.size, 0, none⟩)] #[], .func (.func 51) #[.pointer (some ⟨w0.heap.size, 0, none⟩)] #[], .func (.func 52) #[.pointer (some ⟨w0.heap.size, 0, none⟩)] #[], .func (.func 53) #[.pointer (some ⟨w0.heap.size, 0, none⟩)] #[]] 89)) := by
    refine ⟨a, c, l, ⟨((Below.refl _ _).alloc (Nat.le_refl _) _).alloc (by simp) _, ?_, ?_, by omega, Nat.le_refl _, by omega⟩, ⟨?_, by omega, by omega⟩, b5⟩
    · rw [b2]
      exact (Has.new w0 _ _).alloc _
    · exact Has.at _ _ _ (by simp)
    · rw [b2]
      exact b1.below hb0
  obtain ⟨hT0, h00⟩ := pla_tab b6 b7 hb0
  have key := memberinturn_ok w0.heap.size (w0.heap.size + 1) _ (RFIN w0 D)
    (fun W h => by obtain ⟨_, _, _, F, _⟩ := h; exact F.fl.cell 0) (fun W h => by obtain ⟨_, _, _, F, _⟩ := h; exact F.fl.cell 1) (fun W h => by obtain ⟨_, _, _, _, F, _⟩ := h; exact F.fl.cell 2) (fun W h => by obtain ⟨_, _, _, _, _, F, _⟩ := h; exact F.fl.cell 3)
    (fun W h => mstep0 W h) (fun W h => mstep1 W h) (fun W h => mstep2 W h) (fun W h => mstep3 hT0 h00 W h) _ hP0
  have R0 : Aside (Below w.heap.size w w0 ∧ Has w0 w.heap.size #[.int .u64 0, .int .u64 0, .slice none 0 0] 46 ∧ w0.heap.size = w.heap.size + 1) := ⟨hb0, hR, hs0⟩
  clear hP0 hT0 h00 b1 b2 b3 b4 b5 b6 b7 HA hR hb0 hs0
  refine key.mono ?_
  rintro e w1 ⟨E, rfl, h1, h2⟩
  clear key
  by_cases hE : E = 0
  · subst hE
    obtain ⟨a', c', l', X, Y, N, g, F, S, hX, hY, hD, hl, hg, hg1, hg2, hg3⟩ := h1 rfl
    obtain ⟨r1, r2, r3⟩ := R0.out
    have hH := r2.below F.bel (by omega)
    have x0 : w1.cell? ⟨w.heap.size, 0, none⟩ = some (.int .u64 0) := hH.cell 0
    have x1 : w1.cell? ⟨w.heap.size, 1, none⟩ = some (.int .u64 0) := hH.cell 1
    have x2 : w1.cell? ⟨w.heap.size, 2, none⟩ = some (.slice none 0 0) := hH.cell 2
    have f0 := hH.frozen 0
    have f1 := hH.frozen 1
    have f2 := hH.frozen 2
    have y1 : w1.cell? ⟨w0.heap.size, 1, none⟩ = some (.int .u64 (X : Int)) := F.rd.cell 1
    have y2 : w1.cell? ⟨w0.heap.size, 2, none⟩ = some (.int .u64 (Y : Int)) := F.rd.cell 2
    have y3 : w1.cell? ⟨w0.heap.size, 3, none⟩ = some (.slice (some ⟨g, 0, none⟩) N N) := F.rd.cell 3
    have R : Aside (Below w.heap.size w w1 ∧ X < 2 ^ 64 ∧ Y < 2 ^ 64 ∧ D = (0, X, Y, N, l') ∧ l'.length = 32 * N ∧ (∀ x ∈ l', 0 ≤ x ∧ x ≤ 255) ∧ Has w1 g (CELLS l').toArray 23 ∧ w0.heap.size ≤ g ∧ w0.heap.size = w.heap.size + 1 ∧ Has w1 w.heap.size #[.int .u64 0, .int .u64 0, .slice none 0 0] 46) := ⟨r1.trans (F.bel.mono r1.size), hX, hY, hD, hl, S.1.2.2, hg, hg1, r3, hH⟩
    clear h1 h2 F S hX hY hD hl hg hg1 hg2 hg3 r1 r2 r3 hH R0
    go_wp2
    obtain ⟨r1, r2, r3, r4, r5, r6, r7, r8, r9, r10⟩ := R.out
    have hH := ((r10.set 0 (.int .u64 (X : Int))).set 1 (.int .u64 (Y : Int))).set 2 (.slice (some ⟨g, 0, none⟩) N N)
    have hg := ((r7.other (a := ⟨w.heap.size, 0, none⟩) (by show g ≠ w.heap.size; omega) (.int .u64 (X : Int))).other (a := ⟨w.heap.size, 1, none⟩) (by show g ≠ w.heap.size; omega) (.int .u64 (Y : Int))).other (a := ⟨w.heap.size, 2, none⟩) (by show g ≠ w.heap.size; omega) (.slice (some ⟨g, 0, none⟩) N N)
    have hb := ((r1.setCell (p := ⟨w.heap.size, 0, none⟩) (Nat.le_refl _) (.int .u64 (X : Int))).setCell (p := ⟨w.heap.size, 1, none⟩) (Nat.le_refl _) (.int .u64 (Y : Int))).setCell (p := ⟨w.heap.size, 2, none⟩) (Nat.le_refl _) (.slice (some ⟨g, 0, none⟩) N N)
    clear x0 x1 x2 f0 f1 f2 y1 y2 y3 R r1 r10 r7
    generalize ((w1.setCell ⟨w.heap.size, 0, none⟩ (.int .u64 (X : Int))).setCell ⟨w.heap.size, 1, none⟩ (.int .u64 (Y : Int))).setCell ⟨w.heap.size, 2, none⟩ (.slice (some ⟨g, 0, none⟩) N N) = wf at *
    have z0 : wf.cell? ⟨w.heap.size, 0, none⟩ = some (.int .u64 (X : Int)) := hH.cell 0
    have z1 : wf.cell? ⟨w.heap.size, 1, none⟩ = some (.int .u64 (Y : Int)) := hH.cell 1
    have z2 : wf.cell? ⟨w.heap.size, 2, none⟩ = some (.slice (some ⟨g, 0, none⟩) N N) := hH.cell 2
    rw [r4]
    refine bodyPost_ret (v := .tuple #[.agg #[.int .u64 (X : Int), .int .u64 (Y : Int), .slice (some ⟨g, 0, none⟩) N N], .int .i64 0]) ?_ rfl ⟨_, rfl, hb, .inr ⟨rfl, r2, r3, r5, r6, g, rfl, by omega, hg⟩⟩
    simp [results, Tryz.f23, go_sem, z0, z1, z2]
  · have hE' : (E != 0) = true := by simp [hE]
    obtain ⟨hD, hbw⟩ := h2 hE
    obtain ⟨r1, r2, r3⟩ := R0.out
    have hH := r2.below hbw (by omega)
    have x0 : w1.cell? ⟨w.heap.size, 0, none⟩ = some (.int .u64 0) := hH.cell 0
    have x1 : w1.cell? ⟨w.heap.size, 1, none⟩ = some (.int .u64 0) := hH.cell 1
    have x2 : w1.cell? ⟨w.heap.size, 2, none⟩ = some (.slice none 0 0) := hH.cell 2
    have f0 := hH.frozen 0
    have f1 := hH.frozen 1
    have f2 := hH.frozen 2
    have R : Aside (Below w.heap.size w w1 ∧ D = DERR E ∧ ¬ E = 0 ∧ Has w1 w.heap.size #[.int .u64 0, .int .u64 0, .slice none 0 0] 46) := ⟨r1.trans (hbw.mono r1.size), hD, hE, hH⟩
    clear h1 h2 hD hbw r1 r2 r3 hH R0 hE
    go_wp2
    obtain ⟨r1, r4, r2, r10⟩ := R.out
    have hH := ((r10.set 0 (.int .u64 0)).set 1 (.int .u64 0)).set 2 (.slice none 0 0)
    have hb := ((r1.setCell (p := ⟨w.heap.size, 0, none⟩) (Nat.le_refl _) (.int .u64 0)).setCell (p := ⟨w.heap.size, 1, none⟩) (Nat.le_refl _) (.int .u64 0)).setCell (p := ⟨w.heap.size, 2, none⟩) (Nat.le_refl _) (.slice none 0 0)
    clear x0 x1 x2 f0 f1 f2 R r1 r10
    generalize ((w1.setCell ⟨w.heap.size, 0, none⟩ (.int .u64 0)).setCell ⟨w.heap.size, 1, none⟩ (.int .u64 0)).setCell ⟨w.heap.size, 2, none⟩ (.slice none 0 0) = wf at *
    have z0 : wf.cell? ⟨w.heap.size, 0, none⟩ = some (.int .u64 0) := hH.cell 0
    have z1 : wf.cell? ⟨w.heap.size, 1, none⟩ = some (.int .u64 0) := hH.cell 1
    have z2 : wf.cell? ⟨w.heap.size, 2, none⟩ = some (.slice none 0 0) := hH.cell 2
    rw [r4]
    refine bodyPost_ret (v := .tuple #[.agg #[.int .u64 0, .int .u64 0, .slice none 0 0], .int .i64 E]) ?_ rfl ⟨_, rfl, hb, .inl ⟨r2, rfl⟩⟩
    simp [results, Tryz.f23, go_sem, z0, z1, z2]
end Go.Proofs.YtkcfhgflgkejoaaGreatDoor

/- What is read stands in rows of one's own; families of such rows, none in another's block. -/
namespace Go.Proofs.YtkcfhgflgkejoaaGreatDoor
open Go.RowKit
set_option maxRecDepth 100000

theorem DC3_err (PF : Nat → Nat → Int × List Nat) (X Y : Nat) (t : List Int) : DC3 PF X Y t = DERR (DC3 PF X Y t).1 ∨ (DC3 PF X Y t).1 = 0 := by
  unfold DC3
  split
  · exact .inl rfl
  · split
    · exact .inl rfl
    · split
      · exact .inl rfl
      · exact .inr rfl
theorem DC2_err (PF : Nat → Nat → Int × List Nat) (X : Nat) (t : List Int) : DC2 PF X t = DERR (DC2 PF X t).1 ∨ (DC2 PF X t).1 = 0 := by
  unfold DC2
  split
  · exact .inl rfl
  · exact DC3_err _ _ _ _
theorem DC1_err (chk : Nat → Bool) (PF : Nat → Nat → Int × List Nat) (t : List Int) : DC1 chk PF t = DERR (DC1 chk PF t).1 ∨ (DC1 chk PF t).1 = 0 := by
  unfold DC1
  split
  · exact .inl rfl
  · split
    · exact .inl rfl
    · exact DC2_err _ _ _
theorem DC0_err {K : Int} {chk : Nat → Bool} {PF : Nat → Nat → Int × List Nat} {l : List Int} (h : (DC0 K chk PF l).1 ≠ 0) : DC0 K chk PF l = DERR (DC0 K chk PF l).1 := by
  have : DC0 K chk PF l = DERR (DC0 K chk PF l).1 ∨ (DC0 K chk PF l).1 = 0 := by
    unfold DC0
    split
    · exact .inl rfl
    · split
      · exact .inl rfl
      · exact DC1_err _ _ _
  rcases this with h1 | h1
  · exact h1
  · exact absurd h1 h
theorem own_of_has {w : World} {B g N : Nat} {l : List Int} (h : Has w g (CELLS l).toArray 23) (hl : l.length = 32 * N) (hB : B ≤ g) (hN : N ≤ 1000) : w.ownsRow B 23 32 (.slice (some ⟨g, 0, none⟩) N N) N (CELLS l) := by
  refine ⟨by rw [CELLS, List.length_map, hl, Nat.mul_comm], .inr ⟨g, N, _, rfl, hB, h, Nat.le_refl _, by simp [maxLen]; omega, ?_, ?_⟩⟩
  · simp [CELLS, hl, Nat.mul_comm]
  · rw [List.take_of_length_le (by simp [CELLS, hl]; omega)]
/-- a proof is answered, its nodes in a row of one's own; or an error, and all is zero. -/
def DECO (w : World) (D : DANS) (e : Ending) (w' : World) : Prop :=
  ∃ a c, e = .returned (.tuple #[.agg #[.int .u64 (D.2.1 : Int), .int .u64 (D.2.2.1 : Int), .slice a D.2.2.2.1 c], .int .i64 D.1]) ∧ w'.ownsRow w.heap.size 23 32 (.slice a D.2.2.2.1 c) D.2.2.2.1 (CELLS D.2.2.2.2) ∧ (∀ x ∈ D.2.2.2.2, 0 ≤ x ∧ x ≤ 255) ∧ Below w.heap.size w w'
theorem DECD.own {w w' : World} {K : Int} {chk : Nat → Bool} {PF : Nat → Nat → Int × List Nat} {l : List Int} {e : Ending} (h : DECD w (DC0 K chk PF l) e w') (hf : (DC0 K chk PF l).1 = 0 → (DC0 K chk PF l).2.2.2.1 ≤ 1000) : DECO w (DC0 K chk PF l) e w' := by
  obtain ⟨v, rfl, hb, h⟩ := h
  rcases h with ⟨hE, rfl⟩ | ⟨hE, h1, h2, h3, h4, g, rfl, hg, hh⟩
  · have hD := DC0_err hE
    rw [hD]
    refine ⟨none, 0, rfl, World.ownsRow_nil _ _ _ _, by simp [DERR], hb⟩
  · exact ⟨_, _, rfl, own_of_has hh h3 hg (hf hE), h4, hb⟩
theorem DEC_few {l : List Int} (hr : ∀ x ∈ l, 0 ≤ x ∧ x ≤ 255) (h : (DEC l).1 = 0) : (DEC l).2.2.2.1 ≤ 188 := by
  obtain ⟨E, S, I, N, t, hD⟩ : ∃ E S I N t, DEC l = (E, S, I, N, t) := ⟨_, _, _, _, _, rfl⟩
  rw [hD] at h ⊢
  obtain rfl : E = 0 := h
  obtain ⟨_, _, _, _, h5, _⟩ := DC_back hr hD
  have := PLA_few I S
  show N ≤ 188
  omega
theorem decode_own (a : Option Addr) (n c : Nat) (hn : n ≤ 1000000) (l : List Int) (w : World) (hB : Bytes w a n l) (hc : n ≤ c) (hT : Tabled w) (h0 : 0 < w.heap.size) : Calls Tryz.prog 23 #[.slice a n c] w (DECO w (DEC l)) :=
  (decode_ok a n c hn l w hB hc hT h0).mono fun _ _ h => DECD.own h fun hE => Nat.le_trans (DEC_few hB.2.2 hE) (by decide)
/-- M rows of one's own, of one kind, none in another's block, none in a block of K. -/
structure FAM (M : Nat) (t : TypeId) (s : Nat) (w : World) (B : Nat) (K : Nat → Prop) (v : Nat → Value) (n : Nat → Nat) (xs : Nat → List Value) : Prop where
  row : ∀ x, x < M → w.ownsRow B t s (v x) (n x) (xs x)
  apart : ∀ x y, x < M → y < M → x ≠ y → ∀ g, (v x).ownBlock = some g → (v y).ownBlock ≠ some g
  off : ∀ x, x < M → ∀ g, (v x).ownBlock = some g → ¬ K g
theorem FAM.below {M : Nat} {t : TypeId} {s : Nat} {w w' : World} {B : Nat} {K : Nat → Prop} {v : Nat → Value} {n : Nat → Nat} {xs : Nat → List Value} (h : FAM M t s w B K v n xs) (hb : Below w.heap.size w w') : FAM M t s w' B K v n xs := ⟨fun x hx => own_below (h.row x hx) hb, h.apart, h.off⟩
theorem FAM.heap {M : Nat} {t : TypeId} {s : Nat} {w w' : World} {B : Nat} {K : Nat → Prop} {v : Nat → Value} {n : Nat → Nat} {xs : Nat → List Value} (h : FAM M t s w B K v n xs) (hk : ∀ k, k < w.heap.size → ¬ K k → w'.heap[k]? = w.heap[k]?) : FAM M t s w' B K v n xs := ⟨fun x hx => own_heap (h.row x hx) fun k e => hk k ((h.row x hx).lt k e).2 (h.off x hx k e), h.apart, h.off⟩
/-- one of them is turned. -/
theorem FAM.turn {M : Nat} {t : TypeId} {s : Nat} {w w' : World} {B : Nat} {K : Nat → Prop} {v : Nat → Value} {n : Nat → Nat} {xs : Nat → List Value} (h : FAM M t s w B K v n xs) {x g m c : Nat} {ys : List Value} (hx : x < M) (hK : ∀ k, K k → k < w.heap.size)
    (hown : w'.ownsRow B t s (.slice (some ⟨g, 0, none⟩) m c) m ys) (hg : w.grownBy w' (v x).ownBlock) (hat : (v x).ownBlock = some g ∨ w.heap.size ≤ g) : FAM M t s w' B K (UPD v x (.slice (some ⟨g, 0, none⟩) m c)) (UPD n x m) (UPD xs x ys) ∧ ∀ k, K k → w'.heap[k]? = w.heap[k]? := by
  have hgx : ∀ y, y < M → y ≠ x → (v y).ownBlock ≠ some g := fun y hy hne e => by
    rcases hat with h1 | h1
    · exact h.apart x y hx hy (fun e => hne e.symm) g h1 e
    · have := ((h.row y hy).lt g e).2
      omega
  refine ⟨⟨fun y hy => ?_, fun y z hy hz hne k e => ?_, fun y hy k e hk => ?_⟩, fun k hk => hg.block k (hK k hk) fun e => h.off x hx k e.symm hk⟩
  · by_cases e : y = x
    · subst e
      rw [UPD_at, UPD_at, UPD_at]
      exact hown
    · rw [UPD_other _ _ e, UPD_other _ _ e, UPD_other _ _ e]
      exact own_heap (h.row y hy) fun k hk => hg.block k ((h.row y hy).lt k hk).2 fun e2 => h.apart x y hx hy (fun e3 => e e3.symm) k e2.symm hk
  · by_cases e1 : y = x
    · subst e1
      rw [UPD_at] at e
      have e : g = k := by simpa [Value.ownBlock] using e
      subst e
      rw [UPD_other _ _ (fun e2 => hne e2.symm)]
      exact hgx z hz fun e2 => hne e2.symm
    · rw [UPD_other _ _ e1] at e
      by_cases e2 : z = x
      · subst e2
        rw [UPD_at]
        intro e3
        have e3 : g = k := by simpa [Value.ownBlock] using e3
        subst e3
        exact hgx y hy e1 e
      · rw [UPD_other _ _ e2]
        exact h.apart y z hy hz hne k e
  · by_cases e1 : y = x
    · subst e1
      rw [UPD_at] at e
      have e : g = k := by simpa [Value.ownBlock] using e
      subst e
      rcases hat with h1 | h1
      · exact h.off y hy g h1 hk
      · have := hK g hk
        omega
    · rw [UPD_other _ _ e1] at e
      exact h.off y hy k e hk
end Go.Proofs.YtkcfhgflgkejoaaGreatDoor

/- What Member of package verify answers. -/
namespace Go.Proofs.YtkcfhgflgkejoaaGreatDoor
open Go.RowKit
set_option maxRecDepth 100000

theorem CLA_range {d : Int} {leaf : List Int} {S I n : Nat} {l : List Int} (hleaf : IsH leaf) (hl : l.length = 32 * n) (hr : ∀ x ∈ l, 0 ≤ x ∧ x ≤ 255) : ∀ x ∈ (CLA d leaf S I n l).2.2, 0 ≤ x ∧ x ≤ 255 := by
  unfold CLA
  split
  · simp
  · split
    · simp
    · rename_i h1 h2
      have hlen : (PSP I S).length = n := by
        have h3 : n = (PLA I S).2.length := Decidable.not_not.1 h2
        have h4 : (PLA I S).1 = 0 := Decidable.not_not.1 h1
        rw [h3]
        unfold PLA at h4 ⊢
        split at h4
        · simp at h4
        · rename_i h5
          split at h4
          · simp at h4
          · rename_i h6
            rw [if_neg h5, if_neg h6]
            exact (PLCS_length _).symm
      intro x hx
      obtain ⟨s, _, hs⟩ := List.mem_flatMap.1 hx
      refine (JN_is (d := d) (I := I) (MPUT_is (HAND_is hl hr (PSP I S).length (by omega)) hleaf 0 I) (RISE I S) s.1 s.2).2 x hs
/-- what Member answers. -/
def MEMA (d : Int) (root : List Int) (n i : Nat) (leaf bl : List Int) : Int :=
  if (DEC bl).1 ≠ 0 then (DEC bl).1 else if (DEC bl).2.1 ≠ n then 30 else if (DEC bl).2.2.1 ≠ i then 32 else
    UNDA d n (CLA d leaf (DEC bl).2.1 (DEC bl).2.2.1 (DEC bl).2.2.2.1 (DEC bl).2.2.2.2).2.1 (CLA d leaf (DEC bl).2.1 (DEC bl).2.2.1 (DEC bl).2.2.2.1 (DEC bl).2.2.2.2).2.2 root
set_option maxHeartbeats 4000000 in
theorem member_ok (d : Int) (root : List Int) (hroot : IsH root) (n i : Nat) (hn : n < 2 ^ 64) (leaf : List Int) (hleaf : IsH leaf) (ba : Option Addr) (bn bc : Nat) (hbn : bn ≤ 1000000) (hbc : bn ≤ bc) (bl : List Int) (w : World) (hB : Bytes w ba bn bl) (hT : Tabled w) (hX : HX.Tabled w) (h0 : 2 < w.heap.size) :
    Calls Tryz.prog 8 #[.int .i64 d, .agg (CELLS root).toArray, .int .u64 (n : Int), .int .u64 (i : Int), .agg (CELLS leaf).toArray, .slice ba bn bc] w fun e w' => e = .returned (.int .i64 (MEMA d root n i leaf bl)) ∧ Below w.heap.size w w' := by
  have l32 := hleaf.1
  have r32 := hroot.1
  obtain ⟨b7, hb7⟩ : ∃ b7, b7 = w.heap.size := ⟨_, rfl⟩
  have R0 : Aside (Below w.heap.size w ((w.alloc (.cells (CELLS root).toArray 23)).alloc (.cells (CELLS leaf).toArray 23)) ∧ Has ((w.alloc (.cells (CELLS root).toArray 23)).alloc (.cells (CELLS leaf).toArray 23)) b7 (CELLS root).toArray 23 ∧ Has ((w.alloc (.cells (CELLS root).toArray 23)).alloc (.cells (CELLS leaf).toArray 23)) (b7 + 1) (CELLS leaf).toArray 23) := by
    rw [hb7]
    exact ⟨((Below.refl _ _).alloc (Nat.le_refl _) _).alloc (by simp) _, (Has.new _ _ _).alloc _, Has.at _ _ _ (by simp)⟩
  have HT : Aside (∀ W, Below w.heap.size w W → Tabled W ∧ HX.Tabled W ∧ 0 < W.heap.size ∧ Bytes W ba bn bl ∧ 2 < W.heap.size) := fun W h => by
    have hs := h.size
    exact ⟨hT.below (by omega) h, hX.below h, by omega, hB.below h, by omega⟩
  have HA : Aside (IsH root ∧ IsH leaf ∧ n < 2 ^ 64 ∧ bn ≤ 1000000 ∧ bn ≤ bc) := ⟨hroot, hleaf, hn, hbn, hbc⟩
  clear hroot hleaf hn hbn hbc hB hT hX h0
  obtain ⟨E, S, I, N, t, hD⟩ : ∃ E S I N t, DEC bl = (E, S, I, N, t) := ⟨_, _, _, _, _, rfl⟩
  have hU : MEMA d root n i leaf bl = if E ≠ 0 then E else if S ≠ n then 30 else if I ≠ i then 32 else UNDA d n (CLA d leaf S I N t).2.1 (CLA d leaf S I N t).2.2 root := by unfold MEMA; rw [hD]
  generalize MEMA d root n i leaf bl = U at *
  have HV : Aside ((¬ E = 0 → U = E) ∧ (E = 0 → ¬ S = n → U = 30) ∧ (E = 0 → S = n → ¬ I = i → U = 32) ∧ (E = 0 → S = n → I = i → U = UNDA d n (CLA d leaf S I N t).2.1 (CLA d leaf S I N t).2.2 root)) :=
    ⟨fun h => hU.trans (if_pos h), fun h1 h2 => by rw [hU, if_neg (by simpa using h1), if_pos h2], fun h1 h2 h3 => by rw [hU, if_neg (by simpa using h1), if_neg (by simpa using h2), if_pos h3], fun h1 h2 h3 => by rw [hU, if_neg (by simpa using h1), if_neg (by simpa using h2), if_neg (by simpa using h3)]⟩
  clear hU
  have HD : Aside (DEC bl = (E, S, I, N, t)) := hD
  clear hD
  go_enter Tryz.func8, Tryz.ntmps8
  go_upto_region 1 with fail
  rw [← hb7]
  have HB : Aside (b7 = w.heap.size) := hb7
  clear hb7
  generalize (w.alloc (.cells (CELLS root).toArray 23)).alloc (.cells (CELLS leaf).toArray 23) = W0 at *
  go_wp2_with fail
  have cD := decode_own ba bn bc HA.out.2.2.2.1 bl W0 (HT.out _ R0.out.1).2.2.2.1 HA.out.2.2.2.2 (HT.out _ R0.out.1).1 (HT.out _ R0.out.1).2.2.1
  rw [HD.out] at cD
  refine cD.mono ?_
  clear cD HD
  rintro e w1 ⟨a1, c1, rfl, hrow, hr, hb⟩
  dsimp only at *
  obtain ⟨b8, hb8⟩ : ∃ b, b = w1.heap.size := ⟨_, rfl⟩
  have hbb : Below w1.heap.size w1 (w1.alloc (.cells #[.int .u64 (S : Int), .int .u64 (I : Int), .slice a1 N c1] 46)) := (Below.refl _ _).alloc (Nat.le_refl _) _
  have R1 : Aside (Below w.heap.size w (w1.alloc (.cells #[.int .u64 (S : Int), .int .u64 (I : Int), .slice a1 N c1] 46)) ∧ Has (w1.alloc (.cells #[.int .u64 (S : Int), .int .u64 (I : Int), .slice a1 N c1] 46)) b7 (CELLS root).toArray 23 ∧ Has (w1.alloc (.cells #[.int .u64 (S : Int), .int .u64 (I : Int), .slice a1 N c1] 46)) (b7 + 1) (CELLS leaf).toArray 23 ∧ Has (w1.alloc (.cells #[.int .u64 (S : Int), .int .u64 (I : Int), .slice a1 N c1] 46)) b8 #[.int .u64 (S : Int), .int .u64 (I : Int), .slice a1 N c1] 46 ∧ Flat (w1.alloc (.cells #[.int .u64 (S : Int), .int .u64 (I : Int), .slice a1 N c1] 46)) a1 N t) :=
    ⟨(R0.out.1.trans (hb.mono R0.out.1.size)).trans (hbb.mono (R0.out.1.trans (hb.mono R0.out.1.size)).size), (R0.out.2.1.keep hb).keep hbb, (R0.out.2.2.keep hb).keep hbb, Has.at _ _ _ hb8, (own_flat hrow hr).below hbb⟩
  clear hrow hr hb hbb R0
  go_upto_region 2 with fail
  rw [← hb8]
  clear hb8
  generalize w1.alloc (.cells #[.int .u64 (S : Int), .int .u64 (I : Int), .slice a1 N c1] 46) = W1 at *
  clear w1 W0
  have y0 : W1.cell? ⟨b8, 0, none⟩ = some (.int .u64 (S : Int)) := R1.out.2.2.2.1.cell 0
  have y1 : W1.cell? ⟨b8, 1, none⟩ = some (.int .u64 (I : Int)) := R1.out.2.2.2.1.cell 1
  have y2 : W1.cell? ⟨b8, 2, none⟩ = some (.slice a1 N c1) := R1.out.2.2.2.1.cell 2
  have hb := R1.out.1
  by_cases hE : E = 0
  · by_cases hS : S = n
    · by_cases hI : I = i
      · have HW : Aside (U = UNDA d n (CLA d leaf S I N t).2.1 (CLA d leaf S I N t).2.2 root) := HV.out.2.2.2 hE hS hI
        subst hE hS hI
        clear HV
        have h10 := R1.out.2.2.1
        go_wp2_with (first
          | (refine wpList_load_row rfl 23 (.tmp 10) rfl (b7 + 1) rfl 23 (CELLS leaf).toArray (0, 0) _ h10 Tryz.underlying23 rfl (info_arr l32) ?_)
          | fail)
        refine (climb_ok d leaf HA.out.2.1 S I a1 N c1 t W1 R1.out.2.2.2.2 (HT.out _ hb).1 (HT.out _ hb).2.1 (HT.out _ hb).2.2.2.2).mono ?_
        have hrg := CLA_range (d := d) (S := S) (I := I) HA.out.2.1 R1.out.2.2.2.2.1 R1.out.2.2.2.2.2.2
        generalize CLA d leaf S I N t = C at *
        obtain ⟨CE, CN, CL⟩ := C
        rintro e w2 ⟨a2, c2, rfl, hrow, hb2⟩
        dsimp only at *
        have R2 : Aside (Below w.heap.size w w2 ∧ Has w2 b7 (CELLS root).toArray 23 ∧ Flat w2 a2 CN CL) := ⟨hb.trans (hb2.mono hb.size), R1.out.2.1.keep hb2, own_flat hrow hrg⟩
        clear hrow hrg hb2 hb R1 y0 y1 y2 h10
        have h7 := R2.out.2.1
        go_wp2_with (first
          | (refine wpList_load_row rfl 23 (.tmp 7) rfl b7 rfl 23 (CELLS root).toArray (0, 0) _ h7 Tryz.underlying23 rfl (info_arr r32) ?_)
          | fail)
        refine (rooted_ok d S HA.out.2.2.1 a2 CN c2 CL root HA.out.1 w2 R2.out.2.2 (HT.out _ R2.out.1).2.1).mono ?_
        rintro e w3 ⟨rfl, hb3⟩
        have R3 : Aside (Below w.heap.size w w3) := R2.out.1.trans (hb3.mono R2.out.1.size)
        clear hb3 R2 h7 HT HA
        go_wp2_with fail
        go_ret
        exact ⟨by rw [HW.out]; rfl, R3.out⟩
      · have HW : Aside (U = 32) := HV.out.2.2.1 hE hS hI
        have hI' : ¬ (I : Int) = (i : Int) := by omega
        subst hE hS
        clear HV HT HA R1
        go_wp2_with fail
        go_ret
        exact ⟨by rw [HW.out]; rfl, hb⟩
    · have HW : Aside (U = 30) := HV.out.2.1 hE hS
      have hS' : ¬ (S : Int) = (n : Int) := by omega
      subst hE
      clear HV HT HA R1
      go_wp2_with fail
      go_ret
      exact ⟨by rw [HW.out]; rfl, hb⟩
  · have HW : Aside (U = E) := HV.out.1 hE
    clear HV HT HA R1 y0 y1 y2
    go_wp2_with fail
    go_ret
    exact ⟨by rw [HW.out]; rfl, hb⟩
end Go.Proofs.YtkcfhgflgkejoaaGreatDoor

/- What Prefix of package verify answers. -/
namespace Go.Proofs.YtkcfhgflgkejoaaGreatDoor
open Go.RowKit
set_option maxRecDepth 100000

end Go.Proofs.YtkcfhgflgkejoaaGreatDoor

/- What the document's Decode and DecodePrefix answer, of any bytes. -/
namespace Go.Proofs.YtkcfhgflgkejoaaGreatDoor
open Go.RowKit
set_option maxRecDepth 100000

theorem Flat.off {w : World} {a : Option Addr} {n : Nat} {l : List Int} (h : Flat w a n l) {x : Addr} (hx : ∀ b o, a = some ⟨b, o, none⟩ → b ≠ x.block) (u : Value) : Flat (w.setCell x u) a n l :=
  ⟨h.1, fun hn => by
    obtain ⟨b, o, e, hl, hc⟩ := h.2.1 hn
    exact ⟨b, o, e, Nat.lt_of_lt_of_le hl (KeepsWalks.setCell w x u).size, fun j hj => (World.cell?_setCell_other w _ _ u (fun e' => hx b o e (congrArg Addr.block e').symm)).trans (hc j hj)⟩, h.2.2⟩
end Go.Proofs.YtkcfhgflgkejoaaGreatDoor

/- What the document's Prefix answers: what the program's does. -/
namespace Go.Proofs.YtkcfhgflgkejoaaGreatDoor
open Go.RowKit
set_option maxRecDepth 100000

end Go.Proofs.YtkcfhgflgkejoaaGreatDoor

/- A list of bytes of one's own, one of them turned; numbers that were read are of 64 bits. -/
namespace Go.Proofs.YtkcfhgflgkejoaaGreatDoor
open Go.RowKit

end Go.Proofs.YtkcfhgflgkejoaaGreatDoor

/- For all bytes, how many noughts the first number that they hold ends with: picked once. -/
namespace Go.Proofs.YtkcfhgflgkejoaaGreatDoor
open Go.RowKit
set_option maxRecDepth 100000

theorem lows_any (F : Nat) (hF : F < 2 ^ 64) : ∃ t, LOWS F t := by
  obtain ⟨t, h1, h2, h3, _⟩ := low_nat F hF
  exact ⟨t, h1, h2, h3⟩
theorem joins_at (F S : Nat) (hF : F < 2 ^ 64) : ∃ t, LOWS F t ∧ (F ≤ S → S ≤ 4611686018427387904 → JSOK F (S - F) (JSX F S t)) := by
  by_cases h : F ≤ S ∧ S ≤ 4611686018427387904
  · obtain ⟨t, ht, hc⟩ := joins_ok F (S - F) (by omega)
    refine ⟨t, ht, fun _ _ => ⟨Nat.le_trans (JF_length _ _ _ _) (by omega), fun i x y e => ?_, hc⟩⟩
    obtain ⟨h1, h2, h3, h4⟩ := join_at e
    have h5 : y ≤ (y + 1) * 2 ^ x := by
      have := Nat.pos_of_ne_zero (n := 2 ^ x) (by simp)
      calc y ≤ y + 1 := by omega
        _ = (y + 1) * 1 := by omega
        _ ≤ (y + 1) * 2 ^ x := Nat.mul_le_mul_left _ this
    exact ⟨by omega, by omega, by omega⟩
  · obtain ⟨t, ht⟩ := lows_any F hF
    exact ⟨t, ht, fun h1 h2 => absurd ⟨h1, h2⟩ h⟩
end Go.Proofs.YtkcfhgflgkejoaaGreatDoor

/- One step of the hash reckoned out by the kernel from lists: the words, the states eight rounds apart. -/
namespace Go.Proofs.YtkcfhgflgkejoaaGreatDoor.HX
open Go.RowKit
set_option maxRecDepth 100000

/-- are these the words of a block? -/
def SCHK (b : Nat → Nat) (L : List Nat) : Bool := (List.range 16).all (fun t => L.getD t 0 == WORDAT b (4 * t)) && (List.range 48).all (fun k => L.getD (16 + k) 0 == (SPILL 17 19 10 (L.getD (14 + k) 0) + L.getD (9 + k) 0 + SPILL 7 18 3 (L.getD (1 + k) 0) + L.getD k 0) % 4294967296)
theorem SCHK_ok {b : Nat → Nat} {L : List Nat} (h : SCHK b L = true) : ∀ t, t < 64 → SCH b t = L.getD t 0 := by
  unfold SCHK at h
  rw [Bool.and_eq_true, List.all_eq_true, List.all_eq_true] at h
  obtain ⟨h1, h2⟩ := h
  intro t
  induction t using Nat.strongRecOn with
  | ind t ih =>
    intro ht
    by_cases h16 : t < 16
    · have := h1 t (List.mem_range.2 h16)
      rw [SCH_first b t h16]
      exact (beq_iff_eq.1 this).symm
    · obtain ⟨k, rfl⟩ : ∃ k, t = 16 + k := ⟨t - 16, by omega⟩
      have := h2 k (List.mem_range.2 (by omega))
      rw [SCH_next b k (by omega), ih (14 + k) (by omega) (by omega), ih (9 + k) (by omega) (by omega), ih (1 + k) (by omega) (by omega), ih k (by omega) (by omega)]
      exact (beq_iff_eq.1 this).symm
/-- eight rounds. -/
def R8 (L : List Nat) (t : Nat) (S : ST) : ST := RND (KC (t + 7)) (L.getD (t + 7) 0) (RND (KC (t + 6)) (L.getD (t + 6) 0) (RND (KC (t + 5)) (L.getD (t + 5) 0) (RND (KC (t + 4)) (L.getD (t + 4) 0) (RND (KC (t + 3)) (L.getD (t + 3) 0) (RND (KC (t + 2)) (L.getD (t + 2) 0) (RND (KC (t + 1)) (L.getD (t + 1) 0) (RND (KC t) (L.getD t 0) S)))))))
theorem R8_run {x : Nat → Nat} {L : List Nat} (hx : ∀ t, t < 64 → x t = L.getD t 0) (s : ST) (t : Nat) (ht : t + 8 ≤ 64) : RUN x s (t + 8) = R8 L t (RUN x s t) := by
  unfold R8
  rw [← hx t (by omega), ← hx (t + 1) (by omega), ← hx (t + 2) (by omega), ← hx (t + 3) (by omega), ← hx (t + 4) (by omega), ← hx (t + 5) (by omega), ← hx (t + 6) (by omega), ← hx (t + 7) (by omega)]
  rfl
theorem run_fast {x : Nat → Nat} {L : List Nat} (hx : ∀ t, t < 64 → x t = L.getD t 0) {s s0 s1 s2 s3 s4 s5 s6 s7 s8 : ST} (h0 : s = s0) (h1 : R8 L 0 s0 = s1) (h2 : R8 L 8 s1 = s2) (h3 : R8 L 16 s2 = s3) (h4 : R8 L 24 s3 = s4) (h5 : R8 L 32 s4 = s5) (h6 : R8 L 40 s5 = s6) (h7 : R8 L 48 s6 = s7) (h8 : R8 L 56 s7 = s8) : RUN x s 64 = s8 := by
  rw [R8_run hx s 56 (by decide), R8_run hx s 48 (by decide), R8_run hx s 40 (by decide), R8_run hx s 32 (by decide), R8_run hx s 24 (by decide), R8_run hx s 16 (by decide), R8_run hx s 8 (by decide), R8_run hx s 0 (by decide), RUN, h0, h1, h2, h3, h4, h5, h6, h7, h8]
theorem comp_fast (s b : Nat → Nat) (L : List Nat) (s0 s1 s2 s3 s4 s5 s6 s7 s8 : ST) (O : List Nat) (hL : SCHK b L = true) (h0 : STOF s = s0) (h1 : R8 L 0 s0 = s1) (h2 : R8 L 8 s1 = s2) (h3 : R8 L 16 s2 = s3) (h4 : R8 L 24 s3 = s4) (h5 : R8 L 32 s4 = s5) (h6 : R8 L 40 s5 = s6) (h7 : R8 L 48 s6 = s7) (h8 : R8 L 56 s7 = s8)
    (hO : (List.range 32).map (NARROW 32 (BYTEW fun i => (WORDAT s (4 * i) + s8.at i) % 4294967296)) = O) : (List.range 32).map (COMP 32 s b) = O := by
  rw [← hO]
  have h := run_fast (SCHK_ok hL) h0 h1 h2 h3 h4 h5 h6 h7 h8
  unfold COMP
  have e : OUTW s b = fun i => (WORDAT s (4 * i) + s8.at i) % 4294967296 := funext fun i => by rw [OUTW, h]
  rw [e]
end Go.Proofs.YtkcfhgflgkejoaaGreatDoor.HX
