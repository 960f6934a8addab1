/- Texts of ProofRound, one behind the other: ProofDecode, ProofRoundWalk. -/
import Derived.Test.YtfjmbfppilfepaaDoorProofRoundP10
import Derived.Test.YtfjmbfppilfepaaDoorProofRoundP12
/- What Decode and DecodePrefix of package proof answer, of any bytes. -/
namespace Go.Proofs.YtfjmbfppilfepaaDoor
open Go.RowKit
set_option maxRecDepth 100000

/-- a proof is answered, its nodes in a block of their own; or an error, and all is zero. -/
def DECD (w : World) (D : DANS) (e : Ending) (w' : World) : Prop :=
  ∃ v, e = .returned (.tuple #[v, .int .i64 D.1]) ∧ Below w.heap.size w w' ∧ ((D.1 ≠ 0 ∧ v = .agg #[.int .u64 0, .int .u64 0, .slice none 0 0]) ∨ (D.1 = 0 ∧ D.2.1 < 2 ^ 64 ∧ D.2.2.1 < 2 ^ 64 ∧ D.2.2.2.2.length = 32 * D.2.2.2.1 ∧ (∀ x ∈ D.2.2.2.2, 0 ≤ x ∧ x ≤ 255) ∧ ∃ g, v = .agg #[.int .u64 (D.2.1 : Int), .int .u64 (D.2.2.1 : Int), .slice (some ⟨g, 0, none⟩) D.2.2.2.1 D.2.2.2.1] ∧ w.heap.size ≤ g ∧ Has w' g (CELLS D.2.2.2.2).toArray 53))
set_option maxHeartbeats 2000000 in
theorem decode_ok (a : Option Addr) (n c : Nat) (hn : n ≤ 1000000) (l : List Int) (w : World) (hB : Bytes w a n l) (hc : n ≤ c) (hT : Tabled w) (h0 : 0 < w.heap.size) :
    Calls Tryd.prog 9 #[.slice a n c] w (DECD w (DEC l)) := by
  have hln : l.length = n := hB.1
  obtain ⟨D, hD⟩ : ∃ D, DEC l = D := ⟨_, rfl⟩
  rw [hD]
  have hDD : D = DC0 77 TOOBIG (fun S I => PLA I S) l := hD.symm
  have HA : Aside (Bytes w a n l ∧ l.length = n ∧ n ≤ c ∧ n ≤ 1000000 ∧ D = DC0 77 TOOBIG (fun S I => PLA I S) l ∧ Tabled w ∧ 0 < w.heap.size) := ⟨hB, hln, hc, hn, hDD, hT, h0⟩
  clear hB hc hn hD hT h0 hln hDD
  go_enter Tryd.func9, Tryd.ntmps9
  go_wp2_with fail
  have hR := Has.new w #[.int .u64 0, .int .u64 0, .slice none 0 0] 25
  have hb0 : Below w.heap.size w (w.alloc (.cells #[.int .u64 0, .int .u64 0, .slice none 0 0] 25)) := (Below.refl _ _).alloc (Nat.le_refl _) _
  have hs0 : (w.alloc (.cells #[.int .u64 0, .int .u64 0, .slice none 0 0] 25)).heap.size = w.heap.size + 1 := by simp
  generalize w.alloc (.cells #[.int .u64 0, .int .u64 0, .slice none 0 0] 25) = w0 at *
  rw [← hs0]
  obtain ⟨b1, b2, b3, b4, b5, b6, b7⟩ := HA.out
  have hP0 : RPP w0 w0.heap.size (w0.heap.size + 1) 64 #[.func (.func 33) #[.pointer (some ⟨w0.heap.size, 0, none⟩)] #[], .func (.func 34) #[.pointer (some ⟨w0.heap.size, 0, none⟩)] #[], .func (.func 35) #[.pointer (some ⟨w0.heap.size, 0, none⟩)] #[], .func (.func 36) #[.pointer (some ⟨w0.heap.size, 0, none⟩)] #[]] 66 77 TOOBIG (fun S I => PLA I S) D 0
      ((w0.alloc (.cells #[.slice a n c, .int .u64 0, .int .u64 0, .slice none 0 0] 64)).alloc (.cells #[.func (.func 33) #[.pointer (some ⟨w0.heap.size, 0, none⟩)] #[], .func (.func 34) #[.pointer (some ⟨w0.heap.size, 0, none⟩)] #[], .func (.func 35) #[.pointer (some ⟨w0.heap.size, 0, none⟩)] #[], .func (.func 36) #[.pointer (some ⟨w0.heap.size, 0, none⟩)] #[]] 66)) := by
    refine ⟨a, c, l, ⟨((Below.refl _ _).alloc (Nat.le_refl _) _).alloc (by simp) _, ?_, ?_, by omega, Nat.le_refl _, by omega⟩, ⟨?_, by omega, by omega⟩, b5⟩
    · rw [b2]
      exact (Has.new w0 _ _).alloc _
    · exact Has.at _ _ _ (by simp)
    · rw [b2]
      exact b1.below hb0
  obtain ⟨hT0, h00⟩ := pla_tab b6 b7 hb0
  have key := memberinturn_ok w0.heap.size (w0.heap.size + 1) _ (RFIN w0 D)
    (fun W h => by obtain ⟨_, _, _, F, _⟩ := h; exact F.fl.cell 0) (fun W h => by obtain ⟨_, _, _, F, _⟩ := h; exact F.fl.cell 1) (fun W h => by obtain ⟨_, _, _, _, F, _⟩ := h; exact F.fl.cell 2) (fun W h => by obtain ⟨_, _, _, _, _, F, _⟩ := h; exact F.fl.cell 3)
    (fun W h => mstep0 W h) (fun W h => mstep1 W h) (fun W h => mstep2 W h) (fun W h => mstep3 hT0 h00 W h) _ hP0
  have R0 : Aside (Below w.heap.size w w0 ∧ Has w0 w.heap.size #[.int .u64 0, .int .u64 0, .slice none 0 0] 25 ∧ w0.heap.size = w.heap.size + 1) := ⟨hb0, hR, hs0⟩
  clear hP0 hT0 h00 b1 b2 b3 b4 b5 b6 b7 HA hR hb0 hs0
  refine key.mono ?_
  rintro e w1 ⟨E, rfl, h1, h2⟩
  clear key
  by_cases hE : E = 0
  · subst hE
    obtain ⟨a', c', l', X, Y, N, g, F, S, hX, hY, hD, hl, hg, hg1, hg2, hg3⟩ := h1 rfl
    obtain ⟨r1, r2, r3⟩ := R0.out
    have hH := r2.below F.bel (by omega)
    have x0 : w1.cell? ⟨w.heap.size, 0, none⟩ = some (.int .u64 0) := hH.cell 0
    have x1 : w1.cell? ⟨w.heap.size, 1, none⟩ = some (.int .u64 0) := hH.cell 1
    have x2 : w1.cell? ⟨w.heap.size, 2, none⟩ = some (.slice none 0 0) := hH.cell 2
    have f0 := hH.frozen 0
    have f1 := hH.frozen 1
    have f2 := hH.frozen 2
    have y1 : w1.cell? ⟨w0.heap.size, 1, none⟩ = some (.int .u64 (X : Int)) := F.rd.cell 1
    have y2 : w1.cell? ⟨w0.heap.size, 2, none⟩ = some (.int .u64 (Y : Int)) := F.rd.cell 2
    have y3 : w1.cell? ⟨w0.heap.size, 3, none⟩ = some (.slice (some ⟨g, 0, none⟩) N N) := F.rd.cell 3
    have R : Aside (Below w.heap.size w w1 ∧ X < 2 ^ 64 ∧ Y < 2 ^ 64 ∧ D = (0, X, Y, N, l') ∧ l'.length = 32 * N ∧ (∀ x ∈ l', 0 ≤ x ∧ x ≤ 255) ∧ Has w1 g (CELLS l').toArray 53 ∧ w0.heap.size ≤ g ∧ w0.heap.size = w.heap.size + 1 ∧ Has w1 w.heap.size #[.int .u64 0, .int .u64 0, .slice none 0 0] 25) := ⟨r1.trans (F.bel.mono r1.size), hX, hY, hD, hl, S.1.2.2, hg, hg1, r3, hH⟩
    clear h1 h2 F S hX hY hD hl hg hg1 hg2 hg3 r1 r2 r3 hH R0
    go_wp2
    obtain ⟨r1, r2, r3, r4, r5, r6, r7, r8, r9, r10⟩ := R.out
    have hH := ((r10.set 0 (.int .u64 (X : Int))).set 1 (.int .u64 (Y : Int))).set 2 (.slice (some ⟨g, 0, none⟩) N N)
    have hg := ((r7.other (a := ⟨w.heap.size, 0, none⟩) (by show g ≠ w.heap.size; omega) (.int .u64 (X : Int))).other (a := ⟨w.heap.size, 1, none⟩) (by show g ≠ w.heap.size; omega) (.int .u64 (Y : Int))).other (a := ⟨w.heap.size, 2, none⟩) (by show g ≠ w.heap.size; omega) (.slice (some ⟨g, 0, none⟩) N N)
    have hb := ((r1.setCell (p := ⟨w.heap.size, 0, none⟩) (Nat.le_refl _) (.int .u64 (X : Int))).setCell (p := ⟨w.heap.size, 1, none⟩) (Nat.le_refl _) (.int .u64 (Y : Int))).setCell (p := ⟨w.heap.size, 2, none⟩) (Nat.le_refl _) (.slice (some ⟨g, 0, none⟩) N N)
    clear x0 x1 x2 f0 f1 f2 y1 y2 y3 R r1 r10 r7
    generalize ((w1.setCell ⟨w.heap.size, 0, none⟩ (.int .u64 (X : Int))).setCell ⟨w.heap.size, 1, none⟩ (.int .u64 (Y : Int))).setCell ⟨w.heap.size, 2, none⟩ (.slice (some ⟨g, 0, none⟩) N N) = wf at *
    have z0 : wf.cell? ⟨w.heap.size, 0, none⟩ = some (.int .u64 (X : Int)) := hH.cell 0
    have z1 : wf.cell? ⟨w.heap.size, 1, none⟩ = some (.int .u64 (Y : Int)) := hH.cell 1
    have z2 : wf.cell? ⟨w.heap.size, 2, none⟩ = some (.slice (some ⟨g, 0, none⟩) N N) := hH.cell 2
    rw [r4]
    refine bodyPost_ret (v := .tuple #[.agg #[.int .u64 (X : Int), .int .u64 (Y : Int), .slice (some ⟨g, 0, none⟩) N N], .int .i64 0]) ?_ rfl ⟨_, rfl, hb, .inr ⟨rfl, r2, r3, r5, r6, g, rfl, by omega, hg⟩⟩
    simp [results, Tryd.f9, go_sem, z0, z1, z2]
  · have hE' : (E != 0) = true := by simp [hE]
    obtain ⟨hD, hbw⟩ := h2 hE
    obtain ⟨r1, r2, r3⟩ := R0.out
    have hH := r2.below hbw (by omega)
    have x0 : w1.cell? ⟨w.heap.size, 0, none⟩ = some (.int .u64 0) := hH.cell 0
    have x1 : w1.cell? ⟨w.heap.size, 1, none⟩ = some (.int .u64 0) := hH.cell 1
    have x2 : w1.cell? ⟨w.heap.size, 2, none⟩ = some (.slice none 0 0) := hH.cell 2
    have f0 := hH.frozen 0
    have f1 := hH.frozen 1
    have f2 := hH.frozen 2
    have R : Aside (Below w.heap.size w w1 ∧ D = DERR E ∧ ¬ E = 0 ∧ Has w1 w.heap.size #[.int .u64 0, .int .u64 0, .slice none 0 0] 25) := ⟨r1.trans (hbw.mono r1.size), hD, hE, hH⟩
    clear h1 h2 hD hbw r1 r2 r3 hH R0 hE
    go_wp2
    obtain ⟨r1, r4, r2, r10⟩ := R.out
    have hH := ((r10.set 0 (.int .u64 0)).set 1 (.int .u64 0)).set 2 (.slice none 0 0)
    have hb := ((r1.setCell (p := ⟨w.heap.size, 0, none⟩) (Nat.le_refl _) (.int .u64 0)).setCell (p := ⟨w.heap.size, 1, none⟩) (Nat.le_refl _) (.int .u64 0)).setCell (p := ⟨w.heap.size, 2, none⟩) (Nat.le_refl _) (.slice none 0 0)
    clear x0 x1 x2 f0 f1 f2 R r1 r10
    generalize ((w1.setCell ⟨w.heap.size, 0, none⟩ (.int .u64 0)).setCell ⟨w.heap.size, 1, none⟩ (.int .u64 0)).setCell ⟨w.heap.size, 2, none⟩ (.slice none 0 0) = wf at *
    have z0 : wf.cell? ⟨w.heap.size, 0, none⟩ = some (.int .u64 0) := hH.cell 0
    have z1 : wf.cell? ⟨w.heap.size, 1, none⟩ = some (.int .u64 0) := hH.cell 1
    have z2 : wf.cell? ⟨w.heap.size, 2, none⟩ = some (.slice none 0 0) := hH.cell 2
    rw [r4]
    refine bodyPost_ret (v := .tuple #[.agg #[.int .u64 0, .int .u64 0, .slice none 0 0], .int .i64 E]) ?_ rfl ⟨_, rfl, hb, .inl ⟨r2, rfl⟩⟩
    simp [results, Tryd.f9, go_sem, z0, z1, z2]
set_option maxHeartbeats 2000000 in
theorem decodeprefix_ok (a : Option Addr) (n c : Nat) (hn : n ≤ 1000000) (l : List Int) (w : World) (hB : Bytes w a n l) (hc : n ≤ c) (hT : Tabled w) (h0 : 0 < w.heap.size) :
    Calls Tryd.prog 13 #[.slice a n c] w (DECD w (DEX l)) := by
  have hln : l.length = n := hB.1
  obtain ⟨D, hD⟩ : ∃ D, DEX l = D := ⟨_, rfl⟩
  rw [hD]
  have hDD : D = DC0 80 (fun _ => false) PPA l := hD.symm
  have HA : Aside (Bytes w a n l ∧ l.length = n ∧ n ≤ c ∧ n ≤ 1000000 ∧ D = DC0 80 (fun _ => false) PPA l ∧ Tabled w ∧ 0 < w.heap.size) := ⟨hB, hln, hc, hn, hDD, hT, h0⟩
  clear hB hc hn hD hT h0 hln hDD
  go_enter Tryd.func13, Tryd.ntmps13
  go_wp2_with fail
  have hR := Has.new w #[.int .u64 0, .int .u64 0, .slice none 0 0] 27
  have hb0 : Below w.heap.size w (w.alloc (.cells #[.int .u64 0, .int .u64 0, .slice none 0 0] 27)) := (Below.refl _ _).alloc (Nat.le_refl _) _
  have hs0 : (w.alloc (.cells #[.int .u64 0, .int .u64 0, .slice none 0 0] 27)).heap.size = w.heap.size + 1 := by simp
  generalize w.alloc (.cells #[.int .u64 0, .int .u64 0, .slice none 0 0] 27) = w0 at *
  rw [← hs0]
  obtain ⟨b1, b2, b3, b4, b5, b6, b7⟩ := HA.out
  have hP0 : RPP w0 w0.heap.size (w0.heap.size + 1) 68 #[.func (.func 38) #[.pointer (some ⟨w0.heap.size, 0, none⟩)] #[], .func (.func 39) #[.pointer (some ⟨w0.heap.size, 0, none⟩)] #[], .func (.func 40) #[.pointer (some ⟨w0.heap.size, 0, none⟩)] #[], .func (.func 41) #[.pointer (some ⟨w0.heap.size, 0, none⟩)] #[]] 66 80 (fun _ => false) PPA D 0
      ((w0.alloc (.cells #[.slice a n c, .int .u64 0, .int .u64 0, .slice none 0 0] 68)).alloc (.cells #[.func (.func 38) #[.pointer (some ⟨w0.heap.size, 0, none⟩)] #[], .func (.func 39) #[.pointer (some ⟨w0.heap.size, 0, none⟩)] #[], .func (.func 40) #[.pointer (some ⟨w0.heap.size, 0, none⟩)] #[], .func (.func 41) #[.pointer (some ⟨w0.heap.size, 0, none⟩)] #[]] 66)) := by
    refine ⟨a, c, l, ⟨((Below.refl _ _).alloc (Nat.le_refl _) _).alloc (by simp) _, ?_, ?_, by omega, Nat.le_refl _, by omega⟩, ⟨?_, by omega, by omega⟩, b5⟩
    · rw [b2]
      exact (Has.new w0 _ _).alloc _
    · exact Has.at _ _ _ (by simp)
    · rw [b2]
      exact b1.below hb0
  obtain ⟨hT0, h00⟩ := pla_tab b6 b7 hb0
  have key := prefixinturn_ok w0.heap.size (w0.heap.size + 1) _ (RFIN w0 D)
    (fun W h => by obtain ⟨_, _, _, F, _⟩ := h; exact F.fl.cell 0) (fun W h => by obtain ⟨_, _, _, F, _⟩ := h; exact F.fl.cell 1) (fun W h => by obtain ⟨_, _, _, _, F, _⟩ := h; exact F.fl.cell 2) (fun W h => by obtain ⟨_, _, _, _, _, F, _⟩ := h; exact F.fl.cell 3)
    (fun W h => pstep0 W h) (fun W h => pstep1 W h) (fun W h => pstep2 W h) (fun W h => pstep3 hT0 h00 W h) _ hP0
  have R0 : Aside (Below w.heap.size w w0 ∧ Has w0 w.heap.size #[.int .u64 0, .int .u64 0, .slice none 0 0] 27 ∧ w0.heap.size = w.heap.size + 1) := ⟨hb0, hR, hs0⟩
  clear hP0 hT0 h00 b1 b2 b3 b4 b5 b6 b7 HA hR hb0 hs0
  refine key.mono ?_
  rintro e w1 ⟨E, rfl, h1, h2⟩
  clear key
  by_cases hE : E = 0
  · subst hE
    obtain ⟨a', c', l', X, Y, N, g, F, S, hX, hY, hD, hl, hg, hg1, hg2, hg3⟩ := h1 rfl
    obtain ⟨r1, r2, r3⟩ := R0.out
    have hH := r2.below F.bel (by omega)
    have x0 : w1.cell? ⟨w.heap.size, 0, none⟩ = some (.int .u64 0) := hH.cell 0
    have x1 : w1.cell? ⟨w.heap.size, 1, none⟩ = some (.int .u64 0) := hH.cell 1
    have x2 : w1.cell? ⟨w.heap.size, 2, none⟩ = some (.slice none 0 0) := hH.cell 2
    have f0 := hH.frozen 0
    have f1 := hH.frozen 1
    have f2 := hH.frozen 2
    have y1 : w1.cell? ⟨w0.heap.size, 1, none⟩ = some (.int .u64 (X : Int)) := F.rd.cell 1
    have y2 : w1.cell? ⟨w0.heap.size, 2, none⟩ = some (.int .u64 (Y : Int)) := F.rd.cell 2
    have y3 : w1.cell? ⟨w0.heap.size, 3, none⟩ = some (.slice (some ⟨g, 0, none⟩) N N) := F.rd.cell 3
    have R : Aside (Below w.heap.size w w1 ∧ X < 2 ^ 64 ∧ Y < 2 ^ 64 ∧ D = (0, X, Y, N, l') ∧ l'.length = 32 * N ∧ (∀ x ∈ l', 0 ≤ x ∧ x ≤ 255) ∧ Has w1 g (CELLS l').toArray 53 ∧ w0.heap.size ≤ g ∧ w0.heap.size = w.heap.size + 1 ∧ Has w1 w.heap.size #[.int .u64 0, .int .u64 0, .slice none 0 0] 27) := ⟨r1.trans (F.bel.mono r1.size), hX, hY, hD, hl, S.1.2.2, hg, hg1, r3, hH⟩
    clear h1 h2 F S hX hY hD hl hg hg1 hg2 hg3 r1 r2 r3 hH R0
    go_wp2
    obtain ⟨r1, r2, r3, r4, r5, r6, r7, r8, r9, r10⟩ := R.out
    have hH := ((r10.set 0 (.int .u64 (X : Int))).set 1 (.int .u64 (Y : Int))).set 2 (.slice (some ⟨g, 0, none⟩) N N)
    have hg := ((r7.other (a := ⟨w.heap.size, 0, none⟩) (by show g ≠ w.heap.size; omega) (.int .u64 (X : Int))).other (a := ⟨w.heap.size, 1, none⟩) (by show g ≠ w.heap.size; omega) (.int .u64 (Y : Int))).other (a := ⟨w.heap.size, 2, none⟩) (by show g ≠ w.heap.size; omega) (.slice (some ⟨g, 0, none⟩) N N)
    have hb := ((r1.setCell (p := ⟨w.heap.size, 0, none⟩) (Nat.le_refl _) (.int .u64 (X : Int))).setCell (p := ⟨w.heap.size, 1, none⟩) (Nat.le_refl _) (.int .u64 (Y : Int))).setCell (p := ⟨w.heap.size, 2, none⟩) (Nat.le_refl _) (.slice (some ⟨g, 0, none⟩) N N)
    clear x0 x1 x2 f0 f1 f2 y1 y2 y3 R r1 r10 r7
    generalize ((w1.setCell ⟨w.heap.size, 0, none⟩ (.int .u64 (X : Int))).setCell ⟨w.heap.size, 1, none⟩ (.int .u64 (Y : Int))).setCell ⟨w.heap.size, 2, none⟩ (.slice (some ⟨g, 0, none⟩) N N) = wf at *
    have z0 : wf.cell? ⟨w.heap.size, 0, none⟩ = some (.int .u64 (X : Int)) := hH.cell 0
    have z1 : wf.cell? ⟨w.heap.size, 1, none⟩ = some (.int .u64 (Y : Int)) := hH.cell 1
    have z2 : wf.cell? ⟨w.heap.size, 2, none⟩ = some (.slice (some ⟨g, 0, none⟩) N N) := hH.cell 2
    rw [r4]
    refine bodyPost_ret (v := .tuple #[.agg #[.int .u64 (X : Int), .int .u64 (Y : Int), .slice (some ⟨g, 0, none⟩) N N], .int .i64 0]) ?_ rfl ⟨_, rfl, hb, .inr ⟨rfl, r2, r3, r5, r6, g, rfl, by omega, hg⟩⟩
    simp [results, Tryd.f13, go_sem, z0, z1, z2]
  · have hE' : (E != 0) = true := by simp [hE]
    obtain ⟨hD, hbw⟩ := h2 hE
    obtain ⟨r1, r2, r3⟩ := R0.out
    have hH := r2.below hbw (by omega)
    have x0 : w1.cell? ⟨w.heap.size, 0, none⟩ = some (.int .u64 0) := hH.cell 0
    have x1 : w1.cell? ⟨w.heap.size, 1, none⟩ = some (.int .u64 0) := hH.cell 1
    have x2 : w1.cell? ⟨w.heap.size, 2, none⟩ = some (.slice none 0 0) := hH.cell 2
    have f0 := hH.frozen 0
    have f1 := hH.frozen 1
    have f2 := hH.frozen 2
    have R : Aside (Below w.heap.size w w1 ∧ D = DERR E ∧ ¬ E = 0 ∧ Has w1 w.heap.size #[.int .u64 0, .int .u64 0, .slice none 0 0] 27) := ⟨r1.trans (hbw.mono r1.size), hD, hE, hH⟩
    clear h1 h2 hD hbw r1 r2 r3 hH R0 hE
    go_wp2
    obtain ⟨r1, r4, r2, r10⟩ := R.out
    have hH := ((r10.set 0 (.int .u64 0)).set 1 (.int .u64 0)).set 2 (.slice none 0 0)
    have hb := ((r1.setCell (p := ⟨w.heap.size, 0, none⟩) (Nat.le_refl _) (.int .u64 0)).setCell (p := ⟨w.heap.size, 1, none⟩) (Nat.le_refl _) (.int .u64 0)).setCell (p := ⟨w.heap.size, 2, none⟩) (Nat.le_refl _) (.slice none 0 0)
    clear x0 x1 x2 f0 f1 f2 R r1 r10
    generalize ((w1.setCell ⟨w.heap.size, 0, none⟩ (.int .u64 0)).setCell ⟨w.heap.size, 1, none⟩ (.int .u64 0)).setCell ⟨w.heap.size, 2, none⟩ (.slice none 0 0) = wf at *
    have z0 : wf.cell? ⟨w.heap.size, 0, none⟩ = some (.int .u64 0) := hH.cell 0
    have z1 : wf.cell? ⟨w.heap.size, 1, none⟩ = some (.int .u64 0) := hH.cell 1
    have z2 : wf.cell? ⟨w.heap.size, 2, none⟩ = some (.slice none 0 0) := hH.cell 2
    rw [r4]
    refine bodyPost_ret (v := .tuple #[.agg #[.int .u64 0, .int .u64 0, .slice none 0 0], .int .i64 E]) ?_ rfl ⟨_, rfl, hb, .inl ⟨r2, rfl⟩⟩
    simp [results, Tryd.f13, go_sem, z0, z1, z2]
end Go.Proofs.YtfjmbfppilfepaaDoor

/- The walk of ProofRound. -/
namespace Go.Proofs.YtfjmbfppilfepaaDoor
open Go.RowKit
set_option maxRecDepth 100000

/-- a proof as a value. -/
abbrev PV (X Y : Nat) (a : Option Addr) (n c : Nat) : Array Value := #[.int .u64 (X : Int), .int .u64 (Y : Int), .slice a n c]
/-- what lies there while the law goes on: the two that came in, and their copies with rows of their own, with marks behind them. -/
structure RND (w W : World) (b3 b4 g7 g8 : Nat) (S I : Nat) (pa : Option Addr) (pn pc : Nat) (F Z : Nat) (xa : Option Addr) (xn xc : Nat) (rg cg rx cx : Nat) (pl xl : List Int) : Prop where
  bel : Below w.heap.size w W
  h3 : Has W b3 (PV S I pa pn pc) 25
  h4 : Has W b4 (PV F Z xa xn xc) 27
  h7 : Has W g7 (PV S I (some ⟨rg, 0, none⟩) pn cg) 25
  h8 : Has W g8 (PV F Z (some ⟨rx, 0, none⟩) xn cx) 27
  fg : Flat W (some ⟨rg, 0, none⟩) pn pl
  fx : Flat W (some ⟨rx, 0, none⟩) xn xl
  mg : W.rangeAt rg (pn * 32) (CELLS MRK) ∧ rg < W.heap.size ∧ pn + 1 ≤ cg
  mx : W.rangeAt rx (xn * 32) (CELLS MRK) ∧ rx < W.heap.size ∧ xn + 1 ≤ cx
theorem range_below {w w' : World} {g o : Nat} {cs : List Value} (h : w.rangeAt g o cs) (hb : Below w.heap.size w w') (hg : g < w.heap.size) : w'.rangeAt g o cs := fun j v hv => (hb.cell (p := ⟨g, o + j, none⟩) hg).trans (h j v hv)
theorem range_other {w : World} {g o : Nat} {cs : List Value} (h : w.rangeAt g o cs) {a : Addr} (ha : g ≠ a.block) (u : Value) : (w.setCell a u).rangeAt g o cs := fun j v hv => (World.cell?_setCell_other w _ _ u (fun e => ha (congrArg Addr.block e).symm)).trans (h j v hv)
theorem Flat.other {w : World} {b o n : Nat} {l : List Int} (h : Flat w (some ⟨b, o, none⟩) n l) {a : Addr} (ha : b ≠ a.block) (u : Value) : Flat (w.setCell a u) (some ⟨b, o, none⟩) n l :=
  ⟨h.1, fun hn => by
    obtain ⟨b', o', e, hl, hc⟩ := h.2.1 hn
    cases e
    exact ⟨b, o, rfl, Nat.lt_of_lt_of_le hl (KeepsWalks.setCell w a u).size, fun j hj => (World.cell?_setCell_other w _ _ u (fun e => ha (congrArg Addr.block e).symm)).trans (hc j hj)⟩, h.2.2⟩
theorem RND.step {w W W' : World} {b3 b4 g7 g8 S I : Nat} {pa : Option Addr} {pn pc F Z : Nat} {xa : Option Addr} {xn xc rg cg rx cx : Nat} {pl xl : List Int} (h : RND w W b3 b4 g7 g8 S I pa pn pc F Z xa xn xc rg cg rx cx pl xl) (hb : Below W.heap.size W W') : RND w W' b3 b4 g7 g8 S I pa pn pc F Z xa xn xc rg cg rx cx pl xl :=
  ⟨h.bel.trans (hb.mono h.bel.size), h.h3.keep hb, h.h4.keep hb, h.h7.keep hb, h.h8.keep hb, h.fg.below hb, h.fx.below hb, ⟨range_below h.mg.1 hb h.mg.2.1, Nat.lt_of_lt_of_le h.mg.2.1 hb.size, h.mg.2.2⟩, ⟨range_below h.mx.1 hb h.mx.2.1, Nat.lt_of_lt_of_le h.mx.2.1 hb.size, h.mx.2.2⟩⟩
/-- the two structures, before their lists are laid into them. -/
structure RN0 (w W : World) (b3 b4 g7 g8 : Nat) (S I : Nat) (pa : Option Addr) (pn pc : Nat) (F Z : Nat) (xa : Option Addr) (xn xc : Nat) (na : Option Addr) (nc : Nat) : Prop where
  bel : Below w.heap.size w W
  h3 : Has W b3 (PV S I pa pn pc) 25
  h4 : Has W b4 (PV F Z xa xn xc) 27
  h7 : Has W g7 (PV S I na pn nc) 25
  h8 : Has W g8 (PV F Z xa xn xc) 27
  ne : g7 ≠ g8 ∧ b3 ≠ g7 ∧ b3 ≠ g8 ∧ b4 ≠ g7 ∧ b4 ≠ g8 ∧ w.heap.size ≤ g7 ∧ w.heap.size ≤ g8
theorem RN0.step {w W W' : World} {b3 b4 g7 g8 S I : Nat} {pa : Option Addr} {pn pc F Z : Nat} {xa : Option Addr} {xn xc : Nat} {na : Option Addr} {nc : Nat} (h : RN0 w W b3 b4 g7 g8 S I pa pn pc F Z xa xn xc na nc) (hb : Below W.heap.size W W') : RN0 w W' b3 b4 g7 g8 S I pa pn pc F Z xa xn xc na nc :=
  ⟨h.bel.trans (hb.mono h.bel.size), h.h3.keep hb, h.h4.keep hb, h.h7.keep hb, h.h8.keep hb, h.ne⟩
/-- a list with its mark. -/
structure MKD (W : World) (g7 g8 r n c : Nat) (l : List Int) : Prop where
  fl : Flat W (some ⟨r, 0, none⟩) n l
  mr : W.rangeAt r (n * 32) (CELLS MRK) ∧ r < W.heap.size ∧ n + 1 ≤ c
  ne : r ≠ g7 ∧ r ≠ g8
theorem MKD.step {W W' : World} {g7 g8 r n c : Nat} {l : List Int} (h : MKD W g7 g8 r n c l) (hb : Below W.heap.size W W') : MKD W' g7 g8 r n c l :=
  ⟨h.fl.below hb, ⟨range_below h.mr.1 hb h.mr.2.1, Nat.lt_of_lt_of_le h.mr.2.1 hb.size, h.mr.2.2⟩, h.ne⟩
theorem MKD.other {W : World} {g7 g8 r n c : Nat} {l : List Int} (h : MKD W g7 g8 r n c l) {a : Addr} (ha : r ≠ a.block) (u : Value) : MKD (W.setCell a u) g7 g8 r n c l :=
  ⟨h.fl.other ha u, ⟨range_other h.mr.1 ha u, Nat.lt_of_lt_of_le h.mr.2.1 (KeepsWalks.setCell W a u).size, h.mr.2.2⟩, h.ne⟩
theorem own_flat {w : World} {B n : Nat} {a : Option Addr} {c : Nat} {l : List Int} (h : w.ownsRow B 53 32 (.slice a n c) n (CELLS l)) (hr : ∀ x ∈ l, 0 ≤ x ∧ x ≤ 255) : Flat w a n l := by
  have hl : l.length = 32 * n := by have := h.1; simpa [CELLS, Nat.mul_comm] using this
  refine ⟨hl, fun hn => ?_, hr⟩
  rcases h.2 with ⟨e, h0⟩ | ⟨g, cap, cur, e, _, hg, _⟩
  · omega
  · cases e
    refine ⟨g, 0, rfl, (Array.getElem?_eq_some_iff.1 hg).1, fun j hj => ?_⟩
    have := h.cellAt j (by omega)
    rw [Nat.zero_add, this, CELLS_get l j (by omega)]
theorem nil_flat (w : World) : Flat w none 0 [] := ⟨rfl, fun h => absurd h (by decide), by simp⟩
theorem has_flat {w : World} {g n : Nat} {l : List Int} (h : Has w g (CELLS l).toArray 53) (hl : l.length = 32 * n) (hr : ∀ x ∈ l, 0 ≤ x ∧ x ≤ 255) : Flat w (some ⟨g, 0, none⟩) n l :=
  ⟨hl, fun _ => ⟨g, 0, rfl, h.lt, fun j hj => by rw [Nat.zero_add, h.cell, List.getElem?_toArray, CELLS_get l j (by omega)]⟩, hr⟩
theorem own_sl {w : World} {B n : Nat} {v : Value} {l : List Int} (h : w.ownsRow B 5 1 v n (CELLS l)) (hr : ∀ x ∈ l, 0 ≤ x ∧ x ≤ 255) : ∃ a c, v = .slice a n c ∧ Bytes w a n l ∧ n ≤ c := by
  obtain ⟨a, c, rfl⟩ : ∃ a c, v = .slice a n c := by
    rcases h.2 with ⟨rfl, h0⟩ | ⟨g, cap, cur, rfl, _⟩
    · subst h0
      exact ⟨none, 0, rfl⟩
    · exact ⟨_, _, rfl⟩
  exact ⟨a, c, rfl, own_bytes_any h hr⟩
theorem ENCB_range {k E : Int} {P n X Y : Nat} {l c : List Int} {E' : Int} (hX : X < 2 ^ 64) (hY : Y < 2 ^ 64) (hk : 0 ≤ k ∧ k ≤ 255) (hr : ∀ x ∈ l, 0 ≤ x ∧ x ≤ 255) (h : ENCB k E P n X Y l = (E', c)) : ∀ x ∈ c, 0 ≤ x ∧ x ≤ 255 := by
  unfold ENCB at h
  split at h
  · cases h
    simp
  · split at h
    · cases h
      simp
    · cases h
      intro x hx
      simp only [List.mem_cons, List.mem_append] at hx
      rcases hx with rfl | (hx | hx) | hx
      · exact hk
      · exact SHORT_range hX x hx
      · exact SHORT_range hY x hx
      · exact hr x hx
theorem ENCB_long {k E : Int} {P n X Y : Nat} {l c : List Int} {E' : Int} (hl : l.length = 32 * n) (h : ENCB k E P n X Y l = (E', c)) : c.length ≤ 21 + 32 * n := by
  have h1 := SHORT_length X
  have h2 := SHORT_length Y
  have h3 := NTOP_le X
  have h4 := NTOP_le Y
  unfold ENCB at h
  split at h
  · cases h
    simp
  · split at h
    · cases h
      simp
    · cases h
      simp
      omega
theorem ENC_some {S I n : Nat} {l c : List Int} (h : ENC S I n l = (0, c)) : ∃ M, c.length = M + 1 := by
  unfold ENC ENCB at h
  split at h
  · rename_i he
    exact absurd (congrArg Prod.fst h) he
  · split at h
    · exact absurd (congrArg Prod.fst h) (by simp)
    · cases h
      exact ⟨_, rfl⟩
theorem Bytes.take {w : World} {a : Option Addr} {n : Nat} {l : List Int} (h : Bytes w a n l) {m : Nat} (hm : m ≤ n) : Bytes w a m (l.take m) := by
  refine ⟨by rw [List.length_take, h.1]; omega, fun h0 => ?_, fun x hx => h.2.2 x (List.mem_of_mem_take hx)⟩
  obtain ⟨b, o, e, hb, hc⟩ := h.2.1 (by omega)
  refine ⟨b, o, e, hb, fun i hi => ?_⟩
  rw [hc i (by omega), List.getD_eq_getElem?_getD, List.getD_eq_getElem?_getD, List.getElem?_take, if_pos hi]
theorem round_less {c : List Int} {M S I n : Nat} {l : List Int} (hr : ∀ x ∈ c, 0 ≤ x ∧ x ≤ 255) (hM : c.length = M + 1) (h : DEC c = (0, S, I, n, l)) : (DEC (c.take M)).1 ≠ 0 := by
  have e : c = c.take M ++ [c.getD M 0] := by
    conv => lhs; rw [← List.take_append_drop M c]
    congr 1
    rw [List.drop_eq_getElem_cons (by omega), List.drop_of_length_le (by omega), List.getD_eq_getElem?_getD, List.getElem?_eq_getElem (by omega)]
    simp
  refine round_cut (x := c.getD M 0) (fun y hy => hr y (List.mem_of_mem_take hy)) ?_
  rw [← e, h]
set_option maxHeartbeats 4000000 in
theorem proofRound_core (S I : Nat) (hS : S < 2 ^ 64) (hI : I < 2 ^ 64) (pa : Option Addr) (pn pc : Nat) (hpc : pa = none → pc = 0) (pl : List Int) (F Z : Nat) (hF : F < 2 ^ 64) (hZ : Z < 2 ^ 64) (xa : Option Addr) (xn xc : Nat) (hxc : xa = none → xc = 0) (xl : List Int)
    (ba : Option Addr) (bn bc : Nat) (hbc : ba = none → bc = 0) (hbn : bn ≤ bc) (bl : List Int) (w : World) (hP : Flat w pa pn pl) (hX : Flat w xa xn xl) (hB : Bytes w ba bn bl) (hT : Tabled w) (h0 : 0 < w.heap.size) (l1 : pn ≤ 300) (l2 : xn ≤ 300) (l3 : bn ≤ 9600) :
    Calls Tryd.prog 3 #[.agg (PV S I pa pn pc), .agg (PV F Z xa xn xc), .slice ba bn bc] w fun e w' => e = .returned (.bool true) ∧ Below w.heap.size w w' := by
  have k1 : ¬ (300 : Int) < (pn : Int) := by omega
  have k2 : ¬ (300 : Int) < (xn : Int) := by omega
  have k3 : ¬ (9600 : Int) < (bn : Int) := by omega
  have HA : Aside (S < 2 ^ 64 ∧ I < 2 ^ 64 ∧ F < 2 ^ 64 ∧ Z < 2 ^ 64 ∧ (pa = none → pc = 0) ∧ (xa = none → xc = 0) ∧ (ba = none → bc = 0) ∧ bn ≤ bc ∧ pn ≤ 300 ∧ xn ≤ 300 ∧ bn ≤ 9600) := ⟨hS, hI, hF, hZ, hpc, hxc, hbc, hbn, l1, l2, l3⟩
  have HW : Aside (Flat w pa pn pl ∧ Flat w xa xn xl ∧ Bytes w ba bn bl ∧ Tabled w ∧ 0 < w.heap.size) := ⟨hP, hX, hB, hT, h0⟩
  clear hS hI hF hZ hpc hxc hbc hbn l1 l2 l3 hP hX hB hT h0
  go_enter Tryd.func3, Tryd.ntmps3
  go_upto_region 3 with fail
  have hH3 := (Has.new w (PV S I pa pn pc) 25).alloc (.cells (PV F Z xa xn xc) 27)
  have hH4 : Has ((w.alloc (.cells (PV S I pa pn pc) 25)).alloc (.cells (PV F Z xa xn xc) 27)) (w.heap.size + 1) (PV F Z xa xn xc) 27 := Has.at _ _ _ (by simp)
  obtain ⟨W0, hW0⟩ : ∃ W0, W0 = (w.alloc (.cells (PV S I pa pn pc) 25)).alloc (.cells (PV F Z xa xn xc) 27) := ⟨_, rfl⟩
  obtain ⟨B, hBB⟩ : ∃ B, B = w.heap.size := ⟨_, rfl⟩
  have R0 : Aside (Below w.heap.size w W0 ∧ Has W0 B (PV S I pa pn pc) 25 ∧ Has W0 (B + 1) (PV F Z xa xn xc) 27 ∧ W0.heap.size = B + 2 ∧ B = w.heap.size) := by
    rw [hBB, hW0]
    exact ⟨((Below.refl _ _).alloc (Nat.le_refl _) _).alloc (by simp) _, hH3, hH4, by simp, rfl⟩
  rw [← hW0, ← hBB]
  clear hH3 hH4 hW0 hBB k1 k2 k3
  go_cut [7, 8] from 40 to 161 (fun s7 s8 W => ∃ g7 g8, s7 = .pointer (some ⟨g7, 0, none⟩) ∧ s8 = .pointer (some ⟨g8, 0, none⟩) ∧ Aside (Below w.heap.size w W ∧ Has W B (PV S I pa pn pc) 25 ∧ Has W (B + 1) (PV F Z xa xn xc) 27 ∧ Has W g7 (PV S I pa pn pc) 25 ∧ Has W g8 (PV F Z xa xn xc) 27 ∧ g7 ≠ g8 ∧ B + 2 ≤ g7 ∧ B + 2 ≤ g8 ∧ B = w.heap.size))
  case first =>
    have c0 : W0.cell? ⟨B, 0, none⟩ = some (.int .u64 (S : Int)) := R0.out.2.1.cell 0
    have c1 : W0.cell? ⟨B, 1, none⟩ = some (.int .u64 (I : Int)) := R0.out.2.1.cell 1
    have c2 : W0.cell? ⟨B, 2, none⟩ = some (.slice pa pn pc) := R0.out.2.1.cell 2
    have d0 : W0.cell? ⟨B + 1, 0, none⟩ = some (.int .u64 (F : Int)) := R0.out.2.2.1.cell 0
    have d1 : W0.cell? ⟨B + 1, 1, none⟩ = some (.int .u64 (Z : Int)) := R0.out.2.2.1.cell 1
    have d2 : W0.cell? ⟨B + 1, 2, none⟩ = some (.slice xa xn xc) := R0.out.2.2.1.cell 2
    go_region_held3 (fun W : World => W.cell? ⟨B, 0, none⟩ = some (.int .u64 (S : Int)) ∧ W.cell? ⟨B, 1, none⟩ = some (.int .u64 (I : Int)) ∧ W.cell? ⟨B, 2, none⟩ = some (.slice pa pn pc) ∧ W.cell? ⟨B + 1, 0, none⟩ = some (.int .u64 (F : Int)) ∧ W.cell? ⟨B + 1, 1, none⟩ = some (.int .u64 (Z : Int)) ∧ W.cell? ⟨B + 1, 2, none⟩ = some (.slice xa xn xc)) (go_keep) (fail)
    all_goals go_wp2_with fail
    all_goals go_meet
    all_goals obtain ⟨r1, r2, r3, r4, r5⟩ := R0.out
    · have hb : Below W0.heap.size W0 (((W0.alloc (.cells (PV S I pa pn pc) 25)).alloc (.cells (PV F Z xa xn xc) 27)).drew) := (((Below.refl _ _).alloc (Nat.le_refl _) _).alloc (by simp) _).drew
      exact ⟨_, _, rfl, rfl, r1.trans (hb.mono r1.size), r2.keep hb, r3.keep hb, (Has.new W0 _ _).alloc _, Has.at _ _ _ (by simp), by omega, by omega, by omega, r5⟩
    · have hb : Below W0.heap.size W0 (((W0.alloc (.cells (PV F Z xa xn xc) 27)).alloc (.cells (PV S I pa pn pc) 25)).drew) := (((Below.refl _ _).alloc (Nat.le_refl _) _).alloc (by simp) _).drew
      exact ⟨_, _, rfl, rfl, r1.trans (hb.mono r1.size), r2.keep hb, r3.keep hb, Has.at _ _ _ (by simp), (Has.new W0 _ _).alloc _, by omega, by omega, by omega, r5⟩
  case rest =>
    obtain ⟨g7, g8, rfl, rfl, A⟩ := hcut
    generalize wc = W1 at *
    clear R0
    have A0 : Aside (RN0 w W1 B (B + 1) g7 g8 S I pa pn pc F Z xa xn xc pa pc) := by
      obtain ⟨r1, r2, r3, r4, r5, r6, r7, r8, r9⟩ := A.out
      exact ⟨r1, r2, r3, r4, r5, r6, by omega, by omega, by omega, by omega, by omega, by omega⟩
    clear A
    have C1 : Aside (∀ W, Below w.heap.size w W → Calls Tryd.prog 7 #[.slice pa pn pc] W (ROWED W pn pl)) := fun W h => row_ok pa pn pc (by have := HA.out; omega) HA.out.2.2.2.2.1 pl W (HW.out.1.below h)
    have C2 : Aside (∀ W, Below w.heap.size w W → Calls Tryd.prog 7 #[.slice xa xn xc] W (ROWED W xn xl)) := fun W h => row_ok xa xn xc (by have := HA.out; omega) HA.out.2.2.2.2.2.1 xl W (HW.out.2.1.below h)
    have HR : Aside ((∀ x ∈ pl, 0 ≤ x ∧ x ≤ 255) ∧ (∀ x ∈ xl, 0 ≤ x ∧ x ≤ 255)) := ⟨HW.out.1.2.2, HW.out.2.1.2.2⟩
    go_upto_region 4 with fail
    go_cut [] from 40 to 161 (fun W => ∃ rg cg rx cx, Aside (RND w W B (B + 1) g7 g8 S I pa pn pc F Z xa xn xc rg cg rx cx pl xl))
    case first =>
      refine two_rows _ _ _ _ _ _ _ _ _ _ _ _ _ _ _ _ _ _ _ _ _ _ _ _ _ _ _ _ _ _ _ _ _ _ _ _ _ _ _ _ _ _ _ _ _ _ _ _ _ _ _ _ _ _ _ _ _ _ _ _ _ _ _ _ _ _ _ _ _ _ _ _ _ _ _ _ _ _ _ _ _ _ _ _ _ _ _ _ _ _ _ _ _ _ _ _ _ _ _ _ _ _ _ _ _ _ _ _ _ _ _ _ _ _ _ _ _ _ _ _ _ _ _ _ _ _ _ _ _ _ _ _ _ _ _ _ _ _ _ _ _ _ _ _ _ _ _ _ _ _ _ _ _ _ _ _ _ _ _ B (B + 1) g7 g8 pa pn pc xa xn xc (fun W => RN0 w W B (B + 1) g7 g8 S I pa pn pc F Z xa xn xc pa pc) (fun X W => ∃ rg cg, X = .slice (some ⟨rg, 0, none⟩) pn cg ∧ RN0 w W B (B + 1) g7 g8 S I pa pn pc F Z xa xn xc pa pc ∧ MKD W g7 g8 rg pn cg pl)
        (fun X Y W => ∃ rg cg rx cx, X = .slice (some ⟨rg, 0, none⟩) pn cg ∧ Y = .slice (some ⟨rx, 0, none⟩) xn cx ∧ RN0 w W B (B + 1) g7 g8 S I pa pn pc F Z xa xn xc pa pc ∧ MKD W g7 g8 rg pn cg pl ∧ MKD W g7 g8 rx xn cx xl)
        (fun X Y W => ∃ rg cg rx cx, X = .slice (some ⟨rg, 0, none⟩) pn cg ∧ Y = .slice (some ⟨rx, 0, none⟩) xn cx ∧ RN0 w W B (B + 1) g7 g8 S I pa pn pc F Z xa xn xc (some ⟨rg, 0, none⟩) cg ∧ MKD W g7 g8 rg pn cg pl ∧ MKD W g7 g8 rx xn cx xl)
        (fun X Y W => ∃ rg cg rx cx, X = .slice (some ⟨rg, 0, none⟩) pn cg ∧ Y = .slice (some ⟨rx, 0, none⟩) xn cx ∧ RND w W B (B + 1) g7 g8 S I pa pn pc F Z xa xn xc rg cg rx cx pl xl)
        (fun W h => ⟨h.h3.cell 2, h.h4.cell 2⟩) (fun X W ⟨_, _, _, h, _⟩ => ⟨h.h3.cell 2, h.h4.cell 2⟩) (fun X Y W ⟨_, _, _, _, _, _, h, _⟩ => ⟨h.h3.cell 2, h.h4.cell 2⟩) (fun X Y W ⟨_, _, _, _, _, _, h, _⟩ => ⟨h.h3.cell 2, h.h4.cell 2⟩) (fun X Y W ⟨_, _, _, _, _, _, h⟩ => ⟨h.h3.cell 2, h.h4.cell 2⟩)
        ?_ ?_ ?_ ?_ ⟨A0.out.bel.drew, A0.out.h3, A0.out.h4, A0.out.h7, A0.out.h8, A0.out.ne⟩ (fun _ _ _ _ _ h => h) ?_
      · intro W h
        refine (C1.out W h.bel).mono ?_
        rintro e w1 ⟨rg, cg, rfl, hown, hcap, hrg, hg, hb⟩
        have hr1 := (hown.lt rg rfl).1
        have h7 := h.h7.lt
        have h8 := h.h8.lt
        exact ⟨_, rfl, rg, cg, rfl, h.step hb, own_flat hown HR.out.1, ⟨hrg, hg, hcap⟩, by omega, by omega⟩
      · rintro X W ⟨rg, cg, rfl, h, hm⟩
        refine (C2.out W h.bel).mono ?_
        rintro e w1 ⟨rx, cx, rfl, hown, hcap, hrg, hg, hb⟩
        have hr1 := (hown.lt rx rfl).1
        have h7 := h.h7.lt
        have h8 := h.h8.lt
        exact ⟨_, rfl, rg, cg, rx, cx, rfl, rfl, h.step hb, hm.step hb, own_flat hown HR.out.2, ⟨hrg, hg, hcap⟩, by omega, by omega⟩
      · rintro X Y W ⟨rg, cg, rx, cx, rfl, rfl, h, hm, hm2⟩
        refine ⟨_, store_hashes (h.h7.cell 2) (h.h7.frozen 2), rg, cg, rx, cx, rfl, rfl, ⟨h.bel.setCell (p := ⟨g7, 2, none⟩) h.ne.2.2.2.2.2.1 _, h.h3.other (a := ⟨g7, 2, none⟩) h.ne.2.1 _, h.h4.other (a := ⟨g7, 2, none⟩) h.ne.2.2.2.1 _, h.h7.set 2 _, h.h8.other (a := ⟨g7, 2, none⟩) (fun e => h.ne.1 e.symm) _, h.ne⟩, hm.other (a := ⟨g7, 2, none⟩) hm.ne.1 _, hm2.other (a := ⟨g7, 2, none⟩) hm2.ne.1 _⟩
      · rintro X Y W ⟨rg, cg, rx, cx, rfl, rfl, h, hm, hm2⟩
        have k1 := hm.other (a := ⟨g8, 2, none⟩) hm.ne.2 (.slice (some ⟨rx, 0, none⟩) xn cx)
        have k2 := hm2.other (a := ⟨g8, 2, none⟩) hm2.ne.2 (.slice (some ⟨rx, 0, none⟩) xn cx)
        refine ⟨_, store_hashes (h.h8.cell 2) (h.h8.frozen 2), rg, cg, rx, cx, rfl, rfl, ⟨h.bel.setCell (p := ⟨g8, 2, none⟩) h.ne.2.2.2.2.2.2 _, h.h3.other (a := ⟨g8, 2, none⟩) h.ne.2.2.1 _, h.h4.other (a := ⟨g8, 2, none⟩) h.ne.2.2.2.2.1 _, h.h7.other (a := ⟨g8, 2, none⟩) h.ne.1 _, h.h8.set 2 _, k1.fl, k2.fl, k1.mr, k2.mr⟩⟩
      · rintro X Y W ⟨rg, cg, rx, cx, rfl, rfl, h⟩
        go_wp2_with fail
        go_meet
        exact ⟨rg, cg, rx, cx, h⟩
    case rest =>
      obtain ⟨rg, cg, rx, cx, A⟩ := hcut
      generalize wc = W2 at *
      clear A0 C1 C2 HR
      have HT : Aside (∀ W, Below w.heap.size w W → Tabled W ∧ 0 < W.heap.size ∧ Flat W pa pn pl ∧ Flat W xa xn xl ∧ Bytes W ba bn bl) := fun W h => ⟨HW.out.2.2.2.1.below HW.out.2.2.2.2 h, Nat.lt_of_lt_of_le HW.out.2.2.2.2 h.size, HW.out.1.below h, HW.out.2.1.below h, HW.out.2.2.1.below h⟩
      clear HW
      go_step
      go_step
      go_cut [] from 9 to 161 (fun W => Aside (RND w W B (B + 1) g7 g8 S I pa pn pc F Z xa xn xc rg cg rx cx pl xl))
      case first =>
        have z0 : W2.cell? ⟨g7, 0, none⟩ = some (.int .u64 (S : Int)) := A.out.h7.cell 0
        have z1 : W2.cell? ⟨g7, 1, none⟩ = some (.int .u64 (I : Int)) := A.out.h7.cell 1
        have z2 : W2.cell? ⟨g7, 2, none⟩ = some (.slice (some ⟨rg, 0, none⟩) pn cg) := A.out.h7.cell 2
        go_wp2_with fail
        have H2 := HT.out W2 A.out.bel
        refine (encode_ok S I HA.out.1 HA.out.2.1 (some ⟨rg, 0, none⟩) pn cg (by have := HA.out; omega) pl W2 A.out.fg H2.1 H2.2.1).mono ?_
        clear z0 z1 z2 H2
        obtain ⟨E, c, hEc⟩ : ∃ E c, ENC S I pn pl = (E, c) := ⟨_, _, rfl⟩
        rw [hEc]
        dsimp only
        rintro e w3 ⟨v, rfl, hrow, hb⟩
        have hrng := ENCB_range HA.out.1 HA.out.2.1 (by decide) A.out.fg.2.2 hEc
        have hlong := ENCB_long A.out.fg.1 hEc
        obtain ⟨a3, c3, rfl, hBy, hc3⟩ := own_sl hrow hrng
        have A3 : Aside (RND w w3 B (B + 1) g7 g8 S I pa pn pc F Z xa xn xc rg cg rx cx pl xl) := A.out.step hb
        obtain ⟨N, hN⟩ : ∃ N, c.length = N := ⟨_, rfl⟩
        rw [hN] at hBy hc3 hrow ⊢
        by_cases hE : E = 0
        · subst hE
          obtain ⟨hD, hD1⟩ := round_there HA.out.1 HA.out.2.1 A.out.fg.1 hEc
          obtain ⟨M, hM⟩ := ENC_some hEc
          have hless := round_less hrng hM hD
          have P : Aside (Bytes w3 a3 N c ∧ N ≤ c3 ∧ N ≤ 100000 ∧ N = M + 1 ∧ DEC c = (0, S, I, pn, pl) ∧ (DEC (c.take M)).1 ≠ 0 ∧ DEC (c ++ [0]) = DERR 13 ∧ (a3 = none → c3 = 0)) := ⟨hBy, hc3, by have := HA.out; omega, by omega, hD, hless, hD1 0, fun e => by
            subst e
            obtain ⟨_, _, e, _⟩ := hBy.2.1 (by omega)
            cases e⟩
          obtain ⟨b3, o3, ha3, -⟩ := hBy.2.1 (by omega)
          subst ha3
          clear hrow hb hrng hlong hBy hc3 hN hD hD1 hM hless hEc A
          go_wp2_with fail
          have H3 := HT.out w3 A3.out.bel
          have cD := decode_ok (some ⟨b3, o3, none⟩) N c3 (by have := P.out; omega) c w3 P.out.1 P.out.2.1 H3.1 H3.2.1
          rw [P.out.2.2.2.2.1] at cD
          refine cD.mono ?_
          clear cD H3
          rintro e w4 ⟨vq, rfl, hb4, hq⟩
          rcases hq with ⟨hq, -⟩ | ⟨-, q1, q2, q3, q4, gq, rfl, q5, q6⟩
          · exact absurd rfl hq
          dsimp only at q3 q4 q6 ⊢
          have hbx : Below w4.heap.size w4 (w4.alloc (.cells (PV S I (some ⟨gq, 0, none⟩) pn pn) 25)) := (Below.refl _ _).alloc (Nat.le_refl _) _
          have A4 : Aside (RND w (w4.alloc (.cells (PV S I (some ⟨gq, 0, none⟩) pn pn) 25)) B (B + 1) g7 g8 S I pa pn pc F Z xa xn xc rg cg rx cx pl xl) := (A3.out.step hb4).step hbx
          have P4 : Aside (Bytes (w4.alloc (.cells (PV S I (some ⟨gq, 0, none⟩) pn pn) 25)) (some ⟨b3, o3, none⟩) N c ∧ Flat (w4.alloc (.cells (PV S I (some ⟨gq, 0, none⟩) pn pn) 25)) (some ⟨gq, 0, none⟩) pn pl) := ⟨(P.out.1.below hb4).below hbx, (has_flat q6 q3 q4).below hbx⟩
          have y0 : (w4.alloc (.cells (PV S I (some ⟨gq, 0, none⟩) pn pn) 25)).cell? ⟨B, 0, none⟩ = some (.int .u64 (S : Int)) := A4.out.h3.cell 0
          have y1 : (w4.alloc (.cells (PV S I (some ⟨gq, 0, none⟩) pn pn) 25)).cell? ⟨B, 1, none⟩ = some (.int .u64 (I : Int)) := A4.out.h3.cell 1
          have y2 : (w4.alloc (.cells (PV S I (some ⟨gq, 0, none⟩) pn pn) 25)).cell? ⟨B, 2, none⟩ = some (.slice pa pn pc) := A4.out.h3.cell 2
          clear hb4 q1 q2 q3 q4 q5 q6 hbx A3
          go_wp2_with fail
          generalize w4.alloc (.cells (PV S I (some ⟨gq, 0, none⟩) pn pn) 25) = w5 at *
          have H5 := HT.out w5 A4.out.bel
          refine (sameproofs_ok S I pa (some ⟨gq, 0, none⟩) pn pn pc pn pl w5 H5.2.2.1 P4.out.2 (by have := HA.out; omega)).mono ?_
          clear y0 y1 y2 H5
          rintro e w6 ⟨rfl, hb6⟩
          have A6 : Aside (RND w w6 B (B + 1) g7 g8 S I pa pn pc F Z xa xn xc rg cg rx cx pl xl) := A4.out.step hb6
          have P6 : Aside (Bytes w6 (some ⟨b3, o3, none⟩) N c) := P4.out.1.below hb6
          clear hb6 A4 P4
          have m1 : wrap64 ((N : Int) - 1) = (M : Int) := by have := P.out; unfold wrap64; omega
          have m2 : (M : Int) ≤ (c3 : Int) := by have := P.out; omega
          have m3 : (0 : Int) ≤ (M : Int) := by omega
          go_wp2_with fail
          have H6 := HT.out w6 A6.out.bel
          have cD := decode_ok (some ⟨b3, o3, none⟩) M c3 (by have := P.out; omega) (c.take M) w6 (P6.out.take (by have := P.out; omega)) (by have := P.out; omega) H6.1 H6.2.1
          obtain ⟨D6, hD6⟩ : ∃ D6, DEC (c.take M) = D6 := ⟨_, rfl⟩
          rw [hD6] at cD
          have PD : Aside (D6.1 ≠ 0) := by rw [← hD6]; exact P.out.2.2.2.2.2.1
          refine cD.mono ?_
          clear cD H6 hD6 m1 m2 m3
          rintro e w7 ⟨vq, rfl, hb7, -⟩
          have A7 : Aside (RND w w7 B (B + 1) g7 g8 S I pa pn pc F Z xa xn xc rg cg rx cx pl xl) := A6.out.step hb7
          have P7 : Aside (Bytes w7 (some ⟨b3, o3, none⟩) N c) := P6.out.below hb7
          clear hb7 A6 P6
          obtain ⟨E6, hE6⟩ : ∃ E6, D6.1 = E6 := ⟨_, rfl⟩
          have hne : (E6 == 0) = false := by have := PD.out; rw [hE6] at this; simpa using this
          rw [hE6]
          clear PD hE6
          go_wp2_with fail
          refine (text_ok (some ⟨b3, o3, none⟩) N c3 (by have := P.out; omega) (fun e => by cases e) c w7 P7.out).mono ?_
          rintro e w8 ⟨g9, c9, rfl, hown, hcap, hmk, hg9, hb8⟩
          have P8 : Aside (w8.ownsRow w7.heap.size 5 1 (.slice (some ⟨g9, 0, none⟩) N c9) N (CELLS c) ∧ w7.heap.size ≤ w8.heap.size ∧ Below w7.heap.size w7 w8) := ⟨hown, hb8.size, hb8⟩
          clear hown hcap hmk hg9 hb8 P7 hne
          go_wp2_with (at_builtin; refine app_u8 _ rfl (.tmp 83) (.tmp 84) rfl w7.heap.size (.slice (some ⟨g9, 0, none⟩) N c9) N c rfl (P8.out.1.alloc _) w8.heap.size 0 1 1 [0] rfl (one_bytes w8 0 (by decide) (by decide)) (by decide) (by have := P.out; omega) (by have := P8.out.2.1; simp; omega) ?_; intro g10 c10 w10 hown hgrow hg10)
          have A10 : Aside (RND w w10 B (B + 1) g7 g8 S I pa pn pc F Z xa xn xc rg cg rx cx pl xl ∧ Bytes w10 (some ⟨g10, 0, none⟩) (N + 1) (c ++ [0]) ∧ N + 1 ≤ c10) := by
            have hr : ∀ x ∈ c ++ [0], 0 ≤ x ∧ x ≤ 255 := fun x hx => by
              rcases List.mem_append.1 hx with hx | hx
              · exact P.out.1.2.2 x hx
              · simp at hx
                omega
            have hby := own_bytes_any hown hr
            exact ⟨A7.out.step ((P8.out.2.2.alloc P8.out.2.1 _).grown hgrow (by have := P8.out.2.1; simp; omega) (fun k e => (P8.out.1.lt k e).1)), hby.1, hby.2⟩
          clear hown hgrow hg10 P8 A7
          have H10 := HT.out w10 A10.out.1.bel
          have cD := decode_ok (some ⟨g10, 0, none⟩) (N + 1) c10 (by have := P.out; omega) (c ++ [0]) w10 A10.out.2.1 A10.out.2.2 H10.1 H10.2.1
          rw [P.out.2.2.2.2.2.2.1] at cD
          refine cD.mono ?_
          clear cD H10
          rintro e w11 ⟨vq, rfl, hb11, -⟩
          have A11 : Aside (RND w w11 B (B + 1) g7 g8 S I pa pn pc F Z xa xn xc rg cg rx cx pl xl) := A10.out.1.step hb11
          clear A10 hb11 HT P
          dsimp only [DERR]
          go_wp2_with fail
          go_meet
          exact A11
        · have hE' : ((E : Int) == 0) = false := by simpa using hE
          clear hrow hb hrng hlong hBy hc3 hEc A hN hE HT
          go_wp2_with fail
          go_meet
          exact A3
      case rest =>
        clear A
        have A : Aside (RND w wc B (B + 1) g7 g8 S I pa pn pc F Z xa xn xc rg cg rx cx pl xl) := hcut
        clear hcut
        generalize wc = W3 at *
        go_step
        go_step
        go_cut [] from 9 to 161 (fun W => Aside (RND w W B (B + 1) g7 g8 S I pa pn pc F Z xa xn xc rg cg rx cx pl xl))
        case first =>
          have z0 : W3.cell? ⟨g8, 0, none⟩ = some (.int .u64 (F : Int)) := A.out.h8.cell 0
          have z1 : W3.cell? ⟨g8, 1, none⟩ = some (.int .u64 (Z : Int)) := A.out.h8.cell 1
          have z2 : W3.cell? ⟨g8, 2, none⟩ = some (.slice (some ⟨rx, 0, none⟩) xn cx) := A.out.h8.cell 2
          go_wp2_with fail
          have H2 := HT.out W3 A.out.bel
          refine (encodeprefix_ok F Z HA.out.2.2.1 HA.out.2.2.2.1 (some ⟨rx, 0, none⟩) xn cx (by have := HA.out; omega) xl W3 A.out.fx H2.1 H2.2.1).mono ?_
          clear z0 z1 z2 H2
          obtain ⟨E, c, hEc⟩ : ∃ E c, ENX F Z xn xl = (E, c) := ⟨_, _, rfl⟩
          rw [hEc]
          dsimp only
          rintro e w3 ⟨v, rfl, hrow, hb⟩
          have hrng := ENCB_range HA.out.2.2.1 HA.out.2.2.2.1 (by decide) A.out.fx.2.2 hEc
          have hlong := ENCB_long A.out.fx.1 hEc
          obtain ⟨a3, c3, rfl, hBy, hc3⟩ := own_sl hrow hrng
          have A3 : Aside (RND w w3 B (B + 1) g7 g8 S I pa pn pc F Z xa xn xc rg cg rx cx pl xl) := A.out.step hb
          obtain ⟨N, hN⟩ : ∃ N, c.length = N := ⟨_, rfl⟩
          rw [hN] at hBy hc3 hrow ⊢
          by_cases hE : E = 0
          · subst hE
            have hD := round_prefix HA.out.2.2.1 HA.out.2.2.2.1 A.out.fx.1 hEc
            have P : Aside (Bytes w3 a3 N c ∧ N ≤ c3 ∧ N ≤ 100000 ∧ DEX c = (0, F, Z, xn, xl)) := ⟨hBy, hc3, by have := HA.out; omega, hD⟩
            clear hrow hb hrng hlong hBy hc3 hN hD hEc A
            go_wp2_with fail
            have H3 := HT.out w3 A3.out.bel
            have cD := decodeprefix_ok a3 N c3 (by have := P.out; omega) c w3 P.out.1 P.out.2.1 H3.1 H3.2.1
            rw [P.out.2.2.2] at cD
            refine cD.mono ?_
            clear cD H3
            rintro e w4 ⟨vq, rfl, hb4, hq⟩
            rcases hq with ⟨hq, -⟩ | ⟨-, q1, q2, q3, q4, gq, rfl, q5, q6⟩
            · exact absurd rfl hq
            dsimp only at q3 q4 q6 ⊢
            have hbx : Below w4.heap.size w4 (w4.alloc (.cells (PV F Z (some ⟨gq, 0, none⟩) xn xn) 27)) := (Below.refl _ _).alloc (Nat.le_refl _) _
            have A4 : Aside (RND w (w4.alloc (.cells (PV F Z (some ⟨gq, 0, none⟩) xn xn) 27)) B (B + 1) g7 g8 S I pa pn pc F Z xa xn xc rg cg rx cx pl xl) := (A3.out.step hb4).step hbx
            have P4 : Aside (Flat (w4.alloc (.cells (PV F Z (some ⟨gq, 0, none⟩) xn xn) 27)) (some ⟨gq, 0, none⟩) xn xl) := (has_flat q6 q3 q4).below hbx
            have y0 : (w4.alloc (.cells (PV F Z (some ⟨gq, 0, none⟩) xn xn) 27)).cell? ⟨B + 1, 0, none⟩ = some (.int .u64 (F : Int)) := A4.out.h4.cell 0
            have y1 : (w4.alloc (.cells (PV F Z (some ⟨gq, 0, none⟩) xn xn) 27)).cell? ⟨B + 1, 1, none⟩ = some (.int .u64 (Z : Int)) := A4.out.h4.cell 1
            have y2 : (w4.alloc (.cells (PV F Z (some ⟨gq, 0, none⟩) xn xn) 27)).cell? ⟨B + 1, 2, none⟩ = some (.slice xa xn xc) := A4.out.h4.cell 2
            clear hb4 q1 q2 q3 q4 q5 q6 hbx A3 P
            go_wp2_with fail
            generalize w4.alloc (.cells (PV F Z (some ⟨gq, 0, none⟩) xn xn) 27) = w5 at *
            have H5 := HT.out w5 A4.out.bel
            refine (sameprefixes_ok F Z xa (some ⟨gq, 0, none⟩) xn xn xc xn xl w5 H5.2.2.2.1 P4.out (by have := HA.out; omega)).mono ?_
            clear y0 y1 y2 H5
            rintro e w6 ⟨rfl, hb6⟩
            have A6 : Aside (RND w w6 B (B + 1) g7 g8 S I pa pn pc F Z xa xn xc rg cg rx cx pl xl) := A4.out.step hb6
            clear hb6 A4 P4 HT
            go_wp2_with fail
            go_meet
            exact A6
          · have hE' : ((E : Int) == 0) = false := by simpa using hE
            clear hrow hb hrng hlong hBy hc3 hEc A hN hE HT
            go_wp2_with fail
            go_meet
            exact A3
        case rest =>
          clear A
          have A : Aside (Below w.heap.size w wc) := hcut.out.bel
          clear hcut
          generalize wc = W4 at *
          go_step
          go_step
          go_cut [] from 9 to 161 (fun W => Aside (Below w.heap.size w W))
          case first =>
            go_wp2_with fail
            refine (text_ok ba bn bc (by have := HA.out; omega) HA.out.2.2.2.2.2.2.1 bl W4 (HT.out W4 A.out).2.2.2.2).mono ?_
            rintro e w3 ⟨g9, c9, rfl, hown, hcap, hmk, hg9, hb3⟩
            have A3 : Aside (Below w.heap.size w w3) := A.out.trans (hb3.mono A.out.size)
            have hrng := (HT.out W4 A.out).2.2.2.2.2.2
            have P3 : Aside (Bytes w3 (some ⟨g9, 0, none⟩) bn bl ∧ bn ≤ c9 ∧ ∀ x ∈ bl, 0 ≤ x ∧ x ≤ 255) := ⟨own_bytes hown hg9 hrng, by omega, hrng⟩
            clear hown hcap hmk hg9 hb3 hrng A
            go_wp2_with fail
            have H3 := HT.out w3 A3.out
            have cD := decode_ok (some ⟨g9, 0, none⟩) bn c9 (by have := HA.out; omega) bl w3 P3.out.1 P3.out.2.1 H3.1 H3.2.1
            obtain ⟨E, Sq, Iq, Nq, lq, hD⟩ : ∃ E Sq Iq Nq lq, DEC bl = (E, Sq, Iq, Nq, lq) := ⟨_, _, _, _, _, rfl⟩
            rw [hD] at cD
            refine cD.mono ?_
            clear cD H3
            rintro e w4 ⟨vq, rfl, hb4, hq⟩
            dsimp only at hq ⊢
            by_cases hE : E = 0
            · subst hE
              obtain ⟨hback, hkind⟩ := round_back P3.out.2.2 hD
              rcases hq with ⟨hq, -⟩ | ⟨-, q1, q2, q3, q4, gq, rfl, q5, q6⟩
              · exact absurd rfl hq
              have hfew : Nq ≤ 1000 := by
                obtain ⟨_, _, _, _, h5, _⟩ := DC_back P3.out.2.2 hD
                have := PLA_few Iq Sq
                omega
              have hbx : Below w4.heap.size w4 (w4.alloc (.cells (PV Sq Iq (some ⟨gq, 0, none⟩) Nq Nq) 25)) := (Below.refl _ _).alloc (Nat.le_refl _) _
              have A4 : Aside (Below w.heap.size w (w4.alloc (.cells (PV Sq Iq (some ⟨gq, 0, none⟩) Nq Nq) 25))) := (A3.out.trans (hb4.mono A3.out.size)).trans (hbx.mono (A3.out.trans (hb4.mono A3.out.size)).size)
              have P4 : Aside (Flat (w4.alloc (.cells (PV Sq Iq (some ⟨gq, 0, none⟩) Nq Nq) 25)) (some ⟨gq, 0, none⟩) Nq lq ∧ Nq ≤ 1000 ∧ Sq < 2 ^ 64 ∧ Iq < 2 ^ 64 ∧ ENC Sq Iq Nq lq = (0, bl) ∧ DEX bl = DERR 14) := ⟨(has_flat q6 q3 q4).below hbx, hfew, q1, q2, hback, hkind⟩
              clear hb4 q1 q2 q3 q4 q5 q6 hbx A3 hD hback hkind hfew
              go_wp2_with fail
              generalize w4.alloc (.cells (PV Sq Iq (some ⟨gq, 0, none⟩) Nq Nq) 25) = w5 at *
              have H5 := HT.out w5 A4.out
              have cE := encode_ok Sq Iq P4.out.2.2.1 P4.out.2.2.2.1 (some ⟨gq, 0, none⟩) Nq Nq P4.out.2.1 lq w5 P4.out.1 H5.1 H5.2.1
              rw [P4.out.2.2.2.2.1] at cE
              refine cE.mono ?_
              clear cE H5
              rintro e w6 ⟨v, rfl, hrow, hb6⟩
              obtain ⟨a6, c6, rfl, hBy, -⟩ := own_sl hrow P3.out.2.2
              have A6 : Aside (Below w.heap.size w w6) := A4.out.trans (hb6.mono A4.out.size)
              have hlen : bl.length = bn := P3.out.1.1
              have P6 : Aside (Bytes w6 a6 bn bl) := by rw [← hlen]; exact hBy
              rw [hlen]
              clear hrow hb6 hBy hlen A4
              go_wp2_with fail
              refine (bytes_ok ba a6 bn bn bc c6 bl bl w6 (HT.out w6 A6.out).2.2.2.2 P6.out (by have := HA.out; omega)).mono ?_
              rintro e w7 ⟨rfl, hb7⟩
              have hdt : decide (bl = bl) = true := by simp
              rw [hdt]
              have A7 : Aside (Below w.heap.size w w7) := A6.out.trans (hb7.mono A6.out.size)
              clear hb7 hdt A6 P6
              go_wp2_with fail
              refine (text_ok ba bn bc (by have := HA.out; omega) HA.out.2.2.2.2.2.2.1 bl w7 (HT.out w7 A7.out).2.2.2.2).mono ?_
              rintro e w8 ⟨g10, c10, rfl, hown, hcap, hmk, hg9, hb8⟩
              have A8 : Aside (Below w.heap.size w w8) := A7.out.trans (hb8.mono A7.out.size)
              have P8 : Aside (Bytes w8 (some ⟨g10, 0, none⟩) bn bl ∧ bn ≤ c10) := ⟨own_bytes hown hg9 P3.out.2.2, by omega⟩
              clear hown hcap hmk hg9 hb8 A7
              go_wp2_with fail
              have H8 := HT.out w8 A8.out
              have cD := decodeprefix_ok (some ⟨g10, 0, none⟩) bn c10 (by have := HA.out; omega) bl w8 P8.out.1 P8.out.2 H8.1 H8.2.1
              rw [P4.out.2.2.2.2.2] at cD
              refine cD.mono ?_
              clear cD H8
              rintro e w9 ⟨vq, rfl, hb9, -⟩
              have A9 : Aside (Below w.heap.size w w9) := A8.out.trans (hb9.mono A8.out.size)
              clear hb9 A8 P8 P4 P3 HT
              dsimp only [DERR]
              go_wp2_with fail
              go_meet
              exact A9
            · have hE' : ((E : Int) == 0) = false := by simpa using hE
              rcases hq with ⟨-, rfl⟩ | ⟨hq, -⟩
              · have A4 : Aside (Below w.heap.size w (w4.alloc (.cells (PV 0 0 none 0 0) 25))) := (A3.out.trans (hb4.mono A3.out.size)).alloc (A3.out.trans (hb4.mono A3.out.size)).size _
                clear hb4 A3 P3 HT hE hD
                go_wp2_with fail
                go_meet
                exact A4
              · exact absurd hq hE
          case rest =>
            clear A
            have A : Aside (Below w.heap.size w wc) := hcut
            clear hcut
            generalize wc = W5 at *
            go_step
            go_step
            go_cut [] from 9 to 161 (fun W => Aside (Below w.heap.size w W))
            case first =>
              go_wp2_with fail
              refine (text_ok ba bn bc (by have := HA.out; omega) HA.out.2.2.2.2.2.2.1 bl W5 (HT.out W5 A.out).2.2.2.2).mono ?_
              rintro e w3 ⟨g9, c9, rfl, hown, hcap, hmk, hg9, hb3⟩
              have A3 : Aside (Below w.heap.size w w3) := A.out.trans (hb3.mono A.out.size)
              have hrng := (HT.out W5 A.out).2.2.2.2.2.2
              have P3 : Aside (Bytes w3 (some ⟨g9, 0, none⟩) bn bl ∧ bn ≤ c9 ∧ ∀ x ∈ bl, 0 ≤ x ∧ x ≤ 255) := ⟨own_bytes hown hg9 hrng, by omega, hrng⟩
              clear hown hcap hmk hg9 hb3 hrng A
              go_wp2_with fail
              have H3 := HT.out w3 A3.out
              have cD := decodeprefix_ok (some ⟨g9, 0, none⟩) bn c9 (by have := HA.out; omega) bl w3 P3.out.1 P3.out.2.1 H3.1 H3.2.1
              obtain ⟨E, Sq, Iq, Nq, lq, hD⟩ : ∃ E Sq Iq Nq lq, DEX bl = (E, Sq, Iq, Nq, lq) := ⟨_, _, _, _, _, rfl⟩
              rw [hD] at cD
              refine cD.mono ?_
              clear cD H3
              rintro e w4 ⟨vq, rfl, hb4, hq⟩
              dsimp only at hq ⊢
              by_cases hE : E = 0
              · subst hE
                have hback := round_back_prefix P3.out.2.2 hD
                rcases hq with ⟨hq, -⟩ | ⟨-, q1, q2, q3, q4, gq, rfl, q5, q6⟩
                · exact absurd rfl hq
                have hfew : Nq ≤ 1000 := by
                  obtain ⟨_, _, _, _, h5, _⟩ := DC_back P3.out.2.2 hD
                  have := PPA_few Sq Iq
                  omega
                have hbx : Below w4.heap.size w4 (w4.alloc (.cells (PV Sq Iq (some ⟨gq, 0, none⟩) Nq Nq) 27)) := (Below.refl _ _).alloc (Nat.le_refl _) _
                have A4 : Aside (Below w.heap.size w (w4.alloc (.cells (PV Sq Iq (some ⟨gq, 0, none⟩) Nq Nq) 27))) := (A3.out.trans (hb4.mono A3.out.size)).trans (hbx.mono (A3.out.trans (hb4.mono A3.out.size)).size)
                have P4 : Aside (Flat (w4.alloc (.cells (PV Sq Iq (some ⟨gq, 0, none⟩) Nq Nq) 27)) (some ⟨gq, 0, none⟩) Nq lq ∧ Nq ≤ 1000 ∧ Sq < 2 ^ 64 ∧ Iq < 2 ^ 64 ∧ ENX Sq Iq Nq lq = (0, bl)) := ⟨(has_flat q6 q3 q4).below hbx, hfew, q1, q2, hback⟩
                clear hb4 q1 q2 q3 q4 q5 q6 hbx A3 hD hback hfew
                go_wp2_with fail
                generalize w4.alloc (.cells (PV Sq Iq (some ⟨gq, 0, none⟩) Nq Nq) 27) = w5 at *
                have H5 := HT.out w5 A4.out
                have cE := encodeprefix_ok Sq Iq P4.out.2.2.1 P4.out.2.2.2.1 (some ⟨gq, 0, none⟩) Nq Nq P4.out.2.1 lq w5 P4.out.1 H5.1 H5.2.1
                rw [P4.out.2.2.2.2] at cE
                refine cE.mono ?_
                clear cE H5
                rintro e w6 ⟨v, rfl, hrow, hb6⟩
                obtain ⟨a6, c6, rfl, hBy, -⟩ := own_sl hrow P3.out.2.2
                have A6 : Aside (Below w.heap.size w w6) := A4.out.trans (hb6.mono A4.out.size)
                have hlen : bl.length = bn := P3.out.1.1
                have P6 : Aside (Bytes w6 a6 bn bl) := by rw [← hlen]; exact hBy
                rw [hlen]
                clear hrow hb6 hBy hlen A4
                go_wp2_with fail
                refine (bytes_ok ba a6 bn bn bc c6 bl bl w6 (HT.out w6 A6.out).2.2.2.2 P6.out (by have := HA.out; omega)).mono ?_
                rintro e w7 ⟨rfl, hb7⟩
                have hdt : decide (bl = bl) = true := by simp
                rw [hdt]
                have A7 : Aside (Below w.heap.size w w7) := A6.out.trans (hb7.mono A6.out.size)
                clear hb7 hdt A6 P6 P4 P3 HT
                go_wp2_with fail
                go_meet
                exact A7
              · have hE' : ((E : Int) == 0) = false := by simpa using hE
                rcases hq with ⟨-, rfl⟩ | ⟨hq, -⟩
                · have A4 : Aside (Below w.heap.size w (w4.alloc (.cells (PV 0 0 none 0 0) 27))) := (A3.out.trans (hb4.mono A3.out.size)).alloc (A3.out.trans (hb4.mono A3.out.size)).size _
                  clear hb4 A3 P3 HT hE hD
                  go_wp2_with fail
                  go_meet
                  exact A4
                · exact absurd hq hE
            case rest =>
              clear A
              have A : Aside (Below w.heap.size w wc) := hcut
              clear hcut
              generalize wc = W6 at *
              go_wp2_with fail
              have H := HT.out W6 A.out
              refine (proofawake_ok W6 H.1 H.2.1).mono ?_
              rintro e w7 ⟨rfl, hb7⟩
              have A7 : Aside (Below w.heap.size w w7) := A.out.trans (hb7.mono A.out.size)
              clear hb7 H A HT
              go_wp2
              go_ret
              exact ⟨rfl, A7.out⟩
theorem proofRound_long (S I : Nat) (pa : Option Addr) (pn pc F Z : Nat) (xa : Option Addr) (xn xc : Nat) (ba : Option Addr) (bn bc : Nat) (w : World) (h : 300 < pn ∨ 300 < xn ∨ 9600 < bn) :
    Calls Tryd.prog 3 #[.agg (PV S I pa pn pc), .agg (PV F Z xa xn xc), .slice ba bn bc] w fun e w' => e = .returned (.bool true) ∧ Below w.heap.size w w' := by
  have HB : Aside (Below w.heap.size w ((w.alloc (.cells (PV S I pa pn pc) 25)).alloc (.cells (PV F Z xa xn xc) 27))) := ((Below.refl _ _).alloc (Nat.le_refl _) _).alloc (by simp) _
  by_cases h1 : 300 < pn
  · have k1 : (300 : Int) < (pn : Int) := by omega
    clear h h1
    go_enter Tryd.func3, Tryd.ntmps3
    go_wp2_with fail
    go_ret
    exact ⟨rfl, HB.out⟩
  · have k1 : ¬ (300 : Int) < (pn : Int) := by omega
    by_cases h2 : 300 < xn
    · have k2 : (300 : Int) < (xn : Int) := by omega
      clear h h1 h2
      go_enter Tryd.func3, Tryd.ntmps3
      go_wp2_with fail
      go_ret
      exact ⟨rfl, HB.out⟩
    · have k2 : ¬ (300 : Int) < (xn : Int) := by omega
      have k3 : (9600 : Int) < (bn : Int) := by omega
      clear h h1 h2
      go_enter Tryd.func3, Tryd.ntmps3
      go_wp2_with fail
      go_ret
      exact ⟨rfl, HB.out⟩
theorem proofRound_walk (S I : Nat) (pa : Option Addr) (pn pc : Nat) (pl : List Int) (F Z : Nat) (xa : Option Addr) (xn xc : Nat) (xl : List Int) (ba : Option Addr) (bn bc : Nat) (bl : List Int)
    (hS : S < 2 ^ 64) (hI : I < 2 ^ 64) (w : World) (hP : Flat w pa pn pl) (hpc : pa = none → pc = 0) (_ : pn ≤ pc) (hF : F < 2 ^ 64) (hZ : Z < 2 ^ 64) (hX : Flat w xa xn xl) (hxc : xa = none → xc = 0) (_ : xn ≤ xc) (hB : Bytes w ba bn bl) (hbc : ba = none → bc = 0) (hbn : bn ≤ bc) (hT : Tabled w) (h0 : 0 < w.heap.size) :
    Calls Tryd.prog 3 #[.agg (PV S I pa pn pc), .agg (PV F Z xa xn xc), .slice ba bn bc] w fun e w' => e = .returned (.bool true) ∧ Below w.heap.size w w' := by
  by_cases h : 300 < pn ∨ 300 < xn ∨ 9600 < bn
  · exact proofRound_long S I pa pn pc F Z xa xn xc ba bn bc w h
  · exact proofRound_core S I hS hI pa pn pc hpc pl F Z hF hZ xa xn xc hxc xl ba bn bc hbc hbn bl w hP hX hB hT h0 (by omega) (by omega) (by omega)
end Go.Proofs.YtfjmbfppilfepaaDoor
