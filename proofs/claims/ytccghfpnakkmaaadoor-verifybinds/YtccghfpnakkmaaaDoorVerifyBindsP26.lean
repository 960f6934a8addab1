/- Texts of VerifyBinds, one behind the other: ProofDecode, ProofRoundPlain, ProofOwned. -/
import Derived.Test.YtccghfpnakkmaaaDoorVerifyBindsP20
import Derived.Test.YtccghfpnakkmaaaDoorVerifyBindsP24
import Derived.Test.YtccghfpnakkmaaaDoorVerifyBindsP25
/- What Decode and DecodePrefix of package proof answer, of any bytes. -/
namespace Go.Proofs.YtccghfpnakkmaaaDoor
open Go.RowKit
set_option maxRecDepth 100000

/-- a proof is answered, its nodes in a block of their own; or an error, and all is zero. -/
def DECD (w : World) (D : DANS) (e : Ending) (w' : World) : Prop :=
  ∃ v, e = .returned (.tuple #[v, .int .i64 D.1]) ∧ Below w.heap.size w w' ∧ ((D.1 ≠ 0 ∧ v = .agg #[.int .u64 0, .int .u64 0, .slice none 0 0]) ∨ (D.1 = 0 ∧ D.2.1 < 2 ^ 64 ∧ D.2.2.1 < 2 ^ 64 ∧ D.2.2.2.2.length = 32 * D.2.2.2.1 ∧ (∀ x ∈ D.2.2.2.2, 0 ≤ x ∧ x ≤ 255) ∧ ∃ g, v = .agg #[.int .u64 (D.2.1 : Int), .int .u64 (D.2.2.1 : Int), .slice (some ⟨g, 0, none⟩) D.2.2.2.1 D.2.2.2.1] ∧ w.heap.size ≤ g ∧ Has w' g (CELLS D.2.2.2.2).toArray 24))
set_option maxHeartbeats 2000000 in
theorem decode_ok (a : Option Addr) (n c : Nat) (hn : n ≤ 1000000) (l : List Int) (w : World) (hB : Bytes w a n l) (hc : n ≤ c) (hT : Tabled w) (h0 : 0 < w.heap.size) :
    Calls Tryd.prog 22 #[.slice a n c] w (DECD w (DEC l)) := by
  have hln : l.length = n := hB.1
  obtain ⟨D, hD⟩ : ∃ D, DEC l = D := ⟨_, rfl⟩
  rw [hD]
  have hDD : D = DC0 77 TOOBIG (fun S I => PLA I S) l := hD.symm
  have HA : Aside (Bytes w a n l ∧ l.length = n ∧ n ≤ c ∧ n ≤ 1000000 ∧ D = DC0 77 TOOBIG (fun S I => PLA I S) l ∧ Tabled w ∧ 0 < w.heap.size) := ⟨hB, hln, hc, hn, hDD, hT, h0⟩
  clear hB hc hn hD hT h0 hln hDD
  go_enter Tryd.func22, Tryd.ntmps22
  go_wp2_with fail
  have hR := Has.new w #[.int .u64 0, .int .u64 0, .slice none 0 0] 53
  have hb0 : Below w.heap.size w (w.alloc (.cells #[.int .u64 0, .int .u64 0, .slice none 0 0] 53)) := (Below.refl _ _).alloc (Nat.le_refl _) _
  have hs0 : (w.alloc (.cells #[.int .u64 0, .int .u64 0, .slice none 0 0] 53)).heap.size = w.heap.size + 1 := by simp
  generalize w.alloc (.cells #[.int .u64 0, .int .u64 0, .slice none 0 0] 53) = w0 at *
  rw [← hs0]
  obtain ⟨b1, b2, b3, b4, b5, b6, b7⟩ := HA.out
  have hP0 : RPP w0 w0.heap.size (w0.heap.size + 1) 97 #[.func (.func 51) #[.pointer (some ⟨w0.heap.size, 0, none⟩)] #[], .func (.func 52) #[.pointer (some ⟨w0.heap.size, 0, none⟩)] #[], .func (.func 53) #[.pointer (some ⟨w0.heap.size, 0, none⟩)] #[], .func (.func 54) #[.pointer (some ⟨w0.heap.size, 0, none⟩)] #[]] 99 77 TOOBIG (fun S I => PLA I S) D 0
      ((w0.alloc (.cells #[.slice a n c, .int .u64 0, .int .u64 0, .slice none 0 0] 97)).alloc (.cells #[.func (.func 51) #[.pointer (some ⟨w0.heap.size, 0, none⟩)] #[], .func (.func 52) #[.pointer (some ⟨w0.heap.size, 0, none⟩)] #[], .func (.func 53) #[.pointer (some ⟨w0.heap.size, 0, none⟩)] #[], .func (.func 54) #[.pointer (some ⟨w0.heap.size, 0, none⟩)] #[]] 99)) := by
    refine ⟨a, c, l, ⟨((Below.refl _ _).alloc (Nat.le_refl _) _).alloc (by simp) _, ?_, ?_, by omega, Nat.le_refl _, by omega⟩, ⟨?_, by omega, by omega⟩, b5⟩
    · rw [b2]
      exact (Has.new w0 _ _).alloc _
    · exact Has.at _ _ _ (by simp)
    · rw [b2]
      exact b1.below hb0
  obtain ⟨hT0, h00⟩ := pla_tab b6 b7 hb0
  have key := memberinturn_ok w0.heap.size (w0.heap.size + 1) _ (RFIN w0 D)
    (fun W h => by obtain ⟨_, _, _, F, _⟩ := h; exact F.fl.cell 0) (fun W h => by obtain ⟨_, _, _, F, _⟩ := h; exact F.fl.cell 1) (fun W h => by obtain ⟨_, _, _, _, F, _⟩ := h; exact F.fl.cell 2) (fun W h => by obtain ⟨_, _, _, _, _, F, _⟩ := h; exact F.fl.cell 3)
    (fun W h => mstep0 W h) (fun W h => mstep1 W h) (fun W h => mstep2 W h) (fun W h => mstep3 hT0 h00 W h) _ hP0
  have R0 : Aside (Below w.heap.size w w0 ∧ Has w0 w.heap.size #[.int .u64 0, .int .u64 0, .slice none 0 0] 53 ∧ w0.heap.size = w.heap.size + 1) := ⟨hb0, hR, hs0⟩
  clear hP0 hT0 h00 b1 b2 b3 b4 b5 b6 b7 HA hR hb0 hs0
  refine key.mono ?_
  rintro e w1 ⟨E, rfl, h1, h2⟩
  clear key
  by_cases hE : E = 0
  · subst hE
    obtain ⟨a', c', l', X, Y, N, g, F, S, hX, hY, hD, hl, hg, hg1, hg2, hg3⟩ := h1 rfl
    obtain ⟨r1, r2, r3⟩ := R0.out
    have hH := r2.below F.bel (by omega)
    have x0 : w1.cell? ⟨w.heap.size, 0, none⟩ = some (.int .u64 0) := hH.cell 0
    have x1 : w1.cell? ⟨w.heap.size, 1, none⟩ = some (.int .u64 0) := hH.cell 1
    have x2 : w1.cell? ⟨w.heap.size, 2, none⟩ = some (.slice none 0 0) := hH.cell 2
    have f0 := hH.frozen 0
    have f1 := hH.frozen 1
    have f2 := hH.frozen 2
    have y1 : w1.cell? ⟨w0.heap.size, 1, none⟩ = some (.int .u64 (X : Int)) := F.rd.cell 1
    have y2 : w1.cell? ⟨w0.heap.size, 2, none⟩ = some (.int .u64 (Y : Int)) := F.rd.cell 2
    have y3 : w1.cell? ⟨w0.heap.size, 3, none⟩ = some (.slice (some ⟨g, 0, none⟩) N N) := F.rd.cell 3
    have R : Aside (Below w.heap.size w w1 ∧ X < 2 ^ 64 ∧ Y < 2 ^ 64 ∧ D = (0, X, Y, N, l') ∧ l'.length = 32 * N ∧ (∀ x ∈ l', 0 ≤ x ∧ x ≤ 255) ∧ Has w1 g (CELLS l').toArray 24 ∧ w0.heap.size ≤ g ∧ w0.heap.size = w.heap.size + 1 ∧ Has w1 w.heap.size #[.int .u64 0, .int .u64 0, .slice none 0 0] 53) := ⟨r1.trans (F.bel.mono r1.size), hX, hY, hD, hl, S.1.2.2, hg, hg1, r3, hH⟩
    clear h1 h2 F S hX hY hD hl hg hg1 hg2 hg3 r1 r2 r3 hH R0
    go_wp2
    obtain ⟨r1, r2, r3, r4, r5, r6, r7, r8, r9, r10⟩ := R.out
    have hH := ((r10.set 0 (.int .u64 (X : Int))).set 1 (.int .u64 (Y : Int))).set 2 (.slice (some ⟨g, 0, none⟩) N N)
    have hg := ((r7.other (a := ⟨w.heap.size, 0, none⟩) (by show g ≠ w.heap.size; omega) (.int .u64 (X : Int))).other (a := ⟨w.heap.size, 1, none⟩) (by show g ≠ w.heap.size; omega) (.int .u64 (Y : Int))).other (a := ⟨w.heap.size, 2, none⟩) (by show g ≠ w.heap.size; omega) (.slice (some ⟨g, 0, none⟩) N N)
    have hb := ((r1.setCell (p := ⟨w.heap.size, 0, none⟩) (Nat.le_refl _) (.int .u64 (X : Int))).setCell (p := ⟨w.heap.size, 1, none⟩) (Nat.le_refl _) (.int .u64 (Y : Int))).setCell (p := ⟨w.heap.size, 2, none⟩) (Nat.le_refl _) (.slice (some ⟨g, 0, none⟩) N N)
    clear x0 x1 x2 f0 f1 f2 y1 y2 y3 R r1 r10 r7
    generalize ((w1.setCell ⟨w.heap.size, 0, none⟩ (.int .u64 (X : Int))).setCell ⟨w.heap.size, 1, none⟩ (.int .u64 (Y : Int))).setCell ⟨w.heap.size, 2, none⟩ (.slice (some ⟨g, 0, none⟩) N N) = wf at *
    have z0 : wf.cell? ⟨w.heap.size, 0, none⟩ = some (.int .u64 (X : Int)) := hH.cell 0
    have z1 : wf.cell? ⟨w.heap.size, 1, none⟩ = some (.int .u64 (Y : Int)) := hH.cell 1
    have z2 : wf.cell? ⟨w.heap.size, 2, none⟩ = some (.slice (some ⟨g, 0, none⟩) N N) := hH.cell 2
    rw [r4]
    refine bodyPost_ret (v := .tuple #[.agg #[.int .u64 (X : Int), .int .u64 (Y : Int), .slice (some ⟨g, 0, none⟩) N N], .int .i64 0]) ?_ rfl ⟨_, rfl, hb, .inr ⟨rfl, r2, r3, r5, r6, g, rfl, by omega, hg⟩⟩
    simp [results, Tryd.f22, go_sem, z0, z1, z2]
  · have hE' : (E != 0) = true := by simp [hE]
    obtain ⟨hD, hbw⟩ := h2 hE
    obtain ⟨r1, r2, r3⟩ := R0.out
    have hH := r2.below hbw (by omega)
    have x0 : w1.cell? ⟨w.heap.size, 0, none⟩ = some (.int .u64 0) := hH.cell 0
    have x1 : w1.cell? ⟨w.heap.size, 1, none⟩ = some (.int .u64 0) := hH.cell 1
    have x2 : w1.cell? ⟨w.heap.size, 2, none⟩ = some (.slice none 0 0) := hH.cell 2
    have f0 := hH.frozen 0
    have f1 := hH.frozen 1
    have f2 := hH.frozen 2
    have R : Aside (Below w.heap.size w w1 ∧ D = DERR E ∧ ¬ E = 0 ∧ Has w1 w.heap.size #[.int .u64 0, .int .u64 0, .slice none 0 0] 53) := ⟨r1.trans (hbw.mono r1.size), hD, hE, hH⟩
    clear h1 h2 hD hbw r1 r2 r3 hH R0 hE
    go_wp2
    obtain ⟨r1, r4, r2, r10⟩ := R.out
    have hH := ((r10.set 0 (.int .u64 0)).set 1 (.int .u64 0)).set 2 (.slice none 0 0)
    have hb := ((r1.setCell (p := ⟨w.heap.size, 0, none⟩) (Nat.le_refl _) (.int .u64 0)).setCell (p := ⟨w.heap.size, 1, none⟩) (Nat.le_refl _) (.int .u64 0)).setCell (p := ⟨w.heap.size, 2, none⟩) (Nat.le_refl _) (.slice none 0 0)
    clear x0 x1 x2 f0 f1 f2 R r1 r10
    generalize ((w1.setCell ⟨w.heap.size, 0, none⟩ (.int .u64 0)).setCell ⟨w.heap.size, 1, none⟩ (.int .u64 0)).setCell ⟨w.heap.size, 2, none⟩ (.slice none 0 0) = wf at *
    have z0 : wf.cell? ⟨w.heap.size, 0, none⟩ = some (.int .u64 0) := hH.cell 0
    have z1 : wf.cell? ⟨w.heap.size, 1, none⟩ = some (.int .u64 0) := hH.cell 1
    have z2 : wf.cell? ⟨w.heap.size, 2, none⟩ = some (.slice none 0 0) := hH.cell 2
    rw [r4]
    refine bodyPost_ret (v := .tuple #[.agg #[.int .u64 0, .int .u64 0, .slice none 0 0], .int .i64 E]) ?_ rfl ⟨_, rfl, hb, .inl ⟨r2, rfl⟩⟩
    simp [results, Tryd.f22, go_sem, z0, z1, z2]
set_option maxHeartbeats 2000000 in
theorem decodeprefix_ok (a : Option Addr) (n c : Nat) (hn : n ≤ 1000000) (l : List Int) (w : World) (hB : Bytes w a n l) (hc : n ≤ c) (hT : Tabled w) (h0 : 0 < w.heap.size) :
    Calls Tryd.prog 25 #[.slice a n c] w (DECD w (DEX l)) := by
  have hln : l.length = n := hB.1
  obtain ⟨D, hD⟩ : ∃ D, DEX l = D := ⟨_, rfl⟩
  rw [hD]
  have hDD : D = DC0 80 (fun _ => false) PPA l := hD.symm
  have HA : Aside (Bytes w a n l ∧ l.length = n ∧ n ≤ c ∧ n ≤ 1000000 ∧ D = DC0 80 (fun _ => false) PPA l ∧ Tabled w ∧ 0 < w.heap.size) := ⟨hB, hln, hc, hn, hDD, hT, h0⟩
  clear hB hc hn hD hT h0 hln hDD
  go_enter Tryd.func25, Tryd.ntmps25
  go_wp2_with fail
  have hR := Has.new w #[.int .u64 0, .int .u64 0, .slice none 0 0] 60
  have hb0 : Below w.heap.size w (w.alloc (.cells #[.int .u64 0, .int .u64 0, .slice none 0 0] 60)) := (Below.refl _ _).alloc (Nat.le_refl _) _
  have hs0 : (w.alloc (.cells #[.int .u64 0, .int .u64 0, .slice none 0 0] 60)).heap.size = w.heap.size + 1 := by simp
  generalize w.alloc (.cells #[.int .u64 0, .int .u64 0, .slice none 0 0] 60) = w0 at *
  rw [← hs0]
  obtain ⟨b1, b2, b3, b4, b5, b6, b7⟩ := HA.out
  have hP0 : RPP w0 w0.heap.size (w0.heap.size + 1) 114 #[.func (.func 60) #[.pointer (some ⟨w0.heap.size, 0, none⟩)] #[], .func (.func 61) #[.pointer (some ⟨w0.heap.size, 0, none⟩)] #[], .func (.func 62) #[.pointer (some ⟨w0.heap.size, 0, none⟩)] #[], .func (.func 63) #[.pointer (some ⟨w0.heap.size, 0, none⟩)] #[]] 99 80 (fun _ => false) PPA D 0
      ((w0.alloc (.cells #[.slice a n c, .int .u64 0, .int .u64 0, .slice none 0 0] 114)).alloc (.cells #[.func (.func 60) #[.pointer (some ⟨w0.heap.size, 0, none⟩)] #[], .func (.func 61) #[.pointer (some ⟨w0.heap.size, 0, none⟩)] #[], .func (.func 62) #[.pointer (some ⟨w0.heap.size, 0, none⟩)] #[], .func (.func 63) #[.pointer (some ⟨w0.heap.size, 0, none⟩)] #[]] 99)) := by
    refine ⟨a, c, l, ⟨((Below.refl _ _).alloc (Nat.le_refl _) _).alloc (by simp) _, ?_, ?_, by omega, Nat.le_refl _, by omega⟩, ⟨?_, by omega, by omega⟩, b5⟩
    · rw [b2]
      exact (Has.new w0 _ _).alloc _
    · exact Has.at _ _ _ (by simp)
    · rw [b2]
      exact b1.below hb0
  obtain ⟨hT0, h00⟩ := pla_tab b6 b7 hb0
  have key := prefixinturn_ok w0.heap.size (w0.heap.size + 1) _ (RFIN w0 D)
    (fun W h => by obtain ⟨_, _, _, F, _⟩ := h; exact F.fl.cell 0) (fun W h => by obtain ⟨_, _, _, F, _⟩ := h; exact F.fl.cell 1) (fun W h => by obtain ⟨_, _, _, _, F, _⟩ := h; exact F.fl.cell 2) (fun W h => by obtain ⟨_, _, _, _, _, F, _⟩ := h; exact F.fl.cell 3)
    (fun W h => pstep0 W h) (fun W h => pstep1 W h) (fun W h => pstep2 W h) (fun W h => pstep3 hT0 h00 W h) _ hP0
  have R0 : Aside (Below w.heap.size w w0 ∧ Has w0 w.heap.size #[.int .u64 0, .int .u64 0, .slice none 0 0] 60 ∧ w0.heap.size = w.heap.size + 1) := ⟨hb0, hR, hs0⟩
  clear hP0 hT0 h00 b1 b2 b3 b4 b5 b6 b7 HA hR hb0 hs0
  refine key.mono ?_
  rintro e w1 ⟨E, rfl, h1, h2⟩
  clear key
  by_cases hE : E = 0
  · subst hE
    obtain ⟨a', c', l', X, Y, N, g, F, S, hX, hY, hD, hl, hg, hg1, hg2, hg3⟩ := h1 rfl
    obtain ⟨r1, r2, r3⟩ := R0.out
    have hH := r2.below F.bel (by omega)
    have x0 : w1.cell? ⟨w.heap.size, 0, none⟩ = some (.int .u64 0) := hH.cell 0
    have x1 : w1.cell? ⟨w.heap.size, 1, none⟩ = some (.int .u64 0) := hH.cell 1
    have x2 : w1.cell? ⟨w.heap.size, 2, none⟩ = some (.slice none 0 0) := hH.cell 2
    have f0 := hH.frozen 0
    have f1 := hH.frozen 1
    have f2 := hH.frozen 2
    have y1 : w1.cell? ⟨w0.heap.size, 1, none⟩ = some (.int .u64 (X : Int)) := F.rd.cell 1
    have y2 : w1.cell? ⟨w0.heap.size, 2, none⟩ = some (.int .u64 (Y : Int)) := F.rd.cell 2
    have y3 : w1.cell? ⟨w0.heap.size, 3, none⟩ = some (.slice (some ⟨g, 0, none⟩) N N) := F.rd.cell 3
    have R : Aside (Below w.heap.size w w1 ∧ X < 2 ^ 64 ∧ Y < 2 ^ 64 ∧ D = (0, X, Y, N, l') ∧ l'.length = 32 * N ∧ (∀ x ∈ l', 0 ≤ x ∧ x ≤ 255) ∧ Has w1 g (CELLS l').toArray 24 ∧ w0.heap.size ≤ g ∧ w0.heap.size = w.heap.size + 1 ∧ Has w1 w.heap.size #[.int .u64 0, .int .u64 0, .slice none 0 0] 60) := ⟨r1.trans (F.bel.mono r1.size), hX, hY, hD, hl, S.1.2.2, hg, hg1, r3, hH⟩
    clear h1 h2 F S hX hY hD hl hg hg1 hg2 hg3 r1 r2 r3 hH R0
    go_wp2
    obtain ⟨r1, r2, r3, r4, r5, r6, r7, r8, r9, r10⟩ := R.out
    have hH := ((r10.set 0 (.int .u64 (X : Int))).set 1 (.int .u64 (Y : Int))).set 2 (.slice (some ⟨g, 0, none⟩) N N)
    have hg := ((r7.other (a := ⟨w.heap.size, 0, none⟩) (by show g ≠ w.heap.size; omega) (.int .u64 (X : Int))).other (a := ⟨w.heap.size, 1, none⟩) (by show g ≠ w.heap.size; omega) (.int .u64 (Y : Int))).other (a := ⟨w.heap.size, 2, none⟩) (by show g ≠ w.heap.size; omega) (.slice (some ⟨g, 0, none⟩) N N)
    have hb := ((r1.setCell (p := ⟨w.heap.size, 0, none⟩) (Nat.le_refl _) (.int .u64 (X : Int))).setCell (p := ⟨w.heap.size, 1, none⟩) (Nat.le_refl _) (.int .u64 (Y : Int))).setCell (p := ⟨w.heap.size, 2, none⟩) (Nat.le_refl _) (.slice (some ⟨g, 0, none⟩) N N)
    clear x0 x1 x2 f0 f1 f2 y1 y2 y3 R r1 r10 r7
    generalize ((w1.setCell ⟨w.heap.size, 0, none⟩ (.int .u64 (X : Int))).setCell ⟨w.heap.size, 1, none⟩ (.int .u64 (Y : Int))).setCell ⟨w.heap.size, 2, none⟩ (.slice (some ⟨g, 0, none⟩) N N) = wf at *
    have z0 : wf.cell? ⟨w.heap.size, 0, none⟩ = some (.int .u64 (X : Int)) := hH.cell 0
    have z1 : wf.cell? ⟨w.heap.size, 1, none⟩ = some (.int .u64 (Y : Int)) := hH.cell 1
    have z2 : wf.cell? ⟨w.heap.size, 2, none⟩ = some (.slice (some ⟨g, 0, none⟩) N N) := hH.cell 2
    rw [r4]
    refine bodyPost_ret (v := .tuple #[.agg #[.int .u64 (X : Int), .int .u64 (Y : Int), .slice (some ⟨g, 0, none⟩) N N], .int .i64 0]) ?_ rfl ⟨_, rfl, hb, .inr ⟨rfl, r2, r3, r5, r6, g, rfl, by omega, hg⟩⟩
    simp [results, Tryd.f25, go_sem, z0, z1, z2]
  · have hE' : (E != 0) = true := by simp [hE]
    obtain ⟨hD, hbw⟩ := h2 hE
    obtain ⟨r1, r2, r3⟩ := R0.out
    have hH := r2.below hbw (by omega)
    have x0 : w1.cell? ⟨w.heap.size, 0, none⟩ = some (.int .u64 0) := hH.cell 0
    have x1 : w1.cell? ⟨w.heap.size, 1, none⟩ = some (.int .u64 0) := hH.cell 1
    have x2 : w1.cell? ⟨w.heap.size, 2, none⟩ = some (.slice none 0 0) := hH.cell 2
    have f0 := hH.frozen 0
    have f1 := hH.frozen 1
    have f2 := hH.frozen 2
    have R : Aside (Below w.heap.size w w1 ∧ D = DERR E ∧ ¬ E = 0 ∧ Has w1 w.heap.size #[.int .u64 0, .int .u64 0, .slice none 0 0] 60) := ⟨r1.trans (hbw.mono r1.size), hD, hE, hH⟩
    clear h1 h2 hD hbw r1 r2 r3 hH R0 hE
    go_wp2
    obtain ⟨r1, r4, r2, r10⟩ := R.out
    have hH := ((r10.set 0 (.int .u64 0)).set 1 (.int .u64 0)).set 2 (.slice none 0 0)
    have hb := ((r1.setCell (p := ⟨w.heap.size, 0, none⟩) (Nat.le_refl _) (.int .u64 0)).setCell (p := ⟨w.heap.size, 1, none⟩) (Nat.le_refl _) (.int .u64 0)).setCell (p := ⟨w.heap.size, 2, none⟩) (Nat.le_refl _) (.slice none 0 0)
    clear x0 x1 x2 f0 f1 f2 R r1 r10
    generalize ((w1.setCell ⟨w.heap.size, 0, none⟩ (.int .u64 0)).setCell ⟨w.heap.size, 1, none⟩ (.int .u64 0)).setCell ⟨w.heap.size, 2, none⟩ (.slice none 0 0) = wf at *
    have z0 : wf.cell? ⟨w.heap.size, 0, none⟩ = some (.int .u64 0) := hH.cell 0
    have z1 : wf.cell? ⟨w.heap.size, 1, none⟩ = some (.int .u64 0) := hH.cell 1
    have z2 : wf.cell? ⟨w.heap.size, 2, none⟩ = some (.slice none 0 0) := hH.cell 2
    rw [r4]
    refine bodyPost_ret (v := .tuple #[.agg #[.int .u64 0, .int .u64 0, .slice none 0 0], .int .i64 E]) ?_ rfl ⟨_, rfl, hb, .inl ⟨r2, rfl⟩⟩
    simp [results, Tryd.f25, go_sem, z0, z1, z2]
end Go.Proofs.YtccghfpnakkmaaaDoor

/- There and back: what Encode writes is what Decode reads, and the other way round. -/
namespace Go.Proofs.YtccghfpnakkmaaaDoor
open Go.RowKit

theorem drop_short (X : Nat) (t : List Int) : (SHORT X ++ t).drop (NTOP X + 1) = t := by
  rw [List.drop_append_of_le_length (by rw [SHORT_length]; omega), List.drop_of_length_le (by rw [SHORT_length]; omega), List.nil_append]
/-- what is written is read back, with more or fewer bytes behind it. -/
theorem DC_there {K : Int} {chk : Nat → Bool} {PF : Nat → Nat → Int × List Nat} {X Y : Nat} (hX : X < 2 ^ 64) (hY : Y < 2 ^ 64) (hc : chk X = false) (t : List Int) : DC0 K chk PF (K :: (SHORT X ++ (SHORT Y ++ t))) = DC3 PF X Y t := by
  have e1 := LNG_SHORT hX (SHORT Y ++ t)
  have e2 := LNG_SHORT hY t
  unfold DC0
  rw [if_neg (by simp), if_neg (by simp), List.drop_succ_cons, List.drop_zero]
  unfold DC1
  rw [e1]
  dsimp only
  rw [if_neg (by simp), Int.toNat_natCast, Int.toNat_natCast, hc, if_neg (by simp), drop_short]
  unfold DC2
  rw [e2]
  dsimp only
  rw [if_neg (by simp), Int.toNat_natCast, Int.toNat_natCast, drop_short]
/-- what is read is written the same. -/
theorem DC_back {K : Int} {chk : Nat → Bool} {PF : Nat → Nat → Int × List Nat} {l : List Int} (hr : ∀ x ∈ l, 0 ≤ x ∧ x ≤ 255) {X Y N : Nat} {t : List Int} (h : DC0 K chk PF l = (0, X, Y, N, t)) :
    X < 2 ^ 64 ∧ Y < 2 ^ 64 ∧ chk X = false ∧ (PF X Y).1 = 0 ∧ N = (PF X Y).2.length ∧ t.length = 32 * N ∧ l = K :: (SHORT X ++ (SHORT Y ++ t)) ∧ (∀ x ∈ t, 0 ≤ x ∧ x ≤ 255) := by
  have bad : ∀ {E : Int}, DERR E = (0, X, Y, N, t) → E = 0 := fun h => congrArg Prod.fst h
  unfold DC0 at h
  split at h
  · exact absurd (bad h) (by decide)
  rename_i h0
  split at h
  · exact absurd (bad h) (by decide)
  rename_i hK
  have hr1 : ∀ x ∈ l.drop 1, 0 ≤ x ∧ x ≤ 255 := fun x hx => hr x (List.mem_of_mem_drop hx)
  have hl : l = K :: l.drop 1 := by
    cases l with
    | nil => simp at h0
    | cons a l =>
      have : a = K := by simpa using hK
      simp [this]
  unfold DC1 at h
  split at h
  · rename_i he
    exact absurd (bad h) he
  rename_i he
  obtain ⟨Z, m, hZ, _, hm, e1, s1⟩ := LNG_back hr1 (by simpa using he)
  rw [e1] at h
  dsimp only at h
  rw [Int.toNat_natCast, Int.toNat_natCast] at h
  split at h
  · exact absurd (bad h) (by decide)
  rename_i hchk
  have hr2 : ∀ x ∈ (l.drop 1).drop m, 0 ≤ x ∧ x ≤ 255 := fun x hx => hr1 x (List.mem_of_mem_drop hx)
  unfold DC2 at h
  split at h
  · rename_i he2
    exact absurd (bad h) he2
  rename_i he2
  obtain ⟨Z2, m2, hZ2, _, hm2, e2, s2⟩ := LNG_back hr2 (by simpa using he2)
  rw [e2] at h
  dsimp only at h
  rw [Int.toNat_natCast, Int.toNat_natCast] at h
  unfold DC3 at h
  split at h
  · rename_i he3
    exact absurd (bad h) he3
  rename_i he3
  split at h
  · exact absurd (bad h) (by decide)
  rename_i hlt
  split at h
  · exact absurd (bad h) (by decide)
  rename_i hgt
  simp only [Prod.mk.injEq, true_and] at h
  obtain ⟨rfl, rfl, rfl, rfl⟩ := h
  refine ⟨hZ, hZ2, by simpa using hchk, by simpa using he3, rfl, by omega, ?_, fun x hx => hr2 x (List.mem_of_mem_drop hx)⟩
  rw [s1, s2, List.take_append_drop, List.take_append_drop]
  exact hl
theorem ENC_there {S I n : Nat} {l c : List Int} (hS : S < 2 ^ 64) (hI : I < 2 ^ 64) (h : ENC S I n l = (0, c)) : c = 77 :: (SHORT S ++ (SHORT I ++ l)) ∧ TOOBIG S = false ∧ (PLA I S).1 = 0 ∧ n = (PLA I S).2.length ∧ ∀ t, DEC (77 :: (SHORT S ++ (SHORT I ++ t))) = DC3 (fun S I => PLA I S) S I t := by
  unfold ENC ENCB at h
  split at h
  · rename_i he
    exact absurd (congrArg Prod.fst h) he
  rename_i he
  split at h
  · exact absurd (congrArg Prod.fst h) (by simp)
  rename_i hn
  have hb : TOOBIG S = false := by
    unfold TOOBIG
    rw [decide_eq_false_iff_not]
    intro hb
    apply he
    unfold PLA
    rw [if_pos hb]
    decide
  have hc := congrArg Prod.snd h
  dsimp only at hc
  refine ⟨by rw [← hc, List.append_assoc], hb, by simpa using he, by omega, fun t => DC_there hS hI hb t⟩
theorem ENX_there {F S n : Nat} {l c : List Int} (hF : F < 2 ^ 64) (hS : S < 2 ^ 64) (h : ENX F S n l = (0, c)) : c = 80 :: (SHORT F ++ (SHORT S ++ l)) ∧ (PPA F S).1 = 0 ∧ n = (PPA F S).2.length ∧ ∀ t, DEX (80 :: (SHORT F ++ (SHORT S ++ t))) = DC3 PPA F S t := by
  unfold ENX ENCB at h
  split at h
  · rename_i he
    exact absurd (congrArg Prod.fst h) he
  rename_i he
  split at h
  · exact absurd (congrArg Prod.fst h) (by simp)
  rename_i hn
  have hc := congrArg Prod.snd h
  dsimp only at hc
  exact ⟨by rw [← hc, List.append_assoc], by simpa using he, by omega, fun t => DC_there hF hS rfl t⟩
/-- Decode of what Encode wrote; of more bytes; of fewer. -/
theorem round_there {S I n : Nat} {l c : List Int} (hS : S < 2 ^ 64) (hI : I < 2 ^ 64) (hl : l.length = 32 * n) (h : ENC S I n l = (0, c)) : DEC c = (0, S, I, n, l) ∧ (∀ x, DEC (c ++ [x]) = DERR 13) := by
  obtain ⟨rfl, _, h1, h2, h3⟩ := ENC_there hS hI h
  refine ⟨?_, fun x => ?_⟩
  · rw [h3]
    unfold DC3
    dsimp only
    rw [if_neg (by simpa using h1), if_neg (by omega), if_neg (by omega), ← h2]
  · rw [show (77 :: (SHORT S ++ (SHORT I ++ l))) ++ [x] = 77 :: (SHORT S ++ (SHORT I ++ (l ++ [x]))) by simp, h3]
    unfold DC3
    dsimp only
    rw [if_neg (by simpa using h1), if_neg (by rw [List.length_append]; simp; omega), if_pos (by rw [List.length_append]; simp; omega)]
theorem round_prefix {F S n : Nat} {l c : List Int} (hF : F < 2 ^ 64) (hS : S < 2 ^ 64) (hl : l.length = 32 * n) (h : ENX F S n l = (0, c)) : DEX c = (0, F, S, n, l) := by
  obtain ⟨rfl, h1, h2, h3⟩ := ENX_there hF hS h
  rw [h3]
  unfold DC3
  rw [if_neg (by simpa using h1), if_neg (by omega), if_neg (by omega), ← h2]
/-- Encode of what Decode read. -/
theorem round_back {b t : List Int} (hr : ∀ x ∈ b, 0 ≤ x ∧ x ≤ 255) {S I N : Nat} (h : DEC b = (0, S, I, N, t)) : ENC S I N t = (0, b) ∧ DEX b = DERR 14 := by
  obtain ⟨_, _, _, h4, h5, _, h7, _⟩ := DC_back hr h
  subst h7
  refine ⟨?_, ?_⟩
  · unfold ENC ENCB
    rw [if_neg (by simpa using h4), if_neg (by omega), List.append_assoc]
  · unfold DEX DC0
    rw [if_neg (by simp), if_pos (by simp)]
/-- a byte fewer is refused. -/
theorem round_cut {b : List Int} {x : Int} (hr : ∀ y ∈ b, 0 ≤ y ∧ y ≤ 255) (h : (DEC (b ++ [x])).1 = 0) : (DEC b).1 ≠ 0 := by
  intro h0
  obtain ⟨E, S, I, N, t, hD⟩ : ∃ E S I N t, DEC b = (E, S, I, N, t) := ⟨_, _, _, _, _, rfl⟩
  rw [hD] at h0
  have h0 : E = 0 := h0
  subst h0
  obtain ⟨h1, h2, _, _, _, h6, _, _⟩ := DC_back hr hD
  have := (round_there h1 h2 h6 (round_back hr hD).1).2 x
  rw [this] at h
  exact absurd h (by decide)
theorem round_back_prefix {b t : List Int} (hr : ∀ x ∈ b, 0 ≤ x ∧ x ≤ 255) {F S N : Nat} (h : DEX b = (0, F, S, N, t)) : ENX F S N t = (0, b) := by
  obtain ⟨_, _, _, h4, h5, _, h7, _⟩ := DC_back hr h
  subst h7
  unfold ENX ENCB
  rw [if_neg (by simpa using h4), if_neg (by omega), List.append_assoc]
end Go.Proofs.YtccghfpnakkmaaaDoor

/- What is read stands in rows of one's own; families of such rows, none in another's block. -/
namespace Go.Proofs.YtccghfpnakkmaaaDoor
open Go.RowKit
set_option maxRecDepth 100000

theorem DC3_err (PF : Nat → Nat → Int × List Nat) (X Y : Nat) (t : List Int) : DC3 PF X Y t = DERR (DC3 PF X Y t).1 ∨ (DC3 PF X Y t).1 = 0 := by
  unfold DC3
  split
  · exact .inl rfl
  · split
    · exact .inl rfl
    · split
      · exact .inl rfl
      · exact .inr rfl
theorem DC2_err (PF : Nat → Nat → Int × List Nat) (X : Nat) (t : List Int) : DC2 PF X t = DERR (DC2 PF X t).1 ∨ (DC2 PF X t).1 = 0 := by
  unfold DC2
  split
  · exact .inl rfl
  · exact DC3_err _ _ _ _
theorem DC1_err (chk : Nat → Bool) (PF : Nat → Nat → Int × List Nat) (t : List Int) : DC1 chk PF t = DERR (DC1 chk PF t).1 ∨ (DC1 chk PF t).1 = 0 := by
  unfold DC1
  split
  · exact .inl rfl
  · split
    · exact .inl rfl
    · exact DC2_err _ _ _
theorem DC0_err {K : Int} {chk : Nat → Bool} {PF : Nat → Nat → Int × List Nat} {l : List Int} (h : (DC0 K chk PF l).1 ≠ 0) : DC0 K chk PF l = DERR (DC0 K chk PF l).1 := by
  have : DC0 K chk PF l = DERR (DC0 K chk PF l).1 ∨ (DC0 K chk PF l).1 = 0 := by
    unfold DC0
    split
    · exact .inl rfl
    · split
      · exact .inl rfl
      · exact DC1_err _ _ _
  rcases this with h1 | h1
  · exact h1
  · exact absurd h1 h
theorem own_of_has {w : World} {B g N : Nat} {l : List Int} (h : Has w g (CELLS l).toArray 24) (hl : l.length = 32 * N) (hB : B ≤ g) (hN : N ≤ 1000) : w.ownsRow B 24 32 (.slice (some ⟨g, 0, none⟩) N N) N (CELLS l) := by
  refine ⟨by rw [CELLS, List.length_map, hl, Nat.mul_comm], .inr ⟨g, N, _, rfl, hB, h, Nat.le_refl _, by simp [maxLen]; omega, ?_, ?_⟩⟩
  · simp [CELLS, hl, Nat.mul_comm]
  · rw [List.take_of_length_le (by simp [CELLS, hl]; omega)]
/-- a proof is answered, its nodes in a row of one's own; or an error, and all is zero. -/
def DECO (w : World) (D : DANS) (e : Ending) (w' : World) : Prop :=
  ∃ a c, e = .returned (.tuple #[.agg #[.int .u64 (D.2.1 : Int), .int .u64 (D.2.2.1 : Int), .slice a D.2.2.2.1 c], .int .i64 D.1]) ∧ w'.ownsRow w.heap.size 24 32 (.slice a D.2.2.2.1 c) D.2.2.2.1 (CELLS D.2.2.2.2) ∧ (∀ x ∈ D.2.2.2.2, 0 ≤ x ∧ x ≤ 255) ∧ Below w.heap.size w w'
theorem DECD.own {w w' : World} {K : Int} {chk : Nat → Bool} {PF : Nat → Nat → Int × List Nat} {l : List Int} {e : Ending} (h : DECD w (DC0 K chk PF l) e w') (hf : (DC0 K chk PF l).1 = 0 → (DC0 K chk PF l).2.2.2.1 ≤ 1000) : DECO w (DC0 K chk PF l) e w' := by
  obtain ⟨v, rfl, hb, h⟩ := h
  rcases h with ⟨hE, rfl⟩ | ⟨hE, h1, h2, h3, h4, g, rfl, hg, hh⟩
  · have hD := DC0_err hE
    rw [hD]
    refine ⟨none, 0, rfl, World.ownsRow_nil _ _ _ _, by simp [DERR], hb⟩
  · exact ⟨_, _, rfl, own_of_has hh h3 hg (hf hE), h4, hb⟩
theorem DEC_few {l : List Int} (hr : ∀ x ∈ l, 0 ≤ x ∧ x ≤ 255) (h : (DEC l).1 = 0) : (DEC l).2.2.2.1 ≤ 188 := by
  obtain ⟨E, S, I, N, t, hD⟩ : ∃ E S I N t, DEC l = (E, S, I, N, t) := ⟨_, _, _, _, _, rfl⟩
  rw [hD] at h ⊢
  obtain rfl : E = 0 := h
  obtain ⟨_, _, _, _, h5, _⟩ := DC_back hr hD
  have := PLA_few I S
  show N ≤ 188
  omega
theorem DEX_few {l : List Int} (hr : ∀ x ∈ l, 0 ≤ x ∧ x ≤ 255) (h : (DEX l).1 = 0) : (DEX l).2.2.2.1 ≤ 188 := by
  obtain ⟨E, S, I, N, t, hD⟩ : ∃ E S I N t, DEX l = (E, S, I, N, t) := ⟨_, _, _, _, _, rfl⟩
  rw [hD] at h ⊢
  obtain rfl : E = 0 := h
  obtain ⟨_, _, _, _, h5, _⟩ := DC_back hr hD
  have := PPA_few S I
  show N ≤ 188
  omega
theorem DC0_few {K : Int} {chk : Nat → Bool} {PF : Nat → Nat → Int × List Nat} {l : List Int} {k : Nat} (h : (DC0 K chk PF l).1 = 0 → (DC0 K chk PF l).2.2.2.1 ≤ k) : (DC0 K chk PF l).2.2.2.1 ≤ k := by
  by_cases hE : (DC0 K chk PF l).1 = 0
  · exact h hE
  · rw [DC0_err hE]
    exact Nat.zero_le _
theorem decode_own (a : Option Addr) (n c : Nat) (hn : n ≤ 1000000) (l : List Int) (w : World) (hB : Bytes w a n l) (hc : n ≤ c) (hT : Tabled w) (h0 : 0 < w.heap.size) : Calls Tryd.prog 22 #[.slice a n c] w (DECO w (DEC l)) :=
  (decode_ok a n c hn l w hB hc hT h0).mono fun _ _ h => DECD.own h fun hE => Nat.le_trans (DEC_few hB.2.2 hE) (by decide)
theorem decodeprefix_own (a : Option Addr) (n c : Nat) (hn : n ≤ 1000000) (l : List Int) (w : World) (hB : Bytes w a n l) (hc : n ≤ c) (hT : Tabled w) (h0 : 0 < w.heap.size) : Calls Tryd.prog 25 #[.slice a n c] w (DECO w (DEX l)) :=
  (decodeprefix_ok a n c hn l w hB hc hT h0).mono fun _ _ h => DECD.own h fun hE => Nat.le_trans (DEX_few hB.2.2 hE) (by decide)
/-- M rows of one's own, of one kind, none in another's block, none in a block of K. -/
structure FAM (M : Nat) (t : TypeId) (s : Nat) (w : World) (B : Nat) (K : Nat → Prop) (v : Nat → Value) (n : Nat → Nat) (xs : Nat → List Value) : Prop where
  row : ∀ x, x < M → w.ownsRow B t s (v x) (n x) (xs x)
  apart : ∀ x y, x < M → y < M → x ≠ y → ∀ g, (v x).ownBlock = some g → (v y).ownBlock ≠ some g
  off : ∀ x, x < M → ∀ g, (v x).ownBlock = some g → ¬ K g
theorem FAM.below {M : Nat} {t : TypeId} {s : Nat} {w w' : World} {B : Nat} {K : Nat → Prop} {v : Nat → Value} {n : Nat → Nat} {xs : Nat → List Value} (h : FAM M t s w B K v n xs) (hb : Below w.heap.size w w') : FAM M t s w' B K v n xs := ⟨fun x hx => own_below (h.row x hx) hb, h.apart, h.off⟩
theorem FAM.heap {M : Nat} {t : TypeId} {s : Nat} {w w' : World} {B : Nat} {K : Nat → Prop} {v : Nat → Value} {n : Nat → Nat} {xs : Nat → List Value} (h : FAM M t s w B K v n xs) (hk : ∀ k, k < w.heap.size → ¬ K k → w'.heap[k]? = w.heap[k]?) : FAM M t s w' B K v n xs := ⟨fun x hx => own_heap (h.row x hx) fun k e => hk k ((h.row x hx).lt k e).2 (h.off x hx k e), h.apart, h.off⟩
/-- one of them is turned. -/
theorem FAM.turn {M : Nat} {t : TypeId} {s : Nat} {w w' : World} {B : Nat} {K : Nat → Prop} {v : Nat → Value} {n : Nat → Nat} {xs : Nat → List Value} (h : FAM M t s w B K v n xs) {x g m c : Nat} {ys : List Value} (hx : x < M) (hK : ∀ k, K k → k < w.heap.size)
    (hown : w'.ownsRow B t s (.slice (some ⟨g, 0, none⟩) m c) m ys) (hg : w.grownBy w' (v x).ownBlock) (hat : (v x).ownBlock = some g ∨ w.heap.size ≤ g) : FAM M t s w' B K (UPD v x (.slice (some ⟨g, 0, none⟩) m c)) (UPD n x m) (UPD xs x ys) ∧ ∀ k, K k → w'.heap[k]? = w.heap[k]? := by
  have hgx : ∀ y, y < M → y ≠ x → (v y).ownBlock ≠ some g := fun y hy hne e => by
    rcases hat with h1 | h1
    · exact h.apart x y hx hy (fun e => hne e.symm) g h1 e
    · have := ((h.row y hy).lt g e).2
      omega
  refine ⟨⟨fun y hy => ?_, fun y z hy hz hne k e => ?_, fun y hy k e hk => ?_⟩, fun k hk => hg.block k (hK k hk) fun e => h.off x hx k e.symm hk⟩
  · by_cases e : y = x
    · subst e
      rw [UPD_at, UPD_at, UPD_at]
      exact hown
    · rw [UPD_other _ _ e, UPD_other _ _ e, UPD_other _ _ e]
      exact own_heap (h.row y hy) fun k hk => hg.block k ((h.row y hy).lt k hk).2 fun e2 => h.apart x y hx hy (fun e3 => e e3.symm) k e2.symm hk
  · by_cases e1 : y = x
    · subst e1
      rw [UPD_at] at e
      have e : g = k := by simpa [Value.ownBlock] using e
      subst e
      rw [UPD_other _ _ (fun e2 => hne e2.symm)]
      exact hgx z hz fun e2 => hne e2.symm
    · rw [UPD_other _ _ e1] at e
      by_cases e2 : z = x
      · subst e2
        rw [UPD_at]
        intro e3
        have e3 : g = k := by simpa [Value.ownBlock] using e3
        subst e3
        exact hgx y hy e1 e
      · rw [UPD_other _ _ e2]
        exact h.apart y z hy hz hne k e
  · by_cases e1 : y = x
    · subst e1
      rw [UPD_at] at e
      have e : g = k := by simpa [Value.ownBlock] using e
      subst e
      rcases hat with h1 | h1
      · exact h.off y hy g h1 hk
      · have := hK g hk
        omega
    · rw [UPD_other _ _ e1] at e
      exact h.off y hy k e hk
end Go.Proofs.YtccghfpnakkmaaaDoor
