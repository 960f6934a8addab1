/- What Make and MakePrefix answer, asked of the spy. -/
import Derived.Test.YtddmfpiflnjmjaaDoorProofFetch
namespace Go.Proofs.YtddmfpiflnjmjaaDoor
open Go.RowKit
set_option maxRecDepth 100000

/-- what is answered, and what the spy was asked: of an error of the places nothing. -/
def MADE (w : World) (B sb : Nat) (R : Int) (D : Int × List Nat) (X Y : Nat) (e : Ending) (w' : World) : Prop :=
  ∃ v, Below B w w' ∧
  ((D.1 ≠ 0 ∧ SPY w' B sb R [] v ∧ e = .returned (.tuple #[.agg #[.int .u64 0, .int .u64 0, .slice none 0 0], .int .i64 D.1])) ∨
   (D.1 = 0 ∧ D.2.length ≤ R.toNat ∧ SPY w' B sb R D.2 v ∧ ∃ u, e = .returned (.tuple #[.agg #[.int .u64 (X : Int), .int .u64 (Y : Int), u], .int .i64 0]) ∧ w'.ownsRow B 82 32 u D.2.length (CELLS (NDS D.2 D.2.length)) ∧ u.ownBlock ≠ some sb ∧ (∀ k, u.ownBlock = some k → v.ownBlock ≠ some k)) ∨
   (D.1 = 0 ∧ R.toNat < D.2.length ∧ SPY w' B sb R (D.2.take (R.toNat + 1)) v ∧ e = .returned (.tuple #[.agg #[.int .u64 0, .int .u64 0, .slice none 0 0], .int .i64 50])))
theorem fetch_any (B sb : Nat) (R : Int) (P : List Nat) (pv v0 : Value) (w : World) (hP : P.length ≤ 188) (hp64 : ∀ p ∈ P, p < 2 ^ 64) (hB : B ≤ w.heap.size) (hS : SPY w B sb R [] v0) (hv0 : v0.ownBlock = none) (hN : w.ownsRow (sb + 1) 22 1 pv P.length (UCELLS P)) :
    Calls Tryd.prog 47 #[.iface 32 (.pointer (some ⟨sb, 0, none⟩)), pv] w (FETCHED w B sb R P) := by
  obtain ⟨a, cp, rfl, hc⟩ := nums_own hN
  rcases Nat.eq_zero_or_pos P.length with h | h
  · have hP0 := List.eq_nil_of_length_eq_zero h
    subst hP0
    exact fetch_none B sb cp a R v0 w hB hS hv0
  · obtain ⟨gp, rfl, hgl, hcs⟩ := hc h
    have := (hN.lt gp rfl).1
    exact fetch_ok B sb gp cp R P v0 w hP h hp64 hB hS hv0 hcs hgl (by omega)
theorem SPY.cell {w : World} {B sb b j : Nat} {R : Int} {A : List Nat} {v : Value} (h : SPY w B sb R A v) (hb : b ≠ sb) (hv : v.ownBlock ≠ some b) (u : Value) : SPY (w.setCell ⟨b, j, none⟩ u) B sb R A v :=
  ⟨h.has.other (a := ⟨b, j, none⟩) (fun e => hb e.symm) u, h.row.kept (grown_set w b j u) (.inr fun e => hv e), h.ne, h.lo⟩
set_option maxHeartbeats 4000000 in
theorem make_ok (X Y : Nat) (hfew : (PLA Y X).2.length ≤ 188) (hp64 : ∀ p ∈ (PLA Y X).2, p < 2 ^ 64) (B sb : Nat) (R : Int) (v0 : Value) (w : World) (hB : B ≤ w.heap.size) (hS : SPY w B sb R [] v0) (hv0 : v0.ownBlock = none) (hT : Tabled w) (h0 : 0 < w.heap.size) :
    Calls Tryd.prog 16 #[.iface 32 (.pointer (some ⟨sb, 0, none⟩)), .int .u64 (Y : Int), .int .u64 (X : Int)] w (MADE w B sb R (PLA Y X) X Y) := by
  have CP : Aside (∀ W, Below w.heap.size w W → Calls Tryd.prog 10 #[.int .u64 (Y : Int), .int .u64 (X : Int)] W fun e w' => ∃ v, e = .returned (.tuple #[v, .int .i64 (PLA Y X).1]) ∧ w'.ownsRow W.heap.size 22 1 v (PLA Y X).2.length (UCELLS (PLA Y X).2) ∧ Below W.heap.size W w') :=
    fun W h => pla_ok Y X W (hT.below h0 h) (Nat.lt_of_lt_of_le h0 h.size)
  generalize PLA Y X = D at *
  obtain ⟨E, P⟩ := D
  dsimp only at *
  have HA : Aside (P.length ≤ 188 ∧ (∀ p ∈ P, p < 2 ^ 64) ∧ B ≤ w.heap.size ∧ SPY w B sb R [] v0 ∧ v0.ownBlock = none) := ⟨hfew, hp64, hB, hS, hv0⟩
  clear hfew hp64 hB hS hv0 hT h0
  go_enter Tryd.func16, Tryd.ntmps16
  go_wp2_with fail
  have hR := Has.new w #[.int .u64 0, .int .u64 0, .slice none 0 0] 37
  have hb0 : Below w.heap.size w (w.alloc (.cells #[.int .u64 0, .int .u64 0, .slice none 0 0] 37)) := (Below.refl _ _).alloc (Nat.le_refl _) _
  have hs0 : (w.alloc (.cells #[.int .u64 0, .int .u64 0, .slice none 0 0] 37)).heap.size = w.heap.size + 1 := by simp
  generalize w.alloc (.cells #[.int .u64 0, .int .u64 0, .slice none 0 0] 37) = w0 at *
  refine (CP.out _ hb0).mono ?_
  rintro e w1 ⟨pv, rfl, hrow, hb⟩
  clear CP
  obtain ⟨a1, a2, a3, a4, a5⟩ := HA.out
  have hbw : Below w.heap.size w w1 := hb0.trans (hb.mono hb0.size)
  have hR1 := hR.keep hb
  have hS1 := a4.below hbw
  have hsb := a4.has.lt
  have hsz := hb.size
  by_cases hE : E = 0
  · subst hE
    have cf := fetch_any B sb R P pv v0 w1 a1 a2 (by have := hbw.size; omega) hS1 a5 (own_mono hrow (by omega))
    have S0 : Aside (Below w.heap.size w w1 ∧ Has w1 w.heap.size #[.int .u64 0, .int .u64 0, .slice none 0 0] 37 ∧ w.heap.size < w1.heap.size ∧ B ≤ w.heap.size ∧ sb < w.heap.size ∧ v0.ownBlock = none) := ⟨hbw, hR1, by omega, a3, hsb, a5⟩
    clear hR hb0 hs0 hrow hb a1 a2 a3 a4 a5 hbw hR1 hS1 hsb hsz HA
    go_wp2_with fail
    refine cf.mono ?_
    rintro e w2 ⟨v, hb2, hk2, hv2, hz2, h⟩
    clear cf
    obtain ⟨r1, r2, r3, r4, r5, r6⟩ := S0.out
    have hR2 : Has w2 w.heap.size #[.int .u64 0, .int .u64 0, .slice none 0 0] 37 := (hk2 w.heap.size r3 (by omega)).trans r2
    have x0 : w2.cell? ⟨w.heap.size, 0, none⟩ = some (.int .u64 0) := hR2.cell 0
    have x1 : w2.cell? ⟨w.heap.size, 1, none⟩ = some (.int .u64 0) := hR2.cell 1
    have x2 : w2.cell? ⟨w.heap.size, 2, none⟩ = some (.slice none 0 0) := hR2.cell 2
    have f0 := hR2.frozen 0
    have f1 := hR2.frozen 1
    have f2 := hR2.frozen 2
    have hbB : Below B w w2 := (r1.mono r4).trans hb2
    have hvn : v.ownBlock ≠ some w.heap.size := fun e => by have := hv2 _ e; omega
    rcases h with ⟨h1, hS2, u, rfl, hu1, hu2, hu3, hu4⟩ | ⟨h1, hS2, rfl⟩
    · obtain ⟨ua, uc, rfl⟩ : ∃ ua uc, u = .slice ua P.length uc := by
        rcases hu1.2 with ⟨e, h0⟩ | ⟨g, cap, cur, e, _⟩
        · exact ⟨none, 0, by rw [e, h0]⟩
        · exact ⟨_, cap, e⟩
      obtain ⟨np, hnp⟩ : ∃ np, P.length = np := ⟨_, rfl⟩
      rw [hnp] at hu1 hu2 hu3 hu4
      have HNP : Aside (P.length = np) := hnp
      generalize hU0 : Value.slice ua P.length uc = u at *
      rw [hnp] at hU0
      subst hU0
      have hun : (Value.slice ua np uc).ownBlock ≠ some w.heap.size := fun e => by have := hu4 _ e; omega
      have S1 : Aside (Below B w w2 ∧ Has w2 w.heap.size #[.int .u64 0, .int .u64 0, .slice none 0 0] 37 ∧ SPY w2 B sb R P v ∧ B ≤ w.heap.size ∧ w.heap.size ≠ sb ∧ v.ownBlock ≠ some w.heap.size ∧ P.length ≤ R.toNat ∧ w2.ownsRow B 82 32 (.slice ua np uc) np (CELLS (NDS P np)) ∧ (Value.slice ua np uc).ownBlock ≠ some sb ∧ (∀ k, (Value.slice ua np uc).ownBlock = some k → v.ownBlock ≠ some k) ∧ (Value.slice ua np uc).ownBlock ≠ some w.heap.size) := ⟨hbB, hR2, hS2, r4, by omega, hvn, h1, hu1, hu2, hu3, hun⟩
      clear hb2 hk2 hv2 hz2 r1 r2 r3 r4 r5 r6 hR2 hbB hvn h1 hS2 hu1 hu2 hu3 hu4 hun S0 hnp
      go_wp2
      obtain ⟨r1, r2, r3, r4, r5, r6, r7, r8, r9, r10, r11⟩ := S1.out
      have hH := ((r2.set 0 (.int .u64 (X : Int))).set 1 (.int .u64 (Y : Int))).set 2 (.slice ua np uc)
      have hb := ((r1.setCell (p := ⟨w.heap.size, 0, none⟩) r4 (.int .u64 (X : Int))).setCell (p := ⟨w.heap.size, 1, none⟩) r4 (.int .u64 (Y : Int))).setCell (p := ⟨w.heap.size, 2, none⟩) r4 (.slice ua np uc)
      have hS := ((r3.cell (b := w.heap.size) (j := 0) r5 r6 (.int .u64 (X : Int))).cell (b := w.heap.size) (j := 1) r5 r6 (.int .u64 (Y : Int))).cell (b := w.heap.size) (j := 2) r5 r6 (.slice ua np uc)
      have hU := ((r8.kept (grown_set w2 w.heap.size 0 (.int .u64 (X : Int))) (.inr fun e => r11 e)).kept (grown_set _ w.heap.size 1 (.int .u64 (Y : Int))) (.inr fun e => r11 e)).kept (grown_set _ w.heap.size 2 (.slice ua np uc)) (.inr fun e => r11 e)
      clear x0 x1 x2 f0 f1 f2 S1 r1 r2 r3 r8
      generalize ((w2.setCell ⟨w.heap.size, 0, none⟩ (.int .u64 (X : Int))).setCell ⟨w.heap.size, 1, none⟩ (.int .u64 (Y : Int))).setCell ⟨w.heap.size, 2, none⟩ (.slice ua np uc) = wf at *
      have z0 : wf.cell? ⟨w.heap.size, 0, none⟩ = some (.int .u64 (X : Int)) := hH.cell 0
      have z1 : wf.cell? ⟨w.heap.size, 1, none⟩ = some (.int .u64 (Y : Int)) := hH.cell 1
      have z2 : wf.cell? ⟨w.heap.size, 2, none⟩ = some (.slice ua np uc) := hH.cell 2
      refine bodyPost_ret (v := .tuple #[.agg #[.int .u64 (X : Int), .int .u64 (Y : Int), .slice ua np uc], .int .i64 0]) ?_ rfl ⟨v, hb, .inr (.inl ⟨rfl, r7, hS, _, rfl, by rw [HNP.out]; exact hU, r9, r10⟩)⟩
      simp [results, Tryd.f16, go_sem, z0, z1, z2]
    · have S1 : Aside (Below B w w2 ∧ Has w2 w.heap.size #[.int .u64 0, .int .u64 0, .slice none 0 0] 37 ∧ SPY w2 B sb R (P.take (R.toNat + 1)) v ∧ B ≤ w.heap.size ∧ w.heap.size ≠ sb ∧ v.ownBlock ≠ some w.heap.size ∧ R.toNat < P.length) := ⟨hbB, hR2, hS2, r4, by omega, hvn, h1⟩
      clear hb2 hk2 hv2 hz2 r1 r2 r3 r4 r5 r6 hR2 hbB hvn h1 hS2 S0
      go_wp2
      obtain ⟨r1, r2, r3, r4, r5, r6, r7⟩ := S1.out
      have hH := ((r2.set 0 (.int .u64 0)).set 1 (.int .u64 0)).set 2 (.slice none 0 0)
      have hb := ((r1.setCell (p := ⟨w.heap.size, 0, none⟩) r4 (.int .u64 0)).setCell (p := ⟨w.heap.size, 1, none⟩) r4 (.int .u64 0)).setCell (p := ⟨w.heap.size, 2, none⟩) r4 (.slice none 0 0)
      have hS := ((r3.cell (b := w.heap.size) (j := 0) r5 r6 (.int .u64 0)).cell (b := w.heap.size) (j := 1) r5 r6 (.int .u64 0)).cell (b := w.heap.size) (j := 2) r5 r6 (.slice none 0 0)
      clear x0 x1 x2 f0 f1 f2 S1 r1 r2 r3
      generalize ((w2.setCell ⟨w.heap.size, 0, none⟩ (.int .u64 0)).setCell ⟨w.heap.size, 1, none⟩ (.int .u64 0)).setCell ⟨w.heap.size, 2, none⟩ (.slice none 0 0) = wf at *
      have z0 : wf.cell? ⟨w.heap.size, 0, none⟩ = some (.int .u64 0) := hH.cell 0
      have z1 : wf.cell? ⟨w.heap.size, 1, none⟩ = some (.int .u64 0) := hH.cell 1
      have z2 : wf.cell? ⟨w.heap.size, 2, none⟩ = some (.slice none 0 0) := hH.cell 2
      refine bodyPost_ret (v := .tuple #[.agg #[.int .u64 0, .int .u64 0, .slice none 0 0], .int .i64 50]) ?_ rfl ⟨v, hb, .inr (.inr ⟨rfl, r7, hS, rfl⟩)⟩
      simp [results, Tryd.f16, go_sem, z0, z1, z2]
  · have hE' : (E != 0) = true := by simp [hE]
    have x0 : w1.cell? ⟨w.heap.size, 0, none⟩ = some (.int .u64 0) := hR1.cell 0
    have x1 : w1.cell? ⟨w.heap.size, 1, none⟩ = some (.int .u64 0) := hR1.cell 1
    have x2 : w1.cell? ⟨w.heap.size, 2, none⟩ = some (.slice none 0 0) := hR1.cell 2
    have f0 := hR1.frozen 0
    have f1 := hR1.frozen 1
    have f2 := hR1.frozen 2
    have hv : ∀ b, v0.ownBlock ≠ some b := fun b e => by rw [a5] at e; cases e
    have S0 : Aside (Below B w w1 ∧ Has w1 w.heap.size #[.int .u64 0, .int .u64 0, .slice none 0 0] 37 ∧ SPY w1 B sb R [] v0 ∧ B ≤ w.heap.size ∧ w.heap.size ≠ sb ∧ ¬ E = 0 ∧ ∀ b, v0.ownBlock ≠ some b) := ⟨hbw.mono a3, hR1, hS1, a3, by omega, hE, hv⟩
    clear hR hb0 hs0 hrow hb a1 a2 a3 a4 a5 hbw hR1 hS1 hsb hsz HA hE hv
    go_wp2
    obtain ⟨r1, r2, r3, r4, r5, r6, r7⟩ := S0.out
    have hH := ((r2.set 0 (.int .u64 0)).set 1 (.int .u64 0)).set 2 (.slice none 0 0)
    have hb := ((r1.setCell (p := ⟨w.heap.size, 0, none⟩) r4 (.int .u64 0)).setCell (p := ⟨w.heap.size, 1, none⟩) r4 (.int .u64 0)).setCell (p := ⟨w.heap.size, 2, none⟩) r4 (.slice none 0 0)
    have hS := ((r3.cell (b := w.heap.size) (j := 0) r5 (r7 _) (.int .u64 0)).cell (b := w.heap.size) (j := 1) r5 (r7 _) (.int .u64 0)).cell (b := w.heap.size) (j := 2) r5 (r7 _) (.slice none 0 0)
    clear x0 x1 x2 f0 f1 f2 S0 r1 r2 r3
    generalize ((w1.setCell ⟨w.heap.size, 0, none⟩ (.int .u64 0)).setCell ⟨w.heap.size, 1, none⟩ (.int .u64 0)).setCell ⟨w.heap.size, 2, none⟩ (.slice none 0 0) = wf at *
    have z0 : wf.cell? ⟨w.heap.size, 0, none⟩ = some (.int .u64 0) := hH.cell 0
    have z1 : wf.cell? ⟨w.heap.size, 1, none⟩ = some (.int .u64 0) := hH.cell 1
    have z2 : wf.cell? ⟨w.heap.size, 2, none⟩ = some (.slice none 0 0) := hH.cell 2
    refine bodyPost_ret (v := .tuple #[.agg #[.int .u64 0, .int .u64 0, .slice none 0 0], .int .i64 E]) ?_ rfl ⟨v0, hb, .inl ⟨r6, hS, rfl⟩⟩
    simp [results, Tryd.f16, go_sem, z0, z1, z2]
set_option maxHeartbeats 4000000 in
theorem makeprefix_ok (X Y : Nat) (hfew : (PPA X Y).2.length ≤ 188) (hp64 : ∀ p ∈ (PPA X Y).2, p < 2 ^ 64) (B sb : Nat) (R : Int) (v0 : Value) (w : World) (hB : B ≤ w.heap.size) (hS : SPY w B sb R [] v0) (hv0 : v0.ownBlock = none) (hT : Tabled w) (h0 : 0 < w.heap.size) :
    Calls Tryd.prog 18 #[.iface 32 (.pointer (some ⟨sb, 0, none⟩)), .int .u64 (X : Int), .int .u64 (Y : Int)] w (MADE w B sb R (PPA X Y) X Y) := by
  have CP : Aside (∀ W, Below w.heap.size w W → Calls Tryd.prog 11 #[.int .u64 (X : Int), .int .u64 (Y : Int)] W fun e w' => ∃ v, e = .returned (.tuple #[v, .int .i64 (PPA X Y).1]) ∧ w'.ownsRow W.heap.size 22 1 v (PPA X Y).2.length (UCELLS (PPA X Y).2) ∧ Below W.heap.size W w') :=
    fun W h => ppa_ok X Y W (hT.below h0 h) (Nat.lt_of_lt_of_le h0 h.size)
  generalize PPA X Y = D at *
  obtain ⟨E, P⟩ := D
  dsimp only at *
  have HA : Aside (P.length ≤ 188 ∧ (∀ p ∈ P, p < 2 ^ 64) ∧ B ≤ w.heap.size ∧ SPY w B sb R [] v0 ∧ v0.ownBlock = none) := ⟨hfew, hp64, hB, hS, hv0⟩
  clear hfew hp64 hB hS hv0 hT h0
  go_enter Tryd.func18, Tryd.ntmps18
  go_wp2_with fail
  have hR := Has.new w #[.int .u64 0, .int .u64 0, .slice none 0 0] 42
  have hb0 : Below w.heap.size w (w.alloc (.cells #[.int .u64 0, .int .u64 0, .slice none 0 0] 42)) := (Below.refl _ _).alloc (Nat.le_refl _) _
  have hs0 : (w.alloc (.cells #[.int .u64 0, .int .u64 0, .slice none 0 0] 42)).heap.size = w.heap.size + 1 := by simp
  generalize w.alloc (.cells #[.int .u64 0, .int .u64 0, .slice none 0 0] 42) = w0 at *
  refine (CP.out _ hb0).mono ?_
  rintro e w1 ⟨pv, rfl, hrow, hb⟩
  clear CP
  obtain ⟨a1, a2, a3, a4, a5⟩ := HA.out
  have hbw : Below w.heap.size w w1 := hb0.trans (hb.mono hb0.size)
  have hR1 := hR.keep hb
  have hS1 := a4.below hbw
  have hsb := a4.has.lt
  have hsz := hb.size
  by_cases hE : E = 0
  · subst hE
    have cf := fetch_any B sb R P pv v0 w1 a1 a2 (by have := hbw.size; omega) hS1 a5 (own_mono hrow (by omega))
    have S0 : Aside (Below w.heap.size w w1 ∧ Has w1 w.heap.size #[.int .u64 0, .int .u64 0, .slice none 0 0] 42 ∧ w.heap.size < w1.heap.size ∧ B ≤ w.heap.size ∧ sb < w.heap.size ∧ v0.ownBlock = none) := ⟨hbw, hR1, by omega, a3, hsb, a5⟩
    clear hR hb0 hs0 hrow hb a1 a2 a3 a4 a5 hbw hR1 hS1 hsb hsz HA
    go_wp2_with fail
    refine cf.mono ?_
    rintro e w2 ⟨v, hb2, hk2, hv2, hz2, h⟩
    clear cf
    obtain ⟨r1, r2, r3, r4, r5, r6⟩ := S0.out
    have hR2 : Has w2 w.heap.size #[.int .u64 0, .int .u64 0, .slice none 0 0] 42 := (hk2 w.heap.size r3 (by omega)).trans r2
    have x0 : w2.cell? ⟨w.heap.size, 0, none⟩ = some (.int .u64 0) := hR2.cell 0
    have x1 : w2.cell? ⟨w.heap.size, 1, none⟩ = some (.int .u64 0) := hR2.cell 1
    have x2 : w2.cell? ⟨w.heap.size, 2, none⟩ = some (.slice none 0 0) := hR2.cell 2
    have f0 := hR2.frozen 0
    have f1 := hR2.frozen 1
    have f2 := hR2.frozen 2
    have hbB : Below B w w2 := (r1.mono r4).trans hb2
    have hvn : v.ownBlock ≠ some w.heap.size := fun e => by have := hv2 _ e; omega
    rcases h with ⟨h1, hS2, u, rfl, hu1, hu2, hu3, hu4⟩ | ⟨h1, hS2, rfl⟩
    · obtain ⟨ua, uc, rfl⟩ : ∃ ua uc, u = .slice ua P.length uc := by
        rcases hu1.2 with ⟨e, h0⟩ | ⟨g, cap, cur, e, _⟩
        · exact ⟨none, 0, by rw [e, h0]⟩
        · exact ⟨_, cap, e⟩
      obtain ⟨np, hnp⟩ : ∃ np, P.length = np := ⟨_, rfl⟩
      rw [hnp] at hu1 hu2 hu3 hu4
      have HNP : Aside (P.length = np) := hnp
      generalize hU0 : Value.slice ua P.length uc = u at *
      rw [hnp] at hU0
      subst hU0
      have hun : (Value.slice ua np uc).ownBlock ≠ some w.heap.size := fun e => by have := hu4 _ e; omega
      have S1 : Aside (Below B w w2 ∧ Has w2 w.heap.size #[.int .u64 0, .int .u64 0, .slice none 0 0] 42 ∧ SPY w2 B sb R P v ∧ B ≤ w.heap.size ∧ w.heap.size ≠ sb ∧ v.ownBlock ≠ some w.heap.size ∧ P.length ≤ R.toNat ∧ w2.ownsRow B 82 32 (.slice ua np uc) np (CELLS (NDS P np)) ∧ (Value.slice ua np uc).ownBlock ≠ some sb ∧ (∀ k, (Value.slice ua np uc).ownBlock = some k → v.ownBlock ≠ some k) ∧ (Value.slice ua np uc).ownBlock ≠ some w.heap.size) := ⟨hbB, hR2, hS2, r4, by omega, hvn, h1, hu1, hu2, hu3, hun⟩
      clear hb2 hk2 hv2 hz2 r1 r2 r3 r4 r5 r6 hR2 hbB hvn h1 hS2 hu1 hu2 hu3 hu4 hun S0 hnp
      go_wp2
      obtain ⟨r1, r2, r3, r4, r5, r6, r7, r8, r9, r10, r11⟩ := S1.out
      have hH := ((r2.set 0 (.int .u64 (X : Int))).set 1 (.int .u64 (Y : Int))).set 2 (.slice ua np uc)
      have hb := ((r1.setCell (p := ⟨w.heap.size, 0, none⟩) r4 (.int .u64 (X : Int))).setCell (p := ⟨w.heap.size, 1, none⟩) r4 (.int .u64 (Y : Int))).setCell (p := ⟨w.heap.size, 2, none⟩) r4 (.slice ua np uc)
      have hS := ((r3.cell (b := w.heap.size) (j := 0) r5 r6 (.int .u64 (X : Int))).cell (b := w.heap.size) (j := 1) r5 r6 (.int .u64 (Y : Int))).cell (b := w.heap.size) (j := 2) r5 r6 (.slice ua np uc)
      have hU := ((r8.kept (grown_set w2 w.heap.size 0 (.int .u64 (X : Int))) (.inr fun e => r11 e)).kept (grown_set _ w.heap.size 1 (.int .u64 (Y : Int))) (.inr fun e => r11 e)).kept (grown_set _ w.heap.size 2 (.slice ua np uc)) (.inr fun e => r11 e)
      clear x0 x1 x2 f0 f1 f2 S1 r1 r2 r3 r8
      generalize ((w2.setCell ⟨w.heap.size, 0, none⟩ (.int .u64 (X : Int))).setCell ⟨w.heap.size, 1, none⟩ (.int .u64 (Y : Int))).setCell ⟨w.heap.size, 2, none⟩ (.slice ua np uc) = wf at *
      have z0 : wf.cell? ⟨w.heap.size, 0, none⟩ = some (.int .u64 (X : Int)) := hH.cell 0
      have z1 : wf.cell? ⟨w.heap.size, 1, none⟩ = some (.int .u64 (Y : Int)) := hH.cell 1
      have z2 : wf.cell? ⟨w.heap.size, 2, none⟩ = some (.slice ua np uc) := hH.cell 2
      refine bodyPost_ret (v := .tuple #[.agg #[.int .u64 (X : Int), .int .u64 (Y : Int), .slice ua np uc], .int .i64 0]) ?_ rfl ⟨v, hb, .inr (.inl ⟨rfl, r7, hS, _, rfl, by rw [HNP.out]; exact hU, r9, r10⟩)⟩
      simp [results, Tryd.f18, go_sem, z0, z1, z2]
    · have S1 : Aside (Below B w w2 ∧ Has w2 w.heap.size #[.int .u64 0, .int .u64 0, .slice none 0 0] 42 ∧ SPY w2 B sb R (P.take (R.toNat + 1)) v ∧ B ≤ w.heap.size ∧ w.heap.size ≠ sb ∧ v.ownBlock ≠ some w.heap.size ∧ R.toNat < P.length) := ⟨hbB, hR2, hS2, r4, by omega, hvn, h1⟩
      clear hb2 hk2 hv2 hz2 r1 r2 r3 r4 r5 r6 hR2 hbB hvn h1 hS2 S0
      go_wp2
      obtain ⟨r1, r2, r3, r4, r5, r6, r7⟩ := S1.out
      have hH := ((r2.set 0 (.int .u64 0)).set 1 (.int .u64 0)).set 2 (.slice none 0 0)
      have hb := ((r1.setCell (p := ⟨w.heap.size, 0, none⟩) r4 (.int .u64 0)).setCell (p := ⟨w.heap.size, 1, none⟩) r4 (.int .u64 0)).setCell (p := ⟨w.heap.size, 2, none⟩) r4 (.slice none 0 0)
      have hS := ((r3.cell (b := w.heap.size) (j := 0) r5 r6 (.int .u64 0)).cell (b := w.heap.size) (j := 1) r5 r6 (.int .u64 0)).cell (b := w.heap.size) (j := 2) r5 r6 (.slice none 0 0)
      clear x0 x1 x2 f0 f1 f2 S1 r1 r2 r3
      generalize ((w2.setCell ⟨w.heap.size, 0, none⟩ (.int .u64 0)).setCell ⟨w.heap.size, 1, none⟩ (.int .u64 0)).setCell ⟨w.heap.size, 2, none⟩ (.slice none 0 0) = wf at *
      have z0 : wf.cell? ⟨w.heap.size, 0, none⟩ = some (.int .u64 0) := hH.cell 0
      have z1 : wf.cell? ⟨w.heap.size, 1, none⟩ = some (.int .u64 0) := hH.cell 1
      have z2 : wf.cell? ⟨w.heap.size, 2, none⟩ = some (.slice none 0 0) := hH.cell 2
      refine bodyPost_ret (v := .tuple #[.agg #[.int .u64 0, .int .u64 0, .slice none 0 0], .int .i64 50]) ?_ rfl ⟨v, hb, .inr (.inr ⟨rfl, r7, hS, rfl⟩)⟩
      simp [results, Tryd.f18, go_sem, z0, z1, z2]
  · have hE' : (E != 0) = true := by simp [hE]
    have x0 : w1.cell? ⟨w.heap.size, 0, none⟩ = some (.int .u64 0) := hR1.cell 0
    have x1 : w1.cell? ⟨w.heap.size, 1, none⟩ = some (.int .u64 0) := hR1.cell 1
    have x2 : w1.cell? ⟨w.heap.size, 2, none⟩ = some (.slice none 0 0) := hR1.cell 2
    have f0 := hR1.frozen 0
    have f1 := hR1.frozen 1
    have f2 := hR1.frozen 2
    have hv : ∀ b, v0.ownBlock ≠ some b := fun b e => by rw [a5] at e; cases e
    have S0 : Aside (Below B w w1 ∧ Has w1 w.heap.size #[.int .u64 0, .int .u64 0, .slice none 0 0] 42 ∧ SPY w1 B sb R [] v0 ∧ B ≤ w.heap.size ∧ w.heap.size ≠ sb ∧ ¬ E = 0 ∧ ∀ b, v0.ownBlock ≠ some b) := ⟨hbw.mono a3, hR1, hS1, a3, by omega, hE, hv⟩
    clear hR hb0 hs0 hrow hb a1 a2 a3 a4 a5 hbw hR1 hS1 hsb hsz HA hE hv
    go_wp2
    obtain ⟨r1, r2, r3, r4, r5, r6, r7⟩ := S0.out
    have hH := ((r2.set 0 (.int .u64 0)).set 1 (.int .u64 0)).set 2 (.slice none 0 0)
    have hb := ((r1.setCell (p := ⟨w.heap.size, 0, none⟩) r4 (.int .u64 0)).setCell (p := ⟨w.heap.size, 1, none⟩) r4 (.int .u64 0)).setCell (p := ⟨w.heap.size, 2, none⟩) r4 (.slice none 0 0)
    have hS := ((r3.cell (b := w.heap.size) (j := 0) r5 (r7 _) (.int .u64 0)).cell (b := w.heap.size) (j := 1) r5 (r7 _) (.int .u64 0)).cell (b := w.heap.size) (j := 2) r5 (r7 _) (.slice none 0 0)
    clear x0 x1 x2 f0 f1 f2 S0 r1 r2 r3
    generalize ((w1.setCell ⟨w.heap.size, 0, none⟩ (.int .u64 0)).setCell ⟨w.heap.size, 1, none⟩ (.int .u64 0)).setCell ⟨w.heap.size, 2, none⟩ (.slice none 0 0) = wf at *
    have z0 : wf.cell? ⟨w.heap.size, 0, none⟩ = some (.int .u64 0) := hH.cell 0
    have z1 : wf.cell? ⟨w.heap.size, 1, none⟩ = some (.int .u64 0) := hH.cell 1
    have z2 : wf.cell? ⟨w.heap.size, 2, none⟩ = some (.slice none 0 0) := hH.cell 2
    refine bodyPost_ret (v := .tuple #[.agg #[.int .u64 0, .int .u64 0, .slice none 0 0], .int .i64 E]) ?_ rfl ⟨v0, hb, .inl ⟨r6, hS, rfl⟩⟩
    simp [results, Tryd.f18, go_sem, z0, z1, z2]
end Go.Proofs.YtddmfpiflnjmjaaDoor
