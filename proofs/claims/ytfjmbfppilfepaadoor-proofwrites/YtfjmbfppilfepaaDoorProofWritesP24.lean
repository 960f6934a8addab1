/- Texts of ProofWrites, one behind the other: ProofReaders, ProofDecodePlain, ProofInTurn. -/
import Derived.Test.YtfjmbfppilfepaaDoorProofWritesP23
/- What the parts of the two readers of package proof answer. -/
namespace Go.Proofs.YtfjmbfppilfepaaDoor
open Go.RowKit
set_option maxRecDepth 100000

theorem mkind_ok (rb : Nat) (w : World) (E : Int) (D : World → Prop) (c : Calls Tryd.prog 59 #[.pointer (some ⟨rb, 0, none⟩), .int .u8 77] w fun e w' => e = .returned (.int .i64 E) ∧ D w') :
    Calls Tryd.prog 33 #[.pointer (some ⟨rb, 0, none⟩)] w fun e w' => e = .returned (.int .i64 E) ∧ D w' := by
  go_enter Tryd.func33, Tryd.ntmps33
  go_wp2_with fail
  refine c.mono ?_
  rintro e w' ⟨rfl, h⟩
  clear c
  go_wp2
  go_ret
  exact ⟨rfl, h⟩
theorem pkind_ok (rb : Nat) (w : World) (E : Int) (D : World → Prop) (c : Calls Tryd.prog 59 #[.pointer (some ⟨rb, 0, none⟩), .int .u8 80] w fun e w' => e = .returned (.int .i64 E) ∧ D w') :
    Calls Tryd.prog 38 #[.pointer (some ⟨rb, 0, none⟩)] w fun e w' => e = .returned (.int .i64 E) ∧ D w' := by
  go_enter Tryd.func38, Tryd.ntmps38
  go_wp2_with fail
  refine c.mono ?_
  rintro e w' ⟨rfl, h⟩
  clear c
  go_wp2
  go_ret
  exact ⟨rfl, h⟩
theorem mindex_ok (rb : Nat) (w : World) (E : Int) (D : World → Prop) (c : Calls Tryd.prog 60 #[.pointer (some ⟨rb, 0, none⟩), .pointer (some ⟨rb, 2, none⟩)] w.drew fun e w' => e = .returned (.int .i64 E) ∧ D w') :
    Calls Tryd.prog 35 #[.pointer (some ⟨rb, 0, none⟩)] w fun e w' => e = .returned (.int .i64 E) ∧ D w' := by
  go_enter Tryd.func35, Tryd.ntmps35
  go_wp2
  go_region_with ((go_at_call 60; refine c.mono ?_; rintro e w' ⟨rfl, h⟩))
  all_goals go_wp2
  all_goals go_ret
  all_goals exact ⟨rfl, h⟩
theorem pfrom_ok (rb : Nat) (w : World) (E : Int) (D : World → Prop) (c : Calls Tryd.prog 60 #[.pointer (some ⟨rb, 0, none⟩), .pointer (some ⟨rb, 1, none⟩)] w.drew fun e w' => e = .returned (.int .i64 E) ∧ D w') :
    Calls Tryd.prog 39 #[.pointer (some ⟨rb, 0, none⟩)] w fun e w' => e = .returned (.int .i64 E) ∧ D w' := by
  go_enter Tryd.func39, Tryd.ntmps39
  go_wp2
  go_region_with ((go_at_call 60; refine c.mono ?_; rintro e w' ⟨rfl, h⟩))
  all_goals go_wp2
  all_goals go_ret
  all_goals exact ⟨rfl, h⟩
theorem psize_ok (rb : Nat) (w : World) (E : Int) (D : World → Prop) (c : Calls Tryd.prog 60 #[.pointer (some ⟨rb, 0, none⟩), .pointer (some ⟨rb, 2, none⟩)] w.drew fun e w' => e = .returned (.int .i64 E) ∧ D w') :
    Calls Tryd.prog 40 #[.pointer (some ⟨rb, 0, none⟩)] w fun e w' => e = .returned (.int .i64 E) ∧ D w' := by
  go_enter Tryd.func40, Tryd.ntmps40
  go_wp2
  go_region_with ((go_at_call 60; refine c.mono ?_; rintro e w' ⟨rfl, h⟩))
  all_goals go_wp2
  all_goals go_ret
  all_goals exact ⟨rfl, h⟩
theorem msize_err (rb : Nat) (w : World) (E : Int) (hE : ¬ E = 0) (D : World → Prop) (c : Calls Tryd.prog 60 #[.pointer (some ⟨rb, 0, none⟩), .pointer (some ⟨rb, 1, none⟩)] w.drew fun e w' => e = .returned (.int .i64 E) ∧ D w') :
    Calls Tryd.prog 34 #[.pointer (some ⟨rb, 0, none⟩)] w fun e w' => e = .returned (.int .i64 E) ∧ D w' := by
  have hE' : (E == 0) = false := by simp [hE]
  go_enter Tryd.func34, Tryd.ntmps34
  go_wp2
  go_region_with ((go_at_call 60; refine c.mono ?_; rintro e w' ⟨rfl, h⟩))
  all_goals go_wp2
  all_goals go_ret
  all_goals exact ⟨rfl, h⟩
theorem msize_big (rb : Nat) (w : World) (X : Int) (hX : 4611686018427387904 < X) (D : World → Prop) (c : Calls Tryd.prog 60 #[.pointer (some ⟨rb, 0, none⟩), .pointer (some ⟨rb, 1, none⟩)] w.drew fun e w' => e = .returned (.int .i64 0) ∧ w'.cell? ⟨rb, 1, none⟩ = some (.int .u64 X) ∧ D w') :
    Calls Tryd.prog 34 #[.pointer (some ⟨rb, 0, none⟩)] w fun e w' => e = .returned (.int .i64 30) ∧ D w' := by
  go_enter Tryd.func34, Tryd.ntmps34
  go_wp2
  go_region_with ((go_at_call 60; refine c.mono ?_; rintro e w' ⟨rfl, hc, h⟩))
  all_goals go_wp2
  all_goals go_ret
  all_goals exact ⟨rfl, h⟩
theorem msize_ok (rb : Nat) (w : World) (X : Int) (hX : ¬ 4611686018427387904 < X) (D : World → Prop) (c : Calls Tryd.prog 60 #[.pointer (some ⟨rb, 0, none⟩), .pointer (some ⟨rb, 1, none⟩)] w.drew fun e w' => e = .returned (.int .i64 0) ∧ w'.cell? ⟨rb, 1, none⟩ = some (.int .u64 X) ∧ D w') :
    Calls Tryd.prog 34 #[.pointer (some ⟨rb, 0, none⟩)] w fun e w' => e = .returned (.int .i64 0) ∧ D w' := by
  go_enter Tryd.func34, Tryd.ntmps34
  go_wp2
  go_region_with ((go_at_call 60; refine c.mono ?_; rintro e w' ⟨rfl, hc, h⟩))
  all_goals go_wp2
  all_goals go_ret
  all_goals exact ⟨rfl, h⟩
set_option maxHeartbeats 4000000 in
theorem mnodes_err (rb : Nat) (w : World) (X Y E : Int) (hE : ¬ E = 0) (D : World → Prop) (h1 : w.cell? ⟨rb, 1, none⟩ = some (.int .u64 X)) (h2 : w.cell? ⟨rb, 2, none⟩ = some (.int .u64 Y))
    (c : Calls Tryd.prog 30 #[.int .u64 Y, .int .u64 X] w.drew fun e w' => ∃ v, e = .returned (.tuple #[v, .int .i64 E]) ∧ D w') :
    Calls Tryd.prog 36 #[.pointer (some ⟨rb, 0, none⟩)] w fun e w' => e = .returned (.int .i64 E) ∧ D w' := by
  have hE' : (E != 0) = true := by simp [hE]
  have d1 : w.drew.cell? ⟨rb, 1, none⟩ = some (.int .u64 X) := h1
  have d2 : w.drew.cell? ⟨rb, 2, none⟩ = some (.int .u64 Y) := h2
  go_enter Tryd.func36, Tryd.ntmps36
  go_wp2
  go_region_with ((go_at_call 30; refine c.mono ?_; rintro e w' ⟨v, rfl, h⟩))
  all_goals go_wp2
  all_goals go_ret
  all_goals exact ⟨rfl, h⟩
set_option maxHeartbeats 4000000 in
theorem mnodes_ok (rb : Nat) (w : World) (X Y E : Int) (N : Nat) (D : World → Prop) (h1 : w.cell? ⟨rb, 1, none⟩ = some (.int .u64 X)) (h2 : w.cell? ⟨rb, 2, none⟩ = some (.int .u64 Y))
    (c : Calls Tryd.prog 30 #[.int .u64 Y, .int .u64 X] w.drew fun e w' => ∃ a cap, e = .returned (.tuple #[.slice a N cap, .int .i64 0]) ∧ Calls Tryd.prog 61 #[.pointer (some ⟨rb, 0, none⟩), .pointer (some ⟨rb, 3, none⟩), .int .i64 (N : Int)] w'.drew fun e w2 => e = .returned (.int .i64 E) ∧ D w2) :
    Calls Tryd.prog 36 #[.pointer (some ⟨rb, 0, none⟩)] w fun e w' => e = .returned (.int .i64 E) ∧ D w' := by
  have d1 : w.drew.cell? ⟨rb, 1, none⟩ = some (.int .u64 X) := h1
  have d2 : w.drew.cell? ⟨rb, 2, none⟩ = some (.int .u64 Y) := h2
  go_enter Tryd.func36, Tryd.ntmps36
  go_wp2
  go_region_with ((go_at_call 30; refine c.mono ?_; rintro e w' ⟨a, cap, rfl, h⟩))
  all_goals go_wp2
  all_goals go_region_with ((go_at_call 61; refine h.mono ?_; rintro e w2 ⟨rfl, h⟩))
  all_goals go_wp2
  all_goals go_ret
  all_goals exact ⟨rfl, h⟩
set_option maxHeartbeats 4000000 in
theorem pnodes_err (rb : Nat) (w : World) (X Y E : Int) (hE : ¬ E = 0) (D : World → Prop) (h1 : w.cell? ⟨rb, 1, none⟩ = some (.int .u64 X)) (h2 : w.cell? ⟨rb, 2, none⟩ = some (.int .u64 Y))
    (c : Calls Tryd.prog 37 #[.int .u64 X, .int .u64 Y] w.drew fun e w' => ∃ v, e = .returned (.tuple #[v, .int .i64 E]) ∧ D w') :
    Calls Tryd.prog 41 #[.pointer (some ⟨rb, 0, none⟩)] w fun e w' => e = .returned (.int .i64 E) ∧ D w' := by
  have hE' : (E != 0) = true := by simp [hE]
  have d1 : w.drew.cell? ⟨rb, 1, none⟩ = some (.int .u64 X) := h1
  have d2 : w.drew.cell? ⟨rb, 2, none⟩ = some (.int .u64 Y) := h2
  go_enter Tryd.func41, Tryd.ntmps41
  go_wp2
  go_region_with ((go_at_call 37; refine c.mono ?_; rintro e w' ⟨v, rfl, h⟩))
  all_goals go_wp2
  all_goals go_ret
  all_goals exact ⟨rfl, h⟩
set_option maxHeartbeats 4000000 in
theorem pnodes_ok (rb : Nat) (w : World) (X Y E : Int) (N : Nat) (D : World → Prop) (h1 : w.cell? ⟨rb, 1, none⟩ = some (.int .u64 X)) (h2 : w.cell? ⟨rb, 2, none⟩ = some (.int .u64 Y))
    (c : Calls Tryd.prog 37 #[.int .u64 X, .int .u64 Y] w.drew fun e w' => ∃ a cap, e = .returned (.tuple #[.slice a N cap, .int .i64 0]) ∧ Calls Tryd.prog 61 #[.pointer (some ⟨rb, 0, none⟩), .pointer (some ⟨rb, 3, none⟩), .int .i64 (N : Int)] w'.drew fun e w2 => e = .returned (.int .i64 E) ∧ D w2) :
    Calls Tryd.prog 41 #[.pointer (some ⟨rb, 0, none⟩)] w fun e w' => e = .returned (.int .i64 E) ∧ D w' := by
  have d1 : w.drew.cell? ⟨rb, 1, none⟩ = some (.int .u64 X) := h1
  have d2 : w.drew.cell? ⟨rb, 2, none⟩ = some (.int .u64 Y) := h2
  go_enter Tryd.func41, Tryd.ntmps41
  go_wp2
  go_region_with ((go_at_call 37; refine c.mono ?_; rintro e w' ⟨a, cap, rfl, h⟩))
  all_goals go_wp2
  all_goals go_region_with ((go_at_call 61; refine h.mono ?_; rintro e w2 ⟨rfl, h⟩))
  all_goals go_wp2
  all_goals go_ret
  all_goals exact ⟨rfl, h⟩
end Go.Proofs.YtfjmbfppilfepaaDoor

/- What Decode and DecodePrefix answer, of any bytes. -/
namespace Go.Proofs.YtfjmbfppilfepaaDoor
open Go.RowKit

/-- a number in front of bytes: it, how many bytes it has, or what is wrong. -/
def LNG (t : List Int) : Int × Int × Int := LG t t.length 10 0 0
/-- an error, two numbers, how many nodes, their bytes. -/
abbrev DANS := Int × Nat × Nat × Nat × List Int
def DERR (E : Int) : DANS := (E, 0, 0, 0, [])
/-- the nodes, behind the numbers X and Y; PF: how many there are to be. -/
def DC3 (PF : Nat → Nat → Int × List Nat) (X Y : Nat) (t : List Int) : DANS :=
  if (PF X Y).1 ≠ 0 then DERR (PF X Y).1 else if t.length < 32 * (PF X Y).2.length then DERR 11 else if 32 * (PF X Y).2.length < t.length then DERR 13 else (0, X, Y, (PF X Y).2.length, t)
/-- the second number. -/
def DC2 (PF : Nat → Nat → Int × List Nat) (X : Nat) (t : List Int) : DANS :=
  if (LNG t).2.2 ≠ 0 then DERR (LNG t).2.2 else DC3 PF X (LNG t).1.toNat (t.drop (LNG t).2.1.toNat)
/-- the first number; chk: is it too great? -/
def DC1 (chk : Nat → Bool) (PF : Nat → Nat → Int × List Nat) (t : List Int) : DANS :=
  if (LNG t).2.2 ≠ 0 then DERR (LNG t).2.2 else if chk (LNG t).1.toNat = true then DERR 30 else DC2 PF (LNG t).1.toNat (t.drop (LNG t).2.1.toNat)
/-- the mark. -/
def DC0 (K : Int) (chk : Nat → Bool) (PF : Nat → Nat → Int × List Nat) (l : List Int) : DANS :=
  if l.length = 0 then DERR 11 else if l.getD 0 0 ≠ K then DERR 14 else DC1 chk PF (l.drop 1)
def TOOBIG (n : Nat) : Bool := decide (4611686018427387904 < n)
/-- what Decode answers. -/
def DEC (l : List Int) : DANS := DC0 77 TOOBIG (fun S I => PLA I S) l
/-- what DecodePrefix answers. -/
def DEX (l : List Int) : DANS := DC0 80 (fun _ => false) PPA l
theorem LNG_back {t : List Int} (hr : ∀ x ∈ t, 0 ≤ x ∧ x ≤ 255) (h : (LNG t).2.2 = 0) : ∃ Z m : Nat, Z < 2 ^ 64 ∧ 1 ≤ m ∧ m ≤ t.length ∧ LNG t = ((Z : Int), (m : Int), 0) ∧ SHORT Z = t.take m := by
  have hr' : ∀ i, 0 ≤ t.getD i 0 ∧ t.getD i 0 ≤ 255 := fun i => by
    by_cases hi : i < t.length
    · rw [List.getD_eq_getElem?_getD, List.getElem?_eq_getElem hi]
      exact hr _ (List.getElem_mem hi)
    · rw [List.getD_eq_getElem?_getD, List.getElem?_eq_none (by omega)]
      simp
  obtain ⟨Z, m, h1, h2, h3, h4, h5, h6⟩ := LG_back (l := t) rfl hr' h
  exact ⟨Z, m + 1, h1, by omega, by omega, by unfold LNG; rw [h4]; simp, h6⟩
theorem LNG_SHORT {X : Nat} (hX : X < 2 ^ 64) (more : List Int) : LNG (SHORT X ++ more) = ((X : Int), ((NTOP X + 1 : Nat) : Int), 0) := by
  unfold LNG
  rw [LG_SHORT hX more _ (by rw [List.length_append, SHORT_length])]
  simp
end Go.Proofs.YtfjmbfppilfepaaDoor

/- Part by part: what inTurn answers, of the parts of either reader. -/
namespace Go.Proofs.YtfjmbfppilfepaaDoor
open Go.RowKit
set_option maxRecDepth 100000

/-- a part was read, and P holds; or it was refused, and Fin holds. -/
def STP (P : World → Prop) (Fin : Int → World → Prop) (e : Ending) (w' : World) : Prop := ∃ E : Int, e = .returned (.int .i64 E) ∧ (E = 0 → P w') ∧ (E ≠ 0 → Fin E w')
set_option maxHeartbeats 2000000 in
theorem memberinturn_ok (rb gl : Nat) (PP : Nat → World → Prop) (Fin : Int → World → Prop)
    (hc0 : ∀ W, PP 0 W → W.cell? ⟨gl, 0, none⟩ = some (.func (.func 33) #[.pointer (some ⟨rb, 0, none⟩)] #[]))
    (hc1 : ∀ W, PP 1 W → W.cell? ⟨gl, 1, none⟩ = some (.func (.func 34) #[.pointer (some ⟨rb, 0, none⟩)] #[]))
    (hc2 : ∀ W, PP 2 W → W.cell? ⟨gl, 2, none⟩ = some (.func (.func 35) #[.pointer (some ⟨rb, 0, none⟩)] #[]))
    (hc3 : ∀ W, PP 3 W → W.cell? ⟨gl, 3, none⟩ = some (.func (.func 36) #[.pointer (some ⟨rb, 0, none⟩)] #[]))
    (hd0 : ∀ W, PP 0 W → Calls Tryd.prog 33 #[.pointer (some ⟨rb, 0, none⟩)] W (STP (PP 1) Fin))
    (hd1 : ∀ W, PP 1 W → Calls Tryd.prog 34 #[.pointer (some ⟨rb, 0, none⟩)] W (STP (PP 2) Fin))
    (hd2 : ∀ W, PP 2 W → Calls Tryd.prog 35 #[.pointer (some ⟨rb, 0, none⟩)] W (STP (PP 3) Fin))
    (hd3 : ∀ W, PP 3 W → Calls Tryd.prog 36 #[.pointer (some ⟨rb, 0, none⟩)] W (STP (PP 4) Fin))
    (w : World) (h : PP 0 w) : Calls Tryd.prog 32 #[.slice (some ⟨gl, 0, none⟩) 4 4] w (STP (PP 4) Fin) := by
  have C0 : Aside (∀ W, PP 0 W → W.cell? ⟨gl, 0, none⟩ = some (.func (.func 33) #[.pointer (some ⟨rb, 0, none⟩)] #[])) := hc0
  have D0 : Aside (∀ W, PP 0 W → Calls Tryd.prog 33 #[.pointer (some ⟨rb, 0, none⟩)] W (STP (PP 1) Fin)) := hd0
  have C1 : Aside (∀ W, PP 1 W → W.cell? ⟨gl, 1, none⟩ = some (.func (.func 34) #[.pointer (some ⟨rb, 0, none⟩)] #[])) := hc1
  have D1 : Aside (∀ W, PP 1 W → Calls Tryd.prog 34 #[.pointer (some ⟨rb, 0, none⟩)] W (STP (PP 2) Fin)) := hd1
  have C2 : Aside (∀ W, PP 2 W → W.cell? ⟨gl, 2, none⟩ = some (.func (.func 35) #[.pointer (some ⟨rb, 0, none⟩)] #[])) := hc2
  have D2 : Aside (∀ W, PP 2 W → Calls Tryd.prog 35 #[.pointer (some ⟨rb, 0, none⟩)] W (STP (PP 3) Fin)) := hd2
  have C3 : Aside (∀ W, PP 3 W → W.cell? ⟨gl, 3, none⟩ = some (.func (.func 36) #[.pointer (some ⟨rb, 0, none⟩)] #[])) := hc3
  have D3 : Aside (∀ W, PP 3 W → Calls Tryd.prog 36 #[.pointer (some ⟨rb, 0, none⟩)] W (STP (PP 4) Fin)) := hd3
  have H0 : Aside (PP 0 w) := h
  clear hc0 hc1 hc2 hc3 hd0 hd1 hd2 hd3 h
  go_enter Tryd.func32, Tryd.ntmps32
  go_wp2
  go_loopg [8] 4 (fun q s8 wx => ∃ k : Nat, s8 = .int .i64 (k : Int) ∧ Aside (k + q = 4 ∧ PP k wx))
  case atStart => exact ⟨0, rfl, by omega, H0.out⟩
  case round =>
    obtain ⟨k, rfl, A⟩ := hrel
    cases gk with
    | zero =>
      obtain rfl : k = 4 := by have := A.out.1; omega
      have R : Aside (PP 4 wr) := A.out.2
      clear A C0 C1 C2 C3 D0 D1 D2 D3 H0
      go_wp2
      go_ret
      exact ⟨0, rfl, fun _ => R.out, fun h => absurd rfl h⟩
    | succ q =>
      have hk : k = 0 ∨ k = 1 ∨ k = 2 ∨ k = 3 := by have := A.out.1; omega
      rcases hk with rfl | rfl | rfl | rfl
      · have hc := C0.out wr A.out.2
        have hd := D0.out wr A.out.2
        have R : Aside (0 + 1 + q = 4) := by have := A.out.1; show 0 + 1 + q = 4; omega
        clear A C0 C1 C2 C3 D0 D1 D2 D3 H0
        go_wp2_with fail
        refine hd.mono ?_
        rintro e w1 ⟨E, rfl, h1, h2⟩
        clear hd hc
        by_cases hE : E = 0
        · subst hE
          have S : Aside (PP (0 + 1) w1) := h1 rfl
          clear h1 h2
          go_wp2
          go_roundg q
          case measure => exact Nat.lt_succ_self _
          case rel => exact ⟨0 + 1, rfl, R.out, S.out⟩
        · have hE' : (E != 0) = true := by simp [hE]
          have S : Aside (¬ E = 0 ∧ Fin E w1) := ⟨hE, h2 hE⟩
          clear h1 h2 hE
          go_wp2
          go_ret
          exact ⟨E, rfl, fun h => absurd h S.out.1, fun _ => S.out.2⟩
      · have hc := C1.out wr A.out.2
        have hd := D1.out wr A.out.2
        have R : Aside (1 + 1 + q = 4) := by have := A.out.1; show 1 + 1 + q = 4; omega
        clear A C0 C1 C2 C3 D0 D1 D2 D3 H0
        go_wp2_with fail
        refine hd.mono ?_
        rintro e w1 ⟨E, rfl, h1, h2⟩
        clear hd hc
        by_cases hE : E = 0
        · subst hE
          have S : Aside (PP (1 + 1) w1) := h1 rfl
          clear h1 h2
          go_wp2
          go_roundg q
          case measure => exact Nat.lt_succ_self _
          case rel => exact ⟨1 + 1, rfl, R.out, S.out⟩
        · have hE' : (E != 0) = true := by simp [hE]
          have S : Aside (¬ E = 0 ∧ Fin E w1) := ⟨hE, h2 hE⟩
          clear h1 h2 hE
          go_wp2
          go_ret
          exact ⟨E, rfl, fun h => absurd h S.out.1, fun _ => S.out.2⟩
      · have hc := C2.out wr A.out.2
        have hd := D2.out wr A.out.2
        have R : Aside (2 + 1 + q = 4) := by have := A.out.1; show 2 + 1 + q = 4; omega
        clear A C0 C1 C2 C3 D0 D1 D2 D3 H0
        go_wp2_with fail
        refine hd.mono ?_
        rintro e w1 ⟨E, rfl, h1, h2⟩
        clear hd hc
        by_cases hE : E = 0
        · subst hE
          have S : Aside (PP (2 + 1) w1) := h1 rfl
          clear h1 h2
          go_wp2
          go_roundg q
          case measure => exact Nat.lt_succ_self _
          case rel => exact ⟨2 + 1, rfl, R.out, S.out⟩
        · have hE' : (E != 0) = true := by simp [hE]
          have S : Aside (¬ E = 0 ∧ Fin E w1) := ⟨hE, h2 hE⟩
          clear h1 h2 hE
          go_wp2
          go_ret
          exact ⟨E, rfl, fun h => absurd h S.out.1, fun _ => S.out.2⟩
      · have hc := C3.out wr A.out.2
        have hd := D3.out wr A.out.2
        have R : Aside (3 + 1 + q = 4) := by have := A.out.1; show 3 + 1 + q = 4; omega
        clear A C0 C1 C2 C3 D0 D1 D2 D3 H0
        go_wp2_with fail
        refine hd.mono ?_
        rintro e w1 ⟨E, rfl, h1, h2⟩
        clear hd hc
        by_cases hE : E = 0
        · subst hE
          have S : Aside (PP (3 + 1) w1) := h1 rfl
          clear h1 h2
          go_wp2
          go_roundg q
          case measure => exact Nat.lt_succ_self _
          case rel => exact ⟨3 + 1, rfl, R.out, S.out⟩
        · have hE' : (E != 0) = true := by simp [hE]
          have S : Aside (¬ E = 0 ∧ Fin E w1) := ⟨hE, h2 hE⟩
          clear h1 h2 hE
          go_wp2
          go_ret
          exact ⟨E, rfl, fun h => absurd h S.out.1, fun _ => S.out.2⟩
set_option maxHeartbeats 2000000 in
theorem prefixinturn_ok (rb gl : Nat) (PP : Nat → World → Prop) (Fin : Int → World → Prop)
    (hc0 : ∀ W, PP 0 W → W.cell? ⟨gl, 0, none⟩ = some (.func (.func 38) #[.pointer (some ⟨rb, 0, none⟩)] #[]))
    (hc1 : ∀ W, PP 1 W → W.cell? ⟨gl, 1, none⟩ = some (.func (.func 39) #[.pointer (some ⟨rb, 0, none⟩)] #[]))
    (hc2 : ∀ W, PP 2 W → W.cell? ⟨gl, 2, none⟩ = some (.func (.func 40) #[.pointer (some ⟨rb, 0, none⟩)] #[]))
    (hc3 : ∀ W, PP 3 W → W.cell? ⟨gl, 3, none⟩ = some (.func (.func 41) #[.pointer (some ⟨rb, 0, none⟩)] #[]))
    (hd0 : ∀ W, PP 0 W → Calls Tryd.prog 38 #[.pointer (some ⟨rb, 0, none⟩)] W (STP (PP 1) Fin))
    (hd1 : ∀ W, PP 1 W → Calls Tryd.prog 39 #[.pointer (some ⟨rb, 0, none⟩)] W (STP (PP 2) Fin))
    (hd2 : ∀ W, PP 2 W → Calls Tryd.prog 40 #[.pointer (some ⟨rb, 0, none⟩)] W (STP (PP 3) Fin))
    (hd3 : ∀ W, PP 3 W → Calls Tryd.prog 41 #[.pointer (some ⟨rb, 0, none⟩)] W (STP (PP 4) Fin))
    (w : World) (h : PP 0 w) : Calls Tryd.prog 32 #[.slice (some ⟨gl, 0, none⟩) 4 4] w (STP (PP 4) Fin) := by
  have C0 : Aside (∀ W, PP 0 W → W.cell? ⟨gl, 0, none⟩ = some (.func (.func 38) #[.pointer (some ⟨rb, 0, none⟩)] #[])) := hc0
  have D0 : Aside (∀ W, PP 0 W → Calls Tryd.prog 38 #[.pointer (some ⟨rb, 0, none⟩)] W (STP (PP 1) Fin)) := hd0
  have C1 : Aside (∀ W, PP 1 W → W.cell? ⟨gl, 1, none⟩ = some (.func (.func 39) #[.pointer (some ⟨rb, 0, none⟩)] #[])) := hc1
  have D1 : Aside (∀ W, PP 1 W → Calls Tryd.prog 39 #[.pointer (some ⟨rb, 0, none⟩)] W (STP (PP 2) Fin)) := hd1
  have C2 : Aside (∀ W, PP 2 W → W.cell? ⟨gl, 2, none⟩ = some (.func (.func 40) #[.pointer (some ⟨rb, 0, none⟩)] #[])) := hc2
  have D2 : Aside (∀ W, PP 2 W → Calls Tryd.prog 40 #[.pointer (some ⟨rb, 0, none⟩)] W (STP (PP 3) Fin)) := hd2
  have C3 : Aside (∀ W, PP 3 W → W.cell? ⟨gl, 3, none⟩ = some (.func (.func 41) #[.pointer (some ⟨rb, 0, none⟩)] #[])) := hc3
  have D3 : Aside (∀ W, PP 3 W → Calls Tryd.prog 41 #[.pointer (some ⟨rb, 0, none⟩)] W (STP (PP 4) Fin)) := hd3
  have H0 : Aside (PP 0 w) := h
  clear hc0 hc1 hc2 hc3 hd0 hd1 hd2 hd3 h
  go_enter Tryd.func32, Tryd.ntmps32
  go_wp2
  go_loopg [8] 4 (fun q s8 wx => ∃ k : Nat, s8 = .int .i64 (k : Int) ∧ Aside (k + q = 4 ∧ PP k wx))
  case atStart => exact ⟨0, rfl, by omega, H0.out⟩
  case round =>
    obtain ⟨k, rfl, A⟩ := hrel
    cases gk with
    | zero =>
      obtain rfl : k = 4 := by have := A.out.1; omega
      have R : Aside (PP 4 wr) := A.out.2
      clear A C0 C1 C2 C3 D0 D1 D2 D3 H0
      go_wp2
      go_ret
      exact ⟨0, rfl, fun _ => R.out, fun h => absurd rfl h⟩
    | succ q =>
      have hk : k = 0 ∨ k = 1 ∨ k = 2 ∨ k = 3 := by have := A.out.1; omega
      rcases hk with rfl | rfl | rfl | rfl
      · have hc := C0.out wr A.out.2
        have hd := D0.out wr A.out.2
        have R : Aside (0 + 1 + q = 4) := by have := A.out.1; show 0 + 1 + q = 4; omega
        clear A C0 C1 C2 C3 D0 D1 D2 D3 H0
        go_wp2_with fail
        refine hd.mono ?_
        rintro e w1 ⟨E, rfl, h1, h2⟩
        clear hd hc
        by_cases hE : E = 0
        · subst hE
          have S : Aside (PP (0 + 1) w1) := h1 rfl
          clear h1 h2
          go_wp2
          go_roundg q
          case measure => exact Nat.lt_succ_self _
          case rel => exact ⟨0 + 1, rfl, R.out, S.out⟩
        · have hE' : (E != 0) = true := by simp [hE]
          have S : Aside (¬ E = 0 ∧ Fin E w1) := ⟨hE, h2 hE⟩
          clear h1 h2 hE
          go_wp2
          go_ret
          exact ⟨E, rfl, fun h => absurd h S.out.1, fun _ => S.out.2⟩
      · have hc := C1.out wr A.out.2
        have hd := D1.out wr A.out.2
        have R : Aside (1 + 1 + q = 4) := by have := A.out.1; show 1 + 1 + q = 4; omega
        clear A C0 C1 C2 C3 D0 D1 D2 D3 H0
        go_wp2_with fail
        refine hd.mono ?_
        rintro e w1 ⟨E, rfl, h1, h2⟩
        clear hd hc
        by_cases hE : E = 0
        · subst hE
          have S : Aside (PP (1 + 1) w1) := h1 rfl
          clear h1 h2
          go_wp2
          go_roundg q
          case measure => exact Nat.lt_succ_self _
          case rel => exact ⟨1 + 1, rfl, R.out, S.out⟩
        · have hE' : (E != 0) = true := by simp [hE]
          have S : Aside (¬ E = 0 ∧ Fin E w1) := ⟨hE, h2 hE⟩
          clear h1 h2 hE
          go_wp2
          go_ret
          exact ⟨E, rfl, fun h => absurd h S.out.1, fun _ => S.out.2⟩
      · have hc := C2.out wr A.out.2
        have hd := D2.out wr A.out.2
        have R : Aside (2 + 1 + q = 4) := by have := A.out.1; show 2 + 1 + q = 4; omega
        clear A C0 C1 C2 C3 D0 D1 D2 D3 H0
        go_wp2_with fail
        refine hd.mono ?_
        rintro e w1 ⟨E, rfl, h1, h2⟩
        clear hd hc
        by_cases hE : E = 0
        · subst hE
          have S : Aside (PP (2 + 1) w1) := h1 rfl
          clear h1 h2
          go_wp2
          go_roundg q
          case measure => exact Nat.lt_succ_self _
          case rel => exact ⟨2 + 1, rfl, R.out, S.out⟩
        · have hE' : (E != 0) = true := by simp [hE]
          have S : Aside (¬ E = 0 ∧ Fin E w1) := ⟨hE, h2 hE⟩
          clear h1 h2 hE
          go_wp2
          go_ret
          exact ⟨E, rfl, fun h => absurd h S.out.1, fun _ => S.out.2⟩
      · have hc := C3.out wr A.out.2
        have hd := D3.out wr A.out.2
        have R : Aside (3 + 1 + q = 4) := by have := A.out.1; show 3 + 1 + q = 4; omega
        clear A C0 C1 C2 C3 D0 D1 D2 D3 H0
        go_wp2_with fail
        refine hd.mono ?_
        rintro e w1 ⟨E, rfl, h1, h2⟩
        clear hd hc
        by_cases hE : E = 0
        · subst hE
          have S : Aside (PP (3 + 1) w1) := h1 rfl
          clear h1 h2
          go_wp2
          go_roundg q
          case measure => exact Nat.lt_succ_self _
          case rel => exact ⟨3 + 1, rfl, R.out, S.out⟩
        · have hE' : (E != 0) = true := by simp [hE]
          have S : Aside (¬ E = 0 ∧ Fin E w1) := ⟨hE, h2 hE⟩
          clear h1 h2 hE
          go_wp2
          go_ret
          exact ⟨E, rfl, fun h => absurd h S.out.1, fun _ => S.out.2⟩
end Go.Proofs.YtfjmbfppilfepaaDoor
