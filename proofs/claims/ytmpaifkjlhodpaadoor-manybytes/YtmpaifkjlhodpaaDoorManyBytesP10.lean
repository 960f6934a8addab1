/- Texts of ManyBytes, one behind the other: ProofDecodePlain, ProofInTurn, ProofSteps, ManySearch, ManyPlain, ManySplit, ManyRise. -/
import Derived.BigQuiet
import Derived.Deep.Cut
import Derived.WalkLawsBesides
import Derived.Test.YtmpaifkjlhodpaaDoorManyBytesP6
import Derived.Test.YtmpaifkjlhodpaaDoorManyBytesP7
import Derived.Test.YtmpaifkjlhodpaaDoorManyBytesP9
/- What Decode and DecodePrefix answer, of any bytes. -/
namespace Go.Proofs.YtmpaifkjlhodpaaDoor
open Go.RowKit

/-- a number in front of bytes: it, how many bytes it has, or what is wrong. -/
def LNG (t : List Int) : Int × Int × Int := LG t t.length 10 0 0
/-- an error, two numbers, how many nodes, their bytes. -/
abbrev DANS := Int × Nat × Nat × Nat × List Int
def DERR (E : Int) : DANS := (E, 0, 0, 0, [])
/-- the nodes, behind the numbers X and Y; PF: how many there are to be. -/
def DC3 (PF : Nat → Nat → Int × List Nat) (X Y : Nat) (t : List Int) : DANS :=
  if (PF X Y).1 ≠ 0 then DERR (PF X Y).1 else if t.length < 32 * (PF X Y).2.length then DERR 11 else if 32 * (PF X Y).2.length < t.length then DERR 13 else (0, X, Y, (PF X Y).2.length, t)
/-- the second number. -/
def DC2 (PF : Nat → Nat → Int × List Nat) (X : Nat) (t : List Int) : DANS :=
  if (LNG t).2.2 ≠ 0 then DERR (LNG t).2.2 else DC3 PF X (LNG t).1.toNat (t.drop (LNG t).2.1.toNat)
/-- the first number; chk: is it too great? -/
def DC1 (chk : Nat → Bool) (PF : Nat → Nat → Int × List Nat) (t : List Int) : DANS :=
  if (LNG t).2.2 ≠ 0 then DERR (LNG t).2.2 else if chk (LNG t).1.toNat = true then DERR 30 else DC2 PF (LNG t).1.toNat (t.drop (LNG t).2.1.toNat)
/-- the mark. -/
def DC0 (K : Int) (chk : Nat → Bool) (PF : Nat → Nat → Int × List Nat) (l : List Int) : DANS :=
  if l.length = 0 then DERR 11 else if l.getD 0 0 ≠ K then DERR 14 else DC1 chk PF (l.drop 1)
def TOOBIG (n : Nat) : Bool := decide (4611686018427387904 < n)
/-- what Decode answers. -/
def DEC (l : List Int) : DANS := DC0 77 TOOBIG (fun S I => PLA I S) l
/-- what DecodePrefix answers. -/
def DEX (l : List Int) : DANS := DC0 80 (fun _ => false) PPA l
theorem LNG_back {t : List Int} (hr : ∀ x ∈ t, 0 ≤ x ∧ x ≤ 255) (h : (LNG t).2.2 = 0) : ∃ Z m : Nat, Z < 2 ^ 64 ∧ 1 ≤ m ∧ m ≤ t.length ∧ LNG t = ((Z : Int), (m : Int), 0) ∧ SHORT Z = t.take m := by
  have hr' : ∀ i, 0 ≤ t.getD i 0 ∧ t.getD i 0 ≤ 255 := fun i => by
    by_cases hi : i < t.length
    · rw [List.getD_eq_getElem?_getD, List.getElem?_eq_getElem hi]
      exact hr _ (List.getElem_mem hi)
    · rw [List.getD_eq_getElem?_getD, List.getElem?_eq_none (by omega)]
      simp
  obtain ⟨Z, m, h1, h2, h3, h4, h5, h6⟩ := LG_back (l := t) rfl hr' h
  exact ⟨Z, m + 1, h1, by omega, by omega, by unfold LNG; rw [h4]; simp, h6⟩
theorem LNG_SHORT {X : Nat} (hX : X < 2 ^ 64) (more : List Int) : LNG (SHORT X ++ more) = ((X : Int), ((NTOP X + 1 : Nat) : Int), 0) := by
  unfold LNG
  rw [LG_SHORT hX more _ (by rw [List.length_append, SHORT_length])]
  simp
end Go.Proofs.YtmpaifkjlhodpaaDoor

/- Part by part: what inTurn answers, of the parts of either reader. -/
namespace Go.Proofs.YtmpaifkjlhodpaaDoor
open Go.RowKit
set_option maxRecDepth 100000

/-- a part was read, and P holds; or it was refused, and Fin holds. -/
def STP (P : World → Prop) (Fin : Int → World → Prop) (e : Ending) (w' : World) : Prop := ∃ E : Int, e = .returned (.int .i64 E) ∧ (E = 0 → P w') ∧ (E ≠ 0 → Fin E w')
end Go.Proofs.YtmpaifkjlhodpaaDoor

/- What a reader has behind each part. -/
namespace Go.Proofs.YtmpaifkjlhodpaaDoor
open Go.RowKit
set_option maxRecDepth 100000

/-- a reader's cells: what is left, two numbers, the nodes. -/
def RCELLS (v : Value) (X Y : Nat) (nv : Value) : Array Value := #[v, .int .u64 (X : Int), .int .u64 (Y : Int), nv]
/-- the reader and the list of its parts lie there; what was there before is as it was. -/
structure FRM (w0 w : World) (rb gl : Nat) (t : TypeId) (v : Value) (X Y : Nat) (nv : Value) (fl : Array Value) (tf : TypeId) : Prop where
  bel : Below w0.heap.size w0 w
  rd : Has w rb (RCELLS v X Y nv) t
  fl : Has w gl fl tf
  ne : gl ≠ rb
  lb : w0.heap.size ≤ rb
  lg : w0.heap.size ≤ gl
/-- the bytes that are left lie there. -/
def SRC (w0 : World) (a : Option Addr) (c : Nat) (t : List Int) : Prop := Bytes w0 a t.length t ∧ t.length ≤ c ∧ t.length ≤ 1000000
theorem FRM.drew {w0 w : World} {rb gl : Nat} {t : TypeId} {v : Value} {X Y : Nat} {nv : Value} {fl : Array Value} {tf : TypeId} (h : FRM w0 w rb gl t v X Y nv fl tf) : FRM w0 w.drew rb gl t v X Y nv fl tf := ⟨h.bel.drew, h.rd, h.fl, h.ne, h.lb, h.lg⟩
theorem FRM.keep {w0 w w' : World} {rb gl : Nat} {t : TypeId} {v : Value} {X Y : Nat} {nv : Value} {fl : Array Value} {tf : TypeId} (h : FRM w0 w rb gl t v X Y nv fl tf) (hb : Below w.heap.size w w') : FRM w0 w' rb gl t v X Y nv fl tf := ⟨h.bel.trans (hb.mono h.bel.size), h.rd.keep hb, h.fl.keep hb, h.ne, h.lb, h.lg⟩
theorem FRM.rest {w0 w : World} {rb gl : Nat} {t : TypeId} {v : Value} {X Y : Nat} {nv : Value} {fl : Array Value} {tf : TypeId} (h : FRM w0 w rb gl t v X Y nv fl tf) (v' : Value) : FRM w0 (w.setCell ⟨rb, 0, none⟩ v') rb gl t v' X Y nv fl tf :=
  ⟨h.bel.setCell (p := ⟨rb, 0, none⟩) h.lb _, h.rd.set 0 v', h.fl.other (a := ⟨rb, 0, none⟩) h.ne _, h.ne, h.lb, h.lg⟩
theorem FRM.first {w0 w : World} {rb gl : Nat} {t : TypeId} {v : Value} {X Y : Nat} {nv : Value} {fl : Array Value} {tf : TypeId} (h : FRM w0 w rb gl t v X Y nv fl tf) (Z : Nat) : FRM w0 (w.setCell ⟨rb, 1, none⟩ (.int .u64 (Z : Int))) rb gl t v Z Y nv fl tf :=
  ⟨h.bel.setCell (p := ⟨rb, 1, none⟩) h.lb _, h.rd.set 1 _, h.fl.other (a := ⟨rb, 1, none⟩) h.ne _, h.ne, h.lb, h.lg⟩
theorem FRM.second {w0 w : World} {rb gl : Nat} {t : TypeId} {v : Value} {X Y : Nat} {nv : Value} {fl : Array Value} {tf : TypeId} (h : FRM w0 w rb gl t v X Y nv fl tf) (Z : Nat) : FRM w0 (w.setCell ⟨rb, 2, none⟩ (.int .u64 (Z : Int))) rb gl t v X Z nv fl tf :=
  ⟨h.bel.setCell (p := ⟨rb, 2, none⟩) h.lb _, h.rd.set 2 _, h.fl.other (a := ⟨rb, 2, none⟩) h.ne _, h.ne, h.lb, h.lg⟩
theorem FRM.nodes {w0 w : World} {rb gl : Nat} {t : TypeId} {v : Value} {X Y : Nat} {nv : Value} {fl : Array Value} {tf : TypeId} (h : FRM w0 w rb gl t v X Y nv fl tf) (nv' : Value) : FRM w0 (w.setCell ⟨rb, 3, none⟩ nv') rb gl t v X Y nv' fl tf :=
  ⟨h.bel.setCell (p := ⟨rb, 3, none⟩) h.lb _, h.rd.set 3 _, h.fl.other (a := ⟨rb, 3, none⟩) h.ne _, h.ne, h.lb, h.lg⟩
theorem SRC.drop {w0 : World} {b off c : Nat} {t : List Int} (h : SRC w0 (some ⟨b, off, none⟩) c t) (k : Nat) (hk : k ≤ t.length) : SRC w0 (REST b off c k) (c - k) (t.drop k) := by
  obtain ⟨h1, h2, h3⟩ := h
  have := h1.behind k hk h2
  refine ⟨?_, by rw [List.length_drop]; omega, by rw [List.length_drop]; omega⟩
  rw [List.length_drop]
  exact this
theorem SRC.addr {w0 : World} {a : Option Addr} {c : Nat} {t : List Int} (h : SRC w0 a c t) (h0 : 0 < t.length) : ∃ b off, a = some ⟨b, off, none⟩ ∧ b < w0.heap.size ∧ ∀ i, i < t.length → w0.cell? ⟨b, off + i, none⟩ = some (.int .u8 (t.getD i 0)) := h.1.2.1 h0
end Go.Proofs.YtmpaifkjlhodpaaDoor

/- A list of numbers that lies there; slices.BinarySearch over a rising one. -/
namespace Go.Proofs.YtmpaifkjlhodpaaDoor
open Go.RowKit
set_option maxRecDepth 100000

/-- numbers that lie there, at any place of a block. -/
def NUML (w : World) (a : Option Addr) (L : List Nat) : Prop := 0 < L.length → ∃ b o, a = some ⟨b, o, none⟩ ∧ b < w.heap.size ∧ ∀ i x, L[i]? = some x → w.cell? ⟨b, o + i, none⟩ = some (.int .u64 ((x : Nat) : Int))
theorem NUML.below {w w' : World} {a : Option Addr} {L : List Nat} {B : Nat} (h : NUML w a L) (hb : Below B w w') (hB : ∀ x, a = some x → x.block < B) : NUML w' a L := fun h0 => by
  obtain ⟨b, o, e, hl, hc⟩ := h h0
  have h1 : b < B := hB _ e
  exact ⟨b, o, e, by have := hb.size; omega, fun i x hx => (hb.cell (p := ⟨b, o + i, none⟩) h1).trans (hc i x hx)⟩
/-- each one above the one ahead. -/
def RISES (L : List Nat) : Prop := ∀ (i j x y : Nat), i < j → L[i]? = some x → L[j]? = some y → x < y
theorem mid_lt {i j : Nat} (h : i < j) : ∃ m, i ≤ m ∧ m < j ∧ m = (i + j) / 2 := ⟨(i + j) / 2, by omega, by omega, rfl⟩
theorem search_wraps (i j S m : Nat) (hj : j < 2 ^ 40) (hi : i < j) (hS : i + j = S) (hm : m = (i + j) / 2) : wrap64 ((i : Int) + (j : Int)) = (S : Int) ∧ IntKind.u64.wrap ((i : Int) + (j : Int)) = (S : Int) ∧ (S : Int) / 2 = (m : Int) ∧ wrap64 (m : Int) = (m : Int) ∧ wrap64 ((m : Int) + 1) = ((m + 1 : Nat) : Int) ∧ IntKind.u64.wrap (S : Int) = (S : Int) := by
  rw [wrapU, wrapU]
  unfold wrap64
  omega
theorem isnan_ok (x : Int) (w : World) : Calls Tryd.prog 70 #[.int .u64 x] w fun e w' => e = .returned (.bool false) ∧ w = w' := by
  go_enter Tryd.func70, Tryd.ntmps70
  go_wp2
  go_ret
  exact ⟨rfl, rfl⟩
theorem cmpnan_ok (x : Int) (w : World) : Calls Tryd.prog 76 #[.int .u64 x] w fun e w' => e = .returned (.bool false) ∧ w = w' := by
  go_enter Tryd.func76, Tryd.ntmps76
  go_wp2
  go_ret
  exact ⟨rfl, rfl⟩
theorem less_ok (x y : Nat) (w : World) : Calls Tryd.prog 69 #[.int .u64 (x : Int), .int .u64 (y : Int)] w fun e w' => e = .returned (.bool (decide (x < y))) ∧ w = w' := by
  have c := cmpnan_ok (x : Int) w
  go_enter Tryd.func69, Tryd.ntmps69
  go_wp2_with fail
  refine c.mono ?_
  rintro e w' ⟨rfl, rfl⟩
  clear c
  go_wp2_with fail
  go_ret
  exact ⟨rfl, rfl⟩
theorem less_yes (x y : Nat) (h : x < y) (w : World) : Calls Tryd.prog 69 #[.int .u64 (x : Int), .int .u64 (y : Int)] w fun e w' => e = .returned (.bool true) ∧ w = w' := by
  have := less_ok x y w
  rwa [decide_eq_true h] at this
theorem less_no (x y : Nat) (h : ¬ x < y) (w : World) : Calls Tryd.prog 69 #[.int .u64 (x : Int), .int .u64 (y : Int)] w fun e w' => e = .returned (.bool false) ∧ w = w' := by
  have := less_ok x y w
  rwa [decide_eq_false h] at this
/-- k of them are below t. -/
structure RANKS (L : List Nat) (t k : Nat) : Prop where
  le : k ≤ L.length
  lo : ∀ i x, i < k → L[i]? = some x → x < t
  hi : ∀ i x, k ≤ i → L[i]? = some x → t ≤ x
def SOUGHT (L : List Nat) (t : Nat) (w : World) (e : Ending) (w' : World) : Prop := ∃ (k : Nat) (b : Bool), e = .returned (.tuple #[.int .i64 (k : Int), .bool b]) ∧ RANKS L t k ∧ w = w'
set_option maxHeartbeats 1000000 in
theorem search_ok (a : Option Addr) (n cap : Nat) (L : List Nat) (t : Nat) (hl : L.length = n) (hn : n < 2 ^ 40) (hR : RISES L) (w : World) (hL : NUML w a L) : Calls Tryd.prog 61 #[.slice a n cap, .int .u64 (t : Int)] w fun e w' => SOUGHT L t w e w' := by
  have H : Aside (L.length = n ∧ n < 2 ^ 40 ∧ RISES L ∧ NUML w a L) := ⟨hl, hn, hR, hL⟩
  clear hl hn hR hL
  go_enter Tryd.func61, Tryd.ntmps61
  go_wp2
  go_loopg [7, 8] n (fun gg s7 s8 wx => ∃ i j : Nat, s7 = .int .i64 (i : Int) ∧ s8 = .int .i64 (j : Int) ∧ Aside (i + gg = j ∧ j ≤ n ∧ (∀ (k : Nat) (x : Nat), k < i → L[k]? = some x → x < t) ∧ (∀ (k : Nat) (x : Nat), j ≤ k → L[k]? = some x → t ≤ x)) ∧ wx = w)
  case atStart => exact ⟨0, n, rfl, rfl, ⟨by omega, Nat.le_refl _, fun k x h => by omega, fun k x h e => by have := (List.getElem?_eq_some_iff.1 e).1; have := H.out.1; omega⟩, rfl⟩
  case round =>
    obtain ⟨i, j, rfl, rfl, I, rfl⟩ := hrel
    cases gk with
    | zero =>
      obtain ⟨i1, i2, i3, i4⟩ := I.out
      obtain rfl : i = j := by omega
      have hlt : ¬ (i : Int) < (i : Int) := by omega
      rcases Nat.lt_or_ge i n with hin | hin
      · have hi2 : (i : Int) < (n : Int) := by omega
        have hi0 : (0 : Int) ≤ (i : Int) := by omega
        obtain ⟨h1, h2, h3, h4⟩ := H.out
        obtain ⟨x, ex⟩ : ∃ x, L[i]? = some x := ⟨_, List.getElem?_eq_getElem (by omega)⟩
        obtain ⟨g, o, rfl, hg, hc⟩ := h4 (by omega)
        have x0 := hc i x ex
        have cc := isnan_ok (x : Int)
        have R : Aside (RANKS L t i) := ⟨by omega, i3, i4⟩
        clear i1 i2 i3 i4 h1 h2 h3 h4 hc ex I H
        by_cases hx : x = t
        · subst hx
          go_wp2_with fail
          go_ret2
          exact ⟨i, _, rfl, R.out, rfl⟩
        · have hx' : ¬ (x : Int) = (t : Int) := by omega
          go_wp2_with fail
          refine (cc _).mono ?_
          rintro e w2 ⟨rfl, rfl⟩
          clear cc
          go_wp2_with fail
          go_ret2
          exact ⟨i, _, rfl, R.out, rfl⟩
      · have hi2 : ¬ (i : Int) < (n : Int) := by omega
        have R : Aside (RANKS L t i) := ⟨by have := H.out.1; omega, i3, i4⟩
        clear i1 i2 i3 i4 I H
        go_wp2
        go_ret2
        exact ⟨i, false, rfl, R.out, rfl⟩
    | succ gg =>
      obtain ⟨i1, i2, i3, i4⟩ := I.out
      have hij : (i : Int) < (j : Int) := by omega
      obtain ⟨h1, h2, h3, h4⟩ := H.out
      obtain ⟨m, m1, m2, m3⟩ := mid_lt (i := i) (j := j) (by omega)
      obtain ⟨S, hS⟩ : ∃ S, i + j = S := ⟨_, rfl⟩
      have HW : Aside _ := search_wraps i j S m (by omega) (by omega) hS m3
      clear hS
      have hm2 : (m : Int) < (n : Int) := by omega
      have hm0 : (0 : Int) ≤ (m : Int) := by omega
      obtain ⟨x, ex⟩ : ∃ x, L[m]? = some x := ⟨_, List.getElem?_eq_getElem (by omega)⟩
      obtain ⟨g, o, rfl, hg, hc⟩ := h4 (by omega)
      have x0 := hc m x ex
      have LO : Aside (x < t → ∀ (k : Nat) (y : Nat), k < m + 1 → L[k]? = some y → y < t) := fun h k y hk e => by
        rcases Nat.lt_or_ge k m with hkm | hkm
        · have := h3 k m y x hkm e ex
          omega
        · obtain rfl : k = m := by omega
          rw [ex] at e
          cases e
          exact h
      have HI : Aside (¬ x < t → ∀ (k : Nat) (y : Nat), m ≤ k → L[k]? = some y → t ≤ y) := fun h k y hk e => by
        rcases Nat.lt_or_ge m k with hkm | hkm
        · have := h3 m k x y hkm ex e
          omega
        · obtain rfl : k = m := by omega
          rw [ex] at e
          cases e
          omega
      have R : Aside (i ≤ m ∧ m < j ∧ j ≤ n ∧ i + (gg + 1) = j ∧ (∀ (k : Nat) (y : Nat), k < i → L[k]? = some y → y < t) ∧ (∀ (k : Nat) (y : Nat), j ≤ k → L[k]? = some y → t ≤ y)) := ⟨m1, m2, i2, i1, i3, i4⟩
      clear i1 i2 i3 i4 h1 h2 h3 h4 hc ex I m1 m2 m3
      obtain ⟨q1, q2, q3, q4, q5, q6⟩ := HW.out
      by_cases hlt : x < t
      · have cc := less_yes x t hlt
        have LL : Aside (∀ (k : Nat) (y : Nat), k < m + 1 → L[k]? = some y → y < t) := LO.out hlt
        clear hlt LO HI
        go_wp2_with fail
        refine (cc _).mono ?_
        rintro e w2 ⟨rfl, rfl⟩
        clear cc x0
        go_wp2
        go_roundg (j - (m + 1))
        case measure => have := R.out; clear q1 q2 q3 q4 q5 q6; omega
        case rel => exact ⟨m + 1, j, by first | rfl | (rw [q5]), rfl, ⟨by have := R.out; clear q1 q2 q3 q4 q5 q6; omega, R.out.2.2.1, LL.out, R.out.2.2.2.2.2⟩, rfl⟩
      · have cc := less_no x t hlt
        have LL : Aside (∀ (k : Nat) (y : Nat), m ≤ k → L[k]? = some y → t ≤ y) := HI.out hlt
        clear hlt LO HI
        go_wp2_with fail
        refine (cc _).mono ?_
        rintro e w2 ⟨rfl, rfl⟩
        clear cc x0
        go_wp2
        go_roundg (m - i)
        case measure => have := R.out; clear q1 q2 q3 q4 q5 q6; omega
        case rel => exact ⟨i, m, rfl, by first | rfl | (rw [q4]), ⟨by have := R.out; clear q1 q2 q3 q4 q5 q6; omega, by have := R.out; clear q1 q2 q3 q4 q5 q6; omega, R.out.2.2.2.2.1, LL.out⟩, rfl⟩
end Go.Proofs.YtmpaifkjlhodpaaDoor

/- Which nodes leaves need: plain. -/
namespace Go.Proofs.YtmpaifkjlhodpaaDoor
set_option maxRecDepth 100000

/-- the places that the leaves L under the k-th node of height h need, rising. -/
def NEED : Nat → Nat → List Nat → List Nat
  | h, k, [] => [PLC h k]
  | 0, _, _ :: _ => []
  | h + 1, k, x :: l => NEED h (2 * k) ((x :: l).filter fun y => decide (y < (2 * k + 1) * 2 ^ h)) ++ NEED h (2 * k + 1) ((x :: l).filter fun y => !decide (y < (2 * k + 1) * 2 ^ h))
theorem NEED_nil (h k : Nat) : NEED h k [] = [PLC h k] := by cases h <;> rfl
theorem NEED_leaf (k x : Nat) (l : List Nat) : NEED 0 k (x :: l) = [] := rfl
theorem NEED_node (h k x : Nat) (l : List Nat) : NEED (h + 1) k (x :: l) = NEED h (2 * k) ((x :: l).filter fun y => decide (y < (2 * k + 1) * 2 ^ h)) ++ NEED h (2 * k + 1) ((x :: l).filter fun y => !decide (y < (2 * k + 1) * 2 ^ h)) := rfl
/-- the first r of a rising list are those below t. -/
theorem RANKS.take : ∀ {L : List Nat} {t r : Nat}, RANKS L t r → L.take r = L.filter fun y => decide (y < t)
  | [], t, r, _ => by simp
  | x :: l, t, 0, h => by
    rw [List.take_zero]
    symm
    rw [List.filter_eq_nil_iff]
    intro y hy
    obtain ⟨i, hi⟩ := List.getElem?_of_mem hy
    have := h.hi i y (Nat.zero_le _) hi
    simp
    omega
  | x :: l, t, r + 1, h => by
    have hx : x < t := h.lo 0 x (by omega) rfl
    have h' : RANKS l t r := ⟨by have := h.le; simp at this; omega, fun i y hi hy => h.lo (i + 1) y (by omega) (by simpa using hy), fun i y hi hy => h.hi (i + 1) y (by omega) (by simpa using hy)⟩
    rw [List.take_succ_cons, List.filter_cons_of_pos (by simpa using hx), h'.take]
theorem RANKS.drop : ∀ {L : List Nat} {t r : Nat}, RANKS L t r → L.drop r = L.filter fun y => !decide (y < t)
  | [], t, r, _ => by simp
  | x :: l, t, 0, h => by
    rw [List.drop_zero]
    symm
    rw [List.filter_eq_self]
    intro y hy
    obtain ⟨i, hi⟩ := List.getElem?_of_mem hy
    have := h.hi i y (Nat.zero_le _) hi
    simp
    omega
  | x :: l, t, r + 1, h => by
    have hx : x < t := h.lo 0 x (by omega) rfl
    have h' : RANKS l t r := ⟨by have := h.le; simp at this; omega, fun i y hi hy => h.lo (i + 1) y (by omega) (by simpa using hy), fun i y hi hy => h.hi (i + 1) y (by omega) (by simpa using hy)⟩
    rw [List.drop_succ_cons, List.filter_cons_of_neg (by simpa using hx), h'.drop]
theorem RISES.take {L : List Nat} (h : RISES L) (r : Nat) : RISES (L.take r) := fun i j x y hij hx hy => by
  rw [List.getElem?_take] at hx hy
  split at hx
  · split at hy
    · exact h i j x y hij hx hy
    · cases hy
  · cases hx
theorem RISES.drop {L : List Nat} (h : RISES L) (r : Nat) : RISES (L.drop r) := fun i j x y hij hx hy => by
  rw [List.getElem?_drop] at hx hy
  exact h (r + i) (r + j) x y (by omega) hx hy
theorem NEED_take {h k r : Nat} {L : List Nat} (hL : L ≠ []) (hr : RANKS L ((2 * k + 1) * 2 ^ h) r) : NEED (h + 1) k L = NEED h (2 * k) (L.take r) ++ NEED h (2 * k + 1) (L.drop r) := by
  cases L with
  | nil => exact absurd rfl hL
  | cons x l => rw [NEED_node, hr.take, hr.drop]
/-- the peaks' leaves, one peak behind the other. -/
def NEEDS : List (Nat × Nat) → List Nat → List Nat
  | [], _ => []
  | (h, k) :: ps, L => NEED h k (L.filter fun y => decide (y < (k + 1) * 2 ^ h)) ++ NEEDS ps (L.filter fun y => !decide (y < (k + 1) * 2 ^ h))
theorem NEEDS_take {h k r : Nat} {L : List Nat} (ps : List (Nat × Nat)) (hr : RANKS L ((k + 1) * 2 ^ h) r) : NEEDS ((h, k) :: ps) L = NEED h k (L.take r) ++ NEEDS ps (L.drop r) := by
  rw [NEEDS, hr.take, hr.drop]
theorem filter_both (p : Nat → Bool) : ∀ l : List Nat, (l.filter p).length + (l.filter fun y => !p y).length = l.length
  | [] => rfl
  | x :: l => by
    have := filter_both p l
    cases h : p x <;> simp [List.filter, h] <;> omega
theorem NEED_bound : ∀ (h k : Nat) (L : List Nat), L ≠ [] → (NEED h k L).length ≤ L.length * h
  | _, _, [], hL => absurd rfl hL
  | 0, _, _ :: _, _ => by simp [NEED]
  | h + 1, k, x :: l, _ => by
    rw [NEED_node, List.length_append]
    generalize hA : ((x :: l).filter fun y => decide (y < (2 * k + 1) * 2 ^ h)) = A
    generalize hB : ((x :: l).filter fun y => !decide (y < (2 * k + 1) * 2 ^ h)) = B
    have hAB : A.length + B.length = (x :: l).length := by
      rw [← hA, ← hB]
      exact filter_both _ _
    have h1 : (NEED h (2 * k) A).length ≤ A.length * h + (if A.length = 0 then 1 else 0) := by
      cases A with
      | nil => rw [NEED_nil]; simp
      | cons y m => exact Nat.le_trans (NEED_bound h (2 * k) (y :: m) (by simp)) (Nat.le_add_right _ _)
    have h2 : (NEED h (2 * k + 1) B).length ≤ B.length * h + (if B.length = 0 then 1 else 0) := by
      cases B with
      | nil => rw [NEED_nil]; simp
      | cons y m => exact Nat.le_trans (NEED_bound h (2 * k + 1) (y :: m) (by simp)) (Nat.le_add_right _ _)
    have h3 : 0 < (x :: l).length := by simp
    have h4 : A.length * h + B.length * h = (x :: l).length * h := by rw [← Nat.add_mul, hAB]
    rw [Nat.mul_succ]
    generalize (NEED h (2 * k) A).length = u at *
    generalize (NEED h (2 * k + 1) B).length = v at *
    generalize A.length * h = p at *
    generalize B.length * h = q at *
    generalize (x :: l).length * h = s at *
    generalize (x :: l).length = m at *
    split at h1 <;> split at h2 <;> omega
theorem NEED_most (h k : Nat) (L : List Nat) : (NEED h k L).length ≤ L.length * h + 1 := by
  cases L with
  | nil => rw [NEED_nil]; simp
  | cons x l => exact Nat.le_trans (NEED_bound h k (x :: l) (by simp)) (Nat.le_add_right _ _)
end Go.Proofs.YtmpaifkjlhodpaaDoor

/- What split of package many answers. -/
namespace Go.Proofs.YtmpaifkjlhodpaaDoor
open Go.RowKit
set_option maxRecDepth 100000

/-- what need does: all places are told, or one of them was refused. -/
def TOLD (S P : List Nat → World → Prop) (X : List PanicEntry) (acc l : List Nat) (e : Ending) (w' : World) : Prop := (e = .returned (.tuple #[]) ∧ S (acc ++ l) w') ∨ ∃ pre p, (pre ++ [p]) <+: (acc ++ l) ∧ e = .panicked X ∧ P pre w'
/-- what split answers. -/
structure SPLIT (w w' : World) (a : Option Addr) (n c : Nat) (L : List Nat) (t r : Nat) (a' : Option Addr) : Prop where
  rank : RANKS L t r
  lies : NUML w a' (L.drop r)
  nil : a' = none → c - r = 0
  block : ∀ x, a' = some x → ∃ y, a = some y ∧ x.block = y.block
  spot : ∀ x, a' = some x → x.spot = none
  below : Below w.heap.size w w'
set_option maxHeartbeats 1000000 in
theorem split_ok (h k : Nat) (hN : Node h k) (a : Option Addr) (n c : Nat) (L : List Nat) (hl : L.length = n) (hn : n < 2 ^ 40) (hR : RISES L) (hc : n ≤ c) (hnil : a = none → c = 0) (hsp : ∀ x, a = some x → x.spot = none) (w : World) (hL : NUML w a L) :
    Calls Tryd.prog 47 #[.slice a n c, .int .u64 ((PLC h k : Nat) : Int)] w fun e w' => ∃ r a', e = .returned (.tuple #[.slice a r c, .slice a' (n - r) (c - r)]) ∧ SPLIT w w' a n c L ((k + 1) * 2 ^ h) r a' := by
  have cu := under_ok h k hN w
  obtain ⟨t, ht⟩ : ∃ t, (k + 1) * 2 ^ h = t := ⟨_, rfl⟩
  rw [ht] at cu ⊢
  have HA : Aside (L.length = n ∧ n < 2 ^ 40 ∧ RISES L ∧ NUML w a L ∧ n ≤ c) := ⟨hl, hn, hR, hL, hc⟩
  have NI : Aside (a = none → c = 0) := hnil
  have SP : Aside (∀ x, a = some x → x.spot = none) := hsp
  clear hl hn hR hL hc hnil hsp ht
  go_enter Tryd.func47, Tryd.ntmps47
  go_wp2_with fail
  refine cu.mono ?_
  rintro e w1 ⟨rfl, hb1⟩
  clear cu
  have cs := search_ok a n c L t HA.out.1 HA.out.2.1 HA.out.2.2.1 w1 (fun h0 => by
    obtain ⟨b, o, e, hl, hc⟩ := HA.out.2.2.2.1 h0
    exact ⟨b, o, e, Nat.lt_of_lt_of_le hl hb1.size, fun i x hx => (hb1.cell (p := ⟨b, o + i, none⟩) hl).trans (hc i x hx)⟩)
  have B1 : Aside (Below w.heap.size w w1) := hb1
  clear hb1
  go_wp2_with fail
  refine cs.mono ?_
  rintro e w2 ⟨r, f, rfl, hr, rfl⟩
  clear cs
  have hrn : r ≤ n := by have := hr.le; have := HA.out.1; omega
  have y1 : (r : Int) ≤ (c : Int) := by have := HA.out.2.2.2.2; omega
  have y2 : (r : Int) ≤ (n : Int) := by omega
  have y3 : (0 : Int) ≤ (r : Int) := by omega
  have RK : Aside (RANKS L t r) := hr
  clear hr
  cases a with
  | none =>
    have h0 := NI.out rfl
    subst h0
    have hr0 : r = 0 := by omega
    subst hr0
    have hn0 : n = 0 := by have := HA.out.2.2.2.2; omega
    subst hn0
    have FN : Aside (∀ W, Below w.heap.size w W → SPLIT w W none 0 0 L t 0 none) := fun W hb => ⟨RK.out, fun h => by have := HA.out.1; simp at h; omega, fun _ => rfl, (fun x e => by cases e), (fun x e => by cases e), hb⟩
    clear HA NI SP RK
    go_upto_region 3 with fail
    go_quiet (fail)
    go_wp2
    go_ret2
    exact ⟨0, none, rfl, FN.out _ (below_drewN B1.out _)⟩
  | some x =>
    obtain ⟨b, o, sp⟩ := x
    have hsp : sp = none := SP.out _ rfl
    subst hsp
    by_cases hcr : c = r
    · have FN : Aside (∀ W, Below w.heap.size w W → SPLIT w W (some ⟨b, o, none⟩) n c L t r (some ⟨b, o, none⟩)) := fun W hb => ⟨RK.out, fun h => by have := HA.out.1; have := HA.out.2.2.2.2; simp at h; omega, (fun e => by cases e), (fun x e => ⟨_, rfl, by cases e; rfl⟩), (fun x e => by cases e; rfl), hb⟩
      clear HA NI SP RK
      go_upto_region 3 with fail
      go_quiet (fail)
      go_wp2
      go_ret2
      exact ⟨r, _, by rw [hcr, Nat.sub_self]; rfl, FN.out _ (below_drewN B1.out _)⟩
    · have FN : Aside (∀ W, Below w.heap.size w W → SPLIT w W (some ⟨b, o, none⟩) n c L t r (some ⟨b, o + r, none⟩)) := fun W hb => by
        refine ⟨RK.out, fun h => ?_, (fun e => by cases e), (fun x e => ⟨_, rfl, by cases e; rfl⟩), (fun x e => by cases e; rfl), hb⟩
        obtain ⟨b', o', e, hl, hc⟩ := HA.out.2.2.2.1 (by simp at h; omega)
        cases e
        refine ⟨b, o + r, rfl, hl, fun i x hx => ?_⟩
        rw [List.getElem?_drop] at hx
        rw [Nat.add_assoc]
        exact hc (r + i) x hx
      clear HA NI SP RK
      go_upto_region 3 with fail
      go_quiet (fail)
      go_wp2
      go_ret2
      exact ⟨r, _, rfl, FN.out _ (below_drewN B1.out _)⟩
end Go.Proofs.YtmpaifkjlhodpaaDoor

/- mustRise of package many: it gives up where leaves are not those of n, or do not rise. -/
namespace Go.Proofs.YtmpaifkjlhodpaaDoor
open Go.RowKit
set_option maxRecDepth 100000

/-- not above the one ahead. -/
def NOTUP : Option Nat → Nat → Bool
  | none, _ => false
  | some y, x => decide (x ≤ y)
/-- what is wrong with indices, the one ahead of them prev. -/
def RCHK (n : Nat) : Option Nat → List Nat → Int
  | _, [] => 0
  | prev, x :: l => if NOTUP prev x = true then 71 else if n ≤ x then 32 else RCHK n (some x) l
/-- what is wrong with the indices of n leaves. -/
def RISEA (L : List Nat) (n : Nat) : Int := if 4611686018427387904 < n then 30 else RCHK n none L
theorem RCHK_ok {n : Nat} : ∀ {prev : Option Nat} {L : List Nat}, RCHK n prev L = 0 → (∀ x ∈ L, x < n) ∧ RISES L ∧ ∀ y, prev = some y → ∀ x ∈ L, y < x
  | _, [], _ => ⟨(fun x h => by cases h), (fun i j x y _ h => by simp at h), (fun y _ x h => by cases h)⟩
  | prev, x :: l, h => by
    rw [RCHK] at h
    split at h
    · cases h
    · rename_i h1
      split at h
      · cases h
      · rename_i h2
        obtain ⟨a1, a2, a3⟩ := RCHK_ok h
        refine ⟨fun y hy => ?_, fun i j u v hij hu hv => ?_, fun y hy z hz => ?_⟩
        · rcases List.mem_cons.1 hy with rfl | hy
          · omega
          · exact a1 y hy
        · cases i with
          | zero =>
            cases j with
            | zero => omega
            | succ j =>
              simp only [List.getElem?_cons_zero, Option.some.injEq] at hu
              rw [List.getElem?_cons_succ] at hv
              subst hu
              exact a3 x rfl v (List.mem_of_getElem? hv)
          | succ i =>
            cases j with
            | zero => omega
            | succ j =>
              rw [List.getElem?_cons_succ] at hu hv
              exact a2 i j u v (by omega) hu hv
        · subst hy
          have h1 : ¬ x ≤ y := fun h => h1 (decide_eq_true h)
          rcases List.mem_cons.1 hz with rfl | hz
          · omega
          · have := a3 x rfl z hz
            omega
theorem RISEA_ok {n : Nat} {L : List Nat} (h : RISEA L n = 0) : n ≤ 4611686018427387904 ∧ RISES L ∧ ∀ x ∈ L, x < n := by
  unfold RISEA at h
  split at h
  · cases h
  · obtain ⟨a1, a2, _⟩ := RCHK_ok h
    exact ⟨by omega, a2, a1⟩
/-- the panic of a wrong proof. -/
def WRONG (x : Int) : List PanicEntry := [{ v := .iface 73 (.int .i64 x), recovered := false }]
def ROSE (L : List Nat) (n : Nat) (w : World) (e : Ending) (w' : World) : Prop := w = w' ∧ ((RISEA L n = 0 ∧ e = .returned (.tuple #[])) ∨ (RISEA L n ≠ 0 ∧ e = .panicked (WRONG (RISEA L n))))
/-- the one ahead. -/
def AHD (L : List Nat) : Nat → Option Nat
  | 0 => none
  | j + 1 => L[j]?
theorem drop_step {L : List Nat} {j x : Nat} (h : L[j]? = some x) : L.drop j = x :: L.drop (j + 1) := by
  induction L generalizing j with
  | nil => simp at h
  | cons y l ih =>
    cases j with
    | zero => simp at h; simp [h]
    | succ j => simp at h; simp; exact ih h
set_option maxHeartbeats 1000000 in
theorem rise_far (L : List Nat) (n : Nat) (hn : (4611686018427387904 : Int) < (n : Int)) (a : Option Addr) (m c : Nat) (w : World) : Calls Tryd.prog 28 #[.slice a m c, .int .u64 (n : Int)] w (ROSE L n w) := by
  have e : RISEA L n = 30 := by unfold RISEA; rw [if_pos (by omega)]
  have E : Aside (RISEA L n = 30) := e
  clear e
  go_enter Tryd.func28, Tryd.ntmps28
  go_wp2_with fail
  exact ⟨rfl, rfl, .inr ⟨by rw [E.out]; decide, by rw [E.out]; rfl⟩⟩
set_option maxHeartbeats 2000000 in
theorem mustrise_ok (L : List Nat) (n : Nat) (a : Option Addr) (m c : Nat) (hl : L.length = m) (hm : m < 2 ^ 40) (w : World) (hL : NUML w a L) : Calls Tryd.prog 28 #[.slice a m c, .int .u64 (n : Int)] w (ROSE L n w) := by
  by_cases hn : (4611686018427387904 : Int) < (n : Int)
  · exact rise_far L n hn a m c w
  · have e : RISEA L n = RCHK n none L := by unfold RISEA; rw [if_neg (by omega)]
    have HA : Aside (L.length = m ∧ m < 2 ^ 40 ∧ NUML w a L ∧ RISEA L n = RCHK n none L) := ⟨hl, hm, hL, e⟩
    clear hl hm hL e
    go_enter Tryd.func28, Tryd.ntmps28
    go_wp2_with fail
    go_loopg [11] m (fun q s11 wx => ∃ j : Nat, s11 = .int .i64 (j : Int) ∧ Aside (j + q = m ∧ RISEA L n = RCHK n (AHD L j) (L.drop j)) ∧ wx = w)
    case atStart => exact ⟨0, rfl, ⟨by omega, HA.out.2.2.2⟩, rfl⟩
    case round =>
      obtain ⟨j, rfl, A, rfl⟩ := hrel
      cases gk with
      | zero =>
        obtain rfl : j = m := by have := A.out.1; omega
        have hlt : ¬ (j : Int) < (j : Int) := by omega
        have FN : Aside (RISEA L n = 0) := by
          have h1 := A.out.2
          rw [List.drop_of_length_le (by have := HA.out.1; omega)] at h1
          exact h1
        clear A HA
        go_wp2_with fail
        exact bodyPost_end (v := .tuple #[]) (by simp [results, Tryd.f28]) rfl ⟨rfl, .inl ⟨FN.out, rfl⟩⟩
      | succ q =>
        have hjm : j < m := by have := A.out.1; omega
        have hlt : (j : Int) < (m : Int) := by omega
        obtain ⟨x, ex⟩ : ∃ x, L[j]? = some x := ⟨_, List.getElem?_eq_getElem (by have := HA.out.1; omega)⟩
        obtain ⟨b, o, rfl, hb, hcc⟩ := HA.out.2.2.1 (by have := HA.out.1; omega)
        have x0 := hcc j x ex
        have ej : wrap64 ((j : Int) + 1) = ((j + 1 : Nat) : Int) := by have := HA.out.2.1; unfold wrap64; omega
        have hch : RISEA L n = if NOTUP (AHD L j) x = true then 71 else if n ≤ x then 32 else RCHK n (some x) (L.drop (j + 1)) := by
          rw [A.out.2, drop_step ex, RCHK]
        have hnx : AHD L (j + 1) = some x := ex
        rcases Nat.eq_zero_or_pos j with hj0 | hj0
        · have hz : ¬ (0 : Int) < (j : Int) := by omega
          have hch : RISEA L n = if n ≤ x then 32 else RCHK n (some x) (L.drop (j + 1)) := by
            rw [hch, hj0, if_neg (by simp [AHD, NOTUP])]
          by_cases hx : n ≤ x
          · have hx' : (n : Int) ≤ (x : Int) := by omega
            rw [if_pos hx] at hch
            have FN : Aside (RISEA L n = 32) := hch
            clear A HA hch hnx hcc hx hj0 ex hjm
            go_wp2_with fail
            exact ⟨rfl, rfl, .inr ⟨by rw [FN.out]; decide, by rw [FN.out]; rfl⟩⟩
          · have hx' : ¬ (n : Int) ≤ (x : Int) := by omega
            rw [if_neg hx] at hch
            have Z : Aside (j + 1 + q = m ∧ RISEA L n = RCHK n (AHD L (j + 1)) (L.drop (j + 1))) := ⟨by have := A.out.1; clear ej; omega, by rw [hnx]; exact hch⟩
            clear A hch hnx hcc hx hj0 ex hjm
            go_wp2_with fail
            go_roundg q
            case measure => exact Nat.lt_succ_self _
            case rel => exact ⟨j + 1, by first | rfl | (rw [ej]), Z.out, rfl⟩
        · obtain ⟨i, hi⟩ : ∃ i, j = i + 1 := ⟨j - 1, by omega⟩
          obtain ⟨y, ey⟩ : ∃ y, L[i]? = some y := ⟨_, List.getElem?_eq_getElem (by have := HA.out.1; omega)⟩
          have y0 := hcc i y ey
          have ei : wrap64 ((j : Int) - 1) = (i : Int) := by have := HA.out.2.1; unfold wrap64; omega
          have him : (i : Int) < (m : Int) := by omega
          have hi0 : (0 : Int) < (j : Int) := by omega
          have hch : RISEA L n = if NOTUP (some y) x = true then 71 else if n ≤ x then 32 else RCHK n (some x) (L.drop (j + 1)) := by
            rw [hch, show AHD L j = some y by rw [hi]; exact ey]
          by_cases hxy : x ≤ y
          · have hxy' : (x : Int) ≤ (y : Int) := by omega
            rw [if_pos (show NOTUP (some y) x = true from decide_eq_true hxy)] at hch
            have FN : Aside (RISEA L n = 71) := hch
            clear A HA hch hnx hcc hxy hj0 hi ex ey hjm
            go_wp2_with fail
            exact ⟨rfl, rfl, .inr ⟨by rw [FN.out]; decide, by rw [FN.out]; rfl⟩⟩
          · have hxy' : ¬ (x : Int) ≤ (y : Int) := by omega
            rw [if_neg (show ¬ NOTUP (some y) x = true from fun h => hxy (of_decide_eq_true h))] at hch
            by_cases hx : n ≤ x
            · have hx' : (n : Int) ≤ (x : Int) := by omega
              rw [if_pos hx] at hch
              have FN : Aside (RISEA L n = 32) := hch
              clear A HA hch hnx hcc hx hxy hj0 hi ex ey hjm
              go_wp2_with fail
              exact ⟨rfl, rfl, .inr ⟨by rw [FN.out]; decide, by rw [FN.out]; rfl⟩⟩
            · have hx' : ¬ (n : Int) ≤ (x : Int) := by omega
              rw [if_neg hx] at hch
              have Z : Aside (j + 1 + q = m ∧ RISEA L n = RCHK n (AHD L (j + 1)) (L.drop (j + 1))) := ⟨by have := A.out.1; clear ej ei; omega, by rw [hnx]; exact hch⟩
              clear A hch hnx hcc hx hxy hj0 hi ex ey hjm
              go_wp2_with fail
              go_roundg q
              case measure => exact Nat.lt_succ_self _
              case rel => exact ⟨j + 1, by first | rfl | (rw [ej]), Z.out, rfl⟩
end Go.Proofs.YtmpaifkjlhodpaaDoor
