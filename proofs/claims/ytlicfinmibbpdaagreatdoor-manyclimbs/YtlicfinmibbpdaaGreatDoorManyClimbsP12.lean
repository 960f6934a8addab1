/- Texts of ManyClimbs, one behind the other: PosTops, PosRefPeaks, PosRefPeak, PosHas, PosRefPath, PosAwake, PosFour, CutCalls, CutHas, CutSpan, CutOver, ProofPlaces, ProofBytes, ProofEncode, CutRefSpan, ProofRefPlaces, ProofLists, RegionSteps, ProofCells, VerifyHash, ProofSlices. -/
import Derived.Test.YtlicfinmibbpdaaGreatDoorProg
import Derived.WalkKit
import Derived.WalkLawsBesides
import Derived.Deep.WholeRow
import Derived.Deep.LoopGhost
import Derived.Laws.ResultCell
import Derived.Laws.Rows
import Derived.Laws.Tables
import Derived.Deep.QuietTactic
import Derived.BigQuiet
import Derived.Deep.MidRow
import Derived.Deep.RegionHeld3
import Derived.Deep.CutRange
import Derived.Great.BuildSlice
import Derived.ChangeKeysEq
import Derived.Test.YtlicfinmibbpdaaGreatDoorManyClimbsP11
/- What the document's Tops gives: the spots of the peaks. -/
namespace Go.Proofs.YtlicfinmibbpdaaGreatDoor
open Go.RowKit

/-- the spots of the peaks of n leaves whose height is at least h. -/
def TOPS (h n : Nat) : List (Nat × Nat) := (HS h n).map fun g => (g, 2 * (n / 2 ^ (g + 1)))
theorem TOPS_set {h n : Nat} (hh : h < 64) (hb : n / 2 ^ h % 2 = 1) : TOPS h n = TOPS (h + 1) n ++ [(h, 2 * (n / 2 ^ (h + 1)))] := by
  unfold TOPS
  rw [HS_set hh hb, List.map_append]
  rfl
theorem TOPS_clear {h n : Nat} (hh : h < 64) (hb : ¬ n / 2 ^ h % 2 = 1) : TOPS h n = TOPS (h + 1) n := by
  unfold TOPS
  rw [HS_clear hh hb]
theorem TOPS_length {n : Nat} (hn : n < 2 ^ 64) (h : Nat) (hh : h ≤ 64) : (TOPS h n).length = PC (n / 2 ^ h) := by
  unfold TOPS
  rw [List.length_map]
  exact HS_length hn h hh
/-- one height of Tops. -/
theorem tops_plain {n h at' r : Nat} (ha : at' = n / 2 ^ (h + 1) * 2 ^ (h + 1)) (hr : r = n - at') : at' ≤ n ∧ (2 ^ h ≤ r ↔ n / 2 ^ h % 2 = 1) ∧ at' / 2 ^ h = 2 * (n / 2 ^ (h + 1)) ∧ (n / 2 ^ h % 2 = 1 → at' + 2 ^ h = n / 2 ^ h * 2 ^ h) ∧ (¬ n / 2 ^ h % 2 = 1 → at' = n / 2 ^ h * 2 ^ h) := by
  have hp := Nat.two_pow_pos h
  have e1 : at' = 2 * (n / 2 ^ (h + 1)) * 2 ^ h := by rw [ha, double_pow]
  have hd := Nat.div_add_mod n (2 ^ h)
  have hm := Nat.mod_lt n hp
  rw [Nat.mul_comm] at hd
  have hq : at' / 2 ^ h = 2 * (n / 2 ^ (h + 1)) := by rw [e1, Nat.mul_div_cancel _ hp]
  by_cases hb : n / 2 ^ h % 2 = 1
  · have h2 := at_set hb
    have e2 : n / 2 ^ h * 2 ^ h = at' + 2 ^ h := by rw [h2, Nat.add_mul, Nat.one_mul, ← e1]
    exact ⟨by omega, ⟨fun _ => hb, fun _ => by omega⟩, hq, fun _ => e2.symm, fun h => absurd hb h⟩
  · have h2 := at_clear hb
    have e2 : n / 2 ^ h * 2 ^ h = at' := by rw [h2, ← e1]
    exact ⟨by omega, ⟨fun _ => by omega, fun h => absurd h hb⟩, hq, fun h => absurd h hb, fun _ => e2.symm⟩
set_option maxHeartbeats 1000000 in
theorem tops_ok (n : Nat) (hn : n ≤ 4611686018427387904) (w : World) : Calls Tryz.prog 29 #[.int .u64 (n : Int)] w fun e w' =>
    ∃ v, e = .returned v ∧ w'.ownsRow w.heap.size 67 2 v (PC n) (SCELLS (TOPS 0 n)) ∧ Below w.heap.size w w' := by
  have HN : Aside (n ≤ 4611686018427387904) := hn
  have hd : ¬ (4611686018427387904 : Int) < (n : Int) := by omega
  clear hn
  go_enter Tryz.func29, Tryz.ntmps29
  go_wp2
  go_loopg [3, 4, 5] 63 (fun q s3 s4 s5 wx => ∃ a : Nat, s4 = .int .u64 (a : Int) ∧ s5 = .int .i64 ((q : Int) - 1) ∧ Aside (q ≤ 63 ∧ a = n / 2 ^ q * 2 ^ q ∧ wx.ownsRow w.heap.size 67 2 s3 (PC (n / 2 ^ q)) (SCELLS (TOPS q n)) ∧ Below w.heap.size w wx))
  case atStart =>
    have hz : n / 2 ^ 63 = 0 := Nat.div_eq_of_lt (by have := HN.out; omega)
    refine ⟨0, rfl, rfl, by omega, by rw [hz, Nat.zero_mul], ?_, Below.refl _ _⟩
    rw [hz, PC_zero]
    have ht : TOPS 63 n = [] := by
      unfold TOPS
      rw [HS_top (by have := HN.out; omega)]
      rfl
    rw [ht]
    exact ⟨rfl, .inl ⟨rfl, rfl⟩⟩
  case round =>
    obtain ⟨a, rfl, rfl, A⟩ := hrel
    cases gk with
    | zero =>
      have hlt : ¬ (0 : Int) ≤ ((0 : Nat) : Int) - 1 := by omega
      go_wp2
      go_ret
      obtain ⟨_, _, hown, hbel⟩ := A.out
      rw [Nat.pow_zero, Nat.div_one] at hown
      exact ⟨_, rfl, hown, hbel⟩
    | succ h =>
      obtain ⟨h63, ha, hown, hbel⟩ := A.out
      have hnn := HN.out
      obtain ⟨r, hr⟩ : ∃ r, r = n - a := ⟨_, rfl⟩
      obtain ⟨p1, p2, p3, p4, p5⟩ := tops_plain ha hr
      have c := power_ok h (by omega)
      have hpw : 2 ^ h ≤ 2 ^ 62 := Nat.pow_le_pow_right (by decide) (by omega)
      have hp0 := Nat.two_pow_pos h
      have e0 : ((h + 1 : Nat) : Int) - 1 = (h : Int) := by omega
      have e0' : ¬ (h : Int) < 0 := by omega
      have e1 : IntKind.u64.wrap ((n : Int) - (a : Int)) = (r : Int) := by rw [wrapU]; omega
      have e3 : (h : Int) % 256 = (h : Int) := by omega
      have e4 : wrap64 ((h : Int) - 1) = (h : Int) - 1 := by unfold wrap64; omega
      rw [e0]
      by_cases hb : n / 2 ^ h % 2 = 1
      · have hge : 2 ^ h ≤ r := p2.2 hb
        have pq := p4 hb
        have e5 : (a : Int) / ((2 ^ h : Nat) : Int) = ((2 * (n / 2 ^ (h + 1)) : Nat) : Int) := by rw [← p3, Int.natCast_ediv]
        have hT := TOPS_set (n := n) (h := h) (by omega) hb
        have hPC : PC (n / 2 ^ h) = PC (n / 2 ^ (h + 1)) + 1 := by rw [PC_step, ← half_pow]; omega
        have hlen : PC (n / 2 ^ (h + 1)) ≤ 1000 := by have := PC_lt_pow 64 (n / 2 ^ (h + 1)) (Nat.lt_of_le_of_lt (Nat.div_le_self _ _) (by omega)); omega
        have hk64 : 2 * (n / 2 ^ (h + 1)) < 2 ^ 64 := by rw [← p3]; exact Nat.lt_of_le_of_lt (Nat.div_le_self _ _) (by omega)
        generalize 2 * (n / 2 ^ (h + 1)) = k at *
        have e7 : IntKind.u64.wrap (k : Int) = (k : Int) := by rw [wrapU]; omega
        have e6 : IntKind.u64.wrap ((a : Int) + ((2 ^ h : Nat) : Int)) = ((n / 2 ^ h * 2 ^ h : Nat) : Int) := by rw [wrapU, ← pq]; omega
        have hge' : ((2 ^ h : Nat) : Int) ≤ (r : Int) := by omega
        have hz0 : ¬ ((2 ^ h : Nat) : Int) = 0 := by omega
        generalize hm : PC (n / 2 ^ (h + 1)) = m at *
        generalize hl : TOPS (h + 1) n = l at *
        generalize ((2 ^ h : Nat) : Int) = z at *
        generalize hx : n / 2 ^ h * 2 ^ h = x at *
        have R : Aside (h ≤ 62 ∧ x = n / 2 ^ h * 2 ^ h ∧ wr.ownsRow w.heap.size 67 2 u3 m (SCELLS l) ∧ Below w.heap.size w wr ∧ m ≤ 1000 ∧ PC (n / 2 ^ h) = m + 1 ∧ TOPS h n = l ++ [(h, k)]) := ⟨by omega, hx.symm, hown, hbel, hlen, hPC, hT⟩
        clear A HN h63 ha hown hbel hnn hr p1 p2 p3 p4 p5 hpw hp0 hb hge pq hT hPC hlen hk64 hm hl hx
        go_wp2_with fail
        refine (c _).mono ?_
        rintro e w' ⟨rfl, rfl⟩
        go_wp2_with fail
        refine (c _).mono ?_
        rintro e w' ⟨rfl, rfl⟩
        go_wp2_with (at_builtin; refine app_spot _ rfl (.tmp 19) (.tmp 27) rfl w.heap.size u3 m l rfl (R.out.2.2.1.alloc _) wr.heap.size 1 h k rfl (by rw [World.cell?_alloc_at _ _ _ _ rfl]; rfl) (by rw [World.cell?_alloc_at _ _ _ _ rfl]; rfl) R.out.2.2.2.2.1 (by have := R.out.2.2.2.1.size; simp; omega) ?_; intro g' cap w1 hown hgrow hg)
        obtain ⟨r1, r2, r3, r4, r5, r6, r7⟩ := R.out
        have R2 : Aside (h ≤ 63 ∧ x = n / 2 ^ h * 2 ^ h ∧ w1.ownsRow w.heap.size 67 2 (.slice (some ⟨g', 0, none⟩) (m + 1) cap) (PC (n / 2 ^ h)) (SCELLS (TOPS h n)) ∧ Below w.heap.size w w1) := ⟨by omega, r2, by rw [r6, r7]; exact hown, (r4.alloc r4.size _).grown hgrow (by have := r4.size; simp; omega) (fun k e => (r3.lt k e).1)⟩
        clear hown hgrow hg R r1 r2 r3 r4 r5 r6 r7
        refine (c _).mono ?_
        rintro e w' ⟨rfl, rfl⟩
        clear c
        go_wp2
        go_roundg h
        case measure => omega
        case rel => exact ⟨x, by first | rfl | (rw [e6]), by first | rfl | (rw [e4]), R2.out⟩
      · have hge : ¬ 2 ^ h ≤ r := fun h => hb (p2.1 h)
        have pq := p5 hb
        have hge' : ¬ ((2 ^ h : Nat) : Int) ≤ (r : Int) := by omega
        have hT := TOPS_clear (n := n) (h := h) (by omega) hb
        have hPC : PC (n / 2 ^ h) = PC (n / 2 ^ (h + 1)) := by rw [PC_step, ← half_pow]; omega
        generalize ((2 ^ h : Nat) : Int) = z at *
        have R : Aside (h ≤ 63 ∧ a = n / 2 ^ h * 2 ^ h ∧ wr.ownsRow w.heap.size 67 2 u3 (PC (n / 2 ^ h)) (SCELLS (TOPS h n)) ∧ Below w.heap.size w wr) := ⟨by omega, pq, by rw [hT, hPC]; exact hown, hbel⟩
        clear A HN h63 ha hown hbel hnn hr p1 p2 p3 p4 p5 hpw hp0 hb hge pq hT hPC
        go_wp2_with fail
        refine (c _).mono ?_
        rintro e w' ⟨rfl, rfl⟩
        clear c
        go_wp2
        go_roundg h
        case measure => omega
        case rel => exact ⟨a, rfl, by first | rfl | (rw [e4]), R.out⟩
end Go.Proofs.YtlicfinmibbpdaaGreatDoor

/- What the document's Peaks gives. -/
namespace Go.Proofs.YtlicfinmibbpdaaGreatDoor
open Go.RowKit

theorem tops_spots (n : Nat) (hn : n ≤ 4611686018427387904) (w : World) : Calls Tryz.prog 29 #[.int .u64 (n : Int)] w fun e w' =>
    ∃ a cap, e = .returned (.slice a (PC n) cap) ∧ Spots w' a (TOPS 0 n) ∧ Below w.heap.size w w' := by
  refine (tops_ok n hn w).mono ?_
  rintro e w' ⟨v, rfl, hown, hb⟩
  have hl := TOPS_length (n := n) (by omega) 0 (by omega)
  rw [Nat.pow_zero, Nat.div_one] at hl
  obtain ⟨a, cap, rfl, hs⟩ := spots_own hl hown
  exact ⟨a, cap, rfl, hs, hb⟩
end Go.Proofs.YtlicfinmibbpdaaGreatDoor

/- What the document's Peak gives. -/
namespace Go.Proofs.YtlicfinmibbpdaaGreatDoor
open Go.RowKit

end Go.Proofs.YtlicfinmibbpdaaGreatDoor

/- Blocks of one's own in a world that is a variable. -/
namespace Go.Proofs.YtlicfinmibbpdaaGreatDoor
open Go.RowKit

/-- the block g holds the cells c. -/
def Has (w : World) (g : Nat) (c : Array Value) (t : TypeId) : Prop := w.heap[g]? = some (.cells c t)
theorem Has.cell {w : World} {g : Nat} {c : Array Value} {t : TypeId} (h : Has w g c t) (i : Nat) : w.cell? ⟨g, i, none⟩ = c[i]? := cell_of_row w g i c t _ h
theorem Has.lt {w : World} {g : Nat} {c : Array Value} {t : TypeId} (h : Has w g c t) : g < w.heap.size := (Array.getElem?_eq_some_iff.1 h).1
theorem Has.frozen {w : World} {g : Nat} {c : Array Value} {t : TypeId} (h : Has w g c t) (i : Nat) : w.frozen? ⟨g, i, none⟩ = false := by
  have e : w.heap[g]? = some (.cells c t) := h
  simp [World.frozen?, e]
theorem Has.set {w : World} {g : Nat} {c : Array Value} {t : TypeId} (h : Has w g c t) (i : Nat) (v : Value) : Has (w.setCell ⟨g, i, none⟩ v) g (c.setIfInBounds i v) t := by
  have e : w.heap[g]? = some (.cells c t) := h
  unfold Has
  rw [setCell_eq_setRow w g i c t _ v e, setRow_heap w g c _ t _ e]
theorem Has.other {w : World} {g : Nat} {c : Array Value} {t : TypeId} (h : Has w g c t) {a : Addr} (ha : g ≠ a.block) (v : Value) : Has (w.setCell a v) g c t := by
  have e : w.heap[g]? = some (.cells c t) := h
  unfold Has
  rw [Below.heap_setCell w a v g ha, e]
theorem Has.below {B : Nat} {w w' : World} {g : Nat} {c : Array Value} {t : TypeId} (h : Has w g c t) (hb : Below B w w') (hg : g < B) : Has w' g c t := (hb.block g hg).trans h
theorem Has.keep {w w' : World} {g : Nat} {c : Array Value} {t : TypeId} (h : Has w g c t) (hb : Below w.heap.size w w') : Has w' g c t := h.below hb h.lt
theorem Has.alloc {w : World} {g : Nat} {c : Array Value} {t : TypeId} (h : Has w g c t) (o : Obj) : Has (w.alloc o) g c t := by
  have e : w.heap[g]? = some (.cells c t) := h
  unfold Has
  rw [Below.heap_alloc w o g h.lt, e]
theorem Has.new (w : World) (c : Array Value) (t : TypeId) : Has (w.alloc (.cells c t)) w.heap.size c t := heap_alloc_new w _
theorem Has.at (w : World) (c : Array Value) (t : TypeId) {g : Nat} (hg : g = w.heap.size) : Has (w.alloc (.cells c t)) g c t := by subst hg; exact Has.new w c t
theorem Has.row {w : World} {g : Nat} {c : Array Value} {t : TypeId} (h : Has w g c t) (c' : Array Value) : Has (w.setRow g c') g c' t := setRow_heap w g c c' t _ h
theorem Has.row_other {w : World} {g k : Nat} {c : Array Value} {t : TypeId} (h : Has w g c t) (hk : g ≠ k) (c' : Array Value) : Has (w.setRow k c') g c t := by
  have e : w.heap[g]? = some (.cells c t) := h
  unfold Has
  rw [setRow_other w k g c' hk, e]
theorem Has.drewN {w : World} {g : Nat} {c : Array Value} {t : TypeId} (h : Has w g c t) (n : Nat) : Has (w.drewN n) g c t := h
theorem set_off {w : World} {b i j : Nat} (h : i ≠ j) (v : Value) : (w.setCell ⟨b, i, none⟩ v).cell? ⟨b, j, none⟩ = w.cell? ⟨b, j, none⟩ := World.cell?_setCell_other w _ _ v (fun e => h (congrArg Addr.off e))
theorem below_row {B g : Nat} {w0 w : World} (hb : Below B w0 w) (hBg : B ≤ g) (cs : Array Value) : Below B w0 (w.setRow g cs) :=
  ⟨hb.os, hb.tape, hb.output, by have := hb.size; simpa [World.setRow] using this, fun k hk => by rw [setRow_other w g k cs (by omega)]; exact hb.block k hk⟩
end Go.Proofs.YtlicfinmibbpdaaGreatDoor

/- What the document's Path gives. -/
namespace Go.Proofs.YtlicfinmibbpdaaGreatDoor
open Go.RowKit

end Go.Proofs.YtlicfinmibbpdaaGreatDoor

/- awake answers true: the forest of seven leaves. -/
namespace Go.Proofs.YtlicfinmibbpdaaGreatDoor
open Go.RowKit

end Go.Proofs.YtlicfinmibbpdaaGreatDoor

/- Two lists that read the same; four lists of one's own, none of which shares a block with another. -/
namespace Go.Proofs.YtlicfinmibbpdaaGreatDoor
open Go.RowKit

/-- a list of numbers lies there. -/
def Nums (w : World) (v : Value) (l : List Nat) : Prop := ∃ a cap, v = .slice a l.length cap ∧ (0 < l.length → ∃ g, a = some ⟨g, 0, none⟩ ∧ g < w.heap.size ∧ ∀ (j : Nat), j < l.length → w.cell? ⟨g, j, none⟩ = some (.int .u64 ((l.getD j 0 : Nat) : Int)))
theorem Nums.below {w w' : World} {v : Value} {l : List Nat} {B : Nat} (h : Nums w v l) (hb : Below B w w') (hB : w.heap.size ≤ B) : Nums w' v l := by
  obtain ⟨a, cap, rfl, h⟩ := h
  refine ⟨a, cap, rfl, fun h0 => ?_⟩
  obtain ⟨g, e, hg, hc⟩ := h h0
  exact ⟨g, e, Nat.lt_of_lt_of_le hg hb.size, fun j hj => (hb.cell (p := ⟨g, j, none⟩) (Nat.lt_of_lt_of_le hg hB)).trans (hc j hj)⟩
/-- four lists of one's own: no two in one block, none in a block of K. -/
structure Four (w : World) (B : Nat) (K : Nat → Prop) (v : Nat → Value) (n : Nat → Nat) (xs : Nat → List Value) : Prop where
  row : ∀ x, x < 4 → w.ownsRow B 23 1 (v x) (n x) (xs x)
  apart : ∀ x y, x < 4 → y < 4 → x ≠ y → ∀ g, (v x).ownBlock = some g → (v y).ownBlock ≠ some g
  off : ∀ x, x < 4 → ∀ g, (v x).ownBlock = some g → ¬ K g
/-- a function that is another one at one place. -/
def UPD {α : Type} (f : Nat → α) (x : Nat) (a : α) : Nat → α := fun z => if z = x then a else f z
theorem UPD_at {α : Type} (f : Nat → α) (x : Nat) (a : α) : UPD f x a x = a := by simp [UPD]
theorem UPD_other {α : Type} (f : Nat → α) {x z : Nat} (a : α) (h : z ≠ x) : UPD f x a z = f z := by simp [UPD, h]
theorem Four.alloc {w : World} {B : Nat} {K : Nat → Prop} {v : Nat → Value} {n : Nat → Nat} {xs : Nat → List Value} (h : Four w B K v n xs) (o : Obj) : Four (w.alloc o) B K v n xs := ⟨fun x hx => (h.row x hx).alloc o, h.apart, h.off⟩
theorem Four.below {w w' : World} {B : Nat} {K : Nat → Prop} {v : Nat → Value} {n : Nat → Nat} {xs : Nat → List Value} (h : Four w B K v n xs) (hb : Below w.heap.size w w') : Four w' B K v n xs := ⟨fun x hx => own_below (h.row x hx) hb, h.apart, h.off⟩
theorem grown_set (W : World) (b j : Nat) (v : Value) : W.grownBy (W.setCell ⟨b, j, none⟩ v) (some b) :=
  ⟨rfl, rfl, rfl, (KeepsWalks.setCell W _ v).size, fun k _ hk => Below.heap_setCell _ _ _ k (fun e => hk (by rw [e]))⟩
/-- what is stored into a block of K. -/
theorem Four.other {w : World} {B : Nat} {K : Nat → Prop} {v : Nat → Value} {n : Nat → Nat} {xs : Nat → List Value} (h : Four w B K v n xs) {b : Nat} (hb : K b) (j : Nat) (u : Value) : Four (w.setCell ⟨b, j, none⟩ u) B K v n xs :=
  ⟨fun x hx => (h.row x hx).kept (grown_set w b j u) (.inr fun e => h.off x hx b e hb), h.apart, h.off⟩
/-- what is stored into one of the four. -/
theorem Four.store {w : World} {B : Nat} {K : Nat → Prop} {v : Nat → Value} {n : Nat → Nat} {xs : Nat → List Value} (h : Four w B K v n xs) {x g m cap : Nat} (hx : x < 4) (hv : v x = .slice (some ⟨g, 0, none⟩) m cap) (j : Nat) (u : Value) :
    Four (w.setCell ⟨g, j, none⟩ u) B K v n (UPD xs x ((xs x).set j u)) := by
  refine ⟨fun z hz => ?_, h.apart, h.off⟩
  by_cases e : z = x
  · subst e
    have hr := h.row z hz
    rw [hv] at hr ⊢
    have hm : m = n z := by
      rcases hr.2 with ⟨e, _⟩ | ⟨_, _, _, e, _⟩
      · simp at e
      · simp at e
        omega
    subst hm
    rw [UPD_at]
    exact (hr.stored j u).1
  · rw [UPD_other xs _ e]
    refine (h.row z hz).kept (grown_set w g j u) (.inr fun e2 => ?_)
    exact h.apart x z hx hz (fun e3 => e e3.symm) g (by rw [hv]; rfl) e2
theorem Has.grown {w w' : World} {g : Nat} {c : Array Value} {t : TypeId} {row : Option Nat} (h : Has w g c t) (hg : w.grownBy w' row) (hne : row ≠ some g) : Has w' g c t := by
  obtain ⟨_, _, _, _, hk⟩ := hg
  exact (hk g h.lt (fun e => hne e.symm)).trans h
end Go.Proofs.YtlicfinmibbpdaaGreatDoor

/- What the small functions of package cut answer. -/
namespace Go.Proofs.YtlicfinmibbpdaaGreatDoor
open Go.RowKit

end Go.Proofs.YtlicfinmibbpdaaGreatDoor

/- A block that stays while a list of one's own grows. -/
namespace Go.Proofs.YtlicfinmibbpdaaGreatDoor
open Go.RowKit

end Go.Proofs.YtlicfinmibbpdaaGreatDoor

/- What Span answers. -/
namespace Go.Proofs.YtlicfinmibbpdaaGreatDoor
open Go.RowKit

end Go.Proofs.YtlicfinmibbpdaaGreatDoor

/- What Over answers, of any list of spots. -/
namespace Go.Proofs.YtlicfinmibbpdaaGreatDoor
open Go.RowKit

/-- a list of spots lies there. -/
def Lie (w : World) (a : Option Addr) (l : List (Nat × Nat)) : Prop := 0 < l.length → ∃ g o, a = some ⟨g, o, none⟩ ∧ g < w.heap.size ∧ ∀ (j h k : Nat), l[j]? = some (h, k) → w.cell? ⟨g, o + j * 2, none⟩ = some (.int .u8 (h : Int)) ∧ w.cell? ⟨g, o + j * 2 + 1, none⟩ = some (.int .u64 (k : Int))
theorem Lie.below {w w' : World} {a : Option Addr} {l : List (Nat × Nat)} (h : Lie w a l) (hb : Below w.heap.size w w') : Lie w' a l := fun h0 => by
  obtain ⟨g, o, e, hg, hc⟩ := h h0
  exact ⟨g, o, e, Nat.lt_of_lt_of_le hg hb.size, fun j x y he => ⟨(hb.cell (p := ⟨g, o + j * 2, none⟩) hg).trans (hc j x y he).1, (hb.cell (p := ⟨g, o + j * 2 + 1, none⟩) hg).trans (hc j x y he).2⟩⟩
end Go.Proofs.YtlicfinmibbpdaaGreatDoor

/- What Places and PrefixPlaces of package proof answer. -/
namespace Go.Proofs.YtlicfinmibbpdaaGreatDoor
open Go.RowKit

end Go.Proofs.YtlicfinmibbpdaaGreatDoor

/- What written, Encode and EncodePrefix of package proof answer. -/
namespace Go.Proofs.YtlicfinmibbpdaaGreatDoor
open Go.RowKit
set_option maxRecDepth 100000

/-- so many hashes lie there, told as their bytes, one behind the other. -/
def Flat (w : World) (a : Option Addr) (n : Nat) (l : List Int) : Prop :=
  l.length = 32 * n ∧ (0 < n → ∃ b o, a = some ⟨b, o, none⟩ ∧ b < w.heap.size ∧ ∀ j, j < 32 * n → w.cell? ⟨b, o + j, none⟩ = some (.int .u8 (l.getD j 0))) ∧ ∀ x ∈ l, 0 ≤ x ∧ x ≤ 255
theorem Flat.below {w w' : World} {a : Option Addr} {n : Nat} {l : List Int} (h : Flat w a n l) (hb : Below w.heap.size w w') : Flat w' a n l :=
  ⟨h.1, fun hn => by
    obtain ⟨b, o, e, hl, hc⟩ := h.2.1 hn
    exact ⟨b, o, e, Nat.lt_of_lt_of_le hl hb.size, fun i hi => (hb.cell (by exact hl)).trans (hc i hi)⟩, h.2.2⟩
/-- the bytes of the i-th hash. -/
def HSH (l : List Int) (i : Nat) : List Int := (l.drop (32 * i)).take 32
theorem HSH_length {l : List Int} {n i : Nat} (hl : l.length = 32 * n) (hi : i < n) : (HSH l i).length = 32 := by
  unfold HSH
  rw [List.length_take, List.length_drop]
  omega
theorem HSH_at {l : List Int} {i j : Nat} (hj : j < 32) : (HSH l i).getD j 0 = l.getD (32 * i + j) 0 := by
  unfold HSH
  rw [List.getD_eq_getElem?_getD, List.getElem?_take, if_pos hj, List.getElem?_drop, List.getD_eq_getElem?_getD]
theorem HSH_mem {l : List Int} {i : Nat} {x : Int} (h : x ∈ HSH l i) : x ∈ l := List.mem_of_mem_drop (List.mem_of_mem_take h)
theorem HSH_next (l : List Int) (i : Nat) : l.take (32 * (i + 1)) = l.take (32 * i) ++ HSH l i := by
  unfold HSH
  rw [show 32 * (i + 1) = 32 * i + 32 by omega, List.take_add]
theorem info_hash32 : (Tryz.prog.info? 38).map (·.size) = some 32 := by kernel_rfl
theorem info_cells {h : List Int} (hl : h.length = 32) : (Tryz.prog.info? 38).map (·.size) = some (CELLS h).length := by
  rw [info_hash32, show (CELLS h).length = 32 by simp [CELLS, hl]]
theorem info_arr {h : List Int} (hl : h.length = 32) : (Tryz.prog.info? 38).map (·.size) = some (CELLS h).toArray.size := by
  rw [info_hash32, show (CELLS h).toArray.size = 32 by simp [CELLS, hl]]
theorem cells_one (h : List Int) : (CELLS h).toArray.all (·.oneCell') = true := by
  rw [Array.all_eq_true_iff_forall_mem]
  intro v hv
  exact CELLS_one h v (by simpa using hv)
theorem Flat.at {w : World} {b o n : Nat} {l : List Int} {i : Nat} (h : Flat w (some ⟨b, o, none⟩) n l) (hi : i < n) : w.rangeAt b (o + i * 32) (CELLS (HSH l i)) := by
  intro j v hv
  obtain ⟨b', o', e, _, hc⟩ := h.2.1 (by omega)
  simp only [Option.some.injEq, Addr.mk.injEq] at e
  obtain ⟨rfl, rfl, _⟩ := e
  have hj : j < 32 := by
    have := (List.getElem?_eq_some_iff.1 hv).1
    rw [show (CELLS (HSH l i)).length = 32 by simp [CELLS, HSH_length h.1 hi]] at this
    exact this
  rw [CELLS_get _ _ (by rw [HSH_length h.1 hi]; exact hj), HSH_at hj] at hv
  rw [show o + i * 32 + j = o + (32 * i + j) by omega, hc _ (by omega)]
  exact hv
/-- a box that holds a hash reads as its bytes. -/
theorem box_bytes (w : World) {h : List Int} (hl : h.length = 32) (hr : ∀ x ∈ h, 0 ≤ x ∧ x ≤ 255) (t : TypeId) : Bytes (w.alloc (.cells (CELLS h).toArray t)) (some ⟨w.heap.size, 0, none⟩) 32 h := by
  refine ⟨hl, fun _ => ⟨w.heap.size, 0, rfl, by simp, fun i hi => ?_⟩, hr⟩
  rw [Nat.zero_add, World.cell?_alloc_at _ _ _ _ rfl, List.getElem?_toArray, CELLS_get h i (by omega)]
theorem own_one (w : World) (x : Int) : (w.alloc (.cells #[.int .u8 x] 5)).ownsRow w.heap.size 5 1 (.slice (some ⟨w.heap.size, 0, none⟩) 1 1) 1 (CELLS [x]) :=
  World.ownsRow_lit w #[.int .u8 x] 1 (Nat.le_refl _) (by simp [maxLen]) rfl
theorem own_len {w : World} {base n : Nat} {v : Value} {l : List Int} (h : w.ownsRow base 5 1 v n (CELLS l)) : l.length = n := by
  have := h.1
  simpa [CELLS] using this

end Go.Proofs.YtlicfinmibbpdaaGreatDoor

/- What Encode and EncodePrefix answer, of any proof; the law's awake. -/
namespace Go.Proofs.YtlicfinmibbpdaaGreatDoor
open Go.RowKit
set_option maxRecDepth 100000

/-! the law's awake -/
end Go.Proofs.YtlicfinmibbpdaaGreatDoor

/- What the document's Span answers. -/
namespace Go.Proofs.YtlicfinmibbpdaaGreatDoor
open Go.RowKit

end Go.Proofs.YtlicfinmibbpdaaGreatDoor

/- What the document's Places and PrefixPlaces answer; two lists of numbers that read the same or not. -/
namespace Go.Proofs.YtlicfinmibbpdaaGreatDoor
open Go.RowKit
set_option maxRecDepth 100000

end Go.Proofs.YtlicfinmibbpdaaGreatDoor

/- Two lists of numbers that read the same; a list written over and grown; does it have the mark alone? -/
namespace Go.Proofs.YtlicfinmibbpdaaGreatDoor
open Go.RowKit
set_option maxRecDepth 100000

theorem grown_trans {w w1 w2 : World} {r r' : Option Nat} (h : w.grownBy w1 r) (h' : w1.grownBy w2 r') (hr : r' = r ∨ ∀ g, r' = some g → w.heap.size ≤ g) : w.grownBy w2 r := by
  obtain ⟨a1, a2, a3, a4, a5⟩ := h
  obtain ⟨b1, b2, b3, b4, b5⟩ := h'
  refine ⟨by rw [b1, a1], by rw [b2, a2], by rw [b3, a3], Nat.le_trans a4 b4, fun k hk hne => ?_⟩
  rw [b5 k (by omega) (fun e => ?_), a5 k hk hne]
  rcases hr with hr | hr
  · exact hne (by rw [e, hr])
  · have := hr k e.symm
    omega
theorem grown_size {w w' : World} {r : Option Nat} (h : w.grownBy w' r) : w.heap.size ≤ w'.heap.size := by
  obtain ⟨_, _, _, hs, _⟩ := h
  exact hs
theorem own_form {w : World} {B n g m c : Nat} {xs : List Value} (h : w.ownsRow B 23 1 (.slice (some ⟨g, 0, none⟩) m c) n xs) : m = n := by
  rcases h.2 with ⟨e, _⟩ | ⟨_, _, _, e, _⟩
  · simp at e
  · simp at e
    omega
/-- the first j cells are the mark. -/
def OVER (xs : List Value) (u : Value) (j : Nat) : List Value := List.replicate j u ++ xs.drop j
theorem OVER_zero (xs : List Value) (u : Value) : OVER xs u 0 = xs := by simp [OVER]
theorem OVER_all (xs : List Value) (u : Value) : OVER xs u xs.length = List.replicate xs.length u := by simp [OVER]
theorem OVER_next {xs : List Value} {u : Value} {j : Nat} (hj : j < xs.length) : (OVER xs u j).set j u = OVER xs u (j + 1) := by
  unfold OVER
  rw [List.set_append_right _ _ (by simp)]
  simp only [List.length_replicate, Nat.sub_self]
  rw [List.drop_eq_getElem_cons hj, List.set_cons_zero, List.replicate_succ']
  simp
end Go.Proofs.YtlicfinmibbpdaaGreatDoor

/- Steps of a region that draws its order, one operation at a time. -/
namespace Go.Proofs.YtlicfinmibbpdaaGreatDoor
open Go.RowKit
set_option maxRecDepth 100000

theorem step_skip {ops : Array Oper} {o : Oper} {a : Act} {w w' : World} {K : Act → World → Prop} {Q : Exit → Act → World → Prop} {E : Prop} (hg : o.guard = none)
    (hrun : (execOp a.eval o).run Tryz.prog w = .ok .skip w') (h : K (a.put o.dst undef) w') : if Region.wanted o (yielded ops a.tmps) = true then Oper.wp Tryz.prog o a w K Q else E := by
  have hw : Region.wanted o (yielded ops a.tmps) = true := by simp [Region.wanted, hg]
  rw [if_pos hw]
  unfold Oper.wp
  rw [hrun]
  exact h
theorem run_skip {s : Sem Unit} {w w' : World} (h : s.run Tryz.prog w = .ok () w') : (do s; pure Next.skip : Sem Next).run Tryz.prog w = .ok .skip w' := by
  simp [h]
theorem run_value {s : Sem Value} {w w' : World} {v : Value} (h : s.run Tryz.prog w = .ok v w') : (do pure (Next.value (← s)) : Sem Next).run Tryz.prog w = .ok (.value v) w' := by
  simp [h, Result.andThen]
end Go.Proofs.YtlicfinmibbpdaaGreatDoor

/- Hashes as cells: held against each other, put behind a list, a list of one; a row whose block stays. -/
namespace Go.Proofs.YtlicfinmibbpdaaGreatDoor
open Go.RowKit
set_option maxRecDepth 100000

theorem own_heap {w w' : World} {B : Nat} {t : TypeId} {s : Nat} {v : Value} {n : Nat} {xs : List Value} (h : w.ownsRow B t s v n xs) (hk : ∀ k, v.ownBlock = some k → w'.heap[k]? = w.heap[k]?) : w'.ownsRow B t s v n xs := by
  refine ⟨h.1, ?_⟩
  rcases h.2 with h | ⟨g, cap, cur, rfl, hb, hg, r⟩
  · exact .inl h
  · exact .inr ⟨g, cap, cur, rfl, hb, by rw [hk g rfl]; exact hg, r⟩
def ZND : List Int := List.replicate 32 0
/-- a hash that is zero, cell by cell. -/
abbrev ZARR : Array Value := #[.int .u8 0, .int .u8 0, .int .u8 0, .int .u8 0, .int .u8 0, .int .u8 0, .int .u8 0, .int .u8 0, .int .u8 0, .int .u8 0, .int .u8 0, .int .u8 0, .int .u8 0, .int .u8 0, .int .u8 0, .int .u8 0, .int .u8 0, .int .u8 0, .int .u8 0, .int .u8 0, .int .u8 0, .int .u8 0, .int .u8 0, .int .u8 0, .int .u8 0, .int .u8 0, .int .u8 0, .int .u8 0, .int .u8 0, .int .u8 0, .int .u8 0, .int .u8 0]
theorem ZARR_eq : (CELLS ZND).toArray = ZARR := rfl
theorem info_hashv : (Tryz.prog.info? 38).map (fun i => (i.zero, i.size, i.bytes)) = some (some (.agg ZARR), 32, 32) := by kernel_rfl
theorem app_hash {ops : Array Oper} {rest : List Oper} {o : Oper} {a : Act} {Q : Exit → Act → World → Prop} (w : World) (hgd : o.guard = none) (s x : Operand)
    (ho : o.op = .call { callee := .builtin .append, args := #[s, x], argTypes := #[22, 22] })
    (base : Nat) (v : Value) (n : Nat) (xs : List Value) (hs : a.eval s = v) (hown : w.ownsRow base 38 32 v n xs)
    (b c : Nat) (y : List Int) (hl : y.length = 32) (hx : a.eval x = .slice (some ⟨b, 0, none⟩) 1 c) (hc : Has w b (CELLS y).toArray 38)
    (hb : n ≤ 1000) (hbase : base ≤ w.heap.size)
    (h : ∀ g cap w', w'.ownsRow base 38 32 (.slice (some ⟨g, 0, none⟩) (n + 1) cap) (n + 1) (xs ++ CELLS y) → w.grownBy w' v.ownBlock → (v.ownBlock = some g ∨ g = w.heap.size) → g < w'.heap.size → wpList Tryz.prog ops Q rest (a.put o.dst (.slice (some ⟨g, 0, none⟩) (n + 1) cap)) w') : wpList Tryz.prog ops Q (o :: rest) a w := by
  obtain ⟨i, hi, hz, hs1, hby⟩ := info_parts info_hashv
  refine wpList_append_lies w hgd s x 22 ho base 38 i (.agg ZARR) 32 32 Tryz.underlying22 hi hz hs1 hby rfl (by decide) v n xs hs hown ⟨b, 0, none⟩ 1 c (CELLS y) hx (by rw [CELLS, List.length_map, hl]) ?_ (CELLS_one y) (by decide) (by simp only [maxLen]; omega) (by omega) hbase w.heap.size rfl h
  intro j u hj
  rw [addr_add, Nat.zero_add, hc.cell, List.getElem?_toArray]
  exact hj
/-- a list of one aggregate. -/
theorem build_one {ops : Array Oper} {rest : List Oper} {o : Oper} {a : Act} {Q : Exit → Act → World → Prop} (w : World) (hg : o.guard = none) (t e : TypeId) (x : Operand) (ho : o.op = .buildSlice t 1 #[(0, x)]) (C : Array Value) (hx : a.eval x = .agg C) (n : Nat) (z : Value) (by' : Nat)
    (hu : Tryz.prog.underlying t = some (.slice e)) (hi : (Tryz.prog.info? e).map (fun i => (i.zero, i.size, i.bytes)) = some (some z, n, by')) (hC : C.size = n) (hz : z.cells.size = n) (hn : 0 < n) (hs : n ≤ 1000)
    (h : wpList Tryz.prog ops Q rest (a.put o.dst (.slice (some ⟨w.heap.size, 0, none⟩) 1 1)) (w.alloc (.cells C e))) : wpList Tryz.prog ops Q (o :: rest) a w := by
  obtain ⟨i, hie, hz', hs1, _⟩ := info_parts hi
  refine wpList_buildSlice hg t e 1 _ ho C i z hu hie hz' (by rw [hs1]; omega) (by rw [hs1]; omega) ?_ h
  have := Great.fill_whole (s := n) hn [.agg C] ((Array.range (1 * i.size)).map (z.cells[· % z.cells.size]!)) (fun v hv => by simp at hv; subst hv; exact hC) (by simp [hs1])
  simp [Value.cells] at this
  rw [hs1]
  simp [hx]
  rw [hs1] at this
  exact this
theorem items_cells (d : Nat) (h g : List Int) (hh : h.length = 32) (hg : g.length = 32) (w : World) : ∀ is : List Nat, (∀ i ∈ is, i < 32) → (Op.eqItems (d + 1) 5 1 (CELLS h).toArray (CELLS g).toArray is).run Tryz.prog w = .ok (is.all fun i => h.getD i 0 == g.getD i 0) w
  | [], _ => by simp [Op.eqItems]
  | i :: is, hi => by
    have hp : Tryz.prog.plainKey 5 = true := by kernel_rfl
    have hi32 : i < 32 := hi i (by simp)
    have h1 := run_part_plain (P := Tryz.prog) w hp (show (CELLS h).toArray[i]? = some (.int .u8 (h.getD i 0)) by rw [List.getElem?_toArray, CELLS_get h i (by omega)])
    have h2 := run_part_plain (P := Tryz.prog) w hp (show (CELLS g).toArray[i]? = some (.int .u8 (g.getD i 0)) by rw [List.getElem?_toArray, CELLS_get g i (by omega)])
    have h3 := run_equalIn_int (P := Tryz.prog) w d 5 .u8 .u8 (h.getD i 0) (g.getD i 0) Tryz.underlying5
    have ih := items_cells d h g hh hg w is (fun j hj => hi j (by simp [hj]))
    rw [Op.eqItems, Nat.mul_one]
    simp only [Sem.run_bind, h1, h2, h3, Result.andThen_ok]
    by_cases e : h.getD i 0 = g.getD i 0
    · have e2 : (h.getD i 0 == g.getD i 0) = true := by simpa using e
      rw [List.all_cons, e2, Bool.true_and, if_neg (by simp)]
      exact ih
    · have e2 : (h.getD i 0 == g.getD i 0) = false := by simpa using e
      rw [List.all_cons, e2]
      simp
theorem equal_cells (h g : List Int) (hh : h.length = 32) (hg : g.length = 32) (w : World) : (Op.equalIn 10000 38 (.agg (CELLS h).toArray) (.agg (CELLS g).toArray)).run Tryz.prog w = .ok ((List.range 32).all fun i => h.getD i 0 == g.getD i 0) w := by
  obtain ⟨i8, hi, _⟩ := Option.map_eq_some_iff.1 info_u8
  rw [run_equalIn_array (P := Tryz.prog) w 9999 (CELLS h).toArray (CELLS g).toArray Tryz.underlying38 hi]
  have hc : Tryz.prog.cellsOf 5 = 1 := by kernel_rfl
  rw [hc]
  exact items_cells 9998 h g hh hg w _ (fun i hi => by simpa using hi)
theorem neq_cells (h : List Int) (hh : h.length = 32) (x y : Operand) (w : World) : (do eqGuard .neq 38 x y (.agg (CELLS h).toArray) (.agg (CELLS h).toArray); binOp .neq 38 (.agg (CELLS h).toArray) (.agg (CELLS h).toArray) : Sem Value).run Tryz.prog w = .ok (.bool false) w := by
  simp only [Sem.run_bind, run_eqGuard_agg (P := Tryz.prog) w .neq 38 x y _ _ (by kernel_rfl), Result.andThen_ok, run_neq_struct, equal_cells h h hh hh]
  simp
theorem all_cells {h g : List Int} (hh : h.length = 32) (hg : g.length = 32) : ((List.range 32).all fun i => h.getD i 0 == g.getD i 0) = decide (h = g) := by
  by_cases e : h = g
  · subst e
    simp
  · rw [decide_eq_false e, Bool.eq_false_iff]
    intro hx
    rw [List.all_eq_true] at hx
    apply e
    apply List.ext_getElem (by omega)
    intro i h1 h2
    have := hx i (by simp; omega)
    simpa [List.getD, h1, h2] using this
theorem equal_hashes {h g : List Int} (hh : h.length = 32) (hg : g.length = 32) (w : World) : (Op.equalIn 10000 38 (.agg (CELLS h).toArray) (.agg (CELLS g).toArray)).run Tryz.prog w = .ok (decide (h = g)) w := by
  rw [equal_cells h g hh hg, all_cells hh hg]
theorem neq_hashes {h g : List Int} (hh : h.length = 32) (hg : g.length = 32) (x y : Operand) (w : World) : (do eqGuard .neq 38 x y (.agg (CELLS h).toArray) (.agg (CELLS g).toArray); binOp .neq 38 (.agg (CELLS h).toArray) (.agg (CELLS g).toArray) : Sem Value).run Tryz.prog w = .ok (.bool (!decide (h = g))) w := by
  simp only [Sem.run_bind, run_eqGuard_agg (P := Tryz.prog) w .neq 38 x y _ _ (by kernel_rfl), Result.andThen_ok, run_neq_struct, equal_hashes hh hg]
theorem eql_hashes {h g : List Int} (hh : h.length = 32) (hg : g.length = 32) (x y : Operand) (w : World) : (do eqGuard .eql 38 x y (.agg (CELLS h).toArray) (.agg (CELLS g).toArray); binOp .eql 38 (.agg (CELLS h).toArray) (.agg (CELLS g).toArray) : Sem Value).run Tryz.prog w = .ok (.bool (decide (h = g))) w := by
  simp only [Sem.run_bind, run_eqGuard_agg (P := Tryz.prog) w .eql 38 x y _ _ (by kernel_rfl), Result.andThen_ok, run_eql_struct, equal_hashes hh hg]
end Go.Proofs.YtlicfinmibbpdaaGreatDoor

/- The hashes of two hashes, of a root, as lists of bytes. -/
namespace Go.Proofs.YtlicfinmibbpdaaGreatDoor
open Go.RowKit
set_option maxRecDepth 100000

/-- a hash by a function, as a list. -/
def LST (f : Nat → Nat) : List Int := (List.range 32).map fun i => ((f i : Nat) : Int)
/-- a list, by a function. -/
def FNC (h : List Int) (i : Nat) : Nat := (h.getD i 0).toNat
/-- is this a hash? -/
def IsH (h : List Int) : Prop := h.length = 32 ∧ ∀ x ∈ h, 0 ≤ x ∧ x ≤ 255
theorem LST_length (f : Nat → Nat) : (LST f).length = 32 := by simp [LST]
theorem LST_is {f : Nat → Nat} (h : ∀ i, f i < 256) : IsH (LST f) := ⟨LST_length f, fun x hx => by
  obtain ⟨i, _, rfl⟩ := List.mem_map.1 hx
  have := h i
  omega⟩
theorem uarr_cells (f : Nat → Nat) : HX.UARR .u8 32 f = (CELLS (LST f)).toArray := by
  unfold HX.UARR CELLS LST
  rw [List.map_map]
  rfl
theorem LST_FNC {h : List Int} (hh : IsH h) : LST (FNC h) = h := by
  apply List.ext_getElem (by rw [LST_length, hh.1])
  intro i h1 h2
  simp only [LST, List.getElem_map, List.getElem_range, FNC]
  have := hh.2 h[i] (List.getElem_mem h2)
  rw [List.getD_eq_getElem?_getD, List.getElem?_eq_getElem h2, Option.getD_some]
  omega
theorem cells_uarr {h : List Int} (hh : IsH h) : (CELLS h).toArray = HX.UARR .u8 32 (FNC h) := by rw [uarr_cells, LST_FNC hh]
theorem FNC_lt {h : List Int} (hh : IsH h) (i : Nat) : FNC h i < 256 := by
  unfold FNC
  by_cases hi : i < h.length
  · rw [List.getD_eq_getElem?_getD, List.getElem?_eq_getElem hi, Option.getD_some]
    have := hh.2 h[i] (List.getElem_mem hi)
    omega
  · rw [List.getD_eq_getElem?_getD, List.getElem?_eq_none (by omega)]
    decide
/-- the bytes of a hash. -/
def NATS (h : List Int) : List Nat := (List.range 32).map (FNC h)
def NODEH (d : Int) (l r : List Int) : List Int := LST (HX.HASHOF d (1 :: (NATS l ++ NATS r)))
theorem NODEH_is (d : Int) (l r : List Int) : IsH (NODEH d l r) := LST_is fun i => HX.STATE_lt d _ _ i
theorem nodeh_ok (d : Int) (l r : List Int) (hl : IsH l) (hr : IsH r) (w : World) (hT : HX.Tabled w) : Calls Tryz.prog 47 #[.int .i64 d, .agg (CELLS l).toArray, .agg (CELLS r).toArray] w fun e w' => e = .returned (.agg (CELLS (NODEH d l r)).toArray) ∧ Below w.heap.size w w' := by
  rw [cells_uarr hl, cells_uarr hr]
  refine (HX.node_ok d (FNC l) (FNC r) (FNC_lt hl) (FNC_lt hr) w hT).mono ?_
  rintro e w' ⟨rfl, hb⟩
  exact ⟨by rw [uarr_cells]; rfl, hb⟩
end Go.Proofs.YtlicfinmibbpdaaGreatDoor

/- Parts of lists of hashes: s[k:]. -/
namespace Go.Proofs.YtlicfinmibbpdaaGreatDoor
open Go.RowKit
set_option maxRecDepth 100000

/-- where s[k:] of hashes begins. -/
def SLA (a : Option Addr) (c k : Nat) : Option Addr := match a with
  | none => none
  | some ad => if c = k then some ad else some ⟨ad.block, ad.off + k * 32, none⟩
theorem slice_hashes (b off n c k : Nat) (hk : k ≤ n) (hc : n ≤ c) (w : World) : (Instr.slice 22 (.slice (some ⟨b, off, none⟩) n c) (some (.int .i64 (k : Int))) none none).run Tryz.prog w = .ok (.slice (SLA (some ⟨b, off, none⟩) c k) (n - k) (c - k)) w := by
  have k1 : (k : Int) ≤ (n : Int) := by omega
  by_cases e : c = k
  · obtain rfl : n = c := by omega
    subst e
    simp [SLA, go_sem]
  · simp [SLA, e, go_sem, k1, Addr.add]
theorem Flat.behind {w : World} {a : Option Addr} {n c : Nat} {l : List Int} (h : Flat w a n l) (k : Nat) (hk : k ≤ n) (hc : n ≤ c) : Flat w (SLA a c k) (n - k) (l.drop (32 * k)) := by
  refine ⟨by rw [List.length_drop, h.1]; omega, fun h0 => ?_, fun x hx => h.2.2 x (List.mem_of_mem_drop hx)⟩
  obtain ⟨b, o, rfl, hb, hcs⟩ := h.2.1 (by omega)
  have hck : ¬ c = k := by omega
  refine ⟨b, o + k * 32, by simp [SLA, hck], hb, fun j hj => ?_⟩
  rw [show o + k * 32 + j = o + (32 * k + j) by omega, hcs (32 * k + j) (by omega)]
  congr 2
  rw [List.getD_eq_getElem?_getD, List.getD_eq_getElem?_getD, List.getElem?_drop]
end Go.Proofs.YtlicfinmibbpdaaGreatDoor
