/- Texts of ProofWrites, one behind the other: PosRefPath, PosAwake, PosFour, CutCalls, CutHas. -/
import Derived.Deep.QuietTactic
import Derived.BigQuiet
import Derived.Test.YtfjmbfppilfepaaDoorProofWritesP7
import Derived.Test.YtfjmbfppilfepaaDoorProofWritesP9
import Derived.Test.YtfjmbfppilfepaaDoorProofWritesP11
import Derived.Test.YtfjmbfppilfepaaDoorProofWritesP12
/- What the document's Path gives. -/
namespace Go.Proofs.YtfjmbfppilfepaaDoor
open Go.RowKit

theorem refpath_not (i n : Int) (h : ¬ (i < n ∧ n ≤ 4611686018427387904)) (w : World) : Calls Tryd.prog 88 #[.int .u64 i, .int .u64 n] w fun e w' => e = .returned (.tuple #[.slice none 0 0, .bool false]) ∧ w = w' := by
  have c := refpeak_not i n h
  clear h
  go_enter Tryd.func88, Tryd.ntmps88
  go_wp2_with fail
  refine (c _).mono ?_
  rintro e w' ⟨rfl, rfl⟩
  clear c
  go_wp2
  go_ret2
  exact ⟨rfl, rfl⟩
set_option maxHeartbeats 2000000 in
theorem refpath_ok (i n : Nat) (hi : i < n) (hn : n ≤ 4611686018427387904) (w : World) : Calls Tryd.prog 88 #[.int .u64 (i : Int), .int .u64 (n : Int)] w fun e w' =>
    ∃ v, e = .returned (.tuple #[v, .bool true]) ∧ w'.ownsRow w.heap.size 22 1 v (RISE i n) (UCELLS (WAY i (RISE i n))) ∧ Below w.heap.size w w' := by
  have c1 := refpeak_ok i n hi hn w
  have c2 := tops_spots n hn
  have hK := KTH_lt hi hn
  have hP := PC_lt_pow 64 n (by omega)
  have hT := TOPS_at (n := n) (by omega) hK
  rw [HGT_KTH hi hn] at hT
  have h62 := (RISE_spec hi hn).2.1
  have hlt : i < 4611686018427387904 := by omega
  generalize KTH i n = K at *
  generalize PC n = L at *
  generalize KGT n K = kk at *
  generalize TOPS 0 n = l at *
  generalize RISE i n = H at *
  have HA : Aside (K < L ∧ L ≤ 64 ∧ l[K]? = some (H, kk) ∧ H ≤ 62 ∧ i < 4611686018427387904) := ⟨hK, hP, hT, h62, hlt⟩
  have hKL : (K : Int) < (L : Int) := by omega
  have hK0 : ¬ (K : Int) < 0 := by omega
  clear hi hn hK hP hT h62 hlt
  go_enter Tryd.func88, Tryd.ntmps88
  go_wp2_with fail
  refine c1.mono ?_
  rintro e w1 ⟨rfl, hb⟩
  have R1 : Aside (Below w.heap.size w w1) := hb
  clear c1 hb
  go_wp2_with fail
  refine (c2 _).mono ?_
  rintro e w2 ⟨a, cap, rfl, hs, hb⟩
  obtain ⟨g, rfl, hg, hc⟩ := hs (by have := (List.getElem?_eq_some_iff.1 HA.out.2.2.1).1; omega)
  have y0 := (hc _ _ _ HA.out.2.2.1).1
  replace R1 : Aside (Below w.heap.size w w2) := R1.out.trans (hb.mono R1.out.size)
  clear c2 hb hs hc hg
  go_wp2
  have hB : Below w2.heap.size w2 (w2.alloc (.cells #[.int .u8 0, .int .u64 (i : Int)] 99)) := (Below.refl _ _).alloc (Nat.le_refl _) _
  have hH := Has.new w2 #[.int .u8 0, .int .u64 (i : Int)] 99
  have R2 : Aside (Below w.heap.size w (w2.alloc (.cells #[.int .u8 0, .int .u64 (i : Int)] 99)) ∧ Has (w2.alloc (.cells #[.int .u8 0, .int .u64 (i : Int)] 99)) w2.heap.size #[.int .u8 0, .int .u64 (i : Int)] 99 ∧ w.heap.size ≤ w2.heap.size) := ⟨R1.out.trans (hB.mono R1.out.size), hH, R1.out.size⟩
  generalize w2.alloc (.cells #[.int .u8 0, .int .u64 (i : Int)] 99) = w3 at *
  clear hB hH R1 y0
  generalize w2.heap.size = sb at *
  go_loopg [8] H (fun q s8 wx => ∃ j : Nat, Aside (j + q = H ∧ wx.ownsRow (sb + 1) 22 1 s8 j (UCELLS (WAY i j)) ∧ Has wx sb #[.int .u8 (j : Int), .int .u64 ((i / 2 ^ j : Nat) : Int)] 99 ∧ Below w.heap.size w wx))
  case atStart => exact ⟨0, by omega, ⟨rfl, .inl ⟨rfl, rfl⟩⟩, by rw [Nat.pow_zero, Nat.div_one]; exact R2.out.2.1, R2.out.1⟩
  case round =>
    obtain ⟨j, A⟩ := hrel
    have y0 : wr.cell? ⟨sb, 0, none⟩ = some (.int .u8 (j : Int)) := A.out.2.2.1.cell 0
    cases gk with
    | zero =>
      obtain rfl : j = H := by have := A.out.1; omega
      have hlt : ¬ (j : Int) < (j : Int) := by omega
      go_wp2
      go_ret2
      obtain ⟨_, hown, _, hbel⟩ := A.out
      exact ⟨_, rfl, own_mono hown (by have := R2.out.2.2; omega), hbel⟩
    | succ q =>
      have y1 : wr.cell? ⟨sb, 1, none⟩ = some (.int .u64 ((i / 2 ^ j : Nat) : Int)) := A.out.2.2.1.cell 1
      have hjH : j < H := by have := A.out.1; omega
      have hlt : (j : Int) < (H : Int) := by omega
      have hN := Node.over HA.out.2.2.2.2 j (by have := HA.out.2.2.2.1; omega)
      have cp := fun w => refplace_ok j (i / 2 ^ j) hN w
      have cs := fun w => refsibling_ok j (i / 2 ^ j) hN (by have := HA.out.2.2.2.1; omega) w
      have e1 : ((j : Int) + 1) % 256 = ((j + 1 : Nat) : Int) := by have := HA.out.2.2.2.1; omega
      have hk64 : i / 2 ^ j < 2 ^ 62 := hN.index_lt
      have hw := WAY_succ i j
      have hhalf := half_pow i j
      have hj63 : j ≤ 63 := by have := HA.out.2.2.2.1; omega
      generalize hk : i / 2 ^ j = k at *
      generalize hk2 : i / 2 ^ (j + 1) = k2 at *
      have e2 : (k : Int) / 2 = (k2 : Int) := by omega
      have e3 : IntKind.u64.wrap (k2 : Int) = (k2 : Int) := wr_id (by omega)
      generalize PLC j k = x at *
      generalize PLC j (SIB k) = y at *
      have R : Aside (j + 1 + q = H ∧ wr.ownsRow (sb + 1) 22 1 u8 j (UCELLS (WAY i j)) ∧ Has wr sb #[.int .u8 (j : Int), .int .u64 (k : Int)] 99 ∧ Below w.heap.size w wr ∧ j ≤ 1000 ∧ WAY i (j + 1) = WAY i j ++ [y] ∧ i / 2 ^ (j + 1) = k2 ∧ w.heap.size ≤ sb) := ⟨by have := A.out.1; omega, A.out.2.1, A.out.2.2.1, A.out.2.2.2, by omega, hw, hk2, R2.out.2.2⟩
      clear A HA R2 hjH hN hk64 hw hhalf hj63 hk hk2
      go_wp2_with fail
      refine (cp _).mono ?_
      rintro e w4 ⟨rfl, hb⟩
      obtain ⟨r1, r2, r3, r4, r5, r6, r7, r8⟩ := R.out
      replace R : Aside (j + 1 + q = H ∧ w4.ownsRow (sb + 1) 22 1 u8 j (UCELLS (WAY i j)) ∧ Has w4 sb #[.int .u8 (j : Int), .int .u64 (k : Int)] 99 ∧ Below w.heap.size w w4 ∧ j ≤ 1000 ∧ WAY i (j + 1) = WAY i j ++ [y] ∧ i / 2 ^ (j + 1) = k2 ∧ w.heap.size ≤ sb) := ⟨r1, own_below r2 hb, r3.keep hb, r4.trans (hb.mono r4.size), r5, r6, r7, r8⟩
      clear cp hb y0 y1 r1 r2 r3 r4 r5 r6 r7 r8
      go_wp2_with fail
      refine (cs _).mono ?_
      rintro e w5 ⟨rfl, hb⟩
      obtain ⟨r1, r2, r3, r4, r5, r6, r7, r8⟩ := R.out
      replace R : Aside (j + 1 + q = H ∧ w5.ownsRow (sb + 1) 22 1 u8 j (UCELLS (WAY i j)) ∧ Has w5 sb #[.int .u8 (j : Int), .int .u64 (k : Int)] 99 ∧ Below w.heap.size w w5 ∧ j ≤ 1000 ∧ WAY i (j + 1) = WAY i j ++ [y] ∧ i / 2 ^ (j + 1) = k2 ∧ w.heap.size ≤ sb) := ⟨r1, own_below r2 hb, r3.keep hb, r4.trans (hb.mono r4.size), r5, r6, r7, r8⟩
      clear cs hb r1 r2 r3 r4 r5 r6 r7 r8
      go_wp2_with (at_builtin; refine app_u64 _ rfl (.tmp 45) (.tmp 47) rfl (sb + 1) u8 j (WAY i j) rfl (R.out.2.1.alloc _) w5.heap.size 1 y rfl (by rw [World.cell?_alloc_at _ _ _ _ rfl]; rfl) R.out.2.2.2.2.1 (by have := R.out.2.2.1.lt; simp; omega) ?_; intro g' cap' w6 hown hgrow hg; have HH : Aside (Has w6 sb #[.int .u8 (j : Int), .int .u64 (k : Int)] 99) := Has.below (R.out.2.2.1.alloc _) ((Below.refl (sb + 1) _).grown hgrow (by have := R.out.2.2.1.lt; simp; omega) (fun k e => (R.out.2.1.lt k e).1)) (Nat.lt_succ_self _); have y0 : w6.cell? ⟨sb, 0, none⟩ = some (.int .u8 (j : Int)) := HH.out.cell 0; have y1 : w6.cell? ⟨sb, 1, none⟩ = some (.int .u64 (k : Int)) := HH.out.cell 1; have z0 : w6.frozen? ⟨sb, 0, none⟩ = false := HH.out.frozen 0; have z1 : w6.frozen? ⟨sb, 1, none⟩ = false := HH.out.frozen 1)
      obtain ⟨r1, r2, r3, r4, r5, r6, r7, r8⟩ := R.out
      have R3 : Aside (j + 1 + q = H ∧ w6.ownsRow (sb + 1) 22 1 (.slice (some ⟨g', 0, none⟩) (j + 1) cap') (j + 1) (UCELLS (WAY i (j + 1))) ∧ Has w6 sb #[.int .u8 (j : Int), .int .u64 (k : Int)] 99 ∧ Below w.heap.size w w6 ∧ i / 2 ^ (j + 1) = k2 ∧ w.heap.size ≤ sb) := ⟨r1, by rw [r6]; exact hown, HH.out, (r4.alloc r4.size _).grown hgrow (by have := r4.size; simp; omega) (fun k e => by have := (r2.lt k e).1; omega), r7, r8⟩
      clear hown hgrow hg R r1 r2 r3 r4 r5 r6 r7 r8 HH y0 y1 z0 z1
      go_roundg q
      case measure => omega
      case rel =>
        obtain ⟨r1, r2, r3, r4, r7, r8⟩ := R3.out
        refine ⟨j + 1, r1, ownsRow_setCell_below (ownsRow_setCell_below r2 (Nat.lt_succ_self _) _) (Nat.lt_succ_self _) _, ?_, (r4.setCell r8 _).setCell r8 _⟩
        have h := (r3.set 0 (.int .u8 ((j : Int) + 1))).set 1 (.int .u64 (k2 : Int))
        rw [r7]
        exact h
end Go.Proofs.YtfjmbfppilfepaaDoor

/- awake answers true: the forest of seven leaves. -/
namespace Go.Proofs.YtfjmbfppilfepaaDoor
open Go.RowKit

theorem PEAKS_seven : PEAKS 7 = [6, 9, 10] := by
  have h : HS 0 7 = [2, 1, 0] := by rw [HS_zero]; decide
  have p2 : PKP 7 2 = 6 := by
    unfold PKP PLC NODES
    simp [PC_zero]
  have p1 : PKP 7 1 = 9 := by
    unfold PKP PLC NODES
    have := PC_pow 2
    simp at this
    simp [this]
  have p0 : PKP 7 0 = 10 := by
    unfold PKP PLC NODES
    have h1 := PC_even 3
    have h2 := PC_ones 2
    simp at h1 h2
    simp [h1, h2]
  unfold PEAKS
  rw [h]
  simp [p0, p1, p2]
theorem PC_seven : PC 7 = 3 := PC_ones 3
theorem NODES_seven : NODES 7 = 11 := by
  unfold NODES
  rw [PC_seven]
theorem PLC_nine : PLC 1 2 = 9 := by
  unfold PLC NODES
  have := PC_pow 2
  simp at this
  simp [this]
/-- a list of numbers, cell by cell. -/
theorem row_at {w : World} {base g n cap : Nat} {l : List Nat} (h : w.ownsRow base 22 1 (.slice (some ⟨g, 0, none⟩) n cap) n (UCELLS l)) (i : Nat) (hi : i < l.length) : w.cell? ⟨g, i, none⟩ = some (.int .u64 (l.getD i 0 : Nat)) := by
  have hlen : l.length = n := by have := h.1; simpa [UCELLS] using this
  rw [h.cellAt i (by omega)]
  unfold UCELLS
  rw [List.getElem?_map, List.getD_eq_getElem?_getD, List.getElem?_eq_getElem hi]
  rfl
end Go.Proofs.YtfjmbfppilfepaaDoor

/- Two lists that read the same; four lists of one's own, none of which shares a block with another. -/
namespace Go.Proofs.YtfjmbfppilfepaaDoor
open Go.RowKit

/-- a list of numbers lies there. -/
def Nums (w : World) (v : Value) (l : List Nat) : Prop := ∃ a cap, v = .slice a l.length cap ∧ (0 < l.length → ∃ g, a = some ⟨g, 0, none⟩ ∧ g < w.heap.size ∧ ∀ (j : Nat), j < l.length → w.cell? ⟨g, j, none⟩ = some (.int .u64 ((l.getD j 0 : Nat) : Int)))
theorem Nums.below {w w' : World} {v : Value} {l : List Nat} {B : Nat} (h : Nums w v l) (hb : Below B w w') (hB : w.heap.size ≤ B) : Nums w' v l := by
  obtain ⟨a, cap, rfl, h⟩ := h
  refine ⟨a, cap, rfl, fun h0 => ?_⟩
  obtain ⟨g, e, hg, hc⟩ := h h0
  exact ⟨g, e, Nat.lt_of_lt_of_le hg hb.size, fun j hj => (hb.cell (p := ⟨g, j, none⟩) (Nat.lt_of_lt_of_le hg hB)).trans (hc j hj)⟩
theorem nums_own {w : World} {base : Nat} {v : Value} {l : List Nat} (h : w.ownsRow base 22 1 v l.length (UCELLS l)) : Nums w v l := by
  rcases h.2 with ⟨rfl, h0⟩ | ⟨g, cap, cur, rfl, hb, hg, r⟩
  · rw [List.length_eq_zero_iff] at h0
    subst h0
    exact ⟨none, 0, rfl, fun h => absurd h (by simp)⟩
  · exact ⟨_, cap, rfl, fun h0 => ⟨g, rfl, (Array.getElem?_eq_some_iff.1 hg).1, fun j hj => row_at h j hj⟩⟩
/-- four lists of one's own: no two in one block, none in a block of K. -/
structure Four (w : World) (B : Nat) (K : Nat → Prop) (v : Nat → Value) (n : Nat → Nat) (xs : Nat → List Value) : Prop where
  row : ∀ x, x < 4 → w.ownsRow B 22 1 (v x) (n x) (xs x)
  apart : ∀ x y, x < 4 → y < 4 → x ≠ y → ∀ g, (v x).ownBlock = some g → (v y).ownBlock ≠ some g
  off : ∀ x, x < 4 → ∀ g, (v x).ownBlock = some g → ¬ K g
/-- a function that is another one at one place. -/
def UPD {α : Type} (f : Nat → α) (x : Nat) (a : α) : Nat → α := fun z => if z = x then a else f z
theorem UPD_at {α : Type} (f : Nat → α) (x : Nat) (a : α) : UPD f x a x = a := by simp [UPD]
theorem UPD_other {α : Type} (f : Nat → α) {x z : Nat} (a : α) (h : z ≠ x) : UPD f x a z = f z := by simp [UPD, h]
theorem Four.alloc {w : World} {B : Nat} {K : Nat → Prop} {v : Nat → Value} {n : Nat → Nat} {xs : Nat → List Value} (h : Four w B K v n xs) (o : Obj) : Four (w.alloc o) B K v n xs := ⟨fun x hx => (h.row x hx).alloc o, h.apart, h.off⟩
theorem Four.more {w : World} {B : Nat} {K K' : Nat → Prop} {v : Nat → Value} {n : Nat → Nat} {xs : Nat → List Value} (h : Four w B K v n xs) (hK : ∀ g, g < w.heap.size → K' g → K g) : Four w B K' v n xs :=
  ⟨h.row, h.apart, fun x hx g hg hk => h.off x hx g hg (hK g ((h.row x hx).lt g hg).2 hk)⟩
theorem Four.below {w w' : World} {B : Nat} {K : Nat → Prop} {v : Nat → Value} {n : Nat → Nat} {xs : Nat → List Value} (h : Four w B K v n xs) (hb : Below w.heap.size w w') : Four w' B K v n xs := ⟨fun x hx => own_below (h.row x hx) hb, h.apart, h.off⟩
theorem grown_set (W : World) (b j : Nat) (v : Value) : W.grownBy (W.setCell ⟨b, j, none⟩ v) (some b) :=
  ⟨rfl, rfl, rfl, (KeepsWalks.setCell W _ v).size, fun k _ hk => Below.heap_setCell _ _ _ k (fun e => hk (by rw [e]))⟩
/-- what is stored into a block of K. -/
theorem Four.other {w : World} {B : Nat} {K : Nat → Prop} {v : Nat → Value} {n : Nat → Nat} {xs : Nat → List Value} (h : Four w B K v n xs) {b : Nat} (hb : K b) (j : Nat) (u : Value) : Four (w.setCell ⟨b, j, none⟩ u) B K v n xs :=
  ⟨fun x hx => (h.row x hx).kept (grown_set w b j u) (.inr fun e => h.off x hx b e hb), h.apart, h.off⟩
/-- what is stored into one of the four. -/
theorem Four.store {w : World} {B : Nat} {K : Nat → Prop} {v : Nat → Value} {n : Nat → Nat} {xs : Nat → List Value} (h : Four w B K v n xs) {x g m cap : Nat} (hx : x < 4) (hv : v x = .slice (some ⟨g, 0, none⟩) m cap) (j : Nat) (u : Value) :
    Four (w.setCell ⟨g, j, none⟩ u) B K v n (UPD xs x ((xs x).set j u)) := by
  refine ⟨fun z hz => ?_, h.apart, h.off⟩
  by_cases e : z = x
  · subst e
    have hr := h.row z hz
    rw [hv] at hr ⊢
    have hm : m = n z := by
      rcases hr.2 with ⟨e, _⟩ | ⟨_, _, _, e, _⟩
      · simp at e
      · simp at e
        omega
    subst hm
    rw [UPD_at]
    exact (hr.stored j u).1
  · rw [UPD_other xs _ e]
    refine (h.row z hz).kept (grown_set w g j u) (.inr fun e2 => ?_)
    exact h.apart x z hx hz (fun e3 => e e3.symm) g (by rw [hv]; rfl) e2
/-- one of the four is appended to. -/
theorem Four.app {w w' : World} {B : Nat} {K : Nat → Prop} {v : Nat → Value} {n : Nat → Nat} {xs : Nat → List Value} (h : Four w B K v n xs) {x g cap : Nat} {u : Value} (hx : x < 4) (hK : ∀ k, K k → k < w.heap.size)
    (hown : w'.ownsRow B 22 1 (.slice (some ⟨g, 0, none⟩) (n x + 1) cap) (n x + 1) (xs x ++ [u])) (hgrow : w.grownBy w' (v x).ownBlock) (hg : (v x).ownBlock = some g ∨ g = w.heap.size) :
    Four w' B K (UPD v x (.slice (some ⟨g, 0, none⟩) (n x + 1) cap)) (UPD n x (n x + 1)) (UPD xs x (xs x ++ [u])) := by
  refine ⟨fun z hz => ?_, fun y z hy hz hne k hk => ?_, fun z hz k hk => ?_⟩
  · by_cases e : z = x
    · subst e
      rw [UPD_at, UPD_at, UPD_at]
      exact hown
    · rw [UPD_other v _ e, UPD_other n _ e, UPD_other xs _ e]
      refine (h.row z hz).kept hgrow ?_
      cases hb : (v z).ownBlock with
      | none => exact .inl rfl
      | some k => exact .inr fun e2 => h.apart z x hz hx e k hb e2.symm
  · by_cases ey : y = x
    · subst ey
      rw [UPD_at] at hk
      have hkg : g = k := by simpa [Value.ownBlock] using hk
      subst hkg
      rw [UPD_other v _ (fun e => hne e.symm)]
      intro e2
      rcases hg with hg | hg
      · exact h.apart y z hx hz hne g hg e2
      · have := ((h.row z hz).lt g e2).2
        omega
    · rw [UPD_other v _ ey] at hk
      by_cases ez : z = x
      · subst ez
        rw [UPD_at]
        intro e2
        have hkg : g = k := by simpa [Value.ownBlock] using e2
        subst hkg
        rcases hg with hg | hg
        · exact h.apart y z hy hz hne g hk hg
        · have := ((h.row y hy).lt g hk).2
          omega
      · rw [UPD_other v _ ez]
        exact h.apart y z hy hz hne k hk
  · by_cases ez : z = x
    · subst ez
      rw [UPD_at] at hk
      have hkg : g = k := by simpa [Value.ownBlock] using hk
      subst hkg
      rcases hg with hg | hg
      · exact h.off z hz g hg
      · intro hkk
        have := hK g hkk
        omega
    · rw [UPD_other v _ ez] at hk
      exact h.off z hz k hk
/-- a list's form. -/
theorem own_slice {w : World} {B n : Nat} {v : Value} {xs : List Value} (h : w.ownsRow B 22 1 v n xs) : ∃ a cap, v = .slice a n cap ∧ (0 < n → ∃ g, a = some ⟨g, 0, none⟩ ∧ g < w.heap.size ∧ B ≤ g) := by
  rcases h.2 with ⟨rfl, h0⟩ | ⟨g, cap, cur, rfl, hb, hg, r⟩
  · subst h0
    exact ⟨none, 0, rfl, fun h => by omega⟩
  · exact ⟨_, cap, rfl, fun _ => ⟨g, rfl, (Array.getElem?_eq_some_iff.1 hg).1, hb⟩⟩
theorem app_more {ops : Array Oper} {rest : List Oper} {o : Oper} {a : Act} {Q : Exit → Act → World → Prop} (w : World) (hgd : o.guard = none) (s x : Operand)
    (ho : o.op = .call { callee := .builtin .append, args := #[s, x], argTypes := #[57, 57] })
    (base : Nat) (v : Value) (n : Nat) (xs : List Value) (hs : a.eval s = v) (hown : w.ownsRow base 22 1 v n xs)
    (b c : Nat) (y : Int) (hx : a.eval x = .slice (some ⟨b, 0, none⟩) 1 c) (hc : w.cell? ⟨b, 0, none⟩ = some (.int .u64 y))
    (hb : n ≤ 1000) (hbase : base ≤ w.heap.size)
    (h : ∀ g cap w', w'.ownsRow base 22 1 (.slice (some ⟨g, 0, none⟩) (n + 1) cap) (n + 1) (xs ++ [.int .u64 y]) → w.grownBy w' v.ownBlock → (v.ownBlock = some g ∨ g = w.heap.size) → g < w'.heap.size → wpList Tryd.prog ops Q rest (a.put o.dst (.slice (some ⟨g, 0, none⟩) (n + 1) cap)) w') : wpList Tryd.prog ops Q (o :: rest) a w := by
  obtain ⟨i, hi, hz, hs1, hby⟩ := info_parts info_u64
  refine wpList_append_lies w hgd s x 57 ho base 22 i (.int .u64 0) 1 8 Tryd.underlying57 hi hz hs1 hby rfl (by decide) v n xs hs hown ⟨b, 0, none⟩ 1 c [.int .u64 y] hx rfl ?_ (fun u hu => by simp at hu; subst hu; rfl) (by decide) (by simp only [maxLen]; omega) (by omega) hbase w.heap.size rfl h
  intro j u hj
  cases j with
  | zero =>
    simp only [List.getElem?_cons_zero, Option.some.injEq] at hj
    subst hj
    exact hc
  | succ j => simp at hj
theorem Has.grown {w w' : World} {g : Nat} {c : Array Value} {t : TypeId} {row : Option Nat} (h : Has w g c t) (hg : w.grownBy w' row) (hne : row ≠ some g) : Has w' g c t := by
  obtain ⟨_, _, _, _, hk⟩ := hg
  exact (hk g h.lt (fun e => hne e.symm)).trans h
/-- the four as they come: each in a world of its own. -/
theorem Four.of {w : World} {B b1 b2 b3 b4 : Nat} {K : Nat → Prop} {v0 v1 v2 v3 : Value} {n m : Nat} {xs ys : List Value} (h0 : w.ownsRow B 22 1 v0 n xs) (h1 : w.ownsRow b1 22 1 v1 n xs) (h2 : w.ownsRow b2 22 1 v2 m ys) (h3 : w.ownsRow b3 22 1 v3 m ys)
    (l0 : ∀ k, v0.ownBlock = some k → k < b1) (l1 : ∀ k, v1.ownBlock = some k → k < b2) (l2 : ∀ k, v2.ownBlock = some k → k < b3) (l3 : ∀ k, v3.ownBlock = some k → k < b4) (o1 : B ≤ b1) (o2 : b1 ≤ b2) (o3 : b2 ≤ b3) (o4 : b3 ≤ b4) (hK : ∀ k, K k → b4 ≤ k) :
    ∃ (V : Nat → Value) (N : Nat → Nat) (XS : Nat → List Value), Four w B K V N XS ∧ V 0 = v0 ∧ V 1 = v1 ∧ V 2 = v2 ∧ V 3 = v3 ∧ (∀ x, x < 4 → N x = n ∨ N x = m) := by
  have key : ∀ x, x < 4 → x = 0 ∨ x = 1 ∨ x = 2 ∨ x = 3 := fun x hx => by omega
  have bnd : ∀ x, x < 4 → ∀ k, ((if x = 0 then v0 else if x = 1 then v1 else if x = 2 then v2 else v3 : Value)).ownBlock = some k → (if x = 0 then B else if x = 1 then b1 else if x = 2 then b2 else b3) ≤ k ∧ k < (if x = 0 then b1 else if x = 1 then b2 else if x = 2 then b3 else b4) := fun x hx k hk => by
    rcases key x hx with rfl | rfl | rfl | rfl
    · exact ⟨(h0.lt k hk).1, l0 k hk⟩
    · exact ⟨(h1.lt k hk).1, l1 k hk⟩
    · exact ⟨(h2.lt k hk).1, l2 k hk⟩
    · exact ⟨(h3.lt k hk).1, l3 k hk⟩
  refine ⟨fun x => if x = 0 then v0 else if x = 1 then v1 else if x = 2 then v2 else v3, fun x => if x < 2 then n else m, fun x => if x < 2 then xs else ys, ⟨fun x hx => ?_, fun x y hx hy hne k hk hk2 => ?_, fun x hx k hk hkk => ?_⟩, rfl, rfl, rfl, rfl, fun x hx => ?_⟩
  · rcases key x hx with rfl | rfl | rfl | rfl
    · exact h0
    · exact own_mono h1 o1
    · exact own_mono h2 (Nat.le_trans o1 o2)
    · exact own_mono h3 (Nat.le_trans o1 (Nat.le_trans o2 o3))
  · have hx' := bnd x hx k hk
    have hy' := bnd y hy k hk2
    rcases key x hx with rfl | rfl | rfl | rfl <;> rcases key y hy with rfl | rfl | rfl | rfl <;> simp at hx' hy' hne <;> omega
  · have hx' := bnd x hx k hk
    have := hK k hkk
    rcases key x hx with rfl | rfl | rfl | rfl <;> simp at hx' <;> omega
  · rcases key x hx with rfl | rfl | rfl | rfl <;> simp
end Go.Proofs.YtfjmbfppilfepaaDoor

/- What the small functions of package cut answer. -/
namespace Go.Proofs.YtfjmbfppilfepaaDoor
open Go.RowKit

theorem low_nat (X : Nat) (hX : X < 2 ^ 64) : ∃ t : Nat, t ≤ 64 ∧ (X = 0 → t = 64) ∧ (∀ h, h ≤ 64 → (X % 2 ^ h = 0 ↔ h ≤ t)) ∧ ∀ w, Tabled w → Calls Tryd.prog 84 #[.int .u64 (X : Int)] w fun e w' => e = .returned (.int .i64 (t : Int)) ∧ w = w' := by
  by_cases h0 : X = 0
  · subst h0
    exact ⟨64, Nat.le_refl _, fun _ => rfl, fun h hh => by simp [hh], fun w _ => low_raw _ _ w (tz_zero w)⟩
  · obtain ⟨t, q, e⟩ := low_split X h0
    have ht := (neg_and hX e).2
    refine ⟨t, by omega, fun c => absurd c h0, ?_, fun w hT => low_raw _ _ w (tz_ok X t q hX e w hT)⟩
    intro h _
    constructor
    · intro hm
      rcases Nat.lt_or_ge t h with c | c
      · have h1 : 2 ^ (t + 1) ∣ 2 ^ h := Nat.pow_dvd_pow 2 c
        have h2 : X % 2 ^ (t + 1) = 0 := Nat.mod_eq_zero_of_dvd (Nat.dvd_trans h1 (Nat.dvd_of_mod_eq_zero hm))
        rw [e, Nat.mul_comm] at h2
        have := even_up.1 h2
        omega
      · exact c
    · intro hm
      have h1 : 2 ^ h ∣ 2 ^ t := Nat.pow_dvd_pow 2 hm
      exact Nat.mod_eq_zero_of_dvd (Nat.dvd_trans h1 ⟨_, e⟩)
theorem HT_min {a b t : Nat} (hab : a < b) (hb : b ≤ 4611686018427387904) (ht : t ≤ 64) (hd : ∀ h, h ≤ 64 → (a % 2 ^ h = 0 ↔ h ≤ t)) : min (t : Int) ((LEN (b - a) : Nat) - 1 : Int) = ((HT a b : Nat) : Int) := by
  obtain ⟨l1, l2, l3⟩ := LEN_span (b - a) (by omega) (by omega)
  have l4 : LEN (b - a) - 1 ≤ 62 := by
    rcases Nat.lt_or_ge 62 (LEN (b - a) - 1) with h | h
    · have : 2 ^ 63 ≤ 2 ^ (LEN (b - a) - 1) := Nat.pow_le_pow_right (by decide) h
      omega
    · exact h
  have : min t (LEN (b - a) - 1) = HT a b := by
    refine HT_only hab hb ⟨(hd _ (by omega)).2 (by omega), ?_⟩ ?_
    · have : 2 ^ min t (LEN (b - a) - 1) ≤ 2 ^ (LEN (b - a) - 1) := Nat.pow_le_pow_right (by decide) (by omega)
      omega
    · intro c
      rcases Nat.lt_or_ge t (LEN (b - a) - 1) with h | h
      · have := (hd _ (by omega)).1 c.1
        omega
      · have h1 := c.2
        have : 2 ^ LEN (b - a) ≤ 2 ^ (min t (LEN (b - a) - 1) + 1) := Nat.pow_le_pow_right (by decide) (by omega)
        omega
  rw [← this]
  omega
theorem end_raw (h k : Nat) (s r : Int) (w : World) (e1 : IntKind.u64.wrap ((k : Int) + 1) = s) (e : IntKind.u64.wrap (s * 2 ^ min h 64) = r) : Calls Tryd.prog 86 #[SPOT h k] w fun e w' => e = .returned (.int .u64 r) ∧ Below w.heap.size w w' := by
  subst e
  go_enter Tryd.func86, Tryd.ntmps86
  go_wp2
  go_ret
  exact ⟨rfl, (Below.refl _ _).alloc (Nat.le_refl _) _⟩
theorem end_ok (h k : Nat) (hN : Node h k) (w : World) : Calls Tryd.prog 86 #[SPOT h k] w fun e w' => e = .returned (.int .u64 (((k + 1) * 2 ^ h : Nat) : Int)) ∧ Below w.heap.size w w' := by
  have h1 := hN.span
  have h3 := hN.index_lt
  refine end_raw h k ((k + 1 : Nat) : Int) _ w (by rw [wrapU]; omega) ?_
  exact shift_eq (k + 1) h hN.1 (by omega)
theorem xor_one (k : Nat) (hk : k < 2 ^ 64) : bits .xor .u64 (k : Int) 1 = ((SIB k : Nat) : Int) := by
  have : bits .xor .u64 (k : Int) ((1 : Nat) : Int) = ((k ^^^ 1 : Nat) : Int) := bits_xor_u64_nat k 1 (by omega) (by omega)
  have e : k ^^^ 1 = SIB k := by
    apply Nat.eq_of_testBit_eq
    intro i
    unfold SIB
    cases i with
    | zero =>
      rw [Nat.testBit_xor]
      simp only [Nat.testBit_zero]
      split <;> rw [Bool.eq_iff_iff] <;> simp <;> omega
    | succ i =>
      rw [Nat.testBit_xor, Nat.testBit_succ, Nat.testBit_succ, Nat.testBit_succ]
      have : (1 : Nat) / 2 = 0 := by decide
      rw [this, Nat.zero_testBit, Bool.xor_false]
      congr 1
      split <;> omega
  rw [e] at this
  exact this
end Go.Proofs.YtfjmbfppilfepaaDoor

/- A block that stays while a list of one's own grows. -/
namespace Go.Proofs.YtfjmbfppilfepaaDoor
open Go.RowKit

theorem Has.grew {w w' : World} {g : Nat} {c : Array Value} {t : TypeId} {row : Option Nat} (h : Has w g c t) (hg : w.grownBy w' row) (hne : row ≠ some g) : Has w' g c t := by
  obtain ⟨_, _, _, _, hk⟩ := hg
  exact (hk g h.lt (fun e => hne e.symm)).trans h
theorem kept_new {wr w1 : World} {c : Array Value} {t t' : TypeId} {base s n : Nat} {v : Value} {xs : List Value} {o : Obj} (hown : wr.ownsRow base t' s v n xs) (hgrow : ((wr.alloc (.cells c t)).alloc o).grownBy w1 v.ownBlock) : Has w1 wr.heap.size c t :=
  ((Has.new wr c t).alloc o).grew hgrow (fun e => by have := (hown.lt _ e).2; omega)
end Go.Proofs.YtfjmbfppilfepaaDoor
