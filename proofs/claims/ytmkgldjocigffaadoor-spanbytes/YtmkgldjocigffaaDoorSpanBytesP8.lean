/- Texts of SpanBytes, one behind the other: SpanPlacesCall, ManyRefNeeds, ManyNeedP, ManyFace, ManyFaceP, ManyPlacesCall, PosRefSpot, PosRefKin, PosTops, PosRefPeaks, ManyRefPlaces, SpanRefPlaces. -/
import Derived.Defers
import Derived.Recover
import Derived.Test.YtmkgldjocigffaaDoorSpanBytesP7
/- Places of package span. -/
namespace Go.Proofs.YtmkgldjocigffaaDoor
open Go.RowKit
set_option maxRecDepth 100000

/-- what the peaks from the j-th on need. -/
def FLT (F T N j : Nat) : List Nat := (((TPS N).drop j).map fun s => NEED s.1 s.2 (SG F T s.1 s.2)).flatten
theorem FLT_next {F T N j h k : Nat} (e : (TPS N)[j]? = some (h, k)) : FLT F T N j = NEED h k (SG F T h k) ++ FLT F T N (j + 1) := by
  unfold FLT
  rw [drop_at e, List.map_cons, List.flatten_cons]
theorem FLT_end {F T N j : Nat} (h : (TPS N).length ≤ j) : FLT F T N j = [] := by
  unfold FLT
  rw [List.drop_of_length_le h]
  rfl
theorem FLT_all {F T N : Nat} (hN : N ≤ 4611686018427387904) (hT : T ≤ N) : SPP F T N = FLT F T N 0 := SPP_flat hN hT
set_option maxHeartbeats 2000000 in
theorem sneed_ok (CP F T N : Nat) (hN : N ≤ 4611686018427387904) (hTN : T ≤ N) (w : World) (hCP : CP < w.heap.size) (hT : Tabled w) (hv : Has w CP #[.slice none 0 0] 23) :
    Calls Tryd.prog 29 #[.int .u64 (F : Int), .int .u64 (T : Int), .int .u64 (N : Int), .func (.func 30) #[] #[.pointer (some ⟨CP, 0, none⟩)]] w fun e w' => ∃ w1, Below w.heap.size w w1 ∧ STOLD w1 CP [] (SPP F T N) e w' := by
  have cp := peaks_ok N hN w hT (by omega)
  have hPC : PC N ≤ 64 := PC_lt_pow 64 N (by omega)
  have hlen := TPS_length (n := N) (by omega)
  have hmost := SPP_few (F := F) hN hTN
  have hall := FLT_all (F := F) hN hTN
  have HA : Aside (N ≤ 4611686018427387904 ∧ T ≤ N ∧ PC N ≤ 64 ∧ (TPS N).length = PC N ∧ (SPP F T N).length ≤ 188 ∧ SPP F T N = FLT F T N 0 ∧ CP < w.heap.size ∧ Has w CP #[.slice none 0 0] 23) := ⟨hN, hTN, hPC, hlen, hmost, hall, hCP, hv⟩
  clear hN hTN hPC hlen hmost hall hCP hT hv
  obtain ⟨P, hP⟩ : ∃ P, SPP F T N = P := ⟨_, rfl⟩
  rw [hP] at HA ⊢
  clear hP
  go_enter Tryd.func29, Tryd.ntmps29
  go_wp2_with fail
  refine cp.mono ?_
  rintro e w1 ⟨g, cg, rfl, hown, hb1⟩
  clear cp
  obtain ⟨m, hm⟩ : ∃ m, PC N = m := ⟨_, rfl⟩
  rw [hm] at hown HA ⊢
  have hg := hown.lt g rfl
  have R1 : Aside (w1.ownsRow w.heap.size 22 1 (.slice (some ⟨g, 0, none⟩) m cg) m (UCELLS (PEAKS N)) ∧ Below w.heap.size w w1 ∧ g ≠ CP ∧ g < w1.heap.size) := ⟨hown, hb1, by have := HA.out.2.2.2.2.2.2.1; omega, hg.2⟩
  have T0 : Aside (TAKING w1 w1 CP []) := by
    have hv1 : Has w1 CP #[.slice none 0 0] 23 := HA.out.2.2.2.2.2.2.2.keep hb1
    exact ⟨⟨.slice none 0 0, hv1, ⟨rfl, .inl ⟨rfl, rfl⟩⟩⟩, fun b _ _ => rfl, hv1.lt, Below.refl _ _⟩
  clear hown hb1 hm hg
  go_wp2_with fail
  go_loopg [13] m (fun q s13 wx => ∃ (j : Nat) (told : List Nat), s13 = .int .i64 (j : Int) ∧ Aside (j + q = m ∧ TAKING w1 wx CP told ∧ P = told ++ FLT F T N j))
  case atStart => exact ⟨0, [], rfl, by omega, T0.out, by rw [List.nil_append]; exact HA.out.2.2.2.2.2.1⟩
  case round =>
    obtain ⟨j, told, rfl, A⟩ := hrel
    clear T0
    cases gk with
    | zero =>
      obtain rfl : j = m := by have := A.out.1; omega
      have hlt : ¬ (j : Int) < (j : Int) := by omega
      have FN : Aside (∃ w1, Below w.heap.size w w1 ∧ STOLD w1 CP [] P (.returned (.tuple #[])) wr) := by
        obtain ⟨h1, h2, h3⟩ := A.out
        rw [FLT_end (by have := HA.out.2.2.2.1; omega), List.append_nil] at h3
        exact ⟨w1, R1.out.2.1, rfl, by rw [List.nil_append, h3]; exact h2⟩
      clear A R1 HA
      go_wp2_with fail
      exact bodyPost_end (v := .tuple #[]) (by simp [results, Tryd.f29]) rfl FN.out
    | succ q =>
      have hlt : (j : Int) < (m : Int) := by have := A.out.1; omega
      have hjm : j < (TPS N).length := by have := A.out.1; have := HA.out.2.2.2.1; omega
      obtain ⟨⟨h, k⟩, ehk⟩ : ∃ s, (TPS N)[j]? = some s := ⟨_, List.getElem?_eq_getElem hjm⟩
      have hsp := TPS_span (by have := HA.out.1; omega) (List.mem_of_getElem? ehk)
      have epk := TPS_peak ehk
      have hcell : wr.cell? ⟨g, j, none⟩ = some (.int .u64 ((PLC h k : Nat) : Int)) := by
        have h1 := R1.out.1.cellAt j (by have := A.out.1; omega)
        refine (World.cell?_of_block (w := w1) (by exact A.out.2.1.keep g R1.out.2.2.2 R1.out.2.2.1)).trans (h1.trans ?_)
        rw [UCELLS, List.getElem?_map, epk]
        rfl
      have hP : P = told ++ (NEED h k (SG F T h k) ++ FLT F T N (j + 1)) := by rw [← FLT_next ehk]; exact A.out.2.2
      have hle : told.length + (NEED h k (SG F T h k)).length ≤ 2 ^ 30 := by
        have h1 := HA.out.2.2.2.2.1
        rw [hP, List.length_append, List.length_append] at h1
        omega
      have cu := sunder_ok w1 CP F T h k hsp.2.2 told wr A.out.2.1 hle
      have ej : wrap64 ((j : Int) + 1) = ((j + 1 : Nat) : Int) := by have := A.out.1; have := HA.out.2.2.1; unfold wrap64; omega
      have EJ : Aside (wrap64 ((j : Int) + 1) = ((j + 1 : Nat) : Int) ∧ j + 1 + q = m ∧ P = (told ++ NEED h k (SG F T h k)) ++ FLT F T N (j + 1)) := ⟨ej, by have := A.out.1; omega, by rw [List.append_assoc]; exact hP⟩
      have bj : (j : Int) ≤ 64 := by have := A.out.1; have := HA.out.2.2.1; omega
      clear ehk hsp epk hjm hP hle A ej
      go_wp2_with fail
      refine cu.mono ?_
      rintro e w3 ⟨rfl, h3⟩
      clear cu
      have H3 : Aside (TAKING w1 w3 CP (told ++ NEED h k (SG F T h k))) := h3
      clear h3
      go_wp2_with fail
      go_roundg q
      case measure => exact Nat.lt_succ_self _
      case rel => exact ⟨j + 1, told ++ NEED h k (SG F T h k), by first | rfl | (rw [EJ.out.1]), EJ.out.2.1, H3.out, EJ.out.2.2⟩
/-- what Places answers. -/
def SPA (F T N : Nat) : List Nat := if SPE F T N = 0 then SPP F T N else []
/-- what is answered: an error and a list of numbers. -/
def ANSP20 (w : World) (E : Int) (l : List Nat) (e : Ending) (w' : World) : Prop := ∃ a c, e = .returned (.tuple #[.slice a l.length c, .int .i64 E]) ∧ w'.ownsRow w.heap.size 22 1 (.slice a l.length c) l.length (UCELLS l) ∧ Below w.heap.size w w'
theorem SPE_cases (F T N : Nat) : (SPE F T N = 30 ∧ SPA F T N = [] ∧ 4611686018427387904 < N) ∨ (SPE F T N = 32 ∧ SPA F T N = [] ∧ N ≤ 4611686018427387904 ∧ (T < F ∨ F ≤ T ∧ N < T)) ∨ (SPE F T N = 0 ∧ SPA F T N = SPP F T N ∧ N ≤ 4611686018427387904 ∧ F ≤ T ∧ T ≤ N) := by
  unfold SPA SPE
  by_cases h1 : 4611686018427387904 < N
  · rw [if_pos h1]
    exact .inl ⟨rfl, rfl, h1⟩
  · rw [if_neg h1]
    by_cases h2 : T < F ∨ N < T
    · rw [if_pos h2]
      exact .inr (.inl ⟨rfl, rfl, by omega, by omega⟩)
    · rw [if_neg h2, if_pos rfl]
      exact .inr (.inr ⟨rfl, rfl, by omega, by omega, by omega⟩)
theorem own_none20 (w : World) (B : Nat) : w.ownsRow B 22 1 (.slice none ([] : List Nat).length 0) ([] : List Nat).length (UCELLS []) := ⟨rfl, .inl ⟨rfl, rfl⟩⟩
set_option maxHeartbeats 2000000 in
theorem spanplaces_ok (F T N : Nat) (w : World) (hT : Tabled w) (h0 : 0 < w.heap.size) : Calls Tryd.prog 8 #[.int .u64 (F : Int), .int .u64 (T : Int), .int .u64 (N : Int)] w (ANSP20 w (SPE F T N) (SPA F T N)) := by
  rcases SPE_cases F T N with ⟨e1, e2, h⟩ | ⟨e1, e2, h, h'⟩ | ⟨e1, e2, hN, hF, hTN⟩
  · rw [e1, e2]
    have g1 : (4611686018427387904 : Int) < (N : Int) := by omega
    clear h hT h0 e1 e2
    go_enter Tryd.func8, Tryd.ntmps8
    go_wp2
    go_ret2
    exact ⟨none, 0, rfl, own_none20 _ _, Below.refl _ _⟩
  · rw [e1, e2]
    have g1 : ¬ (4611686018427387904 : Int) < (N : Int) := by omega
    have g2 : (T : Int) < (F : Int) ∨ (¬ (T : Int) < (F : Int) ∧ (N : Int) < (T : Int)) := by omega
    clear h h' hT h0 e1 e2
    rcases g2 with g2 | ⟨g2, g3⟩
    all_goals
      go_enter Tryd.func8, Tryd.ntmps8
      go_wp2
      go_ret2
      exact ⟨none, 0, rfl, own_none20 _ _, Below.refl _ _⟩
  · rw [e1, e2]
    have g1 : ¬ (4611686018427387904 : Int) < (N : Int) := by omega
    have g2 : ¬ (T : Int) < (F : Int) := by omega
    have g3 : ¬ (N : Int) < (T : Int) := by omega
    have hmf : ∀ (fn : Fn) (first cap : Array Value) (w : World), (Instr.makeFunc fn first cap).run Tryd.prog w = .ok (.func fn first cap) w := fun _ _ _ _ => rfl
    obtain ⟨w1, ew1⟩ : ∃ w1, w.alloc (.cells #[.slice none 0 0] 23) = w1 := ⟨_, rfl⟩
    have hb1 : Below w.heap.size w w1 := by rw [← ew1]; exact (Below.refl _ _).alloc (Nat.le_refl _) _
    have hv : Has w1 w.heap.size #[.slice none 0 0] 23 := by rw [← ew1]; exact Has.new w _ _
    have cn := sneed_ok w.heap.size F T N hN hTN w1 hv.lt (hT.below h0 hb1) hv
    have HB : Aside (Below w.heap.size w w1) := hb1
    generalize SPP F T N = P at *
    clear hN hF hTN hT h0 e1 e2 hb1 hv
    go_enter Tryd.func8, Tryd.ntmps8
    go_wp2_with fail
    refine cn.mono ?_
    rintro e w2 ⟨wa, hba, rfl, ht⟩
    rw [List.nil_append] at ht
    obtain ⟨v, hv, hown⟩ := ht.row
    obtain ⟨a, c, rfl⟩ := own_sliced hown
    have c0 := hv.cell 0
    have FN : Aside (w2.ownsRow w.heap.size 22 1 (.slice a P.length c) P.length (UCELLS P) ∧ Below w.heap.size w w2) := ⟨own_mono hown (by have := hba.size; have := HB.out.size; omega), (HB.out.trans (hba.mono HB.out.size)).trans (ht.below.mono (by have := hba.size; have := HB.out.size; omega))⟩
    clear cn ht hv hown hba HB
    go_wp2_with fail
    go_ret2
    exact ⟨a, c, rfl, FN.out.1, FN.out.2⟩
end Go.Proofs.YtmkgldjocigffaaDoor

/- massifref10.needs: the spots that leaves need, from the left. -/
namespace Go.Proofs.YtmkgldjocigffaaDoor
open Go.RowKit
set_option maxRecDepth 100000

end Go.Proofs.YtmkgldjocigffaaDoor

/- needUnder and need of package many, with the closure of Places. -/
namespace Go.Proofs.YtmkgldjocigffaaDoor
open Go.RowKit
set_option maxRecDepth 100000

end Go.Proofs.YtmkgldjocigffaaDoor

/- face of package many: what it answers where the doing returns, where it panics. -/
namespace Go.Proofs.YtmkgldjocigffaaDoor
open Go.RowKit
set_option maxRecDepth 100000

end Go.Proofs.YtmkgldjocigffaaDoor

/- face of package many, with the doing of Places. -/
namespace Go.Proofs.YtmkgldjocigffaaDoor
open Go.RowKit
set_option maxRecDepth 100000

end Go.Proofs.YtmkgldjocigffaaDoor

/- Places of package many. -/
namespace Go.Proofs.YtmkgldjocigffaaDoor
open Go.RowKit
set_option maxRecDepth 100000

end Go.Proofs.YtmkgldjocigffaaDoor

/- What the document's Spot gives. -/
namespace Go.Proofs.YtmkgldjocigffaaDoor
open Go.RowKit

end Go.Proofs.YtmkgldjocigffaaDoor

/- What the document's answers give for a node's kin. -/
namespace Go.Proofs.YtmkgldjocigffaaDoor
open Go.RowKit

theorem refplace_raw (h k : Nat) (t z y l a r : Int) (w : World) (hh : h ≤ 62) (hm : wrap64 (h : Int) = (h : Int)) (hm2 : IntKind.u64.wrap (h : Int) = (h : Int)) (ht : wrap64 (62 - (h : Int)) = t) (hk : decide (y ≤ (k : Int)) = false)
    (cy : ∀ w, Calls Tryd.prog 46 #[.int .i64 t] w fun e w' => e = .returned (.int .u64 y) ∧ w = w') (cz : ∀ w, Calls Tryd.prog 46 #[.int .i64 (h : Int)] w fun e w' => e = .returned (.int .u64 z) ∧ w = w')
    (e0 : IntKind.u64.wrap ((k : Int) + 1) = (k : Int) + 1) (e1 : IntKind.u64.wrap (IntKind.u64.wrap (((k : Int) + 1) * z) - 1) = l) (ca : ∀ w, Calls Tryd.prog 49 #[.int .u64 l] w fun e w' => e = .returned (.tuple #[.int .u64 a, .bool true]) ∧ w = w') (e2 : IntKind.u64.wrap (a + (h : Int)) = r) :
    Calls Tryd.prog 28 #[SPOT h k] w fun e w' => e = .returned (.tuple #[.int .u64 r, .bool true]) ∧ Below w.heap.size w w' := by
  have hd : decide ((62 : Int) < (h : Int)) = false := by simp; omega
  go_enter Tryd.func28, Tryd.ntmps28
  go_wp2
  have hc0 : (w.alloc (.cells #[.int .u8 (h : Int), .int .u64 (k : Int)] 55)).cell? ⟨w.heap.size, 0, none⟩ = some (.int .u8 (h : Int)) := by simp
  have hc1 : (w.alloc (.cells #[.int .u8 (h : Int), .int .u64 (k : Int)] 55)).cell? ⟨w.heap.size, 1, none⟩ = some (.int .u64 (k : Int)) := by simp
  have R2 : Aside (Below w.heap.size w (w.alloc (.cells #[.int .u8 (h : Int), .int .u64 (k : Int)] 55))) := (Below.refl _ _).alloc (Nat.le_refl _) _
  generalize w.alloc (.cells #[.int .u8 (h : Int), .int .u64 (k : Int)] 55) = W at *
  generalize hb : w.heap.size = b at *
  clear hh
  go_quiet ((go_at_call 46; exact quiet_eq (cy _)))
  have R3 : Aside (Below b w (W.drewN nq)) := below_drewN R2.out nq
  have hc0' : (W.drewN nq).cell? ⟨b, 0, none⟩ = some (.int .u8 (h : Int)) := hc0
  have hc1' : (W.drewN nq).cell? ⟨b, 1, none⟩ = some (.int .u64 (k : Int)) := hc1
  clear hc0 hc1 R2 cy
  generalize W.drewN nq = W2 at *
  go_wp2
  go_quiet (first | (go_at_call 46; exact quiet_eq (cz _)) | (go_at_call 49; exact quiet_eq (ca _)))
  go_wp2
  go_ret2
  exact ⟨rfl, by rw [hb]; exact below_drewN R3.out _⟩
theorem refplace_ok (h k : Nat) (hN : Node h k) (w : World) : Calls Tryd.prog 28 #[SPOT h k] w fun e w' => e = .returned (.tuple #[.int .u64 ((PLC h k : Nat) : Int), .bool true]) ∧ Below w.heap.size w w' := by
  have h1 := hN.1
  have h2 := hN.2
  have h3 := hN.span
  have h4 := hN.index_lt
  have h5 := hN.lt
  have h7 := PLC_last h k
  have h8 := last_lt h k
  refine refplace_raw h k ((62 - h : Nat) : Int) ((2 ^ h : Nat) : Int) ((2 ^ (62 - h) : Nat) : Int) (((k + 1) * 2 ^ h - 1 : Nat) : Int) ((NODES ((k + 1) * 2 ^ h - 1) : Nat) : Int) _ w h1 (by unfold wrap64; omega) (by rw [wrapU]; omega) (by unfold wrap64; omega) (by simp only [decide_eq_false_iff_not]; omega) (fun w => power_ok _ (by omega) w) (fun w => power_ok _ (by omega) w) (by rw [wrapU]; omega) ?_ (fun w => refnodes_ok _ (by omega) w) ?_
  · rw [show (((k : Int) + 1) * ((2 ^ h : Nat) : Int)) = (((k + 1) * 2 ^ h : Nat) : Int) by rw [Int.natCast_mul]; rfl]
    generalize (k + 1) * 2 ^ h = x at *
    rw [wrapU, wrapU]
    omega
  · rw [wrapU]
    omega
end Go.Proofs.YtmkgldjocigffaaDoor

/- What the document's Tops gives: the spots of the peaks. -/
namespace Go.Proofs.YtmkgldjocigffaaDoor
open Go.RowKit

/-- the spots of the peaks of n leaves whose height is at least h. -/
def TOPS (h n : Nat) : List (Nat × Nat) := (HS h n).map fun g => (g, 2 * (n / 2 ^ (g + 1)))
theorem TOPS_set {h n : Nat} (hh : h < 64) (hb : n / 2 ^ h % 2 = 1) : TOPS h n = TOPS (h + 1) n ++ [(h, 2 * (n / 2 ^ (h + 1)))] := by
  unfold TOPS
  rw [HS_set hh hb, List.map_append]
  rfl
theorem TOPS_clear {h n : Nat} (hh : h < 64) (hb : ¬ n / 2 ^ h % 2 = 1) : TOPS h n = TOPS (h + 1) n := by
  unfold TOPS
  rw [HS_clear hh hb]
theorem TOPS_length {n : Nat} (hn : n < 2 ^ 64) (h : Nat) (hh : h ≤ 64) : (TOPS h n).length = PC (n / 2 ^ h) := by
  unfold TOPS
  rw [List.length_map]
  exact HS_length hn h hh
/-- one height of Tops. -/
theorem tops_plain {n h at' r : Nat} (ha : at' = n / 2 ^ (h + 1) * 2 ^ (h + 1)) (hr : r = n - at') : at' ≤ n ∧ (2 ^ h ≤ r ↔ n / 2 ^ h % 2 = 1) ∧ at' / 2 ^ h = 2 * (n / 2 ^ (h + 1)) ∧ (n / 2 ^ h % 2 = 1 → at' + 2 ^ h = n / 2 ^ h * 2 ^ h) ∧ (¬ n / 2 ^ h % 2 = 1 → at' = n / 2 ^ h * 2 ^ h) := by
  have hp := Nat.two_pow_pos h
  have e1 : at' = 2 * (n / 2 ^ (h + 1)) * 2 ^ h := by rw [ha, double_pow]
  have hd := Nat.div_add_mod n (2 ^ h)
  have hm := Nat.mod_lt n hp
  rw [Nat.mul_comm] at hd
  have hq : at' / 2 ^ h = 2 * (n / 2 ^ (h + 1)) := by rw [e1, Nat.mul_div_cancel _ hp]
  by_cases hb : n / 2 ^ h % 2 = 1
  · have h2 := at_set hb
    have e2 : n / 2 ^ h * 2 ^ h = at' + 2 ^ h := by rw [h2, Nat.add_mul, Nat.one_mul, ← e1]
    exact ⟨by omega, ⟨fun _ => hb, fun _ => by omega⟩, hq, fun _ => e2.symm, fun h => absurd hb h⟩
  · have h2 := at_clear hb
    have e2 : n / 2 ^ h * 2 ^ h = at' := by rw [h2, ← e1]
    exact ⟨by omega, ⟨fun _ => by omega, fun h => absurd h hb⟩, hq, fun h => absurd h hb, fun _ => e2.symm⟩
set_option maxHeartbeats 1000000 in
theorem tops_ok (n : Nat) (hn : n ≤ 4611686018427387904) (w : World) : Calls Tryd.prog 26 #[.int .u64 (n : Int)] w fun e w' =>
    ∃ v, e = .returned v ∧ w'.ownsRow w.heap.size 55 2 v (PC n) (SCELLS (TOPS 0 n)) ∧ Below w.heap.size w w' := by
  have HN : Aside (n ≤ 4611686018427387904) := hn
  have hd : ¬ (4611686018427387904 : Int) < (n : Int) := by omega
  clear hn
  go_enter Tryd.func26, Tryd.ntmps26
  go_wp2
  go_loopg [3, 4, 5] 63 (fun q s3 s4 s5 wx => ∃ a : Nat, s4 = .int .u64 (a : Int) ∧ s5 = .int .i64 ((q : Int) - 1) ∧ Aside (q ≤ 63 ∧ a = n / 2 ^ q * 2 ^ q ∧ wx.ownsRow w.heap.size 55 2 s3 (PC (n / 2 ^ q)) (SCELLS (TOPS q n)) ∧ Below w.heap.size w wx))
  case atStart =>
    have hz : n / 2 ^ 63 = 0 := Nat.div_eq_of_lt (by have := HN.out; omega)
    refine ⟨0, rfl, rfl, by omega, by rw [hz, Nat.zero_mul], ?_, Below.refl _ _⟩
    rw [hz, PC_zero]
    have ht : TOPS 63 n = [] := by
      unfold TOPS
      rw [HS_top (by have := HN.out; omega)]
      rfl
    rw [ht]
    exact ⟨rfl, .inl ⟨rfl, rfl⟩⟩
  case round =>
    obtain ⟨a, rfl, rfl, A⟩ := hrel
    cases gk with
    | zero =>
      have hlt : ¬ (0 : Int) ≤ ((0 : Nat) : Int) - 1 := by omega
      go_wp2
      go_ret
      obtain ⟨_, _, hown, hbel⟩ := A.out
      rw [Nat.pow_zero, Nat.div_one] at hown
      exact ⟨_, rfl, hown, hbel⟩
    | succ h =>
      obtain ⟨h63, ha, hown, hbel⟩ := A.out
      have hnn := HN.out
      obtain ⟨r, hr⟩ : ∃ r, r = n - a := ⟨_, rfl⟩
      obtain ⟨p1, p2, p3, p4, p5⟩ := tops_plain ha hr
      have c := power_ok h (by omega)
      have hpw : 2 ^ h ≤ 2 ^ 62 := Nat.pow_le_pow_right (by decide) (by omega)
      have hp0 := Nat.two_pow_pos h
      have e0 : ((h + 1 : Nat) : Int) - 1 = (h : Int) := by omega
      have e0' : ¬ (h : Int) < 0 := by omega
      have e1 : IntKind.u64.wrap ((n : Int) - (a : Int)) = (r : Int) := by rw [wrapU]; omega
      have e3 : (h : Int) % 256 = (h : Int) := by omega
      have e4 : wrap64 ((h : Int) - 1) = (h : Int) - 1 := by unfold wrap64; omega
      rw [e0]
      by_cases hb : n / 2 ^ h % 2 = 1
      · have hge : 2 ^ h ≤ r := p2.2 hb
        have pq := p4 hb
        have e5 : (a : Int) / ((2 ^ h : Nat) : Int) = ((2 * (n / 2 ^ (h + 1)) : Nat) : Int) := by rw [← p3, Int.natCast_ediv]
        have hT := TOPS_set (n := n) (h := h) (by omega) hb
        have hPC : PC (n / 2 ^ h) = PC (n / 2 ^ (h + 1)) + 1 := by rw [PC_step, ← half_pow]; omega
        have hlen : PC (n / 2 ^ (h + 1)) ≤ 1000 := by have := PC_lt_pow 64 (n / 2 ^ (h + 1)) (Nat.lt_of_le_of_lt (Nat.div_le_self _ _) (by omega)); omega
        have hk64 : 2 * (n / 2 ^ (h + 1)) < 2 ^ 64 := by rw [← p3]; exact Nat.lt_of_le_of_lt (Nat.div_le_self _ _) (by omega)
        generalize 2 * (n / 2 ^ (h + 1)) = k at *
        have e7 : IntKind.u64.wrap (k : Int) = (k : Int) := by rw [wrapU]; omega
        have e6 : IntKind.u64.wrap ((a : Int) + ((2 ^ h : Nat) : Int)) = ((n / 2 ^ h * 2 ^ h : Nat) : Int) := by rw [wrapU, ← pq]; omega
        have hge' : ((2 ^ h : Nat) : Int) ≤ (r : Int) := by omega
        have hz0 : ¬ ((2 ^ h : Nat) : Int) = 0 := by omega
        generalize hm : PC (n / 2 ^ (h + 1)) = m at *
        generalize hl : TOPS (h + 1) n = l at *
        generalize ((2 ^ h : Nat) : Int) = z at *
        generalize hx : n / 2 ^ h * 2 ^ h = x at *
        have R : Aside (h ≤ 62 ∧ x = n / 2 ^ h * 2 ^ h ∧ wr.ownsRow w.heap.size 55 2 u3 m (SCELLS l) ∧ Below w.heap.size w wr ∧ m ≤ 1000 ∧ PC (n / 2 ^ h) = m + 1 ∧ TOPS h n = l ++ [(h, k)]) := ⟨by omega, hx.symm, hown, hbel, hlen, hPC, hT⟩
        clear A HN h63 ha hown hbel hnn hr p1 p2 p3 p4 p5 hpw hp0 hb hge pq hT hPC hlen hk64 hm hl hx
        go_wp2_with fail
        refine (c _).mono ?_
        rintro e w' ⟨rfl, rfl⟩
        go_wp2_with fail
        refine (c _).mono ?_
        rintro e w' ⟨rfl, rfl⟩
        go_wp2_with (at_builtin; refine app_spot _ rfl (.tmp 19) (.tmp 27) rfl w.heap.size u3 m l rfl (R.out.2.2.1.alloc _) wr.heap.size 1 h k rfl (by rw [World.cell?_alloc_at _ _ _ _ rfl]; rfl) (by rw [World.cell?_alloc_at _ _ _ _ rfl]; rfl) R.out.2.2.2.2.1 (by have := R.out.2.2.2.1.size; simp; omega) ?_; intro g' cap w1 hown hgrow hg)
        obtain ⟨r1, r2, r3, r4, r5, r6, r7⟩ := R.out
        have R2 : Aside (h ≤ 63 ∧ x = n / 2 ^ h * 2 ^ h ∧ w1.ownsRow w.heap.size 55 2 (.slice (some ⟨g', 0, none⟩) (m + 1) cap) (PC (n / 2 ^ h)) (SCELLS (TOPS h n)) ∧ Below w.heap.size w w1) := ⟨by omega, r2, by rw [r6, r7]; exact hown, (r4.alloc r4.size _).grown hgrow (by have := r4.size; simp; omega) (fun k e => (r3.lt k e).1)⟩
        clear hown hgrow hg R r1 r2 r3 r4 r5 r6 r7
        refine (c _).mono ?_
        rintro e w' ⟨rfl, rfl⟩
        clear c
        go_wp2
        go_roundg h
        case measure => omega
        case rel => exact ⟨x, by first | rfl | (rw [e6]), by first | rfl | (rw [e4]), R2.out⟩
      · have hge : ¬ 2 ^ h ≤ r := fun h => hb (p2.1 h)
        have pq := p5 hb
        have hge' : ¬ ((2 ^ h : Nat) : Int) ≤ (r : Int) := by omega
        have hT := TOPS_clear (n := n) (h := h) (by omega) hb
        have hPC : PC (n / 2 ^ h) = PC (n / 2 ^ (h + 1)) := by rw [PC_step, ← half_pow]; omega
        generalize ((2 ^ h : Nat) : Int) = z at *
        have R : Aside (h ≤ 63 ∧ a = n / 2 ^ h * 2 ^ h ∧ wr.ownsRow w.heap.size 55 2 u3 (PC (n / 2 ^ h)) (SCELLS (TOPS h n)) ∧ Below w.heap.size w wr) := ⟨by omega, pq, by rw [hT, hPC]; exact hown, hbel⟩
        clear A HN h63 ha hown hbel hnn hr p1 p2 p3 p4 p5 hpw hp0 hb hge pq hT hPC
        go_wp2_with fail
        refine (c _).mono ?_
        rintro e w' ⟨rfl, rfl⟩
        clear c
        go_wp2
        go_roundg h
        case measure => omega
        case rel => exact ⟨a, rfl, by first | rfl | (rw [e4]), R.out⟩
end Go.Proofs.YtmkgldjocigffaaDoor

/- What the document's Peaks gives. -/
namespace Go.Proofs.YtmkgldjocigffaaDoor
open Go.RowKit

theorem tops_spots (n : Nat) (hn : n ≤ 4611686018427387904) (w : World) : Calls Tryd.prog 26 #[.int .u64 (n : Int)] w fun e w' =>
    ∃ a cap, e = .returned (.slice a (PC n) cap) ∧ Spots w' a (TOPS 0 n) ∧ Below w.heap.size w w' := by
  refine (tops_ok n hn w).mono ?_
  rintro e w' ⟨v, rfl, hown, hb⟩
  have hl := TOPS_length (n := n) (by omega) 0 (by omega)
  rw [Nat.pow_zero, Nat.div_one] at hl
  obtain ⟨a, cap, rfl, hs⟩ := spots_own hl hown
  exact ⟨a, cap, rfl, hs, hb⟩
end Go.Proofs.YtmkgldjocigffaaDoor

/- massifref10.Places: what leaves need, as the document says it. -/
namespace Go.Proofs.YtmkgldjocigffaaDoor
open Go.RowKit
set_option maxRecDepth 100000

/-- a number is appended, and where. -/
theorem app_numat {ops : Array Oper} {rest : List Oper} {o : Oper} {a : Act} {Q : Exit → Act → World → Prop} (w : World) (hgd : o.guard = none) (s x : Operand)
    (ho : o.op = .call { callee := .builtin .append, args := #[s, x], argTypes := #[23, 23] })
    (base : Nat) (v : Value) (n : Nat) (xs : List Nat) (hs : a.eval s = v) (hown : w.ownsRow base 22 1 v n (UCELLS xs))
    (b c : Nat) (y : Nat) (hx : a.eval x = .slice (some ⟨b, 0, none⟩) 1 c) (hc : w.cell? ⟨b, 0, none⟩ = some (.int .u64 (y : Int)))
    (hb : n ≤ 2 ^ 30) (hbase : base ≤ w.heap.size)
    (h : ∀ g cap w', w'.ownsRow base 22 1 (.slice (some ⟨g, 0, none⟩) (n + 1) cap) (n + 1) (UCELLS (xs ++ [y])) → w.grownBy w' v.ownBlock → (v.ownBlock = some g ∨ g = w.heap.size) → g < w'.heap.size → wpList Tryd.prog ops Q rest (a.put o.dst (.slice (some ⟨g, 0, none⟩) (n + 1) cap)) w') : wpList Tryd.prog ops Q (o :: rest) a w := by
  obtain ⟨i, hi, hz, hs1, hby⟩ := info_parts info_u64
  refine wpList_append_lies w hgd s x 23 ho base 22 i (.int .u64 0) 1 8 Tryd.underlying23 hi hz hs1 hby rfl (by decide) v n (UCELLS xs) hs hown ⟨b, 0, none⟩ 1 c [.int .u64 (y : Int)] hx rfl ?_ (fun u hu => by simp at hu; subst hu; rfl) (by decide) (by simp only [maxLen]; omega) (by omega) hbase w.heap.size rfl ?_
  · intro j u hj
    cases j with
    | zero =>
      simp only [List.getElem?_cons_zero, Option.some.injEq] at hj
      subst hj
      exact hc
    | succ j => simp at hj
  · intro g cap w' h1 h2 h3 h4
    rw [← UCELLS_snoc] at h1
    exact h g cap w' h1 h2 h3 h4
end Go.Proofs.YtmkgldjocigffaaDoor

/- massifref20.Places: what a span needs, as the document says it. -/
namespace Go.Proofs.YtmkgldjocigffaaDoor
open Go.RowKit
set_option maxRecDepth 100000

/-- the spots that the first i peaks need. -/
def SPS (F T N i : Nat) : List (Nat × Nat) := ((TPS N).take i).flatMap fun s => NSP s.1 s.2 (SG F T s.1 s.2)
theorem SPS_next {F T N i h k : Nat} (e : (TPS N)[i]? = some (h, k)) : SPS F T N (i + 1) = SPS F T N i ++ NSP h k (SG F T h k) := by
  unfold SPS
  rw [List.take_add_one, e, List.flatMap_append]
  simp
theorem flat_spl (F T : Nat) : ∀ ps : List (Nat × Nat), (ps.map fun s => NEED s.1 s.2 (SG F T s.1 s.2)).flatten = (ps.flatMap fun s => NSP s.1 s.2 (SG F T s.1 s.2)).map SPL
  | [] => rfl
  | s :: ps => by rw [List.map_cons, List.flatten_cons, List.flatMap_cons, List.map_append, ← flat_spl F T ps, NEED_NSP]
theorem SPS_all {F T N i : Nat} (hN : N ≤ 4611686018427387904) (hT : T ≤ N) (hi : (TPS N).length ≤ i) : SPP F T N = (SPS F T N i).map SPL := by
  rw [SPP_flat hN hT, flat_spl, SPS, List.take_of_length_le hi]
theorem SPS_few {F T N : Nat} (hN : N ≤ 4611686018427387904) (hT : T ≤ N) (i : Nat) : (SPS F T N i).length ≤ 188 := by
  have h1 := SPP_few (F := F) hN hT
  rw [SPS_all hN hT (Nat.le_refl _), List.length_map] at h1
  unfold SPS at h1 ⊢
  rw [List.take_length] at h1
  have h2 : ((TPS N).flatMap fun s => NSP s.1 s.2 (SG F T s.1 s.2)).length = (((TPS N).take i).flatMap fun s => NSP s.1 s.2 (SG F T s.1 s.2)).length + (((TPS N).drop i).flatMap fun s => NSP s.1 s.2 (SG F T s.1 s.2)).length := by
    rw [← List.length_append, ← List.flatMap_append, List.take_append_drop]
  omega
set_option maxHeartbeats 4000000 in
theorem srefplaces_ok (F T N : Nat) (w : World) : Calls Tryd.prog 7 #[.int .u64 (F : Int), .int .u64 (T : Int), .int .u64 (N : Int)] w (ANSP20 w (SPE F T N) (SPA F T N)) := by
  rcases SPE_cases F T N with ⟨e1, e2, h⟩ | ⟨e1, e2, h, h'⟩ | ⟨e1, e2, hN, hF, hTN⟩
  · rw [e1, e2]
    have g1 : (4611686018427387904 : Int) < (N : Int) := by omega
    clear h e1 e2
    go_enter Tryd.func7, Tryd.ntmps7
    go_wp2
    go_ret2
    exact ⟨none, 0, rfl, own_none20 _ _, Below.refl _ _⟩
  · rw [e1, e2]
    have g1 : ¬ (4611686018427387904 : Int) < (N : Int) := by omega
    have g2 : (T : Int) < (F : Int) ∨ (¬ (T : Int) < (F : Int) ∧ (N : Int) < (T : Int)) := by omega
    clear h h' e1 e2
    rcases g2 with g2 | ⟨g2, g3⟩
    all_goals
      go_enter Tryd.func7, Tryd.ntmps7
      go_wp2
      go_ret2
      exact ⟨none, 0, rfl, own_none20 _ _, Below.refl _ _⟩
  · rw [e1, e2]
    have g1 : ¬ (4611686018427387904 : Int) < (N : Int) := by omega
    have g2 : ¬ (T : Int) < (F : Int) := by omega
    have g3 : ¬ (N : Int) < (T : Int) := by omega
    have ct := tops_spots N hN w
    have hPC : PC N ≤ 64 := PC_lt_pow 64 N (by omega)
    have hlen := TPS_length (n := N) (by omega)
    have hsp : ∀ s ∈ TPS N, s.1 ≤ 62 ∧ Node s.1 s.2 := fun s hs => ⟨(TPS_span (n := N) (by omega) (h := s.1) (k := s.2) hs).1, (TPS_span (n := N) (by omega) (h := s.1) (k := s.2) hs).2.2⟩
    have HT : Aside (N ≤ 4611686018427387904 ∧ PC N ≤ 64 ∧ (TPS N).length = PC N ∧ (∀ s ∈ TPS N, s.1 ≤ 62 ∧ Node s.1 s.2) ∧ T ≤ N) := ⟨hN, hPC, hlen, hsp, hTN⟩
    have HP : Aside (SPP F T N = (SPS F T N (PC N)).map SPL) := SPS_all hN hTN (by rw [hlen]; exact Nat.le_refl _)
    obtain ⟨PP, hPP⟩ : ∃ PP, SPP F T N = PP := ⟨_, rfl⟩
    rw [hPP] at HP ⊢
    clear hN hF hTN hPC hlen hsp e1 e2 hPP
    go_enter Tryd.func7, Tryd.ntmps7
    go_wp2_with fail
    refine ct.mono ?_
    rintro e w1 ⟨ag, cg, rfl, hsp, hb1⟩
    have R1 : Aside (Spots w1 ag (TPS N) ∧ Below w.heap.size w w1) := ⟨hsp, hb1⟩
    obtain ⟨M, hM⟩ : ∃ M, PC N = M := ⟨_, rfl⟩
    rw [hM] at HP ⊢
    have HM : Aside (PC N = M) := hM
    clear ct hsp hb1 hM
    go_wp2_with fail
    go_loopg [8, 10] M (fun q s8 s10 wx => ∃ (i : Nat) (v : Value), v = s8 ∧ s10 = .int .i64 (i : Int) ∧ Aside (i + q = M ∧ wx.ownsRow w1.heap.size 22 1 v (SPS F T N i).length (UCELLS ((SPS F T N i).map SPL)) ∧ Below w1.heap.size w1 wx))
    case atStart => exact ⟨0, _, rfl, rfl, by omega, ⟨rfl, .inl ⟨rfl, rfl⟩⟩, Below.refl _ _⟩
    case round =>
      obtain ⟨i, v, rfl, rfl, A⟩ := hrel
      obtain ⟨av, cv, rfl⟩ := own_sliced A.out.2.1
      cases gk with
      | zero =>
        obtain rfl : i = M := by have := A.out.1; omega
        have hlt2 : ¬ (i : Int) < (i : Int) := by omega
        have FN : Aside (ANSP20 w 0 PP (.returned (.tuple #[.slice av (SPS F T N i).length cv, .int .i64 0])) wr) := by
          obtain ⟨_, h2, h3⟩ := A.out
          rw [HP.out]
          refine ⟨av, cv, by rw [List.length_map], ?_, R1.out.2.trans (h3.mono R1.out.2.size)⟩
          rw [List.length_map]
          exact own_mono h2 R1.out.2.size
        clear A R1 HT HM HP
        go_wp2_with fail
        go_ret2
        exact FN.out
      | succ q =>
        have hiM : i < M := by have := A.out.1; omega
        have hlt2 : (i : Int) < (M : Int) := by omega
        obtain ⟨⟨h, k⟩, ehk⟩ : ∃ s, (TPS N)[i]? = some s := ⟨_, List.getElem?_eq_getElem (by rw [HT.out.2.2.1, HM.out]; exact hiM)⟩
        obtain ⟨g, rfl, hg, hc⟩ := R1.out.1 (by rw [HT.out.2.2.1, HM.out]; omega)
        have x0 : wr.cell? ⟨g, i * 2, none⟩ = some (.int .u8 (h : Int)) := (A.out.2.2.cell (p := ⟨g, i * 2, none⟩) hg).trans (hc i h k ehk).1
        have x1 : wr.cell? ⟨g, i * 2 + 1, none⟩ = some (.int .u64 (k : Int)) := (A.out.2.2.cell (p := ⟨g, i * 2 + 1, none⟩) hg).trans (hc i h k ehk).2
        have hnd := HT.out.2.2.2.1 (h, k) (List.mem_of_getElem? ehk)
        have cn := sneeds_ok F T h k hnd.2 wr
        have ei : wrap64 ((i : Int) + 1) = ((i + 1 : Nat) : Int) := by have := HT.out.2.1; have := HM.out; unfold wrap64; omega
        have hst := SPS_next (F := F) (T := T) ehk
        have hfew : (SPS F T N i).length + (NSP h k (SG F T h k)).length ≤ 188 := by
          rw [← List.length_append, ← hst]
          exact SPS_few HT.out.1 HT.out.2.2.2.2 (i + 1)
        have hnodes : ∀ s ∈ NSP h k (SG F T h k), Node s.1 s.2 := NSP_node h k _ hnd.2
        obtain ⟨P, hP⟩ : ∃ P, SPS F T N i = P := ⟨_, rfl⟩
        obtain ⟨B, hB⟩ : ∃ B, NSP h k (SG F T h k) = B := ⟨_, rfl⟩
        rw [hP, hB] at hst hfew
        rw [hB] at cn hnodes
        have R : Aside (i + 1 + q = M ∧ wr.ownsRow w1.heap.size 22 1 (.slice av P.length cv) P.length (UCELLS (P.map SPL)) ∧ Below w1.heap.size w1 wr ∧ P.length + B.length ≤ 188 ∧ (∀ s ∈ B, Node s.1 s.2) ∧ SPS F T N (i + 1) = P ++ B) := ⟨by have := A.out.1; clear ei; omega, by rw [← hP]; exact A.out.2.1, A.out.2.2, hfew, hnodes, hst⟩
        have hS : SPOT h k = .agg #[.int .u8 (h : Int), .int .u64 (k : Int)] := rfl
        rw [hS] at cn
        rw [hP]
        clear A hst hfew hnodes hP hB hnd hc hiM ehk hS
        go_wp2_with fail
        refine cn.mono ?_
        rintro e w2 ⟨ab, cb, rfl, hownB, hb2⟩
        have R2 : Aside (w2.ownsRow w1.heap.size 22 1 (.slice av P.length cv) P.length (UCELLS (P.map SPL)) ∧ Below w1.heap.size w1 w2 ∧ w2.ownsRow wr.heap.size 55 2 (.slice ab B.length cb) B.length (SCELLS B)) := ⟨own_below R.out.2.1 hb2, R.out.2.2.1.trans (hb2.mono R.out.2.2.1.size), hownB⟩
        clear cn hownB hb2 x0 x1
        go_wp2_with fail
        have AP : Aside (∀ g, (Value.slice av P.length cv).ownBlock = some g → (Value.slice ab B.length cb).ownBlock ≠ some g) := fun g e1 e2 => by
          have h1 := (R.out.2.1.lt g e1).2
          have h2 := (R2.out.2.2.lt g e2).1
          omega
        have RB : Aside (w2.ownsRow w1.heap.size 55 2 (.slice ab B.length cb) B.length (SCELLS B)) := own_mono R2.out.2.2 R.out.2.2.1.size
        obtain ⟨u, hu⟩ : ∃ u, P.length = u := ⟨_, rfl⟩
        obtain ⟨nb, hnb⟩ : ∃ nb, B.length = nb := ⟨_, rfl⟩
        rw [hu] at R R2 AP
        rw [hnb] at R R2 AP RB
        rw [hu, hnb]
        have HB : Aside (B.length = nb ∧ P.length = u) := ⟨hnb, hu⟩
        clear hnb hu
        go_wp2_with fail
        go_loopg [8, 12] nb (fun q2 s8 s12 wx => ∃ (y : Nat) (v : Value), v = s8 ∧ s12 = .int .i64 (y : Int) ∧ Aside (y + q2 = nb ∧ wx.ownsRow w1.heap.size 22 1 v (u + y) (UCELLS ((P ++ B.take y).map SPL)) ∧ Below w1.heap.size w1 wx ∧ wx.ownsRow w1.heap.size 55 2 (.slice ab nb cb) nb (SCELLS B) ∧ (∀ g, v.ownBlock = some g → (Value.slice ab nb cb).ownBlock ≠ some g)))
        case atStart => exact ⟨0, _, rfl, rfl, by omega, by simpa using R2.out.1, R2.out.2.1, RB.out, AP.out⟩
        case round =>
          obtain ⟨y, v, rfl, rfl, A⟩ := hrel
          clear R2 AP RB
          cases gk with
          | zero =>
            obtain rfl : y = nb := by have := A.out.1; omega
            have hlt3 : ¬ (y : Int) < (y : Int) := by omega
            have Z : Aside (i + 1 + q = M ∧ wr.ownsRow w1.heap.size 22 1 v (SPS F T N (i + 1)).length (UCELLS ((SPS F T N (i + 1)).map SPL)) ∧ Below w1.heap.size w1 wr) := by
              obtain ⟨_, h2, h3, _⟩ := A.out
              rw [List.take_of_length_le (by have := HB.out.1; omega)] at h2
              rw [R.out.2.2.2.2.2, List.length_append, HB.out.1, HB.out.2]
              exact ⟨R.out.1, h2, h3⟩
            clear A R HB
            go_wp2_with fail
            go_roundg q
            case measure => exact Nat.lt_succ_self _
            case rel => exact ⟨i + 1, _, rfl, by first | rfl | (rw [ei]), Z.out⟩
          | succ q2 =>
            have hyn : y < nb := by have := A.out.1; omega
            have hlt3 : (y : Int) < (nb : Int) := by omega
            obtain ⟨⟨h2, k2⟩, eh2⟩ : ∃ s, B[y]? = some s := ⟨_, List.getElem?_eq_getElem (by have := HB.out.1; omega)⟩
            obtain ⟨g2, rfl⟩ : ∃ g, ab = some ⟨g, 0, none⟩ := by
              rcases A.out.2.2.2.1.2 with ⟨e, h0⟩ | ⟨g, _, _, e, _⟩
              · omega
              · cases e; exact ⟨g, rfl⟩
            have hs2 := SCELLS_at B y h2 k2 eh2
            have y0 : wr.cell? ⟨g2, y * 2, none⟩ = some (.int .u8 (h2 : Int)) := (A.out.2.2.2.1.cellAt (y * 2) (by omega)).trans hs2.1
            have y1 : wr.cell? ⟨g2, y * 2 + 1, none⟩ = some (.int .u64 (k2 : Int)) := (A.out.2.2.2.1.cellAt (y * 2 + 1) (by omega)).trans hs2.2
            have cp := fun w => refplace_ok h2 k2 (R.out.2.2.2.2.1 (h2, k2) (List.mem_of_getElem? eh2)) w
            have ey : wrap64 ((y : Int) + 1) = ((y + 1 : Nat) : Int) := by have := R.out.2.2.2.1; unfold wrap64; omega
            have ht : (P ++ B.take (y + 1)).map SPL = (P ++ B.take y).map SPL ++ [PLC h2 k2] := by
              rw [List.take_add_one, eh2]
              simp [SPL]
            have R3 : Aside (y + 1 + q2 = nb ∧ wr.ownsRow w1.heap.size 22 1 v (u + y) (UCELLS ((P ++ B.take y).map SPL)) ∧ Below w1.heap.size w1 wr ∧ wr.ownsRow w1.heap.size 55 2 (.slice (some ⟨g2, 0, none⟩) nb cb) nb (SCELLS B) ∧ (∀ g, v.ownBlock = some g → (Value.slice (some ⟨g2, 0, none⟩) nb cb).ownBlock ≠ some g) ∧ u + y ≤ 2 ^ 30 ∧ (P ++ B.take (y + 1)).map SPL = (P ++ B.take y).map SPL ++ [PLC h2 k2]) := ⟨by have := A.out.1; clear ey; omega, A.out.2.1, A.out.2.2.1, A.out.2.2.2.1, A.out.2.2.2.2, by have := R.out.2.2.2.1; clear ey; omega, ht⟩
            generalize PLC h2 k2 = pl at *
            generalize (P ++ B.take y).map SPL = X1 at *
            generalize hX2 : (P ++ B.take (y + 1)).map SPL = X2 at *
            have HX2 : Aside ((P ++ B.take (y + 1)).map SPL = X2) := hX2
            clear A hs2 ht hX2 eh2 hyn
            go_wp2_with fail
            refine (cp _).mono ?_
            rintro e w3 ⟨rfl, hb3⟩
            have R4 : Aside (w3.ownsRow w1.heap.size 22 1 v (u + y) (UCELLS X1) ∧ Below w1.heap.size w1 w3 ∧ w3.ownsRow w1.heap.size 55 2 (.slice (some ⟨g2, 0, none⟩) nb cb) nb (SCELLS B)) := ⟨own_below R3.out.2.1 hb3, R3.out.2.2.1.trans (hb3.mono R3.out.2.2.1.size), own_below R3.out.2.2.2.1 hb3⟩
            clear cp hb3 y0 y1
            go_wp2_with (first
              | (at_builtin; refine app_numat _ rfl (.tmp 54) (.tmp 56) rfl w1.heap.size v (u + y) X1 rfl (R4.out.1.alloc _) w3.heap.size 1 pl rfl ((Has.new _ _ _).cell 0) R3.out.2.2.2.2.2.1 (by have := R4.out.2.1.size; simp; omega) ?_; intro g4 c4 w4 hown hgrow hat hg
                 have R5 : Aside (y + 1 + q2 = nb ∧ w4.ownsRow w1.heap.size 22 1 (.slice (some ⟨g4, 0, none⟩) (u + y + 1) c4) (u + (y + 1)) (UCELLS ((P ++ B.take (y + 1)).map SPL)) ∧ Below w1.heap.size w1 w4 ∧ w4.ownsRow w1.heap.size 55 2 (.slice (some ⟨g2, 0, none⟩) nb cb) nb (SCELLS B) ∧ (∀ g, (Value.slice (some ⟨g4, 0, none⟩) (u + y + 1) c4).ownBlock = some g → (Value.slice (some ⟨g2, 0, none⟩) nb cb).ownBlock ≠ some g)) := by
                   obtain ⟨r1, r2, r3, r4, r5, r6, r7⟩ := R3.out
                   obtain ⟨s1, s2, s3⟩ := R4.out
                   refine ⟨r1, ?_, (s2.alloc s2.size _).grown hgrow (by have := s2.size; simp; omega) (fun k e => (s1.lt k e).1), own_hold (own_alloc s3 _) (fun k e => hgrow.block k (by have := (s3.lt k e).2; simp; omega) (fun e2 => r5 k e2.symm e)), fun g e1 e2 => ?_⟩
                   · rw [HX2.out, r7]
                     exact hown
                   · have e1 : g4 = g := by simpa [Value.ownBlock] using e1
                     subst e1
                     rcases hat with h | h
                     · exact r5 _ h e2
                     · have := (s3.lt _ e2).2
                       simp at h
                       omega
                 clear hown hgrow hg hat R4 R3))
            go_roundg q2
            case measure => exact Nat.lt_succ_self _
            case rel => exact ⟨y + 1, _, rfl, by first | rfl | (rw [ey]), R5.out⟩
end Go.Proofs.YtmkgldjocigffaaDoor
