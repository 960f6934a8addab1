/- Texts of SpanSets, one behind the other: ProofSteps, ManyReader, ManyIndex, ManyNeedE, ManyWritten, ManyWhole, ManyDecodePlain, CutRefSpan, ProofRefPlaces, ProofLists, ManyLies, ManyStays2, SpanSetsWalk, PosDoor, ManyDoor. -/
import Derived.Test.YtmkgldjocigffaaDoorRows
import Derived.ProofKit
import Derived.LaidMore
import Derived.OpenShut
import Derived.Stop.Joined
import Derived.Test.YtmkgldjocigffaaDoorSpanSetsP8
import Derived.Test.YtmkgldjocigffaaDoorSpanSetsP9
/- What a reader has behind each part. -/
namespace Go.Proofs.YtmkgldjocigffaaDoor
open Go.RowKit
set_option maxRecDepth 100000

/-- a reader's cells: what is left, two numbers, the nodes. -/
def RCELLS (v : Value) (X Y : Nat) (nv : Value) : Array Value := #[v, .int .u64 (X : Int), .int .u64 (Y : Int), nv]
/-- the reader and the list of its parts lie there; what was there before is as it was. -/
structure FRM (w0 w : World) (rb gl : Nat) (t : TypeId) (v : Value) (X Y : Nat) (nv : Value) (fl : Array Value) (tf : TypeId) : Prop where
  bel : Below w0.heap.size w0 w
  rd : Has w rb (RCELLS v X Y nv) t
  fl : Has w gl fl tf
  ne : gl ≠ rb
  lb : w0.heap.size ≤ rb
  lg : w0.heap.size ≤ gl
/-- the bytes that are left lie there. -/
def SRC (w0 : World) (a : Option Addr) (c : Nat) (t : List Int) : Prop := Bytes w0 a t.length t ∧ t.length ≤ c ∧ t.length ≤ 1000000
theorem FRM.drew {w0 w : World} {rb gl : Nat} {t : TypeId} {v : Value} {X Y : Nat} {nv : Value} {fl : Array Value} {tf : TypeId} (h : FRM w0 w rb gl t v X Y nv fl tf) : FRM w0 w.drew rb gl t v X Y nv fl tf := ⟨h.bel.drew, h.rd, h.fl, h.ne, h.lb, h.lg⟩
theorem FRM.keep {w0 w w' : World} {rb gl : Nat} {t : TypeId} {v : Value} {X Y : Nat} {nv : Value} {fl : Array Value} {tf : TypeId} (h : FRM w0 w rb gl t v X Y nv fl tf) (hb : Below w.heap.size w w') : FRM w0 w' rb gl t v X Y nv fl tf := ⟨h.bel.trans (hb.mono h.bel.size), h.rd.keep hb, h.fl.keep hb, h.ne, h.lb, h.lg⟩
theorem FRM.rest {w0 w : World} {rb gl : Nat} {t : TypeId} {v : Value} {X Y : Nat} {nv : Value} {fl : Array Value} {tf : TypeId} (h : FRM w0 w rb gl t v X Y nv fl tf) (v' : Value) : FRM w0 (w.setCell ⟨rb, 0, none⟩ v') rb gl t v' X Y nv fl tf :=
  ⟨h.bel.setCell (p := ⟨rb, 0, none⟩) h.lb _, h.rd.set 0 v', h.fl.other (a := ⟨rb, 0, none⟩) h.ne _, h.ne, h.lb, h.lg⟩
theorem SRC.drop {w0 : World} {b off c : Nat} {t : List Int} (h : SRC w0 (some ⟨b, off, none⟩) c t) (k : Nat) (hk : k ≤ t.length) : SRC w0 (REST b off c k) (c - k) (t.drop k) := by
  obtain ⟨h1, h2, h3⟩ := h
  have := h1.behind k hk h2
  refine ⟨?_, by rw [List.length_drop]; omega, by rw [List.length_drop]; omega⟩
  rw [List.length_drop]
  exact this
end Go.Proofs.YtmkgldjocigffaaDoor

/- The reader of package many: a number, the mark, the end. -/
namespace Go.Proofs.YtmkgldjocigffaaDoor
open Go.RowKit
set_option maxRecDepth 100000

/-- but for the block rb, what was there is as it was. -/
structure STAY (w w' : World) (rb : Nat) : Prop where
  kp : ∀ k, k < w.heap.size → k ≠ rb → w'.heap[k]? = w.heap[k]?
  bl : Below rb w w'
theorem STAY.refl (w : World) (rb : Nat) : STAY w w rb := ⟨fun _ _ _ => rfl, Below.refl _ _⟩
theorem STAY.trans {w w' w'' : World} {rb : Nat} (h : STAY w w' rb) (h' : STAY w' w'' rb) : STAY w w'' rb := ⟨fun k hk hne => (h'.kp k (Nat.lt_of_lt_of_le hk h.bl.size) hne).trans (h.kp k hk hne), h.bl.trans h'.bl⟩
theorem STAY.set (w : World) (rb i : Nat) (v : Value) : STAY w (w.setCell ⟨rb, i, none⟩ v) rb := ⟨fun k _ hne => Below.heap_setCell w ⟨rb, i, none⟩ v k hne, (Below.refl _ _).setCell (p := ⟨rb, i, none⟩) (Nat.le_refl _) _⟩
/-! the mark -/
/-! the size, the end -/
end Go.Proofs.YtmkgldjocigffaaDoor

/- index of the reader of package many: so many indices, each as what is between it and the one ahead. -/
namespace Go.Proofs.YtmkgldjocigffaaDoor
open Go.RowKit
set_option maxRecDepth 100000

end Go.Proofs.YtmkgldjocigffaaDoor

/- needUnder and need of package many, with the closure of Encode. -/
namespace Go.Proofs.YtmkgldjocigffaaDoor
open Go.RowKit
set_option maxRecDepth 100000

end Go.Proofs.YtmkgldjocigffaaDoor

/- written of package many: a proof in bytes. -/
namespace Go.Proofs.YtmkgldjocigffaaDoor
open Go.RowKit
set_option maxRecDepth 100000

end Go.Proofs.YtmkgldjocigffaaDoor

/- mustBeWhole of package many: it gives up where a proof has other leaves than there are, or other nodes than they need. -/
namespace Go.Proofs.YtmkgldjocigffaaDoor
open Go.RowKit
set_option maxRecDepth 100000

/-- the number in bl is how many of K are left behind acc. -/
structure COUNTING (K : Nat) (w0 w : World) (bl : Nat) (acc : List Nat) : Prop where
  le : acc.length ≤ K
  row : Has w bl #[.int .i64 ((K - acc.length : Nat) : Int)] 3
  keep : ∀ b, b < w0.heap.size → b ≠ bl → w.heap[b]? = w0.heap[b]?
  lt : bl < w0.heap.size
  below : Below bl w0 w
theorem COUNTING.still {K : Nat} {w0 w w' : World} {bl : Nat} {acc : List Nat} (h : COUNTING K w0 w bl acc) (hb : Below w.heap.size w w') : COUNTING K w0 w' bl acc := by
  have hs := h.below.size
  have hlt := h.lt
  exact ⟨h.le, h.row.keep hb, fun b hb0 hne => (hb.block b (by omega)).trans (h.keep b hb0 hne), hlt, h.below.trans (hb.mono (by omega))⟩
end Go.Proofs.YtmkgldjocigffaaDoor

/- What Decode of package many answers, of any bytes: plain. -/
namespace Go.Proofs.YtmkgldjocigffaaDoor
set_option maxRecDepth 100000

theorem RCHK_yes {n : Nat} : ∀ (L : List Nat) (prev : Option Nat), L.Pairwise (· < ·) → (∀ x ∈ L, x < n) → (∀ y, prev = some y → ∀ x ∈ L, y < x) → RCHK n prev L = 0
  | [], _, _, _, _ => rfl
  | x :: l, prev, hp, hx, hy => by
    rw [RCHK, if_neg, if_neg (by have := hx x (List.mem_cons_self ..); omega)]
    · exact RCHK_yes l (some x) (List.pairwise_cons.1 hp).2 (fun z hz => hx z (List.mem_cons_of_mem _ hz)) (fun y e z hz => by cases e; exact (List.pairwise_cons.1 hp).1 z hz)
    · cases prev with
      | none => simp [NOTUP]
      | some y =>
        have := hy y rfl x (List.mem_cons_self ..)
        simp [NOTUP]
        omega
theorem pair_of {L : List Nat} (h : RISES L) : L.Pairwise (· < ·) := by
  rw [List.pairwise_iff_getElem]
  intro i j hi hj hij
  exact h i j _ _ hij (List.getElem?_eq_getElem hi) (List.getElem?_eq_getElem hj)
theorem RISEA_yes {n : Nat} {L : List Nat} (hn : n ≤ 4611686018427387904) (hr : RISES L) (hx : ∀ x ∈ L, x < n) : RISEA L n = 0 := by
  unfold RISEA
  rw [if_neg (by omega)]
  exact RCHK_yes L none (pair_of hr) hx (fun y e => by cases e)
end Go.Proofs.YtmkgldjocigffaaDoor

/- What the document's Span answers. -/
namespace Go.Proofs.YtmkgldjocigffaaDoor
open Go.RowKit

end Go.Proofs.YtmkgldjocigffaaDoor

/- What the document's Places and PrefixPlaces answer; two lists of numbers that read the same or not. -/
namespace Go.Proofs.YtmkgldjocigffaaDoor
open Go.RowKit
set_option maxRecDepth 100000

end Go.Proofs.YtmkgldjocigffaaDoor

/- Two lists of numbers that read the same; a list written over and grown; does it have the mark alone? -/
namespace Go.Proofs.YtmkgldjocigffaaDoor
open Go.RowKit
set_option maxRecDepth 100000

end Go.Proofs.YtmkgldjocigffaaDoor

/- A list of numbers of one's own lies there; what lies there stays. -/
namespace Go.Proofs.YtmkgldjocigffaaDoor
open Go.RowKit
set_option maxRecDepth 100000

theorem own_lies {w : World} {B n c : Nat} {a : Option Addr} {L : List Nat} (h : w.ownsRow B 22 1 (.slice a n c) n (UCELLS L)) (hl : L.length = n) : NUML w a L := fun h0 => by
  rcases h.2 with ⟨e, h1⟩ | ⟨g, cap, cur, e, hb, hg, _⟩
  · omega
  · cases e
    refine ⟨g, 0, rfl, (Array.getElem?_eq_some_iff.1 hg).1, fun i x hx => ?_⟩
    have hi : i < L.length := (List.getElem?_eq_some_iff.1 hx).1
    rw [Nat.zero_add, h.cellAt i (by omega), UCELLS, List.getElem?_map, hx]
    rfl
theorem NUML.keep {w w' : World} {a : Option Addr} {L : List Nat} (h : NUML w a L) (hb : Below w.heap.size w w') : NUML w' a L := fun h0 => by
  obtain ⟨b, o, e, hl, hc⟩ := h h0
  exact ⟨b, o, e, Nat.lt_of_lt_of_le hl hb.size, fun i x hx => (hb.cell (p := ⟨b, o + i, none⟩) hl).trans (hc i x hx)⟩
end Go.Proofs.YtmkgldjocigffaaDoor

/- Two lists of numbers that are alike, wherever they lie. -/
namespace Go.Proofs.YtmkgldjocigffaaDoor
open Go.RowKit
set_option maxRecDepth 100000

set_option maxHeartbeats 1000000 in
theorem samenuml_ok (a b : Option Addr) (n ca cb : Nat) (L : List Nat) (hl : L.length = n) (hn : n ≤ 2 ^ 24) (w : World) (hA : NUML w a L) (hB : NUML w b L) :
    Calls Tryd.prog 9 #[.slice a n ca, .slice b n cb] w fun e w' => e = .returned (.bool true) ∧ Below w.heap.size w w' := by
  rcases Nat.eq_zero_or_pos n with h | h
  · subst h
    clear hA hB hl
    go_enter Tryd.func9, Tryd.ntmps9
    go_wp2
    refine wp_loop_rounds 1 ?_
    rw [rounds_succ]
    go_wp2
    go_ret
    exact ⟨rfl, Below.refl _ _⟩
  · obtain ⟨ga, oa, rfl, la, hca⟩ := hA (by omega)
    obtain ⟨gb, ob, rfl, lb, hcb⟩ := hB (by omega)
    have HC : Aside ((∀ (i x : Nat), L[i]? = some x → w.cell? ⟨ga, oa + i, none⟩ = some (.int .u64 (x : Int))) ∧ (∀ (i x : Nat), L[i]? = some x → w.cell? ⟨gb, ob + i, none⟩ = some (.int .u64 (x : Int))) ∧ ga < w.heap.size ∧ gb < w.heap.size ∧ L.length = n ∧ n ≤ 2 ^ 24) := ⟨hca, hcb, la, lb, hl, hn⟩
    clear hA hB hca hcb la lb hl hn
    go_enter Tryd.func9, Tryd.ntmps9
    go_wp2
    go_loopg [5] n (fun g s5 wx => ∃ k : Nat, k + g = n ∧ s5 = .int .i64 k ∧ Aside (Below w.heap.size w wx))
    case atStart => exact ⟨0, by omega, rfl, Below.refl _ _⟩
    case round =>
      obtain ⟨k, hkg, rfl, A⟩ := hrel
      cases gk with
      | zero =>
        obtain rfl : k = n := by omega
        go_wp2
        go_ret
        exact ⟨rfl, A.out⟩
      | succ g =>
        have hlt : (k : Int) < (n : Int) := by omega
        obtain ⟨x, ex⟩ : ∃ x, L[k]? = some x := ⟨_, List.getElem?_eq_getElem (by have := HC.out.2.2.2.2.1; omega)⟩
        have h1 : wr.cell? ⟨ga, oa + k, none⟩ = some (.int .u64 (x : Int)) := (A.out.cell (by exact HC.out.2.2.1)).trans (HC.out.1 k x ex)
        have h2 : wr.cell? ⟨gb, ob + k, none⟩ = some (.int .u64 (x : Int)) := (A.out.cell (by exact HC.out.2.2.2.1)).trans (HC.out.2.1 k x ex)
        have hk24 : k < 2 ^ 24 := by have := HC.out.2.2.2.2.2; omega
        clear ex
        go_wp2
        go_quiet (fail)
        go_wp2
        go_roundg g
        case measure => omega
        case rel => exact ⟨k + 1, by omega, by go_num, below_drewN A.out _⟩
end Go.Proofs.YtmkgldjocigffaaDoor

/- The law SpanSets returns true. -/
namespace Go.Proofs.YtmkgldjocigffaaDoor
open Go.RowKit
set_option maxRecDepth 100000

theorem span_cover {F T N : Nat} (hN : N ≤ 4611686018427387904) (hT : T ≤ N) : COVER 0 N (SEG F T) (NSPS (TPS N) (SEG F T)) :=
  nsps_cover (TPS N) 0 N (SEG F T) (TPS_tile hN) (SEG_rises F T).pairwise fun x hx => by have := SEG_mem.1 hx; omega
/-- what is known of the j-th node. -/
structure SETS20 (F T N h k : Nat) : Prop where
  node : Node h k
  lt : PLC h k < NODES N
  toe : (k + 1) * 2 ^ h ≤ N
  off : ¬ (k * 2 ^ h < T ∧ F < (k + 1) * 2 ^ h ∧ F < T)
theorem span_set {F T N : Nat} (hN : N ≤ 4611686018427387904) (hT : T ≤ N) {j h k : Nat} (e : (NSPS (TPS N) (SEG F T))[j]? = some (h, k)) : SETS20 F T N h k := by
  have hc := span_cover (F := F) hN hT
  have hs := List.mem_of_getElem? e
  have ht : (k + 1) * 2 ^ h ≤ N := (hc.within _ hs).2
  have h1 : 1 * 2 ^ h ≤ (k + 1) * 2 ^ h := Nat.mul_le_mul_right _ (by omega)
  have hl : h ≤ 62 := by
    rcases Nat.lt_or_ge 62 h with h2 | h2
    · have : 2 ^ 63 ≤ 2 ^ h := Nat.pow_le_pow_right (by decide) h2
      omega
    · exact h2
  refine ⟨node_of_span hl (by omega), plc_under ht, ht, fun ⟨a, b, c⟩ => ?_⟩
  have hlt : k * 2 ^ h + 2 ^ h = (k + 1) * 2 ^ h := FRS_lt (h, k)
  have hp := Nat.two_pow_pos h
  have hx : max F (k * 2 ^ h) ∈ SEG F T := SEG_mem.2 (by omega)
  refine hc.off _ hs _ hx ?_
  unfold FRS TOE
  simp only
  omega
/-- the sum of the first j. -/
def SUMW (sp : List (Nat × Nat)) (j : Nat) : Nat := ((sp.take j).map fun s => 2 ^ s.1).sum
theorem SUMW_next {sp : List (Nat × Nat)} {j h k : Nat} (e : sp[j]? = some (h, k)) : SUMW sp (j + 1) = SUMW sp j + 2 ^ h := by
  unfold SUMW
  rw [List.take_add_one, e]
  simp
theorem SUMW_le (sp : List (Nat × Nat)) (j : Nat) : SUMW sp j ≤ (sp.map fun s => 2 ^ s.1).sum := by
  unfold SUMW
  have h : (sp.map fun s => 2 ^ s.1).sum = ((sp.take j).map fun s => 2 ^ s.1).sum + ((sp.drop j).map fun s => 2 ^ s.1).sum := by
    rw [← List.sum_append, ← List.map_append, List.take_append_drop]
  omega
theorem SUMW_all {sp : List (Nat × Nat)} {j : Nat} (hj : sp.length ≤ j) : SUMW sp j = (sp.map fun s => 2 ^ s.1).sum := by
  unfold SUMW
  rw [List.take_of_length_le hj]
theorem SEG_snoc {a b : Nat} (h : a ≤ b) : SEG a (b + 1) = SEG a b ++ [b] := by
  unfold SEG
  rw [show b + 1 - a = (b - a) + 1 by omega, List.range'_concat, Nat.one_mul, show a + (b - a) = b by omega]
set_option maxHeartbeats 4000000 in
theorem sets20_not (F T N : Nat) (w : World) (hE : SPE F T N ≠ 0) (hT : Tabled w) (h0 : 0 < w.heap.size) :
    Calls Tryd.prog 4 #[.int .u64 (F : Int), .int .u64 (T : Int), .int .u64 (N : Int)] w fun e w' => e = .returned (.bool true) ∧ Below w.heap.size w w' := by
  have cp := spanplaces_ok F T N w hT h0
  have tab : Aside (∀ W, Below w.heap.size w W → Tabled W ∧ 0 < W.heap.size) := fun W hb => ⟨hT.below h0 hb, by have := hb.size; omega⟩
  have g : SPA F T N = [] ∧ ((4611686018427387904 : Int) < (N : Int) ∨ (¬ (4611686018427387904 : Int) < (N : Int) ∧ ((T : Int) < (F : Int) ∨ (¬ (T : Int) < (F : Int) ∧ (N : Int) < (T : Int))))) := by
    rcases SPE_cases F T N with ⟨_, e2, h⟩ | ⟨_, e2, h, h'⟩ | ⟨e1, _⟩
    · exact ⟨e2, .inl (by omega)⟩
    · exact ⟨e2, .inr ⟨by omega, by omega⟩⟩
    · exact absurd e1 hE
  obtain ⟨gP, g⟩ := g
  rw [gP] at cp
  unfold ANSP20 at cp
  have hne : (SPE F T N != 0) = true := by simp [hE]
  generalize SPE F T N = E at *
  clear gP hT h0
  rcases g with g1 | ⟨g1, g2 | ⟨g2, g3⟩⟩
  all_goals
    go_enter Tryd.func4, Tryd.ntmps4
    go_wp2_with fail
    refine cp.mono ?_
    rintro e w1 ⟨a1, k1, rfl, _, hb1⟩
    rw [List.length_nil]
    have B1 : Aside (Below w.heap.size w w1) := hb1
    clear cp hb1
    have ca := awake20_ok w1 (tab.out w1 B1.out).1 (tab.out w1 B1.out).2
    clear tab
    go_wp2_with fail
    refine ca.mono ?_
    rintro e w2 ⟨rfl, hb2⟩
    have FN : Aside (Below w.heap.size w w2) := B1.out.trans (hb2.mono B1.out.size)
    clear ca hb2 B1
    go_wp2_with fail
    go_ret
    exact ⟨rfl, FN.out⟩
set_option maxHeartbeats 8000000 in
theorem sets20_yes (F T N : Nat) (w : World) (hN : N ≤ 4611686018427387904) (hF : F ≤ T) (hTN : T ≤ N) (hT : Tabled w) (h0 : 0 < w.heap.size) :
    Calls Tryd.prog 4 #[.int .u64 (F : Int), .int .u64 (T : Int), .int .u64 (N : Int)] w fun e w' => e = .returned (.bool true) ∧ Below w.heap.size w w' := by
  have tab : Aside (∀ W, Below w.heap.size w W → Tabled W ∧ 0 < W.heap.size) := fun W hb => ⟨hT.below h0 hb, by have := hb.size; omega⟩
  have cp := spanplaces_ok F T N w hT h0
  have e1 : SPE F T N = 0 := by unfold SPE; rw [if_neg (by omega), if_neg (by omega)]
  have e2 : SPA F T N = SPP F T N := by unfold SPA; rw [if_pos e1]
  have hfew := SPP_few (F := F) hN hTN
  rw [e1, e2] at cp
  have hP : SPP F T N = (NSPS (TPS N) (SEG F T)).map SPL := NEEDS_NSPS _ _
  have hcov := span_cover (F := F) hN hTN
  have hset : ∀ j h k, (NSPS (TPS N) (SEG F T))[j]? = some (h, k) → SETS20 F T N h k := fun j h k e => span_set hN hTN e
  have HP : Aside (RISEA (SEG F T) N = 0 ∧ PLCA (SEG F T) N = SPP F T N) := by
    have h1 : RISEA (SEG F T) N = 0 := RISEA_yes hN (SEG_rises F T) fun x hx => by have := SEG_mem.1 hx; omega
    have h2 : PLCA (SEG F T) N = SPP F T N := by unfold PLCA; rw [if_pos h1]; rfl
    exact And.intro h1 h2
  generalize NSPS (TPS N) (SEG F T) = sp at *
  obtain ⟨PL, hPL⟩ : ∃ PL, SPP F T N = PL := ⟨_, rfl⟩
  rw [hPL] at cp hP HP hfew
  obtain ⟨M, hM⟩ : ∃ M, PL.length = M := ⟨_, rfl⟩
  have CV : Aside (COVER 0 N (SEG F T) sp ∧ (∀ j h k, sp[j]? = some (h, k) → SETS20 F T N h k) ∧ PL = sp.map SPL ∧ PL.length = M ∧ sp.length = M ∧ M ≤ 188 ∧ N ≤ 4611686018427387904 ∧ F ≤ T ∧ T ≤ N) := ⟨hcov, hset, hP, hM, by rw [← hM, hP, List.length_map], by omega, hN, hF, hTN⟩
  unfold ANSP20 at cp
  rw [hM] at cp
  have hNod := nodes_ok N hN
  have eg : IntKind.u64.wrap ((T : Int) - (F : Int)) = ((T - F : Nat) : Int) := u64_gap20 hF (by omega)
  obtain ⟨D, hD⟩ : ∃ D, T - F = D := ⟨_, rfl⟩
  rw [hD] at eg
  have HD : Aside (T - F = D ∧ IntKind.u64.wrap ((T : Int) - (F : Int)) = (D : Int)) := ⟨hD, eg⟩
  have g1 : ¬ (4611686018427387904 : Int) < (N : Int) := by omega
  have g2 : ¬ (T : Int) < (F : Int) := by omega
  have g3 : ¬ (N : Int) < (T : Int) := by omega
  clear hN hF hTN hT h0 e1 e2 hP hcov hset hPL hM hD hfew
  go_enter Tryd.func4, Tryd.ntmps4
  go_wp2_with fail
  refine cp.mono ?_
  rintro e w2 ⟨a2, c2, rfl, hown2, hb2⟩
  clear cp
  have R2 : Aside (w2.ownsRow w.heap.size 22 1 (.slice a2 M c2) M (UCELLS PL) ∧ Below w.heap.size w w2) := ⟨hown2, hb2⟩
  clear hown2 hb2
  go_wp2_with fail
  refine (hNod _).mono ?_
  rintro e w3 ⟨rfl, rfl⟩
  clear hNod
  obtain ⟨NN, hNN⟩ : ∃ NN, NODES N = NN := ⟨_, rfl⟩
  rw [hNN]
  have HN : Aside (NODES N = NN) := hNN
  clear hNN
  go_wp2_with fail
  clear eg
  go_loopg [11, 12] M (fun q s11 s12 wx => ∃ (j S : Nat), s11 = .int .u64 (S : Int) ∧ s12 = .int .i64 (j : Int) ∧ Aside (j + q = M ∧ S = D + SUMW sp j ∧ Below w2.heap.size w2 wx))
  case atStart => exact ⟨0, D, rfl, rfl, by omega, by simp [SUMW], Below.refl _ _⟩
  case round =>
    obtain ⟨j, S, rfl, rfl, A⟩ := hrel
    cases gk with
    | zero =>
      obtain rfl : j = M := by have := A.out.1; omega
      have hlt : ¬ (j : Int) < (j : Int) := by omega
      have hS : S = N := by
        have h1 := A.out.2.1
        rw [SUMW_all (by rw [CV.out.2.2.2.2.1]; exact Nat.le_refl _)] at h1
        have h2 := CV.out.1.sum
        rw [SEG_length] at h2
        have h3 := HD.out.1
        omega
      subst hS
      have hbw : Below w.heap.size w wr := R2.out.2.trans (A.out.2.2.mono R2.out.2.size)
      have WR : Aside (Below w.heap.size w wr ∧ NUML wr a2 PL) := ⟨hbw, (own_lies R2.out.1 CV.out.2.2.2.1).keep A.out.2.2⟩
      have eg := HD.out.2
      have i250 : ¬ (250 : Int) < (j : Int) := by have := CV.out.2.2.2.2.2.1; clear eg; omega
      clear hbw A HN R2
      by_cases hD : (60 : Int) < (D : Int)
      · have ca := awake20_ok wr (tab.out wr WR.out.1).1 (tab.out wr WR.out.1).2
        go_wp2_with fail
        refine ca.mono ?_
        rintro e w4 ⟨rfl, hb4⟩
        clear ca
        have F2 : Aside (Below w.heap.size w w4) := WR.out.1.trans (hb4.mono WR.out.1.size)
        clear hb4 WR
        go_wp2_with fail
        go_ret
        exact ⟨rfl, F2.out⟩
      · have D60 : Aside (D ≤ 60) := by show D ≤ 60; clear eg; omega
        go_wp2_with fail
        clear eg
        generalize wr = wo at *
        go_loopg [16, 17] D (fun q s16 s17 wx => ∃ (t : Nat) (v : Value), v = s16 ∧ s17 = .int .u64 (t : Int) ∧ Aside (t + q = T ∧ F ≤ t ∧ wx.ownsRow wo.heap.size 22 1 v (t - F) (UCELLS (SEG F t)) ∧ Below wo.heap.size wo wx))
        case atStart => exact ⟨F, _, rfl, rfl, by have h1 := HD.out.1; have h2 := CV.out.2.2.2.2.2.2.2.1; show F + D = T; omega, Nat.le_refl _, by rw [Nat.sub_self, SEG_nil (Nat.le_refl _)]; exact ⟨rfl, .inl ⟨rfl, rfl⟩⟩, Below.refl _ _⟩
        case round =>
          obtain ⟨t, v, rfl, rfl, B⟩ := hrel
          cases gk with
          | succ q =>
            have hltt : (t : Int) < (T : Int) := by have := B.out.1; omega
            have et : IntKind.u64.wrap ((t : Int) + 1) = ((t + 1 : Nat) : Int) := by have h1 := B.out.1; have := CV.out.2.2.2.2.2.2; rw [wrapU]; omega
            have Z : Aside (t + 1 + q = T ∧ F ≤ t + 1 ∧ wr.ownsRow wo.heap.size 22 1 v (t - F) (UCELLS (SEG F t)) ∧ Below wo.heap.size wo wr ∧ SEG F (t + 1) = SEG F t ++ [t] ∧ t - F ≤ 60 ∧ t + 1 - F = t - F + 1) := by
              obtain ⟨h1, h2, h3, h4⟩ := B.out
              refine ⟨by clear et; omega, by clear et; omega, h3, h4, SEG_snoc h2, ?_, by clear et; omega⟩
              have := D60.out
              have := HD.out.1
              clear et
              omega
            clear B
            go_wp2_with (first
              | (at_builtin; refine app_num _ rfl (.tmp 141) (.tmp 143) rfl wo.heap.size v (t - F) (SEG F t) rfl (Z.out.2.2.1.alloc _) wr.heap.size 1 t rfl ((Has.new _ _ _).cell 0) (by have := Z.out.2.2.2.2.2.1; omega) (by have := Z.out.2.2.2.1.size; simp; omega) ?_; intro g7 c7 w7 hown7 hgrow7 hg7
                 have Z2 : Aside (w7.ownsRow wo.heap.size 22 1 (.slice (some ⟨g7, 0, none⟩) (t - F + 1) c7) (t + 1 - F) (UCELLS (SEG F (t + 1))) ∧ Below wo.heap.size wo w7) := by
                   obtain ⟨z1, z2, z3, z4, z5, z6, z7⟩ := Z.out
                   rw [z5, z7]
                   exact ⟨hown7, (z4.alloc z4.size _).grown hgrow7 (by have := z4.size; simp; omega) (fun k e => (z3.lt k e).1)⟩
                 clear hown7 hgrow7 hg7))
            go_roundg q
            case measure => exact Nat.lt_succ_self _
            case rel => exact ⟨t + 1, _, rfl, by first | rfl | exact congrArg (Value.int IntKind.u64) et | (rw [et]), Z.out.1, Z.out.2.1, Z2.out.1, Z2.out.2⟩
          | zero =>
            obtain rfl : t = T := by have := B.out.1; omega
            have hltt : ¬ (t : Int) < (t : Int) := by omega
            obtain ⟨av, cv, rfl⟩ := own_sliced B.out.2.2.1
            rw [HD.out.1] at B ⊢
            have Z : Aside (wr.ownsRow wo.heap.size 22 1 (.slice av D cv) D (UCELLS (SEG F t)) ∧ Below w.heap.size w wr ∧ NUML wr a2 PL) := ⟨B.out.2.2.1, WR.out.1.trans (B.out.2.2.2.mono WR.out.1.size), WR.out.2.keep B.out.2.2.2⟩
            have hlen : (SEG F t).length = D := by rw [SEG_length]; exact HD.out.1
            have hro : (∀ x, av = some x → x.block < wr.heap.size ∧ x.spot = none) ∧ D ≤ cv ∧ (av = none → cv = 0) := by
              rcases B.out.2.2.1.2 with ⟨e, h0⟩ | ⟨g, cap, cur, e, _, hg, h1, _⟩
              · cases e
                exact ⟨(fun x e => by cases e), by omega, fun _ => rfl⟩
              · cases e
                exact ⟨fun x e => by cases e; exact ⟨(Array.getElem?_eq_some_iff.1 hg).1, rfl⟩, h1, fun e => by cases e⟩
            have cm := manyplaces_ok (SEG F t) S av D cv wr hlen (by have := D60.out; omega) hro.2.1 hro.2.2 hro.1 (own_lies B.out.2.2.1 hlen) (tab.out wr Z.out.2.1).1 (tab.out wr Z.out.2.1).2
            rw [HP.out.1, HP.out.2] at cm
            unfold ANSN at cm
            rw [CV.out.2.2.2.1] at cm
            clear B hlen hro WR
            go_wp2_with fail
            refine cm.mono ?_
            rintro e w8 ⟨a8, c8, rfl, o8, hb8⟩
            have Z8 : Aside (Below w.heap.size w w8 ∧ NUML w8 a2 PL ∧ NUML w8 a8 PL) := ⟨Z.out.2.1.trans (hb8.mono Z.out.2.1.size), Z.out.2.2.keep hb8, own_lies o8 CV.out.2.2.2.1⟩
            clear cm o8 hb8 Z
            have cs := samenuml_ok a2 a8 j c2 c8 PL CV.out.2.2.2.1 (by have := CV.out.2.2.2.2.2.1; omega) w8 Z8.out.2.1 Z8.out.2.2
            go_wp2_with fail
            refine cs.mono ?_
            rintro e w9 ⟨rfl, hb9⟩
            have Z9 : Aside (Below w.heap.size w w9) := Z8.out.1.trans (hb9.mono Z8.out.1.size)
            clear cs hb9 Z8
            have ca := awake20_ok w9 (tab.out w9 Z9.out).1 (tab.out w9 Z9.out).2
            clear tab
            go_wp2_with fail
            refine ca.mono ?_
            rintro e w10 ⟨rfl, hb10⟩
            have FN : Aside (Below w.heap.size w w10) := Z9.out.trans (hb10.mono Z9.out.size)
            clear ca hb10 Z9
            go_wp2_with fail
            go_ret
            exact ⟨rfl, FN.out⟩
    | succ q =>
      have hjM : j < M := by have := A.out.1; omega
      have hlt : (j : Int) < (M : Int) := by omega
      obtain ⟨⟨h, k⟩, ehk⟩ : ∃ x, sp[j]? = some x := ⟨_, List.getElem?_eq_getElem (by rw [CV.out.2.2.2.2.1]; exact hjM)⟩
      have hs := CV.out.2.1 j h k ehk
      obtain ⟨g2', hg2⟩ := own_some20 R2.out.1 (by omega)
      subst hg2
      have hrow : ∀ (i h k : Nat), sp[i]? = some (h, k) → ∀ W, Below w2.heap.size w2 W → W.cell? ⟨g2', i, none⟩ = some (.int .u64 ((PLC h k : Nat) : Int)) := fun i h k e W hb => by
        have h1 := (R2.out.1.lt g2' rfl).2
        have hi : i < M := by rw [← CV.out.2.2.2.2.1]; exact (List.getElem?_eq_some_iff.1 e).1
        refine (hb.cell (p := ⟨g2', i, none⟩) h1).trans ((R2.out.1.cellAt i (by omega)).trans ?_)
        rw [CV.out.2.2.1, UCELLS, List.getElem?_map, List.getElem?_map, e]
        rfl
      have x0 := hrow j h k ehk wr A.out.2.2
      have cu := under_ok h k hs.node wr
      have hft : k * 2 ^ h + 2 ^ h = (k + 1) * 2 ^ h := FRS_lt (h, k)
      have hSn := SUMW_next ehk
      have hSle := SUMW_le sp (j + 1)
      have hcs := CV.out.1.sum
      rw [SEG_length, HD.out.1] at hcs
      have ORD : Aside (∀ i h' k', i < j → sp[i]? = some (h', k') → PLC h' k' < PLC h k) := fun i h' k' hij e => by
        have h1 := CV.out.1.order
        rw [List.pairwise_iff_getElem] at h1
        have hi := (List.getElem?_eq_some_iff.1 e)
        have hj := (List.getElem?_eq_some_iff.1 ehk)
        have h2 := h1 i j hi.1 hj.1 hij
        rw [hi.2, hj.2] at h2
        exact PLC_before h2
      obtain ⟨f, hf⟩ : ∃ f, k * 2 ^ h = f := ⟨_, rfl⟩
      obtain ⟨t, ht⟩ : ∃ t, (k + 1) * 2 ^ h = t := ⟨_, rfl⟩
      obtain ⟨P2, hP2⟩ : ∃ P2, 2 ^ h = P2 := ⟨_, rfl⟩
      obtain ⟨pp, hpp⟩ : ∃ pp, PLC h k = pp := ⟨_, rfl⟩
      have z1 := hs.lt
      have z2 := hs.toe
      have z3 := hs.off
      rw [hf, ht, hpp] at cu
      rw [hpp] at x0 z1 ORD
      rw [ht] at z2
      rw [hf, ht] at z3
      rw [hf, ht, hP2] at hft
      rw [hP2] at hSn
      have e1 := u64_gap20 (x := t) (k := f) (by omega) (by have := CV.out.2.2.2.2.2.2.1; omega)
      rw [show t - f = P2 by omega] at e1
      have hS2 : S + P2 ≤ N := by have := A.out.2.1; omega
      have e2 : IntKind.u64.wrap ((S : Int) + (P2 : Int)) = ((S + P2 : Nat) : Int) := by rw [wrapU]; have := CV.out.2.2.2.2.2.2.1; omega
      have ej : wrap64 ((j : Int) + 1) = ((j + 1 : Nat) : Int) := by have := CV.out.2.2.2.2.2.1; unfold wrap64; omega
      have EA : Aside (IntKind.u64.wrap ((t : Int) - (f : Int)) = (P2 : Int) ∧ IntKind.u64.wrap ((S : Int) + (P2 : Int)) = ((S + P2 : Nat) : Int) ∧ wrap64 ((j : Int) + 1) = ((j + 1 : Nat) : Int)) := ⟨e1, e2, ej⟩
      clear e1 e2 ej
      have d1 : decide ((NN : Int) ≤ (pp : Int)) = false := decide_eq_false (by have := HN.out; omega)
      have d1' : ¬ (NN : Int) ≤ (pp : Int) := of_decide_eq_false d1
      have d1n : ¬ NN ≤ pp := by omega
      have g : (decide ((f : Int) < (T : Int)) = false ∧ ¬ f < T) ∨ ((decide ((f : Int) < (T : Int)) = true ∧ f < T) ∧ decide ((F : Int) < (t : Int)) = false ∧ ¬ F < t) ∨ ((decide ((f : Int) < (T : Int)) = true ∧ f < T) ∧ (decide ((F : Int) < (t : Int)) = true ∧ F < t) ∧ decide ((F : Int) < (T : Int)) = false ∧ ¬ F < T) := by
        by_cases h1 : f < T
        · by_cases h2 : F < t
          · have h3 : ¬ F < T := fun h3 => z3 ⟨h1, h2, h3⟩
            exact .inr (.inr ⟨⟨decide_eq_true (by omega), h1⟩, ⟨decide_eq_true (by omega), h2⟩, decide_eq_false (by omega), h3⟩)
          · exact .inr (.inl ⟨⟨decide_eq_true (by omega), h1⟩, decide_eq_false (by omega), h2⟩)
        · exact .inl ⟨decide_eq_false (by omega), h1⟩
      have K : Aside (S + P2 = D + SUMW sp (j + 1) ∧ j + 1 + q = M ∧ Below w2.heap.size w2 wr) := ⟨by have := A.out.2.1; omega, by have := A.out.1; omega, A.out.2.2⟩
      have XJ : Aside (∀ W, Below w2.heap.size w2 W → W.cell? ⟨g2', j, none⟩ = some (.int .u64 (pp : Int))) := fun W hb => by rw [← hpp]; exact hrow j h k ehk W hb
      have RW : Aside (∀ (i h k : Nat), sp[i]? = some (h, k) → ∀ W, Below w2.heap.size w2 W → W.cell? ⟨g2', i, none⟩ = some (.int .u64 ((PLC h k : Nat) : Int))) := hrow
      have HJ : Aside (j < M ∧ M ≤ 188) := ⟨hjM, CV.out.2.2.2.2.2.1⟩
      clear hs z1 z2 z3 hft hSn hSle hcs hf ht hP2 hpp hrow hS2 A hjM ehk
      go_wp2_with fail
      refine cu.mono ?_
      rintro e w3 ⟨rfl, hb3⟩
      clear cu x0
      have hb3' : Below w2.heap.size w2 w3 := K.out.2.2.trans (hb3.mono K.out.2.2.size)
      have x0 := XJ.out w3 hb3'
      have B3 : Aside (Below w2.heap.size w2 w3) := hb3'
      clear hb3 hb3'
      rcases Nat.eq_zero_or_pos j with hj0 | hj0
      · have d2 : decide ((0 : Int) < (j : Int)) = false := decide_eq_false (by omega)
        have d2' : ¬ (0 : Int) < (j : Int) := by omega
        have d2n : ¬ 0 < j := by omega
        clear hj0 RW ORD
        rcases g with ⟨g4, g4'⟩ | ⟨⟨g4, g4'⟩, g5, g5'⟩ | ⟨⟨g4, g4'⟩, ⟨g5, g5'⟩, g6, g6'⟩
        all_goals
          go_upto_region 10 with fail
          go_big_quiet (fail)
          have B4 : Aside (Below w2.heap.size w2 (w3.drewN nq)) := below_drewN B3.out _
          generalize w3.drewN nq = w4 at *
          have e1 := EA.out.1
          have e2 := EA.out.2.1
          clear x0 B3
          go_wp2_with fail
          go_roundg q
          case measure => exact Nat.lt_succ_self _
          case rel => exact ⟨j + 1, S + P2, by first | rfl | (rw [e2]), by first | rfl | (rw [EA.out.2.2]), K.out.2.1, K.out.1, B4.out⟩
      · obtain ⟨i, hi⟩ : ∃ i, j = i + 1 := ⟨j - 1, by omega⟩
        obtain ⟨⟨h', k'⟩, ei⟩ : ∃ x, sp[i]? = some x := ⟨_, List.getElem?_eq_getElem (by rw [CV.out.2.2.2.2.1]; have := HJ.out.1; omega)⟩
        have hor := ORD.out i h' k' (by omega) ei
        have x1 := RW.out i h' k' ei w3 B3.out
        generalize PLC h' k' = pr at *
        have d2 : decide ((0 : Int) < (j : Int)) = true := decide_eq_true (by omega)
        have d2' : (0 : Int) < (j : Int) := by omega
        have d2n : 0 < j := hj0
        have d3 : decide ((pp : Int) ≤ (pr : Int)) = false := decide_eq_false (by omega)
        have d3' : ¬ (pp : Int) ≤ (pr : Int) := by omega
        have d3n : ¬ pp ≤ pr := by omega
        have hiM : (i : Int) < (M : Int) := by have := HJ.out.1; omega
        have w1' : wrap64 ((j : Int) - 1) = (i : Int) := by have := HJ.out; unfold wrap64; omega
        have w2' : IntKind.i64.wrap ((j : Int) - 1) = (i : Int) := by have := HJ.out; rw [IntKind.wrap_i64]; omega
        clear hor ei hj0 RW ORD hi
        rcases g with ⟨g4, g4'⟩ | ⟨⟨g4, g4'⟩, g5, g5'⟩ | ⟨⟨g4, g4'⟩, ⟨g5, g5'⟩, g6, g6'⟩
        all_goals
          go_upto_region 10 with fail
          go_big_quiet (fail)
          have B4 : Aside (Below w2.heap.size w2 (w3.drewN nq)) := below_drewN B3.out _
          generalize w3.drewN nq = w4 at *
          have e1 := EA.out.1
          have e2 := EA.out.2.1
          clear x0 x1 B3 w1' w2'
          go_wp2_with fail
          go_roundg q
          case measure => exact Nat.lt_succ_self _
          case rel => exact ⟨j + 1, S + P2, by first | rfl | (rw [e2]), by first | rfl | (rw [EA.out.2.2]), K.out.2.1, K.out.1, B4.out⟩
theorem spanSets_walk (a0 a1 a2 : Int) (w0 : (Lit.int IntKind.u64 a0).wf = true) (w1 : (Lit.int IntKind.u64 a1).wf = true) (w2 : (Lit.int IntKind.u64 a2).wf = true) (w : World) (hT : Tabled w) (h0 : 0 < w.heap.size) :
    Calls Tryd.prog 4 #[.int .u64 a0, .int .u64 a1, .int .u64 a2] w fun e w' => e = .returned (.bool true) ∧ Below w.heap.size w w' := by
  have h0' := wf_u64 w0
  have h1' := wf_u64 w1
  have h2' := wf_u64 w2
  obtain ⟨F, rfl⟩ : ∃ k : Nat, a0 = (k : Int) := ⟨a0.toNat, by omega⟩
  obtain ⟨T, rfl⟩ : ∃ k : Nat, a1 = (k : Int) := ⟨a1.toNat, by omega⟩
  obtain ⟨N, rfl⟩ : ∃ k : Nat, a2 = (k : Int) := ⟨a2.toNat, by omega⟩
  by_cases h : SPE F T N = 0
  · rcases SPE_cases F T N with ⟨e, _⟩ | ⟨e, _⟩ | ⟨_, _, q1, q2, q3⟩
    · rw [e] at h; cases h
    · rw [e] at h; cases h
    · exact sets20_yes F T N w q1 q2 q3 hT h0
  · exact sets20_not F T N w h hT h0
end Go.Proofs.YtmkgldjocigffaaDoor

/- What the card's row gives the walks of layer 3: spots that came in; the table of math/bits. -/
namespace Go.Proofs.YtmkgldjocigffaaDoor
open Go.ChangeShapes Go.WideShapes Go.ChangeAt Go.WideMaps Go.WideElems Go.RowKit
set_option maxRecDepth 100000

theorem own : ownKnob Tryd.prog.godebug = none := by kernel_rfl
theorem gTab : Tryd.prog.globalNamed "math/bits.deBruijn64tab" = some 0 := by kernel_rfl
theorem tTab : (Tryd.prog.globals[0]?).map (·.type) = some 103 := by kernel_rfl
theorem tabData {H : Type} : (Rows.laid_math_bits_deBruijn64tab : DataW H) = .agg (TAB.map fun n => .lit (.int .u8 (n : Nat))) := rfl
theorem of_laid {W : World} (h : laidMetH Tryd.prog [("math/bits.deBruijn64tab", Rows.laid_math_bits_deBruijn64tab)] W) : Tabled W ∧ 0 < W.heap.size := by
  rw [MakeChecks.laidMetH_plain _ _ _ (by kernel_rfl)] at h
  obtain ⟨ps, ⟨g0, t0, cs0, f0, p0, q0, hg0, ht0, hv0, hd0, _, _⟩, _, _⟩ := h
  obtain rfl := Option.some.inj (gTab.symm.trans hg0)
  obtain rfl := Option.some.inj (tTab.symm.trans ht0)
  obtain ⟨xs, m1, rfl, hx1, hlen, hn, hel⟩ := DataW.trod_array Tryd.underlying103 hd0
  have c5 : Tryd.prog.cellsOf 5 = 1 := by kernel_rfl
  simp only [Prod.mk.injEq] at hx1
  have hx := hx1.1
  rw [tabData] at hx
  simp only [DataW.agg.injEq] at hx
  have T : Tabled W := fun i hi => by
    have h0 := hel i hi
    have hi' : i < xs.length := by omega
    rw [List.getElem?_eq_getElem hi', c5, Nat.mul_one] at h0
    obtain ⟨k, e1, e2, _⟩ := DataW.trod_int Tryd.underlying5 h0
    have hk : (k : Int) = ((TAB.getD i 0 : Nat) : Int) := by
      have hz := congrArg (fun l => l[i]?) hx
      have hT : i < TAB.length := hi
      simp only [List.getElem?_map, List.getElem?_eq_getElem hi', List.getElem?_eq_getElem hT, Option.map_some, e2] at hz
      simp at hz
      rw [List.getD_eq_getElem?_getD, List.getElem?_eq_getElem hT]
      simpa using hz.symm
    have hv := World.var?_cell hg0 hv0 i
    rw [hv, ← hk]
    have := congrArg (fun l => l[0]?) e1
    simp at this
    simpa using this
  refine ⟨T, ?_⟩
  have := T 0 (by decide)
  exact Nat.lt_of_le_of_lt (Nat.zero_le _) (World.block_lt_of_cell? W _ this)
end Go.Proofs.YtmkgldjocigffaaDoor

/- What the card's row gives the walks of layer 10: a list of numbers that came in. -/
namespace Go.Proofs.YtmkgldjocigffaaDoor
open Go.ChangeShapes Go.WideShapes Go.ChangeAt Go.WideMaps Go.WideElems Go.RowKit
set_option maxRecDepth 100000

end Go.Proofs.YtmkgldjocigffaaDoor
