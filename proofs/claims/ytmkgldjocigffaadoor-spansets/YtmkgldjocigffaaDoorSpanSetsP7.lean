/- Texts of SpanSets, one behind the other: SpanNeed, SpanPlacesCall. -/
import Derived.Test.YtmkgldjocigffaaDoorSpanSetsP6
/- needUnder and need of package span, with the closure of Places. -/
namespace Go.Proofs.YtmkgldjocigffaaDoor
open Go.RowKit
set_option maxRecDepth 100000

theorem apart_eq {F T h k A B : Nat} {b : Bool} (hA : k * 2 ^ h = A) (hB : (k + 1) * 2 ^ h = B) (hb : b = decide (min T B ≤ max F A)) : b = decide (APRT F T h k) := by
  rw [hb]
  unfold APRT
  rw [hA, hB]
theorem apart_ok (h k F T : Nat) (hN : Node h k) (w : World) : Calls Tryd.prog 64 #[.int .u64 ((PLC h k : Nat) : Int), .int .u64 (F : Int), .int .u64 (T : Int)] w fun e w' => e = .returned (.bool (decide (APRT F T h k))) ∧ Below w.heap.size w w' := by
  have cu := under_ok h k hN w
  obtain ⟨A, hA⟩ : ∃ A, k * 2 ^ h = A := ⟨_, rfl⟩
  obtain ⟨B, hB⟩ : ∃ B, (k + 1) * 2 ^ h = B := ⟨_, rfl⟩
  obtain ⟨r, hr⟩ : ∃ r, decide (APRT F T h k) = r := ⟨_, rfl⟩
  rw [hA, hB] at cu
  have HD : Aside (∀ b, b = decide (min T B ≤ max F A) → b = r) := fun b hb => hr ▸ apart_eq hA hB hb
  rw [hr]
  clear hA hB hN hr
  go_enter Tryd.func64, Tryd.ntmps64
  go_wp2_with fail
  refine cu.mono ?_
  rintro e w1 ⟨rfl, hb⟩
  clear cu
  have HB : Aside (Below w.heap.size w w1) := hb
  clear hb
  go_wp2
  all_goals
    go_ret
    refine ⟨congrArg (fun b => Ending.returned (.bool b)) (HD.out _ ?_), HB.out⟩
    congr 1
    simp only [eq_iff_iff]
    omega
/-- what is told under a node. -/
def STOLD (w0 : World) (bp : Nat) (acc l : List Nat) (e : Ending) (w' : World) : Prop := e = .returned (.tuple #[]) ∧ TAKING w0 w' bp (acc ++ l)
set_option maxHeartbeats 1000000 in
theorem stake_ok {w0 w : World} {bp : Nat} {acc : List Nat} (hK : TAKING w0 w bp acc) (p : Nat) (hn : acc.length ≤ 2 ^ 30) : Calls Tryd.prog 30 #[.int .u64 (p : Int), .pointer (some ⟨bp, 0, none⟩)] w fun e w' => e = .returned (.tuple #[]) ∧ TAKING w0 w' bp (acc ++ [p]) := by
  obtain ⟨v, hv, hown⟩ := hK.row
  obtain ⟨a, c, rfl⟩ := own_sliced hown
  have c0 : w.cell? ⟨bp, 0, none⟩ = some (.slice a acc.length c) := hv.cell 0
  have HA : Aside (TAKING w0 w bp acc ∧ acc.length ≤ 2 ^ 30 ∧ Has w bp #[.slice a acc.length c] 23 ∧ w.ownsRow w0.heap.size 22 1 (.slice a acc.length c) acc.length (UCELLS acc)) := ⟨hK, hn, hv, hown⟩
  clear hK hn hv hown
  obtain ⟨n, hn⟩ : ∃ n, acc.length = n := ⟨_, rfl⟩
  rw [hn] at HA c0
  have HN : Aside (acc.length = n) := hn
  clear hn
  go_enter Tryd.func30, Tryd.ntmps30
  go_wp2_with (first
    | (at_builtin; refine app_num _ rfl (.tmp 3) (.tmp 5) rfl w0.heap.size (.slice a n c) n acc rfl (HA.out.2.2.2.alloc _) w.heap.size 1 p rfl ((Has.new _ _ _).cell 0) HA.out.2.1 (by have := HA.out.1.below.size; simp; omega) ?_; intro g1 c1 w1 hown1 hgrow1 hg1
       have hbp : Has w1 bp #[.slice a n c] 23 := by
         refine (hgrow1.block bp (by have := HA.out.2.2.1.lt; simp; omega) (fun e => ?_)).trans (HA.out.2.2.1.alloc _)
         have := (HA.out.2.2.2.lt bp e.symm).1
         have := HA.out.1.lt
         omega
       have x0 := hbp.cell 0
       have x1 := hbp.frozen 0
       have FN : Aside (TAKING w0 (w1.setCell ⟨bp, 0, none⟩ (.slice (some ⟨g1, 0, none⟩) (n + 1) c1)) bp (acc ++ [p])) := by
         have hlt := HA.out.1.lt
         have hsz := HA.out.1.below.size
         refine ⟨⟨.slice (some ⟨g1, 0, none⟩) (n + 1) c1, hbp.set 0 _, ?_⟩, fun b hb hne => ?_, hlt, ?_⟩
         · rw [List.length_append, HN.out]
           exact ownsRow_setCell_below hown1 (a := ⟨bp, 0, none⟩) hlt _
         · rw [Below.heap_setCell _ _ _ _ (by exact hne), hgrow1.block b (by simp; omega) (fun e => by have := (HA.out.2.2.2.lt b e.symm).1; omega), Below.heap_alloc _ _ _ (by omega)]
           exact HA.out.1.keep b hb hne
         · refine ((HA.out.1.below.alloc (by omega) _).grown hgrow1 (by simp; omega) (fun k e => ?_)).setCell (Nat.le_refl _) _
           have := (HA.out.2.2.2.lt k e).1
           omega
       clear hown1 hgrow1 hg1 hbp c0))
  exact bodyPost_end (v := .tuple #[]) (by simp [results, Tryd.f30]) rfl ⟨rfl, FN.out⟩
theorem TAKING.stays {w0 w w' : World} {bp : Nat} {acc : List Nat} (h : TAKING w0 w bp acc) (hb : Below w.heap.size w w') : TAKING w0 w' bp acc := by
  obtain ⟨v, h1, h2⟩ := h.row
  have hs := h.below.size
  have hlt := h.lt
  refine ⟨⟨v, h1.keep hb, ?_⟩, fun b hb0 hne => (hb.block b (by omega)).trans (h.keep b hb0 hne), hlt, h.below.trans (hb.mono (by omega))⟩
  refine ⟨h2.1, h2.2.imp id ?_⟩
  rintro ⟨g', c, cur, rfl, b, r, rest⟩
  exact ⟨g', c, cur, rfl, b, (hb.block g' (Array.getElem?_eq_some_iff.1 r).1).trans r, rest⟩
set_option maxHeartbeats 2000000 in
theorem sunder_apart (w0 : World) (CP F T h k : Nat) (hN : Node h k) (e : APRT F T h k) (acc : List Nat) (w : World) (hw : TAKING w0 w CP acc) (hlen : acc.length ≤ 2 ^ 30) :
    Calls Tryd.prog 51 #[.int .u64 ((PLC h k : Nat) : Int), .int .u64 (F : Int), .int .u64 (T : Int), .func (.func 30) #[] #[.pointer (some ⟨CP, 0, none⟩)]] w (STOLD w0 CP acc [PLC h k]) := by
  have ca := apart_ok h k F T hN w
  rw [decide_eq_true e] at ca
  have HS : Aside (TAKING w0 w CP acc ∧ acc.length ≤ 2 ^ 30) := ⟨hw, hlen⟩
  clear hN e hw hlen
  go_enter Tryd.func51, Tryd.ntmps51
  go_wp2_with fail
  refine ca.mono ?_
  rintro e w1 ⟨rfl, h1⟩
  clear ca
  have ct := stake_ok (HS.out.1.stays h1) (PLC h k) HS.out.2
  clear h1 HS
  go_wp2_with fail
  refine ct.mono ?_
  rintro e w2 ⟨rfl, h2⟩
  clear ct
  have FN : Aside (TAKING w0 w2 CP (acc ++ [PLC h k])) := h2
  clear h2
  go_wp2_with fail
  exact bodyPost_ret (v := .tuple #[]) (by simp [results, Tryd.f51]) rfl ⟨rfl, FN.out⟩
set_option maxHeartbeats 2000000 in
theorem sunder_within (w0 : World) (CP F T h k : Nat) (hN : Node h k) (e : WITHN F T h k) (acc : List Nat) (w : World) (hw : TAKING w0 w CP acc) :
    Calls Tryd.prog 51 #[.int .u64 ((PLC h k : Nat) : Int), .int .u64 (F : Int), .int .u64 (T : Int), .func (.func 30) #[] #[.pointer (some ⟨CP, 0, none⟩)]] w (STOLD w0 CP acc []) := by
  have ca := apart_ok h k F T hN w
  rw [decide_eq_false (within_not e)] at ca
  have cu := fun w => under_ok h k hN w
  have e1 : F ≤ k * 2 ^ h := e.1
  have e2 : (k + 1) * 2 ^ h ≤ T := e.2
  have HS : Aside (TAKING w0 w CP acc) := hw
  generalize k * 2 ^ h = A at *
  generalize (k + 1) * 2 ^ h = B at *
  have g1 : (F : Int) ≤ (A : Int) := by omega
  have g2 : (B : Int) ≤ (T : Int) := by omega
  clear hN e hw
  go_enter Tryd.func51, Tryd.ntmps51
  go_wp2_with fail
  refine ca.mono ?_
  rintro e w1 ⟨rfl, h1⟩
  clear ca
  have H1 : Aside (TAKING w0 w1 CP acc) := HS.out.stays h1
  clear h1 HS
  go_wp2_with fail
  refine (cu w1).mono ?_
  rintro e w2 ⟨rfl, h2⟩
  clear cu
  have FN : Aside (TAKING w0 w2 CP (acc ++ [])) := by rw [List.append_nil]; exact H1.out.stays h2
  clear h2 H1
  go_wp2_with fail
  exact bodyPost_ret (v := .tuple #[]) (by simp [results, Tryd.f51]) rfl ⟨rfl, FN.out⟩
set_option maxHeartbeats 2000000 in
theorem sunder_kids (w0 : World) (CP F T h k : Nat) (hN : Node (h + 1) k) (e : ¬ APRT F T (h + 1) k) (e' : ¬ WITHN F T (h + 1) k) (acc : List Nat) (w : World) (hw : TAKING w0 w CP acc) (hlen : acc.length + (NEED (h + 1) k (SG F T (h + 1) k)).length ≤ 2 ^ 30)
    (ih : ∀ (k : Nat), Node h k → ∀ (acc : List Nat) (w : World), TAKING w0 w CP acc → acc.length + (NEED h k (SG F T h k)).length ≤ 2 ^ 30 → Calls Tryd.prog 51 #[.int .u64 ((PLC h k : Nat) : Int), .int .u64 (F : Int), .int .u64 (T : Int), .func (.func 30) #[] #[.pointer (some ⟨CP, 0, none⟩)]] w (STOLD w0 CP acc (NEED h k (SG F T h k)))) :
    Calls Tryd.prog 51 #[.int .u64 ((PLC (h + 1) k : Nat) : Int), .int .u64 (F : Int), .int .u64 (T : Int), .func (.func 30) #[] #[.pointer (some ⟨CP, 0, none⟩)]] w (STOLD w0 CP acc (NEED (h + 1) k (SG F T (h + 1) k))) := by
  have ca := apart_ok (h + 1) k F T hN w
  rw [decide_eq_false e] at ca
  have cu := fun w => under_ok (h + 1) k hN w
  have ck := fun w => kids_ok h k hN w
  obtain ⟨hNl, hNr⟩ := hN.kid
  rw [need_kids e, List.length_append] at hlen
  rw [need_kids e]
  obtain ⟨LL, hLL⟩ : ∃ LL, NEED h (2 * k) (SG F T h (2 * k)) = LL := ⟨_, rfl⟩
  obtain ⟨LR, hLR⟩ : ∃ LR, NEED h (2 * k + 1) (SG F T h (2 * k + 1)) = LR := ⟨_, rfl⟩
  have il := fun acc w => ih (2 * k) hNl acc w
  have ir := fun acc w => ih (2 * k + 1) hNr acc w
  rw [hLL] at il hlen ⊢
  rw [hLR] at ir hlen ⊢
  have HS : Aside (TAKING w0 w CP acc) := hw
  have IH : Aside (_ ∧ _ ∧ acc.length + (LL.length + LR.length) ≤ 2 ^ 30) := ⟨il, ir, hlen⟩
  have hw' : ¬ (F ≤ k * 2 ^ (h + 1) ∧ (k + 1) * 2 ^ (h + 1) ≤ T) := e'
  generalize k * 2 ^ (h + 1) = A at *
  generalize (k + 1) * 2 ^ (h + 1) = B at *
  have g1 : ¬ (F : Int) ≤ (A : Int) ∨ ((F : Int) ≤ (A : Int) ∧ ¬ (B : Int) ≤ (T : Int)) := by
    by_cases h1 : F ≤ A
    · exact .inr ⟨by omega, fun h2 => hw' ⟨h1, by omega⟩⟩
    · exact .inl (by omega)
  clear hN e e' hw ih il ir hLL hLR hlen hNl hNr hw'
  rcases g1 with g1 | ⟨g1, g2⟩
  all_goals
    go_enter Tryd.func51, Tryd.ntmps51
    go_wp2_with fail
    refine ca.mono ?_
    rintro e w1 ⟨rfl, h1⟩
    clear ca
    have H1 : Aside (TAKING w0 w1 CP acc) := HS.out.stays h1
    clear h1 HS
    go_wp2_with fail
    refine (cu w1).mono ?_
    rintro e w2 ⟨rfl, h2⟩
    clear cu
    have H2 : Aside (TAKING w0 w2 CP acc) := H1.out.stays h2
    clear h2 H1
    go_wp2_with fail
    refine (ck w2).mono ?_
    rintro e w3 ⟨rfl, h3⟩
    clear ck
    have c1 := IH.out.1 acc w3 (H2.out.stays h3) (by have := IH.out.2.2; omega)
    clear h3 H2
    go_wp2_with fail
    refine c1.mono ?_
    rintro e w4 ⟨rfl, h4⟩
    clear c1
    have c2 := IH.out.2.1 (acc ++ LL) w4 h4 (by rw [List.length_append]; have := IH.out.2.2; omega)
    clear h4 IH
    go_wp2_with fail
    refine c2.mono ?_
    rintro e w5 ⟨rfl, h5⟩
    clear c2
    have FN : Aside (TAKING w0 w5 CP (acc ++ (LL ++ LR))) := by rw [List.append_assoc] at h5; exact h5
    clear h5
    go_wp2_with fail
    exact bodyPost_end (v := .tuple #[]) (by simp [results, Tryd.f51]) rfl ⟨rfl, FN.out⟩
theorem sunder_ok (w0 : World) (CP F T : Nat) : ∀ (h k : Nat), Node h k → ∀ (acc : List Nat) (w : World), TAKING w0 w CP acc → acc.length + (NEED h k (SG F T h k)).length ≤ 2 ^ 30 →
    Calls Tryd.prog 51 #[.int .u64 ((PLC h k : Nat) : Int), .int .u64 (F : Int), .int .u64 (T : Int), .func (.func 30) #[] #[.pointer (some ⟨CP, 0, none⟩)]] w (STOLD w0 CP acc (NEED h k (SG F T h k))) := by
  intro h
  induction h with
  | zero =>
    intro k hN acc w hw hlen
    by_cases e : APRT F T 0 k
    · rw [need_apart e] at hlen ⊢
      exact sunder_apart w0 CP F T 0 k hN e acc w hw (by omega)
    · rw [need_within (apart_leaf e)]
      exact sunder_within w0 CP F T 0 k hN (apart_leaf e) acc w hw
  | succ h ih =>
    intro k hN acc w hw hlen
    by_cases e : APRT F T (h + 1) k
    · rw [need_apart e] at hlen ⊢
      exact sunder_apart w0 CP F T (h + 1) k hN e acc w hw (by omega)
    · by_cases e' : WITHN F T (h + 1) k
      · rw [need_within e']
        exact sunder_within w0 CP F T (h + 1) k hN e' acc w hw
      · exact sunder_kids w0 CP F T h k hN e e' acc w hw hlen ih
end Go.Proofs.YtmkgldjocigffaaDoor

/- Places of package span. -/
namespace Go.Proofs.YtmkgldjocigffaaDoor
open Go.RowKit
set_option maxRecDepth 100000

/-- what the peaks from the j-th on need. -/
def FLT (F T N j : Nat) : List Nat := (((TPS N).drop j).map fun s => NEED s.1 s.2 (SG F T s.1 s.2)).flatten
theorem FLT_next {F T N j h k : Nat} (e : (TPS N)[j]? = some (h, k)) : FLT F T N j = NEED h k (SG F T h k) ++ FLT F T N (j + 1) := by
  unfold FLT
  rw [drop_at e, List.map_cons, List.flatten_cons]
theorem FLT_end {F T N j : Nat} (h : (TPS N).length ≤ j) : FLT F T N j = [] := by
  unfold FLT
  rw [List.drop_of_length_le h]
  rfl
theorem FLT_all {F T N : Nat} (hN : N ≤ 4611686018427387904) (hT : T ≤ N) : SPP F T N = FLT F T N 0 := SPP_flat hN hT
set_option maxHeartbeats 2000000 in
theorem sneed_ok (CP F T N : Nat) (hN : N ≤ 4611686018427387904) (hTN : T ≤ N) (w : World) (hCP : CP < w.heap.size) (hT : Tabled w) (hv : Has w CP #[.slice none 0 0] 23) :
    Calls Tryd.prog 29 #[.int .u64 (F : Int), .int .u64 (T : Int), .int .u64 (N : Int), .func (.func 30) #[] #[.pointer (some ⟨CP, 0, none⟩)]] w fun e w' => ∃ w1, Below w.heap.size w w1 ∧ STOLD w1 CP [] (SPP F T N) e w' := by
  have cp := peaks_ok N hN w hT (by omega)
  have hPC : PC N ≤ 64 := PC_lt_pow 64 N (by omega)
  have hlen := TPS_length (n := N) (by omega)
  have hmost := SPP_few (F := F) hN hTN
  have hall := FLT_all (F := F) hN hTN
  have HA : Aside (N ≤ 4611686018427387904 ∧ T ≤ N ∧ PC N ≤ 64 ∧ (TPS N).length = PC N ∧ (SPP F T N).length ≤ 188 ∧ SPP F T N = FLT F T N 0 ∧ CP < w.heap.size ∧ Has w CP #[.slice none 0 0] 23) := ⟨hN, hTN, hPC, hlen, hmost, hall, hCP, hv⟩
  clear hN hTN hPC hlen hmost hall hCP hT hv
  obtain ⟨P, hP⟩ : ∃ P, SPP F T N = P := ⟨_, rfl⟩
  rw [hP] at HA ⊢
  clear hP
  go_enter Tryd.func29, Tryd.ntmps29
  go_wp2_with fail
  refine cp.mono ?_
  rintro e w1 ⟨g, cg, rfl, hown, hb1⟩
  clear cp
  obtain ⟨m, hm⟩ : ∃ m, PC N = m := ⟨_, rfl⟩
  rw [hm] at hown HA ⊢
  have hg := hown.lt g rfl
  have R1 : Aside (w1.ownsRow w.heap.size 22 1 (.slice (some ⟨g, 0, none⟩) m cg) m (UCELLS (PEAKS N)) ∧ Below w.heap.size w w1 ∧ g ≠ CP ∧ g < w1.heap.size) := ⟨hown, hb1, by have := HA.out.2.2.2.2.2.2.1; omega, hg.2⟩
  have T0 : Aside (TAKING w1 w1 CP []) := by
    have hv1 : Has w1 CP #[.slice none 0 0] 23 := HA.out.2.2.2.2.2.2.2.keep hb1
    exact ⟨⟨.slice none 0 0, hv1, ⟨rfl, .inl ⟨rfl, rfl⟩⟩⟩, fun b _ _ => rfl, hv1.lt, Below.refl _ _⟩
  clear hown hb1 hm hg
  go_wp2_with fail
  go_loopg [13] m (fun q s13 wx => ∃ (j : Nat) (told : List Nat), s13 = .int .i64 (j : Int) ∧ Aside (j + q = m ∧ TAKING w1 wx CP told ∧ P = told ++ FLT F T N j))
  case atStart => exact ⟨0, [], rfl, by omega, T0.out, by rw [List.nil_append]; exact HA.out.2.2.2.2.2.1⟩
  case round =>
    obtain ⟨j, told, rfl, A⟩ := hrel
    clear T0
    cases gk with
    | zero =>
      obtain rfl : j = m := by have := A.out.1; omega
      have hlt : ¬ (j : Int) < (j : Int) := by omega
      have FN : Aside (∃ w1, Below w.heap.size w w1 ∧ STOLD w1 CP [] P (.returned (.tuple #[])) wr) := by
        obtain ⟨h1, h2, h3⟩ := A.out
        rw [FLT_end (by have := HA.out.2.2.2.1; omega), List.append_nil] at h3
        exact ⟨w1, R1.out.2.1, rfl, by rw [List.nil_append, h3]; exact h2⟩
      clear A R1 HA
      go_wp2_with fail
      exact bodyPost_end (v := .tuple #[]) (by simp [results, Tryd.f29]) rfl FN.out
    | succ q =>
      have hlt : (j : Int) < (m : Int) := by have := A.out.1; omega
      have hjm : j < (TPS N).length := by have := A.out.1; have := HA.out.2.2.2.1; omega
      obtain ⟨⟨h, k⟩, ehk⟩ : ∃ s, (TPS N)[j]? = some s := ⟨_, List.getElem?_eq_getElem hjm⟩
      have hsp := TPS_span (by have := HA.out.1; omega) (List.mem_of_getElem? ehk)
      have epk := TPS_peak ehk
      have hcell : wr.cell? ⟨g, j, none⟩ = some (.int .u64 ((PLC h k : Nat) : Int)) := by
        have h1 := R1.out.1.cellAt j (by have := A.out.1; omega)
        refine (World.cell?_of_block (w := w1) (by exact A.out.2.1.keep g R1.out.2.2.2 R1.out.2.2.1)).trans (h1.trans ?_)
        rw [UCELLS, List.getElem?_map, epk]
        rfl
      have hP : P = told ++ (NEED h k (SG F T h k) ++ FLT F T N (j + 1)) := by rw [← FLT_next ehk]; exact A.out.2.2
      have hle : told.length + (NEED h k (SG F T h k)).length ≤ 2 ^ 30 := by
        have h1 := HA.out.2.2.2.2.1
        rw [hP, List.length_append, List.length_append] at h1
        omega
      have cu := sunder_ok w1 CP F T h k hsp.2.2 told wr A.out.2.1 hle
      have ej : wrap64 ((j : Int) + 1) = ((j + 1 : Nat) : Int) := by have := A.out.1; have := HA.out.2.2.1; unfold wrap64; omega
      have EJ : Aside (wrap64 ((j : Int) + 1) = ((j + 1 : Nat) : Int) ∧ j + 1 + q = m ∧ P = (told ++ NEED h k (SG F T h k)) ++ FLT F T N (j + 1)) := ⟨ej, by have := A.out.1; omega, by rw [List.append_assoc]; exact hP⟩
      have bj : (j : Int) ≤ 64 := by have := A.out.1; have := HA.out.2.2.1; omega
      clear ehk hsp epk hjm hP hle A ej
      go_wp2_with fail
      refine cu.mono ?_
      rintro e w3 ⟨rfl, h3⟩
      clear cu
      have H3 : Aside (TAKING w1 w3 CP (told ++ NEED h k (SG F T h k))) := h3
      clear h3
      go_wp2_with fail
      go_roundg q
      case measure => exact Nat.lt_succ_self _
      case rel => exact ⟨j + 1, told ++ NEED h k (SG F T h k), by first | rfl | (rw [EJ.out.1]), EJ.out.2.1, H3.out, EJ.out.2.2⟩
/-- what Places answers. -/
def SPA (F T N : Nat) : List Nat := if SPE F T N = 0 then SPP F T N else []
/-- what is answered: an error and a list of numbers. -/
def ANSP20 (w : World) (E : Int) (l : List Nat) (e : Ending) (w' : World) : Prop := ∃ a c, e = .returned (.tuple #[.slice a l.length c, .int .i64 E]) ∧ w'.ownsRow w.heap.size 22 1 (.slice a l.length c) l.length (UCELLS l) ∧ Below w.heap.size w w'
theorem SPE_cases (F T N : Nat) : (SPE F T N = 30 ∧ SPA F T N = [] ∧ 4611686018427387904 < N) ∨ (SPE F T N = 32 ∧ SPA F T N = [] ∧ N ≤ 4611686018427387904 ∧ (T < F ∨ F ≤ T ∧ N < T)) ∨ (SPE F T N = 0 ∧ SPA F T N = SPP F T N ∧ N ≤ 4611686018427387904 ∧ F ≤ T ∧ T ≤ N) := by
  unfold SPA SPE
  by_cases h1 : 4611686018427387904 < N
  · rw [if_pos h1]
    exact .inl ⟨rfl, rfl, h1⟩
  · rw [if_neg h1]
    by_cases h2 : T < F ∨ N < T
    · rw [if_pos h2]
      exact .inr (.inl ⟨rfl, rfl, by omega, by omega⟩)
    · rw [if_neg h2, if_pos rfl]
      exact .inr (.inr ⟨rfl, rfl, by omega, by omega, by omega⟩)
theorem own_none20 (w : World) (B : Nat) : w.ownsRow B 22 1 (.slice none ([] : List Nat).length 0) ([] : List Nat).length (UCELLS []) := ⟨rfl, .inl ⟨rfl, rfl⟩⟩
set_option maxHeartbeats 2000000 in
theorem spanplaces_ok (F T N : Nat) (w : World) (hT : Tabled w) (h0 : 0 < w.heap.size) : Calls Tryd.prog 8 #[.int .u64 (F : Int), .int .u64 (T : Int), .int .u64 (N : Int)] w (ANSP20 w (SPE F T N) (SPA F T N)) := by
  rcases SPE_cases F T N with ⟨e1, e2, h⟩ | ⟨e1, e2, h, h'⟩ | ⟨e1, e2, hN, hF, hTN⟩
  · rw [e1, e2]
    have g1 : (4611686018427387904 : Int) < (N : Int) := by omega
    clear h hT h0 e1 e2
    go_enter Tryd.func8, Tryd.ntmps8
    go_wp2
    go_ret2
    exact ⟨none, 0, rfl, own_none20 _ _, Below.refl _ _⟩
  · rw [e1, e2]
    have g1 : ¬ (4611686018427387904 : Int) < (N : Int) := by omega
    have g2 : (T : Int) < (F : Int) ∨ (¬ (T : Int) < (F : Int) ∧ (N : Int) < (T : Int)) := by omega
    clear h h' hT h0 e1 e2
    rcases g2 with g2 | ⟨g2, g3⟩
    all_goals
      go_enter Tryd.func8, Tryd.ntmps8
      go_wp2
      go_ret2
      exact ⟨none, 0, rfl, own_none20 _ _, Below.refl _ _⟩
  · rw [e1, e2]
    have g1 : ¬ (4611686018427387904 : Int) < (N : Int) := by omega
    have g2 : ¬ (T : Int) < (F : Int) := by omega
    have g3 : ¬ (N : Int) < (T : Int) := by omega
    have hmf : ∀ (fn : Fn) (first cap : Array Value) (w : World), (Instr.makeFunc fn first cap).run Tryd.prog w = .ok (.func fn first cap) w := fun _ _ _ _ => rfl
    obtain ⟨w1, ew1⟩ : ∃ w1, w.alloc (.cells #[.slice none 0 0] 23) = w1 := ⟨_, rfl⟩
    have hb1 : Below w.heap.size w w1 := by rw [← ew1]; exact (Below.refl _ _).alloc (Nat.le_refl _) _
    have hv : Has w1 w.heap.size #[.slice none 0 0] 23 := by rw [← ew1]; exact Has.new w _ _
    have cn := sneed_ok w.heap.size F T N hN hTN w1 hv.lt (hT.below h0 hb1) hv
    have HB : Aside (Below w.heap.size w w1) := hb1
    generalize SPP F T N = P at *
    clear hN hF hTN hT h0 e1 e2 hb1 hv
    go_enter Tryd.func8, Tryd.ntmps8
    go_wp2_with fail
    refine cn.mono ?_
    rintro e w2 ⟨wa, hba, rfl, ht⟩
    rw [List.nil_append] at ht
    obtain ⟨v, hv, hown⟩ := ht.row
    obtain ⟨a, c, rfl⟩ := own_sliced hown
    have c0 := hv.cell 0
    have FN : Aside (w2.ownsRow w.heap.size 22 1 (.slice a P.length c) P.length (UCELLS P) ∧ Below w.heap.size w w2) := ⟨own_mono hown (by have := hba.size; have := HB.out.size; omega), (HB.out.trans (hba.mono HB.out.size)).trans (ht.below.mono (by have := hba.size; have := HB.out.size; omega))⟩
    clear cn ht hv hown hba HB
    go_wp2_with fail
    go_ret2
    exact ⟨a, c, rfl, FN.out.1, FN.out.2⟩
end Go.Proofs.YtmkgldjocigffaaDoor
