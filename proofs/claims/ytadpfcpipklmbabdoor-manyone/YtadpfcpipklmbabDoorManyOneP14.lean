/- Texts of ManyOne, one behind the other: ManyOneWalk, PosDoor, ManyDoor. -/
import Derived.Test.YtadpfcpipklmbabDoorRows
import Derived.ProofKit
import Derived.LaidMore
import Derived.OpenShut
import Derived.Stop.Joined
import Derived.Test.YtadpfcpipklmbabDoorManyOneP6
import Derived.Test.YtadpfcpipklmbabDoorManyOneP10
import Derived.Test.YtadpfcpipklmbabDoorManyOneP11
import Derived.Test.YtadpfcpipklmbabDoorManyOneP13
/- The law ManyOne returns true. -/
namespace Go.Proofs.YtadpfcpipklmbabDoor
open Go.RowKit
set_option maxRecDepth 100000

theorem lit_one (w : World) (x : Nat) : NUML (w.alloc (.cells #[.int .u64 (x : Int)] 23)) (some ⟨w.heap.size, 0, none⟩) [x] := fun _ => by
  refine ⟨w.heap.size, 0, rfl, by simp, fun i z hz => ?_⟩
  have h := (Has.new w #[.int .u64 (x : Int)] 23).cell (0 + i)
  rw [h, Nat.zero_add]
  match i with
  | 0 => simp at hz; subst hz; rfl
  | i + 1 => simp at hz
/-- is one of the first m met? -/
def ANYM (l : List Nat) (x m : Nat) : Bool := (l.take m).any fun y => decide (y = x)
theorem ANYM_next {l : List Nat} {x m y : Nat} (e : l[m]? = some y) : ANYM l x (m + 1) = (ANYM l x m || decide (y = x)) := by
  unfold ANYM
  rw [List.take_add_one, e]
  simp
theorem ANYM_all {l : List Nat} {x m : Nat} (hm : l.length ≤ m) (hx : x ∈ l) : ANYM l x m = true := by
  unfold ANYM
  rw [List.take_of_length_le hm, List.any_eq_true]
  exact ⟨x, hx, decide_eq_true rfl⟩
theorem ucells_at {w : World} {B M c g j x : Nat} {l : List Nat} (h : w.ownsRow B 23 1 (.slice (some ⟨g, 0, none⟩) M c) M (UCELLS l)) (hj : j < M) (e : l[j]? = some x) : ∀ W, Below w.heap.size w W → W.cell? ⟨g, j, none⟩ = some (.int .u64 (x : Int)) := fun W hb => by
  have h1 := (h.lt g rfl).2
  refine (hb.cell (p := ⟨g, j, none⟩) h1).trans ((h.cellAt j (by omega)).trans ?_)
  rw [UCELLS, List.getElem?_map, e]
  rfl
theorem own_room {w : World} {B s n c : Nat} {t : TypeId} {a : Option Addr} {xs : List Value} (h : w.ownsRow B t s (.slice a n c) n xs) : n ≤ c ∧ (a = none → c = 0) := by
  rcases h.2 with ⟨e, h0⟩ | ⟨g, cap, cur, e, _, _, h1, _⟩
  · cases e
    exact ⟨by omega, fun _ => rfl⟩
  · cases e
    exact ⟨by omega, fun e => by cases e⟩
theorem own_block {w : World} {B s n c : Nat} {t : TypeId} {a : Option Addr} {xs : List Value} (h : w.ownsRow B t s (.slice a n c) n xs) : ∀ x, a = some x → x.block < w.heap.size ∧ x.spot = none := by
  intro x hx
  subst hx
  rcases h.2 with ⟨e, h0⟩ | ⟨g, cap, cur, e, _, hg, _⟩
  · cases e
  · cases e
    exact ⟨(Array.getElem?_eq_some_iff.1 hg).1, rfl⟩
theorem own_numl {w : World} {B n c : Nat} {a : Option Addr} {L : List Nat} (h : w.ownsRow B 23 1 (.slice a n c) n (UCELLS L)) (hl : L.length = n) : NUML w a L := fun h0 => by
  obtain ⟨g, rfl⟩ := own_some h (by omega)
  refine ⟨g, 0, rfl, (own_block h _ rfl).1, fun i x hx => ?_⟩
  rw [Nat.zero_add]
  exact ucells_at h (by rw [← hl]; exact (List.getElem?_eq_some_iff.1 hx).1) hx w (Below.refl _ _)
set_option maxHeartbeats 4000000 in
theorem one_core (i n : Nat) (q : Int) (w : World) (hn : n < 2 ^ 64) (hq : -(2 ^ 63) ≤ q ∧ q < 2 ^ 63) (hT : Tabled w) (h0 : 0 < w.heap.size) : Calls Tryd.prog 4 #[.int .u64 (i : Int), .int .u64 (n : Int), .int .i64 q] w fun e w' => e = .returned (.bool true) ∧ Below w.heap.size w w' := by
  have tab : Aside (∀ W, Below w.heap.size w W → Tabled W ∧ 0 < W.heap.size) := fun W hb => ⟨hT.below h0 hb, by have := hb.size; omega⟩
  obtain ⟨w1, e1⟩ : ∃ w1, w.alloc (.cells #[.int .u64 (i : Int)] 23) = w1 := ⟨_, rfl⟩
  have hb1 : Below w.heap.size w w1 := by rw [← e1]; exact (Below.refl _ _).alloc (Nat.le_refl _) _
  have s1 : w1.heap.size = w.heap.size + 1 := by rw [← e1]; simp
  have cp := manyplaces_ok [i] n (some ⟨w.heap.size, 0, none⟩) 1 1 w1 rfl (by decide) (by decide) (fun h => by cases h) (fun x e => by cases e; exact ⟨by show w.heap.size < w1.heap.size; omega, rfl⟩) (by rw [← e1]; exact lit_one w i) (tab.out _ hb1).1 (tab.out _ hb1).2
  obtain ⟨hlen, hmem⟩ := one_places i n
  have hri : ∀ j x y, (PLCA [i] n)[j]? = some x → (PLCA [i] n)[j + 1]? = some y → x < y := fun j x y => places_rise
  have hfew := PLA_few i n
  have cq := fun W hb => pla_ok i n W (tab.out W hb).1 (tab.out W hb).2
  rw [one_code] at cp
  generalize PLCA [i] n = P at *
  generalize PLA i n = R at *
  obtain ⟨E, R⟩ := R
  dsimp only at cp cq hlen hmem hfew
  obtain ⟨M, hM⟩ : ∃ M, P.length = M := ⟨_, rfl⟩
  have HP : Aside (P.length = M ∧ R.length = M ∧ M ≤ 188 ∧ (∀ x ∈ P, x ∈ R) ∧ (∀ j x y, P[j]? = some x → P[j + 1]? = some y → x < y) ∧ n < 2 ^ 64 ∧ (-(2 ^ 63) ≤ q ∧ q < 2 ^ 63)) := ⟨hM, by omega, by omega, hmem, hri, hn, hq⟩
  have B1 : Aside (Below w.heap.size w w1) := hb1
  clear hb1 s1 hT h0 hlen hmem hri hfew hM hn hq
  go_enter Tryd.func4, Tryd.ntmps4
  go_wp2_with fail
  refine cp.mono ?_
  rintro e w2 ⟨a2, c2, rfl, hown2, hb2⟩
  clear cp e1
  have B2 : Aside (Below w.heap.size w w2) := B1.out.trans (hb2.mono B1.out.size)
  have R2 : Aside (w2.ownsRow w1.heap.size 23 1 (.slice a2 P.length c2) P.length (UCELLS P)) := hown2
  clear hown2 hb2 B1
  go_wp2_with fail
  refine (cq w2 B2.out).mono ?_
  rintro e w3 ⟨v3, rfl, hown3, hb3⟩
  dsimp only at hown3 ⊢
  obtain ⟨a3, c3, rfl⟩ : ∃ a c, v3 = .slice a R.length c := by
    rcases hown3.2 with ⟨rfl, h⟩ | ⟨g, cap, cur, rfl, _⟩
    · exact ⟨none, 0, by rw [h]⟩
    · exact ⟨_, _, rfl⟩
  have R3 : Aside (w3.ownsRow w2.heap.size 23 1 (.slice a3 R.length c3) R.length (UCELLS R) ∧ w3.ownsRow w1.heap.size 23 1 (.slice a2 P.length c2) P.length (UCELLS P) ∧ Below w.heap.size w w3) := ⟨hown3, own_below R2.out hb3, B2.out.trans (hb3.mono B2.out.size)⟩
  have hp1 := HP.out.1
  have hp2 := HP.out.2.1
  rw [hp1, hp2] at R3
  rw [hp1, hp2]
  clear hown3 hb3 R2 B2 cq hp1 hp2
  go_wp2_with fail
  go_loopg [11] M (fun g s11 wx => ∃ j : Nat, s11 = .int .i64 (j : Int) ∧ Aside (j + g = M ∧ Below w3.heap.size w3 wx))
  case atStart => exact ⟨0, rfl, by omega, Below.refl _ _⟩
  case round =>
    obtain ⟨j, rfl, A⟩ := hrel
    cases gk with
    | zero =>
      obtain rfl : j = M := by have := A.out.1; omega
      have hlt : ¬ (j : Int) < (j : Int) := by omega
      have hbw : Below w.heap.size w wr := R3.out.2.2.trans (A.out.2.mono R3.out.2.2.size)
      have cz := manyplaces_ok [] n none 0 0 wr rfl (by decide) (by decide) (fun _ => rfl) (fun x e => by cases e) (fun h => by simp at h) (tab.out wr hbw).1 (tab.out wr hbw).2
      have FW : Aside (Below w.heap.size w wr) := hbw
      clear hbw A R3
      by_cases hs : n ≤ 4611686018427387904
      · have hs' : (n : Int) ≤ 4611686018427387904 := by omega
        rw [(none_places hs).1, (none_places hs).2] at cz
        have hpl := PEAKS_length (n := n) HP.out.2.2.2.2.2.1
        have hpc := PC_lt_pow 64 n (by have := HP.out.2.2.2.2.2.1; omega)
        unfold ANSN at cz
        rw [hpl] at cz
        have cpk := fun W (hb : Below w.heap.size w W) => peaks_ok n hs W (tab.out W hb).1 (tab.out W hb).2
        have NS : Aside (n ≤ 4611686018427387904 ∧ (PEAKS n).length = PC n ∧ PC n ≤ 64) := ⟨hs, hpl, by omega⟩
        generalize PEAKS n = K at *
        generalize PC n = z at *
        clear hs hpl hpc
        go_wp2_with fail
        refine cz.mono ?_
        rintro e w4 ⟨a4, c4, rfl, hown4, hb4⟩
        have h4 : Aside (Below w.heap.size w w4 ∧ w4.ownsRow wr.heap.size 23 1 (.slice a4 z c4) z (UCELLS K)) := ⟨FW.out.trans (hb4.mono FW.out.size), by rw [← NS.out.2.1]; rw [← NS.out.2.1] at hown4; exact hown4⟩
        clear cz hown4 hb4 FW
        go_wp2_with fail
        refine (cpk w4 h4.out.1).mono ?_
        rintro e w5 ⟨g5, c5, rfl, hown5, hb5⟩
        have h5 : Aside (Below w.heap.size w w5 ∧ w5.ownsRow wr.heap.size 23 1 (.slice a4 z c4) z (UCELLS K) ∧ w5.ownsRow w4.heap.size 23 1 (.slice (some ⟨g5, 0, none⟩) z c5) z (UCELLS K)) := ⟨h4.out.1.trans (hb5.mono h4.out.1.size), own_below h4.out.2 hb5, hown5⟩
        clear cpk hown5 hb5 h4
        have cs := samenumbers_ok (.slice a4 z c4) (.slice (some ⟨g5, 0, none⟩) z c5) K w5 (by have := NS.out; omega) (nums_own (by rw [NS.out.2.1]; exact h5.out.2.1)) (nums_own (by rw [NS.out.2.1]; exact h5.out.2.2))
        go_wp2_with fail
        refine cs.mono ?_
        rintro e wt ⟨rfl, hb6x⟩
        have FT : Aside (Below w.heap.size w wt) := h5.out.1.trans (hb6x.mono h5.out.1.size)
        clear cs h5 NS
        clear hb6x
        have ct := fun W (hb : Below w.heap.size w W) => awake10_ok W (tab.out W hb).1 (tab.out W hb).2
        by_cases q0 : q < 0
        · have ca := ct wt FT.out
          clear ct
          go_wp2_with fail
          refine ca.mono ?_
          rintro e w7 ⟨rfl, hb7⟩
          have F7 : Aside (Below w.heap.size w w7) := FT.out.trans (hb7.mono FT.out.size)
          clear ca hb7 FT
          go_wp2_with fail
          go_ret
          exact ⟨rfl, F7.out⟩
        · by_cases q2 : (200 : Int) < q
          · have ca := ct wt FT.out
            clear ct
            go_wp2_with fail
            refine ca.mono ?_
            rintro e w7 ⟨rfl, hb7⟩
            have F7 : Aside (Below w.heap.size w w7) := FT.out.trans (hb7.mono FT.out.size)
            clear ca hb7 FT
            go_wp2_with fail
            go_ret
            exact ⟨rfl, F7.out⟩
          · obtain ⟨m, rfl⟩ : ∃ m : Nat, q = (m : Int) := ⟨q.toNat, by omega⟩
            have HM : Aside (m ≤ 200) := by show m ≤ 200; omega
            have CT : Aside (∀ W, Below w.heap.size w W → Calls Tryd.prog 8 #[] W fun e w' => e = .returned (.bool true) ∧ Below W.heap.size W w') := ct
            clear ct HP
            go_wp2_with fail
            go_loopg [16, 17] m (fun r s16 s17 wx => ∃ (j : Nat) (a : Option Addr) (c : Nat), s16 = .slice a j c ∧ s17 = .int .i64 (j : Int) ∧ Aside (j + r = m ∧ wx.ownsRow wt.heap.size 23 1 (.slice a j c) j (UCELLS (List.range j)) ∧ Below wt.heap.size wt wx))
            case atStart => exact ⟨0, none, 0, rfl, rfl, by omega, World.ownsRow_nil _ _ _ _, Below.refl _ _⟩
            case round =>
              obtain ⟨j, a8, c8, rfl, rfl, C⟩ := hrel
              cases gk with
              | zero =>
                obtain rfl : j = m := by have := C.out.1; omega
                have hlt : ¬ (j : Int) < (j : Int) := by omega
                have hbw : Below w.heap.size w wr := FT.out.trans (C.out.2.2.mono FT.out.size)
                have hju : IntKind.u64.wrap (j : Int) = (j : Int) := by rw [wrapU]; have := HM.out; omega
                have cw := manyplaces_ok (List.range j) j a8 j c8 wr List.length_range (by have := HM.out; omega) (own_room C.out.2.1).1 (own_room C.out.2.1).2 (own_block C.out.2.1) (own_numl C.out.2.1 List.length_range) (tab.out wr hbw).1 (tab.out wr hbw).2
                rw [(all_places HM.out).1, (all_places HM.out).2] at cw
                have FW : Aside (Below w.heap.size w wr) := hbw
                clear hbw C
                go_wp2_with fail
                refine cw.mono ?_
                rintro e w9 ⟨a9, c9, rfl, hown9, hb9⟩
                have F9 : Aside (Below w.heap.size w w9) := FW.out.trans (hb9.mono FW.out.size)
                clear cw hown9 hb9 FW
                have ca := CT.out w9 F9.out
                go_wp2_with fail
                refine ca.mono ?_
                rintro e w10 ⟨rfl, hb10⟩
                have F10 : Aside (Below w.heap.size w w10) := F9.out.trans (hb10.mono F9.out.size)
                clear ca hb10 F9
                go_wp2_with fail
                go_ret
                exact ⟨rfl, F10.out⟩
              | succ r =>
                have hlt : (j : Int) < (m : Int) := by have := C.out.1; omega
                have hju : IntKind.u64.wrap (j : Int) = (j : Int) := by rw [wrapU]; have := HM.out; omega
                have ej : wrap64 ((j : Int) + 1) = ((j + 1 : Nat) : Int) := by have := HM.out; unfold wrap64; omega
                go_wp2_with (at_builtin; refine app_num _ rfl (.tmp 115) (.tmp 118) rfl wt.heap.size (.slice a8 j c8) j (List.range j) rfl (C.out.2.1.alloc _) wr.heap.size 1 j rfl ((Has.new _ _ _).cell 0) (by have := HM.out; omega) (by have := C.out.2.2.size; simp; omega) ?_; intro g10 c10 w10 hown10 hgrow10 hg10)
                go_roundg r
                case measure => exact Nat.lt_succ_self _
                case rel => exact ⟨j + 1, _, c10, rfl, by first | rfl | (rw [ej]), by have := C.out.1; omega, by rw [List.range_succ]; exact hown10, (C.out.2.2.alloc C.out.2.2.size _).grown hgrow10 (by have := C.out.2.2.size; simp; omega) (fun k e => (C.out.2.1.lt k e).1)⟩
      · have hs' : ¬ (n : Int) ≤ 4611686018427387904 := by omega
        have hsz := none_size (n := n) (by omega) []
        rw [hsz.1, hsz.2] at cz
        clear hs hsz
        go_wp2_with fail
        refine cz.mono ?_
        rintro e wt ⟨a4, c4, rfl, hown4, hb6x⟩
        have FT : Aside (Below w.heap.size w wt) := FW.out.trans (hb6x.mono FW.out.size)
        clear cz hown4 FW
        clear hb6x
        have ct := fun W (hb : Below w.heap.size w W) => awake10_ok W (tab.out W hb).1 (tab.out W hb).2
        by_cases q0 : q < 0
        · have ca := ct wt FT.out
          clear ct
          go_wp2_with fail
          refine ca.mono ?_
          rintro e w7 ⟨rfl, hb7⟩
          have F7 : Aside (Below w.heap.size w w7) := FT.out.trans (hb7.mono FT.out.size)
          clear ca hb7 FT
          go_wp2_with fail
          go_ret
          exact ⟨rfl, F7.out⟩
        · by_cases q2 : (200 : Int) < q
          · have ca := ct wt FT.out
            clear ct
            go_wp2_with fail
            refine ca.mono ?_
            rintro e w7 ⟨rfl, hb7⟩
            have F7 : Aside (Below w.heap.size w w7) := FT.out.trans (hb7.mono FT.out.size)
            clear ca hb7 FT
            go_wp2_with fail
            go_ret
            exact ⟨rfl, F7.out⟩
          · obtain ⟨m, rfl⟩ : ∃ m : Nat, q = (m : Int) := ⟨q.toNat, by omega⟩
            have HM : Aside (m ≤ 200) := by show m ≤ 200; omega
            have CT : Aside (∀ W, Below w.heap.size w W → Calls Tryd.prog 8 #[] W fun e w' => e = .returned (.bool true) ∧ Below W.heap.size W w') := ct
            clear ct HP
            go_wp2_with fail
            go_loopg [16, 17] m (fun r s16 s17 wx => ∃ (j : Nat) (a : Option Addr) (c : Nat), s16 = .slice a j c ∧ s17 = .int .i64 (j : Int) ∧ Aside (j + r = m ∧ wx.ownsRow wt.heap.size 23 1 (.slice a j c) j (UCELLS (List.range j)) ∧ Below wt.heap.size wt wx))
            case atStart => exact ⟨0, none, 0, rfl, rfl, by omega, World.ownsRow_nil _ _ _ _, Below.refl _ _⟩
            case round =>
              obtain ⟨j, a8, c8, rfl, rfl, C⟩ := hrel
              cases gk with
              | zero =>
                obtain rfl : j = m := by have := C.out.1; omega
                have hlt : ¬ (j : Int) < (j : Int) := by omega
                have hbw : Below w.heap.size w wr := FT.out.trans (C.out.2.2.mono FT.out.size)
                have hju : IntKind.u64.wrap (j : Int) = (j : Int) := by rw [wrapU]; have := HM.out; omega
                have cw := manyplaces_ok (List.range j) j a8 j c8 wr List.length_range (by have := HM.out; omega) (own_room C.out.2.1).1 (own_room C.out.2.1).2 (own_block C.out.2.1) (own_numl C.out.2.1 List.length_range) (tab.out wr hbw).1 (tab.out wr hbw).2
                rw [(all_places HM.out).1, (all_places HM.out).2] at cw
                have FW : Aside (Below w.heap.size w wr) := hbw
                clear hbw C
                go_wp2_with fail
                refine cw.mono ?_
                rintro e w9 ⟨a9, c9, rfl, hown9, hb9⟩
                have F9 : Aside (Below w.heap.size w w9) := FW.out.trans (hb9.mono FW.out.size)
                clear cw hown9 hb9 FW
                have ca := CT.out w9 F9.out
                go_wp2_with fail
                refine ca.mono ?_
                rintro e w10 ⟨rfl, hb10⟩
                have F10 : Aside (Below w.heap.size w w10) := F9.out.trans (hb10.mono F9.out.size)
                clear ca hb10 F9
                go_wp2_with fail
                go_ret
                exact ⟨rfl, F10.out⟩
              | succ r =>
                have hlt : (j : Int) < (m : Int) := by have := C.out.1; omega
                have hju : IntKind.u64.wrap (j : Int) = (j : Int) := by rw [wrapU]; have := HM.out; omega
                have ej : wrap64 ((j : Int) + 1) = ((j + 1 : Nat) : Int) := by have := HM.out; unfold wrap64; omega
                go_wp2_with (at_builtin; refine app_num _ rfl (.tmp 115) (.tmp 118) rfl wt.heap.size (.slice a8 j c8) j (List.range j) rfl (C.out.2.1.alloc _) wr.heap.size 1 j rfl ((Has.new _ _ _).cell 0) (by have := HM.out; omega) (by have := C.out.2.2.size; simp; omega) ?_; intro g10 c10 w10 hown10 hgrow10 hg10)
                go_roundg r
                case measure => exact Nat.lt_succ_self _
                case rel => exact ⟨j + 1, _, c10, rfl, by first | rfl | (rw [ej]), by have := C.out.1; omega, by rw [List.range_succ]; exact hown10, (C.out.2.2.alloc C.out.2.2.size _).grown hgrow10 (by have := C.out.2.2.size; simp; omega) (fun k e => (C.out.2.1.lt k e).1)⟩
    | succ g =>
      have hjM : j < M := by have := A.out.1; omega
      have hlt : (j : Int) < (M : Int) := by omega
      obtain ⟨g2, hg2⟩ := own_some R3.out.2.1 (by omega)
      obtain ⟨g3, hg3⟩ := own_some R3.out.1 (by omega)
      subst hg2
      subst hg3
      obtain ⟨x, ex⟩ : ∃ x, P[j]? = some x := ⟨_, List.getElem?_eq_getElem (by rw [HP.out.1]; exact hjM)⟩
      have hxR := HP.out.2.2.2.1 x (List.mem_of_getElem? ex)
      have X : Aside (∀ W, Below w3.heap.size w3 W → W.cell? ⟨g2, j, none⟩ = some (.int .u64 (x : Int))) := ucells_at R3.out.2.1 hjM ex
      have Y : Aside (∀ (m y : Nat), R[m]? = some y → ∀ W, Below w3.heap.size w3 W → W.cell? ⟨g3, m, none⟩ = some (.int .u64 (y : Int))) := fun m y e => ucells_at R3.out.1 (by rw [← HP.out.2.1]; exact (List.getElem?_eq_some_iff.1 e).1) e
      have ej : wrap64 ((j : Int) + 1) = ((j + 1 : Nat) : Int) := by have := HP.out.2.2.1; unfold wrap64; omega
      have K : Aside (x ∈ R ∧ j + 1 + g = M ∧ Below w3.heap.size w3 wr ∧ P[j]? = some x) := ⟨hxR, by have := A.out.1; omega, A.out.2, ex⟩
      clear hxR ex A tab
      go_wp2_with fail
      go_loopg [12, 13] M (fun r s12 s13 wx => ∃ (m : Nat) (b : Bool), s12 = .bool b ∧ s13 = .int .i64 (m : Int) ∧ Aside (m + r = M ∧ b = ANYM R x m ∧ Below w3.heap.size w3 wx))
      case atStart => exact ⟨0, false, rfl, rfl, by omega, rfl, K.out.2.2.1⟩
      case round =>
        obtain ⟨m, b, rfl, rfl, C⟩ := hrel
        cases gk with
        | zero =>
          obtain rfl : m = M := by have := C.out.1; clear ej; omega
          have hlt2 : ¬ (m : Int) < (m : Int) := by clear ej; omega
          obtain rfl : b = true := by rw [C.out.2.1]; exact ANYM_all (by have := HP.out.2.1; clear ej; omega) K.out.1
          have B4 : Aside (Below w3.heap.size w3 wr) := C.out.2.2
          have x0 := X.out wr B4.out
          clear C
          rcases Nat.eq_zero_or_pos j with hj0 | hj0
          · have d2' : ¬ (0 : Int) < (j : Int) := by clear ej; omega
            have d2n : ¬ 0 < j := by clear ej; omega
            clear hj0
            go_upto_region 13 with fail
            go_big_quiet (fail)
            go_wp2_with fail
            go_roundg g
            case measure => exact Nat.lt_succ_self _
            case rel => exact ⟨j + 1, by first | rfl | (rw [ej]), K.out.2.1, below_drewN B4.out _⟩
          · obtain ⟨j', hj'⟩ : ∃ j', j = j' + 1 := ⟨j - 1, by clear ej; omega⟩
            obtain ⟨y, ey⟩ : ∃ y, P[j']? = some y := ⟨_, List.getElem?_eq_getElem (by rw [HP.out.1]; clear ej; omega)⟩
            have hyx : y < x := HP.out.2.2.2.2.1 j' y x ey (by rw [← hj']; exact K.out.2.2.2)
            have y0 := ucells_at R3.out.2.1 (by clear ej; omega) ey wr B4.out
            have d2' : (0 : Int) < (j : Int) := by clear ej; omega
            have d3 : ¬ (x : Int) ≤ (y : Int) := by clear ej; omega
            have d3n : ¬ x ≤ y := by clear ej; omega
            have ei : wrap64 ((j : Int) - 1) = (j' : Int) := by have := HP.out.2.2.1; unfold wrap64; clear ej; omega
            have hiM : (j' : Int) < (m : Int) := by clear ej ei; omega
            have hiM' : j' < m := by clear ej ei; omega
            clear ey hj'
            go_upto_region 13 with fail
            go_big_quiet (fail)
            go_wp2_with fail
            go_roundg g
            case measure => exact Nat.lt_succ_self _
            case rel => exact ⟨j + 1, by first | rfl | (rw [ej]), K.out.2.1, below_drewN B4.out _⟩
        | succ r =>
          have hmM : m < M := by have := C.out.1; clear ej; omega
          have hlt2 : (m : Int) < (M : Int) := by clear ej; omega
          obtain ⟨y, ey⟩ : ∃ y, R[m]? = some y := ⟨_, List.getElem?_eq_getElem (by rw [HP.out.2.1]; exact hmM)⟩
          have x0 := X.out wr C.out.2.2
          have y0 := Y.out m y ey wr C.out.2.2
          have em : wrap64 ((m : Int) + 1) = ((m + 1 : Nat) : Int) := by have := HP.out.2.2.1; unfold wrap64; clear ej; omega
          have Z : Aside (∀ (b' : Bool) (nq : Nat), b' = (b || decide (y = x)) → m + 1 + r = M ∧ b' = ANYM R x (m + 1) ∧ Below w3.heap.size w3 (wr.drewN nq)) := fun b' nq hb' => ⟨by have := C.out.1; clear ej em; omega, by rw [ANYM_next ey, ← C.out.2.1]; exact hb', below_drewN C.out.2.2 _⟩
          clear C ey
          cases b with
          | true =>
            go_upto_region 12 with fail
            go_big_quiet (fail)
            go_wp2_with fail
            go_roundg r
            case measure => exact Nat.lt_succ_self _
            case rel => exact ⟨m + 1, true, rfl, by first | rfl | (rw [em]), Z.out true _ (by simp)⟩
          | false =>
            by_cases hyx : y = x
            · subst hyx
              have Z2 : Aside (∀ nq : Nat, _) := fun nq => Z.out true nq (by simp)
              clear Z
              go_upto_region 12 with fail
              go_big_quiet (fail)
              go_wp2_with fail
              go_roundg r
              case measure => exact Nat.lt_succ_self _
              case rel => exact ⟨m + 1, true, by first | rfl | simp, by first | rfl | (rw [em]), Z2.out _⟩
            · have hyx' : ¬ (y : Int) = (x : Int) := by clear ej em; omega
              have Z2 : Aside (∀ nq : Nat, _) := fun nq => Z.out false nq (by simp [hyx])
              clear Z
              go_upto_region 12 with fail
              go_big_quiet (fail)
              go_wp2_with fail
              go_roundg r
              case measure => exact Nat.lt_succ_self _
              case rel => exact ⟨m + 1, false, by first | rfl | (simp; exact hyx'), by first | rfl | (rw [em]), Z2.out _⟩
theorem manyOne_walk (a0 a1 a2 : Int) (w0 : (Lit.int IntKind.u64 a0).wf = true) (w1 : (Lit.int IntKind.u64 a1).wf = true) (w2 : (Lit.int IntKind.i64 a2).wf = true) (w : World) (hT : Tabled w) (h0 : 0 < w.heap.size) : Calls Tryd.prog 4 #[.int .u64 a0, .int .u64 a1, .int .i64 a2] w fun e w' => e = .returned (.bool true) ∧ Below w.heap.size w w' := by
  have b0 := wf_u64 w0
  have b1 := wf_u64 w1
  have b2 := wf_i64 w2
  obtain ⟨i, rfl⟩ : ∃ m : Nat, a0 = (m : Int) := ⟨a0.toNat, by omega⟩
  obtain ⟨n, rfl⟩ : ∃ m : Nat, a1 = (m : Int) := ⟨a1.toNat, by omega⟩
  exact one_core i n a2 w (by omega) (by omega) hT h0
end Go.Proofs.YtadpfcpipklmbabDoor

/- What the card's row gives the walks of layer 3: spots that came in; the table of math/bits. -/
namespace Go.Proofs.YtadpfcpipklmbabDoor
open Go.ChangeShapes Go.WideShapes Go.ChangeAt Go.WideMaps Go.WideElems Go.RowKit
set_option maxRecDepth 100000

theorem own : ownKnob Tryd.prog.godebug = none := by kernel_rfl
theorem laidOut : laidOutB Tryd.prog = true := by kernel_rfl
theorem gTab : Tryd.prog.globalNamed "math/bits.deBruijn64tab" = some 0 := by kernel_rfl
theorem tTab : (Tryd.prog.globals[0]?).map (·.type) = some 94 := by kernel_rfl
theorem tabData {H : Type} : (Rows.laid_math_bits_deBruijn64tab : DataW H) = .agg (TAB.map fun n => .lit (.int .u8 (n : Nat))) := rfl
theorem of_laid {W : World} (h : laidMetH Tryd.prog [("math/bits.deBruijn64tab", Rows.laid_math_bits_deBruijn64tab)] W) : Tabled W ∧ 0 < W.heap.size := by
  rw [MakeChecks.laidMetH_plain _ _ _ (by kernel_rfl)] at h
  obtain ⟨ps, ⟨g0, t0, cs0, f0, p0, q0, hg0, ht0, hv0, hd0, _, _⟩, _, _⟩ := h
  obtain rfl := Option.some.inj (gTab.symm.trans hg0)
  obtain rfl := Option.some.inj (tTab.symm.trans ht0)
  obtain ⟨xs, m1, rfl, hx1, hlen, hn, hel⟩ := DataW.trod_array Tryd.underlying94 hd0
  have c5 : Tryd.prog.cellsOf 5 = 1 := by kernel_rfl
  simp only [Prod.mk.injEq] at hx1
  have hx := hx1.1
  rw [tabData] at hx
  simp only [DataW.agg.injEq] at hx
  have T : Tabled W := fun i hi => by
    have h0 := hel i hi
    have hi' : i < xs.length := by omega
    rw [List.getElem?_eq_getElem hi', c5, Nat.mul_one] at h0
    obtain ⟨k, e1, e2, _⟩ := DataW.trod_int Tryd.underlying5 h0
    have hk : (k : Int) = ((TAB.getD i 0 : Nat) : Int) := by
      have hz := congrArg (fun l => l[i]?) hx
      have hT : i < TAB.length := hi
      simp only [List.getElem?_map, List.getElem?_eq_getElem hi', List.getElem?_eq_getElem hT, Option.map_some, e2] at hz
      simp at hz
      rw [List.getD_eq_getElem?_getD, List.getElem?_eq_getElem hT]
      simpa using hz.symm
    have hv := World.var?_cell hg0 hv0 i
    rw [hv, ← hk]
    have := congrArg (fun l => l[0]?) e1
    simp at this
    simpa using this
  refine ⟨T, ?_⟩
  have := T 0 (by decide)
  exact Nat.lt_of_le_of_lt (Nat.zero_le _) (World.block_lt_of_cell? W _ this)
/-- a spot that came in. -/
theorem open_spot {H : Type} {enc : TypeId × Value → H} {W : World} {r : Reach} {b0 base : Nat} {sp : Nat → Bool} {held : Bool} {v : Value} {d : DataW H} {ps : List MemPlace}
    (hval : Value.okWide Tryd.prog W r b0 59 v) (hd : DataW.Trod enc Tryd.prog W base sp held 59 v d ps) : ∃ h k : Nat, h < 256 ∧ k < 2 ^ 64 ∧ v = SPOT h k := by
  simp only [Value.okWide, Tryd.underlying59] at hval
  obtain ⟨cs, rfl, hsz, _⟩ := hval
  obtain ⟨fuel, hf⟩ := hd
  obtain ⟨y0, y1, m, _, hl, h0, h1⟩ := trod_struct2 Tryd.underlying59 hf
  obtain ⟨a, e1, _, e3⟩ := DataW.trod_int Tryd.underlying5 h0
  obtain ⟨b, f1, _, f3⟩ := DataW.trod_int Tryd.underlying23 h1
  have c1 : Tryd.prog.cellsOf 5 = 1 := by kernel_rfl
  have c2 : Tryd.prog.cellsOf 23 = 1 := by kernel_rfl
  have c3 : Tryd.prog.cellsOf 59 = 2 := by kernel_rfl
  rw [c3] at hsz
  rw [c1] at e1
  rw [c2] at f1
  have ha := bounds_u8 e3
  have hb := wf_u64 f3
  obtain ⟨x, y, rfl⟩ : ∃ x y, cs = #[x, y] := by
    obtain ⟨l⟩ := cs
    match l, hsz with
    | [x, y], _ => exact ⟨x, y, rfl⟩
  simp [Value.cells] at e1 f1
  subst e1 f1
  refine ⟨a.toNat, b.toNat, by omega, by omega, ?_⟩
  rw [SPOT, Int.toNat_of_nonneg (by omega), Int.toNat_of_nonneg (by omega)]
end Go.Proofs.YtadpfcpipklmbabDoor

/- What the card's row gives the walks of layer 10: a list of numbers that came in. -/
namespace Go.Proofs.YtadpfcpipklmbabDoor
open Go.ChangeShapes Go.WideShapes Go.ChangeAt Go.WideMaps Go.WideElems Go.RowKit
set_option maxRecDepth 100000

theorem open_nums {H : Type} {enc : TypeId × Value → H} {W : World} {a : Option Addr} {len cap : Nat} {d : DataW H} {ps : List MemPlace} (hd : DataW.Trod enc Tryd.prog W 0 (fun _ => true) true 22 (.slice a len cap) d ps) :
    ∃ L : List Nat, L.length = len ∧ (a = none → cap = 0) ∧ NUML W a L ∧ (∀ x ∈ L, x < 2 ^ 64) ∧ len ≤ cap := by
  obtain ⟨fuel, hf⟩ := hd
  rcases open_ints Tryd.underlying22 Tryd.underlying23 (by kernel_rfl) hf with ⟨hcs, _⟩ | ⟨x, l, c, zs, hcs, _, hl, hm, hz, hx, hcell, hwz⟩
  · simp [Value.cells] at hcs
    obtain ⟨rfl, rfl, rfl⟩ := hcs
    exact ⟨[], rfl, fun _ => rfl, fun h => by simp at h, by simp, Nat.le_refl _⟩
  · simp [Value.cells] at hcs
    obtain ⟨rfl, rfl, rfl⟩ := hcs
    have hzl : zs.length = cap := by simpa using hz
    refine ⟨(zs.take len).map Int.toNat, by simp; omega, (fun h => by cases h), fun h0 => ?_, fun y hy => ?_, by omega⟩
    · have hn : 0 < len := by simp at h0; omega
      obtain ⟨b, off, spot⟩ := x
      have hc := hcell 0 (by omega)
      have hspot : spot = none := by simpa [Addr.add] using World.cell?_spot hc
      subst hspot
      refine ⟨b, off, rfl, block_lt_of_cell (by simpa [Addr.add] using hc), fun i y hy => ?_⟩
      have hi : i < len := by
        have := (List.getElem?_eq_some_iff.1 hy).1
        simp at this
        omega
      have hcl := hcell i (by omega)
      rw [show (⟨b, off, none⟩ : Addr).add i = ⟨b, off + i, none⟩ by unfold Addr.add; split <;> simp_all] at hcl
      rw [hcl]
      rw [List.getElem?_map, List.getElem?_take, if_pos hi, List.getElem?_eq_getElem (by omega)] at hy
      simp only [Option.map_some, Option.some.injEq] at hy
      have hw := wf_u64 (hwz zs[i] (List.getElem_mem _))
      rw [List.getD_eq_getElem?_getD, List.getElem?_eq_getElem (by omega)]
      simp only [Option.getD_some]
      rw [← hy, Int.toNat_of_nonneg (by omega)]
    · obtain ⟨z, hz1, rfl⟩ := List.mem_map.1 hy
      have hw := wf_u64 (hwz z (List.mem_of_mem_take hz1))
      omega
end Go.Proofs.YtadpfcpipklmbabDoor
