/- Texts of ManyPlaces, one behind the other: ManyPlacesWalk, PosDoor, ManyDoor. -/
import Derived.Test.YtmpaifkjlhodpaaDoorRows
import Derived.ProofKit
import Derived.LaidMore
import Derived.OpenShut
import Derived.Stop.Joined
import Derived.Test.YtmpaifkjlhodpaaDoorManyPlacesP7
import Derived.Test.YtmpaifkjlhodpaaDoorManyPlacesP10
import Derived.Test.YtmpaifkjlhodpaaDoorManyPlacesP20
/- The law ManyPlaces returns true. -/
namespace Go.Proofs.YtmpaifkjlhodpaaDoor
open Go.RowKit
set_option maxRecDepth 100000

theorem RISEA_few {L : List Nat} {N : Nat} (hL : L.length ≤ 200) : (PLCA L N).length ≤ 20000 := by
  unfold PLCA
  split
  · rename_i hr
    obtain ⟨h1, _, _⟩ := RISEA_ok hr
    have h2 := NEEDS_most (TPS N) L (fun p hp => (TPS_span (n := N) (by omega) (h := p.1) (k := p.2) hp).1)
    have h3 := TPS_length (n := N) (by omega)
    have h4 := PC_lt_pow 64 N (by omega)
    omega
  · simp
theorem own_spot {w : World} {B s n c : Nat} {t : TypeId} {a : Option Addr} {xs : List Value} (h : w.ownsRow B t s (.slice a n c) n xs) : (∀ x, a = some x → x.block < w.heap.size ∧ x.spot = none) ∧ n ≤ c ∧ (a = none → c = 0) := by
  rcases h.2 with ⟨e, h0⟩ | ⟨g, cap, cur, e, _, hg, h1, _⟩
  · cases e
    exact ⟨(fun x e => by cases e), by omega, fun _ => rfl⟩
  · cases e
    exact ⟨fun x e => by cases e; exact ⟨(Array.getElem?_eq_some_iff.1 hg).1, rfl⟩, h1, fun e => by cases e⟩
theorem apt_nil {a b : Value} (h : ∀ g, a.ownBlock = some g → b.ownBlock ≠ some g) : APT a b (.slice none 0 0) (.slice none 0 0) :=
  ⟨h, fun _ _ e => by simp [Value.ownBlock] at e, fun _ _ e => by simp [Value.ownBlock] at e, fun _ _ e => by simp [Value.ownBlock] at e, fun _ _ e => by simp [Value.ownBlock] at e, fun _ _ e => by simp [Value.ownBlock] at e⟩
/-- half of the first j. -/
def HALF (L : List Nat) (j : Nat) : List Nat := (L.take j).map (· / 2) ++ L.drop j
theorem HALF_zero (L : List Nat) : HALF L 0 = L := by simp [HALF]
theorem HALF_length (L : List Nat) (j : Nat) : (HALF L j).length = L.length := by simp [HALF]; omega
theorem HALF_at {L : List Nat} {j x : Nat} (e : L[j]? = some x) : (HALF L j)[j]? = some x ∧ (UCELLS (HALF L j)).set j (.int .u64 ((x / 2 : Nat) : Int)) = UCELLS (HALF L (j + 1)) := by
  have hj : j < L.length := (List.getElem?_eq_some_iff.1 e).1
  have hl : ((L.take j).map (· / 2)).length = j := by simp; omega
  constructor
  · unfold HALF
    rw [List.getElem?_append_right (by omega), hl, Nat.sub_self, List.getElem?_drop, Nat.add_zero]
    exact e
  · unfold UCELLS
    rw [← List.map_set]
    congr 1
    unfold HALF
    rw [List.set_append_right _ _ (by omega), hl, Nat.sub_self, drop_step e, List.set_cons_zero, List.take_add_one, e]
    simp
theorem half_in {L : List Nat} (hx : ∀ x ∈ L, x < 2 ^ 64) (j : Nat) : ∀ x ∈ HALF L j, x < 2 ^ 64 := fun x h => by
  rcases List.mem_append.1 h with h | h
  · obtain ⟨y, hy, rfl⟩ := List.mem_map.1 h
    have := hx y (List.mem_of_mem_take hy)
    omega
  · exact hx x (List.mem_of_mem_drop h)
theorem places_long (a : Option Addr) (n c : Nat) (hn : (200 : Int) < (n : Int)) (N : Int) (w : World) : Calls Tryd.prog 3 #[.slice a n c, .int .u64 N] w fun e w' => e = .returned (.bool true) ∧ Below w.heap.size w w' := by
  go_enter Tryd.func3, Tryd.ntmps3
  go_wp2
  go_ret
  exact ⟨rfl, Below.refl _ _⟩
set_option maxHeartbeats 8000000 in
theorem manyPlaces_core (a : Option Addr) (n c N : Nat) (L : List Nat) (w : World) (hT : Tabled w) (h0 : 0 < w.heap.size) (hl : L.length = n) (hn : n ≤ 200) (hc : a = none → c = 0) (hL : NUML w a L) (hx : ∀ x ∈ L, x < 2 ^ 64) :
    Calls Tryd.prog 3 #[.slice a n c, .int .u64 (N : Int)] w fun e w' => e = .returned (.bool true) ∧ Below w.heap.size w w' := by
  have tab : Aside (∀ W, Below w.heap.size w W → Tabled W ∧ 0 < W.heap.size) := fun W hb => ⟨hT.below h0 hb, by have := hb.size; omega⟩
  have c1 := numbers10_ok a n c L hl (by omega) hc w hL
  have hn2 : ¬ (200 : Int) < (n : Int) := by omega
  obtain ⟨E, hE⟩ : ∃ E, RISEA L N = E := ⟨_, rfl⟩
  obtain ⟨P, hP⟩ : ∃ P, PLCA L N = P := ⟨_, rfl⟩
  have hfew : P.length ≤ 20000 := by rw [← hP]; exact RISEA_few (by omega)
  have HA : Aside (L.length = n ∧ n ≤ 200 ∧ (a = none → c = 0) ∧ NUML w a L ∧ (∀ x ∈ L, x < 2 ^ 64) ∧ P.length ≤ 20000) := ⟨hl, hn, hc, hL, hx, hfew⟩
  have CR : Aside (∀ W a' c', NUML W a' L → Calls Tryd.prog 7 #[.slice a' n c', .int .u64 (N : Int)] W (ANSN W E P)) := fun W a' c' h => by
    rw [← hE, ← hP]
    exact refplaces10_ok L N a' n c' W hl (by omega) hx h
  have CM : Aside (∀ W g cap, Below w.heap.size w W → NUML W (some ⟨g, 0, none⟩) L → n ≤ cap → g < W.heap.size → Calls Tryd.prog 8 #[.slice (some ⟨g, 0, none⟩) n cap, .int .u64 (N : Int)] W (ANSN W E P)) := fun W g cap hb h hcap hg => by
    rw [← hE, ← hP]
    exact manyplaces_ok L N (some ⟨g, 0, none⟩) n cap W hl (by omega) hcap (fun e => by cases e) (fun x e => by cases e; exact ⟨hg, rfl⟩) h (tab.out W hb).1 (tab.out W hb).2
  clear hT h0 hl hn hc hL hx hfew hE hP
  obtain ⟨M, hM⟩ : ∃ M, P.length = M := ⟨_, rfl⟩
  unfold ANSN at CR CM
  rw [hM] at CR CM HA
  go_enter Tryd.func3, Tryd.ntmps3
  go_wp2_with fail
  refine c1.mono ?_
  rintro e w1 ⟨g, cap, rfl, hN⟩
  clear c1
  have N1 : Aside (NUMD w w1 g n cap L) := hN
  have c2 := CR.out w1 a c (HA.out.2.2.2.1.keep hN.below)
  clear hN
  go_wp2_with fail
  refine c2.mono ?_
  rintro e w2 ⟨a2, k2, rfl, hown2, hb2⟩
  clear c2
  have W2 : Aside (Below w.heap.size w w2 ∧ Below w1.heap.size w1 w2 ∧ w2.ownsRow w1.heap.size 23 1 (.slice a2 M k2) M (UCELLS P) ∧ NUML w2 (some ⟨g, 0, none⟩) L ∧ g < w2.heap.size ∧ n + 1 ≤ cap ∧ w2.cell? ⟨g, n, none⟩ = some (.int .u64 171) ∧ w2.ownsRow w.heap.size 23 1 (.slice (some ⟨g, 0, none⟩) n cap) n (UCELLS L) ∧ w.heap.size ≤ g) := ⟨N1.out.below.trans (hb2.mono N1.out.below.size), hb2, hown2, (N1.out.lies HA.out.1).keep hb2, Nat.lt_of_lt_of_le N1.out.lt hb2.size, N1.out.room, (hb2.cell (p := ⟨g, n, none⟩) N1.out.lt).trans N1.out.mark, own_below N1.out.own hb2, N1.out.base⟩
  have c3 := CM.out w2 g cap W2.out.1 W2.out.2.2.2.1 (by have := W2.out.2.2.2.2.2.1; omega) W2.out.2.2.2.2.1
  clear hown2 hb2 N1
  go_wp2_with fail
  refine c3.mono ?_
  rintro e w3 ⟨a3, k3, rfl, hown3, hb3⟩
  clear c3
  have W3 : Aside (Below w2.heap.size w2 w3 ∧ w3.ownsRow w2.heap.size 23 1 (.slice a3 M k3) M (UCELLS P)) := ⟨hb3, hown3⟩
  have c4 := CM.out w3 g cap (W2.out.1.trans (hb3.mono W2.out.1.size)) (W2.out.2.2.2.1.keep hb3) (by have := W2.out.2.2.2.2.2.1; omega) (Nat.lt_of_lt_of_le W2.out.2.2.2.2.1 hb3.size)
  clear hown3 hb3
  go_wp2_with fail
  refine c4.mono ?_
  rintro e w4 ⟨a4, k4, rfl, hown4, hb4⟩
  clear c4
  have W4 : Aside (Below w2.heap.size w2 w4 ∧ w4.ownsRow w2.heap.size 23 1 (.slice a3 M k3) M (UCELLS P) ∧ w4.ownsRow w2.heap.size 23 1 (.slice a4 M k4) M (UCELLS P) ∧ ∀ x, (Value.slice a3 M k3).ownBlock = some x → (Value.slice a4 M k4).ownBlock ≠ some x) := ⟨W3.out.1.trans (hb4.mono W3.out.1.size), own_below W3.out.2 hb4, own_mono hown4 W3.out.1.size, fun x e1 e2 => by have h1 := (W3.out.2.lt x e1).2; have h2 := (hown4.lt x e2).1; omega⟩
  have c5 := samenuml_ok a3 a2 M k3 k2 P hM (by have := HA.out.2.2.2.2.2; omega) w4 (own_lies W4.out.2.1 hM) ((own_lies W2.out.2.2.1 hM).keep W4.out.1)
  clear hown4 hb4 W3
  go_wp2_with fail
  refine c5.mono ?_
  rintro e w5 ⟨rfl, hb5⟩
  clear c5
  have W5 : Aside (Below w2.heap.size w2 w5 ∧ w5.ownsRow w2.heap.size 23 1 (.slice a3 M k3) M (UCELLS P) ∧ w5.ownsRow w2.heap.size 23 1 (.slice a4 M k4) M (UCELLS P)) := ⟨W4.out.1.trans (hb5.mono W4.out.1.size), own_below W4.out.2.1 hb5, own_below W4.out.2.2.1 hb5⟩
  have AP : Aside (∀ x, (Value.slice a3 M k3).ownBlock = some x → (Value.slice a4 M k4).ownBlock ≠ some x) := W4.out.2.2.2
  have c6 := samenuml_ok a4 a2 M k4 k2 P hM (by have := HA.out.2.2.2.2.2; omega) w5 (own_lies W5.out.2.2 hM) ((own_lies W2.out.2.2.1 hM).keep W5.out.1)
  clear hb5 W4
  go_wp2_with fail
  refine c6.mono ?_
  rintro e w6 ⟨rfl, hb6⟩
  clear c6
  have W6 : Aside (Below w2.heap.size w2 w6 ∧ w6.ownsRow w2.heap.size 23 1 (.slice a3 M k3) M (UCELLS P) ∧ w6.ownsRow w2.heap.size 23 1 (.slice a4 M k4) M (UCELLS P)) := ⟨W5.out.1.trans (hb6.mono W5.out.1.size), own_below W5.out.2.1 hb6, own_below W5.out.2.2 hb6⟩
  have ST : Aside (∀ W, Below w2.heap.size w2 W → Calls Tryd.prog 10 #[.slice (some ⟨g, 0, none⟩) n cap, .slice a n c] W fun e w' => e = .returned (.bool true) ∧ Below W.heap.size W w') := fun W hb => stays_ok g n cap a c L HA.out.1 (by have := HA.out.2.1; omega) W2.out.2.2.2.2.2.1 W (W2.out.2.2.2.1.keep hb) (HA.out.2.2.2.1.keep (W2.out.1.trans (hb.mono W2.out.1.size))) (Nat.lt_of_lt_of_le W2.out.2.2.2.2.1 hb.size) ((hb.cell (p := ⟨g, n, none⟩) W2.out.2.2.2.2.1).trans W2.out.2.2.2.2.2.2.1)
  have c7 := ST.out w6 W6.out.1
  clear hb6 W5
  go_wp2_with fail
  refine c7.mono ?_
  rintro e w7 ⟨rfl, hb7⟩
  clear c7
  have W7 : Aside (Below w2.heap.size w2 w7 ∧ w7.ownsRow w2.heap.size 23 1 (.slice a3 M k3) M (UCELLS P) ∧ w7.ownsRow w2.heap.size 23 1 (.slice a4 M k4) M (UCELLS P)) := ⟨W6.out.1.trans (hb7.mono W6.out.1.size), own_below W6.out.2.1 hb7, own_below W6.out.2.2 hb7⟩
  have c8 := apart_ok 0 0 a3 a4 none none M 0 k3 k4 0 0 w2.heap.size _ _ [] [] w7 W7.out.1.size W7.out.2.1 W7.out.2.2 ⟨rfl, .inl ⟨rfl, rfl⟩⟩ ⟨rfl, .inl ⟨rfl, rfl⟩⟩ (apt_nil AP.out) (by have := HA.out.2.2.2.2.2; omega) (by omega)
  clear hb7 W6
  go_wp2_with fail
  refine c8.mono ?_
  rintro e w8 ⟨rfl, hb8, _⟩
  clear c8
  have W8 : Aside (Below w2.heap.size w2 w8) := W7.out.1.trans hb8
  have c9 := ST.out w8 W8.out
  clear hb8 W7
  go_wp2_with fail
  refine c9.mono ?_
  rintro e w9 ⟨rfl, hb9⟩
  clear c9
  have W9 : Aside (Below w.heap.size w w9 ∧ w9.ownsRow w.heap.size 23 1 (.slice (some ⟨g, 0, none⟩) n cap) n (UCELLS L) ∧ n + 1 ≤ cap) := by
    have h1 : Below w2.heap.size w2 w9 := W8.out.trans (hb9.mono W8.out.size)
    exact ⟨W2.out.1.trans (h1.mono W2.out.1.size), own_below W2.out.2.2.2.2.2.2.2.1 h1, W2.out.2.2.2.2.2.1⟩
  clear hb9 W8 W2 ST AP CR CM
  go_wp2_with fail
  go_loopg [12] n (fun q s12 wx => ∃ j : Nat, s12 = .int .i64 (j : Int) ∧ Aside (j + q = n ∧ wx.ownsRow w.heap.size 23 1 (.slice (some ⟨g, 0, none⟩) n cap) n (UCELLS (HALF L j)) ∧ Below w.heap.size w wx))
  case atStart => exact ⟨0, rfl, by omega, by rw [HALF_zero]; exact W9.out.2.1, W9.out.1⟩
  case round =>
    obtain ⟨j, rfl, A⟩ := hrel
    cases gk with
    | succ q =>
      have hjn : j < n := by have := A.out.1; omega
      have hlt : (j : Int) < (n : Int) := by omega
      obtain ⟨x, ex⟩ : ∃ x, L[j]? = some x := ⟨_, List.getElem?_eq_getElem (by have := HA.out.1; omega)⟩
      obtain ⟨p1, p2⟩ := HALF_at ex
      have hx64 := HA.out.2.2.2.2.1 x (List.mem_of_getElem? ex)
      have x0 : wr.cell? ⟨g, j, none⟩ = some (.int .u64 (x : Int)) := by
        rw [A.out.2.1.cellAt j (by omega), UCELLS, List.getElem?_map, p1]
        rfl
      have f0 := A.out.2.1.frozenAt j
      have ed : (x : Int) / 2 = ((x / 2 : Nat) : Int) := by omega
      have ew : IntKind.u64.wrap ((x / 2 : Nat) : Int) = ((x / 2 : Nat) : Int) := by rw [wrapU]; omega
      have ej : wrap64 ((j : Int) + 1) = ((j + 1 : Nat) : Int) := by have := HA.out.2.1; unfold wrap64; omega
      have Z : Aside (j + 1 + q = n ∧ (wr.setCell ⟨g, j, none⟩ (.int .u64 ((x / 2 : Nat) : Int))).ownsRow w.heap.size 23 1 (.slice (some ⟨g, 0, none⟩) n cap) n (UCELLS (HALF L (j + 1))) ∧ Below w.heap.size w (wr.setCell ⟨g, j, none⟩ (.int .u64 ((x / 2 : Nat) : Int)))) := by
        have hs := (A.out.2.1.stored j (.int .u64 ((x / 2 : Nat) : Int)))
        rw [p2] at hs
        exact ⟨by have := A.out.1; clear ej ew ed; omega, hs.1, A.out.2.2.grown hs.2 A.out.2.2.size (fun k e => (A.out.2.1.lt k e).1)⟩
      generalize x / 2 = x2 at *
      clear A p1 p2 ex hjn hx64
      go_wp2_with fail
      go_roundg q
      case measure => exact Nat.lt_succ_self _
      case rel => exact ⟨j + 1, by first | rfl | (rw [ej]), Z.out⟩
    | zero =>
      obtain rfl : j = n := by have := A.out.1; omega
      have hlt : ¬ (j : Int) < (j : Int) := by omega
      obtain ⟨H, hH⟩ : ∃ H, HALF L j = H := ⟨_, rfl⟩
      have hHl : H.length = j := by rw [← hH, HALF_length]; exact HA.out.1
      have hHx : ∀ x ∈ H, x < 2 ^ 64 := by rw [← hH]; exact half_in HA.out.2.2.2.2.1 j
      obtain ⟨E2, hE2⟩ : ∃ E, RISEA H N = E := ⟨_, rfl⟩
      obtain ⟨P2, hP2⟩ : ∃ P, PLCA H N = P := ⟨_, rfl⟩
      have HB : Aside (wr.ownsRow w.heap.size 23 1 (.slice (some ⟨g, 0, none⟩) j cap) j (UCELLS H) ∧ Below w.heap.size w wr ∧ H.length = j ∧ j ≤ 200 ∧ j + 1 ≤ cap ∧ P2.length ≤ 20000) := ⟨by rw [← hH]; exact A.out.2.1, A.out.2.2, hHl, HA.out.2.1, W9.out.2.2, by rw [← hP2]; exact RISEA_few (by have := HA.out.2.1; omega)⟩
      have CR : Aside (∀ W a' c', NUML W a' H → Calls Tryd.prog 7 #[.slice a' j c', .int .u64 (N : Int)] W (ANSN W E2 P2)) := fun W a' c' h => by
        rw [← hE2, ← hP2]
        exact refplaces10_ok H N a' j c' W hHl (by have := HA.out.2.1; omega) hHx h
      have CM : Aside (∀ W, Below w.heap.size w W → NUML W (some ⟨g, 0, none⟩) H → g < W.heap.size → Calls Tryd.prog 8 #[.slice (some ⟨g, 0, none⟩) j cap, .int .u64 (N : Int)] W (ANSN W E2 P2)) := fun W hb h hg => by
        rw [← hE2, ← hP2]
        exact manyplaces_ok H N (some ⟨g, 0, none⟩) j cap W hHl (by have := HA.out.2.1; omega) (by have := W9.out.2.2; omega) (fun e => by cases e) (fun x e => by cases e; exact ⟨hg, rfl⟩) h (tab.out W hb).1 (tab.out W hb).2
      obtain ⟨M2, hM2⟩ : ∃ M, P2.length = M := ⟨_, rfl⟩
      unfold ANSN at CR CM
      rw [hM2] at CR CM HB
      clear A HA W9 hE2 hP2 hH hHl hHx
      go_wp2_with (first
        | (at_builtin; refine app_nums _ rfl (.tmp 89) (.tmp 90) rfl wr.heap.size (.slice (some ⟨wr.heap.size, 0, none⟩) 0 0) 0 [] rfl (own_nothing wr) (some ⟨g, 0, none⟩) j cap H rfl ((own_lies HB.out.1 HB.out.2.2.1).keep ((Below.refl _ _).alloc (Nat.le_refl _) _)) HB.out.2.2.1 (fun e => by cases e) (by have := HB.out.2.2.2.1; omega) (by simp) ?_; rw [Nat.zero_add, List.nil_append]; intro a10 c10 w10 hown10 hgrow10
           have W10 : Aside (w10.ownsRow wr.heap.size 23 1 (.slice a10 j c10) j (UCELLS H) ∧ Below wr.heap.size wr w10) := ⟨hown10, ((Below.refl _ wr).alloc (Nat.le_refl _) _).grown hgrow10 (by simp) (fun k e => by cases e; exact Nat.le_refl _)⟩
           clear hown10 hgrow10))
      refine (CR.out w10 a10 c10 (own_lies W10.out.1 HB.out.2.2.1)).mono ?_
      rintro e w11 ⟨a11, c11, rfl, hown11, hb11⟩
      have W11 : Aside (Below wr.heap.size wr w11 ∧ w11.ownsRow w10.heap.size 23 1 (.slice a11 M2 c11) M2 (UCELLS P2)) := ⟨W10.out.2.trans (hb11.mono W10.out.2.size), hown11⟩
      clear hown11 hb11 CR W10
      have c12 := CM.out w11 (HB.out.2.1.trans (W11.out.1.mono HB.out.2.1.size)) ((own_lies HB.out.1 HB.out.2.2.1).keep W11.out.1) (by have := (HB.out.1.lt g rfl).2; have := W11.out.1.size; omega)
      clear CM
      go_wp2_with fail
      refine c12.mono ?_
      rintro e w12 ⟨a12, k12, rfl, hown12, hb12⟩
      have W12 : Aside (Below w.heap.size w w12 ∧ w12.ownsRow w10.heap.size 23 1 (.slice a11 M2 c11) M2 (UCELLS P2) ∧ w12.ownsRow w11.heap.size 23 1 (.slice a12 M2 k12) M2 (UCELLS P2)) := by
        have h1 : Below w.heap.size w w11 := HB.out.2.1.trans (W11.out.1.mono HB.out.2.1.size)
        exact ⟨h1.trans (hb12.mono h1.size), own_below W11.out.2 hb12, hown12⟩
      clear c12 hown12 hb12
      have c13 := samenuml_ok a12 a11 M2 k12 c11 P2 hM2 (by have := HB.out.2.2.2.2.2; omega) w12 (own_lies W12.out.2.2 hM2) (own_lies W12.out.2.1 hM2)
      go_wp2_with fail
      refine c13.mono ?_
      rintro e w13 ⟨rfl, hb13⟩
      have W13 : Aside (Below w.heap.size w w13) := W12.out.1.trans (hb13.mono W12.out.1.size)
      clear c13 hb13
      have c14 := awake10_ok w13 (tab.out w13 W13.out).1 (tab.out w13 W13.out).2
      go_wp2_with fail
      refine c14.mono ?_
      rintro e w14 ⟨rfl, hb14⟩
      have W14 : Aside (Below w.heap.size w w14) := W13.out.trans (hb14.mono W13.out.size)
      clear c14 hb14
      go_wp2_with fail
      go_ret
      exact ⟨rfl, W14.out⟩
theorem manyPlaces_walk (L : List Nat) (a : Option Addr) (n c : Nat) (N : Int) (w : World) (hl : L.length = n) (hc : a = none → c = 0) (hL : NUML w a L) (hx : ∀ x ∈ L, x < 2 ^ 64) (wN : (Lit.int IntKind.u64 N).wf = true) (hT : Tabled w) (h0 : 0 < w.heap.size) :
    Calls Tryd.prog 3 #[.slice a n c, .int .u64 N] w fun e w' => e = .returned (.bool true) ∧ Below w.heap.size w w' := by
  have hN := wf_u64 wN
  by_cases hn : (200 : Int) < (n : Int)
  · exact places_long a n c hn N w
  · obtain ⟨k, rfl⟩ : ∃ k : Nat, N = (k : Int) := ⟨N.toNat, by omega⟩
    exact manyPlaces_core a n c k L w hT h0 hl (by omega) hc hL hx
end Go.Proofs.YtmpaifkjlhodpaaDoor

/- What the card's row gives the walks of layer 3: spots that came in; the table of math/bits. -/
namespace Go.Proofs.YtmpaifkjlhodpaaDoor
open Go.ChangeShapes Go.WideShapes Go.ChangeAt Go.WideMaps Go.WideElems Go.RowKit
set_option maxRecDepth 100000

theorem own : ownKnob Tryd.prog.godebug = none := by kernel_rfl
theorem laidOut : laidOutB Tryd.prog = true := by kernel_rfl
theorem gTab : Tryd.prog.globalNamed "math/bits.deBruijn64tab" = some 0 := by kernel_rfl
theorem tTab : (Tryd.prog.globals[0]?).map (·.type) = some 99 := by kernel_rfl
theorem tabData {H : Type} : (Rows.laid_math_bits_deBruijn64tab : DataW H) = .agg (TAB.map fun n => .lit (.int .u8 (n : Nat))) := rfl
theorem of_laid {W : World} (h : laidMetH Tryd.prog [("math/bits.deBruijn64tab", Rows.laid_math_bits_deBruijn64tab)] W) : Tabled W ∧ 0 < W.heap.size := by
  rw [MakeChecks.laidMetH_plain _ _ _ (by kernel_rfl)] at h
  obtain ⟨ps, ⟨g0, t0, cs0, f0, p0, q0, hg0, ht0, hv0, hd0, _, _⟩, _, _⟩ := h
  obtain rfl := Option.some.inj (gTab.symm.trans hg0)
  obtain rfl := Option.some.inj (tTab.symm.trans ht0)
  obtain ⟨xs, m1, rfl, hx1, hlen, hn, hel⟩ := DataW.trod_array Tryd.underlying99 hd0
  have c5 : Tryd.prog.cellsOf 5 = 1 := by kernel_rfl
  simp only [Prod.mk.injEq] at hx1
  have hx := hx1.1
  rw [tabData] at hx
  simp only [DataW.agg.injEq] at hx
  have T : Tabled W := fun i hi => by
    have h0 := hel i hi
    have hi' : i < xs.length := by omega
    rw [List.getElem?_eq_getElem hi', c5, Nat.mul_one] at h0
    obtain ⟨k, e1, e2, _⟩ := DataW.trod_int Tryd.underlying5 h0
    have hk : (k : Int) = ((TAB.getD i 0 : Nat) : Int) := by
      have hz := congrArg (fun l => l[i]?) hx
      have hT : i < TAB.length := hi
      simp only [List.getElem?_map, List.getElem?_eq_getElem hi', List.getElem?_eq_getElem hT, Option.map_some, e2] at hz
      simp at hz
      rw [List.getD_eq_getElem?_getD, List.getElem?_eq_getElem hT]
      simpa using hz.symm
    have hv := World.var?_cell hg0 hv0 i
    rw [hv, ← hk]
    have := congrArg (fun l => l[0]?) e1
    simp at this
    simpa using this
  refine ⟨T, ?_⟩
  have := T 0 (by decide)
  exact Nat.lt_of_le_of_lt (Nat.zero_le _) (World.block_lt_of_cell? W _ this)
/-- a spot that came in. -/
theorem open_spot {H : Type} {enc : TypeId × Value → H} {W : World} {r : Reach} {b0 base : Nat} {sp : Nat → Bool} {held : Bool} {v : Value} {d : DataW H} {ps : List MemPlace}
    (hval : Value.okWide Tryd.prog W r b0 49 v) (hd : DataW.Trod enc Tryd.prog W base sp held 49 v d ps) : ∃ h k : Nat, h < 256 ∧ k < 2 ^ 64 ∧ v = SPOT h k := by
  simp only [Value.okWide, Tryd.underlying49] at hval
  obtain ⟨cs, rfl, hsz, _⟩ := hval
  obtain ⟨fuel, hf⟩ := hd
  obtain ⟨y0, y1, m, _, hl, h0, h1⟩ := trod_struct2 Tryd.underlying49 hf
  obtain ⟨a, e1, _, e3⟩ := DataW.trod_int Tryd.underlying5 h0
  obtain ⟨b, f1, _, f3⟩ := DataW.trod_int Tryd.underlying23 h1
  have c1 : Tryd.prog.cellsOf 5 = 1 := by kernel_rfl
  have c2 : Tryd.prog.cellsOf 23 = 1 := by kernel_rfl
  have c3 : Tryd.prog.cellsOf 49 = 2 := by kernel_rfl
  rw [c3] at hsz
  rw [c1] at e1
  rw [c2] at f1
  have ha := bounds_u8 e3
  have hb := wf_u64 f3
  obtain ⟨x, y, rfl⟩ : ∃ x y, cs = #[x, y] := by
    obtain ⟨l⟩ := cs
    match l, hsz with
    | [x, y], _ => exact ⟨x, y, rfl⟩
  simp [Value.cells] at e1 f1
  subst e1 f1
  refine ⟨a.toNat, b.toNat, by omega, by omega, ?_⟩
  rw [SPOT, Int.toNat_of_nonneg (by omega), Int.toNat_of_nonneg (by omega)]
end Go.Proofs.YtmpaifkjlhodpaaDoor

/- What the card's row gives the walks of layer 10: a list of numbers that came in. -/
namespace Go.Proofs.YtmpaifkjlhodpaaDoor
open Go.ChangeShapes Go.WideShapes Go.ChangeAt Go.WideMaps Go.WideElems Go.RowKit
set_option maxRecDepth 100000

theorem open_nums {H : Type} {enc : TypeId × Value → H} {W : World} {a : Option Addr} {len cap : Nat} {d : DataW H} {ps : List MemPlace} (hd : DataW.Trod enc Tryd.prog W 0 (fun _ => true) true 22 (.slice a len cap) d ps) :
    ∃ L : List Nat, L.length = len ∧ (a = none → cap = 0) ∧ NUML W a L ∧ (∀ x ∈ L, x < 2 ^ 64) ∧ len ≤ cap := by
  obtain ⟨fuel, hf⟩ := hd
  rcases open_ints Tryd.underlying22 Tryd.underlying23 (by kernel_rfl) hf with ⟨hcs, _⟩ | ⟨x, l, c, zs, hcs, _, hl, hm, hz, hx, hcell, hwz⟩
  · simp [Value.cells] at hcs
    obtain ⟨rfl, rfl, rfl⟩ := hcs
    exact ⟨[], rfl, fun _ => rfl, fun h => by simp at h, by simp, Nat.le_refl _⟩
  · simp [Value.cells] at hcs
    obtain ⟨rfl, rfl, rfl⟩ := hcs
    have hzl : zs.length = cap := by simpa using hz
    refine ⟨(zs.take len).map Int.toNat, by simp; omega, (fun h => by cases h), fun h0 => ?_, fun y hy => ?_, by omega⟩
    · have hn : 0 < len := by simp at h0; omega
      obtain ⟨b, off, spot⟩ := x
      have hc := hcell 0 (by omega)
      have hspot : spot = none := by simpa [Addr.add] using World.cell?_spot hc
      subst hspot
      refine ⟨b, off, rfl, block_lt_of_cell (by simpa [Addr.add] using hc), fun i y hy => ?_⟩
      have hi : i < len := by
        have := (List.getElem?_eq_some_iff.1 hy).1
        simp at this
        omega
      have hcl := hcell i (by omega)
      rw [show (⟨b, off, none⟩ : Addr).add i = ⟨b, off + i, none⟩ by unfold Addr.add; split <;> simp_all] at hcl
      rw [hcl]
      rw [List.getElem?_map, List.getElem?_take, if_pos hi, List.getElem?_eq_getElem (by omega)] at hy
      simp only [Option.map_some, Option.some.injEq] at hy
      have hw := wf_u64 (hwz zs[i] (List.getElem_mem _))
      rw [List.getD_eq_getElem?_getD, List.getElem?_eq_getElem (by omega)]
      simp only [Option.getD_some]
      rw [← hy, Int.toNat_of_nonneg (by omega)]
    · obtain ⟨z, hz1, rfl⟩ := List.mem_map.1 hy
      have hw := wf_u64 (hwz z (List.mem_of_mem_take hz1))
      omega
end Go.Proofs.YtmpaifkjlhodpaaDoor
