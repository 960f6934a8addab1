/- Texts of ManyClimbs, one behind the other: ManyClimbsWalk, PosDoor, ProofDoor, HashDoor, VerifyLaid3, ManyDoor, ManyDoorMany. -/
import Derived.Test.YtlicfinmibbpdaaGreatDoorRows
import Derived.ProofKit
import Derived.LaidMore
import Derived.OpenShut
import Derived.Stop.Joined
import Derived.Deep.Strs
import Derived.Test.YtlicfinmibbpdaaGreatDoorManyClimbsP35
/- The walk of the law ManyClimbs. -/
namespace Go.Proofs.YtlicfinmibbpdaaGreatDoor
open Go.RowKit
set_option maxRecDepth 100000

theorem MUPS_range {d : Int} : ∀ (ps : List (Nat × Nat)) (A B : Nat) (L : List Nat) (lv nd : List Int) (i j : Nat), Tile A ps B → AMID A B L → RISES L → HSS i lv → HSS j nd → L.length ≤ i → (NEEDS ps L).length ≤ j → ∀ x ∈ MUPS d ps L lv nd, 0 ≤ x ∧ x ≤ 255
  | [], _, _, _, _, _, _, _, _, _, _, _, _, _, _ => fun x hx => by cases hx
  | (h, k) :: ps, A, B, L, lv, nd, i, j, ht, hm, hR, hi, hj, h1, h2 => by
    obtain ⟨hN, hA, ht⟩ : Node h k ∧ k * 2 ^ h = A ∧ Tile ((k + 1) * 2 ^ h) ps B := ht
    obtain ⟨r, hr⟩ := ranks_some hR ((k + 1) * 2 ^ h)
    have hn := NEEDS_take ps hr
    have hle := hr.le
    rw [hn, List.length_append] at h2
    have s := MUP_spec d h k (L.take r) lv nd i j (hm.take hR hr hA) hi hj (by rw [List.length_take]; omega) (by omega)
    intro x hx
    rw [MUPS_take ps hr] at hx
    rcases List.mem_append.1 hx with hx | hx
    · exact s.1.2 x hx
    · exact MUPS_range ps ((k + 1) * 2 ^ h) B (L.drop r) _ _ _ _ ht (hm.drop hr) (hR.drop r) s.2.1 s.2.2 (by rw [List.length_take, List.length_drop]; omega) (by omega) x hx
theorem MCL_range {d : Int} {L : List Nat} {N K nl : Nat} {lv nd : List Int} (hl : HSS nl lv) (hn : HSS K nd) : ∀ x ∈ (MCL d L N K nl lv nd).2.2, 0 ≤ x ∧ x ≤ 255 := by
  by_cases h : MCE L N K nl = 0
  · have hP : MCL d L N K nl lv nd = (0, PC N, MUPS d (TPS N) L lv nd) := if_pos h
    rw [hP]
    have hW : MWA L N K = 0 := by
      by_cases h' : MWA L N K = 0
      · exact h'
      · rw [MCE_whole h'] at h; exact h
    have hnl : nl = L.length := by
      by_cases h' : nl = L.length
      · exact h'
      · rw [MCE_count hW h'] at h; cases h
    obtain ⟨q1, q2⟩ := MWA_ok hW
    obtain ⟨r1, r2, r3⟩ := RISEA_ok q1
    exact MUPS_range (TPS N) 0 N L lv nd nl K (TPS_tile r1) (fun x hx => ⟨Nat.zero_le _, r3 x hx⟩) r2 hl hn (by omega) (by omega)
  · have hP : MCL d L N K nl lv nd = (MCE L N K nl, 0, []) := if_neg h
    rw [hP]
    intro x hx
    cases hx
theorem MCL_few {d : Int} {L : List Nat} {N K nl : Nat} {lv nd : List Int} (hN : N < 2 ^ 64) : (MCL d L N K nl lv nd).2.1 ≤ 64 := by
  by_cases h : MCE L N K nl = 0
  · have hP : MCL d L N K nl lv nd = (0, PC N, MUPS d (TPS N) L lv nd) := if_pos h
    rw [hP]
    exact PC_lt_pow 64 N hN
  · have hP : MCL d L N K nl lv nd = (MCE L N K nl, 0, []) := if_neg h
    rw [hP]
    exact Nat.zero_le _
set_option maxHeartbeats 2000000 in
theorem climbs_long (d : Int) (al : Option Addr) (nl cl N : Nat) (a : Option Addr) (n ca : Nat) (x : Option Addr) (m cx : Nat) (w : World) (h : ¬ (n ≤ 200 ∧ m ≤ 200 ∧ nl ≤ 200)) :
    Calls Tryz.prog 3 #[.int .i64 d, .slice al nl cl, .agg #[.int .u64 (N : Int), .slice a n ca, .slice x m cx]] w fun e w' => e = .returned (.bool true) ∧ Below w.heap.size w w' := by
  obtain ⟨w1, e1⟩ : ∃ w1, w.alloc (.cells #[.int .u64 (N : Int), .slice a n ca, .slice x m cx] 26) = w1 := ⟨_, rfl⟩
  have hb1 : Below w.heap.size w w1 := by rw [← e1]; exact (Below.refl _ _).alloc (Nat.le_refl _) _
  have hB1 : Has w1 w.heap.size #[.int .u64 (N : Int), .slice a n ca, .slice x m cx] 26 := by rw [← e1]; exact Has.new _ _ _
  have x1 := hB1.cell 1
  have x2 := hB1.cell 2
  have FN : Aside (Below w.heap.size w w1) := hb1
  clear hb1 hB1
  by_cases hn : (200 : Int) < (n : Int)
  · clear h
    go_enter Tryz.func3, Tryz.ntmps3
    go_wp2_with fail
    go_ret
    exact ⟨rfl, FN.out⟩
  · by_cases hm : (200 : Int) < (m : Int)
    · clear h
      go_enter Tryz.func3, Tryz.ntmps3
      go_wp2_with fail
      go_ret
      exact ⟨rfl, FN.out⟩
    · have hk : (200 : Int) < (nl : Int) := by omega
      clear h
      go_enter Tryz.func3, Tryz.ntmps3
      go_wp2_with fail
      go_ret
      exact ⟨rfl, FN.out⟩
set_option maxHeartbeats 16000000 in
theorem climbs_core (d : Int) (al : Option Addr) (nl cl : Nat) (lv : List Int) (N : Nat) (a : Option Addr) (n ca : Nat) (L : List Nat) (x : Option Addr) (m cx : Nat) (l : List Int) (w : World) (hFl : Flat w al nl lv) (hzl : al = none → cl = 0) (hcl : nl ≤ cl) (hN : N < 2 ^ 64) (hl : L.length = n) (hc : a = none → ca = 0) (hL : NUML w a L) (hx : ∀ x ∈ L, x < 2 ^ 64) (hcx : x = none → cx = 0) (hF : Flat w x m l) (hmx : m ≤ cx) (hn : n ≤ 200) (hm : m ≤ 200) (hnl : nl ≤ 200) (hT : Tabled w) (hX : HX.Tabled w) (h0 : 0 < w.heap.size) :
    Calls Tryz.prog 3 #[.int .i64 d, .slice al nl cl, .agg #[.int .u64 (N : Int), .slice a n ca, .slice x m cx]] w fun e w' => e = .returned (.bool true) ∧ Below w.heap.size w w' := by
  obtain ⟨w1, e1⟩ : ∃ w1, w.alloc (.cells #[.int .u64 (N : Int), .slice a n ca, .slice x m cx] 26) = w1 := ⟨_, rfl⟩
  obtain ⟨b5, hb5⟩ : ∃ b, w.heap.size = b := ⟨_, rfl⟩
  have hb1 : Below w.heap.size w w1 := by rw [← e1]; exact (Below.refl _ _).alloc (Nat.le_refl _) _
  have hB1 : Has w1 b5 #[.int .u64 (N : Int), .slice a n ca, .slice x m cx] 26 := by rw [← e1, ← hb5]; exact Has.new _ _ _
  have x0 := hB1.cell 0
  have x1 := hB1.cell 1
  have x2 := hB1.cell 2
  have i1 : ¬ (200 : Int) < (n : Int) := by omega
  have i2 : ¬ (200 : Int) < (m : Int) := by omega
  have i3 : ¬ (200 : Int) < (nl : Int) := by omega
  have cg := given10_ok (N : Int) a n ca L x m cx l hl hn hc hm hcx w1 (hL.keep hb1) (hF.below hb1)
  have HA : Aside (L.length = n ∧ n ≤ 200 ∧ m ≤ 200 ∧ nl ≤ 200 ∧ (∀ x ∈ L, x < 2 ^ 64) ∧ N < 2 ^ 64 ∧ nl ≤ cl ∧ m ≤ cx ∧ (al = none → cl = 0)) := ⟨hl, hn, hm, hnl, hx, hN, hcl, hmx, hzl⟩
  have HW : Aside (NUML w a L ∧ Flat w x m l ∧ Flat w al nl lv ∧ Tabled w ∧ HX.Tabled w ∧ 0 < w.heap.size) := ⟨hL, hF, hFl, hT, hX, h0⟩
  have W1 : Aside (Below w.heap.size w w1 ∧ Has w1 b5 #[.int .u64 (N : Int), .slice a n ca, .slice x m cx] 26 ∧ w.heap.size = b5) := ⟨hb1, hB1, hb5⟩
  clear hFl hzl hcl hN hl hc hL hx hcx hF hmx hn hm hnl hT hX h0 hb1 hB1
  go_enter Tryz.func3, Tryz.ntmps3
  go_upto_region 3 with fail
  clear e1 hb5 i1 i2 i3
  go_wp2_with fail
  refine cg.mono ?_
  rintro e w2 ⟨g1, q1, g2, q2, rfl, G⟩
  clear cg x0 x1 x2
  have hb2 : Below w.heap.size w w2 := W1.out.1.trans (G.below.mono W1.out.1.size)
  have cr := row10_ok al nl cl (by have := HA.out; omega) HA.out.2.2.2.2.2.2.2.2 lv w2 (HW.out.2.2.1.below hb2)
  have W2 : Aside (Below w.heap.size w w2 ∧ Has w2 b5 #[.int .u64 (N : Int), .slice a n ca, .slice x m cx] 26 ∧ GIVM w1 w2 g1 n q1 L g2 m q2 l ∧ w.heap.size = b5) := ⟨hb2, W1.out.2.1.keep G.below, G, W1.out.2.2⟩
  clear G hb2
  go_wp2_with fail
  refine cr.mono ?_
  rintro e w3 ⟨gr, qr, rfl, r1, r2, r3, r4, r5⟩
  clear cr
  have hb3 : Below w.heap.size w w3 := W2.out.1.trans (r5.mono W2.out.1.size)
  have hB3 := W2.out.2.1.keep r5
  have W3 : Aside (Below w.heap.size w w3 ∧ Has w3 b5 #[.int .u64 (N : Int), .slice a n ca, .slice x m cx] 26 ∧ w3.ownsRow w2.heap.size 38 32 (.slice (some ⟨gr, 0, none⟩) nl qr) nl (CELLS lv) ∧ nl + 1 ≤ qr ∧ w3.rangeAt gr (nl * 32) (CELLS MRK) ∧ gr < w3.heap.size ∧ Below w2.heap.size w2 w3) := ⟨hb3, hB3, r1, r2, r3, r4, r5⟩
  clear r1 r2 r3 r4 r5 hb3 hB3
  go_upto_region 4 with fail
  obtain ⟨w4, e4⟩ : ∃ w4, w3.alloc (.cells #[.int .u64 (N : Int), .slice (some ⟨g1, 0, none⟩) n q1, .slice (some ⟨g2, 0, none⟩) m q2] 26) = w4 := ⟨_, rfl⟩
  have hb4 : Below w3.heap.size w3 w4 := by rw [← e4]; exact (Below.refl _ _).alloc (Nat.le_refl _) _
  have hB7 : Has w4 w3.heap.size #[.int .u64 (N : Int), .slice (some ⟨g1, 0, none⟩) n q1, .slice (some ⟨g2, 0, none⟩) m q2] 26 := by rw [← e4]; exact Has.new _ _ _
  rw [e4]
  have hkb : ∀ {W : World}, Below w4.heap.size w4 W → Below w3.heap.size w3 W := fun h => hb4.trans (h.mono hb4.size)
  have hwb : ∀ {W : World}, Below w4.heap.size w4 W → Below w.heap.size w W := fun h => W3.out.1.trans ((hkb h).mono W3.out.1.size)
  have FB : Aside (∀ W, Below w4.heap.size w4 W → Has W b5 #[.int .u64 (N : Int), .slice a n ca, .slice x m cx] 26 ∧ Has W w3.heap.size #[.int .u64 (N : Int), .slice (some ⟨g1, 0, none⟩) n q1, .slice (some ⟨g2, 0, none⟩) m q2] 26 ∧ Below w.heap.size w W ∧ Tabled W ∧ HX.Tabled W ∧ 0 < W.heap.size) := fun W h => ⟨W3.out.2.1.keep (hkb h), hB7.keep h, hwb h, HW.out.2.2.2.1.below HW.out.2.2.2.2.2 (hwb h), HW.out.2.2.2.2.1.below (hwb h), by have := (hwb h).size; have := HW.out.2.2.2.2.2; omega⟩
  have FL : Aside (∀ W, Below w4.heap.size w4 W → NUML W a L ∧ Flat W x m l ∧ Flat W al nl lv ∧ NUML W (some ⟨g1, 0, none⟩) L ∧ Flat W (some ⟨g2, 0, none⟩) m l ∧ Flat W (some ⟨gr, 0, none⟩) nl lv ∧ W.cell? ⟨g1, n, none⟩ = some (.int .u64 171) ∧ W.rangeAt g2 (m * 32) (CELLS MRK) ∧ W.rangeAt gr (nl * 32) (CELLS MRK) ∧ g1 < w4.heap.size ∧ g2 < w4.heap.size ∧ gr < w4.heap.size) := fun W h => by
    have G := W2.out.2.2.1
    have h3 := hkb h
    have h2 : Below w2.heap.size w2 W := W3.out.2.2.2.2.2.2.trans (h3.mono W3.out.2.2.2.2.2.2.size)
    have s2 := W3.out.2.2.2.2.2.2.size
    have s3 := hb4.size
    refine ⟨HW.out.1.keep (hwb h), HW.out.2.1.below (hwb h), HW.out.2.2.1.below (hwb h), (own_lies G.own1 HA.out.1).keep h2, (own_flat G.own2 HW.out.2.1.2.2).below h2, (own_flat W3.out.2.2.1 HW.out.2.2.1.2.2).below h3, (h2.cell (p := ⟨g1, n, none⟩) G.lt1).trans G.mark1, fun j v hv => (h2.cell (p := ⟨g2, m * 32 + j, none⟩) G.lt2).trans (G.mark2 j v hv), fun j v hv => (h3.cell (p := ⟨gr, nl * 32 + j, none⟩) W3.out.2.2.2.2.2.1).trans (W3.out.2.2.2.2.1 j v hv), ?_, ?_, ?_⟩
    · have := G.lt1; omega
    · have := G.lt2; omega
    · have := W3.out.2.2.2.2.2.1; omega
  have RM : Aside (n + 1 ≤ q1 ∧ m + 1 ≤ q2 ∧ nl + 1 ≤ qr) := ⟨W2.out.2.2.1.room1, W2.out.2.2.1.room2, W3.out.2.2.2.1⟩
  have HR : Aside ((∀ y ∈ (MCL d L N m nl lv l).2.2, 0 ≤ y ∧ y ≤ 255) ∧ (MCL d L N m nl lv l).2.1 ≤ 64) := ⟨MCL_range ⟨HW.out.2.2.1.1, HW.out.2.2.1.2.2⟩ ⟨HW.out.2.1.1, HW.out.2.1.2.2⟩, MCL_few HA.out.2.2.2.2.2.1⟩
  have CR : Aside (∀ W, Below w4.heap.size w4 W → Calls Tryz.prog 8 #[.int .i64 d, .slice al nl cl, .agg #[.int .u64 (N : Int), .slice a n ca, .slice x m cx]] W (ANSC W (MCL d L N m nl lv l))) := fun W h => by
    have k1 := FL.out W h
    exact refclimb10_ok d L N HA.out.2.2.2.2.2.1 a n ca x m cx al nl cl lv l W HA.out.1 HA.out.2.1 HA.out.2.2.2.2.1 HA.out.2.2.1 k1.1 k1.2.1 HA.out.2.2.2.2.2.2.2.1 k1.2.2.1 HA.out.2.2.2.2.2.2.1
  have CC : Aside (∀ W, Below w4.heap.size w4 W → Calls Tryz.prog 9 #[.int .i64 d, .slice (some ⟨gr, 0, none⟩) nl qr, .agg #[.int .u64 (N : Int), .slice (some ⟨g1, 0, none⟩) n q1, .slice (some ⟨g2, 0, none⟩) m q2]] W (ANSC W (MCL d L N m nl lv l))) := fun W h => by
    have k1 := FL.out W h
    have k2 := FB.out W h
    have hs := h.size
    have hh := HA.out
    have hr := RM.out
    exact manyclimb_ok d L N (some ⟨g1, 0, none⟩) n q1 (some ⟨g2, 0, none⟩) m q2 (some ⟨gr, 0, none⟩) nl qr lv l W hh.1 (by omega) (by omega) (fun e => by cases e) (fun x e => by cases e; exact ⟨by show g1 < _; omega, rfl⟩) (by omega) k1.2.2.2.1 (by omega) (fun x e => by cases e; show g2 < _; omega) k1.2.2.2.2.1 (by omega) (fun x e => by cases e; show gr < _; omega) k1.2.2.2.2.2.1 k2.2.2.2.1 k2.2.2.2.2.1 k2.2.2.2.2.2
  have HS : Aside (L.length = n ∧ n ≤ 200 ∧ m ≤ 200 ∧ nl ≤ 200) := ⟨HA.out.1, HA.out.2.1, HA.out.2.2.1, HA.out.2.2.2.1⟩
  have hz := FB.out w4 (Below.refl _ _)
  have x0 := hz.1.cell 0
  have x1 := hz.1.cell 1
  have x2 := hz.1.cell 2
  have cd := CR.out w4 (Below.refl _ _)
  generalize MCL d L N m nl lv l = A at *
  generalize w3.heap.size = b7 at *
  clear hkb hwb hb4 hB7 W1 W2 W3 HW HA e4 CR hz
  go_wp2_with fail
  refine cd.mono ?_
  rintro e w5 ⟨a9, c9, rfl, o9, hb5⟩
  clear cd x0 x1 x2
  have hz := FB.out w5 hb5
  have x0 := hz.2.1.cell 0
  have x1 := hz.2.1.cell 1
  have x2 := hz.2.1.cell 2
  have cd := CC.out w5 hb5
  have H45 : Aside (w4.heap.size ≤ w5.heap.size) := hb5.size
  have W5 : Aside (Below w4.heap.size w4 w5 ∧ w5.ownsRow w4.heap.size 38 32 (.slice a9 A.2.1 c9) A.2.1 (CELLS A.2.2)) := ⟨hb5, o9⟩
  clear hz hb5 o9
  go_wp2_with fail
  refine cd.mono ?_
  rintro e w6 ⟨a11, c11, rfl, o11, hb6⟩
  clear cd x0 x1 x2
  have hb46 : Below w4.heap.size w4 w6 := W5.out.1.trans (hb6.mono W5.out.1.size)
  have hz := FB.out w6 hb46
  have x0 := hz.2.1.cell 0
  have x1 := hz.2.1.cell 1
  have x2 := hz.2.1.cell 2
  have cd := CC.out w6 hb46
  have W6 : Aside (Below w5.heap.size w5 w6 ∧ w6.ownsRow w5.heap.size 38 32 (.slice a11 A.2.1 c11) A.2.1 (CELLS A.2.2)) := ⟨hb6, o11⟩
  clear hz hb6 o11 hb46 CC
  go_wp2_with fail
  refine cd.mono ?_
  rintro e w7 ⟨a13, c13, rfl, o13, hb7⟩
  clear cd x0 x1 x2
  have hb67 : Below w5.heap.size w5 w7 := W6.out.1.trans (hb7.mono W6.out.1.size)
  have W7 : Aside (Below w4.heap.size w4 w7 ∧ Below w5.heap.size w5 w7 ∧ w7.ownsRow w5.heap.size 38 32 (.slice a11 A.2.1 c11) A.2.1 (CELLS A.2.2) ∧ w7.ownsRow w5.heap.size 38 32 (.slice a13 A.2.1 c13) A.2.1 (CELLS A.2.2) ∧ w7.ownsRow w4.heap.size 38 32 (.slice a9 A.2.1 c9) A.2.1 (CELLS A.2.2) ∧ w5.heap.size ≤ w7.heap.size ∧ (∀ g, (Value.slice a11 A.2.1 c11).ownBlock = some g → (Value.slice a13 A.2.1 c13).ownBlock ≠ some g)) := by
    refine ⟨W5.out.1.trans (hb67.mono W5.out.1.size), hb67, own_hold W6.out.2 fun k e => hb7.block k (W6.out.2.lt k e).2, own_mono o13 W6.out.1.size, own_hold W5.out.2 fun k e => hb67.block k (W5.out.2.lt k e).2, hb67.size, fun g e1 e2 => ?_⟩
    have h1 := (W6.out.2.lt g e1).2
    have h2 := (o13.lt g e2).1
    omega
  clear hb67 hb7 o13 W6 W5
  have cs := samehashes_ok a11 a9 A.2.1 A.2.1 c11 c9 A.2.2 A.2.2 w7 (own_flat W7.out.2.2.1 HR.out.1) (own_flat W7.out.2.2.2.2.1 HR.out.1) (by have := HR.out.2; omega)
  rw [show decide (A.2.2 = A.2.2) = true by simp] at cs
  go_wp2_with fail
  refine cs.mono ?_
  rintro e w8 ⟨rfl, hb8⟩
  clear cs
  have W8 : Aside (Below w4.heap.size w4 w8 ∧ Below w5.heap.size w5 w8 ∧ w8.ownsRow w5.heap.size 38 32 (.slice a11 A.2.1 c11) A.2.1 (CELLS A.2.2) ∧ w8.ownsRow w5.heap.size 38 32 (.slice a13 A.2.1 c13) A.2.1 (CELLS A.2.2) ∧ w8.ownsRow w4.heap.size 38 32 (.slice a9 A.2.1 c9) A.2.1 (CELLS A.2.2) ∧ w5.heap.size ≤ w8.heap.size ∧ (∀ g, (Value.slice a11 A.2.1 c11).ownBlock = some g → (Value.slice a13 A.2.1 c13).ownBlock ≠ some g)) := by
    obtain ⟨z1, z2, z3, z4, z5, z6, z7⟩ := W7.out
    exact ⟨z1.trans (hb8.mono z1.size), z2.trans (hb8.mono z2.size), own_hold z3 fun k e => hb8.block k (z3.lt k e).2, own_hold z4 fun k e => hb8.block k (z4.lt k e).2, own_hold z5 fun k e => hb8.block k (z5.lt k e).2, Nat.le_trans z6 hb8.size, z7⟩
  clear W7 hb8
  have cs := samehashes_ok a13 a9 A.2.1 A.2.1 c13 c9 A.2.2 A.2.2 w8 (own_flat W8.out.2.2.2.1 HR.out.1) (own_flat W8.out.2.2.2.2.1 HR.out.1) (by have := HR.out.2; omega)
  rw [show decide (A.2.2 = A.2.2) = true by simp] at cs
  go_wp2_with fail
  refine cs.mono ?_
  rintro e w9 ⟨rfl, hb9⟩
  clear cs
  have W9 : Aside (Below w4.heap.size w4 w9 ∧ w9.ownsRow w5.heap.size 38 32 (.slice a11 A.2.1 c11) A.2.1 (CELLS A.2.2) ∧ w9.ownsRow w5.heap.size 38 32 (.slice a13 A.2.1 c13) A.2.1 (CELLS A.2.2) ∧ w5.heap.size ≤ w9.heap.size ∧ (∀ g, (Value.slice a11 A.2.1 c11).ownBlock = some g → (Value.slice a13 A.2.1 c13).ownBlock ≠ some g)) := by
    obtain ⟨z1, z2, z3, z4, z5, z6, z7⟩ := W8.out
    exact ⟨z1.trans (hb9.mono z1.size), own_hold z3 fun k e => hb9.block k (z3.lt k e).2, own_hold z4 fun k e => hb9.block k (z4.lt k e).2, Nat.le_trans z6 hb9.size, z7⟩
  have S45 : Aside (w4.heap.size ≤ w5.heap.size) := H45.out
  clear W8 hb9
  have ca2 := apart_ok 0 0 none none a11 a13 0 A.2.1 0 0 c11 c13 w5.heap.size [] [] (CELLS A.2.2) (CELLS A.2.2) w9 W9.out.2.2.2.1 ⟨rfl, .inl ⟨rfl, rfl⟩⟩ ⟨rfl, .inl ⟨rfl, rfl⟩⟩ W9.out.2.1 W9.out.2.2.1 ⟨(fun g e => by cases e), (fun g e => by cases e), (fun g e => by cases e), (fun g e => by cases e), (fun g e => by cases e), W9.out.2.2.2.2⟩ (by omega) (by have := HR.out.2; omega)
  go_wp2_with fail
  refine ca2.mono ?_
  rintro e w10 ⟨rfl, hb10, _⟩
  clear ca2
  have h10 : Below w4.heap.size w4 w10 := W9.out.1.trans (hb10.mono S45.out)
  clear hb10 W9 HR S45 H45
  have cs := stays_ok g1 n q1 a ca L HS.out.1 (by have := HS.out; omega) RM.out.1 w10 (FL.out w10 h10).2.2.2.1 (FL.out w10 h10).1 (by have := (FL.out w10 h10).2.2.2.2.2.2.2.2.2.1; have := h10.size; omega) (FL.out w10 h10).2.2.2.2.2.2.1
  have hz := FB.out w10 h10
  have x1 := hz.1.cell 1
  have x2 := hz.1.cell 2
  have y1 := hz.2.1.cell 1
  have y2 := hz.2.1.cell 2
  have W10 : Aside (Below w4.heap.size w4 w10) := h10
  clear hz h10
  go_wp2_with fail
  refine cs.mono ?_
  rintro e w11 ⟨rfl, hb11⟩
  clear cs x1 x2 y1 y2
  have h11 : Below w4.heap.size w4 w11 := W10.out.trans (hb11.mono W10.out.size)
  have cs := kept10_ok g2 m q2 x cx l (by have := HS.out; omega) RM.out.2.1 w11 (FL.out w11 h11).2.2.2.2.1 (FL.out w11 h11).2.1 (by have := (FL.out w11 h11).2.2.2.2.2.2.2.2.2.2.1; have := h11.size; omega) (FL.out w11 h11).2.2.2.2.2.2.2.1
  have hz := FB.out w11 h11
  have x2 := hz.1.cell 2
  have y2 := hz.2.1.cell 2
  have W11 : Aside (Below w4.heap.size w4 w11) := h11
  clear hz h11 hb11 W10
  go_wp2_with fail
  refine cs.mono ?_
  rintro e w12 ⟨rfl, hb12⟩
  clear cs x2 y2
  have h12 : Below w4.heap.size w4 w12 := W11.out.trans (hb12.mono W11.out.size)
  have cs := kept10_ok gr nl qr al cl lv (by have := HS.out; omega) RM.out.2.2 w12 (FL.out w12 h12).2.2.2.2.2.1 (FL.out w12 h12).2.2.1 (by have := (FL.out w12 h12).2.2.2.2.2.2.2.2.2.2.2; have := h12.size; omega) (FL.out w12 h12).2.2.2.2.2.2.2.2.1
  have W12 : Aside (Below w4.heap.size w4 w12) := h12
  clear h12 hb12 W11
  go_wp2_with fail
  refine cs.mono ?_
  rintro e w13 ⟨rfl, hb13⟩
  clear cs
  have h13 : Below w4.heap.size w4 w13 := W12.out.trans (hb13.mono W12.out.size)
  have hz := FB.out w13 h13
  have cs := awake10_ok w13 hz.2.2.2.1 hz.2.2.2.2.2
  have W13 : Aside (Below w.heap.size w w13) := hz.2.2.1
  clear hz h13 hb13 W12 FB FL RM HS
  go_wp2_with fail
  refine cs.mono ?_
  rintro e w14 ⟨rfl, hb14⟩
  clear cs
  have FN : Aside (Below w.heap.size w w14) := W13.out.trans (hb14.mono W13.out.size)
  clear hb14 W13
  go_wp2_with fail
  go_ret
  exact ⟨rfl, FN.out⟩
/-- the whole walk of the law. -/
theorem manyClimbs_walk (d : Int) (al : Option Addr) (nl cl : Nat) (lv : List Int) (N : Nat) (a : Option Addr) (n ca : Nat) (L : List Nat) (x : Option Addr) (m cx : Nat) (l : List Int) (w : World) (hFl : Flat w al nl lv) (hzl : al = none → cl = 0) (hcl : nl ≤ cl) (hN : N < 2 ^ 64) (hl : L.length = n) (hc : a = none → ca = 0) (hL : NUML w a L) (hx : ∀ x ∈ L, x < 2 ^ 64) (hcx : x = none → cx = 0) (hF : Flat w x m l) (hmx : m ≤ cx) (hT : Tabled w) (hX : HX.Tabled w) (h0 : 0 < w.heap.size) :
    Calls Tryz.prog 3 #[.int .i64 d, .slice al nl cl, .agg #[.int .u64 (N : Int), .slice a n ca, .slice x m cx]] w fun e w' => e = .returned (.bool true) ∧ Below w.heap.size w w' := by
  by_cases h : n ≤ 200 ∧ m ≤ 200 ∧ nl ≤ 200
  · exact climbs_core d al nl cl lv N a n ca L x m cx l w hFl hzl hcl hN hl hc hL hx hcx hF hmx h.1 h.2.1 h.2.2 hT hX h0
  · exact climbs_long d al nl cl N a n ca x m cx w h
end Go.Proofs.YtlicfinmibbpdaaGreatDoor

/- What the card's row gives the walks of layer 3: spots that came in; the table of math/bits. -/
namespace Go.Proofs.YtlicfinmibbpdaaGreatDoor
open Go.ChangeShapes Go.WideShapes Go.ChangeAt Go.WideMaps Go.WideElems Go.RowKit
set_option maxRecDepth 100000

theorem own : ownKnob Tryz.prog.godebug = none := by kernel_rfl
theorem laidOut : laidOutB Tryz.prog = true := by kernel_rfl
theorem gTab : Tryz.prog.globalNamed "math/bits.deBruijn64tab" = some 2 := by kernel_rfl
theorem tTab : (Tryz.prog.globals[2]?).map (·.type) = some 188 := by kernel_rfl
theorem tabData {H : Type} : (Rows.laid_math_bits_deBruijn64tab : DataW H) = .agg (TAB.map fun n => .lit (.int .u8 (n : Nat))) := rfl
end Go.Proofs.YtlicfinmibbpdaaGreatDoor

/- What the card's row gives the walks of layer 7: hashes, lists of hashes, proofs and bytes that came in. -/
namespace Go.Proofs.YtlicfinmibbpdaaGreatDoor
open Go.ChangeShapes Go.WideShapes Go.ChangeAt Go.WideMaps Go.WideElems Go.RowKit Go.Deep
set_option maxRecDepth 100000

/-- one hash, by its cells. -/
theorem open_hash {H : Type} {enc : TypeId × Value → H} {W : World} {fuel : Nat} {cs : List Value} {x : DataW H × List MemPlace} (hf : DataW.trod enc Tryz.prog W 0 (fun _ => true) true fuel 38 cs = some x) : ∃ h : List Int, h.length = 32 ∧ (∀ x ∈ h, 0 ≤ x ∧ x ≤ 255) ∧ cs = CELLS h := by
  obtain ⟨xs, m, rfl, _, hl, hn, hel⟩ := DataW.trod_array Tryz.underlying38 hf
  have c5 : Tryz.prog.cellsOf 5 = 1 := by kernel_rfl
  have c32 : Tryz.prog.cellsOf 38 = 32 := by kernel_rfl
  rw [c32] at hl
  have hx : ∀ i, i < 32 → ∃ k : Int, cs[i]? = some (.int .u8 k) ∧ 0 ≤ k ∧ k ≤ 255 := fun i hi => by
    have h0 := hel i hi
    rw [List.getElem?_eq_getElem (by omega), c5, Nat.mul_one] at h0
    obtain ⟨k, e1, _, e3⟩ := DataW.trod_int Tryz.underlying5 h0
    have hb := bounds_u8 e3
    refine ⟨k, ?_, by omega, by omega⟩
    have := congrArg (fun l => l[0]?) e1
    simpa using this
  have F : ∃ f : Nat → Int, ∀ i, i < 32 → cs[i]? = some (.int .u8 (f i)) ∧ 0 ≤ f i ∧ f i ≤ 255 := by
    refine ⟨fun i => if hi : i < 32 then (hx i hi).choose else 0, fun i hi => ?_⟩
    simp only [hi, dif_pos]
    exact (hx i hi).choose_spec
  obtain ⟨f, hf1⟩ := F
  refine ⟨(List.range 32).map f, by simp, fun x hx => ?_, ?_⟩
  · simp only [List.mem_map, List.mem_range] at hx
    obtain ⟨i, hi, rfl⟩ := hx
    exact (hf1 i hi).2
  · apply List.ext_getElem?
    intro i
    by_cases hi : i < 32
    · rw [(hf1 i hi).1, CELLS_get _ i (by simp; exact hi), List.getD_eq_getElem?_getD, List.getElem?_map, List.getElem?_range hi]
      rfl
    · rw [List.getElem?_eq_none (by omega), List.getElem?_eq_none (by simp [CELLS]; omega)]
/-- a list of hashes that came in. -/
theorem open_flat {H : Type} {enc : TypeId × Value → H} {W : World} {fuel : Nat} {a : Option Addr} {k c : Nat} {x : DataW H × List MemPlace} (hf : DataW.trod enc Tryz.prog W 0 (fun _ => true) true fuel 22 [.slice a k c] = some x) :
    ∃ l : List Int, Flat W a k l ∧ (a = none → c = 0) ∧ k ≤ c := by
  rcases DataW.trod_slice Tryz.underlying22 hf with ⟨h0, _⟩ | ⟨ad, len, cap, elems, rest, n, _, h0, hx, _, hl, hm, hlen, hel, _, _⟩
  · simp at h0
    obtain ⟨rfl, rfl, rfl⟩ := h0
    exact ⟨[], ⟨rfl, fun h => absurd h (by omega), by simp⟩, fun _ => rfl, Nat.le_refl _⟩
  · simp at h0
    obtain ⟨rfl, rfl, rfl⟩ := h0
    have c32 : Tryz.prog.cellsOf 38 = 32 := by kernel_rfl
    have each : ∀ i, i < k → ∃ h : List Int, h.length = 32 ∧ (∀ x ∈ h, 0 ≤ x ∧ x ≤ 255) ∧ ∀ j, j < 32 → W.cell? ((ad.add (i * 32)).add j) = some (.int .u8 (h.getD j 0)) := fun i hi => by
      have h := hel i hi
      rw [List.getElem?_eq_getElem (by omega), c32, Option.bind_eq_some_iff] at h
      obtain ⟨cs, hcs, ht⟩ := h
      obtain ⟨f, h1, h2, rfl⟩ := open_hash ht
      have hs := (World.cells?_some hcs).2.2
      refine ⟨f, h1, h2, fun j hj => ?_⟩
      have s := hs j hj
      rw [s]
      exact CELLS_get f j (by omega)
    have F : ∃ f : Nat → List Int, ∀ i, i < k → (f i).length = 32 ∧ (∀ x ∈ f i, 0 ≤ x ∧ x ≤ 255) ∧ ∀ j, j < 32 → W.cell? ((ad.add (i * 32)).add j) = some (.int .u8 ((f i).getD j 0)) := by
      refine ⟨fun i => if hi : i < k then (each i hi).choose else [], fun i hi => ?_⟩
      simp only [hi, dif_pos]
      exact (each i hi).choose_spec
    obtain ⟨f, hf2⟩ := F
    have hrange : ∀ i, i < k → ∀ j, j < 32 → 0 ≤ (f i).getD j 0 ∧ (f i).getD j 0 ≤ 255 := fun i hi j hj => by
      rw [List.getD_eq_getElem?_getD, List.getElem?_eq_getElem (by rw [(hf2 i hi).1]; exact hj)]
      exact (hf2 i hi).2.1 _ (List.getElem_mem _)
    refine ⟨(List.range (32 * k)).map fun m => (f (m / 32)).getD (m % 32) 0, ⟨by simp, fun h0k => ?_, fun x hx => ?_⟩, (fun e => by cases e), by omega⟩
    · obtain ⟨b, off, spot⟩ := ad
      have hc := (hf2 0 h0k).2.2 0 (by decide)
      have hspot : spot = none := by simpa [Addr.add] using World.cell?_spot hc
      subst hspot
      refine ⟨b, off, rfl, ?_, fun m hm => ?_⟩
      · have := World.block_lt_of_cell? W _ hc
        simpa [Addr.add] using this
      · have h1 := (hf2 (m / 32) (by omega)).2.2 (m % 32) (by omega)
        rw [addr_add, addr_add] at h1
        rw [List.getD_eq_getElem?_getD, List.getElem?_map, List.getElem?_range hm]
        simp only [Option.map_some, Option.getD_some]
        rw [← h1]
        congr 2
        omega
    · simp only [List.mem_map, List.mem_range] at hx
      obtain ⟨m, hm, rfl⟩ := hx
      exact hrange _ (by omega) _ (by omega)
/-- a list of hashes, as an argument. -/
theorem open_list {H : Type} {enc : TypeId × Value → H} {W : World} {a : Option Addr} {k c : Nat} {d : DataW H} {ps : List MemPlace} (hd : DataW.Trod enc Tryz.prog W 0 (fun _ => true) true 22 (.slice a k c) d ps) : ∃ l : List Int, Flat W a k l ∧ (a = none → c = 0) ∧ k ≤ c := by
  obtain ⟨fuel, hf⟩ := hd
  exact open_flat (by simpa [Value.cells] using hf)
end Go.Proofs.YtlicfinmibbpdaaGreatDoor

/- What the card's row gives the walks: arrays and slices of bytes that came in; the two tables. -/
namespace Go.Proofs.YtlicfinmibbpdaaGreatDoor.HX
set_option maxRecDepth 100000
open Go.ChangeShapes Go.WideShapes Go.ChangeAt Go.WideMaps Go.WideElems Go.RowKit

theorem own : ownKnob Tryz.prog.godebug = none := by kernel_rfl
theorem laidOut : laidOutB Tryz.prog = true := by kernel_rfl
theorem gRounds : Tryz.prog.globalNamed "massif/hash.rounds" = some 1 := by kernel_rfl
theorem gBegin : Tryz.prog.globalNamed "massif/hash.begin" = some 0 := by kernel_rfl
theorem tRounds : (Tryz.prog.globals[1]?).map (·.type) = some 206 := by kernel_rfl
theorem tBegin : (Tryz.prog.globals[0]?).map (·.type) = some 204 := by kernel_rfl
theorem roundsData {H : Type} : (Rows.laid_massif_hash_rounds : DataW H) = .agg (KLIST.map fun n => .lit (.int .u32 (n : Nat))) := rfl
theorem beginData {H : Type} : (Rows.laid_massif_hash_begin : DataW H) = .agg (BEGIN.map fun n => .lit (.int .u32 (n : Nat))) := rfl

theorem table_at {H : Type} {enc : TypeId × Value → H} {W : World} {base fuel n : Nat} {sp : Nat → Bool} {held : Bool} {t : TypeId} {cs : List Value} {ps : List MemPlace} (L : List Nat) (hL : L.length = n) (ht : Tryz.prog.underlying t = some (.array n 203))
    (hd : DataW.trod enc Tryz.prog W base sp held fuel t cs = some (.agg (L.map fun n => .lit (.int .u32 (n : Nat))), ps)) (i : Nat) (hi : i < n) : cs[i]? = some (.int .u32 (L.getD i 0 : Nat)) := by
  obtain ⟨xs, m1, rfl, hx1, hlen, hn, hel⟩ := DataW.trod_array ht hd
  have c5 : Tryz.prog.cellsOf 203 = 1 := by kernel_rfl
  simp only [Prod.mk.injEq, DataW.agg.injEq] at hx1
  have hx := hx1.1
  have h0 := hel i hi
  have hi' : i < xs.length := by omega
  rw [List.getElem?_eq_getElem hi', c5, Nat.mul_one] at h0
  obtain ⟨k, e1, e2, _⟩ := DataW.trod_int Tryz.underlying203 h0
  have hk : (k : Int) = ((L.getD i 0 : Nat) : Int) := by
    have hz := congrArg (fun l => l[i]?) hx
    have hT : i < L.length := by omega
    simp only [List.getElem?_map, List.getElem?_eq_getElem hi', List.getElem?_eq_getElem hT, Option.map_some, e2] at hz
    simp at hz
    rw [List.getD_eq_getElem?_getD, List.getElem?_eq_getElem hT]
    simpa using hz.symm
  rw [← hk]
  have := congrArg (fun l => l[0]?) e1
  simpa using this
end Go.Proofs.YtlicfinmibbpdaaGreatDoor.HX

/- What the card's row gives a walk of chapter 8: the three tables. -/
namespace Go.Proofs.YtlicfinmibbpdaaGreatDoor
open Go.ChangeShapes Go.WideShapes Go.ChangeAt Go.WideMaps Go.WideElems Go.RowKit
set_option maxRecDepth 100000

theorem of_laid3 {W : World} (h : laidMetH Tryz.prog [("math/bits.deBruijn64tab", Rows.laid_math_bits_deBruijn64tab), ("massif/hash.begin", Rows.laid_massif_hash_begin), ("massif/hash.rounds", Rows.laid_massif_hash_rounds)] W) : Tabled W ∧ HX.Tabled W ∧ 2 < W.heap.size := by
  rw [MakeChecks.laidMetH_plain _ _ _ (by kernel_rfl)] at h
  obtain ⟨ps, ⟨g0, t0, cs0, f0, p0, q0, hg0, ht0, hv0, hd0, ⟨g1, t1, cs1, f1, p1, q1, hg1, ht1, hv1, hd1, ⟨g2, t2, cs2, f2, p2, q2, hg2, ht2, hv2, hd2, _, _⟩, _⟩, _⟩, _, _⟩ := h
  obtain rfl := Option.some.inj (gTab.symm.trans hg0)
  obtain rfl := Option.some.inj (tTab.symm.trans ht0)
  obtain rfl := Option.some.inj (HX.gBegin.symm.trans hg1)
  obtain rfl := Option.some.inj (HX.tBegin.symm.trans ht1)
  obtain rfl := Option.some.inj (HX.gRounds.symm.trans hg2)
  obtain rfl := Option.some.inj (HX.tRounds.symm.trans ht2)
  rw [HX.beginData] at hd1
  rw [HX.roundsData] at hd2
  have A : ∀ i, i < 8 → W.cell? ⟨0, i, none⟩ = some (.int .u32 (HX.BEGIN.getD i 0 : Nat)) := fun i hi => (World.var?_cell hg1 hv1 i).trans (Array.getElem?_toList.symm.trans (HX.table_at HX.BEGIN rfl Tryz.underlying204 hd1 i hi))
  have B : ∀ i, i < 64 → W.cell? ⟨1, i, none⟩ = some (.int .u32 (HX.KC i : Nat)) := fun i hi => (World.var?_cell hg2 hv2 i).trans (Array.getElem?_toList.symm.trans (HX.table_at HX.KLIST rfl Tryz.underlying206 hd2 i hi))
  obtain ⟨xs, m1, rfl, hx1, hlen, hn, hel⟩ := DataW.trod_array Tryz.underlying188 hd0
  have c5 : Tryz.prog.cellsOf 5 = 1 := by kernel_rfl
  simp only [Prod.mk.injEq] at hx1
  have hx := hx1.1
  rw [tabData] at hx
  simp only [DataW.agg.injEq] at hx
  have T : Tabled W := fun i hi => by
    have h0 := hel i hi
    have hi' : i < xs.length := by omega
    rw [List.getElem?_eq_getElem hi', c5, Nat.mul_one] at h0
    obtain ⟨k, e1, e2, _⟩ := DataW.trod_int Tryz.underlying5 h0
    have hk : (k : Int) = ((TAB.getD i 0 : Nat) : Int) := by
      have hz := congrArg (fun l => l[i]?) hx
      have hT : i < TAB.length := hi
      simp only [List.getElem?_map, List.getElem?_eq_getElem hi', List.getElem?_eq_getElem hT, Option.map_some, e2] at hz
      simp at hz
      rw [List.getD_eq_getElem?_getD, List.getElem?_eq_getElem hT]
      simpa using hz.symm
    have hv := World.var?_cell hg0 hv0 i
    rw [hv, ← hk]
    have := congrArg (fun l => l[0]?) e1
    simp at this
    simpa using this
  have z0 : 2 < W.heap.size := World.block_lt_of_cell? W _ (T 0 (by decide))
  have z1 : 0 < W.heap.size := World.block_lt_of_cell? W _ (A 0 (by decide))
  have z2 : 1 < W.heap.size := World.block_lt_of_cell? W _ (B 0 (by decide))
  exact ⟨T, ⟨B, A, by omega⟩, by omega⟩
end Go.Proofs.YtlicfinmibbpdaaGreatDoor

/- What the card's row gives the walks of layer 10: a list of numbers that came in. -/
namespace Go.Proofs.YtlicfinmibbpdaaGreatDoor
open Go.ChangeShapes Go.WideShapes Go.ChangeAt Go.WideMaps Go.WideElems Go.RowKit
set_option maxRecDepth 100000

theorem open_nums {H : Type} {enc : TypeId × Value → H} {W : World} {a : Option Addr} {len cap : Nat} {d : DataW H} {ps : List MemPlace} (hd : DataW.Trod enc Tryz.prog W 0 (fun _ => true) true 24 (.slice a len cap) d ps) :
    ∃ L : List Nat, L.length = len ∧ (a = none → cap = 0) ∧ NUML W a L ∧ (∀ x ∈ L, x < 2 ^ 64) ∧ len ≤ cap := by
  obtain ⟨fuel, hf⟩ := hd
  rcases open_ints Tryz.underlying24 Tryz.underlying23 (by kernel_rfl) hf with ⟨hcs, _⟩ | ⟨x, l, c, zs, hcs, _, hl, hm, hz, hx, hcell, hwz⟩
  · simp [Value.cells] at hcs
    obtain ⟨rfl, rfl, rfl⟩ := hcs
    exact ⟨[], rfl, fun _ => rfl, fun h => by simp at h, by simp, Nat.le_refl _⟩
  · simp [Value.cells] at hcs
    obtain ⟨rfl, rfl, rfl⟩ := hcs
    have hzl : zs.length = cap := by simpa using hz
    refine ⟨(zs.take len).map Int.toNat, by simp; omega, (fun h => by cases h), fun h0 => ?_, fun y hy => ?_, by omega⟩
    · have hn : 0 < len := by simp at h0; omega
      obtain ⟨b, off, spot⟩ := x
      have hc := hcell 0 (by omega)
      have hspot : spot = none := by simpa [Addr.add] using World.cell?_spot hc
      subst hspot
      refine ⟨b, off, rfl, block_lt_of_cell (by simpa [Addr.add] using hc), fun i y hy => ?_⟩
      have hi : i < len := by
        have := (List.getElem?_eq_some_iff.1 hy).1
        simp at this
        omega
      have hcl := hcell i (by omega)
      rw [show (⟨b, off, none⟩ : Addr).add i = ⟨b, off + i, none⟩ by unfold Addr.add; split <;> simp_all] at hcl
      rw [hcl]
      rw [List.getElem?_map, List.getElem?_take, if_pos hi, List.getElem?_eq_getElem (by omega)] at hy
      simp only [Option.map_some, Option.some.injEq] at hy
      have hw := wf_u64 (hwz zs[i] (List.getElem_mem _))
      rw [List.getD_eq_getElem?_getD, List.getElem?_eq_getElem (by omega)]
      simp only [Option.getD_some]
      rw [← hy, Int.toNat_of_nonneg (by omega)]
    · obtain ⟨z, hz1, rfl⟩ := List.mem_map.1 hy
      have hw := wf_u64 (hwz z (List.mem_of_mem_take hz1))
      omega
end Go.Proofs.YtlicfinmibbpdaaGreatDoor

/- What the card's row gives the walks of layer 10: a proof of many leaves that came in. -/
namespace Go.Proofs.YtlicfinmibbpdaaGreatDoor
open Go.ChangeShapes Go.WideShapes Go.ChangeAt Go.WideMaps Go.WideElems Go.RowKit Go.Deep
set_option maxRecDepth 100000

theorem under_many : ∃ f0 f1 f2 : Field, Tryz.prog.underlying 26 = some (.struct #[f0, f1, f2]) ∧ f0.type = 23 ∧ f0.offset = 0 ∧ f1.type = 24 ∧ f1.offset = 1 ∧ f2.type = 22 ∧ f2.offset = 2 := ⟨_, _, _, Tryz.underlying26, rfl, rfl, rfl, rfl, rfl, rfl⟩
theorem cells_many : Tryz.prog.cellsOf 26 = 3 := by kernel_rfl
theorem open_many2 {H : Type} {enc : TypeId × Value → H} {W : World} {r : Reach} {b0 : Nat} {v : Value} {d : DataW H} {ps : List MemPlace}
    (hval : Value.okWide Tryz.prog W r b0 26 v) (hd : DataW.Trod enc Tryz.prog W 0 (fun _ => true) true 26 v d ps) : ∃ (X : Nat) (a : Option Addr) (n c : Nat) (L : List Nat) (x : Option Addr) (m cx : Nat) (l : List Int), X < 2 ^ 64 ∧ v = .agg #[.int .u64 (X : Int), .slice a n c, .slice x m cx] ∧ L.length = n ∧ (a = none → c = 0) ∧ NUML W a L ∧ (∀ y ∈ L, y < 2 ^ 64) ∧ (x = none → cx = 0) ∧ Flat W x m l ∧ m ≤ cx := by
  obtain ⟨f0, f1, f2, hu, t0, o0, t1, o1, t2, o2⟩ := under_many
  simp only [Value.okWide, hu] at hval
  obtain ⟨cs, rfl, hsz, _⟩ := hval
  obtain ⟨fuel, hf⟩ := hd
  obtain ⟨y0, y1, y2, m, _, hl, h0, h1, h2⟩ := trod_struct3 hu hf
  rw [cells_many] at hsz
  obtain ⟨x, y, z, rfl⟩ : ∃ x y z, cs = #[x, y, z] := by
    obtain ⟨l⟩ := cs
    match l, hsz with
    | [x, y, z], _ => exact ⟨x, y, z, rfl⟩
  have c1 : Tryz.prog.cellsOf 23 = 1 := by kernel_rfl
  have c2 : Tryz.prog.cellsOf 22 = 1 := by kernel_rfl
  have c3 : Tryz.prog.cellsOf 24 = 1 := by kernel_rfl
  rw [t0, o0, c1] at h0
  rw [t1, o1, c3] at h1
  rw [t2, o2, c2] at h2
  simp [Value.cells] at h0 h1 h2
  obtain ⟨a, e1, _, e3⟩ := DataW.trod_int Tryz.underlying23 h0
  have ha := wf_u64 e3
  simp at e1
  subst e1
  obtain ⟨ad, k, c, rfl⟩ : ∃ ad k c, z = .slice ad k c := by
    rcases DataW.trod_slice Tryz.underlying22 h2 with ⟨h0, _⟩ | ⟨ad, len, cap, elems, rest, n, _, h0, _⟩
    · simp at h0
      exact ⟨_, _, _, h0⟩
    · simp at h0
      exact ⟨_, _, _, h0⟩
  obtain ⟨ay, ky, cy, rfl⟩ : ∃ ad k c, y = .slice ad k c := by
    rcases DataW.trod_slice Tryz.underlying24 h1 with ⟨h0, _⟩ | ⟨ad, len, cap, elems, rest, n, _, h0, _⟩
    · simp at h0
      exact ⟨_, _, _, h0⟩
    · simp at h0
      exact ⟨_, _, _, h0⟩
  obtain ⟨l, g1, g2, g3⟩ := open_flat h2
  obtain ⟨L, q1, q2, q3, q4, q5⟩ := open_nums (enc := enc) (W := W) (a := ay) (len := ky) (cap := cy) ⟨_, by simpa [Value.cells] using h1⟩
  refine ⟨a.toNat, ay, ky, cy, L, ad, k, c, l, by omega, ?_, q1, q2, q3, q4, g2, g1, g3⟩
  rw [Int.toNat_of_nonneg (by omega)]
end Go.Proofs.YtlicfinmibbpdaaGreatDoor
