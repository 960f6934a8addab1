/- Texts of MmrGrows, one behind the other: MmrRefGrowWalk, MmrMarked, MmrMarks. -/
import Derived.Test.YtdmbmphdiaepdaaGreatDoorMmrGrowsP27
import Derived.Test.YtdmbmphdiaepdaaGreatDoorMmrGrowsP35
/- The walk of massifref6.Grow. -/
namespace Go.Proofs.YtdmbmphdiaepdaaGreatDoor.HX
open Go.RowKit
set_option maxRecDepth 100000

theorem refgrow_not (d : Int) (a : Option Addr) (n c : Nat) (hn : n ≤ 200) (hp : POP n ≠ 1) (w : World) : Calls Tryz.prog 11 #[.int .i64 d, .slice a n c] w fun e w' => e = .returned (.tuple #[.slice none 0 0, .int .i64 70]) ∧ w = w' := by
  have co := perfect_not n hn hp w
  clear hn hp
  go_enter Tryz.func11, Tryz.ntmps11
  go_wp2_with fail
  refine co.mono ?_
  rintro e w' ⟨rfl, rfl⟩
  clear co
  go_wp2
  go_ret2
  exact ⟨rfl, rfl⟩
/-- what Grow answers of 2^H leaves. -/
structure RGRN (w w' : World) (d : Int) (H : Nat) (v : Value) (l : List (Nat → Nat)) (f : Nat → Nat → Nat) : Prop where
  own : w'.ownsRow w.heap.size 26 32 v (2 * 2 ^ H - 1) (HL l)
  perf : PERF d H f l
  below : Below w.heap.size w w'
set_option maxHeartbeats 2000000 in
theorem refgrow_one (d : Int) (a : Option Addr) (c : Nat) (hs : Nat → Nat → Nat) (w : World) (hH : HASHES w a 1 hs) : Calls Tryz.prog 11 #[.int .i64 d, .slice a 1 c] w fun e w' => ∃ v l, e = .returned (.tuple #[v, .int .i64 0]) ∧ RGRN w w' d 0 v l hs := by
  have cp := perfect_yes 0 (by decide) w
  obtain ⟨b, o, rfl, hb, hr⟩ := hH (by decide)
  have h0 : w.rangeAt b o (ULIST .u8 32 (hs 0)) := by have := hr 0 (by decide); rwa [Nat.zero_mul, Nat.add_zero] at this
  clear hr hH
  go_enter Tryz.func11, Tryz.ntmps11
  go_wp2_with fail
  refine cp.mono ?_
  rintro e w' ⟨rfl, rfl⟩
  clear cp
  go_wp2_with (first
    | (refine wpList_load_mid rfl 26 (.tmp 20) rfl b o rfl (ULIST .u8 32 (hs 0)) _ h0 Tryz.underlying26 rfl (by rw [ULIST_length]; exact info_hash) ?_; rw [← UARR_list])
    | (refine build_hash _ rfl (.tmp 21) rfl (hs 0) rfl ?_))
  go_ret2
  refine ⟨_, [hs 0], rfl, ⟨?_, PERF.one d hs, (Below.refl _ _).alloc (Nat.le_refl _) _⟩⟩
  refine ⟨by simp [HL, ULIST_length], .inr ⟨w.heap.size, 1, UARR .u8 32 (hs 0), rfl, Nat.le_refl _, Has.new w _ _, by decide, by decide, by rw [UARR_size], ?_⟩⟩
  rw [UARR_list]
  rw [List.take_of_length_le (by simp [ULIST_length])]
  simp [HL]
theorem FSTS_list {l : List (Nat → Nat)} {K : Nat} (h : l.length = K) : FSTS (fun i => l.getD i fun _ => 0) K = l := by
  apply List.ext_getElem?
  intro i
  unfold FSTS
  by_cases hi : i < K
  · rw [List.getElem?_map, List.getElem?_range hi, Option.map_some, List.getD_eq_getElem?_getD, List.getElem?_eq_getElem (by omega)]
    rfl
  · rw [List.getElem?_eq_none (by simp; omega), List.getElem?_eq_none (by omega)]
theorem HL_apps (l k : List (Nat → Nat)) : HL (l ++ k) = HL l ++ HL k := by simp [HL]
theorem own_zeroed' {w : World} {B n : Nat} {v : Value} {l : List (Nat → Nat)} (h : w.ownsRow B 26 32 v n (HL l)) (hl : l.length = n) : ∃ a c, v = .slice a n c ∧ (0 < n → ∃ gp, a = some ⟨gp, 0, none⟩ ∧ gp < w.heap.size ∧ ∀ i, i < n → w.rangeAt gp (i * 32) (ULIST .u8 32 (l.getD i fun _ => 0))) := by
  obtain ⟨a, c, rfl, hH⟩ := own_hashes h hl
  refine ⟨a, c, rfl, fun hn => ?_⟩
  rcases h.2 with ⟨e, h0⟩ | ⟨g, cap, cur, e, _, hg, _⟩
  · omega
  · simp only [Value.slice.injEq] at e
    obtain ⟨rfl, _, rfl⟩ := e
    obtain ⟨b, o, e2, hl2, hr⟩ := hH hn
    cases e2
    exact ⟨g, rfl, hl2, fun i hi => by have := hr i hi; rwa [Nat.zero_add] at this⟩
theorem half_int {n M : Nat} (h : n = 2 * M) : (n : Int).tdiv 2 = (M : Int) := by
  rw [Int.tdiv_eq_ediv_of_nonneg (by omega)]
  omega
set_option maxHeartbeats 4000000 in
theorem refgrow_ok (d : Int) : ∀ (H : Nat), H ≤ 7 → ∀ (a : Option Addr) (c : Nat) (hs : Nat → Nat → Nat) (w : World), 2 ^ H ≤ c → HASHES w a (2 ^ H) hs → (∀ i, i < 2 ^ H → ∀ j, hs i j < 256) → Calls Tryz.prog 11 #[.int .i64 d, .slice a (2 ^ H) c] w fun e w' => ∃ v l, e = .returned (.tuple #[v, .int .i64 0]) ∧ RGRN w w' d H v l hs
  | 0, _, a, c, hs, w, _, hH, _ => by
    have h := refgrow_one d a c hs w hH
    exact h
  | H + 1, hh, a, c, hs, w, hc, hH, h8 => by
    have cp := perfect_yes (H + 1) hh w
    have hs1 : 2 ^ (H + 1) = 2 * 2 ^ H := by rw [Nat.pow_succ]; omega
    have hM0 := Nat.two_pow_pos H
    have hM7 : 2 ^ H ≤ 2 ^ 6 := Nat.pow_le_pow_right (by decide) (by omega)
    obtain ⟨b, o, rfl, hb, hr⟩ := hH (by omega)
    have IH : Aside (∀ (a : Option Addr) (c : Nat) (hs : Nat → Nat → Nat) (w : World), 2 ^ H ≤ c → HASHES w a (2 ^ H) hs → (∀ i, i < 2 ^ H → ∀ j, hs i j < 256) → Calls Tryz.prog 11 #[.int .i64 d, .slice a (2 ^ H) c] w fun e w' => ∃ v l, e = .returned (.tuple #[v, .int .i64 0]) ∧ RGRN w w' d H v l hs) := refgrow_ok d H (by omega)
    obtain ⟨M, hM⟩ : ∃ M, 2 ^ H = M := ⟨_, rfl⟩
    obtain ⟨n, hn⟩ : ∃ n, 2 ^ (H + 1) = n := ⟨_, rfl⟩
    rw [hM] at hs1 hM0 hM7 IH
    rw [hn] at cp hs1 hc hr h8 ⊢
    have hn1 : ((n : Int) == 1) = false := beq_eq_false_iff_ne.2 (by omega)
    have hq : (n : Int).tdiv 2 = (M : Int) := half_int hs1
    have hq2 : wrap64 (M : Int) = (M : Int) := by unfold wrap64; omega
    have k1 : (M : Int) ≤ (c : Int) := by omega
    have k2 : (M : Int) ≤ (n : Int) := by omega
    have k3 : (0 : Int) ≤ (M : Int) := by omega
    have k4 : ¬ c = M := by omega
    have k5 : n - M = M := by omega
    have HA : Aside (n = 2 * M ∧ 0 < M ∧ M ≤ 64 ∧ n ≤ c ∧ 2 ^ H = M ∧ (∀ i, i < n → w.rangeAt b (o + i * 32) (ULIST .u8 32 (hs i))) ∧ b < w.heap.size ∧ (∀ i, i < n → ∀ j, hs i j < 256)) := ⟨hs1, hM0, by omega, hc, hM, hr, hb, h8⟩
    have HM : Aside (n = 2 * M ∧ 0 < M ∧ M ≤ 64 ∧ n ≤ c) := ⟨hs1, hM0, by omega, hc⟩
    have cl := IH.out (some ⟨b, o, none⟩) c hs w (by omega) (fun _ => ⟨b, o, rfl, hb, fun i hi => hr i (by omega)⟩) (fun i hi => h8 i (by omega))
    clear hs1 hM0 hM7 hM hn hr hb h8 hc hH
    go_enter Tryz.func11, Tryz.ntmps11
    go_wp2_with fail
    refine cp.mono ?_
    rintro e w' ⟨rfl, rfl⟩
    clear cp
    go_wp2_with fail
    refine cl.mono ?_
    rintro e w1 ⟨v1, l1, rfl, g1⟩
    clear cl
    have hl1 := g1.perf.len
    rw [HA.out.2.2.2.2.1] at hl1
    have G1 : Aside (RGRN w w1 d H v1 l1 hs) := g1
    have cr := IH.out (some ⟨b, o + M * 32, none⟩) (c - M) (SHF H hs) w1 (by have := HM.out; omega) (fun _ => ⟨b, o + M * 32, rfl, Nat.lt_of_lt_of_le HA.out.2.2.2.2.2.2.1 g1.below.size, fun i hi => by
      have h1 := range_below (HA.out.2.2.2.2.2.1 (M + i) (by have := HA.out.1; omega)) g1.below HA.out.2.2.2.2.2.2.1
      rw [show o + M * 32 + i * 32 = o + (M + i) * 32 by omega]
      unfold SHF
      rw [HA.out.2.2.2.2.1]
      exact h1⟩) (fun i hi => by unfold SHF; rw [HA.out.2.2.2.2.1]; exact HA.out.2.2.2.2.2.2.2 (M + i) (by have := HA.out.1; omega))
    clear g1 hl1
    go_wp2_with fail
    refine cr.mono ?_
    rintro e w2 ⟨v2, l2, rfl, g2⟩
    clear cr hq hq2 k1 k2 k3 k4 k5 hn1
    obtain ⟨K, hK⟩ : ∃ K, 2 * M - 1 = K := ⟨_, rfl⟩
    have hKM : 2 * 2 ^ H - 1 = K := by rw [HA.out.2.2.2.2.1]; exact hK
    have hK0 : 0 < K := by have := HM.out; clear hKM; omega
    obtain ⟨q, hq⟩ : ∃ q, 2 * M - 2 = q := ⟨_, rfl⟩
    have hlast : K = q + 1 := by have := HM.out; clear hKM; omega
    have hK2 : K ≤ 200 := by have := HM.out; clear hKM; omega
    have hKK : K + K + 1 = 2 * (2 * M) - 1 := by have := HM.out; clear hKM; omega
    have o1 := G1.out.own
    have o2 := g2.own
    have n1 := G1.out.perf.len
    have n2 := g2.perf.len
    rw [hKM] at o1 o2 n1 n2
    obtain ⟨a1, c1, rfl, z1⟩ := own_zeroed' o1 n1
    obtain ⟨a2, c2, rfl, z2⟩ := own_zeroed' o2 n2
    obtain ⟨gl, rfl, y1, y2⟩ := z1 hK0
    obtain ⟨gr, rfl, y3, y4⟩ := z2 hK0
    have p1 := G1.out.perf.last
    have p2 := g2.perf.last
    rw [HA.out.2.2.2.2.1, hq] at p1 p2
    have x1 := own_at o1 n1 p1
    have x2 := own_at o2 n2 p2
    have r1 : HASHES w1 (some ⟨gl, 0, none⟩) K (fun i => l1.getD i fun _ => 0) := fun _ => ⟨gl, 0, rfl, y1, fun i hi => by rw [Nat.zero_add]; exact y2 i hi⟩
    have r2 : HASHES w2 (some ⟨gr, 0, none⟩) K (fun i => l2.getD i fun _ => 0) := fun _ => ⟨gr, 0, rfl, y3, fun i hi => by rw [Nat.zero_add]; exact y4 i hi⟩
    have P1 : Aside (Below w.heap.size w w2 ∧ w1.heap.size ≤ w2.heap.size ∧ HASHES w2 (some ⟨gl, 0, none⟩) K (fun i => l1.getD i fun _ => 0) ∧ HASHES w2 (some ⟨gr, 0, none⟩) K (fun i => l2.getD i fun _ => 0) ∧ w2.rangeAt gl (q * 32) (ULIST .u8 32 (VAL d hs H 0)) ∧ w2.rangeAt gr (q * 32) (ULIST .u8 32 (VAL d (SHF H hs) H 0)) ∧ gl < w2.heap.size ∧ gr < w2.heap.size ∧ FSTS (fun i => l1.getD i fun _ => 0) K = l1 ∧ FSTS (fun i => l2.getD i fun _ => 0) K = l2 ∧ K ≤ 200 ∧ K = q + 1 ∧ K + K + 1 = 2 * 2 ^ (H + 1) - 1) := by
      refine ⟨G1.out.below.trans (g2.below.mono G1.out.below.size), g2.below.size, r1.below g2.below, r2, range_below x1 g2.below y1, x2, Nat.lt_of_lt_of_le y1 g2.below.size, y3, FSTS_list n1, FSTS_list n2, hK2, hlast, ?_⟩
      rw [Nat.pow_succ, HA.out.2.2.2.2.1, Nat.mul_comm M 2]
      exact hKK
    have PJ : Aside (PERF d (H + 1) hs (l1 ++ l2 ++ [NODEF d (VAL d hs H 0) (VAL d (SHF H hs) H 0)])) := G1.out.perf.join g2.perf
    have V8 : Aside ((∀ i, VAL d hs H 0 i < 256) ∧ ∀ i, VAL d (SHF H hs) H 0 i < 256) := by
      refine ⟨fun i => VAL_lt (n := 2 ^ H) (fun k hk => HA.out.2.2.2.2.2.2.2 k (by rw [HA.out.2.2.2.2.1] at hk; have := HM.out.1; omega)) H 0 (by omega) i, fun i => VAL_lt (n := 2 ^ H) (fun k hk t => ?_) H 0 (by omega) i⟩
      unfold SHF
      rw [HA.out.2.2.2.2.1] at hk ⊢
      exact HA.out.2.2.2.2.2.2.2 (M + k) (by have := HM.out; omega) t
    clear o1 o2 n1 n2 z1 z2 y1 y2 y3 y4 hlast hK0 hK2 hKK p1 p2 x1 x2 r1 r2 hK hKM G1 g2 IH hq hh
    generalize hX : VAL d hs H 0 = X at *
    generalize hY : VAL d (SHF H hs) H 0 = Y at *
    clear hX hY
    go_wp2_with (first
      | (at_builtin; refine app_hashesf _ rfl (.tmp 42) (.tmp 43) rfl w2.heap.size (.slice (some ⟨w2.heap.size, 0, none⟩) 0 0) 0 [] rfl (own_emptyh w2) (some ⟨gl, 0, none⟩) K c1 _ rfl (P1.out.2.2.1.below ((Below.refl _ _).alloc (Nat.le_refl _) _)) (fun h => by cases h) (fun h => by cases h) (by have := P1.out.2.2.2.2.2.2.2.2.2.2.1; omega) (by simp) ?_; rw [Nat.zero_add, List.nil_append]; intro a3 c3 w3 hown1 hgrow1
         have R1 : Aside (w3.ownsRow w2.heap.size 26 32 (.slice a3 K c3) K (HL l1) ∧ Below w2.heap.size w2 w3) := ⟨by rw [P1.out.2.2.2.2.2.2.2.2.1] at hown1; exact hown1, ((Below.refl _ w2).alloc (Nat.le_refl _) _).grown hgrow1 (by simp) (fun k e => by cases e; exact Nat.le_refl _)⟩
         clear hown1 hgrow1)
      | (at_builtin; refine app_hashesf _ rfl (.tmp 45) (.tmp 46) rfl w2.heap.size (.slice a3 K c3) K (HL l1) rfl R1.out.1 (some ⟨gr, 0, none⟩) K c2 _ rfl (P1.out.2.2.2.1.below R1.out.2) (fun h => by cases h) (fun h => by cases h) (by have := P1.out.2.2.2.2.2.2.2.2.2.2.1; omega) R1.out.2.size ?_; intro a4 c4 w4 hown2 hgrow2
         have R2 : Aside (w4.ownsRow w2.heap.size 26 32 (.slice a4 (K + K) c4) (K + K) (HL (l1 ++ l2)) ∧ Below w2.heap.size w2 w4) := ⟨by rw [P1.out.2.2.2.2.2.2.2.2.2.1] at hown2; rw [HL_apps]; exact hown2, R1.out.2.grown hgrow2 R1.out.2.size (fun k e => (R1.out.1.lt k e).1)⟩
         clear hown2 hgrow2 R1))
    have hq1 : IntKind.i64.wrap ((K : Int) - 1) = (q : Int) := by
      rw [IntWalk.i64_left]
      have := P1.out.2.2.2.2.2.2.2.2.2.2.2.1
      have := P1.out.2.2.2.2.2.2.2.2.2.2.1
      unfold wrap64
      omega
    have hq2 : (q : Int) < (K : Int) := by have := P1.out.2.2.2.2.2.2.2.2.2.2.2.1; omega
    refine refgrow10 w4 d gl c1 gr c2 K q (K + K) c4 w2.heap.size a4 X Y (NODEF d X Y) (HL (l1 ++ l2)) hq1 hq2 (by have := P1.out.2.2.2.2.2.2.2.2.2.2.1; omega) (fun W => Below w4.heap.size w4 W) (Below.refl _ _).drew (fun W hb => ?_) (fun W W' hb hg => ?_) (fun W o hb => hb.alloc hb.size _) (fun W hb => ?_) (fun _ _ _ _ _ h => h) ?_
    · have h2 := R2.out.2.trans (hb.mono R2.out.2.size)
      exact ⟨⟨range_below P1.out.2.2.2.2.1 h2 P1.out.2.2.2.2.2.2.1, range_below P1.out.2.2.2.2.2.1 h2 P1.out.2.2.2.2.2.2.2.1⟩, own_keep R2.out.1 hb, h2.size⟩
    · have h2 : Below w2.heap.size w2 W' := (R2.out.2.trans (hb.mono R2.out.2.size)).grown hg (R2.out.2.trans (hb.mono R2.out.2.size)).size (fun k e => (R2.out.1.lt k e).1)
      exact ⟨range_below P1.out.2.2.2.2.1 h2 P1.out.2.2.2.2.2.2.1, range_below P1.out.2.2.2.2.2.1 h2 P1.out.2.2.2.2.2.2.2.1⟩
    · refine (refnode_ok d X Y V8.out.1 V8.out.2 W).mono ?_
      rintro e W' ⟨rfl, hb'⟩
      exact ⟨rfl, hb.trans (hb'.mono hb.size)⟩
    · rintro b1 g2 cc W ⟨w0', hb, hown, hg⟩
      have h2 : Below w2.heap.size w2 W := (R2.out.2.trans (hb.mono R2.out.2.size)).grown hg (R2.out.2.trans (hb.mono R2.out.2.size)).size (fun k e => (R2.out.1.lt k e).1)
      have FN : Aside (RGRN w W d (H + 1) (.slice (some ⟨g2, 0, none⟩) (K + K + 1) cc) (l1 ++ l2 ++ [NODEF d X Y]) hs) := by
        refine ⟨?_, PJ.out, P1.out.1.trans (h2.mono P1.out.1.size)⟩
        rw [← P1.out.2.2.2.2.2.2.2.2.2.2.2.2, HL_snoc']
        exact own_mono hown P1.out.1.size
      clear hown hg hb h2 P1 R2 PJ V8 HA HM
      go_wp2_with fail
      go_ret2
      exact ⟨_, _, rfl, FN.out⟩
end Go.Proofs.YtdmbmphdiaepdaaGreatDoor.HX

/- massiflaw6.marked; a list of hashes whose first bytes are counted up. -/
namespace Go.Proofs.YtdmbmphdiaepdaaGreatDoor.HX
open Go.RowKit
set_option maxRecDepth 100000

theorem HLF_at (f : Nat → Nat → Nat) {n p : Nat} (hp : p < 32 * n) : (HL (FSTS f n))[p]? = some (.int .u8 ((f (p / 32) (p % 32) : Nat) : Int)) := by
  have h1 : (FSTS f n)[p / 32]? = some (f (p / 32)) := by
    rw [FSTS, List.getElem?_map, List.getElem?_range (by omega)]
    rfl
  have h2 := HL_get (FSTS f n) (p / 32) (p % 32) _ h1 (by omega)
  rwa [show p / 32 * 32 + p % 32 = p by omega] at h2
/-- a hash whose first byte is counted up. -/
def UPH (h : Nat → Nat) : Nat → Nat := fun t => if t = 0 then (h 0 + 1) % 256 else h t
/-- the first j of them. -/
def UPS (hs : Nat → Nat → Nat) (j : Nat) : Nat → Nat → Nat := fun i => if i < j then UPH (hs i) else hs i
theorem UPS_zero (hs : Nat → Nat → Nat) : UPS hs 0 = hs := by
  funext i
  unfold UPS
  rw [if_neg (by omega)]
theorem UPS_lt {hs : Nat → Nat → Nat} {n j : Nat} (h : ∀ i, i < n → ∀ t, hs i t < 256) : ∀ i, i < n → ∀ t, UPS hs j i t < 256 := fun i hi t => by
  unfold UPS
  split
  · unfold UPH
    split
    · exact Nat.mod_lt _ (by decide)
    · exact h i hi t
  · exact h i hi t
theorem HL_up (hs : Nat → Nat → Nat) {n i : Nat} (hi : i < n) : (HL (FSTS (UPS hs i) n)).set (i * 32) (.int .u8 (((hs i 0 + 1) % 256 : Nat) : Int)) = HL (FSTS (UPS hs (i + 1)) n) := by
  apply List.ext_getElem?
  intro p
  by_cases hp : p < 32 * n
  · rw [List.getElem?_set, HLF_at _ hp, HLF_at _ hp]
    by_cases e : i * 32 = p
    · have h1 : p / 32 = i := by omega
      have h2 : p % 32 = 0 := by omega
      rw [if_pos e, if_pos (by rw [HL_FSTS_length]; omega), h1, h2]
      unfold UPS UPH
      rw [if_pos (by omega), if_pos rfl]
    · rw [if_neg e]
      by_cases h1 : p / 32 = i
      · have h2 : p % 32 ≠ 0 := by omega
        rw [h1]
        unfold UPS UPH
        rw [if_neg (by omega), if_pos (by omega), if_neg h2]
      · unfold UPS
        by_cases h3 : p / 32 < i
        · rw [if_pos h3, if_pos (by omega)]
        · rw [if_neg h3, if_neg (by omega)]
  · rw [List.getElem?_eq_none (by rw [List.length_set, HL_FSTS_length]; omega), List.getElem?_eq_none (by rw [HL_FSTS_length]; omega)]
set_option maxHeartbeats 1000000 in
theorem marked6_ok (g n c : Nat) (hn : n ≤ 1000000) (hc : n + 1 ≤ c) (w : World) (h : w.rangeAt g (n * 32) (ULIST .u8 32 MRKF)) : Calls Tryz.prog 9 #[.slice (some ⟨g, 0, none⟩) n c] w fun e w' => e = .returned (.bool true) ∧ w = w' := by
  have hw : wrap64 ((n : Int) + 1) = ((n + 1 : Nat) : Int) := by unfold wrap64; omega
  have h1 : ((n + 1 : Nat) : Int) ≤ (c : Int) := by omega
  have h2 : (n : Int) + 1 ≤ (c : Int) := by omega
  have hb0 : (0 : Int) ≤ (n : Int) := Int.natCast_nonneg n
  have hb1 : (n : Int) < (n : Int) + 1 := Int.lt_succ (n : Int)
  have qx := equal_same MRKF
  clear hn hc
  go_enter Tryz.func9, Tryz.ntmps9
  go_wp2_with (first
    | (refine wpList_load_mid rfl 26 (.tmp 10) rfl g (n * 32) rfl (ULIST .u8 32 MRKF) _ h Tryz.underlying26 rfl (by rw [ULIST_length]; exact info_hash) ?_; rw [← UARR_list])
    | (rw [← MRKF_arr]))
  go_ret
  exact ⟨rfl, rfl⟩
end Go.Proofs.YtdmbmphdiaepdaaGreatDoor.HX

/- massiflaw6.mark and all: a list of hashes of one's own that is written over with a mark. -/
namespace Go.Proofs.YtdmbmphdiaepdaaGreatDoor.HX
open Go.RowKit
set_option maxRecDepth 100000

theorem grown_trans {w w1 w2 : World} {r r' : Option Nat} (h : w.grownBy w1 r) (h' : w1.grownBy w2 r') (hr : r' = r ∨ ∀ g, r' = some g → w.heap.size ≤ g) : w.grownBy w2 r := by
  obtain ⟨a1, a2, a3, a4, a5⟩ := h
  obtain ⟨b1, b2, b3, b4, b5⟩ := h'
  refine ⟨by rw [b1, a1], by rw [b2, a2], by rw [b3, a3], Nat.le_trans a4 b4, fun k hk hne => ?_⟩
  rw [b5 k (by omega) (fun e => ?_), a5 k hk hne]
  rcases hr with hr | hr
  · exact hne (by rw [e, hr])
  · have := hr k e.symm
    omega
theorem grown_size {w w' : World} {r : Option Nat} (h : w.grownBy w' r) : w.heap.size ≤ w'.heap.size := by
  obtain ⟨_, _, _, hs, _⟩ := h
  exact hs
theorem grown_alloc (w : World) (o : Obj) (r : Option Nat) : w.grownBy (w.alloc o) r := ⟨rfl, rfl, rfl, by simp, fun k hk _ => heap_alloc_old w o hk⟩
/-- values laid over a list, one behind the other, from o on. -/
def OVERW (xs : List Value) : Nat → List Value → List Value
  | _, [] => xs
  | o, v :: vs => OVERW (xs.set o v) (o + 1) vs
theorem OVERW_length : ∀ (vs xs : List Value) (o : Nat), (OVERW xs o vs).length = xs.length
  | [], _, _ => rfl
  | v :: vs, xs, o => by rw [OVERW, OVERW_length vs, List.length_set]
theorem OVERW_get : ∀ (vs xs : List Value) (o p : Nat), p < xs.length → (OVERW xs o vs)[p]? = if o ≤ p ∧ p < o + vs.length then vs[p - o]? else xs[p]?
  | [], xs, o, p, _ => by rw [OVERW, if_neg (by simp)]
  | v :: vs, xs, o, p, hp => by
    rw [OVERW, OVERW_get vs (xs.set o v) (o + 1) p (by rw [List.length_set]; exact hp)]
    by_cases h1 : p = o
    · subst h1
      rw [if_neg (by omega), if_pos ⟨Nat.le_refl _, by simp⟩, Nat.sub_self, List.getElem?_set_self hp]
      rfl
    · by_cases h2 : o ≤ p ∧ p < o + (v :: vs).length
      · have h3 : p < o + (vs.length + 1) := h2.2
        rw [if_pos ⟨by omega, by omega⟩, if_pos h2, show p - o = (p - (o + 1)) + 1 by omega, List.getElem?_cons_succ]
      · rw [if_neg (fun h => h2 ⟨by omega, by simp; omega⟩), if_neg h2, List.getElem?_set_ne (by omega)]
theorem own_over {B : Nat} {t : TypeId} {s g n c : Nat} : ∀ (vs xs : List Value) (o : Nat) (w : World), w.ownsRow B t s (.slice (some ⟨g, 0, none⟩) n c) n xs → (w.setCells g o vs).ownsRow B t s (.slice (some ⟨g, 0, none⟩) n c) n (OVERW xs o vs) ∧ w.grownBy (w.setCells g o vs) (some g)
  | [], xs, o, w, h => ⟨h, grown_refl _ _⟩
  | v :: vs, xs, o, w, h => by
    obtain ⟨h1, h2⟩ := h.stored o v
    obtain ⟨h3, h4⟩ := own_over vs _ (o + 1) _ h1
    exact ⟨h3, grown_trans h2 h4 (.inl rfl)⟩
/-- the mark m. -/
def MKH (m : Nat) : Nat → Nat := fun i => if i = 0 then m else 0
theorem MKH_arr (m : Nat) : UARR .u8 32 (MKH m) = #[.int .u8 (m : Int), .int .u8 0, .int .u8 0, .int .u8 0, .int .u8 0, .int .u8 0, .int .u8 0, .int .u8 0, .int .u8 0, .int .u8 0, .int .u8 0, .int .u8 0, .int .u8 0, .int .u8 0, .int .u8 0, .int .u8 0, .int .u8 0, .int .u8 0, .int .u8 0, .int .u8 0, .int .u8 0, .int .u8 0, .int .u8 0, .int .u8 0, .int .u8 0, .int .u8 0, .int .u8 0, .int .u8 0, .int .u8 0, .int .u8 0, .int .u8 0, .int .u8 0] := by rfl
/-- the first j are marks. -/
def MKF (hs : Nat → Nat → Nat) (m j : Nat) : Nat → Nat → Nat := fun i => if i < j then MKH m else hs i
theorem MKF_zero (hs : Nat → Nat → Nat) (m : Nat) : MKF hs m 0 = hs := by
  funext i
  unfold MKF
  rw [if_neg (by omega)]
theorem FSTS_marks (hs : Nat → Nat → Nat) (m n : Nat) : FSTS (MKF hs m n) n = FSTS (fun _ => MKH m) n := by
  unfold FSTS
  refine List.map_congr_left fun i hi => ?_
  unfold MKF
  rw [if_pos (by simpa using hi)]
theorem HL_mark (hs : Nat → Nat → Nat) (m n j : Nat) : OVERW (HL (FSTS (MKF hs m j) n)) (j * 32) (UARR .u8 32 (MKH m)).toList = HL (FSTS (MKF hs m (j + 1)) n) := by
  have hl : (UARR .u8 32 (MKH m)).toList.length = 32 := by rw [Array.length_toList, UARR_size]
  apply List.ext_getElem?
  intro p
  by_cases hp : p < 32 * n
  · rw [OVERW_get _ _ _ _ (by rw [HL_FSTS_length]; exact hp), HLF_at _ hp, HLF_at _ hp, hl]
    by_cases h1 : j * 32 ≤ p ∧ p < j * 32 + 32
    · rw [if_pos h1, show p / 32 = j by omega, show p % 32 = p - j * 32 by omega]
      unfold MKF
      rw [if_pos (by omega), UARR_list, ULIST_get _ _ _ _ (by omega)]
    · rw [if_neg h1]
      unfold MKF
      by_cases h3 : p / 32 < j
      · rw [if_pos h3, if_pos (by omega)]
      · rw [if_neg h3, if_neg (by omega)]
  · rw [List.getElem?_eq_none (by rw [OVERW_length, HL_FSTS_length]; omega), List.getElem?_eq_none (by rw [HL_FSTS_length]; omega)]
theorem own_shapes {w : World} {B n : Nat} {v : Value} {xs : List Value} (h : w.ownsRow B 26 32 v n xs) : ∃ a c, v = .slice a n c ∧ (0 < n → ∃ g, a = some ⟨g, 0, none⟩) := by
  rcases h.2 with ⟨e, h0⟩ | ⟨g, cap, cur, e, _⟩
  · obtain ⟨a, c, rfl⟩ := own_shape h
    refine ⟨a, c, rfl, fun hn => ?_⟩
    simp only [Value.slice.injEq] at e
    omega
  · exact ⟨some ⟨g, 0, none⟩, cap, e, fun _ => ⟨g, rfl⟩⟩
set_option maxHeartbeats 2000000 in
theorem mark6_ok (B : Nat) (v : Value) (n : Nat) (hs : Nat → Nat → Nat) (m : Nat) (hn : n ≤ 900) (w : World) (hB : B ≤ w.heap.size) (h : w.ownsRow B 26 32 v n (HL (FSTS hs n))) : Calls Tryz.prog 13 #[v, .int .u8 (m : Int)] w fun e w' =>
    ∃ g cap, e = .returned (.slice (some ⟨g, 0, none⟩) (n + 1 + 1) cap) ∧ w'.ownsRow B 26 32 (.slice (some ⟨g, 0, none⟩) (n + 1 + 1) cap) (n + 1 + 1) (HL (FSTS (fun _ => MKH m) (n + 1 + 1))) ∧ w.grownBy w' v.ownBlock ∧ (v.ownBlock = some g ∨ w.heap.size ≤ g) := by
  obtain ⟨a, c, rfl, ha⟩ := own_shapes h
  have HA : Aside (n ≤ 900 ∧ w.ownsRow B 26 32 (.slice a n c) n (HL (FSTS hs n)) ∧ (0 < n → ∃ g, a = some ⟨g, 0, none⟩) ∧ B ≤ w.heap.size) := ⟨hn, h, ha, hB⟩
  clear h ha hn hB
  go_enter Tryz.func13, Tryz.ntmps13
  go_wp2
  go_loopg [5] n (fun q s5 wx => ∃ j : Nat, s5 = .int .i64 (j : Int) ∧ Aside (j + q = n ∧ wx.ownsRow B 26 32 (.slice a n c) n (HL (FSTS (MKF hs m j) n)) ∧ w.grownBy wx (Value.slice a n c).ownBlock))
  case atStart => exact ⟨0, rfl, by omega, by rw [MKF_zero]; exact HA.out.2.1, grown_refl _ _⟩
  case round =>
    obtain ⟨j, rfl, A⟩ := hrel
    cases gk with
    | zero =>
      obtain rfl : j = n := by have := A.out.1; omega
      have hlt : ¬ (j : Int) < (j : Int) := by omega
      have R : Aside (wr.ownsRow B 26 32 (.slice a j c) j (HL (FSTS (fun _ => MKH m) j)) ∧ w.grownBy wr (Value.slice a j c).ownBlock ∧ j ≤ 900 ∧ B ≤ wr.heap.size ∧ w.heap.size ≤ wr.heap.size) := by
        obtain ⟨_, h1, h2⟩ := A.out
        obtain ⟨a1, a3, a4, a5⟩ := HA.out
        rw [FSTS_marks] at h1
        have hs := grown_size h2
        exact ⟨h1, h2, a1, Nat.le_trans a5 hs, hs⟩
      clear A HA
      go_wp2_with (first
        | (rw [← MKH_arr]; refine build_hash _ rfl (.tmp 19) rfl (MKH m) rfl ?_)
        | (at_builtin; refine app_hashf _ rfl (.tmp 17) (.tmp 20) rfl B _ j (HL (FSTS (fun _ => MKH m) j)) rfl (R.out.1.alloc _) wr.heap.size 1 (MKH m) rfl (Has.new _ _ _) (by have := R.out.2.2.1; omega) (by have := R.out.2.2.2.1; simp; omega) ?_; intro g1 q1 w1 hown1 hgrow1 hat1 hg1
           have S : Aside (w1.ownsRow B 26 32 (.slice (some ⟨g1, 0, none⟩) (j + 1) q1) (j + 1) (HL (FSTS (fun _ => MKH m) (j + 1))) ∧ w.grownBy w1 (Value.slice a j c).ownBlock ∧ ((Value.slice a j c).ownBlock = some g1 ∨ w.heap.size ≤ g1) ∧ B ≤ w1.heap.size ∧ w.heap.size ≤ w1.heap.size) := ⟨by rw [FSTS_snoc, HL_snoc']; exact hown1, grown_trans (grown_trans R.out.2.1 (grown_alloc _ _ _) (.inl rfl)) hgrow1 (.inl rfl), hat1.imp id fun e => by have := R.out.2.2.2.2; rw [e]; simp; omega, by have h1 := grown_size hgrow1; have h2 := R.out.2.2.2.1; simp at h1; omega, by have h1 := grown_size hgrow1; have h2 := R.out.2.2.2.2; simp at h1; omega⟩
           clear hown1 hgrow1 hat1 hg1)
        | (rw [← MKH_arr]; refine build_hash _ rfl (.tmp 23) rfl (MKH m) rfl ?_)
        | (at_builtin; refine app_hashf _ rfl (.tmp 21) (.tmp 24) rfl B _ (j + 1) _ rfl (S.out.1.alloc _) w1.heap.size 1 (MKH m) rfl (Has.new _ _ _) (by have := R.out.2.2.1; omega) (by have h1 := S.out.2.2.2.1; simp; omega) ?_; intro g2 q2 w2 hown2 hgrow2 hat2 hg2))
      have S2 : Aside (w2.ownsRow B 26 32 (.slice (some ⟨g2, 0, none⟩) (j + 1 + 1) q2) (j + 1 + 1) (HL (FSTS (fun _ => MKH m) (j + 1 + 1))) ∧ w.grownBy w2 (Value.slice a j c).ownBlock ∧ ((Value.slice a j c).ownBlock = some g2 ∨ w.heap.size ≤ g2)) := by
        obtain ⟨s1, s2, s3, s4, s5⟩ := S.out
        refine ⟨?_, grown_trans (grown_trans s2 (grown_alloc _ _ _) (.inl rfl)) hgrow2 ?_, ?_⟩
        · rw [FSTS_snoc _ (j + 1), HL_snoc']
          exact hown2
        · rcases s3 with s3 | s3
          · exact .inl s3.symm
          · exact .inr fun g e => by cases e; exact s3
        · rcases hat2 with e | e
          · cases e
            exact s3
          · exact .inr (by rw [e]; simp; omega)
      clear hown2 hgrow2 hat2 hg2 S R
      go_wp2
      go_ret
      exact ⟨_, _, rfl, S2.out⟩
    | succ q =>
      obtain ⟨hj, hown, hgr⟩ := A.out
      obtain ⟨a1, a3, a4, a5⟩ := HA.out
      have hlt : (j : Int) < (n : Int) := by omega
      obtain ⟨g, rfl⟩ := a4 (by omega)
      have hsz := UARR_size .u8 32 (MKH m)
      have hth : wr.there g (j * 32) (UARR .u8 32 (MKH m)).size := fun i hi => by
        have hi : i < 32 := by rw [UARR_size] at hi; exact hi
        refine ⟨?_, hown.frozenAt _⟩
        rw [hown.cellAt (j * 32 + i) (by omega), HLF_at _ (by omega)]
        rfl
      have hst := own_over (UARR .u8 32 (MKH m)).toList _ (j * 32) wr hown
      rw [HL_mark hs m n j] at hst
      have R : Aside (j + 1 + q = n ∧ (wr.setCells g (j * 32) (UARR .u8 32 (MKH m)).toList).ownsRow B 26 32 (.slice (some ⟨g, 0, none⟩) n c) n (HL (FSTS (MKF hs m (j + 1)) n)) ∧ w.grownBy (wr.setCells g (j * 32) (UARR .u8 32 (MKH m)).toList) (Value.slice (some ⟨g, 0, none⟩) n c).ownBlock) := ⟨by omega, hst.1, grown_trans hgr hst.2 (.inl rfl)⟩
      have E1 : Aside (wrap64 ((j : Int) + 1) = ((j + 1 : Nat) : Int)) := by show wrap64 ((j : Int) + 1) = ((j + 1 : Nat) : Int); unfold wrap64; omega
      clear hj hown hgr a1 a3 a4 a5 hst A HA hsz
      go_wp2_with (first
        | (rw [← MKH_arr]; refine wpList_store_mid rfl 26 (.tmp 16) (.tmp 15) rfl g (j * 32) (UARR .u8 32 (MKH m)) rfl rfl hth (info_HASH _) (UARR_one _ _ _) ?_))
      generalize wr.setCells g (j * 32) (UARR .u8 32 (MKH m)).toList = w2 at *
      have e1 := E1.out
      go_wp2
      go_roundg q
      case measure => exact Nat.lt_succ_self _
      case rel => exact ⟨j + 1, by first | rfl | (rw [E1.out]), R.out⟩
set_option maxHeartbeats 1000000 in
theorem all6_ok (B g n c : Nat) (m : Nat) (hn : n ≤ 1000000) (w : World) (h : w.ownsRow B 26 32 (.slice (some ⟨g, 0, none⟩) n c) n (HL (FSTS (fun _ => MKH m) n))) : Calls Tryz.prog 14 #[.slice (some ⟨g, 0, none⟩) n c, .int .u8 (m : Int)] w fun e w' => e = .returned (.bool true) ∧ w = w' := by
  have HA : Aside (n ≤ 1000000 ∧ w.ownsRow B 26 32 (.slice (some ⟨g, 0, none⟩) n c) n (HL (FSTS (fun _ => MKH m) n))) := ⟨hn, h⟩
  clear hn h
  go_enter Tryz.func14, Tryz.ntmps14
  go_wp2
  go_loopg [5] n (fun q s5 wx => ∃ j : Nat, s5 = .int .i64 (j : Int) ∧ Aside (j + q = n) ∧ wx = w)
  case atStart => exact ⟨0, rfl, by show 0 + n = n; omega, rfl⟩
  case round =>
    obtain ⟨j, rfl, A, rfl⟩ := hrel
    cases gk with
    | zero =>
      obtain rfl : j = n := by have := A.out; omega
      have hlt : ¬ (j : Int) < (j : Int) := by omega
      clear A HA
      go_wp2
      go_ret
      exact ⟨rfl, rfl⟩
    | succ q =>
      have hj : j + 1 + q = n := by have := A.out; omega
      have hlt : (j : Int) < (n : Int) := by omega
      have hat : wr.rangeAt g (j * 32) (ULIST .u8 32 (MKH m)) := fun i v hv => by
        have hi : i < 32 := by have := (List.getElem?_eq_some_iff.1 hv).1; rwa [ULIST_length] at this
        have := HA.out.2.cellAt (j * 32 + i) (by omega)
        rw [this, HLF_at _ (by omega), ← hv, ULIST_get _ _ _ _ hi, show (j * 32 + i) % 32 = i by omega]
      have R : Aside (j + 1 + q = n) := hj
      have E1 : Aside (wrap64 ((j : Int) + 1) = ((j + 1 : Nat) : Int)) := by have := HA.out.1; show wrap64 ((j : Int) + 1) = ((j + 1 : Nat) : Int); unfold wrap64; omega
      have qx := equal_same (MKH m)
      clear hj A HA
      go_wp2_with (first
        | (refine wpList_load_mid rfl 26 (.tmp 14) rfl g (j * 32) rfl (ULIST .u8 32 (MKH m)) _ hat Tryz.underlying26 rfl (by rw [ULIST_length]; exact info_hash) ?_; rw [← UARR_list])
        | (rw [← MKH_arr]))
      have e1 := E1.out
      go_wp2
      go_roundg q
      case measure => exact Nat.lt_succ_self _
      case rel => exact ⟨j + 1, by first | rfl | (rw [E1.out]), R, rfl⟩
end Go.Proofs.YtdmbmphdiaepdaaGreatDoor.HX
