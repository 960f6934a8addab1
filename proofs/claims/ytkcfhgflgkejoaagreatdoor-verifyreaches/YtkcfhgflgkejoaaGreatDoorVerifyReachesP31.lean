/- Texts of VerifyReaches, one behind the other: VerifySpotRow, VerifyRefReach, VerifyRefBagRegion, VerifyRefBag, VerifyUnder. -/
import Derived.Laws.AppendOwnNone
import Derived.Test.YtkcfhgflgkejoaaGreatDoorVerifyReachesP7
import Derived.Test.YtkcfhgflgkejoaaGreatDoorVerifyReachesP9
import Derived.Test.YtkcfhgflgkejoaaGreatDoorVerifyReachesP21
import Derived.Test.YtkcfhgflgkejoaaGreatDoorVerifyReachesP25
import Derived.Test.YtkcfhgflgkejoaaGreatDoorVerifyReachesP28
import Derived.Test.YtkcfhgflgkejoaaGreatDoorVerifyReachesP30
/- A list of spots is put behind another one; the document's Span of any two sizes. -/
namespace Go.Proofs.YtkcfhgflgkejoaaGreatDoor
open Go.RowKit
set_option maxRecDepth 100000

theorem own_sliced8 {w : World} {B s n : Nat} {t : TypeId} {v : Value} {xs : List Value} (h : w.ownsRow B t s v n xs) : ∃ a c, v = .slice a n c := by
  rcases h.2 with ⟨e, h0⟩ | ⟨g, cap, cur, e, _⟩
  · exact ⟨none, 0, by rw [e, h0]⟩
  · exact ⟨_, _, e⟩
theorem SCELLS_app8 (l k : List (Nat × Nat)) : SCELLS (l ++ k) = SCELLS l ++ SCELLS k := by unfold SCELLS; rw [List.flatMap_append]
theorem SCELLS_one8 (l : List (Nat × Nat)) : ∀ u ∈ SCELLS l, u.oneCell' = true := fun u hu => by
  unfold SCELLS at hu
  obtain ⟨x, _, hx⟩ := List.mem_flatMap.1 hu
  simp at hx
  rcases hx with rfl | rfl <;> rfl
theorem app_spots8 {ops : Array Oper} {rest : List Oper} {o : Oper} {a : Act} {Q : Exit → Act → World → Prop} (w : World) (hgd : o.guard = none) (s x : Operand)
    (ho : o.op = .call { callee := .builtin .append, args := #[s, x], argTypes := #[58, 58] })
    (base : Nat) (v : Value) (n : Nat) (xs : List (Nat × Nat)) (hs : a.eval s = v) (hown : w.ownsRow base 64 2 v n (SCELLS xs))
    (B : Nat) (ad : Option Addr) (m c : Nat) (l : List (Nat × Nat)) (hx : a.eval x = .slice ad m c) (hsrc : w.ownsRow B 64 2 (.slice ad m c) m (SCELLS l))
    (hb : n + m ≤ 2 ^ 26) (hbase : base ≤ w.heap.size)
    (hh : ∀ a' c' w', w'.ownsRow base 64 2 (.slice a' (n + m) c') (n + m) (SCELLS (xs ++ l)) → w.grownBy w' v.ownBlock → wpList Tryz.prog ops Q rest (a.put o.dst (.slice a' (n + m) c')) w') : wpList Tryz.prog ops Q (o :: rest) a w := by
  obtain ⟨i, hi, hz, hs1, hby⟩ := info_parts info_spot
  have hlm : (SCELLS l).length = m * 2 := hsrc.1
  cases ad with
  | none =>
    have h0 : m = 0 ∧ c = 0 := by
      rcases hsrc.2 with ⟨e, h0⟩ | ⟨_, _, _, e, _⟩
      · cases e; exact ⟨rfl, rfl⟩
      · cases e
    obtain ⟨rfl, rfl⟩ := h0
    have hl0 : l = [] := by
      cases l with
      | nil => rfl
      | cons y l => simp [SCELLS] at hlm
    subst hl0
    refine wpList_append_own_none hgd s x 58 ho base 64 i 2 Tryz.underlying58 hi v n (SCELLS xs) hs hown hx ?_
    obtain ⟨a', c', rfl⟩ := own_sliced8 hown
    have := hh a' c' w (by simpa using hown) ⟨rfl, rfl, rfl, Nat.le_refl _, fun _ _ _ => rfl⟩
    simpa using this
  | some ad =>
    obtain ⟨g, rfl⟩ : ∃ g, ad = ⟨g, 0, none⟩ := by
      rcases hsrc.2 with ⟨e, h0⟩ | ⟨g, _, _, e, _⟩
      · cases e
      · cases e; exact ⟨g, rfl⟩
    refine wpList_append_own w hgd s x 58 ho base 64 i _ 2 16 Tryz.underlying58 hi hz hs1 hby rfl (by decide) v n (SCELLS xs) hs hown ⟨g, 0, none⟩ m c (SCELLS l) hx hlm (fun j u hu => ?_) (SCELLS_one8 l) (by simp only [maxLen]; omega) (by omega) hbase ?_
    · have hj : j < m * 2 := by rw [← hlm]; exact (List.getElem?_eq_some_iff.1 hu).1
      rw [show (⟨g, 0, none⟩ : Addr).add j = ⟨g, j, none⟩ by unfold Addr.add; split <;> simp_all]
      exact (hsrc.cellAt j hj).trans hu
    · intro v' w' h1 h2 _
      obtain ⟨a', c', rfl⟩ := own_sliced8 h1
      rw [← SCELLS_app8] at h1
      exact hh a' c' w' h1 h2
theorem TOPS_span {n : Nat} (hn : n ≤ 4611686018427387904) : TOPS 0 n = SPAN 0 n := by
  have hl := TOPS_length (n := n) (by omega) 0 (by omega)
  rw [Nat.pow_zero, Nat.div_one] at hl
  refine List.ext_getElem? fun j => ?_
  by_cases hj : j < PC n
  · rw [TOPS_at (by omega) hj, SPAN_zero_at hn hj]
  · rw [List.getElem?_eq_none (by omega), List.getElem?_eq_none (by rw [SPAN_zero_length hn]; omega)]
theorem tops8_ok (n : Nat) (hn : n ≤ 4611686018427387904) (w : World) : Calls Tryz.prog 31 #[.int .u64 (n : Int)] w fun e w' =>
    ∃ a c, e = .returned (.slice a (PC n) c) ∧ w'.ownsRow w.heap.size 64 2 (.slice a (PC n) c) (PC n) (SCELLS (SPAN 0 n)) ∧ Below w.heap.size w w' := by
  refine (tops_ok n hn w).mono ?_
  rintro e w' ⟨v, rfl, ho, hb⟩
  obtain ⟨a, c, rfl⟩ := own_sliced8 ho
  rw [TOPS_span hn] at ho
  exact ⟨a, c, rfl, ho, hb⟩
theorem span8_ok (a b : Nat) (hab : a ≤ b) (hb : b ≤ 4611686018427387904) (w : World) : Calls Tryz.prog 32 #[.int .u64 (a : Int), .int .u64 (b : Int)] w fun e w' =>
    ∃ ad c, e = .returned (.slice ad (SPAN a b).length c) ∧ w'.ownsRow w.heap.size 64 2 (.slice ad (SPAN a b).length c) (SPAN a b).length (SCELLS (SPAN a b)) ∧ Below w.heap.size w w' := by
  rcases Nat.eq_or_lt_of_le hab with e | h
  · subst e
    refine (refspan_none a a (.inl (Nat.le_refl _)) w).mono ?_
    rintro e w' ⟨rfl, rfl⟩
    rw [SPAN_end (Nat.le_refl _)]
    exact ⟨none, 0, rfl, World.ownsRow_nil _ _ _ _, Below.refl _ _⟩
  · refine (refspan_ok a b h hb w).mono ?_
    rintro e w' ⟨v, rfl, ho, hb⟩
    obtain ⟨ad, c, rfl⟩ := own_sliced8 ho
    exact ⟨ad, c, rfl, ho, hb⟩
theorem Flat.take {w : World} {a : Option Addr} {n : Nat} {l : List Int} (h : Flat w a n l) {m : Nat} (hm : m ≤ n) : Flat w a m (l.take (32 * m)) := by
  refine ⟨by rw [List.length_take, h.1]; omega, fun h0 => ?_, fun x hx => h.2.2 x (List.mem_of_mem_take hx)⟩
  obtain ⟨b, o, e, hb, hc⟩ := h.2.1 (by omega)
  refine ⟨b, o, e, hb, fun j hj => ?_⟩
  rw [hc j (by omega)]
  congr 2
  rw [List.getD_eq_getElem?_getD, List.getD_eq_getElem?_getD, List.getElem?_take, if_pos (by omega)]
/-- the first hashes are those of the first peaks. -/
theorem CAT_first {d : Int} {F S t : Nat} (hFS : F ≤ S) (hS : S ≤ 4611686018427387904) (hL : LOWS F t) (l : List Int) : ∀ m, m ≤ PC F → CAT (RCM d (JSX F S t) F S l) ((SPAN 0 F).take m) = l.take (32 * m)
  | 0, _ => by simp [CAT]
  | m + 1, hm => by
    have hlt : m < (SPAN 0 F).length := by rw [SPAN_zero_length (by omega)]; omega
    obtain ⟨⟨h, k⟩, e⟩ : ∃ s, (SPAN 0 F)[m]? = some s := ⟨_, List.getElem?_eq_getElem hlt⟩
    have hso := (PXS_tile hFS hS).off
    have e2 : (PXS F S)[m]? = some (h, k) := by
      unfold PXS
      rw [List.getElem?_append_left hlt]
      exact e
    rw [CAT_next e, CAT_first hFS hS hL l m (by omega), HSH_next]
    congr 1
    unfold RCM
    rw [JQ_row hFS hS hL _ (List.mem_of_getElem? e2) _ (Nat.le_refl _), HAND_at hso e2 _ (List.getElem?_eq_some_iff.1 e2).1 (Nat.le_refl _)]
theorem CAT_congr {M M' : Nat → Nat → List Int} {ss : List (Nat × Nat)} (h : ∀ x y, (x, y) ∈ ss → M x y = M' x y) : CAT M ss = CAT M' ss := by
  unfold CAT
  induction ss with
  | nil => rfl
  | cons s ss ih =>
    rw [List.flatMap_cons, List.flatMap_cons, h s.1 s.2 List.mem_cons_self, ih fun x y hxy => h x y (List.mem_cons_of_mem _ hxy)]
/-- no spot of the list lies across the end of a peak. -/
theorem peak_cut {F S h k p : Nat} (hFS : F ≤ S) (hS : S ≤ 4611686018427387904) (hm : (h, k) ∈ SPAN 0 S) : ∀ s ∈ (PXS F S).drop p, (s.2 + 1) * 2 ^ s.1 ≤ (k + 1) * 2 ^ h ∨ (k + 1) * 2 ^ h ≤ s.2 * 2 ^ s.1 := by
  intro s hs
  obtain ⟨_, w2, _⟩ := (PXS_tile hFS hS).within s (List.mem_of_mem_drop hs)
  have hpar : S < (k / 2 + 1) * 2 ^ (h + 1) := by
    obtain ⟨i, hi⟩ := List.mem_iff_getElem?.1 hm
    have hi2 : i < PC S := by
      rw [← SPAN_zero_length hS]
      exact (List.getElem?_eq_some_iff.1 hi).1
    have hat := SPAN_zero_at hS hi2
    rw [hi] at hat
    simp only [Option.some.injEq, Prod.mk.injEq] at hat
    rcases Nat.lt_or_ge S ((k / 2 + 1) * 2 ^ (h + 1)) with c | c
    · exact c
    · exfalso
      have h1 := node_lt c
      have h2 := PEAK_parent (n := S) (i := i)
      rw [← hat.1, ← hat.2] at h2
      omega
  obtain ⟨x, y⟩ := s
  dsimp only at *
  rcases Nat.lt_or_ge ((k + 1) * 2 ^ h) ((y + 1) * 2 ^ x) with c1 | c1
  · rcases Nat.lt_or_ge (y * 2 ^ x) ((k + 1) * 2 ^ h) with c2 | c2
    · exfalso
      rcases Nat.lt_or_ge h x with c | c
      · obtain ⟨q, hq⟩ : 2 ^ (h + 1) ∣ 2 ^ x := Nat.pow_dvd_pow 2 c
        have hu := pow_up h
        have e1 : (k + 1) * 2 ^ h ≤ (k / 2 + 1) * 2 ^ (h + 1) := by
          rw [hu, ← Nat.mul_assoc]
          exact Nat.mul_le_mul_right _ (by omega)
        have e2 : (k / 2 + 1) * 2 ^ (h + 1) ≤ (k + 2) * 2 ^ h := by
          rw [hu, ← Nat.mul_assoc]
          exact Nat.mul_le_mul_right _ (by omega)
        have e3 := succ_pow (k + 1) h
        have hx : (y + 1) * 2 ^ x = 2 ^ (h + 1) * ((y + 1) * q) := by rw [hq, Nat.mul_left_comm]
        rw [hx] at c1 w2
        have c1' : 2 ^ h * (k + 1) < 2 ^ h * (2 * ((y + 1) * q)) := by rw [← Nat.mul_assoc, Nat.mul_comm (2 ^ h) 2, ← hu, Nat.mul_comm (2 ^ h)]; exact c1
        have g1 := Nat.lt_of_mul_lt_mul_left c1'
        have g2 : (k / 2 + 1) ≤ (y + 1) * q := by omega
        have g3 : (k / 2 + 1) * 2 ^ (h + 1) ≤ 2 ^ (h + 1) * ((y + 1) * q) := by
          rw [Nat.mul_comm]
          exact Nat.mul_le_mul_left _ g2
        omega
      · obtain ⟨q, hq⟩ : 2 ^ x ∣ 2 ^ h := Nat.pow_dvd_pow 2 c
        have hx : (k + 1) * 2 ^ h = 2 ^ x * ((k + 1) * q) := by rw [hq, Nat.mul_left_comm]
        rw [hx] at c1 c2
        have c1' : 2 ^ x * ((k + 1) * q) < 2 ^ x * (y + 1) := by rw [Nat.mul_comm (2 ^ x) (y + 1)]; exact c1
        have c2' : 2 ^ x * y < 2 ^ x * ((k + 1) * q) := by rw [Nat.mul_comm (2 ^ x) y]; exact c2
        have g1 := Nat.lt_of_mul_lt_mul_left c1'
        have g2 := Nat.lt_of_mul_lt_mul_left c2'
        omega
    · exact .inr c2
  · exact .inl c1
end Go.Proofs.YtkcfhgflgkejoaaGreatDoor

/- What the document's Reach answers: what the program's does. -/
namespace Go.Proofs.YtkcfhgflgkejoaaGreatDoor
open Go.RowKit
set_option maxRecDepth 100000

theorem refreach_err (d : Int) (F S : Nat) (hF : F < 2 ^ 64) (hS : S < 2 ^ 64) (a : Option Addr) (n c : Nat) (hn : n ≤ 1000) (l : List Int) (w : World) (hL : Flat w a n l) (E : Int) (hE : (ENX F S n l).1 = E) (h0 : E ≠ 0) :
    Calls Tryz.prog 12 #[.int .i64 d, .agg #[.int .u64 (F : Int), .int .u64 (S : Int), .slice a n c]] w (ANSR w (E, (0, []), (0, []))) := by
  obtain ⟨W0, hW0⟩ : ∃ W0, w.alloc (.cells #[.int .u64 (F : Int), .int .u64 (S : Int), .slice a n c] 34) = W0 := ⟨_, rfl⟩
  obtain ⟨bp, hbp⟩ : ∃ bp, w.heap.size = bp := ⟨_, rfl⟩
  have HB : Aside (Below w.heap.size w W0) := by rw [← hW0]; exact (Below.refl _ _).alloc (Nat.le_refl _) _
  have hH : Has W0 bp #[.int .u64 (F : Int), .int .u64 (S : Int), .slice a n c] 34 := by rw [← hW0, ← hbp]; exact Has.new _ _ _
  have ce := refencodeprefix_ok F S hF hS a n c hn l W0 (hL.below HB.out)
  unfold ANSB at ce
  rw [hE] at ce
  generalize (ENX F S n l).2 = Z at ce
  have x0 := hH.cell 0
  have x1 := hH.cell 1
  have x2 := hH.cell 2
  clear hL hE hS hF hn hH
  go_enter Tryz.func12, Tryz.ntmps12
  go_upto_region 1 with fail
  clear hW0 hbp
  go_wp2_with fail
  refine ce.mono ?_
  rintro e w1 ⟨v, rfl, _, hb1⟩
  have R : Aside (Below w.heap.size w w1) := HB.out.trans (hb1.mono HB.out.size)
  clear ce hb1 HB x0 x1 x2
  go_wp2_with fail
  go_ret3
  exact ⟨none, 0, none, 0, rfl, ⟨rfl, .inl ⟨rfl, rfl⟩⟩, ⟨rfl, .inl ⟨rfl, rfl⟩⟩, R.out, fun k h => by cases h⟩
set_option maxHeartbeats 8000000 in
theorem refreach_core (d : Int) (F S t : Nat) (hFS : F ≤ S) (hS : S ≤ 4611686018427387904) (hLW : LOWS F t) (a : Option Addr) (n c : Nat) (hn : n = (PXS F S).length) (hnc : n ≤ c) (hnil : a = none → c = 0) (l : List Int) (w : World) (hL : Flat w a n l) :
    Calls Tryz.prog 12 #[.int .i64 d, .agg #[.int .u64 (F : Int), .int .u64 (S : Int), .slice a n c]] w (ANSR w (0, (PC F, CAT (RCM d (JSX F S t) F S l) (SPAN 0 F)), (PC S, CAT (RCM d (JSX F S t) F S l) (SPAN 0 S)))) := by
  have hn188 := PXS_length hFS hS
  have hlF : (SPAN 0 F).length = PC F := SPAN_zero_length (by omega)
  have hlS : (SPAN 0 S).length = PC S := SPAN_zero_length hS
  have hPF := PC_lt_pow 64 F (by omega)
  have hPS := PC_lt_pow 64 S (by omega)
  have hPn : PC F ≤ n := by rw [hn]; unfold PXS; rw [List.length_append, hlF]; omega
  have hEN : (ENX F S n l).1 = 0 := by
    have hPL : PPA F S = (0, PLCS (PXS F S)) := by
      unfold PPA
      rw [if_neg (by omega)]
    unfold ENX ENCB
    rw [hPL, if_neg (by simp), if_neg (by rw [PLCS_length]; simpa using hn)]
  have hone : CAT (RCM d (JSX F S t) F S l) (SPAN 0 F) = l.take (32 * PC F) := by
    have := CAT_first (d := d) hFS hS hLW l (PC F) (Nat.le_refl _)
    rw [List.take_of_length_le (by omega)] at this
    exact this
  have htwo : CAT (RCM d (JSX F S t) F S l) (SPAN 0 S) = CAT (VH d (PXS F S) l) (SPAN 0 S) := CAT_congr fun x y hm => RCM_peak hFS hS hLW l hm
  rw [hone, htwo]
  obtain ⟨W0, hW0⟩ : ∃ W0, w.alloc (.cells #[.int .u64 (F : Int), .int .u64 (S : Int), .slice a n c] 34) = W0 := ⟨_, rfl⟩
  obtain ⟨b3, hb3⟩ : ∃ bp, w.heap.size = bp := ⟨_, rfl⟩
  have R0 : Aside (Below w.heap.size w W0 ∧ Has W0 b3 #[.int .u64 (F : Int), .int .u64 (S : Int), .slice a n c] 34) := by
    rw [← hW0, ← hb3]
    exact ⟨(Below.refl _ _).alloc (Nat.le_refl _) _, Has.new _ _ _⟩
  have ce := refencodeprefix_ok F S (by omega) (by omega) a n c (by omega) l W0 (hL.below R0.out.1)
  unfold ANSB at ce
  rw [hEN] at ce
  generalize (ENX F S n l).2 = Z at ce
  have HA : Aside (F ≤ S ∧ S ≤ 4611686018427387904 ∧ n = (PXS F S).length ∧ n ≤ c ∧ (a = none → c = 0) ∧ Flat w a n l ∧ (SPAN 0 F).length = PC F ∧ (SPAN 0 S).length = PC S ∧ PC F ≤ n ∧ n ≤ 188 ∧ PC S ≤ 64 ∧ PC F ≤ 64) := ⟨hFS, hS, hn, hnc, hnil, hL, hlF, hlS, hPn, by omega, hPS, hPF⟩
  have pc1 : ((PC F : Nat) : Int) ≤ (n : Int) := by omega
  have pc2 : ((PC F : Nat) : Int) ≤ (c : Int) := by omega
  generalize hpf : PC F = pf at *
  generalize hps : PC S = ps at *
  have HP : Aside (PC F = pf ∧ PC S = ps) := ⟨hpf, hps⟩
  clear hpf hps hFS hS hn hnc hnil hL hlF hlS hPn hn188 hPS hPF hEN hone htwo hLW
  go_enter Tryz.func12, Tryz.ntmps12
  go_upto_region 1 with fail
  clear hW0 hb3
  have x0 := R0.out.2.cell 0
  have x1 := R0.out.2.cell 1
  have x2 := R0.out.2.cell 2
  go_wp2_with fail
  refine ce.mono ?_
  rintro e w1 ⟨v, rfl, _, hb1⟩
  have R1 : Aside (Below w.heap.size w w1 ∧ Has w1 b3 #[.int .u64 (F : Int), .int .u64 (S : Int), .slice a n c] 34) := ⟨R0.out.1.trans (hb1.mono R0.out.1.size), R0.out.2.keep hb1⟩
  clear ce hb1 R0 x0 x1 x2
  have x0 := R1.out.2.cell 0
  have ct := tops8_ok F (by have := HA.out.1; have := HA.out.2.1; omega) w1
  rw [HP.out.1] at ct
  go_wp2_with fail
  refine ct.mono ?_
  rintro e w2 ⟨a9, c9, rfl, o9, hb2⟩
  have R2 : Aside (Below w.heap.size w w2 ∧ Has w2 b3 #[.int .u64 (F : Int), .int .u64 (S : Int), .slice a n c] 34 ∧ w2.ownsRow w1.heap.size 64 2 (.slice a9 pf c9) pf (SCELLS (SPAN 0 F)) ∧ w.heap.size ≤ w1.heap.size ∧ w1.heap.size ≤ w2.heap.size) := ⟨R1.out.1.trans (hb2.mono R1.out.1.size), R1.out.2.keep hb2, o9, R1.out.1.size, hb2.size⟩
  have B3 : Aside (b3 < w1.heap.size) := R1.out.2.lt
  clear ct hb2 o9 R1 x0
  have x2 : (w2.alloc (.cells #[] 23)).cell? ⟨b3, 2, none⟩ = some (.slice a n c) := (R2.out.2.1.alloc _).cell 2
  go_upto_region 6 with (at_builtin; refine app_hashes _ rfl (.tmp 27) (.tmp 32) rfl w2.heap.size (.slice (some ⟨w2.heap.size, 0, none⟩) 0 0) 0 [] rfl (own_empty32 w2) a pf c (l.take (32 * pf)) rfl ((HA.out.2.2.2.2.2.1.take HA.out.2.2.2.2.2.2.2.2.1).below (R2.out.1.alloc R2.out.1.size _)) HA.out.2.2.2.2.1 (by have := HA.out.2.2.2.2.2.2.2.2.2.2.2; omega) (by simp) ?_; rw [Nat.zero_add, List.nil_append]; intro a10 c10 w3 hown3 hgrow3)
  have R3 : Aside (Below w.heap.size w w3 ∧ Has w3 b3 #[.int .u64 (F : Int), .int .u64 (S : Int), .slice a n c] 34 ∧ w3.ownsRow w1.heap.size 64 2 (.slice a9 pf c9) pf (SCELLS (SPAN 0 F)) ∧ w.heap.size ≤ w1.heap.size ∧ w3.ownsRow w2.heap.size 23 32 (.slice a10 pf c10) pf (CELLS (l.take (32 * pf))) ∧ (∀ k, (Value.slice a9 pf c9).ownBlock = some k → k < w2.heap.size) ∧ w1.heap.size ≤ w2.heap.size ∧ w2.heap.size ≤ w3.heap.size) := by
    have hb3 : Below w2.heap.size w2 w3 := ((Below.refl _ w2).alloc (Nat.le_refl _) _).grown hgrow3 (by simp) (fun k e => by cases e; exact Nat.le_refl _)
    exact ⟨R2.out.1.trans (hb3.mono R2.out.1.size), R2.out.2.1.keep hb3, own_below R2.out.2.2.1 hb3, R2.out.2.2.2.1, hown3, fun k e => (R2.out.2.2.1.lt k e).2, R2.out.2.2.2.2, hb3.size⟩
  clear hown3 hgrow3 x2 R2
  have x0 := R3.out.2.1.cell 0
  have x1 := R3.out.2.1.cell 1
  have cs := span8_ok F S HA.out.1 HA.out.2.1 w3
  have hlen : (SPAN F S).length + pf = n := by
    have h := HA.out.2.2.1
    unfold PXS at h
    rw [List.length_append] at h
    have := HA.out.2.2.2.2.2.2.1
    omega
  generalize hsl : (SPAN F S).length = sl at *
  go_wp2_with fail
  refine cs.mono ?_
  rintro e w4 ⟨a39, c39, rfl, o39, hb4⟩
  have R4 : Aside (Below w.heap.size w w4 ∧ Has w4 b3 #[.int .u64 (F : Int), .int .u64 (S : Int), .slice a n c] 34 ∧ w4.ownsRow w1.heap.size 64 2 (.slice a9 pf c9) pf (SCELLS (SPAN 0 F)) ∧ w.heap.size ≤ w1.heap.size ∧ w4.ownsRow w2.heap.size 23 32 (.slice a10 pf c10) pf (CELLS (l.take (32 * pf))) ∧ (∀ k, (Value.slice a9 pf c9).ownBlock = some k → k < w2.heap.size) ∧ w1.heap.size ≤ w2.heap.size ∧ w4.ownsRow w3.heap.size 64 2 (.slice a39 sl c39) sl (SCELLS (SPAN F S)) ∧ w1.heap.size ≤ w4.heap.size) := by
    obtain ⟨r1, r2, r3, r4, r5, r6, r7, r8⟩ := R3.out
    have hs := hb4.size
    exact ⟨r1.trans (hb4.mono r1.size), r2.keep hb4, own_below r3 hb4, r4, own_below r5 hb4, r6, r7, o39, by omega⟩
  clear cs hb4 o39 R3 x0 x1
  go_upto_region 7 with (at_builtin; refine app_spots8 _ rfl (.tmp 34) (.tmp 39) rfl w1.heap.size (.slice a9 pf c9) pf (SPAN 0 F) rfl R4.out.2.2.1 w3.heap.size a39 sl c39 (SPAN F S) rfl R4.out.2.2.2.2.2.2.2.1 (by have := HA.out.2.2.2.2.2.2.2.2.2.1; omega) R4.out.2.2.2.2.2.2.2.2 ?_; intro a40 c40 w5 hown5 hgrow5)
  rw [show pf + sl = n by omega] at hown5 ⊢
  have R5 : Aside (Below w.heap.size w w5 ∧ Has w5 b3 #[.int .u64 (F : Int), .int .u64 (S : Int), .slice a n c] 34 ∧ w5.ownsRow w1.heap.size 64 2 (.slice a40 n c40) n (SCELLS (PXS F S)) ∧ w5.ownsRow w2.heap.size 23 32 (.slice a10 pf c10) pf (CELLS (l.take (32 * pf))) ∧ w.heap.size ≤ w2.heap.size) := by
    obtain ⟨r1, r2, r3, r4, r5, r6, r7, r8, r9⟩ := R4.out
    refine ⟨r1.grown hgrow5 r1.size (fun k e => by have := (r3.lt k e).1; omega), (hgrow5.block b3 r2.lt (fun e => ?_)).trans r2, hown5, own_heap r5 fun k e => hgrow5.block k (r5.lt k e).2 (fun e2 => ?_), by omega⟩
    · have h1 := (r3.lt b3 e.symm).1
      have h2 := B3.out
      omega
    · have h1 := (r5.lt k e).1
      have h2 := r6 k e2.symm
      omega
  clear hown5 hgrow5 R4 hlen hsl pc1 pc2 B3
  have x1 := R5.out.2.1.cell 1
  have ct := tops8_ok S HA.out.2.1 w5
  rw [HP.out.2] at ct
  go_wp2_with fail
  refine ct.mono ?_
  rintro e w6 ⟨a11, c11, rfl, o11, hb6⟩
  have R6 : Aside (Below w.heap.size w w6 ∧ Has w6 b3 #[.int .u64 (F : Int), .int .u64 (S : Int), .slice a n c] 34 ∧ Lie w6 a40 (PXS F S) ∧ w6.ownsRow w2.heap.size 23 32 (.slice a10 pf c10) pf (CELLS (l.take (32 * pf))) ∧ w.heap.size ≤ w2.heap.size ∧ w.heap.size ≤ w6.heap.size) := by
    obtain ⟨r1, r2, r3, r4, r5⟩ := R5.out
    have hb := r1.trans (hb6.mono r1.size)
    obtain ⟨ad, cap, e, hLie⟩ := lie_own HA.out.2.2.1.symm (own_below r3 hb6)
    cases e
    exact ⟨hb, r2.keep hb6, hLie, own_below r4 hb6, r5, hb.size⟩
  have O6 : Aside (w6.ownsRow w5.heap.size 64 2 (.slice a11 ps c11) ps (SCELLS (SPAN 0 S))) := o11
  clear ct hb6 o11 R5 x1
  have hcase : (ps = 0 ∧ SPAN 0 S = []) ∨ ∃ gt, a11 = some ⟨gt, 0, none⟩ := by
    rcases O6.out.2 with ⟨e, h0⟩ | ⟨g, cap, cur, e, _⟩
    · refine .inl ⟨h0, List.eq_nil_of_length_eq_zero ?_⟩
      rw [HA.out.2.2.2.2.2.2.2.1]
      exact h0
    · cases e
      exact .inr ⟨g, rfl⟩
  rcases hcase with ⟨rfl, hnil⟩ | ⟨gt, rfl⟩
  · have HN : Aside (SPAN 0 S = []) := hnil
    clear O6 hnil
    go_wp2_with fail
    refine wp_loop_rounds 1 ?_
    rw [rounds_succ]
    go_wp2_with fail
    go_ret3
    exact ⟨_, _, none, 0, rfl, own_mono R6.out.2.2.2.1 R6.out.2.2.2.2.1, (by rw [HN.out]; exact World.ownsRow_nil _ _ _ _), R6.out.1, fun k _ h => by cases h⟩
  · have G6 : Aside (gt < w6.heap.size ∧ ∀ (j h k : Nat), (SPAN 0 S)[j]? = some (h, k) → w6.cell? ⟨gt, j * 2, none⟩ = some (.int .u8 (h : Int)) ∧ w6.cell? ⟨gt, j * 2 + 1, none⟩ = some (.int .u64 (k : Int))) := by
      refine ⟨(O6.out.lt gt rfl).2, fun j h k e => ?_⟩
      obtain ⟨ad, cap, e2, hLie⟩ := lie_own HA.out.2.2.2.2.2.2.2.1 O6.out
      cases e2
      obtain ⟨g, o, e3, _, hg⟩ := hLie (by have := (List.getElem?_eq_some_iff.1 e).1; omega)
      cases e3
      have := hg j h k e
      simpa using this
    obtain ⟨V, hV⟩ : ∃ V, VH d (PXS F S) l = V := ⟨_, rfl⟩
    rw [hV]
    have HV : Aside (VH d (PXS F S) l = V ∧ ∀ x y, IsH (V x y)) := ⟨hV, fun x y => by rw [← hV]; exact VH_is HA.out.2.2.2.2.2.1.1 HA.out.2.2.2.2.2.1.2.2 (by have := HA.out.2.2.1; omega) x y⟩
    clear hV O6
    go_wp2_with fail
    go_loopg [12, 13, 14] ps (fun q s12 s13 s14 wx => ∃ (i p b : Nat), s13 = .int .i64 (p : Int) ∧ s14 = .int .i64 (i : Int) ∧ Aside (i + q = ps ∧ Tile b ((SPAN 0 S).drop i) S ∧ Tile b ((PXS F S).drop p) S ∧ p ≤ n ∧ wx.ownsRow w6.heap.size 23 32 s12 i (CELLS (CAT V ((SPAN 0 S).take i))) ∧ Below w6.heap.size w6 wx))
    case atStart => exact ⟨0, 0, 0, rfl, rfl, by omega, tile_span HA.out.2.1 (Nat.zero_le _), PXS_tile HA.out.1 HA.out.2.1, Nat.zero_le _, World.ownsRow_nil _ _ _ _, Below.refl _ _⟩
    case round =>
      obtain ⟨i, p, b, rfl, rfl, A⟩ := hrel
      cases gk with
      | zero =>
        obtain rfl : i = ps := by have := A.out.1; omega
        have hlt : ¬ (i : Int) < (i : Int) := by omega
        obtain ⟨a12, c12, rfl⟩ := own_sliced8 A.out.2.2.2.2.1
        have FN : Aside (wr.ownsRow w.heap.size 23 32 (.slice a10 pf c10) pf (CELLS (l.take (32 * pf))) ∧ wr.ownsRow w.heap.size 23 32 (.slice a12 i c12) i (CELLS (CAT (VH d (PXS F S) l) (SPAN 0 S))) ∧ Below w.heap.size w wr ∧ ∀ k, (Value.slice a10 pf c10).ownBlock = some k → (Value.slice a12 i c12).ownBlock ≠ some k) := by
          obtain ⟨_, _, _, _, r5, r6⟩ := A.out
          rw [HV.out.1]
          rw [List.take_of_length_le (by have := HA.out.2.2.2.2.2.2.2.1; omega)] at r5
          exact ⟨own_mono (own_below R6.out.2.2.2.1 r6) R6.out.2.2.2.2.1, own_mono r5 R6.out.2.2.2.2.2, R6.out.1.trans (r6.mono R6.out.1.size), fun k e1 e2 => by have h1 := (R6.out.2.2.2.1.lt k e1).2; have h2 := (r5.lt k e2).1; omega⟩
        clear A HA HP HV G6 R6
        go_wp2_with fail
        go_ret3
        exact ⟨_, _, _, _, rfl, FN.out.1, FN.out.2.1, FN.out.2.2.1, FN.out.2.2.2⟩
      | succ q =>
        have hi : i < ps := by have := A.out.1; omega
        have hlt : (i : Int) < (ps : Int) := by omega
        obtain ⟨⟨h, k⟩, eh⟩ : ∃ s, (SPAN 0 S)[i]? = some s := ⟨_, List.getElem?_eq_getElem (by have := HA.out.2.2.2.2.2.2.2.1; omega)⟩
        have TL : Aside (∃ j, p + j ≤ n ∧ Tile (k * 2 ^ h) (((PXS F S).drop p).take j) ((k + 1) * 2 ^ h) ∧ Tile ((k + 1) * 2 ^ h) ((PXS F S).drop (p + j)) S ∧ Tile ((k + 1) * 2 ^ h) ((SPAN 0 S).drop (i + 1)) S ∧ Node h k) := by
          obtain ⟨r1, r2, r3, r4, _⟩ := A.out
          obtain ⟨g1, g2⟩ := List.getElem?_eq_some_iff.1 eh
          rw [List.drop_eq_getElem_cons g1, g2] at r2
          obtain ⟨t1, t2, t3⟩ := r2
          dsimp only at t1 t2 t3
          obtain ⟨j, j1, j2, j3⟩ := tile_cut r3 (by have := succ_pow k h; have := Nat.two_pow_pos h; omega) t3.bound.1 (peak_cut HA.out.1 HA.out.2.1 (List.mem_of_getElem? eh))
          rw [List.length_drop] at j1
          have := HA.out.2.2.1
          exact ⟨j, by omega, by rw [t2]; exact j2, by rw [List.drop_drop] at j3; exact j3, t3, t1⟩
        obtain ⟨j, hj, T1, T2, T3, hN⟩ := TL.out
        have e1 : wrap64 ((i : Int) + 1) = ((i + 1 : Nat) : Int) := by have := HA.out.2.2.2.2.2.2.2.2.2.2.1; unfold wrap64; omega
        have H2 : Aside (i + 1 + q = ps ∧ p + j ≤ n ∧ Tile ((k + 1) * 2 ^ h) ((PXS F S).drop (p + j)) S ∧ Tile ((k + 1) * 2 ^ h) ((SPAN 0 S).drop (i + 1)) S ∧ CAT V ((SPAN 0 S).take (i + 1)) = CAT V ((SPAN 0 S).take i) ++ V h k ∧ i ≤ 64) := ⟨by have := A.out.1; omega, hj, T2, T3, CAT_next eh, by have := HA.out.2.2.2.2.2.2.2.2.2.2.1; omega⟩
        have CO : Aside (∀ W, Below w6.heap.size w6 W → Calls Tryz.prog 33 #[.int .i64 d, .agg #[.int .u8 (h : Int), .int .u64 (k : Int)], .slice a40 n c40, .slice a n c, .int .i64 (p : Int)] W fun e w' => e = .returned (.tuple #[.agg (CELLS (V h k)).toArray, .int .i64 ((p + j : Nat) : Int)]) ∧ Below W.heap.size W w') := fun W hb => by
          rw [← HV.out.1]
          have hbw := R6.out.1.trans (hb.mono R6.out.1.size)
          exact refover_ok d (PXS F S) (PXS_tile HA.out.1 HA.out.2.1).off a40 c40 a n c HA.out.2.2.1.symm (by have := HA.out.2.2.2.2.2.2.2.2.2.1; omega) l HA.out.2.2.2.2.2.1.1 HA.out.2.2.2.2.2.1.2.2 h k p j W hN (R6.out.2.2.1.below hb) (HA.out.2.2.2.2.2.1.below hbw) hj T1
        have XC : Aside (∀ W, Below w6.heap.size w6 W → W.cell? ⟨gt, i * 2, none⟩ = some (.int .u8 (h : Int)) ∧ W.cell? ⟨gt, i * 2 + 1, none⟩ = some (.int .u64 (k : Int)) ∧ W.cell? ⟨b3, 2, none⟩ = some (.slice a n c)) := fun W hb => ⟨(hb.cell (p := ⟨gt, i * 2, none⟩) G6.out.1).trans (G6.out.2 i h k eh).1, (hb.cell (p := ⟨gt, i * 2 + 1, none⟩) G6.out.1).trans (G6.out.2 i h k eh).2, (R6.out.2.1.keep hb).cell 2⟩
        have y32 := (HV.out.2 h k).1
        have B6 : Aside (gt < w6.heap.size ∧ b3 < w6.heap.size) := ⟨G6.out.1, R6.out.2.1.lt⟩
        have A2 : Aside (wr.ownsRow w6.heap.size 23 32 u12 i (CELLS (CAT V ((SPAN 0 S).take i))) ∧ Below w6.heap.size w6 wr) := A.out.2.2.2.2
        clear A TL T1 T2 T3 hN hj hi eh HA HP HV G6 R6
        generalize V h k = Y at *
        generalize p + j = p2 at *
        go_upto_region 14 with fail
        rw [show (#[.int .u8 0, .int .u8 0, .int .u8 0, .int .u8 0, .int .u8 0, .int .u8 0, .int .u8 0, .int .u8 0, .int .u8 0, .int .u8 0, .int .u8 0, .int .u8 0, .int .u8 0, .int .u8 0, .int .u8 0, .int .u8 0, .int .u8 0, .int .u8 0, .int .u8 0, .int .u8 0, .int .u8 0, .int .u8 0, .int .u8 0, .int .u8 0, .int .u8 0, .int .u8 0, .int .u8 0, .int .u8 0, .int .u8 0, .int .u8 0, .int .u8 0, .int .u8 0] : Array Value) = (CELLS ZND).toArray from rfl]
        have M1 : Aside (Below w6.heap.size w6 (wr.alloc (.cells (CELLS ZND).toArray 23)) ∧ Has (wr.alloc (.cells (CELLS ZND).toArray 23)) wr.heap.size (CELLS ZND).toArray 23 ∧ (wr.alloc (.cells (CELLS ZND).toArray 23)).ownsRow w6.heap.size 23 32 u12 i (CELLS (CAT V ((SPAN 0 S).take i))) ∧ (∀ k, u12.ownBlock = some k → k < wr.heap.size) ∧ w6.heap.size ≤ wr.heap.size) := ⟨A2.out.2.alloc A2.out.2.size _, Has.new _ _ _, A2.out.1.alloc _, fun k e => (A2.out.1.lt k e).2, A2.out.2.size⟩
        generalize wr.alloc (.cells (CELLS ZND).toArray 23) = wa at *
        generalize wr.heap.size = bx at *
        have K1 : Aside (∀ W, Below wa.heap.size wa W → Below w6.heap.size w6 W) := fun W hb => M1.out.1.trans (hb.mono M1.out.1.size)
        refine refreach14 _ d b3 bx gt ps c11 i p p2 h k n a40 c40 a c ZND Y rfl y32 hlt (by have := B6.out.1; have := M1.out.2.2.2.2; omega) (by have := B6.out.2; have := M1.out.2.2.2.2; omega) (fun W => Below wa.heap.size wa W) (fun W => Below wa.heap.size wa W) (Below.refl _ _).drew (fun W hb => XC.out W (K1.out W hb)) (fun W hb => XC.out W (K1.out W hb)) (fun W hb => M1.out.2.1.keep hb) (fun W hb => (CO.out W (K1.out W hb)).mono fun e w' h => ⟨h.1, hb.trans (h.2.mono hb.size)⟩) (fun _ _ _ _ _ h => h) ?_
        rintro w7 ⟨wx, hbx, rfl⟩
        have M2 : Aside (Below w6.heap.size w6 (wx.setRow bx (CELLS Y).toArray) ∧ (wx.setRow bx (CELLS Y).toArray).ownsRow w6.heap.size 23 32 u12 i (CELLS (CAT V ((SPAN 0 S).take i)))) := by
          obtain ⟨r1, r2, r3, r4, r5⟩ := M1.out
          have o := own_below r3 hbx
          exact ⟨below_row (K1.out wx hbx) r5 _, own_heap o fun k e => setRow_other wx bx k _ (by have := r4 k e; omega)⟩
        have h7 : Has (wx.setRow bx (CELLS Y).toArray) bx (CELLS Y).toArray 23 := (M1.out.2.1.keep hbx).row _
        clear M1 K1 hbx CO XC B6 A2
        generalize wx.setRow bx (CELLS Y).toArray = w8 at *
        go_wp2_with (first
          | (refine wpList_load_row rfl 23 (.tmp 15) rfl bx rfl 23 (CELLS Y).toArray (0, 0) _ h7 Tryz.underlying23 rfl (info_arr y32) ?_)
          | (refine build_one _ rfl 32 23 (.tmp 64) rfl (CELLS Y).toArray rfl 32 _ _ Tryz.underlying32 info_hashv (by simp [CELLS, y32]) rfl (by decide) (by decide) ?_)
          | (at_builtin; refine app_hash _ rfl (.tmp 63) (.tmp 65) rfl w6.heap.size u12 i _ rfl (M2.out.2.alloc _) _ 1 Y y32 rfl (Has.new _ _ _) (by have := H2.out.2.2.2.2.2; omega) (by have := M2.out.1.size; simp; omega) ?_; intro g9 c9' w9 hown hgrow hat hg))
        have R9 : Aside (i + 1 + q = ps ∧ Tile ((k + 1) * 2 ^ h) ((SPAN 0 S).drop (i + 1)) S ∧ Tile ((k + 1) * 2 ^ h) ((PXS F S).drop p2) S ∧ p2 ≤ n ∧ w9.ownsRow w6.heap.size 23 32 (.slice (some ⟨g9, 0, none⟩) (i + 1) c9') (i + 1) (CELLS (CAT V ((SPAN 0 S).take (i + 1)))) ∧ Below w6.heap.size w6 w9) := by
          obtain ⟨r1, r2, r3, r4, r5, r6⟩ := H2.out
          rw [r5, CELLS_append]
          exact ⟨r1, r4, r3, r2, hown, (M2.out.1.alloc M2.out.1.size _).grown hgrow (by have := M2.out.1.size; simp; omega) (fun k e => (M2.out.2.lt k e).1)⟩
        clear hown hgrow hat hg M2 H2 h7 y32
        go_wp2_with fail
        go_roundg q
        case measure => omega
        case rel => exact ⟨i + 1, p2, (k + 1) * 2 ^ h, rfl, by first | rfl | (rw [e1]), R9.out⟩
theorem refreach_ok (d : Int) (F S t : Nat) (hF : F < 2 ^ 64) (hS : S < 2 ^ 64) (hLW : LOWS F t) (a : Option Addr) (n c : Nat) (hn : n ≤ 1000) (hnc : n ≤ c) (hnil : a = none → c = 0) (l : List Int) (w : World) (hL : Flat w a n l) :
    Calls Tryz.prog 12 #[.int .i64 d, .agg #[.int .u64 (F : Int), .int .u64 (S : Int), .slice a n c]] w (ANSR w (RCA d (JSX F S t) F S n l)) := by
  unfold RCA
  by_cases h1 : (PPA F S).1 = 0
  · rw [if_neg (by simpa using h1)]
    have hb : F ≤ S ∧ S ≤ 4611686018427387904 := by
      unfold PPA at h1
      split at h1
      · simp at h1
      · omega
    have hPL : PPA F S = (0, PLCS (PXS F S)) := by
      unfold PPA
      rw [if_neg (by omega)]
    by_cases h2 : n = (PPA F S).2.length
    · rw [if_neg (by simpa using h2)]
      exact refreach_core d F S t hb.1 hb.2 hLW a n c (by rw [h2, hPL]; exact PLCS_length _) hnc hnil l w hL
    · rw [if_pos h2]
      exact refreach_err d F S hF hS a n c hn l w hL 70 (by unfold ENX ENCB; rw [if_neg (by simpa using h1), if_pos h2]) (by decide)
  · rw [if_pos h1]
    exact refreach_err d F S hF hS a n c hn l w hL _ (by unfold ENX ENCB; rw [if_pos h1]) h1
end Go.Proofs.YtkcfhgflgkejoaaGreatDoor

/- The region of massifref6.Bag that draws its order, hashes as lists. -/
namespace Go.Proofs.YtkcfhgflgkejoaaGreatDoor
open Go.RowKit
set_option maxRecDepth 100000

end Go.Proofs.YtkcfhgflgkejoaaGreatDoor

/- What the document's Bag answers of as many peaks as there are, hashes as lists. -/
namespace Go.Proofs.YtkcfhgflgkejoaaGreatDoor
open Go.RowKit
set_option maxRecDepth 100000

end Go.Proofs.YtkcfhgflgkejoaaGreatDoor

/- What Bag of package mmr and under of package verify answer. -/
namespace Go.Proofs.YtkcfhgflgkejoaaGreatDoor
open Go.RowKit
set_option maxRecDepth 100000

set_option maxHeartbeats 4000000 in
theorem bag_ok (d : Int) (n : Nat) (hn : n < 2 ^ 64) (a : Option Addr) (k c : Nat) (l : List Int) (w : World) (hF : Flat w a k l) (hX : HX.Tabled w) :
    Calls Tryz.prog 56 #[.int .i64 d, .int .u64 (n : Int), .slice a k c] w fun e w' => e = .returned (.tuple #[.agg (CELLS (BAGA d n k l).2).toArray, .int .i64 (BAGA d n k l).1]) ∧ Below w.heap.size w w' := by
  have R0 : Aside (Below w.heap.size w (w.alloc (.cells ZARR 23)) ∧ Has (w.alloc (.cells ZARR 23)) w.heap.size (CELLS ZND).toArray 23) := ⟨(Below.refl _ _).alloc (Nat.le_refl _) _, by rw [ZARR_eq]; exact Has.new _ _ _⟩
  have HA : Aside (Flat w a k l ∧ HX.Tabled w ∧ n < 2 ^ 64) := ⟨hF, hX, hn⟩
  clear hF hX
  by_cases h1 : 4611686018427387904 < n
  · have e : BAGA d n k l = (30, ZND) := if_pos h1
    rw [e]
    have h1' : (4611686018427387904 : Int) < (n : Int) := by omega
    clear e HA hn
    go_enter Tryz.func56, Tryz.ntmps56
    go_upto_region 2 with fail
    rw [show (#[.int .u8 0, .int .u8 0, .int .u8 0, .int .u8 0, .int .u8 0, .int .u8 0, .int .u8 0, .int .u8 0, .int .u8 0, .int .u8 0, .int .u8 0, .int .u8 0, .int .u8 0, .int .u8 0, .int .u8 0, .int .u8 0, .int .u8 0, .int .u8 0, .int .u8 0, .int .u8 0, .int .u8 0, .int .u8 0, .int .u8 0, .int .u8 0, .int .u8 0, .int .u8 0, .int .u8 0, .int .u8 0, .int .u8 0, .int .u8 0, .int .u8 0, .int .u8 0] : Array Value) = ZARR from rfl]
    generalize w.alloc (.cells ZARR 23) = W0 at *
    go_wp2_with (rw [show (#[.int .u8 0, .int .u8 0, .int .u8 0, .int .u8 0, .int .u8 0, .int .u8 0, .int .u8 0, .int .u8 0, .int .u8 0, .int .u8 0, .int .u8 0, .int .u8 0, .int .u8 0, .int .u8 0, .int .u8 0, .int .u8 0, .int .u8 0, .int .u8 0, .int .u8 0, .int .u8 0, .int .u8 0, .int .u8 0, .int .u8 0, .int .u8 0, .int .u8 0, .int .u8 0, .int .u8 0, .int .u8 0, .int .u8 0, .int .u8 0, .int .u8 0, .int .u8 0] : Array Value) = (CELLS ZND).toArray from rfl]; refine wpList_store_row rfl 23 (.tmp 6) (.tmp 10) rfl _ _ rfl rfl 23 _ R0.out.2 (info_arr rfl) rfl (cells_one ZND) ?_)
    refine bodyPost_ret (v := .tuple #[.agg (CELLS ZND).toArray, .int .i64 30]) (results_two rfl _ _ w.heap.size 23 _ (0, 0) _ _ _ rfl rfl (Has.row R0.out.2 _) Tryz.underlying23 (info_arr rfl)) rfl ⟨rfl, below_row R0.out.1 (Nat.le_refl _) _⟩
  have h1' : ¬ (4611686018427387904 : Int) < (n : Int) := by omega
  have hpop := POP_PC hn
  by_cases h2 : k = PC n
  · have e : BAGA d n k l = (0, ROOTH d n (FLD d l k)) := by unfold BAGA; rw [if_neg h1, if_neg (by simpa using h2)]
    rw [e]
    have hk : Aside (k ≤ 64) := by have := PC_lt_pow 64 n hn; show k ≤ 64; omega
    have e2 : (k : Int) = ((POP n : Nat) : Int) := by rw [hpop, h2]
    clear e h2 hpop h1
    go_enter Tryz.func56, Tryz.ntmps56
    go_upto_region 3 with fail
    rw [show (#[.int .u8 0, .int .u8 0, .int .u8 0, .int .u8 0, .int .u8 0, .int .u8 0, .int .u8 0, .int .u8 0, .int .u8 0, .int .u8 0, .int .u8 0, .int .u8 0, .int .u8 0, .int .u8 0, .int .u8 0, .int .u8 0, .int .u8 0, .int .u8 0, .int .u8 0, .int .u8 0, .int .u8 0, .int .u8 0, .int .u8 0, .int .u8 0, .int .u8 0, .int .u8 0, .int .u8 0, .int .u8 0, .int .u8 0, .int .u8 0, .int .u8 0, .int .u8 0] : Array Value) = ZARR from rfl]
    generalize w.alloc (.cells ZARR 23) = W0 at *
    go_wp2_with fail
    refine (onescount_ok n hn W0).mono ?_
    rintro e w1 ⟨rfl, rfl⟩
    go_wp2_with fail
    refine (folded_ok d a k c (by have := hk.out; omega) l W0 (HA.out.1.below R0.out.1) (HA.out.2.1.below R0.out.1)).mono ?_
    rintro e w1 ⟨rfl, hb⟩
    have R1 : Aside (Below w.heap.size w w1 ∧ Has w1 w.heap.size (CELLS ZND).toArray 23) := ⟨R0.out.1.trans (hb.mono R0.out.1.size), R0.out.2.keep hb⟩
    clear hb R0
    have hI := FLD_is (d := d) HA.out.1.1 HA.out.1.2.2
    go_wp2_with fail
    refine (rooth_ok d n hn (FLD d l k) hI w1 (HA.out.2.1.below R1.out.1)).mono ?_
    rintro e w2 ⟨rfl, hb⟩
    have R2 : Aside (Below w.heap.size w w2 ∧ Has w2 w.heap.size (CELLS ZND).toArray 23) := ⟨R1.out.1.trans (hb.mono R1.out.1.size), R1.out.2.keep hb⟩
    clear hb R1 hI
    have y32 := (ROOTH_is d n (FLD d l k)).1
    generalize hY : ROOTH d n (FLD d l k) = Y at *
    go_wp2_with (refine wpList_store_row rfl 23 (.tmp 6) (.tmp 22) rfl _ _ rfl rfl 23 _ R2.out.2 (info_arr y32) (by simp [CELLS, y32]; rfl) (cells_one Y) ?_)
    refine bodyPost_ret (v := .tuple #[.agg (CELLS Y).toArray, .int .i64 0]) (results_two rfl _ _ w.heap.size 23 _ (0, 0) _ _ _ rfl rfl (Has.row R2.out.2 _) Tryz.underlying23 (info_arr y32)) rfl ⟨by rw [hY], below_row R2.out.1 (Nat.le_refl _) _⟩
  · have e : BAGA d n k l = (70, ZND) := by unfold BAGA; rw [if_neg h1, if_pos h2]
    rw [e]
    exact bag_count d n hn a k c w h1' (by rw [hpop]; exact h2)
end Go.Proofs.YtkcfhgflgkejoaaGreatDoor
