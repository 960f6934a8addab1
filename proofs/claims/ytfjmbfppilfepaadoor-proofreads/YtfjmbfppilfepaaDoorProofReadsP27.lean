/- Texts of ProofReads, one behind the other: ProofOwned, NumRefBytes, NumRefLong. -/
import Derived.Test.YtfjmbfppilfepaaDoorProofReadsP19
import Derived.Test.YtfjmbfppilfepaaDoorProofReadsP23
import Derived.Test.YtfjmbfppilfepaaDoorProofReadsP26
/- What is read stands in rows of one's own; families of such rows, none in another's block. -/
namespace Go.Proofs.YtfjmbfppilfepaaDoor
open Go.RowKit
set_option maxRecDepth 100000

theorem DC3_err (PF : Nat → Nat → Int × List Nat) (X Y : Nat) (t : List Int) : DC3 PF X Y t = DERR (DC3 PF X Y t).1 ∨ (DC3 PF X Y t).1 = 0 := by
  unfold DC3
  split
  · exact .inl rfl
  · split
    · exact .inl rfl
    · split
      · exact .inl rfl
      · exact .inr rfl
theorem DC2_err (PF : Nat → Nat → Int × List Nat) (X : Nat) (t : List Int) : DC2 PF X t = DERR (DC2 PF X t).1 ∨ (DC2 PF X t).1 = 0 := by
  unfold DC2
  split
  · exact .inl rfl
  · exact DC3_err _ _ _ _
theorem DC1_err (chk : Nat → Bool) (PF : Nat → Nat → Int × List Nat) (t : List Int) : DC1 chk PF t = DERR (DC1 chk PF t).1 ∨ (DC1 chk PF t).1 = 0 := by
  unfold DC1
  split
  · exact .inl rfl
  · split
    · exact .inl rfl
    · exact DC2_err _ _ _
theorem DC0_err {K : Int} {chk : Nat → Bool} {PF : Nat → Nat → Int × List Nat} {l : List Int} (h : (DC0 K chk PF l).1 ≠ 0) : DC0 K chk PF l = DERR (DC0 K chk PF l).1 := by
  have : DC0 K chk PF l = DERR (DC0 K chk PF l).1 ∨ (DC0 K chk PF l).1 = 0 := by
    unfold DC0
    split
    · exact .inl rfl
    · split
      · exact .inl rfl
      · exact DC1_err _ _ _
  rcases this with h1 | h1
  · exact h1
  · exact absurd h1 h
theorem own_of_has {w : World} {B g N : Nat} {l : List Int} (h : Has w g (CELLS l).toArray 53) (hl : l.length = 32 * N) (hB : B ≤ g) (hN : N ≤ 1000) : w.ownsRow B 53 32 (.slice (some ⟨g, 0, none⟩) N N) N (CELLS l) := by
  refine ⟨by rw [CELLS, List.length_map, hl, Nat.mul_comm], .inr ⟨g, N, _, rfl, hB, h, Nat.le_refl _, by simp [maxLen]; omega, ?_, ?_⟩⟩
  · simp [CELLS, hl, Nat.mul_comm]
  · rw [List.take_of_length_le (by simp [CELLS, hl]; omega)]
/-- a proof is answered, its nodes in a row of one's own; or an error, and all is zero. -/
def DECO (w : World) (D : DANS) (e : Ending) (w' : World) : Prop :=
  ∃ a c, e = .returned (.tuple #[.agg #[.int .u64 (D.2.1 : Int), .int .u64 (D.2.2.1 : Int), .slice a D.2.2.2.1 c], .int .i64 D.1]) ∧ w'.ownsRow w.heap.size 53 32 (.slice a D.2.2.2.1 c) D.2.2.2.1 (CELLS D.2.2.2.2) ∧ (∀ x ∈ D.2.2.2.2, 0 ≤ x ∧ x ≤ 255) ∧ Below w.heap.size w w'
theorem DECD.own {w w' : World} {K : Int} {chk : Nat → Bool} {PF : Nat → Nat → Int × List Nat} {l : List Int} {e : Ending} (h : DECD w (DC0 K chk PF l) e w') (hf : (DC0 K chk PF l).1 = 0 → (DC0 K chk PF l).2.2.2.1 ≤ 1000) : DECO w (DC0 K chk PF l) e w' := by
  obtain ⟨v, rfl, hb, h⟩ := h
  rcases h with ⟨hE, rfl⟩ | ⟨hE, h1, h2, h3, h4, g, rfl, hg, hh⟩
  · have hD := DC0_err hE
    rw [hD]
    refine ⟨none, 0, rfl, World.ownsRow_nil _ _ _ _, by simp [DERR], hb⟩
  · exact ⟨_, _, rfl, own_of_has hh h3 hg (hf hE), h4, hb⟩
theorem DEC_few {l : List Int} (hr : ∀ x ∈ l, 0 ≤ x ∧ x ≤ 255) (h : (DEC l).1 = 0) : (DEC l).2.2.2.1 ≤ 188 := by
  obtain ⟨E, S, I, N, t, hD⟩ : ∃ E S I N t, DEC l = (E, S, I, N, t) := ⟨_, _, _, _, _, rfl⟩
  rw [hD] at h ⊢
  obtain rfl : E = 0 := h
  obtain ⟨_, _, _, _, h5, _⟩ := DC_back hr hD
  have := PLA_few I S
  show N ≤ 188
  omega
theorem DEX_few {l : List Int} (hr : ∀ x ∈ l, 0 ≤ x ∧ x ≤ 255) (h : (DEX l).1 = 0) : (DEX l).2.2.2.1 ≤ 188 := by
  obtain ⟨E, S, I, N, t, hD⟩ : ∃ E S I N t, DEX l = (E, S, I, N, t) := ⟨_, _, _, _, _, rfl⟩
  rw [hD] at h ⊢
  obtain rfl : E = 0 := h
  obtain ⟨_, _, _, _, h5, _⟩ := DC_back hr hD
  have := PPA_few S I
  show N ≤ 188
  omega
theorem DC0_few {K : Int} {chk : Nat → Bool} {PF : Nat → Nat → Int × List Nat} {l : List Int} {k : Nat} (h : (DC0 K chk PF l).1 = 0 → (DC0 K chk PF l).2.2.2.1 ≤ k) : (DC0 K chk PF l).2.2.2.1 ≤ k := by
  by_cases hE : (DC0 K chk PF l).1 = 0
  · exact h hE
  · rw [DC0_err hE]
    exact Nat.zero_le _
theorem decode_own (a : Option Addr) (n c : Nat) (hn : n ≤ 1000000) (l : List Int) (w : World) (hB : Bytes w a n l) (hc : n ≤ c) (hT : Tabled w) (h0 : 0 < w.heap.size) : Calls Tryd.prog 9 #[.slice a n c] w (DECO w (DEC l)) :=
  (decode_ok a n c hn l w hB hc hT h0).mono fun _ _ h => DECD.own h fun hE => Nat.le_trans (DEC_few hB.2.2 hE) (by decide)
theorem decodeprefix_own (a : Option Addr) (n c : Nat) (hn : n ≤ 1000000) (l : List Int) (w : World) (hB : Bytes w a n l) (hc : n ≤ c) (hT : Tabled w) (h0 : 0 < w.heap.size) : Calls Tryd.prog 13 #[.slice a n c] w (DECO w (DEX l)) :=
  (decodeprefix_ok a n c hn l w hB hc hT h0).mono fun _ _ h => DECD.own h fun hE => Nat.le_trans (DEX_few hB.2.2 hE) (by decide)
/-- M rows of one's own, of one kind, none in another's block, none in a block of K. -/
structure FAM (M : Nat) (t : TypeId) (s : Nat) (w : World) (B : Nat) (K : Nat → Prop) (v : Nat → Value) (n : Nat → Nat) (xs : Nat → List Value) : Prop where
  row : ∀ x, x < M → w.ownsRow B t s (v x) (n x) (xs x)
  apart : ∀ x y, x < M → y < M → x ≠ y → ∀ g, (v x).ownBlock = some g → (v y).ownBlock ≠ some g
  off : ∀ x, x < M → ∀ g, (v x).ownBlock = some g → ¬ K g
theorem FAM.below {M : Nat} {t : TypeId} {s : Nat} {w w' : World} {B : Nat} {K : Nat → Prop} {v : Nat → Value} {n : Nat → Nat} {xs : Nat → List Value} (h : FAM M t s w B K v n xs) (hb : Below w.heap.size w w') : FAM M t s w' B K v n xs := ⟨fun x hx => own_below (h.row x hx) hb, h.apart, h.off⟩
theorem FAM.heap {M : Nat} {t : TypeId} {s : Nat} {w w' : World} {B : Nat} {K : Nat → Prop} {v : Nat → Value} {n : Nat → Nat} {xs : Nat → List Value} (h : FAM M t s w B K v n xs) (hk : ∀ k, k < w.heap.size → ¬ K k → w'.heap[k]? = w.heap[k]?) : FAM M t s w' B K v n xs := ⟨fun x hx => own_heap (h.row x hx) fun k e => hk k ((h.row x hx).lt k e).2 (h.off x hx k e), h.apart, h.off⟩
/-- one of them is turned. -/
theorem FAM.turn {M : Nat} {t : TypeId} {s : Nat} {w w' : World} {B : Nat} {K : Nat → Prop} {v : Nat → Value} {n : Nat → Nat} {xs : Nat → List Value} (h : FAM M t s w B K v n xs) {x g m c : Nat} {ys : List Value} (hx : x < M) (hK : ∀ k, K k → k < w.heap.size)
    (hown : w'.ownsRow B t s (.slice (some ⟨g, 0, none⟩) m c) m ys) (hg : w.grownBy w' (v x).ownBlock) (hat : (v x).ownBlock = some g ∨ w.heap.size ≤ g) : FAM M t s w' B K (UPD v x (.slice (some ⟨g, 0, none⟩) m c)) (UPD n x m) (UPD xs x ys) ∧ ∀ k, K k → w'.heap[k]? = w.heap[k]? := by
  have hgx : ∀ y, y < M → y ≠ x → (v y).ownBlock ≠ some g := fun y hy hne e => by
    rcases hat with h1 | h1
    · exact h.apart x y hx hy (fun e => hne e.symm) g h1 e
    · have := ((h.row y hy).lt g e).2
      omega
  refine ⟨⟨fun y hy => ?_, fun y z hy hz hne k e => ?_, fun y hy k e hk => ?_⟩, fun k hk => hg.block k (hK k hk) fun e => h.off x hx k e.symm hk⟩
  · by_cases e : y = x
    · subst e
      rw [UPD_at, UPD_at, UPD_at]
      exact hown
    · rw [UPD_other _ _ e, UPD_other _ _ e, UPD_other _ _ e]
      exact own_heap (h.row y hy) fun k hk => hg.block k ((h.row y hy).lt k hk).2 fun e2 => h.apart x y hx hy (fun e3 => e e3.symm) k e2.symm hk
  · by_cases e1 : y = x
    · subst e1
      rw [UPD_at] at e
      have e : g = k := by simpa [Value.ownBlock] using e
      subst e
      rw [UPD_other _ _ (fun e2 => hne e2.symm)]
      exact hgx z hz fun e2 => hne e2.symm
    · rw [UPD_other _ _ e1] at e
      by_cases e2 : z = x
      · subst e2
        rw [UPD_at]
        intro e3
        have e3 : g = k := by simpa [Value.ownBlock] using e3
        subst e3
        exact hgx y hy e1 e
      · rw [UPD_other _ _ e2]
        exact h.apart y z hy hz hne k e
  · by_cases e1 : y = x
    · subst e1
      rw [UPD_at] at e
      have e : g = k := by simpa [Value.ownBlock] using e
      subst e
      rcases hat with h1 | h1
      · exact h.off y hy g h1 hk
      · have := hK g hk
        omega
    · rw [UPD_other _ _ e1] at e
      exact h.off y hy k e hk
end Go.Proofs.YtfjmbfppilfepaaDoor

/- What the document's Big, FromBig, Short and Long give. -/
namespace Go.Proofs.YtfjmbfppilfepaaDoor
open Go.RowKit

theorem pow8 (t : Nat) : (2 : Nat) ^ (8 * t) = 256 ^ t := by rw [Nat.pow_mul]
/-- an array that is filled from its end on. -/
theorem bback_put {X n t i : Nat} {f : Nat → Int} {v : Int} (A : ∀ j, j < n → f j = if n - t ≤ j then BYTE X n j else 0) (hi : i + t + 1 = n) (hv : v = ((X / 256 ^ t % 256 : Nat) : Int)) :
    ∀ j, j < n → (if j = i then v else f j) = if n - (t + 1) ≤ j then BYTE X n j else 0 := fun j hj => by
  by_cases e : j = i
  · subst e
    rw [if_pos rfl, if_pos (by omega), hv]
    unfold BYTE
    rw [show n - 1 - j = t by omega, pow8]
  · rw [if_neg e, A j hj]
    by_cases e2 : n - t ≤ j
    · rw [if_pos e2, if_pos (by omega)]
    · rw [if_neg e2, if_neg (by omega)]
theorem reffrombig_step {w : World} {a : Option Addr} {n k : Nat} {l : List Int} {x v : Int} (hB : Bytes w a n l) (hn : n ≤ 8) (hk : k < n) (hx : x = BIGV (l.take k)) (hv : l.getD k 0 = v) :
    IntKind.u64.wrap (IntKind.u64.wrap (256 * x) + IntKind.u64.wrap v) = BIGV (l.take (k + 1)) := by
  have hb := BIGV_bounds (l.take k) (fun y hy => hB.2.2 y (List.mem_of_mem_take hy))
  have hl : (l.take k).length = k := by rw [List.length_take, hB.1]; omega
  rw [hl] at hb
  have hp : (256 : Int) ^ k ≤ 72057594037927936 := by
    have h7 := Nat.pow_le_pow_right (n := 256) (by decide) (show k ≤ 7 by omega)
    have e : ((256 ^ k : Nat) : Int) = 256 ^ k := by rw [Int.natCast_pow]; rfl
    omega
  have hg := hB.get k
  rw [hv] at hg
  rw [take_next l k (by rw [hB.1]; exact hk), BIGV_snoc, hv, ← hx, wrapU, wrapU, wrapU]
  rw [← hx] at hb
  omega
set_option maxHeartbeats 1000000 in
theorem refshort_ok (X : Nat) (hX : X < 2 ^ 64) (w : World) : Calls Tryd.prog 47 #[.int .u64 (X : Int)] w fun e w' =>
    ∃ g cap, e = .returned (.slice (some ⟨g, 0, none⟩) (NTOP X + 1) cap) ∧ w'.ownsRow w.heap.size 5 1 (.slice (some ⟨g, 0, none⟩) (NTOP X + 1) cap) (NTOP X + 1) (CELLS (SHORT X)) ∧ g < w'.heap.size ∧ Below w.heap.size w w' := by
  have HX : Aside (X < 2 ^ 64) := hX
  clear hX
  go_enter Tryd.func47, Tryd.ntmps47
  go_wp2
  go_loopg [0, 3] 10 (fun g s0 s3 wx => ∃ (j x : Nat), j + g = 10 ∧ Aside (x = X / 128 ^ j ∧ (∀ i, i < j → 128 ≤ X / 128 ^ i) ∧ wx.ownsRow w.heap.size 5 1 s3 j (CELLS (GROUPS X j)) ∧ Below w.heap.size w wx) ∧ s0 = .int .u64 (x : Int))
  case atStart => exact ⟨0, X, by omega, ⟨by simp, fun i hi => by omega, World.ownsRow_nil _ _ _ _, Below.refl _ _⟩, rfl⟩
  case round =>
    obtain ⟨j, x, hjg, A, rfl⟩ := hrel
    have hxl : (x : Int) ≤ 18446744073709551615 := by
      have := Nat.div_le_self X (128 ^ j)
      have h1 := A.out.1
      have h2 := HX.out
      omega
    have HXL : Aside ((x : Int) ≤ 18446744073709551615) := hxl
    clear hxl
    by_cases hx : 128 ≤ (x : Int)
    · go_wp2_with (at_builtin; refine app_u8 _ rfl (.tmp 6) (.tmp 11) rfl w.heap.size u3 j (GROUPS X j) rfl (A.out.2.2.1.alloc _) wr.heap.size 0 1 1 [(x : Int) % 128 + 128] rfl (one_bytes wr _ (by omega) (by omega)) (by omega) (by omega) (by have := A.out.2.2.2.size; simp; omega) ?_; intro g cap w1 hown hgrow hg)
      have R : (x / 128 = X / 128 ^ (j + 1)) ∧ (∀ i, i < j + 1 → 128 ≤ X / 128 ^ i) ∧ w1.ownsRow w.heap.size 5 1 (.slice (some ⟨g, 0, none⟩) (j + 1) cap) (j + 1) (CELLS (GROUPS X (j + 1))) ∧ Below w.heap.size w w1 := by
        obtain ⟨hxe, hall, hown0, hb⟩ := A.out
        refine ⟨by rw [hxe, Nat.div_div_eq_div_mul, ← Nat.pow_succ], fun i hi => ?_, ?_, ?_⟩
        · by_cases e : i = j
          · rw [e, ← hxe]; omega
          · exact hall i (by omega)
        · rw [GROUPS_succ, show ((X / 128 ^ j % 128 + 128 : Nat) : Int) = (x : Int) % 128 + 128 by rw [← hxe]; omega]
          exact hown
        · exact (hb.alloc hb.size _).grown hgrow (by have := hb.size; simp; omega) (fun k e => (hown0.lt k e).1)
      have HR : Aside ((x / 128 = X / 128 ^ (j + 1)) ∧ (∀ i, i < j + 1 → 128 ≤ X / 128 ^ i) ∧ w1.ownsRow w.heap.size 5 1 (.slice (some ⟨g, 0, none⟩) (j + 1) cap) (j + 1) (CELLS (GROUPS X (j + 1))) ∧ Below w.heap.size w w1) := R
      have hj9 : j < 9 := by
        obtain ⟨hxe, hall, _, _⟩ := A.out
        rcases Nat.lt_or_ge j 9 with h | h
        · exact h
        · have h1 := div_anti X h
          have h2 : X / 128 ^ 9 < 2 := Nat.div_lt_of_lt_mul (Nat.lt_of_lt_of_le HX.out (by decide))
          omega
      clear hown hgrow hg R A
      go_wp2
      go_roundg (gk - 1)
      case measure => omega
      case rel => exact ⟨j + 1, x / 128, by omega, HR, by have := HXL.out; rw [show IntKind.u64.wrap ((x : Int) / 128) = ((x / 128 : Nat) : Int) by rw [wrapU]; omega]⟩
    · go_wp2_with (at_builtin; refine app_u8 _ rfl (.tmp 15) (.tmp 18) rfl w.heap.size u3 j (GROUPS X j) rfl (A.out.2.2.1.alloc _) wr.heap.size 0 1 1 [(x : Int)] rfl (one_bytes wr _ (by omega) (by omega)) (by omega) (by omega) (by have := A.out.2.2.2.size; simp; omega) ?_; intro g cap w1 hown hgrow hg)
      obtain ⟨hxe, hall, hown0, hb⟩ := A.out
      have hN : NTOP X = j := NTOP_eq HX.out hall (by rw [← hxe]; omega)
      have R : w1.ownsRow w.heap.size 5 1 (.slice (some ⟨g, 0, none⟩) (NTOP X + 1) cap) (NTOP X + 1) (CELLS (SHORT X)) ∧ g < w1.heap.size ∧ Below w.heap.size w w1 := by
        refine ⟨?_, hg, (hb.alloc hb.size _).grown hgrow (by have := hb.size; simp; omega) (fun k e => (hown0.lt k e).1)⟩
        unfold SHORT
        rw [hN, ← hxe]
        exact hown
      have HR : Aside (w1.ownsRow w.heap.size 5 1 (.slice (some ⟨g, 0, none⟩) (NTOP X + 1) cap) (NTOP X + 1) (CELLS (SHORT X)) ∧ g < w1.heap.size ∧ Below w.heap.size w w1) := R
      have HN : Aside (NTOP X = j) := hN
      clear hown hgrow hg R A hxe hall hown0 hb hN
      go_wp2
      go_ret
      obtain ⟨h1, h2, h3⟩ := HR.out
      refine ⟨g, cap, ?_, h1, h2, h3⟩
      rw [HN.out]
      rfl
end Go.Proofs.YtfjmbfppilfepaaDoor

/- What the document's Long gives. -/
namespace Go.Proofs.YtfjmbfppilfepaaDoor
open Go.RowKit

theorem reflong_empty (a : Option Addr) (c : Nat) (w : World) : Calls Tryd.prog 43 #[.slice a 0 c] w fun e w' => e = .returned (.tuple #[.int .u64 0, .int .i64 0, .int .i64 11]) ∧ w = w' := by
  go_enter Tryd.func43, Tryd.ntmps43
  go_wp2
  refine wp_loop_rounds 1 ?_
  rw [rounds_succ]
  go_wp2
  go_ret3
  exact ⟨rfl, rfl⟩
/-- the groups from j on, put together from the highest one down. -/
def Tops (d : Nat → Nat) (j : Nat) (x : Int) (V : Nat) : Prop := ∃ y : Nat, x = (y : Int) ∧ VAL d j + y * 128 ^ j = V
theorem Tops.down {d : Nat → Nat} {j V : Nat} {x v : Int} (A : Tops d (j + 1) x V) (hV : V < 2 ^ 64) (hv : (v % 128).toNat = d j) : Tops d j (IntKind.u64.wrap (IntKind.u64.wrap (128 * x) + v % 128)) V := by
  obtain ⟨y, rfl, hy⟩ := A
  have e : VAL d j + (128 * y + d j) * 128 ^ j = V := by
    rw [← hy, VAL, Nat.add_mul, Nat.pow_succ, Nat.mul_comm 128 y, Nat.mul_assoc, Nat.mul_comm 128 (128 ^ j)]
    omega
  have hl : 128 * y + d j ≤ V := by
    have h1 : (128 * y + d j) * 1 ≤ (128 * y + d j) * 128 ^ j := Nat.mul_le_mul_left _ (Nat.pow_pos (by decide))
    omega
  refine ⟨128 * y + d j, ?_, e⟩
  rw [wrapU, wrapU, ← hv]
  omega

theorem LG_all {l : List Int} {n : Nat} (hn : 10 ≤ n) (h : ∀ i, i < 10 → 128 ≤ l.getD i 0) : LG l n 10 0 0 = (0, 0, 10) := by
  have := LG_run 10 0 h (fun i hi => by omega) (n := n)
  simpa [LG] using this
theorem LG_cutoff {l : List Int} {n : Nat} (hn : n < 10) (h : ∀ i, i < n → 128 ≤ l.getD i 0) : LG l n 10 0 0 = (0, 0, 11) := by
  have := LG_run n (9 - n + 1) h (fun i hi => by omega) (n := n)
  rw [show 9 - n + 1 + n = 10 by omega, LG_end rfl] at this
  exact this
theorem LG_stop {l : List Int} {n m : Nat} (hm : m ≤ 9) (hmn : m < n) (h : ∀ i, i < m → 128 ≤ l.getD i 0) (h1 : ¬ 128 ≤ l.getD m 0) :
    LG l n 10 0 0 = if m = 9 ∧ 1 < l.getD m 0 then (0, 0, 10) else if l.getD m 0 = 0 ∧ 0 < m then (0, 0, 12) else ((VAL (DIG l) m : Nat) + l.getD m 0 * 128 ^ m, (m : Int) + 1, 0) := by
  rw [show 10 = 9 - m + 1 + m by omega, LG_run m (9 - m + 1) h (fun i hi => by omega), LG_hit (by omega) h1]

theorem ok_val {l : List Int} {k : Nat} {v r1 : Int} (hr : ∀ i, 0 ≤ l.getD i 0 ∧ l.getD i 0 ≤ 255) (hv : l.getD k 0 = v) (hk : k ≤ 9) (h1 : v < 128) (h9 : k = 9 → v ≤ 1) (he : r1 = (VAL (DIG l) k : Nat) + v * 128 ^ k) :
    Tops (DIG l) (k + 1) 0 (VAL (DIG l) (k + 1)) ∧ VAL (DIG l) (k + 1) < 2 ^ 64 ∧ r1 = ((VAL (DIG l) (k + 1) : Nat) : Int) := by
  have hd : ((DIG l k : Nat) : Int) = v := by
    have := hr k
    unfold DIG
    rw [hv] at this ⊢
    omega
  have hvl := VAL_lt (DIG_lt l) k
  refine ⟨⟨0, rfl, by simp⟩, ?_, ?_⟩
  · rw [VAL]
    by_cases h : k = 9
    · subst h
      have := h9 rfl
      have hd1 : DIG l 9 ≤ 1 := by omega
      have h3 : DIG l 9 * 128 ^ 9 ≤ 1 * 128 ^ 9 := Nat.mul_le_mul_right _ hd1
      omega
    · have h8 := Nat.pow_le_pow_right (n := 128) (by decide) (show k ≤ 8 by omega)
      have h5 : DIG l k * 128 ^ k ≤ 127 * 128 ^ 8 := Nat.mul_le_mul (by have := DIG_lt l k; omega) h8
      omega
  · rw [he, VAL, Int.natCast_add, Int.natCast_mul, Int.natCast_pow, hd]
    rfl

set_option maxHeartbeats 4000000 in
theorem reflong_raw (b off n c : Nat) (l : List Int) (r1 r2 r3 : Int) (hR : Aside (LG l n 10 0 0 = (r1, r2, r3))) (w : World) (hB : Bytes w (some ⟨b, off, none⟩) n l) (h0 : 0 < n) (hmax : n ≤ 140737488355328) :
    Calls Tryd.prog 43 #[.slice (some ⟨b, off, none⟩) n c] w fun e w' => e = .returned (.tuple #[.int .u64 r1, .int .i64 r2, .int .i64 r3]) ∧ w = w' := by
  obtain ⟨b', off', e, _, hc0⟩ := hB.2.1 h0
  simp only [Option.some.injEq, Addr.mk.injEq] at e
  obtain ⟨rfl, rfl, _⟩ := e
  have HC : Aside ((∀ i, i < n → w.cell? ⟨b, off + i, none⟩ = some (.int .u8 (l.getD i 0))) ∧ ∀ i, 0 ≤ l.getD i 0 ∧ l.getD i 0 ≤ 255) := ⟨hc0, hB.get⟩
  clear hB hc0
  go_enter Tryd.func43, Tryd.ntmps43
  go_wp2
  go_loop [5] (fun s5 => ∃ k : Nat, k ≤ n ∧ k ≤ 10 ∧ Aside (∀ i, i < k → 128 ≤ l.getD i 0) ∧ s5 = .int .i64 k) (fun i => 10 - (intOf i).toNat)
  case atStart => exact ⟨0, by omega, by omega, fun i hi => by omega, rfl⟩
  case round =>
    obtain ⟨k, hkn, hk10, A, rfl⟩ := hrel
    by_cases hlt : (k : Int) < (n : Int)
    · by_cases h10 : (k : Int) < 10
      · have hc := HC.out.1 k (by omega)
        have hcb := HC.out.2 k
        generalize hv : l.getD k 0 = v at hc hcb
        have Hv : Aside (l.getD k 0 = v) := hv
        clear hv
        have hv0 := hcb.1
        have hv1 := hcb.2
        clear hcb
        by_cases h128 : 128 ≤ v
        · go_wp2
          go_round
          case rel =>
            refine ⟨k + 1, by omega, by omega, fun i hi => ?_, by go_num⟩
            by_cases e : i = k
            · rw [e, Hv.out]; exact h128
            · exact A.out i (by omega)
          case measure => first | (simp [intOf]; done) | (simp [intOf]; omega)
        · have hst := LG_stop (l := l) (n := n) (m := k) (by omega) (by omega) A.out (by rw [Hv.out]; exact h128)
          rw [Hv.out, hR.out] at hst
          have hk10' : ((k : Int) == 10) = false := by simp; omega
          have hkn' : ((k : Int) == (n : Int)) = false := by simp; omega
          by_cases h9 : k = 9
          · subst h9
            by_cases hr : 1 < v
            · rw [if_pos ⟨rfl, hr⟩] at hst
              simp only [Prod.mk.injEq] at hst
              obtain ⟨rfl, rfl, rfl⟩ := hst
              clear A
              go_wp2
              go_ret3
              exact ⟨rfl, rfl⟩
            · rw [if_neg (fun h => hr h.2)] at hst
              by_cases hz : v = 0
              · subst hz
                rw [if_pos ⟨rfl, by decide⟩] at hst
                simp only [Prod.mk.injEq] at hst
                obtain ⟨rfl, rfl, rfl⟩ := hst
                clear A
                go_wp2
                go_ret3
                exact ⟨rfl, rfl⟩
              · rw [if_neg (fun h => hz h.1)] at hst
                simp only [Prod.mk.injEq] at hst
                have hvb : (v == 0) = false := by simp [hz]
                clear hz
                have HV : Aside (Tops (DIG l) (9 + 1) 0 (VAL (DIG l) (9 + 1)) ∧ VAL (DIG l) (9 + 1) < 2 ^ 64 ∧ r1 = ((VAL (DIG l) (9 + 1) : Nat) : Int)) := ok_val (HC.out.2) Hv.out (by omega) (by omega) (by omega) hst.1
                obtain ⟨_, rfl, rfl⟩ := hst
                clear A
                go_wp2
                go_loop [6, 7] (fun s6 s7 => ∃ (j : Nat) (x : Int), j ≤ 9 + 1 ∧ Aside (Tops (DIG l) j x (VAL (DIG l) (9 + 1))) ∧ s6 = .int .u64 x ∧ s7 = .int .i64 ((j : Int) - 1)) (fun _ s => (intOf s + 1).toNat)
                case atStart => exact ⟨9 + 1, 0, Nat.le_refl _, HV.out.1, rfl, by first | rfl | go_num⟩
                case round =>
                  obtain ⟨j, x, hj, B, rfl, rfl⟩ := hrel
                  cases j with
                  | zero =>
                    obtain rfl : x = r1 := by
                      obtain ⟨y, rfl, hy⟩ := B.out
                      rw [HV.out.2.2, ← hy]
                      simp [VAL]
                    clear B HV
                    go_wp2
                    go_ret3
                    exact ⟨rfl, rfl⟩
                  | succ i =>
                    have hi1 : ((i + 1 : Nat) : Int) - 1 = (i : Int) := by omega
                    rw [hi1]
                    have hi0 : (0 : Int) ≤ (i : Int) := by omega
                    have hin : (i : Int) < (n : Int) := by omega
                    have hci := HC.out.1 i (by omega)
                    have hcbi := HC.out.2 i
                    generalize hvi : l.getD i 0 = u at hci hcbi
                    have Hu : Aside (l.getD i 0 = u) := hvi
                    clear hvi hi1
                    have hu0 := hcbi.1
                    have hu1 := hcbi.2
                    clear hcbi
                    go_wp2
                    go_round
                    case rel => exact ⟨i, _, by omega, B.out.down HV.out.2.1 (by unfold DIG; rw [Hu.out]), rfl, by go_num⟩
                    case measure => first | (simp [intOf]; done) | (simp [intOf]; omega)
          · rw [if_neg (fun h => h9 h.1)] at hst
            have h9' : ((k : Int) == 9) = false := by simp; omega
            by_cases hk0 : k = 0
            · subst hk0
              rw [if_neg (fun h => by omega)] at hst
              rw [Nat.add_zero] at hc
              simp only [Prod.mk.injEq] at hst
              have HV : Aside (Tops (DIG l) (0 + 1) 0 (VAL (DIG l) (0 + 1)) ∧ VAL (DIG l) (0 + 1) < 2 ^ 64 ∧ r1 = ((VAL (DIG l) (0 + 1) : Nat) : Int)) := ok_val (HC.out.2) Hv.out (by omega) (by omega) (by omega) hst.1
              obtain ⟨_, rfl, rfl⟩ := hst
              clear A
              go_wp2
              go_loop [6, 7] (fun s6 s7 => ∃ (j : Nat) (x : Int), j ≤ 0 + 1 ∧ Aside (Tops (DIG l) j x (VAL (DIG l) (0 + 1))) ∧ s6 = .int .u64 x ∧ s7 = .int .i64 ((j : Int) - 1)) (fun _ s => (intOf s + 1).toNat)
              case atStart => exact ⟨0 + 1, 0, Nat.le_refl _, HV.out.1, rfl, by first | rfl | go_num⟩
              case round =>
                obtain ⟨j, x, hj, B, rfl, rfl⟩ := hrel
                cases j with
                | zero =>
                  obtain rfl : x = r1 := by
                    obtain ⟨y, rfl, hy⟩ := B.out
                    rw [HV.out.2.2, ← hy]
                    simp [VAL]
                  clear B HV
                  go_wp2
                  go_ret3
                  exact ⟨rfl, rfl⟩
                | succ i =>
                  have hi1 : ((i + 1 : Nat) : Int) - 1 = (i : Int) := by omega
                  rw [hi1]
                  have hi0 : (0 : Int) ≤ (i : Int) := by omega
                  have hin : (i : Int) < (n : Int) := by omega
                  have hci := HC.out.1 i (by omega)
                  have hcbi := HC.out.2 i
                  generalize hvi : l.getD i 0 = u at hci hcbi
                  have Hu : Aside (l.getD i 0 = u) := hvi
                  clear hvi hi1
                  have hu0 := hcbi.1
                  have hu1 := hcbi.2
                  clear hcbi
                  go_wp2
                  go_round
                  case rel => exact ⟨i, _, by omega, B.out.down HV.out.2.1 (by unfold DIG; rw [Hu.out]), rfl, by go_num⟩
                  case measure => first | (simp [intOf]; done) | (simp [intOf]; omega)
            · have hkp : 0 < (k : Int) := by omega
              by_cases hz : v = 0
              · subst hz
                rw [if_pos ⟨rfl, by omega⟩] at hst
                simp only [Prod.mk.injEq] at hst
                obtain ⟨rfl, rfl, rfl⟩ := hst
                clear A
                go_wp2
                go_ret3
                exact ⟨rfl, rfl⟩
              · rw [if_neg (fun h => hz h.1)] at hst
                simp only [Prod.mk.injEq] at hst
                have hvb : (v == 0) = false := by simp [hz]
                clear hz
                have HV : Aside (Tops (DIG l) (k + 1) 0 (VAL (DIG l) (k + 1)) ∧ VAL (DIG l) (k + 1) < 2 ^ 64 ∧ r1 = ((VAL (DIG l) (k + 1) : Nat) : Int)) := ok_val (HC.out.2) Hv.out (by omega) (by omega) (by omega) hst.1
                obtain ⟨_, rfl, rfl⟩ := hst
                clear A
                go_wp2
                go_loop [6, 7] (fun s6 s7 => ∃ (j : Nat) (x : Int), j ≤ k + 1 ∧ Aside (Tops (DIG l) j x (VAL (DIG l) (k + 1))) ∧ s6 = .int .u64 x ∧ s7 = .int .i64 ((j : Int) - 1)) (fun _ s => (intOf s + 1).toNat)
                case atStart => exact ⟨k + 1, 0, Nat.le_refl _, HV.out.1, rfl, by first | rfl | go_num⟩
                case round =>
                  obtain ⟨j, x, hj, B, rfl, rfl⟩ := hrel
                  cases j with
                  | zero =>
                    obtain rfl : x = r1 := by
                      obtain ⟨y, rfl, hy⟩ := B.out
                      rw [HV.out.2.2, ← hy]
                      simp [VAL]
                    clear B HV
                    go_wp2
                    go_ret3
                    exact ⟨rfl, rfl⟩
                  | succ i =>
                    have hi1 : ((i + 1 : Nat) : Int) - 1 = (i : Int) := by omega
                    rw [hi1]
                    have hi0 : (0 : Int) ≤ (i : Int) := by omega
                    have hin : (i : Int) < (n : Int) := by omega
                    have hci := HC.out.1 i (by omega)
                    have hcbi := HC.out.2 i
                    generalize hvi : l.getD i 0 = u at hci hcbi
                    have Hu : Aside (l.getD i 0 = u) := hvi
                    clear hvi hi1
                    have hu0 := hcbi.1
                    have hu1 := hcbi.2
                    clear hcbi
                    go_wp2
                    go_round
                    case rel => exact ⟨i, _, by omega, B.out.down HV.out.2.1 (by unfold DIG; rw [Hu.out]), rfl, by go_num⟩
                    case measure => first | (simp [intOf]; done) | (simp [intOf]; omega)
      · obtain rfl : k = 10 := by omega
        have hall := LG_all (n := n) (by omega) A.out
        rw [hR.out] at hall
        simp only [Prod.mk.injEq] at hall
        obtain ⟨rfl, rfl, rfl⟩ := hall
        clear A
        go_wp2
        go_ret3
        exact ⟨rfl, rfl⟩
    · obtain rfl : k = n := by omega
      by_cases h10 : k = 10
      · subst h10
        have hall := LG_all (n := 10) (by omega) A.out
        rw [hR.out] at hall
        simp only [Prod.mk.injEq] at hall
        obtain ⟨rfl, rfl, rfl⟩ := hall
        clear A
        go_wp2
        go_ret3
        exact ⟨rfl, rfl⟩
      · have hall := LG_cutoff (l := l) (n := k) (by omega) A.out
        rw [hR.out] at hall
        simp only [Prod.mk.injEq] at hall
        obtain ⟨rfl, rfl, rfl⟩ := hall
        have hk10' : ((k : Int) == 10) = false := by simp; omega
        clear A
        go_wp2
        go_ret3
        exact ⟨rfl, rfl⟩
theorem reflong_ok (a : Option Addr) (n c : Nat) (l : List Int) (w : World) (hB : Bytes w a n l) (hmax : n ≤ 140737488355328) :
    Calls Tryd.prog 43 #[.slice a n c] w fun e w' => e = .returned (.tuple #[.int .u64 (LG l n 10 0 0).1, .int .i64 (LG l n 10 0 0).2.1, .int .i64 (LG l n 10 0 0).2.2]) ∧ w = w' := by
  rcases Nat.eq_zero_or_pos n with h | h
  · subst h
    exact reflong_empty a c w
  · obtain ⟨b, off, rfl, _, _⟩ := hB.2.1 h
    exact reflong_raw b off n c l _ _ _ rfl w hB h hmax
end Go.Proofs.YtfjmbfppilfepaaDoor
