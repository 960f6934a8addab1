/- Texts of MmrGrows, one behind the other: MmrGrowWalk, MmrPerfect. -/
import Derived.Test.YtdmbmphdiaepdaaGreatDoorMmrGrowsP29
/- mmr.Grow lays the perfect tree. -/
namespace Go.Proofs.YtdmbmphdiaepdaaGreatDoor.HX
open Go.RowKit
set_option maxRecDepth 100000

theorem make_hashesf (N : Nat) (hN : N ≤ 1000) (w : World) : ∃ cur : Array Value, cur.size = N * 32 ∧ (Instr.makeSlice 23 (.int .i64 0) (.int .i64 (N : Int))).run Tryz.prog w = .ok (.slice (some ⟨w.heap.size, 0, none⟩) 0 N) (w.alloc (.cells cur 26)) := by
  obtain ⟨i, hi, hz, h1, h2⟩ := info_parts info_hashT
  have h := run_make (P := Tryz.prog) w 23 26 i _ Tryz.underlying23 hi hz .i64 .i64 0 N (by omega) (by omega) (by rw [h2]; omega) (by omega)
  refine ⟨madeCells (Value.agg (UARR .u8 32 fun _ => 0)).cells (N * i.size), ?_, ?_⟩
  · rw [size_madeCells, h1]
  · simpa using h
theorem own_room {w : World} {N : Nat} (hN : N ≤ 1000) {cur : Array Value} (hc : cur.size = N * 32) : (w.alloc (.cells cur 26)).ownsRow w.heap.size 26 32 (.slice (some ⟨w.heap.size, 0, none⟩) 0 N) 0 (HL []) := by
  refine ⟨rfl, .inr ⟨w.heap.size, N, cur, rfl, Nat.le_refl _, Has.new w cur 26, by omega, by simp only [maxLen]; omega, hc, by simp [HL]⟩⟩
theorem GRWS.keep {w wx w' : World} {d : Int} {n j : Nat} {v : Value} {l : List (Nat → Nat)} {f : Nat → Nat → Nat} (h : GRWS w wx d n j v l f) (hb : Below wx.heap.size wx w') : GRWS w w' d n j v l f :=
  ⟨own_keep h.own hb, h.len, h.old, h.new, h.ones, h.below.trans (hb.mono h.below.size)⟩
theorem own_at {w : World} {B g m c k : Nat} {l : List (Nat → Nat)} {f : Nat → Nat} (h : w.ownsRow B 26 32 (.slice (some ⟨g, 0, none⟩) m c) m (HL l)) (hl : l.length = m) (hk : l[k]? = some f) : w.rangeAt g (k * 32) (ULIST .u8 32 f) := by
  intro j v hv
  have hj : j < 32 := by
    have := (List.getElem?_eq_some_iff.1 hv).1
    rwa [ULIST_length] at this
  have hkm : k < m := by
    have := (List.getElem?_eq_some_iff.1 hk).1
    omega
  rw [h.cellAt (k * 32 + j) (by omega), HL_get l k j f hk hj, ← hv, ULIST_get _ _ _ _ hj]
set_option maxHeartbeats 4000000 in
theorem grow_ok (d : Int) (a : Option Addr) (n c : Nat) (hn : n ≤ 200) (hp : POP n = 1) (hs : Nat → Nat → Nat) (w : World) (hH : HASHES w a n hs) (h8 : ∀ i, i < n → ∀ j, hs i j < 256) (hX : Tabled w) :
    Calls Tryz.prog 12 #[.int .i64 d, .slice a n c] w fun e w' => ∃ v l, e = .returned (.tuple #[v, .int .i64 0]) ∧ GRWN w w' d n v l hs := by
  have hn0 : 0 < n := by
    rcases Nat.eq_zero_or_pos n with h | h
    · subst h; exact absurd hp (by decide)
    · exact h
  obtain ⟨gn, o, rfl, hgn, hcn⟩ := hH hn0
  have co := onesw_ok n (by omega) w
  rw [hp] at co
  obtain ⟨cur, hcur, hmk⟩ := make_hashesf (2 * n - 1) (by omega) w
  have hz := zeroHash
  rw [show ((2 * n - 1 : Nat) : Int) = 2 * (n : Int) - 1 by omega] at hmk
  have e2 : IntKind.u64.wrap ((n : Int)) = (n : Int) := wrap_nat (by simp) (by omega)
  have e3 : ¬ (65536 : Int) < (n : Int) := by omega
  go_enter Tryz.func12, Tryz.ntmps12
  go_wp2_with fail
  refine co.mono ?_
  rintro e w1 ⟨rfl, rfl⟩
  go_wp2_with fail
  have A0 : Aside (GRWN w (w.alloc (.cells cur 26)) d 0 (.slice (some ⟨w.heap.size, 0, none⟩) 0 (2 * n - 1)) [] hs) := ⟨own_room (by omega) hcur, rfl, fun h k hk => absurd hk (by have h1 : 0 < (k + 1) * 2 ^ h := Nat.mul_pos (Nat.succ_pos k) (Nat.two_pow_pos h); omega), (Below.refl _ _).alloc (Nat.le_refl _) _⟩
  have H : Aside (n ≤ 200 ∧ (∀ i, i < n → w.rangeAt gn (o + i * 32) (ULIST .u8 32 (hs i))) ∧ gn < w.heap.size ∧ (∀ i, i < n → ∀ j, hs i j < 256) ∧ Tabled w) := ⟨hn, hcn, hgn, h8, hX⟩
  clear hn hcn hgn h8 hX hH co hmk hcur hp e2 e3 hn0
  go_loopg [6, 29] n (fun r s6 s29 wx => ∃ (i : Nat) (l : List (Nat → Nat)), s29 = .int .i64 (i : Int) ∧ Aside (i + r = n ∧ GRWN w wx d i s6 l hs))
  case atStart => exact ⟨0, [], rfl, by omega, A0.out⟩
  case round =>
    obtain ⟨i, l, rfl, A⟩ := hrel
    clear A0
    cases gk with
    | zero =>
      obtain rfl : i = n := by have := A.out.1; omega
      have hlt : ¬ (i : Int) < (i : Int) := by omega
      go_wp2_with fail
      go_ret2
      first | exact ⟨_, _, rfl, A.out.2⟩ | exact ⟨_, rfl, _, _, rfl, A.out.2⟩ | exact ⟨_, _, A.out.2⟩ | exact ⟨_, rfl, _, A.out.2⟩ | (trace_state; fail)
    | succ r =>
      have hin : i < n := by have := A.out.1; omega
      have hlt : (i : Int) < (n : Int) := by omega
      have hat : wr.rangeAt gn (o + i * 32) (ULIST .u8 32 (hs i)) := range_below (H.out.2.1 i hin) A.out.2.below H.out.2.2.1
      obtain ⟨x, hx⟩ : ∃ x, hs i = x := ⟨_, rfl⟩
      rw [hx] at hat
      have hst := run_storeCells_new (P := Tryz.prog) wr 26 (UARR .u8 32 fun _ => 0) (UARR .u8 32 x) (info_HASH _) (by rw [UARR_size, UARR_size]) (UARR_one _ _ _)
      have hsu := UARR_size .u8 32 x
      have H1 : Aside (i < n ∧ i + 1 + r = n ∧ hs i = x ∧ NODES i < 1000) := ⟨hin, by have := A.out.1; omega, hx, by have := A.out.1; have := H.out.1; unfold NODES; omega⟩
      obtain ⟨w3, hw3⟩ : ∃ w3, wr.alloc (.cells (UARR .u8 32 x) 26) = w3 := ⟨_, rfl⟩
      have hF3 : Has w3 wr.heap.size (UARR .u8 32 x) 26 := by rw [← hw3]; exact Has.new wr _ _
      have R3 : Aside (GRWN w (w3.alloc (.cells (UARR .u8 32 x) 26)) d i u6 l hs) := by
        rw [← hw3]
        exact ⟨(A.out.2.own.alloc _).alloc _, A.out.2.len, A.out.2.old, (A.out.2.below.alloc A.out.2.below.size _).alloc (by have := A.out.2.below.size; simp; omega) _⟩
      have en : wrap64 ((NODES i : Nat) : Int) = ((NODES i : Nat) : Int) := by have := H1.out.2.2.2; unfold wrap64; omega
      have en2 : IntKind.u64.wrap ((NODES i : Nat) : Int) = ((NODES i : Nat) : Int) := wrap_nat (by simp) (by have := H1.out.2.2.2; omega)
      have EI : Aside (wrap64 ((i : Int) + 1) = ((i + 1 : Nat) : Int)) := by have := H1.out.1; have := H.out.1; show wrap64 ((i : Int) + 1) = ((i + 1 : Nat) : Int); unfold wrap64; omega
      clear A hin hx
      rw [hw3] at hst
      clear hw3
      go_wp2_with (first
        | (refine wpList_load_mid rfl 26 (.tmp 31) rfl gn (o + i * 32) rfl (ULIST .u8 32 x) _ hat Tryz.underlying26 rfl (by rw [ULIST_length]; exact info_hash) ?_; rw [← UARR_list])
        | (refine wpList_load_row rfl 26 (.tmp 8) rfl wr.heap.size rfl 26 (UARR .u8 32 x) (0, 0) _ hF3 Tryz.underlying26 rfl (info_HASH _) ?_)
        | (refine build_hash w3 rfl (.tmp 34) rfl x rfl ?_)
        | (at_builtin; refine app_hashf _ rfl (.tmp 33) (.tmp 35) rfl w.heap.size u6 (NODES i) (HL l) rfl R3.out.own w3.heap.size 1 x rfl (Has.new _ _ _) (by have := H1.out.2.2.2; omega) R3.out.below.size ?_; intro g6 c6 w6 hown6 hgrow6 hat6 hlt6))
      have A1 : Aside (GRWS w w6 d i 0 (.slice (some ⟨g6, 0, none⟩) (NODES i + 1) c6) (l ++ [hs i]) hs) := grws_first R3.out (by rw [H1.out.2.2.1]; exact hown6) (R3.out.below.grown hgrow6 R3.out.below.size (fun k e => (R3.out.own.lt k e).1))
      clear hown6 hgrow6 hat6 hlt6 R3 hF3 hst hsu hat en en2
      go_loopg [6, 9] i (fun q s6 s9 wx => ∃ (j g c : Nat) (l : List (Nat → Nat)), s6 = .slice (some ⟨g, 0, none⟩) (NODES i + 1 + j) c ∧ s9 = .int .u64 ((NODES i + j : Nat) : Int) ∧ Aside (j + q = i ∧ GRWS w wx d i j (.slice (some ⟨g, 0, none⟩) (NODES i + 1 + j) c) l hs))
      case atStart => exact ⟨0, g6, c6, _, rfl, rfl, by omega, A1.out⟩
      case round =>
        obtain ⟨j, g, c', lj, rfl, rfl, A⟩ := hrel
        clear A1
        have hones := A.out.2.ones
        have hi20 : i < 2 ^ 20 := by have := H1.out.1; have := H.out.1; omega
        have hN := hones.node hi20
        have hpl := hones.place
        have hj20 := hones.small hi20
        have cr := Go.Proofs.YtdmbmphdiaepdaaGreatDoor.right_ok j (i / 2 ^ j) hN
        rw [hpl] at cr
        by_cases hodd : i / 2 ^ j % 2 = 1
        · have hev : decide (i / 2 ^ j % 2 = 1) = true := decide_eq_true hodd
          rw [hev] at cr
          have hnx := hones.next hodd
          obtain ⟨q, rfl⟩ : ∃ q, gk = q + 1 := ⟨gk - 1, by have := hnx.lt; have := A.out.1; omega⟩
          have hk : i / 2 ^ j = 2 * (i / 2 ^ (j + 1)) + 1 := by rw [half_pow]; omega
          have hsib : SIB (i / 2 ^ j) = 2 * (i / 2 ^ (j + 1)) := by rw [hk]; unfold SIB; rw [if_pos (by omega)]; omega
          have cs := Go.Proofs.YtdmbmphdiaepdaaGreatDoor.sibling_ok j (i / 2 ^ j) hN (by omega)
          rw [hpl, hsib] at cs
          have hspan := ONES.span hones
          have hleft : (2 * (i / 2 ^ (j + 1)) + 1) * 2 ^ j ≤ i := by
            rw [← hk]
            have h1 : (i / 2 ^ j + 1) * 2 ^ j = i / 2 ^ j * 2 ^ j + 2 ^ j := by rw [Nat.add_mul, Nat.one_mul]
            have h2 : 0 < 2 ^ j := Nat.two_pow_pos j
            omega
          obtain ⟨L, hL⟩ : ∃ L, VAL d hs j (2 * (i / 2 ^ (j + 1))) = L := ⟨_, rfl⟩
          obtain ⟨X, hX⟩ : ∃ X, VAL d hs j (i / 2 ^ j) = X := ⟨_, rfl⟩
          obtain ⟨Y, hY⟩ : ∃ Y, VAL d hs (j + 1) (i / 2 ^ (j + 1)) = Y := ⟨_, rfl⟩
          have hYN : Y = HASHOF d (1 :: ((List.range 32).map L ++ (List.range 32).map X)) := by
            rw [← hY, VAL, hL, ← hk, hX]
            rfl
          have hbytes : ∀ k, k < i + 1 → ∀ b, hs k b < 256 := fun k hk b => H.out.2.2.2.1 k (by have := H1.out.1; omega) b
          have hL8 : ∀ b, L b < 256 := fun b => by rw [← hL]; exact VAL_lt hbytes _ _ (by omega) b
          have hX8 : ∀ b, X b < 256 := fun b => by rw [← hX]; exact VAL_lt hbytes _ _ (by omega) b
          obtain ⟨P, hP⟩ : ∃ P, NODES i + j = P := ⟨_, rfl⟩
          obtain ⟨M, hM⟩ : ∃ M, NODES i + 1 + j = M := ⟨_, rfl⟩
          obtain ⟨S, hS⟩ : ∃ S, PLC j (2 * (i / 2 ^ (j + 1))) = S := ⟨_, rfl⟩
          have hSl : S < NODES i := by rw [← hS]; exact PLC_under hleft
          have hN1 := H1.out.2.2.2
          have B1 : Aside (GRWS w wr d i j (.slice (some ⟨g, 0, none⟩) M c') lj hs ∧ lj[S]? = some L ∧ lj[P]? = some X ∧ lj.length = M ∧ P + 1 = M ∧ j + 1 + q = i ∧ (∀ b, L b < 256) ∧ (∀ b, X b < 256) ∧ Y = HASHOF d (1 :: ((List.range 32).map L ++ (List.range 32).map X)) ∧ VAL d hs (j + 1) (i / 2 ^ (j + 1)) = Y ∧ i / 2 ^ j % 2 = 1 ∧ M ≤ 2000) := by
            obtain ⟨a1, a2⟩ := A.out
            refine ⟨by rw [← hM]; exact a2, by rw [← hS, a2.old j _ hleft, hL], by rw [← hP, a2.new j (Nat.le_refl _), hX], by rw [a2.len, hM], by omega, by omega, hL8, hX8, hYN, hY, hodd, by omega⟩
          have hp0 : (P : Int) < (M : Int) := by omega
          have hq0 : (S : Int) < (M : Int) := by omega
          rw [hP] at cr cs
          rw [hS] at cs
          rw [hP, hM]
          have HP : Aside (NODES i + j = P ∧ NODES i + 1 + j = M) := ⟨hP, hM⟩
          clear A hev hodd hN hpl hones hnx hk hsib hspan hleft hL hX hY hYN hbytes hL8 hX8 hSl hS hi20 hj20 hN1 hP hM
          go_wp2_with fail
          refine (cr _).mono ?_
          rintro e wa ⟨rfl, hba⟩
          clear cr
          go_wp2_with fail
          refine (cs _).mono ?_
          rintro e wb ⟨rfl, hbb⟩
          clear cs
          have B2 : Aside (GRWS w wb d i j (.slice (some ⟨g, 0, none⟩) M c') lj hs) := (B1.out.1.keep hba).keep hbb
          clear hba hbb
          go_upto_region 12 with fail
          refine grow12 wb d g M c' P S w.heap.size L X Y (HL lj) hp0 hq0 (by have := B1.out; omega) (fun V => Below wb.heap.size wb V) (Below.refl _ _).drew (fun V hV => ?_) (fun _ _ h => h.alloc h.size _) (fun V hV => ?_) (fun _ _ _ _ _ h => h) ?_
          · have k := B2.out.keep hV
            have ko : V.ownsRow w.heap.size 26 32 (.slice (some ⟨g, 0, none⟩) M c') M (HL lj) := by
              have := k.own
              rwa [HP.out.2] at this
            exact ⟨own_at ko B1.out.2.2.2.1 B1.out.2.1, own_at ko B1.out.2.2.2.1 B1.out.2.2.1, ko, k.below.size⟩
          · refine (node_ok d L X B1.out.2.2.2.2.2.2.1 B1.out.2.2.2.2.2.2.2.1 V (H.out.2.2.2.2.below (B2.out.keep hV).below)).mono ?_
            rintro e V' ⟨rfl, hb⟩
            exact ⟨by rw [B1.out.2.2.2.2.2.2.2.2.1], hV.trans (hb.mono hV.size)⟩
          · intro b1 g2 c2 w7 hw7
            have B3 : Aside (GRWS w w7 d i (j + 1) (.slice (some ⟨g2, 0, none⟩) (M + 1) c2) (lj ++ [Y]) hs) := by
              obtain ⟨w0, hV, h1, h2⟩ := hw7
              have k := B2.out.keep hV
              have := grws_next (w' := w7) (v' := .slice (some ⟨g2, 0, none⟩) (M + 1) c2) k B1.out.2.2.2.2.2.2.2.2.2.2.1 (by rw [B1.out.2.2.2.2.2.2.2.2.2.1, HP.out.2]; exact h1) (k.below.grown h2 k.below.size (fun x e => (k.own.lt x (by rw [← e]; rfl)).1))
              rwa [B1.out.2.2.2.2.2.2.2.2.2.1] at this
            have ep : IntKind.u64.wrap ((P : Int) + 1) = ((NODES i + (j + 1) : Nat) : Int) := by
              have h1 := HP.out.1
              have h2 : IntKind.u64.wrap (((P + 1 : Nat)) : Int) = ((P + 1 : Nat) : Int) := wrap_nat (by simp) (by have := B1.out; omega)
              rw [show NODES i + (j + 1) = P + 1 by omega, ← h2]
              rfl
            have EP : Aside (IntKind.u64.wrap ((P : Int) + 1) = ((NODES i + (j + 1) : Nat) : Int)) := ep
            have B4 : Aside (j + 1 + q = i ∧ M + 1 = NODES i + 1 + (j + 1)) := ⟨B1.out.2.2.2.2.2.1, by have := HP.out; omega⟩
            clear hw7 B1 B2 ep hp0 hq0 HP
            go_wp2_with fail
            go_roundg q
            case measure => exact Nat.lt_succ_self _
            case rel => exact ⟨j + 1, g2, c2, lj ++ [Y], by rw [← B4.out.2], by rw [← EP.out], B4.out.1, by rw [← B4.out.2]; exact B3.out⟩
        · have hev : decide (i / 2 ^ j % 2 = 1) = false := decide_eq_false hodd
          rw [hev] at cr
          have B1 : Aside (GRWS w wr d i j (.slice (some ⟨g, 0, none⟩) (NODES i + 1 + j) c') lj hs ∧ i / 2 ^ j % 2 = 0) := ⟨A.out.2, by omega⟩
          clear A hev hodd hN hpl hones hi20 hj20
          go_wp2_with fail
          refine (cr _).mono ?_
          rintro e wa ⟨rfl, hba⟩
          clear cr
          have B2 : Aside (GRWN w wa d (i + 1) (.slice (some ⟨g, 0, none⟩) (NODES i + 1 + j) c') lj hs) := grws_last (B1.out.1.keep hba) B1.out.2
          clear B1 hba
          go_wp2_with fail
          go_roundg r
          case measure => exact Nat.lt_succ_self _
          case rel => exact ⟨i + 1, lj, by rw [← EI.out], H1.out.2.1, B2.out⟩
end Go.Proofs.YtdmbmphdiaepdaaGreatDoor.HX

/- massifref6.perfect; where mmr.Grow refuses. -/
namespace Go.Proofs.YtdmbmphdiaepdaaGreatDoor.HX
open Go.RowKit
set_option maxRecDepth 100000

/-- which numbers up to 200 are powers of two. -/
theorem pop_power : ∀ n : Nat, n ≤ 200 → (POP n = 1 ↔ n = 1 ∨ n = 2 ∨ n = 4 ∨ n = 8 ∨ n = 16 ∨ n = 32 ∨ n = 64 ∨ n = 128) := by
  have h : ((List.range 201).all fun n => decide (POP n = 1) == (n == 1 || n == 2 || n == 4 || n == 8 || n == 16 || n == 32 || n == 64 || n == 128)) = true := by decide +kernel
  intro n hn
  have h1 := List.all_eq_true.1 h n (by simp; omega)
  have h2 : decide (POP n = 1) = (n == 1 || n == 2 || n == 4 || n == 8 || n == 16 || n == 32 || n == 64 || n == 128) := by simpa using h1
  constructor
  · intro h3
    rw [decide_eq_true h3] at h2
    have := h2.symm
    simp only [Bool.or_eq_true, beq_iff_eq] at this
    omega
  · intro h3
    have h4 : (n == 1 || n == 2 || n == 4 || n == 8 || n == 16 || n == 32 || n == 64 || n == 128) = true := by
      simp only [Bool.or_eq_true, beq_iff_eq]
      omega
    rw [h4] at h2
    exact of_decide_eq_true h2
theorem pow_of_pop {n : Nat} (hn : n ≤ 200) (h : POP n = 1) : ∃ H, H ≤ 7 ∧ n = 2 ^ H := by
  rcases (pop_power n hn).1 h with e | e | e | e | e | e | e | e
  · exact ⟨0, by decide, e⟩
  · exact ⟨1, by decide, e⟩
  · exact ⟨2, by decide, e⟩
  · exact ⟨3, by decide, e⟩
  · exact ⟨4, by decide, e⟩
  · exact ⟨5, by decide, e⟩
  · exact ⟨6, by decide, e⟩
  · exact ⟨7, by decide, e⟩
theorem pow_step : ∀ j, j < 17 → wrap64 (2 * ((2 ^ j : Nat) : Int)) = ((2 ^ (j + 1) : Nat) : Int) := by
  intro j hj
  have h1 : 2 ^ j ≤ 2 ^ 16 := Nat.pow_le_pow_right (by decide) (by omega)
  rw [Nat.pow_succ]
  unfold wrap64
  omega
set_option maxHeartbeats 1000000 in
theorem perfect_not (n : Nat) (hn : n ≤ 200) (hp : POP n ≠ 1) (w : World) : Calls Tryz.prog 29 #[.int .i64 (n : Int)] w fun e w' => e = .returned (.bool false) ∧ w = w' := by
  have HN : Aside (∀ j, j < 17 → ¬ (n : Int) = ((2 ^ j : Nat) : Int)) := fun j hj e => by
    have e1 : n = 2 ^ j := by omega
    have hj8 : j ≤ 7 := by
      rcases Nat.lt_or_ge 7 j with h | h
      · have : 2 ^ 8 ≤ 2 ^ j := Nat.pow_le_pow_right (by decide) h
        omega
      · exact h
    have : j = 0 ∨ j = 1 ∨ j = 2 ∨ j = 3 ∨ j = 4 ∨ j = 5 ∨ j = 6 ∨ j = 7 := by omega
    apply hp
    rw [pop_power n hn]
    rcases this with rfl | rfl | rfl | rfl | rfl | rfl | rfl | rfl <;> simp at e1 <;> omega
  clear hn hp
  go_enter Tryz.func29, Tryz.ntmps29
  go_wp2
  go_loopg [3, 4] 17 (fun q s3 s4 wx => ∃ (j P : Nat), s3 = .int .i64 (P : Int) ∧ s4 = .int .i64 (j : Int) ∧ Aside (j + q = 17 ∧ P = 2 ^ j) ∧ wx = w)
  case atStart => exact ⟨0, 1, rfl, rfl, ⟨by decide, rfl⟩, rfl⟩
  case round =>
    obtain ⟨j, P, rfl, rfl, A, rfl⟩ := hrel
    cases gk with
    | zero =>
      have hlt : ¬ (j : Int) ≤ 16 := by have := A.out.1; omega
      clear A HN
      go_wp2
      go_ret
      exact ⟨rfl, rfl⟩
    | succ q =>
      have hlt : (j : Int) ≤ 16 := by have := A.out.1; omega
      have hne : ¬ (n : Int) = (P : Int) := by rw [A.out.2]; exact HN.out j (by have := A.out.1; omega)
      have e1 : wrap64 (2 * (P : Int)) = ((2 ^ (j + 1) : Nat) : Int) := by rw [A.out.2]; exact pow_step j (by have := A.out.1; omega)
      have e2 : wrap64 ((j : Int) + 1) = ((j + 1 : Nat) : Int) := by unfold wrap64; omega
      have R : Aside (j + 1 + q = 17) := by have := A.out.1; show j + 1 + q = 17; omega
      obtain ⟨P2, hP2⟩ : ∃ P2, 2 ^ (j + 1) = P2 := ⟨_, rfl⟩
      have R2 : Aside (P2 = 2 ^ (j + 1)) := hP2.symm
      rw [hP2] at e1
      clear A hP2
      go_wp2
      go_roundg q
      case measure => exact Nat.lt_succ_self _
      case rel => exact ⟨j + 1, P2, by first | rfl | (rw [e1]), by first | rfl | (rw [e2]), ⟨R.out, R2.out⟩, rfl⟩
set_option maxHeartbeats 1000000 in
theorem perfect_yes (H : Nat) (hH : H ≤ 7) (w : World) : Calls Tryz.prog 29 #[.int .i64 ((2 ^ H : Nat) : Int)] w fun e w' => e = .returned (.bool true) ∧ w = w' := by
  obtain ⟨n, hn⟩ : ∃ n, 2 ^ H = n := ⟨_, rfl⟩
  rw [hn]
  have HN : Aside (2 ^ H = n ∧ H ≤ 7) := ⟨hn, hH⟩
  clear hn hH
  go_enter Tryz.func29, Tryz.ntmps29
  go_wp2
  go_loopg [3, 4] H (fun q s3 s4 wx => ∃ (j P : Nat), s3 = .int .i64 (P : Int) ∧ s4 = .int .i64 (j : Int) ∧ Aside (j + q = H ∧ P = 2 ^ j) ∧ wx = w)
  case atStart => exact ⟨0, 1, rfl, rfl, ⟨by omega, rfl⟩, rfl⟩
  case round =>
    obtain ⟨j, P, rfl, rfl, A, rfl⟩ := hrel
    have hlt : (j : Int) ≤ 16 := by have := A.out.1; have := HN.out.2; omega
    cases gk with
    | zero =>
      have hne : (n : Int) = (P : Int) := by
        have h1 := A.out.2
        have h2 := A.out.1
        obtain rfl : j = H := by omega
        rw [h1, HN.out.1]
      have hpn : P = n := by omega
      subst hpn
      clear A HN hne
      go_wp2
      go_ret
      exact ⟨rfl, rfl⟩
    | succ q =>
      have hne : ¬ (n : Int) = (P : Int) := by
        have h1 := A.out.2
        have h2 := A.out.1
        have h3 : 2 ^ j < 2 ^ H := Nat.pow_lt_pow_right (by decide) (by omega)
        have h4 := HN.out.1
        omega
      have e1 : wrap64 (2 * (P : Int)) = ((2 ^ (j + 1) : Nat) : Int) := by rw [A.out.2]; exact pow_step j (by have := A.out.1; have := HN.out.2; omega)
      have e2 : wrap64 ((j : Int) + 1) = ((j + 1 : Nat) : Int) := by unfold wrap64; omega
      have R : Aside (j + 1 + q = H) := by have := A.out.1; show j + 1 + q = H; omega
      obtain ⟨P2, hP2⟩ : ∃ P2, 2 ^ (j + 1) = P2 := ⟨_, rfl⟩
      have R2 : Aside (P2 = 2 ^ (j + 1)) := hP2.symm
      rw [hP2] at e1
      clear A hP2
      go_wp2
      go_roundg q
      case measure => exact Nat.lt_succ_self _
      case rel => exact ⟨j + 1, P2, by first | rfl | (rw [e1]), by first | rfl | (rw [e2]), ⟨R.out, R2.out⟩, rfl⟩
set_option maxHeartbeats 1000000 in
theorem grow_not (d : Int) (a : Option Addr) (n c : Nat) (hn : n ≤ 200) (hp : POP n ≠ 1) (w : World) : Calls Tryz.prog 12 #[.int .i64 d, .slice a n c] w fun e w' => e = .returned (.tuple #[.slice none 0 0, .int .i64 70]) ∧ w = w' := by
  have co := onesw_ok n (by omega) w
  have hs : ¬ (65536 : Int) < (n : Int) := by omega
  have hu : IntKind.u64.wrap (n : Int) = (n : Int) := by rw [wrapU]; omega
  clear hn
  generalize POP n = pp at *
  have h1 : ¬ (pp : Int) = 1 := by omega
  clear hp
  go_enter Tryz.func12, Tryz.ntmps12
  go_wp2_with fail
  refine co.mono ?_
  rintro e w' ⟨rfl, rfl⟩
  clear co
  go_wp2
  go_ret2
  exact ⟨rfl, rfl⟩
end Go.Proofs.YtdmbmphdiaepdaaGreatDoor.HX
