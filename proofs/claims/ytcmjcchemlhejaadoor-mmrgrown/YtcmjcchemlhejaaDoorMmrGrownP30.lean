/- Texts of MmrGrown, one behind the other: MmrGrowWalk, MmrOf. -/
import Derived.Test.YtcmjcchemlhejaaDoorMmrGrownP27
import Derived.Test.YtcmjcchemlhejaaDoorMmrGrownP29
/- mmr.Grow lays the perfect tree. -/
namespace Go.Proofs.YtcmjcchemlhejaaDoor.HX
open Go.RowKit
set_option maxRecDepth 100000

theorem make_hashesf (N : Nat) (hN : N ≤ 1000) (w : World) : ∃ cur : Array Value, cur.size = N * 32 ∧ (Instr.makeSlice 22 (.int .i64 0) (.int .i64 (N : Int))).run Tryd.prog w = .ok (.slice (some ⟨w.heap.size, 0, none⟩) 0 N) (w.alloc (.cells cur 30)) := by
  obtain ⟨i, hi, hz, h1, h2⟩ := info_parts info_hashT
  have h := run_make (P := Tryd.prog) w 22 30 i _ Tryd.underlying22 hi hz .i64 .i64 0 N (by omega) (by omega) (by rw [h2]; omega) (by omega)
  refine ⟨madeCells (Value.agg (UARR .u8 32 fun _ => 0)).cells (N * i.size), ?_, ?_⟩
  · rw [size_madeCells, h1]
  · simpa using h
theorem own_room {w : World} {N : Nat} (hN : N ≤ 1000) {cur : Array Value} (hc : cur.size = N * 32) : (w.alloc (.cells cur 30)).ownsRow w.heap.size 30 32 (.slice (some ⟨w.heap.size, 0, none⟩) 0 N) 0 (HL []) := by
  refine ⟨rfl, .inr ⟨w.heap.size, N, cur, rfl, Nat.le_refl _, Has.new w cur 30, by omega, by simp only [maxLen]; omega, hc, by simp [HL]⟩⟩
theorem GRWS.keep {w wx w' : World} {d : Int} {n j : Nat} {v : Value} {l : List (Nat → Nat)} {f : Nat → Nat → Nat} (h : GRWS w wx d n j v l f) (hb : Below wx.heap.size wx w') : GRWS w w' d n j v l f :=
  ⟨own_keep h.own hb, h.len, h.old, h.new, h.ones, h.below.trans (hb.mono h.below.size)⟩
theorem own_at {w : World} {B g m c k : Nat} {l : List (Nat → Nat)} {f : Nat → Nat} (h : w.ownsRow B 30 32 (.slice (some ⟨g, 0, none⟩) m c) m (HL l)) (hl : l.length = m) (hk : l[k]? = some f) : w.rangeAt g (k * 32) (ULIST .u8 32 f) := by
  intro j v hv
  have hj : j < 32 := by
    have := (List.getElem?_eq_some_iff.1 hv).1
    rwa [ULIST_length] at this
  have hkm : k < m := by
    have := (List.getElem?_eq_some_iff.1 hk).1
    omega
  rw [h.cellAt (k * 32 + j) (by omega), HL_get l k j f hk hj, ← hv, ULIST_get _ _ _ _ hj]
set_option maxHeartbeats 4000000 in
theorem grow_ok (d : Int) (a : Option Addr) (n c : Nat) (hn : n ≤ 200) (hp : POP n = 1) (hs : Nat → Nat → Nat) (w : World) (hH : HASHES w a n hs) (h8 : ∀ i, i < n → ∀ j, hs i j < 256) (hX : Tabled w) :
    Calls Tryd.prog 27 #[.int .i64 d, .slice a n c] w fun e w' => ∃ v l, e = .returned (.tuple #[v, .int .i64 0]) ∧ GRWN w w' d n v l hs := by
  have hn0 : 0 < n := by
    rcases Nat.eq_zero_or_pos n with h | h
    · subst h; exact absurd hp (by decide)
    · exact h
  obtain ⟨gn, o, rfl, hgn, hcn⟩ := hH hn0
  have co := onesw_ok n (by omega) w
  rw [hp] at co
  obtain ⟨cur, hcur, hmk⟩ := make_hashesf (2 * n - 1) (by omega) w
  have hz := zeroHash
  rw [show ((2 * n - 1 : Nat) : Int) = 2 * (n : Int) - 1 by omega] at hmk
  have e2 : IntKind.u64.wrap ((n : Int)) = (n : Int) := wrap_nat (by simp) (by omega)
  have e3 : ¬ (65536 : Int) < (n : Int) := by omega
  go_enter Tryd.func27, Tryd.ntmps27
  go_wp2_with fail
  refine co.mono ?_
  rintro e w1 ⟨rfl, rfl⟩
  go_wp2_with fail
  have A0 : Aside (GRWN w (w.alloc (.cells cur 30)) d 0 (.slice (some ⟨w.heap.size, 0, none⟩) 0 (2 * n - 1)) [] hs) := ⟨own_room (by omega) hcur, rfl, fun h k hk => absurd hk (by have h1 : 0 < (k + 1) * 2 ^ h := Nat.mul_pos (Nat.succ_pos k) (Nat.two_pow_pos h); omega), (Below.refl _ _).alloc (Nat.le_refl _) _⟩
  have H : Aside (n ≤ 200 ∧ (∀ i, i < n → w.rangeAt gn (o + i * 32) (ULIST .u8 32 (hs i))) ∧ gn < w.heap.size ∧ (∀ i, i < n → ∀ j, hs i j < 256) ∧ Tabled w) := ⟨hn, hcn, hgn, h8, hX⟩
  clear hn hcn hgn h8 hX hH co hmk hcur hp e2 e3 hn0
  go_loopg [6, 29] n (fun r s6 s29 wx => ∃ (i : Nat) (l : List (Nat → Nat)), s29 = .int .i64 (i : Int) ∧ Aside (i + r = n ∧ GRWN w wx d i s6 l hs))
  case atStart => exact ⟨0, [], rfl, by omega, A0.out⟩
  case round =>
    obtain ⟨i, l, rfl, A⟩ := hrel
    clear A0
    cases gk with
    | zero =>
      obtain rfl : i = n := by have := A.out.1; omega
      have hlt : ¬ (i : Int) < (i : Int) := by omega
      go_wp2_with fail
      go_ret2
      first | exact ⟨_, _, rfl, A.out.2⟩ | exact ⟨_, rfl, _, _, rfl, A.out.2⟩ | exact ⟨_, _, A.out.2⟩ | exact ⟨_, rfl, _, A.out.2⟩ | (trace_state; fail)
    | succ r =>
      have hin : i < n := by have := A.out.1; omega
      have hlt : (i : Int) < (n : Int) := by omega
      have hat : wr.rangeAt gn (o + i * 32) (ULIST .u8 32 (hs i)) := range_below (H.out.2.1 i hin) A.out.2.below H.out.2.2.1
      obtain ⟨x, hx⟩ : ∃ x, hs i = x := ⟨_, rfl⟩
      rw [hx] at hat
      have hst := run_storeCells_new (P := Tryd.prog) wr 30 (UARR .u8 32 fun _ => 0) (UARR .u8 32 x) (info_HASH _) (by rw [UARR_size, UARR_size]) (UARR_one _ _ _)
      have hsu := UARR_size .u8 32 x
      have H1 : Aside (i < n ∧ i + 1 + r = n ∧ hs i = x ∧ NODES i < 1000) := ⟨hin, by have := A.out.1; omega, hx, by have := A.out.1; have := H.out.1; unfold NODES; omega⟩
      obtain ⟨w3, hw3⟩ : ∃ w3, wr.alloc (.cells (UARR .u8 32 x) 30) = w3 := ⟨_, rfl⟩
      have hF3 : Has w3 wr.heap.size (UARR .u8 32 x) 30 := by rw [← hw3]; exact Has.new wr _ _
      have R3 : Aside (GRWN w (w3.alloc (.cells (UARR .u8 32 x) 30)) d i u6 l hs) := by
        rw [← hw3]
        exact ⟨(A.out.2.own.alloc _).alloc _, A.out.2.len, A.out.2.old, (A.out.2.below.alloc A.out.2.below.size _).alloc (by have := A.out.2.below.size; simp; omega) _⟩
      have en : wrap64 ((NODES i : Nat) : Int) = ((NODES i : Nat) : Int) := by have := H1.out.2.2.2; unfold wrap64; omega
      have en2 : IntKind.u64.wrap ((NODES i : Nat) : Int) = ((NODES i : Nat) : Int) := wrap_nat (by simp) (by have := H1.out.2.2.2; omega)
      have EI : Aside (wrap64 ((i : Int) + 1) = ((i + 1 : Nat) : Int)) := by have := H1.out.1; have := H.out.1; show wrap64 ((i : Int) + 1) = ((i + 1 : Nat) : Int); unfold wrap64; omega
      clear A hin hx
      rw [hw3] at hst
      clear hw3
      go_wp2_with (first
        | (refine wpList_load_mid rfl 30 (.tmp 31) rfl gn (o + i * 32) rfl (ULIST .u8 32 x) _ hat Tryd.underlying30 rfl (by rw [ULIST_length]; exact info_hash) ?_; rw [← UARR_list])
        | (refine wpList_load_row rfl 30 (.tmp 8) rfl wr.heap.size rfl 30 (UARR .u8 32 x) (0, 0) _ hF3 Tryd.underlying30 rfl (info_HASH _) ?_)
        | (refine build_hash w3 rfl (.tmp 34) rfl x rfl ?_)
        | (at_builtin; refine app_hashf _ rfl (.tmp 33) (.tmp 35) rfl w.heap.size u6 (NODES i) (HL l) rfl R3.out.own w3.heap.size 1 x rfl (Has.new _ _ _) (by have := H1.out.2.2.2; omega) R3.out.below.size ?_; intro g6 c6 w6 hown6 hgrow6 hat6 hlt6))
      have A1 : Aside (GRWS w w6 d i 0 (.slice (some ⟨g6, 0, none⟩) (NODES i + 1) c6) (l ++ [hs i]) hs) := grws_first R3.out (by rw [H1.out.2.2.1]; exact hown6) (R3.out.below.grown hgrow6 R3.out.below.size (fun k e => (R3.out.own.lt k e).1))
      clear hown6 hgrow6 hat6 hlt6 R3 hF3 hst hsu hat en en2
      go_loopg [6, 9] i (fun q s6 s9 wx => ∃ (j g c : Nat) (l : List (Nat → Nat)), s6 = .slice (some ⟨g, 0, none⟩) (NODES i + 1 + j) c ∧ s9 = .int .u64 ((NODES i + j : Nat) : Int) ∧ Aside (j + q = i ∧ GRWS w wx d i j (.slice (some ⟨g, 0, none⟩) (NODES i + 1 + j) c) l hs))
      case atStart => exact ⟨0, g6, c6, _, rfl, rfl, by omega, A1.out⟩
      case round =>
        obtain ⟨j, g, c', lj, rfl, rfl, A⟩ := hrel
        clear A1
        have hones := A.out.2.ones
        have hi20 : i < 2 ^ 20 := by have := H1.out.1; have := H.out.1; omega
        have hN := hones.node hi20
        have hpl := hones.place
        have hj20 := hones.small hi20
        have cr := Go.Proofs.YtcmjcchemlhejaaDoor.right_ok j (i / 2 ^ j) hN
        rw [hpl] at cr
        by_cases hodd : i / 2 ^ j % 2 = 1
        · have hev : decide (i / 2 ^ j % 2 = 1) = true := decide_eq_true hodd
          rw [hev] at cr
          have hnx := hones.next hodd
          obtain ⟨q, rfl⟩ : ∃ q, gk = q + 1 := ⟨gk - 1, by have := hnx.lt; have := A.out.1; omega⟩
          have hk : i / 2 ^ j = 2 * (i / 2 ^ (j + 1)) + 1 := by rw [half_pow]; omega
          have hsib : SIB (i / 2 ^ j) = 2 * (i / 2 ^ (j + 1)) := by rw [hk]; unfold SIB; rw [if_pos (by omega)]; omega
          have cs := Go.Proofs.YtcmjcchemlhejaaDoor.sibling_ok j (i / 2 ^ j) hN (by omega)
          rw [hpl, hsib] at cs
          have hspan := ONES.span hones
          have hleft : (2 * (i / 2 ^ (j + 1)) + 1) * 2 ^ j ≤ i := by
            rw [← hk]
            have h1 : (i / 2 ^ j + 1) * 2 ^ j = i / 2 ^ j * 2 ^ j + 2 ^ j := by rw [Nat.add_mul, Nat.one_mul]
            have h2 : 0 < 2 ^ j := Nat.two_pow_pos j
            omega
          obtain ⟨L, hL⟩ : ∃ L, VAL d hs j (2 * (i / 2 ^ (j + 1))) = L := ⟨_, rfl⟩
          obtain ⟨X, hX⟩ : ∃ X, VAL d hs j (i / 2 ^ j) = X := ⟨_, rfl⟩
          obtain ⟨Y, hY⟩ : ∃ Y, VAL d hs (j + 1) (i / 2 ^ (j + 1)) = Y := ⟨_, rfl⟩
          have hYN : Y = HASHOF d (1 :: ((List.range 32).map L ++ (List.range 32).map X)) := by
            rw [← hY, VAL, hL, ← hk, hX]
            rfl
          have hbytes : ∀ k, k < i + 1 → ∀ b, hs k b < 256 := fun k hk b => H.out.2.2.2.1 k (by have := H1.out.1; omega) b
          have hL8 : ∀ b, L b < 256 := fun b => by rw [← hL]; exact VAL_lt hbytes _ _ (by omega) b
          have hX8 : ∀ b, X b < 256 := fun b => by rw [← hX]; exact VAL_lt hbytes _ _ (by omega) b
          obtain ⟨P, hP⟩ : ∃ P, NODES i + j = P := ⟨_, rfl⟩
          obtain ⟨M, hM⟩ : ∃ M, NODES i + 1 + j = M := ⟨_, rfl⟩
          obtain ⟨S, hS⟩ : ∃ S, PLC j (2 * (i / 2 ^ (j + 1))) = S := ⟨_, rfl⟩
          have hSl : S < NODES i := by rw [← hS]; exact PLC_under hleft
          have hN1 := H1.out.2.2.2
          have B1 : Aside (GRWS w wr d i j (.slice (some ⟨g, 0, none⟩) M c') lj hs ∧ lj[S]? = some L ∧ lj[P]? = some X ∧ lj.length = M ∧ P + 1 = M ∧ j + 1 + q = i ∧ (∀ b, L b < 256) ∧ (∀ b, X b < 256) ∧ Y = HASHOF d (1 :: ((List.range 32).map L ++ (List.range 32).map X)) ∧ VAL d hs (j + 1) (i / 2 ^ (j + 1)) = Y ∧ i / 2 ^ j % 2 = 1 ∧ M ≤ 2000) := by
            obtain ⟨a1, a2⟩ := A.out
            refine ⟨by rw [← hM]; exact a2, by rw [← hS, a2.old j _ hleft, hL], by rw [← hP, a2.new j (Nat.le_refl _), hX], by rw [a2.len, hM], by omega, by omega, hL8, hX8, hYN, hY, hodd, by omega⟩
          have hp0 : (P : Int) < (M : Int) := by omega
          have hq0 : (S : Int) < (M : Int) := by omega
          rw [hP] at cr cs
          rw [hS] at cs
          rw [hP, hM]
          have HP : Aside (NODES i + j = P ∧ NODES i + 1 + j = M) := ⟨hP, hM⟩
          clear A hev hodd hN hpl hones hnx hk hsib hspan hleft hL hX hY hYN hbytes hL8 hX8 hSl hS hi20 hj20 hN1 hP hM
          go_wp2_with fail
          refine (cr _).mono ?_
          rintro e wa ⟨rfl, hba⟩
          clear cr
          go_wp2_with fail
          refine (cs _).mono ?_
          rintro e wb ⟨rfl, hbb⟩
          clear cs
          have B2 : Aside (GRWS w wb d i j (.slice (some ⟨g, 0, none⟩) M c') lj hs) := (B1.out.1.keep hba).keep hbb
          clear hba hbb
          go_upto_region 12 with fail
          refine grow12 wb d g M c' P S w.heap.size L X Y (HL lj) hp0 hq0 (by have := B1.out; omega) (fun V => Below wb.heap.size wb V) (Below.refl _ _).drew (fun V hV => ?_) (fun _ _ h => h.alloc h.size _) (fun V hV => ?_) (fun _ _ _ _ _ h => h) ?_
          · have k := B2.out.keep hV
            have ko : V.ownsRow w.heap.size 30 32 (.slice (some ⟨g, 0, none⟩) M c') M (HL lj) := by
              have := k.own
              rwa [HP.out.2] at this
            exact ⟨own_at ko B1.out.2.2.2.1 B1.out.2.1, own_at ko B1.out.2.2.2.1 B1.out.2.2.1, ko, k.below.size⟩
          · refine (node_ok d L X B1.out.2.2.2.2.2.2.1 B1.out.2.2.2.2.2.2.2.1 V (H.out.2.2.2.2.below (B2.out.keep hV).below)).mono ?_
            rintro e V' ⟨rfl, hb⟩
            exact ⟨by rw [B1.out.2.2.2.2.2.2.2.2.1], hV.trans (hb.mono hV.size)⟩
          · intro b1 g2 c2 w7 hw7
            have B3 : Aside (GRWS w w7 d i (j + 1) (.slice (some ⟨g2, 0, none⟩) (M + 1) c2) (lj ++ [Y]) hs) := by
              obtain ⟨w0, hV, h1, h2⟩ := hw7
              have k := B2.out.keep hV
              have := grws_next (w' := w7) (v' := .slice (some ⟨g2, 0, none⟩) (M + 1) c2) k B1.out.2.2.2.2.2.2.2.2.2.2.1 (by rw [B1.out.2.2.2.2.2.2.2.2.2.1, HP.out.2]; exact h1) (k.below.grown h2 k.below.size (fun x e => (k.own.lt x (by rw [← e]; rfl)).1))
              rwa [B1.out.2.2.2.2.2.2.2.2.2.1] at this
            have ep : IntKind.u64.wrap ((P : Int) + 1) = ((NODES i + (j + 1) : Nat) : Int) := by
              have h1 := HP.out.1
              have h2 : IntKind.u64.wrap (((P + 1 : Nat)) : Int) = ((P + 1 : Nat) : Int) := wrap_nat (by simp) (by have := B1.out; omega)
              rw [show NODES i + (j + 1) = P + 1 by omega, ← h2]
              rfl
            have EP : Aside (IntKind.u64.wrap ((P : Int) + 1) = ((NODES i + (j + 1) : Nat) : Int)) := ep
            have B4 : Aside (j + 1 + q = i ∧ M + 1 = NODES i + 1 + (j + 1)) := ⟨B1.out.2.2.2.2.2.1, by have := HP.out; omega⟩
            clear hw7 B1 B2 ep hp0 hq0 HP
            go_wp2_with fail
            go_roundg q
            case measure => exact Nat.lt_succ_self _
            case rel => exact ⟨j + 1, g2, c2, lj ++ [Y], by rw [← B4.out.2], by rw [← EP.out], B4.out.1, by rw [← B4.out.2]; exact B3.out⟩
        · have hev : decide (i / 2 ^ j % 2 = 1) = false := decide_eq_false hodd
          rw [hev] at cr
          have B1 : Aside (GRWS w wr d i j (.slice (some ⟨g, 0, none⟩) (NODES i + 1 + j) c') lj hs ∧ i / 2 ^ j % 2 = 0) := ⟨A.out.2, by omega⟩
          clear A hev hodd hN hpl hones hi20 hj20
          go_wp2_with fail
          refine (cr _).mono ?_
          rintro e wa ⟨rfl, hba⟩
          clear cr
          have B2 : Aside (GRWN w wa d (i + 1) (.slice (some ⟨g, 0, none⟩) (NODES i + 1 + j) c') lj hs) := grws_last (B1.out.1.keep hba) B1.out.2
          clear B1 hba
          go_wp2_with fail
          go_roundg r
          case measure => exact Nat.lt_succ_self _
          case rel => exact ⟨i + 1, lj, by rw [← EI.out], H1.out.2.1, B2.out⟩
end Go.Proofs.YtcmjcchemlhejaaDoor.HX

/- massiflaw6.of: the tree of some leaves. -/
namespace Go.Proofs.YtcmjcchemlhejaaDoor.HX
open Go.RowKit
set_option maxRecDepth 100000

theorem u64_fit {n : Nat} (h : n < 2 ^ 40) : IntKind.u64.wrap (n : Int) = (n : Int) := by
  simp [IntKind.wrap, IntKind.signed, IntKind.bits]
  omega
set_option maxHeartbeats 2000000 in
theorem of_ok (d : Int) (a : Option Addr) (n c : Nat) (hs : Nat → Nat → Nat) (w : World) (hn : n ≤ 2 ^ 19) (hH : HASHES w a n hs) (h8 : ∀ i, i < n → ∀ j, hs i j < 256) (hX : Tabled w) : Calls Tryd.prog 8 #[.int .i64 d, .slice a n c] w fun e w' =>
    ∃ g C, e = .returned (.tuple #[.pointer (some ⟨g, 0, none⟩), .bool true]) ∧ FOREST w' w.heap.size g d 3 n C hs ∧ Below w.heap.size w w' ∧ (∀ b, b < w.heap.size → ¬ FOOT w' g C b) := by
  have cn := treenew_ok d 3 (by decide) w
  have GB : Aside (1 < w.heap.size) := hX.2.2
  have HA : Aside (HASHES w a n hs ∧ (∀ i, i < n → ∀ j, hs i j < 256) ∧ n ≤ 2 ^ 19) := ⟨hH, h8, hn⟩
  have tab : Aside (∀ W, Below w.heap.size w W → Tabled W) := fun W hb => hX.below hb
  clear hn hH h8 hX
  go_enter Tryd.func8, Tryd.ntmps8
  go_wp2_with fail
  refine cn.mono ?_
  rintro e w1 ⟨g, rfl, hg, hH, hb1⟩
  clear cn
  have hF1 := FOREST.new (B := w.heap.size) hH (by decide) hg hs
  have A1 : Aside (FOREST w1 w.heap.size g d 3 0 (fun _ => none) hs ∧ Below w.heap.size w w1 ∧ ∀ b, b < w.heap.size → ¬ FOOT w1 g (fun _ => none) b) := ⟨hF1, hb1, fun b _ hf => by
    rcases hf with e | ⟨k, gc, rs, e, _⟩
    · rw [hH.cell 3] at e
      cases e
    · cases e⟩
  clear hg hH hb1 hF1
  go_wp2_with fail
  go_loopg [8] n (fun r s8 wx => ∃ (i : Nat) (C : CHUNKS), s8 = .int .i64 (i : Int) ∧ Aside (i + r = n ∧ FOREST wx w.heap.size g d 3 i C hs ∧ Below w.heap.size w wx ∧ ∀ b, b < w.heap.size → ¬ FOOT wx g C b))
  case atStart => exact ⟨0, _, rfl, by omega, A1.out⟩
  case round =>
    obtain ⟨i, C, rfl, A⟩ := hrel
    clear A1
    cases gk with
    | zero =>
      obtain rfl : i = n := by have := A.out.1; omega
      have hlt : ¬ (i : Int) < (i : Int) := by omega
      go_wp2_with fail
      go_ret2
      first | exact ⟨g, C, rfl, A.out.2⟩ | exact ⟨g, rfl, C, A.out.2⟩
    | succ r =>
      have hin : i < n := by have := A.out.1; omega
      have hlt : (i : Int) < (n : Int) := by omega
      have hi0 : ¬ (i : Int) < 0 := by omega
      obtain ⟨lb, lo, rfl, hlb, hlr⟩ := HA.out.1 (by omega)
      have hrg : wr.rangeAt lb (lo + i * 32) (ULIST .u8 32 (hs i)) := range_below (hlr i hin) A.out.2.2.1 hlb
      have cA := append_ok A.out.2.1 (hs i) (HA.out.2.1 i hin) (by have := HA.out.2.2; omega) (tab.out wr A.out.2.2.1) GB.out A.out.2.2.1.size
      have ei : wrap64 ((i : Int) + 1) = ((i + 1 : Nat) : Int) := by have := HA.out.2.2; unfold wrap64; omega
      have eu := u64_fit (n := i) (by have := HA.out.2.2; clear ei; omega)
      have A3 : Aside (i + 1 + r = n) := by have := A.out.1; show i + 1 + r = n; clear ei eu; omega
      clear hlr hin hlb
      go_wp2_with (refine wpList_load_mid rfl 30 (.tmp 29) rfl lb (lo + i * 32) rfl (ULIST .u8 32 (hs i)) _ hrg Tryd.underlying30 rfl (by rw [ULIST_length]; exact info_hash) ?_; rw [← UARR_list])
      refine cA.mono ?_
      rintro e w3 ⟨rfl, C', a1, a2, a3⟩
      have A4 : Aside (FOREST w3 w.heap.size g d 3 (i + 1) C' hs ∧ Below w.heap.size w w3 ∧ ∀ b, b < w.heap.size → ¬ FOOT w3 g C' b) := by
        refine ⟨a1.congr fun k hk => ?_, A.out.2.2.1.trans a3, fun b hb hf => ?_⟩
        · unfold LEAFS
          split
          · rename_i e; rw [e]
          · rfl
        · rcases a2.foot b hf with h1 | h1
          · exact A.out.2.2.2 b hb h1
          · have := A.out.2.2.1.size
            omega
      clear cA hrg a1 a2 a3 A
      go_wp2_with fail
      go_roundg r
      case measure => exact Nat.lt_succ_self _
      case rel => exact ⟨i + 1, C', by first | rfl | (rw [ei]), A3.out, A4.out⟩
end Go.Proofs.YtcmjcchemlhejaaDoor.HX
