/- Texts of MmrInstalls, one behind the other: MmrInstallsWalk, PosAwake, PosDoor. -/
import Derived.Test.YtdmbmphdiaepdaaDoorRows
import Derived.ProofKit
import Derived.LaidMore
import Derived.OpenShut
import Derived.Stop.Joined
import Derived.Test.YtdmbmphdiaepdaaDoorMmrInstallsP23
import Derived.Test.YtdmbmphdiaepdaaDoorMmrInstallsP24
import Derived.Test.YtdmbmphdiaepdaaDoorMmrInstallsP25
import Derived.Test.YtdmbmphdiaepdaaDoorMmrInstallsP28
import Derived.Test.YtdmbmphdiaepdaaDoorMmrInstallsP29
/- The law MmrInstalls returns true. -/
namespace Go.Proofs.YtdmbmphdiaepdaaDoor.HX
open Go.RowKit
set_option maxRecDepth 100000

/-- leaves, and more of them behind. -/
def CATL (n : Nat) (hs ms : Nat → Nat → Nat) : Nat → Nat → Nat := fun i => if i < n then hs i else ms (i - n)
theorem CATL_old {n i : Nat} {hs ms : Nat → Nat → Nat} (h : i < n) : CATL n hs ms i = hs i := if_pos h
theorem FSTS_cat (n : Nat) (hs ms : Nat → Nat → Nat) : ∀ m, FSTS hs n ++ FSTS ms m = FSTS (CATL n hs ms) (n + m)
  | 0 => by
    rw [Nat.add_zero, show FSTS ms 0 = [] from rfl, List.append_nil]
    unfold FSTS
    exact List.map_congr_left fun i hi => (CATL_old (by simpa using hi)).symm
  | m + 1 => by
    rw [FSTS_snoc, ← List.append_assoc, FSTS_cat n hs ms m, ← Nat.add_assoc, FSTS_snoc]
    have : CATL n hs ms (n + m) = ms m := by unfold CATL; rw [if_neg (by omega), Nat.add_sub_cancel_left]
    rw [this]
theorem HL_app (l k : List (Nat → Nat)) : HL (l ++ k) = HL l ++ HL k := by simp [HL]
theorem HL_cat (n m : Nat) (hs ms : Nat → Nat → Nat) : HL (FSTS hs n) ++ HL (FSTS ms m) = HL (FSTS (CATL n hs ms) (n + m)) := by rw [← FSTS_cat, HL_app]
theorem CATL_lt {n m : Nat} {hs ms : Nat → Nat → Nat} (h : ∀ i, i < n → ∀ j, hs i j < 256) (h' : ∀ i, i < m → ∀ j, ms i j < 256) : ∀ i, i < n + m → ∀ j, CATL n hs ms i j < 256 := fun i hi j => by
  unfold CATL
  split
  · rename_i e; exact h i e j
  · exact h' (i - n) (by omega) j
theorem own_listed {w : World} {B n : Nat} {v : Value} {hs : Nat → Nat → Nat} (h : w.ownsRow B 30 32 v n (HL (FSTS hs n))) : ∃ a c, v = .slice a n c ∧ HASHES w a n hs ∧ (∀ x, a = some x → B ≤ x.block) ∧ (a = none → c = 0 ∧ n = 0) := by
  obtain ⟨a, c, e, hH⟩ := own_hashes h (FSTS_length hs n)
  refine ⟨a, c, e, fun hk => ?_, fun x hx => ?_, fun ha => ?_⟩
  · obtain ⟨b, o, e2, hl, hr⟩ := hH hk
    refine ⟨b, o, e2, hl, fun j hj => ?_⟩
    have h1 := hr j hj
    dsimp only at h1
    rwa [FSTS_get hs hj] at h1
  · subst e hx
    rcases h.2 with ⟨e, _⟩ | ⟨g', cap', cur, e, hb, _⟩
    · cases e
    · cases e
      exact hb
  · subst e ha
    rcases h.2 with ⟨e, h0⟩ | ⟨g', cap', cur, e, hb, _⟩
    · simp only [Value.slice.injEq] at e
      exact ⟨e.2.2, e.2.1⟩
    · cases e
theorem HB1_arr : UARR .u8 32 (HB 1) = #[.int .u8 1, .int .u8 0, .int .u8 0, .int .u8 0, .int .u8 0, .int .u8 0, .int .u8 0, .int .u8 0, .int .u8 0, .int .u8 0, .int .u8 0, .int .u8 0, .int .u8 0, .int .u8 0, .int .u8 0, .int .u8 0, .int .u8 0, .int .u8 0, .int .u8 0, .int .u8 0, .int .u8 0, .int .u8 0, .int .u8 0, .int .u8 0, .int .u8 0, .int .u8 0, .int .u8 0, .int .u8 0, .int .u8 0, .int .u8 0, .int .u8 0, .int .u8 0] := by rfl
theorem HB9_arr : UARR .u8 32 (HB 9) = #[.int .u8 9, .int .u8 0, .int .u8 0, .int .u8 0, .int .u8 0, .int .u8 0, .int .u8 0, .int .u8 0, .int .u8 0, .int .u8 0, .int .u8 0, .int .u8 0, .int .u8 0, .int .u8 0, .int .u8 0, .int .u8 0, .int .u8 0, .int .u8 0, .int .u8 0, .int .u8 0, .int .u8 0, .int .u8 0, .int .u8 0, .int .u8 0, .int .u8 0, .int .u8 0, .int .u8 0, .int .u8 0, .int .u8 0, .int .u8 0, .int .u8 0, .int .u8 0] := by rfl
/-- two trees side by side. -/
structure TWO (w wx : World) (Bb ga gb : Nat) (d : Int) (n m : Nat) (Ca Cb : CHUNKS) (f f' : Nat → Nat → Nat) : Prop where
  fa : FOREST wx w.heap.size ga d 3 n Ca f
  fb : FOREST wx Bb gb d 3 m Cb f'
  ap : APART wx ga Ca gb Cb
  bel : Below w.heap.size w wx
  sz : Bb ≤ wx.heap.size
  lo : w.heap.size ≤ Bb
theorem TWO.keep {w wx w' : World} {Bb ga gb : Nat} {d : Int} {n m : Nat} {Ca Cb : CHUNKS} {f f' : Nat → Nat → Nat} (h : TWO w wx Bb ga gb d n m Ca Cb f f') (hb : Below wx.heap.size wx w') : TWO w w' Bb ga gb d n m Ca Cb f f' :=
  ⟨h.fa.below hb, h.fb.below hb, h.ap.below h.fa h.fb hb, h.bel.trans (hb.mono h.bel.size), Nat.le_trans h.sz hb.size, h.lo⟩
theorem TWO.first {w wx w' : World} {Bb ga gb : Nat} {d : Int} {n m n' : Nat} {Ca Cb D : CHUNKS} {f f' f2 : Nat → Nat → Nat} (h : TWO w wx Bb ga gb d n m Ca Cb f f') (hF : FOREST w' w.heap.size ga d 3 n' D f2) (hst : TSTEP wx w' ga Ca D) (hb : Below w.heap.size wx w') : TWO w w' Bb ga gb d n' m D Cb f2 f' := by
  obtain ⟨k1, k2⟩ := h.fb.beside h.ap hst
  exact ⟨hF, k1, k2, h.bel.trans hb, Nat.le_trans h.sz hst.size, h.lo⟩
theorem TWO.second {w wx w' : World} {Bb ga gb : Nat} {d : Int} {n m n' : Nat} {Ca Cb D : CHUNKS} {f f' f2 : Nat → Nat → Nat} (h : TWO w wx Bb ga gb d n m Ca Cb f f') (hF : FOREST w' Bb gb d 3 n' D f2) (hst : TSTEP wx w' gb Cb D) (hb : Below Bb wx w') : TWO w w' Bb ga gb d n n' Ca D f f2 := by
  obtain ⟨k1, k2⟩ := h.fa.beside h.ap.symm hst
  exact ⟨k1, hF, k2.symm, h.bel.trans (hb.mono h.lo), Nat.le_trans h.sz hst.size, h.lo⟩
theorem FOREST.got {w : World} {B g : Nat} {d : Int} {log n p : Nat} {C : CHUNKS} {f : Nat → Nat → Nat} (hF : FOREST w B g d log n C f) (hp : p < NODES n) : ∃ h k, p = PLC h k ∧ (k + 1) * 2 ^ h ≤ n ∧ GOTH C log (NODES n) p = VAL d f h k ∧ GOT C log (NODES n) p = 0 := by
  have hb := NODES_bound (n := n) (h := 21) (by have := hF.few; omega)
  obtain ⟨h, k, hN, e⟩ := Node.of (p := p) (by omega)
  have hu : (k + 1) * 2 ^ h ≤ n := node_under (by rw [← e]; exact hp)
  refine ⟨h, k, e, hu, ?_⟩
  unfold GOTH GOT
  rw [if_pos hp, if_pos hp, e, hF.node h k hu]
  exact ⟨rfl, rfl⟩
theorem installs_long (d : Int) (a : Option Addr) (n c : Nat) (a' : Option Addr) (m c' : Nat) (w : World) (hn : (200 : Int) < (n : Int) ∨ (200 : Int) < (m : Int)) : Calls Tryd.prog 3 #[.int .i64 d, .slice a n c, .slice a' m c'] w fun e w' => e = .returned (.bool true) ∧ Below w.heap.size w w' := by
  by_cases h1 : (200 : Int) < (n : Int)
  · clear hn
    go_enter Tryd.func3, Tryd.ntmps3
    go_wp2
    go_ret
    exact ⟨rfl, Below.refl _ _⟩
  · have h2 : (200 : Int) < (m : Int) := hn.resolve_left h1
    clear hn
    go_enter Tryd.func3, Tryd.ntmps3
    go_wp2
    go_ret
    exact ⟨rfl, Below.refl _ _⟩
set_option maxHeartbeats 4000000 in
theorem installs_core (d : Int) (a : Option Addr) (n c : Nat) (hs : Nat → Nat → Nat) (a' : Option Addr) (m c' : Nat) (ms : Nat → Nat → Nat) (w : World) (hn : n ≤ 200) (hm : m ≤ 200) (hH : HASHES w a n hs) (hH' : HASHES w a' m ms) (h8 : ∀ i, i < n → ∀ j, hs i j < 256) (h8' : ∀ i, i < m → ∀ j, ms i j < 256) (hc : a = none → c = 0 ∧ n = 0) (hc' : a' = none → c' = 0 ∧ m = 0) (hT : Go.Proofs.YtdmbmphdiaepdaaDoor.Tabled w) (hX : Tabled w) : Calls Tryd.prog 3 #[.int .i64 d, .slice a n c, .slice a' m c'] w fun e w' => e = .returned (.bool true) ∧ Below w.heap.size w w' := by
  have hlong : ¬ (200 : Int) < (n : Int) := by omega
  have hlong' : ¬ (200 : Int) < (m : Int) := by omega
  have co := of_ok d a n c hs w (by omega) hH h8 hX
  have hz := zeroHash
  have GB : Aside (1 < w.heap.size) := hX.2.2
  have HA : Aside (HASHES w a n hs ∧ HASHES w a' m ms ∧ (∀ i, i < n → ∀ j, hs i j < 256) ∧ (∀ i, i < m → ∀ j, ms i j < 256) ∧ n ≤ 200 ∧ m ≤ 200 ∧ (a = none → c = 0 ∧ n = 0) ∧ (a' = none → c' = 0 ∧ m = 0)) := ⟨hH, hH', h8, h8', hn, hm, hc, hc'⟩
  have tab : Aside (∀ W, Below w.heap.size w W → Go.Proofs.YtdmbmphdiaepdaaDoor.Tabled W ∧ Tabled W) := fun W hb => ⟨hT.below (by have := hX.2.2; omega) hb, hX.below hb⟩
  clear hn hm hH hH' h8 h8' hc hc' hT hX
  go_enter Tryd.func3, Tryd.ntmps3
  go_wp2_with fail
  refine co.mono ?_
  rintro e w1 ⟨ga, Ca, rfl, hF1, hb1, -⟩
  clear co
  have A1 : Aside (FOREST w1 w.heap.size ga d 3 n Ca hs ∧ Below w.heap.size w w1) := ⟨hF1, hb1⟩
  clear hF1 hb1
  go_wp2_with (first
    | (at_builtin; refine app_hashesf _ rfl (.tmp 40) (.tmp 41) rfl w1.heap.size (.slice (some ⟨w1.heap.size, 0, none⟩) 0 0) 0 [] rfl (own_emptyh w1) a n c hs rfl ((HA.out.1.below A1.out.2).below ((Below.refl _ _).alloc (Nat.le_refl _) _)) (fun h => (HA.out.2.2.2.2.2.2.1 h).1) (fun h => (HA.out.2.2.2.2.2.2.1 h).2) (by have := HA.out.2.2.2.2.1; omega) (by simp) ?_; rw [Nat.zero_add, List.nil_append]; intro a1 c1 w2 hown1 hgrow1
       have R1 : Aside (w2.ownsRow w1.heap.size 30 32 (.slice a1 n c1) n (HL (FSTS hs n)) ∧ Below w1.heap.size w1 w2) := ⟨hown1, ((Below.refl _ w1).alloc (Nat.le_refl _) _).grown hgrow1 (by simp) (fun k e => by cases e; exact Nat.le_refl _)⟩
       clear hown1 hgrow1)
    | (at_builtin; refine app_hashesf _ rfl (.tmp 42) (.tmp 43) rfl w1.heap.size (.slice a1 n c1) n (HL (FSTS hs n)) rfl R1.out.1 a' m c' ms rfl ((HA.out.2.1.below A1.out.2).below R1.out.2) (fun h => (HA.out.2.2.2.2.2.2.2 h).1) (fun h => (HA.out.2.2.2.2.2.2.2 h).2) (by have := HA.out.2.2.2.2.1; have := HA.out.2.2.2.2.2.1; omega) R1.out.2.size ?_; rw [HL_cat]; intro a2 c2 w3 hown2 hgrow2
       have R2 : Aside (w3.ownsRow w1.heap.size 30 32 (.slice a2 (n + m) c2) (n + m) (HL (FSTS (CATL n hs ms) (n + m))) ∧ Below w1.heap.size w1 w3) := ⟨hown2, R1.out.2.grown hgrow2 R1.out.2.size (fun k e => (R1.out.1.lt k e).1)⟩
       clear hown2 hgrow2 R1))
  obtain ⟨a3, c3, e3, hl3, -, -⟩ := own_listed R2.out.1
  cases e3
  have hbw3 : Below w.heap.size w w3 := A1.out.2.trans (R2.out.2.mono A1.out.2.size)
  have co := of_ok d a2 (n + m) c2 (CATL n hs ms) w3 (by have := HA.out.2.2.2.2.1; have := HA.out.2.2.2.2.2.1; omega) hl3 (CATL_lt HA.out.2.2.1 HA.out.2.2.2.1) (tab.out w3 hbw3).2
  clear hl3
  refine co.mono ?_
  rintro e w4 ⟨gb, Cb, rfl, hF4, hb4, hft⟩
  clear co
  have hFa3 := A1.out.1.below R2.out.2
  have T4 : Aside (TWO w w4 w3.heap.size ga gb d n (n + m) Ca Cb hs (CATL n hs ms)) := ⟨hFa3.below hb4, hF4, APART.later hFa3 hb4 hF4.base hft, hbw3.trans (hb4.mono hbw3.size), hb4.size, hbw3.size⟩
  clear A1 R2 hbw3 hF4 hb4 hft hFa3
  generalize w3.heap.size = Bb at *
  have NM : Aside (NODES n ≤ NODES (n + m) ∧ NODES (n + m) ≤ 800 ∧ n + m ≤ 400) := ⟨NODES_le (by omega), by have := HA.out.2.2.2.2.1; have := HA.out.2.2.2.2.2.1; unfold NODES; omega, by have := HA.out.2.2.2.2.1; have := HA.out.2.2.2.2.2.1; omega⟩
  have eun := u64_fits (n := n) (by have := NM.out.2.2; omega)
  have eum := u64_fits (n := m) (by have := NM.out.2.2; omega)
  have eunm := u64_fits (n := n + m) (by have := NM.out.2.2; omega)
  have eadd : wrap64 ((n : Int) + (m : Int)) = ((n + m : Nat) : Int) := by have := NM.out.2.2; unfold wrap64; omega
  have cn := nodes_ok n (by have := NM.out.2.2; omega) w4
  have cm := nodes_ok (n + m) (by have := NM.out.2.2; omega) w4
  go_wp2_with fail
  refine cn.mono ?_
  rintro e w5 ⟨rfl, rfl⟩
  clear cn
  go_wp2_with fail
  refine cm.mono ?_
  rintro e w5 ⟨rfl, rfl⟩
  clear cm
  obtain ⟨N1, hN1⟩ : ∃ N, NODES n = N := ⟨_, rfl⟩
  obtain ⟨N2, hN2⟩ : ∃ N, NODES (n + m) = N := ⟨_, rfl⟩
  obtain ⟨vs, hvs⟩ : ∃ v : Nat → Nat → Nat, v = fun j => GOTH Cb 3 N2 (N1 + j) := ⟨_, rfl⟩
  have V : Aside (NODES n = N1 ∧ NODES (n + m) = N2 ∧ N1 ≤ N2 ∧ N2 ≤ 800 ∧ (∀ p, GOTH Cb 3 N2 (N1 + p) = vs p) ∧ (∀ i, i < N2 - N1 → ∀ j, vs i j < 256) ∧ MADEOF d n (n + m) (CATL n hs ms) vs) := by
    refine ⟨hN1, hN2, by have := NM.out.1; omega, by have := NM.out.2.1; omega, fun p => by rw [hvs], fun i hi j => ?_, fun h k hk hle => ?_⟩
    · obtain ⟨h, k, _, hu, e, _⟩ := T4.out.fb.got (p := N1 + i) (by have := NM.out.1; omega)
      rw [hvs, ← hN2]
      dsimp only
      rw [e]
      exact VAL_lt (CATL_lt HA.out.2.2.1 HA.out.2.2.2.1) h k hu j
    · rw [hvs]
      dsimp only
      rw [hN1] at hle ⊢
      rw [show N1 + (PLC h k - N1) = PLC h k by omega, ← hN2]
      unfold GOTH
      rw [if_pos (PLC_under hk), T4.out.fb.node h k hk]
      rfl
  rw [hN1, hN2]
  clear hN1 hN2 hvs NM
  go_wp2_with fail
  have ST4 : Aside (∀ W, Below w4.heap.size w4 W → TWO w W Bb ga gb d n (n + m) Ca Cb hs (CATL n hs ms)) := fun W hb => T4.out.keep hb
  clear T4
  go_loopg [15, 16] (N2 - N1) (fun r s15 s16 wx => ∃ (q p : Nat) (lv : Value), lv = s15 ∧ s16 = .int .u64 (p : Int) ∧ Aside (p = N1 + q ∧ q + r = N2 - N1 ∧ Below w4.heap.size w4 wx ∧ wx.ownsRow w4.heap.size 30 32 lv q (HL (FSTS vs q))))
  case atStart => exact ⟨0, N1, _, rfl, rfl, rfl, by omega, Below.refl _ _, ⟨rfl, .inl ⟨rfl, rfl⟩⟩⟩
  case round =>
    obtain ⟨q, p, lv, rfl, rfl, A⟩ := hrel
    cases gk with
    | succ r =>
      have hpe : p = N1 + q := A.out.1
      have hq : p < N2 := by have := A.out.2.1; omega
      have hlt : (p : Int) < (N2 : Int) := by omega
      have hTW := ST4.out wr A.out.2.2.1
      have cg := treenode_ok hTW.fb.store p (by have := V.out.2.2.2.1; omega)
      obtain ⟨h, k, -, hu, g1, g2⟩ := hTW.fb.got (p := p) (by rw [V.out.2.1]; exact hq)
      rw [g2, V.out.2.1, show GOTH Cb 3 N2 p = vs q by rw [hpe]; exact V.out.2.2.2.2.1 q] at cg
      obtain ⟨v15, c15, e15, hh15, -, -⟩ := own_listed A.out.2.2.2
      have ep := u64_next (n := p) (by have := V.out.2.2.2.1; omega)
      have A2 : Aside (p + 1 = N1 + (q + 1) ∧ q + 1 + r = N2 - N1 ∧ Below w4.heap.size w4 wr ∧ wr.ownsRow w4.heap.size 30 32 lv q (HL (FSTS vs q)) ∧ q ≤ 800) := ⟨by clear ep; omega, by have := A.out.2.1; clear ep; omega, A.out.2.2.1, A.out.2.2.2, by have := V.out.2.2.2.1; clear ep; omega⟩
      clear A hTW g1 g2 hu e15 hh15 hq hpe
      generalize hX : vs q = X at cg
      go_wp2_with fail
      refine cg.mono ?_
      rintro e w6 ⟨rfl, hb6⟩
      clear cg
      have hst := run_storeCells_new (P := Tryd.prog) w6 30 (UARR .u8 32 fun _ => 0) (UARR .u8 32 X) (info_HASH _) (by rw [UARR_size, UARR_size]) (UARR_one _ _ _)
      have hsu := UARR_size .u8 32 X
      obtain ⟨w7, hw7⟩ : ∃ w7, w6.alloc (.cells (UARR .u8 32 X) 30) = w7 := ⟨_, rfl⟩
      rw [hw7] at hst
      have h17 : Has w7 w6.heap.size (UARR .u8 32 X) 30 := by rw [← hw7]; exact Has.new _ _ _
      have hb7 : Below wr.heap.size wr w7 := by rw [← hw7]; exact hb6.alloc hb6.size _
      have A3 : Aside (Below w4.heap.size w4 w7 ∧ w7.ownsRow w4.heap.size 30 32 lv q (HL (FSTS vs q))) := ⟨A2.out.2.2.1.trans (hb7.mono A2.out.2.2.1.size), own_keep A2.out.2.2.2.1 hb7⟩
      clear hb6 hb7
      go_wp2_with (first
        | (refine wpList_load_row rfl 30 (.tmp 17) rfl w6.heap.size rfl 30 (UARR .u8 32 X) (0, 0) _ h17 Tryd.underlying30 rfl (info_HASH _) ?_)
        | (refine build_hash _ rfl (.tmp 86) rfl X rfl ?_)
        | (at_builtin; refine app_hashf _ rfl (.tmp 85) (.tmp 87) rfl w4.heap.size _ q (HL (FSTS vs q)) rfl (A3.out.2.alloc _) w7.heap.size 1 X rfl (Has.new _ _ _) (by have := A2.out.2.2.2.2; omega) (by have := A3.out.1.size; simp; omega) ?_; intro g2 c2 w8 hown2 hgrow2 hat2 hg2
           have R : Aside (p + 1 = N1 + (q + 1) ∧ q + 1 + r = N2 - N1 ∧ Below w4.heap.size w4 w8 ∧ w8.ownsRow w4.heap.size 30 32 (.slice (some ⟨g2, 0, none⟩) (q + 1) c2) (q + 1) (HL (FSTS vs (q + 1)))) := ⟨A2.out.1, A2.out.2.1, (A3.out.1.alloc A3.out.1.size _).grown hgrow2 (by have := A3.out.1.size; simp; omega) (fun k e => (A3.out.2.lt k e).1), by rw [FSTS_snoc, HL_snoc', hX]; exact hown2⟩
           clear hown2 hgrow2 hat2 hg2))
      clear hst hsu hw7 h17 A2 A3
      go_roundg r
      case measure => exact Nat.lt_succ_self _
      case rel => exact ⟨q + 1, p + 1, _, rfl, by first | rfl | exact congrArg (Value.int IntKind.u64) ep, R.out⟩
    | zero =>
      obtain ⟨M, hM⟩ : ∃ M, N2 - N1 = M := ⟨_, rfl⟩
      rw [hM] at A
      have hpN : p = N2 := by have := A.out.1; have := A.out.2.1; have := V.out.2.2.1; omega
      subst hpN
      have hlt : ¬ (p : Int) < (p : Int) := by omega
      obtain rfl : q = M := by have := A.out.2.1; omega
      have VQ : Aside (NODES n + q = NODES (n + m) ∧ q ≤ 800 ∧ NODES (n + m) = p ∧ p ≤ 800 ∧ (∀ i, i < q → ∀ j, vs i j < 256) ∧ MADEOF d n (n + m) (CATL n hs ms) vs) := by
        obtain ⟨v1, v2, v3, v4, v5, v6, v7⟩ := V.out
        rw [hM] at v6
        exact ⟨by omega, by omega, v2, v4, v6, v7⟩
      obtain ⟨a15, c15, e15, hh15, -, hnil⟩ := own_listed A.out.2.2.2
      subst e15
      have cr := row6_ok a15 q c15 (by have := VQ.out.2.1; omega) hnil vs wr hh15
      have A1 : Aside (Below w4.heap.size w4 wr ∧ HASHES wr a15 q vs ∧ (a15 = none → c15 = 0 ∧ q = 0)) := ⟨A.out.2.2.1, hh15, hnil⟩
      clear A hh15 hnil V hM
      go_wp2_with fail
      refine cr.mono ?_
      rintro e w5 ⟨g5, c5, rfl, r1, r2, -, -, r5⟩
      clear cr
      have A2 : Aside (Below w4.heap.size w4 w5 ∧ Below wr.heap.size wr w5 ∧ w5.ownsRow wr.heap.size 30 32 (.slice (some ⟨g5, 0, none⟩) q c5) q (HL (FSTS vs q))) := ⟨A1.out.1.trans (r5.mono A1.out.1.size), r5, r1⟩
      clear r1 r2 r5
      go_wp2_with (first
        | (rw [← HB1_arr]; refine build_hash _ rfl (.tmp 92) rfl (HB 1) rfl ?_)
        | (at_builtin; refine app_hashf _ rfl (.tmp 91) (.tmp 93) rfl wr.heap.size _ q (HL (FSTS vs q)) rfl (A2.out.2.2.alloc _) w5.heap.size 1 (HB 1) rfl (Has.new _ _ _) (by have := VQ.out.2.1; omega) (by have := A2.out.2.1.size; simp; omega) ?_; intro g6 c6 w6 hown2 hgrow2 hat2 hg2
           have R : Aside (Below wr.heap.size wr w6) := (A2.out.2.1.alloc A2.out.2.1.size _).grown hgrow2 (by have := A2.out.2.1.size; simp; omega) (fun k e => (A2.out.2.2.lt k e).1)
           clear hown2 hgrow2 hat2 hg2))
      have S6 := ST4.out w6 (A1.out.1.trans (R.out.mono A1.out.1.size))
      have ci := install_count S6.fa (some ⟨g6, 0, none⟩) (q + 1) c6 m (by have := HA.out.2.2.2.2.1; have := HA.out.2.2.2.2.2.1; omega) (by have := VQ.out.2.1; omega) (by have := VQ.out.1; omega)
      have cz := size_of S6.fa
      clear S6
      refine ci.mono ?_
      rintro e w7 ⟨rfl, rfl⟩
      clear ci
      go_wp2_with fail
      refine cz.mono ?_
      rintro e w7 ⟨rfl, rfl⟩
      clear cz
      have cr := row6_ok a15 q c15 (by have := VQ.out.2.1; omega) A1.out.2.2 vs w6 (A1.out.2.1.below R.out)
      go_wp2_with fail
      refine cr.mono ?_
      rintro e w7 ⟨g7, c7, rfl, r1, r2, -, -, r5⟩
      clear cr
      obtain ⟨a8, c8, e8, hh8, hb8, -⟩ := own_listed r1
      cases e8
      have hb67 : Below w4.heap.size w4 w6 := A1.out.1.trans (R.out.mono A1.out.1.size)
      have S6 := ST4.out w6 hb67
      have S7 := S6.keep r5
      have ci := install_ok S7.fa (some ⟨g7, 0, none⟩) q c7 m (CATL n hs ms) vs (by have := HA.out.2.2.2.2.1; have := HA.out.2.2.2.2.2.1; omega) VQ.out.1 hh8 VQ.out.2.2.2.2.1
        (fun x hx => by
          have h1 := hb8 x hx
          refine ⟨fun e => ?_, fun hf => ?_⟩
          · have := S6.fa.store.lt
            omega
          · have := S6.fa.store.foot_lt (S6.fa.store.foot_below r5 hf)
            omega)
        (fun j hj => CATL_old hj) (CATL_lt HA.out.2.2.1 HA.out.2.2.2.1) VQ.out.2.2.2.2.2 S7.bel.size
      have T7 : Aside (TWO w w7 Bb ga gb d n (n + m) Ca Cb hs (CATL n hs ms)) := S7
      clear r1 r2 r5 hh8 hb8 hb67 S6 S7 A1 A2 R ST4
      go_wp2_with fail
      refine ci.mono ?_
      rintro e w8 ⟨rfl, Ca', hF8, hst8, hb8⟩
      clear ci
      have ST8 : Aside (∀ W, Below w8.heap.size w8 W → TWO w W Bb ga gb d (n + m) (n + m) Ca' Cb (CATL n hs ms) (CATL n hs ms)) := fun W hb => (T7.out.first hF8 hst8 hb8).keep hb
      clear T7 hF8 hst8 hb8
      go_wp2_with fail
      go_loopg [19] p (fun r s19 wx => ∃ y : Nat, s19 = .int .u64 (y : Int) ∧ Aside (y + r = p ∧ Below w8.heap.size w8 wx))
      case atStart => exact ⟨0, rfl, by omega, Below.refl _ _⟩
      case round =>
        obtain ⟨y, rfl, A⟩ := hrel
        cases gk with
        | succ r =>
          have hyp : y < p := by have := A.out.1; omega
          have hlt2 : (y : Int) < (p : Int) := by omega
          have hTW := ST8.out wr A.out.2
          have ca := treenode_ok hTW.fa.store y (by have := VQ.out.2.2.2.1; omega)
          obtain ⟨h, k, he, hu, g1, g2⟩ := hTW.fa.got (p := y) (by rw [VQ.out.2.2.1]; exact hyp)
          rw [g1, g2] at ca
          have cb : ∀ W, Below w8.heap.size w8 W → Calls Tryd.prog 6 #[.pointer (some ⟨gb, 0, none⟩), .int .u64 (y : Int)] W fun e w' => e = .returned (.tuple #[.agg (UARR .u8 32 (VAL d (CATL n hs ms) h k)), .int .i64 0]) ∧ Below W.heap.size W w' := fun W hb => by
            have hT2 := ST8.out W hb
            have c1 := treenode_ok hT2.fb.store y (by have := VQ.out.2.2.2.1; omega)
            have e1 : GOTH Cb 3 (NODES (n + m)) y = VAL d (CATL n hs ms) h k := by
              unfold GOTH
              rw [VQ.out.2.2.1, if_pos hyp, he, hT2.fb.node h k hu]
              rfl
            have e2 : GOT Cb 3 (NODES (n + m)) y = 0 := by
              unfold GOT
              rw [VQ.out.2.2.1, if_pos hyp, he, hT2.fb.node h k hu]
              rfl
            rw [e1, e2] at c1
            exact c1
          have ey := u64_next (n := y) (by have := VQ.out.2.2.2.1; omega)
          have A2 : Aside (y + 1 + r = p ∧ Below w8.heap.size w8 wr) := ⟨by have := A.out.1; clear ey; omega, A.out.2⟩
          clear A hTW g1 g2 hu he hyp
          generalize VAL d (CATL n hs ms) h k = X at *
          go_wp2_with fail
          refine ca.mono ?_
          rintro e w9 ⟨rfl, hb9⟩
          clear ca
          have hst := run_storeCells_new (P := Tryd.prog) w9 30 (UARR .u8 32 fun _ => 0) (UARR .u8 32 X) (info_HASH _) (by rw [UARR_size, UARR_size]) (UARR_one _ _ _)
          have hsu := UARR_size .u8 32 X
          obtain ⟨w10, hw10⟩ : ∃ w10, w9.alloc (.cells (UARR .u8 32 X) 30) = w10 := ⟨_, rfl⟩
          rw [hw10] at hst
          have h20 : Has w10 w9.heap.size (UARR .u8 32 X) 30 := by rw [← hw10]; exact Has.new _ _ _
          have hb10 : Below wr.heap.size wr w10 := by rw [← hw10]; exact hb9.alloc hb9.size _
          have A3 : Aside (Below w8.heap.size w8 w10 ∧ Has w10 w9.heap.size (UARR .u8 32 X) 30) := ⟨A2.out.2.trans (hb10.mono A2.out.2.size), h20⟩
          have cb2 := cb w10 A3.out.1
          clear hb9 hb10 h20 cb
          go_wp2_with fail
          refine cb2.mono ?_
          rintro e w11 ⟨rfl, hb11⟩
          clear cb2 hst hw10
          have hst := run_storeCells_new (P := Tryd.prog) w11 30 (UARR .u8 32 fun _ => 0) (UARR .u8 32 X) (info_HASH _) (by rw [UARR_size, UARR_size]) (UARR_one _ _ _)
          obtain ⟨w12, hw12⟩ : ∃ w12, w11.alloc (.cells (UARR .u8 32 X) 30) = w12 := ⟨_, rfl⟩
          rw [hw12] at hst
          have h22 : Has w12 w11.heap.size (UARR .u8 32 X) 30 := by rw [← hw12]; exact Has.new _ _ _
          have hb12 : Below w10.heap.size w10 w12 := by rw [← hw12]; exact hb11.alloc hb11.size _
          have h20 : Has w12 w9.heap.size (UARR .u8 32 X) 30 := A3.out.2.keep hb12
          have A4 : Aside (Below w8.heap.size w8 w12) := A3.out.1.trans (hb12.mono A3.out.1.size)
          have qx := equal_same X
          clear hb11 hb12 A3
          go_wp2_with (first
            | (refine wpList_load_row rfl 30 (.tmp 20) rfl w9.heap.size rfl 30 (UARR .u8 32 X) (0, 0) _ h20 Tryd.underlying30 rfl (info_HASH _) ?_)
            | (refine wpList_load_row rfl 30 (.tmp 22) rfl w11.heap.size rfl 30 (UARR .u8 32 X) (0, 0) _ h22 Tryd.underlying30 rfl (info_HASH _) ?_))
          go_roundg r
          case measure => exact Nat.lt_succ_self _
          case rel => exact ⟨y + 1, by first | rfl | exact congrArg (Value.int IntKind.u64) ey, A2.out.1, A4.out⟩
        | zero =>
          obtain rfl : y = p := by have := A.out.1; omega
          have hlt2 : ¬ (y : Int) < (y : Int) := by omega
          have T8 : Aside (TWO w wr Bb ga gb d (n + m) (n + m) Ca' Cb (CATL n hs ms) (CATL n hs ms)) := ST8.out wr A.out.2
          clear A ST8
          have hnm : n + m < 2 ^ 20 := by have := HA.out.2.2.2.2.1; have := HA.out.2.2.2.2.2.1; omega
          have ca := append_ok T8.out.fa (HB 9) (HB_lt 9 (by decide)) hnm (tab.out wr T8.out.bel).2 GB.out T8.out.bel.size
          clear hnm
          go_wp2_with (rw [← HB9_arr])
          refine ca.mono ?_
          rintro e w9 ⟨rfl, Da, a1, a2, a3⟩
          clear ca
          have T9 : Aside (TWO w w9 Bb ga gb d (n + m + 1) (n + m) Da Cb (LEAFS (CATL n hs ms) (n + m) (HB 9)) (CATL n hs ms)) := T8.out.first a1 a2 a3
          clear a1 a2 a3 T8
          have cb := append_ok T9.out.fb (HB 9) (HB_lt 9 (by decide)) (by have := HA.out.2.2.2.2.1; have := HA.out.2.2.2.2.2.1; omega) (tab.out w9 T9.out.bel).2 (by have := GB.out; have := T9.out.lo; omega) T9.out.sz
          go_wp2_with (rw [← HB9_arr])
          refine cb.mono ?_
          rintro e w10 ⟨rfl, Db, a1, a2, a3⟩
          clear cb
          have T10 : Aside (∀ W, Below w10.heap.size w10 W → TWO w W Bb ga gb d (n + m + 1) (n + m + 1) Da Db (LEAFS (CATL n hs ms) (n + m) (HB 9)) (LEAFS (CATL n hs ms) (n + m) (HB 9))) := fun W hb => (T9.out.second a1 a2 a3).keep hb
          clear a1 a2 a3 T9
          generalize LEAFS (CATL n hs ms) (n + m) (HB 9) = f at *
          generalize n + m + 1 = nm at *
          have t0 := T10.out w10 (Below.refl _ _)
          have cr := root_of t0.fa (tab.out w10 t0.bel).1 (tab.out w10 t0.bel).2
          clear t0
          have qx := equal_same (ROOTOF d f nm)
          have RB : Aside (∀ W, Below w10.heap.size w10 W → Calls Tryd.prog 11 #[.pointer (some ⟨gb, 0, none⟩)] W fun e w' => e = .returned (.agg (UARR .u8 32 (ROOTOF d f nm))) ∧ Below W.heap.size W w') := fun W hb => root_of (T10.out W hb).fb (tab.out W (T10.out W hb).bel).1 (tab.out W (T10.out W hb).bel).2
          generalize ROOTOF d f nm = X at *
          go_wp2_with fail
          refine cr.mono ?_
          rintro e w11 ⟨rfl, hb11⟩
          clear cr
          have cr := RB.out w11 hb11
          have A11 : Aside (Below w10.heap.size w10 w11) := hb11
          clear hb11 RB
          go_wp2_with fail
          refine cr.mono ?_
          rintro e w12 ⟨rfl, hb12⟩
          clear cr
          have A12 : Aside (Below w10.heap.size w10 w12) := A11.out.trans (hb12.mono A11.out.size)
          clear hb12 A11
          have t0 := T10.out w12 A12.out
          have cp := peaks_of t0.fa (tab.out w12 t0.bel).1
          clear t0
          go_wp2_with fail
          refine cp.mono ?_
          rintro e w13 ⟨v, rfl, hown, hb13⟩
          clear cp
          have P13 : Aside (Below w10.heap.size w10 w13 ∧ w13.ownsRow w12.heap.size 30 32 v (PC nm) (HL (PKV d f nm))) := ⟨A12.out.trans (hb13.mono A12.out.size), hown⟩
          clear hown hb13 A12
          have t0 := T10.out w13 P13.out.1
          have cp := peaks_of t0.fb (tab.out w13 t0.bel).1
          clear t0
          go_wp2_with fail
          refine cp.mono ?_
          rintro e w14 ⟨v', rfl, hown, hb14⟩
          clear cp
          have t1 := T10.out w14 (P13.out.1.trans (hb14.mono P13.out.1.size))
          have few := t1.fa.few
          have hlen := PKV_length d f (m := nm) (by omega)
          have hpc : PC nm ≤ 2 ^ 20 := Nat.le_trans (PC_lt_pow 64 nm (by omega)) (by decide)
          obtain ⟨ax, cx, ex, hx⟩ := own_hashes P13.out.2 hlen
          obtain ⟨ay, cy, ey, hy⟩ := own_hashes hown hlen
          subst ex ey
          have cs := same6_yes ax ay (PC nm) cx cy _ w14 hpc (hx.below hb14) hy
          have aw : Aside (∀ W, Below w14.heap.size w14 W → Calls Tryd.prog 14 #[] W fun e w' => e = .returned (.bool true) ∧ Below w.heap.size w w') := fun W hb => by
            have hw := (T10.out W ((P13.out.1.trans (hb14.mono P13.out.1.size)).trans (hb.mono (P13.out.1.trans (hb14.mono P13.out.1.size)).size))).bel
            refine (awake6_ok W (tab.out W hw).1 (tab.out W hw).2).mono ?_
            rintro e W' ⟨rfl, h2⟩
            exact ⟨rfl, hw.trans (h2.mono hw.size)⟩
          clear hown hb14 t1 few hlen hpc hx hy P13
          go_wp2_with fail
          refine cs.mono ?_
          rintro e w15 ⟨rfl, hb15⟩
          clear cs
          have ca := aw.out w15 hb15
          clear aw hb15
          go_wp2_with fail
          refine ca.mono ?_
          rintro e w16 ⟨rfl, hb16⟩
          clear ca
          go_wp2_with fail
          go_ret
          exact ⟨rfl, hb16⟩
theorem mmrInstalls_walk (d : Int) (a : Option Addr) (n c : Nat) (hs : Nat → Nat → Nat) (a' : Option Addr) (m c' : Nat) (ms : Nat → Nat → Nat) (w : World) (hH : HASHES w a n hs) (h8 : ∀ i, i < n → ∀ j, hs i j < 256) (hc : a = none → c = 0 ∧ n = 0) (hH' : HASHES w a' m ms) (h8' : ∀ i, i < m → ∀ j, ms i j < 256) (hc' : a' = none → c' = 0 ∧ m = 0) (hT : Go.Proofs.YtdmbmphdiaepdaaDoor.Tabled w) (hX : Tabled w) : Calls Tryd.prog 3 #[.int .i64 d, .slice a n c, .slice a' m c'] w fun e w' => e = .returned (.bool true) ∧ Below w.heap.size w w' := by
  by_cases h : n ≤ 200 ∧ m ≤ 200
  · exact installs_core d a n c hs a' m c' ms w h.1 h.2 hH hH' h8 h8' hc hc' hT hX
  · exact installs_long d a n c a' m c' w (by omega)
end Go.Proofs.YtdmbmphdiaepdaaDoor.HX

/- awake answers true: the forest of seven leaves. -/
namespace Go.Proofs.YtdmbmphdiaepdaaDoor
open Go.RowKit

theorem PEAKS_seven : PEAKS 7 = [6, 9, 10] := by
  have h : HS 0 7 = [2, 1, 0] := by rw [HS_zero]; decide
  have p2 : PKP 7 2 = 6 := by
    unfold PKP PLC NODES
    simp [PC_zero]
  have p1 : PKP 7 1 = 9 := by
    unfold PKP PLC NODES
    have := PC_pow 2
    simp at this
    simp [this]
  have p0 : PKP 7 0 = 10 := by
    unfold PKP PLC NODES
    have h1 := PC_even 3
    have h2 := PC_ones 2
    simp at h1 h2
    simp [h1, h2]
  unfold PEAKS
  rw [h]
  simp [p0, p1, p2]
theorem PC_seven : PC 7 = 3 := PC_ones 3
theorem NODES_seven : NODES 7 = 11 := by
  unfold NODES
  rw [PC_seven]
theorem PLC_nine : PLC 1 2 = 9 := by
  unfold PLC NODES
  have := PC_pow 2
  simp at this
  simp [this]
/-- a list of numbers, cell by cell. -/
theorem row_at {w : World} {base g n cap : Nat} {l : List Nat} (h : w.ownsRow base 26 1 (.slice (some ⟨g, 0, none⟩) n cap) n (UCELLS l)) (i : Nat) (hi : i < l.length) : w.cell? ⟨g, i, none⟩ = some (.int .u64 (l.getD i 0 : Nat)) := by
  have hlen : l.length = n := by have := h.1; simpa [UCELLS] using this
  rw [h.cellAt i (by omega)]
  unfold UCELLS
  rw [List.getElem?_map, List.getD_eq_getElem?_getD, List.getElem?_eq_getElem hi]
  rfl
end Go.Proofs.YtdmbmphdiaepdaaDoor

/- What the card's row gives the walks of layer 3: spots that came in; the table of math/bits. -/
namespace Go.Proofs.YtdmbmphdiaepdaaDoor
open Go.ChangeShapes Go.WideShapes Go.ChangeAt Go.WideMaps Go.WideElems Go.RowKit
set_option maxRecDepth 100000

theorem own : ownKnob Tryd.prog.godebug = none := by kernel_rfl
theorem laidOut : laidOutB Tryd.prog = true := by kernel_rfl
theorem gTab : Tryd.prog.globalNamed "math/bits.deBruijn64tab" = some 2 := by kernel_rfl
theorem tTab : (Tryd.prog.globals[2]?).map (·.type) = some 107 := by kernel_rfl
theorem tabData {H : Type} : (Rows.laid_math_bits_deBruijn64tab : DataW H) = .agg (TAB.map fun n => .lit (.int .u8 (n : Nat))) := rfl
theorem of_laid {W : World} (h : laidMetH Tryd.prog [("math/bits.deBruijn64tab", Rows.laid_math_bits_deBruijn64tab)] W) : Tabled W ∧ 0 < W.heap.size := by
  rw [MakeChecks.laidMetH_plain _ _ _ (by kernel_rfl)] at h
  obtain ⟨ps, ⟨g0, t0, cs0, f0, p0, q0, hg0, ht0, hv0, hd0, _, _⟩, _, _⟩ := h
  obtain rfl := Option.some.inj (gTab.symm.trans hg0)
  obtain rfl := Option.some.inj (tTab.symm.trans ht0)
  obtain ⟨xs, m1, rfl, hx1, hlen, hn, hel⟩ := DataW.trod_array Tryd.underlying107 hd0
  have c5 : Tryd.prog.cellsOf 5 = 1 := by kernel_rfl
  simp only [Prod.mk.injEq] at hx1
  have hx := hx1.1
  rw [tabData] at hx
  simp only [DataW.agg.injEq] at hx
  have T : Tabled W := fun i hi => by
    have h0 := hel i hi
    have hi' : i < xs.length := by omega
    rw [List.getElem?_eq_getElem hi', c5, Nat.mul_one] at h0
    obtain ⟨k, e1, e2, _⟩ := DataW.trod_int Tryd.underlying5 h0
    have hk : (k : Int) = ((TAB.getD i 0 : Nat) : Int) := by
      have hz := congrArg (fun l => l[i]?) hx
      have hT : i < TAB.length := hi
      simp only [List.getElem?_map, List.getElem?_eq_getElem hi', List.getElem?_eq_getElem hT, Option.map_some, e2] at hz
      simp at hz
      rw [List.getD_eq_getElem?_getD, List.getElem?_eq_getElem hT]
      simpa using hz.symm
    have hv := World.var?_cell hg0 hv0 i
    rw [hv, ← hk]
    have := congrArg (fun l => l[0]?) e1
    simp at this
    simpa using this
  refine ⟨T, ?_⟩
  have := T 0 (by decide)
  exact Nat.lt_of_le_of_lt (Nat.zero_le _) (World.block_lt_of_cell? W _ this)
/-- a spot that came in. -/
theorem open_spot {H : Type} {enc : TypeId × Value → H} {W : World} {r : Reach} {b0 base : Nat} {sp : Nat → Bool} {held : Bool} {v : Value} {d : DataW H} {ps : List MemPlace}
    (hval : Value.okWide Tryd.prog W r b0 67 v) (hd : DataW.Trod enc Tryd.prog W base sp held 67 v d ps) : ∃ h k : Nat, h < 256 ∧ k < 2 ^ 64 ∧ v = SPOT h k := by
  simp only [Value.okWide, Tryd.underlying67] at hval
  obtain ⟨cs, rfl, hsz, _⟩ := hval
  obtain ⟨fuel, hf⟩ := hd
  obtain ⟨y0, y1, m, _, hl, h0, h1⟩ := trod_struct2 Tryd.underlying67 hf
  obtain ⟨a, e1, _, e3⟩ := DataW.trod_int Tryd.underlying5 h0
  obtain ⟨b, f1, _, f3⟩ := DataW.trod_int Tryd.underlying26 h1
  have c1 : Tryd.prog.cellsOf 5 = 1 := by kernel_rfl
  have c2 : Tryd.prog.cellsOf 26 = 1 := by kernel_rfl
  have c3 : Tryd.prog.cellsOf 67 = 2 := by kernel_rfl
  rw [c3] at hsz
  rw [c1] at e1
  rw [c2] at f1
  have ha := bounds_u8 e3
  have hb := wf_u64 f3
  obtain ⟨x, y, rfl⟩ : ∃ x y, cs = #[x, y] := by
    obtain ⟨l⟩ := cs
    match l, hsz with
    | [x, y], _ => exact ⟨x, y, rfl⟩
  simp [Value.cells] at e1 f1
  subst e1 f1
  refine ⟨a.toNat, b.toNat, by omega, by omega, ?_⟩
  rw [SPOT, Int.toNat_of_nonneg (by omega), Int.toNat_of_nonneg (by omega)]
end Go.Proofs.YtdmbmphdiaepdaaDoor
