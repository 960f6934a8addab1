/- Texts of StoreCuts, one behind the other: StoreRowThin, StoreThinCalls. -/
import Derived.Test.YtkmcmngdainofaaStoreCutsP7
import Derived.Test.YtkmcmngdainofaaStoreCutsP15
/- row.thin. -/
namespace Go.Proofs.Ytkmcmngdainofaa
open Go.RowKit
set_option maxRecDepth 100000

theorem rowthin_same (gr o lv st : Nat) (hlv : lv < 2 ^ 64) (hst : st < 2 ^ 64) (hs : st &&& lv = lv) (w : World) (h1 : w.cell? ⟨gr, o + 1, none⟩ = some (.int .u64 (lv : Int))) : Calls Try.prog 36 #[.pointer (some ⟨gr, o, none⟩), .int .u64 (st : Int)] w fun e w' => e = .returned (.int .i64 0) ∧ w = w' := by
  have e1 : bits .and .u64 (st : Int) (lv : Int) = (lv : Int) := by rw [and_lit rfl rfl hst hlv, hs]
  go_enter Try.func36, Try.ntmps36
  go_wp2
  go_ret
  exact ⟨rfl, rfl⟩
/-- what row.thin leaves where something goes. -/
def THINNED (w : World) (gr o lv s : Nat) (hs : List (Nat → Nat)) (w' : World) : Prop :=
  ∃ g2 c2 w1, Below w.heap.size w w1 ∧ w1.ownsRow w.heap.size 33 32 (.slice (some ⟨g2, 0, none⟩) (POP s) c2) (POP s) (HL (KPT lv hs (PLACES s))) ∧ w' = (w1.setCell ⟨gr, o + 2, none⟩ (.slice (some ⟨g2, 0, none⟩) (POP s) c2)).setCell ⟨gr, o + 1, none⟩ (.int .u64 (s : Int))
theorem HL_more (hs : List (Nat → Nat)) (h : Nat → Nat) : HL hs ++ ULIST .u8 32 h = HL (hs ++ [h]) := by simp [HL]
theorem KPT_nil (lv : Nat) (hs : List (Nat → Nat)) : KPT lv hs [] = [] := rfl
theorem KPT_snoc (lv : Nat) (hs : List (Nat → Nat)) (l : List Nat) (k : Nat) : KPT lv hs (l ++ [k]) = KPT lv hs l ++ [hs.getD (RK lv k) (fun _ => 0)] := by simp [KPT]
theorem PLACES_zero : PLACES 0 = [] := PL_zero 64 0
attribute [local irreducible] PLACES POP KPT HL
set_option maxHeartbeats 1000000 in
theorem rowthin_ok (gr o lv st s gh nh ch : Nat) (hs : List (Nat → Nat)) (hlv : lv < 2 ^ 64) (hst : st < 2 ^ 64) (hse : st &&& lv = s) (hne : s ≠ lv) (hnh : nh = POP lv) (hlen : hs.length = nh) (w : World) (h1 : w.cell? ⟨gr, o + 1, none⟩ = some (.int .u64 (lv : Int))) (h2 : w.cell? ⟨gr, o + 2, none⟩ = some (.slice (some ⟨gh, 0, none⟩) nh ch)) (f1 : w.frozen? ⟨gr, o + 1, none⟩ = false) (f2 : w.frozen? ⟨gr, o + 2, none⟩ = false) (hgh : gh < w.heap.size) (hr : ∀ k x, hs[k]? = some x → w.rangeAt gh (k * 32) (ULIST .u8 32 x)) :
    Calls Try.prog 36 #[.pointer (some ⟨gr, o, none⟩), .int .u64 (st : Int)] w fun e w' => e = .returned (.int .i64 ((POP lv - POP s : Nat) : Int)) ∧ THINNED w gr o lv s hs w' := by
  have hs64 : s < 2 ^ 64 := by rw [← hse]; exact Nat.lt_of_le_of_lt Nat.and_le_right hlv
  have e1 : bits .and .u64 (st : Int) (lv : Int) = (s : Int) := by rw [and_lit rfl rfl hst hlv, hse]
  have e2 : ¬ (s : Int) = (lv : Int) := by omega
  have hsub : ∀ k, s.testBit k = true → lv.testBit k = true := fun k hk => by rw [← hse] at hk; exact stay_bits hk
  have hps := POP_le s
  have hgr : gr < w.heap.size := World.block_lt_of_cell? w _ h1
  obtain ⟨cur, hcur, hmk⟩ := make_hashesf (POP s) (by omega) w
  have co := onescount_ok s hs64 w
  have hown := own_room (w := w) (N := POP s) (by omega) hcur
  have hle := POP_sub (X := s) (Y := lv) (fun k _ h => hsub k h)
  have H : Aside (lv < 2 ^ 64 ∧ s < 2 ^ 64 ∧ (∀ k, s.testBit k = true → lv.testBit k = true) ∧ nh = POP lv ∧ hs.length = nh ∧ gr < w.heap.size ∧ gh < w.heap.size ∧ (∀ k x, hs[k]? = some x → w.rangeAt gh (k * 32) (ULIST .u8 32 x)) ∧ POP s ≤ POP lv ∧ POP lv ≤ 64 ∧ w.cell? ⟨gr, o + 1, none⟩ = some (.int .u64 (lv : Int)) ∧ w.cell? ⟨gr, o + 2, none⟩ = some (.slice (some ⟨gh, 0, none⟩) nh ch) ∧ w.frozen? ⟨gr, o + 1, none⟩ = false ∧ w.frozen? ⟨gr, o + 2, none⟩ = false) := ⟨hlv, hs64, hsub, hnh, hlen, hgr, hgh, hr, hle, POP_le lv, h1, h2, f1, f2⟩
  have hb0 : Below w.heap.size w (w.alloc (.cells cur 33)) := (Below.refl _ _).alloc (Nat.le_refl _) _
  have HO : Aside ((w.alloc (.cells cur 33)).ownsRow w.heap.size 33 32 (.slice (some ⟨w.heap.size, 0, none⟩) 0 (POP s)) 0 (HL []) ∧ Below w.heap.size w (w.alloc (.cells cur 33))) := ⟨hown, hb0⟩
  clear hown hb0 hcur hr hsub hle hps hlen hs64 hgh hgr f1 f2 hse hst hlv hne hnh
  obtain ⟨N, hN⟩ : ∃ N, POP s = N := ⟨_, rfl⟩
  have HN : Aside (POP s = N) := hN
  rw [hN] at hmk co HO
  obtain ⟨W0, hW0⟩ : ∃ W0, w.alloc (.cells cur 33) = W0 := ⟨_, rfl⟩
  rw [hW0] at hmk HO
  clear hN hW0
  go_enter Try.func36, Try.ntmps36
  go_wp2_with fail
  refine co.mono ?_
  rintro e w' ⟨rfl, rfl⟩
  clear co
  obtain ⟨G0, hG0⟩ : ∃ G0, w.heap.size = G0 := ⟨_, rfl⟩
  have HG : Aside (w.heap.size = G0) := hG0
  rw [hG0] at hmk HO
  clear hG0
  go_wp2
  clear hmk h1 h2
  go_loopg [6, 7] N (fun k s6 s7 wx => ∃ (m x g c : Nat) (l : List Nat), m + k = N ∧ s6 = .slice (some ⟨g, 0, none⟩) m c ∧ s7 = .int .u64 (x : Int) ∧ Aside (PLACES s = l ++ PLACES x ∧ l.length = m ∧ x < 2 ^ 64 ∧ (∀ i, x.testBit i = true → s.testBit i = true) ∧ wx.ownsRow G0 33 32 (.slice (some ⟨g, 0, none⟩) m c) m (HL (KPT lv hs l)) ∧ Below G0 w wx))
  case atStart => exact ⟨0, s, G0, N, [], by omega, rfl, rfl, by rw [List.nil_append], rfl, H.out.2.1, fun _ h => h, by rw [KPT_nil]; exact HO.out.1, HO.out.2⟩
  case round =>
    obtain ⟨m, x, g, c, l, hmk, rfl, rfl, Z⟩ := hrel
    by_cases hx : x = 0
    · subst hx
      have Z1 : Aside (PLACES s = l ∧ POP s = m ∧ m = N) := by
        obtain ⟨z1, z2, _⟩ := Z.out
        rw [PLACES_zero, List.append_nil] at z1
        have := PLACES_length s
        rw [z1, z2] at this
        exact ⟨z1, this.symm, by rw [← HN.out, ← this]⟩
      have hb := Z.out.2.2.2.2.2
      have hgr : gr < G0 := by rw [← HG.out]; exact H.out.2.2.2.2.2.1
      have k1 : wr.cell? ⟨gr, o + 1, none⟩ = some (.int .u64 (lv : Int)) := (hb.cell (by exact hgr)).trans H.out.2.2.2.2.2.2.2.2.2.2.1
      have k2 : wr.cell? ⟨gr, o + 2, none⟩ = some (.slice (some ⟨gh, 0, none⟩) nh ch) := (hb.cell (by exact hgr)).trans H.out.2.2.2.2.2.2.2.2.2.2.2.1
      have k3 : wr.frozen? ⟨gr, o + 2, none⟩ = false := by
        have := H.out.2.2.2.2.2.2.2.2.2.2.2.2.2
        unfold World.frozen? at this ⊢
        rw [hb.block gr hgr]
        exact this
      have k4 : (wr.setCell ⟨gr, o + 2, none⟩ (.slice (some ⟨g, 0, none⟩) m c)).frozen? ⟨gr, o + 1, none⟩ = false := by
        rw [World.frozen?_setCell]
        have := H.out.2.2.2.2.2.2.2.2.2.2.2.2.1
        unfold World.frozen? at this ⊢
        rw [hb.block gr hgr]
        exact this
      have k5 : (wr.setCell ⟨gr, o + 2, none⟩ (.slice (some ⟨g, 0, none⟩) m c)).cell? ⟨gr, o + 1, none⟩ = some (.int .u64 (lv : Int)) := by
        rw [set_off (by omega)]
        exact k1
      have hw : wrap64 ((nh : Int) - (m : Int)) = ((POP lv - POP s : Nat) : Int) := by
        obtain ⟨y1, y2, y3⟩ := Z1.out
        obtain ⟨a1, a2, a3, a4, a5, a6, a7, a8, a9, a10, _⟩ := H.out
        rw [a4, ← y2]
        unfold wrap64
        omega
      have E : Aside (THINNED w gr o lv s hs ((wr.setCell ⟨gr, o + 2, none⟩ (.slice (some ⟨g, 0, none⟩) m c)).setCell ⟨gr, o + 1, none⟩ (.int .u64 (s : Int)))) := by
        obtain ⟨y1, y2, y3⟩ := Z1.out
        obtain ⟨_, _, _, _, z5, z6⟩ := Z.out
        refine ⟨g, c, wr, by rw [HG.out]; exact z6, ?_, by rw [y2]⟩
        rw [HG.out, y2, y1]
        exact z5
      clear Z Z1 hb hgr k1 HO H
      go_wp2
      go_ret
      exact ⟨by first | rfl | (rw [hw]; rfl), E.out⟩
    · obtain ⟨t, q, ex⟩ := low_split x hx
      obtain ⟨hna, ht⟩ := neg_and Z.out.2.2.1 ex
      obtain ⟨a1, a2, a3, a4, a5, a6, a7, a8, a9, a10, a11, a12, _⟩ := H.out
      obtain ⟨z1, z2, z3, z4, z5, z6⟩ := Z.out
      have hbt : lv.testBit t = true := a3 t (z4 t (low_bit ex))
      have hrk := RK_lt ht hbt
      obtain ⟨y, hy⟩ : ∃ y, 2 ^ (t + 1) * q = y := ⟨_, rfl⟩
      have hya : x &&& (x - 1) = y := by rw [ex, ← hy]; exact less_and t q
      have hpl : PLACES x = t :: PLACES y := by rw [← hy]; exact PLACES_step ex ht
      have hneg : IntKind.u64.wrap (-(x : Int)) = ((2 ^ 64 - x : Nat) : Int) := by rw [wrapU]; omega
      have hand : bits .and .u64 (x : Int) ((2 ^ 64 - x : Nat) : Int) = ((2 ^ t : Nat) : Int) := by rw [and_lit rfl rfl z3 (by omega), hna]
      have hrx : ((RK lv t : Nat) : Int) < (nh : Int) := by omega
      obtain ⟨z, hz⟩ : ∃ z, hs[RK lv t]? = some z := ⟨_, List.getElem?_eq_getElem (by omega)⟩
      have hzd : hs.getD (RK lv t) (fun _ => 0) = z := by rw [List.getD_eq_getElem?_getD, hz]; rfl
      have hw1 : IntKind.u64.wrap ((x : Int) - 1) = ((x - 1 : Nat) : Int) := wrap_nat (by omega) (by omega)
      have hand2 : bits .and .u64 (x : Int) ((x - 1 : Nat) : Int) = (y : Int) := by rw [and_lit rfl rfl z3 (by omega), hya]
      have hx0 : ¬ (x : Int) = 0 := by omega
      have hN2 : m + 1 ≤ N ∧ m ≤ 100000 := by
        have hl := PLACES_length s
        rw [z1, hpl, HN.out, List.length_append, List.length_cons, z2] at hl
        have := POP_le s
        rw [HN.out] at this
        omega
      obtain ⟨k, rfl⟩ : ∃ k, gk = k + 1 := ⟨gk - 1, by omega⟩
      have HY : Aside (y < 2 ^ 64 ∧ (∀ i, y.testBit i = true → s.testBit i = true) ∧ PLACES s = (l ++ [t]) ++ PLACES y ∧ (l ++ [t]).length = m + 1 ∧ KPT lv hs (l ++ [t]) = KPT lv hs l ++ [z] ∧ m + 1 + k = N) := ⟨by rw [← hya]; exact Nat.lt_of_le_of_lt Nat.and_le_left z3, fun i hi => z4 i (less_bits hya hi), by rw [z1, hpl, List.append_assoc]; rfl, by rw [List.length_append, z2]; rfl, by rw [KPT_snoc, hzd], by omega⟩
      have hm5 := hN2.2
      have Z2 : Aside (wr.ownsRow G0 33 32 (.slice (some ⟨g, 0, none⟩) m c) m (HL (KPT lv hs l)) ∧ Below G0 w wr ∧ lv < 2 ^ 64 ∧ t < 64 ∧ gr < G0 ∧ gh < G0 ∧ wr.cell? ⟨gr, o + 1, none⟩ = some (.int .u64 (lv : Int)) ∧ wr.cell? ⟨gr, o + 2, none⟩ = some (.slice (some ⟨gh, 0, none⟩) nh ch) ∧ wr.rangeAt gh (RK lv t * 32) (ULIST .u8 32 z)) := by
        have hg1 : gr < G0 := by rw [← HG.out]; exact a6
        have hg2 : gh < G0 := by rw [← HG.out]; exact a7
        exact ⟨z5, z6, a1, ht, hg1, hg2, (z6.cell (by exact hg1)).trans a11, (z6.cell (by exact hg1)).trans a12, fun j v hv => (z6.cell (by exact hg2)).trans (a8 _ _ hz j v hv)⟩
      clear a1 a2 a3 a4 a5 a6 a7 a8 a9 a10 a11 a12 z1 z2 z3 z4 z5 z6 hbt hrk hna hz hzd hN2 Z ex hy hya hpl
      have ct : ∀ W, Below wr.heap.size wr W → Calls Try.prog 40 #[.pointer (some ⟨gr, o, none⟩), .int .u64 ((2 ^ t : Nat) : Int)] W fun e w' => e = .returned (.int .i64 ((RK lv t : Nat) : Int)) ∧ Below wr.heap.size wr w' := fun W hV => by
        have c := rank_ok gr o lv t Z2.out.2.2.1 Z2.out.2.2.2.1 W ((hV.cell (by exact World.block_lt_of_cell? _ _ Z2.out.2.2.2.2.2.2.1)).trans Z2.out.2.2.2.2.2.2.1)
        rw [POP_mod (Nat.le_of_lt Z2.out.2.2.2.1)] at c
        exact c.mono (fun e W' ⟨h1, h2⟩ => ⟨h1, by rw [← h2]; exact hV⟩)
      generalize RK lv t = rx at *
      generalize 2 ^ 64 - x = nx at *
      generalize 2 ^ t = bx at *
      go_upto_region 9 with fail
      refine thin9 wr gr o g m c x nx bx rx gh nh ch G0 z (HL (KPT lv hs l)) hneg hand hrx hm5 (fun W => W.cell? ⟨gr, o + 2, none⟩ = some (.slice (some ⟨gh, 0, none⟩) nh ch) ∧ W.rangeAt gh (rx * 32) (ULIST .u8 32 z)) (fun W => Below wr.heap.size wr W) (Below.refl _ _).drew (fun _ h => h) (fun W hV => ?_) (fun V W hV hG => ?_) (fun W hV => ?_) (fun _ _ h => h.alloc h.size _) ct (fun _ _ _ _ _ h => h) ?_
      · have l1 := World.block_lt_of_cell? _ _ Z2.out.2.2.2.2.2.2.2.1
        have l2 : gh < wr.heap.size := Nat.lt_of_lt_of_le Z2.out.2.2.2.2.2.1 (by rw [← HG.out]; exact Z2.out.2.1.size)
        exact ⟨(hV.cell (by exact l1)).trans Z2.out.2.2.2.2.2.2.2.1, fun j v hv => (hV.cell (by exact l2)).trans (Z2.out.2.2.2.2.2.2.2.2 j v hv)⟩
      · have l1 := World.block_lt_of_cell? _ _ Z2.out.2.2.2.2.2.2.2.1
        have l2 : gh < wr.heap.size := Nat.lt_of_lt_of_le Z2.out.2.2.2.2.2.1 (by rw [← HG.out]; exact Z2.out.2.1.size)
        have l3 : G0 ≤ g := (Z2.out.1.lt g rfl).1
        have b1 := hG.block gr (Nat.lt_of_lt_of_le l1 hV.size) (fun e => by cases e; have := Z2.out.2.2.2.2.1; omega)
        have b2 := hG.block gh (Nat.lt_of_lt_of_le l2 hV.size) (fun e => by cases e; have := Z2.out.2.2.2.2.2.1; omega)
        exact ⟨((World.cell?_of_block (w := V) (by exact b1)).trans (hV.cell (by exact l1))).trans Z2.out.2.2.2.2.2.2.2.1, fun j v hv => ((World.cell?_of_block (w := V) (by exact b2)).trans (hV.cell (by exact l2))).trans (Z2.out.2.2.2.2.2.2.2.2 j v hv)⟩
      · exact ⟨own_keep Z2.out.1 hV, Nat.le_trans (by rw [← HG.out]; exact Z2.out.2.1.size) hV.size⟩
      · intro b1 g2 c2 w7 hw7
        have Z3 : Aside (w7.ownsRow G0 33 32 (.slice (some ⟨g2, 0, none⟩) (m + 1) c2) (m + 1) (HL (KPT lv hs (l ++ [t]))) ∧ Below G0 w w7) := by
          obtain ⟨V, hV, h1, h2⟩ := hw7
          rw [HL_more, ← HY.out.2.2.2.2.1] at h1
          have hsz : G0 ≤ wr.heap.size := by rw [← HG.out]; exact Z2.out.2.1.size
          exact ⟨h1, (Z2.out.2.1.trans (hV.mono hsz)).grown h2 (Nat.le_trans hsz hV.size) (fun x e => by cases e; exact (Z2.out.1.lt g rfl).1)⟩
        clear hw7 Z2 ct
        go_wp2
        go_roundg k
        case measure => omega
        case rel => exact ⟨m + 1, y, g2, c2, l ++ [t], HY.out.2.2.2.2.2, rfl, by first | rfl | (rw [hand2]), HY.out.2.2.1, HY.out.2.2.2.1, HY.out.1, HY.out.2.1, Z3.out.1, Z3.out.2⟩
end Go.Proofs.Ytkmcmngdainofaa

/- What chunk.thin calls: rows in which nothing lives, slices.IndexFunc of them; below. -/
namespace Go.Proofs.Ytkmcmngdainofaa
open Go.RowKit
set_option maxRecDepth 100000

/-- a row in which nothing lives. -/
theorem gone_ok (x lv : Nat) (a : Option Addr) (n c : Nat) (w : World) : Calls Try.prog 38 #[.agg #[.int .u64 (x : Int), .int .u64 (lv : Int), .slice a n c]] w fun e w' => e = .returned (.bool (decide (lv = 0))) ∧ Below w.heap.size w w' := by
  obtain ⟨d, hd⟩ : ∃ d, decide (lv = 0) = d := ⟨_, rfl⟩
  have hd2 : ((lv : Int) == 0) = d := by rw [← hd]; by_cases h : lv = 0 <;> simp [h]
  rw [hd]
  clear hd
  go_enter Try.func38, Try.ntmps38
  go_wp2
  go_ret
  exact ⟨rfl, (Below.refl _ _).alloc (Nat.le_refl _) _⟩
/-- the first row in which nothing lives. -/
def INDEXED (rs : List RW) (w : World) (e : Ending) (w' : World) : Prop := Below w.heap.size w w' ∧ ((∃ (i : Nat) (r : RW), e = .returned (.int .i64 (i : Int)) ∧ rs[i]? = some r ∧ r.live = 0 ∧ ∀ (k : Nat) (s : RW), k < i → rs[k]? = some s → s.live ≠ 0) ∨ (e = .returned (.int .i64 (-1)) ∧ ∀ (k : Nat) (s : RW), rs[k]? = some s → s.live ≠ 0))
set_option maxHeartbeats 1000000 in
theorem indexgone_ok (a : Option Addr) (n cap : Nat) (rs : List RW) (hl : rs.length = n) (hn : n < 2 ^ 40) (w : World) (hL : RowsLie w a rs) : Calls Try.prog 48 #[.slice a n cap, .func (.func 38) #[] #[]] w fun e w' => INDEXED rs w e w' := by
  have H : Aside (rs.length = n ∧ n < 2 ^ 40 ∧ RowsLie w a rs) := ⟨hl, hn, hL⟩
  clear hl hn hL
  go_enter Try.func48, Try.ntmps48
  go_wp2
  go_loopg [8] n (fun gg s8 wx => ∃ i : Nat, i + gg = n ∧ s8 = .int .i64 (i : Int) ∧ Aside ((∀ (k : Nat) (s : RW), k < i → rs[k]? = some s → s.live ≠ 0) ∧ Below w.heap.size w wx))
  case atStart => exact ⟨0, by omega, rfl, fun k s h => by omega, Below.refl _ _⟩
  case round =>
    obtain ⟨i, hi, rfl, Z⟩ := hrel
    cases gk with
    | zero =>
      obtain rfl : i = n := by omega
      have hlt : ¬ (i : Int) < (i : Int) := by omega
      go_wp2
      go_ret
      exact ⟨Z.out.2, .inr ⟨rfl, fun k s hs => Z.out.1 k s (by have := (List.getElem?_eq_some_iff.1 hs).1; have := H.out.1; omega) hs⟩⟩
    | succ gg =>
      have hlt : (i : Int) < (n : Int) := by omega
      have hi1 : wrap64 ((i : Int) + 1) = ((i + 1 : Nat) : Int) := by have := H.out.2.1; unfold wrap64; omega
      obtain ⟨h1, h2, h4⟩ := H.out
      obtain ⟨r, er⟩ : ∃ r, rs[i]? = some r := ⟨_, List.getElem?_eq_getElem (by omega)⟩
      obtain ⟨g, o, rfl, hg, hc⟩ := h4 (by omega)
      obtain ⟨y0, y1, y2⟩ := hc i r er
      have i5 := Z.out.2
      have x0 := (i5.cell (p := ⟨g, o + i * 3, none⟩) hg).trans y0
      have x1 := (i5.cell (p := ⟨g, o + i * 3 + 1, none⟩) hg).trans y1
      have x2 := (i5.cell (p := ⟨g, o + i * 3 + 2, none⟩) hg).trans y2
      have cc := gone_ok r.num r.live r.a r.n r.c
      have R : Aside (rs[i]? = some r ∧ (∀ (k : Nat) (s : RW), k < i → rs[k]? = some s → s.live ≠ 0) ∧ Below w.heap.size w wr ∧ i + 1 + gg = n) := ⟨er, Z.out.1, i5, by omega⟩
      clear h1 h2 h4 y0 y1 y2 hc er i5 Z
      by_cases hz : r.live = 0
      · rw [decide_eq_true hz] at cc
        have HZ : Aside (r.live = 0) := hz
        clear hz
        go_wp2_with fail
        refine (cc _).mono ?_
        rintro e w2 ⟨rfl, hb⟩
        have R2 : Aside (Below w.heap.size w w2) := R.out.2.2.1.trans (hb.mono R.out.2.2.1.size)
        clear hb cc
        go_wp2
        go_ret
        exact ⟨R2.out, .inl ⟨i, r, rfl, R.out.1, HZ.out, R.out.2.1⟩⟩
      · rw [decide_eq_false hz] at cc
        have HZ : Aside (r.live ≠ 0) := hz
        clear hz
        go_wp2_with fail
        refine (cc _).mono ?_
        rintro e w2 ⟨rfl, hb⟩
        have R2 : Aside (Below w.heap.size w w2) := R.out.2.2.1.trans (hb.mono R.out.2.2.1.size)
        clear hb cc
        go_wp2
        go_roundg gg
        case measure => omega
        case rel =>
          refine ⟨i + 1, R.out.2.2.2, by first | rfl | (rw [hi1]), fun k s hk hs => ?_, R2.out⟩
          by_cases e : k = i
          · subst e
            rw [R.out.1] at hs
            cases hs
            exact HZ.out
          · exact R.out.2.1 k s (by omega) hs
/-- the bits of a row's places that are below n. -/
def BLW (n row : Nat) : Nat := if row < n / 64 then 2 ^ 64 - 1 else if n / 64 < row then 0 else 2 ^ (n % 64) - 1
theorem BLW_lt (n row : Nat) : BLW n row < 2 ^ 64 := by
  unfold BLW
  split
  · decide
  · split
    · decide
    · have : 2 ^ (n % 64) ≤ 2 ^ 63 := Nat.pow_le_pow_right (by decide) (by omega)
      have : (2 : Nat) ^ 63 < 2 ^ 64 := by decide
      omega
theorem BLW_bit {n row k : Nat} (hk : k < 64) : (BLW n row).testBit k = decide (row * 64 + k < n) := by
  unfold BLW
  split
  · rw [Nat.testBit_two_pow_sub_one]
    simp [hk]
    omega
  · split
    · rw [Nat.zero_testBit]
      simp
      omega
    · rw [Nat.testBit_two_pow_sub_one]
      have : row = n / 64 := by omega
      subst this
      simp
      omega
theorem below_ok (n row : Nat) (hn : n < 2 ^ 64) (w : World) : Calls Try.prog 25 #[.int .u64 (n : Int), .int .u64 (row : Int)] w fun e w' => e = .returned (.int .u64 (BLW n row : Int)) ∧ w = w' := by
  have c1 := rowof_ok n w
  have c2 := compare_ok row (n / 64) w
  have c3 := bitof_ok n hn w
  unfold CMP at c2
  unfold BLW
  by_cases h1 : row < n / 64
  · rw [if_pos h1] at c2
    rw [if_pos h1]
    clear h1 c3
    go_enter Try.func25, Try.ntmps25
    go_wp2_with (first
      | (refine c1.mono ?_; rintro e w' ⟨rfl, rfl⟩)
      | (refine c2.mono ?_; rintro e w' ⟨rfl, rfl⟩)
      | fail)
    go_ret
    exact ⟨rfl, rfl⟩
  · by_cases h2 : n / 64 < row
    · rw [if_neg h1, if_pos h2] at c2
      rw [if_neg h1, if_pos h2]
      clear h1 h2 c3
      go_enter Try.func25, Try.ntmps25
      go_wp2_with (first
        | (refine c1.mono ?_; rintro e w' ⟨rfl, rfl⟩)
        | (refine c2.mono ?_; rintro e w' ⟨rfl, rfl⟩)
        | fail)
      go_ret
      exact ⟨rfl, rfl⟩
    · rw [if_neg h1, if_neg h2] at c2
      rw [if_neg h1, if_neg h2]
      have hp := Nat.two_pow_pos (n % 64)
      have hp2 : 2 ^ (n % 64) < 2 ^ 64 := Nat.pow_lt_pow_right (by decide) (by omega)
      have e1 : IntKind.u64.wrap (((2 ^ (n % 64) : Nat) : Int) - 1) = ((2 ^ (n % 64) - 1 : Nat) : Int) := wrap_nat (by omega) (by omega)
      clear h1 h2 hp hp2
      generalize 2 ^ (n % 64) = bx at *
      go_enter Try.func25, Try.ntmps25
      go_wp2_with (first
        | (refine c1.mono ?_; rintro e w' ⟨rfl, rfl⟩)
        | (refine c2.mono ?_; rintro e w' ⟨rfl, rfl⟩)
        | (refine c3.mono ?_; rintro e w' ⟨rfl, rfl⟩)
        | fail)
      go_ret
      exact ⟨by first | rfl | (rw [e1]; rfl), rfl⟩
end Go.Proofs.Ytkmcmngdainofaa
