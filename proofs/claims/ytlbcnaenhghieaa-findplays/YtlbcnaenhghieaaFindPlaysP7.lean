/- Texts of FindPlays, one behind the other: ManyTake, FindAt, FindForget, FindShrink. -/
import Derived.Maps.RangeWalk
import Derived.Maps.Ext
import Derived.Test.YtlbcnaenhghieaaFindPlaysP5
import Derived.Test.YtlbcnaenhghieaaFindPlaysP6
/- The places that are told are put behind one another: the closure of Places of package many. -/
namespace Go.Proofs.Ytlbcnaenhghieaa
open Go.RowKit
set_option maxRecDepth 100000

/-- a number is appended. -/
theorem app_num {ops : Array Oper} {rest : List Oper} {o : Oper} {a : Act} {Q : Exit → Act → World → Prop} (w : World) (hgd : o.guard = none) (s x : Operand)
    (ho : o.op = .call { callee := .builtin .append, args := #[s, x], argTypes := #[36, 36] })
    (base : Nat) (v : Value) (n : Nat) (xs : List Nat) (hs : a.eval s = v) (hown : w.ownsRow base 31 1 v n (UCELLS xs))
    (b c : Nat) (y : Nat) (hx : a.eval x = .slice (some ⟨b, 0, none⟩) 1 c) (hc : w.cell? ⟨b, 0, none⟩ = some (.int .u64 (y : Int)))
    (hb : n ≤ 2 ^ 30) (hbase : base ≤ w.heap.size)
    (h : ∀ g cap w', w'.ownsRow base 31 1 (.slice (some ⟨g, 0, none⟩) (n + 1) cap) (n + 1) (UCELLS (xs ++ [y])) → w.grownBy w' v.ownBlock → g < w'.heap.size → wpList Try.prog ops Q rest (a.put o.dst (.slice (some ⟨g, 0, none⟩) (n + 1) cap)) w') : wpList Try.prog ops Q (o :: rest) a w := by
  obtain ⟨i, hi, hz, hs1, hby⟩ := info_parts info_u64
  refine wpList_append_lies w hgd s x 36 ho base 31 i (.int .u64 0) 1 8 Try.underlying36 hi hz hs1 hby rfl (by decide) v n (UCELLS xs) hs hown ⟨b, 0, none⟩ 1 c [.int .u64 (y : Int)] hx rfl ?_ (fun u hu => by simp at hu; subst hu; rfl) (by decide) (by simp only [maxLen]; omega) (by omega) hbase w.heap.size rfl ?_
  · intro j u hj
    cases j with
    | zero =>
      simp only [List.getElem?_cons_zero, Option.some.injEq] at hj
      subst hj
      exact hc
    | succ j => simp at hj
  · intro g cap w' h1 h2 _ h4
    rw [← UCELLS_snoc] at h1
    exact h g cap w' h1 h2 h4
/-- the list that lies in bp has been told acc since w0. -/
structure TAKING (w0 w : World) (bp : Nat) (acc : List Nat) : Prop where
  row : ∃ v, Has w bp #[v] 36 ∧ w.ownsRow w0.heap.size 31 1 v acc.length (UCELLS acc)
  keep : ∀ b, b < w0.heap.size → b ≠ bp → w.heap[b]? = w0.heap[b]?
  lt : bp < w0.heap.size
  below : Below bp w0 w
theorem own_sliced {w : World} {B s n : Nat} {t : TypeId} {v : Value} {xs : List Value} (h : w.ownsRow B t s v n xs) : ∃ a c, v = .slice a n c := by
  rcases h.2 with ⟨e, h0⟩ | ⟨g, cap, cur, e, _⟩
  · exact ⟨none, 0, by rw [e, h0]⟩
  · exact ⟨_, _, e⟩
end Go.Proofs.Ytlbcnaenhghieaa

/- The indices at which a hash stands. -/
namespace Go.Proofs.Ytlbcnaenhghieaa
open Go.RowKit Go.Maps
set_option maxRecDepth 100000

set_option maxHeartbeats 4000000 in
theorem find_at {w : World} {B p n : Nat} {v : Value} {m : Option Nat} {f : Nat → List Int} (H : FIND w B p v m f n) (hn : n ≤ 100000) {h : List Int} (hh : FISH h) : Calls Try.prog 9 #[.pointer (some ⟨p, 0, none⟩), .agg (CELLS h).toArray] w fun e w' => ∃ a c, e = .returned (.slice a (ATS f n h).length c) ∧ w'.ownsRow w.heap.size 31 1 (.slice a (ATS f n h).length c) (ATS f n h).length (UCELLS (ATS f n h)) ∧ Below w.heap.size w w' := by
  obtain ⟨a, c, rfl, hac, hg⟩ := H.slice
  obtain ⟨w0, hw0⟩ : ∃ w0, w.alloc (.cells (CELLS h).toArray 30) = w0 := ⟨_, rfl⟩
  obtain ⟨b3, hb3⟩ : ∃ b, w.heap.size = b := ⟨_, rfl⟩
  have hb0 : Below w.heap.size w w0 := by rw [← hw0]; exact (Below.refl _ _).alloc (Nat.le_refl _) _
  have k3 : Has w0 b3 (CELLS h).toArray 30 := by rw [← hw0, ← hb3]; exact Has.new _ _ _
  have h3 : w0.rangeAt b3 0 (CELLS h) := has_rangef k3
  have L : Aside (h.length = 32) := hh.1
  have hs := find_last (H.keep hb0) hh
  have HA : Aside (FIND w B p (.slice a n c) m f n ∧ n ≤ 100000 ∧ Below w.heap.size w w0 ∧ FISH h ∧ b3 = w.heap.size) := ⟨H, hn, hb0, hh, hb3.symm⟩
  clear H hn hb0 k3 hh hg hac
  go_enter Try.func9, Try.ntmps9
  go_wp2_with (first
    | (refine wpList_load_mid rfl 30 (.tmp 3) rfl b3 0 rfl (CELLS h) _ h3 Try.underlying30 rfl (info_cells L.out) ?_)
    | fail)
  refine hs.mono ?_
  rintro e w1 ⟨rfl, hb1⟩
  have HB : Aside (Below w.heap.size w w1) := HA.out.2.2.1.trans (hb1.mono HA.out.2.2.1.size)
  clear hs hb1 hw0 hb3 h3
  go_wp2_with fail
  go_loopg [5, 6] n (fun q s5 s6 wx => ∃ (j k : Nat) (oa : Option Addr) (oc : Nat) (X : List Nat), s5 = .slice oa k oc ∧ s6 = .int .i64 (LSTI f j h) ∧ Aside (j ≤ q ∧ j ≤ n ∧ X.length = k ∧ ATS f n h = ATS f j h ++ X.reverse ∧ Below w.heap.size w wx ∧ wx.ownsRow w.heap.size 31 1 (.slice oa k oc) k (UCELLS X)))
  case atStart => exact ⟨n, 0, none, 0, [], rfl, rfl, Nat.le_refl _, Nat.le_refl _, rfl, by simp, HB.out, ⟨rfl, .inl ⟨rfl, rfl⟩⟩⟩
  case round =>
    obtain ⟨j, k, oa, oc, X, rfl, rfl, A⟩ := hrel
    by_cases hl : LSTI f j h = -1
    · have hl2 : (LSTI f j h != -1) = false := by simp [hl]
      have Z : Aside (ATS f n h = X.reverse ∧ X.length = k ∧ Below w.heap.size w wr ∧ wr.ownsRow w.heap.size 31 1 (.slice oa k oc) k (UCELLS X)) := ⟨by rw [A.out.2.2.2.1, ATS_none hl]; rfl, A.out.2.2.1, A.out.2.2.2.2⟩
      have hk : k ≤ 100000 := by
        have e := Z.out.1
        have := ATS_length f h n
        rw [e, List.length_reverse, Z.out.2.1] at this
        exact Nat.le_trans this HA.out.2.1
      clear A
      rw [hl]
      clear hl hl2
      have hlen : (ATS f n h).length = k := by rw [Z.out.1, List.length_reverse, Z.out.2.1]
      have FIN : Aside (∀ W, W.ownsRow w.heap.size 31 1 (.slice oa k oc) k (UCELLS X.reverse) → Below w.heap.size w W → ∃ a c, Ending.returned (.slice oa k oc) = .returned (.slice a (ATS f n h).length c) ∧ W.ownsRow w.heap.size 31 1 (.slice a (ATS f n h).length c) (ATS f n h).length (UCELLS (ATS f n h)) ∧ Below w.heap.size w W) := fun W h1 h2 => ⟨oa, oc, by rw [hlen], by rw [hlen, Z.out.1]; exact h1, h2⟩
      clear hlen
      rcases Z.out.2.2.2.2 with ⟨e, h0⟩ | ⟨g, cap, cur, e, hg, _⟩
      · cases e
        have hr := rev_none wr
        have ZZ : Aside (wr.ownsRow w.heap.size 31 1 (.slice none 0 0) 0 (UCELLS X.reverse) ∧ Below w.heap.size w wr) := ⟨⟨by rw [UCELLS_length, List.length_reverse, Z.out.2.1], .inl ⟨rfl, rfl⟩⟩, Z.out.2.2.1⟩
        clear Z HA HB
        go_wp2_with fail
        refine hr.mono ?_
        rintro e w2 ⟨rfl, rfl⟩
        clear hr
        go_wp2
        go_ret
        exact FIN.out _ ZZ.out.1 ZZ.out.2
      · cases e
        have hr := rev_nums Z.out.2.1 Z.out.2.2.2 (by omega)
        clear HA HB
        go_wp2_with fail
        refine hr.mono ?_
        rintro e w2 ⟨rfl, hr2⟩
        have ZZ : Aside (w2.ownsRow w.heap.size 31 1 (.slice (some ⟨g, 0, none⟩) k oc) k (UCELLS X.reverse) ∧ Below w.heap.size w w2) := ⟨hr2.own, Z.out.2.2.1.trans hr2.bel⟩
        clear hr hr2 Z
        go_wp2
        go_ret
        exact FIN.out _ ZZ.out.1 ZZ.out.2
    · obtain ⟨i, hi⟩ : ∃ i : Nat, LSTI f j h = (i : Int) := ⟨(LSTI f j h).toNat, by have := LSTI_range f h j; omega⟩
      obtain ⟨l1, l2, l3⟩ := LSTI_some hi
      cases gk with
      | zero => have := A.out.1; omega
      | succ q =>
        have hne : ((i : Int) != -1) = true := by rw [bne_iff_ne]; omega
        have hin : i < n := by have := A.out.2.1; omega
        have hin' : i < n := hin
        have hlt : (i : Int) < (n : Int) := by omega
        obtain ⟨g, rfl, -⟩ : ∃ g, a = some ⟨g, 0, none⟩ ∧ True := by
          rcases HA.out.1.own.2 with ⟨e, e0⟩ | ⟨g, cap, cur, e, _⟩
          · omega
          · cases e
            exact ⟨g, rfl, trivial⟩
        have hiu : IntKind.u64.wrap (i : Int) = (i : Int) := u64f (by have := HA.out.2.1; omega)
        have hn6 : k ≤ 1000000 := by
          have e := A.out.2.2.2.1
          have := ATS_length f h n
          rw [e, List.length_append, List.length_reverse, A.out.2.2.1] at this
          have := HA.out.2.1
          omega
        have FW : Aside (∀ W, Below wr.heap.size wr W → W.cell? ⟨p, 0, none⟩ = some (.slice (some ⟨g, 0, none⟩) n c) ∧ W.cell? ⟨g, i * 33 + 32, none⟩ = some (.int .i64 (LSTI f i h))) := fun W hW => by
          have F := HA.out.1.keep (A.out.2.2.2.2.1.trans (hW.mono A.out.2.2.2.2.1.size))
          have e := F.before hin
          rw [l2] at e
          exact ⟨F.box.cell 0, e⟩
        have R : Aside (i ≤ q ∧ i ≤ n ∧ X.length = k ∧ ATS f n h = ATS f i h ++ (X ++ [i]).reverse ∧ Below w.heap.size w wr ∧ wr.ownsRow w.heap.size 31 1 (.slice oa k oc) k (UCELLS X)) := ⟨by have := A.out.1; omega, by omega, A.out.2.2.1, by rw [A.out.2.2.2.1, l3]; simp, A.out.2.2.2.2⟩
        rw [hi]
        have hF : Aside (f i = h) := l2
        clear A l1 l2 l3 hi hl hin
        go_wp2_with (first
          | (at_builtin; refine app_num _ rfl (.tmp 20) (.tmp 23) rfl w.heap.size (.slice oa k oc) k X rfl (R.out.2.2.2.2.2.alloc _) wr.heap.size 1 i rfl ((Has.new _ _ _).cell 0) (by omega) (by have := R.out.2.2.2.2.1.size; simp; omega) ?_; intro g3 c3 w3 hown hgrow hg3
             have hbw : Below wr.heap.size wr (wr.alloc (.cells #[.int .u64 (i : Int)] 31)) := (Below.refl _ _).alloc (Nat.le_refl _) _
             have Z : Aside (Below w.heap.size w w3 ∧ w3.ownsRow w.heap.size 31 1 (.slice (some ⟨g3, 0, none⟩) (k + 1) c3) (k + 1) (UCELLS (X ++ [i]))) := ⟨(R.out.2.2.2.2.1.alloc R.out.2.2.2.2.1.size _).grown hgrow (by have := R.out.2.2.2.2.1.size; simp; omega) (fun k e => (R.out.2.2.2.2.2.lt k e).1), hown⟩
             have F := HA.out.1.keep Z.out.1
             have x0 : w3.cell? ⟨p, 0, none⟩ = some (.slice (some ⟨g, 0, none⟩) n c) := F.box.cell 0
             have x1 : w3.cell? ⟨g, i * 33 + 32, none⟩ = some (.int .i64 (LSTI f i (f i))) := F.before hin'
             clear hown hgrow hg3 hbw F)
          | fail)
        clear x0 x1
        go_wp2
        go_roundg q
        case measure => exact Nat.lt_succ_self _
        case rel => exact ⟨i, k + 1, some ⟨g3, 0, none⟩, c3, X ++ [i], rfl, by rw [hF.out], R.out.1, R.out.2.1, by rw [List.length_append, R.out.2.2.1]; rfl, R.out.2.2.2.1, Z.out⟩
end Go.Proofs.Ytlbcnaenhghieaa

/- The last leaf is forgotten. -/
namespace Go.Proofs.Ytlbcnaenhghieaa
open Go.RowKit Go.Maps
set_option maxRecDepth 100000

/-- an entry that is zero. -/
def ZENT : Array Value := ZARR ++ #[.int .i64 0]
theorem zeroEnt (w : World) : (zeroValue 55).run Try.prog w = .ok (.agg ZENT) w := by kernel_rfl
theorem ZENT_eq : ZENT = (CELLS ZND ++ [Value.int .i64 0]).toArray := by kernel_rfl
theorem store_ent {w : World} {g : Nat} {x y : List Value} (h : Has w g x.toArray 55) (hx : x.length = 33) (hy : y.length = 33) (h1 : ∀ v ∈ y, v.oneCell' = true) : (storeCells ⟨g, 0, none⟩ y 0).run Try.prog w = .ok () (w.setRow g y.toArray) := by
  have := run_storeCells_from (P := Try.prog) g 55 y 0 _ w h (by simp [hx, hy]) h1
  simpa using this
theorem own_less {w : World} {B s g n c : Nat} {t : TypeId} {xs ys : List Value} (h : w.ownsRow B t s (.slice (some ⟨g, 0, none⟩) (n + 1) c) (n + 1) (xs ++ ys)) (hx : xs.length = n * s) : w.ownsRow B t s (.slice (some ⟨g, 0, none⟩) n c) n xs := by
  refine ⟨hx, .inr ?_⟩
  rcases h.2 with ⟨e, _⟩ | ⟨g', cap, cur, e, hb, hg, h1, h2, h3, h4⟩
  · cases e
  · simp only [Value.slice.injEq, Option.some.injEq, Addr.mk.injEq, and_true, true_and] at e
    obtain ⟨rfl, rfl⟩ := e
    refine ⟨g, c, cur, rfl, hb, hg, by omega, h2, h3, ?_⟩
    have e2 : cur.toList.take (n * s) = (cur.toList.take ((n + 1) * s)).take (n * s) := by
      rw [List.take_take, Nat.min_eq_left (Nat.mul_le_mul_right s (Nat.le_succ n))]
    rw [e2, h4, List.take_append_of_le_length (by rw [hx]; exact Nat.le_refl _), List.take_of_length_le (by rw [hx]; exact Nat.le_refl _)]
/-- behind the map's change: the list has its last leaf still. -/
structure FLESS (w w1 : World) (B p b g c bx : Nat) (f : Nat → List Int) (n : Nat) : Prop where
  box : Has w1 p #[.slice (some ⟨g, 0, none⟩) (n + 1) c, .map (some b)] 52
  own : w1.ownsRow B 55 33 (.slice (some ⟨g, 0, none⟩) (n + 1) c) (n + 1) (ECS f (n + 1))
  ent : Has w1 bx (ENT f n).toArray 55
  map : FMAP w1 b f n
  step : FSTP w w1 p (.slice (some ⟨g, 0, none⟩) (n + 1) c) (some b) (.slice (some ⟨g, 0, none⟩) (n + 1) c) (some b)
theorem FLESS.range {w w1 : World} {B p b g c bx n : Nat} {f : Nat → List Int} (h : FLESS w w1 B p b g c bx f n) (_hh : FISH (f n)) : w1.rangeAt bx 0 (CELLS (f n)) := fun j u hj => by
  rw [Nat.zero_add, h.ent.cell, List.getElem?_toArray, ENT, List.getElem?_append_left (List.getElem?_eq_some_iff.1 hj).1]
  exact hj
theorem FLESS.last {w w1 : World} {B p b g c bx n : Nat} {f : Nat → List Int} {l : Int} (h : FLESS w w1 B p b g c bx f n) (hh : FISH (f n)) (hl : LSTI f n (f n) = l) : w1.cell? ⟨bx, 32, none⟩ = some (.int .i64 l) := by
  rw [h.ent.cell, List.getElem?_toArray, ENT, List.getElem?_append_right (by simp [CELLS, hh.1]), hl]
  simp [CELLS, hh.1]
/-- the last leaf's hash goes. -/
theorem FMAP.del1 {w : World} {b n : Nat} {f : Nat → List Int} (H : FMAP w b f (n + 1)) (hh : FISH (f n)) (h0 : LSTI f n (f n) = -1) : ∃ w', (∀ ty, (Builtin.delete_ #[50, 30] ty #[.map (some b), .agg (CELLS (f n)).toArray]).run Try.prog w = .ok (.tuple #[]) w') ∧ FMAP w' b f n ∧ w.mapTurned w' b := by
  obtain ⟨w', r1, r2, r3⟩ := H.del hh h0 0
  refine ⟨w', fun ty => ?_, r2, r3⟩
  obtain ⟨D, h1, h2⟩ := H
  have e : ∀ ty, (Builtin.delete_ #[50, 30] ty #[.map (some b), .agg (CELLS (f n)).toArray]) = (Builtin.delete_ #[50, 30] 0 #[.map (some b), .agg (CELLS (f n)).toArray]) := fun ty => by unfold Builtin.delete_; rfl
  rw [e]
  exact r1
theorem FLESS.cut {w w1 : World} {B p b g c bx n : Nat} {f : Nat → List Int} (h : FLESS w w1 B p b g c bx f n) (hf : ∀ i, i < n + 1 → FISH (f i)) (hB : B ≤ p) (hb : B ≤ b) : FIND (w1.setCell ⟨p, 0, none⟩ (.slice (some ⟨g, 0, none⟩) n c)) B p (.slice (some ⟨g, 0, none⟩) n c) (some b) f n ∧ FSTP w (w1.setCell ⟨p, 0, none⟩ (.slice (some ⟨g, 0, none⟩) n c)) p (.slice (some ⟨g, 0, none⟩) (n + 1) c) (some b) (.slice (some ⟨g, 0, none⟩) n c) (some b) := by
  have hgp : g ≠ p := fun e => by
    have hx := h.box
    rcases h.own.2 with ⟨e2, _⟩ | ⟨g', cap, cur, e2, _, h', _⟩
    · cases e2
    · cases e2
      unfold Has at hx
      rw [e] at h'
      rw [h'] at hx
      simp at hx
  have hpb := h.map.ne h.box
  have ho : w1.ownsRow B 55 33 (.slice (some ⟨g, 0, none⟩) n c) n (ECS f n) := own_less h.own (ECS_length fun i hi => hf i (by omega))
  refine ⟨⟨h.box.set 0 _, own_heap ho fun k e => Below.heap_setCell _ _ _ k (fun e2 => hgp ?_), .inr ⟨b, rfl, hb, h.map.at (Below.heap_setCell _ _ _ b (fun e => hpb e.symm))⟩, fun i hi => hf i (by omega), hB⟩, ?_⟩
  · simp only [Value.ownBlock, Option.some.injEq] at e
    rw [e, e2]
  · refine ⟨h.step.os, h.step.tape, h.step.output, by have := h.step.size; simpa using this, fun k h1 h2 => (Below.heap_setCell _ _ _ k (fun e => h2 (.inl e))).trans (h.step.block k h1 h2), fun k e => h.step.foot k e⟩
set_option maxHeartbeats 4000000 in
theorem find_forget {w : World} {B p n : Nat} {v : Value} {m : Option Nat} {f : Nat → List Int} (H : FIND w B p v m f (n + 1)) (hn : n < 100000) : Calls Try.prog 26 #[.pointer (some ⟨p, 0, none⟩)] w fun e w' => ∃ v' m', e = .returned (.tuple #[]) ∧ FIND w' B p v' m' f n ∧ FSTP w w' p v m v' m' := by
  obtain ⟨a, c, rfl, hac, hg⟩ := H.slice
  obtain ⟨g, rfl, -⟩ := hg (by omega)
  obtain ⟨b, rfl, hBb, -⟩ : ∃ b, m = some b ∧ B ≤ b ∧ True := by
    rcases H.map with ⟨_, _, e⟩ | ⟨b, e, h1, _⟩
    · omega
    · exact ⟨b, e, h1, trivial⟩
  have hf := H.is
  have hB := H.base
  have hh := hf n (by omega)
  have he := ENT_length hh
  obtain ⟨bx, hbx⟩ : ∃ b, w.heap.size = b := ⟨_, rfl⟩
  obtain ⟨w0, hw0⟩ : ∃ w0, w.alloc (.cells ZENT 55) = w0 := ⟨_, rfl⟩
  have hb0 : Below w.heap.size w w0 := by rw [← hw0]; exact (Below.refl _ _).alloc (Nat.le_refl _) _
  have k0 : Has w0 bx (CELLS ZND ++ [Value.int .i64 0]).toArray 55 := by rw [← hw0, ← hbx, ← ZENT_eq]; exact Has.new _ _ _
  have hst := store_ent k0 (y := ENT f n) rfl he (ENT_one f n)
  obtain ⟨w1, hw1⟩ : ∃ w1, w0.setRow bx (ENT f n).toArray = w1 := ⟨_, rfl⟩
  have hb1 : Below w.heap.size w w1 := by rw [← hw1]; exact setrow_below hb0 (by omega)
  have k1 : Has w1 bx (ENT f n).toArray 55 := by rw [← hw1]; exact k0.row _
  rw [hw1] at hst
  have H1 := H.keep hb1
  have y0 := H.box.cell 0
  have y1 : w.rangeAt g (n * 33) (ENT f n) := H.entry (by omega)
  have hz := zeroEnt
  have hi := info_ent' hh
  have hin : wrap64 (((n + 1 : Nat) : Int) - 1) = (n : Int) := by unfold wrap64; omega
  have hlt : (n : Int) < ((n + 1 : Nat) : Int) := by omega
  obtain ⟨l, hl⟩ : ∃ l, LSTI f n (f n) = l := ⟨_, rfl⟩
  have x32 : w1.cell? ⟨bx, 32, none⟩ = some (.int .i64 l) := by
    rw [k1.cell, List.getElem?_toArray, ENT, List.getElem?_append_right (by simp [CELLS, hh.1]), hl]
    simp [CELLS, hh.1]
  have hm1 : FMAP w1 b f (n + 1) := by
    rcases H1.map with ⟨e, _⟩ | ⟨b', e, _, h2⟩
    · cases e
    · cases e
      exact h2
  have S1 : FSTP w w1 p (.slice (some ⟨g, 0, none⟩) (n + 1) c) (some b) (.slice (some ⟨g, 0, none⟩) (n + 1) c) (some b) := .of_below hb1
  have KEEP : Aside (∀ w2, FMAP w2 b f n → w1.drew.grownBy w2 (some b) → FLESS w w2 B p b g c bx f n) := fun w2 h1 h2 => by
    have hpb := hm1.ne H1.box
    have hxb := hm1.ne k1
    have ho := hm1.own_ne H1.own
    have h6 : ∀ k, k < w1.heap.size → k ≠ b → w2.heap[k]? = w1.heap[k]? := fun k e1 e2 => h2.block k e1 (fun e => e2 (by simpa using e))
    refine ⟨(h6 p H1.box.lt hpb).trans H1.box, own_heap H1.own fun k e => h6 k (H1.own.lt k e).2 (fun e2 => ho (by rw [e, e2])), (h6 bx k1.lt hxb).trans k1, h1, S1.trans ⟨h2.os, h2.tape, h2.output, h2.size, fun k e1 e2 => h6 k e1 (fun e => e2 (.inr (.inr (by rw [e])))), fun _ e => .inl e⟩⟩
  have HA : Aside (FIND w1 B p (.slice (some ⟨g, 0, none⟩) (n + 1) c) (some b) f (n + 1) ∧ FMAP w1 b f (n + 1) ∧ Has w1 bx (ENT f n).toArray 55 ∧ FISH (f n) ∧ LSTI f n (f n) = l ∧ n < 100000 ∧ (∀ i, i < n + 1 → FISH (f i)) ∧ B ≤ p ∧ B ≤ b ∧ n + 1 ≤ c) := ⟨H1, hm1, k1, hh, hl, hn, hf, hB, hBb, hac⟩
  have h32 : (f n).length = 32 := hh.1
  have hnc : (n : Int) ≤ (c : Int) := by omega
  have hr : Aside (w1.rangeAt bx 0 (CELLS (f n))) := fun j u hj => by
    rw [Nat.zero_add, k1.cell, List.getElem?_toArray, ENT, List.getElem?_append_left (List.getElem?_eq_some_iff.1 hj).1]
    exact hj
  generalize hE : (ENT f n) = E at *
  clear H H1 hb0 hb1 k0 k1 hf hB hh hm1 S1 hBb hac hl hE
  by_cases hc : l = -1
  · have he1 : (l == -1) = true := by simp [hc]
    go_enter Try.func26, Try.ntmps26
    go_upto_region 3 with (first
      | (refine wpList_load_mid rfl 55 (.tmp 15) rfl g (n * 33) rfl E _ y1 Try.underlying55 rfl (by simpa using hi) ?_)
      | fail)
    refine fforget3 w1 p bx b (f n) h32 (fun W => W = w1.drew) (fun W => FLESS w W B p b g c bx f n) rfl ?_ ?_ ?_ (fun _ _ _ _ _ h => h) ?_
    · rintro W rfl
      exact ⟨HA.out.1.box.cell 1, hr.out⟩
    · rintro W F
      exact ⟨F.box.cell 1, (F.range (HA.out.2.2.2.1))⟩
    · rintro W rfl
      have hm : FMAP w1.drew b f (n + 1) := HA.out.2.1
      obtain ⟨w2, r1, r2, r3⟩ := hm.del1 HA.out.2.2.2.1 (HA.out.2.2.2.2.1.trans hc)
      exact ⟨w2, r1, KEEP.out w2 r2 r3.grown⟩
    · rintro W2 F
      have R : Aside (FIND (W2.setCell ⟨p, 0, none⟩ (.slice (some ⟨g, 0, none⟩) n c)) B p (.slice (some ⟨g, 0, none⟩) n c) (some b) f n ∧ FSTP w (W2.setCell ⟨p, 0, none⟩ (.slice (some ⟨g, 0, none⟩) n c)) p (.slice (some ⟨g, 0, none⟩) (n + 1) c) (some b) (.slice (some ⟨g, 0, none⟩) n c) (some b)) := F.cut HA.out.2.2.2.2.2.2.1 HA.out.2.2.2.2.2.2.2.1 HA.out.2.2.2.2.2.2.2.2.1
      have x0 := F.box.cell 0
      have x1 := F.box.frozen 0
      clear F HA KEEP hr hst hw1 y0 y1
      go_wp2
      exact bodyPost_end (v := .tuple #[]) (by simp [results, Try.f26]) rfl ⟨_, _, rfl, R.out.1, R.out.2⟩
  · have he1 : (l == -1) = false := by simp [hc]
    go_enter Try.func26, Try.ntmps26
    go_upto_region 4 with (first
      | (refine wpList_load_mid rfl 55 (.tmp 15) rfl g (n * 33) rfl E _ y1 Try.underlying55 rfl (by simpa using hi) ?_)
      | fail)
    refine fforget4 w1 p bx b (f n) h32 l (fun W => W = w1.drew) (fun W => FLESS w W B p b g c bx f n) rfl ?_ ?_ ?_ (fun _ _ _ _ _ h => h) ?_
    · rintro W rfl
      exact ⟨HA.out.1.box.cell 1, hr.out, x32⟩
    · rintro W F
      exact ⟨F.box.cell 1, (F.range (HA.out.2.2.2.1)), (F.last HA.out.2.2.2.1 HA.out.2.2.2.2.1)⟩
    · rintro W rfl
      have hm : FMAP w1.drew b f (n + 1) := HA.out.2.1
      obtain ⟨w2, r1, r2, r3⟩ := hm.back (by have := HA.out.2.2.2.2.2.1; omega) HA.out.2.2.2.1 (fun e => hc (HA.out.2.2.2.2.1.symm.trans e))
      rw [HA.out.2.2.2.2.1] at r1
      exact ⟨w2, r1, KEEP.out w2 r2 r3⟩
    · rintro W2 F
      have R : Aside (FIND (W2.setCell ⟨p, 0, none⟩ (.slice (some ⟨g, 0, none⟩) n c)) B p (.slice (some ⟨g, 0, none⟩) n c) (some b) f n ∧ FSTP w (W2.setCell ⟨p, 0, none⟩ (.slice (some ⟨g, 0, none⟩) n c)) p (.slice (some ⟨g, 0, none⟩) (n + 1) c) (some b) (.slice (some ⟨g, 0, none⟩) n c) (some b)) := F.cut HA.out.2.2.2.2.2.2.1 HA.out.2.2.2.2.2.2.2.1 HA.out.2.2.2.2.2.2.2.2.1
      have x0 := F.box.cell 0
      have x1 := F.box.frozen 0
      clear F HA KEEP hr hst hw1 y0 y1
      go_wp2
      exact bodyPost_end (v := .tuple #[]) (by simp [results, Try.f26]) rfl ⟨_, _, rfl, R.out.1, R.out.2⟩
end Go.Proofs.Ytlbcnaenhghieaa

/- The room of what was forgotten is given back. -/
namespace Go.Proofs.Ytlbcnaenhghieaa
open Go.RowKit Go.Maps
set_option maxRecDepth 100000

theorem eql_nilent (a : Option Addr) (n c : Nat) (w : World) : (binOp .eql 49 (.slice a n c) (.slice none 0 0)).run Try.prog w = .ok (.bool a.isNone) w := by
  simp [binOp, run_equal_slice_nil w 49 55 a n c Try.underlying49]
theorem own_emptyent (w : World) : (w.alloc (.cells #[] 55)).ownsRow w.heap.size 55 33 (.slice (some ⟨w.heap.size, 0, none⟩) 0 0) 0 [] :=
  World.ownsRow_lit w #[] 0 (Nat.le_refl _) (by simp [maxLen]) rfl
theorem app_entries {ops : Array Oper} {rest : List Oper} {o : Oper} {a : Act} {Q : Exit → Act → World → Prop} (w : World) (hgd : o.guard = none) (s x : Operand)
    (ho : o.op = .call { callee := .builtin .append, args := #[s, x], argTypes := #[49, 49] })
    (base : Nat) (v : Value) (hs : a.eval s = v) (hown : w.ownsRow base 55 33 v 0 [])
    (g m c : Nat) (ys : List Value) (hl : ys.length = m * 33) (h1 : ∀ u ∈ ys, u.oneCell' = true) (hx : a.eval x = .slice (some ⟨g, 0, none⟩) m c) (hc : w.rangeAt g 0 ys)
    (hb : m ≤ 1000000) (hbase : base ≤ w.heap.size)
    (h : ∀ v' w', w'.ownsRow base 55 33 v' m ys → w.grownBy w' v.ownBlock → wpList Try.prog ops Q rest (a.put o.dst v') w') : wpList Try.prog ops Q (o :: rest) a w := by
  obtain ⟨i, hi, hz, hs1, hby⟩ := info_parts info_entry
  refine wpList_append_own w hgd s x 49 ho base 55 i _ 33 40 Try.underlying49 hi hz hs1 hby rfl (by decide) v 0 [] hs hown ⟨g, 0, none⟩ m c ys hx hl (fun j u hj => by rw [addr_add]; exact hc j u hj) h1 (by simp only [maxLen]; omega) (by omega) hbase ?_
  intro v' w' r1 r2 _
  rw [Nat.zero_add, List.nil_append] at r1
  exact h v' w' r1 r2
set_option maxHeartbeats 1000000 in
/-- the list anew. -/
theorem clone_ent {w : World} {B n : Nat} {v : Value} {xs : List Value} (h : w.ownsRow B 55 33 v n xs) (h1 : ∀ u ∈ xs, u.oneCell' = true) (hn : n ≤ 1000000) : Calls Try.prog 28 #[v] w fun e w' => ∃ u, e = .returned u ∧ w'.ownsRow w.heap.size 55 33 u n xs ∧ Below w.heap.size w w' := by
  have HA : Aside (w.ownsRow B 55 33 v n xs ∧ (∀ u ∈ xs, u.oneCell' = true) ∧ n ≤ 1000000) := ⟨h, h1, hn⟩
  rcases h.2 with ⟨rfl, rfl⟩ | ⟨g, c, cur, rfl, _⟩
  · have hnil := eql_nilent none 0 0
    have hx : xs = [] := List.eq_nil_of_length_eq_zero (by have := HA.out.1.1; omega)
    subst hx
    clear h h1 hn HA
    go_enter Try.func28, Try.ntmps28
    go_wp2
    go_ret
    exact ⟨_, rfl, World.ownsRow_nil _ _ _ _, Below.refl _ _⟩
  · have hnil := eql_nilent (some ⟨g, 0, none⟩) n c
    have hr : Aside ((w.alloc (.cells #[] 55)).rangeAt g 0 xs) := fun j u hj => by
      have hj2 := (List.getElem?_eq_some_iff.1 hj).1
      have e := (HA.out.1.alloc (.cells #[] 55)).cellAt j (by have := HA.out.1.1; omega)
      rw [Nat.zero_add, e]
      exact hj
    clear h h1 hn
    go_enter Try.func28, Try.ntmps28
    go_wp2_with (at_builtin; refine app_entries _ rfl (.tmp 5) (.tmp 6) rfl w.heap.size (.slice (some ⟨w.heap.size, 0, none⟩) 0 0) rfl (own_emptyent w) g n c xs HA.out.1.1 HA.out.2.1 rfl hr.out HA.out.2.2 (by simp) ?_; intro u w1 hown1 hgrow1; have R1 : Aside (w1.ownsRow w.heap.size 55 33 u n xs ∧ Below w.heap.size w w1) := ⟨hown1, ((Below.refl _ w).alloc (Nat.le_refl _) _).grown hgrow1 (by simp) (fun k e => by cases e; exact Nat.le_refl _)⟩; clear hown1 hgrow1)
    go_ret
    exact ⟨_, rfl, R1.out.1, R1.out.2⟩
theorem run_makeMapN (k : Nat) (w : World) : (Instr.makeMap 50 (some (.int .i64 (k : Int)))).run Try.prog w = .ok (.map (some w.heap.size)) (w.alloc (.map #[] 0)) := by
  have h : (underlying 50).run Try.prog w = .ok (.map 30 3) w := run_underlying Try.underlying50 w
  simp only [Instr.makeMap, Sem.run_bind, h, Result.andThen]
  rfl
theorem ECS_one {f : Nat → List Int} : ∀ (n : Nat), ∀ u ∈ ECS f n, u.oneCell' = true
  | 0, u, h => by simp [ECS] at h
  | n + 1, u, h => by
    rcases List.mem_append.1 h with h | h
    · exact ECS_one n u h
    · exact ENT_one f n u h
set_option maxHeartbeats 4000000 in
theorem find_shrink {w : World} {B p n b : Nat} {v : Value} {f : Nat → List Int} (H : FIND w B p v (some b) f n) (hn : n ≤ 100000) : Calls Try.prog 27 #[.pointer (some ⟨p, 0, none⟩)] w fun e w' => ∃ v' m', e = .returned (.tuple #[]) ∧ FIND w' B p v' m' f n ∧ FSTP w w' p v (some b) v' m' := by
  have x0 := H.box.cell 0
  have hcl := clone_ent H.own (ECS_one n) (by omega)
  have HA : Aside (FIND w B p v (some b) f n ∧ n ≤ 100000) := ⟨H, hn⟩
  clear H hn
  go_enter Try.func27, Try.ntmps27
  go_wp2_with fail
  refine hcl.mono ?_
  rintro e w1 ⟨u, rfl, ho1, hb1⟩
  have F1 := HA.out.1.keep hb1
  have x1 := F1.box.cell 0
  have x2 := F1.box.frozen 0
  obtain ⟨ua, uc, rfl⟩ := own_sliced ho1
  obtain ⟨W1, hW1⟩ : ∃ W1, w1.setCell ⟨p, 0, none⟩ (.slice ua n uc) = W1 := ⟨_, rfl⟩
  have hup : (Value.slice ua n uc).ownBlock ≠ some p := fun e => by have := (ho1.lt p e).1; have := HA.out.1.box.lt; omega
  have G1 : Aside (FIND W1 B p (.slice ua n uc) (some b) f n ∧ FSTP w W1 p v (some b) (.slice ua n uc) (some b)) := by
    have hB := HA.out.1.base
    have hl := HA.out.1.box.lt
    have hap := HA.out.1.apart
    have hoff : ∀ k, k ≠ p → W1.heap[k]? = w1.heap[k]? := fun k hk => by rw [← hW1]; exact Below.heap_setCell _ _ _ k hk
    refine ⟨⟨by rw [← hW1]; exact F1.box.set 0 _, own_heap (own_mono ho1 (by omega)) fun k e => hoff k (fun e2 => hup (by rw [e, e2])), ?_, F1.is, hB⟩, ?_⟩
    · rcases F1.map with ⟨e, _⟩ | ⟨b', e, h1, h2⟩
      · cases e
      · cases e
        exact .inr ⟨b, rfl, h1, h2.at (hoff b (fun e => hap.2.1 (by rw [e])))⟩
    · rw [← hW1]
      refine ⟨hb1.os, hb1.tape, hb1.output, by simpa using hb1.size, fun k h1 h2 => (Below.heap_setCell _ _ _ k (fun e => h2 (.inl e))).trans (hb1.block k h1), ?_⟩
      rintro k (e | e | e)
      · exact .inl (.inl e)
      · exact .inr (ho1.lt k e).1
      · exact .inl (.inr (.inr e))
  have HN : Aside (n ≤ 100000) := HA.out.2
  clear hcl x0 ho1 hb1 F1 hup HA
  go_upto_region 1 with fail
  clear x1 x2 hW1
  have y1 := G1.out.1.box.cell 1
  obtain ⟨D, hD, hF⟩ : FMAP W1 b f n := by
    rcases G1.out.1.map with ⟨e, _⟩ | ⟨b', e, _, h2⟩
    · cases e
    · cases e
      exact h2
  have hct := (FMAP.count ⟨D, hD, hF⟩ : ∀ ty, _)
  have hul : UNL f n ≤ 1000000 := by have := UNL_le f n; have := HN.out; omega
  have hmk := run_makeMapN (UNL f n) W1
  obtain ⟨S1, hS1⟩ : ∃ S, W1.heap.size = S := ⟨_, rfl⟩
  have hpl := G1.out.1.box.lt
  have hbl := hD.lt
  have hbA : Below W1.heap.size W1 (W1.alloc (.map #[] 0)) := (Below.refl _ _).alloc (Nat.le_refl _) _
  have z1 : (W1.alloc (.map #[] 0)).cell? ⟨p, 1, none⟩ = some (.map (some b)) := (G1.out.1.box.keep hbA).cell 1
  have e1 : (W1.alloc (.map #[] 0)).heap.size = S1 + 1 := by simp [hS1]
  have HD : Aside (W1.ownsMap Try.prog 30 (plainElem Try.prog 3) b (UNL f n) D ∧ FOK f n D ∧ b < S1 ∧ p < S1 ∧ W1.heap.size = S1) := ⟨hD, hF, by omega, by omega, hS1⟩
  rw [hS1] at hmk hpl hbl hbA
  have hkeep : Aside (∀ W, Below S1 W1 W → FIND W B p (.slice ua n uc) (some b) f n) := fun W h => G1.out.1.keep (by rw [hS1]; exact h)
  clear hF hpl hbl hul hS1
  have hz := zeroHashF
  go_upto_region 2 with fail
  clear hct hmk y1
  go_wp2_with (first
    | (at_range; refine wpList_range_own _ rfl _ 50 rfl 30 3 lawF Try.underlying50 _ b (UNL f n) _ rfl (hD.alloc _) ?_; intro w0 hrg0 hg0 hs0)
    | fail)
  rw [e1] at hrg0 hs0 ⊢
  have ST : Aside (w0.ranges Try.prog 30 (plainElem Try.prog 3) b (S1 + 1) (UNL f n) D (Maps.has D) (Maps.size D) ∧ w0.ownsMap Try.prog 30 (plainElem Try.prog 3) S1 (Maps.size D - Maps.size D) (.map [] : DataW Unit) ∧ Below S1 W1 w0) := ⟨hrg0, by
      have := ((World.ownsMap_made W1 Try.prog 30 (plainElem Try.prog 3)).kept hg0 (by simp) : w0.ownsMap Try.prog 30 (plainElem Try.prog 3) W1.heap.size 0 (.map [] : DataW Unit))
      rw [HD.out.2.2.2.2] at this
      rw [Nat.sub_self]
      exact this, hbA.grown hg0 (by simp [HD.out.2.2.2.2]) (fun j hj => by cases hj)⟩
  clear hrg0 hg0 hs0 hbA z1 e1 hD
  go_frame
  go_loopw [3, 4] (fun _ _ wr => ∃ (left : Lit → Bool) (cnt : Nat) (Dout : DataW Unit), wr.ranges Try.prog 30 (plainElem Try.prog 3) b (S1 + 1) (UNL f n) D left cnt ∧ cnt ≤ Maps.size D ∧
      wr.ownsMap Try.prog 30 (plainElem Try.prog 3) S1 (Maps.size D - cnt) Dout ∧ Agree Dout D left ∧ Below S1 W1 wr)
    (fun _ _ wr => wr.rangeLeft b (S1 + 1))
  case atStart => exact ⟨_, _, _, ST.out.1, Nat.le_refl _, ST.out.2.1, agree_start D, ST.out.2.2⟩
  case round =>
    obtain ⟨left, cnt, Dout, hrg, hcs, hout, hA, hnx⟩ := hrel
    go_wp2_with (first
      | (at_next; refine wpList_next_ranges _ rfl _ rfl 30 lawF (plainElem Try.prog 3) (fun l : List Int => Value.agg (CELLS l).toArray) (fun z : Int => Value.int .i64 z) (fun key kl hk => by obtain ⟨l, _, e⟩ := hkf_inv hk; exact ⟨l, e⟩) (fun v y hv => by obtain ⟨c, e, _⟩ := plainElem_int_inv Try.underlying3 hv; exact ⟨c, e⟩) b (S1 + 1) (UNL f n) _ _ _ rfl hrg ?_ ?_)
      | fail)
    · intro hc0 hl0
      subst hc0
      have eD : Dout = D := agree_end hA hl0 (hout.canon lawF) (HD.out.1.canon lawF)
      subst eD
      have F2 := hkeep.out wr hnx
      have x1 := F2.box.cell 1
      have x2 := F2.box.frozen 1
      have hsz := HD.out.2.1.size
      have hmap : FMAP wr S1 f n := ⟨Dout, by rw [Nat.sub_zero, hsz] at hout; exact hout, HD.out.2.1⟩
      have R : Aside (FIND (wr.setCell ⟨p, 1, none⟩ (.map (some S1))) B p (.slice ua n uc) (some S1) f n ∧ FSTP w (wr.setCell ⟨p, 1, none⟩ (.map (some S1))) p v (some b) (.slice ua n uc) (some S1)) := by
        have hpl := HD.out.2.2.2.1
        have hB := F2.base
        have s1 := G1.out.2.trans (FSTP.of_below (by rw [HD.out.2.2.2.2]; exact hnx) : FSTP W1 wr p (.slice ua n uc) (some b) (.slice ua n uc) (some b))
        have hws := G1.out.2.size
        rw [HD.out.2.2.2.2] at hws
        refine ⟨⟨F2.box.set 1 _, own_heap F2.own fun k e => Below.heap_setCell _ _ _ k (fun e2 => F2.apart.1 (by rw [e, e2])), .inr ⟨S1, rfl, by omega, hmap.at (Below.heap_setCell _ _ _ _ (by show S1 ≠ p; omega))⟩, F2.is, F2.base⟩, ?_⟩
        refine ⟨s1.os, s1.tape, s1.output, by have := s1.size; simpa using this, fun k h1 h2 => (Below.heap_setCell _ _ _ k (fun e => h2 (.inl e))).trans (s1.block k h1 h2), ?_⟩
        rintro k (e | e | e)
        · exact .inl (.inl e)
        · exact s1.foot k (.inr (.inl e))
        · cases e
          exact .inr hws
      clear F2 hmap hout hrg hA hcs hnx ST G1 HD hkeep hsz hl0
      go_wp2
      exact bodyPost_end (v := .tuple #[]) (by simp [results, Try.f27]) rfl ⟨_, _, rfl, R.out.1, R.out.2⟩
    · intro x c kl y1 y2 w2 cnt2 hkx hlx hvc hat hrg1 hlt hg1 hs1 hen
      obtain ⟨l, hl, ex⟩ := hkf_inv hkx
      have ex2 : x = l := CELLS_one_to (by simpa using ex)
      subst ex2
      have ekl : kl = HKF x := by
        have := hkf_ok hl
        rw [hkx] at this
        exact Option.some.inj this
      subst ekl
      obtain ⟨c', ec, ey, hwc⟩ := plainElem_int_inv Try.underlying3 hvc
      cases ec
      cases ey
      have hk3 : Has (w2.alloc (.cells ZARR 30)) w2.heap.size (CELLS ZND).toArray 30 := Has.new _ _ _
      have hst := store_cellsF hk3 (y := x) rfl hl.1
      have hzs : (CELLS x).length = 32 := by simp [CELLS, hl.1]
      obtain ⟨w3, hw3⟩ : ∃ w3, w2.alloc (.cells (CELLS x).toArray 30) = w3 := ⟨_, rfl⟩
      rw [World.setRow_alloc_new, hw3] at hst
      obtain ⟨k3, hk3'⟩ : ∃ k, w2.heap.size = k := ⟨_, rfl⟩
      have hr3 : Has w3 k3 (CELLS x).toArray 30 := by rw [← hw3, ← hk3']; exact Has.new _ _ _
      have hg3 : w2.grownBy w3 none := by rw [← hw3]; exact World.grownBy_alloc _ _ _
      rw [hk3'] at hst
      have hout3 : w3.ownsMap Try.prog 30 (plainElem Try.prog 3) S1 (Maps.size D - cnt) Dout := (hout.kept hg1 (by simp)).kept hg3 (by simp)
      have hrg3 := hrg1.kept hg3 (by simp) (by simp)
      have hnx3 : Below S1 W1 w3 := (hnx.grown hg1 (by have := hnx.size; have := HD.out.2.2.2.2; omega) (fun j hj => by cases hj; omega)).grown hg3 (by have := hnx.size; have := HD.out.2.2.2.2; omega) (fun j hj => by cases hj)
      have ROW : Aside (w3.heap[k3]? = some (.cells (CELLS x).toArray 30 (0, 0)) ∧ x.length = 32) := ⟨hr3, hl.1⟩
      have LF : Aside (wr.rangeLeft b (S1 + 1) = cnt) := hrg.left_eq
      have KK : Aside (keyOf Try.prog 30 (.agg (CELLS x).toArray) = some (HKF x) ∧ WideAt.IsKeyLit (HKF x)) := ⟨hkx, lawF.key hkx⟩
      have BS : Aside (S1 ≤ w3.heap.size ∧ cnt2 < cnt ∧ cnt ≤ Maps.size D ∧ Maps.size D ≤ 1000000) := ⟨by have := hnx3.size; have := HD.out.2.2.2.2; omega, hlt, hcs, by rw [HD.out.2.1.size]; have := UNL_le f n; have := HN.out; omega⟩
      have AG : Aside (Agree Dout D left ∧ (∀ zd, D.atKey (HKF x) zd = .lit (.int .i64 c))) := ⟨hA, hat⟩
      clear hk3 hw3 hg3 hrg1 hnx hg1 hr3 hout hrg hA hat hkx hlx hl ex hvc hs1 hlt hcs
      generalize ZARR = Z at hz hst
      go_wp2_with (first
        | (refine wpList_load_row rfl 30 (.tmp 3) rfl k3 rfl 30 (CELLS x).toArray (0, 0) _ ROW.out.1 Try.underlying30 rfl (info_arr ROW.out.2) ?_)
        | (at_mapUpdate; refine wpList_mapUpdate_own _ rfl _ _ _ 50 rfl 30 3 lawF Try.underlying50 _ S1 _ _ rfl hout3 (by have := BS.out; unfold maxLen; omega) _ _ _ rfl rfl KK.out.1 _ [] (plainElem_int Try.underlying3 hwc) ?_; intro w4 hout4 hg4; go_frame)
        | fail)
      have hrg4 := hrg3.kept hg4 (fun e => by have := Option.some.inj e; have := HD.out.2.2.1; omega) (fun e => by have := Option.some.inj e; omega)
      go_roundw
      case rel =>
        exact ⟨_, cnt2, _, hrg4, by have := BS.out; omega, hout4.mono (by have := BS.out; omega), agree_step AG.out.1 hout3.isMap KK.out.2 AG.out.2, hnx3.grown hg4 (by have := BS.out; omega) (fun j hj => by cases hj; exact Nat.le_refl _)⟩
      case measure => rw [hrg4.left_eq, LF.out]; exact BS.out.2.1
end Go.Proofs.Ytlbcnaenhghieaa
