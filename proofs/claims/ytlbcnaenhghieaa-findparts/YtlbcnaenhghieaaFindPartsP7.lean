/- Texts of FindParts, one behind the other: ManyTake, FindAt, FindShrink, FindCut, FindTwice. -/
import Derived.Maps.RangeWalk
import Derived.Maps.Ext
import Derived.BigQuiet
import Derived.Deep.QuietTactic
import Derived.Test.YtlbcnaenhghieaaFindPartsP5
import Derived.Test.YtlbcnaenhghieaaFindPartsP6
/- The places that are told are put behind one another: the closure of Places of package many. -/
namespace Go.Proofs.Ytlbcnaenhghieaa
open Go.RowKit
set_option maxRecDepth 100000

/-- a number is appended. -/
theorem app_num {ops : Array Oper} {rest : List Oper} {o : Oper} {a : Act} {Q : Exit → Act → World → Prop} (w : World) (hgd : o.guard = none) (s x : Operand)
    (ho : o.op = .call { callee := .builtin .append, args := #[s, x], argTypes := #[36, 36] })
    (base : Nat) (v : Value) (n : Nat) (xs : List Nat) (hs : a.eval s = v) (hown : w.ownsRow base 31 1 v n (UCELLS xs))
    (b c : Nat) (y : Nat) (hx : a.eval x = .slice (some ⟨b, 0, none⟩) 1 c) (hc : w.cell? ⟨b, 0, none⟩ = some (.int .u64 (y : Int)))
    (hb : n ≤ 2 ^ 30) (hbase : base ≤ w.heap.size)
    (h : ∀ g cap w', w'.ownsRow base 31 1 (.slice (some ⟨g, 0, none⟩) (n + 1) cap) (n + 1) (UCELLS (xs ++ [y])) → w.grownBy w' v.ownBlock → g < w'.heap.size → wpList Try.prog ops Q rest (a.put o.dst (.slice (some ⟨g, 0, none⟩) (n + 1) cap)) w') : wpList Try.prog ops Q (o :: rest) a w := by
  obtain ⟨i, hi, hz, hs1, hby⟩ := info_parts info_u64
  refine wpList_append_lies w hgd s x 36 ho base 31 i (.int .u64 0) 1 8 Try.underlying36 hi hz hs1 hby rfl (by decide) v n (UCELLS xs) hs hown ⟨b, 0, none⟩ 1 c [.int .u64 (y : Int)] hx rfl ?_ (fun u hu => by simp at hu; subst hu; rfl) (by decide) (by simp only [maxLen]; omega) (by omega) hbase w.heap.size rfl ?_
  · intro j u hj
    cases j with
    | zero =>
      simp only [List.getElem?_cons_zero, Option.some.injEq] at hj
      subst hj
      exact hc
    | succ j => simp at hj
  · intro g cap w' h1 h2 _ h4
    rw [← UCELLS_snoc] at h1
    exact h g cap w' h1 h2 h4
/-- the list that lies in bp has been told acc since w0. -/
structure TAKING (w0 w : World) (bp : Nat) (acc : List Nat) : Prop where
  row : ∃ v, Has w bp #[v] 36 ∧ w.ownsRow w0.heap.size 31 1 v acc.length (UCELLS acc)
  keep : ∀ b, b < w0.heap.size → b ≠ bp → w.heap[b]? = w0.heap[b]?
  lt : bp < w0.heap.size
  below : Below bp w0 w
theorem own_sliced {w : World} {B s n : Nat} {t : TypeId} {v : Value} {xs : List Value} (h : w.ownsRow B t s v n xs) : ∃ a c, v = .slice a n c := by
  rcases h.2 with ⟨e, h0⟩ | ⟨g, cap, cur, e, _⟩
  · exact ⟨none, 0, by rw [e, h0]⟩
  · exact ⟨_, _, e⟩
end Go.Proofs.Ytlbcnaenhghieaa

/- The indices at which a hash stands. -/
namespace Go.Proofs.Ytlbcnaenhghieaa
open Go.RowKit Go.Maps
set_option maxRecDepth 100000

set_option maxHeartbeats 4000000 in
theorem find_at {w : World} {B p n : Nat} {v : Value} {m : Option Nat} {f : Nat → List Int} (H : FIND w B p v m f n) (hn : n ≤ 100000) {h : List Int} (hh : FISH h) : Calls Try.prog 9 #[.pointer (some ⟨p, 0, none⟩), .agg (CELLS h).toArray] w fun e w' => ∃ a c, e = .returned (.slice a (ATS f n h).length c) ∧ w'.ownsRow w.heap.size 31 1 (.slice a (ATS f n h).length c) (ATS f n h).length (UCELLS (ATS f n h)) ∧ Below w.heap.size w w' := by
  obtain ⟨a, c, rfl, hac, hg⟩ := H.slice
  obtain ⟨w0, hw0⟩ : ∃ w0, w.alloc (.cells (CELLS h).toArray 30) = w0 := ⟨_, rfl⟩
  obtain ⟨b3, hb3⟩ : ∃ b, w.heap.size = b := ⟨_, rfl⟩
  have hb0 : Below w.heap.size w w0 := by rw [← hw0]; exact (Below.refl _ _).alloc (Nat.le_refl _) _
  have k3 : Has w0 b3 (CELLS h).toArray 30 := by rw [← hw0, ← hb3]; exact Has.new _ _ _
  have h3 : w0.rangeAt b3 0 (CELLS h) := has_rangef k3
  have L : Aside (h.length = 32) := hh.1
  have hs := find_last (H.keep hb0) hh
  have HA : Aside (FIND w B p (.slice a n c) m f n ∧ n ≤ 100000 ∧ Below w.heap.size w w0 ∧ FISH h ∧ b3 = w.heap.size) := ⟨H, hn, hb0, hh, hb3.symm⟩
  clear H hn hb0 k3 hh hg hac
  go_enter Try.func9, Try.ntmps9
  go_wp2_with (first
    | (refine wpList_load_mid rfl 30 (.tmp 3) rfl b3 0 rfl (CELLS h) _ h3 Try.underlying30 rfl (info_cells L.out) ?_)
    | fail)
  refine hs.mono ?_
  rintro e w1 ⟨rfl, hb1⟩
  have HB : Aside (Below w.heap.size w w1) := HA.out.2.2.1.trans (hb1.mono HA.out.2.2.1.size)
  clear hs hb1 hw0 hb3 h3
  go_wp2_with fail
  go_loopg [5, 6] n (fun q s5 s6 wx => ∃ (j k : Nat) (oa : Option Addr) (oc : Nat) (X : List Nat), s5 = .slice oa k oc ∧ s6 = .int .i64 (LSTI f j h) ∧ Aside (j ≤ q ∧ j ≤ n ∧ X.length = k ∧ ATS f n h = ATS f j h ++ X.reverse ∧ Below w.heap.size w wx ∧ wx.ownsRow w.heap.size 31 1 (.slice oa k oc) k (UCELLS X)))
  case atStart => exact ⟨n, 0, none, 0, [], rfl, rfl, Nat.le_refl _, Nat.le_refl _, rfl, by simp, HB.out, ⟨rfl, .inl ⟨rfl, rfl⟩⟩⟩
  case round =>
    obtain ⟨j, k, oa, oc, X, rfl, rfl, A⟩ := hrel
    by_cases hl : LSTI f j h = -1
    · have hl2 : (LSTI f j h != -1) = false := by simp [hl]
      have Z : Aside (ATS f n h = X.reverse ∧ X.length = k ∧ Below w.heap.size w wr ∧ wr.ownsRow w.heap.size 31 1 (.slice oa k oc) k (UCELLS X)) := ⟨by rw [A.out.2.2.2.1, ATS_none hl]; rfl, A.out.2.2.1, A.out.2.2.2.2⟩
      have hk : k ≤ 100000 := by
        have e := Z.out.1
        have := ATS_length f h n
        rw [e, List.length_reverse, Z.out.2.1] at this
        exact Nat.le_trans this HA.out.2.1
      clear A
      rw [hl]
      clear hl hl2
      have hlen : (ATS f n h).length = k := by rw [Z.out.1, List.length_reverse, Z.out.2.1]
      have FIN : Aside (∀ W, W.ownsRow w.heap.size 31 1 (.slice oa k oc) k (UCELLS X.reverse) → Below w.heap.size w W → ∃ a c, Ending.returned (.slice oa k oc) = .returned (.slice a (ATS f n h).length c) ∧ W.ownsRow w.heap.size 31 1 (.slice a (ATS f n h).length c) (ATS f n h).length (UCELLS (ATS f n h)) ∧ Below w.heap.size w W) := fun W h1 h2 => ⟨oa, oc, by rw [hlen], by rw [hlen, Z.out.1]; exact h1, h2⟩
      clear hlen
      rcases Z.out.2.2.2.2 with ⟨e, h0⟩ | ⟨g, cap, cur, e, hg, _⟩
      · cases e
        have hr := rev_none wr
        have ZZ : Aside (wr.ownsRow w.heap.size 31 1 (.slice none 0 0) 0 (UCELLS X.reverse) ∧ Below w.heap.size w wr) := ⟨⟨by rw [UCELLS_length, List.length_reverse, Z.out.2.1], .inl ⟨rfl, rfl⟩⟩, Z.out.2.2.1⟩
        clear Z HA HB
        go_wp2_with fail
        refine hr.mono ?_
        rintro e w2 ⟨rfl, rfl⟩
        clear hr
        go_wp2
        go_ret
        exact FIN.out _ ZZ.out.1 ZZ.out.2
      · cases e
        have hr := rev_nums Z.out.2.1 Z.out.2.2.2 (by omega)
        clear HA HB
        go_wp2_with fail
        refine hr.mono ?_
        rintro e w2 ⟨rfl, hr2⟩
        have ZZ : Aside (w2.ownsRow w.heap.size 31 1 (.slice (some ⟨g, 0, none⟩) k oc) k (UCELLS X.reverse) ∧ Below w.heap.size w w2) := ⟨hr2.own, Z.out.2.2.1.trans hr2.bel⟩
        clear hr hr2 Z
        go_wp2
        go_ret
        exact FIN.out _ ZZ.out.1 ZZ.out.2
    · obtain ⟨i, hi⟩ : ∃ i : Nat, LSTI f j h = (i : Int) := ⟨(LSTI f j h).toNat, by have := LSTI_range f h j; omega⟩
      obtain ⟨l1, l2, l3⟩ := LSTI_some hi
      cases gk with
      | zero => have := A.out.1; omega
      | succ q =>
        have hne : ((i : Int) != -1) = true := by rw [bne_iff_ne]; omega
        have hin : i < n := by have := A.out.2.1; omega
        have hin' : i < n := hin
        have hlt : (i : Int) < (n : Int) := by omega
        obtain ⟨g, rfl, -⟩ : ∃ g, a = some ⟨g, 0, none⟩ ∧ True := by
          rcases HA.out.1.own.2 with ⟨e, e0⟩ | ⟨g, cap, cur, e, _⟩
          · omega
          · cases e
            exact ⟨g, rfl, trivial⟩
        have hiu : IntKind.u64.wrap (i : Int) = (i : Int) := u64f (by have := HA.out.2.1; omega)
        have hn6 : k ≤ 1000000 := by
          have e := A.out.2.2.2.1
          have := ATS_length f h n
          rw [e, List.length_append, List.length_reverse, A.out.2.2.1] at this
          have := HA.out.2.1
          omega
        have FW : Aside (∀ W, Below wr.heap.size wr W → W.cell? ⟨p, 0, none⟩ = some (.slice (some ⟨g, 0, none⟩) n c) ∧ W.cell? ⟨g, i * 33 + 32, none⟩ = some (.int .i64 (LSTI f i h))) := fun W hW => by
          have F := HA.out.1.keep (A.out.2.2.2.2.1.trans (hW.mono A.out.2.2.2.2.1.size))
          have e := F.before hin
          rw [l2] at e
          exact ⟨F.box.cell 0, e⟩
        have R : Aside (i ≤ q ∧ i ≤ n ∧ X.length = k ∧ ATS f n h = ATS f i h ++ (X ++ [i]).reverse ∧ Below w.heap.size w wr ∧ wr.ownsRow w.heap.size 31 1 (.slice oa k oc) k (UCELLS X)) := ⟨by have := A.out.1; omega, by omega, A.out.2.2.1, by rw [A.out.2.2.2.1, l3]; simp, A.out.2.2.2.2⟩
        rw [hi]
        have hF : Aside (f i = h) := l2
        clear A l1 l2 l3 hi hl hin
        go_wp2_with (first
          | (at_builtin; refine app_num _ rfl (.tmp 20) (.tmp 23) rfl w.heap.size (.slice oa k oc) k X rfl (R.out.2.2.2.2.2.alloc _) wr.heap.size 1 i rfl ((Has.new _ _ _).cell 0) (by omega) (by have := R.out.2.2.2.2.1.size; simp; omega) ?_; intro g3 c3 w3 hown hgrow hg3
             have hbw : Below wr.heap.size wr (wr.alloc (.cells #[.int .u64 (i : Int)] 31)) := (Below.refl _ _).alloc (Nat.le_refl _) _
             have Z : Aside (Below w.heap.size w w3 ∧ w3.ownsRow w.heap.size 31 1 (.slice (some ⟨g3, 0, none⟩) (k + 1) c3) (k + 1) (UCELLS (X ++ [i]))) := ⟨(R.out.2.2.2.2.1.alloc R.out.2.2.2.2.1.size _).grown hgrow (by have := R.out.2.2.2.2.1.size; simp; omega) (fun k e => (R.out.2.2.2.2.2.lt k e).1), hown⟩
             have F := HA.out.1.keep Z.out.1
             have x0 : w3.cell? ⟨p, 0, none⟩ = some (.slice (some ⟨g, 0, none⟩) n c) := F.box.cell 0
             have x1 : w3.cell? ⟨g, i * 33 + 32, none⟩ = some (.int .i64 (LSTI f i (f i))) := F.before hin'
             clear hown hgrow hg3 hbw F)
          | fail)
        clear x0 x1
        go_wp2
        go_roundg q
        case measure => exact Nat.lt_succ_self _
        case rel => exact ⟨i, k + 1, some ⟨g3, 0, none⟩, c3, X ++ [i], rfl, by rw [hF.out], R.out.1, R.out.2.1, by rw [List.length_append, R.out.2.2.1]; rfl, R.out.2.2.2.1, Z.out⟩
end Go.Proofs.Ytlbcnaenhghieaa

/- The room of what was forgotten is given back. -/
namespace Go.Proofs.Ytlbcnaenhghieaa
open Go.RowKit Go.Maps
set_option maxRecDepth 100000

theorem eql_nilent (a : Option Addr) (n c : Nat) (w : World) : (binOp .eql 49 (.slice a n c) (.slice none 0 0)).run Try.prog w = .ok (.bool a.isNone) w := by
  simp [binOp, run_equal_slice_nil w 49 55 a n c Try.underlying49]
theorem own_emptyent (w : World) : (w.alloc (.cells #[] 55)).ownsRow w.heap.size 55 33 (.slice (some ⟨w.heap.size, 0, none⟩) 0 0) 0 [] :=
  World.ownsRow_lit w #[] 0 (Nat.le_refl _) (by simp [maxLen]) rfl
theorem app_entries {ops : Array Oper} {rest : List Oper} {o : Oper} {a : Act} {Q : Exit → Act → World → Prop} (w : World) (hgd : o.guard = none) (s x : Operand)
    (ho : o.op = .call { callee := .builtin .append, args := #[s, x], argTypes := #[49, 49] })
    (base : Nat) (v : Value) (hs : a.eval s = v) (hown : w.ownsRow base 55 33 v 0 [])
    (g m c : Nat) (ys : List Value) (hl : ys.length = m * 33) (h1 : ∀ u ∈ ys, u.oneCell' = true) (hx : a.eval x = .slice (some ⟨g, 0, none⟩) m c) (hc : w.rangeAt g 0 ys)
    (hb : m ≤ 1000000) (hbase : base ≤ w.heap.size)
    (h : ∀ v' w', w'.ownsRow base 55 33 v' m ys → w.grownBy w' v.ownBlock → wpList Try.prog ops Q rest (a.put o.dst v') w') : wpList Try.prog ops Q (o :: rest) a w := by
  obtain ⟨i, hi, hz, hs1, hby⟩ := info_parts info_entry
  refine wpList_append_own w hgd s x 49 ho base 55 i _ 33 40 Try.underlying49 hi hz hs1 hby rfl (by decide) v 0 [] hs hown ⟨g, 0, none⟩ m c ys hx hl (fun j u hj => by rw [addr_add]; exact hc j u hj) h1 (by simp only [maxLen]; omega) (by omega) hbase ?_
  intro v' w' r1 r2 _
  rw [Nat.zero_add, List.nil_append] at r1
  exact h v' w' r1 r2
set_option maxHeartbeats 1000000 in
/-- the list anew. -/
theorem clone_ent {w : World} {B n : Nat} {v : Value} {xs : List Value} (h : w.ownsRow B 55 33 v n xs) (h1 : ∀ u ∈ xs, u.oneCell' = true) (hn : n ≤ 1000000) : Calls Try.prog 28 #[v] w fun e w' => ∃ u, e = .returned u ∧ w'.ownsRow w.heap.size 55 33 u n xs ∧ Below w.heap.size w w' := by
  have HA : Aside (w.ownsRow B 55 33 v n xs ∧ (∀ u ∈ xs, u.oneCell' = true) ∧ n ≤ 1000000) := ⟨h, h1, hn⟩
  rcases h.2 with ⟨rfl, rfl⟩ | ⟨g, c, cur, rfl, _⟩
  · have hnil := eql_nilent none 0 0
    have hx : xs = [] := List.eq_nil_of_length_eq_zero (by have := HA.out.1.1; omega)
    subst hx
    clear h h1 hn HA
    go_enter Try.func28, Try.ntmps28
    go_wp2
    go_ret
    exact ⟨_, rfl, World.ownsRow_nil _ _ _ _, Below.refl _ _⟩
  · have hnil := eql_nilent (some ⟨g, 0, none⟩) n c
    have hr : Aside ((w.alloc (.cells #[] 55)).rangeAt g 0 xs) := fun j u hj => by
      have hj2 := (List.getElem?_eq_some_iff.1 hj).1
      have e := (HA.out.1.alloc (.cells #[] 55)).cellAt j (by have := HA.out.1.1; omega)
      rw [Nat.zero_add, e]
      exact hj
    clear h h1 hn
    go_enter Try.func28, Try.ntmps28
    go_wp2_with (at_builtin; refine app_entries _ rfl (.tmp 5) (.tmp 6) rfl w.heap.size (.slice (some ⟨w.heap.size, 0, none⟩) 0 0) rfl (own_emptyent w) g n c xs HA.out.1.1 HA.out.2.1 rfl hr.out HA.out.2.2 (by simp) ?_; intro u w1 hown1 hgrow1; have R1 : Aside (w1.ownsRow w.heap.size 55 33 u n xs ∧ Below w.heap.size w w1) := ⟨hown1, ((Below.refl _ w).alloc (Nat.le_refl _) _).grown hgrow1 (by simp) (fun k e => by cases e; exact Nat.le_refl _)⟩; clear hown1 hgrow1)
    go_ret
    exact ⟨_, rfl, R1.out.1, R1.out.2⟩
theorem run_makeMapN (k : Nat) (w : World) : (Instr.makeMap 50 (some (.int .i64 (k : Int)))).run Try.prog w = .ok (.map (some w.heap.size)) (w.alloc (.map #[] 0)) := by
  have h : (underlying 50).run Try.prog w = .ok (.map 30 3) w := run_underlying Try.underlying50 w
  simp only [Instr.makeMap, Sem.run_bind, h, Result.andThen]
  rfl
theorem ECS_one {f : Nat → List Int} : ∀ (n : Nat), ∀ u ∈ ECS f n, u.oneCell' = true
  | 0, u, h => by simp [ECS] at h
  | n + 1, u, h => by
    rcases List.mem_append.1 h with h | h
    · exact ECS_one n u h
    · exact ENT_one f n u h
set_option maxHeartbeats 4000000 in
theorem find_shrink {w : World} {B p n b : Nat} {v : Value} {f : Nat → List Int} (H : FIND w B p v (some b) f n) (hn : n ≤ 100000) : Calls Try.prog 27 #[.pointer (some ⟨p, 0, none⟩)] w fun e w' => ∃ v' m', e = .returned (.tuple #[]) ∧ FIND w' B p v' m' f n ∧ FSTP w w' p v (some b) v' m' := by
  have x0 := H.box.cell 0
  have hcl := clone_ent H.own (ECS_one n) (by omega)
  have HA : Aside (FIND w B p v (some b) f n ∧ n ≤ 100000) := ⟨H, hn⟩
  clear H hn
  go_enter Try.func27, Try.ntmps27
  go_wp2_with fail
  refine hcl.mono ?_
  rintro e w1 ⟨u, rfl, ho1, hb1⟩
  have F1 := HA.out.1.keep hb1
  have x1 := F1.box.cell 0
  have x2 := F1.box.frozen 0
  obtain ⟨ua, uc, rfl⟩ := own_sliced ho1
  obtain ⟨W1, hW1⟩ : ∃ W1, w1.setCell ⟨p, 0, none⟩ (.slice ua n uc) = W1 := ⟨_, rfl⟩
  have hup : (Value.slice ua n uc).ownBlock ≠ some p := fun e => by have := (ho1.lt p e).1; have := HA.out.1.box.lt; omega
  have G1 : Aside (FIND W1 B p (.slice ua n uc) (some b) f n ∧ FSTP w W1 p v (some b) (.slice ua n uc) (some b)) := by
    have hB := HA.out.1.base
    have hl := HA.out.1.box.lt
    have hap := HA.out.1.apart
    have hoff : ∀ k, k ≠ p → W1.heap[k]? = w1.heap[k]? := fun k hk => by rw [← hW1]; exact Below.heap_setCell _ _ _ k hk
    refine ⟨⟨by rw [← hW1]; exact F1.box.set 0 _, own_heap (own_mono ho1 (by omega)) fun k e => hoff k (fun e2 => hup (by rw [e, e2])), ?_, F1.is, hB⟩, ?_⟩
    · rcases F1.map with ⟨e, _⟩ | ⟨b', e, h1, h2⟩
      · cases e
      · cases e
        exact .inr ⟨b, rfl, h1, h2.at (hoff b (fun e => hap.2.1 (by rw [e])))⟩
    · rw [← hW1]
      refine ⟨hb1.os, hb1.tape, hb1.output, by simpa using hb1.size, fun k h1 h2 => (Below.heap_setCell _ _ _ k (fun e => h2 (.inl e))).trans (hb1.block k h1), ?_⟩
      rintro k (e | e | e)
      · exact .inl (.inl e)
      · exact .inr (ho1.lt k e).1
      · exact .inl (.inr (.inr e))
  have HN : Aside (n ≤ 100000) := HA.out.2
  clear hcl x0 ho1 hb1 F1 hup HA
  go_upto_region 1 with fail
  clear x1 x2 hW1
  have y1 := G1.out.1.box.cell 1
  obtain ⟨D, hD, hF⟩ : FMAP W1 b f n := by
    rcases G1.out.1.map with ⟨e, _⟩ | ⟨b', e, _, h2⟩
    · cases e
    · cases e
      exact h2
  have hct := (FMAP.count ⟨D, hD, hF⟩ : ∀ ty, _)
  have hul : UNL f n ≤ 1000000 := by have := UNL_le f n; have := HN.out; omega
  have hmk := run_makeMapN (UNL f n) W1
  obtain ⟨S1, hS1⟩ : ∃ S, W1.heap.size = S := ⟨_, rfl⟩
  have hpl := G1.out.1.box.lt
  have hbl := hD.lt
  have hbA : Below W1.heap.size W1 (W1.alloc (.map #[] 0)) := (Below.refl _ _).alloc (Nat.le_refl _) _
  have z1 : (W1.alloc (.map #[] 0)).cell? ⟨p, 1, none⟩ = some (.map (some b)) := (G1.out.1.box.keep hbA).cell 1
  have e1 : (W1.alloc (.map #[] 0)).heap.size = S1 + 1 := by simp [hS1]
  have HD : Aside (W1.ownsMap Try.prog 30 (plainElem Try.prog 3) b (UNL f n) D ∧ FOK f n D ∧ b < S1 ∧ p < S1 ∧ W1.heap.size = S1) := ⟨hD, hF, by omega, by omega, hS1⟩
  rw [hS1] at hmk hpl hbl hbA
  have hkeep : Aside (∀ W, Below S1 W1 W → FIND W B p (.slice ua n uc) (some b) f n) := fun W h => G1.out.1.keep (by rw [hS1]; exact h)
  clear hF hpl hbl hul hS1
  have hz := zeroHashF
  go_upto_region 2 with fail
  clear hct hmk y1
  go_wp2_with (first
    | (at_range; refine wpList_range_own _ rfl _ 50 rfl 30 3 lawF Try.underlying50 _ b (UNL f n) _ rfl (hD.alloc _) ?_; intro w0 hrg0 hg0 hs0)
    | fail)
  rw [e1] at hrg0 hs0 ⊢
  have ST : Aside (w0.ranges Try.prog 30 (plainElem Try.prog 3) b (S1 + 1) (UNL f n) D (Maps.has D) (Maps.size D) ∧ w0.ownsMap Try.prog 30 (plainElem Try.prog 3) S1 (Maps.size D - Maps.size D) (.map [] : DataW Unit) ∧ Below S1 W1 w0) := ⟨hrg0, by
      have := ((World.ownsMap_made W1 Try.prog 30 (plainElem Try.prog 3)).kept hg0 (by simp) : w0.ownsMap Try.prog 30 (plainElem Try.prog 3) W1.heap.size 0 (.map [] : DataW Unit))
      rw [HD.out.2.2.2.2] at this
      rw [Nat.sub_self]
      exact this, hbA.grown hg0 (by simp [HD.out.2.2.2.2]) (fun j hj => by cases hj)⟩
  clear hrg0 hg0 hs0 hbA z1 e1 hD
  go_frame
  go_loopw [3, 4] (fun _ _ wr => ∃ (left : Lit → Bool) (cnt : Nat) (Dout : DataW Unit), wr.ranges Try.prog 30 (plainElem Try.prog 3) b (S1 + 1) (UNL f n) D left cnt ∧ cnt ≤ Maps.size D ∧
      wr.ownsMap Try.prog 30 (plainElem Try.prog 3) S1 (Maps.size D - cnt) Dout ∧ Agree Dout D left ∧ Below S1 W1 wr)
    (fun _ _ wr => wr.rangeLeft b (S1 + 1))
  case atStart => exact ⟨_, _, _, ST.out.1, Nat.le_refl _, ST.out.2.1, agree_start D, ST.out.2.2⟩
  case round =>
    obtain ⟨left, cnt, Dout, hrg, hcs, hout, hA, hnx⟩ := hrel
    go_wp2_with (first
      | (at_next; refine wpList_next_ranges _ rfl _ rfl 30 lawF (plainElem Try.prog 3) (fun l : List Int => Value.agg (CELLS l).toArray) (fun z : Int => Value.int .i64 z) (fun key kl hk => by obtain ⟨l, _, e⟩ := hkf_inv hk; exact ⟨l, e⟩) (fun v y hv => by obtain ⟨c, e, _⟩ := plainElem_int_inv Try.underlying3 hv; exact ⟨c, e⟩) b (S1 + 1) (UNL f n) _ _ _ rfl hrg ?_ ?_)
      | fail)
    · intro hc0 hl0
      subst hc0
      have eD : Dout = D := agree_end hA hl0 (hout.canon lawF) (HD.out.1.canon lawF)
      subst eD
      have F2 := hkeep.out wr hnx
      have x1 := F2.box.cell 1
      have x2 := F2.box.frozen 1
      have hsz := HD.out.2.1.size
      have hmap : FMAP wr S1 f n := ⟨Dout, by rw [Nat.sub_zero, hsz] at hout; exact hout, HD.out.2.1⟩
      have R : Aside (FIND (wr.setCell ⟨p, 1, none⟩ (.map (some S1))) B p (.slice ua n uc) (some S1) f n ∧ FSTP w (wr.setCell ⟨p, 1, none⟩ (.map (some S1))) p v (some b) (.slice ua n uc) (some S1)) := by
        have hpl := HD.out.2.2.2.1
        have hB := F2.base
        have s1 := G1.out.2.trans (FSTP.of_below (by rw [HD.out.2.2.2.2]; exact hnx) : FSTP W1 wr p (.slice ua n uc) (some b) (.slice ua n uc) (some b))
        have hws := G1.out.2.size
        rw [HD.out.2.2.2.2] at hws
        refine ⟨⟨F2.box.set 1 _, own_heap F2.own fun k e => Below.heap_setCell _ _ _ k (fun e2 => F2.apart.1 (by rw [e, e2])), .inr ⟨S1, rfl, by omega, hmap.at (Below.heap_setCell _ _ _ _ (by show S1 ≠ p; omega))⟩, F2.is, F2.base⟩, ?_⟩
        refine ⟨s1.os, s1.tape, s1.output, by have := s1.size; simpa using this, fun k h1 h2 => (Below.heap_setCell _ _ _ k (fun e => h2 (.inl e))).trans (s1.block k h1 h2), ?_⟩
        rintro k (e | e | e)
        · exact .inl (.inl e)
        · exact s1.foot k (.inr (.inl e))
        · cases e
          exact .inr hws
      clear F2 hmap hout hrg hA hcs hnx ST G1 HD hkeep hsz hl0
      go_wp2
      exact bodyPost_end (v := .tuple #[]) (by simp [results, Try.f27]) rfl ⟨_, _, rfl, R.out.1, R.out.2⟩
    · intro x c kl y1 y2 w2 cnt2 hkx hlx hvc hat hrg1 hlt hg1 hs1 hen
      obtain ⟨l, hl, ex⟩ := hkf_inv hkx
      have ex2 : x = l := CELLS_one_to (by simpa using ex)
      subst ex2
      have ekl : kl = HKF x := by
        have := hkf_ok hl
        rw [hkx] at this
        exact Option.some.inj this
      subst ekl
      obtain ⟨c', ec, ey, hwc⟩ := plainElem_int_inv Try.underlying3 hvc
      cases ec
      cases ey
      have hk3 : Has (w2.alloc (.cells ZARR 30)) w2.heap.size (CELLS ZND).toArray 30 := Has.new _ _ _
      have hst := store_cellsF hk3 (y := x) rfl hl.1
      have hzs : (CELLS x).length = 32 := by simp [CELLS, hl.1]
      obtain ⟨w3, hw3⟩ : ∃ w3, w2.alloc (.cells (CELLS x).toArray 30) = w3 := ⟨_, rfl⟩
      rw [World.setRow_alloc_new, hw3] at hst
      obtain ⟨k3, hk3'⟩ : ∃ k, w2.heap.size = k := ⟨_, rfl⟩
      have hr3 : Has w3 k3 (CELLS x).toArray 30 := by rw [← hw3, ← hk3']; exact Has.new _ _ _
      have hg3 : w2.grownBy w3 none := by rw [← hw3]; exact World.grownBy_alloc _ _ _
      rw [hk3'] at hst
      have hout3 : w3.ownsMap Try.prog 30 (plainElem Try.prog 3) S1 (Maps.size D - cnt) Dout := (hout.kept hg1 (by simp)).kept hg3 (by simp)
      have hrg3 := hrg1.kept hg3 (by simp) (by simp)
      have hnx3 : Below S1 W1 w3 := (hnx.grown hg1 (by have := hnx.size; have := HD.out.2.2.2.2; omega) (fun j hj => by cases hj; omega)).grown hg3 (by have := hnx.size; have := HD.out.2.2.2.2; omega) (fun j hj => by cases hj)
      have ROW : Aside (w3.heap[k3]? = some (.cells (CELLS x).toArray 30 (0, 0)) ∧ x.length = 32) := ⟨hr3, hl.1⟩
      have LF : Aside (wr.rangeLeft b (S1 + 1) = cnt) := hrg.left_eq
      have KK : Aside (keyOf Try.prog 30 (.agg (CELLS x).toArray) = some (HKF x) ∧ WideAt.IsKeyLit (HKF x)) := ⟨hkx, lawF.key hkx⟩
      have BS : Aside (S1 ≤ w3.heap.size ∧ cnt2 < cnt ∧ cnt ≤ Maps.size D ∧ Maps.size D ≤ 1000000) := ⟨by have := hnx3.size; have := HD.out.2.2.2.2; omega, hlt, hcs, by rw [HD.out.2.1.size]; have := UNL_le f n; have := HN.out; omega⟩
      have AG : Aside (Agree Dout D left ∧ (∀ zd, D.atKey (HKF x) zd = .lit (.int .i64 c))) := ⟨hA, hat⟩
      clear hk3 hw3 hg3 hrg1 hnx hg1 hr3 hout hrg hA hat hkx hlx hl ex hvc hs1 hlt hcs
      generalize ZARR = Z at hz hst
      go_wp2_with (first
        | (refine wpList_load_row rfl 30 (.tmp 3) rfl k3 rfl 30 (CELLS x).toArray (0, 0) _ ROW.out.1 Try.underlying30 rfl (info_arr ROW.out.2) ?_)
        | (at_mapUpdate; refine wpList_mapUpdate_own _ rfl _ _ _ 50 rfl 30 3 lawF Try.underlying50 _ S1 _ _ rfl hout3 (by have := BS.out; unfold maxLen; omega) _ _ _ rfl rfl KK.out.1 _ [] (plainElem_int Try.underlying3 hwc) ?_; intro w4 hout4 hg4; go_frame)
        | fail)
      have hrg4 := hrg3.kept hg4 (fun e => by have := Option.some.inj e; have := HD.out.2.2.1; omega) (fun e => by have := Option.some.inj e; omega)
      go_roundw
      case rel =>
        exact ⟨_, cnt2, _, hrg4, by have := BS.out; omega, hout4.mono (by have := BS.out; omega), agree_step AG.out.1 hout3.isMap KK.out.2 AG.out.2, hnx3.grown hg4 (by have := BS.out; omega) (fun j hj => by cases hj; exact Nat.le_refl _)⟩
      case measure => rw [hrg4.left_eq, LF.out]; exact BS.out.2.1
end Go.Proofs.Ytlbcnaenhghieaa

/- Leaves are cut off. -/
namespace Go.Proofs.Ytlbcnaenhghieaa
open Go.RowKit Go.Maps
set_option maxRecDepth 100000

set_option maxHeartbeats 2000000 in
theorem find_cut_no {w : World} {B p n : Nat} {v : Value} {m : Option Nat} {f : Nat → List Int} (H : FIND w B p v m f n) (hn : n < 100000) (k : Nat) (hk : n < k) : Calls Try.prog 14 #[.pointer (some ⟨p, 0, none⟩), .int .u64 (k : Int)] w fun e w' => e = .returned (.int .i64 30) ∧ w = w' := by
  have hs := find_size H (by omega)
  have hgt : (n : Int) < (k : Int) := by omega
  clear H hn
  go_enter Try.func14, Try.ntmps14
  go_wp2_with fail
  refine hs.mono ?_
  rintro e w1 ⟨rfl, rfl⟩
  clear hs
  go_wp2
  go_ret
  exact ⟨rfl, rfl⟩
set_option maxHeartbeats 4000000 in
theorem find_cut {w : World} {B p n : Nat} {v : Value} {m : Option Nat} {f : Nat → List Int} (H : FIND w B p v m f n) (hn : n < 100000) (k : Nat) (hk : k ≤ n) : Calls Try.prog 14 #[.pointer (some ⟨p, 0, none⟩), .int .u64 (k : Int)] w fun e w' => ∃ v' m', e = .returned (.int .i64 0) ∧ FIND w' B p v' m' f k ∧ FSTP w w' p v m v' m' := by
  have hs := find_size H (by omega)
  have hgt : (decide (n < k)) = false := by rw [decide_eq_false_iff_not]; omega
  have hgt' : ¬ n < k := by omega
  have HA : Aside (FIND w B p v m f n ∧ n < 100000 ∧ k ≤ n) := ⟨H, hn, hk⟩
  clear H hn hk
  go_enter Try.func14, Try.ntmps14
  go_wp2_with fail
  refine hs.mono ?_
  rintro e w1 ⟨rfl, rfl⟩
  clear hs
  go_wp2_with fail
  clear hgt hgt'
  go_loopg [9] (n - k) (fun q _ wx => ∃ (j : Nat) (v1 : Value) (m1 : Option Nat), Aside (j = k + q ∧ j ≤ n ∧ FIND wx B p v1 m1 f j ∧ FSTP w wx p v m v1 m1))
  case atStart => exact ⟨n, v, m, by have := HA.out.2.2; omega, Nat.le_refl _, HA.out.1, FSTP.of_below (Below.refl _ _)⟩
  case round =>
    obtain ⟨j, v1, m1, A⟩ := hrel
    have hs := find_size A.out.2.2.1 (by have := A.out.2.1; have := HA.out.2.1; omega)
    cases gk with
    | succ q =>
      have hgt2 : (k : Int) < (j : Int) := by have := A.out.1; omega
      obtain ⟨i, hi⟩ : ∃ i, j = i + 1 := ⟨k + q, by have := A.out.1; omega⟩
      subst hi
      have hf := find_forget A.out.2.2.1 (by have := A.out.2.1; have := HA.out.2.1; omega)
      have R : Aside (i = k + q ∧ i ≤ n ∧ FSTP w wr p v m v1 m1) := ⟨by have := A.out.1; omega, by have := A.out.2.1; omega, A.out.2.2.2⟩
      clear A
      go_wp2_with fail
      refine hs.mono ?_
      rintro e w1 ⟨rfl, rfl⟩
      clear hs
      go_wp2_with fail
      refine hf.mono ?_
      rintro e w2 ⟨v2, m2, rfl, F2, S2⟩
      have Z : Aside (FIND w2 B p v2 m2 f i ∧ FSTP w w2 p v m v2 m2) := ⟨F2, R.out.2.2.trans S2⟩
      clear hf F2 S2
      go_wp2
      go_roundg q
      case measure => exact Nat.lt_succ_self _
      case rel => exact ⟨i, v2, m2, R.out.1, R.out.2.1, Z.out⟩
    | zero =>
      obtain rfl : j = k := A.out.1
      obtain ⟨a, c, rfl, hac, -⟩ := A.out.2.2.1.slice
      have x0 := A.out.2.2.1.box.cell 0
      have hkn : j ≤ 100000 := by have := A.out.2.1; have := HA.out.2.1; omega
      by_cases hc : (j : Int) < wrap64 ((c : Int) / 4)
      · obtain ⟨b, rfl⟩ : ∃ b, m1 = some b := by
          rcases A.out.2.2.1.map with ⟨_, e, _⟩ | ⟨b, e, _⟩
          · cases e
            exact absurd hc (by unfold wrap64; omega)
          · exact ⟨b, e⟩
        have SH : Aside (∀ nq, Calls Try.prog 27 #[.pointer (some ⟨p, 0, none⟩)] (wr.drewN nq) fun e w' => ∃ v' m', e = .returned (.tuple #[]) ∧ FIND w' B p v' m' f j ∧ FSTP w w' p v m v' m') := fun nq => (find_shrink (A.out.2.2.1.keep (below_drewN (Below.refl _ _) nq)) hkn).mono (by
          rintro e w' ⟨v', m', rfl, h1, h2⟩
          exact ⟨v', m', rfl, h1, (A.out.2.2.2.trans (FSTP.of_below (below_drewN (Below.refl _ _) nq))).trans h2⟩)
        clear A HA
        go_wp2_with fail
        refine hs.mono ?_
        rintro e w1 ⟨rfl, rfl⟩
        clear hs
        go_upto_region 5 with fail
        go_quiet (fail)
        have hsh := SH.out nq
        clear SH
        generalize wr.drewN nq = wq at *
        go_wp2_with fail
        refine hsh.mono ?_
        rintro e w3 ⟨v3, m3, rfl, F3, S3⟩
        have Z : Aside (FIND w3 B p v3 m3 f j ∧ FSTP w w3 p v m v3 m3) := ⟨F3, S3⟩
        clear hsh F3 S3
        go_wp2
        go_ret
        exact ⟨v3, m3, rfl, Z.out.1, Z.out.2⟩
      · have R : Aside (FIND wr B p (.slice a j c) m1 f j ∧ FSTP w wr p v m (.slice a j c) m1) := A.out.2.2
        clear A HA
        go_wp2_with fail
        refine hs.mono ?_
        rintro e w1 ⟨rfl, rfl⟩
        clear hs
        go_upto_region 5 with fail
        go_quiet (fail)
        have Z : Aside (FIND (wr.drewN nq) B p (.slice a j c) m1 f j ∧ FSTP w (wr.drewN nq) p v m (.slice a j c) m1) := ⟨R.out.1.keep (below_drewN (Below.refl _ _) nq), R.out.2.trans (FSTP.of_below (below_drewN (Below.refl _ _) nq))⟩
        clear R
        generalize wr.drewN nq = wq at *
        go_wp2
        go_ret
        exact ⟨_, m1, rfl, Z.out.1, Z.out.2⟩
end Go.Proofs.Ytlbcnaenhghieaa

/- The hashes that stand at more than one index. -/
namespace Go.Proofs.Ytlbcnaenhghieaa
open Go.RowKit Go.Maps
set_option maxRecDepth 100000

/-- while the list is gone through. -/
structure FTW (w wx : World) (f : Nat → List Int) (n i k : Nat) (oa : Option Addr) (oc : Nat) : Prop where
  len : k = (TWS f n i).length
  bel : Below w.heap.size w wx
  own : wx.ownsRow w.heap.size 30 32 (.slice oa k oc) k (CELLS (TWS f n i).flatten)
theorem FTW.skip {w wx : World} {f : Nat → List Int} {n i k : Nat} {oa : Option Addr} {oc : Nat} (h : FTW w wx f n i k oa oc) (hc : ¬ (LSTI f i (f i) = -1 ∧ LSTI f n (f i) ≠ (i : Int))) : FTW w wx f n (i + 1) k oa oc := by
  have e : TWS f n (i + 1) = TWS f n i := by rw [TWS, if_neg hc, List.append_nil]
  exact ⟨by rw [e]; exact h.len, h.bel, by rw [e]; exact h.own⟩
theorem FTW.below {w wx wy : World} {f : Nat → List Int} {n i k : Nat} {oa : Option Addr} {oc : Nat} (h : FTW w wx f n i k oa oc) (hb : Below wx.heap.size wx wy) : FTW w wy f n i k oa oc :=
  ⟨h.len, h.bel.trans (hb.mono h.bel.size), own_heap h.own fun k e => hb.block k (h.own.lt k e).2⟩
set_option maxHeartbeats 4000000 in
theorem find_twice {w : World} {B p n : Nat} {v : Value} {m : Option Nat} {f : Nat → List Int} (H : FIND w B p v m f n) (hn : n ≤ 100000) : Calls Try.prog 23 #[.pointer (some ⟨p, 0, none⟩)] w fun e w' => ∃ a c, e = .returned (.slice a (TWS f n n).length c) ∧ w'.ownsRow w.heap.size 30 32 (.slice a (TWS f n n).length c) (TWS f n n).length (CELLS (TWS f n n).flatten) ∧ Below w.heap.size w w' := by
  obtain ⟨a, c, rfl, -⟩ := H.slice
  have x0 := H.box.cell 0
  have HA : Aside (FIND w B p (.slice a n c) m f n ∧ n ≤ 100000) := ⟨H, hn⟩
  clear H hn
  go_enter Try.func23, Try.ntmps23
  go_wp2_with fail
  clear x0
  go_loopg [3, 4, 5, 11] n (fun q s3 _ _ s11 wx => ∃ (i k : Nat) (oa : Option Addr) (oc : Nat), s3 = .slice oa k oc ∧ s11 = .int .i64 (i : Int) ∧ Aside (i + q = n ∧ FTW w wx f n i k oa oc))
  case atStart => exact ⟨0, 0, none, 0, rfl, rfl, by omega, rfl, Below.refl _ _, ⟨rfl, .inl ⟨rfl, rfl⟩⟩⟩
  case round =>
    obtain ⟨i, k, oa, oc, rfl, rfl, A⟩ := hrel
    cases gk with
    | zero =>
      obtain rfl : i = n := A.out.1
      have hlt : ¬ (i : Int) < (i : Int) := by omega
      have Z : Aside (k = (TWS f i i).length ∧ Below w.heap.size w wr ∧ wr.ownsRow w.heap.size 30 32 (.slice oa k oc) k (CELLS (TWS f i i).flatten)) := ⟨A.out.2.len, A.out.2.bel, A.out.2.own⟩
      clear A
      go_wp2
      go_ret
      obtain ⟨z1, z2, z3⟩ := Z.out
      subst z1
      exact ⟨oa, oc, rfl, z3, z2⟩
    | succ q =>
      have hin : i < n := by have := A.out.1; omega
      have hlt : (i : Int) < (n : Int) := by omega
      obtain ⟨g, rfl, -⟩ : ∃ g, a = some ⟨g, 0, none⟩ ∧ True := by
        rcases HA.out.1.own.2 with ⟨e, e0⟩ | ⟨g, cap, cur, e, _⟩
        · omega
        · cases e
          exact ⟨g, rfl, trivial⟩
      obtain ⟨b, rfl, -⟩ : ∃ b, m = some b ∧ True := by
        rcases HA.out.1.map with ⟨_, _, e⟩ | ⟨b, e, _⟩
        · omega
        · exact ⟨b, e, trivial⟩
      have F := HA.out.1.keep A.out.2.bel
      have hh := F.is i hin
      have y1 : wr.rangeAt g (i * 33) (ENT f i) := F.entry hin
      have hi := info_ent' hh
      have he := ENT_length hh
      obtain ⟨bx, hbx⟩ : ∃ b, wr.heap.size = b := ⟨_, rfl⟩
      obtain ⟨w1, hw1⟩ : ∃ w1, wr.alloc (.cells (ENT f i).toArray 55) = w1 := ⟨_, rfl⟩
      have k0 : Has (wr.alloc (.cells ZENT 55)) bx (CELLS ZND ++ [Value.int .i64 0]).toArray 55 := by rw [← hbx, ← ZENT_eq]; exact Has.new _ _ _
      have hst := store_ent k0 (y := ENT f i) rfl he (ENT_one f i)
      have k1 : Has w1 bx (ENT f i).toArray 55 := by rw [← hw1, ← hbx]; exact Has.new _ _ _
      rw [← hbx, World.setRow_alloc_new, hw1, hbx] at hst
      have hb1 : Below wr.heap.size wr w1 := by rw [← hw1]; exact (Below.refl _ _).alloc (Nat.le_refl _) _
      have F1 : FIND w1.drew B p (.slice (some ⟨g, 0, none⟩) n c) (some b) f n := F.keep hb1.drew
      have T1 := A.out.2.below hb1.drew
      have hz := zeroEnt
      obtain ⟨l, hl⟩ : ∃ l, LSTI f i (f i) = l := ⟨_, rfl⟩
      obtain ⟨L, hL⟩ : ∃ L, LSTI f n (f i) = L := ⟨_, rfl⟩
      have x32 : w1.cell? ⟨bx, 32, none⟩ = some (.int .i64 l) := by
        rw [k1.cell, List.getElem?_toArray, ENT, List.getElem?_append_right (by simp [CELLS, hh.1]), hl]
        simp [CELLS, hh.1]
      have hr : w1.rangeAt bx 0 (CELLS (f i)) := fun j u hj => by
        rw [Nat.zero_add, k1.cell, List.getElem?_toArray, ENT, List.getElem?_append_left (List.getElem?_eq_some_iff.1 hj).1]
        exact hj
      have hLn : LSTI f n (f i) ≠ -1 := fun e => LSTI_none.1 e i hin rfl
      have hget : (Instr.lookup 50 (.map (some b)) (.agg (CELLS (f i)).toArray) false).run Try.prog w1.drew = .ok (.int .i64 L) w1.drew := by
        rcases F1.map with ⟨e, _⟩ | ⟨b', e, _, h2⟩
        · cases e
        · cases e
          rw [← hL]
          exact h2.get hh hLn
      have JJ : Aside (∀ W, W = w1.drew → W.cell? ⟨p, 1, none⟩ = some (.map (some b)) ∧ W.rangeAt bx 0 (CELLS (f i)) ∧ W.cell? ⟨bx, 32, none⟩ = some (.int .i64 l) ∧ (Instr.lookup 50 (.map (some b)) (.agg (CELLS (f i)).toArray) false).run Try.prog W = .ok (.int .i64 L) W) := by
        rintro W rfl
        exact ⟨F1.box.cell 1, hr, x32, hget⟩
      have RR : Aside (FTW w w1.drew f n i k oa oc ∧ i + 1 + q = n ∧ LSTI f i (f i) = l ∧ LSTI f n (f i) = L ∧ (f i).length = 32 ∧ n ≤ 100000 ∧ Has w1.drew bx (ENT f i).toArray 55) := ⟨T1, by have := A.out.1; omega, hl, hL, hh.1, HA.out.2, k1⟩
      have ei : wrap64 ((i : Int) + 1) = ((i + 1 : Nat) : Int) := by have := HA.out.2; unfold wrap64; omega
      have hrd : Aside (w1.drew.rangeAt bx 0 (CELLS (f i))) := hr
      have hEi : ENT f i = CELLS (f i) ++ [.int .i64 l] := by rw [ENT, hl]
      generalize ENT f i = E at *
      clear A F F1 T1 k0 k1 hb1 hget x32 hr hLn hw1 hl hL hin hEi
      go_upto_region 5 with (first
        | (refine wpList_load_mid rfl 55 (.tmp 14) rfl g (i * 33) rfl E _ y1 Try.underlying55 rfl (by simpa using hi) ?_)
        | fail)
      clear hst y1 hi hz
      by_cases hc : l = -1
      · by_cases hc2 : L = (i : Int)
        · refine ftwice5c w1 p bx (some b) (f i) RR.out.2.2.2.2.1 l L (i : Int) hc hc2 (fun W => W = w1.drew) rfl (fun W h => JJ.out W h) (fun _ _ _ _ _ h => h) ?_
          rintro W rfl
          have Z : Aside (FTW w w1.drew f n (i + 1) k oa oc) := RR.out.1.skip (fun h => h.2 (RR.out.2.2.2.1.trans hc2))
          clear JJ
          generalize w1.drew = W2 at *
          go_wp2
          go_roundg q
          case measure => exact Nat.lt_succ_self _
          case rel => exact ⟨i + 1, k, oa, oc, rfl, by rw [ei], RR.out.2.1, Z.out⟩
        · refine ftwice5b w1 p bx (some b) (f i) RR.out.2.2.2.2.1 l L (i : Int) hc hc2 (fun W => W = w1.drew) rfl (fun W h => JJ.out W h) (fun _ _ _ _ _ h => h) ?_
          rintro W rfl
          clear JJ
          generalize w1.drew = W2 at *
          have hkl : k ≤ 100000 := by have := RR.out.1.len; have := TWS_length f n i; have := RR.out.2.1; have := RR.out.2.2.2.2.2.1; omega
          have hb2 := RR.out.1.bel.size
          go_wp2_with (first
            | (refine wpList_load_mid rfl 30 (.tmp 31) rfl bx 0 rfl (CELLS (f i)) _ hrd.out Try.underlying30 rfl (info_cells RR.out.2.2.2.2.1) ?_)
            | (refine build_one _ rfl 26 30 (.tmp 32) rfl (CELLS (f i)).toArray rfl 32 _ _ Try.underlying26 info_hashv (by simp [CELLS, RR.out.2.2.2.2.1]) rfl (by decide) (by decide) ?_)
            | (at_builtin; refine app_hashm _ rfl (.tmp 30) (.tmp 33) rfl w.heap.size (.slice oa k oc) k _ rfl (RR.out.1.own.alloc _) _ 1 (f i) RR.out.2.2.2.2.1 rfl (Has.new _ _ _) hkl (by simp; omega) ?_; intro g7 c7 w7 hown hgrow hat hg7)
            | fail)
          have Z : Aside (FTW w w7 f n (i + 1) (k + 1) (some ⟨g7, 0, none⟩) c7) := by
            have e : TWS f n (i + 1) = TWS f n i ++ [f i] := by rw [TWS, if_pos ⟨RR.out.2.2.1.trans hc, fun h => hc2 (RR.out.2.2.2.1.symm.trans h)⟩]
            refine ⟨by rw [e, List.length_append, ← RR.out.1.len]; rfl, (RR.out.1.bel.alloc hb2 _).grown hgrow (by simp; omega) (fun k e => (RR.out.1.own.lt k e).1), ?_⟩
            rw [e, List.flatten_append, CELLS_append]
            simp only [List.flatten_cons, List.flatten_nil, List.append_nil]
            exact hown
          have HQ : Aside (i + 1 + q = n) := RR.out.2.1
          clear hown hgrow hat hg7 RR hrd
          go_wp2
          go_roundg q
          case measure => exact Nat.lt_succ_self _
          case rel => exact ⟨i + 1, k + 1, some ⟨g7, 0, none⟩, c7, rfl, by rw [ei], HQ.out, Z.out⟩
      · refine ftwice5a w1 p bx (some b) (f i) RR.out.2.2.2.2.1 l L (i : Int) hc (fun W => W = w1.drew) rfl (fun W h => JJ.out W h) (fun _ _ _ _ _ h => h) ?_
        rintro W rfl
        have Z : Aside (FTW w w1.drew f n (i + 1) k oa oc) := RR.out.1.skip (fun h => hc (RR.out.2.2.1.symm.trans h.1))
        clear JJ
        generalize w1.drew = W2 at *
        go_wp2
        go_roundg q
        case measure => exact Nat.lt_succ_self _
        case rel => exact ⟨i + 1, k, oa, oc, rfl, by rw [ei], RR.out.2.1, Z.out⟩
end Go.Proofs.Ytlbcnaenhghieaa
