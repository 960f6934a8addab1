/- What the document's States gives: the states of a text, one behind the other. -/
import Derived.Test.YtihdhaamphdljaaDoorHashRefBlocks
import Derived.Test.YtihdhaamphdljaaDoorHashRefStep
import Derived.Test.YtihdhaamphdljaaDoorHashRefBegin
import Derived.Deep.MidRow
import Derived.Deep.RegionLaw
namespace Go.Proofs.YtihdhaamphdljaaDoor
open Go.RowKit
set_option maxRecDepth 100000

/-- the states as cells, the one behind k blocks the last. -/
def STS (d : Int) (L : List Nat) : Nat → List Value
  | 0 => ULIST .u8 32 (STATE d L 0)
  | k + 1 => STS d L k ++ ULIST .u8 32 (STATE d L (k + 1))
theorem STS_length (d : Int) (L : List Nat) : ∀ k, (STS d L k).length = (k + 1) * 32
  | 0 => by rw [STS, ULIST_length]
  | k + 1 => by rw [STS, List.length_append, STS_length d L k, ULIST_length]; omega
theorem STS_get (d : Int) (L : List Nat) : ∀ k j i, j ≤ k → i < 32 → (STS d L k)[j * 32 + i]? = some (.int .u8 ((STATE d L j i : Nat) : Int))
  | 0, j, i, hj, hi => by
    obtain rfl : j = 0 := by omega
    rw [STS, Nat.zero_mul, Nat.zero_add, ULIST_get _ _ _ _ hi]
  | k + 1, j, i, hj, hi => by
    rw [STS]
    by_cases h : j ≤ k
    · rw [List.getElem?_append_left (by rw [STS_length]; omega), STS_get d L k j i h hi]
    · obtain rfl : j = k + 1 := by omega
      rw [List.getElem?_append_right (by rw [STS_length]; omega), STS_length, show (k + 1) * 32 + i - (k + 1) * 32 = i by omega, ULIST_get _ _ _ _ hi]
theorem STS_one (d : Int) (L : List Nat) (k : Nat) : ∀ u ∈ STS d L k, u.oneCell' = true := by
  induction k with
  | zero => exact ULIST_one _ _ _
  | succ k ih =>
    intro u hu
    rcases List.mem_append.1 hu with h | h
    · exact ih u h
    · exact ULIST_one _ _ _ u h
theorem ulist_some {k : IntKind} {n : Nat} {f : Nat → Nat} {j : Nat} {v : Value} (h : (ULIST k n f)[j]? = some v) : j < n ∧ v = .int k ((f j : Nat) : Int) := by
  have hj : j < n := by have := (List.getElem?_eq_some_iff.1 h).1; rw [ULIST_length] at this; exact this
  rw [ULIST_get _ _ _ _ hj] at h
  exact ⟨hj, (Option.some.inj h).symm⟩
theorem range_state {w : World} {base g k cap : Nat} {d : Int} {L : List Nat} (h : w.ownsRow base 35 32 (.slice (some ⟨g, 0, none⟩) (k + 1) cap) (k + 1) (STS d L k)) (j : Nat) (hj : j ≤ k) : w.rangeAt g (j * 32) (ULIST .u8 32 (STATE d L j)) := fun i v hv => by
  obtain ⟨hi, rfl⟩ := ulist_some hv
  rw [h.cellAt (j * 32 + i) (by omega), STS_get d L k j i hj hi]
theorem range_block {w : World} {base g m cap : Nat} {L : List Nat} (h : w.ownsRow base 48 64 (.slice (some ⟨g, 0, none⟩) m cap) m (BY L)) (hL : L.length = 64 * m) (t : Nat) (ht : t < m) : w.rangeAt g (t * 64) (ULIST .u8 64 (BLK L t)) := fun i v hv => by
  obtain ⟨hi, rfl⟩ := ulist_some hv
  rw [h.cellAt (t * 64 + i) (by omega), BY_get _ _ (by omega)]
  unfold BLK
  rw [if_pos hi, Nat.mul_comm]
theorem info_hashes : (Tryd.prog.info? 35).map (fun i => (i.zero, i.size, i.bytes)) = some (some (.agg (UARR .u8 32 fun _ => 0)), 32, 32) := by kernel_rfl
theorem own_one (w : World) (base : Nat) (hb : base ≤ w.heap.size) (f : Nat → Nat) : (w.alloc (.cells (UARR .u8 32 f) 35)).ownsRow base 35 32 (.slice (some ⟨w.heap.size, 0, none⟩) 1 1) 1 (ULIST .u8 32 f) :=
  ⟨by rw [ULIST_length], .inr ⟨w.heap.size, 1, UARR .u8 32 f, rfl, hb, by first | exact (Has.new w _ _) | exact (Has.new w _ _).1 | simp, by decide, by decide, by rw [UARR_size], by rw [UARR_list, List.take_of_length_le (by rw [ULIST_length]; decide)]⟩⟩
/-- a list of one aggregate, at a step of a region that draws its order. -/
theorem step_one {ops : Array Oper} {o : Oper} {a : Act} {K : Act → World → Prop} {Q : Exit → Act → World → Prop} {E : Prop} (w : World) (hg : o.guard = none) (t e : TypeId) (x : Operand) (ho : o.op = .buildSlice t 1 #[(0, x)]) (C : Array Value) (hx : a.eval x = .agg C) (n : Nat) (z : Value) (by' : Nat)
    (hu : Tryd.prog.underlying t = some (.slice e)) (hi : (Tryd.prog.info? e).map (fun i => (i.zero, i.size, i.bytes)) = some (some z, n, by')) (hC : C.size = n) (hz : z.cells.size = n) (hn : 0 < n) (hs : n ≤ 1000)
    (h : K (a.put o.dst (.slice (some ⟨w.heap.size, 0, none⟩) 1 1)) (w.alloc (.cells C e))) : if Region.wanted o (yielded ops a.tmps) = true then Oper.wp Tryd.prog o a w K Q else E := by
  have hw : Region.wanted o (yielded ops a.tmps) = true := by simp [Region.wanted, hg]
  rw [if_pos hw]
  obtain ⟨i, hie, hz', hs1, _⟩ := info_parts hi
  refine wp_buildSlice t e 1 _ ho C i z hu hie hz' (by rw [hs1]; omega) (by rw [hs1]; omega) ?_ h
  have := Great.fill_whole (s := n) hn [.agg C] ((Array.range (1 * i.size)).map (z.cells[· % z.cells.size]!)) (fun v hv => by simp at hv; subst hv; exact hC) (by simp [hs1])
  simp [Value.cells] at this
  rw [hs1]
  simp [hx]
  rw [hs1] at this
  exact this
theorem step_load {ops : Array Oper} {o : Oper} {a : Act} {w : World} {K : Act → World → Prop} {Q : Exit → Act → World → Prop} {E : Prop} (hg : o.guard = none) (ty : TypeId) (x : Operand) (ho : o.op = .load ty x)
    (b k : Nat) (hx : a.eval x = .pointer (some ⟨b, k, none⟩)) (cs : List Value) (C : Array Value) (hC : cs.toArray = C) (d : TypeDesc) (hc : w.rangeAt b k cs)
    (hu : Tryd.prog.underlying ty = some d) (hd : d.isRow = true) (hi : (Tryd.prog.info? ty).map (·.size) = some cs.length)
    (h : K (a.put o.dst (.agg C)) w) : if Region.wanted o (yielded ops a.tmps) = true then Oper.wp Tryd.prog o a w K Q else E := by
  have hw : Region.wanted o (yielded ops a.tmps) = true := by simp [Region.wanted, hg]
  rw [if_pos hw]
  subst hC
  exact wp_load_mid ty x ho b k hx cs d hc hu hd hi h
/-- append of one state, at a step of a region that draws its order. -/
theorem step_hash {ops : Array Oper} {o : Oper} {a : Act} {K : Act → World → Prop} {Q : Exit → Act → World → Prop} {E : Prop} (w : World) (f : Nat → Nat) (hgd : o.guard = none) (s x : Operand)
    (ho : o.op = .call { callee := .builtin .append, args := #[s, x], argTypes := #[53, 53] })
    (base : Nat) (v : Value) (n : Nat) (xs : List Value) (hs : a.eval s = v) (hown : w.ownsRow base 35 32 v n xs)
    (hx : a.eval x = .slice (some ⟨w.heap.size, 0, none⟩) 1 1) (hb : n ≤ 2 ^ 30) (hbase : base ≤ w.heap.size)
    (h : ∀ g cap w', w'.ownsRow base 35 32 (.slice (some ⟨g, 0, none⟩) (n + 1) cap) (n + 1) (xs ++ ULIST .u8 32 f) → (w.alloc (.cells (UARR .u8 32 f) 35)).grownBy w' v.ownBlock → K (a.put o.dst (.slice (some ⟨g, 0, none⟩) (n + 1) cap)) w') :
    if Region.wanted o (yielded ops a.tmps) = true then Oper.wp Tryd.prog o a (w.alloc (.cells (UARR .u8 32 f) 35)) K Q else E := by
  obtain ⟨i, hi, hz, hs1, hby⟩ := info_parts info_hashes
  refine step_append_lies _ hgd s x 53 ho base 35 i _ 32 32 Tryd.underlying53 hi hz hs1 hby (by simp [Value.cells, UARR_size]) (by decide) v n xs hs (hown.alloc _) ⟨w.heap.size, 0, none⟩ 1 1 (ULIST .u8 32 f) hx (by rw [ULIST_length]) ?_ (ULIST_one _ _ _) (by decide) (by simp only [maxLen]; omega) (by omega) (by simp; omega) (w.heap.size + 1) (by simp) ?_
  · intro j u hj
    obtain ⟨hj32, rfl⟩ := ulist_some hj
    rw [addr_add, Nat.zero_add, (Has.new w _ _).cell j, UARR_get _ _ _ _ hj32]
  · intro g cap w' h1 h2 _ _
    exact h g cap w' h1 h2
theorem any_one {ops : Array Oper} {Q : Exit → Act → World → Prop} {md : Region.Mode} {fuel : Nat} {listed : Array Bool} {a : Act} {w : World} {o : Oper} (i : Nat) (hr : Region.ready md ops listed = [i]) (ho : ops[i]? = some o)
    (h : ∀ K' : Act → World → Prop, (∀ a w, wpAny Tryd.prog md ops Q fuel (listed.setIfInBounds i true) a w → K' a w) → if Region.wanted o (yielded ops a.tmps) = true then Oper.wp Tryd.prog o a w K' Q else K' (a.put o.dst undef) w) : wpAny Tryd.prog md ops Q (fuel + 1) listed a w :=
  wpAny_ready hr (by simp) (AllReady.cons ho h AllReady.nil)
theorem any_as {ops : Array Oper} {Q : Exit → Act → World → Prop} {md : Region.Mode} {fuel : Nat} {listed : Array Bool} {a a' : Act} {w : World} (fuel' : Nat) (listed' : Array Bool) (hf : fuel = fuel') (hl : listed = listed') (ha : a = a') (h : wpAny Tryd.prog md ops Q fuel' listed' a' w) : wpAny Tryd.prog md ops Q fuel listed a w := by
  subst hf hl ha
  exact h
theorem hash_len (f : Nat → Nat) : (Tryd.prog.info? 35).map (·.size) = some (ULIST .u8 32 f).length := by rw [ULIST_length]; exact info_hash
theorem block_len (f : Nat → Nat) : (Tryd.prog.info? 48).map (·.size) = some (ULIST .u8 64 f).length := by rw [ULIST_length]; exact info_block
set_option maxHeartbeats 400000 in
theorem refstates_ok (d : Int) (B : Nat) (v : Value) (m : Nat) (L : List Nat) (w : World) (hA : w.ownsRow B 48 64 v m (BY L)) (hL : L.length = 64 * m) (hsm : Small8 L) (hm : m < 2 ^ 30) : Calls Tryd.prog 24 #[.int .i64 d, v] w fun e w' =>
    ∃ v', e = .returned v' ∧ w'.ownsRow w.heap.size 35 32 v' (m + 1) (STS d L m) ∧ Below w.heap.size w w' := by
  obtain ⟨a, c, rfl, hform⟩ := own_form hA
  have cb := refbegin_ok d
  have H : Aside (w.ownsRow B 48 64 (.slice a m c) m (BY L) ∧ L.length = 64 * m ∧ Small8 L ∧ m < 2 ^ 30 ∧ (0 < m → ∃ g, a = some ⟨g, 0, none⟩)) := ⟨hA, hL, hsm, hm, hform⟩
  clear hA hL hsm hm hform
  go_enter Tryd.func24, Tryd.ntmps24
  go_wp2_with (first | (go_at_call 36; refine (cb _).mono ?_; rintro e w1 ⟨rfl, hb1⟩) | (refine build_one _ rfl 53 35 (.tmp 8) rfl (UARR .u8 32 (FIRST d)) rfl 32 _ _ Tryd.underlying53 info_hashes (UARR_size _ _ _) (by simp [Value.cells, UARR_size]) (by decide) (by decide) ?_))
  have S : Aside ((w1.alloc (.cells (UARR .u8 32 (FIRST d)) 35)).ownsRow w.heap.size 35 32 (.slice (some ⟨w1.heap.size, 0, none⟩) 1 1) 1 (STS d L 0) ∧ Below w.heap.size w (w1.alloc (.cells (UARR .u8 32 (FIRST d)) 35))) := ⟨own_one w1 _ hb1.size _, hb1.alloc hb1.size _⟩
  clear hb1 cb
  generalize w1.alloc (.cells (UARR .u8 32 (FIRST d)) 35) = w2 at *
  generalize w1.heap.size = gb at *
  go_loopg [5, 6] m (fun q s5 s6 wx => ∃ t : Nat, s6 = .int .i64 (t : Int) ∧ Aside (t + q = m ∧ wx.ownsRow w.heap.size 35 32 s5 (t + 1) (STS d L t) ∧ Below w.heap.size w wx))
  case atStart => exact ⟨0, rfl, by omega, S.out⟩
  case round =>
    obtain ⟨t, rfl, A⟩ := hrel
    clear S
    cases gk with
    | zero =>
      obtain rfl : t = m := by have := A.out.1; omega
      have hlt : ¬ (t : Int) < (t : Int) := by omega
      go_wp2
      go_ret
      exact ⟨_, rfl, A.out.2⟩
    | succ q =>
      have htm : t < m := by have := A.out.1; omega
      have hlt : (t : Int) < (m : Int) := by omega
      obtain ⟨gl, cap, hv, -, hgl⟩ := A.out.2.1.form (by omega)
      subst hv
      obtain ⟨gb, hgb⟩ := H.out.2.2.2.2 (by omega)
      subst hgb
      have et : wrap64 ((t : Int) + 1) = ((t + 1 : Nat) : Int) := by have := H.out.2.2.2.1; unfold wrap64; omega
      have ht0 : ¬ (t : Int) < 0 := by omega
      have ht1 : (t : Int) < ((t + 1 : Nat) : Int) := by omega
      have hr1 : wr.drew.rangeAt gl (t * 32) (ULIST .u8 32 (STATE d L t)) := (World.rangeAt_drew _ _ _ _).2 (range_state A.out.2.1 t (Nat.le_refl t))
      have hr2 : wr.drew.rangeAt gb (t * 64) (ULIST .u8 64 (BLK L t)) := (World.rangeAt_drew _ _ _ _).2 (range_block (own_keep H.out.1 A.out.2.2) H.out.2.1 t htm)
      have cc := fun W => refcompress_ok d (STATE d L t) (BLK L t) (STATE_lt d L t) (BLK_lt H.out.2.2.1 t) W
      obtain ⟨T, hT⟩ : ∃ T, t + 1 = T := ⟨_, rfl⟩
      rw [hT] at ht1 et
      have R : Aside (t + 1 = T ∧ T + q = m ∧ wr.ownsRow w.heap.size 35 32 (.slice (some ⟨gl, 0, none⟩) T cap) T (STS d L t) ∧ Below w.heap.size w wr ∧ t < m ∧ m < 2 ^ 30) := by
        rw [← hT]
        exact ⟨rfl, by have := A.out.1; omega, A.out.2.1, A.out.2.2, htm, H.out.2.2.2.1⟩
      rw [hT]
      clear A hT htm
      go_wp2
      refine wp_region_any (by kernel_rfl) ?_
      change wpAny _ _ _ _ _ _ _ (World.drew _)
      refine wpAny_take (i := 0) (v := .slice (some ⟨gl, 0, none⟩) T cap) rfl (by kernel_rfl) (by kernel_rfl) (by kernel_rfl) (fun _ _ _ h => h) (Or.inl ⟨by rfl, fun W => by go_simp⟩) ?_
      refine wpAny_take (i := 1) (v := .int .i64 d) rfl (by kernel_rfl) (by kernel_rfl) (by kernel_rfl) (fun _ _ _ h => h) (Or.inl ⟨by rfl, fun W => by go_simp⟩) ?_
      refine wpAny_take (i := 2) (v := .slice (some ⟨gl, 0, none⟩) T cap) rfl (by kernel_rfl) (by kernel_rfl) (by kernel_rfl) (fun _ _ _ h => h) (Or.inl ⟨by rfl, fun W => by go_simp⟩) ?_
      refine wpAny_take (i := 3) (v := .int .i64 (t : Int)) rfl (by kernel_rfl) (by kernel_rfl) (by kernel_rfl) (fun _ _ _ h => h) (Or.inl ⟨by rfl, fun W => by go_simp⟩) ?_
      refine wpAny_take (i := 4) (v := .pointer (some ⟨gl, t * 32, none⟩)) rfl (by kernel_rfl) (by kernel_rfl) (by kernel_rfl) (fun _ _ _ h => h) (Or.inl ⟨by rfl, fun W => by go_simp⟩) ?_
      refine wpAny_take (i := 6) (v := .slice (some ⟨gb, 0, none⟩) m c) rfl (by kernel_rfl) (by kernel_rfl) (by kernel_rfl) (fun _ _ _ h => h) (Or.inl ⟨by rfl, fun W => by go_simp⟩) ?_
      refine wpAny_take (i := 7) (v := .int .i64 (t : Int)) rfl (by kernel_rfl) (by kernel_rfl) (by kernel_rfl) (fun _ _ _ h => h) (Or.inl ⟨by rfl, fun W => by go_simp⟩) ?_
      refine wpAny_take (i := 8) (v := .pointer (some ⟨gb, t * 64, none⟩)) rfl (by kernel_rfl) (by kernel_rfl) (by kernel_rfl) (fun _ _ _ h => h) (Or.inl ⟨by rfl, fun W => by go_simp⟩) ?_
      refine any_as (a' := ?A2) 6 #[true, true, true, true, true, false, true, true, true, false, false, false, false, false] (by kernel_rfl) (by kernel_rfl) ?HA ?HW
      case HA =>
        go_simp
        exact rfl
      refine wpAny_ready (rs := [5, 9]) (by kernel_rfl) (by simp) ?_
      refine AllReady.cons (o := { dst := some 21, op := Op.load 35 (Operand.tmp 20), type := 35, pos := "ref.go:159", after := #[{ on := 4, ground := Ground.data }], guard := none }) rfl (fun K hK => ?_) (AllReady.cons (o := { dst := some 25, op := Op.load 48 (Operand.tmp 24), type := 48, pos := "ref.go:159", after := #[{ on := 8, ground := Ground.data }], guard := none }) rfl (fun K hK => ?_) AllReady.nil)
      focus
        refine step_load (by rfl) 35 (.tmp 20) (by rfl) gl (t * 32) (by rfl) (ULIST .u8 32 (STATE d L t)) (UARR .u8 32 (STATE d L t)) (UARR_list _ _ _).symm (.array 32 5) hr1 Tryd.underlying35 (by rfl) (hash_len _) ?_
        refine hK _ _ ?_
        clear hK K
        refine any_as (a' := ?A11) 5 #[true, true, true, true, true, true, true, true, true, false, false, false, false, false] (by kernel_rfl) (by kernel_rfl) ?HA11 ?HW11
        case HA11 =>
          go_simp
          exact rfl
        refine any_one (o := { dst := some 25, op := Op.load 48 (Operand.tmp 24), type := 48, pos := "ref.go:159", after := #[{ on := 8, ground := Ground.data }], guard := none }) 9 (by kernel_rfl) rfl (fun K hK => ?_)
        refine step_load (by rfl) 48 (.tmp 24) (by rfl) gb (t * 64) (by rfl) (ULIST .u8 64 (BLK L t)) (UARR .u8 64 (BLK L t)) (UARR_list _ _ _).symm (.array 64 5) hr2 Tryd.underlying48 (by rfl) (block_len _) ?_
        refine hK _ _ ?_
        clear hK K
        refine any_as (a' := ?A12) 4 #[true, true, true, true, true, true, true, true, true, true, false, false, false, false] (by kernel_rfl) (by kernel_rfl) ?HA12 ?HW12
        case HA12 =>
          go_simp
          exact rfl
      rotate_left
      focus
        refine step_load (by rfl) 48 (.tmp 24) (by rfl) gb (t * 64) (by rfl) (ULIST .u8 64 (BLK L t)) (UARR .u8 64 (BLK L t)) (UARR_list _ _ _).symm (.array 64 5) hr2 Tryd.underlying48 (by rfl) (block_len _) ?_
        refine hK _ _ ?_
        clear hK K
        refine any_as (a' := ?A13) 5 #[true, true, true, true, true, false, true, true, true, true, false, false, false, false] (by kernel_rfl) (by kernel_rfl) ?HA13 ?HW13
        case HA13 =>
          go_simp
          exact rfl
        refine any_one (o := { dst := some 21, op := Op.load 35 (Operand.tmp 20), type := 35, pos := "ref.go:159", after := #[{ on := 4, ground := Ground.data }], guard := none }) 5 (by kernel_rfl) rfl (fun K hK => ?_)
        refine step_load (by rfl) 35 (.tmp 20) (by rfl) gl (t * 32) (by rfl) (ULIST .u8 32 (STATE d L t)) (UARR .u8 32 (STATE d L t)) (UARR_list _ _ _).symm (.array 32 5) hr1 Tryd.underlying35 (by rfl) (hash_len _) ?_
        refine hK _ _ ?_
        clear hK K
        refine any_as (a' := ?A14) 4 #[true, true, true, true, true, true, true, true, true, true, false, false, false, false] (by kernel_rfl) (by kernel_rfl) ?HA14 ?HW14
        case HA14 =>
          go_simp
          exact rfl
      all_goals
        refine any_one (o := { dst := some 26, op := Op.call { callee := Callee.value (Operand.func 37), args := #[Operand.tmp 17, Operand.tmp 21, Operand.tmp 25], argTypes := #[3, 35, 48] }, type := 35, pos := "ref.go:159", after := #[{ on := 1, ground := Ground.data }, { on := 5, ground := Ground.data }, { on := 9, ground := Ground.data }], guard := none }) 10 (by kernel_rfl) rfl (fun K hK => ?_)
        rw [if_pos (by rfl)]
        go_simp
        refine (cc _).mono ?_
        rintro e w3 ⟨rfl, hb3⟩
        refine hK _ _ ?_
        clear hK K
        have R3 : Aside (w3.ownsRow w.heap.size 35 32 (.slice (some ⟨gl, 0, none⟩) T cap) T (STS d L t) ∧ Below w.heap.size w w3 ∧ T ≤ 2 ^ 30) := ⟨own_keep (w := wr.drew) R.out.2.2.1 hb3, R.out.2.2.2.1.drew.trans (hb3.mono R.out.2.2.2.1.size), by have := R.out.1; have := R.out.2.2.2.2; omega⟩
        clear hb3
        refine any_one (o := { dst := some 27, op := Op.buildSlice 53 1 #[(0, Operand.tmp 26)], type := 53, pos := "ref.go:159", after := #[{ on := 10, ground := Ground.data }], guard := none }) 11 (by kernel_rfl) rfl (fun K hK => ?_)
        refine step_one w3 (by rfl) 53 35 (.tmp 26) (by rfl) (UARR .u8 32 (COMP d (STATE d L t) (BLK L t))) (by rfl) 32 _ _ Tryd.underlying53 info_hashes (UARR_size _ _ _) (by simp [Value.cells, UARR_size]) (by decide) (by decide) ?_
        refine hK _ _ ?_
        clear hK K
        apply any_as 2 #[true, true, true, true, true, true, true, true, true, true, true, true, false, false] (by kernel_rfl) (by kernel_rfl)
        · go_simp
          exact rfl
        refine any_one (o := { dst := some 28, op := Op.call { callee := Callee.builtin Builtin.append, args := #[Operand.tmp 16, Operand.tmp 27], argTypes := #[53, 53] }, type := 53, pos := "ref.go:159", after := #[{ on := 0, ground := Ground.data }, { on := 11, ground := Ground.data }, { on := 10, ground := Ground.chain }], guard := none }) 12 (by kernel_rfl) rfl (fun K hK => ?_)
        refine step_hash w3 (COMP d (STATE d L t) (BLK L t)) (by rfl) (.tmp 16) (.tmp 27) (by rfl) w.heap.size (.slice (some ⟨gl, 0, none⟩) T cap) T (STS d L t) (by rfl) R3.out.1 (by rfl) R3.out.2.2 R3.out.2.1.size ?_
        intro g9 cap9 w9 hown9 hgrow9
        refine hK _ _ ?_
        clear hK K
        apply any_as 1 #[true, true, true, true, true, true, true, true, true, true, true, true, true, false] (by kernel_rfl) (by kernel_rfl)
        · go_simp
          exact rfl
        refine wpAny_take (i := 13) (v := .slice (some ⟨g9, 0, none⟩) (T + 1) cap9) rfl (by kernel_rfl) (by kernel_rfl) (by kernel_rfl) (fun _ _ _ h => h) (Or.inl ⟨by rfl, fun W => by go_simp⟩) ?_
        refine wpAny_done (by kernel_rfl) ?_ _
        have T2 : Aside (w9.ownsRow w.heap.size 35 32 (.slice (some ⟨g9, 0, none⟩) (T + 1) cap9) (T + 1) (STS d L T) ∧ Below w.heap.size w w9) := by
          obtain ⟨r1, r2, r3, r4, r5⟩ := R.out
          refine ⟨?_, (R3.out.2.1.alloc R3.out.2.1.size _).grown hgrow9 (by have := R3.out.2.1.size; simp; omega) (fun k e => (R3.out.1.lt k e).1)⟩
          have e : STS d L T = STS d L t ++ ULIST .u8 32 (COMP d (STATE d L t) (BLK L t)) := by rw [← r1]; rfl
          rw [e]
          exact hown9
        clear hown9 hgrow9 R3
        go_wp2
        go_roundg q
        case measure => exact Nat.lt_succ_self _
        case rel => exact ⟨T, by first | rfl | (rw [et]), R.out.2.1, T2.out⟩
end Go.Proofs.YtihdhaamphdljaaDoor
