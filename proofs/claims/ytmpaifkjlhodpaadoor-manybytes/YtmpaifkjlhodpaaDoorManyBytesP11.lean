/- Texts of ManyBytes, one behind the other: ManyReader, ManyTake, ManyIndex, ManyPeaks. -/
import Derived.Test.YtmpaifkjlhodpaaDoorManyBytesP7
import Derived.Test.YtmpaifkjlhodpaaDoorManyBytesP10
/- The reader of package many: a number, the mark, the end. -/
namespace Go.Proofs.YtmpaifkjlhodpaaDoor
open Go.RowKit
set_option maxRecDepth 100000

/-- the reader rb has the bytes t left; they lie as they lay in w0. -/
structure RDR (w0 w : World) (rb : Nat) (t : List Int) : Prop where
  rd : ∃ a c, Has w rb #[.slice a t.length c] 68 ∧ SRC w0 a c t
  bel : Below w0.heap.size w0 w
  lb : w0.heap.size ≤ rb
/-- but for the block rb, what was there is as it was. -/
structure STAY (w w' : World) (rb : Nat) : Prop where
  kp : ∀ k, k < w.heap.size → k ≠ rb → w'.heap[k]? = w.heap[k]?
  bl : Below rb w w'
theorem STAY.refl (w : World) (rb : Nat) : STAY w w rb := ⟨fun _ _ _ => rfl, Below.refl _ _⟩
theorem STAY.trans {w w' w'' : World} {rb : Nat} (h : STAY w w' rb) (h' : STAY w' w'' rb) : STAY w w'' rb := ⟨fun k hk hne => (h'.kp k (Nat.lt_of_lt_of_le hk h.bl.size) hne).trans (h.kp k hk hne), h.bl.trans h'.bl⟩
theorem STAY.set (w : World) (rb i : Nat) (v : Value) : STAY w (w.setCell ⟨rb, i, none⟩ v) rb := ⟨fun k _ hne => Below.heap_setCell w ⟨rb, i, none⟩ v k hne, (Below.refl _ _).setCell (p := ⟨rb, i, none⟩) (Nat.le_refl _) _⟩
theorem STAY.of {w w' : World} {rb : Nat} (h : Below w.heap.size w w') (hr : rb ≤ w.heap.size) : STAY w w' rb := ⟨fun k hk _ => h.block k hk, h.mono hr⟩
theorem STAY.has {w w' : World} {rb g : Nat} {c : Array Value} {t : TypeId} (h : STAY w w' rb) (hg : Has w g c t) (hne : g ≠ rb) : Has w' g c t := (h.kp g hg.lt hne).trans hg
theorem RDR.lt {w0 w : World} {rb : Nat} {t : List Int} (h : RDR w0 w rb t) : rb < w.heap.size := by
  obtain ⟨_, _, h1, _⟩ := h.rd
  exact h1.lt
theorem RDR.keep {w0 w w' : World} {rb : Nat} {t : List Int} (h : RDR w0 w rb t) (hb : Below w.heap.size w w') : RDR w0 w' rb t := by
  obtain ⟨a, c, h1, h2⟩ := h.rd
  exact ⟨⟨a, c, h1.keep hb, h2⟩, h.bel.trans (hb.mono h.bel.size), h.lb⟩
/-- another block is written to. -/
theorem RDR.other {w0 w w' : World} {rb pb : Nat} {t : List Int} (h : RDR w0 w rb t) (hs : STAY w w' pb) (hne : rb ≠ pb) (hp : w0.heap.size ≤ pb) : RDR w0 w' rb t := by
  obtain ⟨a, c, h1, h2⟩ := h.rd
  exact ⟨⟨a, c, hs.has h1 hne, h2⟩, h.bel.trans (hs.bl.mono hp), h.lb⟩
theorem RDR.moved {w0 w : World} {rb b off c k : Nat} {t : List Int} (h : RDR w0 w rb t) (hh : Has w rb #[.slice (some ⟨b, off, none⟩) t.length c] 68) (hs : SRC w0 (some ⟨b, off, none⟩) c t) (hk : k ≤ t.length) : RDR w0 (w.setCell ⟨rb, 0, none⟩ (.slice (REST b off c k) (t.length - k) (c - k))) rb (t.drop k) := by
  refine ⟨⟨_, _, ?_, hs.drop k hk⟩, h.bel.setCell (p := ⟨rb, 0, none⟩) h.lb _, h.lb⟩
  rw [List.length_drop]
  exact hh.set 0 _
theorem mnumber_err (rb : Nat) (r1 r2 r3 : Int) (v : Value) (w : World) (hr : ¬ r3 = 0) (h0 : w.cell? ⟨rb, 0, none⟩ = some v)
    (c : Calls Tryd.prog 72 #[v] w fun e w' => e = .returned (.tuple #[.int .u64 r1, .int .i64 r2, .int .i64 r3]) ∧ w = w') :
    Calls Tryd.prog 63 #[.pointer (some ⟨rb, 0, none⟩)] w fun e w' => e = .panicked (WRONG r3) ∧ w = w' := by
  have hr' : (r3 != 0) = true := by simp [hr]
  go_enter Tryd.func63, Tryd.ntmps63
  go_wp2_with fail
  refine c.mono ?_
  rintro e w' ⟨rfl, rfl⟩
  clear c
  go_wp2_with fail
  exact ⟨rfl, rfl, rfl⟩
set_option maxHeartbeats 1000000 in
theorem mnumber_raw (rb : Nat) (r1 : Int) (b off n c m : Nat) (hm : m ≤ n) (hcap : n ≤ c) (w : World) (h0 : w.cell? ⟨rb, 0, none⟩ = some (.slice (some ⟨b, off, none⟩) n c)) (z0 : w.frozen? ⟨rb, 0, none⟩ = false)
    (cl : Calls Tryd.prog 72 #[.slice (some ⟨b, off, none⟩) n c] w fun e w' => e = .returned (.tuple #[.int .u64 r1, .int .i64 (m : Int), .int .i64 0]) ∧ w = w') :
    Calls Tryd.prog 63 #[.pointer (some ⟨rb, 0, none⟩)] w fun e w' => e = .returned (.int .u64 r1) ∧ w' = w.setCell ⟨rb, 0, none⟩ (.slice (REST b off c m) (n - m) (c - m)) := by
  have k1 : (m : Int) ≤ (n : Int) := by omega
  have k2 : (n : Int) ≤ (c : Int) := by omega
  have k4 : (m : Int) ≤ (c : Int) := by omega
  obtain ⟨a', ha'⟩ : ∃ a', REST b off c m = a' := ⟨_, rfl⟩
  rw [ha']
  by_cases h1 : c = m
  · have HA : Aside (some ⟨b, off, none⟩ = a') := by rw [← ha']; simp [REST, h1, Aside]
    have hn : n = m := by omega
    subst h1 hn
    clear ha'
    go_enter Tryd.func63, Tryd.ntmps63
    go_wp2_with fail
    refine cl.mono ?_
    rintro e w' ⟨rfl, rfl⟩
    clear cl
    go_wp2_with fail
    go_ret
    rw [← HA.out]
    exact ⟨rfl, by simp⟩
  · have HA : Aside (some ⟨b, off + m, none⟩ = a') := by rw [← ha']; simp [REST, h1, Aside]
    have hc1 : ¬ c - m = 0 := by omega
    clear ha'
    go_enter Tryd.func63, Tryd.ntmps63
    go_wp2_with fail
    refine cl.mono ?_
    rintro e w' ⟨rfl, rfl⟩
    clear cl
    go_wp2_with fail
    go_ret
    rw [← HA.out]
    exact ⟨rfl, rfl⟩
theorem mnumber_bad {w0 w : World} {rb : Nat} {t : List Int} (R : RDR w0 w rb t) (hl : (LNG t).2.2 ≠ 0) : Calls Tryd.prog 63 #[.pointer (some ⟨rb, 0, none⟩)] w fun e w' => e = .panicked (WRONG (LNG t).2.2) ∧ w = w' := by
  obtain ⟨a, c, h1, h2⟩ := R.rd
  exact mnumber_err rb _ _ _ _ w hl (h1.cell 0) (long_ok a t.length c t w (h2.1.below R.bel) h2.2.1 (by have := h2.2.2; omega))
theorem mnumber_ok {w0 w : World} {rb : Nat} {t : List Int} (R : RDR w0 w rb t) (hl : (LNG t).2.2 = 0) :
    ∃ Z m : Nat, Z < 2 ^ 64 ∧ 1 ≤ m ∧ m ≤ t.length ∧ LNG t = ((Z : Int), (m : Int), 0) ∧ Calls Tryd.prog 63 #[.pointer (some ⟨rb, 0, none⟩)] w fun e w' => e = .returned (.int .u64 (Z : Int)) ∧ RDR w0 w' rb (t.drop m) ∧ STAY w w' rb := by
  obtain ⟨a, c, h1, h2⟩ := R.rd
  obtain ⟨Z, m, q1, q2, q3, q4, q5⟩ := LNG_back h2.1.2.2 hl
  obtain ⟨b, off, rfl, hb, hcs⟩ := h2.addr (by omega)
  have cl := long_ok (some ⟨b, off, none⟩) t.length c t w (h2.1.below R.bel) h2.2.1 (by have := h2.2.2; omega)
  rw [show LG t t.length 10 0 0 = LNG t from rfl, q4] at cl
  refine ⟨Z, m, q1, q2, q3, q4, (mnumber_raw rb (Z : Int) b off t.length c m q3 h2.2.1 w (h1.cell 0) (h1.frozen 0) cl).mono ?_⟩
  rintro e w' ⟨rfl, rfl⟩
  exact ⟨rfl, R.moved h1 h2 q3, STAY.set _ _ _ _⟩
/-! the mark -/
theorem mkind_none {w0 w : World} {rb : Nat} (R : RDR w0 w rb []) : Calls Tryd.prog 51 #[.pointer (some ⟨rb, 0, none⟩)] w fun e w' => e = .panicked (WRONG 11) ∧ w = w' := by
  obtain ⟨a, c, h1, h2⟩ := R.rd
  have x0 : w.cell? ⟨rb, 0, none⟩ = some (.slice a 0 c) := h1.cell 0
  clear R h1 h2
  go_enter Tryd.func51, Tryd.ntmps51
  go_wp2_with fail
  exact ⟨rfl, rfl, rfl⟩
theorem mkind_other {w0 w : World} {rb : Nat} {x : Int} {l : List Int} (R : RDR w0 w rb (x :: l)) (hx : ¬ x = 78) : Calls Tryd.prog 51 #[.pointer (some ⟨rb, 0, none⟩)] w fun e w' => e = .panicked (WRONG 14) ∧ w = w' := by
  obtain ⟨a, c, h1, h2⟩ := R.rd
  obtain ⟨b, off, rfl, hb, hcs⟩ := h2.addr (by simp)
  obtain ⟨n, hn⟩ : ∃ n, (x :: l).length = n := ⟨_, rfl⟩
  rw [hn] at h1
  have x0 : w.cell? ⟨rb, 0, none⟩ = some (.slice (some ⟨b, off, none⟩) n c) := h1.cell 0
  have x1 : w.cell? ⟨b, off, none⟩ = some (.int .u8 x) := (R.bel.cell (p := ⟨b, off, none⟩) hb).trans (by have := hcs 0 (by simp); simpa using this)
  have hn1 : (0 : Int) < (n : Int) := by simp at hn; omega
  have hn2 : 0 < n := by omega
  have hn3 : ¬ (n : Int) = 0 := by omega
  clear R h1 h2 hcs hn hb
  go_enter Tryd.func51, Tryd.ntmps51
  go_wp2_with fail
  exact ⟨rfl, rfl, rfl⟩
set_option maxHeartbeats 1000000 in
theorem mkind_raw (rb b off n c : Nat) (hcap : n + 1 ≤ c) (w : World) (h0 : w.cell? ⟨rb, 0, none⟩ = some (.slice (some ⟨b, off, none⟩) (n + 1) c)) (hf : w.frozen? ⟨rb, 0, none⟩ = false) (hc : w.cell? ⟨b, off, none⟩ = some (.int .u8 78)) :
    Calls Tryd.prog 51 #[.pointer (some ⟨rb, 0, none⟩)] w fun e w' => e = .returned (.tuple #[]) ∧ w' = w.setCell ⟨rb, 0, none⟩ (.slice (REST b off c 1) n (c - 1)) := by
  have hn1 : (0 : Int) < (n : Int) + 1 := by omega
  have hn2 : ¬ (n : Int) + 1 = 0 := by omega
  have hcap' : (n : Int) + 1 ≤ (c : Int) := by omega
  obtain ⟨a', ha'⟩ : ∃ a', REST b off c 1 = a' := ⟨_, rfl⟩
  rw [ha']
  by_cases h1 : c = 1
  · have HA : Aside (some ⟨b, off, none⟩ = a') := by rw [← ha']; simp [REST, h1, Aside]
    have hn0 : n = 0 := by omega
    subst h1 hn0
    clear ha' hcap
    go_enter Tryd.func51, Tryd.ntmps51
    go_wp2_with fail
    refine bodyPost_end (v := .tuple #[]) (by simp [results, Tryd.f51]) rfl ?_
    rw [← HA.out]
    exact ⟨rfl, rfl⟩
  · have HA : Aside (some ⟨b, off + 1, none⟩ = a') := by rw [← ha']; simp [REST, h1, Aside]
    have hc1 : ¬ c - 1 = 0 := by omega
    clear ha' hcap
    go_enter Tryd.func51, Tryd.ntmps51
    go_wp2_with fail
    refine bodyPost_end (v := .tuple #[]) (by simp [results, Tryd.f51]) rfl ?_
    rw [← HA.out]
    exact ⟨rfl, rfl⟩
theorem mkind_yes {w0 w : World} {rb : Nat} {l : List Int} (R : RDR w0 w rb (78 :: l)) : Calls Tryd.prog 51 #[.pointer (some ⟨rb, 0, none⟩)] w fun e w' => e = .returned (.tuple #[]) ∧ RDR w0 w' rb l ∧ STAY w w' rb := by
  obtain ⟨a, c, h1, h2⟩ := R.rd
  obtain ⟨b, off, rfl, hb, hcs⟩ := h2.addr (by simp)
  refine (mkind_raw rb b off l.length c (by have := h2.2.1; simpa using this) w (h1.cell 0) (h1.frozen 0) ((R.bel.cell (p := ⟨b, off, none⟩) hb).trans (by have := hcs 0 (by simp); simpa using this))).mono ?_
  rintro e w' ⟨rfl, rfl⟩
  have := R.moved h1 h2 (k := 1) (by simp)
  exact ⟨rfl, by simpa using this, STAY.set _ _ _ _⟩
/-! the size, the end -/
theorem msize_bad {w0 w : World} {rb : Nat} {t : List Int} (R : RDR w0 w rb t) (hl : (LNG t).2.2 ≠ 0) : Calls Tryd.prog 52 #[.pointer (some ⟨rb, 0, none⟩)] w fun e w' => e = .panicked (WRONG (LNG t).2.2) ∧ w = w' := by
  have cn := mnumber_bad R hl
  clear R
  go_enter Tryd.func52, Tryd.ntmps52
  go_wp2_with fail
  refine cn.mono ?_
  rintro e w' ⟨rfl, rfl⟩
  exact ⟨rfl, rfl, rfl⟩
theorem msize_far (rb : Nat) (Z : Int) (w : World) (D : World → Prop) (hZ : 4611686018427387904 < Z) (cn : Calls Tryd.prog 63 #[.pointer (some ⟨rb, 0, none⟩)] w fun e w' => e = .returned (.int .u64 Z) ∧ D w') : Calls Tryd.prog 52 #[.pointer (some ⟨rb, 0, none⟩)] w fun e w' => e = .panicked (WRONG 30) ∧ D w' := by
  go_enter Tryd.func52, Tryd.ntmps52
  go_wp2_with fail
  refine cn.mono ?_
  rintro e w' ⟨rfl, h⟩
  have FN : Aside (D w') := h
  clear cn h
  go_wp2_with fail
  exact ⟨rfl, rfl, FN.out⟩
theorem msize_near (rb : Nat) (Z : Int) (w : World) (D : World → Prop) (hZ : ¬ 4611686018427387904 < Z) (cn : Calls Tryd.prog 63 #[.pointer (some ⟨rb, 0, none⟩)] w fun e w' => e = .returned (.int .u64 Z) ∧ D w') : Calls Tryd.prog 52 #[.pointer (some ⟨rb, 0, none⟩)] w fun e w' => e = .returned (.int .u64 Z) ∧ D w' := by
  go_enter Tryd.func52, Tryd.ntmps52
  go_wp2_with fail
  refine cn.mono ?_
  rintro e w' ⟨rfl, h⟩
  have FN : Aside (D w') := h
  clear cn h
  go_wp2_with fail
  go_ret
  exact ⟨rfl, FN.out⟩
theorem mend_ok {w0 w : World} {rb : Nat} {t : List Int} (R : RDR w0 w rb t) : Calls Tryd.prog 56 #[.pointer (some ⟨rb, 0, none⟩)] w fun e w' => ((t = [] ∧ e = .returned (.tuple #[])) ∨ (t ≠ [] ∧ e = .panicked (WRONG 13))) ∧ w = w' := by
  obtain ⟨a, c, h1, h2⟩ := R.rd
  cases t with
  | nil =>
    have x0 : w.cell? ⟨rb, 0, none⟩ = some (.slice a 0 c) := h1.cell 0
    clear R h1 h2
    go_enter Tryd.func56, Tryd.ntmps56
    go_wp2_with fail
    exact bodyPost_end (v := .tuple #[]) (by simp [results, Tryd.f56]) rfl ⟨.inl ⟨(by first | trivial | rfl), rfl⟩, rfl⟩
  | cons x l =>
    obtain ⟨n, hn⟩ : ∃ n, (x :: l).length = n := ⟨_, rfl⟩
    rw [hn] at h1
    have x0 : w.cell? ⟨rb, 0, none⟩ = some (.slice a n c) := h1.cell 0
    have hn1 : (0 : Int) < (n : Int) := by simp at hn; omega
    have hn2 : 0 < n := by omega
    clear R h1 h2 hn
    go_enter Tryd.func56, Tryd.ntmps56
    go_wp2_with fail
    exact ⟨rfl, .inr ⟨by simp, rfl⟩, rfl⟩
end Go.Proofs.YtmpaifkjlhodpaaDoor

/- The places that are told are put behind one another: the closure of Places of package many. -/
namespace Go.Proofs.YtmpaifkjlhodpaaDoor
open Go.RowKit
set_option maxRecDepth 100000

/-- a number is appended. -/
theorem app_num {ops : Array Oper} {rest : List Oper} {o : Oper} {a : Act} {Q : Exit → Act → World → Prop} (w : World) (hgd : o.guard = none) (s x : Operand)
    (ho : o.op = .call { callee := .builtin .append, args := #[s, x], argTypes := #[22, 22] })
    (base : Nat) (v : Value) (n : Nat) (xs : List Nat) (hs : a.eval s = v) (hown : w.ownsRow base 23 1 v n (UCELLS xs))
    (b c : Nat) (y : Nat) (hx : a.eval x = .slice (some ⟨b, 0, none⟩) 1 c) (hc : w.cell? ⟨b, 0, none⟩ = some (.int .u64 (y : Int)))
    (hb : n ≤ 2 ^ 30) (hbase : base ≤ w.heap.size)
    (h : ∀ g cap w', w'.ownsRow base 23 1 (.slice (some ⟨g, 0, none⟩) (n + 1) cap) (n + 1) (UCELLS (xs ++ [y])) → w.grownBy w' v.ownBlock → g < w'.heap.size → wpList Tryd.prog ops Q rest (a.put o.dst (.slice (some ⟨g, 0, none⟩) (n + 1) cap)) w') : wpList Tryd.prog ops Q (o :: rest) a w := by
  obtain ⟨i, hi, hz, hs1, hby⟩ := info_parts info_u64
  refine wpList_append_lies w hgd s x 22 ho base 23 i (.int .u64 0) 1 8 Tryd.underlying22 hi hz hs1 hby rfl (by decide) v n (UCELLS xs) hs hown ⟨b, 0, none⟩ 1 c [.int .u64 (y : Int)] hx rfl ?_ (fun u hu => by simp at hu; subst hu; rfl) (by decide) (by simp only [maxLen]; omega) (by omega) hbase w.heap.size rfl ?_
  · intro j u hj
    cases j with
    | zero =>
      simp only [List.getElem?_cons_zero, Option.some.injEq] at hj
      subst hj
      exact hc
    | succ j => simp at hj
  · intro g cap w' h1 h2 _ h4
    rw [← UCELLS_snoc] at h1
    exact h g cap w' h1 h2 h4
/-- the list that lies in bp has been told acc since w0. -/
structure TAKING (w0 w : World) (bp : Nat) (acc : List Nat) : Prop where
  row : ∃ v, Has w bp #[v] 22 ∧ w.ownsRow w0.heap.size 23 1 v acc.length (UCELLS acc)
  keep : ∀ b, b < w0.heap.size → b ≠ bp → w.heap[b]? = w0.heap[b]?
  lt : bp < w0.heap.size
  below : Below bp w0 w
theorem own_sliced {w : World} {B s n : Nat} {t : TypeId} {v : Value} {xs : List Value} (h : w.ownsRow B t s v n xs) : ∃ a c, v = .slice a n c := by
  rcases h.2 with ⟨e, h0⟩ | ⟨g, cap, cur, e, _⟩
  · exact ⟨none, 0, by rw [e, h0]⟩
  · exact ⟨_, _, e⟩
set_option maxHeartbeats 1000000 in
theorem mtake_ok {w0 w : World} {bp : Nat} {acc : List Nat} (hK : TAKING w0 w bp acc) (p : Nat) (hn : acc.length ≤ 2 ^ 30) : Calls Tryd.prog 30 #[.int .u64 (p : Int), .pointer (some ⟨bp, 0, none⟩)] w fun e w' => e = .returned (.tuple #[]) ∧ TAKING w0 w' bp (acc ++ [p]) := by
  obtain ⟨v, hv, hown⟩ := hK.row
  obtain ⟨a, c, rfl⟩ := own_sliced hown
  have c0 : w.cell? ⟨bp, 0, none⟩ = some (.slice a acc.length c) := hv.cell 0
  have HA : Aside (TAKING w0 w bp acc ∧ acc.length ≤ 2 ^ 30 ∧ Has w bp #[.slice a acc.length c] 22 ∧ w.ownsRow w0.heap.size 23 1 (.slice a acc.length c) acc.length (UCELLS acc)) := ⟨hK, hn, hv, hown⟩
  clear hK hn hv hown
  obtain ⟨n, hn⟩ : ∃ n, acc.length = n := ⟨_, rfl⟩
  rw [hn] at HA c0
  have HN : Aside (acc.length = n) := hn
  clear hn
  go_enter Tryd.func30, Tryd.ntmps30
  go_wp2_with (first
    | (at_builtin; refine app_num _ rfl (.tmp 3) (.tmp 5) rfl w0.heap.size (.slice a n c) n acc rfl (HA.out.2.2.2.alloc _) w.heap.size 1 p rfl ((Has.new _ _ _).cell 0) HA.out.2.1 (by have := HA.out.1.below.size; simp; omega) ?_; intro g1 c1 w1 hown1 hgrow1 hg1
       have hbp : Has w1 bp #[.slice a n c] 22 := by
         refine (hgrow1.block bp (by have := HA.out.2.2.1.lt; simp; omega) (fun e => ?_)).trans (HA.out.2.2.1.alloc _)
         have := (HA.out.2.2.2.lt bp e.symm).1
         have := HA.out.1.lt
         omega
       have x0 := hbp.cell 0
       have x1 := hbp.frozen 0
       have FN : Aside (TAKING w0 (w1.setCell ⟨bp, 0, none⟩ (.slice (some ⟨g1, 0, none⟩) (n + 1) c1)) bp (acc ++ [p])) := by
         have hlt := HA.out.1.lt
         have hsz := HA.out.1.below.size
         refine ⟨⟨.slice (some ⟨g1, 0, none⟩) (n + 1) c1, hbp.set 0 _, ?_⟩, fun b hb hne => ?_, hlt, ?_⟩
         · rw [List.length_append, HN.out]
           exact ownsRow_setCell_below hown1 (a := ⟨bp, 0, none⟩) hlt _
         · rw [Below.heap_setCell _ _ _ _ (by exact hne), hgrow1.block b (by simp; omega) (fun e => by have := (HA.out.2.2.2.lt b e.symm).1; omega), Below.heap_alloc _ _ _ (by omega)]
           exact HA.out.1.keep b hb hne
         · refine ((HA.out.1.below.alloc (by omega) _).grown hgrow1 (by simp; omega) (fun k e => ?_)).setCell (Nat.le_refl _) _
           have := (HA.out.2.2.2.lt k e).1
           omega
       clear hown1 hgrow1 hg1 hbp c0))
  exact bodyPost_end (v := .tuple #[]) (by simp [results, Tryd.f30]) rfl ⟨rfl, FN.out⟩
end Go.Proofs.YtmpaifkjlhodpaaDoor

/- index of the reader of package many: so many indices, each as what is between it and the one ahead. -/
namespace Go.Proofs.YtmpaifkjlhodpaaDoor
open Go.RowKit
set_option maxRecDepth 100000

/-- so many indices of n leaves are read, the next one at least k: what is wrong, them, what is left. -/
def IDX (n : Nat) : Nat → Nat → List Int → Int × List Nat × List Int
  | 0, _, t => (0, [], t)
  | c + 1, k, t => if (LNG t).2.2 ≠ 0 then ((LNG t).2.2, [], []) else if n - k ≤ (LNG t).1.toNat then (32, [], []) else
    ((IDX n c (k + (LNG t).1.toNat + 1) (t.drop (LNG t).2.1.toNat)).1, (k + (LNG t).1.toNat) :: (IDX n c (k + (LNG t).1.toNat + 1) (t.drop (LNG t).2.1.toNat)).2.1, (IDX n c (k + (LNG t).1.toNat + 1) (t.drop (LNG t).2.1.toNat)).2.2)
theorem IDX_bad {n c k : Nat} {t : List Int} (h : (LNG t).2.2 ≠ 0) : IDX n (c + 1) k t = ((LNG t).2.2, [], []) := by rw [IDX, if_pos h]
theorem IDX_far {n c k Z m : Nat} {t : List Int} (h : LNG t = ((Z : Int), (m : Int), 0)) (hz : n - k ≤ Z) : IDX n (c + 1) k t = (32, [], []) := by
  rw [IDX, h]
  simp [hz]
theorem IDX_next {n c k Z m : Nat} {t : List Int} (h : LNG t = ((Z : Int), (m : Int), 0)) (hz : ¬ n - k ≤ Z) : IDX n (c + 1) k t = ((IDX n c (k + Z + 1) (t.drop m)).1, (k + Z) :: (IDX n c (k + Z + 1) (t.drop m)).2.1, (IDX n c (k + Z + 1) (t.drop m)).2.2) := by
  rw [IDX, h]
  simp [hz]
/-- the number of indices, and they. -/
def IDXS (n : Nat) (t : List Int) : Int × List Nat × List Int := if (LNG t).2.2 ≠ 0 then ((LNG t).2.2, [], []) else IDX n (LNG t).1.toNat 0 (t.drop (LNG t).2.1.toNat)
/-- what index does. -/
def IDXD (w0 w : World) (rb : Nat) (A : Int × List Nat × List Int) (e : Ending) (w' : World) : Prop :=
  (A.1 = 0 ∧ ∃ a c, e = .returned (.slice a A.2.1.length c) ∧ w'.ownsRow w.heap.size 23 1 (.slice a A.2.1.length c) A.2.1.length (UCELLS A.2.1) ∧ RDR w0 w' rb A.2.2 ∧ STAY w w' rb) ∨ (A.1 ≠ 0 ∧ e = .panicked (WRONG A.1) ∧ STAY w w' rb)
theorem gap_u64 {n k : Nat} (hk : k ≤ n) (hn : n ≤ 4611686018427387904) : IntKind.u64.wrap ((n : Int) - (k : Int)) = ((n - k : Nat) : Int) := by rw [wrapU]; omega
theorem sum_u64 {k Z : Nat} (h : k + Z < 2 ^ 63) : IntKind.u64.wrap ((k : Int) + (Z : Int)) = ((k + Z : Nat) : Int) := by rw [wrapU]; omega
theorem sum1_u64 {Z : Nat} (h : Z < 2 ^ 63) : IntKind.u64.wrap ((Z : Int) + 1) = ((Z + 1 : Nat) : Int) := by rw [wrapU]; omega
theorem inc_u64 {j c : Nat} (h : j < c) (hc : c < 2 ^ 64) : IntKind.u64.wrap ((j : Int) + 1) = ((j + 1 : Nat) : Int) := by rw [wrapU]; omega
set_option maxHeartbeats 4000000 in
theorem mindex_ok {w0 w : World} {rb : Nat} {t : List Int} (n : Nat) (hn : n ≤ 4611686018427387904) (R : RDR w0 w rb t) : Calls Tryd.prog 53 #[.pointer (some ⟨rb, 0, none⟩), .int .u64 (n : Int)] w (IDXD w0 w rb (IDXS n t)) := by
  by_cases hl : (LNG t).2.2 = 0
  · obtain ⟨C, m, q1, q2, q3, q4, cn⟩ := mnumber_ok R hl
    have eI : IDXS n t = IDX n C 0 (t.drop m) := by unfold IDXS; rw [q4]; simp
    obtain ⟨T, hT⟩ : ∃ T, T = t.drop m := ⟨_, rfl⟩
    obtain ⟨A, hA⟩ : ∃ A, A = IDXS n t := ⟨_, rfl⟩
    have hTl : T.length ≤ 1000000 := by
      obtain ⟨_, _, _, h2⟩ := R.rd
      have := h2.2.2
      rw [hT, List.length_drop]
      omega
    rw [← hT] at eI cn
    rw [← hA] at eI ⊢
    have HA : Aside (A = IDX n C 0 T ∧ n ≤ 4611686018427387904 ∧ C < 2 ^ 64 ∧ T.length ≤ 1000000 ∧ rb < w.heap.size) := ⟨eI, hn, q1, hTl, R.lt⟩
    clear eI hn q1 q2 q3 q4 hA hT hl R hTl
    go_enter Tryd.func53, Tryd.ntmps53
    go_wp2_with fail
    refine cn.mono ?_
    rintro e w1 ⟨rfl, R1, S1⟩
    have W1 : Aside (RDR w0 w1 rb T ∧ STAY w w1 rb) := ⟨R1, S1⟩
    clear cn R1 S1
    go_wp2_with fail
    go_loopg [5, 6, 10] C (fun q s5 s6 s10 wx => ∃ (j k : Nat) (v : Value) (acc : List Nat) (u : List Int), v = s5 ∧ s6 = .int .u64 (k : Int) ∧ s10 = .int .u64 (j : Int) ∧ Aside (j + q = C ∧ k ≤ n ∧ acc.length + u.length ≤ T.length ∧ wx.ownsRow w.heap.size 23 1 v acc.length (UCELLS acc) ∧ RDR w0 wx rb u ∧ STAY w wx rb ∧ A = ((IDX n q k u).1, (if (IDX n q k u).1 = 0 then acc ++ (IDX n q k u).2.1 else A.2.1), (if (IDX n q k u).1 = 0 then (IDX n q k u).2.2 else A.2.2))))
    case atStart =>
      refine ⟨0, 0, _, [], T, rfl, rfl, rfl, by omega, Nat.zero_le _, by simp, ⟨rfl, .inl ⟨rfl, rfl⟩⟩, W1.out.1, W1.out.2, ?_⟩
      rw [HA.out.1]
      split
      · rfl
      · rfl
    case round =>
      obtain ⟨j, k, v, acc, u, rfl, rfl, rfl, B⟩ := hrel
      clear W1
      obtain ⟨av, cv, rfl⟩ := own_sliced B.out.2.2.2.1
      cases gk with
      | zero =>
        obtain rfl : j = C := by have := B.out.1; omega
        have hlt : ¬ (j : Int) < (j : Int) := by omega
        have FN : Aside (IDXD w0 w rb A (.returned (.slice av acc.length cv)) wr) := by
          obtain ⟨_, _, _, h4, h5, h6, h7⟩ := B.out
          have e : A = (0, acc, u) := by rw [h7]; simp [IDX]
          rw [e]
          exact .inl ⟨rfl, av, cv, rfl, h4, h5, h6⟩
        clear B HA
        go_wp2_with fail
        go_ret
        exact FN.out
      | succ q =>
        have hlt : (j : Int) < (C : Int) := by have := B.out.1; omega
        by_cases hl2 : (LNG u).2.2 = 0
        · obtain ⟨Z, m2, p1, p2, p3, p4, cn⟩ := mnumber_ok B.out.2.2.2.2.1 hl2
          have eg := gap_u64 B.out.2.1 HA.out.2.1
          by_cases hz : n - k ≤ Z
          · have hz' : ((n - k : Nat) : Int) ≤ (Z : Int) := by omega
            have FN : Aside (A.1 = 32 ∧ STAY w wr rb ∧ rb < w.heap.size) := by
              obtain ⟨_, _, _, h4, h5, h6, h7⟩ := B.out
              rw [IDX_far p4 hz] at h7
              exact ⟨by rw [h7], h6, HA.out.2.2.2.2⟩
            clear B HA p1 p2 p3 p4 hl2
            generalize n - k = nk at *
            go_wp2_with fail
            refine cn.mono ?_
            rintro e w2 ⟨rfl, R2, S2⟩
            have FN2 : Aside (A.1 = 32 ∧ STAY w w2 rb) := ⟨FN.out.1, FN.out.2.1.trans S2⟩
            clear cn R2 S2 FN
            go_wp2_with fail
            exact ⟨rfl, .inr ⟨by rw [FN2.out.1]; decide, by rw [FN2.out.1]; rfl, FN2.out.2⟩⟩
          · have hz' : ¬ ((n - k : Nat) : Int) ≤ (Z : Int) := by omega
            have es := sum_u64 (k := k) (Z := Z) (by have := HA.out.2.1; omega)
            have e1 := sum1_u64 (Z := Z) (by have := HA.out.2.1; omega)
            have e2 := sum_u64 (k := k) (Z := Z + 1) (by have := HA.out.2.1; omega)
            have ej := inc_u64 (j := j) (c := C) (by have := B.out.1; omega) HA.out.2.2.1
            have NX : Aside (j + 1 + q = C ∧ k + (Z + 1) ≤ n ∧ (acc ++ [k + Z]).length + (u.drop m2).length ≤ T.length ∧ wr.ownsRow w.heap.size 23 1 (.slice av acc.length cv) acc.length (UCELLS acc) ∧ STAY w wr rb ∧ A = ((IDX n q (k + (Z + 1)) (u.drop m2)).1, (if (IDX n q (k + (Z + 1)) (u.drop m2)).1 = 0 then (acc ++ [k + Z]) ++ (IDX n q (k + (Z + 1)) (u.drop m2)).2.1 else A.2.1), (if (IDX n q (k + (Z + 1)) (u.drop m2)).1 = 0 then (IDX n q (k + (Z + 1)) (u.drop m2)).2.2 else A.2.2)) ∧ acc.length ≤ 2 ^ 30 ∧ rb < w.heap.size) := by
              obtain ⟨h1, h2, h3, h4, h5, h6, h7⟩ := B.out
              have h8 := HA.out.2.2.2.1
              refine ⟨by omega, by omega, by rw [List.length_append, List.length_drop]; simp; omega, h4, h6, ?_, by omega, HA.out.2.2.2.2⟩
              rw [IDX_next p4 hz] at h7
              rw [show k + (Z + 1) = k + Z + 1 by omega]
              generalize IDX n q (k + Z + 1) (u.drop m2) = I at h7
              rw [List.append_assoc]
              exact h7
            clear B HA p1 p2 p3 p4 hl2 hz
            generalize n - k = nk at *
            generalize k + (Z + 1) = k2 at *
            generalize k + Z = kz at *
            generalize Z + 1 = Z1 at *
            generalize u.drop m2 = u2 at *
            go_wp2_with fail
            refine cn.mono ?_
            rintro e w2 ⟨rfl, R2, S2⟩
            have W2 : Aside (RDR w0 w2 rb u2 ∧ STAY wr w2 rb ∧ w2.ownsRow w.heap.size 23 1 (.slice av acc.length cv) acc.length (UCELLS acc) ∧ w.heap.size ≤ w2.heap.size) := ⟨R2, S2, by
              have h4 := NX.out.2.2.2.1
              refine ⟨h4.1, h4.2.imp id ?_⟩
              rintro ⟨g, cp, cur, e, hb, hg, r⟩
              refine ⟨g, cp, cur, e, hb, ?_, r⟩
              rw [S2.kp g (Array.getElem?_eq_some_iff.1 hg).1 (by have := NX.out.2.2.2.2.2.2.2; omega)]
              exact hg, Nat.le_trans NX.out.2.2.2.2.1.bl.size S2.bl.size⟩
            clear cn R2 S2
            go_wp2_with (first
              | (at_builtin; refine app_num _ rfl (.tmp 20) (.tmp 24) rfl w.heap.size (.slice av acc.length cv) acc.length acc rfl (W2.out.2.2.1.alloc _) w2.heap.size 1 kz rfl ((Has.new _ _ _).cell 0) NX.out.2.2.2.2.2.2.1 (by have := W2.out.2.2.2; simp; omega) ?_; intro g3 c3 w3 hown hgrow hg
                 have W3 : Aside (w3.ownsRow w.heap.size 23 1 (.slice (some ⟨g3, 0, none⟩) (acc.length + 1) c3) (acc ++ [kz]).length (UCELLS (acc ++ [kz])) ∧ RDR w0 w3 rb u2 ∧ STAY w w3 rb) := by
                   obtain ⟨r1, r2, r3, r4⟩ := W2.out
                   have hrb := NX.out.2.2.2.2.2.2.2
                   have b23 : Below w.heap.size w2 w3 := ((Below.refl _ w2).alloc r4 _).grown hgrow (by simp; omega) (fun k e => (r3.lt k e).1)
                   have s2 : STAY w w2 rb := NX.out.2.2.2.2.1.trans r2
                   refine ⟨by rw [List.length_append]; exact hown, ?_, fun k hk hne => (b23.block k hk).trans (s2.kp k hk hne), s2.bl.trans (b23.mono (by omega))⟩
                   obtain ⟨ar, cr, h1, h2⟩ := r1.rd
                   exact ⟨⟨ar, cr, h1.below b23 hrb, h2⟩, r1.bel.trans (b23.mono (by have := r1.lb; omega)), r1.lb⟩
                 clear hown hgrow hg W2))
            go_roundg q
            case measure => exact Nat.lt_succ_self _
            case rel => exact ⟨j + 1, k2, _, acc ++ [kz], u2, rfl, by first | rfl | exact congrArg (Value.int IntKind.u64) e2, by first | rfl | exact congrArg (Value.int IntKind.u64) ej, NX.out.1, NX.out.2.1, NX.out.2.2.1, W3.out.1, W3.out.2.1, W3.out.2.2, NX.out.2.2.2.2.2.1⟩
        · have cn := mnumber_bad B.out.2.2.2.2.1 hl2
          have FN : Aside (A.1 = (LNG u).2.2 ∧ STAY w wr rb) := by
            obtain ⟨_, _, _, h4, h5, h6, h7⟩ := B.out
            rw [IDX_bad hl2] at h7
            exact ⟨by rw [h7], h6⟩
          have HE : Aside ((LNG u).2.2 ≠ 0) := hl2
          clear B HA hl2
          generalize (LNG u).2.2 = E at *
          go_wp2_with fail
          refine cn.mono ?_
          rintro e w2 ⟨rfl, rfl⟩
          exact ⟨rfl, .inr ⟨by rw [FN.out.1]; exact HE.out, by rw [FN.out.1], FN.out.2⟩⟩
  · have eI : IDXS n t = ((LNG t).2.2, [], []) := by unfold IDXS; rw [if_pos hl]
    have cn := mnumber_bad R hl
    rw [eI]
    have HE : Aside ((LNG t).2.2 ≠ 0) := hl
    clear eI hl R hn
    generalize (LNG t).2.2 = E at *
    go_enter Tryd.func53, Tryd.ntmps53
    go_wp2_with fail
    refine cn.mono ?_
    rintro e w2 ⟨rfl, rfl⟩
    exact ⟨rfl, .inr ⟨HE.out, rfl, STAY.refl _ _⟩⟩
end Go.Proofs.YtmpaifkjlhodpaaDoor

/- The peaks as spots. -/
namespace Go.Proofs.YtmpaifkjlhodpaaDoor
set_option maxRecDepth 100000

/-- the peaks of n leaves, from the left: height and index. -/
def TPS (n : Nat) : List (Nat × Nat) := (HS 0 n).map fun h => (h, 2 * (n / 2 ^ (h + 1)))
theorem drop_at {α : Type} : ∀ {l : List α} {j : Nat} {x : α}, l[j]? = some x → l.drop j = x :: l.drop (j + 1)
  | [], j, x, h => by simp at h
  | y :: l, 0, x, h => by
    simp only [List.getElem?_cons_zero, Option.some.injEq] at h
    rw [h]
    rfl
  | y :: l, j + 1, x, h => by
    rw [List.getElem?_cons_succ] at h
    rw [List.drop_succ_cons, List.drop_succ_cons]
    exact drop_at h
theorem TPS_length {n : Nat} (hn : n < 2 ^ 64) : (TPS n).length = PC n := by
  rw [TPS, List.length_map, HS_length hn 0 (by decide), Nat.pow_zero, Nat.div_one]
theorem TPS_peak {n j h k : Nat} (e : (TPS n)[j]? = some (h, k)) : (PEAKS n)[j]? = some (PLC h k) := by
  unfold TPS at e
  unfold PEAKS
  rw [List.getElem?_map] at e ⊢
  cases hj : (HS 0 n)[j]? with
  | none => rw [hj] at e; cases e
  | some x =>
    rw [hj] at e
    simp only [Option.map_some, Option.some.injEq, Prod.mk.injEq] at e
    obtain ⟨rfl, rfl⟩ := e
    rfl
theorem node_of_span {h k : Nat} (hh : h ≤ 62) (hs : (k + 1) * 2 ^ h ≤ 2 ^ 62) : Node h k := by
  refine ⟨hh, ?_⟩
  rcases Nat.lt_or_ge k (2 ^ (62 - h)) with h1 | h1
  · exact h1
  · have h2 : (2 ^ (62 - h) + 1) * 2 ^ h ≤ (k + 1) * 2 ^ h := Nat.mul_le_mul_right _ (by omega)
    rw [Nat.add_mul, ← Nat.pow_add, show 62 - h + h = 62 by omega] at h2
    have := Nat.two_pow_pos h
    omega
theorem TPS_span {n h k : Nat} (hn : n ≤ 2 ^ 62) (hm : (h, k) ∈ TPS n) : h ≤ 62 ∧ (k + 1) * 2 ^ h ≤ n ∧ Node h k := by
  unfold TPS at hm
  rw [List.mem_map] at hm
  obtain ⟨x, hx, e⟩ := hm
  simp only [Prod.mk.injEq] at e
  obtain ⟨rfl, rfl⟩ := e
  obtain ⟨_, h2, h3⟩ := HS_set_of 0 x (by decide) hx
  have h4 : 2 * (n / 2 ^ (x + 1)) + 1 = n / 2 ^ x := by
    rw [Nat.pow_succ, ← Nat.div_div_eq_div_mul]
    omega
  have h5 : (2 * (n / 2 ^ (x + 1)) + 1) * 2 ^ x ≤ n := by rw [h4]; exact Nat.div_mul_le_self n (2 ^ x)
  have h6 : x ≤ 62 := by
    rcases Nat.lt_or_ge 62 x with h7 | h7
    · have h8 : 2 ^ 63 ≤ 2 ^ x := Nat.pow_le_pow_right (by decide) h7
      have h9 : 1 * 2 ^ x ≤ (2 * (n / 2 ^ (x + 1)) + 1) * 2 ^ x := Nat.mul_le_mul_right _ (by omega)
      omega
    · exact h7
  exact ⟨h6, h5, node_of_span h6 (by omega)⟩
theorem NEEDS_most : ∀ (ps : List (Nat × Nat)) (L : List Nat), (∀ p ∈ ps, p.1 ≤ 62) → (NEEDS ps L).length ≤ L.length * 62 + ps.length
  | [], L, _ => by simp [NEEDS]
  | (h, k) :: ps, L, hp => by
    rw [NEEDS, List.length_append, List.length_cons]
    have h1 := NEED_most h k (L.filter fun y => decide (y < (k + 1) * 2 ^ h))
    have h2 := NEEDS_most ps (L.filter fun y => !decide (y < (k + 1) * 2 ^ h)) (fun p hm => hp p (List.mem_cons_of_mem _ hm))
    have h3 := filter_both (fun y => decide (y < (k + 1) * 2 ^ h)) L
    have h4 : h ≤ 62 := hp (h, k) (List.mem_cons_self ..)
    have h5 : (L.filter fun y => decide (y < (k + 1) * 2 ^ h)).length * h ≤ (L.filter fun y => decide (y < (k + 1) * 2 ^ h)).length * 62 := Nat.mul_le_mul_left _ h4
    generalize (L.filter fun y => decide (y < (k + 1) * 2 ^ h)).length * h = u at *
    generalize (L.filter fun y => decide (y < (k + 1) * 2 ^ h)).length = p at *
    generalize (L.filter fun y => !decide (y < (k + 1) * 2 ^ h)).length = q at *
    omega
end Go.Proofs.YtmpaifkjlhodpaaDoor
