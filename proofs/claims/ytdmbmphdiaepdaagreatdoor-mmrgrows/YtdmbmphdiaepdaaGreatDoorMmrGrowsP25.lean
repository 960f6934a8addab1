/- Texts of MmrGrows, one behind the other: MmrPeaks, MmrOldCalls. -/
import Derived.Great.BuildSlice
import Derived.Test.YtdmbmphdiaepdaaGreatDoorMmrGrowsP12
import Derived.Test.YtdmbmphdiaepdaaGreatDoorMmrGrowsP21
import Derived.Test.YtdmbmphdiaepdaaGreatDoorMmrGrowsP24
/- peaks of package mmr: the hashes of the peaks of an earlier size. -/
namespace Go.Proofs.YtdmbmphdiaepdaaGreatDoor.HX
open Go.RowKit
set_option maxRecDepth 100000

/-- a list of one hash. -/
theorem build_hash {ops : Array Oper} {rest : List Oper} {o : Oper} {a : Act} {Q : Exit → Act → World → Prop} (w : World) (hg : o.guard = none) (x : Operand) (ho : o.op = .buildSlice 23 1 #[(0, x)]) (f : Nat → Nat) (hx : a.eval x = .agg (UARR .u8 32 f))
    (h : wpList Tryz.prog ops Q rest (a.put o.dst (.slice (some ⟨w.heap.size, 0, none⟩) 1 1)) (w.alloc (.cells (UARR .u8 32 f) 26))) : wpList Tryz.prog ops Q (o :: rest) a w := by
  obtain ⟨i, hie, hz', hs1, _⟩ := info_parts info_hashT
  refine wpList_buildSlice hg 23 26 1 _ ho (UARR .u8 32 f) i _ Tryz.underlying23 hie hz' (by rw [hs1]; omega) (by rw [hs1]; omega) ?_ h
  have := Great.fill_whole (s := 32) (by decide) [.agg (UARR .u8 32 f)] ((Array.range (1 * i.size)).map ((Value.agg (UARR .u8 32 fun _ => 0)).cells[· % (Value.agg (UARR .u8 32 fun _ => 0)).cells.size]!)) (fun v hv => by simp at hv; subst hv; exact UARR_size _ _ _) (by simp [hs1])
  simp [Value.cells] at this
  rw [hs1]
  simp [hx]
  rw [hs1] at this
  exact this
/-- a hash is appended. -/
theorem app_hashf {ops : Array Oper} {rest : List Oper} {o : Oper} {a : Act} {Q : Exit → Act → World → Prop} (w : World) (hgd : o.guard = none) (s x : Operand)
    (ho : o.op = .call { callee := .builtin .append, args := #[s, x], argTypes := #[23, 23] }) (base : Nat) (v : Value) (n : Nat) (xs : List Value) (hs : a.eval s = v) (hown : w.ownsRow base 26 32 v n xs)
    (b c : Nat) (f : Nat → Nat) (hx : a.eval x = .slice (some ⟨b, 0, none⟩) 1 c) (hb : Has w b (UARR .u8 32 f) 26) (hn : n ≤ 100000) (hbase : base ≤ w.heap.size)
    (h : ∀ g cap w', w'.ownsRow base 26 32 (.slice (some ⟨g, 0, none⟩) (n + 1) cap) (n + 1) (xs ++ ULIST .u8 32 f) → w.grownBy w' v.ownBlock → (v.ownBlock = some g ∨ g = w.heap.size) → g < w'.heap.size → wpList Tryz.prog ops Q rest (a.put o.dst (.slice (some ⟨g, 0, none⟩) (n + 1) cap)) w') : wpList Tryz.prog ops Q (o :: rest) a w := by
  obtain ⟨i, hi, hz, hs1, hby⟩ := info_parts info_hashT
  exact wpList_append_lies w hgd s x 23 ho base 26 i _ 32 32 Tryz.underlying23 hi hz hs1 hby (by simp [Value.cells, UARR_size]) (by decide) v n xs hs hown ⟨b, 0, none⟩ 1 c (ULIST .u8 32 f) hx (by rw [ULIST_length]) (fun j u hj => by rw [Addr.add_mid, hb.cell, Nat.zero_add, UARR_list, List.getElem?_toArray]; exact hj) (ULIST_one _ _ _) (by decide) (by simp only [maxLen]; omega) (by omega) hbase w.heap.size rfl h
theorem HL_snoc' (hs : List (Nat → Nat)) (h : Nat → Nat) : HL (hs ++ [h]) = HL hs ++ ULIST .u8 32 h := by simp [HL]
/-- the hashes of the peaks of m leaves. -/
def PKV (d : Int) (f : Nat → Nat → Nat) (m : Nat) : List (Nat → Nat) := (HS 0 m).map fun h => VAL d f h (2 * (m / 2 ^ (h + 1)))
theorem PKV_length (d : Int) (f : Nat → Nat → Nat) {m : Nat} (hm : m < 2 ^ 64) : (PKV d f m).length = PC m := by
  rw [PKV, List.length_map, HS_length hm 0 (by decide), Nat.pow_zero, Nat.div_one]
theorem peak_span {m h : Nat} (hb : m / 2 ^ h % 2 = 1) : (2 * (m / 2 ^ (h + 1)) + 1) * 2 ^ h ≤ m := by
  have e : m / 2 ^ h = 2 * (m / 2 ^ (h + 1)) + 1 := by rw [half_pow]; omega
  rw [← e]
  exact Nat.div_mul_le_self m (2 ^ h)
/-- what is found at a peak. -/
theorem FOREST.peak {w : World} {B g : Nat} {d : Int} {log n : Nat} {C : CHUNKS} {f : Nat → Nat → Nat} (hF : FOREST w B g d log n C f) {m i h : Nat} (hm : m ≤ n) (hi : (HS 0 m)[i]? = some h) :
    PKP m h < 2 ^ 40 ∧ GOTH C log (NODES n) (PKP m h) = VAL d f h (2 * (m / 2 ^ (h + 1))) ∧ GOT C log (NODES n) (PKP m h) = 0 ∧ (PEAKS m)[i]? = some (PKP m h) ∧ (PKV d f m)[i]? = some (VAL d f h (2 * (m / 2 ^ (h + 1)))) := by
  have hb := (HS_set_of 0 h (by decide) (List.mem_of_getElem? hi)).2.2
  have hs := Nat.le_trans (peak_span hb) hm
  have hlt : PKP m h < NODES n := PLC_under hs
  have hat : AT C log (PKP m h) = some (VAL d f h (2 * (m / 2 ^ (h + 1)))) := hF.node h _ hs
  have := hF.store.short
  refine ⟨by omega, ?_, ?_, ?_, ?_⟩
  · unfold GOTH
    rw [if_pos hlt, hat]
    rfl
  · unfold GOT
    rw [if_pos hlt, hat]
    rfl
  · rw [PEAKS, List.getElem?_map, hi]
    rfl
  · rw [PKV, List.getElem?_map, hi]
    rfl
set_option maxHeartbeats 2000000 in
theorem treepeaks_ok {w : World} {B g : Nat} {d : Int} {log n : Nat} {C : CHUNKS} {f : Nat → Nat → Nat} (hF : FOREST w B g d log n C f) (m : Nat) (hm : m ≤ n) (hT : Go.Proofs.YtdmbmphdiaepdaaGreatDoor.Tabled w) :
    Calls Tryz.prog 44 #[.pointer (some ⟨g, 0, none⟩), .int .u64 (m : Int)] w fun e w' => ∃ v, e = .returned (.tuple #[v, .int .i64 0]) ∧ w'.ownsRow w.heap.size 26 32 v (PC m) (HL (PKV d f m)) ∧ Below w.heap.size w w' := by
  have hn20 := hF.few
  have cp := peaks_ok m (by omega) w hT (by have := hF.store.lt; omega)
  have hz := zeroHash
  have A : Aside (FOREST w B g d log n C f ∧ m ≤ n ∧ m ≤ 2 ^ 20) := ⟨hF, hm, by omega⟩
  clear hF hm hT hn20
  go_enter Tryz.func44, Tryz.ntmps44
  go_wp2_with fail
  refine cp.mono ?_
  rintro e w1 ⟨gp, cap, rfl, hrow, hb1⟩
  clear cp
  have hlen := PKV_length d f (m := m) (by have := A.out.2.2; omega)
  have hpc : PC m ≤ 64 := PC_lt_pow 64 m (by have := A.out.2.2; omega)
  have hgp := (hrow.lt gp rfl)
  have A2 : Aside (w1.ownsRow w.heap.size 22 1 (.slice (some ⟨gp, 0, none⟩) (PC m) cap) (PC m) (Go.Proofs.YtdmbmphdiaepdaaGreatDoor.UCELLS (PEAKS m)) ∧ Below w.heap.size w w1 ∧ (PKV d f m).length = PC m ∧ PC m ≤ 64 ∧ w.heap.size ≤ gp ∧ gp < w1.heap.size) := ⟨hrow, hb1, hlen, hpc, hgp.1, hgp.2⟩
  clear hrow hb1 hlen hpc hgp
  obtain ⟨M, hM⟩ : ∃ M, PC m = M := ⟨_, rfl⟩
  rw [hM] at A2 ⊢
  go_wp2_with fail
  go_loopg [6, 14] M (fun r s6 s14 wx => ∃ i : Nat, s14 = .int .i64 (i : Int) ∧ Aside (i + r = M ∧ wx.ownsRow w1.heap.size 26 32 s6 i (HL ((PKV d f m).take i)) ∧ Below w1.heap.size w1 wx))
  case atStart => exact ⟨0, rfl, by omega, ⟨rfl, .inl ⟨rfl, rfl⟩⟩, Below.refl _ _⟩
  case round =>
    obtain ⟨i, rfl, R⟩ := hrel
    cases gk with
    | zero =>
      obtain rfl : i = M := by have := R.out.1; omega
      have hlt : ¬ (i : Int) < (i : Int) := by omega
      have F : Aside (wr.ownsRow w.heap.size 26 32 u6 i (HL (PKV d f m)) ∧ Below w.heap.size w wr) := by
        obtain ⟨-, h1, h2⟩ := R.out
        rw [List.take_of_length_le (by rw [A2.out.2.2.1]; omega)] at h1
        exact ⟨own_mono h1 A2.out.2.1.size, A2.out.2.1.trans (h2.mono A2.out.2.1.size)⟩
      clear R A A2 hz
      go_wp2_with fail
      go_ret2
      exact ⟨_, rfl, F.out⟩
    | succ r =>
      have hiM : i < M := by have := R.out.1; omega
      have hlt : (i : Int) < (M : Int) := by omega
      have hi0 : ¬ (i : Int) < 0 := by omega
      obtain ⟨hh, hhe⟩ : ∃ hh, (HS 0 m)[i]? = some hh := ⟨_, List.getElem?_eq_getElem (by have h1 := A2.out.2.2.1; rw [PKV, List.length_map] at h1; omega)⟩
      have hbw : Below w.heap.size w wr := A2.out.2.1.trans (R.out.2.2.mono A2.out.2.1.size)
      obtain ⟨p1, p2, p3, p4, p5⟩ := A.out.1.peak A.out.2.1 hhe
      have hc : wr.cell? ⟨gp, i, none⟩ = some (.int .u64 ((PKP m hh : Nat) : Int)) := (R.out.2.2.cell (p := ⟨gp, i, none⟩) A2.out.2.2.2.2.2).trans (by rw [A2.out.1.cellAt i (by omega), Go.Proofs.YtdmbmphdiaepdaaGreatDoor.UCELLS, List.getElem?_map, p4]; rfl)
      have cg := treenode_ok (A.out.1.below hbw).store (PKP m hh) (by omega)
      rw [p2, p3] at cg
      have ht : (PKV d f m).take (i + 1) = (PKV d f m).take i ++ [VAL d f hh (2 * (m / 2 ^ (hh + 1)))] := by rw [List.take_add_one, p5]; rfl
      generalize VAL d f hh (2 * (m / 2 ^ (hh + 1))) = V at *
      generalize PKP m hh = pp at *
      have ei : wrap64 ((i : Int) + 1) = ((i + 1 : Nat) : Int) := by have := A2.out.2.2.2.1; unfold wrap64; omega
      have R2 : Aside (i + 1 + r = M ∧ wr.ownsRow w1.heap.size 26 32 u6 i (HL ((PKV d f m).take i)) ∧ Below w1.heap.size w1 wr ∧ (PKV d f m).take (i + 1) = (PKV d f m).take i ++ [V] ∧ i ≤ 64) := ⟨by have := R.out.1; clear ei; omega, R.out.2.1, R.out.2.2, ht, by have := A2.out.2.2.2.1; clear ei; omega⟩
      clear R hhe p1 p2 p3 p4 p5 hbw ht hiM
      go_wp2_with fail
      refine cg.mono ?_
      rintro e w2 ⟨rfl, hb2⟩
      clear cg
      have hst := run_storeCells_new (P := Tryz.prog) w2 26 (UARR .u8 32 fun _ => 0) (UARR .u8 32 V) (info_HASH _) (by rw [UARR_size, UARR_size]) (UARR_one _ _ _)
      have hsu := UARR_size .u8 32 V
      obtain ⟨w3, hw3⟩ : ∃ w3, w2.alloc (.cells (UARR .u8 32 V) 26) = w3 := ⟨_, rfl⟩
      have hF3 : Has w3 w2.heap.size (UARR .u8 32 V) 26 := by rw [← hw3]; exact Has.new w2 _ _
      have hb3 : Below wr.heap.size wr w3 := by rw [← hw3]; exact hb2.alloc hb2.size _
      have R3 : Aside ((w3.alloc (.cells (UARR .u8 32 V) 26)).ownsRow w1.heap.size 26 32 u6 i (HL ((PKV d f m).take i)) ∧ Below w1.heap.size w1 (w3.alloc (.cells (UARR .u8 32 V) 26)) ∧ w1.heap.size ≤ (w3.alloc (.cells (UARR .u8 32 V) 26)).heap.size ∧ Has (w3.alloc (.cells (UARR .u8 32 V) 26)) w3.heap.size (UARR .u8 32 V) 26) := by
        have h1 : Below wr.heap.size wr (w3.alloc (.cells (UARR .u8 32 V) 26)) := hb3.alloc hb3.size _
        exact ⟨own_keep R2.out.2.1 h1, R2.out.2.2.1.trans (h1.mono R2.out.2.2.1.size), Nat.le_trans R2.out.2.2.1.size h1.size, Has.new _ _ _⟩
      clear hb2 hb3
      go_wp2_with (first
        | (refine wpList_load_row rfl 26 (.tmp 9) rfl w2.heap.size rfl 26 (UARR .u8 32 V) (0, 0) _ hF3 Tryz.underlying26 rfl (info_HASH _) ?_)
        | (refine build_hash w3 rfl (.tmp 28) rfl V rfl ?_)
        | (at_builtin; refine app_hashf _ rfl (.tmp 27) (.tmp 29) rfl w1.heap.size u6 i (HL ((PKV d f m).take i)) rfl R3.out.1 w3.heap.size 1 V rfl R3.out.2.2.2 (by have := R2.out.2.2.2.2; omega) R3.out.2.2.1 ?_; intro g6 c6 w6 hown6 hgrow6 hat6 hlt6))
      go_roundg r
      case measure => exact Nat.lt_succ_self _
      case rel =>
        refine ⟨i + 1, by first | rfl | (rw [ei]), R2.out.1, ?_, R3.out.2.1.grown hgrow6 R3.out.2.2.1 (fun k e => (R3.out.1.lt k e).1)⟩
        rw [R2.out.2.2.2.1, HL_snoc']
        exact hown6
end Go.Proofs.YtdmbmphdiaepdaaGreatDoor.HX

/- Bag, Old, Root, Peaks, Size of package mmr. -/
namespace Go.Proofs.YtdmbmphdiaepdaaGreatDoor.HX
open Go.RowKit
set_option maxRecDepth 100000

theorem own_hashes {w : World} {B n : Nat} {v : Value} {l : List (Nat → Nat)} (h : w.ownsRow B 26 32 v n (HL l)) (hl : l.length = n) : ∃ a c, v = .slice a n c ∧ HASHES w a n (fun i => l.getD i fun _ => 0) := by
  obtain ⟨a, c, rfl⟩ := own_shape h
  refine ⟨a, c, rfl, fun hn => ?_⟩
  rcases h.2 with ⟨e, h0⟩ | ⟨g, cap, cur, e, _, hg, _⟩
  · omega
  · simp only [Value.slice.injEq] at e
    obtain ⟨rfl, _, rfl⟩ := e
    refine ⟨g, 0, rfl, (h.lt g rfl).2, fun i hi j u hj => ?_⟩
    have hj32 : j < 32 := by have := (List.getElem?_eq_some_iff.1 hj).1; rwa [ULIST_length] at this
    have hli : l[i]? = some (l.getD i fun _ => 0) := by rw [List.getD_eq_getElem?_getD, List.getElem?_eq_getElem (by omega)]; rfl
    rw [ULIST_get _ _ _ _ hj32] at hj
    rw [← hj, Nat.zero_add, h.cellAt (i * 32 + j) (by omega)]
    exact HL_get l i j _ hli hj32
set_option maxHeartbeats 2000000 in
theorem bagf_ok (d : Int) (n : Nat) (hn : n ≤ 4611686018427387904) (a : Option Addr) (k c : Nat) (hk : k = PC n) (hs : Nat → Nat → Nat) (w : World) (hH : HASHES w a k hs) (h8 : ∀ i, i < k → ∀ j, hs i j < 256) (hX : Tabled w) :
    Calls Tryz.prog 7 #[.int .i64 d, .int .u64 (n : Int), .slice a k c] w fun e w' => e = .returned (.tuple #[.agg (UARR .u8 32 (ROOTF d n (FLDF d hs k))), .int .i64 0]) ∧ Below w.heap.size w w' := by
  have hz := zeroHash
  obtain ⟨w0, hw0⟩ : ∃ w0, w.alloc (.cells (UARR .u8 32 fun _ => 0) 26) = w0 := ⟨_, rfl⟩
  have hb0 : Below w.heap.size w w0 := by rw [← hw0]; exact (Below.refl _ _).alloc (Nat.le_refl _) _
  have h40 : Has w0 w.heap.size (UARR .u8 32 fun _ => 0) 26 := by rw [← hw0]; exact Has.new w _ _
  have h1' : ¬ (4611686018427387904 : Int) < (n : Int) := by omega
  have hn64 : n < 2 ^ 64 := by omega
  have hpop := POP_PC hn64
  have hk64 : k ≤ 64 := by rw [hk]; exact PC_lt_pow 64 n hn64
  have e2 : (k : Int) = ((POP n : Nat) : Int) := by rw [hpop, hk]
  have co := onescount_ok n hn64 w0
  rw [← e2] at co
  have cf := foldedf_ok d a k c (by omega) hs w0 (hH.below hb0) h8 (hX.below hb0)
  have hF8 := FLDF_lt (d := d) h8
  have cr := fun (W : World) (hb : Below w0.heap.size w0 W) => root_ok d n hn64 (FLDF d hs k) hF8 W ((hX.below hb0).below hb)
  have eR : ROOTF d n (FLDF d hs k) = HASHOF d (3 :: (BE8 n ++ (List.range 32).map (FLDF d hs k))) := rfl
  rw [← eR] at cr
  clear eR hF8 e2 hk64 hpop hn64 hk hH h8 hX hn
  generalize ROOTF d n (FLDF d hs k) = Y at *
  generalize FLDF d hs k = X at *
  go_enter Tryz.func7, Tryz.ntmps7
  go_wp2_with fail
  refine co.mono ?_
  rintro e w1 ⟨rfl, rfl⟩
  clear co
  go_wp2_with fail
  refine cf.mono ?_
  rintro e w1 ⟨rfl, hb1⟩
  clear cf
  go_wp2_with fail
  refine (cr w1 hb1).mono ?_
  rintro e w2 ⟨rfl, hb2⟩
  clear cr
  have hb12 : Below w0.heap.size w0 w2 := hb1.trans (hb2.mono hb1.size)
  have h42 := h40.keep hb12
  have hb3' : Below w.heap.size w w2 := hb0.trans (hb12.mono hb0.size)
  have hst2 := store_cells32 h42 Y
  have hsu := UARR_size .u8 32 Y
  clear hb1 hb2 hb12
  go_wp2
  refine bodyPost_ret (v := .tuple #[.agg (UARR .u8 32 Y), .int .i64 0]) ?_ rfl ⟨rfl, below_row hb3' (Nat.le_refl _) _⟩
  exact results_hash rfl _ _ w.heap.size 26 _ (0, 0) _ _ rfl (h42.row _) _ rfl Tryz.underlying26 (info_HASH _)
/-- the root over the first m leaves. -/
def ROOTOF (d : Int) (f : Nat → Nat → Nat) (m : Nat) : Nat → Nat := ROOTF d m (FLDF d (fun i => (PKV d f m).getD i fun _ => 0) (PC m))
theorem PKV_lt {d : Int} {f : Nat → Nat → Nat} {n m : Nat} (hf : ∀ k, k < n → ∀ i, f k i < 256) (hm : m ≤ n) (i : Nat) (j : Nat) : (PKV d f m).getD i (fun _ => 0) j < 256 := by
  rw [List.getD_eq_getElem?_getD, PKV, List.getElem?_map]
  cases hi : (HS 0 m)[i]? with
  | none => show (0 : Nat) < 256; decide
  | some h =>
    have hb := (HS_set_of 0 h (by decide) (List.mem_of_getElem? hi)).2.2
    exact VAL_lt hf h _ (Nat.le_trans (peak_span hb) hm) j
set_option maxHeartbeats 2000000 in
theorem old_ok {w : World} {B g : Nat} {d : Int} {log n : Nat} {C : CHUNKS} {f : Nat → Nat → Nat} (hF : FOREST w B g d log n C f) (m : Nat) (hm : m ≤ n) (hT : Go.Proofs.YtdmbmphdiaepdaaGreatDoor.Tabled w) (hX : Tabled w) :
    Calls Tryz.prog 47 #[.pointer (some ⟨g, 0, none⟩), .int .u64 (m : Int)] w fun e w' => e = .returned (.tuple #[.agg (UARR .u8 32 (ROOTOF d f m)), .int .i64 0]) ∧ Below w.heap.size w w' := by
  have hz := zeroHash
  obtain ⟨w0, hw0⟩ : ∃ w0, w.alloc (.cells (UARR .u8 32 fun _ => 0) 26) = w0 := ⟨_, rfl⟩
  have hb0 : Below w.heap.size w w0 := by rw [← hw0]; exact (Below.refl _ _).alloc (Nat.le_refl _) _
  have h40 : Has w0 w.heap.size (UARR .u8 32 fun _ => 0) 26 := by rw [← hw0]; exact Has.new w _ _
  have hF0 := hF.below hb0
  have c6 := hF0.size
  have hle : ¬ (n : Int) < (m : Int) := by omega
  have cp := treepeaks_ok hF0 m hm (hT.below (by have := hF.store.lt; omega) hb0)
  have hn20 := hF.few
  have A : Aside (FOREST w0 B g d log n C f ∧ m ≤ n ∧ m ≤ 2 ^ 20 ∧ Tabled w0) := ⟨hF0, hm, by omega, hX.below hb0⟩
  clear hF hm hT hX hn20 hF0
  go_enter Tryz.func47, Tryz.ntmps47
  go_wp2_with fail
  refine cp.mono ?_
  rintro e w1 ⟨v, rfl, hown, hb1⟩
  clear cp
  obtain ⟨a, c, rfl, hH⟩ := own_hashes hown (PKV_length d f (by have := A.out.2.2.1; omega))
  have c5 := (A.out.1.below hb1).width
  have cb := bagf_ok d m (by have := A.out.2.2.1; omega) a (PC m) c rfl _ w1 hH (fun i _ j => PKV_lt A.out.1.byte A.out.2.1 i j) (A.out.2.2.2.below hb1)
  have eR : ROOTOF d f m = ROOTF d m (FLDF d (fun i => (PKV d f m).getD i fun _ => 0) (PC m)) := rfl
  rw [← eR] at cb
  clear hown hH eR A
  generalize hY0 : ROOTOF d f m = Y at *
  generalize PC m = M at *
  go_wp2_with fail
  refine cb.mono ?_
  rintro e w2 ⟨rfl, hb2⟩
  clear cb
  have hb12 : Below w0.heap.size w0 w2 := hb1.trans (hb2.mono hb1.size)
  have h42 := h40.keep hb12
  have hb3' : Below w.heap.size w w2 := hb0.trans (hb12.mono hb0.size)
  have hst2 := store_cells32 h42 Y
  have hsu := UARR_size .u8 32 Y
  clear hb1 hb2 hb12 c5
  go_wp2
  refine bodyPost_ret (v := .tuple #[.agg (UARR .u8 32 Y), .int .i64 0]) ?_ rfl ⟨by rw [hY0], below_row hb3' (Nat.le_refl _) _⟩
  exact results_hash rfl _ _ w.heap.size 26 _ (0, 0) _ _ rfl (h42.row _) _ rfl Tryz.underlying26 (info_HASH _)
set_option maxHeartbeats 2000000 in
theorem old_far {w : World} {B g : Nat} {d : Int} {log n : Nat} {C : CHUNKS} {f : Nat → Nat → Nat} (hF : FOREST w B g d log n C f) (m : Nat) (hm : n < m) :
    Calls Tryz.prog 47 #[.pointer (some ⟨g, 0, none⟩), .int .u64 (m : Int)] w fun e w' => e = .returned (.tuple #[.agg (UARR .u8 32 fun _ => 0), .int .i64 30]) ∧ Below w.heap.size w w' := by
  have hz := zeroHash
  have hbn := buildHash
  obtain ⟨w0, hw0⟩ : ∃ w0, w.alloc (.cells (UARR .u8 32 fun _ => 0) 26) = w0 := ⟨_, rfl⟩
  have hb0 : Below w.heap.size w w0 := by rw [← hw0]; exact (Below.refl _ _).alloc (Nat.le_refl _) _
  have h40 : Has w0 w.heap.size (UARR .u8 32 fun _ => 0) 26 := by rw [← hw0]; exact Has.new w _ _
  have c6 := (hF.below hb0).size
  have hle : (n : Int) < (m : Int) := by omega
  have hst2 := store_cells32 h40 (fun _ => 0)
  have hsu := UARR_size .u8 32 (fun _ => 0)
  clear hF hm
  go_enter Tryz.func47, Tryz.ntmps47
  go_wp2
  refine bodyPost_ret (v := .tuple #[.agg (UARR .u8 32 fun _ => 0), .int .i64 30]) ?_ rfl ⟨rfl, below_row hb0 (Nat.le_refl _) _⟩
  exact results_hash rfl _ _ w.heap.size 26 _ (0, 0) _ _ rfl (h40.row _) _ rfl Tryz.underlying26 (info_HASH _)
set_option maxHeartbeats 2000000 in
theorem root_of {w : World} {B g : Nat} {d : Int} {log n : Nat} {C : CHUNKS} {f : Nat → Nat → Nat} (hF : FOREST w B g d log n C f) (hT : Go.Proofs.YtdmbmphdiaepdaaGreatDoor.Tabled w) (hX : Tabled w) :
    Calls Tryz.prog 27 #[.pointer (some ⟨g, 0, none⟩)] w fun e w' => e = .returned (.agg (UARR .u8 32 (ROOTOF d f n))) ∧ Below w.heap.size w w' := by
  have hz := zeroHash
  obtain ⟨w0, hw0⟩ : ∃ w0, w.alloc (.cells (UARR .u8 32 fun _ => 0) 26) = w0 := ⟨_, rfl⟩
  have hb0 : Below w.heap.size w w0 := by rw [← hw0]; exact (Below.refl _ _).alloc (Nat.le_refl _) _
  have h40 : Has w0 w.heap.size (UARR .u8 32 fun _ => 0) 26 := by rw [← hw0]; exact Has.new w _ _
  have c6 := (hF.below hb0).size
  have co := old_ok (hF.below hb0) n (Nat.le_refl _) (hT.below (by have := hF.store.lt; omega) hb0) (hX.below hb0)
  clear hF hT hX
  generalize ROOTOF d f n = L at *
  go_enter Tryz.func27, Tryz.ntmps27
  go_wp2_with fail
  refine co.mono ?_
  rintro e w2 ⟨rfl, hb2⟩
  clear co
  have hst := run_storeCells_new (P := Tryz.prog) w2 26 (UARR .u8 32 fun _ => 0) (UARR .u8 32 L) (info_HASH _) (by rw [UARR_size, UARR_size]) (UARR_one _ _ _)
  have hsu := UARR_size .u8 32 L
  obtain ⟨w3, hw3⟩ : ∃ w3, w2.alloc (.cells (UARR .u8 32 L) 26) = w3 := ⟨_, rfl⟩
  have hb3 : Below w0.heap.size w0 w3 := by rw [← hw3]; exact hb2.alloc hb2.size _
  have hF3 : Has w3 w2.heap.size (UARR .u8 32 L) 26 := by rw [← hw3]; exact Has.new w2 _ _
  have h43 := h40.keep hb3
  have hb3' : Below w.heap.size w w3 := hb0.trans (hb3.mono hb0.size)
  have hst2 := store_cells32 h43 L
  go_wp2_with (first
    | (refine wpList_load_row rfl 26 (.tmp 3) rfl w2.heap.size rfl 26 (UARR .u8 32 L) (0, 0) _ hF3 Tryz.underlying26 rfl (info_HASH _) ?_)
    | fail)
  refine bodyPost_ret (v := .agg (UARR .u8 32 L)) ?_ rfl ⟨rfl, below_row hb3' (Nat.le_refl _) _⟩
  exact results_cell rfl _ _ w.heap.size 26 _ (0, 0) _ _ rfl (h43.row _) Tryz.underlying26 (info_HASH _)
theorem peaks_of {w : World} {B g : Nat} {d : Int} {log n : Nat} {C : CHUNKS} {f : Nat → Nat → Nat} (hF : FOREST w B g d log n C f) (hT : Go.Proofs.YtdmbmphdiaepdaaGreatDoor.Tabled w) :
    Calls Tryz.prog 23 #[.pointer (some ⟨g, 0, none⟩)] w fun e w' => ∃ v, e = .returned v ∧ w'.ownsRow w.heap.size 26 32 v (PC n) (HL (PKV d f n)) ∧ Below w.heap.size w w' := by
  have c6 := hF.size
  have cp := treepeaks_ok hF n (Nat.le_refl _) hT
  clear hF hT
  go_enter Tryz.func23, Tryz.ntmps23
  go_wp2_with fail
  refine cp.mono ?_
  rintro e w1 ⟨v, rfl, hown, hb⟩
  clear cp
  go_wp2_with fail
  go_ret
  exact ⟨_, rfl, hown, hb⟩
theorem size_of {w : World} {B g : Nat} {d : Int} {log n : Nat} {C : CHUNKS} {f : Nat → Nat → Nat} (hF : FOREST w B g d log n C f) :
    Calls Tryz.prog 26 #[.pointer (some ⟨g, 0, none⟩)] w fun e w' => e = .returned (.int .u64 (n : Int)) ∧ w = w' := by
  have c6 := hF.size
  clear hF
  go_enter Tryz.func26, Tryz.ntmps26
  go_wp2
  go_ret
  exact ⟨rfl, rfl⟩
end Go.Proofs.YtdmbmphdiaepdaaGreatDoor.HX
