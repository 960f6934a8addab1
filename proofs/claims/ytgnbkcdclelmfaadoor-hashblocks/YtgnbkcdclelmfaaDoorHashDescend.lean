/- What hash.Descend answers. -/
import Derived.Test.YtgnbkcdclelmfaaDoorHashWidthsWalk
import Derived.Test.YtgnbkcdclelmfaaDoorHashDescendPlain
import Derived.Test.YtgnbkcdclelmfaaDoorHashRefRegions
import Derived.Deep.Cut
namespace Go.Proofs.YtgnbkcdclelmfaaDoor
open Go.RowKit
set_option maxRecDepth 100000

theorem results_step {fn : Func} {p q : Tmp} {ty : TypeId} (h : fn.results = #[.cell p ty, .tmp q]) (tmps : Array Value) (w : World) (g : Nat) (t : TypeId) (cs : Array Value) (fr : Nat × Nat) (fs : Array Field)
    (hp : tmps.getD p undef = .pointer (some ⟨g, 0, none⟩)) (hg : w.heap[g]? = some (.cells cs t fr)) (v : Value) (hq : tmps.getD q undef = v)
    (hu : Tryd.prog.underlying ty = some (.struct fs)) (hi : (Tryd.prog.info? ty).map (·.size) = some cs.size) :
    (results fn tmps).run Tryd.prog w = .ok (.tuple #[.agg cs, v]) w := by
  have hp' : tmps[p]?.getD undef = .pointer (some ⟨g, 0, none⟩) := by simpa using hp
  have hq' : tmps[q]?.getD undef = v := by simpa using hq
  simp [results, h, hp', hq', asAddr, run_loadVar_row w g t ty cs fr (.struct fs) hg hu rfl hi]
theorem zero192 : ∀ w, (zeroValue 45).run Tryd.prog w = .ok (.agg (UARR .u8 192 fun _ => 0)) w := (zero_of_info (P := Tryd.prog) (n := 192) (by kernel_rfl)).1
theorem build_none (w : World) : (Instr.build 45 #[]).run Tryd.prog w = .ok (.agg (UARR .u8 192 fun _ => 0)) w := run_build (P := Tryd.prog) w 45 #[] _ built_none
theorem info_step (f : Nat → Nat) : (Tryd.prog.info? 45).map (·.size) = some (UARR .u8 192 f).size := by rw [UARR_size]; kernel_rfl
theorem range_input {w : World} {base g m cap : Nat} {d : Int} {l : List Nat} (h : w.ownsRow base 61 96 (.slice (some ⟨g, 0, none⟩) m cap) m (BY (INL d (FULL l) m))) (t : Nat) (ht : t < m) : w.rangeAt g (t * 96) (ULIST .u8 96 (INPT d l t)) := fun i v hv => by
  obtain ⟨hi, rfl⟩ := ulist_some hv
  rw [h.cellAt (t * 96 + i) (by omega), BY_get _ _ (by rw [INL_length]; omega), Nat.mul_comm t 96, INL_get d (FULL l) t i hi m ht]
  rfl
theorem part_has {w : World} {g n : Nat} {f : Nat → Nat} {t : TypeId} (h : Has w g (UARR .u8 n f) t) (o m : Nat) (hm : o + m ≤ n) (F : Nat → Nat) (hF : ∀ i, i < m → f (o + i) = F i) : w.rangeAt g o (ULIST .u8 m F) := fun j v hv => by
  obtain ⟨hj, rfl⟩ := ulist_some hv
  rw [h.cell, UARR_get _ _ _ _ (by omega), hF j hj]
theorem wpList_step_at {ops : Array Oper} {rest : List Oper} {o : Oper} {a : Act} {w : World} {Q : Exit → Act → World → Prop} (hg : o.guard = none) (x1 x2 x3 x4 : Operand) (ho : o.op = .build 45 #[(0, x1), (1, x2), (2, x3), (3, x4)]) (s t b c : Nat → Nat)
    (h1 : a.eval x1 = .agg (UARR .u8 32 s)) (h2 : a.eval x2 = .agg (UARR .u8 32 t)) (h3 : a.eval x3 = .agg (UARR .u8 64 b)) (h4 : a.eval x4 = .agg (UARR .u8 64 c))
    (h : wpList Tryd.prog ops Q rest (a.put o.dst (.agg (UARR .u8 192 (STEPN s t b c)))) w) : wpList Tryd.prog ops Q (o :: rest) a w :=
  wpList_plain hg fun _ hK => by
    have hr : (execOp a.eval o).run Tryd.prog w = .ok (.value (.agg (UARR .u8 192 (STEPN s t b c)))) w := by
      unfold execOp
      rw [ho]
      simp only [List.map_toArray, List.map_cons, List.map_nil, h1, h2, h3, h4]
      exact run_value (run_build (P := Tryd.prog) w 45 _ _ (built_step s t b c))
    unfold Oper.wp
    rw [hr]
    exact hK _ _ h
theorem wrap_minus (A q x : Nat) (h : q ≤ A) (hA : A < 2 ^ 30) (hx : A - q = x) : IntKind.i64.wrap ((A : Int) - (q : Int)) = (x : Int) := by rw [IntKind.wrap_i64]; omega
theorem desc_none {d : Int} {l k : List Nat} (h : DESC d l k = none) : (fun _ : Nat => 0) = ANSN d l k (DESC d l k) ∧ false = (DESC d l k).isSome := by
  rw [h]
  exact ⟨rfl, rfl⟩

set_option maxHeartbeats 4000000 in
theorem descend_ok (d : Int) (a : Option Addr) (n c : Nat) (l : List Nat) (b : Option Addr) (m c' : Nat) (k : List Nat) (w : World) (h1 : Text w a n l) (h1c : a = none → c = 0) (h1n : n ≤ c) (h1a : ∀ x, a = some x → x.block < w.heap.size) (h2 : Text w b m k) (h2c : b = none → c' = 0) (h2n : m ≤ c') (h2a : ∀ x, b = some x → x.block < w.heap.size) (hn : n < 2 ^ 30) (hm : m < 2 ^ 30) (hT : Tabled w) : Calls Tryd.prog 16 #[.int .i64 d, .slice a n c, .slice b m c'] w fun e w' =>
    e = .returned (.tuple #[.agg (UARR .u8 192 (ANSN d l k (DESC d l k))), .bool (DESC d l k).isSome]) ∧ Below w.heap.size w w' := by
  have H : Aside (Text w a n l ∧ (a = none → c = 0) ∧ n ≤ c ∧ (∀ x, a = some x → x.block < w.heap.size) ∧ Text w b m k ∧ (b = none → c' = 0) ∧ m ≤ c' ∧ (∀ x, b = some x → x.block < w.heap.size) ∧ n < 2 ^ 30 ∧ m < 2 ^ 30 ∧ Tabled w) := ⟨h1, h1c, h1n, h1a, h2, h2c, h2n, h2a, hn, hm, hT⟩
  clear h1 h1c h1n h1a h2 h2c h2n h2a hn hm hT
  have hz := zero192
  have hbn := build_none
  obtain ⟨w0, hw0⟩ : ∃ w0, w.alloc (.cells (UARR .u8 192 fun _ => 0) 45) = w0 := ⟨_, rfl⟩
  have hb0 : Below w.heap.size w w0 := by rw [← hw0]; exact (Below.refl _ _).alloc (Nat.le_refl _) _
  have h60 : Has w0 w.heap.size (UARR .u8 192 fun _ => 0) 45 := by rw [← hw0]; exact Has.new w _ _
  have hsz0 : w.heap.size < w0.heap.size := h60.lt
  have t1 := H.out.1.below hb0
  have t2 := H.out.2.2.2.2.1.below hb0
  have ce := bytesequal_ok a n c l b m c' k w0 t1 t2
  have cs1 := fun W (hW : Below w0.heap.size w0 W) => sum_one d W a n c l (t1.below hW) H.out.2.2.1 (fun x hx => by have := H.out.2.2.2.1 x hx; have := hW.size; omega) (by have := H.out.2.2.2.2.2.2.2.2.1; omega) ((H.out.2.2.2.2.2.2.2.2.2.2.below hb0).below hW)
  have cs2 := fun W (hW : Below w0.heap.size w0 W) => sum_one d W b m c' k (t2.below hW) H.out.2.2.2.2.2.2.1 (fun x hx => by have := H.out.2.2.2.2.2.2.2.1 x hx; have := hW.size; omega) (by have := H.out.2.2.2.2.2.2.2.2.2.1; omega) ((H.out.2.2.2.2.2.2.2.2.2.2.below hb0).below hW)
  have ci1 := fun W (hW : Below w0.heap.size w0 W) => inputs_ok d a n c l W (t1.below hW) H.out.2.1 H.out.2.2.1 (fun x hx => by have := H.out.2.2.2.1 x hx; have := hW.size; omega) H.out.2.2.2.2.2.2.2.2.1 ((H.out.2.2.2.2.2.2.2.2.2.2.below hb0).below hW)
  have ci2 := fun W (hW : Below w0.heap.size w0 W) => inputs_ok d b m c' k W (t2.below hW) H.out.2.2.2.2.2.1 H.out.2.2.2.2.2.2.1 (fun x hx => by have := H.out.2.2.2.2.2.2.2.1 x hx; have := hW.size; omega) H.out.2.2.2.2.2.2.2.2.2.1 ((H.out.2.2.2.2.2.2.2.2.2.2.below hb0).below hW)
  clear t1 t2
  by_cases hlk : l = k
  · have hD : DESC d l k = none := by unfold DESC; rw [if_pos hlk]
    obtain ⟨e1, e2⟩ := desc_none hD
    rw [← e1, ← e2]
    rw [decide_eq_true hlk] at ce
    clear e1 e2 hD hlk cs1 cs2 ci1 ci2
    have hst := store_has h60 (fun _ => 0)
    go_enter Tryd.func16, Tryd.ntmps16
    go_wp2_with fail
    refine ce.mono ?_
    rintro e w1 ⟨rfl, rfl⟩
    clear ce
    go_wp2
    refine bodyPost_ret (v := .tuple #[.agg (UARR .u8 192 fun _ => 0), .bool false]) ?_ rfl ⟨rfl, below_row hb0 (Nat.le_refl _) _⟩
    exact results_step rfl _ _ w.heap.size 45 _ (0, 0) _ rfl (h60.row _) _ rfl Tryd.underlying45 (info_step _)
  · rw [decide_eq_false hlk] at ce
    have HL : Aside (l ≠ k) := hlk
    clear hlk
    have hrest : ∀ W, Below w0.heap.size w0 W → Has W w.heap.size (UARR .u8 192 fun _ => 0) 45 := fun W hW => h60.keep hW
    by_cases hoh : ONEHASH d l k = true
    · have hD : DESC d l k = FOUND d l k := by unfold DESC; rw [if_neg HL.out, if_pos hoh]
      rw [hD]
      have hoh' : ((List.range 32).all fun i => HASHOF d l i == HASHOF d k i) = true := hoh
      clear hD hoh
      generalize HASHOF d l = F1 at *
      generalize HASHOF d k = F2 at *
      have hq := equal_hash F1 F2
      rw [hoh'] at hq
      clear hoh'
      go_enter Tryd.func16, Tryd.ntmps16
      go_wp2_with fail
      refine ce.mono ?_
      rintro e w1 ⟨rfl, rfl⟩
      clear ce
      go_wp2_with fail
      refine (cs1 _ (Below.refl _ _)).mono ?_
      rintro e w2 ⟨rfl, hb2⟩
      go_wp2_with fail
      refine (cs2 _ hb2).mono ?_
      rintro e w3 ⟨rfl, hb3⟩
      clear cs1 cs2
      have hb3' : Below w0.heap.size w0 w3 := hb2.trans (hb3.mono hb2.size)
      clear hb2 hb3
      go_wp2_with fail
      refine (ci1 _ hb3').mono ?_
      rintro e w4 ⟨v1, rfl, hown1, hb4⟩
      have hb4' : Below w0.heap.size w0 w4 := hb3'.trans (hb4.mono hb3'.size)
      go_wp2_with fail
      refine (ci2 _ hb4').mono ?_
      rintro e w5 ⟨v2, rfl, hown2, hb5⟩
      clear ci1 ci2 hq
      have hb5' : Below w0.heap.size w0 w5 := hb4'.trans (hb5.mono hb4'.size)
      have hown1' := own_keep hown1 hb5
      obtain ⟨a1, ca, rfl, hf1⟩ := own_form hown1'
      obtain ⟨ga, rfl⟩ := hf1 (NB_pos l)
      obtain ⟨a2, cb, rfl, hf2⟩ := own_form hown2
      obtain ⟨gb, rfl⟩ := hf2 (NB_pos k)
      have hga := (hown1'.lt ga rfl)
      have hgb := (hown2.lt gb rfl)
      have hlt1 := NB_lt l (by rw [H.out.1.1]; exact H.out.2.2.2.2.2.2.2.2.1)
      have hlt2 := NB_lt k (by rw [H.out.2.2.2.2.1.1]; exact H.out.2.2.2.2.2.2.2.2.2.1)
      have R : Aside (w5.ownsRow w3.heap.size 61 96 (.slice (some ⟨ga, 0, none⟩) (NB l) ca) (NB l) (BY (INL d (FULL l) (NB l))) ∧ w5.ownsRow w4.heap.size 61 96 (.slice (some ⟨gb, 0, none⟩) (NB k) cb) (NB k) (BY (INL d (FULL k) (NB k))) ∧ Below w0.heap.size w0 w5 ∧ ga < w5.heap.size ∧ gb < w5.heap.size ∧ NB l < 2 ^ 30 ∧ NB k < 2 ^ 30) := ⟨hown1', hown2, hb5', hga.2, hgb.2, hlt1, hlt2⟩
      clear hown1 hown1' hown2 hb3' hb4 hb4' hb5 hb5' hga hgb hf1 hf2 hlt1 hlt2
      obtain ⟨A, hA⟩ : ∃ A, NB l = A := ⟨_, rfl⟩
      obtain ⟨B, hB⟩ : ∃ B, NB k = B := ⟨_, rfl⟩
      rw [hA, hB] at R ⊢
      have HF : Aside (FOUND d l k = FIND (UNL d l k) (min A B) 1 ∧ NB l = A ∧ NB k = B) := ⟨by rw [← hA, ← hB]; rfl, hA, hB⟩
      clear hA hB
      go_wp2_with fail
      go_loopg [10, 11, 12] (min A B) (fun g s10 s11 s12 wx => ∃ n : Nat, s10 = .int .i64 (n : Int) ∧ Aside (n + g = min A B + 1 ∧ 1 ≤ n ∧ FIND (UNL d l k) g n = FOUND d l k ∧ Below w5.heap.size w5 wx))
      case atStart => exact ⟨1, rfl, by omega, Nat.le_refl _, HF.out.1.symm, Below.refl _ _⟩
      case round =>
        obtain ⟨q, rfl, I⟩ := hrel
        cases gk with
        | zero =>
          have hfn : FOUND d l k = none := by rw [← I.out.2.2.1]; rfl
          obtain ⟨e1, e2⟩ : (fun _ : Nat => 0) = ANSN d l k (FOUND d l k) ∧ false = (FOUND d l k).isSome := by rw [hfn]; exact ⟨rfl, rfl⟩
          have E : Aside ((fun _ : Nat => 0) = ANSN d l k (FOUND d l k) ∧ false = (FOUND d l k).isSome) := ⟨e1, e2⟩
          clear e1 e2 hfn
          have hW5 : Below w0.heap.size w0 wr := R.out.2.2.1.trans (I.out.2.2.2.mono R.out.2.2.1.size)
          have h6 := hrest _ hW5
          have hst := store_has h6 (fun _ => 0)
          have hqq : ¬ (q : Int) ≤ (A : Int) ∨ (q : Int) ≤ (A : Int) ∧ ¬ (q : Int) ≤ (B : Int) := by have := I.out.1; omega
          rcases hqq with hqq | ⟨hqq, hqr⟩
          all_goals go_wp2
          all_goals refine bodyPost_ret (v := .tuple #[.agg (UARR .u8 192 fun _ => 0), .bool false]) ?_ rfl ⟨by rw [← E.out.1, ← E.out.2], below_row (hb0.trans (hW5.mono (by omega))) (Nat.le_refl _) _⟩
          all_goals exact results_step rfl _ _ w.heap.size 45 _ (0, 0) _ rfl (h6.row _) _ rfl Tryd.underlying45 (info_step _)
        | succ g =>
          obtain ⟨i1, i2, i3, i4⟩ := I.out
          have hqA : (q : Int) ≤ (A : Int) := by omega
          have hqB : (q : Int) ≤ (B : Int) := by omega
          obtain ⟨x, hx⟩ : ∃ x : Nat, A - q = x := ⟨_, rfl⟩
          obtain ⟨y, hy⟩ : ∃ y : Nat, B - q = y := ⟨_, rfl⟩
          obtain ⟨r1, r2, r3, r4, r5, r6, r7⟩ := R.out
          have ex : IntKind.i64.wrap ((A : Int) - (q : Int)) = (x : Int) := wrap_minus A q x (by omega) (by omega) hx
          have ey : IntKind.i64.wrap ((B : Int) - (q : Int)) = (y : Int) := wrap_minus B q y (by omega) (by omega) hy
          have x1 : (x : Int) < (A : Int) := by omega
          have y1 : (y : Int) < (B : Int) := by omega
          have l1 := range_input (own_keep r1 i4) x (by omega)
          have l2 := range_input (own_keep r2 i4) y (by omega)
          have ht : wrap64 ((q : Int) + 1) = ((q + 1 : Nat) : Int) := by unfold wrap64; omega
          have hu : UNL d l k q = !((List.range 96).all fun i => INPT d l x i == INPT d k y i) := by unfold UNL; rw [HF.out.2.1, HF.out.2.2, hx, hy]
          have hga : ga < wr.heap.size := Nat.lt_of_lt_of_le r4 i4.size
          have hgb : gb < wr.heap.size := Nat.lt_of_lt_of_le r5 i4.size
          have J : Aside (q + 1 + g = min A B + 1 ∧ (UNL d l k q = false → FIND (UNL d l k) g (q + 1) = FOUND d l k) ∧ (UNL d l k q = true → FOUND d l k = some q) ∧ A - q = x ∧ B - q = y) := by
            refine ⟨by omega, fun h => ?_, fun h => ?_, hx, hy⟩
            · rw [← i3, FIND, if_neg (by rw [h]; decide)]
            · rw [← i3, FIND, if_pos h]
          have hW5 : Below w0.heap.size w0 wr := r3.trans (i4.mono r3.size)
          clear i1 i2 i3 hx hy r1 r2 r3 r4 r5 r6 r7
          go_upto_region 7 with fail
          refine descend7 _ _ _ _ _ _ _ _ _ _ _ _ _ _ _ _ _ _ _ _ _ _ _ _ _ _ _ _ _ _ _ _ _ _ _ _ _ _ _ _ _ _ _ _ _ _ _ _ _ _ _ _ _ _ _ _ _ _ _ _ _ _ _ _ _ _ _ _ _ _ wr ga gb A B ca cb q x y (INPT d l x) (INPT d k y) (fun _ _ _ _ _ h => h) ex x1 ey y1 l1 l2 hga hgb ?_
          intro pa pb W7 hb7 hpa hpb
          dsimp only
          clear l1 l2 ex ey x1 y1 hga hgb
          have hq := equal_input (INPT d l x) (INPT d k y)
          have hbW : Below w0.heap.size w0 W7 := hW5.trans (hb7.mono hW5.size)
          have hbV : Below w5.heap.size w5 W7 := i4.trans (hb7.mono i4.size)
          have h67 := hrest _ hbW
          clear hb7 i4 hW5
          cases hal : (List.range 96).all fun i => INPT d l x i == INPT d k y i
          · rw [hal] at hq
            have hfs := J.out.2.2.1 (by rw [hu, hal]; rfl)
            have E : Aside (STEPN (STATE d (FULL l) x) (STATE d (FULL k) y) (BLK (FULL l) x) (BLK (FULL k) y) = ANSN d l k (FOUND d l k) ∧ true = (FOUND d l k).isSome) := by
              rw [hfs]
              refine ⟨?_, rfl⟩
              rw [ANSN, HF.out.2.1, HF.out.2.2, J.out.2.2.2.1, J.out.2.2.2.2]
            have p1 := part_has hpa 0 32 (by decide) (STATE d (FULL l) x) (fun i hi => by rw [Nat.zero_add, INPT, INP, if_pos hi])
            have p2 := part_has hpb 0 32 (by decide) (STATE d (FULL k) y) (fun i hi => by rw [Nat.zero_add, INPT, INP, if_pos hi])
            have p3 := part_has hpa 32 64 (by decide) (BLK (FULL l) x) (fun i hi => by rw [INPT, INP, if_neg (by omega), show 32 + i - 32 = i by omega])
            have p4 := part_has hpb 32 64 (by decide) (BLK (FULL k) y) (fun i hi => by rw [INPT, INP, if_neg (by omega), show 32 + i - 32 = i by omega])
            have hw96 := hpa.whole
            have hv96 := hpb.whole
            clear hfs hu hal J
            generalize INPT d l x = X at *
            generalize INPT d k y = Y at *
            generalize STATE d (FULL l) x = S1 at *
            generalize STATE d (FULL k) y = S2 at *
            generalize BLK (FULL l) x = B1 at *
            generalize BLK (FULL k) y = B2 at *
            go_wp2_with (first
              | (refine wpList_load_mid rfl 61 (.tmp 11) rfl pa 0 rfl (ULIST .u8 96 X) _ hw96 Tryd.underlying61 rfl (by rw [ULIST_length]; kernel_rfl) ?_; rw [← UARR_list])
              | (refine wpList_load_mid rfl 61 (.tmp 12) rfl pb 0 rfl (ULIST .u8 96 Y) _ hv96 Tryd.underlying61 rfl (by rw [ULIST_length]; kernel_rfl) ?_; rw [← UARR_list])
              | (refine wpList_load_mid rfl 35 (.tmp 63) rfl pa 0 rfl (ULIST .u8 32 S1) _ p1 Tryd.underlying35 rfl (hash_len S1) ?_; rw [← UARR_list])
              | (refine wpList_load_mid rfl 35 (.tmp 65) rfl pb 0 rfl (ULIST .u8 32 S2) _ p2 Tryd.underlying35 rfl (hash_len S2) ?_; rw [← UARR_list])
              | (refine wpList_load_mid rfl 43 (.tmp 67) rfl pa 32 rfl (ULIST .u8 64 B1) _ p3 Tryd.underlying43 rfl (block_len B1) ?_; rw [← UARR_list])
              | (refine wpList_load_mid rfl 43 (.tmp 69) rfl pb 32 rfl (ULIST .u8 64 B2) _ p4 Tryd.underlying43 rfl (block_len B2) ?_; rw [← UARR_list])
              | (refine wpList_step_at rfl (.tmp 64) (.tmp 66) (.tmp 68) (.tmp 70) rfl S1 S2 B1 B2 rfl rfl rfl rfl ?_)
              | (refine wpList_store_row rfl 45 (.tmp 6) (.tmp 71) rfl _ _ rfl rfl _ _ h67 (info_step _) (by rw [UARR_size, UARR_size]) (UARR_one _ _ _) ?_))
            refine bodyPost_ret (v := .tuple #[.agg (UARR .u8 192 (STEPN S1 S2 B1 B2)), .bool true]) ?_ rfl ⟨by rw [← E.out.1, ← E.out.2], below_row (hb0.trans (hbW.mono (by omega))) (Nat.le_refl _) _⟩
            exact results_step rfl _ _ w.heap.size 45 _ (0, 0) _ rfl (h67.row _) _ rfl Tryd.underlying45 (info_step _)
          · rw [hal] at hq
            have hfs := J.out.2.1 (by rw [hu, hal]; rfl)
            have hq1 := J.out.1
            have K1 : Aside (q + 1 + g = min A B + 1 ∧ 1 ≤ q + 1 ∧ FIND (UNL d l k) g (q + 1) = FOUND d l k ∧ Below w5.heap.size w5 W7) := ⟨hq1, by omega, hfs, hbV⟩
            have hw96 := hpa.whole
            have hv96 := hpb.whole
            clear hfs hu hal J hq1 hbV
            generalize INPT d l x = X at *
            generalize INPT d k y = Y at *
            go_wp2_with (first
              | (refine wpList_load_mid rfl 61 (.tmp 11) rfl pa 0 rfl (ULIST .u8 96 X) _ hw96 Tryd.underlying61 rfl (by rw [ULIST_length]; kernel_rfl) ?_; rw [← UARR_list])
              | (refine wpList_load_mid rfl 61 (.tmp 12) rfl pb 0 rfl (ULIST .u8 96 Y) _ hv96 Tryd.underlying61 rfl (by rw [ULIST_length]; kernel_rfl) ?_; rw [← UARR_list]))
            go_roundg g
            case measure => exact Nat.lt_succ_self _
            case rel => exact ⟨q + 1, by first | rfl | rw [ht], K1⟩
    · have hD : DESC d l k = none := by unfold DESC; rw [if_neg HL.out, if_neg hoh]
      obtain ⟨e1, e2⟩ := desc_none hD
      rw [← e1, ← e2]
      have hoh' : ((List.range 32).all fun i => HASHOF d l i == HASHOF d k i) = false := by have h := hoh; unfold ONEHASH at h; exact Bool.eq_false_iff.2 h
      clear e1 e2 hD hoh ci1 ci2
      generalize HASHOF d l = F1 at *
      generalize HASHOF d k = F2 at *
      have hq := equal_hash F1 F2
      rw [hoh'] at hq
      clear hoh'
      go_enter Tryd.func16, Tryd.ntmps16
      go_wp2_with fail
      refine ce.mono ?_
      rintro e w1 ⟨rfl, rfl⟩
      clear ce
      go_wp2_with fail
      refine (cs1 _ (Below.refl _ _)).mono ?_
      rintro e w2 ⟨rfl, hb2⟩
      go_wp2_with fail
      refine (cs2 _ hb2).mono ?_
      rintro e w3 ⟨rfl, hb3⟩
      clear cs1 cs2
      have hb3' : Below w0.heap.size w0 w3 := hb2.trans (hb3.mono hb2.size)
      have h63 := hrest _ hb3'
      have hst := store_has h63 (fun _ => 0)
      go_wp2
      refine bodyPost_ret (v := .tuple #[.agg (UARR .u8 192 fun _ => 0), .bool false]) ?_ rfl ⟨rfl, below_row (hb0.trans (hb3'.mono (by omega))) (Nat.le_refl _) _⟩
      exact results_step rfl _ _ w.heap.size 45 _ (0, 0) _ rfl (h63.row _) _ rfl Tryd.underlying45 (info_step _)
end Go.Proofs.YtgnbkcdclelmfaaDoor
