/- Texts of FindPlays, one behind the other: FindTells. -/
import Derived.Test.YtlbcnaenhghieaaFindPlaysP12
import Derived.Test.YtlbcnaenhghieaaFindPlaysP13
/- What a find tells of hashes that stand twice, of its size: held against the list. -/
namespace Go.Proofs.Ytlbcnaenhghieaa
open Go.RowKit
set_option maxRecDepth 100000

theorem build_arr {ops : Array Oper} {rest : List Oper} {o : Oper} {a : Act} {w : World} {Q : Exit → Act → World → Prop} (hw : Region.wanted o (yielded ops a.tmps) = true) {x : Operand} {z : Int} {C : Array Value} (ho : o.op = .build 30 #[(0, x)]) (hx : a.eval x = .int .u8 z) (hb : Try.prog.built 30 [(0, .int .u8 z)] = some C)
    (hh : wpList Try.prog ops Q rest (a.put o.dst (.agg C)) w) : wpList Try.prog ops Q (o :: rest) a w := by
  have e : Try.prog.built 30 ((#[(0, x)] : Array (Nat × Operand)).map fun (i, x) => (i, a.eval x)).toList = some C := by
    simp only [List.map_toArray, List.map_cons, List.map_nil, hx]
    exact hb
  simp only [wpList]
  rw [if_pos hw]
  refine .inl (wp_build 30 _ ho (by rw [e]; rfl) ?_)
  rw [e]
  exact hh
theorem built_201 : Try.prog.built 30 [(0, .int .u8 201)] = some (CELLS (MK 201)).toArray := by kernel_rfl
theorem built_202 : Try.prog.built 30 [(0, .int .u8 202)] = some (CELLS (MK 202)).toArray := by kernel_rfl
/-- two lists of hashes of one's own, apart. -/
structure TWM (w0 w : World) (S n : Nat) (va vb : Value) (xs ys : List Value) : Prop where
  one : w.ownsRow S 30 32 va n xs
  two : w.ownsRow S 30 32 vb n ys
  ne : ∀ k, va.ownBlock = some k → vb.ownBlock ≠ some k
  bel : Below S w0 w
  size : S ≤ w.heap.size
theorem TWM.keep {w0 w w' : World} {S n : Nat} {va vb : Value} {xs ys : List Value} (h : TWM w0 w S n va vb xs ys) (hb : Below w.heap.size w w') : TWM w0 w' S n va vb xs ys :=
  ⟨own_heap h.one fun k e => hb.block k (h.one.lt k e).2, own_heap h.two fun k e => hb.block k (h.two.lt k e).2, h.ne, h.bel.trans (hb.mono h.size), Nat.le_trans h.size hb.size⟩
theorem own_there {w : World} {S g n c j : Nat} {xs : List Value} (h : w.ownsRow S 30 32 (.slice (some ⟨g, 0, none⟩) n c) n xs) (hj : j < n) : w.there g (j * 32) 32 := fun i hi => by
  have hl := h.1
  have hs := Nat.mul_le_mul_right 32 hj
  refine ⟨?_, h.frozenAt _⟩
  rw [h.cellAt _ (by omega), List.getElem?_eq_getElem (by omega)]
  rfl
theorem TWM.put {w0 w : World} {S n ca cb ga gb j : Nat} {xs ys : List Value} {a b : Int} (h : TWM w0 w S n (.slice (some ⟨ga, 0, none⟩) n ca) (.slice (some ⟨gb, 0, none⟩) n cb) (MKP xs a j) (MKP ys b j)) (hx : xs.length = 32 * n) (hy : ys.length = 32 * n) (hj : j < n) : TWM w0 ((w.setCells ga (j * 32) (CELLS (MK a))).setCells gb (j * 32) (CELLS (MK b))) S n (.slice (some ⟨ga, 0, none⟩) n ca) (.slice (some ⟨gb, 0, none⟩) n cb) (MKP xs a (j + 1)) (MKP ys b (j + 1)) := by
  have hne : ga ≠ gb := fun e => h.ne ga rfl (by rw [e]; rfl)
  obtain ⟨o1, g1⟩ := own_over (CELLS (MK a)) _ (j * 32) w h.one
  have t1 : (w.setCells ga (j * 32) (CELLS (MK a))).ownsRow S 30 32 (.slice (some ⟨gb, 0, none⟩) n cb) n (MKP ys b j) := own_heap h.two fun k e => g1.block k (h.two.lt k e).2 (fun e2 => hne (by
    have e : gb = k := by simpa [Value.ownBlock] using e
    have e2 := Option.some.inj e2
    omega))
  obtain ⟨o2, g2⟩ := own_over (CELLS (MK b)) _ (j * 32) _ t1
  have u1 := own_heap o1 (w' := (w.setCells ga (j * 32) (CELLS (MK a))).setCells gb (j * 32) (CELLS (MK b))) fun k e => g2.block k (o1.lt k e).2 (fun e2 => hne (by
    have e : ga = k := by simpa [Value.ownBlock] using e
    have e2 := Option.some.inj e2
    omega))
  rw [MKP_next hx hj] at u1
  rw [MKP_next hy hj] at o2
  refine ⟨u1, o2, h.ne, ?_, Nat.le_trans h.size (Nat.le_trans g1.size g2.size)⟩
  exact (h.bel.grown g1 h.size (fun k e => by cases e; exact (h.one.lt ga rfl).1)).grown g2 (Nat.le_trans h.size g1.size) (fun k e => by cases e; exact (h.two.lt gb rfl).1)
/-- the first has grown. -/
structure TWH (w0 w : World) (S n g c : Nat) (vb : Value) (xs ys : List Value) : Prop where
  one : w.ownsRow S 30 32 (.slice (some ⟨g, 0, none⟩) (n + 1) c) (n + 1) xs
  two : w.ownsRow S 30 32 vb n ys
  ne : vb.ownBlock ≠ some g
  bel : Below S w0 w
  size : S ≤ w.heap.size
theorem TWM.grow {w0 w w' : World} {S n g c : Nat} {va vb : Value} {xs ys zs : List Value} {o : Obj} (h : TWM w0 w S n va vb xs ys) (hown : w'.ownsRow S 30 32 (.slice (some ⟨g, 0, none⟩) (n + 1) c) (n + 1) zs) (hg : (w.alloc o).grownBy w' va.ownBlock) (hat : va.ownBlock = some g ∨ g = (w.alloc o).heap.size) : TWH w0 w' S n g c vb zs ys := by
  have hsz : (w.alloc o).heap.size = w.heap.size + 1 := by simp
  have hs2 := hg.size
  have hS := h.size
  refine ⟨hown, own_heap (h.two.alloc o) fun k e => hg.block k (by have := (h.two.lt k e).2; omega) (fun e2 => h.ne k e2.symm e), fun e => ?_, (h.bel.alloc hS o).grown hg (by omega) (fun k e => (h.one.lt k e).1), by omega⟩
  rcases hat with c | c
  · exact h.ne g c e
  · have := (h.two.lt g e).2
    omega
theorem TWH.grow {w0 w w' : World} {S n g c g' c' : Nat} {vb : Value} {xs ys zs : List Value} {o : Obj} (h : TWH w0 w S n g c vb xs ys) (hown : w'.ownsRow S 30 32 (.slice (some ⟨g', 0, none⟩) (n + 1) c') (n + 1) zs) (hg : (w.alloc o).grownBy w' vb.ownBlock) : w'.ownsRow S 30 32 (.slice (some ⟨g, 0, none⟩) (n + 1) c) (n + 1) xs ∧ w'.ownsRow S 30 32 (.slice (some ⟨g', 0, none⟩) (n + 1) c') (n + 1) zs ∧ Below S w0 w' ∧ S ≤ w'.heap.size := by
  have hsz : (w.alloc o).heap.size = w.heap.size + 1 := by simp
  have hs := h.size
  have hs2 := hg.size
  refine ⟨own_heap (h.one.alloc o) fun k e => hg.block k (by have := (h.one.lt k e).2; omega) (fun e2 => h.ne ?_), hown, (h.bel.alloc h.size o).grown hg (by omega) (fun k e => (h.two.lt k e).1), by omega⟩
  rw [← e2, ← e]
  rfl
theorem own_rangeh {w : World} {S g n c j : Nat} {l : List Int} (h : w.ownsRow S 30 32 (.slice (some ⟨g, 0, none⟩) n c) n (CELLS l)) (hr : ∀ x ∈ l, 0 ≤ x ∧ x ≤ 255) (hj : j < n) : w.rangeAt g (j * 32) (CELLS (HSH l j)) := by
  have := (own_flat h hr).at hj
  rwa [Nat.zero_add] at this
theorem MKS_range (m : Int) (hm : 0 ≤ m ∧ m ≤ 255) : ∀ k, ∀ x ∈ MKS m k, 0 ≤ x ∧ x ≤ 255
  | 0, x, h => by simp [MKS] at h
  | k + 1, x, h => by
    rw [MKS] at h
    rcases List.mem_append.1 h with h | h
    · exact MKS_range m hm k x h
    · unfold MK at h
      rcases List.mem_cons.1 h with rfl | h
      · exact hm
      · obtain rfl := List.eq_of_mem_replicate h
        omega
theorem TWS_range {f : Nat → List Int} {n m : Nat} (hm : m ≤ n) (hf : ∀ i, i < n → FISH (f i)) : ∀ x ∈ (TWS f n m).flatten, 0 ≤ x ∧ x ≤ 255 := fun x hx => by
  obtain ⟨l, hl, hx⟩ := List.mem_flatten.1 hx
  obtain ⟨i, hi, rfl⟩ := TWS_mem hl
  exact (hf i (by omega)).2 x hx
set_option maxHeartbeats 8000000 in
theorem tells22_ok {w : World} {B B2 p p2 n : Nat} {v v2 : Value} {m : Option Nat} {f : Nat → List Int} (H : FIND w B p v m f n) (H2 : RFIND w B2 p2 v2 f n) (hn : n < 100000) : Calls Try.prog 13 #[.pointer (some ⟨p, 0, none⟩), .pointer (some ⟨p2, 0, none⟩)] w fun e w' => e = .returned (.bool true) ∧ Below w.heap.size w w' := by
  have hrt := find_rtwice H2 (by omega)
  have HA : Aside (FIND w B p v m f n ∧ RFIND w B2 p2 v2 f n ∧ n < 100000) := ⟨H, H2, hn⟩
  obtain ⟨T, hT⟩ : ∃ T, TWS f n n = T := ⟨_, rfl⟩
  have hTr : ∀ x ∈ T.flatten, 0 ≤ x ∧ x ≤ 255 := by rw [← hT]; exact TWS_range (Nat.le_refl n) H.is
  have hTl : T.flatten.length = 32 * T.length := by rw [← hT]; exact TWS_flat H.is
  have hTk : T.length ≤ n := by rw [← hT]; exact TWS_length f n n
  have HT : Aside (TWS f n n = T ∧ (∀ x ∈ T.flatten, 0 ≤ x ∧ x ≤ 255) ∧ T.flatten.length = 32 * T.length ∧ T.length ≤ 100000) := ⟨hT, hTr, hTl, by omega⟩
  rw [hT] at hrt
  clear H H2 hn hT hTr hTl hTk
  obtain ⟨k, hk⟩ : ∃ k, T.length = k := ⟨_, rfl⟩
  rw [hk] at hrt
  have HK : Aside (T.length = k) := hk
  clear hk
  go_enter Try.func13, Try.ntmps13
  go_wp2_with fail
  refine hrt.mono ?_
  rintro e w1 ⟨aw, cw, rfl, ow, bl1⟩
  clear hrt
  have W1 : Aside (FIND w1 B p v m f n ∧ RFIND w1 B2 p2 v2 f n ∧ Flat w1 aw k T.flatten ∧ Below w.heap.size w w1) := ⟨HA.out.1.keep bl1, HA.out.2.1.keep bl1, own_flat ow HT.out.2.1, bl1⟩
  have ht1 := find_twice W1.out.1 (by have := HA.out.2.2; omega)
  rw [HT.out.1, HK.out] at ht1
  clear ow bl1
  go_wp2_with fail
  refine ht1.mono ?_
  rintro e w2 ⟨aa, ca, rfl, oa, bl2⟩
  clear ht1
  have ht2 := find_twice (W1.out.1.keep bl2) (by have := HA.out.2.2; omega)
  rw [HT.out.1, HK.out] at ht2
  have W2 : Aside (w2.ownsRow w1.heap.size 30 32 (.slice aa k ca) k (CELLS T.flatten) ∧ Below w1.heap.size w1 w2) := ⟨oa, bl2⟩
  clear oa bl2
  go_wp2_with fail
  refine ht2.mono ?_
  rintro e w3 ⟨ab, cb, rfl, ob, bl3⟩
  clear ht2
  have M3 : Aside (TWM w1 w3 w1.heap.size k (.slice aa k ca) (.slice ab k cb) (CELLS T.flatten) (CELLS T.flatten)) := ⟨own_heap W2.out.1 fun j e => bl3.block j (W2.out.1.lt j e).2, own_mono ob W2.out.2.size, fun j e e2 => by
    have := (W2.out.1.lt j e).2
    have := (ob.lt j e2).1
    omega, W2.out.2.trans (bl3.mono W2.out.2.size), Nat.le_trans W2.out.2.size bl3.size⟩
  clear ob bl3
  have c1 := samehashes_ok aa aw k k ca cw T.flatten T.flatten w3 (own_flat M3.out.one HT.out.2.1) (W1.out.2.2.1.below M3.out.bel) (by have := HT.out.2.2.2; have := HK.out; omega)
  rw [decide_eq_true rfl] at c1
  go_wp2_with fail
  refine c1.mono ?_
  rintro e w4 ⟨rfl, bl4⟩
  have M4 : Aside (TWM w1 w4 w1.heap.size k (.slice aa k ca) (.slice ab k cb) (CELLS T.flatten) (CELLS T.flatten)) := M3.out.keep bl4
  clear c1 bl4
  have c2 := samehashes_ok ab aw k k cb cw T.flatten T.flatten w4 (own_flat M4.out.two HT.out.2.1) (W1.out.2.2.1.below M4.out.bel) (by have := HT.out.2.2.2; have := HK.out; omega)
  rw [decide_eq_true rfl] at c2
  go_wp2_with fail
  refine c2.mono ?_
  rintro e w5 ⟨rfl, bl5⟩
  have M5 : Aside (TWM w1 w5 w1.heap.size k (.slice aa k ca) (.slice ab k cb) (CELLS T.flatten) (CELLS T.flatten)) := M4.out.keep bl5
  clear c2 bl5
  go_wp2_with fail
  have hb1 := built_201
  have hb2 := built_202
  have LM : Aside ((CELLS T.flatten).length = 32 * k ∧ (Try.prog.info? 30).map (·.size) = some (CELLS (MK 201)).toArray.size ∧ (Try.prog.info? 30).map (·.size) = some (CELLS (MK 202)).toArray.size) := ⟨by rw [CELLS, List.length_map]; exact HT.out.2.2.1.trans (by rw [HK.out]), info_arr (MK_length _), info_arr (MK_length _)⟩
  go_loopg [8] k (fun q s8 wx => ∃ (i : Nat), s8 = .int .i64 (i : Int) ∧ Aside (i + q = k ∧ TWM w1 wx w1.heap.size k (.slice aa k ca) (.slice ab k cb) (MKP (CELLS T.flatten) 201 i) (MKP (CELLS T.flatten) 202 i)))
  case atStart => exact ⟨0, rfl, by omega, by rw [MKP_zero, MKP_zero]; exact M5.out⟩
  case round =>
    obtain ⟨i, rfl, A⟩ := hrel
    cases gk with
    | succ q =>
      have hin : i < k := by have := A.out.1; omega
      have hlt : (i : Int) < (k : Int) := by omega
      obtain ⟨ga, rfl⟩ := own_some A.out.2.one (by omega)
      obtain ⟨gb, rfl⟩ := own_some A.out.2.two (by omega)
      have t1 : wr.there ga (i * 32) (CELLS (MK 201)).toArray.size := own_there A.out.2.one hin
      have hne : gb ≠ ga := fun e => A.out.2.ne ga rfl (by rw [e]; rfl)
      have t2 : (wr.setCells ga (i * 32) (CELLS (MK 201)).toArray.toList).there gb (i * 32) (CELLS (MK 202)).toArray.size := by
        have o := own_heap A.out.2.two (w' := wr.setCells ga (i * 32) (CELLS (MK 201))) fun j e => (own_over (CELLS (MK 201)) _ (i * 32) wr A.out.2.one).2.block j (A.out.2.two.lt j e).2 (fun e2 => hne (by
          have e : gb = j := by simpa [Value.ownBlock] using e
          have e2 := Option.some.inj e2
          omega))
        exact own_there o hin
      have ei : wrap64 ((i : Int) + 1) = ((i + 1 : Nat) : Int) := by have := HT.out.2.2.2; have := HK.out; unfold wrap64; omega
      have Z : Aside (i + 1 + q = k ∧ TWM w1 ((wr.setCells ga (i * 32) (CELLS (MK 201)).toArray.toList).setCells gb (i * 32) (CELLS (MK 202)).toArray.toList) w1.heap.size k (.slice (some ⟨ga, 0, none⟩) k ca) (.slice (some ⟨gb, 0, none⟩) k cb) (MKP (CELLS T.flatten) 201 (i + 1)) (MKP (CELLS T.flatten) 202 (i + 1))) := ⟨(Nat.add_right_comm i 1 q).trans A.out.1, A.out.2.put LM.out.1 LM.out.1 hin⟩
      have h1 := LM.out.2.1
      have h2 := LM.out.2.2
      have o1 : Aside ((CELLS (MK 201)).toArray.all (·.oneCell') = true) := cells_one _
      have o2 : Aside ((CELLS (MK 202)).toArray.all (·.oneCell') = true) := cells_one _
      have LM2 : Aside True := trivial
      clear A hin hne LM
      generalize (CELLS (MK 201)).toArray = X at *
      generalize (CELLS (MK 202)).toArray = Y at *
      have H12 : Aside ((Try.prog.info? 30).map (·.size) = some X.size ∧ (Try.prog.info? 30).map (·.size) = some Y.size ∧ wr.there ga (i * 32) X.size ∧ (wr.setCells ga (i * 32) X.toList).there gb (i * 32) Y.size) := ⟨h1, h2, t1, t2⟩
      clear h1 h2 t1 t2
      go_wp2_with (first
        | (refine build_arr (by rfl) rfl rfl hb1 ?_)
        | (refine build_arr (by rfl) rfl rfl hb2 ?_)
        | (refine wpList_store_mid rfl 30 (.tmp 38) (.tmp 36) rfl ga (i * 32) X rfl rfl H12.out.2.2.1 H12.out.1 o1.out ?_)
        | (refine wpList_store_mid rfl 30 (.tmp 39) (.tmp 37) rfl gb (i * 32) Y rfl rfl H12.out.2.2.2 H12.out.2.1 o2.out ?_)
        | fail)
      go_roundg q
      case measure => exact Nat.lt_succ_self _
      case rel => exact ⟨i + 1, by first | rfl | rw [ei], Z.out⟩
    | zero =>
      obtain rfl : i = k := A.out.1
      have hlt : ¬ (i : Int) < (i : Int) := by omega
      have M6 : Aside (TWM w1 wr w1.heap.size i (.slice aa i ca) (.slice ab i cb) (CELLS (MKS 201 i)) (CELLS (MKS 202 i)) ∧ i ≤ 100000) := ⟨by
        have := A.out.2
        rw [MKP_all LM.out.1, MKP_all LM.out.1] at this
        exact this, by have := HT.out.2.2.2; have := HK.out; omega⟩
      obtain ⟨U, hU⟩ : ∃ U, MK 201 = U := ⟨_, rfl⟩
      obtain ⟨V, hV⟩ : ∃ V, MK 202 = V := ⟨_, rfl⟩
      have UV : Aside (U.length = 32 ∧ V.length = 32 ∧ (∀ j, j < i + 1 → HSH (MKS 201 (i + 1)) j = U) ∧ (∀ j, j < i + 1 → HSH (MKS 202 (i + 1)) j = V) ∧ CELLS (MKS 201 (i + 1)) = CELLS (MKS 201 i) ++ CELLS U ∧ CELLS (MKS 202 (i + 1)) = CELLS (MKS 202 i) ++ CELLS V) := ⟨by rw [← hU]; rfl, by rw [← hV]; rfl, fun j hj => by rw [MKS_at 201 hj, hU], fun j hj => by rw [MKS_at 202 hj, hV], by rw [MKS, CELLS_append, hU], by rw [MKS, CELLS_append, hV]⟩
      rw [hU] at hb1
      rw [hV] at hb2
      clear A LM M3 M4 M5 hU hV
      go_wp2_with (first
        | (refine build_arr (by rfl) rfl rfl hb1 ?_)
        | (refine build_arr (by rfl) rfl rfl hb2 ?_)
        | (refine build_one _ rfl 26 30 (.tmp 41) rfl (CELLS U).toArray rfl 32 _ _ Try.underlying26 info_hashv (by simp [CELLS, UV.out.1]) rfl (by decide) (by decide) ?_)
        | (refine build_one _ rfl 26 30 (.tmp 45) rfl (CELLS V).toArray rfl 32 _ _ Try.underlying26 info_hashv (by simp [CELLS, UV.out.2.1]) rfl (by decide) (by decide) ?_)
        | (at_builtin; refine app_hashm _ rfl (.tmp 40) (.tmp 42) rfl w1.heap.size (.slice aa i ca) i _ rfl (M6.out.1.one.alloc _) _ 1 U UV.out.1 rfl (Has.new _ _ _) (by have := M6.out.2; omega) (by have := M6.out.1.size; simp; omega) ?_; intro g7 c7 w7 hown hgrow hat hg7; have A7 : Aside (TWH w1 w7 w1.heap.size i g7 c7 (.slice ab i cb) (CELLS (MKS 201 i) ++ CELLS U) (CELLS (MKS 202 i))) := M6.out.1.grow hown hgrow hat; clear hown hgrow hat hg7)
        | (at_builtin; refine app_hashm _ rfl (.tmp 44) (.tmp 46) rfl w1.heap.size (.slice ab i cb) i _ rfl (A7.out.two.alloc _) _ 1 V UV.out.2.1 rfl (Has.new _ _ _) (by have := M6.out.2; omega) (by have := A7.out.size; simp; omega) ?_; intro g8 c8 w8 hown hgrow hat hg8; have A8 : Aside (w8.ownsRow w1.heap.size 30 32 (.slice (some ⟨g7, 0, none⟩) (i + 1) c7) (i + 1) (CELLS (MKS 201 i) ++ CELLS U) ∧ w8.ownsRow w1.heap.size 30 32 (.slice (some ⟨g8, 0, none⟩) (i + 1) c8) (i + 1) (CELLS (MKS 202 i) ++ CELLS V) ∧ Below w1.heap.size w1 w8 ∧ w1.heap.size ≤ w8.heap.size) := A7.out.grow hown hgrow; clear hown hgrow hat hg8)
        | fail)
      have CC : Aside ((∀ j, j < i + 1 → w8.rangeAt g7 (j * 32) (CELLS U) ∧ w8.rangeAt g8 (j * 32) (CELLS V)) ∧ Below w1.heap.size w1 w8 ∧ i ≤ 100000) := ⟨fun j hj => by
        have o1 := A8.out.1
        have o2 := A8.out.2.1
        rw [← UV.out.2.2.2.2.1] at o1
        rw [← UV.out.2.2.2.2.2] at o2
        have r1 := own_rangeh o1 (MKS_range 201 (by omega) _) hj
        have r2 := own_rangeh o2 (MKS_range 202 (by omega) _) hj
        rw [UV.out.2.2.1 j hj] at r1
        rw [UV.out.2.2.2.1 j hj] at r2
        exact ⟨r1, r2⟩, A8.out.2.2.1, M6.out.2⟩
      clear M6 A7 A8 hlt
      have LU := UV.out.1
      have LV := UV.out.2.1
      clear UV
      obtain ⟨q, hq⟩ : ∃ q, i + 1 = q := ⟨_, rfl⟩
      rw [hq] at CC ⊢
      have hq2 : Aside (i + 1 = q) := hq
      clear hq
      go_loopg [9] q (fun z s9 wx => ∃ (j : Nat), s9 = .int .i64 (j : Int) ∧ wx = w8 ∧ Aside (j + z = q))
      case atStart => exact ⟨0, rfl, rfl, by show 0 + q = q; omega⟩
      case round =>
        obtain ⟨j, rfl, rfl, A⟩ := hrel
        cases gk with
        | succ z =>
          have hjm : j < q := by have := A.out; omega
          have hlt : (j : Int) < (q : Int) := by omega
          obtain ⟨c1, c2⟩ := CC.out.1 j hjm
          have ej : wrap64 ((j : Int) + 1) = ((j + 1 : Nat) : Int) := by have := CC.out.2.2; have := hq2.out; unfold wrap64; omega
          have HQ : Aside (j + 1 + z = q) := (Nat.add_right_comm j 1 z).trans A.out
          clear A hjm
          go_wp2_with (first
            | (refine build_arr (by rfl) rfl rfl hb1 ?_)
            | (refine build_arr (by rfl) rfl rfl hb2 ?_)
            | (refine load_mid_if22 (by rfl) 30 (.tmp 56) rfl g7 (j * 32) rfl (CELLS U) _ c1 Try.underlying30 rfl (info_cells LU) ?_)
            | (refine load_mid_if22 (by rfl) 30 (.tmp 63) rfl g8 (j * 32) rfl (CELLS V) _ c2 Try.underlying30 rfl (info_cells LV) ?_)
            | (refine plain_if22 (by rfl) (run_value (neq_cells U LU _ _ _)) ?_)
            | (refine plain_if22 (by rfl) (run_value (neq_cells V LV _ _ _)) ?_)
            | fail)
          go_roundg z
          case measure => exact Nat.lt_succ_self _
          case rel => exact ⟨j + 1, by first | rfl | rw [ej], rfl, HQ.out⟩
        | zero =>
          obtain rfl : j = q := A.out
          have hlt : ¬ (j : Int) < (j : Int) := by omega
          obtain ⟨a2, c2, rfl, -⟩ := HA.out.2.1.slice
          have WW : Aside (Below w1.heap.size w1 wr) := CC.out.2.1
          have hnu : IntKind.u64.wrap (n : Int) = (n : Int) := u64f (by have := HA.out.2.2; omega)
          clear CC A hb1 hb2 LU LV
          go_upto_region 15 with fail
          refine ftells15 wr p p2 n c2 i cw aw a2 ((UNL f n : Nat) : Int) hnu (fun W => Below w1.heap.size w1 W) (fun a7 c7 W => Below w1.heap.size w1 W ∧ Flat W a7 i T.flatten) WW.out.drew ?_ ?_ ?_ ?_ ?_ ?_ ?_ ?_ ?_ (fun _ _ _ _ _ h => h) ?_
          · exact fun W h => (W1.out.2.1.keep h).box.cell 0
          · exact fun a7 c7 W h => h.1
          · exact fun W W' h hb => h.trans (hb.mono h.size)
          · exact fun a7 c7 W W' h hb => ⟨h.1.trans (hb.mono h.1.size), h.2.below hb⟩
          · exact fun W h => find_size (W1.out.1.keep h) (by have := HA.out.2.2; omega)
          · exact fun W h => find_unlike (W1.out.1.keep h)
          · exact fun W h => find_runlike (W1.out.2.1.keep h) (by have := HA.out.2.2; omega)
          · intro W h
            have ht := find_twice (W1.out.1.keep h) (by have := HA.out.2.2; omega)
            rw [HT.out.1, HK.out] at ht
            refine ht.mono ?_
            rintro e w' ⟨a7, c7, rfl, o7, b7⟩
            exact ⟨a7, c7, rfl, h.trans (b7.mono h.size), own_flat o7 HT.out.2.1⟩
          · intro a7 c7 W h
            have hc := samehashes_ok a7 aw i i c7 cw T.flatten T.flatten W h.2 (W1.out.2.2.1.below h.1) (by have := HT.out.2.2.2; have := HK.out; omega)
            rw [decide_eq_true rfl] at hc
            exact hc
          · intro a7 c7 W h
            have Z : Aside (Below w.heap.size w W) := W1.out.2.2.2.trans (h.1.mono W1.out.2.2.2.size)
            clear W1 WW W2 HA h
            go_wp2
            go_ret
            exact ⟨rfl, Z.out⟩
end Go.Proofs.Ytlbcnaenhghieaa
