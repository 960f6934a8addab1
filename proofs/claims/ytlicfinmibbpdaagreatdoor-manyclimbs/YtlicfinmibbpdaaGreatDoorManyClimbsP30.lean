/- Texts of ManyClimbs, one behind the other: ManyClimb, ManyFaceC, ManyClimbCall. -/
import Derived.Test.YtlicfinmibbpdaaGreatDoorManyClimbsP25
import Derived.Test.YtlicfinmibbpdaaGreatDoorManyClimbsP29
/- climb of package many: the peaks that follow from leaves and a proof that is whole. -/
namespace Go.Proofs.YtlicfinmibbpdaaGreatDoor
open Go.RowKit
set_option maxRecDepth 100000

/-- all leaves of a list that lie behind B, and ahead of N. -/
def AMID (B N : Nat) (L : List Nat) : Prop := ∀ x ∈ L, B ≤ x ∧ x < N
theorem AMID.take {B N h k r : Nat} {L : List Nat} (hA : AMID B N L) (hR : RISES L) (hr : RANKS L ((k + 1) * 2 ^ h) r) (hB : k * 2 ^ h = B) : UNR h k (L.take r) := by
  refine ⟨hR.take r, fun x hx => ?_⟩
  have h1 := hA x (List.mem_of_mem_take hx)
  obtain ⟨i, hi⟩ := List.getElem?_of_mem hx
  rw [List.getElem?_take] at hi
  split at hi
  · rename_i hlt
    exact ⟨by omega, hr.lo i x hlt hi⟩
  · cases hi
theorem AMID.drop {B N h k r : Nat} {L : List Nat} (hA : AMID B N L) (hr : RANKS L ((k + 1) * 2 ^ h) r) : AMID ((k + 1) * 2 ^ h) N (L.drop r) := fun x hx => by
  have h1 := hA x (List.mem_of_mem_drop hx)
  obtain ⟨i, hi⟩ := List.getElem?_of_mem hx
  rw [List.getElem?_drop] at hi
  exact ⟨hr.hi (r + i) x (by omega) hi, h1.2⟩
/-- what is left behind j peaks. -/
structure CLJ (d : Int) (N : Nat) (L : List Nat) (lv nd : List Int) (w3 w4 wx : World) (B0 bc g : Nat) (n j n' c' : Nat) (a' : Option Addr) (Lj : List Nat) (lvj ndj : List Int) (pv : Value) (out : List Int) (B : Nat) : Prop where
  len : Lj.length = n'
  le : n' ≤ n
  rise : RISES Lj
  cap : n' ≤ c'
  nil : a' = none → c' = 0
  ind : INDB w3 bc a'
  lies : NUML w3 a' Lj
  clb : CLB w3 wx bc d lvj ndj n' (NEEDS ((TPS N).drop j) Lj).length
  amid : AMID B N Lj
  tile : Tile B ((TPS N).drop j) N
  all : MUPS d (TPS N) L lv nd = out ++ MUPS d ((TPS N).drop j) Lj lvj ndj
  own : wx.ownsRow w3.heap.size 38 32 pv j (CELLS out)
theorem drop_cons {s : Nat × Nat} : ∀ {l : List (Nat × Nat)} {j : Nat}, l[j]? = some s → l.drop j = s :: l.drop (j + 1)
  | [], j, h => by simp at h
  | x :: l, 0, h => by simp at h; simp [h]
  | x :: l, j + 1, h => by simpa using drop_cons (l := l) (j := j) (by simpa using h)
theorem own_cutm {w : World} {B s n : Nat} {t : TypeId} {v : Value} {xs : List Value} (h : w.ownsRow B t s v n xs) : ∃ a c, v = .slice a n c := by
  rcases h.2 with ⟨e, h0⟩ | ⟨g, cap, cur, e, _⟩
  · exact ⟨none, 0, by rw [e, h0]⟩
  · exact ⟨_, _, e⟩
set_option maxHeartbeats 8000000 in
theorem climb10_ok (d : Int) (L : List Nat) (N : Nat) (a : Option Addr) (n c : Nat) (al : Option Addr) (cl : Nat) (an : Option Addr) (K cn : Nat) (lv nd : List Int) (w : World) (hN : N ≤ 4611686018427387904) (hl : L.length = n) (hn : n < 2 ^ 20) (hR : RISES L) (hLN : ∀ x ∈ L, x < N) (hc : n ≤ c) (hnil : a = none → c = 0) (hbl : ∀ x, a = some x → x.block < w.heap.size ∧ x.spot = none) (hL : NUML w a L)
    (hcl : n ≤ cl) (hla : ∀ x, al = some x → x.block < w.heap.size) (hFl : Flat w al n lv) (hcn : K ≤ cn) (hna : ∀ x, an = some x → x.block < w.heap.size) (hFn : Flat w an K nd) (hK : K = (NEEDS (TPS N) L).length) (hT : Tabled w) (hX : HX.Tabled w) (hw0 : 0 < w.heap.size) :
    Calls Tryz.prog 34 #[.int .i64 d, .slice al n cl, .agg (MBOX N a n c an K cn), .func (.func 35) #[] #[]] w fun e w' => ∃ ap cp, e = .returned (.slice ap (PC N) cp) ∧ w'.ownsRow w.heap.size 38 32 (.slice ap (PC N) cp) (PC N) (CELLS (MUPS d (TPS N) L lv nd)) ∧ Below w.heap.size w w' := by
  have hM : (MBOX N a n c an K cn) = #[.int .u64 (N : Int), .slice a n c, .slice an K cn] := rfl
  have hHE : HEARD = .func (.func 35) #[] #[] := rfl
  obtain ⟨w1, e1⟩ : ∃ w1, w.alloc (.cells (MBOX N a n c an K cn) 26) = w1 := ⟨_, rfl⟩
  obtain ⟨w2, e2⟩ : ∃ w2, w1.alloc (.cells #[.int .i64 d, .slice al n cl, .slice an K cn, .func (.func 35) #[] #[]] 113) = w2 := ⟨_, rfl⟩
  obtain ⟨bc, hbc⟩ : ∃ bc, w1.heap.size = bc := ⟨_, rfl⟩
  have hb1 : Below w.heap.size w w1 := by rw [← e1]; exact (Below.refl _ _).alloc (Nat.le_refl _) _
  have hb2 : Below w.heap.size w w2 := by rw [← e2]; exact hb1.alloc hb1.size _
  have hB1 : Has w1 w.heap.size (MBOX N a n c an K cn) 26 := by rw [← e1]; exact Has.new _ _ _
  have hC2 : Has w2 bc #[.int .i64 d, .slice al n cl, .slice an K cn, HEARD] 113 := by rw [← e2, ← hbc]; exact Has.new _ _ _
  have hB2 : Has w2 w.heap.size (MBOX N a n c an K cn) 26 := by rw [← e2]; exact hB1.alloc _
  have hs1 : w.heap.size < bc := by rw [← hbc]; exact hB1.lt
  have cp := peaks_ok N hN w2 (hT.below hw0 hb2) (by have := hb2.size; omega)
  have hPC : PC N ≤ 64 := PC_lt_pow 64 N (by omega)
  have hlen := TPS_length (n := N) (by omega)
  have y0 : w1.cell? ⟨w.heap.size, 2, none⟩ = some (.slice an K cn) := hB1.cell 2
  have y1 : w2.cell? ⟨w.heap.size, 1, none⟩ = some (.slice a n c) := hB2.cell 1
  have y2 : w2.cell? ⟨w.heap.size, 0, none⟩ = some (.int .u64 (N : Int)) := hB2.cell 0
  have HA : Aside (n < 2 ^ 20 ∧ N ≤ 2 ^ 62 ∧ PC N ≤ 64 ∧ (TPS N).length = PC N ∧ w.heap.size < bc) := ⟨hn, by omega, hPC, hlen, hs1⟩
  have LL : Aside (L.length = n ∧ RISES L ∧ (∀ x ∈ L, x < N) ∧ n ≤ c ∧ (a = none → c = 0) ∧ (∀ x, a = some x → x.block < w.heap.size ∧ x.spot = none) ∧ NUML w a L) := ⟨hl, hR, hLN, hc, hnil, hbl, hL⟩
  have LH : Aside (n ≤ cl ∧ (∀ x, al = some x → x.block < w.heap.size) ∧ Flat w al n lv ∧ K ≤ cn ∧ (∀ x, an = some x → x.block < w.heap.size) ∧ Flat w an K nd ∧ K = (NEEDS (TPS N) L).length ∧ HX.Tabled w ∧ Below w.heap.size w w2 ∧ Has w2 bc #[.int .i64 d, .slice al n cl, .slice an K cn, HEARD] 113) := ⟨hcl, hla, hFl, hcn, hna, hFn, hK, hX, hb2, hC2⟩
  have HT : Aside (Tile 0 (TPS N) N) := TPS_tile hN
  clear hl hn hR hLN hc hnil hbl hL hcl hla hFl hcn hna hFn hK hT hX hw0 hN hb1 hb2 hB1 hC2 hB2 hs1 hPC hlen hHE
  rw [hM] at e1
  have HBC : Aside (w1.heap.size = bc) := hbc
  clear hbc
  go_enter Tryz.func34, Tryz.ntmps34
  rw [hM]
  go_upto_region 2 with (refine wpList_store_row rfl 113 (.tmp 9) (.tmp 21) rfl _ _ rfl rfl 113 _ (Has.new w1 _ _) (by kernel_rfl) rfl (by simp [Value.oneCell']) ?_; rw [World.setRow_alloc_new])
  rw [HBC.out, e2]
  clear e1 e2 HBC
  go_wp2_with fail
  refine cp.mono ?_
  rintro e w3 ⟨g, cg, rfl, hown, hb3⟩
  clear cp y0 y1 y2
  obtain ⟨m, hm⟩ : ∃ m, PC N = m := ⟨_, rfl⟩
  rw [hm] at hown ⊢
  have W3 : Aside (Below w.heap.size w w3 ∧ bc < w3.heap.size) := ⟨LH.out.2.2.2.2.2.2.2.2.1.trans (hb3.mono LH.out.2.2.2.2.2.2.2.2.1.size), Nat.lt_of_lt_of_le LH.out.2.2.2.2.2.2.2.2.2.lt hb3.size⟩
  have R1 : Aside (w3.ownsRow w2.heap.size 23 1 (.slice (some ⟨g, 0, none⟩) m cg) m (UCELLS (PEAKS N)) ∧ PC N = m ∧ g ≠ bc ∧ g < w3.heap.size) := ⟨hown, hm, by have h1 := (hown.lt g rfl).1; have := LH.out.2.2.2.2.2.2.2.2.2.lt; omega, (hown.lt g rfl).2⟩
  have TX : Aside (∀ W, Below bc w3 W → HX.Tabled W) := fun W hb => LH.out.2.2.2.2.2.2.2.1.below (W3.out.1.trans (hb.mono (Nat.le_of_lt HA.out.2.2.2.2)))
  have S0 : Aside (CLJ d N L lv nd w3 w2 w3 0 bc g n 0 n c a L lv nd (.slice none 0 0) [] 0) := by
    obtain ⟨q1, q2, q3, q4, q5, q6, q7, q8, q9, q10⟩ := LH.out
    obtain ⟨p1, p2, p3, p4, p5, p6, p7⟩ := LL.out
    have hlt := HA.out.2.2.2.2
    refine ⟨p1, Nat.le_refl _, p2, p4, p5, fun x hx => ⟨by have := (p6 x hx).1; omega, Nat.lt_of_lt_of_le (p6 x hx).1 W3.out.1.size, (p6 x hx).2⟩, fun hp => ?_, ⟨⟨_, _, q10.keep hb3, ⟨al, cl, rfl, q1, q3.below W3.out.1, fun x hx => by have := q2 x hx; omega⟩, ⟨an, cn, by rw [List.drop_zero, ← q7], by rw [List.drop_zero, ← q7]; exact q4, by rw [List.drop_zero, ← q7]; exact q6.below W3.out.1, fun x hx => by have := q5 x hx; omega⟩⟩, BUT.refl _ _⟩, fun x hx => ⟨Nat.zero_le _, p3 x hx⟩, by rw [List.drop_zero]; exact HT.out, by simp, ⟨rfl, .inl ⟨rfl, rfl⟩⟩⟩
    obtain ⟨b, o, e, hlt, hcc⟩ := p7 hp
    exact ⟨b, o, e, Nat.lt_of_lt_of_le hlt W3.out.1.size, fun i x hx => (W3.out.1.cell (p := ⟨b, o + i, none⟩) hlt).trans (hcc i x hx)⟩
  clear hown hb3 hm LL LH HT
  go_wp2_with fail
  go_loopg [10, 11, 28] m (fun q s10 s11 s28 wx => ∃ (j n' c' : Nat) (a' : Option Addr) (Lj : List Nat) (lvj ndj out : List Int) (B : Nat), s10 = .slice a' n' c' ∧ s28 = .int .i64 (j : Int) ∧ Aside (j + q = m ∧ CLJ d N L lv nd w3 w2 wx 0 bc g n j n' c' a' Lj lvj ndj s11 out B))
  case atStart => exact ⟨0, n, c, a, L, lv, nd, [], 0, rfl, rfl, by omega, S0.out⟩
  case round =>
    obtain ⟨j, n', c', a', Lj, lvj, ndj, out, B, rfl, rfl, A⟩ := hrel
    clear S0
    cases gk with
    | zero =>
      obtain rfl : j = m := by have := A.out.1; omega
      have hlt : ¬ (j : Int) < (j : Int) := by omega
      have FN : Aside (∃ ap cp, u11 = .slice ap (PC N) cp ∧ wr.ownsRow w.heap.size 38 32 (.slice ap (PC N) cp) (PC N) (CELLS (MUPS d (TPS N) L lv nd)) ∧ Below w.heap.size w wr) := by
        show ∃ ap cp, u11 = .slice ap (PC N) cp ∧ wr.ownsRow w.heap.size 38 32 (.slice ap (PC N) cp) (PC N) (CELLS (MUPS d (TPS N) L lv nd)) ∧ Below w.heap.size w wr
        rw [R1.out.2.1]
        have h := A.out.2
        have e := h.all
        rw [List.drop_of_length_le (by have := R1.out.2.1; have := HA.out.2.2.2.1; omega), MUPS, List.append_nil] at e
        have ho := h.own
        rw [← e] at ho
        obtain ⟨ap, cp, rfl⟩ := own_cutm ho
        exact ⟨ap, cp, rfl, own_mono ho W3.out.1.size, W3.out.1.trans (h.clb.2.2.mono (Nat.le_of_lt HA.out.2.2.2.2))⟩
      clear A R1 HA TX W3
      go_wp2_with fail
      obtain ⟨ap, cp, rfl, h1, h2⟩ := FN.out
      go_ret
      exact ⟨ap, cp, rfl, h1, h2⟩
    | succ q =>
      have hlt : (j : Int) < (m : Int) := by have := A.out.1; omega
      have hjm : j < (TPS N).length := by have := A.out.1; have := R1.out.2.1; have := HA.out.2.2.2.1; omega
      obtain ⟨⟨h, k⟩, ehk⟩ : ∃ s, (TPS N)[j]? = some s := ⟨_, List.getElem?_eq_getElem hjm⟩
      have hsp := TPS_span HA.out.2.1 (List.mem_of_getElem? ehk)
      have epk := TPS_peak ehk
      have hcell : wr.cell? ⟨g, j, none⟩ = some (.int .u64 ((PLC h k : Nat) : Int)) := by
        have h1 := R1.out.1.cellAt j (by have := A.out.1; omega)
        refine (World.cell?_of_block (w := w3) (by exact A.out.2.clb.2.1 g R1.out.2.2.2 R1.out.2.2.1)).trans (h1.trans ?_)
        rw [UCELLS, List.getElem?_map, epk]
        rfl
      have ej : wrap64 ((j : Int) + 1) = ((j + 1 : Nat) : Int) := by have := A.out.1; have := R1.out.2.1; have := HA.out.2.2.1; unfold wrap64; omega
      have cs := split_ok h k hsp.2.2 a' n' c' Lj A.out.2.len (by have := A.out.2.le; have := HA.out.1; omega) A.out.2.rise A.out.2.cap A.out.2.nil (fun x e => (A.out.2.ind x e).2.2) wr (A.out.2.lies.but A.out.2.clb.2 A.out.2.ind)
      have SP : Aside (Node h k ∧ (TPS N).drop j = (h, k) :: (TPS N).drop (j + 1)) := ⟨hsp.2.2, drop_cons ehk⟩
      clear hsp ehk epk hjm
      go_wp2_with fail
      refine cs.mono ?_
      rintro e w5 ⟨r, a2, rfl, hs⟩
      clear cs hcell
      have htile := A.out.2.tile
      rw [SP.out.2] at htile
      have hU : UNR h k (Lj.take r) := A.out.2.amid.take A.out.2.rise hs.rank htile.2.1
      have hneed := NEEDS_take ((TPS N).drop (j + 1)) hs.rank
      have hmups := MUPS_take (d := d) (lv := lvj) (nd := ndj) ((TPS N).drop (j + 1)) hs.rank
      rw [← SP.out.2] at hneed hmups
      have hrn := hs.rank.le
      have hind2 : INDB w3 bc a2 := fun x hx => by
        obtain ⟨y, e2, e3⟩ := hs.block x hx
        have q := A.out.2.ind y e2
        exact ⟨by rw [e3]; exact q.1, by rw [e3]; exact q.2.1, hs.spot x hx⟩
      have hL2 : NUML w3 a2 (Lj.drop r) := hs.lies.back A.out.2.clb.2 hind2
      have hL1 : NUML w3 a' (Lj.take r) := fun h0 => by
        obtain ⟨b, o, e, hl, hcc⟩ := A.out.2.lies (by rw [List.length_take] at h0; omega)
        refine ⟨b, o, e, hl, fun i x hx => hcc i x ?_⟩
        rw [List.getElem?_take] at hx
        split at hx
        · exact hx
        · cases hx
      have hrn' : r ≤ n' := by have := A.out.2.len; omega
      have hnl : (NEEDS ((TPS N).drop j) Lj).length = (NEED h k (Lj.take r)).length + (NEEDS ((TPS N).drop (j + 1)) (Lj.drop r)).length := by rw [hneed, List.length_append]
      have hC5 : CLB w3 w5 bc d lvj ndj n' (NEEDS ((TPS N).drop j) Lj).length := A.out.2.clb.still hs.below
      have hO5 : w5.ownsRow w3.heap.size 38 32 u11 j (CELLS out) := own_hold A.out.2.own fun k e => hs.below.block k (A.out.2.own.lt k e).2
      obtain ⟨vl, vn, _, v1, v2⟩ := hC5.1
      have hY := (MUP_spec d h k (Lj.take r) lvj ndj n' _ hU v1.hss v2.hss (by rw [List.length_take]; omega) (by rw [hnl]; omega)).1
      have cu := up_ok w3 bc d W3.out.2 TX.out h k SP.out.1 (Lj.take r) a' r c' lvj ndj n' _ w5 (by rw [List.length_take]; omega) (by have := A.out.2.le; have := HA.out.1; clear ej; omega) hU (by have := A.out.2.cap; clear ej; omega) A.out.2.nil A.out.2.ind hL1 hC5 hrn' (by rw [hnl]; clear ej; omega)
      rw [hnl, Nat.add_sub_cancel_left] at cu
      have Z5 : Aside (w5.ownsRow w3.heap.size 38 32 u11 j (CELLS out) ∧ (Lj.drop r).length = n' - r ∧ n' - r ≤ n ∧ RISES (Lj.drop r) ∧ n' - r ≤ c' - r ∧ (a2 = none → c' - r = 0) ∧ INDB w3 bc a2 ∧ NUML w3 a2 (Lj.drop r) ∧ AMID ((k + 1) * 2 ^ h) N (Lj.drop r) ∧ Tile ((k + 1) * 2 ^ h) ((TPS N).drop (j + 1)) N ∧ MUPS d (TPS N) L lv nd = out ++ (MUP d h k (Lj.take r) lvj ndj).1 ++ MUPS d ((TPS N).drop (j + 1)) (Lj.drop r) (MUP d h k (Lj.take r) lvj ndj).2.1 (MUP d h k (Lj.take r) lvj ndj).2.2 ∧ j + 1 + q = m ∧ j ≤ 64) := by
        refine ⟨hO5, by rw [List.length_drop, A.out.2.len], by have := A.out.2.le; clear ej; omega, A.out.2.rise.drop r, by have := A.out.2.cap; clear ej; omega, hs.nil, hind2, hL2, A.out.2.amid.drop hs.rank, htile.2.2, ?_, by have := A.out.1; clear ej; omega, by have := A.out.1; have := R1.out.2.1; have := HA.out.2.2.1; clear ej; omega⟩
        rw [A.out.2.all, hmups, List.append_assoc]
      clear hs htile hU hneed hmups hrn hind2 hL2 hL1 hnl hC5 hO5 v1 v2 A
      have y32 := hY.1
      generalize (MUP d h k (Lj.take r) lvj ndj).1 = Y at *
      generalize (MUP d h k (Lj.take r) lvj ndj).2.1 = lv2 at *
      generalize (MUP d h k (Lj.take r) lvj ndj).2.2 = nd2 at *
      generalize c' - r = c2 at *
      obtain ⟨n2, hn2⟩ : ∃ n2, n' - r = n2 := ⟨_, rfl⟩
      rw [hn2] at cu Z5 ⊢
      clear hn2 hrn'
      go_wp2_with fail
      refine cu.mono ?_
      rintro e w6 ⟨rfl, h6, h7⟩
      clear cu
      have O6 : Aside (w6.ownsRow w3.heap.size 38 32 u11 j (CELLS out)) := own_hold Z5.out.1 fun k e => h7.1 k (Z5.out.1.lt k e).2 (by have := (Z5.out.1.lt k e).1; have := W3.out.2; clear ej; omega)
      have C6 : Aside (CLB w3 w6 bc d lv2 nd2 n2 (NEEDS ((TPS N).drop (j + 1)) (Lj.drop r)).length ∧ w3.heap.size ≤ w6.heap.size) := ⟨h6, h6.2.2.size⟩
      clear h6 h7
      go_wp2_with (first
        | (refine build_one _ rfl 22 38 (.tmp 41) rfl (CELLS Y).toArray rfl 32 _ _ Tryz.underlying22 info_hashv (by simp [CELLS, y32]) rfl (by decide) (by decide) ?_)
        | (at_builtin; refine app_hash _ rfl (.tmp 38) (.tmp 42) rfl w3.heap.size u11 j _ rfl (O6.out.alloc _) _ 1 Y y32 rfl (Has.new _ _ _) (by have := Z5.out; clear ej; omega) (by have := C6.out.2; simp; clear ej; omega) ?_; intro g7 c7 w7 hown hgrow hat hg))
      have Z7 : Aside (j + 1 + q = m ∧ CLJ d N L lv nd w3 w2 w7 0 bc g n (j + 1) n2 c2 a2 (Lj.drop r) lv2 nd2 (.slice (some ⟨g7, 0, none⟩) (j + 1) c7) (out ++ Y) ((k + 1) * 2 ^ h)) := by
        obtain ⟨z1, z2, z3, z4, z5, z6, z7, z8, z9, z10, z11, z12, z13⟩ := Z5.out
        have hsz := grown_size hgrow
        simp at hsz
        have hbb : ∀ q, q < w6.heap.size → u11.ownBlock ≠ some q → w7.heap[q]? = w6.heap[q]? := fun q hq hne => (hgrow.block q (by simp; omega) fun e => hne e.symm).trans (Below.heap_alloc w6 _ q hq)
        refine ⟨z12, z2, z3, z4, z5, z6, z7, z8, ?_, z9, z10, z11, by rw [CELLS_append]; exact hown⟩
        obtain ⟨⟨vl, vn, q1, q2, q3⟩, q4⟩ := C6.out.1
        have hne : u11.ownBlock ≠ some bc := fun e => by have := (O6.out.lt bc e).1; have := W3.out.2; clear ej; omega
        refine ⟨⟨vl, vn, (hbb bc q1.lt hne).trans q1, q2, q3⟩, ⟨fun q hq hnb => (hbb q (by have := C6.out.2; clear ej; omega) (fun e => by have := (O6.out.lt q e).1; clear ej; omega)).trans (q4.1 q hq hnb), ?_⟩⟩
        refine (q4.2.alloc (by have := C6.out.2; have := W3.out.2; clear ej; omega) _).grown hgrow (by have := C6.out.2; have := W3.out.2; simp; clear ej; omega) (fun k e => ?_)
        have := (O6.out.lt k e).1
        have := W3.out.2
        clear ej
        omega
      clear hown hgrow hat hg O6 C6 Z5 hY y32 SP
      go_wp2
      go_roundg q
      case measure => exact Nat.lt_succ_self _
      case rel => exact ⟨j + 1, n2, c2, a2, Lj.drop r, lv2, nd2, out ++ Y, (k + 1) * 2 ^ h, rfl, by first | rfl | (rw [ej]), Z7.out⟩
end Go.Proofs.YtlicfinmibbpdaaGreatDoor

/- face of package many, with the doing of Climb. -/
namespace Go.Proofs.YtlicfinmibbpdaaGreatDoor
open Go.RowKit
set_option maxRecDepth 100000

set_option maxHeartbeats 1000000 in
theorem faceC_ok (b0 b1 b2 b3 : Nat) (w : World) (G : World → Prop) (B : Int → World → Prop)
    (hdo : Calls Tryz.prog 32 #[.pointer (some ⟨b0, 0, none⟩), .pointer (some ⟨b1, 0, none⟩), .pointer (some ⟨b2, 0, none⟩), .pointer (some ⟨b3, 0, none⟩)] (w.alloc (.cells #[.int .i64 0] 29)) fun e w' => (e = .returned (.tuple #[]) ∧ G w') ∨ ∃ x, e = .panicked (WRONG x) ∧ B x w')
    (hG : ∀ w', G w' → Has w' w.heap.size #[.int .i64 0] 29) (hB : ∀ x w', B x w' → Has w' w.heap.size #[.int .i64 0] 29) :
    Calls Tryz.prog 31 #[.func (.func 32) #[] #[.pointer (some ⟨b0, 0, none⟩), .pointer (some ⟨b1, 0, none⟩), .pointer (some ⟨b2, 0, none⟩), .pointer (some ⟨b3, 0, none⟩)]] w (FACED w G B) := by
  have hmf : ∀ (fn : Fn) (first cap : Array Value) (w : World), (Instr.makeFunc fn first cap).run Tryz.prog w = .ok (.func fn first cap) w := fun _ _ _ _ => rfl
  have HG : Aside (∀ w', G w' → Has w' w.heap.size #[.int .i64 0] 29) := hG
  have HB : Aside (∀ x w', B x w' → Has w' w.heap.size #[.int .i64 0] 29) := hB
  clear hG hB
  go_enter_defers Tryz.func31, Tryz.ntmps31
  go_wp2_with fail
  refine hdo.mono ?_
  rintro e w1 (⟨rfl, h1⟩ | ⟨x, rfl, h1⟩)
  · clear hdo
    have hh := HG.out w1 h1
    have c0 := hh.cell 0
    have f0 := hh.frozen 0
    have G1 : Aside (G w1) := h1
    clear h1
    go_wp2_with fail
    refine leaves_cons (f := 65) (args := #[.pointer (some ⟨w.heap.size, 0, none⟩)]) (by simp) (by simp [go_sem]) ?_
    refine (catch_idle ⟨w.heap.size, 0, none⟩ _).mono ?_
    rintro e u' w'' ⟨rfl, rfl, rfl⟩
    have c1 := (hh.set 0 (.int .i64 0)).cell 0
    simp [Leaves, settle, results, Tryz.results31, go_sem, c1]
    exact .inl ⟨rfl, w1, G1.out, rfl⟩
  · have hh := HB.out x w1 h1
    have c0 := hh.cell 0
    have f0 := hh.frozen 0
    refine leaves_cons (f := 65) (args := #[.pointer (some ⟨w.heap.size, 0, none⟩)]) (by simp) (by simp [go_sem]) ?_
    refine (catch_panicking ⟨w.heap.size, 0, none⟩ 0 x [] w1 c0 f0).mono ?_
    rintro e u' w'' ⟨rfl, rfl, rfl⟩
    have c1 := (hh.set 0 (.int .i64 x)).cell 0
    simp [Leaves, settle, results, Tryz.results31, go_sem, c1]
    exact .inr ⟨x, w1, rfl, h1, rfl⟩
end Go.Proofs.YtlicfinmibbpdaaGreatDoor

/- Climb of package many. -/
namespace Go.Proofs.YtlicfinmibbpdaaGreatDoor
open Go.RowKit
set_option maxRecDepth 100000

/-- what is wrong with a proof of so many nodes, beside so many leaves. -/
def MCE (L : List Nat) (N K nl : Nat) : Int := if MWA L N K ≠ 0 then MWA L N K else if nl ≠ L.length then 70 else 0
theorem MCE_whole {L : List Nat} {N K nl : Nat} (h : MWA L N K ≠ 0) : MCE L N K nl = MWA L N K := if_pos h
theorem MCE_count {L : List Nat} {N K nl : Nat} (h : MWA L N K = 0) (hn : nl ≠ L.length) : MCE L N K nl = 70 := by
  unfold MCE
  rw [if_neg (by simpa using h), if_pos hn]
theorem MCE_ok {L : List Nat} {N K nl : Nat} (h : MWA L N K = 0) (hn : nl = L.length) : MCE L N K nl = 0 := by
  unfold MCE
  rw [if_neg (by simpa using h), if_neg (by simpa using hn)]
/-- what Climb answers. -/
def MCL (d : Int) (L : List Nat) (N K nl : Nat) (lv nd : List Int) : Int × Nat × List Int := if MCE L N K nl = 0 then (0, PC N, MUPS d (TPS N) L lv nd) else (MCE L N K nl, 0, [])
/-- what the doing of Climb leaves. -/
structure CLMD (w w' : World) (b3 n : Nat) (Z : List Int) : Prop where
  row : ∃ v, Has w' b3 #[v] 22 ∧ w'.ownsRow w.heap.size 38 32 v n (CELLS Z)
  keep : ∀ b, b < w.heap.size → b ≠ b3 → w'.heap[b]? = w.heap[b]?
  below : Below b3 w w'
set_option maxHeartbeats 4000000 in
theorem climbdo_ok (d : Int) (L : List Nat) (N : Nat) (a : Option Addr) (m c : Nat) (an : Option Addr) (K cn : Nat) (al : Option Addr) (nl cl : Nat) (lv nd : List Int) (b0 b1 b2 b3 : Nat) (w : World) (hl : L.length = m) (hm : m < 2 ^ 20) (hc : m ≤ c) (hnil : a = none → c = 0) (hbl : ∀ x, a = some x → x.block < w.heap.size ∧ x.spot = none) (hK : K < 2 ^ 20) (hL : NUML w a L)
    (hcn : K ≤ cn) (hna : ∀ x, an = some x → x.block < w.heap.size) (hFn : Flat w an K nd) (hcl : nl ≤ cl) (hla : ∀ x, al = some x → x.block < w.heap.size) (hFl : Flat w al nl lv) (hT : Tabled w) (hX : HX.Tabled w) (hw0 : 0 < w.heap.size)
    (h0 : Has w b0 (MBOX N a m c an K cn) 26) (h1 : Has w b1 #[.slice al nl cl] 22) (h2 : Has w b2 #[.int .i64 d] 3) (h3 : Has w b3 #[.slice none 0 0] 22) :
    Calls Tryz.prog 32 #[.pointer (some ⟨b0, 0, none⟩), .pointer (some ⟨b1, 0, none⟩), .pointer (some ⟨b2, 0, none⟩), .pointer (some ⟨b3, 0, none⟩)] w fun e w' =>
      (e = .returned (.tuple #[]) ∧ (MCE L N K nl = 0 ∧ CLMD w w' b3 (PC N) (MUPS d (TPS N) L lv nd))) ∨ ∃ x, e = .panicked (WRONG x) ∧ (x = MCE L N K nl ∧ x ≠ 0 ∧ Below w.heap.size w w') := by
  have cm := mustwhole_ok L N a m c an K cn w hl hm hc hnil hbl hK hL hT hw0
  have hM : (MBOX N a m c an K cn) = #[.int .u64 (N : Int), .slice a m c, .slice an K cn] := rfl
  have x0 : w.cell? ⟨b0, 0, none⟩ = some (.int .u64 (N : Int)) := h0.cell 0
  have x1 : w.cell? ⟨b0, 1, none⟩ = some (.slice a m c) := h0.cell 1
  have x2 : w.cell? ⟨b0, 2, none⟩ = some (.slice an K cn) := h0.cell 2
  have HH : Aside (Has w b0 (MBOX N a m c an K cn) 26 ∧ Has w b1 #[.slice al nl cl] 22 ∧ Has w b2 #[.int .i64 d] 3 ∧ Has w b3 #[.slice none 0 0] 22) := ⟨h0, h1, h2, h3⟩
  have HA : Aside (L.length = m ∧ m < 2 ^ 20 ∧ m ≤ c ∧ (a = none → c = 0) ∧ (∀ x, a = some x → x.block < w.heap.size ∧ x.spot = none) ∧ NUML w a L) := ⟨hl, hm, hc, hnil, hbl, hL⟩
  have HB : Aside (K ≤ cn ∧ (∀ x, an = some x → x.block < w.heap.size) ∧ Flat w an K nd ∧ nl ≤ cl ∧ (∀ x, al = some x → x.block < w.heap.size) ∧ Flat w al nl lv ∧ Tabled w ∧ HX.Tabled w ∧ 0 < w.heap.size) := ⟨hcn, hna, hFn, hcl, hla, hFl, hT, hX, hw0⟩
  clear hl hm hc hnil hbl hK hL hcn hna hFn hcl hla hFl hT hX hw0 h0 h1 h2 h3
  rw [hM] at cm
  go_enter Tryz.func32, Tryz.ntmps32
  go_wp2_with fail
  refine cm.mono ?_
  rintro e w1 ⟨hb1, (⟨hr, rfl⟩ | ⟨hr, rfl⟩)⟩
  · clear cm x0 x1 x2
    obtain ⟨q1, q2⟩ := MWA_ok hr
    have k0 := HH.out.1.keep hb1
    have k1 := HH.out.2.1.keep hb1
    have k2 := HH.out.2.2.1.keep hb1
    have x0 : w1.cell? ⟨b0, 0, none⟩ = some (.int .u64 (N : Int)) := k0.cell 0
    have x1 : w1.cell? ⟨b0, 1, none⟩ = some (.slice a m c) := k0.cell 1
    have x2 : w1.cell? ⟨b0, 2, none⟩ = some (.slice an K cn) := k0.cell 2
    have x3 : w1.cell? ⟨b1, 0, none⟩ = some (.slice al nl cl) := k1.cell 0
    have x4 : w1.cell? ⟨b2, 0, none⟩ = some (.int .i64 d) := k2.cell 0
    by_cases hnl : nl = m
    · subst hnl
      obtain ⟨r1, r2, r3⟩ := RISEA_ok q1
      obtain ⟨p1, p2, p3, p4, p5, p6⟩ := HA.out
      obtain ⟨s1, s2, s3, s4, s5, s6, s7, s8, s9⟩ := HB.out
      have cc := climb10_ok d L N a nl c al cl an K cn lv nd w1 (by omega) p1 p2 r2 r3 p3 p4 (fun x e => ⟨Nat.lt_of_lt_of_le (p5 x e).1 hb1.size, (p5 x e).2⟩) (fun hp => by
        obtain ⟨b, o, e, hlt, hcc⟩ := p6 hp
        exact ⟨b, o, e, Nat.lt_of_lt_of_le hlt hb1.size, fun i x hx => (hb1.cell (p := ⟨b, o + i, none⟩) hlt).trans (hcc i x hx)⟩) s4 (fun x e => Nat.lt_of_lt_of_le (s5 x e) hb1.size) (s6.below hb1) s1 (fun x e => Nat.lt_of_lt_of_le (s2 x e) hb1.size) (s3.below hb1) q2 (s7.below s9 hb1) (s8.below hb1) (by have := hb1.size; omega)
      rw [hM] at cc
      have HR : Aside (MCE L N K nl = 0 ∧ Below w.heap.size w w1) := ⟨MCE_ok hr p1.symm, hb1⟩
      clear hr q1 q2 r1 r2 r3 hb1 k0 k1 k2 p1 p2 p3 p4 p5 p6 s1 s2 s3 s4 s5 s6 s7 s8 s9 HA HB
      go_wp2_with fail
      refine cc.mono ?_
      rintro e w2 ⟨av, cv, rfl, hown, hb2⟩
      clear cc x0 x1 x2 x3 x4
      generalize hvv : Value.slice av (PC N) cv = v at *
      have hw2 : Below w.heap.size w w2 := HR.out.2.trans (hb2.mono HR.out.2.size)
      have k3 := HH.out.2.2.2.keep hw2
      have c3 := k3.cell 0
      have f3 := k3.frozen 0
      have FN : Aside (CLMD w (w2.setCell ⟨b3, 0, none⟩ v) b3 (PC N) (MUPS d (TPS N) L lv nd)) := by
        have hlt := HH.out.2.2.2.lt
        refine ⟨⟨v, k3.set 0 v, own_mono (ownsRow_setCell_below hown (a := ⟨b3, 0, none⟩) (by show b3 < w1.heap.size; have := HR.out.2.size; omega) _) HR.out.2.size⟩, fun b hb hne => (Below.heap_setCell _ _ _ _ (by exact hne)).trans (hw2.block b hb), ?_⟩
        exact (hw2.mono (Nat.le_of_lt hlt)).setCell (p := ⟨b3, 0, none⟩) (Nat.le_refl _) _
      subst hvv
      clear hown hb2 hw2 k3 HH
      go_wp2_with fail
      exact bodyPost_end (v := .tuple #[]) (by simp [results, Tryz.f32]) rfl (.inl ⟨rfl, HR.out.1, FN.out⟩)
    · have hne : ((nl : Int) == (m : Int)) = false := beq_eq_false_iff_ne.2 (by omega)
      have FN : Aside (MCE L N K nl = 70 ∧ Below w.heap.size w w1) := ⟨MCE_count hr (by rw [HA.out.1]; exact hnl), hb1⟩
      clear hr q1 q2 hb1 k0 k1 k2 HA HB HH hnl
      go_wp2_with fail
      exact ⟨rfl, .inr ⟨70, rfl, FN.out.1.symm, by decide, FN.out.2⟩⟩
  · exact ⟨rfl, .inr ⟨_, rfl, (MCE_whole hr).symm, hr, hb1⟩⟩
/-- what is answered: an error and hashes. -/
def ANSC (w : World) (A : Int × Nat × List Int) (e : Ending) (w' : World) : Prop := ∃ a c, e = .returned (.tuple #[.slice a A.2.1 c, .int .i64 A.1]) ∧ w'.ownsRow w.heap.size 38 32 (.slice a A.2.1 c) A.2.1 (CELLS A.2.2) ∧ Below w.heap.size w w'
set_option maxHeartbeats 4000000 in
theorem manyclimb_ok (d : Int) (L : List Nat) (N : Nat) (a : Option Addr) (m c : Nat) (an : Option Addr) (K cn : Nat) (al : Option Addr) (nl cl : Nat) (lv nd : List Int) (w : World) (hl : L.length = m) (hm : m < 2 ^ 20) (hc : m ≤ c) (hnil : a = none → c = 0) (hbl : ∀ x, a = some x → x.block < w.heap.size ∧ x.spot = none) (hK : K < 2 ^ 20) (hL : NUML w a L)
    (hcn : K ≤ cn) (hna : ∀ x, an = some x → x.block < w.heap.size) (hFn : Flat w an K nd) (hcl : nl ≤ cl) (hla : ∀ x, al = some x → x.block < w.heap.size) (hFl : Flat w al nl lv) (hT : Tabled w) (hX : HX.Tabled w) (hw0 : 0 < w.heap.size) :
    Calls Tryz.prog 9 #[.int .i64 d, .slice al nl cl, .agg (MBOX N a m c an K cn)] w (ANSC w (MCL d L N K nl lv nd)) := by
  have hmf : ∀ (fn : Fn) (first cap : Array Value) (w : World), (Instr.makeFunc fn first cap).run Tryz.prog w = .ok (.func fn first cap) w := fun _ _ _ _ => rfl
  obtain ⟨w1, e1⟩ : ∃ w1, w.alloc (.cells #[.int .i64 d] 3) = w1 := ⟨_, rfl⟩
  obtain ⟨w2, e2⟩ : ∃ w2, w1.alloc (.cells #[.slice al nl cl] 22) = w2 := ⟨_, rfl⟩
  obtain ⟨w3, e3⟩ : ∃ w3, w2.alloc (.cells (MBOX N a m c an K cn) 26) = w3 := ⟨_, rfl⟩
  obtain ⟨w4, e4⟩ : ∃ w4, w3.alloc (.cells #[.slice none 0 0] 22) = w4 := ⟨_, rfl⟩
  obtain ⟨w5, e5⟩ : ∃ w5, w4.alloc (.cells #[.int .i64 0] 29) = w5 := ⟨_, rfl⟩
  have s1 : w1.heap.size = w.heap.size + 1 := by rw [← e1]; simp
  have s2 : w2.heap.size = w.heap.size + 2 := by rw [← e2]; simp; omega
  have s3 : w3.heap.size = w.heap.size + 3 := by rw [← e3]; simp; omega
  have s4 : w4.heap.size = w.heap.size + 4 := by rw [← e4]; simp; omega
  have s5 : w5.heap.size = w.heap.size + 5 := by rw [← e5]; simp; omega
  have hb5 : Below w.heap.size w w5 := by
    rw [← e5, ← e4, ← e3, ← e2, ← e1]
    exact (((((Below.refl _ _).alloc (Nat.le_refl _) _).alloc (by simp) _).alloc (by simp; omega) _).alloc (by simp; omega) _).alloc (by simp; omega) _
  have h2 : Has w5 w.heap.size #[.int .i64 d] 3 := by
    rw [← e5, ← e4, ← e3, ← e2, ← e1]
    exact ((((Has.new w _ _).alloc _).alloc _).alloc _).alloc _
  have h1 : Has w5 w1.heap.size #[.slice al nl cl] 22 := by
    rw [← e5, ← e4, ← e3, ← e2]
    exact (((Has.new w1 _ _).alloc _).alloc _).alloc _
  have h0 : Has w5 w2.heap.size (MBOX N a m c an K cn) 26 := by
    rw [← e5, ← e4, ← e3]
    exact ((Has.new w2 _ _).alloc _).alloc _
  have h3 : Has w5 w3.heap.size #[.slice none 0 0] 22 := by
    rw [← e5, ← e4]
    exact (Has.new w3 _ _).alloc _
  have h4 : Has w5 w4.heap.size #[.int .i64 0] 29 := by
    rw [← e5]
    exact Has.new w4 _ _
  have hL5 : NUML w5 a L := fun hp => by
    obtain ⟨b, o, e, hlt, hcc⟩ := hL hp
    exact ⟨b, o, e, by omega, fun i x hx => (hb5.cell (p := ⟨b, o + i, none⟩) hlt).trans (hcc i x hx)⟩
  have cd := climbdo_ok d L N a m c an K cn al nl cl lv nd w2.heap.size w1.heap.size w.heap.size w3.heap.size w5 hl hm hc hnil (fun x e => ⟨by have := (hbl x e).1; omega, (hbl x e).2⟩) hK hL5 hcn (fun x e => by have := hna x e; omega) (hFn.below hb5) hcl (fun x e => by have := hla x e; omega) (hFl.below hb5) (hT.below hw0 hb5) (hX.below hb5) (by omega) h0 h1 h2 h3
  rw [← e5] at cd
  have cf := faceC_ok w2.heap.size w1.heap.size w.heap.size w3.heap.size w4 _ _ cd
    (fun w' ⟨_, ht⟩ => by
      rw [e5] at ht
      exact (ht.keep w4.heap.size (by omega) (by omega)).trans h4)
    (fun x w' ⟨_, _, hb⟩ => by rw [e5] at hb; exact h4.keep hb)
  rw [e5] at cf
  have FIN : Aside (∀ e w', FACED w4 (fun w' => MCE L N K nl = 0 ∧ CLMD w5 w' w3.heap.size (PC N) (MUPS d (TPS N) L lv nd)) (fun x w' => x = MCE L N K nl ∧ x ≠ 0 ∧ Below w5.heap.size w5 w') e w' → e = .returned (.int .i64 (MCL d L N K nl lv nd).1) ∧ Below w.heap.size w w' ∧ ∃ a' c', Has w' w3.heap.size #[.slice a' (MCL d L N K nl lv nd).2.1 c'] 22 ∧ w'.ownsRow w.heap.size 38 32 (.slice a' (MCL d L N K nl lv nd).2.1 c') (MCL d L N K nl lv nd).2.1 (CELLS (MCL d L N K nl lv nd).2.2)) := by
    rintro e w' (⟨rfl, wx, ⟨hr, ht⟩, rfl⟩ | ⟨x, wx, rfl, ⟨rfl, hx, hbx⟩, rfl⟩)
    · have hP : MCL d L N K nl lv nd = (0, PC N, MUPS d (TPS N) L lv nd) := if_pos hr
      obtain ⟨v, hv, hown⟩ := ht.row
      obtain ⟨a', c', rfl⟩ := own_cut hown
      rw [hP]
      refine ⟨rfl, ?_, a', c', ?_, ?_⟩
      · exact ((hb5.trans (ht.below.mono (by omega)))).setCell (by show w.heap.size ≤ w4.heap.size; omega) _
      · exact hv.other (by show w3.heap.size ≠ w4.heap.size; omega) _
      · exact own_mono (ownsRow_setCell_below hown (a := ⟨w4.heap.size, 0, none⟩) (by show w4.heap.size < w5.heap.size; omega) _) (by omega)
    · have hP : MCL d L N K nl lv nd = (MCE L N K nl, 0, []) := if_neg hx
      rw [hP]
      refine ⟨rfl, (hb5.trans (hbx.mono hb5.size)).setCell (by show w.heap.size ≤ w4.heap.size; omega) _, none, 0, ?_, ?_⟩
      · exact (h3.keep hbx).other (by show w3.heap.size ≠ w4.heap.size; omega) _
      · exact ⟨rfl, .inl ⟨rfl, rfl⟩⟩
  have hM : (MBOX N a m c an K cn) = #[.int .u64 (N : Int), .slice a m c, .slice an K cn] := rfl
  rw [hM] at e3
  clear cd h0 h1 h2 h3 h4 hL5 hb5 hl hm hc hnil hbl hL hFl hFn hT hX hcn hna hcl hla s1 s2 s3 s4 s5 e5 hw0 hK
  generalize MCL d L N K nl lv nd = A at *
  go_enter Tryz.func9, Tryz.ntmps9
  rw [hM]
  go_wp2_with fail
  refine cf.mono ?_
  intro e w6 hh
  obtain ⟨rfl, hb6, a', c', hv, hown⟩ := FIN.out e w6 hh
  have x0 := hv.cell 0
  have FN : Aside (ANSC w A (.returned (.tuple #[.slice a' A.2.1 c', .int .i64 A.1])) w6) := ⟨a', c', rfl, hown, hb6⟩
  clear hh hb6 hv hown FIN cf
  go_wp2_with fail
  go_ret2
  exact FN.out
end Go.Proofs.YtlicfinmibbpdaaGreatDoor
