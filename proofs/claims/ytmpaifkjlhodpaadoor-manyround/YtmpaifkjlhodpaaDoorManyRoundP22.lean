/- Texts of ManyRound, one behind the other: ManyNumbers, ManyGiven, ManyRoundWalk. -/
import Derived.Laws.AppendOwnNone
import Derived.Test.YtmpaifkjlhodpaaDoorManyRoundP19
import Derived.Test.YtmpaifkjlhodpaaDoorManyRoundP20
import Derived.Test.YtmpaifkjlhodpaaDoorManyRoundP21
/- massiflaw10.numbers: the same numbers in a list of their own that goes on behind them. -/
namespace Go.Proofs.YtmpaifkjlhodpaaDoor
open Go.RowKit
set_option maxRecDepth 100000

/-- numbers are appended. -/
theorem app_nums {ops : Array Oper} {rest : List Oper} {o : Oper} {a : Act} {Q : Exit → Act → World → Prop} (w : World) (hgd : o.guard = none) (s x : Operand)
    (ho : o.op = .call { callee := .builtin .append, args := #[s, x], argTypes := #[22, 22] })
    (base : Nat) (v : Value) (n : Nat) (xs : List Value) (hs : a.eval s = v) (hown : w.ownsRow base 23 1 v n xs)
    (ad : Option Addr) (m c : Nat) (L : List Nat) (hx : a.eval x = .slice ad m c) (hL : NUML w ad L) (hl : L.length = m) (hc : ad = none → c = 0)
    (hb : n + m ≤ 2 ^ 30) (hbase : base ≤ w.heap.size)
    (hh : ∀ a' c' w', w'.ownsRow base 23 1 (.slice a' (n + m) c') (n + m) (xs ++ UCELLS L) → w.grownBy w' v.ownBlock → wpList Tryd.prog ops Q rest (a.put o.dst (.slice a' (n + m) c')) w') : wpList Tryd.prog ops Q (o :: rest) a w := by
  obtain ⟨i, hi, hz, hs1, hby⟩ := info_parts info_u64
  cases ad with
  | none =>
    obtain rfl := hc rfl
    have hL0 : L = [] := by
      cases L with
      | nil => rfl
      | cons y l =>
        obtain ⟨b, o', e, _⟩ := hL (by simp)
        cases e
    subst hL0
    obtain rfl : m = 0 := by simpa using hl.symm
    refine wpList_append_own_none hgd s x 22 ho base 23 i 1 Tryd.underlying22 hi v n xs hs hown hx ?_
    obtain ⟨a', c', rfl⟩ := own_sliced hown
    have := hh a' c' w (by simpa [UCELLS] using hown) ⟨rfl, rfl, rfl, Nat.le_refl _, fun _ _ _ => rfl⟩
    simpa using this
  | some ad =>
    have hcells : ∀ j u, (UCELLS L)[j]? = some u → w.cell? (ad.add j) = some u := by
      intro j u hu
      have hj : j < L.length := by have := (List.getElem?_eq_some_iff.1 hu).1; rwa [UCELLS_length] at this
      obtain ⟨g, o', e, _, hr⟩ := hL (by omega)
      cases e
      rw [Addr.add_mid, hr j _ (List.getElem?_eq_getElem hj)]
      rw [UCELLS, List.getElem?_map, List.getElem?_eq_getElem hj] at hu
      exact hu
    refine wpList_append_own w hgd s x 22 ho base 23 i (.int .u64 0) 1 8 Tryd.underlying22 hi hz hs1 hby rfl (by decide) v n xs hs hown ad m c (UCELLS L) hx (by rw [UCELLS_length]; omega) hcells (fun u hu => by
      obtain ⟨y, _, rfl⟩ := List.mem_map.1 hu
      rfl) (by simp only [maxLen]; omega) (by omega) hbase ?_
    intro v' w' h1 h2 _
    obtain ⟨a', c', rfl⟩ := own_sliced h1
    exact hh a' c' w' h1 h2
theorem own_nothing (w : World) : (w.alloc (.cells #[] 23)).ownsRow w.heap.size 23 1 (.slice (some ⟨w.heap.size, 0, none⟩) 0 0) 0 [] :=
  World.ownsRow_lit w #[] 0 (Nat.le_refl _) (by simp [maxLen]) rfl
theorem own_frontn {w : World} {base g n cap : Nat} {L : List Nat} {x : Nat} (hl : L.length = n) (h : w.ownsRow base 23 1 (.slice (some ⟨g, 0, none⟩) (n + 1) cap) (n + 1) (UCELLS (L ++ [x]))) : w.ownsRow base 23 1 (.slice (some ⟨g, 0, none⟩) n cap) n (UCELLS L) ∧ n + 1 ≤ cap ∧ w.cell? ⟨g, n, none⟩ = some (.int .u64 (x : Int)) ∧ g < w.heap.size := by
  have hr : w.cell? ⟨g, n, none⟩ = some (.int .u64 (x : Int)) := by
    rw [h.cellAt n (by omega), UCELLS_snoc, List.getElem?_append_right (by rw [UCELLS_length]; omega), UCELLS_length, hl, Nat.sub_self]
    rfl
  rcases h.2 with ⟨e, _⟩ | ⟨g', cap', cur, e, hb, hg, h1, h2, h3, h4⟩
  · cases e
  · cases e
    refine ⟨⟨by rw [UCELLS_length, hl, Nat.mul_one], .inr ⟨g, cap, cur, rfl, hb, hg, by omega, h2, h3, ?_⟩⟩, h1, hr, (Array.getElem?_eq_some_iff.1 hg).1⟩
    have h5 := congrArg (List.take (n * 1)) h4
    rw [List.take_take, show min (n * 1) ((n + 1) * 1) = n * 1 by omega] at h5
    rw [h5, UCELLS_snoc, List.take_left' (by rw [UCELLS_length, hl, Nat.mul_one])]
/-- what numbers answers. -/
structure NUMD (w w' : World) (g n cap : Nat) (L : List Nat) : Prop where
  own : w'.ownsRow w.heap.size 23 1 (.slice (some ⟨g, 0, none⟩) n cap) n (UCELLS L)
  room : n + 1 ≤ cap
  mark : w'.cell? ⟨g, n, none⟩ = some (.int .u64 171)
  lt : g < w'.heap.size
  base : w.heap.size ≤ g
  below : Below w.heap.size w w'
theorem NUMD.lies {w w' : World} {g n cap : Nat} {L : List Nat} (h : NUMD w w' g n cap L) (hl : L.length = n) : NUML w' (some ⟨g, 0, none⟩) L := fun _ => ⟨g, 0, rfl, h.lt, fun i x hx => by
  have hi : i < L.length := (List.getElem?_eq_some_iff.1 hx).1
  rw [Nat.zero_add, h.own.cellAt i (by omega), UCELLS, List.getElem?_map, hx]
  rfl⟩
set_option maxHeartbeats 1000000 in
theorem numbers10_ok (a : Option Addr) (n c : Nat) (L : List Nat) (hl : L.length = n) (hn : n < 2 ^ 20) (hc : a = none → c = 0) (w : World) (hL : NUML w a L) : Calls Tryd.prog 6 #[.slice a n c] w fun e w' => ∃ g cap, e = .returned (.slice (some ⟨g, 0, none⟩) n cap) ∧ NUMD w w' g n cap L := by
  have HA : Aside (L.length = n ∧ n < 2 ^ 20 ∧ (a = none → c = 0) ∧ NUML w a L) := ⟨hl, hn, hc, hL⟩
  clear hl hn hc hL
  go_enter Tryd.func6, Tryd.ntmps6
  go_wp2_with (first
    | (at_builtin; refine app_nums _ rfl (.tmp 3) (.tmp 4) rfl w.heap.size (.slice (some ⟨w.heap.size, 0, none⟩) 0 0) 0 [] rfl (own_nothing w) a n c L rfl (fun hp => by
         obtain ⟨b, o, e, hlt, hcc⟩ := HA.out.2.2.2 hp
         exact ⟨b, o, e, by simp; omega, fun i x hx => (((Below.refl w.heap.size w).alloc (Nat.le_refl _) _).cell (p := ⟨b, o + i, none⟩) hlt).trans (hcc i x hx)⟩) HA.out.1 HA.out.2.2.1 (by have := HA.out.2.1; omega) (by simp) ?_; rw [Nat.zero_add, List.nil_append]; intro a1 c1 w1 hown1 hgrow1
       have R1 : Aside (w1.ownsRow w.heap.size 23 1 (.slice a1 n c1) n (UCELLS L) ∧ Below w.heap.size w w1) := ⟨hown1, ((Below.refl _ w).alloc (Nat.le_refl _) _).grown hgrow1 (by simp) (fun k e => by cases e; exact Nat.le_refl _)⟩
       clear hown1 hgrow1)
    | (at_builtin; refine app_num _ rfl (.tmp 5) (.tmp 6) rfl w.heap.size (.slice a1 n c1) n L rfl (R1.out.1.alloc _) w1.heap.size 1 171 rfl ((Has.new _ _ _).cell 0) (by have := HA.out.2.1; omega) (by have := R1.out.2.size; simp; omega) ?_; intro g2 c2 w2 hown2 hgrow2 hg2
       obtain ⟨f1, f2, f3, f4⟩ := own_frontn HA.out.1 hown2
       have hcap : (n : Int) ≤ (c2 : Int) := by omega
       have R2 : Aside (NUMD w w2 g2 n c2 L) := ⟨f1, f2, f3, f4, (f1.lt g2 rfl).1, (R1.out.2.alloc R1.out.2.size _).grown hgrow2 (by have := R1.out.2.size; simp; omega) (fun k e => (R1.out.1.lt k e).1)⟩
       clear hown2 hgrow2 hg2 f1 f2 f3 f4))
  go_ret
  exact ⟨_, _, rfl, R2.out⟩
end Go.Proofs.YtmpaifkjlhodpaaDoor

/- given of the law: the same proof, in lists of its own that go on behind them. -/
namespace Go.Proofs.YtmpaifkjlhodpaaDoor
open Go.RowKit
set_option maxRecDepth 100000

/-- what given answers. -/
structure GIVM (w w' : World) (g1 n q1 : Nat) (L : List Nat) (g2 m q2 : Nat) (l : List Int) : Prop where
  own1 : w'.ownsRow w.heap.size 23 1 (.slice (some ⟨g1, 0, none⟩) n q1) n (UCELLS L)
  room1 : n + 1 ≤ q1
  mark1 : w'.cell? ⟨g1, n, none⟩ = some (.int .u64 171)
  own2 : w'.ownsRow w.heap.size 57 32 (.slice (some ⟨g2, 0, none⟩) m q2) m (CELLS l)
  room2 : m + 1 ≤ q2
  mark2 : w'.rangeAt g2 (m * 32) (CELLS MRK)
  lt1 : g1 < w'.heap.size
  lt2 : g2 < w'.heap.size
  below : Below w.heap.size w w'
set_option maxHeartbeats 2000000 in
theorem given10_ok (N : Int) (a : Option Addr) (n ca : Nat) (L : List Nat) (x : Option Addr) (m cx : Nat) (l : List Int) (hl : L.length = n) (hn : n ≤ 200) (hc : a = none → ca = 0) (hm : m ≤ 200) (hcx : x = none → cx = 0) (w : World) (hL : NUML w a L) (hF : Flat w x m l) :
    Calls Tryd.prog 13 #[.agg #[.int .u64 N, .slice a n ca, .slice x m cx]] w fun e w' => ∃ g1 q1 g2 q2, e = .returned (.agg #[.int .u64 N, .slice (some ⟨g1, 0, none⟩) n q1, .slice (some ⟨g2, 0, none⟩) m q2]) ∧ GIVM w w' g1 n q1 L g2 m q2 l := by
  obtain ⟨w1, e1⟩ : ∃ w1, w.alloc (.cells #[.int .u64 N, .slice a n ca, .slice x m cx] 32) = w1 := ⟨_, rfl⟩
  obtain ⟨w2, e2⟩ : ∃ w2, w1.alloc (.cells ZMANY 32) = w2 := ⟨_, rfl⟩
  have s1 : w1.heap.size = w.heap.size + 1 := by rw [← e1]; simp
  have s2 : w2.heap.size = w.heap.size + 2 := by rw [← e2]; simp; omega
  have hb2 : Below w.heap.size w w2 := by rw [← e2, ← e1]; exact ((Below.refl _ _).alloc (Nat.le_refl _) _).alloc (by simp) _
  have h1 : Has w2 w.heap.size #[.int .u64 N, .slice a n ca, .slice x m cx] 32 := by rw [← e2, ← e1]; exact (Has.new w _ _).alloc _
  have h2 : Has w2 w1.heap.size ZMANY 32 := by rw [← e2]; exact Has.new w1 _ _
  have L2 : NUML w2.drew a L := fun h0 => by
    obtain ⟨b, o, e, hlt, hcc⟩ := hL h0
    exact ⟨b, o, e, Nat.lt_of_lt_of_le hlt hb2.size, fun i y hy => (hb2.cell (p := ⟨b, o + i, none⟩) hlt).trans (hcc i y hy)⟩
  have F2 : Flat w2.drew x m l := hF.below (hb2.drew)
  have i3 : (Tryd.prog.info? 32).map (·.size) = some 3 := by kernel_rfl
  have info3 : ∀ {u v y : Value} (_ : Value), (Tryd.prog.info? 32).map (·.size) = some (#[u, v, y] : Array Value).size := fun _ => i3
  have size3 : ∀ {u v y : Value} (_ : Value), ZMANY.size = (#[u, v, y] : Array Value).size := fun _ => rfl
  have cN := numbers10_ok a n ca L hl (by omega) hc w2.drew L2
  have cR : ∀ W, Below w2.drew.heap.size w2.drew W → Calls Tryd.prog 31 #[.slice x m cx] W (ROWED W m l) := fun W hb => row10_ok x m cx (by omega) hcx l W (F2.below hb)
  have HH : Aside (Has w2 w.heap.size #[.int .u64 N, .slice a n ca, .slice x m cx] 32 ∧ Has w2 w1.heap.size ZMANY 32 ∧ Below w.heap.size w w2 ∧ w1.heap.size = w.heap.size + 1 ∧ w2.heap.size = w.heap.size + 2 ∧ L.length = n) := ⟨h1, h2, hb2, s1, s2, hl⟩
  have SS : ∀ W, Below w2.heap.size w2.drew W → (fun w' : World => w'.cell? ⟨w.heap.size, 0, none⟩ = some (.int .u64 N) ∧ w'.cell? ⟨w.heap.size, 1, none⟩ = some (.slice a n ca) ∧ w'.cell? ⟨w.heap.size, 2, none⟩ = some (.slice x m cx)) W := fun W hb => by
    have k : Has W w.heap.size #[.int .u64 N, .slice a n ca, .slice x m cx] 32 := (hb.block w.heap.size h1.lt).trans h1
    exact ⟨k.cell 0, k.cell 1, k.cell 2⟩
  have G2 : ∀ g q g' q' W, (∃ w3, NUMD w2.drew w3 g n q L ∧ (W.ownsRow w3.heap.size 57 32 (.slice (some ⟨g', 0, none⟩) m q') m (CELLS l) ∧ m + 1 ≤ q' ∧ W.rangeAt g' (m * 32) (CELLS MRK) ∧ g' < W.heap.size ∧ Below w3.heap.size w3 W)) → Below w2.heap.size w2.drew W := fun g q g' q' W ⟨w3, h3, h4⟩ => h3.below.trans (h4.2.2.2.2.mono h3.below.size)
  have SA : Aside (∀ W, Below w2.heap.size w2.drew W → (fun w' : World => w'.cell? ⟨w.heap.size, 0, none⟩ = some (.int .u64 N) ∧ w'.cell? ⟨w.heap.size, 1, none⟩ = some (.slice a n ca) ∧ w'.cell? ⟨w.heap.size, 2, none⟩ = some (.slice x m cx)) W) := SS
  have GA : Aside (∀ g q g' q' W, (∃ w3, NUMD w2.drew w3 g n q L ∧ (W.ownsRow w3.heap.size 57 32 (.slice (some ⟨g', 0, none⟩) m q') m (CELLS l) ∧ m + 1 ≤ q' ∧ W.rangeAt g' (m * 32) (CELLS MRK) ∧ g' < W.heap.size ∧ Below w3.heap.size w3 W)) → Below w2.heap.size w2.drew W) := G2
  have CN : Aside (Calls Tryd.prog 6 #[.slice a n ca] w2.drew fun e w' => ∃ g cap, e = .returned (.slice (some ⟨g, 0, none⟩) n cap) ∧ NUMD w2.drew w' g n cap L) := cN
  have CR : Aside (∀ W, Below w2.drew.heap.size w2.drew W → Calls Tryd.prog 31 #[.slice x m cx] W (ROWED W m l)) := cR
  have I3 : Aside ((∀ {u v y : Value} (_ : Value), (Tryd.prog.info? 32).map (·.size) = some (#[u, v, y] : Array Value).size) ∧ ∀ {u v y : Value} (_ : Value), ZMANY.size = (#[u, v, y] : Array Value).size) := ⟨info3, size3⟩
  clear hl hn hc hm hcx hL hF s1 s2 hb2 h1 h2 L2 F2 i3 info3 size3 cN cR SS G2
  go_enter Tryd.func13, Tryd.ntmps13
  go_upto_region 1 with fail
  clear e1 e2
  refine given1 w2 w.heap.size w1.heap.size N a n ca x m cx ZMANY (by have := HH.out; omega) (fun W => W = w2.drew) (fun g q W => NUMD w2.drew W g n q L) (fun g q g' q' W => ∃ w3, NUMD w2.drew w3 g n q L ∧ (W.ownsRow w3.heap.size 57 32 (.slice (some ⟨g', 0, none⟩) m q') m (CELLS l) ∧ m + 1 ≤ q' ∧ W.rangeAt g' (m * 32) (CELLS MRK) ∧ g' < W.heap.size ∧ Below w3.heap.size w3 W)) rfl
    (fun W hW => SA.out W (by subst hW; exact Below.refl _ _)) (fun g q W h => SA.out W h.below) (fun g q g' q' W h => SA.out W (GA.out g q g' q' W h)) (fun g q g' q' W h => ((GA.out g q g' q' W h).block w1.heap.size HH.out.2.1.lt).trans HH.out.2.1) I3.out.1 I3.out.2 (fun W hW => by subst hW; exact CN.out) (fun g q W h => ?_) (fun _ _ _ _ _ h => h) ?_
  · refine (CR.out W h.below).mono ?_
    rintro e w' ⟨g2, q2, he, hr⟩
    exact ⟨g2, q2, he, W, h, hr⟩
  · rintro g1 q1 g2 q2 W ⟨wx, ⟨w3, h3, h4⟩, rfl⟩
    have FN : Aside (GIVM w (wx.setRow w1.heap.size #[.int .u64 N, .slice (some ⟨g1, 0, none⟩) n q1, .slice (some ⟨g2, 0, none⟩) m q2]) g1 n q1 L g2 m q2 l) := by
      have hh := HH.out
      have b3 : w2.heap.size ≤ g1 := h3.base
      have b4 : w3.heap.size ≤ g2 := (h4.1.lt g2 rfl).1
      have sz3 : w2.heap.size ≤ w3.heap.size := h3.below.size
      have bx : Below w2.heap.size w2 wx := ⟨(h3.below.trans (h4.2.2.2.2.mono h3.below.size)).os, (h3.below.trans (h4.2.2.2.2.mono h3.below.size)).tape, (h3.below.trans (h4.2.2.2.2.mono h3.below.size)).output, (h3.below.trans (h4.2.2.2.2.mono h3.below.size)).size, (h3.below.trans (h4.2.2.2.2.mono h3.below.size)).block⟩
      have c1 : ∀ o : Nat, (wx.setRow w1.heap.size #[.int .u64 N, .slice (some ⟨g1, 0, none⟩) n q1, .slice (some ⟨g2, 0, none⟩) m q2]).cell? ⟨g1, o, none⟩ = wx.cell? ⟨g1, o, none⟩ := fun o => World.cell?_of_block (by exact setRow_other _ _ _ _ (show g1 ≠ w1.heap.size by omega))
      have c2 : ∀ o : Nat, (wx.setRow w1.heap.size #[.int .u64 N, .slice (some ⟨g1, 0, none⟩) n q1, .slice (some ⟨g2, 0, none⟩) m q2]).cell? ⟨g2, o, none⟩ = wx.cell? ⟨g2, o, none⟩ := fun o => World.cell?_of_block (by exact setRow_other _ _ _ _ (show g2 ≠ w1.heap.size by omega))
      refine ⟨?_, h3.room, ?_, ?_, h4.2.1, ?_, ?_, ?_, below_row (hh.2.2.1.trans (bx.mono (by omega))) (by omega) _⟩
      · exact own_mono (own_hold9 (own_below h3.own h4.2.2.2.2) fun k e => setRow_other _ _ _ _ (by have e : g1 = k := (by simpa [Value.ownBlock] using e); omega)) (by show w.heap.size ≤ w2.heap.size; omega)
      · exact (c1 n).trans ((h4.2.2.2.2.cell (p := ⟨g1, n, none⟩) h3.lt).trans h3.mark)
      · exact own_mono (own_hold9 h4.1 fun k e => setRow_other _ _ _ _ (by have e : g2 = k := (by simpa [Value.ownBlock] using e); omega)) (by omega)
      · exact fun j v hv => (c2 _).trans (h4.2.2.1 j v hv)
      · have := h3.lt
        have := h4.2.2.2.2.size
        simp [World.setRow]
        omega
      · simp [World.setRow]
        exact h4.2.2.2.1
    have hres : Has (wx.setRow w1.heap.size #[.int .u64 N, .slice (some ⟨g1, 0, none⟩) n q1, .slice (some ⟨g2, 0, none⟩) m q2]) w1.heap.size #[.int .u64 N, .slice (some ⟨g1, 0, none⟩) n q1, .slice (some ⟨g2, 0, none⟩) m q2] 32 := by
      have hz : Has wx w1.heap.size ZMANY 32 := ((GA.out g1 q1 g2 q2 wx ⟨w3, h3, h4⟩).block w1.heap.size HH.out.2.1.lt).trans HH.out.2.1
      exact hz.row _
    have HRS : Aside (Has (wx.setRow w1.heap.size #[.int .u64 N, .slice (some ⟨g1, 0, none⟩) n q1, .slice (some ⟨g2, 0, none⟩) m q2]) w1.heap.size #[.int .u64 N, .slice (some ⟨g1, 0, none⟩) n q1, .slice (some ⟨g2, 0, none⟩) m q2] 32) := hres
    generalize wx.setRow w1.heap.size #[.int .u64 N, .slice (some ⟨g1, 0, none⟩) n q1, .slice (some ⟨g2, 0, none⟩) m q2] = wy at *
    clear h3 h4 hres SA GA CN CR HH
    go_wp2_with fail
    refine bodyPost_ret (v := .agg #[.int .u64 N, .slice (some ⟨g1, 0, none⟩) n q1, .slice (some ⟨g2, 0, none⟩) m q2]) ?_ rfl ⟨g1, q1, g2, q2, rfl, FN.out⟩
    exact results_cell_row rfl _ _ w1.heap.size 32 _ (0, 0) _ rfl HRS.out Tryd.underlying32 rfl (I3.out.1 undef)
end Go.Proofs.YtmpaifkjlhodpaaDoor

/- The law ManyRound returns true. -/
namespace Go.Proofs.YtmpaifkjlhodpaaDoor
open Go.RowKit
set_option maxRecDepth 100000

theorem DIFS_range : ∀ (L : List Nat) (k : Nat), (∀ x ∈ L, x < 2 ^ 64) → ∀ x ∈ DIFS k L, 0 ≤ x ∧ x ≤ 255
  | [], _, _, x, h => by cases h
  | y :: L, k, hL, x, h => by
    rw [DIFS] at h
    rcases List.mem_append.1 h with h | h
    · exact SHORT_range (by have := hL y (List.mem_cons_self ..); omega) x h
    · exact DIFS_range L (y + 1) (fun z hz => hL z (List.mem_cons_of_mem _ hz)) x h
theorem MWRT_range {L : List Nat} {N : Nat} {l : List Int} (hN : N < 2 ^ 64) (hm : L.length < 2 ^ 64) (hL : ∀ x ∈ L, x < 2 ^ 64) (hl : ∀ x ∈ l, 0 ≤ x ∧ x ≤ 255) : ∀ x ∈ MWRT L N l, 0 ≤ x ∧ x ≤ 255 := fun x h => by
  unfold MWRT at h
  rcases List.mem_cons.1 h with h | h
  · subst h; decide
  · rcases List.mem_append.1 h with h | h
    · rcases List.mem_append.1 h with h | h
      · rcases List.mem_append.1 h with h | h
        · exact SHORT_range hN x h
        · exact SHORT_range hm x h
      · exact DIFS_range L 0 hL x h
    · exact hl x h
theorem MWRT_length {L : List Nat} {N : Nat} {l : List Int} : (MWRT L N l).length ≤ 21 + 10 * L.length + l.length := by
  unfold MWRT
  have h1 := SHORT_length N
  have h2 := SHORT_length L.length
  have h3 := NTOP_le N
  have h4 := NTOP_le L.length
  have h5 := DIFS_length L 0
  simp only [List.length_cons, List.length_append]
  omega
/-- what is read is no more than the bytes. -/
theorem MDC_sub {l : List Int} (hr : ∀ x ∈ l, 0 ≤ x ∧ x ≤ 255) : (∀ x ∈ (MDC l).2.2.2, 0 ≤ x ∧ x ≤ 255) ∧ (MDC l).2.2.1.length ≤ l.length ∧ (MDC l).2.2.2.length ≤ l.length := by
  by_cases h : (MDC l).1 = 0
  · cases l with
    | nil => cases h
    | cons x t =>
      have e : MDC (x :: t) = if x = 78 then MD1 t else MERR 14 := rfl
      rw [e] at h ⊢
      by_cases hx : x = 78
      · rw [if_pos hx] at h ⊢
        have hrt : ∀ y ∈ t, 0 ≤ y ∧ y ≤ 255 := fun y hy => hr y (List.mem_cons_of_mem _ hy)
        by_cases hl1 : (LNG t).2.2 = 0
        · obtain ⟨Z, m, q1, q2, q3, q4, q5⟩ := LNG_back hrt hl1
          by_cases hz : 4611686018427387904 < Z
          · rw [MD1_far q4 hz] at h
            cases h
          · rw [MD1_ok q4 (by omega)] at h ⊢
            have hI := IDXS_few (n := Z) (t := t.drop m) (fun y hy => hrt y (List.mem_of_mem_drop hy))
            have hd : (t.drop m).length ≤ t.length := by rw [List.length_drop]; omega
            generalize IDXS Z (t.drop m) = I at *
            unfold MD3 at h ⊢
            by_cases h1 : I.1 ≠ 0
            · rw [if_pos h1] at h
              exact absurd h h1
            · rw [if_neg h1] at h ⊢
              by_cases h2 : I.2.2.length < 32 * (NEEDS (TPS Z) I.2.1).length
              · rw [if_pos h2] at h
                cases h
              · rw [if_neg h2] at h ⊢
                by_cases h3 : 32 * (NEEDS (TPS Z) I.2.1).length < I.2.2.length
                · rw [if_pos h3] at h
                  cases h
                · rw [if_neg h3]
                  have := hI (by simpa using h1)
                  refine ⟨this.2, ?_, ?_⟩ <;> simp only [List.length_cons] <;> omega
        · rw [MD1_bad hl1] at h
          exact absurd h hl1
      · rw [if_neg hx] at h
        cases h
  · rw [MDC_err h]
    exact ⟨(fun x hx => by cases hx), Nat.zero_le _, Nat.zero_le _⟩
theorem round_long (N : Int) (a : Option Addr) (n ca : Nat) (x : Option Addr) (m cx : Nat) (y : Option Addr) (k cy : Nat) (w : World) (h : (200 : Int) < (n : Int) ∨ (200 : Int) < (m : Int) ∨ (6400 : Int) < (k : Int)) :
    Calls Tryd.prog 5 #[.agg #[.int .u64 N, .slice a n ca, .slice x m cx], .slice y k cy] w fun e w' => e = .returned (.bool true) ∧ Below w.heap.size w w' := by
  have FN : Aside (Below w.heap.size w (w.alloc (.cells #[.int .u64 N, .slice a n ca, .slice x m cx] 32))) := (Below.refl _ _).alloc (Nat.le_refl _) _
  by_cases h1 : (200 : Int) < (n : Int)
  · go_enter Tryd.func5, Tryd.ntmps5
    go_wp2_with fail
    go_ret
    exact ⟨rfl, FN.out⟩
  · by_cases h2 : (200 : Int) < (m : Int)
    · clear h
      go_enter Tryd.func5, Tryd.ntmps5
      go_wp2_with fail
      go_ret
      exact ⟨rfl, FN.out⟩
    · have h3 : (6400 : Int) < (k : Int) := by omega
      clear h
      go_enter Tryd.func5, Tryd.ntmps5
      go_wp2_with fail
      go_ret
      exact ⟨rfl, FN.out⟩
set_option maxHeartbeats 16000000 in
theorem round_core (N : Nat) (a : Option Addr) (n ca : Nat) (L : List Nat) (x : Option Addr) (m cx : Nat) (l : List Int) (y : Option Addr) (k cy : Nat) (l2 : List Int) (w : World) (hN : N < 2 ^ 64) (hl : L.length = n) (hn : n ≤ 200) (hc : a = none → ca = 0) (hL : NUML w a L) (hx : ∀ x ∈ L, x < 2 ^ 64) (hm : m ≤ 200) (hcx : x = none → cx = 0) (hF : Flat w x m l) (hB : Bytes w y k l2) (hk : k ≤ 6400) (hcy : y = none → cy = 0) (hT : Tabled w) (h0 : 0 < w.heap.size) :
    Calls Tryd.prog 5 #[.agg #[.int .u64 (N : Int), .slice a n ca, .slice x m cx], .slice y k cy] w fun e w' => e = .returned (.bool true) ∧ Below w.heap.size w w' := by
  have tab : Aside (∀ W, Below w.heap.size w W → Tabled W ∧ 0 < W.heap.size) := fun W hb => ⟨hT.below h0 hb, by have := hb.size; omega⟩
  obtain ⟨w1, e1⟩ : ∃ w1, w.alloc (.cells #[.int .u64 (N : Int), .slice a n ca, .slice x m cx] 32) = w1 := ⟨_, rfl⟩
  have hb1 : Below w.heap.size w w1 := by rw [← e1]; exact (Below.refl _ _).alloc (Nat.le_refl _) _
  have hs1 : Has w1 w.heap.size #[.int .u64 (N : Int), .slice a n ca, .slice x m cx] 32 := by rw [← e1]; exact Has.new w _ _
  have cg := given10_ok (N : Int) a n ca L x m cx l hl hn hc hm hcx w1 (hL.keep hb1) (hF.below hb1)
  have i1 : ¬ (200 : Int) < (n : Int) := by omega
  have i2 : ¬ (200 : Int) < (m : Int) := by omega
  have i3 : ¬ (6400 : Int) < (k : Int) := by omega
  have HA : Aside (N < 2 ^ 64 ∧ L.length = n ∧ n ≤ 200 ∧ NUML w a L ∧ (∀ x ∈ L, x < 2 ^ 64) ∧ m ≤ 200 ∧ Flat w x m l ∧ Below w.heap.size w w1 ∧ Has w1 w.heap.size #[.int .u64 (N : Int), .slice a n ca, .slice x m cx] 32) := ⟨hN, hl, hn, hL, hx, hm, hF, hb1, hs1⟩
  have HB : Aside (Bytes w y k l2 ∧ k ≤ 6400 ∧ (y = none → cy = 0)) := ⟨hB, hk, hcy⟩
  have x1 := hs1.cell 1
  have x2 := hs1.cell 2
  have x0 := hs1.cell 0
  clear hN hl hn hc hL hx hm hcx hF hB hk hcy hT h0 hb1 hs1
  go_enter Tryd.func5, Tryd.ntmps5
  go_wp2_with fail
  refine cg.mono ?_
  rintro e w2 ⟨g1, q1, g2, q2, rfl, G⟩
  have hlies := own_lies G.own1 HA.out.2.1
  have ce := manyencode_ok L N (some ⟨g1, 0, none⟩) n q1 (some ⟨g2, 0, none⟩) m q2 l w2 HA.out.2.1 (by have := HA.out.2.2.1; omega) (by have := G.room1; omega) (fun e => by cases e) (fun x e => by cases e; exact ⟨G.lt1, rfl⟩) (by have := HA.out.2.2.2.2.2.1; omega) hlies (own_flat G.own2 HA.out.2.2.2.2.2.2.1.2.2) (tab.out w2 (HA.out.2.2.2.2.2.2.2.1.trans (G.below.mono HA.out.2.2.2.2.2.2.2.1.size))).1 (tab.out w2 (HA.out.2.2.2.2.2.2.2.1.trans (G.below.mono HA.out.2.2.2.2.2.2.2.1.size))).2
  have hMB : (MBOX N (some ⟨g1, 0, none⟩) n q1 (some ⟨g2, 0, none⟩) m q2) = #[.int .u64 (N : Int), .slice (some ⟨g1, 0, none⟩) n q1, .slice (some ⟨g2, 0, none⟩) m q2] := rfl
  rw [hMB] at ce
  have B2 : Aside (Below w.heap.size w w2 ∧ Has w2 w.heap.size #[.int .u64 (N : Int), .slice a n ca, .slice x m cx] 32) := ⟨HA.out.2.2.2.2.2.2.2.1.trans (G.below.mono HA.out.2.2.2.2.2.2.2.1.size), HA.out.2.2.2.2.2.2.2.2.keep G.below⟩
  clear cg G hlies hMB e1 x0 x1 x2
  by_cases hW : MWA L N m = 0
  · have eM : MENC L N m l = (0, MWRT L N l) := if_pos hW
    have eD : MDC (MWRT L N l) = (0, N, L, l) := MDC_MWRT hW HA.out.2.2.2.2.2.2.1.1 (by have := HA.out.2.1; have := HA.out.2.2.1; omega)
    have rZ := MWRT_range (L := L) (N := N) (l := l) HA.out.1 (by have := HA.out.2.1; have := HA.out.2.2.1; omega) HA.out.2.2.2.2.1 HA.out.2.2.2.2.2.2.1.2.2
    have lZ := MWRT_length (L := L) (N := N) (l := l)
    obtain ⟨Z, hZ⟩ : ∃ Z, MWRT L N l = Z := ⟨_, rfl⟩
    rw [eM] at ce
    rw [hZ] at ce eD rZ lZ
    unfold ANSY at ce
    dsimp only at ce
    have ZZ : Aside (MDC Z = (0, N, L, l) ∧ (∀ x ∈ Z, 0 ≤ x ∧ x ≤ 255) ∧ Z.length ≤ 1000000) := ⟨eD, rZ, by have := HA.out.2.1; have := HA.out.2.2.1; have := HA.out.2.2.2.2.2.2.1.1; have := HA.out.2.2.2.2.2.1; omega⟩
    clear eM eD rZ lZ hZ hW
    go_wp2_with fail
    refine ce.mono ?_
    rintro e w3 ⟨a3, c3, rfl, o3, hb3⟩
    have B3 : Aside (Below w.heap.size w w3 ∧ Has w3 w.heap.size #[.int .u64 (N : Int), .slice a n ca, .slice x m cx] 32 ∧ Bytes w3 a3 Z.length Z ∧ Z.length ≤ c3) := ⟨B2.out.1.trans (hb3.mono B2.out.1.size), B2.out.2.keep hb3, own_bytes_any o3 ZZ.out.2.1⟩
    have cd := manydecode_ok a3 Z.length c3 Z w3 B3.out.2.2.1 B3.out.2.2.2 ZZ.out.2.2 (tab.out w3 B3.out.1).1 (tab.out w3 B3.out.1).2
    rw [ZZ.out.1] at cd
    unfold DECM at cd
    dsimp only at cd
    rw [HA.out.2.1] at cd
    clear ce o3 hb3 B2 ZZ
    go_wp2_with fail
    refine cd.mono ?_
    rintro e w4 ⟨a4, c4, a5, K, c5, rfl, o4, o5, hK, hb4⟩
    have B4 : Aside (Below w.heap.size w w4 ∧ Has w4 w.heap.size #[.int .u64 (N : Int), .slice a n ca, .slice x m cx] 32 ∧ NUML w4 a4 L ∧ Flat w4 a5 K l) := ⟨B3.out.1.trans (hb4.mono B3.out.1.size), B3.out.2.1.keep hb4, own_lies o4 HA.out.2.1, own_flat o5 HA.out.2.2.2.2.2.2.1.2.2⟩
    clear cd o4 o5 hK hb4 B3
    go_upto_region 6 with fail
    obtain ⟨w5, e5⟩ : ∃ w5, w4.alloc (.cells #[.int .u64 (N : Int), .slice a4 n c4, .slice a5 K c5] 32) = w5 := ⟨_, rfl⟩
    rw [e5]
    have hb5 : Below w4.heap.size w4 w5 := by rw [← e5]; exact (Below.refl _ _).alloc (Nat.le_refl _) _
    have hs5 : Has w5 w4.heap.size #[.int .u64 (N : Int), .slice a4 n c4, .slice a5 K c5] 32 := by rw [← e5]; exact Has.new w4 _ _
    have hp5 := B4.out.2.1.keep hb5
    have x50 : w5.cell? ⟨w4.heap.size, 0, none⟩ = some (.int .u64 (N : Int)) := hs5.cell 0
    have x51 : w5.cell? ⟨w4.heap.size, 1, none⟩ = some (.slice a4 n c4) := hs5.cell 1
    have x52 : w5.cell? ⟨w4.heap.size, 2, none⟩ = some (.slice a5 K c5) := hs5.cell 2
    have y50 : w5.cell? ⟨w.heap.size, 0, none⟩ = some (.int .u64 (N : Int)) := hp5.cell 0
    have y51 : w5.cell? ⟨w.heap.size, 1, none⟩ = some (.slice a n ca) := hp5.cell 1
    have y52 : w5.cell? ⟨w.heap.size, 2, none⟩ = some (.slice x m cx) := hp5.cell 2
    have B5 : Aside (Below w.heap.size w w5) := B4.out.1.trans (hb5.mono B4.out.1.size)
    have cs := same10_ok (N : Int) a a4 n ca c4 L x a5 m K cx c5 l HA.out.2.1 (by have := HA.out.2.2.1; omega) w5 (HA.out.2.2.2.1.keep B5.out) (B4.out.2.2.1.keep hb5) (HA.out.2.2.2.2.2.2.1.below B5.out) (B4.out.2.2.2.below hb5) (by have := HA.out.2.2.2.2.2.1; omega)
    clear hb5 hs5 hp5 e5 B4
    go_wp2_with fail
    refine cs.mono ?_
    rintro e WT ⟨rfl, hb6⟩
    have WB : Aside (Below w.heap.size w WT) := B5.out.trans (hb6.mono B5.out.size)
    clear cs hb6 B5 x50 x51 x52 y50 y51 y52
    have ct := text10_ok y k cy (by have := HB.out.2.1; omega) HB.out.2.2 l2 WT (HB.out.1.below WB.out)
    go_wp2_with fail
    refine ct.mono ?_
    rintro e w20 ⟨g20, q20, rfl, o20, r20, _, lt20, hb20⟩
    have B20 : Aside (Below w.heap.size w w20 ∧ Bytes w20 (some ⟨g20, 0, none⟩) k l2 ∧ k ≤ q20) := ⟨WB.out.trans (hb20.mono WB.out.size), own_bytes o20 lt20 HB.out.1.2.2, by omega⟩
    clear ct o20 r20 lt20 hb20 WB
    have cd := manydecode_ok (some ⟨g20, 0, none⟩) k q20 l2 w20 B20.out.2.1 B20.out.2.2 (by have := HB.out.2.1; omega) (tab.out w20 B20.out.1).1 (tab.out w20 B20.out.1).2
    obtain ⟨A, hA⟩ : ∃ A, MDC l2 = A := ⟨_, rfl⟩
    obtain ⟨d1, d2, d3⟩ := MDC_sub HB.out.1.2.2
    rw [hA] at cd d1 d2 d3
    have DD : Aside ((∀ x ∈ A.2.2.2, 0 ≤ x ∧ x ≤ 255) ∧ A.2.2.1.length ≤ 6400 ∧ A.2.2.2.length ≤ 6400 ∧ (A.1 = 0 → ∀ K, A.2.2.2.length = 32 * K → MENC A.2.2.1 A.2.1 K A.2.2.2 = (0, l2))) := ⟨d1, by have := HB.out.1.1; have := HB.out.2.1; omega, by have := HB.out.1.1; have := HB.out.2.1; omega, fun h0 K hK => MDC_back HB.out.1.2.2 (by rw [hA]; exact Prod.ext h0 rfl) hK⟩
    clear hA d1 d2 d3
    go_wp2_with fail
    refine cd.mono ?_
    rintro e w21 ⟨a21, c21, a22, K, c22, rfl, o21, o22, hK, hb21⟩
    obtain ⟨M, hM⟩ : ∃ M, A.2.2.1.length = M := ⟨_, rfl⟩
    obtain ⟨Z, hZ⟩ : ∃ Z, A.2.1 = Z := ⟨_, rfl⟩
    obtain ⟨E, hE⟩ : ∃ E, A.1 = E := ⟨_, rfl⟩
    rw [hM, hZ, hE]
    rw [hM] at o21
    have B21 : Aside (Below w.heap.size w w21 ∧ w21.ownsRow w20.heap.size 23 1 (.slice a21 M c21) M (UCELLS A.2.2.1) ∧ w21.ownsRow w20.heap.size 57 32 (.slice a22 K c22) K (CELLS A.2.2.2) ∧ A.2.2.2.length = 32 * K ∧ A.2.2.1.length = M ∧ A.2.1 = Z ∧ A.1 = E) := ⟨B20.out.1.trans (hb21.mono B20.out.1.size), o21, o22, hK, hM, hZ, hE⟩
    clear cd o21 o22 hK hb21 hM hZ hE
    by_cases hE0 : E = 0
    · subst hE0
      go_upto_region 11 with fail
      obtain ⟨w22, e22⟩ : ∃ w22, w21.alloc (.cells #[.int .u64 (Z : Int), .slice a21 M c21, .slice a22 K c22] 32) = w22 := ⟨_, rfl⟩
      rw [e22]
      have hb22 : Below w21.heap.size w21 w22 := by rw [← e22]; exact (Below.refl _ _).alloc (Nat.le_refl _) _
      have hs22 : Has w22 w21.heap.size #[.int .u64 (Z : Int), .slice a21 M c21, .slice a22 K c22] 32 := by rw [← e22]; exact Has.new w21 _ _
      have x22 : w22.cell? ⟨w21.heap.size, 0, none⟩ = some (.int .u64 (Z : Int)) := hs22.cell 0
      have y22 : w22.cell? ⟨w21.heap.size, 1, none⟩ = some (.slice a21 M c21) := hs22.cell 1
      have z22 : w22.cell? ⟨w21.heap.size, 2, none⟩ = some (.slice a22 K c22) := hs22.cell 2
      have NL := own_numlist (own_below B21.out.2.1 hb22) B21.out.2.2.2.2.1
      have ce := manyencode_ok A.2.2.1 Z a21 M c21 a22 K c22 A.2.2.2 w22 B21.out.2.2.2.2.1 (by have := B21.out.2.2.2.2.1; have := DD.out.2.1; omega) NL.2.1 NL.2.2.1 (fun x e => (NL.2.2.2 x e).2) (by have := B21.out.2.2.2.1; have := DD.out.2.2.1; omega) NL.1 (own_flat (own_below B21.out.2.2.1 hb22) DD.out.1) (tab.out w22 (B21.out.1.trans (hb22.mono B21.out.1.size))).1 (tab.out w22 (B21.out.1.trans (hb22.mono B21.out.1.size))).2
      have eM : MENC A.2.2.1 Z K A.2.2.2 = (0, l2) := by
        have := DD.out.2.2.2 B21.out.2.2.2.2.2.2 K B21.out.2.2.2.1
        rw [B21.out.2.2.2.2.2.1] at this
        exact this
      rw [eM] at ce
      unfold ANSY at ce
      have hMB : (MBOX Z a21 M c21 a22 K c22) = #[.int .u64 (Z : Int), .slice a21 M c21, .slice a22 K c22] := rfl
      rw [hMB] at ce
      have hlk : l2.length = k := HB.out.1.1
      dsimp only at ce
      rw [hlk] at ce
      have B22 : Aside (Below w.heap.size w w22) := B21.out.1.trans (hb22.mono B21.out.1.size)
      clear hb22 hs22 NL e22 eM hMB B21 DD
      go_wp2_with fail
      refine ce.mono ?_
      rintro e w23 ⟨a23, c23, rfl, o23, hb23⟩
      have B23 : Aside (Below w.heap.size w w23 ∧ Bytes w23 a23 k l2) := ⟨B22.out.trans (hb23.mono B22.out.size), (own_bytes_any o23 HB.out.1.2.2).1⟩
      have cs := samebytes_ok y a23 k k cy c23 l2 l2 w23 (HB.out.1.below B23.out.1) B23.out.2 (by have := HB.out.2.1; omega)
      rw [decide_eq_true rfl] at cs
      clear ce o23 hb23 B22 x22 y22 z22
      go_wp2_with fail
      refine cs.mono ?_
      rintro e w24 ⟨rfl, hb24⟩
      have B24 : Aside (Below w.heap.size w w24) := B23.out.1.trans (hb24.mono B23.out.1.size)
      clear cs hb24 B23
      have ca := awake10_ok w24 (tab.out w24 B24.out).1 (tab.out w24 B24.out).2
      go_wp2_with fail
      refine ca.mono ?_
      rintro e w25 ⟨rfl, hb25⟩
      have B25 : Aside (Below w.heap.size w w25) := B24.out.trans (hb25.mono B24.out.size)
      clear ca hb25 B24
      go_wp2_with fail
      go_ret
      exact ⟨rfl, B25.out⟩
    · have hE1 : (E != 0) = true := by simpa using hE0
      have hE2 : (E == 0) = false := by simpa using hE0
      go_upto_region 10 with fail
      obtain ⟨w22, e22⟩ : ∃ w22, w21.alloc (.cells #[.int .u64 (Z : Int), .slice a21 M c21, .slice a22 K c22] 32) = w22 := ⟨_, rfl⟩
      rw [e22]
      have B22 : Aside (Below w.heap.size w w22) := by show Below _ _ _; rw [← e22]; exact B21.out.1.alloc B21.out.1.size _
      have ca := awake10_ok w22 (tab.out w22 B22.out).1 (tab.out w22 B22.out).2
      clear e22 B21 DD
      go_wp2_with fail
      refine ca.mono ?_
      rintro e w25 ⟨rfl, hb25⟩
      have B25 : Aside (Below w.heap.size w w25) := B22.out.trans (hb25.mono B22.out.size)
      clear ca hb25 B22
      go_wp2_with fail
      go_ret
      exact ⟨rfl, B25.out⟩
  · have eM : MENC L N m l = (MWA L N m, []) := if_neg hW
    rw [eM] at ce
    unfold ANSY at ce
    dsimp only at ce
    have hE1 : (MWA L N m == 0) = false := by simpa using hW
    generalize MWA L N m = E1 at *
    clear eM
    go_wp2_with fail
    refine ce.mono ?_
    rintro e WT ⟨a3, c3, rfl, o3, hb3⟩
    have WB : Aside (Below w.heap.size w WT) := B2.out.1.trans (hb3.mono B2.out.1.size)
    clear ce o3 hb3 B2
    have ct := text10_ok y k cy (by have := HB.out.2.1; omega) HB.out.2.2 l2 WT (HB.out.1.below WB.out)
    go_wp2_with fail
    refine ct.mono ?_
    rintro e w20 ⟨g20, q20, rfl, o20, r20, _, lt20, hb20⟩
    have B20 : Aside (Below w.heap.size w w20 ∧ Bytes w20 (some ⟨g20, 0, none⟩) k l2 ∧ k ≤ q20) := ⟨WB.out.trans (hb20.mono WB.out.size), own_bytes o20 lt20 HB.out.1.2.2, by omega⟩
    clear ct o20 r20 lt20 hb20 WB
    have cd := manydecode_ok (some ⟨g20, 0, none⟩) k q20 l2 w20 B20.out.2.1 B20.out.2.2 (by have := HB.out.2.1; omega) (tab.out w20 B20.out.1).1 (tab.out w20 B20.out.1).2
    obtain ⟨A, hA⟩ : ∃ A, MDC l2 = A := ⟨_, rfl⟩
    obtain ⟨d1, d2, d3⟩ := MDC_sub HB.out.1.2.2
    rw [hA] at cd d1 d2 d3
    have DD : Aside ((∀ x ∈ A.2.2.2, 0 ≤ x ∧ x ≤ 255) ∧ A.2.2.1.length ≤ 6400 ∧ A.2.2.2.length ≤ 6400 ∧ (A.1 = 0 → ∀ K, A.2.2.2.length = 32 * K → MENC A.2.2.1 A.2.1 K A.2.2.2 = (0, l2))) := ⟨d1, by have := HB.out.1.1; have := HB.out.2.1; omega, by have := HB.out.1.1; have := HB.out.2.1; omega, fun h0 K hK => MDC_back HB.out.1.2.2 (by rw [hA]; exact Prod.ext h0 rfl) hK⟩
    clear hA d1 d2 d3
    go_wp2_with fail
    refine cd.mono ?_
    rintro e w21 ⟨a21, c21, a22, K, c22, rfl, o21, o22, hK, hb21⟩
    obtain ⟨M, hM⟩ : ∃ M, A.2.2.1.length = M := ⟨_, rfl⟩
    obtain ⟨Z, hZ⟩ : ∃ Z, A.2.1 = Z := ⟨_, rfl⟩
    obtain ⟨E, hE⟩ : ∃ E, A.1 = E := ⟨_, rfl⟩
    rw [hM, hZ, hE]
    rw [hM] at o21
    have B21 : Aside (Below w.heap.size w w21 ∧ w21.ownsRow w20.heap.size 23 1 (.slice a21 M c21) M (UCELLS A.2.2.1) ∧ w21.ownsRow w20.heap.size 57 32 (.slice a22 K c22) K (CELLS A.2.2.2) ∧ A.2.2.2.length = 32 * K ∧ A.2.2.1.length = M ∧ A.2.1 = Z ∧ A.1 = E) := ⟨B20.out.1.trans (hb21.mono B20.out.1.size), o21, o22, hK, hM, hZ, hE⟩
    clear cd o21 o22 hK hb21 hM hZ hE
    by_cases hE0 : E = 0
    · subst hE0
      go_upto_region 11 with fail
      obtain ⟨w22, e22⟩ : ∃ w22, w21.alloc (.cells #[.int .u64 (Z : Int), .slice a21 M c21, .slice a22 K c22] 32) = w22 := ⟨_, rfl⟩
      rw [e22]
      have hb22 : Below w21.heap.size w21 w22 := by rw [← e22]; exact (Below.refl _ _).alloc (Nat.le_refl _) _
      have hs22 : Has w22 w21.heap.size #[.int .u64 (Z : Int), .slice a21 M c21, .slice a22 K c22] 32 := by rw [← e22]; exact Has.new w21 _ _
      have x22 : w22.cell? ⟨w21.heap.size, 0, none⟩ = some (.int .u64 (Z : Int)) := hs22.cell 0
      have y22 : w22.cell? ⟨w21.heap.size, 1, none⟩ = some (.slice a21 M c21) := hs22.cell 1
      have z22 : w22.cell? ⟨w21.heap.size, 2, none⟩ = some (.slice a22 K c22) := hs22.cell 2
      have NL := own_numlist (own_below B21.out.2.1 hb22) B21.out.2.2.2.2.1
      have ce := manyencode_ok A.2.2.1 Z a21 M c21 a22 K c22 A.2.2.2 w22 B21.out.2.2.2.2.1 (by have := B21.out.2.2.2.2.1; have := DD.out.2.1; omega) NL.2.1 NL.2.2.1 (fun x e => (NL.2.2.2 x e).2) (by have := B21.out.2.2.2.1; have := DD.out.2.2.1; omega) NL.1 (own_flat (own_below B21.out.2.2.1 hb22) DD.out.1) (tab.out w22 (B21.out.1.trans (hb22.mono B21.out.1.size))).1 (tab.out w22 (B21.out.1.trans (hb22.mono B21.out.1.size))).2
      have eM : MENC A.2.2.1 Z K A.2.2.2 = (0, l2) := by
        have := DD.out.2.2.2 B21.out.2.2.2.2.2.2 K B21.out.2.2.2.1
        rw [B21.out.2.2.2.2.2.1] at this
        exact this
      rw [eM] at ce
      unfold ANSY at ce
      have hMB : (MBOX Z a21 M c21 a22 K c22) = #[.int .u64 (Z : Int), .slice a21 M c21, .slice a22 K c22] := rfl
      rw [hMB] at ce
      have hlk : l2.length = k := HB.out.1.1
      dsimp only at ce
      rw [hlk] at ce
      have B22 : Aside (Below w.heap.size w w22) := B21.out.1.trans (hb22.mono B21.out.1.size)
      clear hb22 hs22 NL e22 eM hMB B21 DD
      go_wp2_with fail
      refine ce.mono ?_
      rintro e w23 ⟨a23, c23, rfl, o23, hb23⟩
      have B23 : Aside (Below w.heap.size w w23 ∧ Bytes w23 a23 k l2) := ⟨B22.out.trans (hb23.mono B22.out.size), (own_bytes_any o23 HB.out.1.2.2).1⟩
      have cs := samebytes_ok y a23 k k cy c23 l2 l2 w23 (HB.out.1.below B23.out.1) B23.out.2 (by have := HB.out.2.1; omega)
      rw [decide_eq_true rfl] at cs
      clear ce o23 hb23 B22 x22 y22 z22
      go_wp2_with fail
      refine cs.mono ?_
      rintro e w24 ⟨rfl, hb24⟩
      have B24 : Aside (Below w.heap.size w w24) := B23.out.1.trans (hb24.mono B23.out.1.size)
      clear cs hb24 B23
      have ca := awake10_ok w24 (tab.out w24 B24.out).1 (tab.out w24 B24.out).2
      go_wp2_with fail
      refine ca.mono ?_
      rintro e w25 ⟨rfl, hb25⟩
      have B25 : Aside (Below w.heap.size w w25) := B24.out.trans (hb25.mono B24.out.size)
      clear ca hb25 B24
      go_wp2_with fail
      go_ret
      exact ⟨rfl, B25.out⟩
    · have hE1 : (E != 0) = true := by simpa using hE0
      have hE2 : (E == 0) = false := by simpa using hE0
      go_upto_region 10 with fail
      obtain ⟨w22, e22⟩ : ∃ w22, w21.alloc (.cells #[.int .u64 (Z : Int), .slice a21 M c21, .slice a22 K c22] 32) = w22 := ⟨_, rfl⟩
      rw [e22]
      have B22 : Aside (Below w.heap.size w w22) := by show Below _ _ _; rw [← e22]; exact B21.out.1.alloc B21.out.1.size _
      have ca := awake10_ok w22 (tab.out w22 B22.out).1 (tab.out w22 B22.out).2
      clear e22 B21 DD
      go_wp2_with fail
      refine ca.mono ?_
      rintro e w25 ⟨rfl, hb25⟩
      have B25 : Aside (Below w.heap.size w w25) := B22.out.trans (hb25.mono B22.out.size)
      clear ca hb25 B22
      go_wp2_with fail
      go_ret
      exact ⟨rfl, B25.out⟩
theorem manyRound_walk (N : Nat) (a : Option Addr) (n ca : Nat) (L : List Nat) (x : Option Addr) (m cx : Nat) (l : List Int) (y : Option Addr) (k cy : Nat) (l2 : List Int) (w : World) (hN : N < 2 ^ 64) (hl : L.length = n) (hc : a = none → ca = 0) (hL : NUML w a L) (hx : ∀ x ∈ L, x < 2 ^ 64) (hcx : x = none → cx = 0) (hF : Flat w x m l) (hB : Bytes w y k l2) (hcy : y = none → cy = 0) (hT : Tabled w) (h0 : 0 < w.heap.size) :
    Calls Tryd.prog 5 #[.agg #[.int .u64 (N : Int), .slice a n ca, .slice x m cx], .slice y k cy] w fun e w' => e = .returned (.bool true) ∧ Below w.heap.size w w' := by
  by_cases h : n ≤ 200 ∧ m ≤ 200 ∧ k ≤ 6400
  · exact round_core N a n ca L x m cx l y k cy l2 w hN hl h.1 hc hL hx h.2.1 hcx hF hB h.2.2 hcy hT h0
  · exact round_long N a n ca x m cx y k cy w (by omega)
end Go.Proofs.YtmpaifkjlhodpaaDoor
