/- Texts of ManyBytes, one behind the other: ManyNumbers, ManyGiven, ProofMarked, ManySetsPlain, ManyRefPlain. -/
import Derived.Laws.AppendOwnNone
import Derived.Test.YtmpaifkjlhodpaaDoorManyBytesP5
import Derived.Test.YtmpaifkjlhodpaaDoorManyBytesP10
import Derived.Test.YtmpaifkjlhodpaaDoorManyBytesP11
import Derived.Test.YtmpaifkjlhodpaaDoorManyBytesP17
import Derived.Test.YtmpaifkjlhodpaaDoorManyBytesP19
import Derived.Test.YtmpaifkjlhodpaaDoorManyBytesP20
import Derived.Test.YtmpaifkjlhodpaaDoorManyBytesP21
/- massiflaw10.numbers: the same numbers in a list of their own that goes on behind them. -/
namespace Go.Proofs.YtmpaifkjlhodpaaDoor
open Go.RowKit
set_option maxRecDepth 100000

/-- numbers are appended. -/
theorem app_nums {ops : Array Oper} {rest : List Oper} {o : Oper} {a : Act} {Q : Exit → Act → World → Prop} (w : World) (hgd : o.guard = none) (s x : Operand)
    (ho : o.op = .call { callee := .builtin .append, args := #[s, x], argTypes := #[22, 22] })
    (base : Nat) (v : Value) (n : Nat) (xs : List Value) (hs : a.eval s = v) (hown : w.ownsRow base 23 1 v n xs)
    (ad : Option Addr) (m c : Nat) (L : List Nat) (hx : a.eval x = .slice ad m c) (hL : NUML w ad L) (hl : L.length = m) (hc : ad = none → c = 0)
    (hb : n + m ≤ 2 ^ 30) (hbase : base ≤ w.heap.size)
    (hh : ∀ a' c' w', w'.ownsRow base 23 1 (.slice a' (n + m) c') (n + m) (xs ++ UCELLS L) → w.grownBy w' v.ownBlock → wpList Tryd.prog ops Q rest (a.put o.dst (.slice a' (n + m) c')) w') : wpList Tryd.prog ops Q (o :: rest) a w := by
  obtain ⟨i, hi, hz, hs1, hby⟩ := info_parts info_u64
  cases ad with
  | none =>
    obtain rfl := hc rfl
    have hL0 : L = [] := by
      cases L with
      | nil => rfl
      | cons y l =>
        obtain ⟨b, o', e, _⟩ := hL (by simp)
        cases e
    subst hL0
    obtain rfl : m = 0 := by simpa using hl.symm
    refine wpList_append_own_none hgd s x 22 ho base 23 i 1 Tryd.underlying22 hi v n xs hs hown hx ?_
    obtain ⟨a', c', rfl⟩ := own_sliced hown
    have := hh a' c' w (by simpa [UCELLS] using hown) ⟨rfl, rfl, rfl, Nat.le_refl _, fun _ _ _ => rfl⟩
    simpa using this
  | some ad =>
    have hcells : ∀ j u, (UCELLS L)[j]? = some u → w.cell? (ad.add j) = some u := by
      intro j u hu
      have hj : j < L.length := by have := (List.getElem?_eq_some_iff.1 hu).1; rwa [UCELLS_length] at this
      obtain ⟨g, o', e, _, hr⟩ := hL (by omega)
      cases e
      rw [Addr.add_mid, hr j _ (List.getElem?_eq_getElem hj)]
      rw [UCELLS, List.getElem?_map, List.getElem?_eq_getElem hj] at hu
      exact hu
    refine wpList_append_own w hgd s x 22 ho base 23 i (.int .u64 0) 1 8 Tryd.underlying22 hi hz hs1 hby rfl (by decide) v n xs hs hown ad m c (UCELLS L) hx (by rw [UCELLS_length]; omega) hcells (fun u hu => by
      obtain ⟨y, _, rfl⟩ := List.mem_map.1 hu
      rfl) (by simp only [maxLen]; omega) (by omega) hbase ?_
    intro v' w' h1 h2 _
    obtain ⟨a', c', rfl⟩ := own_sliced h1
    exact hh a' c' w' h1 h2
theorem own_nothing (w : World) : (w.alloc (.cells #[] 23)).ownsRow w.heap.size 23 1 (.slice (some ⟨w.heap.size, 0, none⟩) 0 0) 0 [] :=
  World.ownsRow_lit w #[] 0 (Nat.le_refl _) (by simp [maxLen]) rfl
theorem own_frontn {w : World} {base g n cap : Nat} {L : List Nat} {x : Nat} (hl : L.length = n) (h : w.ownsRow base 23 1 (.slice (some ⟨g, 0, none⟩) (n + 1) cap) (n + 1) (UCELLS (L ++ [x]))) : w.ownsRow base 23 1 (.slice (some ⟨g, 0, none⟩) n cap) n (UCELLS L) ∧ n + 1 ≤ cap ∧ w.cell? ⟨g, n, none⟩ = some (.int .u64 (x : Int)) ∧ g < w.heap.size := by
  have hr : w.cell? ⟨g, n, none⟩ = some (.int .u64 (x : Int)) := by
    rw [h.cellAt n (by omega), UCELLS_snoc, List.getElem?_append_right (by rw [UCELLS_length]; omega), UCELLS_length, hl, Nat.sub_self]
    rfl
  rcases h.2 with ⟨e, _⟩ | ⟨g', cap', cur, e, hb, hg, h1, h2, h3, h4⟩
  · cases e
  · cases e
    refine ⟨⟨by rw [UCELLS_length, hl, Nat.mul_one], .inr ⟨g, cap, cur, rfl, hb, hg, by omega, h2, h3, ?_⟩⟩, h1, hr, (Array.getElem?_eq_some_iff.1 hg).1⟩
    have h5 := congrArg (List.take (n * 1)) h4
    rw [List.take_take, show min (n * 1) ((n + 1) * 1) = n * 1 by omega] at h5
    rw [h5, UCELLS_snoc, List.take_left' (by rw [UCELLS_length, hl, Nat.mul_one])]
/-- what numbers answers. -/
structure NUMD (w w' : World) (g n cap : Nat) (L : List Nat) : Prop where
  own : w'.ownsRow w.heap.size 23 1 (.slice (some ⟨g, 0, none⟩) n cap) n (UCELLS L)
  room : n + 1 ≤ cap
  mark : w'.cell? ⟨g, n, none⟩ = some (.int .u64 171)
  lt : g < w'.heap.size
  base : w.heap.size ≤ g
  below : Below w.heap.size w w'
theorem NUMD.lies {w w' : World} {g n cap : Nat} {L : List Nat} (h : NUMD w w' g n cap L) (hl : L.length = n) : NUML w' (some ⟨g, 0, none⟩) L := fun _ => ⟨g, 0, rfl, h.lt, fun i x hx => by
  have hi : i < L.length := (List.getElem?_eq_some_iff.1 hx).1
  rw [Nat.zero_add, h.own.cellAt i (by omega), UCELLS, List.getElem?_map, hx]
  rfl⟩
set_option maxHeartbeats 1000000 in
theorem numbers10_ok (a : Option Addr) (n c : Nat) (L : List Nat) (hl : L.length = n) (hn : n < 2 ^ 20) (hc : a = none → c = 0) (w : World) (hL : NUML w a L) : Calls Tryd.prog 6 #[.slice a n c] w fun e w' => ∃ g cap, e = .returned (.slice (some ⟨g, 0, none⟩) n cap) ∧ NUMD w w' g n cap L := by
  have HA : Aside (L.length = n ∧ n < 2 ^ 20 ∧ (a = none → c = 0) ∧ NUML w a L) := ⟨hl, hn, hc, hL⟩
  clear hl hn hc hL
  go_enter Tryd.func6, Tryd.ntmps6
  go_wp2_with (first
    | (at_builtin; refine app_nums _ rfl (.tmp 3) (.tmp 4) rfl w.heap.size (.slice (some ⟨w.heap.size, 0, none⟩) 0 0) 0 [] rfl (own_nothing w) a n c L rfl (fun hp => by
         obtain ⟨b, o, e, hlt, hcc⟩ := HA.out.2.2.2 hp
         exact ⟨b, o, e, by simp; omega, fun i x hx => (((Below.refl w.heap.size w).alloc (Nat.le_refl _) _).cell (p := ⟨b, o + i, none⟩) hlt).trans (hcc i x hx)⟩) HA.out.1 HA.out.2.2.1 (by have := HA.out.2.1; omega) (by simp) ?_; rw [Nat.zero_add, List.nil_append]; intro a1 c1 w1 hown1 hgrow1
       have R1 : Aside (w1.ownsRow w.heap.size 23 1 (.slice a1 n c1) n (UCELLS L) ∧ Below w.heap.size w w1) := ⟨hown1, ((Below.refl _ w).alloc (Nat.le_refl _) _).grown hgrow1 (by simp) (fun k e => by cases e; exact Nat.le_refl _)⟩
       clear hown1 hgrow1)
    | (at_builtin; refine app_num _ rfl (.tmp 5) (.tmp 6) rfl w.heap.size (.slice a1 n c1) n L rfl (R1.out.1.alloc _) w1.heap.size 1 171 rfl ((Has.new _ _ _).cell 0) (by have := HA.out.2.1; omega) (by have := R1.out.2.size; simp; omega) ?_; intro g2 c2 w2 hown2 hgrow2 hg2
       obtain ⟨f1, f2, f3, f4⟩ := own_frontn HA.out.1 hown2
       have hcap : (n : Int) ≤ (c2 : Int) := by omega
       have R2 : Aside (NUMD w w2 g2 n c2 L) := ⟨f1, f2, f3, f4, (f1.lt g2 rfl).1, (R1.out.2.alloc R1.out.2.size _).grown hgrow2 (by have := R1.out.2.size; simp; omega) (fun k e => (R1.out.1.lt k e).1)⟩
       clear hown2 hgrow2 hg2 f1 f2 f3 f4))
  go_ret
  exact ⟨_, _, rfl, R2.out⟩
end Go.Proofs.YtmpaifkjlhodpaaDoor

/- given of the law: the same proof, in lists of its own that go on behind them. -/
namespace Go.Proofs.YtmpaifkjlhodpaaDoor
open Go.RowKit
set_option maxRecDepth 100000

/-- what given answers. -/
structure GIVM (w w' : World) (g1 n q1 : Nat) (L : List Nat) (g2 m q2 : Nat) (l : List Int) : Prop where
  own1 : w'.ownsRow w.heap.size 23 1 (.slice (some ⟨g1, 0, none⟩) n q1) n (UCELLS L)
  room1 : n + 1 ≤ q1
  mark1 : w'.cell? ⟨g1, n, none⟩ = some (.int .u64 171)
  own2 : w'.ownsRow w.heap.size 57 32 (.slice (some ⟨g2, 0, none⟩) m q2) m (CELLS l)
  room2 : m + 1 ≤ q2
  mark2 : w'.rangeAt g2 (m * 32) (CELLS MRK)
  lt1 : g1 < w'.heap.size
  lt2 : g2 < w'.heap.size
  below : Below w.heap.size w w'
set_option maxHeartbeats 2000000 in
theorem given10_ok (N : Int) (a : Option Addr) (n ca : Nat) (L : List Nat) (x : Option Addr) (m cx : Nat) (l : List Int) (hl : L.length = n) (hn : n ≤ 200) (hc : a = none → ca = 0) (hm : m ≤ 200) (hcx : x = none → cx = 0) (w : World) (hL : NUML w a L) (hF : Flat w x m l) :
    Calls Tryd.prog 13 #[.agg #[.int .u64 N, .slice a n ca, .slice x m cx]] w fun e w' => ∃ g1 q1 g2 q2, e = .returned (.agg #[.int .u64 N, .slice (some ⟨g1, 0, none⟩) n q1, .slice (some ⟨g2, 0, none⟩) m q2]) ∧ GIVM w w' g1 n q1 L g2 m q2 l := by
  obtain ⟨w1, e1⟩ : ∃ w1, w.alloc (.cells #[.int .u64 N, .slice a n ca, .slice x m cx] 32) = w1 := ⟨_, rfl⟩
  obtain ⟨w2, e2⟩ : ∃ w2, w1.alloc (.cells ZMANY 32) = w2 := ⟨_, rfl⟩
  have s1 : w1.heap.size = w.heap.size + 1 := by rw [← e1]; simp
  have s2 : w2.heap.size = w.heap.size + 2 := by rw [← e2]; simp; omega
  have hb2 : Below w.heap.size w w2 := by rw [← e2, ← e1]; exact ((Below.refl _ _).alloc (Nat.le_refl _) _).alloc (by simp) _
  have h1 : Has w2 w.heap.size #[.int .u64 N, .slice a n ca, .slice x m cx] 32 := by rw [← e2, ← e1]; exact (Has.new w _ _).alloc _
  have h2 : Has w2 w1.heap.size ZMANY 32 := by rw [← e2]; exact Has.new w1 _ _
  have L2 : NUML w2.drew a L := fun h0 => by
    obtain ⟨b, o, e, hlt, hcc⟩ := hL h0
    exact ⟨b, o, e, Nat.lt_of_lt_of_le hlt hb2.size, fun i y hy => (hb2.cell (p := ⟨b, o + i, none⟩) hlt).trans (hcc i y hy)⟩
  have F2 : Flat w2.drew x m l := hF.below (hb2.drew)
  have i3 : (Tryd.prog.info? 32).map (·.size) = some 3 := by kernel_rfl
  have info3 : ∀ {u v y : Value} (_ : Value), (Tryd.prog.info? 32).map (·.size) = some (#[u, v, y] : Array Value).size := fun _ => i3
  have size3 : ∀ {u v y : Value} (_ : Value), ZMANY.size = (#[u, v, y] : Array Value).size := fun _ => rfl
  have cN := numbers10_ok a n ca L hl (by omega) hc w2.drew L2
  have cR : ∀ W, Below w2.drew.heap.size w2.drew W → Calls Tryd.prog 31 #[.slice x m cx] W (ROWED W m l) := fun W hb => row10_ok x m cx (by omega) hcx l W (F2.below hb)
  have HH : Aside (Has w2 w.heap.size #[.int .u64 N, .slice a n ca, .slice x m cx] 32 ∧ Has w2 w1.heap.size ZMANY 32 ∧ Below w.heap.size w w2 ∧ w1.heap.size = w.heap.size + 1 ∧ w2.heap.size = w.heap.size + 2 ∧ L.length = n) := ⟨h1, h2, hb2, s1, s2, hl⟩
  have SS : ∀ W, Below w2.heap.size w2.drew W → (fun w' : World => w'.cell? ⟨w.heap.size, 0, none⟩ = some (.int .u64 N) ∧ w'.cell? ⟨w.heap.size, 1, none⟩ = some (.slice a n ca) ∧ w'.cell? ⟨w.heap.size, 2, none⟩ = some (.slice x m cx)) W := fun W hb => by
    have k : Has W w.heap.size #[.int .u64 N, .slice a n ca, .slice x m cx] 32 := (hb.block w.heap.size h1.lt).trans h1
    exact ⟨k.cell 0, k.cell 1, k.cell 2⟩
  have G2 : ∀ g q g' q' W, (∃ w3, NUMD w2.drew w3 g n q L ∧ (W.ownsRow w3.heap.size 57 32 (.slice (some ⟨g', 0, none⟩) m q') m (CELLS l) ∧ m + 1 ≤ q' ∧ W.rangeAt g' (m * 32) (CELLS MRK) ∧ g' < W.heap.size ∧ Below w3.heap.size w3 W)) → Below w2.heap.size w2.drew W := fun g q g' q' W ⟨w3, h3, h4⟩ => h3.below.trans (h4.2.2.2.2.mono h3.below.size)
  have SA : Aside (∀ W, Below w2.heap.size w2.drew W → (fun w' : World => w'.cell? ⟨w.heap.size, 0, none⟩ = some (.int .u64 N) ∧ w'.cell? ⟨w.heap.size, 1, none⟩ = some (.slice a n ca) ∧ w'.cell? ⟨w.heap.size, 2, none⟩ = some (.slice x m cx)) W) := SS
  have GA : Aside (∀ g q g' q' W, (∃ w3, NUMD w2.drew w3 g n q L ∧ (W.ownsRow w3.heap.size 57 32 (.slice (some ⟨g', 0, none⟩) m q') m (CELLS l) ∧ m + 1 ≤ q' ∧ W.rangeAt g' (m * 32) (CELLS MRK) ∧ g' < W.heap.size ∧ Below w3.heap.size w3 W)) → Below w2.heap.size w2.drew W) := G2
  have CN : Aside (Calls Tryd.prog 6 #[.slice a n ca] w2.drew fun e w' => ∃ g cap, e = .returned (.slice (some ⟨g, 0, none⟩) n cap) ∧ NUMD w2.drew w' g n cap L) := cN
  have CR : Aside (∀ W, Below w2.drew.heap.size w2.drew W → Calls Tryd.prog 31 #[.slice x m cx] W (ROWED W m l)) := cR
  have I3 : Aside ((∀ {u v y : Value} (_ : Value), (Tryd.prog.info? 32).map (·.size) = some (#[u, v, y] : Array Value).size) ∧ ∀ {u v y : Value} (_ : Value), ZMANY.size = (#[u, v, y] : Array Value).size) := ⟨info3, size3⟩
  clear hl hn hc hm hcx hL hF s1 s2 hb2 h1 h2 L2 F2 i3 info3 size3 cN cR SS G2
  go_enter Tryd.func13, Tryd.ntmps13
  go_upto_region 1 with fail
  clear e1 e2
  refine given1 w2 w.heap.size w1.heap.size N a n ca x m cx ZMANY (by have := HH.out; omega) (fun W => W = w2.drew) (fun g q W => NUMD w2.drew W g n q L) (fun g q g' q' W => ∃ w3, NUMD w2.drew w3 g n q L ∧ (W.ownsRow w3.heap.size 57 32 (.slice (some ⟨g', 0, none⟩) m q') m (CELLS l) ∧ m + 1 ≤ q' ∧ W.rangeAt g' (m * 32) (CELLS MRK) ∧ g' < W.heap.size ∧ Below w3.heap.size w3 W)) rfl
    (fun W hW => SA.out W (by subst hW; exact Below.refl _ _)) (fun g q W h => SA.out W h.below) (fun g q g' q' W h => SA.out W (GA.out g q g' q' W h)) (fun g q g' q' W h => ((GA.out g q g' q' W h).block w1.heap.size HH.out.2.1.lt).trans HH.out.2.1) I3.out.1 I3.out.2 (fun W hW => by subst hW; exact CN.out) (fun g q W h => ?_) (fun _ _ _ _ _ h => h) ?_
  · refine (CR.out W h.below).mono ?_
    rintro e w' ⟨g2, q2, he, hr⟩
    exact ⟨g2, q2, he, W, h, hr⟩
  · rintro g1 q1 g2 q2 W ⟨wx, ⟨w3, h3, h4⟩, rfl⟩
    have FN : Aside (GIVM w (wx.setRow w1.heap.size #[.int .u64 N, .slice (some ⟨g1, 0, none⟩) n q1, .slice (some ⟨g2, 0, none⟩) m q2]) g1 n q1 L g2 m q2 l) := by
      have hh := HH.out
      have b3 : w2.heap.size ≤ g1 := h3.base
      have b4 : w3.heap.size ≤ g2 := (h4.1.lt g2 rfl).1
      have sz3 : w2.heap.size ≤ w3.heap.size := h3.below.size
      have bx : Below w2.heap.size w2 wx := ⟨(h3.below.trans (h4.2.2.2.2.mono h3.below.size)).os, (h3.below.trans (h4.2.2.2.2.mono h3.below.size)).tape, (h3.below.trans (h4.2.2.2.2.mono h3.below.size)).output, (h3.below.trans (h4.2.2.2.2.mono h3.below.size)).size, (h3.below.trans (h4.2.2.2.2.mono h3.below.size)).block⟩
      have c1 : ∀ o : Nat, (wx.setRow w1.heap.size #[.int .u64 N, .slice (some ⟨g1, 0, none⟩) n q1, .slice (some ⟨g2, 0, none⟩) m q2]).cell? ⟨g1, o, none⟩ = wx.cell? ⟨g1, o, none⟩ := fun o => World.cell?_of_block (by exact setRow_other _ _ _ _ (show g1 ≠ w1.heap.size by omega))
      have c2 : ∀ o : Nat, (wx.setRow w1.heap.size #[.int .u64 N, .slice (some ⟨g1, 0, none⟩) n q1, .slice (some ⟨g2, 0, none⟩) m q2]).cell? ⟨g2, o, none⟩ = wx.cell? ⟨g2, o, none⟩ := fun o => World.cell?_of_block (by exact setRow_other _ _ _ _ (show g2 ≠ w1.heap.size by omega))
      refine ⟨?_, h3.room, ?_, ?_, h4.2.1, ?_, ?_, ?_, below_row (hh.2.2.1.trans (bx.mono (by omega))) (by omega) _⟩
      · exact own_mono (own_hold9 (own_below h3.own h4.2.2.2.2) fun k e => setRow_other _ _ _ _ (by have e : g1 = k := (by simpa [Value.ownBlock] using e); omega)) (by show w.heap.size ≤ w2.heap.size; omega)
      · exact (c1 n).trans ((h4.2.2.2.2.cell (p := ⟨g1, n, none⟩) h3.lt).trans h3.mark)
      · exact own_mono (own_hold9 h4.1 fun k e => setRow_other _ _ _ _ (by have e : g2 = k := (by simpa [Value.ownBlock] using e); omega)) (by omega)
      · exact fun j v hv => (c2 _).trans (h4.2.2.1 j v hv)
      · have := h3.lt
        have := h4.2.2.2.2.size
        simp [World.setRow]
        omega
      · simp [World.setRow]
        exact h4.2.2.2.1
    have hres : Has (wx.setRow w1.heap.size #[.int .u64 N, .slice (some ⟨g1, 0, none⟩) n q1, .slice (some ⟨g2, 0, none⟩) m q2]) w1.heap.size #[.int .u64 N, .slice (some ⟨g1, 0, none⟩) n q1, .slice (some ⟨g2, 0, none⟩) m q2] 32 := by
      have hz : Has wx w1.heap.size ZMANY 32 := ((GA.out g1 q1 g2 q2 wx ⟨w3, h3, h4⟩).block w1.heap.size HH.out.2.1.lt).trans HH.out.2.1
      exact hz.row _
    have HRS : Aside (Has (wx.setRow w1.heap.size #[.int .u64 N, .slice (some ⟨g1, 0, none⟩) n q1, .slice (some ⟨g2, 0, none⟩) m q2]) w1.heap.size #[.int .u64 N, .slice (some ⟨g1, 0, none⟩) n q1, .slice (some ⟨g2, 0, none⟩) m q2] 32) := hres
    generalize wx.setRow w1.heap.size #[.int .u64 N, .slice (some ⟨g1, 0, none⟩) n q1, .slice (some ⟨g2, 0, none⟩) m q2] = wy at *
    clear h3 h4 hres SA GA CN CR HH
    go_wp2_with fail
    refine bodyPost_ret (v := .agg #[.int .u64 N, .slice (some ⟨g1, 0, none⟩) n q1, .slice (some ⟨g2, 0, none⟩) m q2]) ?_ rfl ⟨g1, q1, g2, q2, rfl, FN.out⟩
    exact results_cell_row rfl _ _ w1.heap.size 32 _ (0, 0) _ rfl HRS.out Tryd.underlying32 rfl (I3.out.1 undef)
end Go.Proofs.YtmpaifkjlhodpaaDoor

/- A list of hashes of one's own that is written over with a mark. -/
namespace Go.Proofs.YtmpaifkjlhodpaaDoor
open Go.RowKit
set_option maxRecDepth 100000

/-- values laid over a list, one behind the other, from o on. -/
def OVERW (xs : List Value) : Nat → List Value → List Value
  | _, [] => xs
  | o, v :: vs => OVERW (xs.set o v) (o + 1) vs
theorem OVERW_eq : ∀ (vs xs : List Value) (o : Nat), o + vs.length ≤ xs.length → OVERW xs o vs = xs.take o ++ vs ++ xs.drop (o + vs.length)
  | [], xs, o, _ => by simp [OVERW]
  | v :: vs, xs, o, h => by
    simp only [List.length_cons] at h
    rw [OVERW, OVERW_eq vs (xs.set o v) (o + 1) (by rw [List.length_set]; omega)]
    rw [List.take_set, List.drop_set, if_pos (by omega)]
    rw [List.take_add_one, List.getElem?_eq_getElem (by omega)]
    simp only [Option.toList_some, List.length_cons]
    rw [List.set_append_right _ _ (by simp; omega)]
    simp only [List.length_take, show min o xs.length = o by omega, Nat.sub_self, List.set_cons_zero]
    simp [Nat.add_comm, Nat.add_left_comm]
theorem own_over {B : Nat} {t : TypeId} {s g n c : Nat} : ∀ (vs xs : List Value) (o : Nat) (w : World), w.ownsRow B t s (.slice (some ⟨g, 0, none⟩) n c) n xs → (w.setCells g o vs).ownsRow B t s (.slice (some ⟨g, 0, none⟩) n c) n (OVERW xs o vs) ∧ w.grownBy (w.setCells g o vs) (some g)
  | [], xs, o, w, h => ⟨h, grown_refl _ _⟩
  | v :: vs, xs, o, w, h => by
    obtain ⟨h1, h2⟩ := h.stored o v
    obtain ⟨h3, h4⟩ := own_over vs _ (o + 1) _ h1
    exact ⟨h3, grown_trans h2 h4 (.inl rfl)⟩
/-- the mark m. -/
def MK (m : Int) : List Int := m :: List.replicate 31 0
theorem MK_length (m : Int) : (MK m).length = 32 := rfl
theorem MK_arr (m : Int) : (CELLS (MK m)).toArray = #[.int .u8 m, .int .u8 0, .int .u8 0, .int .u8 0, .int .u8 0, .int .u8 0, .int .u8 0, .int .u8 0, .int .u8 0, .int .u8 0, .int .u8 0, .int .u8 0, .int .u8 0, .int .u8 0, .int .u8 0, .int .u8 0, .int .u8 0, .int .u8 0, .int .u8 0, .int .u8 0, .int .u8 0, .int .u8 0, .int .u8 0, .int .u8 0, .int .u8 0, .int .u8 0, .int .u8 0, .int .u8 0, .int .u8 0, .int .u8 0, .int .u8 0, .int .u8 0] := rfl
/-- so many marks. -/
def MKS (m : Int) : Nat → List Int
  | 0 => []
  | k + 1 => MKS m k ++ MK m
theorem MKS_length (m : Int) : ∀ k, (MKS m k).length = 32 * k
  | 0 => rfl
  | k + 1 => by rw [MKS, List.length_append, MKS_length m k, MK_length]; omega
theorem MKS_add (m : Int) (a : Nat) : ∀ b, MKS m (a + b) = MKS m a ++ MKS m b
  | 0 => by simp [MKS]
  | b + 1 => by rw [← Nat.add_assoc, MKS, MKS, MKS_add m a b, List.append_assoc]
theorem MKS_at (m : Int) {k i : Nat} (hi : i < k) : HSH (MKS m k) i = MK m := by
  unfold HSH
  rw [show k = i + (1 + (k - i - 1)) by omega, MKS_add, MKS_add, List.drop_left' (by rw [MKS_length]), List.take_left' (by rw [MKS_length])]
  rfl
/-- the first j are marks. -/
def MKP (xs : List Value) (m : Int) (j : Nat) : List Value := CELLS (MKS m j) ++ xs.drop (32 * j)
theorem MKP_zero (xs : List Value) (m : Int) : MKP xs m 0 = xs := by simp [MKP, MKS, CELLS]
theorem MKP_all {xs : List Value} {n : Nat} (h : xs.length = 32 * n) (m : Int) : MKP xs m n = CELLS (MKS m n) := by
  unfold MKP
  rw [List.drop_of_length_le (by omega), List.append_nil]
theorem MKP_length {xs : List Value} {n j : Nat} (h : xs.length = 32 * n) (hj : j ≤ n) (m : Int) : (MKP xs m j).length = 32 * n := by
  unfold MKP
  rw [List.length_append, List.length_drop, CELLS, List.length_map, MKS_length]
  omega
theorem MKP_next {xs : List Value} {n j : Nat} (h : xs.length = 32 * n) (hj : j < n) (m : Int) : OVERW (MKP xs m j) (j * 32) (CELLS (MK m)) = MKP xs m (j + 1) := by
  have hl : (CELLS (MK m)).length = 32 := rfl
  have hk : (CELLS (MKS m j)).length = j * 32 := by rw [CELLS, List.length_map, MKS_length]; omega
  rw [OVERW_eq _ _ _ (by rw [MKP_length h (by omega), hl]; omega), hl]
  unfold MKP
  rw [List.take_left' hk, List.drop_append, List.drop_of_length_le (by omega), List.nil_append, hk, List.drop_drop, MKS, CELLS_append]
  rw [show 32 * j + (j * 32 + 32 - j * 32) = 32 * (j + 1) by omega]
theorem step_pure {o : Oper} {a : Act} {w w' : World} {K : Act → World → Prop} {Q : Exit → Act → World → Prop} {v : Value} (hrun : (execOp a.eval o).run Tryd.prog w = .ok (.value v) w') (h : K (a.put o.dst v) w') : Oper.wp Tryd.prog o a w K Q := by
  unfold Oper.wp
  rw [hrun]
  exact h
end Go.Proofs.YtmpaifkjlhodpaaDoor

/- What leaves need, and they, are all leaves, none twice: plain. -/
namespace Go.Proofs.YtmpaifkjlhodpaaDoor
set_option maxRecDepth 100000

/-- the spots that leaves under a node need. -/
def NSP : Nat → Nat → List Nat → List (Nat × Nat)
  | h, k, [] => [(h, k)]
  | 0, _, _ :: _ => []
  | h + 1, k, x :: l => NSP h (2 * k) ((x :: l).filter fun y => decide (y < (2 * k + 1) * 2 ^ h)) ++ NSP h (2 * k + 1) ((x :: l).filter fun y => !decide (y < (2 * k + 1) * 2 ^ h))
def SPL (s : Nat × Nat) : Nat := PLC s.1 s.2
theorem NSP_nil (h k : Nat) : NSP h k [] = [(h, k)] := by cases h <;> rfl
theorem NEED_NSP : ∀ (h k : Nat) (L : List Nat), NEED h k L = (NSP h k L).map SPL
  | h, k, [] => by rw [NEED_nil, NSP_nil]; rfl
  | 0, _, _ :: _ => rfl
  | h + 1, k, x :: l => by rw [NEED_node, NSP, List.map_append, ← NEED_NSP h, ← NEED_NSP h]
def NSPS : List (Nat × Nat) → List Nat → List (Nat × Nat)
  | [], _ => []
  | (h, k) :: ps, L => NSP h k (L.filter fun y => decide (y < (k + 1) * 2 ^ h)) ++ NSPS ps (L.filter fun y => !decide (y < (k + 1) * 2 ^ h))
theorem NEEDS_NSPS : ∀ (ps : List (Nat × Nat)) (L : List Nat), NEEDS ps L = (NSPS ps L).map SPL
  | [], _ => rfl
  | (h, k) :: ps, L => by rw [NEEDS, NSPS, List.map_append, NEED_NSP, NEEDS_NSPS ps]
/-- where a spot's leaves begin, where they end. -/
def FRS (s : Nat × Nat) : Nat := s.2 * 2 ^ s.1
def TOE (s : Nat × Nat) : Nat := (s.2 + 1) * 2 ^ s.1
/-- spots and leaves that together are all from A up to B. -/
structure COVER (A B : Nat) (L : List Nat) (l : List (Nat × Nat)) : Prop where
  within : ∀ s ∈ l, A ≤ FRS s ∧ TOE s ≤ B
  off : ∀ s ∈ l, ∀ x ∈ L, ¬ (FRS s ≤ x ∧ x < TOE s)
  sum : (l.map fun s => 2 ^ s.1).sum + L.length = B - A
  order : l.Pairwise fun s t => TOE s ≤ FRS t
theorem FRS_lt (s : Nat × Nat) : FRS s + 2 ^ s.1 = TOE s := by unfold FRS TOE; rw [Nat.add_mul, Nat.one_mul]
theorem COVER.join {A B C : Nat} {L1 L2 L : List Nat} {l1 l2 : List (Nat × Nat)} (h1 : COVER A B L1 l1) (h2 : COVER B C L2 l2) (hAB : A ≤ B) (hBC : B ≤ C) (m1 : ∀ x ∈ L1, x < B) (m2 : ∀ x ∈ L2, B ≤ x) (hm : ∀ x ∈ L, x ∈ L1 ∨ x ∈ L2) (hl : L1.length + L2.length = L.length) : COVER A C L (l1 ++ l2) := by
  refine ⟨fun s hs => ?_, fun s hs x hx => ?_, ?_, ?_⟩
  · rcases List.mem_append.1 hs with h | h
    · have := h1.within s h; omega
    · have := h2.within s h; omega
  · rcases List.mem_append.1 hs with h | h
    · rcases hm x hx with hx | hx
      · exact h1.off s h x hx
      · have := (h1.within s h).2
        have := m2 x hx
        omega
    · rcases hm x hx with hx | hx
      · have := (h2.within s h).1
        have := m1 x hx
        omega
      · exact h2.off s h x hx
  · rw [List.map_append, List.sum_append]
    have e1 := h1.sum
    have e2 := h2.sum
    omega
  · rw [List.pairwise_append]
    refine ⟨h1.order, h2.order, fun s hs t ht => ?_⟩
    have e1 := (h1.within s hs).2
    have e2 := (h2.within t ht).1
    omega
theorem twice_pow (h k : Nat) : k * 2 ^ (h + 1) = 2 * k * 2 ^ h ∧ (k + 1) * 2 ^ (h + 1) = (2 * k + 1 + 1) * 2 ^ h := by
  constructor
  · rw [Nat.pow_succ, Nat.mul_comm (2 ^ h) 2, ← Nat.mul_assoc, Nat.mul_comm k 2]
  · rw [Nat.pow_succ, Nat.mul_comm (2 ^ h) 2, ← Nat.mul_assoc, Nat.mul_comm (k + 1) 2, show 2 * (k + 1) = 2 * k + 1 + 1 by omega]
theorem filter_parts (p : Nat → Bool) (L : List Nat) : ∀ x ∈ L, x ∈ L.filter p ∨ x ∈ L.filter fun y => !p y := fun x hx => by
  cases h : p x
  · exact .inr (List.mem_filter.2 ⟨hx, by simp [h]⟩)
  · exact .inl (List.mem_filter.2 ⟨hx, h⟩)
theorem nsp_cover : ∀ (h k : Nat) (L : List Nat), L.Pairwise (· < ·) → (∀ x ∈ L, k * 2 ^ h ≤ x ∧ x < (k + 1) * 2 ^ h) → COVER (k * 2 ^ h) ((k + 1) * 2 ^ h) L (NSP h k L)
  | h, k, [], _, _ => by
    rw [NSP_nil]
    refine ⟨fun s hs => ?_, fun s hs x hx => (by cases hx), ?_, List.pairwise_singleton ..⟩
    · rw [List.mem_singleton] at hs
      subst hs
      exact ⟨Nat.le_refl _, Nat.le_refl _⟩
    · have h1 : k * 2 ^ h + 2 ^ h = (k + 1) * 2 ^ h := FRS_lt (h, k)
      show ([2 ^ h] : List Nat).sum + 0 = (k + 1) * 2 ^ h - k * 2 ^ h
      rw [← h1, Nat.add_sub_cancel_left]
      simp
  | 0, k, x :: l, hp, hm => by
    have hx := hm x (List.mem_cons_self ..)
    have hl : l = [] := by
      cases l with
      | nil => rfl
      | cons y t =>
        have h1 := hm y (by simp)
        have h2 : x < y := (List.pairwise_cons.1 hp).1 y (by simp)
        simp at hx h1
        omega
    subst hl
    refine ⟨fun s hs => (by cases hs), fun s hs => (by cases hs), ?_, List.Pairwise.nil⟩
    simp [NSP]
  | h + 1, k, x :: l, hp, hm => by
    rw [NSP]
    obtain ⟨t1, t2⟩ := twice_pow h k
    have e1 : 2 * k * 2 ^ h ≤ (2 * k + 1) * 2 ^ h := Nat.mul_le_mul_right _ (by omega)
    have e2 : (2 * k + 1) * 2 ^ h ≤ (2 * k + 1 + 1) * 2 ^ h := Nat.mul_le_mul_right _ (by omega)
    rw [t1, t2] at hm ⊢
    have c1 := nsp_cover h (2 * k) ((x :: l).filter fun y => decide (y < (2 * k + 1) * 2 ^ h)) (hp.filter _) (fun y hy => by
      obtain ⟨a, b⟩ := List.mem_filter.1 hy
      exact ⟨(hm y a).1, of_decide_eq_true b⟩)
    have c2 := nsp_cover h (2 * k + 1) ((x :: l).filter fun y => !decide (y < (2 * k + 1) * 2 ^ h)) (hp.filter _) (fun y hy => by
      obtain ⟨a, b⟩ := List.mem_filter.1 hy
      have b : ¬ y < (2 * k + 1) * 2 ^ h := by simpa using b
      exact ⟨by omega, (hm y a).2⟩)
    exact c1.join c2 e1 e2 (fun y hy => of_decide_eq_true (List.mem_filter.1 hy).2) (fun y hy => by have b := (List.mem_filter.1 hy).2; have b : ¬ y < (2 * k + 1) * 2 ^ h := (by simpa using b); omega) (filter_parts _ _) (filter_both _ _)
/-- the parent has one of the leaves under it. -/
def MET (L : List Nat) (s : Nat × Nat) : Prop := ∃ x ∈ L, FRS (s.1 + 1, s.2 / 2) ≤ x ∧ x < TOE (s.1 + 1, s.2 / 2)
theorem MET.mono {L L' : List Nat} {s : Nat × Nat} (h : MET L s) (hm : ∀ x ∈ L, x ∈ L') : MET L' s := by
  obtain ⟨x, hx, h1⟩ := h
  exact ⟨x, hm x hx, h1⟩
theorem nsp_met : ∀ (h k : Nat) (L : List Nat), L ≠ [] → (∀ x ∈ L, k * 2 ^ h ≤ x ∧ x < (k + 1) * 2 ^ h) → ∀ s ∈ NSP h k L, MET L s
  | _, _, [], hL, _, _, _ => absurd rfl hL
  | 0, _, _ :: _, _, _, s, hs => by cases hs
  | h + 1, k, x :: l, _, hm, s, hs => by
    rw [NSP] at hs
    have kid : ∀ j, j / 2 = k → MET (x :: l) (h, j) := fun j hj => ⟨x, List.mem_cons_self .., by unfold FRS; rw [hj]; exact (hm x (List.mem_cons_self ..)).1, by unfold TOE; rw [hj]; exact (hm x (List.mem_cons_self ..)).2⟩
    obtain ⟨t1, t2⟩ := twice_pow h k
    rcases List.mem_append.1 hs with hs | hs
    · generalize hA : ((x :: l).filter fun y => decide (y < (2 * k + 1) * 2 ^ h)) = A at hs
      by_cases hA0 : A = []
      · rw [hA0, NSP_nil, List.mem_singleton] at hs
        subst hs
        exact kid (2 * k) (by omega)
      · refine (nsp_met h (2 * k) A hA0 (fun y hy => ?_) s hs).mono (fun y hy => ?_)
        · rw [← hA] at hy
          obtain ⟨a, b⟩ := List.mem_filter.1 hy
          have := hm y a
          rw [t1] at this
          exact ⟨this.1, of_decide_eq_true b⟩
        · rw [← hA] at hy
          exact (List.mem_filter.1 hy).1
    · generalize hA : ((x :: l).filter fun y => !decide (y < (2 * k + 1) * 2 ^ h)) = A at hs
      by_cases hA0 : A = []
      · rw [hA0, NSP_nil, List.mem_singleton] at hs
        subst hs
        exact kid (2 * k + 1) (by omega)
      · refine (nsp_met h (2 * k + 1) A hA0 (fun y hy => ?_) s hs).mono (fun y hy => ?_)
        · rw [← hA] at hy
          obtain ⟨a, b⟩ := List.mem_filter.1 hy
          have := hm y a
          rw [t2] at this
          have b : ¬ y < (2 * k + 1) * 2 ^ h := by simpa using b
          exact ⟨by omega, this.2⟩
        · rw [← hA] at hy
          exact (List.mem_filter.1 hy).1
theorem nsps_cover : ∀ (ps : List (Nat × Nat)) (A B : Nat) (L : List Nat), Tile A ps B → L.Pairwise (· < ·) → (∀ x ∈ L, A ≤ x ∧ x < B) → COVER A B L (NSPS ps L)
  | [], A, B, L, ht, _, hm => by
    have hAB : A = B := ht
    have hL : L = [] := by
      cases L with
      | nil => rfl
      | cons x l => have := hm x (List.mem_cons_self ..); omega
    subst hL
    refine ⟨fun s hs => (by cases hs), fun s hs => (by cases hs), by simp [NSPS]; omega, List.Pairwise.nil⟩
  | (h, k) :: ps, A, B, L, ht, hp, hm => by
    obtain ⟨hN, hA, ht⟩ : Node h k ∧ k * 2 ^ h = A ∧ Tile ((k + 1) * 2 ^ h) ps B := ht
    have hb := ht.bound.1
    have e1 : k * 2 ^ h ≤ (k + 1) * 2 ^ h := Nat.mul_le_mul_right _ (by omega)
    rw [NSPS, ← hA]
    have c1 := nsp_cover h k (L.filter fun y => decide (y < (k + 1) * 2 ^ h)) (hp.filter _) (fun y hy => by
      obtain ⟨a, b⟩ := List.mem_filter.1 hy
      exact ⟨by rw [hA]; exact (hm y a).1, of_decide_eq_true b⟩)
    have c2 := nsps_cover ps ((k + 1) * 2 ^ h) B (L.filter fun y => !decide (y < (k + 1) * 2 ^ h)) ht (hp.filter _) (fun y hy => by
      obtain ⟨a, b⟩ := List.mem_filter.1 hy
      have b : ¬ y < (k + 1) * 2 ^ h := by simpa using b
      exact ⟨by omega, (hm y a).2⟩)
    exact c1.join c2 e1 hb (fun y hy => of_decide_eq_true (List.mem_filter.1 hy).2) (fun y hy => by have b := (List.mem_filter.1 hy).2; have b : ¬ y < (k + 1) * 2 ^ h := (by simpa using b); omega) (filter_parts _ _) (filter_both _ _)
theorem nsps_met : ∀ (ps : List (Nat × Nat)) (A B : Nat) (L : List Nat), Tile A ps B → (∀ x ∈ L, A ≤ x ∧ x < B) → ∀ s ∈ NSPS ps L, s ∈ ps ∨ MET L s
  | [], _, _, _, _, _, s, hs => by cases hs
  | (h, k) :: ps, A, B, L, ht, hm, s, hs => by
    obtain ⟨hN, hA, ht⟩ : Node h k ∧ k * 2 ^ h = A ∧ Tile ((k + 1) * 2 ^ h) ps B := ht
    rw [NSPS] at hs
    rcases List.mem_append.1 hs with hs | hs
    · generalize hAA : (L.filter fun y => decide (y < (k + 1) * 2 ^ h)) = C at hs
      by_cases hC : C = []
      · rw [hC, NSP_nil, List.mem_singleton] at hs
        subst hs
        exact .inl (List.mem_cons_self ..)
      · refine .inr ((nsp_met h k C hC (fun y hy => ?_) s hs).mono (fun y hy => ?_))
        · rw [← hAA] at hy
          obtain ⟨a, b⟩ := List.mem_filter.1 hy
          exact ⟨by rw [hA]; exact (hm y a).1, of_decide_eq_true b⟩
        · rw [← hAA] at hy
          exact (List.mem_filter.1 hy).1
    · rcases nsps_met ps ((k + 1) * 2 ^ h) B _ ht (fun y hy => by
        obtain ⟨a, b⟩ := List.mem_filter.1 hy
        have b : ¬ y < (k + 1) * 2 ^ h := by simpa using b
        exact ⟨by omega, (hm y a).2⟩) s hs with h1 | h1
      · exact .inl (List.mem_cons_of_mem _ h1)
      · exact .inr (h1.mono fun y hy => (List.mem_filter.1 hy).1)
theorem TPS_eq {n : Nat} (hn : n ≤ 4611686018427387904) : TPS n = PKS n 0 (PC n) := by
  apply List.ext_getElem?
  intro i
  by_cases hi : i < PC n
  · rw [PKS_at hi]
    unfold TPS
    rw [List.getElem?_map, (HGT_at (by omega) hi).1]
    rfl
  · rw [List.getElem?_eq_none (by rw [TPS_length (by omega)]; omega), List.getElem?_eq_none (by simp [PKS]; omega)]
theorem TPS_tile {n : Nat} (hn : n ≤ 4611686018427387904) : Tile 0 (TPS n) n := by
  rw [TPS_eq hn]
  exact (PKS_tile hn (PC n) 0 (by omega)).1
theorem RISES.pairwise {L : List Nat} (h : RISES L) : L.Pairwise (· < ·) := by
  rw [List.pairwise_iff_getElem]
  intro i j hi hj hij
  exact h i j _ _ hij (List.getElem?_eq_getElem hi) (List.getElem?_eq_getElem hj)
theorem plc_ge {h k n : Nat} (he : n < (k + 1) * 2 ^ h) : NODES n ≤ PLC h k := by
  have h1 := PLC_last h k
  have h2 := NODES_le (n := n) (m := (k + 1) * 2 ^ h - 1) (by omega)
  omega
theorem plc_under {h k n : Nat} (he : (k + 1) * 2 ^ h ≤ n) : PLC h k < NODES n := by
  have h1 := NODES_le he
  have e1 := NODES_add ((k + 1) * 2 ^ h)
  have e2 := NODES_add (k * 2 ^ h)
  rw [PC_shift] at e1 e2
  have h3 := PC_succ k
  have h4 := two_le h
  have e : (k + 1) * 2 ^ h = k * 2 ^ h + 2 ^ h := by rw [Nat.add_mul, Nat.one_mul]
  have hp := pow_up h
  unfold PLC
  omega
/-- places rise with the leaves under them. -/
theorem PLC_before {h k h' k' : Nat} (hle : (k + 1) * 2 ^ h ≤ k' * 2 ^ h') : PLC h k < PLC h' k' := by
  have h1 := plc_under hle
  have h2 := PLC_last h' k'
  have h3 := Nat.two_pow_pos h'
  have h4 : k' * 2 ^ h' ≤ (k' + 1) * 2 ^ h' - 1 := by rw [Nat.add_mul]; omega
  have h5 : NODES (k' * 2 ^ h') ≤ NODES ((k' + 1) * 2 ^ h' - 1) := NODES_le h4
  omega
end Go.Proofs.YtmpaifkjlhodpaaDoor

/- Which spots leaves need, as the document says it: plain. -/
namespace Go.Proofs.YtmpaifkjlhodpaaDoor
set_option maxRecDepth 100000

/-- the leaves of L under the k-th node of height h. -/
def UND (h k : Nat) (L : List Nat) : List Nat := L.filter fun y => decide (y / 2 ^ h = k)
theorem und_mem {h k y : Nat} {L : List Nat} (hy : y ∈ UND h k L) : y ∈ L ∧ y / 2 ^ h = k := ⟨(List.mem_filter.1 hy).1, of_decide_eq_true (List.mem_filter.1 hy).2⟩
theorem und_length (h k : Nat) (L : List Nat) : (UND h k L).length ≤ L.length := List.length_filter_le _ _
theorem und_kid {h k y : Nat} (e : y / 2 ^ (h + 1) = k) : (y < (2 * k + 1) * 2 ^ h ↔ y / 2 ^ h = 2 * k) ∧ (¬ y < (2 * k + 1) * 2 ^ h ↔ y / 2 ^ h = 2 * k + 1) := by
  have h1 : y / 2 ^ h / 2 = k := by rw [Nat.div_div_eq_div_mul, ← Nat.pow_succ]; exact e
  have h2 := Nat.div_lt_iff_lt_mul (Nat.two_pow_pos h) (x := y) (y := 2 * k + 1)
  rw [← h2]
  generalize y / 2 ^ h = q at *
  omega
theorem NSP_und (h k : Nat) (L : List Nat) (hL : UND (h + 1) k L ≠ []) : NSP (h + 1) k (UND (h + 1) k L) = NSP h (2 * k) (UND h (2 * k) (UND (h + 1) k L)) ++ NSP h (2 * k + 1) (UND h (2 * k + 1) (UND (h + 1) k L)) := by
  have hm : ∀ y ∈ UND (h + 1) k L, y / 2 ^ (h + 1) = k := fun y hy => (und_mem hy).2
  generalize UND (h + 1) k L = M at *
  cases M with
  | nil => exact absurd rfl hL
  | cons x l =>
    rw [NSP]
    have e1 : ((x :: l).filter fun y => decide (y < (2 * k + 1) * 2 ^ h)) = UND h (2 * k) (x :: l) := List.filter_congr fun y hy => decide_eq_decide.2 (und_kid (hm y hy)).1
    have e2 : ((x :: l).filter fun y => !decide (y < (2 * k + 1) * 2 ^ h)) = UND h (2 * k + 1) (x :: l) := List.filter_congr fun y hy => by rw [← decide_not]; exact decide_eq_decide.2 (und_kid (hm y hy)).2
    rw [e1, e2]
/-- the spots that leaves need, peak by peak. -/
def RNS (ps : List (Nat × Nat)) (L : List Nat) : List (Nat × Nat) := ps.flatMap fun s => NSP s.1 s.2 (UND s.1 s.2 L)
theorem RNS_congr {ps : List (Nat × Nat)} {L M : List Nat} (h : ∀ s ∈ ps, UND s.1 s.2 L = UND s.1 s.2 M) : RNS ps L = RNS ps M := by
  induction ps with
  | nil => rfl
  | cons s ps ih =>
    rw [RNS, RNS, List.flatMap_cons, List.flatMap_cons, h s (List.mem_cons_self ..)]
    exact congrArg _ (ih fun t ht => h t (List.mem_cons_of_mem _ ht))
theorem RNS_NSPS : ∀ (ps : List (Nat × Nat)) (A B : Nat) (L : List Nat), Tile A ps B → (∀ x ∈ L, A ≤ x ∧ x < B) → RNS ps L = NSPS ps L
  | [], _, _, _, _, _ => rfl
  | (h, k) :: ps, A, B, L, ht, hm => by
    obtain ⟨hN, hA, ht⟩ : Node h k ∧ k * 2 ^ h = A ∧ Tile ((k + 1) * 2 ^ h) ps B := ht
    have e1 : UND h k L = L.filter fun y => decide (y < (k + 1) * 2 ^ h) := List.filter_congr fun y hy => decide_eq_decide.2 (by
      have h1 := Nat.div_lt_iff_lt_mul (Nat.two_pow_pos h) (x := y) (y := k + 1)
      have h2 := Nat.le_div_iff_mul_le (Nat.two_pow_pos h) (x := k) (y := y)
      have h3 := (hm y hy).1
      rw [← h1]
      rw [hA] at h2
      generalize y / 2 ^ h = q at *
      omega)
    have e2 : RNS ps L = RNS ps (L.filter fun y => !decide (y < (k + 1) * 2 ^ h)) := RNS_congr fun s hs => by
      have h1 := (ht.within s hs).1
      unfold UND
      rw [List.filter_filter]
      refine List.filter_congr fun y hy => ?_
      by_cases e : y / 2 ^ s.1 = s.2
      · have h2 : s.2 * 2 ^ s.1 ≤ y := by rw [← e]; exact Nat.div_mul_le_self _ _
        have h3 : ¬ y < (k + 1) * 2 ^ h := by omega
        simp [e, h3]
      · simp [e]
    have e3 := RNS_NSPS ps ((k + 1) * 2 ^ h) B (L.filter fun y => !decide (y < (k + 1) * 2 ^ h)) ht (fun y hy => by
      obtain ⟨a, b⟩ := List.mem_filter.1 hy
      have b : ¬ y < (k + 1) * 2 ^ h := by simpa using b
      exact ⟨by omega, (hm y a).2⟩)
    have e4 : RNS ((h, k) :: ps) L = NSP h k (UND h k L) ++ RNS ps L := rfl
    rw [e4, NSPS, e1, e2, e3]
theorem RNS_all {N : Nat} {L : List Nat} (hr : RISEA L N = 0) : NEEDS (TPS N) L = (RNS (TPS N) L).map SPL := by
  obtain ⟨h1, h2, h3⟩ := RISEA_ok hr
  rw [NEEDS_NSPS, RNS_NSPS (TPS N) 0 N L (TPS_tile h1) (fun x hx => ⟨Nat.zero_le _, h3 x hx⟩)]
theorem NSP_most (h k : Nat) (L : List Nat) : (NSP h k L).length ≤ L.length * h + 1 := by
  have := NEED_most h k L
  rwa [NEED_NSP, List.length_map] at this
/-- the spots are nodes of the forest. -/
theorem NSP_node : ∀ (h k : Nat) (L : List Nat), Node h k → ∀ s ∈ NSP h k L, Node s.1 s.2
  | h, k, [], hN, s, hs => by
    rw [NSP_nil, List.mem_singleton] at hs
    subst hs
    exact hN
  | 0, _, _ :: _, _, s, hs => by cases hs
  | h + 1, k, x :: l, hN, s, hs => by
    rw [NSP] at hs
    rcases List.mem_append.1 hs with hs | hs
    · exact NSP_node h (2 * k) _ hN.kid.1 s hs
    · exact NSP_node h (2 * k + 1) _ hN.kid.2 s hs
end Go.Proofs.YtmpaifkjlhodpaaDoor
