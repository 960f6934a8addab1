/- Texts of ManyClimbs, one behind the other: ManyHashApp, ManyReadRegion, ManyNeedD, ManyRead, ManyProofCall, ManyFaceD, ManyDecode, ManyGiven, ProofMarked, ManyMix. -/
import Derived.Test.YtlicfinmibbpdaaGreatDoorManyClimbsP32
/- A hash is put behind a list of hashes, and where it then lies. -/
namespace Go.Proofs.YtlicfinmibbpdaaGreatDoor
open Go.RowKit
set_option maxRecDepth 100000

theorem app_hashl {ops : Array Oper} {rest : List Oper} {o : Oper} {a : Act} {Q : Exit → Act → World → Prop} (w : World) (hgd : o.guard = none) (s x : Operand)
    (ho : o.op = .call { callee := .builtin .append, args := #[s, x], argTypes := #[22, 22] })
    (base : Nat) (v : Value) (n : Nat) (xs : List Value) (hs : a.eval s = v) (hown : w.ownsRow base 38 32 v n xs)
    (b c : Nat) (y : List Int) (hl : y.length = 32) (hx : a.eval x = .slice (some ⟨b, 0, none⟩) 1 c) (hc : Has w b (CELLS y).toArray 38)
    (hb : n ≤ 100000) (hbase : base ≤ w.heap.size)
    (h : ∀ g cap w', w'.ownsRow base 38 32 (.slice (some ⟨g, 0, none⟩) (n + 1) cap) (n + 1) (xs ++ CELLS y) → w.grownBy w' v.ownBlock → (v.ownBlock = some g ∨ g = w.heap.size) → g < w'.heap.size → wpList Tryz.prog ops Q rest (a.put o.dst (.slice (some ⟨g, 0, none⟩) (n + 1) cap)) w') : wpList Tryz.prog ops Q (o :: rest) a w := by
  obtain ⟨i, hi, hz, hs1, hby⟩ := info_parts info_hashv
  refine wpList_append_lies w hgd s x 22 ho base 38 i (.agg ZARR) 32 32 Tryz.underlying22 hi hz hs1 hby rfl (by decide) v n xs hs hown ⟨b, 0, none⟩ 1 c (CELLS y) hx (by rw [CELLS, List.length_map, hl]) ?_ (CELLS_one y) (by decide) (by simp only [maxLen]; omega) (by omega) hbase w.heap.size rfl h
  intro j u hj
  rw [addr_add, Nat.zero_add, hc.cell, List.getElem?_toArray]
  exact hj
end Go.Proofs.YtlicfinmibbpdaaGreatDoor

/- The region of the closure of Decode of package many that draws its order. -/
namespace Go.Proofs.YtlicfinmibbpdaaGreatDoor
open Go.RowKit
set_option maxRecDepth 100000

end Go.Proofs.YtlicfinmibbpdaaGreatDoor

/- needUnder and need of package many, with the closure of Decode. -/
namespace Go.Proofs.YtlicfinmibbpdaaGreatDoor
open Go.RowKit
set_option maxRecDepth 100000

end Go.Proofs.YtlicfinmibbpdaaGreatDoor

/- The closure of Decode of package many: the next node is read and put behind the others. -/
namespace Go.Proofs.YtlicfinmibbpdaaGreatDoor
open Go.RowKit
set_option maxRecDepth 100000

/-- so many nodes of the bytes t have been read. -/
structure READING (wS w0 w : World) (LB pb qb rb : Nat) (N : Int) (iv : Value) (t : List Int) (acc : List Nat) : Prop where
  le : 32 * acc.length ≤ t.length
  row : ∃ v, Has w pb #[.int .u64 N, iv, v] 26 ∧ w.ownsRow w0.heap.size 38 32 v acc.length (CELLS (t.take (32 * acc.length)))
  box : Has w qb #[.pointer (some ⟨rb, 0, none⟩)] 129
  rdr : RDR wS w rb (t.drop (32 * acc.length))
  keep : ∀ b, b < w0.heap.size → b ≠ pb → b ≠ rb → w.heap[b]? = w0.heap[b]?
  below : Below LB w0 w
  lt : pb < w0.heap.size ∧ rb < w0.heap.size ∧ qb < w0.heap.size ∧ LB ≤ pb ∧ LB ≤ rb
  ne : pb ≠ rb ∧ qb ≠ pb ∧ qb ≠ rb
  src : wS.heap.size ≤ pb
theorem READING.still {wS w0 w w' : World} {LB pb qb rb : Nat} {N : Int} {iv : Value} {t : List Int} {acc : List Nat} (h : READING wS w0 w LB pb qb rb N iv t acc) (hb : Below w.heap.size w w') : READING wS w0 w' LB pb qb rb N iv t acc := by
  obtain ⟨v, h1, h2⟩ := h.row
  have hs := h.below.size
  have hl := h.lt
  exact ⟨h.le, ⟨v, h1.keep hb, own_below h2 hb⟩, h.box.keep hb, h.rdr.keep hb, fun b hb0 e1 e2 => (hb.block b (by omega)).trans (h.keep b hb0 e1 e2), h.below.trans (hb.mono (by omega)), hl, h.ne, h.src⟩
end Go.Proofs.YtlicfinmibbpdaaGreatDoor

/- proof of the reader of package many: the whole of it. -/
namespace Go.Proofs.YtlicfinmibbpdaaGreatDoor
open Go.RowKit
set_option maxRecDepth 100000

theorem RDR.bytes {w0 w : World} {rb : Nat} {t : List Int} (h : RDR w0 w rb t) : t.length ≤ 1000000 ∧ ∀ x ∈ t, 0 ≤ x ∧ x ≤ 255 := by
  obtain ⟨a, c, _, h2⟩ := h.rd
  exact ⟨h2.2.2, h2.1.2.2⟩
abbrev ZMANY : Array Value := #[.int .u64 0, .slice none 0 0, .slice none 0 0]
theorem own_hold9 {w w' : World} {B s n : Nat} {t : TypeId} {v : Value} {xs : List Value} (h : w.ownsRow B t s v n xs) (hk : ∀ k, v.ownBlock = some k → w'.heap[k]? = w.heap[k]?) : w'.ownsRow B t s v n xs := own_heap h hk
end Go.Proofs.YtlicfinmibbpdaaGreatDoor

/- face of package many, with the doing of Decode. -/
namespace Go.Proofs.YtlicfinmibbpdaaGreatDoor
open Go.RowKit
set_option maxRecDepth 100000

end Go.Proofs.YtlicfinmibbpdaaGreatDoor

/- Decode of package many. -/
namespace Go.Proofs.YtlicfinmibbpdaaGreatDoor
open Go.RowKit
set_option maxRecDepth 100000

end Go.Proofs.YtlicfinmibbpdaaGreatDoor

/- given of the law: the same proof, in lists of its own that go on behind them. -/
namespace Go.Proofs.YtlicfinmibbpdaaGreatDoor
open Go.RowKit
set_option maxRecDepth 100000

/-- what given answers. -/
structure GIVM (w w' : World) (g1 n q1 : Nat) (L : List Nat) (g2 m q2 : Nat) (l : List Int) : Prop where
  own1 : w'.ownsRow w.heap.size 23 1 (.slice (some ⟨g1, 0, none⟩) n q1) n (UCELLS L)
  room1 : n + 1 ≤ q1
  mark1 : w'.cell? ⟨g1, n, none⟩ = some (.int .u64 171)
  own2 : w'.ownsRow w.heap.size 38 32 (.slice (some ⟨g2, 0, none⟩) m q2) m (CELLS l)
  room2 : m + 1 ≤ q2
  mark2 : w'.rangeAt g2 (m * 32) (CELLS MRK)
  lt1 : g1 < w'.heap.size
  lt2 : g2 < w'.heap.size
  below : Below w.heap.size w w'
set_option maxHeartbeats 2000000 in
theorem given10_ok (N : Int) (a : Option Addr) (n ca : Nat) (L : List Nat) (x : Option Addr) (m cx : Nat) (l : List Int) (hl : L.length = n) (hn : n ≤ 200) (hc : a = none → ca = 0) (hm : m ≤ 200) (hcx : x = none → cx = 0) (w : World) (hL : NUML w a L) (hF : Flat w x m l) :
    Calls Tryz.prog 6 #[.agg #[.int .u64 N, .slice a n ca, .slice x m cx]] w fun e w' => ∃ g1 q1 g2 q2, e = .returned (.agg #[.int .u64 N, .slice (some ⟨g1, 0, none⟩) n q1, .slice (some ⟨g2, 0, none⟩) m q2]) ∧ GIVM w w' g1 n q1 L g2 m q2 l := by
  obtain ⟨w1, e1⟩ : ∃ w1, w.alloc (.cells #[.int .u64 N, .slice a n ca, .slice x m cx] 26) = w1 := ⟨_, rfl⟩
  obtain ⟨w2, e2⟩ : ∃ w2, w1.alloc (.cells ZMANY 26) = w2 := ⟨_, rfl⟩
  have s1 : w1.heap.size = w.heap.size + 1 := by rw [← e1]; simp
  have s2 : w2.heap.size = w.heap.size + 2 := by rw [← e2]; simp; omega
  have hb2 : Below w.heap.size w w2 := by rw [← e2, ← e1]; exact ((Below.refl _ _).alloc (Nat.le_refl _) _).alloc (by simp) _
  have h1 : Has w2 w.heap.size #[.int .u64 N, .slice a n ca, .slice x m cx] 26 := by rw [← e2, ← e1]; exact (Has.new w _ _).alloc _
  have h2 : Has w2 w1.heap.size ZMANY 26 := by rw [← e2]; exact Has.new w1 _ _
  have L2 : NUML w2.drew a L := fun h0 => by
    obtain ⟨b, o, e, hlt, hcc⟩ := hL h0
    exact ⟨b, o, e, Nat.lt_of_lt_of_le hlt hb2.size, fun i y hy => (hb2.cell (p := ⟨b, o + i, none⟩) hlt).trans (hcc i y hy)⟩
  have F2 : Flat w2.drew x m l := hF.below (hb2.drew)
  have i3 : (Tryz.prog.info? 26).map (·.size) = some 3 := by kernel_rfl
  have info3 : ∀ {u v y : Value} (_ : Value), (Tryz.prog.info? 26).map (·.size) = some (#[u, v, y] : Array Value).size := fun _ => i3
  have size3 : ∀ {u v y : Value} (_ : Value), ZMANY.size = (#[u, v, y] : Array Value).size := fun _ => rfl
  have cN := numbers10_ok a n ca L hl (by omega) hc w2.drew L2
  have cR : ∀ W, Below w2.drew.heap.size w2.drew W → Calls Tryz.prog 7 #[.slice x m cx] W (ROWED W m l) := fun W hb => row10_ok x m cx (by omega) hcx l W (F2.below hb)
  have HH : Aside (Has w2 w.heap.size #[.int .u64 N, .slice a n ca, .slice x m cx] 26 ∧ Has w2 w1.heap.size ZMANY 26 ∧ Below w.heap.size w w2 ∧ w1.heap.size = w.heap.size + 1 ∧ w2.heap.size = w.heap.size + 2 ∧ L.length = n) := ⟨h1, h2, hb2, s1, s2, hl⟩
  have SS : ∀ W, Below w2.heap.size w2.drew W → (fun w' : World => w'.cell? ⟨w.heap.size, 0, none⟩ = some (.int .u64 N) ∧ w'.cell? ⟨w.heap.size, 1, none⟩ = some (.slice a n ca) ∧ w'.cell? ⟨w.heap.size, 2, none⟩ = some (.slice x m cx)) W := fun W hb => by
    have k : Has W w.heap.size #[.int .u64 N, .slice a n ca, .slice x m cx] 26 := (hb.block w.heap.size h1.lt).trans h1
    exact ⟨k.cell 0, k.cell 1, k.cell 2⟩
  have G2 : ∀ g q g' q' W, (∃ w3, NUMD w2.drew w3 g n q L ∧ (W.ownsRow w3.heap.size 38 32 (.slice (some ⟨g', 0, none⟩) m q') m (CELLS l) ∧ m + 1 ≤ q' ∧ W.rangeAt g' (m * 32) (CELLS MRK) ∧ g' < W.heap.size ∧ Below w3.heap.size w3 W)) → Below w2.heap.size w2.drew W := fun g q g' q' W ⟨w3, h3, h4⟩ => h3.below.trans (h4.2.2.2.2.mono h3.below.size)
  have SA : Aside (∀ W, Below w2.heap.size w2.drew W → (fun w' : World => w'.cell? ⟨w.heap.size, 0, none⟩ = some (.int .u64 N) ∧ w'.cell? ⟨w.heap.size, 1, none⟩ = some (.slice a n ca) ∧ w'.cell? ⟨w.heap.size, 2, none⟩ = some (.slice x m cx)) W) := SS
  have GA : Aside (∀ g q g' q' W, (∃ w3, NUMD w2.drew w3 g n q L ∧ (W.ownsRow w3.heap.size 38 32 (.slice (some ⟨g', 0, none⟩) m q') m (CELLS l) ∧ m + 1 ≤ q' ∧ W.rangeAt g' (m * 32) (CELLS MRK) ∧ g' < W.heap.size ∧ Below w3.heap.size w3 W)) → Below w2.heap.size w2.drew W) := G2
  have CN : Aside (Calls Tryz.prog 15 #[.slice a n ca] w2.drew fun e w' => ∃ g cap, e = .returned (.slice (some ⟨g, 0, none⟩) n cap) ∧ NUMD w2.drew w' g n cap L) := cN
  have CR : Aside (∀ W, Below w2.drew.heap.size w2.drew W → Calls Tryz.prog 7 #[.slice x m cx] W (ROWED W m l)) := cR
  have I3 : Aside ((∀ {u v y : Value} (_ : Value), (Tryz.prog.info? 26).map (·.size) = some (#[u, v, y] : Array Value).size) ∧ ∀ {u v y : Value} (_ : Value), ZMANY.size = (#[u, v, y] : Array Value).size) := ⟨info3, size3⟩
  clear hl hn hc hm hcx hL hF s1 s2 hb2 h1 h2 L2 F2 i3 info3 size3 cN cR SS G2
  go_enter Tryz.func6, Tryz.ntmps6
  go_upto_region 1 with fail
  clear e1 e2
  refine given1 w2 w.heap.size w1.heap.size N a n ca x m cx ZMANY (by have := HH.out; omega) (fun W => W = w2.drew) (fun g q W => NUMD w2.drew W g n q L) (fun g q g' q' W => ∃ w3, NUMD w2.drew w3 g n q L ∧ (W.ownsRow w3.heap.size 38 32 (.slice (some ⟨g', 0, none⟩) m q') m (CELLS l) ∧ m + 1 ≤ q' ∧ W.rangeAt g' (m * 32) (CELLS MRK) ∧ g' < W.heap.size ∧ Below w3.heap.size w3 W)) rfl
    (fun W hW => SA.out W (by subst hW; exact Below.refl _ _)) (fun g q W h => SA.out W h.below) (fun g q g' q' W h => SA.out W (GA.out g q g' q' W h)) (fun g q g' q' W h => ((GA.out g q g' q' W h).block w1.heap.size HH.out.2.1.lt).trans HH.out.2.1) I3.out.1 I3.out.2 (fun W hW => by subst hW; exact CN.out) (fun g q W h => ?_) (fun _ _ _ _ _ h => h) ?_
  · refine (CR.out W h.below).mono ?_
    rintro e w' ⟨g2, q2, he, hr⟩
    exact ⟨g2, q2, he, W, h, hr⟩
  · rintro g1 q1 g2 q2 W ⟨wx, ⟨w3, h3, h4⟩, rfl⟩
    have FN : Aside (GIVM w (wx.setRow w1.heap.size #[.int .u64 N, .slice (some ⟨g1, 0, none⟩) n q1, .slice (some ⟨g2, 0, none⟩) m q2]) g1 n q1 L g2 m q2 l) := by
      have hh := HH.out
      have b3 : w2.heap.size ≤ g1 := h3.base
      have b4 : w3.heap.size ≤ g2 := (h4.1.lt g2 rfl).1
      have sz3 : w2.heap.size ≤ w3.heap.size := h3.below.size
      have bx : Below w2.heap.size w2 wx := ⟨(h3.below.trans (h4.2.2.2.2.mono h3.below.size)).os, (h3.below.trans (h4.2.2.2.2.mono h3.below.size)).tape, (h3.below.trans (h4.2.2.2.2.mono h3.below.size)).output, (h3.below.trans (h4.2.2.2.2.mono h3.below.size)).size, (h3.below.trans (h4.2.2.2.2.mono h3.below.size)).block⟩
      have c1 : ∀ o : Nat, (wx.setRow w1.heap.size #[.int .u64 N, .slice (some ⟨g1, 0, none⟩) n q1, .slice (some ⟨g2, 0, none⟩) m q2]).cell? ⟨g1, o, none⟩ = wx.cell? ⟨g1, o, none⟩ := fun o => World.cell?_of_block (by exact setRow_other _ _ _ _ (show g1 ≠ w1.heap.size by omega))
      have c2 : ∀ o : Nat, (wx.setRow w1.heap.size #[.int .u64 N, .slice (some ⟨g1, 0, none⟩) n q1, .slice (some ⟨g2, 0, none⟩) m q2]).cell? ⟨g2, o, none⟩ = wx.cell? ⟨g2, o, none⟩ := fun o => World.cell?_of_block (by exact setRow_other _ _ _ _ (show g2 ≠ w1.heap.size by omega))
      refine ⟨?_, h3.room, ?_, ?_, h4.2.1, ?_, ?_, ?_, below_row (hh.2.2.1.trans (bx.mono (by omega))) (by omega) _⟩
      · exact own_mono (own_hold9 (own_below h3.own h4.2.2.2.2) fun k e => setRow_other _ _ _ _ (by have e : g1 = k := (by simpa [Value.ownBlock] using e); omega)) (by show w.heap.size ≤ w2.heap.size; omega)
      · exact (c1 n).trans ((h4.2.2.2.2.cell (p := ⟨g1, n, none⟩) h3.lt).trans h3.mark)
      · exact own_mono (own_hold9 h4.1 fun k e => setRow_other _ _ _ _ (by have e : g2 = k := (by simpa [Value.ownBlock] using e); omega)) (by omega)
      · exact fun j v hv => (c2 _).trans (h4.2.2.1 j v hv)
      · have := h3.lt
        have := h4.2.2.2.2.size
        simp [World.setRow]
        omega
      · simp [World.setRow]
        exact h4.2.2.2.1
    have hres : Has (wx.setRow w1.heap.size #[.int .u64 N, .slice (some ⟨g1, 0, none⟩) n q1, .slice (some ⟨g2, 0, none⟩) m q2]) w1.heap.size #[.int .u64 N, .slice (some ⟨g1, 0, none⟩) n q1, .slice (some ⟨g2, 0, none⟩) m q2] 26 := by
      have hz : Has wx w1.heap.size ZMANY 26 := ((GA.out g1 q1 g2 q2 wx ⟨w3, h3, h4⟩).block w1.heap.size HH.out.2.1.lt).trans HH.out.2.1
      exact hz.row _
    have HRS : Aside (Has (wx.setRow w1.heap.size #[.int .u64 N, .slice (some ⟨g1, 0, none⟩) n q1, .slice (some ⟨g2, 0, none⟩) m q2]) w1.heap.size #[.int .u64 N, .slice (some ⟨g1, 0, none⟩) n q1, .slice (some ⟨g2, 0, none⟩) m q2] 26) := hres
    generalize wx.setRow w1.heap.size #[.int .u64 N, .slice (some ⟨g1, 0, none⟩) n q1, .slice (some ⟨g2, 0, none⟩) m q2] = wy at *
    clear h3 h4 hres SA GA CN CR HH
    go_wp2_with fail
    refine bodyPost_ret (v := .agg #[.int .u64 N, .slice (some ⟨g1, 0, none⟩) n q1, .slice (some ⟨g2, 0, none⟩) m q2]) ?_ rfl ⟨g1, q1, g2, q2, rfl, FN.out⟩
    exact results_cell_row rfl _ _ w1.heap.size 26 _ (0, 0) _ rfl HRS.out Tryz.underlying26 rfl (I3.out.1 undef)
end Go.Proofs.YtlicfinmibbpdaaGreatDoor

/- A list of hashes of one's own that is written over with a mark. -/
namespace Go.Proofs.YtlicfinmibbpdaaGreatDoor
open Go.RowKit
set_option maxRecDepth 100000

/-- values laid over a list, one behind the other, from o on. -/
def OVERW (xs : List Value) : Nat → List Value → List Value
  | _, [] => xs
  | o, v :: vs => OVERW (xs.set o v) (o + 1) vs
theorem OVERW_eq : ∀ (vs xs : List Value) (o : Nat), o + vs.length ≤ xs.length → OVERW xs o vs = xs.take o ++ vs ++ xs.drop (o + vs.length)
  | [], xs, o, _ => by simp [OVERW]
  | v :: vs, xs, o, h => by
    simp only [List.length_cons] at h
    rw [OVERW, OVERW_eq vs (xs.set o v) (o + 1) (by rw [List.length_set]; omega)]
    rw [List.take_set, List.drop_set, if_pos (by omega)]
    rw [List.take_add_one, List.getElem?_eq_getElem (by omega)]
    simp only [Option.toList_some, List.length_cons]
    rw [List.set_append_right _ _ (by simp; omega)]
    simp only [List.length_take, show min o xs.length = o by omega, Nat.sub_self, List.set_cons_zero]
    simp [Nat.add_comm, Nat.add_left_comm]
theorem own_over {B : Nat} {t : TypeId} {s g n c : Nat} : ∀ (vs xs : List Value) (o : Nat) (w : World), w.ownsRow B t s (.slice (some ⟨g, 0, none⟩) n c) n xs → (w.setCells g o vs).ownsRow B t s (.slice (some ⟨g, 0, none⟩) n c) n (OVERW xs o vs) ∧ w.grownBy (w.setCells g o vs) (some g)
  | [], xs, o, w, h => ⟨h, grown_refl _ _⟩
  | v :: vs, xs, o, w, h => by
    obtain ⟨h1, h2⟩ := h.stored o v
    obtain ⟨h3, h4⟩ := own_over vs _ (o + 1) _ h1
    exact ⟨h3, grown_trans h2 h4 (.inl rfl)⟩
/-- the mark m. -/
def MK (m : Int) : List Int := m :: List.replicate 31 0
theorem MK_length (m : Int) : (MK m).length = 32 := rfl
theorem MK_arr (m : Int) : (CELLS (MK m)).toArray = #[.int .u8 m, .int .u8 0, .int .u8 0, .int .u8 0, .int .u8 0, .int .u8 0, .int .u8 0, .int .u8 0, .int .u8 0, .int .u8 0, .int .u8 0, .int .u8 0, .int .u8 0, .int .u8 0, .int .u8 0, .int .u8 0, .int .u8 0, .int .u8 0, .int .u8 0, .int .u8 0, .int .u8 0, .int .u8 0, .int .u8 0, .int .u8 0, .int .u8 0, .int .u8 0, .int .u8 0, .int .u8 0, .int .u8 0, .int .u8 0, .int .u8 0, .int .u8 0] := rfl
/-- so many marks. -/
def MKS (m : Int) : Nat → List Int
  | 0 => []
  | k + 1 => MKS m k ++ MK m
theorem MKS_length (m : Int) : ∀ k, (MKS m k).length = 32 * k
  | 0 => rfl
  | k + 1 => by rw [MKS, List.length_append, MKS_length m k, MK_length]; omega
theorem MKS_add (m : Int) (a : Nat) : ∀ b, MKS m (a + b) = MKS m a ++ MKS m b
  | 0 => by simp [MKS]
  | b + 1 => by rw [← Nat.add_assoc, MKS, MKS, MKS_add m a b, List.append_assoc]
theorem MKS_at (m : Int) {k i : Nat} (hi : i < k) : HSH (MKS m k) i = MK m := by
  unfold HSH
  rw [show k = i + (1 + (k - i - 1)) by omega, MKS_add, MKS_add, List.drop_left' (by rw [MKS_length]), List.take_left' (by rw [MKS_length])]
  rfl
/-- the first j are marks. -/
def MKP (xs : List Value) (m : Int) (j : Nat) : List Value := CELLS (MKS m j) ++ xs.drop (32 * j)
theorem MKP_zero (xs : List Value) (m : Int) : MKP xs m 0 = xs := by simp [MKP, MKS, CELLS]
theorem MKP_all {xs : List Value} {n : Nat} (h : xs.length = 32 * n) (m : Int) : MKP xs m n = CELLS (MKS m n) := by
  unfold MKP
  rw [List.drop_of_length_le (by omega), List.append_nil]
theorem MKP_length {xs : List Value} {n j : Nat} (h : xs.length = 32 * n) (hj : j ≤ n) (m : Int) : (MKP xs m j).length = 32 * n := by
  unfold MKP
  rw [List.length_append, List.length_drop, CELLS, List.length_map, MKS_length]
  omega
theorem MKP_next {xs : List Value} {n j : Nat} (h : xs.length = 32 * n) (hj : j < n) (m : Int) : OVERW (MKP xs m j) (j * 32) (CELLS (MK m)) = MKP xs m (j + 1) := by
  have hl : (CELLS (MK m)).length = 32 := rfl
  have hk : (CELLS (MKS m j)).length = j * 32 := by rw [CELLS, List.length_map, MKS_length]; omega
  rw [OVERW_eq _ _ _ (by rw [MKP_length h (by omega), hl]; omega), hl]
  unfold MKP
  rw [List.take_left' hk, List.drop_append, List.drop_of_length_le (by omega), List.nil_append, hk, List.drop_drop, MKS, CELLS_append]
  rw [show 32 * j + (j * 32 + 32 - j * 32) = 32 * (j + 1) by omega]
theorem step_pure {o : Oper} {a : Act} {w w' : World} {K : Act → World → Prop} {Q : Exit → Act → World → Prop} {v : Value} (hrun : (execOp a.eval o).run Tryz.prog w = .ok (.value v) w') (h : K (a.put o.dst v) w') : Oper.wp Tryz.prog o a w K Q := by
  unfold Oper.wp
  rw [hrun]
  exact h
end Go.Proofs.YtlicfinmibbpdaaGreatDoor

/- Two lists of numbers and two lists of hashes of one's own, none in another's block. -/
namespace Go.Proofs.YtlicfinmibbpdaaGreatDoor
open Go.RowKit
set_option maxRecDepth 100000

/-- none of four lies in another's block. -/
structure APT (a b x y : Value) : Prop where
  ab : ∀ g, a.ownBlock = some g → b.ownBlock ≠ some g
  ax : ∀ g, a.ownBlock = some g → x.ownBlock ≠ some g
  ay : ∀ g, a.ownBlock = some g → y.ownBlock ≠ some g
  bx : ∀ g, b.ownBlock = some g → x.ownBlock ≠ some g
  byy : ∀ g, b.ownBlock = some g → y.ownBlock ≠ some g
  xy : ∀ g, x.ownBlock = some g → y.ownBlock ≠ some g
theorem off_sym {a b : Value} (h : ∀ g, a.ownBlock = some g → b.ownBlock ≠ some g) : ∀ g, b.ownBlock = some g → a.ownBlock ≠ some g := fun g e1 e2 => h g e2 e1
/-- four lists of one's own; K: their blocks at first. -/
structure MIX (w0 w : World) (B : Nat) (K : Nat → Prop) (a : Value) (na : Nat) (xa : List Value) (b : Value) (nb : Nat) (xb : List Value) (x : Value) (mx : Nat) (xx : List Value) (y : Value) (my : Nat) (xy : List Value) : Prop where
  ra : w.ownsRow B 23 1 a na xa
  rb : w.ownsRow B 23 1 b nb xb
  rx : w.ownsRow B 38 32 x mx xx
  ry : w.ownsRow B 38 32 y my xy
  ap : APT a b x y
  hm : ∀ g, (a.ownBlock = some g ∨ b.ownBlock = some g ∨ x.ownBlock = some g ∨ y.ownBlock = some g) → K g ∨ w0.heap.size ≤ g
  kp : ∀ k, k < w0.heap.size → ¬ K k → w.heap[k]? = w0.heap[k]?
  bl : Below B w0 w
  sz : w0.heap.size ≤ w.heap.size
  bs : B ≤ w0.heap.size
section
variable {w0 w : World} {B : Nat} {K : Nat → Prop} {a : Value} {na : Nat} {xa : List Value} {b : Value} {nb : Nat} {xb : List Value} {x : Value} {mx : Nat} {xx : List Value} {y : Value} {my : Nat} {xy : List Value}
theorem MIX.swab (h : MIX w0 w B K a na xa b nb xb x mx xx y my xy) : MIX w0 w B K b nb xb a na xa x mx xx y my xy :=
  ⟨h.rb, h.ra, h.rx, h.ry, ⟨off_sym h.ap.ab, h.ap.bx, h.ap.byy, h.ap.ax, h.ap.ay, h.ap.xy⟩, fun g e => h.hm g (by rcases e with e | e | e <;> simp_all), h.kp, h.bl, h.sz, h.bs⟩
theorem MIX.swxy (h : MIX w0 w B K a na xa b nb xb x mx xx y my xy) : MIX w0 w B K a na xa b nb xb y my xy x mx xx :=
  ⟨h.ra, h.rb, h.ry, h.rx, ⟨h.ap.ab, h.ap.ay, h.ap.ax, h.ap.byy, h.ap.bx, off_sym h.ap.xy⟩, fun g e => h.hm g (by rcases e with e | e | e | e <;> simp_all), h.kp, h.bl, h.sz, h.bs⟩
theorem MIX.size (h : MIX w0 w B K a na xa b nb xb x mx xx y my xy) : B ≤ w.heap.size := Nat.le_trans h.bs h.sz
theorem own_off {w w' : World} {B s n : Nat} {t : TypeId} {v : Value} {xs : List Value} {r : Option Nat} (h : w.ownsRow B t s v n xs) (hg : w.grownBy w' r) (ho : ∀ g, r = some g → v.ownBlock ≠ some g) : w'.ownsRow B t s v n xs := own_hold h fun k e => hg.block k (h.lt k e).2 fun e2 => ho k e2.symm e
theorem MIX.stepa (h : MIX w0 w B K a na xa b nb xb x mx xx y my xy) {w' : World} {a' : Value} {na' : Nat} {xa' : List Value} (hown : w'.ownsRow B 23 1 a' na' xa') (hg : w.grownBy w' a.ownBlock) (hat : ∀ g, a'.ownBlock = some g → a.ownBlock = some g ∨ w.heap.size ≤ g) : MIX w0 w' B K a' na' xa' b nb xb x mx xx y my xy := by
  have far : ∀ {v : Value} {t : TypeId} {s n : Nat} {xs : List Value}, w.ownsRow B t s v n xs → (∀ g, a.ownBlock = some g → v.ownBlock ≠ some g) → ∀ g, a'.ownBlock = some g → v.ownBlock ≠ some g := fun hr ho g e1 e2 => by
    rcases hat g e1 with h1 | h1
    · exact ho g h1 e2
    · have := (hr.lt g e2).2
      omega
  have hs := grown_size hg
  refine ⟨hown, own_off h.rb hg h.ap.ab, own_off h.rx hg h.ap.ax, own_off h.ry hg h.ap.ay, ⟨far h.rb h.ap.ab, far h.rx h.ap.ax, far h.ry h.ap.ay, h.ap.bx, h.ap.byy, h.ap.xy⟩, fun g e => ?_, fun k hk hK => ?_, h.bl.grown hg h.size (fun k e => (h.ra.lt k e).1), Nat.le_trans h.sz hs, h.bs⟩
  · rcases e with e | e
    · rcases hat g e with h1 | h1
      · exact h.hm g (.inl h1)
      · exact .inr (Nat.le_trans h.sz h1)
    · exact h.hm g (.inr e)
  · refine (hg.block k (Nat.lt_of_lt_of_le hk h.sz) fun e => ?_).trans (h.kp k hk hK)
    rcases h.hm k (.inl e.symm) with h1 | h1
    · exact hK h1
    · omega
theorem MIX.stepx (h : MIX w0 w B K a na xa b nb xb x mx xx y my xy) {w' : World} {x' : Value} {mx' : Nat} {xx' : List Value} (hown : w'.ownsRow B 38 32 x' mx' xx') (hg : w.grownBy w' x.ownBlock) (hat : ∀ g, x'.ownBlock = some g → x.ownBlock = some g ∨ w.heap.size ≤ g) : MIX w0 w' B K a na xa b nb xb x' mx' xx' y my xy := by
  have far : ∀ {v : Value} {t : TypeId} {s n : Nat} {xs : List Value}, w.ownsRow B t s v n xs → (∀ g, x.ownBlock = some g → v.ownBlock ≠ some g) → ∀ g, x'.ownBlock = some g → v.ownBlock ≠ some g := fun hr ho g e1 e2 => by
    rcases hat g e1 with h1 | h1
    · exact ho g h1 e2
    · have := (hr.lt g e2).2
      omega
  have hs := grown_size hg
  refine ⟨own_off h.ra hg (off_sym h.ap.ax), own_off h.rb hg (off_sym h.ap.bx), hown, own_off h.ry hg h.ap.xy, ⟨h.ap.ab, off_sym (far h.ra (off_sym h.ap.ax)), h.ap.ay, off_sym (far h.rb (off_sym h.ap.bx)), h.ap.byy, far h.ry h.ap.xy⟩, fun g e => ?_, fun k hk hK => ?_, h.bl.grown hg h.size (fun k e => (h.rx.lt k e).1), Nat.le_trans h.sz hs, h.bs⟩
  · rcases e with e | e | e | e
    · exact h.hm g (.inl e)
    · exact h.hm g (.inr (.inl e))
    · rcases hat g e with h1 | h1
      · exact h.hm g (.inr (.inr (.inl h1)))
      · exact .inr (Nat.le_trans h.sz h1)
    · exact h.hm g (.inr (.inr (.inr e)))
  · refine (hg.block k (Nat.lt_of_lt_of_le hk h.sz) fun e => ?_).trans (h.kp k hk hK)
    rcases h.hm k (.inr (.inr (.inl e.symm))) with h1 | h1
    · exact hK h1
    · omega
theorem MIX.alloc (h : MIX w0 w B K a na xa b nb xb x mx xx y my xy) (o : Obj) : MIX w0 (w.alloc o) B K a na xa b nb xb x mx xx y my xy :=
  ⟨own_alloc h.ra o, own_alloc h.rb o, own_alloc h.rx o, own_alloc h.ry o, h.ap, h.hm, fun k hk hK => (Below.heap_alloc w o k (Nat.lt_of_lt_of_le hk h.sz)).trans (h.kp k hk hK), h.bl.alloc h.size o, by have := h.sz; simp; omega, h.bs⟩
theorem MIX.drew (h : MIX w0 w B K a na xa b nb xb x mx xx y my xy) : MIX w0 w.drew B K a na xa b nb xb x mx xx y my xy := ⟨h.ra, h.rb, h.rx, h.ry, h.ap, h.hm, h.kp, h.bl.drew, h.sz, h.bs⟩
/-- a block that is none of the four's. -/
structure OFF (z : Nat) (a b x y : Value) : Prop where
  a : a.ownBlock ≠ some z
  b : b.ownBlock ≠ some z
  x : x.ownBlock ≠ some z
  y : y.ownBlock ≠ some z
theorem MIX.fresh (h : MIX w0 w B K a na xa b nb xb x mx xx y my xy) : OFF w.heap.size a b x y :=
  ⟨fun e => Nat.lt_irrefl _ (h.ra.lt _ e).2, fun e => Nat.lt_irrefl _ (h.rb.lt _ e).2, fun e => Nat.lt_irrefl _ (h.rx.lt _ e).2, fun e => Nat.lt_irrefl _ (h.ry.lt _ e).2⟩
end
theorem off_new {w : World} {v : Value} {z g n c : Nat} (hz : z < w.heap.size) (h : v.ownBlock ≠ some z) (hat : v.ownBlock = some g ∨ g = w.heap.size) : (Value.slice (some ⟨g, 0, none⟩) n c).ownBlock ≠ some z := fun e => by
  have e : g = z := by simpa [Value.ownBlock] using e
  subst e
  rcases hat with h1 | h1
  · exact h h1
  · omega
theorem has_off {w w' : World} {r : Option Nat} {z : Nat} {c : Array Value} {t : TypeId} (h : Has w z c t) (hg : w.grownBy w' r) (ho : r ≠ some z) : Has w' z c t := (hg.block z h.lt fun e => ho e.symm).trans h
/-- an element of a list of numbers is written over. -/
theorem own_put {w : World} {B g n c j : Nat} {xs : List Value} {v : Value} (h : w.ownsRow B 23 1 (.slice (some ⟨g, 0, none⟩) n c) n xs) (hj : j < n) : (∃ u, w.cell? ⟨g, j, none⟩ = some u) ∧ w.frozen? ⟨g, j, none⟩ = false ∧ (w.setCell ⟨g, j, none⟩ v).ownsRow B 23 1 (.slice (some ⟨g, 0, none⟩) n c) n (xs.set j v) ∧ w.grownBy (w.setCell ⟨g, j, none⟩ v) (Value.slice (some ⟨g, 0, none⟩) n c).ownBlock := by
  refine ⟨?_, h.frozenAt j, (h.stored j v).1, (h.stored j v).2⟩
  have := h.cellAt j (by omega)
  obtain ⟨u, hu⟩ : ∃ u, xs[j]? = some u := ⟨_, List.getElem?_eq_getElem (by have := h.1; omega)⟩
  exact ⟨u, this.trans hu⟩
end Go.Proofs.YtlicfinmibbpdaaGreatDoor
