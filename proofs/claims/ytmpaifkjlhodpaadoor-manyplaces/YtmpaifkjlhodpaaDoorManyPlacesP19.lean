/- Texts of ManyPlaces, one behind the other: ManyWhole, ManyFaceE, ManyEncode, ManyAwake, ManyNumbers. -/
import Derived.Laws.AppendOwnNone
import Derived.Test.YtmpaifkjlhodpaaDoorManyPlacesP14
import Derived.Test.YtmpaifkjlhodpaaDoorManyPlacesP15
import Derived.Test.YtmpaifkjlhodpaaDoorManyPlacesP18
/- mustBeWhole of package many: it gives up where a proof has other leaves than there are, or other nodes than they need. -/
namespace Go.Proofs.YtmpaifkjlhodpaaDoor
open Go.RowKit
set_option maxRecDepth 100000

/-- the number in bl is how many of K are left behind acc. -/
structure COUNTING (K : Nat) (w0 w : World) (bl : Nat) (acc : List Nat) : Prop where
  le : acc.length ≤ K
  row : Has w bl #[.int .i64 ((K - acc.length : Nat) : Int)] 3
  keep : ∀ b, b < w0.heap.size → b ≠ bl → w.heap[b]? = w0.heap[b]?
  lt : bl < w0.heap.size
  below : Below bl w0 w
theorem COUNTING.still {K : Nat} {w0 w w' : World} {bl : Nat} {acc : List Nat} (h : COUNTING K w0 w bl acc) (hb : Below w.heap.size w w') : COUNTING K w0 w' bl acc := by
  have hs := h.below.size
  have hlt := h.lt
  exact ⟨h.le, h.row.keep hb, fun b hb0 hne => (hb.block b (by omega)).trans (h.keep b hb0 hne), hlt, h.below.trans (hb.mono (by omega))⟩
set_option maxHeartbeats 1000000 in
theorem count_ok {K : Nat} {w0 w : World} {bl : Nat} {acc : List Nat} (hK20 : K < 2 ^ 20) (hK : COUNTING K w0 w bl acc) (p : Int) : Calls Tryd.prog 49 #[.int .u64 p, .pointer (some ⟨bl, 0, none⟩)] w fun e w' => (e = .returned (.tuple #[]) ∧ ∀ x, COUNTING K w0 w' bl (acc ++ [x])) ∨ (e = .panicked (WRONG 70) ∧ acc.length = K ∧ COUNTING K w0 w' bl acc) := by
  obtain ⟨r, hr⟩ : ∃ r, K - acc.length = r := ⟨_, rfl⟩
  have c0 := hK.row.cell 0
  have f0 := hK.row.frozen 0
  rw [hr] at c0
  have c0 : w.cell? ⟨bl, 0, none⟩ = some (.int .i64 (r : Int)) := c0
  have HA : Aside (COUNTING K w0 w bl acc ∧ K - acc.length = r ∧ K < 2 ^ 20) := ⟨hK, hr, hK20⟩
  clear hK hr hK20
  rcases Nat.eq_zero_or_pos r with h0 | h0
  · subst h0
    go_enter Tryd.func49, Tryd.ntmps49
    go_wp2_with fail
    exact ⟨rfl, .inr ⟨rfl, by have := HA.out.1.le; have := HA.out.2.1; omega, HA.out.1⟩⟩
  · have hz : ((r : Int) == 0) = false := beq_eq_false_iff_ne.2 (by omega)
    have e1 : wrap64 ((r : Int) - 1) = ((r - 1 : Nat) : Int) := by have := HA.out.2.1; have := HA.out.2.2; unfold wrap64; omega
    have FN : Aside (∀ x, COUNTING K w0 (w.setCell ⟨bl, 0, none⟩ (.int .i64 ((r - 1 : Nat) : Int))) bl (acc ++ [x])) := fun x => by
      have h1 := HA.out.1
      have h2 := HA.out.2.1
      refine ⟨by rw [List.length_append]; simp; clear e1; omega, ?_, fun b hb hne => (Below.heap_setCell _ _ _ _ (by exact hne)).trans (h1.keep b hb hne), h1.lt, h1.below.setCell (p := ⟨bl, 0, none⟩) (Nat.le_refl _) _⟩
      have h3 := h1.row.set 0 (.int .i64 ((r - 1 : Nat) : Int))
      rw [List.length_append, show K - (acc.length + [x].length) = r - 1 by simp; clear e1; omega]
      exact h3
    clear HA
    generalize r - 1 = r' at *
    go_enter Tryd.func49, Tryd.ntmps49
    go_wp2_with fail
    exact bodyPost_end (v := .tuple #[]) (by simp [results, Tryd.f49]) rfl (.inl ⟨rfl, FN.out⟩)
/-- what is wrong with a proof of so many nodes. -/
def MWA (L : List Nat) (N K : Nat) : Int := if RISEA L N ≠ 0 then RISEA L N else if K ≠ (NEEDS (TPS N) L).length then 70 else 0
theorem MWA_ok {L : List Nat} {N K : Nat} (h : MWA L N K = 0) : RISEA L N = 0 ∧ K = (NEEDS (TPS N) L).length := by
  unfold MWA at h
  split at h
  · rename_i h1; exact absurd h h1
  · rename_i h1
    split at h
    · cases h
    · rename_i h2
      exact ⟨by simpa using h1, by simpa using h2⟩
theorem MWA_rise {L : List Nat} {N K : Nat} (h : RISEA L N ≠ 0) : MWA L N K = RISEA L N := if_pos h
theorem MWA_count {L : List Nat} {N K : Nat} (h : RISEA L N = 0) (hk : K ≠ (NEEDS (TPS N) L).length) : MWA L N K = 70 := by
  unfold MWA
  rw [if_neg (by simpa using h), if_pos hk]
theorem MWA_yes {L : List Nat} {N K : Nat} (h : RISEA L N = 0) (hk : K = (NEEDS (TPS N) L).length) : MWA L N K = 0 := by
  unfold MWA
  rw [if_neg (by simpa using h), if_neg (by simpa using hk)]
def WHOLE (L : List Nat) (N K : Nat) (w : World) (e : Ending) (w' : World) : Prop := Below w.heap.size w w' ∧ ((MWA L N K = 0 ∧ e = .returned (.tuple #[])) ∨ (MWA L N K ≠ 0 ∧ e = .panicked (WRONG (MWA L N K))))
set_option maxHeartbeats 2000000 in
theorem mustwhole_ok (L : List Nat) (N : Nat) (a : Option Addr) (m c : Nat) (an : Option Addr) (K cn : Nat) (w : World) (hl : L.length = m) (hm : m < 2 ^ 20) (hc : m ≤ c) (hnil : a = none → c = 0) (hbl : ∀ x, a = some x → x.block < w.heap.size ∧ x.spot = none) (hK : K < 2 ^ 20) (hL : NUML w a L) (hT : Tabled w) (hw0 : 0 < w.heap.size) :
    Calls Tryd.prog 35 #[.agg (MBOX N a m c an K cn)] w (WHOLE L N K w) := by
  have hmf : ∀ (fn : Fn) (first cap : Array Value) (w : World), (Instr.makeFunc fn first cap).run Tryd.prog w = .ok (.func fn first cap) w := fun _ _ _ _ => rfl
  obtain ⟨w1, e1⟩ : ∃ w1, w.alloc (.cells (MBOX N a m c an K cn) 32) = w1 := ⟨_, rfl⟩
  have s1 : w1.heap.size = w.heap.size + 1 := by rw [← e1]; simp
  have h1 : Has w1 w.heap.size (MBOX N a m c an K cn) 32 := by rw [← e1]; exact Has.new w _ _
  have hb1 : Below w.heap.size w w1 := by rw [← e1]; exact (Below.refl _ _).alloc (Nat.le_refl _) _
  have hL1 : NUML w1 a L := fun hp => by
    obtain ⟨b, o, e, hlt, hcc⟩ := hL hp
    exact ⟨b, o, e, by omega, fun i x hx => (hb1.cell (p := ⟨b, o + i, none⟩) hlt).trans (hcc i x hx)⟩
  have hM : (MBOX N a m c an K cn) = #[.int .u64 (N : Int), .slice a m c, .slice an K cn] := rfl
  have cr := mustrise_ok L N a m c hl (by omega) w1 hL1
  have x0 := h1.cell 0
  have x1 := h1.cell 1
  have x2 := h1.cell 2
  rw [hM] at e1 x0 x1 x2
  have HA : Aside (L.length = m ∧ m < 2 ^ 20 ∧ m ≤ c ∧ (a = none → c = 0) ∧ (∀ x, a = some x → x.block < w.heap.size ∧ x.spot = none) ∧ K < 2 ^ 20 ∧ NUML w1 a L ∧ Tabled w1 ∧ w1.heap.size = w.heap.size + 1 ∧ Has w1 w.heap.size (MBOX N a m c an K cn) 32 ∧ Below w.heap.size w w1) := ⟨hl, hm, hc, hnil, hbl, hK, hL1, hT.below hw0 hb1, s1, h1, hb1⟩
  clear hl hm hc hnil hbl hK hL hT hw0 s1 hb1 hL1
  go_enter Tryd.func35, Tryd.ntmps35
  rw [hM]
  go_wp2_with fail
  refine cr.mono ?_
  rintro e w2 ⟨rfl, (⟨hr, rfl⟩ | ⟨hr, rfl⟩)⟩
  · clear cr
    obtain ⟨r1, r2, r3⟩ := RISEA_ok hr
    obtain ⟨w3, e3⟩ : ∃ w3, w1.alloc (.cells #[.int .i64 (K : Int)] 3) = w3 := ⟨_, rfl⟩
    have s3 : w3.heap.size = w.heap.size + 2 := by rw [← e3]; simp; have := HA.out.2.2.2.2.2.2.2.2.1; omega
    have h3 : Has w3 w1.heap.size #[.int .i64 (K : Int)] 3 := by rw [← e3]; exact Has.new w1 _ _
    have hb3 : Below w1.heap.size w1 w3 := by rw [← e3]; exact (Below.refl _ _).alloc (Nat.le_refl _) _
    have y0 : w3.cell? ⟨w.heap.size, 0, none⟩ = some (.int .u64 (N : Int)) := (h1.keep hb3).cell 0
    have y1 : w3.cell? ⟨w.heap.size, 1, none⟩ = some (.slice a m c) := (h1.keep hb3).cell 1
    obtain ⟨bj, hbj, hbn⟩ : ∃ bj, (∀ x, a = some x → x.block = bj ∧ x.spot = none) ∧ bj ≠ w1.heap.size := by
      have hs := HA.out.2.2.2.2.2.2.2.2.1
      cases a with
      | none => exact ⟨w1.heap.size + 1, fun x e => (by cases e), by omega⟩
      | some x => exact ⟨x.block, fun y e => (by cases e; exact ⟨rfl, (HA.out.2.2.2.2.1 x rfl).2⟩), by have := (HA.out.2.2.2.2.1 x rfl).1; omega⟩
    have hL3 : NUML w3 a L := fun hp => by
      obtain ⟨b, o, e, hlt, hcc⟩ := HA.out.2.2.2.2.2.2.1 hp
      exact ⟨b, o, e, Nat.lt_of_lt_of_le hlt hb3.size, fun i x hx => (hb3.cell (p := ⟨b, o + i, none⟩) hlt).trans (hcc i x hx)⟩
    have cn := needE_ok bj w1.heap.size (fun w0 acc w => COUNTING K w0 w w1.heap.size acc) (fun w0 acc w => acc.length = K ∧ COUNTING K w0 w w1.heap.size acc) (WRONG 70) (fun w0 acc w w' h hb => h.still hb) (fun w0 acc w h => ⟨fun b hb hne => h.keep b hb hne, h.below.size⟩) (fun w0 acc p w h _ => (count_ok HA.out.2.2.2.2.2.1 h (p : Int)).mono fun e w' hh => hh.imp (fun x => ⟨x.1, x.2 p⟩) (fun x => ⟨x.1, x.2⟩)) N r1 L a m c w3 HA.out.1 HA.out.2.1 r2 HA.out.2.2.1 HA.out.2.2.2.1 hbj hL3 hbn h3.lt (HA.out.2.2.2.2.2.2.2.1.below (by have := HA.out.2.2.2.2.2.2.2.2.1; omega) hb3)
      (fun w4 hb => ⟨Nat.zero_le _, h3.keep hb, fun b _ _ => rfl, (h3.keep hb).lt, Below.refl _ _⟩)
    have HR : Aside (RISEA L N = 0 ∧ Below w1.heap.size w1 w3 ∧ K < 2 ^ 20) := ⟨hr, hb3, HA.out.2.2.2.2.2.1⟩
    have BW : Aside (Below w.heap.size w w1) := HA.out.2.2.2.2.2.2.2.2.2.2
    clear r1 r2 r3 hbj hbn hr hL3 s3 h3 HA h1 hb3
    go_wp2_with fail
    refine cn.mono ?_
    rintro e w5 ⟨w4, hb4, (⟨rfl, ht⟩ | ⟨pre, p, hpre, rfl, hp1, hp2⟩)⟩
    · clear cn
      rw [List.nil_append] at ht
      have z0 := ht.row.cell 0
      obtain ⟨r, hrr⟩ : ∃ r, K - (NEEDS (TPS N) L).length = r := ⟨_, rfl⟩
      rw [hrr] at z0
      have z0 : w5.cell? ⟨w1.heap.size, 0, none⟩ = some (.int .i64 (r : Int)) := z0
      have hbW : Below w.heap.size w w5 := by
        have h34 : Below w1.heap.size w1 w4 := HR.out.2.1.trans (hb4.mono HR.out.2.1.size)
        have h1w : Below w.heap.size w w4 := BW.out.trans (h34.mono BW.out.size)
        exact h1w.trans (ht.below.mono BW.out.size)
      have hle := ht.le
      rcases Nat.eq_zero_or_pos r with h0 | h0
      · subst h0
        have FN : Aside (WHOLE L N K w (.returned (.tuple #[])) w5) := ⟨hbW, .inl ⟨MWA_yes HR.out.1 (by omega), rfl⟩⟩
        clear ht hbW hb4 hle hrr HR BW
        go_wp2_with fail
        exact bodyPost_end (v := .tuple #[]) (by simp [results, Tryd.f35]) rfl FN.out
      · have hgt : (0 : Int) < (r : Int) := by omega
        have hm7 := MWA_count (K := K) HR.out.1 (by omega)
        have FN : Aside (WHOLE L N K w (.panicked (WRONG 70)) w5) := ⟨hbW, .inr ⟨by rw [hm7]; decide, by rw [hm7]⟩⟩
        clear ht hbW hb4 hle hrr HR BW hm7
        go_wp2_with fail
        exact ⟨rfl, FN.out⟩
    · have hbW : Below w.heap.size w w5 := by
        have h34 : Below w1.heap.size w1 w4 := HR.out.2.1.trans (hb4.mono HR.out.2.1.size)
        have h1w : Below w.heap.size w w4 := BW.out.trans (h34.mono BW.out.size)
        exact h1w.trans (hp2.below.mono BW.out.size)
      have hlen := hpre.length_le
      rw [List.nil_append, List.length_append, hp1] at hlen
      have hm7 := MWA_count (K := K) HR.out.1 (by simp at hlen; omega)
      exact ⟨rfl, hbW, .inr ⟨by rw [hm7]; decide, by rw [hm7]⟩⟩
  · refine ⟨rfl, HA.out.2.2.2.2.2.2.2.2.2.2, .inr ⟨?_, ?_⟩⟩
    · rw [MWA_rise hr]; exact hr
    · rw [MWA_rise hr]
end Go.Proofs.YtmpaifkjlhodpaaDoor

/- face of package many, with the doing of Encode. -/
namespace Go.Proofs.YtmpaifkjlhodpaaDoor
open Go.RowKit
set_option maxRecDepth 100000

set_option maxHeartbeats 1000000 in
theorem faceE_ok (b0 b1 : Nat) (w : World) (G : World → Prop) (B : Int → World → Prop)
    (hdo : Calls Tryd.prog 34 #[.pointer (some ⟨b0, 0, none⟩), .pointer (some ⟨b1, 0, none⟩)] (w.alloc (.cells #[.int .i64 0] 25)) fun e w' => (e = .returned (.tuple #[]) ∧ G w') ∨ ∃ x, e = .panicked (WRONG x) ∧ B x w')
    (hG : ∀ w', G w' → Has w' w.heap.size #[.int .i64 0] 25) (hB : ∀ x w', B x w' → Has w' w.heap.size #[.int .i64 0] 25) :
    Calls Tryd.prog 26 #[.func (.func 34) #[] #[.pointer (some ⟨b0, 0, none⟩), .pointer (some ⟨b1, 0, none⟩)]] w (FACED w G B) := by
  have hmf : ∀ (fn : Fn) (first cap : Array Value) (w : World), (Instr.makeFunc fn first cap).run Tryd.prog w = .ok (.func fn first cap) w := fun _ _ _ _ => rfl
  have HG : Aside (∀ w', G w' → Has w' w.heap.size #[.int .i64 0] 25) := hG
  have HB : Aside (∀ x w', B x w' → Has w' w.heap.size #[.int .i64 0] 25) := hB
  clear hG hB
  go_enter_defers Tryd.func26, Tryd.ntmps26
  go_wp2_with fail
  refine hdo.mono ?_
  rintro e w1 (⟨rfl, h1⟩ | ⟨x, rfl, h1⟩)
  · clear hdo
    have hh := HG.out w1 h1
    have c0 := hh.cell 0
    have f0 := hh.frozen 0
    have G1 : Aside (G w1) := h1
    clear h1
    go_wp2_with fail
    refine leaves_cons (f := 45) (args := #[.pointer (some ⟨w.heap.size, 0, none⟩)]) (by simp) (by simp [go_sem]) ?_
    refine (catch_idle ⟨w.heap.size, 0, none⟩ _).mono ?_
    rintro e u' w'' ⟨rfl, rfl, rfl⟩
    have c1 := (hh.set 0 (.int .i64 0)).cell 0
    simp [Leaves, settle, results, Tryd.results26, go_sem, c1]
    exact .inl ⟨rfl, w1, G1.out, rfl⟩
  · have hh := HB.out x w1 h1
    have c0 := hh.cell 0
    have f0 := hh.frozen 0
    refine leaves_cons (f := 45) (args := #[.pointer (some ⟨w.heap.size, 0, none⟩)]) (by simp) (by simp [go_sem]) ?_
    refine (catch_panicking ⟨w.heap.size, 0, none⟩ 0 x [] w1 c0 f0).mono ?_
    rintro e u' w'' ⟨rfl, rfl, rfl⟩
    have c1 := (hh.set 0 (.int .i64 x)).cell 0
    simp [Leaves, settle, results, Tryd.results26, go_sem, c1]
    exact .inr ⟨x, w1, rfl, h1, rfl⟩
end Go.Proofs.YtmpaifkjlhodpaaDoor

/- Encode of package many. -/
namespace Go.Proofs.YtmpaifkjlhodpaaDoor
open Go.RowKit
set_option maxRecDepth 100000

/-- what Encode answers. -/
def MENC (L : List Nat) (N K : Nat) (l : List Int) : Int × List Int := if MWA L N K = 0 then (0, MWRT L N l) else (MWA L N K, [])
theorem own_cut {w : World} {B s n : Nat} {t : TypeId} {v : Value} {xs : List Value} (h : w.ownsRow B t s v n xs) : ∃ a c, v = .slice a n c := by
  rcases h.2 with ⟨e, h0⟩ | ⟨g, cap, cur, e, _⟩
  · exact ⟨none, 0, by rw [e, h0]⟩
  · exact ⟨_, _, e⟩
/-- what the doing of Encode leaves. -/
structure ENCD (w w' : World) (b1 : Nat) (Z : List Int) : Prop where
  row : ∃ v, Has w' b1 #[v] 35 ∧ w'.ownsRow w.heap.size 5 1 v Z.length (CELLS Z)
  keep : ∀ b, b < w.heap.size → b ≠ b1 → w'.heap[b]? = w.heap[b]?
  below : Below b1 w w'
set_option maxHeartbeats 2000000 in
theorem encodedo_ok (L : List Nat) (N : Nat) (a : Option Addr) (m c : Nat) (an : Option Addr) (K cn : Nat) (l : List Int) (b0 b1 : Nat) (w : World) (hl : L.length = m) (hm : m < 2 ^ 20) (hc : m ≤ c) (hnil : a = none → c = 0) (hbl : ∀ x, a = some x → x.block < w.heap.size ∧ x.spot = none) (hK : K < 2 ^ 20) (hL : NUML w a L) (hF : Flat w an K l) (hT : Tabled w) (hw0 : 0 < w.heap.size)
    (h0 : Has w b0 (MBOX N a m c an K cn) 32) (h1 : Has w b1 #[.slice none 0 0] 35) :
    Calls Tryd.prog 34 #[.pointer (some ⟨b0, 0, none⟩), .pointer (some ⟨b1, 0, none⟩)] w fun e w' =>
      (e = .returned (.tuple #[]) ∧ (MWA L N K = 0 ∧ ENCD w w' b1 (MWRT L N l))) ∨ ∃ x, e = .panicked (WRONG x) ∧ (x = MWA L N K ∧ x ≠ 0 ∧ Below w.heap.size w w') := by
  have cm := mustwhole_ok L N a m c an K cn w hl hm hc hnil hbl hK hL hT hw0
  have hM : (MBOX N a m c an K cn) = #[.int .u64 (N : Int), .slice a m c, .slice an K cn] := rfl
  have x0 : w.cell? ⟨b0, 0, none⟩ = some (.int .u64 (N : Int)) := h0.cell 0
  have x1 : w.cell? ⟨b0, 1, none⟩ = some (.slice a m c) := h0.cell 1
  have x2 : w.cell? ⟨b0, 2, none⟩ = some (.slice an K cn) := h0.cell 2
  have HA : Aside (L.length = m ∧ m < 2 ^ 20 ∧ K < 2 ^ 20 ∧ NUML w a L ∧ Flat w an K l ∧ Has w b0 (MBOX N a m c an K cn) 32 ∧ Has w b1 #[.slice none 0 0] 35) := ⟨hl, hm, hK, hL, hF, h0, h1⟩
  clear hl hm hc hnil hbl hK hL hF hT hw0 h0 h1
  rw [hM] at cm
  go_enter Tryd.func34, Tryd.ntmps34
  go_wp2_with fail
  refine cm.mono ?_
  rintro e w1 ⟨hb1, (⟨hr, rfl⟩ | ⟨hr, rfl⟩)⟩
  · clear cm x0 x1 x2
    obtain ⟨q1, q2⟩ := MWA_ok hr
    obtain ⟨r1, r2, r3⟩ := RISEA_ok q1
    have k0 := HA.out.2.2.2.2.2.1.keep hb1
    have x0 : w1.cell? ⟨b0, 0, none⟩ = some (.int .u64 (N : Int)) := k0.cell 0
    have x1 : w1.cell? ⟨b0, 1, none⟩ = some (.slice a m c) := k0.cell 1
    have x2 : w1.cell? ⟨b0, 2, none⟩ = some (.slice an K cn) := k0.cell 2
    have cw := manywritten_ok L N (by omega) a m c an K cn l w1 HA.out.1 HA.out.2.1 HA.out.2.2.1 r2 (fun x hx => by have := r3 x hx; omega) (fun hp => by
      obtain ⟨b, o, e, hlt, hcc⟩ := HA.out.2.2.2.1 hp
      exact ⟨b, o, e, Nat.lt_of_lt_of_le hlt hb1.size, fun i x hx => (hb1.cell (p := ⟨b, o + i, none⟩) hlt).trans (hcc i x hx)⟩) (HA.out.2.2.2.2.1.below hb1)
    rw [hM] at cw
    have HR : Aside (MWA L N K = 0 ∧ Below w.heap.size w w1) := ⟨hr, hb1⟩
    clear hr q1 q2 r1 r2 r3 hb1 k0
    go_wp2_with fail
    refine cw.mono ?_
    rintro e w2 ⟨v, rfl, hown, hb2⟩
    clear cw x0 x1 x2
    obtain ⟨av, cv, rfl⟩ := own_cut hown
    generalize hvv : Value.slice av (MWRT L N l).length cv = v at *
    have hw2 : Below w.heap.size w w2 := HR.out.2.trans (hb2.mono HR.out.2.size)
    have k1 := HA.out.2.2.2.2.2.2.keep hw2
    have c1 := k1.cell 0
    have f1 := k1.frozen 0
    have FN : Aside (ENCD w (w2.setCell ⟨b1, 0, none⟩ v) b1 (MWRT L N l)) := by
      have hlt := HA.out.2.2.2.2.2.2.lt
      refine ⟨⟨v, k1.set 0 v, own_mono (ownsRow_setCell_below hown (a := ⟨b1, 0, none⟩) (by show b1 < w1.heap.size; have := HR.out.2.size; omega) _) HR.out.2.size⟩, fun b hb hne => (Below.heap_setCell _ _ _ _ (by exact hne)).trans (hw2.block b hb), ?_⟩
      exact (hw2.mono (Nat.le_of_lt hlt)).setCell (p := ⟨b1, 0, none⟩) (Nat.le_refl _) _
    subst hvv
    clear hown hb2 hw2 k1 HA
    go_wp2_with fail
    exact bodyPost_end (v := .tuple #[]) (by simp [results, Tryd.f34]) rfl (.inl ⟨rfl, HR.out.1, FN.out⟩)
  · exact ⟨rfl, .inr ⟨_, rfl, rfl, hr, hb1⟩⟩
/-- what is answered: an error and bytes. -/
def ANSY (w : World) (A : Int × List Int) (e : Ending) (w' : World) : Prop := ∃ a c, e = .returned (.tuple #[.slice a A.2.length c, .int .i64 A.1]) ∧ w'.ownsRow w.heap.size 5 1 (.slice a A.2.length c) A.2.length (CELLS A.2) ∧ Below w.heap.size w w'
set_option maxHeartbeats 2000000 in
theorem manyencode_ok (L : List Nat) (N : Nat) (a : Option Addr) (m c : Nat) (an : Option Addr) (K cn : Nat) (l : List Int) (w : World) (hl : L.length = m) (hm : m < 2 ^ 20) (hc : m ≤ c) (hnil : a = none → c = 0) (hbl : ∀ x, a = some x → x.block < w.heap.size ∧ x.spot = none) (hK : K < 2 ^ 20) (hL : NUML w a L) (hF : Flat w an K l) (hT : Tabled w) (hw0 : 0 < w.heap.size) :
    Calls Tryd.prog 15 #[.agg (MBOX N a m c an K cn)] w (ANSY w (MENC L N K l)) := by
  have hmf : ∀ (fn : Fn) (first cap : Array Value) (w : World), (Instr.makeFunc fn first cap).run Tryd.prog w = .ok (.func fn first cap) w := fun _ _ _ _ => rfl
  obtain ⟨w1, e1⟩ : ∃ w1, w.alloc (.cells (MBOX N a m c an K cn) 32) = w1 := ⟨_, rfl⟩
  obtain ⟨w3, e3⟩ : ∃ w3, w1.alloc (.cells #[.slice none 0 0] 35) = w3 := ⟨_, rfl⟩
  obtain ⟨w4, e4⟩ : ∃ w4, w3.alloc (.cells #[.int .i64 0] 25) = w4 := ⟨_, rfl⟩
  have s1 : w1.heap.size = w.heap.size + 1 := by rw [← e1]; simp
  have s3 : w3.heap.size = w.heap.size + 2 := by rw [← e3]; simp; omega
  have s4 : w4.heap.size = w.heap.size + 3 := by rw [← e4]; simp; omega
  have hb4 : Below w.heap.size w w4 := by
    rw [← e4, ← e3, ← e1]
    exact (((Below.refl _ _).alloc (Nat.le_refl _) _).alloc (by simp) _).alloc (by simp; omega) _
  have h0 : Has w4 w.heap.size (MBOX N a m c an K cn) 32 := by
    rw [← e4, ← e3, ← e1]
    exact ((Has.new w _ _).alloc _).alloc _
  have h1 : Has w4 w1.heap.size #[.slice none 0 0] 35 := by
    rw [← e4, ← e3]
    exact (Has.new w1 _ _).alloc _
  have h3 : Has w4 w3.heap.size #[.int .i64 0] 25 := by
    rw [← e4]
    exact Has.new w3 _ _
  have hL4 : NUML w4 a L := fun hp => by
    obtain ⟨b, o, e, hlt, hcc⟩ := hL hp
    exact ⟨b, o, e, by omega, fun i x hx => (hb4.cell (p := ⟨b, o + i, none⟩) hlt).trans (hcc i x hx)⟩
  have cd := encodedo_ok L N a m c an K cn l w.heap.size w1.heap.size w4 hl hm hc hnil (fun x e => ⟨by have := (hbl x e).1; omega, (hbl x e).2⟩) hK hL4 (hF.below hb4) (hT.below hw0 hb4) (by omega) h0 h1
  rw [← e4] at cd
  have cf := faceE_ok w.heap.size w1.heap.size w3 _ _ cd
    (fun w' ⟨_, ht⟩ => by
      rw [e4] at ht
      exact (ht.keep w3.heap.size (by omega) (by omega)).trans h3)
    (fun x w' ⟨_, _, hb⟩ => by rw [e4] at hb; exact h3.keep hb)
  rw [e4] at cf
  have FIN : Aside (∀ e w', FACED w3 (fun w' => MWA L N K = 0 ∧ ENCD w4 w' w1.heap.size (MWRT L N l)) (fun x w' => x = MWA L N K ∧ x ≠ 0 ∧ Below w4.heap.size w4 w') e w' → e = .returned (.int .i64 (MENC L N K l).1) ∧ Below w.heap.size w w' ∧ ∃ a' c', Has w' w1.heap.size #[.slice a' (MENC L N K l).2.length c'] 35 ∧ w'.ownsRow w.heap.size 5 1 (.slice a' (MENC L N K l).2.length c') (MENC L N K l).2.length (CELLS (MENC L N K l).2)) := by
    rintro e w' (⟨rfl, wx, ⟨hr, ht⟩, rfl⟩ | ⟨x, wx, rfl, ⟨rfl, hx, hbx⟩, rfl⟩)
    · have hP : MENC L N K l = (0, MWRT L N l) := if_pos hr
      obtain ⟨v, hv, hown⟩ := ht.row
      obtain ⟨a', c', rfl⟩ := own_cut hown
      rw [hP]
      refine ⟨rfl, ?_, a', c', ?_, ?_⟩
      · exact ((hb4.trans (ht.below.mono (by omega)))).setCell (by show w.heap.size ≤ w3.heap.size; omega) _
      · exact hv.other (by show w1.heap.size ≠ w3.heap.size; omega) _
      · exact own_mono (ownsRow_setCell_below hown (a := ⟨w3.heap.size, 0, none⟩) (by show w3.heap.size < w4.heap.size; omega) _) (by omega)
    · have hP : MENC L N K l = (MWA L N K, []) := if_neg hx
      rw [hP]
      refine ⟨rfl, (hb4.trans (hbx.mono hb4.size)).setCell (by show w.heap.size ≤ w3.heap.size; omega) _, none, 0, ?_, ?_⟩
      · exact (h1.keep hbx).other (by show w1.heap.size ≠ w3.heap.size; omega) _
      · exact ⟨rfl, .inl ⟨rfl, rfl⟩⟩
  have hM : (MBOX N a m c an K cn) = #[.int .u64 (N : Int), .slice a m c, .slice an K cn] := rfl
  rw [hM] at e1
  clear cd h0 h1 h3 hL4 hb4 hl hm hc hnil hbl hL hF hT s1 s3 s4 e4 hw0 hK
  generalize MENC L N K l = A at *
  go_enter Tryd.func15, Tryd.ntmps15
  rw [hM]
  go_wp2_with fail
  refine cf.mono ?_
  intro e w5 hh
  obtain ⟨rfl, hb5, a', c', hv, hown⟩ := FIN.out e w5 hh
  have x0 := hv.cell 0
  have FN : Aside (ANSY w A (.returned (.tuple #[.slice a' A.2.length c', .int .i64 A.1])) w5) := ⟨a', c', rfl, hown, hb5⟩
  clear hh hb5 hv hown FIN cf
  go_wp2_with fail
  go_ret2
  exact FN.out
end Go.Proofs.YtmpaifkjlhodpaaDoor

/- massiflaw10.awake: what two leaves of seven need; the bytes of a proof. -/
namespace Go.Proofs.YtmpaifkjlhodpaaDoor
open Go.RowKit
set_option maxRecDepth 100000

/-- the hash 7 0 0 .. -/
def H7 : List Int := 7 :: List.replicate 31 0
theorem H7_arr : (CELLS H7).toArray = #[.int .u8 7, .int .u8 0, .int .u8 0, .int .u8 0, .int .u8 0, .int .u8 0, .int .u8 0, .int .u8 0, .int .u8 0, .int .u8 0, .int .u8 0, .int .u8 0, .int .u8 0, .int .u8 0, .int .u8 0, .int .u8 0, .int .u8 0, .int .u8 0, .int .u8 0, .int .u8 0, .int .u8 0, .int .u8 0, .int .u8 0, .int .u8 0, .int .u8 0, .int .u8 0, .int .u8 0, .int .u8 0, .int .u8 0, .int .u8 0, .int .u8 0, .int .u8 0] := rfl
theorem PLCA_awake : PLCA [1, 2] 7 = [0, 4, 9, 10] := by decide +kernel
theorem RISEA_awake : RISEA [1, 2] 7 = 0 := by decide +kernel
theorem MENC_awake : MENC [0, 2] 3 1 H7 = (0, 78 :: 3 :: 2 :: 0 :: 1 :: H7) := by decide +kernel
theorem lit_two (w : World) (x y : Nat) : NUML (w.alloc (.cells #[.int .u64 (x : Int), .int .u64 (y : Int)] 23)) (some ⟨w.heap.size, 0, none⟩) [x, y] := fun _ => by
  refine ⟨w.heap.size, 0, rfl, by simp, fun i z hz => ?_⟩
  have h := (Has.new w #[.int .u64 (x : Int), .int .u64 (y : Int)] 23).cell (0 + i)
  rw [h, Nat.zero_add]
  match i with
  | 0 => simp at hz; subst hz; rfl
  | 1 => simp at hz; subst hz; rfl
  | i + 2 => simp at hz
theorem own_some {w : World} {B s n c : Nat} {t : TypeId} {a : Option Addr} {xs : List Value} (h : w.ownsRow B t s (.slice a n c) n xs) (hn : 0 < n) : ∃ g, a = some ⟨g, 0, none⟩ := by
  rcases h.2 with ⟨e, h0⟩ | ⟨g, cap, cur, e, _⟩
  · omega
  · simp only [Value.slice.injEq] at e
    exact ⟨g, e.1⟩
theorem flat_seven (w : World) : Flat (w.alloc (.cells (CELLS H7).toArray 57)) (some ⟨w.heap.size, 0, none⟩) 1 H7 := by
  refine ⟨rfl, fun _ => ⟨w.heap.size, 0, rfl, by simp, fun j hj => ?_⟩, by decide⟩
  rw [(Has.new w (CELLS H7).toArray 57).cell (0 + j), Nat.zero_add, List.getElem?_toArray]
  exact CELLS_get H7 j hj
set_option maxHeartbeats 2000000 in
theorem awake10_ok (w : World) (hT : Tabled w) (h0 : 0 < w.heap.size) : Calls Tryd.prog 12 #[] w fun e w' => e = .returned (.bool true) ∧ Below w.heap.size w w' := by
  obtain ⟨w1, e1⟩ : ∃ w1, w.alloc (.cells #[.int .u64 1, .int .u64 2] 23) = w1 := ⟨_, rfl⟩
  have hb1 : Below w.heap.size w w1 := by rw [← e1]; exact (Below.refl _ _).alloc (Nat.le_refl _) _
  have s1 : w1.heap.size = w.heap.size + 1 := by rw [← e1]; simp
  have cp := manyplaces_ok [1, 2] 7 (some ⟨w.heap.size, 0, none⟩) 2 2 w1 rfl (by decide) (by decide) (fun h => by cases h) (fun x e => by cases e; exact ⟨by show w.heap.size < w1.heap.size; omega, rfl⟩) (by rw [← e1]; exact lit_two w 1 2) (hT.below h0 hb1) (by omega)
  rw [PLCA_awake, RISEA_awake] at cp
  have B1 : Aside (Below w.heap.size w w1 ∧ Tabled w ∧ 0 < w.heap.size) := ⟨hb1, hT, h0⟩
  clear hb1 s1 hT h0
  go_enter Tryd.func12, Tryd.ntmps12
  go_wp2_with fail
  refine cp.mono ?_
  rintro e w2 ⟨a2, c2, rfl, hown2, hb2⟩
  clear cp e1
  have R2 : Aside (w2.ownsRow w1.heap.size 23 1 (.slice a2 4 c2) 4 (UCELLS [0, 4, 9, 10]) ∧ Below w.heap.size w w2) := ⟨hown2, B1.out.1.trans (hb2.mono B1.out.1.size)⟩
  clear hown2 hb2
  obtain ⟨w3, e3⟩ : ∃ w3, w2.alloc (.cells #[.int .u64 0, .int .u64 2] 23) = w3 := ⟨_, rfl⟩
  have s3 : w3.heap.size = w2.heap.size + 1 := by rw [← e3]; simp
  obtain ⟨w4, e4⟩ : ∃ w4, w3.alloc (.cells (CELLS H7).toArray 57) = w4 := ⟨_, rfl⟩
  have hb3 : Below w2.heap.size w2 w3 := by rw [← e3]; exact (Below.refl _ _).alloc (Nat.le_refl _) _
  have hb4' : Below w3.heap.size w3 w4 := by rw [← e4]; exact (Below.refl _ _).alloc (Nat.le_refl _) _
  have hb4 : Below w2.heap.size w2 w4 := hb3.trans (hb4'.mono hb3.size)
  have hbw4 : Below w.heap.size w w4 := R2.out.2.trans (hb4.mono R2.out.2.size)
  have hN4 : NUML w4 (some ⟨w2.heap.size, 0, none⟩) [0, 2] := by
    have h1 := lit_two w2 0 2
    have h2 : NUML w3 (some ⟨w2.heap.size, 0, none⟩) [0, 2] := by rw [← e3]; exact h1
    exact h2.below hb4' (fun x e => by cases e; show w2.heap.size < w3.heap.size; omega)
  have hF4 : Flat w4 (some ⟨w2.heap.size + 1, 0, none⟩) 1 H7 := by rw [← e4, ← s3]; exact flat_seven w3
  have ce := manyencode_ok [0, 2] 3 (some ⟨w2.heap.size, 0, none⟩) 2 2 (some ⟨w2.heap.size + 1, 0, none⟩) 1 1 H7 w4 rfl (by decide) (by decide) (fun h => by cases h) (fun x e => by cases e; exact ⟨by show w2.heap.size < w4.heap.size; have := hb4'.size; omega, rfl⟩) (by decide) hN4 hF4 (B1.out.2.1.below B1.out.2.2 hbw4) (by have := B1.out.2.2; have := hbw4.size; omega)
  rw [MENC_awake] at ce
  rw [H7_arr] at e4
  have hM : MBOX 3 (some ⟨w2.heap.size, 0, none⟩) 2 2 (some ⟨w2.heap.size + 1, 0, none⟩) 1 1 = #[.int .u64 3, .slice (some ⟨w2.heap.size, 0, none⟩) 2 2, .slice (some ⟨w2.heap.size + 1, 0, none⟩) 1 1] := rfl
  rw [hM] at ce
  have R4 : Aside (w4.ownsRow w1.heap.size 23 1 (.slice a2 4 c2) 4 (UCELLS [0, 4, 9, 10]) ∧ Below w.heap.size w w4) := ⟨own_below R2.out.1 hb4, hbw4⟩
  clear hM hb3 hb4' hb4 hbw4 hN4 hF4 R2 B1
  go_wp2_with fail
  refine ce.mono ?_
  rintro e w5 ⟨a5, c5, rfl, hown5, hb5⟩
  clear ce e3 e4
  have o2 := own_below R4.out.1 hb5
  obtain ⟨g2, rfl⟩ := own_some o2 (by decide)
  obtain ⟨g5, rfl⟩ := own_some hown5 (by decide)
  have y0 : w5.cell? ⟨g2, 0, none⟩ = some (.int .u64 0) := o2.cellAt 0 (by decide)
  have y1 : w5.cell? ⟨g2, 1, none⟩ = some (.int .u64 4) := o2.cellAt 1 (by decide)
  have y2 : w5.cell? ⟨g2, 2, none⟩ = some (.int .u64 9) := o2.cellAt 2 (by decide)
  have z0 : w5.cell? ⟨g5, 0, none⟩ = some (.int .u8 78) := hown5.cellAt 0 (by decide)
  have z4 : w5.cell? ⟨g5, 4, none⟩ = some (.int .u8 1) := hown5.cellAt 4 (by decide)
  have z5 : w5.cell? ⟨g5, 5, none⟩ = some (.int .u8 7) := hown5.cellAt 5 (by decide)
  have FN : Aside (Below w.heap.size w w5) := R4.out.2.trans (hb5.mono R4.out.2.size)
  have hlen : (78 :: 3 :: 2 :: 0 :: 1 :: H7).length = 37 := rfl
  rw [hlen]
  clear o2 hown5 hb5 R4 s3
  go_wp2_with fail
  go_ret
  exact ⟨rfl, FN.out⟩
end Go.Proofs.YtmpaifkjlhodpaaDoor

/- massiflaw10.numbers: the same numbers in a list of their own that goes on behind them. -/
namespace Go.Proofs.YtmpaifkjlhodpaaDoor
open Go.RowKit
set_option maxRecDepth 100000

/-- numbers are appended. -/
theorem app_nums {ops : Array Oper} {rest : List Oper} {o : Oper} {a : Act} {Q : Exit → Act → World → Prop} (w : World) (hgd : o.guard = none) (s x : Operand)
    (ho : o.op = .call { callee := .builtin .append, args := #[s, x], argTypes := #[22, 22] })
    (base : Nat) (v : Value) (n : Nat) (xs : List Value) (hs : a.eval s = v) (hown : w.ownsRow base 23 1 v n xs)
    (ad : Option Addr) (m c : Nat) (L : List Nat) (hx : a.eval x = .slice ad m c) (hL : NUML w ad L) (hl : L.length = m) (hc : ad = none → c = 0)
    (hb : n + m ≤ 2 ^ 30) (hbase : base ≤ w.heap.size)
    (hh : ∀ a' c' w', w'.ownsRow base 23 1 (.slice a' (n + m) c') (n + m) (xs ++ UCELLS L) → w.grownBy w' v.ownBlock → wpList Tryd.prog ops Q rest (a.put o.dst (.slice a' (n + m) c')) w') : wpList Tryd.prog ops Q (o :: rest) a w := by
  obtain ⟨i, hi, hz, hs1, hby⟩ := info_parts info_u64
  cases ad with
  | none =>
    obtain rfl := hc rfl
    have hL0 : L = [] := by
      cases L with
      | nil => rfl
      | cons y l =>
        obtain ⟨b, o', e, _⟩ := hL (by simp)
        cases e
    subst hL0
    obtain rfl : m = 0 := by simpa using hl.symm
    refine wpList_append_own_none hgd s x 22 ho base 23 i 1 Tryd.underlying22 hi v n xs hs hown hx ?_
    obtain ⟨a', c', rfl⟩ := own_sliced hown
    have := hh a' c' w (by simpa [UCELLS] using hown) ⟨rfl, rfl, rfl, Nat.le_refl _, fun _ _ _ => rfl⟩
    simpa using this
  | some ad =>
    have hcells : ∀ j u, (UCELLS L)[j]? = some u → w.cell? (ad.add j) = some u := by
      intro j u hu
      have hj : j < L.length := by have := (List.getElem?_eq_some_iff.1 hu).1; rwa [UCELLS_length] at this
      obtain ⟨g, o', e, _, hr⟩ := hL (by omega)
      cases e
      rw [Addr.add_mid, hr j _ (List.getElem?_eq_getElem hj)]
      rw [UCELLS, List.getElem?_map, List.getElem?_eq_getElem hj] at hu
      exact hu
    refine wpList_append_own w hgd s x 22 ho base 23 i (.int .u64 0) 1 8 Tryd.underlying22 hi hz hs1 hby rfl (by decide) v n xs hs hown ad m c (UCELLS L) hx (by rw [UCELLS_length]; omega) hcells (fun u hu => by
      obtain ⟨y, _, rfl⟩ := List.mem_map.1 hu
      rfl) (by simp only [maxLen]; omega) (by omega) hbase ?_
    intro v' w' h1 h2 _
    obtain ⟨a', c', rfl⟩ := own_sliced h1
    exact hh a' c' w' h1 h2
theorem own_nothing (w : World) : (w.alloc (.cells #[] 23)).ownsRow w.heap.size 23 1 (.slice (some ⟨w.heap.size, 0, none⟩) 0 0) 0 [] :=
  World.ownsRow_lit w #[] 0 (Nat.le_refl _) (by simp [maxLen]) rfl
theorem own_frontn {w : World} {base g n cap : Nat} {L : List Nat} {x : Nat} (hl : L.length = n) (h : w.ownsRow base 23 1 (.slice (some ⟨g, 0, none⟩) (n + 1) cap) (n + 1) (UCELLS (L ++ [x]))) : w.ownsRow base 23 1 (.slice (some ⟨g, 0, none⟩) n cap) n (UCELLS L) ∧ n + 1 ≤ cap ∧ w.cell? ⟨g, n, none⟩ = some (.int .u64 (x : Int)) ∧ g < w.heap.size := by
  have hr : w.cell? ⟨g, n, none⟩ = some (.int .u64 (x : Int)) := by
    rw [h.cellAt n (by omega), UCELLS_snoc, List.getElem?_append_right (by rw [UCELLS_length]; omega), UCELLS_length, hl, Nat.sub_self]
    rfl
  rcases h.2 with ⟨e, _⟩ | ⟨g', cap', cur, e, hb, hg, h1, h2, h3, h4⟩
  · cases e
  · cases e
    refine ⟨⟨by rw [UCELLS_length, hl, Nat.mul_one], .inr ⟨g, cap, cur, rfl, hb, hg, by omega, h2, h3, ?_⟩⟩, h1, hr, (Array.getElem?_eq_some_iff.1 hg).1⟩
    have h5 := congrArg (List.take (n * 1)) h4
    rw [List.take_take, show min (n * 1) ((n + 1) * 1) = n * 1 by omega] at h5
    rw [h5, UCELLS_snoc, List.take_left' (by rw [UCELLS_length, hl, Nat.mul_one])]
/-- what numbers answers. -/
structure NUMD (w w' : World) (g n cap : Nat) (L : List Nat) : Prop where
  own : w'.ownsRow w.heap.size 23 1 (.slice (some ⟨g, 0, none⟩) n cap) n (UCELLS L)
  room : n + 1 ≤ cap
  mark : w'.cell? ⟨g, n, none⟩ = some (.int .u64 171)
  lt : g < w'.heap.size
  base : w.heap.size ≤ g
  below : Below w.heap.size w w'
theorem NUMD.lies {w w' : World} {g n cap : Nat} {L : List Nat} (h : NUMD w w' g n cap L) (hl : L.length = n) : NUML w' (some ⟨g, 0, none⟩) L := fun _ => ⟨g, 0, rfl, h.lt, fun i x hx => by
  have hi : i < L.length := (List.getElem?_eq_some_iff.1 hx).1
  rw [Nat.zero_add, h.own.cellAt i (by omega), UCELLS, List.getElem?_map, hx]
  rfl⟩
set_option maxHeartbeats 1000000 in
theorem numbers10_ok (a : Option Addr) (n c : Nat) (L : List Nat) (hl : L.length = n) (hn : n < 2 ^ 20) (hc : a = none → c = 0) (w : World) (hL : NUML w a L) : Calls Tryd.prog 6 #[.slice a n c] w fun e w' => ∃ g cap, e = .returned (.slice (some ⟨g, 0, none⟩) n cap) ∧ NUMD w w' g n cap L := by
  have HA : Aside (L.length = n ∧ n < 2 ^ 20 ∧ (a = none → c = 0) ∧ NUML w a L) := ⟨hl, hn, hc, hL⟩
  clear hl hn hc hL
  go_enter Tryd.func6, Tryd.ntmps6
  go_wp2_with (first
    | (at_builtin; refine app_nums _ rfl (.tmp 3) (.tmp 4) rfl w.heap.size (.slice (some ⟨w.heap.size, 0, none⟩) 0 0) 0 [] rfl (own_nothing w) a n c L rfl (fun hp => by
         obtain ⟨b, o, e, hlt, hcc⟩ := HA.out.2.2.2 hp
         exact ⟨b, o, e, by simp; omega, fun i x hx => (((Below.refl w.heap.size w).alloc (Nat.le_refl _) _).cell (p := ⟨b, o + i, none⟩) hlt).trans (hcc i x hx)⟩) HA.out.1 HA.out.2.2.1 (by have := HA.out.2.1; omega) (by simp) ?_; rw [Nat.zero_add, List.nil_append]; intro a1 c1 w1 hown1 hgrow1
       have R1 : Aside (w1.ownsRow w.heap.size 23 1 (.slice a1 n c1) n (UCELLS L) ∧ Below w.heap.size w w1) := ⟨hown1, ((Below.refl _ w).alloc (Nat.le_refl _) _).grown hgrow1 (by simp) (fun k e => by cases e; exact Nat.le_refl _)⟩
       clear hown1 hgrow1)
    | (at_builtin; refine app_num _ rfl (.tmp 5) (.tmp 6) rfl w.heap.size (.slice a1 n c1) n L rfl (R1.out.1.alloc _) w1.heap.size 1 171 rfl ((Has.new _ _ _).cell 0) (by have := HA.out.2.1; omega) (by have := R1.out.2.size; simp; omega) ?_; intro g2 c2 w2 hown2 hgrow2 hg2
       obtain ⟨f1, f2, f3, f4⟩ := own_frontn HA.out.1 hown2
       have hcap : (n : Int) ≤ (c2 : Int) := by omega
       have R2 : Aside (NUMD w w2 g2 n c2 L) := ⟨f1, f2, f3, f4, (f1.lt g2 rfl).1, (R1.out.2.alloc R1.out.2.size _).grown hgrow2 (by have := R1.out.2.size; simp; omega) (fun k e => (R1.out.1.lt k e).1)⟩
       clear hown2 hgrow2 hg2 f1 f2 f3 f4))
  go_ret
  exact ⟨_, _, rfl, R2.out⟩
end Go.Proofs.YtmpaifkjlhodpaaDoor
