/- Texts of ManyClimbs, one behind the other: ManyWhole, ManyFaceE, ManyEncode, NumLongCalls, NumLongPlain, ProofMark, ProofHashPlain, ProofHashes, ProofLong, ProofDecodePlain, ProofRoundPlain. -/
import Derived.Deep.RegionLaw
import Derived.Laws.CopyOwn
import Derived.Test.YtlicfinmibbpdaaGreatDoorManyClimbsP22
import Derived.Test.YtlicfinmibbpdaaGreatDoorManyClimbsP24
/- mustBeWhole of package many: it gives up where a proof has other leaves than there are, or other nodes than they need. -/
namespace Go.Proofs.YtlicfinmibbpdaaGreatDoor
open Go.RowKit
set_option maxRecDepth 100000

/-- the number in bl is how many of K are left behind acc. -/
structure COUNTING (K : Nat) (w0 w : World) (bl : Nat) (acc : List Nat) : Prop where
  le : acc.length ≤ K
  row : Has w bl #[.int .i64 ((K - acc.length : Nat) : Int)] 3
  keep : ∀ b, b < w0.heap.size → b ≠ bl → w.heap[b]? = w0.heap[b]?
  lt : bl < w0.heap.size
  below : Below bl w0 w
theorem COUNTING.still {K : Nat} {w0 w w' : World} {bl : Nat} {acc : List Nat} (h : COUNTING K w0 w bl acc) (hb : Below w.heap.size w w') : COUNTING K w0 w' bl acc := by
  have hs := h.below.size
  have hlt := h.lt
  exact ⟨h.le, h.row.keep hb, fun b hb0 hne => (hb.block b (by omega)).trans (h.keep b hb0 hne), hlt, h.below.trans (hb.mono (by omega))⟩
set_option maxHeartbeats 1000000 in
theorem count_ok {K : Nat} {w0 w : World} {bl : Nat} {acc : List Nat} (hK20 : K < 2 ^ 20) (hK : COUNTING K w0 w bl acc) (p : Int) : Calls Tryz.prog 68 #[.int .u64 p, .pointer (some ⟨bl, 0, none⟩)] w fun e w' => (e = .returned (.tuple #[]) ∧ ∀ x, COUNTING K w0 w' bl (acc ++ [x])) ∨ (e = .panicked (WRONG 70) ∧ acc.length = K ∧ COUNTING K w0 w' bl acc) := by
  obtain ⟨r, hr⟩ : ∃ r, K - acc.length = r := ⟨_, rfl⟩
  have c0 := hK.row.cell 0
  have f0 := hK.row.frozen 0
  rw [hr] at c0
  have c0 : w.cell? ⟨bl, 0, none⟩ = some (.int .i64 (r : Int)) := c0
  have HA : Aside (COUNTING K w0 w bl acc ∧ K - acc.length = r ∧ K < 2 ^ 20) := ⟨hK, hr, hK20⟩
  clear hK hr hK20
  rcases Nat.eq_zero_or_pos r with h0 | h0
  · subst h0
    go_enter Tryz.func68, Tryz.ntmps68
    go_wp2_with fail
    exact ⟨rfl, .inr ⟨rfl, by have := HA.out.1.le; have := HA.out.2.1; omega, HA.out.1⟩⟩
  · have hz : ((r : Int) == 0) = false := beq_eq_false_iff_ne.2 (by omega)
    have e1 : wrap64 ((r : Int) - 1) = ((r - 1 : Nat) : Int) := by have := HA.out.2.1; have := HA.out.2.2; unfold wrap64; omega
    have FN : Aside (∀ x, COUNTING K w0 (w.setCell ⟨bl, 0, none⟩ (.int .i64 ((r - 1 : Nat) : Int))) bl (acc ++ [x])) := fun x => by
      have h1 := HA.out.1
      have h2 := HA.out.2.1
      refine ⟨by rw [List.length_append]; simp; clear e1; omega, ?_, fun b hb hne => (Below.heap_setCell _ _ _ _ (by exact hne)).trans (h1.keep b hb hne), h1.lt, h1.below.setCell (p := ⟨bl, 0, none⟩) (Nat.le_refl _) _⟩
      have h3 := h1.row.set 0 (.int .i64 ((r - 1 : Nat) : Int))
      rw [List.length_append, show K - (acc.length + [x].length) = r - 1 by simp; clear e1; omega]
      exact h3
    clear HA
    generalize r - 1 = r' at *
    go_enter Tryz.func68, Tryz.ntmps68
    go_wp2_with fail
    exact bodyPost_end (v := .tuple #[]) (by simp [results, Tryz.f68]) rfl (.inl ⟨rfl, FN.out⟩)
/-- what is wrong with a proof of so many nodes. -/
def MWA (L : List Nat) (N K : Nat) : Int := if RISEA L N ≠ 0 then RISEA L N else if K ≠ (NEEDS (TPS N) L).length then 70 else 0
theorem MWA_ok {L : List Nat} {N K : Nat} (h : MWA L N K = 0) : RISEA L N = 0 ∧ K = (NEEDS (TPS N) L).length := by
  unfold MWA at h
  split at h
  · rename_i h1; exact absurd h h1
  · rename_i h1
    split at h
    · cases h
    · rename_i h2
      exact ⟨by simpa using h1, by simpa using h2⟩
theorem MWA_rise {L : List Nat} {N K : Nat} (h : RISEA L N ≠ 0) : MWA L N K = RISEA L N := if_pos h
theorem MWA_count {L : List Nat} {N K : Nat} (h : RISEA L N = 0) (hk : K ≠ (NEEDS (TPS N) L).length) : MWA L N K = 70 := by
  unfold MWA
  rw [if_neg (by simpa using h), if_pos hk]
theorem MWA_yes {L : List Nat} {N K : Nat} (h : RISEA L N = 0) (hk : K = (NEEDS (TPS N) L).length) : MWA L N K = 0 := by
  unfold MWA
  rw [if_neg (by simpa using h), if_neg (by simpa using hk)]
def WHOLE (L : List Nat) (N K : Nat) (w : World) (e : Ending) (w' : World) : Prop := Below w.heap.size w w' ∧ ((MWA L N K = 0 ∧ e = .returned (.tuple #[])) ∨ (MWA L N K ≠ 0 ∧ e = .panicked (WRONG (MWA L N K))))
set_option maxHeartbeats 2000000 in
theorem mustwhole_ok (L : List Nat) (N : Nat) (a : Option Addr) (m c : Nat) (an : Option Addr) (K cn : Nat) (w : World) (hl : L.length = m) (hm : m < 2 ^ 20) (hc : m ≤ c) (hnil : a = none → c = 0) (hbl : ∀ x, a = some x → x.block < w.heap.size ∧ x.spot = none) (hK : K < 2 ^ 20) (hL : NUML w a L) (hT : Tabled w) (hw0 : 0 < w.heap.size) :
    Calls Tryz.prog 33 #[.agg (MBOX N a m c an K cn)] w (WHOLE L N K w) := by
  have hmf : ∀ (fn : Fn) (first cap : Array Value) (w : World), (Instr.makeFunc fn first cap).run Tryz.prog w = .ok (.func fn first cap) w := fun _ _ _ _ => rfl
  obtain ⟨w1, e1⟩ : ∃ w1, w.alloc (.cells (MBOX N a m c an K cn) 26) = w1 := ⟨_, rfl⟩
  have s1 : w1.heap.size = w.heap.size + 1 := by rw [← e1]; simp
  have h1 : Has w1 w.heap.size (MBOX N a m c an K cn) 26 := by rw [← e1]; exact Has.new w _ _
  have hb1 : Below w.heap.size w w1 := by rw [← e1]; exact (Below.refl _ _).alloc (Nat.le_refl _) _
  have hL1 : NUML w1 a L := fun hp => by
    obtain ⟨b, o, e, hlt, hcc⟩ := hL hp
    exact ⟨b, o, e, by omega, fun i x hx => (hb1.cell (p := ⟨b, o + i, none⟩) hlt).trans (hcc i x hx)⟩
  have hM : (MBOX N a m c an K cn) = #[.int .u64 (N : Int), .slice a m c, .slice an K cn] := rfl
  have cr := mustrise_ok L N a m c hl (by omega) w1 hL1
  have x0 := h1.cell 0
  have x1 := h1.cell 1
  have x2 := h1.cell 2
  rw [hM] at e1 x0 x1 x2
  have HA : Aside (L.length = m ∧ m < 2 ^ 20 ∧ m ≤ c ∧ (a = none → c = 0) ∧ (∀ x, a = some x → x.block < w.heap.size ∧ x.spot = none) ∧ K < 2 ^ 20 ∧ NUML w1 a L ∧ Tabled w1 ∧ w1.heap.size = w.heap.size + 1 ∧ Has w1 w.heap.size (MBOX N a m c an K cn) 26 ∧ Below w.heap.size w w1) := ⟨hl, hm, hc, hnil, hbl, hK, hL1, hT.below hw0 hb1, s1, h1, hb1⟩
  clear hl hm hc hnil hbl hK hL hT hw0 s1 hb1 hL1
  go_enter Tryz.func33, Tryz.ntmps33
  rw [hM]
  go_wp2_with fail
  refine cr.mono ?_
  rintro e w2 ⟨rfl, (⟨hr, rfl⟩ | ⟨hr, rfl⟩)⟩
  · clear cr
    obtain ⟨r1, r2, r3⟩ := RISEA_ok hr
    obtain ⟨w3, e3⟩ : ∃ w3, w1.alloc (.cells #[.int .i64 (K : Int)] 3) = w3 := ⟨_, rfl⟩
    have s3 : w3.heap.size = w.heap.size + 2 := by rw [← e3]; simp; have := HA.out.2.2.2.2.2.2.2.2.1; omega
    have h3 : Has w3 w1.heap.size #[.int .i64 (K : Int)] 3 := by rw [← e3]; exact Has.new w1 _ _
    have hb3 : Below w1.heap.size w1 w3 := by rw [← e3]; exact (Below.refl _ _).alloc (Nat.le_refl _) _
    have y0 : w3.cell? ⟨w.heap.size, 0, none⟩ = some (.int .u64 (N : Int)) := (h1.keep hb3).cell 0
    have y1 : w3.cell? ⟨w.heap.size, 1, none⟩ = some (.slice a m c) := (h1.keep hb3).cell 1
    obtain ⟨bj, hbj, hbn⟩ : ∃ bj, (∀ x, a = some x → x.block = bj ∧ x.spot = none) ∧ bj ≠ w1.heap.size := by
      have hs := HA.out.2.2.2.2.2.2.2.2.1
      cases a with
      | none => exact ⟨w1.heap.size + 1, fun x e => (by cases e), by omega⟩
      | some x => exact ⟨x.block, fun y e => (by cases e; exact ⟨rfl, (HA.out.2.2.2.2.1 x rfl).2⟩), by have := (HA.out.2.2.2.2.1 x rfl).1; omega⟩
    have hL3 : NUML w3 a L := fun hp => by
      obtain ⟨b, o, e, hlt, hcc⟩ := HA.out.2.2.2.2.2.2.1 hp
      exact ⟨b, o, e, Nat.lt_of_lt_of_le hlt hb3.size, fun i x hx => (hb3.cell (p := ⟨b, o + i, none⟩) hlt).trans (hcc i x hx)⟩
    have cn := needE_ok bj w1.heap.size (fun w0 acc w => COUNTING K w0 w w1.heap.size acc) (fun w0 acc w => acc.length = K ∧ COUNTING K w0 w w1.heap.size acc) (WRONG 70) (fun w0 acc w w' h hb => h.still hb) (fun w0 acc w h => ⟨fun b hb hne => h.keep b hb hne, h.below.size⟩) (fun w0 acc p w h _ => (count_ok HA.out.2.2.2.2.2.1 h (p : Int)).mono fun e w' hh => hh.imp (fun x => ⟨x.1, x.2 p⟩) (fun x => ⟨x.1, x.2⟩)) N r1 L a m c w3 HA.out.1 HA.out.2.1 r2 HA.out.2.2.1 HA.out.2.2.2.1 hbj hL3 hbn h3.lt (HA.out.2.2.2.2.2.2.2.1.below (by have := HA.out.2.2.2.2.2.2.2.2.1; omega) hb3)
      (fun w4 hb => ⟨Nat.zero_le _, h3.keep hb, fun b _ _ => rfl, (h3.keep hb).lt, Below.refl _ _⟩)
    have HR : Aside (RISEA L N = 0 ∧ Below w1.heap.size w1 w3 ∧ K < 2 ^ 20) := ⟨hr, hb3, HA.out.2.2.2.2.2.1⟩
    have BW : Aside (Below w.heap.size w w1) := HA.out.2.2.2.2.2.2.2.2.2.2
    clear r1 r2 r3 hbj hbn hr hL3 s3 h3 HA h1 hb3
    go_wp2_with fail
    refine cn.mono ?_
    rintro e w5 ⟨w4, hb4, (⟨rfl, ht⟩ | ⟨pre, p, hpre, rfl, hp1, hp2⟩)⟩
    · clear cn
      rw [List.nil_append] at ht
      have z0 := ht.row.cell 0
      obtain ⟨r, hrr⟩ : ∃ r, K - (NEEDS (TPS N) L).length = r := ⟨_, rfl⟩
      rw [hrr] at z0
      have z0 : w5.cell? ⟨w1.heap.size, 0, none⟩ = some (.int .i64 (r : Int)) := z0
      have hbW : Below w.heap.size w w5 := by
        have h34 : Below w1.heap.size w1 w4 := HR.out.2.1.trans (hb4.mono HR.out.2.1.size)
        have h1w : Below w.heap.size w w4 := BW.out.trans (h34.mono BW.out.size)
        exact h1w.trans (ht.below.mono BW.out.size)
      have hle := ht.le
      rcases Nat.eq_zero_or_pos r with h0 | h0
      · subst h0
        have FN : Aside (WHOLE L N K w (.returned (.tuple #[])) w5) := ⟨hbW, .inl ⟨MWA_yes HR.out.1 (by omega), rfl⟩⟩
        clear ht hbW hb4 hle hrr HR BW
        go_wp2_with fail
        exact bodyPost_end (v := .tuple #[]) (by simp [results, Tryz.f33]) rfl FN.out
      · have hgt : (0 : Int) < (r : Int) := by omega
        have hm7 := MWA_count (K := K) HR.out.1 (by omega)
        have FN : Aside (WHOLE L N K w (.panicked (WRONG 70)) w5) := ⟨hbW, .inr ⟨by rw [hm7]; decide, by rw [hm7]⟩⟩
        clear ht hbW hb4 hle hrr HR BW hm7
        go_wp2_with fail
        exact ⟨rfl, FN.out⟩
    · have hbW : Below w.heap.size w w5 := by
        have h34 : Below w1.heap.size w1 w4 := HR.out.2.1.trans (hb4.mono HR.out.2.1.size)
        have h1w : Below w.heap.size w w4 := BW.out.trans (h34.mono BW.out.size)
        exact h1w.trans (hp2.below.mono BW.out.size)
      have hlen := hpre.length_le
      rw [List.nil_append, List.length_append, hp1] at hlen
      have hm7 := MWA_count (K := K) HR.out.1 (by simp at hlen; omega)
      exact ⟨rfl, hbW, .inr ⟨by rw [hm7]; decide, by rw [hm7]⟩⟩
  · refine ⟨rfl, HA.out.2.2.2.2.2.2.2.2.2.2, .inr ⟨?_, ?_⟩⟩
    · rw [MWA_rise hr]; exact hr
    · rw [MWA_rise hr]
end Go.Proofs.YtlicfinmibbpdaaGreatDoor

/- face of package many, with the doing of Encode. -/
namespace Go.Proofs.YtlicfinmibbpdaaGreatDoor
open Go.RowKit
set_option maxRecDepth 100000

set_option maxHeartbeats 1000000 in
theorem faceE_ok (b0 b1 : Nat) (w : World) (G : World → Prop) (B : Int → World → Prop)
    (hdo : Calls Tryz.prog 50 #[.pointer (some ⟨b0, 0, none⟩), .pointer (some ⟨b1, 0, none⟩)] (w.alloc (.cells #[.int .i64 0] 29)) fun e w' => (e = .returned (.tuple #[]) ∧ G w') ∨ ∃ x, e = .panicked (WRONG x) ∧ B x w')
    (hG : ∀ w', G w' → Has w' w.heap.size #[.int .i64 0] 29) (hB : ∀ x w', B x w' → Has w' w.heap.size #[.int .i64 0] 29) :
    Calls Tryz.prog 31 #[.func (.func 50) #[] #[.pointer (some ⟨b0, 0, none⟩), .pointer (some ⟨b1, 0, none⟩)]] w (FACED w G B) := by
  have hmf : ∀ (fn : Fn) (first cap : Array Value) (w : World), (Instr.makeFunc fn first cap).run Tryz.prog w = .ok (.func fn first cap) w := fun _ _ _ _ => rfl
  have HG : Aside (∀ w', G w' → Has w' w.heap.size #[.int .i64 0] 29) := hG
  have HB : Aside (∀ x w', B x w' → Has w' w.heap.size #[.int .i64 0] 29) := hB
  clear hG hB
  go_enter_defers Tryz.func31, Tryz.ntmps31
  go_wp2_with fail
  refine hdo.mono ?_
  rintro e w1 (⟨rfl, h1⟩ | ⟨x, rfl, h1⟩)
  · clear hdo
    have hh := HG.out w1 h1
    have c0 := hh.cell 0
    have f0 := hh.frozen 0
    have G1 : Aside (G w1) := h1
    clear h1
    go_wp2_with fail
    refine leaves_cons (f := 65) (args := #[.pointer (some ⟨w.heap.size, 0, none⟩)]) (by simp) (by simp [go_sem]) ?_
    refine (catch_idle ⟨w.heap.size, 0, none⟩ _).mono ?_
    rintro e u' w'' ⟨rfl, rfl, rfl⟩
    have c1 := (hh.set 0 (.int .i64 0)).cell 0
    simp [Leaves, settle, results, Tryz.results31, go_sem, c1]
    exact .inl ⟨rfl, w1, G1.out, rfl⟩
  · have hh := HB.out x w1 h1
    have c0 := hh.cell 0
    have f0 := hh.frozen 0
    refine leaves_cons (f := 65) (args := #[.pointer (some ⟨w.heap.size, 0, none⟩)]) (by simp) (by simp [go_sem]) ?_
    refine (catch_panicking ⟨w.heap.size, 0, none⟩ 0 x [] w1 c0 f0).mono ?_
    rintro e u' w'' ⟨rfl, rfl, rfl⟩
    have c1 := (hh.set 0 (.int .i64 x)).cell 0
    simp [Leaves, settle, results, Tryz.results31, go_sem, c1]
    exact .inr ⟨x, w1, rfl, h1, rfl⟩
end Go.Proofs.YtlicfinmibbpdaaGreatDoor

/- Encode of package many. -/
namespace Go.Proofs.YtlicfinmibbpdaaGreatDoor
open Go.RowKit
set_option maxRecDepth 100000

/-- what Encode answers. -/
def MENC (L : List Nat) (N K : Nat) (l : List Int) : Int × List Int := if MWA L N K = 0 then (0, MWRT L N l) else (MWA L N K, [])
theorem own_cut {w : World} {B s n : Nat} {t : TypeId} {v : Value} {xs : List Value} (h : w.ownsRow B t s v n xs) : ∃ a c, v = .slice a n c := by
  rcases h.2 with ⟨e, h0⟩ | ⟨g, cap, cur, e, _⟩
  · exact ⟨none, 0, by rw [e, h0]⟩
  · exact ⟨_, _, e⟩
/-- what the doing of Encode leaves. -/
structure ENCD (w w' : World) (b1 : Nat) (Z : List Int) : Prop where
  row : ∃ v, Has w' b1 #[v] 39 ∧ w'.ownsRow w.heap.size 5 1 v Z.length (CELLS Z)
  keep : ∀ b, b < w.heap.size → b ≠ b1 → w'.heap[b]? = w.heap[b]?
  below : Below b1 w w'
set_option maxHeartbeats 2000000 in
theorem encodedo_ok (L : List Nat) (N : Nat) (a : Option Addr) (m c : Nat) (an : Option Addr) (K cn : Nat) (l : List Int) (b0 b1 : Nat) (w : World) (hl : L.length = m) (hm : m < 2 ^ 20) (hc : m ≤ c) (hnil : a = none → c = 0) (hbl : ∀ x, a = some x → x.block < w.heap.size ∧ x.spot = none) (hK : K < 2 ^ 20) (hL : NUML w a L) (hF : Flat w an K l) (hT : Tabled w) (hw0 : 0 < w.heap.size)
    (h0 : Has w b0 (MBOX N a m c an K cn) 26) (h1 : Has w b1 #[.slice none 0 0] 39) :
    Calls Tryz.prog 50 #[.pointer (some ⟨b0, 0, none⟩), .pointer (some ⟨b1, 0, none⟩)] w fun e w' =>
      (e = .returned (.tuple #[]) ∧ (MWA L N K = 0 ∧ ENCD w w' b1 (MWRT L N l))) ∨ ∃ x, e = .panicked (WRONG x) ∧ (x = MWA L N K ∧ x ≠ 0 ∧ Below w.heap.size w w') := by
  have cm := mustwhole_ok L N a m c an K cn w hl hm hc hnil hbl hK hL hT hw0
  have hM : (MBOX N a m c an K cn) = #[.int .u64 (N : Int), .slice a m c, .slice an K cn] := rfl
  have x0 : w.cell? ⟨b0, 0, none⟩ = some (.int .u64 (N : Int)) := h0.cell 0
  have x1 : w.cell? ⟨b0, 1, none⟩ = some (.slice a m c) := h0.cell 1
  have x2 : w.cell? ⟨b0, 2, none⟩ = some (.slice an K cn) := h0.cell 2
  have HA : Aside (L.length = m ∧ m < 2 ^ 20 ∧ K < 2 ^ 20 ∧ NUML w a L ∧ Flat w an K l ∧ Has w b0 (MBOX N a m c an K cn) 26 ∧ Has w b1 #[.slice none 0 0] 39) := ⟨hl, hm, hK, hL, hF, h0, h1⟩
  clear hl hm hc hnil hbl hK hL hF hT hw0 h0 h1
  rw [hM] at cm
  go_enter Tryz.func50, Tryz.ntmps50
  go_wp2_with fail
  refine cm.mono ?_
  rintro e w1 ⟨hb1, (⟨hr, rfl⟩ | ⟨hr, rfl⟩)⟩
  · clear cm x0 x1 x2
    obtain ⟨q1, q2⟩ := MWA_ok hr
    obtain ⟨r1, r2, r3⟩ := RISEA_ok q1
    have k0 := HA.out.2.2.2.2.2.1.keep hb1
    have x0 : w1.cell? ⟨b0, 0, none⟩ = some (.int .u64 (N : Int)) := k0.cell 0
    have x1 : w1.cell? ⟨b0, 1, none⟩ = some (.slice a m c) := k0.cell 1
    have x2 : w1.cell? ⟨b0, 2, none⟩ = some (.slice an K cn) := k0.cell 2
    have cw := manywritten_ok L N (by omega) a m c an K cn l w1 HA.out.1 HA.out.2.1 HA.out.2.2.1 r2 (fun x hx => by have := r3 x hx; omega) (fun hp => by
      obtain ⟨b, o, e, hlt, hcc⟩ := HA.out.2.2.2.1 hp
      exact ⟨b, o, e, Nat.lt_of_lt_of_le hlt hb1.size, fun i x hx => (hb1.cell (p := ⟨b, o + i, none⟩) hlt).trans (hcc i x hx)⟩) (HA.out.2.2.2.2.1.below hb1)
    rw [hM] at cw
    have HR : Aside (MWA L N K = 0 ∧ Below w.heap.size w w1) := ⟨hr, hb1⟩
    clear hr q1 q2 r1 r2 r3 hb1 k0
    go_wp2_with fail
    refine cw.mono ?_
    rintro e w2 ⟨v, rfl, hown, hb2⟩
    clear cw x0 x1 x2
    obtain ⟨av, cv, rfl⟩ := own_cut hown
    generalize hvv : Value.slice av (MWRT L N l).length cv = v at *
    have hw2 : Below w.heap.size w w2 := HR.out.2.trans (hb2.mono HR.out.2.size)
    have k1 := HA.out.2.2.2.2.2.2.keep hw2
    have c1 := k1.cell 0
    have f1 := k1.frozen 0
    have FN : Aside (ENCD w (w2.setCell ⟨b1, 0, none⟩ v) b1 (MWRT L N l)) := by
      have hlt := HA.out.2.2.2.2.2.2.lt
      refine ⟨⟨v, k1.set 0 v, own_mono (ownsRow_setCell_below hown (a := ⟨b1, 0, none⟩) (by show b1 < w1.heap.size; have := HR.out.2.size; omega) _) HR.out.2.size⟩, fun b hb hne => (Below.heap_setCell _ _ _ _ (by exact hne)).trans (hw2.block b hb), ?_⟩
      exact (hw2.mono (Nat.le_of_lt hlt)).setCell (p := ⟨b1, 0, none⟩) (Nat.le_refl _) _
    subst hvv
    clear hown hb2 hw2 k1 HA
    go_wp2_with fail
    exact bodyPost_end (v := .tuple #[]) (by simp [results, Tryz.f50]) rfl (.inl ⟨rfl, HR.out.1, FN.out⟩)
  · exact ⟨rfl, .inr ⟨_, rfl, rfl, hr, hb1⟩⟩
/-- what is answered: an error and bytes. -/
def ANSY (w : World) (A : Int × List Int) (e : Ending) (w' : World) : Prop := ∃ a c, e = .returned (.tuple #[.slice a A.2.length c, .int .i64 A.1]) ∧ w'.ownsRow w.heap.size 5 1 (.slice a A.2.length c) A.2.length (CELLS A.2) ∧ Below w.heap.size w w'
set_option maxHeartbeats 2000000 in
theorem manyencode_ok (L : List Nat) (N : Nat) (a : Option Addr) (m c : Nat) (an : Option Addr) (K cn : Nat) (l : List Int) (w : World) (hl : L.length = m) (hm : m < 2 ^ 20) (hc : m ≤ c) (hnil : a = none → c = 0) (hbl : ∀ x, a = some x → x.block < w.heap.size ∧ x.spot = none) (hK : K < 2 ^ 20) (hL : NUML w a L) (hF : Flat w an K l) (hT : Tabled w) (hw0 : 0 < w.heap.size) :
    Calls Tryz.prog 23 #[.agg (MBOX N a m c an K cn)] w (ANSY w (MENC L N K l)) := by
  have hmf : ∀ (fn : Fn) (first cap : Array Value) (w : World), (Instr.makeFunc fn first cap).run Tryz.prog w = .ok (.func fn first cap) w := fun _ _ _ _ => rfl
  obtain ⟨w1, e1⟩ : ∃ w1, w.alloc (.cells (MBOX N a m c an K cn) 26) = w1 := ⟨_, rfl⟩
  obtain ⟨w3, e3⟩ : ∃ w3, w1.alloc (.cells #[.slice none 0 0] 39) = w3 := ⟨_, rfl⟩
  obtain ⟨w4, e4⟩ : ∃ w4, w3.alloc (.cells #[.int .i64 0] 29) = w4 := ⟨_, rfl⟩
  have s1 : w1.heap.size = w.heap.size + 1 := by rw [← e1]; simp
  have s3 : w3.heap.size = w.heap.size + 2 := by rw [← e3]; simp; omega
  have s4 : w4.heap.size = w.heap.size + 3 := by rw [← e4]; simp; omega
  have hb4 : Below w.heap.size w w4 := by
    rw [← e4, ← e3, ← e1]
    exact (((Below.refl _ _).alloc (Nat.le_refl _) _).alloc (by simp) _).alloc (by simp; omega) _
  have h0 : Has w4 w.heap.size (MBOX N a m c an K cn) 26 := by
    rw [← e4, ← e3, ← e1]
    exact ((Has.new w _ _).alloc _).alloc _
  have h1 : Has w4 w1.heap.size #[.slice none 0 0] 39 := by
    rw [← e4, ← e3]
    exact (Has.new w1 _ _).alloc _
  have h3 : Has w4 w3.heap.size #[.int .i64 0] 29 := by
    rw [← e4]
    exact Has.new w3 _ _
  have hL4 : NUML w4 a L := fun hp => by
    obtain ⟨b, o, e, hlt, hcc⟩ := hL hp
    exact ⟨b, o, e, by omega, fun i x hx => (hb4.cell (p := ⟨b, o + i, none⟩) hlt).trans (hcc i x hx)⟩
  have cd := encodedo_ok L N a m c an K cn l w.heap.size w1.heap.size w4 hl hm hc hnil (fun x e => ⟨by have := (hbl x e).1; omega, (hbl x e).2⟩) hK hL4 (hF.below hb4) (hT.below hw0 hb4) (by omega) h0 h1
  rw [← e4] at cd
  have cf := faceE_ok w.heap.size w1.heap.size w3 _ _ cd
    (fun w' ⟨_, ht⟩ => by
      rw [e4] at ht
      exact (ht.keep w3.heap.size (by omega) (by omega)).trans h3)
    (fun x w' ⟨_, _, hb⟩ => by rw [e4] at hb; exact h3.keep hb)
  rw [e4] at cf
  have FIN : Aside (∀ e w', FACED w3 (fun w' => MWA L N K = 0 ∧ ENCD w4 w' w1.heap.size (MWRT L N l)) (fun x w' => x = MWA L N K ∧ x ≠ 0 ∧ Below w4.heap.size w4 w') e w' → e = .returned (.int .i64 (MENC L N K l).1) ∧ Below w.heap.size w w' ∧ ∃ a' c', Has w' w1.heap.size #[.slice a' (MENC L N K l).2.length c'] 39 ∧ w'.ownsRow w.heap.size 5 1 (.slice a' (MENC L N K l).2.length c') (MENC L N K l).2.length (CELLS (MENC L N K l).2)) := by
    rintro e w' (⟨rfl, wx, ⟨hr, ht⟩, rfl⟩ | ⟨x, wx, rfl, ⟨rfl, hx, hbx⟩, rfl⟩)
    · have hP : MENC L N K l = (0, MWRT L N l) := if_pos hr
      obtain ⟨v, hv, hown⟩ := ht.row
      obtain ⟨a', c', rfl⟩ := own_cut hown
      rw [hP]
      refine ⟨rfl, ?_, a', c', ?_, ?_⟩
      · exact ((hb4.trans (ht.below.mono (by omega)))).setCell (by show w.heap.size ≤ w3.heap.size; omega) _
      · exact hv.other (by show w1.heap.size ≠ w3.heap.size; omega) _
      · exact own_mono (ownsRow_setCell_below hown (a := ⟨w3.heap.size, 0, none⟩) (by show w3.heap.size < w4.heap.size; omega) _) (by omega)
    · have hP : MENC L N K l = (MWA L N K, []) := if_neg hx
      rw [hP]
      refine ⟨rfl, (hb4.trans (hbx.mono hb4.size)).setCell (by show w.heap.size ≤ w3.heap.size; omega) _, none, 0, ?_, ?_⟩
      · exact (h1.keep hbx).other (by show w1.heap.size ≠ w3.heap.size; omega) _
      · exact ⟨rfl, .inl ⟨rfl, rfl⟩⟩
  have hM : (MBOX N a m c an K cn) = #[.int .u64 (N : Int), .slice a m c, .slice an K cn] := rfl
  rw [hM] at e1
  clear cd h0 h1 h3 hL4 hb4 hl hm hc hnil hbl hL hF hT s1 s3 s4 e4 hw0 hK
  generalize MENC L N K l = A at *
  go_enter Tryz.func23, Tryz.ntmps23
  rw [hM]
  go_wp2_with fail
  refine cf.mono ?_
  intro e w5 hh
  obtain ⟨rfl, hb5, a', c', hv, hown⟩ := FIN.out e w5 hh
  have x0 := hv.cell 0
  have FN : Aside (ANSY w A (.returned (.tuple #[.slice a' A.2.length c', .int .i64 A.1])) w5) := ⟨a', c', rfl, hown, hb5⟩
  clear hh hb5 hv hown FIN cf
  go_wp2_with fail
  go_ret2
  exact FN.out
end Go.Proofs.YtlicfinmibbpdaaGreatDoor

/- What Long of package num answers. -/
namespace Go.Proofs.YtlicfinmibbpdaaGreatDoor
open Go.RowKit

/-- what a number in groups of 7 bits reads as, from the k-th byte on: the number, how many bytes, what is wrong. -/
def LG (l : List Int) (n : Nat) : Nat → Nat → Int → Int × Int × Int
  | 0, _, _ => (0, 0, 10)
  | f + 1, k, x => if k = n then (0, 0, 11) else if 128 ≤ l.getD k 0 then LG l n f (k + 1) (x + l.getD k 0 % 128 * 128 ^ k)
    else if k = 9 ∧ 1 < l.getD k 0 then (0, 0, 10) else if l.getD k 0 = 0 ∧ 0 < k then (0, 0, 12) else (x + l.getD k 0 * 128 ^ k, (k : Int) + 1, 0)
/-! shifts by whole groups -/
theorem pow7 (k : Nat) : (2 : Nat) ^ (7 * k) = 128 ^ k := by rw [Nat.pow_mul]
theorem group_shl (L k : Nat) : SHL L (7 * (k : Int)) = L * 128 ^ k % 2 ^ 64 := by
  unfold SHL
  rw [if_neg (by omega), show (7 * (k : Int)).toNat = 7 * k by omega, pow7]
theorem group_small {L k : Nat} (hL : L < 128) (hk : k ≤ 8) : L * 128 ^ k % 2 ^ 64 = L * 128 ^ k := by
  have h := Nat.pow_le_pow_right (n := 128) (by decide) hk
  have h2 : L * 128 ^ k ≤ 127 * 128 ^ 8 := Nat.mul_le_mul (by omega) h
  exact Nat.mod_eq_of_lt (Nat.lt_of_le_of_lt h2 (by decide))
theorem group_or {x L k : Nat} (hx : x < 128 ^ k) (hL : L < 128) (hk : k ≤ 8) : bits .or .u64 (x : Int) ((L * 128 ^ k % 2 ^ 64 : Nat) : Int) = ((x + L * 128 ^ k : Nat) : Int) := by
  have h8 := Nat.pow_le_pow_right (n := 128) (by decide) hk
  have hx2 : x < 2 ^ 64 := Nat.lt_of_lt_of_le hx (Nat.le_trans h8 (by decide))
  rw [or_eq hx2 (Nat.mod_lt _ (by decide)), group_small hL hk, Nat.or_comm, nat_join (7 * k) _ x (by rw [pow7]; exact Nat.mul_mod_left _ _) (by rw [pow7]; exact hx), Nat.add_comm]
theorem group_or9 {x L : Nat} (hx : x < 128 ^ 9) (hL : L < 2) : bits .or .u64 (x : Int) ((L * 128 ^ 9 % 2 ^ 64 : Nat) : Int) = ((x + L * 128 ^ 9 : Nat) : Int) := by
  have h1 : L * 128 ^ 9 % 2 ^ 64 = L * 128 ^ 9 := Nat.mod_eq_of_lt (by omega)
  rw [or_eq (Nat.lt_of_lt_of_le hx (by decide)) (Nat.mod_lt _ (by decide)), h1, Nat.or_comm, nat_join (7 * 9) _ x (by omega) (by omega), Nat.add_comm]

/-- what holds of the number that has been gathered ahead of the k-th byte. -/
def Gath (l : List Int) (n k : Nat) (y : Int) (R : Int × Int × Int) : Prop := ∃ x : Nat, LG l n (10 - k) k (x : Int) = R ∧ (k ≤ 9 → y = (x : Int) ∧ x < 128 ^ k)
theorem Gath.val {l : List Int} {n k : Nat} {y v p : Int} {R : Int × Int × Int} (A : Gath l n k y R) (hk : k ≤ 9) (h0 : 0 ≤ v) (h1 : ¬ 128 ≤ v) (h9 : ¬ (k = 9 ∧ 1 < v))
    (hp : p = ((SHL (v % 128).toNat (7 * (k : Int)) : Nat) : Int)) : bits .or .u64 y p = y + v * 128 ^ k := by
  obtain ⟨x, _, hy⟩ := A
  obtain ⟨rfl, hlt⟩ := hy hk
  obtain ⟨L, rfl⟩ : ∃ L : Nat, v = (L : Int) := ⟨v.toNat, by omega⟩
  rw [show (((L : Int) % 128).toNat) = L by omega, group_shl] at hp
  by_cases h : k = 9
  · subst h
    rw [hp, group_or9 hlt (by omega)]
    simp
  · rw [hp, group_or hlt (by omega) (by omega)]
    simp
end Go.Proofs.YtlicfinmibbpdaaGreatDoor

/- Short and Long, as lists; no Go in sight. -/
namespace Go.Proofs.YtlicfinmibbpdaaGreatDoor
open Go.RowKit

/-- the number of the m lowest groups. -/
def VAL (d : Nat → Nat) : Nat → Nat
  | 0 => 0
  | m + 1 => VAL d m + d m * 128 ^ m
end Go.Proofs.YtlicfinmibbpdaaGreatDoor

/- What the readers of package proof do with the bytes that are left: the mark, a number. -/
namespace Go.Proofs.YtlicfinmibbpdaaGreatDoor
open Go.RowKit
set_option maxRecDepth 100000

/-- s[k:], of bytes: what is behind. -/
theorem Bytes.rest {w : World} {b off n : Nat} {l : List Int} (h : Bytes w (some ⟨b, off, none⟩) n l) (k : Nat) (hk : k ≤ n) : Bytes w (some ⟨b, off + k, none⟩) (n - k) (l.drop k) := by
  refine ⟨by rw [List.length_drop, h.1], fun hn => ?_, fun x hx => h.2.2 x (List.mem_of_mem_drop hx)⟩
  obtain ⟨b', o', e, hl, hc⟩ := h.2.1 (by omega)
  simp only [Option.some.injEq, Addr.mk.injEq] at e
  obtain ⟨rfl, rfl, _⟩ := e
  refine ⟨b, off + k, rfl, hl, fun i hi => ?_⟩
  rw [show off + k + i = off + (k + i) by omega, hc (k + i) (by omega)]
  congr 2
  rw [List.getD_eq_getElem?_getD, List.getD_eq_getElem?_getD, List.getElem?_drop]
/-- where s[k:] begins: where no room is left, the address stays. -/
def REST (b off c k : Nat) : Option Addr := if c = k then some ⟨b, off, none⟩ else some ⟨b, off + k, none⟩
theorem Bytes.behind {w : World} {b off n c : Nat} {l : List Int} (h : Bytes w (some ⟨b, off, none⟩) n l) (k : Nat) (hk : k ≤ n) (hc : n ≤ c) : Bytes w (REST b off c k) (n - k) (l.drop k) := by
  unfold REST
  split
  · have h0 : n - k = 0 := by omega
    rw [h0]
    refine ⟨?_, fun h => by omega, fun x hx => h.2.2 x (List.mem_of_mem_drop hx)⟩
    rw [List.length_drop, h.1, h0]
  · exact h.rest k hk
end Go.Proofs.YtlicfinmibbpdaaGreatDoor

/- A list of hashes that is made, and filled node by node. -/
namespace Go.Proofs.YtlicfinmibbpdaaGreatDoor
open Go.RowKit
set_option maxRecDepth 100000

end Go.Proofs.YtlicfinmibbpdaaGreatDoor

/- What the readers of package proof do with the bytes that are left: the nodes. -/
namespace Go.Proofs.YtlicfinmibbpdaaGreatDoor
open Go.RowKit
set_option maxRecDepth 100000

end Go.Proofs.YtlicfinmibbpdaaGreatDoor

/- A number in front of bytes. -/
namespace Go.Proofs.YtlicfinmibbpdaaGreatDoor
open Go.RowKit

end Go.Proofs.YtlicfinmibbpdaaGreatDoor

/- What Decode and DecodePrefix answer, of any bytes. -/
namespace Go.Proofs.YtlicfinmibbpdaaGreatDoor
open Go.RowKit

end Go.Proofs.YtlicfinmibbpdaaGreatDoor

/- There and back: what Encode writes is what Decode reads, and the other way round. -/
namespace Go.Proofs.YtlicfinmibbpdaaGreatDoor
open Go.RowKit

end Go.Proofs.YtlicfinmibbpdaaGreatDoor
