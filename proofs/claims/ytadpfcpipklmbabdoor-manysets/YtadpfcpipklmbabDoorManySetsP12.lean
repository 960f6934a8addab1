/- Texts of ManySets, one behind the other: ManyFaceP, ManyFaceE, ManyEncode, ManyTake, ManyNeedP. -/
import Derived.Test.YtadpfcpipklmbabDoorManySetsP6
import Derived.Test.YtadpfcpipklmbabDoorManySetsP7
import Derived.Test.YtadpfcpipklmbabDoorManySetsP9
import Derived.Test.YtadpfcpipklmbabDoorManySetsP11
/- face of package many, with the doing of Places. -/
namespace Go.Proofs.YtadpfcpipklmbabDoor
open Go.RowKit
set_option maxRecDepth 100000

/-- what face answers. -/
def FACED (w : World) (G : World → Prop) (B : Int → World → Prop) (e : Ending) (w'' : World) : Prop :=
  (e = .returned (.int .i64 0) ∧ ∃ w', G w' ∧ w'' = w'.setCell ⟨w.heap.size, 0, none⟩ (.int .i64 0)) ∨ ∃ x w', e = .returned (.int .i64 x) ∧ B x w' ∧ w'' = w'.setCell ⟨w.heap.size, 0, none⟩ (.int .i64 x)
set_option maxHeartbeats 1000000 in
theorem faceP_ok (b0 b1 b2 : Nat) (w : World) (G : World → Prop) (B : Int → World → Prop)
    (hdo : Calls Tryd.prog 22 #[.pointer (some ⟨b0, 0, none⟩), .pointer (some ⟨b1, 0, none⟩), .pointer (some ⟨b2, 0, none⟩)] (w.alloc (.cells #[.int .i64 0] 24)) fun e w' => (e = .returned (.tuple #[]) ∧ G w') ∨ ∃ x, e = .panicked (WRONG x) ∧ B x w')
    (hG : ∀ w', G w' → Has w' w.heap.size #[.int .i64 0] 24) (hB : ∀ x w', B x w' → Has w' w.heap.size #[.int .i64 0] 24) :
    Calls Tryd.prog 21 #[.func (.func 22) #[] #[.pointer (some ⟨b0, 0, none⟩), .pointer (some ⟨b1, 0, none⟩), .pointer (some ⟨b2, 0, none⟩)]] w (FACED w G B) := by
  have hmf : ∀ (fn : Fn) (first cap : Array Value) (w : World), (Instr.makeFunc fn first cap).run Tryd.prog w = .ok (.func fn first cap) w := fun _ _ _ _ => rfl
  have HG : Aside (∀ w', G w' → Has w' w.heap.size #[.int .i64 0] 24) := hG
  have HB : Aside (∀ x w', B x w' → Has w' w.heap.size #[.int .i64 0] 24) := hB
  clear hG hB
  go_enter_defers Tryd.func21, Tryd.ntmps21
  go_wp2_with fail
  refine hdo.mono ?_
  rintro e w1 (⟨rfl, h1⟩ | ⟨x, rfl, h1⟩)
  · clear hdo
    have hh := HG.out w1 h1
    have c0 := hh.cell 0
    have f0 := hh.frozen 0
    have G1 : Aside (G w1) := h1
    clear h1
    go_wp2_with fail
    refine leaves_cons (f := 41) (args := #[.pointer (some ⟨w.heap.size, 0, none⟩)]) (by simp) (by simp [go_sem]) ?_
    refine (catch_idle ⟨w.heap.size, 0, none⟩ _).mono ?_
    rintro e u' w'' ⟨rfl, rfl, rfl⟩
    have c1 := (hh.set 0 (.int .i64 0)).cell 0
    simp [Leaves, settle, results, Tryd.results21, go_sem, c1]
    exact .inl ⟨rfl, w1, G1.out, rfl⟩
  · have hh := HB.out x w1 h1
    have c0 := hh.cell 0
    have f0 := hh.frozen 0
    refine leaves_cons (f := 41) (args := #[.pointer (some ⟨w.heap.size, 0, none⟩)]) (by simp) (by simp [go_sem]) ?_
    refine (catch_panicking ⟨w.heap.size, 0, none⟩ 0 x [] w1 c0 f0).mono ?_
    rintro e u' w'' ⟨rfl, rfl, rfl⟩
    have c1 := (hh.set 0 (.int .i64 x)).cell 0
    simp [Leaves, settle, results, Tryd.results21, go_sem, c1]
    exact .inr ⟨x, w1, rfl, h1, rfl⟩
end Go.Proofs.YtadpfcpipklmbabDoor

/- face of package many, with the doing of Encode. -/
namespace Go.Proofs.YtadpfcpipklmbabDoor
open Go.RowKit
set_option maxRecDepth 100000

set_option maxHeartbeats 1000000 in
theorem faceE_ok (b0 b1 : Nat) (w : World) (G : World → Prop) (B : Int → World → Prop)
    (hdo : Calls Tryd.prog 34 #[.pointer (some ⟨b0, 0, none⟩), .pointer (some ⟨b1, 0, none⟩)] (w.alloc (.cells #[.int .i64 0] 24)) fun e w' => (e = .returned (.tuple #[]) ∧ G w') ∨ ∃ x, e = .panicked (WRONG x) ∧ B x w')
    (hG : ∀ w', G w' → Has w' w.heap.size #[.int .i64 0] 24) (hB : ∀ x w', B x w' → Has w' w.heap.size #[.int .i64 0] 24) :
    Calls Tryd.prog 21 #[.func (.func 34) #[] #[.pointer (some ⟨b0, 0, none⟩), .pointer (some ⟨b1, 0, none⟩)]] w (FACED w G B) := by
  have hmf : ∀ (fn : Fn) (first cap : Array Value) (w : World), (Instr.makeFunc fn first cap).run Tryd.prog w = .ok (.func fn first cap) w := fun _ _ _ _ => rfl
  have HG : Aside (∀ w', G w' → Has w' w.heap.size #[.int .i64 0] 24) := hG
  have HB : Aside (∀ x w', B x w' → Has w' w.heap.size #[.int .i64 0] 24) := hB
  clear hG hB
  go_enter_defers Tryd.func21, Tryd.ntmps21
  go_wp2_with fail
  refine hdo.mono ?_
  rintro e w1 (⟨rfl, h1⟩ | ⟨x, rfl, h1⟩)
  · clear hdo
    have hh := HG.out w1 h1
    have c0 := hh.cell 0
    have f0 := hh.frozen 0
    have G1 : Aside (G w1) := h1
    clear h1
    go_wp2_with fail
    refine leaves_cons (f := 41) (args := #[.pointer (some ⟨w.heap.size, 0, none⟩)]) (by simp) (by simp [go_sem]) ?_
    refine (catch_idle ⟨w.heap.size, 0, none⟩ _).mono ?_
    rintro e u' w'' ⟨rfl, rfl, rfl⟩
    have c1 := (hh.set 0 (.int .i64 0)).cell 0
    simp [Leaves, settle, results, Tryd.results21, go_sem, c1]
    exact .inl ⟨rfl, w1, G1.out, rfl⟩
  · have hh := HB.out x w1 h1
    have c0 := hh.cell 0
    have f0 := hh.frozen 0
    refine leaves_cons (f := 41) (args := #[.pointer (some ⟨w.heap.size, 0, none⟩)]) (by simp) (by simp [go_sem]) ?_
    refine (catch_panicking ⟨w.heap.size, 0, none⟩ 0 x [] w1 c0 f0).mono ?_
    rintro e u' w'' ⟨rfl, rfl, rfl⟩
    have c1 := (hh.set 0 (.int .i64 x)).cell 0
    simp [Leaves, settle, results, Tryd.results21, go_sem, c1]
    exact .inr ⟨x, w1, rfl, h1, rfl⟩
end Go.Proofs.YtadpfcpipklmbabDoor

/- Encode of package many. -/
namespace Go.Proofs.YtadpfcpipklmbabDoor
open Go.RowKit
set_option maxRecDepth 100000

/-- what Encode answers. -/
def MENC (L : List Nat) (N K : Nat) (l : List Int) : Int × List Int := if MWA L N K = 0 then (0, MWRT L N l) else (MWA L N K, [])
theorem own_cut {w : World} {B s n : Nat} {t : TypeId} {v : Value} {xs : List Value} (h : w.ownsRow B t s v n xs) : ∃ a c, v = .slice a n c := by
  rcases h.2 with ⟨e, h0⟩ | ⟨g, cap, cur, e, _⟩
  · exact ⟨none, 0, by rw [e, h0]⟩
  · exact ⟨_, _, e⟩
/-- what the doing of Encode leaves. -/
structure ENCD (w w' : World) (b1 : Nat) (Z : List Int) : Prop where
  row : ∃ v, Has w' b1 #[v] 41 ∧ w'.ownsRow w.heap.size 5 1 v Z.length (CELLS Z)
  keep : ∀ b, b < w.heap.size → b ≠ b1 → w'.heap[b]? = w.heap[b]?
  below : Below b1 w w'
set_option maxHeartbeats 2000000 in
theorem encodedo_ok (L : List Nat) (N : Nat) (a : Option Addr) (m c : Nat) (an : Option Addr) (K cn : Nat) (l : List Int) (b0 b1 : Nat) (w : World) (hl : L.length = m) (hm : m < 2 ^ 20) (hc : m ≤ c) (hnil : a = none → c = 0) (hbl : ∀ x, a = some x → x.block < w.heap.size ∧ x.spot = none) (hK : K < 2 ^ 20) (hL : NUML w a L) (hF : Flat w an K l) (hT : Tabled w) (hw0 : 0 < w.heap.size)
    (h0 : Has w b0 (MBOX N a m c an K cn) 40) (h1 : Has w b1 #[.slice none 0 0] 41) :
    Calls Tryd.prog 34 #[.pointer (some ⟨b0, 0, none⟩), .pointer (some ⟨b1, 0, none⟩)] w fun e w' =>
      (e = .returned (.tuple #[]) ∧ (MWA L N K = 0 ∧ ENCD w w' b1 (MWRT L N l))) ∨ ∃ x, e = .panicked (WRONG x) ∧ (x = MWA L N K ∧ x ≠ 0 ∧ Below w.heap.size w w') := by
  have cm := mustwhole_ok L N a m c an K cn w hl hm hc hnil hbl hK hL hT hw0
  have hM : (MBOX N a m c an K cn) = #[.int .u64 (N : Int), .slice a m c, .slice an K cn] := rfl
  have x0 : w.cell? ⟨b0, 0, none⟩ = some (.int .u64 (N : Int)) := h0.cell 0
  have x1 : w.cell? ⟨b0, 1, none⟩ = some (.slice a m c) := h0.cell 1
  have x2 : w.cell? ⟨b0, 2, none⟩ = some (.slice an K cn) := h0.cell 2
  have HA : Aside (L.length = m ∧ m < 2 ^ 20 ∧ K < 2 ^ 20 ∧ NUML w a L ∧ Flat w an K l ∧ Has w b0 (MBOX N a m c an K cn) 40 ∧ Has w b1 #[.slice none 0 0] 41) := ⟨hl, hm, hK, hL, hF, h0, h1⟩
  clear hl hm hc hnil hbl hK hL hF hT hw0 h0 h1
  rw [hM] at cm
  go_enter Tryd.func34, Tryd.ntmps34
  go_wp2_with fail
  refine cm.mono ?_
  rintro e w1 ⟨hb1, (⟨hr, rfl⟩ | ⟨hr, rfl⟩)⟩
  · clear cm x0 x1 x2
    obtain ⟨q1, q2⟩ := MWA_ok hr
    obtain ⟨r1, r2, r3⟩ := RISEA_ok q1
    have k0 := HA.out.2.2.2.2.2.1.keep hb1
    have x0 : w1.cell? ⟨b0, 0, none⟩ = some (.int .u64 (N : Int)) := k0.cell 0
    have x1 : w1.cell? ⟨b0, 1, none⟩ = some (.slice a m c) := k0.cell 1
    have x2 : w1.cell? ⟨b0, 2, none⟩ = some (.slice an K cn) := k0.cell 2
    have cw := manywritten_ok L N (by omega) a m c an K cn l w1 HA.out.1 HA.out.2.1 HA.out.2.2.1 r2 (fun x hx => by have := r3 x hx; omega) (fun hp => by
      obtain ⟨b, o, e, hlt, hcc⟩ := HA.out.2.2.2.1 hp
      exact ⟨b, o, e, Nat.lt_of_lt_of_le hlt hb1.size, fun i x hx => (hb1.cell (p := ⟨b, o + i, none⟩) hlt).trans (hcc i x hx)⟩) (HA.out.2.2.2.2.1.below hb1)
    rw [hM] at cw
    have HR : Aside (MWA L N K = 0 ∧ Below w.heap.size w w1) := ⟨hr, hb1⟩
    clear hr q1 q2 r1 r2 r3 hb1 k0
    go_wp2_with fail
    refine cw.mono ?_
    rintro e w2 ⟨v, rfl, hown, hb2⟩
    clear cw x0 x1 x2
    obtain ⟨av, cv, rfl⟩ := own_cut hown
    generalize hvv : Value.slice av (MWRT L N l).length cv = v at *
    have hw2 : Below w.heap.size w w2 := HR.out.2.trans (hb2.mono HR.out.2.size)
    have k1 := HA.out.2.2.2.2.2.2.keep hw2
    have c1 := k1.cell 0
    have f1 := k1.frozen 0
    have FN : Aside (ENCD w (w2.setCell ⟨b1, 0, none⟩ v) b1 (MWRT L N l)) := by
      have hlt := HA.out.2.2.2.2.2.2.lt
      refine ⟨⟨v, k1.set 0 v, own_mono (ownsRow_setCell_below hown (a := ⟨b1, 0, none⟩) (by show b1 < w1.heap.size; have := HR.out.2.size; omega) _) HR.out.2.size⟩, fun b hb hne => (Below.heap_setCell _ _ _ _ (by exact hne)).trans (hw2.block b hb), ?_⟩
      exact (hw2.mono (Nat.le_of_lt hlt)).setCell (p := ⟨b1, 0, none⟩) (Nat.le_refl _) _
    subst hvv
    clear hown hb2 hw2 k1 HA
    go_wp2_with fail
    exact bodyPost_end (v := .tuple #[]) (by simp [results, Tryd.f34]) rfl (.inl ⟨rfl, HR.out.1, FN.out⟩)
  · exact ⟨rfl, .inr ⟨_, rfl, rfl, hr, hb1⟩⟩
/-- what is answered: an error and bytes. -/
def ANSY (w : World) (A : Int × List Int) (e : Ending) (w' : World) : Prop := ∃ a c, e = .returned (.tuple #[.slice a A.2.length c, .int .i64 A.1]) ∧ w'.ownsRow w.heap.size 5 1 (.slice a A.2.length c) A.2.length (CELLS A.2) ∧ Below w.heap.size w w'
set_option maxHeartbeats 2000000 in
theorem manyencode_ok (L : List Nat) (N : Nat) (a : Option Addr) (m c : Nat) (an : Option Addr) (K cn : Nat) (l : List Int) (w : World) (hl : L.length = m) (hm : m < 2 ^ 20) (hc : m ≤ c) (hnil : a = none → c = 0) (hbl : ∀ x, a = some x → x.block < w.heap.size ∧ x.spot = none) (hK : K < 2 ^ 20) (hL : NUML w a L) (hF : Flat w an K l) (hT : Tabled w) (hw0 : 0 < w.heap.size) :
    Calls Tryd.prog 15 #[.agg (MBOX N a m c an K cn)] w (ANSY w (MENC L N K l)) := by
  have hmf : ∀ (fn : Fn) (first cap : Array Value) (w : World), (Instr.makeFunc fn first cap).run Tryd.prog w = .ok (.func fn first cap) w := fun _ _ _ _ => rfl
  obtain ⟨w1, e1⟩ : ∃ w1, w.alloc (.cells (MBOX N a m c an K cn) 40) = w1 := ⟨_, rfl⟩
  obtain ⟨w3, e3⟩ : ∃ w3, w1.alloc (.cells #[.slice none 0 0] 41) = w3 := ⟨_, rfl⟩
  obtain ⟨w4, e4⟩ : ∃ w4, w3.alloc (.cells #[.int .i64 0] 24) = w4 := ⟨_, rfl⟩
  have s1 : w1.heap.size = w.heap.size + 1 := by rw [← e1]; simp
  have s3 : w3.heap.size = w.heap.size + 2 := by rw [← e3]; simp; omega
  have s4 : w4.heap.size = w.heap.size + 3 := by rw [← e4]; simp; omega
  have hb4 : Below w.heap.size w w4 := by
    rw [← e4, ← e3, ← e1]
    exact (((Below.refl _ _).alloc (Nat.le_refl _) _).alloc (by simp) _).alloc (by simp; omega) _
  have h0 : Has w4 w.heap.size (MBOX N a m c an K cn) 40 := by
    rw [← e4, ← e3, ← e1]
    exact ((Has.new w _ _).alloc _).alloc _
  have h1 : Has w4 w1.heap.size #[.slice none 0 0] 41 := by
    rw [← e4, ← e3]
    exact (Has.new w1 _ _).alloc _
  have h3 : Has w4 w3.heap.size #[.int .i64 0] 24 := by
    rw [← e4]
    exact Has.new w3 _ _
  have hL4 : NUML w4 a L := fun hp => by
    obtain ⟨b, o, e, hlt, hcc⟩ := hL hp
    exact ⟨b, o, e, by omega, fun i x hx => (hb4.cell (p := ⟨b, o + i, none⟩) hlt).trans (hcc i x hx)⟩
  have cd := encodedo_ok L N a m c an K cn l w.heap.size w1.heap.size w4 hl hm hc hnil (fun x e => ⟨by have := (hbl x e).1; omega, (hbl x e).2⟩) hK hL4 (hF.below hb4) (hT.below hw0 hb4) (by omega) h0 h1
  rw [← e4] at cd
  have cf := faceE_ok w.heap.size w1.heap.size w3 _ _ cd
    (fun w' ⟨_, ht⟩ => by
      rw [e4] at ht
      exact (ht.keep w3.heap.size (by omega) (by omega)).trans h3)
    (fun x w' ⟨_, _, hb⟩ => by rw [e4] at hb; exact h3.keep hb)
  rw [e4] at cf
  have FIN : Aside (∀ e w', FACED w3 (fun w' => MWA L N K = 0 ∧ ENCD w4 w' w1.heap.size (MWRT L N l)) (fun x w' => x = MWA L N K ∧ x ≠ 0 ∧ Below w4.heap.size w4 w') e w' → e = .returned (.int .i64 (MENC L N K l).1) ∧ Below w.heap.size w w' ∧ ∃ a' c', Has w' w1.heap.size #[.slice a' (MENC L N K l).2.length c'] 41 ∧ w'.ownsRow w.heap.size 5 1 (.slice a' (MENC L N K l).2.length c') (MENC L N K l).2.length (CELLS (MENC L N K l).2)) := by
    rintro e w' (⟨rfl, wx, ⟨hr, ht⟩, rfl⟩ | ⟨x, wx, rfl, ⟨rfl, hx, hbx⟩, rfl⟩)
    · have hP : MENC L N K l = (0, MWRT L N l) := if_pos hr
      obtain ⟨v, hv, hown⟩ := ht.row
      obtain ⟨a', c', rfl⟩ := own_cut hown
      rw [hP]
      refine ⟨rfl, ?_, a', c', ?_, ?_⟩
      · exact ((hb4.trans (ht.below.mono (by omega)))).setCell (by show w.heap.size ≤ w3.heap.size; omega) _
      · exact hv.other (by show w1.heap.size ≠ w3.heap.size; omega) _
      · exact own_mono (ownsRow_setCell_below hown (a := ⟨w3.heap.size, 0, none⟩) (by show w3.heap.size < w4.heap.size; omega) _) (by omega)
    · have hP : MENC L N K l = (MWA L N K, []) := if_neg hx
      rw [hP]
      refine ⟨rfl, (hb4.trans (hbx.mono hb4.size)).setCell (by show w.heap.size ≤ w3.heap.size; omega) _, none, 0, ?_, ?_⟩
      · exact (h1.keep hbx).other (by show w1.heap.size ≠ w3.heap.size; omega) _
      · exact ⟨rfl, .inl ⟨rfl, rfl⟩⟩
  have hM : (MBOX N a m c an K cn) = #[.int .u64 (N : Int), .slice a m c, .slice an K cn] := rfl
  rw [hM] at e1
  clear cd h0 h1 h3 hL4 hb4 hl hm hc hnil hbl hL hF hT s1 s3 s4 e4 hw0 hK
  generalize MENC L N K l = A at *
  go_enter Tryd.func15, Tryd.ntmps15
  rw [hM]
  go_wp2_with fail
  refine cf.mono ?_
  intro e w5 hh
  obtain ⟨rfl, hb5, a', c', hv, hown⟩ := FIN.out e w5 hh
  have x0 := hv.cell 0
  have FN : Aside (ANSY w A (.returned (.tuple #[.slice a' A.2.length c', .int .i64 A.1])) w5) := ⟨a', c', rfl, hown, hb5⟩
  clear hh hb5 hv hown FIN cf
  go_wp2_with fail
  go_ret2
  exact FN.out
end Go.Proofs.YtadpfcpipklmbabDoor

/- The places that are told are put behind one another: the closure of Places of package many. -/
namespace Go.Proofs.YtadpfcpipklmbabDoor
open Go.RowKit
set_option maxRecDepth 100000

/-- a number is appended. -/
theorem app_num {ops : Array Oper} {rest : List Oper} {o : Oper} {a : Act} {Q : Exit → Act → World → Prop} (w : World) (hgd : o.guard = none) (s x : Operand)
    (ho : o.op = .call { callee := .builtin .append, args := #[s, x], argTypes := #[22, 22] })
    (base : Nat) (v : Value) (n : Nat) (xs : List Nat) (hs : a.eval s = v) (hown : w.ownsRow base 23 1 v n (UCELLS xs))
    (b c : Nat) (y : Nat) (hx : a.eval x = .slice (some ⟨b, 0, none⟩) 1 c) (hc : w.cell? ⟨b, 0, none⟩ = some (.int .u64 (y : Int)))
    (hb : n ≤ 2 ^ 30) (hbase : base ≤ w.heap.size)
    (h : ∀ g cap w', w'.ownsRow base 23 1 (.slice (some ⟨g, 0, none⟩) (n + 1) cap) (n + 1) (UCELLS (xs ++ [y])) → w.grownBy w' v.ownBlock → g < w'.heap.size → wpList Tryd.prog ops Q rest (a.put o.dst (.slice (some ⟨g, 0, none⟩) (n + 1) cap)) w') : wpList Tryd.prog ops Q (o :: rest) a w := by
  obtain ⟨i, hi, hz, hs1, hby⟩ := info_parts info_u64
  refine wpList_append_lies w hgd s x 22 ho base 23 i (.int .u64 0) 1 8 Tryd.underlying22 hi hz hs1 hby rfl (by decide) v n (UCELLS xs) hs hown ⟨b, 0, none⟩ 1 c [.int .u64 (y : Int)] hx rfl ?_ (fun u hu => by simp at hu; subst hu; rfl) (by decide) (by simp only [maxLen]; omega) (by omega) hbase w.heap.size rfl ?_
  · intro j u hj
    cases j with
    | zero =>
      simp only [List.getElem?_cons_zero, Option.some.injEq] at hj
      subst hj
      exact hc
    | succ j => simp at hj
  · intro g cap w' h1 h2 _ h4
    rw [← UCELLS_snoc] at h1
    exact h g cap w' h1 h2 h4
/-- the list that lies in bp has been told acc since w0. -/
structure TAKING (w0 w : World) (bp : Nat) (acc : List Nat) : Prop where
  row : ∃ v, Has w bp #[v] 22 ∧ w.ownsRow w0.heap.size 23 1 v acc.length (UCELLS acc)
  keep : ∀ b, b < w0.heap.size → b ≠ bp → w.heap[b]? = w0.heap[b]?
  lt : bp < w0.heap.size
  below : Below bp w0 w
theorem own_sliced {w : World} {B s n : Nat} {t : TypeId} {v : Value} {xs : List Value} (h : w.ownsRow B t s v n xs) : ∃ a c, v = .slice a n c := by
  rcases h.2 with ⟨e, h0⟩ | ⟨g, cap, cur, e, _⟩
  · exact ⟨none, 0, by rw [e, h0]⟩
  · exact ⟨_, _, e⟩
set_option maxHeartbeats 1000000 in
theorem take_ok {w0 w : World} {bp : Nat} {acc : List Nat} (hK : TAKING w0 w bp acc) (p : Nat) (hn : acc.length ≤ 2 ^ 30) : Calls Tryd.prog 25 #[.int .u64 (p : Int), .pointer (some ⟨bp, 0, none⟩)] w fun e w' => e = .returned (.tuple #[]) ∧ TAKING w0 w' bp (acc ++ [p]) := by
  obtain ⟨v, hv, hown⟩ := hK.row
  obtain ⟨a, c, rfl⟩ := own_sliced hown
  have c0 : w.cell? ⟨bp, 0, none⟩ = some (.slice a acc.length c) := hv.cell 0
  have HA : Aside (TAKING w0 w bp acc ∧ acc.length ≤ 2 ^ 30 ∧ Has w bp #[.slice a acc.length c] 22 ∧ w.ownsRow w0.heap.size 23 1 (.slice a acc.length c) acc.length (UCELLS acc)) := ⟨hK, hn, hv, hown⟩
  clear hK hn hv hown
  obtain ⟨n, hn⟩ : ∃ n, acc.length = n := ⟨_, rfl⟩
  rw [hn] at HA c0
  have HN : Aside (acc.length = n) := hn
  clear hn
  go_enter Tryd.func25, Tryd.ntmps25
  go_wp2_with (first
    | (at_builtin; refine app_num _ rfl (.tmp 3) (.tmp 5) rfl w0.heap.size (.slice a n c) n acc rfl (HA.out.2.2.2.alloc _) w.heap.size 1 p rfl ((Has.new _ _ _).cell 0) HA.out.2.1 (by have := HA.out.1.below.size; simp; omega) ?_; intro g1 c1 w1 hown1 hgrow1 hg1
       have hbp : Has w1 bp #[.slice a n c] 22 := by
         refine (hgrow1.block bp (by have := HA.out.2.2.1.lt; simp; omega) (fun e => ?_)).trans (HA.out.2.2.1.alloc _)
         have := (HA.out.2.2.2.lt bp e.symm).1
         have := HA.out.1.lt
         omega
       have x0 := hbp.cell 0
       have x1 := hbp.frozen 0
       have FN : Aside (TAKING w0 (w1.setCell ⟨bp, 0, none⟩ (.slice (some ⟨g1, 0, none⟩) (n + 1) c1)) bp (acc ++ [p])) := by
         have hlt := HA.out.1.lt
         have hsz := HA.out.1.below.size
         refine ⟨⟨.slice (some ⟨g1, 0, none⟩) (n + 1) c1, hbp.set 0 _, ?_⟩, fun b hb hne => ?_, hlt, ?_⟩
         · rw [List.length_append, HN.out]
           exact ownsRow_setCell_below hown1 (a := ⟨bp, 0, none⟩) hlt _
         · rw [Below.heap_setCell _ _ _ _ (by exact hne), hgrow1.block b (by simp; omega) (fun e => by have := (HA.out.2.2.2.lt b e.symm).1; omega), Below.heap_alloc _ _ _ (by omega)]
           exact HA.out.1.keep b hb hne
         · refine ((HA.out.1.below.alloc (by omega) _).grown hgrow1 (by simp; omega) (fun k e => ?_)).setCell (Nat.le_refl _) _
           have := (HA.out.2.2.2.lt k e).1
           omega
       clear hown1 hgrow1 hg1 hbp c0))
  exact bodyPost_end (v := .tuple #[]) (by simp [results, Tryd.f25]) rfl ⟨rfl, FN.out⟩
end Go.Proofs.YtadpfcpipklmbabDoor

/- needUnder and need of package many, with the closure of Places. -/
namespace Go.Proofs.YtadpfcpipklmbabDoor
open Go.RowKit
set_option maxRecDepth 100000

set_option maxHeartbeats 2000000 in
theorem underP_ok (w0 : World) (bi : Nat) (CP : Nat) (S P : List Nat → World → Prop) (X : List PanicEntry)
    (hS : ∀ acc w w', S acc w → Below w.heap.size w w' → S acc w') (hB : ∀ acc w, S acc w → (bi < w0.heap.size → w.heap[bi]? = w0.heap[bi]?) ∧ w0.heap.size ≤ w.heap.size)
    (ht : ∀ acc (p : Nat) w, S acc w → acc.length ≤ 2 ^ 30 → Calls Tryd.prog 25 #[.int .u64 (p : Int), .pointer (some ⟨CP, 0, none⟩)] w fun e w' => (e = .returned (.tuple #[]) ∧ S (acc ++ [p]) w') ∨ (e = .panicked X ∧ P acc w')) :
    ∀ (h k : Nat), Node h k → ∀ (L : List Nat) (a : Option Addr) (n c : Nat) (acc : List Nat) (w : World), L.length = n → n < 2 ^ 40 → RISES L → n ≤ c → (a = none → c = 0) → (∀ x, a = some x → x.block = bi ∧ x.spot = none) → NUML w0 a L → S acc w → acc.length + (NEED h k L).length ≤ 2 ^ 30 →
    Calls Tryd.prog 43 #[.int .u64 ((PLC h k : Nat) : Int), .slice a n c, .func (.func 25) #[] #[.pointer (some ⟨CP, 0, none⟩)]] w (TOLD S P X acc (NEED h k L)) := by
  intro h
  induction h with
  | zero =>
    intro k hN L a n c acc w hl hn hR hc hnil hbl hL hw hlen
    cases L with
    | nil =>
      obtain rfl : n = 0 := by simpa using hl.symm
      rw [NEED_nil] at hlen ⊢
      have ct := ht acc (PLC 0 k) w hw (by simp at hlen; omega)
      clear hl hn hR hc hnil hbl hL hw hlen ht hS hB
      go_enter Tryd.func43, Tryd.ntmps43
      go_wp2_with fail
      refine ct.mono ?_
      rintro e w1 (⟨rfl, h1⟩ | ⟨rfl, h1⟩)
      · clear ct
        have FN : Aside (S (acc ++ [PLC 0 k]) w1) := h1
        clear h1
        go_wp2_with fail
        exact bodyPost_ret (v := .tuple #[]) (by simp [results, Tryd.f43]) rfl (.inl ⟨rfl, FN.out⟩)
      · exact ⟨rfl, .inr ⟨acc, PLC 0 k, List.prefix_refl _, rfl, h1⟩⟩
    | cons x l =>
      have hn0 : ((n : Int) == 0) = false := beq_eq_false_iff_ne.2 (by simp at hl; omega)
      have ck := kids_leaf ((PLC 0 k : Nat) : Int) k w (.node hN)
      have HS : Aside (∀ w', Below w.heap.size w w' → S (acc ++ []) w') := fun w' hb => by rw [List.append_nil]; exact hS acc w w' hw hb
      clear hl hn hR hc hnil hbl hL hw hlen ht hS hB
      go_enter Tryd.func43, Tryd.ntmps43
      go_wp2_with fail
      refine ck.mono ?_
      rintro e w1 ⟨rfl, h1⟩
      clear ck
      have FN : Aside (S (acc ++ []) w1) := HS.out w1 h1
      clear h1 HS
      go_wp2_with fail
      exact bodyPost_ret (v := .tuple #[]) (by simp [results, Tryd.f43]) rfl (.inl ⟨rfl, FN.out⟩)
  | succ h ih =>
    intro k hN L a n c acc w hl hn hR hc hnil hbl hL hw hlen
    by_cases hLe : L = []
    · subst hLe
      obtain rfl : n = 0 := by simpa using hl.symm
      rw [NEED_nil] at hlen ⊢
      have ct := ht acc (PLC (h + 1) k) w hw (by simp at hlen; omega)
      clear hl hn hR hc hnil hbl hL hw hlen ht hS hB ih
      go_enter Tryd.func43, Tryd.ntmps43
      go_wp2_with fail
      refine ct.mono ?_
      rintro e w1 (⟨rfl, h1⟩ | ⟨rfl, h1⟩)
      · clear ct
        have FN : Aside (S (acc ++ [PLC (h + 1) k]) w1) := h1
        clear h1
        go_wp2_with fail
        exact bodyPost_ret (v := .tuple #[]) (by simp [results, Tryd.f43]) rfl (.inl ⟨rfl, FN.out⟩)
      · exact ⟨rfl, .inr ⟨acc, PLC (h + 1) k, List.prefix_refl _, rfl, h1⟩⟩
    · have hn0 : ((n : Int) == 0) = false := beq_eq_false_iff_ne.2 (by have := List.length_pos_iff.2 hLe; omega)
      obtain ⟨hNl, hNr⟩ := hN.kid
      have ck := kids_ok h k hN w
      have HA : Aside (L.length = n ∧ n < 2 ^ 40 ∧ RISES L ∧ n ≤ c ∧ (a = none → c = 0) ∧ (∀ x, a = some x → x.block = bi ∧ x.spot = none) ∧ NUML w0 a L ∧ S acc w ∧ acc.length + (NEED (h + 1) k L).length ≤ 2 ^ 30 ∧ L ≠ []) := ⟨hl, hn, hR, hc, hnil, hbl, hL, hw, hlen, hLe⟩
      have NS : Aside ((∀ acc w w', S acc w → Below w.heap.size w w' → S acc w') ∧ (∀ acc w, S acc w → (bi < w0.heap.size → w.heap[bi]? = w0.heap[bi]?) ∧ w0.heap.size ≤ w.heap.size) ∧ Node h (2 * k) ∧ Node h (2 * k + 1)) := ⟨hS, hB, hNl, hNr⟩
      have IH : Aside _ := ih
      clear hl hn hR hc hnil hbl hL hw hlen ht hS hB ih hNl hNr hLe
      go_enter Tryd.func43, Tryd.ntmps43
      go_wp2_with fail
      refine ck.mono ?_
      rintro e w1 ⟨rfl, hb1⟩
      clear ck
      have S1 : Aside (S acc w1) := NS.out.1 acc w w1 HA.out.2.2.2.2.2.2.2.1 hb1
      have hN1 : NUML w1 a L := fun h0 => by
        obtain ⟨b, o, e, hl, hcc⟩ := HA.out.2.2.2.2.2.2.1 h0
        have hbb : b = bi := (HA.out.2.2.2.2.2.1 _ e).1
        obtain ⟨k1, k2⟩ := NS.out.2.1 acc w1 S1.out
        subst hbb
        exact ⟨b, o, e, by omega, fun i x hx => (World.cell?_of_block (w := w0) (by exact k1 hl)).trans (hcc i x hx)⟩
      have cs := split_ok h (2 * k) NS.out.2.2.1 a n c L HA.out.1 HA.out.2.1 HA.out.2.2.1 HA.out.2.2.2.1 HA.out.2.2.2.2.1 (fun x e => (HA.out.2.2.2.2.2.1 x e).2) w1 hN1
      clear hb1 hN1
      go_wp2_with fail
      refine cs.mono ?_
      rintro e w2 ⟨r, a', rfl, hs⟩
      clear cs
      have hsp : NEED (h + 1) k L = NEED h (2 * k) (L.take r) ++ NEED h (2 * k + 1) (L.drop r) := NEED_take HA.out.2.2.2.2.2.2.2.2.2 hs.rank
      have hrn := hs.rank.le
      have ML : Aside (NUML w0 a (L.take r)) := fun h0 => by
        obtain ⟨b, o, e, hl, hcc⟩ := HA.out.2.2.2.2.2.2.1 (by rw [List.length_take] at h0; omega)
        refine ⟨b, o, e, hl, fun i x hx => hcc i x ?_⟩
        rw [List.getElem?_take] at hx
        split at hx
        · exact hx
        · cases hx
      have MR : Aside (NUML w0 a' (L.drop r) ∧ ∀ x, a' = some x → x.block = bi ∧ x.spot = none) := by
        refine ⟨fun h0 => ?_, fun x hx => ?_⟩
        · obtain ⟨b, o, e, hl, hcc⟩ := hs.lies h0
          obtain ⟨y, e2, e3⟩ := hs.block _ e
          have hbb : b = bi := by have := (HA.out.2.2.2.2.2.1 _ e2).1; rw [← e3] at this; exact this
          obtain ⟨k1, k2⟩ := NS.out.2.1 acc w1 S1.out
          obtain ⟨b', o', e', hl', _⟩ := HA.out.2.2.2.2.2.2.1 (by rw [List.length_drop] at h0; omega)
          have hbi : bi < w0.heap.size := by have h9 : b' = bi := (HA.out.2.2.2.2.2.1 _ e').1; omega
          subst hbb
          exact ⟨b, o, e, hbi, fun i x hx => (World.cell?_of_block (w := w1) (by exact (k1 hbi).symm)).trans (hcc i x hx)⟩
        · obtain ⟨y, e2, e3⟩ := hs.block x hx
          refine ⟨by rw [e3]; exact (HA.out.2.2.2.2.2.1 _ e2).1, hs.spot x hx⟩
      have S2 : Aside (S acc w2) := NS.out.1 acc w1 w2 S1.out hs.below
      have NL : Aside (a' = none → c - r = 0) := hs.nil
      have SP : Aside (NEED (h + 1) k L = NEED h (2 * k) (L.take r) ++ NEED h (2 * k + 1) (L.drop r) ∧ r ≤ n ∧ acc.length + (NEED h (2 * k) (L.take r)).length + (NEED h (2 * k + 1) (L.drop r)).length ≤ 2 ^ 30) := by
        refine ⟨hsp, by have := HA.out.1; omega, ?_⟩
        have h1 := HA.out.2.2.2.2.2.2.2.2.1
        rw [hsp, List.length_append] at h1
        omega
      clear hs hsp hrn S1
      have c1 := IH.out (2 * k) NS.out.2.2.1 (L.take r) a r c acc w2 (by rw [List.length_take]; have := SP.out.2.1; have := HA.out.1; omega) (by have := SP.out.2.1; have := HA.out.2.1; omega) (HA.out.2.2.1.take r) (by have := SP.out.2.1; have := HA.out.2.2.2.1; omega) HA.out.2.2.2.2.1 HA.out.2.2.2.2.2.1 ML.out S2.out (by have := SP.out.2.2; omega)
      go_wp2_with fail
      refine c1.mono ?_
      rintro e w3 (⟨rfl, h3⟩ | ⟨pre, p, hp, rfl, h3⟩)
      · clear c1
        have c2 := IH.out (2 * k + 1) NS.out.2.2.2 (L.drop r) a' (n - r) (c - r) (acc ++ NEED h (2 * k) (L.take r)) w3 (by rw [List.length_drop]; have := HA.out.1; omega) (by have := HA.out.2.1; omega) (HA.out.2.2.1.drop r) (by have := HA.out.2.2.2.1; omega) NL.out MR.out.2 MR.out.1 h3 (by rw [List.length_append]; exact SP.out.2.2)
        have SQ : Aside (acc ++ NEED h (2 * k) (L.take r) ++ NEED h (2 * k + 1) (L.drop r) = acc ++ NEED (h + 1) k L) := show acc ++ NEED h (2 * k) (L.take r) ++ NEED h (2 * k + 1) (L.drop r) = acc ++ NEED (h + 1) k L by rw [SP.out.1, List.append_assoc]
        clear h3 IH HA NS ML MR S2 NL SP
        go_wp2_with fail
        refine c2.mono ?_
        rintro e w4 (⟨rfl, h4⟩ | ⟨pre, p, hp, rfl, h4⟩)
        · have FN : Aside (S (acc ++ NEED (h + 1) k L) w4) := by rw [SQ.out] at h4; exact h4
          clear h4 c2 SQ
          go_wp2_with fail
          exact bodyPost_end (v := .tuple #[]) (by simp [results, Tryd.f43]) rfl (.inl ⟨rfl, FN.out⟩)
        · rw [SQ.out] at hp
          exact ⟨rfl, .inr ⟨pre, p, hp, rfl, h4⟩⟩
      · refine ⟨rfl, .inr ⟨pre, p, hp.trans ?_, rfl, h3⟩⟩
        rw [SP.out.1, ← List.append_assoc]
        exact List.prefix_append _ _
set_option maxHeartbeats 2000000 in
theorem needP_ok (bi CP : Nat) (S P : World → List Nat → World → Prop) (X : List PanicEntry)
    (hS : ∀ w0 acc w w', S w0 acc w → Below w.heap.size w w' → S w0 acc w') (hB : ∀ w0 acc w, S w0 acc w → (∀ b, b < w0.heap.size → b ≠ CP → w.heap[b]? = w0.heap[b]?) ∧ w0.heap.size ≤ w.heap.size)
    (ht : ∀ w0 acc (p : Nat) w, S w0 acc w → acc.length ≤ 2 ^ 30 → Calls Tryd.prog 25 #[.int .u64 (p : Int), .pointer (some ⟨CP, 0, none⟩)] w fun e w' => (e = .returned (.tuple #[]) ∧ S w0 (acc ++ [p]) w') ∨ (e = .panicked X ∧ P w0 acc w'))
    (N : Nat) (hN : N ≤ 4611686018427387904) (L : List Nat) (a : Option Addr) (n c : Nat) (w : World) (hl : L.length = n) (hn : n < 2 ^ 20) (hR : RISES L) (hc : n ≤ c) (hnil : a = none → c = 0) (hbl : ∀ x, a = some x → x.block = bi ∧ x.spot = none) (hL : NUML w a L) (hCb : bi ≠ CP) (hCP : CP < w.heap.size) (hT : Tabled w)
    (h0 : ∀ w1, Below w.heap.size w w1 → S w1 [] w1) :
    Calls Tryd.prog 24 #[.slice a n c, .int .u64 (N : Int), .func (.func 25) #[] #[.pointer (some ⟨CP, 0, none⟩)]] w fun e w' => ∃ w1, Below w.heap.size w w1 ∧ TOLD (S w1) (P w1) X [] (NEEDS (TPS N) L) e w' := by
  have cp := peaks_ok N hN w hT (by omega)
  have hPC : PC N ≤ 64 := PC_lt_pow 64 N (by omega)
  have hlen := TPS_length (n := N) (by omega)
  have hmost := NEEDS_most (TPS N) L (fun p hp => (TPS_span (n := N) (by omega) (h := p.1) (k := p.2) hp).1)
  have HA : Aside (n < 2 ^ 20 ∧ N ≤ 2 ^ 62 ∧ PC N ≤ 64 ∧ (TPS N).length = PC N ∧ (NEEDS (TPS N) L).length ≤ 2 ^ 30 ∧ bi ≠ CP ∧ CP < w.heap.size) := ⟨hn, by omega, hPC, hlen, by omega, hCb, hCP⟩
  have ST : Aside ((∀ w0 acc w w', S w0 acc w → Below w.heap.size w w' → S w0 acc w') ∧ (∀ w0 acc w, S w0 acc w → (∀ b, b < w0.heap.size → b ≠ CP → w.heap[b]? = w0.heap[b]?) ∧ w0.heap.size ≤ w.heap.size)) := ⟨hS, hB⟩
  have HT : Aside (∀ w0 acc (p : Nat) w, S w0 acc w → acc.length ≤ 2 ^ 30 → Calls Tryd.prog 25 #[.int .u64 (p : Int), .pointer (some ⟨CP, 0, none⟩)] w fun e w' => (e = .returned (.tuple #[]) ∧ S w0 (acc ++ [p]) w') ∨ (e = .panicked X ∧ P w0 acc w')) := ht
  have LL : Aside (L.length = n ∧ RISES L ∧ n ≤ c ∧ (a = none → c = 0) ∧ (∀ x, a = some x → x.block = bi ∧ x.spot = none) ∧ NUML w a L ∧ ∀ w1, Below w.heap.size w w1 → S w1 [] w1) := ⟨hl, hR, hc, hnil, hbl, hL, h0⟩
  clear hN hl hn hR hc hnil hbl hL hCb hCP hT h0 hS hB ht hPC hlen hmost
  go_enter Tryd.func24, Tryd.ntmps24
  go_wp2_with fail
  refine cp.mono ?_
  rintro e w1 ⟨g, cg, rfl, hown, hb1⟩
  clear cp
  obtain ⟨m, hm⟩ : ∃ m, PC N = m := ⟨_, rfl⟩
  rw [hm] at hown ⊢
  have R1 : Aside (w1.ownsRow w.heap.size 23 1 (.slice (some ⟨g, 0, none⟩) m cg) m (UCELLS (PEAKS N)) ∧ Below w.heap.size w w1 ∧ PC N = m ∧ g ≠ CP ∧ g < w1.heap.size ∧ w.heap.size ≤ g) := ⟨hown, hb1, hm, by have h1 := (hown.lt g rfl).1; have := HA.out.2.2.2.2.2.2; omega, (hown.lt g rfl).2, (hown.lt g rfl).1⟩
  have L0 : Aside (NUML w1 a L) := fun h0 => by
    obtain ⟨b, o, e, hl, hcc⟩ := LL.out.2.2.2.2.2.1 h0
    exact ⟨b, o, e, Nat.lt_of_lt_of_le hl hb1.size, fun i x hx => (hb1.cell (p := ⟨b, o + i, none⟩) hl).trans (hcc i x hx)⟩
  clear hown hb1 hm
  go_wp2_with fail
  go_loopg [0, 13] m (fun q s0 s13 wx => ∃ (j n' c' : Nat) (a' : Option Addr) (Lj told : List Nat), s0 = .slice a' n' c' ∧ s13 = .int .i64 (j : Int) ∧ Aside (j + q = m ∧ Lj.length = n' ∧ n' ≤ n ∧ RISES Lj ∧ n' ≤ c' ∧ (a' = none → c' = 0) ∧ (∀ x, a' = some x → x.block = bi ∧ x.spot = none) ∧ NUML w1 a' Lj ∧ S w1 told wx ∧ NEEDS (TPS N) L = told ++ NEEDS ((TPS N).drop j) Lj))
  case atStart => exact ⟨0, n, c, a, L, [], rfl, rfl, by omega, LL.out.1, Nat.le_refl _, LL.out.2.1, LL.out.2.2.1, LL.out.2.2.2.1, LL.out.2.2.2.2.1, L0.out, LL.out.2.2.2.2.2.2 w1 R1.out.2.1, by simp⟩
  case round =>
    obtain ⟨j, n', c', a', Lj, told, rfl, rfl, A⟩ := hrel
    clear L0 LL
    cases gk with
    | zero =>
      obtain rfl : j = m := by have := A.out.1; omega
      have hlt : ¬ (j : Int) < (j : Int) := by omega
      have FN : Aside (∃ w1, Below w.heap.size w w1 ∧ TOLD (S w1) (P w1) X [] (NEEDS (TPS N) L) (.returned (.tuple #[])) wr) := by
        obtain ⟨h1, h2, h3, h4, h5, h6, h7, h8, h9, h10⟩ := A.out
        refine ⟨w1, R1.out.2.1, .inl ⟨rfl, ?_⟩⟩
        rw [List.drop_of_length_le (by have := R1.out.2.2.1; have := HA.out.2.2.2.1; omega)] at h10
        rw [h10, NEEDS, List.append_nil, List.nil_append]
        exact h9
      clear A R1 ST HT HA
      go_wp2_with fail
      exact bodyPost_end (v := .tuple #[]) (by simp [results, Tryd.f24]) rfl FN.out
    | succ q =>
      have hlt : (j : Int) < (m : Int) := by have := A.out.1; omega
      have hjm : j < (TPS N).length := by have := A.out.1; have := R1.out.2.2.1; have := HA.out.2.2.2.1; omega
      obtain ⟨⟨h, k⟩, ehk⟩ : ∃ s, (TPS N)[j]? = some s := ⟨_, List.getElem?_eq_getElem hjm⟩
      have hsp := TPS_span HA.out.2.1 (List.mem_of_getElem? ehk)
      have epk := TPS_peak ehk
      obtain ⟨k1, k2⟩ := ST.out.2 w1 told wr A.out.2.2.2.2.2.2.2.2.1
      have hcell : wr.cell? ⟨g, j, none⟩ = some (.int .u64 ((PLC h k : Nat) : Int)) := by
        have h1 := R1.out.1.cellAt j (by have := A.out.1; omega)
        refine (World.cell?_of_block (w := w1) (by exact k1 g R1.out.2.2.2.2.1 R1.out.2.2.2.1)).trans (h1.trans ?_)
        rw [UCELLS, List.getElem?_map, epk]
        rfl
      have ej : wrap64 ((j : Int) + 1) = ((j + 1 : Nat) : Int) := by have := A.out.1; have := R1.out.2.2.1; have := HA.out.2.2.1; unfold wrap64; omega
      have hN1 : NUML wr a' Lj := fun h0 => by
        obtain ⟨b, o, e, hl, hcc⟩ := A.out.2.2.2.2.2.2.2.1 h0
        have hbb : b = bi := (A.out.2.2.2.2.2.2.1 _ e).1
        exact ⟨b, o, e, by omega, fun i x hx => (World.cell?_of_block (w := w1) (by exact k1 b hl (by rw [hbb]; exact HA.out.2.2.2.2.2.1))).trans (hcc i x hx)⟩
      have cs := split_ok h k hsp.2.2 a' n' c' Lj A.out.2.1 (by have := A.out.2.2.1; have := HA.out.1; omega) A.out.2.2.2.1 A.out.2.2.2.2.1 A.out.2.2.2.2.2.1 (fun x e => (A.out.2.2.2.2.2.2.1 x e).2) wr hN1
      have SP : Aside (Node h k ∧ (TPS N)[j]? = some (h, k) ∧ j < (TPS N).length) := ⟨hsp.2.2, ehk, hjm⟩
      clear hsp ehk epk k1 k2 hN1 hjm
      go_wp2_with fail
      refine cs.mono ?_
      rintro e w2 ⟨r, a2, rfl, hs⟩
      clear cs hcell
      have hdrop : (TPS N).drop j = (h, k) :: (TPS N).drop (j + 1) := drop_at SP.out.2.1
      have hneed := NEEDS_take ((TPS N).drop (j + 1)) hs.rank
      rw [← hdrop] at hneed
      have hrn := hs.rank.le
      have S2 : S w1 told w2 := ST.out.1 w1 told wr w2 A.out.2.2.2.2.2.2.2.2.1 hs.below
      have MR : Aside (NUML w1 a2 (Lj.drop r) ∧ (∀ x, a2 = some x → x.block = bi ∧ x.spot = none) ∧ (a2 = none → c' - r = 0) ∧ r ≤ n' ∧ NUML w1 a' (Lj.take r) ∧ NEEDS ((TPS N).drop j) Lj = NEED h k (Lj.take r) ++ NEEDS ((TPS N).drop (j + 1)) (Lj.drop r)) := by
        refine ⟨fun h0 => ?_, fun x hx => ?_, hs.nil, by have := A.out.2.1; omega, fun h0 => ?_, hneed⟩
        · obtain ⟨b, o, e, hl, hcc⟩ := hs.lies h0
          obtain ⟨y, e2, e3⟩ := hs.block _ e
          have hbb : b = bi := by have := (A.out.2.2.2.2.2.2.1 _ e2).1; rw [← e3] at this; exact this
          obtain ⟨k1, k2⟩ := ST.out.2 w1 told wr A.out.2.2.2.2.2.2.2.2.1
          obtain ⟨b', o', e', hl', _⟩ := A.out.2.2.2.2.2.2.2.1 (by rw [List.length_drop] at h0; omega)
          have hbi : bi < w1.heap.size := by have h9 : b' = bi := (A.out.2.2.2.2.2.2.1 _ e').1; omega
          subst hbb
          exact ⟨b, o, e, hbi, fun i x hx => (World.cell?_of_block (w := wr) (by exact (k1 b hbi HA.out.2.2.2.2.2.1).symm)).trans (hcc i x hx)⟩
        · obtain ⟨y, e2, e3⟩ := hs.block x hx
          exact ⟨by rw [e3]; exact (A.out.2.2.2.2.2.2.1 _ e2).1, hs.spot x hx⟩
        · obtain ⟨b, o, e, hl, hcc⟩ := A.out.2.2.2.2.2.2.2.1 (by rw [List.length_take] at h0; omega)
          refine ⟨b, o, e, hl, fun i x hx => hcc i x ?_⟩
          rw [List.getElem?_take] at hx
          split at hx
          · exact hx
          · cases hx
      have TL : Aside (told.length + (NEED h k (Lj.take r)).length ≤ 2 ^ 30 ∧ NEEDS (TPS N) L = told ++ NEED h k (Lj.take r) ++ NEEDS ((TPS N).drop (j + 1)) (Lj.drop r)) := by
        have h1 := A.out.2.2.2.2.2.2.2.2.2
        rw [MR.out.2.2.2.2.2, ← List.append_assoc] at h1
        refine ⟨?_, h1⟩
        have h2 := HA.out.2.2.2.2.1
        rw [h1, List.length_append, List.length_append] at h2
        omega
      have cu := underP_ok w1 bi CP (S w1) (P w1) X (ST.out.1 w1) (fun acc w hw => ⟨fun hbi => (ST.out.2 w1 acc w hw).1 bi hbi HA.out.2.2.2.2.2.1, (ST.out.2 w1 acc w hw).2⟩) (HT.out w1) h k SP.out.1 (Lj.take r) a' r c' told w2 (by rw [List.length_take]; have := A.out.2.1; have := MR.out.2.2.2.1; omega) (by have := MR.out.2.2.2.1; have := A.out.2.2.1; have := HA.out.1; omega) (A.out.2.2.2.1.take r) (by have := MR.out.2.2.2.1; have := A.out.2.2.2.2.1; omega) A.out.2.2.2.2.2.1 A.out.2.2.2.2.2.2.1 MR.out.2.2.2.2.1 S2 TL.out.1
      clear hs hdrop hneed hrn S2
      go_wp2_with fail
      refine cu.mono ?_
      rintro e w3 (⟨rfl, h3⟩ | ⟨pre, p, hp, rfl, h3⟩)
      · have Z : Aside (j + 1 + q = m ∧ (Lj.drop r).length = n' - r ∧ n' - r ≤ n ∧ RISES (Lj.drop r) ∧ n' - r ≤ c' - r ∧ (a2 = none → c' - r = 0) ∧ (∀ x, a2 = some x → x.block = bi ∧ x.spot = none) ∧ NUML w1 a2 (Lj.drop r) ∧ S w1 (told ++ NEED h k (Lj.take r)) w3 ∧ NEEDS (TPS N) L = (told ++ NEED h k (Lj.take r)) ++ NEEDS ((TPS N).drop (j + 1)) (Lj.drop r)) := by
          obtain ⟨h1, h2, _, h4, h5, _⟩ := A.out
          refine ⟨by clear ej; omega, by rw [List.length_drop, h2], by have := A.out.2.2.1; clear ej; omega, h4.drop r, by clear ej; omega, MR.out.2.2.1, MR.out.2.1, MR.out.1, h3, TL.out.2⟩
        clear h3 cu A MR TL SP R1
        go_wp2_with fail
        go_roundg q
        case measure => exact Nat.lt_succ_self _
        case rel => exact ⟨j + 1, n' - r, c' - r, a2, Lj.drop r, told ++ NEED h k (Lj.take r), rfl, by first | rfl | (rw [ej]), Z.out⟩
      · refine ⟨rfl, w1, R1.out.2.1, .inr ⟨pre, p, hp.trans ?_, rfl, h3⟩⟩
        rw [List.nil_append, TL.out.2]
        exact List.prefix_append _ _
end Go.Proofs.YtadpfcpipklmbabDoor
