/- Texts of ManySets, one behind the other: ManyPlacesCall, ManyAwake, ManyNumbers. -/
import Derived.Laws.AppendOwnNone
import Derived.Test.YtadpfcpipklmbabDoorManySetsP12
/- Places of package many. -/
namespace Go.Proofs.YtadpfcpipklmbabDoor
open Go.RowKit
set_option maxRecDepth 100000

theorem TAKING.still {w0 w w' : World} {bp : Nat} {acc : List Nat} (h : TAKING w0 w bp acc) (hb : Below w.heap.size w w') : TAKING w0 w' bp acc := by
  obtain ⟨v, h1, h2⟩ := h.row
  have hs := h.below.size
  have hlt := h.lt
  refine ⟨⟨v, h1.keep hb, ?_⟩, fun b hb0 hne => (hb.block b (by omega)).trans (h.keep b hb0 hne), hlt, h.below.trans (hb.mono (by omega))⟩
  refine ⟨h2.1, h2.2.imp id ?_⟩
  rintro ⟨g', c, cur, rfl, b, r, rest⟩
  exact ⟨g', c, cur, rfl, b, (hb.block g' (Array.getElem?_eq_some_iff.1 r).1).trans r, rest⟩
/-- what Places answers. -/
def PLCA (L : List Nat) (N : Nat) : List Nat := if RISEA L N = 0 then NEEDS (TPS N) L else []
set_option maxHeartbeats 2000000 in
theorem placesdo_ok (L : List Nat) (N : Nat) (a : Option Addr) (m c : Nat) (b0 b1 b2 : Nat) (w : World) (hl : L.length = m) (hm : m < 2 ^ 20) (hc : m ≤ c) (hnil : a = none → c = 0) (hbl : ∀ x, a = some x → x.block ≠ b2 ∧ x.spot = none) (hL : NUML w a L) (hT : Tabled w)
    (h0 : Has w b0 #[.slice a m c] 22) (h1 : Has w b1 #[.int .u64 (N : Int)] 23) (h2 : Has w b2 #[.slice none 0 0] 22) :
    Calls Tryd.prog 22 #[.pointer (some ⟨b0, 0, none⟩), .pointer (some ⟨b1, 0, none⟩), .pointer (some ⟨b2, 0, none⟩)] w fun e w' =>
      (e = .returned (.tuple #[]) ∧ (RISEA L N = 0 ∧ ∃ w1, Below w.heap.size w w1 ∧ TAKING w1 w' b2 (NEEDS (TPS N) L))) ∨ ∃ x, e = .panicked (WRONG x) ∧ (x = RISEA L N ∧ x ≠ 0 ∧ w' = w) := by
  have hmf : ∀ (fn : Fn) (first cap : Array Value) (w : World), (Instr.makeFunc fn first cap).run Tryd.prog w = .ok (.func fn first cap) w := fun _ _ _ _ => rfl
  have cm := mustrise_ok L N a m c hl (by omega) w hL
  have x0 := h0.cell 0
  have x1 := h1.cell 0
  have hb2 := h2.lt
  have HA : Aside (L.length = m ∧ m < 2 ^ 20 ∧ m ≤ c ∧ (a = none → c = 0) ∧ (∀ x, a = some x → x.block ≠ b2 ∧ x.spot = none) ∧ NUML w a L ∧ Tabled w ∧ Has w b2 #[.slice none 0 0] 22) := ⟨hl, hm, hc, hnil, hbl, hL, hT, h2⟩
  clear hl hm hc hnil hbl hL hT h2 h0 h1
  go_enter Tryd.func22, Tryd.ntmps22
  go_wp2_with fail
  refine cm.mono ?_
  rintro e w1 ⟨rfl, (⟨hr, rfl⟩ | ⟨hr, rfl⟩)⟩
  · clear cm
    obtain ⟨r1, r2, r3⟩ := RISEA_ok hr
    obtain ⟨bj, hbj, hbn⟩ : ∃ bj, (∀ x, a = some x → x.block = bj ∧ x.spot = none) ∧ bj ≠ b2 := by
      cases a with
      | none => exact ⟨b2 + 1, fun x e => (by cases e), by omega⟩
      | some x => exact ⟨x.block, fun y e => (by cases e; exact ⟨rfl, (HA.out.2.2.2.2.1 x rfl).2⟩), (HA.out.2.2.2.2.1 x rfl).1⟩
    have cn := needP_ok bj b2 (fun w0 acc w => TAKING w0 w b2 acc) (fun _ _ _ => False) [] (fun w0 acc w w' h hb => h.still hb) (fun w0 acc w h => ⟨fun b hb hne => h.keep b hb hne, h.below.size⟩) (fun w0 acc p w h hn => (take_ok h p hn).mono fun e w' hh => .inl hh) N r1 L a m c w HA.out.1 HA.out.2.1 r2 HA.out.2.2.1 HA.out.2.2.2.1 hbj HA.out.2.2.2.2.2.1 hbn hb2 HA.out.2.2.2.2.2.2.1
      (fun w1 hb => ⟨⟨.slice none 0 0, HA.out.2.2.2.2.2.2.2.keep hb, ⟨rfl, .inl ⟨rfl, rfl⟩⟩⟩, fun b _ _ => rfl, (HA.out.2.2.2.2.2.2.2.keep hb).lt, Below.refl _ _⟩)
    have HR : Aside (RISEA L N = 0) := hr
    clear r1 r2 r3 hbj hbn HA hr hb2
    go_wp2_with fail
    refine cn.mono ?_
    rintro e w2 ⟨w1, hb1, (⟨rfl, ht⟩ | ⟨pre, p, _, _, hf⟩)⟩
    · clear cn
      have FN : Aside (∃ w1, Below w.heap.size w w1 ∧ TAKING w1 w2 b2 (NEEDS (TPS N) L)) := ⟨w1, hb1, by rw [List.nil_append] at ht; exact ht⟩
      clear hb1 ht
      go_wp2_with fail
      exact bodyPost_end (v := .tuple #[]) (by simp [results, Tryd.f22]) rfl (.inl ⟨rfl, HR.out, FN.out⟩)
    · exact hf.elim
  · exact ⟨rfl, .inr ⟨_, rfl, rfl, hr, rfl⟩⟩
/-- what is answered: an error and a list of numbers. -/
def ANSN (w : World) (E : Int) (l : List Nat) (e : Ending) (w' : World) : Prop := ∃ a c, e = .returned (.tuple #[.slice a l.length c, .int .i64 E]) ∧ w'.ownsRow w.heap.size 23 1 (.slice a l.length c) l.length (UCELLS l) ∧ Below w.heap.size w w'
set_option maxHeartbeats 2000000 in
theorem manyplaces_ok (L : List Nat) (N : Nat) (a : Option Addr) (m c : Nat) (w : World) (hl : L.length = m) (hm : m < 2 ^ 20) (hc : m ≤ c) (hnil : a = none → c = 0) (hbl : ∀ x, a = some x → x.block < w.heap.size ∧ x.spot = none) (hL : NUML w a L) (hT : Tabled w) (hw0 : 0 < w.heap.size) :
    Calls Tryd.prog 6 #[.slice a m c, .int .u64 (N : Int)] w (ANSN w (RISEA L N) (PLCA L N)) := by
  have hmf : ∀ (fn : Fn) (first cap : Array Value) (w : World), (Instr.makeFunc fn first cap).run Tryd.prog w = .ok (.func fn first cap) w := fun _ _ _ _ => rfl
  obtain ⟨w1, e1⟩ : ∃ w1, w.alloc (.cells #[.slice a m c] 22) = w1 := ⟨_, rfl⟩
  obtain ⟨w2, e2⟩ : ∃ w2, w1.alloc (.cells #[.int .u64 (N : Int)] 23) = w2 := ⟨_, rfl⟩
  obtain ⟨w3, e3⟩ : ∃ w3, w2.alloc (.cells #[.slice none 0 0] 22) = w3 := ⟨_, rfl⟩
  obtain ⟨w4, e4⟩ : ∃ w4, w3.alloc (.cells #[.int .i64 0] 24) = w4 := ⟨_, rfl⟩
  have s1 : w1.heap.size = w.heap.size + 1 := by rw [← e1]; simp
  have s2 : w2.heap.size = w.heap.size + 2 := by rw [← e2]; simp; omega
  have s3 : w3.heap.size = w.heap.size + 3 := by rw [← e3]; simp; omega
  have s4 : w4.heap.size = w.heap.size + 4 := by rw [← e4]; simp; omega
  have hb4 : Below w.heap.size w w4 := by
    rw [← e4, ← e3, ← e2, ← e1]
    exact ((((Below.refl _ _).alloc (Nat.le_refl _) _).alloc (by simp) _).alloc (by simp; omega) _).alloc (by simp; omega) _
  have h0 : Has w4 w.heap.size #[.slice a m c] 22 := by
    rw [← e4, ← e3, ← e2, ← e1]
    exact (((Has.new w _ _).alloc _).alloc _).alloc _
  have h1 : Has w4 w1.heap.size #[.int .u64 (N : Int)] 23 := by
    rw [← e4, ← e3, ← e2]
    exact ((Has.new w1 _ _).alloc _).alloc _
  have h2 : Has w4 w2.heap.size #[.slice none 0 0] 22 := by
    rw [← e4, ← e3]
    exact (Has.new w2 _ _).alloc _
  have h3 : Has w4 w3.heap.size #[.int .i64 0] 24 := by
    rw [← e4]
    exact Has.new w3 _ _
  have hL4 : NUML w4 a L := fun hp => by
    obtain ⟨b, o, e, hlt, hcc⟩ := hL hp
    exact ⟨b, o, e, by omega, fun i x hx => (hb4.cell (p := ⟨b, o + i, none⟩) hlt).trans (hcc i x hx)⟩
  have cd := placesdo_ok L N a m c w.heap.size w1.heap.size w2.heap.size w4 hl hm hc hnil (fun x e => ⟨by have := (hbl x e).1; omega, (hbl x e).2⟩) hL4 (hT.below hw0 hb4) h0 h1 h2
  rw [← e4] at cd
  have cf := faceP_ok w.heap.size w1.heap.size w2.heap.size w3 _ _ cd
    (fun w' ⟨_, wx, hbx, ht⟩ => by
      rw [e4] at hbx
      exact (ht.keep w3.heap.size (by have := hbx.size; omega) (by omega)).trans (h3.keep hbx))
    (fun x w' ⟨_, _, e⟩ => by rw [e, e4]; exact h3)
  rw [e4] at cf
  have FIN : Aside (∀ e w', FACED w3 (fun w' => RISEA L N = 0 ∧ ∃ w1, Below w4.heap.size w4 w1 ∧ TAKING w1 w' w2.heap.size (NEEDS (TPS N) L)) (fun x w' => x = RISEA L N ∧ x ≠ 0 ∧ w' = w4) e w' → e = .returned (.int .i64 (RISEA L N)) ∧ Below w.heap.size w w' ∧ ∃ a' c', Has w' w2.heap.size #[.slice a' (PLCA L N).length c'] 22 ∧ w'.ownsRow w.heap.size 23 1 (.slice a' (PLCA L N).length c') (PLCA L N).length (UCELLS (PLCA L N))) := by
    rintro e w' (⟨rfl, wx, ⟨hr, wy, hby, ht⟩, rfl⟩ | ⟨x, wx, rfl, ⟨rfl, hx, rfl⟩, rfl⟩)
    · have hP : PLCA L N = NEEDS (TPS N) L := if_pos hr
      have hsz := hby.size
      obtain ⟨v, hv, hown⟩ := ht.row
      obtain ⟨a', c', rfl⟩ := own_sliced hown
      refine ⟨by rw [hr], ?_, a', c', ?_, ?_⟩
      · exact ((hb4.trans (hby.mono hb4.size)).trans (ht.below.mono (by omega))).setCell (by show w.heap.size ≤ w3.heap.size; omega) _
      · rw [hP]
        exact hv.other (by show w2.heap.size ≠ w3.heap.size; omega) _
      · rw [hP]
        exact own_mono (ownsRow_setCell_below hown (a := ⟨w3.heap.size, 0, none⟩) (by show w3.heap.size < wy.heap.size; omega) _) (by omega)
    · have hP : PLCA L N = [] := if_neg hx
      refine ⟨rfl, hb4.setCell (by show w.heap.size ≤ w3.heap.size; omega) _, none, 0, ?_, ?_⟩
      · rw [hP]
        exact h2.other (by show w2.heap.size ≠ w3.heap.size; omega) _
      · rw [hP]
        exact ⟨rfl, .inl ⟨rfl, rfl⟩⟩
  clear cd h0 h1 h2 h3 hL4 hb4 hl hm hc hnil hbl hL hT s1 s2 s3 s4 e4 hw0
  go_enter Tryd.func6, Tryd.ntmps6
  go_wp2_with fail
  refine cf.mono ?_
  intro e w5 hh
  obtain ⟨rfl, hb5, a', c', hv, hown⟩ := FIN.out e w5 hh
  have x0 := hv.cell 0
  have FN : Aside (ANSN w (RISEA L N) (PLCA L N) (.returned (.tuple #[.slice a' (PLCA L N).length c', .int .i64 (RISEA L N)])) w5) := ⟨a', c', rfl, hown, hb5⟩
  clear hh hb5 hv hown FIN cf
  go_wp2_with fail
  go_ret2
  exact FN.out
end Go.Proofs.YtadpfcpipklmbabDoor

/- massiflaw10.awake: what two leaves of seven need; the bytes of a proof. -/
namespace Go.Proofs.YtadpfcpipklmbabDoor
open Go.RowKit
set_option maxRecDepth 100000

/-- the hash 7 0 0 .. -/
def H7 : List Int := 7 :: List.replicate 31 0
theorem H7_arr : (CELLS H7).toArray = #[.int .u8 7, .int .u8 0, .int .u8 0, .int .u8 0, .int .u8 0, .int .u8 0, .int .u8 0, .int .u8 0, .int .u8 0, .int .u8 0, .int .u8 0, .int .u8 0, .int .u8 0, .int .u8 0, .int .u8 0, .int .u8 0, .int .u8 0, .int .u8 0, .int .u8 0, .int .u8 0, .int .u8 0, .int .u8 0, .int .u8 0, .int .u8 0, .int .u8 0, .int .u8 0, .int .u8 0, .int .u8 0, .int .u8 0, .int .u8 0, .int .u8 0, .int .u8 0] := rfl
theorem PLCA_awake : PLCA [1, 2] 7 = [0, 4, 9, 10] := by decide +kernel
theorem RISEA_awake : RISEA [1, 2] 7 = 0 := by decide +kernel
theorem MENC_awake : MENC [0, 2] 3 1 H7 = (0, 78 :: 3 :: 2 :: 0 :: 1 :: H7) := by decide +kernel
theorem lit_two (w : World) (x y : Nat) : NUML (w.alloc (.cells #[.int .u64 (x : Int), .int .u64 (y : Int)] 23)) (some ⟨w.heap.size, 0, none⟩) [x, y] := fun _ => by
  refine ⟨w.heap.size, 0, rfl, by simp, fun i z hz => ?_⟩
  have h := (Has.new w #[.int .u64 (x : Int), .int .u64 (y : Int)] 23).cell (0 + i)
  rw [h, Nat.zero_add]
  match i with
  | 0 => simp at hz; subst hz; rfl
  | 1 => simp at hz; subst hz; rfl
  | i + 2 => simp at hz
theorem own_some {w : World} {B s n c : Nat} {t : TypeId} {a : Option Addr} {xs : List Value} (h : w.ownsRow B t s (.slice a n c) n xs) (hn : 0 < n) : ∃ g, a = some ⟨g, 0, none⟩ := by
  rcases h.2 with ⟨e, h0⟩ | ⟨g, cap, cur, e, _⟩
  · omega
  · simp only [Value.slice.injEq] at e
    exact ⟨g, e.1⟩
theorem flat_seven (w : World) : Flat (w.alloc (.cells (CELLS H7).toArray 56)) (some ⟨w.heap.size, 0, none⟩) 1 H7 := by
  refine ⟨rfl, fun _ => ⟨w.heap.size, 0, rfl, by simp, fun j hj => ?_⟩, by decide⟩
  rw [(Has.new w (CELLS H7).toArray 56).cell (0 + j), Nat.zero_add, List.getElem?_toArray]
  exact CELLS_get H7 j hj
set_option maxHeartbeats 2000000 in
theorem awake10_ok (w : World) (hT : Tabled w) (h0 : 0 < w.heap.size) : Calls Tryd.prog 8 #[] w fun e w' => e = .returned (.bool true) ∧ Below w.heap.size w w' := by
  obtain ⟨w1, e1⟩ : ∃ w1, w.alloc (.cells #[.int .u64 1, .int .u64 2] 23) = w1 := ⟨_, rfl⟩
  have hb1 : Below w.heap.size w w1 := by rw [← e1]; exact (Below.refl _ _).alloc (Nat.le_refl _) _
  have s1 : w1.heap.size = w.heap.size + 1 := by rw [← e1]; simp
  have cp := manyplaces_ok [1, 2] 7 (some ⟨w.heap.size, 0, none⟩) 2 2 w1 rfl (by decide) (by decide) (fun h => by cases h) (fun x e => by cases e; exact ⟨by show w.heap.size < w1.heap.size; omega, rfl⟩) (by rw [← e1]; exact lit_two w 1 2) (hT.below h0 hb1) (by omega)
  rw [PLCA_awake, RISEA_awake] at cp
  have B1 : Aside (Below w.heap.size w w1 ∧ Tabled w ∧ 0 < w.heap.size) := ⟨hb1, hT, h0⟩
  clear hb1 s1 hT h0
  go_enter Tryd.func8, Tryd.ntmps8
  go_wp2_with fail
  refine cp.mono ?_
  rintro e w2 ⟨a2, c2, rfl, hown2, hb2⟩
  clear cp e1
  have R2 : Aside (w2.ownsRow w1.heap.size 23 1 (.slice a2 4 c2) 4 (UCELLS [0, 4, 9, 10]) ∧ Below w.heap.size w w2) := ⟨hown2, B1.out.1.trans (hb2.mono B1.out.1.size)⟩
  clear hown2 hb2
  obtain ⟨w3, e3⟩ : ∃ w3, w2.alloc (.cells #[.int .u64 0, .int .u64 2] 23) = w3 := ⟨_, rfl⟩
  have s3 : w3.heap.size = w2.heap.size + 1 := by rw [← e3]; simp
  obtain ⟨w4, e4⟩ : ∃ w4, w3.alloc (.cells (CELLS H7).toArray 56) = w4 := ⟨_, rfl⟩
  have hb3 : Below w2.heap.size w2 w3 := by rw [← e3]; exact (Below.refl _ _).alloc (Nat.le_refl _) _
  have hb4' : Below w3.heap.size w3 w4 := by rw [← e4]; exact (Below.refl _ _).alloc (Nat.le_refl _) _
  have hb4 : Below w2.heap.size w2 w4 := hb3.trans (hb4'.mono hb3.size)
  have hbw4 : Below w.heap.size w w4 := R2.out.2.trans (hb4.mono R2.out.2.size)
  have hN4 : NUML w4 (some ⟨w2.heap.size, 0, none⟩) [0, 2] := by
    have h1 := lit_two w2 0 2
    have h2 : NUML w3 (some ⟨w2.heap.size, 0, none⟩) [0, 2] := by rw [← e3]; exact h1
    exact h2.below hb4' (fun x e => by cases e; show w2.heap.size < w3.heap.size; omega)
  have hF4 : Flat w4 (some ⟨w2.heap.size + 1, 0, none⟩) 1 H7 := by rw [← e4, ← s3]; exact flat_seven w3
  have ce := manyencode_ok [0, 2] 3 (some ⟨w2.heap.size, 0, none⟩) 2 2 (some ⟨w2.heap.size + 1, 0, none⟩) 1 1 H7 w4 rfl (by decide) (by decide) (fun h => by cases h) (fun x e => by cases e; exact ⟨by show w2.heap.size < w4.heap.size; have := hb4'.size; omega, rfl⟩) (by decide) hN4 hF4 (B1.out.2.1.below B1.out.2.2 hbw4) (by have := B1.out.2.2; have := hbw4.size; omega)
  rw [MENC_awake] at ce
  rw [H7_arr] at e4
  have hM : MBOX 3 (some ⟨w2.heap.size, 0, none⟩) 2 2 (some ⟨w2.heap.size + 1, 0, none⟩) 1 1 = #[.int .u64 3, .slice (some ⟨w2.heap.size, 0, none⟩) 2 2, .slice (some ⟨w2.heap.size + 1, 0, none⟩) 1 1] := rfl
  rw [hM] at ce
  have R4 : Aside (w4.ownsRow w1.heap.size 23 1 (.slice a2 4 c2) 4 (UCELLS [0, 4, 9, 10]) ∧ Below w.heap.size w w4) := ⟨own_below R2.out.1 hb4, hbw4⟩
  clear hM hb3 hb4' hb4 hbw4 hN4 hF4 R2 B1
  go_wp2_with fail
  refine ce.mono ?_
  rintro e w5 ⟨a5, c5, rfl, hown5, hb5⟩
  clear ce e3 e4
  have o2 := own_below R4.out.1 hb5
  obtain ⟨g2, rfl⟩ := own_some o2 (by decide)
  obtain ⟨g5, rfl⟩ := own_some hown5 (by decide)
  have y0 : w5.cell? ⟨g2, 0, none⟩ = some (.int .u64 0) := o2.cellAt 0 (by decide)
  have y1 : w5.cell? ⟨g2, 1, none⟩ = some (.int .u64 4) := o2.cellAt 1 (by decide)
  have y2 : w5.cell? ⟨g2, 2, none⟩ = some (.int .u64 9) := o2.cellAt 2 (by decide)
  have z0 : w5.cell? ⟨g5, 0, none⟩ = some (.int .u8 78) := hown5.cellAt 0 (by decide)
  have z4 : w5.cell? ⟨g5, 4, none⟩ = some (.int .u8 1) := hown5.cellAt 4 (by decide)
  have z5 : w5.cell? ⟨g5, 5, none⟩ = some (.int .u8 7) := hown5.cellAt 5 (by decide)
  have FN : Aside (Below w.heap.size w w5) := R4.out.2.trans (hb5.mono R4.out.2.size)
  have hlen : (78 :: 3 :: 2 :: 0 :: 1 :: H7).length = 37 := rfl
  rw [hlen]
  clear o2 hown5 hb5 R4 s3
  go_wp2_with fail
  go_ret
  exact ⟨rfl, FN.out⟩
end Go.Proofs.YtadpfcpipklmbabDoor

/- massiflaw10.numbers: the same numbers in a list of their own that goes on behind them. -/
namespace Go.Proofs.YtadpfcpipklmbabDoor
open Go.RowKit
set_option maxRecDepth 100000

/-- numbers are appended. -/
theorem app_nums {ops : Array Oper} {rest : List Oper} {o : Oper} {a : Act} {Q : Exit → Act → World → Prop} (w : World) (hgd : o.guard = none) (s x : Operand)
    (ho : o.op = .call { callee := .builtin .append, args := #[s, x], argTypes := #[22, 22] })
    (base : Nat) (v : Value) (n : Nat) (xs : List Value) (hs : a.eval s = v) (hown : w.ownsRow base 23 1 v n xs)
    (ad : Option Addr) (m c : Nat) (L : List Nat) (hx : a.eval x = .slice ad m c) (hL : NUML w ad L) (hl : L.length = m) (hc : ad = none → c = 0)
    (hb : n + m ≤ 2 ^ 30) (hbase : base ≤ w.heap.size)
    (hh : ∀ a' c' w', w'.ownsRow base 23 1 (.slice a' (n + m) c') (n + m) (xs ++ UCELLS L) → w.grownBy w' v.ownBlock → wpList Tryd.prog ops Q rest (a.put o.dst (.slice a' (n + m) c')) w') : wpList Tryd.prog ops Q (o :: rest) a w := by
  obtain ⟨i, hi, hz, hs1, hby⟩ := info_parts info_u64
  cases ad with
  | none =>
    obtain rfl := hc rfl
    have hL0 : L = [] := by
      cases L with
      | nil => rfl
      | cons y l =>
        obtain ⟨b, o', e, _⟩ := hL (by simp)
        cases e
    subst hL0
    obtain rfl : m = 0 := by simpa using hl.symm
    refine wpList_append_own_none hgd s x 22 ho base 23 i 1 Tryd.underlying22 hi v n xs hs hown hx ?_
    obtain ⟨a', c', rfl⟩ := own_sliced hown
    have := hh a' c' w (by simpa [UCELLS] using hown) ⟨rfl, rfl, rfl, Nat.le_refl _, fun _ _ _ => rfl⟩
    simpa using this
  | some ad =>
    have hcells : ∀ j u, (UCELLS L)[j]? = some u → w.cell? (ad.add j) = some u := by
      intro j u hu
      have hj : j < L.length := by have := (List.getElem?_eq_some_iff.1 hu).1; rwa [UCELLS_length] at this
      obtain ⟨g, o', e, _, hr⟩ := hL (by omega)
      cases e
      rw [Addr.add_mid, hr j _ (List.getElem?_eq_getElem hj)]
      rw [UCELLS, List.getElem?_map, List.getElem?_eq_getElem hj] at hu
      exact hu
    refine wpList_append_own w hgd s x 22 ho base 23 i (.int .u64 0) 1 8 Tryd.underlying22 hi hz hs1 hby rfl (by decide) v n xs hs hown ad m c (UCELLS L) hx (by rw [UCELLS_length]; omega) hcells (fun u hu => by
      obtain ⟨y, _, rfl⟩ := List.mem_map.1 hu
      rfl) (by simp only [maxLen]; omega) (by omega) hbase ?_
    intro v' w' h1 h2 _
    obtain ⟨a', c', rfl⟩ := own_sliced h1
    exact hh a' c' w' h1 h2
theorem own_nothing (w : World) : (w.alloc (.cells #[] 23)).ownsRow w.heap.size 23 1 (.slice (some ⟨w.heap.size, 0, none⟩) 0 0) 0 [] :=
  World.ownsRow_lit w #[] 0 (Nat.le_refl _) (by simp [maxLen]) rfl
theorem own_front {w : World} {base g n cap : Nat} {L : List Nat} {x : Nat} (hl : L.length = n) (h : w.ownsRow base 23 1 (.slice (some ⟨g, 0, none⟩) (n + 1) cap) (n + 1) (UCELLS (L ++ [x]))) : w.ownsRow base 23 1 (.slice (some ⟨g, 0, none⟩) n cap) n (UCELLS L) ∧ n + 1 ≤ cap ∧ w.cell? ⟨g, n, none⟩ = some (.int .u64 (x : Int)) ∧ g < w.heap.size := by
  have hr : w.cell? ⟨g, n, none⟩ = some (.int .u64 (x : Int)) := by
    rw [h.cellAt n (by omega), UCELLS_snoc, List.getElem?_append_right (by rw [UCELLS_length]; omega), UCELLS_length, hl, Nat.sub_self]
    rfl
  rcases h.2 with ⟨e, _⟩ | ⟨g', cap', cur, e, hb, hg, h1, h2, h3, h4⟩
  · cases e
  · cases e
    refine ⟨⟨by rw [UCELLS_length, hl, Nat.mul_one], .inr ⟨g, cap, cur, rfl, hb, hg, by omega, h2, h3, ?_⟩⟩, h1, hr, (Array.getElem?_eq_some_iff.1 hg).1⟩
    have h5 := congrArg (List.take (n * 1)) h4
    rw [List.take_take, show min (n * 1) ((n + 1) * 1) = n * 1 by omega] at h5
    rw [h5, UCELLS_snoc, List.take_left' (by rw [UCELLS_length, hl, Nat.mul_one])]
/-- what numbers answers. -/
structure NUMD (w w' : World) (g n cap : Nat) (L : List Nat) : Prop where
  own : w'.ownsRow w.heap.size 23 1 (.slice (some ⟨g, 0, none⟩) n cap) n (UCELLS L)
  room : n + 1 ≤ cap
  mark : w'.cell? ⟨g, n, none⟩ = some (.int .u64 171)
  lt : g < w'.heap.size
  base : w.heap.size ≤ g
  below : Below w.heap.size w w'
theorem NUMD.lies {w w' : World} {g n cap : Nat} {L : List Nat} (h : NUMD w w' g n cap L) (hl : L.length = n) : NUML w' (some ⟨g, 0, none⟩) L := fun _ => ⟨g, 0, rfl, h.lt, fun i x hx => by
  have hi : i < L.length := (List.getElem?_eq_some_iff.1 hx).1
  rw [Nat.zero_add, h.own.cellAt i (by omega), UCELLS, List.getElem?_map, hx]
  rfl⟩
set_option maxHeartbeats 1000000 in
theorem numbers10_ok (a : Option Addr) (n c : Nat) (L : List Nat) (hl : L.length = n) (hn : n < 2 ^ 20) (hc : a = none → c = 0) (w : World) (hL : NUML w a L) : Calls Tryd.prog 7 #[.slice a n c] w fun e w' => ∃ g cap, e = .returned (.slice (some ⟨g, 0, none⟩) n cap) ∧ NUMD w w' g n cap L := by
  have HA : Aside (L.length = n ∧ n < 2 ^ 20 ∧ (a = none → c = 0) ∧ NUML w a L) := ⟨hl, hn, hc, hL⟩
  clear hl hn hc hL
  go_enter Tryd.func7, Tryd.ntmps7
  go_wp2_with (first
    | (at_builtin; refine app_nums _ rfl (.tmp 3) (.tmp 4) rfl w.heap.size (.slice (some ⟨w.heap.size, 0, none⟩) 0 0) 0 [] rfl (own_nothing w) a n c L rfl (fun hp => by
         obtain ⟨b, o, e, hlt, hcc⟩ := HA.out.2.2.2 hp
         exact ⟨b, o, e, by simp; omega, fun i x hx => (((Below.refl w.heap.size w).alloc (Nat.le_refl _) _).cell (p := ⟨b, o + i, none⟩) hlt).trans (hcc i x hx)⟩) HA.out.1 HA.out.2.2.1 (by have := HA.out.2.1; omega) (by simp) ?_; rw [Nat.zero_add, List.nil_append]; intro a1 c1 w1 hown1 hgrow1
       have R1 : Aside (w1.ownsRow w.heap.size 23 1 (.slice a1 n c1) n (UCELLS L) ∧ Below w.heap.size w w1) := ⟨hown1, ((Below.refl _ w).alloc (Nat.le_refl _) _).grown hgrow1 (by simp) (fun k e => by cases e; exact Nat.le_refl _)⟩
       clear hown1 hgrow1)
    | (at_builtin; refine app_num _ rfl (.tmp 5) (.tmp 6) rfl w.heap.size (.slice a1 n c1) n L rfl (R1.out.1.alloc _) w1.heap.size 1 171 rfl ((Has.new _ _ _).cell 0) (by have := HA.out.2.1; omega) (by have := R1.out.2.size; simp; omega) ?_; intro g2 c2 w2 hown2 hgrow2 hg2
       obtain ⟨f1, f2, f3, f4⟩ := own_front HA.out.1 hown2
       have hcap : (n : Int) ≤ (c2 : Int) := by omega
       have R2 : Aside (NUMD w w2 g2 n c2 L) := ⟨f1, f2, f3, f4, (f1.lt g2 rfl).1, (R1.out.2.alloc R1.out.2.size _).grown hgrow2 (by have := R1.out.2.size; simp; omega) (fun k e => (R1.out.1.lt k e).1)⟩
       clear hown2 hgrow2 hg2 f1 f2 f3 f4))
  go_ret
  exact ⟨_, _, rfl, R2.out⟩
end Go.Proofs.YtadpfcpipklmbabDoor
