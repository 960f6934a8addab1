/- Texts of ManyOne, one behind the other: ManyPlacesCall, NumSlice, NumByteCalls, NumAppend, NumShortCalls. -/
import Derived.Test.YtadpfcpipklmbabDoorProg
import Derived.WalkKit
import Derived.WalkLawsBesides
import Derived.Deep.LoopGhost
import Derived.Deep.OwnRows
import Derived.Deep.QuietTactic
import Derived.BigQuiet
import Derived.Deep.AppendLies
import Derived.Laws.AppendOwnNone
import Derived.Test.YtadpfcpipklmbabDoorManyOneP1
import Derived.Test.YtadpfcpipklmbabDoorManyOneP2
import Derived.Test.YtadpfcpipklmbabDoorManyOneP8
/- Places of package many. -/
namespace Go.Proofs.YtadpfcpipklmbabDoor
open Go.RowKit
set_option maxRecDepth 100000

theorem TAKING.still {w0 w w' : World} {bp : Nat} {acc : List Nat} (h : TAKING w0 w bp acc) (hb : Below w.heap.size w w') : TAKING w0 w' bp acc := by
  obtain ⟨v, h1, h2⟩ := h.row
  have hs := h.below.size
  have hlt := h.lt
  refine ⟨⟨v, h1.keep hb, ?_⟩, fun b hb0 hne => (hb.block b (by omega)).trans (h.keep b hb0 hne), hlt, h.below.trans (hb.mono (by omega))⟩
  refine ⟨h2.1, h2.2.imp id ?_⟩
  rintro ⟨g', c, cur, rfl, b, r, rest⟩
  exact ⟨g', c, cur, rfl, b, (hb.block g' (Array.getElem?_eq_some_iff.1 r).1).trans r, rest⟩
/-- what Places answers. -/
def PLCA (L : List Nat) (N : Nat) : List Nat := if RISEA L N = 0 then NEEDS (TPS N) L else []
set_option maxHeartbeats 2000000 in
theorem placesdo_ok (L : List Nat) (N : Nat) (a : Option Addr) (m c : Nat) (b0 b1 b2 : Nat) (w : World) (hl : L.length = m) (hm : m < 2 ^ 20) (hc : m ≤ c) (hnil : a = none → c = 0) (hbl : ∀ x, a = some x → x.block ≠ b2 ∧ x.spot = none) (hL : NUML w a L) (hT : Tabled w)
    (h0 : Has w b0 #[.slice a m c] 22) (h1 : Has w b1 #[.int .u64 (N : Int)] 23) (h2 : Has w b2 #[.slice none 0 0] 22) :
    Calls Tryd.prog 22 #[.pointer (some ⟨b0, 0, none⟩), .pointer (some ⟨b1, 0, none⟩), .pointer (some ⟨b2, 0, none⟩)] w fun e w' =>
      (e = .returned (.tuple #[]) ∧ (RISEA L N = 0 ∧ ∃ w1, Below w.heap.size w w1 ∧ TAKING w1 w' b2 (NEEDS (TPS N) L))) ∨ ∃ x, e = .panicked (WRONG x) ∧ (x = RISEA L N ∧ x ≠ 0 ∧ w' = w) := by
  have hmf : ∀ (fn : Fn) (first cap : Array Value) (w : World), (Instr.makeFunc fn first cap).run Tryd.prog w = .ok (.func fn first cap) w := fun _ _ _ _ => rfl
  have cm := mustrise_ok L N a m c hl (by omega) w hL
  have x0 := h0.cell 0
  have x1 := h1.cell 0
  have hb2 := h2.lt
  have HA : Aside (L.length = m ∧ m < 2 ^ 20 ∧ m ≤ c ∧ (a = none → c = 0) ∧ (∀ x, a = some x → x.block ≠ b2 ∧ x.spot = none) ∧ NUML w a L ∧ Tabled w ∧ Has w b2 #[.slice none 0 0] 22) := ⟨hl, hm, hc, hnil, hbl, hL, hT, h2⟩
  clear hl hm hc hnil hbl hL hT h2 h0 h1
  go_enter Tryd.func22, Tryd.ntmps22
  go_wp2_with fail
  refine cm.mono ?_
  rintro e w1 ⟨rfl, (⟨hr, rfl⟩ | ⟨hr, rfl⟩)⟩
  · clear cm
    obtain ⟨r1, r2, r3⟩ := RISEA_ok hr
    obtain ⟨bj, hbj, hbn⟩ : ∃ bj, (∀ x, a = some x → x.block = bj ∧ x.spot = none) ∧ bj ≠ b2 := by
      cases a with
      | none => exact ⟨b2 + 1, fun x e => (by cases e), by omega⟩
      | some x => exact ⟨x.block, fun y e => (by cases e; exact ⟨rfl, (HA.out.2.2.2.2.1 x rfl).2⟩), (HA.out.2.2.2.2.1 x rfl).1⟩
    have cn := needP_ok bj b2 (fun w0 acc w => TAKING w0 w b2 acc) (fun _ _ _ => False) [] (fun w0 acc w w' h hb => h.still hb) (fun w0 acc w h => ⟨fun b hb hne => h.keep b hb hne, h.below.size⟩) (fun w0 acc p w h hn => (take_ok h p hn).mono fun e w' hh => .inl hh) N r1 L a m c w HA.out.1 HA.out.2.1 r2 HA.out.2.2.1 HA.out.2.2.2.1 hbj HA.out.2.2.2.2.2.1 hbn hb2 HA.out.2.2.2.2.2.2.1
      (fun w1 hb => ⟨⟨.slice none 0 0, HA.out.2.2.2.2.2.2.2.keep hb, ⟨rfl, .inl ⟨rfl, rfl⟩⟩⟩, fun b _ _ => rfl, (HA.out.2.2.2.2.2.2.2.keep hb).lt, Below.refl _ _⟩)
    have HR : Aside (RISEA L N = 0) := hr
    clear r1 r2 r3 hbj hbn HA hr hb2
    go_wp2_with fail
    refine cn.mono ?_
    rintro e w2 ⟨w1, hb1, (⟨rfl, ht⟩ | ⟨pre, p, _, _, hf⟩)⟩
    · clear cn
      have FN : Aside (∃ w1, Below w.heap.size w w1 ∧ TAKING w1 w2 b2 (NEEDS (TPS N) L)) := ⟨w1, hb1, by rw [List.nil_append] at ht; exact ht⟩
      clear hb1 ht
      go_wp2_with fail
      exact bodyPost_end (v := .tuple #[]) (by simp [results, Tryd.f22]) rfl (.inl ⟨rfl, HR.out, FN.out⟩)
    · exact hf.elim
  · exact ⟨rfl, .inr ⟨_, rfl, rfl, hr, rfl⟩⟩
/-- what is answered: an error and a list of numbers. -/
def ANSN (w : World) (E : Int) (l : List Nat) (e : Ending) (w' : World) : Prop := ∃ a c, e = .returned (.tuple #[.slice a l.length c, .int .i64 E]) ∧ w'.ownsRow w.heap.size 23 1 (.slice a l.length c) l.length (UCELLS l) ∧ Below w.heap.size w w'
set_option maxHeartbeats 2000000 in
theorem manyplaces_ok (L : List Nat) (N : Nat) (a : Option Addr) (m c : Nat) (w : World) (hl : L.length = m) (hm : m < 2 ^ 20) (hc : m ≤ c) (hnil : a = none → c = 0) (hbl : ∀ x, a = some x → x.block < w.heap.size ∧ x.spot = none) (hL : NUML w a L) (hT : Tabled w) (hw0 : 0 < w.heap.size) :
    Calls Tryd.prog 6 #[.slice a m c, .int .u64 (N : Int)] w (ANSN w (RISEA L N) (PLCA L N)) := by
  have hmf : ∀ (fn : Fn) (first cap : Array Value) (w : World), (Instr.makeFunc fn first cap).run Tryd.prog w = .ok (.func fn first cap) w := fun _ _ _ _ => rfl
  obtain ⟨w1, e1⟩ : ∃ w1, w.alloc (.cells #[.slice a m c] 22) = w1 := ⟨_, rfl⟩
  obtain ⟨w2, e2⟩ : ∃ w2, w1.alloc (.cells #[.int .u64 (N : Int)] 23) = w2 := ⟨_, rfl⟩
  obtain ⟨w3, e3⟩ : ∃ w3, w2.alloc (.cells #[.slice none 0 0] 22) = w3 := ⟨_, rfl⟩
  obtain ⟨w4, e4⟩ : ∃ w4, w3.alloc (.cells #[.int .i64 0] 24) = w4 := ⟨_, rfl⟩
  have s1 : w1.heap.size = w.heap.size + 1 := by rw [← e1]; simp
  have s2 : w2.heap.size = w.heap.size + 2 := by rw [← e2]; simp; omega
  have s3 : w3.heap.size = w.heap.size + 3 := by rw [← e3]; simp; omega
  have s4 : w4.heap.size = w.heap.size + 4 := by rw [← e4]; simp; omega
  have hb4 : Below w.heap.size w w4 := by
    rw [← e4, ← e3, ← e2, ← e1]
    exact ((((Below.refl _ _).alloc (Nat.le_refl _) _).alloc (by simp) _).alloc (by simp; omega) _).alloc (by simp; omega) _
  have h0 : Has w4 w.heap.size #[.slice a m c] 22 := by
    rw [← e4, ← e3, ← e2, ← e1]
    exact (((Has.new w _ _).alloc _).alloc _).alloc _
  have h1 : Has w4 w1.heap.size #[.int .u64 (N : Int)] 23 := by
    rw [← e4, ← e3, ← e2]
    exact ((Has.new w1 _ _).alloc _).alloc _
  have h2 : Has w4 w2.heap.size #[.slice none 0 0] 22 := by
    rw [← e4, ← e3]
    exact (Has.new w2 _ _).alloc _
  have h3 : Has w4 w3.heap.size #[.int .i64 0] 24 := by
    rw [← e4]
    exact Has.new w3 _ _
  have hL4 : NUML w4 a L := fun hp => by
    obtain ⟨b, o, e, hlt, hcc⟩ := hL hp
    exact ⟨b, o, e, by omega, fun i x hx => (hb4.cell (p := ⟨b, o + i, none⟩) hlt).trans (hcc i x hx)⟩
  have cd := placesdo_ok L N a m c w.heap.size w1.heap.size w2.heap.size w4 hl hm hc hnil (fun x e => ⟨by have := (hbl x e).1; omega, (hbl x e).2⟩) hL4 (hT.below hw0 hb4) h0 h1 h2
  rw [← e4] at cd
  have cf := faceP_ok w.heap.size w1.heap.size w2.heap.size w3 _ _ cd
    (fun w' ⟨_, wx, hbx, ht⟩ => by
      rw [e4] at hbx
      exact (ht.keep w3.heap.size (by have := hbx.size; omega) (by omega)).trans (h3.keep hbx))
    (fun x w' ⟨_, _, e⟩ => by rw [e, e4]; exact h3)
  rw [e4] at cf
  have FIN : Aside (∀ e w', FACED w3 (fun w' => RISEA L N = 0 ∧ ∃ w1, Below w4.heap.size w4 w1 ∧ TAKING w1 w' w2.heap.size (NEEDS (TPS N) L)) (fun x w' => x = RISEA L N ∧ x ≠ 0 ∧ w' = w4) e w' → e = .returned (.int .i64 (RISEA L N)) ∧ Below w.heap.size w w' ∧ ∃ a' c', Has w' w2.heap.size #[.slice a' (PLCA L N).length c'] 22 ∧ w'.ownsRow w.heap.size 23 1 (.slice a' (PLCA L N).length c') (PLCA L N).length (UCELLS (PLCA L N))) := by
    rintro e w' (⟨rfl, wx, ⟨hr, wy, hby, ht⟩, rfl⟩ | ⟨x, wx, rfl, ⟨rfl, hx, rfl⟩, rfl⟩)
    · have hP : PLCA L N = NEEDS (TPS N) L := if_pos hr
      have hsz := hby.size
      obtain ⟨v, hv, hown⟩ := ht.row
      obtain ⟨a', c', rfl⟩ := own_sliced hown
      refine ⟨by rw [hr], ?_, a', c', ?_, ?_⟩
      · exact ((hb4.trans (hby.mono hb4.size)).trans (ht.below.mono (by omega))).setCell (by show w.heap.size ≤ w3.heap.size; omega) _
      · rw [hP]
        exact hv.other (by show w2.heap.size ≠ w3.heap.size; omega) _
      · rw [hP]
        exact own_mono (ownsRow_setCell_below hown (a := ⟨w3.heap.size, 0, none⟩) (by show w3.heap.size < wy.heap.size; omega) _) (by omega)
    · have hP : PLCA L N = [] := if_neg hx
      refine ⟨rfl, hb4.setCell (by show w.heap.size ≤ w3.heap.size; omega) _, none, 0, ?_, ?_⟩
      · rw [hP]
        exact h2.other (by show w2.heap.size ≠ w3.heap.size; omega) _
      · rw [hP]
        exact ⟨rfl, .inl ⟨rfl, rfl⟩⟩
  clear cd h0 h1 h2 h3 hL4 hb4 hl hm hc hnil hbl hL hT s1 s2 s3 s4 e4 hw0
  go_enter Tryd.func6, Tryd.ntmps6
  go_wp2_with fail
  refine cf.mono ?_
  intro e w5 hh
  obtain ⟨rfl, hb5, a', c', hv, hown⟩ := FIN.out e w5 hh
  have x0 := hv.cell 0
  have FN : Aside (ANSN w (RISEA L N) (PLCA L N) (.returned (.tuple #[.slice a' (PLCA L N).length c', .int .i64 (RISEA L N)])) w5) := ⟨a', c', rfl, hown, hb5⟩
  clear hh hb5 hv hown FIN cf
  go_wp2_with fail
  go_ret2
  exact FN.out
end Go.Proofs.YtadpfcpipklmbabDoor

/- Slices of bytes: rows of cells by a function; what a slice reads as. -/
namespace Go.Proofs.YtadpfcpipklmbabDoor
open Go.RowKit

/-- n cells, each a byte. -/
def BARR (n : Nat) (f : Nat → Int) : Array Value := ((List.range n).map fun i => Value.int .u8 (f i)).toArray
theorem BARR_size (n : Nat) (f : Nat → Int) : (BARR n f).size = n := by simp [BARR]
theorem BARR_get (n : Nat) (f : Nat → Int) (i : Nat) (h : i < n) : (BARR n f)[i]? = some (.int .u8 (f i)) := by simp [BARR, h]
theorem BARR_ext {n : Nat} {f g : Nat → Int} (h : ∀ i, i < n → f i = g i) : BARR n f = BARR n g := by
  unfold BARR
  congr 1
  apply List.map_congr_left
  intro i hi
  rw [h i (by simpa using hi)]
theorem BARR_set (n : Nat) (f : Nat → Int) (i : Nat) (v : Int) : (BARR n f).setIfInBounds i (.int .u8 v) = BARR n fun j => if j = i then v else f j := by
  apply Array.ext_getElem?
  intro j
  by_cases hj : j < n
  · rw [BARR_get _ _ j hj, Array.getElem?_setIfInBounds]
    by_cases h : i = j
    · subst h
      simp [BARR_size, hj]
    · have h' : ¬ j = i := fun e => h e.symm
      simp [h, h', BARR_get _ _ j hj]
  · rw [Array.getElem?_eq_none (by simp [BARR_size]; omega), Array.getElem?_eq_none (by simp [BARR_size]; omega)]
theorem BARR_made (n : Nat) : madeCells #[Value.int .u8 0] n = BARR n fun _ => 0 := by
  apply Array.ext_getElem?
  intro j
  by_cases hj : j < n
  · rw [BARR_get _ _ j hj]
    simp [madeCells, hj, Nat.mod_one]
  · rw [Array.getElem?_eq_none (by simp [madeCells]; omega), Array.getElem?_eq_none (by simp [BARR_size]; omega)]
theorem info_u8 : (Tryd.prog.info? 5).map (fun i => (i.zero, i.size, i.bytes)) = some (some (.int .u8 0), 1, 1) := by kernel_rfl
theorem make_bytes (n : Nat) (hn : n ≤ 1000000) (w : World) : (Instr.makeSlice 41 (.int .i64 (n : Int)) (.int .i64 (n : Int))).run Tryd.prog w = .ok (.slice (some ⟨w.heap.size, 0, none⟩) n n) (w.alloc (.cells (BARR n fun _ => 0) 5)) := by
  rw [run_make_row' 41 5 (.int .u8 0) 1 Tryd.underlying41 info_u8 rfl .i64 .i64 n (by omega) (by omega) w, BARR_made]

/-- a slice that came in: nil, or a row of cells, each a byte. -/
def IsRow (k : IntKind) (w : World) (a : Option Addr) (len cap : Nat) (zs : List Int) : Prop :=
  (a = none ∧ len = 0 ∧ cap = 0 ∧ zs = []) ∨
  ∃ x, a = some x ∧ len ≤ cap ∧ cap ≤ maxLen ∧ zs.length = cap ∧ (∀ i, i < zs.length → w.cell? (x.add i) = some (.int k (zs.getD i 0))) ∧ ∀ n ∈ zs, (Lit.int k n).wf = true

/-- a slice of n bytes reads as l. -/
def Bytes (w : World) (a : Option Addr) (n : Nat) (l : List Int) : Prop :=
  l.length = n ∧ (0 < n → ∃ b off, a = some ⟨b, off, none⟩ ∧ b < w.heap.size ∧ ∀ i, i < n → w.cell? ⟨b, off + i, none⟩ = some (.int .u8 (l.getD i 0))) ∧ ∀ x ∈ l, 0 ≤ x ∧ x ≤ 255
theorem Bytes.below {w w' : World} {a : Option Addr} {n : Nat} {l : List Int} (h : Bytes w a n l) (hb : Below w.heap.size w w') : Bytes w' a n l :=
  ⟨h.1, fun hn => by
    obtain ⟨b, off, e, hl, hc⟩ := h.2.1 hn
    exact ⟨b, off, e, Nat.lt_of_lt_of_le hl hb.size, fun i hi => (hb.cell (by exact hl)).trans (hc i hi)⟩, h.2.2⟩
theorem Bytes.get {w : World} {a : Option Addr} {n : Nat} {l : List Int} (h : Bytes w a n l) (i : Nat) : 0 ≤ l.getD i 0 ∧ l.getD i 0 ≤ 255 := by
  by_cases hi : i < l.length
  · rw [List.getD_eq_getElem?_getD, List.getElem?_eq_getElem hi]
    exact h.2.2 _ (List.getElem_mem hi)
  · rw [List.getD_eq_getElem?_getD, List.getElem?_eq_none (by omega)]
    simp
theorem addr_add (b off i : Nat) : (⟨b, off, none⟩ : Addr).add i = ⟨b, off + i, none⟩ := by unfold Addr.add; split <;> simp_all
theorem IsRow.bytes {w : World} {a : Option Addr} {n c : Nat} {zs : List Int} (h : IsRow .u8 w a n c zs) : Bytes w a n (zs.take n) := by
  rcases h with ⟨rfl, rfl, rfl, rfl⟩ | ⟨x, rfl, hl, _, hz, hcell, hwf⟩
  · exact ⟨rfl, fun h => by omega, fun x hx => by simp at hx⟩
  · refine ⟨by simp [hz, hl], fun hn => ?_, fun y hy => ?_⟩
    · obtain ⟨b, off, spot⟩ := x
      have hc := hcell 0 (by omega)
      have hspot : spot = none := by simpa [Addr.add] using World.cell?_spot hc
      subst hspot
      refine ⟨b, off, rfl, block_lt_of_cell (by simpa [Addr.add] using hc), fun i hi => ?_⟩
      have := hcell i (by omega)
      rw [addr_add] at this
      rw [this]
      congr 2
      simp [List.getD_eq_getElem?_getD, hi]
    · have := bounds_u8 (hwf y (List.mem_of_mem_take hy))
      exact this

/-- the number that bytes are, the highest first. -/
def BIGV (l : List Int) : Int := l.foldl (fun acc x => acc * 256 + x) 0
theorem BIGV_snoc (l : List Int) (x : Int) : BIGV (l ++ [x]) = BIGV l * 256 + x := by simp [BIGV]
theorem foldl_bounds : ∀ (l : List Int) (acc : Int) (k : Nat), 0 ≤ acc → acc < 256 ^ k → (∀ x ∈ l, 0 ≤ x ∧ x ≤ 255) → 0 ≤ l.foldl (fun acc x => acc * 256 + x) acc ∧ l.foldl (fun acc x => acc * 256 + x) acc < 256 ^ (k + l.length)
  | [], acc, k, h0, h1, _ => by simpa using ⟨h0, h1⟩
  | x :: l, acc, k, h0, h1, hl => by
    have hx := hl x (by simp)
    have hp : (256 : Int) ^ (k + 1) = 256 ^ k * 256 := Int.pow_succ 256 k
    have := foldl_bounds l (acc * 256 + x) (k + 1) (by omega) (by omega) (fun y hy => hl y (by simp [hy]))
    rw [List.length_cons, show k + (l.length + 1) = k + 1 + l.length by omega]
    exact this
theorem BIGV_bounds (l : List Int) (hl : ∀ x ∈ l, 0 ≤ x ∧ x ≤ 255) : 0 ≤ BIGV l ∧ BIGV l < 256 ^ l.length := by
  have := foldl_bounds l 0 0 (by decide) (by decide) hl
  simpa [BIGV] using this
end Go.Proofs.YtadpfcpipklmbabDoor

/- What FromBig and Big of package num and the law's same answer. -/
namespace Go.Proofs.YtadpfcpipklmbabDoor
open Go.RowKit

theorem or_byte {x c : Int} (h0 : 0 ≤ x) (h1 : x < 2 ^ 56) (c0 : 0 ≤ c) (c1 : c ≤ 255) : bits .or .u64 (IntKind.u64.wrap (x * 256)) (IntKind.u64.wrap c) = x * 256 + c := by
  obtain ⟨X, rfl⟩ : ∃ X : Nat, x = (X : Int) := ⟨x.toNat, by omega⟩
  obtain ⟨C, rfl⟩ : ∃ C : Nat, c = (C : Int) := ⟨c.toNat, by omega⟩
  have e1 : IntKind.u64.wrap ((X : Int) * 256) = ((X * 256 : Nat) : Int) := by rw [wrapU]; omega
  have e2 : IntKind.u64.wrap (C : Int) = (C : Int) := by rw [wrapU]; omega
  rw [e1, e2, or_eq (by omega) (by omega), nat_join 8 (X * 256) C (by omega) (by omega)]
  simp

theorem take_next (l : List Int) (k : Nat) (hk : k < l.length) : l.take (k + 1) = l.take k ++ [l.getD k 0] := by
  rw [List.take_add_one, List.getElem?_eq_getElem hk]
  simp [List.getD_eq_getElem?_getD, hk]
theorem frombig_step {w : World} {a : Option Addr} {n k : Nat} {l : List Int} {x v : Int} (hB : Bytes w a n l) (hn : n ≤ 8) (hk : k < n) (hx : x = BIGV (l.take k)) (hv : l.getD k 0 = v) :
    bits .or .u64 (IntKind.u64.wrap (x * 256)) (IntKind.u64.wrap v) = BIGV (l.take (k + 1)) := by
  have hb := BIGV_bounds (l.take k) (fun y hy => hB.2.2 y (List.mem_of_mem_take hy))
  have hl : (l.take k).length = k := by rw [List.length_take, hB.1]; omega
  rw [hl] at hb
  have hp : (256 : Int) ^ k ≤ 72057594037927936 := by
    have h7 := Nat.pow_le_pow_right (n := 256) (by decide) (show k ≤ 7 by omega)
    have e : ((256 ^ k : Nat) : Int) = 256 ^ k := by rw [Int.natCast_pow]; rfl
    omega
  have hg := hB.get k
  rw [hv] at hg
  rw [hx, or_byte hb.1 (by omega) hg.1 hg.2, take_next l k (by rw [hB.1]; exact hk), BIGV_snoc, hv]
/-- an array that is filled from 0 on. -/
theorem bfill_put {F f : Nat → Int} {i : Nat} {v : Int} (A : ∀ j, f j = if j < i then F j else 0) (hv : v = F i) : ∀ j, (if j = i then v else f j) = if j < i + 1 then F j else 0 := fun j => by
  by_cases e : j = i
  · subst e
    simp [hv]
  · rw [if_neg e, A j]
    by_cases e2 : j < i
    · rw [if_pos e2, if_pos (by omega)]
    · rw [if_neg e2, if_neg (by omega)]
/-- the i-th of n bytes of x, the highest first. -/
def BYTE (X n : Nat) : Nat → Int := fun i => ((X / 2 ^ (8 * (n - 1 - i)) % 256 : Nat) : Int)
end Go.Proofs.YtadpfcpipklmbabDoor

/- append of bytes onto a row of the call's own. -/
namespace Go.Proofs.YtadpfcpipklmbabDoor
open Go.RowKit

/-- bytes as cells. -/
def CELLS (l : List Int) : List Value := l.map (Value.int .u8)
theorem CELLS_append (a b : List Int) : CELLS (a ++ b) = CELLS a ++ CELLS b := by simp [CELLS]
theorem CELLS_get (l : List Int) (i : Nat) (h : i < l.length) : (CELLS l)[i]? = some (.int .u8 (l.getD i 0)) := by
  simp [CELLS, h, List.getD_eq_getElem?_getD]
theorem CELLS_one (l : List Int) : ∀ u ∈ CELLS l, u.oneCell' = true := fun u hu => by
  simp [CELLS] at hu
  obtain ⟨x, _, rfl⟩ := hu
  rfl
theorem info_parts_u8 : ∃ i, Tryd.prog.info? 5 = some i ∧ i.zero = some (.int .u8 0) ∧ i.size = 1 ∧ i.bytes = 1 := by
  obtain ⟨i, hi, h⟩ := Option.map_eq_some_iff.1 info_u8
  simp only [Prod.mk.injEq] at h
  exact ⟨i, hi, h.1, h.2.1, h.2.2⟩

theorem app_u8 {ops : Array Oper} {rest : List Oper} {o : Oper} {a : Act} {Q : Exit → Act → World → Prop} (w : World) (hgd : o.guard = none) (s x : Operand)
    (ho : o.op = .call { callee := .builtin .append, args := #[s, x], argTypes := #[41, 41] })
    (base : Nat) (v : Value) (n : Nat) (xs : List Int) (hs : a.eval s = v) (hown : w.ownsRow base 5 1 v n (CELLS xs))
    (b off m c : Nat) (l : List Int) (hx : a.eval x = .slice (some ⟨b, off, none⟩) m c) (hB : Bytes w (some ⟨b, off, none⟩) m l)
    (hm : 0 < m) (hb : n + m ≤ 140737488355328) (hbase : base ≤ w.heap.size)
    (h : ∀ g cap w', w'.ownsRow base 5 1 (.slice (some ⟨g, 0, none⟩) (n + m) cap) (n + m) (CELLS (xs ++ l)) → w.grownBy w' v.ownBlock → g < w'.heap.size → wpList Tryd.prog ops Q rest (a.put o.dst (.slice (some ⟨g, 0, none⟩) (n + m) cap)) w') : wpList Tryd.prog ops Q (o :: rest) a w := by
  obtain ⟨i, hi, hz, hs1, hby⟩ := info_parts_u8
  obtain ⟨b', off', e, _, hc⟩ := hB.2.1 hm
  simp only [Option.some.injEq, Addr.mk.injEq] at e
  obtain ⟨rfl, rfl, _⟩ := e
  refine wpList_append_lies w hgd s x 41 ho base 5 i (.int .u8 0) 1 1 Tryd.underlying41 hi hz hs1 hby rfl (by decide) v n (CELLS xs) hs hown ⟨b, off, none⟩ m c (CELLS l) hx (by simp [CELLS, hB.1]) ?_ (CELLS_one l) hm (by simp only [maxLen]; omega) (by omega) hbase w.heap.size rfl ?_
  · intro j u hj
    have hjl : j < l.length := by
      have := (List.getElem?_eq_some_iff.1 hj).1
      simpa [CELLS] using this
    rw [CELLS_get l j hjl] at hj
    rw [addr_add, hc j (by rw [← hB.1]; exact hjl)]
    exact hj
  · intro g cap w' h1 h2 _ h4
    rw [← CELLS_append] at h1
    exact h g cap w' h1 h2 h4

theorem grown_refl (w : World) (row : Option Nat) : w.grownBy w row := ⟨rfl, rfl, rfl, Nat.le_refl _, fun _ _ _ => rfl⟩
/-- nothing is appended. -/
theorem app_zero {ops : Array Oper} {rest : List Oper} {o : Oper} {a : Act} {Q : Exit → Act → World → Prop} (w : World) (hgd : o.guard = none) (s x : Operand)
    (ho : o.op = .call { callee := .builtin .append, args := #[s, x], argTypes := #[41, 41] })
    (base : Nat) (v : Value) (n : Nat) (xs : List Int) (hs : a.eval s = v) (hown : w.ownsRow base 5 1 v n (CELLS xs))
    (ao : Option Addr) (c : Nat) (hx : a.eval x = .slice ao 0 c) (hc : ao = none → c = 0) (hn : n ≤ 140737488355328) (hbase : base ≤ w.heap.size)
    (h : ∀ a' c' w', w'.ownsRow base 5 1 (.slice a' n c') n (CELLS xs) → w.grownBy w' v.ownBlock → wpList Tryd.prog ops Q rest (a.put o.dst (.slice a' n c')) w') : wpList Tryd.prog ops Q (o :: rest) a w := by
  obtain ⟨i, hi, hz, hs1, hby⟩ := info_parts_u8
  have form : ∀ (v' : Value) (w' : World), w'.ownsRow base 5 1 v' n (CELLS xs) → ∃ a' c', v' = .slice a' n c' := fun v' w' h => by
    rcases h.2 with ⟨rfl, rfl⟩ | ⟨g, cap, cur, rfl, _⟩
    · exact ⟨none, 0, rfl⟩
    · exact ⟨_, cap, rfl⟩
  cases ao with
  | none =>
    obtain rfl := hc rfl
    refine wpList_append_own_none hgd s x 41 ho base 5 i 1 Tryd.underlying41 hi v n (CELLS xs) hs hown hx ?_
    obtain ⟨a', c', rfl⟩ := form v w hown
    exact h a' c' w hown (grown_refl _ _)
  | some ad =>
    refine wpList_append_own w hgd s x 41 ho base 5 i (.int .u8 0) 1 1 Tryd.underlying41 hi hz hs1 hby rfl (by decide) v n (CELLS xs) hs hown ad 0 c [] hx rfl (fun j u hj => by simp at hj) (fun u hu => by simp at hu) (by simp only [maxLen]; omega) (by omega) hbase ?_
    intro v' w' h1 h2 _
    simp only [Nat.add_zero, List.append_nil] at h1
    obtain ⟨a', c', rfl⟩ := form v' w' h1
    exact h a' c' w' h1 h2

/-- what is owned reads so. -/
theorem own_bytes {w : World} {base g n cap : Nat} {l : List Int} (h : w.ownsRow base 5 1 (.slice (some ⟨g, 0, none⟩) n cap) n (CELLS l)) (hg : g < w.heap.size) (hl : ∀ x ∈ l, 0 ≤ x ∧ x ≤ 255) : Bytes w (some ⟨g, 0, none⟩) n l := by
  have hlen : l.length = n := by have := h.1; simpa [CELLS] using this
  refine ⟨hlen, fun _ => ⟨g, 0, rfl, hg, fun i hi => ?_⟩, hl⟩
  rw [Nat.zero_add, h.cellAt i (by omega), CELLS_get l i (by omega)]
theorem own_empty (w : World) (base : Nat) (hb : base ≤ w.heap.size) : (w.alloc (.cells #[] 5)).ownsRow base 5 1 (.slice (some ⟨w.heap.size, 0, none⟩) 0 0) 0 (CELLS []) :=
  World.ownsRow_lit w #[] 0 hb (by simp [maxLen]) rfl
theorem row_bytes (w : World) (n : Nat) (f : Nat → Int) (l : List Int) (hl : l.length = n) (hf : ∀ i, i < n → f i = l.getD i 0) (hr : ∀ x ∈ l, 0 ≤ x ∧ x ≤ 255) : Bytes (w.alloc (.cells (BARR n f) 5)) (some ⟨w.heap.size, 0, none⟩) n l := by
  refine ⟨hl, fun _ => ⟨w.heap.size, 0, rfl, by simp, fun i hi => ?_⟩, hr⟩
  rw [Nat.zero_add, World.cell?_alloc_at _ _ _ _ rfl, BARR_get n f i hi, hf i hi]

theorem own_bytes_any {w : World} {base n c : Nat} {a : Option Addr} {l : List Int} (h : w.ownsRow base 5 1 (.slice a n c) n (CELLS l)) (hl : ∀ x ∈ l, 0 ≤ x ∧ x ≤ 255) : Bytes w a n l ∧ n ≤ c := by
  rcases h.2 with ⟨hv, hn⟩ | ⟨g, cap, cur, hv, _, hg, hc, _⟩
  · simp only [Value.slice.injEq] at hv
    obtain ⟨rfl, rfl, rfl⟩ := hv
    have : l = [] := by have := h.1; simpa [CELLS] using this
    subst this
    exact ⟨⟨rfl, fun h => by omega, fun x hx => by simp at hx⟩, Nat.le_refl _⟩
  · simp only [Value.slice.injEq] at hv
    obtain ⟨rfl, _, rfl⟩ := hv
    exact ⟨own_bytes h (Array.getElem?_eq_some_iff.1 hg).1 hl, hc⟩
/-- bytes are appended, or none. -/
theorem app_any {ops : Array Oper} {rest : List Oper} {o : Oper} {a : Act} {Q : Exit → Act → World → Prop} (w : World) (hgd : o.guard = none) (s x : Operand)
    (ho : o.op = .call { callee := .builtin .append, args := #[s, x], argTypes := #[41, 41] })
    (base : Nat) (v : Value) (n : Nat) (xs : List Int) (hs : a.eval s = v) (hown : w.ownsRow base 5 1 v n (CELLS xs))
    (ao : Option Addr) (m c : Nat) (l : List Int) (hx : a.eval x = .slice ao m c) (hB : Bytes w ao m l) (hc : ao = none → c = 0)
    (N : Nat) (L : List Int) (hN : n + m = N) (hL : xs ++ l = L) (hb : N ≤ 140737488355328) (hbase : base ≤ w.heap.size)
    (h : ∀ a' c' w', w'.ownsRow base 5 1 (.slice a' N c') N (CELLS L) → w.grownBy w' v.ownBlock → wpList Tryd.prog ops Q rest (a.put o.dst (.slice a' N c')) w') : wpList Tryd.prog ops Q (o :: rest) a w := by
  subst hN hL
  rcases Nat.eq_zero_or_pos m with hm | hm
  · subst hm
    have hl : l = [] := by have := hB.1; simpa using this
    subst hl
    refine app_zero w hgd s x ho base v n xs hs hown ao c hx hc (by omega) hbase ?_
    simpa using h
  · obtain ⟨b, off, rfl, _, _⟩ := hB.2.1 hm
    refine app_u8 w hgd s x ho base v n xs hs hown b off m c l hx hB hm hb hbase ?_
    intro g cap w' h1 h2 _
    exact h _ cap w' h1 h2

/-! bytes and their number -/
theorem foldl_split : ∀ (l : List Int) (acc : Int), l.foldl (fun acc x => acc * 256 + x) acc = acc * 256 ^ l.length + BIGV l
  | [], acc => by simp [BIGV]
  | x :: l, acc => by
    rw [List.foldl_cons, foldl_split l, List.length_cons, Int.pow_succ]
    have : BIGV (x :: l) = x * 256 ^ l.length + BIGV l := by
      show List.foldl (fun acc x => acc * 256 + x) (0 * 256 + x) l = _
      rw [foldl_split l]
      simp
    rw [this, Int.add_mul, Int.mul_assoc, Int.mul_comm 256, Int.add_assoc]
theorem BIGV_append (a b : List Int) : BIGV (a ++ b) = BIGV a * 256 ^ b.length + BIGV b := by
  show List.foldl _ 0 (a ++ b) = _
  rw [List.foldl_append, foldl_split b]
  rfl
theorem BIGV_byte (l : List Int) (hl : ∀ x ∈ l, 0 ≤ x ∧ x ≤ 255) (X : Nat) (hX : BIGV l = (X : Int)) (i : Nat) (hi : i < l.length) : BYTE X l.length i = l.getD i 0 := by
  have hs : l = l.take (i + 1) ++ l.drop (i + 1) := (List.take_append_drop (i + 1) l).symm
  have h1 := BIGV_append (l.take (i + 1)) (l.drop (i + 1))
  rw [← hs, take_next l i hi, BIGV_snoc] at h1
  have hd := BIGV_bounds (l.drop (i + 1)) (fun x hx => hl x (List.mem_of_mem_drop hx))
  have ht := BIGV_bounds (l.take i) (fun x hx => hl x (List.mem_of_mem_take hx))
  have hx := hl (l.getD i 0) (by
    rw [List.getD_eq_getElem?_getD, List.getElem?_eq_getElem hi]
    exact List.getElem_mem hi)
  rw [List.length_drop, show l.length - (i + 1) = l.length - 1 - i by omega] at h1 hd
  have hp : (256 : Int) ^ (l.length - 1 - i) = ((2 ^ (8 * (l.length - 1 - i)) : Nat) : Int) := by
    rw [Nat.pow_mul]
    simp
  rw [hp] at h1 hd
  unfold BYTE
  generalize 2 ^ (8 * (l.length - 1 - i)) = p at h1 hd
  generalize l.getD i 0 = y at h1 hx
  generalize BIGV (l.drop (i + 1)) = z at h1 hd
  generalize BIGV (l.take i) = t at h1 ht
  rw [hX] at h1
  have hp0 : (0 : Int) < (p : Int) := by omega
  have hq : ((X / p : Nat) : Int) = t * 256 + y := by
    rw [Int.natCast_ediv, h1, Int.add_comm, Int.add_mul_ediv_right _ _ (by omega), Int.ediv_eq_zero_of_lt hd.1 hd.2, Int.zero_add]
  omega
theorem BIGV_fits (l : List Int) (hl : ∀ x ∈ l, 0 ≤ x ∧ x ≤ 255) (X : Nat) (hX : BIGV l = (X : Int)) : X / 2 ^ (8 * l.length) = 0 := by
  have h := (BIGV_bounds l hl).2
  have hp : (256 : Int) ^ l.length = ((2 ^ (8 * l.length) : Nat) : Int) := by
    rw [Nat.pow_mul]
    simp
  rw [hp, hX] at h
  exact Nat.div_eq_of_lt (by omega)
end Go.Proofs.YtadpfcpipklmbabDoor

/- What Short of package num answers. -/
namespace Go.Proofs.YtadpfcpipklmbabDoor
open Go.RowKit

/-- the j lowest groups of 7 bits, 128 added to each. -/
def GROUPS (X j : Nat) : List Int := (List.range j).map fun i => ((X / 128 ^ i % 128 + 128 : Nat) : Int)
theorem GROUPS_succ (X j : Nat) : GROUPS X (j + 1) = GROUPS X j ++ [((X / 128 ^ j % 128 + 128 : Nat) : Int)] := by simp [GROUPS, List.range_succ]
theorem GROUPS_length (X j : Nat) : (GROUPS X j).length = j := by simp [GROUPS]
/-- how many groups but the last one X has. -/
def TOPG (X : Nat) : Nat → Nat
  | 0 => 0
  | k + 1 => if X < 128 then 0 else TOPG (X / 128) k + 1
def NTOP (X : Nat) : Nat := TOPG X 9
/-- X in groups of 7 bits, the lowest first. -/
def SHORT (X : Nat) : List Int := GROUPS X (NTOP X) ++ [((X / 128 ^ NTOP X : Nat) : Int)]
theorem SHORT_length (X : Nat) : (SHORT X).length = NTOP X + 1 := by simp [SHORT, GROUPS_length]
theorem TOPG_le : ∀ (k X : Nat), TOPG X k ≤ k
  | 0, _ => Nat.le_refl _
  | k + 1, X => by
    unfold TOPG
    split
    · omega
    · have := TOPG_le k (X / 128)
      omega
theorem TOPG_below : ∀ (k X j : Nat), j < TOPG X k → 128 ≤ X / 128 ^ j
  | 0, _, _, h => by simp [TOPG] at h
  | k + 1, X, j, h => by
    unfold TOPG at h
    split at h
    · omega
    · cases j with
      | zero => simp; omega
      | succ j =>
        have := TOPG_below k (X / 128) j (by omega)
        rw [Nat.div_div_eq_div_mul, Nat.mul_comm, ← Nat.pow_succ] at this
        exact this
theorem TOPG_at : ∀ (k X : Nat), X < 128 ^ (k + 1) → X / 128 ^ TOPG X k < 128
  | 0, X, h => by simpa [TOPG] using h
  | k + 1, X, h => by
    unfold TOPG
    split
    · simpa using ‹X < 128›
    · have := TOPG_at k (X / 128) (by rw [Nat.pow_succ] at h; exact Nat.div_lt_of_lt_mul (by omega))
      rw [Nat.div_div_eq_div_mul, Nat.mul_comm, ← Nat.pow_succ] at this
      exact this
theorem NTOP_le (X : Nat) : NTOP X ≤ 9 := TOPG_le 9 X
theorem NTOP_at {X : Nat} (hX : X < 2 ^ 64) : X / 128 ^ NTOP X < 128 := TOPG_at 9 X (Nat.lt_of_lt_of_le hX (by decide))
theorem NTOP_eq {X : Nat} (hX : X < 2 ^ 64) {j : Nat} (hj : ∀ i, i < j → 128 ≤ X / 128 ^ i) (h : X / 128 ^ j < 128) : NTOP X = j := by
  rcases Nat.lt_trichotomy (NTOP X) j with h1 | h1 | h1
  · have := hj _ h1
    have := NTOP_at hX
    omega
  · exact h1
  · have := TOPG_below 9 X j h1
    omega
theorem div_anti (X : Nat) {i j : Nat} (h : i ≤ j) : X / 128 ^ j ≤ X / 128 ^ i := Nat.div_le_div_left (Nat.pow_le_pow_right (by decide) h) (Nat.pow_pos (by decide))
theorem GROUPS_range (X j : Nat) : ∀ x ∈ GROUPS X j, 0 ≤ x ∧ x ≤ 255 := fun x hx => by
  simp only [GROUPS, List.mem_map] at hx
  obtain ⟨i, _, rfl⟩ := hx
  omega
theorem SHORT_range {X : Nat} (hX : X < 2 ^ 64) : ∀ x ∈ SHORT X, 0 ≤ x ∧ x ≤ 255 := fun x hx => by
  simp only [SHORT, List.mem_append, List.mem_singleton] at hx
  rcases hx with hx | rfl
  · exact GROUPS_range X _ x hx
  · have := NTOP_at hX
    generalize X / 128 ^ NTOP X = y at *
    omega

theorem one_bytes (w : World) (v : Int) (h0 : 0 ≤ v) (h1 : v ≤ 255) : Bytes (w.alloc (.cells #[.int .u8 v] 5)) (some ⟨w.heap.size, 0, none⟩) 1 [v] := by
  refine ⟨rfl, fun _ => ⟨w.heap.size, 0, rfl, by simp, fun i hi => ?_⟩, fun x hx => by simp at hx; omega⟩
  obtain rfl : i = 0 := by omega
  rw [Nat.zero_add, World.cell?_alloc_at _ _ _ _ rfl]
  rfl
theorem own_made (w : World) (base : Nat) (hb : base ≤ w.heap.size) (cur : Array Value) (cap : Nat) (hm : cap ≤ 1000) (hs : cur.size = cap) : (w.alloc (.cells cur 5)).ownsRow base 5 1 (.slice (some ⟨w.heap.size, 0, none⟩) 0 cap) 0 (CELLS []) :=
  World.ownsRow_made w cur cap hb (by simp only [maxLen]; omega) (by omega)

set_option maxHeartbeats 1000000 in
theorem short_ok (X : Nat) (hX : X < 2 ^ 64) (w : World) : Calls Tryd.prog 52 #[.int .u64 (X : Int)] w fun e w' =>
    ∃ g cap, e = .returned (.slice (some ⟨g, 0, none⟩) (NTOP X + 1) cap) ∧ w'.ownsRow w.heap.size 5 1 (.slice (some ⟨g, 0, none⟩) (NTOP X + 1) cap) (NTOP X + 1) (CELLS (SHORT X)) ∧ g < w'.heap.size ∧ Below w.heap.size w w' := by
  have hmk : ∀ w : World, (Instr.makeSlice 41 (.int .i64 0) (.int .i64 10)).run Tryd.prog w = .ok (.slice (some ⟨w.heap.size, 0, none⟩) 0 10) (w.alloc (.cells #[.int .u8 0, .int .u8 0, .int .u8 0, .int .u8 0, .int .u8 0, .int .u8 0, .int .u8 0, .int .u8 0, .int .u8 0, .int .u8 0] 5)) := fun _ => by kernel_rfl
  have HX : Aside (X < 2 ^ 64) := hX
  clear hX
  go_enter Tryd.func52, Tryd.ntmps52
  go_wp2
  go_loopg [0, 3] 10 (fun g s0 s3 wx => ∃ (j x : Nat), j + g = 10 ∧ Aside (x = X / 128 ^ j ∧ (∀ i, i < j → 128 ≤ X / 128 ^ i) ∧ wx.ownsRow w.heap.size 5 1 s3 j (CELLS (GROUPS X j)) ∧ Below w.heap.size w wx) ∧ s0 = .int .u64 (x : Int))
  case atStart => exact ⟨0, X, by omega, ⟨by simp, fun i hi => by omega, own_made w _ (Nat.le_refl _) _ 10 (by decide) rfl, (Below.refl _ _).alloc (Nat.le_refl _) _⟩, rfl⟩
  case round =>
    obtain ⟨j, x, hjg, A, rfl⟩ := hrel
    by_cases hx : 128 ≤ (x : Int)
    · go_wp2_with (at_builtin; refine app_u8 _ rfl (.tmp 9) (.tmp 14) rfl w.heap.size u3 j (GROUPS X j) rfl (A.out.2.2.1.alloc _) wr.heap.size 0 1 1 [(x : Int) % 128 + 128] rfl (one_bytes wr _ (by omega) (by omega)) (by omega) (by omega) (by have := A.out.2.2.2.size; simp; omega) ?_; intro g cap w1 hown hgrow hg)
      have R : (x / 128 = X / 128 ^ (j + 1)) ∧ (∀ i, i < j + 1 → 128 ≤ X / 128 ^ i) ∧ w1.ownsRow w.heap.size 5 1 (.slice (some ⟨g, 0, none⟩) (j + 1) cap) (j + 1) (CELLS (GROUPS X (j + 1))) ∧ Below w.heap.size w w1 := by
        obtain ⟨hxe, hall, hown0, hb⟩ := A.out
        refine ⟨by rw [hxe, Nat.div_div_eq_div_mul, ← Nat.pow_succ], fun i hi => ?_, ?_, ?_⟩
        · by_cases e : i = j
          · rw [e, ← hxe]; omega
          · exact hall i (by omega)
        · rw [GROUPS_succ, show ((X / 128 ^ j % 128 + 128 : Nat) : Int) = (x : Int) % 128 + 128 by rw [← hxe]; omega]
          exact hown
        · exact (hb.alloc hb.size _).grown hgrow (by have := hb.size; simp; omega) (fun k e => (hown0.lt k e).1)
      have HR : Aside ((x / 128 = X / 128 ^ (j + 1)) ∧ (∀ i, i < j + 1 → 128 ≤ X / 128 ^ i) ∧ w1.ownsRow w.heap.size 5 1 (.slice (some ⟨g, 0, none⟩) (j + 1) cap) (j + 1) (CELLS (GROUPS X (j + 1))) ∧ Below w.heap.size w w1) := R
      have hj9 : j < 9 := by
        obtain ⟨hxe, hall, _, _⟩ := A.out
        rcases Nat.lt_or_ge j 9 with h | h
        · exact h
        · have h1 := div_anti X h
          have h2 : X / 128 ^ 9 < 2 := Nat.div_lt_of_lt_mul (Nat.lt_of_lt_of_le HX.out (by decide))
          omega
      clear hown hgrow hg R A
      go_wp2
      go_roundg (gk - 1)
      case measure => omega
      case rel => exact ⟨j + 1, x / 128, by omega, HR, by first | rfl | go_num⟩
    · go_wp2_with (at_builtin; refine app_u8 _ rfl (.tmp 16) (.tmp 19) rfl w.heap.size u3 j (GROUPS X j) rfl (A.out.2.2.1.alloc _) wr.heap.size 0 1 1 [(x : Int)] rfl (one_bytes wr _ (by omega) (by omega)) (by omega) (by omega) (by have := A.out.2.2.2.size; simp; omega) ?_; intro g cap w1 hown hgrow hg)
      obtain ⟨hxe, hall, hown0, hb⟩ := A.out
      have hN : NTOP X = j := NTOP_eq HX.out hall (by rw [← hxe]; omega)
      have R : w1.ownsRow w.heap.size 5 1 (.slice (some ⟨g, 0, none⟩) (NTOP X + 1) cap) (NTOP X + 1) (CELLS (SHORT X)) ∧ g < w1.heap.size ∧ Below w.heap.size w w1 := by
        refine ⟨?_, hg, (hb.alloc hb.size _).grown hgrow (by have := hb.size; simp; omega) (fun k e => (hown0.lt k e).1)⟩
        unfold SHORT
        rw [hN, ← hxe]
        exact hown
      have HR : Aside (w1.ownsRow w.heap.size 5 1 (.slice (some ⟨g, 0, none⟩) (NTOP X + 1) cap) (NTOP X + 1) (CELLS (SHORT X)) ∧ g < w1.heap.size ∧ Below w.heap.size w w1) := R
      have HN : Aside (NTOP X = j) := hN
      clear hown hgrow hg R A hxe hall hown0 hb hN
      go_wp2
      go_ret
      obtain ⟨h1, h2, h3⟩ := HR.out
      refine ⟨g, cap, ?_, h1, h2, h3⟩
      rw [HN.out]
      rfl
end Go.Proofs.YtadpfcpipklmbabDoor
