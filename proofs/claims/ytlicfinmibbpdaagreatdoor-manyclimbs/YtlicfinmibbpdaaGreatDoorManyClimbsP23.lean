/- Texts of ManyClimbs, one behind the other: ManyPlacesCall, ManyRefPlaces. -/
import Derived.Test.YtlicfinmibbpdaaGreatDoorManyClimbsP22
/- Places of package many. -/
namespace Go.Proofs.YtlicfinmibbpdaaGreatDoor
open Go.RowKit
set_option maxRecDepth 100000

theorem TAKING.still {w0 w w' : World} {bp : Nat} {acc : List Nat} (h : TAKING w0 w bp acc) (hb : Below w.heap.size w w') : TAKING w0 w' bp acc := by
  obtain ⟨v, h1, h2⟩ := h.row
  have hs := h.below.size
  have hlt := h.lt
  refine ⟨⟨v, h1.keep hb, ?_⟩, fun b hb0 hne => (hb.block b (by omega)).trans (h.keep b hb0 hne), hlt, h.below.trans (hb.mono (by omega))⟩
  refine ⟨h2.1, h2.2.imp id ?_⟩
  rintro ⟨g', c, cur, rfl, b, r, rest⟩
  exact ⟨g', c, cur, rfl, b, (hb.block g' (Array.getElem?_eq_some_iff.1 r).1).trans r, rest⟩
/-- what Places answers. -/
def PLCA (L : List Nat) (N : Nat) : List Nat := if RISEA L N = 0 then NEEDS (TPS N) L else []
set_option maxHeartbeats 2000000 in
theorem placesdo_ok (L : List Nat) (N : Nat) (a : Option Addr) (m c : Nat) (b0 b1 b2 : Nat) (w : World) (hl : L.length = m) (hm : m < 2 ^ 20) (hc : m ≤ c) (hnil : a = none → c = 0) (hbl : ∀ x, a = some x → x.block ≠ b2 ∧ x.spot = none) (hL : NUML w a L) (hT : Tabled w)
    (h0 : Has w b0 #[.slice a m c] 24) (h1 : Has w b1 #[.int .u64 (N : Int)] 23) (h2 : Has w b2 #[.slice none 0 0] 24) :
    Calls Tryz.prog 72 #[.pointer (some ⟨b0, 0, none⟩), .pointer (some ⟨b1, 0, none⟩), .pointer (some ⟨b2, 0, none⟩)] w fun e w' =>
      (e = .returned (.tuple #[]) ∧ (RISEA L N = 0 ∧ ∃ w1, Below w.heap.size w w1 ∧ TAKING w1 w' b2 (NEEDS (TPS N) L))) ∨ ∃ x, e = .panicked (WRONG x) ∧ (x = RISEA L N ∧ x ≠ 0 ∧ w' = w) := by
  have hmf : ∀ (fn : Fn) (first cap : Array Value) (w : World), (Instr.makeFunc fn first cap).run Tryz.prog w = .ok (.func fn first cap) w := fun _ _ _ _ => rfl
  have cm := mustrise_ok L N a m c hl (by omega) w hL
  have x0 := h0.cell 0
  have x1 := h1.cell 0
  have hb2 := h2.lt
  have HA : Aside (L.length = m ∧ m < 2 ^ 20 ∧ m ≤ c ∧ (a = none → c = 0) ∧ (∀ x, a = some x → x.block ≠ b2 ∧ x.spot = none) ∧ NUML w a L ∧ Tabled w ∧ Has w b2 #[.slice none 0 0] 24) := ⟨hl, hm, hc, hnil, hbl, hL, hT, h2⟩
  clear hl hm hc hnil hbl hL hT h2 h0 h1
  go_enter Tryz.func72, Tryz.ntmps72
  go_wp2_with fail
  refine cm.mono ?_
  rintro e w1 ⟨rfl, (⟨hr, rfl⟩ | ⟨hr, rfl⟩)⟩
  · clear cm
    obtain ⟨r1, r2, r3⟩ := RISEA_ok hr
    obtain ⟨bj, hbj, hbn⟩ : ∃ bj, (∀ x, a = some x → x.block = bj ∧ x.spot = none) ∧ bj ≠ b2 := by
      cases a with
      | none => exact ⟨b2 + 1, fun x e => (by cases e), by omega⟩
      | some x => exact ⟨x.block, fun y e => (by cases e; exact ⟨rfl, (HA.out.2.2.2.2.1 x rfl).2⟩), (HA.out.2.2.2.2.1 x rfl).1⟩
    have cn := needP_ok bj b2 (fun w0 acc w => TAKING w0 w b2 acc) (fun _ _ _ => False) [] (fun w0 acc w w' h hb => h.still hb) (fun w0 acc w h => ⟨fun b hb hne => h.keep b hb hne, h.below.size⟩) (fun w0 acc p w h hn => (mtake_ok h p hn).mono fun e w' hh => .inl hh) N r1 L a m c w HA.out.1 HA.out.2.1 r2 HA.out.2.2.1 HA.out.2.2.2.1 hbj HA.out.2.2.2.2.2.1 hbn hb2 HA.out.2.2.2.2.2.2.1
      (fun w1 hb => ⟨⟨.slice none 0 0, HA.out.2.2.2.2.2.2.2.keep hb, ⟨rfl, .inl ⟨rfl, rfl⟩⟩⟩, fun b _ _ => rfl, (HA.out.2.2.2.2.2.2.2.keep hb).lt, Below.refl _ _⟩)
    have HR : Aside (RISEA L N = 0) := hr
    clear r1 r2 r3 hbj hbn HA hr hb2
    go_wp2_with fail
    refine cn.mono ?_
    rintro e w2 ⟨w1, hb1, (⟨rfl, ht⟩ | ⟨pre, p, _, _, hf⟩)⟩
    · clear cn
      have FN : Aside (∃ w1, Below w.heap.size w w1 ∧ TAKING w1 w2 b2 (NEEDS (TPS N) L)) := ⟨w1, hb1, by rw [List.nil_append] at ht; exact ht⟩
      clear hb1 ht
      go_wp2_with fail
      exact bodyPost_end (v := .tuple #[]) (by simp [results, Tryz.f72]) rfl (.inl ⟨rfl, HR.out, FN.out⟩)
    · exact hf.elim
  · exact ⟨rfl, .inr ⟨_, rfl, rfl, hr, rfl⟩⟩
/-- what is answered: an error and a list of numbers. -/
def ANSN (w : World) (E : Int) (l : List Nat) (e : Ending) (w' : World) : Prop := ∃ a c, e = .returned (.tuple #[.slice a l.length c, .int .i64 E]) ∧ w'.ownsRow w.heap.size 23 1 (.slice a l.length c) l.length (UCELLS l) ∧ Below w.heap.size w w'
set_option maxHeartbeats 2000000 in
theorem manyplaces_ok (L : List Nat) (N : Nat) (a : Option Addr) (m c : Nat) (w : World) (hl : L.length = m) (hm : m < 2 ^ 20) (hc : m ≤ c) (hnil : a = none → c = 0) (hbl : ∀ x, a = some x → x.block < w.heap.size ∧ x.spot = none) (hL : NUML w a L) (hT : Tabled w) (hw0 : 0 < w.heap.size) :
    Calls Tryz.prog 37 #[.slice a m c, .int .u64 (N : Int)] w (ANSN w (RISEA L N) (PLCA L N)) := by
  have hmf : ∀ (fn : Fn) (first cap : Array Value) (w : World), (Instr.makeFunc fn first cap).run Tryz.prog w = .ok (.func fn first cap) w := fun _ _ _ _ => rfl
  obtain ⟨w1, e1⟩ : ∃ w1, w.alloc (.cells #[.slice a m c] 24) = w1 := ⟨_, rfl⟩
  obtain ⟨w2, e2⟩ : ∃ w2, w1.alloc (.cells #[.int .u64 (N : Int)] 23) = w2 := ⟨_, rfl⟩
  obtain ⟨w3, e3⟩ : ∃ w3, w2.alloc (.cells #[.slice none 0 0] 24) = w3 := ⟨_, rfl⟩
  obtain ⟨w4, e4⟩ : ∃ w4, w3.alloc (.cells #[.int .i64 0] 29) = w4 := ⟨_, rfl⟩
  have s1 : w1.heap.size = w.heap.size + 1 := by rw [← e1]; simp
  have s2 : w2.heap.size = w.heap.size + 2 := by rw [← e2]; simp; omega
  have s3 : w3.heap.size = w.heap.size + 3 := by rw [← e3]; simp; omega
  have s4 : w4.heap.size = w.heap.size + 4 := by rw [← e4]; simp; omega
  have hb4 : Below w.heap.size w w4 := by
    rw [← e4, ← e3, ← e2, ← e1]
    exact ((((Below.refl _ _).alloc (Nat.le_refl _) _).alloc (by simp) _).alloc (by simp; omega) _).alloc (by simp; omega) _
  have h0 : Has w4 w.heap.size #[.slice a m c] 24 := by
    rw [← e4, ← e3, ← e2, ← e1]
    exact (((Has.new w _ _).alloc _).alloc _).alloc _
  have h1 : Has w4 w1.heap.size #[.int .u64 (N : Int)] 23 := by
    rw [← e4, ← e3, ← e2]
    exact ((Has.new w1 _ _).alloc _).alloc _
  have h2 : Has w4 w2.heap.size #[.slice none 0 0] 24 := by
    rw [← e4, ← e3]
    exact (Has.new w2 _ _).alloc _
  have h3 : Has w4 w3.heap.size #[.int .i64 0] 29 := by
    rw [← e4]
    exact Has.new w3 _ _
  have hL4 : NUML w4 a L := fun hp => by
    obtain ⟨b, o, e, hlt, hcc⟩ := hL hp
    exact ⟨b, o, e, by omega, fun i x hx => (hb4.cell (p := ⟨b, o + i, none⟩) hlt).trans (hcc i x hx)⟩
  have cd := placesdo_ok L N a m c w.heap.size w1.heap.size w2.heap.size w4 hl hm hc hnil (fun x e => ⟨by have := (hbl x e).1; omega, (hbl x e).2⟩) hL4 (hT.below hw0 hb4) h0 h1 h2
  rw [← e4] at cd
  have cf := faceP_ok w.heap.size w1.heap.size w2.heap.size w3 _ _ cd
    (fun w' ⟨_, wx, hbx, ht⟩ => by
      rw [e4] at hbx
      exact (ht.keep w3.heap.size (by have := hbx.size; omega) (by omega)).trans (h3.keep hbx))
    (fun x w' ⟨_, _, e⟩ => by rw [e, e4]; exact h3)
  rw [e4] at cf
  have FIN : Aside (∀ e w', FACED w3 (fun w' => RISEA L N = 0 ∧ ∃ w1, Below w4.heap.size w4 w1 ∧ TAKING w1 w' w2.heap.size (NEEDS (TPS N) L)) (fun x w' => x = RISEA L N ∧ x ≠ 0 ∧ w' = w4) e w' → e = .returned (.int .i64 (RISEA L N)) ∧ Below w.heap.size w w' ∧ ∃ a' c', Has w' w2.heap.size #[.slice a' (PLCA L N).length c'] 24 ∧ w'.ownsRow w.heap.size 23 1 (.slice a' (PLCA L N).length c') (PLCA L N).length (UCELLS (PLCA L N))) := by
    rintro e w' (⟨rfl, wx, ⟨hr, wy, hby, ht⟩, rfl⟩ | ⟨x, wx, rfl, ⟨rfl, hx, rfl⟩, rfl⟩)
    · have hP : PLCA L N = NEEDS (TPS N) L := if_pos hr
      have hsz := hby.size
      obtain ⟨v, hv, hown⟩ := ht.row
      obtain ⟨a', c', rfl⟩ := own_sliced hown
      refine ⟨by rw [hr], ?_, a', c', ?_, ?_⟩
      · exact ((hb4.trans (hby.mono hb4.size)).trans (ht.below.mono (by omega))).setCell (by show w.heap.size ≤ w3.heap.size; omega) _
      · rw [hP]
        exact hv.other (by show w2.heap.size ≠ w3.heap.size; omega) _
      · rw [hP]
        exact own_mono (ownsRow_setCell_below hown (a := ⟨w3.heap.size, 0, none⟩) (by show w3.heap.size < wy.heap.size; omega) _) (by omega)
    · have hP : PLCA L N = [] := if_neg hx
      refine ⟨rfl, hb4.setCell (by show w.heap.size ≤ w3.heap.size; omega) _, none, 0, ?_, ?_⟩
      · rw [hP]
        exact h2.other (by show w2.heap.size ≠ w3.heap.size; omega) _
      · rw [hP]
        exact ⟨rfl, .inl ⟨rfl, rfl⟩⟩
  clear cd h0 h1 h2 h3 hL4 hb4 hl hm hc hnil hbl hL hT s1 s2 s3 s4 e4 hw0
  go_enter Tryz.func37, Tryz.ntmps37
  go_wp2_with fail
  refine cf.mono ?_
  intro e w5 hh
  obtain ⟨rfl, hb5, a', c', hv, hown⟩ := FIN.out e w5 hh
  have x0 := hv.cell 0
  have FN : Aside (ANSN w (RISEA L N) (PLCA L N) (.returned (.tuple #[.slice a' (PLCA L N).length c', .int .i64 (RISEA L N)])) w5) := ⟨a', c', rfl, hown, hb5⟩
  clear hh hb5 hv hown FIN cf
  go_wp2_with fail
  go_ret2
  exact FN.out
end Go.Proofs.YtlicfinmibbpdaaGreatDoor

/- massifref10.Places: what leaves need, as the document says it. -/
namespace Go.Proofs.YtlicfinmibbpdaaGreatDoor
open Go.RowKit
set_option maxRecDepth 100000

theorem refplaces10_far (n : Int) (hn : 4611686018427387904 < n) (a : Option Addr) (m c : Nat) (w : World) : Calls Tryz.prog 59 #[.slice a m c, .int .u64 n] w fun e w' => e = .returned (.tuple #[.slice none 0 0, .int .i64 30]) ∧ w = w' := by
  go_enter Tryz.func59, Tryz.ntmps59
  go_wp2
  go_ret2
  exact ⟨rfl, rfl⟩
theorem RNS_take {ps : List (Nat × Nat)} {L : List Nat} {j h k : Nat} (e : ps[j]? = some (h, k)) : RNS (ps.take (j + 1)) L = RNS (ps.take j) L ++ NSP h k (UND h k L) := by
  unfold RNS
  rw [List.take_add_one, e, List.flatMap_append]
  simp
theorem RNS_most {ps : List (Nat × Nat)} {L : List Nat} (hp : ∀ p ∈ ps, p.1 ≤ 62) : (RNS ps L).length ≤ ps.length * (L.length * 62 + 1) := by
  induction ps with
  | nil => simp [RNS]
  | cons s ps ih =>
    have h1 : RNS (s :: ps) L = NSP s.1 s.2 (UND s.1 s.2 L) ++ RNS ps L := rfl
    rw [h1, List.length_append, List.length_cons, Nat.add_mul, Nat.one_mul]
    have h2 := ih fun p hm => hp p (List.mem_cons_of_mem _ hm)
    have h3 := NSP_most s.1 s.2 (UND s.1 s.2 L)
    have h4 : (UND s.1 s.2 L).length * s.1 ≤ L.length * 62 := Nat.mul_le_mul (und_length _ _ _) (hp s (List.mem_cons_self ..))
    omega
/-- a number is appended, and where. -/
theorem app_numat {ops : Array Oper} {rest : List Oper} {o : Oper} {a : Act} {Q : Exit → Act → World → Prop} (w : World) (hgd : o.guard = none) (s x : Operand)
    (ho : o.op = .call { callee := .builtin .append, args := #[s, x], argTypes := #[24, 24] })
    (base : Nat) (v : Value) (n : Nat) (xs : List Nat) (hs : a.eval s = v) (hown : w.ownsRow base 23 1 v n (UCELLS xs))
    (b c : Nat) (y : Nat) (hx : a.eval x = .slice (some ⟨b, 0, none⟩) 1 c) (hc : w.cell? ⟨b, 0, none⟩ = some (.int .u64 (y : Int)))
    (hb : n ≤ 2 ^ 30) (hbase : base ≤ w.heap.size)
    (h : ∀ g cap w', w'.ownsRow base 23 1 (.slice (some ⟨g, 0, none⟩) (n + 1) cap) (n + 1) (UCELLS (xs ++ [y])) → w.grownBy w' v.ownBlock → (v.ownBlock = some g ∨ g = w.heap.size) → g < w'.heap.size → wpList Tryz.prog ops Q rest (a.put o.dst (.slice (some ⟨g, 0, none⟩) (n + 1) cap)) w') : wpList Tryz.prog ops Q (o :: rest) a w := by
  obtain ⟨i, hi, hz, hs1, hby⟩ := info_parts info_u64
  refine wpList_append_lies w hgd s x 24 ho base 23 i (.int .u64 0) 1 8 Tryz.underlying24 hi hz hs1 hby rfl (by decide) v n (UCELLS xs) hs hown ⟨b, 0, none⟩ 1 c [.int .u64 (y : Int)] hx rfl ?_ (fun u hu => by simp at hu; subst hu; rfl) (by decide) (by simp only [maxLen]; omega) (by omega) hbase w.heap.size rfl ?_
  · intro j u hj
    cases j with
    | zero =>
      simp only [List.getElem?_cons_zero, Option.some.injEq] at hj
      subst hj
      exact hc
    | succ j => simp at hj
  · intro g cap w' h1 h2 h3 h4
    rw [← UCELLS_snoc] at h1
    exact h g cap w' h1 h2 h3 h4
set_option maxHeartbeats 4000000 in
theorem refplaces10_ok (L : List Nat) (N : Nat) (a : Option Addr) (m c : Nat) (w : World) (hl : L.length = m) (hm : m < 2 ^ 14) (hx : ∀ x ∈ L, x < 2 ^ 64) (hL : NUML w a L) :
    Calls Tryz.prog 59 #[.slice a m c, .int .u64 (N : Int)] w (ANSN w (RISEA L N) (PLCA L N)) := by
  by_cases hn : (4611686018427387904 : Int) < (N : Int)
  · refine (refplaces10_far N hn a m c w).mono ?_
    rintro e w' ⟨rfl, rfl⟩
    have e1 : RISEA L N = 30 := by unfold RISEA; rw [if_pos (by omega)]
    have e2 : PLCA L N = [] := by unfold PLCA; rw [if_neg (by rw [e1]; decide)]
    rw [e1, e2]
    exact ⟨none, 0, rfl, ⟨rfl, .inl ⟨rfl, rfl⟩⟩, Below.refl _ _⟩
  · have hN : N ≤ 4611686018427387904 := by omega
    have e : RISEA L N = RCHK N none L := by unfold RISEA; rw [if_neg (by omega)]
    have ct := tops_spots N hN
    have hPC : PC N ≤ 64 := PC_lt_pow 64 N (by omega)
    have hlen := TPS_length (n := N) (by omega)
    have hsp : ∀ s ∈ TPS N, s.1 ≤ 62 ∧ Node s.1 s.2 := fun s hs => ⟨(TPS_span (n := N) (by omega) (h := s.1) (k := s.2) hs).1, (TPS_span (n := N) (by omega) (h := s.1) (k := s.2) hs).2.2⟩
    have HA : Aside (L.length = m ∧ m < 2 ^ 14 ∧ NUML w a L ∧ RISEA L N = RCHK N none L ∧ (∀ x ∈ L, x < 2 ^ 64)) := ⟨hl, hm, hL, e, hx⟩
    have HT : Aside (N ≤ 4611686018427387904 ∧ PC N ≤ 64 ∧ (TPS N).length = PC N ∧ (∀ s ∈ TPS N, s.1 ≤ 62 ∧ Node s.1 s.2) ∧ ∀ w, Calls Tryz.prog 29 #[.int .u64 (N : Int)] w fun e w' => ∃ a cap, e = .returned (.slice a (PC N) cap) ∧ Spots w' a (TPS N) ∧ Below w.heap.size w w') := ⟨hN, hPC, hlen, hsp, ct⟩
    clear hl hm hL e hN ct hPC hlen hsp hx
    go_enter Tryz.func59, Tryz.ntmps59
    go_wp2_with fail
    go_loopg [6] m (fun q s6 wx => ∃ j : Nat, s6 = .int .i64 (j : Int) ∧ Aside (j + q = m ∧ RISEA L N = RCHK N (AHD L j) (L.drop j) ∧ Below w.heap.size w wx))
    case atStart => exact ⟨0, rfl, by omega, HA.out.2.2.2.1, Below.refl _ _⟩
    case round =>
      obtain ⟨j, rfl, A⟩ := hrel
      cases gk with
      | zero =>
        obtain rfl : j = m := by have := A.out.1; omega
        have hlt : ¬ (j : Int) < (j : Int) := by omega
        have hr0 : RISEA L N = 0 := by
          have h1 := A.out.2.1
          rw [List.drop_of_length_le (by have := HA.out.1; omega)] at h1
          exact h1
        have hP : PLCA L N = (RNS (TPS N) L).map SPL := by unfold PLCA; rw [if_pos hr0, RNS_all hr0]
        have FR : Aside (RISEA L N = 0 ∧ PLCA L N = (RNS (TPS N) L).map SPL ∧ Below w.heap.size w wr ∧ NUML wr a L) := ⟨hr0, hP, A.out.2.2, HA.out.2.2.1.keep A.out.2.2⟩
        have ct := HT.out.2.2.2.2 wr
        clear A hr0 hP
        go_wp2_with fail
        refine ct.mono ?_
        rintro e w1 ⟨ag, cg, rfl, hsp, hb1⟩
        have R1 : Aside (Spots w1 ag (TPS N) ∧ Below w.heap.size w w1 ∧ NUML w1 a L) := ⟨hsp, FR.out.2.2.1.trans (hb1.mono FR.out.2.2.1.size), FR.out.2.2.2.keep hb1⟩
        obtain ⟨M, hM⟩ : ∃ M, PC N = M := ⟨_, rfl⟩
        rw [hM]
        have HM : Aside (PC N = M) := hM
        clear ct hsp hb1 hM
        go_wp2_with fail
        go_loopg [7, 9] M (fun q s7 s9 wx => ∃ (i : Nat) (v : Value), v = s7 ∧ s9 = .int .i64 (i : Int) ∧ Aside (i + q = M ∧ wx.ownsRow w1.heap.size 23 1 v (RNS ((TPS N).take i) L).length (UCELLS ((RNS ((TPS N).take i) L).map SPL)) ∧ Below w1.heap.size w1 wx))
        case atStart => exact ⟨0, _, rfl, rfl, by omega, ⟨rfl, .inl ⟨rfl, rfl⟩⟩, Below.refl _ _⟩
        case round =>
          obtain ⟨i, v, rfl, rfl, A⟩ := hrel
          obtain ⟨av, cv, rfl⟩ := own_sliced A.out.2.1
          cases gk with
          | zero =>
            obtain rfl : i = M := by have := A.out.1; omega
            have hlt2 : ¬ (i : Int) < (i : Int) := by omega
            have FN : Aside (ANSN w (RISEA L N) (PLCA L N) (.returned (.tuple #[.slice av (RNS ((TPS N).take i) L).length cv, .int .i64 0])) wr) := by
              obtain ⟨_, h2, h3⟩ := A.out
              rw [List.take_of_length_le (by rw [HT.out.2.2.1, HM.out]; omega)] at h2 ⊢
              rw [FR.out.1, FR.out.2.1]
              refine ⟨av, cv, by rw [List.length_map], ?_, R1.out.2.1.trans (h3.mono R1.out.2.1.size)⟩
              rw [List.length_map]
              exact own_mono h2 R1.out.2.1.size
            clear A HA FR R1 HT HM
            go_wp2_with fail
            go_ret2
            exact FN.out
          | succ q =>
            have hiM : i < M := by have := A.out.1; omega
            have hlt2 : (i : Int) < (M : Int) := by omega
            obtain ⟨⟨h, k⟩, ehk⟩ : ∃ s, (TPS N)[i]? = some s := ⟨_, List.getElem?_eq_getElem (by rw [HT.out.2.2.1, HM.out]; exact hiM)⟩
            obtain ⟨g, rfl, hg, hc⟩ := R1.out.1 (by rw [HT.out.2.2.1, HM.out]; omega)
            have x0 : wr.cell? ⟨g, i * 2, none⟩ = some (.int .u8 (h : Int)) := (A.out.2.2.cell (p := ⟨g, i * 2, none⟩) hg).trans (hc i h k ehk).1
            have x1 : wr.cell? ⟨g, i * 2 + 1, none⟩ = some (.int .u64 (k : Int)) := (A.out.2.2.cell (p := ⟨g, i * 2 + 1, none⟩) hg).trans (hc i h k ehk).2
            have hnd := HT.out.2.2.2.1 (h, k) (List.mem_of_getElem? ehk)
            have cn := refneeds_ok h k hnd.2 L a j c HA.out.1 HA.out.2.1 HA.out.2.2.2.2 wr (R1.out.2.2.keep A.out.2.2)
            have ei : wrap64 ((i : Int) + 1) = ((i + 1 : Nat) : Int) := by have := HT.out.2.1; have := HM.out; unfold wrap64; omega
            have hst := RNS_take (L := L) ehk
            have hmost := RNS_most (ps := (TPS N).take i) (L := L) fun p hp => (HT.out.2.2.2.1 p (List.mem_of_mem_take hp)).1
            have hmost2 := NSP_most h k (UND h k L)
            have hfew : (RNS ((TPS N).take i) L).length + (NSP h k (UND h k L)).length ≤ 2 ^ 29 := by
              have h1 : ((TPS N).take i).length * (L.length * 62 + 1) ≤ 64 * (2 ^ 14 * 62 + 1) := Nat.mul_le_mul (by rw [List.length_take, HT.out.2.2.1]; have := HT.out.2.1; clear ei; omega) (by have := HA.out.1; have := HA.out.2.1; clear ei; omega)
              have h2 : (UND h k L).length * h ≤ 2 ^ 14 * 62 := Nat.mul_le_mul (by have := und_length h k L; have := HA.out.1; have := HA.out.2.1; clear ei; omega) hnd.1
              clear ei
              omega
            have hnodes : ∀ s ∈ NSP h k (UND h k L), Node s.1 s.2 := NSP_node h k _ hnd.2
            obtain ⟨P, hP⟩ : ∃ P, RNS ((TPS N).take i) L = P := ⟨_, rfl⟩
            obtain ⟨B, hB⟩ : ∃ B, NSP h k (UND h k L) = B := ⟨_, rfl⟩
            rw [hP, hB] at hst hfew
            rw [hB] at cn hnodes
            have R : Aside (i + 1 + q = M ∧ wr.ownsRow w1.heap.size 23 1 (.slice av P.length cv) P.length (UCELLS (P.map SPL)) ∧ Below w1.heap.size w1 wr ∧ P.length + B.length ≤ 2 ^ 29 ∧ (∀ s ∈ B, Node s.1 s.2) ∧ RNS ((TPS N).take (i + 1)) L = P ++ B) := ⟨by have := A.out.1; clear ei; omega, by rw [← hP]; exact A.out.2.1, A.out.2.2, hfew, hnodes, hst⟩
            rw [hP]
            clear A hst hfew hnodes hmost hmost2 hP hB hnd hc hiM ehk
            go_wp2_with fail
            refine cn.mono ?_
            rintro e w2 ⟨ab, cb, rfl, hownB, hb2⟩
            have R2 : Aside (w2.ownsRow w1.heap.size 23 1 (.slice av P.length cv) P.length (UCELLS (P.map SPL)) ∧ Below w1.heap.size w1 w2 ∧ w2.ownsRow wr.heap.size 67 2 (.slice ab B.length cb) B.length (SCELLS B)) := ⟨own_below R.out.2.1 hb2, R.out.2.2.1.trans (hb2.mono R.out.2.2.1.size), hownB⟩
            clear cn hownB hb2 x0 x1
            go_wp2_with fail
            have AP : Aside (∀ g, (Value.slice av P.length cv).ownBlock = some g → (Value.slice ab B.length cb).ownBlock ≠ some g) := fun g e1 e2 => by
              have h1 := (R.out.2.1.lt g e1).2
              have h2 := (R2.out.2.2.lt g e2).1
              omega
            have RB : Aside (w2.ownsRow w1.heap.size 67 2 (.slice ab B.length cb) B.length (SCELLS B)) := own_mono R2.out.2.2 R.out.2.2.1.size
            obtain ⟨u, hu⟩ : ∃ u, P.length = u := ⟨_, rfl⟩
            obtain ⟨nb, hnb⟩ : ∃ nb, B.length = nb := ⟨_, rfl⟩
            rw [hu] at R R2 AP
            rw [hnb] at R R2 AP RB
            rw [hu, hnb]
            have HB : Aside (B.length = nb ∧ P.length = u) := ⟨hnb, hu⟩
            clear hnb hu
            go_wp2_with fail
            go_loopg [7, 11] nb (fun q2 s7 s11 wx => ∃ (y : Nat) (v : Value), v = s7 ∧ s11 = .int .i64 (y : Int) ∧ Aside (y + q2 = nb ∧ wx.ownsRow w1.heap.size 23 1 v (u + y) (UCELLS ((P ++ B.take y).map SPL)) ∧ Below w1.heap.size w1 wx ∧ wx.ownsRow w1.heap.size 67 2 (.slice ab nb cb) nb (SCELLS B) ∧ (∀ g, v.ownBlock = some g → (Value.slice ab nb cb).ownBlock ≠ some g)))
            case atStart => exact ⟨0, _, rfl, rfl, by omega, by simpa using R2.out.1, R2.out.2.1, RB.out, AP.out⟩
            case round =>
              obtain ⟨y, v, rfl, rfl, A⟩ := hrel
              clear R2 AP RB
              cases gk with
              | zero =>
                obtain rfl : y = nb := by have := A.out.1; omega
                have hlt3 : ¬ (y : Int) < (y : Int) := by omega
                have Z : Aside (i + 1 + q = M ∧ wr.ownsRow w1.heap.size 23 1 v (RNS ((TPS N).take (i + 1)) L).length (UCELLS ((RNS ((TPS N).take (i + 1)) L).map SPL)) ∧ Below w1.heap.size w1 wr) := by
                  obtain ⟨_, h2, h3, _⟩ := A.out
                  rw [List.take_of_length_le (by have := HB.out.1; omega)] at h2
                  rw [R.out.2.2.2.2.2, List.length_append, HB.out.1, HB.out.2]
                  exact ⟨R.out.1, h2, h3⟩
                clear A R HB
                go_wp2_with fail
                go_roundg q
                case measure => exact Nat.lt_succ_self _
                case rel => exact ⟨i + 1, _, rfl, by first | rfl | (rw [ei]), Z.out⟩
              | succ q2 =>
                have hyn : y < nb := by have := A.out.1; omega
                have hlt3 : (y : Int) < (nb : Int) := by omega
                obtain ⟨⟨h2, k2⟩, eh2⟩ : ∃ s, B[y]? = some s := ⟨_, List.getElem?_eq_getElem (by have := HB.out.1; omega)⟩
                obtain ⟨g2, rfl⟩ : ∃ g, ab = some ⟨g, 0, none⟩ := by
                  rcases A.out.2.2.2.1.2 with ⟨e, h0⟩ | ⟨g, _, _, e, _⟩
                  · omega
                  · cases e; exact ⟨g, rfl⟩
                have hs2 := SCELLS_at B y h2 k2 eh2
                have y0 : wr.cell? ⟨g2, y * 2, none⟩ = some (.int .u8 (h2 : Int)) := (A.out.2.2.2.1.cellAt (y * 2) (by omega)).trans hs2.1
                have y1 : wr.cell? ⟨g2, y * 2 + 1, none⟩ = some (.int .u64 (k2 : Int)) := (A.out.2.2.2.1.cellAt (y * 2 + 1) (by omega)).trans hs2.2
                have cp := fun w => refplace_ok h2 k2 (R.out.2.2.2.2.1 (h2, k2) (List.mem_of_getElem? eh2)) w
                have ey : wrap64 ((y : Int) + 1) = ((y + 1 : Nat) : Int) := by have := R.out.2.2.2.1; unfold wrap64; omega
                have ht : (P ++ B.take (y + 1)).map SPL = (P ++ B.take y).map SPL ++ [PLC h2 k2] := by
                  rw [List.take_add_one, eh2]
                  simp [SPL]
                have R3 : Aside (y + 1 + q2 = nb ∧ wr.ownsRow w1.heap.size 23 1 v (u + y) (UCELLS ((P ++ B.take y).map SPL)) ∧ Below w1.heap.size w1 wr ∧ wr.ownsRow w1.heap.size 67 2 (.slice (some ⟨g2, 0, none⟩) nb cb) nb (SCELLS B) ∧ (∀ g, v.ownBlock = some g → (Value.slice (some ⟨g2, 0, none⟩) nb cb).ownBlock ≠ some g) ∧ u + y ≤ 2 ^ 30 ∧ (P ++ B.take (y + 1)).map SPL = (P ++ B.take y).map SPL ++ [PLC h2 k2]) := ⟨by have := A.out.1; clear ey; omega, A.out.2.1, A.out.2.2.1, A.out.2.2.2.1, A.out.2.2.2.2, by have := R.out.2.2.2.1; clear ey; omega, ht⟩
                generalize PLC h2 k2 = pl at *
                generalize (P ++ B.take y).map SPL = X1 at *
                generalize hX2 : (P ++ B.take (y + 1)).map SPL = X2 at *
                have HX2 : Aside ((P ++ B.take (y + 1)).map SPL = X2) := hX2
                clear A hs2 ht hX2 eh2 hyn
                go_wp2_with fail
                refine (cp _).mono ?_
                rintro e w3 ⟨rfl, hb3⟩
                have R4 : Aside (w3.ownsRow w1.heap.size 23 1 v (u + y) (UCELLS X1) ∧ Below w1.heap.size w1 w3 ∧ w3.ownsRow w1.heap.size 67 2 (.slice (some ⟨g2, 0, none⟩) nb cb) nb (SCELLS B)) := ⟨own_below R3.out.2.1 hb3, R3.out.2.2.1.trans (hb3.mono R3.out.2.2.1.size), own_below R3.out.2.2.2.1 hb3⟩
                clear cp hb3 y0 y1
                go_wp2_with (first
                  | (at_builtin; refine app_numat _ rfl (.tmp 70) (.tmp 72) rfl w1.heap.size v (u + y) X1 rfl (R4.out.1.alloc _) w3.heap.size 1 pl rfl ((Has.new _ _ _).cell 0) R3.out.2.2.2.2.2.1 (by have := R4.out.2.1.size; simp; omega) ?_; intro g4 c4 w4 hown hgrow hat hg
                     have R5 : Aside (y + 1 + q2 = nb ∧ w4.ownsRow w1.heap.size 23 1 (.slice (some ⟨g4, 0, none⟩) (u + y + 1) c4) (u + (y + 1)) (UCELLS ((P ++ B.take (y + 1)).map SPL)) ∧ Below w1.heap.size w1 w4 ∧ w4.ownsRow w1.heap.size 67 2 (.slice (some ⟨g2, 0, none⟩) nb cb) nb (SCELLS B) ∧ (∀ g, (Value.slice (some ⟨g4, 0, none⟩) (u + y + 1) c4).ownBlock = some g → (Value.slice (some ⟨g2, 0, none⟩) nb cb).ownBlock ≠ some g)) := by
                       obtain ⟨r1, r2, r3, r4, r5, r6, r7⟩ := R3.out
                       obtain ⟨s1, s2, s3⟩ := R4.out
                       refine ⟨r1, ?_, (s2.alloc s2.size _).grown hgrow (by have := s2.size; simp; omega) (fun k e => (s1.lt k e).1), own_hold (own_alloc s3 _) (fun k e => hgrow.block k (by have := (s3.lt k e).2; simp; omega) (fun e2 => r5 k e2.symm e)), fun g e1 e2 => ?_⟩
                       · rw [HX2.out, r7]
                         exact hown
                       · have e1 : g4 = g := by simpa [Value.ownBlock] using e1
                         subst e1
                         rcases hat with h | h
                         · exact r5 _ h e2
                         · have := (s3.lt _ e2).2
                           simp at h
                           omega
                     clear hown hgrow hg hat R4 R3))
                go_roundg q2
                case measure => exact Nat.lt_succ_self _
                case rel => exact ⟨y + 1, _, rfl, by first | rfl | (rw [ey]), R5.out⟩
      | succ q =>
        have hjm : j < m := by have := A.out.1; omega
        have hlt : (j : Int) < (m : Int) := by omega
        obtain ⟨x, ex⟩ : ∃ x, L[j]? = some x := ⟨_, List.getElem?_eq_getElem (by have := HA.out.1; omega)⟩
        obtain ⟨b, o, rfl, hb, hcc⟩ := HA.out.2.2.1 (by have := HA.out.1; omega)
        have x0 : wr.cell? ⟨b, o + j, none⟩ = some (.int .u64 (x : Int)) := (A.out.2.2.cell (p := ⟨b, o + j, none⟩) hb).trans (hcc j x ex)
        have ej : wrap64 ((j : Int) + 1) = ((j + 1 : Nat) : Int) := by have := HA.out.2.1; unfold wrap64; omega
        have hch : RISEA L N = if NOTUP (AHD L j) x = true then 71 else if N ≤ x then 32 else RCHK N (some x) (L.drop (j + 1)) := by
          rw [A.out.2.1, drop_step ex, RCHK]
        have hnx : AHD L (j + 1) = some x := ex
        have PE : Aside (∀ E W, RISEA L N = E → E ≠ 0 → Below w.heap.size w W → ANSN w (RISEA L N) (PLCA L N) (.returned (.tuple #[.slice none 0 0, .int .i64 E])) W) := fun E W e1 e2 hb => by
          have e3 : PLCA L N = [] := by unfold PLCA; rw [if_neg (by rw [e1]; exact e2)]
          rw [e1, e3]
          exact ⟨none, 0, rfl, ⟨rfl, .inl ⟨rfl, rfl⟩⟩, hb⟩
        rcases Nat.eq_zero_or_pos j with hj0 | hj0
        · have hz : ¬ (0 : Int) < (j : Int) := by omega
          have hzd : decide ((0 : Int) < (j : Int)) = false := decide_eq_false hz
          have hz2 : ¬ 0 < j := by omega
          replace hch : RISEA L N = if N ≤ x then 32 else RCHK N (some x) (L.drop (j + 1)) := by
            rw [hch, hj0, if_neg (by simp [AHD, NOTUP])]
          by_cases hx : N ≤ x
          · have hx' : (N : Int) ≤ (x : Int) := by omega
            rw [if_pos hx] at hch
            have FN : Aside (RISEA L N = 32 ∧ Below w.heap.size w wr) := ⟨hch, A.out.2.2⟩
            clear A HA hch hnx hcc hj0 ex hjm HT
            go_wp2_with fail
            go_quiet (fail)
            have y0 : (wr.drewN nq).cell? ⟨b, o + j, none⟩ = some (.int .u64 (x : Int)) := x0
            go_wp2_with fail
            go_ret2
            exact PE.out 32 _ FN.out.1 (by decide) (below_drewN FN.out.2 _)
          · have hx' : ¬ (N : Int) ≤ (x : Int) := by omega
            rw [if_neg hx] at hch
            have Z : Aside (j + 1 + q = m ∧ RISEA L N = RCHK N (AHD L (j + 1)) (L.drop (j + 1)) ∧ Below w.heap.size w wr) := ⟨by have := A.out.1; clear ej; omega, by rw [hnx]; exact hch, A.out.2.2⟩
            clear A hch hnx hcc hj0 ex hjm PE
            go_wp2_with fail
            go_quiet (fail)
            have y0 : (wr.drewN nq).cell? ⟨b, o + j, none⟩ = some (.int .u64 (x : Int)) := x0
            go_wp2_with fail
            go_roundg q
            case measure => exact Nat.lt_succ_self _
            case rel => exact ⟨j + 1, by first | rfl | (rw [ej]), Z.out.1, Z.out.2.1, below_drewN Z.out.2.2 _⟩
        · obtain ⟨i, hi⟩ : ∃ i, j = i + 1 := ⟨j - 1, by omega⟩
          obtain ⟨y, ey⟩ : ∃ y, L[i]? = some y := ⟨_, List.getElem?_eq_getElem (by have := HA.out.1; omega)⟩
          have y0 : wr.cell? ⟨b, o + i, none⟩ = some (.int .u64 (y : Int)) := (A.out.2.2.cell (p := ⟨b, o + i, none⟩) hb).trans (hcc i y ey)
          have ei : wrap64 ((j : Int) - 1) = (i : Int) := by have := HA.out.2.1; unfold wrap64; omega
          have ei2 : IntKind.i64.wrap ((j : Int) - 1) = (i : Int) := by have := HA.out.2.1; rw [IntKind.wrap_i64]; omega
          have him : (i : Int) < (m : Int) := by omega
          have hi0 : (0 : Int) < (j : Int) := by omega
          have hid : decide ((0 : Int) < (j : Int)) = true := decide_eq_true hi0
          replace hch : RISEA L N = if NOTUP (some y) x = true then 71 else if N ≤ x then 32 else RCHK N (some x) (L.drop (j + 1)) := by
            rw [hch, show AHD L j = some y by rw [hi]; exact ey]
          by_cases hxy : x ≤ y
          · have hxy' : (x : Int) ≤ (y : Int) := by omega
            rw [if_pos (show NOTUP (some y) x = true from decide_eq_true hxy)] at hch
            have FN : Aside (RISEA L N = 71 ∧ Below w.heap.size w wr) := ⟨hch, A.out.2.2⟩
            clear A HA hch hnx hcc hi ex ey hjm HT
            go_wp2_with fail
            go_quiet (fail)
            go_wp2_with fail
            go_ret2
            exact PE.out 71 _ FN.out.1 (by decide) (below_drewN FN.out.2 _)
          · have hxy' : ¬ (x : Int) ≤ (y : Int) := by omega
            rw [if_neg (show ¬ NOTUP (some y) x = true from fun h => hxy (of_decide_eq_true h))] at hch
            by_cases hx : N ≤ x
            · have hx' : (N : Int) ≤ (x : Int) := by omega
              rw [if_pos hx] at hch
              have FN : Aside (RISEA L N = 32 ∧ Below w.heap.size w wr) := ⟨hch, A.out.2.2⟩
              clear A HA hch hnx hcc hi ex ey hjm HT
              go_wp2_with fail
              go_quiet (fail)
              have z0 : (wr.drewN nq).cell? ⟨b, o + j, none⟩ = some (.int .u64 (x : Int)) := x0
              go_wp2_with fail
              go_ret2
              exact PE.out 32 _ FN.out.1 (by decide) (below_drewN FN.out.2 _)
            · have hx' : ¬ (N : Int) ≤ (x : Int) := by omega
              rw [if_neg hx] at hch
              have Z : Aside (j + 1 + q = m ∧ RISEA L N = RCHK N (AHD L (j + 1)) (L.drop (j + 1)) ∧ Below w.heap.size w wr) := ⟨by have := A.out.1; clear ej ei ei2; omega, by rw [hnx]; exact hch, A.out.2.2⟩
              clear A hch hnx hcc hi ex ey hjm PE
              go_wp2_with fail
              go_quiet (fail)
              have z0 : (wr.drewN nq).cell? ⟨b, o + j, none⟩ = some (.int .u64 (x : Int)) := x0
              go_wp2_with fail
              go_roundg q
              case measure => exact Nat.lt_succ_self _
              case rel => exact ⟨j + 1, by first | rfl | (rw [ej]), Z.out.1, Z.out.2.1, below_drewN Z.out.2.2 _⟩
end Go.Proofs.YtlicfinmibbpdaaGreatDoor
