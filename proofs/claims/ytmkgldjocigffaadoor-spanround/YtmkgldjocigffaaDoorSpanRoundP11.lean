/- Texts of SpanRound, one behind the other: SpanNodes, StepLists, SpanProofRegion, ManyIndex, ManyNeedE, ManyWritten, ManyWhole, ManyDecodePlain, ManyHash, ManyHashApp, ManyReadRegion, ManyNeedD, ManyRead, ManyProofCall. -/
import Derived.Deep.RegionLaw
import Derived.Laws.CopyOwn
import Derived.Deep.AppendLies
import Derived.Test.YtmkgldjocigffaaDoorSpanRoundP10
/- The reader of package span: the nodes. -/
namespace Go.Proofs.YtmkgldjocigffaaDoor
open Go.RowKit
set_option maxRecDepth 100000

/-- what nodes answers and leaves, of a span that needs M: how many, their bytes. -/
def NOD20 (E : Int) (t : List Int) (M : Nat) (K : Nat) (E' : Int) (l : List Int) : Prop :=
  (E ≠ 0 ∧ K = 0 ∧ E' = E ∧ l = []) ∨ (E = 0 ∧ t.length < 32 * M ∧ K = 0 ∧ E' = 11 ∧ l = []) ∨ (E = 0 ∧ 32 * M < t.length ∧ K = 0 ∧ E' = 13 ∧ l = []) ∨ (E = 0 ∧ t.length = 32 * M ∧ K = M ∧ E' = 0 ∧ l = t)
/-- what nodes answers. -/
def NDS20 (w0 w : World) (rb : Nat) (E : Int) (t : List Int) (M : Nat) (e : Ending) (w' : World) : Prop := ∃ (a : Option Addr) (K c : Nat) (E' : Int) (l t' : List Int), e = .returned (.slice a K c) ∧ NOD20 E t M K E' l ∧ w'.ownsRow w.heap.size 60 32 (.slice a K c) K (CELLS l) ∧ RDS w0 w rb E' t' w'
theorem own_noneh (w : World) (B : Nat) : w.ownsRow B 60 32 (.slice none 0 0) 0 (CELLS []) := World.ownsRow_nil _ _ _ _
set_option maxHeartbeats 4000000 in
theorem snodes_none {w0 w : World} {rb : Nat} {E : Int} {t : List Int} (R : RD20 w0 w rb E t) (hE : E ≠ 0) (F T S : Int) (M : Nat) : Calls Tryd.prog 61 #[.pointer (some ⟨rb, 0, none⟩), .int .u64 F, .int .u64 T, .int .u64 S] w (NDS20 w0 w rb E t M) := by
  obtain ⟨a, c, h1, h2⟩ := R.rd
  have x1 : w.cell? ⟨rb, 1, none⟩ = some (.int .i64 E) := h1.cell 1
  have hb' : (E != 0) = true := by simp [hE]
  have FN : Aside (NDS20 w0 w rb E t M (.returned (.slice none 0 0)) w) := ⟨none, 0, 0, E, [], t, rfl, .inl ⟨hE, rfl, rfl, rfl⟩, own_noneh _ _, R, STAY.refl _ _⟩
  clear R h1 h2
  go_enter Tryd.func61, Tryd.ntmps61
  go_wp2
  go_ret
  exact FN.out
set_option maxHeartbeats 4000000 in
theorem snodes_ok {w0 w : World} {rb : Nat} {t : List Int} (R : RD20 w0 w rb 0 t) (F T S : Nat) (hS : S ≤ 4611686018427387904) (hF : F ≤ T) (hTS : T ≤ S) (hT : Tabled w) (hp0 : 0 < w.heap.size) : Calls Tryd.prog 61 #[.pointer (some ⟨rb, 0, none⟩), .int .u64 (F : Int), .int .u64 (T : Int), .int .u64 (S : Int)] w (NDS20 w0 w rb 0 t (SPP F T S).length) := by
  obtain ⟨a, c, h1, h2⟩ := R.rd
  have cp := spanplaces_ok F T S w hT hp0
  have e1 : SPE F T S = 0 := by unfold SPE; rw [if_neg (by omega), if_neg (by omega)]
  have e2 : SPA F T S = SPP F T S := by unfold SPA; rw [if_pos e1]
  have hfew := SPP_few (F := F) hS hTS
  rw [e1, e2] at cp
  unfold ANSP20 at cp
  generalize SPP F T S = P at *
  obtain ⟨M, hM⟩ : ∃ M, P.length = M := ⟨_, rfl⟩
  rw [hM] at cp hfew ⊢
  obtain ⟨n, hn⟩ : ∃ n, t.length = n := ⟨_, rfl⟩
  rw [hn] at h1
  have x1 : w.cell? ⟨rb, 1, none⟩ = some (.int .i64 0) := h1.cell 1
  have HR : Aside (RD20 w0 w rb 0 t ∧ Has w rb #[.slice a n c, .int .i64 0] 76 ∧ SRC w0 a c t ∧ t.length = n ∧ M ≤ 188) := ⟨R, h1, h2, hn, hfew⟩
  have eM : wrap64 (32 * (M : Int)) = ((32 * M : Nat) : Int) := by unfold wrap64; omega
  clear R h1 h2 hM hn hS hF hTS hT hp0 e1 e2 hfew
  go_enter Tryd.func61, Tryd.ntmps61
  go_wp2_with fail
  refine cp.mono ?_
  rintro e w1 ⟨a1, k1, rfl, _, hb1⟩
  clear cp x1
  have R1 : Aside (RD20 w0 w1 rb 0 t ∧ STAY w w1 rb ∧ Below w.heap.size w w1) := ⟨HR.out.1.keep hb1, STAY.of hb1 (Nat.le_of_lt HR.out.1.lt), hb1⟩
  have H1 := HR.out.2.1.keep hb1
  have x0 : w1.cell? ⟨rb, 0, none⟩ = some (.slice a n c) := H1.cell 0
  have x1 : w1.cell? ⟨rb, 1, none⟩ = some (.int .i64 0) := H1.cell 1
  have z1 : w1.frozen? ⟨rb, 1, none⟩ = false := H1.frozen 1
  have HH : Aside (Has w1 rb #[.slice a n c, .int .i64 0] 76) := H1
  clear hb1 H1
  rcases Nat.lt_trichotomy n (32 * M) with hlt | heq | hgt
  · have k1' : (n : Int) < ((32 * M : Nat) : Int) := by omega
    have FN : Aside (NDS20 w0 w rb 0 t M (.returned (.slice none 0 0)) (w1.setCell ⟨rb, 1, none⟩ (.int .i64 11))) := ⟨none, 0, 0, 11, [], t, rfl, .inr (.inl ⟨rfl, by rw [HR.out.2.2.2.1]; exact hlt, rfl, rfl, rfl⟩), own_noneh _ _, R1.out.1.wrong 11, R1.out.2.1.trans (STAY.set _ _ _ _)⟩
    clear hlt
    generalize 32 * M = LL at *
    go_wp2
    go_ret
    exact FN.out
  · have k1' : ¬ (n : Int) < ((32 * M : Nat) : Int) := by omega
    have k2' : ¬ ((32 * M : Nat) : Int) < (n : Int) := by omega
    obtain ⟨Z, hZ, hmk⟩ := make_hashes M (by have := HR.out.2.2.2.2; omega) w1
    obtain ⟨LL, hLL⟩ : ∃ LL, 32 * M = LL := ⟨_, rfl⟩
    rw [hLL] at eM k1' k2'
    have kd1 : decide (n < LL) = false := decide_eq_false (by omega)
    have kd2 : decide (LL < n) = false := decide_eq_false (by omega)
    have kn1 : ¬ n < LL := by omega
    have kn2 : ¬ LL < n := by omega
    have HA : Aside (t.length = 32 * M ∧ Z.length = 32 * M ∧ n = 32 * M ∧ n ≤ c ∧ Bytes w1 a n t ∧ rb < w1.heap.size) := ⟨by rw [HR.out.2.2.2.1]; exact heq, hZ, heq, by have := HR.out.2.2.1.2.1; have := HR.out.2.2.2.1; omega, by have h := HR.out.2.2.1.1.below R1.out.1.bel; rw [HR.out.2.2.2.1] at h; exact h, R1.out.1.lt⟩
    clear hZ heq hLL x1 z1
    go_wp2
    clear eM hmk x0
    go_loopg [54] M (fun q s54 wx => ∃ i : Nat, s54 = .int .i64 (i : Int) ∧ Aside (i + q = M ∧ Below w1.heap.size w1 wx ∧ w1.heap.size < wx.heap.size ∧ Has wx w1.heap.size (PARTH t Z i).toArray 60))
    case atStart => exact ⟨0, rfl, by omega, (Below.refl _ _).alloc (Nat.le_refl _) _, by simp, by rw [PARTH_zero]; exact Has.new _ _ _⟩
    case round =>
      obtain ⟨i, rfl, A⟩ := hrel
      obtain ⟨hi, hbel, hsz, hhas⟩ := A.out
      obtain ⟨a1, a2, a3, a4, a5, a6⟩ := HA.out
      cases gk with
      | zero =>
        obtain rfl : i = M := by omega
        have hlt : ¬ (i : Int) < (i : Int) := by omega
        have FN : Aside (NDS20 w0 w rb 0 t i (.returned (.slice (some ⟨w1.heap.size, 0, none⟩) i i)) wr) := by
          rw [PARTH_all a1 a2] at hhas
          exact ⟨_, i, i, 0, t, t, rfl, .inr (.inr (.inr ⟨rfl, a1, rfl, rfl, rfl⟩)), own_of_has hhas a1 R1.out.2.2.size (by have := HR.out.2.2.2.2; omega), R1.out.1.keep hbel, R1.out.2.1.trans (STAY.of hbel (Nat.le_of_lt R1.out.1.lt))⟩
        clear hi hbel hsz hhas a1 a2 a3 a4 a5 a6 A HA HR R1 HH
        go_wp2
        go_ret
        exact FN.out
      | succ q =>
        have hlt : (i : Int) < (M : Int) := by omega
        obtain ⟨b, o, rfl, hbl, hcs⟩ := a5.2.1 (by omega)
        have y0 : wr.cell? ⟨rb, 0, none⟩ = some (.slice (some ⟨b, o, none⟩) n c) := (hbel.cell (p := ⟨rb, 0, none⟩) a6).trans (HH.out.cell 0)
        obtain ⟨I, hI⟩ : ∃ I, i * 32 = I := ⟨_, rfl⟩
        have m2 : (I : Int) ≤ (n : Int) := by omega
        have m3 : (n : Int) ≤ (c : Int) := by omega
        have m4 : ¬ c = I := by omega
        have h32 : (CELLS (HSH t i)).length = 32 := by
          rw [CELLS, List.length_map]
          exact HSH_length a1 (by omega)
        have hsrc : ∀ j v, (CELLS (HSH t i))[j]? = some v → wr.cell? ((⟨b, o + I, none⟩ : Addr).add j) = some v := by
          intro j v hv
          have hj : j < 32 := by
            have := (List.getElem?_eq_some_iff.1 hv).1
            omega
          rw [CELLS_get _ _ (by rw [HSH_length a1 (by omega)]; exact hj), HSH_at hj] at hv
          rw [addr_add, show o + I + j = o + (32 * i + j) by omega]
          exact ((hbel.cell (p := ⟨b, o + (32 * i + j), none⟩) hbl).trans (hcs (32 * i + j) (by omega))).trans hv
        have hpl := PARTH_length a1 a2 (show i ≤ M by omega)
        have hnx := PARTH_next Z a1 (show i < M by omega)
        have hone := CELLS_one (HSH t i)
        have RR : Aside (i + 1 + q = M ∧ Below w1.heap.size w1 wr ∧ w1.heap.size < wr.heap.size ∧ Has wr w1.heap.size (PARTH t Z i).toArray 60 ∧ splice (PARTH t Z i) (i * 32) (CELLS (HSH t i)) = PARTH t Z (i + 1)) := ⟨by omega, hbel, hsz, hhas, hnx⟩
        have SS : Aside ((CELLS (HSH t i)).length = Nat.min (n - I) 32 ∧ i * 32 + (CELLS (HSH t i)).length ≤ (PARTH t Z i).length) := ⟨by rw [h32]; exact (Nat.min_eq_right (show 32 ≤ n - I by omega)).symm, by omega⟩
        have hM188 := HR.out.2.2.2.2
        have E2 : Aside (wrap64 (32 * (i : Int)) = (I : Int)) := by show wrap64 (32 * (i : Int)) = (I : Int); unfold wrap64; omega
        have E3 : Aside (IntKind.i64.wrap (32 * (i : Int)) = (I : Int)) := by show IntKind.i64.wrap (32 * (i : Int)) = (I : Int); rw [IntKind.wrap_i64]; omega
        have E1 : Aside (wrap64 ((i : Int) + 1) = ((i + 1 : Nat) : Int)) := by show wrap64 ((i : Int) + 1) = ((i + 1 : Nat) : Int); unfold wrap64; omega
        clear hi hbel hsz hhas a1 a2 a3 a4 a5 a6 A HA hbl hcs hpl hnx hI hM188 HR R1 HH
        generalize CELLS (HSH t i) = H at *
        have hu8 : (Tryd.prog.info? 5).map (·.size) = some 1 := by kernel_rfl
        have m1 := E2.out
        have m5 := E3.out
        go_wp2
        go_region_law (refine step_copy_splice rfl (.tmp 60) (.tmp 67) 38 38 rfl 5 Tryd.underlying38 hu8 (some ⟨w1.heap.size, i * 32, none⟩) (some ⟨b, o + I, none⟩) 32 32 (n - I) (c - I) (by simp [Act.eval, Act.put]) (by simp [Act.eval, Act.put]) w1.heap.size (i * 32) (PARTH t Z i) 60 (by exact RR.out.2.2.2.1) H SS.out.1 (fun _ => ⟨rfl, _, rfl, hsrc⟩) SS.out.2 hone w1.heap.size w1 (by exact RR.out.2.1.drew) (Nat.le_refl _) ?_; intro w4 hg4 hb4)
        have R2 : Aside (i + 1 + q = M ∧ Below w1.heap.size w1 w4 ∧ w1.heap.size < w4.heap.size ∧ Has w4 w1.heap.size (PARTH t Z (i + 1)).toArray 60) := by
          obtain ⟨r1, r2, r3, r4, r5⟩ := RR.out
          have hg5 : w4.heap[w1.heap.size]? = some (.cells (splice (PARTH t Z i) (i * 32) H).toArray 60 (0, 0)) := hg4
          rw [r5] at hg5
          exact ⟨r1, hb4, (Array.getElem?_eq_some_iff.1 hg5).1, hg5⟩
        clear RR SS hg4 hb4 hsrc hone h32 m1 m5 y0
        have e1 := E1.out
        go_wp2
        go_roundg q
        case measure => exact Nat.lt_succ_self _
        case rel => exact ⟨i + 1, by first | rfl | (rw [E1.out]), R2.out⟩
  · have k1' : ¬ (n : Int) < ((32 * M : Nat) : Int) := by omega
    have k2' : ((32 * M : Nat) : Int) < (n : Int) := by omega
    have FN : Aside (NDS20 w0 w rb 0 t M (.returned (.slice none 0 0)) (w1.setCell ⟨rb, 1, none⟩ (.int .i64 13))) := ⟨none, 0, 0, 13, [], t, rfl, .inr (.inr (.inl ⟨rfl, by rw [HR.out.2.2.2.1]; exact hgt, rfl, rfl, rfl⟩)), own_noneh _ _, R1.out.1.wrong 13, R1.out.2.1.trans (STAY.set _ _ _ _)⟩
    clear hgt
    generalize 32 * M = LL at *
    go_wp2
    go_ret
    exact FN.out
end Go.Proofs.YtmkgldjocigffaaDoor

/- Laws of one operation, at a step of a region that draws its order. -/
namespace Go.Proofs.YtmkgldjocigffaaDoor
open Go.RowKit
set_option maxRecDepth 100000

end Go.Proofs.YtmkgldjocigffaaDoor

/- The region of span.reader's proof that draws its order. -/
namespace Go.Proofs.YtmkgldjocigffaaDoor
open Go.RowKit
set_option maxRecDepth 100000

theorem store_num20 {w : World} {b o : Nat} {x : Int} (h : ∃ u, w.cell? ⟨b, o, none⟩ = some u) (hf : w.frozen? ⟨b, o, none⟩ = false) : (Instr.storeAt 22 (.pointer (some ⟨b, o, none⟩)) (.int .u64 x)).run Tryd.prog w = .ok () (w.setCell ⟨b, o, none⟩ (.int .u64 x)) := by
  obtain ⟨u, h⟩ := h
  go_simp
def SPR5OPS : Array Oper := #[{ dst := some 14, op := Op.fieldAddr 37 (Operand.tmp 3) 1, type := 0, pos := "bytes.go:38", after := #[], guard := none }, { dst := some 15, op := Op.load 22 (Operand.tmp 14), type := 22, pos := "bytes.go:38", after := #[{ on := 0, ground := Ground.data }], guard := none }, { dst := some 16, op := Op.move (Operand.tmp 0), type := 87, pos := "bytes.go:38", after := #[], guard := none }, { dst := some 17, op := Op.fieldAddr 37 (Operand.tmp 3) 0, type := 0, pos := "bytes.go:38", after := #[], guard := none }, { dst := some 18, op := Op.load 22 (Operand.tmp 17), type := 22, pos := "bytes.go:38", after := #[{ on := 3, ground := Ground.data }], guard := none }, { dst := some 19, op := Op.fieldAddr 37 (Operand.tmp 3) 1, type := 0, pos := "bytes.go:38", after := #[], guard := none }, { dst := some 20, op := Op.load 22 (Operand.tmp 19), type := 22, pos := "bytes.go:38", after := #[{ on := 5, ground := Ground.data }], guard := none }, { dst := some 21, op := Op.binOp BinOp.sub 22 (Operand.tmp 18) (Operand.tmp 20) 22, type := 22, pos := "bytes.go:38", after := #[{ on := 4, ground := Ground.data }, { on := 6, ground := Ground.data }], guard := none }, { dst := some 22, op := Op.call { callee := Callee.value (Operand.func 60), args := #[Operand.tmp 16, Operand.tmp 21, Operand.const (Value.int IntKind.i64 32)], argTypes := #[87, 22, 24] }, type := 22, pos := "bytes.go:38", after := #[{ on := 2, ground := Ground.data }, { on := 7, ground := Ground.data }], guard := none }, { dst := some 23, op := Op.binOp BinOp.add 22 (Operand.tmp 15) (Operand.tmp 22) 22, type := 22, pos := "bytes.go:38", after := #[{ on := 1, ground := Ground.data }, { on := 8, ground := Ground.data }], guard := none }, { dst := some 24, op := Op.fieldAddr 37 (Operand.tmp 3) 2, type := 0, pos := "bytes.go:38", after := #[{ on := 0, ground := Ground.phase }, { on := 1, ground := Ground.phase }, { on := 2, ground := Ground.phase }, { on := 3, ground := Ground.phase }, { on := 4, ground := Ground.phase }, { on := 5, ground := Ground.phase }, { on := 6, ground := Ground.phase }, { on := 7, ground := Ground.phase }, { on := 8, ground := Ground.phase }, { on := 9, ground := Ground.phase }], guard := none }, { dst := none, op := Op.store 22 (Operand.tmp 24) (Operand.tmp 23), type := 0, pos := "bytes.go:38", after := #[{ on := 10, ground := Ground.data }, { on := 9, ground := Ground.data }, { on := 8, ground := Ground.chain }, { on := 0, ground := Ground.phase }, { on := 1, ground := Ground.phase }, { on := 2, ground := Ground.phase }, { on := 3, ground := Ground.phase }, { on := 4, ground := Ground.phase }, { on := 5, ground := Ground.phase }, { on := 6, ground := Ground.phase }, { on := 7, ground := Ground.phase }, { on := 8, ground := Ground.phase }, { on := 9, ground := Ground.phase }], guard := none }]
set_option maxHeartbeats 2000000 in
theorem sproof5 {Q : Exit → Act → World → Prop} {u1 u2 u4 u5 u6 u7 u8 u9 u10 u11 u12 u13 u14 u15 u16 u17 u18 u19 u20 u21 u22 u23 u24 u25 u26 u27 u28 u29 u30 u31 u32 u33 u34 : Value} (W : World) (rb pb SZ F D : Nat) (P0 : World → Prop) (P1 P2 : Nat → World → Prop) (h0 : P0 W.drew) (t0 : ∀ w, P0 w → (fun w : World => w.cell? ⟨pb, 0, none⟩ = some (.int .u64 (SZ : Int)) ∧ w.cell? ⟨pb, 1, none⟩ = some (.int .u64 (F : Int))) w) (t1 : ∀ x w, P1 x w → (fun w : World => w.cell? ⟨pb, 0, none⟩ = some (.int .u64 (SZ : Int)) ∧ w.cell? ⟨pb, 1, none⟩ = some (.int .u64 (F : Int))) w) (t2 : ∀ x w, P2 x w → (fun w : World => w.cell? ⟨pb, 0, none⟩ = some (.int .u64 (SZ : Int)) ∧ w.cell? ⟨pb, 1, none⟩ = some (.int .u64 (F : Int))) w) (hle : ∀ x w, P1 x w → x ≤ D) (e1 : IntKind.u64.wrap ((SZ : Int) - (F : Int)) = (D : Int)) (e2 : ∀ x : Nat, x ≤ D → IntKind.u64.wrap ((F : Int) + (x : Int)) = ((F + x : Nat) : Int))
    (c1 : ∀ w, P0 w → Calls Tryd.prog 60 #[.pointer (some ⟨rb, 0, none⟩), .int .u64 (D : Int), .int .i64 32] w fun e w' => ∃ x : Nat, e = .returned (.int .u64 (x : Int)) ∧ P1 x w')
    (m1 : ∀ x w, P1 x w → (∃ u, w.cell? ⟨pb, 2, none⟩ = some u) ∧ w.frozen? ⟨pb, 2, none⟩ = false) (st : ∀ x w, P1 x w → P2 x (w.setCell ⟨pb, 2, none⟩ (.int .u64 ((F + x : Nat) : Int)))) (hQ : ∀ c (a : Act) (t : Tmp) (v : Value) w, Q (.panic c) (a.put (some t) v) w → Q (.panic c) a w)
    (hfin : ∀ (x : Nat) (w : World), (P2 x w) → Q .normal { tmps := #[.pointer (some ⟨rb, 0, none⟩), u1, u2, .pointer (some ⟨pb, 0, none⟩), u4, u5, u6, u7, u8, u9, u10, u11, u12, u13, .pointer (some ⟨pb, 1, none⟩), .int .u64 (F : Int), .pointer (some ⟨rb, 0, none⟩), .pointer (some ⟨pb, 0, none⟩), .int .u64 (SZ : Int), .pointer (some ⟨pb, 1, none⟩), .int .u64 (F : Int), .int .u64 (D : Int), .int .u64 (x : Int), .int .u64 ((F + x : Nat) : Int), .pointer (some ⟨pb, 2, none⟩), u25, u26, u27, u28, u29, u30, u31, u32, u33, u34], defers := [] } w) : (Code.region 5 SPR5OPS true).wp Tryd.prog Q { tmps := #[.pointer (some ⟨rb, 0, none⟩), u1, u2, .pointer (some ⟨pb, 0, none⟩), u4, u5, u6, u7, u8, u9, u10, u11, u12, u13, u14, u15, u16, u17, u18, u19, u20, u21, u22, u23, u24, u25, u26, u27, u28, u29, u30, u31, u32, u33, u34], defers := [] } W := by
  have kst8_11 : ∀ (x : Nat) (w : World), (P2 x w) → wpAnyH Tryd.prog .any SPR5OPS Q (fun w : World => w.cell? ⟨pb, 0, none⟩ = some (.int .u64 (SZ : Int)) ∧ w.cell? ⟨pb, 1, none⟩ = some (.int .u64 (F : Int))) 0 #[true, true, true, true, true, true, true, true, true, true, true, true] { tmps := #[.pointer (some ⟨rb, 0, none⟩), u1, u2, .pointer (some ⟨pb, 0, none⟩), u4, u5, u6, u7, u8, u9, u10, u11, u12, u13, .pointer (some ⟨pb, 1, none⟩), .int .u64 (F : Int), .pointer (some ⟨rb, 0, none⟩), .pointer (some ⟨pb, 0, none⟩), .int .u64 (SZ : Int), .pointer (some ⟨pb, 1, none⟩), .int .u64 (F : Int), .int .u64 (D : Int), .int .u64 (x : Int), .int .u64 ((F + x : Nat) : Int), .pointer (some ⟨pb, 2, none⟩), u25, u26, u27, u28, u29, u30, u31, u32, u33, u34], defers := [] } w := fun x w hp => by
    exact wpAnyH_done (by kernel_rfl) (hfin x w hp) _
  have kst8 : ∀ (x : Nat) (w : World), (P1 x w) → wpAnyH Tryd.prog .any SPR5OPS Q (fun w : World => w.cell? ⟨pb, 0, none⟩ = some (.int .u64 (SZ : Int)) ∧ w.cell? ⟨pb, 1, none⟩ = some (.int .u64 (F : Int))) 1 #[true, true, true, true, true, true, true, true, true, true, true, false] { tmps := #[.pointer (some ⟨rb, 0, none⟩), u1, u2, .pointer (some ⟨pb, 0, none⟩), u4, u5, u6, u7, u8, u9, u10, u11, u12, u13, .pointer (some ⟨pb, 1, none⟩), .int .u64 (F : Int), .pointer (some ⟨rb, 0, none⟩), .pointer (some ⟨pb, 0, none⟩), .int .u64 (SZ : Int), .pointer (some ⟨pb, 1, none⟩), .int .u64 (F : Int), .int .u64 (D : Int), .int .u64 (x : Int), .int .u64 ((F + x : Nat) : Int), .pointer (some ⟨pb, 2, none⟩), u25, u26, u27, u28, u29, u30, u31, u32, u33, u34], defers := [] } w := fun x w hp => by
    refine wpAnyH_ready (rs := [11]) (by kernel_rfl) (by simp) ?_
    refine AllReadyH.cons (o := { dst := none, op := Op.store 22 (Operand.tmp 24) (Operand.tmp 23), type := 0, pos := "bytes.go:38", after := #[{ on := 10, ground := Ground.data }, { on := 9, ground := Ground.data }, { on := 8, ground := Ground.chain }, { on := 0, ground := Ground.phase }, { on := 1, ground := Ground.phase }, { on := 2, ground := Ground.phase }, { on := 3, ground := Ground.phase }, { on := 4, ground := Ground.phase }, { on := 5, ground := Ground.phase }, { on := 6, ground := Ground.phase }, { on := 7, ground := Ground.phase }, { on := 8, ground := Ground.phase }, { on := 9, ground := Ground.phase }], guard := none }) rfl (fun KQ hKQ => ?_) ?_
    · exact step_skip rfl (run_skip (store_num20 (m1 _ _ hp).1 (m1 _ _ hp).2)) (have hp : (fun (x : Nat) (w : World) => (P2 x w)) x _ := st _ _ hp; hKQ.out _ _ (t2 _ _ hp) (fun _ => kst8_11 x _ hp))
    exact AllReadyH.nil
  have ekst_8 : ∀ (x : Nat) (w : World), (P1 x w) → wpAnyH Tryd.prog .any SPR5OPS Q (fun w : World => w.cell? ⟨pb, 0, none⟩ = some (.int .u64 (SZ : Int)) ∧ w.cell? ⟨pb, 1, none⟩ = some (.int .u64 (F : Int))) 3 #[true, true, true, true, true, true, true, true, true, false, false, false] { tmps := #[.pointer (some ⟨rb, 0, none⟩), u1, u2, .pointer (some ⟨pb, 0, none⟩), u4, u5, u6, u7, u8, u9, u10, u11, u12, u13, .pointer (some ⟨pb, 1, none⟩), .int .u64 (F : Int), .pointer (some ⟨rb, 0, none⟩), .pointer (some ⟨pb, 0, none⟩), .int .u64 (SZ : Int), .pointer (some ⟨pb, 1, none⟩), .int .u64 (F : Int), .int .u64 (D : Int), .int .u64 (x : Int), u23, u24, u25, u26, u27, u28, u29, u30, u31, u32, u33, u34], defers := [] } w := fun x w hp => by
    have hww : (fun w : World => w.cell? ⟨pb, 0, none⟩ = some (.int .u64 (SZ : Int)) ∧ w.cell? ⟨pb, 1, none⟩ = some (.int .u64 (F : Int))) w := t1 _ _ hp
    have last := kst8 x w hp
    refine wpAnyH_take (i := 9) (oi := { dst := some 23, op := Op.binOp BinOp.add 22 (Operand.tmp 15) (Operand.tmp 22) 22, type := 22, pos := "bytes.go:38", after := #[{ on := 1, ground := Ground.data }, { on := 8, ground := Ground.data }], guard := none }) (v := .int .u64 ((F + x : Nat) : Int)) rfl (by kernel_rfl) (by kernel_rfl) (by kernel_rfl) (fun _ _ _ h => hQ _ _ _ _ _ h) (Or.inl ⟨by rfl, fun w hw => by have hx := e2 x (hle _ _ hp); go_simp⟩) hww ?_
    simp only [Act.put, List.setIfInBounds_toArray, List.set_cons_zero, List.set_cons_succ]
    refine wpAnyH_take (i := 10) (oi := { dst := some 24, op := Op.fieldAddr 37 (Operand.tmp 3) 2, type := 0, pos := "bytes.go:38", after := #[{ on := 0, ground := Ground.phase }, { on := 1, ground := Ground.phase }, { on := 2, ground := Ground.phase }, { on := 3, ground := Ground.phase }, { on := 4, ground := Ground.phase }, { on := 5, ground := Ground.phase }, { on := 6, ground := Ground.phase }, { on := 7, ground := Ground.phase }, { on := 8, ground := Ground.phase }, { on := 9, ground := Ground.phase }], guard := none }) (v := .pointer (some ⟨pb, 2, none⟩)) rfl (by kernel_rfl) (by kernel_rfl) (by kernel_rfl) (fun _ _ _ h => hQ _ _ _ _ _ h) (Yields.yieldsIf (Or.inl ⟨by rfl, fun W => by go_simp⟩)) hww ?_
    simp only [Act.put, List.setIfInBounds_toArray, List.set_cons_zero, List.set_cons_succ]
    exact last
  have kst : ∀ (w : World), (P0 w) → wpAnyH Tryd.prog .any SPR5OPS Q (fun w : World => w.cell? ⟨pb, 0, none⟩ = some (.int .u64 (SZ : Int)) ∧ w.cell? ⟨pb, 1, none⟩ = some (.int .u64 (F : Int))) 4 #[true, true, true, true, true, true, true, true, false, false, false, false] { tmps := #[.pointer (some ⟨rb, 0, none⟩), u1, u2, .pointer (some ⟨pb, 0, none⟩), u4, u5, u6, u7, u8, u9, u10, u11, u12, u13, .pointer (some ⟨pb, 1, none⟩), .int .u64 (F : Int), .pointer (some ⟨rb, 0, none⟩), .pointer (some ⟨pb, 0, none⟩), .int .u64 (SZ : Int), .pointer (some ⟨pb, 1, none⟩), .int .u64 (F : Int), .int .u64 (D : Int), u22, u23, u24, u25, u26, u27, u28, u29, u30, u31, u32, u33, u34], defers := [] } w := fun  w hp => by
    refine wpAnyH_ready (rs := [8]) (by kernel_rfl) (by simp) ?_
    refine AllReadyH.cons (o := { dst := some 22, op := Op.call { callee := Callee.value (Operand.func 60), args := #[Operand.tmp 16, Operand.tmp 21, Operand.const (Value.int IntKind.i64 32)], argTypes := #[87, 22, 24] }, type := 22, pos := "bytes.go:38", after := #[{ on := 2, ground := Ground.data }, { on := 7, ground := Ground.data }], guard := none }) rfl (fun KQ hKQ => ?_) ?_
    · rw [if_pos (by rfl)]
      go_simp
      refine (show Calls _ _ _ w (fun e w' => ∃ (x : Nat), e = .returned (.int .u64 (x : Int)) ∧ (P1 x w')) from c1 w hp).mono ?_
      rintro e w' ⟨x, rfl, hp⟩
      exact hKQ.out _ _ (t1 _ _ hp) (fun _ => ekst_8 x w' hp)
    exact AllReadyH.nil
  have hp := h0
  have hww : (fun w : World => w.cell? ⟨pb, 0, none⟩ = some (.int .u64 (SZ : Int)) ∧ w.cell? ⟨pb, 1, none⟩ = some (.int .u64 (F : Int))) W.drew := t0 _ hp
  have last := kst W.drew hp
  have z : wpAnyH Tryd.prog .any SPR5OPS Q (fun w : World => w.cell? ⟨pb, 0, none⟩ = some (.int .u64 (SZ : Int)) ∧ w.cell? ⟨pb, 1, none⟩ = some (.int .u64 (F : Int))) 12 #[false, false, false, false, false, false, false, false, false, false, false, false] { tmps := #[.pointer (some ⟨rb, 0, none⟩), u1, u2, .pointer (some ⟨pb, 0, none⟩), u4, u5, u6, u7, u8, u9, u10, u11, u12, u13, u14, u15, u16, u17, u18, u19, u20, u21, u22, u23, u24, u25, u26, u27, u28, u29, u30, u31, u32, u33, u34], defers := [] } W.drew := by
    refine wpAnyH_take (i := 0) (oi := { dst := some 14, op := Op.fieldAddr 37 (Operand.tmp 3) 1, type := 0, pos := "bytes.go:38", after := #[], guard := none }) (v := .pointer (some ⟨pb, 1, none⟩)) rfl (by kernel_rfl) (by kernel_rfl) (by kernel_rfl) (fun _ _ _ h => hQ _ _ _ _ _ h) (Yields.yieldsIf (Or.inl ⟨by rfl, fun W => by go_simp⟩)) hww ?_
    simp only [Act.put, List.setIfInBounds_toArray, List.set_cons_zero, List.set_cons_succ]
    refine wpAnyH_take (i := 1) (oi := { dst := some 15, op := Op.load 22 (Operand.tmp 14), type := 22, pos := "bytes.go:38", after := #[{ on := 0, ground := Ground.data }], guard := none }) (v := .int .u64 (F : Int)) rfl (by kernel_rfl) (by kernel_rfl) (by kernel_rfl) (fun _ _ _ h => hQ _ _ _ _ _ h) (Or.inl ⟨by rfl, fun w hw => by have hx := hw.2; go_simp⟩) hww ?_
    simp only [Act.put, List.setIfInBounds_toArray, List.set_cons_zero, List.set_cons_succ]
    refine wpAnyH_take (i := 2) (oi := { dst := some 16, op := Op.move (Operand.tmp 0), type := 87, pos := "bytes.go:38", after := #[], guard := none }) (v := .pointer (some ⟨rb, 0, none⟩)) rfl (by kernel_rfl) (by kernel_rfl) (by kernel_rfl) (fun _ _ _ h => hQ _ _ _ _ _ h) (Yields.yieldsIf (Or.inl ⟨by rfl, fun W => by go_simp⟩)) hww ?_
    simp only [Act.put, List.setIfInBounds_toArray, List.set_cons_zero, List.set_cons_succ]
    refine wpAnyH_take (i := 3) (oi := { dst := some 17, op := Op.fieldAddr 37 (Operand.tmp 3) 0, type := 0, pos := "bytes.go:38", after := #[], guard := none }) (v := .pointer (some ⟨pb, 0, none⟩)) rfl (by kernel_rfl) (by kernel_rfl) (by kernel_rfl) (fun _ _ _ h => hQ _ _ _ _ _ h) (Yields.yieldsIf (Or.inl ⟨by rfl, fun W => by go_simp⟩)) hww ?_
    simp only [Act.put, List.setIfInBounds_toArray, List.set_cons_zero, List.set_cons_succ]
    refine wpAnyH_take (i := 4) (oi := { dst := some 18, op := Op.load 22 (Operand.tmp 17), type := 22, pos := "bytes.go:38", after := #[{ on := 3, ground := Ground.data }], guard := none }) (v := .int .u64 (SZ : Int)) rfl (by kernel_rfl) (by kernel_rfl) (by kernel_rfl) (fun _ _ _ h => hQ _ _ _ _ _ h) (Or.inl ⟨by rfl, fun w hw => by have hx := hw.1; go_simp⟩) hww ?_
    simp only [Act.put, List.setIfInBounds_toArray, List.set_cons_zero, List.set_cons_succ]
    refine wpAnyH_take (i := 5) (oi := { dst := some 19, op := Op.fieldAddr 37 (Operand.tmp 3) 1, type := 0, pos := "bytes.go:38", after := #[], guard := none }) (v := .pointer (some ⟨pb, 1, none⟩)) rfl (by kernel_rfl) (by kernel_rfl) (by kernel_rfl) (fun _ _ _ h => hQ _ _ _ _ _ h) (Yields.yieldsIf (Or.inl ⟨by rfl, fun W => by go_simp⟩)) hww ?_
    simp only [Act.put, List.setIfInBounds_toArray, List.set_cons_zero, List.set_cons_succ]
    refine wpAnyH_take (i := 6) (oi := { dst := some 20, op := Op.load 22 (Operand.tmp 19), type := 22, pos := "bytes.go:38", after := #[{ on := 5, ground := Ground.data }], guard := none }) (v := .int .u64 (F : Int)) rfl (by kernel_rfl) (by kernel_rfl) (by kernel_rfl) (fun _ _ _ h => hQ _ _ _ _ _ h) (Or.inl ⟨by rfl, fun w hw => by have hx := hw.2; go_simp⟩) hww ?_
    simp only [Act.put, List.setIfInBounds_toArray, List.set_cons_zero, List.set_cons_succ]
    refine wpAnyH_take (i := 7) (oi := { dst := some 21, op := Op.binOp BinOp.sub 22 (Operand.tmp 18) (Operand.tmp 20) 22, type := 22, pos := "bytes.go:38", after := #[{ on := 4, ground := Ground.data }, { on := 6, ground := Ground.data }], guard := none }) (v := .int .u64 (D : Int)) rfl (by kernel_rfl) (by kernel_rfl) (by kernel_rfl) (fun _ _ _ h => hQ _ _ _ _ _ h) (Or.inl ⟨by rfl, fun w hw => by have hx := e1; go_simp⟩) hww ?_
    simp only [Act.put, List.setIfInBounds_toArray, List.set_cons_zero, List.set_cons_succ]
    exact last
  exact wp_region_held_drew (S := (fun w : World => w.cell? ⟨pb, 0, none⟩ = some (.int .u64 (SZ : Int)) ∧ w.cell? ⟨pb, 1, none⟩ = some (.int .u64 (F : Int)))) (by kernel_rfl) hww (fun _ => z)
end Go.Proofs.YtmkgldjocigffaaDoor

/- index of the reader of package many: so many indices, each as what is between it and the one ahead. -/
namespace Go.Proofs.YtmkgldjocigffaaDoor
open Go.RowKit
set_option maxRecDepth 100000

end Go.Proofs.YtmkgldjocigffaaDoor

/- needUnder and need of package many, with the closure of Encode. -/
namespace Go.Proofs.YtmkgldjocigffaaDoor
open Go.RowKit
set_option maxRecDepth 100000

end Go.Proofs.YtmkgldjocigffaaDoor

/- written of package many: a proof in bytes. -/
namespace Go.Proofs.YtmkgldjocigffaaDoor
open Go.RowKit
set_option maxRecDepth 100000

end Go.Proofs.YtmkgldjocigffaaDoor

/- mustBeWhole of package many: it gives up where a proof has other leaves than there are, or other nodes than they need. -/
namespace Go.Proofs.YtmkgldjocigffaaDoor
open Go.RowKit
set_option maxRecDepth 100000

/-- the number in bl is how many of K are left behind acc. -/
structure COUNTING (K : Nat) (w0 w : World) (bl : Nat) (acc : List Nat) : Prop where
  le : acc.length ≤ K
  row : Has w bl #[.int .i64 ((K - acc.length : Nat) : Int)] 3
  keep : ∀ b, b < w0.heap.size → b ≠ bl → w.heap[b]? = w0.heap[b]?
  lt : bl < w0.heap.size
  below : Below bl w0 w
end Go.Proofs.YtmkgldjocigffaaDoor

/- What Decode of package many answers, of any bytes: plain. -/
namespace Go.Proofs.YtmkgldjocigffaaDoor
set_option maxRecDepth 100000

end Go.Proofs.YtmkgldjocigffaaDoor

/- hash of the reader of package many: the next 32 bytes. -/
namespace Go.Proofs.YtmkgldjocigffaaDoor
open Go.RowKit
set_option maxRecDepth 100000

end Go.Proofs.YtmkgldjocigffaaDoor

/- A hash is put behind a list of hashes, and where it then lies. -/
namespace Go.Proofs.YtmkgldjocigffaaDoor
open Go.RowKit
set_option maxRecDepth 100000

end Go.Proofs.YtmkgldjocigffaaDoor

/- The region of the closure of Decode of package many that draws its order. -/
namespace Go.Proofs.YtmkgldjocigffaaDoor
open Go.RowKit
set_option maxRecDepth 100000

end Go.Proofs.YtmkgldjocigffaaDoor

/- needUnder and need of package many, with the closure of Decode. -/
namespace Go.Proofs.YtmkgldjocigffaaDoor
open Go.RowKit
set_option maxRecDepth 100000

end Go.Proofs.YtmkgldjocigffaaDoor

/- The closure of Decode of package many: the next node is read and put behind the others. -/
namespace Go.Proofs.YtmkgldjocigffaaDoor
open Go.RowKit
set_option maxRecDepth 100000

end Go.Proofs.YtmkgldjocigffaaDoor

/- proof of the reader of package many: the whole of it. -/
namespace Go.Proofs.YtmkgldjocigffaaDoor
open Go.RowKit
set_option maxRecDepth 100000

theorem STAY.high {w W : World} {rb : Nat} (h : STAY w W rb) {pb i : Nat} {v : Value} (hp : w.heap.size ≤ pb) (hr : rb ≤ w.heap.size) : STAY w (W.setCell ⟨pb, i, none⟩ v) rb := ⟨fun k hk hne => (Below.heap_setCell W ⟨pb, i, none⟩ v k (by show k ≠ pb; omega)).trans (h.kp k hk hne), h.bl.setCell (p := ⟨pb, i, none⟩) (by show rb ≤ pb; omega) _⟩
theorem own_hold9 {w w' : World} {B s n : Nat} {t : TypeId} {v : Value} {xs : List Value} (h : w.ownsRow B t s v n xs) (hk : ∀ k, v.ownBlock = some k → w'.heap[k]? = w.heap[k]?) : w'.ownsRow B t s v n xs := own_heap h hk
end Go.Proofs.YtmkgldjocigffaaDoor
