/- Texts of ManyBytes, one behind the other: ManyDecode, ManyFaceE, ManyEncode, ManyRoundPlain, ManyLies, ManyStays2. -/
import Derived.Test.YtmpaifkjlhodpaaDoorManyBytesP7
import Derived.Test.YtmpaifkjlhodpaaDoorManyBytesP10
import Derived.Test.YtmpaifkjlhodpaaDoorManyBytesP13
import Derived.Test.YtmpaifkjlhodpaaDoorManyBytesP18
/- Decode of package many. -/
namespace Go.Proofs.YtmpaifkjlhodpaaDoor
open Go.RowKit
set_option maxRecDepth 100000

/-- what the doing of Decode leaves. -/
def DECG (w : World) (pb : Nat) (A : MANS) (w' : World) : Prop :=
  A.1 = 0 ∧ ∃ a c a2 K c2, Has w' pb #[.int .u64 (A.2.1 : Int), .slice a A.2.2.1.length c, .slice a2 K c2] 32 ∧ w'.ownsRow w.heap.size 23 1 (.slice a A.2.2.1.length c) A.2.2.1.length (UCELLS A.2.2.1) ∧ w'.ownsRow w.heap.size 57 32 (.slice a2 K c2) K (CELLS A.2.2.2) ∧ A.2.2.2.length = 32 * K ∧ (∀ b, b < w.heap.size → b ≠ pb → w'.heap[b]? = w.heap[b]?) ∧ Below pb w w'
set_option maxHeartbeats 2000000 in
theorem decodedo_ok {wS w : World} {bb pb : Nat} {a : Option Addr} {c : Nat} {l : List Int} (hS : SRC wS a c l) (hb : Below wS.heap.size wS w) (h0 : Has w bb #[.slice a l.length c] 35) (h1 : Has w pb ZMANY 32) (hT : Tabled wS) (hw0 : 0 < wS.heap.size) :
    Calls Tryd.prog 40 #[.pointer (some ⟨bb, 0, none⟩), .pointer (some ⟨pb, 0, none⟩)] w fun e w' => (e = .returned (.tuple #[]) ∧ DECG w pb (MDC l) w') ∨ ∃ x, e = .panicked (WRONG x) ∧ (x = (MDC l).1 ∧ x ≠ 0 ∧ Below w.heap.size w w') := by
  obtain ⟨w1, e1⟩ : ∃ w1, w.alloc (.cells #[.slice a l.length c] 68) = w1 := ⟨_, rfl⟩
  have hb1 : Below w.heap.size w w1 := by rw [← e1]; exact (Below.refl _ _).alloc (Nat.le_refl _) _
  have s1 : w1.heap.size = w.heap.size + 1 := by rw [← e1]; simp
  have hsz := hb.size
  have R1 : RDR wS w1 w.heap.size l := ⟨⟨a, c, by rw [← e1]; exact Has.new w _ _, hS⟩, hb.trans (hb1.mono hsz), hsz⟩
  have cp := mproof_ok R1 hT hw0
  obtain ⟨A, hA⟩ : ∃ A, MDC l = A := ⟨_, rfl⟩
  rw [hA] at cp ⊢
  have x0 := h0.cell 0
  have hlt := h1.lt
  have HA : Aside (Has w1 pb ZMANY 32 ∧ Below w.heap.size w w1 ∧ w1.heap.size = w.heap.size + 1 ∧ pb < w.heap.size) := ⟨h1.keep hb1, hb1, s1, hlt⟩
  obtain ⟨n, hn⟩ : ∃ n, l.length = n := ⟨_, rfl⟩
  rw [hn] at e1 x0
  have info3 : (Tryd.prog.info? 32).map (·.size) = some 3 := by kernel_rfl
  clear hS hb h0 h1 hT hw0 hb1 s1 hsz R1 hA hlt
  go_enter Tryd.func40, Tryd.ntmps40
  go_wp2_with fail
  refine cp.mono ?_
  rintro e w2 (⟨hE, a2, c2, a3, K, c3, rfl, o1, o2, hK, S2⟩ | ⟨hE, rfl, S2⟩)
  · have hp2 : Has w2 pb ZMANY 32 := S2.has HA.out.1 (by have := HA.out; omega)
    obtain ⟨M, hM⟩ : ∃ M, A.2.2.1.length = M := ⟨_, rfl⟩
    obtain ⟨Z, hZ⟩ : ∃ Z, A.2.1 = Z := ⟨_, rfl⟩
    rw [hM] at o1 ⊢
    rw [hZ]
    have FN : Aside (DECG w pb A (w2.setRow pb #[.int .u64 (Z : Int), .slice a2 M c2, .slice a3 K c3])) := by
      have hwa := HA.out
      refine ⟨hE, a2, c2, a3, K, c3, by rw [hZ, hM]; exact hp2.row _, ?_, ?_, hK, fun b hb hne => (setRow_other _ _ _ _ hne).trans ((S2.kp b (by omega) (by omega)).trans (HA.out.2.1.block b hb)), ?_⟩
      · rw [hM]
        exact own_mono (own_hold9 o1 fun k e => setRow_other _ _ _ _ (by have := (o1.lt k e).1; omega)) (by omega)
      · exact own_mono (own_hold9 o2 fun k e => setRow_other _ _ _ _ (by have := (o2.lt k e).1; omega)) (by omega)
      · exact below_row ((HA.out.2.1.mono (by omega)).trans (S2.bl.mono (by omega))) (Nat.le_refl _) _
    have infoM : (Tryd.prog.info? 32).map (·.size) = some (#[Value.int .u64 (Z : Int), .slice a2 M c2, .slice a3 K c3] : Array Value).size := info3
    have sizeM : ZMANY.size = (#[Value.int .u64 (Z : Int), .slice a2 M c2, .slice a3 K c3] : Array Value).size := rfl
    have allM : (#[Value.int .u64 (Z : Int), .slice a2 M c2, .slice a3 K c3] : Array Value).all (·.oneCell') = true := by simp [Value.oneCell']
    have MM : Aside ((Tryd.prog.info? 32).map (·.size) = some (#[Value.int .u64 (Z : Int), .slice a2 M c2, .slice a3 K c3] : Array Value).size ∧ ZMANY.size = (#[Value.int .u64 (Z : Int), .slice a2 M c2, .slice a3 K c3] : Array Value).size ∧ (#[Value.int .u64 (Z : Int), .slice a2 M c2, .slice a3 K c3] : Array Value).all (·.oneCell') = true ∧ Has w2 pb ZMANY 32) := ⟨infoM, sizeM, allM, hp2⟩
    clear cp o1 o2 hK S2 hp2 HA infoM sizeM allM hE hM hZ
    go_wp2_with (first
      | (refine wpList_store_row rfl 32 (.tmp 1) (.tmp 5) rfl _ _ rfl rfl 32 ZMANY MM.out.2.2.2 MM.out.1 MM.out.2.1 MM.out.2.2.1 ?_))
    exact bodyPost_end (v := .tuple #[]) (by simp [results, Tryd.f40]) rfl (.inl ⟨rfl, FN.out⟩)
  · exact ⟨rfl, .inr ⟨_, rfl, rfl, hE, HA.out.2.1.trans ((STAY.bl S2))⟩⟩
/-- what Decode answers. -/
def DECM (w : World) (A : MANS) (e : Ending) (w' : World) : Prop :=
  ∃ a c a2 K c2, e = .returned (.tuple #[.agg #[.int .u64 (A.2.1 : Int), .slice a A.2.2.1.length c, .slice a2 K c2], .int .i64 A.1]) ∧ w'.ownsRow w.heap.size 23 1 (.slice a A.2.2.1.length c) A.2.2.1.length (UCELLS A.2.2.1) ∧ w'.ownsRow w.heap.size 57 32 (.slice a2 K c2) K (CELLS A.2.2.2) ∧ A.2.2.2.length = 32 * K ∧ Below w.heap.size w w'
theorem MD3_err {n : Nat} {I : Int × List Nat × List Int} (h : (MD3 n I).1 ≠ 0) : MD3 n I = MERR (MD3 n I).1 := by
  unfold MD3 at h ⊢
  by_cases h1 : I.1 ≠ 0
  · rw [if_pos h1]; rfl
  · rw [if_neg h1] at h ⊢
    by_cases h2 : I.2.2.length < 32 * (NEEDS (TPS n) I.2.1).length
    · rw [if_pos h2]; rfl
    · rw [if_neg h2] at h ⊢
      by_cases h3 : 32 * (NEEDS (TPS n) I.2.1).length < I.2.2.length
      · rw [if_pos h3]; rfl
      · rw [if_neg h3] at h
        exact absurd rfl h
theorem MDC_err {l : List Int} (h : (MDC l).1 ≠ 0) : MDC l = MERR (MDC l).1 := by
  cases l with
  | nil => rfl
  | cons x t =>
    have e : MDC (x :: t) = if x = 78 then MD1 t else MERR 14 := rfl
    rw [e] at h ⊢
    by_cases hx : x = 78
    · rw [if_pos hx] at h ⊢
      unfold MD1 at h ⊢
      by_cases h1 : (LNG t).2.2 ≠ 0
      · rw [if_pos h1]; rfl
      · rw [if_neg h1] at h ⊢
        by_cases h2 : 4611686018427387904 < (LNG t).1.toNat
        · rw [if_pos h2]; rfl
        · rw [if_neg h2] at h ⊢
          exact MD3_err h
    · rw [if_neg hx]; rfl
set_option maxHeartbeats 4000000 in
theorem manydecode_ok (a : Option Addr) (n c : Nat) (l : List Int) (w : World) (hB : Bytes w a n l) (hc : n ≤ c) (hn : n ≤ 1000000) (hT : Tabled w) (hw0 : 0 < w.heap.size) : Calls Tryd.prog 20 #[.slice a n c] w (DECM w (MDC l)) := by
  have hmf : ∀ (fn : Fn) (first cap : Array Value) (w : World), (Instr.makeFunc fn first cap).run Tryd.prog w = .ok (.func fn first cap) w := fun _ _ _ _ => rfl
  have hl := hB.1
  have hS : SRC w a c l := ⟨by rw [hl]; exact hB, by omega, by omega⟩
  obtain ⟨w1, e1⟩ : ∃ w1, w.alloc (.cells #[.slice a n c] 35) = w1 := ⟨_, rfl⟩
  obtain ⟨w2, e2⟩ : ∃ w2, w1.alloc (.cells ZMANY 32) = w2 := ⟨_, rfl⟩
  obtain ⟨w3, e3⟩ : ∃ w3, w2.alloc (.cells ZMANY 32) = w3 := ⟨_, rfl⟩
  obtain ⟨w4, e4⟩ : ∃ w4, w3.alloc (.cells #[.int .i64 0] 25) = w4 := ⟨_, rfl⟩
  have s1 : w1.heap.size = w.heap.size + 1 := by rw [← e1]; simp
  have s2 : w2.heap.size = w.heap.size + 2 := by rw [← e2]; simp; omega
  have s3 : w3.heap.size = w.heap.size + 3 := by rw [← e3]; simp; omega
  have s4 : w4.heap.size = w.heap.size + 4 := by rw [← e4]; simp; omega
  have hb4 : Below w.heap.size w w4 := by
    rw [← e4, ← e3, ← e2, ← e1]
    exact ((((Below.refl _ _).alloc (Nat.le_refl _) _).alloc (by simp) _).alloc (by simp; omega) _).alloc (by simp; omega) _
  have h0 : Has w4 w.heap.size #[.slice a l.length c] 35 := by
    rw [← e4, ← e3, ← e2, ← e1, hl]
    exact (((Has.new w _ _).alloc _).alloc _).alloc _
  have h1 : Has w4 w1.heap.size ZMANY 32 := by
    rw [← e4, ← e3, ← e2]
    exact ((Has.new w1 _ _).alloc _).alloc _
  have h2 : Has w4 w2.heap.size ZMANY 32 := by
    rw [← e4, ← e3]
    exact (Has.new w2 _ _).alloc _
  have h3 : Has w4 w3.heap.size #[.int .i64 0] 25 := by
    rw [← e4]
    exact Has.new w3 _ _
  have cd := decodedo_ok hS hb4 h0 h2 hT hw0
  rw [← e4] at cd
  have cf := faceD_ok w.heap.size w2.heap.size w3 _ _ cd
    (fun w' h => by
      obtain ⟨_, _, _, _, _, _, _, _, _, _, hk, _⟩ := h
      rw [e4] at hk
      exact (hk w3.heap.size (by omega) (by omega)).trans h3)
    (fun x w' ⟨_, _, hb⟩ => by rw [e4] at hb; exact h3.keep hb)
  rw [e4] at cf
  obtain ⟨A, hA⟩ : ∃ A, MDC l = A := ⟨_, rfl⟩
  have hMe := MDC_err (l := l)
  rw [hA] at cf hMe ⊢
  have FIN : Aside (∀ e w', FACED w3 (fun w' => DECG w4 w2.heap.size A w') (fun x w' => x = A.1 ∧ x ≠ 0 ∧ Below w4.heap.size w4 w') e w' → e = .returned (.int .i64 A.1) ∧ ∃ a c a2 K c2, Has w' w2.heap.size #[.int .u64 (A.2.1 : Int), .slice a A.2.2.1.length c, .slice a2 K c2] 32 ∧ Has w' w1.heap.size ZMANY 32 ∧ w'.ownsRow w4.heap.size 23 1 (.slice a A.2.2.1.length c) A.2.2.1.length (UCELLS A.2.2.1) ∧ w'.ownsRow w4.heap.size 57 32 (.slice a2 K c2) K (CELLS A.2.2.2) ∧ A.2.2.2.length = 32 * K ∧ Below w.heap.size w w') := by
    rintro e w' (⟨rfl, wx, ⟨hE, a', c', a2, K, c2, q1, q2, q3, q4, q5, q6⟩, rfl⟩ | ⟨x, wx, rfl, ⟨rfl, hx, hbx⟩, rfl⟩)
    · refine ⟨by rw [hE], a', c', a2, K, c2, q1.other (by show w2.heap.size ≠ w3.heap.size; omega) _, ?_, ownsRow_setCell_below q2 (a := ⟨w3.heap.size, 0, none⟩) (by show w3.heap.size < w4.heap.size; omega) _, ownsRow_setCell_below q3 (a := ⟨w3.heap.size, 0, none⟩) (by show w3.heap.size < w4.heap.size; omega) _, q4, ?_⟩
      · exact Has.other (show Has wx w1.heap.size ZMANY 32 from (q5 w1.heap.size (by omega) (by omega)).trans h1) (by show w1.heap.size ≠ w3.heap.size; omega) _
      · exact (hb4.trans (q6.mono (by omega))).setCell (by show w.heap.size ≤ w3.heap.size; omega) _
    · have hP : A = MERR A.1 := hMe hx
      refine ⟨rfl, none, 0, none, 0, 0, ?_, ?_, ?_, ?_, ?_, (hb4.trans (hbx.mono hb4.size)).setCell (by show w.heap.size ≤ w3.heap.size; omega) _⟩
      · have e1 : A.2.1 = 0 := by rw [hP]; rfl
        have e2 : A.2.2.1 = [] := by rw [hP]; rfl
        rw [e1, e2]
        exact (h2.keep hbx).other (by show w2.heap.size ≠ w3.heap.size; omega) _
      · exact (h1.keep hbx).other (by show w1.heap.size ≠ w3.heap.size; omega) _
      · have e2 : A.2.2.1 = [] := by rw [hP]; rfl
        rw [e2]
        exact ⟨rfl, .inl ⟨rfl, rfl⟩⟩
      · have e2 : A.2.2.2 = [] := by rw [hP]; rfl
        rw [e2]
        exact ⟨rfl, .inl ⟨rfl, rfl⟩⟩
      · have e2 : A.2.2.2 = [] := by rw [hP]; rfl
        rw [e2]
        rfl
  have SZ : Aside (w1.heap.size = w.heap.size + 1 ∧ w2.heap.size = w.heap.size + 2 ∧ w4.heap.size = w.heap.size + 4) := ⟨s1, s2, s4⟩
  have info3 : (Tryd.prog.info? 32).map (·.size) = some 3 := by kernel_rfl
  clear cd h0 h1 h2 h3 hb4 hl hS hB hc hn hT s1 s2 s3 s4 e4 hw0 hA hMe
  go_enter Tryd.func20, Tryd.ntmps20
  go_wp2_with fail
  refine cf.mono ?_
  intro e w5 hh
  obtain ⟨rfl, a', c', a2, K, c2, q1, q2, q3, q4, q5, q6⟩ := FIN.out e w5 hh
  obtain ⟨M, hM⟩ : ∃ M, A.2.2.1.length = M := ⟨_, rfl⟩
  obtain ⟨Z, hZ⟩ : ∃ Z, A.2.1 = Z := ⟨_, rfl⟩
  obtain ⟨E, hE⟩ : ∃ E, A.1 = E := ⟨_, rfl⟩
  rw [hZ, hM] at q1
  rw [hM] at q3
  have FN : Aside (DECM w A (.returned (.tuple #[.agg #[.int .u64 (Z : Int), .slice a' M c', .slice a2 K c2], .int .i64 E])) (w5.setRow w1.heap.size #[.int .u64 (Z : Int), .slice a' M c', .slice a2 K c2])) := by
    have hsz := SZ.out
    refine ⟨a', c', a2, K, c2, by rw [hZ, hM, hE], ?_, ?_, q5, below_row q6 (by omega) _⟩
    · rw [hM]
      exact own_mono (own_hold9 q3 fun k e => setRow_other _ _ _ _ (by have := (q3.lt k e).1; omega)) (by omega)
    · exact own_mono (own_hold9 q4 fun k e => setRow_other _ _ _ _ (by have := (q4.lt k e).1; omega)) (by omega)
  rw [hE]
  have infoM : (Tryd.prog.info? 32).map (·.size) = some (#[Value.int .u64 (Z : Int), .slice a' M c', .slice a2 K c2] : Array Value).size := info3
  have sizeM : ZMANY.size = (#[Value.int .u64 (Z : Int), .slice a' M c', .slice a2 K c2] : Array Value).size := rfl
  have allM : (#[Value.int .u64 (Z : Int), .slice a' M c', .slice a2 K c2] : Array Value).all (·.oneCell') = true := by simp [Value.oneCell']
  have MM : Aside ((Tryd.prog.info? 32).map (·.size) = some (#[Value.int .u64 (Z : Int), .slice a' M c', .slice a2 K c2] : Array Value).size ∧ ZMANY.size = (#[Value.int .u64 (Z : Int), .slice a' M c', .slice a2 K c2] : Array Value).size ∧ (#[Value.int .u64 (Z : Int), .slice a' M c', .slice a2 K c2] : Array Value).all (·.oneCell') = true ∧ Has w5 w2.heap.size #[.int .u64 (Z : Int), .slice a' M c', .slice a2 K c2] 32 ∧ Has w5 w1.heap.size ZMANY 32) := ⟨infoM, sizeM, allM, q1, q2⟩
  clear hh q1 q2 q3 q4 q5 q6 FIN cf SZ infoM sizeM allM hM hZ hE
  go_wp2_with (first
    | (refine wpList_load_row rfl 32 (.tmp 4) rfl w2.heap.size rfl 32 #[.int .u64 (Z : Int), .slice a' M c', .slice a2 K c2] (0, 0) _ MM.out.2.2.2.1 Tryd.underlying32 rfl MM.out.1 ?_)
    | (refine wpList_store_row rfl 32 (.tmp 2) (.tmp 8) rfl _ _ rfl rfl 32 ZMANY MM.out.2.2.2.2 MM.out.1 MM.out.2.1 MM.out.2.2.1 ?_))
  refine bodyPost_ret (v := .tuple #[.agg #[.int .u64 (Z : Int), .slice a' M c', .slice a2 K c2], .int .i64 E]) ?_ rfl FN.out
  rw [results_cell_tmp rfl]
  have hrow := MM.out.2.2.2.2.row #[.int .u64 (Z : Int), .slice a' M c', .slice a2 K c2]
  simp [asAddr, run_loadVar_row _ w1.heap.size 32 32 _ (0, 0) _ hrow Tryd.underlying32 rfl MM.out.1]
end Go.Proofs.YtmpaifkjlhodpaaDoor

/- face of package many, with the doing of Encode. -/
namespace Go.Proofs.YtmpaifkjlhodpaaDoor
open Go.RowKit
set_option maxRecDepth 100000

set_option maxHeartbeats 1000000 in
theorem faceE_ok (b0 b1 : Nat) (w : World) (G : World → Prop) (B : Int → World → Prop)
    (hdo : Calls Tryd.prog 34 #[.pointer (some ⟨b0, 0, none⟩), .pointer (some ⟨b1, 0, none⟩)] (w.alloc (.cells #[.int .i64 0] 25)) fun e w' => (e = .returned (.tuple #[]) ∧ G w') ∨ ∃ x, e = .panicked (WRONG x) ∧ B x w')
    (hG : ∀ w', G w' → Has w' w.heap.size #[.int .i64 0] 25) (hB : ∀ x w', B x w' → Has w' w.heap.size #[.int .i64 0] 25) :
    Calls Tryd.prog 26 #[.func (.func 34) #[] #[.pointer (some ⟨b0, 0, none⟩), .pointer (some ⟨b1, 0, none⟩)]] w (FACED w G B) := by
  have hmf : ∀ (fn : Fn) (first cap : Array Value) (w : World), (Instr.makeFunc fn first cap).run Tryd.prog w = .ok (.func fn first cap) w := fun _ _ _ _ => rfl
  have HG : Aside (∀ w', G w' → Has w' w.heap.size #[.int .i64 0] 25) := hG
  have HB : Aside (∀ x w', B x w' → Has w' w.heap.size #[.int .i64 0] 25) := hB
  clear hG hB
  go_enter_defers Tryd.func26, Tryd.ntmps26
  go_wp2_with fail
  refine hdo.mono ?_
  rintro e w1 (⟨rfl, h1⟩ | ⟨x, rfl, h1⟩)
  · clear hdo
    have hh := HG.out w1 h1
    have c0 := hh.cell 0
    have f0 := hh.frozen 0
    have G1 : Aside (G w1) := h1
    clear h1
    go_wp2_with fail
    refine leaves_cons (f := 45) (args := #[.pointer (some ⟨w.heap.size, 0, none⟩)]) (by simp) (by simp [go_sem]) ?_
    refine (catch_idle ⟨w.heap.size, 0, none⟩ _).mono ?_
    rintro e u' w'' ⟨rfl, rfl, rfl⟩
    have c1 := (hh.set 0 (.int .i64 0)).cell 0
    simp [Leaves, settle, results, Tryd.results26, go_sem, c1]
    exact .inl ⟨rfl, w1, G1.out, rfl⟩
  · have hh := HB.out x w1 h1
    have c0 := hh.cell 0
    have f0 := hh.frozen 0
    refine leaves_cons (f := 45) (args := #[.pointer (some ⟨w.heap.size, 0, none⟩)]) (by simp) (by simp [go_sem]) ?_
    refine (catch_panicking ⟨w.heap.size, 0, none⟩ 0 x [] w1 c0 f0).mono ?_
    rintro e u' w'' ⟨rfl, rfl, rfl⟩
    have c1 := (hh.set 0 (.int .i64 x)).cell 0
    simp [Leaves, settle, results, Tryd.results26, go_sem, c1]
    exact .inr ⟨x, w1, rfl, h1, rfl⟩
end Go.Proofs.YtmpaifkjlhodpaaDoor

/- Encode of package many. -/
namespace Go.Proofs.YtmpaifkjlhodpaaDoor
open Go.RowKit
set_option maxRecDepth 100000

/-- what Encode answers. -/
def MENC (L : List Nat) (N K : Nat) (l : List Int) : Int × List Int := if MWA L N K = 0 then (0, MWRT L N l) else (MWA L N K, [])
theorem own_cut {w : World} {B s n : Nat} {t : TypeId} {v : Value} {xs : List Value} (h : w.ownsRow B t s v n xs) : ∃ a c, v = .slice a n c := by
  rcases h.2 with ⟨e, h0⟩ | ⟨g, cap, cur, e, _⟩
  · exact ⟨none, 0, by rw [e, h0]⟩
  · exact ⟨_, _, e⟩
/-- what the doing of Encode leaves. -/
structure ENCD (w w' : World) (b1 : Nat) (Z : List Int) : Prop where
  row : ∃ v, Has w' b1 #[v] 35 ∧ w'.ownsRow w.heap.size 5 1 v Z.length (CELLS Z)
  keep : ∀ b, b < w.heap.size → b ≠ b1 → w'.heap[b]? = w.heap[b]?
  below : Below b1 w w'
set_option maxHeartbeats 2000000 in
theorem encodedo_ok (L : List Nat) (N : Nat) (a : Option Addr) (m c : Nat) (an : Option Addr) (K cn : Nat) (l : List Int) (b0 b1 : Nat) (w : World) (hl : L.length = m) (hm : m < 2 ^ 20) (hc : m ≤ c) (hnil : a = none → c = 0) (hbl : ∀ x, a = some x → x.block < w.heap.size ∧ x.spot = none) (hK : K < 2 ^ 20) (hL : NUML w a L) (hF : Flat w an K l) (hT : Tabled w) (hw0 : 0 < w.heap.size)
    (h0 : Has w b0 (MBOX N a m c an K cn) 32) (h1 : Has w b1 #[.slice none 0 0] 35) :
    Calls Tryd.prog 34 #[.pointer (some ⟨b0, 0, none⟩), .pointer (some ⟨b1, 0, none⟩)] w fun e w' =>
      (e = .returned (.tuple #[]) ∧ (MWA L N K = 0 ∧ ENCD w w' b1 (MWRT L N l))) ∨ ∃ x, e = .panicked (WRONG x) ∧ (x = MWA L N K ∧ x ≠ 0 ∧ Below w.heap.size w w') := by
  have cm := mustwhole_ok L N a m c an K cn w hl hm hc hnil hbl hK hL hT hw0
  have hM : (MBOX N a m c an K cn) = #[.int .u64 (N : Int), .slice a m c, .slice an K cn] := rfl
  have x0 : w.cell? ⟨b0, 0, none⟩ = some (.int .u64 (N : Int)) := h0.cell 0
  have x1 : w.cell? ⟨b0, 1, none⟩ = some (.slice a m c) := h0.cell 1
  have x2 : w.cell? ⟨b0, 2, none⟩ = some (.slice an K cn) := h0.cell 2
  have HA : Aside (L.length = m ∧ m < 2 ^ 20 ∧ K < 2 ^ 20 ∧ NUML w a L ∧ Flat w an K l ∧ Has w b0 (MBOX N a m c an K cn) 32 ∧ Has w b1 #[.slice none 0 0] 35) := ⟨hl, hm, hK, hL, hF, h0, h1⟩
  clear hl hm hc hnil hbl hK hL hF hT hw0 h0 h1
  rw [hM] at cm
  go_enter Tryd.func34, Tryd.ntmps34
  go_wp2_with fail
  refine cm.mono ?_
  rintro e w1 ⟨hb1, (⟨hr, rfl⟩ | ⟨hr, rfl⟩)⟩
  · clear cm x0 x1 x2
    obtain ⟨q1, q2⟩ := MWA_ok hr
    obtain ⟨r1, r2, r3⟩ := RISEA_ok q1
    have k0 := HA.out.2.2.2.2.2.1.keep hb1
    have x0 : w1.cell? ⟨b0, 0, none⟩ = some (.int .u64 (N : Int)) := k0.cell 0
    have x1 : w1.cell? ⟨b0, 1, none⟩ = some (.slice a m c) := k0.cell 1
    have x2 : w1.cell? ⟨b0, 2, none⟩ = some (.slice an K cn) := k0.cell 2
    have cw := manywritten_ok L N (by omega) a m c an K cn l w1 HA.out.1 HA.out.2.1 HA.out.2.2.1 r2 (fun x hx => by have := r3 x hx; omega) (fun hp => by
      obtain ⟨b, o, e, hlt, hcc⟩ := HA.out.2.2.2.1 hp
      exact ⟨b, o, e, Nat.lt_of_lt_of_le hlt hb1.size, fun i x hx => (hb1.cell (p := ⟨b, o + i, none⟩) hlt).trans (hcc i x hx)⟩) (HA.out.2.2.2.2.1.below hb1)
    rw [hM] at cw
    have HR : Aside (MWA L N K = 0 ∧ Below w.heap.size w w1) := ⟨hr, hb1⟩
    clear hr q1 q2 r1 r2 r3 hb1 k0
    go_wp2_with fail
    refine cw.mono ?_
    rintro e w2 ⟨v, rfl, hown, hb2⟩
    clear cw x0 x1 x2
    obtain ⟨av, cv, rfl⟩ := own_cut hown
    generalize hvv : Value.slice av (MWRT L N l).length cv = v at *
    have hw2 : Below w.heap.size w w2 := HR.out.2.trans (hb2.mono HR.out.2.size)
    have k1 := HA.out.2.2.2.2.2.2.keep hw2
    have c1 := k1.cell 0
    have f1 := k1.frozen 0
    have FN : Aside (ENCD w (w2.setCell ⟨b1, 0, none⟩ v) b1 (MWRT L N l)) := by
      have hlt := HA.out.2.2.2.2.2.2.lt
      refine ⟨⟨v, k1.set 0 v, own_mono (ownsRow_setCell_below hown (a := ⟨b1, 0, none⟩) (by show b1 < w1.heap.size; have := HR.out.2.size; omega) _) HR.out.2.size⟩, fun b hb hne => (Below.heap_setCell _ _ _ _ (by exact hne)).trans (hw2.block b hb), ?_⟩
      exact (hw2.mono (Nat.le_of_lt hlt)).setCell (p := ⟨b1, 0, none⟩) (Nat.le_refl _) _
    subst hvv
    clear hown hb2 hw2 k1 HA
    go_wp2_with fail
    exact bodyPost_end (v := .tuple #[]) (by simp [results, Tryd.f34]) rfl (.inl ⟨rfl, HR.out.1, FN.out⟩)
  · exact ⟨rfl, .inr ⟨_, rfl, rfl, hr, hb1⟩⟩
/-- what is answered: an error and bytes. -/
def ANSY (w : World) (A : Int × List Int) (e : Ending) (w' : World) : Prop := ∃ a c, e = .returned (.tuple #[.slice a A.2.length c, .int .i64 A.1]) ∧ w'.ownsRow w.heap.size 5 1 (.slice a A.2.length c) A.2.length (CELLS A.2) ∧ Below w.heap.size w w'
set_option maxHeartbeats 2000000 in
theorem manyencode_ok (L : List Nat) (N : Nat) (a : Option Addr) (m c : Nat) (an : Option Addr) (K cn : Nat) (l : List Int) (w : World) (hl : L.length = m) (hm : m < 2 ^ 20) (hc : m ≤ c) (hnil : a = none → c = 0) (hbl : ∀ x, a = some x → x.block < w.heap.size ∧ x.spot = none) (hK : K < 2 ^ 20) (hL : NUML w a L) (hF : Flat w an K l) (hT : Tabled w) (hw0 : 0 < w.heap.size) :
    Calls Tryd.prog 15 #[.agg (MBOX N a m c an K cn)] w (ANSY w (MENC L N K l)) := by
  have hmf : ∀ (fn : Fn) (first cap : Array Value) (w : World), (Instr.makeFunc fn first cap).run Tryd.prog w = .ok (.func fn first cap) w := fun _ _ _ _ => rfl
  obtain ⟨w1, e1⟩ : ∃ w1, w.alloc (.cells (MBOX N a m c an K cn) 32) = w1 := ⟨_, rfl⟩
  obtain ⟨w3, e3⟩ : ∃ w3, w1.alloc (.cells #[.slice none 0 0] 35) = w3 := ⟨_, rfl⟩
  obtain ⟨w4, e4⟩ : ∃ w4, w3.alloc (.cells #[.int .i64 0] 25) = w4 := ⟨_, rfl⟩
  have s1 : w1.heap.size = w.heap.size + 1 := by rw [← e1]; simp
  have s3 : w3.heap.size = w.heap.size + 2 := by rw [← e3]; simp; omega
  have s4 : w4.heap.size = w.heap.size + 3 := by rw [← e4]; simp; omega
  have hb4 : Below w.heap.size w w4 := by
    rw [← e4, ← e3, ← e1]
    exact (((Below.refl _ _).alloc (Nat.le_refl _) _).alloc (by simp) _).alloc (by simp; omega) _
  have h0 : Has w4 w.heap.size (MBOX N a m c an K cn) 32 := by
    rw [← e4, ← e3, ← e1]
    exact ((Has.new w _ _).alloc _).alloc _
  have h1 : Has w4 w1.heap.size #[.slice none 0 0] 35 := by
    rw [← e4, ← e3]
    exact (Has.new w1 _ _).alloc _
  have h3 : Has w4 w3.heap.size #[.int .i64 0] 25 := by
    rw [← e4]
    exact Has.new w3 _ _
  have hL4 : NUML w4 a L := fun hp => by
    obtain ⟨b, o, e, hlt, hcc⟩ := hL hp
    exact ⟨b, o, e, by omega, fun i x hx => (hb4.cell (p := ⟨b, o + i, none⟩) hlt).trans (hcc i x hx)⟩
  have cd := encodedo_ok L N a m c an K cn l w.heap.size w1.heap.size w4 hl hm hc hnil (fun x e => ⟨by have := (hbl x e).1; omega, (hbl x e).2⟩) hK hL4 (hF.below hb4) (hT.below hw0 hb4) (by omega) h0 h1
  rw [← e4] at cd
  have cf := faceE_ok w.heap.size w1.heap.size w3 _ _ cd
    (fun w' ⟨_, ht⟩ => by
      rw [e4] at ht
      exact (ht.keep w3.heap.size (by omega) (by omega)).trans h3)
    (fun x w' ⟨_, _, hb⟩ => by rw [e4] at hb; exact h3.keep hb)
  rw [e4] at cf
  have FIN : Aside (∀ e w', FACED w3 (fun w' => MWA L N K = 0 ∧ ENCD w4 w' w1.heap.size (MWRT L N l)) (fun x w' => x = MWA L N K ∧ x ≠ 0 ∧ Below w4.heap.size w4 w') e w' → e = .returned (.int .i64 (MENC L N K l).1) ∧ Below w.heap.size w w' ∧ ∃ a' c', Has w' w1.heap.size #[.slice a' (MENC L N K l).2.length c'] 35 ∧ w'.ownsRow w.heap.size 5 1 (.slice a' (MENC L N K l).2.length c') (MENC L N K l).2.length (CELLS (MENC L N K l).2)) := by
    rintro e w' (⟨rfl, wx, ⟨hr, ht⟩, rfl⟩ | ⟨x, wx, rfl, ⟨rfl, hx, hbx⟩, rfl⟩)
    · have hP : MENC L N K l = (0, MWRT L N l) := if_pos hr
      obtain ⟨v, hv, hown⟩ := ht.row
      obtain ⟨a', c', rfl⟩ := own_cut hown
      rw [hP]
      refine ⟨rfl, ?_, a', c', ?_, ?_⟩
      · exact ((hb4.trans (ht.below.mono (by omega)))).setCell (by show w.heap.size ≤ w3.heap.size; omega) _
      · exact hv.other (by show w1.heap.size ≠ w3.heap.size; omega) _
      · exact own_mono (ownsRow_setCell_below hown (a := ⟨w3.heap.size, 0, none⟩) (by show w3.heap.size < w4.heap.size; omega) _) (by omega)
    · have hP : MENC L N K l = (MWA L N K, []) := if_neg hx
      rw [hP]
      refine ⟨rfl, (hb4.trans (hbx.mono hb4.size)).setCell (by show w.heap.size ≤ w3.heap.size; omega) _, none, 0, ?_, ?_⟩
      · exact (h1.keep hbx).other (by show w1.heap.size ≠ w3.heap.size; omega) _
      · exact ⟨rfl, .inl ⟨rfl, rfl⟩⟩
  have hM : (MBOX N a m c an K cn) = #[.int .u64 (N : Int), .slice a m c, .slice an K cn] := rfl
  rw [hM] at e1
  clear cd h0 h1 h3 hL4 hb4 hl hm hc hnil hbl hL hF hT s1 s3 s4 e4 hw0 hK
  generalize MENC L N K l = A at *
  go_enter Tryd.func15, Tryd.ntmps15
  rw [hM]
  go_wp2_with fail
  refine cf.mono ?_
  intro e w5 hh
  obtain ⟨rfl, hb5, a', c', hv, hown⟩ := FIN.out e w5 hh
  have x0 := hv.cell 0
  have FN : Aside (ANSY w A (.returned (.tuple #[.slice a' A.2.length c', .int .i64 A.1])) w5) := ⟨a', c', rfl, hown, hb5⟩
  clear hh hb5 hv hown FIN cf
  go_wp2_with fail
  go_ret2
  exact FN.out
end Go.Proofs.YtmpaifkjlhodpaaDoor

/- What is written is read back, and what is read is written the same: plain. -/
namespace Go.Proofs.YtmpaifkjlhodpaaDoor
set_option maxRecDepth 100000

theorem IDX_DIFS {n : Nat} (hn : n ≤ 4611686018427387904) : ∀ (L : List Nat) (k : Nat) (l : List Int), L.Pairwise (· < ·) → (∀ x ∈ L, k ≤ x ∧ x < n) → IDX n L.length k (DIFS k L ++ l) = (0, L, l)
  | [], _, _, _, _ => rfl
  | x :: L, k, l, hp, hx => by
    have h1 := hx x (List.mem_cons_self ..)
    have hL := LNG_SHORT (X := x - k) (by omega) (DIFS (x + 1) L ++ l)
    rw [DIFS, List.append_assoc, List.length_cons, IDX_next hL (by omega), List.drop_left' (SHORT_length _), show k + (x - k) + 1 = x + 1 by omega, show k + (x - k) = x by omega, IDX_DIFS hn L (x + 1) l (List.pairwise_cons.1 hp).2 (fun y hy => ⟨(List.pairwise_cons.1 hp).1 y hy, (hx y (List.mem_cons_of_mem _ hy)).2⟩)]
theorem MDC_MWRT {L : List Nat} {N K : Nat} {l : List Int} (h : MWA L N K = 0) (hl : l.length = 32 * K) (hL : L.length < 2 ^ 64) : MDC (MWRT L N l) = (0, N, L, l) := by
  obtain ⟨h1, h2⟩ := MWA_ok h
  obtain ⟨r1, r2, r3⟩ := RISEA_ok h1
  have e : MDC (MWRT L N l) = MD1 (SHORT N ++ (SHORT L.length ++ (DIFS 0 L ++ l))) := by
    unfold MWRT
    rw [List.append_assoc, List.append_assoc]
    rfl
  have e2 : IDXS N (SHORT L.length ++ (DIFS 0 L ++ l)) = (0, L, l) := by
    unfold IDXS
    rw [LNG_SHORT hL]
    simp only [ne_eq, not_true_eq_false, if_false, Int.toNat_natCast]
    rw [List.drop_left' (SHORT_length _)]
    exact IDX_DIFS r1 L 0 l (pair_of r2) (fun x hx => ⟨Nat.zero_le _, r3 x hx⟩)
  rw [e, MD1_ok (LNG_SHORT (by omega) _) r1, List.drop_left' (SHORT_length _), e2]
  unfold MD3
  rw [if_neg (by simp)]
  show (if l.length < 32 * (NEEDS (TPS N) L).length then MERR 11 else if 32 * (NEEDS (TPS N) L).length < l.length then MERR 13 else (0, N, L, l)) = (0, N, L, l)
  rw [← h2, if_neg (by omega), if_neg (by omega)]
theorem IDX_back {n : Nat} : ∀ (c k : Nat) (t : List Int) (L : List Nat) (l : List Int), (∀ x ∈ t, 0 ≤ x ∧ x ≤ 255) → IDX n c k t = (0, L, l) → t = DIFS k L ++ l ∧ L.length = c
  | 0, k, t, L, l, _, h => by
    simp only [IDX, Prod.mk.injEq, true_and] at h
    obtain ⟨rfl, rfl⟩ := h
    exact ⟨rfl, rfl⟩
  | c + 1, k, t, L, l, hr, h => by
    by_cases hl : (LNG t).2.2 = 0
    · obtain ⟨Z, m, q1, q2, q3, q4, q5⟩ := LNG_back hr hl
      by_cases hz : n - k ≤ Z
      · rw [IDX_far q4 hz] at h
        simp at h
      · rw [IDX_next q4 hz] at h
        simp only [Prod.mk.injEq] at h
        obtain ⟨h1, h2, h3⟩ := h
        obtain ⟨a1, a2⟩ := IDX_back c (k + Z + 1) (t.drop m) (IDX n c (k + Z + 1) (t.drop m)).2.1 l (fun x hx => hr x (List.mem_of_mem_drop hx)) (by
          rw [← h3]
          refine Prod.ext h1 rfl)
        rw [← h2]
        refine ⟨?_, by rw [List.length_cons, a2]⟩
        rw [DIFS, show k + Z - k = Z by omega, List.append_assoc, ← a1, q5, List.take_append_drop]
    · rw [IDX_bad hl] at h
      simp only [Prod.mk.injEq] at h
      exact absurd h.1 hl
theorem MDC_back {b : List Int} {N : Nat} {L : List Nat} {l : List Int} {K : Nat} (hr : ∀ x ∈ b, 0 ≤ x ∧ x ≤ 255) (h : MDC b = (0, N, L, l)) (hl : l.length = 32 * K) : MENC L N K l = (0, b) := by
  cases b with
  | nil => cases h
  | cons x t =>
    have e : MDC (x :: t) = if x = 78 then MD1 t else MERR 14 := rfl
    rw [e] at h
    by_cases hx : x = 78
    · rw [if_pos hx] at h
      have hrt : ∀ y ∈ t, 0 ≤ y ∧ y ≤ 255 := fun y hy => hr y (List.mem_cons_of_mem _ hy)
      by_cases hl1 : (LNG t).2.2 = 0
      · obtain ⟨Z, m, q1, q2, q3, q4, q5⟩ := LNG_back hrt hl1
        by_cases hz : 4611686018427387904 < Z
        · rw [MD1_far q4 hz] at h
          cases h
        · rw [MD1_ok q4 (by omega)] at h
          have hI := IDXS_rise (n := Z) (t := t.drop m)
          obtain ⟨I, hIe⟩ : ∃ I, IDXS Z (t.drop m) = I := ⟨_, rfl⟩
          rw [hIe] at h hI
          unfold MD3 at h
          by_cases h1 : I.1 ≠ 0
          · rw [if_pos h1] at h
            simp [MERR] at h
            exact absurd h.1 h1
          · rw [if_neg h1] at h
            by_cases h2 : I.2.2.length < 32 * (NEEDS (TPS Z) I.2.1).length
            · rw [if_pos h2] at h
              cases h
            · rw [if_neg h2] at h
              by_cases h3 : 32 * (NEEDS (TPS Z) I.2.1).length < I.2.2.length
              · rw [if_pos h3] at h
                cases h
              · rw [if_neg h3] at h
                simp only [Prod.mk.injEq, true_and] at h
                obtain ⟨rfl, rfl, rfl⟩ := h
                have h1 : I.1 = 0 := by simpa using h1
                obtain ⟨hx1, hx2⟩ := hI h1
                have hM : MWA I.2.1 Z K = 0 := MWA_yes (RISEA_yes (by omega) hx2 hx1) (by omega)
                unfold MENC
                rw [if_pos hM]
                congr 1
                unfold IDXS at hIe
                by_cases hl2 : (LNG (t.drop m)).2.2 ≠ 0
                · rw [if_pos hl2] at hIe
                  rw [← hIe] at h1
                  exact absurd h1 hl2
                · rw [if_neg hl2] at hIe
                  obtain ⟨C, m2, p1, p2, p3, p4, p5⟩ := LNG_back (fun y hy => hrt y (List.mem_of_mem_drop hy)) (by simpa using hl2)
                  rw [p4] at hIe
                  simp only [Int.toNat_natCast] at hIe
                  obtain ⟨b1, b2⟩ := IDX_back C 0 _ I.2.1 I.2.2 (fun y hy => hrt y (List.mem_of_mem_drop (List.mem_of_mem_drop hy))) (by rw [hIe]; exact Prod.ext h1 rfl)
                  unfold MWRT
                  rw [hx, b2, List.append_assoc, List.append_assoc, ← b1, q5, p5, List.take_append_drop, List.take_append_drop]
      · rw [MD1_bad hl1] at h
        simp only [MERR, Prod.mk.injEq] at h
        exact absurd h.1 hl1
    · rw [if_neg hx] at h
      cases h
end Go.Proofs.YtmpaifkjlhodpaaDoor

/- A list of numbers of one's own lies there; what lies there stays. -/
namespace Go.Proofs.YtmpaifkjlhodpaaDoor
open Go.RowKit
set_option maxRecDepth 100000

theorem own_lies {w : World} {B n c : Nat} {a : Option Addr} {L : List Nat} (h : w.ownsRow B 23 1 (.slice a n c) n (UCELLS L)) (hl : L.length = n) : NUML w a L := fun h0 => by
  rcases h.2 with ⟨e, h1⟩ | ⟨g, cap, cur, e, hb, hg, _⟩
  · omega
  · cases e
    refine ⟨g, 0, rfl, (Array.getElem?_eq_some_iff.1 hg).1, fun i x hx => ?_⟩
    have hi : i < L.length := (List.getElem?_eq_some_iff.1 hx).1
    rw [Nat.zero_add, h.cellAt i (by omega), UCELLS, List.getElem?_map, hx]
    rfl
theorem NUML.keep {w w' : World} {a : Option Addr} {L : List Nat} (h : NUML w a L) (hb : Below w.heap.size w w') : NUML w' a L := fun h0 => by
  obtain ⟨b, o, e, hl, hc⟩ := h h0
  exact ⟨b, o, e, Nat.lt_of_lt_of_le hl hb.size, fun i x hx => (hb.cell (p := ⟨b, o + i, none⟩) hl).trans (hc i x hx)⟩
end Go.Proofs.YtmpaifkjlhodpaaDoor

/- Two lists of numbers that are alike, wherever they lie. -/
namespace Go.Proofs.YtmpaifkjlhodpaaDoor
open Go.RowKit
set_option maxRecDepth 100000

set_option maxHeartbeats 1000000 in
theorem samenuml_ok (a b : Option Addr) (n ca cb : Nat) (L : List Nat) (hl : L.length = n) (hn : n ≤ 2 ^ 24) (w : World) (hA : NUML w a L) (hB : NUML w b L) :
    Calls Tryd.prog 9 #[.slice a n ca, .slice b n cb] w fun e w' => e = .returned (.bool true) ∧ Below w.heap.size w w' := by
  rcases Nat.eq_zero_or_pos n with h | h
  · subst h
    clear hA hB hl
    go_enter Tryd.func9, Tryd.ntmps9
    go_wp2
    refine wp_loop_rounds 1 ?_
    rw [rounds_succ]
    go_wp2
    go_ret
    exact ⟨rfl, Below.refl _ _⟩
  · obtain ⟨ga, oa, rfl, la, hca⟩ := hA (by omega)
    obtain ⟨gb, ob, rfl, lb, hcb⟩ := hB (by omega)
    have HC : Aside ((∀ (i x : Nat), L[i]? = some x → w.cell? ⟨ga, oa + i, none⟩ = some (.int .u64 (x : Int))) ∧ (∀ (i x : Nat), L[i]? = some x → w.cell? ⟨gb, ob + i, none⟩ = some (.int .u64 (x : Int))) ∧ ga < w.heap.size ∧ gb < w.heap.size ∧ L.length = n ∧ n ≤ 2 ^ 24) := ⟨hca, hcb, la, lb, hl, hn⟩
    clear hA hB hca hcb la lb hl hn
    go_enter Tryd.func9, Tryd.ntmps9
    go_wp2
    go_loopg [5] n (fun g s5 wx => ∃ k : Nat, k + g = n ∧ s5 = .int .i64 k ∧ Aside (Below w.heap.size w wx))
    case atStart => exact ⟨0, by omega, rfl, Below.refl _ _⟩
    case round =>
      obtain ⟨k, hkg, rfl, A⟩ := hrel
      cases gk with
      | zero =>
        obtain rfl : k = n := by omega
        go_wp2
        go_ret
        exact ⟨rfl, A.out⟩
      | succ g =>
        have hlt : (k : Int) < (n : Int) := by omega
        obtain ⟨x, ex⟩ : ∃ x, L[k]? = some x := ⟨_, List.getElem?_eq_getElem (by have := HC.out.2.2.2.2.1; omega)⟩
        have h1 : wr.cell? ⟨ga, oa + k, none⟩ = some (.int .u64 (x : Int)) := (A.out.cell (by exact HC.out.2.2.1)).trans (HC.out.1 k x ex)
        have h2 : wr.cell? ⟨gb, ob + k, none⟩ = some (.int .u64 (x : Int)) := (A.out.cell (by exact HC.out.2.2.2.1)).trans (HC.out.2.1 k x ex)
        have hk24 : k < 2 ^ 24 := by have := HC.out.2.2.2.2.2; omega
        clear ex
        go_wp2
        go_quiet (fail)
        go_wp2
        go_roundg g
        case measure => omega
        case rel => exact ⟨k + 1, by omega, by go_num, below_drewN A.out _⟩
end Go.Proofs.YtmpaifkjlhodpaaDoor
