/- Texts of ProofReads, one behind the other: ProofRefDecoded. -/
import Derived.Test.YtfjmbfppilfepaaDoorProofReadsP19
import Derived.Test.YtfjmbfppilfepaaDoorProofReadsP28
/- What the document's Decode and DecodePrefix answer, of any bytes. -/
namespace Go.Proofs.YtfjmbfppilfepaaDoor
open Go.RowKit
set_option maxRecDepth 100000

theorem slice_behind (b off n c k : Nat) (hk : k ≤ n) (hc : n ≤ c) (w : World) : (Instr.slice 28 (.slice (some ⟨b, off, none⟩) n c) (some (.int .i64 (k : Int))) none none).run Tryd.prog w = .ok (.slice (REST b off c k) (n - k) (c - k)) w := by
  obtain ⟨i8, hi, h8⟩ := Option.map_eq_some_iff.1 info_u8
  have he : Tryd.prog.elem 28 = 5 := by kernel_rfl
  have hu : Tryd.prog.underlying 28 = some (.slice (Tryd.prog.elem 28)) := by kernel_rfl
  by_cases e : c = k
  · obtain rfl : n = c := by omega
    subst e
    simp [REST, go_sem]
  · have e1 : ¬ (n : Int) < (k : Int) := by omega
    have hcell : Tryd.prog.cellsOf 5 = 1 := by kernel_rfl
    rw [run_slice_l (P := Tryd.prog) w 28 (some ⟨b, off, none⟩) n c hu .i64 (k : Int) (by omega) (by omega), he]
    have h9 : i8.size = 1 := by
      have : (Tryd.prog.info? 5).map (·.size) = some 1 := by kernel_rfl
      rw [hi] at this
      simpa using this
    simp [sizeOf, typeInfo, hi, h9, sliced, Addr.add, REST, e]
theorem Flat.off {w : World} {a : Option Addr} {n : Nat} {l : List Int} (h : Flat w a n l) {x : Addr} (hx : ∀ b o, a = some ⟨b, o, none⟩ → b ≠ x.block) (u : Value) : Flat (w.setCell x u) a n l :=
  ⟨h.1, fun hn => by
    obtain ⟨b, o, e, hl, hc⟩ := h.2.1 hn
    exact ⟨b, o, e, Nat.lt_of_lt_of_le hl (KeepsWalks.setCell w x u).size, fun j hj => (World.cell?_setCell_other w _ _ u (fun e' => hx b o e (congrArg Addr.block e').symm)).trans (hc j hj)⟩, h.2.2⟩
/-- a proof is answered, its nodes lie somewhere; or an error, and all is zero. -/
def DECF (w : World) (D : DANS) (e : Ending) (w' : World) : Prop :=
  ∃ a c, e = .returned (.tuple #[.agg #[.int .u64 (D.2.1 : Int), .int .u64 (D.2.2.1 : Int), .slice a D.2.2.2.1 c], .int .i64 D.1]) ∧ Flat w' a D.2.2.2.1 D.2.2.2.2 ∧ Below w.heap.size w w' ∧ ∀ b o, a = some ⟨b, o, none⟩ → w.heap.size ≤ b
theorem results_pair {fn : Func} {p q : Tmp} {ty : TypeId} (h : fn.results = #[.cell p ty, .tmp q]) (tmps : Array Value) (w : World) (g : Nat) (t : TypeId) (cs : Array Value) (fr : Nat × Nat) (fs : Array Field)
    (hp : tmps.getD p undef = .pointer (some ⟨g, 0, none⟩)) (hg : w.heap[g]? = some (.cells cs t fr)) (v : Value) (hq : tmps.getD q undef = v)
    (hu : Tryd.prog.underlying ty = some (.struct fs)) (hi : (Tryd.prog.info? ty).map (·.size) = some cs.size) :
    (results fn tmps).run Tryd.prog w = .ok (.tuple #[.agg cs, v]) w := by
  have hp' : tmps[p]?.getD undef = .pointer (some ⟨g, 0, none⟩) := by simpa using hp
  have hq' : tmps[q]?.getD undef = v := by simpa using hq
  simp [results, h, hp', hq', asAddr, run_loadVar_row w g t ty cs fr (.struct fs) hg hu rfl hi]
set_option maxHeartbeats 4000000 in
theorem refdecode_ok (a : Option Addr) (n c : Nat) (hn : n ≤ 1000000) (l : List Int) (w : World) (hB : Bytes w a n l) (hc : n ≤ c) : Calls Tryd.prog 17 #[.slice a n c] w (DECF w (DEC l)) := by
  have hln : l.length = n := hB.1
  obtain ⟨D, hD⟩ : ∃ D, DEC l = D := ⟨_, rfl⟩
  rw [hD]
  have hDD : DC0 77 TOOBIG (fun S I => PLA I S) l = D := hD
  have R : Aside (Below w.heap.size w (w.alloc (.cells #[.int .u64 0, .int .u64 0, .slice none 0 0] 25)) ∧ Has (w.alloc (.cells #[.int .u64 0, .int .u64 0, .slice none 0 0] 25)) w.heap.size #[.int .u64 0, .int .u64 0, .slice none 0 0] 25) := ⟨(Below.refl _ _).alloc (Nat.le_refl _) _, Has.new _ _ _⟩
  have ERR : Aside (∀ (E : Int) (W : World), Below w.heap.size w W → D = DERR E → DECF w D (.returned (.tuple #[.agg #[.int .u64 0, .int .u64 0, .slice none 0 0], .int .i64 E])) W) := fun E W h1 h3 => by
    rw [h3]
    exact ⟨none, 0, rfl, ⟨rfl, fun h => absurd h (by simp [DERR]), by simp [DERR]⟩, h1, fun _ _ h => by cases h⟩
  unfold DC0 at hDD
  rw [hln] at hDD
  clear hD
  by_cases h0 : n = 0
  · subst h0
    rw [if_pos rfl] at hDD
    have X : Aside (D = DERR 11) := hDD.symm
    clear hB hc hn hDD hln
    go_enter Tryd.func17, Tryd.ntmps17
    go_wp2
    refine bodyPost_ret (v := .tuple #[.agg #[.int .u64 0, .int .u64 0, .slice none 0 0], .int .i64 11]) (results_pair rfl _ _ w.heap.size 25 _ (0, 0) _ rfl R.out.2 _ rfl Tryd.underlying25 (by kernel_rfl)) rfl (ERR.out 11 _ R.out.1 X.out)
  rw [if_neg h0] at hDD
  obtain ⟨b, o, rfl, hbl, hcs⟩ := hB.2.1 (by omega)
  have hz : ¬ (n : Int) = 0 := by omega
  have hpos : (0 : Int) < (n : Int) := by omega
  have hx : (w.alloc (.cells #[.int .u64 0, .int .u64 0, .slice none 0 0] 25)).cell? ⟨b, o, none⟩ = some (.int .u8 (l.getD 0 0)) := by
    have := hcs 0 (by omega)
    rw [Nat.add_zero] at this
    exact (R.out.1.cell (p := ⟨b, o, none⟩) hbl).trans this
  clear hbl hcs
  by_cases hK : l.getD 0 0 = 77
  · rw [if_neg (by simpa using hK)] at hDD
    rw [hK] at hx
    have hs1 : (Instr.slice 28 (.slice (some ⟨b, o, none⟩) n c) (some (.int .i64 1)) none none).run Tryd.prog (w.alloc (.cells #[.int .u64 0, .int .u64 0, .slice none 0 0] 25)) = .ok (.slice (REST b o c 1) (n - 1) (c - 1)) (w.alloc (.cells #[.int .u64 0, .int .u64 0, .slice none 0 0] 25)) := by
      have := slice_behind b o n c 1 (by omega) hc (w.alloc (.cells #[.int .u64 0, .int .u64 0, .slice none 0 0] 25))
      simpa using this
    have HA : Aside (Bytes w (some ⟨b, o, none⟩) n l ∧ n ≤ c ∧ n ≤ 1000000 ∧ 1 ≤ n ∧ l.length = n) := ⟨hB, hc, hn, by omega, hln⟩
    clear hB hc hn h0 hK hln
    go_enter Tryd.func17, Tryd.ntmps17
    go_wp2_with fail
    have c1 := reflong_ok (REST b o c 1) (n - 1) (c - 1) (l.drop 1) (w.alloc (.cells #[.int .u64 0, .int .u64 0, .slice none 0 0] 25)) ((HA.out.1.behind 1 HA.out.2.2.2.1 HA.out.2.1).below R.out.1) (by have := HA.out; omega)
    have hlen1 : (l.drop 1).length = n - 1 := by rw [List.length_drop, HA.out.2.2.2.2]
    rw [← hlen1, show LG (l.drop 1) (l.drop 1).length 10 0 0 = LNG (l.drop 1) from rfl, hlen1] at c1
    refine c1.mono ?_
    rintro e w1 ⟨rfl, rfl⟩
    clear c1 hlen1 hs1 hx hz hpos
    unfold DC1 at hDD
    generalize (w.alloc (.cells #[.int .u64 0, .int .u64 0, .slice none 0 0] 25)) = W0 at *
    by_cases hE1 : (LNG (l.drop 1)).2.2 = 0
    · rw [if_neg (by simpa using hE1)] at hDD
      obtain ⟨Z, m, hZ, hm1, hm2, hL, -⟩ := LNG_back (fun x hx => HA.out.1.2.2 x (List.mem_of_mem_drop hx)) hE1
      rw [hL] at hDD ⊢
      dsimp only at hDD ⊢
      rw [Int.toNat_natCast, Int.toNat_natCast] at hDD
      have hm3 : 1 + m ≤ n := by have h1 := HA.out.2.2.2.1; have h2 := HA.out.2.2.2.2; rw [List.length_drop, h2] at hm2; omega
      have HM : Aside (Z < 2 ^ 64 ∧ 1 + m ≤ n) := ⟨hZ, hm3⟩
      clear hL hE1 hm1 hm2 hZ hm3
      by_cases hbig : TOOBIG Z = true
      · rw [if_pos hbig] at hDD
        have X : Aside (D = DERR 30) := hDD.symm
        have hgt : (4611686018427387904 : Int) < (Z : Int) := by unfold TOOBIG at hbig; simp at hbig; omega
        clear hDD hbig
        have x0 : W0.cell? ⟨w.heap.size, 0, none⟩ = some (.int .u64 0) := R.out.2.cell 0
        have x1 : W0.cell? ⟨w.heap.size, 1, none⟩ = some (.int .u64 0) := R.out.2.cell 1
        have x2 : W0.cell? ⟨w.heap.size, 2, none⟩ = some (.slice none 0 0) := R.out.2.cell 2
        have f0 := R.out.2.frozen 0
        have f1 := R.out.2.frozen 1
        have f2 := R.out.2.frozen 2
        go_wp2
        obtain ⟨r1, r2⟩ := R.out
        have hH := ((r2.set 0 (.int .u64 0)).set 1 (.int .u64 0)).set 2 (.slice none 0 0)
        have hb := ((r1.setCell (p := ⟨w.heap.size, 0, none⟩) (Nat.le_refl _) (.int .u64 0)).setCell (p := ⟨w.heap.size, 1, none⟩) (Nat.le_refl _) (.int .u64 0)).setCell (p := ⟨w.heap.size, 2, none⟩) (Nat.le_refl _) (.slice none 0 0)
        refine bodyPost_ret (v := .tuple #[.agg #[.int .u64 0, .int .u64 0, .slice none 0 0], .int .i64 30]) (results_pair rfl _ _ w.heap.size 25 _ (0, 0) _ rfl hH _ rfl Tryd.underlying25 (by kernel_rfl)) rfl (ERR.out 30 _ hb X.out)
      rw [if_neg hbig] at hDD
      have hgt : ¬ (4611686018427387904 : Int) < (Z : Int) := by unfold TOOBIG at hbig; simp at hbig; omega
      clear hbig
      rw [List.drop_drop] at hDD
      have wm : wrap64 (1 + (m : Int)) = ((1 + m : Nat) : Int) := by have := HM.out; have := HA.out; unfold wrap64; omega
      have hs2 : (Instr.slice 28 (.slice (some ⟨b, o, none⟩) n c) (some (.int .i64 ((1 + m : Nat) : Int))) none none).run Tryd.prog W0 = .ok (.slice (REST b o c (1 + m)) (n - (1 + m)) (c - (1 + m))) W0 := slice_behind b o n c (1 + m) HM.out.2 HA.out.2.1 W0
      obtain ⟨m', hm'⟩ : ∃ m', 1 + m = m' := ⟨_, rfl⟩
      rw [hm'] at wm hs2 hDD HM
      clear hm'
      go_wp2_with fail
      have c2 := reflong_ok (REST b o c m') (n - m') (c - m') (l.drop m') W0 ((HA.out.1.behind m' HM.out.2 HA.out.2.1).below R.out.1) (by have := HA.out; omega)
      have hlen2 : (l.drop m').length = n - m' := by rw [List.length_drop, HA.out.2.2.2.2]
      rw [← hlen2, show LG (l.drop m') (l.drop m').length 10 0 0 = LNG (l.drop m') from rfl, hlen2] at c2
      refine c2.mono ?_
      rintro e w1 ⟨rfl, rfl⟩
      clear c2 hlen2 hs2
      unfold DC2 at hDD
      by_cases hE2 : (LNG (l.drop m')).2.2 = 0
      · rw [if_neg (by simpa using hE2)] at hDD
        obtain ⟨Y, k, hY, hk1, hk2, hL, -⟩ := LNG_back (fun x hx => HA.out.1.2.2 x (List.mem_of_mem_drop hx)) hE2
        rw [hL] at hDD ⊢
        dsimp only at hDD ⊢
        rw [Int.toNat_natCast, Int.toNat_natCast, List.drop_drop] at hDD
        have hk3 : m' + k ≤ n := by have h1 := HM.out.2; have h2 := HA.out.2.2.2.2; rw [List.length_drop, h2] at hk2; omega
        have HK : Aside (Y < 2 ^ 64 ∧ m' + k ≤ n) := ⟨hY, hk3⟩
        clear hL hE2 hk1 hk2 hY hk3
        go_wp2_with fail
        refine (wants_ok Z Y none 0 0 W0).mono ?_
        rintro e w2 ⟨rfl, hb2⟩
        unfold DC3 at hDD
        have R : Aside (Below w.heap.size w w2 ∧ Has w2 w.heap.size #[.int .u64 0, .int .u64 0, .slice none 0 0] 25) := ⟨R.out.1.trans (hb2.mono R.out.1.size), R.out.2.keep hb2⟩
        clear hb2
        obtain ⟨E3, hE3⟩ : ∃ E3, (PLA Y Z).1 = E3 := ⟨_, rfl⟩
        obtain ⟨N, hN⟩ : ∃ N, (PLA Y Z).2.length = N := ⟨_, rfl⟩
        have hfew : N ≤ 188 := by rw [← hN]; exact PLA_few Y Z
        try dsimp only at hDD
        rw [hE3, hN] at hDD ⊢
        clear hE3 hN
        by_cases h3 : E3 = 0
        · subst h3
          rw [if_neg (by simp)] at hDD
          obtain ⟨m2, hm2⟩ : ∃ m2, m' + k = m2 := ⟨_, rfl⟩
          have wk : wrap64 ((m' : Int) + (k : Int)) = (m2 : Int) := by have := HK.out; have := HA.out; unfold wrap64; omega
          rw [hm2] at hDD HK
          have hs3 : (Instr.slice 28 (.slice (some ⟨b, o, none⟩) n c) (some (.int .i64 (m2 : Int))) none none).run Tryd.prog w2 = .ok (.slice (REST b o c m2) (n - m2) (c - m2)) w2 := slice_behind b o n c m2 HK.out.2 HA.out.2.1 w2
          clear hm2
          go_wp2_with fail
          refine (take_ok (REST b o c m2) (n - m2) (c - m2) N (by have := HA.out; omega) (by omega) (l.drop m2) w2 ((HA.out.1.behind m2 HK.out.2 HA.out.2.1).below R.out.1)).mono ?_
          rintro e w3 ⟨v, rfl, hrow, hb3⟩
          clear hs3
          have hTK : D = ((TAKN (l.drop m2) N).1, if (TAKN (l.drop m2) N).1 = 0 then (Z, Y, (TAKN (l.drop m2) N).2.1, (TAKN (l.drop m2) N).2.2) else (0, 0, 0, [])) := by
            rw [← hDD]
            unfold TAKN DERR
            split
            · rfl
            · split
              · rfl
              · rfl
          have hrg : ∀ x ∈ (TAKN (l.drop m2) N).2.2, 0 ≤ x ∧ x ≤ 255 := by
            unfold TAKN
            split
            · simp
            · split
              · simp
              · exact fun x hx => HA.out.1.2.2 x (List.mem_of_mem_drop hx)
          obtain ⟨E4, hE4⟩ : ∃ E4, (TAKN (l.drop m2) N).1 = E4 := ⟨_, rfl⟩
          rw [hE4] at hTK ⊢
          obtain ⟨av, cv, rfl, -, -⟩ := own_shapeh hrow
          have hlt2 := R.out.2.lt
          have R : Aside (Below w.heap.size w w3 ∧ Has w3 w.heap.size #[.int .u64 0, .int .u64 0, .slice none 0 0] 25) := ⟨R.out.1.trans (hb3.mono R.out.1.size), R.out.2.keep hb3⟩
          have R3 : Aside (Flat w3 av (TAKN (l.drop m2) N).2.1 (TAKN (l.drop m2) N).2.2 ∧ ∀ b o, av = some ⟨b, o, none⟩ → b ≠ w.heap.size ∧ w.heap.size ≤ b) := ⟨own_flat hrow hrg, fun b o e => by subst e; have h1 := (hrow.lt b rfl).1; omega⟩
          generalize (TAKN (l.drop m2) N).2.1 = N4 at *
          generalize (TAKN (l.drop m2) N).2.2 = t4 at *
          clear hrow hb3 hDD hE4 hrg wk wm hlt2
          have x0 : w3.cell? ⟨w.heap.size, 0, none⟩ = some (.int .u64 0) := R.out.2.cell 0
          have x1 : w3.cell? ⟨w.heap.size, 1, none⟩ = some (.int .u64 0) := R.out.2.cell 1
          have x2 : w3.cell? ⟨w.heap.size, 2, none⟩ = some (.slice none 0 0) := R.out.2.cell 2
          have f0 := R.out.2.frozen 0
          have f1 := R.out.2.frozen 1
          have f2 := R.out.2.frozen 2
          by_cases h4 : E4 = 0
          · subst h4
            rw [if_pos rfl] at hTK
            have X : Aside (D = (0, Z, Y, N4, t4)) := hTK
            clear hTK
            go_wp2
            obtain ⟨r1, r2⟩ := R.out
            have hH := ((r2.set 0 (.int .u64 (Z : Int))).set 1 (.int .u64 (Y : Int))).set 2 (.slice av N4 cv)
            have hb := ((r1.setCell (p := ⟨w.heap.size, 0, none⟩) (Nat.le_refl _) (.int .u64 (Z : Int))).setCell (p := ⟨w.heap.size, 1, none⟩) (Nat.le_refl _) (.int .u64 (Y : Int))).setCell (p := ⟨w.heap.size, 2, none⟩) (Nat.le_refl _) (.slice av N4 cv)
            have hF := ((R3.out.1.off (x := ⟨w.heap.size, 0, none⟩) (fun b o e => (R3.out.2 b o e).1) (.int .u64 (Z : Int))).off (x := ⟨w.heap.size, 1, none⟩) (fun b o e => (R3.out.2 b o e).1) (.int .u64 (Y : Int))).off (x := ⟨w.heap.size, 2, none⟩) (fun b o e => (R3.out.2 b o e).1) (.slice av N4 cv)
            rw [X.out]
            refine bodyPost_ret (v := .tuple #[.agg #[.int .u64 (Z : Int), .int .u64 (Y : Int), .slice av N4 cv], .int .i64 0]) (results_pair rfl _ _ w.heap.size 25 _ (0, 0) _ rfl hH _ rfl Tryd.underlying25 (by kernel_rfl)) rfl ⟨av, cv, rfl, hF, hb, fun b o e => (R3.out.2 b o e).2⟩
          · rw [if_neg h4] at hTK
            have X : Aside (D = DERR E4) := hTK
            have hne : ((E4 : Int) != 0) = true := by simp [h4]
            clear hTK h4
            go_wp2
            obtain ⟨r1, r2⟩ := R.out
            have hH := ((r2.set 0 (.int .u64 0)).set 1 (.int .u64 0)).set 2 (.slice none 0 0)
            have hb := ((r1.setCell (p := ⟨w.heap.size, 0, none⟩) (Nat.le_refl _) (.int .u64 0)).setCell (p := ⟨w.heap.size, 1, none⟩) (Nat.le_refl _) (.int .u64 0)).setCell (p := ⟨w.heap.size, 2, none⟩) (Nat.le_refl _) (.slice none 0 0)
            refine bodyPost_ret (v := .tuple #[.agg #[.int .u64 0, .int .u64 0, .slice none 0 0], .int .i64 E4]) (results_pair rfl _ _ w.heap.size 25 _ (0, 0) _ rfl hH _ rfl Tryd.underlying25 (by kernel_rfl)) rfl (ERR.out E4 _ hb X.out)
        · rw [if_pos h3] at hDD
          have X : Aside (D = DERR E3) := hDD.symm
          have hne : ((E3 : Int) != 0) = true := by simp [h3]
          clear hDD h3 wm
          have x0 : w2.cell? ⟨w.heap.size, 0, none⟩ = some (.int .u64 0) := R.out.2.cell 0
          have x1 : w2.cell? ⟨w.heap.size, 1, none⟩ = some (.int .u64 0) := R.out.2.cell 1
          have x2 : w2.cell? ⟨w.heap.size, 2, none⟩ = some (.slice none 0 0) := R.out.2.cell 2
          have f0 := R.out.2.frozen 0
          have f1 := R.out.2.frozen 1
          have f2 := R.out.2.frozen 2
          go_wp2
          obtain ⟨r1, r2⟩ := R.out
          have hH := ((r2.set 0 (.int .u64 0)).set 1 (.int .u64 0)).set 2 (.slice none 0 0)
          have hb := ((r1.setCell (p := ⟨w.heap.size, 0, none⟩) (Nat.le_refl _) (.int .u64 0)).setCell (p := ⟨w.heap.size, 1, none⟩) (Nat.le_refl _) (.int .u64 0)).setCell (p := ⟨w.heap.size, 2, none⟩) (Nat.le_refl _) (.slice none 0 0)
          refine bodyPost_ret (v := .tuple #[.agg #[.int .u64 0, .int .u64 0, .slice none 0 0], .int .i64 E3]) (results_pair rfl _ _ w.heap.size 25 _ (0, 0) _ rfl hH _ rfl Tryd.underlying25 (by kernel_rfl)) rfl (ERR.out E3 _ hb X.out)
      · rw [if_pos hE2] at hDD
        obtain ⟨r1, r2, E2, hL⟩ : ∃ r1 r2 E2, LNG (l.drop m') = (r1, r2, E2) := ⟨_, _, _, rfl⟩
        rw [hL] at hDD hE2 ⊢
        have X : Aside (D = DERR E2) := hDD.symm
        have hne : ((E2 : Int) != 0) = true := by simpa using hE2
        clear hDD hE2 hL wm
        dsimp only
        have x0 : W0.cell? ⟨w.heap.size, 0, none⟩ = some (.int .u64 0) := R.out.2.cell 0
        have x1 : W0.cell? ⟨w.heap.size, 1, none⟩ = some (.int .u64 0) := R.out.2.cell 1
        have x2 : W0.cell? ⟨w.heap.size, 2, none⟩ = some (.slice none 0 0) := R.out.2.cell 2
        have f0 := R.out.2.frozen 0
        have f1 := R.out.2.frozen 1
        have f2 := R.out.2.frozen 2
        go_wp2
        obtain ⟨r1, r2⟩ := R.out
        have hH := ((r2.set 0 (.int .u64 0)).set 1 (.int .u64 0)).set 2 (.slice none 0 0)
        have hb := ((r1.setCell (p := ⟨w.heap.size, 0, none⟩) (Nat.le_refl _) (.int .u64 0)).setCell (p := ⟨w.heap.size, 1, none⟩) (Nat.le_refl _) (.int .u64 0)).setCell (p := ⟨w.heap.size, 2, none⟩) (Nat.le_refl _) (.slice none 0 0)
        refine bodyPost_ret (v := .tuple #[.agg #[.int .u64 0, .int .u64 0, .slice none 0 0], .int .i64 E2]) (results_pair rfl _ _ w.heap.size 25 _ (0, 0) _ rfl hH _ rfl Tryd.underlying25 (by kernel_rfl)) rfl (ERR.out E2 _ hb X.out)
    · rw [if_pos hE1] at hDD
      obtain ⟨r1, r2, E1, hL⟩ : ∃ r1 r2 E1, LNG (l.drop 1) = (r1, r2, E1) := ⟨_, _, _, rfl⟩
      rw [hL] at hDD hE1 ⊢
      have X : Aside (D = DERR E1) := hDD.symm
      have hne : ((E1 : Int) != 0) = true := by simpa using hE1
      clear hDD hE1 hL
      dsimp only
      have x0 : W0.cell? ⟨w.heap.size, 0, none⟩ = some (.int .u64 0) := R.out.2.cell 0
      have x1 : W0.cell? ⟨w.heap.size, 1, none⟩ = some (.int .u64 0) := R.out.2.cell 1
      have x2 : W0.cell? ⟨w.heap.size, 2, none⟩ = some (.slice none 0 0) := R.out.2.cell 2
      have f0 := R.out.2.frozen 0
      have f1 := R.out.2.frozen 1
      have f2 := R.out.2.frozen 2
      go_wp2
      obtain ⟨r1, r2⟩ := R.out
      have hH := ((r2.set 0 (.int .u64 0)).set 1 (.int .u64 0)).set 2 (.slice none 0 0)
      have hb := ((r1.setCell (p := ⟨w.heap.size, 0, none⟩) (Nat.le_refl _) (.int .u64 0)).setCell (p := ⟨w.heap.size, 1, none⟩) (Nat.le_refl _) (.int .u64 0)).setCell (p := ⟨w.heap.size, 2, none⟩) (Nat.le_refl _) (.slice none 0 0)
      refine bodyPost_ret (v := .tuple #[.agg #[.int .u64 0, .int .u64 0, .slice none 0 0], .int .i64 E1]) (results_pair rfl _ _ w.heap.size 25 _ (0, 0) _ rfl hH _ rfl Tryd.underlying25 (by kernel_rfl)) rfl (ERR.out E1 _ hb X.out)
  · rw [if_pos hK] at hDD
    have X : Aside (D = DERR 14) := hDD.symm
    clear hB hc hn h0 hDD hln
    generalize l.getD 0 0 = x at *
    go_enter Tryd.func17, Tryd.ntmps17
    go_wp2
    refine bodyPost_ret (v := .tuple #[.agg #[.int .u64 0, .int .u64 0, .slice none 0 0], .int .i64 14]) (results_pair rfl _ _ w.heap.size 25 _ (0, 0) _ rfl R.out.2 _ rfl Tryd.underlying25 (by kernel_rfl)) rfl (ERR.out 14 _ R.out.1 X.out)
set_option maxHeartbeats 4000000 in
theorem refdecodeprefix_ok (a : Option Addr) (n c : Nat) (hn : n ≤ 1000000) (l : List Int) (w : World) (hB : Bytes w a n l) (hc : n ≤ c) : Calls Tryd.prog 18 #[.slice a n c] w (DECF w (DEX l)) := by
  have hln : l.length = n := hB.1
  obtain ⟨D, hD⟩ : ∃ D, DEX l = D := ⟨_, rfl⟩
  rw [hD]
  have hDD : DC0 80 (fun _ => false) PPA l = D := hD
  have R : Aside (Below w.heap.size w (w.alloc (.cells #[.int .u64 0, .int .u64 0, .slice none 0 0] 27)) ∧ Has (w.alloc (.cells #[.int .u64 0, .int .u64 0, .slice none 0 0] 27)) w.heap.size #[.int .u64 0, .int .u64 0, .slice none 0 0] 27) := ⟨(Below.refl _ _).alloc (Nat.le_refl _) _, Has.new _ _ _⟩
  have ERR : Aside (∀ (E : Int) (W : World), Below w.heap.size w W → D = DERR E → DECF w D (.returned (.tuple #[.agg #[.int .u64 0, .int .u64 0, .slice none 0 0], .int .i64 E])) W) := fun E W h1 h3 => by
    rw [h3]
    exact ⟨none, 0, rfl, ⟨rfl, fun h => absurd h (by simp [DERR]), by simp [DERR]⟩, h1, fun _ _ h => by cases h⟩
  unfold DC0 at hDD
  rw [hln] at hDD
  clear hD
  by_cases h0 : n = 0
  · subst h0
    rw [if_pos rfl] at hDD
    have X : Aside (D = DERR 11) := hDD.symm
    clear hB hc hn hDD hln
    go_enter Tryd.func18, Tryd.ntmps18
    go_wp2
    refine bodyPost_ret (v := .tuple #[.agg #[.int .u64 0, .int .u64 0, .slice none 0 0], .int .i64 11]) (results_pair rfl _ _ w.heap.size 27 _ (0, 0) _ rfl R.out.2 _ rfl Tryd.underlying27 (by kernel_rfl)) rfl (ERR.out 11 _ R.out.1 X.out)
  rw [if_neg h0] at hDD
  obtain ⟨b, o, rfl, hbl, hcs⟩ := hB.2.1 (by omega)
  have hz : ¬ (n : Int) = 0 := by omega
  have hpos : (0 : Int) < (n : Int) := by omega
  have hx : (w.alloc (.cells #[.int .u64 0, .int .u64 0, .slice none 0 0] 27)).cell? ⟨b, o, none⟩ = some (.int .u8 (l.getD 0 0)) := by
    have := hcs 0 (by omega)
    rw [Nat.add_zero] at this
    exact (R.out.1.cell (p := ⟨b, o, none⟩) hbl).trans this
  clear hbl hcs
  by_cases hK : l.getD 0 0 = 80
  · rw [if_neg (by simpa using hK)] at hDD
    rw [hK] at hx
    have hs1 : (Instr.slice 28 (.slice (some ⟨b, o, none⟩) n c) (some (.int .i64 1)) none none).run Tryd.prog (w.alloc (.cells #[.int .u64 0, .int .u64 0, .slice none 0 0] 27)) = .ok (.slice (REST b o c 1) (n - 1) (c - 1)) (w.alloc (.cells #[.int .u64 0, .int .u64 0, .slice none 0 0] 27)) := by
      have := slice_behind b o n c 1 (by omega) hc (w.alloc (.cells #[.int .u64 0, .int .u64 0, .slice none 0 0] 27))
      simpa using this
    have HA : Aside (Bytes w (some ⟨b, o, none⟩) n l ∧ n ≤ c ∧ n ≤ 1000000 ∧ 1 ≤ n ∧ l.length = n) := ⟨hB, hc, hn, by omega, hln⟩
    clear hB hc hn h0 hK hln
    go_enter Tryd.func18, Tryd.ntmps18
    go_wp2_with fail
    have c1 := reflong_ok (REST b o c 1) (n - 1) (c - 1) (l.drop 1) (w.alloc (.cells #[.int .u64 0, .int .u64 0, .slice none 0 0] 27)) ((HA.out.1.behind 1 HA.out.2.2.2.1 HA.out.2.1).below R.out.1) (by have := HA.out; omega)
    have hlen1 : (l.drop 1).length = n - 1 := by rw [List.length_drop, HA.out.2.2.2.2]
    rw [← hlen1, show LG (l.drop 1) (l.drop 1).length 10 0 0 = LNG (l.drop 1) from rfl, hlen1] at c1
    refine c1.mono ?_
    rintro e w1 ⟨rfl, rfl⟩
    clear c1 hlen1 hs1 hx hz hpos
    unfold DC1 at hDD
    generalize (w.alloc (.cells #[.int .u64 0, .int .u64 0, .slice none 0 0] 27)) = W0 at *
    by_cases hE1 : (LNG (l.drop 1)).2.2 = 0
    · rw [if_neg (by simpa using hE1)] at hDD
      obtain ⟨Z, m, hZ, hm1, hm2, hL, -⟩ := LNG_back (fun x hx => HA.out.1.2.2 x (List.mem_of_mem_drop hx)) hE1
      rw [hL] at hDD ⊢
      dsimp only at hDD ⊢
      rw [Int.toNat_natCast, Int.toNat_natCast] at hDD
      have hm3 : 1 + m ≤ n := by have h1 := HA.out.2.2.2.1; have h2 := HA.out.2.2.2.2; rw [List.length_drop, h2] at hm2; omega
      have HM : Aside (Z < 2 ^ 64 ∧ 1 + m ≤ n) := ⟨hZ, hm3⟩
      clear hL hE1 hm1 hm2 hZ hm3
      rw [if_neg (by simp)] at hDD
      rw [List.drop_drop] at hDD
      have wm : wrap64 (1 + (m : Int)) = ((1 + m : Nat) : Int) := by have := HM.out; have := HA.out; unfold wrap64; omega
      have hs2 : (Instr.slice 28 (.slice (some ⟨b, o, none⟩) n c) (some (.int .i64 ((1 + m : Nat) : Int))) none none).run Tryd.prog W0 = .ok (.slice (REST b o c (1 + m)) (n - (1 + m)) (c - (1 + m))) W0 := slice_behind b o n c (1 + m) HM.out.2 HA.out.2.1 W0
      obtain ⟨m', hm'⟩ : ∃ m', 1 + m = m' := ⟨_, rfl⟩
      rw [hm'] at wm hs2 hDD HM
      clear hm'
      go_wp2_with fail
      have c2 := reflong_ok (REST b o c m') (n - m') (c - m') (l.drop m') W0 ((HA.out.1.behind m' HM.out.2 HA.out.2.1).below R.out.1) (by have := HA.out; omega)
      have hlen2 : (l.drop m').length = n - m' := by rw [List.length_drop, HA.out.2.2.2.2]
      rw [← hlen2, show LG (l.drop m') (l.drop m').length 10 0 0 = LNG (l.drop m') from rfl, hlen2] at c2
      refine c2.mono ?_
      rintro e w1 ⟨rfl, rfl⟩
      clear c2 hlen2 hs2
      unfold DC2 at hDD
      by_cases hE2 : (LNG (l.drop m')).2.2 = 0
      · rw [if_neg (by simpa using hE2)] at hDD
        obtain ⟨Y, k, hY, hk1, hk2, hL, -⟩ := LNG_back (fun x hx => HA.out.1.2.2 x (List.mem_of_mem_drop hx)) hE2
        rw [hL] at hDD ⊢
        dsimp only at hDD ⊢
        rw [Int.toNat_natCast, Int.toNat_natCast, List.drop_drop] at hDD
        have hk3 : m' + k ≤ n := by have h1 := HM.out.2; have h2 := HA.out.2.2.2.2; rw [List.length_drop, h2] at hk2; omega
        have HK : Aside (Y < 2 ^ 64 ∧ m' + k ≤ n) := ⟨hY, hk3⟩
        clear hL hE2 hk1 hk2 hY hk3
        go_wp2_with fail
        refine (prefixwants_ok Z Y none 0 0 W0).mono ?_
        rintro e w2 ⟨rfl, hb2⟩
        unfold DC3 at hDD
        have R : Aside (Below w.heap.size w w2 ∧ Has w2 w.heap.size #[.int .u64 0, .int .u64 0, .slice none 0 0] 27) := ⟨R.out.1.trans (hb2.mono R.out.1.size), R.out.2.keep hb2⟩
        clear hb2
        obtain ⟨E3, hE3⟩ : ∃ E3, (PPA Z Y).1 = E3 := ⟨_, rfl⟩
        obtain ⟨N, hN⟩ : ∃ N, (PPA Z Y).2.length = N := ⟨_, rfl⟩
        have hfew : N ≤ 188 := by rw [← hN]; exact PPA_few Z Y
        try dsimp only at hDD
        rw [hE3, hN] at hDD ⊢
        clear hE3 hN
        by_cases h3 : E3 = 0
        · subst h3
          rw [if_neg (by simp)] at hDD
          obtain ⟨m2, hm2⟩ : ∃ m2, m' + k = m2 := ⟨_, rfl⟩
          have wk : wrap64 ((m' : Int) + (k : Int)) = (m2 : Int) := by have := HK.out; have := HA.out; unfold wrap64; omega
          rw [hm2] at hDD HK
          have hs3 : (Instr.slice 28 (.slice (some ⟨b, o, none⟩) n c) (some (.int .i64 (m2 : Int))) none none).run Tryd.prog w2 = .ok (.slice (REST b o c m2) (n - m2) (c - m2)) w2 := slice_behind b o n c m2 HK.out.2 HA.out.2.1 w2
          clear hm2
          go_wp2_with fail
          refine (take_ok (REST b o c m2) (n - m2) (c - m2) N (by have := HA.out; omega) (by omega) (l.drop m2) w2 ((HA.out.1.behind m2 HK.out.2 HA.out.2.1).below R.out.1)).mono ?_
          rintro e w3 ⟨v, rfl, hrow, hb3⟩
          clear hs3
          have hTK : D = ((TAKN (l.drop m2) N).1, if (TAKN (l.drop m2) N).1 = 0 then (Z, Y, (TAKN (l.drop m2) N).2.1, (TAKN (l.drop m2) N).2.2) else (0, 0, 0, [])) := by
            rw [← hDD]
            unfold TAKN DERR
            split
            · rfl
            · split
              · rfl
              · rfl
          have hrg : ∀ x ∈ (TAKN (l.drop m2) N).2.2, 0 ≤ x ∧ x ≤ 255 := by
            unfold TAKN
            split
            · simp
            · split
              · simp
              · exact fun x hx => HA.out.1.2.2 x (List.mem_of_mem_drop hx)
          obtain ⟨E4, hE4⟩ : ∃ E4, (TAKN (l.drop m2) N).1 = E4 := ⟨_, rfl⟩
          rw [hE4] at hTK ⊢
          obtain ⟨av, cv, rfl, -, -⟩ := own_shapeh hrow
          have hlt2 := R.out.2.lt
          have R : Aside (Below w.heap.size w w3 ∧ Has w3 w.heap.size #[.int .u64 0, .int .u64 0, .slice none 0 0] 27) := ⟨R.out.1.trans (hb3.mono R.out.1.size), R.out.2.keep hb3⟩
          have R3 : Aside (Flat w3 av (TAKN (l.drop m2) N).2.1 (TAKN (l.drop m2) N).2.2 ∧ ∀ b o, av = some ⟨b, o, none⟩ → b ≠ w.heap.size ∧ w.heap.size ≤ b) := ⟨own_flat hrow hrg, fun b o e => by subst e; have h1 := (hrow.lt b rfl).1; omega⟩
          generalize (TAKN (l.drop m2) N).2.1 = N4 at *
          generalize (TAKN (l.drop m2) N).2.2 = t4 at *
          clear hrow hb3 hDD hE4 hrg wk wm hlt2
          have x0 : w3.cell? ⟨w.heap.size, 0, none⟩ = some (.int .u64 0) := R.out.2.cell 0
          have x1 : w3.cell? ⟨w.heap.size, 1, none⟩ = some (.int .u64 0) := R.out.2.cell 1
          have x2 : w3.cell? ⟨w.heap.size, 2, none⟩ = some (.slice none 0 0) := R.out.2.cell 2
          have f0 := R.out.2.frozen 0
          have f1 := R.out.2.frozen 1
          have f2 := R.out.2.frozen 2
          by_cases h4 : E4 = 0
          · subst h4
            rw [if_pos rfl] at hTK
            have X : Aside (D = (0, Z, Y, N4, t4)) := hTK
            clear hTK
            go_wp2
            obtain ⟨r1, r2⟩ := R.out
            have hH := ((r2.set 0 (.int .u64 (Z : Int))).set 1 (.int .u64 (Y : Int))).set 2 (.slice av N4 cv)
            have hb := ((r1.setCell (p := ⟨w.heap.size, 0, none⟩) (Nat.le_refl _) (.int .u64 (Z : Int))).setCell (p := ⟨w.heap.size, 1, none⟩) (Nat.le_refl _) (.int .u64 (Y : Int))).setCell (p := ⟨w.heap.size, 2, none⟩) (Nat.le_refl _) (.slice av N4 cv)
            have hF := ((R3.out.1.off (x := ⟨w.heap.size, 0, none⟩) (fun b o e => (R3.out.2 b o e).1) (.int .u64 (Z : Int))).off (x := ⟨w.heap.size, 1, none⟩) (fun b o e => (R3.out.2 b o e).1) (.int .u64 (Y : Int))).off (x := ⟨w.heap.size, 2, none⟩) (fun b o e => (R3.out.2 b o e).1) (.slice av N4 cv)
            rw [X.out]
            refine bodyPost_ret (v := .tuple #[.agg #[.int .u64 (Z : Int), .int .u64 (Y : Int), .slice av N4 cv], .int .i64 0]) (results_pair rfl _ _ w.heap.size 27 _ (0, 0) _ rfl hH _ rfl Tryd.underlying27 (by kernel_rfl)) rfl ⟨av, cv, rfl, hF, hb, fun b o e => (R3.out.2 b o e).2⟩
          · rw [if_neg h4] at hTK
            have X : Aside (D = DERR E4) := hTK
            have hne : ((E4 : Int) != 0) = true := by simp [h4]
            clear hTK h4
            go_wp2
            obtain ⟨r1, r2⟩ := R.out
            have hH := ((r2.set 0 (.int .u64 0)).set 1 (.int .u64 0)).set 2 (.slice none 0 0)
            have hb := ((r1.setCell (p := ⟨w.heap.size, 0, none⟩) (Nat.le_refl _) (.int .u64 0)).setCell (p := ⟨w.heap.size, 1, none⟩) (Nat.le_refl _) (.int .u64 0)).setCell (p := ⟨w.heap.size, 2, none⟩) (Nat.le_refl _) (.slice none 0 0)
            refine bodyPost_ret (v := .tuple #[.agg #[.int .u64 0, .int .u64 0, .slice none 0 0], .int .i64 E4]) (results_pair rfl _ _ w.heap.size 27 _ (0, 0) _ rfl hH _ rfl Tryd.underlying27 (by kernel_rfl)) rfl (ERR.out E4 _ hb X.out)
        · rw [if_pos h3] at hDD
          have X : Aside (D = DERR E3) := hDD.symm
          have hne : ((E3 : Int) != 0) = true := by simp [h3]
          clear hDD h3 wm
          have x0 : w2.cell? ⟨w.heap.size, 0, none⟩ = some (.int .u64 0) := R.out.2.cell 0
          have x1 : w2.cell? ⟨w.heap.size, 1, none⟩ = some (.int .u64 0) := R.out.2.cell 1
          have x2 : w2.cell? ⟨w.heap.size, 2, none⟩ = some (.slice none 0 0) := R.out.2.cell 2
          have f0 := R.out.2.frozen 0
          have f1 := R.out.2.frozen 1
          have f2 := R.out.2.frozen 2
          go_wp2
          obtain ⟨r1, r2⟩ := R.out
          have hH := ((r2.set 0 (.int .u64 0)).set 1 (.int .u64 0)).set 2 (.slice none 0 0)
          have hb := ((r1.setCell (p := ⟨w.heap.size, 0, none⟩) (Nat.le_refl _) (.int .u64 0)).setCell (p := ⟨w.heap.size, 1, none⟩) (Nat.le_refl _) (.int .u64 0)).setCell (p := ⟨w.heap.size, 2, none⟩) (Nat.le_refl _) (.slice none 0 0)
          refine bodyPost_ret (v := .tuple #[.agg #[.int .u64 0, .int .u64 0, .slice none 0 0], .int .i64 E3]) (results_pair rfl _ _ w.heap.size 27 _ (0, 0) _ rfl hH _ rfl Tryd.underlying27 (by kernel_rfl)) rfl (ERR.out E3 _ hb X.out)
      · rw [if_pos hE2] at hDD
        obtain ⟨r1, r2, E2, hL⟩ : ∃ r1 r2 E2, LNG (l.drop m') = (r1, r2, E2) := ⟨_, _, _, rfl⟩
        rw [hL] at hDD hE2 ⊢
        have X : Aside (D = DERR E2) := hDD.symm
        have hne : ((E2 : Int) != 0) = true := by simpa using hE2
        clear hDD hE2 hL wm
        dsimp only
        have x0 : W0.cell? ⟨w.heap.size, 0, none⟩ = some (.int .u64 0) := R.out.2.cell 0
        have x1 : W0.cell? ⟨w.heap.size, 1, none⟩ = some (.int .u64 0) := R.out.2.cell 1
        have x2 : W0.cell? ⟨w.heap.size, 2, none⟩ = some (.slice none 0 0) := R.out.2.cell 2
        have f0 := R.out.2.frozen 0
        have f1 := R.out.2.frozen 1
        have f2 := R.out.2.frozen 2
        go_wp2
        obtain ⟨r1, r2⟩ := R.out
        have hH := ((r2.set 0 (.int .u64 0)).set 1 (.int .u64 0)).set 2 (.slice none 0 0)
        have hb := ((r1.setCell (p := ⟨w.heap.size, 0, none⟩) (Nat.le_refl _) (.int .u64 0)).setCell (p := ⟨w.heap.size, 1, none⟩) (Nat.le_refl _) (.int .u64 0)).setCell (p := ⟨w.heap.size, 2, none⟩) (Nat.le_refl _) (.slice none 0 0)
        refine bodyPost_ret (v := .tuple #[.agg #[.int .u64 0, .int .u64 0, .slice none 0 0], .int .i64 E2]) (results_pair rfl _ _ w.heap.size 27 _ (0, 0) _ rfl hH _ rfl Tryd.underlying27 (by kernel_rfl)) rfl (ERR.out E2 _ hb X.out)
    · rw [if_pos hE1] at hDD
      obtain ⟨r1, r2, E1, hL⟩ : ∃ r1 r2 E1, LNG (l.drop 1) = (r1, r2, E1) := ⟨_, _, _, rfl⟩
      rw [hL] at hDD hE1 ⊢
      have X : Aside (D = DERR E1) := hDD.symm
      have hne : ((E1 : Int) != 0) = true := by simpa using hE1
      clear hDD hE1 hL
      dsimp only
      have x0 : W0.cell? ⟨w.heap.size, 0, none⟩ = some (.int .u64 0) := R.out.2.cell 0
      have x1 : W0.cell? ⟨w.heap.size, 1, none⟩ = some (.int .u64 0) := R.out.2.cell 1
      have x2 : W0.cell? ⟨w.heap.size, 2, none⟩ = some (.slice none 0 0) := R.out.2.cell 2
      have f0 := R.out.2.frozen 0
      have f1 := R.out.2.frozen 1
      have f2 := R.out.2.frozen 2
      go_wp2
      obtain ⟨r1, r2⟩ := R.out
      have hH := ((r2.set 0 (.int .u64 0)).set 1 (.int .u64 0)).set 2 (.slice none 0 0)
      have hb := ((r1.setCell (p := ⟨w.heap.size, 0, none⟩) (Nat.le_refl _) (.int .u64 0)).setCell (p := ⟨w.heap.size, 1, none⟩) (Nat.le_refl _) (.int .u64 0)).setCell (p := ⟨w.heap.size, 2, none⟩) (Nat.le_refl _) (.slice none 0 0)
      refine bodyPost_ret (v := .tuple #[.agg #[.int .u64 0, .int .u64 0, .slice none 0 0], .int .i64 E1]) (results_pair rfl _ _ w.heap.size 27 _ (0, 0) _ rfl hH _ rfl Tryd.underlying27 (by kernel_rfl)) rfl (ERR.out E1 _ hb X.out)
  · rw [if_pos hK] at hDD
    have X : Aside (D = DERR 14) := hDD.symm
    clear hB hc hn h0 hDD hln
    generalize l.getD 0 0 = x at *
    go_enter Tryd.func18, Tryd.ntmps18
    go_wp2
    refine bodyPost_ret (v := .tuple #[.agg #[.int .u64 0, .int .u64 0, .slice none 0 0], .int .i64 14]) (results_pair rfl _ _ w.heap.size 27 _ (0, 0) _ rfl R.out.2 _ rfl Tryd.underlying27 (by kernel_rfl)) rfl (ERR.out 14 _ R.out.1 X.out)
end Go.Proofs.YtfjmbfppilfepaaDoor
