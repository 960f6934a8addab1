/- Texts of SpanBytes, one behind the other: SpanProofCall, SpanDecodeRegion, SpanDecode. -/
import Derived.Test.YtmkgldjocigffaaDoorSpanBytesP16
/- proof of the reader of package span: the whole of it. -/
namespace Go.Proofs.YtmkgldjocigffaaDoor
open Go.RowKit
set_option maxRecDepth 100000

/-- an error, three numbers, how many nodes, their bytes. -/
abbrev SANS := Int × Nat × Nat × Nat × Nat × List Int
def SERR (E : Int) : SANS := (E, 0, 0, 0, 0, [])
def SD3 (S F T : Nat) (t : List Int) : SANS := if t.length < 32 * (SPP F T S).length then SERR 11 else if 32 * (SPP F T S).length < t.length then SERR 13 else (0, S, F, T, (SPP F T S).length, t)
def SD2 (S F : Nat) (t : List Int) : SANS := if SNE t (S - F) 32 ≠ 0 then SERR (SNE t (S - F) 32) else SD3 S F (F + (LNG t).1.toNat) (t.drop (LNG t).2.1.toNat)
def SD1 (S : Nat) (t : List Int) : SANS := if SNE t S 32 ≠ 0 then SERR (SNE t S 32) else SD2 S (LNG t).1.toNat (t.drop (LNG t).2.1.toNat)
def SD0 (t : List Int) : SANS := if SNE t 4611686018427387904 30 ≠ 0 then SERR (SNE t 4611686018427387904 30) else SD1 (LNG t).1.toNat (t.drop (LNG t).2.1.toNat)
/-- what Decode answers. -/
def SDEC (l : List Int) : SANS := if (K20 l).1 ≠ 0 then SERR (K20 l).1 else SD0 (K20 l).2
/-- what reading in turn comes to. -/
theorem sdec_turn {l : List Int} {S F X K : Nat} {E1 E2 E3 E4 : Int} {t1 t2 t3 ll : List Int}
    (n1 : NUM20 (K20 l).1 (K20 l).2 4611686018427387904 30 S E1 t1) (n2 : NUM20 E1 t1 S 32 F E2 t2) (n3 : NUM20 E2 t2 (S - F) 32 X E3 t3) (n4 : NOD20 E3 t3 (SPP F (F + X) S).length K E4 ll) :
    (E4 ≠ 0 → SDEC l = SERR E4) ∧ (E4 = 0 → SDEC l = (0, S, F, F + X, K, ll)) := by
  obtain ⟨_, h1⟩ := n1
  obtain ⟨_, h2⟩ := n2
  obtain ⟨_, h3⟩ := n3
  rcases h1 with ⟨e, _, rfl⟩ | ⟨e, e', _, rfl⟩ | ⟨e, e', hx1, rfl, rfl⟩
  · have hE : E4 = (K20 l).1 := by
      rcases h2 with ⟨_, _, rfl⟩ | ⟨h, _⟩ | ⟨h, _⟩
      · rcases h3 with ⟨_, _, rfl⟩ | ⟨h, _⟩ | ⟨h, _⟩
        · rcases n4 with ⟨_, _, rfl, _⟩ | ⟨h, _⟩ | ⟨h, _⟩ | ⟨h, _⟩
          · rfl
          all_goals exact absurd h e
        all_goals exact absurd h e
      all_goals exact absurd h e
    subst hE
    exact ⟨fun _ => by unfold SDEC; rw [if_pos e], fun h => absurd h e⟩
  · have hE : E4 = SNE (K20 l).2 4611686018427387904 30 := by
      rcases h2 with ⟨_, _, rfl⟩ | ⟨h, _⟩ | ⟨h, _⟩
      · rcases h3 with ⟨_, _, rfl⟩ | ⟨h, _⟩ | ⟨h, _⟩
        · rcases n4 with ⟨_, _, rfl, _⟩ | ⟨h, _⟩ | ⟨h, _⟩ | ⟨h, _⟩
          · rfl
          all_goals exact absurd h e'
        all_goals exact absurd h e'
      all_goals exact absurd h e'
    subst hE
    exact ⟨fun _ => by unfold SDEC; rw [if_neg (by simp [e])]; unfold SD0; rw [if_pos e'], fun h => absurd h e'⟩
  · have hS : S = (LNG (K20 l).2).1.toNat := by omega
    have d1 : SDEC l = SD1 S ((K20 l).2.drop (LNG (K20 l).2).2.1.toNat) := by
      unfold SDEC
      rw [if_neg (by simp [e])]
      unfold SD0
      rw [if_neg (by simp [e']), hS]
    rw [d1]
    clear d1 hS hx1
    generalize (K20 l).2.drop (LNG (K20 l).2).2.1.toNat = u1 at *
    rcases h2 with ⟨h, _⟩ | ⟨_, f', _, rfl⟩ | ⟨_, f', hx2, rfl, rfl⟩
    · exact absurd rfl h
    · have hE : E4 = SNE u1 S 32 := by
        rcases h3 with ⟨_, _, rfl⟩ | ⟨h, _⟩ | ⟨h, _⟩
        · rcases n4 with ⟨_, _, rfl, _⟩ | ⟨h, _⟩ | ⟨h, _⟩ | ⟨h, _⟩
          · rfl
          all_goals exact absurd h f'
        all_goals exact absurd h f'
      subst hE
      exact ⟨fun _ => by unfold SD1; rw [if_pos f'], fun h => absurd h f'⟩
    · have hF : F = (LNG u1).1.toNat := by omega
      have d1 : SD1 S u1 = SD2 S F (u1.drop (LNG u1).2.1.toNat) := by
        unfold SD1
        rw [if_neg (by simp [f']), hF]
      rw [d1]
      clear d1 hF hx2
      generalize u1.drop (LNG u1).2.1.toNat = u2 at *
      rcases h3 with ⟨h, _⟩ | ⟨_, g', _, rfl⟩ | ⟨_, g', hx3, rfl, rfl⟩
      · exact absurd rfl h
      · have hE : E4 = SNE u2 (S - F) 32 := by
          rcases n4 with ⟨_, _, rfl, _⟩ | ⟨h, _⟩ | ⟨h, _⟩ | ⟨h, _⟩
          · rfl
          all_goals exact absurd h g'
        subst hE
        exact ⟨fun _ => by unfold SD2; rw [if_pos g'], fun h => absurd h g'⟩
      · have hX : X = (LNG u2).1.toNat := by omega
        have d1 : SD2 S F u2 = SD3 S F (F + X) (u2.drop (LNG u2).2.1.toNat) := by
          unfold SD2
          rw [if_neg (by simp [g']), hX]
        rw [d1]
        clear d1 hX hx3
        generalize u2.drop (LNG u2).2.1.toNat = u3 at *
        unfold SD3
        generalize (SPP F (F + X) S).length = M at *
        rcases n4 with ⟨h, _⟩ | ⟨_, h, rfl, rfl, rfl⟩ | ⟨_, h, rfl, rfl, rfl⟩ | ⟨_, h, rfl, rfl, rfl⟩
        · exact absurd rfl h
        · exact ⟨fun _ => by rw [if_pos h], fun h => by cases h⟩
        · exact ⟨fun _ => by rw [if_neg (by omega), if_pos h], fun h => by cases h⟩
        · exact ⟨fun h => absurd rfl h, fun _ => by rw [if_neg (by omega), if_neg (by omega)]⟩
theorem info_reach : (Tryd.prog.info? 37).map (·.size) = some 4 := by kernel_rfl
abbrev ZREACH : Array Value := #[.int .u64 0, .int .u64 0, .int .u64 0, .slice none 0 0]
/-- what proof answers and leaves. -/
def SPRD (wS w : World) (rb : Nat) (l : List Int) (e : Ending) (w' : World) : Prop := ∃ (S F T K c : Nat) (a : Option Addr) (E : Int) (ll t' : List Int), e = .returned (.agg #[.int .u64 (S : Int), .int .u64 (F : Int), .int .u64 (T : Int), .slice a K c]) ∧ (E ≠ 0 → SDEC l = SERR E) ∧ (E = 0 → SDEC l = (0, S, F, T, K, ll)) ∧ w'.ownsRow w.heap.size 60 32 (.slice a K c) K (CELLS ll) ∧ RD20 wS w' rb E t' ∧ STAY w w' rb
set_option maxHeartbeats 8000000 in
theorem sproof_ok {wS w : World} {rb : Nat} {l : List Int} (R : RD20 wS w rb 0 l) (hT : Tabled wS) (h0 : 0 < wS.heap.size) : Calls Tryd.prog 45 #[.pointer (some ⟨rb, 0, none⟩)] w (SPRD wS w rb l) := by
  have hrb := R.lt
  obtain ⟨w1, e1⟩ : ∃ w1, w.alloc (.cells ZREACH 37) = w1 := ⟨_, rfl⟩
  have hb1 : Below w.heap.size w w1 := by rw [← e1]; exact (Below.refl _ _).alloc (Nat.le_refl _) _
  have s1 : w1.heap.size = w.heap.size + 1 := by rw [← e1]; simp
  have HR : Aside (RD20 wS w1 rb 0 l ∧ STAY w w1 rb ∧ rb < w.heap.size ∧ wS.heap.size ≤ rb ∧ Has w1 w.heap.size ZREACH 37 ∧ w.heap.size < w1.heap.size) := ⟨R.keep hb1, STAY.of hb1 (Nat.le_of_lt hrb), hrb, R.lb, by rw [← e1]; exact Has.new w _ _, by omega⟩
  have HT : Aside (∀ W, Below wS.heap.size wS W → Tabled W ∧ 0 < W.heap.size) := fun W hb => ⟨hT.below h0 hb, by have := hb.size; omega⟩
  have ck := skind_ok HR.out.1
  clear R hrb hb1 s1 hT h0
  go_enter Tryd.func45, Tryd.ntmps45
  go_wp2_with fail
  refine ck.mono ?_
  rintro e w2 ⟨rfl, r2, t2⟩
  have R2 : Aside (RD20 wS w2 rb (K20 l).1 (K20 l).2 ∧ STAY w w2 rb ∧ Has w2 w.heap.size ZREACH 37 ∧ w.heap.size < w2.heap.size) := ⟨r2, HR.out.2.1.trans t2, t2.has HR.out.2.2.2.2.1 (by have := HR.out.2.2.1; omega), by have := t2.bl.size; have := HR.out.2.2.2.2.2; have := (t2.has HR.out.2.2.2.2.1 (by have := HR.out.2.2.1; omega)).lt; omega⟩
  clear ck r2 t2 e1
  obtain ⟨w3, e3⟩ : ∃ w3, w2.alloc (.cells ZREACH 37) = w3 := ⟨_, rfl⟩
  have hb3 : Below w2.heap.size w2 w3 := by rw [← e3]; exact (Below.refl _ _).alloc (Nat.le_refl _) _
  have H3 : Has w3 w2.heap.size ZREACH 37 := by rw [← e3]; exact Has.new w2 _ _
  obtain ⟨pb, hpb⟩ : ∃ pb, w2.heap.size = pb := ⟨_, rfl⟩
  have R3 : Aside (RD20 wS w3 rb (K20 l).1 (K20 l).2 ∧ STAY w w3 rb ∧ Has w3 w.heap.size ZREACH 37 ∧ w.heap.size < pb ∧ Has w3 pb ZREACH 37) := ⟨R2.out.1.keep hb3, R2.out.2.1.trans (STAY.of hb3 (Nat.le_of_lt R2.out.1.lt)), R2.out.2.2.1.keep hb3, by rw [← hpb]; exact R2.out.2.2.2, by rw [← hpb]; exact H3⟩
  have PB : Aside (w2.heap.size = pb) := hpb
  have c1 := snumber_ok R3.out.1 4611686018427387904 30 (by decide)
  clear hb3 H3 hpb R2
  go_wp2_with fail
  rw [PB.out]
  refine c1.mono ?_
  rintro e w4 ⟨S, E1, t1, rfl, n1, r4, t4⟩
  have H4 : Has w4 pb ZREACH 37 := t4.has R3.out.2.2.2.2 (by have := R3.out.2.2.2.1; have := HR.out.2.2.1; omega)
  have R4 : Aside (RD20 wS (w4.setCell ⟨pb, 0, none⟩ (.int .u64 (S : Int))) rb E1 t1 ∧ STAY w (w4.setCell ⟨pb, 0, none⟩ (.int .u64 (S : Int))) rb ∧ Has (w4.setCell ⟨pb, 0, none⟩ (.int .u64 (S : Int))) w.heap.size ZREACH 37 ∧ Has (w4.setCell ⟨pb, 0, none⟩ (.int .u64 (S : Int))) pb #[.int .u64 (S : Int), .int .u64 0, .int .u64 0, .slice none 0 0] 37 ∧ NUM20 (K20 l).1 (K20 l).2 4611686018427387904 30 S E1 t1) := by
    have hne : rb ≠ pb := by have := R3.out.2.2.2.1; have := HR.out.2.2.1; omega
    have hsz := R3.out.2.2.2.1
    refine ⟨r4.other (STAY.set w4 pb 0 _) hne (by have := HR.out.2.2.2.1; have := HR.out.2.2.1; omega), (R3.out.2.1.trans t4).high (by omega) (by have := HR.out.2.2.1; omega), (t4.has R3.out.2.2.1 (by have := HR.out.2.2.1; omega)).other (by show w.heap.size ≠ pb; omega) _, H4.set 0 _, n1⟩
  have x0 : w4.cell? ⟨pb, 0, none⟩ = some (.int .u64 0) := H4.cell 0
  have z0 : w4.frozen? ⟨pb, 0, none⟩ = false := H4.frozen 0
  clear c1 n1 r4 t4 H4 e3
  go_upto_region 4 with fail
  generalize w4.setCell ⟨pb, 0, none⟩ (.int .u64 (S : Int)) = w5 at *
  clear x0 z0
  have x0 : w5.cell? ⟨pb, 0, none⟩ = some (.int .u64 (S : Int)) := R4.out.2.2.2.1.cell 0
  have c2 := snumber_ok R4.out.1 S 32 (by decide)
  go_wp2_with fail
  refine c2.mono ?_
  rintro e w6 ⟨F, E2, t2, rfl, n2, r6, t6⟩
  have H6 : Has w6 pb #[.int .u64 (S : Int), .int .u64 0, .int .u64 0, .slice none 0 0] 37 := t6.has R4.out.2.2.2.1 (by have := R3.out.2.2.2.1; have := HR.out.2.2.1; omega)
  have R6 : Aside (RD20 wS (w6.setCell ⟨pb, 1, none⟩ (.int .u64 (F : Int))) rb E2 t2 ∧ STAY w (w6.setCell ⟨pb, 1, none⟩ (.int .u64 (F : Int))) rb ∧ Has (w6.setCell ⟨pb, 1, none⟩ (.int .u64 (F : Int))) w.heap.size ZREACH 37 ∧ Has (w6.setCell ⟨pb, 1, none⟩ (.int .u64 (F : Int))) pb #[.int .u64 (S : Int), .int .u64 (F : Int), .int .u64 0, .slice none 0 0] 37 ∧ NUM20 E1 t1 S 32 F E2 t2) := by
    have hne : rb ≠ pb := by have := R3.out.2.2.2.1; have := HR.out.2.2.1; omega
    have hsz := R3.out.2.2.2.1
    refine ⟨r6.other (STAY.set w6 pb 1 _) hne (by have := HR.out.2.2.2.1; have := HR.out.2.2.1; omega), (R4.out.2.1.trans t6).high (by omega) (by have := HR.out.2.2.1; omega), (t6.has R4.out.2.2.1 (by have := HR.out.2.2.1; omega)).other (by show w.heap.size ≠ pb; omega) _, H6.set 1 _, n2⟩
  have x1 : w6.cell? ⟨pb, 1, none⟩ = some (.int .u64 0) := H6.cell 1
  have z1 : w6.frozen? ⟨pb, 1, none⟩ = false := H6.frozen 1
  have b1 : S ≤ 4611686018427387904 := R4.out.2.2.2.2.1
  have b2 : F ≤ S := n2.1
  have BB : Aside (S ≤ 4611686018427387904 ∧ F ≤ S) := ⟨b1, b2⟩
  clear c2 n2 r6 t6 H6 x0
  go_upto_region 5 with fail
  generalize w6.setCell ⟨pb, 1, none⟩ (.int .u64 (F : Int)) = w7 at *
  clear x1 z1
  refine sproof5 w7 rb pb S F (S - F) (fun w8 => w8 = w7.drew) (fun x w8 => ∃ E3 t3, NUM20 E2 t2 (S - F) 32 x E3 t3 ∧ RDS wS w7.drew rb E3 t3 w8) (fun x w8 => ∃ wy E3 t3, NUM20 E2 t2 (S - F) 32 x E3 t3 ∧ RDS wS w7.drew rb E3 t3 wy ∧ w8 = wy.setCell ⟨pb, 2, none⟩ (.int .u64 ((F + x : Nat) : Int))) rfl ?_ ?_ ?_ ?_ ?_ ?_ ?_ ?_ ?_ (fun _ _ _ _ _ h => h) ?_
  case refine_1 =>
    rintro w8 rfl
    exact ⟨R6.out.2.2.2.1.cell 0, R6.out.2.2.2.1.cell 1⟩
  case refine_2 =>
    rintro x w8 ⟨E3, t3, _, _, h2⟩
    have h := h2.has (g := pb) (c := #[.int .u64 (S : Int), .int .u64 (F : Int), .int .u64 0, .slice none 0 0]) (t := 37) R6.out.2.2.2.1 (by have := R3.out.2.2.2.1; have := HR.out.2.2.1; omega)
    exact ⟨h.cell 0, h.cell 1⟩
  case refine_3 =>
    rintro x w8 ⟨wy, E3, t3, _, ⟨_, h2⟩, rfl⟩
    have h := (h2.has (g := pb) (c := #[.int .u64 (S : Int), .int .u64 (F : Int), .int .u64 0, .slice none 0 0]) (t := 37) R6.out.2.2.2.1 (by have := R3.out.2.2.2.1; have := HR.out.2.2.1; omega)).set 2 (.int .u64 ((F + x : Nat) : Int))
    exact ⟨h.cell 0, h.cell 1⟩
  case refine_4 =>
    rintro x w8 ⟨E3, t3, n3, _⟩
    exact n3.1
  case refine_5 => exact u64_gap20 BB.out.2 (by have := BB.out.1; omega)
  case refine_6 => intro x hx; rw [wrapU]; have := BB.out; omega
  case refine_7 =>
    rintro w8 rfl
    have R7 : RD20 wS w7.drew rb E2 t2 := R6.out.1.keep (Below.refl _ _).drew
    refine (snumber_ok R7 (S - F) 32 (by decide)).mono ?_
    rintro e w8 ⟨x, E3, t3, rfl, n3, h⟩
    exact ⟨x, rfl, E3, t3, n3, h⟩
  case refine_8 =>
    rintro x w8 ⟨E3, t3, _, _, h2⟩
    have h := h2.has (g := pb) (c := #[.int .u64 (S : Int), .int .u64 (F : Int), .int .u64 0, .slice none 0 0]) (t := 37) R6.out.2.2.2.1 (by have := R3.out.2.2.2.1; have := HR.out.2.2.1; omega)
    exact ⟨⟨_, h.cell 2⟩, h.frozen 2⟩
  case refine_9 =>
    rintro x w8 ⟨E3, t3, n3, h⟩
    exact ⟨w8, E3, t3, n3, h, rfl⟩
  rintro X w9 ⟨wy, E3, t3, n3, ⟨r8, t8⟩, rfl⟩
  have H8 : Has wy pb #[.int .u64 (S : Int), .int .u64 (F : Int), .int .u64 0, .slice none 0 0] 37 := t8.has (g := pb) R6.out.2.2.2.1 (by have := R3.out.2.2.2.1; have := HR.out.2.2.1; omega)
  have R9 : Aside (RD20 wS (wy.setCell ⟨pb, 2, none⟩ (.int .u64 ((F + X : Nat) : Int))) rb E3 t3 ∧ STAY w (wy.setCell ⟨pb, 2, none⟩ (.int .u64 ((F + X : Nat) : Int))) rb ∧ Has (wy.setCell ⟨pb, 2, none⟩ (.int .u64 ((F + X : Nat) : Int))) w.heap.size ZREACH 37 ∧ Has (wy.setCell ⟨pb, 2, none⟩ (.int .u64 ((F + X : Nat) : Int))) pb #[.int .u64 (S : Int), .int .u64 (F : Int), .int .u64 ((F + X : Nat) : Int), .slice none 0 0] 37 ∧ NUM20 E2 t2 (S - F) 32 X E3 t3) := by
    have hne : rb ≠ pb := by have := R3.out.2.2.2.1; have := HR.out.2.2.1; omega
    have hsz := R3.out.2.2.2.1
    have t7 : STAY w w7.drew rb := R6.out.2.1.trans (STAY.of (Below.refl _ _).drew (Nat.le_of_lt R6.out.1.lt))
    refine ⟨r8.other (STAY.set wy pb 2 _) hne (by have := HR.out.2.2.2.1; have := HR.out.2.2.1; omega), (t7.trans t8).high (by omega) (by have := HR.out.2.2.1; omega), (t8.has (g := w.heap.size) (c := ZREACH) (t := 37) R6.out.2.2.1 (by have := HR.out.2.2.1; omega)).other (by show w.heap.size ≠ pb; omega) _, H8.set 2 _, n3⟩
  clear n3 r8 t8 H8
  obtain ⟨T, hT⟩ : ∃ T, F + X = T := ⟨_, rfl⟩
  rw [hT] at R9 ⊢
  generalize wy.setCell ⟨pb, 2, none⟩ (.int .u64 (T : Int)) = w9 at *
  have TT : Aside (F + X = T ∧ T ≤ S) := ⟨hT, by have := R9.out.2.2.2.2.1; have := BB.out.2; omega⟩
  clear hT b1 b2
  have x0 : w9.cell? ⟨pb, 0, none⟩ = some (.int .u64 (S : Int)) := R9.out.2.2.2.1.cell 0
  have x1 : w9.cell? ⟨pb, 1, none⟩ = some (.int .u64 (F : Int)) := R9.out.2.2.2.1.cell 1
  have x2 : w9.cell? ⟨pb, 2, none⟩ = some (.int .u64 (T : Int)) := R9.out.2.2.2.1.cell 2
  have cn : Calls Tryd.prog 61 #[.pointer (some ⟨rb, 0, none⟩), .int .u64 (F : Int), .int .u64 (T : Int), .int .u64 (S : Int)] w9 (NDS20 wS w9 rb E3 t3 (SPP F T S).length) := by
    by_cases hE : E3 = 0
    · subst hE
      have hb := R9.out.1.bel
      exact snodes_ok R9.out.1 F T S BB.out.1 (by have := TT.out.1; omega) TT.out.2 (HT.out _ hb).1 (HT.out _ hb).2
    · exact snodes_none R9.out.1 hE F T S _
  dsimp only
  go_wp2_with fail
  refine cn.mono ?_
  rintro e w10 ⟨a, K, c, E4, ll, t4, rfl, n4, hown, r10, t10⟩
  have hdec := sdec_turn R4.out.2.2.2.2 R6.out.2.2.2.2 R9.out.2.2.2.2 (by rw [TT.out.1]; exact n4)
  rw [TT.out.1] at hdec
  have H10 : Has w10 pb #[.int .u64 (S : Int), .int .u64 (F : Int), .int .u64 (T : Int), .slice none 0 0] 37 := t10.has R9.out.2.2.2.1 (by have := R3.out.2.2.2.1; have := HR.out.2.2.1; omega)
  have hpw9 : pb < w9.heap.size := R9.out.2.2.2.1.lt
  have R10 : Aside (RD20 wS (w10.setCell ⟨pb, 3, none⟩ (.slice a K c)) rb E4 t4 ∧ STAY w (w10.setCell ⟨pb, 3, none⟩ (.slice a K c)) rb ∧ Has (w10.setCell ⟨pb, 3, none⟩ (.slice a K c)) w.heap.size ZREACH 37 ∧ Has (w10.setCell ⟨pb, 3, none⟩ (.slice a K c)) pb #[.int .u64 (S : Int), .int .u64 (F : Int), .int .u64 (T : Int), .slice a K c] 37 ∧ (w10.setCell ⟨pb, 3, none⟩ (.slice a K c)).ownsRow w9.heap.size 60 32 (.slice a K c) K (CELLS ll) ∧ (E4 ≠ 0 → SDEC l = SERR E4) ∧ (E4 = 0 → SDEC l = (0, S, F, T, K, ll)) ∧ pb < w9.heap.size) := by
    have hne : rb ≠ pb := by have := R3.out.2.2.2.1; have := HR.out.2.2.1; omega
    have hsz := R3.out.2.2.2.1
    refine ⟨r10.other (STAY.set w10 pb 3 _) hne (by have := HR.out.2.2.2.1; have := HR.out.2.2.1; omega), (R9.out.2.1.trans t10).high (by omega) (by have := HR.out.2.2.1; omega), (t10.has R9.out.2.2.1 (by have := HR.out.2.2.1; omega)).other (by show w.heap.size ≠ pb; omega) _, H10.set 3 _, ownsRow_setCell_below hown (a := ⟨pb, 3, none⟩) hpw9 _, hdec.1, hdec.2, hpw9⟩
  have x3 : w10.cell? ⟨pb, 3, none⟩ = some (.slice none 0 0) := H10.cell 3
  have z3 : w10.frozen? ⟨pb, 3, none⟩ = false := H10.frozen 3
  clear cn n4 hown r10 t10 hdec H10 hpw9 x0 x1 x2
  go_upto_region 7 with fail
  generalize w10.setCell ⟨pb, 3, none⟩ (.slice a K c) = w11 at *
  clear x3 z3
  have FN : Aside (∀ e, e = .returned (.agg #[.int .u64 (S : Int), .int .u64 (F : Int), .int .u64 (T : Int), .slice a K c]) → SPRD wS w rb l e (w11.setRow w.heap.size #[.int .u64 (S : Int), .int .u64 (F : Int), .int .u64 (T : Int), .slice a K c])) := by
    rintro e rfl
    have hsz := R3.out.2.2.2.1
    have hrw := HR.out.2.2.1
    have hS := HR.out.2.2.2.1
    refine ⟨S, F, T, K, c, a, E4, ll, t4, rfl, R10.out.2.2.2.2.2.1, R10.out.2.2.2.2.2.2.1, ?_, ?_, ?_⟩
    · exact own_mono (own_hold9 R10.out.2.2.2.2.1 fun k e => setRow_other _ _ _ _ (by have h1 := (R10.out.2.2.2.2.1.lt k e).1; have := R10.out.2.2.2.2.2.2.2; omega)) (by have := R10.out.2.2.2.2.2.2.2; omega)
    · obtain ⟨ra, rc, q1, q2⟩ := R10.out.1.rd
      exact ⟨⟨ra, rc, (setRow_other _ _ _ _ (by omega)).trans q1, q2⟩, below_row R10.out.1.bel (by omega) _, R10.out.1.lb⟩
    · exact ⟨fun k hk hne => (setRow_other _ _ _ _ (by omega)).trans (R10.out.2.1.kp k hk hne), below_row R10.out.2.1.bl (by omega) _⟩
  have WW : Aside (Has w11 pb #[.int .u64 (S : Int), .int .u64 (F : Int), .int .u64 (T : Int), .slice a K c] 37 ∧ Has w11 w.heap.size ZREACH 37) := ⟨R10.out.2.2.2.1, R10.out.2.2.1⟩
  have infoM : (Tryd.prog.info? 37).map (·.size) = some (#[Value.int .u64 (S : Int), .int .u64 (F : Int), .int .u64 (T : Int), .slice a K c] : Array Value).size := info_reach
  have sizeM : ZREACH.size = (#[Value.int .u64 (S : Int), .int .u64 (F : Int), .int .u64 (T : Int), .slice a K c] : Array Value).size := rfl
  have allM : (#[Value.int .u64 (S : Int), .int .u64 (F : Int), .int .u64 (T : Int), .slice a K c] : Array Value).all (·.oneCell') = true := by simp [Value.oneCell']
  have MM : Aside ((Tryd.prog.info? 37).map (·.size) = some (#[Value.int .u64 (S : Int), .int .u64 (F : Int), .int .u64 (T : Int), .slice a K c] : Array Value).size ∧ ZREACH.size = (#[Value.int .u64 (S : Int), .int .u64 (F : Int), .int .u64 (T : Int), .slice a K c] : Array Value).size ∧ (#[Value.int .u64 (S : Int), .int .u64 (F : Int), .int .u64 (T : Int), .slice a K c] : Array Value).all (·.oneCell') = true) := ⟨infoM, sizeM, allM⟩
  clear R3 R4 R6 R9 R10 HR HT PB BB TT infoM sizeM allM
  go_wp2_with (first
    | (refine wpList_load_row rfl 37 (.tmp 3) rfl pb rfl 37 #[.int .u64 (S : Int), .int .u64 (F : Int), .int .u64 (T : Int), .slice a K c] (0, 0) _ WW.out.1 Tryd.underlying37 rfl MM.out.1 ?_)
    | (refine wpList_store_row rfl 37 (.tmp 2) (.tmp 34) rfl _ _ rfl rfl 37 ZREACH WW.out.2 MM.out.1 MM.out.2.1 MM.out.2.2 ?_))
  refine bodyPost_ret (v := .agg #[.int .u64 (S : Int), .int .u64 (F : Int), .int .u64 (T : Int), .slice a K c]) ?_ rfl (FN.out _ rfl)
  exact results_cell_row rfl _ _ w.heap.size 37 _ (0, 0) _ rfl (WW.out.2.row _) Tryd.underlying37 rfl MM.out.1
end Go.Proofs.YtmkgldjocigffaaDoor

/- The region of Decode of package span that draws its order. -/
namespace Go.Proofs.YtmkgldjocigffaaDoor
open Go.RowKit
set_option maxRecDepth 100000

theorem store_reach {w : World} {g : Nat} (h : Has w g ZREACH 37) : (Instr.storeAt 37 (.pointer (some ⟨g, 0, none⟩)) (.agg ZREACH)).run Tryd.prog w = .ok () (w.setRow g ZREACH) := by
  simp only [Instr.storeAt, Instr.sureAddr, Sem.run_bind, Sem.run_pure, Result.andThen]
  exact run_storeVar_row w g 37 37 ZREACH _ h info_reach rfl (by simp [go_sem, Value.oneCell'])
def SDR4OPS : Array Oper := #[{ dst := some 12, op := Op.build 37 #[], type := 37, pos := "span.go:55", after := #[], guard := none }, { dst := some 13, op := Op.fieldAddr 76 (Operand.tmp 4) 1, type := 0, pos := "span.go:55", after := #[{ on := 3, ground := Ground.gcOnly Departure.lateStores }], guard := none }, { dst := some 14, op := Op.load 24 (Operand.tmp 13), type := 24, pos := "span.go:55", after := #[{ on := 1, ground := Ground.data }, { on := 3, ground := Ground.gcOnly Departure.lateStores }], guard := none }, { dst := none, op := Op.store 37 (Operand.tmp 2) (Operand.tmp 12), type := 0, pos := "span.go:55", after := #[{ on := 0, ground := Ground.data }, { on := 0, ground := Ground.phase }, { on := 1, ground := Ground.textOnly Departure.lateStores }, { on := 2, ground := Ground.textOnly Departure.lateStores }], guard := none }, { dst := some 3, op := Op.assign (Operand.tmp 14), type := 24, pos := "span.go:55", after := #[{ on := 2, ground := Ground.data }, { on := 3, ground := Ground.chain }, { on := 0, ground := Ground.phase }, { on := 1, ground := Ground.phase }, { on := 2, ground := Ground.phase }, { on := 3, ground := Ground.phase }], guard := none }]
set_option maxHeartbeats 2000000 in
theorem sdec4 {Q : Exit → Act → World → Prop} {u0 u1 u3 u5 u6 u7 u8 u9 u10 u11 u12 u13 u14 u15 : Value} (W : World) (b1 rb : Nat) (E : Int) (P0 P1 : World → Prop) (h0 : P0 W.drew) (t0 : ∀ w, P0 w → (fun w : World => w.cell? ⟨rb, 1, none⟩ = some (.int .i64 E)) w) (t1 : ∀ w, P1 w → (fun w : World => w.cell? ⟨rb, 1, none⟩ = some (.int .i64 E)) w) (g0 : ∀ w, P0 w → Has w b1 ZREACH 37) (st : ∀ w, P0 w → P1 (w.setRow b1 ZREACH)) (hQ : ∀ c (a : Act) (t : Tmp) (v : Value) w, Q (.panic c) (a.put (some t) v) w → Q (.panic c) a w)
    (hfin : ∀ (w : World), (P1 w) → Q .normal { tmps := #[u0, u1, .pointer (some ⟨b1, 0, none⟩), .int .i64 E, .pointer (some ⟨rb, 0, none⟩), u5, u6, u7, u8, u9, u10, u11, .agg ZREACH, .pointer (some ⟨rb, 1, none⟩), .int .i64 E, u15], defers := [] } w) : (Code.region 4 SDR4OPS true).wp Tryd.prog Q { tmps := #[u0, u1, .pointer (some ⟨b1, 0, none⟩), u3, .pointer (some ⟨rb, 0, none⟩), u5, u6, u7, u8, u9, u10, u11, u12, u13, u14, u15], defers := [] } W := by
  have kst3 : ∀ (w : World), (P1 w) → wpAnyH Tryd.prog .any SDR4OPS Q (fun w : World => w.cell? ⟨rb, 1, none⟩ = some (.int .i64 E)) 0 #[true, true, true, true, true] { tmps := #[u0, u1, .pointer (some ⟨b1, 0, none⟩), .int .i64 E, .pointer (some ⟨rb, 0, none⟩), u5, u6, u7, u8, u9, u10, u11, .agg ZREACH, .pointer (some ⟨rb, 1, none⟩), .int .i64 E, u15], defers := [] } w := fun  w hp => by
    exact wpAnyH_done (by kernel_rfl) (hfin  w hp) _
  have ekst_3 : ∀ (w : World), (P1 w) → wpAnyH Tryd.prog .any SDR4OPS Q (fun w : World => w.cell? ⟨rb, 1, none⟩ = some (.int .i64 E)) 1 #[true, true, true, true, false] { tmps := #[u0, u1, .pointer (some ⟨b1, 0, none⟩), u3, .pointer (some ⟨rb, 0, none⟩), u5, u6, u7, u8, u9, u10, u11, .agg ZREACH, .pointer (some ⟨rb, 1, none⟩), .int .i64 E, u15], defers := [] } w := fun  w hp => by
    have hww : (fun w : World => w.cell? ⟨rb, 1, none⟩ = some (.int .i64 E)) w := t1 _ hp
    have last := kst3  w hp
    refine wpAnyH_take (i := 4) (oi := { dst := some 3, op := Op.assign (Operand.tmp 14), type := 24, pos := "span.go:55", after := #[{ on := 2, ground := Ground.data }, { on := 3, ground := Ground.chain }, { on := 0, ground := Ground.phase }, { on := 1, ground := Ground.phase }, { on := 2, ground := Ground.phase }, { on := 3, ground := Ground.phase }], guard := none }) (v := .int .i64 E) rfl (by kernel_rfl) (by kernel_rfl) (by kernel_rfl) (fun _ _ _ h => hQ _ _ _ _ _ h) (Yields.yieldsIf (Or.inl ⟨by rfl, fun W => by go_simp⟩)) hww ?_
    simp only [Act.put, List.setIfInBounds_toArray, List.set_cons_zero, List.set_cons_succ]
    exact last
  have kst : ∀ (w : World), (P0 w) → wpAnyH Tryd.prog .any SDR4OPS Q (fun w : World => w.cell? ⟨rb, 1, none⟩ = some (.int .i64 E)) 2 #[true, true, true, false, false] { tmps := #[u0, u1, .pointer (some ⟨b1, 0, none⟩), u3, .pointer (some ⟨rb, 0, none⟩), u5, u6, u7, u8, u9, u10, u11, .agg ZREACH, .pointer (some ⟨rb, 1, none⟩), .int .i64 E, u15], defers := [] } w := fun  w hp => by
    refine wpAnyH_ready (rs := [3]) (by kernel_rfl) (by simp) ?_
    refine AllReadyH.cons (o := { dst := none, op := Op.store 37 (Operand.tmp 2) (Operand.tmp 12), type := 0, pos := "span.go:55", after := #[{ on := 0, ground := Ground.data }, { on := 0, ground := Ground.phase }, { on := 1, ground := Ground.textOnly Departure.lateStores }, { on := 2, ground := Ground.textOnly Departure.lateStores }], guard := none }) rfl (fun KQ hKQ => ?_) ?_
    · exact step_skip rfl (run_skip (store_reach (g0 _ hp))) (have hp : (fun (w : World) => (P1 w))  _ := st _ hp; hKQ.out _ _ (t1 _ hp) (fun _ => ekst_3  _ hp))
    exact AllReadyH.nil
  have hp := h0
  have hww : (fun w : World => w.cell? ⟨rb, 1, none⟩ = some (.int .i64 E)) W.drew := t0 _ hp
  have last := kst W.drew hp
  have z : wpAnyH Tryd.prog .any SDR4OPS Q (fun w : World => w.cell? ⟨rb, 1, none⟩ = some (.int .i64 E)) 5 #[false, false, false, false, false] { tmps := #[u0, u1, .pointer (some ⟨b1, 0, none⟩), u3, .pointer (some ⟨rb, 0, none⟩), u5, u6, u7, u8, u9, u10, u11, u12, u13, u14, u15], defers := [] } W.drew := by
    refine wpAnyH_take (i := 0) (oi := { dst := some 12, op := Op.build 37 #[], type := 37, pos := "span.go:55", after := #[], guard := none }) (v := .agg ZREACH) rfl (by kernel_rfl) (by kernel_rfl) (by kernel_rfl) (fun _ _ _ h => hQ _ _ _ _ _ h) (Or.inl ⟨by rfl, fun w hw => by have hx : Tryd.prog.built 37 [] = some ZREACH := (by kernel_rfl); go_simp⟩) hww ?_
    simp only [Act.put, List.setIfInBounds_toArray, List.set_cons_zero, List.set_cons_succ]
    refine wpAnyH_take (i := 1) (oi := { dst := some 13, op := Op.fieldAddr 76 (Operand.tmp 4) 1, type := 0, pos := "span.go:55", after := #[{ on := 3, ground := Ground.gcOnly Departure.lateStores }], guard := none }) (v := .pointer (some ⟨rb, 1, none⟩)) rfl (by kernel_rfl) (by kernel_rfl) (by kernel_rfl) (fun _ _ _ h => hQ _ _ _ _ _ h) (Yields.yieldsIf (Or.inl ⟨by rfl, fun W => by go_simp⟩)) hww ?_
    simp only [Act.put, List.setIfInBounds_toArray, List.set_cons_zero, List.set_cons_succ]
    refine wpAnyH_take (i := 2) (oi := { dst := some 14, op := Op.load 24 (Operand.tmp 13), type := 24, pos := "span.go:55", after := #[{ on := 1, ground := Ground.data }, { on := 3, ground := Ground.gcOnly Departure.lateStores }], guard := none }) (v := .int .i64 E) rfl (by kernel_rfl) (by kernel_rfl) (by kernel_rfl) (fun _ _ _ h => hQ _ _ _ _ _ h) (Or.inl ⟨by rfl, fun w hw => by have hx := hw; go_simp⟩) hww ?_
    simp only [Act.put, List.setIfInBounds_toArray, List.set_cons_zero, List.set_cons_succ]
    exact last
  exact wp_region_held_drew (S := (fun w : World => w.cell? ⟨rb, 1, none⟩ = some (.int .i64 E))) (by kernel_rfl) hww (fun _ => z)
end Go.Proofs.YtmkgldjocigffaaDoor

/- Decode of package span. -/
namespace Go.Proofs.YtmkgldjocigffaaDoor
open Go.RowKit
set_option maxRecDepth 100000

theorem info_rdr20 : (Tryd.prog.info? 76).map (·.size) = some 2 := by kernel_rfl
/-- what Decode answers: an error, a proof; its nodes in a list of one's own. -/
def DECS (w : World) (A : SANS) (e : Ending) (w' : World) : Prop := ∃ a c, e = .returned (.tuple #[.agg #[.int .u64 (A.2.1 : Int), .int .u64 (A.2.2.1 : Int), .int .u64 (A.2.2.2.1 : Int), .slice a A.2.2.2.2.1 c], .int .i64 A.1]) ∧ w'.ownsRow w.heap.size 60 32 (.slice a A.2.2.2.2.1 c) A.2.2.2.2.1 (CELLS A.2.2.2.2.2) ∧ Below w.heap.size w w'
set_option maxHeartbeats 8000000 in
theorem spandecode_ok (x : Option Addr) (n c : Nat) (l : List Int) (w : World) (hB : Bytes w x n l) (hc : n ≤ c) (hn : n ≤ 1000000) (hT : Tabled w) (h0 : 0 < w.heap.size) : Calls Tryd.prog 21 #[.slice x n c] w (DECS w (SDEC l)) := by
  obtain ⟨w1, e1⟩ : ∃ w1, w.alloc (.cells ZREACH 37) = w1 := ⟨_, rfl⟩
  obtain ⟨w2, e2⟩ : ∃ w2, w1.alloc (.cells #[.slice x n c, .int .i64 0] 76) = w2 := ⟨_, rfl⟩
  have s1 : w1.heap.size = w.heap.size + 1 := by rw [← e1]; simp
  have s2 : w2.heap.size = w.heap.size + 2 := by rw [← e2]; simp; omega
  have hb1 : Below w.heap.size w w1 := by rw [← e1]; exact (Below.refl _ _).alloc (Nat.le_refl _) _
  have hb2 : Below w.heap.size w w2 := by rw [← e2]; exact hb1.alloc (by omega) _
  have H1 : Has w2 w.heap.size ZREACH 37 := by rw [← e2, ← e1]; exact (Has.new w _ _).alloc _
  have H2 : Has w2 w1.heap.size #[.slice x n c, .int .i64 0] 76 := by rw [← e2]; exact Has.new w1 _ _
  have hl : l.length = n := hB.1
  have R2 : RD20 w w2 w1.heap.size 0 l := ⟨⟨x, c, by rw [hl]; exact H2, by rw [← hl] at hB; exact ⟨hB, by omega, by omega⟩⟩, hb2, by omega⟩
  have cp := sproof_ok R2 hT h0
  have HR : Aside (Below w.heap.size w w2 ∧ Has w2 w.heap.size ZREACH 37 ∧ w1.heap.size = w.heap.size + 1 ∧ w2.heap.size = w.heap.size + 2) := ⟨hb2, H1, s1, s2⟩
  clear s1 s2 hb1 hb2 H1 H2 hl R2 hT h0 hB hc hn
  have infoR : (Tryd.prog.info? 76).map (·.size) = some (#[Value.slice x n c, .int .i64 0] : Array Value).size := info_rdr20
  go_enter Tryd.func21, Tryd.ntmps21
  go_wp2_with (first
    | (refine wpList_store_row rfl 76 (.tmp 4) (.tmp 7) rfl _ _ rfl rfl 76 _ (Has.new w1 _ _) infoR rfl (by simp [Value.oneCell']) ?_; rw [World.setRow_alloc_new, e2]))
  refine cp.mono ?_
  rintro e w3 ⟨S, F, T, K, c3, a3, E, ll, t', rfl, d1, d2, hown, R3, ST3⟩
  clear cp e1 e2 infoR
  obtain ⟨w4, e4⟩ : ∃ w4, w3.alloc (.cells #[.int .u64 (S : Int), .int .u64 (F : Int), .int .u64 (T : Int), .slice a3 K c3] 37) = w4 := ⟨_, rfl⟩
  have infoM : (Tryd.prog.info? 37).map (·.size) = some (#[Value.int .u64 (S : Int), .int .u64 (F : Int), .int .u64 (T : Int), .slice a3 K c3] : Array Value).size := info_reach
  have sizeM : ZREACH.size = (#[Value.int .u64 (S : Int), .int .u64 (F : Int), .int .u64 (T : Int), .slice a3 K c3] : Array Value).size := rfl
  have allM : (#[Value.int .u64 (S : Int), .int .u64 (F : Int), .int .u64 (T : Int), .slice a3 K c3] : Array Value).all (·.oneCell') = true := by simp [Value.oneCell']
  have hb4 : Below w3.heap.size w3 w4 := by rw [← e4]; exact (Below.refl _ _).alloc (Nat.le_refl _) _
  have hrs : w1.heap.size < w3.heap.size := R3.lt
  have hw3 : Below w.heap.size w w3 := R3.bel
  have W4 : Aside (RD20 w w4 w1.heap.size E t' ∧ Has w4 w.heap.size ZREACH 37 ∧ Has w4 w3.heap.size #[.int .u64 (S : Int), .int .u64 (F : Int), .int .u64 (T : Int), .slice a3 K c3] 37 ∧ w4.ownsRow w2.heap.size 60 32 (.slice a3 K c3) K (CELLS ll) ∧ Below w.heap.size w w4 ∧ w.heap.size < w1.heap.size ∧ w1.heap.size < w3.heap.size ∧ w1.heap.size < w2.heap.size) := ⟨R3.keep hb4, (ST3.has HR.out.2.1 (by have := HR.out.2.2.1; omega)).keep hb4, by rw [← e4]; exact Has.new w3 _ _, own_below hown hb4, hw3.trans (hb4.mono hw3.size), by have := HR.out.2.2.1; omega, hrs, by have := HR.out; omega⟩
  have x1 : w4.cell? ⟨w1.heap.size, 1, none⟩ = some (.int .i64 E) := by
    obtain ⟨_, _, h, _⟩ := W4.out.1.rd
    exact h.cell 1
  have DD : Aside ((E ≠ 0 → SDEC l = SERR E) ∧ (E = 0 → SDEC l = (0, S, F, T, K, ll))) := ⟨d1, d2⟩
  have MM : Aside ((Tryd.prog.info? 37).map (·.size) = some (#[Value.int .u64 (S : Int), .int .u64 (F : Int), .int .u64 (T : Int), .slice a3 K c3] : Array Value).size ∧ ZREACH.size = (#[Value.int .u64 (S : Int), .int .u64 (F : Int), .int .u64 (T : Int), .slice a3 K c3] : Array Value).size ∧ (#[Value.int .u64 (S : Int), .int .u64 (F : Int), .int .u64 (T : Int), .slice a3 K c3] : Array Value).all (·.oneCell') = true) := ⟨infoM, sizeM, allM⟩
  clear d1 d2 hown R3 ST3 hb4 hrs hw3 sizeM allM HR
  by_cases hE : E = 0
  · subst hE
    have FN : Aside (∀ e, e = .returned (.tuple #[.agg #[.int .u64 (S : Int), .int .u64 (F : Int), .int .u64 (T : Int), .slice a3 K c3], .int .i64 0]) → DECS w (SDEC l) e (w4.setRow w.heap.size #[.int .u64 (S : Int), .int .u64 (F : Int), .int .u64 (T : Int), .slice a3 K c3])) := by
      rintro e rfl
      rw [DD.out.2 rfl]
      refine ⟨a3, c3, rfl, ?_, below_row W4.out.2.2.2.2.1 (Nat.le_refl _) _⟩
      exact own_mono (own_hold9 W4.out.2.2.2.1 fun k e => setRow_other _ _ _ _ (by have h1 := (W4.out.2.2.2.1.lt k e).1; have := W4.out.2.2.2.2.2; omega)) (by have := W4.out.2.2.2.2.2; omega)
    have WW : Aside (Has w4 w3.heap.size #[.int .u64 (S : Int), .int .u64 (F : Int), .int .u64 (T : Int), .slice a3 K c3] 37 ∧ Has w4 w.heap.size ZREACH 37) := ⟨W4.out.2.2.1, W4.out.2.1⟩
    clear W4 DD
    go_wp2_with (first
      | (refine wpList_store_row rfl 37 (.tmp 5) (.tmp 8) rfl _ _ rfl rfl 37 ZREACH (Has.new w3 _ _) MM.out.1 MM.out.2.1 MM.out.2.2 ?_; rw [World.setRow_alloc_new, e4])
      | (refine wpList_load_row rfl 37 (.tmp 5) rfl w3.heap.size rfl 37 #[.int .u64 (S : Int), .int .u64 (F : Int), .int .u64 (T : Int), .slice a3 K c3] (0, 0) _ WW.out.1 Tryd.underlying37 rfl MM.out.1 ?_)
      | (refine wpList_store_row rfl 37 (.tmp 2) (.tmp 15) rfl _ _ rfl rfl 37 ZREACH WW.out.2 MM.out.1 MM.out.2.1 MM.out.2.2 ?_))
    refine bodyPost_ret (v := .tuple #[.agg #[.int .u64 (S : Int), .int .u64 (F : Int), .int .u64 (T : Int), .slice a3 K c3], .int .i64 0]) ?_ rfl (FN.out _ rfl)
    rw [results_cell_tmp rfl]
    have hrow := WW.out.2.row #[.int .u64 (S : Int), .int .u64 (F : Int), .int .u64 (T : Int), .slice a3 K c3]
    simp [asAddr, run_loadVar_row _ w.heap.size 37 37 _ (0, 0) _ hrow Tryd.underlying37 rfl MM.out.1]
  · have hne : (E != 0) = true := by simp [hE]
    have FN : Aside (∀ e, e = .returned (.tuple #[.agg #[.int .u64 0, .int .u64 0, .int .u64 0, .slice none 0 0], .int .i64 E]) → DECS w (SDEC l) e (w4.drew.setRow w.heap.size ZREACH)) := by
      rintro e rfl
      rw [DD.out.1 hE]
      exact ⟨none, 0, rfl, own_noneh _ _, below_row W4.out.2.2.2.2.1.drew (Nat.le_refl _) _⟩
    have WW : Aside (Has w4 w.heap.size ZREACH 37 ∧ w4.cell? ⟨w1.heap.size, 1, none⟩ = some (.int .i64 E) ∧ w.heap.size < w1.heap.size) := ⟨W4.out.2.1, x1, W4.out.2.2.2.2.2.1⟩
    clear W4 DD hE
    go_upto_region 4 with (first
      | (refine wpList_store_row rfl 37 (.tmp 5) (.tmp 8) rfl _ _ rfl rfl 37 ZREACH (Has.new w3 _ _) MM.out.1 MM.out.2.1 MM.out.2.2 ?_; rw [World.setRow_alloc_new, e4]))
    refine sdec4 w4 w.heap.size w1.heap.size E (fun w => w = w4.drew) (fun w8 => w8 = w4.drew.setRow w.heap.size ZREACH) rfl ?_ ?_ ?_ ?_ (fun _ _ _ _ _ h => h) ?_
    case refine_1 => rintro w8 rfl; exact WW.out.2.1
    case refine_2 =>
      rintro w8 rfl
      refine (World.cell?_of_block (w := w4) ?_).trans WW.out.2.1
      exact setRow_other w4.drew _ _ _ (by show w1.heap.size ≠ w.heap.size; have := WW.out.2.2; omega)
    case refine_3 => rintro w8 rfl; exact WW.out.1
    case refine_4 => rintro w8 rfl; rfl
    rintro w8 rfl
    go_wp2_with fail
    refine bodyPost_ret (v := .tuple #[.agg #[.int .u64 0, .int .u64 0, .int .u64 0, .slice none 0 0], .int .i64 E]) ?_ rfl (FN.out _ rfl)
    rw [results_cell_tmp rfl]
    have hrow := (show Has w4.drew w.heap.size ZREACH 37 from WW.out.1).row ZREACH
    simp [asAddr, run_loadVar_row _ w.heap.size 37 37 _ (0, 0) _ hrow Tryd.underlying37 rfl info_reach]
end Go.Proofs.YtmkgldjocigffaaDoor
