/- Texts of SpanBytes, one behind the other: SpanRoundPlain, ManyFaceE, ManyEncode, ManyRefEncode, ManyFaceD, ManyDecode, ManyRefDecode, SpanRefDecode. -/
import Derived.Test.YtmkgldjocigffaaDoorSpanBytesP17
/- What is written is read back, and what is read is written the same: plain. -/
namespace Go.Proofs.YtmkgldjocigffaaDoor
set_option maxRecDepth 100000

theorem SNE_back {t : List Int} {most : Nat} {bey : Int} (hb : bey ≠ 0) (hr : ∀ x ∈ t, 0 ≤ x ∧ x ≤ 255) (h : SNE t most bey = 0) : ∃ X : Nat, X ≤ most ∧ X < 2 ^ 64 ∧ (LNG t).1.toNat = X ∧ t = SHORT X ++ t.drop (LNG t).2.1.toNat := by
  unfold SNE at h
  by_cases h3 : (LNG t).2.2 = 0
  · rw [if_pos h3] at h
    obtain ⟨Z, m, q1, q2, q3, q4, q5⟩ := LNG_back hr h3
    rw [q4] at h
    by_cases hz : (most : Int) < (Z : Int)
    · rw [if_pos hz] at h
      exact absurd h hb
    · refine ⟨Z, by omega, q1, by rw [q4]; exact Int.toNat_natCast Z, ?_⟩
      rw [q4, q5]
      show t = t.take m ++ t.drop ((m : Int)).toNat
      rw [Int.toNat_natCast, List.take_append_drop]
  · rw [if_neg h3] at h
    exact absurd h h3
/-- an error, or what was written. -/
theorem SDEC_cases {l : List Int} (hr : ∀ x ∈ l, 0 ≤ x ∧ x ≤ 255) : (∃ E, E ≠ 0 ∧ SDEC l = SERR E) ∨ (∃ S F T K t, SDEC l = (0, S, F, T, K, t) ∧ SWA S F T K = 0 ∧ t.length = 32 * K ∧ l = SWRT S F (T - F) t) := by
  by_cases hk : (K20 l).1 = 0
  · have hl : l ≠ [] := fun e => by rw [e] at hk; cases hk
    cases l with
    | nil => exact absurd rfl hl
    | cons x u =>
      have hx : x = 83 := by
        unfold K20 at hk
        rw [if_neg (by simp)] at hk
        by_cases hx : x = 83
        · exact hx
        · rw [if_pos (by simpa using hx)] at hk
          cases hk
      subst hx
      have hK : K20 (83 :: u) = (0, u) := by
        unfold K20
        rw [if_neg (by simp), if_neg (by simp)]
        rfl
      have hru : ∀ y ∈ u, 0 ≤ y ∧ y ≤ 255 := fun y hy => hr y (List.mem_cons_of_mem _ hy)
      have d0 : SDEC (83 :: u) = SD0 u := by
        unfold SDEC
        rw [hK, if_neg (by simp)]
      rw [d0]
      by_cases e1 : SNE u 4611686018427387904 30 = 0
      · obtain ⟨S, p1, p2, p3, p4⟩ := SNE_back (by decide) hru e1
        have d1 : SD0 u = SD1 S (u.drop (LNG u).2.1.toNat) := by
          unfold SD0
          rw [if_neg (by simp [e1]), p3]
        rw [d1]
        have hr1 : ∀ y ∈ u.drop (LNG u).2.1.toNat, 0 ≤ y ∧ y ≤ 255 := fun y hy => hru y (List.mem_of_mem_drop hy)
        generalize u.drop (LNG u).2.1.toNat = u1 at *
        by_cases e2 : SNE u1 S 32 = 0
        · obtain ⟨F, q1, q2, q3, q4⟩ := SNE_back (by decide) hr1 e2
          have d2 : SD1 S u1 = SD2 S F (u1.drop (LNG u1).2.1.toNat) := by
            unfold SD1
            rw [if_neg (by simp [e2]), q3]
          rw [d2]
          have hr2 : ∀ y ∈ u1.drop (LNG u1).2.1.toNat, 0 ≤ y ∧ y ≤ 255 := fun y hy => hr1 y (List.mem_of_mem_drop hy)
          generalize u1.drop (LNG u1).2.1.toNat = u2 at *
          by_cases e3 : SNE u2 (S - F) 32 = 0
          · obtain ⟨X, r1, r2, r3, r4⟩ := SNE_back (by decide) hr2 e3
            have d3 : SD2 S F u2 = SD3 S F (F + X) (u2.drop (LNG u2).2.1.toNat) := by
              unfold SD2
              rw [if_neg (by simp [e3]), r3]
            rw [d3]
            generalize u2.drop (LNG u2).2.1.toNat = u3 at *
            unfold SD3
            by_cases c1 : u3.length < 32 * (SPP F (F + X) S).length
            · rw [if_pos c1]
              exact .inl ⟨11, by decide, rfl⟩
            · by_cases c2 : 32 * (SPP F (F + X) S).length < u3.length
              · rw [if_neg c1, if_pos c2]
                exact .inl ⟨13, by decide, rfl⟩
              · rw [if_neg c1, if_neg c2]
                refine .inr ⟨S, F, F + X, _, u3, rfl, ?_, by omega, ?_⟩
                · unfold SWA
                  have : SPE F (F + X) S = 0 := by unfold SPE; rw [if_neg (by omega), if_neg (by omega)]
                  rw [this, if_pos rfl, if_pos rfl]
                · unfold SWRT
                  rw [show F + X - F = X by omega, List.append_assoc, List.append_assoc, ← r4, ← q4, ← p4]
          · exact .inl ⟨_, e3, by unfold SD2; rw [if_pos e3]⟩
        · exact .inl ⟨_, e2, by unfold SD1; rw [if_pos e2]⟩
      · exact .inl ⟨_, e1, by unfold SD0; rw [if_pos e1]⟩
  · exact .inl ⟨_, hk, by unfold SDEC; rw [if_pos hk]⟩
theorem SWRT_range {S F T : Nat} {l : List Int} (hS : S < 2 ^ 64) (hF : F < 2 ^ 64) (hT : T < 2 ^ 64) (hl : ∀ x ∈ l, 0 ≤ x ∧ x ≤ 255) : ∀ x ∈ SWRT S F (T - F) l, 0 ≤ x ∧ x ≤ 255 := fun x h => by
  unfold SWRT at h
  rcases List.mem_cons.1 h with h | h
  · subst h; decide
  · rcases List.mem_append.1 h with h | h
    · rcases List.mem_append.1 h with h | h
      · rcases List.mem_append.1 h with h | h
        · exact SHORT_range hS x h
        · exact SHORT_range hF x h
      · exact SHORT_range (X := T - F) (by omega) x h
    · exact hl x h
theorem SWRT_length (S F D : Nat) (l : List Int) : (SWRT S F D l).length ≤ 31 + l.length := by
  unfold SWRT
  have h1 := SHORT_length S
  have h2 := SHORT_length F
  have h3 := SHORT_length D
  have g1 := NTOP_le S
  have g2 := NTOP_le F
  have g3 := NTOP_le D
  simp only [List.length_cons, List.length_append]
  omega
end Go.Proofs.YtmkgldjocigffaaDoor

/- face of package many, with the doing of Encode. -/
namespace Go.Proofs.YtmkgldjocigffaaDoor
open Go.RowKit
set_option maxRecDepth 100000

end Go.Proofs.YtmkgldjocigffaaDoor

/- Encode of package many. -/
namespace Go.Proofs.YtmkgldjocigffaaDoor
open Go.RowKit
set_option maxRecDepth 100000

theorem own_cut {w : World} {B s n : Nat} {t : TypeId} {v : Value} {xs : List Value} (h : w.ownsRow B t s v n xs) : ∃ a c, v = .slice a n c := by
  rcases h.2 with ⟨e, h0⟩ | ⟨g, cap, cur, e, _⟩
  · exact ⟨none, 0, by rw [e, h0]⟩
  · exact ⟨_, _, e⟩
/-- what the doing of Encode leaves. -/
structure ENCD (w w' : World) (b1 : Nat) (Z : List Int) : Prop where
  row : ∃ v, Has w' b1 #[v] 38 ∧ w'.ownsRow w.heap.size 5 1 v Z.length (CELLS Z)
  keep : ∀ b, b < w.heap.size → b ≠ b1 → w'.heap[b]? = w.heap[b]?
  below : Below b1 w w'
end Go.Proofs.YtmkgldjocigffaaDoor

/- massifref10.Encode: the bytes of a proof of many leaves, as the document says them. -/
namespace Go.Proofs.YtmkgldjocigffaaDoor
open Go.RowKit
set_option maxRecDepth 100000

end Go.Proofs.YtmkgldjocigffaaDoor

/- face of package many, with the doing of Decode. -/
namespace Go.Proofs.YtmkgldjocigffaaDoor
open Go.RowKit
set_option maxRecDepth 100000

end Go.Proofs.YtmkgldjocigffaaDoor

/- Decode of package many. -/
namespace Go.Proofs.YtmkgldjocigffaaDoor
open Go.RowKit
set_option maxRecDepth 100000

/-- what Decode answers. -/
def DECM (w : World) (A : MANS) (e : Ending) (w' : World) : Prop :=
  ∃ a c a2 K c2, e = .returned (.tuple #[.agg #[.int .u64 (A.2.1 : Int), .slice a A.2.2.1.length c, .slice a2 K c2], .int .i64 A.1]) ∧ w'.ownsRow w.heap.size 22 1 (.slice a A.2.2.1.length c) A.2.2.1.length (UCELLS A.2.2.1) ∧ w'.ownsRow w.heap.size 60 32 (.slice a2 K c2) K (CELLS A.2.2.2) ∧ A.2.2.2.length = 32 * K ∧ Below w.heap.size w w'
end Go.Proofs.YtmkgldjocigffaaDoor

/- massifref10.Decode: what bytes read as, as the document says it. -/
namespace Go.Proofs.YtmkgldjocigffaaDoor
open Go.RowKit
set_option maxRecDepth 100000

/-- far too few bytes are left. -/
theorem take_far (a : Option Addr) (m c N : Nat) (hm : m ≤ 1000000) (hs : m < 32 * N) (w : World) :
    Calls Tryd.prog 44 #[.slice a m c, .int .i64 (N : Int)] w fun e w' => e = .returned (.tuple #[.slice none 0 0, .int .i64 11]) ∧ w = w' := by
  have q1 : IntKind.i64.wrap ((m : Int) / 32) = (m : Int) / 32 := by rw [IntKind.wrap_i64]; omega
  have q2 : (m : Int).tdiv 32 = (m : Int) / 32 := Int.tdiv_eq_ediv_of_nonneg (by omega)
  have k1 : (m : Int) / 32 < (N : Int) := by omega
  clear hm hs
  go_enter Tryd.func44, Tryd.ntmps44
  go_wp2
  go_ret2
  exact ⟨rfl, rfl⟩
theorem take_any (a : Option Addr) (m c N : Nat) (hm : m ≤ 16000) (hN : N < 2 ^ 40) (t : List Int) (w : World) (hB : Bytes w a m t) :
    Calls Tryd.prog 44 #[.slice a m c, .int .i64 (N : Int)] w fun e w' => ∃ av cv, e = .returned (.tuple #[.slice av (TAKN t N).2.1 cv, .int .i64 (TAKN t N).1]) ∧ w'.ownsRow w.heap.size 60 32 (.slice av (TAKN t N).2.1 cv) (TAKN t N).2.1 (CELLS (TAKN t N).2.2) ∧ Below w.heap.size w w' := by
  by_cases h : N ≤ 1000
  · refine (take_ok a m c N (by omega) h t w hB).mono ?_
    rintro e w' ⟨v, rfl, ho, hb⟩
    obtain ⟨av, cv, rfl⟩ := own_cut ho
    exact ⟨av, cv, rfl, ho, hb⟩
  · have hs : m < 32 * N := by omega
    have e1 : TAKN t N = (11, 0, []) := by unfold TAKN; rw [if_pos (by rw [hB.1]; exact hs)]
    rw [e1]
    refine (take_far a m c N (by omega) hs w).mono ?_
    rintro e w' ⟨rfl, rfl⟩
    exact ⟨none, 0, rfl, nil_hashes _ _, Below.refl _ _⟩
/-- an error is answered. -/
theorem DECM.die {w w' : World} {A : MANS} {E : Int} (hA : A = MERR E) (hb : Below w.heap.size w w') : DECM w A (.returned (.tuple #[.agg ZMANY, .int .i64 E])) w' := by
  rw [hA]
  exact ⟨none, 0, none, 0, 0, rfl, ⟨rfl, .inl ⟨rfl, rfl⟩⟩, nil_hashes _ _, rfl, hb⟩
end Go.Proofs.YtmkgldjocigffaaDoor

/- massifref20.Decode: what bytes read as, as the document says it. -/
namespace Go.Proofs.YtmkgldjocigffaaDoor
open Go.RowKit
set_option maxRecDepth 100000

theorem SD0_bad {t : List Int} (h : (LNG t).2.2 ≠ 0) : SD0 t = SERR (LNG t).2.2 := by
  have e : SNE t 4611686018427387904 30 = (LNG t).2.2 := by unfold SNE; rw [if_neg h]
  unfold SD0
  rw [e, if_pos h]
theorem SD1_bad {S : Nat} {t : List Int} (h : (LNG t).2.2 ≠ 0) : SD1 S t = SERR (LNG t).2.2 := by
  have e : SNE t S 32 = (LNG t).2.2 := by unfold SNE; rw [if_neg h]
  unfold SD1
  rw [e, if_pos h]
theorem SD2_bad {S F : Nat} {t : List Int} (h : (LNG t).2.2 ≠ 0) : SD2 S F t = SERR (LNG t).2.2 := by
  have e : SNE t (S - F) 32 = (LNG t).2.2 := by unfold SNE; rw [if_neg h]
  unfold SD2
  rw [e, if_pos h]
theorem SNE_far {t : List Int} {Z m most : Nat} {bey : Int} (h : LNG t = ((Z : Int), (m : Int), 0)) (hz : most < Z) : SNE t most bey = bey := by
  unfold SNE
  rw [h, if_pos rfl, if_pos (by show (most : Int) < (Z : Int); omega)]
theorem SNE_near {t : List Int} {Z m most : Nat} {bey : Int} (h : LNG t = ((Z : Int), (m : Int), 0)) (hz : Z ≤ most) : SNE t most bey = 0 ∧ (LNG t).1.toNat = Z ∧ (LNG t).2.1.toNat = m := by
  refine ⟨?_, by rw [h]; exact Int.toNat_natCast Z, by rw [h]; exact Int.toNat_natCast m⟩
  unfold SNE
  rw [h, if_pos rfl, if_neg (by show ¬ (most : Int) < (Z : Int); omega)]
theorem SD0_far {t : List Int} {Z m : Nat} (h : LNG t = ((Z : Int), (m : Int), 0)) (hz : 4611686018427387904 < Z) : SD0 t = SERR 30 := by
  unfold SD0
  rw [SNE_far h hz, if_pos (by decide)]
theorem SD1_far {S : Nat} {t : List Int} {Z m : Nat} (h : LNG t = ((Z : Int), (m : Int), 0)) (hz : S < Z) : SD1 S t = SERR 32 := by
  unfold SD1
  rw [SNE_far h hz, if_pos (by decide)]
theorem SD2_far {S F : Nat} {t : List Int} {Z m : Nat} (h : LNG t = ((Z : Int), (m : Int), 0)) (hz : S - F < Z) : SD2 S F t = SERR 32 := by
  unfold SD2
  rw [SNE_far h hz, if_pos (by decide)]
theorem SD0_near {t : List Int} {Z m : Nat} (h : LNG t = ((Z : Int), (m : Int), 0)) (hz : Z ≤ 4611686018427387904) : SD0 t = SD1 Z (t.drop m) := by
  obtain ⟨a, b, c⟩ := SNE_near (bey := 30) h hz
  unfold SD0
  rw [a, if_neg (by simp), b, c]
theorem SD1_near {S : Nat} {t : List Int} {Z m : Nat} (h : LNG t = ((Z : Int), (m : Int), 0)) (hz : Z ≤ S) : SD1 S t = SD2 S Z (t.drop m) := by
  obtain ⟨a, b, c⟩ := SNE_near (bey := 32) h hz
  unfold SD1
  rw [a, if_neg (by simp), b, c]
theorem SD2_near {S F : Nat} {t : List Int} {Z m : Nat} (h : LNG t = ((Z : Int), (m : Int), 0)) (hz : Z ≤ S - F) : SD2 S F t = SD3 S F (F + Z) (t.drop m) := by
  obtain ⟨a, b, c⟩ := SNE_near (bey := 32) h hz
  unfold SD2
  rw [a, if_neg (by simp), b, c]
theorem SD3_take {S F T : Nat} {t : List Int} : SD3 S F T t = if (TAKN t (SPP F T S).length).1 = 0 then (0, S, F, T, (TAKN t (SPP F T S).length).2.1, (TAKN t (SPP F T S).length).2.2) else SERR (TAKN t (SPP F T S).length).1 := by
  unfold SD3 TAKN
  generalize (SPP F T S).length = M
  by_cases h1 : t.length < 32 * M
  · rw [if_pos h1, if_pos h1]; rfl
  · rw [if_neg h1, if_neg h1]
    by_cases h2 : 32 * M < t.length
    · rw [if_pos h2, if_pos h2]; rfl
    · rw [if_neg h2, if_neg h2]; rfl
/-- an error is answered. -/
theorem DECS.die {w w' : World} {A : SANS} {E : Int} (hA : A = SERR E) (hb : Below w.heap.size w w') : DECS w A (.returned (.tuple #[.agg ZREACH, .int .i64 E])) w' := by
  rw [hA]
  exact ⟨none, 0, rfl, own_noneh _ _, hb⟩
theorem results_reach {fn : Func} {p u : Tmp} {ty : TypeId} (h : fn.results = #[.cell p ty, .tmp u]) (tmps : Array Value) (w : World) (g : Nat) (C : Array Value) (v : Value) (hC : C.size = 4) (hty : ty = 37) (hp : tmps.getD p undef = .pointer (some ⟨g, 0, none⟩)) (hu : tmps.getD u undef = v) (hg : Has w g C 37) : (results fn tmps).run Tryd.prog w = .ok (.tuple #[.agg C, v]) w := by
  subst hty
  rw [results_cell_tmp h, hp, hu]
  have hi : (Tryd.prog.info? 37).map (·.size) = some C.size := by rw [hC]; exact info_reach
  simp [asAddr, run_loadVar_row _ g 37 37 _ (0, 0) _ hg Tryd.underlying37 rfl hi]
theorem wrap_at20 {x y : Nat} (h : x + y ≤ 1000000) : wrap64 ((x : Int) + (y : Int)) = ((x + y : Nat) : Int) := by unfold wrap64; omega
set_option maxHeartbeats 16000000 in
theorem srefdecode_ok (a : Option Addr) (n c : Nat) (l : List Int) (w : World) (hB : Bytes w a n l) (hc : n ≤ c) (hn : n ≤ 16000) : Calls Tryd.prog 20 #[.slice a n c] w (DECS w (SDEC l)) := by
  obtain ⟨w1, e1⟩ : ∃ w1, w.alloc (.cells ZREACH 37) = w1 := ⟨_, rfl⟩
  have hb1 : Below w.heap.size w w1 := by rw [← e1]; exact (Below.refl _ _).alloc (Nat.le_refl _) _
  have h1 : Has w1 w.heap.size ZREACH 37 := by rw [← e1]; exact Has.new w _ _
  have HR : Aside (Has w1 w.heap.size ZREACH 37 ∧ Below w.heap.size w w1 ∧ Bytes w1 a n l ∧ n ≤ c ∧ n ≤ 16000 ∧ l.length = n) := ⟨h1, hb1, hB.below hb1, hc, hn, hB.1⟩
  have BK : Aside (∀ W, Has W w.heap.size ZREACH 37 → Below w.heap.size w W → ∀ {A : SANS} {E : Int}, A = SERR E → DECS w A (.returned (.tuple #[.agg ZREACH, .int .i64 E])) (W.setRow w.heap.size ZREACH)) := fun W hW hb A E hA => DECS.die hA (below_row hb (Nat.le_refl _) _)
  have iM : Aside ((Tryd.prog.info? 37).map (·.size) = some ZREACH.size ∧ ZREACH.all (·.oneCell') = true) := ⟨info_reach, by simp [Value.oneCell']⟩
  clear hb1 h1 hB hc hn
  rcases Nat.eq_zero_or_pos n with hn | hn
  · obtain rfl : l = [] := List.eq_nil_of_length_eq_zero (by rw [HR.out.2.2.2.2.2]; exact hn)
    have FE : Aside (SDEC [] = SERR 11) := show SDEC [] = SERR 11 by decide
    subst hn
    go_enter Tryd.func20, Tryd.ntmps20
    go_wp2_with (first
      | (refine wpList_store_row rfl 37 (.tmp 2) (.tmp 16) rfl _ _ rfl rfl 37 ZREACH HR.out.1 iM.out.1 rfl iM.out.2 ?_))
    refine bodyPost_ret (v := .tuple #[.agg ZREACH, .int .i64 11]) (results_reach rfl _ _ w.heap.size _ _ rfl rfl rfl rfl (HR.out.1.row _)) rfl (BK.out w1 HR.out.1 HR.out.2.1 FE.out)
  · obtain ⟨b, off, rfl, hbl, hcs⟩ := HR.out.2.2.1.2.1 hn
    have hn0 : ¬ (n : Int) = 0 := by omega
    have hn1 : (0 : Int) < (n : Int) := by omega
    have xx : w1.cell? ⟨b, off, none⟩ = some (.int .u8 (l.getD 0 0)) := by have := hcs 0 hn; rw [Nat.add_zero] at this; exact this
    by_cases hx : l.getD 0 0 = 83
    · rw [hx] at xx
      have LN : l.length = n := HR.out.2.2.2.2.2
      have FE0 : Aside (SDEC l = SD0 (l.drop 1)) := by
        show SDEC l = SD0 (l.drop 1)
        have hK : K20 l = (0, l.drop 1) := by unfold K20; rw [if_neg (by omega), if_neg (fun h => h hx)]
        unfold SDEC
        rw [hK, if_neg (by simp)]
      have LG1 : Aside (∀ k, k ≤ n → Calls Tryd.prog 43 #[.slice (REST b off c k) (n - k) (c - k)] w1 fun e w' => e = .returned (.tuple #[.int .u64 (LNG (l.drop k)).1, .int .i64 (LNG (l.drop k)).2.1, .int .i64 (LNG (l.drop k)).2.2]) ∧ w1 = w') := fun k hk => by
        have hb := HR.out.2.2.1.behind k hk HR.out.2.2.2.1
        have h1 := reflong_ok (REST b off c k) (n - k) (c - k) _ w1 hb (by have := HR.out.2.2.2.2.1; omega)
        unfold LNG
        rw [hb.1]
        exact h1
      have RG : Aside (∀ k, ∀ y ∈ l.drop k, 0 ≤ y ∧ y ≤ 255) := fun k y hy => HR.out.2.2.1.2.2 y (List.mem_of_mem_drop hy)
      have k1n : 1 ≤ n := hn
      have c1 := LG1.out 1 k1n
      have u1 : (l.drop 1).length = n - 1 := by rw [List.length_drop, LN]
      clear hcs hbl hx
      go_enter Tryd.func20, Tryd.ntmps20
      by_cases hl : (LNG (l.drop 1)).2.2 = 0
      · obtain ⟨Z, m, q1, q2, q3, q4, q5⟩ := LNG_back (RG.out 1) hl
        rw [q4] at c1
        dsimp only at c1
        have NB : Aside (n ≤ 16000 ∧ True) := ⟨HR.out.2.2.2.2.1, trivial⟩
        have wa := wrap_at20 (x := 1) (y := m) (by have := HR.out.2.2.2.2.1; omega)
        by_cases hZ : 4611686018427387904 < Z
        · have hZ' : (4611686018427387904 : Int) < (Z : Int) := by omega
          have FE : Aside (SDEC l = SERR 30) := by show SDEC l = SERR 30; rw [FE0.out]; exact SD0_far q4 hZ
          clear q1 q2 q3 q4 q5 hl wa u1 LN
          go_wp2_with (first
            | (refine slice_from _ rfl (.tmp 23) (.tmp 24) rfl b off n c 1 rfl rfl k1n HR.out.2.2.2.1 ?_))
          refine c1.mono ?_
          rintro e w2 ⟨rfl, rfl⟩
          clear c1 xx
          go_wp2_with (first
            | (refine wpList_store_row rfl 37 (.tmp 2) (.tmp 36) rfl _ _ rfl rfl 37 ZREACH HR.out.1 iM.out.1 rfl iM.out.2 ?_))
          refine bodyPost_ret (v := .tuple #[.agg ZREACH, .int .i64 30]) (results_reach rfl _ _ w.heap.size _ _ rfl rfl rfl rfl (HR.out.1.row _)) rfl (BK.out w1 HR.out.1 HR.out.2.1 FE.out)
        · have hZ' : ¬ (4611686018427387904 : Int) < (Z : Int) := by omega
          have FE1 : Aside (SDEC l = SD1 Z (l.drop (1 + m)) ∧ Z ≤ 4611686018427387904) := ⟨by rw [FE0.out, SD0_near q4 (by omega), List.drop_drop], by omega⟩
          obtain ⟨a1, ha1⟩ : ∃ a1, 1 + m = a1 := ⟨_, rfl⟩
          rw [ha1] at wa FE1
          replace wa : wrap64 ((1 : Int) + (m : Int)) = (a1 : Int) := wa
          have k2n : a1 ≤ n := by omega
          have c2 := LG1.out a1 k2n
          have u2 : (l.drop a1).length = n - a1 := by rw [List.length_drop, LN]
          clear q1 q2 q3 q4 q5 hl u1 ha1
          go_wp2_with (first
            | (refine slice_from _ rfl (.tmp 23) (.tmp 24) rfl b off n c 1 rfl rfl k1n HR.out.2.2.2.1 ?_))
          refine c1.mono ?_
          rintro e w2 ⟨rfl, rfl⟩
          clear c1 xx
          go_upto_region 12 with fail
          rw [wa]
          by_cases hl : (LNG (l.drop a1)).2.2 = 0
          · obtain ⟨Y, m2, q1, q2, q3, q4, q5⟩ := LNG_back (RG.out a1) hl
            rw [q4] at c2
            dsimp only at c2
            have wb := wrap_at20 (x := a1) (y := m2) (by have := NB.out.1; omega)
            by_cases hY : Z < Y
            · have hY' : (Z : Int) < (Y : Int) := by omega
              have FE : Aside (SDEC l = SERR 32) := by show SDEC l = SERR 32; rw [FE1.out.1]; exact SD1_far q4 hY
              clear q1 q2 q3 q4 q5 hl wa wb u2 LN hY
              go_wp2_with (first
                | (refine slice_from _ rfl (.tmp 41) (.tmp 42) rfl b off n c a1 rfl rfl k2n HR.out.2.2.2.1 ?_))
              refine c2.mono ?_
              rintro e w2 ⟨rfl, rfl⟩
              clear c2
              go_wp2_with (first
                | (refine wpList_store_row rfl 37 (.tmp 2) (.tmp 55) rfl _ _ rfl rfl 37 ZREACH HR.out.1 iM.out.1 rfl iM.out.2 ?_))
              refine bodyPost_ret (v := .tuple #[.agg ZREACH, .int .i64 32]) (results_reach rfl _ _ w.heap.size _ _ rfl rfl rfl rfl (HR.out.1.row _)) rfl (BK.out w1 HR.out.1 HR.out.2.1 FE.out)
            · have hY' : ¬ (Z : Int) < (Y : Int) := by omega
              have FE2 : Aside (SDEC l = SD2 Z Y (l.drop (a1 + m2)) ∧ Y ≤ Z) := ⟨by rw [FE1.out.1, SD1_near q4 (by omega), List.drop_drop], by omega⟩
              obtain ⟨a2, ha2⟩ : ∃ a2, a1 + m2 = a2 := ⟨_, rfl⟩
              rw [ha2] at wb FE2
              have k3n : a2 ≤ n := by omega
              have c3 := LG1.out a2 k3n
              have u3 : (l.drop a2).length = n - a2 := by rw [List.length_drop, LN]
              clear q1 q2 q3 q4 q5 hl u2 ha2 wa hY
              go_wp2_with (first
                | (refine slice_from _ rfl (.tmp 41) (.tmp 42) rfl b off n c a1 rfl rfl k2n HR.out.2.2.2.1 ?_))
              refine c2.mono ?_
              rintro e w2 ⟨rfl, rfl⟩
              clear c2
              go_upto_region 18 with fail
              rw [wb]
              have eg := u64_gap20 FE2.out.2 (show Z < 2 ^ 64 by have := FE1.out.2; omega)
              by_cases hl : (LNG (l.drop a2)).2.2 = 0
              · obtain ⟨X, m3, q1, q2, q3, q4, q5⟩ := LNG_back (RG.out a2) hl
                rw [q4] at c3
                dsimp only at c3
                have wc := wrap_at20 (x := a2) (y := m3) (by have := NB.out.1; omega)
                by_cases hX : Z - Y < X
                · have FE : Aside (SDEC l = SERR 32) := by show SDEC l = SERR 32; rw [FE2.out.1]; exact SD2_far q4 hX
                  obtain ⟨G, hG⟩ : ∃ G, Z - Y = G := ⟨_, rfl⟩
                  rw [hG] at eg hX
                  have hX' : (G : Int) < (X : Int) := by omega
                  clear q1 q2 q3 q4 q5 hl wb wc u3 LN hX hG
                  go_wp2_with (first
                    | (refine slice_from _ rfl (.tmp 60) (.tmp 61) rfl b off n c a2 rfl rfl k3n HR.out.2.2.2.1 ?_))
                  refine c3.mono ?_
                  rintro e w2 ⟨rfl, rfl⟩
                  clear c3
                  go_wp2_with (first
                    | (refine wpList_store_row rfl 37 (.tmp 2) (.tmp 76) rfl _ _ rfl rfl 37 ZREACH HR.out.1 iM.out.1 rfl iM.out.2 ?_))
                  refine bodyPost_ret (v := .tuple #[.agg ZREACH, .int .i64 32]) (results_reach rfl _ _ w.heap.size _ _ rfl rfl rfl rfl (HR.out.1.row _)) rfl (BK.out w1 HR.out.1 HR.out.2.1 FE.out)
                · have FE3 : Aside (SDEC l = SD3 Z Y (Y + X) (l.drop (a2 + m3)) ∧ Y + X ≤ Z) := ⟨by rw [FE2.out.1, SD2_near q4 (by omega), List.drop_drop], by have := FE2.out.2; omega⟩
                  obtain ⟨G, hG⟩ : ∃ G, Z - Y = G := ⟨_, rfl⟩
                  rw [hG] at eg hX
                  have hX' : ¬ (G : Int) < (X : Int) := by omega
                  obtain ⟨T, hT⟩ : ∃ T, Y + X = T := ⟨_, rfl⟩
                  rw [hT] at FE3
                  have et : IntKind.u64.wrap ((Y : Int) + (X : Int)) = (T : Int) := by rw [wrapU]; have := FE3.out.2; have := FE1.out.2; omega
                  have ET : Aside (IntKind.u64.wrap ((Y : Int) + (X : Int)) = (T : Int)) := et
                  obtain ⟨a3, ha3⟩ : ∃ a3, a2 + m3 = a3 := ⟨_, rfl⟩
                  rw [ha3] at wc FE3
                  have k4n : a3 ≤ n := by omega
                  have cp := srefplaces_ok Y T Z w1
                  have eS : SPE Y T Z = 0 := by unfold SPE; rw [if_neg (by have := FE1.out.2; omega), if_neg (by have := FE3.out.2; omega)]
                  have eA : SPA Y T Z = SPP Y T Z := by unfold SPA; rw [if_pos eS]
                  have hfew := SPP_few (F := Y) FE1.out.2 FE3.out.2
                  have FE4 : Aside (SDEC l = if (TAKN (l.drop a3) (SPP Y T Z).length).1 = 0 then (0, Z, Y, T, (TAKN (l.drop a3) (SPP Y T Z).length).2.1, (TAKN (l.drop a3) (SPP Y T Z).length).2.2) else SERR (TAKN (l.drop a3) (SPP Y T Z).length).1) := by
                    show SDEC l = _
                    rw [FE3.out.1, SD3_take]
                  rw [eS, eA] at cp
                  unfold ANSP20 at cp
                  generalize SPP Y T Z = P at *
                  obtain ⟨M, hM⟩ : ∃ M, P.length = M := ⟨_, rfl⟩
                  rw [hM] at cp FE4 hfew
                  have M188 : Aside (M ≤ 188) := hfew
                  clear q1 q2 q3 q4 q5 hl u3 ha3 hT hX hG eS eA hfew hM wb et
                  go_wp2_with (first
                    | (refine slice_from _ rfl (.tmp 60) (.tmp 61) rfl b off n c a2 rfl rfl k3n HR.out.2.2.2.1 ?_))
                  refine c3.mono ?_
                  rintro e w2 ⟨rfl, rfl⟩
                  clear c3
                  go_upto_region 24 with fail
                  rw [wc]
                  clear eg wc
                  have et := ET.out
                  go_wp2_with fail
                  refine cp.mono ?_
                  rintro e w2 ⟨ap, kp, rfl, _, hb2⟩
                  clear cp
                  have B2 : Aside (Below w.heap.size w w2 ∧ Has w2 w.heap.size ZREACH 37) := ⟨HR.out.2.1.trans (hb2.mono HR.out.2.1.size), HR.out.1.keep hb2⟩
                  have ct := take_any (REST b off c a3) (n - a3) (c - a3) M (by have := NB.out.1; omega) (by have := M188.out; omega) (l.drop a3) w2 ((HR.out.2.2.1.behind a3 k4n HR.out.2.2.2.1).below hb2)
                  obtain ⟨TE, TK, TL, hTK⟩ : ∃ TE TK TL, TAKN (l.drop a3) M = (TE, TK, TL) := ⟨_, _, _, rfl⟩
                  rw [hTK] at ct FE4
                  dsimp only at ct FE4
                  clear hb2 hTK et
                  go_wp2_with (first
                    | (refine slice_from _ rfl (.tmp 90) (.tmp 91) rfl b off n c a3 rfl rfl k4n HR.out.2.2.2.1 ?_))
                  refine ct.mono ?_
                  rintro e w3 ⟨av, cv, rfl, o3, hb3⟩
                  have B3 : Aside (Below w.heap.size w w3 ∧ Has w3 w.heap.size ZREACH 37 ∧ w3.ownsRow w2.heap.size 60 32 (.slice av TK cv) TK (CELLS TL)) := ⟨B2.out.1.trans (hb3.mono B2.out.1.size), B2.out.2.keep hb3, o3⟩
                  have sz : Aside (w.heap.size < w2.heap.size) := B2.out.2.lt
                  clear ct o3 hb3 B2
                  by_cases hE : TE = 0
                  · subst hE
                    have et := ET.out
                    have FZ : Aside (DECS w (SDEC l) (.returned (.tuple #[.agg #[.int .u64 (Z : Int), .int .u64 (Y : Int), .int .u64 (T : Int), .slice av TK cv], .int .i64 0])) (w3.setRow w.heap.size #[.int .u64 (Z : Int), .int .u64 (Y : Int), .int .u64 (T : Int), .slice av TK cv])) := by
                      have e := FE4.out
                      rw [if_pos rfl] at e
                      show DECS w (SDEC l) _ _
                      rw [e]
                      refine ⟨av, cv, rfl, ?_, below_row B3.out.1 (Nat.le_refl _) _⟩
                      exact own_mono (own_hold9 B3.out.2.2 fun k e => setRow_other _ _ _ _ (by have h1 := (B3.out.2.2.lt k e).1; have := sz.out; omega)) (Nat.le_of_lt sz.out)
                    have infoM : (Tryd.prog.info? 37).map (·.size) = some (#[Value.int .u64 (Z : Int), .int .u64 (Y : Int), .int .u64 (T : Int), .slice av TK cv] : Array Value).size := info_reach
                    have allM : (#[Value.int .u64 (Z : Int), .int .u64 (Y : Int), .int .u64 (T : Int), .slice av TK cv] : Array Value).all (·.oneCell') = true := by simp [Value.oneCell']
                    have MM : Aside ((Tryd.prog.info? 37).map (·.size) = some (#[Value.int .u64 (Z : Int), .int .u64 (Y : Int), .int .u64 (T : Int), .slice av TK cv] : Array Value).size ∧ (#[Value.int .u64 (Z : Int), .int .u64 (Y : Int), .int .u64 (T : Int), .slice av TK cv] : Array Value).all (·.oneCell') = true) := ⟨infoM, allM⟩
                    clear FE0 FE1 FE2 FE3 FE4 infoM allM LN
                    go_wp2_with (first
                      | (refine wpList_store_row rfl 37 (.tmp 2) (.tmp 108) rfl _ _ rfl rfl 37 ZREACH B3.out.2.1 MM.out.1 rfl MM.out.2 ?_))
                    refine bodyPost_ret (v := .tuple #[.agg #[.int .u64 (Z : Int), .int .u64 (Y : Int), .int .u64 (T : Int), .slice av TK cv], .int .i64 0]) (results_reach rfl _ _ w.heap.size _ _ rfl rfl rfl rfl (B3.out.2.1.row _)) rfl FZ.out
                  · have hE' : (TE != 0) = true := by simp [hE]
                    have FE : Aside (SDEC l = SERR TE) := FE4.out.trans (if_neg hE)
                    clear FE0 FE1 FE2 FE3 FE4 hE LN
                    go_wp2_with (first
                      | (refine wpList_store_row rfl 37 (.tmp 2) (.tmp 100) rfl _ _ rfl rfl 37 ZREACH B3.out.2.1 iM.out.1 rfl iM.out.2 ?_))
                    refine bodyPost_ret (v := .tuple #[.agg ZREACH, .int .i64 TE]) (results_reach rfl _ _ w.heap.size _ _ rfl rfl rfl rfl (B3.out.2.1.row _)) rfl (BK.out w3 B3.out.2.1 B3.out.1 FE.out)
              · have FE : Aside (SDEC l = SERR (LNG (l.drop a2)).2.2) := by show SDEC l = _; rw [FE2.out.1]; exact SD2_bad hl
                obtain ⟨e3, he3⟩ : ∃ e, (LNG (l.drop a2)).2.2 = e := ⟨_, rfl⟩
                rw [he3] at c3 FE hl
                have hl' : (e3 != 0) = true := by simp [hl]
                clear wb u3 LN he3 eg hl
                go_wp2_with (first
                  | (refine slice_from _ rfl (.tmp 60) (.tmp 61) rfl b off n c a2 rfl rfl k3n HR.out.2.2.2.1 ?_))
                refine c3.mono ?_
                rintro e w2 ⟨rfl, rfl⟩
                clear c3
                go_wp2_with (first
                  | (refine wpList_store_row rfl 37 (.tmp 2) (.tmp 69) rfl _ _ rfl rfl 37 ZREACH HR.out.1 iM.out.1 rfl iM.out.2 ?_))
                refine bodyPost_ret (v := .tuple #[.agg ZREACH, .int .i64 e3]) (results_reach rfl _ _ w.heap.size _ _ rfl rfl rfl rfl (HR.out.1.row _)) rfl (BK.out w1 HR.out.1 HR.out.2.1 FE.out)
          · have FE : Aside (SDEC l = SERR (LNG (l.drop a1)).2.2) := by show SDEC l = _; rw [FE1.out.1]; exact SD1_bad hl
            obtain ⟨e2, he2⟩ : ∃ e, (LNG (l.drop a1)).2.2 = e := ⟨_, rfl⟩
            rw [he2] at c2 FE hl
            have hl' : (e2 != 0) = true := by simp [hl]
            clear wa u2 LN he2 hl
            go_wp2_with (first
              | (refine slice_from _ rfl (.tmp 41) (.tmp 42) rfl b off n c a1 rfl rfl k2n HR.out.2.2.2.1 ?_))
            refine c2.mono ?_
            rintro e w2 ⟨rfl, rfl⟩
            clear c2
            go_wp2_with (first
              | (refine wpList_store_row rfl 37 (.tmp 2) (.tmp 50) rfl _ _ rfl rfl 37 ZREACH HR.out.1 iM.out.1 rfl iM.out.2 ?_))
            refine bodyPost_ret (v := .tuple #[.agg ZREACH, .int .i64 e2]) (results_reach rfl _ _ w.heap.size _ _ rfl rfl rfl rfl (HR.out.1.row _)) rfl (BK.out w1 HR.out.1 HR.out.2.1 FE.out)
      · have FE : Aside (SDEC l = SERR (LNG (l.drop 1)).2.2) := by show SDEC l = _; rw [FE0.out]; exact SD0_bad hl
        obtain ⟨ea, hea⟩ : ∃ e, (LNG (l.drop 1)).2.2 = e := ⟨_, rfl⟩
        rw [hea] at c1 FE hl
        have hl' : (ea != 0) = true := by simp [hl]
        clear u1 LN hea hl
        go_wp2_with (first
          | (refine slice_from _ rfl (.tmp 23) (.tmp 24) rfl b off n c 1 rfl rfl k1n HR.out.2.2.2.1 ?_))
        refine c1.mono ?_
        rintro e w2 ⟨rfl, rfl⟩
        clear c1 xx
        go_wp2_with (first
          | (refine wpList_store_row rfl 37 (.tmp 2) (.tmp 32) rfl _ _ rfl rfl 37 ZREACH HR.out.1 iM.out.1 rfl iM.out.2 ?_))
        refine bodyPost_ret (v := .tuple #[.agg ZREACH, .int .i64 ea]) (results_reach rfl _ _ w.heap.size _ _ rfl rfl rfl rfl (HR.out.1.row _)) rfl (BK.out w1 HR.out.1 HR.out.2.1 FE.out)
    · have FE : Aside (SDEC l = SERR 14) := by
        show SDEC l = SERR 14
        have hK : K20 l = (14, l) := by unfold K20; rw [if_neg (by have := HR.out.2.2.2.2.2; omega), if_pos hx]
        unfold SDEC
        rw [hK, if_pos (by simp)]
      generalize l.getD 0 0 = x at *
      clear hcs hbl
      go_enter Tryd.func20, Tryd.ntmps20
      go_wp2_with (first
        | (refine wpList_store_row rfl 37 (.tmp 2) (.tmp 21) rfl _ _ rfl rfl 37 ZREACH HR.out.1 iM.out.1 rfl iM.out.2 ?_))
      refine bodyPost_ret (v := .tuple #[.agg ZREACH, .int .i64 14]) (results_reach rfl _ _ w.heap.size _ _ rfl rfl rfl rfl (HR.out.1.row _)) rfl (BK.out w1 HR.out.1 HR.out.2.1 FE.out)
end Go.Proofs.YtmkgldjocigffaaDoor
