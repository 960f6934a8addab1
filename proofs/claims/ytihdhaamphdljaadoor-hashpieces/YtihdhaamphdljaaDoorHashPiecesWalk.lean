/- The law HashPieces returns true. -/
import Derived.Test.YtihdhaamphdljaaDoorHashPiecesRegions
import Derived.Test.YtihdhaamphdljaaDoorHashPiecesLast
import Derived.Test.YtihdhaamphdljaaDoorHashActs
import Derived.Test.YtihdhaamphdljaaDoorHashAwake
import Derived.Test.YtihdhaamphdljaaDoorHashPiecesTurns
import Derived.Test.YtihdhaamphdljaaDoorHashTurn
namespace Go.Proofs.YtihdhaamphdljaaDoor
open Go.RowKit
set_option maxRecDepth 100000

/-- how much the acts hold. -/
def TOT (qs : List AC) : Nat := (qs.map fun q => 1 + q.p.n).sum
theorem TOT_snoc (qs : List AC) (q : AC) : TOT (qs ++ [q]) = TOT qs + (1 + q.p.n) := by simp [TOT]
theorem TOT_append (a b : List AC) : TOT (a ++ b) = TOT a + TOT b := by simp [TOT]
theorem u64_small {n : Nat} (h : n < 2 ^ 62) : IntKind.u64.wrap (n : Int) = (n : Int) := by
  simp [IntKind.wrap, IntKind.signed, IntKind.bits]
  omega
theorem tot_count {n m : Nat} (hn : n ≤ 3000) (hm : m < 2 ^ 60) : wrap64 ((1 : Int) + (m : Int)) = ((1 + m : Nat) : Int) ∧ wrap64 ((n : Int) + ((1 + m : Nat) : Int)) = ((n + (1 + m) : Nat) : Int) := by
  unfold wrap64
  omega
set_option maxHeartbeats 2000000 in
theorem hashPieces_walk (d : Int) (a : Option Addr) (k c : Nat) (qs : List AC) (w : World) (hA : Acts w a k qs) (hT : Tabled w) (hk : k < 2 ^ 60) : Calls Tryd.prog 3 #[.int .i64 d, .slice a k c] w fun e w' => e = .returned (.bool true) ∧ Below w.heap.size w w' := by
  have H : Aside (Acts w a k qs ∧ Tabled w ∧ k < 2 ^ 60 ∧ qs.length = k) := ⟨hA, hT, hk, hA.1⟩
  clear hA hT hk
  go_enter Tryd.func3, Tryd.ntmps3
  go_wp2_with fail
  go_loopg [5, 6] k (fun r s5 s6 wx => ∃ i n : Nat, s5 = .int .i64 (n : Int) ∧ s6 = .int .i64 (i : Int) ∧ wx = w ∧ Aside (i + r = k ∧ n = TOT (qs.take i) ∧ n ≤ 3000))
  case atStart => exact ⟨0, 0, rfl, rfl, rfl, by omega, rfl, by omega⟩
  case round =>
    obtain ⟨i, n, rfl, rfl, hw, A⟩ := hrel
    replace hw := hw.symm
    subst hw
    cases gk with
    | zero =>
      obtain rfl : i = k := by have := A.out.1; omega
      have hlt : ¬ (i : Int) < (i : Int) := by omega
      have B : Aside (TOT qs ≤ 3000) := by
        obtain ⟨h1, h2, h3⟩ := A.out
        rw [List.take_of_length_le (by have := H.out.2.2.2; omega)] at h2
        exact h2 ▸ h3
      clear A
      have cn := new_ok d w H.out.2.1
      go_wp2_with fail
      refine cn.mono ?_
      rintro e w1 ⟨g0, rfl, hg0, hH0, hb1⟩
      clear cn
      have R : Aside (w.heap.size ≤ g0 ∧ HASHER w1 g0 d [] ∧ Below w.heap.size w w1) := ⟨hg0, hH0, hb1⟩
      clear hg0 hH0 hb1
      go_wp2_with fail
      have S0 : Aside (TURNS w ((w1.alloc (.cells #[.pointer (some ⟨g0, 0, none⟩)] 26)).alloc (.cells #[.slice none 0 0] 23)) d (.slice (some ⟨w1.heap.size, 0, none⟩) 1 1) (.slice (some ⟨w1.heap.size + 1, 0, none⟩) 1 1) [⟨g0, [], none, 0, []⟩] 0 0) := turns_start R.out.1 R.out.2.1 R.out.2.2
      generalize (w1.alloc (.cells #[.pointer (some ⟨g0, 0, none⟩)] 26)).alloc (.cells #[.slice none 0 0] 23) = w2 at *
      generalize w1.heap.size = b1 at *
      obtain ⟨b2, hb2⟩ : ∃ b2, b1 + 1 = b2 := ⟨_, rfl⟩
      rw [hb2] at S0 ⊢
      clear hb2 R
      go_loopg [7, 8, 9, 10] i (fun r s7 s8 s9 s10 wx => ∃ (j at' : Nat) (hs : List HP), s9 = .int .i64 (at' : Int) ∧ s10 = .int .i64 (j : Int) ∧ Aside (j + r = i ∧ TURNS w wx d s7 s8 hs at' (TOT (qs.take j))))
      case atStart => exact ⟨0, 0, _, rfl, rfl, by omega, S0.out⟩
      case round =>
        obtain ⟨j, at', hs, rfl, rfl, A⟩ := hrel
        cases gk with
        | zero =>
          obtain rfl : j = i := by have := A.out.1; omega
          have hlt2 : ¬ (j : Int) < (j : Int) := by omega
          clear S0
          obtain ⟨-, TU⟩ := A.out
          have hN : TOT (qs.take j) ≤ 3000 := by rw [List.take_of_length_le (by have := H.out.2.2.2; omega)]; exact B.out
          obtain ⟨lb, cl, tb, ct, hv7, hv8, hne⟩ := TU.form
          obtain ⟨M, hM⟩ : ∃ M, hs.length = M := ⟨_, rfl⟩
          rw [hM] at hv7 hv8
          subst hv7 hv8
          have D : Aside (TURNS w wr d (.slice (some ⟨lb, 0, none⟩) M cl) (.slice (some ⟨tb, 0, none⟩) M ct) hs at' (TOT (qs.take j)) ∧ hs.length = M ∧ TOT (qs.take j) ≤ 3000 ∧ M ≤ 6) := ⟨TU, hM, hN, by have := TU.few; omega⟩
          clear A TU hM hN hne
          go_wp2_with fail
          generalize wr = wo at *
          go_loopg [15] M (fun r s15 wx => ∃ t : Nat, s15 = .int .i64 (t : Int) ∧ Aside (t + r = M ∧ TURNS w wx d (.slice (some ⟨lb, 0, none⟩) M cl) (.slice (some ⟨tb, 0, none⟩) M ct) hs at' (TOT (qs.take j))))
          case atStart => exact ⟨0, rfl, by omega, D.out.1⟩
          case round =>
            obtain ⟨t, rfl, A⟩ := hrel
            cases gk with
            | zero =>
              obtain rfl : t = M := by have := A.out.1; omega
              have hlt3 : ¬ (t : Int) < (t : Int) := by omega
              have ca := awake_ok wr (H.out.2.1.below A.out.2.below)
              have F : Aside (Below w.heap.size w wr) := A.out.2.below
              clear A
              go_wp2_with fail
              refine ca.mono ?_
              rintro e w9 ⟨rfl, hb9⟩
              have hbw := F.out.trans (hb9.mono F.out.size)
              clear ca hb9
              go_wp2_with fail
              go_ret
              exact ⟨rfl, hbw⟩
            | succ r =>
              have htM : t < M := by have := A.out.1; omega
              have hlt3 : (t : Int) < (M : Int) := by omega
              obtain ⟨p, hp⟩ : ∃ p, hs[t]? = some p := ⟨_, List.getElem?_eq_getElem (by rw [D.out.2.1]; exact htM)⟩
              obtain ⟨hpt, hpl⟩ := A.out.2.same t p hp
              have et : wrap64 ((t : Int) + 1) = ((t + 1 : Nat) : Int) := by have := D.out.2.2.2; unfold wrap64; omega
              have hp20 : p.t.length ≤ 3000 := Nat.le_trans hpl D.out.2.2.1
              have SF := PIECES.sums (w := wr) (B := w.heap.size) (d := d) (lb := lb) (cl := cl) (tb := tb) (ct := ct) D.out.2.1 hp hpt (Nat.lt_of_le_of_lt hp20 (by decide)) (H.out.2.1.below A.out.2.below) (fun W => Below wr.heap.size wr W ∧ PIECES W w.heap.size d (.slice (some ⟨lb, 0, none⟩) M cl) (.slice (some ⟨tb, 0, none⟩) M ct) hs) (fun W => Iff.rfl)
              have hu := u64_small (n := p.t.length) (Nat.lt_of_le_of_lt hp20 (by decide))
              have A2 : Aside (t + 1 + r = M ∧ TURNS w wr d (.slice (some ⟨lb, 0, none⟩) M cl) (.slice (some ⟨tb, 0, none⟩) M ct) hs at' (TOT (qs.take j))) := ⟨by have := A.out.1; clear et hu; omega, A.out.2⟩
              have SA : Aside _ := SF
              have HU : Aside _ := hu
              clear A hp hpt hpl hp20 htM SF hu
              go_upto_region 46 with fail
              refine pieces46 wr d lb tb M cl ct t p.g p.a p.t.length p.c (fun W => Below wr.heap.size wr W ∧ PIECES W w.heap.size d (.slice (some ⟨lb, 0, none⟩) M cl) (.slice (some ⟨tb, 0, none⟩) M ct) hs) (SA.out.2.2.1 _ ⟨Below.refl _ _, A2.out.2.pieces⟩) hlt3 SA.out.1 (HASHOF d p.t) SA.out.2.1 (equal_same _) SA.out.2.2.2.1 SA.out.2.2.2.2.1 HU.out SA.out.2.2.2.2.2 (fun _ _ _ _ _ h => h) ?_
              intro b5 b6 W hW
              have E : Aside (TURNS w W d (.slice (some ⟨lb, 0, none⟩) M cl) (.slice (some ⟨tb, 0, none⟩) M ct) hs at' (TOT (qs.take j))) := A2.out.2.keep hW.1
              clear SA hW HU
              go_wp2_with fail
              go_roundg r
              case measure => exact Nat.lt_succ_self _
              case rel => exact ⟨t + 1, by first | rfl | (rw [et]), A2.out.1, E.out⟩
        | succ r =>
          have hji : j < i := by have := A.out.1; omega
          have hlt2 : (j : Int) < (i : Int) := by omega
          obtain ⟨pb, po, rfl, hpb, hcell⟩ := H.out.1.2.1 (by omega)
          obtain ⟨q, hq⟩ : ∃ q, qs[j]? = some q := ⟨_, List.getElem?_eq_getElem (by have := H.out.2.2.2; omega)⟩
          have hmem : q ∈ qs := List.mem_of_getElem? hq
          have hc0 := (A.out.2.below.cell (p := ⟨pb, po + j * 2, none⟩) (by exact hpb)).trans (hcell j q hq).1
          have hc1 := (A.out.2.below.cell (p := ⟨pb, po + j * 2 + 1, none⟩) (by exact hpb)).trans (hcell j q hq).2
          have hj : TOT (qs.take (j + 1)) = TOT (qs.take j) + (1 + q.p.n) := by rw [List.take_add_one, hq, Option.toList_some, TOT_snoc]
          clear S0
          have hN : TOT (qs.take (j + 1)) ≤ 3000 := by
            have h1 := B.out
            have h2 : TOT qs = TOT (qs.take (j + 1)) + TOT (qs.drop (j + 1)) := by
              rw [← TOT_append, List.take_append_drop]
            omega
          obtain ⟨hjr, TU⟩ := A.out
          have ej : wrap64 ((j : Int) + 1) = ((j + 1 : Nat) : Int) := by have := H.out.2.2.1; unfold wrap64; omega
          obtain ⟨ht1, ht2, ht3, -⟩ := H.out.1.2.2 q hmem
          obtain ⟨qk, pa, pn, pc, pl⟩ := q
          dsimp only at hc0 hc1 hj ht1 ht2 ht3
          have hpn : pn ≤ 3000 := by omega
          have C : Aside (j + 1 + r = i ∧ TOT (qs.take (j + 1)) = TOT (qs.take j) + (1 + pn) ∧ TOT (qs.take (j + 1)) ≤ 3000 ∧ Text w pa pn pl ∧ (pa = none → pc = 0) ∧ pn ≤ pc ∧ pn ≤ 3000) := ⟨by omega, hj, hN, ht1, ht2, ht3, hpn⟩
          obtain ⟨lb, cl, tb, ct, hv7, hv8, hne⟩ := TU.form
          obtain ⟨M, hM⟩ : ∃ M, hs.length = M := ⟨_, rfl⟩
          rw [hM] at hv7 hv8
          subst hv7 hv8
          obtain ⟨p, hp⟩ : ∃ p, hs[at']? = some p := ⟨_, List.getElem?_eq_getElem TU.lt⟩
          obtain ⟨hpt, hpl⟩ := TU.same at' p hp
          have hatM : (at' : Int) < (M : Int) := by have := TU.lt; omega
          have hat0 : ¬ (at' : Int) < 0 := by omega
          have D : Aside (TURNS w wr d (.slice (some ⟨lb, 0, none⟩) M cl) (.slice (some ⟨tb, 0, none⟩) M ct) hs at' (TOT (qs.take j)) ∧ hs.length = M ∧ hs[at']? = some p ∧ p.h = p.t ∧ p.t.length ≤ TOT (qs.take j) ∧ lb ≠ tb ∧ 0 < M ∧ M ≤ 6) := ⟨TU, hM, hp, hpt, hpl, hne, by have := TU.lt; omega, by have := TU.few; omega⟩
          clear A TU hM hp hpt hpl hne hq hmem hcell hpb hj hN hpn ht1 ht2 ht3 hjr hji
          by_cases h1 : qk = 1
          · subst h1
            go_upto_region 30 with fail
            have D1 : Aside (TURNS w (wr.alloc (.cells #[.int .i64 1, .slice pa pn pc] 25)) d (.slice (some ⟨lb, 0, none⟩) M cl) (.slice (some ⟨tb, 0, none⟩) M ct) hs at' (TOT (qs.take j))) := D.out.1.keep ((Below.refl _ _).alloc (Nat.le_refl _) _)
            generalize wr.alloc (.cells #[.int .i64 1, .slice pa pn pc] 25) = W1 at *
            have SF := PIECES.sums (w := W1) (B := w.heap.size) (d := d) (lb := lb) (cl := cl) (tb := tb) (ct := ct) D.out.2.1 D.out.2.2.1 D.out.2.2.2.1 (by have h1 := D.out.2.2.2.2.1; have h2 := C.out.2.1; have h3 := C.out.2.2.1; omega) (H.out.2.1.below D1.out.below) (fun W => Below W1.heap.size W1 W ∧ PIECES W w.heap.size d (.slice (some ⟨lb, 0, none⟩) M cl) (.slice (some ⟨tb, 0, none⟩) M ct) hs) (fun W => Iff.rfl)
            refine pieces30 W1 d lb tb M cl ct at' p.g p.a p.t.length p.c (fun W => Below W1.heap.size W1 W ∧ PIECES W w.heap.size d (.slice (some ⟨lb, 0, none⟩) M cl) (.slice (some ⟨tb, 0, none⟩) M ct) hs) (SF.2.2.1 _ ⟨Below.refl _ _, D1.out.pieces⟩) hatM SF.1 (HASHOF d p.t) SF.2.1 (equal_same _) SF.2.2.2.1 SF.2.2.2.2.1 (fun _ _ _ _ _ h => h) ?_
            intro b2' W hW
            have E : Aside (TURNS w W d (.slice (some ⟨lb, 0, none⟩) M cl) (.slice (some ⟨tb, 0, none⟩) M ct) hs at' (TOT (qs.take j))) := D1.out.keep hW.1
            clear SF hW D1
            go_wp2_with fail
            go_roundg r
            case measure => exact Nat.lt_succ_self _
            case rel => exact ⟨j + 1, at', hs, rfl, by first | rfl | (rw [ej]), C.out.1, E.out.more (by rw [C.out.2.1]; omega)⟩
          by_cases h2 : qk = 2
          · subst h2
            clear h1
            go_upto_region 33 with fail
            have D1 : Aside (TURNS w (wr.alloc (.cells #[.int .i64 2, .slice pa pn pc] 25)) d (.slice (some ⟨lb, 0, none⟩) M cl) (.slice (some ⟨tb, 0, none⟩) M ct) hs at' (TOT (qs.take j))) := D.out.1.keep ((Below.refl _ _).alloc (Nat.le_refl _) _)
            generalize wr.alloc (.cells #[.int .i64 2, .slice pa pn pc] 25) = W1 at *
            have hpt := D.out.2.2.2.2.1
            have hpt2 : p.t.length ≤ 3000 := by have h2 := C.out.2.1; have h3 := C.out.2.2.1; omega
            have SF := PIECES.sums (w := W1) (B := w.heap.size) (d := d) (lb := lb) (cl := cl) (tb := tb) (ct := ct) D.out.2.1 D.out.2.2.1 D.out.2.2.2.1 (by omega) (H.out.2.1.below D1.out.below) (fun W => Below W1.heap.size W1 W ∧ PIECES W w.heap.size d (.slice (some ⟨lb, 0, none⟩) M cl) (.slice (some ⟨tb, 0, none⟩) M ct) hs) (fun W => Iff.rfl)
            refine pieces33 W1 d lb tb M cl ct at' p.g p.a p.t.length p.c (fun W => Below W1.heap.size W1 W ∧ PIECES W w.heap.size d (.slice (some ⟨lb, 0, none⟩) M cl) (.slice (some ⟨tb, 0, none⟩) M ct) hs) (SF.2.2.1 _ ⟨Below.refl _ _, D1.out.pieces⟩) hatM SF.1 (u64_small (by omega)) SF.2.2.2.2.2 (fun _ _ _ _ _ h => h) ?_
            intro W hW
            have E : Aside (TURNS w W d (.slice (some ⟨lb, 0, none⟩) M cl) (.slice (some ⟨tb, 0, none⟩) M ct) hs at' (TOT (qs.take j))) := D1.out.keep hW.1
            clear SF hW D1 hpt hpt2
            go_wp2_with fail
            go_roundg r
            case measure => exact Nat.lt_succ_self _
            case rel => exact ⟨j + 1, at', hs, rfl, by first | rfl | (rw [ej]), C.out.1, E.out.more (by rw [C.out.2.1]; omega)⟩
          by_cases h3 : qk = 3
          · subst h3
            clear h1 h2
            by_cases hbig : (5 : Int) < (M : Int)
            · have E : Aside (TURNS w (wr.alloc (.cells #[.int .i64 3, .slice pa pn pc] 25)) d (.slice (some ⟨lb, 0, none⟩) M cl) (.slice (some ⟨tb, 0, none⟩) M ct) hs at' (TOT (qs.take j))) := D.out.1.keep ((Below.refl _ _).alloc (Nat.le_refl _) _)
              go_wp2_with fail
              go_roundg r
              case measure => exact Nat.lt_succ_self _
              case rel => exact ⟨j + 1, at', hs, rfl, by first | rfl | (rw [ej]), C.out.1, E.out.more (by rw [C.out.2.1]; omega)⟩
            · have hx0 := (D.out.1.pieces.at D.out.2.1 D.out.2.2.1).1
              have hlbl : lb < wr.heap.size := (D.out.1.pieces.ownl.lt lb rfl).2
              have D1 : Aside (TURNS w (wr.alloc (.cells #[.int .i64 3, .slice pa pn pc] 25)) d (.slice (some ⟨lb, 0, none⟩) M cl) (.slice (some ⟨tb, 0, none⟩) M ct) hs at' (TOT (qs.take j))) := D.out.1.keep ((Below.refl _ _).alloc (Nat.le_refl _) _)
              have cc := clone_ok p.g d p.h _ (D1.out.pieces.hsh at' p D.out.2.2.1).1
              go_wp2_with fail
              refine cc.mono ?_
              rintro e w3 ⟨g', rfl, hg', hH', hb3⟩
              clear cc
              have hbx : (wr.alloc (.cells #[.int .i64 3, .slice pa pn pc] 25)).cell? ⟨wr.heap.size, 1, none⟩ = some (.slice pa pn pc) := (Has.new wr _ _).cell 1
              have E3 : Aside (TURNS w w3 d (.slice (some ⟨lb, 0, none⟩) M cl) (.slice (some ⟨tb, 0, none⟩) M ct) hs at' (TOT (qs.take j)) ∧ HASHER w3 g' d p.h ∧ (wr.alloc (.cells #[.int .i64 3, .slice pa pn pc] 25)).heap.size ≤ g' ∧ w3.cell? ⟨wr.heap.size, 1, none⟩ = some (.slice pa pn pc) ∧ w.heap.size ≤ (wr.alloc (.cells #[.int .i64 3, .slice pa pn pc] 25)).heap.size ∧ (∀ b, PFOOT (.slice (some ⟨lb, 0, none⟩) M cl) (.slice (some ⟨tb, 0, none⟩) M ct) hs b → b < wr.heap.size ∧ b < (wr.alloc (.cells #[.int .i64 3, .slice pa pn pc] 25)).heap.size)) := ⟨D1.out.keep hb3, hH', hg', (hb3.cell (p := ⟨wr.heap.size, 1, none⟩) (World.block_lt_of_cell? _ _ hbx)).trans hbx, D1.out.below.size, fun b hb => ⟨D.out.1.pieces.lt hb, D1.out.pieces.lt hb⟩⟩
              generalize (wr.alloc (.cells #[.int .i64 3, .slice pa pn pc] 25)).heap.size = HZ at *
              generalize wr.heap.size = ab at *
              clear hbx hb3 hg' hH' D1 hx0 hlbl
              have hMM : M ≤ 5 := by omega
              have htb9 : (HPT hs)[at']? = some (.slice p.a p.t.length p.c) := by rw [HPT, List.getElem?_map, D.out.2.2.1]; rfl
              have hol := E3.out.1.pieces.ownl
              have hot := E3.out.1.pieces.ownt
              rw [D.out.2.1] at hol hot
              go_upto_region 40 with fail
              refine pieces40 w3 w.heap.size lb tb M cl ct at' g' p.a p.t.length p.c (HPL hs) (HPT hs) hatM (by omega) E3.out.1.below.size D.out.2.2.2.2.2.1 htb9 hol hot (fun _ _ _ _ _ h => h) ?_
              intro b1' g1 c1 b2' g2 c2 W hW
              obtain ⟨hk, hl, ht, h12⟩ := hW
              have hbk : W.heap[ab]? = w3.heap[ab]? := hk.2.1 ab (World.block_lt_of_cell? _ _ E3.out.2.2.2.1) (fun e => Nat.lt_irrefl _ (E3.out.2.2.2.2.2 ab (.inl e)).1) (fun e => Nat.lt_irrefl _ (E3.out.2.2.2.2.2 ab (.inr (.inl e))).1)
              have hbx : W.cell? ⟨ab, 1, none⟩ = some (.slice pa pn pc) := (World.cell?_of_block (w := w3) (by exact hbk)).trans E3.out.2.2.2.1
              have E : Aside (TURNS w W d (.slice (some ⟨g1, 0, none⟩) (M + 1) c1) (.slice (some ⟨g2, 0, none⟩) (M + 1) c2) (hs ++ [⟨g', p.h, p.a, p.c, p.t⟩]) at' (TOT (qs.take j))) := E3.out.1.push D.out.2.1 D.out.2.2.1 E3.out.2.1 E3.out.2.2.1 E3.out.2.2.2.2.1 (fun b hb => (E3.out.2.2.2.2.2 b hb).2) hMM hk hl ht h12
              clear hk hl ht h12 htb9 hol hot E3 hbk
              have em : wrap64 (((M + 1 : Nat) : Int) - 1) = (M : Int) := by clear ej; unfold wrap64; omega
              have hlen : M < (hs ++ [(⟨g', p.h, p.a, p.c, p.t⟩ : HP)]).length := by rw [List.length_append, D.out.2.1]; simp
              obtain ⟨M1, hM1⟩ : ∃ M1, M + 1 = M1 := ⟨_, rfl⟩
              rw [hM1] at E em ⊢
              have E2 : Aside (j + 1 + r = i ∧ TOT (qs.take j) ≤ TOT (qs.take (j + 1)) ∧ M < (hs ++ [(⟨g', p.h, p.a, p.c, p.t⟩ : HP)]).length) := ⟨C.out.1, by rw [C.out.2.1]; omega, hlen⟩
              clear hM1 hlen
              cases hodd : ((pn : Int) % 2 == 1)
              · go_wp2_with fail
                go_roundg r
                case measure => exact Nat.lt_succ_self _
                case rel => exact ⟨j + 1, at', _, rfl, by first | rfl | (rw [ej]), E2.out.1, E.out.more E2.out.2.1⟩
              · go_wp2_with fail
                go_roundg r
                case measure => exact Nat.lt_succ_self _
                case rel => exact ⟨j + 1, M, _, by first | rfl | (rw [em]), by first | rfl | (rw [ej]), E2.out.1, (E.out.more E2.out.2.1).to E2.out.2.2⟩
          by_cases h0 : qk = 0
          · subst h0
            clear h1 h2 h3
            have D1 : Aside (TURNS w (wr.alloc (.cells #[.int .i64 0, .slice pa pn pc] 25)) d (.slice (some ⟨lb, 0, none⟩) M cl) (.slice (some ⟨tb, 0, none⟩) M ct) hs at' (TOT (qs.take j))) := D.out.1.keep ((Below.refl _ _).alloc (Nat.le_refl _) _)
            have hbx : (wr.alloc (.cells #[.int .i64 0, .slice pa pn pc] 25)).cell? ⟨wr.heap.size, 1, none⟩ = some (.slice pa pn pc) := (Has.new wr _ _).cell 1
            have cr := row_own pa pn pc pl (wr.alloc (.cells #[.int .i64 0, .slice pa pn pc] 25)) (C.out.2.2.2.1.below D1.out.below) C.out.2.2.2.2.1 (by have := C.out.2.2.2.2.2.2; omega)
            go_wp2_with fail
            refine cr.mono ?_
            rintro e w3 ⟨g2, c2, rfl, hown2, hb2⟩
            clear cr
            have E3 : Aside (TURNS w w3 d (.slice (some ⟨lb, 0, none⟩) M cl) (.slice (some ⟨tb, 0, none⟩) M ct) hs at' (TOT (qs.take j)) ∧ w3.ownsRow (wr.alloc (.cells #[.int .i64 0, .slice pa pn pc] 25)).heap.size 5 1 (.slice (some ⟨g2, 0, none⟩) (pn + 1) c2) (pn + 1) (BY (pl ++ [171])) ∧ w3.cell? ⟨wr.heap.size, 1, none⟩ = some (.slice pa pn pc) ∧ wr.heap.size < (wr.alloc (.cells #[.int .i64 0, .slice pa pn pc] 25)).heap.size ∧ (∀ b, PFOOT (.slice (some ⟨lb, 0, none⟩) M cl) (.slice (some ⟨tb, 0, none⟩) M ct) hs b → b < wr.heap.size) ∧ w.heap.size ≤ wr.heap.size) := ⟨D1.out.keep hb2, hown2, (hb2.cell (p := ⟨wr.heap.size, 1, none⟩) (World.block_lt_of_cell? _ _ hbx)).trans hbx, World.block_lt_of_cell? _ _ hbx, fun b hb => D.out.1.pieces.lt hb, D.out.1.below.size⟩
            have hx3 := (E3.out.1.pieces.at D.out.2.1 D.out.2.2.1).1
            generalize (wr.alloc (.cells #[.int .i64 0, .slice pa pn pc] 25)).heap.size = HZ at *
            generalize wr.heap.size = ab at *
            clear hbx hb2 hown2 D1
            have hpl : pl.length = pn := C.out.2.2.2.1.1
            have hs8 : Small8 pl := C.out.2.2.2.1.2.2
            have hrt := row_text hpl hs8 E3.out.2.1
            have hpg := E3.out.1.pieces.hsh at' p D.out.2.2.1
            have hgf : p.g < ab := E3.out.2.2.2.2.1 p.g (.inr (.inr ⟨at', p, D.out.2.2.1, .inl rfl⟩))
            have hg2 := (E3.out.2.1.lt g2 rfl).1
            have hlt9 := E3.out.2.2.2.1
            have cw := write_ok p.g d p.h pl (some ⟨g2, 0, none⟩) pn c2 w3 hpg.1 (H.out.2.1.below E3.out.1.below) (by have h1 := H.out.2.1.2.2; have h2 := hpg.2.1; omega) hrt.1 (fun x hx => by cases hx; show g2 ≠ p.g; omega) (by omega) hpg.2.2.2 (by rw [D.out.2.2.2.1]; have h1 := D.out.2.2.2.2.1; have h2 := C.out.2.2.1; have h3 := C.out.2.1; omega)
            go_wp2_with fail
            refine cw.mono ?_
            rintro e w4 ⟨rfl, hH4, hG4⟩
            clear cw
            have E4 : Aside (GV w w4 d lb cl tb ct M (hs.set at' ⟨p.g, p.h ++ pl, p.a, p.c, p.t⟩) ab HZ g2 c2 pa pn pc pl ∧ w.heap.size ≤ HZ ∧ ab < HZ ∧ (∀ b, PFOOT (.slice (some ⟨lb, 0, none⟩) M cl) (.slice (some ⟨tb, 0, none⟩) M ct) (hs.set at' ⟨p.g, p.h ++ pl, p.a, p.c, p.t⟩) b → b < ab)) := by
              refine ⟨⟨E3.out.1.below.grown hG4 E3.out.1.below.size (fun k e => by cases e; exact hpg.2.1), E3.out.1.pieces.write D.out.2.2.1 hG4 hH4 (small_app hpg.2.2.2 hs8), own_turn E3.out.2.1 fun b e => hG4.block b (E3.out.2.1.lt b e).2 (fun e2 => ?_), hG4.cell E3.out.2.2.1 (fun e2 => ?_)⟩, by have := E3.out.2.2.2.2.2; omega, hlt9, fun b hb => ?_⟩
              · have e3 : g2 = b := by simpa [Value.ownBlock] using e
                have e4 : b = p.g := by simpa using e2
                omega
              · have e4 : ab = p.g := by simpa using e2
                omega
              · refine E3.out.2.2.2.2.1 b ?_
                rcases hb with hb | hb | ⟨i2, p2, hp2, h5⟩
                · exact .inl hb
                · exact .inr (.inl hb)
                · rcases hs_set D.out.2.2.1 hp2 with ⟨rfl, rfl⟩ | ⟨_, h6⟩
                  · exact .inr (.inr ⟨_, p, D.out.2.2.1, h5⟩)
                  · exact .inr (.inr ⟨_, p2, h6, h5⟩)
            have hx4 := E4.out.1.box
            have cs := same_ok (some ⟨g2, 0, none⟩) pa pn pn c2 pc pl pl w4 (row_text hpl hs8 E4.out.1.own).1 (C.out.2.2.2.1.below E4.out.1.below) (by have := C.out.2.2.2.2.2.2; omega)
            rw [decide_eq_true (rfl : pl = pl)] at cs
            have cm := fun (W : World) (hb : Below w4.heap.size w4 W) => mark_text g2 pn c2 HZ pl hpl (by have := C.out.2.2.2.2.2.2; omega) hrt.2.1 W (own_keep E4.out.1.own hb)
            clear hH4 hG4 hpg hgf hg2 hlt9 hrt hx3 E3
            go_wp2_with (first | (go_at_call 8; refine cs.mono ?_; rintro e w5 ⟨rfl, hb5, -⟩) | (go_at_call 9; refine (cm _ (by exact hb5)).mono ?_; rintro e w6 ⟨rfl, rfl⟩))
            have E5 : Aside (GV w w5 d lb cl tb ct M (hs.set at' ⟨p.g, p.h ++ pl, p.a, p.c, p.t⟩) ab HZ g2 c2 pa pn pc pl ∧ w.heap.size ≤ HZ ∧ ab < HZ ∧ (∀ b, PFOOT (.slice (some ⟨lb, 0, none⟩) M cl) (.slice (some ⟨tb, 0, none⟩) M ct) (hs.set at' ⟨p.g, p.h ++ pl, p.a, p.c, p.t⟩) b → b < ab)) := ⟨E4.out.1.keep hb5, E4.out.2⟩
            have C2 : Aside (pl.length = pn ∧ Small8 pl) := ⟨hpl, hs8⟩
            clear cs cm hx4 hb5 E4 hpl hs8 hc0 hc1
            generalize wr = wo at *
            go_loopg [13] pn (fun r2 s13 wx => ∃ q : Nat, s13 = .int .i64 (q : Int) ∧ Aside (q + r2 = pn ∧ GV w wx d lb cl tb ct M (hs.set at' ⟨p.g, p.h ++ pl, p.a, p.c, p.t⟩) ab HZ g2 c2 pa pn pc (TK q pl)))
            case atStart => exact ⟨0, rfl, by omega, by rw [TK_zero]; exact E5.out.1⟩
            case round =>
              obtain ⟨q, rfl, A⟩ := hrel
              cases gk with
              | zero =>
                obtain rfl : q = pn := by have := A.out.1; omega
                have hlt3 : ¬ (q : Int) < (q : Int) := by omega
                have hG := A.out.2
                have hget : (hs.set at' ⟨p.g, p.h ++ pl, p.a, p.c, p.t⟩)[at']? = some (⟨p.g, p.h ++ pl, p.a, p.c, p.t⟩ : HP) := List.getElem?_set_self D.out.1.lt
                have hat := hG.pieces.at (by rw [List.length_set]; exact D.out.2.1) hget
                have htx := hG.pieces.txt at' _ hget
                have hlt4 : p.t.length + q < 2 ^ 40 := by have h1 := D.out.2.2.2.2.1; have h2 := C.out.2.2.1; have h3 := C.out.2.1; omega
                have hab4 : ab ≠ tb := fun e => by have h1 := E5.out.2.2.2 tb (.inr (.inl rfl)); omega
                have E6 : Aside (Below w.heap.size w wr ∧ PIECES wr w.heap.size d (.slice (some ⟨lb, 0, none⟩) M cl) (.slice (some ⟨tb, 0, none⟩) M ct) (hs.set at' ⟨p.g, p.h ++ pl, p.a, p.c, p.t⟩) ∧ wr.cell? ⟨ab, 1, none⟩ = some (.slice pa q pc) ∧ p.t.length + q < 2 ^ 40 ∧ ab ≠ tb) := ⟨hG.below, hG.pieces, hG.box, hlt4, hab4⟩
                clear A hlt4 hab4 hG hget
                dsimp only at hat htx
                go_upto_region 28 with fail
                refine pieces28 wr lb tb M cl ct at' ab p.a p.t.length p.c pa q pc p.t pl hatM E6.out.2.2.1 E6.out.2.2.2.2 hat.2.1 hat.2.2 htx.1 htx.2.1 (C.out.2.2.2.1.below E6.out.1) C.out.2.2.2.2.1 E6.out.2.2.2.1 (fun _ _ _ _ _ h => h) ?_
                intro z9 a4 c4 a5 c5 W hW
                obtain ⟨w0, hb0, hown0, hW⟩ := hW
                have E7 : Aside (TURNS w W d (.slice (some ⟨lb, 0, none⟩) M cl) (.slice (some ⟨tb, 0, none⟩) M ct) (hs.set at' ⟨p.g, p.h ++ pl, a5, c5, p.t ++ pl⟩) at' (TOT (qs.take (j + 1)))) := by
                  rw [hW]
                  exact TURNS.wrote D.out.1.same D.out.1.lt D.out.1.few D.out.2.2.1 E6.out.1 E6.out.2.1 C2.out.1 C2.out.2 (by rw [C.out.2.1]; omega) hb0 hown0
                clear hb0 hown0 hW hat htx E6 E5 C2
                go_wp2_with fail
                go_roundg r
                case measure => exact Nat.lt_succ_self _
                case rel => exact ⟨j + 1, at', _, rfl, by first | rfl | (rw [ej]), C.out.1, E7.out⟩
              | succ r2 =>
                have hqp : q < pn := by have := A.out.1; omega
                have hlt3 : (q : Int) < (pn : Int) := by omega
                have hq0 : ¬ (q : Int) < 0 := by omega
                have hG := A.out.2
                obtain ⟨hG2, f1, x1⟩ := hG.put (q := q) (x := INC (pl.getD q 0)) (by rw [TK_length]; exact C2.out.1) E5.out.2.1 E5.out.2.2.1 (fun b hb => Nat.lt_trans (E5.out.2.2.2 b hb) E5.out.2.2.1) hqp
                rw [TK_get q pl (by rw [C2.out.1]; exact hqp)] at x1
                rw [← TK_next q pl (by rw [C2.out.1]; exact hqp)] at hG2
                have hv256 : pl.getD q 0 < 256 := C2.out.2.get q
                have eq2 : wrap64 ((q : Int) + 1) = ((q + 1 : Nat) : Int) := by clear ej; have := C.out.2.2.2.2.2.2; unfold wrap64; omega
                obtain ⟨v2, hv2⟩ : ∃ v2, INC (pl.getD q 0) = v2 := ⟨_, rfl⟩
                rw [hv2] at hG2
                generalize pl.getD q 0 = v at *
                have e8 : IntKind.u8.wrap ((v : Int) + 1) = (v2 : Int) := by
                  rw [← hv2]
                  unfold INC
                  simp [IntKind.wrap, IntKind.signed, IntKind.bits]
                have E8 : Aside (q + 1 + r2 = pn ∧ GV w (wr.setCell ⟨g2, q, none⟩ (.int .u8 (v2 : Int))) d lb cl tb ct M (hs.set at' ⟨p.g, p.h ++ pl, p.a, p.c, p.t⟩) ab HZ g2 c2 pa pn pc (TK (q + 1) pl)) := ⟨by have := A.out.1; clear ej eq2 e8; omega, hG2⟩
                clear hG hG2 A hqp hv2 hv256
                go_wp2_with fail
                go_roundg r2
                case measure => exact Nat.lt_succ_self _
                case rel => exact ⟨q + 1, by first | rfl | (rw [eq2]), E8.out⟩
          have hk0 : (qk == 0) = false := beq_eq_false_iff_ne.2 h0
          have hk1 : (qk == 1) = false := beq_eq_false_iff_ne.2 h1
          have hk2 : (qk == 2) = false := beq_eq_false_iff_ne.2 h2
          have hk3 : (qk == 3) = false := beq_eq_false_iff_ne.2 h3
          have hM0 : ((M : Int) == 0) = false := beq_eq_false_iff_ne.2 (by have := D.out.2.2.2.2.2.2.1; omega)
          have hmod : (pn : Int) % (M : Int) = ((pn % M : Nat) : Int) := by omega
          have hmod2 : Int.tmod (pn : Int) (M : Int) = ((pn % M : Nat) : Int) := by rw [Int.tmod_eq_emod_of_nonneg (by omega)]; exact hmod
          have E : Aside (TURNS w (wr.alloc (.cells #[.int .i64 qk, .slice pa pn pc] 25)) d (.slice (some ⟨lb, 0, none⟩) M cl) (.slice (some ⟨tb, 0, none⟩) M ct) hs (pn % M) (TOT (qs.take (j + 1))) ∧ j + 1 + r = i) := ⟨((D.out.1.keep ((Below.refl _ _).alloc (Nat.le_refl _) _)).more (by rw [C.out.2.1]; omega)).to (by rw [D.out.2.1]; exact Nat.mod_lt _ D.out.2.2.2.2.2.2.1), C.out.1⟩
          clear h0 h1 h2 h3
          obtain ⟨mm, hmm⟩ : ∃ mm, pn % M = mm := ⟨_, rfl⟩
          rw [hmm] at E hmod hmod2
          clear hmm
          go_wp2_with fail
          go_roundg r
          case measure => exact Nat.lt_succ_self _
          case rel => exact ⟨j + 1, mm, hs, by first | rfl | (rw [hmod]), by first | rfl | (rw [ej]), E.out.2, E.out.1⟩
    | succ r =>
      have hik : i < k := by have := A.out.1; omega
      have hlt : (i : Int) < (k : Int) := by omega
      have hi0 : ¬ (i : Int) < 0 := by omega
      obtain ⟨pb, po, rfl, hpb, hcell⟩ := H.out.1.2.1 (by omega)
      obtain ⟨q, hq⟩ : ∃ q, qs[i]? = some q := ⟨_, List.getElem?_eq_getElem (by have := H.out.2.2.2; omega)⟩
      have hc := (hcell i q hq).2
      have hmem : q ∈ qs := List.mem_of_getElem? hq
      have hj : TOT (qs.take (i + 1)) = TOT (qs.take i) + (1 + q.p.n) := by rw [List.take_add_one, hq, Option.toList_some, TOT_snoc]
      have ei : wrap64 ((i : Int) + 1) = ((i + 1 : Nat) : Int) := by have := H.out.2.2.1; unfold wrap64; omega
      obtain ⟨n2, hn2⟩ : ∃ n2, n + (1 + q.p.n) = n2 := ⟨_, rfl⟩
      obtain ⟨n1, hn1⟩ : ∃ n1, 1 + q.p.n = n1 := ⟨_, rfl⟩
      have T : Aside (i + 1 + r = k ∧ n2 = TOT (qs.take (i + 1))) := ⟨by have := A.out.1; clear ei; omega, by rw [hj, ← A.out.2.1]; exact hn2.symm⟩
      obtain ⟨e1, e2⟩ := tot_count A.out.2.2 (H.out.1.2.2 q hmem).2.2.2
      rw [hn2] at e2
      rw [hn1] at e1 e2
      clear hq hcell hpb hmem hj hn1 hn2 A
      obtain ⟨qk, pa, pn, pc, pl⟩ := q
      dsimp only at hc e1
      by_cases hbig : (3000 : Int) < (n2 : Int)
      · go_wp2
        go_ret
        exact ⟨rfl, Below.refl _ _⟩
      · go_wp2
        go_roundg r
        case measure => exact Nat.lt_succ_self _
        case rel => exact ⟨i + 1, n2, by first | rfl | (rw [e2]) | (rw [e1, e2]), by first | rfl | (rw [ei]), rfl, T.out.1, T.out.2, by omega⟩
end Go.Proofs.YtihdhaamphdljaaDoor
