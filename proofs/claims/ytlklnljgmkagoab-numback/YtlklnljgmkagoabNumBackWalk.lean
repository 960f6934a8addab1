/- The law NumBack: walked. -/
import Derived.Test.YtlklnljgmkagoabNumAppend
namespace Go.Proofs.Ytlklnljgmkagoab
open Go.RowKit

theorem bytes_none (w : World) (a : Option Addr) : Bytes w a 0 [] := ⟨rfl, fun h => by omega, fun x hx => by simp at hx⟩
theorem numBack_nil (a : Option Addr) (c : Nat) (hc : a = none → c = 0) (w : World) : Calls Try.prog 4 #[.slice a 0 c] w fun e w' => e = .returned (.bool true) ∧ Below w.heap.size w w' := by
  have HC : Aside (a = none → c = 0) := hc
  clear hc
  go_enter Try.func4, Try.ntmps4
  go_wp2_with (at_builtin; refine app_zero _ rfl (.tmp 8) (.tmp 9) rfl w.heap.size _ 0 [] rfl (own_empty w _ (Nat.le_refl _)) a c rfl HC.out (by omega) (by simp) ?_; intro a1 c1 w1 hown hgrow)
  have hb1 : Below w.heap.size w w1 := ((Below.refl _ _).alloc (Nat.le_refl _) _).grown hgrow (by simp) (fun k e => by cases e; exact Nat.le_refl _)
  have Hb1 : Aside (Below w.heap.size w w1) := hb1
  clear hown hgrow hb1
  refine (frombig_raw a1 0 c1 [] 0 rfl _ (bytes_none _ _) (by omega)).mono ?_
  rintro e w2 ⟨rfl, rfl⟩
  go_wp2_with fail
  refine (big_ok 0 0 (by decide) (by decide) (by decide) _).mono ?_
  rintro e w2 ⟨rfl, rfl⟩
  go_wp2_with fail
  refine (same_ok _ _ 0 0 c [] _ (bytes_none _ _) (bytes_none _ _) (by omega)).mono ?_
  rintro e w3 ⟨rfl, hb3, hs3⟩
  have Hb3 : Aside (Below w.heap.size w w3) := (Hb1.out.alloc Hb1.out.size _).trans (hb3.mono (by simp; have := Hb1.out.size; omega))
  clear hb3 hs3
  go_wp2_with fail
  refine (awake_ok _).mono ?_
  rintro e w4 ⟨rfl, hg, hb⟩
  go_wp2
  go_ret
  exact ⟨rfl, Hb3.out.trans (hb.mono Hb3.out.size)⟩
theorem numBack_long (b off n c : Nat) (l : List Int) (w : World) (hB : Bytes w (some ⟨b, off, none⟩) n l) (hn : 8 < (n : Int)) (hr : n ≤ 140737488351232) : Calls Try.prog 4 #[.slice (some ⟨b, off, none⟩) n c] w fun e w' => e = .returned (.bool true) ∧ Below w.heap.size w w' := by
  have HB : Aside (Bytes (w.alloc (.cells #[] 5)) (some ⟨b, off, none⟩) n l) := hB.below ((Below.refl _ _).alloc (Nat.le_refl _) _)
  clear hB
  go_enter Try.func4, Try.ntmps4
  go_wp2_with (at_builtin; refine app_u8 _ rfl (.tmp 8) (.tmp 9) rfl w.heap.size _ 0 [] rfl (own_empty w _ (Nat.le_refl _)) b off n c l rfl HB.out (by omega) (by omega) (by simp) ?_; intro g cap w1 hown hgrow hg)
  have hb1 : Below w.heap.size w w1 := ((Below.refl _ _).alloc (Nat.le_refl _) _).grown hgrow (by simp) (fun k e => by cases e; exact Nat.le_refl _)
  have Hb1 : Aside (Below w.heap.size w w1) := hb1
  clear hown hgrow hg hb1
  refine (frombig_long _ n cap hn _).mono ?_
  rintro e w2 ⟨rfl, rfl⟩
  go_wp2_with fail
  refine (awake_ok _).mono ?_
  rintro e w3 ⟨rfl, hg, hb⟩
  go_wp2
  go_ret
  exact ⟨rfl, Hb1.out.trans (hb.mono Hb1.out.size)⟩
theorem numBack_short (b off n c : Nat) (l : List Int) (w : World) (hB : Bytes w (some ⟨b, off, none⟩) n l) (h0 : 0 < n) (hn : n ≤ 8) : Calls Try.prog 4 #[.slice (some ⟨b, off, none⟩) n c] w fun e w' => e = .returned (.bool true) ∧ Below w.heap.size w w' := by
  have HB0 : Aside (Bytes w (some ⟨b, off, none⟩) n l) := hB
  have HB : Aside (Bytes (w.alloc (.cells #[] 5)) (some ⟨b, off, none⟩) n l) := hB.below ((Below.refl _ _).alloc (Nat.le_refl _) _)
  obtain ⟨X, hX⟩ : ∃ X : Nat, BIGV l = (X : Int) := ⟨(BIGV l).toNat, by have := (BIGV_bounds l hB.2.2).1; omega⟩
  have hXl : X < 2 ^ 64 := by
    have h := (BIGV_bounds l hB.2.2).2
    rw [hX, hB.1] at h
    have h7 := Nat.pow_le_pow_right (n := 256) (by decide) hn
    have e : ((256 ^ n : Nat) : Int) = 256 ^ n := by rw [Int.natCast_pow]; rfl
    omega
  have HX : Aside (BIGV l = (X : Int) ∧ X < 2 ^ 64) := ⟨hX, hXl⟩
  clear hB hX hXl
  have hn8 : ¬ 8 < (n : Int) := by omega
  go_enter Try.func4, Try.ntmps4
  go_wp2_with (at_builtin; refine app_u8 _ rfl (.tmp 8) (.tmp 9) rfl w.heap.size _ 0 [] rfl (own_empty w _ (Nat.le_refl _)) b off n c l rfl HB.out (by omega) (by omega) (by simp) ?_; intro g cap w1 hown hgrow hg)
  have hb1 : Below w.heap.size w w1 := ((Below.refl _ _).alloc (Nat.le_refl _) _).grown hgrow (by simp) (fun k e => by cases e; exact Nat.le_refl _)
  have Hb1 : Aside (Below w.heap.size w w1) := hb1
  rw [Nat.zero_add] at hown
  have hB1 : Bytes w1 (some ⟨g, 0, none⟩) n l := own_bytes hown hg HB.out.2.2
  have HB1 : Aside (Bytes w1 (some ⟨g, 0, none⟩) n l) := hB1
  clear hown hgrow hg hb1 hB1
  refine (frombig_raw _ n cap l X HX.out.1.symm _ HB1.out hn).mono ?_
  rintro e w2 ⟨rfl, rfl⟩
  go_wp2_with fail
  refine (big_ok X n HX.out.2 hn (by have := BIGV_fits l HB.out.2.2 X HX.out.1; rw [HB.out.1] at this; exact this) _).mono ?_
  rintro e w2 ⟨rfl, rfl⟩
  go_wp2_with fail
  refine (same_ok _ _ n n c l _ (row_bytes w1 n _ l HB.out.1 (fun i hi => by have := BIGV_byte l HB.out.2.2 X HX.out.1 i (by rw [HB.out.1]; exact hi); rw [HB.out.1] at this; exact this) HB.out.2.2) ((HB0.out.below Hb1.out).below ((Below.refl _ _).alloc (Nat.le_refl _) _)) (by omega)).mono ?_
  rintro e w3 ⟨rfl, hb3, hs3⟩
  have Hb3 : Aside (Below w.heap.size w w3) := (Hb1.out.alloc Hb1.out.size _).trans (hb3.mono (by simp; have := Hb1.out.size; omega))
  clear hb3 hs3
  go_wp2_with fail
  refine (awake_ok _).mono ?_
  rintro e w4 ⟨rfl, hg, hb⟩
  go_wp2
  go_ret
  exact ⟨rfl, Hb3.out.trans (hb.mono Hb3.out.size)⟩
theorem numBack_walk (a0 : Option Addr) (len0 cap0 : Nat) (z0 : List Int) (w : World) (w0 : IsRow .u8 w a0 len0 cap0 z0) (s0 : cap0 ≤ 140737488351232) :
    Calls Try.prog 4 #[.slice a0 len0 cap0] w fun e w' => e = .returned (.bool true) ∧ Below w.heap.size w w' := by
  have hB := w0.bytes
  have hc : a0 = none → cap0 = 0 := fun h => by
    rcases w0 with ⟨_, _, h0, _⟩ | ⟨x, hx, _⟩
    · exact h0
    · rw [h] at hx; cases hx
  have hl : len0 ≤ cap0 := by
    rcases w0 with ⟨_, h0, _, _⟩ | ⟨x, _, hl, _⟩
    · omega
    · exact hl
  rcases Nat.eq_zero_or_pos len0 with h | h
  · subst h
    exact numBack_nil a0 cap0 hc w
  · obtain ⟨b, off, rfl, _, _⟩ := hB.2.1 h
    by_cases h8 : len0 ≤ 8
    · exact numBack_short b off len0 cap0 _ w hB h h8
    · exact numBack_long b off len0 cap0 _ w hB (by omega) (by omega)
end Go.Proofs.Ytlklnljgmkagoab
