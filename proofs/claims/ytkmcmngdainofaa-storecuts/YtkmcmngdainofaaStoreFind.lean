/- chunkOf, rank, chunk.find. -/
import Derived.Test.YtkmcmngdainofaaStoreSearch
import Derived.Deep.RegionHeld3
namespace Go.Proofs.Ytkmcmngdainofaa
open Go.RowKit

theorem chunkof_raw (g : Nat) (p log r : Int) (hl : ¬ log < 0) (w : World) (h : w.cell? ⟨g, 0, none⟩ = some (.int .i64 log)) (e : p / 2 ^ min log.toNat 64 = r) : Calls Try.prog 29 #[.pointer (some ⟨g, 0, none⟩), .int .u64 p] w fun e w' => e = .returned (.agg #[.int .u64 r]) ∧ Below w.heap.size w w' := by
  have hg := World.block_lt_of_cell? w _ h
  have h2 : (w.alloc (.cells #[.int .u64 0] 51)).cell? ⟨g, 0, none⟩ = some (.int .i64 log) := (Below.cell (B := w.heap.size) ((Below.refl _ _).alloc (Nat.le_refl _) _) hg).trans h
  go_enter Try.func29, Try.ntmps29
  go_wp2
  refine bodyPost_ret (v := .agg #[.int .u64 r]) ?_ rfl ⟨rfl, (Below.refl _ _).alloc (Nat.le_refl _) _⟩
  simp [results, Try.f29, go_sem]
theorem rank_raw (g o : Nat) (lv bit k x : Int) (r : Nat) (w : World) (h : w.cell? ⟨g, o + 1, none⟩ = some (.int .u64 lv)) (e1 : IntKind.u64.wrap (bit - 1) = k) (e2 : bits .and .u64 lv k = x) (c : ∀ w, Calls Try.prog 47 #[.int .u64 x] w fun e w' => e = .returned (.int .i64 (r : Int)) ∧ w = w') : Calls Try.prog 40 #[.pointer (some ⟨g, o, none⟩), .int .u64 bit] w fun e w' => e = .returned (.int .i64 (r : Int)) ∧ w = w' := by
  go_enter Try.func40, Try.ntmps40
  go_wp2_with fail
  refine (c _).mono ?_
  rintro e w' ⟨rfl, rfl⟩
  go_wp2
  go_ret
  exact ⟨rfl, rfl⟩
/-- how many of the bits below the place k are set. -/
theorem rank_ok (g o lv k : Nat) (hlv : lv < 2 ^ 64) (hk : k < 64) (w : World) (h : w.cell? ⟨g, o + 1, none⟩ = some (.int .u64 (lv : Int))) : Calls Try.prog 40 #[.pointer (some ⟨g, o, none⟩), .int .u64 ((2 ^ k : Nat) : Int)] w fun e w' => e = .returned (.int .i64 ((POP (lv % 2 ^ k) : Nat) : Int)) ∧ w = w' := by
  have hp := Nat.two_pow_pos k
  have h2 : 2 ^ k < 2 ^ 64 := Nat.pow_lt_pow_right (by decide) hk
  have e1 : IntKind.u64.wrap (((2 ^ k : Nat) : Int) - 1) = ((2 ^ k - 1 : Nat) : Int) := wrap_nat (by omega) (by omega)
  have e2 : bits .and .u64 (lv : Int) ((2 ^ k - 1 : Nat) : Int) = ((lv % 2 ^ k : Nat) : Int) := by
    rw [and_lit rfl rfl hlv (by omega), Nat.and_two_pow_sub_one_eq_mod]
  exact rank_raw g o lv _ _ _ _ w h e1 e2 (fun w => onescount_ok _ (Nat.lt_of_le_of_lt (Nat.mod_le _ _) hlv) w)
/-- where the row of a place stands in a chunk. -/
theorem find_ok (g : Nat) (a : Option Addr) (n cap : Nat) (rs : List RW) (p : Nat) (hl : rs.length = n) (hn : n < 2 ^ 40) (hR : Rises rs) (w : World) (hL : RowsLie w a rs) (hc : w.cell? ⟨g, 0, none⟩ = some (.slice a n cap)) : Calls Try.prog 39 #[.pointer (some ⟨g, 0, none⟩), .int .u64 (p : Int)] w fun e w' => SEARCHED rs (p / 64) w e w' := by
  have cs : Calls Try.prog 49 #[.slice a n cap, .int .u64 ((p / 64 : Nat) : Int), .func (.func 50) #[] #[]] w.drew fun e w' => SEARCHED rs (p / 64) w e w' := (search_ok a n cap rs (p / 64) hl hn hR w.drew hL).mono fun e w' ⟨i, b, h1, h2, h3, h4⟩ => ⟨i, b, h1, h2, h3, (Below.refl w.heap.size w).drew.trans h4⟩
  have cr := fun w => rowof_ok p w
  clear hL hR hn
  go_enter Try.func39, Try.ntmps39
  go_wp2_with fail
  go_region_held3 (fun W : World => W.cell? ⟨g, 0, none⟩ = some (.slice a n cap)) (first | assumption | go_keep) (first
    | (go_at_call 17; refine (cr _).mono ?_; rintro e w2 ⟨rfl, rfl⟩)
    | (go_at_call 49; refine cs.mono ?_; rintro e w3 ⟨i, b, rfl, s1, s2, s3⟩; have S : Aside (Stands rs (p / 64) i ∧ (b = true ↔ ∃ r : RW, rs[i]? = some r ∧ r.num = p / 64) ∧ Below w.heap.size w w3) := ⟨s1, s2, s3⟩; have hc3 : w3.cell? ⟨g, 0, none⟩ = some (.slice a n cap) := (s3.cell (World.block_lt_of_cell? w _ hc)).trans hc; clear s1 s2 s3))
  go_wp2
  go_ret2
  exact ⟨i, b, rfl, S.out⟩
end Go.Proofs.Ytkmcmngdainofaa
