/- A store of a list of hashes: massiflaw5.fill. -/
import Derived.Test.YtkmcmngdainofaaStoreDrop
namespace Go.Proofs.Ytkmcmngdainofaa
open Go.RowKit Go.Maps
set_option maxRecDepth 100000

/-- a slice of hashes lies there. -/
def HLIE (w : World) (a : Option Addr) (n : Nat) (hs : Nat → Nat → Nat) : Prop := 0 < n → ∃ b o, a = some ⟨b, o, none⟩ ∧ b < w.heap.size ∧ ∀ i, i < n → w.rangeAt b (o + i * 32) (ULIST .u8 32 (hs i))
theorem STORE.fresh (w : World) (log : Nat) (h : log ≤ 16) : STORE (w.alloc (.cells (FRESH log) 47)) w.heap.size w.heap.size log 0 0 0 (fun _ => none) ∧ PINS (w.alloc (.cells (FRESH log) 47)) w.heap.size w.heap.size 0 (fun _ => none) (fun _ => 0) := by
  have hh : Has (w.alloc (.cells (FRESH log) 47)) w.heap.size (FRESH log) 47 := Has.new w _ _
  refine ⟨⟨h, by decide, hh.cell 0, hh.cell 1, hh.cell 2, fun i _ => hh.frozen i, ⟨_, _, _, hh, by decide, by decide, by decide⟩, ⟨none, hh.cell 3, fun _ _ => rfl, fun b e => by cases e⟩, fun k gc rs e => (by cases e), fun k k' gc gc' rs rs' _ e => by cases e⟩, ⟨⟨none, hh.cell 4, fun _ _ => rfl, fun b e => by cases e⟩⟩⟩
/-- a store that has just these hashes, all living, none with a pin. -/
def FILLED (w : World) (B g log n : Nat) (hs : Nat → Nat → Nat) : Prop := ∃ C, STORE w B g log n n n C ∧ PINS w B g 0 C (fun _ => 0) ∧ (∀ p, AT C log p = if p < n then some (hs p) else none) ∧ FULL C
theorem FILLED.fresh (w : World) (log : Nat) (h : log ≤ 16) (hs : Nat → Nat → Nat) : FILLED (w.alloc (.cells (FRESH log) 47)) w.heap.size w.heap.size log 0 hs := by
  obtain ⟨h1, h2⟩ := STORE.fresh w log h
  exact ⟨_, h1, h2, fun p => rfl, fun k gc rs e => by cases e⟩
theorem FILLED.push {w w' : World} {B g log n : Nat} {hs : Nat → Nat → Nat} {C : CHUNKS} (hS : STORE w B g log n n n C) (hP : PINS w B g 0 C (fun _ => 0)) (hA : ∀ p, AT C log p = if p < n then some (hs p) else none) (hF : FULL C) (h : PUSHED w B g log n n n C (hs n) w') : FILLED w' B g log (n + 1) hs := by
  obtain ⟨C', c1, c2, c3, c4⟩ := h
  obtain ⟨cs, t, fr, k1, _⟩ := hS.kind
  refine ⟨C', c1, hP.step c3 ⟨cs, t, fr, k1⟩, fun p => ?_, c3.full hF⟩
  rw [c2, hA]
  by_cases e : p = n
  · subst e; rw [if_pos rfl, if_pos (by omega)]
  · rw [if_neg e]
    by_cases e2 : p < n
    · rw [if_pos e2, if_pos (by omega)]
    · rw [if_neg e2, if_neg (by omega)]
set_option maxHeartbeats 2000000 in
theorem fill_ok (log : Nat) (hlog : log ≤ 16) (a : Option Addr) (n c : Nat) (hn : n ≤ 200) (hs : Nat → Nat → Nat) (h8 : ∀ i, i < n → ∀ j, hs i j < 256) (w : World) (hL : HLIE w a n hs) : Calls Try.prog 5 #[.int .i64 (log : Int), .slice a n c] w fun e w' =>
    e = .returned (.tuple #[.pointer (some ⟨w.heap.size, 0, none⟩), .bool true]) ∧ FILLED w' w.heap.size w.heap.size log n hs ∧ Below w.heap.size w w' := by
  have cN := storenew_ok log hlog w
  have HF : Aside (FILLED (w.alloc (.cells (FRESH log) 47)) w.heap.size w.heap.size log 0 hs ∧ Below w.heap.size w (w.alloc (.cells (FRESH log) 47))) := ⟨FILLED.fresh w log hlog hs, (Below.refl _ _).alloc (Nat.le_refl _) _⟩
  have HL : Aside (HLIE w a n hs ∧ n ≤ 200 ∧ ∀ i, i < n → ∀ j, hs i j < 256) := ⟨hL, hn, h8⟩
  clear hL hn h8 hlog
  go_enter Try.func5, Try.ntmps5
  go_wp2_with fail
  refine cN.mono ?_
  rintro e w1 ⟨rfl, rfl⟩
  clear cN
  obtain ⟨w1, hw1⟩ : ∃ w1, w.alloc (.cells (FRESH log) 47) = w1 := ⟨_, rfl⟩
  rw [hw1] at HF ⊢
  clear hw1
  go_wp2
  go_loopg [8] n (fun g s8 wx => ∃ k : Nat, k + g = n ∧ s8 = .int .i64 k ∧ Aside (FILLED wx w.heap.size w.heap.size log k hs ∧ Below w.heap.size w wx))
  case atStart => exact ⟨0, by omega, rfl, HF.out⟩
  case round =>
    obtain ⟨i, hkg, rfl, A⟩ := hrel
    cases gk with
    | zero =>
      obtain rfl : i = n := by omega
      go_wp2
      go_ret2
      exact ⟨rfl, A.out⟩
    | succ g =>
      have hlt : (i : Int) < (n : Int) := by omega
      obtain ⟨l1, l2, l3⟩ := HL.out
      obtain ⟨b, o, rfl, hb, hr⟩ := l1 (by omega)
      obtain ⟨⟨C, f1, f2, f3, f5⟩, f4⟩ := A.out
      have hr2 : wr.rangeAt b (o + i * 32) (ULIST .u8 32 (hs i)) := fun j v hv => (f4.cell (by exact hb)).trans (hr i (by omega) j v hv)
      have cP := push_ok f1 (hs i) (l3 i (by omega)) (by omega) (by omega) (Nat.le_refl _) (by omega)
      have HB : Aside (STORE wr w.heap.size w.heap.size log i i i C ∧ PINS wr w.heap.size w.heap.size 0 C (fun _ => 0) ∧ (∀ p, AT C log p = if p < i then some (hs p) else none) ∧ Below w.heap.size w wr ∧ FULL C) := ⟨f1, f2, f3, f4, f5⟩
      have hi1 : wrap64 ((i : Int) + 1) = ((i + 1 : Nat) : Int) := by unfold wrap64; omega
      have hwu : IntKind.u64.wrap (i : Int) = (i : Int) := wrap_nat rfl (by omega)
      clear l1 l2 l3 hr f1 f2 f3 f4 f5
      go_wp2_with (first
        | (refine wpList_load_mid rfl 33 (.tmp 29) rfl b (o + i * 32) rfl (ULIST .u8 32 (hs i)) _ hr2 Try.underlying33 rfl (by rw [ULIST_length]; exact info_hash) ?_)
        | fail)
      rw [← UARR_list]
      refine cP.mono ?_
      rintro e w2 ⟨rfl, hP⟩
      have HP : Aside (FILLED w2 w.heap.size w.heap.size log (i + 1) hs ∧ Below w.heap.size w w2) := by
        obtain ⟨f1, f2, f3, f4, f5⟩ := HB.out
        obtain ⟨_, _, _, _, hb2⟩ := id hP
        exact ⟨FILLED.push f1 f2 f3 f5 hP, f4.trans hb2⟩
      clear cP hP hr2
      go_wp2
      go_roundg g
      case measure => omega
      case rel => exact ⟨i + 1, by omega, by first | rfl | (rw [hi1]), HP⟩
end Go.Proofs.Ytkmcmngdainofaa
