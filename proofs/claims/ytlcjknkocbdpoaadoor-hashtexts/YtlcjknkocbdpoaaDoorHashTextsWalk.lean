/- The walk of HashTexts. -/
import Derived.Test.YtlcjknkocbdpoaaDoorHashSumTexts
import Derived.Test.YtlcjknkocbdpoaaDoorHashGiven
import Derived.Test.YtlcjknkocbdpoaaDoorHashFam
import Derived.Test.YtlcjknkocbdpoaaDoorHashTextsState
import Derived.Test.YtlcjknkocbdpoaaDoorHashAwake
import Derived.Test.YtlcjknkocbdpoaaDoorHashWidthsWalk
import Derived.Deep.RegionHeld3
import Derived.Deep.MidRow
namespace Go.Proofs.YtlcjknkocbdpoaaDoor
open Go.RowKit
set_option maxRecDepth 100000

/-- what lies there all the while: the two hashes, the list that was given, and the tables. -/
structure Lay (w w1 : World) (bl br g n c' : Nat) (a : Option Addr) (l : List Nat) (L R : Nat → Nat) (W : World) : Prop where
  bel : Below w.heap.size w W
  giv : W.ownsRow w.heap.size 5 1 (.slice (some ⟨g, 0, none⟩) (n + 1) c') (n + 1) (BY (l ++ [171]))
  txt : Text W (some ⟨g, 0, none⟩) n l
  dat : Text W a n l
  tab : Tabled W
  hl : W.rangeAt bl 0 (ULIST .u8 32 L)
  hr : W.rangeAt br 0 (ULIST .u8 32 R)
  bb : bl < w1.heap.size ∧ br < w1.heap.size ∧ g < w1.heap.size ∧ w1.heap.size ≤ W.heap.size ∧ n ≤ c' ∧ n + 1 ≤ c'
theorem Lay.keep {w w1 : World} {bl br g n c' : Nat} {a : Option Addr} {l : List Nat} {L R : Nat → Nat} {W W' : World} (h : Lay w w1 bl br g n c' a l L R W) (hb : Below W.heap.size W W') : Lay w w1 bl br g n c' a l L R W' :=
  ⟨h.bel.trans (hb.mono h.bel.size), own_keep h.giv hb, h.txt.below hb, h.dat.below hb, h.tab.below hb, range_below h.hl hb (by have := h.bb; omega), range_below h.hr hb (by have := h.bb; omega), h.bb.1, h.bb.2.1, h.bb.2.2.1, Nat.le_trans h.bb.2.2.2.1 hb.size, h.bb.2.2.2.2⟩
theorem anyH_as {ops : Array Oper} {Q : Exit → Act → World → Prop} {md : Region.Mode} {S : World → Prop} {fuel : Nat} {listed : Array Bool} {a a' : Act} {w : World} (fuel' : Nat) (listed' : Array Bool) (hf : fuel = fuel') (hl : listed = listed') (ha : a = a') (h : wpAnyH Tryd.prog md ops Q S fuel' listed' a' w) : wpAnyH Tryd.prog md ops Q S fuel listed a w := by
  subst hf hl ha
  exact h
theorem anyH_one {ops : Array Oper} {Q : Exit → Act → World → Prop} {md : Region.Mode} {S : World → Prop} {fuel : Nat} {listed : Array Bool} {a : Act} {w : World} {o : Oper} (i : Nat) (hr : Region.ready md ops listed = [i]) (ho : ops[i]? = some o)
    (h : ∀ K' : Act → World → Prop, Shut (∀ a w, S w → (S w → wpAnyH Tryd.prog md ops Q S fuel (listed.setIfInBounds i true) a w) → K' a w) → if Region.wanted o (yielded ops a.tmps) = true then Oper.wp Tryd.prog o a w K' Q else K' (a.put o.dst undef) w) : wpAnyH Tryd.prog md ops Q S (fuel + 1) listed a w :=
  wpAnyH_ready hr (by simp) (AllReadyH.cons ho h AllReadyH.nil)
/-- texts, as values, that lie there. -/
def Txts (w : World) (ts : List (Value × List Nat)) : Prop := ∀ p ∈ ts, ∃ a n c, p.1 = .slice a n c ∧ Text w a n p.2
theorem Txts.below {w w' : World} {ts : List (Value × List Nat)} (h : Txts w ts) (hb : Below w.heap.size w w') : Txts w' ts := fun p hp => by
  obtain ⟨a, n, c, e, ht⟩ := h p hp
  exact ⟨a, n, c, e, ht.below hb⟩
theorem Txts.one {w : World} {B n c : Nat} {a : Option Addr} {l : List Nat} (h : w.ownsRow B 5 1 (.slice a n c) n (BY l)) (hs : Small8 l) : Txts w [(.slice a n c, l)] := fun p hp => by
  simp only [List.mem_singleton] at hp
  subst hp
  exact ⟨a, n, c, rfl, own_text h hs⟩
theorem Txts.snoc {w : World} {ts : List (Value × List Nat)} {B n c : Nat} {a : Option Addr} {l : List Nat} (ht : Txts w ts) (h : w.ownsRow B 5 1 (.slice a n c) n (BY l)) (hs : Small8 l) : Txts w (ts ++ [(.slice a n c, l)]) := fun p hp => by
  rcases List.mem_append.1 hp with hp | hp
  · exact ht p hp
  · exact Txts.one h hs p hp
/-- the four texts. -/
def TXT (l : List Nat) (L R : Nat → Nat) (m : Nat) (x : Nat) : List Nat := if x = 0 then 0 :: l else if x = 1 then 1 :: ((List.range 32).map L ++ (List.range 32).map R) else if x = 2 then 2 :: ((List.range 32).map L ++ (List.range 32).map R) else 3 :: (BE8 m ++ (List.range 32).map L)
/-- their lengths. -/
def TLEN (n : Nat) (x : Nat) : Nat := if x = 0 then n + 1 else if x = 1 then 65 else if x = 2 then 65 else 41
theorem anyH_two {ops : Array Oper} {Q : Exit → Act → World → Prop} {md : Region.Mode} {S : World → Prop} {fuel : Nat} {listed : Array Bool} {a : Act} {w : World} {o o' : Oper} (i j : Nat) (hr : Region.ready md ops listed = [i, j]) (ho : ops[i]? = some o) (ho' : ops[j]? = some o')
    (h : ∀ K' : Act → World → Prop, Shut (∀ a w, S w → (S w → wpAnyH Tryd.prog md ops Q S fuel (listed.setIfInBounds i true) a w) → K' a w) → if Region.wanted o (yielded ops a.tmps) = true then Oper.wp Tryd.prog o a w K' Q else K' (a.put o.dst undef) w)
    (h' : ∀ K' : Act → World → Prop, Shut (∀ a w, S w → (S w → wpAnyH Tryd.prog md ops Q S fuel (listed.setIfInBounds j true) a w) → K' a w) → if Region.wanted o' (yielded ops a.tmps) = true then Oper.wp Tryd.prog o' a w K' Q else K' (a.put o'.dst undef) w) : wpAnyH Tryd.prog md ops Q S (fuel + 1) listed a w :=
  wpAnyH_ready hr (by simp) (AllReadyH.cons ho h (AllReadyH.cons ho' h' AllReadyH.nil))
theorem texts_long (d : Int) (a : Option Addr) (n c : Nat) (L R : Nat → Nat) (m : Int) (h : (3000 : Int) < (n : Int)) (w : World) : Calls Tryd.prog 3 #[.int .i64 d, .slice a n c, .agg (UARR .u8 32 L), .agg (UARR .u8 32 R), .int .u64 m] w fun e w' => e = .returned (.bool true) ∧ Below w.heap.size w w' := by
  go_enter Tryd.func3, Tryd.ntmps3
  go_wp2
  go_ret
  exact ⟨rfl, ((Below.refl _ _).alloc (Nat.le_refl _) _).alloc (by simp) _⟩
set_option maxHeartbeats 4000000 in
theorem texts_core (d : Int) (a : Option Addr) (n c : Nat) (l : List Nat) (L R : Nat → Nat) (m : Nat) (w : World) (hA : Text w a n l) (hc : a = none → c = 0) (hn : ¬ (3000 : Int) < (n : Int)) (hL : ∀ i, L i < 256) (hR : ∀ i, R i < 256) (hm : m < 2 ^ 64) (hT : Tabled w) :
    Calls Tryd.prog 3 #[.int .i64 d, .slice a n c, .agg (UARR .u8 32 L), .agg (UARR .u8 32 R), .int .u64 (m : Int)] w fun e w' => e = .returned (.bool true) ∧ Below w.heap.size w w' := by
  obtain ⟨w0, bl, br, hw0, hbl, hbr, U⟩ : ∃ w0 bl br, w0 = (w.alloc (.cells (UARR .u8 32 L) 24)).alloc (.cells (UARR .u8 32 R) 24) ∧ bl = w.heap.size ∧ br = w.heap.size + 1 ∧ Aside (Below w.heap.size w w0 ∧ w0.rangeAt bl 0 (ULIST .u8 32 L) ∧ w0.rangeAt br 0 (ULIST .u8 32 R) ∧ bl < w0.heap.size ∧ br < w0.heap.size) :=
    ⟨_, _, _, rfl, rfl, rfl, ((Below.refl _ _).alloc (Nat.le_refl _) _).alloc (by simp) _, ((Has.new w _ _).alloc _).whole, (Has.at _ _ _ (by simp)).whole, by simp; omega, by simp⟩
  have H : Aside (n ≤ 3000 ∧ (∀ i, L i < 256) ∧ (∀ i, R i < 256) ∧ m < 2 ^ 64 ∧ Small8 l ∧ l.length = n ∧ (a = none → c = 0)) := ⟨by omega, hL, hR, hm, hA.2.2, hA.1, hc⟩
  have cr := row_own a n c l w0 (hA.below U.out.1) hc (by omega)
  have HA : Aside (Text w a n l ∧ Tabled w) := ⟨hA, hT⟩
  have hu1 := Tryd.underlying24
  have hiL : (Tryd.prog.info? 24).map (·.size) = some (ULIST .u8 32 L).length := by rw [ULIST_length]; exact info_hash
  have hiR : (Tryd.prog.info? 24).map (·.size) = some (ULIST .u8 32 R).length := by rw [ULIST_length]; exact info_hash
  have heq : ∀ (F : Nat → Nat) (w : World), (Op.equalIn 10000 24 (.agg (UARR .u8 32 F)) (.agg (UARR .u8 32 F))).run Tryd.prog w = .ok true w := equal_same
  clear hA hc hL hR hm hT
  go_enter Tryd.func3, Tryd.ntmps3
  go_wp2_with fail
  rw [← hw0, ← hbr]
  have HBL : Aside (bl = w.heap.size) := hbl
  rw [← hbl]
  refine cr.mono ?_
  rintro e w1 ⟨g, c', rfl, hown, hb⟩
  have Y1 : Aside (Lay w w1 bl br g n c' a l L R w1) := by
    obtain ⟨u1, u2, u3, u4, u5⟩ := U.out
    have hbw := u1.trans (hb.mono u1.size)
    have hs : Small8 (l ++ [171]) := small_snoc H.out.2.2.2.2.1
    have ho := own_bytes_any hown (INTS_bounds hs)
    have ht : Text w1 (some ⟨g, 0, none⟩) (n + 1) (l ++ [171]) := Text.of_bytes ho.1
    refine ⟨hbw, own_mono hown u1.size, ht.front, HA.out.1.below hbw, HA.out.2.below hbw, range_below u2 hb u4, range_below u3 hb u5, Nat.lt_of_lt_of_le u4 hb.size, Nat.lt_of_lt_of_le u5 hb.size, (hown.lt g rfl).2, Nat.le_refl _, by have := ho.2; omega, ho.2⟩
  clear cr hown hb hw0 hbl hbr U
  obtain ⟨F0, F1, F2, F3, k10, k11, k12, k13, k14, k15, k16, k17⟩ : ∃ F0 F1 F2 F3 : Nat → Nat, Aside (∀ W : World, Lay w w1 bl br g n c' a l L R W → Calls Tryd.prog 10 #[.int .i64 d, .slice (some ⟨g, 0, none⟩) n c'] W fun e w' => e = .returned (.agg (UARR .u8 32 F0)) ∧ Below W.heap.size W w') ∧ Aside (∀ W : World, Lay w w1 bl br g n c' a l L R W → Calls Tryd.prog 11 #[.int .i64 d, .slice a n c] W fun e w' => e = .returned (.agg (UARR .u8 32 F0)) ∧ Below W.heap.size W w') ∧ Aside (∀ W : World, Lay w w1 bl br g n c' a l L R W → Calls Tryd.prog 12 #[.int .i64 d, .agg (ULIST .u8 32 L).toArray, .agg (ULIST .u8 32 R).toArray] W fun e w' => e = .returned (.agg (UARR .u8 32 F1)) ∧ Below W.heap.size W w') ∧ Aside (∀ W : World, Lay w w1 bl br g n c' a l L R W → Calls Tryd.prog 13 #[.int .i64 d, .agg (ULIST .u8 32 L).toArray, .agg (ULIST .u8 32 R).toArray] W fun e w' => e = .returned (.agg (UARR .u8 32 F1)) ∧ Below W.heap.size W w') ∧ Aside (∀ W : World, Lay w w1 bl br g n c' a l L R W → Calls Tryd.prog 14 #[.int .i64 d, .agg (ULIST .u8 32 L).toArray, .agg (ULIST .u8 32 R).toArray] W fun e w' => e = .returned (.agg (UARR .u8 32 F2)) ∧ Below W.heap.size W w') ∧ Aside (∀ W : World, Lay w w1 bl br g n c' a l L R W → Calls Tryd.prog 15 #[.int .i64 d, .agg (ULIST .u8 32 L).toArray, .agg (ULIST .u8 32 R).toArray] W fun e w' => e = .returned (.agg (UARR .u8 32 F2)) ∧ Below W.heap.size W w') ∧ Aside (∀ W : World, Lay w w1 bl br g n c' a l L R W → Calls Tryd.prog 16 #[.int .i64 d, .int .u64 (m : Int), .agg (ULIST .u8 32 L).toArray] W fun e w' => e = .returned (.agg (UARR .u8 32 F3)) ∧ Below W.heap.size W w') ∧ Aside (∀ W : World, Lay w w1 bl br g n c' a l L R W → Calls Tryd.prog 17 #[.int .i64 d, .int .u64 (m : Int), .agg (ULIST .u8 32 L).toArray] W fun e w' => e = .returned (.agg (UARR .u8 32 F3)) ∧ Below W.heap.size W w') :=
    ⟨HASHOF d (0 :: l), HASHOF d (1 :: ((List.range 32).map L ++ (List.range 32).map R)), HASHOF d (2 :: ((List.range 32).map L ++ (List.range 32).map R)), HASHOF d (3 :: (BE8 m ++ (List.range 32).map L)), fun W h => leaf_ok d _ n c' l W h.txt (by simp) (by have := H.out.1; omega) h.bb.2.2.2.2.1 (fun x e => by cases e; have := h.bb; simp; omega) h.tab, fun W h => refleaf_ok d _ n c l W h.dat H.out.2.2.2.2.2.2 (by have := H.out.1; omega), fun W h => node_ok d L R H.out.2.1 H.out.2.2.1 W h.tab, fun W h => refnode_ok d L R H.out.2.1 H.out.2.2.1 W, fun W h => fold_ok d L R H.out.2.1 H.out.2.2.1 W h.tab, fun W h => reffold_ok d L R H.out.2.1 H.out.2.2.1 W, fun W h => root_ok d m H.out.2.2.2.1 L H.out.2.1 W h.tab, fun W h => refroot_ok d m H.out.2.2.2.1 L H.out.2.1 W⟩
  have Y2 : Aside (Lay w w1 bl br g n c' a l L R w1.drew) := Y1.out.keep (Below.refl _ _).drew
  go_wp2_with fail
  refine wp_region_held_drew (S := fun W : World => W.rangeAt bl 0 (ULIST .u8 32 L) ∧ W.rangeAt br 0 (ULIST .u8 32 R)) (by kernel_rfl) ⟨Y2.out.hl, Y2.out.hr⟩ (fun hHeld => ?_)
  refine wpAnyH_take (i := 0) (oi := { dst := some 26, op := Op.move (Operand.tmp 0), type := 3, pos := "law.go:70", after := #[], guard := none }) (v := .int .i64 d) rfl (by kernel_rfl) (by kernel_rfl) (by kernel_rfl) (fun _ _ _ h => h) (Yields.yieldsIf (Or.inl ⟨by rfl, fun W => by go_simp⟩)) (by exact hHeld) ?_
  simp only [Act.put, List.setIfInBounds_toArray, List.set_cons_zero, List.set_cons_succ]
  refine wpAnyH_take (i := 1) (oi := { dst := some 27, op := Op.move (Operand.tmp 11), type := 22, pos := "law.go:70", after := #[], guard := none }) (v := .slice (some ⟨g, 0, none⟩) n c') rfl (by kernel_rfl) (by kernel_rfl) (by kernel_rfl) (fun _ _ _ h => h) (Yields.yieldsIf (Or.inl ⟨by rfl, fun W => by go_simp⟩)) (by exact hHeld) ?_
  simp only [Act.put, List.setIfInBounds_toArray, List.set_cons_zero, List.set_cons_succ]
  refine wpAnyH_take (i := 3) (oi := { dst := some 29, op := Op.move (Operand.tmp 0), type := 3, pos := "law.go:70", after := #[], guard := none }) (v := .int .i64 d) rfl (by kernel_rfl) (by kernel_rfl) (by kernel_rfl) (fun _ _ _ h => h) (Yields.yieldsIf (Or.inl ⟨by rfl, fun W => by go_simp⟩)) (by exact hHeld) ?_
  simp only [Act.put, List.setIfInBounds_toArray, List.set_cons_zero, List.set_cons_succ]
  refine wpAnyH_take (i := 4) (oi := { dst := some 30, op := Op.move (Operand.tmp 1), type := 22, pos := "law.go:70", after := #[], guard := none }) (v := .slice a n c) rfl (by kernel_rfl) (by kernel_rfl) (by kernel_rfl) (fun _ _ _ h => h) (Yields.yieldsIf (Or.inl ⟨by rfl, fun W => by go_simp⟩)) (by exact hHeld) ?_
  simp only [Act.put, List.setIfInBounds_toArray, List.set_cons_zero, List.set_cons_succ]
  refine anyH_as (a' := ?Nr1) 36 #[true, true, false, true, true, false, false, false, false, false, false, false, false, false, false, false, false, false, false, false, false, false, false, false, false, false, false, false, false, false, false, false, false, false, false, false, false, false, false, false] (by kernel_rfl) (by kernel_rfl) ?HNr1 ?HMr1
  case HNr1 =>
    go_simp
    exact rfl
  refine anyH_one (o := { dst := some 28, op := Op.call { callee := Callee.value (Operand.func 10), args := #[Operand.tmp 26, Operand.tmp 27], argTypes := #[3, 22] }, type := 24, pos := "law.go:70", after := #[{ on := 0, ground := Ground.data }, { on := 1, ground := Ground.data }], guard := none }) 2 (by kernel_rfl) rfl (fun K hK => ?_)
  rw [if_pos (by rfl)]
  go_simp
  refine (k10.out _ Y2.out).mono ?_
  rintro e w5 ⟨rfl, hb5⟩
  have Y5 : Aside (Lay w w1 bl br g n c' a l L R w5) := Y2.out.keep hb5
  refine hK.out _ _ ⟨Y5.out.hl, Y5.out.hr⟩ (fun hHeld5 => ?_)
  clear hK K hb5  k10 hHeld
  refine anyH_as (a' := ?Nr2) 35 #[true, true, true, true, true, false, false, false, false, false, false, false, false, false, false, false, false, false, false, false, false, false, false, false, false, false, false, false, false, false, false, false, false, false, false, false, false, false, false, false] (by kernel_rfl) (by kernel_rfl) ?HNr2 ?HMr2
  case HNr2 =>
    go_simp
    exact rfl
  refine anyH_one (o := { dst := some 31, op := Op.call { callee := Callee.value (Operand.func 11), args := #[Operand.tmp 29, Operand.tmp 30], argTypes := #[3, 22] }, type := 24, pos := "law.go:70", after := #[{ on := 3, ground := Ground.data }, { on := 4, ground := Ground.data }, { on := 2, ground := Ground.chain }], guard := none }) 5 (by kernel_rfl) rfl (fun K hK => ?_)
  rw [if_pos (by rfl)]
  go_simp
  refine (k11.out _ Y5.out).mono ?_
  rintro e w6 ⟨rfl, hb6⟩
  have Y6 : Aside (Lay w w1 bl br g n c' a l L R w6) := Y5.out.keep hb6
  refine hK.out _ _ ⟨Y6.out.hl, Y6.out.hr⟩ (fun hHeld6 => ?_)
  clear hK K hb6 Y5 k11 hHeld5
  refine anyH_as (a' := ?Nr3) 34 #[true, true, true, true, true, true, false, false, false, false, false, false, false, false, false, false, false, false, false, false, false, false, false, false, false, false, false, false, false, false, false, false, false, false, false, false, false, false, false, false] (by kernel_rfl) (by kernel_rfl) ?HNr3 ?HMr3
  case HNr3 =>
    go_simp
    exact rfl
  refine wpAnyH_take (i := 6) (oi := { dst := some 32, op := Op.binOp BinOp.neq 24 (Operand.tmp 28) (Operand.tmp 31) 24, type := 4, pos := "law.go:70", after := #[{ on := 2, ground := Ground.data }, { on := 5, ground := Ground.data }], guard := none }) (v := .bool false) rfl (by kernel_rfl) (by kernel_rfl) (by kernel_rfl) (fun _ _ _ h => h) (Yields.yieldsIf (Or.inl ⟨by rfl, fun W => by go_simp⟩)) (by exact hHeld6) ?_
  simp only [Act.put, List.setIfInBounds_toArray, List.set_cons_zero, List.set_cons_succ]
  refine wpAnyH_take (i := 7) (oi := { dst := some 33, op := Op.move (Operand.tmp 32), type := 4, pos := "law.go:70", after := #[{ on := 6, ground := Ground.data }, { on := 5, ground := Ground.chain }], guard := none }) (v := .bool false) rfl (by kernel_rfl) (by kernel_rfl) (by kernel_rfl) (fun _ _ _ h => h) (Yields.yieldsIf (Or.inl ⟨by rfl, fun W => by go_simp⟩)) (by exact hHeld6) ?_
  simp only [Act.put, List.setIfInBounds_toArray, List.set_cons_zero, List.set_cons_succ]
  refine wpAnyH_take (i := 8) (oi := { dst := some 34, op := Op.move (Operand.tmp 0), type := 3, pos := "law.go:70", after := #[{ on := 7, ground := Ground.guard }], guard := some (7, false) }) (v := .int .i64 d) rfl (by kernel_rfl) (by kernel_rfl) (by kernel_rfl) (fun _ _ _ h => h) (Yields.yieldsIf (Or.inl ⟨by rfl, fun W => by go_simp⟩)) (by exact hHeld6) ?_
  simp only [Act.put, List.setIfInBounds_toArray, List.set_cons_zero, List.set_cons_succ]
  refine wpAnyH_take (i := 9) (oi := { dst := some 35, op := Op.load 24 (Operand.tmp 7), type := 24, pos := "law.go:70", after := #[{ on := 7, ground := Ground.guard }], guard := some (7, false) }) (v := .agg (ULIST .u8 32 L).toArray) rfl (by kernel_rfl) (by kernel_rfl) (by kernel_rfl) (fun _ _ _ h => h) (yieldsIf_load_mid (by rfl) 24 (.tmp 7) (by rfl) bl 0 (by rfl) (ULIST .u8 32 L) (.array 32 5) (fun _ h => h.1) hu1 (by rfl) hiL) (by exact hHeld6) ?_
  simp only [Act.put, List.setIfInBounds_toArray, List.set_cons_zero, List.set_cons_succ]
  refine wpAnyH_take (i := 10) (oi := { dst := some 36, op := Op.load 24 (Operand.tmp 8), type := 24, pos := "law.go:70", after := #[{ on := 7, ground := Ground.guard }], guard := some (7, false) }) (v := .agg (ULIST .u8 32 R).toArray) rfl (by kernel_rfl) (by kernel_rfl) (by kernel_rfl) (fun _ _ _ h => h) (yieldsIf_load_mid (by rfl) 24 (.tmp 8) (by rfl) br 0 (by rfl) (ULIST .u8 32 R) (.array 32 5) (fun _ h => h.2) hu1 (by rfl) hiR) (by exact hHeld6) ?_
  simp only [Act.put, List.setIfInBounds_toArray, List.set_cons_zero, List.set_cons_succ]
  refine wpAnyH_take (i := 12) (oi := { dst := some 38, op := Op.move (Operand.tmp 0), type := 3, pos := "law.go:70", after := #[{ on := 7, ground := Ground.guard }], guard := some (7, false) }) (v := .int .i64 d) rfl (by kernel_rfl) (by kernel_rfl) (by kernel_rfl) (fun _ _ _ h => h) (Yields.yieldsIf (Or.inl ⟨by rfl, fun W => by go_simp⟩)) (by exact hHeld6) ?_
  simp only [Act.put, List.setIfInBounds_toArray, List.set_cons_zero, List.set_cons_succ]
  refine wpAnyH_take (i := 13) (oi := { dst := some 39, op := Op.load 24 (Operand.tmp 7), type := 24, pos := "law.go:70", after := #[{ on := 7, ground := Ground.guard }], guard := some (7, false) }) (v := .agg (ULIST .u8 32 L).toArray) rfl (by kernel_rfl) (by kernel_rfl) (by kernel_rfl) (fun _ _ _ h => h) (yieldsIf_load_mid (by rfl) 24 (.tmp 7) (by rfl) bl 0 (by rfl) (ULIST .u8 32 L) (.array 32 5) (fun _ h => h.1) hu1 (by rfl) hiL) (by exact hHeld6) ?_
  simp only [Act.put, List.setIfInBounds_toArray, List.set_cons_zero, List.set_cons_succ]
  refine wpAnyH_take (i := 14) (oi := { dst := some 40, op := Op.load 24 (Operand.tmp 8), type := 24, pos := "law.go:70", after := #[{ on := 7, ground := Ground.guard }], guard := some (7, false) }) (v := .agg (ULIST .u8 32 R).toArray) rfl (by kernel_rfl) (by kernel_rfl) (by kernel_rfl) (fun _ _ _ h => h) (yieldsIf_load_mid (by rfl) 24 (.tmp 8) (by rfl) br 0 (by rfl) (ULIST .u8 32 R) (.array 32 5) (fun _ h => h.2) hu1 (by rfl) hiR) (by exact hHeld6) ?_
  simp only [Act.put, List.setIfInBounds_toArray, List.set_cons_zero, List.set_cons_succ]
  refine anyH_as (a' := ?Nr4) 26 #[true, true, true, true, true, true, true, true, true, true, true, false, true, true, true, false, false, false, false, false, false, false, false, false, false, false, false, false, false, false, false, false, false, false, false, false, false, false, false, false] (by kernel_rfl) (by kernel_rfl) ?HNr4 ?HMr4
  case HNr4 =>
    go_simp
    exact rfl
  refine anyH_one (o := { dst := some 37, op := Op.call { callee := Callee.value (Operand.func 12), args := #[Operand.tmp 34, Operand.tmp 35, Operand.tmp 36], argTypes := #[3, 24, 24] }, type := 24, pos := "law.go:70", after := #[{ on := 8, ground := Ground.data }, { on := 9, ground := Ground.data }, { on := 10, ground := Ground.data }, { on := 7, ground := Ground.chain }, { on := 7, ground := Ground.guard }], guard := some (7, false) }) 11 (by kernel_rfl) rfl (fun K hK => ?_)
  rw [if_pos (by rfl)]
  go_simp
  refine (k12.out _ Y6.out).mono ?_
  rintro e w7 ⟨rfl, hb7⟩
  have Y7 : Aside (Lay w w1 bl br g n c' a l L R w7) := Y6.out.keep hb7
  refine hK.out _ _ ⟨Y7.out.hl, Y7.out.hr⟩ (fun hHeld7 => ?_)
  clear hK K hb7 Y6 k12 hHeld6
  refine anyH_as (a' := ?Nr5) 25 #[true, true, true, true, true, true, true, true, true, true, true, true, true, true, true, false, false, false, false, false, false, false, false, false, false, false, false, false, false, false, false, false, false, false, false, false, false, false, false, false] (by kernel_rfl) (by kernel_rfl) ?HNr5 ?HMr5
  case HNr5 =>
    go_simp
    exact rfl
  refine anyH_one (o := { dst := some 41, op := Op.call { callee := Callee.value (Operand.func 13), args := #[Operand.tmp 38, Operand.tmp 39, Operand.tmp 40], argTypes := #[3, 24, 24] }, type := 24, pos := "law.go:70", after := #[{ on := 12, ground := Ground.data }, { on := 13, ground := Ground.data }, { on := 14, ground := Ground.data }, { on := 11, ground := Ground.chain }, { on := 7, ground := Ground.guard }], guard := some (7, false) }) 15 (by kernel_rfl) rfl (fun K hK => ?_)
  rw [if_pos (by rfl)]
  go_simp
  refine (k13.out _ Y7.out).mono ?_
  rintro e w8 ⟨rfl, hb8⟩
  have Y8 : Aside (Lay w w1 bl br g n c' a l L R w8) := Y7.out.keep hb8
  refine hK.out _ _ ⟨Y8.out.hl, Y8.out.hr⟩ (fun hHeld8 => ?_)
  clear hK K hb8 Y7 k13 hHeld7
  refine anyH_as (a' := ?Nr6) 24 #[true, true, true, true, true, true, true, true, true, true, true, true, true, true, true, true, false, false, false, false, false, false, false, false, false, false, false, false, false, false, false, false, false, false, false, false, false, false, false, false] (by kernel_rfl) (by kernel_rfl) ?HNr6 ?HMr6
  case HNr6 =>
    go_simp
    exact rfl
  refine wpAnyH_take (i := 16) (oi := { dst := some 42, op := Op.binOp BinOp.neq 24 (Operand.tmp 37) (Operand.tmp 41) 24, type := 4, pos := "law.go:70", after := #[{ on := 11, ground := Ground.data }, { on := 15, ground := Ground.data }, { on := 7, ground := Ground.guard }], guard := some (7, false) }) (v := .bool false) rfl (by kernel_rfl) (by kernel_rfl) (by kernel_rfl) (fun _ _ _ h => h) (Yields.yieldsIf (Or.inl ⟨by rfl, fun W => by go_simp⟩)) (by exact hHeld8) ?_
  simp only [Act.put, List.setIfInBounds_toArray, List.set_cons_zero, List.set_cons_succ]
  refine wpAnyH_take (i := 17) (oi := { dst := some 43, op := Op.pick (Operand.tmp 33) (Operand.const (Value.bool true)) (Operand.tmp 42), type := 4, pos := "law.go:70", after := #[{ on := 7, ground := Ground.data }, { on := 16, ground := Ground.data }], guard := none }) (v := .bool false) rfl (by kernel_rfl) (by kernel_rfl) (by kernel_rfl) (fun _ _ _ h => h) (Yields.yieldsIf (Or.inl ⟨by rfl, fun W => by go_simp⟩)) (by exact hHeld8) ?_
  simp only [Act.put, List.setIfInBounds_toArray, List.set_cons_zero, List.set_cons_succ]
  refine wpAnyH_take (i := 18) (oi := { dst := some 44, op := Op.move (Operand.tmp 43), type := 4, pos := "law.go:70", after := #[{ on := 17, ground := Ground.data }, { on := 15, ground := Ground.chain }], guard := none }) (v := .bool false) rfl (by kernel_rfl) (by kernel_rfl) (by kernel_rfl) (fun _ _ _ h => h) (Yields.yieldsIf (Or.inl ⟨by rfl, fun W => by go_simp⟩)) (by exact hHeld8) ?_
  simp only [Act.put, List.setIfInBounds_toArray, List.set_cons_zero, List.set_cons_succ]
  refine wpAnyH_take (i := 19) (oi := { dst := some 45, op := Op.move (Operand.tmp 0), type := 3, pos := "law.go:70", after := #[{ on := 18, ground := Ground.guard }], guard := some (18, false) }) (v := .int .i64 d) rfl (by kernel_rfl) (by kernel_rfl) (by kernel_rfl) (fun _ _ _ h => h) (Yields.yieldsIf (Or.inl ⟨by rfl, fun W => by go_simp⟩)) (by exact hHeld8) ?_
  simp only [Act.put, List.setIfInBounds_toArray, List.set_cons_zero, List.set_cons_succ]
  refine wpAnyH_take (i := 20) (oi := { dst := some 46, op := Op.load 24 (Operand.tmp 7), type := 24, pos := "law.go:70", after := #[{ on := 18, ground := Ground.guard }], guard := some (18, false) }) (v := .agg (ULIST .u8 32 L).toArray) rfl (by kernel_rfl) (by kernel_rfl) (by kernel_rfl) (fun _ _ _ h => h) (yieldsIf_load_mid (by rfl) 24 (.tmp 7) (by rfl) bl 0 (by rfl) (ULIST .u8 32 L) (.array 32 5) (fun _ h => h.1) hu1 (by rfl) hiL) (by exact hHeld8) ?_
  simp only [Act.put, List.setIfInBounds_toArray, List.set_cons_zero, List.set_cons_succ]
  refine wpAnyH_take (i := 21) (oi := { dst := some 47, op := Op.load 24 (Operand.tmp 8), type := 24, pos := "law.go:70", after := #[{ on := 18, ground := Ground.guard }], guard := some (18, false) }) (v := .agg (ULIST .u8 32 R).toArray) rfl (by kernel_rfl) (by kernel_rfl) (by kernel_rfl) (fun _ _ _ h => h) (yieldsIf_load_mid (by rfl) 24 (.tmp 8) (by rfl) br 0 (by rfl) (ULIST .u8 32 R) (.array 32 5) (fun _ h => h.2) hu1 (by rfl) hiR) (by exact hHeld8) ?_
  simp only [Act.put, List.setIfInBounds_toArray, List.set_cons_zero, List.set_cons_succ]
  refine wpAnyH_take (i := 23) (oi := { dst := some 49, op := Op.move (Operand.tmp 0), type := 3, pos := "law.go:70", after := #[{ on := 18, ground := Ground.guard }], guard := some (18, false) }) (v := .int .i64 d) rfl (by kernel_rfl) (by kernel_rfl) (by kernel_rfl) (fun _ _ _ h => h) (Yields.yieldsIf (Or.inl ⟨by rfl, fun W => by go_simp⟩)) (by exact hHeld8) ?_
  simp only [Act.put, List.setIfInBounds_toArray, List.set_cons_zero, List.set_cons_succ]
  refine wpAnyH_take (i := 24) (oi := { dst := some 50, op := Op.load 24 (Operand.tmp 7), type := 24, pos := "law.go:70", after := #[{ on := 18, ground := Ground.guard }], guard := some (18, false) }) (v := .agg (ULIST .u8 32 L).toArray) rfl (by kernel_rfl) (by kernel_rfl) (by kernel_rfl) (fun _ _ _ h => h) (yieldsIf_load_mid (by rfl) 24 (.tmp 7) (by rfl) bl 0 (by rfl) (ULIST .u8 32 L) (.array 32 5) (fun _ h => h.1) hu1 (by rfl) hiL) (by exact hHeld8) ?_
  simp only [Act.put, List.setIfInBounds_toArray, List.set_cons_zero, List.set_cons_succ]
  refine wpAnyH_take (i := 25) (oi := { dst := some 51, op := Op.load 24 (Operand.tmp 8), type := 24, pos := "law.go:70", after := #[{ on := 18, ground := Ground.guard }], guard := some (18, false) }) (v := .agg (ULIST .u8 32 R).toArray) rfl (by kernel_rfl) (by kernel_rfl) (by kernel_rfl) (fun _ _ _ h => h) (yieldsIf_load_mid (by rfl) 24 (.tmp 8) (by rfl) br 0 (by rfl) (ULIST .u8 32 R) (.array 32 5) (fun _ h => h.2) hu1 (by rfl) hiR) (by exact hHeld8) ?_
  simp only [Act.put, List.setIfInBounds_toArray, List.set_cons_zero, List.set_cons_succ]
  refine anyH_as (a' := ?Nr7) 15 #[true, true, true, true, true, true, true, true, true, true, true, true, true, true, true, true, true, true, true, true, true, true, false, true, true, true, false, false, false, false, false, false, false, false, false, false, false, false, false, false] (by kernel_rfl) (by kernel_rfl) ?HNr7 ?HMr7
  case HNr7 =>
    go_simp
    exact rfl
  refine anyH_one (o := { dst := some 48, op := Op.call { callee := Callee.value (Operand.func 14), args := #[Operand.tmp 45, Operand.tmp 46, Operand.tmp 47], argTypes := #[3, 24, 24] }, type := 24, pos := "law.go:70", after := #[{ on := 19, ground := Ground.data }, { on := 20, ground := Ground.data }, { on := 21, ground := Ground.data }, { on := 18, ground := Ground.chain }, { on := 18, ground := Ground.guard }], guard := some (18, false) }) 22 (by kernel_rfl) rfl (fun K hK => ?_)
  rw [if_pos (by rfl)]
  go_simp
  refine (k14.out _ Y8.out).mono ?_
  rintro e w9 ⟨rfl, hb9⟩
  have Y9 : Aside (Lay w w1 bl br g n c' a l L R w9) := Y8.out.keep hb9
  refine hK.out _ _ ⟨Y9.out.hl, Y9.out.hr⟩ (fun hHeld9 => ?_)
  clear hK K hb9 Y8 k14 hHeld8
  refine anyH_as (a' := ?Nr8) 14 #[true, true, true, true, true, true, true, true, true, true, true, true, true, true, true, true, true, true, true, true, true, true, true, true, true, true, false, false, false, false, false, false, false, false, false, false, false, false, false, false] (by kernel_rfl) (by kernel_rfl) ?HNr8 ?HMr8
  case HNr8 =>
    go_simp
    exact rfl
  refine anyH_one (o := { dst := some 52, op := Op.call { callee := Callee.value (Operand.func 15), args := #[Operand.tmp 49, Operand.tmp 50, Operand.tmp 51], argTypes := #[3, 24, 24] }, type := 24, pos := "law.go:70", after := #[{ on := 23, ground := Ground.data }, { on := 24, ground := Ground.data }, { on := 25, ground := Ground.data }, { on := 22, ground := Ground.chain }, { on := 18, ground := Ground.guard }], guard := some (18, false) }) 26 (by kernel_rfl) rfl (fun K hK => ?_)
  rw [if_pos (by rfl)]
  go_simp
  refine (k15.out _ Y9.out).mono ?_
  rintro e w10 ⟨rfl, hb10⟩
  have Y10 : Aside (Lay w w1 bl br g n c' a l L R w10) := Y9.out.keep hb10
  refine hK.out _ _ ⟨Y10.out.hl, Y10.out.hr⟩ (fun hHeld10 => ?_)
  clear hK K hb10 Y9 k15 hHeld9
  refine anyH_as (a' := ?Nr9) 13 #[true, true, true, true, true, true, true, true, true, true, true, true, true, true, true, true, true, true, true, true, true, true, true, true, true, true, true, false, false, false, false, false, false, false, false, false, false, false, false, false] (by kernel_rfl) (by kernel_rfl) ?HNr9 ?HMr9
  case HNr9 =>
    go_simp
    exact rfl
  refine wpAnyH_take (i := 27) (oi := { dst := some 53, op := Op.binOp BinOp.neq 24 (Operand.tmp 48) (Operand.tmp 52) 24, type := 4, pos := "law.go:70", after := #[{ on := 22, ground := Ground.data }, { on := 26, ground := Ground.data }, { on := 18, ground := Ground.guard }], guard := some (18, false) }) (v := .bool false) rfl (by kernel_rfl) (by kernel_rfl) (by kernel_rfl) (fun _ _ _ h => h) (Yields.yieldsIf (Or.inl ⟨by rfl, fun W => by go_simp⟩)) (by exact hHeld10) ?_
  simp only [Act.put, List.setIfInBounds_toArray, List.set_cons_zero, List.set_cons_succ]
  refine wpAnyH_take (i := 28) (oi := { dst := some 54, op := Op.pick (Operand.tmp 44) (Operand.const (Value.bool true)) (Operand.tmp 53), type := 4, pos := "law.go:70", after := #[{ on := 18, ground := Ground.data }, { on := 27, ground := Ground.data }], guard := none }) (v := .bool false) rfl (by kernel_rfl) (by kernel_rfl) (by kernel_rfl) (fun _ _ _ h => h) (Yields.yieldsIf (Or.inl ⟨by rfl, fun W => by go_simp⟩)) (by exact hHeld10) ?_
  simp only [Act.put, List.setIfInBounds_toArray, List.set_cons_zero, List.set_cons_succ]
  refine wpAnyH_take (i := 29) (oi := { dst := some 55, op := Op.move (Operand.tmp 54), type := 4, pos := "law.go:70", after := #[{ on := 28, ground := Ground.data }, { on := 26, ground := Ground.chain }], guard := none }) (v := .bool false) rfl (by kernel_rfl) (by kernel_rfl) (by kernel_rfl) (fun _ _ _ h => h) (Yields.yieldsIf (Or.inl ⟨by rfl, fun W => by go_simp⟩)) (by exact hHeld10) ?_
  simp only [Act.put, List.setIfInBounds_toArray, List.set_cons_zero, List.set_cons_succ]
  refine wpAnyH_take (i := 30) (oi := { dst := some 56, op := Op.move (Operand.tmp 0), type := 3, pos := "law.go:70", after := #[{ on := 29, ground := Ground.guard }], guard := some (29, false) }) (v := .int .i64 d) rfl (by kernel_rfl) (by kernel_rfl) (by kernel_rfl) (fun _ _ _ h => h) (Yields.yieldsIf (Or.inl ⟨by rfl, fun W => by go_simp⟩)) (by exact hHeld10) ?_
  simp only [Act.put, List.setIfInBounds_toArray, List.set_cons_zero, List.set_cons_succ]
  refine wpAnyH_take (i := 31) (oi := { dst := some 57, op := Op.move (Operand.tmp 4), type := 25, pos := "law.go:70", after := #[{ on := 29, ground := Ground.guard }], guard := some (29, false) }) (v := .int .u64 (m : Int)) rfl (by kernel_rfl) (by kernel_rfl) (by kernel_rfl) (fun _ _ _ h => h) (Yields.yieldsIf (Or.inl ⟨by rfl, fun W => by go_simp⟩)) (by exact hHeld10) ?_
  simp only [Act.put, List.setIfInBounds_toArray, List.set_cons_zero, List.set_cons_succ]
  refine wpAnyH_take (i := 32) (oi := { dst := some 58, op := Op.load 24 (Operand.tmp 7), type := 24, pos := "law.go:70", after := #[{ on := 29, ground := Ground.guard }], guard := some (29, false) }) (v := .agg (ULIST .u8 32 L).toArray) rfl (by kernel_rfl) (by kernel_rfl) (by kernel_rfl) (fun _ _ _ h => h) (yieldsIf_load_mid (by rfl) 24 (.tmp 7) (by rfl) bl 0 (by rfl) (ULIST .u8 32 L) (.array 32 5) (fun _ h => h.1) hu1 (by rfl) hiL) (by exact hHeld10) ?_
  simp only [Act.put, List.setIfInBounds_toArray, List.set_cons_zero, List.set_cons_succ]
  refine wpAnyH_take (i := 34) (oi := { dst := some 60, op := Op.move (Operand.tmp 0), type := 3, pos := "law.go:70", after := #[{ on := 29, ground := Ground.guard }], guard := some (29, false) }) (v := .int .i64 d) rfl (by kernel_rfl) (by kernel_rfl) (by kernel_rfl) (fun _ _ _ h => h) (Yields.yieldsIf (Or.inl ⟨by rfl, fun W => by go_simp⟩)) (by exact hHeld10) ?_
  simp only [Act.put, List.setIfInBounds_toArray, List.set_cons_zero, List.set_cons_succ]
  refine wpAnyH_take (i := 35) (oi := { dst := some 61, op := Op.move (Operand.tmp 4), type := 25, pos := "law.go:70", after := #[{ on := 29, ground := Ground.guard }], guard := some (29, false) }) (v := .int .u64 (m : Int)) rfl (by kernel_rfl) (by kernel_rfl) (by kernel_rfl) (fun _ _ _ h => h) (Yields.yieldsIf (Or.inl ⟨by rfl, fun W => by go_simp⟩)) (by exact hHeld10) ?_
  simp only [Act.put, List.setIfInBounds_toArray, List.set_cons_zero, List.set_cons_succ]
  refine wpAnyH_take (i := 36) (oi := { dst := some 62, op := Op.load 24 (Operand.tmp 7), type := 24, pos := "law.go:70", after := #[{ on := 29, ground := Ground.guard }], guard := some (29, false) }) (v := .agg (ULIST .u8 32 L).toArray) rfl (by kernel_rfl) (by kernel_rfl) (by kernel_rfl) (fun _ _ _ h => h) (yieldsIf_load_mid (by rfl) 24 (.tmp 7) (by rfl) bl 0 (by rfl) (ULIST .u8 32 L) (.array 32 5) (fun _ h => h.1) hu1 (by rfl) hiL) (by exact hHeld10) ?_
  simp only [Act.put, List.setIfInBounds_toArray, List.set_cons_zero, List.set_cons_succ]
  refine anyH_as (a' := ?Nr10) 4 #[true, true, true, true, true, true, true, true, true, true, true, true, true, true, true, true, true, true, true, true, true, true, true, true, true, true, true, true, true, true, true, true, true, false, true, true, true, false, false, false] (by kernel_rfl) (by kernel_rfl) ?HNr10 ?HMr10
  case HNr10 =>
    go_simp
    exact rfl
  refine anyH_one (o := { dst := some 59, op := Op.call { callee := Callee.value (Operand.func 16), args := #[Operand.tmp 56, Operand.tmp 57, Operand.tmp 58], argTypes := #[3, 25, 24] }, type := 24, pos := "law.go:70", after := #[{ on := 30, ground := Ground.data }, { on := 31, ground := Ground.data }, { on := 32, ground := Ground.data }, { on := 29, ground := Ground.chain }, { on := 29, ground := Ground.guard }], guard := some (29, false) }) 33 (by kernel_rfl) rfl (fun K hK => ?_)
  rw [if_pos (by rfl)]
  go_simp
  refine (k16.out _ Y10.out).mono ?_
  rintro e w11 ⟨rfl, hb11⟩
  have Y11 : Aside (Lay w w1 bl br g n c' a l L R w11) := Y10.out.keep hb11
  refine hK.out _ _ ⟨Y11.out.hl, Y11.out.hr⟩ (fun hHeld11 => ?_)
  clear hK K hb11 Y10 k16 hHeld10
  refine anyH_as (a' := ?Nr11) 3 #[true, true, true, true, true, true, true, true, true, true, true, true, true, true, true, true, true, true, true, true, true, true, true, true, true, true, true, true, true, true, true, true, true, true, true, true, true, false, false, false] (by kernel_rfl) (by kernel_rfl) ?HNr11 ?HMr11
  case HNr11 =>
    go_simp
    exact rfl
  refine anyH_one (o := { dst := some 63, op := Op.call { callee := Callee.value (Operand.func 17), args := #[Operand.tmp 60, Operand.tmp 61, Operand.tmp 62], argTypes := #[3, 25, 24] }, type := 24, pos := "law.go:70", after := #[{ on := 34, ground := Ground.data }, { on := 35, ground := Ground.data }, { on := 36, ground := Ground.data }, { on := 33, ground := Ground.chain }, { on := 29, ground := Ground.guard }], guard := some (29, false) }) 37 (by kernel_rfl) rfl (fun K hK => ?_)
  rw [if_pos (by rfl)]
  go_simp
  refine (k17.out _ Y11.out).mono ?_
  rintro e w12 ⟨rfl, hb12⟩
  have Y12 : Aside (Lay w w1 bl br g n c' a l L R w12) := Y11.out.keep hb12
  refine hK.out _ _ ⟨Y12.out.hl, Y12.out.hr⟩ (fun hHeld12 => ?_)
  clear hK K hb12 Y11 k17 hHeld11
  refine anyH_as (a' := ?Nr12) 2 #[true, true, true, true, true, true, true, true, true, true, true, true, true, true, true, true, true, true, true, true, true, true, true, true, true, true, true, true, true, true, true, true, true, true, true, true, true, true, false, false] (by kernel_rfl) (by kernel_rfl) ?HNr12 ?HMr12
  case HNr12 =>
    go_simp
    exact rfl
  refine wpAnyH_take (i := 38) (oi := { dst := some 64, op := Op.binOp BinOp.neq 24 (Operand.tmp 59) (Operand.tmp 63) 24, type := 4, pos := "law.go:70", after := #[{ on := 33, ground := Ground.data }, { on := 37, ground := Ground.data }, { on := 29, ground := Ground.guard }], guard := some (29, false) }) (v := .bool false) rfl (by kernel_rfl) (by kernel_rfl) (by kernel_rfl) (fun _ _ _ h => h) (Yields.yieldsIf (Or.inl ⟨by rfl, fun W => by go_simp⟩)) (by exact hHeld12) ?_
  simp only [Act.put, List.setIfInBounds_toArray, List.set_cons_zero, List.set_cons_succ]
  refine wpAnyH_take (i := 39) (oi := { dst := some 65, op := Op.pick (Operand.tmp 55) (Operand.const (Value.bool true)) (Operand.tmp 64), type := 4, pos := "law.go:70", after := #[{ on := 29, ground := Ground.data }, { on := 38, ground := Ground.data }], guard := none }) (v := .bool false) rfl (by kernel_rfl) (by kernel_rfl) (by kernel_rfl) (fun _ _ _ h => h) (Yields.yieldsIf (Or.inl ⟨by rfl, fun W => by go_simp⟩)) (by exact hHeld12) ?_
  simp only [Act.put, List.setIfInBounds_toArray, List.set_cons_zero, List.set_cons_succ]
  refine anyH_as (a' := ?Nr13) 0 #[true, true, true, true, true, true, true, true, true, true, true, true, true, true, true, true, true, true, true, true, true, true, true, true, true, true, true, true, true, true, true, true, true, true, true, true, true, true, true, true] (by kernel_rfl) (by kernel_rfl) ?HNr13 ?HMr13
  case HNr13 =>
    go_simp
    exact rfl
  refine wpAnyH_done (by kernel_rfl) ?_ _
  clear hHeld12
  -- LISTS
  have t18 : Aside (∀ W : World, Lay w w1 bl br g n c' a l L R W → Calls Tryd.prog 18 #[.slice (some ⟨g, 0, none⟩) n c'] W fun e w' => ∃ a' c', e = .returned (.slice a' (n + 1) c') ∧ w'.ownsRow W.heap.size 5 1 (.slice a' (n + 1) c') (n + 1) (BY (0 :: l)) ∧ Below W.heap.size W w') := fun W h => leaftext_ok _ n c' l W h.txt (by simp) (by have := H.out.1; omega) h.bb.2.2.2.2.1 (fun x e => by cases e; have := h.bb; simp; omega)
  have t22 : Aside (∀ W : World, Lay w w1 bl br g n c' a l L R W → Calls Tryd.prog 22 #[.slice a n c] W fun e w' => ∃ a' c', e = .returned (.slice a' (n + 1) c') ∧ w'.ownsRow W.heap.size 5 1 (.slice a' (n + 1) c') (n + 1) (BY (0 :: l)) ∧ Below W.heap.size W w') := fun W h => refleaftext_ok _ n c l W h.dat H.out.2.2.2.2.2.2 (by have := H.out.1; omega)
  have t19 : Aside (∀ W : World, Lay w w1 bl br g n c' a l L R W → Calls Tryd.prog 19 #[.agg (ULIST .u8 32 L).toArray, .agg (ULIST .u8 32 R).toArray] W fun e w' => ∃ a' c', e = .returned (.slice a' 65 c') ∧ w'.ownsRow W.heap.size 5 1 (.slice a' 65 c') 65 (BY (1 :: ((List.range 32).map L ++ (List.range 32).map R))) ∧ Below W.heap.size W w') := fun W h => nodetext_ok L R H.out.2.1 H.out.2.2.1 W
  have t23 : Aside (∀ W : World, Lay w w1 bl br g n c' a l L R W → Calls Tryd.prog 23 #[.agg (ULIST .u8 32 L).toArray, .agg (ULIST .u8 32 R).toArray] W fun e w' => ∃ a' c', e = .returned (.slice a' 65 c') ∧ w'.ownsRow W.heap.size 5 1 (.slice a' 65 c') 65 (BY (1 :: ((List.range 32).map L ++ (List.range 32).map R))) ∧ Below W.heap.size W w') := fun W h => refnodetext_ok L R H.out.2.1 H.out.2.2.1 W
  have t20 : Aside (∀ W : World, Lay w w1 bl br g n c' a l L R W → Calls Tryd.prog 20 #[.agg (ULIST .u8 32 L).toArray, .agg (ULIST .u8 32 R).toArray] W fun e w' => ∃ a' c', e = .returned (.slice a' 65 c') ∧ w'.ownsRow W.heap.size 5 1 (.slice a' 65 c') 65 (BY (2 :: ((List.range 32).map L ++ (List.range 32).map R))) ∧ Below W.heap.size W w') := fun W h => foldtext_ok L R H.out.2.1 H.out.2.2.1 W
  have t24 : Aside (∀ W : World, Lay w w1 bl br g n c' a l L R W → Calls Tryd.prog 24 #[.agg (ULIST .u8 32 L).toArray, .agg (ULIST .u8 32 R).toArray] W fun e w' => ∃ a' c', e = .returned (.slice a' 65 c') ∧ w'.ownsRow W.heap.size 5 1 (.slice a' 65 c') 65 (BY (2 :: ((List.range 32).map L ++ (List.range 32).map R))) ∧ Below W.heap.size W w') := fun W h => reffoldtext_ok L R H.out.2.1 H.out.2.2.1 W
  have t21 : Aside (∀ W : World, Lay w w1 bl br g n c' a l L R W → Calls Tryd.prog 21 #[.int .u64 (m : Int), .agg (ULIST .u8 32 L).toArray] W fun e w' => ∃ a' c', e = .returned (.slice a' 41 c') ∧ w'.ownsRow W.heap.size 5 1 (.slice a' 41 c') 41 (BY (3 :: (BE8 m ++ (List.range 32).map L))) ∧ Below W.heap.size W w') := fun W h => roottext_ok m H.out.2.2.2.1 L H.out.2.1 W
  have t25 : Aside (∀ W : World, Lay w w1 bl br g n c' a l L R W → Calls Tryd.prog 25 #[.int .u64 (m : Int), .agg (ULIST .u8 32 L).toArray] W fun e w' => ∃ a' c', e = .returned (.slice a' 41 c') ∧ w'.ownsRow W.heap.size 5 1 (.slice a' 41 c') 41 (BY (3 :: (BE8 m ++ (List.range 32).map L))) ∧ Below W.heap.size W w') := fun W h => refroottext_ok m H.out.2.2.2.1 L H.out.2.1 W
  have sm0 : Small8 (0 :: l) := small_cons' (by decide) H.out.2.2.2.2.1
  have sm1 : Small8 (1 :: ((List.range 32).map L ++ (List.range 32).map R)) := small_cons' (by decide) (small_app' (small_map' H.out.2.1) (small_map' H.out.2.2.1))
  have sm2 : Small8 (2 :: ((List.range 32).map L ++ (List.range 32).map R)) := small_cons' (by decide) (small_app' (small_map' H.out.2.1) (small_map' H.out.2.2.1))
  have sm3 : Small8 (3 :: (BE8 m ++ (List.range 32).map L)) := small_cons' (by decide) (small_app' (small_be8 m) (small_map' H.out.2.1))
  have SM : Aside (Small8 (0 :: l) ∧ Small8 (1 :: ((List.range 32).map L ++ (List.range 32).map R)) ∧ Small8 (2 :: ((List.range 32).map L ++ (List.range 32).map R)) ∧ Small8 (3 :: (BE8 m ++ (List.range 32).map L))) := ⟨sm0, sm1, sm2, sm3⟩
  clear sm0 sm1 sm2 sm3
  have KL : Aside (∀ W : World, Lay w w1 bl br g n c' a l L R W → ∀ k, k = g → k < W.heap.size) := fun W h k e => by have := h.bb; omega
  have Z0 : Aside (Fam w12 w.heap.size 0 (fun k => k = g) (fun _ => .bool false) (fun _ => 0) (fun _ => [])) := Fam.none _ _ _ _ _ _
  go_wp2_with fail
  have Yd6 : Aside (Lay w w1 bl br g n c' a l L R w12.drew) := Y12.out.keep (Below.refl _ _).drew
  have Zd6 : Aside (Fam w12.drew w.heap.size 0 (fun k => k = g) (fun _ => .bool false) (fun _ => 0) (fun _ => [])) := Z0.out.below (Below.refl _ _).drew
  refine wp_region_held_drew (S := fun W : World => W.rangeAt bl 0 (ULIST .u8 32 L) ∧ W.rangeAt br 0 (ULIST .u8 32 R)) (by kernel_rfl) ⟨Yd6.out.hl, Yd6.out.hr⟩ (fun hHeld => ?_)
  refine wpAnyH_take (i := 0) (oi := { dst := some 66, op := Op.move (Operand.tmp 11), type := 22, pos := "law.go:73", after := #[], guard := none }) (v := .slice (some ⟨g, 0, none⟩) n c') rfl (by kernel_rfl) (by kernel_rfl) (by kernel_rfl) (fun _ _ _ h => h) (Yields.yieldsIf (Or.inl ⟨by rfl, fun W => by go_simp⟩)) (by exact hHeld) ?_
  simp only [Act.put, List.setIfInBounds_toArray, List.set_cons_zero, List.set_cons_succ]
  refine wpAnyH_take (i := 2) (oi := { dst := some 68, op := Op.load 24 (Operand.tmp 7), type := 24, pos := "law.go:73", after := #[], guard := none }) (v := .agg (ULIST .u8 32 L).toArray) rfl (by kernel_rfl) (by kernel_rfl) (by kernel_rfl) (fun _ _ _ h => h) (yieldsIf_load_mid (by rfl) 24 (.tmp 7) (by rfl) bl 0 (by rfl) (ULIST .u8 32 L) (.array 32 5) (fun _ h => h.1) hu1 (by rfl) hiL) (by exact hHeld) ?_
  simp only [Act.put, List.setIfInBounds_toArray, List.set_cons_zero, List.set_cons_succ]
  refine wpAnyH_take (i := 3) (oi := { dst := some 69, op := Op.load 24 (Operand.tmp 8), type := 24, pos := "law.go:73", after := #[], guard := none }) (v := .agg (ULIST .u8 32 R).toArray) rfl (by kernel_rfl) (by kernel_rfl) (by kernel_rfl) (fun _ _ _ h => h) (yieldsIf_load_mid (by rfl) 24 (.tmp 8) (by rfl) br 0 (by rfl) (ULIST .u8 32 R) (.array 32 5) (fun _ h => h.2) hu1 (by rfl) hiR) (by exact hHeld) ?_
  simp only [Act.put, List.setIfInBounds_toArray, List.set_cons_zero, List.set_cons_succ]
  refine wpAnyH_take (i := 5) (oi := { dst := some 71, op := Op.load 24 (Operand.tmp 7), type := 24, pos := "law.go:73", after := #[], guard := none }) (v := .agg (ULIST .u8 32 L).toArray) rfl (by kernel_rfl) (by kernel_rfl) (by kernel_rfl) (fun _ _ _ h => h) (yieldsIf_load_mid (by rfl) 24 (.tmp 7) (by rfl) bl 0 (by rfl) (ULIST .u8 32 L) (.array 32 5) (fun _ h => h.1) hu1 (by rfl) hiL) (by exact hHeld) ?_
  simp only [Act.put, List.setIfInBounds_toArray, List.set_cons_zero, List.set_cons_succ]
  refine wpAnyH_take (i := 6) (oi := { dst := some 72, op := Op.load 24 (Operand.tmp 8), type := 24, pos := "law.go:73", after := #[], guard := none }) (v := .agg (ULIST .u8 32 R).toArray) rfl (by kernel_rfl) (by kernel_rfl) (by kernel_rfl) (fun _ _ _ h => h) (yieldsIf_load_mid (by rfl) 24 (.tmp 8) (by rfl) br 0 (by rfl) (ULIST .u8 32 R) (.array 32 5) (fun _ h => h.2) hu1 (by rfl) hiR) (by exact hHeld) ?_
  simp only [Act.put, List.setIfInBounds_toArray, List.set_cons_zero, List.set_cons_succ]
  refine wpAnyH_take (i := 8) (oi := { dst := some 74, op := Op.move (Operand.tmp 4), type := 25, pos := "law.go:73", after := #[], guard := none }) (v := .int .u64 (m : Int)) rfl (by kernel_rfl) (by kernel_rfl) (by kernel_rfl) (fun _ _ _ h => h) (Yields.yieldsIf (Or.inl ⟨by rfl, fun W => by go_simp⟩)) (by exact hHeld) ?_
  simp only [Act.put, List.setIfInBounds_toArray, List.set_cons_zero, List.set_cons_succ]
  refine wpAnyH_take (i := 9) (oi := { dst := some 75, op := Op.load 24 (Operand.tmp 7), type := 24, pos := "law.go:73", after := #[], guard := none }) (v := .agg (ULIST .u8 32 L).toArray) rfl (by kernel_rfl) (by kernel_rfl) (by kernel_rfl) (fun _ _ _ h => h) (yieldsIf_load_mid (by rfl) 24 (.tmp 7) (by rfl) bl 0 (by rfl) (ULIST .u8 32 L) (.array 32 5) (fun _ h => h.1) hu1 (by rfl) hiL) (by exact hHeld) ?_
  simp only [Act.put, List.setIfInBounds_toArray, List.set_cons_zero, List.set_cons_succ]
  refine anyH_as (a' := ?Ns1) 6 #[true, false, true, true, false, true, true, false, true, true, false, false, false] (by kernel_rfl) (by kernel_rfl) ?HNs1 ?HMs1
  case HNs1 =>
    go_simp
    exact rfl
  refine anyH_one (o := { dst := some 67, op := Op.call { callee := Callee.value (Operand.func 18), args := #[Operand.tmp 66], argTypes := #[22] }, type := 22, pos := "law.go:73", after := #[{ on := 0, ground := Ground.data }], guard := none }) 1 (by kernel_rfl) rfl (fun K hK => ?_)
  rw [if_pos (by rfl)]
  go_simp
  refine (t18.out _ Yd6.out).mono ?_
  rintro e v60 ⟨a60, c60, rfl, o60, hb60⟩
  have Y60 : Aside (Lay w w1 bl br g n c' a l L R v60) := Yd6.out.keep hb60
  have Z60 : Aside (Fam v60 w.heap.size 1 (fun k => k = g) (UPF (fun _ => .bool false) 0 (.slice a60 (n + 1) c60)) (UPF (fun _ => 0) 0 (n + 1)) (UPF (fun _ => []) 0 (BY (0 :: l)))) := Zd6.out.snoc hb60 Yd6.out.bel.size (KL.out _ Yd6.out) o60
  refine hK.out _ _ ⟨Y60.out.hl, Y60.out.hr⟩ (fun hHeld60 => ?_)
  clear hK K hb60 Yd6 hHeld o60 Zd6
  refine anyH_as (a' := ?Ns2) 5 #[true, true, true, true, false, true, true, false, true, true, false, false, false] (by kernel_rfl) (by kernel_rfl) ?HNs2 ?HMs2
  case HNs2 =>
    go_simp
    exact rfl
  refine anyH_one (o := { dst := some 70, op := Op.call { callee := Callee.value (Operand.func 19), args := #[Operand.tmp 68, Operand.tmp 69], argTypes := #[24, 24] }, type := 22, pos := "law.go:73", after := #[{ on := 2, ground := Ground.data }, { on := 3, ground := Ground.data }, { on := 1, ground := Ground.chain }], guard := none }) 4 (by kernel_rfl) rfl (fun K hK => ?_)
  rw [if_pos (by rfl)]
  go_simp
  refine (t19.out _ Y60.out).mono ?_
  rintro e v61 ⟨a61, c61, rfl, o61, hb61⟩
  have Y61 : Aside (Lay w w1 bl br g n c' a l L R v61) := Y60.out.keep hb61
  have Z61 : Aside (Fam v61 w.heap.size 2 (fun k => k = g) (UPF (UPF (fun _ => .bool false) 0 (.slice a60 (n + 1) c60)) 1 (.slice a61 65 c61)) (UPF (UPF (fun _ => 0) 0 (n + 1)) 1 65) (UPF (UPF (fun _ => []) 0 (BY (0 :: l))) 1 (BY (1 :: ((List.range 32).map L ++ (List.range 32).map R))))) := Z60.out.snoc hb61 Y60.out.bel.size (KL.out _ Y60.out) o61
  refine hK.out _ _ ⟨Y61.out.hl, Y61.out.hr⟩ (fun hHeld61 => ?_)
  clear hK K hb61 Y60 hHeld60 o61 Z60
  refine anyH_as (a' := ?Ns3) 4 #[true, true, true, true, true, true, true, false, true, true, false, false, false] (by kernel_rfl) (by kernel_rfl) ?HNs3 ?HMs3
  case HNs3 =>
    go_simp
    exact rfl
  refine anyH_one (o := { dst := some 73, op := Op.call { callee := Callee.value (Operand.func 20), args := #[Operand.tmp 71, Operand.tmp 72], argTypes := #[24, 24] }, type := 22, pos := "law.go:73", after := #[{ on := 5, ground := Ground.data }, { on := 6, ground := Ground.data }, { on := 4, ground := Ground.chain }], guard := none }) 7 (by kernel_rfl) rfl (fun K hK => ?_)
  rw [if_pos (by rfl)]
  go_simp
  refine (t20.out _ Y61.out).mono ?_
  rintro e v62 ⟨a62, c62, rfl, o62, hb62⟩
  have Y62 : Aside (Lay w w1 bl br g n c' a l L R v62) := Y61.out.keep hb62
  have Z62 : Aside (Fam v62 w.heap.size 3 (fun k => k = g) (UPF (UPF (UPF (fun _ => .bool false) 0 (.slice a60 (n + 1) c60)) 1 (.slice a61 65 c61)) 2 (.slice a62 65 c62)) (UPF (UPF (UPF (fun _ => 0) 0 (n + 1)) 1 65) 2 65) (UPF (UPF (UPF (fun _ => []) 0 (BY (0 :: l))) 1 (BY (1 :: ((List.range 32).map L ++ (List.range 32).map R)))) 2 (BY (2 :: ((List.range 32).map L ++ (List.range 32).map R))))) := Z61.out.snoc hb62 Y61.out.bel.size (KL.out _ Y61.out) o62
  refine hK.out _ _ ⟨Y62.out.hl, Y62.out.hr⟩ (fun hHeld62 => ?_)
  clear hK K hb62 Y61 hHeld61 o62 Z61
  refine anyH_as (a' := ?Ns4) 3 #[true, true, true, true, true, true, true, true, true, true, false, false, false] (by kernel_rfl) (by kernel_rfl) ?HNs4 ?HMs4
  case HNs4 =>
    go_simp
    exact rfl
  refine anyH_one (o := { dst := some 76, op := Op.call { callee := Callee.value (Operand.func 21), args := #[Operand.tmp 74, Operand.tmp 75], argTypes := #[25, 24] }, type := 22, pos := "law.go:73", after := #[{ on := 8, ground := Ground.data }, { on := 9, ground := Ground.data }, { on := 7, ground := Ground.chain }], guard := none }) 10 (by kernel_rfl) rfl (fun K hK => ?_)
  rw [if_pos (by rfl)]
  go_simp
  refine (t21.out _ Y62.out).mono ?_
  rintro e v63 ⟨a63, c63, rfl, o63, hb63⟩
  have Y63 : Aside (Lay w w1 bl br g n c' a l L R v63) := Y62.out.keep hb63
  have Z63 : Aside (Fam v63 w.heap.size 4 (fun k => k = g) (UPF (UPF (UPF (UPF (fun _ => .bool false) 0 (.slice a60 (n + 1) c60)) 1 (.slice a61 65 c61)) 2 (.slice a62 65 c62)) 3 (.slice a63 41 c63)) (UPF (UPF (UPF (UPF (fun _ => 0) 0 (n + 1)) 1 65) 2 65) 3 41) (UPF (UPF (UPF (UPF (fun _ => []) 0 (BY (0 :: l))) 1 (BY (1 :: ((List.range 32).map L ++ (List.range 32).map R)))) 2 (BY (2 :: ((List.range 32).map L ++ (List.range 32).map R)))) 3 (BY (3 :: (BE8 m ++ (List.range 32).map L))))) := Z62.out.snoc hb63 Y62.out.bel.size (KL.out _ Y62.out) o63
  refine hK.out _ _ ⟨Y63.out.hl, Y63.out.hr⟩ (fun hHeld63 => ?_)
  clear hK K hb63 Y62 hHeld62 o63 Z62
  refine anyH_as (a' := ?Ns5) 2 #[true, true, true, true, true, true, true, true, true, true, true, false, false] (by kernel_rfl) (by kernel_rfl) ?HNs5 ?HMs5
  case HNs5 =>
    go_simp
    exact rfl
  refine anyH_one (o := { dst := some 77, op := Op.buildSlice 32 4 #[(0, Operand.tmp 67), (1, Operand.tmp 70), (2, Operand.tmp 73), (3, Operand.tmp 76)], type := 32, pos := "law.go:73", after := #[{ on := 1, ground := Ground.data }, { on := 4, ground := Ground.data }, { on := 7, ground := Ground.data }, { on := 10, ground := Ground.data }], guard := none }) 11 (by kernel_rfl) rfl (fun K hK => ?_)
  rw [if_pos (by rfl)]
  go_simp
  refine hK.out _ _ ⟨((Y63.out.keep ((Below.refl _ _).alloc (Nat.le_refl _) _)).hl), ((Y63.out.keep ((Below.refl _ _).alloc (Nat.le_refl _) _)).hr)⟩ (fun hHeldB6 => ?_)
  clear hK K hHeld63
  refine anyH_as (a' := ?Ns6) 1 #[true, true, true, true, true, true, true, true, true, true, true, true, false] (by kernel_rfl) (by kernel_rfl) ?HNs6 ?HMs6
  case HNs6 =>
    go_simp
    exact rfl
  refine wpAnyH_take (i := 12) (oi := { dst := some 12, op := Op.assign (Operand.tmp 77), type := 32, pos := "law.go:73", after := #[{ on := 11, ground := Ground.data }, { on := 10, ground := Ground.chain }, { on := 0, ground := Ground.phase }, { on := 1, ground := Ground.phase }, { on := 2, ground := Ground.phase }, { on := 3, ground := Ground.phase }, { on := 4, ground := Ground.phase }, { on := 5, ground := Ground.phase }, { on := 6, ground := Ground.phase }, { on := 7, ground := Ground.phase }, { on := 8, ground := Ground.phase }, { on := 9, ground := Ground.phase }, { on := 10, ground := Ground.phase }, { on := 11, ground := Ground.phase }], guard := none }) (v := .slice (some ⟨v63.heap.size, 0, none⟩) 4 4) rfl (by kernel_rfl) (by kernel_rfl) (by kernel_rfl) (fun _ _ _ h => h) (Yields.yieldsIf (Or.inl ⟨by rfl, fun W => by go_simp⟩)) (by exact hHeldB6) ?_
  simp only [Act.put, List.setIfInBounds_toArray, List.set_cons_zero, List.set_cons_succ]
  refine anyH_as (a' := ?Ns7) 0 #[true, true, true, true, true, true, true, true, true, true, true, true, true] (by kernel_rfl) (by kernel_rfl) ?HNs7 ?HMs7
  case HNs7 =>
    go_simp
    exact rfl
  refine wpAnyH_done (by kernel_rfl) ?_ _
  clear hHeldB6
  obtain ⟨w13, Ab, V1, N1, X1, c1, hw13, hAb, hc1, P1⟩ : ∃ (w13 : World) (Ab : Nat) (V1 : Nat → Value) (N1 : Nat → Nat) (X1 : Nat → List Value) (c1 : Array Value), w13 = v63.alloc (.cells #[.slice a60 (n + 1) c60, .slice a61 65 c61, .slice a62 65 c62, .slice a63 41 c63] 22) ∧ Ab = v63.heap.size ∧ c1 = #[.slice a60 (n + 1) c60, .slice a61 65 c61, .slice a62 65 c62, .slice a63 41 c63] ∧ Aside (Lay w w1 bl br g n c' a l L R w13 ∧ Fam w13 w.heap.size 4 (fun k => k = g ∨ k = Ab) V1 N1 X1 ∧ Has w13 Ab c1 22 ∧ (∀ x, x < 4 → c1[x]? = some (V1 x) ∧ N1 x = TLEN n x ∧ X1 x = BY (TXT l L R m x))) :=
    ⟨_, _, (UPF (UPF (UPF (UPF (fun _ => .bool false) 0 (.slice a60 (n + 1) c60)) 1 (.slice a61 65 c61)) 2 (.slice a62 65 c62)) 3 (.slice a63 41 c63)), (UPF (UPF (UPF (UPF (fun _ => 0) 0 (n + 1)) 1 65) 2 65) 3 41), (UPF (UPF (UPF (UPF (fun _ => []) 0 (BY (0 :: l))) 1 (BY (1 :: ((List.range 32).map L ++ (List.range 32).map R)))) 2 (BY (2 :: ((List.range 32).map L ++ (List.range 32).map R)))) 3 (BY (3 :: (BE8 m ++ (List.range 32).map L)))), _, rfl, rfl, rfl, Y63.out.keep ((Below.refl _ _).alloc (Nat.le_refl _) _), (Z63.out.more (by intro k hk he; rcases he with rfl | rfl; exact rfl; omega)).alloc _, Has.new _ _ _, fun x hx => by rcases (show x = 0 ∨ x = 1 ∨ x = 2 ∨ x = 3 by omega) with rfl | rfl | rfl | rfl <;> exact ⟨rfl, rfl, rfl⟩⟩
  rw [← hw13, ← hAb]
  clear hw13 hAb hc1 Y63 Z63
  have Y13 : Aside (Lay w w1 bl br g n c' a l L R w13) := P1.out.1
  have Z13 : Aside (Fam w13 w.heap.size 4 (fun k => k = g ∨ k = Ab) V1 N1 X1) := P1.out.2.1
  have KL2 : Aside (∀ W : World, Below w13.heap.size w13 W → ∀ k, (k = g ∨ k = Ab) → k < W.heap.size) := fun W h k e => by
    have h1 := P1.out.1.bb
    have h2 := P1.out.2.2.1.lt
    have h3 := h.size
    rcases e with rfl | rfl <;> omega
  go_wp2_with fail
  have Yd7 : Aside (Lay w w1 bl br g n c' a l L R w13.drew) := Y13.out.keep (Below.refl _ _).drew
  have Zd7 : Aside (Fam w13.drew w.heap.size 4 (fun k => k = g ∨ k = Ab) V1 N1 X1) := Z13.out.below (Below.refl _ _).drew
  refine wp_region_held_drew (S := fun W : World => W.rangeAt bl 0 (ULIST .u8 32 L) ∧ W.rangeAt br 0 (ULIST .u8 32 R)) (by kernel_rfl) ⟨Yd7.out.hl, Yd7.out.hr⟩ (fun hHeld => ?_)
  refine wpAnyH_take (i := 0) (oi := { dst := some 78, op := Op.move (Operand.tmp 11), type := 22, pos := "law.go:74", after := #[], guard := none }) (v := .slice (some ⟨g, 0, none⟩) n c') rfl (by kernel_rfl) (by kernel_rfl) (by kernel_rfl) (fun _ _ _ h => h) (Yields.yieldsIf (Or.inl ⟨by rfl, fun W => by go_simp⟩)) (by exact hHeld) ?_
  simp only [Act.put, List.setIfInBounds_toArray, List.set_cons_zero, List.set_cons_succ]
  refine wpAnyH_take (i := 2) (oi := { dst := some 80, op := Op.load 24 (Operand.tmp 7), type := 24, pos := "law.go:74", after := #[], guard := none }) (v := .agg (ULIST .u8 32 L).toArray) rfl (by kernel_rfl) (by kernel_rfl) (by kernel_rfl) (fun _ _ _ h => h) (yieldsIf_load_mid (by rfl) 24 (.tmp 7) (by rfl) bl 0 (by rfl) (ULIST .u8 32 L) (.array 32 5) (fun _ h => h.1) hu1 (by rfl) hiL) (by exact hHeld) ?_
  simp only [Act.put, List.setIfInBounds_toArray, List.set_cons_zero, List.set_cons_succ]
  refine wpAnyH_take (i := 3) (oi := { dst := some 81, op := Op.load 24 (Operand.tmp 8), type := 24, pos := "law.go:74", after := #[], guard := none }) (v := .agg (ULIST .u8 32 R).toArray) rfl (by kernel_rfl) (by kernel_rfl) (by kernel_rfl) (fun _ _ _ h => h) (yieldsIf_load_mid (by rfl) 24 (.tmp 8) (by rfl) br 0 (by rfl) (ULIST .u8 32 R) (.array 32 5) (fun _ h => h.2) hu1 (by rfl) hiR) (by exact hHeld) ?_
  simp only [Act.put, List.setIfInBounds_toArray, List.set_cons_zero, List.set_cons_succ]
  refine wpAnyH_take (i := 5) (oi := { dst := some 83, op := Op.load 24 (Operand.tmp 7), type := 24, pos := "law.go:74", after := #[], guard := none }) (v := .agg (ULIST .u8 32 L).toArray) rfl (by kernel_rfl) (by kernel_rfl) (by kernel_rfl) (fun _ _ _ h => h) (yieldsIf_load_mid (by rfl) 24 (.tmp 7) (by rfl) bl 0 (by rfl) (ULIST .u8 32 L) (.array 32 5) (fun _ h => h.1) hu1 (by rfl) hiL) (by exact hHeld) ?_
  simp only [Act.put, List.setIfInBounds_toArray, List.set_cons_zero, List.set_cons_succ]
  refine wpAnyH_take (i := 6) (oi := { dst := some 84, op := Op.load 24 (Operand.tmp 8), type := 24, pos := "law.go:74", after := #[], guard := none }) (v := .agg (ULIST .u8 32 R).toArray) rfl (by kernel_rfl) (by kernel_rfl) (by kernel_rfl) (fun _ _ _ h => h) (yieldsIf_load_mid (by rfl) 24 (.tmp 8) (by rfl) br 0 (by rfl) (ULIST .u8 32 R) (.array 32 5) (fun _ h => h.2) hu1 (by rfl) hiR) (by exact hHeld) ?_
  simp only [Act.put, List.setIfInBounds_toArray, List.set_cons_zero, List.set_cons_succ]
  refine wpAnyH_take (i := 8) (oi := { dst := some 86, op := Op.move (Operand.tmp 4), type := 25, pos := "law.go:74", after := #[], guard := none }) (v := .int .u64 (m : Int)) rfl (by kernel_rfl) (by kernel_rfl) (by kernel_rfl) (fun _ _ _ h => h) (Yields.yieldsIf (Or.inl ⟨by rfl, fun W => by go_simp⟩)) (by exact hHeld) ?_
  simp only [Act.put, List.setIfInBounds_toArray, List.set_cons_zero, List.set_cons_succ]
  refine wpAnyH_take (i := 9) (oi := { dst := some 87, op := Op.load 24 (Operand.tmp 7), type := 24, pos := "law.go:74", after := #[], guard := none }) (v := .agg (ULIST .u8 32 L).toArray) rfl (by kernel_rfl) (by kernel_rfl) (by kernel_rfl) (fun _ _ _ h => h) (yieldsIf_load_mid (by rfl) 24 (.tmp 7) (by rfl) bl 0 (by rfl) (ULIST .u8 32 L) (.array 32 5) (fun _ h => h.1) hu1 (by rfl) hiL) (by exact hHeld) ?_
  simp only [Act.put, List.setIfInBounds_toArray, List.set_cons_zero, List.set_cons_succ]
  refine anyH_as (a' := ?Nu1) 6 #[true, false, true, true, false, true, true, false, true, true, false, false, false] (by kernel_rfl) (by kernel_rfl) ?HNu1 ?HMu1
  case HNu1 =>
    go_simp
    exact rfl
  refine anyH_one (o := { dst := some 79, op := Op.call { callee := Callee.value (Operand.func 18), args := #[Operand.tmp 78], argTypes := #[22] }, type := 22, pos := "law.go:74", after := #[{ on := 0, ground := Ground.data }], guard := none }) 1 (by kernel_rfl) rfl (fun K hK => ?_)
  rw [if_pos (by rfl)]
  go_simp
  refine (t18.out _ Yd7.out).mono ?_
  rintro e v70 ⟨a70, c70, rfl, o70, hb70⟩
  have Y70 : Aside (Lay w w1 bl br g n c' a l L R v70) := Yd7.out.keep hb70
  have Z70 : Aside (Fam v70 w.heap.size 5 (fun k => k = g ∨ k = Ab) (UPF V1 4 (.slice a70 (n + 1) c70)) (UPF N1 4 (n + 1)) (UPF X1 4 (BY (0 :: l)))) := Zd7.out.snoc hb70 Yd7.out.bel.size (KL2.out _ (Below.refl _ _).drew) o70
  have B70 : Aside (Below w13.heap.size w13 v70) := (Below.refl _ _).drew.trans (hb70.mono (Nat.le_refl _))
  refine hK.out _ _ ⟨Y70.out.hl, Y70.out.hr⟩ (fun hHeld70 => ?_)
  clear hK K hb70 Yd7 hHeld o70 Zd7
  refine anyH_as (a' := ?Nu2) 5 #[true, true, true, true, false, true, true, false, true, true, false, false, false] (by kernel_rfl) (by kernel_rfl) ?HNu2 ?HMu2
  case HNu2 =>
    go_simp
    exact rfl
  refine anyH_one (o := { dst := some 82, op := Op.call { callee := Callee.value (Operand.func 19), args := #[Operand.tmp 80, Operand.tmp 81], argTypes := #[24, 24] }, type := 22, pos := "law.go:74", after := #[{ on := 2, ground := Ground.data }, { on := 3, ground := Ground.data }, { on := 1, ground := Ground.chain }], guard := none }) 4 (by kernel_rfl) rfl (fun K hK => ?_)
  rw [if_pos (by rfl)]
  go_simp
  refine (t19.out _ Y70.out).mono ?_
  rintro e v71 ⟨a71, c71, rfl, o71, hb71⟩
  have Y71 : Aside (Lay w w1 bl br g n c' a l L R v71) := Y70.out.keep hb71
  have Z71 : Aside (Fam v71 w.heap.size 6 (fun k => k = g ∨ k = Ab) (UPF (UPF V1 4 (.slice a70 (n + 1) c70)) 5 (.slice a71 65 c71)) (UPF (UPF N1 4 (n + 1)) 5 65) (UPF (UPF X1 4 (BY (0 :: l))) 5 (BY (1 :: ((List.range 32).map L ++ (List.range 32).map R))))) := Z70.out.snoc hb71 Y70.out.bel.size (KL2.out _ B70.out) o71
  have B71 : Aside (Below w13.heap.size w13 v71) := B70.out.trans (hb71.mono B70.out.size)
  refine hK.out _ _ ⟨Y71.out.hl, Y71.out.hr⟩ (fun hHeld71 => ?_)
  clear hK K hb71 Y70 hHeld70 o71 Z70
  refine anyH_as (a' := ?Nu3) 4 #[true, true, true, true, true, true, true, false, true, true, false, false, false] (by kernel_rfl) (by kernel_rfl) ?HNu3 ?HMu3
  case HNu3 =>
    go_simp
    exact rfl
  refine anyH_one (o := { dst := some 85, op := Op.call { callee := Callee.value (Operand.func 20), args := #[Operand.tmp 83, Operand.tmp 84], argTypes := #[24, 24] }, type := 22, pos := "law.go:74", after := #[{ on := 5, ground := Ground.data }, { on := 6, ground := Ground.data }, { on := 4, ground := Ground.chain }], guard := none }) 7 (by kernel_rfl) rfl (fun K hK => ?_)
  rw [if_pos (by rfl)]
  go_simp
  refine (t20.out _ Y71.out).mono ?_
  rintro e v72 ⟨a72, c72, rfl, o72, hb72⟩
  have Y72 : Aside (Lay w w1 bl br g n c' a l L R v72) := Y71.out.keep hb72
  have Z72 : Aside (Fam v72 w.heap.size 7 (fun k => k = g ∨ k = Ab) (UPF (UPF (UPF V1 4 (.slice a70 (n + 1) c70)) 5 (.slice a71 65 c71)) 6 (.slice a72 65 c72)) (UPF (UPF (UPF N1 4 (n + 1)) 5 65) 6 65) (UPF (UPF (UPF X1 4 (BY (0 :: l))) 5 (BY (1 :: ((List.range 32).map L ++ (List.range 32).map R)))) 6 (BY (2 :: ((List.range 32).map L ++ (List.range 32).map R))))) := Z71.out.snoc hb72 Y71.out.bel.size (KL2.out _ B71.out) o72
  have B72 : Aside (Below w13.heap.size w13 v72) := B71.out.trans (hb72.mono B71.out.size)
  refine hK.out _ _ ⟨Y72.out.hl, Y72.out.hr⟩ (fun hHeld72 => ?_)
  clear hK K hb72 Y71 hHeld71 o72 Z71
  refine anyH_as (a' := ?Nu4) 3 #[true, true, true, true, true, true, true, true, true, true, false, false, false] (by kernel_rfl) (by kernel_rfl) ?HNu4 ?HMu4
  case HNu4 =>
    go_simp
    exact rfl
  refine anyH_one (o := { dst := some 88, op := Op.call { callee := Callee.value (Operand.func 21), args := #[Operand.tmp 86, Operand.tmp 87], argTypes := #[25, 24] }, type := 22, pos := "law.go:74", after := #[{ on := 8, ground := Ground.data }, { on := 9, ground := Ground.data }, { on := 7, ground := Ground.chain }], guard := none }) 10 (by kernel_rfl) rfl (fun K hK => ?_)
  rw [if_pos (by rfl)]
  go_simp
  refine (t21.out _ Y72.out).mono ?_
  rintro e v73 ⟨a73, c73, rfl, o73, hb73⟩
  have Y73 : Aside (Lay w w1 bl br g n c' a l L R v73) := Y72.out.keep hb73
  have Z73 : Aside (Fam v73 w.heap.size 8 (fun k => k = g ∨ k = Ab) (UPF (UPF (UPF (UPF V1 4 (.slice a70 (n + 1) c70)) 5 (.slice a71 65 c71)) 6 (.slice a72 65 c72)) 7 (.slice a73 41 c73)) (UPF (UPF (UPF (UPF N1 4 (n + 1)) 5 65) 6 65) 7 41) (UPF (UPF (UPF (UPF X1 4 (BY (0 :: l))) 5 (BY (1 :: ((List.range 32).map L ++ (List.range 32).map R)))) 6 (BY (2 :: ((List.range 32).map L ++ (List.range 32).map R)))) 7 (BY (3 :: (BE8 m ++ (List.range 32).map L))))) := Z72.out.snoc hb73 Y72.out.bel.size (KL2.out _ B72.out) o73
  have B73 : Aside (Below w13.heap.size w13 v73) := B72.out.trans (hb73.mono B72.out.size)
  refine hK.out _ _ ⟨Y73.out.hl, Y73.out.hr⟩ (fun hHeld73 => ?_)
  clear hK K hb73 Y72 hHeld72 o73 Z72
  refine anyH_as (a' := ?Nu5) 2 #[true, true, true, true, true, true, true, true, true, true, true, false, false] (by kernel_rfl) (by kernel_rfl) ?HNu5 ?HMu5
  case HNu5 =>
    go_simp
    exact rfl
  refine anyH_one (o := { dst := some 89, op := Op.buildSlice 32 4 #[(0, Operand.tmp 79), (1, Operand.tmp 82), (2, Operand.tmp 85), (3, Operand.tmp 88)], type := 32, pos := "law.go:74", after := #[{ on := 1, ground := Ground.data }, { on := 4, ground := Ground.data }, { on := 7, ground := Ground.data }, { on := 10, ground := Ground.data }], guard := none }) 11 (by kernel_rfl) rfl (fun K hK => ?_)
  rw [if_pos (by rfl)]
  go_simp
  refine hK.out _ _ ⟨((Y73.out.keep ((Below.refl _ _).alloc (Nat.le_refl _) _)).hl), ((Y73.out.keep ((Below.refl _ _).alloc (Nat.le_refl _) _)).hr)⟩ (fun hHeldB7 => ?_)
  clear hK K hHeld73
  refine anyH_as (a' := ?Nu6) 1 #[true, true, true, true, true, true, true, true, true, true, true, true, false] (by kernel_rfl) (by kernel_rfl) ?HNu6 ?HMu6
  case HNu6 =>
    go_simp
    exact rfl
  refine wpAnyH_take (i := 12) (oi := { dst := some 13, op := Op.assign (Operand.tmp 89), type := 32, pos := "law.go:74", after := #[{ on := 11, ground := Ground.data }, { on := 10, ground := Ground.chain }, { on := 0, ground := Ground.phase }, { on := 1, ground := Ground.phase }, { on := 2, ground := Ground.phase }, { on := 3, ground := Ground.phase }, { on := 4, ground := Ground.phase }, { on := 5, ground := Ground.phase }, { on := 6, ground := Ground.phase }, { on := 7, ground := Ground.phase }, { on := 8, ground := Ground.phase }, { on := 9, ground := Ground.phase }, { on := 10, ground := Ground.phase }, { on := 11, ground := Ground.phase }], guard := none }) (v := .slice (some ⟨v73.heap.size, 0, none⟩) 4 4) rfl (by kernel_rfl) (by kernel_rfl) (by kernel_rfl) (fun _ _ _ h => h) (Yields.yieldsIf (Or.inl ⟨by rfl, fun W => by go_simp⟩)) (by exact hHeldB7) ?_
  simp only [Act.put, List.setIfInBounds_toArray, List.set_cons_zero, List.set_cons_succ]
  refine anyH_as (a' := ?Nu7) 0 #[true, true, true, true, true, true, true, true, true, true, true, true, true] (by kernel_rfl) (by kernel_rfl) ?HNu7 ?HMu7
  case HNu7 =>
    go_simp
    exact rfl
  refine wpAnyH_done (by kernel_rfl) ?_ _
  clear hHeldB7
  obtain ⟨w14, Bb, V2, N2, X2, c2, hw14, hBb, hc2, P2⟩ : ∃ (w14 : World) (Bb : Nat) (V2 : Nat → Value) (N2 : Nat → Nat) (X2 : Nat → List Value) (c2 : Array Value), w14 = v73.alloc (.cells #[.slice a70 (n + 1) c70, .slice a71 65 c71, .slice a72 65 c72, .slice a73 41 c73] 22) ∧ Bb = v73.heap.size ∧ c2 = #[.slice a70 (n + 1) c70, .slice a71 65 c71, .slice a72 65 c72, .slice a73 41 c73] ∧ Aside (Lay w w1 bl br g n c' a l L R w14 ∧ Fam w14 w.heap.size 8 (fun k => k = g ∨ k = Ab ∨ k = Bb) V2 N2 X2 ∧ Has w14 Bb c2 22 ∧ Has w14 Ab c1 22 ∧ Ab < Bb ∧ (∀ x, x < 4 → c2[x]? = some (V2 (x + 4)) ∧ N2 (x + 4) = TLEN n x ∧ X2 (x + 4) = BY (TXT l L R m x)) ∧ (∀ x, x < 4 → V2 x = V1 x ∧ N2 x = N1 x ∧ X2 x = X1 x)) :=
    ⟨_, _, (UPF (UPF (UPF (UPF V1 4 (.slice a70 (n + 1) c70)) 5 (.slice a71 65 c71)) 6 (.slice a72 65 c72)) 7 (.slice a73 41 c73)), (UPF (UPF (UPF (UPF N1 4 (n + 1)) 5 65) 6 65) 7 41), (UPF (UPF (UPF (UPF X1 4 (BY (0 :: l))) 5 (BY (1 :: ((List.range 32).map L ++ (List.range 32).map R)))) 6 (BY (2 :: ((List.range 32).map L ++ (List.range 32).map R)))) 7 (BY (3 :: (BE8 m ++ (List.range 32).map L)))), _, rfl, rfl, rfl, Y73.out.keep ((Below.refl _ _).alloc (Nat.le_refl _) _), (Z73.out.more (by intro k hk he; rcases he with rfl | rfl | rfl; exact .inl rfl; exact .inr rfl; omega)).alloc _, Has.new _ _ _, (P1.out.2.2.1.keep B73.out).alloc _, Nat.lt_of_lt_of_le P1.out.2.2.1.lt B73.out.size, fun x hx => by rcases (show x = 0 ∨ x = 1 ∨ x = 2 ∨ x = 3 by omega) with rfl | rfl | rfl | rfl <;> exact ⟨rfl, rfl, rfl⟩, fun x hx => by rcases (show x = 0 ∨ x = 1 ∨ x = 2 ∨ x = 3 by omega) with rfl | rfl | rfl | rfl <;> exact ⟨rfl, rfl, rfl⟩⟩
  rw [← hw14, ← hBb]
  clear hw14 hBb hc2 Y73 Z73 B70 B71 B72 B73
  have Y14 : Aside (Lay w w1 bl br g n c' a l L R w14) := P2.out.1
  go_wp2_with fail
  have Yd8 : Aside (Lay w w1 bl br g n c' a l L R w14.drew) := Y14.out.keep (Below.refl _ _).drew
  refine wp_region_held_drew (S := fun W : World => W.rangeAt bl 0 (ULIST .u8 32 L) ∧ W.rangeAt br 0 (ULIST .u8 32 R)) (by kernel_rfl) ⟨Yd8.out.hl, Yd8.out.hr⟩ (fun hHeld => ?_)
  refine wpAnyH_take (i := 0) (oi := { dst := some 90, op := Op.move (Operand.tmp 1), type := 22, pos := "law.go:75", after := #[], guard := none }) (v := .slice a n c) rfl (by kernel_rfl) (by kernel_rfl) (by kernel_rfl) (fun _ _ _ h => h) (Yields.yieldsIf (Or.inl ⟨by rfl, fun W => by go_simp⟩)) (by exact hHeld) ?_
  simp only [Act.put, List.setIfInBounds_toArray, List.set_cons_zero, List.set_cons_succ]
  refine wpAnyH_take (i := 2) (oi := { dst := some 92, op := Op.load 24 (Operand.tmp 7), type := 24, pos := "law.go:75", after := #[], guard := none }) (v := .agg (ULIST .u8 32 L).toArray) rfl (by kernel_rfl) (by kernel_rfl) (by kernel_rfl) (fun _ _ _ h => h) (yieldsIf_load_mid (by rfl) 24 (.tmp 7) (by rfl) bl 0 (by rfl) (ULIST .u8 32 L) (.array 32 5) (fun _ h => h.1) hu1 (by rfl) hiL) (by exact hHeld) ?_
  simp only [Act.put, List.setIfInBounds_toArray, List.set_cons_zero, List.set_cons_succ]
  refine wpAnyH_take (i := 3) (oi := { dst := some 93, op := Op.load 24 (Operand.tmp 8), type := 24, pos := "law.go:75", after := #[], guard := none }) (v := .agg (ULIST .u8 32 R).toArray) rfl (by kernel_rfl) (by kernel_rfl) (by kernel_rfl) (fun _ _ _ h => h) (yieldsIf_load_mid (by rfl) 24 (.tmp 8) (by rfl) br 0 (by rfl) (ULIST .u8 32 R) (.array 32 5) (fun _ h => h.2) hu1 (by rfl) hiR) (by exact hHeld) ?_
  simp only [Act.put, List.setIfInBounds_toArray, List.set_cons_zero, List.set_cons_succ]
  refine wpAnyH_take (i := 5) (oi := { dst := some 95, op := Op.load 24 (Operand.tmp 7), type := 24, pos := "law.go:75", after := #[], guard := none }) (v := .agg (ULIST .u8 32 L).toArray) rfl (by kernel_rfl) (by kernel_rfl) (by kernel_rfl) (fun _ _ _ h => h) (yieldsIf_load_mid (by rfl) 24 (.tmp 7) (by rfl) bl 0 (by rfl) (ULIST .u8 32 L) (.array 32 5) (fun _ h => h.1) hu1 (by rfl) hiL) (by exact hHeld) ?_
  simp only [Act.put, List.setIfInBounds_toArray, List.set_cons_zero, List.set_cons_succ]
  refine wpAnyH_take (i := 6) (oi := { dst := some 96, op := Op.load 24 (Operand.tmp 8), type := 24, pos := "law.go:75", after := #[], guard := none }) (v := .agg (ULIST .u8 32 R).toArray) rfl (by kernel_rfl) (by kernel_rfl) (by kernel_rfl) (fun _ _ _ h => h) (yieldsIf_load_mid (by rfl) 24 (.tmp 8) (by rfl) br 0 (by rfl) (ULIST .u8 32 R) (.array 32 5) (fun _ h => h.2) hu1 (by rfl) hiR) (by exact hHeld) ?_
  simp only [Act.put, List.setIfInBounds_toArray, List.set_cons_zero, List.set_cons_succ]
  refine wpAnyH_take (i := 8) (oi := { dst := some 98, op := Op.move (Operand.tmp 4), type := 25, pos := "law.go:75", after := #[], guard := none }) (v := .int .u64 (m : Int)) rfl (by kernel_rfl) (by kernel_rfl) (by kernel_rfl) (fun _ _ _ h => h) (Yields.yieldsIf (Or.inl ⟨by rfl, fun W => by go_simp⟩)) (by exact hHeld) ?_
  simp only [Act.put, List.setIfInBounds_toArray, List.set_cons_zero, List.set_cons_succ]
  refine wpAnyH_take (i := 9) (oi := { dst := some 99, op := Op.load 24 (Operand.tmp 7), type := 24, pos := "law.go:75", after := #[], guard := none }) (v := .agg (ULIST .u8 32 L).toArray) rfl (by kernel_rfl) (by kernel_rfl) (by kernel_rfl) (fun _ _ _ h => h) (yieldsIf_load_mid (by rfl) 24 (.tmp 7) (by rfl) bl 0 (by rfl) (ULIST .u8 32 L) (.array 32 5) (fun _ h => h.1) hu1 (by rfl) hiL) (by exact hHeld) ?_
  simp only [Act.put, List.setIfInBounds_toArray, List.set_cons_zero, List.set_cons_succ]
  refine anyH_as (a' := ?Nx1) 6 #[true, false, true, true, false, true, true, false, true, true, false, false, false] (by kernel_rfl) (by kernel_rfl) ?HNx1 ?HMx1
  case HNx1 =>
    go_simp
    exact rfl
  refine anyH_one (o := { dst := some 91, op := Op.call { callee := Callee.value (Operand.func 22), args := #[Operand.tmp 90], argTypes := #[22] }, type := 22, pos := "law.go:75", after := #[{ on := 0, ground := Ground.data }], guard := none }) 1 (by kernel_rfl) rfl (fun K hK => ?_)
  rw [if_pos (by rfl)]
  go_simp
  refine (t22.out _ Yd8.out).mono ?_
  rintro e v80 ⟨a80, c80, rfl, o80, hb80⟩
  have Y80 : Aside (Lay w w1 bl br g n c' a l L R v80) := Yd8.out.keep hb80
  have F80 : Aside (Fam v80 w.heap.size 9 (fun k => k = g ∨ k = Ab ∨ k = Bb) (UPF V2 8 (.slice a80 (n + 1) c80)) (UPF N2 8 (n + 1)) (UPF X2 8 (BY (0 :: l)))) := (P2.out.2.1.below (Below.refl _ _).drew).snoc hb80 Yd8.out.bel.size (fun k hk => by have h1 := P2.out.1.bb; have h2 := P2.out.2.2.1.lt; have h3 := P2.out.2.2.2.1.lt; show k < w14.heap.size; rcases hk with rfl | rfl | rfl <;> omega) o80
  have Q80 : Aside (Txts v80 [(.slice a80 (n + 1) c80, (0 :: l))]) := Txts.one o80 SM.out.1
  have B80 : Aside (Below w14.heap.size w14 v80) := (Below.refl _ _).drew.trans (hb80.mono (Nat.le_refl _))
  refine hK.out _ _ ⟨Y80.out.hl, Y80.out.hr⟩ (fun hHeld80 => ?_)
  clear hK K hb80 Yd8 hHeld o80
  refine anyH_as (a' := ?Nx2) 5 #[true, true, true, true, false, true, true, false, true, true, false, false, false] (by kernel_rfl) (by kernel_rfl) ?HNx2 ?HMx2
  case HNx2 =>
    go_simp
    exact rfl
  refine anyH_one (o := { dst := some 94, op := Op.call { callee := Callee.value (Operand.func 23), args := #[Operand.tmp 92, Operand.tmp 93], argTypes := #[24, 24] }, type := 22, pos := "law.go:75", after := #[{ on := 2, ground := Ground.data }, { on := 3, ground := Ground.data }, { on := 1, ground := Ground.chain }], guard := none }) 4 (by kernel_rfl) rfl (fun K hK => ?_)
  rw [if_pos (by rfl)]
  go_simp
  refine (t23.out _ Y80.out).mono ?_
  rintro e v81 ⟨a81, c81, rfl, o81, hb81⟩
  have Y81 : Aside (Lay w w1 bl br g n c' a l L R v81) := Y80.out.keep hb81
  have F81 : Aside (Fam v81 w.heap.size 9 (fun k => k = g ∨ k = Ab ∨ k = Bb) (UPF V2 8 (.slice a80 (n + 1) c80)) (UPF N2 8 (n + 1)) (UPF X2 8 (BY (0 :: l)))) := F80.out.below hb81
  have Q81 : Aside (Txts v81 [(.slice a80 (n + 1) c80, (0 :: l)), (.slice a81 65 c81, (1 :: ((List.range 32).map L ++ (List.range 32).map R)))]) := (Q80.out.below hb81).snoc o81 SM.out.2.1
  have B81 : Aside (Below w14.heap.size w14 v81) := B80.out.trans (hb81.mono B80.out.size)
  refine hK.out _ _ ⟨Y81.out.hl, Y81.out.hr⟩ (fun hHeld81 => ?_)
  clear hK K hb81 Y80 hHeld80 o81 Q80 B80
  clear F80
  refine anyH_as (a' := ?Nx3) 4 #[true, true, true, true, true, true, true, false, true, true, false, false, false] (by kernel_rfl) (by kernel_rfl) ?HNx3 ?HMx3
  case HNx3 =>
    go_simp
    exact rfl
  refine anyH_one (o := { dst := some 97, op := Op.call { callee := Callee.value (Operand.func 24), args := #[Operand.tmp 95, Operand.tmp 96], argTypes := #[24, 24] }, type := 22, pos := "law.go:75", after := #[{ on := 5, ground := Ground.data }, { on := 6, ground := Ground.data }, { on := 4, ground := Ground.chain }], guard := none }) 7 (by kernel_rfl) rfl (fun K hK => ?_)
  rw [if_pos (by rfl)]
  go_simp
  refine (t24.out _ Y81.out).mono ?_
  rintro e v82 ⟨a82, c82, rfl, o82, hb82⟩
  have Y82 : Aside (Lay w w1 bl br g n c' a l L R v82) := Y81.out.keep hb82
  have F82 : Aside (Fam v82 w.heap.size 9 (fun k => k = g ∨ k = Ab ∨ k = Bb) (UPF V2 8 (.slice a80 (n + 1) c80)) (UPF N2 8 (n + 1)) (UPF X2 8 (BY (0 :: l)))) := F81.out.below hb82
  have Q82 : Aside (Txts v82 [(.slice a80 (n + 1) c80, (0 :: l)), (.slice a81 65 c81, (1 :: ((List.range 32).map L ++ (List.range 32).map R))), (.slice a82 65 c82, (2 :: ((List.range 32).map L ++ (List.range 32).map R)))]) := (Q81.out.below hb82).snoc o82 SM.out.2.2.1
  have B82 : Aside (Below w14.heap.size w14 v82) := B81.out.trans (hb82.mono B81.out.size)
  refine hK.out _ _ ⟨Y82.out.hl, Y82.out.hr⟩ (fun hHeld82 => ?_)
  clear hK K hb82 Y81 hHeld81 o82 Q81 B81
  clear F81
  refine anyH_as (a' := ?Nx4) 3 #[true, true, true, true, true, true, true, true, true, true, false, false, false] (by kernel_rfl) (by kernel_rfl) ?HNx4 ?HMx4
  case HNx4 =>
    go_simp
    exact rfl
  refine anyH_one (o := { dst := some 100, op := Op.call { callee := Callee.value (Operand.func 25), args := #[Operand.tmp 98, Operand.tmp 99], argTypes := #[25, 24] }, type := 22, pos := "law.go:75", after := #[{ on := 8, ground := Ground.data }, { on := 9, ground := Ground.data }, { on := 7, ground := Ground.chain }], guard := none }) 10 (by kernel_rfl) rfl (fun K hK => ?_)
  rw [if_pos (by rfl)]
  go_simp
  refine (t25.out _ Y82.out).mono ?_
  rintro e v83 ⟨a83, c83, rfl, o83, hb83⟩
  have Y83 : Aside (Lay w w1 bl br g n c' a l L R v83) := Y82.out.keep hb83
  have F83 : Aside (Fam v83 w.heap.size 9 (fun k => k = g ∨ k = Ab ∨ k = Bb) (UPF V2 8 (.slice a80 (n + 1) c80)) (UPF N2 8 (n + 1)) (UPF X2 8 (BY (0 :: l)))) := F82.out.below hb83
  have Q83 : Aside (Txts v83 [(.slice a80 (n + 1) c80, (0 :: l)), (.slice a81 65 c81, (1 :: ((List.range 32).map L ++ (List.range 32).map R))), (.slice a82 65 c82, (2 :: ((List.range 32).map L ++ (List.range 32).map R))), (.slice a83 41 c83, (3 :: (BE8 m ++ (List.range 32).map L)))]) := (Q82.out.below hb83).snoc o83 SM.out.2.2.2
  have B83 : Aside (Below w14.heap.size w14 v83) := B82.out.trans (hb83.mono B82.out.size)
  refine hK.out _ _ ⟨Y83.out.hl, Y83.out.hr⟩ (fun hHeld83 => ?_)
  clear hK K hb83 Y82 hHeld82 o83 Q82 B82
  clear F82
  refine anyH_as (a' := ?Nx5) 2 #[true, true, true, true, true, true, true, true, true, true, true, false, false] (by kernel_rfl) (by kernel_rfl) ?HNx5 ?HMx5
  case HNx5 =>
    go_simp
    exact rfl
  refine anyH_one (o := { dst := some 101, op := Op.buildSlice 32 4 #[(0, Operand.tmp 91), (1, Operand.tmp 94), (2, Operand.tmp 97), (3, Operand.tmp 100)], type := 32, pos := "law.go:75", after := #[{ on := 1, ground := Ground.data }, { on := 4, ground := Ground.data }, { on := 7, ground := Ground.data }, { on := 10, ground := Ground.data }], guard := none }) 11 (by kernel_rfl) rfl (fun K hK => ?_)
  rw [if_pos (by rfl)]
  go_simp
  refine hK.out _ _ ⟨((Y83.out.keep ((Below.refl _ _).alloc (Nat.le_refl _) _)).hl), ((Y83.out.keep ((Below.refl _ _).alloc (Nat.le_refl _) _)).hr)⟩ (fun hHeldB8 => ?_)
  clear hK K hHeld83
  refine anyH_as (a' := ?Nx6) 1 #[true, true, true, true, true, true, true, true, true, true, true, true, false] (by kernel_rfl) (by kernel_rfl) ?HNx6 ?HMx6
  case HNx6 =>
    go_simp
    exact rfl
  refine wpAnyH_take (i := 12) (oi := { dst := some 14, op := Op.assign (Operand.tmp 101), type := 32, pos := "law.go:75", after := #[{ on := 11, ground := Ground.data }, { on := 10, ground := Ground.chain }, { on := 0, ground := Ground.phase }, { on := 1, ground := Ground.phase }, { on := 2, ground := Ground.phase }, { on := 3, ground := Ground.phase }, { on := 4, ground := Ground.phase }, { on := 5, ground := Ground.phase }, { on := 6, ground := Ground.phase }, { on := 7, ground := Ground.phase }, { on := 8, ground := Ground.phase }, { on := 9, ground := Ground.phase }, { on := 10, ground := Ground.phase }, { on := 11, ground := Ground.phase }], guard := none }) (v := .slice (some ⟨v83.heap.size, 0, none⟩) 4 4) rfl (by kernel_rfl) (by kernel_rfl) (by kernel_rfl) (fun _ _ _ h => h) (Yields.yieldsIf (Or.inl ⟨by rfl, fun W => by go_simp⟩)) (by exact hHeldB8) ?_
  simp only [Act.put, List.setIfInBounds_toArray, List.set_cons_zero, List.set_cons_succ]
  refine anyH_as (a' := ?Nx7) 0 #[true, true, true, true, true, true, true, true, true, true, true, true, true] (by kernel_rfl) (by kernel_rfl) ?HNx7 ?HMx7
  case HNx7 =>
    go_simp
    exact rfl
  refine wpAnyH_done (by kernel_rfl) ?_ _
  clear hHeldB8
  obtain ⟨w15, Cb, V3, N3, X3, c3, hw15, hCb, hc3, P3⟩ : ∃ (w15 : World) (Cb : Nat) (V3 : Nat → Value) (N3 : Nat → Nat) (X3 : Nat → List Value) (c3 : Array Value), w15 = v83.alloc (.cells #[.slice a80 (n + 1) c80, .slice a81 65 c81, .slice a82 65 c82, .slice a83 41 c83] 22) ∧ Cb = v83.heap.size ∧ c3 = #[.slice a80 (n + 1) c80, .slice a81 65 c81, .slice a82 65 c82, .slice a83 41 c83] ∧ Aside (S2 w g n c' Ab Bb Cb l c1 c2 c3 V3 N3 X3 (.slice none 0 0) (.slice none 0 0) 0 0 w15 ∧ CND n c1 c2 0 0 V3 N3 X3 (TLEN n) ∧ (∀ x, x < 4 → X3 x = BY (TXT l L R m x) ∧ X3 (x + 4) = BY (TXT l L R m x)) ∧ (∀ x, x < 4 → ∃ a3 q3, c3[x]? = some (.slice a3 (TLEN n x) q3) ∧ Text w15 a3 (TLEN n x) (TXT l L R m x)) ∧ (c3[0]? = some (V3 8) ∧ N3 8 = n + 1 ∧ X3 8 = BY (0 :: l)) ∧ Tabled w15) := by
    refine ⟨_, _, (UPF V2 8 (.slice a80 (n + 1) c80)), (UPF N2 8 (n + 1)), (UPF X2 8 (BY (0 :: l))), _, rfl, rfl, rfl, ?_⟩
    obtain ⟨p1, p2, p3, p4, p5, p6, p7⟩ := P2.out
    obtain ⟨o1, o2, o3, o4⟩ := P1.out
    have hb : Below v83.heap.size v83 (v83.alloc (.cells #[.slice a80 (n + 1) c80, .slice a81 65 c81, .slice a82 65 c82, .slice a83 41 c83] 22)) := (Below.refl _ _).alloc (Nat.le_refl _) _
    have yl := Y83.out.keep hb
    refine ⟨⟨yl.bel, yl.giv, (F83.out.more (K' := KK g Ab Bb v83.heap.size (.slice none 0 0) (.slice none 0 0)) ?_).below hb, (p4.keep B83.out).keep hb, (p3.keep B83.out).keep hb, Has.new _ _ _, ⟨rfl, .inl ⟨rfl, rfl⟩⟩, ⟨rfl, .inl ⟨rfl, rfl⟩⟩, (fun q e => by cases e), (fun q e => by cases e), (fun q e => by cases e)⟩, ⟨fun x _ hx => ?_, fun x hx => by omega, fun x hx => by omega, ⟨fun j hj => by omega, fun j hj => by omega⟩, fun x => ?_⟩, fun x hx => ?_, fun x hx => ?_, ⟨rfl, rfl, rfl⟩, yl.tab⟩
    · intro k hk he
      rcases he with e | e | e | e | e | e
      · exact .inl e
      · exact .inr (.inl e)
      · exact .inr (.inr e)
      · omega
      · cases e
      · cases e
    · rw [UPF_other _ _ (by omega), UPF_other _ _ (by omega), UPF_other _ _ (by omega), UPF_other _ _ (by omega)]
      obtain ⟨z1, z2, z3⟩ := p7 x hx
      obtain ⟨z4, z5, z6⟩ := o4 x hx
      obtain ⟨z7, z8, z9⟩ := p6 x hx
      exact ⟨by rw [z1]; exact z4, z7, by rw [z2]; exact z5, z8⟩
    · have := H.out.1
      unfold TLEN
      split
      · omega
      · split
        · omega
        · split <;> omega
    · rw [UPF_other _ _ (by omega), UPF_other _ _ (by omega)]
      obtain ⟨z1, z2, z3⟩ := p7 x hx
      obtain ⟨z4, z5, z6⟩ := o4 x hx
      obtain ⟨z7, z8, z9⟩ := p6 x hx
      exact ⟨by rw [z3]; exact z6, z9⟩
    · have hq := Q83.out.below hb
      rcases (show x = 0 ∨ x = 1 ∨ x = 2 ∨ x = 3 by omega) with rfl | rfl | rfl | rfl
      · obtain ⟨b1, b2, b3, e, ht⟩ := hq _ (List.mem_cons_self ..)
        cases e
        exact ⟨_, _, rfl, ht⟩
      · obtain ⟨b1, b2, b3, e, ht⟩ := hq _ (List.mem_cons_of_mem _ (List.mem_cons_self ..))
        cases e
        exact ⟨_, _, rfl, ht⟩
      · obtain ⟨b1, b2, b3, e, ht⟩ := hq _ (List.mem_cons_of_mem _ (List.mem_cons_of_mem _ (List.mem_cons_self ..)))
        cases e
        exact ⟨_, _, rfl, ht⟩
      · obtain ⟨b1, b2, b3, e, ht⟩ := hq _ (List.mem_cons_of_mem _ (List.mem_cons_of_mem _ (List.mem_cons_of_mem _ (List.mem_cons_self ..))))
        cases e
        exact ⟨_, _, rfl, ht⟩
  go_wp2_with fail
  rw [← hw15, ← hCb]
  clear hw15 hCb hc3 Q83 F83 B83 Y83 P1 P2
  have TS : Aside (∀ x, x < 4 → Small8 (TXT l L R m x)) := fun x hx => by
    rcases (show x = 0 ∨ x = 1 ∨ x = 2 ∨ x = 3 by omega) with rfl | rfl | rfl | rfl
    · exact SM.out.1
    · exact SM.out.2.1
    · exact SM.out.2.2.1
    · exact SM.out.2.2.2
  have NC : Aside (n + 1 ≤ c') := Y1.out.bb.2.2.2.2.2
  clear SM Y1 Y2 Y13 Y14 Z13 Z0 KL KL2 t19 t20 t21 t22 t23 t24 t25
  go_loopg [15] 4 (fun gg s15 wx => ∃ i : Nat, s15 = .int .i64 (i : Int) ∧ Aside (i + gg = 4 ∧ Below w15.heap.size w15 wx))
  case atStart => exact ⟨0, rfl, by omega, Below.refl _ _⟩
  case round =>
    obtain ⟨i, rfl, I⟩ := hrel
    cases gk with
    | succ gg =>
      have hi4 : i < 4 := by have := I.out.1; omega
      have hlt : (i : Int) < 4 := by omega
      have hlt0 : (0 : Int) ≤ (i : Int) := by omega
      have hi1 : wrap64 ((i : Int) + 1) = ((i + 1 : Nat) : Int) := by unfold wrap64; omega
      obtain ⟨s1, s2, s3, s4, s5, s6⟩ := P3.out
      obtain ⟨z1, z2, z3, z4⟩ := s2.old i (Nat.zero_le _) hi4
      obtain ⟨x1, x2⟩ := s3 i hi4
      obtain ⟨ac, qc, y3, tc⟩ := s4 i hi4
      have ra := s1.fam.row i (by omega)
      have rb := s1.fam.row (i + 4) (by omega)
      rw [z3, x1] at ra
      rw [z4, x2] at rb
      obtain ⟨aa, qa, ea, -⟩ := own_form ra
      obtain ⟨ab, qb, eb, -⟩ := own_form rb
      rw [ea] at ra z1
      rw [eb] at rb z2
      have ta := own_text ra (TS.out i hi4)
      have tb := own_text rb (TS.out i hi4)
      have hTL := s2.few i
      have hb := I.out.2
      have C : Aside (∀ W, Below wr.heap.size wr W → W.cell? ⟨Ab, i, none⟩ = some (.slice aa (TLEN n i) qa) ∧ W.cell? ⟨Bb, i, none⟩ = some (.slice ab (TLEN n i) qb) ∧ W.cell? ⟨Cb, i, none⟩ = some (.slice ac (TLEN n i) qc) ∧ Text W aa (TLEN n i) (TXT l L R m i) ∧ Text W ab (TLEN n i) (TXT l L R m i) ∧ Text W ac (TLEN n i) (TXT l L R m i) ∧ Below w15.heap.size w15 W) := fun W hW => by
        have hb2 := hb.trans (hW.mono hb.size)
        exact ⟨((s1.hA.keep hb2).cell i).trans z1, ((s1.hB.keep hb2).cell i).trans z2, ((s1.hC.keep hb2).cell i).trans y3, ta.below hb2, tb.below hb2, tc.below hb2, hb2⟩
      generalize TLEN n i = tl at *
      generalize TXT l L R m i = tt at *
      have ka : Aside (∀ W, Below wr.heap.size wr W → Calls Tryd.prog 26 #[.slice aa tl qa, .slice ac tl qc] W fun e w' => e = .returned (.bool true) ∧ Below W.heap.size W w') := fun W hW => (same_ok aa ac tl tl qa qc tt tt W (C.out W hW).2.2.2.1 (C.out W hW).2.2.2.2.2.1 (by omega)).mono fun e w' h => ⟨by simpa using h.1, h.2.1⟩
      have kb : Aside (∀ W, Below wr.heap.size wr W → Calls Tryd.prog 26 #[.slice ab tl qb, .slice ac tl qc] W fun e w' => e = .returned (.bool true) ∧ Below W.heap.size W w') := fun W hW => (same_ok ab ac tl tl qb qc tt tt W (C.out W hW).2.2.2.2.1 (C.out W hW).2.2.2.2.2.1 (by omega)).mono fun e w' h => ⟨by simpa using h.1, h.2.1⟩
      have II : Aside (i + 1 + gg = 4) := by have := I.out.1; unfold Aside; omega
      obtain ⟨d1, d2, d3, -⟩ := C.out wr (Below.refl _ _)
      clear s1 s2 s3 s4 s5 s6 z1 z2 z3 z4 x1 x2 y3 tc ra rb ea eb ta tb hTL hb I
      go_wp2_with fail
      go_region_held3 (fun W : World => W.cell? ⟨Ab, i, none⟩ = some (.slice aa tl qa) ∧ W.cell? ⟨Bb, i, none⟩ = some (.slice ab tl qb) ∧ W.cell? ⟨Cb, i, none⟩ = some (.slice ac tl qc)) (exact ⟨by assumption, by assumption, by assumption⟩) (first
        | (go_at_call 26; refine (ka.out _ (Below.refl _ _).drew).mono ?_; rintro e w16 ⟨rfl, hb16⟩; have B16 : Aside (Below wr.heap.size wr w16) := (Below.refl _ _).drew.trans (hb16.mono (Nat.le_refl _)); obtain ⟨g1, g2, g3, -⟩ := C.out w16 B16.out; clear hb16)
        | (go_at_call 26; refine (kb.out _ B16.out).mono ?_; rintro e w17 ⟨rfl, hb17⟩; have B17 : Aside (Below wr.heap.size wr w17) := B16.out.trans (hb17.mono B16.out.size); obtain ⟨g4, g5, g6, -⟩ := C.out w17 B17.out; clear hb17))
      go_wp2
      go_roundg gg
      case measure => omega
      case rel => exact ⟨i + 1, by first | rfl | (rw [hi1]), II.out, (C.out w17 B17.out).2.2.2.2.2.2⟩
    | zero =>
      obtain rfl : i = 4 := by have := I.out.1; omega
      have hlt : ¬ ((4 : Nat) : Int) < 4 := by omega
      have P4 : Aside (S2 w g n c' Ab Bb Cb l c1 c2 c3 V3 N3 X3 (.slice none 0 0) (.slice none 0 0) 0 0 wr ∧ CND n c1 c2 0 0 V3 N3 X3 (TLEN n) ∧ c3[0]? = some (V3 8) ∧ N3 8 = n + 1 ∧ X3 8 = BY (0 :: l)) := by
        obtain ⟨s1, s2, s3, s4, s5, s6⟩ := P3.out
        exact ⟨s1.keep I.out.2, s2, s5⟩
      clear I P3
      go_wp2
      go_loopg [16, 17, 18] 4 (fun gg s16 s17 s18 wx => ∃ (i : Nat) (V : Nat → Value) (N : Nat → Nat) (XS : Nat → List Value), s18 = .int .i64 (i : Int) ∧ Aside (i + gg = 4 ∧ S2 w g n c' Ab Bb Cb l c1 c2 c3 V N XS s16 s17 i i wx ∧ CND n c1 c2 i 0 V N XS (TLEN n) ∧ c3[0]? = some (V 8) ∧ N 8 = n + 1 ∧ XS 8 = BY (0 :: l)))
      case atStart => exact ⟨0, V3, N3, X3, rfl, by omega, P4.out⟩
      case round =>
        clear P4
        obtain ⟨i, V, N, XS, rfl, I⟩ := hrel
        cases gk with
        | succ gg =>
          have hi4 : i < 4 := by have := I.out.1; omega
          have hlt : (i : Int) < 4 := by omega
          have hlt0 : (0 : Int) ≤ (i : Int) := by omega
          have hi1 : wrap64 ((i : Int) + 1) = ((i + 1 : Nat) : Int) := by unfold wrap64; omega
          obtain ⟨s1, s2, s3, s4⟩ := I.out
          obtain ⟨z1, z2, z3, z4⟩ := s3.old i (Nat.le_refl _) hi4
          have htl : 0 < TLEN n i ∧ TLEN n i ≤ 3001 := ⟨by unfold TLEN; split; omega; split; omega; split <;> omega, s3.few i⟩
          obtain ⟨ba, qa, ea⟩ : ∃ ba qa, V i = .slice (some ⟨ba, 0, none⟩) (TLEN n i) qa := by
            have ra := s2.fam.row i (by omega)
            rw [z3] at ra
            obtain ⟨aa, qa, e, h⟩ := own_form ra
            obtain ⟨g', rfl⟩ := h htl.1
            exact ⟨g', qa, e⟩
          obtain ⟨bb, qb, eb⟩ : ∃ bb qb, V (i + 4) = .slice (some ⟨bb, 0, none⟩) (TLEN n i) qb := by
            have rb := s2.fam.row (i + 4) (by omega)
            rw [z4] at rb
            obtain ⟨aa, qa, e, h⟩ := own_form rb
            obtain ⟨g', rfl⟩ := h htl.1
            exact ⟨g', qa, e⟩
          rw [ea] at z1
          rw [eb] at z2
          have hne : ¬ ba = bb := fun e => s2.fam.apart i (i + 4) (by omega) (by omega) (by omega) ba (by rw [ea]; rfl) (by rw [eb, e]; rfl)
          have hne2 : ¬ bb = ba := fun e => hne e.symm
          obtain ⟨tl, htl2⟩ : ∃ tl, TLEN n i = tl := ⟨_, rfl⟩
          have G : Aside (V i = .slice (some ⟨ba, 0, none⟩) tl qa ∧ V (i + 4) = .slice (some ⟨bb, 0, none⟩) tl qb ∧ N i = tl ∧ N (i + 4) = tl ∧ c1[i]? = some (.slice (some ⟨ba, 0, none⟩) tl qa) ∧ c2[i]? = some (.slice (some ⟨bb, 0, none⟩) tl qb) ∧ i < 4 ∧ TLEN n i = tl ∧ tl ≤ 3001) := by rw [← htl2]; exact ⟨ea, eb, z3, z4, z1, z2, hi4, rfl, htl.2⟩
          have S0 : Aside (S2 w g n c' Ab Bb Cb l c1 c2 c3 V N XS u16 u17 i i wr ∧ CND n c1 c2 i 0 V N XS (TLEN n) ∧ XS 8 = BY (0 :: l)) := ⟨s2, s3, s4.2.2⟩
          have S8 : Aside (c3[0]? = some (V 8) ∧ N 8 = n + 1) := ⟨s4.1, s4.2.1⟩
          have II : Aside (i + 1 + gg = 4) := by unfold Aside; omega
          rw [htl2] at z1 z2 ea eb
          clear s1 s2 s3 s4 I htl htl2 z3 z4 ea eb
          generalize hwo : wr = wo at *
          clear hwo
          go_wp2
          go_loopg [19] tl (fun gg s19 wx => ∃ (k : Nat) (XS : Nat → List Value), s19 = .int .i64 (k : Int) ∧ Aside (k + gg = tl ∧ S2 w g n c' Ab Bb Cb l c1 c2 c3 V N XS u16 u17 i i wx ∧ CND n c1 c2 i k V N XS (TLEN n) ∧ XS 8 = BY (0 :: l)))
          case atStart => exact ⟨0, XS, rfl, by omega, S0.out⟩
          case round =>
            clear S0
            obtain ⟨k, XS', rfl, I⟩ := hrel
            have y1 : wr.cell? ⟨Ab, i, none⟩ = some (.slice (some ⟨ba, 0, none⟩) tl qa) := (I.out.2.1.hA.cell i).trans z1
            have y2 : wr.cell? ⟨Bb, i, none⟩ = some (.slice (some ⟨bb, 0, none⟩) tl qb) := (I.out.2.1.hB.cell i).trans z2
            cases gk with
            | succ gg2 =>
              have hk : k < tl := by have := I.out.1; omega
              have hkl : (k : Int) < (tl : Int) := by omega
              have hk0 : (0 : Int) ≤ (k : Int) := by omega
              have hk1 : wrap64 ((k : Int) + 1) = ((k + 1 : Nat) : Int) := by have := G.out.2.2.2.2.2.2.2.2; unfold wrap64; omega
              obtain ⟨g1, g2, g3, g4, g5, g6, g7, g8, g9⟩ := G.out
              obtain ⟨s1, s2, s3, s4⟩ := I.out
              have ra := s2.fam.row i (by omega)
              have rb := s2.fam.row (i + 4) (by omega)
              rw [g1, g3] at ra
              rw [g2, g4] at rb
              obtain ⟨ua, hua⟩ : ∃ u, wr.cell? ⟨ba, k, none⟩ = some u := ⟨_, (ra.cellAt k (by omega)).trans (List.getElem?_eq_getElem (by have := ra.1; omega))⟩
              obtain ⟨ub, hub⟩ : ∃ u, wr.cell? ⟨bb, k, none⟩ = some u := ⟨_, (rb.cellAt k (by omega)).trans (List.getElem?_eq_getElem (by have := rb.1; omega))⟩
              have fa : wr.frozen? ⟨ba, k, none⟩ = false := ra.frozenAt k
              have fb : wr.frozen? ⟨bb, k, none⟩ = false := rb.frozenAt k
              have nA : ¬ ba = Ab := fun e => s2.fam.off i (by omega) ba (by rw [g1]; rfl) (.inr (.inl e))
              have nB : ¬ ba = Bb := fun e => s2.fam.off i (by omega) ba (by rw [g1]; rfl) (.inr (.inr (.inl e)))
              have mA : ¬ bb = Ab := fun e => s2.fam.off (i + 4) (by omega) bb (by rw [g2]; rfl) (.inr (.inl e))
              have mB : ¬ bb = Bb := fun e => s2.fam.off (i + 4) (by omega) bb (by rw [g2]; rfl) (.inr (.inr (.inl e)))
              have R : Aside (∃ X2, k + 1 + gg2 = tl ∧ S2 w g n c' Ab Bb Cb l c1 c2 c3 V N X2 u16 u17 i i ((wr.setCell ⟨ba, k, none⟩ (.int .u8 201)).setCell ⟨bb, k, none⟩ (.int .u8 202)) ∧ CND n c1 c2 i (k + 1) V N X2 (TLEN n) ∧ X2 8 = BY (0 :: l)) := by
                refine ⟨_, by omega, (s2.store (by omega) g1 k (.int .u8 201)).store (by omega) g2 k (.int .u8 202), ⟨s3.old, s3.new, fun x hx => ?_, ⟨fun j hj => ?_, fun j hj => ?_⟩, s3.few⟩, ?_⟩
                · rw [UPF_other _ _ (by omega), UPF_other _ _ (by omega), UPF_other _ _ (by omega), UPF_other _ _ (by omega)]
                  exact s3.cell x hx
                · rw [UPF_other _ _ (by omega), UPF_at, List.getElem?_set]
                  split
                  · rw [if_pos (by have := ra.1; omega)]
                  · exact s3.cur.1 j (by omega)
                · rw [UPF_at, UPF_other _ _ (by omega), List.getElem?_set]
                  split
                  · rw [if_pos (by have := rb.1; omega)]
                  · exact s3.cur.2 j (by omega)
                · rw [UPF_other _ _ (by omega), UPF_other _ _ (by omega)]
                  exact s4
              clear g1 g2 g3 g4 g5 g6 g7 g8 g9 s1 s2 s3 s4 ra rb I
              go_wp2
              go_region_held3 (fun W : World => W.cell? ⟨Ab, i, none⟩ = some (.slice (some ⟨ba, 0, none⟩) tl qa) ∧ W.cell? ⟨Bb, i, none⟩ = some (.slice (some ⟨bb, 0, none⟩) tl qb)) (go_keep) (fail)
              go_wp2
              go_roundg gg2
              case measure => omega
              case rel =>
                obtain ⟨X2, h⟩ := R.out
                exact ⟨k + 1, X2, by first | rfl | (rw [hk1]), h.1, h.2.1.keep (Below.refl _ _).drew, h.2.2⟩
            | zero =>
              obtain rfl : k = tl := by have := I.out.1; omega
              have hkl : ¬ (k : Int) < (k : Int) := by omega
              obtain ⟨ax, qx, rfl, -⟩ := own_form I.out.2.1.rx
              obtain ⟨ay, qy, rfl, -⟩ := own_form I.out.2.1.ry
              have M : Aside (S2 w g n c' Ab Bb Cb l c1 c2 c3 V N XS' (.slice ax i qx) (.slice ay i qy) i i wr ∧ CND n c1 c2 i k V N XS' (TLEN n) ∧ XS' 8 = BY (0 :: l)) := I.out.2
              have RA : Aside (∀ W, Below wr.heap.size wr W → S2 w g n c' Ab Bb Cb l c1 c2 c3 V N XS' (.slice ax i qx) (.slice ay i qy) i i W ∧ W.ownsRow w.heap.size 5 1 (.slice (some ⟨ba, 0, none⟩) k qa) k (XS' i) ∧ w.heap.size ≤ W.heap.size) := fun W hW => by
                have h := M.out.1.keep hW
                have ra := h.fam.row i (by have := G.out.2.2.2.2.2.2.1; omega)
                rw [G.out.1, G.out.2.2.1] at ra
                exact ⟨h, ra, h.bel.size⟩
              have nm : Aside (k ≤ 100000 ∧ i ≤ 1000) := by have h1 := G.out.2.2.2.2.2.2.2.2; have h2 := G.out.2.2.2.2.2.2.1; unfold Aside; omega
              have S5 : Aside (∀ V' N' X' sx sy ix iy W, S2 w g n c' Ab Bb Cb l c1 c2 c3 V' N' X' sx sy ix iy W → W.cell? ⟨Ab, i, none⟩ = some (.slice (some ⟨ba, 0, none⟩) k qa) ∧ W.cell? ⟨Bb, i, none⟩ = some (.slice (some ⟨bb, 0, none⟩) k qb)) := fun V' N' X' sx sy ix iy W h => ⟨(h.hA.cell i).trans z1, (h.hB.cell i).trans z2⟩
              clear I
              go_wp2
              have LT : Aside (ba < wr.heap.size ∧ (∀ q, (Value.slice ax i qx).ownBlock = some q → q < wr.heap.size)) := by
                obtain ⟨h, ra, -⟩ := RA.out wr (Below.refl _ _)
                exact ⟨(ra.lt ba rfl).2, fun q hq => (h.rx.lt q hq).2⟩
              have FIN : Aside (∀ h1 p1 h3 p3, CND n c1 c2 (i + 1) 0 (UPF (UPF V i (.slice (some ⟨h1, 0, none⟩) (k + 1) p1)) (i + 4) (.slice (some ⟨h3, 0, none⟩) (k + 1) p3)) (UPF (UPF N i (k + 1)) (i + 4) (k + 1)) (UPF (UPF XS' i (XS' i ++ [.int .u8 201])) (i + 4) ((UPF XS' i (XS' i ++ [.int .u8 201])) (i + 4) ++ [.int .u8 202])) (TLEN n)) := fun h1 p1 h3 p3 => by
                obtain ⟨g1, g2, g3, g4, g5, g6, g7, g8, g9⟩ := G.out
                have hC := M.out.2.1
                have l1 := (M.out.1.fam.row i (by omega)).1
                have l2 := (M.out.1.fam.row (i + 4) (by omega)).1
                rw [g3] at l1
                rw [g4] at l2
                subst g8
                exact hC.next g7 (by omega) (by omega) _ _ _ rfl _ rfl
              have XE : Aside ((UPF (UPF XS' i (XS' i ++ [.int .u8 201])) (i + 4) ((UPF XS' i (XS' i ++ [.int .u8 201])) (i + 4) ++ [.int .u8 202])) 8 = BY (0 :: l)) := by
                have g7 := G.out.2.2.2.2.2.2.1
                unfold Aside
                rw [UPF_other _ _ (by omega), UPF_other _ _ (by omega)]
                exact M.out.2.2
              have E8 : Aside (∀ v1 v2, c3[0]? = some (UPF (UPF V i v1) (i + 4) v2 8) ∧ UPF (UPF N i (k + 1)) (i + 4) (k + 1) 8 = n + 1) := fun v1 v2 => by
                have g7 := G.out.2.2.2.2.2.2.1
                rw [UPF_other _ _ (by omega), UPF_other _ _ (by omega), UPF_other _ _ (by omega), UPF_other _ _ (by omega)]
                exact S8.out
              refine wp_region_held_drew (S := fun W : World => W.cell? ⟨Ab, i, none⟩ = some (.slice (some ⟨ba, 0, none⟩) k qa) ∧ W.cell? ⟨Bb, i, none⟩ = some (.slice (some ⟨bb, 0, none⟩) k qb)) (by kernel_rfl) ⟨y1, y2⟩ (fun hHeld => ?_)
              refine wpAnyH_take (i := 0) (oi := { dst := some 153, op := Op.move (Operand.tmp 16), type := 32, pos := "law.go:86", after := #[], guard := none }) (v := .slice ax i qx) rfl (by kernel_rfl) (by kernel_rfl) (by kernel_rfl) (fun _ _ _ h => h) (Yields.yieldsIf (Or.inl ⟨by rfl, fun W => by go_simp⟩)) (by exact hHeld) ?_
              simp only [Act.put, List.setIfInBounds_toArray, List.set_cons_zero, List.set_cons_succ]
              refine wpAnyH_take (i := 1) (oi := { dst := some 154, op := Op.move (Operand.tmp 12), type := 32, pos := "law.go:86", after := #[], guard := none }) (v := .slice (some ⟨Ab, 0, none⟩) 4 4) rfl (by kernel_rfl) (by kernel_rfl) (by kernel_rfl) (fun _ _ _ h => h) (Yields.yieldsIf (Or.inl ⟨by rfl, fun W => by go_simp⟩)) (by exact hHeld) ?_
              simp only [Act.put, List.setIfInBounds_toArray, List.set_cons_zero, List.set_cons_succ]
              refine wpAnyH_take (i := 2) (oi := { dst := some 155, op := Op.move (Operand.tmp 18), type := 3, pos := "law.go:86", after := #[], guard := none }) (v := .int .i64 (i : Int)) rfl (by kernel_rfl) (by kernel_rfl) (by kernel_rfl) (fun _ _ _ h => h) (Yields.yieldsIf (Or.inl ⟨by rfl, fun W => by go_simp⟩)) (by exact hHeld) ?_
              simp only [Act.put, List.setIfInBounds_toArray, List.set_cons_zero, List.set_cons_succ]
              refine wpAnyH_take (i := 3) (oi := { dst := some 156, op := Op.indexAddr 32 (Operand.tmp 154) (Operand.tmp 155), type := 0, pos := "law.go:86", after := #[{ on := 1, ground := Ground.data }, { on := 2, ground := Ground.data }], guard := none }) (v := .pointer (some ⟨Ab, i, none⟩)) rfl (by kernel_rfl) (by kernel_rfl) (by kernel_rfl) (fun _ _ _ h => h) (Yields.yieldsIf (Or.inl ⟨by rfl, fun W => by go_simp⟩)) (by exact hHeld) ?_
              simp only [Act.put, List.setIfInBounds_toArray, List.set_cons_zero, List.set_cons_succ]
              refine wpAnyH_take (i := 4) (oi := { dst := some 157, op := Op.load 22 (Operand.tmp 156), type := 22, pos := "law.go:86", after := #[{ on := 3, ground := Ground.data }], guard := none }) (v := .slice (some ⟨ba, 0, none⟩) k qa) rfl (by kernel_rfl) (by kernel_rfl) (by kernel_rfl) (fun _ _ _ h => h) (Or.inl ⟨by rfl, fun W hW => by obtain ⟨y7, y8⟩ := hW; go_simp⟩) (by exact hHeld) ?_
              simp only [Act.put, List.setIfInBounds_toArray, List.set_cons_zero, List.set_cons_succ]
              refine wpAnyH_take (i := 9) (oi := { dst := some 162, op := Op.move (Operand.tmp 17), type := 32, pos := "law.go:86", after := #[], guard := none }) (v := .slice ay i qy) rfl (by kernel_rfl) (by kernel_rfl) (by kernel_rfl) (fun _ _ _ h => h) (Yields.yieldsIf (Or.inl ⟨by rfl, fun W => by go_simp⟩)) (by exact hHeld) ?_
              simp only [Act.put, List.setIfInBounds_toArray, List.set_cons_zero, List.set_cons_succ]
              refine wpAnyH_take (i := 10) (oi := { dst := some 163, op := Op.move (Operand.tmp 13), type := 32, pos := "law.go:86", after := #[], guard := none }) (v := .slice (some ⟨Bb, 0, none⟩) 4 4) rfl (by kernel_rfl) (by kernel_rfl) (by kernel_rfl) (fun _ _ _ h => h) (Yields.yieldsIf (Or.inl ⟨by rfl, fun W => by go_simp⟩)) (by exact hHeld) ?_
              simp only [Act.put, List.setIfInBounds_toArray, List.set_cons_zero, List.set_cons_succ]
              refine wpAnyH_take (i := 11) (oi := { dst := some 164, op := Op.move (Operand.tmp 18), type := 3, pos := "law.go:86", after := #[], guard := none }) (v := .int .i64 (i : Int)) rfl (by kernel_rfl) (by kernel_rfl) (by kernel_rfl) (fun _ _ _ h => h) (Yields.yieldsIf (Or.inl ⟨by rfl, fun W => by go_simp⟩)) (by exact hHeld) ?_
              simp only [Act.put, List.setIfInBounds_toArray, List.set_cons_zero, List.set_cons_succ]
              refine wpAnyH_take (i := 12) (oi := { dst := some 165, op := Op.indexAddr 32 (Operand.tmp 163) (Operand.tmp 164), type := 0, pos := "law.go:86", after := #[{ on := 10, ground := Ground.data }, { on := 11, ground := Ground.data }], guard := none }) (v := .pointer (some ⟨Bb, i, none⟩)) rfl (by kernel_rfl) (by kernel_rfl) (by kernel_rfl) (fun _ _ _ h => h) (Yields.yieldsIf (Or.inl ⟨by rfl, fun W => by go_simp⟩)) (by exact hHeld) ?_
              simp only [Act.put, List.setIfInBounds_toArray, List.set_cons_zero, List.set_cons_succ]
              refine wpAnyH_take (i := 13) (oi := { dst := some 166, op := Op.load 22 (Operand.tmp 165), type := 22, pos := "law.go:86", after := #[{ on := 12, ground := Ground.data }], guard := none }) (v := .slice (some ⟨bb, 0, none⟩) k qb) rfl (by kernel_rfl) (by kernel_rfl) (by kernel_rfl) (fun _ _ _ h => h) (Or.inl ⟨by rfl, fun W hW => by obtain ⟨y7, y8⟩ := hW; go_simp⟩) (by exact hHeld) ?_
              simp only [Act.put, List.setIfInBounds_toArray, List.set_cons_zero, List.set_cons_succ]
              refine anyH_as (a' := ?Nz1) 10 #[true, true, true, true, true, false, false, false, false, true, true, true, true, true, false, false, false, false, false, false] (by kernel_rfl) (by kernel_rfl) ?HNz1 ?HMz1
              case HNz1 =>
                go_simp
                exact rfl
              refine anyH_two (o := { dst := some 158, op := Op.buildSlice 22 1 #[(0, Operand.const (Value.int IntKind.u8 201))], type := 22, pos := "law.go:86", after := #[], guard := none }) (o' := { dst := some 167, op := Op.buildSlice 22 1 #[(0, Operand.const (Value.int IntKind.u8 202))], type := 22, pos := "law.go:86", after := #[], guard := none }) 5 14 (by kernel_rfl) rfl rfl (fun K hK => ?_) (fun K hK => ?_)
              · rw [if_pos (by rfl)]
                go_simp
                refine hK.out _ _ (S5.out _ _ _ _ _ _ _ _ ((RA.out _ (bl_alloc ((Below.refl _ _).drew) _)).1)) (fun hHq1 => ?_)
                clear hK K hHeld 
                refine anyH_as (a' := ?Nz2) 9 #[true, true, true, true, true, true, false, false, false, true, true, true, true, true, false, false, false, false, false, false] (by kernel_rfl) (by kernel_rfl) ?HNz2 ?HMz2
                case HNz2 =>
                  go_simp
                  exact rfl
                refine anyH_two (o := { dst := some 159, op := Op.call { callee := Callee.builtin Builtin.append, args := #[Operand.tmp 157, Operand.tmp 158], argTypes := #[22, 22] }, type := 22, pos := "law.go:86", after := #[{ on := 4, ground := Ground.data }, { on := 5, ground := Ground.data }], guard := none }) (o' := { dst := some 167, op := Op.buildSlice 22 1 #[(0, Operand.const (Value.int IntKind.u8 202))], type := 22, pos := "law.go:86", after := #[], guard := none }) 6 14 (by kernel_rfl) rfl rfl (fun K hK => ?_) (fun K hK => ?_)
                · refine step_byte _ (by rfl) (.tmp 157) (.tmp 158) (by rfl) w.heap.size (.slice (some ⟨ba, 0, none⟩) k qa) k (XS' i) (by rfl) (RA.out _ (bl_alloc ((Below.refl _ _).drew) _)).2.1 _ 1 201 (by rfl) (cell_at _ _ _ _ (by simp)) nm.out.1 (RA.out _ (bl_alloc ((Below.refl _ _).drew) _)).2.2 ?_
                  intro h1 p1 w21 hown1 hgrow1 hat1 hlt1
                  have Z1 : Aside (S2 w g n c' Ab Bb Cb l c1 c2 c3 (UPF V i (.slice (some ⟨h1, 0, none⟩) (k + 1) p1)) (UPF N i (k + 1)) (UPF XS' i (XS' i ++ [.int .u8 201])) (.slice ax i qx) (.slice ay i qy) i i w21) := S2.row1 (RA.out _ (bl_alloc ((Below.refl _ _).drew) _)).1 G.out.1 G.out.2.2.1 G.out.2.2.2.2.2.2.1 hown1 hgrow1 hat1
                  have W21 : Aside (wr.heap.size ≤ w21.heap.size) := Nat.le_trans (Below.size (bl_alloc ((Below.refl _ _).drew) _)) hgrow1.size
                  refine hK.out _ _ (S5.out _ _ _ _ _ _ _ _ ((Z1.out.keep (Below.refl _ _)))) (fun hHq2 => ?_)
                  clear hK K hHq1 hown1 hgrow1 hat1 hlt1
                  refine anyH_as (a' := ?Nz3) 8 #[true, true, true, true, true, true, true, false, false, true, true, true, true, true, false, false, false, false, false, false] (by kernel_rfl) (by kernel_rfl) ?HNz3 ?HMz3
                  case HNz3 =>
                    go_simp
                    exact rfl
                  refine anyH_two (o := { dst := some 160, op := Op.buildSlice 32 1 #[(0, Operand.tmp 159)], type := 32, pos := "law.go:86", after := #[{ on := 6, ground := Ground.data }], guard := none }) (o' := { dst := some 167, op := Op.buildSlice 22 1 #[(0, Operand.const (Value.int IntKind.u8 202))], type := 22, pos := "law.go:86", after := #[], guard := none }) 7 14 (by kernel_rfl) rfl rfl (fun K hK => ?_) (fun K hK => ?_)
                  · rw [if_pos (by rfl)]
                    go_simp
                    refine hK.out _ _ (S5.out _ _ _ _ _ _ _ _ ((Z1.out.keep (bl_alloc (Below.refl _ _) _)))) (fun hHq3 => ?_)
                    clear hK K hHq2 
                    refine anyH_as (a' := ?Nz4) 7 #[true, true, true, true, true, true, true, true, false, true, true, true, true, true, false, false, false, false, false, false] (by kernel_rfl) (by kernel_rfl) ?HNz4 ?HMz4
                    case HNz4 =>
                      go_simp
                      exact rfl
                    refine anyH_two (o := { dst := some 161, op := Op.call { callee := Callee.builtin Builtin.append, args := #[Operand.tmp 153, Operand.tmp 160], argTypes := #[32, 32] }, type := 32, pos := "law.go:86", after := #[{ on := 0, ground := Ground.data }, { on := 7, ground := Ground.data }, { on := 6, ground := Ground.chain }], guard := none }) (o' := { dst := some 167, op := Op.buildSlice 22 1 #[(0, Operand.const (Value.int IntKind.u8 202))], type := 22, pos := "law.go:86", after := #[], guard := none }) 8 14 (by kernel_rfl) rfl rfl (fun K hK => ?_) (fun K hK => ?_)
                    · refine step_list _ (by rfl) (.tmp 153) (.tmp 160) (by rfl) w.heap.size (.slice ax i qx) i _ (by rfl) (Z1.out.keep (bl_alloc (Below.refl _ _) _)).rx _ 1 (some ⟨h1, 0, none⟩) (k + 1) p1 (by rfl) (cell_at _ _ _ _ (by simp)) nm.out.2 (Z1.out.keep (bl_alloc (Below.refl _ _) _)).bel.size ?_
                      intro h2 p2 w22 hown2 hgrow2 hat2 hlt2
                      have Z2 : Aside (S2 w g n c' Ab Bb Cb l c1 c2 c3 (UPF V i (.slice (some ⟨h1, 0, none⟩) (k + 1) p1)) (UPF N i (k + 1)) (UPF XS' i (XS' i ++ [.int .u8 201])) (.slice (some ⟨h2, 0, none⟩) (i + 1) p2) (.slice ay i qy) (i + 1) i w22) := (Z1.out.keep (bl_alloc (Below.refl _ _) _)).appX (by rw [UPF_at]; exact hown2) hgrow2 hat2
                      refine hK.out _ _ (S5.out _ _ _ _ _ _ _ _ ((Z2.out.keep (Below.refl _ _)))) (fun hHq4 => ?_)
                      clear hK K hHq3 hown2 hgrow2 hat2 hlt2
                      refine anyH_as (a' := ?Nz5) 6 #[true, true, true, true, true, true, true, true, true, true, true, true, true, true, false, false, false, false, false, false] (by kernel_rfl) (by kernel_rfl) ?HNz5 ?HMz5
                      case HNz5 =>
                        go_simp
                        exact rfl
                      refine anyH_one (o := { dst := some 167, op := Op.buildSlice 22 1 #[(0, Operand.const (Value.int IntKind.u8 202))], type := 22, pos := "law.go:86", after := #[], guard := none }) 14 (by kernel_rfl) rfl (fun K hK => ?_)
                      rw [if_pos (by rfl)]
                      go_simp
                      refine hK.out _ _ (S5.out _ _ _ _ _ _ _ _ ((Z2.out.keep (bl_alloc (Below.refl _ _) _)))) (fun hHq5 => ?_)
                      clear hK K hHq4 
                      refine anyH_as (a' := ?Nz6) 5 #[true, true, true, true, true, true, true, true, true, true, true, true, true, true, true, false, false, false, false, false] (by kernel_rfl) (by kernel_rfl) ?HNz6 ?HMz6
                      case HNz6 =>
                        go_simp
                        exact rfl
                      refine anyH_one (o := { dst := some 168, op := Op.call { callee := Callee.builtin Builtin.append, args := #[Operand.tmp 166, Operand.tmp 167], argTypes := #[22, 22] }, type := 22, pos := "law.go:86", after := #[{ on := 13, ground := Ground.data }, { on := 14, ground := Ground.data }, { on := 8, ground := Ground.chain }], guard := none }) 15 (by kernel_rfl) rfl (fun K hK => ?_)
                      refine step_byte _ (by rfl) (.tmp 166) (.tmp 167) (by rfl) w.heap.size (.slice (some ⟨bb, 0, none⟩) k qb) k ((UPF XS' i (XS' i ++ [.int .u8 201])) (i + 4)) (by rfl) (S2.row4 (Z2.out.keep (bl_alloc (Below.refl _ _) _)) G.out.2.1 G.out.2.2.2.1 G.out.2.2.2.2.2.2.1) _ 1 202 (by rfl) (cell_at _ _ _ _ (by simp)) nm.out.1 (Z2.out.keep (bl_alloc (Below.refl _ _) _)).bel.size ?_
                      intro h3 p3 w23 hown3 hgrow3 hat3 hlt3
                      have Z3 : Aside (S2 w g n c' Ab Bb Cb l c1 c2 c3 (UPF (UPF V i (.slice (some ⟨h1, 0, none⟩) (k + 1) p1)) (i + 4) (.slice (some ⟨h3, 0, none⟩) (k + 1) p3)) (UPF (UPF N i (k + 1)) (i + 4) (k + 1)) (UPF (UPF XS' i (XS' i ++ [.int .u8 201])) (i + 4) ((UPF XS' i (XS' i ++ [.int .u8 201])) (i + 4) ++ [.int .u8 202])) (.slice (some ⟨h2, 0, none⟩) (i + 1) p2) (.slice ay i qy) (i + 1) i w23) := S2.row5 (Z2.out.keep (bl_alloc (Below.refl _ _) _)) G.out.2.1 G.out.2.2.2.1 G.out.2.2.2.2.2.2.1 hown3 hgrow3 hat3
                      refine hK.out _ _ (S5.out _ _ _ _ _ _ _ _ ((Z3.out.keep (Below.refl _ _)))) (fun hHq6 => ?_)
                      clear hK K hHq5 hown3 hgrow3 hat3 hlt3
                      refine anyH_as (a' := ?Nz7) 4 #[true, true, true, true, true, true, true, true, true, true, true, true, true, true, true, true, false, false, false, false] (by kernel_rfl) (by kernel_rfl) ?HNz7 ?HMz7
                      case HNz7 =>
                        go_simp
                        exact rfl
                      refine anyH_one (o := { dst := some 169, op := Op.buildSlice 32 1 #[(0, Operand.tmp 168)], type := 32, pos := "law.go:86", after := #[{ on := 15, ground := Ground.data }], guard := none }) 16 (by kernel_rfl) rfl (fun K hK => ?_)
                      rw [if_pos (by rfl)]
                      go_simp
                      refine hK.out _ _ (S5.out _ _ _ _ _ _ _ _ ((Z3.out.keep (bl_alloc (Below.refl _ _) _)))) (fun hHq7 => ?_)
                      clear hK K hHq6 
                      refine anyH_as (a' := ?Nz8) 3 #[true, true, true, true, true, true, true, true, true, true, true, true, true, true, true, true, true, false, false, false] (by kernel_rfl) (by kernel_rfl) ?HNz8 ?HMz8
                      case HNz8 =>
                        go_simp
                        exact rfl
                      refine anyH_one (o := { dst := some 170, op := Op.call { callee := Callee.builtin Builtin.append, args := #[Operand.tmp 162, Operand.tmp 169], argTypes := #[32, 32] }, type := 32, pos := "law.go:86", after := #[{ on := 9, ground := Ground.data }, { on := 16, ground := Ground.data }, { on := 15, ground := Ground.chain }], guard := none }) 17 (by kernel_rfl) rfl (fun K hK => ?_)
                      refine step_list _ (by rfl) (.tmp 162) (.tmp 169) (by rfl) w.heap.size (.slice ay i qy) i _ (by rfl) (Z3.out.keep (bl_alloc (Below.refl _ _) _)).ry _ 1 (some ⟨h3, 0, none⟩) (k + 1) p3 (by rfl) (cell_at _ _ _ _ (by simp)) nm.out.2 (Z3.out.keep (bl_alloc (Below.refl _ _) _)).bel.size ?_
                      intro h4 p4 w24 hown4 hgrow4 hat4 hlt4
                      have Z4 : Aside (S2 w g n c' Ab Bb Cb l c1 c2 c3 (UPF (UPF V i (.slice (some ⟨h1, 0, none⟩) (k + 1) p1)) (i + 4) (.slice (some ⟨h3, 0, none⟩) (k + 1) p3)) (UPF (UPF N i (k + 1)) (i + 4) (k + 1)) (UPF (UPF XS' i (XS' i ++ [.int .u8 201])) (i + 4) ((UPF XS' i (XS' i ++ [.int .u8 201])) (i + 4) ++ [.int .u8 202])) (.slice (some ⟨h2, 0, none⟩) (i + 1) p2) (.slice (some ⟨h4, 0, none⟩) (i + 1) p4) (i + 1) (i + 1) w24) := (Z3.out.keep (bl_alloc (Below.refl _ _) _)).appY (by rw [UPF_at]; exact hown4) hgrow4 hat4
                      refine hK.out _ _ (S5.out _ _ _ _ _ _ _ _ ((Z4.out.keep (Below.refl _ _)))) (fun hHq8 => ?_)
                      clear hK K hHq7 hown4 hgrow4 hat4 hlt4
                      refine anyH_as (a' := ?Nz9) 2 #[true, true, true, true, true, true, true, true, true, true, true, true, true, true, true, true, true, true, false, false] (by kernel_rfl) (by kernel_rfl) ?HNz9 ?HMz9
                      case HNz9 =>
                        go_simp
                        exact rfl
                      refine wpAnyH_take (i := 18) (oi := { dst := some 16, op := Op.assign (Operand.tmp 161), type := 32, pos := "law.go:86", after := #[{ on := 8, ground := Ground.data }, { on := 17, ground := Ground.chain }, { on := 0, ground := Ground.phase }, { on := 1, ground := Ground.phase }, { on := 2, ground := Ground.phase }, { on := 3, ground := Ground.phase }, { on := 4, ground := Ground.phase }, { on := 5, ground := Ground.phase }, { on := 6, ground := Ground.phase }, { on := 7, ground := Ground.phase }, { on := 8, ground := Ground.phase }, { on := 9, ground := Ground.textOnly Go.Departure.lateStores }, { on := 10, ground := Ground.textOnly Go.Departure.lateStores }, { on := 11, ground := Ground.textOnly Go.Departure.lateStores }, { on := 12, ground := Ground.textOnly Go.Departure.lateStores }, { on := 13, ground := Ground.textOnly Go.Departure.lateStores }, { on := 14, ground := Ground.textOnly Go.Departure.lateStores }, { on := 15, ground := Ground.textOnly Go.Departure.lateStoresUnsure }, { on := 16, ground := Ground.textOnly Go.Departure.lateStores }, { on := 17, ground := Ground.textOnly Go.Departure.lateStoresUnsure }], guard := none }) (v := .slice (some ⟨h2, 0, none⟩) (i + 1) p2) rfl (by kernel_rfl) (by kernel_rfl) (by kernel_rfl) (fun _ _ _ h => h) (Yields.yieldsIf (Or.inl ⟨by rfl, fun W => by go_simp⟩)) (by exact hHq8) ?_
                      simp only [Act.put, List.setIfInBounds_toArray, List.set_cons_zero, List.set_cons_succ]
                      refine wpAnyH_take (i := 19) (oi := { dst := some 17, op := Op.assign (Operand.tmp 170), type := 32, pos := "law.go:86", after := #[{ on := 17, ground := Ground.data }, { on := 18, ground := Ground.chain }, { on := 0, ground := Ground.phase }, { on := 1, ground := Ground.phase }, { on := 2, ground := Ground.phase }, { on := 3, ground := Ground.phase }, { on := 4, ground := Ground.phase }, { on := 5, ground := Ground.phase }, { on := 6, ground := Ground.phase }, { on := 7, ground := Ground.phase }, { on := 8, ground := Ground.phase }, { on := 9, ground := Ground.phase }, { on := 10, ground := Ground.phase }, { on := 11, ground := Ground.phase }, { on := 12, ground := Ground.phase }, { on := 13, ground := Ground.phase }, { on := 14, ground := Ground.phase }, { on := 15, ground := Ground.phase }, { on := 16, ground := Ground.phase }, { on := 17, ground := Ground.phase }, { on := 18, ground := Ground.phase }], guard := none }) (v := .slice (some ⟨h4, 0, none⟩) (i + 1) p4) rfl (by kernel_rfl) (by kernel_rfl) (by kernel_rfl) (fun _ _ _ h => h) (Yields.yieldsIf (Or.inl ⟨by rfl, fun W => by go_simp⟩)) (by exact hHq8) ?_
                      simp only [Act.put, List.setIfInBounds_toArray, List.set_cons_zero, List.set_cons_succ]
                      refine anyH_as (a' := ?Nz10) 0 #[true, true, true, true, true, true, true, true, true, true, true, true, true, true, true, true, true, true, true, true] (by kernel_rfl) (by kernel_rfl) ?HNz10 ?HMz10
                      case HNz10 =>
                        go_simp
                        exact rfl
                      refine wpAnyH_done (by kernel_rfl) ?_ _
                      clear hHq8
                      go_wp2
                      go_roundg gg
                      case measure => omega
                      case rel =>
                        have FF := FIN.out h1 p1 h3 p3
                        have EE := E8.out (.slice (some ⟨h1, 0, none⟩) (k + 1) p1) (.slice (some ⟨h3, 0, none⟩) (k + 1) p3)
                        exact ⟨i + 1, (UPF (UPF V i (.slice (some ⟨h1, 0, none⟩) (k + 1) p1)) (i + 4) (.slice (some ⟨h3, 0, none⟩) (k + 1) p3)), (UPF (UPF N i (k + 1)) (i + 4) (k + 1)), (UPF (UPF XS' i (XS' i ++ [.int .u8 201])) (i + 4) ((UPF XS' i (XS' i ++ [.int .u8 201])) (i + 4) ++ [.int .u8 202])), by first | rfl | (rw [hi1]), ⟨II.out, Z4.out, FF, EE.1, EE.2, XE.out⟩⟩
                    · rw [if_pos (by rfl)]
                      go_simp
                      refine hK.out _ _ (S5.out _ _ _ _ _ _ _ _ ((Z1.out.keep (bl_alloc (bl_alloc (Below.refl _ _) _) _)))) (fun hHq4 => ?_)
                      clear hK K hHq3 
                      refine anyH_as (a' := ?Nz11) 6 #[true, true, true, true, true, true, true, true, false, true, true, true, true, true, true, false, false, false, false, false] (by kernel_rfl) (by kernel_rfl) ?HNz11 ?HMz11
                      case HNz11 =>
                        go_simp
                        exact rfl
                      refine anyH_one (o := { dst := some 161, op := Op.call { callee := Callee.builtin Builtin.append, args := #[Operand.tmp 153, Operand.tmp 160], argTypes := #[32, 32] }, type := 32, pos := "law.go:86", after := #[{ on := 0, ground := Ground.data }, { on := 7, ground := Ground.data }, { on := 6, ground := Ground.chain }], guard := none }) 8 (by kernel_rfl) rfl (fun K hK => ?_)
                      refine step_list _ (by rfl) (.tmp 153) (.tmp 160) (by rfl) w.heap.size (.slice ax i qx) i _ (by rfl) (Z1.out.keep (bl_alloc (bl_alloc (Below.refl _ _) _) _)).rx _ 1 (some ⟨h1, 0, none⟩) (k + 1) p1 (by rfl) (cell_past (cell_at _ _ _ _ (by simp)) _) nm.out.2 (Z1.out.keep (bl_alloc (bl_alloc (Below.refl _ _) _) _)).bel.size ?_
                      intro h2 p2 w22 hown2 hgrow2 hat2 hlt2
                      have Z2 : Aside (S2 w g n c' Ab Bb Cb l c1 c2 c3 (UPF V i (.slice (some ⟨h1, 0, none⟩) (k + 1) p1)) (UPF N i (k + 1)) (UPF XS' i (XS' i ++ [.int .u8 201])) (.slice (some ⟨h2, 0, none⟩) (i + 1) p2) (.slice ay i qy) (i + 1) i w22) := (Z1.out.keep (bl_alloc (bl_alloc (Below.refl _ _) _) _)).appX (by rw [UPF_at]; exact hown2) hgrow2 hat2
                      have NB2 := far_cell hgrow2 (b := w21.heap.size + 1) (v := .int .u8 202) (cell_at _ _ _ _ (by simp)) (far_ne2 LT.out.2 (by have hh := W21.out; omega))
                      refine hK.out _ _ (S5.out _ _ _ _ _ _ _ _ ((Z2.out.keep (Below.refl _ _)))) (fun hHq5 => ?_)
                      clear hK K hHq4 hown2 hgrow2 hat2 hlt2
                      refine anyH_as (a' := ?Nz12) 5 #[true, true, true, true, true, true, true, true, true, true, true, true, true, true, true, false, false, false, false, false] (by kernel_rfl) (by kernel_rfl) ?HNz12 ?HMz12
                      case HNz12 =>
                        go_simp
                        exact rfl
                      refine anyH_one (o := { dst := some 168, op := Op.call { callee := Callee.builtin Builtin.append, args := #[Operand.tmp 166, Operand.tmp 167], argTypes := #[22, 22] }, type := 22, pos := "law.go:86", after := #[{ on := 13, ground := Ground.data }, { on := 14, ground := Ground.data }, { on := 8, ground := Ground.chain }], guard := none }) 15 (by kernel_rfl) rfl (fun K hK => ?_)
                      refine step_byte _ (by rfl) (.tmp 166) (.tmp 167) (by rfl) w.heap.size (.slice (some ⟨bb, 0, none⟩) k qb) k ((UPF XS' i (XS' i ++ [.int .u8 201])) (i + 4)) (by rfl) (S2.row4 (Z2.out.keep (Below.refl _ _)) G.out.2.1 G.out.2.2.2.1 G.out.2.2.2.2.2.2.1) _ 1 202 (by rfl) (NB2) nm.out.1 (Z2.out.keep (Below.refl _ _)).bel.size ?_
                      intro h3 p3 w23 hown3 hgrow3 hat3 hlt3
                      have Z3 : Aside (S2 w g n c' Ab Bb Cb l c1 c2 c3 (UPF (UPF V i (.slice (some ⟨h1, 0, none⟩) (k + 1) p1)) (i + 4) (.slice (some ⟨h3, 0, none⟩) (k + 1) p3)) (UPF (UPF N i (k + 1)) (i + 4) (k + 1)) (UPF (UPF XS' i (XS' i ++ [.int .u8 201])) (i + 4) ((UPF XS' i (XS' i ++ [.int .u8 201])) (i + 4) ++ [.int .u8 202])) (.slice (some ⟨h2, 0, none⟩) (i + 1) p2) (.slice ay i qy) (i + 1) i w23) := S2.row5 (Z2.out.keep (Below.refl _ _)) G.out.2.1 G.out.2.2.2.1 G.out.2.2.2.2.2.2.1 hown3 hgrow3 hat3
                      refine hK.out _ _ (S5.out _ _ _ _ _ _ _ _ ((Z3.out.keep (Below.refl _ _)))) (fun hHq6 => ?_)
                      clear hK K hHq5 hown3 hgrow3 hat3 hlt3
                      refine anyH_as (a' := ?Nz13) 4 #[true, true, true, true, true, true, true, true, true, true, true, true, true, true, true, true, false, false, false, false] (by kernel_rfl) (by kernel_rfl) ?HNz13 ?HMz13
                      case HNz13 =>
                        go_simp
                        exact rfl
                      refine anyH_one (o := { dst := some 169, op := Op.buildSlice 32 1 #[(0, Operand.tmp 168)], type := 32, pos := "law.go:86", after := #[{ on := 15, ground := Ground.data }], guard := none }) 16 (by kernel_rfl) rfl (fun K hK => ?_)
                      rw [if_pos (by rfl)]
                      go_simp
                      refine hK.out _ _ (S5.out _ _ _ _ _ _ _ _ ((Z3.out.keep (bl_alloc (Below.refl _ _) _)))) (fun hHq7 => ?_)
                      clear hK K hHq6 
                      refine anyH_as (a' := ?Nz14) 3 #[true, true, true, true, true, true, true, true, true, true, true, true, true, true, true, true, true, false, false, false] (by kernel_rfl) (by kernel_rfl) ?HNz14 ?HMz14
                      case HNz14 =>
                        go_simp
                        exact rfl
                      refine anyH_one (o := { dst := some 170, op := Op.call { callee := Callee.builtin Builtin.append, args := #[Operand.tmp 162, Operand.tmp 169], argTypes := #[32, 32] }, type := 32, pos := "law.go:86", after := #[{ on := 9, ground := Ground.data }, { on := 16, ground := Ground.data }, { on := 15, ground := Ground.chain }], guard := none }) 17 (by kernel_rfl) rfl (fun K hK => ?_)
                      refine step_list _ (by rfl) (.tmp 162) (.tmp 169) (by rfl) w.heap.size (.slice ay i qy) i _ (by rfl) (Z3.out.keep (bl_alloc (Below.refl _ _) _)).ry _ 1 (some ⟨h3, 0, none⟩) (k + 1) p3 (by rfl) (cell_at _ _ _ _ (by simp)) nm.out.2 (Z3.out.keep (bl_alloc (Below.refl _ _) _)).bel.size ?_
                      intro h4 p4 w24 hown4 hgrow4 hat4 hlt4
                      have Z4 : Aside (S2 w g n c' Ab Bb Cb l c1 c2 c3 (UPF (UPF V i (.slice (some ⟨h1, 0, none⟩) (k + 1) p1)) (i + 4) (.slice (some ⟨h3, 0, none⟩) (k + 1) p3)) (UPF (UPF N i (k + 1)) (i + 4) (k + 1)) (UPF (UPF XS' i (XS' i ++ [.int .u8 201])) (i + 4) ((UPF XS' i (XS' i ++ [.int .u8 201])) (i + 4) ++ [.int .u8 202])) (.slice (some ⟨h2, 0, none⟩) (i + 1) p2) (.slice (some ⟨h4, 0, none⟩) (i + 1) p4) (i + 1) (i + 1) w24) := (Z3.out.keep (bl_alloc (Below.refl _ _) _)).appY (by rw [UPF_at]; exact hown4) hgrow4 hat4
                      refine hK.out _ _ (S5.out _ _ _ _ _ _ _ _ ((Z4.out.keep (Below.refl _ _)))) (fun hHq8 => ?_)
                      clear hK K hHq7 hown4 hgrow4 hat4 hlt4
                      refine anyH_as (a' := ?Nz15) 2 #[true, true, true, true, true, true, true, true, true, true, true, true, true, true, true, true, true, true, false, false] (by kernel_rfl) (by kernel_rfl) ?HNz15 ?HMz15
                      case HNz15 =>
                        go_simp
                        exact rfl
                      refine wpAnyH_take (i := 18) (oi := { dst := some 16, op := Op.assign (Operand.tmp 161), type := 32, pos := "law.go:86", after := #[{ on := 8, ground := Ground.data }, { on := 17, ground := Ground.chain }, { on := 0, ground := Ground.phase }, { on := 1, ground := Ground.phase }, { on := 2, ground := Ground.phase }, { on := 3, ground := Ground.phase }, { on := 4, ground := Ground.phase }, { on := 5, ground := Ground.phase }, { on := 6, ground := Ground.phase }, { on := 7, ground := Ground.phase }, { on := 8, ground := Ground.phase }, { on := 9, ground := Ground.textOnly Go.Departure.lateStores }, { on := 10, ground := Ground.textOnly Go.Departure.lateStores }, { on := 11, ground := Ground.textOnly Go.Departure.lateStores }, { on := 12, ground := Ground.textOnly Go.Departure.lateStores }, { on := 13, ground := Ground.textOnly Go.Departure.lateStores }, { on := 14, ground := Ground.textOnly Go.Departure.lateStores }, { on := 15, ground := Ground.textOnly Go.Departure.lateStoresUnsure }, { on := 16, ground := Ground.textOnly Go.Departure.lateStores }, { on := 17, ground := Ground.textOnly Go.Departure.lateStoresUnsure }], guard := none }) (v := .slice (some ⟨h2, 0, none⟩) (i + 1) p2) rfl (by kernel_rfl) (by kernel_rfl) (by kernel_rfl) (fun _ _ _ h => h) (Yields.yieldsIf (Or.inl ⟨by rfl, fun W => by go_simp⟩)) (by exact hHq8) ?_
                      simp only [Act.put, List.setIfInBounds_toArray, List.set_cons_zero, List.set_cons_succ]
                      refine wpAnyH_take (i := 19) (oi := { dst := some 17, op := Op.assign (Operand.tmp 170), type := 32, pos := "law.go:86", after := #[{ on := 17, ground := Ground.data }, { on := 18, ground := Ground.chain }, { on := 0, ground := Ground.phase }, { on := 1, ground := Ground.phase }, { on := 2, ground := Ground.phase }, { on := 3, ground := Ground.phase }, { on := 4, ground := Ground.phase }, { on := 5, ground := Ground.phase }, { on := 6, ground := Ground.phase }, { on := 7, ground := Ground.phase }, { on := 8, ground := Ground.phase }, { on := 9, ground := Ground.phase }, { on := 10, ground := Ground.phase }, { on := 11, ground := Ground.phase }, { on := 12, ground := Ground.phase }, { on := 13, ground := Ground.phase }, { on := 14, ground := Ground.phase }, { on := 15, ground := Ground.phase }, { on := 16, ground := Ground.phase }, { on := 17, ground := Ground.phase }, { on := 18, ground := Ground.phase }], guard := none }) (v := .slice (some ⟨h4, 0, none⟩) (i + 1) p4) rfl (by kernel_rfl) (by kernel_rfl) (by kernel_rfl) (fun _ _ _ h => h) (Yields.yieldsIf (Or.inl ⟨by rfl, fun W => by go_simp⟩)) (by exact hHq8) ?_
                      simp only [Act.put, List.setIfInBounds_toArray, List.set_cons_zero, List.set_cons_succ]
                      refine anyH_as (a' := ?Nz16) 0 #[true, true, true, true, true, true, true, true, true, true, true, true, true, true, true, true, true, true, true, true] (by kernel_rfl) (by kernel_rfl) ?HNz16 ?HMz16
                      case HNz16 =>
                        go_simp
                        exact rfl
                      refine wpAnyH_done (by kernel_rfl) ?_ _
                      clear hHq8
                      go_wp2
                      go_roundg gg
                      case measure => omega
                      case rel =>
                        have FF := FIN.out h1 p1 h3 p3
                        have EE := E8.out (.slice (some ⟨h1, 0, none⟩) (k + 1) p1) (.slice (some ⟨h3, 0, none⟩) (k + 1) p3)
                        exact ⟨i + 1, (UPF (UPF V i (.slice (some ⟨h1, 0, none⟩) (k + 1) p1)) (i + 4) (.slice (some ⟨h3, 0, none⟩) (k + 1) p3)), (UPF (UPF N i (k + 1)) (i + 4) (k + 1)), (UPF (UPF XS' i (XS' i ++ [.int .u8 201])) (i + 4) ((UPF XS' i (XS' i ++ [.int .u8 201])) (i + 4) ++ [.int .u8 202])), by first | rfl | (rw [hi1]), ⟨II.out, Z4.out, FF, EE.1, EE.2, XE.out⟩⟩
                  · rw [if_pos (by rfl)]
                    go_simp
                    refine hK.out _ _ (S5.out _ _ _ _ _ _ _ _ ((Z1.out.keep (bl_alloc (Below.refl _ _) _)))) (fun hHq3 => ?_)
                    clear hK K hHq2 
                    refine anyH_as (a' := ?Nz17) 7 #[true, true, true, true, true, true, true, false, false, true, true, true, true, true, true, false, false, false, false, false] (by kernel_rfl) (by kernel_rfl) ?HNz17 ?HMz17
                    case HNz17 =>
                      go_simp
                      exact rfl
                    refine anyH_one (o := { dst := some 160, op := Op.buildSlice 32 1 #[(0, Operand.tmp 159)], type := 32, pos := "law.go:86", after := #[{ on := 6, ground := Ground.data }], guard := none }) 7 (by kernel_rfl) rfl (fun K hK => ?_)
                    rw [if_pos (by rfl)]
                    go_simp
                    refine hK.out _ _ (S5.out _ _ _ _ _ _ _ _ ((Z1.out.keep (bl_alloc (bl_alloc (Below.refl _ _) _) _)))) (fun hHq4 => ?_)
                    clear hK K hHq3 
                    refine anyH_as (a' := ?Nz18) 6 #[true, true, true, true, true, true, true, true, false, true, true, true, true, true, true, false, false, false, false, false] (by kernel_rfl) (by kernel_rfl) ?HNz18 ?HMz18
                    case HNz18 =>
                      go_simp
                      exact rfl
                    refine anyH_one (o := { dst := some 161, op := Op.call { callee := Callee.builtin Builtin.append, args := #[Operand.tmp 153, Operand.tmp 160], argTypes := #[32, 32] }, type := 32, pos := "law.go:86", after := #[{ on := 0, ground := Ground.data }, { on := 7, ground := Ground.data }, { on := 6, ground := Ground.chain }], guard := none }) 8 (by kernel_rfl) rfl (fun K hK => ?_)
                    refine step_list _ (by rfl) (.tmp 153) (.tmp 160) (by rfl) w.heap.size (.slice ax i qx) i _ (by rfl) (Z1.out.keep (bl_alloc (bl_alloc (Below.refl _ _) _) _)).rx _ 1 (some ⟨h1, 0, none⟩) (k + 1) p1 (by rfl) (cell_at _ _ _ _ (by simp)) nm.out.2 (Z1.out.keep (bl_alloc (bl_alloc (Below.refl _ _) _) _)).bel.size ?_
                    intro h2 p2 w22 hown2 hgrow2 hat2 hlt2
                    have Z2 : Aside (S2 w g n c' Ab Bb Cb l c1 c2 c3 (UPF V i (.slice (some ⟨h1, 0, none⟩) (k + 1) p1)) (UPF N i (k + 1)) (UPF XS' i (XS' i ++ [.int .u8 201])) (.slice (some ⟨h2, 0, none⟩) (i + 1) p2) (.slice ay i qy) (i + 1) i w22) := (Z1.out.keep (bl_alloc (bl_alloc (Below.refl _ _) _) _)).appX (by rw [UPF_at]; exact hown2) hgrow2 hat2
                    have NB2 := far_cell hgrow2 (b := w21.heap.size) (v := .int .u8 202) (cell_past (cell_at _ _ _ _ (by simp)) _) (far_ne2 LT.out.2 (by have hh := W21.out; omega))
                    refine hK.out _ _ (S5.out _ _ _ _ _ _ _ _ ((Z2.out.keep (Below.refl _ _)))) (fun hHq5 => ?_)
                    clear hK K hHq4 hown2 hgrow2 hat2 hlt2
                    refine anyH_as (a' := ?Nz19) 5 #[true, true, true, true, true, true, true, true, true, true, true, true, true, true, true, false, false, false, false, false] (by kernel_rfl) (by kernel_rfl) ?HNz19 ?HMz19
                    case HNz19 =>
                      go_simp
                      exact rfl
                    refine anyH_one (o := { dst := some 168, op := Op.call { callee := Callee.builtin Builtin.append, args := #[Operand.tmp 166, Operand.tmp 167], argTypes := #[22, 22] }, type := 22, pos := "law.go:86", after := #[{ on := 13, ground := Ground.data }, { on := 14, ground := Ground.data }, { on := 8, ground := Ground.chain }], guard := none }) 15 (by kernel_rfl) rfl (fun K hK => ?_)
                    refine step_byte _ (by rfl) (.tmp 166) (.tmp 167) (by rfl) w.heap.size (.slice (some ⟨bb, 0, none⟩) k qb) k ((UPF XS' i (XS' i ++ [.int .u8 201])) (i + 4)) (by rfl) (S2.row4 (Z2.out.keep (Below.refl _ _)) G.out.2.1 G.out.2.2.2.1 G.out.2.2.2.2.2.2.1) _ 1 202 (by rfl) (NB2) nm.out.1 (Z2.out.keep (Below.refl _ _)).bel.size ?_
                    intro h3 p3 w23 hown3 hgrow3 hat3 hlt3
                    have Z3 : Aside (S2 w g n c' Ab Bb Cb l c1 c2 c3 (UPF (UPF V i (.slice (some ⟨h1, 0, none⟩) (k + 1) p1)) (i + 4) (.slice (some ⟨h3, 0, none⟩) (k + 1) p3)) (UPF (UPF N i (k + 1)) (i + 4) (k + 1)) (UPF (UPF XS' i (XS' i ++ [.int .u8 201])) (i + 4) ((UPF XS' i (XS' i ++ [.int .u8 201])) (i + 4) ++ [.int .u8 202])) (.slice (some ⟨h2, 0, none⟩) (i + 1) p2) (.slice ay i qy) (i + 1) i w23) := S2.row5 (Z2.out.keep (Below.refl _ _)) G.out.2.1 G.out.2.2.2.1 G.out.2.2.2.2.2.2.1 hown3 hgrow3 hat3
                    refine hK.out _ _ (S5.out _ _ _ _ _ _ _ _ ((Z3.out.keep (Below.refl _ _)))) (fun hHq6 => ?_)
                    clear hK K hHq5 hown3 hgrow3 hat3 hlt3
                    refine anyH_as (a' := ?Nz20) 4 #[true, true, true, true, true, true, true, true, true, true, true, true, true, true, true, true, false, false, false, false] (by kernel_rfl) (by kernel_rfl) ?HNz20 ?HMz20
                    case HNz20 =>
                      go_simp
                      exact rfl
                    refine anyH_one (o := { dst := some 169, op := Op.buildSlice 32 1 #[(0, Operand.tmp 168)], type := 32, pos := "law.go:86", after := #[{ on := 15, ground := Ground.data }], guard := none }) 16 (by kernel_rfl) rfl (fun K hK => ?_)
                    rw [if_pos (by rfl)]
                    go_simp
                    refine hK.out _ _ (S5.out _ _ _ _ _ _ _ _ ((Z3.out.keep (bl_alloc (Below.refl _ _) _)))) (fun hHq7 => ?_)
                    clear hK K hHq6 
                    refine anyH_as (a' := ?Nz21) 3 #[true, true, true, true, true, true, true, true, true, true, true, true, true, true, true, true, true, false, false, false] (by kernel_rfl) (by kernel_rfl) ?HNz21 ?HMz21
                    case HNz21 =>
                      go_simp
                      exact rfl
                    refine anyH_one (o := { dst := some 170, op := Op.call { callee := Callee.builtin Builtin.append, args := #[Operand.tmp 162, Operand.tmp 169], argTypes := #[32, 32] }, type := 32, pos := "law.go:86", after := #[{ on := 9, ground := Ground.data }, { on := 16, ground := Ground.data }, { on := 15, ground := Ground.chain }], guard := none }) 17 (by kernel_rfl) rfl (fun K hK => ?_)
                    refine step_list _ (by rfl) (.tmp 162) (.tmp 169) (by rfl) w.heap.size (.slice ay i qy) i _ (by rfl) (Z3.out.keep (bl_alloc (Below.refl _ _) _)).ry _ 1 (some ⟨h3, 0, none⟩) (k + 1) p3 (by rfl) (cell_at _ _ _ _ (by simp)) nm.out.2 (Z3.out.keep (bl_alloc (Below.refl _ _) _)).bel.size ?_
                    intro h4 p4 w24 hown4 hgrow4 hat4 hlt4
                    have Z4 : Aside (S2 w g n c' Ab Bb Cb l c1 c2 c3 (UPF (UPF V i (.slice (some ⟨h1, 0, none⟩) (k + 1) p1)) (i + 4) (.slice (some ⟨h3, 0, none⟩) (k + 1) p3)) (UPF (UPF N i (k + 1)) (i + 4) (k + 1)) (UPF (UPF XS' i (XS' i ++ [.int .u8 201])) (i + 4) ((UPF XS' i (XS' i ++ [.int .u8 201])) (i + 4) ++ [.int .u8 202])) (.slice (some ⟨h2, 0, none⟩) (i + 1) p2) (.slice (some ⟨h4, 0, none⟩) (i + 1) p4) (i + 1) (i + 1) w24) := (Z3.out.keep (bl_alloc (Below.refl _ _) _)).appY (by rw [UPF_at]; exact hown4) hgrow4 hat4
                    refine hK.out _ _ (S5.out _ _ _ _ _ _ _ _ ((Z4.out.keep (Below.refl _ _)))) (fun hHq8 => ?_)
                    clear hK K hHq7 hown4 hgrow4 hat4 hlt4
                    refine anyH_as (a' := ?Nz22) 2 #[true, true, true, true, true, true, true, true, true, true, true, true, true, true, true, true, true, true, false, false] (by kernel_rfl) (by kernel_rfl) ?HNz22 ?HMz22
                    case HNz22 =>
                      go_simp
                      exact rfl
                    refine wpAnyH_take (i := 18) (oi := { dst := some 16, op := Op.assign (Operand.tmp 161), type := 32, pos := "law.go:86", after := #[{ on := 8, ground := Ground.data }, { on := 17, ground := Ground.chain }, { on := 0, ground := Ground.phase }, { on := 1, ground := Ground.phase }, { on := 2, ground := Ground.phase }, { on := 3, ground := Ground.phase }, { on := 4, ground := Ground.phase }, { on := 5, ground := Ground.phase }, { on := 6, ground := Ground.phase }, { on := 7, ground := Ground.phase }, { on := 8, ground := Ground.phase }, { on := 9, ground := Ground.textOnly Go.Departure.lateStores }, { on := 10, ground := Ground.textOnly Go.Departure.lateStores }, { on := 11, ground := Ground.textOnly Go.Departure.lateStores }, { on := 12, ground := Ground.textOnly Go.Departure.lateStores }, { on := 13, ground := Ground.textOnly Go.Departure.lateStores }, { on := 14, ground := Ground.textOnly Go.Departure.lateStores }, { on := 15, ground := Ground.textOnly Go.Departure.lateStoresUnsure }, { on := 16, ground := Ground.textOnly Go.Departure.lateStores }, { on := 17, ground := Ground.textOnly Go.Departure.lateStoresUnsure }], guard := none }) (v := .slice (some ⟨h2, 0, none⟩) (i + 1) p2) rfl (by kernel_rfl) (by kernel_rfl) (by kernel_rfl) (fun _ _ _ h => h) (Yields.yieldsIf (Or.inl ⟨by rfl, fun W => by go_simp⟩)) (by exact hHq8) ?_
                    simp only [Act.put, List.setIfInBounds_toArray, List.set_cons_zero, List.set_cons_succ]
                    refine wpAnyH_take (i := 19) (oi := { dst := some 17, op := Op.assign (Operand.tmp 170), type := 32, pos := "law.go:86", after := #[{ on := 17, ground := Ground.data }, { on := 18, ground := Ground.chain }, { on := 0, ground := Ground.phase }, { on := 1, ground := Ground.phase }, { on := 2, ground := Ground.phase }, { on := 3, ground := Ground.phase }, { on := 4, ground := Ground.phase }, { on := 5, ground := Ground.phase }, { on := 6, ground := Ground.phase }, { on := 7, ground := Ground.phase }, { on := 8, ground := Ground.phase }, { on := 9, ground := Ground.phase }, { on := 10, ground := Ground.phase }, { on := 11, ground := Ground.phase }, { on := 12, ground := Ground.phase }, { on := 13, ground := Ground.phase }, { on := 14, ground := Ground.phase }, { on := 15, ground := Ground.phase }, { on := 16, ground := Ground.phase }, { on := 17, ground := Ground.phase }, { on := 18, ground := Ground.phase }], guard := none }) (v := .slice (some ⟨h4, 0, none⟩) (i + 1) p4) rfl (by kernel_rfl) (by kernel_rfl) (by kernel_rfl) (fun _ _ _ h => h) (Yields.yieldsIf (Or.inl ⟨by rfl, fun W => by go_simp⟩)) (by exact hHq8) ?_
                    simp only [Act.put, List.setIfInBounds_toArray, List.set_cons_zero, List.set_cons_succ]
                    refine anyH_as (a' := ?Nz23) 0 #[true, true, true, true, true, true, true, true, true, true, true, true, true, true, true, true, true, true, true, true] (by kernel_rfl) (by kernel_rfl) ?HNz23 ?HMz23
                    case HNz23 =>
                      go_simp
                      exact rfl
                    refine wpAnyH_done (by kernel_rfl) ?_ _
                    clear hHq8
                    go_wp2
                    go_roundg gg
                    case measure => omega
                    case rel =>
                      have FF := FIN.out h1 p1 h3 p3
                      have EE := E8.out (.slice (some ⟨h1, 0, none⟩) (k + 1) p1) (.slice (some ⟨h3, 0, none⟩) (k + 1) p3)
                      exact ⟨i + 1, (UPF (UPF V i (.slice (some ⟨h1, 0, none⟩) (k + 1) p1)) (i + 4) (.slice (some ⟨h3, 0, none⟩) (k + 1) p3)), (UPF (UPF N i (k + 1)) (i + 4) (k + 1)), (UPF (UPF XS' i (XS' i ++ [.int .u8 201])) (i + 4) ((UPF XS' i (XS' i ++ [.int .u8 201])) (i + 4) ++ [.int .u8 202])), by first | rfl | (rw [hi1]), ⟨II.out, Z4.out, FF, EE.1, EE.2, XE.out⟩⟩
                · rw [if_pos (by rfl)]
                  go_simp
                  refine hK.out _ _ (S5.out _ _ _ _ _ _ _ _ ((RA.out _ (bl_alloc (bl_alloc ((Below.refl _ _).drew) _) _)).1)) (fun hHq2 => ?_)
                  clear hK K hHq1 
                  refine anyH_as (a' := ?Nz24) 8 #[true, true, true, true, true, true, false, false, false, true, true, true, true, true, true, false, false, false, false, false] (by kernel_rfl) (by kernel_rfl) ?HNz24 ?HMz24
                  case HNz24 =>
                    go_simp
                    exact rfl
                  refine anyH_one (o := { dst := some 159, op := Op.call { callee := Callee.builtin Builtin.append, args := #[Operand.tmp 157, Operand.tmp 158], argTypes := #[22, 22] }, type := 22, pos := "law.go:86", after := #[{ on := 4, ground := Ground.data }, { on := 5, ground := Ground.data }], guard := none }) 6 (by kernel_rfl) rfl (fun K hK => ?_)
                  refine step_byte _ (by rfl) (.tmp 157) (.tmp 158) (by rfl) w.heap.size (.slice (some ⟨ba, 0, none⟩) k qa) k (XS' i) (by rfl) (RA.out _ (bl_alloc (bl_alloc ((Below.refl _ _).drew) _) _)).2.1 _ 1 201 (by rfl) (cell_past (cell_at _ _ _ _ (by simp)) _) nm.out.1 (RA.out _ (bl_alloc (bl_alloc ((Below.refl _ _).drew) _) _)).2.2 ?_
                  intro h1 p1 w21 hown1 hgrow1 hat1 hlt1
                  have Z1 : Aside (S2 w g n c' Ab Bb Cb l c1 c2 c3 (UPF V i (.slice (some ⟨h1, 0, none⟩) (k + 1) p1)) (UPF N i (k + 1)) (UPF XS' i (XS' i ++ [.int .u8 201])) (.slice ax i qx) (.slice ay i qy) i i w21) := S2.row1 (RA.out _ (bl_alloc (bl_alloc ((Below.refl _ _).drew) _) _)).1 G.out.1 G.out.2.2.1 G.out.2.2.2.2.2.2.1 hown1 hgrow1 hat1
                  have W21 : Aside (wr.heap.size ≤ w21.heap.size) := Nat.le_trans (Below.size (bl_alloc (bl_alloc ((Below.refl _ _).drew) _) _)) hgrow1.size
                  have NB1 := far_cell hgrow1 (b := wr.heap.size + 1) (v := .int .u8 202) (cell_at _ _ _ _ (by simp)) (far_ne1 LT.out.1 (by omega))
                  refine hK.out _ _ (S5.out _ _ _ _ _ _ _ _ ((Z1.out.keep (Below.refl _ _)))) (fun hHq3 => ?_)
                  clear hK K hHq2 hown1 hgrow1 hat1 hlt1
                  refine anyH_as (a' := ?Nz25) 7 #[true, true, true, true, true, true, true, false, false, true, true, true, true, true, true, false, false, false, false, false] (by kernel_rfl) (by kernel_rfl) ?HNz25 ?HMz25
                  case HNz25 =>
                    go_simp
                    exact rfl
                  refine anyH_one (o := { dst := some 160, op := Op.buildSlice 32 1 #[(0, Operand.tmp 159)], type := 32, pos := "law.go:86", after := #[{ on := 6, ground := Ground.data }], guard := none }) 7 (by kernel_rfl) rfl (fun K hK => ?_)
                  rw [if_pos (by rfl)]
                  go_simp
                  refine hK.out _ _ (S5.out _ _ _ _ _ _ _ _ ((Z1.out.keep (bl_alloc (Below.refl _ _) _)))) (fun hHq4 => ?_)
                  clear hK K hHq3 
                  refine anyH_as (a' := ?Nz26) 6 #[true, true, true, true, true, true, true, true, false, true, true, true, true, true, true, false, false, false, false, false] (by kernel_rfl) (by kernel_rfl) ?HNz26 ?HMz26
                  case HNz26 =>
                    go_simp
                    exact rfl
                  refine anyH_one (o := { dst := some 161, op := Op.call { callee := Callee.builtin Builtin.append, args := #[Operand.tmp 153, Operand.tmp 160], argTypes := #[32, 32] }, type := 32, pos := "law.go:86", after := #[{ on := 0, ground := Ground.data }, { on := 7, ground := Ground.data }, { on := 6, ground := Ground.chain }], guard := none }) 8 (by kernel_rfl) rfl (fun K hK => ?_)
                  refine step_list _ (by rfl) (.tmp 153) (.tmp 160) (by rfl) w.heap.size (.slice ax i qx) i _ (by rfl) (Z1.out.keep (bl_alloc (Below.refl _ _) _)).rx _ 1 (some ⟨h1, 0, none⟩) (k + 1) p1 (by rfl) (cell_at _ _ _ _ (by simp)) nm.out.2 (Z1.out.keep (bl_alloc (Below.refl _ _) _)).bel.size ?_
                  intro h2 p2 w22 hown2 hgrow2 hat2 hlt2
                  have Z2 : Aside (S2 w g n c' Ab Bb Cb l c1 c2 c3 (UPF V i (.slice (some ⟨h1, 0, none⟩) (k + 1) p1)) (UPF N i (k + 1)) (UPF XS' i (XS' i ++ [.int .u8 201])) (.slice (some ⟨h2, 0, none⟩) (i + 1) p2) (.slice ay i qy) (i + 1) i w22) := (Z1.out.keep (bl_alloc (Below.refl _ _) _)).appX (by rw [UPF_at]; exact hown2) hgrow2 hat2
                  have NB2 := far_cell hgrow2 (b := wr.heap.size + 1) (v := .int .u8 202) (cell_past (NB1) _) (far_ne2 LT.out.2 (by have hh := W21.out; omega))
                  refine hK.out _ _ (S5.out _ _ _ _ _ _ _ _ ((Z2.out.keep (Below.refl _ _)))) (fun hHq5 => ?_)
                  clear hK K hHq4 hown2 hgrow2 hat2 hlt2
                  refine anyH_as (a' := ?Nz27) 5 #[true, true, true, true, true, true, true, true, true, true, true, true, true, true, true, false, false, false, false, false] (by kernel_rfl) (by kernel_rfl) ?HNz27 ?HMz27
                  case HNz27 =>
                    go_simp
                    exact rfl
                  refine anyH_one (o := { dst := some 168, op := Op.call { callee := Callee.builtin Builtin.append, args := #[Operand.tmp 166, Operand.tmp 167], argTypes := #[22, 22] }, type := 22, pos := "law.go:86", after := #[{ on := 13, ground := Ground.data }, { on := 14, ground := Ground.data }, { on := 8, ground := Ground.chain }], guard := none }) 15 (by kernel_rfl) rfl (fun K hK => ?_)
                  refine step_byte _ (by rfl) (.tmp 166) (.tmp 167) (by rfl) w.heap.size (.slice (some ⟨bb, 0, none⟩) k qb) k ((UPF XS' i (XS' i ++ [.int .u8 201])) (i + 4)) (by rfl) (S2.row4 (Z2.out.keep (Below.refl _ _)) G.out.2.1 G.out.2.2.2.1 G.out.2.2.2.2.2.2.1) _ 1 202 (by rfl) (NB2) nm.out.1 (Z2.out.keep (Below.refl _ _)).bel.size ?_
                  intro h3 p3 w23 hown3 hgrow3 hat3 hlt3
                  have Z3 : Aside (S2 w g n c' Ab Bb Cb l c1 c2 c3 (UPF (UPF V i (.slice (some ⟨h1, 0, none⟩) (k + 1) p1)) (i + 4) (.slice (some ⟨h3, 0, none⟩) (k + 1) p3)) (UPF (UPF N i (k + 1)) (i + 4) (k + 1)) (UPF (UPF XS' i (XS' i ++ [.int .u8 201])) (i + 4) ((UPF XS' i (XS' i ++ [.int .u8 201])) (i + 4) ++ [.int .u8 202])) (.slice (some ⟨h2, 0, none⟩) (i + 1) p2) (.slice ay i qy) (i + 1) i w23) := S2.row5 (Z2.out.keep (Below.refl _ _)) G.out.2.1 G.out.2.2.2.1 G.out.2.2.2.2.2.2.1 hown3 hgrow3 hat3
                  refine hK.out _ _ (S5.out _ _ _ _ _ _ _ _ ((Z3.out.keep (Below.refl _ _)))) (fun hHq6 => ?_)
                  clear hK K hHq5 hown3 hgrow3 hat3 hlt3
                  refine anyH_as (a' := ?Nz28) 4 #[true, true, true, true, true, true, true, true, true, true, true, true, true, true, true, true, false, false, false, false] (by kernel_rfl) (by kernel_rfl) ?HNz28 ?HMz28
                  case HNz28 =>
                    go_simp
                    exact rfl
                  refine anyH_one (o := { dst := some 169, op := Op.buildSlice 32 1 #[(0, Operand.tmp 168)], type := 32, pos := "law.go:86", after := #[{ on := 15, ground := Ground.data }], guard := none }) 16 (by kernel_rfl) rfl (fun K hK => ?_)
                  rw [if_pos (by rfl)]
                  go_simp
                  refine hK.out _ _ (S5.out _ _ _ _ _ _ _ _ ((Z3.out.keep (bl_alloc (Below.refl _ _) _)))) (fun hHq7 => ?_)
                  clear hK K hHq6 
                  refine anyH_as (a' := ?Nz29) 3 #[true, true, true, true, true, true, true, true, true, true, true, true, true, true, true, true, true, false, false, false] (by kernel_rfl) (by kernel_rfl) ?HNz29 ?HMz29
                  case HNz29 =>
                    go_simp
                    exact rfl
                  refine anyH_one (o := { dst := some 170, op := Op.call { callee := Callee.builtin Builtin.append, args := #[Operand.tmp 162, Operand.tmp 169], argTypes := #[32, 32] }, type := 32, pos := "law.go:86", after := #[{ on := 9, ground := Ground.data }, { on := 16, ground := Ground.data }, { on := 15, ground := Ground.chain }], guard := none }) 17 (by kernel_rfl) rfl (fun K hK => ?_)
                  refine step_list _ (by rfl) (.tmp 162) (.tmp 169) (by rfl) w.heap.size (.slice ay i qy) i _ (by rfl) (Z3.out.keep (bl_alloc (Below.refl _ _) _)).ry _ 1 (some ⟨h3, 0, none⟩) (k + 1) p3 (by rfl) (cell_at _ _ _ _ (by simp)) nm.out.2 (Z3.out.keep (bl_alloc (Below.refl _ _) _)).bel.size ?_
                  intro h4 p4 w24 hown4 hgrow4 hat4 hlt4
                  have Z4 : Aside (S2 w g n c' Ab Bb Cb l c1 c2 c3 (UPF (UPF V i (.slice (some ⟨h1, 0, none⟩) (k + 1) p1)) (i + 4) (.slice (some ⟨h3, 0, none⟩) (k + 1) p3)) (UPF (UPF N i (k + 1)) (i + 4) (k + 1)) (UPF (UPF XS' i (XS' i ++ [.int .u8 201])) (i + 4) ((UPF XS' i (XS' i ++ [.int .u8 201])) (i + 4) ++ [.int .u8 202])) (.slice (some ⟨h2, 0, none⟩) (i + 1) p2) (.slice (some ⟨h4, 0, none⟩) (i + 1) p4) (i + 1) (i + 1) w24) := (Z3.out.keep (bl_alloc (Below.refl _ _) _)).appY (by rw [UPF_at]; exact hown4) hgrow4 hat4
                  refine hK.out _ _ (S5.out _ _ _ _ _ _ _ _ ((Z4.out.keep (Below.refl _ _)))) (fun hHq8 => ?_)
                  clear hK K hHq7 hown4 hgrow4 hat4 hlt4
                  refine anyH_as (a' := ?Nz30) 2 #[true, true, true, true, true, true, true, true, true, true, true, true, true, true, true, true, true, true, false, false] (by kernel_rfl) (by kernel_rfl) ?HNz30 ?HMz30
                  case HNz30 =>
                    go_simp
                    exact rfl
                  refine wpAnyH_take (i := 18) (oi := { dst := some 16, op := Op.assign (Operand.tmp 161), type := 32, pos := "law.go:86", after := #[{ on := 8, ground := Ground.data }, { on := 17, ground := Ground.chain }, { on := 0, ground := Ground.phase }, { on := 1, ground := Ground.phase }, { on := 2, ground := Ground.phase }, { on := 3, ground := Ground.phase }, { on := 4, ground := Ground.phase }, { on := 5, ground := Ground.phase }, { on := 6, ground := Ground.phase }, { on := 7, ground := Ground.phase }, { on := 8, ground := Ground.phase }, { on := 9, ground := Ground.textOnly Go.Departure.lateStores }, { on := 10, ground := Ground.textOnly Go.Departure.lateStores }, { on := 11, ground := Ground.textOnly Go.Departure.lateStores }, { on := 12, ground := Ground.textOnly Go.Departure.lateStores }, { on := 13, ground := Ground.textOnly Go.Departure.lateStores }, { on := 14, ground := Ground.textOnly Go.Departure.lateStores }, { on := 15, ground := Ground.textOnly Go.Departure.lateStoresUnsure }, { on := 16, ground := Ground.textOnly Go.Departure.lateStores }, { on := 17, ground := Ground.textOnly Go.Departure.lateStoresUnsure }], guard := none }) (v := .slice (some ⟨h2, 0, none⟩) (i + 1) p2) rfl (by kernel_rfl) (by kernel_rfl) (by kernel_rfl) (fun _ _ _ h => h) (Yields.yieldsIf (Or.inl ⟨by rfl, fun W => by go_simp⟩)) (by exact hHq8) ?_
                  simp only [Act.put, List.setIfInBounds_toArray, List.set_cons_zero, List.set_cons_succ]
                  refine wpAnyH_take (i := 19) (oi := { dst := some 17, op := Op.assign (Operand.tmp 170), type := 32, pos := "law.go:86", after := #[{ on := 17, ground := Ground.data }, { on := 18, ground := Ground.chain }, { on := 0, ground := Ground.phase }, { on := 1, ground := Ground.phase }, { on := 2, ground := Ground.phase }, { on := 3, ground := Ground.phase }, { on := 4, ground := Ground.phase }, { on := 5, ground := Ground.phase }, { on := 6, ground := Ground.phase }, { on := 7, ground := Ground.phase }, { on := 8, ground := Ground.phase }, { on := 9, ground := Ground.phase }, { on := 10, ground := Ground.phase }, { on := 11, ground := Ground.phase }, { on := 12, ground := Ground.phase }, { on := 13, ground := Ground.phase }, { on := 14, ground := Ground.phase }, { on := 15, ground := Ground.phase }, { on := 16, ground := Ground.phase }, { on := 17, ground := Ground.phase }, { on := 18, ground := Ground.phase }], guard := none }) (v := .slice (some ⟨h4, 0, none⟩) (i + 1) p4) rfl (by kernel_rfl) (by kernel_rfl) (by kernel_rfl) (fun _ _ _ h => h) (Yields.yieldsIf (Or.inl ⟨by rfl, fun W => by go_simp⟩)) (by exact hHq8) ?_
                  simp only [Act.put, List.setIfInBounds_toArray, List.set_cons_zero, List.set_cons_succ]
                  refine anyH_as (a' := ?Nz31) 0 #[true, true, true, true, true, true, true, true, true, true, true, true, true, true, true, true, true, true, true, true] (by kernel_rfl) (by kernel_rfl) ?HNz31 ?HMz31
                  case HNz31 =>
                    go_simp
                    exact rfl
                  refine wpAnyH_done (by kernel_rfl) ?_ _
                  clear hHq8
                  go_wp2
                  go_roundg gg
                  case measure => omega
                  case rel =>
                    have FF := FIN.out h1 p1 h3 p3
                    have EE := E8.out (.slice (some ⟨h1, 0, none⟩) (k + 1) p1) (.slice (some ⟨h3, 0, none⟩) (k + 1) p3)
                    exact ⟨i + 1, (UPF (UPF V i (.slice (some ⟨h1, 0, none⟩) (k + 1) p1)) (i + 4) (.slice (some ⟨h3, 0, none⟩) (k + 1) p3)), (UPF (UPF N i (k + 1)) (i + 4) (k + 1)), (UPF (UPF XS' i (XS' i ++ [.int .u8 201])) (i + 4) ((UPF XS' i (XS' i ++ [.int .u8 201])) (i + 4) ++ [.int .u8 202])), by first | rfl | (rw [hi1]), ⟨II.out, Z4.out, FF, EE.1, EE.2, XE.out⟩⟩
              · rw [if_pos (by rfl)]
                go_simp
                refine hK.out _ _ (S5.out _ _ _ _ _ _ _ _ ((RA.out _ (bl_alloc ((Below.refl _ _).drew) _)).1)) (fun hHq1 => ?_)
                clear hK K hHeld 
                refine anyH_as (a' := ?Nz32) 9 #[true, true, true, true, true, false, false, false, false, true, true, true, true, true, true, false, false, false, false, false] (by kernel_rfl) (by kernel_rfl) ?HNz32 ?HMz32
                case HNz32 =>
                  go_simp
                  exact rfl
                refine anyH_one (o := { dst := some 158, op := Op.buildSlice 22 1 #[(0, Operand.const (Value.int IntKind.u8 201))], type := 22, pos := "law.go:86", after := #[], guard := none }) 5 (by kernel_rfl) rfl (fun K hK => ?_)
                rw [if_pos (by rfl)]
                go_simp
                refine hK.out _ _ (S5.out _ _ _ _ _ _ _ _ ((RA.out _ (bl_alloc (bl_alloc ((Below.refl _ _).drew) _) _)).1)) (fun hHq2 => ?_)
                clear hK K hHq1 
                refine anyH_as (a' := ?Nz33) 8 #[true, true, true, true, true, true, false, false, false, true, true, true, true, true, true, false, false, false, false, false] (by kernel_rfl) (by kernel_rfl) ?HNz33 ?HMz33
                case HNz33 =>
                  go_simp
                  exact rfl
                refine anyH_one (o := { dst := some 159, op := Op.call { callee := Callee.builtin Builtin.append, args := #[Operand.tmp 157, Operand.tmp 158], argTypes := #[22, 22] }, type := 22, pos := "law.go:86", after := #[{ on := 4, ground := Ground.data }, { on := 5, ground := Ground.data }], guard := none }) 6 (by kernel_rfl) rfl (fun K hK => ?_)
                refine step_byte _ (by rfl) (.tmp 157) (.tmp 158) (by rfl) w.heap.size (.slice (some ⟨ba, 0, none⟩) k qa) k (XS' i) (by rfl) (RA.out _ (bl_alloc (bl_alloc ((Below.refl _ _).drew) _) _)).2.1 _ 1 201 (by rfl) (cell_at _ _ _ _ (by simp)) nm.out.1 (RA.out _ (bl_alloc (bl_alloc ((Below.refl _ _).drew) _) _)).2.2 ?_
                intro h1 p1 w21 hown1 hgrow1 hat1 hlt1
                have Z1 : Aside (S2 w g n c' Ab Bb Cb l c1 c2 c3 (UPF V i (.slice (some ⟨h1, 0, none⟩) (k + 1) p1)) (UPF N i (k + 1)) (UPF XS' i (XS' i ++ [.int .u8 201])) (.slice ax i qx) (.slice ay i qy) i i w21) := S2.row1 (RA.out _ (bl_alloc (bl_alloc ((Below.refl _ _).drew) _) _)).1 G.out.1 G.out.2.2.1 G.out.2.2.2.2.2.2.1 hown1 hgrow1 hat1
                have W21 : Aside (wr.heap.size ≤ w21.heap.size) := Nat.le_trans (Below.size (bl_alloc (bl_alloc ((Below.refl _ _).drew) _) _)) hgrow1.size
                have NB1 := far_cell hgrow1 (b := wr.heap.size) (v := .int .u8 202) (cell_past (cell_at _ _ _ _ (by simp)) _) (far_ne1 LT.out.1 (by omega))
                refine hK.out _ _ (S5.out _ _ _ _ _ _ _ _ ((Z1.out.keep (Below.refl _ _)))) (fun hHq3 => ?_)
                clear hK K hHq2 hown1 hgrow1 hat1 hlt1
                refine anyH_as (a' := ?Nz34) 7 #[true, true, true, true, true, true, true, false, false, true, true, true, true, true, true, false, false, false, false, false] (by kernel_rfl) (by kernel_rfl) ?HNz34 ?HMz34
                case HNz34 =>
                  go_simp
                  exact rfl
                refine anyH_one (o := { dst := some 160, op := Op.buildSlice 32 1 #[(0, Operand.tmp 159)], type := 32, pos := "law.go:86", after := #[{ on := 6, ground := Ground.data }], guard := none }) 7 (by kernel_rfl) rfl (fun K hK => ?_)
                rw [if_pos (by rfl)]
                go_simp
                refine hK.out _ _ (S5.out _ _ _ _ _ _ _ _ ((Z1.out.keep (bl_alloc (Below.refl _ _) _)))) (fun hHq4 => ?_)
                clear hK K hHq3 
                refine anyH_as (a' := ?Nz35) 6 #[true, true, true, true, true, true, true, true, false, true, true, true, true, true, true, false, false, false, false, false] (by kernel_rfl) (by kernel_rfl) ?HNz35 ?HMz35
                case HNz35 =>
                  go_simp
                  exact rfl
                refine anyH_one (o := { dst := some 161, op := Op.call { callee := Callee.builtin Builtin.append, args := #[Operand.tmp 153, Operand.tmp 160], argTypes := #[32, 32] }, type := 32, pos := "law.go:86", after := #[{ on := 0, ground := Ground.data }, { on := 7, ground := Ground.data }, { on := 6, ground := Ground.chain }], guard := none }) 8 (by kernel_rfl) rfl (fun K hK => ?_)
                refine step_list _ (by rfl) (.tmp 153) (.tmp 160) (by rfl) w.heap.size (.slice ax i qx) i _ (by rfl) (Z1.out.keep (bl_alloc (Below.refl _ _) _)).rx _ 1 (some ⟨h1, 0, none⟩) (k + 1) p1 (by rfl) (cell_at _ _ _ _ (by simp)) nm.out.2 (Z1.out.keep (bl_alloc (Below.refl _ _) _)).bel.size ?_
                intro h2 p2 w22 hown2 hgrow2 hat2 hlt2
                have Z2 : Aside (S2 w g n c' Ab Bb Cb l c1 c2 c3 (UPF V i (.slice (some ⟨h1, 0, none⟩) (k + 1) p1)) (UPF N i (k + 1)) (UPF XS' i (XS' i ++ [.int .u8 201])) (.slice (some ⟨h2, 0, none⟩) (i + 1) p2) (.slice ay i qy) (i + 1) i w22) := (Z1.out.keep (bl_alloc (Below.refl _ _) _)).appX (by rw [UPF_at]; exact hown2) hgrow2 hat2
                have NB2 := far_cell hgrow2 (b := wr.heap.size) (v := .int .u8 202) (cell_past (NB1) _) (far_ne2 LT.out.2 (by have hh := W21.out; omega))
                refine hK.out _ _ (S5.out _ _ _ _ _ _ _ _ ((Z2.out.keep (Below.refl _ _)))) (fun hHq5 => ?_)
                clear hK K hHq4 hown2 hgrow2 hat2 hlt2
                refine anyH_as (a' := ?Nz36) 5 #[true, true, true, true, true, true, true, true, true, true, true, true, true, true, true, false, false, false, false, false] (by kernel_rfl) (by kernel_rfl) ?HNz36 ?HMz36
                case HNz36 =>
                  go_simp
                  exact rfl
                refine anyH_one (o := { dst := some 168, op := Op.call { callee := Callee.builtin Builtin.append, args := #[Operand.tmp 166, Operand.tmp 167], argTypes := #[22, 22] }, type := 22, pos := "law.go:86", after := #[{ on := 13, ground := Ground.data }, { on := 14, ground := Ground.data }, { on := 8, ground := Ground.chain }], guard := none }) 15 (by kernel_rfl) rfl (fun K hK => ?_)
                refine step_byte _ (by rfl) (.tmp 166) (.tmp 167) (by rfl) w.heap.size (.slice (some ⟨bb, 0, none⟩) k qb) k ((UPF XS' i (XS' i ++ [.int .u8 201])) (i + 4)) (by rfl) (S2.row4 (Z2.out.keep (Below.refl _ _)) G.out.2.1 G.out.2.2.2.1 G.out.2.2.2.2.2.2.1) _ 1 202 (by rfl) (NB2) nm.out.1 (Z2.out.keep (Below.refl _ _)).bel.size ?_
                intro h3 p3 w23 hown3 hgrow3 hat3 hlt3
                have Z3 : Aside (S2 w g n c' Ab Bb Cb l c1 c2 c3 (UPF (UPF V i (.slice (some ⟨h1, 0, none⟩) (k + 1) p1)) (i + 4) (.slice (some ⟨h3, 0, none⟩) (k + 1) p3)) (UPF (UPF N i (k + 1)) (i + 4) (k + 1)) (UPF (UPF XS' i (XS' i ++ [.int .u8 201])) (i + 4) ((UPF XS' i (XS' i ++ [.int .u8 201])) (i + 4) ++ [.int .u8 202])) (.slice (some ⟨h2, 0, none⟩) (i + 1) p2) (.slice ay i qy) (i + 1) i w23) := S2.row5 (Z2.out.keep (Below.refl _ _)) G.out.2.1 G.out.2.2.2.1 G.out.2.2.2.2.2.2.1 hown3 hgrow3 hat3
                refine hK.out _ _ (S5.out _ _ _ _ _ _ _ _ ((Z3.out.keep (Below.refl _ _)))) (fun hHq6 => ?_)
                clear hK K hHq5 hown3 hgrow3 hat3 hlt3
                refine anyH_as (a' := ?Nz37) 4 #[true, true, true, true, true, true, true, true, true, true, true, true, true, true, true, true, false, false, false, false] (by kernel_rfl) (by kernel_rfl) ?HNz37 ?HMz37
                case HNz37 =>
                  go_simp
                  exact rfl
                refine anyH_one (o := { dst := some 169, op := Op.buildSlice 32 1 #[(0, Operand.tmp 168)], type := 32, pos := "law.go:86", after := #[{ on := 15, ground := Ground.data }], guard := none }) 16 (by kernel_rfl) rfl (fun K hK => ?_)
                rw [if_pos (by rfl)]
                go_simp
                refine hK.out _ _ (S5.out _ _ _ _ _ _ _ _ ((Z3.out.keep (bl_alloc (Below.refl _ _) _)))) (fun hHq7 => ?_)
                clear hK K hHq6 
                refine anyH_as (a' := ?Nz38) 3 #[true, true, true, true, true, true, true, true, true, true, true, true, true, true, true, true, true, false, false, false] (by kernel_rfl) (by kernel_rfl) ?HNz38 ?HMz38
                case HNz38 =>
                  go_simp
                  exact rfl
                refine anyH_one (o := { dst := some 170, op := Op.call { callee := Callee.builtin Builtin.append, args := #[Operand.tmp 162, Operand.tmp 169], argTypes := #[32, 32] }, type := 32, pos := "law.go:86", after := #[{ on := 9, ground := Ground.data }, { on := 16, ground := Ground.data }, { on := 15, ground := Ground.chain }], guard := none }) 17 (by kernel_rfl) rfl (fun K hK => ?_)
                refine step_list _ (by rfl) (.tmp 162) (.tmp 169) (by rfl) w.heap.size (.slice ay i qy) i _ (by rfl) (Z3.out.keep (bl_alloc (Below.refl _ _) _)).ry _ 1 (some ⟨h3, 0, none⟩) (k + 1) p3 (by rfl) (cell_at _ _ _ _ (by simp)) nm.out.2 (Z3.out.keep (bl_alloc (Below.refl _ _) _)).bel.size ?_
                intro h4 p4 w24 hown4 hgrow4 hat4 hlt4
                have Z4 : Aside (S2 w g n c' Ab Bb Cb l c1 c2 c3 (UPF (UPF V i (.slice (some ⟨h1, 0, none⟩) (k + 1) p1)) (i + 4) (.slice (some ⟨h3, 0, none⟩) (k + 1) p3)) (UPF (UPF N i (k + 1)) (i + 4) (k + 1)) (UPF (UPF XS' i (XS' i ++ [.int .u8 201])) (i + 4) ((UPF XS' i (XS' i ++ [.int .u8 201])) (i + 4) ++ [.int .u8 202])) (.slice (some ⟨h2, 0, none⟩) (i + 1) p2) (.slice (some ⟨h4, 0, none⟩) (i + 1) p4) (i + 1) (i + 1) w24) := (Z3.out.keep (bl_alloc (Below.refl _ _) _)).appY (by rw [UPF_at]; exact hown4) hgrow4 hat4
                refine hK.out _ _ (S5.out _ _ _ _ _ _ _ _ ((Z4.out.keep (Below.refl _ _)))) (fun hHq8 => ?_)
                clear hK K hHq7 hown4 hgrow4 hat4 hlt4
                refine anyH_as (a' := ?Nz39) 2 #[true, true, true, true, true, true, true, true, true, true, true, true, true, true, true, true, true, true, false, false] (by kernel_rfl) (by kernel_rfl) ?HNz39 ?HMz39
                case HNz39 =>
                  go_simp
                  exact rfl
                refine wpAnyH_take (i := 18) (oi := { dst := some 16, op := Op.assign (Operand.tmp 161), type := 32, pos := "law.go:86", after := #[{ on := 8, ground := Ground.data }, { on := 17, ground := Ground.chain }, { on := 0, ground := Ground.phase }, { on := 1, ground := Ground.phase }, { on := 2, ground := Ground.phase }, { on := 3, ground := Ground.phase }, { on := 4, ground := Ground.phase }, { on := 5, ground := Ground.phase }, { on := 6, ground := Ground.phase }, { on := 7, ground := Ground.phase }, { on := 8, ground := Ground.phase }, { on := 9, ground := Ground.textOnly Go.Departure.lateStores }, { on := 10, ground := Ground.textOnly Go.Departure.lateStores }, { on := 11, ground := Ground.textOnly Go.Departure.lateStores }, { on := 12, ground := Ground.textOnly Go.Departure.lateStores }, { on := 13, ground := Ground.textOnly Go.Departure.lateStores }, { on := 14, ground := Ground.textOnly Go.Departure.lateStores }, { on := 15, ground := Ground.textOnly Go.Departure.lateStoresUnsure }, { on := 16, ground := Ground.textOnly Go.Departure.lateStores }, { on := 17, ground := Ground.textOnly Go.Departure.lateStoresUnsure }], guard := none }) (v := .slice (some ⟨h2, 0, none⟩) (i + 1) p2) rfl (by kernel_rfl) (by kernel_rfl) (by kernel_rfl) (fun _ _ _ h => h) (Yields.yieldsIf (Or.inl ⟨by rfl, fun W => by go_simp⟩)) (by exact hHq8) ?_
                simp only [Act.put, List.setIfInBounds_toArray, List.set_cons_zero, List.set_cons_succ]
                refine wpAnyH_take (i := 19) (oi := { dst := some 17, op := Op.assign (Operand.tmp 170), type := 32, pos := "law.go:86", after := #[{ on := 17, ground := Ground.data }, { on := 18, ground := Ground.chain }, { on := 0, ground := Ground.phase }, { on := 1, ground := Ground.phase }, { on := 2, ground := Ground.phase }, { on := 3, ground := Ground.phase }, { on := 4, ground := Ground.phase }, { on := 5, ground := Ground.phase }, { on := 6, ground := Ground.phase }, { on := 7, ground := Ground.phase }, { on := 8, ground := Ground.phase }, { on := 9, ground := Ground.phase }, { on := 10, ground := Ground.phase }, { on := 11, ground := Ground.phase }, { on := 12, ground := Ground.phase }, { on := 13, ground := Ground.phase }, { on := 14, ground := Ground.phase }, { on := 15, ground := Ground.phase }, { on := 16, ground := Ground.phase }, { on := 17, ground := Ground.phase }, { on := 18, ground := Ground.phase }], guard := none }) (v := .slice (some ⟨h4, 0, none⟩) (i + 1) p4) rfl (by kernel_rfl) (by kernel_rfl) (by kernel_rfl) (fun _ _ _ h => h) (Yields.yieldsIf (Or.inl ⟨by rfl, fun W => by go_simp⟩)) (by exact hHq8) ?_
                simp only [Act.put, List.setIfInBounds_toArray, List.set_cons_zero, List.set_cons_succ]
                refine anyH_as (a' := ?Nz40) 0 #[true, true, true, true, true, true, true, true, true, true, true, true, true, true, true, true, true, true, true, true] (by kernel_rfl) (by kernel_rfl) ?HNz40 ?HMz40
                case HNz40 =>
                  go_simp
                  exact rfl
                refine wpAnyH_done (by kernel_rfl) ?_ _
                clear hHq8
                go_wp2
                go_roundg gg
                case measure => omega
                case rel =>
                  have FF := FIN.out h1 p1 h3 p3
                  have EE := E8.out (.slice (some ⟨h1, 0, none⟩) (k + 1) p1) (.slice (some ⟨h3, 0, none⟩) (k + 1) p3)
                  exact ⟨i + 1, (UPF (UPF V i (.slice (some ⟨h1, 0, none⟩) (k + 1) p1)) (i + 4) (.slice (some ⟨h3, 0, none⟩) (k + 1) p3)), (UPF (UPF N i (k + 1)) (i + 4) (k + 1)), (UPF (UPF XS' i (XS' i ++ [.int .u8 201])) (i + 4) ((UPF XS' i (XS' i ++ [.int .u8 201])) (i + 4) ++ [.int .u8 202])), by first | rfl | (rw [hi1]), ⟨II.out, Z4.out, FF, EE.1, EE.2, XE.out⟩⟩
        | zero =>
          -- LAST
          obtain rfl : i = 4 := by have := I.out.1; omega
          have hlt : ¬ ((4 : Nat) : Int) < 4 := by omega
          obtain ⟨gx, qx, rfl⟩ : ∃ gx qx, u16 = .slice (some ⟨gx, 0, none⟩) 4 qx := by
            obtain ⟨ax, qx, e, h⟩ := own_form I.out.2.1.rx
            obtain ⟨gx, rfl⟩ := h (by decide)
            exact ⟨gx, qx, e⟩
          obtain ⟨gy, qy, rfl⟩ : ∃ gy qy, u17 = .slice (some ⟨gy, 0, none⟩) 4 qy := by
            obtain ⟨ax, qx, e, h⟩ := own_form I.out.2.1.ry
            obtain ⟨gx, rfl⟩ := h (by decide)
            exact ⟨gx, qx, e⟩
          have J : Aside (∀ i, i < 4 → ∃ N1 b1 q1 b2 q2, N1 ≤ 3002 ∧ wr.cell? ⟨gx, i, none⟩ = some (.slice (some ⟨b1, 0, none⟩) N1 q1) ∧ wr.cell? ⟨gy, i, none⟩ = some (.slice (some ⟨b2, 0, none⟩) N1 q2) ∧ (∀ j, j < N1 → wr.cell? ⟨b1, j, none⟩ = some (.int .u8 201)) ∧ (∀ j, j < N1 → wr.cell? ⟨b2, j, none⟩ = some (.int .u8 202))) := fun i hi => by
            obtain ⟨s1, s2, s3, s4⟩ := I.out
            obtain ⟨n1, n2⟩ := s3.new i hi
            obtain ⟨k1, k2⟩ := s3.cell i hi
            have r1 := s2.fam.row i (by omega)
            have r2 := s2.fam.row (i + 4) (by omega)
            rw [n1] at r1
            rw [n2] at r2
            obtain ⟨a1, q1, e1, h1⟩ := own_form r1
            obtain ⟨b1, rfl⟩ := h1 (by omega)
            obtain ⟨a2, q2, e2, h2⟩ := own_form r2
            obtain ⟨b2, rfl⟩ := h2 (by omega)
            rw [e1] at r1
            rw [e2] at r2
            refine ⟨TLEN n i + 1, b1, q1, b2, q2, by have := s3.few i; omega, ?_, ?_, fun j hj => (r1.cellAt j (by omega)).trans (k1 j hj), fun j hj => (r2.cellAt j (by omega)).trans (k2 j hj)⟩
            · rw [s2.rx.cellAt i (by omega), List.getElem?_map, List.getElem?_range hi]
              show some (V i) = _
              rw [e1]
            · rw [s2.ry.cellAt i (by omega), List.getElem?_map, List.getElem?_range hi]
              show some (V (i + 4)) = _
              rw [e2]
          obtain ⟨a8, q8, F⟩ : ∃ a8 q8, Aside (∀ W, Below wr.heap.size wr W → Text W (some ⟨g, 0, none⟩) n l ∧ Text W a n l ∧ Tabled W ∧ W.ownsRow w.heap.size 5 1 (.slice (some ⟨g, 0, none⟩) (n + 1) c') (n + 1) (BY (l ++ [171])) ∧ Text W a8 (n + 1) (0 :: l) ∧ W.cell? ⟨Cb, 0, none⟩ = some (.slice a8 (n + 1) q8) ∧ Below w.heap.size w W ∧ g < W.heap.size) := by
            obtain ⟨s1, s2, s3, s4, s5, s6⟩ := I.out
            have r8 := s2.fam.row 8 (by decide)
            rw [s5, s6] at r8
            obtain ⟨a8, q8, e8, -⟩ := own_form r8
            rw [e8] at s4 r8
            refine ⟨a8, q8, fun W hW => ?_⟩
            have h := s2.keep hW
            have r8 := own_keep r8 hW
            have hs : Small8 (l ++ [171]) := small_snoc H.out.2.2.2.2.1
            have ht : Text W (some ⟨g, 0, none⟩) (n + 1) (l ++ [171]) := own_text h.giv hs
            exact ⟨ht.front, HA.out.1.below h.bel, HA.out.2.below h.bel, h.giv, own_text r8 (small_cons' (by decide) H.out.2.2.2.2.1), (h.hC.cell 0).trans s4, h.bel, (h.giv.lt g rfl).2⟩
          clear I
          generalize hwo : wr = wo at *
          clear hwo
          go_wp2
          go_loopg [20] 4 (fun gg s20 wx => ∃ i : Nat, s20 = .int .i64 (i : Int) ∧ Aside (i + gg = 4) ∧ wx = wo)
          case atStart => exact ⟨0, rfl, by unfold Aside; omega, rfl⟩
          case round =>
            obtain ⟨i, rfl, I, hw⟩ := hrel
            subst hw
            cases gk with
            | succ gg =>
              have hi4 : i < 4 := by have := I.out; omega
              have hlt : (i : Int) < 4 := by omega
              have hlt0 : (0 : Int) ≤ (i : Int) := by omega
              have hi1 : wrap64 ((i : Int) + 1) = ((i + 1 : Nat) : Int) := by unfold wrap64; omega
              obtain ⟨N1, b1, q1, b2, q2, hN, y1, y2, k1, k2⟩ := J.out i hi4
              have ca := all_ok b1 N1 q1 201 (by omega) wr k1
              have cb := all_ok b2 N1 q2 202 (by omega) wr k2
              clear k1 k2
              go_wp2_with fail
              refine ca.mono ?_
              rintro e w30 ⟨rfl, rfl⟩
              clear ca
              go_wp2_with fail
              refine cb.mono ?_
              rintro e w30 ⟨rfl, rfl⟩
              clear cb
              go_wp2
              go_roundg gg
              case measure => omega
              case rel => exact ⟨i + 1, by first | rfl | (rw [hi1]), by have := I.out; unfold Aside; omega, rfl⟩
            | zero =>
              obtain rfl : i = 4 := by have := I.out; omega
              have hlt : ¬ ((4 : Nat) : Int) < 4 := by omega
              have hn40 : n < 2 ^ 40 := by have := H.out.1; omega
              have m1 : Aside (∀ W, Below wr.heap.size wr W → Calls Tryd.prog 26 #[.slice (some ⟨g, 0, none⟩) n c', .slice a n c] W fun e w' => e = .returned (.bool true) ∧ Below W.heap.size W w') := fun W hW => (same_ok _ a n n c' c l l W (F.out W hW).1 (F.out W hW).2.1 hn40).mono fun e w' h => ⟨by simpa using h.1, h.2.1⟩
              have m2 : Aside (∀ W, Below wr.heap.size wr W → Calls Tryd.prog 28 #[.slice (some ⟨g, 0, none⟩) n c'] W fun e w' => e = .returned (.bool true) ∧ W = w') := fun W hW => marked2_ok g n c' w.heap.size l H.out.2.2.2.2.2.1 hn40 NC.out W (F.out W hW).2.2.2.1
              have m3 : Aside (∀ W, Below wr.heap.size wr W → Calls Tryd.prog 18 #[.slice (some ⟨g, 0, none⟩) n c'] W fun e w' => ∃ a' c'', e = .returned (.slice a' (n + 1) c'') ∧ w'.ownsRow W.heap.size 5 1 (.slice a' (n + 1) c'') (n + 1) (BY (0 :: l)) ∧ Below W.heap.size W w') := fun W hW => leaftext_ok _ n c' l W (F.out W hW).1 (by simp) (by have := H.out.1; omega) (by have := NC.out; omega) (fun x e => by cases e; exact (F.out W hW).2.2.2.2.2.2.2)
              have m4 : Aside (∀ a' c'' W, Below wr.heap.size wr W → Text W a' (n + 1) (0 :: l) → Calls Tryd.prog 26 #[.slice a' (n + 1) c'', .slice a8 (n + 1) q8] W fun e w' => e = .returned (.bool true) ∧ Below W.heap.size W w') := fun a' c'' W hW ht => (same_ok a' a8 (n + 1) (n + 1) c'' q8 (0 :: l) (0 :: l) W ht (F.out W hW).2.2.2.2.1 (by omega)).mono fun e w' h => ⟨by simpa using h.1, h.2.1⟩
              have m5 : Aside (∀ W, Below wr.heap.size wr W → Calls Tryd.prog 29 #[] W fun e w' => e = .returned (.bool true) ∧ Below W.heap.size W w') := fun W hW => awake_ok W (F.out W hW).2.2.1
              have S0 : Aside (Small8 (0 :: l)) := small_cons' (by decide) H.out.2.2.2.2.1
              have CC : Aside (∀ W, Below wr.heap.size wr W → W.cell? ⟨Cb, 0, none⟩ = some (.slice a8 (n + 1) q8)) := fun W hW => (F.out W hW).2.2.2.2.2.1
              have c0 := CC.out wr (Below.refl _ _)
              clear hn40 I J
              go_wp2_with fail
              go_region_held3 (fun W : World => W.cell? ⟨Cb, 0, none⟩ = some (.slice a8 (n + 1) q8)) (first | assumption | exact cell_past (by assumption) _) (first
                | (go_at_call 26; refine (m1.out _ (Below.refl _ _).drew).mono ?_; rintro e w31 ⟨rfl, hb31⟩; have B31 : Aside (Below wr.heap.size wr w31) := (Below.refl _ _).drew.trans (hb31.mono (Nat.le_refl _)); have c1' := CC.out w31 B31.out; clear hb31)
                | (go_at_call 28; refine (m2.out _ B31.out).mono ?_; rintro e w32 ⟨rfl, rfl⟩)
                | (go_at_call 18; refine (m3.out _ B31.out).mono ?_; rintro e w33 ⟨a', c'', rfl, ho33, hb33⟩; have B33 : Aside (Below wr.heap.size wr w33 ∧ Text w33 a' (n + 1) (0 :: l)) := ⟨B31.out.trans (hb33.mono B31.out.size), own_text ho33 S0.out⟩; have c3' := CC.out w33 B33.out.1; clear hb33 ho33)
                | (go_at_call 26; refine (m4.out a' c'' _ B33.out.1 B33.out.2).mono ?_; rintro e w34 ⟨rfl, hb34⟩; have B34 : Aside (Below wr.heap.size wr w34) := B33.out.1.trans (hb34.mono B33.out.1.size); have c4' := CC.out w34 B34.out; clear hb34)
                | (go_at_call 29; refine (m5.out _ B34.out).mono ?_; rintro e w35 ⟨rfl, hb35⟩; have B35 : Aside (Below wr.heap.size wr w35) := B34.out.trans (hb35.mono B34.out.size); have c5' := CC.out w35 B35.out; clear hb35))
              go_wp2
              go_ret
              exact ⟨rfl, (F.out w35 B35.out).2.2.2.2.2.2.1⟩
end Go.Proofs.YtlcjknkocbdpoaaDoor
