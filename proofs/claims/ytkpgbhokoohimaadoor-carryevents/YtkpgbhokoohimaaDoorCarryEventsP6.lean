/- Texts of CarryEvents, one behind the other: PosPath, PosSpotRow, PosTops, PosRefPeaks, PosRefPeak, PosHas, PosRefPath, PosAwake, PosFour, CutCalls, CutHas, CutSpan, CutOver. -/
import Derived.Deep.AppendLies
import Derived.Test.YtkpgbhokoohimaaDoorProg
import Derived.WalkKit
import Derived.WalkLawsBesides
import Derived.Deep.WholeRow
import Derived.Deep.LoopGhost
import Derived.Laws.ResultCell
import Derived.Laws.Rows
import Derived.Laws.Tables
import Derived.Deep.QuietTactic
import Derived.BigQuiet
import Derived.Test.YtkpgbhokoohimaaDoorCarryEventsP4
import Derived.Test.YtkpgbhokoohimaaDoorCarryEventsP5
/- What rise, Peak and Path answer. -/
namespace Go.Proofs.YtkpgbhokoohimaaDoor
open Go.RowKit

theorem app_u64 {ops : Array Oper} {rest : List Oper} {o : Oper} {a : Act} {Q : Exit → Act → World → Prop} (w : World) (hgd : o.guard = none) (s x : Operand)
    (ho : o.op = .call { callee := .builtin .append,args := #[s,x],argTypes := #[83,83] })
    (base : Nat) (v : Value) (n : Nat) (xs : List Nat) (hs : a.eval s = v) (hown : w.ownsRow base 22 1 v n (UCELLS xs))
    (b c : Nat) (y : Nat) (hx : a.eval x = .slice (some ⟨b,0,none⟩) 1 c) (hc : w.cell? ⟨b,0,none⟩ = some (.int .u64 (y : Int)))
    (hb : n ≤ 1000) (hbase : base ≤ w.heap.size)
    (h : ∀ g cap w',w'.ownsRow base 22 1 (.slice (some ⟨g,0,none⟩) (n + 1) cap) (n + 1) (UCELLS (xs ++ [y])) → w.grownBy w' v.ownBlock → g < w'.heap.size → wpList Tryd.prog ops Q rest (a.put o.dst (.slice (some ⟨g,0,none⟩) (n + 1) cap)) w') : wpList Tryd.prog ops Q (o :: rest) a w := by
  obtain ⟨i,hi,hz,hs1,hby⟩ := info_parts info_u64
  refine wpList_append_lies w hgd s x 83 ho base 22 i (.int .u64 0) 1 8 Tryd.underlying83 hi hz hs1 hby rfl (by decide) v n (UCELLS xs) hs hown ⟨b,0,none⟩ 1 c [.int .u64 (y : Int)] hx rfl ?_ (fun u hu => by simp at hu; subst hu; rfl) (by decide) (by simp only [maxLen]; omega) (by omega) hbase w.heap.size rfl ?_
  · intro j u hj
    cases j with
    | zero =>
      simp only [List.getElem?_cons_zero,Option.some.injEq] at hj
      subst hj
      exact hc
    | succ j => simp at hj
  · intro g cap w' h1 h2 _ h4
    rw [← UCELLS_snoc] at h1
    exact h g cap w' h1 h2 h4

theorem rise_raw (i n x r : Int) (w : World) (hd : decide (4611686018427387904 < n) = false) (hi : decide (n ≤ i) = false) (hx : bits .xor .u64 i n = x) (c : ∀ w,Calls Tryd.prog 67 #[.int .u64 x] w fun e w' => e = .returned (.int .i64 r) ∧ w = w') :
    Calls Tryd.prog 57 #[.int .u64 i,.int .u64 n] w fun e w' => e = .returned (.tuple #[.int .i64 r,.bool true]) ∧ w = w' := by
  go_enter Tryd.func57,Tryd.ntmps57
  have hd' : ¬ 4611686018427387904 < n := by simpa using hd
  have hi' : ¬ n ≤ i := by simpa using hi
  go_wp2_with fail
  refine (c _).mono ?_
  rintro e w' ⟨rfl,rfl⟩
  go_wp2
  go_ret2
  exact ⟨rfl,rfl⟩
theorem rise_ok (i n : Nat) (hi : i < n) (hn : n ≤ 4611686018427387904) (w : World) : Calls Tryd.prog 57 #[.int .u64 (i : Int),.int .u64 (n : Int)] w fun e w' => e = .returned (.tuple #[.int .i64 ((RISE i n : Nat) : Int),.bool true]) ∧ w = w' := by
  have hX : i ^^^ n < 2 ^ 63 := Nat.xor_lt_two_pow (by omega) (by omega)
  have h1 := (RISE_spec hi hn).1
  refine rise_raw i n ((i ^^^ n : Nat) : Int) _ w (by simp; omega) (by simp; omega) (bits_xor_u64_nat i n (by omega) (by omega)) (fun w => ?_)
  have := high_ok (i ^^^ n) (by omega) w
  rw [show ((LEN (i ^^^ n) : Nat) : Int) - 1 = ((RISE i n : Nat) : Int) by unfold RISE; omega] at this
  exact this
theorem rise_not (i n : Int) (h : ¬ (i < n ∧ n ≤ 4611686018427387904)) (w : World) : Calls Tryd.prog 57 #[.int .u64 i,.int .u64 n] w fun e w' => e = .returned (.tuple #[.int .i64 0,.bool false]) ∧ w = w' := by
  by_cases hd : 4611686018427387904 < n
  · clear h
    go_enter Tryd.func57,Tryd.ntmps57
    go_wp2
    go_ret2
    exact ⟨rfl,rfl⟩
  · have hi : n ≤ i := by omega
    clear h
    go_enter Tryd.func57,Tryd.ntmps57
    go_wp2
    go_ret2
    exact ⟨rfl,rfl⟩
theorem peak_raw (i n r x y k : Int) (w : World) (h : Nat) (hr : r = (h : Int)) (e1 : n / 2 ^ min h 64 = x) (e2 : x / 2 = y) (c : ∀ w,Calls Tryd.prog 57 #[.int .u64 i,.int .u64 n] w fun e w' => e = .returned (.tuple #[.int .i64 r,.bool true]) ∧ w = w') (co : ∀ w,Calls Tryd.prog 20 #[.int .u64 y] w fun e w' => e = .returned (.int .i64 k) ∧ w = w') :
    Calls Tryd.prog 48 #[.int .u64 i,.int .u64 n] w fun e w' => e = .returned (.tuple #[.int .i64 k,.bool true]) ∧ w = w' := by
  subst hr
  go_enter Tryd.func48,Tryd.ntmps48
  go_wp2_with fail
  refine (c _).mono ?_
  rintro e w' ⟨rfl,rfl⟩
  clear c
  go_wp2_with fail
  refine (co _).mono ?_
  rintro e w' ⟨rfl,rfl⟩
  go_wp2
  go_ret2
  exact ⟨rfl,rfl⟩
theorem peak_ok (i n : Nat) (hi : i < n) (hn : n ≤ 4611686018427387904) (w : World) : Calls Tryd.prog 48 #[.int .u64 (i : Int),.int .u64 (n : Int)] w fun e w' => e = .returned (.tuple #[.int .i64 ((KTH i n : Nat) : Int),.bool true]) ∧ w = w' := by
  have h2 := (RISE_spec hi hn).2.1
  refine peak_raw i n _ ((n / 2 ^ RISE i n : Nat) : Int) ((n / 2 ^ (RISE i n + 1) : Nat) : Int) _ w (RISE i n) rfl ?_ ?_ (fun w => rise_ok i n hi hn w) (fun w => ?_)
  · rw [show min (RISE i n) 64 = RISE i n by omega,div_cast]
  · rw [half_pow]
    omega
  · have hl : n / 2 ^ (RISE i n + 1) < 2 ^ 64 := Nat.lt_of_le_of_lt (Nat.div_le_self _ _) (by omega)
    have := ones_ok (n / 2 ^ (RISE i n + 1)) hl w
    rw [POP_PC hl] at this
    exact this
theorem path_not (i n : Int) (h : ¬ (i < n ∧ n ≤ 4611686018427387904)) (w : World) : Calls Tryd.prog 51 #[.int .u64 i,.int .u64 n] w fun e w' => e = .returned (.tuple #[.slice none 0 0,.bool false]) ∧ w = w' := by
  have c := rise_not i n h
  clear h
  go_enter Tryd.func51,Tryd.ntmps51
  go_wp2_with fail
  refine (c _).mono ?_
  rintro e w' ⟨rfl,rfl⟩
  clear c
  go_wp2
  go_ret2
  exact ⟨rfl,rfl⟩
set_option maxHeartbeats 1000000 in
theorem path_ok (i n : Nat) (hi : i < n) (hn : n ≤ 4611686018427387904) (w : World) : Calls Tryd.prog 51 #[.int .u64 (i : Int),.int .u64 (n : Int)] w fun e w' =>
    ∃ g cap,e = .returned (.tuple #[.slice (some ⟨g,0,none⟩) (RISE i n) cap,.bool true]) ∧ w'.ownsRow w.heap.size 22 1 (.slice (some ⟨g,0,none⟩) (RISE i n) cap) (RISE i n) (UCELLS (WAY i (RISE i n))) ∧ g < w'.heap.size ∧ Below w.heap.size w w' := by
  have c1 := rise_ok i n hi hn
  have h62 := (RISE_spec hi hn).2.1
  have c2 := ahead_ok i (by omega)
  generalize RISE i n = H at *
  obtain ⟨cur,hcs,hmk⟩ := make_u64 H (by omega) w
  have HA : Aside (i < 4611686018427387904 ∧ H ≤ 62 ∧ cur.size = H) := ⟨by omega,h62,hcs⟩
  have hp : (NODES i : Nat) = PLC 0 (i / 2 ^ 0) := by rw [PLC_leaf,Nat.pow_zero,Nat.div_one]
  rw [hp] at c2
  clear hi hn h62 hcs hp
  go_enter Tryd.func51,Tryd.ntmps51
  go_wp2_with fail
  refine (c1 _).mono ?_
  rintro e w' ⟨rfl,rfl⟩
  clear c1
  go_wp2_with fail
  refine (c2 _).mono ?_
  rintro e w' ⟨rfl,rfl⟩
  clear c2
  go_wp2
  go_loopg [8,9,25] H (fun g s8 s9 s25 wx => ∃ j : Nat,s25 = .int .i64 (j : Int) ∧ s9 = .int .u64 ((PLC j (i / 2 ^ j) : Nat) : Int) ∧ Aside (j + g = H ∧ wx.ownsRow w.heap.size 22 1 s8 j (UCELLS (WAY i j)) ∧ (∃ b cap,s8 = .slice (some ⟨b,0,none⟩) j cap ∧ b < wx.heap.size) ∧ Below w.heap.size w wx))
  case atStart => exact ⟨0,rfl,by rw [Nat.pow_zero,Nat.div_one],by omega,World.ownsRow_made w cur H (Nat.le_refl _) (by have := HA.out.2.1; simp only [maxLen]; omega) (by rw [HA.out.2.2]; omega),⟨_,_,rfl,by simp⟩,(Below.refl _ _).alloc (Nat.le_refl _) _⟩
  case round =>
    obtain ⟨j,rfl,rfl,A⟩ := hrel
    clear hmk
    cases gk with
    | zero =>
      obtain ⟨hj,hown,⟨b,cap,hs,hb⟩,hbel⟩ := A.out
      obtain rfl : j = H := by omega
      subst hs
      have hlt : ¬ (j : Int) < (j : Int) := by omega
      clear hj hown hb hbel HA
      go_wp2
      go_ret2
      obtain ⟨hj,hown,⟨b',cap',hs,hb⟩,hbel⟩ := A.out
      cases hs
      exact ⟨b,cap,rfl,hown,hb,hbel⟩
    | succ g =>
      obtain ⟨hj,hown,⟨b,cap,hs,hb⟩,hbel⟩ := A.out
      have hlt : (j : Int) < (H : Int) := by omega
      have h62 := HA.out.2.1
      have hN := Node.over HA.out.1 j (by omega)
      have cb := beside_ok j (i / 2 ^ j) hN (by omega)
      have co := over_ok j (i / 2 ^ j) hN (by omega)
      have hR : (bits .and .u64 ((i : Int) / 2 ^ min j 64) 1 == 1) = decide (i / 2 ^ j % 2 = 1) := by
        rw [show min j 64 = j by omega,div_cast]
        exact odd_eq _ (Nat.lt_of_le_of_lt (Nat.div_le_self _ _) (by have := HA.out.1; omega))
      have e1 : wrap64 ((j : Int) + 1) = ((j + 1 : Nat) : Int) := by unfold wrap64; omega
      have hj0 : ¬ (j : Int) < 0 := by omega
      rw [← half_pow] at co
      have hw := WAY_succ i j
      generalize hz : decide (i / 2 ^ j % 2 = 1) = z at *
      clear hz
      generalize PLC j (i / 2 ^ j) = x at *
      generalize PLC j (SIB (i / 2 ^ j)) = y at *
      generalize hv : PLC (j + 1) (i / 2 ^ (j + 1)) = v at *
      have R : Aside (j + 1 + g = H ∧ wr.ownsRow w.heap.size 22 1 u8 j (UCELLS (WAY i j)) ∧ Below w.heap.size w wr ∧ j ≤ 1000 ∧ WAY i (j + 1) = WAY i j ++ [y] ∧ PLC (j + 1) (i / 2 ^ (j + 1)) = v) := ⟨by omega,hown,hbel,by omega,hw,hv⟩
      clear A hj hown hs hb hbel h62 hN hw hv HA
      go_wp2_with fail
      refine (cb _).mono ?_
      rintro e w' ⟨rfl,rfl⟩
      clear cb
      go_wp2_with (at_builtin; refine app_u64 _ rfl (.tmp 33) (.tmp 38) rfl w.heap.size u8 j (WAY i j) rfl (R.out.2.1.alloc _) wr.heap.size 1 y rfl (by rw [World.cell?_alloc_at _ _ _ _ rfl]; rfl) R.out.2.2.2.1 (by have := R.out.2.2.1.size; simp; omega) ?_; intro g' cap w1 hown hgrow hg)
      obtain ⟨r1,r2,r3,r4,r5,r6⟩ := R.out
      have R2 : Aside (j + 1 + g = H ∧ w1.ownsRow w.heap.size 22 1 (.slice (some ⟨g',0,none⟩) (j + 1) cap) (j + 1) (UCELLS (WAY i (j + 1))) ∧ g' < w1.heap.size ∧ Below w.heap.size w w1 ∧ PLC (j + 1) (i / 2 ^ (j + 1)) = v) := ⟨r1,by rw [r5]; exact hown,hg,(r3.alloc r3.size _).grown hgrow (by have := r3.size; simp; omega) (fun k e => (r2.lt k e).1),r6⟩
      clear hown hgrow hg R r1 r2 r3 r4 r5 r6
      refine (co _).mono ?_
      rintro e w' ⟨rfl,rfl⟩
      clear co
      go_wp2
      go_roundg g
      case measure => omega
      case rel =>
        obtain ⟨r1,r2,r3,r4,r6⟩ := R2.out
        exact ⟨j + 1,by first | rfl | (rw [e1]),by rw [r6],r1,r2,⟨_,_,rfl,r3⟩,r4⟩
end Go.Proofs.YtkpgbhokoohimaaDoor

/- Lists of spots of one's own. -/
namespace Go.Proofs.YtkpgbhokoohimaaDoor
open Go.RowKit

/-- spots as cells. -/
def SCELLS (l : List (Nat × Nat)) : List Value := l.flatMap fun x => [Value.int .u8 (x.1 : Int),Value.int .u64 (x.2 : Int)]
theorem SCELLS_snoc (l : List (Nat × Nat)) (h k : Nat) : SCELLS (l ++ [(h,k)]) = SCELLS l ++ [Value.int .u8 (h : Int),Value.int .u64 (k : Int)] := by simp [SCELLS]
theorem info_spot : (Tryd.prog.info? 63).map (fun i => (i.zero,i.size,i.bytes)) = some (some (.agg #[.int .u8 0,.int .u64 0]),2,16) := by kernel_rfl
theorem app_spot {ops : Array Oper} {rest : List Oper} {o : Oper} {a : Act} {Q : Exit → Act → World → Prop} (w : World) (hgd : o.guard = none) (s x : Operand)
    (ho : o.op = .call { callee := .builtin .append,args := #[s,x],argTypes := #[43,43] })
    (base : Nat) (v : Value) (n : Nat) (xs : List (Nat × Nat)) (hs : a.eval s = v) (hown : w.ownsRow base 63 2 v n (SCELLS xs))
    (b c : Nat) (h k : Nat) (hx : a.eval x = .slice (some ⟨b,0,none⟩) 1 c) (hc0 : w.cell? ⟨b,0,none⟩ = some (.int .u8 (h : Int))) (hc1 : w.cell? ⟨b,1,none⟩ = some (.int .u64 (k : Int)))
    (hb : n ≤ 1000) (hbase : base ≤ w.heap.size)
    (hh : ∀ g cap w',w'.ownsRow base 63 2 (.slice (some ⟨g,0,none⟩) (n + 1) cap) (n + 1) (SCELLS (xs ++ [(h,k)])) → w.grownBy w' v.ownBlock → g < w'.heap.size → wpList Tryd.prog ops Q rest (a.put o.dst (.slice (some ⟨g,0,none⟩) (n + 1) cap)) w') : wpList Tryd.prog ops Q (o :: rest) a w := by
  obtain ⟨i,hi,hz,hs1,hby⟩ := info_parts info_spot
  refine wpList_append_lies w hgd s x 43 ho base 63 i _ 2 16 Tryd.underlying43 hi hz hs1 hby rfl (by decide) v n (SCELLS xs) hs hown ⟨b,0,none⟩ 1 c [.int .u8 (h : Int),.int .u64 (k : Int)] hx rfl ?_ (fun u hu => by simp at hu; rcases hu with rfl | rfl <;> rfl) (by decide) (by simp only [maxLen]; omega) (by omega) hbase w.heap.size rfl ?_
  · intro j u hj
    match j,hj with
    | 0,hj =>
      simp only [List.getElem?_cons_zero,Option.some.injEq] at hj
      subst hj
      exact hc0
    | 1,hj =>
      simp only [List.getElem?_cons_succ,List.getElem?_cons_zero,Option.some.injEq] at hj
      subst hj
      exact hc1
    | j + 2,hj => simp at hj
  · intro g cap w' h1 h2 _ h4
    rw [← SCELLS_snoc] at h1
    exact hh g cap w' h1 h2 h4
/-- a list of spots lies there. -/
def Spots (w : World) (a : Option Addr) (l : List (Nat × Nat)) : Prop := 0 < l.length → ∃ g,a = some ⟨g,0,none⟩ ∧ g < w.heap.size ∧ ∀ (j h k : Nat),l[j]? = some (h,k) → w.cell? ⟨g,j * 2,none⟩ = some (.int .u8 (h : Int)) ∧ w.cell? ⟨g,j * 2 + 1,none⟩ = some (.int .u64 (k : Int))
theorem Spots.below {w w' : World} {a : Option Addr} {l : List (Nat × Nat)} (h : Spots w a l) (hb : Below w.heap.size w w') : Spots w' a l := fun h0 => by
  obtain ⟨g,e,hg,hc⟩ := h h0
  exact ⟨g,e,Nat.lt_of_lt_of_le hg hb.size,fun j x y he => ⟨(hb.cell (p := ⟨g,j * 2,none⟩) hg).trans (hc j x y he).1,(hb.cell (p := ⟨g,j * 2 + 1,none⟩) hg).trans (hc j x y he).2⟩⟩
theorem own_below {w w' : World} {base : Nat} {t : TypeId} {s : Nat} {v : Value} {n : Nat} {xs : List Value} (h : w.ownsRow base t s v n xs) (hb : Below w.heap.size w w') : w'.ownsRow base t s v n xs := by
  refine ⟨h.1,h.2.imp id ?_⟩
  rintro ⟨g,c,cur,a,b,r,rest⟩
  exact ⟨g,c,cur,a,b,(hb.block g (Array.getElem?_eq_some_iff.1 r).1).trans r,rest⟩
end Go.Proofs.YtkpgbhokoohimaaDoor

/- What the document's Tops gives: the spots of the peaks. -/
namespace Go.Proofs.YtkpgbhokoohimaaDoor
open Go.RowKit

/-- the spots of the peaks of n leaves whose height is at least h. -/
def TOPS (h n : Nat) : List (Nat × Nat) := (HS h n).map fun g => (g,2 * (n / 2 ^ (g + 1)))
theorem TOPS_set {h n : Nat} (hh : h < 64) (hb : n / 2 ^ h % 2 = 1) : TOPS h n = TOPS (h + 1) n ++ [(h,2 * (n / 2 ^ (h + 1)))] := by
  unfold TOPS
  rw [HS_set hh hb,List.map_append]
  rfl
theorem TOPS_clear {h n : Nat} (hh : h < 64) (hb : ¬ n / 2 ^ h % 2 = 1) : TOPS h n = TOPS (h + 1) n := by
  unfold TOPS
  rw [HS_clear hh hb]
/-- one height of Tops. -/
theorem tops_plain {n h at' r : Nat} (ha : at' = n / 2 ^ (h + 1) * 2 ^ (h + 1)) (hr : r = n - at') : at' ≤ n ∧ (2 ^ h ≤ r ↔ n / 2 ^ h % 2 = 1) ∧ at' / 2 ^ h = 2 * (n / 2 ^ (h + 1)) ∧ (n / 2 ^ h % 2 = 1 → at' + 2 ^ h = n / 2 ^ h * 2 ^ h) ∧ (¬ n / 2 ^ h % 2 = 1 → at' = n / 2 ^ h * 2 ^ h) := by
  have hp := Nat.two_pow_pos h
  have e1 : at' = 2 * (n / 2 ^ (h + 1)) * 2 ^ h := by rw [ha,double_pow]
  have hd := Nat.div_add_mod n (2 ^ h)
  have hm := Nat.mod_lt n hp
  rw [Nat.mul_comm] at hd
  have hq : at' / 2 ^ h = 2 * (n / 2 ^ (h + 1)) := by rw [e1,Nat.mul_div_cancel _ hp]
  by_cases hb : n / 2 ^ h % 2 = 1
  · have h2 := at_set hb
    have e2 : n / 2 ^ h * 2 ^ h = at' + 2 ^ h := by rw [h2,Nat.add_mul,Nat.one_mul, ← e1]
    exact ⟨by omega,⟨fun _ => hb,fun _ => by omega⟩,hq,fun _ => e2.symm,fun h => absurd hb h⟩
  · have h2 := at_clear hb
    have e2 : n / 2 ^ h * 2 ^ h = at' := by rw [h2, ← e1]
    exact ⟨by omega,⟨fun _ => by omega,fun h => absurd h hb⟩,hq,fun h => absurd h hb,fun _ => e2.symm⟩
set_option maxHeartbeats 1000000 in
theorem tops_ok (n : Nat) (hn : n ≤ 4611686018427387904) (w : World) : Calls Tryd.prog 17 #[.int .u64 (n : Int)] w fun e w' =>
    ∃ v,e = .returned v ∧ w'.ownsRow w.heap.size 63 2 v (PC n) (SCELLS (TOPS 0 n)) ∧ Below w.heap.size w w' := by
  have HN : Aside (n ≤ 4611686018427387904) := hn
  have hd : ¬ (4611686018427387904 : Int) < (n : Int) := by omega
  clear hn
  go_enter Tryd.func17,Tryd.ntmps17
  go_wp2
  go_loopg [3,4,5] 63 (fun q s3 s4 s5 wx => ∃ a : Nat,s4 = .int .u64 (a : Int) ∧ s5 = .int .i64 ((q : Int) - 1) ∧ Aside (q ≤ 63 ∧ a = n / 2 ^ q * 2 ^ q ∧ wx.ownsRow w.heap.size 63 2 s3 (PC (n / 2 ^ q)) (SCELLS (TOPS q n)) ∧ Below w.heap.size w wx))
  case atStart =>
    have hz : n / 2 ^ 63 = 0 := Nat.div_eq_of_lt (by have := HN.out; omega)
    refine ⟨0,rfl,rfl,by omega,by rw [hz,Nat.zero_mul], ?_,Below.refl _ _⟩
    rw [hz,PC_zero]
    have ht : TOPS 63 n = [] := by
      unfold TOPS
      rw [HS_top (by have := HN.out; omega)]
      rfl
    rw [ht]
    exact ⟨rfl,.inl ⟨rfl,rfl⟩⟩
  case round =>
    obtain ⟨a,rfl,rfl,A⟩ := hrel
    cases gk with
    | zero =>
      have hlt : ¬ (0 : Int) ≤ ((0 : Nat) : Int) - 1 := by omega
      go_wp2
      go_ret
      obtain ⟨_,_,hown,hbel⟩ := A.out
      rw [Nat.pow_zero,Nat.div_one] at hown
      exact ⟨_,rfl,hown,hbel⟩
    | succ h =>
      obtain ⟨h63,ha,hown,hbel⟩ := A.out
      have hnn := HN.out
      obtain ⟨r,hr⟩ : ∃ r,r = n - a := ⟨_,rfl⟩
      obtain ⟨p1,p2,p3,p4,p5⟩ := tops_plain ha hr
      have c := power_ok h (by omega)
      have hpw : 2 ^ h ≤ 2 ^ 62 := Nat.pow_le_pow_right (by decide) (by omega)
      have hp0 := Nat.two_pow_pos h
      have e0 : ((h + 1 : Nat) : Int) - 1 = (h : Int) := by omega
      have e0' : ¬ (h : Int) < 0 := by omega
      have e1 : IntKind.u64.wrap ((n : Int) - (a : Int)) = (r : Int) := by rw [wrapU]; omega
      have e3 : (h : Int) % 256 = (h : Int) := by omega
      have e4 : wrap64 ((h : Int) - 1) = (h : Int) - 1 := by unfold wrap64; omega
      rw [e0]
      by_cases hb : n / 2 ^ h % 2 = 1
      · have hge : 2 ^ h ≤ r := p2.2 hb
        have pq := p4 hb
        have e5 : (a : Int) / ((2 ^ h : Nat) : Int) = ((2 * (n / 2 ^ (h + 1)) : Nat) : Int) := by rw [← p3,Int.natCast_ediv]
        have hT := TOPS_set (n := n) (h := h) (by omega) hb
        have hPC : PC (n / 2 ^ h) = PC (n / 2 ^ (h + 1)) + 1 := by rw [PC_step, ← half_pow]; omega
        have hlen : PC (n / 2 ^ (h + 1)) ≤ 1000 := by have := PC_lt_pow 64 (n / 2 ^ (h + 1)) (Nat.lt_of_le_of_lt (Nat.div_le_self _ _) (by omega)); omega
        have hk64 : 2 * (n / 2 ^ (h + 1)) < 2 ^ 64 := by rw [← p3]; exact Nat.lt_of_le_of_lt (Nat.div_le_self _ _) (by omega)
        generalize 2 * (n / 2 ^ (h + 1)) = k at *
        have e7 : IntKind.u64.wrap (k : Int) = (k : Int) := by rw [wrapU]; omega
        have e6 : IntKind.u64.wrap ((a : Int) + ((2 ^ h : Nat) : Int)) = ((n / 2 ^ h * 2 ^ h : Nat) : Int) := by rw [wrapU, ← pq]; omega
        have hge' : ((2 ^ h : Nat) : Int) ≤ (r : Int) := by omega
        have hz0 : ¬ ((2 ^ h : Nat) : Int) = 0 := by omega
        generalize hm : PC (n / 2 ^ (h + 1)) = m at *
        generalize hl : TOPS (h + 1) n = l at *
        generalize ((2 ^ h : Nat) : Int) = z at *
        generalize hx : n / 2 ^ h * 2 ^ h = x at *
        have R : Aside (h ≤ 62 ∧ x = n / 2 ^ h * 2 ^ h ∧ wr.ownsRow w.heap.size 63 2 u3 m (SCELLS l) ∧ Below w.heap.size w wr ∧ m ≤ 1000 ∧ PC (n / 2 ^ h) = m + 1 ∧ TOPS h n = l ++ [(h,k)]) := ⟨by omega,hx.symm,hown,hbel,hlen,hPC,hT⟩
        clear A HN h63 ha hown hbel hnn hr p1 p2 p3 p4 p5 hpw hp0 hb hge pq hT hPC hlen hk64 hm hl hx
        go_wp2_with fail
        refine (c _).mono ?_
        rintro e w' ⟨rfl,rfl⟩
        go_wp2_with fail
        refine (c _).mono ?_
        rintro e w' ⟨rfl,rfl⟩
        go_wp2_with (at_builtin; refine app_spot _ rfl (.tmp 19) (.tmp 27) rfl w.heap.size u3 m l rfl (R.out.2.2.1.alloc _) wr.heap.size 1 h k rfl (by rw [World.cell?_alloc_at _ _ _ _ rfl]; rfl) (by rw [World.cell?_alloc_at _ _ _ _ rfl]; rfl) R.out.2.2.2.2.1 (by have := R.out.2.2.2.1.size; simp; omega) ?_; intro g' cap w1 hown hgrow hg)
        obtain ⟨r1,r2,r3,r4,r5,r6,r7⟩ := R.out
        have R2 : Aside (h ≤ 63 ∧ x = n / 2 ^ h * 2 ^ h ∧ w1.ownsRow w.heap.size 63 2 (.slice (some ⟨g',0,none⟩) (m + 1) cap) (PC (n / 2 ^ h)) (SCELLS (TOPS h n)) ∧ Below w.heap.size w w1) := ⟨by omega,r2,by rw [r6,r7]; exact hown,(r4.alloc r4.size _).grown hgrow (by have := r4.size; simp; omega) (fun k e => (r3.lt k e).1)⟩
        clear hown hgrow hg R r1 r2 r3 r4 r5 r6 r7
        refine (c _).mono ?_
        rintro e w' ⟨rfl,rfl⟩
        clear c
        go_wp2
        go_roundg h
        case measure => omega
        case rel => exact ⟨x,by first | rfl | (rw [e6]),by first | rfl | (rw [e4]),R2.out⟩
      · have hge : ¬ 2 ^ h ≤ r := fun h => hb (p2.1 h)
        have pq := p5 hb
        have hge' : ¬ ((2 ^ h : Nat) : Int) ≤ (r : Int) := by omega
        have hT := TOPS_clear (n := n) (h := h) (by omega) hb
        have hPC : PC (n / 2 ^ h) = PC (n / 2 ^ (h + 1)) := by rw [PC_step, ← half_pow]; omega
        generalize ((2 ^ h : Nat) : Int) = z at *
        have R : Aside (h ≤ 63 ∧ a = n / 2 ^ h * 2 ^ h ∧ wr.ownsRow w.heap.size 63 2 u3 (PC (n / 2 ^ h)) (SCELLS (TOPS h n)) ∧ Below w.heap.size w wr) := ⟨by omega,pq,by rw [hT,hPC]; exact hown,hbel⟩
        clear A HN h63 ha hown hbel hnn hr p1 p2 p3 p4 p5 hpw hp0 hb hge pq hT hPC
        go_wp2_with fail
        refine (c _).mono ?_
        rintro e w' ⟨rfl,rfl⟩
        clear c
        go_wp2
        go_roundg h
        case measure => omega
        case rel => exact ⟨a,rfl,by first | rfl | (rw [e4]),R.out⟩
end Go.Proofs.YtkpgbhokoohimaaDoor

/- What the document's Peaks gives. -/
namespace Go.Proofs.YtkpgbhokoohimaaDoor
open Go.RowKit

end Go.Proofs.YtkpgbhokoohimaaDoor

/- What the document's Peak gives. -/
namespace Go.Proofs.YtkpgbhokoohimaaDoor
open Go.RowKit

end Go.Proofs.YtkpgbhokoohimaaDoor

/- Blocks of one's own in a world that is a variable. -/
namespace Go.Proofs.YtkpgbhokoohimaaDoor
open Go.RowKit

/-- the block g holds the cells c. -/
def Has (w : World) (g : Nat) (c : Array Value) (t : TypeId) : Prop := w.heap[g]? = some (.cells c t)
theorem Has.cell {w : World} {g : Nat} {c : Array Value} {t : TypeId} (h : Has w g c t) (i : Nat) : w.cell? ⟨g,i,none⟩ = c[i]? := cell_of_row w g i c t _ h
theorem Has.lt {w : World} {g : Nat} {c : Array Value} {t : TypeId} (h : Has w g c t) : g < w.heap.size := (Array.getElem?_eq_some_iff.1 h).1
theorem Has.frozen {w : World} {g : Nat} {c : Array Value} {t : TypeId} (h : Has w g c t) (i : Nat) : w.frozen? ⟨g,i,none⟩ = false := by
  have e : w.heap[g]? = some (.cells c t) := h
  simp [World.frozen?,e]
theorem Has.set {w : World} {g : Nat} {c : Array Value} {t : TypeId} (h : Has w g c t) (i : Nat) (v : Value) : Has (w.setCell ⟨g,i,none⟩ v) g (c.setIfInBounds i v) t := by
  have e : w.heap[g]? = some (.cells c t) := h
  unfold Has
  rw [setCell_eq_setRow w g i c t _ v e,setRow_heap w g c _ t _ e]
theorem Has.other {w : World} {g : Nat} {c : Array Value} {t : TypeId} (h : Has w g c t) {a : Addr} (ha : g ≠ a.block) (v : Value) : Has (w.setCell a v) g c t := by
  have e : w.heap[g]? = some (.cells c t) := h
  unfold Has
  rw [Below.heap_setCell w a v g ha,e]
theorem Has.below {B : Nat} {w w' : World} {g : Nat} {c : Array Value} {t : TypeId} (h : Has w g c t) (hb : Below B w w') (hg : g < B) : Has w' g c t := (hb.block g hg).trans h
theorem Has.keep {w w' : World} {g : Nat} {c : Array Value} {t : TypeId} (h : Has w g c t) (hb : Below w.heap.size w w') : Has w' g c t := h.below hb h.lt
theorem Has.alloc {w : World} {g : Nat} {c : Array Value} {t : TypeId} (h : Has w g c t) (o : Obj) : Has (w.alloc o) g c t := by
  have e : w.heap[g]? = some (.cells c t) := h
  unfold Has
  rw [Below.heap_alloc w o g h.lt,e]
theorem Has.new (w : World) (c : Array Value) (t : TypeId) : Has (w.alloc (.cells c t)) w.heap.size c t := heap_alloc_new w _
theorem Has.at (w : World) (c : Array Value) (t : TypeId) {g : Nat} (hg : g = w.heap.size) : Has (w.alloc (.cells c t)) g c t := by subst hg; exact Has.new w c t
theorem Has.row {w : World} {g : Nat} {c : Array Value} {t : TypeId} (h : Has w g c t) (c' : Array Value) : Has (w.setRow g c') g c' t := setRow_heap w g c c' t _ h
theorem Has.row_other {w : World} {g k : Nat} {c : Array Value} {t : TypeId} (h : Has w g c t) (hk : g ≠ k) (c' : Array Value) : Has (w.setRow k c') g c t := by
  have e : w.heap[g]? = some (.cells c t) := h
  unfold Has
  rw [setRow_other w k g c' hk,e]
theorem Has.drewN {w : World} {g : Nat} {c : Array Value} {t : TypeId} (h : Has w g c t) (n : Nat) : Has (w.drewN n) g c t := h
theorem set_off {w : World} {b i j : Nat} (h : i ≠ j) (v : Value) : (w.setCell ⟨b,i,none⟩ v).cell? ⟨b,j,none⟩ = w.cell? ⟨b,j,none⟩ := World.cell?_setCell_other w _ _ v (fun e => h (congrArg Addr.off e))
theorem below_row {B g : Nat} {w0 w : World} (hb : Below B w0 w) (hBg : B ≤ g) (cs : Array Value) : Below B w0 (w.setRow g cs) :=
  ⟨hb.os,hb.tape,hb.output,by have := hb.size; simpa [World.setRow] using this,fun k hk => by rw [setRow_other w g k cs (by omega)]; exact hb.block k hk⟩
end Go.Proofs.YtkpgbhokoohimaaDoor

/- What the document's Path gives. -/
namespace Go.Proofs.YtkpgbhokoohimaaDoor
open Go.RowKit

end Go.Proofs.YtkpgbhokoohimaaDoor

/- awake answers true: the forest of seven leaves. -/
namespace Go.Proofs.YtkpgbhokoohimaaDoor
open Go.RowKit

/-- a list of numbers, cell by cell. -/
theorem row_at {w : World} {base g n cap : Nat} {l : List Nat} (h : w.ownsRow base 22 1 (.slice (some ⟨g,0,none⟩) n cap) n (UCELLS l)) (i : Nat) (hi : i < l.length) : w.cell? ⟨g,i,none⟩ = some (.int .u64 (l.getD i 0 : Nat)) := by
  have hlen : l.length = n := by have := h.1; simpa [UCELLS] using this
  rw [h.cellAt i (by omega)]
  unfold UCELLS
  rw [List.getElem?_map,List.getD_eq_getElem?_getD,List.getElem?_eq_getElem hi]
  rfl
end Go.Proofs.YtkpgbhokoohimaaDoor

/- Two lists that read the same; four lists of one's own, none of which shares a block with another. -/
namespace Go.Proofs.YtkpgbhokoohimaaDoor
open Go.RowKit

/-- a list of numbers lies there. -/
def Nums (w : World) (v : Value) (l : List Nat) : Prop := ∃ a cap,v = .slice a l.length cap ∧ (0 < l.length → ∃ g,a = some ⟨g,0,none⟩ ∧ g < w.heap.size ∧ ∀ (j : Nat),j < l.length → w.cell? ⟨g,j,none⟩ = some (.int .u64 ((l.getD j 0 : Nat) : Int)))
theorem Nums.below {w w' : World} {v : Value} {l : List Nat} {B : Nat} (h : Nums w v l) (hb : Below B w w') (hB : w.heap.size ≤ B) : Nums w' v l := by
  obtain ⟨a,cap,rfl,h⟩ := h
  refine ⟨a,cap,rfl,fun h0 => ?_⟩
  obtain ⟨g,e,hg,hc⟩ := h h0
  exact ⟨g,e,Nat.lt_of_lt_of_le hg hb.size,fun j hj => (hb.cell (p := ⟨g,j,none⟩) (Nat.lt_of_lt_of_le hg hB)).trans (hc j hj)⟩
/-- four lists of one's own: no two in one block, none in a block of K. -/
structure Four (w : World) (B : Nat) (K : Nat → Prop) (v : Nat → Value) (n : Nat → Nat) (xs : Nat → List Value) : Prop where
  row : ∀ x,x < 4 → w.ownsRow B 22 1 (v x) (n x) (xs x)
  apart : ∀ x y,x < 4 → y < 4 → x ≠ y → ∀ g,(v x).ownBlock = some g → (v y).ownBlock ≠ some g
  off : ∀ x,x < 4 → ∀ g,(v x).ownBlock = some g → ¬ K g
/-- a function that is another one at one place. -/
def UPD {α : Type} (f : Nat → α) (x : Nat) (a : α) : Nat → α := fun z => if z = x then a else f z
theorem UPD_at {α : Type} (f : Nat → α) (x : Nat) (a : α) : UPD f x a x = a := by simp [UPD]
theorem UPD_other {α : Type} (f : Nat → α) {x z : Nat} (a : α) (h : z ≠ x) : UPD f x a z = f z := by simp [UPD,h]
theorem Four.alloc {w : World} {B : Nat} {K : Nat → Prop} {v : Nat → Value} {n : Nat → Nat} {xs : Nat → List Value} (h : Four w B K v n xs) (o : Obj) : Four (w.alloc o) B K v n xs := ⟨fun x hx => (h.row x hx).alloc o,h.apart,h.off⟩
theorem Four.below {w w' : World} {B : Nat} {K : Nat → Prop} {v : Nat → Value} {n : Nat → Nat} {xs : Nat → List Value} (h : Four w B K v n xs) (hb : Below w.heap.size w w') : Four w' B K v n xs := ⟨fun x hx => own_below (h.row x hx) hb,h.apart,h.off⟩
theorem grown_set (W : World) (b j : Nat) (v : Value) : W.grownBy (W.setCell ⟨b,j,none⟩ v) (some b) :=
  ⟨rfl,rfl,rfl,(KeepsWalks.setCell W _ v).size,fun k _ hk => Below.heap_setCell _ _ _ k (fun e => hk (by rw [e]))⟩
/-- what is stored into a block of K. -/
theorem Four.other {w : World} {B : Nat} {K : Nat → Prop} {v : Nat → Value} {n : Nat → Nat} {xs : Nat → List Value} (h : Four w B K v n xs) {b : Nat} (hb : K b) (j : Nat) (u : Value) : Four (w.setCell ⟨b,j,none⟩ u) B K v n xs :=
  ⟨fun x hx => (h.row x hx).kept (grown_set w b j u) (.inr fun e => h.off x hx b e hb),h.apart,h.off⟩
/-- what is stored into one of the four. -/
theorem Four.store {w : World} {B : Nat} {K : Nat → Prop} {v : Nat → Value} {n : Nat → Nat} {xs : Nat → List Value} (h : Four w B K v n xs) {x g m cap : Nat} (hx : x < 4) (hv : v x = .slice (some ⟨g,0,none⟩) m cap) (j : Nat) (u : Value) :
    Four (w.setCell ⟨g,j,none⟩ u) B K v n (UPD xs x ((xs x).set j u)) := by
  refine ⟨fun z hz => ?_,h.apart,h.off⟩
  by_cases e : z = x
  · subst e
    have hr := h.row z hz
    rw [hv] at hr ⊢
    have hm : m = n z := by
      rcases hr.2 with ⟨e,_⟩ | ⟨_,_,_,e,_⟩
      · simp at e
      · simp at e
        omega
    subst hm
    rw [UPD_at]
    exact (hr.stored j u).1
  · rw [UPD_other xs _ e]
    refine (h.row z hz).kept (grown_set w g j u) (.inr fun e2 => ?_)
    exact h.apart x z hx hz (fun e3 => e e3.symm) g (by rw [hv]; rfl) e2
/-- a list's form. -/
theorem own_slice {w : World} {B n : Nat} {v : Value} {xs : List Value} (h : w.ownsRow B 22 1 v n xs) : ∃ a cap,v = .slice a n cap ∧ (0 < n → ∃ g,a = some ⟨g,0,none⟩ ∧ g < w.heap.size ∧ B ≤ g) := by
  rcases h.2 with ⟨rfl,h0⟩ | ⟨g,cap,cur,rfl,hb,hg,r⟩
  · subst h0
    exact ⟨none,0,rfl,fun h => by omega⟩
  · exact ⟨_,cap,rfl,fun _ => ⟨g,rfl,(Array.getElem?_eq_some_iff.1 hg).1,hb⟩⟩
theorem app_more {ops : Array Oper} {rest : List Oper} {o : Oper} {a : Act} {Q : Exit → Act → World → Prop} (w : World) (hgd : o.guard = none) (s x : Operand)
    (ho : o.op = .call { callee := .builtin .append,args := #[s,x],argTypes := #[83,83] })
    (base : Nat) (v : Value) (n : Nat) (xs : List Value) (hs : a.eval s = v) (hown : w.ownsRow base 22 1 v n xs)
    (b c : Nat) (y : Int) (hx : a.eval x = .slice (some ⟨b,0,none⟩) 1 c) (hc : w.cell? ⟨b,0,none⟩ = some (.int .u64 y))
    (hb : n ≤ 1000) (hbase : base ≤ w.heap.size)
    (h : ∀ g cap w',w'.ownsRow base 22 1 (.slice (some ⟨g,0,none⟩) (n + 1) cap) (n + 1) (xs ++ [.int .u64 y]) → w.grownBy w' v.ownBlock → (v.ownBlock = some g ∨ g = w.heap.size) → g < w'.heap.size → wpList Tryd.prog ops Q rest (a.put o.dst (.slice (some ⟨g,0,none⟩) (n + 1) cap)) w') : wpList Tryd.prog ops Q (o :: rest) a w := by
  obtain ⟨i,hi,hz,hs1,hby⟩ := info_parts info_u64
  refine wpList_append_lies w hgd s x 83 ho base 22 i (.int .u64 0) 1 8 Tryd.underlying83 hi hz hs1 hby rfl (by decide) v n xs hs hown ⟨b,0,none⟩ 1 c [.int .u64 y] hx rfl ?_ (fun u hu => by simp at hu; subst hu; rfl) (by decide) (by simp only [maxLen]; omega) (by omega) hbase w.heap.size rfl h
  intro j u hj
  cases j with
  | zero =>
    simp only [List.getElem?_cons_zero,Option.some.injEq] at hj
    subst hj
    exact hc
  | succ j => simp at hj
theorem Has.grown {w w' : World} {g : Nat} {c : Array Value} {t : TypeId} {row : Option Nat} (h : Has w g c t) (hg : w.grownBy w' row) (hne : row ≠ some g) : Has w' g c t := by
  obtain ⟨_,_,_,_,hk⟩ := hg
  exact (hk g h.lt (fun e => hne e.symm)).trans h
end Go.Proofs.YtkpgbhokoohimaaDoor

/- What the small functions of package cut answer. -/
namespace Go.Proofs.YtkpgbhokoohimaaDoor
open Go.RowKit

theorem low_nat (X : Nat) (hX : X < 2 ^ 64) : ∃ t : Nat,t ≤ 64 ∧ (X = 0 → t = 64) ∧ (∀ h,h ≤ 64 → (X % 2 ^ h = 0 ↔ h ≤ t)) ∧ ∀ w,Tabled w → Calls Tryd.prog 45 #[.int .u64 (X : Int)] w fun e w' => e = .returned (.int .i64 (t : Int)) ∧ w = w' := by
  by_cases h0 : X = 0
  · subst h0
    exact ⟨64,Nat.le_refl _,fun _ => rfl,fun h hh => by simp [hh],fun w _ => low_raw _ _ w (tz_zero w)⟩
  · obtain ⟨t,q,e⟩ := low_split X h0
    have ht := (neg_and hX e).2
    refine ⟨t,by omega,fun c => absurd c h0, ?_,fun w hT => low_raw _ _ w (tz_ok X t q hX e w hT)⟩
    intro h _
    constructor
    · intro hm
      rcases Nat.lt_or_ge t h with c | c
      · have h1 : 2 ^ (t + 1) ∣ 2 ^ h := Nat.pow_dvd_pow 2 c
        have h2 : X % 2 ^ (t + 1) = 0 := Nat.mod_eq_zero_of_dvd (Nat.dvd_trans h1 (Nat.dvd_of_mod_eq_zero hm))
        rw [e,Nat.mul_comm] at h2
        have := even_up.1 h2
        omega
      · exact c
    · intro hm
      have h1 : 2 ^ h ∣ 2 ^ t := Nat.pow_dvd_pow 2 hm
      exact Nat.mod_eq_zero_of_dvd (Nat.dvd_trans h1 ⟨_,e⟩)
end Go.Proofs.YtkpgbhokoohimaaDoor

/- A block that stays while a list of one's own grows. -/
namespace Go.Proofs.YtkpgbhokoohimaaDoor
open Go.RowKit

end Go.Proofs.YtkpgbhokoohimaaDoor

/- What Span answers. -/
namespace Go.Proofs.YtkpgbhokoohimaaDoor
open Go.RowKit

end Go.Proofs.YtkpgbhokoohimaaDoor

/- What Over answers, of any list of spots. -/
namespace Go.Proofs.YtkpgbhokoohimaaDoor
open Go.RowKit

/-- a list of spots lies there. -/
def Lie (w : World) (a : Option Addr) (l : List (Nat × Nat)) : Prop := 0 < l.length → ∃ g o,a = some ⟨g,o,none⟩ ∧ g < w.heap.size ∧ ∀ (j h k : Nat),l[j]? = some (h,k) → w.cell? ⟨g,o + j * 2,none⟩ = some (.int .u8 (h : Int)) ∧ w.cell? ⟨g,o + j * 2 + 1,none⟩ = some (.int .u64 (k : Int))
theorem Lie.below {w w' : World} {a : Option Addr} {l : List (Nat × Nat)} (h : Lie w a l) (hb : Below w.heap.size w w') : Lie w' a l := fun h0 => by
  obtain ⟨g,o,e,hg,hc⟩ := h h0
  exact ⟨g,o,e,Nat.lt_of_lt_of_le hg hb.size,fun j x y he => ⟨(hb.cell (p := ⟨g,o + j * 2,none⟩) hg).trans (hc j x y he).1,(hb.cell (p := ⟨g,o + j * 2 + 1,none⟩) hg).trans (hc j x y he).2⟩⟩
end Go.Proofs.YtkpgbhokoohimaaDoor
