/- Texts of ManyClimbs, one behind the other: ManyApart, ManyStays, ManyKept. -/
import Derived.Test.YtlicfinmibbpdaaGreatDoorManyClimbsP34
/- apart of the law: two answers, each written over with its own mark and grown, are apart. -/
namespace Go.Proofs.YtlicfinmibbpdaaGreatDoor
open Go.RowKit
set_option maxRecDepth 100000

theorem load_mid_if {ops : Array Oper} {rest : List Oper} {o : Oper} {a : Act} {w : World} {Q : Exit → Act → World → Prop} (hw : Region.wanted o (yielded ops a.tmps) = true) (ty : TypeId) (x : Operand) (ho : o.op = .load ty x)
    (b off : Nat) (hx : a.eval x = .pointer (some ⟨b, off, none⟩)) (cs : List Value) (d : TypeDesc) (hc : w.rangeAt b off cs) (hu : Tryz.prog.underlying ty = some d) (hd : d.isRow = true) (hi : (Tryz.prog.info? ty).map (·.size) = some cs.length)
    (h : wpList Tryz.prog ops Q rest (a.put o.dst (.agg cs.toArray)) w) : wpList Tryz.prog ops Q (o :: rest) a w := by
  simp only [wpList]
  rw [if_pos hw]
  exact .inl (wp_load_mid ty x ho b off hx cs d hc hu hd hi h)
theorem plain_if {ops : Array Oper} {rest : List Oper} {o : Oper} {a : Act} {w w' : World} {Q : Exit → Act → World → Prop} {v : Value} (hw : Region.wanted o (yielded ops a.tmps) = true) (hrun : (execOp a.eval o).run Tryz.prog w = .ok (.value v) w') (h : wpList Tryz.prog ops Q rest (a.put o.dst v) w') : wpList Tryz.prog ops Q (o :: rest) a w := by
  simp only [wpList]
  rw [if_pos hw]
  refine .inl ?_
  unfold Oper.wp
  rw [hrun]
  exact h
/-- the blocks of four lists. -/
def HOMES (a b x y : Value) (k : Nat) : Prop := ¬ OFF k a b x y
theorem OVER_grow {xs : List Value} {u : Value} {n : Nat} (hl : xs.length = n) : OVER xs u n ++ [u] = List.replicate (n + 1) u := by
  have := OVER_all xs u
  rw [hl] at this
  rw [this, List.replicate_succ']
set_option maxHeartbeats 8000000 in
theorem apart_ok (N1 N2 : Int) (a b x y : Option Addr) (n m ca cb cx cy B : Nat) (xa xb xx xy : List Value) (w : World) (hB : B ≤ w.heap.size) (ra : w.ownsRow B 23 1 (.slice a n ca) n xa) (rb : w.ownsRow B 23 1 (.slice b n cb) n xb) (rx : w.ownsRow B 38 32 (.slice x m cx) m xx) (ry : w.ownsRow B 38 32 (.slice y m cy) m xy)
    (hap : APT (.slice a n ca) (.slice b n cb) (.slice x m cx) (.slice y m cy)) (hn : n ≤ 90000) (hm : m ≤ 90000) :
    Calls Tryz.prog 11 #[.agg #[.int .u64 N1, .slice a n ca, .slice x m cx], .agg #[.int .u64 N2, .slice b n cb, .slice y m cy]] w fun e w' => e = .returned (.bool true) ∧ Below B w w' ∧ ∀ k, k < w.heap.size → OFF k (.slice a n ca) (.slice b n cb) (.slice x m cx) (.slice y m cy) → w'.heap[k]? = w.heap[k]? := by
  obtain ⟨w1, e1⟩ : ∃ w1, w.alloc (.cells #[.int .u64 N1, .slice a n ca, .slice x m cx] 26) = w1 := ⟨_, rfl⟩
  obtain ⟨w2, e2⟩ : ∃ w2, w1.alloc (.cells #[.int .u64 N2, .slice b n cb, .slice y m cy] 26) = w2 := ⟨_, rfl⟩
  have s1 : w1.heap.size = w.heap.size + 1 := by rw [← e1]; simp
  have s2 : w2.heap.size = w.heap.size + 2 := by rw [← e2]; simp; omega
  have h1 : Has w2 w.heap.size #[.int .u64 N1, .slice a n ca, .slice x m cx] 26 := by rw [← e2, ← e1]; exact (Has.new w _ _).alloc _
  have h2 : Has w2 w1.heap.size #[.int .u64 N2, .slice b n cb, .slice y m cy] 26 := by rw [← e2]; exact Has.new w1 _ _
  have hb2 : Below B w w2 := by rw [← e2, ← e1]; exact ((Below.refl _ _).alloc hB _).alloc (by simp; omega) _
  have up : ∀ {t : TypeId} {s k : Nat} {v : Value} {l : List Value}, w.ownsRow B t s v k l → w2.ownsRow B t s v k l := fun h => by rw [← e2, ← e1]; exact own_alloc (own_alloc h _) _
  obtain ⟨K, hK⟩ : ∃ K, K = HOMES (.slice a n ca) (.slice b n cb) (.slice x m cx) (.slice y m cy) := ⟨_, rfl⟩
  have off : ∀ k, w.heap.size ≤ k → ¬ K k := fun k hk h => by
    rw [hK] at h
    exact h ⟨fun e => by have := (ra.lt k e).2; omega, fun e => by have := (rb.lt k e).2; omega, fun e => by have := (rx.lt k e).2; omega, fun e => by have := (ry.lt k e).2; omega⟩
  have M0 : MIX w2 w2 B K (.slice a n ca) n xa (.slice b n cb) n xb (.slice x m cx) m xx (.slice y m cy) m xy := by
    refine ⟨up ra, up rb, up rx, up ry, hap, fun g e => .inl ?_, fun _ _ _ => rfl, Below.refl _ _, Nat.le_refl _, by omega⟩
    rw [hK]
    rintro ⟨q1, q2, q3, q4⟩
    rcases e with e | e | e | e <;> contradiction
  have HH : Aside (¬ K w.heap.size ∧ ¬ K w1.heap.size ∧ w.heap.size < w2.heap.size ∧ w1.heap.size < w2.heap.size ∧ xa.length = n ∧ xb.length = n ∧ xx.length = 32 * m ∧ xy.length = 32 * m ∧ n ≤ 90000 ∧ m ≤ 90000) := ⟨off _ (Nat.le_refl _), off _ (by omega), by omega, by omega, by have := ra.1; omega, by have := rb.1; omega, by have := rx.1; omega, by have := ry.1; omega, hn, hm⟩
  have CC : Aside ((w2.cell? ⟨w.heap.size, 1, none⟩ = some (.slice a n ca) ∧ w2.cell? ⟨w1.heap.size, 1, none⟩ = some (.slice b n cb)) ∧ (w2.cell? ⟨w.heap.size, 2, none⟩ = some (.slice x m cx) ∧ w2.cell? ⟨w1.heap.size, 2, none⟩ = some (.slice y m cy))) := ⟨⟨h1.cell 1, h2.cell 1⟩, ⟨h1.cell 2, h2.cell 2⟩⟩
  have KP : Aside (∀ {a' : Value} {na' : Nat} {xa' : List Value} {b' : Value} {nb' : Nat} {xb' : List Value} {x' : Value} {mx' : Nat} {xx' : List Value} {y' : Value} {my' : Nat} {xy' : List Value} {W : World}, MIX w2 W B K a' na' xa' b' nb' xb' x' mx' xx' y' my' xy' → Below B w W ∧ ∀ k, k < w.heap.size → OFF k (.slice a n ca) (.slice b n cb) (.slice x m cx) (.slice y m cy) → W.heap[k]? = w.heap[k]?) := fun h => by
    refine ⟨hb2.trans h.bl, fun k hk ho => ?_⟩
    refine (h.kp k (by omega) (by rw [hK]; exact fun h => h ho)).trans ?_
    rw [← e2, ← e1]
    rw [Below.heap_alloc _ _ _ (by simp; omega), Below.heap_alloc _ _ _ (by omega)]
  have CE : Aside (∀ {a' : Value} {na' : Nat} {xa' : List Value} {b' : Value} {nb' : Nat} {xb' : List Value} {x' : Value} {mx' : Nat} {xx' : List Value} {y' : Value} {my' : Nat} {xy' : List Value} {W : World}, MIX w2 W B K a' na' xa' b' nb' xb' x' mx' xx' y' my' xy' → W.cell? ⟨w.heap.size, 1, none⟩ = some (.slice a n ca) ∧ W.cell? ⟨w1.heap.size, 1, none⟩ = some (.slice b n cb) ∧ W.cell? ⟨w.heap.size, 2, none⟩ = some (.slice x m cx) ∧ W.cell? ⟨w1.heap.size, 2, none⟩ = some (.slice y m cy)) := fun h =>
    ⟨(World.cell?_of_block (w := w2) (by exact h.kp _ HH.out.2.2.1 HH.out.1)).trans CC.out.1.1, (World.cell?_of_block (w := w2) (by exact h.kp _ HH.out.2.2.2.1 HH.out.2.1)).trans CC.out.1.2, (World.cell?_of_block (w := w2) (by exact h.kp _ HH.out.2.2.1 HH.out.1)).trans CC.out.2.1, (World.cell?_of_block (w := w2) (by exact h.kp _ HH.out.2.2.2.1 HH.out.2.1)).trans CC.out.2.2⟩
  have MM : Aside (MIX w2 w2 B K (.slice a n ca) n xa (.slice b n cb) n xb (.slice x m cx) m xx (.slice y m cy) m xy) := M0
  clear hB ra rb rx ry hap hn hm s1 s2 h1 h2 hb2 up off M0 hK
  go_enter Tryz.func11, Tryz.ntmps11
  go_wp2_with fail
  clear e1 e2
  go_loopg [5] n (fun q s5 wx => ∃ j : Nat, s5 = .int .i64 (j : Int) ∧ Aside (j + q = n ∧ MIX w2 wx B K (.slice a n ca) n (OVER xa (.int .u64 201) j) (.slice b n cb) n (OVER xb (.int .u64 202) j) (.slice x m cx) m xx (.slice y m cy) m xy))
  case atStart => exact ⟨0, rfl, by omega, by rw [OVER_zero, OVER_zero]; exact MM.out⟩
  case round =>
    obtain ⟨j, rfl, A⟩ := hrel
    clear MM
    obtain ⟨y1, y2, y3, y4⟩ := CE.out A.out.2
    cases gk with
    | succ q =>
      have hjn : j < n := by have := A.out.1; omega
      have hlt : (j : Int) < (n : Int) := by omega
      obtain ⟨ga, rfl⟩ := own_some A.out.2.ra (by omega)
      obtain ⟨gb, rfl⟩ := own_some A.out.2.rb (by omega)
      have ej : wrap64 ((j : Int) + 1) = ((j + 1 : Nat) : Int) := by have := HH.out.2.2.2.2.2.2.2.2.1; unfold wrap64; omega
      have S1 := OVER_next (u := .int .u64 201) (show j < xa.length by have := HH.out.2.2.2.2.1; omega)
      have S2 := OVER_next (u := .int .u64 202) (show j < xb.length by have := HH.out.2.2.2.2.2.1; omega)
      have NX : Aside (j + 1 + q = n ∧ (OVER xa (.int .u64 201) j).set j (.int .u64 201) = OVER xa (.int .u64 201) (j + 1) ∧ (OVER xb (.int .u64 202) j).set j (.int .u64 202) = OVER xb (.int .u64 202) (j + 1)) := ⟨by have := A.out.1; clear ej; omega, S1, S2⟩
      clear S1 S2
      go_upto_region 4 with fail
      refine apart4 wr w2 B K w.heap.size w1.heap.size HH.out.1 HH.out.2.1 HH.out.2.2.1 HH.out.2.2.2.1 ga gb n ca cb j hjn hlt _ _ _ _ _ _ _ _ CC.out.1.1 CC.out.1.2 A.out.2 (fun _ _ _ _ _ h => h) ?_
      intro w3 h3
      have Z : Aside (j + 1 + q = n ∧ MIX w2 w3 B K (.slice (some ⟨ga, 0, none⟩) n ca) n (OVER xa (.int .u64 201) (j + 1)) (.slice (some ⟨gb, 0, none⟩) n cb) n (OVER xb (.int .u64 202) (j + 1)) (.slice x m cx) m xx (.slice y m cy) m xy) := ⟨NX.out.1, by rw [NX.out.2.1, NX.out.2.2] at h3; exact h3⟩
      clear h3 A NX y1 y2 y3 y4
      dsimp only
      go_wp2_with fail
      go_roundg q
      case measure => exact Nat.lt_succ_self _
      case rel => exact ⟨j + 1, by first | rfl | (rw [ej]), Z.out⟩
    | zero =>
      obtain rfl : j = n := by have := A.out.1; omega
      have hlt : ¬ (j : Int) < (j : Int) := by omega
      have M1 : Aside (MIX w2 wr B K (.slice a j ca) j (OVER xa (.int .u64 201) j) (.slice b j cb) j (OVER xb (.int .u64 202) j) (.slice x m cx) m xx (.slice y m cy) m xy) := A.out.2
      clear A
      go_wp2_with fail
      clear y1 y2 y3 y4
      go_loopg [6] m (fun q s6 wx => ∃ i : Nat, s6 = .int .i64 (i : Int) ∧ Aside (i + q = m ∧ MIX w2 wx B K (.slice a j ca) j (OVER xa (.int .u64 201) j) (.slice b j cb) j (OVER xb (.int .u64 202) j) (.slice x m cx) m (MKP xx 201 i) (.slice y m cy) m (MKP xy 202 i)))
      case atStart => exact ⟨0, rfl, by omega, by rw [MKP_zero, MKP_zero]; exact M1.out⟩
      case round =>
        obtain ⟨i, rfl, A⟩ := hrel
        clear M1
        obtain ⟨y1, y2, y3, y4⟩ := CE.out A.out.2
        cases gk with
        | succ q =>
          have him : i < m := by have := A.out.1; omega
          have hlt2 : (i : Int) < (m : Int) := by omega
          obtain ⟨gx, rfl⟩ := own_some A.out.2.rx (by omega)
          obtain ⟨gy, rfl⟩ := own_some A.out.2.ry (by omega)
          have ei : wrap64 ((i : Int) + 1) = ((i + 1 : Nat) : Int) := by have := HH.out.2.2.2.2.2.2.2.2.2; unfold wrap64; omega
          have NX : Aside (i + 1 + q = m ∧ OVERW (MKP xx 201 i) (i * 32) (CELLS (MK 201)) = MKP xx 201 (i + 1) ∧ OVERW (MKP xy 202 i) (i * 32) (CELLS (MK 202)) = MKP xy 202 (i + 1)) := ⟨by have := A.out.1; clear ei; omega, MKP_next HH.out.2.2.2.2.2.2.1 him 201, MKP_next HH.out.2.2.2.2.2.2.2.1 him 202⟩
          go_upto_region 8 with fail
          refine apart8 wr w2 B K w.heap.size w1.heap.size HH.out.1 HH.out.2.1 HH.out.2.2.1 HH.out.2.2.2.1 gx gy m cx cy i him hlt2 _ _ _ _ _ _ _ _ CC.out.2.1 CC.out.2.2 A.out.2 (fun _ _ _ _ _ h => h) ?_
          intro w3 h3
          have Z : Aside (i + 1 + q = m ∧ MIX w2 w3 B K (.slice a j ca) j (OVER xa (.int .u64 201) j) (.slice b j cb) j (OVER xb (.int .u64 202) j) (.slice (some ⟨gx, 0, none⟩) m cx) m (MKP xx 201 (i + 1)) (.slice (some ⟨gy, 0, none⟩) m cy) m (MKP xy 202 (i + 1))) := ⟨NX.out.1, by rw [NX.out.2.1, NX.out.2.2] at h3; exact h3⟩
          clear h3 A NX y1 y2 y3 y4
          dsimp only
          generalize (CELLS (MK 201)).toArray = U1
          generalize (CELLS (MK 202)).toArray = U2
          go_wp2_with fail
          go_roundg q
          case measure => exact Nat.lt_succ_self _
          case rel => exact ⟨i + 1, by first | rfl | (rw [ei]), Z.out⟩
        | zero =>
          obtain rfl : i = m := by have := A.out.1; omega
          have hlt2 : ¬ (i : Int) < (i : Int) := by omega
          have M2 : Aside (MIX w2 wr B K (.slice a j ca) j (OVER xa (.int .u64 201) j) (.slice b j cb) j (OVER xb (.int .u64 202) j) (.slice x i cx) i (CELLS (MKS 201 i)) (.slice y i cy) i (CELLS (MKS 202 i))) := by
            have h3 := A.out.2
            rw [MKP_all HH.out.2.2.2.2.2.2.1, MKP_all HH.out.2.2.2.2.2.2.2.1] at h3
            exact h3
          clear A
          go_upto_region 9 with fail
          clear y1 y2 y3 y4
          refine apart9 wr w2 B K w.heap.size w1.heap.size HH.out.1 HH.out.2.1 HH.out.2.2.1 HH.out.2.2.2.1 a b j ca cb (by have := HH.out.2.2.2.2.2.2.2.2.1; omega) _ _ _ _ _ _ _ _ CC.out.1.1 CC.out.1.2 M2.out (fun _ _ _ _ _ h => h) ?_
          intro z1 g1 q1 z2 g2 q2 w3 ⟨h3, _, _⟩
          have M3 : Aside (MIX w2 w3 B K (.slice (some ⟨g1, 0, none⟩) (j + 1) q1) (j + 1) (List.replicate (j + 1) (.int .u64 201)) (.slice (some ⟨g2, 0, none⟩) (j + 1) q2) (j + 1) (List.replicate (j + 1) (.int .u64 202)) (.slice x i cx) i (CELLS (MKS 201 i)) (.slice y i cy) i (CELLS (MKS 202 i))) := by
            rw [OVER_grow HH.out.2.2.2.2.1, OVER_grow HH.out.2.2.2.2.2.1] at h3
            exact h3
          clear h3 M2
          dsimp only
          go_upto_region 10 with fail
          refine apart10 w3 w2 B K w.heap.size w1.heap.size HH.out.1 HH.out.2.1 HH.out.2.2.1 HH.out.2.2.2.1 x y i cx cy (by have := HH.out.2.2.2.2.2.2.2.2.2; omega) _ _ _ _ _ _ _ _ CC.out.2.1 CC.out.2.2 M3.out (fun _ _ _ _ _ h => h) ?_
          intro z3 g3 q3 z4 g4 q4 w4 ⟨h4, _, _⟩
          have M4 : Aside (MIX w2 w4 B K (.slice (some ⟨g1, 0, none⟩) (j + 1) q1) (j + 1) (List.replicate (j + 1) (.int .u64 201)) (.slice (some ⟨g2, 0, none⟩) (j + 1) q2) (j + 1) (List.replicate (j + 1) (.int .u64 202)) (.slice (some ⟨g3, 0, none⟩) (i + 1) q3) (i + 1) (CELLS (MKS 201 (i + 1))) (.slice (some ⟨g4, 0, none⟩) (i + 1) q4) (i + 1) (CELLS (MKS 202 (i + 1)))) := by
            rw [← CELLS_append, ← CELLS_append] at h4
            exact h4
          have FN : Aside (Below B w w4 ∧ ∀ k, k < w.heap.size → OFF k (.slice a j ca) (.slice b j cb) (.slice x i cx) (.slice y i cy) → w4.heap[k]? = w.heap[k]?) := KP.out M4.out
          have R4 : Aside (w4.ownsRow B 23 1 (.slice (some ⟨g1, 0, none⟩) (j + 1) q1) (j + 1) (List.replicate (j + 1) (.int .u64 201)) ∧ w4.ownsRow B 23 1 (.slice (some ⟨g2, 0, none⟩) (j + 1) q2) (j + 1) (List.replicate (j + 1) (.int .u64 202)) ∧ w4.ownsRow B 38 32 (.slice (some ⟨g3, 0, none⟩) (i + 1) q3) (i + 1) (CELLS (MKS 201 (i + 1))) ∧ w4.ownsRow B 38 32 (.slice (some ⟨g4, 0, none⟩) (i + 1) q4) (i + 1) (CELLS (MKS 202 (i + 1))) ∧ j ≤ 90000 ∧ i ≤ 90000) := ⟨M4.out.ra, M4.out.rb, M4.out.rx, M4.out.ry, HH.out.2.2.2.2.2.2.2.2.1, HH.out.2.2.2.2.2.2.2.2.2⟩
          clear h4 M3 M4 KP CE CC HH
          dsimp only
          generalize (CELLS (MK 201)).toArray = U1
          generalize (CELLS (MK 202)).toArray = U2
          go_wp2_with fail
          go_loopg [11] (j + 1) (fun q s11 wx => ∃ t : Nat, s11 = .int .i64 (t : Int) ∧ Aside (t + q = j + 1) ∧ wx = w4)
          case atStart => exact ⟨0, rfl, by show 0 + (j + 1) = j + 1; omega, rfl⟩
          case round =>
            obtain ⟨t, rfl, A, rfl⟩ := hrel
            cases gk with
            | succ q =>
              have hlt3 : (t : Int) < (j : Int) + 1 := by have := A.out; omega
              have hltn : t < j + 1 := by have := A.out; omega
              have z1 : wr.cell? ⟨g1, t, none⟩ = some (.int .u64 201) := by
                have := R4.out.1.cellAt t (by omega)
                rw [this, List.getElem?_replicate, if_pos hltn]
              have z2 : wr.cell? ⟨g2, t, none⟩ = some (.int .u64 202) := by
                have := R4.out.2.1.cellAt t (by omega)
                rw [this, List.getElem?_replicate, if_pos hltn]
              have et : wrap64 ((t : Int) + 1) = ((t + 1 : Nat) : Int) := by have := R4.out.2.2.2.2.1; unfold wrap64; omega
              have Z : Aside (t + 1 + q = j + 1) := by have := A.out; show t + 1 + q = j + 1; clear et; omega
              clear A hltn
              go_wp2_with fail
              go_roundg q
              case measure => exact Nat.lt_succ_self _
              case rel => exact ⟨t + 1, by first | rfl | (rw [et]), Z.out, rfl⟩
            | zero =>
              have ht : (t : Int) = (j : Int) + 1 := by have := A.out; omega
              have hlt3 : ¬ (t : Int) < (j : Int) + 1 := by omega
              have hlt4 : ¬ t < j + 1 := by omega
              clear A ht
              go_wp2_with fail
              go_loopg [12] (i + 1) (fun q s12 wx => ∃ t : Nat, s12 = .int .i64 (t : Int) ∧ Aside (t + q = i + 1) ∧ wx = wr)
              case atStart => exact ⟨0, rfl, by show 0 + (i + 1) = i + 1; omega, rfl⟩
              case round =>
                obtain ⟨t, rfl, A, rfl⟩ := hrel
                cases gk with
                | succ q =>
                  have hlt5 : (t : Int) < (i : Int) + 1 := by have := A.out; omega
                  have hltn : t < i + 1 := by have := A.out; omega
                  have ht1 : wr.rangeAt g3 (t * 32) (CELLS (MK 201)) := fun u v hv => by
                    have hu : u < 32 := (List.getElem?_eq_some_iff.1 hv).1
                    have := R4.out.2.2.1.cellAt (t * 32 + u) (by omega)
                    rw [this, CELLS_get _ _ (by rw [MKS_length]; omega), show t * 32 + u = 32 * t + u by omega, ← HSH_at hu, MKS_at 201 hltn, ← hv, CELLS_get _ _ (by rw [MK_length]; exact hu)]
                  have ht2 : wr.rangeAt g4 (t * 32) (CELLS (MK 202)) := fun u v hv => by
                    have hu : u < 32 := (List.getElem?_eq_some_iff.1 hv).1
                    have := R4.out.2.2.2.1.cellAt (t * 32 + u) (by omega)
                    rw [this, CELLS_get _ _ (by rw [MKS_length]; omega), show t * 32 + u = 32 * t + u by omega, ← HSH_at hu, MKS_at 202 hltn, ← hv, CELLS_get _ _ (by rw [MK_length]; exact hu)]
                  have nq1 : ∀ x y (W : World), (do eqGuard .neq 38 x y (.agg (CELLS (MK 201)).toArray) (.agg (CELLS (MK 201)).toArray); binOp .neq 38 (.agg (CELLS (MK 201)).toArray) (.agg (CELLS (MK 201)).toArray) : Sem Value).run Tryz.prog W = .ok (.bool false) W := fun x y W => neq_cells (MK 201) (MK_length 201) x y W
                  have nq2 : ∀ x y (W : World), (do eqGuard .neq 38 x y (.agg (CELLS (MK 202)).toArray) (.agg (CELLS (MK 202)).toArray); binOp .neq 38 (.agg (CELLS (MK 202)).toArray) (.agg (CELLS (MK 202)).toArray) : Sem Value).run Tryz.prog W = .ok (.bool false) W := fun x y W => neq_cells (MK 202) (MK_length 202) x y W
                  have et : wrap64 ((t : Int) + 1) = ((t + 1 : Nat) : Int) := by have := R4.out.2.2.2.2.2; unfold wrap64; omega
                  have Z : Aside (t + 1 + q = i + 1) := by have := A.out; show t + 1 + q = i + 1; clear et; omega
                  clear A hltn
                  go_wp2_with (first
                    | (refine wpList_load_mid rfl 38 (.tmp 103) rfl g3 (t * 32) rfl (CELLS (MK 201)) _ ht1 Tryz.underlying38 rfl (info_cells (MK_length 201)) ?_)
                    | (refine load_mid_if (by rfl) 38 (.tmp 110) rfl g4 (t * 32) rfl (CELLS (MK 202)) _ ht2 Tryz.underlying38 rfl (info_cells (MK_length 202)) ?_)
                    | (rw [← MK_arr 201]; refine wpList_plain rfl (fun K hK => step_pure (run_value (nq1 _ _ _)) (hK _ _ ?_)))
                    | (rw [← MK_arr 202]; refine plain_if (by rfl) (run_value (nq2 _ _ _)) ?_))
                  go_roundg q
                  case measure => exact Nat.lt_succ_self _
                  case rel => exact ⟨t + 1, by first | rfl | (rw [et]), Z.out, rfl⟩
                | zero =>
                  have ht : (t : Int) = (i : Int) + 1 := by have := A.out; omega
                  have hlt5 : ¬ (t : Int) < (i : Int) + 1 := by omega
                  have hlt6 : ¬ t < i + 1 := by omega
                  clear A ht
                  go_wp2_with fail
                  go_ret
                  exact ⟨rfl, FN.out⟩
end Go.Proofs.YtlicfinmibbpdaaGreatDoor

/- Two lists of numbers that are alike, wherever they lie; is what was handed in as it was? -/
namespace Go.Proofs.YtlicfinmibbpdaaGreatDoor
open Go.RowKit
set_option maxRecDepth 100000

set_option maxHeartbeats 1000000 in
theorem stays_ok (g n cap : Nat) (b : Option Addr) (cb : Nat) (L : List Nat) (hl : L.length = n) (hn : n ≤ 2 ^ 20) (hc : n + 1 ≤ cap) (w : World) (hA : NUML w (some ⟨g, 0, none⟩) L) (hB : NUML w b L) (hg : g < w.heap.size) (hm : w.cell? ⟨g, n, none⟩ = some (.int .u64 171)) :
    Calls Tryz.prog 12 #[.slice (some ⟨g, 0, none⟩) n cap, .slice b n cb] w fun e w' => e = .returned (.bool true) ∧ Below w.heap.size w w' := by
  have cs := samenuml_ok (some ⟨g, 0, none⟩) b n cap cb L hl (by omega) w hA hB
  have e1 : wrap64 ((n : Int) + 1) = ((n + 1 : Nat) : Int) := by unfold wrap64; omega
  have k1 : (n : Int) + 1 ≤ (cap : Int) := by omega
  have k2 : (n : Int) < (n : Int) + 1 := by omega
  have HM : Aside (g < w.heap.size ∧ w.cell? ⟨g, n, none⟩ = some (.int .u64 171)) := ⟨hg, hm⟩
  clear hl hn hA hB hg hm
  go_enter Tryz.func12, Tryz.ntmps12
  go_wp2_with fail
  refine cs.mono ?_
  rintro e w1 ⟨rfl, hb1⟩
  have x0 : w1.cell? ⟨g, n, none⟩ = some (.int .u64 171) := (hb1.cell (p := ⟨g, n, none⟩) HM.out.1).trans HM.out.2
  have FN : Aside (Below w.heap.size w w1) := hb1
  clear cs hb1 HM
  go_wp2_with fail
  go_ret
  exact ⟨rfl, FN.out⟩
end Go.Proofs.YtlicfinmibbpdaaGreatDoor

/- Are hashes, are bytes that were handed in as they were? -/
namespace Go.Proofs.YtlicfinmibbpdaaGreatDoor
open Go.RowKit
set_option maxRecDepth 100000

set_option maxHeartbeats 1000000 in
theorem kept10_ok (g n cap : Nat) (y : Option Addr) (cy : Nat) (l : List Int) (hn : n ≤ 1000) (hc : n + 1 ≤ cap) (w : World) (hA : Flat w (some ⟨g, 0, none⟩) n l) (hB : Flat w y n l) (hg : g < w.heap.size) (hm : w.rangeAt g (n * 32) (CELLS MRK)) :
    Calls Tryz.prog 13 #[.slice (some ⟨g, 0, none⟩) n cap, .slice y n cy] w fun e w' => e = .returned (.bool true) ∧ Below w.heap.size w w' := by
  have cs := samehashes_ok (some ⟨g, 0, none⟩) y n n cap cy l l w hA hB (by omega)
  rw [decide_eq_true rfl] at cs
  have e1 : wrap64 ((n : Int) + 1) = ((n + 1 : Nat) : Int) := by unfold wrap64; omega
  have k0 : ((n + 1 : Nat) : Int) ≤ (cap : Int) := by omega
  have k1 : (n : Int) + 1 ≤ (cap : Int) := by omega
  have k2 : (n : Int) < (n : Int) + 1 := by omega
  have HM : Aside (g < w.heap.size ∧ w.rangeAt g (n * 32) (CELLS MRK)) := ⟨hg, hm⟩
  have hnq : ∀ x y (W : World), (do eqGuard .eql 38 x y (.agg (CELLS MRK).toArray) (.agg (CELLS MRK).toArray); binOp .eql 38 (.agg (CELLS MRK).toArray) (.agg (CELLS MRK).toArray) : Sem Value).run Tryz.prog W = .ok (.bool true) W := fun x y W => by
    have := eql_hashes (h := MRK) (g := MRK) rfl rfl x y W
    rw [this]
    simp
  clear hn hA hB hg hm
  go_enter Tryz.func13, Tryz.ntmps13
  go_wp2_with fail
  refine cs.mono ?_
  rintro e w1 ⟨rfl, hb1⟩
  have hr1 : w1.rangeAt g (n * 32) (CELLS MRK) := range_below HM.out.2 hb1 HM.out.1
  have FN : Aside (Below w.heap.size w w1) := hb1
  clear cs hb1 HM
  go_wp2_with (first
    | (refine load_mid_if (by rfl) 38 (.tmp 16) rfl g (n * 32) rfl (CELLS MRK) _ hr1 Tryz.underlying38 rfl (info_cells rfl) ?_)
    | (rw [← MRK_arr]; refine plain_if (by rfl) (run_value (hnq _ _ _)) ?_))
  go_ret
  exact ⟨rfl, FN.out⟩
/-- two lists of bytes of one's own, neither in the other's block. -/
structure BPAIR (w0 w : World) (B : Nat) (a : Value) (na : Nat) (xa : List Value) (b : Value) (nb : Nat) (xb : List Value) : Prop where
  ra : w.ownsRow B 5 1 a na xa
  rb : w.ownsRow B 5 1 b nb xb
  ap : ∀ g, a.ownBlock = some g → b.ownBlock ≠ some g
  bl : Below B w0 w
  bs : B ≤ w0.heap.size
theorem BPAIR.step {w0 w w' : World} {B : Nat} {a : Value} {na : Nat} {xa : List Value} {b : Value} {nb : Nat} {xb : List Value} (h : BPAIR w0 w B a na xa b nb xb) {a' : Value} {na' : Nat} {xa' : List Value} (hown : w'.ownsRow B 5 1 a' na' xa') (hg : w.grownBy w' a.ownBlock) (hat : ∀ g, a'.ownBlock = some g → a.ownBlock = some g ∨ w.heap.size ≤ g) : BPAIR w0 w' B a' na' xa' b nb xb := by
  refine ⟨hown, own_off h.rb hg h.ap, fun g e1 e2 => ?_, h.bl.grown hg (Nat.le_trans h.bs h.bl.size) (fun k e => (h.ra.lt k e).1), h.bs⟩
  rcases hat g e1 with h1 | h1
  · exact h.ap g h1 e2
  · have := (h.rb.lt g e2).2
    omega
theorem BPAIR.alloc {w0 w : World} {B : Nat} {a : Value} {na : Nat} {xa : List Value} {b : Value} {nb : Nat} {xb : List Value} (h : BPAIR w0 w B a na xa b nb xb) (o : Obj) : BPAIR w0 (w.alloc o) B a na xa b nb xb := ⟨own_alloc h.ra o, own_alloc h.rb o, h.ap, h.bl.alloc (Nat.le_trans h.bs h.bl.size) o, h.bs⟩
end Go.Proofs.YtlicfinmibbpdaaGreatDoor
