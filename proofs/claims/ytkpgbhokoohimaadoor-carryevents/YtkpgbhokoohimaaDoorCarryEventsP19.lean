/- Texts of CarryEvents, one behind the other: CarryRefuse, CarryGrowPlain. -/
import Derived.BigQuiet
import Derived.Test.YtkpgbhokoohimaaDoorCarryEventsP9
import Derived.Test.YtkpgbhokoohimaaDoorCarryEventsP16
import Derived.Test.YtkpgbhokoohimaaDoorCarryEventsP18
/- Which events are refused. -/
namespace Go.Proofs.YtkpgbhokoohimaaDoor
open Go.RowKit
set_option maxRecDepth 100000

/-- what refuse answers. -/
def RFS (S X : Nat) (l P : List Int) : Int := if X ≠ S then 120 else if S = 4611686018427387904 then 54 else if l ≠ P then 121 else 0
set_option maxHeartbeats 4000000 in
theorem refuse_ok (b S X : Nat) (leaf : List Int) (hl : leaf.length = 32) (pa : Option Addr) (np pc : Nat) (P : List Int) (a : Option Addr) (n c : Nat) (l : List Int) (hn : n ≤ 1000000) (w : World) (h1 : w.cell? ⟨b,1,none⟩ = some (.int .u64 (S : Int))) (h2 : w.cell? ⟨b,2,none⟩ = some (.slice pa np pc)) (hP : Flat w pa np P) (hF : Flat w a n l) :
    Calls Tryd.prog 37 #[.pointer (some ⟨b,0,none⟩),.agg (EVT X leaf (.slice a n c))] w fun e w' => e = .returned (.int .i64 (RFS S X l P)) ∧ Below w.heap.size w w' := by
  obtain ⟨W0,hW0⟩ : ∃ W0,w.alloc (.cells (EVT X leaf (.slice a n c)) 27) = W0 := ⟨_,rfl⟩
  obtain ⟨be,hbe⟩ : ∃ be,w.heap.size = be := ⟨_,rfl⟩
  have R0 : Aside (Below w.heap.size w W0) := by rw [← hW0]; exact (Below.refl _ _).alloc (Nat.le_refl _) _
  obtain ⟨y0,_,y2⟩ : W0.cell? ⟨be,0,none⟩ = some (.int .u64 (X : Int)) ∧ W0.rangeAt be 1 (CELLS leaf) ∧ W0.cell? ⟨be,33,none⟩ = some (.slice a n c) := EVT_at (by rw [← hW0, ← hbe]; exact Has.new _ _ _) hl
  have x1 : W0.cell? ⟨b,1,none⟩ = some (.int .u64 (S : Int)) := (R0.out.cell (p := ⟨b,1,none⟩) (World.block_lt_of_cell? w _ h1)).trans h1
  have x2 : W0.cell? ⟨b,2,none⟩ = some (.slice pa np pc) := (R0.out.cell (p := ⟨b,2,none⟩) (World.block_lt_of_cell? w _ h2)).trans h2
  have HF : Aside (Flat W0 pa np P ∧ Flat W0 a n l ∧ n ≤ 1000000) := ⟨hP.below R0.out,hF.below R0.out,hn⟩
  have HV : Aside ((¬ X = S → RFS S X l P = 120) ∧ (X = S → S = 4611686018427387904 → RFS S X l P = 54) ∧ (X = S → ¬ S = 4611686018427387904 → ¬ l = P → RFS S X l P = 121) ∧ (X = S → ¬ S = 4611686018427387904 → l = P → RFS S X l P = 0)) := by
    unfold RFS
    exact ⟨fun h => if_pos h,fun h h2 => by rw [if_neg (by simpa using h),if_pos h2],fun h h2 h3 => by rw [if_neg (by simpa using h),if_neg h2,if_pos h3],fun h h2 h3 => by rw [if_neg (by simpa using h),if_neg h2,if_neg (by simpa using h3)]⟩
  generalize RFS S X l P = V at *
  clear h1 h2 hP hF hn hl
  go_enter Tryd.func37,Tryd.ntmps37
  go_upto_region 1 with fail
  clear hW0 hbe
  by_cases hX : X = S
  · subst hX
    go_big_quiet (fail)
    have R1 : Aside (Below w.heap.size w (W0.drewN nq)) := below_drewN R0.out nq
    have z1 : (W0.drewN nq).cell? ⟨b,1,none⟩ = some (.int .u64 (X : Int)) := x1
    have z2 : (W0.drewN nq).cell? ⟨b,2,none⟩ = some (.slice pa np pc) := x2
    have z3 : (W0.drewN nq).cell? ⟨be,33,none⟩ = some (.slice a n c) := y2
    have HF1 : Aside (Flat (W0.drewN nq) pa np P ∧ Flat (W0.drewN nq) a n l ∧ n ≤ 1000000) := HF.out
    generalize W0.drewN nq = W1 at *
    clear x1 x2 y0 y2 HF R0
    by_cases hS : X = 4611686018427387904
    · have hV : Aside (V = 54) := HV.out.2.1 rfl hS
      have hq : ((X : Int) == 4611686018427387904) = true := by rw [hS]; rfl
      clear hS HV HF1
      go_wp2_with fail
      go_ret
      exact ⟨by rw [hV.out]; rfl,R1.out⟩
    · have hq : ((X : Int) == 4611686018427387904) = false := beq_eq_false_iff_ne.2 (by omega)
      have HV2 : Aside ((¬ l = P → V = 121) ∧ (l = P → V = 0)) := ⟨HV.out.2.2.1 rfl hS,HV.out.2.2.2 rfl hS⟩
      have Z : Aside (∀ W,Below W1.heap.size W1 W → W.cell? ⟨be,33,none⟩ = some (.slice a n c) ∧ W.cell? ⟨b,2,none⟩ = some (.slice pa np pc)) := fun W hb => ⟨(hb.cell (p := ⟨be,33,none⟩) (World.block_lt_of_cell? W1 _ z3)).trans z3,(hb.cell (p := ⟨b,2,none⟩) (World.block_lt_of_cell? W1 _ z2)).trans z2⟩
      have CE : Aside (∀ W,Below W1.heap.size W1 W → Calls Tryd.prog 44 #[.slice a n c,.slice pa np pc] W fun e w' => e = .returned (.bool (decide (l = P))) ∧ Below W1.heap.size W1 w') := fun W hb => (equalhashes_ok a pa n np c pc l P W (HF1.out.2.1.below hb) (HF1.out.1.below hb) HF1.out.2.2).mono fun e w' h => ⟨h.1,hb.trans (h.2.mono hb.size)⟩
      clear hS HV HF1 z2 z3
      go_upto_region 5 with fail
      clear z1 hq
      obtain ⟨D,hD⟩ : ∃ D,decide (l = P) = D := ⟨_,rfl⟩
      rw [hD] at CE
      refine refuse5 _ b be pa np pc a n c D (fun W => Below W1.heap.size W1 W) (fun W => Below W1.heap.size W1 W) (Below.refl _ _).drew Z.out Z.out CE.out (fun _ _ _ _ _ h => h) ?_
      intro w2 hb2
      have R2 : Aside (Below w.heap.size w w2) := R1.out.trans (hb2.mono R1.out.size)
      clear hb2 R1 CE Z
      cases D with
      | true =>
        have hV : Aside (V = 0) := HV2.out.2 (of_decide_eq_true hD)
        clear hD HV2
        go_wp2_with fail
        go_ret
        exact ⟨by rw [hV.out]; rfl,R2.out⟩
      | false =>
        have hV : Aside (V = 121) := HV2.out.1 (of_decide_eq_false hD)
        clear hD HV2
        go_wp2_with fail
        go_ret
        exact ⟨by rw [hV.out]; rfl,R2.out⟩
  · have hV : Aside (V = 120) := HV.out.1 hX
    have hq : ((X : Int) == (S : Int)) = false := beq_eq_false_iff_ne.2 (by omega)
    clear hX HV HF
    go_big_quiet (fail)
    have R1 : Aside (Below w.heap.size w (W0.drewN nq)) := below_drewN R0.out nq
    generalize W0.drewN nq = W1 at *
    clear x1 x2 y0 y2 R0
    go_wp2_with fail
    go_ret
    exact ⟨by rw [hV.out]; rfl,R1.out⟩
end Go.Proofs.YtkpgbhokoohimaaDoor

/- What an append puts together, in plain lists; parts of lists of hashes. -/
namespace Go.Proofs.YtkpgbhokoohimaaDoor
open Go.RowKit
set_option maxRecDepth 100000

/-- where s[k:] of hashes begins. -/
def SLA (a : Option Addr) (c k : Nat) : Option Addr := match a with
  | none => none
  | some ad => if c = k then some ad else some ⟨ad.block,ad.off + k * 32,none⟩
theorem slice_hashes (b off n c k : Nat) (hk : k ≤ n) (hc : n ≤ c) (w : World) : (Instr.slice 25 (.slice (some ⟨b,off,none⟩) n c) (some (.int .i64 (k : Int))) none none).run Tryd.prog w = .ok (.slice (SLA (some ⟨b,off,none⟩) c k) (n - k) (c - k)) w := by
  have k1 : (k : Int) ≤ (n : Int) := by omega
  by_cases e : c = k
  · obtain rfl : n = c := by omega
    subst e
    simp [SLA,go_sem]
  · simp [SLA,e,go_sem,k1,Addr.add]
theorem slice_none (w : World) : (Instr.slice 25 (.slice none 0 0) (some (.int .i64 ((0 : Nat) : Int))) none none).run Tryd.prog w = .ok (.slice (SLA none 0 0) 0 0) w := by simp [SLA,go_sem]
theorem Flat.behind {w : World} {a : Option Addr} {n c : Nat} {l : List Int} (h : Flat w a n l) (k : Nat) (hk : k ≤ n) (hc : n ≤ c) : Flat w (SLA a c k) (n - k) (l.drop (32 * k)) := by
  refine ⟨by rw [List.length_drop,h.1]; omega,fun h0 => ?_,fun x hx => h.2.2 x (List.mem_of_mem_drop hx)⟩
  obtain ⟨b,o,rfl,hb,hcs⟩ := h.2.1 (by omega)
  have hck : ¬ c = k := by omega
  refine ⟨b,o + k * 32,by simp [SLA,hck],hb,fun j hj => ?_⟩
  rw [show o + k * 32 + j = o + (32 * k + j) by omega,hcs (32 * k + j) (by omega)]
  congr 2
  rw [List.getD_eq_getElem?_getD,List.getD_eq_getElem?_getD,List.getElem?_drop]
/-- hashes the other way round. -/
def REVH (t : Nat) (l : List Int) : List Int := (List.range t).flatMap fun h => HSH l (t - 1 - h)
theorem REVH_few {t : Nat} {l : List Int} (ht : t ≤ 1) (hl : l.length = 32 * t) : REVH t l = l := by
  rcases Nat.lt_or_ge t 1 with h | h
  · obtain rfl : t = 0 := by omega
    rw [List.eq_nil_of_length_eq_zero hl]
    rfl
  · obtain rfl : t = 1 := by omega
    simp [REVH,HSH]
    exact List.take_of_length_le (by omega)
/-- the node of height h over the new leaf. -/
def MDF (d : Int) (leaf LR : List Int) : Nat → List Int
  | 0 => leaf
  | h + 1 => NODEH d (HSH LR h) (MDF d leaf LR h)
/-- the new leaf and the nodes over it up to height h. -/
def MDS (d : Int) (leaf LR : List Int) : Nat → List Int
  | 0 => leaf
  | h + 1 => MDS d leaf LR h ++ MDF d leaf LR (h + 1)
theorem MDF_is {d : Int} {leaf LR : List Int} (hl : IsH leaf) : ∀ h,IsH (MDF d leaf LR h)
  | 0 => hl
  | _ + 1 => NODEH_is _ _ _
theorem MDS_length {d : Int} {leaf LR : List Int} (hl : IsH leaf) : ∀ h,(MDS d leaf LR h).length = 32 * (h + 1)
  | 0 => hl.1
  | h + 1 => by rw [MDS,List.length_append,MDS_length hl h,(MDF_is hl (h + 1)).1]; omega
theorem MDS_at {d : Int} {leaf LR : List Int} (hl : IsH leaf) : ∀ h i,i ≤ h → HSH (MDS d leaf LR h) i = MDF d leaf LR i
  | 0,i,hi => by
    obtain rfl : i = 0 := by omega
    show (leaf.drop 0).take 32 = leaf
    exact List.take_of_length_le (by rw [List.length_drop,hl.1]; omega)
  | h + 1,i,hi => by
    unfold HSH
    rw [MDS]
    by_cases e : i ≤ h
    · rw [List.drop_append_of_le_length (by rw [MDS_length hl h]; omega),List.take_append_of_le_length (by rw [List.length_drop,MDS_length hl h]; omega)]
      exact MDS_at hl h i e
    · obtain rfl : i = h + 1 := by omega
      rw [List.drop_append,List.drop_of_length_le (by rw [MDS_length hl h]; omega),List.nil_append,MDS_length hl h,Nat.sub_self,List.drop_zero]
      exact List.take_of_length_le (by rw [(MDF_is hl (h + 1)).1]; omega)
/-- a row of hashes: its i-th. -/
theorem own_hash {w : World} {B n : Nat} {g c : Nat} {l : List Int} (h : w.ownsRow B 24 32 (.slice (some ⟨g,0,none⟩) n c) n (CELLS l)) {i : Nat} (hi : i < n) (hl : l.length = 32 * n) : w.rangeAt g (i * 32) (CELLS (HSH l i)) := by
  intro j v hv
  have hj : j < 32 := by
    have := (List.getElem?_eq_some_iff.1 hv).1
    rw [show (CELLS (HSH l i)).length = 32 by simp [CELLS,HSH_length hl hi]] at this
    exact this
  rw [CELLS_get _ _ (by rw [HSH_length hl hi]; exact hj),HSH_at hj] at hv
  have := h.cellAt (i * 32 + j) (by omega)
  rw [this,CELLS_get _ _ (by omega),show i * 32 + j = 32 * i + j by omega]
  exact hv
theorem own_first {w : World} {B n m : Nat} {a : Option Addr} {c : Nat} {l : List Int} (h : w.ownsRow B 24 32 (.slice a n c) n (CELLS l)) (hm : m ≤ n) : w.ownsRow B 24 32 (.slice a m c) m (CELLS (l.take (32 * m))) := by
  have hl : l.length = 32 * n := by have := h.1; simp [CELLS] at this; omega
  refine ⟨by simp [CELLS,List.length_take]; omega, ?_⟩
  rcases h.2 with ⟨e,h0⟩ | ⟨g,cap,cur,e,hb,hg,h1,h2,h3,h4⟩
  · cases e
    exact .inl ⟨by rw [show m = 0 by omega],by omega⟩
  · cases e
    refine .inr ⟨g,_,cur,rfl,hb,hg,by omega,h2,h3, ?_⟩
    have h5 := congrArg (List.take (m * 32)) h4
    rw [List.take_take,show min (m * 32) (n * 32) = m * 32 by omega] at h5
    rw [h5]
    simp [CELLS,List.map_take,Nat.mul_comm]
end Go.Proofs.YtkpgbhokoohimaaDoor
