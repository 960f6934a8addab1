/- Texts of CarryEvents, one behind the other: CarryDecode, CarrySame, CarryAwakePlain. -/
import Derived.Test.YtkpgbhokoohimaaDoorCarryEventsP8
import Derived.Test.YtkpgbhokoohimaaDoorCarryEventsP23
import Derived.Test.YtkpgbhokoohimaaDoorCarryEventsP25
import Derived.Test.YtkpgbhokoohimaaDoorCarryEventsP26
/- What bytes read as: an event. -/
namespace Go.Proofs.YtkpgbhokoohimaaDoor
open Go.RowKit
set_option maxRecDepth 100000

/-- an error, the size, the bytes of the leaf and of the peaks, how many peaks. -/
abbrev EANS := Int × Nat × List Int × Nat × List Int
def EERR (E : Int) : EANS := (E,0,ZND,0, [])
/-- what is behind the size. -/
def ED2 (X : Nat) (t : List Int) : EANS := if t.length < 32 * (1 + POP X) then EERR 11 else if 32 * (1 + POP X) < t.length then EERR 13 else (0,X,t.take 32,POP X,t.drop 32)
def ED1 (t : List Int) : EANS := if (LNG t).2.2 ≠ 0 then EERR (LNG t).2.2 else if 4611686018427387904 ≤ (LNG t).1.toNat then EERR 30 else ED2 (LNG t).1.toNat (t.drop (LNG t).2.1.toNat)
/-- what DecodeEvent answers. -/
def EVD (l : List Int) : EANS := if l.length = 0 then EERR 11 else if l.getD 0 0 ≠ 69 then EERR 14 else ED1 (l.drop 1)
/-- peaks that are nobody else's, behind a first hash in their block, with no room behind them. -/
def MPK (w : World) (B : Nat) (a : Option Addr) (n c : Nat) (xs : List Int) : Prop := (n = 0 ∧ c = 0) ∨ (0 < n ∧ c = n ∧ ∃ b H,a = some ⟨b,32,none⟩ ∧ B ≤ b ∧ H.length = 32 ∧ Has w b (CELLS (H ++ xs)).toArray 24)
/-- an event is answered, and an error; its peaks are its own. -/
def ANSP (w : World) (A : EANS) (e : Ending) (w' : World) : Prop :=
  ∃ a c,e = .returned (.tuple #[.agg (EVT A.2.1 A.2.2.1 (.slice a A.2.2.2.1 c)),.int .i64 A.1]) ∧ Flat w' a A.2.2.2.1 A.2.2.2.2 ∧ (a = none → c = 0) ∧ Below w.heap.size w w' ∧ MPK w' w.heap.size a A.2.2.2.1 c A.2.2.2.2
theorem results_event {fn : Func} {p q : Tmp} {ty : TypeId} (h : fn.results = #[.cell p ty,.tmp q]) (tmps : Array Value) (w : World) (g : Nat) (t : TypeId) (cs : Array Value) (fr : Nat × Nat) (fs : Array Field)
    (hp : tmps.getD p undef = .pointer (some ⟨g,0,none⟩)) (hg : w.heap[g]? = some (.cells cs t fr)) (v : Value) (hq : tmps.getD q undef = v)
    (hu : Tryd.prog.underlying ty = some (.struct fs)) (hi : (Tryd.prog.info? ty).map (·.size) = some cs.size) :
    (results fn tmps).run Tryd.prog w = .ok (.tuple #[.agg cs,v]) w := by
  have hp' : tmps[p]?.getD undef = .pointer (some ⟨g,0,none⟩) := by simpa using hp
  have hq' : tmps[q]?.getD undef = v := by simpa using hq
  simp [results,h,hp',hq',asAddr,run_loadVar_row w g t ty cs fr (.struct fs) hg hu rfl hi]
theorem zero_event : ∃ ZE : Array Value,EVT 0 ZND (.slice none 0 0) = ZE ∧ (∀ w,(zeroValue 27).run Tryd.prog w = .ok (.agg ZE) w) ∧ (∀ w,(Instr.build 27 #[]).run Tryd.prog w = .ok (.agg ZE) w) ∧ (Tryd.prog.info? 27).map (·.size) = some ZE.size ∧ ZE.all (·.oneCell') = true :=
  ⟨_,rfl,fun _ => by kernel_rfl,fun w => run_build (P := Tryd.prog) w 27 #[] _ (by kernel_rfl),info_event' _ _ rfl _,event_one _ _ _ _ _⟩
set_option maxHeartbeats 800000 in
theorem decodeevent_own (a : Option Addr) (n c : Nat) (hc : n ≤ c) (hn : n ≤ 1000000) (l : List Int) (w : World) (hB : Bytes w a n l) :
    Calls Tryd.prog 11 #[.slice a n c] w (ANSP w (EVD l)) := by
  obtain ⟨ZE,eZ,hz,hbu,hi,hone⟩ := zero_event
  have HZ : Aside (EVT 0 ZND (.slice none 0 0) = ZE ∧ (∀ E w',Below w.heap.size w w' → ANSP w (EERR E) (.returned (.tuple #[.agg ZE,.int .i64 E])) w')) := ⟨eZ,fun E w' h => ⟨none,0,by rw [← eZ]; rfl,⟨rfl,fun h => absurd h (Nat.lt_irrefl 0),fun x hx => by simp [EERR] at hx⟩,fun _ => rfl,h,.inl ⟨rfl,rfl⟩⟩⟩
  have HV : Aside ((l.length = 0 → EVD l = EERR 11) ∧ (¬ l.length = 0 → ¬ l.getD 0 0 = 69 → EVD l = EERR 14) ∧ (¬ l.length = 0 → l.getD 0 0 = 69 → EVD l = ED1 (l.drop 1))) := by
    unfold EVD
    exact ⟨fun h => if_pos h,fun h h2 => by rw [if_neg h,if_pos h2],fun h h2 => by rw [if_neg h,if_neg (by simpa using h2)]⟩
  generalize EVD l = V at *
  clear eZ
  have HA : Aside (n ≤ c ∧ n ≤ 1000000 ∧ Bytes w a n l) := ⟨hc,hn,hB⟩
  clear hc hn hB
  obtain ⟨W0,hW0⟩ : ∃ W0,w.alloc (.cells ZE 27) = W0 := ⟨_,rfl⟩
  obtain ⟨rs,hrs⟩ : ∃ rs,w.heap.size = rs := ⟨_,rfl⟩
  have R0 : Aside (Below w.heap.size w W0 ∧ Has W0 rs ZE 27 ∧ w.heap.size = rs) := by
    rw [← hW0, ← hrs]
    exact ⟨(Below.refl _ _).alloc (Nat.le_refl _) _,Has.new _ _ _,rfl⟩
  by_cases h0 : n = 0
  · subst h0
    have HE : Aside (V = EERR 11) := HV.out.1 HA.out.2.2.1
    have hH := R0.out.2.1
    go_enter Tryd.func11,Tryd.ntmps11
    go_wp2_with (refine wpList_store_row rfl 27 (.tmp 2) (.tmp 11) rfl rs ZE rfl rfl 27 ZE hH hi rfl hone ?_)
    refine bodyPost_ret (v := .tuple #[.agg ZE,.int .i64 11]) (results_event rfl _ _ rs 27 _ (0,0) _ rfl (Has.row hH ZE) _ rfl Tryd.underlying27 hi) rfl ?_
    rw [HE.out]
    exact HZ.out.2 _ _ (below_row R0.out.1 (Nat.le_of_eq R0.out.2.2) _)
  · obtain ⟨b,off,rfl,hbl,hcs⟩ := HA.out.2.2.2.1 (by omega)
    have hll : ¬ l.length = 0 := by rw [HA.out.2.2.1]; exact h0
    have hH := R0.out.2.1
    have hx0 : W0.cell? ⟨b,off,none⟩ = some (.int .u8 (l.getD 0 0)) := (R0.out.1.cell (p := ⟨b,off,none⟩) hbl).trans (hcs 0 (by omega))
    have i0 : ¬ (n : Int) = 0 := by omega
    have i1 : ¬ (n : Int) ≤ 0 := by omega
    by_cases hx : l.getD 0 0 = 69
    · have HV1 : Aside (V = ED1 (l.drop 1)) := HV.out.2.2 hll hx
      rw [hx] at hx0
      have hsl : ∀ w,(Instr.slice 28 (.slice (some ⟨b,off,none⟩) n c) (some (.int .i64 1)) none none).run Tryd.prog w = .ok (.slice (SLB (some ⟨b,off,none⟩) c 1) (n - 1) (c - 1)) w := slice_bytes b off n c 1 (by omega) HA.out.1
      have hlen : (l.drop 1).length = n - 1 := by rw [List.length_drop,HA.out.2.2.1]
      have hBt := (HA.out.2.2.below R0.out.1).past 1 (by omega) HA.out.1
      have cL := long_ok (SLB (some ⟨b,off,none⟩) c 1) (n - 1) (c - 1) (l.drop 1) W0 hBt (by have := HA.out.1; omega) (by have := HA.out.2.1; omega)
      rw [← hlen] at cL
      rw [show LG (l.drop 1) (l.drop 1).length 10 0 0 = LNG (l.drop 1) from rfl,hlen] at cL
      have HB := HA.out.2.2.2.2
      have HLB : Aside ((LNG (l.drop 1)).2.2 = 0 → ∃ Z m : Nat,Z < 2 ^ 64 ∧ 1 ≤ m ∧ m ≤ n - 1 ∧ LNG (l.drop 1) = ((Z : Int),(m : Int),0)) := fun h => by
        obtain ⟨Z,m,z1,z2,z3,z4,_⟩ := LNG_back (t := l.drop 1) (fun x hx => HB x (List.mem_of_mem_drop hx)) h
        exact ⟨Z,m,z1,z2,by rw [← hlen]; exact z3,z4⟩
      have HD1 : Aside (((LNG (l.drop 1)).2.2 ≠ 0 → V = EERR (LNG (l.drop 1)).2.2) ∧ ∀ Z m : Nat,LNG (l.drop 1) = ((Z : Int),(m : Int),0) → (4611686018427387904 ≤ Z → V = EERR 30) ∧ (¬ 4611686018427387904 ≤ Z → V = ED2 Z (l.drop (1 + m)))) := by
        rw [HV1.out]
        unfold ED1
        refine ⟨fun h => if_pos h,fun Z m h => ?_⟩
        rw [h,if_neg (by simp),Int.toNat_natCast,Int.toNat_natCast,List.drop_drop]
        exact ⟨fun h => if_pos h,fun h => if_neg h⟩
      clear HB hlen hBt HV1 HV hx hcs
      generalize hLN : LNG (l.drop 1) = LN at *
      clear hLN
      generalize SLB (some ⟨b,off,none⟩) c 1 = sa at *
      obtain ⟨L1,L2,L3⟩ := LN
      dsimp only at *
      go_enter Tryd.func11,Tryd.ntmps11
      go_wp2_with fail
      refine cL.mono ?_
      rintro e _ ⟨rfl,rfl⟩
      clear cL hx0 hsl
      by_cases hE : L3 = 0
      · subst hE
        obtain ⟨Z,m,z1,z2,z3,z4⟩ := HLB.out rfl
        obtain ⟨rfl,rfl,_⟩ : L1 = (Z : Int) ∧ L2 = (m : Int) ∧ True := by
          injection z4 with x1 x2
          injection x2 with x2 _
          exact ⟨x1,x2,trivial⟩
        by_cases hZ : 4611686018427387904 ≤ Z
        · have HE : Aside (V = EERR 30) := (HD1.out.2 Z m rfl).1 hZ
          have j1 : (4611686018427387904 : Int) ≤ (Z : Int) := by omega
          clear HD1 HLB hZ z4
          go_wp2_with (refine wpList_store_row rfl 27 (.tmp 2) (.tmp 30) rfl rs ZE rfl rfl 27 ZE hH hi rfl hone ?_)
          refine bodyPost_ret (v := .tuple #[.agg ZE,.int .i64 30]) (results_event rfl _ _ rs 27 _ (0,0) _ rfl (Has.row hH ZE) _ rfl Tryd.underlying27 hi) rfl ?_
          rw [HE.out]
          exact HZ.out.2 _ _ (below_row R0.out.1 (Nat.le_of_eq R0.out.2.2) _)
        · have HE2 : Aside (V = ED2 Z (l.drop (1 + m))) := (HD1.out.2 Z m rfl).2 hZ
          have J1 : Aside (¬ (4611686018427387904 : Int) ≤ (Z : Int)) := by
            show ¬ (4611686018427387904 : Int) ≤ (Z : Int)
            omega
          have HZn : Aside (Z < 2 ^ 64 ∧ 1 ≤ m ∧ m ≤ n - 1) := ⟨z1,z2,z3⟩
          have HN0 : Aside (¬ n = 0 ∧ b < w.heap.size) := ⟨h0,hbl⟩
          clear HD1 HLB z4 hZ z1 z2 z3 h0 hll i0 i1 hbl
          go_upto_region 8 with fail
          obtain ⟨zz,hzz⟩ : ∃ zz : Int,(Z : Int) = zz := ⟨_,rfl⟩
          have j1 := J1.out
          rw [hzz] at j1 ⊢
          have HZZ : Aside ((Z : Int) = zz) := hzz
          clear J1 hzz
          go_upto_region 10 with fail
          rw [← HZZ.out]
          clear j1 HZZ
          obtain ⟨PN,hPN⟩ : ∃ PN,POP Z = PN := ⟨_,rfl⟩
          have hP64 : PN ≤ 64 := by rw [← hPN,POP_PC HZn.out.1]; exact PC_lt_pow 64 Z HZn.out.1
          have hlT : (l.drop (1 + m)).length = n - (1 + m) := by rw [List.length_drop,HA.out.2.2.1]
          have hBT := (HA.out.2.2.below R0.out.1).past (1 + m) (by have := HZn.out; have := HN0.out; omega) HA.out.1
          have hm1 : 1 + m ≤ n := by have := HZn.out; have := HN0.out; omega
          have hncc := HA.out.1
          have hn6 := HA.out.2.1
          have hK : IntKind.i64.wrap (1 + (m : Int)) = ((1 + m : Nat) : Int) := by rw [IntKind.wrap_i64]; omega
          have hN : IntKind.i64.wrap (1 + (PN : Int)) = ((1 + PN : Nat) : Int) := by rw [IntKind.wrap_i64]; omega
          have hsl := slice_bytes b off n c (1 + m) hm1 hncc
          have CO : ∀ W,Below W0.heap.size W0 W → Calls Tryd.prog 20 #[.int .u64 (Z : Int)] W fun e w' => e = .returned (.int .i64 (PN : Int)) ∧ Below W0.heap.size W0 w' := fun W hb => by
            have h := ones_ok Z HZn.out.1 W
            rw [hPN] at h
            exact h.mono fun e w' z => ⟨z.1,z.2 ▸ hb⟩
          have HE3 : Aside ((n - (1 + m) < 32 * (1 + PN) → V = EERR 11) ∧ (32 * (1 + PN) < n - (1 + m) → V = EERR 13) ∧ (n - (1 + m) = 32 * (1 + PN) → V = (0,Z,(l.drop (1 + m)).take 32,PN,(l.drop (1 + m)).drop 32))) := by
            rw [HE2.out]
            unfold ED2
            rw [hPN,hlT]
            exact ⟨fun h => if_pos h,fun h => by rw [if_neg (by omega),if_pos h],fun h => by rw [if_neg (by omega),if_neg (by omega)]⟩
          by_cases hA : n - (1 + m) < 32 * (1 + PN)
          · have HE : Aside (V = EERR 11) := HE3.out.1 hA
            refine decev10 _ rs Z m (1 + m) (1 + PN) PN 11 (some ⟨b,off,none⟩) n c (SLB (some ⟨b,off,none⟩) c (1 + m)) (n - (1 + m)) (c - (1 + m)) hK hN hsl (fun W => Below W0.heap.size W0 W) (fun _ _ _ W => Below W0.heap.size W0 W) (Below.refl _ _).drew (fun _ _ _ _ h => h) CO (fun W hb => (chashes_cut (1 + PN) _ _ _ (by omega) hA W).mono fun e w' z => ⟨none,0,0,z.1,z.2 ▸ hb⟩) (fun _ _ _ _ _ h => h) ?_
            intro a2 n2 c2 w1 hb1
            have hH1 := R0.out.2.1.keep hb1
            have hbw := R0.out.1.trans (hb1.mono R0.out.1.size)
            clear hb1 HE3 hA CO hsl hN hK hncc hn6 hm1 hBT hlT hP64 hPN HE2 HZn HN0 hH
            go_wp2_with (refine wpList_store_row rfl 27 (.tmp 2) (.tmp 44) rfl rs ZE rfl rfl 27 ZE hH1 hi rfl hone ?_)
            refine bodyPost_ret (v := .tuple #[.agg ZE,.int .i64 11]) (results_event rfl _ _ rs 27 _ (0,0) _ rfl (Has.row hH1 ZE) _ rfl Tryd.underlying27 hi) rfl ?_
            rw [HE.out]
            exact HZ.out.2 _ _ (below_row hbw (Nat.le_of_eq R0.out.2.2) _)
          · by_cases hB : 32 * (1 + PN) < n - (1 + m)
            · have HE : Aside (V = EERR 13) := HE3.out.2.1 hB
              refine decev10 _ rs Z m (1 + m) (1 + PN) PN 13 (some ⟨b,off,none⟩) n c (SLB (some ⟨b,off,none⟩) c (1 + m)) (n - (1 + m)) (c - (1 + m)) hK hN hsl (fun W => Below W0.heap.size W0 W) (fun _ _ _ W => Below W0.heap.size W0 W) (Below.refl _ _).drew (fun _ _ _ _ h => h) CO (fun W hb => (chashes_tail (1 + PN) _ _ _ (by omega) hB W).mono fun e w' z => ⟨none,0,0,z.1,z.2 ▸ hb⟩) (fun _ _ _ _ _ h => h) ?_
              intro a2 n2 c2 w1 hb1
              have hH1 := R0.out.2.1.keep hb1
              have hbw := R0.out.1.trans (hb1.mono R0.out.1.size)
              clear hb1 HE3 hA hB CO hsl hN hK hncc hn6 hm1 hBT hlT hP64 hPN HE2 HZn HN0 hH
              go_wp2_with (refine wpList_store_row rfl 27 (.tmp 2) (.tmp 44) rfl rs ZE rfl rfl 27 ZE hH1 hi rfl hone ?_)
              refine bodyPost_ret (v := .tuple #[.agg ZE,.int .i64 13]) (results_event rfl _ _ rs 27 _ (0,0) _ rfl (Has.row hH1 ZE) _ rfl Tryd.underlying27 hi) rfl ?_
              rw [HE.out]
              exact HZ.out.2 _ _ (below_row hbw (Nat.le_of_eq R0.out.2.2) _)
            · have hC : n - (1 + m) = 32 * (1 + PN) := by omega
              have HE : Aside (V = (0,Z,(l.drop (1 + m)).take 32,PN,(l.drop (1 + m)).drop 32)) := HE3.out.2.2 hC
              refine decev10 _ rs Z m (1 + m) (1 + PN) PN 0 (some ⟨b,off,none⟩) n c (SLB (some ⟨b,off,none⟩) c (1 + m)) (n - (1 + m)) (c - (1 + m)) hK hN hsl (fun W => Below W0.heap.size W0 W) (fun a2 n2 c2 W => ∃ g,a2 = some ⟨g,0,none⟩ ∧ n2 = 1 + PN ∧ c2 = 1 + PN ∧ Has W g (CELLS (l.drop (1 + m))).toArray 24 ∧ W0.heap.size ≤ g ∧ Below W0.heap.size W0 W) (Below.refl _ _).drew (fun _ _ _ _ ⟨_,_,_,_,_,_,h⟩ => h) CO (fun W hb => ?_) (fun _ _ _ _ _ h => h) ?_
              · rw [hC] at hBT ⊢
                exact (chashes_ok (1 + PN) (c - (1 + m)) _ (by omega) _ W (hBT.below hb) (by omega)).mono fun e w' z => ⟨_,_,_,z.1,W.heap.size,rfl,rfl,rfl,z.2.2.2,hb.size,hb.trans (z.2.1.mono hb.size)⟩
              · rintro a2 n2 c2 w1 ⟨g,rfl,rfl,rfl,hg,hg0,hb1⟩
                have hH1 := R0.out.2.1.keep hb1
                have hbw := R0.out.1.trans (hb1.mono R0.out.1.size)
                have hr8 : ∀ x ∈ l.drop (1 + m),0 ≤ x ∧ x ≤ 255 := fun x hx => HA.out.2.2.2.2 x (List.mem_of_mem_drop hx)
                have hlT2 : (l.drop (1 + m)).length = 32 * (1 + PN) := hlT.trans hC
                have FT : Aside (Has w1 g (CELLS (l.drop (1 + m))).toArray 24 ∧ Below w.heap.size w w1 ∧ (∀ x ∈ l.drop (1 + m),0 ≤ x ∧ x ≤ 255) ∧ (l.drop (1 + m)).length = 32 * (1 + PN) ∧ W0.heap.size ≤ g ∧ Has w1 rs ZE 27 ∧ rs < W0.heap.size ∧ w.heap.size = rs) := ⟨hg,hbw,hr8,hlT2,hg0,hH1,R0.out.2.1.lt,R0.out.2.2⟩
                clear hb1 HE3 hA hB hC CO hsl hN hK hncc hn6 hm1 hBT hlT hP64 hPN HE2 HZn HN0 hH hg hg0 hH1 hbw hr8 hlT2 R0
                generalize l.drop (1 + m) = t at *
                clear hz hbu hone
                go_upto_region 13 with fail
                have lH : (t.take 32).length = 32 := by have := FT.out.2.2.2.1; rw [List.length_take]; omega
                have hsl := slice_hashes g 0 (1 + PN) (1 + PN) 1 (by omega) (Nat.le_refl _)
                rw [show 1 + PN - 1 = PN by omega] at hsl
                have hold : ZE.size = (EVT Z (t.take 32) (.slice (SLA (some ⟨g,0,none⟩) (1 + PN) 1) PN PN)).size := by
                  rw [← HZ.out.1]
                  rw [show (EVT Z (t.take 32) (.slice (SLA (some ⟨g,0,none⟩) (1 + PN) 1) PN PN)).size = 34 by simp only [EVT,List.size_toArray,List.length_cons,List.length_append,CELLS,List.length_map,lH,List.length_nil]]
                  rfl
                have hrg : w1.rangeAt g 0 (CELLS (t.take 32)) := fun j v hv => by
                  have hj : j < 32 := by
                    have := (List.getElem?_eq_some_iff.1 hv).1
                    rw [CELLS,List.length_map,lH] at this
                    exact this
                  rw [Nat.zero_add,FT.out.1.cell,List.getElem?_toArray, ← hv]
                  simp only [CELLS,List.getElem?_map,List.getElem?_take]
                  rw [if_pos hj]
                refine decev13 _ rs Z g (1 + PN) (t.take 32) lH (by omega) (SLA (some ⟨g,0,none⟩) (1 + PN) 1) PN PN ZE hold (by have := FT.out; omega) hsl (fun W => Below w1.heap.size w1 W) (Below.refl _ _).drew (fun W hb => range_below hrg hb FT.out.1.lt) (fun W hb => FT.out.2.2.2.2.2.1.keep hb) (fun _ _ _ _ _ h => h) ?_
                rintro w2 ⟨wx,hbx,e2⟩
                have hH2 : Has w2 rs (EVT Z (t.take 32) (.slice (SLA (some ⟨g,0,none⟩) (1 + PN) 1) PN PN)) 27 := by
                  rw [e2]
                  exact (FT.out.2.2.2.2.2.1.keep hbx).row _
                have FN : Aside (Flat w2 (SLA (some ⟨g,0,none⟩) (1 + PN) 1) PN (t.drop 32) ∧ Below w.heap.size w w2 ∧ MPK w2 w.heap.size (SLA (some ⟨g,0,none⟩) (1 + PN) 1) PN PN (t.drop 32)) := by
                  obtain ⟨f1,f2,f3,f4,f5,f6,f7,f8⟩ := FT.out
                  have hg2 : Has w2 g (CELLS t).toArray 24 := by
                    rw [e2]
                    exact (f1.keep hbx).row_other (by omega) _
                  have h := (has_flat hg2 f4 f3).behind (c := 1 + PN) 1 (by omega) (Nat.le_refl _)
                  rw [show 1 + PN - 1 = PN by omega] at h
                  have hm : MPK w2 w.heap.size (SLA (some ⟨g,0,none⟩) (1 + PN) 1) PN PN (t.drop 32) := by
                    by_cases h0 : PN = 0
                    · exact .inl ⟨h0,h0⟩
                    · refine .inr ⟨by omega,rfl,g,t.take 32, ?_,by omega,lH, ?_⟩
                      · simp only [SLA]
                        rw [if_neg (by omega)]
                      · rw [List.take_append_drop]
                        exact hg2
                  rw [e2] at h hm ⊢
                  exact ⟨h,below_row (f2.trans (hbx.mono f2.size)) (Nat.le_of_eq f8) _,hm⟩
                have hi2 := info_event' Z (t.take 32) lH (.slice (SLA (some ⟨g,0,none⟩) (1 + PN) 1) PN PN)
                clear e2 hbx hrg hold hsl FT
                go_wp2_with fail
                refine bodyPost_ret (v := .tuple #[.agg (EVT Z (t.take 32) (.slice (SLA (some ⟨g,0,none⟩) (1 + PN) 1) PN PN)),.int .i64 0]) (results_event rfl _ _ rs 27 _ (0,0) _ rfl hH2 _ rfl Tryd.underlying27 hi2) rfl ?_
                rw [HE.out]
                exact ⟨_,_,rfl,FN.out.1,fun h => absurd h (by simp only [SLA]; split <;> simp),FN.out.2.1,FN.out.2.2⟩
      · have HE : Aside (V = EERR L3) := HD1.out.1 hE
        have hE' : (L3 != 0) = true := by simp [hE]
        clear HD1 HLB hE
        go_wp2_with (refine wpList_store_row rfl 27 (.tmp 2) (.tmp 26) rfl rs ZE rfl rfl 27 ZE hH hi rfl hone ?_)
        refine bodyPost_ret (v := .tuple #[.agg ZE,.int .i64 L3]) (results_event rfl _ _ rs 27 _ (0,0) _ rfl (Has.row hH ZE) _ rfl Tryd.underlying27 hi) rfl ?_
        rw [HE.out]
        exact HZ.out.2 _ _ (below_row R0.out.1 (Nat.le_of_eq R0.out.2.2) _)
    · have HE : Aside (V = EERR 14) := HV.out.2.1 hll hx
      have hx' : (l.getD 0 0 != 69) = true := by simpa using hx
      generalize l.getD 0 0 = x at *
      go_enter Tryd.func11,Tryd.ntmps11
      go_wp2_with (refine wpList_store_row rfl 27 (.tmp 2) (.tmp 16) rfl rs ZE rfl rfl 27 ZE hH hi rfl hone ?_)
      refine bodyPost_ret (v := .tuple #[.agg ZE,.int .i64 14]) (results_event rfl _ _ rs 27 _ (0,0) _ rfl (Has.row hH ZE) _ rfl Tryd.underlying27 hi) rfl ?_
      rw [HE.out]
      exact HZ.out.2 _ _ (below_row R0.out.1 (Nat.le_of_eq R0.out.2.2) _)
end Go.Proofs.YtkpgbhokoohimaaDoor

/- Events that are the same; what is written is read back. -/
namespace Go.Proofs.YtkpgbhokoohimaaDoor
open Go.RowKit
set_option maxRecDepth 100000

theorem load_mid_ifc {ops : Array Oper} {rest : List Oper} {o : Oper} {a : Act} {w : World} {Q : Exit → Act → World → Prop} (hw : Region.wanted o (yielded ops a.tmps) = true) (ty : TypeId) (x : Operand) (ho : o.op = .load ty x)
    (b off : Nat) (hx : a.eval x = .pointer (some ⟨b,off,none⟩)) (cs : List Value) (d : TypeDesc) (hc : w.rangeAt b off cs) (hu : Tryd.prog.underlying ty = some d) (hd : d.isRow = true) (hi : (Tryd.prog.info? ty).map (·.size) = some cs.length)
    (h : wpList Tryd.prog ops Q rest (a.put o.dst (.agg cs.toArray)) w) : wpList Tryd.prog ops Q (o :: rest) a w := by
  simp only [wpList]
  rw [if_pos hw]
  exact .inl (wp_load_mid ty x ho b off hx cs d hc hu hd hi h)
theorem same_hashc {X : List Int} (lX : X.length = 32) (w : World) : (Op.equalIn 10000 24 (.agg (CELLS X).toArray) (.agg (CELLS X).toArray)).run Tryd.prog w = .ok true w := by
  rw [equal_cells X X lX lX w]
  simp
set_option maxHeartbeats 2000000 in
theorem sameevents_ok (X : Nat) (leaf : List Int) (lX : leaf.length = 32) (a b : Option Addr) (n ca cb : Nat) (l : List Int) (w : World) (hA : Flat w a n l) (hB : Flat w b n l) (hn : n ≤ 1000000) :
    Calls Tryd.prog 12 #[.agg (EVT X leaf (.slice a n ca)),.agg (EVT X leaf (.slice b n cb))] w fun e w' => e = .returned (.bool true) ∧ Below w.heap.size w w' := by
  have C : Aside (∀ W,Below w.heap.size w W → Calls Tryd.prog 22 #[.slice a n ca,.slice b n cb] W fun e w' => e = .returned (.bool true) ∧ Below w.heap.size w w') := fun W h => by
    refine (samehashes_ok a b n n ca cb l l W (hA.below h) (hB.below h) hn).mono ?_
    rintro e w' ⟨rfl,hb⟩
    exact ⟨by simp,h.trans (hb.mono h.size)⟩
  obtain ⟨W0,hW0⟩ : ∃ W0,(w.alloc (.cells (EVT X leaf (.slice a n ca)) 27)).alloc (.cells (EVT X leaf (.slice b n cb)) 27) = W0 := ⟨_,rfl⟩
  obtain ⟨be,hbe⟩ : ∃ be,w.heap.size = be := ⟨_,rfl⟩
  have R0 : Aside (Below w.heap.size w W0 ∧ Has W0 be (EVT X leaf (.slice a n ca)) 27 ∧ Has W0 (be + 1) (EVT X leaf (.slice b n cb)) 27) := by
    rw [← hW0, ← hbe]
    exact ⟨((Below.refl _ _).alloc (Nat.le_refl _) _).alloc (by simp) _,(Has.new _ _ _).alloc _,Has.at _ _ _ (by simp)⟩
  obtain ⟨x0,x1,x2⟩ := EVT_at R0.out.2.1 lX
  obtain ⟨y0,y1,y2⟩ := EVT_at R0.out.2.2 lX
  have heq := same_hashc lX
  have cc := C.out W0 R0.out.1
  clear hA hB hn R0 C
  generalize EVT X leaf (.slice a n ca) = V1 at *
  generalize EVT X leaf (.slice b n cb) = V2 at *
  go_enter Tryd.func12,Tryd.ntmps12
  go_wp2_with (first
    | (refine load_mid_ifc (by rfl) 24 (.tmp 11) rfl be 1 rfl (CELLS leaf) _ x1 Tryd.underlying24 rfl (info_cells lX) ?_)
    | (refine load_mid_ifc (by rfl) 24 (.tmp 13) rfl (be + 1) 1 rfl (CELLS leaf) _ y1 Tryd.underlying24 rfl (info_cells lX) ?_)
    | fail)
  refine cc.mono ?_
  rintro e w5 ⟨rfl,hb5⟩
  have FN : Aside (Below w.heap.size w w5) := hb5
  clear cc hb5 x0 x1 x2 y0 y1 y2 heq hW0 hbe
  go_wp2
  go_ret
  exact ⟨rfl,FN.out⟩
end Go.Proofs.YtkpgbhokoohimaaDoor

/- What chapter 12's awake does, step by step. -/
namespace Go.Proofs.YtkpgbhokoohimaaDoor
open Go.RowKit
set_option maxRecDepth 100000

theorem low_is (X t : Nat) (hX : X < 2 ^ 64) (ht : t < 64) (h1 : X % 2 ^ t = 0) (h2 : X % 2 ^ (t + 1) ≠ 0) : ∀ W,Tabled W → Calls Tryd.prog 45 #[.int .u64 (X : Int)] W fun e w' => e = .returned (.int .i64 (t : Int)) ∧ W = w' := by
  obtain ⟨t',_,_,h,hc⟩ := low_nat X hX
  have a1 := (h t (by omega)).1 h1
  have a2 : ¬ t + 1 ≤ t' := fun hh => h2 ((h (t + 1) (by omega)).2 hh)
  obtain rfl : t' = t := by omega
  exact hc
theorem rev_few (t : Nat) (ht : t ≤ 1) : ∀ W BB a c X,X.length = 32 * t → W.ownsRow BB 24 32 (.slice a t c) t (CELLS X) → Calls Tryd.prog 46 #[.slice a t c] W fun e w' => e = .returned (.tuple #[]) ∧ w'.ownsRow BB 24 32 (.slice a t c) t (CELLS (REVH t X)) ∧ W.grownBy w' (Value.slice a t c).ownBlock := fun W BB a c X hX ho => by
  refine (reverse_few a t c ht W).mono ?_
  rintro e w' ⟨rfl,rfl⟩
  rw [REVH_few ht hX]
  exact ⟨rfl,ho,grown_refl _ _⟩
theorem CARRY.foot {w : World} {B b : Nat} {d : Int} {S I : Nat} {leaf : List Int} {pv : Value} {np : Nat} {P : List Int} {lv : Value} {nl : Nat} {L : List Int} (h : CARRY w B b d S I leaf pv np P lv nl L) : ∀ k,CFT b pv lv k → B ≤ k ∧ k < w.heap.size := by
  rintro k (rfl | e | e)
  · exact ⟨h.at0,h.has.lt⟩
  · exact h.peaks.lt k e
  · exact h.path.lt k e
theorem cla_one (leaf : List Int) : CLA 32 leaf 1 0 0 [] = (0,1,leaf) := by
  unfold CLA
  rw [show PLA 0 1 = (0, []) by kernel_rfl,if_neg (by simp),if_neg (by simp),show PC 1 = 1 by kernel_rfl,show SPAN 0 1 = [(0,0)] by kernel_rfl]
  unfold CLM
  rw [show PSP 0 1 = [] by kernel_rfl,show RISE 0 1 = 0 by kernel_rfl]
  simp [CAT,JN,MPUT,HAND]
theorem first_step (w : World) (Bs b : Nat) (A B : List Int) (iA : IsH A) (iB : IsH B) (pv lv : Value) (a : Option Addr) (c : Nat) (hC : CARRY w Bs b 32 1 0 A pv 1 A lv 0 []) (hF : Flat w a 1 A) (hB : Bs ≤ w.heap.size) (hT : Tabled w) (hX : HX.Tabled w) (h0 : 2 < w.heap.size) :
    Calls Tryd.prog 28 #[.pointer (some ⟨b,0,none⟩),.agg (EVT 1 B (.slice a 1 c))] w fun e w' => e = .returned (.int .i64 0) ∧ ∃ pv' lv',CARRY w' Bs b 32 2 0 A pv' 1 (NODEH 32 A B) lv' 1 B ∧ KEPT (CFT b pv lv) w w' := by
  obtain ⟨pa,pc,rfl,_,_⟩ := own_shapeh hC.peaks
  obtain ⟨la,lc,rfl,_,_⟩ := own_shapeh hC.path
  have h := on_ok Bs b 32 1 0 A pa 1 pc 0 1 A la 0 lc [] B iB a 1 c (by decide) iA.2 rfl (by decide) (by decide) (by decide) w hC hF hB hT hX h0 (low_is 18446744073709551614 1 (by decide) (by decide) (by decide) (by decide)) (rev_few 1 (by decide))
  refine h.mono ?_
  rintro e w' ⟨rfl,pv',lv',h1,h2,_⟩
  refine ⟨rfl,pv',lv', ?_,h2⟩
  have e0 : A.drop (32 * 0) = A := rfl
  have e1 : REVH 1 (A.drop (32 * 0)) = A := by rw [e0]; exact REVH_few (by decide) iA.1
  rw [e1] at h1
  have e2 : HSH A 0 = A := by
    unfold HSH
    rw [Nat.mul_zero,List.drop_zero,List.take_of_length_le (by rw [iA.1]; decide)]
  have e3 : A.take (32 * 0) ++ MDF 32 B A 1 = NODEH 32 A B := by
    rw [Nat.mul_zero,List.take_zero,List.nil_append,MDF,MDF,e2]
  have e4 : LGN 1 0 = 1 := rfl
  have e5 : LGT 1 0 [] A (MDS 32 B A 1) = B := by
    unfold LGT
    rw [if_neg (by decide),List.nil_append,MDS_at iB 1 0 (by decide),List.drop_eq_nil_of_le (by rw [iA.1]; decide),List.append_nil]
    rfl
  rw [e3,e4,e5] at h1
  exact h1
theorem second_step (w : World) (Bs b : Nat) (A B P C : List Int) (iP : IsH P) (iC : IsH C) (pv lv : Value) (a : Option Addr) (c : Nat) (hC : CARRY w Bs b 32 2 0 A pv 1 P lv 1 B) (hF : Flat w a 1 P) (hB : Bs ≤ w.heap.size) (hT : Tabled w) (hX : HX.Tabled w) (h0 : 2 < w.heap.size) :
    Calls Tryd.prog 28 #[.pointer (some ⟨b,0,none⟩),.agg (EVT 2 C (.slice a 1 c))] w fun e w' => e = .returned (.int .i64 0) ∧ ∃ pv' lv',CARRY w' Bs b 32 3 0 A pv' 2 (P ++ C) lv' 1 B ∧ KEPT (CFT b pv lv) w w' := by
  obtain ⟨pa,pc,rfl,_,_⟩ := own_shapeh hC.peaks
  obtain ⟨la,lc,rfl,_,_⟩ := own_shapeh hC.path
  have h := on_ok Bs b 32 2 0 A pa 1 pc 1 0 P la 1 lc B C iC a 1 c (by decide) iP.2 rfl (by decide) (by decide) (by decide) w hC hF hB hT hX h0 (low_is 18446744073709551613 0 (by decide) (by decide) (by decide) (by decide)) (rev_few 0 (by decide))
  refine h.mono ?_
  rintro e w' ⟨rfl,pv',lv',h1,h2,_⟩
  refine ⟨rfl,pv',lv', ?_,h2⟩
  have e3 : ∀ LR,P.take (32 * 1) ++ MDF 32 C LR 0 = P ++ C := fun LR => by
    rw [MDF,List.take_of_length_le (by rw [iP.1]; decide)]
  have e4 : LGN 0 1 = 1 := rfl
  have e5 : ∀ LR M,LGT 0 1 B LR M = B := fun LR M => rfl
  rw [e3,e4,e5] at h1
  exact h1
theorem third_step (w : World) (Bs b : Nat) (A B P C X : List Int) (lX : X.length = 32) (iP : IsH P) (iC : IsH C) (pv lv : Value) (a : Option Addr) (c : Nat) (l : List Int) (hC : CARRY w Bs b 32 3 0 A pv 2 (P ++ C) lv 1 B) (hF : Flat w a 1 l) :
    Calls Tryd.prog 28 #[.pointer (some ⟨b,0,none⟩),.agg (EVT 2 X (.slice a 1 c))] w fun e w' => e = .returned (.int .i64 120) ∧ Below w.heap.size w w' := by
  obtain ⟨pa,pc,rfl,_,_⟩ := own_shapeh hC.peaks
  have e : RFS 3 2 l (P ++ C) = 120 := if_pos (by decide)
  have h := on_not Bs b 32 3 0 A pa 2 pc (P ++ C) lv 1 B 2 X lX a 1 c l (by decide) (fun x hx => (List.mem_append.1 hx).elim (iP.2 x) (iC.2 x)) w hC hF (by rw [e]; decide)
  rw [e] at h
  exact h
theorem first_proof (w : World) (Bs b : Nat) (A B P : List Int) (iB : IsH B) (pv lv : Value) (hC : CARRY w Bs b 32 2 0 A pv 1 P lv 1 B) : Calls Tryd.prog 29 #[.pointer (some ⟨b,0,none⟩)] w (PRFD w 2 0 1 B) := by
  obtain ⟨pa,pc,rfl,_,h1⟩ := own_shapeh hC.peaks
  obtain ⟨pg,rfl⟩ := h1 (by decide)
  obtain ⟨la,lc,rfl,_,_⟩ := own_shapeh hC.path
  have h := carryproof_ok Bs b 32 2 0 A pg 1 pc P la 1 lc B (by decide) (by decide) (by decide) (by decide) iB.2 w hC
  rw [show KTH 0 2 = 0 by kernel_rfl,show WON 0 1 = 0 from rfl,show WOT 0 P 1 = [] from rfl,List.append_nil] at h
  exact h
theorem second_proof (w : World) (Bs b : Nat) (A B P C : List Int) (iB : IsH B) (iP : IsH P) (iC : IsH C) (pv lv : Value) (hC : CARRY w Bs b 32 3 0 A pv 2 (P ++ C) lv 1 B) : Calls Tryd.prog 29 #[.pointer (some ⟨b,0,none⟩)] w (PRFD w 3 0 2 (B ++ C)) := by
  obtain ⟨pa,pc,rfl,_,h1⟩ := own_shapeh hC.peaks
  obtain ⟨pg,rfl⟩ := h1 (by decide)
  obtain ⟨la,lc,rfl,_,_⟩ := own_shapeh hC.path
  have h := carryproof_ok Bs b 32 3 0 A pg 2 pc (P ++ C) la 1 lc B (by decide) (by decide) (by decide) (by decide) iB.2 w hC
  have e : WOT 0 (P ++ C) 2 = C := by
    show ([] : List Int) ++ HSH (P ++ C) 1 = C
    unfold HSH
    rw [List.nil_append,show 32 * 1 = P.length by rw [iP.1],List.drop_left,List.take_of_length_le (by rw [iC.1]; decide)]
  rw [show KTH 0 3 = 0 by kernel_rfl,show WON 0 2 = 1 from rfl,e] at h
  exact h
end Go.Proofs.YtkpgbhokoohimaaDoor
