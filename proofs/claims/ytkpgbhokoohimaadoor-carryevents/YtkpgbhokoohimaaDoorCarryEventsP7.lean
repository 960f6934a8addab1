/- Texts of CarryEvents, one behind the other: ProofPlaces, ProofBytes, ProofEncode, CutRefSpan, ProofRefPlaces, ProofLists, RegionSteps, ProofCells. -/
import Derived.Deep.MidRow
import Derived.Test.YtkpgbhokoohimaaDoorProg
import Derived.WalkKit
import Derived.WalkLawsBesides
import Derived.Deep.RegionHeld3
import Derived.Deep.CutRange
import Derived.Great.BuildSlice
import Derived.ChangeKeysEq
import Derived.Test.YtkpgbhokoohimaaDoorCarryEventsP1
import Derived.Test.YtkpgbhokoohimaaDoorCarryEventsP4
import Derived.Test.YtkpgbhokoohimaaDoorCarryEventsP5
import Derived.Test.YtkpgbhokoohimaaDoorCarryEventsP6
/- What Places and PrefixPlaces of package proof answer. -/
namespace Go.Proofs.YtkpgbhokoohimaaDoor
open Go.RowKit

theorem places_size (i n : Int) (hn : 4611686018427387904 < n) (w : World) : Calls Tryd.prog 49 #[.int .u64 i,.int .u64 n] w fun e w' => e = .returned (.tuple #[.slice none 0 0,.int .i64 30]) ∧ w = w' := by
  go_enter Tryd.func49,Tryd.ntmps49
  go_wp2
  go_ret2
  exact ⟨rfl,rfl⟩
theorem places_index (i n : Int) (hn : ¬ 4611686018427387904 < n) (hi : ¬ i < n) (w : World) : Calls Tryd.prog 49 #[.int .u64 i,.int .u64 n] w fun e w' => e = .returned (.tuple #[.slice none 0 0,.int .i64 32]) ∧ w = w' := by
  have c := path_not i n (by omega)
  clear hi
  go_enter Tryd.func49,Tryd.ntmps49
  go_wp2_with fail
  refine (c _).mono ?_
  rintro e w' ⟨rfl,rfl⟩
  clear c
  go_wp2
  go_ret2
  exact ⟨rfl,rfl⟩
theorem app_apart {w : World} {v : Value} {g gp : Nat} (hne : v.ownBlock ≠ some gp) (hgp : gp < w.heap.size) (hat : v.ownBlock = some g ∨ g = w.heap.size) : some g ≠ some gp := by
  intro e
  have e : g = gp := by simpa using e
  subst e
  rcases hat with h | h
  · exact hne h
  · omega
/-- the places so far: the way, and of the peaks the first j but the one over the leaf. -/
def SOFAR (A P : List Nat) (K j : Nat) : List Nat := A ++ (P.take j).eraseIdx K
theorem SOFAR_zero (A P : List Nat) (K : Nat) : SOFAR A P K 0 = A := by simp [SOFAR]
theorem SOFAR_all (A P : List Nat) (K : Nat) : SOFAR A P K P.length = A ++ P.eraseIdx K := by simp [SOFAR]
theorem take_getD {P : List Nat} {j : Nat} (hj : j < P.length) : P.take (j + 1) = P.take j ++ [P.getD j 0] := by
  rw [List.take_add_one,List.getD,List.getElem?_eq_getElem hj]
  rfl
theorem SOFAR_skip (A P : List Nat) (K : Nat) (hK : K < P.length) : SOFAR A P K (K + 1) = SOFAR A P K K := by
  unfold SOFAR
  rw [take_getD hK,erase_snoc,if_pos (by rw [List.length_take]; omega)]
theorem SOFAR_next (A P : List Nat) (K j : Nat) (hj : j < P.length) (hK : j ≠ K) : SOFAR A P K (j + 1) = SOFAR A P K j ++ [P.getD j 0] := by
  unfold SOFAR
  rw [take_getD hj,erase_snoc,if_neg (by rw [List.length_take]; omega),List.append_assoc]
theorem SOFAR_length (A P : List Nat) (K j : Nat) : (SOFAR A P K j).length ≤ A.length + P.length := by
  unfold SOFAR
  rw [List.length_append]
  have h1 := List.length_eraseIdx_le (P.take j) K
  have h2 := List.length_take_le' j P
  omega
set_option maxHeartbeats 1000000 in
theorem places_ok (i n : Nat) (hi : i < n) (hn : n ≤ 4611686018427387904) (w : World) (hT : Tabled w) (h0 : 0 < w.heap.size) : Calls Tryd.prog 49 #[.int .u64 (i : Int),.int .u64 (n : Int)] w fun e w' =>
    ∃ v,e = .returned (.tuple #[v,.int .i64 0]) ∧ w'.ownsRow w.heap.size 22 1 v (PLCS (PSP i n)).length (UCELLS (PLCS (PSP i n))) ∧ Below w.heap.size w w' := by
  have c1 := path_ok i n hi hn w
  have c2 := peak_ok i n hi hn
  have hd : ¬ (4611686018427387904 : Int) < (n : Int) := by omega
  have C3 : Aside (∀ W,Below w.heap.size w W → Calls Tryd.prog 58 #[.int .u64 (n : Int)] W fun e w' => ∃ g cap,e = .returned (.slice (some ⟨g,0,none⟩) (PC n) cap) ∧ w'.ownsRow W.heap.size 22 1 (.slice (some ⟨g,0,none⟩) (PC n) cap) (PC n) (UCELLS (PEAKS n)) ∧ Below W.heap.size W w') :=
    fun W h => peaks_ok n hn W (hT.below h0 h) (Nat.lt_of_lt_of_le h0 h.size)
  have hP := PEAKS_length (n := n) (by omega)
  have hP6 := PC_lt_pow 64 n (by omega)
  have hR6 := (RISE_spec hi hn).2.1
  have hKl := KTH_lt hi hn
  rw [PSP_places hn]
  have hWl := WAY_length i (RISE i n)
  generalize WAY i (RISE i n) = A at *
  generalize PEAKS n = PK at *
  generalize RISE i n = R at *
  generalize KTH i n = K at *
  generalize PC n = P at *
  obtain ⟨X,hX⟩ : ∃ X,A ++ PK.eraseIdx K = X := ⟨_,rfl⟩
  rw [hX]
  obtain ⟨N,hN⟩ : ∃ N,X.length = N := ⟨_,rfl⟩
  rw [hN]
  have HA : Aside (PK.length = P ∧ P ≤ 64 ∧ R ≤ 62 ∧ K < P ∧ A.length = R) := ⟨hP,hP6,hR6,hKl,hWl⟩
  have HX : Aside (SOFAR A PK K P = X ∧ X.length = N) := ⟨by rw [← hX, ← hP]; exact SOFAR_all _ _ _,hN⟩
  clear hX hN
  clear hP hP6 hR6 hKl hWl hT h0 hi hn
  go_enter Tryd.func49,Tryd.ntmps49
  go_wp2_with fail
  refine c1.mono ?_
  rintro e w1 ⟨g,cap,rfl,hown,hg,hb⟩
  clear c1
  have R1 : Aside (w1.ownsRow w.heap.size 22 1 (.slice (some ⟨g,0,none⟩) R cap) R (UCELLS A) ∧ Below w.heap.size w w1 ∧ g < w1.heap.size) := ⟨hown,hb,hg⟩
  clear hown hg hb
  go_wp2_with fail
  refine (c2 _).mono ?_
  rintro e w' ⟨rfl,rfl⟩
  clear c2
  go_wp2_with fail
  refine (C3.out _ R1.out.2.1).mono ?_
  rintro e w2 ⟨gp,capp,rfl,hrow,hb2⟩
  have R2 : Aside (w2.ownsRow w.heap.size 22 1 (.slice (some ⟨g,0,none⟩) R cap) (SOFAR A PK K 0).length (UCELLS (SOFAR A PK K 0)) ∧ Below w.heap.size w w2 ∧ some g ≠ some gp ∧ w2.ownsRow w1.heap.size 22 1 (.slice (some ⟨gp,0,none⟩) P capp) P (UCELLS PK)) := by
    obtain ⟨a1,a2,a3⟩ := R1.out
    have hgp := hrow.lt gp rfl
    refine ⟨?_,a2.trans (hb2.mono a2.size),fun e => ?_,hrow⟩
    · rw [SOFAR_zero,HA.out.2.2.2.2]
      exact own_below a1 hb2
    · have e : g = gp := by simpa using e
      omega
  clear R1 hrow hb2 C3
  go_wp2
  go_loopg [6,31] P (fun q s6 s31 wx => ∃ j : Nat,s31 = .int .i64 (j : Int) ∧ Aside (j + q = P ∧ wx.ownsRow w.heap.size 22 1 s6 (SOFAR A PK K j).length (UCELLS (SOFAR A PK K j)) ∧ Below w.heap.size w wx ∧ s6.ownBlock ≠ some gp ∧ wx.ownsRow w1.heap.size 22 1 (.slice (some ⟨gp,0,none⟩) P capp) P (UCELLS PK)))
  case atStart => exact ⟨0,rfl,by omega,R2.out.1,R2.out.2.1,R2.out.2.2.1,R2.out.2.2.2⟩
  case round =>
    obtain ⟨j,rfl,A1⟩ := hrel
    clear R2
    cases gk with
    | zero =>
      obtain ⟨hj,hown,hbel,hne,hrow⟩ := A1.out
      obtain rfl : j = P := by omega
      have hlt : ¬ (j : Int) < (j : Int) := by omega
      have R : Aside (wr.ownsRow w.heap.size 22 1 u6 N (UCELLS X) ∧ Below w.heap.size w wr) := by
        rw [HX.out.1,HX.out.2] at hown
        exact ⟨hown,hbel⟩
      clear hj hown hbel hne hrow A1 HA
      go_wp2
      go_ret2
      exact ⟨_,rfl,R.out.1,R.out.2⟩
    | succ q =>
      obtain ⟨hj,hown,hbel,hne,hrow⟩ := A1.out
      obtain ⟨a1,a2,a3,a4,a5⟩ := HA.out
      have hlt : (j : Int) < (P : Int) := by omega
      have hc : wr.cell? ⟨gp,j,none⟩ = some (.int .u64 ((PK.getD j 0 : Nat) : Int)) := by
        have hrow' := hrow
        rw [← a1] at hrow'
        exact row_at hrow' j (by omega)
      have e1 : wrap64 ((j : Int) + 1) = ((j + 1 : Nat) : Int) := by unfold wrap64; omega
      by_cases hk : j = K
      · subst hk
        have R : Aside (j + 1 + q = P ∧ wr.ownsRow w.heap.size 22 1 u6 (SOFAR A PK j (j + 1)).length (UCELLS (SOFAR A PK j (j + 1))) ∧ Below w.heap.size w wr ∧ u6.ownBlock ≠ some gp ∧ wr.ownsRow w1.heap.size 22 1 (.slice (some ⟨gp,0,none⟩) P capp) P (UCELLS PK)) := ⟨by omega,by rw [SOFAR_skip _ _ _ (by omega)]; exact hown,hbel,hne,hrow⟩
        clear hj hown hbel hne hrow a1 a2 a3 a4 a5 A1
        generalize PK.getD j 0 = y at hc
        go_wp2
        go_roundg q
        case measure => omega
        case rel => exact ⟨j + 1,by first | rfl | (rw [e1]),R.out⟩
      · have hk' : ((j : Int) != (K : Int)) = true := by simp; omega
        have hnx := SOFAR_next A PK K j (by omega) hk
        have hll := SOFAR_length A PK K j
        generalize PK.getD j 0 = y at *
        have R : Aside (j + 1 + q = P ∧ wr.ownsRow w.heap.size 22 1 u6 (SOFAR A PK K j).length (UCELLS (SOFAR A PK K j)) ∧ Below w.heap.size w wr ∧ u6.ownBlock ≠ some gp ∧ wr.ownsRow w1.heap.size 22 1 (.slice (some ⟨gp,0,none⟩) P capp) P (UCELLS PK) ∧ SOFAR A PK K (j + 1) = SOFAR A PK K j ++ [y] ∧ (SOFAR A PK K j).length ≤ 1000) := ⟨by omega,hown,hbel,hne,hrow,hnx,by omega⟩
        clear hj hown hbel hne hrow a1 a2 a3 a4 a5 A1 hnx hll
        go_wp2_with (at_builtin; refine app_more _ rfl (.tmp 39) (.tmp 41) rfl w.heap.size u6 _ (UCELLS (SOFAR A PK K j)) rfl (R.out.2.1.alloc _) wr.heap.size 1 (y : Int) rfl (by rw [World.cell?_alloc_at _ _ _ _ rfl]; rfl) R.out.2.2.2.2.2.2 (by have := R.out.2.2.1.size; simp; omega) ?_; intro g' cap' w3 hown hgrow hat hg)
        have R3 : Aside (j + 1 + q = P ∧ w3.ownsRow w.heap.size 22 1 (.slice (some ⟨g',0,none⟩) ((SOFAR A PK K j).length + 1) cap') (SOFAR A PK K (j + 1)).length (UCELLS (SOFAR A PK K (j + 1))) ∧ Below w.heap.size w w3 ∧ some g' ≠ some gp ∧ w3.ownsRow w1.heap.size 22 1 (.slice (some ⟨gp,0,none⟩) P capp) P (UCELLS PK)) := by
          obtain ⟨r1,r2,r3,r4,r5,r6,r7⟩ := R.out
          have hgp := r5.lt gp rfl
          refine ⟨r1, ?_,(r3.alloc r3.size _).grown hgrow (by have := r3.size; simp; omega) (fun k e => (r2.lt k e).1),app_apart r4 (by simp; omega) hat,(r5.alloc _).kept hgrow (.inr fun e => r4 e.symm)⟩
          rw [r6,UCELLS_snoc,List.length_append]
          exact hown
        clear R hown hgrow hat hg hc
        go_wp2
        go_roundg q
        case measure => omega
        case rel => exact ⟨j + 1,by first | rfl | (rw [e1]),R3.out⟩

end Go.Proofs.YtkpgbhokoohimaaDoor

/- What written, Encode and EncodePrefix of package proof answer. -/
namespace Go.Proofs.YtkpgbhokoohimaaDoor
open Go.RowKit
set_option maxRecDepth 100000

/-- so many hashes lie there, told as their bytes, one behind the other. -/
def Flat (w : World) (a : Option Addr) (n : Nat) (l : List Int) : Prop :=
  l.length = 32 * n ∧ (0 < n → ∃ b o,a = some ⟨b,o,none⟩ ∧ b < w.heap.size ∧ ∀ j,j < 32 * n → w.cell? ⟨b,o + j,none⟩ = some (.int .u8 (l.getD j 0))) ∧ ∀ x ∈ l,0 ≤ x ∧ x ≤ 255
theorem Flat.below {w w' : World} {a : Option Addr} {n : Nat} {l : List Int} (h : Flat w a n l) (hb : Below w.heap.size w w') : Flat w' a n l :=
  ⟨h.1,fun hn => by
    obtain ⟨b,o,e,hl,hc⟩ := h.2.1 hn
    exact ⟨b,o,e,Nat.lt_of_lt_of_le hl hb.size,fun i hi => (hb.cell (by exact hl)).trans (hc i hi)⟩,h.2.2⟩
/-- the bytes of the i-th hash. -/
def HSH (l : List Int) (i : Nat) : List Int := (l.drop (32 * i)).take 32
theorem HSH_length {l : List Int} {n i : Nat} (hl : l.length = 32 * n) (hi : i < n) : (HSH l i).length = 32 := by
  unfold HSH
  rw [List.length_take,List.length_drop]
  omega
theorem HSH_at {l : List Int} {i j : Nat} (hj : j < 32) : (HSH l i).getD j 0 = l.getD (32 * i + j) 0 := by
  unfold HSH
  rw [List.getD_eq_getElem?_getD,List.getElem?_take,if_pos hj,List.getElem?_drop,List.getD_eq_getElem?_getD]
theorem HSH_mem {l : List Int} {i : Nat} {x : Int} (h : x ∈ HSH l i) : x ∈ l := List.mem_of_mem_drop (List.mem_of_mem_take h)
theorem HSH_next (l : List Int) (i : Nat) : l.take (32 * (i + 1)) = l.take (32 * i) ++ HSH l i := by
  unfold HSH
  rw [show 32 * (i + 1) = 32 * i + 32 by omega,List.take_add]
theorem info_hash32 : (Tryd.prog.info? 24).map (·.size) = some 32 := by kernel_rfl
theorem info_cells {h : List Int} (hl : h.length = 32) : (Tryd.prog.info? 24).map (·.size) = some (CELLS h).length := by
  rw [info_hash32,show (CELLS h).length = 32 by simp [CELLS,hl]]
theorem info_arr {h : List Int} (hl : h.length = 32) : (Tryd.prog.info? 24).map (·.size) = some (CELLS h).toArray.size := by
  rw [info_hash32,show (CELLS h).toArray.size = 32 by simp [CELLS,hl]]
theorem cells_one (h : List Int) : (CELLS h).toArray.all (·.oneCell') = true := by
  rw [Array.all_eq_true_iff_forall_mem]
  intro v hv
  exact CELLS_one h v (by simpa using hv)
theorem Flat.at {w : World} {b o n : Nat} {l : List Int} {i : Nat} (h : Flat w (some ⟨b,o,none⟩) n l) (hi : i < n) : w.rangeAt b (o + i * 32) (CELLS (HSH l i)) := by
  intro j v hv
  obtain ⟨b',o',e,_,hc⟩ := h.2.1 (by omega)
  simp only [Option.some.injEq,Addr.mk.injEq] at e
  obtain ⟨rfl,rfl,_⟩ := e
  have hj : j < 32 := by
    have := (List.getElem?_eq_some_iff.1 hv).1
    rw [show (CELLS (HSH l i)).length = 32 by simp [CELLS,HSH_length h.1 hi]] at this
    exact this
  rw [CELLS_get _ _ (by rw [HSH_length h.1 hi]; exact hj),HSH_at hj] at hv
  rw [show o + i * 32 + j = o + (32 * i + j) by omega,hc _ (by omega)]
  exact hv
/-- a box that holds a hash reads as its bytes. -/
theorem box_bytes (w : World) {h : List Int} (hl : h.length = 32) (hr : ∀ x ∈ h,0 ≤ x ∧ x ≤ 255) (t : TypeId) : Bytes (w.alloc (.cells (CELLS h).toArray t)) (some ⟨w.heap.size,0,none⟩) 32 h := by
  refine ⟨hl,fun _ => ⟨w.heap.size,0,rfl,by simp,fun i hi => ?_⟩,hr⟩
  rw [Nat.zero_add,World.cell?_alloc_at _ _ _ _ rfl,List.getElem?_toArray,CELLS_get h i (by omega)]
theorem own_one (w : World) (x : Int) : (w.alloc (.cells #[.int .u8 x] 5)).ownsRow w.heap.size 5 1 (.slice (some ⟨w.heap.size,0,none⟩) 1 1) 1 (CELLS [x]) :=
  World.ownsRow_lit w #[.int .u8 x] 1 (Nat.le_refl _) (by simp [maxLen]) rfl
theorem own_len {w : World} {base n : Nat} {v : Value} {l : List Int} (h : w.ownsRow base 5 1 v n (CELLS l)) : l.length = n := by
  have := h.1
  simpa [CELLS] using this

end Go.Proofs.YtkpgbhokoohimaaDoor

/- What Encode and EncodePrefix answer, of any proof; the law's awake. -/
namespace Go.Proofs.YtkpgbhokoohimaaDoor
open Go.RowKit
set_option maxRecDepth 100000

/-- what Places answers: the error, the places. -/
def PLA (i n : Nat) : Int × List Nat := if 4611686018427387904 < n then (30, []) else if n ≤ i then (32, []) else (0,PLCS (PSP i n))
theorem nil_row (w : World) : w.ownsRow w.heap.size 22 1 (.slice none 0 0) ([] : List Nat).length (UCELLS []) := World.ownsRow_nil _ _ _ _
theorem pla_ok (i n : Nat) (w : World) (hT : Tabled w) (h0 : 0 < w.heap.size) : Calls Tryd.prog 49 #[.int .u64 (i : Int),.int .u64 (n : Int)] w fun e w' =>
    ∃ v,e = .returned (.tuple #[v,.int .i64 (PLA i n).1]) ∧ w'.ownsRow w.heap.size 22 1 v (PLA i n).2.length (UCELLS (PLA i n).2) ∧ Below w.heap.size w w' := by
  unfold PLA
  split
  · refine (places_size _ _ (by omega) w).mono ?_
    rintro e w' ⟨rfl,rfl⟩
    exact ⟨_,rfl,nil_row w,Below.refl _ _⟩
  · split
    · refine (places_index _ _ (by omega) (by omega) w).mono ?_
      rintro e w' ⟨rfl,rfl⟩
      exact ⟨_,rfl,nil_row w,Below.refl _ _⟩
    · exact places_ok i n (by omega) (by omega) w hT h0
theorem nil_bytes' (w : World) (b : Nat) : w.ownsRow b 5 1 (.slice none 0 0) ([] : List Int).length (CELLS []) := World.ownsRow_nil _ _ _ _
/-- an error and bytes of one's own are answered. -/
def ANSB (w : World) (A : Int × List Int) (e : Ending) (w' : World) : Prop := ∃ v,e = .returned (.tuple #[v,.int .i64 A.1]) ∧ w'.ownsRow w.heap.size 5 1 v A.2.length (CELLS A.2) ∧ Below w.heap.size w w'
/-! the law's awake -/
end Go.Proofs.YtkpgbhokoohimaaDoor

/- What the document's Span answers. -/
namespace Go.Proofs.YtkpgbhokoohimaaDoor
open Go.RowKit

end Go.Proofs.YtkpgbhokoohimaaDoor

/- What the document's Places and PrefixPlaces answer; two lists of numbers that read the same or not. -/
namespace Go.Proofs.YtkpgbhokoohimaaDoor
open Go.RowKit
set_option maxRecDepth 100000

end Go.Proofs.YtkpgbhokoohimaaDoor

/- Two lists of numbers that read the same; a list written over and grown; does it have the mark alone? -/
namespace Go.Proofs.YtkpgbhokoohimaaDoor
open Go.RowKit
set_option maxRecDepth 100000

theorem grown_trans {w w1 w2 : World} {r r' : Option Nat} (h : w.grownBy w1 r) (h' : w1.grownBy w2 r') (hr : r' = r ∨ ∀ g,r' = some g → w.heap.size ≤ g) : w.grownBy w2 r := by
  obtain ⟨a1,a2,a3,a4,a5⟩ := h
  obtain ⟨b1,b2,b3,b4,b5⟩ := h'
  refine ⟨by rw [b1,a1],by rw [b2,a2],by rw [b3,a3],Nat.le_trans a4 b4,fun k hk hne => ?_⟩
  rw [b5 k (by omega) (fun e => ?_),a5 k hk hne]
  rcases hr with hr | hr
  · exact hne (by rw [e,hr])
  · have := hr k e.symm
    omega
theorem grown_size {w w' : World} {r : Option Nat} (h : w.grownBy w' r) : w.heap.size ≤ w'.heap.size := by
  obtain ⟨_,_,_,hs,_⟩ := h
  exact hs
theorem grown_alloc (w : World) (o : Obj) (r : Option Nat) : w.grownBy (w.alloc o) r := ⟨rfl,rfl,rfl,by simp,fun k hk _ => heap_alloc_old w o hk⟩
/-- the first j cells are the mark. -/
def OVER (xs : List Value) (u : Value) (j : Nat) : List Value := List.replicate j u ++ xs.drop j
theorem OVER_zero (xs : List Value) (u : Value) : OVER xs u 0 = xs := by simp [OVER]
theorem OVER_all (xs : List Value) (u : Value) : OVER xs u xs.length = List.replicate xs.length u := by simp [OVER]
theorem OVER_next {xs : List Value} {u : Value} {j : Nat} (hj : j < xs.length) : (OVER xs u j).set j u = OVER xs u (j + 1) := by
  unfold OVER
  rw [List.set_append_right _ _ (by simp)]
  simp only [List.length_replicate,Nat.sub_self]
  rw [List.drop_eq_getElem_cons hj,List.set_cons_zero,List.replicate_succ']
  simp
end Go.Proofs.YtkpgbhokoohimaaDoor

/- Steps of a region that draws its order, one operation at a time. -/
namespace Go.Proofs.YtkpgbhokoohimaaDoor
open Go.RowKit
set_option maxRecDepth 100000

theorem step_skip {ops : Array Oper} {o : Oper} {a : Act} {w w' : World} {K : Act → World → Prop} {Q : Exit → Act → World → Prop} {E : Prop} (hg : o.guard = none)
    (hrun : (execOp a.eval o).run Tryd.prog w = .ok .skip w') (h : K (a.put o.dst undef) w') : if Region.wanted o (yielded ops a.tmps) = true then Oper.wp Tryd.prog o a w K Q else E := by
  have hw : Region.wanted o (yielded ops a.tmps) = true := by simp [Region.wanted,hg]
  rw [if_pos hw]
  unfold Oper.wp
  rw [hrun]
  exact h
theorem run_skip {s : Sem Unit} {w w' : World} (h : s.run Tryd.prog w = .ok () w') : (do s; pure Next.skip : Sem Next).run Tryd.prog w = .ok .skip w' := by
  simp [h]
theorem anyHone {ops : Array Oper} {Q : Exit → Act → World → Prop} {md : Region.Mode} {S : World → Prop} {fuel : Nat} {listed : Array Bool} {a : Act} {w : World} {o : Oper} (i : Nat) (hr : Region.ready md ops listed = [i]) (ho : ops[i]? = some o)
    (h : ∀ K' : Act → World → Prop,Shut (∀ a w,S w → (S w → wpAnyH Tryd.prog md ops Q S fuel (listed.setIfInBounds i true) a w) → K' a w) → if Region.wanted o (yielded ops a.tmps) = true then Oper.wp Tryd.prog o a w K' Q else K' (a.put o.dst undef) w) : wpAnyH Tryd.prog md ops Q S (fuel + 1) listed a w :=
  wpAnyH_ready hr (by simp) (AllReadyH.cons ho h AllReadyH.nil)
theorem run_value {s : Sem Value} {w w' : World} {v : Value} (h : s.run Tryd.prog w = .ok v w') : (do pure (Next.value (← s)) : Sem Next).run Tryd.prog w = .ok (.value v) w' := by
  simp [h,Result.andThen]
end Go.Proofs.YtkpgbhokoohimaaDoor

/- Hashes as cells: held against each other, put behind a list, a list of one; a row whose block stays. -/
namespace Go.Proofs.YtkpgbhokoohimaaDoor
open Go.RowKit
set_option maxRecDepth 100000

theorem own_heap {w w' : World} {B : Nat} {t : TypeId} {s : Nat} {v : Value} {n : Nat} {xs : List Value} (h : w.ownsRow B t s v n xs) (hk : ∀ k,v.ownBlock = some k → w'.heap[k]? = w.heap[k]?) : w'.ownsRow B t s v n xs := by
  refine ⟨h.1, ?_⟩
  rcases h.2 with h | ⟨g,cap,cur,rfl,hb,hg,r⟩
  · exact .inl h
  · exact .inr ⟨g,cap,cur,rfl,hb,by rw [hk g rfl]; exact hg,r⟩
def ZND : List Int := List.replicate 32 0
/-- a hash that is zero, cell by cell. -/
abbrev ZARR : Array Value := #[.int .u8 0,.int .u8 0,.int .u8 0,.int .u8 0,.int .u8 0,.int .u8 0,.int .u8 0,.int .u8 0,.int .u8 0,.int .u8 0,.int .u8 0,.int .u8 0,.int .u8 0,.int .u8 0,.int .u8 0,.int .u8 0,.int .u8 0,.int .u8 0,.int .u8 0,.int .u8 0,.int .u8 0,.int .u8 0,.int .u8 0,.int .u8 0,.int .u8 0,.int .u8 0,.int .u8 0,.int .u8 0,.int .u8 0,.int .u8 0,.int .u8 0,.int .u8 0]
theorem ZARR_eq : (CELLS ZND).toArray = ZARR := rfl
theorem info_hashv : (Tryd.prog.info? 24).map (fun i => (i.zero,i.size,i.bytes)) = some (some (.agg ZARR),32,32) := by kernel_rfl
theorem app_hash {ops : Array Oper} {rest : List Oper} {o : Oper} {a : Act} {Q : Exit → Act → World → Prop} (w : World) (hgd : o.guard = none) (s x : Operand)
    (ho : o.op = .call { callee := .builtin .append,args := #[s,x],argTypes := #[25,25] })
    (base : Nat) (v : Value) (n : Nat) (xs : List Value) (hs : a.eval s = v) (hown : w.ownsRow base 24 32 v n xs)
    (b c : Nat) (y : List Int) (hl : y.length = 32) (hx : a.eval x = .slice (some ⟨b,0,none⟩) 1 c) (hc : Has w b (CELLS y).toArray 24)
    (hb : n ≤ 1000) (hbase : base ≤ w.heap.size)
    (h : ∀ g cap w',w'.ownsRow base 24 32 (.slice (some ⟨g,0,none⟩) (n + 1) cap) (n + 1) (xs ++ CELLS y) → w.grownBy w' v.ownBlock → (v.ownBlock = some g ∨ g = w.heap.size) → g < w'.heap.size → wpList Tryd.prog ops Q rest (a.put o.dst (.slice (some ⟨g,0,none⟩) (n + 1) cap)) w') : wpList Tryd.prog ops Q (o :: rest) a w := by
  obtain ⟨i,hi,hz,hs1,hby⟩ := info_parts info_hashv
  refine wpList_append_lies w hgd s x 25 ho base 24 i (.agg ZARR) 32 32 Tryd.underlying25 hi hz hs1 hby rfl (by decide) v n xs hs hown ⟨b,0,none⟩ 1 c (CELLS y) hx (by rw [CELLS,List.length_map,hl]) ?_ (CELLS_one y) (by decide) (by simp only [maxLen]; omega) (by omega) hbase w.heap.size rfl h
  intro j u hj
  rw [addr_add,Nat.zero_add,hc.cell,List.getElem?_toArray]
  exact hj
/-- a list of one aggregate. -/
theorem build_one {ops : Array Oper} {rest : List Oper} {o : Oper} {a : Act} {Q : Exit → Act → World → Prop} (w : World) (hg : o.guard = none) (t e : TypeId) (x : Operand) (ho : o.op = .buildSlice t 1 #[(0,x)]) (C : Array Value) (hx : a.eval x = .agg C) (n : Nat) (z : Value) (by' : Nat)
    (hu : Tryd.prog.underlying t = some (.slice e)) (hi : (Tryd.prog.info? e).map (fun i => (i.zero,i.size,i.bytes)) = some (some z,n,by')) (hC : C.size = n) (hz : z.cells.size = n) (hn : 0 < n) (hs : n ≤ 1000)
    (h : wpList Tryd.prog ops Q rest (a.put o.dst (.slice (some ⟨w.heap.size,0,none⟩) 1 1)) (w.alloc (.cells C e))) : wpList Tryd.prog ops Q (o :: rest) a w := by
  obtain ⟨i,hie,hz',hs1,_⟩ := info_parts hi
  refine wpList_buildSlice hg t e 1 _ ho C i z hu hie hz' (by rw [hs1]; omega) (by rw [hs1]; omega) ?_ h
  have := Great.fill_whole (s := n) hn [.agg C] ((Array.range (1 * i.size)).map (z.cells[· % z.cells.size]!)) (fun v hv => by simp at hv; subst hv; exact hC) (by simp [hs1])
  simp [Value.cells] at this
  rw [hs1]
  simp [hx]
  rw [hs1] at this
  exact this
theorem items_cells (d : Nat) (h g : List Int) (hh : h.length = 32) (hg : g.length = 32) (w : World) : ∀ is : List Nat,(∀ i ∈ is,i < 32) → (Op.eqItems (d + 1) 5 1 (CELLS h).toArray (CELLS g).toArray is).run Tryd.prog w = .ok (is.all fun i => h.getD i 0 == g.getD i 0) w
  | [],_ => by simp [Op.eqItems]
  | i :: is,hi => by
    have hp : Tryd.prog.plainKey 5 = true := by kernel_rfl
    have hi32 : i < 32 := hi i (by simp)
    have h1 := run_part_plain (P := Tryd.prog) w hp (show (CELLS h).toArray[i]? = some (.int .u8 (h.getD i 0)) by rw [List.getElem?_toArray,CELLS_get h i (by omega)])
    have h2 := run_part_plain (P := Tryd.prog) w hp (show (CELLS g).toArray[i]? = some (.int .u8 (g.getD i 0)) by rw [List.getElem?_toArray,CELLS_get g i (by omega)])
    have h3 := run_equalIn_int (P := Tryd.prog) w d 5 .u8 .u8 (h.getD i 0) (g.getD i 0) Tryd.underlying5
    have ih := items_cells d h g hh hg w is (fun j hj => hi j (by simp [hj]))
    rw [Op.eqItems,Nat.mul_one]
    simp only [Sem.run_bind,h1,h2,h3,Result.andThen_ok]
    by_cases e : h.getD i 0 = g.getD i 0
    · have e2 : (h.getD i 0 == g.getD i 0) = true := by simpa using e
      rw [List.all_cons,e2,Bool.true_and,if_neg (by simp)]
      exact ih
    · have e2 : (h.getD i 0 == g.getD i 0) = false := by simpa using e
      rw [List.all_cons,e2]
      simp
theorem equal_cells (h g : List Int) (hh : h.length = 32) (hg : g.length = 32) (w : World) : (Op.equalIn 10000 24 (.agg (CELLS h).toArray) (.agg (CELLS g).toArray)).run Tryd.prog w = .ok ((List.range 32).all fun i => h.getD i 0 == g.getD i 0) w := by
  obtain ⟨i8,hi,_⟩ := Option.map_eq_some_iff.1 info_u8
  rw [run_equalIn_array (P := Tryd.prog) w 9999 (CELLS h).toArray (CELLS g).toArray Tryd.underlying24 hi]
  have hc : Tryd.prog.cellsOf 5 = 1 := by kernel_rfl
  rw [hc]
  exact items_cells 9998 h g hh hg w _ (fun i hi => by simpa using hi)
theorem neq_cells (h : List Int) (hh : h.length = 32) (x y : Operand) (w : World) : (do eqGuard .neq 24 x y (.agg (CELLS h).toArray) (.agg (CELLS h).toArray); binOp .neq 24 (.agg (CELLS h).toArray) (.agg (CELLS h).toArray) : Sem Value).run Tryd.prog w = .ok (.bool false) w := by
  simp only [Sem.run_bind,run_eqGuard_agg (P := Tryd.prog) w .neq 24 x y _ _ (by kernel_rfl),Result.andThen_ok,run_neq_struct,equal_cells h h hh hh]
  simp
theorem all_cells {h g : List Int} (hh : h.length = 32) (hg : g.length = 32) : ((List.range 32).all fun i => h.getD i 0 == g.getD i 0) = decide (h = g) := by
  by_cases e : h = g
  · subst e
    simp
  · rw [decide_eq_false e,Bool.eq_false_iff]
    intro hx
    rw [List.all_eq_true] at hx
    apply e
    apply List.ext_getElem (by omega)
    intro i h1 h2
    have := hx i (by simp; omega)
    simpa [List.getD,h1,h2] using this
theorem equal_hashes {h g : List Int} (hh : h.length = 32) (hg : g.length = 32) (w : World) : (Op.equalIn 10000 24 (.agg (CELLS h).toArray) (.agg (CELLS g).toArray)).run Tryd.prog w = .ok (decide (h = g)) w := by
  rw [equal_cells h g hh hg,all_cells hh hg]
theorem neq_hashes {h g : List Int} (hh : h.length = 32) (hg : g.length = 32) (x y : Operand) (w : World) : (do eqGuard .neq 24 x y (.agg (CELLS h).toArray) (.agg (CELLS g).toArray); binOp .neq 24 (.agg (CELLS h).toArray) (.agg (CELLS g).toArray) : Sem Value).run Tryd.prog w = .ok (.bool (!decide (h = g))) w := by
  simp only [Sem.run_bind,run_eqGuard_agg (P := Tryd.prog) w .neq 24 x y _ _ (by kernel_rfl),Result.andThen_ok,run_neq_struct,equal_hashes hh hg]
theorem eql_hashes {h g : List Int} (hh : h.length = 32) (hg : g.length = 32) (x y : Operand) (w : World) : (do eqGuard .eql 24 x y (.agg (CELLS h).toArray) (.agg (CELLS g).toArray); binOp .eql 24 (.agg (CELLS h).toArray) (.agg (CELLS g).toArray) : Sem Value).run Tryd.prog w = .ok (.bool (decide (h = g))) w := by
  simp only [Sem.run_bind,run_eqGuard_agg (P := Tryd.prog) w .eql 24 x y _ _ (by kernel_rfl),Result.andThen_ok,run_eql_struct,equal_hashes hh hg]
theorem info_hashn : (Tryd.prog.info? 24).map (fun i => (i.size,i.bytes,i.zero.isSome)) = some (32,32,true) := by kernel_rfl
theorem make_nodes (N : Nat) (hN : N ≤ 1000) (w : World) : ∃ cur : Array Value,cur.size = N * 32 ∧ (Instr.makeSlice 25 (.int .i64 0) (.int .i64 (N : Int))).run Tryd.prog w = .ok (.slice (some ⟨w.heap.size,0,none⟩) 0 N) (w.alloc (.cells cur 24)) := by
  obtain ⟨i,hi,h⟩ := Option.map_eq_some_iff.1 info_hashn
  simp only [Prod.mk.injEq] at h
  obtain ⟨h1,h2,h3⟩ := h
  obtain ⟨z,hz⟩ := Option.isSome_iff_exists.1 h3
  have h := run_make (P := Tryd.prog) w 25 24 i z Tryd.underlying25 hi hz .i64 .i64 0 N (by omega) (by omega) (by rw [h2]; omega) (by omega)
  refine ⟨madeCells z.cells (N * i.size), ?_, ?_⟩
  · rw [size_madeCells,h1]
  · simpa using h
end Go.Proofs.YtkpgbhokoohimaaDoor
