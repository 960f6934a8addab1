/- What New and the Sum of a Hasher answer. -/
import Derived.Test.YtihdhaamphdljaaDoorHashSum
namespace Go.Proofs.YtihdhaamphdljaaDoor
open Go.RowKit
set_option maxRecDepth 100000

theorem begin_lt (i : Nat) : BEGIN.getD i 0 < 2 ^ 32 := by
  by_cases h : i < 8
  · have : ∀ j, j < 8 → BEGIN.getD j 0 < 2 ^ 32 := by decide
    exact this i h
  · have : BEGIN.length = 8 := rfl
    rw [List.getD_eq_getElem?_getD, List.getElem?_eq_none (by omega)]
    decide
theorem Tabled.begin {w : World} (h : Tabled w) : w.rangeAt 0 0 (ULIST .u32 8 fun i => BEGIN.getD i 0) := fun j v hv => by
  have hj : j < 8 := by have := (List.getElem?_eq_some_iff.1 hv).1; rw [ULIST_length] at this; exact this
  rw [ULIST_get _ _ _ _ hj] at hv
  rw [Nat.zero_add, h.2.1 j hj, hv]
theorem first_ok (d : Int) (w : World) (hT : Tabled w) : Calls Tryd.prog 20 #[.int .i64 d] w fun e w' => e = .returned (.agg (UARR .u8 32 (FIRST d))) ∧ Below w.heap.size w w' := by
  have hz := zero32
  have cj := joined_ok (fun i => BEGIN.getD i 0) begin_lt
  have cn := narrow_ok d (BYTEW fun i => BEGIN.getD i 0)
  have HT : Aside (Tabled w) := hT
  clear hT
  go_enter Tryd.func20, Tryd.ntmps20
  go_wp2_with (first
    | (refine wpList_load_mid rfl 61 _ rfl 0 0 rfl (ULIST .u32 8 fun i => BEGIN.getD i 0) _ (World.rangeAt_alloc HT.out.begin _) Tryd.underlying61 rfl (by rw [ULIST_length]; exact info_w8) ?_))
  rw [← UARR_list]
  refine (cj _).mono ?_
  rintro e w1 ⟨rfl, hb1⟩
  clear cj
  have R : Aside (Below w.heap.size w w1 ∧ Has w1 w.heap.size (UARR .u8 32 fun _ => 0) 35) := ⟨((Below.refl _ _).alloc (Nat.le_refl _) _).trans (hb1.mono (by simp)), (Has.new w _ _).keep hb1⟩
  clear hb1
  go_wp2_with fail
  refine (cn _).mono ?_
  rintro e w2 ⟨rfl, hb2⟩
  clear cn
  have Q : Aside (Below w.heap.size w w2 ∧ Has w2 w.heap.size (UARR .u8 32 fun _ => 0) 35) := ⟨R.out.1.trans (hb2.mono R.out.1.size), R.out.2.keep hb2⟩
  clear R hb2 hz
  go_wp2_with (first
    | (refine wpList_store_row rfl 35 _ _ rfl _ _ rfl rfl _ _ Q.out.2 (info_HASH _) (by rw [UARR_size, UARR_size]) (UARR_one _ _ _) ?_))
  refine bodyPost_ret (v := .agg (UARR .u8 32 (FIRST d))) ?_ rfl ⟨rfl, below_row Q.out.1 (Nat.le_refl _) _⟩
  exact results_cell_row rfl _ _ w.heap.size 35 _ (0, 0) _ rfl (Q.out.2.row _) Tryd.underlying35 rfl (info_HASH _)
theorem setRow_last2 (w : World) (o : Obj) (c c' : Array Value) (t : TypeId) : ((w.alloc o).alloc (.cells c t)).setRow (w.heap.size + 1) c' = (w.alloc o).alloc (.cells c' t) := by
  have e : (w.alloc o).heap.size = w.heap.size + 1 := by simp
  rw [← e]
  exact World.setRow_alloc_new _ _ _ _
theorem new_ok (d : Int) (w : World) (hT : Tabled w) : Calls Tryd.prog 5 #[.int .i64 d] w fun e w' => ∃ g, e = .returned (.pointer (some ⟨g, 0, none⟩)) ∧ w.heap.size ≤ g ∧ HASHER w' g d [] ∧ Below w.heap.size w w' := by
  have cf := fun w (h : Tabled w) => first_ok d w h
  have HT : Aside (Tabled w) := hT
  clear hT
  go_enter Tryd.func5, Tryd.ntmps5
  go_wp2_with fail
  refine (cf _ (by exact HT.out)).mono ?_
  rintro e w1 ⟨rfl, hb1⟩
  clear cf
  have R : Aside (Below w.heap.size w w1) := hb1
  clear hb1
  go_wp2_with (first | (refine wpList_build rfl 50 _ rfl (by kernel_rfl) ?_; generalize hc : Option.getD (Tryd.prog.built 50 _) #[] = C; obtain rfl : HARR d (FIRST d) (fun _ => 0) 0 = C := by { rw [← hc]; kernel_rfl }; clear hc))
  go_ret
  refine ⟨w1.heap.size, rfl, R.out.size, ⟨fun _ => 0, Has.new _ _ _, fun _ => (by decide : (0 : Nat) < 256), fun i hi => ?_⟩, R.out.alloc R.out.size _⟩
  simp at hi
theorem zero_hasher : ∀ w, (zeroValue 50).run Tryd.prog w = .ok (.agg (HARR 0 (fun _ => 0) (fun _ => 0) 0)) w := (zero_of_info (P := Tryd.prog) (n := 98) (by kernel_rfl)).1
/-- the hash of a text. -/
def HASHOF (d : Int) (l : List Nat) : Nat → Nat := STATE d (l ++ END l.length) ((l ++ END l.length).length / 64)
theorem HASHER.below {w w' : World} {g : Nat} {d : Int} {l : List Nat} (h : HASHER w g d l) (hb : Below w.heap.size w w') : HASHER w' g d l := by
  obtain ⟨b, h1, h2⟩ := h
  exact ⟨b, h1.keep hb, h2⟩
theorem sumh_ok (g : Nat) (d : Int) (l : List Nat) (w : World) (hH : HASHER w g d l) (hT : Tabled w) (hl : Small8 l) (hlen : l.length < 2 ^ 60) : Calls Tryd.prog 10 #[.pointer (some ⟨g, 0, none⟩)] w fun e w' => e = .returned (.agg (UARR .u8 32 (HASHOF d l))) ∧ Below w.heap.size w w' := by
  have hz := zero32
  have hz98 := zero_hasher
  obtain ⟨b, hHas, hb8, hbl⟩ := hH
  have ce := ending_ok l.length hlen
  have H : Aside (Tabled w ∧ Small8 l ∧ l.length < 2 ^ 60 ∧ Has w g (HARR d (STATE d l (l.length / 64)) b l.length) 50 ∧ (∀ i, b i < 256) ∧ ∀ i, i < l.length % 64 → b i = l.getD (64 * (l.length / 64) + i) 0) := ⟨hT, hl, hlen, hHas, hb8, hbl⟩
  have ct : ((w.alloc (.cells (UARR .u8 32 fun _ => 0) 35)).alloc (.cells (HARR d (STATE d l (l.length / 64)) b l.length) 50)).cell? ⟨g, 97, none⟩ = some (.int .u64 (l.length : Nat)) := by rw [((hHas.alloc _).alloc _).cell, HARR_taken]
  clear hT hl hlen hHas hb8 hbl
  go_enter Tryd.func10, Tryd.ntmps10
  go_wp2_with (first
    | (refine wpList_load_row rfl 50 _ rfl _ rfl 50 (HARR d (STATE d l (l.length / 64)) b l.length) (0, 0) _ (H.out.2.2.2.1.alloc _) Tryd.underlying50 rfl (info_HASHER _ _ _ _) ?_)
    | (refine wpList_store_row rfl 50 _ _ rfl _ _ rfl rfl 50 (HARR 0 (fun _ => 0) (fun _ => 0) 0) (Has.at _ _ _ (by simp)) (info_HASHER _ _ _ _) (by rw [HARR_size, HARR_size]) (HARR_one _ _ _ _) ?_; rw [setRow_last2]))
  refine (ce _).mono ?_
  rintro e w1 ⟨a1, c1, rfl, ht1, hc1, hs1, hb1⟩
  clear ce
  have hH1 : HASHER w1 (w.heap.size + 1) d l := by
    obtain ⟨h1, h2, h3, h4, h5, h6⟩ := H.out
    exact ⟨b, (Has.at _ _ _ (by simp)).keep hb1, h5, h6⟩
  have hT1 : Tabled w1 := (H.out.1.below (((Below.refl _ _).alloc (Nat.le_refl _) _).alloc (by simp) _)).below hb1
  have cw := write_ok (w.heap.size + 1) d l (END l.length) a1 (NOUGHTS l.length + 9) c1 w1 hH1 hT1 (by have := H.out.1.2.2; omega) ht1 (fun x hx => by have := hs1 x hx; simp at this; omega) hc1 H.out.2.1 (by have := H.out.2.2.1; have : NOUGHTS l.length < 64 := Nat.mod_lt _ (by decide); omega)
  have R : Aside (Below w.heap.size w w1 ∧ Has w1 w.heap.size (UARR .u8 32 fun _ => 0) 35) := ⟨(((Below.refl _ _).alloc (Nat.le_refl _) _).alloc (by simp) _).trans (hb1.mono (by simp; omega)), ((Has.new w _ _).alloc _).keep hb1⟩
  clear ht1 hc1 hs1 hb1 hH1 hT1 hz hz98
  go_wp2_with fail
  refine cw.mono ?_
  rintro e w2 ⟨rfl, ⟨b2, hH2, _⟩, hG2⟩
  clear cw
  have S : Aside (Below w.heap.size w w2 ∧ Has w2 w.heap.size (UARR .u8 32 fun _ => 0) 35 ∧ w2.rangeAt (w.heap.size + 1) 1 (ULIST .u8 32 (HASHOF d l))) :=
    ⟨R.out.1.grown hG2 R.out.1.size (fun k e => by simp at e; omega), (hG2.block _ R.out.2.lt (by simp)).trans R.out.2, hH2.state⟩
  clear R hH2 hG2
  go_wp2_with (first
    | (refine wpList_load_mid rfl 35 _ rfl (w.heap.size + 1) 1 rfl (ULIST .u8 32 (HASHOF d l)) _ S.out.2.2 Tryd.underlying35 rfl (by rw [ULIST_length]; exact info_hash) ?_; rw [← UARR_list])
    | (refine wpList_store_row rfl 35 _ _ rfl _ _ rfl rfl _ _ S.out.2.1 (info_HASH _) (by rw [UARR_size, UARR_size]) (UARR_one _ _ _) ?_))
  refine bodyPost_ret (v := .agg (UARR .u8 32 (HASHOF d l))) ?_ rfl ⟨rfl, below_row S.out.1 (Nat.le_refl _) _⟩
  exact results_cell_row rfl _ _ w.heap.size 35 _ (0, 0) _ rfl (S.out.2.1.row _) Tryd.underlying35 rfl (info_HASH _)
end Go.Proofs.YtihdhaamphdljaaDoor
