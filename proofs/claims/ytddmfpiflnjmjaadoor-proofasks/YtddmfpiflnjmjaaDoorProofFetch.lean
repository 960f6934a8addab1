/- The source that keeps in mind what it is asked; what fetch answers, asked of it. -/
import Derived.Test.YtddmfpiflnjmjaaDoorProofLists
import Derived.Great.BuildSlice
namespace Go.Proofs.YtddmfpiflnjmjaaDoor
open Go.RowKit
set_option maxRecDepth 100000

/-- the spy: what it was asked, from which question on it refuses. -/
structure SPY (w : World) (B sb : Nat) (R : Int) (A : List Nat) (v : Value) : Prop where
  has : Has w sb #[v, .int .i64 R] 34
  row : w.ownsRow B 22 1 v A.length (UCELLS A)
  ne : v.ownBlock ≠ some sb
  lo : B ≤ sb
/-- nothing but the spy and its list has changed. -/
structure ASK (w w' : World) (sb : Nat) (v : Value) : Prop where
  os : w'.os = w.os
  tape : w'.tape = w.tape
  output : w'.output = w.output
  size : w.heap.size ≤ w'.heap.size
  block : ∀ k, k < w.heap.size → k ≠ sb → some k ≠ v.ownBlock → w'.heap[k]? = w.heap[k]?
theorem SPY.below {w w' : World} {B sb : Nat} {R : Int} {A : List Nat} {v : Value} (h : SPY w B sb R A v) (hb : Below w.heap.size w w') : SPY w' B sb R A v := ⟨h.has.keep hb, own_below h.row hb, h.ne, h.lo⟩
theorem ASK.below {w w' : World} {B sb : Nat} {R : Int} {A : List Nat} {v : Value} (h : ASK w w' sb v) (hs : SPY w B sb R A v) : Below B w w' :=
  ⟨h.os, h.tape, h.output, h.size, fun k hk => by
    have := hs.has.lt
    have := hs.lo
    refine h.block k (by omega) (by omega) fun e => ?_
    have := (hs.row.lt k e.symm).1
    omega⟩
theorem own_heap {w w' : World} {B : Nat} {t : TypeId} {s : Nat} {v : Value} {n : Nat} {xs : List Value} (h : w.ownsRow B t s v n xs) (hk : ∀ k, v.ownBlock = some k → w'.heap[k]? = w.heap[k]?) : w'.ownsRow B t s v n xs := by
  refine ⟨h.1, ?_⟩
  rcases h.2 with h | ⟨g, cap, cur, rfl, hb, hg, r⟩
  · exact .inl h
  · exact .inr ⟨g, cap, cur, rfl, hb, by rw [hk g rfl]; exact hg, r⟩
theorem ASK.own {w w' : World} {sb : Nat} {v : Value} (h : ASK w w' sb v) {B : Nat} {t : TypeId} {s : Nat} {u : Value} {n : Nat} {xs : List Value} (ho : w.ownsRow B t s u n xs) (h1 : u.ownBlock ≠ some sb) (h2 : ∀ k, u.ownBlock = some k → v.ownBlock ≠ some k) : w'.ownsRow B t s u n xs :=
  own_heap ho fun k hk => h.block k (ho.lt k hk).2 (fun e => h1 (by rw [hk, e])) (fun e => h2 k hk e.symm)
/-- the hash that the spy tells of the place p, asked behind k others. -/
def HND (p k : Nat) : List Int := [(p : Int) % 256, (p : Int) / 256 % 256, ((k : Int) + 1) % 256] ++ List.replicate 29 0
def ZND : List Int := List.replicate 32 0
/-- what the spy answers. -/
def ASKED (w : World) (B sb : Nat) (R : Int) (A : List Nat) (v : Value) (p : Nat) (h : List Int) (E : Int) (e : Ending) (w' : World) : Prop :=
  e = .returned (.tuple #[.agg (CELLS h).toArray, .int .i64 E]) ∧ ∃ v', SPY w' B sb R (A ++ [p]) v' ∧ ASK w w' sb v ∧ (v'.ownBlock = v.ownBlock ∨ ∀ g, v'.ownBlock = some g → w.heap.size ≤ g)
/-- a hash that is zero, cell by cell. -/
abbrev ZARR : Array Value := #[.int .u8 0, .int .u8 0, .int .u8 0, .int .u8 0, .int .u8 0, .int .u8 0, .int .u8 0, .int .u8 0, .int .u8 0, .int .u8 0, .int .u8 0, .int .u8 0, .int .u8 0, .int .u8 0, .int .u8 0, .int .u8 0, .int .u8 0, .int .u8 0, .int .u8 0, .int .u8 0, .int .u8 0, .int .u8 0, .int .u8 0, .int .u8 0, .int .u8 0, .int .u8 0, .int .u8 0, .int .u8 0, .int .u8 0, .int .u8 0, .int .u8 0, .int .u8 0]
theorem ZARR_eq : (CELLS ZND).toArray = ZARR := rfl
theorem results_hash {fn : Func} {p q : Tmp} {ty : TypeId} (h : fn.results = #[.cell p ty, .tmp q]) (tmps : Array Value) (w : World) (g : Nat) (t : TypeId) (cs : Array Value) (fr : Nat × Nat) (k : Nat) (el : TypeId)
    (hp : tmps.getD p undef = .pointer (some ⟨g, 0, none⟩)) (hg : w.heap[g]? = some (.cells cs t fr)) (v : Value) (hq : tmps.getD q undef = v)
    (hu : Tryd.prog.underlying ty = some (.array k el)) (hi : (Tryd.prog.info? ty).map (·.size) = some cs.size) :
    (results fn tmps).run Tryd.prog w = .ok (.tuple #[.agg cs, v]) w := by
  have hp' : tmps[p]?.getD undef = .pointer (some ⟨g, 0, none⟩) := by simpa using hp
  have hq' : tmps[q]?.getD undef = v := by simpa using hq
  simp [results, h, hp', hq', asAddr, run_loadVar_row w g t ty cs fr (.array k el) hg hu rfl hi]
theorem asked_done {w w2 : World} {B sb n g cap : Nat} {R : Int} {A : List Nat} {v : Value} {p : Nat} (nq : Nat) (c : Array Value)
    (S : Has w2 sb #[.slice (some ⟨g, 0, none⟩) (n + 1) cap, .int .i64 R] 34 ∧ w2.ownsRow B 22 1 (.slice (some ⟨g, 0, none⟩) (n + 1) cap) (n + 1) (UCELLS (A ++ [p])) ∧ some g ≠ some sb ∧ B ≤ sb ∧ ASK w w2 sb v ∧ (some g = v.ownBlock ∨ w.heap.size ≤ g) ∧ Has w2 w.heap.size ZARR 82 ∧ w.heap.size ≠ sb ∧ A.length = n ∧ w.heap.size ≠ g) :
    ∃ v', SPY ((w2.drewN nq).setRow w.heap.size c) B sb R (A ++ [p]) v' ∧ ASK w ((w2.drewN nq).setRow w.heap.size c) sb v ∧ (v'.ownBlock = v.ownBlock ∨ ∀ g, v'.ownBlock = some g → w.heap.size ≤ g) := by
  obtain ⟨s1, s2, s3, s4, s5, s6, s7, s8, s9, s10⟩ := S
  have hb := below_row (Below.refl w.heap.size (w2.drewN nq)) (Nat.le_refl _) c
  refine ⟨.slice (some ⟨g, 0, none⟩) (n + 1) cap, ⟨Has.row_other (show Has (w2.drewN nq) sb _ _ from s1) (fun e => s8 e.symm) c, ?_, s3, s4⟩, ⟨?_, ?_, ?_, ?_, fun k hk h1 h2 => ?_⟩, ?_⟩
  · rw [List.length_append, s9]
    refine own_heap (w := w2) s2 fun k hk => ?_
    have hk' : g = k := by simpa [Value.ownBlock] using hk
    subst hk'
    rcases s2.2 with ⟨e, _⟩ | ⟨g', cap', cur, e, _, hg, _⟩
    · cases e
    · cases e
      rw [hg]
      exact Has.row_other (show Has (w2.drewN nq) g cur 22 from hg) (fun e => s10 e.symm) c
  · exact (hb.os).trans s5.os
  · exact (hb.tape).trans s5.tape
  · exact (hb.output).trans s5.output
  · exact Nat.le_trans s5.size hb.size
  · exact (hb.block k hk).trans (s5.block k hk h1 h2)
  · rcases s6 with e | e
    · exact .inl e
    · exact .inr fun k hk => by
        have hk' : g = k := by simpa [Value.ownBlock] using hk
        omega
set_option maxHeartbeats 2000000 in
theorem node_no (B sb : Nat) (R : Int) (A : List Nat) (v : Value) (p : Nat) (hA : A.length ≤ 200) (w : World) (h : SPY w B sb R A v) (hr : R < (A.length : Int) + 1) :
    Calls Tryd.prog 110 #[.pointer (some ⟨sb, 0, none⟩), .int .u64 (p : Int)] w (ASKED w B sb R A v p ZND 50) := by
  obtain ⟨n, hn⟩ : ∃ n, A.length = n := ⟨_, rfl⟩
  have hH := h.has.alloc (.cells ZARR 82)
  have h0 : (w.alloc (.cells #[.int .u8 0, .int .u8 0, .int .u8 0, .int .u8 0, .int .u8 0, .int .u8 0, .int .u8 0, .int .u8 0, .int .u8 0, .int .u8 0, .int .u8 0, .int .u8 0, .int .u8 0, .int .u8 0, .int .u8 0, .int .u8 0, .int .u8 0, .int .u8 0, .int .u8 0, .int .u8 0, .int .u8 0, .int .u8 0, .int .u8 0, .int .u8 0, .int .u8 0, .int .u8 0, .int .u8 0, .int .u8 0, .int .u8 0, .int .u8 0, .int .u8 0, .int .u8 0] 82)).cell? ⟨sb, 0, none⟩ = some v := hH.cell 0
  have HA : Aside (A.length = n ∧ n ≤ 200 ∧ SPY w B sb R A v) := ⟨hn, by omega, h⟩
  have hlen : w.heap.size < (w.alloc (.cells #[.int .u8 0, .int .u8 0, .int .u8 0, .int .u8 0, .int .u8 0, .int .u8 0, .int .u8 0, .int .u8 0, .int .u8 0, .int .u8 0, .int .u8 0, .int .u8 0, .int .u8 0, .int .u8 0, .int .u8 0, .int .u8 0, .int .u8 0, .int .u8 0, .int .u8 0, .int .u8 0, .int .u8 0, .int .u8 0, .int .u8 0, .int .u8 0, .int .u8 0, .int .u8 0, .int .u8 0, .int .u8 0, .int .u8 0, .int .u8 0, .int .u8 0, .int .u8 0] 82)).heap.size := by simp
  rw [hn] at hr
  clear hn hA h hH
  go_enter Tryd.func110, Tryd.ntmps110
  go_wp2_with (at_builtin; refine app_more _ rfl (.tmp 10) (.tmp 12) rfl B v n (UCELLS A) rfl (by have := HA.out.2.2.row; rw [HA.out.1] at this; exact (this.alloc _).alloc _) (w.heap.size + 1) 1 (p : Int) rfl (by rw [World.cell?_alloc_at _ _ _ _ (by simp)]; rfl) (by have := HA.out.2.1; omega) (by have := HA.out.2.2.lo; have := HA.out.2.2.has.lt; simp; omega) ?_; intro g cap w1 hown hgrow hat hg; have hH1 : Has w1 sb #[v, .int .i64 R] 34 := ((HA.out.2.2.has.alloc _).alloc _).grown hgrow HA.out.2.2.ne; have c0 : w1.cell? ⟨sb, 0, none⟩ = some v := hH1.cell 0; have z0 : w1.frozen? ⟨sb, 0, none⟩ = false := hH1.frozen 0)
  have hR1 : Has w1 w.heap.size ZARR 82 := ((Has.new w ZARR 82).alloc _).grown hgrow (fun e => by have := (HA.out.2.2.row.lt _ e).2; omega)
  have hne : w.heap.size ≠ sb := by have := HA.out.2.2.has.lt; omega
  have hgs : some g ≠ some sb := app_apart HA.out.2.2.ne (by have := HA.out.2.2.has.lt; simp; omega) hat
  have hH2 := hH1.set 0 (.slice (some ⟨g, 0, none⟩) (n + 1) cap)
  have hR2 := hR1.other (a := ⟨sb, 0, none⟩) hne (.slice (some ⟨g, 0, none⟩) (n + 1) cap)
  have hown2 := hown.kept (grown_set w1 sb 0 (.slice (some ⟨g, 0, none⟩) (n + 1) cap)) (.inr fun e => hgs e)
  have hA2 : ASK w (w1.setCell ⟨sb, 0, none⟩ (.slice (some ⟨g, 0, none⟩) (n + 1) cap)) sb v := by
    have h1 := grown_trans (grown_alloc w (.cells ZARR 82) v.ownBlock) (grown_trans (grown_alloc _ _ v.ownBlock) hgrow (.inl rfl)) (.inl rfl)
    refine ⟨h1.os, h1.tape, h1.output, ?_, fun k hk h2 h3 => ?_⟩
    · exact Nat.le_trans h1.size (KeepsWalks.setCell w1 ⟨sb, 0, none⟩ (.slice (some ⟨g, 0, none⟩) (n + 1) cap)).size
    · rw [Below.heap_setCell _ _ _ k h2]
      exact h1.block k hk h3
  have S : Aside (Has (w1.setCell ⟨sb, 0, none⟩ (.slice (some ⟨g, 0, none⟩) (n + 1) cap)) sb #[.slice (some ⟨g, 0, none⟩) (n + 1) cap, .int .i64 R] 34 ∧ (w1.setCell ⟨sb, 0, none⟩ (.slice (some ⟨g, 0, none⟩) (n + 1) cap)).ownsRow B 22 1 (.slice (some ⟨g, 0, none⟩) (n + 1) cap) (n + 1) (UCELLS (A ++ [p])) ∧ some g ≠ some sb ∧ B ≤ sb ∧ ASK w (w1.setCell ⟨sb, 0, none⟩ (.slice (some ⟨g, 0, none⟩) (n + 1) cap)) sb v ∧ (some g = v.ownBlock ∨ w.heap.size ≤ g) ∧ Has (w1.setCell ⟨sb, 0, none⟩ (.slice (some ⟨g, 0, none⟩) (n + 1) cap)) w.heap.size ZARR 82 ∧ w.heap.size ≠ sb ∧ A.length = n ∧ w.heap.size ≠ g) := by
    refine ⟨hH2, by rw [UCELLS_snoc]; exact hown2, hgs, HA.out.2.2.lo, hA2, hat.imp (fun e => e.symm) (fun e => by rw [e]; simp; omega), hR2, hne, HA.out.1, ?_⟩
    rcases hat with e | e
    · have := (HA.out.2.2.row.lt g e).2
      omega
    · rw [e]
      simp
      omega
  clear hown hgrow hat hg hH1 c0 z0 hR1 hH2 hR2 hown2 hA2 hgs hne HA h0 hlen
  generalize w1.setCell ⟨sb, 0, none⟩ (.slice (some ⟨g, 0, none⟩) (n + 1) cap) = w2 at *
  have c0 : w2.cell? ⟨sb, 0, none⟩ = some (.slice (some ⟨g, 0, none⟩) (n + 1) cap) := S.out.1.cell 0
  have c1 : w2.cell? ⟨sb, 1, none⟩ = some (.int .i64 R) := S.out.1.cell 1
  go_quiet (fail)
  go_wp2_with (refine wpList_store_row rfl 82 (.tmp 4) (.tmp 26) rfl _ _ rfl rfl 82 _ (show Has (w2.drewN nq) w.heap.size ZARR 82 from S.out.2.2.2.2.2.2.1) (by kernel_rfl) rfl (by kernel_rfl) ?_)
  refine bodyPost_ret (v := .tuple #[.agg (CELLS ZND).toArray, .int .i64 50]) ?_ rfl ⟨rfl, asked_done nq _ S.out⟩
  exact results_hash rfl _ _ w.heap.size 82 _ (0, 0) _ _ rfl (Has.row (show Has (w2.drewN nq) w.heap.size ZARR 82 from S.out.2.2.2.2.2.2.1) _) _ rfl Tryd.underlying82 (by kernel_rfl)
set_option maxHeartbeats 2000000 in
theorem node_yes (B sb : Nat) (R : Int) (A : List Nat) (v : Value) (p : Nat) (hp : p < 2 ^ 64) (hA : A.length ≤ 200) (w : World) (h : SPY w B sb R A v) (hr : ¬ R < (A.length : Int) + 1) :
    Calls Tryd.prog 110 #[.pointer (some ⟨sb, 0, none⟩), .int .u64 (p : Int)] w (ASKED w B sb R A v p (HND p A.length) 0) := by
  obtain ⟨n, hn⟩ : ∃ n, A.length = n := ⟨_, rfl⟩
  have hH := h.has.alloc (.cells ZARR 82)
  have h0 : (w.alloc (.cells #[.int .u8 0, .int .u8 0, .int .u8 0, .int .u8 0, .int .u8 0, .int .u8 0, .int .u8 0, .int .u8 0, .int .u8 0, .int .u8 0, .int .u8 0, .int .u8 0, .int .u8 0, .int .u8 0, .int .u8 0, .int .u8 0, .int .u8 0, .int .u8 0, .int .u8 0, .int .u8 0, .int .u8 0, .int .u8 0, .int .u8 0, .int .u8 0, .int .u8 0, .int .u8 0, .int .u8 0, .int .u8 0, .int .u8 0, .int .u8 0, .int .u8 0, .int .u8 0] 82)).cell? ⟨sb, 0, none⟩ = some v := hH.cell 0
  have HA : Aside (A.length = n ∧ n ≤ 200 ∧ SPY w B sb R A v) := ⟨hn, by omega, h⟩
  have hlen : w.heap.size < (w.alloc (.cells #[.int .u8 0, .int .u8 0, .int .u8 0, .int .u8 0, .int .u8 0, .int .u8 0, .int .u8 0, .int .u8 0, .int .u8 0, .int .u8 0, .int .u8 0, .int .u8 0, .int .u8 0, .int .u8 0, .int .u8 0, .int .u8 0, .int .u8 0, .int .u8 0, .int .u8 0, .int .u8 0, .int .u8 0, .int .u8 0, .int .u8 0, .int .u8 0, .int .u8 0, .int .u8 0, .int .u8 0, .int .u8 0, .int .u8 0, .int .u8 0, .int .u8 0, .int .u8 0] 82)).heap.size := by simp
  rw [hn] at hr ⊢
  have hw : IntKind.u64.wrap ((p : Int) / 256) = (p : Int) / 256 := by rw [wrapU]; omega
  clear hn hA h hH hp
  go_enter Tryd.func110, Tryd.ntmps110
  go_wp2_with (at_builtin; refine app_more _ rfl (.tmp 10) (.tmp 12) rfl B v n (UCELLS A) rfl (by have := HA.out.2.2.row; rw [HA.out.1] at this; exact (this.alloc _).alloc _) (w.heap.size + 1) 1 (p : Int) rfl (by rw [World.cell?_alloc_at _ _ _ _ (by simp)]; rfl) (by have := HA.out.2.1; omega) (by have := HA.out.2.2.lo; have := HA.out.2.2.has.lt; simp; omega) ?_; intro g cap w1 hown hgrow hat hg; have hH1 : Has w1 sb #[v, .int .i64 R] 34 := ((HA.out.2.2.has.alloc _).alloc _).grown hgrow HA.out.2.2.ne; have c0 : w1.cell? ⟨sb, 0, none⟩ = some v := hH1.cell 0; have z0 : w1.frozen? ⟨sb, 0, none⟩ = false := hH1.frozen 0)
  have hR1 : Has w1 w.heap.size ZARR 82 := ((Has.new w ZARR 82).alloc _).grown hgrow (fun e => by have := (HA.out.2.2.row.lt _ e).2; omega)
  have hne : w.heap.size ≠ sb := by have := HA.out.2.2.has.lt; omega
  have hgs : some g ≠ some sb := app_apart HA.out.2.2.ne (by have := HA.out.2.2.has.lt; simp; omega) hat
  have hH2 := hH1.set 0 (.slice (some ⟨g, 0, none⟩) (n + 1) cap)
  have hR2 := hR1.other (a := ⟨sb, 0, none⟩) hne (.slice (some ⟨g, 0, none⟩) (n + 1) cap)
  have hown2 := hown.kept (grown_set w1 sb 0 (.slice (some ⟨g, 0, none⟩) (n + 1) cap)) (.inr fun e => hgs e)
  have hA2 : ASK w (w1.setCell ⟨sb, 0, none⟩ (.slice (some ⟨g, 0, none⟩) (n + 1) cap)) sb v := by
    have h1 := grown_trans (grown_alloc w (.cells ZARR 82) v.ownBlock) (grown_trans (grown_alloc _ _ v.ownBlock) hgrow (.inl rfl)) (.inl rfl)
    refine ⟨h1.os, h1.tape, h1.output, ?_, fun k hk h2 h3 => ?_⟩
    · exact Nat.le_trans h1.size (KeepsWalks.setCell w1 ⟨sb, 0, none⟩ (.slice (some ⟨g, 0, none⟩) (n + 1) cap)).size
    · rw [Below.heap_setCell _ _ _ k h2]
      exact h1.block k hk h3
  have S : Aside (Has (w1.setCell ⟨sb, 0, none⟩ (.slice (some ⟨g, 0, none⟩) (n + 1) cap)) sb #[.slice (some ⟨g, 0, none⟩) (n + 1) cap, .int .i64 R] 34 ∧ (w1.setCell ⟨sb, 0, none⟩ (.slice (some ⟨g, 0, none⟩) (n + 1) cap)).ownsRow B 22 1 (.slice (some ⟨g, 0, none⟩) (n + 1) cap) (n + 1) (UCELLS (A ++ [p])) ∧ some g ≠ some sb ∧ B ≤ sb ∧ ASK w (w1.setCell ⟨sb, 0, none⟩ (.slice (some ⟨g, 0, none⟩) (n + 1) cap)) sb v ∧ (some g = v.ownBlock ∨ w.heap.size ≤ g) ∧ Has (w1.setCell ⟨sb, 0, none⟩ (.slice (some ⟨g, 0, none⟩) (n + 1) cap)) w.heap.size ZARR 82 ∧ w.heap.size ≠ sb ∧ A.length = n ∧ w.heap.size ≠ g) := by
    refine ⟨hH2, by rw [UCELLS_snoc]; exact hown2, hgs, HA.out.2.2.lo, hA2, hat.imp (fun e => e.symm) (fun e => by rw [e]; simp; omega), hR2, hne, HA.out.1, ?_⟩
    rcases hat with e | e
    · have := (HA.out.2.2.row.lt g e).2
      omega
    · rw [e]
      simp
      omega
  clear hown hgrow hat hg hH1 c0 z0 hR1 hH2 hR2 hown2 hA2 hgs hne HA h0 hlen
  generalize w1.setCell ⟨sb, 0, none⟩ (.slice (some ⟨g, 0, none⟩) (n + 1) cap) = w2 at *
  have c0 : w2.cell? ⟨sb, 0, none⟩ = some (.slice (some ⟨g, 0, none⟩) (n + 1) cap) := S.out.1.cell 0
  have c1 : w2.cell? ⟨sb, 1, none⟩ = some (.int .i64 R) := S.out.1.cell 1
  go_quiet (fail)
  go_wp2_with (refine wpList_store_row rfl 82 (.tmp 4) (.tmp 38) rfl _ _ rfl rfl 82 _ (show Has (w2.drewN nq) w.heap.size ZARR 82 from S.out.2.2.2.2.2.2.1) (by kernel_rfl) rfl (by kernel_rfl) ?_)
  refine bodyPost_ret (v := .tuple #[.agg (CELLS (HND p n)).toArray, .int .i64 0]) ?_ rfl ⟨rfl, asked_done nq _ S.out⟩
  exact results_hash rfl _ _ w.heap.size 82 _ (0, 0) _ _ rfl (Has.row (show Has (w2.drewN nq) w.heap.size ZARR 82 from S.out.2.2.2.2.2.2.1) _) _ rfl Tryd.underlying82 (by kernel_rfl)
/-- what the spy tells of the first j places. -/
def NDS (P : List Nat) (j : Nat) : List Int := (List.range j).flatMap fun i => HND (P.getD i 0) i
theorem NDS_succ (P : List Nat) (j : Nat) : NDS P (j + 1) = NDS P j ++ HND (P.getD j 0) j := by simp [NDS, List.range_succ]
theorem HND_length (p k : Nat) : (HND p k).length = 32 := by simp [HND]
theorem NDS_length (P : List Nat) (j : Nat) : (NDS P j).length = 32 * j := by
  induction j with
  | zero => simp [NDS]
  | succ j ih =>
    rw [NDS_succ, List.length_append, ih, HND_length]
    omega
theorem info_hashn : (Tryd.prog.info? 82).map (fun i => (i.size, i.bytes, i.zero.isSome)) = some (32, 32, true) := by kernel_rfl
theorem make_nodes (N : Nat) (hN : N ≤ 1000) (w : World) : ∃ cur : Array Value, cur.size = N * 32 ∧ (Instr.makeSlice 35 (.int .i64 0) (.int .i64 (N : Int))).run Tryd.prog w = .ok (.slice (some ⟨w.heap.size, 0, none⟩) 0 N) (w.alloc (.cells cur 82)) := by
  obtain ⟨i, hi, h⟩ := Option.map_eq_some_iff.1 info_hashn
  simp only [Prod.mk.injEq] at h
  obtain ⟨h1, h2, h3⟩ := h
  obtain ⟨z, hz⟩ := Option.isSome_iff_exists.1 h3
  have h := run_make (P := Tryd.prog) w 35 82 i z Tryd.underlying35 hi hz .i64 .i64 0 N (by omega) (by omega) (by rw [h2]; omega) (by omega)
  refine ⟨madeCells z.cells (N * i.size), ?_, ?_⟩
  · rw [size_madeCells, h1]
  · simpa using h
theorem info_hashv : (Tryd.prog.info? 82).map (fun i => (i.zero, i.size, i.bytes)) = some (some (.agg ZARR), 32, 32) := by kernel_rfl
theorem app_hash {ops : Array Oper} {rest : List Oper} {o : Oper} {a : Act} {Q : Exit → Act → World → Prop} (w : World) (hgd : o.guard = none) (s x : Operand)
    (ho : o.op = .call { callee := .builtin .append, args := #[s, x], argTypes := #[35, 35] })
    (base : Nat) (v : Value) (n : Nat) (xs : List Value) (hs : a.eval s = v) (hown : w.ownsRow base 82 32 v n xs)
    (b c : Nat) (y : List Int) (hl : y.length = 32) (hx : a.eval x = .slice (some ⟨b, 0, none⟩) 1 c) (hc : Has w b (CELLS y).toArray 82)
    (hb : n ≤ 1000) (hbase : base ≤ w.heap.size)
    (h : ∀ g cap w', w'.ownsRow base 82 32 (.slice (some ⟨g, 0, none⟩) (n + 1) cap) (n + 1) (xs ++ CELLS y) → w.grownBy w' v.ownBlock → (v.ownBlock = some g ∨ g = w.heap.size) → g < w'.heap.size → wpList Tryd.prog ops Q rest (a.put o.dst (.slice (some ⟨g, 0, none⟩) (n + 1) cap)) w') : wpList Tryd.prog ops Q (o :: rest) a w := by
  obtain ⟨i, hi, hz, hs1, hby⟩ := info_parts info_hashv
  refine wpList_append_lies w hgd s x 35 ho base 82 i (.agg ZARR) 32 32 Tryd.underlying35 hi hz hs1 hby rfl (by decide) v n xs hs hown ⟨b, 0, none⟩ 1 c (CELLS y) hx (by rw [CELLS, List.length_map, hl]) ?_ (CELLS_one y) (by decide) (by simp only [maxLen]; omega) (by omega) hbase w.heap.size rfl h
  intro j u hj
  rw [addr_add, Nat.zero_add, hc.cell, List.getElem?_toArray]
  exact hj
/-- a list of one aggregate. -/
theorem build_one {ops : Array Oper} {rest : List Oper} {o : Oper} {a : Act} {Q : Exit → Act → World → Prop} (w : World) (hg : o.guard = none) (t e : TypeId) (x : Operand) (ho : o.op = .buildSlice t 1 #[(0, x)]) (C : Array Value) (hx : a.eval x = .agg C) (n : Nat) (z : Value) (by' : Nat)
    (hu : Tryd.prog.underlying t = some (.slice e)) (hi : (Tryd.prog.info? e).map (fun i => (i.zero, i.size, i.bytes)) = some (some z, n, by')) (hC : C.size = n) (hz : z.cells.size = n) (hn : 0 < n) (hs : n ≤ 1000)
    (h : wpList Tryd.prog ops Q rest (a.put o.dst (.slice (some ⟨w.heap.size, 0, none⟩) 1 1)) (w.alloc (.cells C e))) : wpList Tryd.prog ops Q (o :: rest) a w := by
  obtain ⟨i, hie, hz', hs1, _⟩ := info_parts hi
  refine wpList_buildSlice hg t e 1 _ ho C i z hu hie hz' (by rw [hs1]; omega) (by rw [hs1]; omega) ?_ h
  have := Great.fill_whole (s := n) hn [.agg C] ((Array.range (1 * i.size)).map (z.cells[· % z.cells.size]!)) (fun v hv => by simp at hv; subst hv; exact hC) (by simp [hs1])
  simp [Value.cells] at this
  rw [hs1]
  simp [hx]
  rw [hs1] at this
  exact this
/-- the spy, the list of places, the nodes so far. -/
structure FET (w0 w : World) (B sb gp : Nat) (R : Int) (P : List Nat) (cp : Nat) (j : Nat) (v u : Value) : Prop where
  spy : SPY w B sb R (P.take j) v
  row : w.ownsRow B 82 32 u j (CELLS (NDS P j))
  pl : ∀ i, i < P.length → w.cell? ⟨gp, i, none⟩ = some (.int .u64 ((P.getD i 0 : Nat) : Int))
  gl : gp < w.heap.size
  bel : Below B w0 w
  us : u.ownBlock ≠ some sb
  uv : ∀ k, u.ownBlock = some k → v.ownBlock ≠ some k
  ps : gp ≠ sb
  pu : u.ownBlock ≠ some gp
  pv : v.ownBlock ≠ some gp
  lo : B ≤ w0.heap.size
  kp : ∀ k, k < w0.heap.size → k ≠ sb → w.heap[k]? = w0.heap[k]?
  vn : ∀ k, v.ownBlock = some k → w0.heap.size ≤ k
  un : ∀ k, u.ownBlock = some k → w0.heap.size ≤ k
  sz : w0.heap.size ≤ w.heap.size
theorem FET.asked {w0 w w' : World} {B sb gp : Nat} {R : Int} {P : List Nat} {cp j : Nat} {v u v' : Value} (h : FET w0 w B sb gp R P cp j v u) (hj : j < P.length) (hS : SPY w' B sb R (P.take j ++ [P.getD j 0]) v') (hA : ASK w w' sb v) (ho : v'.ownBlock = v.ownBlock ∨ ∀ g, v'.ownBlock = some g → w.heap.size ≤ g) :
    SPY w' B sb R (P.take (j + 1)) v' ∧ w'.ownsRow B 82 32 u j (CELLS (NDS P j)) ∧ (∀ i, i < P.length → w'.cell? ⟨gp, i, none⟩ = some (.int .u64 ((P.getD i 0 : Nat) : Int))) ∧ gp < w'.heap.size ∧ Below B w0 w' ∧ (∀ k, u.ownBlock = some k → v'.ownBlock ≠ some k) ∧ v'.ownBlock ≠ some gp ∧ (∀ k, k < w0.heap.size → k ≠ sb → w'.heap[k]? = w0.heap[k]?) ∧ (∀ k, v'.ownBlock = some k → w0.heap.size ≤ k) ∧ w0.heap.size ≤ w'.heap.size := by
  have hb := hA.below h.spy
  have hsz := h.sz
  refine ⟨by rw [take_getD hj]; exact hS, hA.own h.row h.us h.uv, fun i hi => ?_, Nat.lt_of_lt_of_le h.gl hA.size, h.bel.trans hb, fun k hk e => ?_, fun e => ?_, fun k hk hne => ?_, fun k hk => ?_, Nat.le_trans hsz hA.size⟩
  · rw [← h.pl i hi]
    exact World.cell?_of_block (a := ⟨gp, i, none⟩) (hA.block gp h.gl h.ps fun e => h.pv e.symm)
  · rcases ho with ho | ho
    · exact h.uv k hk (by rw [← ho]; exact e)
    · have h1 := ho k e
      have h2 := (h.row.lt k hk).2
      omega
  · rcases ho with ho | ho
    · exact h.pv (by rw [← ho]; exact e)
    · have h1 := ho gp e
      have := h.gl
      omega
  · refine (hA.block k (by omega) hne fun e => ?_).trans (h.kp k hk hne)
    have := h.vn k e.symm
    omega
  · rcases ho with ho | ho
    · exact h.vn k (by rw [← ho]; exact hk)
    · have := ho k hk
      omega
/-- what fetch answers, and what the spy was asked. -/
def FETCHED (w : World) (B sb : Nat) (R : Int) (P : List Nat) (e : Ending) (w' : World) : Prop :=
  ∃ v, Below B w w' ∧ (∀ k, k < w.heap.size → k ≠ sb → w'.heap[k]? = w.heap[k]?) ∧ (∀ k, v.ownBlock = some k → w.heap.size ≤ k) ∧ w.heap.size ≤ w'.heap.size ∧
  ((P.length ≤ R.toNat ∧ SPY w' B sb R P v ∧ ∃ u, e = .returned (.tuple #[u, .int .i64 0]) ∧ w'.ownsRow B 82 32 u P.length (CELLS (NDS P P.length)) ∧ u.ownBlock ≠ some sb ∧ (∀ k, u.ownBlock = some k → v.ownBlock ≠ some k) ∧ (∀ k, u.ownBlock = some k → w.heap.size ≤ k)) ∨
   (R.toNat < P.length ∧ SPY w' B sb R (P.take (R.toNat + 1)) v ∧ e = .returned (.tuple #[.slice none 0 0, .int .i64 50])))
theorem FETCHED.all {w w' : World} {B sb : Nat} {R : Int} {P : List Nat} {gp cp j : Nat} {v u : Value} (h : FET w w' B sb gp R P cp j v u) (hj : j = P.length) (hR : (j : Int) ≤ R ∨ j = 0) : FETCHED w B sb R P (.returned (.tuple #[u, .int .i64 0])) w' := by
  subst hj
  have hs := h.spy
  rw [List.take_length] at hs
  exact ⟨v, h.bel, h.kp, h.vn, h.sz, .inl ⟨by omega, hs, u, rfl, h.row, h.us, h.uv, h.un⟩⟩
set_option maxHeartbeats 4000000 in
theorem fetch_ok (B sb gp cp : Nat) (R : Int) (P : List Nat) (v0 : Value) (w : World) (hP : P.length ≤ 188) (h0 : 0 < P.length) (hp64 : ∀ p ∈ P, p < 2 ^ 64) (hB : B ≤ w.heap.size) (hS : SPY w B sb R [] v0) (hv0 : v0.ownBlock = none)
    (hpl : ∀ i, i < P.length → w.cell? ⟨gp, i, none⟩ = some (.int .u64 ((P.getD i 0 : Nat) : Int))) (hgl : gp < w.heap.size) (hps : gp ≠ sb) :
    Calls Tryd.prog 47 #[.iface 32 (.pointer (some ⟨sb, 0, none⟩)), .slice (some ⟨gp, 0, none⟩) P.length cp] w (FETCHED w B sb R P) := by
  obtain ⟨N, hN⟩ : ∃ N, P.length = N := ⟨_, rfl⟩
  rw [hN]
  obtain ⟨cur, hcs, hmk⟩ := make_nodes N (by omega) w
  have F0 : Aside (FET w (w.alloc (.cells cur 82)) B sb gp R P cp 0 v0 (.slice (some ⟨w.heap.size, 0, none⟩) 0 N)) := by
    refine ⟨⟨hS.has.alloc _, hS.row.alloc _, hS.ne, hS.lo⟩, World.ownsRow_made w cur N hB (by simp only [maxLen]; omega) (by rw [hcs]), fun i hi => ?_, by simp; omega, (Below.refl _ _).alloc hB _, fun e => ?_, fun k _ e => ?_, hps, fun e => ?_, fun e => ?_, hB, fun k hk _ => heap_alloc_old w _ hk, fun k e => ?_, fun k e => ?_, by simp⟩
    · rw [← hpl i hi]
      exact World.cell?_of_block (a := ⟨gp, i, none⟩) (heap_alloc_old w _ hgl)
    · have := hS.has.lt
      have e : w.heap.size = sb := by simpa [Value.ownBlock] using e
      omega
    · rw [hv0] at e
      cases e
    · have e : w.heap.size = gp := by simpa [Value.ownBlock] using e
      omega
    · rw [hv0] at e
      cases e
    · rw [hv0] at e
      cases e
    · have e : w.heap.size = k := by simpa [Value.ownBlock] using e
      omega
  have HA : Aside (P.length = N ∧ N ≤ 188 ∧ 0 < N ∧ ∀ p ∈ P, p < 2 ^ 64) := ⟨hN, by omega, by omega, hp64⟩
  clear hP h0 hp64 hB hS hv0 hpl hgl hps hN hcs
  go_enter Tryd.func47, Tryd.ntmps47
  go_wp2
  clear hmk
  go_loopg [6, 16] N (fun q s6 s16 wx => ∃ (j : Nat) (v : Value), s16 = .int .i64 (j : Int) ∧ Aside (j + q = N ∧ ((j : Int) ≤ R ∨ j = 0) ∧ FET w wx B sb gp R P cp j v s6))
  case atStart => exact ⟨0, v0, rfl, by omega, .inr rfl, F0.out⟩
  case round =>
    obtain ⟨j, v, rfl, A⟩ := hrel
    obtain ⟨hj, hR, F⟩ := A.out
    obtain ⟨a1, a2, a3, a4⟩ := HA.out
    cases gk with
    | zero =>
      obtain rfl : j = N := by omega
      have hlt : ¬ (j : Int) < (j : Int) := by omega
      have R1 : Aside (FETCHED w B sb R P (.returned (.tuple #[u6, .int .i64 0])) wr) := FETCHED.all F a1.symm hR
      clear hj hR F a1 a2 a3 a4 A HA F0
      go_wp2
      go_ret2
      exact R1.out
    | succ q =>
      have hlt : (j : Int) < (N : Int) := by omega
      have hc := F.pl j (by omega)
      have hpj : P.getD j 0 < 2 ^ 64 := by
        apply a4
        rw [List.getD_eq_getElem?_getD, List.getElem?_eq_getElem (by omega)]
        exact List.getElem_mem _
      have htl : (P.take j).length = j := by rw [List.length_take]; omega
      have hjP : j < P.length := by omega
      by_cases hr : R < (j : Int) + 1
      · have cn := node_no B sb R (P.take j) v (P.getD j 0) (by omega) wr F.spy (by rw [htl]; exact hr)
        have K : Aside (∀ v' w', SPY w' B sb R (P.take j ++ [P.getD j 0]) v' → ASK wr w' sb v → (v'.ownBlock = v.ownBlock ∨ ∀ g, v'.ownBlock = some g → wr.heap.size ≤ g) → ∀ o, FETCHED w B sb R P (.returned (.tuple #[.slice none 0 0, .int .i64 50])) (w'.alloc o)) := fun v' w' s1 s2 s3 o => by
          obtain ⟨t1, _, _, _, t5, _, _, t8, t9, t10⟩ := F.asked hjP s1 s2 s3
          have e : R.toNat + 1 = j + 1 := by omega
          have hlo := F.lo
          have hsz := t5.size
          exact ⟨v', t5.alloc (by omega) o, fun k hk hne => (heap_alloc_old w' o (by omega)).trans (t8 k hk hne), t9, by simp; omega, .inr ⟨by omega, by rw [e]; exact ⟨t1.has.alloc o, t1.row.alloc o, t1.ne, t1.lo⟩, rfl⟩⟩
        generalize P.getD j 0 = y at *
        clear hj hR F a1 a2 a3 a4 A HA F0 hpj htl hjP
        go_wp2_with fail
        refine cn.mono ?_
        rintro e w1 ⟨rfl, v', s1, s2, s3⟩
        clear cn hc
        go_wp2_with (refine wpList_store_row rfl 82 (.tmp 9) (.tmp 24) rfl _ _ rfl rfl 82 _ (Has.new w1 _ _) (by kernel_rfl) rfl (by kernel_rfl) ?_; rw [World.setRow_alloc_new])
        go_ret2
        exact K.out v' w1 s1 s2 s3 _
      · have cn := node_yes B sb R (P.take j) v (P.getD j 0) hpj (by omega) wr F.spy (by rw [htl]; exact hr)
        rw [htl] at cn
        have hnd := NDS_succ P j
        have hl32 := HND_length (P.getD j 0) j
        have K : Aside (j + 1 + q = N ∧ ((j + 1 : Nat) : Int) ≤ R ∧ j ≤ 188 ∧ ∀ v' w', SPY w' B sb R (P.take j ++ [P.getD j 0]) v' → ASK wr w' sb v → (v'.ownBlock = v.ownBlock ∨ ∀ g, v'.ownBlock = some g → wr.heap.size ≤ g) → SPY w' B sb R (P.take (j + 1)) v' ∧ w'.ownsRow B 82 32 u6 j (CELLS (NDS P j)) ∧ (∀ i, i < P.length → w'.cell? ⟨gp, i, none⟩ = some (.int .u64 ((P.getD i 0 : Nat) : Int))) ∧ gp < w'.heap.size ∧ Below B w w' ∧ (∀ k, u6.ownBlock = some k → v'.ownBlock ≠ some k) ∧ v'.ownBlock ≠ some gp ∧ (∀ k, k < w.heap.size → k ≠ sb → w'.heap[k]? = w.heap[k]?) ∧ (∀ k, v'.ownBlock = some k → w.heap.size ≤ k) ∧ w.heap.size ≤ w'.heap.size) :=
          ⟨by omega, by omega, by omega, fun v' w' s1 s2 s3 => F.asked hjP s1 s2 s3⟩
        have U : Aside (u6.ownBlock ≠ some sb ∧ gp ≠ sb ∧ u6.ownBlock ≠ some gp ∧ B ≤ w.heap.size ∧ ∀ k, u6.ownBlock = some k → w.heap.size ≤ k) := ⟨F.us, F.ps, F.pu, F.lo, F.un⟩
        have E1 : Aside (wrap64 ((j : Int) + 1) = ((j + 1 : Nat) : Int)) := by show wrap64 ((j : Int) + 1) = ((j + 1 : Nat) : Int); unfold wrap64; omega
        have HN : Aside (NDS P (j + 1) = NDS P j ++ HND (P.getD j 0) j) := hnd
        clear hj hR F a1 a2 a3 a4 A F0 hpj htl hjP hnd
        generalize hH : HND (P.getD j 0) j = H at *
        clear hH
        obtain ⟨y, hy⟩ : ∃ y, P.getD j 0 = y := ⟨_, rfl⟩
        rw [hy] at hc cn
        have HY : Aside (P.getD j 0 = y) := hy
        clear hy
        go_wp2_with fail
        refine cn.mono ?_
        rintro e w1 ⟨rfl, v', s1, s2, s3⟩
        clear cn hc
        have T : Aside (SPY w1 B sb R (P.take (j + 1)) v' ∧ w1.ownsRow B 82 32 u6 j (CELLS (NDS P j)) ∧ (∀ i, i < P.length → w1.cell? ⟨gp, i, none⟩ = some (.int .u64 ((P.getD i 0 : Nat) : Int))) ∧ gp < w1.heap.size ∧ Below B w w1 ∧ (∀ k, u6.ownBlock = some k → v'.ownBlock ≠ some k) ∧ v'.ownBlock ≠ some gp ∧ (∀ k, k < w.heap.size → k ≠ sb → w1.heap[k]? = w.heap[k]?) ∧ (∀ k, v'.ownBlock = some k → w.heap.size ≤ k) ∧ w.heap.size ≤ w1.heap.size) := K.out.2.2.2 v' w1 (by rw [HY.out]; exact s1) s2 s3
        have hBw : Aside (B ≤ w1.heap.size) := by have h1 := T.out.2.2.2.2.1.size; have h2 := U.out.2.2.2.1; show B ≤ w1.heap.size; omega
        clear s1 s2 s3
        go_wp2_with (first
          | (refine wpList_store_row rfl 82 (.tmp 9) (.tmp 24) rfl _ _ rfl rfl 82 _ (Has.new w1 _ _) (info_arr hl32) (by simp [CELLS, hl32]) (cells_one H) ?_; rw [World.setRow_alloc_new])
          | (refine wpList_load_row rfl 82 (.tmp 9) rfl w1.heap.size rfl 82 (CELLS H).toArray (0, 0) _ (Has.new w1 _ _) Tryd.underlying82 rfl (info_arr hl32) ?_)
          | (refine build_one _ rfl 35 82 (.tmp 30) rfl (CELLS H).toArray rfl 32 _ _ Tryd.underlying35 info_hashv (by simp [CELLS, hl32]) rfl (by decide) (by decide) ?_)
          | (at_builtin; refine app_hash _ rfl (.tmp 29) (.tmp 31) rfl B u6 j (CELLS (NDS P j)) rfl ((T.out.2.1.alloc _).alloc _) _ 1 H hl32 rfl (Has.new _ _ _) (by have := K.out.2.2.1; omega) (by have := hBw.out; simp; omega) ?_; intro g cap w2 hown hgrow hat hg))
        have Z : Aside (j + 1 + q = N ∧ ((((j + 1 : Nat) : Int) ≤ R) ∨ j + 1 = 0) ∧ FET w w2 B sb gp R P cp (j + 1) v' (.slice (some ⟨g, 0, none⟩) (j + 1) cap)) := by
          obtain ⟨t1, t2, t3, t4, t5, t6, t7, t8, t9, t10⟩ := T.out
          obtain ⟨x1, x2, x3, x4, x5⟩ := U.out
          have hb1 : Below w1.heap.size w1 ((w1.alloc (.cells (CELLS H).toArray 82)).alloc (.cells (CELLS H).toArray 82)) := ((Below.refl _ _).alloc (Nat.le_refl _) _).alloc (by simp) _
          have hsz := hb1.size
          have hsl := t1.has.lt
          have s1 := t1.below hb1
          have hBw := hBw.out
          refine ⟨K.out.1, .inl K.out.2.1, ⟨⟨s1.has.grown hgrow x1, s1.row.kept hgrow ?_, s1.ne, s1.lo⟩, by rw [HN.out, CELLS_append]; exact hown, fun i hi => ?_, ?_, ?_, app_apart x1 (by omega) hat, fun k hk e => ?_, x2, app_apart x3 (by omega) hat, t7, x4, fun k hk hne => ?_, t9, fun k hk => ?_, by have := hgrow.size; omega⟩⟩
          · cases hbk : v'.ownBlock with
            | none => exact .inl rfl
            | some k => exact .inr fun e => t6 k e.symm hbk
          · rw [← t3 i hi, ← hb1.cell (p := ⟨gp, i, none⟩) t4]
            exact World.cell?_of_block (a := ⟨gp, i, none⟩) (hgrow.block gp (by omega) fun e => x3 e.symm)
          · have := hgrow.size
            omega
          · exact (t5.trans (hb1.mono hBw)).grown hgrow (by omega) (fun k e => (t2.lt k e).1)
          · have hk' : g = k := by simpa [Value.ownBlock] using hk
            subst hk'
            rcases hat with h | h
            · exact t6 g h e
            · have := (t1.row.lt g e).2
              omega
          · refine (hgrow.block k (by omega) fun e => ?_).trans ((hb1.block k (by omega)).trans (t8 k hk hne))
            have := x5 k e.symm
            omega
          · have hk' : g = k := by simpa [Value.ownBlock] using hk
            subst hk'
            rcases hat with h | h
            · exact x5 g h
            · omega
        clear hown hgrow hat hg K U T hBw HN HY hl32
        have e1 := E1.out
        go_wp2
        go_roundg q
        case measure => exact Nat.lt_succ_self _
        case rel => exact ⟨j + 1, v', by first | rfl | (rw [E1.out]), Z.out⟩
theorem fetch_none (B sb cp : Nat) (ap : Option Addr) (R : Int) (v0 : Value) (w : World) (hB : B ≤ w.heap.size) (hS : SPY w B sb R [] v0) (hv0 : v0.ownBlock = none) :
    Calls Tryd.prog 47 #[.iface 32 (.pointer (some ⟨sb, 0, none⟩)), .slice ap 0 cp] w (FETCHED w B sb R []) := by
  obtain ⟨cur, hcs, hmk⟩ := make_nodes 0 (by omega) w
  have hmk' : (Instr.makeSlice 35 (.int .i64 0) (.int .i64 0)).run Tryd.prog w = .ok (.slice (some ⟨w.heap.size, 0, none⟩) 0 0) (w.alloc (.cells cur 82)) := hmk
  have K : Aside (FETCHED w B sb R [] (.returned (.tuple #[.slice (some ⟨w.heap.size, 0, none⟩) 0 0, .int .i64 0])) (w.alloc (.cells cur 82))) := by
    refine ⟨v0, (Below.refl _ _).alloc hB _, fun k hk _ => heap_alloc_old w _ hk, fun k e => (by rw [hv0] at e; cases e), by simp, .inl ⟨Nat.zero_le _, ⟨hS.has.alloc _, hS.row.alloc _, hS.ne, hS.lo⟩, _, rfl, World.ownsRow_made w cur 0 hB (by simp [maxLen]) (by rw [hcs]), fun e => ?_, fun k _ e => ?_, fun k e => ?_⟩⟩
    · have := hS.has.lt
      have e : w.heap.size = sb := by simpa [Value.ownBlock] using e
      omega
    · rw [hv0] at e
      cases e
    · have e : w.heap.size = k := by simpa [Value.ownBlock] using e
      omega
  clear hmk hS hv0 hB
  go_enter Tryd.func47, Tryd.ntmps47
  go_wp2
  refine wp_loop_rounds 1 ?_
  rw [rounds_succ]
  go_wp2
  go_ret2
  exact K.out
end Go.Proofs.YtddmfpiflnjmjaaDoor
