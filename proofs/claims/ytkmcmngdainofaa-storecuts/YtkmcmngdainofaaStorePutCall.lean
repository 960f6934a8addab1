/- chunk.put of the next place, as called. -/
import Derived.Test.YtkmcmngdainofaaStorePutOk
namespace Go.Proofs.Ytkmcmngdainofaa
open Go.RowKit
set_option maxRecDepth 100000

theorem chunkfind_any {B g p : Nat} {rs : List ROW} {w : World} (hC : CHUNK w B g rs) (W : World) (hW : Below w.heap.size w W) : Calls Try.prog 39 #[.pointer (some ⟨g, 0, none⟩), .int .u64 (p : Int)] W fun e w' => SEARCHED (rs.map ROW.rw) (p / 64) W e w' := by
  obtain ⟨a, cap, hbx, hlie, hfrm, ho⟩ := hC.lies
  refine find_ok g a rs.length cap (rs.map ROW.rw) p (by simp) hC.few hC.rises W (fun h => ?_) ((hbx.keep hW).cell 0)
  obtain ⟨g1, o, e, hl, hc⟩ := hlie h
  exact ⟨g1, o, e, by have := hW.size; omega, fun j r hr => by
    obtain ⟨c1, c2, c3⟩ := hc j r hr
    exact ⟨(hW.cell (by exact hl)).trans c1, (hW.cell (by exact hl)).trans c2, (hW.cell (by exact hl)).trans c3⟩⟩
theorem chunkfind_there {B g p i : Nat} {rs : List ROW} {r : ROW} {w : World} (hC : CHUNK w B g rs) (hr : rs[i]? = some r) (hn : r.num = p / 64) (W : World) (hW : Below w.heap.size w W) : Calls Try.prog 39 #[.pointer (some ⟨g, 0, none⟩), .int .u64 (p : Int)] W fun e w' => e = .returned (.tuple #[.int .i64 (i : Int), .bool true]) ∧ Below W.heap.size W w' :=
  (chunkfind_any hC W hW).mono fun e w' ⟨j, b, he, hst, hbi, hb⟩ => by
    have hq : (rs.map ROW.rw)[i]? = some r.rw := by rw [List.getElem?_map, hr]; rfl
    have hji : j = i := by
      rcases Nat.lt_trichotomy j i with h | h | h
      · have hil : i < (rs.map ROW.rw).length := (List.getElem?_eq_some_iff.1 hq).1
        have h2 := hst.2.2 j _ (Nat.le_refl _) (List.getElem?_eq_getElem (by omega))
        have h3 := hC.rises j i _ _ h (List.getElem?_eq_getElem (by omega)) hq
        have e2 : r.rw.num = p / 64 := hn
        omega
      · exact h
      · have h2 := hst.2.1 i _ h hq
        have e2 : r.rw.num = p / 64 := hn
        omega
    subst hji
    have hbt : b = true := hbi.2 ⟨_, hq, hn⟩
    subst hbt
    exact ⟨he, hb⟩
theorem chunkfind_end {B g p : Nat} {rs : List ROW} {w : World} (hC : CHUNK w B g rs) (hall : ∀ r ∈ rs, r.num < p / 64) (W : World) (hW : Below w.heap.size w W) : Calls Try.prog 39 #[.pointer (some ⟨g, 0, none⟩), .int .u64 (p : Int)] W fun e w' => e = .returned (.tuple #[.int .i64 (rs.length : Int), .bool false]) ∧ Below W.heap.size W w' :=
  (chunkfind_any hC W hW).mono fun e w' ⟨j, b, he, hst, hbi, hb⟩ => by
    have hjl : j = rs.length := by
      have h1 : j ≤ rs.length := by have := hst.1; simpa using this
      by_cases h : j < rs.length
      · have hq : (rs.map ROW.rw)[j]? = some rs[j].rw := by rw [List.getElem?_map, List.getElem?_eq_getElem h]; rfl
        have h2 := hst.2.2 j _ (Nat.le_refl _) hq
        have h3 := hall rs[j] (List.getElem_mem h)
        have e2 : rs[j].rw.num = rs[j].num := rfl
        omega
      · omega
    subst hjl
    have hbf : b = false := by
      cases hb2 : b
      · rfl
      · obtain ⟨r, hr, _⟩ := hbi.1 hb2
        rw [List.getElem?_eq_none (by simp)] at hr
        cases hr
    subst hbf
    exact ⟨he, hb⟩
theorem NEXT.low {w : World} {B g p i : Nat} {rs : List ROW} {r : ROW} (hC : CHUNK w B g rs) (hr : rs[i]? = some r) (hn : r.num = p / 64) : ∀ s ∈ rs.take i, s.num < p / 64 := fun s hs => by
  obtain ⟨j, hj⟩ := List.getElem?_of_mem hs
  have hji : j < i := by have := (List.getElem?_eq_some_iff.1 hj).1; rw [List.length_take] at this; omega
  rw [List.getElem?_take_of_lt hji] at hj
  have := hC.rise j i s r hji hj hr
  omega
theorem take_at {rs : List ROW} {i : Nat} {s : ROW} (hs : s ∈ rs.take i) : ∃ j, j < i ∧ rs[j]? = some s := by
  obtain ⟨j, hj⟩ := List.getElem?_of_mem hs
  have hji : j < i := by have := (List.getElem?_eq_some_iff.1 hj).1; rw [List.length_take] at this; omega
  rw [List.getElem?_take_of_lt hji] at hj
  exact ⟨j, hji, hj⟩
theorem more_bits {rs : List ROW} {i p q k gh ch live : Nat} {hs : List (Nat → Nat)} {h : Nat → Nat} (hR : REST rs i q live hs) (hq : p / 64 = q) (hk : p % 64 = k) : ∀ r ∈ MORE rs i q k gh ch live hs h, ∀ j, j < 64 → r.live.testBit j = true → r.num * 64 + j = p ∨ ∃ r0 ∈ rs, r0.num = r.num ∧ r0.live.testBit j = true := fun r hr j hj hb => by
  rcases mem_more hr with h1 | rfl
  · exact .inr ⟨r, List.mem_of_mem_take h1, rfl, hb⟩
  · rw [or_bit] at hb
    by_cases e : k = j
    · left
      show q * 64 + j = p
      omega
    · simp only [e, decide_false, Bool.or_false] at hb
      rcases hR with ⟨_, rfl, _⟩ | ⟨r0, hr0, _, hn, rfl, _⟩
      · simp at hb
      · exact .inr ⟨r0, List.mem_of_getElem? hr0, hn, hb⟩
theorem chunkput_ok (B g p : Nat) (rs : List ROW) (h : Nat → Nat) (hp : p < 2 ^ 64) (hfew : rs.length + 1 < 2 ^ 40) (hN : NEXT rs p) (h8 : ∀ i, h i < 256) (w : World) (hC : CHUNK w B g rs) : Calls Try.prog 35 #[.pointer (some ⟨g, 0, none⟩), .int .u64 (p : Int), .agg (UARR .u8 32 h)] w fun e w' => (∃ v, e = .returned v) ∧ PUTS w B g p rs h w' := by
  obtain ⟨a, cap, hbx, hlie, hfrm, ho⟩ := hC.lies
  have hgl := hbx.lt
  have hBw : B ≤ w.heap.size := by have := hC.far; omega
  have hcell := hbx.cell 0
  by_cases hL : ∃ r, rs[rs.length - 1]? = some r ∧ r.num = p / 64
  · obtain ⟨r, hr, hn⟩ := hL
    have hil := (List.getElem?_eq_some_iff.1 hr).1
    obtain ⟨i, hi⟩ : ∃ i, rs.length - 1 = i := ⟨_, rfl⟩
    rw [hi] at hr
    have hi1 : i + 1 = rs.length := by omega
    obtain ⟨gr, rfl, hBr, hgr⟩ := hfrm (by omega)
    have hrm := List.mem_of_getElem? hr
    obtain ⟨r1, r2, r3, r4, r5⟩ := hC.row r hrm
    have hbits : ∀ j, j < 64 → r.live.testBit j = true → j < p % 64 := by
      rcases hN r hrm with h1 | h1
      · omega
      · exact h1.2
    have hR : REST rs i (p / 64) r.live r.hs := .inr ⟨r, hr, hi1, hn, rfl, rfl⟩
    have hlow := NEXT.low hC hr hn
    have hrk : RK r.live (p % 64) = r.hs.length := by rw [r3, RK_last (by omega) hbits]
    have h64 : r.hs.length ≤ 1000 := by rw [← hrk]; have := RK_le r.live (p % 64); omega
    refine (putold_raw B g gr i rs.length cap p (p % 64) r.live r.hs.length (RC rs) (HL r.hs) r.v h w hbx ho (by omega) (RC_get rs i 1 r hr (by decide)) (RC_get rs i 2 r hr (by decide)) r5 hrk r2 rfl hp hBw h64 (fun W hW => chunkfind_there hC hr hn W hW)).mono ?_
    rintro e w' ⟨he, gh, ch, b1, b2, b3, b4, b5, b6, b7⟩
    have hap : ∀ s ∈ rs.take i, s.gh ≠ r.gh ∧ s.gh < w.heap.size ∧ s.gh ≠ gr := fun s hs => by
      obtain ⟨j, hj, hjs⟩ := take_at hs
      have h5 := (hC.row s (List.mem_of_getElem? hjs)).2.2.2.2
      exact ⟨hC.apart j i s r (by omega) hjs hr, (h5.lt s.gh rfl).2, fun e => rows_apart ho h5 (by rw [← e]; rfl)⟩
    have hghc : gh = r.gh ∨ w.heap.size ≤ gh := b4.imp (fun e => by have e2 : some r.gh = some gh := e; exact (Option.some.inj e2).symm) id
    refine ⟨he, MORE rs i (p / 64) (p % 64) gh ch r.live r.hs h, ?_, fun p' => LOOK_more hR hlow rfl rfl hbits r3, more_bits hR rfl rfl, ?_, ?_, b5, b6, ?_⟩
    · refine hC.more (gr := gr) (cap := cap) hR hlow rfl rfl hp r2 hfew (fun x hx => ?_) hbits r3 (by omega) (by rw [hi1]; exact b1) (by rw [hi1, RC_more_old hr hi1 hn]; exact b2) (by rw [HL_snoc]; exact b3) (fun s hs => ?_) (fun s hs => ?_)
      · rcases List.mem_append.1 hx with h1 | h1
        · exact r4 x h1
        · rw [List.mem_singleton.1 h1]; exact h8
      · obtain ⟨c1, c2, c3⟩ := hap s hs
        exact b7 s.gh c2 c3 (fun e => c1 (by have e2 : some r.gh = some s.gh := e; exact (Option.some.inj e2).symm))
      · obtain ⟨c1, c2, c3⟩ := hap s hs
        rcases hghc with e | e
        · rw [e]; exact c1
        · omega
    · intro s hs
      rcases mem_more hs with h1 | rfl
      · exact .inl ⟨s, List.mem_of_mem_take h1, rfl⟩
      · exact hghc.imp (fun e => ⟨r, hrm, e.symm⟩) id
    · intro v v' e1 e2
      rw [hcell] at e1
      rw [b1.cell 0] at e2
      have e1 := Option.some.inj e1
      have e2 := Option.some.inj e2
      left
      rw [← e1, ← e2]
    · intro b hb hbg hbv hbr
      refine b7 b hb (fun e => hbv _ hcell (by rw [e]; rfl)) (fun e => ?_)
      have e2 : some r.gh = some b := e
      exact hbr r hrm (Option.some.inj e2)
  · have hall : ∀ r ∈ rs, r.num < p / 64 := fun r hr => by
      rcases hN r hr with h1 | h1
      · exact h1
      · exfalso
        obtain ⟨j, hj⟩ := List.getElem?_of_mem hr
        have hjl := (List.getElem?_eq_some_iff.1 hj).1
        by_cases e : j = rs.length - 1
        · subst e
          exact hL ⟨r, hj, h1.1⟩
        · have hl : rs.length - 1 < rs.length := by omega
          have h3 := hC.rise j (rs.length - 1) r _ (by omega) hj (List.getElem?_eq_getElem hl)
          rcases hN _ (List.getElem_mem hl) with h4 | h4 <;> omega
    have hR : REST rs rs.length (p / 64) 0 [] := .inl ⟨rfl, rfl, rfl⟩
    have hlow : ∀ s ∈ rs.take rs.length, s.num < p / 64 := fun s hs => hall s (List.mem_of_mem_take hs)
    have hbits : ∀ j, j < 64 → (0 : Nat).testBit j = true → j < p % 64 := fun j _ hb => by simp at hb
    have hp0 : ([] : List (Nat → Nat)).length = POP 0 := by rw [POP_RK, RK_zero]; rfl
    refine (putnew_raw B g rs.length p (p / 64) (p % 64) (.slice a rs.length cap) (RC rs) h w hbx hC.far ho (by omega) rfl rfl hp hBw (fun W hW => chunkfind_end hC hall W hW)).mono ?_
    rintro e w' ⟨he, gr, cap', gh, ch, b1, b2, b3, b4, b5, b6, b7, b8⟩
    refine ⟨he, MORE rs rs.length (p / 64) (p % 64) gh ch 0 [] h, ?_, fun p' => LOOK_more hR hlow rfl rfl hbits hp0, more_bits hR rfl rfl, ?_, ?_, b6, b7, ?_⟩
    · refine hC.more (gr := gr) (cap := cap') hR hlow rfl rfl hp (by decide) hfew (fun x hx => ?_) hbits hp0 (Nat.le_refl _) b1 (by rw [RC_more_new rfl]; exact b2) (by rw [HL_snoc]; exact b3) (fun s hs => ?_) (fun s hs => ?_)
      · rw [List.mem_singleton.1 hx]; exact h8
      · have h5 := (hC.row s (List.mem_of_mem_take hs)).2.2.2.2
        refine b8 s.gh (h5.lt s.gh rfl).2 (fun e => ?_) (fun e => ?_)
        · obtain ⟨c, hc, _⟩ := own_block h5 (b := s.gh) rfl
          rw [e, show w.heap[g]? = _ from hbx] at hc
          cases hc
        · obtain ⟨j, _, hjs⟩ := take_at hs
          have : 0 < rs.length := by have := (List.getElem?_eq_some_iff.1 hjs).1; omega
          obtain ⟨gr0, rfl, _⟩ := hfrm this
          exact rows_apart ho h5 (by have e2 : some gr0 = some s.gh := e; rw [Option.some.inj e2]; rfl)
      · have h5 := (hC.row s (List.mem_of_mem_take hs)).2.2.2.2
        have := (h5.lt s.gh rfl).2
        omega
    · intro s hs
      rcases mem_more hs with h1 | rfl
      · exact .inl ⟨s, List.mem_of_mem_take h1, rfl⟩
      · exact .inr b4
    · intro v v' e1 e2
      rw [hcell] at e1
      rw [b1.cell 0] at e2
      have e1 := Option.some.inj e1
      have e2 := Option.some.inj e2
      rw [← e1, ← e2]
      rcases b5 with e | e
      · left
        exact e.symm
      · right
        exact ⟨gr, rfl, e⟩
    · intro b hb hbg hbv hbr
      exact b8 b hb hbg (hbv _ hcell)
end Go.Proofs.Ytkmcmngdainofaa
