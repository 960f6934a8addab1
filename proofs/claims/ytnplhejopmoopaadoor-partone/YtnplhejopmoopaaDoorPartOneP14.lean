/- Texts of PartOne, one behind the other: StorePutOk, StorePutCall. -/
import Derived.Test.YtnplhejopmoopaaDoorPartOneP13
/- chunk.put of the next place: what the chunk has then. -/
namespace Go.Proofs.YtnplhejopmoopaaDoor.HX
open Go.RowKit
set_option maxRecDepth 100000

/-- what stands from index i on: nothing, or one row with this number, these bits and hashes. -/
def REST (rs : List ROW) (i q live : Nat) (hs : List (Nat → Nat)) : Prop := (rs.length = i ∧ live = 0 ∧ hs = []) ∨ ∃ r, rs[i]? = some r ∧ i + 1 = rs.length ∧ r.num = q ∧ r.live = live ∧ r.hs = hs
theorem REST.drop {rs : List ROW} {i q live : Nat} {hs : List (Nat → Nat)} (h : REST rs i q live hs) : ∀ s ∈ rs.drop i, s.num = q := fun s hs' => by
  rcases h with ⟨h, _⟩ | ⟨r, hr, hi, hq, _⟩
  · rw [List.drop_of_length_le (by omega)] at hs'
    cases hs'
  · rw [List.drop_eq_getElem_cons (by omega), List.drop_of_length_le (by omega)] at hs'
    simp only [List.mem_singleton] at hs'
    rw [List.getElem?_eq_getElem (by omega)] at hr
    rw [hs', Option.some.inj hr]
    exact hq
theorem REST.look {rs : List ROW} {i q live p : Nat} {hs : List (Nat → Nat)} (h : REST rs i q live hs) (hlow : ∀ s ∈ rs.take i, s.num < q) (hp : p / 64 = q) : LOOK rs p = if live.testBit (p % 64) then hs[RK live (p % 64)]? else none := by
  have hf : (rs.take i).find? (fun r => r.num == p / 64) = none := List.find?_eq_none.2 fun s hs' => by
    have := hlow s hs'
    simp
    omega
  unfold LOOK
  conv => lhs; rw [← List.take_append_drop i rs, List.find?_append, hf]
  rcases h with ⟨h, rfl, rfl⟩ | ⟨r, hr, hi, hq, rfl, rfl⟩
  · rw [List.drop_of_length_le (by omega)]
    simp
  · have e : rs.drop i = [r] := by
      rw [List.drop_eq_getElem_cons (by omega), List.drop_of_length_le (by omega)]
      rw [List.getElem?_eq_getElem (by omega)] at hr
      rw [Option.some.inj hr]
    rw [e]
    have hb : (r.num == p / 64) = true := by simp; omega
    simp [hb]
theorem LOOK_more {rs : List ROW} {i q k gh ch live p p' : Nat} {hs : List (Nat → Nat)} {h : Nat → Nat} (hR : REST rs i q live hs) (hlow : ∀ s ∈ rs.take i, s.num < q) (hq : p / 64 = q) (hk : p % 64 = k) (hbits : ∀ j, j < 64 → live.testBit j = true → j < k) (hlen : hs.length = POP live) :
    LOOK (MORE rs i q k gh ch live hs h) p' = if p' = p then some h else LOOK rs p' := by
  have hk64 : k < 64 := by rw [← hk]; exact Nat.mod_lt _ (by decide)
  have hno : live.testBit k = false := by
    cases hb : live.testBit k
    · rfl
    · have := hbits k hk64 hb; omega
  have hrk : RK live k = hs.length := by rw [hlen, RK_last (by omega) hbits]
  unfold MORE
  by_cases e : p' / 64 = q
  · have hf : (rs.take i).find? (fun r => r.num == p' / 64) = none := List.find?_eq_none.2 fun s hs' => by
      have := hlow s hs'
      simp
      omega
    have hL : LOOK (rs.take i ++ [⟨q, live ||| 2 ^ k, gh, ch, hs ++ [h]⟩]) p' = if (live ||| 2 ^ k).testBit (p' % 64) then (hs ++ [h])[RK (live ||| 2 ^ k) (p' % 64)]? else none := by
      unfold LOOK
      rw [List.find?_append, hf]
      have hb : (q == p' / 64) = true := by simp; omega
      simp [hb]
    rw [hL, hR.look hlow e, or_bit, RK_or hno]
    by_cases e2 : p' % 64 = k
    · have e3 : p' = p := by omega
      rw [if_pos e3, e2]
      simp only [decide_true, Bool.or_true, if_true, Nat.lt_irrefl, if_false, Nat.add_zero]
      rw [hrk, List.getElem?_append_right (Nat.le_refl _)]
      simp
    · have e3 : p' ≠ p := fun h => e2 (by rw [h]; exact hk)
      have e4 : ¬ k = p' % 64 := fun h => e2 h.symm
      rw [if_neg e3]
      simp only [e4, decide_false, Bool.or_false]
      cases hb : live.testBit (p' % 64)
      · simp
      · have hj := hbits _ (Nat.mod_lt _ (by decide)) hb
        have hr := RK_lt (Nat.mod_lt p' (show 0 < 64 by decide)) hb
        rw [if_pos rfl, if_pos rfl, if_neg (by omega), Nat.add_zero, List.getElem?_append_left (by omega)]
  · have e3 : p' ≠ p := fun h => e (by rw [h]; exact hq)
    rw [if_neg e3, LOOK_take (fun s hs' => by rw [hR.drop s hs']; exact fun h => e h.symm), if_neg (fun h => e h.1.symm)]
theorem RK_le (X : Nat) : ∀ k, RK X k ≤ k
  | 0 => Nat.le_refl _
  | k + 1 => by
    have := RK_le X k
    rw [RK]
    split <;> omega
/-- what putting leaves. -/
def PUTS (w : World) (B g p : Nat) (rs : List ROW) (h : Nat → Nat) (w' : World) : Prop :=
  ∃ rs', CHUNK w' B g rs' ∧ (∀ p', LOOK rs' p' = if p' = p then some h else LOOK rs p') ∧
    (∀ r ∈ rs', ∀ j, j < 64 → r.live.testBit j = true → r.num * 64 + j = p ∨ ∃ r0 ∈ rs, r0.num = r.num ∧ r0.live.testBit j = true) ∧
    (∀ r ∈ rs', (∃ r0 ∈ rs, r0.gh = r.gh) ∨ w.heap.size ≤ r.gh) ∧
    (∀ v v', w.cell? ⟨g, 0, none⟩ = some v → w'.cell? ⟨g, 0, none⟩ = some v' → v'.ownBlock = v.ownBlock ∨ ∃ b, v'.ownBlock = some b ∧ w.heap.size ≤ b) ∧
    w.heap.size ≤ w'.heap.size ∧ Below B w w' ∧
    ∀ b, b < w.heap.size → b ≠ g → (∀ v, w.cell? ⟨g, 0, none⟩ = some v → v.ownBlock ≠ some b) → (∀ r ∈ rs, r.gh ≠ b) → w'.heap[b]? = w.heap[b]?
theorem rows_apart {w : World} {B gr n m cap : Nat} {xs ys : List Value} {v : Value} (h1 : w.ownsRow B 124 3 (.slice (some ⟨gr, 0, none⟩) n cap) n xs) (h2 : w.ownsRow B 27 32 v m ys) : v.ownBlock ≠ some gr := fun e => by
  obtain ⟨c1, e1, _⟩ := own_block h1 (b := gr) rfl
  obtain ⟨c2, e2, _⟩ := own_block h2 e
  rw [e1] at e2
  cases e2
theorem own_same {w w' : World} {B s n : Nat} {t : TypeId} {v : Value} {xs : List Value} (h : w.ownsRow B t s v n xs) (hb : ∀ b, v.ownBlock = some b → w'.heap[b]? = w.heap[b]?) : w'.ownsRow B t s v n xs :=
  ⟨h.1, h.2.imp id fun ⟨g, c, cur, a, b, r, rest⟩ => ⟨g, c, cur, a, b, (hb g (by rw [a]; rfl)).trans r, rest⟩⟩
theorem mem_more {rs : List ROW} {i q k gh ch live : Nat} {hs : List (Nat → Nat)} {h : Nat → Nat} {r : ROW} (hr : r ∈ MORE rs i q k gh ch live hs h) : r ∈ rs.take i ∨ r = ⟨q, live ||| 2 ^ k, gh, ch, hs ++ [h]⟩ := by
  rcases List.mem_append.1 hr with h | h
  · exact .inl h
  · exact .inr (by simpa using h)
/-- the chunk with one row or one hash more. -/
theorem CHUNK.more {w w' : World} {B g i p q k gr cap gh ch live : Nat} {rs : List ROW} {hs : List (Nat → Nat)} {h : Nat → Nat} (hC : CHUNK w B g rs) (hR : REST rs i q live hs) (hlow : ∀ s ∈ rs.take i, s.num < q) (hq : p / 64 = q) (hk : p % 64 = k) (hp : p < 2 ^ 64) (hlive : live < 2 ^ 64) (hfew : rs.length + 1 < 2 ^ 40) (h8 : ∀ x ∈ hs ++ [h], ∀ i, x i < 256)
    (hbits : ∀ j, j < 64 → live.testBit j = true → j < k) (hlen : hs.length = POP live) (hil : i ≤ rs.length)
    (b1 : Has w' g #[.slice (some ⟨gr, 0, none⟩) (i + 1) cap] 115) (b2 : w'.ownsRow B 124 3 (.slice (some ⟨gr, 0, none⟩) (i + 1) cap) (i + 1) (RC (MORE rs i q k gh ch live hs h)))
    (b3 : w'.ownsRow B 27 32 (.slice (some ⟨gh, 0, none⟩) (hs.length + 1) ch) (hs.length + 1) (HL (hs ++ [h]))) (b4 : ∀ r ∈ rs.take i, w'.heap[r.gh]? = w.heap[r.gh]?) (b5 : ∀ r ∈ rs.take i, r.gh ≠ gh) : CHUNK w' B g (MORE rs i q k gh ch live hs h) := by
  have hk64 : k < 64 := by rw [← hk]; exact Nat.mod_lt _ (by decide)
  have hno : live.testBit k = false := by
    cases hb : live.testBit k
    · rfl
    · have := hbits k hk64 hb; omega
  have hlt : (rs.take i).length = i := by rw [List.length_take]; omega
  have hml : (MORE rs i q k gh ch live hs h).length = i + 1 := by rw [MORE, List.length_append, hlt]; rfl
  have hget : ∀ j r, (MORE rs i q k gh ch live hs h)[j]? = some r → (j < i ∧ rs[j]? = some r ∧ r ∈ rs.take i) ∨ (j = i ∧ r = ⟨q, live ||| 2 ^ k, gh, ch, hs ++ [h]⟩) := fun j r hr => by
    unfold MORE at hr
    by_cases hj : j < i
    · rw [List.getElem?_append_left (by omega)] at hr
      refine .inl ⟨hj, ?_, List.mem_of_getElem? hr⟩
      rw [List.getElem?_take_of_lt hj] at hr
      exact hr
    · rw [List.getElem?_append_right (by omega), hlt] at hr
      have hj0 : j - i = 0 := by
        have := (List.getElem?_eq_some_iff.1 hr).1
        simp at this
        omega
      rw [hj0] at hr
      simp at hr
      exact .inr ⟨by omega, hr.symm⟩
  refine ⟨⟨_, b1, by rw [hml]; exact b2⟩, hC.far, by rw [hml]; omega, fun a b r s hab ha hb => ?_, fun r hr => ?_, fun a b r s hab ha hb => ?_, fun r hr => ?_⟩
  · rcases hget a r ha with ⟨h1, h2, h3⟩ | ⟨rfl, rfl⟩
    · rcases hget b s hb with ⟨h4, h5, h6⟩ | ⟨rfl, rfl⟩
      · exact hC.rise a b r s hab h2 h5
      · exact hlow r h3
    · rcases hget b s hb with ⟨h4, h5, h6⟩ | ⟨h4, rfl⟩ <;> omega
  · rcases mem_more hr with h1 | rfl
    · obtain ⟨c1, c2, c3, c4, c5⟩ := hC.row r (List.mem_of_mem_take h1)
      exact ⟨c1, c2, c3, c4, own_same c5 fun b hb => by cases hb; exact b4 r h1⟩
    · exact ⟨by show q < 2 ^ 58; omega, or_lt hlive hk64, by show (hs ++ [h]).length = _; rw [List.length_append, hlen, POP_or hno hk64]; rfl, h8, by show w'.ownsRow B 27 32 (.slice (some ⟨gh, 0, none⟩) (hs ++ [h]).length ch) (hs ++ [h]).length (HL (hs ++ [h])); rw [List.length_append]; exact b3⟩
  · rcases hget a r ha with ⟨h1, h2, h3⟩ | ⟨rfl, rfl⟩
    · rcases hget b s hb with ⟨h4, h5, h6⟩ | ⟨rfl, rfl⟩
      · exact hC.apart a b r s hab h2 h5
      · exact b5 r h3
    · rcases hget b s hb with ⟨h4, h5, h6⟩ | ⟨h4, rfl⟩
      · exact fun e => b5 s h6 e.symm
      · omega
  · rcases mem_more hr with h1 | rfl
    · exact hC.lives r (List.mem_of_mem_take h1)
    · exact ⟨k, hk64, by rw [or_bit]; simp⟩
end Go.Proofs.YtnplhejopmoopaaDoor.HX

/- chunk.put of the next place, as called. -/
namespace Go.Proofs.YtnplhejopmoopaaDoor.HX
open Go.RowKit
set_option maxRecDepth 100000

theorem chunkfind_any {B g p : Nat} {rs : List ROW} {w : World} (hC : CHUNK w B g rs) (W : World) (hW : Below w.heap.size w W) : Calls Tryd.prog 69 #[.pointer (some ⟨g, 0, none⟩), .int .u64 (p : Int)] W fun e w' => SEARCHED (rs.map ROW.rw) (p / 64) W e w' := by
  obtain ⟨a, cap, hbx, hlie, hfrm, ho⟩ := hC.lies
  refine find_ok g a rs.length cap (rs.map ROW.rw) p (by simp) hC.few hC.rises W (fun h => ?_) ((hbx.keep hW).cell 0)
  obtain ⟨g1, o, e, hl, hc⟩ := hlie h
  exact ⟨g1, o, e, by have := hW.size; omega, fun j r hr => by
    obtain ⟨c1, c2, c3⟩ := hc j r hr
    exact ⟨(hW.cell (by exact hl)).trans c1, (hW.cell (by exact hl)).trans c2, (hW.cell (by exact hl)).trans c3⟩⟩
theorem chunkfind_there {B g p i : Nat} {rs : List ROW} {r : ROW} {w : World} (hC : CHUNK w B g rs) (hr : rs[i]? = some r) (hn : r.num = p / 64) (W : World) (hW : Below w.heap.size w W) : Calls Tryd.prog 69 #[.pointer (some ⟨g, 0, none⟩), .int .u64 (p : Int)] W fun e w' => e = .returned (.tuple #[.int .i64 (i : Int), .bool true]) ∧ Below W.heap.size W w' :=
  (chunkfind_any hC W hW).mono fun e w' ⟨j, b, he, hst, hbi, hb⟩ => by
    have hq : (rs.map ROW.rw)[i]? = some r.rw := by rw [List.getElem?_map, hr]; rfl
    have hji : j = i := by
      rcases Nat.lt_trichotomy j i with h | h | h
      · have hil : i < (rs.map ROW.rw).length := (List.getElem?_eq_some_iff.1 hq).1
        have h2 := hst.2.2 j _ (Nat.le_refl _) (List.getElem?_eq_getElem (by omega))
        have h3 := hC.rises j i _ _ h (List.getElem?_eq_getElem (by omega)) hq
        have e2 : r.rw.num = p / 64 := hn
        omega
      · exact h
      · have h2 := hst.2.1 i _ h hq
        have e2 : r.rw.num = p / 64 := hn
        omega
    subst hji
    have hbt : b = true := hbi.2 ⟨_, hq, hn⟩
    subst hbt
    exact ⟨he, hb⟩
theorem chunkfind_end {B g p : Nat} {rs : List ROW} {w : World} (hC : CHUNK w B g rs) (hall : ∀ r ∈ rs, r.num < p / 64) (W : World) (hW : Below w.heap.size w W) : Calls Tryd.prog 69 #[.pointer (some ⟨g, 0, none⟩), .int .u64 (p : Int)] W fun e w' => e = .returned (.tuple #[.int .i64 (rs.length : Int), .bool false]) ∧ Below W.heap.size W w' :=
  (chunkfind_any hC W hW).mono fun e w' ⟨j, b, he, hst, hbi, hb⟩ => by
    have hjl : j = rs.length := by
      have h1 : j ≤ rs.length := by have := hst.1; simpa using this
      by_cases h : j < rs.length
      · have hq : (rs.map ROW.rw)[j]? = some rs[j].rw := by rw [List.getElem?_map, List.getElem?_eq_getElem h]; rfl
        have h2 := hst.2.2 j _ (Nat.le_refl _) hq
        have h3 := hall rs[j] (List.getElem_mem h)
        have e2 : rs[j].rw.num = rs[j].num := rfl
        omega
      · omega
    subst hjl
    have hbf : b = false := by
      cases hb2 : b
      · rfl
      · obtain ⟨r, hr, _⟩ := hbi.1 hb2
        rw [List.getElem?_eq_none (by simp)] at hr
        cases hr
    subst hbf
    exact ⟨he, hb⟩
theorem NEXT.low {w : World} {B g p i : Nat} {rs : List ROW} {r : ROW} (hC : CHUNK w B g rs) (hr : rs[i]? = some r) (hn : r.num = p / 64) : ∀ s ∈ rs.take i, s.num < p / 64 := fun s hs => by
  obtain ⟨j, hj⟩ := List.getElem?_of_mem hs
  have hji : j < i := by have := (List.getElem?_eq_some_iff.1 hj).1; rw [List.length_take] at this; omega
  rw [List.getElem?_take_of_lt hji] at hj
  have := hC.rise j i s r hji hj hr
  omega
theorem take_at {rs : List ROW} {i : Nat} {s : ROW} (hs : s ∈ rs.take i) : ∃ j, j < i ∧ rs[j]? = some s := by
  obtain ⟨j, hj⟩ := List.getElem?_of_mem hs
  have hji : j < i := by have := (List.getElem?_eq_some_iff.1 hj).1; rw [List.length_take] at this; omega
  rw [List.getElem?_take_of_lt hji] at hj
  exact ⟨j, hji, hj⟩
theorem more_bits {rs : List ROW} {i p q k gh ch live : Nat} {hs : List (Nat → Nat)} {h : Nat → Nat} (hR : REST rs i q live hs) (hq : p / 64 = q) (hk : p % 64 = k) : ∀ r ∈ MORE rs i q k gh ch live hs h, ∀ j, j < 64 → r.live.testBit j = true → r.num * 64 + j = p ∨ ∃ r0 ∈ rs, r0.num = r.num ∧ r0.live.testBit j = true := fun r hr j hj hb => by
  rcases mem_more hr with h1 | rfl
  · exact .inr ⟨r, List.mem_of_mem_take h1, rfl, hb⟩
  · rw [or_bit] at hb
    by_cases e : k = j
    · left
      show q * 64 + j = p
      omega
    · simp only [e, decide_false, Bool.or_false] at hb
      rcases hR with ⟨_, rfl, _⟩ | ⟨r0, hr0, _, hn, rfl, _⟩
      · simp at hb
      · exact .inr ⟨r0, List.mem_of_getElem? hr0, hn, hb⟩
theorem chunkput_ok (B g p : Nat) (rs : List ROW) (h : Nat → Nat) (hp : p < 2 ^ 64) (hfew : rs.length + 1 < 2 ^ 40) (hN : NEXT rs p) (h8 : ∀ i, h i < 256) (w : World) (hC : CHUNK w B g rs) : Calls Tryd.prog 64 #[.pointer (some ⟨g, 0, none⟩), .int .u64 (p : Int), .agg (UARR .u8 32 h)] w fun e w' => (∃ v, e = .returned v) ∧ PUTS w B g p rs h w' := by
  obtain ⟨a, cap, hbx, hlie, hfrm, ho⟩ := hC.lies
  have hgl := hbx.lt
  have hBw : B ≤ w.heap.size := by have := hC.far; omega
  have hcell := hbx.cell 0
  by_cases hL : ∃ r, rs[rs.length - 1]? = some r ∧ r.num = p / 64
  · obtain ⟨r, hr, hn⟩ := hL
    have hil := (List.getElem?_eq_some_iff.1 hr).1
    obtain ⟨i, hi⟩ : ∃ i, rs.length - 1 = i := ⟨_, rfl⟩
    rw [hi] at hr
    have hi1 : i + 1 = rs.length := by omega
    obtain ⟨gr, rfl, hBr, hgr⟩ := hfrm (by omega)
    have hrm := List.mem_of_getElem? hr
    obtain ⟨r1, r2, r3, r4, r5⟩ := hC.row r hrm
    have hbits : ∀ j, j < 64 → r.live.testBit j = true → j < p % 64 := by
      rcases hN r hrm with h1 | h1
      · omega
      · exact h1.2
    have hR : REST rs i (p / 64) r.live r.hs := .inr ⟨r, hr, hi1, hn, rfl, rfl⟩
    have hlow := NEXT.low hC hr hn
    have hrk : RK r.live (p % 64) = r.hs.length := by rw [r3, RK_last (by omega) hbits]
    have h64 : r.hs.length ≤ 1000 := by rw [← hrk]; have := RK_le r.live (p % 64); omega
    refine (putold_raw B g gr i rs.length cap p (p % 64) r.live r.hs.length (RC rs) (HL r.hs) r.v h w hbx ho (by omega) (RC_get rs i 1 r hr (by decide)) (RC_get rs i 2 r hr (by decide)) r5 hrk r2 rfl hp hBw h64 (fun W hW => chunkfind_there hC hr hn W hW)).mono ?_
    rintro e w' ⟨he, gh, ch, b1, b2, b3, b4, b5, b6, b7⟩
    have hap : ∀ s ∈ rs.take i, s.gh ≠ r.gh ∧ s.gh < w.heap.size ∧ s.gh ≠ gr := fun s hs => by
      obtain ⟨j, hj, hjs⟩ := take_at hs
      have h5 := (hC.row s (List.mem_of_getElem? hjs)).2.2.2.2
      exact ⟨hC.apart j i s r (by omega) hjs hr, (h5.lt s.gh rfl).2, fun e => rows_apart ho h5 (by rw [← e]; rfl)⟩
    have hghc : gh = r.gh ∨ w.heap.size ≤ gh := b4.imp (fun e => by have e2 : some r.gh = some gh := e; exact (Option.some.inj e2).symm) id
    refine ⟨he, MORE rs i (p / 64) (p % 64) gh ch r.live r.hs h, ?_, fun p' => LOOK_more hR hlow rfl rfl hbits r3, more_bits hR rfl rfl, ?_, ?_, b5, b6, ?_⟩
    · refine hC.more (gr := gr) (cap := cap) hR hlow rfl rfl hp r2 hfew (fun x hx => ?_) hbits r3 (by omega) (by rw [hi1]; exact b1) (by rw [hi1, RC_more_old hr hi1 hn]; exact b2) (by rw [HL_snoc]; exact b3) (fun s hs => ?_) (fun s hs => ?_)
      · rcases List.mem_append.1 hx with h1 | h1
        · exact r4 x h1
        · rw [List.mem_singleton.1 h1]; exact h8
      · obtain ⟨c1, c2, c3⟩ := hap s hs
        exact b7 s.gh c2 c3 (fun e => c1 (by have e2 : some r.gh = some s.gh := e; exact (Option.some.inj e2).symm))
      · obtain ⟨c1, c2, c3⟩ := hap s hs
        rcases hghc with e | e
        · rw [e]; exact c1
        · omega
    · intro s hs
      rcases mem_more hs with h1 | rfl
      · exact .inl ⟨s, List.mem_of_mem_take h1, rfl⟩
      · exact hghc.imp (fun e => ⟨r, hrm, e.symm⟩) id
    · intro v v' e1 e2
      rw [hcell] at e1
      rw [b1.cell 0] at e2
      have e1 := Option.some.inj e1
      have e2 := Option.some.inj e2
      left
      rw [← e1, ← e2]
    · intro b hb hbg hbv hbr
      refine b7 b hb (fun e => hbv _ hcell (by rw [e]; rfl)) (fun e => ?_)
      have e2 : some r.gh = some b := e
      exact hbr r hrm (Option.some.inj e2)
  · have hall : ∀ r ∈ rs, r.num < p / 64 := fun r hr => by
      rcases hN r hr with h1 | h1
      · exact h1
      · exfalso
        obtain ⟨j, hj⟩ := List.getElem?_of_mem hr
        have hjl := (List.getElem?_eq_some_iff.1 hj).1
        by_cases e : j = rs.length - 1
        · subst e
          exact hL ⟨r, hj, h1.1⟩
        · have hl : rs.length - 1 < rs.length := by omega
          have h3 := hC.rise j (rs.length - 1) r _ (by omega) hj (List.getElem?_eq_getElem hl)
          rcases hN _ (List.getElem_mem hl) with h4 | h4 <;> omega
    have hR : REST rs rs.length (p / 64) 0 [] := .inl ⟨rfl, rfl, rfl⟩
    have hlow : ∀ s ∈ rs.take rs.length, s.num < p / 64 := fun s hs => hall s (List.mem_of_mem_take hs)
    have hbits : ∀ j, j < 64 → (0 : Nat).testBit j = true → j < p % 64 := fun j _ hb => by simp at hb
    have hp0 : ([] : List (Nat → Nat)).length = POP 0 := by rw [POP_RK, RK_zero]; rfl
    refine (putnew_raw B g rs.length p (p / 64) (p % 64) (.slice a rs.length cap) (RC rs) h w hbx hC.far ho (by omega) rfl rfl hp hBw (fun W hW => chunkfind_end hC hall W hW)).mono ?_
    rintro e w' ⟨he, gr, cap', gh, ch, b1, b2, b3, b4, b5, b6, b7, b8⟩
    refine ⟨he, MORE rs rs.length (p / 64) (p % 64) gh ch 0 [] h, ?_, fun p' => LOOK_more hR hlow rfl rfl hbits hp0, more_bits hR rfl rfl, ?_, ?_, b6, b7, ?_⟩
    · refine hC.more (gr := gr) (cap := cap') hR hlow rfl rfl hp (by decide) hfew (fun x hx => ?_) hbits hp0 (Nat.le_refl _) b1 (by rw [RC_more_new rfl]; exact b2) (by rw [HL_snoc]; exact b3) (fun s hs => ?_) (fun s hs => ?_)
      · rw [List.mem_singleton.1 hx]; exact h8
      · have h5 := (hC.row s (List.mem_of_mem_take hs)).2.2.2.2
        refine b8 s.gh (h5.lt s.gh rfl).2 (fun e => ?_) (fun e => ?_)
        · obtain ⟨c, hc, _⟩ := own_block h5 (b := s.gh) rfl
          rw [e, show w.heap[g]? = _ from hbx] at hc
          cases hc
        · obtain ⟨j, _, hjs⟩ := take_at hs
          have : 0 < rs.length := by have := (List.getElem?_eq_some_iff.1 hjs).1; omega
          obtain ⟨gr0, rfl, _⟩ := hfrm this
          exact rows_apart ho h5 (by have e2 : some gr0 = some s.gh := e; rw [Option.some.inj e2]; rfl)
      · have h5 := (hC.row s (List.mem_of_mem_take hs)).2.2.2.2
        have := (h5.lt s.gh rfl).2
        omega
    · intro s hs
      rcases mem_more hs with h1 | rfl
      · exact .inl ⟨s, List.mem_of_mem_take h1, rfl⟩
      · exact .inr b4
    · intro v v' e1 e2
      rw [hcell] at e1
      rw [b1.cell 0] at e2
      have e1 := Option.some.inj e1
      have e2 := Option.some.inj e2
      rw [← e1, ← e2]
      rcases b5 with e | e
      · left
        exact e.symm
      · right
        exact ⟨gr, rfl, e⟩
    · intro b hb hbg hbv hbr
      exact b8 b hb hbg (hbv _ hcell)
end Go.Proofs.YtnplhejopmoopaaDoor.HX
