/- Store.since of a store that has all its nodes: the chunks from n's on. -/
import Derived.Test.YtkmcmngdainofaaStoreSinceRegions
import Derived.Test.YtkmcmngdainofaaStoreCountMore
import Derived.Test.YtkmcmngdainofaaStoreLives
namespace Go.Proofs.Ytkmcmngdainofaa
open Go.RowKit Go.Maps
set_option maxRecDepth 100000

/-- keys as cells. -/
def KYS (fi j : Nat) : List Value := (List.range j).map fun i => .int .u64 ((fi + i : Nat) : Int)
theorem KYS_length (fi j : Nat) : (KYS fi j).length = j := by simp [KYS]
theorem KYS_succ (fi j : Nat) : KYS fi (j + 1) = KYS fi j ++ [.int .u64 ((fi + j : Nat) : Int)] := by simp [KYS, List.range_succ]
theorem info_keyT : (Try.prog.info? 51).map (fun i => (i.zero, i.size, i.bytes)) = some (some (.agg #[.int .u64 0]), 1, 8) := by kernel_rfl
theorem build_key {ops : Array Oper} {rest : List Oper} {o : Oper} {a : Act} {Q : Exit → Act → World → Prop} (w : World) (hg : o.guard = none) (x : Operand) (ho : o.op = .buildSlice 55 1 #[(0, x)]) (k : Nat) (hx : a.eval x = KEY k)
    (h : wpList Try.prog ops Q rest (a.put o.dst (.slice (some ⟨w.heap.size, 0, none⟩) 1 1)) (w.alloc (.cells #[.int .u64 (k : Int)] 51))) : wpList Try.prog ops Q (o :: rest) a w := by
  obtain ⟨i, hie, hz', hs1, _⟩ := info_parts info_keyT
  refine wpList_buildSlice hg 55 51 1 _ ho #[.int .u64 (k : Int)] i _ Try.underlying55 hie hz' (by rw [hs1]; omega) (by rw [hs1]; omega) ?_ h
  have := Great.fill_whole (s := 1) (by decide) [KEY k] ((Array.range (1 * i.size)).map ((Value.agg #[.int .u64 0]).cells[· % (Value.agg #[.int .u64 0]).cells.size]!)) (fun v hv => by simp at hv; subst hv; rfl) (by simp [hs1])
  simp [Value.cells] at this
  rw [hs1]
  simp [hx, Value.cells]
  rw [hs1] at this
  simpa using this
theorem app_key {ops : Array Oper} {rest : List Oper} {o : Oper} {a : Act} {Q : Exit → Act → World → Prop} (w : World) (hgd : o.guard = none) (s x : Operand)
    (ho : o.op = .call { callee := .builtin .append, args := #[s, x], argTypes := #[55, 55] }) (base : Nat) (v : Value) (n : Nat) (xs : List Value) (hs : a.eval s = v) (hown : w.ownsRow base 51 1 v n xs)
    (b c k : Nat) (hx : a.eval x = .slice (some ⟨b, 0, none⟩) 1 c) (hb : Has w b #[.int .u64 (k : Int)] 51) (hn : n ≤ 100000) (hbase : base ≤ w.heap.size)
    (h : ∀ g cap w', w'.ownsRow base 51 1 (.slice (some ⟨g, 0, none⟩) (n + 1) cap) (n + 1) (xs ++ [.int .u64 (k : Int)]) → w.grownBy w' v.ownBlock → (v.ownBlock = some g ∨ g = w.heap.size) → g < w'.heap.size → wpList Try.prog ops Q rest (a.put o.dst (.slice (some ⟨g, 0, none⟩) (n + 1) cap)) w') : wpList Try.prog ops Q (o :: rest) a w := by
  obtain ⟨i, hi, hz, hs1, hby⟩ := info_parts info_keyT
  exact wpList_append_lies w hgd s x 55 ho base 51 i _ 1 8 Try.underlying55 hi hz hs1 hby (by simp [Value.cells]) (by decide) v n xs hs hown ⟨b, 0, none⟩ 1 c [.int .u64 (k : Int)] hx (by simp) (fun j u hj => by rw [Addr.add_mid, hb.cell, Nat.zero_add, ← hj]; cases j <;> simp) (fun u hu => by simp at hu; subst hu; rfl) (by decide) (by simp only [maxLen]; omega) (by omega) hbase w.heap.size rfl h
theorem u64_small {n : Nat} (h : n < 2 ^ 64) : IntKind.u64.wrap (n : Int) = (n : Int) := by
  simp [IntKind.wrap, IntKind.signed, IntKind.bits]
  omega
/-- the keys of the chunks from fi to la lie there. -/
def SINCE (w : World) (fi cnt : Nat) (e : Ending) (w' : World) : Prop := ∃ a c, e = .returned (.slice a cnt c) ∧ w'.ownsRow w.heap.size 51 1 (.slice a cnt c) cnt (KYS fi cnt) ∧ Below w.heap.size w w'
/-- the keys so far, and the next one. -/
structure SLP0 (w wx : World) (fi la j b6 b8 kk : Nat) (v : Value) : Prop where
  bel : Below w.heap.size w wx
  row : wx.ownsRow w.heap.size 51 1 v j (KYS fi j)
  cur : Has wx b8 #[.int .u64 (kk : Int)] 51
  last : Has wx b6 #[.int .u64 (la : Int)] 51
  n8 : w.heap.size ≤ b8
  ne : b8 ≠ b6
  a8 : v.ownBlock ≠ some b8
  a6 : v.ownBlock ≠ some b6
abbrev SLP (w wx : World) (fi la j b6 b8 : Nat) (v : Value) : Prop := SLP0 w wx fi la j b6 b8 (fi + j) v
theorem own_drew {w : World} {B s n : Nat} {t : TypeId} {v : Value} {xs : List Value} (h : w.ownsRow B t s v n xs) : w.drew.ownsRow B t s v n xs := h
theorem own_heap5 {w w' : World} {B : Nat} {t : TypeId} {s : Nat} {v : Value} {n : Nat} {xs : List Value} (h : w.ownsRow B t s v n xs) (hk : ∀ k, v.ownBlock = some k → w'.heap[k]? = w.heap[k]?) : w'.ownsRow B t s v n xs := by
  refine ⟨h.1, ?_⟩
  rcases h.2 with h | ⟨g, cap, cur, rfl, hb, hg, r⟩
  · exact .inl h
  · exact .inr ⟨g, cap, cur, rfl, hb, by rw [hk g rfl]; exact hg, r⟩
theorem slp_app {w w3 w5 : World} {fi la j b6 b8 kk g5 cap5 sc : Nat} {sa : Option Addr} (h : SLP w w3 fi la j b6 b8 (.slice sa j sc)) (hk : fi + j = kk) (hown : w5.ownsRow w.heap.size 51 1 (.slice (some ⟨g5, 0, none⟩) (j + 1) cap5) (j + 1) (KYS fi j ++ [.int .u64 (kk : Int)])) (hgrow : (w3.alloc (.cells #[.int .u64 (kk : Int)] 51)).grownBy w5 (Value.slice sa j sc).ownBlock) (hat : (Value.slice sa j sc).ownBlock = some g5 ∨ g5 = (w3.alloc (.cells #[.int .u64 (kk : Int)] 51)).heap.size) : SLP0 w w5 fi la (j + 1) b6 b8 kk (.slice (some ⟨g5, 0, none⟩) (j + 1) cap5) := by
  have hs : (w3.alloc (.cells #[.int .u64 (kk : Int)] 51)).heap.size = w3.heap.size + 1 := by simp
  have h8 := h.cur.lt
  have h6 := h.last.lt
  have keep : ∀ {b : Nat} {A : Array Value} {t : TypeId}, Has w3 b A t → (Value.slice sa j sc).ownBlock ≠ some b → Has w5 b A t := fun {b A t} hh hne => (hgrow.block b (by have := hh.lt; omega) (fun e => hne e.symm)).trans (hh.alloc _)
  have hg : ∀ b, b < w3.heap.size → (Value.slice sa j sc).ownBlock ≠ some b → g5 ≠ b := fun b hb hne e => by
    subst e
    rcases hat with e | e
    · exact hne e
    · omega
  have hb1 := h.bel.alloc h.bel.size (.cells #[.int .u64 (kk : Int)] 51)
  refine ⟨hb1.grown hgrow hb1.size (fun k e => (h.row.lt k e).1), by rw [KYS_succ, hk]; exact hown, by have := keep h.cur h.a8; rw [hk] at this; exact this, keep h.last h.a6, h.n8, h.ne, fun e => hg b8 h8 h.a8 (by simpa [Value.ownBlock] using e), fun e => hg b6 h6 h.a6 (by simpa [Value.ownBlock] using e)⟩
theorem since_none {w : World} {B g log len alive N : Nat} {C : CHUNKS} (hS : STORE w B g log len alive N C) (n : Nat) (hn : len ≤ n) : Calls Try.prog 23 #[.pointer (some ⟨g, 0, none⟩), .int .u64 (n : Int)] w (SINCE w 0 0) := by
  have h1 := hS.c1
  have hle : (len : Int) ≤ (n : Int) := by omega
  clear hS
  go_enter Try.func23, Try.ntmps23
  go_wp2
  go_ret
  exact ⟨none, 0, rfl, World.ownsRow_nil _ _ _ _, Below.refl _ _⟩
set_option maxHeartbeats 4000000 in
theorem since_ok {w : World} {B g log len alive N : Nat} {C : CHUNKS} (hS : STORE w B g log len alive N C) (n : Nat) (hn : n < len) (hlen : len ≤ 1000) (hN : N ≤ 1000) (hall : ∀ k, k ≤ (len - 1) / 2 ^ log → (C k).isSome = true) : Calls Try.prog 23 #[.pointer (some ⟨g, 0, none⟩), .int .u64 (n : Int)] w (SINCE w (n / 2 ^ log) ((len - 1) / 2 ^ log - n / 2 ^ log + 1)) := by
  have hlog := hS.small
  obtain ⟨fi, hfi⟩ : ∃ fi, n / 2 ^ log = fi := ⟨_, rfl⟩
  obtain ⟨la, hla⟩ : ∃ la, (len - 1) / 2 ^ log = la := ⟨_, rfl⟩
  have hfl : fi ≤ la := by rw [← hfi, ← hla]; exact Nat.div_le_div_right (by omega)
  have hl1000 : la ≤ 1000 := by rw [← hla]; exact Nat.le_trans (Nat.div_le_self _ _) (by omega)
  rw [hfi, hla]
  obtain ⟨cnt, hcnt⟩ : ∃ cnt, la - fi + 1 = cnt := ⟨_, rfl⟩
  rw [hcnt]
  rw [hla] at hall
  obtain ⟨l1, hl1⟩ : ∃ l1, len - 1 = l1 := ⟨_, rfl⟩
  rw [hl1] at hla
  have hmin : min ((log : Int)).toNat 64 = log := by simp; omega
  have key : ∀ (p r : Nat), p / 2 ^ log = r → ∀ W, Below w.heap.size w W → Calls Try.prog 29 #[.pointer (some ⟨g, 0, none⟩), .int .u64 (p : Int)] W fun e w' => e = .returned (KEY r) ∧ Below w.heap.size w w' ∧ Below W.heap.size W w' := fun p r hr W h => by
    refine (chunkof_raw g (p : Int) (log : Int) (r : Int) (by omega) W (hS.below h).c0 (by rw [hmin, ← hr]; simp)).mono ?_
    rintro e w' ⟨rfl, hb⟩
    exact ⟨rfl, h.trans (hb.mono h.size), hb⟩
  obtain ⟨mv, m1, m2, m3⟩ := hS.map
  obtain ⟨b, rfl⟩ : ∃ b, mv = some b := by
    cases mv with
    | none => have := hall 0 (Nat.zero_le _); rw [m2 rfl 0] at this; cases this
    | some b => exact ⟨b, rfl⟩
  obtain ⟨_, n', hn', D, d1, d2⟩ := m3 b rfl
  have hD : CHS D C := ⟨d1.canon lawKey, fun es e p hp => by subst e; exact mem_keys d1 p hp, fun k hk => by rw [(d2 k hk).1]; show ((C k).map Prod.fst).isSome = _; cases C k <;> rfl⟩
  have hz : la < Maps.size D := by
    have := hD.many (la + 1) (by omega) (fun k hk => hall k (by omega))
    omega
  have hzn : Maps.size D ≤ 1000 := by
    have := d1.size_le
    omega
  have hsub : IntKind.u64.wrap ((la : Int) - (fi : Int)) = ((la - fi : Nat) : Int) := by
    rw [show (la : Int) - (fi : Int) = ((la - fi : Nat) : Int) by omega]
    exact u64_small (by omega)
  have HC : Aside (∀ W, Below w.heap.size w W → W.cell? ⟨g, 3, none⟩ = some (.map (some b)) ∧ (∀ ty, (Builtin.len_ #[44] ty #[.map (some b)]).run Try.prog W = .ok (.int .i64 ((Maps.size D : Nat) : Int)) W) ∧ ∀ k, k ≤ la → ∃ v, (Instr.lookup 44 (.map (some b)) (KEY k) true).run Try.prog W = .ok (.tuple #[v, .bool true]) W) := fun W h => by
    have dW : W.ownsMap Try.prog 51 PE b n' D := by
      obtain ⟨es, clock, h3, r⟩ := d1
      exact ⟨es, clock, (h.block b (Array.getElem?_eq_some_iff.1 h3).1).trans h3, r⟩
    refine ⟨(h.cell (p := ⟨g, 3, none⟩) hS.lt).trans m1, fun ty => dW.len Try.underlying44 ty, fun k hk => ?_⟩
    obtain ⟨v, hv, _⟩ := ChunkMap.look (M := fun k => (C k).map Prod.fst) ⟨D, dW, d2⟩ (k := k) (by omega)
    have e : ((C k).map Prod.fst).isSome = true := by have := hall k hk; cases hc : C k with
      | none => rw [hc] at this; cases this
      | some x => rfl
    rw [e] at hv
    exact ⟨v, hv⟩
  generalize Maps.size D = z at *
  have h1 := hS.c1
  have hlt : ¬ (len : Int) ≤ (n : Int) := by omega
  have hw1 : IntKind.u64.wrap ((len : Int) - 1) = (l1 : Int) := by
    rw [show (len : Int) - 1 = (l1 : Int) by omega]
    exact u64_small (by omega)
  have c1 := key n fi hfi
  have c2 := key l1 la hla
  have HA : Aside (fi ≤ la ∧ la ≤ 1000 ∧ la < z ∧ z ≤ 1000 ∧ ∀ W, Below w.heap.size w W → W.cell? ⟨g, 1, none⟩ = some (.int .u64 (len : Int))) := ⟨hfl, hl1000, hz, hzn, fun W h => (hS.below h).c1⟩
  have HU : Aside (IntKind.u64.wrap ((la : Int) - (fi : Int)) = ((la - fi : Nat) : Int)) := hsub
  clear hS hn hlen hall hlog hfi hla hfl hl1000 hl1 hmin key hD hz hzn hsub m1 m2 m3 d1 d2 hn' hN
  go_enter Try.func23, Try.ntmps23
  go_upto_region 3 with fail
  refine since3 w g n len l1 fi la w.heap.size hw1 (fun W => Below w.heap.size w W) (Below.refl _ _).drew HA.out.2.2.2.2 (fun W h => h.size) (fun W o h => h.alloc h.size o) (fun W b j v h hb => h.setCell (p := ⟨b, j, none⟩) hb v) c1 c2 (fun _ _ _ _ _ h => h) ?_
  rintro b5 b6 w1 ⟨hb1, k5, n5, k6, n6, hne⟩
  dsimp only
  clear c1 c2 hw1
  go_upto_region 5 with fail
  have hm1 := HC.out w1.drew hb1.drew
  refine since5 w1 g b5 b6 la fi (la - fi) z (.map (some b)) HU.out (u64_small (by have := HA.out; omega)) (by have := HA.out; omega) (fun W => W = w1.drew) rfl (fun W h => ?_) (fun _ _ _ _ _ h => h) ?_
  · subst h
    exact ⟨k6.cell 0, k5.cell 0, hm1.1, hm1.2.1 _⟩
  rintro w2 rfl
  dsimp only
  clear hm1
  have hb2 : Below w.heap.size w w1.drew := hb1.drew
  have k52 : Has w1.drew b5 #[.int .u64 (fi : Int)] 51 := k5
  have k62 : Has w1.drew b6 #[.int .u64 (la : Int)] 51 := k6
  generalize w1.drew = w2 at *
  clear k5 k6 hb1
  go_upto_region 7 with (first
    | (refine wpList_load_row rfl 51 (.tmp 5) rfl b5 rfl 51 #[.int .u64 (fi : Int)] (0, 0) _ k52 Try.underlying51 rfl (by kernel_rfl) ?_)
    | fail)
  have K0 : Aside (la - fi + 1 = cnt ∧ SLP w (w2.alloc (.cells #[.int .u64 (fi : Int)] 51)) fi la 0 b6 w2.heap.size (.slice none 0 0)) := ⟨hcnt, ⟨hb2.alloc hb2.size _, World.ownsRow_nil _ _ _ _, Has.new _ _ _, k62.alloc _, hb2.size, by have := k62.lt; omega, (fun e => by cases e), (fun e => by cases e)⟩⟩
  clear k52 k62 hb2 n5 n6 hne hcnt HU h1 hlt
  go_loopg [7, 8] cnt (fun r s7 s8 wx => ∃ (j b8 : Nat) (sa : Option Addr) (sc : Nat), s8 = .pointer (some ⟨b8, 0, none⟩) ∧ s7 = .slice sa j sc ∧ Aside (j + r = cnt ∧ SLP w wx fi la j b6 b8 (.slice sa j sc)))
  case atStart => exact ⟨0, _, none, 0, rfl, rfl, by omega, K0.out.2⟩
  case round =>
    obtain ⟨j, b8, sa, sc, rfl, rfl, A⟩ := hrel
    have hfl := HA.out.1
    have hcn := K0.out.1
    have x8 : wr.cell? ⟨b8, 0, none⟩ = some (.int .u64 ((fi + j : Nat) : Int)) := A.out.2.cur.cell 0
    have x6 : wr.cell? ⟨b6, 0, none⟩ = some (.int .u64 (la : Int)) := A.out.2.last.cell 0
    cases gk with
    | zero =>
      have hj : j = cnt := by have := A.out.1; omega
      have hle : ¬ ((fi + j : Nat) : Int) ≤ (la : Int) := by omega
      have R : Aside (SINCE w fi cnt (.returned (.slice sa cnt sc)) wr) := by
        refine ⟨sa, sc, rfl, ?_, A.out.2.bel⟩
        have := A.out.2.row
        rw [hj] at this
        exact this
      subst hj
      clear A K0 HA HC hfl hcn
      go_wp2
      go_ret
      exact R.out
    | succ r =>
      have hjr : j + 1 + r = cnt := by have := A.out.1; omega
      have hle : ((fi + j : Nat) : Int) ≤ (la : Int) := by omega
      have HJ : Aside (j + 1 + r = cnt ∧ fi + j ≤ la ∧ j ≤ 2000) := ⟨hjr, by omega, by have := HA.out; omega⟩
      obtain ⟨kk, hkk⟩ : ∃ kk, fi + j = kk := ⟨_, rfl⟩
      have HKK : Aside (fi + j = kk) := hkk
      have k8 : Has wr b8 #[.int .u64 (kk : Int)] 51 := by rw [← hkk]; exact A.out.2.cur
      rw [hkk] at x8 hle
      clear hjr hcn hfl hkk
      go_upto_region 9 with fail
      obtain ⟨q1, _, q3⟩ := HC.out wr.drew A.out.2.bel.drew
      obtain ⟨v, hv⟩ := q3 kk (by have := HJ.out; have := HKK.out; omega)
      refine since9 wr g b8 kk (.map (some b)) v true (fun W => W = wr.drew) rfl (fun W h => by subst h; exact ⟨q1, k8, hv⟩) (fun _ _ _ _ _ h => h) ?_
      rintro w3 rfl
      dsimp only
      clear q1 q3 hv
      have A3 : Aside (SLP w wr.drew fi la j b6 b8 (.slice sa j sc)) := ⟨A.out.2.bel.drew, own_drew A.out.2.row, A.out.2.cur, A.out.2.last, A.out.2.n8, A.out.2.ne, A.out.2.a8, A.out.2.a6⟩
      have k83 : Has wr.drew b8 #[.int .u64 (kk : Int)] 51 := k8
      generalize wr.drew = w3 at *
      clear A k8 x8 x6
      go_upto_region 12 with (first
        | (refine wpList_load_row rfl 51 (.tmp 8) rfl b8 rfl 51 #[.int .u64 (kk : Int)] (0, 0) _ k83 Try.underlying51 rfl (by kernel_rfl) ?_)
        | (refine build_key _ rfl (.tmp 61) rfl kk rfl ?_)
        | (at_builtin; refine app_key _ rfl (.tmp 60) (.tmp 62) rfl w.heap.size (.slice sa j sc) j (KYS fi j) rfl (A3.out.row.alloc _) w3.heap.size 1 kk rfl (Has.new _ _ _) (by have := HJ.out; omega) (by have := A3.out.bel.size; simp; omega) ?_; intro g5 cap5 w5 hown hgrow hat hg5
           have B5 : Aside (SLP0 w w5 fi la (j + 1) b6 b8 kk (.slice (some ⟨g5, 0, none⟩) (j + 1) cap5)) := slp_app A3.out HKK.out hown hgrow hat
           have k85 := B5.out.cur
           clear hown hgrow hat hg5 A3)
        | fail)
      clear k83 hle
      go_upto_region 8 with (first
        | (refine wpList_load_row rfl 51 (.tmp 8) rfl b8 rfl 51 #[.int .u64 (kk : Int)] (0, 0) _ k85 Try.underlying51 rfl (by kernel_rfl) ?_)
        | fail)
      obtain ⟨w6, hw6⟩ : ∃ w6, w5.alloc (.cells #[.int .u64 (kk : Int)] 51) = w6 := ⟨_, rfl⟩
      obtain ⟨b9, hb9⟩ : ∃ b9, w5.heap.size = b9 := ⟨_, rfl⟩
      rw [hw6, hb9]
      have k9 : Has w6 b9 #[.int .u64 (kk : Int)] 51 := by rw [← hw6, ← hb9]; exact Has.new _ _ _
      have B6 : Aside (j + 1 + r = cnt ∧ SLP w (w6.setCell ⟨b9, 0, none⟩ (.int .u64 ((kk + 1 : Nat) : Int))) fi la (j + 1) b6 b9 (.slice (some ⟨g5, 0, none⟩) (j + 1) cap5)) := by
        have h5 := B5.out
        have l6 := h5.last.lt
        have hz := h5.bel.size
        have hg5 := (h5.row.lt g5 rfl).2
        have b6' : Below w.heap.size w w6 := by rw [← hw6]; exact h5.bel.alloc hz _
        have n9 : w.heap.size ≤ b9 := by omega
        refine ⟨HJ.out.1, ⟨b6'.setCell (p := ⟨b9, 0, none⟩) n9 _, ?_, ?_, ?_, n9, by omega, fun e => ?_, fun e => h5.a6 e⟩⟩
        · have h6 : w6.ownsRow w.heap.size 51 1 (.slice (some ⟨g5, 0, none⟩) (j + 1) cap5) (j + 1) (KYS fi (j + 1)) := by rw [← hw6]; exact h5.row.alloc _
          refine own_heap5 h6 fun k e => ?_
          have : g5 = k := by simpa [Value.ownBlock] using e
          exact Below.heap_setCell w6 ⟨b9, 0, none⟩ _ k (by show k ≠ b9; omega)
        · have := k9.set 0 (.int .u64 ((kk + 1 : Nat) : Int))
          rw [show fi + (j + 1) = kk + 1 by have := HKK.out; omega]
          exact this
        · have h6 : Has w6 b6 #[.int .u64 (la : Int)] 51 := by rw [← hw6]; exact h5.last.alloc _
          exact (Below.heap_setCell w6 ⟨b9, 0, none⟩ _ b6 (by show b6 ≠ b9; omega)).trans h6
        · have : g5 = b9 := by simpa [Value.ownBlock] using e
          omega
      have x9 : w6.cell? ⟨b9, 0, none⟩ = some (.int .u64 (kk : Int)) := k9.cell 0
      have f9 := k9.frozen 0
      have hwk : IntKind.u64.wrap ((kk : Int) + 1) = ((kk + 1 : Nat) : Int) := by
        rw [show (kk : Int) + 1 = ((kk + 1 : Nat) : Int) by omega]
        exact u64_small (by have := HA.out; have := HJ.out; have := HKK.out; omega)
      clear hw6 hb9 k9 k85 B5
      go_wp2
      go_roundg r
      case measure => exact Nat.lt_succ_self _
      case rel => exact ⟨j + 1, b9, some ⟨g5, 0, none⟩, cap5, rfl, rfl, B6.out⟩
end Go.Proofs.Ytkmcmngdainofaa
