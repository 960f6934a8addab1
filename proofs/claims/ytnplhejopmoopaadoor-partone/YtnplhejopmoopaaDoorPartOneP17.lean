/- Texts of PartOne, one behind the other: StoreSput, StoreSputFirst, StorePush, StoreSame, StoreTree. -/
import Derived.Test.YtnplhejopmoopaaDoorPartOneP16
/- Store.put of the next place. -/
namespace Go.Proofs.YtnplhejopmoopaaDoor.HX
open Go.RowKit Go.Maps
set_option maxRecDepth 100000

theorem rise_ge {rs : List ROW} (h : ∀ (i j : Nat) (r s : ROW), i < j → rs[i]? = some r → rs[j]? = some s → r.num < s.num) : ∀ (i : Nat) (r : ROW), rs[i]? = some r → i ≤ r.num
  | 0, _, _ => Nat.zero_le _
  | i + 1, r, hr => by
    have hl := (List.getElem?_eq_some_iff.1 hr).1
    have h1 : rs[i]? = some rs[i] := List.getElem?_eq_getElem (by omega)
    have h2 := rise_ge h i _ h1
    have h3 := h i (i + 1) _ _ (by omega) h1 hr
    omega
theorem rows_few {w : World} {B g p : Nat} {rs : List ROW} (hC : CHUNK w B g rs) (h : ∀ r ∈ rs, ∀ j, j < 64 → r.live.testBit j = true → r.num * 64 + j < p) (hp : p < 2 ^ 40) : rs.length + 1 < 2 ^ 40 := by
  cases hl : rs.length with
  | zero => decide
  | succ n =>
    have hn : rs[n]? = some rs[n] := List.getElem?_eq_getElem (by omega)
    have h1 := rise_ge hC.rise n _ hn
    obtain ⟨j, hj, hb⟩ := hC.lives _ (List.mem_of_getElem? hn)
    have h2 := h _ (List.mem_of_getElem? hn) j hj hb
    omega
theorem map_eql (b : Nat) (w : World) : (binOp .eql 72 (.map (some b)) (.map none)).run Tryd.prog w = .ok (.bool false) w := by kernel_rfl
theorem map_eql0 (w : World) : (binOp .eql 72 (.map none) (.map none)).run Tryd.prog w = .ok (.bool true) w := by kernel_rfl
theorem zeroKey : ∀ w, (zeroValue 109).run Tryd.prog w = .ok (.agg #[.int .u64 0]) w := fun w => by kernel_rfl
theorem STORE.put_self {W W' : World} {B g log len alive N K gc p : Nat} {C : CHUNKS} {rs : List ROW} {h : Nat → Nat} (hS : STORE W B g log len alive N C) (hK : C K = some (gc, rs)) (hP : PUTS W B gc p rs h W') : W'.heap[g]? = W.heap[g]? := by
  obtain ⟨rs', q1, q2, q3, q4, q5, q6, q7, q8⟩ := hP
  obtain ⟨cs, t, fr, k1, k2, k3, k4⟩ := hS.kind
  obtain ⟨a1, a2, a3⟩ := hS.chunk K gc rs hK
  obtain ⟨⟨_, y1⟩, y2, y3⟩ := a2.kinds
  exact q8 g hS.lt (other_kind k1 y1 k2) (fun v hv e => by obtain ⟨_, hc⟩ := y2 v g hv e; exact other_kind k1 hc k3 rfl) (fun r hr e => by obtain ⟨_, hc⟩ := y3 r hr; rw [e] at hc; exact other_kind k1 hc k4 rfl)
/-- what Store.put leaves. -/
def SPUTS (w : World) (B g log len alive N p : Nat) (C : CHUNKS) (h : Nat → Nat) (w' : World) : Prop := ∃ C', STORE w' B g log len (alive + 1) (N + 1) C' ∧ (∀ p', AT C' log p' = if p' = p then some h else AT C log p') ∧ TOP C' (p + 1) ∧ STEP w w' g C C' ∧ Below B w w'
theorem STORE.more {w : World} {B g log len alive N N' : Nat} {C : CHUNKS} (h : STORE w B g log len alive N C) (hN : N ≤ N') : STORE w B g log len alive N' C :=
  ⟨h.small, h.short, h.c0, h.c1, h.c2, h.live, h.kind, by obtain ⟨mv, a, b, c⟩ := h.map; exact ⟨mv, a, b, fun x e => by obtain ⟨d, n, e1, e2⟩ := c x e; exact ⟨d, n, by omega, e2⟩⟩, h.chunk, h.one⟩
set_option maxHeartbeats 2000000 in
theorem sput_there {w : World} {B g log len alive N gc b : Nat} {C : CHUNKS} {rs : List ROW} (hS : STORE w B g log len alive N C) (p : Nat) (h : Nat → Nat) (h8 : ∀ i, h i < 256) (hp : p < len) (hT : TOP C p) (hal : alive < 2 ^ 40) (hBg : B ≤ g) (hm : w.cell? ⟨g, 3, none⟩ = some (.map (some b))) (hK : C (p / 2 ^ log) = some (gc, rs)) : Calls Tryd.prog 54 #[.pointer (some ⟨g, 0, none⟩), .int .u64 (p : Int), .agg (UARR .u8 32 h)] w fun e w' =>
    (∃ v, e = .returned v) ∧ SPUTS w B g log len alive N p C h w' := by
  obtain ⟨w0, hw0⟩ : ∃ w0, w.alloc (.cells (UARR .u8 32 h) 27) = w0 := ⟨_, rfl⟩
  have hb0 : Below w.heap.size w w0 := by rw [← hw0]; exact (Below.refl _ _).alloc (Nat.le_refl _) _
  have h50 : Has w0 w.heap.size (UARR .u8 32 h) 27 := by rw [← hw0]; exact Has.new w _ _
  have hg := hS.lt
  have hm0 : w0.cell? ⟨g, 3, none⟩ = some (.map (some b)) := (hb0.cell (by exact hg)).trans hm
  have ck := (hS.below hb0).key p w0 (Below.refl _ _)
  have hz := zeroKey
  have hme := map_eql b
  have hlen := hS.short
  have H : Aside (STORE w B g log len alive N C ∧ p < len ∧ TOP C p ∧ alive < 2 ^ 40 ∧ C (p / 2 ^ log) = some (gc, rs) ∧ len < 2 ^ 40 ∧ g < w.heap.size ∧ (∀ i, h i < 256) ∧ w.cell? ⟨g, 3, none⟩ = some (.map (some b)) ∧ B ≤ g) := ⟨hS, hp, hT, hal, hK, hlen, hg, h8, hm, hBg⟩
  clear hS hp hT hal hK hlen hm h8 hBg
  obtain ⟨K, hKe⟩ : ∃ K, p / 2 ^ log = K := ⟨_, rfl⟩
  rw [hKe] at ck H
  have HK : Aside (p / 2 ^ log = K) := hKe
  clear hKe
  go_enter Tryd.func54, Tryd.ntmps54
  go_wp2_with fail
  refine ck.mono ?_
  rintro e w1 ⟨rfl, hb01⟩
  clear ck
  have hb1 : Below w.heap.size w w1 := hb0.trans (hb01.mono hb0.size)
  obtain ⟨a1, a2, a3, a4, a5, a6, a7, a8, a9, a10⟩ := H.out
  have h3w : w1.cell? ⟨g, 3, none⟩ = some (.map (some b)) := (hb1.cell (by exact a7)).trans a9
  have hb2 : Below w.heap.size w (w1.alloc (.cells #[.int .u64 (K : Int)] 109)) := hb1.alloc hb1.size _
  have hK64 : K < 2 ^ 64 := (a1.chunk K gc rs a5).1
  obtain ⟨mv, v, l1, l2, l3⟩ := a1.looked K hK64
  have hmv : mv = .map (some b) := by have := l1 w (Below.refl _ _); rw [a9] at this; exact (Option.some.inj this).symm
  subst hmv
  have hv := l3 gc rs a5
  subst hv
  have l2' := l2 _ hb2.drew
  rw [a5] at l2'
  have h3 := l1 _ hb2
  have h52 : Has (w1.alloc (.cells #[.int .u64 (K : Int)] 109)).drew w.heap.size (UARR .u8 32 h) 27 := (h50.keep hb01).alloc _
  have hS2 := a1.below hb2.drew
  have hC2 := (hS2.chunk K gc rs a5).2.1
  have hbits := fun r hr j hj hb => a3 K gc rs a5 r hr j hj hb
  have cP := chunkput_ok B gc p rs h (by omega) (rows_few hC2 hbits (by omega)) (TOP.next hC2 hbits) a8 _ hC2
  clear l1 l2 l3 h3w hbits
  go_upto_region 4 with fail
  refine sput4 _ _ _ _ _ _ _ _ _ _ _ _ _ _ _ _ _ _ _ _ _ _ _ _ _ _ _ _ _ _ _ _ _ _ _ _ _ _ _ _ _ _ _ _ _ _ _ _ _ _ g w1.heap.size K (.map (some b)) (.pointer (some ⟨gc, 0, none⟩)) true h3 (Has.new w1 _ _) l2' (fun _ _ _ _ _ h => h) ?_
  dsimp only
  obtain ⟨W2, hW2⟩ : ∃ W2, (w1.alloc (.cells #[.int .u64 (K : Int)] 109)).drew = W2 := ⟨_, rfl⟩
  rw [hW2] at h52 cP hS2 ⊢
  go_wp2_with (refine wpList_load_row rfl 27 (.tmp 5) rfl w.heap.size rfl 27 (UARR .u8 32 h) (0, 0) (.array 32 5) h52 Tryd.underlying27 rfl (info_HASH _) ?_)
  refine cP.mono ?_
  rintro e w4 ⟨⟨v4, rfl⟩, hP⟩
  clear cP
  have hself := hS2.put_self a5 hP
  have z2 : w4.cell? ⟨g, 2, none⟩ = some (.int .u64 (alive : Int)) := (World.cell?_of_block (w := W2) (by exact hself)).trans hS2.c2
  have zf : w4.frozen? ⟨g, 2, none⟩ = false := by
    have := hS2.live 2 (by decide)
    unfold World.frozen? at this ⊢
    rw [show w4.heap[g]? = W2.heap[g]? from hself]
    exact this
  have hwr : IntKind.u64.wrap ((alive : Int) + 1) = ((alive + 1 : Nat) : Int) := wrap_nat (by omega) (by omega)
  have FIN : Aside (STORE W2 B g log len alive N C ∧ PUTS W2 B gc p rs h w4 ∧ STEP w W2 g C C ∧ Below w.heap.size w W2) := ⟨hS2, hP, by rw [← hW2]; exact STEP.below a1 hb2.drew, by rw [← hW2]; exact hb2.drew⟩
  clear hS2 hP hself hW2 hb2
  go_wp2
  go_end0
  obtain ⟨f1, f2, f3, f4⟩ := FIN.out
  obtain ⟨_, _, _, _, _, _, _, q7, _⟩ := id f2
  obtain ⟨C', c1, c2, c3, c4, -⟩ := f1.put_step a5 HK.out a2 f2
  exact ⟨⟨_, rfl⟩, C', c1.more (Nat.le_succ _), c2, c3 a3, f3.trans c4, ((f4.mono (by omega)).trans q7).setCell (p := ⟨g, 2, none⟩) a10 _⟩
theorem buildChunk (w : World) : (Instr.build 115 #[]).run Tryd.prog w = .ok (.agg #[.slice none 0 0]) w := run_build (P := Tryd.prog) w 115 #[] _ (by kernel_rfl)
set_option maxHeartbeats 2000000 in
theorem sput_new {w : World} {B g log len alive N b : Nat} {C : CHUNKS} (hS : STORE w B g log len alive N C) (p : Nat) (h : Nat → Nat) (h8 : ∀ i, h i < 256) (hp : p < len) (hT : TOP C p) (hal : alive < 2 ^ 40) (hBg : B ≤ g) (hN : N < 2 ^ 40) (hm : w.cell? ⟨g, 3, none⟩ = some (.map (some b))) (hK : C (p / 2 ^ log) = none) : Calls Tryd.prog 54 #[.pointer (some ⟨g, 0, none⟩), .int .u64 (p : Int), .agg (UARR .u8 32 h)] w fun e w' =>
    (∃ v, e = .returned v) ∧ SPUTS w B g log len alive N p C h w' := by
  obtain ⟨wb, hwb⟩ : ∃ wb, w.alloc (.cells (UARR .u8 32 h) 27) = wb := ⟨_, rfl⟩
  have hb0 : Below w.heap.size w wb := by rw [← hwb]; exact (Below.refl _ _).alloc (Nat.le_refl _) _
  have h5b : Has wb w.heap.size (UARR .u8 32 h) 27 := by rw [← hwb]; exact Has.new w _ _
  have hg := hS.lt
  have hm0 : wb.cell? ⟨g, 3, none⟩ = some (.map (some b)) := (hb0.cell (by exact hg)).trans hm
  have ck := (hS.below hb0).key p wb (Below.refl _ _)
  have hz := zeroKey
  have hme := map_eql b
  have H : Aside (STORE wb B g log len alive N C ∧ p < len ∧ TOP C p ∧ alive < 2 ^ 40 ∧ C (p / 2 ^ log) = none ∧ len < 2 ^ 40 ∧ g < w.heap.size ∧ (∀ i, h i < 256) ∧ wb.cell? ⟨g, 3, none⟩ = some (.map (some b)) ∧ B ≤ g ∧ N < 2 ^ 40 ∧ Has wb w.heap.size (UARR .u8 32 h) 27 ∧ STEP w wb g C C ∧ Below B w wb) := ⟨hS.below hb0, hp, hT, hal, hK, hS.short, hg, h8, hm0, hBg, hN, h5b, STEP.below hS hb0, hb0.mono (by omega)⟩
  clear hS hp hT hal hK hm h8 hBg h5b hN hb0
  obtain ⟨K, hKe⟩ : ∃ K, p / 2 ^ log = K := ⟨_, rfl⟩
  rw [hKe] at ck H
  have HK : Aside (p / 2 ^ log = K) := hKe
  clear hKe
  go_enter Tryd.func54, Tryd.ntmps54
  go_wp2_with fail
  refine ck.mono ?_
  rintro e w1 ⟨rfl, hb1⟩
  clear ck
  obtain ⟨a1, a2, a3, a4, a5, a6, a7, a8, a9, a10, a11, a12, a13, a14⟩ := H.out
  have hb2 : Below wb.heap.size wb (w1.alloc (.cells #[.int .u64 (K : Int)] 109)) := hb1.alloc hb1.size _
  have h3w : w1.cell? ⟨g, 3, none⟩ = some (.map (some b)) := (hb1.cell (by exact a1.lt)).trans a9
  have hK64 : K < 2 ^ 64 := by have := HK.out; have := Nat.div_le_self p (2 ^ log); omega
  obtain ⟨mv, v, l1, l2, -⟩ := a1.looked K hK64
  have hmv : mv = .map (some b) := by have := l1 wb (Below.refl _ _); rw [a9] at this; exact (Option.some.inj this).symm
  subst hmv
  have l2' := l2 _ hb2.drew
  rw [a5] at l2'
  have h3 := l1 _ hb2
  have h52 : Has (w1.alloc (.cells #[.int .u64 (K : Int)] 109)).drew w.heap.size (UARR .u8 32 h) 27 := (a12.keep hb1).alloc _
  have h62 : Has (w1.alloc (.cells #[.int .u64 (K : Int)] 109)).drew w1.heap.size #[.int .u64 (K : Int)] 109 := Has.new w1 _ _
  have hS2 := a1.below hb2.drew
  have hT2 := STEP.below a1 hb2.drew
  have hB2 : Below B wb (w1.alloc (.cells #[.int .u64 (K : Int)] 109)).drew := hb2.drew.mono (by have := a1.lt; omega)
  have h3d : (w1.alloc (.cells #[.int .u64 (K : Int)] 109)).drew.cell? ⟨g, 3, none⟩ = some (.map (some b)) := h3
  clear l1 l2
  go_upto_region 4 with fail
  refine sput4 _ _ _ _ _ _ _ _ _ _ _ _ _ _ _ _ _ _ _ _ _ _ _ _ _ _ _ _ _ _ _ _ _ _ _ _ _ _ _ _ _ _ _ _ _ _ _ _ _ _ g w1.heap.size K (.map (some b)) v false h3 (Has.new w1 _ _) l2' (fun _ _ _ _ _ h => h) ?_
  dsimp only
  obtain ⟨W2, hW2⟩ : ∃ W2, (w1.alloc (.cells #[.int .u64 (K : Int)] 109)).drew = W2 := ⟨_, rfl⟩
  rw [hW2] at h52 h62 hS2 hT2 hB2 h3d ⊢
  clear hW2 l2' h3 hb2 h3w
  obtain ⟨mv', m1, m2, m3⟩ := hS2.map
  rw [h3d] at m1
  have hmv : mv' = some b := by cases Option.some.inj m1; rfl
  subst hmv
  obtain ⟨hBb, n0, hn0, hcm⟩ := m3 b rfl
  have hbl := hcm.lt
  have hb3 : Below W2.heap.size W2 (W2.alloc (.cells #[.slice none 0 0] 115)).drew := ((Below.refl _ _).alloc (Nat.le_refl _) _).drew
  have hcm3 := hcm.below hb3
  obtain ⟨w5, u1, u2, u3⟩ := hcm3.store (k := K) (g := W2.heap.size) (by omega) hK64
  have hbc : ∀ {b' c t' fr'}, W2.heap[b']? = some (.cells c t' fr') → b' ≠ b := fun h2 e => by
    obtain ⟨D, ⟨es, clock, hbm, _⟩, _⟩ := hcm
    rw [e, hbm] at h2; cases h2
  have hblk : ∀ x, x < W2.heap.size → x ≠ b → w5.heap[x]? = W2.heap[x]? := fun x hx hxb => (u3.block x (by have := hb3.size; omega) (fun e => hxb (by cases e; rfl))).trans (hb3.block x hx)
  have hbox : Has w5 W2.heap.size #[.slice none 0 0] 115 := (u3.block W2.heap.size (by simp) (fun e => by cases e; omega)).trans (Has.new W2 _ _)
  have hsz : W2.heap.size ≤ w5.heap.size := Nat.le_trans hb3.size u3.size
  obtain ⟨t1, t2, t3, t4⟩ := hS2.turn h3d hblk hsz (Nat.le_refl _) hbox ⟨n0 + 1, by omega, u2⟩ a5 hK64
  have h55 : Has w5 w.heap.size (UARR .u8 32 h) 27 := (hblk _ h52.lt (hbc h52)).trans h52
  have hB5 : Below B W2 w5 := (hb3.mono (by omega)).grown u3 (by have := hb3.size; omega) (fun x e => by cases e; exact hBb)
  have hC5 := (t1.chunk K W2.heap.size [] WITH_at).2.1
  have cP := chunkput_ok B W2.heap.size p [] h (by omega) (by decide) (fun r hr => by cases hr) a8 _ hC5
  have h33 : (W2.alloc (.cells #[.slice none 0 0] 115)).cell? ⟨g, 3, none⟩ = some (.map (some b)) := (hb3.cell (by exact hS2.lt)).trans h3d
  have h63 : Has (W2.alloc (.cells #[.slice none 0 0] 115)) w1.heap.size #[.int .u64 (K : Int)] 109 := h62.alloc _
  have hbch := buildChunk
  have G : Aside (STORE w5 B g log len alive (N + 1) (WITH C K W2.heap.size []) ∧ (∀ p', AT (WITH C K W2.heap.size []) log p' = AT C log p') ∧ (∀ p, TOP C p → TOP (WITH C K W2.heap.size []) p) ∧ STEP0 wb w5 g C (WITH C K W2.heap.size []) ∧ Below B wb w5) := ⟨t1, t2, t3, hT2.toSTEP0.trans t4, hB2.trans hB5⟩
  obtain ⟨gc, hgce⟩ : ∃ gc, W2.heap.size = gc := ⟨_, rfl⟩
  rw [hgce] at cP G u1
  clear t1 t2 t3 t4 hT2 hB2 hB5 hbox hsz hblk hbc u2 u3 hcm hcm3 hbl m1 m2 m3 hS2 hb3 hC5
  go_upto_region 7 with fail
  refine sput7 _ _ _ _ _ _ _ _ _ _ _ _ _ _ _ _ _ _ _ _ _ _ _ _ _ _ _ _ _ _ _ _ _ _ _ _ _ _ _ _ _ _ _ _ _ _ _ _ _ g w1.heap.size K (.map (some b)) _ w5 h33 h63 u1 (fun _ _ _ _ _ h => h) ?_
  dsimp only
  clear u1 h33 h63 hbch h62 h52
  clear hgce
  go_wp2_with (refine wpList_load_row rfl 27 (.tmp 5) rfl w.heap.size rfl 27 (UARR .u8 32 h) (0, 0) (.array 32 5) h55 Tryd.underlying27 rfl (info_HASH _) ?_)
  refine cP.mono ?_
  rintro e w6 ⟨⟨v6, rfl⟩, hP⟩
  clear cP
  have hself := G.out.1.put_self WITH_at hP
  have z2 : w6.cell? ⟨g, 2, none⟩ = some (.int .u64 (alive : Int)) := (World.cell?_of_block (w := w5) (by exact hself)).trans G.out.1.c2
  have zf : w6.frozen? ⟨g, 2, none⟩ = false := by
    have := G.out.1.live 2 (by decide)
    unfold World.frozen? at this ⊢
    rw [show w6.heap[g]? = w5.heap[g]? from hself]
    exact this
  have hwr : IntKind.u64.wrap ((alive : Int) + 1) = ((alive + 1 : Nat) : Int) := wrap_nat (by omega) (by omega)
  have FIN : Aside (PUTS w5 B gc p [] h w6) := hP
  clear hP hself
  go_wp2
  go_end0
  obtain ⟨f1, f2, f3, f4, f5⟩ := G.out
  obtain ⟨_, _, _, _, _, _, _, q7, _⟩ := id FIN.out
  obtain ⟨C', c1, c2, c3, c4, c5⟩ := f1.put_step WITH_at HK.out a2 FIN.out
  exact ⟨⟨_, rfl⟩, C', c1, fun p' => by rw [c2, f2], c3 (f3 p a3), STEP.of_with (a13.toSTEP0.trans f4) c4 c5, ((a14.trans f5).trans q7).setCell (p := ⟨g, 2, none⟩) a10 _⟩
end Go.Proofs.YtnplhejopmoopaaDoor.HX

/- Store.put into a store without a map; Store.put of the next place. -/
namespace Go.Proofs.YtnplhejopmoopaaDoor.HX
open Go.RowKit Go.Maps
set_option maxRecDepth 100000

set_option maxHeartbeats 2000000 in
theorem sput_first {w : World} {B g log len alive N : Nat} {C : CHUNKS} (hS : STORE w B g log len alive N C) (p : Nat) (h : Nat → Nat) (h8 : ∀ i, h i < 256) (hp : p < len) (hT : TOP C p) (hal : alive < 2 ^ 40) (hBg : B ≤ g) (hN : N < 2 ^ 40) (hm : w.cell? ⟨g, 3, none⟩ = some (.map none)) : Calls Tryd.prog 54 #[.pointer (some ⟨g, 0, none⟩), .int .u64 (p : Int), .agg (UARR .u8 32 h)] w fun e w' =>
    (∃ v, e = .returned v) ∧ SPUTS w B g log len alive N p C h w' := by
  obtain ⟨w0, hw0⟩ : ∃ w0, w.alloc (.cells (UARR .u8 32 h) 27) = w0 := ⟨_, rfl⟩
  have hb0 : Below w.heap.size w w0 := by rw [← hw0]; exact (Below.refl _ _).alloc (Nat.le_refl _) _
  have h50 : Has w0 w.heap.size (UARR .u8 32 h) 27 := by rw [← hw0]; exact Has.new w _ _
  have hg := hS.lt
  have hm0 : w0.cell? ⟨g, 3, none⟩ = some (.map none) := (hb0.cell (by exact hg)).trans hm
  have hs0 := hb0.size
  obtain ⟨hC, hSb, hstep⟩ := (hS.below hb0).mapped hm0 (by omega)
  have hba : Below w0.heap.size w0 (w0.alloc (.map #[] 0)) := (Below.refl _ _).alloc (Nat.le_refl _) _
  have hm1 : (w0.alloc (.map #[] 0)).cell? ⟨g, 3, none⟩ = some (.map none) := (hba.cell (by show g < w0.heap.size; omega)).trans hm0
  have hf1 : (w0.alloc (.map #[] 0)).frozen? ⟨g, 3, none⟩ = false := ((hS.below hb0).below hba).live 3 (by decide)
  obtain ⟨b, hbe⟩ : ∃ b, w0.heap.size = b := ⟨_, rfl⟩
  rw [hbe] at hSb hstep
  obtain ⟨wb, hwb⟩ : ∃ wb, (w0.alloc (.map #[] 0)).setCell ⟨g, 3, none⟩ (.map (some b)) = wb := ⟨_, rfl⟩
  have hBb : Below B w wb := by rw [← hwb]; exact ((hb0.mono (by omega)).trans (hba.mono (by omega))).setCell (p := ⟨g, 3, none⟩) hBg _
  have h5b : Has wb w.heap.size (UARR .u8 32 h) 27 := by rw [← hwb]; exact (h50.alloc _).other (by show w.heap.size ≠ g; omega) _
  have hmb : wb.cell? ⟨g, 3, none⟩ = some (.map (some b)) := by rw [← hwb]; exact World.cell?_setCell_same _ _ _ hm1
  rw [hwb] at hSb hstep
  have ck := hSb.key p wb (Below.refl _ _)
  have hz := zeroKey
  have hme := map_eql0
  have hmk : (Instr.makeMap 72 none).run Tryd.prog w0 = .ok (.map (some b)) (w0.alloc (.map #[] 0)) := by rw [← hbe]; rfl
  have H : Aside (STORE wb B g log len alive N C ∧ p < len ∧ TOP C p ∧ alive < 2 ^ 40 ∧ C (p / 2 ^ log) = none ∧ len < 2 ^ 40 ∧ g < w.heap.size ∧ (∀ i, h i < 256) ∧ wb.cell? ⟨g, 3, none⟩ = some (.map (some b)) ∧ B ≤ g ∧ N < 2 ^ 40 ∧ Has wb w.heap.size (UARR .u8 32 h) 27 ∧ STEP w wb g C C ∧ Below B w wb) := ⟨hSb, hp, hT, hal, hC _, hS.short, hg, h8, hmb, hBg, hN, h5b, (STEP.below hS hb0).trans hstep, hBb⟩
  clear hS hp hT hal hm h8 hBg h5b hN hb0 hSb hstep hC h50 hBb hba hs0
  obtain ⟨K, hKe⟩ : ∃ K, p / 2 ^ log = K := ⟨_, rfl⟩
  rw [hKe] at ck H
  have HK : Aside (p / 2 ^ log = K) := hKe
  clear hKe
  go_enter Tryd.func54, Tryd.ntmps54
  go_wp2_with fail
  refine ck.mono ?_
  rintro e w1 ⟨rfl, hb1⟩
  clear ck
  obtain ⟨a1, a2, a3, a4, a5, a6, a7, a8, a9, a10, a11, a12, a13, a14⟩ := H.out
  have hb2 : Below wb.heap.size wb (w1.alloc (.cells #[.int .u64 (K : Int)] 109)) := hb1.alloc hb1.size _
  have h3w : w1.cell? ⟨g, 3, none⟩ = some (.map (some b)) := (hb1.cell (by exact a1.lt)).trans a9
  have hK64 : K < 2 ^ 64 := by have := HK.out; have := Nat.div_le_self p (2 ^ log); omega
  obtain ⟨mv, v, l1, l2, -⟩ := a1.looked K hK64
  have hmv : mv = .map (some b) := by have := l1 wb (Below.refl _ _); rw [a9] at this; exact (Option.some.inj this).symm
  subst hmv
  have l2' := l2 _ hb2.drew
  rw [a5] at l2'
  have h3 := l1 _ hb2
  have h52 : Has (w1.alloc (.cells #[.int .u64 (K : Int)] 109)).drew w.heap.size (UARR .u8 32 h) 27 := (a12.keep hb1).alloc _
  have h62 : Has (w1.alloc (.cells #[.int .u64 (K : Int)] 109)).drew w1.heap.size #[.int .u64 (K : Int)] 109 := Has.new w1 _ _
  have hS2 := a1.below hb2.drew
  have hT2 := STEP.below a1 hb2.drew
  have hB2 : Below B wb (w1.alloc (.cells #[.int .u64 (K : Int)] 109)).drew := hb2.drew.mono (by have := a1.lt; omega)
  have h3d : (w1.alloc (.cells #[.int .u64 (K : Int)] 109)).drew.cell? ⟨g, 3, none⟩ = some (.map (some b)) := h3
  clear l1 l2
  go_upto_region 4 with fail
  refine sput4 _ _ _ _ _ _ _ _ _ _ _ _ _ _ _ _ _ _ _ _ _ _ _ _ _ _ _ _ _ _ _ _ _ _ _ _ _ _ _ _ _ _ _ _ _ _ _ _ _ _ g w1.heap.size K (.map (some b)) v false h3 (Has.new w1 _ _) l2' (fun _ _ _ _ _ h => h) ?_
  dsimp only
  obtain ⟨W2, hW2⟩ : ∃ W2, (w1.alloc (.cells #[.int .u64 (K : Int)] 109)).drew = W2 := ⟨_, rfl⟩
  rw [hW2] at h52 h62 hS2 hT2 hB2 h3d ⊢
  clear hW2 l2' h3 hb2 h3w
  obtain ⟨mv', m1, m2, m3⟩ := hS2.map
  rw [h3d] at m1
  have hmv : mv' = some b := by cases Option.some.inj m1; rfl
  subst hmv
  obtain ⟨hBb, n0, hn0, hcm⟩ := m3 b rfl
  have hbl := hcm.lt
  have hb3 : Below W2.heap.size W2 (W2.alloc (.cells #[.slice none 0 0] 115)).drew := ((Below.refl _ _).alloc (Nat.le_refl _) _).drew
  have hcm3 := hcm.below hb3
  obtain ⟨w5, u1, u2, u3⟩ := hcm3.store (k := K) (g := W2.heap.size) (by omega) hK64
  have hbc : ∀ {b' c t' fr'}, W2.heap[b']? = some (.cells c t' fr') → b' ≠ b := fun h2 e => by
    obtain ⟨D, ⟨es, clock, hbm, _⟩, _⟩ := hcm
    rw [e, hbm] at h2; cases h2
  have hblk : ∀ x, x < W2.heap.size → x ≠ b → w5.heap[x]? = W2.heap[x]? := fun x hx hxb => (u3.block x (by have := hb3.size; omega) (fun e => hxb (by cases e; rfl))).trans (hb3.block x hx)
  have hbox : Has w5 W2.heap.size #[.slice none 0 0] 115 := (u3.block W2.heap.size (by simp) (fun e => by cases e; omega)).trans (Has.new W2 _ _)
  have hsz : W2.heap.size ≤ w5.heap.size := Nat.le_trans hb3.size u3.size
  obtain ⟨t1, t2, t3, t4⟩ := hS2.turn h3d hblk hsz (Nat.le_refl _) hbox ⟨n0 + 1, by omega, u2⟩ a5 hK64
  have h55 : Has w5 w.heap.size (UARR .u8 32 h) 27 := (hblk _ h52.lt (hbc h52)).trans h52
  have hB5 : Below B W2 w5 := (hb3.mono (by omega)).grown u3 (by have := hb3.size; omega) (fun x e => by cases e; exact hBb)
  have hC5 := (t1.chunk K W2.heap.size [] WITH_at).2.1
  have cP := chunkput_ok B W2.heap.size p [] h (by omega) (by decide) (fun r hr => by cases hr) a8 _ hC5
  have h33 : (W2.alloc (.cells #[.slice none 0 0] 115)).cell? ⟨g, 3, none⟩ = some (.map (some b)) := (hb3.cell (by exact hS2.lt)).trans h3d
  have h63 : Has (W2.alloc (.cells #[.slice none 0 0] 115)) w1.heap.size #[.int .u64 (K : Int)] 109 := h62.alloc _
  have hbch := buildChunk
  have G : Aside (STORE w5 B g log len alive (N + 1) (WITH C K W2.heap.size []) ∧ (∀ p', AT (WITH C K W2.heap.size []) log p' = AT C log p') ∧ (∀ p, TOP C p → TOP (WITH C K W2.heap.size []) p) ∧ STEP0 wb w5 g C (WITH C K W2.heap.size []) ∧ Below B wb w5) := ⟨t1, t2, t3, hT2.toSTEP0.trans t4, hB2.trans hB5⟩
  obtain ⟨gc, hgce⟩ : ∃ gc, W2.heap.size = gc := ⟨_, rfl⟩
  rw [hgce] at cP G u1
  clear t1 t2 t3 t4 hT2 hB2 hB5 hbox hsz hblk hbc u2 u3 hcm hcm3 hbl m1 m2 m3 hS2 hb3 hC5
  go_upto_region 7 with fail
  refine sput7 _ _ _ _ _ _ _ _ _ _ _ _ _ _ _ _ _ _ _ _ _ _ _ _ _ _ _ _ _ _ _ _ _ _ _ _ _ _ _ _ _ _ _ _ _ _ _ _ _ g w1.heap.size K (.map (some b)) _ w5 h33 h63 u1 (fun _ _ _ _ _ h => h) ?_
  dsimp only
  clear u1 h33 h63 hbch h62 h52
  clear hgce
  go_wp2_with (refine wpList_load_row rfl 27 (.tmp 5) rfl w.heap.size rfl 27 (UARR .u8 32 h) (0, 0) (.array 32 5) h55 Tryd.underlying27 rfl (info_HASH _) ?_)
  refine cP.mono ?_
  rintro e w6 ⟨⟨v6, rfl⟩, hP⟩
  clear cP
  have hself := G.out.1.put_self WITH_at hP
  have z2 : w6.cell? ⟨g, 2, none⟩ = some (.int .u64 (alive : Int)) := (World.cell?_of_block (w := w5) (by exact hself)).trans G.out.1.c2
  have zf : w6.frozen? ⟨g, 2, none⟩ = false := by
    have := G.out.1.live 2 (by decide)
    unfold World.frozen? at this ⊢
    rw [show w6.heap[g]? = w5.heap[g]? from hself]
    exact this
  have hwr : IntKind.u64.wrap ((alive : Int) + 1) = ((alive + 1 : Nat) : Int) := wrap_nat (by omega) (by omega)
  have FIN : Aside (PUTS w5 B gc p [] h w6) := hP
  clear hP hself
  go_wp2
  go_end0
  obtain ⟨f1, f2, f3, f4, f5⟩ := G.out
  obtain ⟨_, _, _, _, _, _, _, q7, _⟩ := id FIN.out
  obtain ⟨C', c1, c2, c3, c4, c5⟩ := f1.put_step WITH_at HK.out a2 FIN.out
  exact ⟨⟨_, rfl⟩, C', c1, fun p' => by rw [c2, f2], c3 (f3 p a3), STEP.of_with (a13.toSTEP0.trans f4) c4 c5, ((a14.trans f5).trans q7).setCell (p := ⟨g, 2, none⟩) a10 _⟩
/-- Store.put of the next place. -/
theorem storeput_ok {w : World} {B g log len alive N : Nat} {C : CHUNKS} (hS : STORE w B g log len alive N C) (p : Nat) (h : Nat → Nat) (h8 : ∀ i, h i < 256) (hp : p < len) (hT : TOP C p) (hal : alive < 2 ^ 40) (hBg : B ≤ g) (hN : N < 2 ^ 40) : Calls Tryd.prog 54 #[.pointer (some ⟨g, 0, none⟩), .int .u64 (p : Int), .agg (UARR .u8 32 h)] w fun e w' =>
    (∃ v, e = .returned v) ∧ SPUTS w B g log len alive N p C h w' := by
  obtain ⟨mv, m1, _⟩ := hS.map
  cases mv with
  | none => exact sput_first hS p h h8 hp hT hal hBg hN m1
  | some b =>
    cases hK : C (p / 2 ^ log) with
    | none => exact sput_new hS p h h8 hp hT hal hBg hN m1 hK
    | some c => exact sput_there (gc := c.1) (rs := c.2) hS p h h8 hp hT hal hBg m1 hK
end Go.Proofs.YtnplhejopmoopaaDoor.HX

/- Store.Push. -/
namespace Go.Proofs.YtnplhejopmoopaaDoor.HX
open Go.RowKit Go.Maps
set_option maxRecDepth 100000

theorem STORE.longer {w : World} {B g log len alive N : Nat} {C : CHUNKS} (hS : STORE w B g log len alive N C) (hl : len + 1 < 2 ^ 40) : STORE (w.setCell ⟨g, 1, none⟩ (.int .u64 ((len + 1 : Nat) : Int))) B g log (len + 1) alive N C ∧ STEP w (w.setCell ⟨g, 1, none⟩ (.int .u64 ((len + 1 : Nat) : Int))) g C C := by
  obtain ⟨cs, t, fr, k1, k2, k3, k4⟩ := hS.kind
  obtain ⟨w2, hw2⟩ : ∃ w2, w.setCell ⟨g, 1, none⟩ (.int .u64 ((len + 1 : Nat) : Int)) = w2 := ⟨_, rfl⟩
  rw [hw2]
  have hset : ∀ b, b ≠ g → w2.heap[b]? = w.heap[b]? := fun b hb => by rw [← hw2]; exact Below.heap_setCell _ _ _ b (by exact hb)
  have cell : ∀ i, i ≠ 1 → w2.cell? ⟨g, i, none⟩ = w.cell? ⟨g, i, none⟩ := fun i hi => by rw [← hw2, set_off (fun e => hi e.symm)]
  have hch : ∀ k gc rk, C k = some (gc, rk) → gc ≠ g ∧ (∀ v x, w.cell? ⟨gc, 0, none⟩ = some v → v.ownBlock = some x → x ≠ g) ∧ ∀ r ∈ rk, r.gh ≠ g := fun k gc rk e => by
    obtain ⟨⟨_, z1⟩, z2, z3⟩ := (hS.chunk k gc rk e).2.1.kinds
    refine ⟨fun e => other_kind k1 z1 k2 e.symm, fun v x hv hx => ?_, fun r hr => ?_⟩
    · obtain ⟨_, hc⟩ := z2 v x hv hx
      exact fun e => other_kind k1 hc k3 e.symm
    · obtain ⟨_, hc⟩ := z3 r hr
      exact fun e => other_kind k1 hc k4 e.symm
  have hcc : ∀ k gc rk, C k = some (gc, rk) → w2.cell? ⟨gc, 0, none⟩ = w.cell? ⟨gc, 0, none⟩ := fun k gc rk e => World.cell?_of_block (w := w) (by exact hset gc (hch k gc rk e).1)
  refine ⟨⟨hS.small, hl, (cell 0 (by decide)).trans hS.c0, ?_, (cell 2 (by decide)).trans hS.c2, fun i hi => ?_, ?_, ?_, ?_, ?_⟩, ?_⟩
  · rw [← hw2]
    exact World.cell?_setCell_same _ _ _ hS.c1
  · rw [← hw2, World.frozen?_setCell]
    exact hS.live i hi
  · obtain ⟨cs', h1⟩ := set_kind (i := 1) k1 (.int .u64 ((len + 1 : Nat) : Int))
    exact ⟨cs', t, fr, by rw [← hw2]; exact h1, k2, k3, k4⟩
  · obtain ⟨mv, m1, m2, m3⟩ := hS.map
    refine ⟨mv, (cell 3 (by decide)).trans m1, m2, fun b e => ?_⟩
    obtain ⟨c1, n, c2, c3⟩ := m3 b e
    refine ⟨c1, n, c2, c3.at (hset b (fun e => ?_))⟩
    obtain ⟨D, ⟨es, clock, h1, _⟩, _⟩ := c3
    rw [e, k1] at h1
    cases h1
  · intro k gc rk e
    obtain ⟨b1, b2, b3⟩ := hS.chunk k gc rk e
    obtain ⟨d1, d2, d3⟩ := hch k gc rk e
    exact ⟨b1, b2.at (hset _ d1) (fun v x hv hx => hset _ (d2 v x hv hx)) (fun r hr => hset _ (d3 r hr)), fun r hr j hj hb => by have := b3 r hr j hj hb; exact ⟨this.1, by omega⟩⟩
  · intro k k' gc gc' rs rs' hne e e'
    obtain ⟨o1, o2, o3⟩ := hS.one k k' gc gc' rs rs' hne e e'
    exact ⟨o1, o2, fun v v' hv hv' => o3 v v' (by rw [← hcc k gc rs e]; exact hv) (by rw [← hcc k' gc' rs' e']; exact hv')⟩
  · refine ⟨⟨fun b h => .inl ?_, fun b _ hbg _ => hset b hbg, by rw [← hw2]; simp, fun i hi => cell i (by omega)⟩, id⟩
    rcases h with h | ⟨k, gc, rs, e, h⟩
    · left; rw [← cell 3 (by decide)]; exact h
    · refine .inr ⟨k, gc, rs, e, ?_⟩
      rcases h with h | ⟨v, hv, h⟩ | h
      · exact .inl h
      · exact .inr (.inl ⟨v, by rw [← hcc k gc rs e]; exact hv, h⟩)
      · exact .inr (.inr h)
theorem STORE.top {w : World} {B g log len alive N : Nat} {C : CHUNKS} (hS : STORE w B g log len alive N C) : TOP C len := fun k gc rs e r hr j hj hb => ((hS.chunk k gc rs e).2.2 r hr j hj hb).2
/-- what Store.Push leaves. -/
def PUSHED (w : World) (B g log len alive N : Nat) (C : CHUNKS) (h : Nat → Nat) (w' : World) : Prop := ∃ C', STORE w' B g log (len + 1) (alive + 1) (N + 1) C' ∧ (∀ p', AT C' log p' = if p' = len then some h else AT C log p') ∧ STEP w w' g C C' ∧ Below B w w'
set_option maxHeartbeats 2000000 in
theorem push_ok {w : World} {B g log len alive N : Nat} {C : CHUNKS} (hS : STORE w B g log len alive N C) (h : Nat → Nat) (h8 : ∀ i, h i < 256) (hl : len + 1 < 2 ^ 40) (hal : alive < 2 ^ 40) (hBg : B ≤ g) (hN : N < 2 ^ 40) : Calls Tryd.prog 41 #[.pointer (some ⟨g, 0, none⟩), .agg (UARR .u8 32 h)] w fun e w' =>
    e = .returned (.int .u64 (len : Int)) ∧ PUSHED w B g log len alive N C h w' := by
  obtain ⟨w0, hw0⟩ : ∃ w0, w.alloc (.cells (UARR .u8 32 h) 27) = w0 := ⟨_, rfl⟩
  have hb0 : Below w.heap.size w w0 := by rw [← hw0]; exact (Below.refl _ _).alloc (Nat.le_refl _) _
  have h50 : Has w0 w.heap.size (UARR .u8 32 h) 27 := by rw [← hw0]; exact Has.new w _ _
  have hg := hS.lt
  have hS0 := hS.below hb0
  have hc1 := hS0.c1
  have hf1 := hS0.live 1 (by decide)
  obtain ⟨hSl, hst⟩ := hS0.longer hl
  have hwr : IntKind.u64.wrap ((len : Int) + 1) = ((len + 1 : Nat) : Int) := wrap_nat (by omega) (by omega)
  obtain ⟨wl, hwl⟩ : ∃ wl, w0.setCell ⟨g, 1, none⟩ (.int .u64 ((len + 1 : Nat) : Int)) = wl := ⟨_, rfl⟩
  have h5l : Has wl w.heap.size (UARR .u8 32 h) 27 := by rw [← hwl]; exact h50.other (by show w.heap.size ≠ g; omega) _
  have hBl : Below B w wl := by rw [← hwl]; exact (hb0.mono (by omega)).setCell (p := ⟨g, 1, none⟩) hBg _
  rw [hwl] at hSl hst
  have cp := storeput_ok hSl len h h8 (Nat.lt_succ_self _) hS.top hal hBg hN
  have H : Aside (STEP w wl g C C ∧ Below B w wl) := ⟨(STEP.below hS hb0).trans hst, hBl⟩
  obtain ⟨L1, hL1⟩ : ∃ L1, len + 1 = L1 := ⟨_, rfl⟩
  have HL : Aside (len + 1 = L1) := hL1
  rw [hL1] at hwr hwl cp
  clear hL1 hS hS0 hSl hst hBl h8 hal hBg hN hb0
  go_enter Tryd.func41, Tryd.ntmps41
  go_wp2_with (refine wpList_load_row rfl 27 (.tmp 3) rfl w.heap.size rfl 27 (UARR .u8 32 h) (0, 0) (.array 32 5) h5l Tryd.underlying27 rfl (info_HASH _) ?_)
  refine cp.mono ?_
  rintro e w2 ⟨⟨v, rfl⟩, hP⟩
  have F : Aside (SPUTS wl B g log L1 alive N len C h w2) := hP
  clear cp hP
  go_wp2
  go_ret
  refine ⟨rfl, ?_⟩
  obtain ⟨C', c1, c2, c3, c4, c5⟩ := F.out
  unfold PUSHED
  rw [HL.out]
  exact ⟨C', c1, c2, H.out.1.trans c4, H.out.2.trans c5⟩
end Go.Proofs.YtnplhejopmoopaaDoor.HX

/- A store whose blocks are as they were. -/
namespace Go.Proofs.YtnplhejopmoopaaDoor.HX
open Go.RowKit
set_option maxRecDepth 100000

/-- a block that is none of the store's has changed. -/
theorem STORE.same {w w' : World} {B g log len alive N b : Nat} {C : CHUNKS} (hS : STORE w B g log len alive N C) (hblk : ∀ x, x < w.heap.size → x ≠ b → w'.heap[x]? = w.heap[x]?) (hb : ¬ FOOT w g C b) (hbg : g ≠ b) : STORE w' B g log len alive N C ∧ (∀ x, FOOT w' g C x → FOOT w g C x) ∧ ∀ i, w'.cell? ⟨g, i, none⟩ = w.cell? ⟨g, i, none⟩ := by
  have hg : w'.heap[g]? = w.heap[g]? := hblk g hS.lt hbg
  have cell : ∀ i, w'.cell? ⟨g, i, none⟩ = w.cell? ⟨g, i, none⟩ := fun i => World.cell?_of_block (w := w) (by exact hg)
  have hlt : ∀ {b' : Nat} {o : Obj}, w.heap[b']? = some o → b' < w.heap.size := fun h => (Array.getElem?_eq_some_iff.1 h).1
  have hch : ∀ k gc rk, C k = some (gc, rk) → w'.heap[gc]? = w.heap[gc]? ∧ (∀ v x, w.cell? ⟨gc, 0, none⟩ = some v → v.ownBlock = some x → w'.heap[x]? = w.heap[x]?) ∧ ∀ r ∈ rk, w'.heap[r.gh]? = w.heap[r.gh]? := fun k gc rk e => by
    obtain ⟨⟨_, z1⟩, z2, z3⟩ := (hS.chunk k gc rk e).2.1.kinds
    refine ⟨hblk _ (hlt z1) (fun h => hb (.inr ⟨k, gc, rk, e, .inl h.symm⟩)), fun v x hv hx => ?_, fun r hr => ?_⟩
    · obtain ⟨_, hc⟩ := z2 v x hv hx
      exact hblk _ (hlt hc) (fun h => hb (.inr ⟨k, gc, rk, e, .inr (.inl ⟨v, hv, by rw [← h]; exact hx⟩)⟩))
    · obtain ⟨_, hc⟩ := z3 r hr
      exact hblk _ (hlt hc) (fun h => hb (.inr ⟨k, gc, rk, e, .inr (.inr ⟨r, hr, h⟩)⟩))
  have hcc : ∀ k gc rk, C k = some (gc, rk) → w'.cell? ⟨gc, 0, none⟩ = w.cell? ⟨gc, 0, none⟩ := fun k gc rk e => World.cell?_of_block (w := w) (by exact (hch k gc rk e).1)
  refine ⟨⟨hS.small, hS.short, (cell 0).trans hS.c0, (cell 1).trans hS.c1, (cell 2).trans hS.c2, fun i hi => ?_, ?_, ?_, ?_, ?_⟩, fun x h => ?_, cell⟩
  · have := hS.live i hi
    unfold World.frozen? at this ⊢
    rw [show w'.heap[g]? = w.heap[g]? from hg]
    exact this
  · obtain ⟨cs, t, fr, k1, k2⟩ := hS.kind
    exact ⟨cs, t, fr, hg.trans k1, k2⟩
  · obtain ⟨mv, m1, m2, m3⟩ := hS.map
    refine ⟨mv, (cell 3).trans m1, m2, fun x e => ?_⟩
    obtain ⟨c1, n, c2, c3⟩ := m3 x e
    refine ⟨c1, n, c2, c3.at (hblk x c3.lt (fun h => hb (.inl (by rw [m1, e, h]))))⟩
  · intro k gc rk e
    obtain ⟨b1, b2, b3⟩ := hS.chunk k gc rk e
    obtain ⟨d1, d2, d3⟩ := hch k gc rk e
    exact ⟨b1, b2.at d1 d2 d3, b3⟩
  · intro k k' gc gc' rs rs' hne e e'
    obtain ⟨o1, o2, o3⟩ := hS.one k k' gc gc' rs rs' hne e e'
    exact ⟨o1, o2, fun v v' hv hv' => o3 v v' (by rw [← hcc k gc rs e]; exact hv) (by rw [← hcc k' gc' rs' e']; exact hv')⟩
  · rcases h with h | ⟨k, gc, rs, e, h⟩
    · left; rw [← cell 3]; exact h
    · refine .inr ⟨k, gc, rs, e, ?_⟩
      rcases h with h | ⟨v, hv, h⟩ | h
      · exact .inl h
      · exact .inr (.inl ⟨v, by rw [← hcc k gc rs e]; exact hv, h⟩)
      · exact .inr (.inr h)
end Go.Proofs.YtnplhejopmoopaaDoor.HX

/- A store inside a larger struct: what lies behind it in its block. -/
namespace Go.Proofs.YtnplhejopmoopaaDoor.HX
open Go.RowKit
set_option maxRecDepth 100000

theorem STORE.foot_lt {w : World} {B g log len alive N b : Nat} {C : CHUNKS} (hS : STORE w B g log len alive N C) (hb : FOOT w g C b) : b < w.heap.size := by
  rcases hb with e | ⟨k, gc, rs, e, h⟩
  · obtain ⟨mv, m1, m2, m3⟩ := hS.map
    rw [e] at m1
    have hm : mv = some b := by cases Option.some.inj m1; rfl
    obtain ⟨_, n, _, hc⟩ := m3 b hm
    exact hc.lt
  · obtain ⟨⟨_, z1⟩, z2, z3⟩ := (hS.chunk k gc rs e).2.1.kinds
    rcases h with rfl | ⟨v, hv, h⟩ | ⟨r, hr, rfl⟩
    · exact (Array.getElem?_eq_some_iff.1 z1).1
    · obtain ⟨_, hc⟩ := z2 v b hv h
      exact (Array.getElem?_eq_some_iff.1 hc).1
    · obtain ⟨_, hc⟩ := z3 r hr
      exact (Array.getElem?_eq_some_iff.1 hc).1
theorem STORE.foot_below {w w' : World} {B g log len alive N b : Nat} {C : CHUNKS} (hS : STORE w B g log len alive N C) (hb : Below w.heap.size w w') (hf : FOOT w' g C b) : FOOT w g C b := by
  have hg := hS.lt
  have cell : ∀ i, w'.cell? ⟨g, i, none⟩ = w.cell? ⟨g, i, none⟩ := fun i => hb.cell (by exact hg)
  rcases hf with h | ⟨k, gc, rs, e, h⟩
  · left; rw [← cell 3]; exact h
  · refine .inr ⟨k, gc, rs, e, ?_⟩
    rcases h with h | ⟨v, hv, h⟩ | h
    · exact .inl h
    · obtain ⟨x, hx, _⟩ := (hS.chunk k gc rs e).2.1.box
      exact .inr (.inl ⟨v, by rw [← hv]; exact (hb.cell (by exact hx.lt)).symm, h⟩)
    · exact .inr (.inr h)
/-- a step that may write what lies behind the store in its block. -/
structure TSTEP (w w' : World) (g : Nat) (C C' : CHUNKS) : Prop where
  foot : ∀ b, FOOT w' g C' b → FOOT w g C b ∨ w.heap.size ≤ b
  same : ∀ b, b < w.heap.size → b ≠ g → ¬ FOOT w g C b → w'.heap[b]? = w.heap[b]?
  size : w.heap.size ≤ w'.heap.size
  pin : w'.cell? ⟨g, 4, none⟩ = w.cell? ⟨g, 4, none⟩
theorem STEP.tree {w w' : World} {g : Nat} {C C' : CHUNKS} (h : STEP w w' g C C') : TSTEP w w' g C C' := ⟨h.foot, h.same, h.size, h.pins 4 (by decide)⟩
theorem TSTEP.trans {w w' w'' : World} {g : Nat} {C C' C'' : CHUNKS} (h : TSTEP w w' g C C') (h' : TSTEP w' w'' g C' C'') : TSTEP w w'' g C C'' := by
  have hs := h.size
  refine ⟨fun b hb => ?_, fun b hb hg hf => ?_, Nat.le_trans h.size h'.size, h'.pin.trans h.pin⟩
  · rcases h'.foot b hb with h1 | h1
    · exact h.foot b h1
    · exact .inr (by omega)
  · refine (h'.same b (by omega) hg (fun hf' => ?_)).trans (h.same b hb hg hf)
    rcases h.foot b hf' with h1 | h1
    · exact hf h1
    · omega
theorem STORE.side {w : World} {B g log len alive N : Nat} {C : CHUNKS} (hS : STORE w B g log len alive N C) (i0 : Nat) (hi0 : 5 ≤ i0) (u : Value) : STORE (w.setCell ⟨g, i0, none⟩ u) B g log len alive N C ∧ TSTEP w (w.setCell ⟨g, i0, none⟩ u) g C C := by
  obtain ⟨cs, t, fr, k1, k2, k3, k4⟩ := hS.kind
  obtain ⟨w2, hw2⟩ : ∃ w2, w.setCell ⟨g, i0, none⟩ u = w2 := ⟨_, rfl⟩
  rw [hw2]
  have hset : ∀ b, b ≠ g → w2.heap[b]? = w.heap[b]? := fun b hb => by rw [← hw2]; exact Below.heap_setCell _ _ _ b (by exact hb)
  have cell : ∀ i, i ≠ i0 → w2.cell? ⟨g, i, none⟩ = w.cell? ⟨g, i, none⟩ := fun i hi => by rw [← hw2, set_off (fun e => hi e.symm)]
  have hch : ∀ k gc rk, C k = some (gc, rk) → gc ≠ g ∧ (∀ v x, w.cell? ⟨gc, 0, none⟩ = some v → v.ownBlock = some x → x ≠ g) ∧ ∀ r ∈ rk, r.gh ≠ g := fun k gc rk e => by
    obtain ⟨⟨_, z1⟩, z2, z3⟩ := (hS.chunk k gc rk e).2.1.kinds
    refine ⟨fun e => other_kind k1 z1 k2 e.symm, fun v x hv hx => ?_, fun r hr => ?_⟩
    · obtain ⟨_, hc⟩ := z2 v x hv hx
      exact fun e => other_kind k1 hc k3 e.symm
    · obtain ⟨_, hc⟩ := z3 r hr
      exact fun e => other_kind k1 hc k4 e.symm
  have hcc : ∀ k gc rk, C k = some (gc, rk) → w2.cell? ⟨gc, 0, none⟩ = w.cell? ⟨gc, 0, none⟩ := fun k gc rk e => World.cell?_of_block (w := w) (by exact hset gc (hch k gc rk e).1)
  refine ⟨⟨hS.small, hS.short, (cell 0 (by omega)).trans hS.c0, ?_, (cell 2 (by omega)).trans hS.c2, fun i hi => ?_, ?_, ?_, ?_, ?_⟩, ?_⟩
  · exact (cell 1 (by omega)).trans hS.c1
  · rw [← hw2, World.frozen?_setCell]
    exact hS.live i hi
  · obtain ⟨cs', h1⟩ := set_kind (i := i0) k1 u
    exact ⟨cs', t, fr, by rw [← hw2]; exact h1, k2, k3, k4⟩
  · obtain ⟨mv, m1, m2, m3⟩ := hS.map
    refine ⟨mv, (cell 3 (by omega)).trans m1, m2, fun b e => ?_⟩
    obtain ⟨c1, n, c2, c3⟩ := m3 b e
    refine ⟨c1, n, c2, c3.at (hset b (fun e => ?_))⟩
    obtain ⟨D, ⟨es, clock, h1, _⟩, _⟩ := c3
    rw [e, k1] at h1
    cases h1
  · intro k gc rk e
    obtain ⟨b1, b2, b3⟩ := hS.chunk k gc rk e
    obtain ⟨d1, d2, d3⟩ := hch k gc rk e
    exact ⟨b1, b2.at (hset _ d1) (fun v x hv hx => hset _ (d2 v x hv hx)) (fun r hr => hset _ (d3 r hr)), b3⟩
  · intro k k' gc gc' rs rs' hne e e'
    obtain ⟨o1, o2, o3⟩ := hS.one k k' gc gc' rs rs' hne e e'
    exact ⟨o1, o2, fun v v' hv hv' => o3 v v' (by rw [← hcc k gc rs e]; exact hv) (by rw [← hcc k' gc' rs' e']; exact hv')⟩
  · refine ⟨fun b h => .inl ?_, fun b _ hbg _ => hset b hbg, by rw [← hw2]; simp, cell 4 (by omega)⟩
    rcases h with h | ⟨k, gc, rs, e, h⟩
    · left; rw [← cell 3 (by omega)]; exact h
    · refine .inr ⟨k, gc, rs, e, ?_⟩
      rcases h with h | ⟨v, hv, h⟩ | h
      · exact .inl h
      · exact .inr (.inl ⟨v, by rw [← hcc k gc rs e]; exact hv, h⟩)
      · exact .inr (.inr h)
end Go.Proofs.YtnplhejopmoopaaDoor.HX
