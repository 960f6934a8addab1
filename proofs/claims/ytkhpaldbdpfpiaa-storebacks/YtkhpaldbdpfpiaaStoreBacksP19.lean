/- Texts of StoreBacks, one behind the other: StoreSputMid, StoreBack, StoreFill. -/
import Derived.Test.YtkhpaldbdpfpiaaStoreBacksP11
import Derived.Test.YtkhpaldbdpfpiaaStoreBacksP12
import Derived.Test.YtkhpaldbdpfpiaaStoreBacksP15
import Derived.Test.YtkhpaldbdpfpiaaStoreBacksP18
/- Store.put at any place without a node; Back. -/
namespace Go.Proofs.Ytkhpaldbdpfpiaa
open Go.RowKit
set_option maxRecDepth 100000

/-- what putting leaves, wherever. -/
def SPUTM (w : World) (B g log len alive N p : Nat) (C : CHUNKS) (h : Nat → Nat) (w' : World) : Prop := ∃ C', STORE w' B g log len (alive + 1) (N + 1) C' ∧ (∀ p', AT C' log p' = if p' = p then some h else AT C log p') ∧ STEP w w' g C C' ∧ Below B w w'
set_option maxHeartbeats 2000000 in
theorem sputm_there {w : World} {B g log len alive N gc b : Nat} {C : CHUNKS} {rs : List ROW} (hS : STORE w B g log len alive N C) (p : Nat) (h : Nat → Nat) (h8 : ∀ i, h i < 256) (hp : p < len) (hA : AT C log p = none) (hal : alive < 2 ^ 40) (hBg : B ≤ g) (hm : w.cell? ⟨g, 3, none⟩ = some (.map (some b))) (hK : C (p / 2 ^ log) = some (gc, rs)) : Calls Try.prog 18 #[.pointer (some ⟨g, 0, none⟩), .int .u64 (p : Int), .agg (UARR .u8 32 h)] w fun e w' =>
    (∃ v, e = .returned v) ∧ SPUTM w B g log len alive N p C h w' := by
  obtain ⟨w0, hw0⟩ : ∃ w0, w.alloc (.cells (UARR .u8 32 h) 32) = w0 := ⟨_, rfl⟩
  have hb0 : Below w.heap.size w w0 := by rw [← hw0]; exact (Below.refl _ _).alloc (Nat.le_refl _) _
  have h50 : Has w0 w.heap.size (UARR .u8 32 h) 32 := by rw [← hw0]; exact Has.new w _ _
  have hg := hS.lt
  have hm0 : w0.cell? ⟨g, 3, none⟩ = some (.map (some b)) := (hb0.cell (by exact hg)).trans hm
  have ck := (hS.below hb0).key p w0 (Below.refl _ _)
  have hz := zeroKey
  have hme := map_eql b
  have hlen := hS.short
  have H : Aside (STORE w B g log len alive N C ∧ p < len ∧ AT C log p = none ∧ alive < 2 ^ 40 ∧ C (p / 2 ^ log) = some (gc, rs) ∧ len < 2 ^ 40 ∧ g < w.heap.size ∧ (∀ i, h i < 256) ∧ w.cell? ⟨g, 3, none⟩ = some (.map (some b)) ∧ B ≤ g) := ⟨hS, hp, hA, hal, hK, hlen, hg, h8, hm, hBg⟩
  clear hS hp hA hal hK hlen hm h8 hBg
  obtain ⟨K, hKe⟩ : ∃ K, p / 2 ^ log = K := ⟨_, rfl⟩
  rw [hKe] at ck H
  have HK : Aside (p / 2 ^ log = K) := hKe
  clear hKe
  go_enter Try.func18, Try.ntmps18
  go_wp2_with fail
  refine ck.mono ?_
  rintro e w1 ⟨rfl, hb01⟩
  clear ck
  have hb1 : Below w.heap.size w w1 := hb0.trans (hb01.mono hb0.size)
  obtain ⟨a1, a2, a3, a4, a5, a6, a7, a8, a9, a10⟩ := H.out
  have h3w : w1.cell? ⟨g, 3, none⟩ = some (.map (some b)) := (hb1.cell (by exact a7)).trans a9
  have hb2 : Below w.heap.size w (w1.alloc (.cells #[.int .u64 (K : Int)] 53)) := hb1.alloc hb1.size _
  have hK64 : K < 2 ^ 64 := (a1.chunk K gc rs a5).1
  obtain ⟨mv, v, l1, l2, l3⟩ := a1.looked K hK64
  have hmv : mv = .map (some b) := by have := l1 w (Below.refl _ _); rw [a9] at this; exact (Option.some.inj this).symm
  subst hmv
  have hv := l3 gc rs a5
  subst hv
  have l2' := l2 _ hb2.drew
  rw [a5] at l2'
  have h3 := l1 _ hb2
  have h52 : Has (w1.alloc (.cells #[.int .u64 (K : Int)] 53)).drew w.heap.size (UARR .u8 32 h) 32 := (h50.keep hb01).alloc _
  have hS2 := a1.below hb2.drew
  have hC2 := (hS2.chunk K gc rs a5).2.1
  have hbits := fun r hr j hj hb => ((hS2.chunk K gc rs a5).2.2 r hr j hj hb).2
  have hlook : LOOK rs p = none := by
    have h := a3
    unfold AT at h
    rw [HK.out, a5] at h
    exact h
  have cP := chunkput_mid B gc p rs h (by omega) (rows_few hC2 hbits (by omega)) hlook a8 _ hC2
  clear l1 l2 l3 h3w hbits hlook
  go_upto_region 4 with fail
  refine sput4 _ _ _ _ _ _ _ _ _ _ _ _ _ _ _ _ _ _ _ _ _ _ _ _ _ _ _ _ _ _ _ _ _ _ _ _ _ _ _ _ _ _ _ _ _ _ _ _ _ _ g w1.heap.size K (.map (some b)) (.pointer (some ⟨gc, 0, none⟩)) true h3 (Has.new w1 _ _) l2' (fun _ _ _ _ _ h => h) ?_
  dsimp only
  obtain ⟨W2, hW2⟩ : ∃ W2, (w1.alloc (.cells #[.int .u64 (K : Int)] 53)).drew = W2 := ⟨_, rfl⟩
  rw [hW2] at h52 cP hS2 ⊢
  go_wp2_with (refine wpList_load_row rfl 32 (.tmp 5) rfl w.heap.size rfl 32 (UARR .u8 32 h) (0, 0) (.array 32 5) h52 Try.underlying32 rfl (info_HASH _) ?_)
  refine cP.mono ?_
  rintro e w4 ⟨⟨v4, rfl⟩, hP⟩
  clear cP
  have hself := hS2.put_self a5 hP
  have z2 : w4.cell? ⟨g, 2, none⟩ = some (.int .u64 (alive : Int)) := (World.cell?_of_block (w := W2) (by exact hself)).trans hS2.c2
  have zf : w4.frozen? ⟨g, 2, none⟩ = false := by
    have := hS2.live 2 (by decide)
    unfold World.frozen? at this ⊢
    rw [show w4.heap[g]? = W2.heap[g]? from hself]
    exact this
  have hwr : IntKind.u64.wrap ((alive : Int) + 1) = ((alive + 1 : Nat) : Int) := wrap_nat (by omega) (by omega)
  have FIN : Aside (STORE W2 B g log len alive N C ∧ PUTS W2 B gc p rs h w4 ∧ STEP w W2 g C C ∧ Below w.heap.size w W2) := ⟨hS2, hP, by rw [← hW2]; exact STEP.below a1 hb2.drew, by rw [← hW2]; exact hb2.drew⟩
  clear hS2 hP hself hW2 hb2
  go_wp2
  go_end0
  obtain ⟨f1, f2, f3, f4⟩ := FIN.out
  obtain ⟨_, _, _, _, _, _, _, q7, _⟩ := id f2
  obtain ⟨C', c1, c2, c3, c4, -⟩ := f1.put_step a5 HK.out a2 f2
  exact ⟨⟨_, rfl⟩, C', c1.more (Nat.le_succ _), c2, f3.trans c4, ((f4.mono (by omega)).trans q7).setCell (p := ⟨g, 2, none⟩) a10 _⟩
set_option maxHeartbeats 2000000 in
theorem sputm_new {w : World} {B g log len alive N b : Nat} {C : CHUNKS} (hS : STORE w B g log len alive N C) (p : Nat) (h : Nat → Nat) (h8 : ∀ i, h i < 256) (hp : p < len) (hal : alive < 2 ^ 40) (hBg : B ≤ g) (hN : N < 2 ^ 40) (hm : w.cell? ⟨g, 3, none⟩ = some (.map (some b))) (hK : C (p / 2 ^ log) = none) : Calls Try.prog 18 #[.pointer (some ⟨g, 0, none⟩), .int .u64 (p : Int), .agg (UARR .u8 32 h)] w fun e w' =>
    (∃ v, e = .returned v) ∧ SPUTM w B g log len alive N p C h w' := by
  obtain ⟨wb, hwb⟩ : ∃ wb, w.alloc (.cells (UARR .u8 32 h) 32) = wb := ⟨_, rfl⟩
  have hb0 : Below w.heap.size w wb := by rw [← hwb]; exact (Below.refl _ _).alloc (Nat.le_refl _) _
  have h5b : Has wb w.heap.size (UARR .u8 32 h) 32 := by rw [← hwb]; exact Has.new w _ _
  have hg := hS.lt
  have hm0 : wb.cell? ⟨g, 3, none⟩ = some (.map (some b)) := (hb0.cell (by exact hg)).trans hm
  have ck := (hS.below hb0).key p wb (Below.refl _ _)
  have hz := zeroKey
  have hme := map_eql b
  have H : Aside (STORE wb B g log len alive N C ∧ p < len ∧ True ∧ alive < 2 ^ 40 ∧ C (p / 2 ^ log) = none ∧ len < 2 ^ 40 ∧ g < w.heap.size ∧ (∀ i, h i < 256) ∧ wb.cell? ⟨g, 3, none⟩ = some (.map (some b)) ∧ B ≤ g ∧ N < 2 ^ 40 ∧ Has wb w.heap.size (UARR .u8 32 h) 32 ∧ STEP w wb g C C ∧ Below B w wb) := ⟨hS.below hb0, hp, trivial, hal, hK, hS.short, hg, h8, hm0, hBg, hN, h5b, STEP.below hS hb0, hb0.mono (by omega)⟩
  clear hS hp hal hK hm h8 hBg h5b hN hb0
  obtain ⟨K, hKe⟩ : ∃ K, p / 2 ^ log = K := ⟨_, rfl⟩
  rw [hKe] at ck H
  have HK : Aside (p / 2 ^ log = K) := hKe
  clear hKe
  go_enter Try.func18, Try.ntmps18
  go_wp2_with fail
  refine ck.mono ?_
  rintro e w1 ⟨rfl, hb1⟩
  clear ck
  obtain ⟨a1, a2, a3, a4, a5, a6, a7, a8, a9, a10, a11, a12, a13, a14⟩ := H.out
  have hb2 : Below wb.heap.size wb (w1.alloc (.cells #[.int .u64 (K : Int)] 53)) := hb1.alloc hb1.size _
  have h3w : w1.cell? ⟨g, 3, none⟩ = some (.map (some b)) := (hb1.cell (by exact a1.lt)).trans a9
  have hK64 : K < 2 ^ 64 := by have := HK.out; have := Nat.div_le_self p (2 ^ log); omega
  obtain ⟨mv, v, l1, l2, -⟩ := a1.looked K hK64
  have hmv : mv = .map (some b) := by have := l1 wb (Below.refl _ _); rw [a9] at this; exact (Option.some.inj this).symm
  subst hmv
  have l2' := l2 _ hb2.drew
  rw [a5] at l2'
  have h3 := l1 _ hb2
  have h52 : Has (w1.alloc (.cells #[.int .u64 (K : Int)] 53)).drew w.heap.size (UARR .u8 32 h) 32 := (a12.keep hb1).alloc _
  have h62 : Has (w1.alloc (.cells #[.int .u64 (K : Int)] 53)).drew w1.heap.size #[.int .u64 (K : Int)] 53 := Has.new w1 _ _
  have hS2 := a1.below hb2.drew
  have hT2 := STEP.below a1 hb2.drew
  have hB2 : Below B wb (w1.alloc (.cells #[.int .u64 (K : Int)] 53)).drew := hb2.drew.mono (by have := a1.lt; omega)
  have h3d : (w1.alloc (.cells #[.int .u64 (K : Int)] 53)).drew.cell? ⟨g, 3, none⟩ = some (.map (some b)) := h3
  clear l1 l2
  go_upto_region 4 with fail
  refine sput4 _ _ _ _ _ _ _ _ _ _ _ _ _ _ _ _ _ _ _ _ _ _ _ _ _ _ _ _ _ _ _ _ _ _ _ _ _ _ _ _ _ _ _ _ _ _ _ _ _ _ g w1.heap.size K (.map (some b)) v false h3 (Has.new w1 _ _) l2' (fun _ _ _ _ _ h => h) ?_
  dsimp only
  obtain ⟨W2, hW2⟩ : ∃ W2, (w1.alloc (.cells #[.int .u64 (K : Int)] 53)).drew = W2 := ⟨_, rfl⟩
  rw [hW2] at h52 h62 hS2 hT2 hB2 h3d ⊢
  clear hW2 l2' h3 hb2 h3w
  obtain ⟨mv', m1, m2, m3⟩ := hS2.map
  rw [h3d] at m1
  have hmv : mv' = some b := by cases Option.some.inj m1; rfl
  subst hmv
  obtain ⟨hBb, n0, hn0, hcm⟩ := m3 b rfl
  have hbl := hcm.lt
  have hb3 : Below W2.heap.size W2 (W2.alloc (.cells #[.slice none 0 0] 59)).drew := ((Below.refl _ _).alloc (Nat.le_refl _) _).drew
  have hcm3 := hcm.below hb3
  obtain ⟨w5, u1, u2, u3⟩ := hcm3.store (k := K) (g := W2.heap.size) (by omega) hK64
  have hbc : ∀ {b' c t' fr'}, W2.heap[b']? = some (.cells c t' fr') → b' ≠ b := fun h2 e => by
    obtain ⟨D, ⟨es, clock, hbm, _⟩, _⟩ := hcm
    rw [e, hbm] at h2; cases h2
  have hblk : ∀ x, x < W2.heap.size → x ≠ b → w5.heap[x]? = W2.heap[x]? := fun x hx hxb => (u3.block x (by have := hb3.size; omega) (fun e => hxb (by cases e; rfl))).trans (hb3.block x hx)
  have hbox : Has w5 W2.heap.size #[.slice none 0 0] 59 := (u3.block W2.heap.size (by simp) (fun e => by cases e; omega)).trans (Has.new W2 _ _)
  have hsz : W2.heap.size ≤ w5.heap.size := Nat.le_trans hb3.size u3.size
  obtain ⟨t1, t2, t3, t4⟩ := hS2.turn h3d hblk hsz (Nat.le_refl _) hbox ⟨n0 + 1, by omega, u2⟩ a5 hK64
  have h55 : Has w5 w.heap.size (UARR .u8 32 h) 32 := (hblk _ h52.lt (hbc h52)).trans h52
  have hB5 : Below B W2 w5 := (hb3.mono (by omega)).grown u3 (by have := hb3.size; omega) (fun x e => by cases e; exact hBb)
  have hC5 := (t1.chunk K W2.heap.size [] WITH_at).2.1
  have cP := chunkput_ok B W2.heap.size p [] h (by omega) (by decide) (fun r hr => by cases hr) a8 _ hC5
  have h33 : (W2.alloc (.cells #[.slice none 0 0] 59)).cell? ⟨g, 3, none⟩ = some (.map (some b)) := (hb3.cell (by exact hS2.lt)).trans h3d
  have h63 : Has (W2.alloc (.cells #[.slice none 0 0] 59)) w1.heap.size #[.int .u64 (K : Int)] 53 := h62.alloc _
  have hbch := buildChunk
  have G : Aside (STORE w5 B g log len alive (N + 1) (WITH C K W2.heap.size []) ∧ (∀ p', AT (WITH C K W2.heap.size []) log p' = AT C log p') ∧ (∀ p, TOP C p → TOP (WITH C K W2.heap.size []) p) ∧ STEP0 wb w5 g C (WITH C K W2.heap.size []) ∧ Below B wb w5) := ⟨t1, t2, t3, hT2.toSTEP0.trans t4, hB2.trans hB5⟩
  obtain ⟨gc, hgce⟩ : ∃ gc, W2.heap.size = gc := ⟨_, rfl⟩
  rw [hgce] at cP G u1
  clear t1 t2 t3 t4 hT2 hB2 hB5 hbox hsz hblk hbc u2 u3 hcm hcm3 hbl m1 m2 m3 hS2 hb3 hC5
  go_upto_region 7 with fail
  refine sput7 _ _ _ _ _ _ _ _ _ _ _ _ _ _ _ _ _ _ _ _ _ _ _ _ _ _ _ _ _ _ _ _ _ _ _ _ _ _ _ _ _ _ _ _ _ _ _ _ _ g w1.heap.size K (.map (some b)) _ w5 h33 h63 u1 (fun _ _ _ _ _ h => h) ?_
  dsimp only
  clear u1 h33 h63 hbch h62 h52
  clear hgce
  go_wp2_with (refine wpList_load_row rfl 32 (.tmp 5) rfl w.heap.size rfl 32 (UARR .u8 32 h) (0, 0) (.array 32 5) h55 Try.underlying32 rfl (info_HASH _) ?_)
  refine cP.mono ?_
  rintro e w6 ⟨⟨v6, rfl⟩, hP⟩
  clear cP
  have hself := G.out.1.put_self WITH_at hP
  have z2 : w6.cell? ⟨g, 2, none⟩ = some (.int .u64 (alive : Int)) := (World.cell?_of_block (w := w5) (by exact hself)).trans G.out.1.c2
  have zf : w6.frozen? ⟨g, 2, none⟩ = false := by
    have := G.out.1.live 2 (by decide)
    unfold World.frozen? at this ⊢
    rw [show w6.heap[g]? = w5.heap[g]? from hself]
    exact this
  have hwr : IntKind.u64.wrap ((alive : Int) + 1) = ((alive + 1 : Nat) : Int) := wrap_nat (by omega) (by omega)
  have FIN : Aside (PUTS w5 B gc p [] h w6) := hP
  clear hP hself
  go_wp2
  go_end0
  obtain ⟨f1, f2, f3, f4, f5⟩ := G.out
  obtain ⟨_, _, _, _, _, _, _, q7, _⟩ := id FIN.out
  obtain ⟨C', c1, c2, c3, c4, c5⟩ := f1.put_step WITH_at HK.out a2 FIN.out
  exact ⟨⟨_, rfl⟩, C', c1, fun p' => by rw [c2, f2], STEP.of_with (a13.toSTEP0.trans f4) c4 c5, ((a14.trans f5).trans q7).setCell (p := ⟨g, 2, none⟩) a10 _⟩
set_option maxHeartbeats 2000000 in
theorem sputm_first {w : World} {B g log len alive N : Nat} {C : CHUNKS} (hS : STORE w B g log len alive N C) (p : Nat) (h : Nat → Nat) (h8 : ∀ i, h i < 256) (hp : p < len) (hal : alive < 2 ^ 40) (hBg : B ≤ g) (hN : N < 2 ^ 40) (hm : w.cell? ⟨g, 3, none⟩ = some (.map none)) : Calls Try.prog 18 #[.pointer (some ⟨g, 0, none⟩), .int .u64 (p : Int), .agg (UARR .u8 32 h)] w fun e w' =>
    (∃ v, e = .returned v) ∧ SPUTM w B g log len alive N p C h w' := by
  obtain ⟨w0, hw0⟩ : ∃ w0, w.alloc (.cells (UARR .u8 32 h) 32) = w0 := ⟨_, rfl⟩
  have hb0 : Below w.heap.size w w0 := by rw [← hw0]; exact (Below.refl _ _).alloc (Nat.le_refl _) _
  have h50 : Has w0 w.heap.size (UARR .u8 32 h) 32 := by rw [← hw0]; exact Has.new w _ _
  have hg := hS.lt
  have hm0 : w0.cell? ⟨g, 3, none⟩ = some (.map none) := (hb0.cell (by exact hg)).trans hm
  have hs0 := hb0.size
  obtain ⟨hC, hSb, hstep⟩ := (hS.below hb0).mapped hm0 (by omega)
  have hba : Below w0.heap.size w0 (w0.alloc (.map #[] 0)) := (Below.refl _ _).alloc (Nat.le_refl _) _
  have hm1 : (w0.alloc (.map #[] 0)).cell? ⟨g, 3, none⟩ = some (.map none) := (hba.cell (by show g < w0.heap.size; omega)).trans hm0
  have hf1 : (w0.alloc (.map #[] 0)).frozen? ⟨g, 3, none⟩ = false := ((hS.below hb0).below hba).live 3 (by decide)
  obtain ⟨b, hbe⟩ : ∃ b, w0.heap.size = b := ⟨_, rfl⟩
  rw [hbe] at hSb hstep
  obtain ⟨wb, hwb⟩ : ∃ wb, (w0.alloc (.map #[] 0)).setCell ⟨g, 3, none⟩ (.map (some b)) = wb := ⟨_, rfl⟩
  have hBb : Below B w wb := by rw [← hwb]; exact ((hb0.mono (by omega)).trans (hba.mono (by omega))).setCell (p := ⟨g, 3, none⟩) hBg _
  have h5b : Has wb w.heap.size (UARR .u8 32 h) 32 := by rw [← hwb]; exact (h50.alloc _).other (by show w.heap.size ≠ g; omega) _
  have hmb : wb.cell? ⟨g, 3, none⟩ = some (.map (some b)) := by rw [← hwb]; exact World.cell?_setCell_same _ _ _ hm1
  rw [hwb] at hSb hstep
  have ck := hSb.key p wb (Below.refl _ _)
  have hz := zeroKey
  have hme := map_eql0
  have hmk : (Instr.makeMap 44 none).run Try.prog w0 = .ok (.map (some b)) (w0.alloc (.map #[] 0)) := by rw [← hbe]; rfl
  have H : Aside (STORE wb B g log len alive N C ∧ p < len ∧ True ∧ alive < 2 ^ 40 ∧ C (p / 2 ^ log) = none ∧ len < 2 ^ 40 ∧ g < w.heap.size ∧ (∀ i, h i < 256) ∧ wb.cell? ⟨g, 3, none⟩ = some (.map (some b)) ∧ B ≤ g ∧ N < 2 ^ 40 ∧ Has wb w.heap.size (UARR .u8 32 h) 32 ∧ STEP w wb g C C ∧ Below B w wb) := ⟨hSb, hp, trivial, hal, hC _, hS.short, hg, h8, hmb, hBg, hN, h5b, (STEP.below hS hb0).trans hstep, hBb⟩
  clear hS hp hal hm h8 hBg h5b hN hb0 hSb hstep hC h50 hBb hba hs0
  obtain ⟨K, hKe⟩ : ∃ K, p / 2 ^ log = K := ⟨_, rfl⟩
  rw [hKe] at ck H
  have HK : Aside (p / 2 ^ log = K) := hKe
  clear hKe
  go_enter Try.func18, Try.ntmps18
  go_wp2_with fail
  refine ck.mono ?_
  rintro e w1 ⟨rfl, hb1⟩
  clear ck
  obtain ⟨a1, a2, a3, a4, a5, a6, a7, a8, a9, a10, a11, a12, a13, a14⟩ := H.out
  have hb2 : Below wb.heap.size wb (w1.alloc (.cells #[.int .u64 (K : Int)] 53)) := hb1.alloc hb1.size _
  have h3w : w1.cell? ⟨g, 3, none⟩ = some (.map (some b)) := (hb1.cell (by exact a1.lt)).trans a9
  have hK64 : K < 2 ^ 64 := by have := HK.out; have := Nat.div_le_self p (2 ^ log); omega
  obtain ⟨mv, v, l1, l2, -⟩ := a1.looked K hK64
  have hmv : mv = .map (some b) := by have := l1 wb (Below.refl _ _); rw [a9] at this; exact (Option.some.inj this).symm
  subst hmv
  have l2' := l2 _ hb2.drew
  rw [a5] at l2'
  have h3 := l1 _ hb2
  have h52 : Has (w1.alloc (.cells #[.int .u64 (K : Int)] 53)).drew w.heap.size (UARR .u8 32 h) 32 := (a12.keep hb1).alloc _
  have h62 : Has (w1.alloc (.cells #[.int .u64 (K : Int)] 53)).drew w1.heap.size #[.int .u64 (K : Int)] 53 := Has.new w1 _ _
  have hS2 := a1.below hb2.drew
  have hT2 := STEP.below a1 hb2.drew
  have hB2 : Below B wb (w1.alloc (.cells #[.int .u64 (K : Int)] 53)).drew := hb2.drew.mono (by have := a1.lt; omega)
  have h3d : (w1.alloc (.cells #[.int .u64 (K : Int)] 53)).drew.cell? ⟨g, 3, none⟩ = some (.map (some b)) := h3
  clear l1 l2
  go_upto_region 4 with fail
  refine sput4 _ _ _ _ _ _ _ _ _ _ _ _ _ _ _ _ _ _ _ _ _ _ _ _ _ _ _ _ _ _ _ _ _ _ _ _ _ _ _ _ _ _ _ _ _ _ _ _ _ _ g w1.heap.size K (.map (some b)) v false h3 (Has.new w1 _ _) l2' (fun _ _ _ _ _ h => h) ?_
  dsimp only
  obtain ⟨W2, hW2⟩ : ∃ W2, (w1.alloc (.cells #[.int .u64 (K : Int)] 53)).drew = W2 := ⟨_, rfl⟩
  rw [hW2] at h52 h62 hS2 hT2 hB2 h3d ⊢
  clear hW2 l2' h3 hb2 h3w
  obtain ⟨mv', m1, m2, m3⟩ := hS2.map
  rw [h3d] at m1
  have hmv : mv' = some b := by cases Option.some.inj m1; rfl
  subst hmv
  obtain ⟨hBb, n0, hn0, hcm⟩ := m3 b rfl
  have hbl := hcm.lt
  have hb3 : Below W2.heap.size W2 (W2.alloc (.cells #[.slice none 0 0] 59)).drew := ((Below.refl _ _).alloc (Nat.le_refl _) _).drew
  have hcm3 := hcm.below hb3
  obtain ⟨w5, u1, u2, u3⟩ := hcm3.store (k := K) (g := W2.heap.size) (by omega) hK64
  have hbc : ∀ {b' c t' fr'}, W2.heap[b']? = some (.cells c t' fr') → b' ≠ b := fun h2 e => by
    obtain ⟨D, ⟨es, clock, hbm, _⟩, _⟩ := hcm
    rw [e, hbm] at h2; cases h2
  have hblk : ∀ x, x < W2.heap.size → x ≠ b → w5.heap[x]? = W2.heap[x]? := fun x hx hxb => (u3.block x (by have := hb3.size; omega) (fun e => hxb (by cases e; rfl))).trans (hb3.block x hx)
  have hbox : Has w5 W2.heap.size #[.slice none 0 0] 59 := (u3.block W2.heap.size (by simp) (fun e => by cases e; omega)).trans (Has.new W2 _ _)
  have hsz : W2.heap.size ≤ w5.heap.size := Nat.le_trans hb3.size u3.size
  obtain ⟨t1, t2, t3, t4⟩ := hS2.turn h3d hblk hsz (Nat.le_refl _) hbox ⟨n0 + 1, by omega, u2⟩ a5 hK64
  have h55 : Has w5 w.heap.size (UARR .u8 32 h) 32 := (hblk _ h52.lt (hbc h52)).trans h52
  have hB5 : Below B W2 w5 := (hb3.mono (by omega)).grown u3 (by have := hb3.size; omega) (fun x e => by cases e; exact hBb)
  have hC5 := (t1.chunk K W2.heap.size [] WITH_at).2.1
  have cP := chunkput_ok B W2.heap.size p [] h (by omega) (by decide) (fun r hr => by cases hr) a8 _ hC5
  have h33 : (W2.alloc (.cells #[.slice none 0 0] 59)).cell? ⟨g, 3, none⟩ = some (.map (some b)) := (hb3.cell (by exact hS2.lt)).trans h3d
  have h63 : Has (W2.alloc (.cells #[.slice none 0 0] 59)) w1.heap.size #[.int .u64 (K : Int)] 53 := h62.alloc _
  have hbch := buildChunk
  have G : Aside (STORE w5 B g log len alive (N + 1) (WITH C K W2.heap.size []) ∧ (∀ p', AT (WITH C K W2.heap.size []) log p' = AT C log p') ∧ (∀ p, TOP C p → TOP (WITH C K W2.heap.size []) p) ∧ STEP0 wb w5 g C (WITH C K W2.heap.size []) ∧ Below B wb w5) := ⟨t1, t2, t3, hT2.toSTEP0.trans t4, hB2.trans hB5⟩
  obtain ⟨gc, hgce⟩ : ∃ gc, W2.heap.size = gc := ⟨_, rfl⟩
  rw [hgce] at cP G u1
  clear t1 t2 t3 t4 hT2 hB2 hB5 hbox hsz hblk hbc u2 u3 hcm hcm3 hbl m1 m2 m3 hS2 hb3 hC5
  go_upto_region 7 with fail
  refine sput7 _ _ _ _ _ _ _ _ _ _ _ _ _ _ _ _ _ _ _ _ _ _ _ _ _ _ _ _ _ _ _ _ _ _ _ _ _ _ _ _ _ _ _ _ _ _ _ _ _ g w1.heap.size K (.map (some b)) _ w5 h33 h63 u1 (fun _ _ _ _ _ h => h) ?_
  dsimp only
  clear u1 h33 h63 hbch h62 h52
  clear hgce
  go_wp2_with (refine wpList_load_row rfl 32 (.tmp 5) rfl w.heap.size rfl 32 (UARR .u8 32 h) (0, 0) (.array 32 5) h55 Try.underlying32 rfl (info_HASH _) ?_)
  refine cP.mono ?_
  rintro e w6 ⟨⟨v6, rfl⟩, hP⟩
  clear cP
  have hself := G.out.1.put_self WITH_at hP
  have z2 : w6.cell? ⟨g, 2, none⟩ = some (.int .u64 (alive : Int)) := (World.cell?_of_block (w := w5) (by exact hself)).trans G.out.1.c2
  have zf : w6.frozen? ⟨g, 2, none⟩ = false := by
    have := G.out.1.live 2 (by decide)
    unfold World.frozen? at this ⊢
    rw [show w6.heap[g]? = w5.heap[g]? from hself]
    exact this
  have hwr : IntKind.u64.wrap ((alive : Int) + 1) = ((alive + 1 : Nat) : Int) := wrap_nat (by omega) (by omega)
  have FIN : Aside (PUTS w5 B gc p [] h w6) := hP
  clear hP hself
  go_wp2
  go_end0
  obtain ⟨f1, f2, f3, f4, f5⟩ := G.out
  obtain ⟨_, _, _, _, _, _, _, q7, _⟩ := id FIN.out
  obtain ⟨C', c1, c2, c3, c4, c5⟩ := f1.put_step WITH_at HK.out a2 FIN.out
  exact ⟨⟨_, rfl⟩, C', c1, fun p' => by rw [c2, f2], STEP.of_with (a13.toSTEP0.trans f4) c4 c5, ((a14.trans f5).trans q7).setCell (p := ⟨g, 2, none⟩) a10 _⟩
end Go.Proofs.Ytkhpaldbdpfpiaa

/- Store.put at any place without a node; Store.Back. -/
namespace Go.Proofs.Ytkhpaldbdpfpiaa
open Go.RowKit Go.Maps
set_option maxRecDepth 100000

theorem storeput_mid {w : World} {B g log len alive N : Nat} {C : CHUNKS} (hS : STORE w B g log len alive N C) (p : Nat) (h : Nat → Nat) (h8 : ∀ i, h i < 256) (hp : p < len) (hA : AT C log p = none) (hal : alive < 2 ^ 40) (hBg : B ≤ g) (hN : N < 2 ^ 40) : Calls Try.prog 18 #[.pointer (some ⟨g, 0, none⟩), .int .u64 (p : Int), .agg (UARR .u8 32 h)] w fun e w' =>
    (∃ v, e = .returned v) ∧ SPUTM w B g log len alive N p C h w' := by
  obtain ⟨mv, m1, _⟩ := hS.map
  cases mv with
  | none => exact sputm_first hS p h h8 hp hal hBg hN m1
  | some b =>
    cases hK : C (p / 2 ^ log) with
    | none => exact sputm_new hS p h h8 hp hal hBg hN m1 hK
    | some c => exact sputm_there (gc := c.1) (rs := c.2) hS p h h8 hp hA hal hBg m1 hK
theorem back_far {w : World} {B g log len alive N : Nat} {C : CHUNKS} (hS : STORE w B g log len alive N C) (p : Nat) (h : Nat → Nat) (hp : len ≤ p) : Calls Try.prog 6 #[.pointer (some ⟨g, 0, none⟩), .int .u64 (p : Int), .agg (UARR .u8 32 h)] w fun e w' => e = .returned (.int .i64 31) ∧ Below w.heap.size w w' := by
  obtain ⟨w0, hw0⟩ : ∃ w0, w.alloc (.cells (UARR .u8 32 h) 32) = w0 := ⟨_, rfl⟩
  have hb0 : Below w.heap.size w w0 := by rw [← hw0]; exact (Below.refl _ _).alloc (Nat.le_refl _) _
  have hc1 := (hS.below hb0).c1
  have hge : (len : Int) ≤ (p : Int) := by omega
  have HB : Aside (Below w.heap.size w w0) := hb0
  clear hS hb0
  go_enter Try.func6, Try.ntmps6
  go_wp2
  go_ret
  exact ⟨rfl, HB.out⟩
theorem back_live {w : World} {B g log len alive N : Nat} {C : CHUNKS} (hS : STORE w B g log len alive N C) (p : Nat) (h h' : Nat → Nat) (hp : p < 2 ^ 64) (hl : p < len) (hA : AT C log p = some h') : Calls Try.prog 6 #[.pointer (some ⟨g, 0, none⟩), .int .u64 (p : Int), .agg (UARR .u8 32 h)] w fun e w' => e = .returned (.int .i64 53) ∧ Below w.heap.size w w' := by
  obtain ⟨w0, hw0⟩ : ∃ w0, w.alloc (.cells (UARR .u8 32 h) 32) = w0 := ⟨_, rfl⟩
  have hb0 : Below w.heap.size w w0 := by rw [← hw0]; exact (Below.refl _ _).alloc (Nat.le_refl _) _
  have hS0 := hS.below hb0
  have hc1 := hS0.c1
  have hge : ¬ (len : Int) ≤ (p : Int) := by omega
  have cL := live_ok hS0 p hp
  rw [hA] at cL
  have HB : Aside (Below w.heap.size w w0) := hb0
  clear hS hS0 hb0
  go_enter Try.func6, Try.ntmps6
  go_wp2_with (refine cL.mono ?_; rintro e w1 ⟨rfl, hb⟩; clear cL)
  go_ret
  exact ⟨rfl, HB.out.trans (hb.mono HB.out.size)⟩
set_option maxHeartbeats 1000000 in
theorem back_ok {w : World} {B g log len alive N : Nat} {C : CHUNKS} (hS : STORE w B g log len alive N C) (p : Nat) (h : Nat → Nat) (h8 : ∀ i, h i < 256) (hp : p < 2 ^ 64) (hl : p < len) (hA : AT C log p = none) (hal : alive < 2 ^ 40) (hBg : B ≤ g) (hN : N < 2 ^ 40) : Calls Try.prog 6 #[.pointer (some ⟨g, 0, none⟩), .int .u64 (p : Int), .agg (UARR .u8 32 h)] w fun e w' => e = .returned (.int .i64 0) ∧ SPUTM w B g log len alive N p C h w' := by
  obtain ⟨w0, hw0⟩ : ∃ w0, w.alloc (.cells (UARR .u8 32 h) 32) = w0 := ⟨_, rfl⟩
  have hb0 : Below w.heap.size w w0 := by rw [← hw0]; exact (Below.refl _ _).alloc (Nat.le_refl _) _
  have h50 : Has w0 w.heap.size (UARR .u8 32 h) 32 := by rw [← hw0]; exact Has.new w _ _
  have hS0 := hS.below hb0
  have hc1 := hS0.c1
  have hge : ¬ (len : Int) ≤ (p : Int) := by omega
  have cL := live_ok hS0 p hp
  rw [hA] at cL
  have H : Aside (STORE w0 B g log len alive N C ∧ p < len ∧ AT C log p = none ∧ alive < 2 ^ 40 ∧ B ≤ g ∧ N < 2 ^ 40 ∧ (∀ i, h i < 256) ∧ Below w.heap.size w w0 ∧ g < w.heap.size ∧ STEP w w0 g C C ∧ Has w0 w.heap.size (UARR .u8 32 h) 32) := ⟨hS0, hl, hA, hal, hBg, hN, h8, hb0, hS.lt, STEP.below hS hb0, h50⟩
  clear hS hS0 hb0 hl hA hal hBg hN h8 h50
  go_enter Try.func6, Try.ntmps6
  go_wp2_with (first
    | (refine cL.mono ?_; rintro e w1 ⟨rfl, hb⟩; clear cL; have h51 := H.out.2.2.2.2.2.2.2.2.2.2.keep hb; have HB : Aside (Below w0.heap.size w0 w1) := hb; clear hb)
    | (refine wpList_load_row rfl 32 (.tmp 5) rfl w.heap.size rfl 32 (UARR .u8 32 h) (0, 0) (.array 32 5) h51 Try.underlying32 rfl (info_HASH _) ?_))
  obtain ⟨a1, a2, a3, a4, a5, a6, a7, a8, a9, a10, a11⟩ := H.out
  have cP := storeput_mid (a1.below HB.out) p h a7 a2 a3 a4 a5 a6
  clear a1 a2 a3 a4 a5 a6 a7 a8 a9 a10 a11 h51
  refine cP.mono ?_
  rintro e w2 ⟨⟨v, rfl⟩, hP⟩
  have HP : Aside (SPUTM w1 B g log len alive N p C h w2) := hP
  clear hP cP
  go_wp2
  go_ret
  obtain ⟨a1, a2, a3, a4, a5, a6, a7, a8, a9, a10, a11⟩ := H.out
  obtain ⟨C', c1, c2, c3, c4⟩ := HP.out
  exact ⟨rfl, C', c1, c2, (a10.trans (STEP.below a1 HB.out)).trans c3, ((a8.mono (by omega)).trans (HB.out.mono (by have := a8.size; omega))).trans c4⟩
end Go.Proofs.Ytkhpaldbdpfpiaa

/- A store of a list of hashes: massiflaw5.fill. -/
namespace Go.Proofs.Ytkhpaldbdpfpiaa
open Go.RowKit Go.Maps
set_option maxRecDepth 100000

/-- a slice of hashes lies there. -/
def HLIE (w : World) (a : Option Addr) (n : Nat) (hs : Nat → Nat → Nat) : Prop := 0 < n → ∃ b o, a = some ⟨b, o, none⟩ ∧ b < w.heap.size ∧ ∀ i, i < n → w.rangeAt b (o + i * 32) (ULIST .u8 32 (hs i))
theorem STORE.fresh (w : World) (log : Nat) (h : log ≤ 16) : STORE (w.alloc (.cells (FRESH log) 47)) w.heap.size w.heap.size log 0 0 0 (fun _ => none) ∧ PINS (w.alloc (.cells (FRESH log) 47)) w.heap.size w.heap.size 0 (fun _ => none) (fun _ => 0) := by
  have hh : Has (w.alloc (.cells (FRESH log) 47)) w.heap.size (FRESH log) 47 := Has.new w _ _
  refine ⟨⟨h, by decide, hh.cell 0, hh.cell 1, hh.cell 2, fun i _ => hh.frozen i, ⟨_, _, _, hh, by decide, by decide, by decide⟩, ⟨none, hh.cell 3, fun _ _ => rfl, fun b e => by cases e⟩, fun k gc rs e => (by cases e), fun k k' gc gc' rs rs' _ e => by cases e⟩, ⟨⟨none, hh.cell 4, fun _ _ => rfl, fun b e => by cases e⟩⟩⟩
/-- a store that has just these hashes, all living, none with a pin. -/
def FILLED (w : World) (B g log n : Nat) (hs : Nat → Nat → Nat) : Prop := ∃ C, STORE w B g log n n n C ∧ PINS w B g 0 C (fun _ => 0) ∧ (∀ p, AT C log p = if p < n then some (hs p) else none) ∧ FULL C
theorem FILLED.fresh (w : World) (log : Nat) (h : log ≤ 16) (hs : Nat → Nat → Nat) : FILLED (w.alloc (.cells (FRESH log) 47)) w.heap.size w.heap.size log 0 hs := by
  obtain ⟨h1, h2⟩ := STORE.fresh w log h
  exact ⟨_, h1, h2, fun p => rfl, fun k gc rs e => by cases e⟩
theorem FILLED.push {w w' : World} {B g log n : Nat} {hs : Nat → Nat → Nat} {C : CHUNKS} (hS : STORE w B g log n n n C) (hP : PINS w B g 0 C (fun _ => 0)) (hA : ∀ p, AT C log p = if p < n then some (hs p) else none) (hF : FULL C) (h : PUSHED w B g log n n n C (hs n) w') : FILLED w' B g log (n + 1) hs := by
  obtain ⟨C', c1, c2, c3, c4⟩ := h
  obtain ⟨cs, t, fr, k1, _⟩ := hS.kind
  refine ⟨C', c1, hP.step c3 ⟨cs, t, fr, k1⟩, fun p => ?_, c3.full hF⟩
  rw [c2, hA]
  by_cases e : p = n
  · subst e; rw [if_pos rfl, if_pos (by omega)]
  · rw [if_neg e]
    by_cases e2 : p < n
    · rw [if_pos e2, if_pos (by omega)]
    · rw [if_neg e2, if_neg (by omega)]
set_option maxHeartbeats 2000000 in
theorem fill_ok (log : Nat) (hlog : log ≤ 16) (a : Option Addr) (n c : Nat) (hn : n ≤ 200) (hs : Nat → Nat → Nat) (h8 : ∀ i, i < n → ∀ j, hs i j < 256) (w : World) (hL : HLIE w a n hs) : Calls Try.prog 4 #[.int .i64 (log : Int), .slice a n c] w fun e w' =>
    e = .returned (.tuple #[.pointer (some ⟨w.heap.size, 0, none⟩), .bool true]) ∧ FILLED w' w.heap.size w.heap.size log n hs ∧ Below w.heap.size w w' := by
  have cN := storenew_ok log hlog w
  have HF : Aside (FILLED (w.alloc (.cells (FRESH log) 47)) w.heap.size w.heap.size log 0 hs ∧ Below w.heap.size w (w.alloc (.cells (FRESH log) 47))) := ⟨FILLED.fresh w log hlog hs, (Below.refl _ _).alloc (Nat.le_refl _) _⟩
  have HL : Aside (HLIE w a n hs ∧ n ≤ 200 ∧ ∀ i, i < n → ∀ j, hs i j < 256) := ⟨hL, hn, h8⟩
  clear hL hn h8 hlog
  go_enter Try.func4, Try.ntmps4
  go_wp2_with fail
  refine cN.mono ?_
  rintro e w1 ⟨rfl, rfl⟩
  clear cN
  obtain ⟨w1, hw1⟩ : ∃ w1, w.alloc (.cells (FRESH log) 47) = w1 := ⟨_, rfl⟩
  rw [hw1] at HF ⊢
  clear hw1
  go_wp2
  go_loopg [8] n (fun g s8 wx => ∃ k : Nat, k + g = n ∧ s8 = .int .i64 k ∧ Aside (FILLED wx w.heap.size w.heap.size log k hs ∧ Below w.heap.size w wx))
  case atStart => exact ⟨0, by omega, rfl, HF.out⟩
  case round =>
    obtain ⟨i, hkg, rfl, A⟩ := hrel
    cases gk with
    | zero =>
      obtain rfl : i = n := by omega
      go_wp2
      go_ret2
      exact ⟨rfl, A.out⟩
    | succ g =>
      have hlt : (i : Int) < (n : Int) := by omega
      obtain ⟨l1, l2, l3⟩ := HL.out
      obtain ⟨b, o, rfl, hb, hr⟩ := l1 (by omega)
      obtain ⟨⟨C, f1, f2, f3, f5⟩, f4⟩ := A.out
      have hr2 : wr.rangeAt b (o + i * 32) (ULIST .u8 32 (hs i)) := fun j v hv => (f4.cell (by exact hb)).trans (hr i (by omega) j v hv)
      have cP := push_ok f1 (hs i) (l3 i (by omega)) (by omega) (by omega) (Nat.le_refl _) (by omega)
      have HB : Aside (STORE wr w.heap.size w.heap.size log i i i C ∧ PINS wr w.heap.size w.heap.size 0 C (fun _ => 0) ∧ (∀ p, AT C log p = if p < i then some (hs p) else none) ∧ Below w.heap.size w wr ∧ FULL C) := ⟨f1, f2, f3, f4, f5⟩
      have hi1 : wrap64 ((i : Int) + 1) = ((i + 1 : Nat) : Int) := by unfold wrap64; omega
      have hwu : IntKind.u64.wrap (i : Int) = (i : Int) := wrap_nat rfl (by omega)
      clear l1 l2 l3 hr f1 f2 f3 f4 f5
      go_wp2_with (first
        | (refine wpList_load_mid rfl 32 (.tmp 29) rfl b (o + i * 32) rfl (ULIST .u8 32 (hs i)) _ hr2 Try.underlying32 rfl (by rw [ULIST_length]; exact info_hash) ?_)
        | fail)
      rw [← UARR_list]
      refine cP.mono ?_
      rintro e w2 ⟨rfl, hP⟩
      have HP : Aside (FILLED w2 w.heap.size w.heap.size log (i + 1) hs ∧ Below w.heap.size w w2) := by
        obtain ⟨f1, f2, f3, f4, f5⟩ := HB.out
        obtain ⟨_, _, _, _, hb2⟩ := id hP
        exact ⟨FILLED.push f1 f2 f3 f5 hP, f4.trans hb2⟩
      clear cP hP hr2
      go_wp2
      go_roundg g
      case measure => omega
      case rel => exact ⟨i + 1, by omega, by first | rfl | (rw [hi1]), HP⟩
end Go.Proofs.Ytkhpaldbdpfpiaa
