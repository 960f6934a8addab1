/- Store.put into a store without a map; Store.put of the next place. -/
import Derived.Test.YtkmcmngdainofaaStoreSput
namespace Go.Proofs.Ytkmcmngdainofaa
open Go.RowKit Go.Maps
set_option maxRecDepth 100000

set_option maxHeartbeats 2000000 in
theorem sput_first {w : World} {B g log len alive N : Nat} {C : CHUNKS} (hS : STORE w B g log len alive N C) (p : Nat) (h : Nat → Nat) (h8 : ∀ i, h i < 256) (hp : p < len) (hT : TOP C p) (hal : alive < 2 ^ 40) (hBg : B ≤ g) (hN : N < 2 ^ 40) (hm : w.cell? ⟨g, 3, none⟩ = some (.map none)) : Calls Try.prog 26 #[.pointer (some ⟨g, 0, none⟩), .int .u64 (p : Int), .agg (UARR .u8 32 h)] w fun e w' =>
    (∃ v, e = .returned v) ∧ SPUTS w B g log len alive N p C h w' := by
  obtain ⟨w0, hw0⟩ : ∃ w0, w.alloc (.cells (UARR .u8 32 h) 33) = w0 := ⟨_, rfl⟩
  have hb0 : Below w.heap.size w w0 := by rw [← hw0]; exact (Below.refl _ _).alloc (Nat.le_refl _) _
  have h50 : Has w0 w.heap.size (UARR .u8 32 h) 33 := by rw [← hw0]; exact Has.new w _ _
  have hg := hS.lt
  have hm0 : w0.cell? ⟨g, 3, none⟩ = some (.map none) := (hb0.cell (by exact hg)).trans hm
  have hs0 := hb0.size
  obtain ⟨hC, hSb, hstep⟩ := (hS.below hb0).mapped hm0 (by omega)
  have hba : Below w0.heap.size w0 (w0.alloc (.map #[] 0)) := (Below.refl _ _).alloc (Nat.le_refl _) _
  have hm1 : (w0.alloc (.map #[] 0)).cell? ⟨g, 3, none⟩ = some (.map none) := (hba.cell (by show g < w0.heap.size; omega)).trans hm0
  have hf1 : (w0.alloc (.map #[] 0)).frozen? ⟨g, 3, none⟩ = false := ((hS.below hb0).below hba).live 3 (by decide)
  obtain ⟨b, hbe⟩ : ∃ b, w0.heap.size = b := ⟨_, rfl⟩
  rw [hbe] at hSb hstep
  obtain ⟨wb, hwb⟩ : ∃ wb, (w0.alloc (.map #[] 0)).setCell ⟨g, 3, none⟩ (.map (some b)) = wb := ⟨_, rfl⟩
  have hBb : Below B w wb := by rw [← hwb]; exact ((hb0.mono (by omega)).trans (hba.mono (by omega))).setCell (p := ⟨g, 3, none⟩) hBg _
  have h5b : Has wb w.heap.size (UARR .u8 32 h) 33 := by rw [← hwb]; exact (h50.alloc _).other (by show w.heap.size ≠ g; omega) _
  have hmb : wb.cell? ⟨g, 3, none⟩ = some (.map (some b)) := by rw [← hwb]; exact World.cell?_setCell_same _ _ _ hm1
  rw [hwb] at hSb hstep
  have ck := hSb.key p wb (Below.refl _ _)
  have hz := zeroKey
  have hme := map_eql0
  have hmk : (Instr.makeMap 44 none).run Try.prog w0 = .ok (.map (some b)) (w0.alloc (.map #[] 0)) := by rw [← hbe]; rfl
  have H : Aside (STORE wb B g log len alive N C ∧ p < len ∧ TOP C p ∧ alive < 2 ^ 40 ∧ C (p / 2 ^ log) = none ∧ len < 2 ^ 40 ∧ g < w.heap.size ∧ (∀ i, h i < 256) ∧ wb.cell? ⟨g, 3, none⟩ = some (.map (some b)) ∧ B ≤ g ∧ N < 2 ^ 40 ∧ Has wb w.heap.size (UARR .u8 32 h) 33 ∧ STEP w wb g C C ∧ Below B w wb) := ⟨hSb, hp, hT, hal, hC _, hS.short, hg, h8, hmb, hBg, hN, h5b, (STEP.below hS hb0).trans hstep, hBb⟩
  clear hS hp hT hal hm h8 hBg h5b hN hb0 hSb hstep hC h50 hBb hba hs0
  obtain ⟨K, hKe⟩ : ∃ K, p / 2 ^ log = K := ⟨_, rfl⟩
  rw [hKe] at ck H
  have HK : Aside (p / 2 ^ log = K) := hKe
  clear hKe
  go_enter Try.func26, Try.ntmps26
  go_wp2_with fail
  refine ck.mono ?_
  rintro e w1 ⟨rfl, hb1⟩
  clear ck
  obtain ⟨a1, a2, a3, a4, a5, a6, a7, a8, a9, a10, a11, a12, a13, a14⟩ := H.out
  have hb2 : Below wb.heap.size wb (w1.alloc (.cells #[.int .u64 (K : Int)] 51)) := hb1.alloc hb1.size _
  have h3w : w1.cell? ⟨g, 3, none⟩ = some (.map (some b)) := (hb1.cell (by exact a1.lt)).trans a9
  have hK64 : K < 2 ^ 64 := by have := HK.out; have := Nat.div_le_self p (2 ^ log); omega
  obtain ⟨mv, v, l1, l2, -⟩ := a1.looked K hK64
  have hmv : mv = .map (some b) := by have := l1 wb (Below.refl _ _); rw [a9] at this; exact (Option.some.inj this).symm
  subst hmv
  have l2' := l2 _ hb2.drew
  rw [a5] at l2'
  have h3 := l1 _ hb2
  have h52 : Has (w1.alloc (.cells #[.int .u64 (K : Int)] 51)).drew w.heap.size (UARR .u8 32 h) 33 := (a12.keep hb1).alloc _
  have h62 : Has (w1.alloc (.cells #[.int .u64 (K : Int)] 51)).drew w1.heap.size #[.int .u64 (K : Int)] 51 := Has.new w1 _ _
  have hS2 := a1.below hb2.drew
  have hT2 := STEP.below a1 hb2.drew
  have hB2 : Below B wb (w1.alloc (.cells #[.int .u64 (K : Int)] 51)).drew := hb2.drew.mono (by have := a1.lt; omega)
  have h3d : (w1.alloc (.cells #[.int .u64 (K : Int)] 51)).drew.cell? ⟨g, 3, none⟩ = some (.map (some b)) := h3
  clear l1 l2
  go_upto_region 4 with fail
  refine sput4 _ _ _ _ _ _ _ _ _ _ _ _ _ _ _ _ _ _ _ _ _ _ _ _ _ _ _ _ _ _ _ _ _ _ _ _ _ _ _ _ _ _ _ _ _ _ _ _ _ _ g w1.heap.size K (.map (some b)) v false h3 (Has.new w1 _ _) l2' (fun _ _ _ _ _ h => h) ?_
  dsimp only
  obtain ⟨W2, hW2⟩ : ∃ W2, (w1.alloc (.cells #[.int .u64 (K : Int)] 51)).drew = W2 := ⟨_, rfl⟩
  rw [hW2] at h52 h62 hS2 hT2 hB2 h3d ⊢
  clear hW2 l2' h3 hb2 h3w
  obtain ⟨mv', m1, m2, m3⟩ := hS2.map
  rw [h3d] at m1
  have hmv : mv' = some b := by cases Option.some.inj m1; rfl
  subst hmv
  obtain ⟨hBb, n0, hn0, hcm⟩ := m3 b rfl
  have hbl := hcm.lt
  have hb3 : Below W2.heap.size W2 (W2.alloc (.cells #[.slice none 0 0] 70)).drew := ((Below.refl _ _).alloc (Nat.le_refl _) _).drew
  have hcm3 := hcm.below hb3
  obtain ⟨w5, u1, u2, u3⟩ := hcm3.store (k := K) (g := W2.heap.size) (by omega) hK64
  have hbc : ∀ {b' c t' fr'}, W2.heap[b']? = some (.cells c t' fr') → b' ≠ b := fun h2 e => by
    obtain ⟨D, ⟨es, clock, hbm, _⟩, _⟩ := hcm
    rw [e, hbm] at h2; cases h2
  have hblk : ∀ x, x < W2.heap.size → x ≠ b → w5.heap[x]? = W2.heap[x]? := fun x hx hxb => (u3.block x (by have := hb3.size; omega) (fun e => hxb (by cases e; rfl))).trans (hb3.block x hx)
  have hbox : Has w5 W2.heap.size #[.slice none 0 0] 70 := (u3.block W2.heap.size (by simp) (fun e => by cases e; omega)).trans (Has.new W2 _ _)
  have hsz : W2.heap.size ≤ w5.heap.size := Nat.le_trans hb3.size u3.size
  obtain ⟨t1, t2, t3, t4⟩ := hS2.turn h3d hblk hsz (Nat.le_refl _) hbox ⟨n0 + 1, by omega, u2⟩ a5 hK64
  have h55 : Has w5 w.heap.size (UARR .u8 32 h) 33 := (hblk _ h52.lt (hbc h52)).trans h52
  have hB5 : Below B W2 w5 := (hb3.mono (by omega)).grown u3 (by have := hb3.size; omega) (fun x e => by cases e; exact hBb)
  have hC5 := (t1.chunk K W2.heap.size [] WITH_at).2.1
  have cP := chunkput_ok B W2.heap.size p [] h (by omega) (by decide) (fun r hr => by cases hr) a8 _ hC5
  have h33 : (W2.alloc (.cells #[.slice none 0 0] 70)).cell? ⟨g, 3, none⟩ = some (.map (some b)) := (hb3.cell (by exact hS2.lt)).trans h3d
  have h63 : Has (W2.alloc (.cells #[.slice none 0 0] 70)) w1.heap.size #[.int .u64 (K : Int)] 51 := h62.alloc _
  have hbch := buildChunk
  have G : Aside (STORE w5 B g log len alive (N + 1) (WITH C K W2.heap.size []) ∧ (∀ p', AT (WITH C K W2.heap.size []) log p' = AT C log p') ∧ (∀ p, TOP C p → TOP (WITH C K W2.heap.size []) p) ∧ STEP0 wb w5 g C (WITH C K W2.heap.size []) ∧ Below B wb w5) := ⟨t1, t2, t3, hT2.toSTEP0.trans t4, hB2.trans hB5⟩
  obtain ⟨gc, hgce⟩ : ∃ gc, W2.heap.size = gc := ⟨_, rfl⟩
  rw [hgce] at cP G u1
  clear t1 t2 t3 t4 hT2 hB2 hB5 hbox hsz hblk hbc u2 u3 hcm hcm3 hbl m1 m2 m3 hS2 hb3 hC5
  go_upto_region 7 with fail
  refine sput7 _ _ _ _ _ _ _ _ _ _ _ _ _ _ _ _ _ _ _ _ _ _ _ _ _ _ _ _ _ _ _ _ _ _ _ _ _ _ _ _ _ _ _ _ _ _ _ _ _ g w1.heap.size K (.map (some b)) _ w5 h33 h63 u1 (fun _ _ _ _ _ h => h) ?_
  dsimp only
  clear u1 h33 h63 hbch h62 h52
  clear hgce
  go_wp2_with (refine wpList_load_row rfl 33 (.tmp 5) rfl w.heap.size rfl 33 (UARR .u8 32 h) (0, 0) (.array 32 5) h55 Try.underlying33 rfl (info_HASH _) ?_)
  refine cP.mono ?_
  rintro e w6 ⟨⟨v6, rfl⟩, hP⟩
  clear cP
  have hself := G.out.1.put_self WITH_at hP
  have z2 : w6.cell? ⟨g, 2, none⟩ = some (.int .u64 (alive : Int)) := (World.cell?_of_block (w := w5) (by exact hself)).trans G.out.1.c2
  have zf : w6.frozen? ⟨g, 2, none⟩ = false := by
    have := G.out.1.live 2 (by decide)
    unfold World.frozen? at this ⊢
    rw [show w6.heap[g]? = w5.heap[g]? from hself]
    exact this
  have hwr : IntKind.u64.wrap ((alive : Int) + 1) = ((alive + 1 : Nat) : Int) := wrap_nat (by omega) (by omega)
  have FIN : Aside (PUTS w5 B gc p [] h w6) := hP
  clear hP hself
  go_wp2
  go_end0
  obtain ⟨f1, f2, f3, f4, f5⟩ := G.out
  obtain ⟨_, _, _, _, _, _, _, q7, _⟩ := id FIN.out
  obtain ⟨C', c1, c2, c3, c4, c5⟩ := f1.put_step WITH_at HK.out a2 FIN.out
  exact ⟨⟨_, rfl⟩, C', c1, fun p' => by rw [c2, f2], c3 (f3 p a3), STEP.of_with (a13.toSTEP0.trans f4) c4 c5, ((a14.trans f5).trans q7).setCell (p := ⟨g, 2, none⟩) a10 _⟩
/-- Store.put of the next place. -/
theorem storeput_ok {w : World} {B g log len alive N : Nat} {C : CHUNKS} (hS : STORE w B g log len alive N C) (p : Nat) (h : Nat → Nat) (h8 : ∀ i, h i < 256) (hp : p < len) (hT : TOP C p) (hal : alive < 2 ^ 40) (hBg : B ≤ g) (hN : N < 2 ^ 40) : Calls Try.prog 26 #[.pointer (some ⟨g, 0, none⟩), .int .u64 (p : Int), .agg (UARR .u8 32 h)] w fun e w' =>
    (∃ v, e = .returned v) ∧ SPUTS w B g log len alive N p C h w' := by
  obtain ⟨mv, m1, _⟩ := hS.map
  cases mv with
  | none => exact sput_first hS p h h8 hp hT hal hBg hN m1
  | some b =>
    cases hK : C (p / 2 ^ log) with
    | none => exact sput_new hS p h h8 hp hT hal hBg hN m1 hK
    | some c => exact sput_there (gc := c.1) (rs := c.2) hS p h h8 hp hT hal hBg m1 hK
end Go.Proofs.Ytkmcmngdainofaa
