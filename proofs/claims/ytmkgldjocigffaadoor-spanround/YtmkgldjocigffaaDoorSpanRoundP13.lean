/- Texts of SpanRound, one behind the other: SpanRoundPlain, ManyLies, ManyStays2, ManyFace, ManyFaceP, ManyFaceE, ManyEncode, ManyTexts, ManyRefPlain, ManyRefUnder, ManyRefSpots, ManyRefNeedsRegion, ManyRefNeeds, ManyNeedP, ManyPlacesCall, ManyRefPlaces, ManyMix, ManyApartRegions, ManyAwake, ManyNumbers, ManyApart, ManyKept, SpanTexts, SpanAwake. -/
import Derived.Defers
import Derived.Recover
import Derived.Laws.AppendOwnNone
import Derived.Test.YtmkgldjocigffaaDoorSpanRoundP12
/- What is written is read back, and what is read is written the same: plain. -/
namespace Go.Proofs.YtmkgldjocigffaaDoor
set_option maxRecDepth 100000

theorem SNE_SHORT {X : Nat} (hX : X < 2 ^ 64) (u : List Int) {most : Nat} (bey : Int) (h : X ≤ most) : SNE (SHORT X ++ u) most bey = 0 ∧ (LNG (SHORT X ++ u)).1.toNat = X ∧ (SHORT X ++ u).drop (LNG (SHORT X ++ u)).2.1.toNat = u := by
  have hL := LNG_SHORT hX u
  refine ⟨?_, ?_, ?_⟩
  · unfold SNE
    rw [hL, if_pos rfl, if_neg (by show ¬ (most : Int) < (X : Int); omega)]
  · rw [hL]
    exact Int.toNat_natCast X
  · rw [hL]
    show (SHORT X ++ u).drop (((NTOP X + 1 : Nat) : Int)).toNat = u
    rw [Int.toNat_natCast, List.drop_left' (SHORT_length _)]
theorem SDEC_SWRT {S F T K : Nat} {l : List Int} (h : SWA S F T K = 0) (hl : l.length = 32 * K) : SDEC (SWRT S F (T - F) l) = (0, S, F, T, K, l) := by
  obtain ⟨h1, h2, h3, h4⟩ := SWA_ok h
  have hk : K20 (SWRT S F (T - F) l) = (0, SHORT S ++ (SHORT F ++ (SHORT (T - F) ++ l))) := by
    unfold K20 SWRT
    rw [if_neg (by simp), if_neg (by simp)]
    simp
  obtain ⟨a1, a2, a3⟩ := SNE_SHORT (X := S) (by omega) (SHORT F ++ (SHORT (T - F) ++ l)) 30 h1
  obtain ⟨b1, b2, b3⟩ := SNE_SHORT (X := F) (by omega) (SHORT (T - F) ++ l) (most := S) 32 (by omega)
  obtain ⟨c1, c2, c3⟩ := SNE_SHORT (X := T - F) (by omega) l (most := S - F) 32 (by omega)
  unfold SDEC
  rw [hk, if_neg (by simp)]
  unfold SD0
  rw [a1, if_neg (by simp), a2, a3]
  unfold SD1
  rw [b1, if_neg (by simp), b2, b3]
  unfold SD2
  rw [c1, if_neg (by simp), c2, c3, show F + (T - F) = T by omega]
  unfold SD3
  rw [← h4, if_neg (by omega), if_neg (by omega)]
theorem SNE_back {t : List Int} {most : Nat} {bey : Int} (hb : bey ≠ 0) (hr : ∀ x ∈ t, 0 ≤ x ∧ x ≤ 255) (h : SNE t most bey = 0) : ∃ X : Nat, X ≤ most ∧ X < 2 ^ 64 ∧ (LNG t).1.toNat = X ∧ t = SHORT X ++ t.drop (LNG t).2.1.toNat := by
  unfold SNE at h
  by_cases h3 : (LNG t).2.2 = 0
  · rw [if_pos h3] at h
    obtain ⟨Z, m, q1, q2, q3, q4, q5⟩ := LNG_back hr h3
    rw [q4] at h
    by_cases hz : (most : Int) < (Z : Int)
    · rw [if_pos hz] at h
      exact absurd h hb
    · refine ⟨Z, by omega, q1, by rw [q4]; exact Int.toNat_natCast Z, ?_⟩
      rw [q4, q5]
      show t = t.take m ++ t.drop ((m : Int)).toNat
      rw [Int.toNat_natCast, List.take_append_drop]
  · rw [if_neg h3] at h
    exact absurd h h3
/-- an error, or what was written. -/
theorem SDEC_cases {l : List Int} (hr : ∀ x ∈ l, 0 ≤ x ∧ x ≤ 255) : (∃ E, E ≠ 0 ∧ SDEC l = SERR E) ∨ (∃ S F T K t, SDEC l = (0, S, F, T, K, t) ∧ SWA S F T K = 0 ∧ t.length = 32 * K ∧ l = SWRT S F (T - F) t) := by
  by_cases hk : (K20 l).1 = 0
  · have hl : l ≠ [] := fun e => by rw [e] at hk; cases hk
    cases l with
    | nil => exact absurd rfl hl
    | cons x u =>
      have hx : x = 83 := by
        unfold K20 at hk
        rw [if_neg (by simp)] at hk
        by_cases hx : x = 83
        · exact hx
        · rw [if_pos (by simpa using hx)] at hk
          cases hk
      subst hx
      have hK : K20 (83 :: u) = (0, u) := by
        unfold K20
        rw [if_neg (by simp), if_neg (by simp)]
        rfl
      have hru : ∀ y ∈ u, 0 ≤ y ∧ y ≤ 255 := fun y hy => hr y (List.mem_cons_of_mem _ hy)
      have d0 : SDEC (83 :: u) = SD0 u := by
        unfold SDEC
        rw [hK, if_neg (by simp)]
      rw [d0]
      by_cases e1 : SNE u 4611686018427387904 30 = 0
      · obtain ⟨S, p1, p2, p3, p4⟩ := SNE_back (by decide) hru e1
        have d1 : SD0 u = SD1 S (u.drop (LNG u).2.1.toNat) := by
          unfold SD0
          rw [if_neg (by simp [e1]), p3]
        rw [d1]
        have hr1 : ∀ y ∈ u.drop (LNG u).2.1.toNat, 0 ≤ y ∧ y ≤ 255 := fun y hy => hru y (List.mem_of_mem_drop hy)
        generalize u.drop (LNG u).2.1.toNat = u1 at *
        by_cases e2 : SNE u1 S 32 = 0
        · obtain ⟨F, q1, q2, q3, q4⟩ := SNE_back (by decide) hr1 e2
          have d2 : SD1 S u1 = SD2 S F (u1.drop (LNG u1).2.1.toNat) := by
            unfold SD1
            rw [if_neg (by simp [e2]), q3]
          rw [d2]
          have hr2 : ∀ y ∈ u1.drop (LNG u1).2.1.toNat, 0 ≤ y ∧ y ≤ 255 := fun y hy => hr1 y (List.mem_of_mem_drop hy)
          generalize u1.drop (LNG u1).2.1.toNat = u2 at *
          by_cases e3 : SNE u2 (S - F) 32 = 0
          · obtain ⟨X, r1, r2, r3, r4⟩ := SNE_back (by decide) hr2 e3
            have d3 : SD2 S F u2 = SD3 S F (F + X) (u2.drop (LNG u2).2.1.toNat) := by
              unfold SD2
              rw [if_neg (by simp [e3]), r3]
            rw [d3]
            generalize u2.drop (LNG u2).2.1.toNat = u3 at *
            unfold SD3
            by_cases c1 : u3.length < 32 * (SPP F (F + X) S).length
            · rw [if_pos c1]
              exact .inl ⟨11, by decide, rfl⟩
            · by_cases c2 : 32 * (SPP F (F + X) S).length < u3.length
              · rw [if_neg c1, if_pos c2]
                exact .inl ⟨13, by decide, rfl⟩
              · rw [if_neg c1, if_neg c2]
                refine .inr ⟨S, F, F + X, _, u3, rfl, ?_, by omega, ?_⟩
                · unfold SWA
                  have : SPE F (F + X) S = 0 := by unfold SPE; rw [if_neg (by omega), if_neg (by omega)]
                  rw [this, if_pos rfl, if_pos rfl]
                · unfold SWRT
                  rw [show F + X - F = X by omega, List.append_assoc, List.append_assoc, ← r4, ← q4, ← p4]
          · exact .inl ⟨_, e3, by unfold SD2; rw [if_pos e3]⟩
        · exact .inl ⟨_, e2, by unfold SD1; rw [if_pos e2]⟩
      · exact .inl ⟨_, e1, by unfold SD0; rw [if_pos e1]⟩
  · exact .inl ⟨_, hk, by unfold SDEC; rw [if_pos hk]⟩
theorem SWRT_range {S F T : Nat} {l : List Int} (hS : S < 2 ^ 64) (hF : F < 2 ^ 64) (hT : T < 2 ^ 64) (hl : ∀ x ∈ l, 0 ≤ x ∧ x ≤ 255) : ∀ x ∈ SWRT S F (T - F) l, 0 ≤ x ∧ x ≤ 255 := fun x h => by
  unfold SWRT at h
  rcases List.mem_cons.1 h with h | h
  · subst h; decide
  · rcases List.mem_append.1 h with h | h
    · rcases List.mem_append.1 h with h | h
      · rcases List.mem_append.1 h with h | h
        · exact SHORT_range hS x h
        · exact SHORT_range hF x h
      · exact SHORT_range (X := T - F) (by omega) x h
    · exact hl x h
theorem SWRT_length (S F D : Nat) (l : List Int) : (SWRT S F D l).length ≤ 31 + l.length := by
  unfold SWRT
  have h1 := SHORT_length S
  have h2 := SHORT_length F
  have h3 := SHORT_length D
  have g1 := NTOP_le S
  have g2 := NTOP_le F
  have g3 := NTOP_le D
  simp only [List.length_cons, List.length_append]
  omega
end Go.Proofs.YtmkgldjocigffaaDoor

/- A list of numbers of one's own lies there; what lies there stays. -/
namespace Go.Proofs.YtmkgldjocigffaaDoor
open Go.RowKit
set_option maxRecDepth 100000

theorem NUML.keep {w w' : World} {a : Option Addr} {L : List Nat} (h : NUML w a L) (hb : Below w.heap.size w w') : NUML w' a L := fun h0 => by
  obtain ⟨b, o, e, hl, hc⟩ := h h0
  exact ⟨b, o, e, Nat.lt_of_lt_of_le hl hb.size, fun i x hx => (hb.cell (p := ⟨b, o + i, none⟩) hl).trans (hc i x hx)⟩
end Go.Proofs.YtmkgldjocigffaaDoor

/- Two lists of numbers that are alike, wherever they lie. -/
namespace Go.Proofs.YtmkgldjocigffaaDoor
open Go.RowKit
set_option maxRecDepth 100000

end Go.Proofs.YtmkgldjocigffaaDoor

/- face of package many: what it answers where the doing returns, where it panics. -/
namespace Go.Proofs.YtmkgldjocigffaaDoor
open Go.RowKit
set_option maxRecDepth 100000

end Go.Proofs.YtmkgldjocigffaaDoor

/- face of package many, with the doing of Places. -/
namespace Go.Proofs.YtmkgldjocigffaaDoor
open Go.RowKit
set_option maxRecDepth 100000

end Go.Proofs.YtmkgldjocigffaaDoor

/- face of package many, with the doing of Encode. -/
namespace Go.Proofs.YtmkgldjocigffaaDoor
open Go.RowKit
set_option maxRecDepth 100000

end Go.Proofs.YtmkgldjocigffaaDoor

/- Encode of package many. -/
namespace Go.Proofs.YtmkgldjocigffaaDoor
open Go.RowKit
set_option maxRecDepth 100000

/-- what the doing of Encode leaves. -/
structure ENCD (w w' : World) (b1 : Nat) (Z : List Int) : Prop where
  row : ∃ v, Has w' b1 #[v] 38 ∧ w'.ownsRow w.heap.size 5 1 v Z.length (CELLS Z)
  keep : ∀ b, b < w.heap.size → b ≠ b1 → w'.heap[b]? = w.heap[b]?
  below : Below b1 w w'
end Go.Proofs.YtmkgldjocigffaaDoor

/- row, text of the laws of layer 10; are these two proofs alike? -/
namespace Go.Proofs.YtmkgldjocigffaaDoor
open Go.RowKit
set_option maxRecDepth 100000

end Go.Proofs.YtmkgldjocigffaaDoor

/- Which spots leaves need, as the document says it: plain. -/
namespace Go.Proofs.YtmkgldjocigffaaDoor
set_option maxRecDepth 100000

end Go.Proofs.YtmkgldjocigffaaDoor

/- massifref10.under: the indices that stand under a spot. -/
namespace Go.Proofs.YtmkgldjocigffaaDoor
open Go.RowKit
set_option maxRecDepth 100000

end Go.Proofs.YtmkgldjocigffaaDoor

/- A list of spots is put behind another one. -/
namespace Go.Proofs.YtmkgldjocigffaaDoor
open Go.RowKit
set_option maxRecDepth 100000

theorem own_hold {w w' : World} {B s n : Nat} {t : TypeId} {v : Value} {xs : List Value} (h : w.ownsRow B t s v n xs) (hk : ∀ k, v.ownBlock = some k → w'.heap[k]? = w.heap[k]?) : w'.ownsRow B t s v n xs := by
  refine ⟨h.1, ?_⟩
  rcases h.2 with h | ⟨g, cap, cur, rfl, hb, hg, r⟩
  · exact .inl h
  · exact .inr ⟨g, cap, cur, rfl, hb, by rw [hk g rfl]; exact hg, r⟩
end Go.Proofs.YtmkgldjocigffaaDoor

/- The region of the document's needs that draws its order. -/
namespace Go.Proofs.YtmkgldjocigffaaDoor
open Go.RowKit
set_option maxRecDepth 100000

theorem own_alloc {w : World} {B s n : Nat} {t : TypeId} {v : Value} {xs : List Value} (h : w.ownsRow B t s v n xs) (o : Obj) : (w.alloc o).ownsRow B t s v n xs := own_hold h fun k e => Below.heap_alloc w o k (h.lt k e).2
end Go.Proofs.YtmkgldjocigffaaDoor

/- massifref10.needs: the spots that leaves need, from the left. -/
namespace Go.Proofs.YtmkgldjocigffaaDoor
open Go.RowKit
set_option maxRecDepth 100000

end Go.Proofs.YtmkgldjocigffaaDoor

/- needUnder and need of package many, with the closure of Places. -/
namespace Go.Proofs.YtmkgldjocigffaaDoor
open Go.RowKit
set_option maxRecDepth 100000

end Go.Proofs.YtmkgldjocigffaaDoor

/- Places of package many. -/
namespace Go.Proofs.YtmkgldjocigffaaDoor
open Go.RowKit
set_option maxRecDepth 100000

end Go.Proofs.YtmkgldjocigffaaDoor

/- massifref10.Places: what leaves need, as the document says it. -/
namespace Go.Proofs.YtmkgldjocigffaaDoor
open Go.RowKit
set_option maxRecDepth 100000

end Go.Proofs.YtmkgldjocigffaaDoor

/- Two lists of numbers and two lists of hashes of one's own, none in another's block. -/
namespace Go.Proofs.YtmkgldjocigffaaDoor
open Go.RowKit
set_option maxRecDepth 100000

/-- none of four lies in another's block. -/
structure APT (a b x y : Value) : Prop where
  ab : ∀ g, a.ownBlock = some g → b.ownBlock ≠ some g
  ax : ∀ g, a.ownBlock = some g → x.ownBlock ≠ some g
  ay : ∀ g, a.ownBlock = some g → y.ownBlock ≠ some g
  bx : ∀ g, b.ownBlock = some g → x.ownBlock ≠ some g
  byy : ∀ g, b.ownBlock = some g → y.ownBlock ≠ some g
  xy : ∀ g, x.ownBlock = some g → y.ownBlock ≠ some g
/-- four lists of one's own; K: their blocks at first. -/
structure MIX (w0 w : World) (B : Nat) (K : Nat → Prop) (a : Value) (na : Nat) (xa : List Value) (b : Value) (nb : Nat) (xb : List Value) (x : Value) (mx : Nat) (xx : List Value) (y : Value) (my : Nat) (xy : List Value) : Prop where
  ra : w.ownsRow B 22 1 a na xa
  rb : w.ownsRow B 22 1 b nb xb
  rx : w.ownsRow B 60 32 x mx xx
  ry : w.ownsRow B 60 32 y my xy
  ap : APT a b x y
  hm : ∀ g, (a.ownBlock = some g ∨ b.ownBlock = some g ∨ x.ownBlock = some g ∨ y.ownBlock = some g) → K g ∨ w0.heap.size ≤ g
  kp : ∀ k, k < w0.heap.size → ¬ K k → w.heap[k]? = w0.heap[k]?
  bl : Below B w0 w
  sz : w0.heap.size ≤ w.heap.size
  bs : B ≤ w0.heap.size
section
variable {w0 w : World} {B : Nat} {K : Nat → Prop} {a : Value} {na : Nat} {xa : List Value} {b : Value} {nb : Nat} {xb : List Value} {x : Value} {mx : Nat} {xx : List Value} {y : Value} {my : Nat} {xy : List Value}
theorem MIX.size (h : MIX w0 w B K a na xa b nb xb x mx xx y my xy) : B ≤ w.heap.size := Nat.le_trans h.bs h.sz
theorem MIX.alloc (h : MIX w0 w B K a na xa b nb xb x mx xx y my xy) (o : Obj) : MIX w0 (w.alloc o) B K a na xa b nb xb x mx xx y my xy :=
  ⟨own_alloc h.ra o, own_alloc h.rb o, own_alloc h.rx o, own_alloc h.ry o, h.ap, h.hm, fun k hk hK => (Below.heap_alloc w o k (Nat.lt_of_lt_of_le hk h.sz)).trans (h.kp k hk hK), h.bl.alloc h.size o, by have := h.sz; simp; omega, h.bs⟩
theorem MIX.drew (h : MIX w0 w B K a na xa b nb xb x mx xx y my xy) : MIX w0 w.drew B K a na xa b nb xb x mx xx y my xy := ⟨h.ra, h.rb, h.rx, h.ry, h.ap, h.hm, h.kp, h.bl.drew, h.sz, h.bs⟩
/-- a block that is none of the four's. -/
structure OFF (z : Nat) (a b x y : Value) : Prop where
  a : a.ownBlock ≠ some z
  b : b.ownBlock ≠ some z
  x : x.ownBlock ≠ some z
  y : y.ownBlock ≠ some z
end
end Go.Proofs.YtmkgldjocigffaaDoor

/- The regions of apart of the law that draw their order. -/
namespace Go.Proofs.YtmkgldjocigffaaDoor
open Go.RowKit
set_option maxRecDepth 100000

end Go.Proofs.YtmkgldjocigffaaDoor

/- massiflaw10.awake: what two leaves of seven need; the bytes of a proof. -/
namespace Go.Proofs.YtmkgldjocigffaaDoor
open Go.RowKit
set_option maxRecDepth 100000

end Go.Proofs.YtmkgldjocigffaaDoor

/- massiflaw10.numbers: the same numbers in a list of their own that goes on behind them. -/
namespace Go.Proofs.YtmkgldjocigffaaDoor
open Go.RowKit
set_option maxRecDepth 100000

/-- what numbers answers. -/
structure NUMD (w w' : World) (g n cap : Nat) (L : List Nat) : Prop where
  own : w'.ownsRow w.heap.size 22 1 (.slice (some ⟨g, 0, none⟩) n cap) n (UCELLS L)
  room : n + 1 ≤ cap
  mark : w'.cell? ⟨g, n, none⟩ = some (.int .u64 171)
  lt : g < w'.heap.size
  base : w.heap.size ≤ g
  below : Below w.heap.size w w'
end Go.Proofs.YtmkgldjocigffaaDoor

/- apart of the law: two answers, each written over with its own mark and grown, are apart. -/
namespace Go.Proofs.YtmkgldjocigffaaDoor
open Go.RowKit
set_option maxRecDepth 100000

end Go.Proofs.YtmkgldjocigffaaDoor

/- Are hashes, are bytes that were handed in as they were? -/
namespace Go.Proofs.YtmkgldjocigffaaDoor
open Go.RowKit
set_option maxRecDepth 100000

/-- two lists of bytes of one's own, neither in the other's block. -/
structure BPAIR (w0 w : World) (B : Nat) (a : Value) (na : Nat) (xa : List Value) (b : Value) (nb : Nat) (xb : List Value) : Prop where
  ra : w.ownsRow B 5 1 a na xa
  rb : w.ownsRow B 5 1 b nb xb
  ap : ∀ g, a.ownBlock = some g → b.ownBlock ≠ some g
  bl : Below B w0 w
  bs : B ≤ w0.heap.size
theorem BPAIR.alloc {w0 w : World} {B : Nat} {a : Value} {na : Nat} {xa : List Value} {b : Value} {nb : Nat} {xb : List Value} (h : BPAIR w0 w B a na xa b nb xb) (o : Obj) : BPAIR w0 (w.alloc o) B a na xa b nb xb := ⟨own_alloc h.ra o, own_alloc h.rb o, h.ap, h.bl.alloc (Nat.le_trans h.bs h.bl.size) o, h.bs⟩
end Go.Proofs.YtmkgldjocigffaaDoor

/- row, text, kept, still of the laws of layer 20; are these two proofs alike? -/
namespace Go.Proofs.YtmkgldjocigffaaDoor
open Go.RowKit
set_option maxRecDepth 100000

set_option maxHeartbeats 1000000 in
theorem row20_ok (a : Option Addr) (n c : Nat) (hn : n ≤ 1000) (hc : a = none → c = 0) (l : List Int) (w : World) (hF : Flat w a n l) : Calls Tryd.prog 14 #[.slice a n c] w (ROWED w n l) := by
  have HA : Aside (n ≤ 1000 ∧ (a = none → c = 0) ∧ Flat w a n l) := ⟨hn, hc, hF⟩
  clear hn hc hF
  go_enter Tryd.func14, Tryd.ntmps14
  go_wp2_with (first
    | (at_builtin; refine app_hashes _ rfl (.tmp 3) (.tmp 4) rfl w.heap.size (.slice (some ⟨w.heap.size, 0, none⟩) 0 0) 0 [] rfl (own_empty32 w) a n c l rfl (HA.out.2.2.below ((Below.refl _ _).alloc (Nat.le_refl _) _)) HA.out.2.1 (by have := HA.out.1; omega) (by simp) ?_; rw [Nat.zero_add, List.nil_append]; intro a1 c1 w1 hown1 hgrow1
       have R1 : Aside (w1.ownsRow w.heap.size 60 32 (.slice a1 n c1) n (CELLS l) ∧ Below w.heap.size w w1) := ⟨hown1, ((Below.refl _ w).alloc (Nat.le_refl _) _).grown hgrow1 (by simp) (fun k e => by cases e; exact Nat.le_refl _)⟩
       clear hown1 hgrow1)
    | (rw [← MRK_arr]; refine build_one _ rfl 35 60 (.tmp 6) rfl (CELLS MRK).toArray rfl 32 _ _ Tryd.underlying35 info_hashv (by rfl) rfl (by decide) (by decide) ?_)
    | (at_builtin; refine app_hash _ rfl (.tmp 5) (.tmp 7) rfl w.heap.size (.slice a1 n c1) n (CELLS l) rfl (R1.out.1.alloc _) w1.heap.size 1 MRK rfl rfl (Has.new _ _ _) (by have := HA.out.1; omega) (by have := R1.out.2.size; simp; omega) ?_; intro g2 c2 w2 hown2 hgrow2 hat2 hg2
       obtain ⟨f1, f2, f3, f4⟩ := own_front32 hown2 HA.out.2.2.1 rfl
       have hcap : (n : Int) ≤ (c2 : Int) := by omega
       have R2 : Aside (w2.ownsRow w.heap.size 60 32 (.slice (some ⟨g2, 0, none⟩) n c2) n (CELLS l) ∧ n + 1 ≤ c2 ∧ w2.rangeAt g2 (n * 32) (CELLS MRK) ∧ g2 < w2.heap.size ∧ Below w.heap.size w w2) := ⟨f1, f2, f3, f4, (R1.out.2.alloc R1.out.2.size _).grown hgrow2 (by have := R1.out.2.size; simp; omega) (fun k e => (R1.out.1.lt k e).1)⟩
       clear hown2 hgrow2 hat2 hg2 f1 f2 f3 f4))
  go_ret
  exact ⟨_, _, rfl, R2.out⟩
set_option maxHeartbeats 1000000 in
theorem text20_ok (a : Option Addr) (n c : Nat) (hn : n ≤ 1000000) (hc : a = none → c = 0) (l : List Int) (w : World) (hB : Bytes w a n l) : Calls Tryd.prog 19 #[.slice a n c] w (TEXTED w n l) := by
  have HA : Aside (n ≤ 1000000 ∧ (a = none → c = 0) ∧ Bytes w a n l) := ⟨hn, hc, hB⟩
  clear hn hc hB
  go_enter Tryd.func19, Tryd.ntmps19
  go_wp2_with (at_builtin; first
    | (refine app_any _ rfl (.tmp 3) (.tmp 4) rfl w.heap.size (.slice (some ⟨w.heap.size, 0, none⟩) 0 0) 0 [] rfl (own_empty w _ (Nat.le_refl _)) a n c l rfl (HA.out.2.2.below ((Below.refl _ _).alloc (Nat.le_refl _) _)) HA.out.2.1 n l (Nat.zero_add n) rfl (by have := HA.out.1; omega) (by simp) ?_; intro a1 c1 w1 hown1 hgrow1
       have R1 : Aside (w1.ownsRow w.heap.size 5 1 (.slice a1 n c1) n (CELLS l) ∧ Below w.heap.size w w1) := ⟨hown1, ((Below.refl _ w).alloc (Nat.le_refl _) _).grown hgrow1 (by simp) (fun k e => by cases e; exact Nat.le_refl _)⟩
       clear hown1 hgrow1)
    | (refine app_u8 _ rfl (.tmp 5) (.tmp 6) rfl w.heap.size (.slice a1 n c1) n l rfl (R1.out.1.alloc _) w1.heap.size 0 1 1 [171] rfl (one_bytes w1 171 (by decide) (by decide)) (by decide) (by have := HA.out.1; omega) (by have := R1.out.2.size; simp; omega) ?_; intro g2 c2 w2 hown2 hgrow2 hg2
       obtain ⟨f1, f2, f3⟩ := own_front hown2 HA.out.2.2.1
       have hcap : (n : Int) ≤ (c2 : Int) := by omega
       have R2 : Aside (w2.ownsRow w.heap.size 5 1 (.slice (some ⟨g2, 0, none⟩) n c2) n (CELLS l) ∧ n + 1 ≤ c2 ∧ w2.cell? ⟨g2, n, none⟩ = some (.int .u8 171) ∧ g2 < w2.heap.size ∧ Below w.heap.size w w2) := ⟨f1, f2, f3, hg2, (R1.out.2.alloc R1.out.2.size _).grown hgrow2 (by have := R1.out.2.size; simp; omega) (fun k e => (R1.out.1.lt k e).1)⟩
       clear hown2 hgrow2 hg2 f1 f2 f3))
  go_ret
  exact ⟨_, _, rfl, R2.out⟩
set_option maxHeartbeats 1000000 in
/-- two proofs that are alike. -/
theorem same20_ok (S F T : Nat) (x y : Option Addr) (m k cx cy : Nat) (l : List Int) (w : World) (hX : Flat w x m l) (hY : Flat w y k l) (hm : m ≤ 1000000) :
    Calls Tryd.prog 22 #[.agg #[.int .u64 (S : Int), .int .u64 (F : Int), .int .u64 (T : Int), .slice x m cx], .agg #[.int .u64 (S : Int), .int .u64 (F : Int), .int .u64 (T : Int), .slice y k cy]] w fun e w' => e = .returned (.bool true) ∧ Below w.heap.size w w' := by
  obtain ⟨w1, e1⟩ : ∃ w1, w.alloc (.cells #[.int .u64 (S : Int), .int .u64 (F : Int), .int .u64 (T : Int), .slice x m cx] 37) = w1 := ⟨_, rfl⟩
  obtain ⟨w2, e2⟩ : ∃ w2, w1.alloc (.cells #[.int .u64 (S : Int), .int .u64 (F : Int), .int .u64 (T : Int), .slice y k cy] 37) = w2 := ⟨_, rfl⟩
  have hb2 : Below w.heap.size w w2 := by rw [← e2, ← e1]; exact ((Below.refl _ _).alloc (Nat.le_refl _) _).alloc (by simp) _
  have h1 : Has w2 w.heap.size #[.int .u64 (S : Int), .int .u64 (F : Int), .int .u64 (T : Int), .slice x m cx] 37 := by rw [← e2, ← e1]; exact (Has.new w _ _).alloc _
  have h2 : Has w2 w1.heap.size #[.int .u64 (S : Int), .int .u64 (F : Int), .int .u64 (T : Int), .slice y k cy] 37 := by rw [← e2]; exact Has.new w1 _ _
  have x0 := h1.cell 0
  have x1 := h1.cell 1
  have x2 := h1.cell 2
  have x3 := h1.cell 3
  have y0 := h2.cell 0
  have y1 := h2.cell 1
  have y2 := h2.cell 2
  have y3 := h2.cell 3
  have ch := samehashes_ok x y m k cx cy l l w2 (hX.below hb2) (hY.below hb2) hm
  rw [decide_eq_true rfl] at ch
  have HB : Aside (Below w.heap.size w w2) := hb2
  clear hX hY hm hb2 h1 h2
  go_enter Tryd.func22, Tryd.ntmps22
  go_wp2_with fail
  refine ch.mono ?_
  rintro e w4 ⟨rfl, hb4⟩
  have B4 : Aside (Below w.heap.size w w4) := HB.out.trans (hb4.mono HB.out.size)
  clear ch hb4 HB
  go_wp2_with fail
  go_ret
  exact ⟨rfl, B4.out⟩
end Go.Proofs.YtmkgldjocigffaaDoor

/- massiflaw20.awake: what two leaves of seven need; the bytes of a proof. -/
namespace Go.Proofs.YtmkgldjocigffaaDoor
open Go.RowKit
set_option maxRecDepth 100000

/-- the hash 7 0 0 .. -/
def HSV : List Int := 7 :: List.replicate 31 0
theorem HSV_arr : (CELLS HSV).toArray = #[.int .u8 7, .int .u8 0, .int .u8 0, .int .u8 0, .int .u8 0, .int .u8 0, .int .u8 0, .int .u8 0, .int .u8 0, .int .u8 0, .int .u8 0, .int .u8 0, .int .u8 0, .int .u8 0, .int .u8 0, .int .u8 0, .int .u8 0, .int .u8 0, .int .u8 0, .int .u8 0, .int .u8 0, .int .u8 0, .int .u8 0, .int .u8 0, .int .u8 0, .int .u8 0, .int .u8 0, .int .u8 0, .int .u8 0, .int .u8 0, .int .u8 0, .int .u8 0] := rfl
theorem SPA_awake : SPA 1 3 7 = [0, 4, 9, 10] := by decide +kernel
theorem SPE_awake : SPE 1 3 7 = 0 := by decide +kernel
theorem SENC_awake : SENC 3 0 2 1 HSV = (0, 83 :: 3 :: 0 :: 2 :: HSV) := by decide +kernel
theorem own_some20 {w : World} {B s n c : Nat} {t : TypeId} {a : Option Addr} {xs : List Value} (h : w.ownsRow B t s (.slice a n c) n xs) (hn : 0 < n) : ∃ g, a = some ⟨g, 0, none⟩ := by
  rcases h.2 with ⟨e, h0⟩ | ⟨g, cap, cur, e, _⟩
  · omega
  · simp only [Value.slice.injEq] at e
    exact ⟨g, e.1⟩
theorem flat_seven20 (w : World) : Flat (w.alloc (.cells (CELLS HSV).toArray 60)) (some ⟨w.heap.size, 0, none⟩) 1 HSV := by
  refine ⟨rfl, fun _ => ⟨w.heap.size, 0, rfl, by simp, fun j hj => ?_⟩, by decide⟩
  rw [(Has.new w (CELLS HSV).toArray 60).cell (0 + j), Nat.zero_add, List.getElem?_toArray]
  exact CELLS_get HSV j hj
set_option maxHeartbeats 2000000 in
theorem awake20_ok (w : World) (hT : Tabled w) (h0 : 0 < w.heap.size) : Calls Tryd.prog 10 #[] w fun e w' => e = .returned (.bool true) ∧ Below w.heap.size w w' := by
  have cp := spanplaces_ok 1 3 7 w hT h0
  rw [SPA_awake, SPE_awake] at cp
  have B1 : Aside (Tabled w ∧ 0 < w.heap.size) := ⟨hT, h0⟩
  clear hT h0
  go_enter Tryd.func10, Tryd.ntmps10
  go_wp2_with fail
  refine cp.mono ?_
  rintro e w2 ⟨a2, c2, rfl, hown2, hb2⟩
  clear cp
  have R2 : Aside (w2.ownsRow w.heap.size 22 1 (.slice a2 4 c2) 4 (UCELLS [0, 4, 9, 10]) ∧ Below w.heap.size w w2) := ⟨hown2, hb2⟩
  clear hown2 hb2
  obtain ⟨w4, e4⟩ : ∃ w4, w2.alloc (.cells (CELLS HSV).toArray 60) = w4 := ⟨_, rfl⟩
  have hb4 : Below w2.heap.size w2 w4 := by rw [← e4]; exact (Below.refl _ _).alloc (Nat.le_refl _) _
  have hbw4 : Below w.heap.size w w4 := R2.out.2.trans (hb4.mono R2.out.2.size)
  have hF4 : Flat w4 (some ⟨w2.heap.size, 0, none⟩) 1 HSV := by rw [← e4]; exact flat_seven20 w2
  have ce := spanencode_ok 3 0 2 (some ⟨w2.heap.size, 0, none⟩) 1 1 HSV w4 (by decide) hF4 (B1.out.1.below B1.out.2 hbw4) (by have := B1.out.2; have := hbw4.size; omega)
  rw [SENC_awake] at ce
  rw [HSV_arr] at e4
  have hM : RBOX 3 0 2 (some ⟨w2.heap.size, 0, none⟩) 1 1 = #[.int .u64 3, .int .u64 0, .int .u64 2, .slice (some ⟨w2.heap.size, 0, none⟩) 1 1] := rfl
  rw [hM] at ce
  have R4 : Aside (w4.ownsRow w.heap.size 22 1 (.slice a2 4 c2) 4 (UCELLS [0, 4, 9, 10]) ∧ Below w.heap.size w w4) := ⟨own_below R2.out.1 hb4, hbw4⟩
  clear hM hb4 hbw4 hF4 R2 B1
  go_wp2_with fail
  refine ce.mono ?_
  rintro e w5 ⟨a5, c5, rfl, hown5, hb5⟩
  clear ce e4
  have o2 := own_below R4.out.1 hb5
  obtain ⟨g2, rfl⟩ := own_some20 o2 (by decide)
  obtain ⟨g5, rfl⟩ := own_some20 hown5 (by decide)
  have y0 : w5.cell? ⟨g2, 0, none⟩ = some (.int .u64 0) := o2.cellAt 0 (by decide)
  have y1 : w5.cell? ⟨g2, 1, none⟩ = some (.int .u64 4) := o2.cellAt 1 (by decide)
  have y2 : w5.cell? ⟨g2, 2, none⟩ = some (.int .u64 9) := o2.cellAt 2 (by decide)
  have z0 : w5.cell? ⟨g5, 0, none⟩ = some (.int .u8 83) := hown5.cellAt 0 (by decide)
  have z3 : w5.cell? ⟨g5, 3, none⟩ = some (.int .u8 2) := hown5.cellAt 3 (by decide)
  have z4 : w5.cell? ⟨g5, 4, none⟩ = some (.int .u8 7) := hown5.cellAt 4 (by decide)
  have FN : Aside (Below w.heap.size w w5) := R4.out.2.trans (hb5.mono R4.out.2.size)
  have hlen : (83 :: 3 :: 0 :: 2 :: HSV).length = 36 := rfl
  rw [hlen]
  clear o2 hown5 hb5 R4
  go_wp2_with fail
  go_ret
  exact ⟨rfl, FN.out⟩
end Go.Proofs.YtmkgldjocigffaaDoor
