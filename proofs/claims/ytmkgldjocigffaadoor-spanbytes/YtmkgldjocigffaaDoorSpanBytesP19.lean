/- Texts of SpanBytes, one behind the other: SpanMarks, SpanBytesRegion, ManyStays2, ManyTexts, ManyMix, ManyApartRegions, ManyAwake, ManyNumbers, ManyApart, ManyKept. -/
import Derived.Laws.AppendOwnNone
import Derived.Test.YtmkgldjocigffaaDoorSpanBytesP18
/- What mark and all of the law answer. -/
namespace Go.Proofs.YtmkgldjocigffaaDoor
open Go.RowKit
set_option maxRecDepth 100000

set_option maxHeartbeats 2000000 in
theorem mark20_ok (B : Nat) (v : Value) (n : Nat) (xs : List Value) (m : Int) (hn : n ≤ 900) (w : World) (hB : B ≤ w.heap.size) (h : w.ownsRow B 60 32 v n xs) : Calls Tryd.prog 24 #[v, .int .u8 m] w fun e w' =>
    ∃ g cap, e = .returned (.slice (some ⟨g, 0, none⟩) (n + 1 + 1) cap) ∧ w'.ownsRow B 60 32 (.slice (some ⟨g, 0, none⟩) (n + 1 + 1) cap) (n + 1 + 1) (CELLS (MKS m (n + 1 + 1))) ∧ w.grownBy w' v.ownBlock ∧ (v.ownBlock = some g ∨ w.heap.size ≤ g) := by
  obtain ⟨a, c, rfl, hc, ha⟩ := own_shapeh h
  have hxs : xs.length = 32 * n := by have := h.1; omega
  have HA : Aside (n ≤ 900 ∧ xs.length = 32 * n ∧ w.ownsRow B 60 32 (.slice a n c) n xs ∧ (0 < n → ∃ g, a = some ⟨g, 0, none⟩) ∧ B ≤ w.heap.size) := ⟨hn, hxs, h, ha, hB⟩
  clear h ha hxs hn hB hc
  go_enter Tryd.func24, Tryd.ntmps24
  go_wp2
  go_loopg [5] n (fun q s5 wx => ∃ j : Nat, s5 = .int .i64 (j : Int) ∧ Aside (j + q = n ∧ wx.ownsRow B 60 32 (.slice a n c) n (MKP xs m j) ∧ w.grownBy wx (Value.slice a n c).ownBlock))
  case atStart => exact ⟨0, rfl, by omega, by rw [MKP_zero]; exact HA.out.2.2.1, grown_refl _ _⟩
  case round =>
    obtain ⟨j, rfl, A⟩ := hrel
    cases gk with
    | zero =>
      obtain rfl : j = n := by have := A.out.1; omega
      have hlt : ¬ (j : Int) < (j : Int) := by omega
      have R : Aside (wr.ownsRow B 60 32 (.slice a j c) j (CELLS (MKS m j)) ∧ w.grownBy wr (Value.slice a j c).ownBlock ∧ j ≤ 900 ∧ B ≤ wr.heap.size ∧ w.heap.size ≤ wr.heap.size) := by
        obtain ⟨_, h1, h2⟩ := A.out
        obtain ⟨a1, a2, a3, a4, a5⟩ := HA.out
        rw [MKP_all a2] at h1
        have hs := grown_size h2
        exact ⟨h1, h2, a1, Nat.le_trans a5 hs, hs⟩
      clear A HA
      go_wp2_with (first
        | (rw [← MK_arr]; refine build_one _ rfl 35 60 (.tmp 19) rfl (CELLS (MK m)).toArray rfl 32 _ _ Tryd.underlying35 info_hashv (by rfl) rfl (by decide) (by decide) ?_)
        | (at_builtin; refine app_hash _ rfl (.tmp 17) (.tmp 20) rfl B _ j (CELLS (MKS m j)) rfl (R.out.1.alloc _) wr.heap.size 1 (MK m) rfl rfl (Has.new _ _ _) (by have := R.out.2.2.1; omega) (by have := R.out.2.2.2.1; simp; omega) ?_; intro g1 q1 w1 hown1 hgrow1 hat1 hg1
           have S : Aside (w1.ownsRow B 60 32 (.slice (some ⟨g1, 0, none⟩) (j + 1) q1) (j + 1) (CELLS (MKS m (j + 1))) ∧ w.grownBy w1 (Value.slice a j c).ownBlock ∧ ((Value.slice a j c).ownBlock = some g1 ∨ w.heap.size ≤ g1) ∧ B ≤ w1.heap.size ∧ w.heap.size ≤ w1.heap.size) := ⟨by rw [MKS, CELLS_append]; exact hown1, grown_trans (grown_trans R.out.2.1 (grown_alloc _ _ _) (.inl rfl)) hgrow1 (.inl rfl), hat1.imp id fun e => by have := R.out.2.2.2.2; rw [e]; simp; omega, by have h1 := grown_size hgrow1; have h2 := R.out.2.2.2.1; simp at h1; omega, by have h1 := grown_size hgrow1; have h2 := R.out.2.2.2.2; simp at h1; omega⟩
           clear hown1 hgrow1 hat1 hg1)
        | (rw [← MK_arr]; refine build_one _ rfl 35 60 (.tmp 23) rfl (CELLS (MK m)).toArray rfl 32 _ _ Tryd.underlying35 info_hashv (by rfl) rfl (by decide) (by decide) ?_)
        | (at_builtin; refine app_hash _ rfl (.tmp 21) (.tmp 24) rfl B _ (j + 1) _ rfl (S.out.1.alloc _) w1.heap.size 1 (MK m) rfl rfl (Has.new _ _ _) (by have := R.out.2.2.1; omega) (by have h1 := S.out.2.2.2.1; simp; omega) ?_; intro g2 q2 w2 hown2 hgrow2 hat2 hg2))
      have S2 : Aside (w2.ownsRow B 60 32 (.slice (some ⟨g2, 0, none⟩) (j + 1 + 1) q2) (j + 1 + 1) (CELLS (MKS m (j + 1 + 1))) ∧ w.grownBy w2 (Value.slice a j c).ownBlock ∧ ((Value.slice a j c).ownBlock = some g2 ∨ w.heap.size ≤ g2)) := by
        obtain ⟨s1, s2, s3, s4, s5⟩ := S.out
        refine ⟨?_, grown_trans (grown_trans s2 (grown_alloc _ _ _) (.inl rfl)) hgrow2 ?_, ?_⟩
        · rw [show MKS m (j + 1 + 1) = MKS m (j + 1) ++ MK m from rfl, CELLS_append]
          exact hown2
        · rcases s3 with s3 | s3
          · exact .inl s3.symm
          · exact .inr fun g e => by cases e; exact s3
        · rcases hat2 with e | e
          · cases e
            exact s3
          · exact .inr (by rw [e]; simp; omega)
      clear hown2 hgrow2 hat2 hg2 S R
      go_wp2
      go_ret
      exact ⟨_, _, rfl, S2.out⟩
    | succ q =>
      obtain ⟨hj, hown, hgr⟩ := A.out
      obtain ⟨a1, a2, a3, a4, a5⟩ := HA.out
      have hlt : (j : Int) < (n : Int) := by omega
      obtain ⟨g, rfl⟩ := a4 (by omega)
      have hth : wr.there g (j * 32) (CELLS (MK m)).toArray.size := fun i hi => by
        have hi : i < 32 := hi
        refine ⟨?_, hown.frozenAt _⟩
        rw [hown.cellAt (j * 32 + i) (by omega), List.getElem?_eq_getElem (by rw [MKP_length a2 (by omega)]; omega)]
        rfl
      have hst := own_over (CELLS (MK m)) _ (j * 32) wr hown
      rw [MKP_next a2 (by omega)] at hst
      have R : Aside (j + 1 + q = n ∧ (wr.setCells g (j * 32) (CELLS (MK m)).toArray.toList).ownsRow B 60 32 (.slice (some ⟨g, 0, none⟩) n c) n (MKP xs m (j + 1)) ∧ w.grownBy (wr.setCells g (j * 32) (CELLS (MK m)).toArray.toList) (Value.slice (some ⟨g, 0, none⟩) n c).ownBlock) := ⟨by omega, hst.1, grown_trans hgr hst.2 (.inl rfl)⟩
      have E1 : Aside (wrap64 ((j : Int) + 1) = ((j + 1 : Nat) : Int)) := by show wrap64 ((j : Int) + 1) = ((j + 1 : Nat) : Int); unfold wrap64; omega
      clear hj hown hgr a1 a2 a3 a4 a5 hst A HA
      go_wp2_with (first
        | (rw [← MK_arr]; refine wpList_store_mid rfl 60 (.tmp 16) (.tmp 15) rfl g (j * 32) (CELLS (MK m)).toArray rfl rfl hth (info_arr (MK_length m)) (cells_one (MK m)) ?_))
      generalize wr.setCells g (j * 32) (CELLS (MK m)).toArray.toList = w2 at *
      have e1 := E1.out
      go_wp2
      go_roundg q
      case measure => exact Nat.lt_succ_self _
      case rel => exact ⟨j + 1, by first | rfl | (rw [E1.out]), R.out⟩
set_option maxHeartbeats 1000000 in
theorem all20_ok (B g n c : Nat) (m : Int) (hn : n ≤ 1000000) (w : World) (h : w.ownsRow B 60 32 (.slice (some ⟨g, 0, none⟩) n c) n (CELLS (MKS m n))) : Calls Tryd.prog 25 #[.slice (some ⟨g, 0, none⟩) n c, .int .u8 m] w fun e w' => e = .returned (.bool true) ∧ w = w' := by
  have HA : Aside (n ≤ 1000000 ∧ w.ownsRow B 60 32 (.slice (some ⟨g, 0, none⟩) n c) n (CELLS (MKS m n))) := ⟨hn, h⟩
  clear hn h
  go_enter Tryd.func25, Tryd.ntmps25
  go_wp2
  go_loopg [5] n (fun q s5 wx => ∃ j : Nat, s5 = .int .i64 (j : Int) ∧ Aside (j + q = n) ∧ wx = w)
  case atStart => exact ⟨0, rfl, by show 0 + n = n; omega, rfl⟩
  case round =>
    obtain ⟨j, rfl, A, rfl⟩ := hrel
    cases gk with
    | zero =>
      obtain rfl : j = n := by have := A.out; omega
      have hlt : ¬ (j : Int) < (j : Int) := by omega
      clear A HA
      go_wp2
      go_ret
      exact ⟨rfl, rfl⟩
    | succ q =>
      have hj : j + 1 + q = n := by have := A.out; omega
      have hlt : (j : Int) < (n : Int) := by omega
      have hat : wr.rangeAt g (j * 32) (CELLS (MK m)) := fun i v hv => by
        have hi : i < 32 := (List.getElem?_eq_some_iff.1 hv).1
        have := HA.out.2.cellAt (j * 32 + i) (by omega)
        rw [this, CELLS_get _ _ (by rw [MKS_length]; omega), show j * 32 + i = 32 * j + i by omega, ← HSH_at hi, MKS_at m (by omega), ← hv, CELLS_get _ _ (by rw [MK_length]; exact hi)]
      have R : Aside (j + 1 + q = n) := hj
      have E1 : Aside (wrap64 ((j : Int) + 1) = ((j + 1 : Nat) : Int)) := by have := HA.out.1; show wrap64 ((j : Int) + 1) = ((j + 1 : Nat) : Int); unfold wrap64; omega
      have hnq : ∀ x y (W : World), (do eqGuard .neq 60 x y (.agg (CELLS (MK m)).toArray) (.agg (CELLS (MK m)).toArray); binOp .neq 60 (.agg (CELLS (MK m)).toArray) (.agg (CELLS (MK m)).toArray) : Sem Value).run Tryd.prog W = .ok (.bool false) W := fun x y W => neq_cells (MK m) (MK_length m) x y W
      clear hj A HA
      go_wp2_with (first
        | (refine wpList_load_mid rfl 60 (.tmp 14) rfl g (j * 32) rfl (CELLS (MK m)) _ hat Tryd.underlying60 rfl (info_cells (MK_length m)) ?_)
        | (rw [← MK_arr]; refine wpList_plain rfl (fun K hK => step_pure (run_value (hnq _ _ _)) (hK _ _ ?_))))
      have e1 := E1.out
      go_wp2
      go_roundg q
      case measure => exact Nat.lt_succ_self _
      case rel => exact ⟨j + 1, by first | rfl | (rw [E1.out]), R, rfl⟩
end Go.Proofs.YtmkgldjocigffaaDoor

/- The region of the law SpanBytes that draws its order. -/
namespace Go.Proofs.YtmkgldjocigffaaDoor
open Go.RowKit
set_option maxRecDepth 100000

def SB32OPS : Array Oper := #[{ dst := some 178, op := Op.fieldAddr 37 (Operand.tmp 17) 3, type := 0, pos := "law.go:146", after := #[], guard := none }, { dst := some 179, op := Op.load 35 (Operand.tmp 178), type := 35, pos := "law.go:146", after := #[{ on := 0, ground := Ground.data }], guard := none }, { dst := some 180, op := Op.call { callee := Callee.value (Operand.func 24), args := #[Operand.tmp 179, Operand.const (Value.int IntKind.u8 201)], argTypes := #[35, 5] }, type := 35, pos := "law.go:146", after := #[{ on := 1, ground := Ground.data }], guard := none }, { dst := some 181, op := Op.fieldAddr 37 (Operand.tmp 19) 3, type := 0, pos := "law.go:146", after := #[], guard := none }, { dst := some 182, op := Op.load 35 (Operand.tmp 181), type := 35, pos := "law.go:146", after := #[{ on := 3, ground := Ground.data }], guard := none }, { dst := some 183, op := Op.call { callee := Callee.value (Operand.func 24), args := #[Operand.tmp 182, Operand.const (Value.int IntKind.u8 202)], argTypes := #[35, 5] }, type := 35, pos := "law.go:146", after := #[{ on := 4, ground := Ground.data }, { on := 2, ground := Ground.chain }], guard := none }, { dst := some 22, op := Op.assign (Operand.tmp 180), type := 35, pos := "law.go:146", after := #[{ on := 2, ground := Ground.data }, { on := 5, ground := Ground.chain }, { on := 0, ground := Ground.phase }, { on := 1, ground := Ground.phase }, { on := 2, ground := Ground.phase }, { on := 3, ground := Ground.textOnly Departure.lateStores }, { on := 4, ground := Ground.textOnly Departure.lateStores }, { on := 5, ground := Ground.textOnly Departure.lateStoresUnsure }], guard := none }, { dst := some 23, op := Op.assign (Operand.tmp 183), type := 35, pos := "law.go:146", after := #[{ on := 5, ground := Ground.data }, { on := 6, ground := Ground.chain }, { on := 0, ground := Ground.phase }, { on := 1, ground := Ground.phase }, { on := 2, ground := Ground.phase }, { on := 3, ground := Ground.phase }, { on := 4, ground := Ground.phase }, { on := 5, ground := Ground.phase }, { on := 6, ground := Ground.phase }], guard := none }]
set_option maxHeartbeats 2000000 in
theorem sbytes32 {Q : Exit → Act → World → Prop} {u0 u1 u2 u3 u4 u5 u6 u7 u8 u9 u10 u11 u12 u13 u14 u15 u16 u18 u20 u21 u22 u23 u24 u25 u26 u27 u28 u29 u30 u31 u32 u33 u34 u35 u36 u37 u38 u39 u40 u41 u42 u43 u44 u45 u46 u47 u48 u49 u50 u51 u52 u53 u54 u55 u56 u57 u58 u59 u60 u61 u62 u63 u64 u65 u66 u67 u68 u69 u70 u71 u72 u73 u74 u75 u76 u77 u78 u79 u80 u81 u82 u83 u84 u85 u86 u87 u88 u89 u90 u91 u92 u93 u94 u95 u96 u97 u98 u99 u100 u101 u102 u103 u104 u105 u106 u107 u108 u109 u110 u111 u112 u113 u114 u115 u116 u117 u118 u119 u120 u121 u122 u123 u124 u125 u126 u127 u128 u129 u130 u131 u132 u133 u134 u135 u136 u137 u138 u139 u140 u141 u142 u143 u144 u145 u146 u147 u148 u149 u150 u151 u152 u153 u154 u155 u156 u157 u158 u159 u160 u161 u162 u163 u164 u165 u166 u167 u168 u169 u170 u171 u172 u173 u174 u175 u176 u177 u178 u179 u180 u181 u182 u183 u184 u185 u186 u187 u188 u189 u190 u191 u192 : Value} (W : World) (b1 b2 n c1 c2 : Nat) (a1 a2 : Option Addr) (P0 : World → Prop) (P1 : Nat → Nat → World → Prop) (P2 : Nat → Nat → Nat → Nat → World → Prop) (h0 : P0 W.drew) (t0 : ∀ w, P0 w → (fun w : World => w.cell? ⟨b1, 3, none⟩ = some (.slice a1 n c1) ∧ w.cell? ⟨b2, 3, none⟩ = some (.slice a2 n c2)) w) (t1 : ∀ g q w, P1 g q w → (fun w : World => w.cell? ⟨b1, 3, none⟩ = some (.slice a1 n c1) ∧ w.cell? ⟨b2, 3, none⟩ = some (.slice a2 n c2)) w) (t2 : ∀ g q g2 q2 w, P2 g q g2 q2 w → (fun w : World => w.cell? ⟨b1, 3, none⟩ = some (.slice a1 n c1) ∧ w.cell? ⟨b2, 3, none⟩ = some (.slice a2 n c2)) w)
    (k1 : ∀ w, P0 w → Calls Tryd.prog 24 #[.slice a1 n c1, .int .u8 201] w fun e w' => ∃ g1 q1, e = .returned (.slice (some ⟨g1, 0, none⟩) (n + 1 + 1) q1) ∧ P1 g1 q1 w') (k2 : ∀ g1 q1 w, P1 g1 q1 w → Calls Tryd.prog 24 #[.slice a2 n c2, .int .u8 202] w fun e w' => ∃ g2 q2, e = .returned (.slice (some ⟨g2, 0, none⟩) (n + 1 + 1) q2) ∧ P2 g1 q1 g2 q2 w') (hQ : ∀ c (a : Act) (t : Tmp) (v : Value) w, Q (.panic c) (a.put (some t) v) w → Q (.panic c) a w)
    (hfin : ∀ (g1 : Nat) (q1 : Nat) (g2 : Nat) (q2 : Nat) (w : World), (P2 g1 q1 g2 q2 w) → Q .normal { tmps := #[u0, u1, u2, u3, u4, u5, u6, u7, u8, u9, u10, u11, u12, u13, u14, u15, u16, .pointer (some ⟨b1, 0, none⟩), u18, .pointer (some ⟨b2, 0, none⟩), u20, u21, .slice (some ⟨g1, 0, none⟩) (n + 1 + 1) q1, .slice (some ⟨g2, 0, none⟩) (n + 1 + 1) q2, u24, u25, u26, u27, u28, u29, u30, u31, u32, u33, u34, u35, u36, u37, u38, u39, u40, u41, u42, u43, u44, u45, u46, u47, u48, u49, u50, u51, u52, u53, u54, u55, u56, u57, u58, u59, u60, u61, u62, u63, u64, u65, u66, u67, u68, u69, u70, u71, u72, u73, u74, u75, u76, u77, u78, u79, u80, u81, u82, u83, u84, u85, u86, u87, u88, u89, u90, u91, u92, u93, u94, u95, u96, u97, u98, u99, u100, u101, u102, u103, u104, u105, u106, u107, u108, u109, u110, u111, u112, u113, u114, u115, u116, u117, u118, u119, u120, u121, u122, u123, u124, u125, u126, u127, u128, u129, u130, u131, u132, u133, u134, u135, u136, u137, u138, u139, u140, u141, u142, u143, u144, u145, u146, u147, u148, u149, u150, u151, u152, u153, u154, u155, u156, u157, u158, u159, u160, u161, u162, u163, u164, u165, u166, u167, u168, u169, u170, u171, u172, u173, u174, u175, u176, u177, .pointer (some ⟨b1, 3, none⟩), .slice a1 n c1, .slice (some ⟨g1, 0, none⟩) (n + 1 + 1) q1, .pointer (some ⟨b2, 3, none⟩), .slice a2 n c2, .slice (some ⟨g2, 0, none⟩) (n + 1 + 1) q2, u184, u185, u186, u187, u188, u189, u190, u191, u192], defers := [] } w) : (Code.region 32 SB32OPS true).wp Tryd.prog Q { tmps := #[u0, u1, u2, u3, u4, u5, u6, u7, u8, u9, u10, u11, u12, u13, u14, u15, u16, .pointer (some ⟨b1, 0, none⟩), u18, .pointer (some ⟨b2, 0, none⟩), u20, u21, u22, u23, u24, u25, u26, u27, u28, u29, u30, u31, u32, u33, u34, u35, u36, u37, u38, u39, u40, u41, u42, u43, u44, u45, u46, u47, u48, u49, u50, u51, u52, u53, u54, u55, u56, u57, u58, u59, u60, u61, u62, u63, u64, u65, u66, u67, u68, u69, u70, u71, u72, u73, u74, u75, u76, u77, u78, u79, u80, u81, u82, u83, u84, u85, u86, u87, u88, u89, u90, u91, u92, u93, u94, u95, u96, u97, u98, u99, u100, u101, u102, u103, u104, u105, u106, u107, u108, u109, u110, u111, u112, u113, u114, u115, u116, u117, u118, u119, u120, u121, u122, u123, u124, u125, u126, u127, u128, u129, u130, u131, u132, u133, u134, u135, u136, u137, u138, u139, u140, u141, u142, u143, u144, u145, u146, u147, u148, u149, u150, u151, u152, u153, u154, u155, u156, u157, u158, u159, u160, u161, u162, u163, u164, u165, u166, u167, u168, u169, u170, u171, u172, u173, u174, u175, u176, u177, u178, u179, u180, u181, u182, u183, u184, u185, u186, u187, u188, u189, u190, u191, u192], defers := [] } W := by
  have kst2_5 : ∀ (g1 : Nat) (q1 : Nat) (g2 : Nat) (q2 : Nat) (w : World), (P2 g1 q1 g2 q2 w) → wpAnyH Tryd.prog .any SB32OPS Q (fun w : World => w.cell? ⟨b1, 3, none⟩ = some (.slice a1 n c1) ∧ w.cell? ⟨b2, 3, none⟩ = some (.slice a2 n c2)) 0 #[true, true, true, true, true, true, true, true] { tmps := #[u0, u1, u2, u3, u4, u5, u6, u7, u8, u9, u10, u11, u12, u13, u14, u15, u16, .pointer (some ⟨b1, 0, none⟩), u18, .pointer (some ⟨b2, 0, none⟩), u20, u21, .slice (some ⟨g1, 0, none⟩) (n + 1 + 1) q1, .slice (some ⟨g2, 0, none⟩) (n + 1 + 1) q2, u24, u25, u26, u27, u28, u29, u30, u31, u32, u33, u34, u35, u36, u37, u38, u39, u40, u41, u42, u43, u44, u45, u46, u47, u48, u49, u50, u51, u52, u53, u54, u55, u56, u57, u58, u59, u60, u61, u62, u63, u64, u65, u66, u67, u68, u69, u70, u71, u72, u73, u74, u75, u76, u77, u78, u79, u80, u81, u82, u83, u84, u85, u86, u87, u88, u89, u90, u91, u92, u93, u94, u95, u96, u97, u98, u99, u100, u101, u102, u103, u104, u105, u106, u107, u108, u109, u110, u111, u112, u113, u114, u115, u116, u117, u118, u119, u120, u121, u122, u123, u124, u125, u126, u127, u128, u129, u130, u131, u132, u133, u134, u135, u136, u137, u138, u139, u140, u141, u142, u143, u144, u145, u146, u147, u148, u149, u150, u151, u152, u153, u154, u155, u156, u157, u158, u159, u160, u161, u162, u163, u164, u165, u166, u167, u168, u169, u170, u171, u172, u173, u174, u175, u176, u177, .pointer (some ⟨b1, 3, none⟩), .slice a1 n c1, .slice (some ⟨g1, 0, none⟩) (n + 1 + 1) q1, .pointer (some ⟨b2, 3, none⟩), .slice a2 n c2, .slice (some ⟨g2, 0, none⟩) (n + 1 + 1) q2, u184, u185, u186, u187, u188, u189, u190, u191, u192], defers := [] } w := fun g1 q1 g2 q2 w hp => by
    exact wpAnyH_done (by kernel_rfl) (hfin g1 q1 g2 q2 w hp) _
  have ekst2_5 : ∀ (g1 : Nat) (q1 : Nat) (g2 : Nat) (q2 : Nat) (w : World), (P2 g1 q1 g2 q2 w) → wpAnyH Tryd.prog .any SB32OPS Q (fun w : World => w.cell? ⟨b1, 3, none⟩ = some (.slice a1 n c1) ∧ w.cell? ⟨b2, 3, none⟩ = some (.slice a2 n c2)) 2 #[true, true, true, true, true, true, false, false] { tmps := #[u0, u1, u2, u3, u4, u5, u6, u7, u8, u9, u10, u11, u12, u13, u14, u15, u16, .pointer (some ⟨b1, 0, none⟩), u18, .pointer (some ⟨b2, 0, none⟩), u20, u21, u22, u23, u24, u25, u26, u27, u28, u29, u30, u31, u32, u33, u34, u35, u36, u37, u38, u39, u40, u41, u42, u43, u44, u45, u46, u47, u48, u49, u50, u51, u52, u53, u54, u55, u56, u57, u58, u59, u60, u61, u62, u63, u64, u65, u66, u67, u68, u69, u70, u71, u72, u73, u74, u75, u76, u77, u78, u79, u80, u81, u82, u83, u84, u85, u86, u87, u88, u89, u90, u91, u92, u93, u94, u95, u96, u97, u98, u99, u100, u101, u102, u103, u104, u105, u106, u107, u108, u109, u110, u111, u112, u113, u114, u115, u116, u117, u118, u119, u120, u121, u122, u123, u124, u125, u126, u127, u128, u129, u130, u131, u132, u133, u134, u135, u136, u137, u138, u139, u140, u141, u142, u143, u144, u145, u146, u147, u148, u149, u150, u151, u152, u153, u154, u155, u156, u157, u158, u159, u160, u161, u162, u163, u164, u165, u166, u167, u168, u169, u170, u171, u172, u173, u174, u175, u176, u177, .pointer (some ⟨b1, 3, none⟩), .slice a1 n c1, .slice (some ⟨g1, 0, none⟩) (n + 1 + 1) q1, .pointer (some ⟨b2, 3, none⟩), .slice a2 n c2, .slice (some ⟨g2, 0, none⟩) (n + 1 + 1) q2, u184, u185, u186, u187, u188, u189, u190, u191, u192], defers := [] } w := fun g1 q1 g2 q2 w hp => by
    have hww : (fun w : World => w.cell? ⟨b1, 3, none⟩ = some (.slice a1 n c1) ∧ w.cell? ⟨b2, 3, none⟩ = some (.slice a2 n c2)) w := t2 _ _ _ _ _ hp
    have last := kst2_5 g1 q1 g2 q2 w hp
    refine wpAnyH_take (i := 6) (oi := { dst := some 22, op := Op.assign (Operand.tmp 180), type := 35, pos := "law.go:146", after := #[{ on := 2, ground := Ground.data }, { on := 5, ground := Ground.chain }, { on := 0, ground := Ground.phase }, { on := 1, ground := Ground.phase }, { on := 2, ground := Ground.phase }, { on := 3, ground := Ground.textOnly Departure.lateStores }, { on := 4, ground := Ground.textOnly Departure.lateStores }, { on := 5, ground := Ground.textOnly Departure.lateStoresUnsure }], guard := none }) (v := .slice (some ⟨g1, 0, none⟩) (n + 1 + 1) q1) rfl (by kernel_rfl) (by kernel_rfl) (by kernel_rfl) (fun _ _ _ h => hQ _ _ _ _ _ h) (Yields.yieldsIf (Or.inl ⟨by rfl, fun W => by go_simp⟩)) hww ?_
    simp only [Act.put, List.setIfInBounds_toArray, List.set_cons_zero, List.set_cons_succ]
    refine wpAnyH_take (i := 7) (oi := { dst := some 23, op := Op.assign (Operand.tmp 183), type := 35, pos := "law.go:146", after := #[{ on := 5, ground := Ground.data }, { on := 6, ground := Ground.chain }, { on := 0, ground := Ground.phase }, { on := 1, ground := Ground.phase }, { on := 2, ground := Ground.phase }, { on := 3, ground := Ground.phase }, { on := 4, ground := Ground.phase }, { on := 5, ground := Ground.phase }, { on := 6, ground := Ground.phase }], guard := none }) (v := .slice (some ⟨g2, 0, none⟩) (n + 1 + 1) q2) rfl (by kernel_rfl) (by kernel_rfl) (by kernel_rfl) (fun _ _ _ h => hQ _ _ _ _ _ h) (Yields.yieldsIf (Or.inl ⟨by rfl, fun W => by go_simp⟩)) hww ?_
    simp only [Act.put, List.setIfInBounds_toArray, List.set_cons_zero, List.set_cons_succ]
    exact last
  have kst2 : ∀ (g1 : Nat) (q1 : Nat) (w : World), (P1 g1 q1 w) → wpAnyH Tryd.prog .any SB32OPS Q (fun w : World => w.cell? ⟨b1, 3, none⟩ = some (.slice a1 n c1) ∧ w.cell? ⟨b2, 3, none⟩ = some (.slice a2 n c2)) 3 #[true, true, true, true, true, false, false, false] { tmps := #[u0, u1, u2, u3, u4, u5, u6, u7, u8, u9, u10, u11, u12, u13, u14, u15, u16, .pointer (some ⟨b1, 0, none⟩), u18, .pointer (some ⟨b2, 0, none⟩), u20, u21, u22, u23, u24, u25, u26, u27, u28, u29, u30, u31, u32, u33, u34, u35, u36, u37, u38, u39, u40, u41, u42, u43, u44, u45, u46, u47, u48, u49, u50, u51, u52, u53, u54, u55, u56, u57, u58, u59, u60, u61, u62, u63, u64, u65, u66, u67, u68, u69, u70, u71, u72, u73, u74, u75, u76, u77, u78, u79, u80, u81, u82, u83, u84, u85, u86, u87, u88, u89, u90, u91, u92, u93, u94, u95, u96, u97, u98, u99, u100, u101, u102, u103, u104, u105, u106, u107, u108, u109, u110, u111, u112, u113, u114, u115, u116, u117, u118, u119, u120, u121, u122, u123, u124, u125, u126, u127, u128, u129, u130, u131, u132, u133, u134, u135, u136, u137, u138, u139, u140, u141, u142, u143, u144, u145, u146, u147, u148, u149, u150, u151, u152, u153, u154, u155, u156, u157, u158, u159, u160, u161, u162, u163, u164, u165, u166, u167, u168, u169, u170, u171, u172, u173, u174, u175, u176, u177, .pointer (some ⟨b1, 3, none⟩), .slice a1 n c1, .slice (some ⟨g1, 0, none⟩) (n + 1 + 1) q1, .pointer (some ⟨b2, 3, none⟩), .slice a2 n c2, u183, u184, u185, u186, u187, u188, u189, u190, u191, u192], defers := [] } w := fun g1 q1 w hp => by
    refine wpAnyH_ready (rs := [5]) (by kernel_rfl) (by simp) ?_
    refine AllReadyH.cons (o := { dst := some 183, op := Op.call { callee := Callee.value (Operand.func 24), args := #[Operand.tmp 182, Operand.const (Value.int IntKind.u8 202)], argTypes := #[35, 5] }, type := 35, pos := "law.go:146", after := #[{ on := 4, ground := Ground.data }, { on := 2, ground := Ground.chain }], guard := none }) rfl (fun KQ hKQ => ?_) ?_
    · rw [if_pos (by rfl)]
      go_simp
      refine (show Calls _ _ _ w (fun e w' => ∃ (g2 : Nat) (q2 : Nat), e = .returned (.slice (some ⟨g2, 0, none⟩) (n + 1 + 1) q2) ∧ (P2 g1 q1 g2 q2 w')) from k2 _ _ w hp).mono ?_
      rintro e w' ⟨g2, q2, rfl, hp⟩
      exact hKQ.out _ _ (t2 _ _ _ _ _ hp) (fun _ => ekst2_5 g1 q1 g2 q2 w' hp)
    exact AllReadyH.nil
  have kst : ∀ (w : World), (P0 w) → wpAnyH Tryd.prog .any SB32OPS Q (fun w : World => w.cell? ⟨b1, 3, none⟩ = some (.slice a1 n c1) ∧ w.cell? ⟨b2, 3, none⟩ = some (.slice a2 n c2)) 4 #[true, true, false, true, true, false, false, false] { tmps := #[u0, u1, u2, u3, u4, u5, u6, u7, u8, u9, u10, u11, u12, u13, u14, u15, u16, .pointer (some ⟨b1, 0, none⟩), u18, .pointer (some ⟨b2, 0, none⟩), u20, u21, u22, u23, u24, u25, u26, u27, u28, u29, u30, u31, u32, u33, u34, u35, u36, u37, u38, u39, u40, u41, u42, u43, u44, u45, u46, u47, u48, u49, u50, u51, u52, u53, u54, u55, u56, u57, u58, u59, u60, u61, u62, u63, u64, u65, u66, u67, u68, u69, u70, u71, u72, u73, u74, u75, u76, u77, u78, u79, u80, u81, u82, u83, u84, u85, u86, u87, u88, u89, u90, u91, u92, u93, u94, u95, u96, u97, u98, u99, u100, u101, u102, u103, u104, u105, u106, u107, u108, u109, u110, u111, u112, u113, u114, u115, u116, u117, u118, u119, u120, u121, u122, u123, u124, u125, u126, u127, u128, u129, u130, u131, u132, u133, u134, u135, u136, u137, u138, u139, u140, u141, u142, u143, u144, u145, u146, u147, u148, u149, u150, u151, u152, u153, u154, u155, u156, u157, u158, u159, u160, u161, u162, u163, u164, u165, u166, u167, u168, u169, u170, u171, u172, u173, u174, u175, u176, u177, .pointer (some ⟨b1, 3, none⟩), .slice a1 n c1, u180, .pointer (some ⟨b2, 3, none⟩), .slice a2 n c2, u183, u184, u185, u186, u187, u188, u189, u190, u191, u192], defers := [] } w := fun  w hp => by
    refine wpAnyH_ready (rs := [2]) (by kernel_rfl) (by simp) ?_
    refine AllReadyH.cons (o := { dst := some 180, op := Op.call { callee := Callee.value (Operand.func 24), args := #[Operand.tmp 179, Operand.const (Value.int IntKind.u8 201)], argTypes := #[35, 5] }, type := 35, pos := "law.go:146", after := #[{ on := 1, ground := Ground.data }], guard := none }) rfl (fun KQ hKQ => ?_) ?_
    · rw [if_pos (by rfl)]
      go_simp
      refine (show Calls _ _ _ w (fun e w' => ∃ (g1 : Nat) (q1 : Nat), e = .returned (.slice (some ⟨g1, 0, none⟩) (n + 1 + 1) q1) ∧ (P1 g1 q1 w')) from k1 w hp).mono ?_
      rintro e w' ⟨g1, q1, rfl, hp⟩
      exact hKQ.out _ _ (t1 _ _ _ hp) (fun _ => kst2 g1 q1 w' hp)
    exact AllReadyH.nil
  have hp := h0
  have hww : (fun w : World => w.cell? ⟨b1, 3, none⟩ = some (.slice a1 n c1) ∧ w.cell? ⟨b2, 3, none⟩ = some (.slice a2 n c2)) W.drew := t0 _ hp
  have last := kst W.drew hp
  have z : wpAnyH Tryd.prog .any SB32OPS Q (fun w : World => w.cell? ⟨b1, 3, none⟩ = some (.slice a1 n c1) ∧ w.cell? ⟨b2, 3, none⟩ = some (.slice a2 n c2)) 8 #[false, false, false, false, false, false, false, false] { tmps := #[u0, u1, u2, u3, u4, u5, u6, u7, u8, u9, u10, u11, u12, u13, u14, u15, u16, .pointer (some ⟨b1, 0, none⟩), u18, .pointer (some ⟨b2, 0, none⟩), u20, u21, u22, u23, u24, u25, u26, u27, u28, u29, u30, u31, u32, u33, u34, u35, u36, u37, u38, u39, u40, u41, u42, u43, u44, u45, u46, u47, u48, u49, u50, u51, u52, u53, u54, u55, u56, u57, u58, u59, u60, u61, u62, u63, u64, u65, u66, u67, u68, u69, u70, u71, u72, u73, u74, u75, u76, u77, u78, u79, u80, u81, u82, u83, u84, u85, u86, u87, u88, u89, u90, u91, u92, u93, u94, u95, u96, u97, u98, u99, u100, u101, u102, u103, u104, u105, u106, u107, u108, u109, u110, u111, u112, u113, u114, u115, u116, u117, u118, u119, u120, u121, u122, u123, u124, u125, u126, u127, u128, u129, u130, u131, u132, u133, u134, u135, u136, u137, u138, u139, u140, u141, u142, u143, u144, u145, u146, u147, u148, u149, u150, u151, u152, u153, u154, u155, u156, u157, u158, u159, u160, u161, u162, u163, u164, u165, u166, u167, u168, u169, u170, u171, u172, u173, u174, u175, u176, u177, u178, u179, u180, u181, u182, u183, u184, u185, u186, u187, u188, u189, u190, u191, u192], defers := [] } W.drew := by
    refine wpAnyH_take (i := 0) (oi := { dst := some 178, op := Op.fieldAddr 37 (Operand.tmp 17) 3, type := 0, pos := "law.go:146", after := #[], guard := none }) (v := .pointer (some ⟨b1, 3, none⟩)) rfl (by kernel_rfl) (by kernel_rfl) (by kernel_rfl) (fun _ _ _ h => hQ _ _ _ _ _ h) (Yields.yieldsIf (Or.inl ⟨by rfl, fun W => by go_simp⟩)) hww ?_
    simp only [Act.put, List.setIfInBounds_toArray, List.set_cons_zero, List.set_cons_succ]
    refine wpAnyH_take (i := 1) (oi := { dst := some 179, op := Op.load 35 (Operand.tmp 178), type := 35, pos := "law.go:146", after := #[{ on := 0, ground := Ground.data }], guard := none }) (v := .slice a1 n c1) rfl (by kernel_rfl) (by kernel_rfl) (by kernel_rfl) (fun _ _ _ h => hQ _ _ _ _ _ h) (Or.inl ⟨by rfl, fun w hw => by have hx := hw.1; go_simp⟩) hww ?_
    simp only [Act.put, List.setIfInBounds_toArray, List.set_cons_zero, List.set_cons_succ]
    refine wpAnyH_take (i := 3) (oi := { dst := some 181, op := Op.fieldAddr 37 (Operand.tmp 19) 3, type := 0, pos := "law.go:146", after := #[], guard := none }) (v := .pointer (some ⟨b2, 3, none⟩)) rfl (by kernel_rfl) (by kernel_rfl) (by kernel_rfl) (fun _ _ _ h => hQ _ _ _ _ _ h) (Yields.yieldsIf (Or.inl ⟨by rfl, fun W => by go_simp⟩)) hww ?_
    simp only [Act.put, List.setIfInBounds_toArray, List.set_cons_zero, List.set_cons_succ]
    refine wpAnyH_take (i := 4) (oi := { dst := some 182, op := Op.load 35 (Operand.tmp 181), type := 35, pos := "law.go:146", after := #[{ on := 3, ground := Ground.data }], guard := none }) (v := .slice a2 n c2) rfl (by kernel_rfl) (by kernel_rfl) (by kernel_rfl) (fun _ _ _ h => hQ _ _ _ _ _ h) (Or.inl ⟨by rfl, fun w hw => by have hx := hw.2; go_simp⟩) hww ?_
    simp only [Act.put, List.setIfInBounds_toArray, List.set_cons_zero, List.set_cons_succ]
    exact last
  exact wp_region_held_drew (S := (fun w : World => w.cell? ⟨b1, 3, none⟩ = some (.slice a1 n c1) ∧ w.cell? ⟨b2, 3, none⟩ = some (.slice a2 n c2))) (by kernel_rfl) hww (fun _ => z)
end Go.Proofs.YtmkgldjocigffaaDoor

/- Two lists of numbers that are alike, wherever they lie. -/
namespace Go.Proofs.YtmkgldjocigffaaDoor
open Go.RowKit
set_option maxRecDepth 100000

end Go.Proofs.YtmkgldjocigffaaDoor

/- row, text of the laws of layer 10; are these two proofs alike? -/
namespace Go.Proofs.YtmkgldjocigffaaDoor
open Go.RowKit
set_option maxRecDepth 100000

end Go.Proofs.YtmkgldjocigffaaDoor

/- Two lists of numbers and two lists of hashes of one's own, none in another's block. -/
namespace Go.Proofs.YtmkgldjocigffaaDoor
open Go.RowKit
set_option maxRecDepth 100000

/-- none of four lies in another's block. -/
structure APT (a b x y : Value) : Prop where
  ab : ∀ g, a.ownBlock = some g → b.ownBlock ≠ some g
  ax : ∀ g, a.ownBlock = some g → x.ownBlock ≠ some g
  ay : ∀ g, a.ownBlock = some g → y.ownBlock ≠ some g
  bx : ∀ g, b.ownBlock = some g → x.ownBlock ≠ some g
  byy : ∀ g, b.ownBlock = some g → y.ownBlock ≠ some g
  xy : ∀ g, x.ownBlock = some g → y.ownBlock ≠ some g
theorem off_sym {a b : Value} (h : ∀ g, a.ownBlock = some g → b.ownBlock ≠ some g) : ∀ g, b.ownBlock = some g → a.ownBlock ≠ some g := fun g e1 e2 => h g e2 e1
/-- four lists of one's own; K: their blocks at first. -/
structure MIX (w0 w : World) (B : Nat) (K : Nat → Prop) (a : Value) (na : Nat) (xa : List Value) (b : Value) (nb : Nat) (xb : List Value) (x : Value) (mx : Nat) (xx : List Value) (y : Value) (my : Nat) (xy : List Value) : Prop where
  ra : w.ownsRow B 22 1 a na xa
  rb : w.ownsRow B 22 1 b nb xb
  rx : w.ownsRow B 60 32 x mx xx
  ry : w.ownsRow B 60 32 y my xy
  ap : APT a b x y
  hm : ∀ g, (a.ownBlock = some g ∨ b.ownBlock = some g ∨ x.ownBlock = some g ∨ y.ownBlock = some g) → K g ∨ w0.heap.size ≤ g
  kp : ∀ k, k < w0.heap.size → ¬ K k → w.heap[k]? = w0.heap[k]?
  bl : Below B w0 w
  sz : w0.heap.size ≤ w.heap.size
  bs : B ≤ w0.heap.size
section
variable {w0 w : World} {B : Nat} {K : Nat → Prop} {a : Value} {na : Nat} {xa : List Value} {b : Value} {nb : Nat} {xb : List Value} {x : Value} {mx : Nat} {xx : List Value} {y : Value} {my : Nat} {xy : List Value}
theorem MIX.size (h : MIX w0 w B K a na xa b nb xb x mx xx y my xy) : B ≤ w.heap.size := Nat.le_trans h.bs h.sz
theorem own_off {w w' : World} {B s n : Nat} {t : TypeId} {v : Value} {xs : List Value} {r : Option Nat} (h : w.ownsRow B t s v n xs) (hg : w.grownBy w' r) (ho : ∀ g, r = some g → v.ownBlock ≠ some g) : w'.ownsRow B t s v n xs := own_hold h fun k e => hg.block k (h.lt k e).2 fun e2 => ho k e2.symm e
theorem MIX.alloc (h : MIX w0 w B K a na xa b nb xb x mx xx y my xy) (o : Obj) : MIX w0 (w.alloc o) B K a na xa b nb xb x mx xx y my xy :=
  ⟨own_alloc h.ra o, own_alloc h.rb o, own_alloc h.rx o, own_alloc h.ry o, h.ap, h.hm, fun k hk hK => (Below.heap_alloc w o k (Nat.lt_of_lt_of_le hk h.sz)).trans (h.kp k hk hK), h.bl.alloc h.size o, by have := h.sz; simp; omega, h.bs⟩
theorem MIX.drew (h : MIX w0 w B K a na xa b nb xb x mx xx y my xy) : MIX w0 w.drew B K a na xa b nb xb x mx xx y my xy := ⟨h.ra, h.rb, h.rx, h.ry, h.ap, h.hm, h.kp, h.bl.drew, h.sz, h.bs⟩
/-- a block that is none of the four's. -/
structure OFF (z : Nat) (a b x y : Value) : Prop where
  a : a.ownBlock ≠ some z
  b : b.ownBlock ≠ some z
  x : x.ownBlock ≠ some z
  y : y.ownBlock ≠ some z
end
end Go.Proofs.YtmkgldjocigffaaDoor

/- The regions of apart of the law that draw their order. -/
namespace Go.Proofs.YtmkgldjocigffaaDoor
open Go.RowKit
set_option maxRecDepth 100000

end Go.Proofs.YtmkgldjocigffaaDoor

/- massiflaw10.awake: what two leaves of seven need; the bytes of a proof. -/
namespace Go.Proofs.YtmkgldjocigffaaDoor
open Go.RowKit
set_option maxRecDepth 100000

end Go.Proofs.YtmkgldjocigffaaDoor

/- massiflaw10.numbers: the same numbers in a list of their own that goes on behind them. -/
namespace Go.Proofs.YtmkgldjocigffaaDoor
open Go.RowKit
set_option maxRecDepth 100000

/-- what numbers answers. -/
structure NUMD (w w' : World) (g n cap : Nat) (L : List Nat) : Prop where
  own : w'.ownsRow w.heap.size 22 1 (.slice (some ⟨g, 0, none⟩) n cap) n (UCELLS L)
  room : n + 1 ≤ cap
  mark : w'.cell? ⟨g, n, none⟩ = some (.int .u64 171)
  lt : g < w'.heap.size
  base : w.heap.size ≤ g
  below : Below w.heap.size w w'
end Go.Proofs.YtmkgldjocigffaaDoor

/- apart of the law: two answers, each written over with its own mark and grown, are apart. -/
namespace Go.Proofs.YtmkgldjocigffaaDoor
open Go.RowKit
set_option maxRecDepth 100000

theorem load_mid_if {ops : Array Oper} {rest : List Oper} {o : Oper} {a : Act} {w : World} {Q : Exit → Act → World → Prop} (hw : Region.wanted o (yielded ops a.tmps) = true) (ty : TypeId) (x : Operand) (ho : o.op = .load ty x)
    (b off : Nat) (hx : a.eval x = .pointer (some ⟨b, off, none⟩)) (cs : List Value) (d : TypeDesc) (hc : w.rangeAt b off cs) (hu : Tryd.prog.underlying ty = some d) (hd : d.isRow = true) (hi : (Tryd.prog.info? ty).map (·.size) = some cs.length)
    (h : wpList Tryd.prog ops Q rest (a.put o.dst (.agg cs.toArray)) w) : wpList Tryd.prog ops Q (o :: rest) a w := by
  simp only [wpList]
  rw [if_pos hw]
  exact .inl (wp_load_mid ty x ho b off hx cs d hc hu hd hi h)
theorem plain_if {ops : Array Oper} {rest : List Oper} {o : Oper} {a : Act} {w w' : World} {Q : Exit → Act → World → Prop} {v : Value} (hw : Region.wanted o (yielded ops a.tmps) = true) (hrun : (execOp a.eval o).run Tryd.prog w = .ok (.value v) w') (h : wpList Tryd.prog ops Q rest (a.put o.dst v) w') : wpList Tryd.prog ops Q (o :: rest) a w := by
  simp only [wpList]
  rw [if_pos hw]
  refine .inl ?_
  unfold Oper.wp
  rw [hrun]
  exact h
end Go.Proofs.YtmkgldjocigffaaDoor

/- Are hashes, are bytes that were handed in as they were? -/
namespace Go.Proofs.YtmkgldjocigffaaDoor
open Go.RowKit
set_option maxRecDepth 100000

/-- two lists of bytes of one's own, neither in the other's block. -/
structure BPAIR (w0 w : World) (B : Nat) (a : Value) (na : Nat) (xa : List Value) (b : Value) (nb : Nat) (xb : List Value) : Prop where
  ra : w.ownsRow B 5 1 a na xa
  rb : w.ownsRow B 5 1 b nb xb
  ap : ∀ g, a.ownBlock = some g → b.ownBlock ≠ some g
  bl : Below B w0 w
  bs : B ≤ w0.heap.size
theorem BPAIR.swap {w0 w : World} {B : Nat} {a : Value} {na : Nat} {xa : List Value} {b : Value} {nb : Nat} {xb : List Value} (h : BPAIR w0 w B a na xa b nb xb) : BPAIR w0 w B b nb xb a na xa := ⟨h.rb, h.ra, off_sym h.ap, h.bl, h.bs⟩
theorem BPAIR.step {w0 w w' : World} {B : Nat} {a : Value} {na : Nat} {xa : List Value} {b : Value} {nb : Nat} {xb : List Value} (h : BPAIR w0 w B a na xa b nb xb) {a' : Value} {na' : Nat} {xa' : List Value} (hown : w'.ownsRow B 5 1 a' na' xa') (hg : w.grownBy w' a.ownBlock) (hat : ∀ g, a'.ownBlock = some g → a.ownBlock = some g ∨ w.heap.size ≤ g) : BPAIR w0 w' B a' na' xa' b nb xb := by
  refine ⟨hown, own_off h.rb hg h.ap, fun g e1 e2 => ?_, h.bl.grown hg (Nat.le_trans h.bs h.bl.size) (fun k e => (h.ra.lt k e).1), h.bs⟩
  rcases hat g e1 with h1 | h1
  · exact h.ap g h1 e2
  · have := (h.rb.lt g e2).2
    omega
theorem BPAIR.alloc {w0 w : World} {B : Nat} {a : Value} {na : Nat} {xa : List Value} {b : Value} {nb : Nat} {xb : List Value} (h : BPAIR w0 w B a na xa b nb xb) (o : Obj) : BPAIR w0 (w.alloc o) B a na xa b nb xb := ⟨own_alloc h.ra o, own_alloc h.rb o, h.ap, h.bl.alloc (Nat.le_trans h.bs h.bl.size) o, h.bs⟩
end Go.Proofs.YtmkgldjocigffaaDoor
