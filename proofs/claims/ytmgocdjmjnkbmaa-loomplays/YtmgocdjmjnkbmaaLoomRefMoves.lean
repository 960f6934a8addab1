/- The document's moves. -/
import Derived.Test.YtmgocdjmjnkbmaaLoomRefState
namespace Go.Proofs.Ytmgocdjmjnkbmaa
open Go.RowKit
set_option maxRecDepth 100000

structure RMADE (w0 w : World) (v : Value) (B r bw cw : Nat) (vq vg : Value) (R : RR) (l : List MV) : Prop where
  own : w.ownsRow w0.heap.size 42 3 v l.length (MCELLS l)
  below : Below w0.heap.size w0 w
  loom : RLOOM w B r bw cw vq vg R
theorem RMADE.on {w0 w w' : World} {v : Value} {B r bw cw : Nat} {vq vg : Value} {R : RR} {l : List MV} (h : RMADE w0 w v B r bw cw vq vg R l) (hb : Below w.heap.size w w') : RMADE w0 w' v B r bw cw vq vg R l :=
  ⟨own_turn h.own (fun k e => hb.block k (own_lt h.own e).2), h.below.trans (hb.mono h.below.size), h.loom.below hb⟩
theorem rmade_app {ops : Array Oper} {rest : List Oper} {o : Oper} {a : Act} {Q : Exit → Act → World → Prop} {w0 w : World} {v : Value} {B r bw cw : Nat} {vq vg : Value} {R : RR} {l : List MV} (h0 : RLOOM w0 B r bw cw vq vg R) (h : RMADE w0 w v B r bw cw vq vg R l) (hl : l.length ≤ 1000) (hgd : o.guard = none) (p x : Operand)
    (ho : o.op = .call { callee := .builtin .append, args := #[p, x], argTypes := #[39, 39] }) (m : MV) (hs : a.eval p = v)
    (hx : a.eval x = .slice (some ⟨w.heap.size, 0, none⟩) 1 1)
    (hh : ∀ v' w', Aside (RMADE w0 w' v' B r bw cw vq vg R (l ++ [m])) → wpList Try.prog ops Q rest (a.put o.dst v') w') : wpList Try.prog ops Q (o :: rest) a (w.alloc (.cells #[.int .i64 (m.1 : Int), .int .i64 m.2.1, .int .i64 (m.2.2 : Int)] 42)) := by
  refine app_mv w w hgd p x ho w0.heap.size v v l m hs ⟨h.own, GREW.refl _ _⟩ hx (by omega) h.below.size ?_
  intro g' cap w' Rr
  have hb : Below w0.heap.size w w' := Rr.out.2.tobelow h.below.size (fun k e => (own_lt h.own e).1)
  have hb0 := h.below.trans hb
  exact hh _ w' ⟨Rr.out.1, hb0, h0.below hb0⟩
/-- who gives, by index. -/
def GF (s : LM) (i : Nat) : Option MV := if s.ws i = 0 then (OFFERED s).map (fun j => (2, (i : Int), j)) else none
theorem MV2_pk (s : LM) : MV2 s = PK (GF s) s.W := by
  unfold MV2
  cases h : OFFERED s with
  | some j =>
    show PK _ _ = _
    congr 1
    funext i
    unfold GF
    rw [h]
    rfl
  | none =>
    show [] = _
    symm
    unfold PK
    rw [List.filterMap_eq_nil_iff]
    intro i _
    unfold GF
    rw [h]
    split <;> rfl
def LF (s : LM) (i : Nat) : Option MV := if s.ws i = 0 ∧ s.fd = 1 ∧ s.held = 0 then some (4, (i : Int), 0) else none
theorem MV4_pk (s : LM) : MV4 s = PK (LF s) s.W := by
  unfold MV4
  by_cases h : s.fd = 1 ∧ s.held = 0
  · rw [if_pos h]
    show PK _ _ = _
    congr 1
    funext i
    unfold LF
    by_cases e : s.ws i = 0
    · rw [if_pos e, if_pos ⟨e, h.1, h.2⟩]
    · rw [if_neg e, if_neg (fun x => e x.1)]
  · rw [if_neg h]
    symm
    unfold PK
    rw [List.filterMap_eq_nil_iff]
    intro i _
    unfold LF
    rw [if_neg (fun x => h x.2)]
def AF (s : LM) (i : Nat) : Option MV := if 2 ≤ s.ws i ∧ s.col ≠ 1 then some (5, (i : Int), s.ws i - 2) else none
theorem MV5_pk (s : LM) : MV5 s = PK (AF s) s.W := by
  unfold MV5
  by_cases h : s.col = 1
  · rw [if_pos h]
    symm
    unfold PK
    rw [List.filterMap_eq_nil_iff]
    intro i _
    unfold AF
    rw [if_neg (fun x => x.2 h)]
  · rw [if_neg h]
    show PK _ _ = _
    congr 1
    funext i
    unfold AF
    by_cases e : 2 ≤ s.ws i
    · rw [if_pos e, if_pos ⟨e, h⟩]
    · rw [if_neg e, if_neg (fun x => e x.1)]
def WF (s : LM) (i : Nat) : Option MV := if s.ws i = 1 then none else some (6, (i : Int), 0)
/-- what the walk is told of a worker. -/
theorem worker_cases {x : Nat} {j : Int} {g : Bool} (h : WREL x j g) : (x = 1 ∧ g = true) ∨ (x = 0 ∧ g = false ∧ j = -1) ∨ (2 ≤ x ∧ g = false ∧ j = ((x - 2 : Nat) : Int)) := h
set_option maxHeartbeats 8000000 in
theorem rmoves_ok {w : World} {B r bw cw : Nat} {vq vg : Value} {R : RR} {s : LM} (h : RLOOM w B r bw cw vq vg R) (hr : REL s R) (hi : INV s) (hW : s.W ≤ 64) : Calls Try.prog 20 #[.pointer (some ⟨r, 0, none⟩)] w fun e w' => ∃ v', e = .returned v' ∧ w'.ownsRow w.heap.size 42 3 v' (MVS s).length (MCELLS (MVS s)) ∧ Below w.heap.size w w' := by
  have H0 : Aside (RLOOM w B r bw cw vq vg R ∧ REL s R ∧ INV s ∧ s.W ≤ 64) := ⟨h, hr, hi, hW⟩
  obtain ⟨qa, qc, hqv, _⟩ := own_slice h.oq
  have x0 : ∀ w', Below w.heap.size w w' → w'.cell? ⟨r, 0, none⟩ = some (.int .i64 (s.jobs : Int)) := fun w' hb => by have : w'.cell? ⟨r, 0, none⟩ = some (.int .i64 (R.jobs : Int)) := (h.below hb).row.cell 0; rw [hr.jobs] at this; exact this
  have x1 : ∀ w', Below w.heap.size w w' → w'.cell? ⟨r, 1, none⟩ = some (.int .i64 (s.room : Int)) := fun w' hb => by have : w'.cell? ⟨r, 1, none⟩ = some (.int .i64 (R.room : Int)) := (h.below hb).row.cell 1; rw [hr.room] at this; exact this
  have x2 : ∀ w', Below w.heap.size w w' → w'.cell? ⟨r, 2, none⟩ = some (.int .i64 ((s.first + s.held : Nat) : Int)) := fun w' hb => by have : w'.cell? ⟨r, 2, none⟩ = some (.int .i64 (R.next : Int)) := (h.below hb).row.cell 2; rw [hr.next] at this; exact this
  have x3 : ∀ w', Below w.heap.size w w' → w'.cell? ⟨r, 3, none⟩ = some (.bool (decide (s.fd = 1))) := fun w' hb => by have : w'.cell? ⟨r, 3, none⟩ = some (.bool R.fg) := (h.below hb).row.cell 3; rw [hr.fg] at this; exact this
  have x4 : ∀ w', Below w.heap.size w w' → w'.cell? ⟨r, 4, none⟩ = some (.slice qa s.held qc) := fun w' hb => by have : w'.cell? ⟨r, 4, none⟩ = some vq := (h.below hb).row.cell 4; rw [hqv, hr.qs, QL_length] at this; exact this
  have x5 : ∀ w', Below w.heap.size w w' → w'.cell? ⟨r, 5, none⟩ = some (.bool (decide (s.fd = 1))) := fun w' hb => by have : w'.cell? ⟨r, 5, none⟩ = some (.bool R.sh) := (h.below hb).row.cell 5; rw [hr.sh] at this; exact this
  have x6 : ∀ w', Below w.heap.size w w' → w'.cell? ⟨r, 6, none⟩ = some (.slice (some ⟨bw, 0, none⟩) s.W cw) := fun w' hb => by have : w'.cell? ⟨r, 6, none⟩ = some (.slice (some ⟨bw, 0, none⟩) R.W cw) := (h.below hb).row.cell 6; rw [hr.W] at this; exact this
  have x7 : ∀ w', Below w.heap.size w w' → w'.cell? ⟨r, 7, none⟩ = some (.bool (decide (s.col = 1))) := fun w' hb => by have : w'.cell? ⟨r, 7, none⟩ = some (.bool R.dn) := (h.below hb).row.cell 7; rw [hr.dn] at this; exact this
  have x10 : ∀ w', Below w.heap.size w w' → w'.cell? ⟨r, 10, none⟩ = some (.bool s.canc) := fun w' hb => by have : w'.cell? ⟨r, 10, none⟩ = some (.bool R.canc) := (h.below hb).row.cell 10; rw [hr.canc] at this; exact this
  have yj : ∀ w', Below w.heap.size w w' → ∀ i, i < s.W → w'.cell? ⟨bw, i * 2, none⟩ = some (.int .i64 (R.jb i)) := fun w' hb i hi => (h.below hb).jb i (by rw [hr.W]; exact hi)
  have yg : ∀ w', Below w.heap.size w w' → ∀ i, i < s.W → w'.cell? ⟨bw, i * 2 + 1, none⟩ = some (.bool (R.gn i)) := fun w' hb i hi => (h.below hb).gn i (by rw [hr.W]; exact hi)
  have xq : 0 < s.held → ∃ bq, qa = some ⟨bq, 0, none⟩ ∧ ∀ w', Below w.heap.size w w' → w'.cell? ⟨bq, 0, none⟩ = some (.int .i64 (s.first : Int)) := fun hh => by
    have ho := h.oq
    rw [hqv, hr.qs, QL_length] at ho
    rcases ho.2 with ⟨e, h0⟩ | ⟨bq, c', cur, e, hb, hg, rr⟩
    · omega
    · cases e
      have hbq : bq < w.heap.size := (Array.getElem?_eq_some_iff.1 hg).1
      refine ⟨bq, rfl, fun w' hb' => (hb'.cell (p := ⟨bq, 0, none⟩) hbq).trans ?_⟩
      rw [ho.cellAt 0 (by omega)]
      obtain ⟨h', e'⟩ : ∃ h', s.held = h' + 1 := ⟨s.held - 1, by omega⟩
      rw [e', QL_tail]
      rfl
  have HX : Aside ((∀ w', Below w.heap.size w w' → w'.cell? ⟨r, 0, none⟩ = some (.int .i64 (s.jobs : Int))) ∧ (∀ w', Below w.heap.size w w' → w'.cell? ⟨r, 1, none⟩ = some (.int .i64 (s.room : Int))) ∧ (∀ w', Below w.heap.size w w' → w'.cell? ⟨r, 2, none⟩ = some (.int .i64 ((s.first + s.held : Nat) : Int))) ∧ (∀ w', Below w.heap.size w w' → w'.cell? ⟨r, 3, none⟩ = some (.bool (decide (s.fd = 1)))) ∧ (∀ w', Below w.heap.size w w' → w'.cell? ⟨r, 4, none⟩ = some (.slice qa s.held qc)) ∧ (∀ w', Below w.heap.size w w' → w'.cell? ⟨r, 5, none⟩ = some (.bool (decide (s.fd = 1)))) ∧ (∀ w', Below w.heap.size w w' → w'.cell? ⟨r, 6, none⟩ = some (.slice (some ⟨bw, 0, none⟩) s.W cw)) ∧ (∀ w', Below w.heap.size w w' → w'.cell? ⟨r, 7, none⟩ = some (.bool (decide (s.col = 1)))) ∧ (∀ w', Below w.heap.size w w' → w'.cell? ⟨r, 10, none⟩ = some (.bool s.canc)) ∧ (∀ w', Below w.heap.size w w' → ∀ i, i < s.W → w'.cell? ⟨bw, i * 2, none⟩ = some (.int .i64 (R.jb i))) ∧ (∀ w', Below w.heap.size w w' → ∀ i, i < s.W → w'.cell? ⟨bw, i * 2 + 1, none⟩ = some (.bool (R.gn i))) ∧ (0 < s.held → ∃ bq, qa = some ⟨bq, 0, none⟩ ∧ ∀ w', Below w.heap.size w w' → w'.cell? ⟨bq, 0, none⟩ = some (.int .i64 (s.first : Int)))) := ⟨x0, x1, x2, x3, x4, x5, x6, x7, x10, yj, yg, xq⟩
  have hfd : (2 ≤ s.fd ∧ s.fd = s.first + s.held + 2 ∧ s.first + s.held < s.jobs) ∨ (s.fd = 0 ∧ s.first + s.held = s.jobs) ∨ s.fd = 1 := by
    rcases (by omega : 2 ≤ s.fd ∨ s.fd = 0 ∨ s.fd = 1) with e | e | e
    · exact .inl ⟨e, hi.next e⟩
    · exact .inr (.inl ⟨e, hi.nomore e⟩)
    · exact .inr (.inr e)
  have HF : Aside ((2 ≤ s.fd ∧ s.fd = s.first + s.held + 2 ∧ s.first + s.held < s.jobs) ∨ (s.fd = 0 ∧ s.first + s.held = s.jobs) ∨ s.fd = 1) := hfd
  clear h hr hi hW hqv x0 x1 x2 x3 x4 x5 x6 x7 x10 yj yg xq hfd
  go_enter Try.func20, Try.ntmps20
  go_upto_region 2 with fail
  go_cut [4] from 9 to 24 (fun s4 W => s4 = .bool (decide (2 ≤ s.fd)) ∧ Aside (Below w.heap.size w W))
  case first =>
    as_aux_lemma =>
      have x0 := HX.out.1 w (Below.refl _ _)
      have x2 := HX.out.2.2.1 w (Below.refl _ _)
      have x3 := HX.out.2.2.2.1 w (Below.refl _ _)
      rcases HF.out with ⟨h1, h2, h3⟩ | ⟨h1, h2⟩ | h1
      · rw [decide_eq_false (by omega)] at x3
        have hd : ((s.first + s.held : Nat) : Int) < (s.jobs : Int) := by omega
        have HD : Aside (decide (2 ≤ s.fd) = true) := decide_eq_true h1
        generalize ((s.first + s.held : Nat) : Int) = N at *
        generalize (s.jobs : Int) = JJ at *
        clear h1 h2 h3
        go_quiet (fail)
        all_goals
          go_wp2
          go_meet
          case rel => exact ⟨by rw [HD.out], rfl, rfl, rfl, Nat.le_refl _, fun _ _ => rfl⟩
      · rw [decide_eq_false (by omega)] at x3
        have hd : ¬ ((s.first + s.held : Nat) : Int) < (s.jobs : Int) := by omega
        have HD : Aside (decide (2 ≤ s.fd) = false) := decide_eq_false (by omega)
        generalize ((s.first + s.held : Nat) : Int) = N at *
        generalize (s.jobs : Int) = JJ at *
        clear h1 h2
        go_quiet (fail)
        all_goals
          go_wp2
          go_meet
          case rel => exact ⟨by rw [HD.out], rfl, rfl, rfl, Nat.le_refl _, fun _ _ => rfl⟩
      · rw [decide_eq_true h1] at x3
        have HD : Aside (decide (2 ≤ s.fd) = false) := decide_eq_false (by omega)
        clear h1
        go_quiet (fail)
        all_goals
          go_wp2
          go_meet
          case rel => exact ⟨by rw [HD.out], rfl, rfl, rfl, Nat.le_refl _, fun _ _ => rfl⟩
  case rest =>
    obtain ⟨rfl, hb⟩ := hcut
    have M0 : Aside (RMADE w wc (.slice none 0 0) B r bw cw vq vg R ([])) := ⟨World.ownsRow_nil _ _ _ _, hb.out, H0.out.1.below hb.out⟩
    clear hb
    go_upto_region 3 with fail
    go_cut [4, 37] from 25 to 37 (fun s4 s37 W => s4 = .bool (decide (2 ≤ s.fd)) ∧ s37 = .bool (decide (2 ≤ s.fd ∧ s.held < s.room)) ∧ Aside (RMADE w W (.slice none 0 0) B r bw cw vq vg R ([])))
    case first =>
      as_aux_lemma =>
        have x1 := HX.out.2.1 wc M0.out.below
        have x4 := HX.out.2.2.2.2.1 wc M0.out.below
        by_cases hf : 2 ≤ s.fd
        · rw [decide_eq_true hf]
          have hE : Aside (decide (2 ≤ s.fd) = true) := decide_eq_true hf
          by_cases hh : s.held < s.room
          · have h2 : (s.held : Int) < (s.room : Int) := by omega
            have hD : Aside (decide (2 ≤ s.fd ∧ s.held < s.room) = true) := decide_eq_true ⟨hf, hh⟩
            generalize s.held = HH at *
            generalize (s.room : Int) = RM at *
            clear hf hh
            go_quiet (fail)
            all_goals
              go_wp2
              go_meet
              case rel => exact ⟨by rw [hE.out], by rw [hD.out], M0.out.on ⟨rfl, rfl, rfl, Nat.le_refl _, fun _ _ => rfl⟩⟩
          · have h2 : ¬ (s.held : Int) < (s.room : Int) := by omega
            have hD : Aside (decide (2 ≤ s.fd ∧ s.held < s.room) = false) := decide_eq_false (fun e => hh e.2)
            generalize s.held = HH at *
            generalize (s.room : Int) = RM at *
            clear hf hh
            go_quiet (fail)
            all_goals
              go_wp2
              go_meet
              case rel => exact ⟨by rw [hE.out], by rw [hD.out], M0.out.on ⟨rfl, rfl, rfl, Nat.le_refl _, fun _ _ => rfl⟩⟩
        · rw [decide_eq_false hf]
          have hE : Aside (decide (2 ≤ s.fd) = false) := decide_eq_false hf
          have hD : Aside (decide (2 ≤ s.fd ∧ s.held < s.room) = false) := decide_eq_false (fun e => hf e.1)
          clear hf
          go_quiet (fail)
          all_goals
            go_wp2
            go_meet
            case rel => exact ⟨by rw [hE.out], by rw [hD.out], M0.out.on ⟨rfl, rfl, rfl, Nat.le_refl _, fun _ _ => rfl⟩⟩
    case rest =>
      obtain ⟨rfl, rfl, hc⟩ := hcut
      have M1 : Aside (RMADE w wc (.slice none 0 0) B r bw cw vq vg R ([])) := hc
      clear hc M0
      go_upto_if 37 with fail
      go_cut [3] from 37 to 45 (fun s3 W => Aside (RMADE w W s3 B r bw cw vq vg R (MV1 s)))
      case first =>
        as_aux_lemma =>
          by_cases hP : 2 ≤ s.fd ∧ s.held < s.room
          · have x2 := HX.out.2.2.1 wc M1.out.below
            have hn : s.first + s.held = s.fd - 2 := by rcases HF.out with h | h | h <;> omega
            rw [hn] at x2
            have hM : Aside (MV1 s = [(1, 0, s.fd - 2)]) := if_pos hP
            rw [decide_eq_true hP]
            generalize s.fd - 2 = jj at *
            clear hP hn
            go_wp2_with (at_builtin; refine rmade_app H0.out.1 M1.out (by simp) rfl (.tmp 38) (.tmp 44) rfl (1, 0, jj) rfl rfl ?_; intro v1 w1 M2)
            go_meet
            case rel => rw [hM.out]; exact M2
          · have hM : Aside (MV1 s = []) := if_neg hP
            rw [decide_eq_false hP]
            clear hP
            go_wp2
            go_meet
            case rel => rw [hM.out]; exact M1
      case rest =>
        have M2 : Aside (RMADE w wc u3 B r bw cw vq vg R (MV1 s)) := hcut
        have L2 : Aside ((MV1 s).length ≤ 300) := by have := MV1_length s; show _ ≤ _; omega
        clear hcut M1
        go_upto_block 0 with fail
        go_cut [3] from 46 to 114 (fun s3 W => Aside (RMADE w W s3 B r bw cw vq vg R (MV1 s ++ PK (GF s) s.W)))
        case first =>
          as_aux_lemma =>
            have hn64 := H0.out.2.2.2
            go_wp2_with fail
            go_loopg [3, 5] s.W (fun k s3 sv wx => ∃ i : Nat, i + k = s.W ∧ sv = .int .i64 (i : Int) ∧ Aside (RMADE w wx s3 B r bw cw vq vg R (MV1 s ++ PK (GF s) i)))
            case atStart => exact ⟨0, by omega, rfl, by rw [PK_zero, List.append_nil]; exact M2⟩
            case round =>
              obtain ⟨i, hi, rfl, A⟩ := hrel
              have x6 := HX.out.2.2.2.2.2.2.1 wr A.out.below
              cases gk with
              | zero =>
                obtain rfl : i = s.W := by omega
                go_wp2
                go_meet
                case rel => exact A
              | succ k =>
                have hlt : (i : Int) < (s.W : Int) := by omega
                have his : i < s.W := by omega
                have y0 := HX.out.2.2.2.2.2.2.2.2.2.1 wr A.out.below i his
                have y1 := HX.out.2.2.2.2.2.2.2.2.2.2.1 wr A.out.below i his
                have hLN : Aside ((MV1 s ++ PK (GF s) i).length ≤ 1000) := by
                  have := L2.out
                  have := PK_length (GF s) i
                  show _ ≤ _
                  rw [List.length_append]
                  omega
                have hwr := H0.out.2.1.ws i his
                have HI : Aside (i + (k + 1) = s.W) := hi
                generalize s.W = nn at *
                clear hi his
                rcases worker_cases hwr with ⟨q1, q2⟩ | ⟨q1, q2, q3⟩ | ⟨q1, q2, q3⟩
                · rw [q2] at y1
                  have hR : Aside (PK (GF s) (i + 1) = PK (GF s) i) := by
                    show _ = _
                    rw [PK_succ]
                    unfold GF
                    rw [if_neg (by omega)]
                    exact List.append_nil _
                  generalize R.jb i = JJ at *
                  clear q1 q2 hwr
                  go_wp2
                  go_roundg k
                  case measure => omega
                  case rel => exact ⟨i + 1, by have := HI.out; omega, rfl, by rw [hR.out]; exact A⟩
                · rw [q2] at y1
                  rw [q3] at y0
                  have x1 := HX.out.2.1 wr A.out.below
                  by_cases hr0 : s.room = 0
                  · rw [hr0] at x1
                    have HR0 : Aside (s.room = 0) := hr0
                    by_cases hf : 2 ≤ s.fd
                    · have x2 := HX.out.2.2.1 wr A.out.below
                      have hn : s.first + s.held = s.fd - 2 := by rcases HF.out with h | h | h <;> omega
                      rw [hn] at x2
                      have ho : OFFERED s = some (s.fd - 2) := by unfold OFFERED; rw [if_pos hr0, if_pos hf]
                      have hR : Aside (PK (GF s) (i + 1) = PK (GF s) i ++ [(2, (i : Int), s.fd - 2)]) := by
                        show _ = _
                        rw [PK_succ]
                        unfold GF
                        rw [if_pos q1, ho]
                        rfl
                      rw [decide_eq_true hf] at *
                      generalize s.fd - 2 = jj at *
                      clear q1 q2 q3 hwr hn ho hf hr0
                      go_wp2_with (at_builtin; refine rmade_app H0.out.1 A.out hLN.out rfl (.tmp 82) (.tmp 89) rfl (2, (i : Int), jj) rfl rfl ?_; intro v1 w1 M9; have x1b := HX.out.2.1 w1 M9.out.below; rw [HR0.out] at x1b)
                      go_roundg k
                      case measure => omega
                      case rel => exact ⟨i + 1, by have := HI.out; omega, rfl, by rw [hR.out, ← List.append_assoc]; exact M9⟩
                    · have ho : OFFERED s = none := by unfold OFFERED; rw [if_pos hr0, if_neg hf]
                      have hR : Aside (PK (GF s) (i + 1) = PK (GF s) i) := by
                        show _ = _
                        rw [PK_succ]
                        unfold GF
                        rw [if_pos q1, ho]
                        exact List.append_nil _
                      rw [decide_eq_false hf] at *
                      clear q1 q2 q3 hwr ho hf hr0
                      go_wp2
                      go_roundg k
                      case measure => omega
                      case rel => exact ⟨i + 1, by have := HI.out; omega, rfl, by rw [hR.out]; exact A⟩
                  · have hr1 : ((s.room : Int) == 0) = false := by rw [beq_eq_false_iff_ne]; omega
                    have hr2 : ¬ (s.room : Int) = 0 := by omega
                    have hr3 : (0 : Int) < (s.room : Int) := by omega
                    have x4 := HX.out.2.2.2.2.1 wr A.out.below
                    by_cases hh : 0 < s.held
                    · obtain ⟨bq, hqa, hqc⟩ := HX.out.2.2.2.2.2.2.2.2.2.2.2 hh
                      have x8 := hqc wr A.out.below
                      rw [hqa] at x4
                      have hh1 : (0 : Int) < (s.held : Int) := by omega
                      have ho : OFFERED s = some s.first := by unfold OFFERED; rw [if_neg hr0, if_pos hh]
                      have hR : Aside (PK (GF s) (i + 1) = PK (GF s) i ++ [(2, (i : Int), s.first)]) := by
                        show _ = _
                        rw [PK_succ]
                        unfold GF
                        rw [if_pos q1, ho]
                        rfl
                      generalize s.first = jj at *
                      generalize s.held = hh2 at *
                      generalize (s.room : Int) = rm2 at *
                      clear q1 q2 q3 hwr ho hr0 hqa hqc hh
                      go_wp2_with (at_builtin; refine rmade_app H0.out.1 A.out hLN.out rfl (.tmp 104) (.tmp 113) rfl (2, (i : Int), jj) rfl rfl ?_; intro v1 w1 M9)
                      go_roundg k
                      case measure => omega
                      case rel => exact ⟨i + 1, by have := HI.out; omega, rfl, by rw [hR.out, ← List.append_assoc]; exact M9⟩
                    · have hh1 : ¬ (0 : Int) < (s.held : Int) := by omega
                      have ho : OFFERED s = none := by unfold OFFERED; rw [if_neg hr0, if_neg hh]
                      have hR : Aside (PK (GF s) (i + 1) = PK (GF s) i) := by
                        show _ = _
                        rw [PK_succ]
                        unfold GF
                        rw [if_pos q1, ho]
                        exact List.append_nil _
                      generalize s.held = hh2 at *
                      generalize (s.room : Int) = rm2 at *
                      clear q1 q2 q3 hwr ho hr0 hh
                      go_wp2
                      go_roundg k
                      case measure => omega
                      case rel => exact ⟨i + 1, by have := HI.out; omega, rfl, by rw [hR.out]; exact A⟩
                · rw [q2] at y1
                  rw [q3] at y0
                  have hge : (0 : Int) ≤ ((s.ws i - 2 : Nat) : Int) := by omega
                  have hR : Aside (PK (GF s) (i + 1) = PK (GF s) i) := by
                    show _ = _
                    rw [PK_succ]
                    unfold GF
                    rw [if_neg (by omega)]
                    exact List.append_nil _
                  generalize ((s.ws i - 2 : Nat) : Int) = JJ at *
                  clear q1 q2 q3 hwr
                  go_wp2
                  go_roundg k
                  case measure => omega
                  case rel => exact ⟨i + 1, by have := HI.out; omega, rfl, by rw [hR.out]; exact A⟩
        case rest =>
          have M3 : Aside (RMADE w wc u3 B r bw cw vq vg R (MV1 s ++ MV2 s)) := by rw [MV2_pk]; exact hcut
          have L3 : Aside ((MV1 s ++ MV2 s).length ≤ 300) := by have := MV1_length s; have := MV2_length s; have := H0.out.2.2.2; show _ ≤ _; rw [List.length_append]; omega
          clear hcut M2 L2
          go_upto_region 13 with fail
          go_cut [130] from 115 to 130 (fun s130 W => s130 = .bool (decide (s.fd = 0)) ∧ Aside (RMADE w W u3 B r bw cw vq vg R (MV1 s ++ MV2 s)))
          case first =>
            as_aux_lemma =>
              have x0 := HX.out.1 wc M3.out.below
              have x2 := HX.out.2.2.1 wc M3.out.below
              have x3 := HX.out.2.2.2.1 wc M3.out.below
              rcases HF.out with ⟨h1, h2, h3⟩ | ⟨h1, h2⟩ | h1
              · rw [decide_eq_false (by omega)] at x3
                have hd : (((s.first + s.held : Nat) : Int) == (s.jobs : Int)) = false := by rw [beq_eq_false_iff_ne]; omega
                have HD : Aside (decide (s.fd = 0) = false) := decide_eq_false (by omega)
                generalize ((s.first + s.held : Nat) : Int) = N at *
                generalize (s.jobs : Int) = JJ at *
                clear h1 h2 h3
                go_quiet (fail)
                all_goals
                  go_wp2
                  go_meet
                  case rel => exact ⟨by first | rw [HD.out] | rw [HD.out, hd], M3.out.on ⟨rfl, rfl, rfl, Nat.le_refl _, fun _ _ => rfl⟩⟩
              · rw [decide_eq_false (by omega)] at x3
                rw [h2] at x2
                have HD : Aside (decide (s.fd = 0) = true) := decide_eq_true h1
                generalize (s.jobs : Int) = JJ at *
                have hd : (JJ == JJ) = true := by simp
                clear h1 h2
                go_quiet (fail)
                all_goals
                  go_wp2
                  go_meet
                  case rel => exact ⟨by first | rw [HD.out] | rw [HD.out, hd], M3.out.on ⟨rfl, rfl, rfl, Nat.le_refl _, fun _ _ => rfl⟩⟩
              · rw [decide_eq_true h1] at x3
                have HD : Aside (decide (s.fd = 0) = false) := decide_eq_false (by omega)
                clear h1
                go_quiet (fail)
                all_goals
                  go_wp2
                  go_meet
                  case rel => exact ⟨by rw [HD.out], M3.out.on ⟨rfl, rfl, rfl, Nat.le_refl _, fun _ _ => rfl⟩⟩
          case rest =>
            obtain ⟨rfl, hc⟩ := hcut
            have M4 : Aside (RMADE w wc u3 B r bw cw vq vg R (MV1 s ++ MV2 s)) := hc
            clear hc M3
            go_upto_if 130 with fail
            go_cut [3] from 130 to 134 (fun s3 W => Aside (RMADE w W s3 B r bw cw vq vg R (MV1 s ++ MV2 s ++ MV3 s)))
            case first =>
              as_aux_lemma =>
                by_cases hf : s.fd = 0
                · have hM : Aside (MV3 s = [(3, 0, 0)]) := if_pos hf
                  rw [decide_eq_true hf]
                  clear hf
                  go_wp2_with (at_builtin; refine rmade_app H0.out.1 M4.out (by have := L3.out; omega) rfl (.tmp 131) (.tmp 133) rfl (3, 0, 0) rfl rfl ?_; intro v1 w1 M5)
                  go_meet
                  case rel => rw [hM.out]; exact M5
                · have hM : Aside (MV3 s = []) := if_neg hf
                  rw [decide_eq_false hf]
                  clear hf
                  go_wp2
                  go_meet
                  case rel => rw [hM.out, List.append_nil]; exact M4
            case rest =>
              have M5 : Aside (RMADE w wc u3 B r bw cw vq vg R (MV1 s ++ MV2 s ++ MV3 s)) := hcut
              have L5 : Aside ((MV1 s ++ MV2 s ++ MV3 s).length ≤ 300) := by have := L3.out; have := MV1_length s; have := MV2_length s; have := MV3_length s; have := H0.out.2.2.2; show _ ≤ _; simp only [List.length_append]; omega
              clear hcut M4 L3
              go_upto_block 2 with fail
              go_cut [3] from 135 to 182 (fun s3 W => Aside (RMADE w W s3 B r bw cw vq vg R (MV1 s ++ MV2 s ++ MV3 s ++ PK (LF s) s.W)))
              case first =>
                as_aux_lemma =>
                  have hn64 := H0.out.2.2.2
                  go_wp2_with fail
                  go_loopg [3, 6] s.W (fun k s3 sv wx => ∃ i : Nat, i + k = s.W ∧ sv = .int .i64 (i : Int) ∧ Aside (RMADE w wx s3 B r bw cw vq vg R (MV1 s ++ MV2 s ++ MV3 s ++ PK (LF s) i)))
                  case atStart => exact ⟨0, by omega, rfl, by rw [PK_zero, List.append_nil]; exact M5⟩
                  case round =>
                    obtain ⟨i, hi, rfl, A⟩ := hrel
                    have x6 := HX.out.2.2.2.2.2.2.1 wr A.out.below
                    cases gk with
                    | zero =>
                      obtain rfl : i = s.W := by omega
                      go_wp2
                      go_meet
                      case rel => exact A
                    | succ k =>
                      have hlt : (i : Int) < (s.W : Int) := by omega
                      have his : i < s.W := by omega
                      have y0 := HX.out.2.2.2.2.2.2.2.2.2.1 wr A.out.below i his
                      have y1 := HX.out.2.2.2.2.2.2.2.2.2.2.1 wr A.out.below i his
                      have hLN : Aside ((MV1 s ++ MV2 s ++ MV3 s ++ PK (LF s) i).length ≤ 1000) := by
                        have := L5.out
                        have := PK_length (LF s) i
                        show _ ≤ _
                        rw [List.length_append]
                        omega
                      have hwr := H0.out.2.1.ws i his
                      have HI : Aside (i + (k + 1) = s.W) := hi
                      generalize s.W = nn at *
                      clear hi his
                      have x5 := HX.out.2.2.2.2.2.1 wr A.out.below
                      have x4 := HX.out.2.2.2.2.1 wr A.out.below
                      rcases worker_cases hwr with ⟨q1, q2⟩ | ⟨q1, q2, q3⟩ | ⟨q1, q2, q3⟩
                      · rw [q2] at y1
                        have hR : Aside (PK (LF s) (i + 1) = PK (LF s) i) := by
                          show _ = _
                          rw [PK_succ]
                          unfold LF
                          rw [if_neg (fun e => by have := e.1; omega)]
                          exact List.append_nil _
                        generalize R.jb i = JJ at *
                        clear q1 q2 hwr
                        go_wp2
                        go_roundg k
                        case measure => omega
                        case rel => exact ⟨i + 1, by have := HI.out; omega, rfl, by rw [hR.out]; exact A⟩
                      · rw [q2] at y1
                        rw [q3] at y0
                        by_cases hf : s.fd = 1
                        · rw [decide_eq_true hf] at x5
                          by_cases hh : s.held = 0
                          · rw [hh] at x4
                            have hR : Aside (PK (LF s) (i + 1) = PK (LF s) i ++ [(4, (i : Int), 0)]) := by
                              show _ = _
                              rw [PK_succ]
                              unfold LF
                              rw [if_pos ⟨q1, hf, hh⟩]
                              rfl
                            clear q1 q2 q3 hwr hf hh
                            go_wp2_with (at_builtin; refine rmade_app H0.out.1 A.out hLN.out rfl (.tmp 178) (.tmp 181) rfl (4, (i : Int), 0) rfl rfl ?_; intro v1 w1 M9)
                            go_roundg k
                            case measure => omega
                            case rel => exact ⟨i + 1, by have := HI.out; omega, rfl, by rw [hR.out, ← List.append_assoc]; exact M9⟩
                          · have hh1 : ((s.held : Int) == 0) = false := by rw [beq_eq_false_iff_ne]; omega
                            have hh2 : ¬ (s.held : Int) = 0 := by omega
                            have hR : Aside (PK (LF s) (i + 1) = PK (LF s) i) := by
                              show _ = _
                              rw [PK_succ]
                              unfold LF
                              rw [if_neg (fun e => hh e.2.2)]
                              exact List.append_nil _
                            generalize s.held = hq2 at *
                            clear q1 q2 q3 hwr hf hh
                            go_wp2
                            go_roundg k
                            case measure => omega
                            case rel => exact ⟨i + 1, by have := HI.out; omega, rfl, by rw [hR.out]; exact A⟩
                        · rw [decide_eq_false hf] at x5
                          have hR : Aside (PK (LF s) (i + 1) = PK (LF s) i) := by
                            show _ = _
                            rw [PK_succ]
                            unfold LF
                            rw [if_neg (fun e => hf e.2.1)]
                            exact List.append_nil _
                          clear q1 q2 q3 hwr hf
                          go_wp2
                          go_roundg k
                          case measure => omega
                          case rel => exact ⟨i + 1, by have := HI.out; omega, rfl, by rw [hR.out]; exact A⟩
                      · rw [q2] at y1
                        rw [q3] at y0
                        have hge : ¬ ((s.ws i - 2 : Nat) : Int) < 0 := by omega
                        have hR : Aside (PK (LF s) (i + 1) = PK (LF s) i) := by
                          show _ = _
                          rw [PK_succ]
                          unfold LF
                          rw [if_neg (fun e => by have := e.1; omega)]
                          exact List.append_nil _
                        generalize ((s.ws i - 2 : Nat) : Int) = JJ at *
                        clear q1 q2 q3 hwr
                        go_wp2
                        go_roundg k
                        case measure => omega
                        case rel => exact ⟨i + 1, by have := HI.out; omega, rfl, by rw [hR.out]; exact A⟩
              case rest =>
                have M6 : Aside (RMADE w wc u3 B r bw cw vq vg R (MV1 s ++ MV2 s ++ MV3 s ++ MV4 s)) := by rw [MV4_pk]; exact hcut
                have L6 : Aside ((MV1 s ++ MV2 s ++ MV3 s ++ MV4 s).length ≤ 300) := by have := MV1_length s; have := MV2_length s; have := MV3_length s; have := MV4_length s; have := H0.out.2.2.2; show _ ≤ _; simp only [List.length_append]; omega
                clear hcut M5 L5
                go_upto_block 4 with fail
                go_cut [3] from 183 to 231 (fun s3 W => Aside (RMADE w W s3 B r bw cw vq vg R (MV1 s ++ MV2 s ++ MV3 s ++ MV4 s ++ PK (AF s) s.W)))
                case first =>
                  as_aux_lemma =>
                    have hn64 := H0.out.2.2.2
                    go_wp2_with fail
                    go_loopg [3, 7] s.W (fun k s3 sv wx => ∃ i : Nat, i + k = s.W ∧ sv = .int .i64 (i : Int) ∧ Aside (RMADE w wx s3 B r bw cw vq vg R (MV1 s ++ MV2 s ++ MV3 s ++ MV4 s ++ PK (AF s) i)))
                    case atStart => exact ⟨0, by omega, rfl, by rw [PK_zero, List.append_nil]; exact M6⟩
                    case round =>
                      obtain ⟨i, hi, rfl, A⟩ := hrel
                      have x6 := HX.out.2.2.2.2.2.2.1 wr A.out.below
                      cases gk with
                      | zero =>
                        obtain rfl : i = s.W := by omega
                        go_wp2
                        go_meet
                        case rel => exact A
                      | succ k =>
                        have hlt : (i : Int) < (s.W : Int) := by omega
                        have his : i < s.W := by omega
                        have y0 := HX.out.2.2.2.2.2.2.2.2.2.1 wr A.out.below i his
                        have y1 := HX.out.2.2.2.2.2.2.2.2.2.2.1 wr A.out.below i his
                        have hLN : Aside ((MV1 s ++ MV2 s ++ MV3 s ++ MV4 s ++ PK (AF s) i).length ≤ 1000) := by
                          have := L6.out
                          have := PK_length (AF s) i
                          show _ ≤ _
                          rw [List.length_append]
                          omega
                        have hwr := H0.out.2.1.ws i his
                        have HI : Aside (i + (k + 1) = s.W) := hi
                        generalize s.W = nn at *
                        clear hi his
                        have x7 := HX.out.2.2.2.2.2.2.2.1 wr A.out.below
                        rcases worker_cases hwr with ⟨q1, q2⟩ | ⟨q1, q2, q3⟩ | ⟨q1, q2, q3⟩
                        · rw [q2] at y1
                          have hR : Aside (PK (AF s) (i + 1) = PK (AF s) i) := by
                            show _ = _
                            rw [PK_succ]
                            unfold AF
                            rw [if_neg (fun e => by have := e.1; omega)]
                            exact List.append_nil _
                          generalize R.jb i = JJ at *
                          clear q1 q2 hwr
                          go_wp2
                          go_roundg k
                          case measure => omega
                          case rel => exact ⟨i + 1, by have := HI.out; omega, rfl, by rw [hR.out]; exact A⟩
                        · rw [q2] at y1
                          rw [q3] at y0
                          have hR : Aside (PK (AF s) (i + 1) = PK (AF s) i) := by
                            show _ = _
                            rw [PK_succ]
                            unfold AF
                            rw [if_neg (fun e => by have := e.1; omega)]
                            exact List.append_nil _
                          clear q1 q2 q3 hwr
                          go_wp2
                          go_roundg k
                          case measure => omega
                          case rel => exact ⟨i + 1, by have := HI.out; omega, rfl, by rw [hR.out]; exact A⟩
                        · rw [q2] at y1
                          rw [q3] at y0
                          by_cases hf : s.col = 1
                          · rw [decide_eq_true hf] at x7
                            have hge : (0 : Int) ≤ ((s.ws i - 2 : Nat) : Int) := by omega
                            have hR : Aside (PK (AF s) (i + 1) = PK (AF s) i) := by
                              show _ = _
                              rw [PK_succ]
                              unfold AF
                              rw [if_neg (fun e => e.2 hf)]
                              exact List.append_nil _
                            generalize ((s.ws i - 2 : Nat) : Int) = JJ at *
                            clear q1 q2 q3 hwr hf
                            go_wp2
                            go_roundg k
                            case measure => omega
                            case rel => exact ⟨i + 1, by have := HI.out; omega, rfl, by rw [hR.out]; exact A⟩
                          · rw [decide_eq_false hf] at x7
                            have hge : (0 : Int) ≤ ((s.ws i - 2 : Nat) : Int) := by omega
                            have hR : Aside (PK (AF s) (i + 1) = PK (AF s) i ++ [(5, (i : Int), s.ws i - 2)]) := by
                              show _ = _
                              rw [PK_succ]
                              unfold AF
                              rw [if_pos ⟨q1, hf⟩]
                              rfl
                            generalize s.ws i - 2 = jj at *
                            clear q1 q2 q3 hwr hf
                            go_wp2_with (at_builtin; refine rmade_app H0.out.1 A.out hLN.out rfl (.tmp 219) (.tmp 230) rfl (5, (i : Int), jj) rfl rfl ?_; intro v1 w1 M9)
                            go_roundg k
                            case measure => omega
                            case rel => exact ⟨i + 1, by have := HI.out; omega, rfl, by rw [hR.out, ← List.append_assoc]; exact M9⟩
                case rest =>
                  have M7 : Aside (RMADE w wc u3 B r bw cw vq vg R (MV1 s ++ MV2 s ++ MV3 s ++ MV4 s ++ MV5 s)) := by rw [MV5_pk]; exact hcut
                  have L7 : Aside ((MV1 s ++ MV2 s ++ MV3 s ++ MV4 s ++ MV5 s).length ≤ 300) := by have := MV1_length s; have := MV2_length s; have := MV3_length s; have := MV4_length s; have := MV5_length s; have := H0.out.2.2.2; show _ ≤ _; simp only [List.length_append]; omega
                  clear hcut M6 L6
                  have x10 := HX.out.2.2.2.2.2.2.2.2.1 wc M7.out.below
                  by_cases hc : s.canc = true
                  · rw [hc] at x10
                    have HM : Aside (MVS s = MV1 s ++ MV2 s ++ MV3 s ++ MV4 s ++ MV5 s ++ (if s.fd = 1 then [] else [((6, -2, 0) : MV)]) ++ (if s.col = 1 then [] else [((6, -1, 0) : MV)]) ++ PK (WF s) s.W) := by
                      show _ = _
                      unfold MVS MV6
                      rw [if_pos hc]
                      unfold QTS
                      simp only [List.append_assoc]
                      rfl
                    have HCC : Aside (s.canc = true) := hc
                    clear hc
                    go_upto_region 27 with fail
                    clear x10
                    have x3 := HX.out.2.2.2.1 wc M7.out.below
                    go_upto_if 242 with fail
                    go_cut [3] from 232 to 246 (fun s3 W => Aside (RMADE w W s3 B r bw cw vq vg R (MV1 s ++ MV2 s ++ MV3 s ++ MV4 s ++ MV5 s ++ (if s.fd = 1 then [] else [((6, -2, 0) : MV)]))))
                    case first =>
                      as_aux_lemma =>
                        by_cases hf : s.fd = 1
                        · rw [decide_eq_true hf] at *
                          have hM : Aside ((if s.fd = 1 then [] else [((6, -2, 0) : MV)]) = []) := if_pos hf
                          clear hf
                          go_wp2
                          go_meet
                          case rel => rw [hM.out, List.append_nil]; exact M7
                        · rw [decide_eq_false hf] at *
                          have hM : Aside ((if s.fd = 1 then [] else [((6, -2, 0) : MV)]) = [(6, -2, 0)]) := if_neg hf
                          clear hf
                          go_wp2_with (at_builtin; refine rmade_app H0.out.1 M7.out (by have := L7.out; omega) rfl (.tmp 243) (.tmp 245) rfl (6, -2, 0) rfl rfl ?_; intro v1 w1 M8)
                          go_meet
                          case rel => rw [hM.out]; exact M8
                    case rest =>
                      have M8 : Aside (RMADE w wc u3 B r bw cw vq vg R (MV1 s ++ MV2 s ++ MV3 s ++ MV4 s ++ MV5 s ++ (if s.fd = 1 then [] else [((6, -2, 0) : MV)]))) := hcut
                      have L8 : Aside ((MV1 s ++ MV2 s ++ MV3 s ++ MV4 s ++ MV5 s ++ (if s.fd = 1 then [] else [((6, -2, 0) : MV)])).length ≤ 301) := by
                        have h1 := L7.out
                        have h2 : (if s.fd = 1 then [] else [((6, -2, 0) : MV)]).length ≤ 1 := by split <;> simp
                        show _ ≤ _
                        rw [List.length_append]
                        exact Nat.add_le_add h1 h2
                      clear hcut M7 x3
                      have x7 := HX.out.2.2.2.2.2.2.2.1 wc M8.out.below
                      go_upto_if 251 with fail
                      go_cut [3] from 247 to 255 (fun s3 W => Aside (RMADE w W s3 B r bw cw vq vg R (MV1 s ++ MV2 s ++ MV3 s ++ MV4 s ++ MV5 s ++ (if s.fd = 1 then [] else [((6, -2, 0) : MV)]) ++ (if s.col = 1 then [] else [((6, -1, 0) : MV)]))))
                      case first =>
                        as_aux_lemma =>
                          by_cases hf : s.col = 1
                          · rw [decide_eq_true hf] at *
                            have hM : Aside ((if s.col = 1 then [] else [((6, -1, 0) : MV)]) = []) := if_pos hf
                            clear hf
                            go_wp2
                            go_meet
                            case rel => rw [hM.out, List.append_nil]; exact M8
                          · rw [decide_eq_false hf] at *
                            have hM : Aside ((if s.col = 1 then [] else [((6, -1, 0) : MV)]) = [(6, -1, 0)]) := if_neg hf
                            clear hf
                            go_wp2_with (at_builtin; refine rmade_app H0.out.1 M8.out (by have := L8.out; omega) rfl (.tmp 252) (.tmp 254) rfl (6, -1, 0) rfl rfl ?_; intro v1 w1 M9)
                            go_meet
                            case rel => rw [hM.out]; exact M9
                      case rest =>
                        have M9 : Aside (RMADE w wc u3 B r bw cw vq vg R (MV1 s ++ MV2 s ++ MV3 s ++ MV4 s ++ MV5 s ++ (if s.fd = 1 then [] else [((6, -2, 0) : MV)]) ++ (if s.col = 1 then [] else [((6, -1, 0) : MV)]))) := hcut
                        have L9 : Aside ((MV1 s ++ MV2 s ++ MV3 s ++ MV4 s ++ MV5 s ++ (if s.fd = 1 then [] else [((6, -2, 0) : MV)]) ++ (if s.col = 1 then [] else [((6, -1, 0) : MV)])).length ≤ 302) := by
                          have h1 := L8.out
                          have h2 : (if s.col = 1 then [] else [((6, -1, 0) : MV)]).length ≤ 1 := by split <;> simp
                          show _ ≤ _
                          rw [List.length_append]
                          exact Nat.add_le_add h1 h2
                        clear hcut M8 x7
                        obtain ⟨PP, hPP⟩ : ∃ PP, MV1 s ++ MV2 s ++ MV3 s ++ MV4 s ++ MV5 s ++ (if s.fd = 1 then [] else [((6, -2, 0) : MV)]) ++ (if s.col = 1 then [] else [((6, -1, 0) : MV)]) = PP := ⟨_, rfl⟩
                        rw [hPP] at M9 L9 HM
                        clear hPP
                        go_upto_block 6 with fail
                        go_cut [3] from 256 to 278 (fun s3 W => Aside (RMADE w W s3 B r bw cw vq vg R (PP ++ PK (WF s) s.W)))
                        case first =>
                          as_aux_lemma =>
                            have hn64 := H0.out.2.2.2
                            go_wp2_with fail
                            go_loopg [3, 8] s.W (fun k s3 sv wx => ∃ i : Nat, i + k = s.W ∧ sv = .int .i64 (i : Int) ∧ Aside (RMADE w wx s3 B r bw cw vq vg R (PP ++ PK (WF s) i)))
                            case atStart => exact ⟨0, by omega, rfl, by rw [PK_zero, List.append_nil]; exact M9⟩
                            case round =>
                              obtain ⟨i, hi, rfl, A⟩ := hrel
                              have x6 := HX.out.2.2.2.2.2.2.1 wr A.out.below
                              cases gk with
                              | zero =>
                                obtain rfl : i = s.W := by omega
                                go_wp2
                                go_meet
                                case rel => exact A
                              | succ k =>
                                have hlt : (i : Int) < (s.W : Int) := by omega
                                have his : i < s.W := by omega
                                have y0 := HX.out.2.2.2.2.2.2.2.2.2.1 wr A.out.below i his
                                have y1 := HX.out.2.2.2.2.2.2.2.2.2.2.1 wr A.out.below i his
                                have hLN : Aside ((PP ++ PK (WF s) i).length ≤ 1000) := by
                                  have := L9.out
                                  have := PK_length (WF s) i
                                  show _ ≤ _
                                  rw [List.length_append]
                                  omega
                                have hwr := H0.out.2.1.ws i his
                                have HI : Aside (i + (k + 1) = s.W) := hi
                                generalize s.W = nn at *
                                clear hi his
                                rcases worker_cases hwr with ⟨q1, q2⟩ | q
                                · rw [q2] at y1
                                  have hR : Aside (PK (WF s) (i + 1) = PK (WF s) i) := by
                                    show _ = _
                                    rw [PK_succ]
                                    unfold WF
                                    rw [if_pos q1]
                                    exact List.append_nil _
                                  generalize R.jb i = JJ at *
                                  clear q1 q2 hwr
                                  go_wp2
                                  go_roundg k
                                  case measure => omega
                                  case rel => exact ⟨i + 1, by have := HI.out; omega, rfl, by rw [hR.out]; exact A⟩
                                · have q1 : s.ws i ≠ 1 := by rcases q with ⟨h, _⟩ | ⟨h, _⟩ <;> omega
                                  have q2 : R.gn i = false := by rcases q with ⟨_, h, _⟩ | ⟨_, h, _⟩ <;> exact h
                                  rw [q2] at y1
                                  have hR : Aside (PK (WF s) (i + 1) = PK (WF s) i ++ [(6, (i : Int), 0)]) := by
                                    show _ = _
                                    rw [PK_succ]
                                    unfold WF
                                    rw [if_neg q1]
                                    rfl
                                  generalize R.jb i = JJ at *
                                  clear q1 q2 q hwr
                                  go_wp2_with (at_builtin; refine rmade_app H0.out.1 A.out hLN.out rfl (.tmp 274) (.tmp 277) rfl (6, (i : Int), 0) rfl rfl ?_; intro v1 w1 M9)
                                  go_roundg k
                                  case measure => omega
                                  case rel => exact ⟨i + 1, by have := HI.out; omega, rfl, by rw [hR.out, ← List.append_assoc]; exact M9⟩
                        case rest =>
                          have M10 : Aside (RMADE w wc u3 B r bw cw vq vg R (MVS s)) := by rw [HM.out]; exact hcut
                          clear hcut M9 L9 HM
                          go_wp2
                          go_ret
                          exact ⟨_, rfl, M10.out.own, M10.out.below⟩
                  · have hc2 : s.canc = false := by cases h : s.canc <;> simp_all
                    rw [hc2] at x10
                    have M8 : Aside (RMADE w wc u3 B r bw cw vq vg R (MVS s)) := by
                      have e : MVS s = MV1 s ++ MV2 s ++ MV3 s ++ MV4 s ++ MV5 s := by
                        unfold MVS MV6
                        rw [if_neg hc, List.append_nil]
                      rw [e]
                      exact M7
                    clear hc hc2 M7
                    go_wp2
                    go_ret
                    exact ⟨_, rfl, M8.out.own, M8.out.below⟩
end Go.Proofs.Ytmgocdjmjnkbmaa
