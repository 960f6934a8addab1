/- Texts of ClashNothing, one behind the other: HashStepEq, ClashHoldsCall. -/
import Derived.Laws.StructEq
import Derived.Laws.BytesArg
import Derived.Lib.Bytes
import Derived.Deep.Cut
import Derived.Test.YtbeelmlpalkohaaGreatDoorClashNothingP13
import Derived.Test.YtbeelmlpalkohaaGreatDoorClashNothingP17
import Derived.Test.YtbeelmlpalkohaaGreatDoorClashNothingP18
namespace Go.Proofs.YtbeelmlpalkohaaGreatDoor.HX
open Go.RowKit
set_option maxRecDepth 100000
theorem z4S {w:World} {a:Option Addr} {n:Nat} {l:List Nat} (h:Text w a n l) (c:Nat):(convert 39 9 (.slice a n c)).run Tryz.prog w=.ok (.string (strOfNums (INTS l))) w:=by
  rcases Nat.eq_zero_or_pos n with hn | hn
  · subst hn
    obtain rfl:l=[]:=List.eq_nil_of_length_eq_zero h.1
    rw [run_convert_bytes_string w 39 9 5 _ 0 c Tryz.underlying39 Tryz.underlying5 Tryz.underlying9]
    cases a <;> simp [Conv.bytesToString,loadCells]
    all_goals rfl
  · obtain ⟨b,o,rfl, -,hc⟩:=h.2.1 hn
    exact run_convert_bytes_arg (P:=Tryz.prog) w 39 5 Tryz.underlying39 Tryz.underlying5 b o n c (INTS l) (by simp [INTS,h.1]) (fun i hi=>by rw [hc i hi];simp [INTS,List.getD_eq_getElem?_getD];cases l[i]? <;> rfl) 9 Tryz.underlying9
theorem zcK {l k:List Nat} (hl:Small8 l) (hk:Small8 k):((strOfNums (INTS l)).toList == (strOfNums (INTS k)).toList)=decide (l=k):=by
  rw [Lib.strOfNums_toList,Lib.strOfNums_toList]
  have key:∀ (l k:List Nat),Small8 l→Small8 k→Lib.bytesOf (INTS l)=Lib.bytesOf (INTS k)→l=k:=by
    intro l
    induction l with
    | nil=>intro k _ _ h;cases k with | nil=>rfl | cons y k=>simp [Lib.bytesOf,INTS] at h
    | cons x l ih=>
      intro k h1 h2 h
      cases k with
      | nil=>simp [Lib.bytesOf,INTS] at h
      | cons y k=>
        simp only [Lib.bytesOf,INTS,List.map_cons,List.cons.injEq] at h
        have hx:=h1 x (by simp)
        have hy:=h2 y (by simp)
        have e:x=y:=by
          have:=congrArg UInt8.toNat h.1
          simp at this
          omega
        rw [e,ih k (fun z hz=>h1 z (by simp [hz])) (fun z hz=>h2 z (by simp [hz])) h.2]
  by_cases e:l=k
  · subst e;simp
  · have:Lib.bytesOf (INTS l)≠Lib.bytesOf (INTS k):=fun h=>e (key l k hl hk h)
    simp [e,this]
theorem z4D (a:Option Addr) (n c:Nat) (l:List Nat) (b:Option Addr) (m c':Nat) (k:List Nat) (w:World) (h1:Text w a n l) (h2:Text w b m k):Calls Tryz.prog 63 #[.slice a n c,.slice b m c'] w fun e w'=>e=.returned (.bool (decide (l=k)))∧w=w':=by
  have q1:=z4S h1 c
  have q2:=z4S h2 c'
  have q3:=zcK h1.2.2 h2.2.2
  clear h1 h2
  generalize strOfNums (INTS l)=S at *
  generalize strOfNums (INTS k)=T at *
  go_enter Tryz.func63,Tryz.ntmps63
  go_wp2
  go_ret
  exact ⟨rfl,rfl⟩
end Go.Proofs.YtbeelmlpalkohaaGreatDoor.HX

namespace Go.Proofs.YtbeelmlpalkohaaGreatDoor.HX
open Go.RowKit
set_option maxRecDepth 100000
def z24 (d:Int) (l k:List Nat):Bool:=!decide (l=k) && (List.range 32).all fun i=>z0h d l i == z0h d k i
theorem zeu {w w':World} (hb:Below w.heap.size w w'):∀ (j:Nat) C t,Has w j C t→Has w' j C t:=fun _ _ _ h=>h.keep hb
theorem z8y (d:Int) (l:List Nat):z24 d l l=false:=by simp [z24]
theorem z8z (d:Int) {l k:List Nat} (h:l≠k):z24 d l k=(List.range 32).all fun i=>z0h d l i == z0h d k i:=by simp [z24,h]
theorem z7w (d:Int) (a:Option Addr) (n c:Nat) (l:List Nat) (b:Option Addr) (m c':Nat) (k:List Nat) (w:World) (h1:Text w a n l) (hc1:n≤c) (hx1:∀ x,a=some x→x.block<w.heap.size) (hn:n<2 ^ 60) (h2:Text w b m k) (hc2:m≤c') (hx2:∀ x,b=some x→x.block<w.heap.size) (hm:m<2 ^ 60) (hT:Tabled w):Calls Tryz.prog 36 #[.int .i64 d,.agg #[.slice a n c,.slice b m c']] w fun e w'=>e=.returned (.bool (z24 d l k))∧Below w.heap.size w w':=by
  have hb0:Below w.heap.size w (w.alloc (.cells #[.slice a n c,.slice b m c'] 46)):=(Below.refl _ _).alloc (Nat.le_refl _) _
  have hbox:Has (w.alloc (.cells #[.slice a n c,.slice b m c'] 46)) w.heap.size #[.slice a n c,.slice b m c'] 46:=Has.new w _ _
  have H:Aside (Text w a n l∧n≤c∧(∀ x,a=some x→x.block<w.heap.size)∧n<2 ^ 60∧Text w b m k∧m≤c'∧(∀ x,b=some x→x.block<w.heap.size)∧m<2 ^ 60∧Tabled w):=⟨h1,hc1,hx1,hn,h2,hc2,hx2,hm,hT⟩
  clear h1 hc1 hx1 hn h2 hc2 hx2 hm hT
  have HR:Aside ((l=k→z24 d l k=false)∧(l≠k→z24 d l k=(List.range 32).all fun i=>z0h d l i == z0h d k i)):=⟨fun h=>by subst h;exact z8y d l,fun h=>z8z d h⟩
  generalize z24 d l k=hr at *
  go_enter Tryz.func36,Tryz.ntmps36
  go_upto_region 1 with fail
  generalize hw1:w.alloc (.cells #[.slice a n c,.slice b m c'] 46)=w1 at *
  have hs:∀ W,Below w1.heap.size w1 W→W.cell? ⟨w.heap.size,0,none⟩=some (.slice a n c)∧W.cell? ⟨w.heap.size,1,none⟩=some (.slice b m c'):=fun W hb=>by
    have h:=hbox.keep hb
    exact ⟨(h.cell 0).trans rfl,(h.cell 1).trans rfl⟩
  have hbw:∀ W,Below w1.heap.size w1 W→Below w.heap.size w W:=fun W hb=>hb0.trans (hb.mono hb0.size)
  by_cases e:l=k
  · have hr0:=HR.out.1 e
    subst e
    refine zhF _ _ _ _ _ _ _ _ _ _ _ _ _ _ _ _ _ _ _ _ _ w1 d w.heap.size a n c b m c' (fun W=>Below w1.heap.size w1 W) hs (Below.refl _ _).drew (fun W hW=>?_) (fun _ _ _ _ _ h=>h) ?_
    · refine (z4D a n c l b m c' l W (H.out.1.below (hbw W hW)) (H.out.2.2.2.2.1.below (hbw W hW))).mono ?_
      rintro e w' ⟨rfl,rfl⟩
      exact ⟨by rw [decide_eq_true rfl],hW⟩
    · intro W hW
      have R:=hbw W hW
      clear hW hs hbw hbox hb0 hw1
      go_wp2
      go_ret
      exact ⟨by first | rfl | (subst hr0;rfl) | (rw [hr0];rfl),R⟩
  · have hr0:=HR.out.2 e
    clear HR
    refine zig _ _ _ _ _ _ _ _ _ _ _ _ _ _ _ _ _ _ _ _ _ w1 d w.heap.size a n c b m c' (fun W=>Below w1.heap.size w1 W) hs (Below.refl _ _).drew (z0h d l) (z0h d k) ((List.range 32).all fun i=>z0h d l i == z0h d k i) (fun W o hW=>hW.alloc hW.size _) (fun W=>z65 _ _ W) (fun W hW=>?_) (fun W g hW hg=>?_) (fun W g hW hg=>?_) (fun _ _ _ _ _ h=>h) ?_
    · refine (z4D a n c l b m c' k W (H.out.1.below (hbw W hW)) (H.out.2.2.2.2.1.below (hbw W hW))).mono ?_
      rintro e' w' ⟨rfl,rfl⟩
      exact ⟨by rw [decide_eq_false e],hW⟩
    · have hb:=hbw W hW
      refine (sum9 d W g a n c l hg (H.out.1.below hb) H.out.2.1 (fun x hx=>Nat.lt_of_lt_of_le (H.out.2.2.1 x hx) hb.size) H.out.2.2.2.1 (H.out.2.2.2.2.2.2.2.2.below hb)).mono ?_
      rintro e' w' ⟨rfl,hb'⟩
      exact ⟨rfl,hW.trans (hb'.mono hW.size),zeu hb'⟩
    · have hb:=hbw W hW
      refine (sum9 d W g b m c' k hg (H.out.2.2.2.2.1.below hb) H.out.2.2.2.2.2.1 (fun x hx=>Nat.lt_of_lt_of_le (H.out.2.2.2.2.2.2.1 x hx) hb.size) H.out.2.2.2.2.2.2.2.1 (H.out.2.2.2.2.2.2.2.2.below hb)).mono ?_
      rintro e' w' ⟨rfl,hb'⟩
      exact ⟨rfl,hW.trans (hb'.mono hW.size),zeu hb'⟩
    · intro g g2 W hW
      have R:=hbw W hW
      clear hW hs hbw hbox hb0 hw1 e
      generalize ((List.range 32).all fun i=>z0h d l i == z0h d k i)=r at *
      go_wp2
      go_ret
      exact ⟨by first | rfl | (subst hr0;rfl) | (rw [hr0];rfl),R⟩
end Go.Proofs.YtbeelmlpalkohaaGreatDoor.HX
