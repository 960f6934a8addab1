/- Texts of SpanVerifies, one behind the other: VerifyUnder, VerifyRooted, ManyEqual, ProofInTurn, ProofSteps, ManyReader, ManyIndex, ManyDecodePlain, ManyHash, ManyHashApp, ManyReadRegion, ManyNeedD, ManyRead, ManyProofCall, ManyFaceD, ManyDecode, ProofMarked, ManySlice, ManyRefDecode, ManyClimbsRange, ManyVerify, ManyRefVerify, ManyAwake, ManyNumbers, ManyStays2, ManyTexts, ManyVerifiesState. -/
import Derived.BigQuiet
import Derived.Laws.CopyOwn
import Derived.Deep.RegionLaw
import Derived.Laws.AppendOwnNone
import Derived.Test.YthdpkaiieomdoaaGreatDoorSpanVerifiesP20
namespace Go.Proofs.YthdpkaiieomdoaaGreatDoor
open Go.RowKit
set_option maxRecDepth 100000
set_option maxHeartbeats 4000000 in
theorem zfj (d:Int) (n:Nat) (hn:n<2 ^ 64) (a:Option Addr) (k c:Nat) (l:List Int) (w:World) (hF:Flat w a k l) (hX:HX.Tabled w):
    Calls Tryz.prog 37 #[.int .i64 d,.int .u64 (n:Int),.slice a k c] w fun e w'=>e=.returned (.tuple #[.agg (z00 (BAGA d n k l).2).toArray,.int .i64 (BAGA d n k l).1])∧Below w.heap.size w w':=by
  have R0:Aside (Below w.heap.size w (w.alloc (.cells ZARR 23))∧Has (w.alloc (.cells ZARR 23)) w.heap.size (z00 ZND).toArray 23):=⟨(Below.refl _ _).alloc (Nat.le_refl _) _,by rw [z0P];exact Has.new _ _ _⟩
  have HA:Aside (Flat w a k l∧HX.Tabled w∧n<2 ^ 64):=⟨hF,hX,hn⟩
  clear hF hX
  by_cases h1:4611686018427387904<n
  · have e:BAGA d n k l=(30,ZND):=if_pos h1
    rw [e]
    have h1':(4611686018427387904:Int)<(n:Int):=by omega
    clear e HA hn
    go_enter Tryz.func37,Tryz.ntmps37
    go_upto_region 2 with fail
    rw [show (#[.int .u8 0,.int .u8 0,.int .u8 0,.int .u8 0,.int .u8 0,.int .u8 0,.int .u8 0,.int .u8 0,.int .u8 0,.int .u8 0,.int .u8 0,.int .u8 0,.int .u8 0,.int .u8 0,.int .u8 0,.int .u8 0,.int .u8 0,.int .u8 0,.int .u8 0,.int .u8 0,.int .u8 0,.int .u8 0,.int .u8 0,.int .u8 0,.int .u8 0,.int .u8 0,.int .u8 0,.int .u8 0,.int .u8 0,.int .u8 0,.int .u8 0,.int .u8 0]:Array Value)=ZARR from rfl]
    generalize w.alloc (.cells ZARR 23)=W0 at *
    go_wp2_with (rw [show (#[.int .u8 0,.int .u8 0,.int .u8 0,.int .u8 0,.int .u8 0,.int .u8 0,.int .u8 0,.int .u8 0,.int .u8 0,.int .u8 0,.int .u8 0,.int .u8 0,.int .u8 0,.int .u8 0,.int .u8 0,.int .u8 0,.int .u8 0,.int .u8 0,.int .u8 0,.int .u8 0,.int .u8 0,.int .u8 0,.int .u8 0,.int .u8 0,.int .u8 0,.int .u8 0,.int .u8 0,.int .u8 0,.int .u8 0,.int .u8 0,.int .u8 0,.int .u8 0]:Array Value)=(z00 ZND).toArray from rfl];refine wpList_store_row rfl 23 (.tmp 6) (.tmp 10) rfl _ _ rfl rfl 23 _ R0.out.2 (z03 rfl) rfl (z0i ZND) ?_)
    refine bodyPost_ret (v:=.tuple #[.agg (z00 ZND).toArray,.int .i64 30]) (z1O rfl _ _ w.heap.size 23 _ (0,0) _ _ _ rfl rfl (Has.row R0.out.2 _) Tryz.underlying23 (z03 rfl)) rfl ⟨rfl,z04 R0.out.1 (Nat.le_refl _) _⟩
  have h1':¬ (4611686018427387904:Int)<(n:Int):=by omega
  have hpop:=zb3 hn
  by_cases h2:k=PC n
  · have e:BAGA d n k l=(0,z0u d n (FLD d l k)):=by unfold BAGA;rw [if_neg h1,if_neg (by simpa using h2)]
    rw [e]
    have hk:Aside (k≤64):=by have:=z13 64 n hn;show k≤64;omega
    have e2:(k:Int)=((POP n:Nat):Int):=by rw [hpop,h2]
    clear e h2 hpop h1
    go_enter Tryz.func37,Tryz.ntmps37
    go_upto_region 3 with fail
    rw [show (#[.int .u8 0,.int .u8 0,.int .u8 0,.int .u8 0,.int .u8 0,.int .u8 0,.int .u8 0,.int .u8 0,.int .u8 0,.int .u8 0,.int .u8 0,.int .u8 0,.int .u8 0,.int .u8 0,.int .u8 0,.int .u8 0,.int .u8 0,.int .u8 0,.int .u8 0,.int .u8 0,.int .u8 0,.int .u8 0,.int .u8 0,.int .u8 0,.int .u8 0,.int .u8 0,.int .u8 0,.int .u8 0,.int .u8 0,.int .u8 0,.int .u8 0,.int .u8 0]:Array Value)=ZARR from rfl]
    generalize w.alloc (.cells ZARR 23)=W0 at *
    go_wp2_with fail
    refine (z2O n hn W0).mono ?_
    rintro e w1 ⟨rfl,rfl⟩
    go_wp2_with fail
    refine (zbK d a k c (by have:=hk.out;omega) l W0 (HA.out.1.below R0.out.1) (HA.out.2.1.below R0.out.1)).mono ?_
    rintro e w1 ⟨rfl,hb⟩
    have R1:Aside (Below w.heap.size w w1∧Has w1 w.heap.size (z00 ZND).toArray 23):=⟨R0.out.1.trans (hb.mono R0.out.1.size),R0.out.2.keep hb⟩
    clear hb R0
    have hI:=zfd (d:=d) HA.out.1.1 HA.out.1.2.2
    go_wp2_with fail
    refine (zd9 d n hn (FLD d l k) hI w1 (HA.out.2.1.below R1.out.1)).mono ?_
    rintro e w2 ⟨rfl,hb⟩
    have R2:Aside (Below w.heap.size w w2∧Has w2 w.heap.size (z00 ZND).toArray 23):=⟨R1.out.1.trans (hb.mono R1.out.1.size),R1.out.2.keep hb⟩
    clear hb R1 hI
    have y32:=(z2Z d n (FLD d l k)).1
    generalize hY:z0u d n (FLD d l k)=Y at *
    go_wp2_with (refine wpList_store_row rfl 23 (.tmp 6) (.tmp 22) rfl _ _ rfl rfl 23 _ R2.out.2 (z03 y32) (by simp [z00,y32];rfl) (z0i Y) ?_)
    refine bodyPost_ret (v:=.tuple #[.agg (z00 Y).toArray,.int .i64 0]) (z1O rfl _ _ w.heap.size 23 _ (0,0) _ _ _ rfl rfl (Has.row R2.out.2 _) Tryz.underlying23 (z03 y32)) rfl ⟨by rw [hY],z04 R2.out.1 (Nat.le_refl _) _⟩
  · have e:BAGA d n k l=(70,ZND):=by unfold BAGA;rw [if_neg h1,if_pos h2]
    rw [e]
    exact zbL d n hn a k c w h1' (by rw [hpop];exact h2)
end Go.Proofs.YthdpkaiieomdoaaGreatDoor

namespace Go.Proofs.YthdpkaiieomdoaaGreatDoor
open Go.RowKit
set_option maxRecDepth 100000
theorem zc7 {a b:List Int} (ha:IsH a) (hb:IsH b) (w:World):(Op.equalIn 10000 23 (.agg (z00 a).toArray) (.agg (z00 b).toArray)).run Tryz.prog w=.ok (decide (a=b)) w:=by
  rw [z0F ha,z0F hb,HX.zaq]
  congr 1
  by_cases e:a=b
  · subst e
    simp
  · rw [decide_eq_false e]
    refine Bool.eq_false_iff.2 fun h=>e ?_
    have h':∀ i∈List.range 32,FNC a i=FNC b i:=fun i hi=>by simpa using List.all_eq_true.1 h i hi
    have h2:LST (FNC a)=LST (FNC b):=by
      unfold LST
      exact List.map_congr_left fun i hi=>by rw [h' i hi]
    rwa [z6d ha,z6d hb] at h2
theorem z1P {ops:Array Oper} {rest:List Oper} {o:Oper} {a:Act} {w:World} {Q:Exit→Act→World→Prop} (hw:Region.wanted o (yielded ops a.tmps)=true) (ty:TypeId) (x:Operand) (ho:o.op=.load ty x) (n:Nat) (e:TypeId)
    (b:Nat) (hx:a.eval x=.pointer (some ⟨b,0,none⟩)) (t:TypeId) (cs:Array Value) (fr:Nat × Nat) (hb:w.heap[b]?=some (.cells cs t fr)) (hu:Tryz.prog.underlying ty=some (.array n e)) (hi:(Tryz.prog.info? ty).map (·.size)=some cs.size)
    (h:wpList Tryz.prog ops Q rest (a.put o.dst (.agg cs)) w):wpList Tryz.prog ops Q (o :: rest) a w:=by
  simp only [wpList]
  rw [if_pos hw]
  exact .inl (wp_load_row ty x ho b hx t cs fr (.array n e) hb hu rfl hi h)
end Go.Proofs.YthdpkaiieomdoaaGreatDoor

namespace Go.Proofs.YthdpkaiieomdoaaGreatDoor
open Go.RowKit
set_option maxRecDepth 100000
end Go.Proofs.YthdpkaiieomdoaaGreatDoor

namespace Go.Proofs.YthdpkaiieomdoaaGreatDoor
open Go.RowKit
set_option maxRecDepth 100000
end Go.Proofs.YthdpkaiieomdoaaGreatDoor

namespace Go.Proofs.YthdpkaiieomdoaaGreatDoor
open Go.RowKit
set_option maxRecDepth 100000
def zfk (v:Value) (X Y:Nat) (nv:Value):Array Value:=#[v,.int .u64 (X:Int),.int .u64 (Y:Int),nv]
structure FRM (w0 w:World) (rb gl:Nat) (t:TypeId) (v:Value) (X Y:Nat) (nv:Value) (fl:Array Value) (tf:TypeId):Prop where
  bel:Below w0.heap.size w0 w
  rd:Has w rb (zfk v X Y nv) t
  fl:Has w gl fl tf
  ne:gl≠rb
  lb:w0.heap.size≤rb
  lg:w0.heap.size≤gl
def SRC (w0:World) (a:Option Addr) (c:Nat) (t:List Int):Prop:=Bytes w0 a t.length t∧t.length≤c∧t.length≤1000000
theorem FRM.drew {w0 w:World} {rb gl:Nat} {t:TypeId} {v:Value} {X Y:Nat} {nv:Value} {fl:Array Value} {tf:TypeId} (h:FRM w0 w rb gl t v X Y nv fl tf):FRM w0 w.drew rb gl t v X Y nv fl tf:=⟨h.bel.drew,h.rd,h.fl,h.ne,h.lb,h.lg⟩
theorem FRM.keep {w0 w w':World} {rb gl:Nat} {t:TypeId} {v:Value} {X Y:Nat} {nv:Value} {fl:Array Value} {tf:TypeId} (h:FRM w0 w rb gl t v X Y nv fl tf) (hb:Below w.heap.size w w'):FRM w0 w' rb gl t v X Y nv fl tf:=⟨h.bel.trans (hb.mono h.bel.size),h.rd.keep hb,h.fl.keep hb,h.ne,h.lb,h.lg⟩
theorem FRM.rest {w0 w:World} {rb gl:Nat} {t:TypeId} {v:Value} {X Y:Nat} {nv:Value} {fl:Array Value} {tf:TypeId} (h:FRM w0 w rb gl t v X Y nv fl tf) (v':Value):FRM w0 (w.setCell ⟨rb,0,none⟩ v') rb gl t v' X Y nv fl tf:=
  ⟨h.bel.setCell (p:=⟨rb,0,none⟩) h.lb _,h.rd.set 0 v',h.fl.other (a:=⟨rb,0,none⟩) h.ne _,h.ne,h.lb,h.lg⟩
theorem FRM.first {w0 w:World} {rb gl:Nat} {t:TypeId} {v:Value} {X Y:Nat} {nv:Value} {fl:Array Value} {tf:TypeId} (h:FRM w0 w rb gl t v X Y nv fl tf) (Z:Nat):FRM w0 (w.setCell ⟨rb,1,none⟩ (.int .u64 (Z:Int))) rb gl t v Z Y nv fl tf:=
  ⟨h.bel.setCell (p:=⟨rb,1,none⟩) h.lb _,h.rd.set 1 _,h.fl.other (a:=⟨rb,1,none⟩) h.ne _,h.ne,h.lb,h.lg⟩
theorem SRC.drop {w0:World} {b off c:Nat} {t:List Int} (h:SRC w0 (some ⟨b,off,none⟩) c t) (k:Nat) (hk:k≤t.length):SRC w0 (REST b off c k) (c - k) (t.drop k):=by
  obtain ⟨h1,h2,h3⟩:=h
  have:=h1.behind k hk h2
  refine ⟨?_,by rw [List.length_drop];omega,by rw [List.length_drop];omega⟩
  rw [List.length_drop]
  exact this
theorem SRC.addr {w0:World} {a:Option Addr} {c:Nat} {t:List Int} (h:SRC w0 a c t) (h0:0<t.length):∃ b off,a=some ⟨b,off,none⟩∧b<w0.heap.size∧∀ i,i<t.length→w0.cell? ⟨b,off+i,none⟩=some (.int .u8 (t.getD i 0)):=h.1.2.1 h0
end Go.Proofs.YthdpkaiieomdoaaGreatDoor

namespace Go.Proofs.YthdpkaiieomdoaaGreatDoor
open Go.RowKit
set_option maxRecDepth 100000
structure STAY (w w':World) (rb:Nat):Prop where
  kp:∀ k,k<w.heap.size→k≠rb→w'.heap[k]?=w.heap[k]?
  bl:Below rb w w'
theorem STAY.refl (w:World) (rb:Nat):STAY w w rb:=⟨fun _ _ _=>rfl,Below.refl _ _⟩
theorem STAY.trans {w w' w'':World} {rb:Nat} (h:STAY w w' rb) (h':STAY w' w'' rb):STAY w w'' rb:=⟨fun k hk hne=>(h'.kp k (Nat.lt_of_lt_of_le hk h.bl.size) hne).trans (h.kp k hk hne),h.bl.trans h'.bl⟩
theorem STAY.set (w:World) (rb i:Nat) (v:Value):STAY w (w.setCell ⟨rb,i,none⟩ v) rb:=⟨fun k _ hne=>Below.heap_setCell w ⟨rb,i,none⟩ v k hne,(Below.refl _ _).setCell (p:=⟨rb,i,none⟩) (Nat.le_refl _) _⟩
theorem STAY.of {w w':World} {rb:Nat} (h:Below w.heap.size w w') (hr:rb≤w.heap.size):STAY w w' rb:=⟨fun k hk _=>h.block k hk,h.mono hr⟩
theorem STAY.has {w w':World} {rb g:Nat} {c:Array Value} {t:TypeId} (h:STAY w w' rb) (hg:Has w g c t) (hne:g≠rb):Has w' g c t:=(h.kp g hg.lt hne).trans hg
end Go.Proofs.YthdpkaiieomdoaaGreatDoor

namespace Go.Proofs.YthdpkaiieomdoaaGreatDoor
open Go.RowKit
set_option maxRecDepth 100000
def IDX (n:Nat):Nat→Nat→List Int→Int × List Nat × List Int
  | 0,_,t=>(0,[],t)
  | c+1,k,t=>if (LNG t).2.2≠0 then ((LNG t).2.2,[],[]) else if n - k≤(LNG t).1.toNat then (32,[],[]) else
    ((IDX n c (k+(LNG t).1.toNat+1) (t.drop (LNG t).2.1.toNat)).1,(k+(LNG t).1.toNat) :: (IDX n c (k+(LNG t).1.toNat+1) (t.drop (LNG t).2.1.toNat)).2.1,(IDX n c (k+(LNG t).1.toNat+1) (t.drop (LNG t).2.1.toNat)).2.2)
def IDXS (n:Nat) (t:List Int):Int × List Nat × List Int:=if (LNG t).2.2≠0 then ((LNG t).2.2,[],[]) else IDX n (LNG t).1.toNat 0 (t.drop (LNG t).2.1.toNat)
end Go.Proofs.YthdpkaiieomdoaaGreatDoor

namespace Go.Proofs.YthdpkaiieomdoaaGreatDoor
set_option maxRecDepth 100000
abbrev MANS:=Int × Nat × List Nat × List Int
def MERR (E:Int):MANS:=(E,0,[],[])
def MD3 (n:Nat) (A:Int × List Nat × List Int):MANS:=
  if A.1≠0 then MERR A.1 else if A.2.2.length<32*(z2k (TPS n) A.2.1).length then MERR 11 else if 32*(z2k (TPS n) A.2.1).length<A.2.2.length then MERR 13 else (0,n,A.2.1,A.2.2)
def MD1 (t:List Int):MANS:=
  if (LNG t).2.2≠0 then MERR (LNG t).2.2 else if 4611686018427387904<(LNG t).1.toNat then MERR 30 else MD3 (LNG t).1.toNat (IDXS (LNG t).1.toNat (t.drop (LNG t).2.1.toNat))
def MDC:List Int→MANS
  | []=>MERR 11
  | x :: t=>if x=78 then MD1 t else MERR 14
end Go.Proofs.YthdpkaiieomdoaaGreatDoor

namespace Go.Proofs.YthdpkaiieomdoaaGreatDoor
open Go.RowKit
set_option maxRecDepth 100000
end Go.Proofs.YthdpkaiieomdoaaGreatDoor

namespace Go.Proofs.YthdpkaiieomdoaaGreatDoor
open Go.RowKit
set_option maxRecDepth 100000
end Go.Proofs.YthdpkaiieomdoaaGreatDoor

namespace Go.Proofs.YthdpkaiieomdoaaGreatDoor
open Go.RowKit
set_option maxRecDepth 100000
end Go.Proofs.YthdpkaiieomdoaaGreatDoor

namespace Go.Proofs.YthdpkaiieomdoaaGreatDoor
open Go.RowKit
set_option maxRecDepth 100000
end Go.Proofs.YthdpkaiieomdoaaGreatDoor

namespace Go.Proofs.YthdpkaiieomdoaaGreatDoor
open Go.RowKit
set_option maxRecDepth 100000
end Go.Proofs.YthdpkaiieomdoaaGreatDoor

namespace Go.Proofs.YthdpkaiieomdoaaGreatDoor
open Go.RowKit
set_option maxRecDepth 100000
theorem STAY.high {w W:World} {rb:Nat} (h:STAY w W rb) {pb i:Nat} {v:Value} (hp:w.heap.size≤pb) (hr:rb≤w.heap.size):STAY w (W.setCell ⟨pb,i,none⟩ v) rb:=⟨fun k hk hne=>(Below.heap_setCell W ⟨pb,i,none⟩ v k (by show k≠pb;omega)).trans (h.kp k hk hne),h.bl.setCell (p:=⟨pb,i,none⟩) (by show rb≤pb;omega) _⟩
abbrev zfG:Array Value:=#[.int .u64 0,.slice none 0 0,.slice none 0 0]
theorem z4q {w w':World} {B s n:Nat} {t:TypeId} {v:Value} {xs:List Value} (h:w.ownsRow B t s v n xs) (hk:∀ k,v.ownBlock=some k→w'.heap[k]?=w.heap[k]?):w'.ownsRow B t s v n xs:=z3x h hk
end Go.Proofs.YthdpkaiieomdoaaGreatDoor

namespace Go.Proofs.YthdpkaiieomdoaaGreatDoor
open Go.RowKit
set_option maxRecDepth 100000
end Go.Proofs.YthdpkaiieomdoaaGreatDoor

namespace Go.Proofs.YthdpkaiieomdoaaGreatDoor
open Go.RowKit
set_option maxRecDepth 100000
def DECM (w:World) (A:MANS) (e:Ending) (w':World):Prop:=
  ∃ a c a2 K c2,e=.returned (.tuple #[.agg #[.int .u64 (A.2.1:Int),.slice a A.2.2.1.length c,.slice a2 K c2],.int .i64 A.1])∧w'.ownsRow w.heap.size 24 1 (.slice a A.2.2.1.length c) A.2.2.1.length (z0h A.2.2.1)∧w'.ownsRow w.heap.size 23 32 (.slice a2 K c2) K (z00 A.2.2.2)∧A.2.2.2.length=32*K∧Below w.heap.size w w'
end Go.Proofs.YthdpkaiieomdoaaGreatDoor

namespace Go.Proofs.YthdpkaiieomdoaaGreatDoor
open Go.RowKit
set_option maxRecDepth 100000
def z4H (xs:List Value):Nat→List Value→List Value
  | _,[]=>xs
  | o,v :: vs=>z4H (xs.set o v) (o+1) vs
theorem z85:∀ (vs xs:List Value) (o:Nat),o+vs.length≤xs.length→z4H xs o vs=xs.take o ++ vs ++ xs.drop (o+vs.length)
  | [],xs,o,_=>by simp [z4H]
  | v :: vs,xs,o,h=>by
    simp only [List.length_cons] at h
    rw [z4H,z85 vs (xs.set o v) (o+1) (by rw [List.length_set];omega)]
    rw [List.take_set,List.drop_set,if_pos (by omega)]
    rw [List.take_add_one,List.getElem?_eq_getElem (by omega)]
    simp only [Option.toList_some,List.length_cons]
    rw [List.set_append_right _ _ (by simp;omega)]
    simp only [List.length_take,show min o xs.length=o by omega,Nat.sub_self,List.set_cons_zero]
    simp [Nat.add_comm,Nat.add_left_comm]
theorem z86 {B:Nat} {t:TypeId} {s g n c:Nat}:∀ (vs xs:List Value) (o:Nat) (w:World),w.ownsRow B t s (.slice (some ⟨g,0,none⟩) n c) n xs→(w.setCells g o vs).ownsRow B t s (.slice (some ⟨g,0,none⟩) n c) n (z4H xs o vs)∧w.grownBy (w.setCells g o vs) (some g)
  | [],xs,o,w,h=>⟨h,z1F _ _⟩
  | v :: vs,xs,o,w,h=>by
    obtain ⟨h1,h2⟩:=h.stored o v
    obtain ⟨h3,h4⟩:=z86 vs _ (o+1) _ h1
    exact ⟨h3,z1s h2 h4 (.inl rfl)⟩
def MK (m:Int):List Int:=m :: List.replicate 31 0
theorem z2q (m:Int):(MK m).length=32:=rfl
theorem z5R (m:Int):(z00 (MK m)).toArray=#[.int .u8 m,.int .u8 0,.int .u8 0,.int .u8 0,.int .u8 0,.int .u8 0,.int .u8 0,.int .u8 0,.int .u8 0,.int .u8 0,.int .u8 0,.int .u8 0,.int .u8 0,.int .u8 0,.int .u8 0,.int .u8 0,.int .u8 0,.int .u8 0,.int .u8 0,.int .u8 0,.int .u8 0,.int .u8 0,.int .u8 0,.int .u8 0,.int .u8 0,.int .u8 0,.int .u8 0,.int .u8 0,.int .u8 0,.int .u8 0,.int .u8 0,.int .u8 0]:=rfl
def MKS (m:Int):Nat→List Int
  | 0=>[]
  | k+1=>MKS m k ++ MK m
theorem z1J (m:Int):∀ k,(MKS m k).length=32*k
  | 0=>rfl
  | k+1=>by rw [MKS,List.length_append,z1J m k,z2q];omega
theorem z6l (m:Int) (a:Nat):∀ b,MKS m (a+b)=MKS m a ++ MKS m b
  | 0=>by simp [MKS]
  | b+1=>by rw [← Nat.add_assoc,MKS,MKS,z6l m a b,List.append_assoc]
theorem zfl (m:Int) {k i:Nat} (hi:i<k):HSH (MKS m k) i=MK m:=by
  unfold HSH
  rw [show k=i+(1+(k - i - 1)) by omega,z6l,z6l,List.drop_left' (by rw [z1J]),List.take_left' (by rw [z1J])]
  rfl
def MKP (xs:List Value) (m:Int) (j:Nat):List Value:=z00 (MKS m j) ++ xs.drop (32*j)
theorem zdn (xs:List Value) (m:Int):MKP xs m 0=xs:=by simp [MKP,MKS,z00]
theorem zeB {xs:List Value} {n:Nat} (h:xs.length=32*n) (m:Int):MKP xs m n=z00 (MKS m n):=by
  unfold MKP
  rw [List.drop_of_length_le (by omega),List.append_nil]
theorem z5S {xs:List Value} {n j:Nat} (h:xs.length=32*n) (hj:j≤n) (m:Int):(MKP xs m j).length=32*n:=by
  unfold MKP
  rw [List.length_append,List.length_drop,z00,List.length_map,z1J]
  omega
theorem zdo {xs:List Value} {n j:Nat} (h:xs.length=32*n) (hj:j<n) (m:Int):z4H (MKP xs m j) (j*32) (z00 (MK m))=MKP xs m (j+1):=by
  have hl:(z00 (MK m)).length=32:=rfl
  have hk:(z00 (MKS m j)).length=j*32:=by rw [z00,List.length_map,z1J];omega
  rw [z85 _ _ _ (by rw [z5S h (by omega),hl];omega),hl]
  unfold MKP
  rw [List.take_left' hk,List.drop_append,List.drop_of_length_le (by omega),List.nil_append,hk,List.drop_drop,MKS,z0m]
  rw [show 32*j+(j*32+32 - j*32)=32*(j+1) by omega]
theorem z6J {o:Oper} {a:Act} {w w':World} {K:Act→World→Prop} {Q:Exit→Act→World→Prop} {v:Value} (hrun:(execOp a.eval o).run Tryz.prog w=.ok (.value v) w') (h:K (a.put o.dst v) w'):Oper.wp Tryz.prog o a w K Q:=by
  unfold Oper.wp
  rw [hrun]
  exact h
end Go.Proofs.YthdpkaiieomdoaaGreatDoor

namespace Go.Proofs.YthdpkaiieomdoaaGreatDoor
open Go.RowKit
set_option maxRecDepth 100000
theorem z0M {ops:Array Oper} {rest:List Oper} {o:Oper} {a:Act} {Q:Exit→Act→World→Prop} (w:World) (hgd:o.guard=none) (x y:Operand) (ho:o.op=.slice 26 x (some y) none none)
    (b off n c k:Nat) (hx:a.eval x=.slice (some ⟨b,off,none⟩) n c) (hy:a.eval y=.int .i64 (k:Int)) (hk:k≤n) (hc:n≤c)
    (h:wpList Tryz.prog ops Q rest (a.put o.dst (.slice (REST b off c k) (n - k) (c - k))) w):wpList Tryz.prog ops Q (o :: rest) a w:=by
  refine wpList_plain hgd fun K hK=>z6J ?_ (hK _ _ h)
  have k1:(k:Int)≤(n:Int):=by omega
  have k2:(n:Int)≤(c:Int):=by omega
  have k4:(k:Int)≤(c:Int):=by omega
  have k5:¬ (k:Int)<0:=by omega
  unfold execOp
  rw [ho]
  by_cases hck:c=k
  · have hr:REST b off c k=some ⟨b,off,none⟩:=by simp [REST,hck]
    have hn:n=k:=by omega
    rw [hr]
    subst hck hn
    simp only [Option.map_some,Option.map_none,hx,hy]
    clear hx hy h ho hK hgd
    go_simp
  · have hr:REST b off c k=some ⟨b,off+k,none⟩:=by simp [REST,hck]
    have hc1:¬ c - k=0:=by omega
    rw [hr]
    simp only [Option.map_some,Option.map_none,hx,hy]
    clear hx hy h ho hK hgd
    go_simp
end Go.Proofs.YthdpkaiieomdoaaGreatDoor

namespace Go.Proofs.YthdpkaiieomdoaaGreatDoor
open Go.RowKit
set_option maxRecDepth 100000
theorem zdp (a:Option Addr) (m c N:Nat) (hm:m≤1000000) (hs:m<32*N) (w:World):
    Calls Tryz.prog 68 #[.slice a m c,.int .i64 (N:Int)] w fun e w'=>e=.returned (.tuple #[.slice none 0 0,.int .i64 11])∧w=w':=by
  have q1:IntKind.i64.wrap ((m:Int) / 32)=(m:Int) / 32:=by rw [IntKind.wrap_i64];omega
  have q2:(m:Int).tdiv 32=(m:Int) / 32:=Int.tdiv_eq_ediv_of_nonneg (by omega)
  have k1:(m:Int) / 32<(N:Int):=by omega
  clear hm hs
  go_enter Tryz.func68,Tryz.ntmps68
  go_wp2
  go_ret2
  exact ⟨rfl,rfl⟩
theorem zdq (a:Option Addr) (m c N:Nat) (hm:m≤16000) (hN:N<2 ^ 40) (t:List Int) (w:World) (hB:Bytes w a m t):
    Calls Tryz.prog 68 #[.slice a m c,.int .i64 (N:Int)] w fun e w'=>∃ av cv,e=.returned (.tuple #[.slice av (TAKN t N).2.1 cv,.int .i64 (TAKN t N).1])∧w'.ownsRow w.heap.size 23 32 (.slice av (TAKN t N).2.1 cv) (TAKN t N).2.1 (z00 (TAKN t N).2.2)∧Below w.heap.size w w':=by
  by_cases h:N≤1000
  · refine (zeA a m c N (by omega) h t w hB).mono ?_
    rintro e w' ⟨v,rfl,ho,hb⟩
    obtain ⟨av,cv,rfl⟩:=zev ho
    exact ⟨av,cv,rfl,ho,hb⟩
  · have hs:m<32*N:=by omega
    have e1:TAKN t N=(11,0,[]):=by unfold TAKN;rw [if_pos (by rw [hB.1];exact hs)]
    rw [e1]
    refine (zdp a m c N (by omega) hs w).mono ?_
    rintro e w' ⟨rfl,rfl⟩
    exact ⟨none,0,rfl,z24 _ _,Below.refl _ _⟩
theorem DECM.die {w w':World} {A:MANS} {E:Int} (hA:A=MERR E) (hb:Below w.heap.size w w'):DECM w A (.returned (.tuple #[.agg zfG,.int .i64 E])) w':=by
  rw [hA]
  exact ⟨none,0,none,0,0,rfl,⟨rfl,.inl ⟨rfl,rfl⟩⟩,z24 _ _,rfl,hb⟩
end Go.Proofs.YthdpkaiieomdoaaGreatDoor

namespace Go.Proofs.YthdpkaiieomdoaaGreatDoor
set_option maxRecDepth 100000
theorem z5T {d:Int}:∀ (ps:List (Nat × Nat)) (A B:Nat) (L:List Nat) (lv nd:List Int) (i j:Nat),Tile A ps B→AMID A B L→RISES L→HSS i lv→HSS j nd→L.length≤i→(z2k ps L).length≤j→∀ x∈MUPS d ps L lv nd,0≤x∧x≤255
  | [],_,_,_,_,_,_,_,_,_,_,_,_,_,_=>fun x hx=>by cases hx
  | (h,k) :: ps,A,B,L,lv,nd,i,j,ht,hm,hR,hi,hj,h1,h2=>by
    obtain ⟨hN,hA,ht⟩:Node h k∧k*2 ^ h=A∧Tile ((k+1)*2 ^ h) ps B:=ht
    obtain ⟨r,hr⟩:=z3L hR ((k+1)*2 ^ h)
    have hn:=zaD ps hr
    have hle:=hr.le
    rw [hn,List.length_append] at h2
    have s:=z3M d h k (L.take r) lv nd i j (hm.take hR hr hA) hi hj (by rw [List.length_take];omega) (by omega)
    intro x hx
    rw [zbT ps hr] at hx
    rcases List.mem_append.1 hx with hx | hx
    · exact s.1.2 x hx
    · exact z5T ps ((k+1)*2 ^ h) B (L.drop r) _ _ _ _ ht (hm.drop hr) (hR.drop r) s.2.1 s.2.2 (by rw [List.length_take,List.length_drop];omega) (by omega) x hx
end Go.Proofs.YthdpkaiieomdoaaGreatDoor

namespace Go.Proofs.YthdpkaiieomdoaaGreatDoor
open Go.RowKit
set_option maxRecDepth 100000
structure MVAS (d:Int) (root:List Int) (N:Nat) (L:List Nat) (nl:Nat) (lv b:List Int) (V:Int):Prop where
  dec:(MDC b).1≠0→V=(MDC b).1
  size:(MDC b).1=0→(MDC b).2.1≠N→V=30
  index:(MDC b).1=0→(MDC b).2.1=N→(MDC b).2.2.1≠L→V=32
  count:(MDC b).1=0→(MDC b).2.1=N→(MDC b).2.2.1=L→nl≠L.length→V=70
  unlike:(MDC b).1=0→(MDC b).2.1=N→(MDC b).2.2.1=L→nl=L.length→z0u d N (FLD d (MUPS d (TPS N) L lv (MDC b).2.2.2) (PC N))≠root→V=80
  ok:(MDC b).1=0→(MDC b).2.1=N→(MDC b).2.2.1=L→nl=L.length→z0u d N (FLD d (MUPS d (TPS N) L lv (MDC b).2.2.2) (PC N))=root→V=0
theorem z3N {w:World} {B s n c:Nat} {t:TypeId} {a:Option Addr} {xs:List Value} (h:w.ownsRow B t s (.slice a n c) n xs):n≤c∧(a=none→c=0)∧∀ x,a=some x→x.block<w.heap.size∧x.spot=none:=by
  rcases h.2 with ⟨e,h0⟩ | ⟨g,cap,cur,e,hb,hg,hc⟩
  · cases e
    exact ⟨by omega,fun _=>rfl,(fun x e=>by cases e)⟩
  · cases e
    exact ⟨hc.1,(fun e=>by cases e),(fun x e=>by cases e;exact ⟨(Array.getElem?_eq_some_iff.1 hg).1,rfl⟩)⟩
theorem zaR (d:Int) (N:Nat) (hN:N≤4611686018427387904) (l:List Int):BAGA d N (PC N) l=(0,z0u d N (FLD d l (PC N))):=by
  unfold BAGA
  rw [if_neg (by omega),if_neg (by simp)]
end Go.Proofs.YthdpkaiieomdoaaGreatDoor

namespace Go.Proofs.YthdpkaiieomdoaaGreatDoor
open Go.RowKit
set_option maxRecDepth 100000
end Go.Proofs.YthdpkaiieomdoaaGreatDoor

namespace Go.Proofs.YthdpkaiieomdoaaGreatDoor
open Go.RowKit
set_option maxRecDepth 100000
end Go.Proofs.YthdpkaiieomdoaaGreatDoor

namespace Go.Proofs.YthdpkaiieomdoaaGreatDoor
open Go.RowKit
set_option maxRecDepth 100000
structure NUMD (w w':World) (g n cap:Nat) (L:List Nat):Prop where
  own:w'.ownsRow w.heap.size 24 1 (.slice (some ⟨g,0,none⟩) n cap) n (z0h L)
  room:n+1≤cap
  mark:w'.cell? ⟨g,n,none⟩=some (.int .u64 171)
  lt:g<w'.heap.size
  base:w.heap.size≤g
  below:Below w.heap.size w w'
end Go.Proofs.YthdpkaiieomdoaaGreatDoor

namespace Go.Proofs.YthdpkaiieomdoaaGreatDoor
open Go.RowKit
set_option maxRecDepth 100000
end Go.Proofs.YthdpkaiieomdoaaGreatDoor

namespace Go.Proofs.YthdpkaiieomdoaaGreatDoor
open Go.RowKit
set_option maxRecDepth 100000
end Go.Proofs.YthdpkaiieomdoaaGreatDoor

namespace Go.Proofs.YthdpkaiieomdoaaGreatDoor
open Go.RowKit
set_option maxRecDepth 100000
theorem z8Z {ops:Array Oper} {rest:List Oper} {o:Oper} {a:Act} {Q:Exit→Act→World→Prop} (w:World) (hgd:o.guard=none) (s x:Operand)
    (ho:o.op=.call {callee:=.builtin .append,args:=#[s,x],argTypes:=#[25,25]})
    (base z:Nat) (hs:a.eval s=.slice (some ⟨z,0,none⟩) 0 0) (hown:w.ownsRow base 23 32 (.slice (some ⟨z,0,none⟩) 0 0) 0 [])
    (y:Option Addr) (m c:Nat) (l:List Int) (hx:a.eval x=.slice y m c) (hF:Flat w y m l) (hc:y=none→c=0) (hb:m≤1000) (hbase:base≤w.heap.size)
    (h:∀ a1 c1 w',w'.ownsRow base 23 32 (.slice a1 m c1) m (z00 l)→w.grownBy w' (some z)→wpList Tryz.prog ops Q rest (a.put o.dst (.slice a1 m c1)) w'):wpList Tryz.prog ops Q (o :: rest) a w:=by
  refine z5N w hgd s x ho base (.slice (some ⟨z,0,none⟩) 0 0) 0 [] hs hown y m c l hx hF hc (by omega) hbase ?_
  rw [Nat.zero_add,List.nil_append]
  exact h
theorem z90 {w:World} {B n c g p:Nat} {l:List Int} (h:w.ownsRow B 23 32 (.slice (some ⟨g,0,none⟩) n c) n (z00 l)) (x:Int):(w.setCell ⟨g,p,none⟩ (.int .u8 x)).ownsRow B 23 32 (.slice (some ⟨g,0,none⟩) n c) n (z00 (l.set p x)):=by
  refine ⟨by have:=h.1;simpa [z00] using this,?_⟩
  rcases h.2 with ⟨e,_⟩ | ⟨g',cap,cur,e,hb,hg,h1,h2,h3,h4⟩
  · cases e
  · cases e
    refine .inr ⟨g,c,cur.setIfInBounds p (.int .u8 x),rfl,hb,Has.set (show Has w g cur 23 from hg) p _,h1,h2,by simpa using h3,?_⟩
    rw [Array.toList_setIfInBounds,List.take_set,h4]
    simp [z00,List.map_set]
def INCH (lv:List Int):Nat→List Int
  | 0=>lv
  | i+1=>(INCH lv i).set (i*32) (((INCH lv i).getD (i*32) 0+1) % 256)
theorem z59 (lv:List Int):∀ i,(INCH lv i).length=lv.length
  | 0=>rfl
  | i+1=>by rw [INCH,List.length_set,z59 lv i]
theorem z2C {lv:List Int} (h:∀ x∈lv,0≤x∧x≤255):∀ i,∀ x∈INCH lv i,0≤x∧x≤255
  | 0=>h
  | i + 1=>fun x hx=>by
    rcases List.mem_or_eq_of_mem_set hx with hx | hx
    · exact z2C h i x hx
    · subst hx
      omega
end Go.Proofs.YthdpkaiieomdoaaGreatDoor
