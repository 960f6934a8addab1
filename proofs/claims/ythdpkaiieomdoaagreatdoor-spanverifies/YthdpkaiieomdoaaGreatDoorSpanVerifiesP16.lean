/- Texts of SpanVerifies, one behind the other: HashSame, HashRefBegin, HashRefStates, HashRefSum. -/
import Derived.Deep.MidRow
import Derived.Deep.RegionLaw
import Derived.Test.YthdpkaiieomdoaaGreatDoorSpanVerifiesP13
import Derived.Test.YthdpkaiieomdoaaGreatDoorSpanVerifiesP15
namespace Go.Proofs.YthdpkaiieomdoaaGreatDoor.HX
open Go.RowKit
set_option maxRecDepth 100000
theorem zdg {l k:List Nat} {n:Nat} (hl:l.length=n) (hk:k.length=n) (h:∀ j,j<n→l.getD j 0=k.getD j 0):l=k:=by
  apply List.ext_getElem (by omega)
  intro i h1 h2
  have:=h i (by omega)
  simpa [List.getD,h1,h2] using this
theorem z4h (a b:Option Addr) (n m ca cb:Nat) (l k:List Nat) (w:World) (hA:Text w a n l) (hB:Text w b m k) (hn:n<2 ^ 40):Calls Tryz.prog 20 #[.slice a n ca,.slice b m cb] w fun e w'=>e=.returned (.bool (decide (l=k)))∧Below w.heap.size w w'∧w'.heap.size=w.heap.size:=by
  by_cases hnm:n=m
  · subst hnm
    rcases Nat.eq_zero_or_pos n with h | h
    · subst h
      have hd:decide (l=k)=true:=by
        rw [List.eq_nil_of_length_eq_zero hA.1,List.eq_nil_of_length_eq_zero hB.1]
        rfl
      rw [hd]
      clear hA hB hd
      go_enter Tryz.func20,Tryz.ntmps20
      go_wp2
      refine wp_loop_rounds 1 ?_
      rw [rounds_succ]
      go_wp2
      go_ret
      exact ⟨rfl,Below.refl _ _,rfl⟩
    · obtain ⟨ba,oa,rfl,la,hca⟩:=hA.2.1 h
      obtain ⟨bb,ob,rfl,lb,hcb⟩:=hB.2.1 h
      have HC:Aside ((∀ i,i<n→w.cell? ⟨ba,oa+i,none⟩=some (.int .u8 ((l.getD i 0:Nat):Int)))∧(∀ i,i<n→w.cell? ⟨bb,ob+i,none⟩=some (.int .u8 ((k.getD i 0:Nat):Int)))∧ba<w.heap.size∧bb<w.heap.size∧l.length=n∧k.length=n):=⟨hca,hcb,la,lb,hA.1,hB.1⟩
      clear hA hB hca hcb la lb
      obtain ⟨D,hD⟩:∃ D,D=decide (l=k):=⟨_,rfl⟩
      rw [← hD]
      go_enter Tryz.func20,Tryz.ntmps20
      go_wp2
      go_loopg [5] n (fun g s5 wx=>∃ i:Nat,i+g=n∧s5=.int .i64 i∧Aside (Below w.heap.size w wx∧wx.heap.size=w.heap.size∧∀ j,j<i→l.getD j 0=k.getD j 0))
      case atStart=>exact ⟨0,by omega,rfl,Below.refl _ _,rfl,fun j hj=>by omega⟩
      case round=>
        obtain ⟨i,hig,rfl,A⟩:=hrel
        cases gk with
        | zero=>
          obtain rfl:i=n:=by omega
          have hd:Aside (D=true):=by
            show D=true
            rw [hD,decide_eq_true_iff]
            exact zdg HC.out.2.2.2.2.1 HC.out.2.2.2.2.2 A.out.2.2
          go_wp2
          go_ret
          exact ⟨by rw [hd.out];rfl,A.out.1,A.out.2.1⟩
        | succ g=>
          have hlt:(i:Int)<(n:Int):=by omega
          have h1:wr.cell? ⟨ba,oa+i,none⟩=some (.int .u8 ((l.getD i 0:Nat):Int)):=(A.out.1.cell (by exact HC.out.2.2.1)).trans (HC.out.1 i (by omega))
          have h2:wr.cell? ⟨bb,ob+i,none⟩=some (.int .u8 ((k.getD i 0:Nat):Int)):=(A.out.1.cell (by exact HC.out.2.2.2.1)).trans (HC.out.2.1 i (by omega))
          by_cases he:l.getD i 0=k.getD i 0
          · have B:Aside (l.getD i 0=k.getD i 0∧i+(g+1)=n):=⟨he,hig⟩
            rw [← he] at h2
            clear he hig
            generalize l.getD i 0=v at h1 h2
            go_wp2
            go_quiet (fail)
            go_wp2
            go_roundg g
            case measure=>omega
            case rel=>
              refine ⟨i+1,by have:=B.out.2;omega,by go_num,below_drewN A.out.1 _,A.out.2.1,fun j hj=>?_⟩
              by_cases e:j=i
              · rw [e]
                exact B.out.1
              · exact A.out.2.2 j (by omega)
          · have hd:Aside (D=false):=by
              show D=false
              rw [hD,decide_eq_false_iff_not]
              intro e
              rw [e] at he
              exact he rfl
            have hne:¬ ((l.getD i 0:Nat):Int)=((k.getD i 0:Nat):Int):=by omega
            clear he
            generalize l.getD i 0=v1 at h1 hne
            generalize k.getD i 0=v2 at h2 hne
            go_wp2
            go_quiet (fail)
            go_wp2
            go_ret
            exact ⟨by rw [hd.out];rfl,below_drewN A.out.1 _,A.out.2.1⟩
  · have hne:¬ (n:Int)=(m:Int):=by omega
    have hd:decide (l=k)=false:=by
      rw [decide_eq_false_iff_not]
      intro e
      rw [e] at hA
      exact hnm (hA.1.symm.trans hB.1)
    rw [hd]
    clear hA hB hd
    go_enter Tryz.func20,Tryz.ntmps20
    go_wp2
    go_ret
    exact ⟨rfl,Below.refl _ _,rfl⟩
end Go.Proofs.YthdpkaiieomdoaaGreatDoor.HX

namespace Go.Proofs.YthdpkaiieomdoaaGreatDoor.HX
open Go.RowKit
set_option maxRecDepth 100000
theorem z8O:(((((((((((((((((((((((((((((((((UARR .u8 32 fun _=>0).setIfInBounds 0 (.int .u8 106)).setIfInBounds 1 (.int .u8 9)).setIfInBounds 2 (.int .u8 230)).setIfInBounds 3 (.int .u8 103)).setIfInBounds 4 (.int .u8 187)).setIfInBounds 5 (.int .u8 103)).setIfInBounds 6 (.int .u8 174)).setIfInBounds 7 (.int .u8 133)).setIfInBounds 8 (.int .u8 60)).setIfInBounds 9 (.int .u8 110)).setIfInBounds 10 (.int .u8 243)).setIfInBounds 11 (.int .u8 114)).setIfInBounds 12 (.int .u8 165)).setIfInBounds 13 (.int .u8 79)).setIfInBounds 14 (.int .u8 245)).setIfInBounds 15 (.int .u8 58)).setIfInBounds 16 (.int .u8 81)).setIfInBounds 17 (.int .u8 14)).setIfInBounds 18 (.int .u8 82)).setIfInBounds 19 (.int .u8 127)).setIfInBounds 20 (.int .u8 155)).setIfInBounds 21 (.int .u8 5)).setIfInBounds 22 (.int .u8 104)).setIfInBounds 23 (.int .u8 140)).setIfInBounds 24 (.int .u8 31)).setIfInBounds 25 (.int .u8 131)).setIfInBounds 26 (.int .u8 217)).setIfInBounds 27 (.int .u8 171)).setIfInBounds 28 (.int .u8 91)).setIfInBounds 29 (.int .u8 224)).setIfInBounds 30 (.int .u8 205)).setIfInBounds 31 (.int .u8 25))=UARR .u8 32 (z0a fun i=>BEGIN.getD i 0):=by kernel_rfl
theorem z8P (d:Int) (w:World):Calls Tryz.prog 89 #[.int .i64 d] w fun e w'=>e=.returned (.agg (UARR .u8 32 (z21 d)))∧Below w.heap.size w w':=by
  have cc:=z6F d (z0a fun i=>BEGIN.getD i 0)
  have hz:=z0T
  go_enter Tryz.func89,Tryz.ntmps89
  go_wp2_with fail
  rw [z8O]
  refine (cc _).mono ?_
  rintro e w9 ⟨rfl,hb9⟩
  have hC:z0z d (z0a fun i=>BEGIN.getD i 0)=z21 d:=rfl
  rw [hC]
  clear cc hC hz
  have Y:Aside (Below w.heap.size w w9∧Has w9 w.heap.size (UARR .u8 32 fun _=>0) 23):=⟨((Below.refl _ _).alloc (Nat.le_refl _) _).trans (hb9.mono (by simp)),(Has.new w _ _).keep hb9⟩
  clear hb9
  go_wp2_with (first | (refine wpList_store_row rfl 23 _ _ rfl _ _ rfl rfl _ _ Y.out.2 (z02 _) (by rw [z01,z01]) (z0e _ _ _) ?_))
  refine bodyPost_ret (v:=.agg (UARR .u8 32 (z21 d))) ?_ rfl ⟨rfl,z04 Y.out.1 (Nat.le_refl _) _⟩
  exact results_cell_row rfl _ _ w.heap.size 23 _ (0,0) _ rfl (Y.out.2.row _) Tryz.underlying23 rfl (z02 _)
end Go.Proofs.YthdpkaiieomdoaaGreatDoor.HX

namespace Go.Proofs.YthdpkaiieomdoaaGreatDoor.HX
open Go.RowKit
set_option maxRecDepth 100000
def STS (d:Int) (L:List Nat):Nat→List Value
  | 0=>z06 .u8 32 (z0l d L 0)
  | k+1=>STS d L k ++ z06 .u8 32 (z0l d L (k+1))
theorem z2B (d:Int) (L:List Nat):∀ k,(STS d L k).length=(k+1)*32
  | 0=>by rw [STS,z08]
  | k+1=>by rw [STS,List.length_append,z2B d L k,z08];omega
theorem z9E (d:Int) (L:List Nat):∀ k j i,j≤k→i<32→(STS d L k)[j*32+i]?=some (.int .u8 ((z0l d L j i:Nat):Int))
  | 0,j,i,hj,hi=>by
    obtain rfl:j=0:=by omega
    rw [STS,Nat.zero_mul,Nat.zero_add,z1e _ _ _ _ hi]
  | k + 1,j,i,hj,hi=>by
    rw [STS]
    by_cases h:j≤k
    · rw [List.getElem?_append_left (by rw [z2B];omega),z9E d L k j i h hi]
    · obtain rfl:j=k+1:=by omega
      rw [List.getElem?_append_right (by rw [z2B];omega),z2B,show (k+1)*32+i - (k+1)*32=i by omega,z1e _ _ _ _ hi]
theorem z3J {k:IntKind} {n:Nat} {f:Nat→Nat} {j:Nat} {v:Value} (h:(z06 k n f)[j]?=some v):j<n∧v=.int k ((f j:Nat):Int):=by
  have hj:j<n:=by have:=(List.getElem?_eq_some_iff.1 h).1;rw [z08] at this;exact this
  rw [z1e _ _ _ _ hj] at h
  exact ⟨hj,(Option.some.inj h).symm⟩
theorem z55 {w:World} {base g k cap:Nat} {d:Int} {L:List Nat} (h:w.ownsRow base 23 32 (.slice (some ⟨g,0,none⟩) (k+1) cap) (k+1) (STS d L k)) (j:Nat) (hj:j≤k):w.rangeAt g (j*32) (z06 .u8 32 (z0l d L j)):=fun i v hv=>by
  obtain ⟨hi,rfl⟩:=z3J hv
  rw [h.cellAt (j*32+i) (by omega),z9E d L k j i hj hi]
theorem z8Q {w:World} {base g m cap:Nat} {L:List Nat} (h:w.ownsRow base 147 64 (.slice (some ⟨g,0,none⟩) m cap) m (BY L)) (hL:L.length=64*m) (t:Nat) (ht:t<m):w.rangeAt g (t*64) (z06 .u8 64 (BLK L t)):=fun i v hv=>by
  obtain ⟨hi,rfl⟩:=z3J hv
  rw [h.cellAt (t*64+i) (by omega),z7N _ _ (by omega)]
  unfold BLK
  rw [if_pos hi,Nat.mul_comm]
theorem z3e:(Tryz.prog.info? 23).map (fun i=>(i.zero,i.size,i.bytes))=some (some (.agg (UARR .u8 32 fun _=>0)),32,32):=by kernel_rfl
theorem z4E (w:World) (base:Nat) (hb:base≤w.heap.size) (f:Nat→Nat):(w.alloc (.cells (UARR .u8 32 f) 23)).ownsRow base 23 32 (.slice (some ⟨w.heap.size,0,none⟩) 1 1) 1 (z06 .u8 32 f):=
  ⟨by rw [z08],.inr ⟨w.heap.size,1,UARR .u8 32 f,rfl,hb,by first | exact (Has.new w _ _) | exact (Has.new w _ _).1 | simp,by decide,by decide,by rw [z01],by rw [z0q,List.take_of_length_le (by rw [z08];decide)]⟩⟩
theorem zdh {ops:Array Oper} {o:Oper} {a:Act} {K:Act→World→Prop} {Q:Exit→Act→World→Prop} {E:Prop} (w:World) (hg:o.guard=none) (t e:TypeId) (x:Operand) (ho:o.op=.buildSlice t 1 #[(0,x)]) (C:Array Value) (hx:a.eval x=.agg C) (n:Nat) (z:Value) (by':Nat)
    (hu:Tryz.prog.underlying t=some (.slice e)) (hi:(Tryz.prog.info? e).map (fun i=>(i.zero,i.size,i.bytes))=some (some z,n,by')) (hC:C.size=n) (hz:z.cells.size=n) (hn:0<n) (hs:n≤1000)
    (h:K (a.put o.dst (.slice (some ⟨w.heap.size,0,none⟩) 1 1)) (w.alloc (.cells C e))):if Region.wanted o (yielded ops a.tmps)=true then Oper.wp Tryz.prog o a w K Q else E:=by
  have hw:Region.wanted o (yielded ops a.tmps)=true:=by simp [Region.wanted,hg]
  rw [if_pos hw]
  obtain ⟨i,hie,hz',hs1,_⟩:=info_parts hi
  refine wp_buildSlice t e 1 _ ho C i z hu hie hz' (by rw [hs1];omega) (by rw [hs1];omega) ?_ h
  have:=Great.fill_whole (s:=n) hn [.agg C] ((Array.range (1*i.size)).map (z.cells[· % z.cells.size]!)) (fun v hv=>by simp at hv;subst hv;exact hC) (by simp [hs1])
  simp [Value.cells] at this
  rw [hs1]
  simp [hx]
  rw [hs1] at this
  exact this
theorem z22 {ops:Array Oper} {o:Oper} {a:Act} {w:World} {K:Act→World→Prop} {Q:Exit→Act→World→Prop} {E:Prop} (hg:o.guard=none) (ty:TypeId) (x:Operand) (ho:o.op=.load ty x)
    (b k:Nat) (hx:a.eval x=.pointer (some ⟨b,k,none⟩)) (cs:List Value) (C:Array Value) (hC:cs.toArray=C) (d:TypeDesc) (hc:w.rangeAt b k cs)
    (hu:Tryz.prog.underlying ty=some d) (hd:d.isRow=true) (hi:(Tryz.prog.info? ty).map (·.size)=some cs.length)
    (h:K (a.put o.dst (.agg C)) w):if Region.wanted o (yielded ops a.tmps)=true then Oper.wp Tryz.prog o a w K Q else E:=by
  have hw:Region.wanted o (yielded ops a.tmps)=true:=by simp [Region.wanted,hg]
  rw [if_pos hw]
  subst hC
  exact wp_load_mid ty x ho b k hx cs d hc hu hd hi h
theorem zbQ {ops:Array Oper} {o:Oper} {a:Act} {K:Act→World→Prop} {Q:Exit→Act→World→Prop} {E:Prop} (w:World) (f:Nat→Nat) (hgd:o.guard=none) (s x:Operand)
    (ho:o.op=.call {callee:=.builtin .append,args:=#[s,x],argTypes:=#[25,25]})
    (base:Nat) (v:Value) (n:Nat) (xs:List Value) (hs:a.eval s=v) (hown:w.ownsRow base 23 32 v n xs)
    (hx:a.eval x=.slice (some ⟨w.heap.size,0,none⟩) 1 1) (hb:n≤2 ^ 30) (hbase:base≤w.heap.size)
    (h:∀ g cap w',w'.ownsRow base 23 32 (.slice (some ⟨g,0,none⟩) (n+1) cap) (n+1) (xs ++ z06 .u8 32 f)→(w.alloc (.cells (UARR .u8 32 f) 23)).grownBy w' v.ownBlock→K (a.put o.dst (.slice (some ⟨g,0,none⟩) (n+1) cap)) w'):
    if Region.wanted o (yielded ops a.tmps)=true then Oper.wp Tryz.prog o a (w.alloc (.cells (UARR .u8 32 f) 23)) K Q else E:=by
  obtain ⟨i,hi,hz,hs1,hby⟩:=info_parts z3e
  refine step_append_lies _ hgd s x 25 ho base 23 i _ 32 32 Tryz.underlying25 hi hz hs1 hby (by simp [Value.cells,z01]) (by decide) v n xs hs (hown.alloc _) ⟨w.heap.size,0,none⟩ 1 1 (z06 .u8 32 f) hx (by rw [z08]) ?_ (zbA _ _ _) (by decide) (by simp only [maxLen];omega) (by omega) (by simp;omega) (w.heap.size+1) (by simp) ?_
  · intro j u hj
    obtain ⟨hj32,rfl⟩:=z3J hj
    rw [z0H,Nat.zero_add,(Has.new w _ _).cell j,z07 _ _ _ _ hj32]
  · intro g cap w' h1 h2 _ _
    exact h g cap w' h1 h2
theorem z3m {ops:Array Oper} {Q:Exit→Act→World→Prop} {md:Region.Mode} {fuel:Nat} {listed:Array Bool} {a:Act} {w:World} {o:Oper} (i:Nat) (hr:Region.ready md ops listed=[i]) (ho:ops[i]?=some o)
    (h:∀ K':Act→World→Prop,(∀ a w,wpAny Tryz.prog md ops Q fuel (listed.setIfInBounds i true) a w→K' a w)→if Region.wanted o (yielded ops a.tmps)=true then Oper.wp Tryz.prog o a w K' Q else K' (a.put o.dst undef) w):wpAny Tryz.prog md ops Q (fuel+1) listed a w:=
  wpAny_ready hr (by simp) (AllReady.cons ho h AllReady.nil)
theorem z30 {ops:Array Oper} {Q:Exit→Act→World→Prop} {md:Region.Mode} {fuel:Nat} {listed:Array Bool} {a a':Act} {w:World} (fuel':Nat) (listed':Array Bool) (hf:fuel=fuel') (hl:listed=listed') (ha:a=a') (h:wpAny Tryz.prog md ops Q fuel' listed' a' w):wpAny Tryz.prog md ops Q fuel listed a w:=by
  subst hf hl ha
  exact h
theorem z5m (f:Nat→Nat):(Tryz.prog.info? 23).map (·.size)=some (z06 .u8 32 f).length:=by rw [z08];exact z0B
theorem z6G (f:Nat→Nat):(Tryz.prog.info? 147).map (·.size)=some (z06 .u8 64 f).length:=by rw [z08];exact z3y
set_option maxHeartbeats 400000 in
theorem z7T (d:Int) (B:Nat) (v:Value) (m:Nat) (L:List Nat) (w:World) (hA:w.ownsRow B 147 64 v m (BY L)) (hL:L.length=64*m) (hsm:Small8 L) (hm:m<2 ^ 30):Calls Tryz.prog 46 #[.int .i64 d,v] w fun e w'=>
    ∃ v',e=.returned v'∧w'.ownsRow w.heap.size 23 32 v' (m+1) (STS d L m)∧Below w.heap.size w w':=by
  obtain ⟨a,c,rfl,hform⟩:=z3v hA
  have cb:=z8P d
  have H:Aside (w.ownsRow B 147 64 (.slice a m c) m (BY L)∧L.length=64*m∧Small8 L∧m<2 ^ 30∧(0<m→∃ g,a=some ⟨g,0,none⟩)):=⟨hA,hL,hsm,hm,hform⟩
  clear hA hL hsm hm hform
  go_enter Tryz.func46,Tryz.ntmps46
  go_wp2_with (first | (go_at_call 89;refine (cb _).mono ?_;rintro e w1 ⟨rfl,hb1⟩) | (refine z17 _ rfl 25 23 (.tmp 8) rfl (UARR .u8 32 (z21 d)) rfl 32 _ _ Tryz.underlying25 z3e (z01 _ _ _) (by simp [Value.cells,z01]) (by decide) (by decide) ?_))
  have S:Aside ((w1.alloc (.cells (UARR .u8 32 (z21 d)) 23)).ownsRow w.heap.size 23 32 (.slice (some ⟨w1.heap.size,0,none⟩) 1 1) 1 (STS d L 0)∧Below w.heap.size w (w1.alloc (.cells (UARR .u8 32 (z21 d)) 23))):=⟨z4E w1 _ hb1.size _,hb1.alloc hb1.size _⟩
  clear hb1 cb
  generalize w1.alloc (.cells (UARR .u8 32 (z21 d)) 23)=w2 at *
  generalize w1.heap.size=gb at *
  go_loopg [5,6] m (fun q s5 s6 wx=>∃ t:Nat,s6=.int .i64 (t:Int)∧Aside (t+q=m∧wx.ownsRow w.heap.size 23 32 s5 (t+1) (STS d L t)∧Below w.heap.size w wx))
  case atStart=>exact ⟨0,rfl,by omega,S.out⟩
  case round=>
    obtain ⟨t,rfl,A⟩:=hrel
    clear S
    cases gk with
    | zero=>
      obtain rfl:t=m:=by have:=A.out.1;omega
      have hlt:¬ (t:Int)<(t:Int):=by omega
      go_wp2
      go_ret
      exact ⟨_,rfl,A.out.2⟩
    | succ q=>
      have htm:t<m:=by have:=A.out.1;omega
      have hlt:(t:Int)<(m:Int):=by omega
      obtain ⟨gl,cap,hv, -,hgl⟩:=A.out.2.1.form (by omega)
      subst hv
      obtain ⟨gb,hgb⟩:=H.out.2.2.2.2 (by omega)
      subst hgb
      have et:wrap64 ((t:Int)+1)=((t+1:Nat):Int):=by have:=H.out.2.2.2.1;unfold wrap64;omega
      have ht0:¬ (t:Int)<0:=by omega
      have ht1:(t:Int)<((t+1:Nat):Int):=by omega
      have hr1:wr.drew.rangeAt gl (t*32) (z06 .u8 32 (z0l d L t)):=(World.rangeAt_drew _ _ _ _).2 (z55 A.out.2.1 t (Nat.le_refl t))
      have hr2:wr.drew.rangeAt gb (t*64) (z06 .u8 64 (BLK L t)):=(World.rangeAt_drew _ _ _ _).2 (z8Q (z7P H.out.1 A.out.2.2) H.out.2.1 t htm)
      have cc:=fun W=>z6e d (z0l d L t) (BLK L t) (z2W d L t) (zbB H.out.2.2.1 t) W
      obtain ⟨T,hT⟩:∃ T,t+1=T:=⟨_,rfl⟩
      rw [hT] at ht1 et
      have R:Aside (t+1=T∧T+q=m∧wr.ownsRow w.heap.size 23 32 (.slice (some ⟨gl,0,none⟩) T cap) T (STS d L t)∧Below w.heap.size w wr∧t<m∧m<2 ^ 30):=by
        rw [← hT]
        exact ⟨rfl,by have:=A.out.1;omega,A.out.2.1,A.out.2.2,htm,H.out.2.2.2.1⟩
      rw [hT]
      clear A hT htm
      go_wp2
      refine wp_region_any (by kernel_rfl) ?_
      change wpAny _ _ _ _ _ _ _ (World.drew _)
      refine wpAny_take (i:=0) (v:=.slice (some ⟨gl,0,none⟩) T cap) rfl (by kernel_rfl) (by kernel_rfl) (by kernel_rfl) (fun _ _ _ h=>h) (Or.inl ⟨by rfl,fun W=>by go_simp⟩) ?_
      refine wpAny_take (i:=1) (v:=.int .i64 d) rfl (by kernel_rfl) (by kernel_rfl) (by kernel_rfl) (fun _ _ _ h=>h) (Or.inl ⟨by rfl,fun W=>by go_simp⟩) ?_
      refine wpAny_take (i:=2) (v:=.slice (some ⟨gl,0,none⟩) T cap) rfl (by kernel_rfl) (by kernel_rfl) (by kernel_rfl) (fun _ _ _ h=>h) (Or.inl ⟨by rfl,fun W=>by go_simp⟩) ?_
      refine wpAny_take (i:=3) (v:=.int .i64 (t:Int)) rfl (by kernel_rfl) (by kernel_rfl) (by kernel_rfl) (fun _ _ _ h=>h) (Or.inl ⟨by rfl,fun W=>by go_simp⟩) ?_
      refine wpAny_take (i:=4) (v:=.pointer (some ⟨gl,t*32,none⟩)) rfl (by kernel_rfl) (by kernel_rfl) (by kernel_rfl) (fun _ _ _ h=>h) (Or.inl ⟨by rfl,fun W=>by go_simp⟩) ?_
      refine wpAny_take (i:=6) (v:=.slice (some ⟨gb,0,none⟩) m c) rfl (by kernel_rfl) (by kernel_rfl) (by kernel_rfl) (fun _ _ _ h=>h) (Or.inl ⟨by rfl,fun W=>by go_simp⟩) ?_
      refine wpAny_take (i:=7) (v:=.int .i64 (t:Int)) rfl (by kernel_rfl) (by kernel_rfl) (by kernel_rfl) (fun _ _ _ h=>h) (Or.inl ⟨by rfl,fun W=>by go_simp⟩) ?_
      refine wpAny_take (i:=8) (v:=.pointer (some ⟨gb,t*64,none⟩)) rfl (by kernel_rfl) (by kernel_rfl) (by kernel_rfl) (fun _ _ _ h=>h) (Or.inl ⟨by rfl,fun W=>by go_simp⟩) ?_
      refine z30 (a':=?A2) 6 #[true,true,true,true,true,false,true,true,true,false,false,false,false,false] (by kernel_rfl) (by kernel_rfl) ?HA ?HW
      case HA=>
        go_simp
        exact rfl
      refine wpAny_ready (rs:=[5,9]) (by kernel_rfl) (by simp) ?_
      refine AllReady.cons (o:=⟨some 21,.load 23 (.tmp 20),23,"ref.go:159",#[⟨4,.data⟩],none⟩) rfl (fun K hK=>?_) (AllReady.cons (o:=⟨some 25,.load 147 (.tmp 24),147,"ref.go:159",#[⟨8,.data⟩],none⟩) rfl (fun K hK=>?_) AllReady.nil)
      focus
        refine z22 (by rfl) 23 (.tmp 20) (by rfl) gl (t*32) (by rfl) (z06 .u8 32 (z0l d L t)) (UARR .u8 32 (z0l d L t)) (z0q _ _ _).symm (.array 32 5) hr1 Tryz.underlying23 (by rfl) (z5m _) ?_
        refine hK _ _ ?_
        clear hK K
        refine z30 (a':=?A11) 5 #[true,true,true,true,true,true,true,true,true,false,false,false,false,false] (by kernel_rfl) (by kernel_rfl) ?HA11 ?HW11
        case HA11=>
          go_simp
          exact rfl
        refine z3m (o:=⟨some 25,.load 147 (.tmp 24),147,"ref.go:159",#[⟨8,.data⟩],none⟩) 9 (by kernel_rfl) rfl (fun K hK=>?_)
        refine z22 (by rfl) 147 (.tmp 24) (by rfl) gb (t*64) (by rfl) (z06 .u8 64 (BLK L t)) (UARR .u8 64 (BLK L t)) (z0q _ _ _).symm (.array 64 5) hr2 Tryz.underlying147 (by rfl) (z6G _) ?_
        refine hK _ _ ?_
        clear hK K
        refine z30 (a':=?A12) 4 #[true,true,true,true,true,true,true,true,true,true,false,false,false,false] (by kernel_rfl) (by kernel_rfl) ?HA12 ?HW12
        case HA12=>
          go_simp
          exact rfl
      rotate_left
      focus
        refine z22 (by rfl) 147 (.tmp 24) (by rfl) gb (t*64) (by rfl) (z06 .u8 64 (BLK L t)) (UARR .u8 64 (BLK L t)) (z0q _ _ _).symm (.array 64 5) hr2 Tryz.underlying147 (by rfl) (z6G _) ?_
        refine hK _ _ ?_
        clear hK K
        refine z30 (a':=?A13) 5 #[true,true,true,true,true,false,true,true,true,true,false,false,false,false] (by kernel_rfl) (by kernel_rfl) ?HA13 ?HW13
        case HA13=>
          go_simp
          exact rfl
        refine z3m (o:=⟨some 21,.load 23 (.tmp 20),23,"ref.go:159",#[⟨4,.data⟩],none⟩) 5 (by kernel_rfl) rfl (fun K hK=>?_)
        refine z22 (by rfl) 23 (.tmp 20) (by rfl) gl (t*32) (by rfl) (z06 .u8 32 (z0l d L t)) (UARR .u8 32 (z0l d L t)) (z0q _ _ _).symm (.array 32 5) hr1 Tryz.underlying23 (by rfl) (z5m _) ?_
        refine hK _ _ ?_
        clear hK K
        refine z30 (a':=?A14) 4 #[true,true,true,true,true,true,true,true,true,true,false,false,false,false] (by kernel_rfl) (by kernel_rfl) ?HA14 ?HW14
        case HA14=>
          go_simp
          exact rfl
      all_goals
        refine z3m (o:=⟨some 26,.call {callee:=.value (.func 90),args:=#[.tmp 17,.tmp 21,.tmp 25],argTypes:=#[3,23,147]},23,"ref.go:159",#[⟨1,.data⟩,⟨5,.data⟩,⟨9,.data⟩],none⟩) 10 (by kernel_rfl) rfl (fun K hK=>?_)
        rw [if_pos (by rfl)]
        go_simp
        refine (cc _).mono ?_
        rintro e w3 ⟨rfl,hb3⟩
        refine hK _ _ ?_
        clear hK K
        have R3:Aside (w3.ownsRow w.heap.size 23 32 (.slice (some ⟨gl,0,none⟩) T cap) T (STS d L t)∧Below w.heap.size w w3∧T≤2 ^ 30):=⟨z7P (w:=wr.drew) R.out.2.2.1 hb3,R.out.2.2.2.1.drew.trans (hb3.mono R.out.2.2.2.1.size),by have:=R.out.1;have:=R.out.2.2.2.2;omega⟩
        clear hb3
        refine z3m (o:=⟨some 27,.buildSlice 25 1 #[(0,.tmp 26)],25,"ref.go:159",#[⟨10,.data⟩],none⟩) 11 (by kernel_rfl) rfl (fun K hK=>?_)
        refine zdh w3 (by rfl) 25 23 (.tmp 26) (by rfl) (UARR .u8 32 (COMP d (z0l d L t) (BLK L t))) (by rfl) 32 _ _ Tryz.underlying25 z3e (z01 _ _ _) (by simp [Value.cells,z01]) (by decide) (by decide) ?_
        refine hK _ _ ?_
        clear hK K
        apply z30 2 #[true,true,true,true,true,true,true,true,true,true,true,true,false,false] (by kernel_rfl) (by kernel_rfl)
        · go_simp
          exact rfl
        refine z3m (o:=⟨some 28,.call {callee:=.builtin .append,args:=#[.tmp 16,.tmp 27],argTypes:=#[25,25]},25,"ref.go:159",#[⟨0,.data⟩,⟨11,.data⟩,⟨10,.chain⟩],none⟩) 12 (by kernel_rfl) rfl (fun K hK=>?_)
        refine zbQ w3 (COMP d (z0l d L t) (BLK L t)) (by rfl) (.tmp 16) (.tmp 27) (by rfl) w.heap.size (.slice (some ⟨gl,0,none⟩) T cap) T (STS d L t) (by rfl) R3.out.1 (by rfl) R3.out.2.2 R3.out.2.1.size ?_
        intro g9 cap9 w9 hown9 hgrow9
        refine hK _ _ ?_
        clear hK K
        apply z30 1 #[true,true,true,true,true,true,true,true,true,true,true,true,true,false] (by kernel_rfl) (by kernel_rfl)
        · go_simp
          exact rfl
        refine wpAny_take (i:=13) (v:=.slice (some ⟨g9,0,none⟩) (T+1) cap9) rfl (by kernel_rfl) (by kernel_rfl) (by kernel_rfl) (fun _ _ _ h=>h) (Or.inl ⟨by rfl,fun W=>by go_simp⟩) ?_
        refine wpAny_done (by kernel_rfl) ?_ _
        have T2:Aside (w9.ownsRow w.heap.size 23 32 (.slice (some ⟨g9,0,none⟩) (T+1) cap9) (T+1) (STS d L T)∧Below w.heap.size w w9):=by
          obtain ⟨r1,r2,r3,r4,r5⟩:=R.out
          refine ⟨?_,(R3.out.2.1.alloc R3.out.2.1.size _).grown hgrow9 (by have:=R3.out.2.1.size;simp;omega) (fun k e=>(R3.out.1.lt k e).1)⟩
          have e:STS d L T=STS d L t ++ z06 .u8 32 (COMP d (z0l d L t) (BLK L t)):=by rw [← r1];rfl
          rw [e]
          exact hown9
        clear hown9 hgrow9 R3
        go_wp2
        go_roundg q
        case measure=>exact Nat.lt_succ_self _
        case rel=>exact ⟨T,by first | rfl | (rw [et]),R.out.2.1,T2.out⟩
end Go.Proofs.YthdpkaiieomdoaaGreatDoor.HX

namespace Go.Proofs.YthdpkaiieomdoaaGreatDoor.HX
open Go.RowKit
set_option maxRecDepth 100000
theorem zdi {w:World} {base n c:Nat} {a:Option Addr} {l:List Nat} (h:w.ownsRow base 5 1 (.slice a n c) n (BY l)) (hl:Small8 l):Text w a n l:=Text.of_bytes (z1n h (z1t hl)).1
theorem zes {w:World} {base n c s:Nat} {a:Option Addr} {t:TypeId} {xs:List Value} (h:w.ownsRow base t s (.slice a n c) n xs):a=none→c=0:=fun ha=>by
  rcases h.2 with ⟨hv,_⟩ | ⟨g,cap,cur,hv,_⟩
  · simp at hv
    exact hv.2.2
  · subst ha
    simp at hv
theorem z8R (l:List Nat):(HFUL l).length=64*((HFUL l).length / 64):=by rw [z3d];omega
theorem zay {l:List Nat} (h:Small8 l):Small8 (HFUL l):=fun x hx=>by
  rcases List.mem_append.1 hx with h1 | h1
  · exact h x h1
  · exact z4f _ x h1
theorem z9F {l:List Nat} (h:l.length<2 ^ 30):(HFUL l).length / 64<2 ^ 30:=by
  rw [z3d]
  unfold z0d
  omega
def Parts0 (w:World) (a:Option Addr) (k:Nat) (ps:List PART):Prop:=
  ps.length=k∧(0<k→∃ b off,a=some ⟨b,off,none⟩∧b<w.heap.size∧∀ i p,ps[i]?=some p→w.cell? ⟨b,off+i,none⟩=some (.slice p.a p.n p.c))∧∀ p∈ps,Text w p.a p.n p.l
theorem Parts.zero {w:World} {a:Option Addr} {k:Nat} {ps:List PART} (h:Parts w a k ps):Parts0 w a k ps:=⟨h.1,h.2.1,fun p hp=>(h.2.2 p hp).1⟩
theorem Parts0.below {w w':World} {a:Option Addr} {k:Nat} {ps:List PART} (h:Parts0 w a k ps) (hb:Below w.heap.size w w'):Parts0 w' a k ps:=
  ⟨h.1,fun hk=>by
    obtain ⟨b,off,e,hl,hc⟩:=h.2.1 hk
    exact ⟨b,off,e,Nat.lt_of_lt_of_le hl hb.size,fun i p hp=>(hb.cell (by exact hl)).trans (hc i p hp)⟩,fun p hp=>(h.2.2 p hp).below hb⟩
theorem z8S {w:World} {a:Option Addr} {k:Nat} {ps:List PART} (h:Parts0 w a k ps):Small8 (JOIN ps):=fun x hx=>by
  obtain ⟨y,hy,hx⟩:=List.mem_flatten.1 hx
  obtain ⟨p,hp,rfl⟩:=List.mem_map.1 hy
  exact (h.2.2 p hp).2.2 x hx
theorem zbR (d:Int) (a:Option Addr) (k c:Nat) (ps:List PART) (w:World) (hP:Parts0 w a k ps) (hnil:∀ p∈ps,p.a=none→p.c=0) (hlen:(JOIN ps).length<2 ^ 30) (hkk:k<2 ^ 60):Calls Tryz.prog 21 #[.int .i64 d,.slice a k c] w fun e w'=>e=.returned (.agg (UARR .u8 32 (z0t d (JOIN ps))))∧Below w.heap.size w w':=by
  have hz:=z0T
  have H:Aside (Parts0 w a k ps∧(∀ p∈ps,p.a=none→p.c=0)∧(JOIN ps).length<2 ^ 30):=⟨hP,hnil,hlen⟩
  have HK:Aside (k<2 ^ 60):=hkk
  clear hP hnil hlen hkk
  go_enter Tryz.func21,Tryz.ntmps21
  go_wp2_with fail
  have R:Aside (Has (w.alloc (.cells (UARR .u8 32 fun _=>0) 23)) w.heap.size (UARR .u8 32 fun _=>0) 23∧Below w.heap.size w (w.alloc (.cells (UARR .u8 32 fun _=>0) 23))∧w.heap.size<(w.alloc (.cells (UARR .u8 32 fun _=>0) 23)).heap.size):=⟨Has.new _ _ _,(Below.refl _ _).alloc (Nat.le_refl _) _,by simp⟩
  generalize w.alloc (.cells (UARR .u8 32 fun _=>0) 23)=w1 at *
  clear hz
  go_loopg [5,6] k (fun r s5 s6 wx=>∃ i N:Nat,i+r=k∧s6=.int .i64 i∧Aside (wx.ownsRow w1.heap.size 5 1 s5 N (BY (JOIN (ps.take i)))∧Below w1.heap.size w1 wx∧N=(JOIN (ps.take i)).length))
  case atStart=>exact ⟨0,0,by omega,rfl,⟨rfl,.inl ⟨rfl,rfl⟩⟩,Below.refl _ _,rfl⟩
  case round=>
    obtain ⟨i,N,hir,rfl,A⟩:=hrel
    have hk:ps.length=k:=H.out.1.1
    obtain ⟨a5,c5,hv, -⟩:=z3v A.out.1
    subst hv
    cases gk with
    | zero=>
      obtain rfl:i=k:=by omega
      have hlt:¬ (i:Int)<(i:Int):=by omega
      obtain ⟨hown,hbel,hN⟩:=A.out
      rw [List.take_of_length_le (by omega)] at hown hN
      have hsm:Small8 (JOIN ps):=z8S H.out.1
      have cB:=z7Q a5 N c5 (JOIN ps) wr (zdi hown hsm) (zes hown) (by have:=H.out.2.2;omega)
      have cS:=fun (v:Value) (W:World) (h:W.ownsRow wr.heap.size 147 64 v ((HFUL (JOIN ps)).length / 64) (BY (HFUL (JOIN ps))))=>z7T d wr.heap.size v ((HFUL (JOIN ps)).length / 64) (HFUL (JOIN ps)) W h (z8R _) (zay hsm) (z9F H.out.2.2)
      have hM:=z9F H.out.2.2
      have HO:Aside (z0t d (JOIN ps)=z0l d (HFUL (JOIN ps)) ((HFUL (JOIN ps)).length / 64)):=rfl
      generalize (HFUL (JOIN ps)).length / 64=M at *
      have S:Aside (Has wr w.heap.size (UARR .u8 32 fun _=>0) 23∧Below w.heap.size w wr∧w.heap.size<wr.heap.size):=⟨R.out.1.keep hbel,R.out.2.1.trans (hbel.mono R.out.2.1.size),Nat.lt_of_lt_of_le R.out.2.2 hbel.size⟩
      clear A hown hbel hN hsm hk hir R
      go_wp2_with fail
      refine cB.mono ?_
      rintro e w4 ⟨v4,rfl,hown4,hb4⟩
      go_wp2_with fail
      refine (cS v4 w4 hown4).mono ?_
      rintro e w5 ⟨v5,rfl,hown5,hb5⟩
      clear cB cS hown4
      obtain ⟨g,cap,hv, -,hg⟩:=hown5.form (by omega)
      subst hv
      have hr:=z55 hown5 M (Nat.le_refl M)
      have S2:Aside (Has w5 w.heap.size (UARR .u8 32 fun _=>0) 23∧Below w.heap.size w w5):=⟨(S.out.1.keep hb4).keep hb5,(S.out.2.1.trans (hb4.mono S.out.2.1.size)).trans (hb5.mono (Nat.le_trans S.out.2.1.size hb4.size))⟩
      obtain ⟨M1,hM1⟩:∃ M1,M+1=M1:=⟨_,rfl⟩
      rw [hM1]
      have eM:wrap64 ((M1:Int) - 1)=(M:Int):=by unfold wrap64;omega
      have hM0:¬ (M:Int)<0:=by omega
      have hMl:(M:Int)<(M1:Int):=by omega
      clear hown5 hb4 hb5 S hg hM hM1
      go_wp2_with (first
        | (refine wpList_load_mid rfl 23 (.tmp 28) rfl g (M*32) rfl (z06 .u8 32 (z0l d (HFUL (JOIN ps)) M)) (.array 32 5) hr Tryz.underlying23 rfl (z5m _) ?_;rw [← z0q])
        | (refine wpList_store_row rfl 23 _ _ rfl _ _ rfl rfl _ _ S2.out.1 (z02 _) (by rw [z01,z01]) (z0e _ _ _) ?_))
      refine bodyPost_ret (v:=.agg (UARR .u8 32 (z0l d (HFUL (JOIN ps)) M))) ?_ rfl ⟨by rw [HO.out],z04 S2.out.2 (Nat.le_refl _) _⟩
      exact results_cell_row rfl _ _ w.heap.size 23 _ (0,0) _ rfl (S2.out.1.row _) Tryz.underlying23 rfl (z02 _)
    | succ r=>
      have hlt:(i:Int)<(k:Int):=by omega
      have hi0:¬ (i:Int)<0:=by omega
      obtain ⟨hown,hbel,hN⟩:=A.out
      have hbw:Below w.heap.size w wr:=R.out.2.1.trans (hbel.mono R.out.2.1.size)
      obtain ⟨pb,po,rfl,hpb,hcell⟩:=H.out.1.2.1 (by omega)
      obtain ⟨p,hp⟩:∃ p,ps[i]?=some p:=⟨_,List.getElem?_eq_getElem (by omega)⟩
      have hc:=(hbw.cell (p:=⟨pb,po+i,none⟩) (by exact hpb)).trans (hcell i p hp)
      have hmem:p∈ps:=List.mem_of_getElem? hp
      have ht:=H.out.1.2.2 p hmem
      have hz0:=H.out.2.1 p hmem
      have hj:JOIN (ps.take (i+1))=JOIN (ps.take i) ++ p.l:=by rw [List.take_add_one,hp,Option.toList_some,z1f]
      have hl2:N+p.n<2 ^ 30:=by
        have h1:=z1i ps (i+1)
        rw [hj,List.length_append,ht.1] at h1
        have:=H.out.2.2
        omega
      have T:Aside (wr.ownsRow w1.heap.size 5 1 (.slice a5 N c5) N (BY (JOIN (ps.take i)))∧Below w1.heap.size w1 wr∧N=(JOIN (ps.take i)).length∧Bytes wr p.a p.n (INTS p.l)∧(p.a=none→p.c=0)∧N+p.n<2 ^ 30∧JOIN (ps.take (i+1))=JOIN (ps.take i) ++ p.l∧i+(r+1)=k∧p.l.length=p.n):=⟨hown,hbel,hN,(ht.below hbw).bytes,hz0,hl2,hj,hir,ht.1⟩
      clear ht hp hcell hpb hl2 hk hir hown hbel hN hbw hmem hz0 hj A
      obtain ⟨pa,pn,pc,pl⟩:=p
      dsimp only at T hc
      go_wp2_with (at_builtin;refine z3k _ rfl (.tmp 14) (.tmp 18) rfl w1.heap.size (.slice a5 N c5) N (INTS (JOIN (ps.take i))) rfl T.out.1 pa pn pc (INTS pl) rfl T.out.2.2.2.1 T.out.2.2.2.2.1 (N+pn) _ rfl rfl (by have:=T.out.2.2.2.2.2.1;omega) T.out.2.1.size ?_;intro a6 c6 w6 hown6 hgrow6)
      go_roundg r
      case measure=>omega
      case rel=>
        obtain ⟨t1,t2,t3,t4,t5,t6,t7,t8,t9⟩:=T.out
        refine ⟨i+1,N+pn,by omega,by have h1:=HK.out;have h2:wrap64 ((i:Int)+1)=((i+1:Nat):Int):=(by unfold wrap64;omega);rw [h2],?_,t2.grown hgrow6 t2.size (fun k e=>(t1.lt k e).1),?_⟩
        · rw [t7,z2o]
          rw [z0m] at hown6
          exact hown6
        · rw [t7,List.length_append,← t3,t9]
end Go.Proofs.YthdpkaiieomdoaaGreatDoor.HX
