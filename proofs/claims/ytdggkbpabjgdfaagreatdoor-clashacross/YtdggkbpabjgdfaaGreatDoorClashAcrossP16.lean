/- ClashAcross: part 16. -/
import Derived.Laws.StructEq
import Derived.Laws.BytesArg
import Derived.Lib.Bytes
import Derived.Test.YtdggkbpabjgdfaaGreatDoorClashAcrossP12
import Derived.Test.YtdggkbpabjgdfaaGreatDoorClashAcrossP13
import Derived.Test.YtdggkbpabjgdfaaGreatDoorClashAcrossP15
set_option maxHeartbeats 4000000
namespace Go.Proofs.YtdggkbpabjgdfaaGreatDoor.HX
open Go.RowKit
set_option maxRecDepth 100000
def STS (d:Int) (L:List Nat):Nat->List Value
 | 0=>z0c .u8 32 (z0y d L 0)
 | k+1=>STS d L k ++ z0c .u8 32 (z0y d L (k+1))
theorem z3q (d:Int) (L:List Nat):∀ k,(STS d L k).length=(k+1)*32
 | 0=>by rw [STS,z0f]
 | k+1=>by rw [STS,List.length_append,z3q d L k,z0f];omega
theorem zcl (d:Int) (L:List Nat):∀ k j i,j<=k->i<32->(STS d L k)[j*32+i]?=some (.int .u8 ((z0y d L j i:Nat):Int))
 | 0,j,i,hj,hi=>by
   obtain rfl:j=0:=by omega
   rw [STS,Nat.zero_mul,Nat.zero_add,z1X _ _ _ _ hi]
 | k + 1,j,i,hj,hi=>by
   rw [STS];by_cases h:j<=k
   ·rw [List.getElem?_append_left (by rw [z3q];omega),zcl d L k j i h hi]
   ·obtain rfl:j=k+1:=by omega
    rw [List.getElem?_append_right (by rw [z3q];omega),z3q,show (k+1)*32+i - (k+1)*32=i by omega,z1X _ _ _ _ hi]
theorem z4Y {k:IntKind} {n:Nat} {f:Nat->Nat} {j:Nat} {v:Value} (h:(z0c k n f)[j]?=some v):j<n/\v=.int k ((f j:Nat):Int):=by
 have hj:j<n:=by have:=(List.getElem?_eq_some_iff.1 h).1;rw [z0f] at this;exact this
 rw [z1X _ _ _ _ hj] at h;exact ⟨hj,(Option.some.inj h).symm⟩
theorem z6q {w:World} {base g k cap:Nat} {d:Int} {L:List Nat} (h:w.ownsRow base 24 32 (.slice (some ⟨g,0,none⟩) (k+1) cap) (k+1) (STS d L k)) (j:Nat) (hj:j<=k):w.rangeAt g (j*32) (z0c .u8 32 (z0y d L j)):=fun i v hv=>by
 obtain ⟨hi,rfl⟩:=z4Y hv;rw [h.cellAt (j*32+i) (by omega),zcl d L k j i hj hi]
theorem zbE {w:World} {base g m cap:Nat} {L:List Nat} (h:w.ownsRow base 133 64 (.slice (some ⟨g,0,none⟩) m cap) m (BY L)) (hL:L.length=64*m) (t:Nat) (ht:t<m):w.rangeAt g (t*64) (z0c .u8 64 (BLK L t)):=fun i v hv=>by
 obtain ⟨hi,rfl⟩:=z4Y hv;rw [h.cellAt (t*64+i) (by omega),z7x _ _ (by omega)];unfold BLK;rw [if_pos hi,Nat.mul_comm]
theorem z4c:(Tryz.prog.info? 24).map (fun i=>(i.zero,i.size,i.bytes))=some (some (.agg (UARR .u8 32 fun _=>0)),32,32):=by kernel_rfl
theorem z60 (w:World) (base:Nat) (hb:base<=w.heap.size) (f:Nat->Nat):(w.alloc (.cells (UARR .u8 32 f) 24)).ownsRow base 24 32 (.slice (some ⟨w.heap.size,0,none⟩) 1 1) 1 (z0c .u8 32 f):=
 ⟨by rw [z0f],.inr ⟨w.heap.size,1,UARR .u8 32 f,rfl,hb,by first | exact (Has.new w _ _) | exact (Has.new w _ _).1 | simp,by decide,by decide,by rw [z03],by rw [z0H,List.take_of_length_le (by rw [z0f];decide)]⟩⟩
theorem zgU {ops:Array Oper} {o:Oper} {a:Act} {K:Act->World->Prop} {Q:Exit->Act->World->Prop} {E:Prop} (w:World) (hg:o.guard=none) (t e:TypeId) (x:Operand) (ho:o.op=.buildSlice t 1 #[(0,x)]) (C:Array Value) (hx:a.eval x=.agg C) (n:Nat) (z:Value) (by':Nat)
  (hu:Tryz.prog.underlying t=some (.slice e)) (hi:(Tryz.prog.info? e).map (fun i=>(i.zero,i.size,i.bytes))=some (some z,n,by')) (hC:C.size=n) (hz:z.cells.size=n) (hn:0<n) (hs:n<=1000)
  (h:K (a.put o.dst (.slice (some ⟨w.heap.size,0,none⟩) 1 1)) (w.alloc (.cells C e))):if Region.wanted o (yielded ops a.tmps)=true then Oper.wp Tryz.prog o a w K Q else E:=by
 have hw:Region.wanted o (yielded ops a.tmps)=true:=by simp [Region.wanted,hg]
 rw [if_pos hw];obtain ⟨i,hie,hz',hs1,_⟩:=info_parts hi;refine wp_buildSlice t e 1 _ ho C i z hu hie hz' (by rw [hs1];omega) (by rw [hs1];omega) ?_ h;have:=Great.fill_whole (s:=n) hn [.agg C] ((Array.range (1*i.size)).map (z.cells[· % z.cells.size]!)) (fun v hv=>by simp at hv;subst hv;exact hC) (by simp [hs1]);simp [Value.cells] at this;rw [hs1];simp [hx];rw [hs1] at this;exact this
theorem z2M {ops:Array Oper} {o:Oper} {a:Act} {w:World} {K:Act->World->Prop} {Q:Exit->Act->World->Prop} {E:Prop} (hg:o.guard=none) (ty:TypeId) (x:Operand) (ho:o.op=.load ty x)
  (b k:Nat) (hx:a.eval x=.pointer (some ⟨b,k,none⟩)) (cs:List Value) (C:Array Value) (hC:cs.toArray=C) (d:TypeDesc) (hc:w.rangeAt b k cs)
  (hu:Tryz.prog.underlying ty=some d) (hd:d.isRow=true) (hi:(Tryz.prog.info? ty).map (·.size)=some cs.length)
  (h:K (a.put o.dst (.agg C)) w):if Region.wanted o (yielded ops a.tmps)=true then Oper.wp Tryz.prog o a w K Q else E:=by
 have hw:Region.wanted o (yielded ops a.tmps)=true:=by simp [Region.wanted,hg]
 rw [if_pos hw];subst hC;exact wp_load_mid ty x ho b k hx cs d hc hu hd hi h
theorem zf6 {ops:Array Oper} {o:Oper} {a:Act} {K:Act->World->Prop} {Q:Exit->Act->World->Prop} {E:Prop} (w:World) (f:Nat->Nat) (hgd:o.guard=none) (s x:Operand)
  (ho:o.op=.call {callee:=.builtin .append,args:=#[s,x],argTypes:=#[38,38]})
  (base:Nat) (v:Value) (n:Nat) (xs:List Value) (hs:a.eval s=v) (hown:w.ownsRow base 24 32 v n xs)
  (hx:a.eval x=.slice (some ⟨w.heap.size,0,none⟩) 1 1) (hb:n<=2 ^ 30) (hbase:base<=w.heap.size)
  (h:∀ g cap w',w'.ownsRow base 24 32 (.slice (some ⟨g,0,none⟩) (n+1) cap) (n+1) (xs ++ z0c .u8 32 f)->(w.alloc (.cells (UARR .u8 32 f) 24)).grownBy w' v.ownBlock->K (a.put o.dst (.slice (some ⟨g,0,none⟩) (n+1) cap)) w'):
  if Region.wanted o (yielded ops a.tmps)=true then Oper.wp Tryz.prog o a (w.alloc (.cells (UARR .u8 32 f) 24)) K Q else E:=by
 obtain ⟨i,hi,hz,hs1,hby⟩:=info_parts z4c;refine step_append_lies _ hgd s x 38 ho base 24 i _ 32 32 Tryz.underlying38 hi hz hs1 hby (by simp [Value.cells,z03]) (by decide) v n xs hs (hown.alloc _) ⟨w.heap.size,0,none⟩ 1 1 (z0c .u8 32 f) hx (by rw [z0f]) ?_ (zeQ _ _ _) (by decide) (by simp only [maxLen];omega) (by omega) (by simp;omega) (w.heap.size+1) (by simp) ?_
 ·intro j u hj
  obtain ⟨hj32,rfl⟩:=z4Y hj;rw [z1a,Nat.zero_add,(Has.new w _ _).cell j,z0d _ _ _ _ hj32]
 ·intro g cap w' h1 h2 _ _
  exact h g cap w' h1 h2
theorem z4q {ops:Array Oper} {Q:Exit->Act->World->Prop} {md:Region.Mode} {fuel:Nat} {listed:Array Bool} {a:Act} {w:World} {o:Oper} (i:Nat) (hr:Region.ready md ops listed=[i]) (ho:ops[i]?=some o)
  (h:∀ K':Act->World->Prop,(∀ a w,wpAny Tryz.prog md ops Q fuel (listed.setIfInBounds i true) a w->K' a w)->if Region.wanted o (yielded ops a.tmps)=true then Oper.wp Tryz.prog o a w K' Q else K' (a.put o.dst undef) w):wpAny Tryz.prog md ops Q (fuel+1) listed a w:=
 wpAny_ready hr (by simp) (AllReady.cons ho h AllReady.nil)
theorem z3M {ops:Array Oper} {Q:Exit->Act->World->Prop} {md:Region.Mode} {fuel:Nat} {listed:Array Bool} {a a':Act} {w:World} (fuel':Nat) (listed':Array Bool) (hf:fuel=fuel') (hl:listed=listed') (ha:a=a') (h:wpAny Tryz.prog md ops Q fuel' listed' a' w):wpAny Tryz.prog md ops Q fuel listed a w:=by
 subst hf hl ha;exact h
theorem z6P (f:Nat->Nat):(Tryz.prog.info? 24).map (·.size)=some (z0c .u8 32 f).length:=by rw [z0f];exact z0U
theorem z8Z (f:Nat->Nat):(Tryz.prog.info? 133).map (·.size)=some (z0c .u8 64 f).length:=by rw [z0f];exact z4J
theorem zaA (d:Int) (B:Nat) (v:Value) (m:Nat) (L:List Nat) (w:World) (hA:w.ownsRow B 133 64 v m (BY L)) (hL:L.length=64*m) (hsm:Small8 L) (hm:m<2 ^ 30):Calls Tryz.prog 90 #[.int .i64 d,v] w fun e w'=>
  ∃ v',e=.returned v'/\w'.ownsRow w.heap.size 24 32 v' (m+1) (STS d L m)/\Below w.heap.size w w':=by
 obtain ⟨a,c,rfl,hform⟩:=z4G hA;have cb:=zbD d;have H:Aside (w.ownsRow B 133 64 (.slice a m c) m (BY L)/\L.length=64*m/\Small8 L/\m<2 ^ 30/\(0<m->∃ g,a=some ⟨g,0,none⟩)):=⟨hA,hL,hsm,hm,hform⟩
 clear hA hL hsm hm hform;go_enter Tryz.func90,Tryz.ntmps90;go_wp2_with (first | (go_at_call 115;refine (cb _).mono ?_;rintro e w1 ⟨rfl,hb1⟩) | (refine z1B _ rfl 38 24 (.tmp 8) rfl (UARR .u8 32 (z1n d)) rfl 32 _ _ Tryz.underlying38 z4c (z03 _ _ _) (by simp [Value.cells,z03]) (by decide) (by decide) ?_))
 have S:Aside ((w1.alloc (.cells (UARR .u8 32 (z1n d)) 24)).ownsRow w.heap.size 24 32 (.slice (some ⟨w1.heap.size,0,none⟩) 1 1) 1 (STS d L 0)/\Below w.heap.size w (w1.alloc (.cells (UARR .u8 32 (z1n d)) 24))):=⟨z60 w1 _ hb1.size _,hb1.alloc hb1.size _⟩
 clear hb1 cb;generalize w1.alloc (.cells (UARR .u8 32 (z1n d)) 24)=w2 at *
 generalize w1.heap.size=gb at *
 go_loopg [5,6] m (fun q s5 s6 wx=>∃ t:Nat,s6=.int .i64 (t:Int)/\Aside (t+q=m/\wx.ownsRow w.heap.size 24 32 s5 (t+1) (STS d L t)/\Below w.heap.size w wx))
 case atStart=>exact ⟨0,rfl,by omega,S.out⟩
 case round=>
  obtain ⟨t,rfl,A⟩:=hrel;clear S;cases gk with
  | zero=>
    obtain rfl:t=m:=by have:=A.out.1;omega
    have hlt:¬ (t:Int)<(t:Int):=by omega
    go_wp2;go_ret;exact ⟨_,rfl,A.out.2⟩
  | succ q=>
    have htm:t<m:=by have:=A.out.1;omega
    have hlt:(t:Int)<(m:Int):=by omega
    obtain ⟨gl,cap,hv, -,hgl⟩:=A.out.2.1.form (by omega);subst hv;obtain ⟨gb,hgb⟩:=H.out.2.2.2.2 (by omega);subst hgb;have et:wrap64 ((t:Int)+1)=((t+1:Nat):Int):=by have:=H.out.2.2.2.1;unfold wrap64;omega
    have ht0:¬ (t:Int)<0:=by omega
    have ht1:(t:Int)<((t+1:Nat):Int):=by omega
    have hr1:wr.drew.rangeAt gl (t*32) (z0c .u8 32 (z0y d L t)):=(World.rangeAt_drew _ _ _ _).2 (z6q A.out.2.1 t (Nat.le_refl t));have hr2:wr.drew.rangeAt gb (t*64) (z0c .u8 64 (BLK L t)):=(World.rangeAt_drew _ _ _ _).2 (zbE (z3L H.out.1 A.out.2.2) H.out.2.1 t htm);have cc:=fun W=>z8j d (z0y d L t) (BLK L t) (z2X d L t) (zeR H.out.2.2.1 t) W;obtain ⟨T,hT⟩:∃ T,t+1=T:=⟨_,rfl⟩
    rw [hT] at ht1 et
    have R:Aside (t+1=T/\T+q=m/\wr.ownsRow w.heap.size 24 32 (.slice (some ⟨gl,0,none⟩) T cap) T (STS d L t)/\Below w.heap.size w wr/\t<m/\m<2 ^ 30):=by
     rw [<-hT];exact ⟨rfl,by have:=A.out.1;omega,A.out.2.1,A.out.2.2,htm,H.out.2.2.2.1⟩
    rw [hT];clear A hT htm;go_wp2;refine wp_region_any (by kernel_rfl) ?_;change wpAny _ _ _ _ _ _ _ (World.drew _);refine wpAny_take (i:=0) (v:=.slice (some ⟨gl,0,none⟩) T cap) rfl (by kernel_rfl) (by kernel_rfl) (by kernel_rfl) (fun _ _ _ h=>h) (Or.inl ⟨by rfl,fun W=>by go_simp⟩) ?_;refine wpAny_take (i:=1) (v:=.int .i64 d) rfl (by kernel_rfl) (by kernel_rfl) (by kernel_rfl) (fun _ _ _ h=>h) (Or.inl ⟨by rfl,fun W=>by go_simp⟩) ?_;refine wpAny_take (i:=2) (v:=.slice (some ⟨gl,0,none⟩) T cap) rfl (by kernel_rfl) (by kernel_rfl) (by kernel_rfl) (fun _ _ _ h=>h) (Or.inl ⟨by rfl,fun W=>by go_simp⟩) ?_;refine wpAny_take (i:=3) (v:=.int .i64 (t:Int)) rfl (by kernel_rfl) (by kernel_rfl) (by kernel_rfl) (fun _ _ _ h=>h) (Or.inl ⟨by rfl,fun W=>by go_simp⟩) ?_;refine wpAny_take (i:=4) (v:=.pointer (some ⟨gl,t*32,none⟩)) rfl (by kernel_rfl) (by kernel_rfl) (by kernel_rfl) (fun _ _ _ h=>h) (Or.inl ⟨by rfl,fun W=>by go_simp⟩) ?_;refine wpAny_take (i:=6) (v:=.slice (some ⟨gb,0,none⟩) m c) rfl (by kernel_rfl) (by kernel_rfl) (by kernel_rfl) (fun _ _ _ h=>h) (Or.inl ⟨by rfl,fun W=>by go_simp⟩) ?_;refine wpAny_take (i:=7) (v:=.int .i64 (t:Int)) rfl (by kernel_rfl) (by kernel_rfl) (by kernel_rfl) (fun _ _ _ h=>h) (Or.inl ⟨by rfl,fun W=>by go_simp⟩) ?_;refine wpAny_take (i:=8) (v:=.pointer (some ⟨gb,t*64,none⟩)) rfl (by kernel_rfl) (by kernel_rfl) (by kernel_rfl) (fun _ _ _ h=>h) (Or.inl ⟨by rfl,fun W=>by go_simp⟩) ?_
    refine z3M (a':=?A2) 6 #[tt,tt,tt,tt,tt,ff,tt,tt,tt,ff,ff,ff,ff,ff] (by kernel_rfl) (by kernel_rfl) ?HA ?HW
    case HA=>
     go_simp;exact rfl
    refine wpAny_ready (rs:=[5,9]) (by kernel_rfl) (by simp) ?_;refine AllReady.cons (o:=⟨some 21,.load 24 (.tmp 20),24,"ref.go:159",#[⟨4,.data⟩],none⟩) rfl (fun K hK=>?_) (AllReady.cons (o:=⟨some 25,.load 133 (.tmp 24),133,"ref.go:159",#[⟨8,.data⟩],none⟩) rfl (fun K hK=>?_) AllReady.nil)
    focus
     refine z2M (by rfl) 24 (.tmp 20) (by rfl) gl (t*32) (by rfl) (z0c .u8 32 (z0y d L t)) (UARR .u8 32 (z0y d L t)) (z0H _ _ _).symm (.array 32 5) hr1 Tryz.underlying24 (by rfl) (z6P _) ?_;refine hK _ _ ?_;clear hK K;refine z3M (a':=?A11) 5 #[tt,tt,tt,tt,tt,tt,tt,tt,tt,ff,ff,ff,ff,ff] (by kernel_rfl) (by kernel_rfl) ?HA11 ?HW11
     case HA11=>
      go_simp;exact rfl
     refine z4q (o:=⟨some 25,.load 133 (.tmp 24),133,"ref.go:159",#[⟨8,.data⟩],none⟩) 9 (by kernel_rfl) rfl (fun K hK=>?_);refine z2M (by rfl) 133 (.tmp 24) (by rfl) gb (t*64) (by rfl) (z0c .u8 64 (BLK L t)) (UARR .u8 64 (BLK L t)) (z0H _ _ _).symm (.array 64 5) hr2 Tryz.underlying133 (by rfl) (z8Z _) ?_;refine hK _ _ ?_;clear hK K;refine z3M (a':=?A12) 4 #[tt,tt,tt,tt,tt,tt,tt,tt,tt,tt,ff,ff,ff,ff] (by kernel_rfl) (by kernel_rfl) ?HA12 ?HW12
     case HA12=>
      go_simp;exact rfl
    rotate_left
    focus
     refine z2M (by rfl) 133 (.tmp 24) (by rfl) gb (t*64) (by rfl) (z0c .u8 64 (BLK L t)) (UARR .u8 64 (BLK L t)) (z0H _ _ _).symm (.array 64 5) hr2 Tryz.underlying133 (by rfl) (z8Z _) ?_;refine hK _ _ ?_;clear hK K;refine z3M (a':=?A13) 5 #[tt,tt,tt,tt,tt,ff,tt,tt,tt,tt,ff,ff,ff,ff] (by kernel_rfl) (by kernel_rfl) ?HA13 ?HW13
     case HA13=>
      go_simp;exact rfl
     refine z4q (o:=⟨some 21,.load 24 (.tmp 20),24,"ref.go:159",#[⟨4,.data⟩],none⟩) 5 (by kernel_rfl) rfl (fun K hK=>?_);refine z2M (by rfl) 24 (.tmp 20) (by rfl) gl (t*32) (by rfl) (z0c .u8 32 (z0y d L t)) (UARR .u8 32 (z0y d L t)) (z0H _ _ _).symm (.array 32 5) hr1 Tryz.underlying24 (by rfl) (z6P _) ?_;refine hK _ _ ?_;clear hK K;refine z3M (a':=?A14) 4 #[tt,tt,tt,tt,tt,tt,tt,tt,tt,tt,ff,ff,ff,ff] (by kernel_rfl) (by kernel_rfl) ?HA14 ?HW14
     case HA14=>
      go_simp;exact rfl
    all_goals
     refine z4q (o:=⟨some 26,.call {callee:=.value (.func 116),args:=#[.tmp 17,.tmp 21,.tmp 25],argTypes:=#[3,24,133]},24,"ref.go:159",#[⟨1,.data⟩,⟨5,.data⟩,⟨9,.data⟩],none⟩) 10 (by kernel_rfl) rfl (fun K hK=>?_);rw [if_pos (by rfl)];go_simp;refine (cc _).mono ?_;rintro e w3 ⟨rfl,hb3⟩;refine hK _ _ ?_;clear hK K;have R3:Aside (w3.ownsRow w.heap.size 24 32 (.slice (some ⟨gl,0,none⟩) T cap) T (STS d L t)/\Below w.heap.size w w3/\T<=2 ^ 30):=⟨z3L (w:=wr.drew) R.out.2.2.1 hb3,R.out.2.2.2.1.drew.trans (hb3.mono R.out.2.2.2.1.size),by have:=R.out.1;have:=R.out.2.2.2.2;omega⟩
     clear hb3;refine z4q (o:=⟨some 27,.buildSlice 38 1 #[(0,.tmp 26)],38,"ref.go:159",#[⟨10,.data⟩],none⟩) 11 (by kernel_rfl) rfl (fun K hK=>?_);refine zgU w3 (by rfl) 38 24 (.tmp 26) (by rfl) (UARR .u8 32 (COMP d (z0y d L t) (BLK L t))) (by rfl) 32 _ _ Tryz.underlying38 z4c (z03 _ _ _) (by simp [Value.cells,z03]) (by decide) (by decide) ?_;refine hK _ _ ?_;clear hK K;apply z3M 2 #[tt,tt,tt,tt,tt,tt,tt,tt,tt,tt,tt,tt,ff,ff] (by kernel_rfl) (by kernel_rfl)
     ·go_simp
      exact rfl
     refine z4q (o:=⟨some 28,.call {callee:=.builtin .append,args:=#[.tmp 16,.tmp 27],argTypes:=#[38,38]},38,"ref.go:159",#[⟨0,.data⟩,⟨11,.data⟩,⟨10,.chain⟩],none⟩) 12 (by kernel_rfl) rfl (fun K hK=>?_);refine zf6 w3 (COMP d (z0y d L t) (BLK L t)) (by rfl) (.tmp 16) (.tmp 27) (by rfl) w.heap.size (.slice (some ⟨gl,0,none⟩) T cap) T (STS d L t) (by rfl) R3.out.1 (by rfl) R3.out.2.2 R3.out.2.1.size ?_;intro g9 cap9 w9 hown9 hgrow9;refine hK _ _ ?_;clear hK K;apply z3M 1 #[tt,tt,tt,tt,tt,tt,tt,tt,tt,tt,tt,tt,tt,ff] (by kernel_rfl) (by kernel_rfl)
     ·go_simp
      exact rfl
     refine wpAny_take (i:=13) (v:=.slice (some ⟨g9,0,none⟩) (T+1) cap9) rfl (by kernel_rfl) (by kernel_rfl) (by kernel_rfl) (fun _ _ _ h=>h) (Or.inl ⟨by rfl,fun W=>by go_simp⟩) ?_;refine wpAny_done (by kernel_rfl) ?_ _
     have T2:Aside (w9.ownsRow w.heap.size 24 32 (.slice (some ⟨g9,0,none⟩) (T+1) cap9) (T+1) (STS d L T)/\Below w.heap.size w w9):=by
      obtain ⟨r1,r2,r3,r4,r5⟩:=R.out;refine ⟨?_,(R3.out.2.1.alloc R3.out.2.1.size _).grown hgrow9 (by have:=R3.out.2.1.size;simp;omega) (fun k e=>(R3.out.1.lt k e).1)⟩;have e:STS d L T=STS d L t ++ z0c .u8 32 (COMP d (z0y d L t) (BLK L t)):=by rw [<-r1];rfl
      rw [e];exact hown9
     clear hown9 hgrow9 R3;go_wp2;go_roundg q
     case measure=>exact Nat.lt_succ_self _
     case rel=>exact ⟨T,by first | rfl | (rw [et]),R.out.2.1,T2.out⟩
theorem zgV {w:World} {base n c:Nat} {a:Option Addr} {l:List Nat} (h:w.ownsRow base 5 1 (.slice a n c) n (BY l)) (hl:Small8 l):Text w a n l:=Text.of_bytes (z13 h (z1N hl)).1
theorem zi5 {w:World} {base n c s:Nat} {a:Option Addr} {t:TypeId} {xs:List Value} (h:w.ownsRow base t s (.slice a n c) n xs):a=none->c=0:=fun ha=>by
 rcases h.2 with ⟨hv,_⟩ | ⟨g,cap,cur,hv,_⟩
 ·simp at hv
  exact hv.2.2
 ·subst ha
  simp at hv
theorem zbF (l:List Nat):(HFUL l).length=64*((HFUL l).length / 64):=by rw [z4b];omega
theorem zdn {l:List Nat} (h:Small8 l):Small8 (HFUL l):=fun x hx=>by
 rcases List.mem_append.1 hx with h1 | h1
 ·exact h x h1
 ·exact z5q _ x h1
theorem zcm {l:List Nat} (h:l.length<2 ^ 30):(HFUL l).length / 64<2 ^ 30:=by
 rw [z4b];unfold z0n;omega
def Parts0 (w:World) (a:Option Addr) (k:Nat) (ps:List PART):Prop:=
 ps.length=k/\(0<k->∃ b off,a=some ⟨b,off,none⟩/\b<w.heap.size/\∀ i p,ps[i]?=some p->w.cell? ⟨b,off+i,none⟩=some (.slice p.a p.n p.c))/\∀ p∈ps,Text w p.a p.n p.l
theorem Parts.zero {w:World} {a:Option Addr} {k:Nat} {ps:List PART} (h:Parts w a k ps):Parts0 w a k ps:=⟨h.1,h.2.1,fun p hp=>(h.2.2 p hp).1⟩
theorem Parts0.below {w w':World} {a:Option Addr} {k:Nat} {ps:List PART} (h:Parts0 w a k ps) (hb:Below w.heap.size w w'):Parts0 w' a k ps:=
 ⟨h.1,fun hk=>by
  obtain ⟨b,off,e,hl,hc⟩:=h.2.1 hk;exact ⟨b,off,e,Nat.lt_of_lt_of_le hl hb.size,fun i p hp=>(hb.cell (by exact hl)).trans (hc i p hp)⟩,fun p hp=>(h.2.2 p hp).below hb⟩
theorem zbG {w:World} {a:Option Addr} {k:Nat} {ps:List PART} (h:Parts0 w a k ps):Small8 (JOIN ps):=fun x hx=>by
 obtain ⟨y,hy,hx⟩:=List.mem_flatten.1 hx;obtain ⟨p,hp,rfl⟩:=List.mem_map.1 hy;exact (h.2.2 p hp).2.2 x hx
theorem z90 (d:Int) (a:Option Addr) (k c:Nat) (ps:List PART) (w:World) (hP:Parts0 w a k ps) (hnil:∀ p∈ps,p.a=none->p.c=0) (hlen:(JOIN ps).length<2 ^ 30) (hkk:k<2 ^ 60):Calls Tryz.prog 50 #[.int .i64 d,.slice a k c] w fun e w'=>e=.returned (.agg (UARR .u8 32 (z0b d (JOIN ps))))/\Below w.heap.size w w':=by
 have hz:=z1g;have H:Aside (Parts0 w a k ps/\(∀ p∈ps,p.a=none->p.c=0)/\(JOIN ps).length<2 ^ 30):=⟨hP,hnil,hlen⟩
 have HK:Aside (k<2 ^ 60):=hkk;clear hP hnil hlen hkk;go_enter Tryz.func50,Tryz.ntmps50;go_wp2_with fail
 have R:Aside (Has (w.alloc (.cells (UARR .u8 32 fun _=>0) 24)) w.heap.size (UARR .u8 32 fun _=>0) 24/\Below w.heap.size w (w.alloc (.cells (UARR .u8 32 fun _=>0) 24))/\w.heap.size<(w.alloc (.cells (UARR .u8 32 fun _=>0) 24)).heap.size):=⟨Has.new _ _ _,(Below.refl _ _).alloc (Nat.le_refl _) _,by simp⟩
 generalize w.alloc (.cells (UARR .u8 32 fun _=>0) 24)=w1 at *
 clear hz;go_loopg [5,6] k (fun r s5 s6 wx=>∃ i N:Nat,i+r=k/\s6=.int .i64 i/\Aside (wx.ownsRow w1.heap.size 5 1 s5 N (BY (JOIN (ps.take i)))/\Below w1.heap.size w1 wx/\N=(JOIN (ps.take i)).length))
 case atStart=>exact ⟨0,0,by omega,rfl,⟨rfl,.inl ⟨rfl,rfl⟩⟩,Below.refl _ _,rfl⟩
 case round=>
  obtain ⟨i,N,hir,rfl,A⟩:=hrel;have hk:ps.length=k:=H.out.1.1;obtain ⟨a5,c5,hv, -⟩:=z4G A.out.1;subst hv;cases gk with
  | zero=>
    obtain rfl:i=k:=by omega
    have hlt:¬ (i:Int)<(i:Int):=by omega
    obtain ⟨hown,hbel,hN⟩:=A.out;rw [List.take_of_length_le (by omega)] at hown hN;have hsm:Small8 (JOIN ps):=zbG H.out.1;have cB:=zax a5 N c5 (JOIN ps) wr (zgV hown hsm) (zi5 hown) (by have:=H.out.2.2;omega);have cS:=fun (v:Value) (W:World) (h:W.ownsRow wr.heap.size 133 64 v ((HFUL (JOIN ps)).length / 64) (BY (HFUL (JOIN ps))))=>zaA d wr.heap.size v ((HFUL (JOIN ps)).length / 64) (HFUL (JOIN ps)) W h (zbF _) (zdn hsm) (zcm H.out.2.2);have hM:=zcm H.out.2.2;have HO:Aside (z0b d (JOIN ps)=z0y d (HFUL (JOIN ps)) ((HFUL (JOIN ps)).length / 64)):=rfl;generalize (HFUL (JOIN ps)).length / 64=M at *
    have S:Aside (Has wr w.heap.size (UARR .u8 32 fun _=>0) 24/\Below w.heap.size w wr/\w.heap.size<wr.heap.size):=⟨R.out.1.keep hbel,R.out.2.1.trans (hbel.mono R.out.2.1.size),Nat.lt_of_lt_of_le R.out.2.2 hbel.size⟩
    clear A hown hbel hN hsm hk hir R;go_wp2_with fail
    refine cB.mono ?_;rintro e w4 ⟨v4,rfl,hown4,hb4⟩;go_wp2_with fail
    refine (cS v4 w4 hown4).mono ?_;rintro e w5 ⟨v5,rfl,hown5,hb5⟩;clear cB cS hown4;obtain ⟨g,cap,hv, -,hg⟩:=hown5.form (by omega);subst hv;have hr:=z6q hown5 M (Nat.le_refl M);have S2:Aside (Has w5 w.heap.size (UARR .u8 32 fun _=>0) 24/\Below w.heap.size w w5):=⟨(S.out.1.keep hb4).keep hb5,(S.out.2.1.trans (hb4.mono S.out.2.1.size)).trans (hb5.mono (Nat.le_trans S.out.2.1.size hb4.size))⟩
    obtain ⟨M1,hM1⟩:∃ M1,M+1=M1:=⟨_,rfl⟩
    rw [hM1];have eM:wrap64 ((M1:Int) - 1)=(M:Int):=by unfold wrap64;omega
    have hM0:¬ (M:Int)<0:=by omega
    have hMl:(M:Int)<(M1:Int):=by omega
    clear hown5 hb4 hb5 S hg hM hM1
    go_wp2_with (first
     | (refine wpList_load_mid rfl 24 (.tmp 28) rfl g (M*32) rfl (z0c .u8 32 (z0y d (HFUL (JOIN ps)) M)) (.array 32 5) hr Tryz.underlying24 rfl (z6P _) ?_;rw [<-z0H])
     | (refine wpList_store_row rfl 24 _ _ rfl _ _ rfl rfl _ _ S2.out.1 (z06 _) (by rw [z03,z03]) (z0p _ _ _) ?_))
    refine bodyPost_ret (v:=.agg (UARR .u8 32 (z0y d (HFUL (JOIN ps)) M))) ?_ rfl ⟨by rw [HO.out],z0e S2.out.2 (Nat.le_refl _) _⟩;exact results_cell_row rfl _ _ w.heap.size 24 _ (0,0) _ rfl (S2.out.1.row _) Tryz.underlying24 rfl (z06 _)
  | succ r=>
    have hlt:(i:Int)<(k:Int):=by omega
    have hi0:¬ (i:Int)<0:=by omega
    obtain ⟨hown,hbel,hN⟩:=A.out;have hbw:Below w.heap.size w wr:=R.out.2.1.trans (hbel.mono R.out.2.1.size);obtain ⟨pb,po,rfl,hpb,hcell⟩:=H.out.1.2.1 (by omega);obtain ⟨p,hp⟩:∃ p,ps[i]?=some p:=⟨_,List.getElem?_eq_getElem (by omega)⟩
    have hc:=(hbw.cell (p:=⟨pb,po+i,none⟩) (by exact hpb)).trans (hcell i p hp);have hmem:p∈ps:=List.mem_of_getElem? hp;have ht:=H.out.1.2.2 p hmem;have hz0:=H.out.2.1 p hmem;have hj:JOIN (ps.take (i+1))=JOIN (ps.take i) ++ p.l:=by rw [List.take_add_one,hp,Option.toList_some,z1Y]
    have hl2:N+p.n<2 ^ 30:=by
     have h1:=z21 ps (i+1);rw [hj,List.length_append,ht.1] at h1;have:=H.out.2.2;omega
    have T:Aside (wr.ownsRow w1.heap.size 5 1 (.slice a5 N c5) N (BY (JOIN (ps.take i)))/\Below w1.heap.size w1 wr/\N=(JOIN (ps.take i)).length/\Bytes wr p.a p.n (INTS p.l)/\(p.a=none->p.c=0)/\N+p.n<2 ^ 30/\JOIN (ps.take (i+1))=JOIN (ps.take i) ++ p.l/\i+(r+1)=k/\p.l.length=p.n):=⟨hown,hbel,hN,(ht.below hbw).bytes,hz0,hl2,hj,hir,ht.1⟩
    clear ht hp hcell hpb hl2 hk hir hown hbel hN hbw hmem hz0 hj A;obtain ⟨pa,pn,pc,pl⟩:=p;dsimp only at T hc;go_wp2_with (at_builtin;refine z4j _ rfl (.tmp 14) (.tmp 18) rfl w1.heap.size (.slice a5 N c5) N (INTS (JOIN (ps.take i))) rfl T.out.1 pa pn pc (INTS pl) rfl T.out.2.2.2.1 T.out.2.2.2.2.1 (N+pn) _ rfl rfl (by have:=T.out.2.2.2.2.2.1;omega) T.out.2.1.size ?_;intro a6 c6 w6 hown6 hgrow6)
    go_roundg r
    case measure=>omega
    case rel=>
     obtain ⟨t1,t2,t3,t4,t5,t6,t7,t8,t9⟩:=T.out;refine ⟨i+1,N+pn,by omega,by have h1:=HK.out;have h2:wrap64 ((i:Int)+1)=((i+1:Nat):Int):=(by unfold wrap64;omega);rw [h2],?_,t2.grown hgrow6 t2.size (fun k e=>(t1.lt k e).1),?_⟩
     ·rw [t7,z3d]
      rw [z0x] at hown6;exact hown6
     ·rw [t7,List.length_append,<-t3,t9]
structure GP where
 g:Nat
 c:Nat
 l:List Nat
def z5v (gs:List GP):List Value:=gs.map fun p=>.slice (some ⟨p.g,0,none⟩) p.l.length p.c
structure GIVEN (w:World) (B:Nat) (s:Value) (gs:List GP):Prop where
 own:w.ownsRow B 25 1 s gs.length (z5v gs)
 row:∀ (i:Nat) (p:GP),gs[i]?=some p->w.ownsRow B 5 1 (.slice (some ⟨p.g,0,none⟩) (p.l.length+1) p.c) (p.l.length+1) (BY (p.l ++ [171]))
 far:∀ (i:Nat) (p:GP),gs[i]?=some p->s.ownBlock≠some p.g
 apart:∀ (i j:Nat) (p q:GP),gs[i]?=some p->gs[j]?=some q->i≠j->p.g≠q.g
 small:∀ (i:Nat) (p:GP),gs[i]?=some p->Small8 p.l
theorem GIVEN.start (w:World) (B:Nat):GIVEN w B (.slice none 0 0) []:=
 ⟨⟨rfl,.inl ⟨rfl,rfl⟩⟩,fun i p h=>by simp at h,fun i p h=>by simp at h,fun i j p q h=>by simp at h,fun i p h=>by simp at h⟩
theorem GIVEN.keep {w w':World} {B:Nat} {s:Value} {gs:List GP} (h:GIVEN w B s gs) (hb:Below w.heap.size w w'):GIVEN w' B s gs:=
 ⟨z3L h.own hb,fun i p hp=>z3L (h.row i p hp) hb,h.far,h.apart,h.small⟩
theorem GIVEN.push {w w2 w3:World} {B:Nat} {s:Value} {gs:List GP} {g c g' cap:Nat} {l:List Nat} {o:Obj} (h:GIVEN w B s gs) (hB:B<=w.heap.size) (hb:Below w.heap.size w w2)
  (hr:w2.ownsRow w.heap.size 5 1 (.slice (some ⟨g,0,none⟩) (l.length+1) c) (l.length+1) (BY (l ++ [171]))) (hl:Small8 l) (hg:(w2.alloc o).grownBy w3 s.ownBlock)
  (hown:w3.ownsRow B 25 1 (.slice (some ⟨g',0,none⟩) (gs.length+1) cap) (gs.length+1) (z5v (gs ++ [⟨g,c,l⟩]))) (hat:s.ownBlock=some g'\/g'=w2.heap.size+1):GIVEN w3 B (.slice (some ⟨g',0,none⟩) (gs.length+1) cap) (gs ++ [⟨g,c,l⟩]):=by
 have hs:=hb.size;have hgl:=hr.lt g rfl;have old:∀ (i:Nat) (p:GP),gs[i]?=some p->p.g<w.heap.size:=fun i p hp=>((h.row i p hp).lt p.g rfl).2;have ho:∀ k,s.ownBlock=some k->k<w.heap.size:=fun k e=>(h.own.lt k e).2
 have cases':∀ {i:Nat} {p:GP},(gs ++ [(⟨g,c,l⟩:GP)])[i]?=some p->gs[i]?=some p\/(i=gs.length/\p=⟨g,c,l⟩):=fun {i p} hp=>by
  by_cases hi:i<gs.length
  ·rw [List.getElem?_append_left hi] at hp
   exact .inl hp
  ·rw [List.getElem?_append_right (by omega)] at hp
   obtain hj:i - gs.length=0:=by
    have:=(List.getElem?_eq_some_iff.1 hp).1;simp at this;omega
   rw [hj] at hp;simp at hp;exact .inr ⟨by omega,hp.symm⟩
 refine ⟨by simpa using hown,fun i p hp=>?_,fun i p hp e=>?_,fun i j p q hp hq hij e=>?_,fun i p hp=>?_⟩
 ·rcases cases' hp with hp | ⟨_,rfl⟩
  ·exact ((z3L (h.row i p hp) hb).alloc o).kept hg (.inr fun e=>h.far i p hp e.symm)
  ·exact ((z0q hr hB).alloc o).kept hg (.inr fun e=>by have:=ho g e.symm;omega)
 ·simp only [Value.ownBlock,Option.some.injEq] at e
  rcases cases' hp with hp | ⟨_,rfl⟩
  ·have h1:=old i p hp
   rcases hat with e2 | e2
   ·exact h.far i p hp (by rw [e2,e])
   ·omega
  ·rcases hat with e2 | e2
   ·have h1:=ho _ e2
    have h2:g'=g:=e;omega
   ·have h2:g'=g:=e
    omega
 ·rcases cases' hp with hp | ⟨hi,rfl⟩
  ·rcases cases' hq with hq | ⟨hj,rfl⟩
   ·exact h.apart i j p q hp hq hij e
   ·have h1:=old i p hp
    have h2:p.g=g:=e;omega
  ·rcases cases' hq with hq | ⟨hj,rfl⟩
   ·have h1:=old j q hq
    have h2:g=q.g:=e;omega
   ·omega
 ·rcases cases' hp with hp | ⟨_,rfl⟩
  ·exact h.small i p hp
  ·exact hl
theorem GIVEN.text {w:World} {B:Nat} {s:Value} {gs:List GP} (h:GIVEN w B s gs) {i:Nat} {p:GP} (hp:gs[i]?=some p):Text w (some ⟨p.g,0,none⟩) p.l.length p.l/\p.l.length+1<=p.c:=by
 have hr:=h.row i p hp;have hb:=z13 (l:=INTS (p.l ++ [171])) hr (z1N (zdc (h.small i p hp)));have ht:=Text.of_bytes hb.1;refine ⟨⟨rfl,fun hn=>?_,h.small i p hp⟩,hb.2⟩;obtain ⟨b,off,e,hl,hc⟩:=ht.2.1 (by omega);refine ⟨b,off,e,hl,fun j hj=>?_⟩;rw [hc j (by omega),List.getD_eq_getElem?_getD,List.getElem?_append_left hj,<-List.getD_eq_getElem?_getD]
theorem ziQ (l:List Nat) (k x:Nat):BY (l.set k x)=(BY l).set k (.int .u8 (x:Int)):=by simp [BY,z01,INTS,List.map_set]
theorem zdo (gs:List GP) (i k x:Nat) (p:GP) (hp:gs[i]?=some p):z5v (gs.set i ⟨p.g,p.c,p.l.set k x⟩)=z5v gs:=by
 obtain ⟨hi,he⟩:=List.getElem?_eq_some_iff.1 hp;apply List.ext_getElem?;intro j;simp only [z5v,List.getElem?_map,List.getElem?_set];by_cases e:i=j
 ·subst e
  simp [hi,he]
 ·simp [e]
theorem GIVEN.put {w:World} {B:Nat} {s:Value} {gs:List GP} (h:GIVEN w B s gs) {i k x:Nat} {p:GP} (hp:gs[i]?=some p) (hk:k<p.l.length) (hx:x<256):
  GIVEN (w.setCell ⟨p.g,k,none⟩ (.int .u8 (x:Int))) B s (gs.set i ⟨p.g,p.c,p.l.set k x⟩)/\w.frozen? ⟨p.g,k,none⟩=false/\w.cell? ⟨p.g,k,none⟩=some (.int .u8 ((p.l.getD k 0:Nat):Int)):=by
 have hi:i<gs.length:=(List.getElem?_eq_some_iff.1 hp).1;have hr:=h.row i p hp;have hst:=hr.stored k (.int .u8 (x:Int))
 have hc:∀ {j:Nat} {q:GP},(gs.set i ⟨p.g,p.c,p.l.set k x⟩)[j]?=some q->(j=i/\q=⟨p.g,p.c,p.l.set k x⟩)\/(j≠i/\gs[j]?=some q):=fun {j q} hq=>by
  by_cases e:i=j
  ·subst e
   rw [List.getElem?_set_self hi] at hq;exact .inl ⟨rfl,(Option.some.inj hq).symm⟩
  ·rw [List.getElem?_set_ne e] at hq
   exact .inr ⟨Ne.symm e,hq⟩
 refine ⟨⟨?_,fun j q hq=>?_,fun j q hq=>?_,fun j m q r hq hr' hne=>?_,fun j q hq=>?_⟩,?_,?_⟩
 ·rw [zdo gs i k x p hp,List.length_set]
  exact h.own.kept hst.2 (.inr (h.far i p hp))
 ·rcases hc hq with ⟨rfl,rfl⟩ | ⟨hji,hq⟩
  ·have e:BY (p.l.set k x ++ [171])=(BY (p.l ++ [171])).set k (.int .u8 (x:Int)):=by rw [<-ziQ,List.set_append_left _ _ hk]
   show (w.setCell ⟨p.g,k,none⟩ (.int .u8 (x:Int))).ownsRow B 5 1 (.slice (some ⟨p.g,0,none⟩) ((p.l.set k x).length+1) p.c) ((p.l.set k x).length+1) (BY (p.l.set k x ++ [171]));rw [e,List.length_set];exact hst.1
  ·exact (h.row j q hq).kept hst.2 (.inr fun e=>h.apart j i q p hq hp hji (by simpa [Value.ownBlock] using e))
 ·rcases hc hq with ⟨rfl,rfl⟩ | ⟨hji,hq⟩
  ·exact h.far j p hp
  ·exact h.far j q hq
 ·rcases hc hq with ⟨rfl,rfl⟩ | ⟨hji,hq2⟩
  ·rcases hc hr' with ⟨rfl,rfl⟩ | ⟨hmi,hr2⟩
   ·exact absurd rfl hne
   ·exact h.apart _ _ p r hp hr2 hne
  ·rcases hc hr' with ⟨rfl,rfl⟩ | ⟨hmi,hr2⟩
   ·exact h.apart _ _ q p hq2 hp hne
   ·exact h.apart _ _ q r hq2 hr2 hne
 ·rcases hc hq with ⟨rfl,rfl⟩ | ⟨hji,hq⟩
  ·intro y hy
   rcases List.mem_or_eq_of_mem_set hy with hy | rfl
   ·exact h.small j p hp y hy
   ·exact hx
  ·exact h.small j q hq
 ·rcases hr.2 with ⟨h',_⟩ | ⟨g',cap',cur,h',_,hg,_⟩
  ·simp at h'
  ·simp only [Value.slice.injEq,Option.some.injEq,Addr.mk.injEq,and_true,true_and] at h'
   obtain ⟨rfl,rfl⟩:=h';exact frozen_of_row w p.g k cur 5 hg
 ·rw [hr.cellAt k (by omega),z7x _ _ (by rw [List.length_append];omega),List.getD_eq_getElem?_getD,List.getElem?_append_left hk,<-List.getD_eq_getElem?_getD]
end Go.Proofs.YtdggkbpabjgdfaaGreatDoor.HX
namespace Go.Proofs.YtdggkbpabjgdfaaGreatDoor.HX
open Go.RowKit
end Go.Proofs.YtdggkbpabjgdfaaGreatDoor.HX
namespace Go.Proofs.YtdggkbpabjgdfaaGreatDoor.HX
open Go.RowKit
set_option maxRecDepth 100000
theorem ziR {W:World} {g:Nat} {a:Option Addr} {n c:Nat} {l:List Nat} (hg:Has W g #[.slice a n c] 25) (hT:Text W a n l) (hc:n<=c) (hx:∀ x,a=some x->x.block<W.heap.size):Parts W (some ⟨g,0,none⟩) 1 [⟨a,n,c,l⟩]:=by
 refine ⟨rfl,fun _=>⟨g,0,rfl,hg.lt,fun i p hp=>?_⟩,fun p hp=>?_⟩
 ·cases i with
  | zero=>
    simp only [List.getElem?_cons_zero,Option.some.injEq] at hp;subst hp;rw [hg.cell];rfl
  | succ i=>simp at hp
 ·simp only [List.mem_singleton] at hp
  subst hp;exact ⟨hT,hc,hx⟩
theorem sum9 (d:Int) (W:World) (g:Nat) (a:Option Addr) (n c:Nat) (l:List Nat) (hg:Has W g #[.slice a n c] 25) (hT:Text W a n l) (hc:n<=c) (hx:∀ x,a=some x->x.block<W.heap.size) (hn:n<2 ^ 60) (h:Tabled W):Calls Tryz.prog 24 #[.int .i64 d,.slice (some ⟨g,0,none⟩) 1 1] W fun e w'=>e=.returned (.agg (UARR .u8 32 (z0b d l)))/\Below W.heap.size W w':=by
 have e:JOIN [⟨a,n,c,l⟩]=l:=by simp [JOIN]
 have k:=zeT d (some ⟨g,0,none⟩) 1 1 _ _ (ziR hg hT hc hx) h (by rw [e,hT.1];exact hn) (by decide);rw [e] at k;exact k
theorem zcn (d:Int) (W:World) (g:Nat) (a:Option Addr) (n c:Nat) (l:List Nat) (hg:Has W g #[.slice a n c] 25) (hT:Text W a n l) (hc:a=none->c=0) (hn:n<2 ^ 30):Calls Tryz.prog 50 #[.int .i64 d,.slice (some ⟨g,0,none⟩) 1 1] W fun e w'=>e=.returned (.agg (UARR .u8 32 (z0b d l)))/\Below W.heap.size W w':=by
 have e:JOIN [⟨a,n,c,l⟩]=l:=by simp [JOIN]
 have k:=z90 d (some ⟨g,0,none⟩) 1 1 [⟨a,n,c,l⟩] W ⟨rfl,fun _=>⟨g,0,rfl,hg.lt,fun i p hp=>by
  cases i with
  | zero=>
    simp only [List.getElem?_cons_zero,Option.some.injEq] at hp;subst hp;rw [hg.cell];rfl
  | succ i=>simp at hp⟩,fun p hp=>by simp only [List.mem_singleton] at hp;subst hp;exact hT⟩ (fun p hp=>by simp only [List.mem_singleton] at hp;subst hp;exact hc) (by rw [e,hT.1];exact hn) (by decide)
 rw [e] at k;exact k
theorem z5w {w:World} {a:Option Addr} {n:Nat} {l:List Nat} (h:Text w a n l) (c:Nat):(convert 25 9 (.slice a n c)).run Tryz.prog w=.ok (.string (strOfNums (INTS l))) w:=by
 rcases Nat.eq_zero_or_pos n with hn | hn
 ·subst hn
  obtain rfl:l=[]:=List.eq_nil_of_length_eq_zero h.1;rw [run_convert_bytes_string w 25 9 5 _ 0 c Tryz.underlying25 Tryz.underlying5 Tryz.underlying9];cases a <;> simp [Conv.bytesToString,loadCells]
  all_goals rfl
 ·obtain ⟨b,o,rfl, -,hc⟩:=h.2.1 hn
  exact run_convert_bytes_arg (P:=Tryz.prog) w 25 5 Tryz.underlying25 Tryz.underlying5 b o n c (INTS l) (by simp [INTS,h.1]) (fun i hi=>by rw [hc i hi];simp [INTS,List.getD_eq_getElem?_getD];cases l[i]? <;> rfl) 9 Tryz.underlying9
theorem zf7 {l k:List Nat} (hl:Small8 l) (hk:Small8 k):((strOfNums (INTS l)).toList == (strOfNums (INTS k)).toList)=decide (l=k):=by
 rw [Lib.strOfNums_toList,Lib.strOfNums_toList]
 have key:∀ (l k:List Nat),Small8 l->Small8 k->Lib.bytesOf (INTS l)=Lib.bytesOf (INTS k)->l=k:=by
  intro l;induction l with
  | nil=>intro k _ _ h;cases k with | nil=>rfl | cons y k=>simp [Lib.bytesOf,INTS] at h
  | cons x l ih=>
    intro k h1 h2 h;cases k with
    | nil=>simp [Lib.bytesOf,INTS] at h
    | cons y k=>
      simp only [Lib.bytesOf,INTS,List.map_cons,List.cons.injEq] at h;have hx:=h1 x (by simp);have hy:=h2 y (by simp)
      have e:x=y:=by
       have:=congrArg UInt8.toNat h.1;simp at this;omega
      rw [e,ih k (fun z hz=>h1 z (by simp [hz])) (fun z hz=>h2 z (by simp [hz])) h.2]
 by_cases e:l=k
 ·subst e;simp
 ·have:Lib.bytesOf (INTS l)≠Lib.bytesOf (INTS k):=fun h=>e (key l k hl hk h)
  simp [e,this]
theorem z3i (a:Option Addr) (n c:Nat) (l:List Nat) (b:Option Addr) (m c':Nat) (k:List Nat) (w:World) (h1:Text w a n l) (h2:Text w b m k):Calls Tryz.prog 51 #[.slice a n c,.slice b m c'] w fun e w'=>e=.returned (.bool (decide (l=k)))/\w=w':=by
 have q1:=z5w h1 c;have q2:=z5w h2 c';have q3:=zf7 h1.2.2 h2.2.2;clear h1 h2;generalize strOfNums (INTS l)=S at *
 generalize strOfNums (INTS k)=T at *
 go_enter Tryz.func51,Tryz.ntmps51;go_wp2;go_ret;exact ⟨rfl,rfl⟩
end Go.Proofs.YtdggkbpabjgdfaaGreatDoor.HX
namespace Go.Proofs.YtdggkbpabjgdfaaGreatDoor
open Go.RowKit
set_option maxRecDepth 100000
def BAGA (d:Int) (n k:Nat) (l:List Int):Int × List Int:=
 if 4611686018427387904<n then (30,ZND) else if k≠PC n then (70,ZND) else (0,z0z d n (FLD d l k))
theorem zi6 {d:Int} {n k:Nat} {l:List Int}:IsH (BAGA d n k l).2:=by
 unfold BAGA;split
 ·exact z4n
 ·split
  ·exact z4n
  ·exact z2x _ _ _
theorem z1O {fn:Func} {p q:Tmp} {ty:TypeId} (h:fn.results=#[.cell p ty,.tmp q]) (tmps:Array Value) (w:World) (g:Nat) (t:TypeId) (cs:Array Value) (fr:Nat × Nat) (k:Nat) (el:TypeId) (v:Value)
  (hp:tmps.getD p undef=.pointer (some ⟨g,0,none⟩)) (hv:tmps.getD q undef=v) (hg:w.heap[g]?=some (.cells cs t fr))
  (hu:Tryz.prog.underlying ty=some (.array k el)) (hi:(Tryz.prog.info? ty).map (·.size)=some cs.size):
  (results fn tmps).run Tryz.prog w=.ok (.tuple #[.agg cs,v]) w:=by
 have hp':tmps[p]?.getD undef=.pointer (some ⟨g,0,none⟩):=by simpa using hp
 have hv':tmps[q]?.getD undef=v:=by simpa using hv
 simp [results,h,hp',hv',asAddr,run_loadVar_row w g t ty cs fr (.array k el) hg hu rfl hi]
theorem zf8 (d:Int) (n:Nat) (hn:n<2 ^ 64) (a:Option Addr) (k c:Nat) (w:World) (h1':¬ (4611686018427387904:Int)<(n:Int)) (h2:¬ k=POP n):
  Calls Tryz.prog 72 #[.int .i64 d,.int .u64 (n:Int),.slice a k c] w fun e w'=>e=.returned (.tuple #[.agg (z01 ZND).toArray,.int .i64 70])/\Below w.heap.size w w':=by
 have R0:Aside (Below w.heap.size w (w.alloc (.cells ZARR 24))/\Has (w.alloc (.cells ZARR 24)) w.heap.size (z01 ZND).toArray 24):=⟨(Below.refl _ _).alloc (Nat.le_refl _) _,by rw [z28];exact Has.new _ _ _⟩
 have cO:=z2H n hn (w.alloc (.cells ZARR 24));generalize POP n=pp at *
 have e2:¬ (k:Int)=(pp:Int):=by omega
 clear hn;go_enter Tryz.func72,Tryz.ntmps72;go_upto_region 3 with fail
 rw [show (#[.int .u8 0,.int .u8 0,.int .u8 0,.int .u8 0,.int .u8 0,.int .u8 0,.int .u8 0,.int .u8 0,.int .u8 0,.int .u8 0,.int .u8 0,.int .u8 0,.int .u8 0,.int .u8 0,.int .u8 0,.int .u8 0,.int .u8 0,.int .u8 0,.int .u8 0,.int .u8 0,.int .u8 0,.int .u8 0,.int .u8 0,.int .u8 0,.int .u8 0,.int .u8 0,.int .u8 0,.int .u8 0,.int .u8 0,.int .u8 0,.int .u8 0,.int .u8 0]:Array Value)=ZARR from rfl];generalize w.alloc (.cells ZARR 24)=W0 at *
 go_wp2_with fail
 refine cO.mono ?_;rintro e w1 ⟨rfl,rfl⟩;clear cO;go_upto_region 4 with fail
 go_wp2_with (rw [show (#[.int .u8 0,.int .u8 0,.int .u8 0,.int .u8 0,.int .u8 0,.int .u8 0,.int .u8 0,.int .u8 0,.int .u8 0,.int .u8 0,.int .u8 0,.int .u8 0,.int .u8 0,.int .u8 0,.int .u8 0,.int .u8 0,.int .u8 0,.int .u8 0,.int .u8 0,.int .u8 0,.int .u8 0,.int .u8 0,.int .u8 0,.int .u8 0,.int .u8 0,.int .u8 0,.int .u8 0,.int .u8 0,.int .u8 0,.int .u8 0,.int .u8 0,.int .u8 0]:Array Value)=(z01 ZND).toArray from rfl];refine wpList_store_row rfl 24 (.tmp 6) (.tmp 16) rfl _ _ rfl rfl 24 _ R0.out.2 (z02 rfl) rfl (z0k ZND) ?_)
 refine bodyPost_ret (v:=.tuple #[.agg (z01 ZND).toArray,.int .i64 70]) (z1O rfl _ _ w.heap.size 24 _ (0,0) _ _ _ rfl rfl (Has.row R0.out.2 _) Tryz.underlying24 (z02 rfl)) rfl ⟨rfl,z0e R0.out.1 (Nat.le_refl _) _⟩
theorem ziS (d:Int) (n:Nat) (hn:n<2 ^ 64) (a:Option Addr) (k c:Nat) (l:List Int) (w:World) (hF:Flat w a k l) (hX:HX.Tabled w):
  Calls Tryz.prog 72 #[.int .i64 d,.int .u64 (n:Int),.slice a k c] w fun e w'=>e=.returned (.tuple #[.agg (z01 (BAGA d n k l).2).toArray,.int .i64 (BAGA d n k l).1])/\Below w.heap.size w w':=by
 have R0:Aside (Below w.heap.size w (w.alloc (.cells ZARR 24))/\Has (w.alloc (.cells ZARR 24)) w.heap.size (z01 ZND).toArray 24):=⟨(Below.refl _ _).alloc (Nat.le_refl _) _,by rw [z28];exact Has.new _ _ _⟩
 have HA:Aside (Flat w a k l/\HX.Tabled w/\n<2 ^ 64):=⟨hF,hX,hn⟩
 clear hF hX;by_cases h1:4611686018427387904<n
 ·have e:BAGA d n k l=(30,ZND):=if_pos h1
  rw [e];have h1':(4611686018427387904:Int)<(n:Int):=by omega
  clear e HA hn;go_enter Tryz.func72,Tryz.ntmps72;go_upto_region 2 with fail
  rw [show (#[.int .u8 0,.int .u8 0,.int .u8 0,.int .u8 0,.int .u8 0,.int .u8 0,.int .u8 0,.int .u8 0,.int .u8 0,.int .u8 0,.int .u8 0,.int .u8 0,.int .u8 0,.int .u8 0,.int .u8 0,.int .u8 0,.int .u8 0,.int .u8 0,.int .u8 0,.int .u8 0,.int .u8 0,.int .u8 0,.int .u8 0,.int .u8 0,.int .u8 0,.int .u8 0,.int .u8 0,.int .u8 0,.int .u8 0,.int .u8 0,.int .u8 0,.int .u8 0]:Array Value)=ZARR from rfl];generalize w.alloc (.cells ZARR 24)=W0 at *
  go_wp2_with (rw [show (#[.int .u8 0,.int .u8 0,.int .u8 0,.int .u8 0,.int .u8 0,.int .u8 0,.int .u8 0,.int .u8 0,.int .u8 0,.int .u8 0,.int .u8 0,.int .u8 0,.int .u8 0,.int .u8 0,.int .u8 0,.int .u8 0,.int .u8 0,.int .u8 0,.int .u8 0,.int .u8 0,.int .u8 0,.int .u8 0,.int .u8 0,.int .u8 0,.int .u8 0,.int .u8 0,.int .u8 0,.int .u8 0,.int .u8 0,.int .u8 0,.int .u8 0,.int .u8 0]:Array Value)=(z01 ZND).toArray from rfl];refine wpList_store_row rfl 24 (.tmp 6) (.tmp 10) rfl _ _ rfl rfl 24 _ R0.out.2 (z02 rfl) rfl (z0k ZND) ?_)
  refine bodyPost_ret (v:=.tuple #[.agg (z01 ZND).toArray,.int .i64 30]) (z1O rfl _ _ w.heap.size 24 _ (0,0) _ _ _ rfl rfl (Has.row R0.out.2 _) Tryz.underlying24 (z02 rfl)) rfl ⟨rfl,z0e R0.out.1 (Nat.le_refl _) _⟩
 have h1':¬ (4611686018427387904:Int)<(n:Int):=by omega
 have hpop:=z5e hn;by_cases h2:k=PC n
 ·have e:BAGA d n k l=(0,z0z d n (FLD d l k)):=by unfold BAGA;rw [if_neg h1,if_neg (by simpa using h2)]
  rw [e];have hk:Aside (k<=64):=by have:=z0C 64 n hn;show k<=64;omega
  have e2:(k:Int)=((POP n:Nat):Int):=by rw [hpop,h2]
  clear e h2 hpop h1;go_enter Tryz.func72,Tryz.ntmps72;go_upto_region 3 with fail
  rw [show (#[.int .u8 0,.int .u8 0,.int .u8 0,.int .u8 0,.int .u8 0,.int .u8 0,.int .u8 0,.int .u8 0,.int .u8 0,.int .u8 0,.int .u8 0,.int .u8 0,.int .u8 0,.int .u8 0,.int .u8 0,.int .u8 0,.int .u8 0,.int .u8 0,.int .u8 0,.int .u8 0,.int .u8 0,.int .u8 0,.int .u8 0,.int .u8 0,.int .u8 0,.int .u8 0,.int .u8 0,.int .u8 0,.int .u8 0,.int .u8 0,.int .u8 0,.int .u8 0]:Array Value)=ZARR from rfl];generalize w.alloc (.cells ZARR 24)=W0 at *
  go_wp2_with fail
  refine (z2H n hn W0).mono ?_;rintro e w1 ⟨rfl,rfl⟩;go_wp2_with fail
  refine (zeZ d a k c (by have:=hk.out;omega) l W0 (HA.out.1.below R0.out.1) (HA.out.2.1.below R0.out.1)).mono ?_;rintro e w1 ⟨rfl,hb⟩;have R1:Aside (Below w.heap.size w w1/\Has w1 w.heap.size (z01 ZND).toArray 24):=⟨R0.out.1.trans (hb.mono R0.out.1.size),R0.out.2.keep hb⟩
  clear hb R0;have hI:=zas (d:=d) HA.out.1.1 HA.out.1.2.2;go_wp2_with fail
  refine (zgG d n hn (FLD d l k) hI w1 (HA.out.2.1.below R1.out.1)).mono ?_;rintro e w2 ⟨rfl,hb⟩;have R2:Aside (Below w.heap.size w w2/\Has w2 w.heap.size (z01 ZND).toArray 24):=⟨R1.out.1.trans (hb.mono R1.out.1.size),R1.out.2.keep hb⟩
  clear hb R1 hI;have y32:=(z2x d n (FLD d l k)).1;generalize hY:z0z d n (FLD d l k)=Y at *
  go_wp2_with (refine wpList_store_row rfl 24 (.tmp 6) (.tmp 22) rfl _ _ rfl rfl 24 _ R2.out.2 (z02 y32) (by simp [z01,y32];rfl) (z0k Y) ?_)
  refine bodyPost_ret (v:=.tuple #[.agg (z01 Y).toArray,.int .i64 0]) (z1O rfl _ _ w.heap.size 24 _ (0,0) _ _ _ rfl rfl (Has.row R2.out.2 _) Tryz.underlying24 (z02 y32)) rfl ⟨by rw [hY],z0e R2.out.1 (Nat.le_refl _) _⟩
 ·have e:BAGA d n k l=(70,ZND):=by unfold BAGA;rw [if_neg h1,if_pos h2]
  rw [e];exact zf8 d n hn a k c w h1' (by rw [hpop];exact h2)
theorem z7A {a b:List Int} (ha:IsH a) (hb:IsH b) (w:World):(Op.equalIn 10000 24 (.agg (z01 a).toArray) (.agg (z01 b).toArray)).run Tryz.prog w=.ok (decide (a=b)) w:=by
 rw [z0F ha,z0F hb,HX.z3n];congr 1
 by_cases e:a=b
 ·subst e
  simp
 ·rw [decide_eq_false e]
  refine Bool.eq_false_iff.2 fun h=>e ?_;have h':∀ i∈List.range 32,FNC a i=FNC b i:=fun i hi=>by simpa using List.all_eq_true.1 h i hi
  have h2:LST (FNC a)=LST (FNC b):=by
   unfold LST;exact List.map_congr_left fun i hi=>by rw [h' i hi]
  rwa [z8i ha,z8i hb] at h2
theorem z05 {ops:Array Oper} {rest:List Oper} {o:Oper} {a:Act} {w:World} {Q:Exit->Act->World->Prop} (hw:Region.wanted o (yielded ops a.tmps)=true) (ty:TypeId) (x:Operand) (ho:o.op=.load ty x) (n:Nat) (e:TypeId)
  (b:Nat) (hx:a.eval x=.pointer (some ⟨b,0,none⟩)) (t:TypeId) (cs:Array Value) (fr:Nat × Nat) (hb:w.heap[b]?=some (.cells cs t fr)) (hu:Tryz.prog.underlying ty=some (.array n e)) (hi:(Tryz.prog.info? ty).map (·.size)=some cs.size)
  (h:wpList Tryz.prog ops Q rest (a.put o.dst (.agg cs)) w):wpList Tryz.prog ops Q (o :: rest) a w:=by
 simp only [wpList];rw [if_pos hw];exact .inl (wp_load_row ty x ho b hx t cs fr (.array n e) hb hu rfl hi h)
def UNDA (d:Int) (n k:Nat) (l root:List Int):Int:=if (BAGA d n k l).1=0/\(BAGA d n k l).2=root then 0 else 80
theorem z5x (d:Int) (n:Nat) (hn:n<2 ^ 64) (a:Option Addr) (k c:Nat) (l root:List Int) (hroot:IsH root) (w:World) (hF:Flat w a k l) (hX:HX.Tabled w):
  Calls Tryz.prog 40 #[.int .i64 d,.int .u64 (n:Int),.slice a k c,.agg (z01 root).toArray] w fun e w'=>e=.returned (.int .i64 (UNDA d n k l root))/\Below w.heap.size w w':=by
 have R0:Aside (Below w.heap.size w (w.alloc (.cells (z01 root).toArray 24))/\Has (w.alloc (.cells (z01 root).toArray 24)) w.heap.size (z01 root).toArray 24):=⟨(Below.refl _ _).alloc (Nat.le_refl _) _,Has.new _ _ _⟩
 have cB:=ziS d n hn a k c l (w.alloc (.cells (z01 root).toArray 24)) (hF.below R0.out.1) (hX.below R0.out.1);have hI:=zi6 (d:=d) (n:=n) (k:=k) (l:=l);have r32:=hroot.1;have y32:=hI.1;clear hF hX hn;have HU:Aside (UNDA d n k l root=if (BAGA d n k l).1=0/\(BAGA d n k l).2=root then 0 else 80):=rfl;generalize UNDA d n k l root=U at *
 generalize BAGA d n k l=B at *
 obtain ⟨E,Y⟩:=B;dsimp only at *
 have HV:Aside ((E=0->Y=root->U=0)/\(¬ Y=root->U=80)/\(¬ E=0->U=80)):=⟨fun h1 h2=>HU.out.trans (if_pos ⟨h1,h2⟩),fun h=>HU.out.trans (if_neg fun g=>h g.2),fun h=>HU.out.trans (if_neg fun g=>h g.1)⟩
 clear HU;go_enter Tryz.func40,Tryz.ntmps40;go_upto_region 1 with fail
 generalize w.alloc (.cells (z01 root).toArray 24)=W0 at *
 go_wp2_with fail
 refine cB.mono ?_;rintro e w1 ⟨rfl,hb⟩;clear cB;have R1:Aside (Below w.heap.size w (w1.alloc (.cells (z01 Y).toArray 24))/\Has (w1.alloc (.cells (z01 Y).toArray 24)) w.heap.size (z01 root).toArray 24/\Has (w1.alloc (.cells (z01 Y).toArray 24)) w1.heap.size (z01 Y).toArray 24):=⟨(R0.out.1.trans (hb.mono R0.out.1.size)).alloc (R0.out.1.trans (hb.mono R0.out.1.size)).size _,(R0.out.2.keep hb).alloc _,Has.new _ _ _⟩
 clear hb R0
 go_upto_region 2 with (first
  | (refine wpList_store_row rfl 24 (.tmp 9) (.tmp 16) rfl _ _ rfl rfl 24 _ (Has.new w1 _ _) (z02 y32) (by simp [z01,y32]) (z0k Y) ?_;rw [World.setRow_alloc_new])
  | fail)
 generalize w1.alloc (.cells (z01 Y).toArray 24)=W1 at *
 generalize w1.heap.size=b9 at *
 clear w1 W0;have hb:=R1.out.1;have h7:=R1.out.2.1;have h9:=R1.out.2.2;clear R1;by_cases hE:E=0
 ·subst hE
  have hq:=z7A hI hroot;by_cases hY:Y=root
  ·have HY:Aside (Y=root):=hY
   rw [decide_eq_true hY] at hq;clear hI hroot hY
   go_wp2_with (first
    | (refine z05 (by rfl) 24 (.tmp 9) rfl 32 5 b9 rfl 24 (z01 Y).toArray (0,0) h9 Tryz.underlying24 (z02 y32) ?_)
    | (refine z05 (by rfl) 24 (.tmp 7) rfl 32 5 w.heap.size rfl 24 (z01 root).toArray (0,0) h7 Tryz.underlying24 (z02 r32) ?_)
    | fail)
   go_ret;exact ⟨by rw [HV.out.1 (by simp) HY.out];rfl,hb⟩
  ·have HY:Aside (¬ Y=root):=hY
   rw [decide_eq_false hY] at hq;clear hI hroot hY
   go_wp2_with (first
    | (refine z05 (by rfl) 24 (.tmp 9) rfl 32 5 b9 rfl 24 (z01 Y).toArray (0,0) h9 Tryz.underlying24 (z02 y32) ?_)
    | (refine z05 (by rfl) 24 (.tmp 7) rfl 32 5 w.heap.size rfl 24 (z01 root).toArray (0,0) h7 Tryz.underlying24 (z02 r32) ?_)
    | fail)
   go_ret;exact ⟨by rw [HV.out.2.1 HY.out];rfl,hb⟩
 ·have HE:Aside (¬ E=0):=hE
  clear hI hroot h7 h9;go_wp2_with fail
  go_ret;exact ⟨by rw [HV.out.2.2 HE.out];rfl,hb⟩
end Go.Proofs.YtdggkbpabjgdfaaGreatDoor
