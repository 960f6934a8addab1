/- ManyClashes: part 16. -/
import Derived.Test.YtobaogpomcocpaaGreatDoorManyClashesP7
import Derived.Test.YtobaogpomcocpaaGreatDoorManyClashesP15
set_option maxRecDepth 100000
set_option maxHeartbeats 400000
open Go.RowKit
namespace Go.Proofs.YtobaogpomcocpaaGreatDoor
namespace HX
def STS(d:Int)(L:List Nat):Nat->List Value
 | 0=>zi .u8 32 (zv d L 0)
 | k+1=>STS d L k ++ zi .u8 32 (zv d L (k+1))
theorem Zi(d:Int)(L:List Nat):∀ k,(STS d L k).length=(k+1)*32
 | 0=>by rw[STS,zD]
 | k+1=>by rw[STS,List.length_append,Zi d L k,zD];omega
theorem uH(d:Int)(L:List Nat):∀ k j i,j<=k->i<32->(STS d L k)[j*32+i]?=some (.int .u8 ((zv d L j i:Nat):Int))
 | 0,j,i,hj,hi=>by
   obtain rfl:j=0:=by omega
   rw[STS,Nat.zero_mul,Nat.zero_add,xu _ _ _ _ hi]
 | k + 1,j,i,hj,hi=>by
   rw[STS];by_cases h:j<=k
   ·rw[List.getElem?_append_left (by rw[Zi];omega),uH d L k j i h hi]
   ·obtain rfl:j=k+1:=by omega
    rw[List.getElem?_append_right (by rw[Zi];omega),Zi,show (k+1)*32+i - (k+1)*32=i by omega,xu _ _ _ _ hi]
theorem YI{k:IntKind}{n:Nat}{f:Nat->Nat}{j:Nat}{v:Value}(h:(zi k n f)[j]?=some v):j<n/\v=.int k ((f j:Nat):Int):=by
 have hj:j<n:=by have:=(List.getElem?_eq_some_iff.1 h).1;rw[zD] at this;exact this
 rw[xu _ _ _ _ hj] at h;exact⟨hj,(Option.some.inj h).symm⟩
theorem JV{w:World}{base g k cap:Nat}{d:Int}{L:List Nat}(h:w.ownsRow base 23 32 (.slice (some ⟨g,0,none⟩) (k+1) cap) (k+1) (STS d L k))(j:Nat)(hj:j<=k):w.rangeAt g (j*32) (zi .u8 32 (zv d L j)):=fun i v hv=>by
 obtain⟨hi,rfl⟩:=YI hv;rw[h.cellAt (j*32+i) (by omega),uH d L k j i hj hi]
theorem Kd{w:World}{base g m cap:Nat}{L:List Nat}(h:w.ownsRow base 97 64 (.slice (some ⟨g,0,none⟩) m cap) m (BY L))(hL:L.length=64*m)(t:Nat)(ht:t<m):w.rangeAt g (t*64) (zi .u8 64 (BLK L t)):=fun i v hv=>by
 obtain⟨hi,rfl⟩:=YI hv;rw[h.cellAt (t*64+i) (by omega),XX _ _ (by omega)];unfold BLK;rw[if_pos hi,Nat.mul_comm]
theorem Yw:(Tryz.prog.info? 23).map (fun i=>(i.zero,i.size,i.bytes))=some (some (.agg (UARR .u8 32 fun _=>0)),32,32):=by kernel_rfl
theorem ZQ(w:World)(base:Nat)(hb:base<=w.heap.size)(f:Nat->Nat):(w.alloc (.cells (UARR .u8 32 f) 23)).ownsRow base 23 32 (.slice (some ⟨w.heap.size,0,none⟩) 1 1) 1 (zi .u8 32 f):=
 ⟨by rw[zD],.inr ⟨w.heap.size,1,UARR .u8 32 f,rfl,hb,by first | exact(Has.new w _ _) | exact(Has.new w _ _).1 | simp,by decide,by decide,by rw[zg],by rw[zS,List.take_of_length_le (by rw[zD];decide)]⟩⟩
theorem z0f{ops:Array Oper}{o:Oper}{a:Act}{K:Act->World->Prop}{Q:Exit->Act->World->Prop}{E:Prop}(w:World)(hg:o.guard=none)(t e:TypeId)(x:Operand)(ho:o.op=.buildSlice t 1 #[(0,x)])(C:Array Value)(hx:a.eval x=.agg C)(n:Nat)(z:Value)(by':Nat)
  (hu:Tryz.prog.underlying t=some (.slice e))(hi:(Tryz.prog.info? e).map (fun i=>(i.zero,i.size,i.bytes))=some (some z,n,by'))(hC:C.size=n)(hz:z.cells.size=n)(hn:0<n)(hs:n<=1000)
  (h:K (a.put o.dst (.slice (some ⟨w.heap.size,0,none⟩) 1 1)) (w.alloc (.cells C e))):if Region.wanted o (yielded ops a.tmps)=true then Oper.wp Tryz.prog o a w K Q else E:=by
 have hw:Region.wanted o (yielded ops a.tmps)=true:=by simp[Region.wanted,hg]
 rw[if_pos hw];obtain⟨i,hie,hz',hs1,_⟩:=info_parts hi;refine wp_buildSlice t e 1 _ ho C i z hu hie hz' (by rw[hs1];omega) (by rw[hs1];omega) ?_ h;have:=Great.fill_whole (s:=n) hn [.agg C] ((Array.range (1*i.size)).map (z.cells[· % z.cells.size]!)) (fun v hv=>by simp at hv;subst hv;exact hC) (by simp[hs1]);simp[Value.cells] at this;rw[hs1];simp[hx];rw[hs1] at this;exact this
theorem Za{ops:Array Oper}{o:Oper}{a:Act}{w:World}{K:Act->World->Prop}{Q:Exit->Act->World->Prop}{E:Prop}(hg:o.guard=none)(ty:TypeId)(x:Operand)(ho:o.op=.load ty x)
  (b k:Nat)(hx:a.eval x=.pointer (some ⟨b,k,none⟩))(cs:List Value)(C:Array Value)(hC:cs.toArray=C)(d:TypeDesc)(hc:w.rangeAt b k cs)
  (hu:Tryz.prog.underlying ty=some d)(hd:d.isRow=true)(hi:(Tryz.prog.info? ty).map (·.size)=some cs.length)
  (h:K (a.put o.dst (.agg C)) w):if Region.wanted o (yielded ops a.tmps)=true then Oper.wp Tryz.prog o a w K Q else E:=by
 have hw:Region.wanted o (yielded ops a.tmps)=true:=by simp[Region.wanted,hg]
 rw[if_pos hw];subst hC;exact wp_load_mid ty x ho b k hx cs d hc hu hd hi h
theorem mr{ops:Array Oper}{o:Oper}{a:Act}{K:Act->World->Prop}{Q:Exit->Act->World->Prop}{E:Prop}(w:World)(f:Nat->Nat)(hgd:o.guard=none)(s x:Operand)
  (ho:o.op=.call {callee:=.builtin .append,args:=#[s,x],argTypes:=#[26,26]})
  (base:Nat) (v:Value) (n:Nat) (xs:List Value) (hs:a.eval s=v) (hown:w.ownsRow base 23 32 v n xs)
  (hx:a.eval x=.slice (some ⟨w.heap.size,0,none⟩) 1 1) (hb:n<=2 ^ 30) (hbase:base<=w.heap.size)
  (h:∀ g cap w',w'.ownsRow base 23 32 (.slice (some ⟨g,0,none⟩) (n+1) cap) (n+1) (xs ++ zi .u8 32 f)->(w.alloc (.cells (UARR .u8 32 f) 23)).grownBy w' v.ownBlock->K (a.put o.dst (.slice (some ⟨g,0,none⟩) (n+1) cap)) w'):
  if Region.wanted o (yielded ops a.tmps)=true then Oper.wp Tryz.prog o a (w.alloc (.cells (UARR .u8 32 f) 23)) K Q else E:=by
 obtain⟨i,hi,hz,hs1,hby⟩:=info_parts Yw;refine step_append_lies _ hgd s x 26 ho base 23 i _ 32 32 Tryz.underlying26 hi hz hs1 hby (by simp[Value.cells,zg]) (by decide) v n xs hs (hown.alloc _) ⟨w.heap.size,0,none⟩ 1 1 (zi .u8 32 f) hx (by rw[zD]) ?_ (GZ _ _ _) (by decide) (by simp only[maxLen];omega) (by omega) (by simp;omega) (w.heap.size+1) (by simp) ?_
 ·intro j u hj
  obtain⟨hj32,rfl⟩:=YI hj;rw[zY,Nat.zero_add,(Has.new w _ _).cell j,zt _ _ _ _ hj32]
 ·intro g cap w' h1 h2 _ _
  exact h g cap w' h1 h2
theorem jH{ops:Array Oper}{Q:Exit->Act->World->Prop}{md:Region.Mode}{fuel:Nat}{listed:Array Bool}{a:Act}{w:World}{o:Oper}(i:Nat)(hr:Region.ready md ops listed=[i])(ho:ops[i]?=some o)
  (h:∀ K':Act->World->Prop,(∀ a w,wpAny Tryz.prog md ops Q fuel (listed.setIfInBounds i true) a w->K' a w)->if Region.wanted o (yielded ops a.tmps)=true then Oper.wp Tryz.prog o a w K' Q else K' (a.put o.dst undef) w):wpAny Tryz.prog md ops Q (fuel+1) listed a w:=
 wpAny_ready hr (by simp) (AllReady.cons ho h AllReady.nil)
theorem qa{ops:Array Oper}{Q:Exit->Act->World->Prop}{md:Region.Mode}{fuel:Nat}{listed:Array Bool}{a a':Act}{w:World}(fuel':Nat)(listed':Array Bool)(hf:fuel=fuel')(hl:listed=listed')(ha:a=a')(h:wpAny Tryz.prog md ops Q fuel' listed' a' w):wpAny Tryz.prog md ops Q fuel listed a w:=by
 subst hf hl ha;exact h
theorem Xl(f:Nat->Nat):(Tryz.prog.info? 23).map (·.size)=some (zi .u8 32 f).length:=by rw[zD];exact yr
theorem vT(f:Nat->Nat):(Tryz.prog.info? 97).map (·.size)=some (zi .u8 64 f).length:=by rw[zD];exact YD
theorem U5(d:Int)(B:Nat)(v:Value)(m:Nat)(L:List Nat)(w:World)(hA:w.ownsRow B 97 64 v m (BY L))(hL:L.length=64*m)(hsm:Small8 L)(hm:m<2 ^ 30):Calls Tryz.prog 28 #[.int .i64 d,v] w fun e w'=>
  ∃ v',e=.returned v'/\w'.ownsRow w.heap.size 23 32 v' (m+1) (STS d L m)/\Below w.heap.size w w':=by
 obtain⟨a,c,rfl,hform⟩:=Xk hA;have cb:=Kc d;have H:Aside (w.ownsRow B 97 64 (.slice a m c) m (BY L)/\L.length=64*m/\Small8 L/\m<2 ^ 30/\(0<m->∃ g,a=some ⟨g,0,none⟩)):=⟨hA,hL,hsm,hm,hform⟩
 clear hA hL hsm hm hform;go_enter Tryz.func28,Tryz.ntmps28;go_wp2_with (first | (go_at_call 57;refine(cb _).mono ?_;rintro e w1 ⟨rfl,hb1⟩) | (refine yM _ rfl 26 23 (.tmp 8) rfl (UARR .u8 32 (yN d)) rfl 32 _ _ Tryz.underlying26 Yw (zg _ _ _) (by simp[Value.cells,zg]) (by decide) (by decide) ?_))
 have S:Aside ((w1.alloc (.cells (UARR .u8 32 (yN d)) 23)).ownsRow w.heap.size 23 32 (.slice (some ⟨w1.heap.size,0,none⟩) 1 1) 1 (STS d L 0)/\Below w.heap.size w (w1.alloc (.cells (UARR .u8 32 (yN d)) 23))):=⟨ZQ w1 _ hb1.size _,hb1.alloc hb1.size _⟩
 clear hb1 cb;generalize w1.alloc (.cells (UARR .u8 32 (yN d)) 23)=w2 at *
 generalize w1.heap.size=gb at *
 go_loopg [5,6] m (fun q s5 s6 wx=>∃ t:Nat,s6=.int .i64 (t:Int)/\Aside (t+q=m/\wx.ownsRow w.heap.size 23 32 s5 (t+1) (STS d L t)/\Below w.heap.size w wx))
 case atStart=>exact⟨0,rfl,by omega,S.out⟩
 case round=>
  obtain⟨t,rfl,A⟩:=hrel;clear S;cases gk with
  | zero=>
    obtain rfl:t=m:=by have:=A.out.1;omega
    have hlt:¬ (t:Int)<(t:Int):=by omega
    go_wp2;go_ret;exact⟨_,rfl,A.out.2⟩
  | succ q=>
    have htm:t<m:=by have:=A.out.1;omega
    have hlt:(t:Int)<(m:Int):=by omega
    obtain⟨gl,cap,hv, -,hgl⟩:=A.out.2.1.form (by omega);subst hv;obtain⟨gb,hgb⟩:=H.out.2.2.2.2 (by omega);subst hgb;have et:wrap64 ((t:Int)+1)=((t+1:Nat):Int):=by have:=H.out.2.2.2.1;unfold wrap64;omega
    have ht0:¬ (t:Int)<0:=by omega
    have ht1:(t:Int)<((t+1:Nat):Int):=by omega
    have hr1:wr.drew.rangeAt gl (t*32) (zi .u8 32 (zv d L t)):=(World.rangeAt_drew _ _ _ _).2 (JV A.out.2.1 t (Nat.le_refl t));have hr2:wr.drew.rangeAt gb (t*64) (zi .u8 64 (BLK L t)):=(World.rangeAt_drew _ _ _ _).2 (Kd (VQ H.out.1 A.out.2.2) H.out.2.1 t htm);have cc:=fun W=>Ux d (zv d L t) (BLK L t) (qL d L t) (Ui H.out.2.2.1 t) W;obtain⟨T,hT⟩:∃ T,t+1=T:=⟨_,rfl⟩
    rw[hT] at ht1 et
    have R:Aside (t+1=T/\T+q=m/\wr.ownsRow w.heap.size 23 32 (.slice (some ⟨gl,0,none⟩) T cap) T (STS d L t)/\Below w.heap.size w wr/\t<m/\m<2 ^ 30):=by
     rw[<-hT];exact⟨rfl,by have:=A.out.1;omega,A.out.2.1,A.out.2.2,htm,H.out.2.2.2.1⟩
    rw[hT];clear A hT htm;go_wp2;refine wp_region_any (by kernel_rfl) ?_;change wpAny _ _ _ _ _ _ _ (World.drew _);refine wpAny_take (i:=0) (v:=.slice (some ⟨gl,0,none⟩) T cap) rfl (by kernel_rfl) (by kernel_rfl) (by kernel_rfl) (fun _ _ _ h=>h) (Or.inl ⟨by rfl,fun W=>by go_simp⟩) ?_;refine wpAny_take (i:=1) (v:=.int .i64 d) rfl (by kernel_rfl) (by kernel_rfl) (by kernel_rfl) (fun _ _ _ h=>h) (Or.inl ⟨by rfl,fun W=>by go_simp⟩) ?_;refine wpAny_take (i:=2) (v:=.slice (some ⟨gl,0,none⟩) T cap) rfl (by kernel_rfl) (by kernel_rfl) (by kernel_rfl) (fun _ _ _ h=>h) (Or.inl ⟨by rfl,fun W=>by go_simp⟩) ?_;refine wpAny_take (i:=3) (v:=.int .i64 (t:Int)) rfl (by kernel_rfl) (by kernel_rfl) (by kernel_rfl) (fun _ _ _ h=>h) (Or.inl ⟨by rfl,fun W=>by go_simp⟩) ?_;refine wpAny_take (i:=4) (v:=.pointer (some ⟨gl,t*32,none⟩)) rfl (by kernel_rfl) (by kernel_rfl) (by kernel_rfl) (fun _ _ _ h=>h) (Or.inl ⟨by rfl,fun W=>by go_simp⟩) ?_;refine wpAny_take (i:=6) (v:=.slice (some ⟨gb,0,none⟩) m c) rfl (by kernel_rfl) (by kernel_rfl) (by kernel_rfl) (fun _ _ _ h=>h) (Or.inl ⟨by rfl,fun W=>by go_simp⟩) ?_;refine wpAny_take (i:=7) (v:=.int .i64 (t:Int)) rfl (by kernel_rfl) (by kernel_rfl) (by kernel_rfl) (fun _ _ _ h=>h) (Or.inl ⟨by rfl,fun W=>by go_simp⟩) ?_;refine wpAny_take (i:=8) (v:=.pointer (some ⟨gb,t*64,none⟩)) rfl (by kernel_rfl) (by kernel_rfl) (by kernel_rfl) (fun _ _ _ h=>h) (Or.inl ⟨by rfl,fun W=>by go_simp⟩) ?_
    refine qa (a':=?A2) 6 #[tt,tt,tt,tt,tt,ff,tt,tt,tt,ff,ff,ff,ff,ff] (by kernel_rfl) (by kernel_rfl) ?HA ?HW
    case HA=>
     go_simp;exact rfl
    refine wpAny_ready (rs:=[5,9]) (by kernel_rfl) (by simp) ?_;refine AllReady.cons (o:=⟨some 21,.load 23 (.tmp 20),23,"ref.go:159",#[⟨4,.data⟩],none⟩) rfl (fun K hK=>?_) (AllReady.cons (o:=⟨some 25,.load 97 (.tmp 24),97,"ref.go:159",#[⟨8,.data⟩],none⟩) rfl (fun K hK=>?_) AllReady.nil)
    focus
     refine Za (by rfl) 23 (.tmp 20) (by rfl) gl (t*32) (by rfl) (zi .u8 32 (zv d L t)) (UARR .u8 32 (zv d L t)) (zS _ _ _).symm (.array 32 5) hr1 Tryz.underlying23 (by rfl) (Xl _) ?_;refine hK _ _ ?_;clear hK K;refine qa (a':=?A11) 5 #[tt,tt,tt,tt,tt,tt,tt,tt,tt,ff,ff,ff,ff,ff] (by kernel_rfl) (by kernel_rfl) ?HA11 ?HW11
     case HA11=>
      go_simp;exact rfl
     refine jH (o:=⟨some 25,.load 97 (.tmp 24),97,"ref.go:159",#[⟨8,.data⟩],none⟩) 9 (by kernel_rfl) rfl (fun K hK=>?_);refine Za (by rfl) 97 (.tmp 24) (by rfl) gb (t*64) (by rfl) (zi .u8 64 (BLK L t)) (UARR .u8 64 (BLK L t)) (zS _ _ _).symm (.array 64 5) hr2 Tryz.underlying97 (by rfl) (vT _) ?_;refine hK _ _ ?_;clear hK K;refine qa (a':=?A12) 4 #[tt,tt,tt,tt,tt,tt,tt,tt,tt,tt,ff,ff,ff,ff] (by kernel_rfl) (by kernel_rfl) ?HA12 ?HW12
     case HA12=>
      go_simp;exact rfl
    rotate_left
    focus
     refine Za (by rfl) 97 (.tmp 24) (by rfl) gb (t*64) (by rfl) (zi .u8 64 (BLK L t)) (UARR .u8 64 (BLK L t)) (zS _ _ _).symm (.array 64 5) hr2 Tryz.underlying97 (by rfl) (vT _) ?_;refine hK _ _ ?_;clear hK K;refine qa (a':=?A13) 5 #[tt,tt,tt,tt,tt,ff,tt,tt,tt,tt,ff,ff,ff,ff] (by kernel_rfl) (by kernel_rfl) ?HA13 ?HW13
     case HA13=>
      go_simp;exact rfl
     refine jH (o:=⟨some 21,.load 23 (.tmp 20),23,"ref.go:159",#[⟨4,.data⟩],none⟩) 5 (by kernel_rfl) rfl (fun K hK=>?_);refine Za (by rfl) 23 (.tmp 20) (by rfl) gl (t*32) (by rfl) (zi .u8 32 (zv d L t)) (UARR .u8 32 (zv d L t)) (zS _ _ _).symm (.array 32 5) hr1 Tryz.underlying23 (by rfl) (Xl _) ?_;refine hK _ _ ?_;clear hK K;refine qa (a':=?A14) 4 #[tt,tt,tt,tt,tt,tt,tt,tt,tt,tt,ff,ff,ff,ff] (by kernel_rfl) (by kernel_rfl) ?HA14 ?HW14
     case HA14=>
      go_simp;exact rfl
    all_goals
     refine jH (o:=⟨some 26,.call {callee:=.value (.func 58),args:=#[.tmp 17,.tmp 21,.tmp 25],argTypes:=#[3,23,97]},23,"ref.go:159",#[⟨1,.data⟩,⟨5,.data⟩,⟨9,.data⟩],none⟩) 10 (by kernel_rfl) rfl (fun K hK=>?_);rw[if_pos (by rfl)];go_simp;refine(cc _).mono ?_;rintro e w3 ⟨rfl,hb3⟩;refine hK _ _ ?_;clear hK K;have R3:Aside (w3.ownsRow w.heap.size 23 32 (.slice (some ⟨gl,0,none⟩) T cap) T (STS d L t)/\Below w.heap.size w w3/\T<=2 ^ 30):=⟨VQ (w:=wr.drew) R.out.2.2.1 hb3,R.out.2.2.2.1.drew.trans (hb3.mono R.out.2.2.2.1.size),by have:=R.out.1;have:=R.out.2.2.2.2;omega⟩
     clear hb3;refine jH (o:=⟨some 27,.buildSlice 26 1 #[(0,.tmp 26)],26,"ref.go:159",#[⟨10,.data⟩],none⟩) 11 (by kernel_rfl) rfl (fun K hK=>?_);refine z0f w3 (by rfl) 26 23 (.tmp 26) (by rfl) (UARR .u8 32 (COMP d (zv d L t) (BLK L t))) (by rfl) 32 _ _ Tryz.underlying26 Yw (zg _ _ _) (by simp[Value.cells,zg]) (by decide) (by decide) ?_;refine hK _ _ ?_;clear hK K;apply qa 2 #[tt,tt,tt,tt,tt,tt,tt,tt,tt,tt,tt,tt,ff,ff] (by kernel_rfl) (by kernel_rfl)
     ·go_simp
      exact rfl
     refine jH (o:=⟨some 28,.call {callee:=.builtin .append,args:=#[.tmp 16,.tmp 27],argTypes:=#[26,26]},26,"ref.go:159",#[⟨0,.data⟩,⟨11,.data⟩,⟨10,.chain⟩],none⟩) 12 (by kernel_rfl) rfl (fun K hK=>?_);refine mr w3 (COMP d (zv d L t) (BLK L t)) (by rfl) (.tmp 16) (.tmp 27) (by rfl) w.heap.size (.slice (some ⟨gl,0,none⟩) T cap) T (STS d L t) (by rfl) R3.out.1 (by rfl) R3.out.2.2 R3.out.2.1.size ?_;intro g9 cap9 w9 hown9 hgrow9;refine hK _ _ ?_;clear hK K;apply qa 1 #[tt,tt,tt,tt,tt,tt,tt,tt,tt,tt,tt,tt,tt,ff] (by kernel_rfl) (by kernel_rfl)
     ·go_simp
      exact rfl
     refine wpAny_take (i:=13) (v:=.slice (some ⟨g9,0,none⟩) (T+1) cap9) rfl (by kernel_rfl) (by kernel_rfl) (by kernel_rfl) (fun _ _ _ h=>h) (Or.inl ⟨by rfl,fun W=>by go_simp⟩) ?_;refine wpAny_done (by kernel_rfl) ?_ _
     have T2:Aside (w9.ownsRow w.heap.size 23 32 (.slice (some ⟨g9,0,none⟩) (T+1) cap9) (T+1) (STS d L T)/\Below w.heap.size w w9):=by
      obtain⟨r1,r2,r3,r4,r5⟩:=R.out;refine⟨?_,(R3.out.2.1.alloc R3.out.2.1.size _).grown hgrow9 (by have:=R3.out.2.1.size;simp;omega) (fun k e=>(R3.out.1.lt k e).1)⟩;have e:STS d L T=STS d L t ++ zi .u8 32 (COMP d (zv d L t) (BLK L t)):=by rw[<-r1];rfl
      rw[e];exact hown9
     clear hown9 hgrow9 R3;go_wp2;go_roundg q
     case measure=>exact Nat.lt_succ_self _
     case rel=>exact⟨T,by first | rfl | (rw[et]),R.out.2.1,T2.out⟩
theorem z0g{w:World}{base n c:Nat}{a:Option Addr}{l:List Nat}(h:w.ownsRow base 5 1 (.slice a n c) n (BY l))(hl:Small8 l):Text w a n l:=Text.of_bytes (jW h (qo hl)).1
theorem z1H{w:World}{base n c s:Nat}{a:Option Addr}{t:TypeId}{xs:List Value}(h:w.ownsRow base t s (.slice a n c) n xs):a=none->c=0:=fun ha=>by
 rcases h.2 with ⟨hv,_⟩ | ⟨g,cap,cur,hv,_⟩
 ·simp at hv
  exact hv.2.2
 ·subst ha
  simp at hv
theorem Ke(l:List Nat):(HFUL l).length=64*((HFUL l).length / 64):=by rw[Yv];omega
theorem gS{l:List Nat}(h:Small8 l):Small8 (HFUL l):=fun x hx=>by
 rcases List.mem_append.1 hx with h1 | h1
 ·exact h x h1
 ·exact YT _ x h1
theorem uI{l:List Nat}(h:l.length<2 ^ 30):(HFUL l).length / 64<2 ^ 30:=by
 rw[Yv];unfold zw;omega
def Yd(w:World)(a:Option Addr)(k:Nat)(ps:List PART):Prop:=
 ps.length=k/\(0<k->∃ b off,a=some ⟨b,off,none⟩/\b<w.heap.size/\∀ i p,ps[i]?=some p->w.cell? ⟨b,off+i,none⟩=some (.slice p.a p.n p.c))/\∀ p∈ps,Text w p.a p.n p.l
theorem Parts.zero{w:World}{a:Option Addr}{k:Nat}{ps:List PART}(h:Parts w a k ps):Yd w a k ps:=⟨h.1,h.2.1,fun p hp=>(h.2.2 p hp).1⟩
theorem Kf{w:World}{a:Option Addr}{k:Nat}{ps:List PART}(h:Yd w a k ps):Small8 (JOIN ps):=fun x hx=>by
 obtain⟨y,hy,hx⟩:=List.mem_flatten.1 hx;obtain⟨p,hp,rfl⟩:=List.mem_map.1 hy;exact(h.2.2 p hp).2.2 x hx
theorem vU(d:Int)(a:Option Addr)(k c:Nat)(ps:List PART)(w:World)(hP:Yd w a k ps)(hnil:∀ p∈ps,p.a=none->p.c=0)(hlen:(JOIN ps).length<2 ^ 30)(hkk:k<2 ^ 60):Calls Tryz.prog 12 #[.int .i64 d,.slice a k c] w fun e w'=>e=.returned (.agg (UARR .u8 32 (zu d (JOIN ps))))/\Below w.heap.size w w':=by
 have hz:=zZ;have H:Aside (Yd w a k ps/\(∀ p∈ps,p.a=none->p.c=0)/\(JOIN ps).length<2 ^ 30):=⟨hP,hnil,hlen⟩
 have HK:Aside (k<2 ^ 60):=hkk;clear hP hnil hlen hkk;go_enter Tryz.func12,Tryz.ntmps12;go_wp2_with fail
 have R:Aside (Has (w.alloc (.cells (UARR .u8 32 fun _=>0) 23)) w.heap.size (UARR .u8 32 fun _=>0) 23/\Below w.heap.size w (w.alloc (.cells (UARR .u8 32 fun _=>0) 23))/\w.heap.size<(w.alloc (.cells (UARR .u8 32 fun _=>0) 23)).heap.size):=⟨Has.new _ _ _,(Below.refl _ _).alloc (Nat.le_refl _) _,by simp⟩
 generalize w.alloc (.cells (UARR .u8 32 fun _=>0) 23)=w1 at *
 clear hz;go_loopg [5,6] k (fun r s5 s6 wx=>∃ i N:Nat,i+r=k/\s6=.int .i64 i/\Aside (wx.ownsRow w1.heap.size 5 1 s5 N (BY (JOIN (ps.take i)))/\Below w1.heap.size w1 wx/\N=(JOIN (ps.take i)).length))
 case atStart=>exact⟨0,0,by omega,rfl,⟨rfl,.inl ⟨rfl,rfl⟩⟩,Below.refl _ _,rfl⟩
 case round=>
  obtain⟨i,N,hir,rfl,A⟩:=hrel;have hk:ps.length=k:=H.out.1.1;obtain⟨a5,c5,hv, -⟩:=Xk A.out.1;subst hv;cases gk with
  | zero=>
    obtain rfl:i=k:=by omega
    have hlt:¬ (i:Int)<(i:Int):=by omega
    obtain⟨hown,hbel,hN⟩:=A.out;rw[List.take_of_length_le (by omega)] at hown hN;have hsm:Small8 (JOIN ps):=Kf H.out.1;have cB:=U4 a5 N c5 (JOIN ps) wr (z0g hown hsm) (z1H hown) (by have:=H.out.2.2;omega);have cS:=fun(v:Value) (W:World) (h:W.ownsRow wr.heap.size 97 64 v ((HFUL (JOIN ps)).length / 64) (BY (HFUL (JOIN ps))))=>U5 d wr.heap.size v ((HFUL (JOIN ps)).length / 64) (HFUL (JOIN ps)) W h (Ke _) (gS hsm) (uI H.out.2.2);have hM:=uI H.out.2.2;have HO:Aside (zu d (JOIN ps)=zv d (HFUL (JOIN ps)) ((HFUL (JOIN ps)).length / 64)):=rfl;generalize (HFUL (JOIN ps)).length / 64=M at *
    have S:Aside (Has wr w.heap.size (UARR .u8 32 fun _=>0) 23/\Below w.heap.size w wr/\w.heap.size<wr.heap.size):=⟨R.out.1.keep hbel,R.out.2.1.trans (hbel.mono R.out.2.1.size),Nat.lt_of_lt_of_le R.out.2.2 hbel.size⟩
    clear A hown hbel hN hsm hk hir R;go_wp2_with fail
    refine cB.mono ?_;rintro e w4 ⟨v4,rfl,hown4,hb4⟩;go_wp2_with fail
    refine(cS v4 w4 hown4).mono ?_;rintro e w5 ⟨v5,rfl,hown5,hb5⟩;clear cB cS hown4;obtain⟨g,cap,hv, -,hg⟩:=hown5.form (by omega);subst hv;have hr:=JV hown5 M (Nat.le_refl M);have S2:Aside (Has w5 w.heap.size (UARR .u8 32 fun _=>0) 23/\Below w.heap.size w w5):=⟨(S.out.1.keep hb4).keep hb5,(S.out.2.1.trans (hb4.mono S.out.2.1.size)).trans (hb5.mono (Nat.le_trans S.out.2.1.size hb4.size))⟩
    obtain⟨M1,hM1⟩:∃ M1,M+1=M1:=⟨_,rfl⟩
    rw[hM1];have eM:wrap64 ((M1:Int) - 1)=(M:Int):=by unfold wrap64;omega
    have hM0:¬ (M:Int)<0:=by omega
    have hMl:(M:Int)<(M1:Int):=by omega
    clear hown5 hb4 hb5 S hg hM hM1
    go_wp2_with (first
     | (refine wpList_load_mid rfl 23 (.tmp 28) rfl g (M*32) rfl (zi .u8 32 (zv d (HFUL (JOIN ps)) M)) (.array 32 5) hr Tryz.underlying23 rfl (Xl _) ?_;rw[<-zS])
     | (refine wpList_store_row rfl 23 _ _ rfl _ _ rfl rfl _ _ S2.out.1 (zn _) (by rw[zg,zg]) (zA _ _ _) ?_))
    refine bodyPost_ret (v:=.agg (UARR .u8 32 (zv d (HFUL (JOIN ps)) M))) ?_ rfl ⟨by rw[HO.out],zm S2.out.2 (Nat.le_refl _) _⟩;exact results_cell_row rfl _ _ w.heap.size 23 _ (0,0) _ rfl (S2.out.1.row _) Tryz.underlying23 rfl (zn _)
  | succ r=>
    have hlt:(i:Int)<(k:Int):=by omega
    have hi0:¬ (i:Int)<0:=by omega
    obtain⟨hown,hbel,hN⟩:=A.out;have hbw:Below w.heap.size w wr:=R.out.2.1.trans (hbel.mono R.out.2.1.size);obtain⟨pb,po,rfl,hpb,hcell⟩:=H.out.1.2.1 (by omega);obtain⟨p,hp⟩:∃ p,ps[i]?=some p:=⟨_,List.getElem?_eq_getElem (by omega)⟩
    have hc:=(hbw.cell (p:=⟨pb,po+i,none⟩) (by exact hpb)).trans (hcell i p hp);have hmem:p∈ps:=List.mem_of_getElem? hp;have ht:=H.out.1.2.2 p hmem;have hz0:=H.out.2.1 p hmem;have hj:JOIN (ps.take (i+1))=JOIN (ps.take i) ++ p.l:=by rw[List.take_add_one,hp,Option.toList_some,xw]
    have hl2:N+p.n<2 ^ 30:=by
     have h1:=jU ps (i+1);rw[hj,List.length_append,ht.1] at h1;have:=H.out.2.2;omega
    have T:Aside (wr.ownsRow w1.heap.size 5 1 (.slice a5 N c5) N (BY (JOIN (ps.take i)))/\Below w1.heap.size w1 wr/\N=(JOIN (ps.take i)).length/\Bytes wr p.a p.n (INTS p.l)/\(p.a=none->p.c=0)/\N+p.n<2 ^ 30/\JOIN (ps.take (i+1))=JOIN (ps.take i) ++ p.l/\i+(r+1)=k/\p.l.length=p.n):=⟨hown,hbel,hN,(ht.below hbw).bytes,hz0,hl2,hj,hir,ht.1⟩
    clear ht hp hcell hpb hl2 hk hir hown hbel hN hbw hmem hz0 hj A;obtain⟨pa,pn,pc,pl⟩:=p;dsimp only at T hc;go_wp2_with (at_builtin;refine jF _ rfl (.tmp 14) (.tmp 18) rfl w1.heap.size (.slice a5 N c5) N (INTS (JOIN (ps.take i))) rfl T.out.1 pa pn pc (INTS pl) rfl T.out.2.2.2.1 T.out.2.2.2.2.1 (N+pn) _ rfl rfl (by have:=T.out.2.2.2.2.2.1;omega) T.out.2.1.size ?_;intro a6 c6 w6 hown6 hgrow6)
    go_roundg r
    case measure=>omega
    case rel=>
     obtain⟨t1,t2,t3,t4,t5,t6,t7,t8,t9⟩:=T.out;refine⟨i+1,N+pn,by omega,by have h1:=HK.out;have h2:wrap64 ((i:Int)+1)=((i+1:Nat):Int):=(by unfold wrap64;omega);rw[h2],?_,t2.grown hgrow6 t2.size (fun k e=>(t1.lt k e).1),?_⟩
     ·rw[t7,jp]
      rw[yp] at hown6;exact hown6
     ·rw[t7,List.length_append,<-t3,t9]
theorem z0h(w:World)(x:Nat)(base:Nat)(hb:base<=w.heap.size):(w.alloc (.cells #[.int .u8 (x:Int)] 5)).ownsRow base 5 1 (.slice (some ⟨w.heap.size,0,none⟩) 1 1) 1 (za (INTS [x])):=
 ⟨rfl,.inr ⟨w.heap.size,1,#[.int .u8 (x:Int)],rfl,hb,by first | exact(Has.new w _ _) | exact(Has.new w _ _).1 | simp,by decide,by decide,rfl,rfl⟩⟩
theorem Xm{w w1:World}{x:Nat}{ba bb m1 m2:Nat}{l1 l2:List Nat}(hb:Below w.heap.size w w1)(h1:Text w1 (some ⟨ba,0,none⟩) m1 l1)(h2:Text w1 (some ⟨bb,0,none⟩) m2 l2):
  Aside (Bytes (w1.alloc (.cells #[.int .u8 (x:Int)] 5)) (some ⟨ba,0,none⟩) m1 (INTS l1)/\(w1.alloc (.cells #[.int .u8 (x:Int)] 5)).ownsRow w.heap.size 5 1 (.slice (some ⟨w1.heap.size,0,none⟩) 1 1) 1 (za (INTS [x]))/\w.heap.size<=w1.heap.size/\
   (∀ w',(w1.alloc (.cells #[.int .u8 (x:Int)] 5)).grownBy w' (some w1.heap.size)->Bytes w' (some ⟨bb,0,none⟩) m2 (INTS l2)/\w.heap.size<=w'.heap.size/\Below w.heap.size w w'/\w1.heap.size<w'.heap.size)):=by
 refine⟨(h1.below ((Below.refl _ _).alloc (Nat.le_refl _) _)).bytes,z0h w1 x _ hb.size,hb.size,fun w' hg=>?_⟩;have hb':Below w1.heap.size w1 w':=((Below.refl _ _).alloc (Nat.le_refl _) _).grown hg (by simp) (fun k e=>by cases e;exact Nat.le_refl _);have hs:=hg.size;simp at hs;exact⟨(h2.below hb').bytes,Nat.le_trans hb.size hb'.size,hb.trans (hb'.mono hb.size),by omega⟩
theorem Uy(l r:Nat->Nat)(hl:∀ i,l i<256)(hr:∀ i,r i<256)(w:World):Calls Tryz.prog 101 #[.agg (UARR .u8 32 l),.agg (UARR .u8 32 r)] w fun e w'=>
  ∃ a' c',e=.returned (.slice a' 65 c')/\w'.ownsRow w.heap.size 5 1 (.slice a' 65 c') 65 (za (INTS (1 :: ((List.range 32).map l ++ (List.range 32).map r))))/\Below w.heap.size w w':=by
 have hs32:=qr;obtain⟨w1,hw1⟩:∃ w1,w1=(w.alloc (.cells (UARR .u8 32 l) 23)).alloc (.cells (UARR .u8 32 r) 23):=⟨_,rfl⟩
 have U:Below w.heap.size w w1/\Has w1 w.heap.size (UARR .u8 32 l) 23/\Has w1 (w.heap.size+1) (UARR .u8 32 r) 23:=by
  rw[hw1];exact⟨((Below.refl _ _).alloc (Nat.le_refl _) _).alloc (by simp) _,(Has.new w _ _).alloc _,Has.at _ _ _ (by simp)⟩
 have T1:=Xm (x:=1) U.1.drew (Has.text (w:=w1.drew) U.2.1 hl) (Has.text (w:=w1.drew) U.2.2 hr);clear U hl hr;go_enter Tryz.func101,Tryz.ntmps101;go_wp2_with fail
 rw[<-hw1];clear hw1;generalize hh:w.heap.size+1=h at *
 clear hh
 go_region_held_law (fun _=>True) (trivial) (first
  | (refine qR _ (by rfl) (.tmp 5) (.tmp 6) (by rfl) w.heap.size _ 1 (INTS [1]) (by rfl) T1.out.2.1 w.heap.size 0 32 32 (INTS ((List.range 32).map l)) (by rfl) T1.out.1 (by decide) (by decide) (by have:=T1.out.2.2.1;simp at this ⊢;omega) 33 rfl ?_;intro g5 c5 w5 hown5 hgrow5 hat5 hlt5)
  | (refine qR _ (by rfl) (.tmp 7) (.tmp 8) (by rfl) w.heap.size _ 33 _ (by rfl) hown5 h 0 32 32 (INTS ((List.range 32).map r)) (by rfl) (T1.out.2.2.2 _ hgrow5).1 (by decide) (by decide) (T1.out.2.2.2 _ hgrow5).2.1 65 rfl ?_;intro g6 c6 w6 hown6 hgrow6 hat6 hlt6))
 have S:Aside (w6.ownsRow w.heap.size 5 1 (.slice (some ⟨g6,0,none⟩) 65 c6) 65 (za (INTS (1 :: ((List.range 32).map l ++ (List.range 32).map r))))/\Below w.heap.size w w6):=by
  have hb5:=(T1.out.2.2.2 _ hgrow5).2.2.1;refine⟨?_,hb5.grown hgrow6 hb5.size (fun k e=>(hown5.lt k e).1)⟩;have e:INTS [1] ++ INTS ((List.range 32).map l) ++ INTS ((List.range 32).map r)=INTS (1 :: ((List.range 32).map l ++ (List.range 32).map r)):=by simp[INTS]
  rw[e] at hown6;exact hown6
 clear hown5 hgrow5 hat5 hlt5 hown6 hgrow6 hat6 hlt6 T1;go_simp;go_wp2;go_ret;exact⟨_,_,rfl,S.out.1,S.out.2⟩
theorem Uz(l r:Nat->Nat)(hl:∀ i,l i<256)(hr:∀ i,r i<256)(w:World):Calls Tryz.prog 70 #[.agg (UARR .u8 32 l),.agg (UARR .u8 32 r)] w fun e w'=>
  ∃ a' c',e=.returned (.slice a' 65 c')/\w'.ownsRow w.heap.size 5 1 (.slice a' 65 c') 65 (za (INTS (2 :: ((List.range 32).map l ++ (List.range 32).map r))))/\Below w.heap.size w w':=by
 have hs32:=qr;obtain⟨w1,hw1⟩:∃ w1,w1=(w.alloc (.cells (UARR .u8 32 l) 23)).alloc (.cells (UARR .u8 32 r) 23):=⟨_,rfl⟩
 have U:Below w.heap.size w w1/\Has w1 w.heap.size (UARR .u8 32 l) 23/\Has w1 (w.heap.size+1) (UARR .u8 32 r) 23:=by
  rw[hw1];exact⟨((Below.refl _ _).alloc (Nat.le_refl _) _).alloc (by simp) _,(Has.new w _ _).alloc _,Has.at _ _ _ (by simp)⟩
 have T1:=Xm (x:=2) U.1.drew (Has.text (w:=w1.drew) U.2.1 hl) (Has.text (w:=w1.drew) U.2.2 hr);clear U hl hr;go_enter Tryz.func70,Tryz.ntmps70;go_wp2_with fail
 rw[<-hw1];clear hw1;generalize hh:w.heap.size+1=h at *
 clear hh
 go_region_held_law (fun _=>True) (trivial) (first
  | (refine qR _ (by rfl) (.tmp 5) (.tmp 6) (by rfl) w.heap.size _ 1 (INTS [2]) (by rfl) T1.out.2.1 w.heap.size 0 32 32 (INTS ((List.range 32).map l)) (by rfl) T1.out.1 (by decide) (by decide) (by have:=T1.out.2.2.1;simp at this ⊢;omega) 33 rfl ?_;intro g5 c5 w5 hown5 hgrow5 hat5 hlt5)
  | (refine qR _ (by rfl) (.tmp 7) (.tmp 8) (by rfl) w.heap.size _ 33 _ (by rfl) hown5 h 0 32 32 (INTS ((List.range 32).map r)) (by rfl) (T1.out.2.2.2 _ hgrow5).1 (by decide) (by decide) (T1.out.2.2.2 _ hgrow5).2.1 65 rfl ?_;intro g6 c6 w6 hown6 hgrow6 hat6 hlt6))
 have S:Aside (w6.ownsRow w.heap.size 5 1 (.slice (some ⟨g6,0,none⟩) 65 c6) 65 (za (INTS (2 :: ((List.range 32).map l ++ (List.range 32).map r))))/\Below w.heap.size w w6):=by
  have hb5:=(T1.out.2.2.2 _ hgrow5).2.2.1;refine⟨?_,hb5.grown hgrow6 hb5.size (fun k e=>(hown5.lt k e).1)⟩;have e:INTS [2] ++ INTS ((List.range 32).map l) ++ INTS ((List.range 32).map r)=INTS (2 :: ((List.range 32).map l ++ (List.range 32).map r)):=by simp[INTS]
  rw[e] at hown6;exact hown6
 clear hown5 hgrow5 hat5 hlt5 hown6 hgrow6 hat6 hlt6 T1;go_simp;go_wp2;go_ret;exact⟨_,_,rfl,S.out.1,S.out.2⟩
theorem UA(n:Nat)(hn:n<2 ^ 64)(r:Nat->Nat)(hr:∀ i,r i<256)(w:World):Calls Tryz.prog 69 #[.int .u64 (n:Int),.agg (UARR .u8 32 r)] w fun e w'=>
  ∃ a' c',e=.returned (.slice a' 41 c')/\w'.ownsRow w.heap.size 5 1 (.slice a' 41 c') 41 (za (INTS (3 :: (BE8 n ++ (List.range 32).map r))))/\Below w.heap.size w w':=by
 have hs32:=qr;have hs8:=JR;have hz8:=Ul;have H:Aside (n<2 ^ 64/\∀ i,r i<256):=⟨hn,hr⟩
 clear hn hr;go_enter Tryz.func69,Tryz.ntmps69;go_wp2
 obtain⟨w7,tb,hw7,htb,T⟩:∃ w7 tb,w7=(w.alloc (.cells (UARR .u8 32 r) 23)).alloc (.cells (UARR .u8 8 fun _=>0) 98)/\tb=w.heap.size+1/\Aside (Has w7 tb (UARR .u8 8 fun _=>0) 98/\Has w7 w.heap.size (UARR .u8 32 r) 23/\Below w.heap.size w w7/\w.heap.size≠tb/\w.heap.size<=tb):=
  ⟨_,_,rfl,rfl,Has.at _ _ _ (by simp),(Has.new w _ _).alloc _,((Below.refl _ _).alloc (Nat.le_refl _) _).alloc (by simp) _,by omega,by omega⟩
 rw[<-hw7,<-htb];clear hw7 htb;go_loopg [0,6] 8 (fun q s0 s6 wx=>∃ z:Nat,s0=.int .u64 (z:Int)/\s6=.int .i64 ((q:Int) - 1)/\Aside (q<=8/\z=n / 2 ^ (8*(8 - q))/\Has wx tb (UARR .u8 8 fun j=>if q<=j then n / 2 ^ (8*(7 - j)) % 256 else 0) 98/\Has wx w.heap.size (UARR .u8 32 r) 23/\Below w.heap.size w wx))
 case atStart=>
  refine⟨n,rfl,rfl,by omega,by simp,?_,T.out.2.1,T.out.2.2.1⟩;have:(UARR .u8 8 fun j=>if 8<=j then n / 2 ^ (8*(7 - j)) % 256 else 0)=UARR .u8 8 fun _=>0:=zB fun j hj=>by rw[if_neg (by omega)]
  rw[this];exact T.out.1
 case round=>
  obtain⟨z,rfl,rfl,A⟩:=hrel;cases gk with
  | zero=>
    have hlt:¬ (0:Int)<=((0:Nat):Int) - 1:=by omega
    have T1:Aside (Bytes (wr.drew.alloc (.cells #[.int .u8 ((3:Nat):Int)] 5)) (some ⟨tb,0,none⟩) 8 (INTS (BE8 n))/\(wr.drew.alloc (.cells #[.int .u8 ((3:Nat):Int)] 5)).ownsRow w.heap.size 5 1 (.slice (some ⟨wr.drew.heap.size,0,none⟩) 1 1) 1 (za (INTS [3]))/\w.heap.size<=wr.drew.heap.size/\
    (∀ w',(wr.drew.alloc (.cells #[.int .u8 ((3:Nat):Int)] 5)).grownBy w' (some wr.drew.heap.size)->Bytes w' (some ⟨w.heap.size,0,none⟩) 32 (INTS ((List.range 32).map r))/\w.heap.size<=w'.heap.size/\Below w.heap.size w w'/\wr.drew.heap.size<w'.heap.size)):=by
      obtain⟨-, -,hH,hr,hbel⟩:=A.out;have h2:Has wr tb (UARR .u8 8 fun j=>n / 2 ^ (8*(7 - j)) % 256) 98:=by simpa using hH
      have hT8:Text wr.drew (some ⟨tb,0,none⟩) 8 (BE8 n):=VP (w:=wr.drew) (t:=98) (f:=fun j=>n / 2 ^ (8*(7 - j)) % 256) h2 (fun i=>Nat.mod_lt _ (by decide));exact Xm (x:=3) hbel.drew hT8 (Has.text (w:=wr.drew) hr H.out.2)
    clear A T hz8;go_wp2_with fail
    go_region_held_law (fun _=>True) (trivial) (first
      | (refine qR _ (by rfl) (.tmp 18) (.tmp 19) (by rfl) w.heap.size _ 1 (INTS [3]) (by rfl) T1.out.2.1 tb 0 8 8 (INTS (BE8 n)) (by rfl) T1.out.1 (by decide) (by decide) (by have:=T1.out.2.2.1;simp at this ⊢;omega) 9 rfl ?_;intro g5 c5 w5 hown5 hgrow5 hat5 hlt5)
      | (refine qR _ (by rfl) (.tmp 20) (.tmp 21) (by rfl) w.heap.size _ 9 _ (by rfl) hown5 w.heap.size 0 32 32 (INTS ((List.range 32).map r)) (by rfl) (T1.out.2.2.2 _ hgrow5).1 (by decide) (by decide) (T1.out.2.2.2 _ hgrow5).2.1 41 rfl ?_;intro g6 c6 w6 hown6 hgrow6 hat6 hlt6))
    have S:Aside (w6.ownsRow w.heap.size 5 1 (.slice (some ⟨g6,0,none⟩) 41 c6) 41 (za (INTS (3 :: (BE8 n ++ (List.range 32).map r))))/\Below w.heap.size w w6):=by
      have hb5:=(T1.out.2.2.2 _ hgrow5).2.2.1;refine⟨?_,hb5.grown hgrow6 hb5.size (fun k e=>(hown5.lt k e).1)⟩;have e:INTS [3] ++ INTS (BE8 n) ++ INTS ((List.range 32).map r)=INTS (3 :: (BE8 n ++ (List.range 32).map r)):=by simp[INTS]
      rw[e] at hown6;exact hown6
    clear hown5 hgrow5 hat5 hlt5 hown6 hgrow6 hat6 hlt6 T1;go_simp;go_wp2;go_ret;exact⟨_,_,rfl,S.out.1,S.out.2⟩
  | succ q=>
    obtain⟨q8,hz,hH,hrr,hbel⟩:=A.out;have e0:((q+1:Nat):Int) - 1=(q:Int):=by omega
    have e0':¬ (q:Int)<0:=by omega
    have e0'':(q:Int)<8:=by omega
    have ew:wrap64 ((q:Int) - 1)=(q:Int) - 1:=by unfold wrap64;omega
    have hz64':z<2 ^ 64:=by rw[hz];exact Nat.lt_of_le_of_lt (Nat.div_le_self _ _) H.out.1
    obtain⟨b0,hb0⟩:∃ b0,z % 256=b0:=⟨_,rfl⟩
    obtain⟨z2,hz2⟩:∃ z2,z / 256=z2:=⟨_,rfl⟩
    have em:(z:Int) % 256=(b0:Int):=by omega
    have em2:(b0:Int) % 256=(b0:Int):=by omega
    have ed:(z:Int) / 256=(z2:Int):=by omega
    have ed2:IntKind.u64.wrap (z2:Int)=(z2:Int):=by rw[zh];omega
    have em3:IntKind.u64.wrap (b0:Int)=(b0:Int):=by rw[zh];omega
    have y0:wr.cell? ⟨tb,q,none⟩=some (.int .u8 0):=by
      rw[hH.cell q,zt _ _ _ _ (by omega),if_neg (by omega)];rfl
    have f0:wr.frozen? ⟨tb,q,none⟩=false:=hH.frozen q
    have R:Aside (q<=8/\z2=n / 2 ^ (8*(8 - q))/\Has (wr.setCell ⟨tb,q,none⟩ (.int .u8 (b0:Int))) tb (UARR .u8 8 fun j=>if q<=j then n / 2 ^ (8*(7 - j)) % 256 else 0) 98/\Has (wr.setCell ⟨tb,q,none⟩ (.int .u8 (b0:Int))) w.heap.size (UARR .u8 32 r) 23/\Below w.heap.size w (wr.setCell ⟨tb,q,none⟩ (.int .u8 (b0:Int)))):=by
      refine⟨by omega,?_,?_,hrr.other (a:=⟨tb,q,none⟩) T.out.2.2.2.1 _,hbel.setCell (p:=⟨tb,q,none⟩) T.out.2.2.2.2 _⟩
      ·rw[<-hz2,hz,Nat.div_div_eq_div_mul,show (256:Nat)=2 ^ 8 from rfl,<-Nat.pow_add]
       congr 2
       omega
      ·have h:=hH.set q (.int .u8 (b0:Int))
       rw[xB] at h
       have e:(UARR .u8 8 fun j=>if j=q then b0 else if q+1<=j then n / 2 ^ (8*(7 - j)) % 256 else 0)=UARR .u8 8 fun j=>if q<=j then n / 2 ^ (8*(7 - j)) % 256 else 0:=zB fun j hj=>by
        by_cases e:j=q
        ·subst e
         rw[if_pos rfl,if_pos (Nat.le_refl _),<-hb0,hz];congr 3
         omega
        ·rw[if_neg e]
         by_cases e2:q+1<=j
         ·rw[if_pos e2,if_pos (by omega)]
         ·rw[if_neg e2,if_neg (by omega)]
       rw[e] at h;exact h
    rw[e0];clear A hz hH hrr hbel q8 hb0 hz2 hz64';go_wp2;go_roundg q
    case measure=>omega
    case rel=>exact⟨z2,by first | rfl,by first | rfl | (rw[ew]),R.out⟩
theorem Yx{w:World}(d:Int){B n c:Nat}{a:Option Addr}{l:List Nat}(h:w.ownsRow B 5 1 (.slice a n c) n (za (INTS l)))(hs:Small8 l)(hl:l.length<5000):
  Calls Tryz.prog 12 #[.int .i64 d,.slice (some ⟨w.heap.size,0,none⟩) 1 1] (w.alloc (.cells #[.slice a n c] 27)) fun e w'=>e=.returned (.agg (UARR .u8 32 (zu d l)))/\Below (w.alloc (.cells #[.slice a n c] 27)).heap.size (w.alloc (.cells #[.slice a n c] 27)) w':=by
 have:=vU d _ 1 1 _ _ (YU h hs).1.zero (fun p hp=>by simp only[List.mem_singleton] at hp;subst hp;exact(YU h hs).2) (by rw[ZD];omega) (by decide);rw[ZD] at this;exact this
theorem gT(d:Int)(l r:Nat->Nat)(hl:∀ i,l i<256)(hr:∀ i,r i<256)(w:World):Calls Tryz.prog 68 #[.int .i64 d,.agg (UARR .u8 32 l),.agg (UARR .u8 32 r)] w fun e w'=>e=.returned (.agg (UARR .u8 32 (zu d (1 :: ((List.range 32).map l ++ (List.range 32).map r)))))/\Below w.heap.size w w':=by
 have hz:=zZ;have ct:=fun W=>Uy l r hl hr W;have H:Aside ((∀ i,l i<256)/\(∀ i,r i<256)):=⟨hl,hr⟩
 obtain⟨W,zb,lb,rb,hW,hzb,hlb,hrb,R,h4,h5⟩:∃ W zb lb rb,W=((w.alloc (.cells (UARR .u8 32 l) 23)).alloc (.cells (UARR .u8 32 r) 23)).alloc (.cells (UARR .u8 32 fun _=>0) 23)/\zb=w.heap.size+1+1/\lb=w.heap.size/\rb=w.heap.size+1/\Aside (Has W zb (UARR .u8 32 fun _=>0) 23/\Below w.heap.size w W/\w.heap.size<=zb)/\W.rangeAt lb 0 (zi .u8 32 l)/\W.rangeAt rb 0 (zi .u8 32 r):=by
  refine⟨_,_,_,_,rfl,rfl,rfl,rfl,⟨Has.at _ _ _ (by simp),(((Below.refl _ _).alloc (Nat.le_refl _) _).alloc (by simp) _).alloc (by simp;omega) _,by omega⟩,(((Has.new w _ _).alloc _).alloc _).whole,((Has.at _ _ _ (by simp)).alloc _).whole⟩
 clear hl hr;go_enter Tryz.func68,Tryz.ntmps68
 go_wp2_with (first
  | (rw[<-hW];refine wpList_load_mid rfl 23 (.tmp 4) rfl w.heap.size 0 rfl (zi .u8 32 l) (.array 32 5) (by rw[<-hlb];exact h4) Tryz.underlying23 rfl (by rw[zD];exact yr) ?_;rw[<-zS])
  | (refine wpList_load_mid rfl 23 (.tmp 5) rfl (w.heap.size+1) 0 rfl (zi .u8 32 r) (.array 32 5) (by rw[<-hrb];exact h5) Tryz.underlying23 rfl (by rw[zD];exact yr) ?_;rw[<-zS]))
 rw[<-hzb];refine(ct _).mono ?_;rintro e w2 ⟨a',c',rfl,hown,hb⟩;rw[<-hW] at hown hb;clear ct h4 h5 hW hzb hlb hrb;have S:Aside (Has w2 zb (UARR .u8 32 fun _=>0) 23/\Below w.heap.size w w2):=⟨R.out.1.keep hb,R.out.2.1.trans (hb.mono R.out.2.1.size)⟩
 have cs:=Yx d hown (qt (by decide) (qA (yP H.out.1) (yP H.out.2))) (by simp);have Z:Aside (w.heap.size<=zb):=R.out.2.2;clear hown hb R;go_wp2_with fail
 refine cs.mono ?_;rintro e w3 ⟨rfl,hb3⟩;have hb4:Below w2.heap.size w2 w3:=((Below.refl _ _).alloc (Nat.le_refl _) _).trans (hb3.mono (by simp));have S2:Aside (Has w3 zb (UARR .u8 32 fun _=>0) 23/\Below w.heap.size w w3):=⟨S.out.1.keep hb4,S.out.2.trans (hb4.mono S.out.2.size)⟩
 clear cs hb3 hb4 S
 go_wp2_with (first
  | (refine wpList_store_row rfl 23 _ _ rfl _ _ rfl rfl _ _ S2.out.1 (zn _) (by rw[zg,zg]) (zA _ _ _) ?_))
 refine bodyPost_ret (v:=.agg (UARR .u8 32 (zu d (1 :: ((List.range 32).map l ++ (List.range 32).map r))))) ?_ rfl ⟨rfl,zm S2.out.2 Z.out _⟩;exact results_cell_row rfl _ _ zb 23 _ (0,0) _ rfl (S2.out.1.row _) Tryz.underlying23 rfl (zn _)
theorem gU(d:Int)(l r:Nat->Nat)(hl:∀ i,l i<256)(hr:∀ i,r i<256)(w:World):Calls Tryz.prog 39 #[.int .i64 d,.agg (UARR .u8 32 l),.agg (UARR .u8 32 r)] w fun e w'=>e=.returned (.agg (UARR .u8 32 (zu d (2 :: ((List.range 32).map l ++ (List.range 32).map r)))))/\Below w.heap.size w w':=by
 have hz:=zZ;have ct:=fun W=>Uz l r hl hr W;have H:Aside ((∀ i,l i<256)/\(∀ i,r i<256)):=⟨hl,hr⟩
 obtain⟨W,zb,lb,rb,hW,hzb,hlb,hrb,R,h4,h5⟩:∃ W zb lb rb,W=((w.alloc (.cells (UARR .u8 32 l) 23)).alloc (.cells (UARR .u8 32 r) 23)).alloc (.cells (UARR .u8 32 fun _=>0) 23)/\zb=w.heap.size+1+1/\lb=w.heap.size/\rb=w.heap.size+1/\Aside (Has W zb (UARR .u8 32 fun _=>0) 23/\Below w.heap.size w W/\w.heap.size<=zb)/\W.rangeAt lb 0 (zi .u8 32 l)/\W.rangeAt rb 0 (zi .u8 32 r):=by
  refine⟨_,_,_,_,rfl,rfl,rfl,rfl,⟨Has.at _ _ _ (by simp),(((Below.refl _ _).alloc (Nat.le_refl _) _).alloc (by simp) _).alloc (by simp;omega) _,by omega⟩,(((Has.new w _ _).alloc _).alloc _).whole,((Has.at _ _ _ (by simp)).alloc _).whole⟩
 clear hl hr;go_enter Tryz.func39,Tryz.ntmps39
 go_wp2_with (first
  | (rw[<-hW];refine wpList_load_mid rfl 23 (.tmp 4) rfl w.heap.size 0 rfl (zi .u8 32 l) (.array 32 5) (by rw[<-hlb];exact h4) Tryz.underlying23 rfl (by rw[zD];exact yr) ?_;rw[<-zS])
  | (refine wpList_load_mid rfl 23 (.tmp 5) rfl (w.heap.size+1) 0 rfl (zi .u8 32 r) (.array 32 5) (by rw[<-hrb];exact h5) Tryz.underlying23 rfl (by rw[zD];exact yr) ?_;rw[<-zS]))
 rw[<-hzb];refine(ct _).mono ?_;rintro e w2 ⟨a',c',rfl,hown,hb⟩;rw[<-hW] at hown hb;clear ct h4 h5 hW hzb hlb hrb;have S:Aside (Has w2 zb (UARR .u8 32 fun _=>0) 23/\Below w.heap.size w w2):=⟨R.out.1.keep hb,R.out.2.1.trans (hb.mono R.out.2.1.size)⟩
 have cs:=Yx d hown (qt (by decide) (qA (yP H.out.1) (yP H.out.2))) (by simp);have Z:Aside (w.heap.size<=zb):=R.out.2.2;clear hown hb R;go_wp2_with fail
 refine cs.mono ?_;rintro e w3 ⟨rfl,hb3⟩;have hb4:Below w2.heap.size w2 w3:=((Below.refl _ _).alloc (Nat.le_refl _) _).trans (hb3.mono (by simp));have S2:Aside (Has w3 zb (UARR .u8 32 fun _=>0) 23/\Below w.heap.size w w3):=⟨S.out.1.keep hb4,S.out.2.trans (hb4.mono S.out.2.size)⟩
 clear cs hb3 hb4 S
 go_wp2_with (first
  | (refine wpList_store_row rfl 23 _ _ rfl _ _ rfl rfl _ _ S2.out.1 (zn _) (by rw[zg,zg]) (zA _ _ _) ?_))
 refine bodyPost_ret (v:=.agg (UARR .u8 32 (zu d (2 :: ((List.range 32).map l ++ (List.range 32).map r))))) ?_ rfl ⟨rfl,zm S2.out.2 Z.out _⟩;exact results_cell_row rfl _ _ zb 23 _ (0,0) _ rfl (S2.out.1.row _) Tryz.underlying23 rfl (zn _)
theorem gV(d:Int)(n:Nat)(hn:n<2 ^ 64)(r:Nat->Nat)(hr:∀ i,r i<256)(w:World):Calls Tryz.prog 38 #[.int .i64 d,.int .u64 (n:Int),.agg (UARR .u8 32 r)] w fun e w'=>e=.returned (.agg (UARR .u8 32 (zu d (3 :: (BE8 n ++ (List.range 32).map r)))))/\Below w.heap.size w w':=by
 have hz:=zZ;have ct:=fun W=>UA n hn r hr W;have H:Aside ((∀ i,r i<256)):=hr
 obtain⟨W,zb,rb,hW,hzb,hrb,R,h5⟩:∃ W zb rb,W=(w.alloc (.cells (UARR .u8 32 r) 23)).alloc (.cells (UARR .u8 32 fun _=>0) 23)/\zb=w.heap.size+1/\rb=w.heap.size/\Aside (Has W zb (UARR .u8 32 fun _=>0) 23/\Below w.heap.size w W/\w.heap.size<=zb)/\W.rangeAt rb 0 (zi .u8 32 r):=by
  refine⟨_,_,_,rfl,rfl,rfl,⟨Has.at _ _ _ (by simp),((Below.refl _ _).alloc (Nat.le_refl _) _).alloc (by simp) _,by omega⟩,((Has.new w _ _).alloc _).whole⟩
 clear hn hr;go_enter Tryz.func38,Tryz.ntmps38
 go_wp2_with (first
  | (rw[<-hW];refine wpList_load_mid rfl 23 (.tmp 5) rfl w.heap.size 0 rfl (zi .u8 32 r) (.array 32 5) (by rw[<-hrb];exact h5) Tryz.underlying23 rfl (by rw[zD];exact yr) ?_;rw[<-zS]))
 rw[<-hzb];refine(ct _).mono ?_;rintro e w2 ⟨a',c',rfl,hown,hb⟩;rw[<-hW] at hown hb;clear ct h5 hW hzb hrb;have S:Aside (Has w2 zb (UARR .u8 32 fun _=>0) 23/\Below w.heap.size w w2):=⟨R.out.1.keep hb,R.out.2.1.trans (hb.mono R.out.2.1.size)⟩
 have cs:=Yx d hown (qt (by decide) (qA (vM n) (yP H.out))) (by simp[BE8]);have Z:Aside (w.heap.size<=zb):=R.out.2.2;clear hown hb R;go_wp2_with fail
 refine cs.mono ?_;rintro e w3 ⟨rfl,hb3⟩;have hb4:Below w2.heap.size w2 w3:=((Below.refl _ _).alloc (Nat.le_refl _) _).trans (hb3.mono (by simp));have S2:Aside (Has w3 zb (UARR .u8 32 fun _=>0) 23/\Below w.heap.size w w3):=⟨S.out.1.keep hb4,S.out.2.trans (hb4.mono S.out.2.size)⟩
 clear cs hb3 hb4 S
 go_wp2_with (first
  | (refine wpList_store_row rfl 23 _ _ rfl _ _ rfl rfl _ _ S2.out.1 (zn _) (by rw[zg,zg]) (zA _ _ _) ?_))
 refine bodyPost_ret (v:=.agg (UARR .u8 32 (zu d (3 :: (BE8 n ++ (List.range 32).map r))))) ?_ rfl ⟨rfl,zm S2.out.2 Z.out _⟩;exact results_cell_row rfl _ _ zb 23 _ (0,0) _ rfl (S2.out.1.row _) Tryz.underlying23 rfl (zn _)
end HX
end Go.Proofs.YtobaogpomcocpaaGreatDoor
