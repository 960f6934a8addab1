/- FindProves: part 32. -/
import Derived.Laws.CopyOwn
import Derived.Test.YtlbcnaenhghieaaGreatDoorFindProvesP31
namespace Go.Proofs.YtlbcnaenhghieaaGreatDoor.HX
open Go.RowKit
set_option maxRecDepth 100000
theorem za0:(((((((((((((((((((((((((((((((((UARR .u8 32 fun _=>0).setIfInBounds 0 (.int .u8 106)).setIfInBounds 1 (.int .u8 9)).setIfInBounds 2 (.int .u8 230)).setIfInBounds 3 (.int .u8 103)).setIfInBounds 4 (.int .u8 187)).setIfInBounds 5 (.int .u8 103)).setIfInBounds 6 (.int .u8 174)).setIfInBounds 7 (.int .u8 133)).setIfInBounds 8 (.int .u8 60)).setIfInBounds 9 (.int .u8 110)).setIfInBounds 10 (.int .u8 243)).setIfInBounds 11 (.int .u8 114)).setIfInBounds 12 (.int .u8 165)).setIfInBounds 13 (.int .u8 79)).setIfInBounds 14 (.int .u8 245)).setIfInBounds 15 (.int .u8 58)).setIfInBounds 16 (.int .u8 81)).setIfInBounds 17 (.int .u8 14)).setIfInBounds 18 (.int .u8 82)).setIfInBounds 19 (.int .u8 127)).setIfInBounds 20 (.int .u8 155)).setIfInBounds 21 (.int .u8 5)).setIfInBounds 22 (.int .u8 104)).setIfInBounds 23 (.int .u8 140)).setIfInBounds 24 (.int .u8 31)).setIfInBounds 25 (.int .u8 131)).setIfInBounds 26 (.int .u8 217)).setIfInBounds 27 (.int .u8 171)).setIfInBounds 28 (.int .u8 91)).setIfInBounds 29 (.int .u8 224)).setIfInBounds 30 (.int .u8 205)).setIfInBounds 31 (.int .u8 25))=UARR .u8 32 (z0e fun i=>BEGIN.getD i 0):=by kernel_rfl
theorem za1 (d:Int) (w:World):Calls Tryz.prog 101 #[.int .i64 d] w fun e w'=>e=.returned (.agg (UARR .u8 32 (z1A d)))/\Below w.heap.size w w':=by
 have cc:=z7s d (z0e fun i=>BEGIN.getD i 0);have hz:=z1o;go_enter Tryz.func101,Tryz.ntmps101;go_wp2_with fail
 rw [za0];refine (cc _).mono ?_;rintro e w9 ⟨rfl,hb9⟩;have hC:z0u d (z0e fun i=>BEGIN.getD i 0)=z1A d:=rfl;rw [hC];clear cc hC hz;have Y:Aside (Below w.heap.size w w9/\Has w9 w.heap.size (UARR .u8 32 fun _=>0) 25):=⟨((Below.refl _ _).alloc (Nat.le_refl _) _).trans (hb9.mono (by simp)),(Has.new w _ _).keep hb9⟩
 clear hb9;go_wp2_with (first | (refine wpList_store_row rfl 25 _ _ rfl _ _ rfl rfl _ _ Y.out.2 (z04 _) (by rw [z03,z03]) (z0j _ _ _) ?_))
 refine bodyPost_ret (v:=.agg (UARR .u8 32 (z1A d))) ?_ rfl ⟨rfl,z0d Y.out.1 (Nat.le_refl _) _⟩;exact results_cell_row rfl _ _ w.heap.size 25 _ (0,0) _ rfl (Y.out.2.row _) Tryz.underlying25 rfl (z04 _)
def STS (d:Int) (L:List Nat):Nat->List Value
 | 0=>z05 .u8 32 (z0n d L 0)
 | k+1=>STS d L k ++ z05 .u8 32 (z0n d L (k+1))
theorem z2L (d:Int) (L:List Nat):∀ k,(STS d L k).length=(k+1)*32
 | 0=>by rw [STS,z0a]
 | k+1=>by rw [STS,List.length_append,z2L d L k,z0a];omega
theorem zaW (d:Int) (L:List Nat):∀ k j i,j<=k->i<32->(STS d L k)[j*32+i]?=some (.int .u8 ((z0n d L j i:Nat):Int))
 | 0,j,i,hj,hi=>by
   obtain rfl:j=0:=by omega
   rw [STS,Nat.zero_mul,Nat.zero_add,z0Z _ _ _ _ hi]
 | k + 1,j,i,hj,hi=>by
   rw [STS];by_cases h:j<=k
   ·rw [List.getElem?_append_left (by rw [z2L];omega),zaW d L k j i h hi]
   ·obtain rfl:j=k+1:=by omega
    rw [List.getElem?_append_right (by rw [z2L];omega),z2L,show (k+1)*32+i - (k+1)*32=i by omega,z0Z _ _ _ _ hi]
theorem z49 {k:IntKind} {n:Nat} {f:Nat->Nat} {j:Nat} {v:Value} (h:(z05 k n f)[j]?=some v):j<n/\v=.int k ((f j:Nat):Int):=by
 have hj:j<n:=by have:=(List.getElem?_eq_some_iff.1 h).1;rw [z0a] at this;exact this
 rw [z0Z _ _ _ _ hj] at h;exact ⟨hj,(Option.some.inj h).symm⟩
theorem z5l {w:World} {base g k cap:Nat} {d:Int} {L:List Nat} (h:w.ownsRow base 25 32 (.slice (some ⟨g,0,none⟩) (k+1) cap) (k+1) (STS d L k)) (j:Nat) (hj:j<=k):w.rangeAt g (j*32) (z05 .u8 32 (z0n d L j)):=fun i v hv=>by
 obtain ⟨hi,rfl⟩:=z49 hv;rw [h.cellAt (j*32+i) (by omega),zaW d L k j i hj hi]
theorem za2 {w:World} {base g m cap:Nat} {L:List Nat} (h:w.ownsRow base 148 64 (.slice (some ⟨g,0,none⟩) m cap) m (BY L)) (hL:L.length=64*m) (t:Nat) (ht:t<m):w.rangeAt g (t*64) (z05 .u8 64 (BLK L t)):=fun i v hv=>by
 obtain ⟨hi,rfl⟩:=z49 hv;rw [h.cellAt (t*64+i) (by omega),z8S _ _ (by omega)];unfold BLK;rw [if_pos hi,Nat.mul_comm]
theorem z3t:(Tryz.prog.info? 25).map (fun i=>(i.zero,i.size,i.bytes))=some (some (.agg (UARR .u8 32 fun _=>0)),32,32):=by kernel_rfl
theorem zax (w:World) (base:Nat) (hb:base<=w.heap.size) (f:Nat->Nat):(w.alloc (.cells (UARR .u8 32 f) 25)).ownsRow base 25 32 (.slice (some ⟨w.heap.size,0,none⟩) 1 1) 1 (z05 .u8 32 f):=
 ⟨by rw [z0a],.inr ⟨w.heap.size,1,UARR .u8 32 f,rfl,hb,by first | exact (Has.new w _ _) | exact (Has.new w _ _).1 | simp,by decide,by decide,by rw [z03],by rw [z0N,List.take_of_length_le (by rw [z0a];decide)]⟩⟩
theorem zfy {ops:Array Oper} {o:Oper} {a:Act} {K:Act->World->Prop} {Q:Exit->Act->World->Prop} {E:Prop} (w:World) (hg:o.guard=none) (t e:TypeId) (x:Operand) (ho:o.op=.buildSlice t 1 #[(0,x)]) (C:Array Value) (hx:a.eval x=.agg C) (n:Nat) (z:Value) (by':Nat)
  (hu:Tryz.prog.underlying t=some (.slice e)) (hi:(Tryz.prog.info? e).map (fun i=>(i.zero,i.size,i.bytes))=some (some z,n,by')) (hC:C.size=n) (hz:z.cells.size=n) (hn:0<n) (hs:n<=1000)
  (h:K (a.put o.dst (.slice (some ⟨w.heap.size,0,none⟩) 1 1)) (w.alloc (.cells C e))):if Region.wanted o (yielded ops a.tmps)=true then Oper.wp Tryz.prog o a w K Q else E:=by
 have hw:Region.wanted o (yielded ops a.tmps)=true:=by simp [Region.wanted,hg]
 rw [if_pos hw];obtain ⟨i,hie,hz',hs1,_⟩:=info_parts hi;refine wp_buildSlice t e 1 _ ho C i z hu hie hz' (by rw [hs1];omega) (by rw [hs1];omega) ?_ h;have:=Great.fill_whole (s:=n) hn [.agg C] ((Array.range (1*i.size)).map (z.cells[· % z.cells.size]!)) (fun v hv=>by simp at hv;subst hv;exact hC) (by simp [hs1]);simp [Value.cells] at this;rw [hs1];simp [hx];rw [hs1] at this;exact this
theorem z2d {ops:Array Oper} {o:Oper} {a:Act} {w:World} {K:Act->World->Prop} {Q:Exit->Act->World->Prop} {E:Prop} (hg:o.guard=none) (ty:TypeId) (x:Operand) (ho:o.op=.load ty x)
  (b k:Nat) (hx:a.eval x=.pointer (some ⟨b,k,none⟩)) (cs:List Value) (C:Array Value) (hC:cs.toArray=C) (d:TypeDesc) (hc:w.rangeAt b k cs)
  (hu:Tryz.prog.underlying ty=some d) (hd:d.isRow=true) (hi:(Tryz.prog.info? ty).map (·.size)=some cs.length)
  (h:K (a.put o.dst (.agg C)) w):if Region.wanted o (yielded ops a.tmps)=true then Oper.wp Tryz.prog o a w K Q else E:=by
 have hw:Region.wanted o (yielded ops a.tmps)=true:=by simp [Region.wanted,hg]
 rw [if_pos hw];subst hC;exact wp_load_mid ty x ho b k hx cs d hc hu hd hi h
theorem zdI {ops:Array Oper} {o:Oper} {a:Act} {K:Act->World->Prop} {Q:Exit->Act->World->Prop} {E:Prop} (w:World) (f:Nat->Nat) (hgd:o.guard=none) (s x:Operand)
  (ho:o.op=.call {callee:=.builtin .append,args:=#[s,x],argTypes:=#[22,22]})
  (base:Nat) (v:Value) (n:Nat) (xs:List Value) (hs:a.eval s=v) (hown:w.ownsRow base 25 32 v n xs)
  (hx:a.eval x=.slice (some ⟨w.heap.size,0,none⟩) 1 1) (hb:n<=2 ^ 30) (hbase:base<=w.heap.size)
  (h:∀ g cap w',w'.ownsRow base 25 32 (.slice (some ⟨g,0,none⟩) (n+1) cap) (n+1) (xs ++ z05 .u8 32 f)->(w.alloc (.cells (UARR .u8 32 f) 25)).grownBy w' v.ownBlock->K (a.put o.dst (.slice (some ⟨g,0,none⟩) (n+1) cap)) w'):
  if Region.wanted o (yielded ops a.tmps)=true then Oper.wp Tryz.prog o a (w.alloc (.cells (UARR .u8 32 f) 25)) K Q else E:=by
 obtain ⟨i,hi,hz,hs1,hby⟩:=info_parts z3t;refine step_append_lies _ hgd s x 22 ho base 25 i _ 32 32 Tryz.underlying22 hi hz hs1 hby (by simp [Value.cells,z03]) (by decide) v n xs hs (hown.alloc _) ⟨w.heap.size,0,none⟩ 1 1 (z05 .u8 32 f) hx (by rw [z0a]) ?_ (z3h _ _ _) (by decide) (by simp only [maxLen];omega) (by omega) (by simp;omega) (w.heap.size+1) (by simp) ?_
 ·intro j u hj
  obtain ⟨hj32,rfl⟩:=z49 hj;rw [z0y,Nat.zero_add,(Has.new w _ _).cell j,z0f _ _ _ _ hj32]
 ·intro g cap w' h1 h2 _ _
  exact h g cap w' h1 h2
theorem z3A {ops:Array Oper} {Q:Exit->Act->World->Prop} {md:Region.Mode} {fuel:Nat} {listed:Array Bool} {a:Act} {w:World} {o:Oper} (i:Nat) (hr:Region.ready md ops listed=[i]) (ho:ops[i]?=some o)
  (h:∀ K':Act->World->Prop,(∀ a w,wpAny Tryz.prog md ops Q fuel (listed.setIfInBounds i true) a w->K' a w)->if Region.wanted o (yielded ops a.tmps)=true then Oper.wp Tryz.prog o a w K' Q else K' (a.put o.dst undef) w):wpAny Tryz.prog md ops Q (fuel+1) listed a w:=
 wpAny_ready hr (by simp) (AllReady.cons ho h AllReady.nil)
theorem z38 {ops:Array Oper} {Q:Exit->Act->World->Prop} {md:Region.Mode} {fuel:Nat} {listed:Array Bool} {a a':Act} {w:World} (fuel':Nat) (listed':Array Bool) (hf:fuel=fuel') (hl:listed=listed') (ha:a=a') (h:wpAny Tryz.prog md ops Q fuel' listed' a' w):wpAny Tryz.prog md ops Q fuel listed a w:=by
 subst hf hl ha;exact h
theorem z5y (f:Nat->Nat):(Tryz.prog.info? 25).map (·.size)=some (z05 .u8 32 f).length:=by rw [z0a];exact z0M
theorem z7t (f:Nat->Nat):(Tryz.prog.info? 148).map (·.size)=some (z05 .u8 64 f).length:=by rw [z0a];exact z3R
set_option maxHeartbeats 400000 in
theorem z8Y (d:Int) (B:Nat) (v:Value) (m:Nat) (L:List Nat) (w:World) (hA:w.ownsRow B 148 64 v m (BY L)) (hL:L.length=64*m) (hsm:Small8 L) (hm:m<2 ^ 30):Calls Tryz.prog 83 #[.int .i64 d,v] w fun e w'=>
  ∃ v',e=.returned v'/\w'.ownsRow w.heap.size 25 32 v' (m+1) (STS d L m)/\Below w.heap.size w w':=by
 obtain ⟨a,c,rfl,hform⟩:=z3O hA;have cb:=za1 d;have H:Aside (w.ownsRow B 148 64 (.slice a m c) m (BY L)/\L.length=64*m/\Small8 L/\m<2 ^ 30/\(0<m->∃ g,a=some ⟨g,0,none⟩)):=⟨hA,hL,hsm,hm,hform⟩
 clear hA hL hsm hm hform;go_enter Tryz.func83,Tryz.ntmps83;go_wp2_with (first | (go_at_call 101;refine (cb _).mono ?_;rintro e w1 ⟨rfl,hb1⟩) | (refine z0S _ rfl 22 25 (.tmp 8) rfl (UARR .u8 32 (z1A d)) rfl 32 _ _ Tryz.underlying22 z3t (z03 _ _ _) (by simp [Value.cells,z03]) (by decide) (by decide) ?_))
 have S:Aside ((w1.alloc (.cells (UARR .u8 32 (z1A d)) 25)).ownsRow w.heap.size 25 32 (.slice (some ⟨w1.heap.size,0,none⟩) 1 1) 1 (STS d L 0)/\Below w.heap.size w (w1.alloc (.cells (UARR .u8 32 (z1A d)) 25))):=⟨zax w1 _ hb1.size _,hb1.alloc hb1.size _⟩
 clear hb1 cb;generalize w1.alloc (.cells (UARR .u8 32 (z1A d)) 25)=w2 at *
 generalize w1.heap.size=gb at *
 go_loopg [5,6] m (fun q s5 s6 wx=>∃ t:Nat,s6=.int .i64 (t:Int)/\Aside (t+q=m/\wx.ownsRow w.heap.size 25 32 s5 (t+1) (STS d L t)/\Below w.heap.size w wx))
 case atStart=>exact ⟨0,rfl,by omega,S.out⟩
 case round=>
  obtain ⟨t,rfl,A⟩:=hrel;clear S;cases gk with
  | zero=>
    obtain rfl:t=m:=by have:=A.out.1;omega
    have hlt:¬ (t:Int)<(t:Int):=by omega
    go_wp2;go_ret;exact ⟨_,rfl,A.out.2⟩
  | succ q=>
    have htm:t<m:=by have:=A.out.1;omega
    have hlt:(t:Int)<(m:Int):=by omega
    obtain ⟨gl,cap,hv, -,hgl⟩:=A.out.2.1.form (by omega);subst hv;obtain ⟨gb,hgb⟩:=H.out.2.2.2.2 (by omega);subst hgb;have et:wrap64 ((t:Int)+1)=((t+1:Nat):Int):=by have:=H.out.2.2.2.1;unfold wrap64;omega
    have ht0:¬ (t:Int)<0:=by omega
    have ht1:(t:Int)<((t+1:Nat):Int):=by omega
    have hr1:wr.drew.rangeAt gl (t*32) (z05 .u8 32 (z0n d L t)):=(World.rangeAt_drew _ _ _ _).2 (z5l A.out.2.1 t (Nat.le_refl t));have hr2:wr.drew.rangeAt gb (t*64) (z05 .u8 64 (BLK L t)):=(World.rangeAt_drew _ _ _ _).2 (za2 (z8T H.out.1 A.out.2.2) H.out.2.1 t htm);have cc:=fun W=>z6N d (z0n d L t) (BLK L t) (z32 d L t) (zdd H.out.2.2.1 t) W;obtain ⟨T,hT⟩:∃ T,t+1=T:=⟨_,rfl⟩
    rw [hT] at ht1 et
    have R:Aside (t+1=T/\T+q=m/\wr.ownsRow w.heap.size 25 32 (.slice (some ⟨gl,0,none⟩) T cap) T (STS d L t)/\Below w.heap.size w wr/\t<m/\m<2 ^ 30):=by
     rw [<-hT];exact ⟨rfl,by have:=A.out.1;omega,A.out.2.1,A.out.2.2,htm,H.out.2.2.2.1⟩
    rw [hT];clear A hT htm;go_wp2;refine wp_region_any (by kernel_rfl) ?_;change wpAny _ _ _ _ _ _ _ (World.drew _);refine wpAny_take (i:=0) (v:=.slice (some ⟨gl,0,none⟩) T cap) rfl (by kernel_rfl) (by kernel_rfl) (by kernel_rfl) (fun _ _ _ h=>h) (Or.inl ⟨by rfl,fun W=>by go_simp⟩) ?_;refine wpAny_take (i:=1) (v:=.int .i64 d) rfl (by kernel_rfl) (by kernel_rfl) (by kernel_rfl) (fun _ _ _ h=>h) (Or.inl ⟨by rfl,fun W=>by go_simp⟩) ?_;refine wpAny_take (i:=2) (v:=.slice (some ⟨gl,0,none⟩) T cap) rfl (by kernel_rfl) (by kernel_rfl) (by kernel_rfl) (fun _ _ _ h=>h) (Or.inl ⟨by rfl,fun W=>by go_simp⟩) ?_;refine wpAny_take (i:=3) (v:=.int .i64 (t:Int)) rfl (by kernel_rfl) (by kernel_rfl) (by kernel_rfl) (fun _ _ _ h=>h) (Or.inl ⟨by rfl,fun W=>by go_simp⟩) ?_;refine wpAny_take (i:=4) (v:=.pointer (some ⟨gl,t*32,none⟩)) rfl (by kernel_rfl) (by kernel_rfl) (by kernel_rfl) (fun _ _ _ h=>h) (Or.inl ⟨by rfl,fun W=>by go_simp⟩) ?_;refine wpAny_take (i:=6) (v:=.slice (some ⟨gb,0,none⟩) m c) rfl (by kernel_rfl) (by kernel_rfl) (by kernel_rfl) (fun _ _ _ h=>h) (Or.inl ⟨by rfl,fun W=>by go_simp⟩) ?_;refine wpAny_take (i:=7) (v:=.int .i64 (t:Int)) rfl (by kernel_rfl) (by kernel_rfl) (by kernel_rfl) (fun _ _ _ h=>h) (Or.inl ⟨by rfl,fun W=>by go_simp⟩) ?_;refine wpAny_take (i:=8) (v:=.pointer (some ⟨gb,t*64,none⟩)) rfl (by kernel_rfl) (by kernel_rfl) (by kernel_rfl) (fun _ _ _ h=>h) (Or.inl ⟨by rfl,fun W=>by go_simp⟩) ?_
    refine z38 (a':=?A2) 6 #[tt,tt,tt,tt,tt,ff,tt,tt,tt,ff,ff,ff,ff,ff] (by kernel_rfl) (by kernel_rfl) ?HA ?HW
    case HA=>
     go_simp;exact rfl
    refine wpAny_ready (rs:=[5,9]) (by kernel_rfl) (by simp) ?_;refine AllReady.cons (o:=⟨some 21,.load 25 (.tmp 20),25,"ref.go:159",#[⟨4,.data⟩],none⟩) rfl (fun K hK=>?_) (AllReady.cons (o:=⟨some 25,.load 148 (.tmp 24),148,"ref.go:159",#[⟨8,.data⟩],none⟩) rfl (fun K hK=>?_) AllReady.nil)
    focus
     refine z2d (by rfl) 25 (.tmp 20) (by rfl) gl (t*32) (by rfl) (z05 .u8 32 (z0n d L t)) (UARR .u8 32 (z0n d L t)) (z0N _ _ _).symm (.array 32 5) hr1 Tryz.underlying25 (by rfl) (z5y _) ?_;refine hK _ _ ?_;clear hK K;refine z38 (a':=?A11) 5 #[tt,tt,tt,tt,tt,tt,tt,tt,tt,ff,ff,ff,ff,ff] (by kernel_rfl) (by kernel_rfl) ?HA11 ?HW11
     case HA11=>
      go_simp;exact rfl
     refine z3A (o:=⟨some 25,.load 148 (.tmp 24),148,"ref.go:159",#[⟨8,.data⟩],none⟩) 9 (by kernel_rfl) rfl (fun K hK=>?_);refine z2d (by rfl) 148 (.tmp 24) (by rfl) gb (t*64) (by rfl) (z05 .u8 64 (BLK L t)) (UARR .u8 64 (BLK L t)) (z0N _ _ _).symm (.array 64 5) hr2 Tryz.underlying148 (by rfl) (z7t _) ?_;refine hK _ _ ?_;clear hK K;refine z38 (a':=?A12) 4 #[tt,tt,tt,tt,tt,tt,tt,tt,tt,tt,ff,ff,ff,ff] (by kernel_rfl) (by kernel_rfl) ?HA12 ?HW12
     case HA12=>
      go_simp;exact rfl
    rotate_left
    focus
     refine z2d (by rfl) 148 (.tmp 24) (by rfl) gb (t*64) (by rfl) (z05 .u8 64 (BLK L t)) (UARR .u8 64 (BLK L t)) (z0N _ _ _).symm (.array 64 5) hr2 Tryz.underlying148 (by rfl) (z7t _) ?_;refine hK _ _ ?_;clear hK K;refine z38 (a':=?A13) 5 #[tt,tt,tt,tt,tt,ff,tt,tt,tt,tt,ff,ff,ff,ff] (by kernel_rfl) (by kernel_rfl) ?HA13 ?HW13
     case HA13=>
      go_simp;exact rfl
     refine z3A (o:=⟨some 21,.load 25 (.tmp 20),25,"ref.go:159",#[⟨4,.data⟩],none⟩) 5 (by kernel_rfl) rfl (fun K hK=>?_);refine z2d (by rfl) 25 (.tmp 20) (by rfl) gl (t*32) (by rfl) (z05 .u8 32 (z0n d L t)) (UARR .u8 32 (z0n d L t)) (z0N _ _ _).symm (.array 32 5) hr1 Tryz.underlying25 (by rfl) (z5y _) ?_;refine hK _ _ ?_;clear hK K;refine z38 (a':=?A14) 4 #[tt,tt,tt,tt,tt,tt,tt,tt,tt,tt,ff,ff,ff,ff] (by kernel_rfl) (by kernel_rfl) ?HA14 ?HW14
     case HA14=>
      go_simp;exact rfl
    all_goals
     refine z3A (o:=⟨some 26,.call {callee:=.value (.func 102),args:=#[.tmp 17,.tmp 21,.tmp 25],argTypes:=#[3,25,148]},25,"ref.go:159",#[⟨1,.data⟩,⟨5,.data⟩,⟨9,.data⟩],none⟩) 10 (by kernel_rfl) rfl (fun K hK=>?_);rw [if_pos (by rfl)];go_simp;refine (cc _).mono ?_;rintro e w3 ⟨rfl,hb3⟩;refine hK _ _ ?_;clear hK K;have R3:Aside (w3.ownsRow w.heap.size 25 32 (.slice (some ⟨gl,0,none⟩) T cap) T (STS d L t)/\Below w.heap.size w w3/\T<=2 ^ 30):=⟨z8T (w:=wr.drew) R.out.2.2.1 hb3,R.out.2.2.2.1.drew.trans (hb3.mono R.out.2.2.2.1.size),by have:=R.out.1;have:=R.out.2.2.2.2;omega⟩
     clear hb3;refine z3A (o:=⟨some 27,.buildSlice 22 1 #[(0,.tmp 26)],22,"ref.go:159",#[⟨10,.data⟩],none⟩) 11 (by kernel_rfl) rfl (fun K hK=>?_);refine zfy w3 (by rfl) 22 25 (.tmp 26) (by rfl) (UARR .u8 32 (COMP d (z0n d L t) (BLK L t))) (by rfl) 32 _ _ Tryz.underlying22 z3t (z03 _ _ _) (by simp [Value.cells,z03]) (by decide) (by decide) ?_;refine hK _ _ ?_;clear hK K;apply z38 2 #[tt,tt,tt,tt,tt,tt,tt,tt,tt,tt,tt,tt,ff,ff] (by kernel_rfl) (by kernel_rfl)
     ·go_simp
      exact rfl
     refine z3A (o:=⟨some 28,.call {callee:=.builtin .append,args:=#[.tmp 16,.tmp 27],argTypes:=#[22,22]},22,"ref.go:159",#[⟨0,.data⟩,⟨11,.data⟩,⟨10,.chain⟩],none⟩) 12 (by kernel_rfl) rfl (fun K hK=>?_);refine zdI w3 (COMP d (z0n d L t) (BLK L t)) (by rfl) (.tmp 16) (.tmp 27) (by rfl) w.heap.size (.slice (some ⟨gl,0,none⟩) T cap) T (STS d L t) (by rfl) R3.out.1 (by rfl) R3.out.2.2 R3.out.2.1.size ?_;intro g9 cap9 w9 hown9 hgrow9;refine hK _ _ ?_;clear hK K;apply z38 1 #[tt,tt,tt,tt,tt,tt,tt,tt,tt,tt,tt,tt,tt,ff] (by kernel_rfl) (by kernel_rfl)
     ·go_simp
      exact rfl
     refine wpAny_take (i:=13) (v:=.slice (some ⟨g9,0,none⟩) (T+1) cap9) rfl (by kernel_rfl) (by kernel_rfl) (by kernel_rfl) (fun _ _ _ h=>h) (Or.inl ⟨by rfl,fun W=>by go_simp⟩) ?_;refine wpAny_done (by kernel_rfl) ?_ _
     have T2:Aside (w9.ownsRow w.heap.size 25 32 (.slice (some ⟨g9,0,none⟩) (T+1) cap9) (T+1) (STS d L T)/\Below w.heap.size w w9):=by
      obtain ⟨r1,r2,r3,r4,r5⟩:=R.out;refine ⟨?_,(R3.out.2.1.alloc R3.out.2.1.size _).grown hgrow9 (by have:=R3.out.2.1.size;simp;omega) (fun k e=>(R3.out.1.lt k e).1)⟩;have e:STS d L T=STS d L t ++ z05 .u8 32 (COMP d (z0n d L t) (BLK L t)):=by rw [<-r1];rfl
      rw [e];exact hown9
     clear hown9 hgrow9 R3;go_wp2;go_roundg q
     case measure=>exact Nat.lt_succ_self _
     case rel=>exact ⟨T,by first | rfl | (rw [et]),R.out.2.1,T2.out⟩
theorem zfz {w:World} {base n c:Nat} {a:Option Addr} {l:List Nat} (h:w.ownsRow base 5 1 (.slice a n c) n (BY l)) (hl:Small8 l):Text w a n l:=Text.of_bytes (z1w h (z1T hl)).1
theorem zgN {w:World} {base n c s:Nat} {a:Option Addr} {t:TypeId} {xs:List Value} (h:w.ownsRow base t s (.slice a n c) n xs):a=none->c=0:=fun ha=>by
 rcases h.2 with ⟨hv,_⟩ | ⟨g,cap,cur,hv,_⟩
 ·simp at hv
  exact hv.2.2
 ·subst ha
  simp at hv
theorem za3 (l:List Nat):(HFUL l).length=64*((HFUL l).length / 64):=by rw [z3s];omega
theorem zc5 {l:List Nat} (h:Small8 l):Small8 (HFUL l):=fun x hx=>by
 rcases List.mem_append.1 hx with h1 | h1
 ·exact h x h1
 ·exact z4H _ x h1
theorem zaX {l:List Nat} (h:l.length<2 ^ 30):(HFUL l).length / 64<2 ^ 30:=by
 rw [z3s];unfold z0i;omega
def Parts0 (w:World) (a:Option Addr) (k:Nat) (ps:List PART):Prop:=
 ps.length=k/\(0<k->∃ b off,a=some ⟨b,off,none⟩/\b<w.heap.size/\∀ i p,ps[i]?=some p->w.cell? ⟨b,off+i,none⟩=some (.slice p.a p.n p.c))/\∀ p∈ps,Text w p.a p.n p.l
theorem Parts.zero {w:World} {a:Option Addr} {k:Nat} {ps:List PART} (h:Parts w a k ps):Parts0 w a k ps:=⟨h.1,h.2.1,fun p hp=>(h.2.2 p hp).1⟩
theorem Parts0.below {w w':World} {a:Option Addr} {k:Nat} {ps:List PART} (h:Parts0 w a k ps) (hb:Below w.heap.size w w'):Parts0 w' a k ps:=
 ⟨h.1,fun hk=>by
  obtain ⟨b,off,e,hl,hc⟩:=h.2.1 hk;exact ⟨b,off,e,Nat.lt_of_lt_of_le hl hb.size,fun i p hp=>(hb.cell (by exact hl)).trans (hc i p hp)⟩,fun p hp=>(h.2.2 p hp).below hb⟩
theorem za4 {w:World} {a:Option Addr} {k:Nat} {ps:List PART} (h:Parts0 w a k ps):Small8 (JOIN ps):=fun x hx=>by
 obtain ⟨y,hy,hx⟩:=List.mem_flatten.1 hx;obtain ⟨p,hp,rfl⟩:=List.mem_map.1 hy;exact (h.2.2 p hp).2.2 x hx
theorem zdJ (d:Int) (a:Option Addr) (k c:Nat) (ps:List PART) (w:World) (hP:Parts0 w a k ps) (hnil:∀ p∈ps,p.a=none->p.c=0) (hlen:(JOIN ps).length<2 ^ 30) (hkk:k<2 ^ 60):Calls Tryz.prog 62 #[.int .i64 d,.slice a k c] w fun e w'=>e=.returned (.agg (UARR .u8 32 (z0F d (JOIN ps))))/\Below w.heap.size w w':=by
 have hz:=z1o;have H:Aside (Parts0 w a k ps/\(∀ p∈ps,p.a=none->p.c=0)/\(JOIN ps).length<2 ^ 30):=⟨hP,hnil,hlen⟩
 have HK:Aside (k<2 ^ 60):=hkk;clear hP hnil hlen hkk;go_enter Tryz.func62,Tryz.ntmps62;go_wp2_with fail
 have R:Aside (Has (w.alloc (.cells (UARR .u8 32 fun _=>0) 25)) w.heap.size (UARR .u8 32 fun _=>0) 25/\Below w.heap.size w (w.alloc (.cells (UARR .u8 32 fun _=>0) 25))/\w.heap.size<(w.alloc (.cells (UARR .u8 32 fun _=>0) 25)).heap.size):=⟨Has.new _ _ _,(Below.refl _ _).alloc (Nat.le_refl _) _,by simp⟩
 generalize w.alloc (.cells (UARR .u8 32 fun _=>0) 25)=w1 at *
 clear hz;go_loopg [5,6] k (fun r s5 s6 wx=>∃ i N:Nat,i+r=k/\s6=.int .i64 i/\Aside (wx.ownsRow w1.heap.size 5 1 s5 N (BY (JOIN (ps.take i)))/\Below w1.heap.size w1 wx/\N=(JOIN (ps.take i)).length))
 case atStart=>exact ⟨0,0,by omega,rfl,⟨rfl,.inl ⟨rfl,rfl⟩⟩,Below.refl _ _,rfl⟩
 case round=>
  obtain ⟨i,N,hir,rfl,A⟩:=hrel;have hk:ps.length=k:=H.out.1.1;obtain ⟨a5,c5,hv, -⟩:=z3O A.out.1;subst hv;cases gk with
  | zero=>
    obtain rfl:i=k:=by omega
    have hlt:¬ (i:Int)<(i:Int):=by omega
    obtain ⟨hown,hbel,hN⟩:=A.out;rw [List.take_of_length_le (by omega)] at hown hN;have hsm:Small8 (JOIN ps):=za4 H.out.1;have cB:=z8U a5 N c5 (JOIN ps) wr (zfz hown hsm) (zgN hown) (by have:=H.out.2.2;omega);have cS:=fun (v:Value) (W:World) (h:W.ownsRow wr.heap.size 148 64 v ((HFUL (JOIN ps)).length / 64) (BY (HFUL (JOIN ps))))=>z8Y d wr.heap.size v ((HFUL (JOIN ps)).length / 64) (HFUL (JOIN ps)) W h (za3 _) (zc5 hsm) (zaX H.out.2.2);have hM:=zaX H.out.2.2;have HO:Aside (z0F d (JOIN ps)=z0n d (HFUL (JOIN ps)) ((HFUL (JOIN ps)).length / 64)):=rfl;generalize (HFUL (JOIN ps)).length / 64=M at *
    have S:Aside (Has wr w.heap.size (UARR .u8 32 fun _=>0) 25/\Below w.heap.size w wr/\w.heap.size<wr.heap.size):=⟨R.out.1.keep hbel,R.out.2.1.trans (hbel.mono R.out.2.1.size),Nat.lt_of_lt_of_le R.out.2.2 hbel.size⟩
    clear A hown hbel hN hsm hk hir R;go_wp2_with fail
    refine cB.mono ?_;rintro e w4 ⟨v4,rfl,hown4,hb4⟩;go_wp2_with fail
    refine (cS v4 w4 hown4).mono ?_;rintro e w5 ⟨v5,rfl,hown5,hb5⟩;clear cB cS hown4;obtain ⟨g,cap,hv, -,hg⟩:=hown5.form (by omega);subst hv;have hr:=z5l hown5 M (Nat.le_refl M);have S2:Aside (Has w5 w.heap.size (UARR .u8 32 fun _=>0) 25/\Below w.heap.size w w5):=⟨(S.out.1.keep hb4).keep hb5,(S.out.2.1.trans (hb4.mono S.out.2.1.size)).trans (hb5.mono (Nat.le_trans S.out.2.1.size hb4.size))⟩
    obtain ⟨M1,hM1⟩:∃ M1,M+1=M1:=⟨_,rfl⟩
    rw [hM1];have eM:wrap64 ((M1:Int) - 1)=(M:Int):=by unfold wrap64;omega
    have hM0:¬ (M:Int)<0:=by omega
    have hMl:(M:Int)<(M1:Int):=by omega
    clear hown5 hb4 hb5 S hg hM hM1
    go_wp2_with (first
     | (refine wpList_load_mid rfl 25 (.tmp 28) rfl g (M*32) rfl (z05 .u8 32 (z0n d (HFUL (JOIN ps)) M)) (.array 32 5) hr Tryz.underlying25 rfl (z5y _) ?_;rw [<-z0N])
     | (refine wpList_store_row rfl 25 _ _ rfl _ _ rfl rfl _ _ S2.out.1 (z04 _) (by rw [z03,z03]) (z0j _ _ _) ?_))
    refine bodyPost_ret (v:=.agg (UARR .u8 32 (z0n d (HFUL (JOIN ps)) M))) ?_ rfl ⟨by rw [HO.out],z0d S2.out.2 (Nat.le_refl _) _⟩;exact results_cell_row rfl _ _ w.heap.size 25 _ (0,0) _ rfl (S2.out.1.row _) Tryz.underlying25 rfl (z04 _)
  | succ r=>
    have hlt:(i:Int)<(k:Int):=by omega
    have hi0:¬ (i:Int)<0:=by omega
    obtain ⟨hown,hbel,hN⟩:=A.out;have hbw:Below w.heap.size w wr:=R.out.2.1.trans (hbel.mono R.out.2.1.size);obtain ⟨pb,po,rfl,hpb,hcell⟩:=H.out.1.2.1 (by omega);obtain ⟨p,hp⟩:∃ p,ps[i]?=some p:=⟨_,List.getElem?_eq_getElem (by omega)⟩
    have hc:=(hbw.cell (p:=⟨pb,po+i,none⟩) (by exact hpb)).trans (hcell i p hp);have hmem:p∈ps:=List.mem_of_getElem? hp;have ht:=H.out.1.2.2 p hmem;have hz0:=H.out.2.1 p hmem;have hj:JOIN (ps.take (i+1))=JOIN (ps.take i) ++ p.l:=by rw [List.take_add_one,hp,Option.toList_some,z1s]
    have hl2:N+p.n<2 ^ 30:=by
     have h1:=z1v ps (i+1);rw [hj,List.length_append,ht.1] at h1;have:=H.out.2.2;omega
    have T:Aside (wr.ownsRow w1.heap.size 5 1 (.slice a5 N c5) N (BY (JOIN (ps.take i)))/\Below w1.heap.size w1 wr/\N=(JOIN (ps.take i)).length/\Bytes wr p.a p.n (INTS p.l)/\(p.a=none->p.c=0)/\N+p.n<2 ^ 30/\JOIN (ps.take (i+1))=JOIN (ps.take i) ++ p.l/\i+(r+1)=k/\p.l.length=p.n):=⟨hown,hbel,hN,(ht.below hbw).bytes,hz0,hl2,hj,hir,ht.1⟩
    clear ht hp hcell hpb hl2 hk hir hown hbel hN hbw hmem hz0 hj A;obtain ⟨pa,pn,pc,pl⟩:=p;dsimp only at T hc;go_wp2_with (at_builtin;refine z4P _ rfl (.tmp 14) (.tmp 18) rfl w1.heap.size (.slice a5 N c5) N (INTS (JOIN (ps.take i))) rfl T.out.1 pa pn pc (INTS pl) rfl T.out.2.2.2.1 T.out.2.2.2.2.1 (N+pn) _ rfl rfl (by have:=T.out.2.2.2.2.2.1;omega) T.out.2.1.size ?_;intro a6 c6 w6 hown6 hgrow6)
    go_roundg r
    case measure=>omega
    case rel=>
     obtain ⟨t1,t2,t3,t4,t5,t6,t7,t8,t9⟩:=T.out;refine ⟨i+1,N+pn,by omega,by have h1:=HK.out;have h2:wrap64 ((i:Int)+1)=((i+1:Nat):Int):=(by unfold wrap64;omega);rw [h2],?_,t2.grown hgrow6 t2.size (fun k e=>(t1.lt k e).1),?_⟩
     ·rw [t7,z2A]
      rw [z0v] at hown6;exact hown6
     ·rw [t7,List.length_append,<-t3,t9]
theorem zfA (w:World) (x:Nat) (base:Nat) (hb:base<=w.heap.size):(w.alloc (.cells #[.int .u8 (x:Int)] 5)).ownsRow base 5 1 (.slice (some ⟨w.heap.size,0,none⟩) 1 1) 1 (z00 (INTS [x])):=
 ⟨rfl,.inr ⟨w.heap.size,1,#[.int .u8 (x:Int)],rfl,hb,by first | exact (Has.new w _ _) | exact (Has.new w _ _).1 | simp,by decide,by decide,rfl,rfl⟩⟩
theorem zfB {w w1:World} {x:Nat} {ba bb m1 m2:Nat} {l1 l2:List Nat} (hb:Below w.heap.size w w1) (h1:Text w1 (some ⟨ba,0,none⟩) m1 l1) (h2:Text w1 (some ⟨bb,0,none⟩) m2 l2):
  Aside (Bytes (w1.alloc (.cells #[.int .u8 (x:Int)] 5)) (some ⟨ba,0,none⟩) m1 (INTS l1)/\(w1.alloc (.cells #[.int .u8 (x:Int)] 5)).ownsRow w.heap.size 5 1 (.slice (some ⟨w1.heap.size,0,none⟩) 1 1) 1 (z00 (INTS [x]))/\w.heap.size<=w1.heap.size/\
   (∀ w',(w1.alloc (.cells #[.int .u8 (x:Int)] 5)).grownBy w' (some w1.heap.size)->Bytes w' (some ⟨bb,0,none⟩) m2 (INTS l2)/\w.heap.size<=w'.heap.size/\Below w.heap.size w w'/\w1.heap.size<w'.heap.size)):=by
 refine ⟨(h1.below ((Below.refl _ _).alloc (Nat.le_refl _) _)).bytes,zfA w1 x _ hb.size,hb.size,fun w' hg=>?_⟩;have hb':Below w1.heap.size w1 w':=((Below.refl _ _).alloc (Nat.le_refl _) _).grown hg (by simp) (fun k e=>by cases e;exact Nat.le_refl _);have hs:=hg.size;simp at hs;exact ⟨(h2.below hb').bytes,Nat.le_trans hb.size hb'.size,hb.trans (hb'.mono hb.size),by omega⟩
theorem z6O (l r:Nat->Nat) (hl:∀ i,l i<256) (hr:∀ i,r i<256) (w:World):Calls Tryz.prog 63 #[.agg (UARR .u8 32 l),.agg (UARR .u8 32 r)] w fun e w'=>
  ∃ a' c',e=.returned (.slice a' 65 c')/\w'.ownsRow w.heap.size 5 1 (.slice a' 65 c') 65 (z00 (INTS (1 :: ((List.range 32).map l ++ (List.range 32).map r))))/\Below w.heap.size w w':=by
 have hs32:=z5f;obtain ⟨w1,hw1⟩:∃ w1,w1=(w.alloc (.cells (UARR .u8 32 l) 25)).alloc (.cells (UARR .u8 32 r) 25):=⟨_,rfl⟩
 have U:Below w.heap.size w w1/\Has w1 w.heap.size (UARR .u8 32 l) 25/\Has w1 (w.heap.size+1) (UARR .u8 32 r) 25:=by
  rw [hw1];exact ⟨((Below.refl _ _).alloc (Nat.le_refl _) _).alloc (by simp) _,(Has.new w _ _).alloc _,Has.at _ _ _ (by simp)⟩
 have T1:=zfB (x:=1) U.1.drew (Has.text (w:=w1.drew) U.2.1 hl) (Has.text (w:=w1.drew) U.2.2 hr);clear U hl hr;go_enter Tryz.func63,Tryz.ntmps63;go_wp2_with fail
 rw [<-hw1];clear hw1;generalize hh:w.heap.size+1=h at *
 clear hh
 go_region_held_law (fun _=>True) (trivial) (first
  | (refine zaQ _ (by rfl) (.tmp 5) (.tmp 6) (by rfl) w.heap.size _ 1 (INTS [1]) (by rfl) T1.out.2.1 w.heap.size 0 32 32 (INTS ((List.range 32).map l)) (by rfl) T1.out.1 (by decide) (by decide) (by have:=T1.out.2.2.1;simp at this ⊢;omega) 33 rfl ?_;intro g5 c5 w5 hown5 hgrow5 hat5 hlt5)
  | (refine zaQ _ (by rfl) (.tmp 7) (.tmp 8) (by rfl) w.heap.size _ 33 _ (by rfl) hown5 h 0 32 32 (INTS ((List.range 32).map r)) (by rfl) (T1.out.2.2.2 _ hgrow5).1 (by decide) (by decide) (T1.out.2.2.2 _ hgrow5).2.1 65 rfl ?_;intro g6 c6 w6 hown6 hgrow6 hat6 hlt6))
 have S:Aside (w6.ownsRow w.heap.size 5 1 (.slice (some ⟨g6,0,none⟩) 65 c6) 65 (z00 (INTS (1 :: ((List.range 32).map l ++ (List.range 32).map r))))/\Below w.heap.size w w6):=by
  have hb5:=(T1.out.2.2.2 _ hgrow5).2.2.1;refine ⟨?_,hb5.grown hgrow6 hb5.size (fun k e=>(hown5.lt k e).1)⟩;have e:INTS [1] ++ INTS ((List.range 32).map l) ++ INTS ((List.range 32).map r)=INTS (1 :: ((List.range 32).map l ++ (List.range 32).map r)):=by simp [INTS]
  rw [e] at hown6;exact hown6
 clear hown5 hgrow5 hat5 hlt5 hown6 hgrow6 hat6 hlt6 T1;go_simp;go_wp2;go_ret;exact ⟨_,_,rfl,S.out.1,S.out.2⟩
theorem za5 {w:World} (d:Int) {B n c:Nat} {a:Option Addr} {l:List Nat} (h:w.ownsRow B 5 1 (.slice a n c) n (z00 (INTS l))) (hs:Small8 l) (hl:l.length<5000):
  Calls Tryz.prog 62 #[.int .i64 d,.slice (some ⟨w.heap.size,0,none⟩) 1 1] (w.alloc (.cells #[.slice a n c] 108)) fun e w'=>e=.returned (.agg (UARR .u8 32 (z0F d l)))/\Below (w.alloc (.cells #[.slice a n c] 108)).heap.size (w.alloc (.cells #[.slice a n c] 108)) w':=by
 have:=zdJ d _ 1 1 _ _ (z4I h hs).1.zero (fun p hp=>by simp only [List.mem_singleton] at hp;subst hp;exact (z4I h hs).2) (by rw [z43];omega) (by decide);rw [z43] at this;exact this
theorem zc6 (d:Int) (l r:Nat->Nat) (hl:∀ i,l i<256) (hr:∀ i,r i<256) (w:World):Calls Tryz.prog 44 #[.int .i64 d,.agg (UARR .u8 32 l),.agg (UARR .u8 32 r)] w fun e w'=>e=.returned (.agg (UARR .u8 32 (z0F d (1 :: ((List.range 32).map l ++ (List.range 32).map r)))))/\Below w.heap.size w w':=by
 have hz:=z1o;have ct:=fun W=>z6O l r hl hr W;have H:Aside ((∀ i,l i<256)/\(∀ i,r i<256)):=⟨hl,hr⟩
 obtain ⟨W,zb,lb,rb,hW,hzb,hlb,hrb,R,h4,h5⟩:∃ W zb lb rb,W=((w.alloc (.cells (UARR .u8 32 l) 25)).alloc (.cells (UARR .u8 32 r) 25)).alloc (.cells (UARR .u8 32 fun _=>0) 25)/\zb=w.heap.size+1+1/\lb=w.heap.size/\rb=w.heap.size+1/\Aside (Has W zb (UARR .u8 32 fun _=>0) 25/\Below w.heap.size w W/\w.heap.size<=zb)/\W.rangeAt lb 0 (z05 .u8 32 l)/\W.rangeAt rb 0 (z05 .u8 32 r):=by
  refine ⟨_,_,_,_,rfl,rfl,rfl,rfl,⟨Has.at _ _ _ (by simp),(((Below.refl _ _).alloc (Nat.le_refl _) _).alloc (by simp) _).alloc (by simp;omega) _,by omega⟩,(((Has.new w _ _).alloc _).alloc _).whole,((Has.at _ _ _ (by simp)).alloc _).whole⟩
 clear hl hr;go_enter Tryz.func44,Tryz.ntmps44
 go_wp2_with (first
  | (rw [<-hW];refine wpList_load_mid rfl 25 (.tmp 4) rfl w.heap.size 0 rfl (z05 .u8 32 l) (.array 32 5) (by rw [<-hlb];exact h4) Tryz.underlying25 rfl (by rw [z0a];exact z0M) ?_;rw [<-z0N])
  | (refine wpList_load_mid rfl 25 (.tmp 5) rfl (w.heap.size+1) 0 rfl (z05 .u8 32 r) (.array 32 5) (by rw [<-hrb];exact h5) Tryz.underlying25 rfl (by rw [z0a];exact z0M) ?_;rw [<-z0N]))
 rw [<-hzb];refine (ct _).mono ?_;rintro e w2 ⟨a',c',rfl,hown,hb⟩;rw [<-hW] at hown hb;clear ct h4 h5 hW hzb hlb hrb;have S:Aside (Has w2 zb (UARR .u8 32 fun _=>0) 25/\Below w.heap.size w w2):=⟨R.out.1.keep hb,R.out.2.1.trans (hb.mono R.out.2.1.size)⟩
 have cs:=za5 d hown (z5h (by decide) (z6e (z2J H.out.1) (z2J H.out.2))) (by simp);have Z:Aside (w.heap.size<=zb):=R.out.2.2;clear hown hb R;go_wp2_with fail
 refine cs.mono ?_;rintro e w3 ⟨rfl,hb3⟩;have hb4:Below w2.heap.size w2 w3:=((Below.refl _ _).alloc (Nat.le_refl _) _).trans (hb3.mono (by simp));have S2:Aside (Has w3 zb (UARR .u8 32 fun _=>0) 25/\Below w.heap.size w w3):=⟨S.out.1.keep hb4,S.out.2.trans (hb4.mono S.out.2.size)⟩
 clear cs hb3 hb4 S
 go_wp2_with (first
  | (refine wpList_store_row rfl 25 _ _ rfl _ _ rfl rfl _ _ S2.out.1 (z04 _) (by rw [z03,z03]) (z0j _ _ _) ?_))
 refine bodyPost_ret (v:=.agg (UARR .u8 32 (z0F d (1 :: ((List.range 32).map l ++ (List.range 32).map r))))) ?_ rfl ⟨rfl,z0d S2.out.2 Z.out _⟩;exact results_cell_row rfl _ _ zb 25 _ (0,0) _ rfl (S2.out.1.row _) Tryz.underlying25 rfl (z04 _)
end Go.Proofs.YtlbcnaenhghieaaGreatDoor.HX
namespace Go.Proofs.YtlbcnaenhghieaaGreatDoor
open Go.RowKit
def LG (l:List Int) (n:Nat):Nat->Nat->Int->Int × Int × Int
 | 0,_,_=>(0,0,10)
 | f+1,k,x=>if k=n then (0,0,11) else if 128<=l.getD k 0 then LG l n f (k+1) (x+l.getD k 0 % 128*128 ^ k)
   else if k=9/\1<l.getD k 0 then (0,0,10) else if l.getD k 0=0/\0<k then (0,0,12) else (x+l.getD k 0*128 ^ k,(k:Int)+1,0)
theorem zgO {l:List Int} {n f k:Nat} {x:Int} (h:k≠n) (hc:128<=l.getD k 0):LG l n (f+1) k x=LG l n f (k+1) (x+l.getD k 0 % 128*128 ^ k):=by
 show (if k=n then _ else _)=_;rw [if_neg h,if_pos hc]
theorem pow7 (k:Nat):(2:Nat) ^ (7*k)=128 ^ k:=by rw [Nat.pow_mul]
theorem z7u (L k:Nat):SHL L (7*(k:Int))=L*128 ^ k % 2 ^ 64:=by
 unfold SHL;rw [if_neg (by omega),show (7*(k:Int)).toNat=7*k by omega,pow7]
theorem za6 {L k:Nat} (hL:L<128) (hk:k<=8):L*128 ^ k % 2 ^ 64=L*128 ^ k:=by
 have h:=Nat.pow_le_pow_right (n:=128) (by decide) hk;have h2:L*128 ^ k<=127*128 ^ 8:=Nat.mul_le_mul (by omega) h;exact Nat.mod_eq_of_lt (Nat.lt_of_le_of_lt h2 (by decide))
theorem z8Z {x L k:Nat} (hx:x<128 ^ k) (hL:L<128) (hk:k<=8):bits .or .u64 (x:Int) ((L*128 ^ k % 2 ^ 64:Nat):Int)=((x+L*128 ^ k:Nat):Int):=by
 have h8:=Nat.pow_le_pow_right (n:=128) (by decide) hk;have hx2:x<2 ^ 64:=Nat.lt_of_lt_of_le hx (Nat.le_trans h8 (by decide));rw [z5F hx2 (Nat.mod_lt _ (by decide)),za6 hL hk,Nat.or_comm,nat_join (7*k) _ x (by rw [pow7];exact Nat.mul_mod_left _ _) (by rw [pow7];exact hx),Nat.add_comm]
theorem zdK {x L:Nat} (hx:x<128 ^ 9) (hL:L<2):bits .or .u64 (x:Int) ((L*128 ^ 9 % 2 ^ 64:Nat):Int)=((x+L*128 ^ 9:Nat):Int):=by
 have h1:L*128 ^ 9 % 2 ^ 64=L*128 ^ 9:=Nat.mod_eq_of_lt (by omega);rw [z5F (Nat.lt_of_lt_of_le hx (by decide)) (Nat.mod_lt _ (by decide)),h1,Nat.or_comm,nat_join (7*9) _ x (by omega) (by omega),Nat.add_comm]
def Gath (l:List Int) (n k:Nat) (y:Int) (R:Int × Int × Int):Prop:=∃ x:Nat,LG l n (10 - k) k (x:Int)=R/\(k<=9->y=(x:Int)/\x<128 ^ k)
theorem Gath.next {l:List Int} {n k:Nat} {y v p:Int} {R:Int × Int × Int} (A:Gath l n k y R) (hk:k<=9) (hkn:k≠n) (hv:l.getD k 0=v) (h0:128<=v)
  (hp:p=((SHL (v % 128).toNat (7*(k:Int)):Nat):Int)):Gath l n (k+1) (bits .or .u64 y p) R:=by
 obtain ⟨x,hx,hy⟩:=A;obtain ⟨rfl,hlt⟩:=hy hk;obtain ⟨L,hL⟩:∃ L:Nat,v % 128=(L:Int):=⟨(v % 128).toNat,by omega⟩
 rw [show 10 - k=10 - (k+1)+1 by omega,zgO hkn (by rw [hv];exact h0),hv,hL] at hx;have hL128:L<128:=by omega
 rw [hL,Int.toNat_natCast,z7u] at hp;refine ⟨x+L*128 ^ k,?_,fun h=>?_⟩
 ·rw [<-hx]
  congr 1
 ·rw [hp,z8Z hlt hL128 (by omega)]
  refine ⟨rfl,?_⟩;have:L*128 ^ k<=127*128 ^ k:=Nat.mul_le_mul_right _ (by omega);rw [Nat.pow_succ];omega
theorem Gath.val {l:List Int} {n k:Nat} {y v p:Int} {R:Int × Int × Int} (A:Gath l n k y R) (hk:k<=9) (h0:0<=v) (h1:¬ 128<=v) (h9:¬ (k=9/\1<v))
  (hp:p=((SHL (v % 128).toNat (7*(k:Int)):Nat):Int)):bits .or .u64 y p=y+v*128 ^ k:=by
 obtain ⟨x,_,hy⟩:=A;obtain ⟨rfl,hlt⟩:=hy hk;obtain ⟨L,rfl⟩:∃ L:Nat,v=(L:Int):=⟨v.toNat,by omega⟩
 rw [show (((L:Int) % 128).toNat)=L by omega,z7u] at hp;by_cases h:k=9
 ·subst h
  rw [hp,zdK hlt (by omega)];simp
 ·rw [hp,z8Z hlt (by omega) (by omega)]
  simp
def VAL (d:Nat->Nat):Nat->Nat
 | 0=>0
 | m+1=>VAL d m+d m*128 ^ m
theorem z4J {d:Nat->Nat} (hd:∀ i,d i<128):∀ m,VAL d m<128 ^ m
 | 0=>by simp [VAL]
 | m+1=>by
   have:=z4J hd m;have h2:d m*128 ^ m<=127*128 ^ m:=Nat.mul_le_mul_right _ (by have:=hd m;omega);simp only [VAL,Nat.pow_succ];omega
theorem z22 {d e:Nat->Nat}:∀ m,(∀ i,i<m->d i=e i)->VAL d m=VAL e m
 | 0,_=>rfl
 | m+1,h=>by rw [VAL,VAL,z22 m (fun i hi=>h i (by omega)),h m (by omega)]
end Go.Proofs.YtlbcnaenhghieaaGreatDoor
namespace Go.Proofs.YtlbcnaenhghieaaGreatDoor
open Go.RowKit
set_option maxRecDepth 100000
theorem Bytes.rest {w:World} {b off n:Nat} {l:List Int} (h:Bytes w (some ⟨b,off,none⟩) n l) (k:Nat) (hk:k<=n):Bytes w (some ⟨b,off+k,none⟩) (n - k) (l.drop k):=by
 refine ⟨by rw [List.length_drop,h.1],fun hn=>?_,fun x hx=>h.2.2 x (List.mem_of_mem_drop hx)⟩;obtain ⟨b',o',e,hl,hc⟩:=h.2.1 (by omega);simp only [Option.some.injEq,Addr.mk.injEq] at e;obtain ⟨rfl,rfl,_⟩:=e;refine ⟨b,off+k,rfl,hl,fun i hi=>?_⟩;rw [show off+k+i=off+(k+i) by omega,hc (k+i) (by omega)];congr 2
 rw [List.getD_eq_getElem?_getD,List.getD_eq_getElem?_getD,List.getElem?_drop]
def REST (b off c k:Nat):Option Addr:=if c=k then some ⟨b,off,none⟩ else some ⟨b,off+k,none⟩
theorem Bytes.behind {w:World} {b off n c:Nat} {l:List Int} (h:Bytes w (some ⟨b,off,none⟩) n l) (k:Nat) (hk:k<=n) (hc:n<=c):Bytes w (REST b off c k) (n - k) (l.drop k):=by
 unfold REST;split
 ·have h0:n - k=0:=by omega
  rw [h0];refine ⟨?_,fun h=>by omega,fun x hx=>h.2.2 x (List.mem_of_mem_drop hx)⟩;rw [List.length_drop,h.1,h0]
 ·exact h.rest k hk
end Go.Proofs.YtlbcnaenhghieaaGreatDoor
namespace Go.Proofs.YtlbcnaenhghieaaGreatDoor
open Go.RowKit
def LNG (t:List Int):Int × Int × Int:=LG t t.length 10 0 0
abbrev DANS:=Int × Nat × Nat × Nat × List Int
def DERR (E:Int):DANS:=(E,0,0,0,[])
def DC3 (PF:Nat->Nat->Int × List Nat) (X Y:Nat) (t:List Int):DANS:=
 if (PF X Y).1≠0 then DERR (PF X Y).1 else if t.length<32*(PF X Y).2.length then DERR 11 else if 32*(PF X Y).2.length<t.length then DERR 13 else (0,X,Y,(PF X Y).2.length,t)
def DC2 (PF:Nat->Nat->Int × List Nat) (X:Nat) (t:List Int):DANS:=
 if (LNG t).2.2≠0 then DERR (LNG t).2.2 else DC3 PF X (LNG t).1.toNat (t.drop (LNG t).2.1.toNat)
def DC1 (chk:Nat->Bool) (PF:Nat->Nat->Int × List Nat) (t:List Int):DANS:=
 if (LNG t).2.2≠0 then DERR (LNG t).2.2 else if chk (LNG t).1.toNat=true then DERR 30 else DC2 PF (LNG t).1.toNat (t.drop (LNG t).2.1.toNat)
def DC0 (K:Int) (chk:Nat->Bool) (PF:Nat->Nat->Int × List Nat) (l:List Int):DANS:=
 if l.length=0 then DERR 11 else if l.getD 0 0≠K then DERR 14 else DC1 chk PF (l.drop 1)
end Go.Proofs.YtlbcnaenhghieaaGreatDoor
