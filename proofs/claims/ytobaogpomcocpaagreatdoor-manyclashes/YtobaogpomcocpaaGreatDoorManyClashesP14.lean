/- ManyClashes: part 14. -/
import Derived.Great.BuildSlice
import Derived.Test.YtobaogpomcocpaaGreatDoorManyClashesP6
set_option maxRecDepth 100000
set_option maxHeartbeats 1000000
open Go.RowKit
namespace Go.Proofs.YtobaogpomcocpaaGreatDoor
namespace HX
theorem Ul:(#[.int .u8 0,.int .u8 0,.int .u8 0,.int .u8 0,.int .u8 0,.int .u8 0,.int .u8 0,.int .u8 0]:Array Value)=UARR .u8 8 fun _=>0:=rfl
theorem z1B:(#[.int .u8 0,.int .u8 0,.int .u8 0,.int .u8 0,.int .u8 0,.int .u8 0,.int .u8 0,.int .u8 0,.int .u8 0,.int .u8 0,.int .u8 0,.int .u8 0,.int .u8 0,.int .u8 0,.int .u8 0,.int .u8 0,.int .u8 0,.int .u8 0,.int .u8 0,.int .u8 0,.int .u8 0,.int .u8 0,.int .u8 0,.int .u8 0,.int .u8 0,.int .u8 0,.int .u8 0,.int .u8 0,.int .u8 0,.int .u8 0,.int .u8 0,.int .u8 0,.int .u8 0,.int .u8 0,.int .u8 0,.int .u8 0,.int .u8 0,.int .u8 0,.int .u8 0,.int .u8 0,.int .u8 0,.int .u8 0,.int .u8 0,.int .u8 0,.int .u8 0,.int .u8 0,.int .u8 0,.int .u8 0,.int .u8 0,.int .u8 0,.int .u8 0,.int .u8 0,.int .u8 0,.int .u8 0,.int .u8 0,.int .u8 0,.int .u8 0,.int .u8 0,.int .u8 0,.int .u8 0,.int .u8 0,.int .u8 0,.int .u8 0,.int .u8 0]:Array Value)=UARR .u8 64 fun _=>0:=rfl
theorem JR(b:Nat)(w:World):(Instr.sliceAt 98 (.pointer (some ⟨b,0,none⟩)) none none none).run Tryz.prog w=.ok (.slice (some ⟨b,0,none⟩) 8 8) w:=by
 have hn:Tryz.prog.arrayLen 98=8:=by kernel_rfl
 rw[run_sliceAt_array_all w 98 ⟨b,0,none⟩ (by kernel_rfl),hn];have he:Tryz.prog.elem 98=5:=by kernel_rfl
 obtain⟨i8,hi,h8⟩:=Option.map_eq_some_iff.1 zU;simp only[Prod.mk.injEq] at h8;rw[he];simp[sizeOf,typeInfo,hi,h8.2.1,slicedAt,Addr.add]
abbrev BY(l:List Nat):List Value:=za (INTS l)
theorem jp(a b:List Nat):BY (a ++ b)=BY a ++ BY b:=by simp[BY,za,INTS]
theorem vQ(l:List Nat):(BY l).length=l.length:=by simp[BY,za,INTS]
theorem XX(l:List Nat)(i:Nat)(h:i<l.length):(BY l)[i]?=some (.int .u8 ((l.getD i 0:Nat):Int)):=by
 simp[BY,za,INTS,List.getD_eq_getElem?_getD,h]
theorem z2m(l:List Nat):∀ u∈BY l,u.oneCell'=true:=yf _
def HFUL(l:List Nat):List Nat:=l ++ END l.length
theorem Yv(l:List Nat):(HFUL l).length=64*((l.length+zw l.length+9) / 64):=by
 rw[HFUL,List.length_append,gr];unfold zw;omega
theorem gO(L:List Nat)(t:Nat):BY (L.take (64*(t+1)))=BY (L.take (64*t)) ++ BY ((L.drop (64*t)).take 64):=by
 rw[<-jp,show 64*(t+1)=64*t+64 by omega,List.take_add]
theorem gP{n m:Nat}(h:m<zw n):(n+1+m) % 64≠56:=by
 unfold zw at h;omega
theorem kY(n:Nat):(n+1+zw n) % 64=56:=by
 unfold zw;omega
theorem mh(l:List Nat):l ++ [128] ++ List.replicate (zw l.length) 0 ++ BE8 (8*l.length)=HFUL l:=by
 simp[HFUL,END,HEAD]
theorem vR(W:World)(b j:Nat)(v:Value):W.grownBy (W.setCell ⟨b,j,none⟩ v) (some b):=
 ⟨rfl,rfl,rfl,by simp,fun k _ hk=>Below.heap_setCell _ _ _ k (fun e=>hk (by rw[e]))⟩
theorem Xk{w:World}{B n:Nat}{v:Value}{xs:List Value}{t:TypeId}{s:Nat}(h:w.ownsRow B t s v n xs):∃ a cap,v=.slice a n cap/\(0<n->∃ g,a=some ⟨g,0,none⟩):=by
 rcases h.2 with ⟨rfl,h0⟩ | ⟨g,cap,cur,rfl,hb,hg,r⟩
 ·subst h0
  exact⟨none,0,rfl,fun h=>by omega⟩
 ·exact⟨_,cap,rfl,fun _=>⟨g,rfl⟩⟩
theorem HM(m:Nat)(hm:m<256)(w4:World):Bytes (w4.alloc (.cells #[.int .u8 (m:Int)] 5)) (some ⟨w4.heap.size,0,none⟩) 1 [(m:Int)]:=Zo w4 1 (fun _=>(m:Int)) [(m:Int)] rfl (fun i hi=>by obtain rfl:i=0:=(by omega);rfl) (fun x hx=>by simp at hx;omega)
theorem VP{w:World}{g n:Nat}{f:Nat->Nat}{t:TypeId}(h:Has w g (UARR .u8 n f) t)(hf:∀ i,f i<256):Text w (some ⟨g,0,none⟩) n ((List.range n).map f):=
 ⟨by simp,fun _=>⟨g,0,rfl,h.lt,fun i hi=>by rw[Nat.zero_add,h.cell,zt _ _ _ _ hi,List.getD_eq_getElem?_getD,List.getElem?_map,List.getElem?_range hi];rfl⟩,fun x hx=>by obtain⟨i,_,rfl⟩:=List.mem_map.1 hx;exact hf i⟩
theorem VQ{w w':World}{base:Nat}{t:TypeId}{s:Nat}{v:Value}{n:Nat}{xs:List Value}(h:w.ownsRow base t s v n xs)(hb:Below w.heap.size w w'):w'.ownsRow base t s v n xs:=by
 refine⟨h.1,h.2.imp id ?_⟩;rintro⟨g,c,cur,a,b,r,rest⟩;exact⟨g,c,cur,a,b,(hb.block g (Array.getElem?_eq_some_iff.1 r).1).trans r,rest⟩
theorem JS:(Tryz.prog.info? 97).map (fun i=>(i.zero,i.size,i.bytes))=some (some (.agg (UARR .u8 64 fun _=>0)),64,64):=by kernel_rfl
theorem mi{ops:Array Oper}{rest:List Oper}{o:Oper}{a:Act}{Q:Exit->Act->World->Prop}(w:World)(hgd:o.guard=none)(s x:Operand)
  (ho:o.op=.call {callee:=.builtin .append,args:=#[s,x],argTypes:=#[65,65]})
  (base:Nat) (v:Value) (n:Nat) (xs:List Value) (hs:a.eval s=v) (hown:w.ownsRow base 97 64 v n xs)
  (b c:Nat) (ys:List Nat) (hy:ys.length=64) (hx:a.eval x=.slice (some ⟨b,0,none⟩) 1 c) (hc:∀ i,i<64->w.cell? ⟨b,i,none⟩=some (.int .u8 ((ys.getD i 0:Nat):Int)))
  (hb:n<2 ^ 30) (hbase:base<=w.heap.size)
  (h:∀ g cap w',w'.ownsRow base 97 64 (.slice (some ⟨g,0,none⟩) (n+1) cap) (n+1) (xs ++ BY ys)->w.grownBy w' v.ownBlock->wpList Tryz.prog ops Q rest (a.put o.dst (.slice (some ⟨g,0,none⟩) (n+1) cap)) w'):wpList Tryz.prog ops Q (o :: rest) a w:=by
 obtain⟨i,hi,hz,hs1,hby⟩:=info_parts JS;refine wpList_append_lies w hgd s x 65 ho base 97 i _ 64 64 Tryz.underlying65 hi hz hs1 hby (by simp[Value.cells,zg]) (by decide) v n xs hs hown ⟨b,0,none⟩ 1 c (BY ys) hx (by rw[vQ,hy]) ?_ (z2m ys) (by decide) (by simp only[maxLen];omega) (by omega) hbase w.heap.size rfl ?_
 ·intro j u hj
  have hj64:j<64:=by have:=(List.getElem?_eq_some_iff.1 hj).1;rw[vQ,hy] at this;exact this
  rw[XX _ _ (by omega)] at hj;rw[<-hj,zY,Nat.zero_add];exact hc j hj64
 ·intro g cap w' h1 h2 _ _
  exact h g cap w' h1 h2
theorem mj{t nb j I KK LEN len:Nat}(h1:LEN=len/\len=64*nb/\LEN<2 ^ 31+8)(h4:t<nb)(h5:64*t=I)(hj:j<64)(h6:I+j=KK):KK<LEN/\wrap64 ((I:Int)+(j:Int))=(KK:Int)/\(KK:Int)<(LEN:Int)/\¬ (KK:Int)<0:=by
 unfold wrap64;omega
theorem z08{t nb LEN len:Nat}(h1:LEN=len/\len=64*nb/\LEN<2 ^ 31+8)(h4:t<nb):64*(t+1)<=len/\t<2 ^ 30:=by omega
theorem gQ{w8 wr:World}{B g LEN cap t j KK:Nat}{L:List Nat}(h:w8.ownsRow B 5 1 (.slice (some ⟨g,0,none⟩) LEN cap) LEN (BY L))(hbel:Below w8.heap.size w8 wr)(hg:g<w8.heap.size)(hL:LEN=L.length)(hj:j<64)(hK:64*t+j=KK)(hKL:KK<LEN):
  wr.cell? ⟨g,KK,none⟩=some (.int .u8 ((BLK L t j:Nat):Int)):=by
 have h1:=(hbel.cell (p:=⟨g,KK,none⟩) hg).trans (h.cellAt KK (by omega));rw[h1,XX _ _ (by omega)];unfold BLK;rw[if_pos hj,hK]
theorem gR{wr:World}{xb t j:Nat}{L:List Nat}(hH:Has wr xb (UARR .u8 64 fun i=>if i<j then BLK L t i else 0) 97)(hj:j<64):
  wr.cell? ⟨xb,j,none⟩=some (.int .u8 0)/\wr.frozen? ⟨xb,j,none⟩=false/\Has (wr.setCell ⟨xb,j,none⟩ (.int .u8 ((BLK L t j:Nat):Int))) xb (UARR .u8 64 fun i=>if i<j+1 then BLK L t i else 0) 97:=by
 refine⟨?_,hH.frozen j,?_⟩
 ·have h:=hH.cell j
  rw[zt _ _ _ _ hj,if_neg (Nat.lt_irrefl j)] at h;exact h
 ·have h:=hH.set j (.int .u8 ((BLK L t j:Nat):Int))
  have e:=qh (k:=.u8) (n:=64) (i:=j) (F:=BLK L t) (f:=fun i=>if i<j then BLK L t i else 0) (fun _=>rfl) (BLK L t j) rfl;rw[e] at h;exact h
theorem yM{ops:Array Oper}{rest:List Oper}{o:Oper}{a:Act}{Q:Exit->Act->World->Prop}(w:World)(hg:o.guard=none)(t e:TypeId)(x:Operand)(ho:o.op=.buildSlice t 1 #[(0,x)])(C:Array Value)(hx:a.eval x=.agg C)(n:Nat)(z:Value)(by':Nat)
  (hu:Tryz.prog.underlying t=some (.slice e))(hi:(Tryz.prog.info? e).map (fun i=>(i.zero,i.size,i.bytes))=some (some z,n,by'))(hC:C.size=n)(hz:z.cells.size=n)(hn:0<n)(hs:n<=1000)
  (h:wpList Tryz.prog ops Q rest (a.put o.dst (.slice (some ⟨w.heap.size,0,none⟩) 1 1)) (w.alloc (.cells C e))):wpList Tryz.prog ops Q (o :: rest) a w:=by
 obtain⟨i,hie,hz',hs1,_⟩:=info_parts hi;refine wpList_buildSlice hg t e 1 _ ho C i z hu hie hz' (by rw[hs1];omega) (by rw[hs1];omega) ?_ h;have:=Great.fill_whole (s:=n) hn [.agg C] ((Array.range (1*i.size)).map (z.cells[· % z.cells.size]!)) (fun v hv=>by simp at hv;subst hv;exact hC) (by simp[hs1]);simp[Value.cells] at this;rw[hs1];simp[hx];rw[hs1] at this;exact this
theorem U4(a:Option Addr)(n c:Nat)(l:List Nat)(w:World)(hA:Text w a n l)(hc:a=none->c=0)(hn:n<2 ^ 30):Calls Tryz.prog 29 #[.slice a n c] w fun e w'=>
    ∃ v,e=.returned v/\w'.ownsRow w.heap.size 97 64 v ((HFUL l).length / 64) (BY (HFUL l))/\Below w.heap.size w w':=by
  have hln:l.length=n:=hA.1;have H:Aside (Text w a n l/\(a=none->c=0)/\n<2 ^ 30/\l.length=n):=⟨hA,hc,hn,hln⟩
  have hz8:=Ul;have hz64:=z1B;clear hA hc hn hln;have HE1:Aside (Bytes (w.alloc (.cells #[] 5)) a n (INTS l)):=(H.out.1.below ((Below.refl _ _).alloc (Nat.le_refl _) _)).bytes;have HE2:Aside (∀ w4,(w.alloc (.cells #[] 5)).grownBy w4 (some w.heap.size)->Below w.heap.size w w4):=fun w4 h=>((Below.refl _ _).alloc (Nat.le_refl _) _).grown h (by simp) (fun k e=>by cases e;exact Nat.le_refl _);go_enter Tryz.func29,Tryz.ntmps29;go_wp2_with (first | (at_builtin;refine jF _ rfl (.tmp 11) (.tmp 12) rfl w.heap.size _ 0 [] rfl (YR w _ (Nat.le_refl _)) a n c (INTS l) rfl HE1.out H.out.2.1 n (INTS l) (by omega) rfl (by have:=H.out.2.2.1;omega) (by simp) ?_;intro a4 c4 w4 hown4 hgrow4) | (at_builtin;refine zM _ rfl (.tmp 14) (.tmp 15) rfl w.heap.size (.slice a4 n c4) n (INTS l) rfl (hown4.alloc _) w4.heap.size 0 1 1 [((128:Nat):Int)] rfl (HM 128 (by decide) w4) (by decide) (by have:=H.out.2.2.1;omega) (by have:=(HE2.out _ hgrow4).size;simp;omega) ?_;intro g5 cap5 w5 hown5 hgrow5 hg5))
  have S:Aside (w5.ownsRow w.heap.size 5 1 (.slice (some ⟨g5,0,none⟩) (n+1) cap5) (n+1) (BY (l ++ [128]))/\Below w.heap.size w w5):=by
    have hb4:=HE2.out _ hgrow4;refine⟨by rw[jp];rw[yp] at hown5;exact hown5,(hb4.alloc hb4.size _).grown hgrow5 (by have:=hb4.size;simp;omega) (fun k e=>(hown4.lt k e).1)⟩
  clear hown4 hgrow4 hown5 hgrow5 hg5 HE1 HE2;go_loopg [3] (zw n) (fun q s3 wx=>∃ m:Nat,Aside (m+q=zw n/\wx.ownsRow w.heap.size 5 1 s3 (n+1+m) (BY (l ++ [128] ++ List.replicate m 0))/\Below w.heap.size w wx))
  case atStart=>exact⟨0,by omega,by simpa using S.out.1,S.out.2⟩
  case round=>
    obtain⟨m,A⟩:=hrel;clear S;obtain⟨a3,c3,hv, -⟩:=Xk A.out.2.1;subst hv;have hz:zw n<64:=Nat.mod_lt _ (by decide);obtain⟨X,hX⟩:∃ X,n+1+m=X:=⟨_,rfl⟩
    have hX40:X<2 ^ 31:=by have:=H.out.2.2.1;have:=A.out.1;omega
    have er:(X:Int).tmod 64=((X % 64:Nat):Int):=by rw[Int.tmod_eq_emod_of_nonneg (by omega)];omega
    cases gk with
    | zero=>
      obtain rfl:m=zw n:=by have:=A.out.1;omega
      have hr:X % 64=56:=by rw[<-hX];exact kY n
      rw[hr] at er;have er2:(X:Int) % 64=56:=by omega
      have S:Aside (wr.ownsRow w.heap.size 5 1 (.slice a3 X c3) X (BY (l ++ [128] ++ List.replicate (zw n) 0))/\Below w.heap.size w wr/\X<2 ^ 31/\n+1+zw n=X):=⟨by rw[<-hX];exact A.out.2.1,A.out.2.2,hX40,hX⟩
      rw[hX];have e8:IntKind.u64.wrap (n:Int)=(n:Int):=by have:=H.out.2.2.1;rw[zh];omega
      obtain⟨Y,hY⟩:∃ Y,8*n=Y:=⟨_,rfl⟩
      have e8':IntKind.u64.wrap (8*(n:Int))=(Y:Int):=by have:=H.out.2.2.1;rw[zh];omega
      have HY:Aside (8*n=Y/\Y<2 ^ 34):=⟨hY,by have:=H.out.2.2.1;omega⟩
      clear A hz hX hX40 hr hY;go_wp2
      have T:Aside (Has (wr.alloc (.cells (UARR .u8 8 fun _=>0) 98)) wr.heap.size (UARR .u8 8 fun _=>0) 98/\(wr.alloc (.cells (UARR .u8 8 fun _=>0) 98)).ownsRow w.heap.size 5 1 (.slice a3 X c3) X (BY (l ++ [128] ++ List.replicate (zw n) 0))/\Below w.heap.size w (wr.alloc (.cells (UARR .u8 8 fun _=>0) 98))/\(∀ g,(Value.slice a3 X c3).ownBlock=some g->g≠wr.heap.size)/\w.heap.size<=wr.heap.size):=
        ⟨Has.new _ _ _,S.out.1.alloc _,S.out.2.1.alloc S.out.2.1.size _,fun g hg=>by have:=(S.out.1.lt g hg).2;omega,S.out.2.1.size⟩
      generalize wr.alloc (.cells (UARR .u8 8 fun _=>0) 98)=w7 at *
      generalize wr.heap.size=tb at *
      go_loopg [4,6] 8 (fun q s4 s6 wx=>∃ z:Nat,s4=.int .u64 (z:Int)/\s6=.int .i64 ((q:Int) - 1)/\Aside (q<=8/\z=Y / 2 ^ (8*(8 - q))/\Has wx tb (UARR .u8 8 fun j=>if q<=j then Y / 2 ^ (8*(7 - j)) % 256 else 0) 98/\wx.ownsRow w.heap.size 5 1 (.slice a3 X c3) X (BY (l ++ [128] ++ List.replicate (zw n) 0))/\Below w.heap.size w wx))
      case atStart=>
        refine⟨Y,rfl,rfl,by omega,by simp,?_,T.out.2.1,T.out.2.2.1⟩;have:(UARR .u8 8 fun j=>if 8<=j then Y / 2 ^ (8*(7 - j)) % 256 else 0)=UARR .u8 8 fun _=>0:=zB fun j hj=>by rw[if_neg (by omega)]
        rw[this];exact T.out.1
      case round=>
        obtain⟨z,rfl,rfl,A⟩:=hrel;cases gk with
        | zero=>
          have hlt:¬ (0:Int)<=((0:Nat):Int) - 1:=by omega
          have hsl:=JR tb;obtain⟨-, -,hH,hown,hbel⟩:=A.out
          have hT8:Text wr (some ⟨tb,0,none⟩) 8 (BE8 Y):=by
            have:=VP (f:=fun j=>Y / 2 ^ (8*(7 - j)) % 256) (by simpa using hH) (fun i=>Nat.mod_lt _ (by decide));exact this
          have R:Aside (wr.ownsRow w.heap.size 5 1 (.slice a3 X c3) X (BY (l ++ [128] ++ List.replicate (zw n) 0))/\Below w.heap.size w wr/\Bytes wr (some ⟨tb,0,none⟩) 8 (INTS (BE8 Y))):=⟨hown,hbel,hT8.bytes⟩
          clear A hH hown hbel hT8 T hz8;go_wp2_with (at_builtin;refine zM _ rfl (.tmp 39) (.tmp 40) rfl w.heap.size (.slice a3 X c3) X (INTS (l ++ [128] ++ List.replicate (zw n) 0)) rfl R.out.1 tb 0 8 8 (INTS (BE8 Y)) rfl R.out.2.2 (by decide) (by have:=S.out.2.2.1;omega) R.out.2.1.size ?_;intro g cap w8 hown8 hgrow8 hg8)
          have V:Aside (w8.ownsRow w.heap.size 5 1 (.slice (some ⟨g,0,none⟩) (X+8) cap) (X+8) (BY (HFUL l))/\Below w.heap.size w w8/\g<w8.heap.size/\X+8=(HFUL l).length/\(HFUL l).length=64*((HFUL l).length / 64)/\X+8<2 ^ 31+8):=by
            have hlen:=H.out.2.2.2;have hX:=S.out.2.2.2;have hf:=Yv l;have hj:=mh l;rw[hlen,HY.out.1] at hj;refine⟨?_,R.out.2.1.grown hgrow8 R.out.2.1.size (fun k e=>(R.out.1.lt k e).1),hg8,?_,by omega,by have:=S.out.2.2.1;omega⟩
            · rw[<-hj,jp]
              rw[yp] at hown8;exact hown8
            · rw[hf,hlen]
              unfold zw at *
              omega
          clear hown8 hgrow8 hg8 R S HY hsl;obtain⟨LEN,hLEN⟩:∃ LEN,X+8=LEN:=⟨_,rfl⟩
          rw[hLEN] at V ⊢;clear hLEN;generalize hFL:HFUL l=L at *
          obtain⟨nb,hnb⟩:∃ nb,L.length / 64=nb:=⟨_,rfl⟩
          rw[hnb] at V
          have HNB:Aside (L.length / 64=nb/\HFUL l=L/\Small8 L):=⟨hnb,hFL,by
            rw[<-hFL];intro x hx;rcases List.mem_append.1 hx with h | h
            · exact H.out.1.2.2 x h
            · exact YT _ x h⟩
          clear hFL hnb;go_loopg [7,8] nb (fun q s7 s8 wx=>∃ t:Nat,s8=.int .i64 ((64*t:Nat):Int)/\Aside (t+q=nb/\wx.ownsRow w8.heap.size 97 64 s7 t (BY (L.take (64*t)))/\Below w8.heap.size w8 wx))
          case atStart=>exact⟨0,rfl,by omega,⟨rfl,.inl ⟨rfl,rfl⟩⟩,Below.refl _ _⟩
          case round=>
            obtain⟨t,rfl,A⟩:=hrel;cases gk with
            | zero=>
              obtain rfl:t=nb:=by have:=A.out.1;omega
              have hlt:¬ ((64*t:Nat):Int)<(LEN:Int):=by have:=V.out.2.2.2;omega
              go_wp2;go_ret;obtain⟨v1,v2,v3,v4,v5,v6⟩:=V.out;obtain⟨_,hown,hbel⟩:=A.out;rw[List.take_of_length_le (by omega)] at hown;refine⟨_,rfl,?_,v2.trans (hbel.mono v2.size)⟩;rw[HNB.out.2.1,HNB.out.1];exact zq hown v2.size
            | succ q=>
              have htn:t<nb:=by have:=A.out.1;omega
              obtain⟨I,hI⟩:∃ I,64*t=I:=⟨_,rfl⟩
              have hlt:(I:Int)<(LEN:Int):=by have:=V.out.2.2.2;omega
              have eI:wrap64 ((I:Int)+64)=((64*(t+1):Nat):Int):=by have:=V.out.2.2.2;unfold wrap64;omega
              rw[hI];generalize hwo:wr=wo at *
              clear hwo;go_wp2
              have T:Aside (Has (wo.alloc (.cells (UARR .u8 64 fun _=>0) 97)) wo.heap.size (UARR .u8 64 fun _=>0) 97/\(wo.alloc (.cells (UARR .u8 64 fun _=>0) 97)).ownsRow w8.heap.size 97 64 u7 t (BY (L.take (64*t)))/\Below w8.heap.size w8 (wo.alloc (.cells (UARR .u8 64 fun _=>0) 97))/\(∀ g,u7.ownBlock=some g->g≠wo.heap.size)/\w8.heap.size<=wo.heap.size):=
                ⟨Has.new _ _ _,A.out.2.1.alloc _,A.out.2.2.alloc A.out.2.2.size _,fun g hg=>by have:=(A.out.2.1.lt g hg).2;omega,A.out.2.2.size⟩
              generalize wo.alloc (.cells (UARR .u8 64 fun _=>0) 97)=w9 at *
              generalize wo.heap.size=xb at *
              have HQ:Aside (t+1+q=nb/\t<nb/\64*t=I):=⟨by have:=A.out.1;omega,htn,hI⟩
              clear A htn hI;go_loopg [10] 64 (fun p s10 wx=>∃ j:Nat,s10=.int .i64 (j:Int)/\Aside (j+p=64/\Has wx xb (UARR .u8 64 fun i=>if i<j then BLK L t i else 0) 97/\wx.ownsRow w8.heap.size 97 64 u7 t (BY (L.take (64*t)))/\Below w8.heap.size w8 wx))
              case atStart=>exact⟨0,rfl,by omega,by simpa using T.out.1,T.out.2.1,T.out.2.2.1⟩
              case round=>
                obtain⟨j,rfl,A⟩:=hrel;cases gk with
                | zero=>
                  obtain rfl:j=64:=by have:=A.out.1;omega
                  obtain⟨-,hH,hown,hbel⟩:=A.out
                  have hH2:Has wr xb (UARR .u8 64 (BLK L t)) 97:=by
                    have e:(UARR .u8 64 fun i=>if i<64 then BLK L t i else 0)=UARR .u8 64 (BLK L t):=zB fun i hi=>if_pos hi;rw[e] at hH;exact hH
                  have R:Aside (Has wr xb (UARR .u8 64 (BLK L t)) 97/\wr.ownsRow w8.heap.size 97 64 u7 t (BY (L.take (64*t)))/\Below w8.heap.size w8 wr):=⟨hH2,hown,hbel⟩
                  clear A hH hH2 hown hbel;have hi64:=J8 (BLK L t);have hall:=zA .u8 64 (BLK L t);have hsz:=zg .u8 64 (BLK L t);obtain⟨C,hC⟩:∃ C,UARR .u8 64 (BLK L t)=C:=⟨_,rfl⟩
                  rw[hC] at R hi64 hall hsz;have HC:Aside (UARR .u8 64 (BLK L t)=C):=hC
                  have HL64:Aside (((L.drop (64*t)).take 64).length=64/\(∀ i,i<64->(wr.alloc (.cells C 97)).cell? ⟨wr.heap.size,i,none⟩=some (.int .u8 ((((L.drop (64*t)).take 64).getD i 0:Nat):Int)))/\t<2 ^ 30):=by
                    obtain⟨hLl,ht30⟩:=z08 V.out.2.2.2 HQ.out.2.1;refine⟨by rw[List.length_take,List.length_drop];clear R hi64 hall hsz HC;omega,fun i hi=>?_,ht30⟩;rw[(Has.new wr C 97).cell i,<-hC,zt _ _ _ _ hi];unfold BLK;rw[if_pos hi,List.getD_eq_getElem?_getD,List.getD_eq_getElem?_getD,List.getElem?_take_of_lt hi,List.getElem?_drop]
                  clear hC T hz64;go_wp2_with (first | (refine wpList_load_row rfl 97 (.tmp 9) rfl xb rfl 97 C (0,0) _ R.out.1 Tryz.underlying97 rfl hi64 ?_) | (refine yM _ rfl 65 97 (.tmp 61) rfl C rfl 64 _ _ Tryz.underlying65 JS hsz (by simp[Value.cells,zg]) (by decide) (by decide) ?_) | (at_builtin;refine mi _ rfl (.tmp 60) (.tmp 62) rfl w8.heap.size u7 t (BY (L.take (64*t))) rfl (R.out.2.1.alloc _) wr.heap.size 1 ((L.drop (64*t)).take 64) HL64.out.1 rfl HL64.out.2.1 HL64.out.2.2 (by have:=R.out.2.2.size;simp;omega) ?_;intro g9 cap9 w9' hown9 hgrow9))
                  have T2:Aside (t+1+q=nb/\w9'.ownsRow w8.heap.size 97 64 (.slice (some ⟨g9,0,none⟩) (t+1) cap9) (t+1) (BY (L.take (64*(t+1))))/\Below w8.heap.size w8 w9'):=by
                    refine⟨HQ.out.1,by rw[gO];exact hown9,(R.out.2.2.alloc R.out.2.2.size _).grown hgrow9 ?_ (fun k e=>(R.out.2.1.lt k e).1)⟩;have:=R.out.2.2.size;simp;exact Nat.le_succ_of_le this
                  clear hown9 hgrow9 R HL64 HC hi64 hall hsz;go_roundg q
                  case measure=>exact Nat.lt_succ_self _
                  case rel=>exact⟨t+1,by first | rfl | (rw[eI]),T2.out⟩
                | succ p=>
                  obtain⟨hjp,hH,hown,hbel⟩:=A.out;have hj64:j<64:=by omega
                  have hjlt:(j:Int)<64:=by omega
                  have hj0:¬ (j:Int)<0:=by omega
                  have ej:wrap64 ((j:Int)+1)=((j+1:Nat):Int):=by unfold wrap64;omega
                  obtain⟨KK,hKK⟩:∃ KK,I+j=KK:=⟨_,rfl⟩
                  have hLEN:=V.out.2.2.2;have hI:=HQ.out.2.2;have htn:=HQ.out.2.1;obtain⟨hKL,eK,hK1,hK0⟩:=mj hLEN htn hI hj64 hKK;have x0:=gQ V.out.1 hbel V.out.2.2.1 hLEN.1 hj64 (by rw[hI];exact hKK) hKL;obtain⟨y0,f0,hH2⟩:=gR hH hj64
                  have R:Aside (j+1+p=64/\Has (wr.setCell ⟨xb,j,none⟩ (.int .u8 ((BLK L t j:Nat):Int))) xb (UARR .u8 64 fun i=>if i<j+1 then BLK L t i else 0) 97/\(wr.setCell ⟨xb,j,none⟩ (.int .u8 ((BLK L t j:Nat):Int))).ownsRow w8.heap.size 97 64 u7 t (BY (L.take (64*t)))/\Below w8.heap.size w8 (wr.setCell ⟨xb,j,none⟩ (.int .u8 ((BLK L t j:Nat):Int)))):=
                    ⟨by omega,hH2,hown.kept (vR _ _ _ _) (.inr fun e=>T.out.2.2.2.1 xb e rfl),hbel.setCell (p:=⟨xb,j,none⟩) T.out.2.2.2.2 _⟩
                  clear hH2 hLEN hI htn;generalize BLK L t j=bv at *
                  clear A hjp hH hown hbel hj64 hKK hKL;go_wp2;go_roundg p
                  case measure=>omega
                  case rel=>exact⟨j+1,by first | rfl | (rw[ej]),R.out⟩
        | succ q=>
          obtain⟨q8,hz,hH,hown,hbel⟩:=A.out;have e0:((q+1:Nat):Int) - 1=(q:Int):=by omega
          have e0':¬ (q:Int)<0:=by omega
          have e0'':(q:Int)<8:=by omega
          have ew:wrap64 ((q:Int) - 1)=(q:Int) - 1:=by unfold wrap64;omega
          have hz64':z<2 ^ 64:=by rw[hz];exact Nat.lt_of_le_of_lt (Nat.div_le_self _ _) (by have:=HY.out.2;omega)
          obtain⟨b0,hb0⟩:∃ b0,z % 256=b0:=⟨_,rfl⟩
          obtain⟨z2,hz2⟩:∃ z2,z / 256=z2:=⟨_,rfl⟩
          have em:(z:Int) % 256=(b0:Int):=by omega
          have em2:(b0:Int) % 256=(b0:Int):=by omega
          have ed:(z:Int) / 256=(z2:Int):=by omega
          have ed2:IntKind.u64.wrap (z2:Int)=(z2:Int):=by rw[zh];omega
          have em3:IntKind.u64.wrap (b0:Int)=(b0:Int):=by rw[zh];omega
          have y0:wr.cell? ⟨tb,q,none⟩=some (.int .u8 0):=by
            rw[hH.cell q,zt _ _ _ _ (by omega),if_neg (by omega)];rfl
          have f0:wr.frozen? ⟨tb,q,none⟩=false:=hH.frozen q
          have R:Aside (q<=8/\z2=Y / 2 ^ (8*(8 - q))/\Has (wr.setCell ⟨tb,q,none⟩ (.int .u8 (b0:Int))) tb (UARR .u8 8 fun j=>if q<=j then Y / 2 ^ (8*(7 - j)) % 256 else 0) 98/\(wr.setCell ⟨tb,q,none⟩ (.int .u8 (b0:Int))).ownsRow w.heap.size 5 1 (.slice a3 X c3) X (BY (l ++ [128] ++ List.replicate (zw n) 0))/\Below w.heap.size w (wr.setCell ⟨tb,q,none⟩ (.int .u8 (b0:Int)))):=by
            refine⟨by omega,?_,?_,hown.kept (vR _ _ _ _) (.inr fun e=>T.out.2.2.2.1 tb e rfl),hbel.setCell (p:=⟨tb,q,none⟩) T.out.2.2.2.2 _⟩
            · rw[<-hz2,hz,Nat.div_div_eq_div_mul,show (256:Nat)=2 ^ 8 from rfl,<-Nat.pow_add]
              congr 2
              omega
            · have h:=hH.set q (.int .u8 (b0:Int))
              rw[xB] at h
              have e:(UARR .u8 8 fun j=>if j=q then b0 else if q+1<=j then Y / 2 ^ (8*(7 - j)) % 256 else 0)=UARR .u8 8 fun j=>if q<=j then Y / 2 ^ (8*(7 - j)) % 256 else 0:=zB fun j hj=>by
                by_cases e:j=q
                · subst e
                  rw[if_pos rfl,if_pos (Nat.le_refl _),<-hb0,hz];congr 3
                  omega
                · rw[if_neg e]
                  by_cases e2:q+1<=j
                  · rw[if_pos e2,if_pos (by omega)]
                  · rw[if_neg e2,if_neg (by omega)]
              rw[e] at h;exact h
          rw[e0];clear A hz hH hown hbel q8 hb0 hz2 hz64';go_wp2;go_roundg q
          case measure=>omega
          case rel=>exact⟨z2,by first | rfl,by first | rfl | (rw[ew]),R.out⟩
    | succ q=>
      have hr:X % 64≠56:=by rw[<-hX];exact gP (by have:=A.out.1;omega)
      obtain⟨r,hr2⟩:∃ r,X % 64=r:=⟨_,rfl⟩
      rw[hr2] at er hr;have er2:(X:Int) % 64=(r:Int):=by omega
      have er3:((r:Int) != 56)=true:=by simp;omega
      have R:Aside (m+1+q=zw n/\wr.ownsRow w.heap.size 5 1 (.slice a3 X c3) X (BY (l ++ [128] ++ List.replicate m 0))/\Below w.heap.size w wr/\X<2 ^ 31/\n+1+m=X):=⟨by have:=A.out.1;omega,by rw[<-hX];exact A.out.2.1,A.out.2.2,hX40,hX⟩
      rw[hX];clear A hz hX hX40 hr hr2;go_wp2_with (at_builtin;refine zM _ rfl (.tmp 21) (.tmp 22) rfl w.heap.size (.slice a3 X c3) X (INTS (l ++ [128] ++ List.replicate m 0)) rfl (R.out.2.1.alloc _) wr.heap.size 0 1 1 [((0:Nat):Int)] rfl (HM 0 (by decide) wr) (by decide) (by have:=R.out.2.2.2.1;omega) (by have:=R.out.2.2.1.size;simp;omega) ?_;intro g5 cap5 w6 hown5 hgrow5 hg5)
      go_roundg q
      case measure=>omega
      case rel=>
        obtain⟨r1,r2,r3,r4,r5⟩:=R.out;refine⟨m+1,r1,?_,(r3.alloc r3.size _).grown hgrow5 (by have:=r3.size;simp;omega) (fun k e=>(r2.lt k e).1)⟩;rw[show n+1+(m+1)=X+1 by omega,List.replicate_succ',<-List.append_assoc,jp];rw[yp] at hown5;exact hown5
theorem zC{k:Nat}(h:k<2 ^ 64):IntKind.u64.wrap (k:Int)=(k:Int):=by rw[zh];omega
theorem xU(n:Nat)(hn:n<64)(w:World):Calls Tryz.prog 120 #[.int .i64 (n:Int)] w fun e w'=>e=.returned (.int .u64 ((2 ^ n:Nat):Int))/\w=w':=by
 have HN:Aside (n<64):=hn;clear hn;go_enter Tryz.func120,Tryz.ntmps120;go_wp2;go_loopg [3,4] n (fun g s3 s4 wx=>∃ (i:Nat) (p:Int),i+g=n/\Aside (p=((2 ^ i:Nat):Int))/\s3=.int .u64 p/\s4=.int .i64 i/\wx=w)
 case atStart=>exact⟨0,1,by omega,rfl,rfl,rfl,rfl⟩
 case round=>
  obtain⟨i,p,hig,A,rfl,rfl,rfl⟩:=hrel;cases gk with
  | zero=>
    obtain rfl:i=n:=by omega
    go_wp2;go_ret;exact⟨by rw[<-A.out];rfl,rfl⟩
  | succ g=>
    have hlt:(i:Int)<(n:Int):=by omega
    have hlt2:(i:Int)<64:=by have:=HN.out;omega
    obtain⟨p',hp'⟩:∃ p',IntKind.u64.wrap (2*p)=p':=⟨_,rfl⟩
    have B:Aside (IntKind.u64.wrap (2*p)=p'):=hp';go_wp2;go_roundg g
    case measure=>omega
    case rel=>
     refine⟨i+1,p',by omega,?_,rfl,by go_num,rfl⟩;show p'=_;have h1:(2 ^ i:Nat)<=2 ^ 62:=Nat.pow_le_pow_right (by decide) (by have:=HN.out;omega);rw[<-B.out,A.out,zh,Nat.pow_succ];omega
theorem z09(x n:Int)(P:Int->Int)(q r t v:Int)(w:World)(h1:0<=n/\n<64)(h2:0<=32 - n/\32 - n<64)(hw:wrap64 (32 - n)=32 - n)(hp:¬ P n=0)(hq:IntKind.u64.wrap (x.tdiv (P n))=q)(hr:x.tmod (P n)=r)(ht:IntKind.u64.wrap (r*P (32 - n))=t)(hv:IntKind.u64.wrap (q+t)=v)
  (c:∀ k:Int,0<=k/\k<64->∀ w,Calls Tryz.prog 120 #[.int .i64 k] w fun e w'=>e=.returned (.int .u64 (P k))/\w=w'):
  Calls Tryz.prog 93 #[.int .u64 x,.int .i64 n] w fun e w'=>e=.returned (.int .u64 v)/\∃ m,w'=w.drewN m:=by
 go_enter Tryz.func93,Tryz.ntmps93;go_wp2;go_quiet ((go_at_call 120;exact yg (c _ (by assumption) _)))
 go_wp2;go_ret;exact⟨rfl,_,rfl⟩
theorem ZW(X n:Nat)(hX:X<2 ^ 32)(h1:1<=n)(h2:n<32)(w:World):Calls Tryz.prog 93 #[.int .u64 (X:Int),.int .i64 (n:Int)] w fun e w'=>e=.returned (.int .u64 ((ROTR n X:Nat):Int))/\∃ m,w'=w.drewN m:=by
 have hp:=Nat.two_pow_pos n;have hR:=zH (n:=n) (by omega) hX;have hq:X / 2 ^ n<2 ^ 32:=Nat.lt_of_le_of_lt (Nat.div_le_self _ _) hX;have hm:X % 2 ^ n*2 ^ (32 - n)<2 ^ 32:=Nat.lt_of_le_of_lt (Nat.le_add_left _ _) hR;refine z09 X n (fun k=>((2 ^ k.toNat:Nat):Int)) ((X / 2 ^ n:Nat):Int) ((X % 2 ^ n:Nat):Int) ((X % 2 ^ n*2 ^ (32 - n):Nat):Int) _ w (by omega) (by omega) (by unfold wrap64;omega) ?_ ?_ ?_ ?_ ?_ ?_
 ·simp only[Int.toNat_natCast]
  omega
 ·simp only[Int.toNat_natCast]
  rw[Int.tdiv_eq_ediv_of_nonneg (by omega),<-Int.natCast_ediv];exact zC (by omega)
 ·simp only[Int.toNat_natCast]
  rw[Int.tmod_eq_emod_of_nonneg (by omega),<-Int.natCast_emod]
 ·rw[show ((32:Int) - (n:Int)).toNat=32 - n by omega,<-Int.natCast_mul]
  exact zC (by omega)
 ·rw[<-Int.natCast_add]
  exact zC (by unfold ROTR at hR;omega)
 ·intro k hk w
  obtain⟨K,rfl⟩:∃ K:Nat,k=(K:Int):=⟨k.toNat,by omega⟩
  exact xU K (by omega) w
theorem z0a(x n p q:Int)(w:World)(hp:¬ p=0)(hq:IntKind.u64.wrap (x.tdiv p)=q)
  (c:∀ w,Calls Tryz.prog 120 #[.int .i64 n] w fun e w'=>e=.returned (.int .u64 p)/\w=w'):
  Calls Tryz.prog 94 #[.int .u64 x,.int .i64 n] w fun e w'=>e=.returned (.int .u64 q)/\w=w':=by
 go_enter Tryz.func94,Tryz.ntmps94;go_wp2_with fail
 refine(c _).mono ?_;rintro e w' ⟨rfl,rfl⟩;clear c;go_wp2;go_ret;exact⟨rfl,rfl⟩
theorem uF(X n:Nat)(hX:X<2 ^ 32)(h2:n<32)(w:World):Calls Tryz.prog 94 #[.int .u64 (X:Int),.int .i64 (n:Int)] w fun e w'=>e=.returned (.int .u64 ((X / 2 ^ n:Nat):Int))/\w=w':=by
 have hp:=Nat.two_pow_pos n;have hq:X / 2 ^ n<2 ^ 32:=Nat.lt_of_le_of_lt (Nat.div_le_self _ _) hX;refine z0a X n ((2 ^ n:Nat):Int) _ w (by omega) ?_ (fun w=>xU n (by omega) w);rw[Int.tdiv_eq_ediv_of_nonneg (by omega),<-Int.natCast_ediv];exact zC (by omega)
theorem yH(V i:Nat):V / 2 ^ i % 2=(V.testBit i).toNat:=(Nat.toNat_testBit V i).symm
theorem yD(X i:Nat):X / 2 ^ i / 2=X / 2 ^ (i+1):=by rw[Nat.div_div_eq_div_mul,<-Nat.pow_succ]
theorem Zs{V i x:Nat}(hx:x=V / 2 ^ i % 2):V % 2 ^ i+2 ^ i*x=V % 2 ^ (i+1):=by rw[hx,Nat.mod_pow_succ]
theorem z0b(X Y Z i:Nat):(X / 2 ^ i % 2+Y / 2 ^ i % 2+Z / 2 ^ i) % 2=(X ^^^ Y ^^^ Z) / 2 ^ i % 2:=by
 have e:(X / 2 ^ i % 2+Y / 2 ^ i % 2+Z / 2 ^ i) % 2=(X / 2 ^ i % 2+Y / 2 ^ i % 2+Z / 2 ^ i % 2) % 2:=by omega
 rw[e,yH,yH,yH,yH,Nat.testBit_xor,Nat.testBit_xor];cases X.testBit i <;> cases Y.testBit i <;> cases Z.testBit i <;> rfl
theorem z1C(X Y Z i:Nat):(X / 2 ^ i % 2+Y / 2 ^ i % 2+Z / 2 ^ i % 2) / 2=MAJ X Y Z / 2 ^ i % 2:=by
 unfold MAJ;rw[yH,yH,yH,yH,Nat.testBit_xor,Nat.testBit_xor,Nat.testBit_and,Nat.testBit_and,Nat.testBit_and];cases X.testBit i <;> cases Y.testBit i <;> cases Z.testBit i <;> rfl
theorem uG(X Y Z i:Nat)(hX:X<2 ^ 32)(hi:i<32):(if X / 2 ^ i % 2=1 then Y / 2 ^ i % 2 else Z / 2 ^ i % 2)=CHO X Y Z / 2 ^ i % 2:=by
 unfold CHO;have e:4294967295 - X=2 ^ 32 - (X+1):=by omega
 rw[yH,yH,yH,yH,Nat.testBit_xor,Nat.testBit_and,Nat.testBit_and,e,Nat.testBit_two_pow_sub_succ hX];cases X.testBit i <;> cases Y.testBit i <;> cases Z.testBit i <;> simp[hi]
theorem ZK{i:Nat}(h:i<32):2 ^ i<=2147483648:=by
 have:(2:Nat) ^ i<=2 ^ 31:=Nat.pow_le_pow_right (by decide) (by omega);omega
theorem Yb(X Y Z:Nat)(hX:X<2 ^ 32)(hY:Y<2 ^ 32)(hZ:Z<2 ^ 32)(w:World):Calls Tryz.prog 92 #[.int .u64 (X:Int),.int .u64 (Y:Int),.int .u64 (Z:Int)] w fun e w'=>e=.returned (.int .u64 ((X ^^^ Y ^^^ Z:Nat):Int))/\w=w':=by
 have H:Aside (X<2 ^ 32/\Y<2 ^ 32/\Z<2 ^ 32):=⟨hX,hY,hZ⟩
 clear hX hY hZ;go_enter Tryz.func92,Tryz.ntmps92;go_wp2;go_loopg [0,1,2,7,8,9] 32 (fun g s0 s1 s2 s7 s8 s9 wx=>∃ (i x y z o p:Nat),i+g=32/\Aside (x=X / 2 ^ i/\y=Y / 2 ^ i/\z=Z / 2 ^ i/\o=(X ^^^ Y ^^^ Z) % 2 ^ i/\p=2 ^ i)/\s0=.int .u64 (x:Int)/\s1=.int .u64 (y:Int)/\s2=.int .u64 (z:Int)/\s7=.int .u64 (o:Int)/\s8=.int .u64 (p:Int)/\s9=.int .i64 i/\wx=w)
 case atStart=>exact⟨0,X,Y,Z,0,1,by omega,⟨by simp,by simp,by simp,by simp[Nat.mod_one],rfl⟩,rfl,rfl,rfl,rfl,rfl,rfl,rfl⟩
 case round=>
  obtain⟨i,x,y,z,o,p,hig,A,rfl,rfl,rfl,rfl,rfl,rfl,rfl⟩:=hrel;cases gk with
  | zero=>
    obtain rfl:i=32:=by omega
    go_wp2;go_ret;have e:o=X ^^^ Y ^^^ Z:=by rw[A.out.2.2.2.1];exact Nat.mod_eq_of_lt (Nat.xor_lt_two_pow (Nat.xor_lt_two_pow H.out.1 H.out.2.1) H.out.2.2)
    exact⟨by rw[<-e];rfl,rfl⟩
  | succ g=>
    have hlt:(i:Int)<32:=by omega
    go_wp2;go_roundg g
    case measure=>omega
    case rel=>
     obtain⟨a1,a2,a3,a4,a5⟩:=A.out;have hp:=ZK (i:=i) (by omega);have ho:o<2 ^ i:=by rw[a4];exact Nat.mod_lt _ (Nat.two_pow_pos i)
     have hx:x<2 ^ 32:=by rw[a1];exact Nat.lt_of_le_of_lt (Nat.div_le_self _ _) H.out.1
     have hy:y<2 ^ 32:=by rw[a2];exact Nat.lt_of_le_of_lt (Nat.div_le_self _ _) H.out.2.1
     have hz:z<2 ^ 32:=by rw[a3];exact Nat.lt_of_le_of_lt (Nat.div_le_self _ _) H.out.2.2
     have hpb:p*((x % 2+y % 2+z) % 2)<=p*1:=Nat.mul_le_mul_left p (by omega);refine⟨i+1,x / 2,y / 2,z / 2,o+p*((x % 2+y % 2+z) % 2),2*p,by omega,⟨by rw[a1,yD],by rw[a2,yD],by rw[a3,yD],?_,by rw[a5,Nat.pow_succ];omega⟩,?_,?_,?_,?_,?_,by go_num,rfl⟩
     ·rw[a4,a5]
      exact Zs (by rw[a1,a2,a3];exact z0b X Y Z i)
     ·exact congrArg (Value.int .u64) (zC (k:=x / 2) (by omega))
     ·exact congrArg (Value.int .u64) (zC (k:=y / 2) (by omega))
     ·exact congrArg (Value.int .u64) (zC (k:=z / 2) (by omega))
     ·have e1:IntKind.u64.wrap ((p:Int)*((((x:Int) % 2+(y:Int) % 2+(z:Int)) % 2)))=((p*((x % 2+y % 2+z) % 2):Nat):Int):=zC (Nat.lt_of_le_of_lt hpb (by omega))
      rw[e1];exact congrArg (Value.int .u64) (zC (k:=o+p*((x % 2+y % 2+z) % 2)) (by omega))
     ·exact congrArg (Value.int .u64) (zC (k:=2*p) (by omega))
theorem z2n(X Y Z:Nat)(hX:X<2 ^ 32)(hY:Y<2 ^ 32)(hZ:Z<2 ^ 32)(w:World):Calls Tryz.prog 96 #[.int .u64 (X:Int),.int .u64 (Y:Int),.int .u64 (Z:Int)] w fun e w'=>e=.returned (.int .u64 ((MAJ X Y Z:Nat):Int))/\w=w':=by
 have H:Aside (X<2 ^ 32/\Y<2 ^ 32/\Z<2 ^ 32):=⟨hX,hY,hZ⟩
 clear hX hY hZ;go_enter Tryz.func96,Tryz.ntmps96;go_wp2;go_loopg [0,1,2,7,8,9] 32 (fun g s0 s1 s2 s7 s8 s9 wx=>∃ (i x y z o p:Nat),i+g=32/\Aside (x=X / 2 ^ i/\y=Y / 2 ^ i/\z=Z / 2 ^ i/\o=(MAJ X Y Z) % 2 ^ i/\p=2 ^ i)/\s0=.int .u64 (x:Int)/\s1=.int .u64 (y:Int)/\s2=.int .u64 (z:Int)/\s7=.int .u64 (o:Int)/\s8=.int .u64 (p:Int)/\s9=.int .i64 i/\wx=w)
 case atStart=>exact⟨0,X,Y,Z,0,1,by omega,⟨by simp,by simp,by simp,by simp[Nat.mod_one],rfl⟩,rfl,rfl,rfl,rfl,rfl,rfl,rfl⟩
 case round=>
  obtain⟨i,x,y,z,o,p,hig,A,rfl,rfl,rfl,rfl,rfl,rfl,rfl⟩:=hrel;cases gk with
  | zero=>
    obtain rfl:i=32:=by omega
    go_wp2;go_ret;have e:o=MAJ X Y Z:=by rw[A.out.2.2.2.1];exact Nat.mod_eq_of_lt (Uf H.out.1 H.out.2.1)
    exact⟨by rw[<-e];rfl,rfl⟩
  | succ g=>
    have hlt:(i:Int)<32:=by omega
    go_wp2;go_roundg g
    case measure=>omega
    case rel=>
     obtain⟨a1,a2,a3,a4,a5⟩:=A.out;have hp:=ZK (i:=i) (by omega);have ho:o<2 ^ i:=by rw[a4];exact Nat.mod_lt _ (Nat.two_pow_pos i)
     have hx:x<2 ^ 32:=by rw[a1];exact Nat.lt_of_le_of_lt (Nat.div_le_self _ _) H.out.1
     have hy:y<2 ^ 32:=by rw[a2];exact Nat.lt_of_le_of_lt (Nat.div_le_self _ _) H.out.2.1
     have hz:z<2 ^ 32:=by rw[a3];exact Nat.lt_of_le_of_lt (Nat.div_le_self _ _) H.out.2.2
     have hpb:p*((x % 2+y % 2+z % 2) / 2)<=p*1:=Nat.mul_le_mul_left p (by omega);refine⟨i+1,x / 2,y / 2,z / 2,o+p*((x % 2+y % 2+z % 2) / 2),2*p,by omega,⟨by rw[a1,yD],by rw[a2,yD],by rw[a3,yD],?_,by rw[a5,Nat.pow_succ];omega⟩,?_,?_,?_,?_,?_,by go_num,rfl⟩
     ·rw[a4,a5]
      exact Zs (by rw[a1,a2,a3];exact z1C X Y Z i)
     ·exact congrArg (Value.int .u64) (zC (k:=x / 2) (by omega))
     ·exact congrArg (Value.int .u64) (zC (k:=y / 2) (by omega))
     ·exact congrArg (Value.int .u64) (zC (k:=z / 2) (by omega))
     ·have e1:IntKind.u64.wrap ((p:Int)*((((x:Int) % 2+(y:Int) % 2+(z:Int) % 2) / 2)))=((p*((x % 2+y % 2+z % 2) / 2):Nat):Int):=zC (Nat.lt_of_le_of_lt hpb (by omega))
      rw[e1];exact congrArg (Value.int .u64) (zC (k:=o+p*((x % 2+y % 2+z % 2) / 2)) (by omega))
     ·exact congrArg (Value.int .u64) (zC (k:=2*p) (by omega))
theorem z2S(X Y Z:Nat)(hX:X<2 ^ 32)(hY:Y<2 ^ 32)(hZ:Z<2 ^ 32)(w:World):Calls Tryz.prog 95 #[.int .u64 (X:Int),.int .u64 (Y:Int),.int .u64 (Z:Int)] w fun e w'=>e=.returned (.int .u64 ((CHO X Y Z:Nat):Int))/\w=w':=by
 have H:Aside (X<2 ^ 32/\Y<2 ^ 32/\Z<2 ^ 32):=⟨hX,hY,hZ⟩
 clear hX hY hZ;go_enter Tryz.func95,Tryz.ntmps95;go_wp2;go_loopg [0,1,2,7,8,9] 32 (fun g s0 s1 s2 s7 s8 s9 wx=>∃ (i x y z o p:Nat),i+g=32/\Aside (x=X / 2 ^ i/\y=Y / 2 ^ i/\z=Z / 2 ^ i/\o=(CHO X Y Z) % 2 ^ i/\p=2 ^ i)/\s0=.int .u64 (x:Int)/\s1=.int .u64 (y:Int)/\s2=.int .u64 (z:Int)/\s7=.int .u64 (o:Int)/\s8=.int .u64 (p:Int)/\s9=.int .i64 i/\wx=w)
 case atStart=>exact⟨0,X,Y,Z,0,1,by omega,⟨by simp,by simp,by simp,by simp[Nat.mod_one],rfl⟩,rfl,rfl,rfl,rfl,rfl,rfl,rfl⟩
 case round=>
  obtain⟨i,x,y,z,o,p,hig,A,rfl,rfl,rfl,rfl,rfl,rfl,rfl⟩:=hrel;cases gk with
  | zero=>
    obtain rfl:i=32:=by omega
    go_wp2;go_ret;have e:o=CHO X Y Z:=by rw[A.out.2.2.2.1];exact Nat.mod_eq_of_lt (Ue H.out.1 H.out.2.2)
    exact⟨by rw[<-e];rfl,rfl⟩
  | succ g=>
    have hlt:(i:Int)<32:=by omega
    cases hb:((x:Int) % 2 == 1) with
    | true=>
      have hb1:x % 2=1:=by have:=eq_of_beq hb;omega
      have HB:Aside (x % 2=1):=hb1;clear hb1;go_wp2;go_roundg g
      case measure=>omega
      case rel=>
       obtain⟨a1,a2,a3,a4,a5⟩:=A.out;have hp:=ZK (i:=i) (by omega);have ho:o<2 ^ i:=by rw[a4];exact Nat.mod_lt _ (Nat.two_pow_pos i)
       have hx:x<2 ^ 32:=by rw[a1];exact Nat.lt_of_le_of_lt (Nat.div_le_self _ _) H.out.1
       have hy:y<2 ^ 32:=by rw[a2];exact Nat.lt_of_le_of_lt (Nat.div_le_self _ _) H.out.2.1
       have hz:z<2 ^ 32:=by rw[a3];exact Nat.lt_of_le_of_lt (Nat.div_le_self _ _) H.out.2.2
       have hpb:p*(y % 2)<=p*1:=Nat.mul_le_mul_left p (by omega);refine⟨i+1,x / 2,y / 2,z / 2,o+p*(y % 2),2*p,by omega,⟨by rw[a1,yD],by rw[a2,yD],by rw[a3,yD],?_,by rw[a5,Nat.pow_succ];omega⟩,?_,?_,?_,?_,?_,by go_num,rfl⟩
       ·rw[a4,a5]
        exact Zs (by have:=uG X Y Z i H.out.1 (by omega);rw[<-this,<-a1,if_pos HB.out,<-a2])
       ·exact congrArg (Value.int .u64) (zC (k:=x / 2) (by omega))
       ·exact congrArg (Value.int .u64) (zC (k:=y / 2) (by omega))
       ·exact congrArg (Value.int .u64) (zC (k:=z / 2) (by omega))
       ·have e1:IntKind.u64.wrap ((p:Int)*((y:Int) % 2))=((p*(y % 2):Nat):Int):=zC (Nat.lt_of_le_of_lt hpb (by omega))
        rw[e1];exact congrArg (Value.int .u64) (zC (k:=o+p*(y % 2)) (by omega))
       ·exact congrArg (Value.int .u64) (zC (k:=2*p) (by omega))
    | false=>
      have hb1:¬ x % 2=1:=by have:=beq_eq_false_iff_ne.1 hb;omega
      have HB:Aside (¬ x % 2=1):=hb1;clear hb1;go_wp2;go_roundg g
      case measure=>omega
      case rel=>
       obtain⟨a1,a2,a3,a4,a5⟩:=A.out;have hp:=ZK (i:=i) (by omega);have ho:o<2 ^ i:=by rw[a4];exact Nat.mod_lt _ (Nat.two_pow_pos i)
       have hx:x<2 ^ 32:=by rw[a1];exact Nat.lt_of_le_of_lt (Nat.div_le_self _ _) H.out.1
       have hy:y<2 ^ 32:=by rw[a2];exact Nat.lt_of_le_of_lt (Nat.div_le_self _ _) H.out.2.1
       have hz:z<2 ^ 32:=by rw[a3];exact Nat.lt_of_le_of_lt (Nat.div_le_self _ _) H.out.2.2
       have hpb:p*(z % 2)<=p*1:=Nat.mul_le_mul_left p (by omega);refine⟨i+1,x / 2,y / 2,z / 2,o+p*(z % 2),2*p,by omega,⟨by rw[a1,yD],by rw[a2,yD],by rw[a3,yD],?_,by rw[a5,Nat.pow_succ];omega⟩,?_,?_,?_,?_,?_,by go_num,rfl⟩
       ·rw[a4,a5]
        exact Zs (by have:=uG X Y Z i H.out.1 (by omega);rw[<-this,<-a1,if_neg HB.out,<-a3])
       ·exact congrArg (Value.int .u64) (zC (k:=x / 2) (by omega))
       ·exact congrArg (Value.int .u64) (zC (k:=y / 2) (by omega))
       ·exact congrArg (Value.int .u64) (zC (k:=z / 2) (by omega))
       ·have e1:IntKind.u64.wrap ((p:Int)*((z:Int) % 2))=((p*(z % 2):Nat):Int):=zC (Nat.lt_of_le_of_lt hpb (by omega))
        rw[e1];exact congrArg (Value.int .u64) (zC (k:=o+p*(z % 2)) (by omega))
       ·exact congrArg (Value.int .u64) (zC (k:=2*p) (by omega))
def zK(l:List Nat):List Value:=l.map fun(x:Nat)=>Value.int .u64 (x:Int)
theorem JT(l:List Nat)(x:Nat):zK (l ++ [x])=zK l ++ [.int .u64 (x:Int)]:=by simp[zK]
theorem xr(l:List Nat)(i:Nat)(h:i<l.length):(zK l)[i]?=some (.int .u64 (l.getD i 0:Nat)):=by simp[zK,h,List.getD_eq_getElem?_getD]
theorem xA:∃ i,Tryz.prog.info? 24=some i/\i.zero=some (.int .u64 0)/\i.size=1/\i.bytes=8:=by
 have h:(Tryz.prog.info? 24).map (fun i=>(i.zero,i.size,i.bytes))=some (some (.int .u64 0),1,8):=by kernel_rfl
 obtain⟨i,hi,h⟩:=Option.map_eq_some_iff.1 h;simp only[Prod.mk.injEq] at h;exact⟨i,hi,h.1,h.2.1,h.2.2⟩
theorem VR{ops:Array Oper}{o:Oper}{a:Act}{K:Act->World->Prop}{Q:Exit->Act->World->Prop}{E:Prop}(w:World)(y:Int)(hgd:o.guard=none)(s x:Operand)
  (ho:o.op=.call {callee:=.builtin .append,args:=#[s,x],argTypes:=#[25,25]})
  (base:Nat) (v:Value) (n:Nat) (xs:List Value) (hs:a.eval s=v) (hown:w.ownsRow base 24 1 v n xs)
  (hx:a.eval x=.slice (some ⟨w.heap.size,0,none⟩) 1 1) (hb:n<=1000) (hbase:base<=w.heap.size)
  (h:∀ g cap w',w'.ownsRow base 24 1 (.slice (some ⟨g,0,none⟩) (n+1) cap) (n+1) (xs ++ [.int .u64 y])->(w.alloc (.cells #[.int .u64 y] 24)).grownBy w' v.ownBlock->g<w'.heap.size->K (a.put o.dst (.slice (some ⟨g,0,none⟩) (n+1) cap)) w'):
  if Region.wanted o (yielded ops a.tmps)=true then Oper.wp Tryz.prog o a (w.alloc (.cells #[.int .u64 y] 24)) K Q else E:=by
 obtain⟨i,hi,hz,hs1,hby⟩:=xA;refine step_append_lies _ hgd s x 25 ho base 24 i (.int .u64 0) 1 8 Tryz.underlying25 hi hz hs1 hby rfl (by decide) v n xs hs (hown.alloc _) ⟨w.heap.size,0,none⟩ 1 1 [.int .u64 y] hx rfl ?_ (fun u hu=>by simp at hu;subst hu;rfl) (by decide) (by simp only[maxLen];omega) (by omega) (by simp;omega) (w.heap.size+1) (by simp) ?_
 ·intro j u hj
  cases j with
  | zero=>
    simp only[List.getElem?_cons_zero,Option.some.injEq] at hj;subst hj;rw[zY,World.cell?_alloc_at _ _ _ _ rfl];rfl
  | succ j=>simp at hj
 ·intro g cap w' h1 h2 _ h4
  exact h g cap w' h1 h2 h4
theorem Zh{W w8:World}{o:Obj}{row:Option Nat}{b i:Nat}(hg:(W.alloc o).grownBy w8 row)(hb:b<W.heap.size)(hr:some b≠row):w8.cell? ⟨b,i,none⟩=W.cell? ⟨b,i,none⟩:=
 (World.cell?_of_block (w:=W.alloc o) (a:=⟨b,i,none⟩) (hg.block b (by simp;omega) hr)).trans (World.cell?_of_block (w:=W) (a:=⟨b,i,none⟩) (Below.heap_alloc W o b hb))
def WL(s:Nat->Nat)(k:Nat):List Nat:=(List.range k).map fun t=>zk s (4*t)
theorem YY(s:Nat->Nat)(k:Nat):(WL s k).length=k:=by simp[WL]
theorem z1D(s:Nat->Nat)(k:Nat):WL s (k+1)=WL s k ++ [zk s (4*k)]:=by simp[WL,List.range_succ]
theorem XY(s:Nat->Nat)(k i:Nat)(h:i<k):(WL s k).getD i 0=zk s (4*i):=by simp[WL,h,List.getD_eq_getElem?_getD]
theorem JU(b n c q:Nat)(s:Nat->Nat)(h8:∀ i,s i<256)(w:World)(hn:n=4*q)(hpos:0<q)(hq:q<=16)(hb:b<w.heap.size)(hc:∀ i,i<n->w.cell? ⟨b,i,none⟩=some (.int .u8 (s i:Nat))):
  Calls Tryz.prog 91 #[.slice (some ⟨b,0,none⟩) n c] w fun e w'=>∃ g cap,e=.returned (.slice (some ⟨g,0,none⟩) q cap)/\w'.ownsRow w.heap.size 24 1 (.slice (some ⟨g,0,none⟩) q cap) q (zK (WL s q))/\g<w'.heap.size/\Below w.heap.size w w':=by
 have H:Aside ((∀ i,s i<256)/\n=4*q/\q<=16/\b<w.heap.size/\∀ i,i<n->w.cell? ⟨b,i,none⟩=some (.int .u8 (s i:Nat))):=⟨h8,hn,hq,hb,hc⟩
 clear h8 hn hq hb hc;go_enter Tryz.func91,Tryz.ntmps91;go_wp2;go_loopg [3,4] q (fun r s3 s4 wx=>∃ (j o:Nat),j+r=q/\s4=.int .i64 o/\Aside (o=4*j/\wx.ownsRow w.heap.size 24 1 s3 j (zK (WL s j))/\Below w.heap.size w wx))
 case atStart=>exact⟨0,0,by omega,rfl,rfl,World.ownsRow_nil _ _ _ _,Below.refl _ _⟩
 case round=>
  obtain⟨j,o,hjr,rfl,A⟩:=hrel;cases gk with
  | zero=>
    obtain rfl:j=q:=by omega
    obtain⟨ho,hown,hbel⟩:=A.out;obtain⟨k1,k2,k3,k4,k5⟩:=H.out;have hlt:¬ (o:Int)+3<(n:Int):=by omega
    have ho64:(o:Int)<=64:=by omega
    obtain⟨g,cap,hv,_,hg⟩:=hown.form hpos;subst hv;have R:Aside (wr.ownsRow w.heap.size 24 1 (.slice (some ⟨g,0,none⟩) j cap) j (zK (WL s j))/\g<wr.heap.size/\Below w.heap.size w wr):=⟨hown,hg,hbel⟩
    clear hown hg hbel A ho k1 k2 k3 k4 k5 H;go_wp2;go_ret;exact⟨g,cap,rfl,R.out.1,R.out.2.1,R.out.2.2⟩
  | succ r=>
    obtain⟨ho,hown,hbel⟩:=A.out;obtain⟨k1,k2,k3,k4,k5⟩:=H.out;have c0:wr.cell? ⟨b,o,none⟩=some (.int .u8 (s o:Nat)):=(hbel.cell (by exact k4)).trans (k5 o (by omega));have c1:wr.cell? ⟨b,o+1,none⟩=some (.int .u8 (s (o+1):Nat)):=(hbel.cell (by exact k4)).trans (k5 (o+1) (by omega));have c2:wr.cell? ⟨b,o+2,none⟩=some (.int .u8 (s (o+2):Nat)):=(hbel.cell (by exact k4)).trans (k5 (o+2) (by omega));have c3:wr.cell? ⟨b,o+3,none⟩=some (.int .u8 (s (o+3):Nat)):=(hbel.cell (by exact k4)).trans (k5 (o+3) (by omega));have W:Aside (s o*16777216+s (o+1)*65536+s (o+2)*256+s (o+3)=zk s (4*j)/\s o<256/\s (o+1)<256/\s (o+2)<256/\s (o+3)<256):=⟨by rw[<-ho];rfl,k1 _,k1 _,k1 _,k1 _⟩
    generalize s o=v0 at *
    generalize s (o+1)=v1 at *
    generalize s (o+2)=v2 at *
    generalize s (o+3)=v3 at *
    obtain⟨o1,ho1⟩:∃ o1,o1=o+1:=⟨_,rfl⟩
    obtain⟨o2,ho2⟩:∃ o2,o2=o+2:=⟨_,rfl⟩
    obtain⟨o3,ho3⟩:∃ o3,o3=o+3:=⟨_,rfl⟩
    rw[<-ho1] at c1;rw[<-ho2] at c2;rw[<-ho3] at c3;have e1:(o:Int)+1=(o1:Int):=by omega
    have e2:(o:Int)+2=(o2:Int):=by omega
    have e3:(o:Int)+3=(o3:Int):=by omega
    have f1:IntKind.i64.wrap (o1:Int)=(o1:Int):=by rw[IntKind.wrap_i64];omega
    have f2:IntKind.i64.wrap (o2:Int)=(o2:Int):=by rw[IntKind.wrap_i64];omega
    have f3:IntKind.i64.wrap (o3:Int)=(o3:Int):=by rw[IntKind.wrap_i64];omega
    have g0:(o:Int)<(n:Int):=by omega
    have g1:(o1:Int)<(n:Int):=by omega
    have g2:(o2:Int)<(n:Int):=by omega
    have g3:(o3:Int)<(n:Int):=by omega
    have m0:=World.new_ne wr ⟨b,o,none⟩ c0;have m1:=World.new_ne wr ⟨b,o1,none⟩ c1;have m2:=World.new_ne wr ⟨b,o2,none⟩ c2;have m3:=World.new_ne wr ⟨b,o3,none⟩ c3;have hbl:b<wr.heap.size:=Nat.lt_of_lt_of_le k4 hbel.size;have hj:j<=1000:=by omega
    have hbw:w.heap.size<=wr.heap.size:=hbel.size;have hblw:b<w.heap.size:=k4;have R:Aside (o=4*j/\wr.ownsRow w.heap.size 24 1 u3 j (zK (WL s j))/\Below w.heap.size w wr/\j+(r+1)=q/\n=4*q/\q<=16):=⟨ho,hown,hbel,hjr,k2,k3⟩
    clear ho hown hbel hjr k1 k2 k3 k4 k5 A ho1 ho2 ho3 H;have hrow:some b≠u3.ownBlock:=fun e=>by have:=(R.out.2.1.lt b e.symm).1;omega
    go_wp2_with fail
    go_region_held3 (fun W:World=>W.cell? ⟨b,o,none⟩=some (.int .u8 (v0:Int))/\W.cell? ⟨b,o1,none⟩=some (.int .u8 (v1:Int))/\W.cell? ⟨b,o2,none⟩=some (.int .u8 (v2:Int))/\W.cell? ⟨b,o3,none⟩=some (.int .u8 (v3:Int))) (first | (refine⟨?_,?_,?_,?_⟩ <;> assumption) | go_keep) (first | (refine VR wr.drew _ rfl (.tmp 12) (.tmp 42) rfl w.heap.size u3 j (zK (WL s j)) rfl (by exact R.out.2.1) rfl hj (by exact hbw) ?_;intro g8 cap8 w8 hown8 hgrow8 hg8;have q0:=(Zh (i:=o) hgrow8 (by exact hbl) hrow).trans c0;have q1:=(Zh (i:=o1) hgrow8 (by exact hbl) hrow).trans c1;have q2:=(Zh (i:=o2) hgrow8 (by exact hbl) hrow).trans c2;have q3:=(Zh (i:=o3) hgrow8 (by exact hbl) hrow).trans c3))
    have hx:IntKind.u64.wrap (IntKind.u64.wrap (IntKind.u64.wrap (IntKind.u64.wrap (IntKind.u64.wrap (IntKind.u64.wrap (IntKind.u64.wrap (v0:Int)*256)+IntKind.u64.wrap (v1:Int))*256)+IntKind.u64.wrap (v2:Int))*256)+IntKind.u64.wrap (v3:Int))=((zk s (4*j):Nat):Int):=by
     obtain⟨w1,w2,w3,w4,w5⟩:=W.out;rw[<-w1];simp only[zh];omega
    rw[hx,<-JT,<-z1D] at hown8;have hb8:Below w.heap.size w w8:=(R.out.2.2.1.drew.alloc hbw _).grown hgrow8 (by simp;omega) (fun k e=>(R.out.2.1.lt k e).1);have T:Aside (w8.ownsRow w.heap.size 24 1 (.slice (some ⟨g8,0,none⟩) (j+1) cap8) (j+1) (zK (WL s (j+1)))/\Below w.heap.size w w8):=⟨hown8,hb8⟩
    have ho64:(o:Int)<64:=by have:=R.out;omega
    clear hown8 hb8 hgrow8 hg8 hx q0 q1 q2 q3 c0 c1 c2 c3 m0 m1 m2 m3 e1 e2 e3 f1 f2 f3 g0 g1 g2 g3;go_wp2;go_roundg r
    case measure=>omega
    case rel=>
     obtain⟨r1,r2,r3,r4,r5,r6⟩:=R.out;exact⟨j+1,o+4,by omega,by go_num,by omega,T.out.1,T.out.2⟩
end HX
end Go.Proofs.YtobaogpomcocpaaGreatDoor
