/- ManyClashes: part 29. -/
import Derived.Laws.StructEq
import Derived.Laws.BytesArg
import Derived.Lib.Bytes
import Derived.Test.YtobaogpomcocpaaGreatDoorManyClashesP28
set_option maxRecDepth 100000
set_option maxHeartbeats 4000000
open Go.RowKit
namespace Go.Proofs.YtobaogpomcocpaaGreatDoor
namespace HX
theorem kc(k:IntKind)(n o m:Nat)(f:Nat->Nat)(h:o+m<=n):(UARR k n f).extract o (o+m)=UARR k m fun i=>f (o+i):=by
 apply Array.ext_getElem?;intro i;rw[Array.getElem?_extract];by_cases hi:i<m
 ·rw[if_pos (by rw[zg];omega),zt _ _ _ _ hi,zt _ _ _ _ (by omega)]
 ·rw[if_neg (by omega),Array.getElem?_eq_none (by rw[zg];omega)]
theorem Kx(d n:Nat)(t:TypeId)(hu:Tryz.prog.underlying t=some (.array n 5))(F G:Nat->Nat)(w:World):(Op.equalIn (d+2) t (.agg (UARR .u8 n F)) (.agg (UARR .u8 n G))).run Tryz.prog w=.ok ((List.range n).all fun i=>F i == G i) w:=by
 obtain⟨i8,hi,_⟩:=Option.map_eq_some_iff.1 zU;rw[run_equalIn_array (P:=Tryz.prog) w (d+1) (UARR .u8 n F) (UARR .u8 n G) hu hi];have hc:Tryz.prog.cellsOf 5=1:=by kernel_rfl
 rw[hc];exact Xb d n F G w _ (fun i hi=>by simpa using hi)
theorem vw(t:TypeId)(n o m:Nat)(F:Nat->Nat)(w:World)(ha:(isAgg t).run Tryz.prog w=.ok true w)(hs:(Go.sizeOf t).run Tryz.prog w=.ok m w)(h:o+m<=n):(part t (UARR .u8 n F) o).run Tryz.prog w=.ok (.agg (UARR .u8 m fun i=>F (o+i))) w:=by
 unfold part;simp[ha,hs,kc _ _ _ _ _ h]
theorem Vb(a b:Nat)(p:Nat->Bool):(List.range (a+b)).all p=((List.range a).all p && (List.range b).all fun i=>p (a+i)):=by
 rw[List.range_add,List.all_append,List.all_map];rfl
theorem Xt(w:World):(isAgg 23).run Tryz.prog w=.ok true w:=by simp[go_sem]
theorem Y5(w:World):(Go.sizeOf 23).run Tryz.prog w=.ok 32 w:=by simp[go_sem]
theorem Vc(d n:Nat)(F G:Nat->Nat)(w:World):∀ (fs:List Field) (ps:List (TypeId × Nat × Nat)),fs.map (fun f=>(f.name == "_",f.type,f.offset))=ps.map (fun p=>(false,p.1,p.2.1))->
   (∀ p∈ps,(isAgg p.1).run Tryz.prog w=.ok true w/\(Go.sizeOf p.1).run Tryz.prog w=.ok p.2.2 w/\Tryz.prog.underlying p.1=some (.array p.2.2 5)/\p.2.1+p.2.2<=n)->
   (Op.eqFields (d+2) (UARR .u8 n F) (UARR .u8 n G) fs).run Tryz.prog w=.ok (ps.all fun p=>(List.range p.2.2).all fun i=>F (p.2.1+i) == G (p.2.1+i)) w
 | [],[],_,_=>by simp[Op.eqFields]
 | f :: fs,p :: ps,h,hp=>by
   simp only[List.map_cons,List.cons.injEq,Prod.mk.injEq] at h;obtain⟨⟨h1,h2,h3⟩,h4⟩:=h;obtain⟨ha,hs,hu,hle⟩:=hp p (by simp);have ih:=Vc d n F G w fs ps h4 (fun q hq=>hp q (by simp[hq]));have hn:f.name ≠ "_":=by simpa using h1
   have q1:=vw p.1 n p.2.1 p.2.2 F w ha hs hle;have q2:=vw p.1 n p.2.1 p.2.2 G w ha hs hle;have q3:=Kx d p.2.2 p.1 hu (fun i=>F (p.2.1+i)) (fun i=>G (p.2.1+i)) w;rw[Op.eqFields,if_pos hn,h2,h3];simp only[Sem.run_bind,q1,q2,q3,Result.andThen_ok];cases hb:(List.range p.2.2).all fun i=>F (p.2.1+i) == G (p.2.1+i)
   ·simp[hb]
   ·simp only[Bool.not_true,Bool.false_eq_true,if_false,ih,List.all_cons,hb,Bool.true_and]
 | [],_ :: _,h,_=>by simp at h
 | _ :: _,[],h,_=>by simp at h
theorem Jv{w:World}{a:Option Addr}{n:Nat}{l:List Nat}(h:Text w a n l)(c:Nat):(convert 27 9 (.slice a n c)).run Tryz.prog w=.ok (.string (strOfNums (INTS l))) w:=by
 rcases Nat.eq_zero_or_pos n with hn | hn
 ·subst hn
  obtain rfl:l=[]:=List.eq_nil_of_length_eq_zero h.1;rw[run_convert_bytes_string w 27 9 5 _ 0 c Tryz.underlying27 Tryz.underlying5 Tryz.underlying9];cases a <;> simp[Conv.bytesToString,loadCells]
  all_goals rfl
 ·obtain⟨b,o,rfl, -,hc⟩:=h.2.1 hn
  exact run_convert_bytes_arg (P:=Tryz.prog) w 27 5 Tryz.underlying27 Tryz.underlying5 b o n c (INTS l) (by simp[INTS,h.1]) (fun i hi=>by rw[hc i hi];simp[INTS,List.getD_eq_getElem?_getD];cases l[i]? <;> rfl) 9 Tryz.underlying9
theorem mZ{l k:List Nat}(hl:Small8 l)(hk:Small8 k):((strOfNums (INTS l)).toList == (strOfNums (INTS k)).toList)=decide (l=k):=by
 rw[Lib.strOfNums_toList,Lib.strOfNums_toList]
 have key:∀ (l k:List Nat),Small8 l->Small8 k->Lib.bytesOf (INTS l)=Lib.bytesOf (INTS k)->l=k:=by
  intro l;induction l with
  | nil=>intro k _ _ h;cases k with | nil=>rfl | cons y k=>simp[Lib.bytesOf,INTS] at h
  | cons x l ih=>
    intro k h1 h2 h;cases k with
    | nil=>simp[Lib.bytesOf,INTS] at h
    | cons y k=>
      simp only[Lib.bytesOf,INTS,List.map_cons,List.cons.injEq] at h;have hx:=h1 x (by simp);have hy:=h2 y (by simp)
      have e:x=y:=by
       have:=congrArg UInt8.toNat h.1;simp at this;omega
      rw[e,ih k (fun z hz=>h1 z (by simp[hz])) (fun z hz=>h2 z (by simp[hz])) h.2]
 by_cases e:l=k
 ·subst e;simp
 ·have:Lib.bytesOf (INTS l)≠Lib.bytesOf (INTS k):=fun h=>e (key l k hl hk h)
  simp[e,this]
theorem Yn(a:Option Addr)(n c:Nat)(l:List Nat)(b:Option Addr)(m c':Nat)(k:List Nat)(w:World)(h1:Text w a n l)(h2:Text w b m k):Calls Tryz.prog 30 #[.slice a n c,.slice b m c'] w fun e w'=>e=.returned (.bool (decide (l=k)))/\w=w':=by
 have q1:=Jv h1 c;have q2:=Jv h2 c';have q3:=mZ h1.2.2 h2.2.2;clear h1 h2;generalize strOfNums (INTS l)=S at *
 generalize strOfNums (INTS k)=T at *
 go_enter Tryz.func30,Tryz.ntmps30;go_wp2;go_ret;exact⟨rfl,rfl⟩
end HX
theorem z2X(d:Int)(W:World)(g:Nat)(a:Option Addr)(n c:Nat)(l:List Nat)(hg:Has W g #[.slice a n c] 27)(hT:HX.Text W a n l)(hc:n<=c)(hx:∀ x,a=some x->x.block<W.heap.size)(hn:n<2 ^ 60)(h:HX.Tabled W):Calls Tryz.prog 31 #[.int .i64 d,.slice (some ⟨g,0,none⟩) 1 1] W fun e w'=>e=.returned (.agg (za (HSHT d l)).toArray)/\Below W.heap.size W w':=
 (HX.sum9 d W g a n c l hg hT hc hx hn h).mono fun e w' ⟨h1,h2⟩=>⟨by rw[h1,xq];rfl,h2⟩
theorem z1T{w:World}{b g:Nat}{d:Int}{v2 v3 v4 x y:Value}(h:Has w b #[.int .i64 d,.map (some g),v2,v3,v4] 88):((w.setCell ⟨b,2,none⟩ x).setCell ⟨b,3,none⟩ y).setCell ⟨b,4,none⟩ (.bool true)=w.setRow b #[.int .i64 d,.map (some g),x,y,.bool true]:=by
 have h1:=h.set 2 x;have h2:=h1.set 3 y;rw[setCell_eq_setRow _ b 4 _ _ _ _ h2,setCell_eq_setRow _ b 3 _ _ _ _ h1,setCell_eq_setRow _ b 2 _ _ _ _ h,setRow_setRow,setRow_setRow];rfl
theorem z0H(d:Int)(w:World)(base top b g:Nat)(ok:Nat->Prop)(T:List (List Nat))(hM:METC w base top ok b g d T)(hT:T.length<=100000)(gt c:Nat)(t:List Nat)(ho:OWNT w base gt c t)(htop:top<=gt)(hok:ok gt)(hX:HX.Tabled w):
  Calls Tryz.prog 82 #[.pointer (some ⟨b,0,none⟩),.slice (some ⟨gt,0,none⟩) t.length c] w fun e w'=>e=.returned (.agg (za (HSHT d t)).toArray)/\METC w' base w.heap.size ok b g d (t :: T)/\STEPM b g w w':=by
 obtain⟨n,hn⟩:∃ n,t.length=n:=⟨_,rfl⟩
 have iH:=jI d t;have R0:Aside (Below w.heap.size w (w.alloc (.cells ZARR 23))/\Has (w.alloc (.cells ZARR 23)) w.heap.size (za ZND).toArray 23):=⟨(Below.refl _ _).alloc (Nat.le_refl _) _,by rw[zQ];exact Has.new _ _ _⟩
 have HA:Aside (METC w base top ok b g d T/\T.length<=100000/\OWNT w base gt c t/\(top<=gt/\ok gt)/\HX.Tabled w/\IsH (HSHT d t)/\t.length=n):=⟨hM,hT,ho,⟨htop,hok⟩,hX,iH,hn⟩
 obtain⟨a1,n1,c1,a2,n2,c2,h1, -⟩:=hM.blk;rw[hn];obtain⟨H,hH⟩:∃ H,HSHT d t=H:=⟨_,rfl⟩
 have lH:H.length=32:=by rw[<-hH];exact iH.1
 have x0:(w.alloc (.cells ZARR 23)).cell? ⟨b,0,none⟩=some (.int .i64 d):=(h1.alloc _).cell 0;rw[hH];clear hM hT ho htop hok hX iH hn h1;go_enter Tryz.func82,Tryz.ntmps82;go_upto_region 1 with fail
 rw[show (#[.int .u8 0,.int .u8 0,.int .u8 0,.int .u8 0,.int .u8 0,.int .u8 0,.int .u8 0,.int .u8 0,.int .u8 0,.int .u8 0,.int .u8 0,.int .u8 0,.int .u8 0,.int .u8 0,.int .u8 0,.int .u8 0,.int .u8 0,.int .u8 0,.int .u8 0,.int .u8 0,.int .u8 0,.int .u8 0,.int .u8 0,.int .u8 0,.int .u8 0,.int .u8 0,.int .u8 0,.int .u8 0,.int .u8 0,.int .u8 0,.int .u8 0,.int .u8 0]:Array Value)=ZARR from rfl];generalize w.alloc (.cells ZARR 23)=W0 at *
 have cs:Calls Tryz.prog 31 #[.int .i64 d,.slice (some ⟨W0.heap.size,0,none⟩) 1 1] (W0.alloc (.cells #[.slice (some ⟨gt,0,none⟩) n c] 27)) fun e w'=>e=.returned (.agg (za H).toArray)/\Below (W0.alloc (.cells #[.slice (some ⟨gt,0,none⟩) n c] 27)).heap.size (W0.alloc (.cells #[.slice (some ⟨gt,0,none⟩) n c] 27)) w':=by
  have hb1:Below w.heap.size w (W0.alloc (.cells #[.slice (some ⟨gt,0,none⟩) n c] 27)):=R0.out.1.alloc R0.out.1.size _;have ho:=HA.out.2.2.1;have hh:=HA.out.2.2.2.2.2.2;have ht:=ho.text;rw[hh] at ht;have hcp:=ho.cap;rw[hh] at hcp;have k:=z2X d (W0.alloc (.cells #[.slice (some ⟨gt,0,none⟩) n c] 27)) W0.heap.size (some ⟨gt,0,none⟩) n c t (Has.new _ _ _) (ht.below hb1) hcp (fun x e=>by cases e;exact Nat.lt_of_lt_of_le ho.lt.2 hb1.size) (by have:=ho.2.2.2;omega) (HA.out.2.2.2.2.1.below hb1);rw[hH] at k;exact k
 go_wp2_with fail
 refine cs.mono ?_;rintro e w1 ⟨rfl,hb1⟩;clear cs x0
 go_upto_region 2 with (first
  | (refine wpList_store_row rfl 23 (.tmp 5) (.tmp 14) rfl _ _ rfl rfl 23 _ (Has.new w1 _ _) (zd lH) (by simp[za,lH]) (zx H) ?_;rw[World.setRow_alloc_new])
  | fail)
 obtain⟨w2,hw2⟩:∃ w2,w1.alloc (.cells (za H).toArray 23)=w2:=⟨_,rfl⟩
 obtain⟨bh,hbh⟩:∃ bh,w1.heap.size=bh:=⟨_,rfl⟩
 rw[hw2,hbh];have hb2:Below W0.heap.size W0 w2:=by rw[<-hw2];exact(((Below.refl _ _).alloc (Nat.le_refl _) _).trans (hb1.mono (by simp))).alloc (by have:=hb1.size;simp at this;omega) _
 have kh:Has w2 bh (za H).toArray 23:=by rw[<-hw2,<-hbh];exact Has.new _ _ _
 have hbw:Below w.heap.size w w2:=R0.out.1.trans (hb2.mono R0.out.1.size);have kz:Has w2 w.heap.size (za ZND).toArray 23:=R0.out.2.keep hb2;have hM2:=HA.out.1.below hbw;have ho2:OWNT w2 base gt c t:=HA.out.2.2.1.at (hbw.block _ HA.out.2.2.1.lt.2)
 have hbz:w.heap.size<bh:=by have:=R0.out.2.lt;have:=hb1.size;simp at this;omega
 have iH:IsH H:=by rw[<-hH];exact HA.out.2.2.2.2.2.1
 have hM2':=hM2;have htp:=hM2.htop;have hbb:=hM2.hb;have hgg:=hM2.hg;have htw:=HA.out.1.htop;have R2:Aside (Below w.heap.size w w2/\Has w2 bh (za H).toArray 23/\Has w2 w.heap.size (za ZND).toArray 23/\METC w2 base top ok b g d T/\OWNT w2 base gt c t/\w.heap.size<bh/\b<w.heap.size/\g<w.heap.size/\b≠g):=⟨hbw,kh,kz,hM2,ho2,hbz,by omega,by omega,hM2.ne⟩
 obtain⟨a3,n3,c3,a4,n4,c4,h3, -⟩:=hM2.blk;have y1:w2.cell? ⟨b,1,none⟩=some (.map (some g)):=h3.cell 1;clear hw2 hbh hb1 hb2 kh hbw kz hbz hM2 htp hbb hgg htw R0
 have fin:∀ (W:World),Has W bh (za H).toArray 23->Has W w.heap.size (za ZND).toArray 23->METC W base w.heap.size ok b g d (t :: T)->STEPM b g w W->METC (W.setRow w.heap.size (za H).toArray) base w.heap.size ok b g d (t :: T)/\STEPM b g w (W.setRow w.heap.size (za H).toArray)/\Has (W.setRow w.heap.size (za H).toArray) w.heap.size (za H).toArray 23:=fun W k1 k2 k3 k4=>
  ⟨k3.keep (fun k hk=>setRow_other W w.heap.size k _ (by omega)) (Nat.le_refl _) (by simpa using k3.htop),⟨k4.os,k4.tape,k4.output,by simpa using k4.size,fun k q1 q2 q3=>(setRow_other W w.heap.size k _ (by omega)).trans (k4.block k q1 q2 q3)⟩,k2.row _⟩
 have FIN:Aside (∀ (W:World),Has W bh (za H).toArray 23->Has W w.heap.size (za ZND).toArray 23->METC W base w.heap.size ok b g d (t :: T)->STEPM b g w W->METC (W.setRow w.heap.size (za H).toArray) base w.heap.size ok b g d (t :: T)/\STEPM b g w (W.setRow w.heap.size (za H).toArray)/\Has (W.setRow w.heap.size (za H).toArray) w.heap.size (za H).toArray 23):=fin;clear fin;have hdr:METC w2.drew base top ok b g d T:=hM2'.keep (w':=w2.drew) (fun _ _=>rfl) (Nat.le_refl _) hM2'.htop;rcases hdr.look iH with ⟨gs,cs,s,f1,f2,f3,f4,f5,f6⟩ | ⟨f1,v,f6⟩
 ·
  refine Ur w2 b g bh n c (some ⟨gt,0,none⟩) H lH _ _ (fun W=>W=w2.drew) rfl (fun W e=>by subst e;exact⟨y1,(World.rangeAt_drew _ _ _ _).2 (yT R2.out.2.1),f6⟩) (fun _ _ _ _ _ h=>h) ?_;intro W hWe;dsimp only;have kh:Has W bh (za H).toArray 23:=by rw[hWe];exact R2.out.2.1
  have kz:Has W w.heap.size (za ZND).toArray 23:=by rw[hWe];exact R2.out.2.2.1
  have hb2:Below w.heap.size w W:=by rw[hWe];exact R2.out.1.drew
  have ho3:OWNT W base gt c t:=by rw[hWe];exact R2.out.2.2.2.2.1.at rfl
  have hf2:OWNT W base gs cs s:=by rw[hWe];exact f2
  have hdw:METC W base top ok b g d T:=by rw[hWe];exact hdr
  clear hdr hWe;have hdr:=hdw;clear hdw;have cq:=HX.Yn (some ⟨gs,0,none⟩) s.length cs s (some ⟨gt,0,none⟩) n c t W hf2.text (by have:=ho3.text;rw[HA.out.2.2.2.2.2.2] at this;exact this);have F:Aside (FST d T H=some s/\OWNT W base gs cs s/\(gs<top/\ok gs)/\gs≠b/\gs≠g):=⟨f1,hf2,f3,f4,f5⟩
  obtain⟨ns,hns⟩:∃ ns,s.length=ns:=⟨_,rfl⟩
  rw[hns] at cq ⊢;clear f1 f2 f3 f4 f5 f6 y1 hM2' ho2 hf2 h3;by_cases est:s=t
  ·rw[decide_eq_true est] at cq
   go_wp2_with fail
   refine cq.mono ?_;rintro e w5 ⟨rfl,rfl⟩
   go_wp2_with (first
    | (refine wpList_load_row rfl 23 (.tmp 5) rfl bh rfl 23 (za H).toArray (0,0) _ kh Tryz.underlying23 rfl (zd lH) ?_)
    | (refine wpList_store_row rfl 23 (.tmp 4) (.tmp 45) rfl _ _ rfl rfl 23 _ kz (zd lH) (by simp[za,lH];rfl) (zx H) ?_)
    | fail)
   have hm:METC W base w.heap.size ok b g d (t :: T):=hdr.again (by rw[hH,F.out.1,est]) HA.out.1.htop hb2.size;obtain⟨q1,q2,q3⟩:=FIN.out W kh kz hm (STEPM.of_below hb2);refine bodyPost_ret (v:=.agg (za H).toArray) (je rfl _ _ w.heap.size 23 _ (0,0) _ _ rfl q3 Tryz.underlying23 (zd lH)) rfl ⟨rfl,q1,q2⟩
  ·rw[decide_eq_false est] at cq
   obtain⟨a5,n5,c5,a6,n6,c6,h5, -⟩:=hdr.blk
   have hm:METC (W.setRow b #[.int .i64 d,.map (some g),.slice (some ⟨gs,0,none⟩) ns cs,.slice (some ⟨gt,0,none⟩) n c,.bool true]) base w.heap.size ok b g d (t :: T):=by
    have:=hdr.found (top':=w.heap.size) F.out.2.1 ho3 est (by rw[hH,F.out.1]) F.out.2.2.1 F.out.2.2.2.1 F.out.2.2.2.2 HA.out.2.2.2.1.1 HA.out.2.2.2.1.2 HA.out.2.2.1.lt.2 hb2.size;rw[hns,HA.out.2.2.2.2.2.2] at this;exact this
   have em:=z1T (x:=.slice (some ⟨gs,0,none⟩) ns cs) (y:=.slice (some ⟨gt,0,none⟩) n c) h5;have sm:STEPM b g w (W.setRow b #[.int .i64 d,.map (some g),.slice (some ⟨gs,0,none⟩) ns cs,.slice (some ⟨gt,0,none⟩) n c,.bool true]):=(STEPM.of_below hb2).trans (STEPM.setRow _ _);have x2:W.cell? ⟨b,2,none⟩=some (.slice a5 n5 c5):=h5.cell 2;have x3:W.cell? ⟨b,3,none⟩=some (.slice a6 n6 c6):=h5.cell 3;have x4:W.cell? ⟨b,4,none⟩=some (.bool (CLS d T).isSome):=h5.cell 4;have z2:=h5.frozen 2;have z3:=h5.frozen 3;have z4:=h5.frozen 4;have kh6:Has (W.setRow b #[.int .i64 d,.map (some g),.slice (some ⟨gs,0,none⟩) ns cs,.slice (some ⟨gt,0,none⟩) n c,.bool true]) bh (za H).toArray 23:=kh.row_other (by have:=R2.out.2.2.2.2.2;omega) _;have kz6:Has (W.setRow b #[.int .i64 d,.map (some g),.slice (some ⟨gs,0,none⟩) ns cs,.slice (some ⟨gt,0,none⟩) n c,.bool true]) w.heap.size (za ZND).toArray 23:=kz.row_other (by have:=R2.out.2.2.2.2.2;omega) _;clear h5 kh kz hdr;go_wp2_with fail
   refine cq.mono ?_;rintro e w5 ⟨rfl,rfl⟩;clear cq;go_upto_region 7 with fail
   obtain⟨w6,hw6⟩:∃ w6,W.setRow b #[.int .i64 d,.map (some g),.slice (some ⟨gs,0,none⟩) ns cs,.slice (some ⟨gt,0,none⟩) n c,.bool true]=w6:=⟨_,rfl⟩
   rw[hw6] at hm sm kh6 kz6 ⊢;clear hw6 em x2 x3 x4 z2 z3 z4
   go_wp2_with (first
    | (refine wpList_load_row rfl 23 (.tmp 5) rfl bh rfl 23 (za H).toArray (0,0) _ kh6 Tryz.underlying23 rfl (zd lH) ?_)
    | (refine wpList_store_row rfl 23 (.tmp 4) (.tmp 45) rfl _ _ rfl rfl 23 _ kz6 (zd lH) (by simp[za,lH];rfl) (zx H) ?_)
    | fail)
   obtain⟨q1,q2,q3⟩:=FIN.out w6 kh6 kz6 hm sm;refine bodyPost_ret (v:=.agg (za H).toArray) (je rfl _ _ w.heap.size 23 _ (0,0) _ _ rfl q3 Tryz.underlying23 (zd lH)) rfl ⟨rfl,q1,q2⟩
 ·
  refine Ur w2 b g bh n c (some ⟨gt,0,none⟩) H lH _ _ (fun W=>W=w2.drew) rfl (fun W e=>by subst e;exact⟨y1,(World.rangeAt_drew _ _ _ _).2 (yT R2.out.2.1),f6⟩) (fun _ _ _ _ _ h=>h) ?_;rintro W rfl;dsimp only;have hU:=(METC.keep (w':=w2.drew.drew) hdr (fun _ _=>rfl) (Nat.le_refl _) hdr.htop).store (top':=w.heap.size) HA.out.2.1 (R2.out.2.2.2.2.1.at (w':=w2.drew.drew) rfl) HA.out.2.2.2.1.1 HA.out.2.2.2.1.2 (by rw[hH,f1]) HA.out.2.2.1.lt.2 (by have:=R2.out.1.size;exact this);rw[hH,HA.out.2.2.2.2.2.2] at hU;obtain⟨w6,u1,u2,u3,u4⟩:=hU;have hbhs:bh<w2.drew.drew.heap.size:=R2.out.2.1.lt;have hne:=R2.out.2.2.2.2.2;have hzs:w.heap.size<w2.drew.drew.heap.size:=R2.out.2.2.1.lt;have kh6:Has w6 bh (za H).toArray 23:=(u4 bh hbhs (by omega)).trans R2.out.2.1;have kz6:Has w6 w.heap.size (za ZND).toArray 23:=(u4 _ hzs (by omega)).trans R2.out.2.2.1;have y6:w6.cell? ⟨b,1,none⟩=some (.map (some g)):=(World.cell?_of_block (w:=w2.drew.drew) (by exact u4 b (by omega) hne.2.2.2)).trans y1;have sm:STEPM b g w w6:=(STEPM.of_below R2.out.1.drew.drew).trans u3;go_upto_region 4 with fail
  refine z2W w2.drew b g bh n c (some ⟨gt,0,none⟩) H lH (fun W=>W=w2.drew.drew) (fun W=>W=w6) rfl (fun W e=>by subst e;exact⟨y1,(World.rangeAt_drew _ _ _ _).2 ((World.rangeAt_drew _ _ _ _).2 (yT R2.out.2.1))⟩) (fun W e=>by subst e;exact⟨y6,yT kh6⟩) (fun W e=>by subst e;exact⟨w6,u1,rfl⟩) (fun _ _ _ _ _ h=>h) ?_;rintro W rfl;dsimp only;clear u1 u4 y6 y1 hne hzs hbhs f6 hdr hM2' h3
  go_wp2_with (first
   | (refine wpList_load_row rfl 23 (.tmp 5) rfl bh rfl 23 (za H).toArray (0,0) _ kh6 Tryz.underlying23 rfl (zd lH) ?_)
   | (refine wpList_store_row rfl 23 (.tmp 4) (.tmp 45) rfl _ _ rfl rfl 23 _ kz6 (zd lH) (by simp[za,lH];rfl) (zx H) ?_)
   | fail)
  obtain⟨q1,q2,q3⟩:=FIN.out W kh6 kz6 u2 sm;refine bodyPost_ret (v:=.agg (za H).toArray) (je rfl _ _ w.heap.size 23 _ (0,0) _ _ rfl q3 Tryz.underlying23 (zd lH)) rfl ⟨rfl,q1,q2⟩
end Go.Proofs.YtobaogpomcocpaaGreatDoor
namespace Go.Proofs.YtobaogpomcocpaaGreatDoor
open Go.Shelf
attribute [local go_sem] Oper.semAt_some
def BCK(m:Nat)(hm:0<m)(j:Nat):Fin m:=⟨m - 1 - j,by omega⟩
def Yk(l:List Int)(x:Nat):Array Value:=#[.int .i64 (x:Int),.agg (za (HSH l x)).toArray]
theorem yw{s:Sem Value}{w w':World}{v:Value}(h:s.run Tryz.prog w=.ok v w'):(do pure (Next.value (<-s)):Sem Next).run Tryz.prog w=.ok (.value v) w':=by
 simp[h]
theorem Vd{s:Sem Unit}{w w':World}(h:s.run Tryz.prog w=.ok () w'):(do s;pure Next.skip:Sem Next).run Tryz.prog w=.ok .skip w':=by
 simp[h]
theorem Jj{F:Fence}{n:Nat}{ops:Array Oper}{rest:List Oper}{o:Oper}{a:Act}{w:World}{Q:Exit->Act->World->Prop}(hg:o.guard=none)(ty:TypeId)(x:Operand)(ho:o.op=.load ty x)(b k:Nat)(hx:a.eval x=.pointer (some ⟨b,k,none⟩))(h:List Int)(d:TypeDesc)
  (hc:w.rangeAt b k (za h))(hu:Tryz.prog.underlying ty=some d)(hd:d.isRow=true)(hi:(Tryz.prog.info? ty).map (·.size)=some (za h).length)(hh:wpListIn F n Tryz.prog ops Q rest (a.put o.dst (.agg (za h).toArray)) w):wpListIn F n Tryz.prog ops Q (o :: rest) a w:=by
 refine wpListIn_plain hg fun K hK=>⟨fun f hf=>(by simp[Oper.about,ho] at hf),?_⟩
 rw[Oper.semAt_eq _ _ _ (by rw[ho];intro c h;cases h)]
 have e:(execOp a.eval o).run Tryz.prog w=.ok (.value (.agg (za h).toArray)) w:=by
  unfold execOp;rw[ho];simp only[hx];exact yw (run_loadAt_mid (P:=Tryz.prog) w b k ty _ d hc hu hd hi)
 rw[e];exact hK _ _ hh
theorem UL(F:Fence)(n:Nat)(hF:F.fn 117)(hro:F.round=none)(hn:1<=n)(y Bs b o len cap:Nat)(l:List Int)(hl:l.length=32*len)(hlen:0<len)(hreach:len<=1000)(J Jx:List (Fin len)->World->Prop)(KB2:World->World->Prop)(hrefl:∀ W,KB2 W W)(htr:∀ {A B C:World},KB2 A B->KB2 B C->KB2 A C)(W:World)
    (hkb:∀ A,KB2 W A->A.cell? ⟨Bs,0,none⟩=some (.slice (some ⟨b,o,none⟩) len cap)/\∀ j,j<len->A.rangeAt b (o+j*32) (za (HSH l j)))
    (hY:∀ pre x W,J pre W->pre.length<len->YieldAt F (n - 1) Tryz.prog y (Yk l x.val) W fun e W'=>
      (e=.returned (.bool true)/\J (pre ++ [x]) W'/\KB2 W W')\/(e=.returned (.bool false)/\Jx (pre ++ [x]) W'))
    (h0:J [] W):
    CallsIn F n Tryz.prog 117 #[.func (.yield y) #[] #[],.pointer (some ⟨Bs,0,none⟩)] W fun e W'=>(∃ v,e=.returned v)/\
      ((∃ ys,ys=UPTO (BCK len hlen) len/\J ys W')\/(∃ pre,(∃ k,k<=len/\pre=UPTO (BCK len hlen) k)/\Jx pre W')):=by
  refine callsIn_of_wp Tryz.func117 rfl hF ?_ hro;simp only[Tryz.ntmps117,List.size_toArray,List.length_cons,List.length_nil,Nat.reduceAdd,Nat.reduceSub,Array.replicate_succ,Array.replicate_zero,List.push_toArray,List.append_toArray,List.nil_append,List.cons_append];have e1:wrap64 ((len:Int) - 1)=(len:Int) - 1:=by unfold wrap64;omega
  have hc0:=(hkb W (hrefl W)).1;gi_wp2
  clear hc0
  gi_loopw [3] (fun i wr=>∃ k:Nat,k<=len/\i=.int .i64 ((len:Int) - 1 - (k:Int))/\J (UPTO (BCK len hlen) k) wr/\KB2 W wr)
    (fun i _=>(intOf i+1).toNat)
  case atStart=>exact⟨0,Nat.zero_le _,by simp,h0,hrefl W⟩
  case round=>
    obtain⟨k,hk,rfl,hJs,hnx⟩:=hrel;by_cases hlt:k<len
    · obtain⟨j,hj⟩:∃ j:Nat,(len:Int) - 1 - (k:Int)=(j:Int):=⟨len - 1 - k,by omega⟩
      have hjl:j<len:=by omega
      have hbk:(BCK len hlen k).val=j:=by
        unfold BCK;dsimp only;omega
      obtain⟨hcs,hcx⟩:=hkb wr hnx;have hcx:=hcx j hjl;have hl32:=yq hl hjl;obtain⟨fn,tmps,assign,body,hy,hR⟩:=hY _ (BCK len hlen k) wr hJs (by rw[Yt];exact hlt);rw[hbk] at hy;unfold Yk at hy;generalize HSH l j=L at *
      rw[hj];have e2:wrap64 ((j:Int) - 1)=(j:Int) - 1:=by unfold wrap64;omega
      have hJ':Aside ((len:Int) - 1 - (k:Int)=(j:Int)):=hj;have hjl':(j:Int)<(len:Int):=by omega
      have HK:Aside (k+1<=len):=hlt;clear hj hlt hk hl hkb hY;gi_wp2_with (first | (refine Jj rfl 23 (.tmp 15) rfl b (o+j*32) rfl L _ hcx Tryz.underlying23 rfl (zo hl32) ?_) | fail)
      refine hR.mono ?_;rintro e W3 (⟨rfl,hJ3,hk3⟩ | ⟨rfl,hJx3⟩)
      · gi_wp2
        go_roundw
        case rel=>exact⟨k+1,HK.out,by have:=hJ'.out;congr 1;omega,by rw[qC];exact hJ3,htr hnx hk3⟩
        case measure=>simp[intOf]
      · gi_wp2
        refine bodyPost_ret (results_none rfl _ _ _) rfl ?_;exact⟨⟨_,rfl⟩,.inr ⟨_,⟨k+1,HK.out,by rw[qC]⟩,hJx3⟩⟩
    · obtain rfl:k=len:=by omega
      rw[show (k:Int) - 1 - (k:Int) = -1 by omega];clear hY hkb;gi_wp2
      go_end0
      exact⟨⟨_,rfl⟩,.inl ⟨_,rfl,hJs⟩⟩
theorem kd(F:Fence)(n:Nat)(hF:F.fn 81)(hro:F.round=none)(a:Option Addr)(len cap:Nat)(w:World):
  CallsIn F n Tryz.prog 81 #[.slice a len cap] w fun e w'=>e=.returned (.func (.func 117) #[] #[.pointer (some ⟨w.heap.size,0,none⟩)])/\w'=w.alloc (.cells #[.slice a len cap] 26):=by
 refine callsIn_of_wp Tryz.func81 rfl hF ?_ hro;simp only[Tryz.ntmps81,List.size_toArray,List.length_cons,List.length_nil,Nat.reduceAdd,Nat.reduceSub,Array.replicate_succ,Array.replicate_zero,List.push_toArray,List.append_toArray,List.nil_append,List.cons_append];gi_wp2
 go_ret;exact⟨rfl,rfl⟩
def KBH(Bs b:Nat)(A B:World):Prop:=B.heap[Bs]?=A.heap[Bs]?/\B.heap[b]?=A.heap[b]?
theorem KBH.t{Bs b:Nat}{A B C:World}(h:KBH Bs b A B)(k:KBH Bs b B C):KBH Bs b A C:=⟨k.1.trans h.1,k.2.trans h.2⟩
theorem KBH.b{Bs b:Nat}{w:World}(hB:Bs<w.heap.size)(hb:b<w.heap.size)(W:World)(l:Nat)(o o':Obj)(hl:w.heap.size<=l)(h:W.heap[l]?=some o)(h1:o.isCells=false)(h2:o.isWalk=false):KBH Bs b W (W.putObj l o'):=
 ⟨(belowK_b (Nat.le_refl w.heap.size) W l o o' hl h h1 h2).block Bs hB,(belowK_b (Nat.le_refl w.heap.size) W l o o' hl h h1 h2).block b hb⟩
theorem Uu(F:Fence)(n:Nat)(hF:F.fn 117)(hro:F.round=none)(hn:1<=n)(Bs b o len cap:Nat)(l:List Int)(hlen:0<len)(hreach:len<=1000)(w:World)(hBs:Bs<w.heap.size)(hl:Flat w (some ⟨b,o,none⟩) len l)(hb:b<w.heap.size)
  (hc:w.cell? ⟨Bs,0,none⟩=some (.slice (some ⟨b,o,none⟩) len cap)):
  SeqStopsK F n Tryz.prog 117 #[.pointer (some ⟨Bs,0,none⟩)] (fun x:Fin len=>Yk l x.val) (KBH Bs b) (fun ys=>ys=UPTO (BCK len hlen) len)
   (fun pre=>∃ k,k<=len/\pre=UPTO (BCK len hlen) k) len w:=fun y J Jx W hW _ _ hY h0=>
 UL F n hF hro hn y Bs b o len cap l hl.1 hlen hreach J Jx (KBH Bs b) (fun _=>⟨rfl,rfl⟩) KBH.t W (fun A hA=>by
  have e1:A.heap[Bs]?=w.heap[Bs]?:=hA.1.trans (hW.block Bs hBs);have e2:A.heap[b]?=w.heap[b]?:=hA.2.trans (hW.block b hb);refine⟨(World.cell?_of_block (w:=w) (by exact e1)).trans hc,fun j hj i v hv=>?_⟩;rw[<-hl.at hj i v hv];exact World.cell?_of_block (w:=w) (by exact e2)) hY h0
theorem zF{F:Fence}{n:Nat}{ops:Array Oper}{o:Oper}{a:Act}{w w':World}{K:Act->World->Prop}{Q:Exit->Act->World->Prop}{E:Prop}{v:Value}(hg:o.guard=none)(hd:∀ c,o.op≠.defer c)(hab:o.about Tryz.prog w a.eval=none)
  (hrun:(execOp a.eval o).run Tryz.prog w=.ok (.value v) w')(h:K (a.put o.dst v) w'):if Region.wanted o (yielded ops a.tmps)=true then Oper.wpIn F n Tryz.prog o a w K Q else E:=by
 have hw:Region.wanted o (yielded ops a.tmps)=true:=by simp[Region.wanted,hg]
 rw[if_pos hw];refine⟨fun f hf=>(by rw[hab] at hf;cases hf),?_⟩;rw[Oper.semAt_eq _ _ _ hd,hrun];exact h
theorem UM{F:Fence}{n:Nat}{ops:Array Oper}{o:Oper}{a:Act}{w w':World}{K:Act->World->Prop}{Q:Exit->Act->World->Prop}{E:Prop}(hg:o.guard=none)(hd:∀ c,o.op≠.defer c)(hab:o.about Tryz.prog w a.eval=none)
  (hrun:(execOp a.eval o).run Tryz.prog w=.ok .skip w')(h:K (a.put o.dst undef) w'):if Region.wanted o (yielded ops a.tmps)=true then Oper.wpIn F n Tryz.prog o a w K Q else E:=by
 have hw:Region.wanted o (yielded ops a.tmps)=true:=by simp[Region.wanted,hg]
 rw[if_pos hw];refine⟨fun f hf=>(by rw[hab] at hf;cases hf),?_⟩;rw[Oper.semAt_eq _ _ _ hd,hrun];exact h
theorem ql{F:Fence}{n:Nat}{ops:Array Oper}{o:Oper}{a:Act}{w:World}{K:Act->World->Prop}{Q:Exit->Act->World->Prop}{E:Prop}(hg:o.guard=none)(hd:∀ c,o.op≠.defer c)(hF:∀ f,F.fn f)(hn:F.depth.isSome=true->1<=n){f:FuncId}{args:Array Value}
  (hrun:(execOp a.eval o).run Tryz.prog w=.ok (.enter f args) w)(h:CallsIn F (n - 1) Tryz.prog f args w fun e w'=>∃ v,e=.returned v/\K (a.put o.dst v) w'):if Region.wanted o (yielded ops a.tmps)=true then Oper.wpIn F n Tryz.prog o a w K Q else E:=by
 have hw:Region.wanted o (yielded ops a.tmps)=true:=by simp[Region.wanted,hg]
 rw[if_pos hw];refine⟨fun f _=>hF f,?_⟩;rw[Oper.semAt_eq _ _ _ hd,hrun];refine⟨hn,h.mono ?_⟩;rintro e w' ⟨v,rfl,hk⟩;exact hk
theorem J0{w:World}{g:Nat}{A X:List Int}(h:Has w g (za A).toArray 23)(lA:A.length=32)(lX:X.length=32):(Instr.storeAt 23 (.pointer (some ⟨g,0,none⟩)) (.agg (za X).toArray)).run Tryz.prog w=.ok () (w.setRow g (za X).toArray):=by
 simp only[Instr.storeAt,Instr.sureAddr,Sem.run_bind,Sem.run_pure,Result.andThen];exact run_storeVar_row w g 23 23 (za A).toArray (za X).toArray h (zd lX) (by simp[za,lA,lX]) (zx X)
def yI:Array Oper:=#[⟨some 24,.load 83 (.tmp 3),83,"met.go:50",#[],none⟩,⟨some 25,.move (.tmp 1),24,"met.go:50",#[],none⟩,⟨some 26,.load 23 (.tmp 6),23,"met.go:50",#[],none⟩,⟨some 27,.call {callee:=.value (.func 84),args:=#[.tmp 25,.tmp 26],argTypes:=#[24,23]},27,"met.go:50",#[⟨1,.data⟩,⟨2,.data⟩],none⟩,⟨some 28,.call {callee:=.value (.func 82),args:=#[.tmp 24,.tmp 27],argTypes:=#[83,27]},23,"met.go:50",#[⟨0,.data⟩,⟨3,.data⟩,⟨3,.chain⟩],none⟩]
theorem bag8{F:Fence}{n:Nat}(hF:∀ f,F.fn f)(hn:F.depth.isSome=true->1<=n){Q:Exit->Act->World->Prop}{a d g i j k l m p q r s t u x y z B C D E G H I J L:Value}{df:List Deferred}(W:World)(b3 b6 b N:Nat)(A X:List Int)(lA:A.length=32)(c3:W.cell? ⟨b3,0,none⟩=some (.pointer (some ⟨b,0,none⟩)))(r6:W.rangeAt b6 0 (za A))(P1:Nat->Nat->World->Prop)(P2:World->Prop)(k1:∀ gt c w,P1 gt c w->w.cell? ⟨b3,0,none⟩=some (.pointer (some ⟨b,0,none⟩)))
  (cF:CallsIn F (n - 1) Tryz.prog 84 #[.int .u64 (N:Int),.agg (za A).toArray] W.drew fun e w'=>∃ (gt:Nat) (c:Nat),e=.returned (.slice (some ⟨gt,0,none⟩) 41 c)/\P1 gt c w')
  (cT:∀ gt c w,P1 gt c w->CallsIn F (n - 1) Tryz.prog 82 #[.pointer (some ⟨b,0,none⟩),.slice (some ⟨gt,0,none⟩) 41 c] w fun e w'=>e=.returned (.agg (za X).toArray)/\P2 w')
  (h:∀ (gt c:Nat) w,P2 w->Q .normal {tmps:=#[a,.int .u64 (N:Int),d,.pointer (some ⟨b3,0,none⟩),g,i,.pointer (some ⟨b6,0,none⟩),j,k,l,m,p,q,r,s,t,u,x,y,z,B,C,D,E,.pointer (some ⟨b,0,none⟩),.int .u64 (N:Int),.agg (za A).toArray,.slice (some ⟨gt,0,none⟩) 41 c,.agg (za X).toArray],defers:=df} w):
  (Code.region 8 yI true).wpIn F n Tryz.prog Q {tmps:=#[a,.int .u64 (N:Int),d,.pointer (some ⟨b3,0,none⟩),g,i,.pointer (some ⟨b6,0,none⟩),j,k,l,m,p,q,r,s,t,u,x,y,z,B,C,D,E,G,H,I,J,L],defers:=df} W:=by
 have d6:W.drew.rangeAt b6 0 (za A):=(World.rangeAt_drew _ _ _ _).2 r6;have d3:W.drew.cell? ⟨b3,0,none⟩=some (.pointer (some ⟨b,0,none⟩)):=c3
 have h11111:∀ (gt c:Nat) (w:World),P2 w->wpAnyIn F n Tryz.prog .any yI Q 0 #[true,true,true,true,true] {tmps:=#[a,.int .u64 (N:Int),d,.pointer (some ⟨b3,0,none⟩),g,i,.pointer (some ⟨b6,0,none⟩),j,k,l,m,p,q,r,s,t,u,x,y,z,B,C,D,E,.pointer (some ⟨b,0,none⟩),.int .u64 (N:Int),.agg (za A).toArray,.slice (some ⟨gt,0,none⟩) 41 c,.agg (za X).toArray],defers:=df} w:=fun gt c w hp=>by
  exact wpAnyIn_done (by kernel_rfl) (h gt c w hp) _
 have h11110:∀ (gt c:Nat) (w:World),P1 gt c w->wpAnyIn F n Tryz.prog .any yI Q 1 #[true,true,true,true,false] {tmps:=#[a,.int .u64 (N:Int),d,.pointer (some ⟨b3,0,none⟩),g,i,.pointer (some ⟨b6,0,none⟩),j,k,l,m,p,q,r,s,t,u,x,y,z,B,C,D,E,.pointer (some ⟨b,0,none⟩),.int .u64 (N:Int),.agg (za A).toArray,.slice (some ⟨gt,0,none⟩) 41 c,L],defers:=df} w:=fun gt c w hp=>by
  refine wpAnyIn_ready (rs:=[4]) (by kernel_rfl) (by simp) ?_;refine AllReadyIn.cons (o:=⟨some 28,.call {callee:=.value (.func 82),args:=#[.tmp 24,.tmp 27],argTypes:=#[83,27]},23,"met.go:50",#[⟨0,.data⟩,⟨3,.data⟩,⟨3,.chain⟩],none⟩) rfl (fun K hK=>?_) ?_
  ·refine ql rfl (by intro c h;cases h) hF hn (by go_simp) ((cT gt c w hp).mono ?_)
   rintro e w' ⟨rfl,hp⟩;exact⟨_,rfl,hK _ _ (h11111 gt c w' hp)⟩
  exact AllReadyIn.nil
 have h01110:∀ (gt c:Nat) (w:World),P1 gt c w->wpAnyIn F n Tryz.prog .any yI Q 2 #[false,true,true,true,false] {tmps:=#[a,.int .u64 (N:Int),d,.pointer (some ⟨b3,0,none⟩),g,i,.pointer (some ⟨b6,0,none⟩),j,k,l,m,p,q,r,s,t,u,x,y,z,B,C,D,E,G,.int .u64 (N:Int),.agg (za A).toArray,.slice (some ⟨gt,0,none⟩) 41 c,L],defers:=df} w:=fun gt c w hp=>by
  refine wpAnyIn_ready (rs:=[0]) (by kernel_rfl) (by simp) ?_;refine AllReadyIn.cons (o:=⟨some 24,.load 83 (.tmp 3),83,"met.go:50",#[],none⟩) rfl (fun K hK=>?_) ?_
  ·exact zF (v:=.pointer (some ⟨b,0,none⟩)) rfl (by intro c h;cases h) rfl (by have hx:=k1 gt c w hp;go_simp) (hK _ _ (h11110 gt c w hp))
  exact AllReadyIn.nil
 have h11100:wpAnyIn F n Tryz.prog .any yI Q 2 #[true,true,true,false,false] {tmps:=#[a,.int .u64 (N:Int),d,.pointer (some ⟨b3,0,none⟩),g,i,.pointer (some ⟨b6,0,none⟩),j,k,l,m,p,q,r,s,t,u,x,y,z,B,C,D,E,.pointer (some ⟨b,0,none⟩),.int .u64 (N:Int),.agg (za A).toArray,J,L],defers:=df} W.drew:= by
  refine wpAnyIn_ready (rs:=[3]) (by kernel_rfl) (by simp) ?_;refine AllReadyIn.cons (o:=⟨some 27,.call {callee:=.value (.func 84),args:=#[.tmp 25,.tmp 26],argTypes:=#[24,23]},27,"met.go:50",#[⟨1,.data⟩,⟨2,.data⟩],none⟩) rfl (fun K hK=>?_) ?_
  ·refine ql rfl (by intro c h;cases h) hF hn (by go_simp) (cF.mono ?_)
   rintro e w' ⟨gt,c,rfl,hp⟩;exact⟨_,rfl,hK _ _ (h11110 gt c w' hp)⟩
  exact AllReadyIn.nil
 have h01100:wpAnyIn F n Tryz.prog .any yI Q 3 #[false,true,true,false,false] {tmps:=#[a,.int .u64 (N:Int),d,.pointer (some ⟨b3,0,none⟩),g,i,.pointer (some ⟨b6,0,none⟩),j,k,l,m,p,q,r,s,t,u,x,y,z,B,C,D,E,G,.int .u64 (N:Int),.agg (za A).toArray,J,L],defers:=df} W.drew:= by
  refine wpAnyIn_ready (rs:=[0,3]) (by kernel_rfl) (by simp) ?_;refine AllReadyIn.cons (o:=⟨some 24,.load 83 (.tmp 3),83,"met.go:50",#[],none⟩) rfl (fun K hK=>?_) ?_
  ·exact zF (v:=.pointer (some ⟨b,0,none⟩)) rfl (by intro c h;cases h) rfl (by have hx:=d3;go_simp) (hK _ _ h11100)
  refine AllReadyIn.cons (o:=⟨some 27,.call {callee:=.value (.func 84),args:=#[.tmp 25,.tmp 26],argTypes:=#[24,23]},27,"met.go:50",#[⟨1,.data⟩,⟨2,.data⟩],none⟩) rfl (fun K hK=>?_) ?_
  ·refine ql rfl (by intro c h;cases h) hF hn (by go_simp) (cF.mono ?_)
   rintro e w' ⟨gt,c,rfl,hp⟩;exact⟨_,rfl,hK _ _ (h01110 gt c w' hp)⟩
  exact AllReadyIn.nil
 have h10100:wpAnyIn F n Tryz.prog .any yI Q 3 #[true,false,true,false,false] {tmps:=#[a,.int .u64 (N:Int),d,.pointer (some ⟨b3,0,none⟩),g,i,.pointer (some ⟨b6,0,none⟩),j,k,l,m,p,q,r,s,t,u,x,y,z,B,C,D,E,.pointer (some ⟨b,0,none⟩),H,.agg (za A).toArray,J,L],defers:=df} W.drew:= by
  refine wpAnyIn_ready (rs:=[1]) (by kernel_rfl) (by simp) ?_;refine AllReadyIn.cons (o:=⟨some 25,.move (.tmp 1),24,"met.go:50",#[],none⟩) rfl (fun K hK=>?_) ?_
  ·exact zF (v:=.int .u64 (N:Int)) rfl (by intro c h;cases h) rfl rfl (hK _ _ h11100)
  exact AllReadyIn.nil
 have h11000:wpAnyIn F n Tryz.prog .any yI Q 3 #[true,true,false,false,false] {tmps:=#[a,.int .u64 (N:Int),d,.pointer (some ⟨b3,0,none⟩),g,i,.pointer (some ⟨b6,0,none⟩),j,k,l,m,p,q,r,s,t,u,x,y,z,B,C,D,E,.pointer (some ⟨b,0,none⟩),.int .u64 (N:Int),I,J,L],defers:=df} W.drew:= by
  refine wpAnyIn_ready (rs:=[2]) (by kernel_rfl) (by simp) ?_;refine AllReadyIn.cons (o:=⟨some 26,.load 23 (.tmp 6),23,"met.go:50",#[],none⟩) rfl (fun K hK=>?_) ?_
  ·exact zF (v:=.agg (za A).toArray) rfl (by intro c h;cases h) rfl (yw (run_loadAt_mid (P:=Tryz.prog) W.drew b6 0 23 _ _ d6 Tryz.underlying23 rfl (zo lA))) (hK _ _ h11100)
  exact AllReadyIn.nil
 have h00100:wpAnyIn F n Tryz.prog .any yI Q 4 #[false,false,true,false,false] {tmps:=#[a,.int .u64 (N:Int),d,.pointer (some ⟨b3,0,none⟩),g,i,.pointer (some ⟨b6,0,none⟩),j,k,l,m,p,q,r,s,t,u,x,y,z,B,C,D,E,G,H,.agg (za A).toArray,J,L],defers:=df} W.drew:= by
  refine wpAnyIn_ready (rs:=[0,1]) (by kernel_rfl) (by simp) ?_;refine AllReadyIn.cons (o:=⟨some 24,.load 83 (.tmp 3),83,"met.go:50",#[],none⟩) rfl (fun K hK=>?_) ?_
  ·exact zF (v:=.pointer (some ⟨b,0,none⟩)) rfl (by intro c h;cases h) rfl (by have hx:=d3;go_simp) (hK _ _ h10100)
  refine AllReadyIn.cons (o:=⟨some 25,.move (.tmp 1),24,"met.go:50",#[],none⟩) rfl (fun K hK=>?_) ?_
  ·exact zF (v:=.int .u64 (N:Int)) rfl (by intro c h;cases h) rfl rfl (hK _ _ h01100)
  exact AllReadyIn.nil
 have h01000:wpAnyIn F n Tryz.prog .any yI Q 4 #[false,true,false,false,false] {tmps:=#[a,.int .u64 (N:Int),d,.pointer (some ⟨b3,0,none⟩),g,i,.pointer (some ⟨b6,0,none⟩),j,k,l,m,p,q,r,s,t,u,x,y,z,B,C,D,E,G,.int .u64 (N:Int),I,J,L],defers:=df} W.drew:= by
  refine wpAnyIn_ready (rs:=[0,2]) (by kernel_rfl) (by simp) ?_;refine AllReadyIn.cons (o:=⟨some 24,.load 83 (.tmp 3),83,"met.go:50",#[],none⟩) rfl (fun K hK=>?_) ?_
  ·exact zF (v:=.pointer (some ⟨b,0,none⟩)) rfl (by intro c h;cases h) rfl (by have hx:=d3;go_simp) (hK _ _ h11000)
  refine AllReadyIn.cons (o:=⟨some 26,.load 23 (.tmp 6),23,"met.go:50",#[],none⟩) rfl (fun K hK=>?_) ?_
  ·exact zF (v:=.agg (za A).toArray) rfl (by intro c h;cases h) rfl (yw (run_loadAt_mid (P:=Tryz.prog) W.drew b6 0 23 _ _ d6 Tryz.underlying23 rfl (zo lA))) (hK _ _ h01100)
  exact AllReadyIn.nil
 have h10000:wpAnyIn F n Tryz.prog .any yI Q 4 #[true,false,false,false,false] {tmps:=#[a,.int .u64 (N:Int),d,.pointer (some ⟨b3,0,none⟩),g,i,.pointer (some ⟨b6,0,none⟩),j,k,l,m,p,q,r,s,t,u,x,y,z,B,C,D,E,.pointer (some ⟨b,0,none⟩),H,I,J,L],defers:=df} W.drew:= by
  refine wpAnyIn_ready (rs:=[1,2]) (by kernel_rfl) (by simp) ?_;refine AllReadyIn.cons (o:=⟨some 25,.move (.tmp 1),24,"met.go:50",#[],none⟩) rfl (fun K hK=>?_) ?_
  ·exact zF (v:=.int .u64 (N:Int)) rfl (by intro c h;cases h) rfl rfl (hK _ _ h11000)
  refine AllReadyIn.cons (o:=⟨some 26,.load 23 (.tmp 6),23,"met.go:50",#[],none⟩) rfl (fun K hK=>?_) ?_
  ·exact zF (v:=.agg (za A).toArray) rfl (by intro c h;cases h) rfl (yw (run_loadAt_mid (P:=Tryz.prog) W.drew b6 0 23 _ _ d6 Tryz.underlying23 rfl (zo lA))) (hK _ _ h10100)
  exact AllReadyIn.nil
 have h00000:wpAnyIn F n Tryz.prog .any yI Q 5 #[false,false,false,false,false] {tmps:=#[a,.int .u64 (N:Int),d,.pointer (some ⟨b3,0,none⟩),g,i,.pointer (some ⟨b6,0,none⟩),j,k,l,m,p,q,r,s,t,u,x,y,z,B,C,D,E,G,H,I,J,L],defers:=df} W.drew:= by
  refine wpAnyIn_ready (rs:=[0,1,2]) (by kernel_rfl) (by simp) ?_;refine AllReadyIn.cons (o:=⟨some 24,.load 83 (.tmp 3),83,"met.go:50",#[],none⟩) rfl (fun K hK=>?_) ?_
  ·exact zF (v:=.pointer (some ⟨b,0,none⟩)) rfl (by intro c h;cases h) rfl (by have hx:=d3;go_simp) (hK _ _ h10000)
  refine AllReadyIn.cons (o:=⟨some 25,.move (.tmp 1),24,"met.go:50",#[],none⟩) rfl (fun K hK=>?_) ?_
  ·exact zF (v:=.int .u64 (N:Int)) rfl (by intro c h;cases h) rfl rfl (hK _ _ h01000)
  refine AllReadyIn.cons (o:=⟨some 26,.load 23 (.tmp 6),23,"met.go:50",#[],none⟩) rfl (fun K hK=>?_) ?_
  ·exact zF (v:=.agg (za A).toArray) rfl (by intro c h;cases h) rfl (yw (run_loadAt_mid (P:=Tryz.prog) W.drew b6 0 23 _ _ d6 Tryz.underlying23 rfl (zo lA))) (hK _ _ h00100)
  exact AllReadyIn.nil
 refine wpIn_region_any (by kernel_rfl) ?_;exact h00000
def yA:Array Oper:=#[⟨some 19,.load 83 (.tmp 3),83,"met.go:47",#[],none⟩,⟨some 20,.load 23 (.tmp 8),23,"met.go:47",#[],none⟩,⟨some 21,.load 23 (.tmp 6),23,"met.go:47",#[],none⟩,⟨some 22,.call {callee:=.value (.func 83),args:=#[.tmp 20,.tmp 21],argTypes:=#[23,23]},27,"met.go:47",#[⟨1,.data⟩,⟨2,.data⟩],none⟩,⟨some 23,.call {callee:=.value (.func 82),args:=#[.tmp 19,.tmp 22],argTypes:=#[83,27]},23,"met.go:47",#[⟨0,.data⟩,⟨3,.data⟩,⟨3,.chain⟩],none⟩,⟨none,.store 23 (.tmp 6) (.tmp 23),0,"met.go:47",#[⟨4,.data⟩,⟨4,.chain⟩,⟨0,.phase⟩,⟨1,.phase⟩,⟨2,.phase⟩,⟨3,.phase⟩,⟨4,.phase⟩],none⟩]
theorem bag7{F:Fence}{n:Nat}(hF:∀ f,F.fn f)(hn:F.depth.isSome=true->1<=n){Q:Exit->Act->World->Prop}{a d g i j k l m p q r s t u x y z B C D E G H I J M:Value}{df:List Deferred}(W:World)(b3 b6 b8 b:Nat)(L A X:List Int)(lL:L.length=32)(lA:A.length=32)(lX:X.length=32)(c3:W.cell? ⟨b3,0,none⟩=some (.pointer (some ⟨b,0,none⟩)))(r8:W.rangeAt b8 0 (za L))(r6:W.rangeAt b6 0 (za A))(P1:Nat->Nat->World->Prop)(P2:World->Prop)(k1:∀ gt c w,P1 gt c w->w.cell? ⟨b3,0,none⟩=some (.pointer (some ⟨b,0,none⟩)))
  (cF:CallsIn F (n - 1) Tryz.prog 83 #[.agg (za L).toArray,.agg (za A).toArray] W.drew fun e w'=>∃ (gt:Nat) (c:Nat),e=.returned (.slice (some ⟨gt,0,none⟩) 65 c)/\P1 gt c w')
  (cT:∀ gt c w,P1 gt c w->CallsIn F (n - 1) Tryz.prog 82 #[.pointer (some ⟨b,0,none⟩),.slice (some ⟨gt,0,none⟩) 65 c] w fun e w'=>e=.returned (.agg (za X).toArray)/\P2 w')
  (st:∀ w,P2 w->Has w b6 (za A).toArray 23)(h:∀ (gt c:Nat) w,P2 w->Q .normal {tmps:=#[a,d,g,.pointer (some ⟨b3,0,none⟩),i,j,.pointer (some ⟨b6,0,none⟩),k,.pointer (some ⟨b8,0,none⟩),l,m,p,q,r,s,t,u,x,y,.pointer (some ⟨b,0,none⟩),.agg (za L).toArray,.agg (za A).toArray,.slice (some ⟨gt,0,none⟩) 65 c,.agg (za X).toArray,G,H,I,J,M],defers:=df} (w.setRow b6 (za X).toArray)):
  (Code.region 7 yA true).wpIn F n Tryz.prog Q {tmps:=#[a,d,g,.pointer (some ⟨b3,0,none⟩),i,j,.pointer (some ⟨b6,0,none⟩),k,.pointer (some ⟨b8,0,none⟩),l,m,p,q,r,s,t,u,x,y,z,B,C,D,E,G,H,I,J,M],defers:=df} W:=by
 have d8:W.drew.rangeAt b8 0 (za L):=(World.rangeAt_drew _ _ _ _).2 r8;have d6:W.drew.rangeAt b6 0 (za A):=(World.rangeAt_drew _ _ _ _).2 r6;have d3:W.drew.cell? ⟨b3,0,none⟩=some (.pointer (some ⟨b,0,none⟩)):=c3
 have h111111:∀ (gt c:Nat) (w:World),P2 w->wpAnyIn F n Tryz.prog .any yA Q 0 #[tt,tt,tt,tt,tt,tt] {tmps:=#[a,d,g,.pointer (some ⟨b3,0,none⟩),i,j,.pointer (some ⟨b6,0,none⟩),k,.pointer (some ⟨b8,0,none⟩),l,m,p,q,r,s,t,u,x,y,.pointer (some ⟨b,0,none⟩),.agg (za L).toArray,.agg (za A).toArray,.slice (some ⟨gt,0,none⟩) 65 c,.agg (za X).toArray,G,H,I,J,M],defers:=df} (w.setRow b6 (za X).toArray):=fun gt c w hp=>by
  exact wpAnyIn_done (by kernel_rfl) (h gt c w hp) _
 have h111110:∀ (gt c:Nat) (w:World),P2 w->wpAnyIn F n Tryz.prog .any yA Q 1 #[tt,tt,tt,tt,tt,ff] {tmps:=#[a,d,g,.pointer (some ⟨b3,0,none⟩),i,j,.pointer (some ⟨b6,0,none⟩),k,.pointer (some ⟨b8,0,none⟩),l,m,p,q,r,s,t,u,x,y,.pointer (some ⟨b,0,none⟩),.agg (za L).toArray,.agg (za A).toArray,.slice (some ⟨gt,0,none⟩) 65 c,.agg (za X).toArray,G,H,I,J,M],defers:=df} w:=fun gt c w hp=>by
  refine wpAnyIn_ready (rs:=[5]) (by kernel_rfl) (by simp) ?_;refine AllReadyIn.cons (o:=⟨none,.store 23 (.tmp 6) (.tmp 23),0,"met.go:47",#[⟨4,.data⟩,⟨4,.chain⟩,⟨0,.phase⟩,⟨1,.phase⟩,⟨2,.phase⟩,⟨3,.phase⟩,⟨4,.phase⟩],none⟩) rfl (fun K hK=>?_) ?_
  ·exact UM rfl (by intro c h;cases h) rfl (Vd (J0 (st w hp) lA lX)) (hK _ _ (h111111 gt c w hp))
  exact AllReadyIn.nil
 have h111100:∀ (gt c:Nat) (w:World),P1 gt c w->wpAnyIn F n Tryz.prog .any yA Q 2 #[tt,tt,tt,tt,ff,ff] {tmps:=#[a,d,g,.pointer (some ⟨b3,0,none⟩),i,j,.pointer (some ⟨b6,0,none⟩),k,.pointer (some ⟨b8,0,none⟩),l,m,p,q,r,s,t,u,x,y,.pointer (some ⟨b,0,none⟩),.agg (za L).toArray,.agg (za A).toArray,.slice (some ⟨gt,0,none⟩) 65 c,E,G,H,I,J,M],defers:=df} w:=fun gt c w hp=>by
  refine wpAnyIn_ready (rs:=[4]) (by kernel_rfl) (by simp) ?_;refine AllReadyIn.cons (o:=⟨some 23,.call {callee:=.value (.func 82),args:=#[.tmp 19,.tmp 22],argTypes:=#[83,27]},23,"met.go:47",#[⟨0,.data⟩,⟨3,.data⟩,⟨3,.chain⟩],none⟩) rfl (fun K hK=>?_) ?_
  ·refine ql rfl (by intro c h;cases h) hF hn (by go_simp) ((cT gt c w hp).mono ?_)
   rintro e w' ⟨rfl,hp⟩;exact⟨_,rfl,hK _ _ (h111110 gt c w' hp)⟩
  exact AllReadyIn.nil
 have h011100:∀ (gt c:Nat) (w:World),P1 gt c w->wpAnyIn F n Tryz.prog .any yA Q 3 #[ff,tt,tt,tt,ff,ff] {tmps:=#[a,d,g,.pointer (some ⟨b3,0,none⟩),i,j,.pointer (some ⟨b6,0,none⟩),k,.pointer (some ⟨b8,0,none⟩),l,m,p,q,r,s,t,u,x,y,z,.agg (za L).toArray,.agg (za A).toArray,.slice (some ⟨gt,0,none⟩) 65 c,E,G,H,I,J,M],defers:=df} w:=fun gt c w hp=>by
  refine wpAnyIn_ready (rs:=[0]) (by kernel_rfl) (by simp) ?_;refine AllReadyIn.cons (o:=⟨some 19,.load 83 (.tmp 3),83,"met.go:47",#[],none⟩) rfl (fun K hK=>?_) ?_
  ·exact zF (v:=.pointer (some ⟨b,0,none⟩)) rfl (by intro c h;cases h) rfl (by have hx:=k1 gt c w hp;go_simp) (hK _ _ (h111100 gt c w hp))
  exact AllReadyIn.nil
 have h111000:wpAnyIn F n Tryz.prog .any yA Q 3 #[tt,tt,tt,ff,ff,ff] {tmps:=#[a,d,g,.pointer (some ⟨b3,0,none⟩),i,j,.pointer (some ⟨b6,0,none⟩),k,.pointer (some ⟨b8,0,none⟩),l,m,p,q,r,s,t,u,x,y,.pointer (some ⟨b,0,none⟩),.agg (za L).toArray,.agg (za A).toArray,D,E,G,H,I,J,M],defers:=df} W.drew:= by
  refine wpAnyIn_ready (rs:=[3]) (by kernel_rfl) (by simp) ?_;refine AllReadyIn.cons (o:=⟨some 22,.call {callee:=.value (.func 83),args:=#[.tmp 20,.tmp 21],argTypes:=#[23,23]},27,"met.go:47",#[⟨1,.data⟩,⟨2,.data⟩],none⟩) rfl (fun K hK=>?_) ?_
  ·refine ql rfl (by intro c h;cases h) hF hn (by go_simp) (cF.mono ?_)
   rintro e w' ⟨gt,c,rfl,hp⟩;exact⟨_,rfl,hK _ _ (h111100 gt c w' hp)⟩
  exact AllReadyIn.nil
 have h011000:wpAnyIn F n Tryz.prog .any yA Q 4 #[ff,tt,tt,ff,ff,ff] {tmps:=#[a,d,g,.pointer (some ⟨b3,0,none⟩),i,j,.pointer (some ⟨b6,0,none⟩),k,.pointer (some ⟨b8,0,none⟩),l,m,p,q,r,s,t,u,x,y,z,.agg (za L).toArray,.agg (za A).toArray,D,E,G,H,I,J,M],defers:=df} W.drew:= by
  refine wpAnyIn_ready (rs:=[0,3]) (by kernel_rfl) (by simp) ?_;refine AllReadyIn.cons (o:=⟨some 19,.load 83 (.tmp 3),83,"met.go:47",#[],none⟩) rfl (fun K hK=>?_) ?_
  ·exact zF (v:=.pointer (some ⟨b,0,none⟩)) rfl (by intro c h;cases h) rfl (by have hx:=d3;go_simp) (hK _ _ h111000)
  refine AllReadyIn.cons (o:=⟨some 22,.call {callee:=.value (.func 83),args:=#[.tmp 20,.tmp 21],argTypes:=#[23,23]},27,"met.go:47",#[⟨1,.data⟩,⟨2,.data⟩],none⟩) rfl (fun K hK=>?_) ?_
  ·refine ql rfl (by intro c h;cases h) hF hn (by go_simp) (cF.mono ?_)
   rintro e w' ⟨gt,c,rfl,hp⟩;exact⟨_,rfl,hK _ _ (h011100 gt c w' hp)⟩
  exact AllReadyIn.nil
 have h101000:wpAnyIn F n Tryz.prog .any yA Q 4 #[tt,ff,tt,ff,ff,ff] {tmps:=#[a,d,g,.pointer (some ⟨b3,0,none⟩),i,j,.pointer (some ⟨b6,0,none⟩),k,.pointer (some ⟨b8,0,none⟩),l,m,p,q,r,s,t,u,x,y,.pointer (some ⟨b,0,none⟩),B,.agg (za A).toArray,D,E,G,H,I,J,M],defers:=df} W.drew:= by
  refine wpAnyIn_ready (rs:=[1]) (by kernel_rfl) (by simp) ?_;refine AllReadyIn.cons (o:=⟨some 20,.load 23 (.tmp 8),23,"met.go:47",#[],none⟩) rfl (fun K hK=>?_) ?_
  ·exact zF (v:=.agg (za L).toArray) rfl (by intro c h;cases h) rfl (yw (run_loadAt_mid (P:=Tryz.prog) W.drew b8 0 23 _ _ d8 Tryz.underlying23 rfl (zo lL))) (hK _ _ h111000)
  exact AllReadyIn.nil
 have h110000:wpAnyIn F n Tryz.prog .any yA Q 4 #[tt,tt,ff,ff,ff,ff] {tmps:=#[a,d,g,.pointer (some ⟨b3,0,none⟩),i,j,.pointer (some ⟨b6,0,none⟩),k,.pointer (some ⟨b8,0,none⟩),l,m,p,q,r,s,t,u,x,y,.pointer (some ⟨b,0,none⟩),.agg (za L).toArray,C,D,E,G,H,I,J,M],defers:=df} W.drew:= by
  refine wpAnyIn_ready (rs:=[2]) (by kernel_rfl) (by simp) ?_;refine AllReadyIn.cons (o:=⟨some 21,.load 23 (.tmp 6),23,"met.go:47",#[],none⟩) rfl (fun K hK=>?_) ?_
  ·exact zF (v:=.agg (za A).toArray) rfl (by intro c h;cases h) rfl (yw (run_loadAt_mid (P:=Tryz.prog) W.drew b6 0 23 _ _ d6 Tryz.underlying23 rfl (zo lA))) (hK _ _ h111000)
  exact AllReadyIn.nil
 have h001000:wpAnyIn F n Tryz.prog .any yA Q 5 #[ff,ff,tt,ff,ff,ff] {tmps:=#[a,d,g,.pointer (some ⟨b3,0,none⟩),i,j,.pointer (some ⟨b6,0,none⟩),k,.pointer (some ⟨b8,0,none⟩),l,m,p,q,r,s,t,u,x,y,z,B,.agg (za A).toArray,D,E,G,H,I,J,M],defers:=df} W.drew:= by
  refine wpAnyIn_ready (rs:=[0,1]) (by kernel_rfl) (by simp) ?_;refine AllReadyIn.cons (o:=⟨some 19,.load 83 (.tmp 3),83,"met.go:47",#[],none⟩) rfl (fun K hK=>?_) ?_
  ·exact zF (v:=.pointer (some ⟨b,0,none⟩)) rfl (by intro c h;cases h) rfl (by have hx:=d3;go_simp) (hK _ _ h101000)
  refine AllReadyIn.cons (o:=⟨some 20,.load 23 (.tmp 8),23,"met.go:47",#[],none⟩) rfl (fun K hK=>?_) ?_
  ·exact zF (v:=.agg (za L).toArray) rfl (by intro c h;cases h) rfl (yw (run_loadAt_mid (P:=Tryz.prog) W.drew b8 0 23 _ _ d8 Tryz.underlying23 rfl (zo lL))) (hK _ _ h011000)
  exact AllReadyIn.nil
 have h010000:wpAnyIn F n Tryz.prog .any yA Q 5 #[ff,tt,ff,ff,ff,ff] {tmps:=#[a,d,g,.pointer (some ⟨b3,0,none⟩),i,j,.pointer (some ⟨b6,0,none⟩),k,.pointer (some ⟨b8,0,none⟩),l,m,p,q,r,s,t,u,x,y,z,.agg (za L).toArray,C,D,E,G,H,I,J,M],defers:=df} W.drew:= by
  refine wpAnyIn_ready (rs:=[0,2]) (by kernel_rfl) (by simp) ?_;refine AllReadyIn.cons (o:=⟨some 19,.load 83 (.tmp 3),83,"met.go:47",#[],none⟩) rfl (fun K hK=>?_) ?_
  ·exact zF (v:=.pointer (some ⟨b,0,none⟩)) rfl (by intro c h;cases h) rfl (by have hx:=d3;go_simp) (hK _ _ h110000)
  refine AllReadyIn.cons (o:=⟨some 21,.load 23 (.tmp 6),23,"met.go:47",#[],none⟩) rfl (fun K hK=>?_) ?_
  ·exact zF (v:=.agg (za A).toArray) rfl (by intro c h;cases h) rfl (yw (run_loadAt_mid (P:=Tryz.prog) W.drew b6 0 23 _ _ d6 Tryz.underlying23 rfl (zo lA))) (hK _ _ h011000)
  exact AllReadyIn.nil
 have h100000:wpAnyIn F n Tryz.prog .any yA Q 5 #[tt,ff,ff,ff,ff,ff] {tmps:=#[a,d,g,.pointer (some ⟨b3,0,none⟩),i,j,.pointer (some ⟨b6,0,none⟩),k,.pointer (some ⟨b8,0,none⟩),l,m,p,q,r,s,t,u,x,y,.pointer (some ⟨b,0,none⟩),B,C,D,E,G,H,I,J,M],defers:=df} W.drew:= by
  refine wpAnyIn_ready (rs:=[1,2]) (by kernel_rfl) (by simp) ?_;refine AllReadyIn.cons (o:=⟨some 20,.load 23 (.tmp 8),23,"met.go:47",#[],none⟩) rfl (fun K hK=>?_) ?_
  ·exact zF (v:=.agg (za L).toArray) rfl (by intro c h;cases h) rfl (yw (run_loadAt_mid (P:=Tryz.prog) W.drew b8 0 23 _ _ d8 Tryz.underlying23 rfl (zo lL))) (hK _ _ h110000)
  refine AllReadyIn.cons (o:=⟨some 21,.load 23 (.tmp 6),23,"met.go:47",#[],none⟩) rfl (fun K hK=>?_) ?_
  ·exact zF (v:=.agg (za A).toArray) rfl (by intro c h;cases h) rfl (yw (run_loadAt_mid (P:=Tryz.prog) W.drew b6 0 23 _ _ d6 Tryz.underlying23 rfl (zo lA))) (hK _ _ h101000)
  exact AllReadyIn.nil
 have h000000:wpAnyIn F n Tryz.prog .any yA Q 6 #[ff,ff,ff,ff,ff,ff] {tmps:=#[a,d,g,.pointer (some ⟨b3,0,none⟩),i,j,.pointer (some ⟨b6,0,none⟩),k,.pointer (some ⟨b8,0,none⟩),l,m,p,q,r,s,t,u,x,y,z,B,C,D,E,G,H,I,J,M],defers:=df} W.drew:= by
  refine wpAnyIn_ready (rs:=[0,1,2]) (by kernel_rfl) (by simp) ?_;refine AllReadyIn.cons (o:=⟨some 19,.load 83 (.tmp 3),83,"met.go:47",#[],none⟩) rfl (fun K hK=>?_) ?_
  ·exact zF (v:=.pointer (some ⟨b,0,none⟩)) rfl (by intro c h;cases h) rfl (by have hx:=d3;go_simp) (hK _ _ h100000)
  refine AllReadyIn.cons (o:=⟨some 20,.load 23 (.tmp 8),23,"met.go:47",#[],none⟩) rfl (fun K hK=>?_) ?_
  ·exact zF (v:=.agg (za L).toArray) rfl (by intro c h;cases h) rfl (yw (run_loadAt_mid (P:=Tryz.prog) W.drew b8 0 23 _ _ d8 Tryz.underlying23 rfl (zo lL))) (hK _ _ h010000)
  refine AllReadyIn.cons (o:=⟨some 21,.load 23 (.tmp 6),23,"met.go:47",#[],none⟩) rfl (fun K hK=>?_) ?_
  ·exact zF (v:=.agg (za A).toArray) rfl (by intro c h;cases h) rfl (yw (run_loadAt_mid (P:=Tryz.prog) W.drew b6 0 23 _ _ d6 Tryz.underlying23 rfl (zo lA))) (hK _ _ h001000)
  exact AllReadyIn.nil
 refine wpIn_region_any (by kernel_rfl) ?_;exact h000000
end Go.Proofs.YtobaogpomcocpaaGreatDoor
