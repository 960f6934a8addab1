/- ManyClashes: part 5. -/
import Derived.Laws.AppendOwnNone
import Derived.Test.YtobaogpomcocpaaGreatDoorManyClashesP4
set_option maxRecDepth 100000
set_option maxHeartbeats 2000000
open Go.RowKit
namespace Go.Proofs.YtobaogpomcocpaaGreatDoor
namespace HX
theorem gj(a:Addr)(r c k:Nat)(hk:k<=r)(w:World):(Instr.slice 27 (.slice (some a) r c) (some (.int .i64 (k:Int))) none none).run Tryz.prog w=.ok (.slice (some (if c=k then a else a.add k)) (r - k) (c - k)) w:=by
 obtain⟨i8,hi,h8⟩:=Option.map_eq_some_iff.1 zU;simp only[Prod.mk.injEq] at h8;have he:Tryz.prog.elem 27=5:=by kernel_rfl
 have hu:Tryz.prog.underlying 27=some (.slice (Tryz.prog.elem 27)):=by kernel_rfl
 rw[run_slice_l (P:=Tryz.prog) w 27 (some a) r c hu .i64 (k:Int) (by omega) (by omega),he];simp[sizeOf,typeInfo,hi,h8.2.1,sliced];split <;> rfl
theorem kJ(b o i:Nat)(h:i<64)(w:World):(Instr.sliceAt 97 (.pointer (some ⟨b,o,none⟩)) (some (.int .u64 (i:Int))) none none).run Tryz.prog w=.ok (.slice (some ⟨b,o+i,none⟩) (64 - i) (64 - i)) w:=by
 have hn:Tryz.prog.arrayLen 97=64:=by kernel_rfl
 rw[run_sliceAt_array_l w 97 ⟨b,o,none⟩ (by kernel_rfl) .u64 (i:Int) (by omega) (by rw[hn];omega),hn];have he:Tryz.prog.elem 97=5:=by kernel_rfl
 obtain⟨i8,hi,h8⟩:=Option.map_eq_some_iff.1 zU;simp only[Prod.mk.injEq] at h8;rw[he];simp[sizeOf,typeInfo,hi,h8.2.1,slicedAt];rw[if_neg (by omega)];simp[Addr.add]
theorem z1m(w:World)(ty:TypeId)(b o dLen dCap pb po sLen sCap:Nat)(q:List Nat)(hn:q.length=min sLen dLen)(hsrc:∀ j,j<q.length->w.cell? ⟨pb,po+j,none⟩=some (.int .u8 ((q.getD j 0:Nat):Int)))(ht:w.there b o q.length):
  (Builtin.copy_ #[27,27] ty #[.slice (some ⟨b,o,none⟩) dLen dCap,.slice (some ⟨pb,po,none⟩) sLen sCap]).run Tryz.prog w=.ok (.int .i64 (q.length:Int)) (w.setCells b o (q.map fun x=>Value.int .u8 ((x:Nat):Int))):=by
 have hs:(Tryz.prog.info? 5).map (·.size)=some 1:=by
  obtain⟨i8,hi,h8⟩:=Option.map_eq_some_iff.1 zU;simp only[Prod.mk.injEq] at h8;rw[hi];simp[h8.2.1]
 have h:=run_copy_cells (P:=Tryz.prog) w 27 27 ty 5 b o dLen dCap ⟨pb,po,none⟩ sLen sCap (q.map fun x=>Value.int .u8 ((x:Nat):Int)) Tryz.underlying27 hs (by rw[List.length_map];exact hn)
  (fun j v hv=>by
    have hj:j<q.length:=by have:=(List.getElem?_eq_some_iff.1 hv).1;rwa [List.length_map] at this
    rw[zY,hsrc j hj];rw[List.getElem?_map,List.getElem?_eq_getElem hj] at hv;rw[List.getD_eq_getElem?_getD,List.getElem?_eq_getElem hj];exact hv)
  (fun j hj=>(ht j (by rwa [List.length_map] at hj)).1) (fun j hj=>(ht j (by rwa [List.length_map] at hj)).2)
  (fun v hv=>by
    simp at hv;obtain⟨x,_,rfl⟩:=hv;rfl)
 rw[List.length_map] at h;exact h
theorem Zb(g:Nat):∀ (vs:List Value) (o:Nat) (w:World),w.grownBy (w.setCells g o vs) (some g)
 | [],_,_=>⟨rfl,rfl,rfl,Nat.le_refl _,fun _ _ _=>rfl⟩
 | v :: vs,o,w=>by
   have h1:w.grownBy (w.setCell ⟨g,o,none⟩ v) (some g):=⟨rfl,rfl,rfl,by simp[World.setCell],fun k _ hk=>Below.heap_setCell _ _ _ _ (fun e=>hk (by rw[e]))⟩
   exact h1.trans (Zb g vs (o+1) _)
theorem kK{g:Nat}{a b c:World}(h:a.grownBy b (some g))(k:Below b.heap.size b c):a.grownBy c (some g):=
 ⟨k.os.trans h.os,k.tape.trans h.tape,k.output.trans h.output,Nat.le_trans h.size k.size,fun i hi hn=>(k.block i (Nat.lt_of_lt_of_le hi h.size)).trans (h.block i hi hn)⟩
theorem UV{w w':World}{g:Nat}(h:Tabled w)(hg:1<g)(hG:w.grownBy w' (some g)):Tabled w':=by
 have b0:=hG.block 1 (by have:=h.2.2;omega) (by simp;omega);have b1:=hG.block 0 (by have:=h.2.2;omega) (by simp;omega);exact⟨fun i hi=>(World.cell?_of_block (w:=w) (a:=⟨1,i,none⟩) b0).trans (h.1 i hi),fun i hi=>(World.cell?_of_block (w:=w) (a:=⟨0,i,none⟩) b1).trans (h.2.1 i hi),Nat.lt_of_lt_of_le h.2.2 hG.size⟩
theorem JC{l ch:List Nat}{b:Nat->Nat}{N i m:Nat}(hN:l.length=N)(hi:i=N % 64)(hb:∀ j,j<N % 64->b j=l.getD (64*(N / 64)+j) 0)(j:Nat)(hj:j<i+m):
  (if i<=j/\j<i+m then ch.getD (j - i) 0 else b j)=(l ++ ch).getD (64*(N / 64)+j) 0:=by
 by_cases e:i<=j
 ·rw[if_pos ⟨e,hj⟩,List.getD_eq_getElem?_getD,List.getD_eq_getElem?_getD,List.getElem?_append_right (by omega),show 64*(N / 64)+j - l.length=j - i by omega]
 ·rw[if_neg (by omega),hb j (by omega),List.getD_eq_getElem?_getD,List.getD_eq_getElem?_getD,List.getElem?_append_left (by omega)]
theorem Vz{ch:List Nat}{b:Nat->Nat}{i m:Nat}(hc:Small8 ch)(hb:∀ j,b j<256)(j:Nat):(if i<=j/\j<i+m then ch.getD (j - i) 0 else b j)<256:=by
 split
 ·exact hc.get _
 ·exact hb j
theorem HASHER.step{w:World}{g:Nat}{d:Int}{l ch:List Nat}{b:Nat->Nat}{N i m:Nat}(hN:l.length=N)(hi:i=N % 64)(hm:ch.length=m)(hc:Small8 ch)(hb8:∀ j,b j<256)(hb:∀ j,j<N % 64->b j=l.getD (64*(N / 64)+j) 0)(h64:i+m<64)
  (h:Has w g (HARR d (zv d l (N / 64)) (fun j=>if i<=j/\j<i+m then ch.getD (j - i) 0 else b j) (N+m)) 134):HASHER w g d (l ++ ch):=by
 have e1:(l ++ ch).length=N+m:=by rw[List.length_append,hN,hm]
 have e2:(N+m) / 64=N / 64:=by omega
 have e3:(N+m) % 64=i+m:=by omega
 refine⟨fun j=>if i<=j/\j<i+m then ch.getD (j - i) 0 else b j,?_,Vz hc hb8,fun j hj=>?_⟩
 ·rw[e1,e2,Yp d l ch _ (by omega)]
  exact h
 ·rw[e1,e3] at hj
  rw[e1,e2];exact JC hN hi hb j hj
theorem HASHER.full{w:World}{g:Nat}{d:Int}{l ch:List Nat}{b':Nat->Nat}{N i m:Nat}(hN:l.length=N)(hi:i=N % 64)(hm:ch.length=m)(hb8:∀ j,b' j<256)(h64:i+m=64)
  (h:Has w g (HARR d (COMP d (zv d l (N / 64)) (BLK (l ++ ch) (N / 64))) b' (N+m)) 134):HASHER w g d (l ++ ch):=by
 have e1:(l ++ ch).length=N+m:=by rw[List.length_append,hN,hm]
 have e2:(N+m) / 64=N / 64+1:=by omega
 refine⟨b',?_,hb8,fun j hj=>by rw[e1] at hj;omega⟩;rw[e1,e2,zv,Yp d l ch _ (by omega)];exact h
theorem qv{w W2 w5:World}{g N i m M k gk n c':Nat}{d:Int}{l q:List Nat}{a2:Addr}{s0 s' b0:Nat->Nat}(h1:COMP d (zv d (l ++ q.take k) (N / 64)) (BLK ((l ++ q.take k) ++ (q.drop k).take m) (N / 64))=s')(h8:∀ j,b0 j<256)
  (U:Has W2 g (HARR d s0 b0 M) 134/\w.grownBy W2 (some g)/\Text W2 (some a2) (gk - m) (q.drop (k+m))/\(l ++ q.take k).length=N/\i=N % 64/\((q.drop k).take m).length=m/\i+m=64/\M=N+m/\k+gk=n/\0<gk/\a2.block≠g/\gk<=c'/\m<=gk)
  (hb:Below W2.heap.size W2 w5)(hH:Has w5 g (HARR d s0 b0 M) 134):
  ∃ (k':Nat) (a':Option Addr) (c'':Nat),k'+(gk - m)=n/\Value.slice (some a2) (gk - m) (c' - m)=.slice a' (gk - m) c''/\Aside (Text (w5.setCells g 1 (UARR .u8 32 s').toList) a' (gk - m) (q.drop k')/\HASHER (w5.setCells g 1 (UARR .u8 32 s').toList) g d (l ++ q.take k')/\w.grownBy (w5.setCells g 1 (UARR .u8 32 s').toList) (some g)/\(∀ x,a'=some x->x.block≠g)/\gk - m<=c''):=by
 obtain⟨_,b,e,f,h,o,p,r,t,u,v,y,z⟩:=U;have hg2:w5.grownBy (w5.setCells g 1 (UARR .u8 32 s').toList) (some g):=Zb g _ _ _;refine⟨k+m,some a2,c' - m,by omega,rfl,(e.below hb).grown hg2 (fun x hx=>by simp only[Option.some.injEq] at hx;rw[<-hx];exact v),?_,(kK b hb).trans hg2,fun x hx=>by simp only[Option.some.injEq] at hx;rw[<-hx];exact v,by omega⟩;rw[List.take_add,<-List.append_assoc];have hP:=hH.put_state s';rw[<-h1,r] at hP;rw[<-h1];exact HASHER.full f h o h8 p hP
theorem VC(g:Nat)(d:Int)(l q:List Nat)(a:Option Addr)(n c:Nat)(w:World)(hH:HASHER w g d l)(hT:Tabled w)(hg:1<g)(hQ:Text w a n q)(hs:∀ x,a=some x->x.block≠g)(hc:n<=c)(hl:Small8 l)(hlen:l.length+n<2 ^ 62):
  Calls Tryz.prog 60 #[.pointer (some ⟨g,0,none⟩),.slice a n c] w fun e w'=>e=.returned (.tuple #[])/\HASHER w' g d (l ++ q)/\w.grownBy w' (some g):=by
 have H:Aside (Tabled w/\1<g/\Small8 l/\l.length+n<2 ^ 62/\q.length=n/\Small8 q):=⟨hT,hg,hl,hlen,hQ.1,hQ.2.2⟩
 have I:Aside (HASHER w g d l/\Text w a n q/\(∀ x,a=some x->x.block≠g)/\n<=c):=⟨hH,hQ,hs,hc⟩
 clear hH hT hg hQ hs hc hl hlen;go_enter Tryz.func60,Tryz.ntmps60;go_wp2;go_loopg [1] n (fun r s1 wx=>∃ (k:Nat) (a':Option Addr) (c':Nat),k+r=n/\s1=.slice a' r c'/\Aside (Text wx a' r (q.drop k)/\HASHER wx g d (l ++ q.take k)/\w.grownBy wx (some g)/\(∀ x,a'=some x->x.block≠g)/\r<=c'))
 case atStart=>exact⟨0,a,c,by omega,rfl,by simpa using I.out.2.1,by simpa using I.out.1,⟨rfl,rfl,rfl,Nat.le_refl _,fun _ _ _=>rfl⟩,I.out.2.2.1,I.out.2.2.2⟩
 case round=>
  obtain⟨k,a',c',hkr,rfl,A⟩:=hrel;rcases Nat.eq_zero_or_pos gk with h0 | h0
  ·subst h0
   obtain rfl:k=n:=by omega
   obtain⟨_,hH,hG,_,_⟩:=A.out;have e:q.take k=q:=List.take_of_length_le (by have:=H.out.2.2.2.2.1;omega);rw[e] at hH;have R:Aside (HASHER wr g d (l ++ q)/\w.grownBy wr (some g)):=⟨hH,hG⟩
   clear A hH hG e;go_wp2;exact bodyPost_end (v:=.tuple #[]) (by simp[results]) rfl ⟨rfl,R.out⟩
  ·obtain⟨hX,⟨b,hHas,hb8,hbl⟩,hG,hsep,hcap⟩:=A.out
   obtain⟨pb,po,rfl,hpb,hcell⟩:=hX.2.1 h0;have hpos:(0:Int)<(gk:Int):=by omega
   have ct:wr.cell? ⟨g,97,none⟩=some (.int .u64 ((l ++ q.take k).length:Nat)):=by rw[hHas.cell,YE]
   generalize hN:(l ++ q.take k).length=N at *
   obtain⟨i,hi⟩:∃ i,i=N % 64:=⟨_,rfl⟩
   obtain⟨m,hm⟩:∃ m,m=min gk (64 - i):=⟨_,rfl⟩
   have hci:((q.drop k).take m).length=m:=by rw[List.length_take,hX.1];omega
   have hsl:=kJ g 33 i (by omega);have hit:(N:Int) % 64=(i:Int):=by omega
   have hcp:∀ ty,(Builtin.copy_ #[27,27] ty #[.slice (some ⟨g,33+i,none⟩) (64 - i) (64 - i),.slice (some ⟨pb,po,none⟩) gk c']).run Tryz.prog wr=.ok (.int .i64 (m:Int)) (wr.setCells g (33+i) (((q.drop k).take m).map fun x=>Value.int .u8 ((x:Nat):Int))):=fun ty=>by
     have h:=z1m wr ty g (33+i) (64 - i) (64 - i) pb po gk c' ((q.drop k).take m) (by rw[hci,hm]) (fun j hj=>by
      rw[hcell j (by omega)];have e:(q.drop k).getD j 0=((q.drop k).take m).getD j 0:=by rw[List.getD_eq_getElem?_getD,List.getD_eq_getElem?_getD,List.getElem?_take_of_lt (by omega)]
      rw[e]) (hHas.there _ _ (by rw[hci,yS];omega))
     rw[hci] at h;exact h
   obtain⟨a2,ha2⟩:∃ a2:Addr,a2=(if c'=m then ⟨pb,po,none⟩ else (⟨pb,po,none⟩:Addr).add m):=⟨_,rfl⟩
   have hs4:=gj ⟨pb,po,none⟩ gk c' m (by omega);rw[<-ha2] at hs4
   have hX2:Text wr (some a2) (gk - m) (q.drop (k+m))/\a2.block=pb:=by
     by_cases e:c'=m
     ·rw[if_pos e] at ha2
      have e0:gk - m=0:=by omega
      refine⟨⟨by rw[List.length_drop];have:=H.out.2.2.2.2.1;omega,fun h=>by omega,fun x hx=>H.out.2.2.2.2.2 x (List.mem_of_mem_drop hx)⟩,by rw[ha2]⟩
     ·rw[if_neg e,zY] at ha2
      refine⟨⟨by rw[List.length_drop];have:=H.out.2.2.2.2.1;omega,fun h=>⟨pb,po+m,by rw[ha2],hpb,fun j hj=>?_⟩,fun x hx=>H.out.2.2.2.2.2 x (List.mem_of_mem_drop hx)⟩,by rw[ha2]⟩;rw[show po+m+j=po+(m+j) by omega,hcell (m+j) (by omega)];have e:(q.drop k).getD (m+j) 0=(q.drop (k+m)).getD j 0:=by rw[List.getD_eq_getElem?_getD,List.getD_eq_getElem?_getD,List.getElem?_drop,List.getElem?_drop,Nat.add_assoc]
      rw[e]
   have hB:=hHas.put_block i ((q.drop k).take m) (by rw[hci];omega);rw[hci] at hB;have hGW:wr.grownBy (wr.setCells g (33+i) (((q.drop k).take m).map fun x=>Value.int .u8 ((x:Nat):Int))) (some g):=Zb g _ _ _;have hG1:w.grownBy (wr.setCells g (33+i) (((q.drop k).take m).map fun x=>Value.int .u8 ((x:Nat):Int))) (some g):=hG.trans (Zb g _ _ _);generalize wr.setCells g (33+i) (((q.drop k).take m).map fun x=>Value.int .u8 ((x:Nat):Int))=W1 at *
   have hX3:Text W1 (some a2) (gk - m) (q.drop (k+m)):=hX2.1.grown hGW (fun x hx=>by simp only[Option.some.injEq] at hx;rw[<-hx,hX2.2];exact hsep _ rfl);obtain⟨M,hM⟩:∃ M,M=N+m:=⟨_,rfl⟩
   have hw1:IntKind.u64.wrap (m:Int)=(m:Int):=by rw[zh];omega
   have hNl:N<=l.length+n:=by
     rw[<-hN,List.length_append,List.length_take];have:=H.out.2.2.2.2.1;omega
   have hw2:IntKind.u64.wrap ((N:Int)+(m:Int))=(M:Int):=by
     have:=H.out.2.2.2.1;rw[zh];omega
   have ct1:W1.cell? ⟨g,97,none⟩=some (.int .u64 (N:Nat)):=by rw[hB.cell,YE]
   have cf1:W1.frozen? ⟨g,97,none⟩=false:=hB.frozen _;have J:Aside (k+gk=n/\i=N % 64/\m=min gk (64 - i)/\gk > 0/\Has W1 g (HARR d (zv d (l ++ q.take k) (N / 64)) (fun j=>if i<=j/\j<i+m then ((q.drop k).take m).getD (j - i) 0 else b j) N) 134/\w.grownBy W1 (some g)/\gk<=c'/\pb≠g/\(∀ i,b i<256)/\(∀ i,i<N % 64->b i=(l ++ q.take k).getD (64*(N / 64)+i) 0)/\(l ++ q.take k).length=N/\M=N+m/\Text W1 (some a2) (gk - m) (q.drop (k+m))/\a2.block=pb):=⟨hkr,hi,hm,h0,hB,hG1,hcap,hsep _ rfl,hb8,hbl,hN,hM,hX3,hX2.2⟩
   clear A I hkr hi hm h0 hB hG1 hcap hsep hb8 hbl hN hX hHas hG hpb hcell hci hGW hX2 hX3 ha2 hM hNl;cases hx:((M:Int) % 64 == 0) with
   | true=>
     have hM0:M % 64=0:=by
      have:=eq_of_beq hx;omega
     go_wp2;have hgw:W1.grownBy (W1.setCell ⟨g,97,none⟩ (.int .u64 (M:Int))) (some g):=⟨rfl,rfl,rfl,by simp[World.setCell],fun k _ hk=>Below.heap_setCell _ _ _ _ (fun e=>hk (by rw[e]))⟩
     obtain⟨j1,j2,j3,j4,j5,j6,j7,j8,j9,j10,j11,j12,j13,j14⟩:=J.out
     have hch:((q.drop k).take m).length=m:=by
      rw[List.length_take,List.length_drop];have:=H.out.2.2.2.2.1;omega
     have hch8:Small8 ((q.drop k).take m):=fun x hx=>H.out.2.2.2.2.2 x (List.mem_of_mem_drop (List.mem_of_mem_take hx))
     have hl8:Small8 (l ++ q.take k):=fun x hx=>by
      rcases List.mem_append.1 hx with hx | hx
      ·exact H.out.2.2.1 x hx
      ·exact H.out.2.2.2.2.2 x (List.mem_of_mem_take hx)
     have hl9:Small8 ((l ++ q.take k) ++ (q.drop k).take m):=fun x hx=>by
      rcases List.mem_append.1 hx with hx | hx
      ·exact hl8 x hx
      ·exact hch8 x hx
     have hUB:(UARR .u8 64 fun j=>if i<=j/\j<i+m then ((q.drop k).take m).getD (j - i) 0 else b j)=UARR .u8 64 (BLK ((l ++ q.take k) ++ (q.drop k).take m) (N / 64)):=zB fun j hj=>by
      rw[JC j11 j2 j10 j (by omega)];unfold BLK;rw[if_pos hj]
     have hP:=j5.put_taken M;have cc:=fun(w:World) (hw:Tabled w)=>kH d (zv d (l ++ q.take k) (N / 64)) (BLK ((l ++ q.take k) ++ (q.drop k).take m) (N / 64)) (qL _ _ _) (Ui hl9 _) w hw;rw[<-hUB] at cc;have HT2:Aside (Tabled (W1.setCell ⟨g,97,none⟩ (.int .u64 (M:Int)))):=UV H.out.1 H.out.2.1 (j6.trans hgw);have hX4:Text (W1.setCell ⟨g,97,none⟩ (.int .u64 (M:Int))) (some a2) (gk - m) (q.drop (k+m)):=j13.grown hgw (fun x hx=>by simp only[Option.some.injEq] at hx;rw[<-hx,j14];exact j8);have U:Aside (Has (W1.setCell ⟨g,97,none⟩ (.int .u64 (M:Int))) g (HARR d (zv d (l ++ q.take k) (N / 64)) (fun j=>if i<=j/\j<i+m then ((q.drop k).take m).getD (j - i) 0 else b j) M) 134/\w.grownBy (W1.setCell ⟨g,97,none⟩ (.int .u64 (M:Int))) (some g)/\Text (W1.setCell ⟨g,97,none⟩ (.int .u64 (M:Int))) (some a2) (gk - m) (q.drop (k+m))/\(l ++ q.take k).length=N/\i=N % 64/\((q.drop k).take m).length=m/\i+m=64/\M=N+m/\k+gk=n/\0<gk/\a2.block≠g/\gk<=c'/\m<=gk):=⟨hP,j6.trans hgw,hX4,j11,j2,hch,by omega,j12,j1,j4,by rw[j14];exact j8,j7,by omega⟩
     have HB8:Aside (∀ j,(if i<=j/\j<i+m then ((q.drop k).take m).getD (j - i) 0 else b j)<256):=Vz hch8 j9;clear j1 j2 j3 j4 j5 j6 j7 j8 j9 j10 j11 j12 j13 j14 hX4 hgw hch hch8 hl8 hl9 hUB hM0 hx hw1 hw2 ct1 cf1 hs4 hcp hsl ct hit J hpos hP;generalize W1.setCell ⟨g,97,none⟩ (.int .u64 (M:Int))=W2 at *
     have E:Aside (COMP d (zv d (l ++ q.take k) (N / 64)) (BLK ((l ++ q.take k) ++ (q.drop k).take m) (N / 64))=COMP d (zv d (l ++ q.take k) (N / 64)) (BLK ((l ++ q.take k) ++ (q.drop k).take m) (N / 64))):=rfl;generalize hs':COMP d (zv d (l ++ q.take k) (N / 64)) (BLK ((l ++ q.take k) ++ (q.drop k).take m) (N / 64))=s' at cc;have HS':Aside (COMP d (zv d (l ++ q.take k) (N / 64)) (BLK ((l ++ q.take k) ++ (q.drop k).take m) (N / 64))=s'):=hs';clear hs' E;generalize hs0:zv d (l ++ q.take k) (N / 64)=s0 at cc U;have HS0:Aside (zv d (l ++ q.take k) (N / 64)=s0):=hs0;clear hs0;generalize hb0:(fun j=>if i<=j/\j<i+m then ((q.drop k).take m).getD (j - i) 0 else b j)=b0 at cc U;have HB0:Aside (∀ j,b0 j<256):=fun j=>by rw[<-hb0];exact HB8.out j
     clear hb0 HB8;have r0:W2.cell? ⟨g,0,none⟩=some (.int .i64 d):=by rw[U.out.1.cell,K8]
     have r1:=(U.out.1.drewN 1).state;have r2:=(U.out.1.drewN 1).block;have hi1:(Tryz.prog.info? 23).map (·.size)=some (zi .u8 32 s0).length:=by rw[zD];exact yr
     have hi2:(Tryz.prog.info? 97).map (·.size)=some (zi .u8 64 b0).length:=by rw[zD];exact YD
     have hgl:g<W2.heap.size:=U.out.1.lt;refine wp_region_any (by kernel_rfl) ?_;change wpAny _ _ _ _ 17 #[ff,ff,ff,ff,ff,ff,ff,ff,ff,ff,ff,ff,ff,ff,ff,ff,ff] _ (World.drew _);refine tkB ⟨some 39,.move (.tmp 0),99,"hash.go:39",#[],none⟩ (.pointer (some ⟨g,0,none⟩)) 0 (fun _ _ _ _ _ h=>h) ?_;simp only[List.set];refine tkB ⟨some 40,.move (.tmp 0),99,"hash.go:39",#[],none⟩ (.pointer (some ⟨g,0,none⟩)) 1 (fun _ _ _ _ _ h=>h) ?_;simp only[List.set];refine tkB ⟨some 41,.nilCheck (.tmp 40),0,"hash.go:39",#[⟨1,.data⟩],none⟩ (.pointer (some ⟨g,0,none⟩)) 2 (fun _ _ _ _ _ h=>h) ?_;simp only[List.set];refine tkB ⟨some 42,.fieldAddr 134 (.tmp 41) 0,0,"hash.go:39",#[⟨2,.data⟩],none⟩ (.pointer (some ⟨g,0,none⟩)) 3 (fun _ _ _ _ _ h=>h) ?_;simp only[List.set];refine tkB ⟨some 44,.move (.tmp 0),99,"hash.go:39",#[],none⟩ (.pointer (some ⟨g,0,none⟩)) 5 (fun _ _ _ _ _ h=>h) ?_;simp only[List.set];refine tkB ⟨some 45,.nilCheck (.tmp 44),0,"hash.go:39",#[⟨5,.data⟩],none⟩ (.pointer (some ⟨g,0,none⟩)) 6 (fun _ _ _ _ _ h=>h) ?_;simp only[List.set];refine tkB ⟨some 46,.fieldAddr 134 (.tmp 45) 1,0,"hash.go:39",#[⟨6,.data⟩],none⟩ (.pointer (some ⟨g,1,none⟩)) 7 (fun _ _ _ _ _ h=>h) ?_;simp only[List.set];refine tkB ⟨some 48,.move (.tmp 0),99,"hash.go:39",#[],none⟩ (.pointer (some ⟨g,0,none⟩)) 9 (fun _ _ _ _ _ h=>h) ?_;simp only[List.set]
     refine tkB ⟨some 49,.nilCheck (.tmp 48),0,"hash.go:39",#[⟨9,.data⟩],none⟩ (.pointer (some ⟨g,0,none⟩)) 10 (fun _ _ _ _ _ h=>h) ?_;simp only[List.set];refine tkB ⟨some 50,.fieldAddr 134 (.tmp 49) 2,0,"hash.go:39",#[⟨10,.data⟩],none⟩ (.pointer (some ⟨g,33,none⟩)) 11 (fun _ _ _ _ _ h=>h) ?_;simp only[List.set];refine wpAny_ready (rs:=[4,8,12]) (by kernel_rfl) (by simp) ?_;refine AllReady.cons (o:=⟨some 43,.load 3 (.tmp 42),3,"hash.go:39",#[⟨3,.data⟩],none⟩) rfl (fun K hK=>?_) ?_
     ·rw[if_pos (by rfl)]
      go_simp;refine hK _ _ ?_;clear hK K;refine wpAny_ready (rs:=[8,12]) (by kernel_rfl) (by simp) ?_;refine AllReady.cons (o:=⟨some 47,.load 23 (.tmp 46),23,"hash.go:39",#[⟨7,.data⟩],none⟩) rfl (fun K hK=>?_) ?_
      ·rw[if_pos (by rfl)]
       refine wp_load_mid _ _ rfl _ _ rfl (zi .u8 32 s0) _ r1 Tryz.underlying23 rfl hi1 ?_;refine hK _ _ ?_;clear hK K;simp only[Act.put,List.setIfInBounds_toArray,List.set_cons_zero,List.set_cons_succ];refine wpAny_ready (rs:=[12]) (by kernel_rfl) (by simp) ?_;refine AllReady.cons (o:=⟨some 51,.load 97 (.tmp 50),97,"hash.go:39",#[⟨11,.data⟩],none⟩) rfl (fun K hK=>?_) ?_
       ·rw[if_pos (by rfl)]
        refine wp_load_mid _ _ rfl _ _ rfl (zi .u8 64 b0) _ r2 Tryz.underlying97 rfl hi2 ?_;refine hK _ _ ?_;clear hK K;simp only[Act.put,List.setIfInBounds_toArray,List.set_cons_zero,List.set_cons_succ];refine wpAny_ready (rs:=[13]) (by kernel_rfl) (by simp) ?_;refine AllReady.cons (o:=⟨some 52,.call {callee:=.value (.func 98),args:=#[.tmp 43,.tmp 47,.tmp 51],argTypes:=#[3,23,97]},23,"hash.go:39",#[⟨4,.data⟩,⟨8,.data⟩,⟨12,.data⟩],none⟩) rfl (fun K hK=>?_) AllReady.nil;rw[if_pos (by rfl)];go_simp;refine(cc _ (by exact HT2.out)).mono ?_;rintro e w5 ⟨rfl,hb5⟩;have q4:=(show Has W2.drew g (HARR d s0 b0 M) 134 from U.out.1).below hb5 (by exact hgl);have R:Aside (Below W2.heap.size W2 w5/\Has w5 g (HARR d s0 b0 M) 134):=⟨(below_drewN (Below.refl _ W2) 1).trans hb5,q4⟩
        clear hb5 q4;refine hK _ _ ?_;clear hK K;refine tkB ⟨some 53,.nilCheck (.tmp 39),0,"hash.go:39",#[⟨0,.data⟩,⟨0,.phase⟩,⟨1,.phase⟩,⟨2,.phase⟩,⟨3,.phase⟩,⟨4,.phase⟩,⟨5,.phase⟩,⟨6,.phase⟩,⟨7,.phase⟩,⟨8,.phase⟩,⟨9,.phase⟩,⟨10,.phase⟩,⟨11,.phase⟩,⟨12,.phase⟩,⟨13,.phase⟩],none⟩ (.pointer (some ⟨g,0,none⟩)) 14 (fun _ _ _ _ _ h=>h) ?_;simp only[List.set];refine tkB ⟨some 54,.fieldAddr 134 (.tmp 53) 1,0,"hash.go:39",#[⟨14,.data⟩,⟨0,.phase⟩,⟨1,.phase⟩,⟨2,.phase⟩,⟨3,.phase⟩,⟨4,.phase⟩,⟨5,.phase⟩,⟨6,.phase⟩,⟨7,.phase⟩,⟨8,.phase⟩,⟨9,.phase⟩,⟨10,.phase⟩,⟨11,.phase⟩,⟨12,.phase⟩,⟨13,.phase⟩],none⟩ (.pointer (some ⟨g,1,none⟩)) 15 (fun _ _ _ _ _ h=>h) ?_;simp only[List.set];refine wpAny_ready (rs:=[16]) (by kernel_rfl) (by simp) ?_;refine AllReady.cons (o:=⟨none,.store 23 (.tmp 54) (.tmp 52),0,"hash.go:39",#[⟨15,.data⟩,⟨13,.data⟩,⟨13,.chain⟩,⟨0,.phase⟩,⟨1,.phase⟩,⟨2,.phase⟩,⟨3,.phase⟩,⟨4,.phase⟩,⟨5,.phase⟩,⟨6,.phase⟩,⟨7,.phase⟩,⟨8,.phase⟩,⟨9,.phase⟩,⟨10,.phase⟩,⟨11,.phase⟩,⟨12,.phase⟩,⟨13,.phase⟩],none⟩) rfl (fun K hK=>?_) AllReady.nil;rw[if_pos (by rfl)];refine wp_store_mid _ _ _ rfl g 1 (UARR .u8 32 s') rfl rfl (R.out.2.there _ _ (by rw[zg,yS];decide)) (zn _) (zA _ _ _) ?_;refine hK _ _ ?_;clear hK K;refine wpAny_done (by kernel_rfl) ?_ _;go_wp2;go_roundg (gk - m)
        case measure=>
         obtain⟨_,_,_,_,u5,_,u7,_,_,u10,_,_,u13⟩:=U.out;omega
        case rel=>exact qv HS'.out HB0.out U.out R.out.1 R.out.2
       exact AllReady.nil
      refine AllReady.cons (o:=⟨some 51,.load 97 (.tmp 50),97,"hash.go:39",#[⟨11,.data⟩],none⟩) rfl (fun K hK=>?_) ?_
      ·rw[if_pos (by rfl)]
       refine wp_load_mid _ _ rfl _ _ rfl (zi .u8 64 b0) _ r2 Tryz.underlying97 rfl hi2 ?_;refine hK _ _ ?_;clear hK K;simp only[Act.put,List.setIfInBounds_toArray,List.set_cons_zero,List.set_cons_succ];refine wpAny_ready (rs:=[8]) (by kernel_rfl) (by simp) ?_;refine AllReady.cons (o:=⟨some 47,.load 23 (.tmp 46),23,"hash.go:39",#[⟨7,.data⟩],none⟩) rfl (fun K hK=>?_) ?_
       ·rw[if_pos (by rfl)]
        refine wp_load_mid _ _ rfl _ _ rfl (zi .u8 32 s0) _ r1 Tryz.underlying23 rfl hi1 ?_;refine hK _ _ ?_;clear hK K;simp only[Act.put,List.setIfInBounds_toArray,List.set_cons_zero,List.set_cons_succ];refine wpAny_ready (rs:=[13]) (by kernel_rfl) (by simp) ?_;refine AllReady.cons (o:=⟨some 52,.call {callee:=.value (.func 98),args:=#[.tmp 43,.tmp 47,.tmp 51],argTypes:=#[3,23,97]},23,"hash.go:39",#[⟨4,.data⟩,⟨8,.data⟩,⟨12,.data⟩],none⟩) rfl (fun K hK=>?_) AllReady.nil;rw[if_pos (by rfl)];go_simp;refine(cc _ (by exact HT2.out)).mono ?_;rintro e w5 ⟨rfl,hb5⟩;have q4:=(show Has W2.drew g (HARR d s0 b0 M) 134 from U.out.1).below hb5 (by exact hgl);have R:Aside (Below W2.heap.size W2 w5/\Has w5 g (HARR d s0 b0 M) 134):=⟨(below_drewN (Below.refl _ W2) 1).trans hb5,q4⟩
        clear hb5 q4;refine hK _ _ ?_;clear hK K;refine tkB ⟨some 53,.nilCheck (.tmp 39),0,"hash.go:39",#[⟨0,.data⟩,⟨0,.phase⟩,⟨1,.phase⟩,⟨2,.phase⟩,⟨3,.phase⟩,⟨4,.phase⟩,⟨5,.phase⟩,⟨6,.phase⟩,⟨7,.phase⟩,⟨8,.phase⟩,⟨9,.phase⟩,⟨10,.phase⟩,⟨11,.phase⟩,⟨12,.phase⟩,⟨13,.phase⟩],none⟩ (.pointer (some ⟨g,0,none⟩)) 14 (fun _ _ _ _ _ h=>h) ?_;simp only[List.set];refine tkB ⟨some 54,.fieldAddr 134 (.tmp 53) 1,0,"hash.go:39",#[⟨14,.data⟩,⟨0,.phase⟩,⟨1,.phase⟩,⟨2,.phase⟩,⟨3,.phase⟩,⟨4,.phase⟩,⟨5,.phase⟩,⟨6,.phase⟩,⟨7,.phase⟩,⟨8,.phase⟩,⟨9,.phase⟩,⟨10,.phase⟩,⟨11,.phase⟩,⟨12,.phase⟩,⟨13,.phase⟩],none⟩ (.pointer (some ⟨g,1,none⟩)) 15 (fun _ _ _ _ _ h=>h) ?_;simp only[List.set];refine wpAny_ready (rs:=[16]) (by kernel_rfl) (by simp) ?_;refine AllReady.cons (o:=⟨none,.store 23 (.tmp 54) (.tmp 52),0,"hash.go:39",#[⟨15,.data⟩,⟨13,.data⟩,⟨13,.chain⟩,⟨0,.phase⟩,⟨1,.phase⟩,⟨2,.phase⟩,⟨3,.phase⟩,⟨4,.phase⟩,⟨5,.phase⟩,⟨6,.phase⟩,⟨7,.phase⟩,⟨8,.phase⟩,⟨9,.phase⟩,⟨10,.phase⟩,⟨11,.phase⟩,⟨12,.phase⟩,⟨13,.phase⟩],none⟩) rfl (fun K hK=>?_) AllReady.nil;rw[if_pos (by rfl)];refine wp_store_mid _ _ _ rfl g 1 (UARR .u8 32 s') rfl rfl (R.out.2.there _ _ (by rw[zg,yS];decide)) (zn _) (zA _ _ _) ?_;refine hK _ _ ?_;clear hK K;refine wpAny_done (by kernel_rfl) ?_ _;go_wp2;go_roundg (gk - m)
        case measure=>
         obtain⟨_,_,_,_,u5,_,u7,_,_,u10,_,_,u13⟩:=U.out;omega
        case rel=>exact qv HS'.out HB0.out U.out R.out.1 R.out.2
       exact AllReady.nil
      exact AllReady.nil
     refine AllReady.cons (o:=⟨some 47,.load 23 (.tmp 46),23,"hash.go:39",#[⟨7,.data⟩],none⟩) rfl (fun K hK=>?_) ?_
     ·rw[if_pos (by rfl)]
      refine wp_load_mid _ _ rfl _ _ rfl (zi .u8 32 s0) _ r1 Tryz.underlying23 rfl hi1 ?_;refine hK _ _ ?_;clear hK K;simp only[Act.put,List.setIfInBounds_toArray,List.set_cons_zero,List.set_cons_succ];refine wpAny_ready (rs:=[4,12]) (by kernel_rfl) (by simp) ?_;refine AllReady.cons (o:=⟨some 43,.load 3 (.tmp 42),3,"hash.go:39",#[⟨3,.data⟩],none⟩) rfl (fun K hK=>?_) ?_
      ·rw[if_pos (by rfl)]
       go_simp;refine hK _ _ ?_;clear hK K;refine wpAny_ready (rs:=[12]) (by kernel_rfl) (by simp) ?_;refine AllReady.cons (o:=⟨some 51,.load 97 (.tmp 50),97,"hash.go:39",#[⟨11,.data⟩],none⟩) rfl (fun K hK=>?_) ?_
       ·rw[if_pos (by rfl)]
        refine wp_load_mid _ _ rfl _ _ rfl (zi .u8 64 b0) _ r2 Tryz.underlying97 rfl hi2 ?_;refine hK _ _ ?_;clear hK K;simp only[Act.put,List.setIfInBounds_toArray,List.set_cons_zero,List.set_cons_succ];refine wpAny_ready (rs:=[13]) (by kernel_rfl) (by simp) ?_;refine AllReady.cons (o:=⟨some 52,.call {callee:=.value (.func 98),args:=#[.tmp 43,.tmp 47,.tmp 51],argTypes:=#[3,23,97]},23,"hash.go:39",#[⟨4,.data⟩,⟨8,.data⟩,⟨12,.data⟩],none⟩) rfl (fun K hK=>?_) AllReady.nil;rw[if_pos (by rfl)];go_simp;refine(cc _ (by exact HT2.out)).mono ?_;rintro e w5 ⟨rfl,hb5⟩;have q4:=(show Has W2.drew g (HARR d s0 b0 M) 134 from U.out.1).below hb5 (by exact hgl);have R:Aside (Below W2.heap.size W2 w5/\Has w5 g (HARR d s0 b0 M) 134):=⟨(below_drewN (Below.refl _ W2) 1).trans hb5,q4⟩
        clear hb5 q4;refine hK _ _ ?_;clear hK K;refine tkB ⟨some 53,.nilCheck (.tmp 39),0,"hash.go:39",#[⟨0,.data⟩,⟨0,.phase⟩,⟨1,.phase⟩,⟨2,.phase⟩,⟨3,.phase⟩,⟨4,.phase⟩,⟨5,.phase⟩,⟨6,.phase⟩,⟨7,.phase⟩,⟨8,.phase⟩,⟨9,.phase⟩,⟨10,.phase⟩,⟨11,.phase⟩,⟨12,.phase⟩,⟨13,.phase⟩],none⟩ (.pointer (some ⟨g,0,none⟩)) 14 (fun _ _ _ _ _ h=>h) ?_;simp only[List.set];refine tkB ⟨some 54,.fieldAddr 134 (.tmp 53) 1,0,"hash.go:39",#[⟨14,.data⟩,⟨0,.phase⟩,⟨1,.phase⟩,⟨2,.phase⟩,⟨3,.phase⟩,⟨4,.phase⟩,⟨5,.phase⟩,⟨6,.phase⟩,⟨7,.phase⟩,⟨8,.phase⟩,⟨9,.phase⟩,⟨10,.phase⟩,⟨11,.phase⟩,⟨12,.phase⟩,⟨13,.phase⟩],none⟩ (.pointer (some ⟨g,1,none⟩)) 15 (fun _ _ _ _ _ h=>h) ?_;simp only[List.set];refine wpAny_ready (rs:=[16]) (by kernel_rfl) (by simp) ?_;refine AllReady.cons (o:=⟨none,.store 23 (.tmp 54) (.tmp 52),0,"hash.go:39",#[⟨15,.data⟩,⟨13,.data⟩,⟨13,.chain⟩,⟨0,.phase⟩,⟨1,.phase⟩,⟨2,.phase⟩,⟨3,.phase⟩,⟨4,.phase⟩,⟨5,.phase⟩,⟨6,.phase⟩,⟨7,.phase⟩,⟨8,.phase⟩,⟨9,.phase⟩,⟨10,.phase⟩,⟨11,.phase⟩,⟨12,.phase⟩,⟨13,.phase⟩],none⟩) rfl (fun K hK=>?_) AllReady.nil;rw[if_pos (by rfl)];refine wp_store_mid _ _ _ rfl g 1 (UARR .u8 32 s') rfl rfl (R.out.2.there _ _ (by rw[zg,yS];decide)) (zn _) (zA _ _ _) ?_;refine hK _ _ ?_;clear hK K;refine wpAny_done (by kernel_rfl) ?_ _;go_wp2;go_roundg (gk - m)
        case measure=>
         obtain⟨_,_,_,_,u5,_,u7,_,_,u10,_,_,u13⟩:=U.out;omega
        case rel=>exact qv HS'.out HB0.out U.out R.out.1 R.out.2
       exact AllReady.nil
      refine AllReady.cons (o:=⟨some 51,.load 97 (.tmp 50),97,"hash.go:39",#[⟨11,.data⟩],none⟩) rfl (fun K hK=>?_) ?_
      ·rw[if_pos (by rfl)]
       refine wp_load_mid _ _ rfl _ _ rfl (zi .u8 64 b0) _ r2 Tryz.underlying97 rfl hi2 ?_;refine hK _ _ ?_;clear hK K;simp only[Act.put,List.setIfInBounds_toArray,List.set_cons_zero,List.set_cons_succ];refine wpAny_ready (rs:=[4]) (by kernel_rfl) (by simp) ?_;refine AllReady.cons (o:=⟨some 43,.load 3 (.tmp 42),3,"hash.go:39",#[⟨3,.data⟩],none⟩) rfl (fun K hK=>?_) ?_
       ·rw[if_pos (by rfl)]
        go_simp;refine hK _ _ ?_;clear hK K;refine wpAny_ready (rs:=[13]) (by kernel_rfl) (by simp) ?_;refine AllReady.cons (o:=⟨some 52,.call {callee:=.value (.func 98),args:=#[.tmp 43,.tmp 47,.tmp 51],argTypes:=#[3,23,97]},23,"hash.go:39",#[⟨4,.data⟩,⟨8,.data⟩,⟨12,.data⟩],none⟩) rfl (fun K hK=>?_) AllReady.nil;rw[if_pos (by rfl)];go_simp;refine(cc _ (by exact HT2.out)).mono ?_;rintro e w5 ⟨rfl,hb5⟩;have q4:=(show Has W2.drew g (HARR d s0 b0 M) 134 from U.out.1).below hb5 (by exact hgl);have R:Aside (Below W2.heap.size W2 w5/\Has w5 g (HARR d s0 b0 M) 134):=⟨(below_drewN (Below.refl _ W2) 1).trans hb5,q4⟩
        clear hb5 q4;refine hK _ _ ?_;clear hK K;refine tkB ⟨some 53,.nilCheck (.tmp 39),0,"hash.go:39",#[⟨0,.data⟩,⟨0,.phase⟩,⟨1,.phase⟩,⟨2,.phase⟩,⟨3,.phase⟩,⟨4,.phase⟩,⟨5,.phase⟩,⟨6,.phase⟩,⟨7,.phase⟩,⟨8,.phase⟩,⟨9,.phase⟩,⟨10,.phase⟩,⟨11,.phase⟩,⟨12,.phase⟩,⟨13,.phase⟩],none⟩ (.pointer (some ⟨g,0,none⟩)) 14 (fun _ _ _ _ _ h=>h) ?_;simp only[List.set];refine tkB ⟨some 54,.fieldAddr 134 (.tmp 53) 1,0,"hash.go:39",#[⟨14,.data⟩,⟨0,.phase⟩,⟨1,.phase⟩,⟨2,.phase⟩,⟨3,.phase⟩,⟨4,.phase⟩,⟨5,.phase⟩,⟨6,.phase⟩,⟨7,.phase⟩,⟨8,.phase⟩,⟨9,.phase⟩,⟨10,.phase⟩,⟨11,.phase⟩,⟨12,.phase⟩,⟨13,.phase⟩],none⟩ (.pointer (some ⟨g,1,none⟩)) 15 (fun _ _ _ _ _ h=>h) ?_;simp only[List.set];refine wpAny_ready (rs:=[16]) (by kernel_rfl) (by simp) ?_;refine AllReady.cons (o:=⟨none,.store 23 (.tmp 54) (.tmp 52),0,"hash.go:39",#[⟨15,.data⟩,⟨13,.data⟩,⟨13,.chain⟩,⟨0,.phase⟩,⟨1,.phase⟩,⟨2,.phase⟩,⟨3,.phase⟩,⟨4,.phase⟩,⟨5,.phase⟩,⟨6,.phase⟩,⟨7,.phase⟩,⟨8,.phase⟩,⟨9,.phase⟩,⟨10,.phase⟩,⟨11,.phase⟩,⟨12,.phase⟩,⟨13,.phase⟩],none⟩) rfl (fun K hK=>?_) AllReady.nil;rw[if_pos (by rfl)];refine wp_store_mid _ _ _ rfl g 1 (UARR .u8 32 s') rfl rfl (R.out.2.there _ _ (by rw[zg,yS];decide)) (zn _) (zA _ _ _) ?_;refine hK _ _ ?_;clear hK K;refine wpAny_done (by kernel_rfl) ?_ _;go_wp2;go_roundg (gk - m)
        case measure=>
         obtain⟨_,_,_,_,u5,_,u7,_,_,u10,_,_,u13⟩:=U.out;omega
        case rel=>exact qv HS'.out HB0.out U.out R.out.1 R.out.2
       exact AllReady.nil
      exact AllReady.nil
     refine AllReady.cons (o:=⟨some 51,.load 97 (.tmp 50),97,"hash.go:39",#[⟨11,.data⟩],none⟩) rfl (fun K hK=>?_) ?_
     ·rw[if_pos (by rfl)]
      refine wp_load_mid _ _ rfl _ _ rfl (zi .u8 64 b0) _ r2 Tryz.underlying97 rfl hi2 ?_;refine hK _ _ ?_;clear hK K;simp only[Act.put,List.setIfInBounds_toArray,List.set_cons_zero,List.set_cons_succ];refine wpAny_ready (rs:=[4,8]) (by kernel_rfl) (by simp) ?_;refine AllReady.cons (o:=⟨some 43,.load 3 (.tmp 42),3,"hash.go:39",#[⟨3,.data⟩],none⟩) rfl (fun K hK=>?_) ?_
      ·rw[if_pos (by rfl)]
       go_simp;refine hK _ _ ?_;clear hK K;refine wpAny_ready (rs:=[8]) (by kernel_rfl) (by simp) ?_;refine AllReady.cons (o:=⟨some 47,.load 23 (.tmp 46),23,"hash.go:39",#[⟨7,.data⟩],none⟩) rfl (fun K hK=>?_) ?_
       ·rw[if_pos (by rfl)]
        refine wp_load_mid _ _ rfl _ _ rfl (zi .u8 32 s0) _ r1 Tryz.underlying23 rfl hi1 ?_;refine hK _ _ ?_;clear hK K;simp only[Act.put,List.setIfInBounds_toArray,List.set_cons_zero,List.set_cons_succ];refine wpAny_ready (rs:=[13]) (by kernel_rfl) (by simp) ?_;refine AllReady.cons (o:=⟨some 52,.call {callee:=.value (.func 98),args:=#[.tmp 43,.tmp 47,.tmp 51],argTypes:=#[3,23,97]},23,"hash.go:39",#[⟨4,.data⟩,⟨8,.data⟩,⟨12,.data⟩],none⟩) rfl (fun K hK=>?_) AllReady.nil;rw[if_pos (by rfl)];go_simp;refine(cc _ (by exact HT2.out)).mono ?_;rintro e w5 ⟨rfl,hb5⟩;have q4:=(show Has W2.drew g (HARR d s0 b0 M) 134 from U.out.1).below hb5 (by exact hgl);have R:Aside (Below W2.heap.size W2 w5/\Has w5 g (HARR d s0 b0 M) 134):=⟨(below_drewN (Below.refl _ W2) 1).trans hb5,q4⟩
        clear hb5 q4;refine hK _ _ ?_;clear hK K;refine tkB ⟨some 53,.nilCheck (.tmp 39),0,"hash.go:39",#[⟨0,.data⟩,⟨0,.phase⟩,⟨1,.phase⟩,⟨2,.phase⟩,⟨3,.phase⟩,⟨4,.phase⟩,⟨5,.phase⟩,⟨6,.phase⟩,⟨7,.phase⟩,⟨8,.phase⟩,⟨9,.phase⟩,⟨10,.phase⟩,⟨11,.phase⟩,⟨12,.phase⟩,⟨13,.phase⟩],none⟩ (.pointer (some ⟨g,0,none⟩)) 14 (fun _ _ _ _ _ h=>h) ?_;simp only[List.set];refine tkB ⟨some 54,.fieldAddr 134 (.tmp 53) 1,0,"hash.go:39",#[⟨14,.data⟩,⟨0,.phase⟩,⟨1,.phase⟩,⟨2,.phase⟩,⟨3,.phase⟩,⟨4,.phase⟩,⟨5,.phase⟩,⟨6,.phase⟩,⟨7,.phase⟩,⟨8,.phase⟩,⟨9,.phase⟩,⟨10,.phase⟩,⟨11,.phase⟩,⟨12,.phase⟩,⟨13,.phase⟩],none⟩ (.pointer (some ⟨g,1,none⟩)) 15 (fun _ _ _ _ _ h=>h) ?_;simp only[List.set];refine wpAny_ready (rs:=[16]) (by kernel_rfl) (by simp) ?_;refine AllReady.cons (o:=⟨none,.store 23 (.tmp 54) (.tmp 52),0,"hash.go:39",#[⟨15,.data⟩,⟨13,.data⟩,⟨13,.chain⟩,⟨0,.phase⟩,⟨1,.phase⟩,⟨2,.phase⟩,⟨3,.phase⟩,⟨4,.phase⟩,⟨5,.phase⟩,⟨6,.phase⟩,⟨7,.phase⟩,⟨8,.phase⟩,⟨9,.phase⟩,⟨10,.phase⟩,⟨11,.phase⟩,⟨12,.phase⟩,⟨13,.phase⟩],none⟩) rfl (fun K hK=>?_) AllReady.nil;rw[if_pos (by rfl)];refine wp_store_mid _ _ _ rfl g 1 (UARR .u8 32 s') rfl rfl (R.out.2.there _ _ (by rw[zg,yS];decide)) (zn _) (zA _ _ _) ?_;refine hK _ _ ?_;clear hK K;refine wpAny_done (by kernel_rfl) ?_ _;go_wp2;go_roundg (gk - m)
        case measure=>
         obtain⟨_,_,_,_,u5,_,u7,_,_,u10,_,_,u13⟩:=U.out;omega
        case rel=>exact qv HS'.out HB0.out U.out R.out.1 R.out.2
       exact AllReady.nil
      refine AllReady.cons (o:=⟨some 47,.load 23 (.tmp 46),23,"hash.go:39",#[⟨7,.data⟩],none⟩) rfl (fun K hK=>?_) ?_
      ·rw[if_pos (by rfl)]
       refine wp_load_mid _ _ rfl _ _ rfl (zi .u8 32 s0) _ r1 Tryz.underlying23 rfl hi1 ?_;refine hK _ _ ?_;clear hK K;simp only[Act.put,List.setIfInBounds_toArray,List.set_cons_zero,List.set_cons_succ];refine wpAny_ready (rs:=[4]) (by kernel_rfl) (by simp) ?_;refine AllReady.cons (o:=⟨some 43,.load 3 (.tmp 42),3,"hash.go:39",#[⟨3,.data⟩],none⟩) rfl (fun K hK=>?_) ?_
       ·rw[if_pos (by rfl)]
        go_simp;refine hK _ _ ?_;clear hK K;refine wpAny_ready (rs:=[13]) (by kernel_rfl) (by simp) ?_;refine AllReady.cons (o:=⟨some 52,.call {callee:=.value (.func 98),args:=#[.tmp 43,.tmp 47,.tmp 51],argTypes:=#[3,23,97]},23,"hash.go:39",#[⟨4,.data⟩,⟨8,.data⟩,⟨12,.data⟩],none⟩) rfl (fun K hK=>?_) AllReady.nil;rw[if_pos (by rfl)];go_simp;refine(cc _ (by exact HT2.out)).mono ?_;rintro e w5 ⟨rfl,hb5⟩;have q4:=(show Has W2.drew g (HARR d s0 b0 M) 134 from U.out.1).below hb5 (by exact hgl);have R:Aside (Below W2.heap.size W2 w5/\Has w5 g (HARR d s0 b0 M) 134):=⟨(below_drewN (Below.refl _ W2) 1).trans hb5,q4⟩
        clear hb5 q4;refine hK _ _ ?_;clear hK K;refine tkB ⟨some 53,.nilCheck (.tmp 39),0,"hash.go:39",#[⟨0,.data⟩,⟨0,.phase⟩,⟨1,.phase⟩,⟨2,.phase⟩,⟨3,.phase⟩,⟨4,.phase⟩,⟨5,.phase⟩,⟨6,.phase⟩,⟨7,.phase⟩,⟨8,.phase⟩,⟨9,.phase⟩,⟨10,.phase⟩,⟨11,.phase⟩,⟨12,.phase⟩,⟨13,.phase⟩],none⟩ (.pointer (some ⟨g,0,none⟩)) 14 (fun _ _ _ _ _ h=>h) ?_;simp only[List.set];refine tkB ⟨some 54,.fieldAddr 134 (.tmp 53) 1,0,"hash.go:39",#[⟨14,.data⟩,⟨0,.phase⟩,⟨1,.phase⟩,⟨2,.phase⟩,⟨3,.phase⟩,⟨4,.phase⟩,⟨5,.phase⟩,⟨6,.phase⟩,⟨7,.phase⟩,⟨8,.phase⟩,⟨9,.phase⟩,⟨10,.phase⟩,⟨11,.phase⟩,⟨12,.phase⟩,⟨13,.phase⟩],none⟩ (.pointer (some ⟨g,1,none⟩)) 15 (fun _ _ _ _ _ h=>h) ?_;simp only[List.set];refine wpAny_ready (rs:=[16]) (by kernel_rfl) (by simp) ?_;refine AllReady.cons (o:=⟨none,.store 23 (.tmp 54) (.tmp 52),0,"hash.go:39",#[⟨15,.data⟩,⟨13,.data⟩,⟨13,.chain⟩,⟨0,.phase⟩,⟨1,.phase⟩,⟨2,.phase⟩,⟨3,.phase⟩,⟨4,.phase⟩,⟨5,.phase⟩,⟨6,.phase⟩,⟨7,.phase⟩,⟨8,.phase⟩,⟨9,.phase⟩,⟨10,.phase⟩,⟨11,.phase⟩,⟨12,.phase⟩,⟨13,.phase⟩],none⟩) rfl (fun K hK=>?_) AllReady.nil;rw[if_pos (by rfl)];refine wp_store_mid _ _ _ rfl g 1 (UARR .u8 32 s') rfl rfl (R.out.2.there _ _ (by rw[zg,yS];decide)) (zn _) (zA _ _ _) ?_;refine hK _ _ ?_;clear hK K;refine wpAny_done (by kernel_rfl) ?_ _;go_wp2;go_roundg (gk - m)
        case measure=>
         obtain⟨_,_,_,_,u5,_,u7,_,_,u10,_,_,u13⟩:=U.out;omega
        case rel=>exact qv HS'.out HB0.out U.out R.out.1 R.out.2
       exact AllReady.nil
      exact AllReady.nil
     exact AllReady.nil
   | false=>
     have hM0:M % 64≠0:=by
      have:=beq_eq_false_iff_ne.1 hx;omega
     have HM0:Aside (M % 64≠0):=hM0;clear hM0;go_wp2;go_roundg (gk - m)
     case measure=>
      obtain⟨j1,j2,j3,j4,j5,j6,j7,j8,j9,j10,j11,j12,j13,j14⟩:=J.out;omega
     case rel=>
      obtain⟨j1,j2,j3,j4,j5,j6,j7,j8,j9,j10,j11,j12,j13,j14⟩:=J.out;have hM0:=HM0.out;have hgw:W1.grownBy (W1.setCell ⟨g,97,none⟩ (.int .u64 (M:Int))) (some g):=⟨rfl,rfl,rfl,by simp[World.setCell],fun k _ hk=>Below.heap_setCell _ _ _ _ (fun e=>hk (by rw[e]))⟩
      have hch:((q.drop k).take m).length=m:=by
       rw[List.length_take,List.length_drop];have:=H.out.2.2.2.2.1;omega
      refine⟨k+m,some a2,c' - m,by omega,rfl,j13.grown hgw (fun x hx=>by simp only[Option.some.injEq] at hx;rw[<-hx,j14];exact j8),?_,j6.trans hgw,fun x hx=>by simp only[Option.some.injEq] at hx;rw[<-hx,j14];exact j8,by omega⟩;rw[List.take_add,<-List.append_assoc];have hP:=j5.put_taken M;rw[j12] at hP ⊢;exact HASHER.step j11 j2 hch (fun x hx=>H.out.2.2.2.2.2 x (List.mem_of_mem_drop (List.mem_of_mem_take hx))) j9 j10 (by omega) hP
theorem XA(x n:Int)(w:World):Calls Tryz.prog 145 #[.int .u64 x,.int .i64 n] w fun e w'=>e=.returned (.int .u64 (if n<0 then IntKind.u64.wrap (x*2 ^ min (IntKind.u64.wrap (-IntKind.u64.wrap n)).toNat 64) else x / 2 ^ min (IntKind.u64.wrap n).toNat 64))/\w=w':=by
 by_cases h:n<0
 ·rw[if_pos h]
  go_enter Tryz.func145,Tryz.ntmps145;go_wp2;go_ret;exact⟨rfl,rfl⟩
 ·rw[if_neg h]
  go_enter Tryz.func145,Tryz.ntmps145;go_wp2;go_ret;exact⟨rfl,rfl⟩
theorem qW(X:Nat)(n:Int)(hX:X<2 ^ 64)(h0 : -(2 ^ 63)<=n)(h1:n<2 ^ 63)(w:World):Calls Tryz.prog 145 #[.int .u64 (X:Int),.int .i64 n] w fun e w'=>e=.returned (.int .u64 ((SHR X n:Nat):Int))/\w=w':=
 (XA X n w).mono fun e w' h=>by rw[J4 hX h0 h1] at h;exact h
theorem G0{F f:Nat->Int}{i:Nat}{v:Int}(A:∀ j,f j=if j<i then F j else 0)(hv:v=F i):∀ j,(if j=i then v else f j)=if j<i+1 then F j else 0:=fun j=>by
 by_cases e:j=i
 ·subst e
  simp[hv]
 ·rw[if_neg e,A j]
  by_cases e2:j<i
  ·rw[if_pos e2,if_pos (by omega)]
  ·rw[if_neg e2,if_neg (by omega)]
theorem z1n(x:Int)(n:Nat)(F:Nat->Int)(hn:(n:Int)<=8)(w:World)(c:∀ w,Calls Tryz.prog 145 #[.int .u64 x,.int .i64 (8*(n:Int))] w fun e w'=>e=.returned (.int .u64 0)/\w=w')
  (ci:∀ i:Nat,i<n->∃ s:Int,Aside (s % 256=F i)/\∀ w,Calls Tryz.prog 145 #[.int .u64 x,.int .i64 (8*((n:Int) - 1 - (i:Int)))] w fun e w'=>e=.returned (.int .u64 s)/\w=w'):
  Calls Tryz.prog 137 #[.int .u64 x,.int .i64 (n:Int)] w fun e w'=>e=.returned (.tuple #[.slice (some ⟨w.heap.size,0,none⟩) n n,.int .i64 0])/\w.alloc (.cells (BARR n F) 5)=w':=by
 have hmk:=KY n (by omega);have CI:Aside (∀ i:Nat,i<n->∃ s:Int,Aside (s % 256=F i)/\∀ w,Calls Tryz.prog 145 #[.int .u64 x,.int .i64 (8*((n:Int) - 1 - (i:Int)))] w fun e w'=>e=.returned (.int .u64 s)/\w=w'):=ci;clear ci;go_enter Tryz.func137,Tryz.ntmps137;go_wp2_with fail
 refine(c _).mono ?_;rintro e w' ⟨rfl,rfl⟩;go_wp2;go_loopg [23] n (fun g s23 wx=>∃ (i:Nat) (f:Nat->Int),i+g=n/\Aside (∀ j,f j=if j<i then F j else 0)/\s23=.int .i64 i/\wx=w.alloc (.cells (BARR n f) 5))
 case atStart=>exact⟨0,fun _=>0,by omega,fun j=>by simp,rfl,rfl⟩
 case round=>
  obtain⟨i,f,hig,A,rfl,rfl⟩:=hrel;cases gk with
  | zero=>
    obtain rfl:i=n:=by omega
    have hf:BARR i f=BARR i F:=MF fun j hj=>by rw[A.out j,if_pos hj]
    rw[hf];clear hf A;go_wp2;go_ret2;exact⟨rfl,rfl⟩
  | succ g=>
    have hi:(i:Int)<(n:Int):=by omega
    have hc:(BARR n f)[i]?=some (.int .u8 (f i)):=qJ n f i (by omega);have hs:∀ v,(BARR n f).setIfInBounds i (.int .u8 v)=BARR n (fun j=>if j=i then v else f j):=fun v=>Vv n f i v;obtain⟨s,hsF,cs⟩:=CI.out i (by omega);go_wp2_with fail
    refine(cs _).mono ?_;rintro e w' ⟨rfl,rfl⟩;go_wp2;go_roundg g
    case measure=>omega
    case rel=>exact⟨i+1,_,by omega,G0 A.out hsF.out,by go_num,rfl⟩
def BYTE(X n:Nat):Nat->Int:=fun i=>((X / 2 ^ (8*(n - 1 - i)) % 256:Nat):Int)
theorem z2e(X n:Nat)(hX:X<2 ^ 64)(hn:n<=8)(h:X / 2 ^ (8*n)=0)(w:World):
  Calls Tryz.prog 137 #[.int .u64 (X:Int),.int .i64 (n:Int)] w fun e w'=>e=.returned (.tuple #[.slice (some ⟨w.heap.size,0,none⟩) n n,.int .i64 0])/\w.alloc (.cells (BARR n (BYTE X n)) 5)=w':=by
 refine z1n X n (BYTE X n) (by omega) w (fun w=>?_) (fun i hi=>?_)
 ·have k:=qW X (8*(n:Int)) hX (by omega) (by omega) w
  have hs:SHR X (8*(n:Int))=0:=by
   unfold SHR;rw[if_neg (by omega),show (8*(n:Int)).toNat=8*n by omega,h]
  rw[hs] at k;exact k
 ·refine⟨(SHR X (8*((n:Int) - 1 - (i:Int))):Nat),?_,fun w=>qW X _ hX (by omega) (by omega) w⟩
  unfold SHR BYTE Aside;rw[if_neg (by omega),show (8*((n:Int) - 1 - (i:Int))).toNat=8*(n - 1 - i) by omega];simp
def za(l:List Int):List Value:=l.map (Value.int .u8)
theorem yp(a b:List Int):za (a ++ b)=za a ++ za b:=by simp[za]
theorem zN(l:List Int)(i:Nat)(h:i<l.length):(za l)[i]?=some (.int .u8 (l.getD i 0)):=by
 simp[za,h,List.getD_eq_getElem?_getD]
theorem yf(l:List Int):∀ u∈za l,u.oneCell'=true:=fun u hu=>by
 simp[za] at hu;obtain⟨x,_,rfl⟩:=hu;rfl
theorem qk:∃ i,Tryz.prog.info? 5=some i/\i.zero=some (.int .u8 0)/\i.size=1/\i.bytes=1:=by
 obtain⟨i,hi,h⟩:=Option.map_eq_some_iff.1 zU;simp only[Prod.mk.injEq] at h;exact⟨i,hi,h.1,h.2.1,h.2.2⟩
theorem zM{ops:Array Oper}{rest:List Oper}{o:Oper}{a:Act}{Q:Exit->Act->World->Prop}(w:World)(hgd:o.guard=none)(s x:Operand)
  (ho:o.op=.call {callee:=.builtin .append,args:=#[s,x],argTypes:=#[27,27]})
  (base:Nat) (v:Value) (n:Nat) (xs:List Int) (hs:a.eval s=v) (hown:w.ownsRow base 5 1 v n (za xs))
  (b off m c:Nat) (l:List Int) (hx:a.eval x=.slice (some ⟨b,off,none⟩) m c) (hB:Bytes w (some ⟨b,off,none⟩) m l)
  (hm:0<m) (hb:n+m<=140737488355328) (hbase:base<=w.heap.size)
  (h:∀ g cap w',w'.ownsRow base 5 1 (.slice (some ⟨g,0,none⟩) (n+m) cap) (n+m) (za (xs ++ l))->w.grownBy w' v.ownBlock->g<w'.heap.size->wpList Tryz.prog ops Q rest (a.put o.dst (.slice (some ⟨g,0,none⟩) (n+m) cap)) w'):wpList Tryz.prog ops Q (o :: rest) a w:=by
 obtain⟨i,hi,hz,hs1,hby⟩:=qk;obtain⟨b',off',e,_,hc⟩:=hB.2.1 hm;simp only[Option.some.injEq,Addr.mk.injEq] at e;obtain⟨rfl,rfl,_⟩:=e;refine wpList_append_lies w hgd s x 27 ho base 5 i (.int .u8 0) 1 1 Tryz.underlying27 hi hz hs1 hby rfl (by decide) v n (za xs) hs hown ⟨b,off,none⟩ m c (za l) hx (by simp[za,hB.1]) ?_ (yf l) hm (by simp only[maxLen];omega) (by omega) hbase w.heap.size rfl ?_
 ·intro j u hj
  have hjl:j<l.length:=by
   have:=(List.getElem?_eq_some_iff.1 hj).1;simpa[za] using this
  rw[zN l j hjl] at hj;rw[zY,hc j (by rw[<-hB.1];exact hjl)];exact hj
 ·intro g cap w' h1 h2 _ h4
  rw[<-yp] at h1;exact h g cap w' h1 h2 h4
theorem Ze(w:World)(row:Option Nat):w.grownBy w row:=⟨rfl,rfl,rfl,Nat.le_refl _,fun _ _ _=>rfl⟩
theorem Xa{ops:Array Oper}{rest:List Oper}{o:Oper}{a:Act}{Q:Exit->Act->World->Prop}(w:World)(hgd:o.guard=none)(s x:Operand)
   (ho:o.op=.call {callee:=.builtin .append,args:=#[s,x],argTypes:=#[27,27]})
   (base:Nat) (v:Value) (n:Nat) (xs:List Int) (hs:a.eval s=v) (hown:w.ownsRow base 5 1 v n (za xs))
   (ao:Option Addr) (c:Nat) (hx:a.eval x=.slice ao 0 c) (hc:ao=none->c=0) (hn:n<=140737488355328) (hbase:base<=w.heap.size)
   (h:∀ a' c' w',w'.ownsRow base 5 1 (.slice a' n c') n (za xs)->w.grownBy w' v.ownBlock->wpList Tryz.prog ops Q rest (a.put o.dst (.slice a' n c')) w'):wpList Tryz.prog ops Q (o :: rest) a w:=by
 obtain⟨i,hi,hz,hs1,hby⟩:=qk
 have form:∀ (v':Value) (w':World),w'.ownsRow base 5 1 v' n (za xs)->∃ a' c',v'=.slice a' n c':=fun v' w' h=>by
   rcases h.2 with ⟨rfl,rfl⟩ | ⟨g,cap,cur,rfl,_⟩
   ·exact⟨none,0,rfl⟩
   ·exact⟨_,cap,rfl⟩
 cases ao with
 | none=>
   obtain rfl:=hc rfl;refine wpList_append_own_none hgd s x 27 ho base 5 i 1 Tryz.underlying27 hi v n (za xs) hs hown hx ?_;obtain⟨a',c',rfl⟩:=form v w hown;exact h a' c' w hown (Ze _ _)
 | some ad=>
   refine wpList_append_own w hgd s x 27 ho base 5 i (.int .u8 0) 1 1 Tryz.underlying27 hi hz hs1 hby rfl (by decide) v n (za xs) hs hown ad 0 c [] hx rfl (fun j u hj=>by simp at hj) (fun u hu=>by simp at hu) (by simp only[maxLen];omega) (by omega) hbase ?_;intro v' w' h1 h2 _;simp only[Nat.add_zero,List.append_nil] at h1;obtain⟨a',c',rfl⟩:=form v' w' h1;exact h a' c' w' h1 h2
theorem yL{w:World}{base g n cap:Nat}{l:List Int}(h:w.ownsRow base 5 1 (.slice (some ⟨g,0,none⟩) n cap) n (za l))(hg:g<w.heap.size)(hl:∀ x∈l,0<=x/\x<=255):Bytes w (some ⟨g,0,none⟩) n l:=by
 have hlen:l.length=n:=by have:=h.1;simpa[za] using this
 refine⟨hlen,fun _=>⟨g,0,rfl,hg,fun i hi=>?_⟩,hl⟩;rw[Nat.zero_add,h.cellAt i (by omega),zN l i (by omega)]
theorem YR(w:World)(base:Nat)(hb:base<=w.heap.size):(w.alloc (.cells #[] 5)).ownsRow base 5 1 (.slice (some ⟨w.heap.size,0,none⟩) 0 0) 0 (za []):=
 World.ownsRow_lit w #[] 0 hb (by simp[maxLen]) rfl
theorem Zo(w:World)(n:Nat)(f:Nat->Int)(l:List Int)(hl:l.length=n)(hf:∀ i,i<n->f i=l.getD i 0)(hr:∀ x∈l,0<=x/\x<=255):Bytes (w.alloc (.cells (BARR n f) 5)) (some ⟨w.heap.size,0,none⟩) n l:=by
 refine⟨hl,fun _=>⟨w.heap.size,0,rfl,by simp,fun i hi=>?_⟩,hr⟩;rw[Nat.zero_add,World.cell?_alloc_at _ _ _ _ rfl,qJ n f i hi,hf i hi]
theorem jW{w:World}{base n c:Nat}{a:Option Addr}{l:List Int}(h:w.ownsRow base 5 1 (.slice a n c) n (za l))(hl:∀ x∈l,0<=x/\x<=255):Bytes w a n l/\n<=c:=by
 rcases h.2 with ⟨hv,hn⟩ | ⟨g,cap,cur,hv,_,hg,hc,_⟩
 ·simp only[Value.slice.injEq] at hv
  obtain⟨rfl,rfl,rfl⟩:=hv;have:l=[]:=by have:=h.1;simpa[za] using this
  subst this;exact⟨⟨rfl,fun h=>by omega,fun x hx=>by simp at hx⟩,Nat.le_refl _⟩
 ·simp only[Value.slice.injEq] at hv
  obtain⟨rfl,_,rfl⟩:=hv;exact⟨yL h (Array.getElem?_eq_some_iff.1 hg).1 hl,hc⟩
theorem jF{ops:Array Oper}{rest:List Oper}{o:Oper}{a:Act}{Q:Exit->Act->World->Prop}(w:World)(hgd:o.guard=none)(s x:Operand)
  (ho:o.op=.call {callee:=.builtin .append,args:=#[s,x],argTypes:=#[27,27]})
  (base:Nat) (v:Value) (n:Nat) (xs:List Int) (hs:a.eval s=v) (hown:w.ownsRow base 5 1 v n (za xs))
  (ao:Option Addr) (m c:Nat) (l:List Int) (hx:a.eval x=.slice ao m c) (hB:Bytes w ao m l) (hc:ao=none->c=0)
  (N:Nat) (L:List Int) (hN:n+m=N) (hL:xs ++ l=L) (hb:N<=140737488355328) (hbase:base<=w.heap.size)
  (h:∀ a' c' w',w'.ownsRow base 5 1 (.slice a' N c') N (za L)->w.grownBy w' v.ownBlock->wpList Tryz.prog ops Q rest (a.put o.dst (.slice a' N c')) w'):wpList Tryz.prog ops Q (o :: rest) a w:=by
 subst hN hL;rcases Nat.eq_zero_or_pos m with hm | hm
 ·subst hm
  have hl:l=[]:=by have:=hB.1;simpa using this
  subst hl;refine Xa w hgd s x ho base v n xs hs hown ao c hx hc (by omega) hbase ?_;simpa using h
 ·obtain⟨b,off,rfl,_,_⟩:=hB.2.1 hm
  refine zM w hgd s x ho base v n xs hs hown b off m c l hx hB hm hb hbase ?_;intro g cap w' h1 h2 _;exact h _ cap w' h1 h2
end HX
end Go.Proofs.YtobaogpomcocpaaGreatDoor
