/- Texts of SpanVerifies, one behind the other: HashWrite. -/
import Derived.Test.YthdpkaiieomdoaaGreatDoorSpanVerifiesP8
namespace Go.Proofs.YthdpkaiieomdoaaGreatDoor.HX
open Go.RowKit
set_option maxRecDepth 100000
theorem zam (a:Addr) (r c k:Nat) (hk:k≤r) (w:World):(Instr.slice 26 (.slice (some a) r c) (some (.int .i64 (k:Int))) none none).run Tryz.prog w=.ok (.slice (some (if c=k then a else a.add k)) (r - k) (c - k)) w:=by
  obtain ⟨i8,hi,h8⟩:=Option.map_eq_some_iff.1 z0I
  simp only [Prod.mk.injEq] at h8
  have he:Tryz.prog.elem 26=5:=by kernel_rfl
  have hu:Tryz.prog.underlying 26=some (.slice (Tryz.prog.elem 26)):=by kernel_rfl
  rw [run_slice_l (P:=Tryz.prog) w 26 (some a) r c hu .i64 (k:Int) (by omega) (by omega),he]
  simp [sizeOf,typeInfo,hi,h8.2.1,sliced]
  split <;> rfl
theorem z8D (b o i:Nat) (h:i<64) (w:World):(Instr.sliceAt 147 (.pointer (some ⟨b,o,none⟩)) (some (.int .u64 (i:Int))) none none).run Tryz.prog w=.ok (.slice (some ⟨b,o+i,none⟩) (64 - i) (64 - i)) w:=by
  have hn:Tryz.prog.arrayLen 147=64:=by kernel_rfl
  rw [run_sliceAt_array_l w 147 ⟨b,o,none⟩ (by kernel_rfl) .u64 (i:Int) (by omega) (by rw [hn];omega),hn]
  have he:Tryz.prog.elem 147=5:=by kernel_rfl
  obtain ⟨i8,hi,h8⟩:=Option.map_eq_some_iff.1 z0I
  simp only [Prod.mk.injEq] at h8
  rw [he]
  simp [sizeOf,typeInfo,hi,h8.2.1,slicedAt]
  rw [if_neg (by omega)]
  simp [Addr.add]
theorem zeg (w:World) (ty:TypeId) (b o dLen dCap pb po sLen sCap:Nat) (q:List Nat) (hn:q.length=min sLen dLen) (hsrc:∀ j,j<q.length→w.cell? ⟨pb,po+j,none⟩=some (.int .u8 ((q.getD j 0:Nat):Int))) (ht:w.there b o q.length):
    (Builtin.copy_ #[26,26] ty #[.slice (some ⟨b,o,none⟩) dLen dCap,.slice (some ⟨pb,po,none⟩) sLen sCap]).run Tryz.prog w=.ok (.int .i64 (q.length:Int)) (w.setCells b o (q.map fun x=>Value.int .u8 ((x:Nat):Int))):=by
  have hs:(Tryz.prog.info? 5).map (·.size)=some 1:=by
    obtain ⟨i8,hi,h8⟩:=Option.map_eq_some_iff.1 z0I
    simp only [Prod.mk.injEq] at h8
    rw [hi]
    simp [h8.2.1]
  have h:=run_copy_cells (P:=Tryz.prog) w 26 26 ty 5 b o dLen dCap ⟨pb,po,none⟩ sLen sCap (q.map fun x=>Value.int .u8 ((x:Nat):Int)) Tryz.underlying26 hs (by rw [List.length_map];exact hn)
    (fun j v hv=>by
      have hj:j<q.length:=by have:=(List.getElem?_eq_some_iff.1 hv).1;rwa [List.length_map] at this
      rw [z0H,hsrc j hj]
      rw [List.getElem?_map,List.getElem?_eq_getElem hj] at hv
      rw [List.getD_eq_getElem?_getD,List.getElem?_eq_getElem hj]
      exact hv)
    (fun j hj=>(ht j (by rwa [List.length_map] at hj)).1) (fun j hj=>(ht j (by rwa [List.length_map] at hj)).2)
    (fun v hv=>by
      simp at hv
      obtain ⟨x,_,rfl⟩:=hv
      rfl)
  rw [List.length_map] at h
  exact h
theorem z2i (g:Nat):∀ (vs:List Value) (o:Nat) (w:World),w.grownBy (w.setCells g o vs) (some g)
  | [],_,_=>⟨rfl,rfl,rfl,Nat.le_refl _,fun _ _ _=>rfl⟩
  | v :: vs,o,w=>by
    have h1:w.grownBy (w.setCell ⟨g,o,none⟩ v) (some g):=⟨rfl,rfl,rfl,by simp [World.setCell],fun k _ hk=>Below.heap_setCell _ _ _ _ (fun e=>hk (by rw [e]))⟩
    exact h1.trans (z2i g vs (o+1) _)
theorem z8E {g:Nat} {a b c:World} (h:a.grownBy b (some g)) (k:Below b.heap.size b c):a.grownBy c (some g):=
  ⟨k.os.trans h.os,k.tape.trans h.tape,k.output.trans h.output,Nat.le_trans h.size k.size,fun i hi hn=>(k.block i (Nat.lt_of_lt_of_le hi h.size)).trans (h.block i hi hn)⟩
theorem z7F {w w':World} {g:Nat} (h:Tabled w) (hg:1<g) (hG:w.grownBy w' (some g)):Tabled w':=by
  have b0:=hG.block 1 (by have:=h.2.2;omega) (by simp;omega)
  have b1:=hG.block 0 (by have:=h.2.2;omega) (by simp;omega)
  exact ⟨fun i hi=>(World.cell?_of_block (w:=w) (a:=⟨1,i,none⟩) b0).trans (h.1 i hi),fun i hi=>(World.cell?_of_block (w:=w) (a:=⟨0,i,none⟩) b1).trans (h.2.1 i hi),Nat.lt_of_lt_of_le h.2.2 hG.size⟩
theorem z4W {l ch:List Nat} {b:Nat→Nat} {N i m:Nat} (hN:l.length=N) (hi:i=N % 64) (hb:∀ j,j<N % 64→b j=l.getD (64*(N / 64)+j) 0) (j:Nat) (hj:j<i+m):
    (if i≤j∧j<i+m then ch.getD (j - i) 0 else b j)=(l ++ ch).getD (64*(N / 64)+j) 0:=by
  by_cases e:i≤j
  · rw [if_pos ⟨e,hj⟩,List.getD_eq_getElem?_getD,List.getD_eq_getElem?_getD,List.getElem?_append_right (by omega),show 64*(N / 64)+j - l.length=j - i by omega]
  · rw [if_neg (by omega),hb j (by omega),List.getD_eq_getElem?_getD,List.getD_eq_getElem?_getD,List.getElem?_append_left (by omega)]
theorem z7G {ch:List Nat} {b:Nat→Nat} {i m:Nat} (hc:Small8 ch) (hb:∀ j,b j<256) (j:Nat):(if i≤j∧j<i+m then ch.getD (j - i) 0 else b j)<256:=by
  split
  · exact hc.get _
  · exact hb j
theorem HASHER.step {w:World} {g:Nat} {d:Int} {l ch:List Nat} {b:Nat→Nat} {N i m:Nat} (hN:l.length=N) (hi:i=N % 64) (hm:ch.length=m) (hc:Small8 ch) (hb8:∀ j,b j<256) (hb:∀ j,j<N % 64→b j=l.getD (64*(N / 64)+j) 0) (h64:i+m<64)
    (h:Has w g (HARR d (z0l d l (N / 64)) (fun j=>if i≤j∧j<i+m then ch.getD (j - i) 0 else b j) (N+m)) 184):HASHER w g d (l ++ ch):=by
  have e1:(l ++ ch).length=N+m:=by rw [List.length_append,hN,hm]
  have e2:(N+m) / 64=N / 64:=by omega
  have e3:(N+m) % 64=i+m:=by omega
  refine ⟨fun j=>if i≤j∧j<i+m then ch.getD (j - i) 0 else b j,?_,z7G hc hb8,fun j hj=>?_⟩
  · rw [e1,e2,z2X d l ch _ (by omega)]
    exact h
  · rw [e1,e3] at hj
    rw [e1,e2]
    exact z4W hN hi hb j hj
theorem HASHER.full {w:World} {g:Nat} {d:Int} {l ch:List Nat} {b':Nat→Nat} {N i m:Nat} (hN:l.length=N) (hi:i=N % 64) (hm:ch.length=m) (hb8:∀ j,b' j<256) (h64:i+m=64)
    (h:Has w g (HARR d (COMP d (z0l d l (N / 64)) (BLK (l ++ ch) (N / 64))) b' (N+m)) 184):HASHER w g d (l ++ ch):=by
  have e1:(l ++ ch).length=N+m:=by rw [List.length_append,hN,hm]
  have e2:(N+m) / 64=N / 64+1:=by omega
  refine ⟨b',?_,hb8,fun j hj=>by rw [e1] at hj;omega⟩
  rw [e1,e2,z0l,z2X d l ch _ (by omega)]
  exact h
theorem z1G {w W2 w5:World} {g N i m M k gk n c':Nat} {d:Int} {l q:List Nat} {a2:Addr} {s0 s' b0:Nat→Nat} (h1:COMP d (z0l d (l ++ q.take k) (N / 64)) (BLK ((l ++ q.take k) ++ (q.drop k).take m) (N / 64))=s') (h8:∀ j,b0 j<256)
    (U:Has W2 g (HARR d s0 b0 M) 184∧w.grownBy W2 (some g)∧Text W2 (some a2) (gk - m) (q.drop (k+m))∧(l ++ q.take k).length=N∧i=N % 64∧((q.drop k).take m).length=m∧i+m=64∧M=N+m∧k+gk=n∧0<gk∧a2.block≠g∧gk≤c'∧m≤gk)
    (hb:Below W2.heap.size W2 w5) (hH:Has w5 g (HARR d s0 b0 M) 184):
    ∃ (k':Nat) (a':Option Addr) (c'':Nat),k'+(gk - m)=n∧Value.slice (some a2) (gk - m) (c' - m)=.slice a' (gk - m) c''∧Aside (Text (w5.setCells g 1 (UARR .u8 32 s').toList) a' (gk - m) (q.drop k')∧HASHER (w5.setCells g 1 (UARR .u8 32 s').toList) g d (l ++ q.take k')∧w.grownBy (w5.setCells g 1 (UARR .u8 32 s').toList) (some g)∧(∀ x,a'=some x→x.block≠g)∧gk - m≤c''):=by
  obtain ⟨_,u2,u3,u4,u5,u6,u7,u8,u9,u10,u11,u12,u13⟩:=U
  have hg2:w5.grownBy (w5.setCells g 1 (UARR .u8 32 s').toList) (some g):=z2i g _ _ _
  refine ⟨k+m,some a2,c' - m,by omega,rfl,(u3.below hb).grown hg2 (fun x hx=>by simp only [Option.some.injEq] at hx;rw [← hx];exact u11),?_,(z8E u2 hb).trans hg2,fun x hx=>by simp only [Option.some.injEq] at hx;rw [← hx];exact u11,by omega⟩
  rw [List.take_add,← List.append_assoc]
  have hP:=hH.put_state s'
  rw [← h1,u8] at hP
  rw [← h1]
  exact HASHER.full u4 u5 u6 h8 u7 hP
set_option maxHeartbeats 2000000 in
theorem z7H (g:Nat) (d:Int) (l q:List Nat) (a:Option Addr) (n c:Nat) (w:World) (hH:HASHER w g d l) (hT:Tabled w) (hg:1<g) (hQ:Text w a n q) (hs:∀ x,a=some x→x.block≠g) (hc:n≤c) (hl:Small8 l) (hlen:l.length+n<2 ^ 62):
    Calls Tryz.prog 92 #[.pointer (some ⟨g,0,none⟩),.slice a n c] w fun e w'=>e=.returned (.tuple #[])∧HASHER w' g d (l ++ q)∧w.grownBy w' (some g):=by
  have H:Aside (Tabled w∧1<g∧Small8 l∧l.length+n<2 ^ 62∧q.length=n∧Small8 q):=⟨hT,hg,hl,hlen,hQ.1,hQ.2.2⟩
  have I:Aside (HASHER w g d l∧Text w a n q∧(∀ x,a=some x→x.block≠g)∧n≤c):=⟨hH,hQ,hs,hc⟩
  clear hH hT hg hQ hs hc hl hlen
  go_enter Tryz.func92,Tryz.ntmps92
  go_wp2
  go_loopg [1] n (fun r s1 wx=>∃ (k:Nat) (a':Option Addr) (c':Nat),k+r=n∧s1=.slice a' r c'∧Aside (Text wx a' r (q.drop k)∧HASHER wx g d (l ++ q.take k)∧w.grownBy wx (some g)∧(∀ x,a'=some x→x.block≠g)∧r≤c'))
  case atStart=>exact ⟨0,a,c,by omega,rfl,by simpa using I.out.2.1,by simpa using I.out.1,⟨rfl,rfl,rfl,Nat.le_refl _,fun _ _ _=>rfl⟩,I.out.2.2.1,I.out.2.2.2⟩
  case round=>
    obtain ⟨k,a',c',hkr,rfl,A⟩:=hrel
    rcases Nat.eq_zero_or_pos gk with h0 | h0
    · subst h0
      obtain rfl:k=n:=by omega
      obtain ⟨_,hH,hG,_,_⟩:=A.out
      have e:q.take k=q:=List.take_of_length_le (by have:=H.out.2.2.2.2.1;omega)
      rw [e] at hH
      have R:Aside (HASHER wr g d (l ++ q)∧w.grownBy wr (some g)):=⟨hH,hG⟩
      clear A hH hG e
      go_wp2
      exact bodyPost_end (v:=.tuple #[]) (by simp [results]) rfl ⟨rfl,R.out⟩
    · obtain ⟨hX,⟨b,hHas,hb8,hbl⟩,hG,hsep,hcap⟩:=A.out
      obtain ⟨pb,po,rfl,hpb,hcell⟩:=hX.2.1 h0
      have hpos:(0:Int)<(gk:Int):=by omega
      have ct:wr.cell? ⟨g,97,none⟩=some (.int .u64 ((l ++ q.take k).length:Nat)):=by rw [hHas.cell,z3B]
      generalize hN:(l ++ q.take k).length=N at *
      obtain ⟨i,hi⟩:∃ i,i=N % 64:=⟨_,rfl⟩
      obtain ⟨m,hm⟩:∃ m,m=min gk (64 - i):=⟨_,rfl⟩
      have hci:((q.drop k).take m).length=m:=by rw [List.length_take,hX.1];omega
      have hsl:=z8D g 33 i (by omega)
      have hit:(N:Int) % 64=(i:Int):=by omega
      have hcp:∀ ty,(Builtin.copy_ #[26,26] ty #[.slice (some ⟨g,33+i,none⟩) (64 - i) (64 - i),.slice (some ⟨pb,po,none⟩) gk c']).run Tryz.prog wr=.ok (.int .i64 (m:Int)) (wr.setCells g (33+i) (((q.drop k).take m).map fun x=>Value.int .u8 ((x:Nat):Int))):=fun ty=>by
        have h:=zeg wr ty g (33+i) (64 - i) (64 - i) pb po gk c' ((q.drop k).take m) (by rw [hci,hm]) (fun j hj=>by
          rw [hcell j (by omega)]
          have e:(q.drop k).getD j 0=((q.drop k).take m).getD j 0:=by rw [List.getD_eq_getElem?_getD,List.getD_eq_getElem?_getD,List.getElem?_take_of_lt (by omega)]
          rw [e]) (hHas.there _ _ (by rw [hci,z0Y];omega))
        rw [hci] at h
        exact h
      obtain ⟨a2,ha2⟩:∃ a2:Addr,a2=(if c'=m then ⟨pb,po,none⟩ else (⟨pb,po,none⟩:Addr).add m):=⟨_,rfl⟩
      have hs4:=zam ⟨pb,po,none⟩ gk c' m (by omega)
      rw [← ha2] at hs4
      have hX2:Text wr (some a2) (gk - m) (q.drop (k+m))∧a2.block=pb:=by
        by_cases e:c'=m
        · rw [if_pos e] at ha2
          have e0:gk - m=0:=by omega
          refine ⟨⟨by rw [List.length_drop];have:=H.out.2.2.2.2.1;omega,fun h=>by omega,fun x hx=>H.out.2.2.2.2.2 x (List.mem_of_mem_drop hx)⟩,by rw [ha2]⟩
        · rw [if_neg e,z0H] at ha2
          refine ⟨⟨by rw [List.length_drop];have:=H.out.2.2.2.2.1;omega,fun h=>⟨pb,po+m,by rw [ha2],hpb,fun j hj=>?_⟩,fun x hx=>H.out.2.2.2.2.2 x (List.mem_of_mem_drop hx)⟩,by rw [ha2]⟩
          rw [show po+m+j=po+(m+j) by omega,hcell (m+j) (by omega)]
          have e:(q.drop k).getD (m+j) 0=(q.drop (k+m)).getD j 0:=by rw [List.getD_eq_getElem?_getD,List.getD_eq_getElem?_getD,List.getElem?_drop,List.getElem?_drop,Nat.add_assoc]
          rw [e]
      have hB:=hHas.put_block i ((q.drop k).take m) (by rw [hci];omega)
      rw [hci] at hB
      have hGW:wr.grownBy (wr.setCells g (33+i) (((q.drop k).take m).map fun x=>Value.int .u8 ((x:Nat):Int))) (some g):=z2i g _ _ _
      have hG1:w.grownBy (wr.setCells g (33+i) (((q.drop k).take m).map fun x=>Value.int .u8 ((x:Nat):Int))) (some g):=hG.trans (z2i g _ _ _)
      generalize wr.setCells g (33+i) (((q.drop k).take m).map fun x=>Value.int .u8 ((x:Nat):Int))=W1 at *
      have hX3:Text W1 (some a2) (gk - m) (q.drop (k+m)):=hX2.1.grown hGW (fun x hx=>by simp only [Option.some.injEq] at hx;rw [← hx,hX2.2];exact hsep _ rfl)
      obtain ⟨M,hM⟩:∃ M,M=N+m:=⟨_,rfl⟩
      have hw1:IntKind.u64.wrap (m:Int)=(m:Int):=by rw [z09];omega
      have hNl:N≤l.length+n:=by
        rw [← hN,List.length_append,List.length_take]
        have:=H.out.2.2.2.2.1
        omega
      have hw2:IntKind.u64.wrap ((N:Int)+(m:Int))=(M:Int):=by
        have:=H.out.2.2.2.1
        rw [z09]
        omega
      have ct1:W1.cell? ⟨g,97,none⟩=some (.int .u64 (N:Nat)):=by rw [hB.cell,z3B]
      have cf1:W1.frozen? ⟨g,97,none⟩=false:=hB.frozen _
      have J:Aside (k+gk=n∧i=N % 64∧m=min gk (64 - i)∧gk > 0∧Has W1 g (HARR d (z0l d (l ++ q.take k) (N / 64)) (fun j=>if i≤j∧j<i+m then ((q.drop k).take m).getD (j - i) 0 else b j) N) 184∧w.grownBy W1 (some g)∧gk≤c'∧pb≠g∧(∀ i,b i<256)∧(∀ i,i<N % 64→b i=(l ++ q.take k).getD (64*(N / 64)+i) 0)∧(l ++ q.take k).length=N∧M=N+m∧Text W1 (some a2) (gk - m) (q.drop (k+m))∧a2.block=pb):=⟨hkr,hi,hm,h0,hB,hG1,hcap,hsep _ rfl,hb8,hbl,hN,hM,hX3,hX2.2⟩
      clear A I hkr hi hm h0 hB hG1 hcap hsep hb8 hbl hN hX hHas hG hpb hcell hci hGW hX2 hX3 ha2 hM hNl
      cases hx:((M:Int) % 64 == 0) with
      | true=>
        have hM0:M % 64=0:=by
          have:=eq_of_beq hx
          omega
        go_wp2
        have hgw:W1.grownBy (W1.setCell ⟨g,97,none⟩ (.int .u64 (M:Int))) (some g):=⟨rfl,rfl,rfl,by simp [World.setCell],fun k _ hk=>Below.heap_setCell _ _ _ _ (fun e=>hk (by rw [e]))⟩
        obtain ⟨j1,j2,j3,j4,j5,j6,j7,j8,j9,j10,j11,j12,j13,j14⟩:=J.out
        have hch:((q.drop k).take m).length=m:=by
          rw [List.length_take,List.length_drop]
          have:=H.out.2.2.2.2.1
          omega
        have hch8:Small8 ((q.drop k).take m):=fun x hx=>H.out.2.2.2.2.2 x (List.mem_of_mem_drop (List.mem_of_mem_take hx))
        have hl8:Small8 (l ++ q.take k):=fun x hx=>by
          rcases List.mem_append.1 hx with hx | hx
          · exact H.out.2.2.1 x hx
          · exact H.out.2.2.2.2.2 x (List.mem_of_mem_take hx)
        have hl9:Small8 ((l ++ q.take k) ++ (q.drop k).take m):=fun x hx=>by
          rcases List.mem_append.1 hx with hx | hx
          · exact hl8 x hx
          · exact hch8 x hx
        have hUB:(UARR .u8 64 fun j=>if i≤j∧j<i+m then ((q.drop k).take m).getD (j - i) 0 else b j)=UARR .u8 64 (BLK ((l ++ q.take k) ++ (q.drop k).take m) (N / 64)):=z0g fun j hj=>by
          rw [z4W j11 j2 j10 j (by omega)]
          unfold BLK
          rw [if_pos hj]
        have hP:=j5.put_taken M
        have cc:=fun (w:World) (hw:Tabled w)=>z8B d (z0l d (l ++ q.take k) (N / 64)) (BLK ((l ++ q.take k) ++ (q.drop k).take m) (N / 64)) (z2W _ _ _) (zbB hl9 _) w hw
        rw [← hUB] at cc
        have HT2:Aside (Tabled (W1.setCell ⟨g,97,none⟩ (.int .u64 (M:Int)))):=z7F H.out.1 H.out.2.1 (j6.trans hgw)
        have hX4:Text (W1.setCell ⟨g,97,none⟩ (.int .u64 (M:Int))) (some a2) (gk - m) (q.drop (k+m)):=j13.grown hgw (fun x hx=>by simp only [Option.some.injEq] at hx;rw [← hx,j14];exact j8)
        have U:Aside (Has (W1.setCell ⟨g,97,none⟩ (.int .u64 (M:Int))) g (HARR d (z0l d (l ++ q.take k) (N / 64)) (fun j=>if i≤j∧j<i+m then ((q.drop k).take m).getD (j - i) 0 else b j) M) 184∧w.grownBy (W1.setCell ⟨g,97,none⟩ (.int .u64 (M:Int))) (some g)∧Text (W1.setCell ⟨g,97,none⟩ (.int .u64 (M:Int))) (some a2) (gk - m) (q.drop (k+m))∧(l ++ q.take k).length=N∧i=N % 64∧((q.drop k).take m).length=m∧i+m=64∧M=N+m∧k+gk=n∧0<gk∧a2.block≠g∧gk≤c'∧m≤gk):=⟨hP,j6.trans hgw,hX4,j11,j2,hch,by omega,j12,j1,j4,by rw [j14];exact j8,j7,by omega⟩
        have HB8:Aside (∀ j,(if i≤j∧j<i+m then ((q.drop k).take m).getD (j - i) 0 else b j)<256):=z7G hch8 j9
        clear j1 j2 j3 j4 j5 j6 j7 j8 j9 j10 j11 j12 j13 j14 hX4 hgw hch hch8 hl8 hl9 hUB hM0 hx hw1 hw2 ct1 cf1 hs4 hcp hsl ct hit J hpos hP
        generalize W1.setCell ⟨g,97,none⟩ (.int .u64 (M:Int))=W2 at *
        have E:Aside (COMP d (z0l d (l ++ q.take k) (N / 64)) (BLK ((l ++ q.take k) ++ (q.drop k).take m) (N / 64))=COMP d (z0l d (l ++ q.take k) (N / 64)) (BLK ((l ++ q.take k) ++ (q.drop k).take m) (N / 64))):=rfl
        generalize hs':COMP d (z0l d (l ++ q.take k) (N / 64)) (BLK ((l ++ q.take k) ++ (q.drop k).take m) (N / 64))=s' at cc
        have HS':Aside (COMP d (z0l d (l ++ q.take k) (N / 64)) (BLK ((l ++ q.take k) ++ (q.drop k).take m) (N / 64))=s'):=hs'
        clear hs' E
        generalize hs0:z0l d (l ++ q.take k) (N / 64)=s0 at cc U
        have HS0:Aside (z0l d (l ++ q.take k) (N / 64)=s0):=hs0
        clear hs0
        generalize hb0:(fun j=>if i≤j∧j<i+m then ((q.drop k).take m).getD (j - i) 0 else b j)=b0 at cc U
        have HB0:Aside (∀ j,b0 j<256):=fun j=>by rw [← hb0];exact HB8.out j
        clear hb0 HB8
        have r0:W2.cell? ⟨g,0,none⟩=some (.int .i64 d):=by rw [U.out.1.cell,zai]
        have r1:=(U.out.1.drewN 1).state
        have r2:=(U.out.1.drewN 1).block
        have hi1:(Tryz.prog.info? 23).map (·.size)=some (z06 .u8 32 s0).length:=by rw [z08];exact z0B
        have hi2:(Tryz.prog.info? 147).map (·.size)=some (z06 .u8 64 b0).length:=by rw [z08];exact z3y
        have hgl:g<W2.heap.size:=U.out.1.lt
        refine wp_region_any (by kernel_rfl) ?_
        change wpAny _ _ _ _ 17 #[false,false,false,false,false,false,false,false,false,false,false,false,false,false,false,false,false] _ (World.drew _)
        refine tkB ⟨some 39,.move (.tmp 0),149,"hash.go:39",#[],none⟩ (.pointer (some ⟨g,0,none⟩)) 0 (fun _ _ _ _ _ h=>h) ?_
        simp only [List.set]
        refine tkB ⟨some 40,.move (.tmp 0),149,"hash.go:39",#[],none⟩ (.pointer (some ⟨g,0,none⟩)) 1 (fun _ _ _ _ _ h=>h) ?_
        simp only [List.set]
        refine tkB ⟨some 41,.nilCheck (.tmp 40),0,"hash.go:39",#[⟨1,.data⟩],none⟩ (.pointer (some ⟨g,0,none⟩)) 2 (fun _ _ _ _ _ h=>h) ?_
        simp only [List.set]
        refine tkB ⟨some 42,.fieldAddr 184 (.tmp 41) 0,0,"hash.go:39",#[⟨2,.data⟩],none⟩ (.pointer (some ⟨g,0,none⟩)) 3 (fun _ _ _ _ _ h=>h) ?_
        simp only [List.set]
        refine tkB ⟨some 44,.move (.tmp 0),149,"hash.go:39",#[],none⟩ (.pointer (some ⟨g,0,none⟩)) 5 (fun _ _ _ _ _ h=>h) ?_
        simp only [List.set]
        refine tkB ⟨some 45,.nilCheck (.tmp 44),0,"hash.go:39",#[⟨5,.data⟩],none⟩ (.pointer (some ⟨g,0,none⟩)) 6 (fun _ _ _ _ _ h=>h) ?_
        simp only [List.set]
        refine tkB ⟨some 46,.fieldAddr 184 (.tmp 45) 1,0,"hash.go:39",#[⟨6,.data⟩],none⟩ (.pointer (some ⟨g,1,none⟩)) 7 (fun _ _ _ _ _ h=>h) ?_
        simp only [List.set]
        refine tkB ⟨some 48,.move (.tmp 0),149,"hash.go:39",#[],none⟩ (.pointer (some ⟨g,0,none⟩)) 9 (fun _ _ _ _ _ h=>h) ?_
        simp only [List.set]
        refine tkB ⟨some 49,.nilCheck (.tmp 48),0,"hash.go:39",#[⟨9,.data⟩],none⟩ (.pointer (some ⟨g,0,none⟩)) 10 (fun _ _ _ _ _ h=>h) ?_
        simp only [List.set]
        refine tkB ⟨some 50,.fieldAddr 184 (.tmp 49) 2,0,"hash.go:39",#[⟨10,.data⟩],none⟩ (.pointer (some ⟨g,33,none⟩)) 11 (fun _ _ _ _ _ h=>h) ?_
        simp only [List.set]
        refine wpAny_ready (rs:=[4,8,12]) (by kernel_rfl) (by simp) ?_
        refine AllReady.cons (o:=⟨some 43,.load 3 (.tmp 42),3,"hash.go:39",#[⟨3,.data⟩],none⟩) rfl (fun K hK=>?_) ?_
        · rw [if_pos (by rfl)]
          go_simp
          refine hK _ _ ?_
          clear hK K
          refine wpAny_ready (rs:=[8,12]) (by kernel_rfl) (by simp) ?_
          refine AllReady.cons (o:=⟨some 47,.load 23 (.tmp 46),23,"hash.go:39",#[⟨7,.data⟩],none⟩) rfl (fun K hK=>?_) ?_
          · rw [if_pos (by rfl)]
            refine wp_load_mid _ _ rfl _ _ rfl (z06 .u8 32 s0) _ r1 Tryz.underlying23 rfl hi1 ?_
            refine hK _ _ ?_
            clear hK K
            simp only [Act.put,List.setIfInBounds_toArray,List.set_cons_zero,List.set_cons_succ]
            refine wpAny_ready (rs:=[12]) (by kernel_rfl) (by simp) ?_
            refine AllReady.cons (o:=⟨some 51,.load 147 (.tmp 50),147,"hash.go:39",#[⟨11,.data⟩],none⟩) rfl (fun K hK=>?_) ?_
            · rw [if_pos (by rfl)]
              refine wp_load_mid _ _ rfl _ _ rfl (z06 .u8 64 b0) _ r2 Tryz.underlying147 rfl hi2 ?_
              refine hK _ _ ?_
              clear hK K
              simp only [Act.put,List.setIfInBounds_toArray,List.set_cons_zero,List.set_cons_succ]
              refine wpAny_ready (rs:=[13]) (by kernel_rfl) (by simp) ?_
              refine AllReady.cons (o:=⟨some 52,.call {callee:=.value (.func 136),args:=#[.tmp 43,.tmp 47,.tmp 51],argTypes:=#[3,23,147]},23,"hash.go:39",#[⟨4,.data⟩,⟨8,.data⟩,⟨12,.data⟩],none⟩) rfl (fun K hK=>?_) AllReady.nil
              rw [if_pos (by rfl)]
              go_simp
              refine (cc _ (by exact HT2.out)).mono ?_
              rintro e w5 ⟨rfl,hb5⟩
              have q4:=(show Has W2.drew g (HARR d s0 b0 M) 184 from U.out.1).below hb5 (by exact hgl)
              have R:Aside (Below W2.heap.size W2 w5∧Has w5 g (HARR d s0 b0 M) 184):=⟨(below_drewN (Below.refl _ W2) 1).trans hb5,q4⟩
              clear hb5 q4
              refine hK _ _ ?_
              clear hK K
              refine tkB ⟨some 53,.nilCheck (.tmp 39),0,"hash.go:39",#[⟨0,.data⟩,⟨0,.phase⟩,⟨1,.phase⟩,⟨2,.phase⟩,⟨3,.phase⟩,⟨4,.phase⟩,⟨5,.phase⟩,⟨6,.phase⟩,⟨7,.phase⟩,⟨8,.phase⟩,⟨9,.phase⟩,⟨10,.phase⟩,⟨11,.phase⟩,⟨12,.phase⟩,⟨13,.phase⟩],none⟩ (.pointer (some ⟨g,0,none⟩)) 14 (fun _ _ _ _ _ h=>h) ?_
              simp only [List.set]
              refine tkB ⟨some 54,.fieldAddr 184 (.tmp 53) 1,0,"hash.go:39",#[⟨14,.data⟩,⟨0,.phase⟩,⟨1,.phase⟩,⟨2,.phase⟩,⟨3,.phase⟩,⟨4,.phase⟩,⟨5,.phase⟩,⟨6,.phase⟩,⟨7,.phase⟩,⟨8,.phase⟩,⟨9,.phase⟩,⟨10,.phase⟩,⟨11,.phase⟩,⟨12,.phase⟩,⟨13,.phase⟩],none⟩ (.pointer (some ⟨g,1,none⟩)) 15 (fun _ _ _ _ _ h=>h) ?_
              simp only [List.set]
              refine wpAny_ready (rs:=[16]) (by kernel_rfl) (by simp) ?_
              refine AllReady.cons (o:=⟨none,.store 23 (.tmp 54) (.tmp 52),0,"hash.go:39",#[⟨15,.data⟩,⟨13,.data⟩,⟨13,.chain⟩,⟨0,.phase⟩,⟨1,.phase⟩,⟨2,.phase⟩,⟨3,.phase⟩,⟨4,.phase⟩,⟨5,.phase⟩,⟨6,.phase⟩,⟨7,.phase⟩,⟨8,.phase⟩,⟨9,.phase⟩,⟨10,.phase⟩,⟨11,.phase⟩,⟨12,.phase⟩,⟨13,.phase⟩],none⟩) rfl (fun K hK=>?_) AllReady.nil
              rw [if_pos (by rfl)]
              refine wp_store_mid _ _ _ rfl g 1 (UARR .u8 32 s') rfl rfl (R.out.2.there _ _ (by rw [z01,z0Y];decide)) (z02 _) (z0e _ _ _) ?_
              refine hK _ _ ?_
              clear hK K
              refine wpAny_done (by kernel_rfl) ?_ _
              go_wp2
              go_roundg (gk - m)
              case measure=>
                obtain ⟨_,_,_,_,u5,_,u7,_,_,u10,_,_,u13⟩:=U.out
                omega
              case rel=>exact z1G HS'.out HB0.out U.out R.out.1 R.out.2
            exact AllReady.nil
          refine AllReady.cons (o:=⟨some 51,.load 147 (.tmp 50),147,"hash.go:39",#[⟨11,.data⟩],none⟩) rfl (fun K hK=>?_) ?_
          · rw [if_pos (by rfl)]
            refine wp_load_mid _ _ rfl _ _ rfl (z06 .u8 64 b0) _ r2 Tryz.underlying147 rfl hi2 ?_
            refine hK _ _ ?_
            clear hK K
            simp only [Act.put,List.setIfInBounds_toArray,List.set_cons_zero,List.set_cons_succ]
            refine wpAny_ready (rs:=[8]) (by kernel_rfl) (by simp) ?_
            refine AllReady.cons (o:=⟨some 47,.load 23 (.tmp 46),23,"hash.go:39",#[⟨7,.data⟩],none⟩) rfl (fun K hK=>?_) ?_
            · rw [if_pos (by rfl)]
              refine wp_load_mid _ _ rfl _ _ rfl (z06 .u8 32 s0) _ r1 Tryz.underlying23 rfl hi1 ?_
              refine hK _ _ ?_
              clear hK K
              simp only [Act.put,List.setIfInBounds_toArray,List.set_cons_zero,List.set_cons_succ]
              refine wpAny_ready (rs:=[13]) (by kernel_rfl) (by simp) ?_
              refine AllReady.cons (o:=⟨some 52,.call {callee:=.value (.func 136),args:=#[.tmp 43,.tmp 47,.tmp 51],argTypes:=#[3,23,147]},23,"hash.go:39",#[⟨4,.data⟩,⟨8,.data⟩,⟨12,.data⟩],none⟩) rfl (fun K hK=>?_) AllReady.nil
              rw [if_pos (by rfl)]
              go_simp
              refine (cc _ (by exact HT2.out)).mono ?_
              rintro e w5 ⟨rfl,hb5⟩
              have q4:=(show Has W2.drew g (HARR d s0 b0 M) 184 from U.out.1).below hb5 (by exact hgl)
              have R:Aside (Below W2.heap.size W2 w5∧Has w5 g (HARR d s0 b0 M) 184):=⟨(below_drewN (Below.refl _ W2) 1).trans hb5,q4⟩
              clear hb5 q4
              refine hK _ _ ?_
              clear hK K
              refine tkB ⟨some 53,.nilCheck (.tmp 39),0,"hash.go:39",#[⟨0,.data⟩,⟨0,.phase⟩,⟨1,.phase⟩,⟨2,.phase⟩,⟨3,.phase⟩,⟨4,.phase⟩,⟨5,.phase⟩,⟨6,.phase⟩,⟨7,.phase⟩,⟨8,.phase⟩,⟨9,.phase⟩,⟨10,.phase⟩,⟨11,.phase⟩,⟨12,.phase⟩,⟨13,.phase⟩],none⟩ (.pointer (some ⟨g,0,none⟩)) 14 (fun _ _ _ _ _ h=>h) ?_
              simp only [List.set]
              refine tkB ⟨some 54,.fieldAddr 184 (.tmp 53) 1,0,"hash.go:39",#[⟨14,.data⟩,⟨0,.phase⟩,⟨1,.phase⟩,⟨2,.phase⟩,⟨3,.phase⟩,⟨4,.phase⟩,⟨5,.phase⟩,⟨6,.phase⟩,⟨7,.phase⟩,⟨8,.phase⟩,⟨9,.phase⟩,⟨10,.phase⟩,⟨11,.phase⟩,⟨12,.phase⟩,⟨13,.phase⟩],none⟩ (.pointer (some ⟨g,1,none⟩)) 15 (fun _ _ _ _ _ h=>h) ?_
              simp only [List.set]
              refine wpAny_ready (rs:=[16]) (by kernel_rfl) (by simp) ?_
              refine AllReady.cons (o:=⟨none,.store 23 (.tmp 54) (.tmp 52),0,"hash.go:39",#[⟨15,.data⟩,⟨13,.data⟩,⟨13,.chain⟩,⟨0,.phase⟩,⟨1,.phase⟩,⟨2,.phase⟩,⟨3,.phase⟩,⟨4,.phase⟩,⟨5,.phase⟩,⟨6,.phase⟩,⟨7,.phase⟩,⟨8,.phase⟩,⟨9,.phase⟩,⟨10,.phase⟩,⟨11,.phase⟩,⟨12,.phase⟩,⟨13,.phase⟩],none⟩) rfl (fun K hK=>?_) AllReady.nil
              rw [if_pos (by rfl)]
              refine wp_store_mid _ _ _ rfl g 1 (UARR .u8 32 s') rfl rfl (R.out.2.there _ _ (by rw [z01,z0Y];decide)) (z02 _) (z0e _ _ _) ?_
              refine hK _ _ ?_
              clear hK K
              refine wpAny_done (by kernel_rfl) ?_ _
              go_wp2
              go_roundg (gk - m)
              case measure=>
                obtain ⟨_,_,_,_,u5,_,u7,_,_,u10,_,_,u13⟩:=U.out
                omega
              case rel=>exact z1G HS'.out HB0.out U.out R.out.1 R.out.2
            exact AllReady.nil
          exact AllReady.nil
        refine AllReady.cons (o:=⟨some 47,.load 23 (.tmp 46),23,"hash.go:39",#[⟨7,.data⟩],none⟩) rfl (fun K hK=>?_) ?_
        · rw [if_pos (by rfl)]
          refine wp_load_mid _ _ rfl _ _ rfl (z06 .u8 32 s0) _ r1 Tryz.underlying23 rfl hi1 ?_
          refine hK _ _ ?_
          clear hK K
          simp only [Act.put,List.setIfInBounds_toArray,List.set_cons_zero,List.set_cons_succ]
          refine wpAny_ready (rs:=[4,12]) (by kernel_rfl) (by simp) ?_
          refine AllReady.cons (o:=⟨some 43,.load 3 (.tmp 42),3,"hash.go:39",#[⟨3,.data⟩],none⟩) rfl (fun K hK=>?_) ?_
          · rw [if_pos (by rfl)]
            go_simp
            refine hK _ _ ?_
            clear hK K
            refine wpAny_ready (rs:=[12]) (by kernel_rfl) (by simp) ?_
            refine AllReady.cons (o:=⟨some 51,.load 147 (.tmp 50),147,"hash.go:39",#[⟨11,.data⟩],none⟩) rfl (fun K hK=>?_) ?_
            · rw [if_pos (by rfl)]
              refine wp_load_mid _ _ rfl _ _ rfl (z06 .u8 64 b0) _ r2 Tryz.underlying147 rfl hi2 ?_
              refine hK _ _ ?_
              clear hK K
              simp only [Act.put,List.setIfInBounds_toArray,List.set_cons_zero,List.set_cons_succ]
              refine wpAny_ready (rs:=[13]) (by kernel_rfl) (by simp) ?_
              refine AllReady.cons (o:=⟨some 52,.call {callee:=.value (.func 136),args:=#[.tmp 43,.tmp 47,.tmp 51],argTypes:=#[3,23,147]},23,"hash.go:39",#[⟨4,.data⟩,⟨8,.data⟩,⟨12,.data⟩],none⟩) rfl (fun K hK=>?_) AllReady.nil
              rw [if_pos (by rfl)]
              go_simp
              refine (cc _ (by exact HT2.out)).mono ?_
              rintro e w5 ⟨rfl,hb5⟩
              have q4:=(show Has W2.drew g (HARR d s0 b0 M) 184 from U.out.1).below hb5 (by exact hgl)
              have R:Aside (Below W2.heap.size W2 w5∧Has w5 g (HARR d s0 b0 M) 184):=⟨(below_drewN (Below.refl _ W2) 1).trans hb5,q4⟩
              clear hb5 q4
              refine hK _ _ ?_
              clear hK K
              refine tkB ⟨some 53,.nilCheck (.tmp 39),0,"hash.go:39",#[⟨0,.data⟩,⟨0,.phase⟩,⟨1,.phase⟩,⟨2,.phase⟩,⟨3,.phase⟩,⟨4,.phase⟩,⟨5,.phase⟩,⟨6,.phase⟩,⟨7,.phase⟩,⟨8,.phase⟩,⟨9,.phase⟩,⟨10,.phase⟩,⟨11,.phase⟩,⟨12,.phase⟩,⟨13,.phase⟩],none⟩ (.pointer (some ⟨g,0,none⟩)) 14 (fun _ _ _ _ _ h=>h) ?_
              simp only [List.set]
              refine tkB ⟨some 54,.fieldAddr 184 (.tmp 53) 1,0,"hash.go:39",#[⟨14,.data⟩,⟨0,.phase⟩,⟨1,.phase⟩,⟨2,.phase⟩,⟨3,.phase⟩,⟨4,.phase⟩,⟨5,.phase⟩,⟨6,.phase⟩,⟨7,.phase⟩,⟨8,.phase⟩,⟨9,.phase⟩,⟨10,.phase⟩,⟨11,.phase⟩,⟨12,.phase⟩,⟨13,.phase⟩],none⟩ (.pointer (some ⟨g,1,none⟩)) 15 (fun _ _ _ _ _ h=>h) ?_
              simp only [List.set]
              refine wpAny_ready (rs:=[16]) (by kernel_rfl) (by simp) ?_
              refine AllReady.cons (o:=⟨none,.store 23 (.tmp 54) (.tmp 52),0,"hash.go:39",#[⟨15,.data⟩,⟨13,.data⟩,⟨13,.chain⟩,⟨0,.phase⟩,⟨1,.phase⟩,⟨2,.phase⟩,⟨3,.phase⟩,⟨4,.phase⟩,⟨5,.phase⟩,⟨6,.phase⟩,⟨7,.phase⟩,⟨8,.phase⟩,⟨9,.phase⟩,⟨10,.phase⟩,⟨11,.phase⟩,⟨12,.phase⟩,⟨13,.phase⟩],none⟩) rfl (fun K hK=>?_) AllReady.nil
              rw [if_pos (by rfl)]
              refine wp_store_mid _ _ _ rfl g 1 (UARR .u8 32 s') rfl rfl (R.out.2.there _ _ (by rw [z01,z0Y];decide)) (z02 _) (z0e _ _ _) ?_
              refine hK _ _ ?_
              clear hK K
              refine wpAny_done (by kernel_rfl) ?_ _
              go_wp2
              go_roundg (gk - m)
              case measure=>
                obtain ⟨_,_,_,_,u5,_,u7,_,_,u10,_,_,u13⟩:=U.out
                omega
              case rel=>exact z1G HS'.out HB0.out U.out R.out.1 R.out.2
            exact AllReady.nil
          refine AllReady.cons (o:=⟨some 51,.load 147 (.tmp 50),147,"hash.go:39",#[⟨11,.data⟩],none⟩) rfl (fun K hK=>?_) ?_
          · rw [if_pos (by rfl)]
            refine wp_load_mid _ _ rfl _ _ rfl (z06 .u8 64 b0) _ r2 Tryz.underlying147 rfl hi2 ?_
            refine hK _ _ ?_
            clear hK K
            simp only [Act.put,List.setIfInBounds_toArray,List.set_cons_zero,List.set_cons_succ]
            refine wpAny_ready (rs:=[4]) (by kernel_rfl) (by simp) ?_
            refine AllReady.cons (o:=⟨some 43,.load 3 (.tmp 42),3,"hash.go:39",#[⟨3,.data⟩],none⟩) rfl (fun K hK=>?_) ?_
            · rw [if_pos (by rfl)]
              go_simp
              refine hK _ _ ?_
              clear hK K
              refine wpAny_ready (rs:=[13]) (by kernel_rfl) (by simp) ?_
              refine AllReady.cons (o:=⟨some 52,.call {callee:=.value (.func 136),args:=#[.tmp 43,.tmp 47,.tmp 51],argTypes:=#[3,23,147]},23,"hash.go:39",#[⟨4,.data⟩,⟨8,.data⟩,⟨12,.data⟩],none⟩) rfl (fun K hK=>?_) AllReady.nil
              rw [if_pos (by rfl)]
              go_simp
              refine (cc _ (by exact HT2.out)).mono ?_
              rintro e w5 ⟨rfl,hb5⟩
              have q4:=(show Has W2.drew g (HARR d s0 b0 M) 184 from U.out.1).below hb5 (by exact hgl)
              have R:Aside (Below W2.heap.size W2 w5∧Has w5 g (HARR d s0 b0 M) 184):=⟨(below_drewN (Below.refl _ W2) 1).trans hb5,q4⟩
              clear hb5 q4
              refine hK _ _ ?_
              clear hK K
              refine tkB ⟨some 53,.nilCheck (.tmp 39),0,"hash.go:39",#[⟨0,.data⟩,⟨0,.phase⟩,⟨1,.phase⟩,⟨2,.phase⟩,⟨3,.phase⟩,⟨4,.phase⟩,⟨5,.phase⟩,⟨6,.phase⟩,⟨7,.phase⟩,⟨8,.phase⟩,⟨9,.phase⟩,⟨10,.phase⟩,⟨11,.phase⟩,⟨12,.phase⟩,⟨13,.phase⟩],none⟩ (.pointer (some ⟨g,0,none⟩)) 14 (fun _ _ _ _ _ h=>h) ?_
              simp only [List.set]
              refine tkB ⟨some 54,.fieldAddr 184 (.tmp 53) 1,0,"hash.go:39",#[⟨14,.data⟩,⟨0,.phase⟩,⟨1,.phase⟩,⟨2,.phase⟩,⟨3,.phase⟩,⟨4,.phase⟩,⟨5,.phase⟩,⟨6,.phase⟩,⟨7,.phase⟩,⟨8,.phase⟩,⟨9,.phase⟩,⟨10,.phase⟩,⟨11,.phase⟩,⟨12,.phase⟩,⟨13,.phase⟩],none⟩ (.pointer (some ⟨g,1,none⟩)) 15 (fun _ _ _ _ _ h=>h) ?_
              simp only [List.set]
              refine wpAny_ready (rs:=[16]) (by kernel_rfl) (by simp) ?_
              refine AllReady.cons (o:=⟨none,.store 23 (.tmp 54) (.tmp 52),0,"hash.go:39",#[⟨15,.data⟩,⟨13,.data⟩,⟨13,.chain⟩,⟨0,.phase⟩,⟨1,.phase⟩,⟨2,.phase⟩,⟨3,.phase⟩,⟨4,.phase⟩,⟨5,.phase⟩,⟨6,.phase⟩,⟨7,.phase⟩,⟨8,.phase⟩,⟨9,.phase⟩,⟨10,.phase⟩,⟨11,.phase⟩,⟨12,.phase⟩,⟨13,.phase⟩],none⟩) rfl (fun K hK=>?_) AllReady.nil
              rw [if_pos (by rfl)]
              refine wp_store_mid _ _ _ rfl g 1 (UARR .u8 32 s') rfl rfl (R.out.2.there _ _ (by rw [z01,z0Y];decide)) (z02 _) (z0e _ _ _) ?_
              refine hK _ _ ?_
              clear hK K
              refine wpAny_done (by kernel_rfl) ?_ _
              go_wp2
              go_roundg (gk - m)
              case measure=>
                obtain ⟨_,_,_,_,u5,_,u7,_,_,u10,_,_,u13⟩:=U.out
                omega
              case rel=>exact z1G HS'.out HB0.out U.out R.out.1 R.out.2
            exact AllReady.nil
          exact AllReady.nil
        refine AllReady.cons (o:=⟨some 51,.load 147 (.tmp 50),147,"hash.go:39",#[⟨11,.data⟩],none⟩) rfl (fun K hK=>?_) ?_
        · rw [if_pos (by rfl)]
          refine wp_load_mid _ _ rfl _ _ rfl (z06 .u8 64 b0) _ r2 Tryz.underlying147 rfl hi2 ?_
          refine hK _ _ ?_
          clear hK K
          simp only [Act.put,List.setIfInBounds_toArray,List.set_cons_zero,List.set_cons_succ]
          refine wpAny_ready (rs:=[4,8]) (by kernel_rfl) (by simp) ?_
          refine AllReady.cons (o:=⟨some 43,.load 3 (.tmp 42),3,"hash.go:39",#[⟨3,.data⟩],none⟩) rfl (fun K hK=>?_) ?_
          · rw [if_pos (by rfl)]
            go_simp
            refine hK _ _ ?_
            clear hK K
            refine wpAny_ready (rs:=[8]) (by kernel_rfl) (by simp) ?_
            refine AllReady.cons (o:=⟨some 47,.load 23 (.tmp 46),23,"hash.go:39",#[⟨7,.data⟩],none⟩) rfl (fun K hK=>?_) ?_
            · rw [if_pos (by rfl)]
              refine wp_load_mid _ _ rfl _ _ rfl (z06 .u8 32 s0) _ r1 Tryz.underlying23 rfl hi1 ?_
              refine hK _ _ ?_
              clear hK K
              simp only [Act.put,List.setIfInBounds_toArray,List.set_cons_zero,List.set_cons_succ]
              refine wpAny_ready (rs:=[13]) (by kernel_rfl) (by simp) ?_
              refine AllReady.cons (o:=⟨some 52,.call {callee:=.value (.func 136),args:=#[.tmp 43,.tmp 47,.tmp 51],argTypes:=#[3,23,147]},23,"hash.go:39",#[⟨4,.data⟩,⟨8,.data⟩,⟨12,.data⟩],none⟩) rfl (fun K hK=>?_) AllReady.nil
              rw [if_pos (by rfl)]
              go_simp
              refine (cc _ (by exact HT2.out)).mono ?_
              rintro e w5 ⟨rfl,hb5⟩
              have q4:=(show Has W2.drew g (HARR d s0 b0 M) 184 from U.out.1).below hb5 (by exact hgl)
              have R:Aside (Below W2.heap.size W2 w5∧Has w5 g (HARR d s0 b0 M) 184):=⟨(below_drewN (Below.refl _ W2) 1).trans hb5,q4⟩
              clear hb5 q4
              refine hK _ _ ?_
              clear hK K
              refine tkB ⟨some 53,.nilCheck (.tmp 39),0,"hash.go:39",#[⟨0,.data⟩,⟨0,.phase⟩,⟨1,.phase⟩,⟨2,.phase⟩,⟨3,.phase⟩,⟨4,.phase⟩,⟨5,.phase⟩,⟨6,.phase⟩,⟨7,.phase⟩,⟨8,.phase⟩,⟨9,.phase⟩,⟨10,.phase⟩,⟨11,.phase⟩,⟨12,.phase⟩,⟨13,.phase⟩],none⟩ (.pointer (some ⟨g,0,none⟩)) 14 (fun _ _ _ _ _ h=>h) ?_
              simp only [List.set]
              refine tkB ⟨some 54,.fieldAddr 184 (.tmp 53) 1,0,"hash.go:39",#[⟨14,.data⟩,⟨0,.phase⟩,⟨1,.phase⟩,⟨2,.phase⟩,⟨3,.phase⟩,⟨4,.phase⟩,⟨5,.phase⟩,⟨6,.phase⟩,⟨7,.phase⟩,⟨8,.phase⟩,⟨9,.phase⟩,⟨10,.phase⟩,⟨11,.phase⟩,⟨12,.phase⟩,⟨13,.phase⟩],none⟩ (.pointer (some ⟨g,1,none⟩)) 15 (fun _ _ _ _ _ h=>h) ?_
              simp only [List.set]
              refine wpAny_ready (rs:=[16]) (by kernel_rfl) (by simp) ?_
              refine AllReady.cons (o:=⟨none,.store 23 (.tmp 54) (.tmp 52),0,"hash.go:39",#[⟨15,.data⟩,⟨13,.data⟩,⟨13,.chain⟩,⟨0,.phase⟩,⟨1,.phase⟩,⟨2,.phase⟩,⟨3,.phase⟩,⟨4,.phase⟩,⟨5,.phase⟩,⟨6,.phase⟩,⟨7,.phase⟩,⟨8,.phase⟩,⟨9,.phase⟩,⟨10,.phase⟩,⟨11,.phase⟩,⟨12,.phase⟩,⟨13,.phase⟩],none⟩) rfl (fun K hK=>?_) AllReady.nil
              rw [if_pos (by rfl)]
              refine wp_store_mid _ _ _ rfl g 1 (UARR .u8 32 s') rfl rfl (R.out.2.there _ _ (by rw [z01,z0Y];decide)) (z02 _) (z0e _ _ _) ?_
              refine hK _ _ ?_
              clear hK K
              refine wpAny_done (by kernel_rfl) ?_ _
              go_wp2
              go_roundg (gk - m)
              case measure=>
                obtain ⟨_,_,_,_,u5,_,u7,_,_,u10,_,_,u13⟩:=U.out
                omega
              case rel=>exact z1G HS'.out HB0.out U.out R.out.1 R.out.2
            exact AllReady.nil
          refine AllReady.cons (o:=⟨some 47,.load 23 (.tmp 46),23,"hash.go:39",#[⟨7,.data⟩],none⟩) rfl (fun K hK=>?_) ?_
          · rw [if_pos (by rfl)]
            refine wp_load_mid _ _ rfl _ _ rfl (z06 .u8 32 s0) _ r1 Tryz.underlying23 rfl hi1 ?_
            refine hK _ _ ?_
            clear hK K
            simp only [Act.put,List.setIfInBounds_toArray,List.set_cons_zero,List.set_cons_succ]
            refine wpAny_ready (rs:=[4]) (by kernel_rfl) (by simp) ?_
            refine AllReady.cons (o:=⟨some 43,.load 3 (.tmp 42),3,"hash.go:39",#[⟨3,.data⟩],none⟩) rfl (fun K hK=>?_) ?_
            · rw [if_pos (by rfl)]
              go_simp
              refine hK _ _ ?_
              clear hK K
              refine wpAny_ready (rs:=[13]) (by kernel_rfl) (by simp) ?_
              refine AllReady.cons (o:=⟨some 52,.call {callee:=.value (.func 136),args:=#[.tmp 43,.tmp 47,.tmp 51],argTypes:=#[3,23,147]},23,"hash.go:39",#[⟨4,.data⟩,⟨8,.data⟩,⟨12,.data⟩],none⟩) rfl (fun K hK=>?_) AllReady.nil
              rw [if_pos (by rfl)]
              go_simp
              refine (cc _ (by exact HT2.out)).mono ?_
              rintro e w5 ⟨rfl,hb5⟩
              have q4:=(show Has W2.drew g (HARR d s0 b0 M) 184 from U.out.1).below hb5 (by exact hgl)
              have R:Aside (Below W2.heap.size W2 w5∧Has w5 g (HARR d s0 b0 M) 184):=⟨(below_drewN (Below.refl _ W2) 1).trans hb5,q4⟩
              clear hb5 q4
              refine hK _ _ ?_
              clear hK K
              refine tkB ⟨some 53,.nilCheck (.tmp 39),0,"hash.go:39",#[⟨0,.data⟩,⟨0,.phase⟩,⟨1,.phase⟩,⟨2,.phase⟩,⟨3,.phase⟩,⟨4,.phase⟩,⟨5,.phase⟩,⟨6,.phase⟩,⟨7,.phase⟩,⟨8,.phase⟩,⟨9,.phase⟩,⟨10,.phase⟩,⟨11,.phase⟩,⟨12,.phase⟩,⟨13,.phase⟩],none⟩ (.pointer (some ⟨g,0,none⟩)) 14 (fun _ _ _ _ _ h=>h) ?_
              simp only [List.set]
              refine tkB ⟨some 54,.fieldAddr 184 (.tmp 53) 1,0,"hash.go:39",#[⟨14,.data⟩,⟨0,.phase⟩,⟨1,.phase⟩,⟨2,.phase⟩,⟨3,.phase⟩,⟨4,.phase⟩,⟨5,.phase⟩,⟨6,.phase⟩,⟨7,.phase⟩,⟨8,.phase⟩,⟨9,.phase⟩,⟨10,.phase⟩,⟨11,.phase⟩,⟨12,.phase⟩,⟨13,.phase⟩],none⟩ (.pointer (some ⟨g,1,none⟩)) 15 (fun _ _ _ _ _ h=>h) ?_
              simp only [List.set]
              refine wpAny_ready (rs:=[16]) (by kernel_rfl) (by simp) ?_
              refine AllReady.cons (o:=⟨none,.store 23 (.tmp 54) (.tmp 52),0,"hash.go:39",#[⟨15,.data⟩,⟨13,.data⟩,⟨13,.chain⟩,⟨0,.phase⟩,⟨1,.phase⟩,⟨2,.phase⟩,⟨3,.phase⟩,⟨4,.phase⟩,⟨5,.phase⟩,⟨6,.phase⟩,⟨7,.phase⟩,⟨8,.phase⟩,⟨9,.phase⟩,⟨10,.phase⟩,⟨11,.phase⟩,⟨12,.phase⟩,⟨13,.phase⟩],none⟩) rfl (fun K hK=>?_) AllReady.nil
              rw [if_pos (by rfl)]
              refine wp_store_mid _ _ _ rfl g 1 (UARR .u8 32 s') rfl rfl (R.out.2.there _ _ (by rw [z01,z0Y];decide)) (z02 _) (z0e _ _ _) ?_
              refine hK _ _ ?_
              clear hK K
              refine wpAny_done (by kernel_rfl) ?_ _
              go_wp2
              go_roundg (gk - m)
              case measure=>
                obtain ⟨_,_,_,_,u5,_,u7,_,_,u10,_,_,u13⟩:=U.out
                omega
              case rel=>exact z1G HS'.out HB0.out U.out R.out.1 R.out.2
            exact AllReady.nil
          exact AllReady.nil
        exact AllReady.nil
      | false=>
        have hM0:M % 64≠0:=by
          have:=beq_eq_false_iff_ne.1 hx
          omega
        have HM0:Aside (M % 64≠0):=hM0
        clear hM0
        go_wp2
        go_roundg (gk - m)
        case measure=>
          obtain ⟨j1,j2,j3,j4,j5,j6,j7,j8,j9,j10,j11,j12,j13,j14⟩:=J.out
          omega
        case rel=>
          obtain ⟨j1,j2,j3,j4,j5,j6,j7,j8,j9,j10,j11,j12,j13,j14⟩:=J.out
          have hM0:=HM0.out
          have hgw:W1.grownBy (W1.setCell ⟨g,97,none⟩ (.int .u64 (M:Int))) (some g):=⟨rfl,rfl,rfl,by simp [World.setCell],fun k _ hk=>Below.heap_setCell _ _ _ _ (fun e=>hk (by rw [e]))⟩
          have hch:((q.drop k).take m).length=m:=by
            rw [List.length_take,List.length_drop]
            have:=H.out.2.2.2.2.1
            omega
          refine ⟨k+m,some a2,c' - m,by omega,rfl,j13.grown hgw (fun x hx=>by simp only [Option.some.injEq] at hx;rw [← hx,j14];exact j8),?_,j6.trans hgw,fun x hx=>by simp only [Option.some.injEq] at hx;rw [← hx,j14];exact j8,by omega⟩
          rw [List.take_add,← List.append_assoc]
          have hP:=j5.put_taken M
          rw [j12] at hP ⊢
          exact HASHER.step j11 j2 hch (fun x hx=>H.out.2.2.2.2.2 x (List.mem_of_mem_drop (List.mem_of_mem_take hx))) j9 j10 (by omega) hP
end Go.Proofs.YthdpkaiieomdoaaGreatDoor.HX
