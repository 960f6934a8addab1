/- FindProves: part 30. -/
import Derived.Test.YtlbcnaenhghieaaGreatDoorFindProvesP29
namespace Go.Proofs.YtlbcnaenhghieaaGreatDoor.HX
open Go.RowKit
def z0x (l:List Nat):List Value:=l.map fun (x:Nat)=>Value.int .u64 (x:Int)
theorem z5j (l:List Nat) (x:Nat):z0x (l ++ [x])=z0x l ++ [.int .u64 (x:Int)]:=by simp [z0x]
theorem z1k (l:List Nat) (i:Nat) (h:i<l.length):(z0x l)[i]?=some (.int .u64 (l.getD i 0:Nat)):=by simp [z0x,h,List.getD_eq_getElem?_getD]
theorem z1u:∃ i,Tryz.prog.info? 36=some i/\i.zero=some (.int .u64 0)/\i.size=1/\i.bytes=8:=by
 have h:(Tryz.prog.info? 36).map (fun i=>(i.zero,i.size,i.bytes))=some (some (.int .u64 0),1,8):=by kernel_rfl
 obtain ⟨i,hi,h⟩:=Option.map_eq_some_iff.1 h;simp only [Prod.mk.injEq] at h;exact ⟨i,hi,h.1,h.2.1,h.2.2⟩
theorem z8V {ops:Array Oper} {o:Oper} {a:Act} {K:Act->World->Prop} {Q:Exit->Act->World->Prop} {E:Prop} (w:World) (y:Int) (hgd:o.guard=none) (s x:Operand)
  (ho:o.op=.call {callee:=.builtin .append,args:=#[s,x],argTypes:=#[23,23]})
  (base:Nat) (v:Value) (n:Nat) (xs:List Value) (hs:a.eval s=v) (hown:w.ownsRow base 36 1 v n xs)
  (hx:a.eval x=.slice (some ⟨w.heap.size,0,none⟩) 1 1) (hb:n<=1000) (hbase:base<=w.heap.size)
  (h:∀ g cap w',w'.ownsRow base 36 1 (.slice (some ⟨g,0,none⟩) (n+1) cap) (n+1) (xs ++ [.int .u64 y])->(w.alloc (.cells #[.int .u64 y] 36)).grownBy w' v.ownBlock->g<w'.heap.size->K (a.put o.dst (.slice (some ⟨g,0,none⟩) (n+1) cap)) w'):
  if Region.wanted o (yielded ops a.tmps)=true then Oper.wp Tryz.prog o a (w.alloc (.cells #[.int .u64 y] 36)) K Q else E:=by
 obtain ⟨i,hi,hz,hs1,hby⟩:=z1u;refine step_append_lies _ hgd s x 23 ho base 36 i (.int .u64 0) 1 8 Tryz.underlying23 hi hz hs1 hby rfl (by decide) v n xs hs (hown.alloc _) ⟨w.heap.size,0,none⟩ 1 1 [.int .u64 y] hx rfl ?_ (fun u hu=>by simp at hu;subst hu;rfl) (by decide) (by simp only [maxLen];omega) (by omega) (by simp;omega) (w.heap.size+1) (by simp) ?_
 ·intro j u hj
  cases j with
  | zero=>
    simp only [List.getElem?_cons_zero,Option.some.injEq] at hj;subst hj;rw [z0y,World.cell?_alloc_at _ _ _ _ rfl];rfl
  | succ j=>simp at hj
 ·intro g cap w' h1 h2 _ h4
  exact h g cap w' h1 h2 h4
theorem z2K {W w8:World} {o:Obj} {row:Option Nat} {b i:Nat} (hg:(W.alloc o).grownBy w8 row) (hb:b<W.heap.size) (hr:some b≠row):w8.cell? ⟨b,i,none⟩=W.cell? ⟨b,i,none⟩:=
 (World.cell?_of_block (w:=W.alloc o) (a:=⟨b,i,none⟩) (hg.block b (by simp;omega) hr)).trans (World.cell?_of_block (w:=W) (a:=⟨b,i,none⟩) (Below.heap_alloc W o b hb))
def WL (s:Nat->Nat) (k:Nat):List Nat:=(List.range k).map fun t=>z0c s (4*t)
theorem z4L (s:Nat->Nat) (k:Nat):(WL s k).length=k:=by simp [WL]
theorem zgK (s:Nat->Nat) (k:Nat):WL s (k+1)=WL s k ++ [z0c s (4*k)]:=by simp [WL,List.range_succ]
theorem z8W (s:Nat->Nat) (k i:Nat) (h:i<k):(WL s k).getD i 0=z0c s (4*i):=by simp [WL,h,List.getD_eq_getElem?_getD]
set_option maxHeartbeats 1000000 in
theorem z5k (b n c q:Nat) (s:Nat->Nat) (h8:∀ i,s i<256) (w:World) (hn:n=4*q) (hpos:0<q) (hq:q<=16) (hb:b<w.heap.size) (hc:∀ i,i<n->w.cell? ⟨b,i,none⟩=some (.int .u8 (s i:Nat))):
  Calls Tryz.prog 120 #[.slice (some ⟨b,0,none⟩) n c] w fun e w'=>∃ g cap,e=.returned (.slice (some ⟨g,0,none⟩) q cap)/\w'.ownsRow w.heap.size 36 1 (.slice (some ⟨g,0,none⟩) q cap) q (z0x (WL s q))/\g<w'.heap.size/\Below w.heap.size w w':=by
 have H:Aside ((∀ i,s i<256)/\n=4*q/\q<=16/\b<w.heap.size/\∀ i,i<n->w.cell? ⟨b,i,none⟩=some (.int .u8 (s i:Nat))):=⟨h8,hn,hq,hb,hc⟩
 clear h8 hn hq hb hc;go_enter Tryz.func120,Tryz.ntmps120;go_wp2;go_loopg [3,4] q (fun r s3 s4 wx=>∃ (j o:Nat),j+r=q/\s4=.int .i64 o/\Aside (o=4*j/\wx.ownsRow w.heap.size 36 1 s3 j (z0x (WL s j))/\Below w.heap.size w wx))
 case atStart=>exact ⟨0,0,by omega,rfl,rfl,World.ownsRow_nil _ _ _ _,Below.refl _ _⟩
 case round=>
  obtain ⟨j,o,hjr,rfl,A⟩:=hrel;cases gk with
  | zero=>
    obtain rfl:j=q:=by omega
    obtain ⟨ho,hown,hbel⟩:=A.out;obtain ⟨k1,k2,k3,k4,k5⟩:=H.out;have hlt:¬ (o:Int)+3<(n:Int):=by omega
    have ho64:(o:Int)<=64:=by omega
    obtain ⟨g,cap,hv,_,hg⟩:=hown.form hpos;subst hv;have R:Aside (wr.ownsRow w.heap.size 36 1 (.slice (some ⟨g,0,none⟩) j cap) j (z0x (WL s j))/\g<wr.heap.size/\Below w.heap.size w wr):=⟨hown,hg,hbel⟩
    clear hown hg hbel A ho k1 k2 k3 k4 k5 H;go_wp2;go_ret;exact ⟨g,cap,rfl,R.out.1,R.out.2.1,R.out.2.2⟩
  | succ r=>
    obtain ⟨ho,hown,hbel⟩:=A.out;obtain ⟨k1,k2,k3,k4,k5⟩:=H.out;have c0:wr.cell? ⟨b,o,none⟩=some (.int .u8 (s o:Nat)):=(hbel.cell (by exact k4)).trans (k5 o (by omega));have c1:wr.cell? ⟨b,o+1,none⟩=some (.int .u8 (s (o+1):Nat)):=(hbel.cell (by exact k4)).trans (k5 (o+1) (by omega));have c2:wr.cell? ⟨b,o+2,none⟩=some (.int .u8 (s (o+2):Nat)):=(hbel.cell (by exact k4)).trans (k5 (o+2) (by omega));have c3:wr.cell? ⟨b,o+3,none⟩=some (.int .u8 (s (o+3):Nat)):=(hbel.cell (by exact k4)).trans (k5 (o+3) (by omega));have W:Aside (s o*16777216+s (o+1)*65536+s (o+2)*256+s (o+3)=z0c s (4*j)/\s o<256/\s (o+1)<256/\s (o+2)<256/\s (o+3)<256):=⟨by rw [<-ho];rfl,k1 _,k1 _,k1 _,k1 _⟩
    generalize s o=v0 at *
    generalize s (o+1)=v1 at *
    generalize s (o+2)=v2 at *
    generalize s (o+3)=v3 at *
    obtain ⟨o1,ho1⟩:∃ o1,o1=o+1:=⟨_,rfl⟩
    obtain ⟨o2,ho2⟩:∃ o2,o2=o+2:=⟨_,rfl⟩
    obtain ⟨o3,ho3⟩:∃ o3,o3=o+3:=⟨_,rfl⟩
    rw [<-ho1] at c1;rw [<-ho2] at c2;rw [<-ho3] at c3;have e1:(o:Int)+1=(o1:Int):=by omega
    have e2:(o:Int)+2=(o2:Int):=by omega
    have e3:(o:Int)+3=(o3:Int):=by omega
    have f1:IntKind.i64.wrap (o1:Int)=(o1:Int):=by rw [IntKind.wrap_i64];omega
    have f2:IntKind.i64.wrap (o2:Int)=(o2:Int):=by rw [IntKind.wrap_i64];omega
    have f3:IntKind.i64.wrap (o3:Int)=(o3:Int):=by rw [IntKind.wrap_i64];omega
    have g0:(o:Int)<(n:Int):=by omega
    have g1:(o1:Int)<(n:Int):=by omega
    have g2:(o2:Int)<(n:Int):=by omega
    have g3:(o3:Int)<(n:Int):=by omega
    have m0:=World.new_ne wr ⟨b,o,none⟩ c0;have m1:=World.new_ne wr ⟨b,o1,none⟩ c1;have m2:=World.new_ne wr ⟨b,o2,none⟩ c2;have m3:=World.new_ne wr ⟨b,o3,none⟩ c3;have hbl:b<wr.heap.size:=Nat.lt_of_lt_of_le k4 hbel.size;have hj:j<=1000:=by omega
    have hbw:w.heap.size<=wr.heap.size:=hbel.size;have hblw:b<w.heap.size:=k4;have R:Aside (o=4*j/\wr.ownsRow w.heap.size 36 1 u3 j (z0x (WL s j))/\Below w.heap.size w wr/\j+(r+1)=q/\n=4*q/\q<=16):=⟨ho,hown,hbel,hjr,k2,k3⟩
    clear ho hown hbel hjr k1 k2 k3 k4 k5 A ho1 ho2 ho3 H;have hrow:some b≠u3.ownBlock:=fun e=>by have:=(R.out.2.1.lt b e.symm).1;omega
    go_wp2_with fail
    go_region_held3 (fun W:World=>W.cell? ⟨b,o,none⟩=some (.int .u8 (v0:Int))/\W.cell? ⟨b,o1,none⟩=some (.int .u8 (v1:Int))/\W.cell? ⟨b,o2,none⟩=some (.int .u8 (v2:Int))/\W.cell? ⟨b,o3,none⟩=some (.int .u8 (v3:Int))) (first | (refine ⟨?_,?_,?_,?_⟩ <;> assumption) | go_keep) (first | (refine z8V wr.drew _ rfl (.tmp 12) (.tmp 42) rfl w.heap.size u3 j (z0x (WL s j)) rfl (by exact R.out.2.1) rfl hj (by exact hbw) ?_;intro g8 cap8 w8 hown8 hgrow8 hg8;have q0:=(z2K (i:=o) hgrow8 (by exact hbl) hrow).trans c0;have q1:=(z2K (i:=o1) hgrow8 (by exact hbl) hrow).trans c1;have q2:=(z2K (i:=o2) hgrow8 (by exact hbl) hrow).trans c2;have q3:=(z2K (i:=o3) hgrow8 (by exact hbl) hrow).trans c3))
    have hx:IntKind.u64.wrap (IntKind.u64.wrap (IntKind.u64.wrap (IntKind.u64.wrap (IntKind.u64.wrap (IntKind.u64.wrap (IntKind.u64.wrap (v0:Int)*256)+IntKind.u64.wrap (v1:Int))*256)+IntKind.u64.wrap (v2:Int))*256)+IntKind.u64.wrap (v3:Int))=((z0c s (4*j):Nat):Int):=by
     obtain ⟨w1,w2,w3,w4,w5⟩:=W.out;rw [<-w1];simp only [z0b];omega
    rw [hx,<-z5j,<-zgK] at hown8;have hb8:Below w.heap.size w w8:=(R.out.2.2.1.drew.alloc hbw _).grown hgrow8 (by simp;omega) (fun k e=>(R.out.2.1.lt k e).1);have T:Aside (w8.ownsRow w.heap.size 36 1 (.slice (some ⟨g8,0,none⟩) (j+1) cap8) (j+1) (z0x (WL s (j+1)))/\Below w.heap.size w w8):=⟨hown8,hb8⟩
    have ho64:(o:Int)<64:=by have:=R.out;omega
    clear hown8 hb8 hgrow8 hg8 hx q0 q1 q2 q3 c0 c1 c2 c3 m0 m1 m2 m3 e1 e2 e3 f1 f2 f3 g0 g1 g2 g3;go_wp2;go_roundg r
    case measure=>omega
    case rel=>
     obtain ⟨r1,r2,r3,r4,r5,r6⟩:=R.out;exact ⟨j+1,o+4,by omega,by go_num,by omega,T.out.1,T.out.2⟩
set_option maxRecDepth 100000 in
theorem zfx (w:World):Calls Tryz.prog 119 #[] w fun e w'=>e=.returned (.slice (some ⟨w.heap.size,0,none⟩) 64 64)/\w.alloc (.cells (UARR .u64 64 KC) 36)=w':=by
 go_enter Tryz.func119,Tryz.ntmps119;go_wp2;go_ret;exact ⟨rfl,rfl⟩
theorem z8X (d:Int) (w:World):Calls Tryz.prog 40 #[.int .i64 d] w fun e w'=>e=.returned (.int .i64 ((WID d:Nat):Int))/\w=w':=by
 by_cases h1:d<1
 ·have e:((WID d:Nat):Int)=1:=by unfold WID;omega
  rw [e];clear e;go_enter Tryz.func40,Tryz.ntmps40;go_wp2;go_ret;exact ⟨rfl,rfl⟩
 ·by_cases h2:32<d
  ·have e:((WID d:Nat):Int)=32:=by unfold WID;omega
   rw [e];clear e;go_enter Tryz.func40,Tryz.ntmps40;go_wp2;go_ret;exact ⟨rfl,rfl⟩
  ·have e:((WID d:Nat):Int)=d:=by unfold WID;omega
   rw [e];clear e;go_enter Tryz.func40,Tryz.ntmps40;go_wp2;go_ret;exact ⟨rfl,rfl⟩
theorem z7s (d:Int) (s:Nat->Nat) (w:World):Calls Tryz.prog 118 #[.int .i64 d,.agg (UARR .u8 32 s)] w fun e w'=>e=.returned (.agg (UARR .u8 32 (z0u d s)))/\Below w.heap.size w w':=by
 have hz:=z1o;have hW:=zby d;have cw:=z8X d;have HW:Aside (1<=WID d/\WID d<=32):=hW;obtain ⟨V,hV⟩:∃ V,V=WID d:=⟨_,rfl⟩
 rw [<-hV] at cw;have HV:Aside (V=WID d/\V<=32):=⟨hV,by omega⟩
 clear hW hV;go_enter Tryz.func118,Tryz.ntmps118;go_wp2_with fail
 refine (cw _).mono ?_;rintro e w' ⟨rfl,rfl⟩;clear cw hz;go_wp2;go_loopg [5] (32 - V) (fun r s5 wx=>∃ i:Nat,i+r=32/\s5=.int .i64 i/\Aside (V<=i/\Below w.heap.size w wx/\Has wx w.heap.size (UARR .u8 32 fun j=>if V<=j/\j<i then 0 else s j) 25/\Has wx (w.heap.size+1) (UARR .u8 32 fun _=>0) 25))
 case atStart=>
  have e:(UARR .u8 32 fun j=>if V<=j/\j<V then 0 else s j)=UARR .u8 32 s:=z0m fun j _=>if_neg (by omega);refine ⟨V,by have:=HV.out;omega,rfl,Nat.le_refl _,((Below.refl _ _).alloc (Nat.le_refl _) _).alloc (by simp) _,?_,Has.at _ _ _ (by simp)⟩;rw [e];exact (Has.new w _ _).alloc _
 case round=>
  obtain ⟨i,hir,rfl,A⟩:=hrel;cases gk with
  | zero=>
    obtain rfl:i=32:=by omega
    obtain ⟨hVi,hb,h1,h2⟩:=A.out
    have e:(UARR .u8 32 fun j=>if V<=j/\j<32 then 0 else s j)=UARR .u8 32 (z0u d s):=z0m fun j hj=>by
     unfold z0u;rw [<-HV.out.1];by_cases e:j<V
     ·rw [if_neg (by omega),if_pos e]
     ·rw [if_pos (by omega),if_neg e]
    rw [e] at h1
    go_wp2_with (first
     | (refine wpList_load_row rfl 25 _ rfl _ rfl _ _ (0,0) _ h1 Tryz.underlying25 rfl (z04 _) ?_)
     | (refine wpList_store_row rfl 25 _ _ rfl _ _ rfl rfl _ _ h2 (z04 _) (by rw [z03,z03]) (z0j _ _ _) ?_))
    refine bodyPost_ret (v:=.agg (UARR .u8 32 (z0u d s))) ?_ rfl ⟨rfl,z0d hb (by omega) _⟩;exact results_cell_row rfl _ _ (w.heap.size+1) 25 _ (0,0) _ rfl (h2.row _) Tryz.underlying25 rfl (z04 _)
  | succ r=>
    have hlt:(i:Int)<32:=by omega
    obtain ⟨hVi,hb,h1,h2⟩:=A.out;have hc:wr.cell? ⟨w.heap.size,i,none⟩=some (.int .u8 ((if V<=i/\i<i then 0 else s i:Nat):Int)):=by rw [h1.cell,z0f _ _ _ _ (by omega)]
    have hf:wr.frozen? ⟨w.heap.size,i,none⟩=false:=h1.frozen i;generalize ((if V<=i/\i<i then 0 else s i:Nat):Int)=x at hc;have R:Aside (V<=i/\Below w.heap.size w wr/\Has wr w.heap.size (UARR .u8 32 fun j=>if V<=j/\j<i then 0 else s j) 25/\Has wr (w.heap.size+1) (UARR .u8 32 fun _=>0) 25):=⟨hVi,hb,h1,h2⟩
    clear hVi hb h1 h2 A;go_wp2;go_roundg r
    case measure=>omega
    case rel=>
     obtain ⟨hVi,hb,h1,h2⟩:=R.out;refine ⟨i+1,by omega,by go_num,by omega,hb.setCell (Nat.le_refl _) _,?_,h2.other (by show w.heap.size+1≠w.heap.size;omega) _⟩;have h3:=h1.set i (.int .u8 ((0:Nat):Int));rw [z1W] at h3
     have e:(UARR .u8 32 fun j=>if j=i then 0 else if V<=j/\j<i then 0 else s j)=UARR .u8 32 fun j=>if V<=j/\j<i+1 then 0 else s j:=z0m fun j _=>by
      by_cases e:j=i
      ·rw [if_pos e,if_pos (by omega)]
      ·rw [if_neg e]
       by_cases e2:V<=j/\j<i
       ·rw [if_pos e2,if_pos (by omega)]
       ·rw [if_neg e2,if_neg (by omega)]
     rw [e] at h3;exact h3
end Go.Proofs.YtlbcnaenhghieaaGreatDoor.HX
