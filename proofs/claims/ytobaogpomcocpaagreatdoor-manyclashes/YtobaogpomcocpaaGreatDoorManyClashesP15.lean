/- ManyClashes: part 15. -/
import Derived.Deep.RegionLaw
import Derived.Test.YtobaogpomcocpaaGreatDoorManyClashesP14
set_option maxRecDepth 100000
set_option maxHeartbeats 2000000
open Go.RowKit
namespace Go.Proofs.YtobaogpomcocpaaGreatDoor
namespace HX
theorem z0c(w:World):Calls Tryz.prog 90 #[] w fun e w'=>e=.returned (.slice (some ⟨w.heap.size,0,none⟩) 64 64)/\w.alloc (.cells (UARR .u64 64 KC) 24)=w':=by
 go_enter Tryz.func90,Tryz.ntmps90;go_wp2;go_ret;exact⟨rfl,rfl⟩
theorem z0d(d:Int)(w:World):Calls Tryz.prog 119 #[.int .i64 d] w fun e w'=>e=.returned (.int .i64 ((WID d:Nat):Int))/\w=w':=by
 by_cases h1:d<1
 ·have e:((WID d:Nat):Int)=1:=by unfold WID;omega
  rw[e];clear e;go_enter Tryz.func119,Tryz.ntmps119;go_wp2;go_ret;exact⟨rfl,rfl⟩
 ·by_cases h2:32<d
  ·have e:((WID d:Nat):Int)=32:=by unfold WID;omega
   rw[e];clear e;go_enter Tryz.func119,Tryz.ntmps119;go_wp2;go_ret;exact⟨rfl,rfl⟩
  ·have e:((WID d:Nat):Int)=d:=by unfold WID;omega
   rw[e];clear e;go_enter Tryz.func119,Tryz.ntmps119;go_wp2;go_ret;exact⟨rfl,rfl⟩
theorem vS(d:Int)(s:Nat->Nat)(w:World):Calls Tryz.prog 89 #[.int .i64 d,.agg (UARR .u8 32 s)] w fun e w'=>e=.returned (.agg (UARR .u8 32 (zL d s)))/\Below w.heap.size w w':=by
 have hz:=zZ;have hW:=KX d;have cw:=z0d d;have HW:Aside (1<=WID d/\WID d<=32):=hW;obtain⟨V,hV⟩:∃ V,V=WID d:=⟨_,rfl⟩
 rw[<-hV] at cw;have HV:Aside (V=WID d/\V<=32):=⟨hV,by omega⟩
 clear hW hV;go_enter Tryz.func89,Tryz.ntmps89;go_wp2_with fail
 refine(cw _).mono ?_;rintro e w' ⟨rfl,rfl⟩;clear cw hz;go_wp2;go_loopg [5] (32 - V) (fun r s5 wx=>∃ i:Nat,i+r=32/\s5=.int .i64 i/\Aside (V<=i/\Below w.heap.size w wx/\Has wx w.heap.size (UARR .u8 32 fun j=>if V<=j/\j<i then 0 else s j) 23/\Has wx (w.heap.size+1) (UARR .u8 32 fun _=>0) 23))
 case atStart=>
  have e:(UARR .u8 32 fun j=>if V<=j/\j<V then 0 else s j)=UARR .u8 32 s:=zB fun j _=>if_neg (by omega);refine⟨V,by have:=HV.out;omega,rfl,Nat.le_refl _,((Below.refl _ _).alloc (Nat.le_refl _) _).alloc (by simp) _,?_,Has.at _ _ _ (by simp)⟩;rw[e];exact(Has.new w _ _).alloc _
 case round=>
  obtain⟨i,hir,rfl,A⟩:=hrel;cases gk with
  | zero=>
    obtain rfl:i=32:=by omega
    obtain⟨hVi,hb,h1,h2⟩:=A.out
    have e:(UARR .u8 32 fun j=>if V<=j/\j<32 then 0 else s j)=UARR .u8 32 (zL d s):=zB fun j hj=>by
     unfold zL;rw[<-HV.out.1];by_cases e:j<V
     ·rw[if_neg (by omega),if_pos e]
     ·rw[if_pos (by omega),if_neg e]
    rw[e] at h1
    go_wp2_with (first
     | (refine wpList_load_row rfl 23 _ rfl _ rfl _ _ (0,0) _ h1 Tryz.underlying23 rfl (zn _) ?_)
     | (refine wpList_store_row rfl 23 _ _ rfl _ _ rfl rfl _ _ h2 (zn _) (by rw[zg,zg]) (zA _ _ _) ?_))
    refine bodyPost_ret (v:=.agg (UARR .u8 32 (zL d s))) ?_ rfl ⟨rfl,zm hb (by omega) _⟩;exact results_cell_row rfl _ _ (w.heap.size+1) 23 _ (0,0) _ rfl (h2.row _) Tryz.underlying23 rfl (zn _)
  | succ r=>
    have hlt:(i:Int)<32:=by omega
    obtain⟨hVi,hb,h1,h2⟩:=A.out;have hc:wr.cell? ⟨w.heap.size,i,none⟩=some (.int .u8 ((if V<=i/\i<i then 0 else s i:Nat):Int)):=by rw[h1.cell,zt _ _ _ _ (by omega)]
    have hf:wr.frozen? ⟨w.heap.size,i,none⟩=false:=h1.frozen i;generalize ((if V<=i/\i<i then 0 else s i:Nat):Int)=x at hc;have R:Aside (V<=i/\Below w.heap.size w wr/\Has wr w.heap.size (UARR .u8 32 fun j=>if V<=j/\j<i then 0 else s j) 23/\Has wr (w.heap.size+1) (UARR .u8 32 fun _=>0) 23):=⟨hVi,hb,h1,h2⟩
    clear hVi hb h1 h2 A;go_wp2;go_roundg r
    case measure=>omega
    case rel=>
     obtain⟨hVi,hb,h1,h2⟩:=R.out;refine⟨i+1,by omega,by go_num,by omega,hb.setCell (Nat.le_refl _) _,?_,h2.other (by show w.heap.size+1≠w.heap.size;omega) _⟩;have h3:=h1.set i (.int .u8 ((0:Nat):Int));rw[xB] at h3
     have e:(UARR .u8 32 fun j=>if j=i then 0 else if V<=j/\j<i then 0 else s j)=UARR .u8 32 fun j=>if V<=j/\j<i+1 then 0 else s j:=zB fun j _=>by
      by_cases e:j=i
      ·rw[if_pos e,if_pos (by omega)]
      ·rw[if_neg e]
       by_cases e2:V<=j/\j<i
       ·rw[if_pos e2,if_pos (by omega)]
       ·rw[if_neg e2,if_neg (by omega)]
     rw[e] at h3;exact h3
theorem kZ(b:Nat)(w:World):(Instr.sliceAt 23 (.pointer (some ⟨b,0,none⟩)) none none none).run Tryz.prog w=.ok (.slice (some ⟨b,0,none⟩) 32 32) w:=by
 have hn:Tryz.prog.arrayLen 23=32:=by kernel_rfl
 rw[run_sliceAt_array_all w 23 ⟨b,0,none⟩ (by kernel_rfl),hn];have he:Tryz.prog.elem 23=5:=by kernel_rfl
 obtain⟨i8,hi,h8⟩:=Option.map_eq_some_iff.1 zU;simp only[Prod.mk.injEq] at h8;rw[he];simp[sizeOf,typeInfo,hi,h8.2.1,slicedAt,Addr.add]
theorem Ka(b:Nat)(w:World):(Instr.sliceAt 97 (.pointer (some ⟨b,0,none⟩)) none none none).run Tryz.prog w=.ok (.slice (some ⟨b,0,none⟩) 64 64) w:=by
 have hn:Tryz.prog.arrayLen 97=64:=by kernel_rfl
 rw[run_sliceAt_array_all w 97 ⟨b,0,none⟩ (by kernel_rfl),hn];have he:Tryz.prog.elem 97=5:=by kernel_rfl
 obtain⟨i8,hi,h8⟩:=Option.map_eq_some_iff.1 zU;simp only[Prod.mk.injEq] at h8;rw[he];simp[sizeOf,typeInfo,hi,h8.2.1,slicedAt,Addr.add]
def ML(b:Nat->Nat)(k:Nat):List Nat:=(List.range (16+k)).map (SCHL b k)
theorem jq(b:Nat->Nat)(k:Nat):(ML b k).length=16+k:=by simp[ML]
theorem jO(b:Nat->Nat)(k i:Nat)(h:i<16+k):(ML b k).getD i 0=SCHL b k i:=by simp[ML,h,List.getD_eq_getElem?_getD]
theorem z1E(b:Nat->Nat):ML b 0=WL b 16:=by
 unfold ML WL;apply List.map_congr_left;intro i hi;rw[SCHL,if_pos (by simpa using hi)]
theorem z1F(b:Nat->Nat)(k:Nat):ML b (k+1)=ML b k ++ [SCHL b (k+1) (16+k)]:=by
 unfold ML;rw[show 16+(k+1)=16+k+1 by omega,List.range_succ,List.map_append];congr 1
 apply List.map_congr_left;intro i hi;have hi:i<16+k:=by simpa using hi
 exact J6 b k 1 i hi
theorem z2o(h m1 m2 m5 m6:Nat):(IntKind.u64.wrap (IntKind.u64.wrap (IntKind.u64.wrap (IntKind.u64.wrap ((h:Int)+(m1:Int))+(m2:Int))+(m5:Int))+(m6:Int))).tmod 4294967296=(((h+m1+m2+m5+m6) % 4294967296:Nat):Int):=by
 rw[Int.tmod_eq_emod_of_nonneg (by rw[zh];omega)];simp only[zh];omega
theorem Yc(x y:Nat):(IntKind.u64.wrap ((x:Int)+(y:Int))).tmod 4294967296=(((x+y) % 4294967296:Nat):Int):=by
 rw[Int.tmod_eq_emod_of_nonneg (by rw[zh];omega),zh];omega
theorem arr8(a b c d e f g h:Nat):(#[.int .u64 (a:Int),.int .u64 (b:Int),.int .u64 (c:Int),.int .u64 (d:Int),.int .u64 (e:Int),.int .u64 (f:Int),.int .u64 (g:Int),.int .u64 (h:Int)]:Array Value)=UARR .u64 8 (ST.at {a:=a,b:=b,c:=c,d:=d,e:=e,f:=f,g:=g,h:=h}):=rfl
theorem z1G{ops:Array Oper}{rest:List Oper}{o:Oper}{a:Act}{Q:Exit->Act->World->Prop}(w:World)(hgd:o.guard=none)(s x:Operand)
  (ho:o.op=.call {callee:=.builtin .append,args:=#[s,x],argTypes:=#[25,25]})
  (base:Nat) (v:Value) (hs:a.eval s=v) (hown:w.ownsRow base 24 1 v 0 [])
  (b m c:Nat) (l:List Nat) (hx:a.eval x=.slice (some ⟨b,0,none⟩) m c) (hl:l.length=m) (hc:∀ i,i<m->w.cell? ⟨b,i,none⟩=some (.int .u64 (l.getD i 0:Nat))) (hm:0<m) (hb:m<=1000) (hbase:base<=w.heap.size)
  (h:∀ g cap w',w'.ownsRow base 24 1 (.slice (some ⟨g,0,none⟩) m cap) m (zK l)->w.grownBy w' v.ownBlock->g<w'.heap.size->wpList Tryz.prog ops Q rest (a.put o.dst (.slice (some ⟨g,0,none⟩) m cap)) w'):wpList Tryz.prog ops Q (o :: rest) a w:=by
 obtain⟨i,hi,hz,hs1,hby⟩:=xA;refine wpList_append_lies w hgd s x 25 ho base 24 i (.int .u64 0) 1 8 Tryz.underlying25 hi hz hs1 hby rfl (by decide) v 0 [] hs hown ⟨b,0,none⟩ m c (zK l) hx (by simp[zK,hl]) ?_ (fun u hu=>by simp[zK] at hu;obtain⟨y,_,rfl⟩:=hu;rfl) hm (by simp only[maxLen];omega) (by omega) hbase w.heap.size rfl ?_
 ·intro j u hj
  have hjl:j<l.length:=by
   have:=(List.getElem?_eq_some_iff.1 hj).1;simpa[zK] using this
  rw[xr l j hjl] at hj;rw[zY,Nat.zero_add,hc j (by omega)];exact hj
 ·intro g cap w' h1 h2 _ h4
  rw[List.nil_append,Nat.zero_add] at h1;rw[Nat.zero_add];exact h g cap w' h1 h2 h4
theorem Ux (d : Int) (s b:Nat->Nat) (hs:∀ i,s i<256) (hb:∀ i,b i<256) (w:World):Calls Tryz.prog 58 #[.int .i64 d,.agg (UARR .u8 32 s),.agg (UARR .u8 64 b)] w fun e w'=>e=.returned (.agg (UARR .u8 32 (COMP d s b)))/\Below w.heap.size w w':=by
 have hz:=zZ;have ct:=z0c;have hs32:=kZ;have hs64:=Ka;have H:Aside ((∀ i,s i<256)/\(∀ i,b i<256)):=⟨hs,hb⟩
 clear hs hb;go_enter Tryz.func58,Tryz.ntmps58;go_wp2_with fail
 refine(ct _).mono ?_;rintro e w1 ⟨rfl,rfl⟩;clear ct;have hB1:Below w.heap.size w ((((w.alloc (.cells (UARR .u8 32 s) 23)).alloc (.cells (UARR .u8 64 b) 97)).alloc (.cells (UARR .u8 32 fun _=>0) 23)).alloc (.cells (UARR .u64 64 KC) 24)):=((((Below.refl _ _).alloc (Nat.le_refl _) _).alloc (by simp) _).alloc (by simp;omega) _).alloc (by simp;omega) _;have K0:Has ((((w.alloc (.cells (UARR .u8 32 s) 23)).alloc (.cells (UARR .u8 64 b) 97)).alloc (.cells (UARR .u8 32 fun _=>0) 23)).alloc (.cells (UARR .u64 64 KC) 24)) w.heap.size (UARR .u8 32 s) 23:=(((Has.new w _ _).alloc _).alloc _).alloc _;have K1:Has ((((w.alloc (.cells (UARR .u8 32 s) 23)).alloc (.cells (UARR .u8 64 b) 97)).alloc (.cells (UARR .u8 32 fun _=>0) 23)).alloc (.cells (UARR .u64 64 KC) 24)) (w.heap.size+1) (UARR .u8 64 b) 97:=((Has.at _ _ _ (by simp)).alloc _).alloc _;have K2:Has ((((w.alloc (.cells (UARR .u8 32 s) 23)).alloc (.cells (UARR .u8 64 b) 97)).alloc (.cells (UARR .u8 32 fun _=>0) 23)).alloc (.cells (UARR .u64 64 KC) 24)) (w.heap.size+2) (UARR .u8 32 fun _=>0) 23:=(Has.at _ _ _ (by simp)).alloc _;have K3:Has ((((w.alloc (.cells (UARR .u8 32 s) 23)).alloc (.cells (UARR .u8 64 b) 97)).alloc (.cells (UARR .u8 32 fun _=>0) 23)).alloc (.cells (UARR .u64 64 KC) 24)) (w.heap.size+3) (UARR .u64 64 KC) 24:=Has.at _ _ _ (by simp)
 have S1:((((w.alloc (.cells (UARR .u8 32 s) 23)).alloc (.cells (UARR .u8 64 b) 97)).alloc (.cells (UARR .u8 32 fun _=>0) 23)).alloc (.cells (UARR .u64 64 KC) 24)).heap.size=w.heap.size+4:=by simp
 have hgk:(((w.alloc (.cells (UARR .u8 32 s) 23)).alloc (.cells (UARR .u8 64 b) 97)).alloc (.cells (UARR .u8 32 fun _=>0) 23)).heap.size=w.heap.size+3:=by simp
 rw[hgk];have R1:Aside (_/\_/\_/\_/\_/\_):=⟨hB1,K0,K1,K2,K3,S1⟩
 generalize (((w.alloc (.cells (UARR .u8 32 s) 23)).alloc (.cells (UARR .u8 64 b) 97)).alloc (.cells (UARR .u8 32 fun _=>0) 23)).alloc (.cells (UARR .u64 64 KC) 24)=w1 at *
 clear hB1 K0 K1 K2 K3 S1 hgk hz;have cw:=JU (w.heap.size+1) 64 64 16 b H.out.2 w1 rfl (by decide) (by decide) R1.out.2.2.1.lt (fun i hi=>by rw[R1.out.2.2.1.cell,zt _ _ _ _ hi]);go_wp2_with fail
 refine cw.mono ?_;rintro e w2 ⟨gm,cm,rfl,hown,hgm,hb2⟩;clear cw;rw[<-z1E] at hown;have R2:Aside (w2.ownsRow w1.heap.size 24 1 (.slice (some ⟨gm,0,none⟩) 16 cm) 16 (zK (ML b 0))/\Below w1.heap.size w1 w2):=⟨hown,hb2⟩
 clear hown hgm hb2;go_wp2;go_loopg [8,9] 48 (fun r s8 s9 wx=>∃ (k T:Nat),k+r=48/\s9=.int .i64 (T:Int)/\Aside (T=16+k/\wx.ownsRow w1.heap.size 24 1 s8 (16+k) (zK (ML b k))/\Below w1.heap.size w1 wx))
 case atStart=>exact⟨0,16,by omega,rfl,rfl,R2.out.1,R2.out.2⟩
 case round=>
  obtain⟨k,T,hkr,rfl,A⟩:=hrel;obtain⟨hT,hown,hbel⟩:=A.out;obtain⟨g,cap,hv,hg1,hg2⟩:=hown.form (by omega);subst hv;clear A R2;cases gk with
  | zero=>
    obtain rfl:k=48:=by omega
    obtain rfl:T=64:=hT;have hk0:Has wr w.heap.size (UARR .u8 32 s) 23:=R1.out.2.1.keep hbel;have hk2:Has wr (w.heap.size+2) (UARR .u8 32 fun _=>0) 23:=R1.out.2.2.2.1.keep hbel;have hk3:Has wr (w.heap.size+3) (UARR .u64 64 KC) 24:=R1.out.2.2.2.2.1.keep hbel;have cw:=JU w.heap.size 32 32 8 s H.out.1 wr rfl (by decide) (by decide) hk0.lt (fun i hi=>by rw[hk0.cell,zt _ _ _ _ hi]);have hcm:∀ i,i<64->wr.cell? ⟨g,i,none⟩=some (.int .u64 (SCH b i:Nat)):=fun i hi=>by rw[hown.cellAt i (by omega),xr _ _ (by rw[jq];omega),jO _ _ _ (by omega)];rfl
    have R4:Aside (Below w.heap.size w wr/\Has wr (w.heap.size+2) (UARR .u8 32 fun _=>0) 23/\(∀ i,i<64->wr.cell? ⟨w.heap.size+3,i,none⟩=some (.int .u64 (KC i:Nat)))/\(∀ i,i<64->wr.cell? ⟨g,i,none⟩=some (.int .u64 (SCH b i:Nat)))/\g<wr.heap.size/\w.heap.size+3<wr.heap.size):=⟨R1.out.1.trans (hbel.mono R1.out.1.size),hk2,fun i hi=>by rw[hk3.cell,zt _ _ _ _ hi],hcm,hg2,hk3.lt⟩
    clear hk0 hk2 hk3 hcm hown hbel hg1 hg2 hkr R1;go_wp2_with fail
    refine cw.mono ?_;rintro e w3 ⟨gv,cv,rfl,hownv,hgv,hb3⟩;clear cw
    have R5:Aside (Below w.heap.size w w3/\Has w3 (w.heap.size+2) (UARR .u8 32 fun _=>0) 23/\(∀ i,i<64->w3.cell? ⟨w.heap.size+3,i,none⟩=some (.int .u64 (KC i:Nat)))/\(∀ i,i<64->w3.cell? ⟨g,i,none⟩=some (.int .u64 (SCH b i:Nat)))/\(∀ i,i<8->w3.cell? ⟨gv,i,none⟩=some (.int .u64 (zk s (4*i):Nat)))/\g<w3.heap.size/\gv<w3.heap.size/\w.heap.size+3<w3.heap.size):=
     ⟨R4.out.1.trans (hb3.mono R4.out.1.size),R4.out.2.1.keep hb3,fun i hi=>(hb3.cell (by exact R4.out.2.2.2.2.2)).trans (R4.out.2.2.1 i hi),fun i hi=>(hb3.cell (by exact R4.out.2.2.2.2.1)).trans (R4.out.2.2.2.1 i hi),fun i hi=>by rw[hownv.cellAt i (by omega),xr _ _ (by rw[YY];exact hi),XY _ _ _ hi],Nat.lt_of_lt_of_le R4.out.2.2.2.2.1 hb3.size,hgv,Nat.lt_of_lt_of_le R4.out.2.2.2.2.2 hb3.size⟩
    clear R4 hownv hgv hb3;have E1:Below w3.heap.size w3 (w3.alloc (.cells #[] 24)):=(Below.refl _ _).alloc (Nat.le_refl _) _;have HE:Aside ((w3.alloc (.cells #[] 24)).ownsRow w3.heap.size 24 1 (.slice (some ⟨w3.heap.size,0,none⟩) 0 0) 0 []/\∀ i,i<8->(w3.alloc (.cells #[] 24)).cell? ⟨gv,i,none⟩=some (.int .u64 ((WL s 8).getD i 0:Nat))):=⟨World.ownsRow_lit w3 #[] 0 (Nat.le_refl _) (by simp[maxLen]) rfl,fun i hi=>by rw[XY _ _ _ hi];exact(E1.cell (by exact R5.out.2.2.2.2.2.2.1)).trans (R5.out.2.2.2.2.1 i hi)⟩
    clear E1;go_wp2_with (at_builtin;refine z1G _ rfl (.tmp 89) (.tmp 90) rfl w3.heap.size _ rfl HE.out.1 gv 8 cv (WL s 8) rfl (YY _ _) HE.out.2 (by decide) (by decide) (by simp) ?_;intro gs cs w4 hown4 hgrow4 hg4)
    have hb4:Below w3.heap.size w3 w4:=((Below.refl _ _).alloc (Nat.le_refl _) _).grown hgrow4 (by simp) (fun k e=>by have e2:(Value.slice (some ⟨w3.heap.size,0,none⟩) 0 0).ownBlock=some k:=e;have e3:w3.heap.size=k:=(by simpa[Value.ownBlock] using e2);omega)
    have hc4:∀ i,i<8->w4.cell? ⟨gs,i,none⟩=some (.int .u64 ((STOF s).at i:Nat)):=fun i hi=>by
     rw[hown4.cellAt i (by omega),xr _ _ (by rw[YY];exact hi),XY _ _ _ hi];have e:i=0\/i=1\/i=2\/i=3\/i=4\/i=5\/i=6\/i=7:=by omega
     rcases e with rfl | rfl | rfl | rfl | rfl | rfl | rfl | rfl <;> rfl
    have R6:Aside (Below w3.heap.size w3 w4/\(∀ i,i<8->w4.cell? ⟨gs,i,none⟩=some (.int .u64 ((STOF s).at i:Nat)))/\gs<w4.heap.size):=⟨hb4,hc4,hg4⟩
    clear hb4 hc4 hg4 hown4 hgrow4 HE;go_wp2_with fail
    go_loopg [13,14] 64 (fun r s13 s14 wx=>∃ (t gx cx:Nat),t+r=64/\s14=.int .i64 (t:Int)/\s13=.slice (some ⟨gx,0,none⟩) 8 cx/\Aside (Below w3.heap.size w3 wx/\(∀ i,i<8->wx.cell? ⟨gx,i,none⟩=some (.int .u64 ((RUN (SCH b) (STOF s) t).at i:Nat)))/\gx<wx.heap.size))
    case atStart=>exact⟨0,gs,cs,by omega,rfl,rfl,R6.out.1,R6.out.2.1,R6.out.2.2⟩
    case round=>
     obtain⟨t,gx,cx,htr,rfl,rfl,A⟩:=hrel;cases gk with
     | zero=>
       obtain rfl:t=64:=by omega
       generalize wr=wo at *
       obtain⟨hbx,hcx,hgx⟩:=A.out;obtain⟨r1,r2,r3,r4,r5,r6,r7,r8⟩:=R5.out
       have X:Aside (Below w.heap.size w wo/\Has wo (w.heap.size+2) (UARR .u8 32 fun _=>0) 23/\(∀ i,i<8->wo.cell? ⟨gv,i,none⟩=some (.int .u64 (zk s (4*i):Nat)))/\(∀ i,i<8->wo.cell? ⟨gx,i,none⟩=some (.int .u64 ((RUN (SCH b) (STOF s) 64).at i:Nat)))/\gv<wo.heap.size/\gx<wo.heap.size):=
        ⟨r1.trans (hbx.mono r1.size),r2.keep hbx,fun i hi=>(hbx.cell (by exact r7)).trans (r5 i hi),hcx,Nat.lt_of_lt_of_le r7 hbx.size,hgx⟩
       have hz:=zZ;clear r1 r2 r3 r4 r5 r6 r7 r8 hbx hcx hgx A R5 R6 htr;go_wp2_with fail
       clear hz;have X2:Aside (Below wo.heap.size wo (wo.alloc (.cells (UARR .u8 32 fun _=>0) 23))/\Has (wo.alloc (.cells (UARR .u8 32 fun _=>0) 23)) wo.heap.size (UARR .u8 32 fun _=>0) 23):=⟨(Below.refl _ _).alloc (Nat.le_refl _) _,Has.new _ _ _⟩
       go_loopg [20] 8 (fun r s20 wx=>∃ i:Nat,i+r=8/\s20=.int .i64 (i:Int)/\Aside (Below wo.heap.size wo wx/\Has wx wo.heap.size (UARR .u8 32 fun j=>if j<4*i then zj (OUTW s b) j else 0) 23))
       case atStart=>
        have e:(UARR .u8 32 fun j=>if j<4*0 then zj (OUTW s b) j else 0)=UARR .u8 32 fun _=>0:=zB fun j _=>if_neg (by omega);exact⟨0,by omega,rfl,X2.out.1,by rw[e];exact X2.out.2⟩
       case round=>
        obtain⟨i,hir,rfl,A⟩:=hrel;cases gk with
        | zero=>
          obtain rfl:i=8:=by omega
          have e:(UARR .u8 32 fun j=>if j<4*8 then zj (OUTW s b) j else 0)=UARR .u8 32 (zj (OUTW s b)):=zB fun j hj=>by rw[if_pos (by omega)]
          rw[e] at A;have cc:=vS d (zj (OUTW s b));go_wp2_with (first | (refine wpList_load_row rfl 23 _ rfl _ rfl 23 (UARR .u8 32 (zj (OUTW s b))) (0,0) _ A.out.2 Tryz.underlying23 rfl (zn _) ?_))
          refine(cc _).mono ?_;rintro e w9 ⟨rfl,hb9⟩;have Y:Aside (Below w.heap.size w w9/\Has w9 (w.heap.size+2) (UARR .u8 32 fun _=>0) 23):=⟨(X.out.1.trans (A.out.1.mono X.out.1.size)).trans (hb9.mono (Nat.le_trans X.out.1.size A.out.1.size)),(X.out.2.1.keep A.out.1).keep hb9⟩
          have hC:zL d (zj (OUTW s b))=COMP d s b:=rfl;rw[hC];clear cc hb9 A X X2 hC;go_wp2_with (first | (refine wpList_store_row rfl 23 _ _ rfl _ _ rfl rfl _ _ Y.out.2 (zn _) (by rw[zg,zg]) (zA _ _ _) ?_))
          refine bodyPost_ret (v:=.agg (UARR .u8 32 (COMP d s b))) ?_ rfl ⟨rfl,zm Y.out.1 (by omega) _⟩;exact results_cell_row rfl _ _ (w.heap.size+2) 23 _ (0,0) _ rfl (Y.out.2.row _) Tryz.underlying23 rfl (zn _)
        | succ r=>
          obtain⟨hb7,h7⟩:=A.out;have cv:wr.cell? ⟨gv,i,none⟩=some (.int .u64 (zk s (4*i):Nat)):=(hb7.cell (by exact X.out.2.2.2.2.1)).trans (X.out.2.2.1 i (by omega));have cx:wr.cell? ⟨gx,i,none⟩=some (.int .u64 ((RUN (SCH b) (STOF s) 64).at i:Nat)):=(hb7.cell (by exact X.out.2.2.2.2.2)).trans (X.out.2.2.2.1 i (by omega));have hO:Aside ((zk s (4*i)+(RUN (SCH b) (STOF s) 64).at i) % 4294967296=OUTW s b i):=rfl;generalize zk s (4*i)=p at cv hO;generalize (RUN (SCH b) (STOF s) 64).at i=q at cx hO;have hil:(i:Int)<8:=by omega
          have J:Aside (i+(r+1)=8/\Below wo.heap.size wo wr/\Has wr wo.heap.size (UARR .u8 32 fun j=>if j<4*i then zj (OUTW s b) j else 0) 23):=⟨hir,hb7,h7⟩
          clear hb7 h7 A hir;go_wp2_with fail
          go_quiet (fail)
          rw[Yc,hO.out];clear cv cx hO;have J':Aside (i+(r+1)=8/\Below wo.heap.size wo (wr.drewN nq)/\Has (wr.drewN nq) wo.heap.size (UARR .u8 32 fun j=>if j<4*i then zj (OUTW s b) j else 0) 23):=⟨J.out.1,below_drewN J.out.2.1 nq,J.out.2.2⟩
          clear J;generalize wr.drewN nq=wa at *
          obtain⟨Y,hY⟩:∃ Y,Y=OUTW s b i:=⟨_,rfl⟩
          rw[<-hY];go_wp2_with fail
          go_loopg [21,22] 4 (fun r4 s21 s22 wx=>∃ (x:Nat) (j:Int),s21=.int .u64 (x:Int)/\s22=.int .i64 j/\Aside (j+1=(r4:Int)/\r4<=4/\x=Y / 256 ^ (4 - r4)/\Below wo.heap.size wo wx/\Has wx wo.heap.size (UARR .u8 32 fun j=>if j<4*i then zj (OUTW s b) j else if 4*i+r4<=j/\j<4*i+4 then zj (OUTW s b) j else 0) 23))
          case atStart=>
           have e:(UARR .u8 32 fun j=>if j<4*i then zj (OUTW s b) j else if 4*i+4<=j/\j<4*i+4 then zj (OUTW s b) j else 0)=UARR .u8 32 fun j=>if j<4*i then zj (OUTW s b) j else 0:=zB fun j _=>by
             by_cases e:j<4*i
             ·rw[if_pos e,if_pos e]
             ·rw[if_neg e,if_neg e,if_neg (by omega)]
           refine⟨Y,3,rfl,rfl,by omega,by omega,by simp,J'.out.2.1,?_⟩;rw[e];exact J'.out.2.2
          case round=>
           obtain⟨x,j,rfl,rfl,A⟩:=hrel;obtain⟨hj1,hj2,hx,hb8,h8⟩:=A.out;cases gk with
           | zero=>
             obtain rfl:j = -1:=by omega
             have e:(UARR .u8 32 fun j=>if j<4*i then zj (OUTW s b) j else if 4*i+0<=j/\j<4*i+4 then zj (OUTW s b) j else 0)=UARR .u8 32 fun j=>if j<4*(i+1) then zj (OUTW s b) j else 0:=zB fun j _=>by
              by_cases e:j<4*i
              ·rw[if_pos e,if_pos (by omega)]
              ·rw[if_neg e]
               by_cases e2:j<4*(i+1)
               ·rw[if_pos (by omega),if_pos e2]
               ·rw[if_neg (by omega),if_neg e2]
             rw[e] at h8;have K:Aside (Below wo.heap.size wo wr/\Has wr wo.heap.size (UARR .u8 32 fun j=>if j<4*(i+1) then zj (OUTW s b) j else 0) 23):=⟨hb8,h8⟩
             clear hj1 hj2 hx hb8 h8 A e;go_wp2;go_roundg r
             case measure=>omega
             case rel=>
              exact⟨i+1,by have:=J'.out.1;omega,by go_num,K.out.1,K.out.2⟩
           | succ k=>
             obtain rfl:j=(k:Int):=by omega
             obtain⟨P,hP⟩:∃ P,P=4*i:=⟨_,rfl⟩
             obtain⟨Q,hQ⟩:∃ Q,Q=P+k:=⟨_,rfl⟩
             have hi8:i<8:=by have:=J'.out.1;omega
             have e1:(4:Int)*(i:Int)=(P:Int):=by omega
             have f1:IntKind.i64.wrap (P:Int)=(P:Int):=by rw[IntKind.wrap_i64];omega
             have e2:(P:Int)+(k:Int)=(Q:Int):=by omega
             have f2:IntKind.i64.wrap (Q:Int)=(Q:Int):=by rw[IntKind.wrap_i64];omega
             have g2:(Q:Int)<32:=by omega
             have hc:wr.cell? ⟨wo.heap.size,Q,none⟩=some (.int .u8 ((if Q<4*i then zj (OUTW s b) Q else if 4*i+(k+1)<=Q/\Q<4*i+4 then zj (OUTW s b) Q else 0:Nat):Int)):=by rw[h8.cell,zt _ _ _ _ (by omega)]
             have hf:wr.frozen? ⟨wo.heap.size,Q,none⟩=false:=h8.frozen Q;generalize ((if Q<4*i then zj (OUTW s b) Q else if 4*i+(k+1)<=Q/\Q<4*i+4 then zj (OUTW s b) Q else 0:Nat):Int)=cq at hc;have K:Aside (k+1<=4/\P=4*i/\Q=P+k/\i<8/\x=Y / 256 ^ (4 - (k+1))/\Below wo.heap.size wo wr/\Has wr wo.heap.size (UARR .u8 32 fun j=>if j<4*i then zj (OUTW s b) j else if 4*i+(k+1)<=j/\j<4*i+4 then zj (OUTW s b) j else 0) 23):=⟨hj2,hP,hQ,hi8,hx,hb8,h8⟩
             clear hj1 hj2 hx hb8 h8 A hP hQ hi8;go_wp2;go_roundg k
             case measure=>omega
             case rel=>
              obtain⟨k1,k2,k3,k4,k5,k6,k7⟩:=K.out;have hYl:Y<4294967296:=by rw[hY];exact Nat.mod_lt _ (by decide)
              have hxl:x<=Y:=by rw[k5];exact Nat.div_le_self _ _
              have hp:∀ k:Nat,k+1<=4->256 ^ (4 - (k+1))=2 ^ (24 - 8*k):=fun k h=>by
               have h4:k=0\/k=1\/k=2\/k=3:=by omega
               rcases h4 with rfl | rfl | rfl | rfl <;> decide
              have ew:IntKind.u64.wrap ((x:Int) / 256)=((x / 256:Nat):Int):=by rw[zh];omega
              have ec:(x:Int) % 256=((x % 256:Nat):Int):=by omega
              have ep:256 ^ (4 - (k+1))*256=256 ^ (4 - k):=by
               rw[<-Nat.pow_succ];congr 1
               omega
              rw[ew,ec];refine⟨x / 256,(k:Int) - 1,rfl,rfl,by omega,by omega,?_,k6.setCell (Nat.le_refl _) _,?_⟩
              ·rw[k5,Nat.div_div_eq_div_mul,ep]
              ·have hv:x % 256=zj (OUTW s b) Q:=by
                rw[k3,k2,jw _ _ _ (by omega),<-hY,k5,hp k k1]
               have h3:=k7.set Q (.int .u8 ((x % 256:Nat):Int));rw[xB] at h3
               have e:(UARR .u8 32 fun j=>if j=Q then x % 256 else if j<4*i then zj (OUTW s b) j else if 4*i+(k+1)<=j/\j<4*i+4 then zj (OUTW s b) j else 0)=UARR .u8 32 fun j=>if j<4*i then zj (OUTW s b) j else if 4*i+k<=j/\j<4*i+4 then zj (OUTW s b) j else 0:=zB fun j _=>by
                by_cases e:j=Q
                ·rw[if_pos e,if_neg (by omega),if_pos (by omega),hv,e]
                ·rw[if_neg e]
                 by_cases e2:j<4*i
                 ·rw[if_pos e2,if_pos e2]
                 ·rw[if_neg e2,if_neg e2]
                  by_cases e3:4*i+(k+1)<=j/\j<4*i+4
                  ·rw[if_pos e3,if_pos (by omega)]
                  ·rw[if_neg e3,if_neg (by omega)]
               rw[e] at h3;exact h3
     | succ r=>
       obtain⟨hbx,hcx,hgx⟩:=A.out;have hsm:=YP (SCH b) (J7 H.out.1) t;have E2:Aside (RUN (SCH b) (STOF s) (t+1)=RND (KC t) (SCH b t) (RUN (SCH b) (STOF s) t)):=rfl;generalize RUN (SCH b) (STOF s) t=S at *
       obtain⟨r1,r2,r3,r4,r5,r6,r7,r8⟩:=R5.out;have cK:wr.cell? ⟨w.heap.size+3,t,none⟩=some (.int .u64 (KC t:Nat)):=(hbx.cell (by exact r8)).trans (r3 t (by omega));have cM:wr.cell? ⟨g,t,none⟩=some (.int .u64 (SCH b t:Nat)):=(hbx.cell (by exact r6)).trans (r4 t (by omega));have c0:wr.cell? ⟨gx,0,none⟩=some (.int .u64 (S.a:Nat)):=hcx 0 (by decide);have c1:wr.cell? ⟨gx,1,none⟩=some (.int .u64 (S.b:Nat)):=hcx 1 (by decide);have c2:wr.cell? ⟨gx,2,none⟩=some (.int .u64 (S.c:Nat)):=hcx 2 (by decide);have c3:wr.cell? ⟨gx,3,none⟩=some (.int .u64 (S.d:Nat)):=hcx 3 (by decide);have c4:wr.cell? ⟨gx,4,none⟩=some (.int .u64 (S.e:Nat)):=hcx 4 (by decide);have c5:wr.cell? ⟨gx,5,none⟩=some (.int .u64 (S.f:Nat)):=hcx 5 (by decide);have c6:wr.cell? ⟨gx,6,none⟩=some (.int .u64 (S.g:Nat)):=hcx 6 (by decide);have c7:wr.cell? ⟨gx,7,none⟩=some (.int .u64 (S.h:Nat)):=hcx 7 (by decide);obtain⟨l1,l2,l3,l4,l5,l6,l7,l8⟩:=hsm;have lk:=z2K t;have lm:SCH b t<2 ^ 32:=xF H.out.2 48 t;obtain⟨Re,hRe⟩:∃ R:Int->Int,∀ n:Nat,R (n:Int)=((ROTR n S.e:Nat):Int):=⟨fun n=>((ROTR n.toNat S.e:Nat):Int),fun n=>by simp⟩
       obtain⟨Ra,hRa⟩:∃ R:Int->Int,∀ n:Nat,R (n:Int)=((ROTR n S.a:Nat):Int):=⟨fun n=>((ROTR n.toNat S.a:Nat):Int),fun n=>by simp⟩
       have cRe:∀ n:Int,1<=n/\n<32->∀ w,Calls Tryz.prog 93 #[.int .u64 (S.e:Nat),.int .i64 n] w fun e w'=>e=.returned (.int .u64 (Re n))/\∃ m,w'=w.drewN m:=fun n hn w=>by
        obtain⟨N,rfl⟩:∃ N:Nat,n=(N:Int):=⟨n.toNat,by omega⟩
        rw[hRe];exact ZW S.e N l5 (by omega) (by omega) w
       have cRa:∀ n:Int,1<=n/\n<32->∀ w,Calls Tryz.prog 93 #[.int .u64 (S.a:Nat),.int .i64 n] w fun e w'=>e=.returned (.int .u64 (Ra n))/\∃ m,w'=w.drewN m:=fun n hn w=>by
        obtain⟨N,rfl⟩:∃ N:Nat,n=(N:Int):=⟨n.toNat,by omega⟩
        rw[hRa];exact ZW S.a N l1 (by omega) (by omega) w
       have cXe:∀ w,Calls Tryz.prog 92 #[.int .u64 (Re 6),.int .u64 (Re 11),.int .u64 (Re 25)] w fun e w'=>e=.returned (.int .u64 ((MIX 6 11 25 S.e:Nat):Int))/\w=w':=fun w=>by
        rw[show Re 6=((ROTR 6 S.e:Nat):Int) from hRe 6,show Re 11=((ROTR 11 S.e:Nat):Int) from hRe 11,show Re 25=((ROTR 25 S.e:Nat):Int) from hRe 25];exact Yb _ _ _ (zH (by decide) l5) (zH (by decide) l5) (zH (by decide) l5) w
       have cXa:∀ w,Calls Tryz.prog 92 #[.int .u64 (Ra 2),.int .u64 (Ra 13),.int .u64 (Ra 22)] w fun e w'=>e=.returned (.int .u64 ((MIX 2 13 22 S.a:Nat):Int))/\w=w':=fun w=>by
        rw[show Ra 2=((ROTR 2 S.a:Nat):Int) from hRa 2,show Ra 13=((ROTR 13 S.a:Nat):Int) from hRa 13,show Ra 22=((ROTR 22 S.a:Nat):Int) from hRa 22];exact Yb _ _ _ (zH (by decide) l1) (zH (by decide) l1) (zH (by decide) l1) w
       have cCh:∀ w,Calls Tryz.prog 95 #[.int .u64 (S.e:Nat),.int .u64 (S.f:Nat),.int .u64 (S.g:Nat)] w fun e w'=>e=.returned (.int .u64 ((CHO S.e S.f S.g:Nat):Int))/\w=w':=fun w=>z2S _ _ _ l5 l6 l7 w;have cMj:∀ w,Calls Tryz.prog 96 #[.int .u64 (S.a:Nat),.int .u64 (S.b:Nat),.int .u64 (S.c:Nat)] w fun e w'=>e=.returned (.int .u64 ((MAJ S.a S.b S.c:Nat):Int))/\w=w':=fun w=>z2n _ _ _ l1 l2 l3 w;have E:Aside (RND (KC t) (SCH b t) S={a:=((S.h+MIX 6 11 25 S.e+CHO S.e S.f S.g+KC t+SCH b t) % 4294967296+(MIX 2 13 22 S.a+MAJ S.a S.b S.c) % 4294967296) % 4294967296,b:=S.a,c:=S.b,d:=S.c,e:=(S.d+(S.h+MIX 6 11 25 S.e+CHO S.e S.f S.g+KC t+SCH b t) % 4294967296) % 4294967296,f:=S.e,g:=S.f,h:=S.g}):=rfl;have lx1:MIX 6 11 25 S.e<2 ^ 32:=Ud (by decide) (by decide) (by decide) l5;have lx2:MIX 2 13 22 S.a<2 ^ 32:=Ud (by decide) (by decide) (by decide) l1;have lx3:CHO S.e S.f S.g<2 ^ 32:=Ue l5 l7;have lx4:MAJ S.a S.b S.c<2 ^ 32:=Uf l1 l2;generalize RND (KC t) (SCH b t) S=S' at *
       generalize MIX 6 11 25 S.e=m1 at *
       generalize CHO S.e S.f S.g=m2 at *
       generalize MIX 2 13 22 S.a=m3 at *
       generalize MAJ S.a S.b S.c=m4 at *
       generalize KC t=m5 at *
       generalize SCH b t=m6 at *
       obtain⟨sa,sb,sc,sd,se,sf,sg,sh⟩:=S;simp only at *
       have L:Aside (sa<2 ^ 32/\sb<2 ^ 32/\sc<2 ^ 32/\sd<2 ^ 32/\se<2 ^ 32/\sf<2 ^ 32/\sg<2 ^ 32/\sh<2 ^ 32/\m1<2 ^ 32/\m2<2 ^ 32/\m3<2 ^ 32/\m4<2 ^ 32/\m5<2 ^ 32/\m6<2 ^ 32):=⟨l1,l2,l3,l4,l5,l6,l7,l8,lx1,lx3,lx2,lx4,lk,lm⟩
       have htl:(t:Int)<64:=by omega
       have J:Aside (Below w3.heap.size w3 wr/\t+(r+1)=64/\gx<wr.heap.size):=⟨hbx,htr,hgx⟩
       clear l1 l2 l3 l4 l5 l6 l7 l8 lx1 lx2 lx3 lx4 lk lm hRe hRa r1 r2 r3 r4 r5 r6 r7 r8 hbx hcx hgx htr A R5 R6;go_wp2_with fail
       go_quiet (first | (go_at_call 93;exact Calls.quiet_of (cRe _ (by decide) _)) | (go_at_call 92;exact yg (cXe _)))
       clear cRe cXe;have cK':(wr.drewN nq).cell? ⟨w.heap.size+3,t,none⟩=some (.int .u64 (m5:Nat)):=cK;have cM':(wr.drewN nq).cell? ⟨g,t,none⟩=some (.int .u64 (m6:Nat)):=cM;have c0':(wr.drewN nq).cell? ⟨gx,0,none⟩=some (.int .u64 (sa:Nat)):=c0;have c1':(wr.drewN nq).cell? ⟨gx,1,none⟩=some (.int .u64 (sb:Nat)):=c1;have c2':(wr.drewN nq).cell? ⟨gx,2,none⟩=some (.int .u64 (sc:Nat)):=c2;have c3':(wr.drewN nq).cell? ⟨gx,3,none⟩=some (.int .u64 (sd:Nat)):=c3;have c4':(wr.drewN nq).cell? ⟨gx,4,none⟩=some (.int .u64 (se:Nat)):=c4;have c5':(wr.drewN nq).cell? ⟨gx,5,none⟩=some (.int .u64 (sf:Nat)):=c5;have c6':(wr.drewN nq).cell? ⟨gx,6,none⟩=some (.int .u64 (sg:Nat)):=c6;have c7':(wr.drewN nq).cell? ⟨gx,7,none⟩=some (.int .u64 (sh:Nat)):=c7;have J':Aside (Below w3.heap.size w3 (wr.drewN nq)/\t+(r+1)=64/\gx<(wr.drewN nq).heap.size):=⟨below_drewN J.out.1 nq,J.out.2⟩
       clear cK cM c0 c1 c2 c3 c4 c5 c6 c7 J;generalize wr.drewN nq=wa at *
       go_wp2_with fail
       go_quiet ((go_at_call 95;exact yg (cCh _)))
       clear cCh;clear cK' cM';have c0'':(wa.drewN nq).cell? ⟨gx,0,none⟩=some (.int .u64 (sa:Nat)):=c0';have c1'':(wa.drewN nq).cell? ⟨gx,1,none⟩=some (.int .u64 (sb:Nat)):=c1';have c2'':(wa.drewN nq).cell? ⟨gx,2,none⟩=some (.int .u64 (sc:Nat)):=c2';have c3'':(wa.drewN nq).cell? ⟨gx,3,none⟩=some (.int .u64 (sd:Nat)):=c3';have c4'':(wa.drewN nq).cell? ⟨gx,4,none⟩=some (.int .u64 (se:Nat)):=c4';have c5'':(wa.drewN nq).cell? ⟨gx,5,none⟩=some (.int .u64 (sf:Nat)):=c5';have c6'':(wa.drewN nq).cell? ⟨gx,6,none⟩=some (.int .u64 (sg:Nat)):=c6';have c7'':(wa.drewN nq).cell? ⟨gx,7,none⟩=some (.int .u64 (sh:Nat)):=c7';have J'':Aside (Below w3.heap.size w3 (wa.drewN nq)/\t+(r+1)=64/\gx<(wa.drewN nq).heap.size):=⟨below_drewN J'.out.1 nq,J'.out.2⟩
       clear c0' c1' c2' c3' c4' c5' c6' c7' J';generalize wa.drewN nq=wb at *
       go_wp2_with fail
       go_quiet (first | (go_at_call 93;exact Calls.quiet_of (cRa _ (by decide) _)) | (go_at_call 92;exact yg (cXa _)))
       clear cRa cXa;have c0''':(wb.drewN nq).cell? ⟨gx,0,none⟩=some (.int .u64 (sa:Nat)):=c0'';have c1''':(wb.drewN nq).cell? ⟨gx,1,none⟩=some (.int .u64 (sb:Nat)):=c1'';have c2''':(wb.drewN nq).cell? ⟨gx,2,none⟩=some (.int .u64 (sc:Nat)):=c2'';have c3''':(wb.drewN nq).cell? ⟨gx,3,none⟩=some (.int .u64 (sd:Nat)):=c3'';have c4''':(wb.drewN nq).cell? ⟨gx,4,none⟩=some (.int .u64 (se:Nat)):=c4'';have c5''':(wb.drewN nq).cell? ⟨gx,5,none⟩=some (.int .u64 (sf:Nat)):=c5'';have c6''':(wb.drewN nq).cell? ⟨gx,6,none⟩=some (.int .u64 (sg:Nat)):=c6'';have c7''':(wb.drewN nq).cell? ⟨gx,7,none⟩=some (.int .u64 (sh:Nat)):=c7'';have J''':Aside (Below w3.heap.size w3 (wb.drewN nq)/\t+(r+1)=64/\gx<(wb.drewN nq).heap.size):=⟨below_drewN J''.out.1 nq,J''.out.2⟩
       clear c0'' c1'' c2'' c3'' c4'' c5'' c6'' c7'' J'';generalize wb.drewN nq=wc at *
       go_wp2_with fail
       go_quiet ((go_at_call 96;exact yg (cMj _)))
       clear cMj;have c0'''':(wc.drewN nq).cell? ⟨gx,0,none⟩=some (.int .u64 (sa:Nat)):=c0''';have c1'''':(wc.drewN nq).cell? ⟨gx,1,none⟩=some (.int .u64 (sb:Nat)):=c1''';have c2'''':(wc.drewN nq).cell? ⟨gx,2,none⟩=some (.int .u64 (sc:Nat)):=c2''';have c3'''':(wc.drewN nq).cell? ⟨gx,3,none⟩=some (.int .u64 (sd:Nat)):=c3''';have c4'''':(wc.drewN nq).cell? ⟨gx,4,none⟩=some (.int .u64 (se:Nat)):=c4''';have c5'''':(wc.drewN nq).cell? ⟨gx,5,none⟩=some (.int .u64 (sf:Nat)):=c5''';have c6'''':(wc.drewN nq).cell? ⟨gx,6,none⟩=some (.int .u64 (sg:Nat)):=c6''';have c7'''':(wc.drewN nq).cell? ⟨gx,7,none⟩=some (.int .u64 (sh:Nat)):=c7''';have J'''':Aside (Below w3.heap.size w3 (wc.drewN nq)/\t+(r+1)=64/\gx<(wc.drewN nq).heap.size):=⟨below_drewN J'''.out.1 nq,J'''.out.2⟩
       clear c0''' c1''' c2''' c3''' c4''' c5''' c6''' c7''' J''';generalize wc.drewN nq=wd at *
       go_wp2_with fail
       have n0:=World.new_ne wd ⟨gx,0,none⟩ c0'''';have n1:=World.new_ne wd ⟨gx,1,none⟩ c1'''';have n2:=World.new_ne wd ⟨gx,2,none⟩ c2'''';have n3:=World.new_ne wd ⟨gx,3,none⟩ c3'''';have n4:=World.new_ne wd ⟨gx,4,none⟩ c4'''';have n5:=World.new_ne wd ⟨gx,5,none⟩ c5'''';have n6:=World.new_ne wd ⟨gx,6,none⟩ c6'''';go_region_held3 (fun W:World=>W.cell? ⟨gx,0,none⟩=some (.int .u64 (sa:Int))/\W.cell? ⟨gx,1,none⟩=some (.int .u64 (sb:Int))/\W.cell? ⟨gx,2,none⟩=some (.int .u64 (sc:Int))/\W.cell? ⟨gx,3,none⟩=some (.int .u64 (sd:Int))/\W.cell? ⟨gx,4,none⟩=some (.int .u64 (se:Int))/\W.cell? ⟨gx,5,none⟩=some (.int .u64 (sf:Int))/\W.cell? ⟨gx,6,none⟩=some (.int .u64 (sg:Int))) (go_keep) (fail)
       rw[z2o,Yc,Yc,Yc];obtain⟨A8,hA8⟩:∃ A8:Array Value,A8=UARR .u64 8 S'.at:=⟨_,rfl⟩
       have hA9:(#[.int .u64 ((((sh+m1+m2+m5+m6) % 4294967296+(m3+m4) % 4294967296) % 4294967296:Nat):Int),.int .u64 (sa:Int),.int .u64 (sb:Int),.int .u64 (sc:Int),.int .u64 (((sd+(sh+m1+m2+m5+m6) % 4294967296) % 4294967296:Nat):Int),.int .u64 (se:Int),.int .u64 (sf:Int),.int .u64 (sg:Int)]:Array Value)=A8:=by rw[hA8,E.out];exact arr8 _ _ _ _ _ _ _ _
       rw[hA9];have hH9:Has (wd.alloc (.cells A8 24)).drew wd.heap.size (UARR .u64 8 S'.at) 24:=by rw[hA8];exact(Has.new wd _ _).drewN 1
       have U:Aside (Below w3.heap.size w3 (wd.alloc (.cells A8 24)).drew/\(∀ i,i<8->(wd.alloc (.cells A8 24)).drew.cell? ⟨wd.heap.size,i,none⟩=some (.int .u64 (S'.at i:Nat)))/\wd.heap.size<(wd.alloc (.cells A8 24)).drew.heap.size):=⟨(J''''.out.1.alloc J''''.out.1.size _).drew,fun i hi=>by rw[hH9.cell,zt _ _ _ _ hi],hH9.lt⟩
       have HT:Aside (t+(r+1)=64):=J''''.out.2.1;clear hH9 hA9 hA8 c0'''' c1'''' c2'''' c3'''' c4'''' c5'''' c6'''' c7'''' n0 n1 n2 n3 n4 n5 n6;generalize (wd.alloc (.cells A8 24)).drew=we at *
       generalize wd.heap.size=ge at *
       go_wp2;go_roundg r
       case measure=>omega
       case rel=>exact⟨t+1,ge,8,by have:=HT.out;omega,by go_num,rfl,U.out.1,fun i hi=>by rw[E2.out];exact U.out.2.1 i hi,U.out.2.2⟩
  | succ r=>
    have ca:wr.cell? ⟨g,14+k,none⟩=some (.int .u64 (SCHL b k (14+k):Nat)):=by rw[hown.cellAt (14+k) (by omega),xr _ _ (by rw[jq];omega),jO _ _ _ (by omega)]
    have cb:wr.cell? ⟨g,9+k,none⟩=some (.int .u64 (SCHL b k (9+k):Nat)):=by rw[hown.cellAt (9+k) (by omega),xr _ _ (by rw[jq];omega),jO _ _ _ (by omega)]
    have cc:wr.cell? ⟨g,1+k,none⟩=some (.int .u64 (SCHL b k (1+k):Nat)):=by rw[hown.cellAt (1+k) (by omega),xr _ _ (by rw[jq];omega),jO _ _ _ (by omega)]
    have cd:wr.cell? ⟨g,k,none⟩=some (.int .u64 (SCHL b k k:Nat)):=by rw[hown.cellAt k (by omega),xr _ _ (by rw[jq];omega),jO _ _ _ (by omega)]
    have la:=xF H.out.2 k (14+k);have lb:=xF H.out.2 k (9+k);have lc:=xF H.out.2 k (1+k);have ld:=xF H.out.2 k k;have V:Aside ((zV 17 19 10 (SCHL b k (14+k))+SCHL b k (9+k)+zV 7 18 3 (SCHL b k (1+k))+SCHL b k k) % 4294967296=SCHL b (k+1) (16+k)):=by rw[Aside,SCHL,if_pos rfl]
    generalize SCHL b k (14+k)=va at *
    generalize SCHL b k (9+k)=vb at *
    generalize SCHL b k (1+k)=vc at *
    generalize SCHL b k k=vd at *
    obtain⟨Ra,hRa⟩:∃ R:Int->Int,∀ n:Nat,R (n:Int)=((ROTR n va:Nat):Int):=⟨fun n=>((ROTR n.toNat va:Nat):Int),fun n=>by simp⟩
    obtain⟨Rc,hRc⟩:∃ R:Int->Int,∀ n:Nat,R (n:Int)=((ROTR n vc:Nat):Int):=⟨fun n=>((ROTR n.toNat vc:Nat):Int),fun n=>by simp⟩
    have cRa:∀ n:Int,1<=n/\n<32->∀ w,Calls Tryz.prog 93 #[.int .u64 (va:Int),.int .i64 n] w fun e w'=>e=.returned (.int .u64 (Ra n))/\∃ m,w'=w.drewN m:=fun n hn w=>by
     obtain⟨N,rfl⟩:∃ N:Nat,n=(N:Int):=⟨n.toNat,by omega⟩
     rw[hRa];exact ZW va N la (by omega) (by omega) w
    have cRc:∀ n:Int,1<=n/\n<32->∀ w,Calls Tryz.prog 93 #[.int .u64 (vc:Int),.int .i64 n] w fun e w'=>e=.returned (.int .u64 (Rc n))/\∃ m,w'=w.drewN m:=fun n hn w=>by
     obtain⟨N,rfl⟩:∃ N:Nat,n=(N:Int):=⟨n.toNat,by omega⟩
     rw[hRc];exact ZW vc N lc (by omega) (by omega) w
    have cSa:∀ w,Calls Tryz.prog 94 #[.int .u64 (va:Int),.int .i64 10] w fun e w'=>e=.returned (.int .u64 ((va / 2 ^ 10:Nat):Int))/\w=w':=fun w=>uF va 10 la (by decide) w;have cSc:∀ w,Calls Tryz.prog 94 #[.int .u64 (vc:Int),.int .i64 3] w fun e w'=>e=.returned (.int .u64 ((vc / 2 ^ 3:Nat):Int))/\w=w':=fun w=>uF vc 3 lc (by decide) w
    have cXa:∀ w,Calls Tryz.prog 92 #[.int .u64 (Ra 17),.int .u64 (Ra 19),.int .u64 ((va / 2 ^ 10:Nat):Int)] w fun e w'=>e=.returned (.int .u64 ((zV 17 19 10 va:Nat):Int))/\w=w':=fun w=>by
     rw[show Ra 17=((ROTR 17 va:Nat):Int) from hRa 17,show Ra 19=((ROTR 19 va:Nat):Int) from hRa 19];exact Yb _ _ _ (zH (by decide) la) (zH (by decide) la) (Nat.lt_of_le_of_lt (Nat.div_le_self _ _) la) w
    have cXc:∀ w,Calls Tryz.prog 92 #[.int .u64 (Rc 7),.int .u64 (Rc 18),.int .u64 ((vc / 2 ^ 3:Nat):Int)] w fun e w'=>e=.returned (.int .u64 ((zV 7 18 3 vc:Nat):Int))/\w=w':=fun w=>by
     rw[show Rc 7=((ROTR 7 vc:Nat):Int) from hRc 7,show Rc 18=((ROTR 18 vc:Nat):Int) from hRc 18];exact Yb _ _ _ (zH (by decide) lc) (zH (by decide) lc) (Nat.lt_of_le_of_lt (Nat.div_le_self _ _) lc) w
    have lp:zV 17 19 10 va<2 ^ 32:=Vt (by decide) (by decide) la;have lq:zV 7 18 3 vc<2 ^ 32:=Vt (by decide) (by decide) lc;generalize zV 17 19 10 va=p at *
    generalize zV 7 18 3 vc=q at *
    generalize ((va / 2 ^ 10:Nat):Int)=sa at *
    generalize ((vc / 2 ^ 3:Nat):Int)=sc at *
    have L:Aside (p<2 ^ 32/\vb<2 ^ 32/\q<2 ^ 32/\vd<2 ^ 32):=⟨lp,lb,lq,ld⟩
    rw[<-hT] at hown ⊢;obtain⟨x1,h1⟩:∃ x1,x1=14+k:=⟨_,rfl⟩
    obtain⟨x2,h2⟩:∃ x2,x2=9+k:=⟨_,rfl⟩
    obtain⟨x3,h3⟩:∃ x3,x3=1+k:=⟨_,rfl⟩
    rw[<-h1] at ca;rw[<-h2] at cb;rw[<-h3] at cc;have e1:(T:Int) - 2=(x1:Int):=by omega
    have e2:(T:Int) - 7=(x2:Int):=by omega
    have e3:(T:Int) - 15=(x3:Int):=by omega
    have e4:(T:Int) - 16=(k:Int):=by omega
    have f1:IntKind.i64.wrap (x1:Int)=(x1:Int):=by rw[IntKind.wrap_i64];omega
    have f2:IntKind.i64.wrap (x2:Int)=(x2:Int):=by rw[IntKind.wrap_i64];omega
    have f3:IntKind.i64.wrap (x3:Int)=(x3:Int):=by rw[IntKind.wrap_i64];omega
    have f4:IntKind.i64.wrap (k:Int)=(k:Int):=by rw[IntKind.wrap_i64];omega
    have i1:(x1:Int)<(T:Int):=by omega
    have i2:(x2:Int)<(T:Int):=by omega
    have i3:(x3:Int)<(T:Int):=by omega
    have i4:(k:Int)<(T:Int):=by omega
    have hlt:(T:Int)<64:=by omega
    have R:Aside (T=16+k/\wr.ownsRow w1.heap.size 24 1 (.slice (some ⟨g,0,none⟩) T cap) T (zK (ML b k))/\Below w1.heap.size w1 wr/\k+(r+1)=48/\g<wr.heap.size):=⟨hT,hown,hbel,hkr,hg2⟩
    clear la lb lc ld lp lq hRa hRc h1 h2 h3 hT hown hbel hkr hg1 hg2;go_wp2_with fail
    go_quiet (first | (go_at_call 93;exact Calls.quiet_of (cRa _ (by decide) _)) | (go_at_call 94;exact yg (cSa _)) | (go_at_call 92;exact yg (cXa _)))
    clear cRa cSa cXa ca;have cb2:(wr.drewN nq).cell? ⟨g,x2,none⟩=some (.int .u64 (vb:Nat)):=cb;have cc2:(wr.drewN nq).cell? ⟨g,x3,none⟩=some (.int .u64 (vc:Nat)):=cc;have cd2:(wr.drewN nq).cell? ⟨g,k,none⟩=some (.int .u64 (vd:Nat)):=cd;have R2:Aside (T=16+k/\(wr.drewN nq).ownsRow w1.heap.size 24 1 (.slice (some ⟨g,0,none⟩) T cap) T (zK (ML b k))/\Below w1.heap.size w1 (wr.drewN nq)/\k+(r+1)=48/\g<(wr.drewN nq).heap.size):=⟨R.out.1,R.out.2.1,below_drewN R.out.2.2.1 nq,R.out.2.2.2⟩
    clear cb cc cd R;generalize wr.drewN nq=wq at *
    go_wp2_with fail
    go_quiet (first | (go_at_call 93;exact Calls.quiet_of (cRc _ (by decide) _)) | (go_at_call 94;exact yg (cSc _)) | (go_at_call 92;exact yg (cXc _)))
    clear cRc cSc cXc cc2;have cb3:(wq.drewN nq).cell? ⟨g,x2,none⟩=some (.int .u64 (vb:Nat)):=cb2;have cd3:(wq.drewN nq).cell? ⟨g,k,none⟩=some (.int .u64 (vd:Nat)):=cd2;have R3:Aside (T=16+k/\(wq.drewN nq).ownsRow w1.heap.size 24 1 (.slice (some ⟨g,0,none⟩) T cap) T (zK (ML b k))/\Below w1.heap.size w1 (wq.drewN nq)/\k+(r+1)=48/\g<(wq.drewN nq).heap.size):=⟨R2.out.1,R2.out.2.1,below_drewN R2.out.2.2.1 nq,R2.out.2.2.2⟩
    clear cb2 cd2 R2;generalize wq.drewN nq=wz at *
    have hT1:T<=1000:=by omega
    have hbz:w1.heap.size<=wz.heap.size:=R3.out.2.2.1.size;go_wp2_with fail
    go_region_law (refine VR wz.drew _ rfl (.tmp 68) (.tmp 85) rfl w1.heap.size (.slice (some ⟨g,0,none⟩) T cap) T (zK (ML b k)) rfl (by exact R3.out.2.1) rfl hT1 (by exact hbz) ?_;intro g8 cap8 w8 hown8 hgrow8 hg8)
    all_goals
     have hx:(IntKind.u64.wrap (IntKind.u64.wrap (IntKind.u64.wrap ((p:Int)+(vb:Int))+(q:Int))+(vd:Int))).tmod 4294967296=((SCHL b (k+1) (16+k):Nat):Int):=by
       obtain⟨l1,l2,l3,l4⟩:=L.out;rw[<-V.out,Int.tmod_eq_emod_of_nonneg (by rw[zh];omega)];simp only[zh];omega
     rw[hx,<-JT,<-z1F] at hown8;have hb8:Below w1.heap.size w1 w8:=(R3.out.2.2.1.drew.alloc hbz _).grown hgrow8 (by simp;omega) (fun k e=>(R3.out.2.1.lt k e).1);have U:Aside (w8.ownsRow w1.heap.size 24 1 (.slice (some ⟨g8,0,none⟩) (T+1) cap8) (T+1) (zK (ML b (k+1)))/\Below w1.heap.size w1 w8):=⟨hown8,hb8⟩
     clear hown8 hb8 hgrow8 hg8 hx cb3 cd3 e1 e2 e3 e4 f1 f2 f3 f4 i1 i2 i3 i4;go_wp2;go_roundg r
     case measure=>omega
     case rel=>
       obtain⟨r1,r2,r3,r4,r5⟩:=R3.out;have e:T+1=16+(k+1):=by omega
       refine⟨k+1,T+1,by omega,by go_num,e,?_,U.out.2⟩;rw[<-e];exact U.out.1
theorem z0e{l k:List Nat}{n:Nat}(hl:l.length=n)(hk:k.length=n)(h:∀ j,j<n->l.getD j 0=k.getD j 0):l=k:=by
 apply List.ext_getElem (by omega);intro i h1 h2;have:=h i (by omega);simpa[List.getD,h1,h2] using this
theorem qm(a b:Option Addr)(n m ca cb:Nat)(l k:List Nat)(w:World)(hA:Text w a n l)(hB:Text w b m k)(hn:n<2 ^ 40):Calls Tryz.prog 10 #[.slice a n ca,.slice b m cb] w fun e w'=>e=.returned (.bool (decide (l=k)))/\Below w.heap.size w w'/\w'.heap.size=w.heap.size:=by
 by_cases hnm:n=m
 ·subst hnm
  rcases Nat.eq_zero_or_pos n with h | h
  ·subst h
   have hd:decide (l=k)=true:=by
    rw[List.eq_nil_of_length_eq_zero hA.1,List.eq_nil_of_length_eq_zero hB.1];rfl
   rw[hd];clear hA hB hd;go_enter Tryz.func10,Tryz.ntmps10;go_wp2;refine wp_loop_rounds 1 ?_;rw[rounds_succ];go_wp2;go_ret;exact⟨rfl,Below.refl _ _,rfl⟩
  ·obtain⟨ba,oa,rfl,la,hca⟩:=hA.2.1 h
   obtain⟨bb,ob,rfl,lb,hcb⟩:=hB.2.1 h;have HC:Aside ((∀ i,i<n->w.cell? ⟨ba,oa+i,none⟩=some (.int .u8 ((l.getD i 0:Nat):Int)))/\(∀ i,i<n->w.cell? ⟨bb,ob+i,none⟩=some (.int .u8 ((k.getD i 0:Nat):Int)))/\ba<w.heap.size/\bb<w.heap.size/\l.length=n/\k.length=n):=⟨hca,hcb,la,lb,hA.1,hB.1⟩
   clear hA hB hca hcb la lb;obtain⟨D,hD⟩:∃ D,D=decide (l=k):=⟨_,rfl⟩
   rw[<-hD];go_enter Tryz.func10,Tryz.ntmps10;go_wp2;go_loopg [5] n (fun g s5 wx=>∃ i:Nat,i+g=n/\s5=.int .i64 i/\Aside (Below w.heap.size w wx/\wx.heap.size=w.heap.size/\∀ j,j<i->l.getD j 0=k.getD j 0))
   case atStart=>exact⟨0,by omega,rfl,Below.refl _ _,rfl,fun j hj=>by omega⟩
   case round=>
    obtain⟨i,hig,rfl,A⟩:=hrel;cases gk with
    | zero=>
      obtain rfl:i=n:=by omega
      have hd:Aside (D=true):=by
       show D=true;rw[hD,decide_eq_true_iff];exact z0e HC.out.2.2.2.2.1 HC.out.2.2.2.2.2 A.out.2.2
      go_wp2;go_ret;exact⟨by rw[hd.out];rfl,A.out.1,A.out.2.1⟩
    | succ g=>
      have hlt:(i:Int)<(n:Int):=by omega
      have h1:wr.cell? ⟨ba,oa+i,none⟩=some (.int .u8 ((l.getD i 0:Nat):Int)):=(A.out.1.cell (by exact HC.out.2.2.1)).trans (HC.out.1 i (by omega));have h2:wr.cell? ⟨bb,ob+i,none⟩=some (.int .u8 ((k.getD i 0:Nat):Int)):=(A.out.1.cell (by exact HC.out.2.2.2.1)).trans (HC.out.2.1 i (by omega));by_cases he:l.getD i 0=k.getD i 0
      ·have B:Aside (l.getD i 0=k.getD i 0/\i+(g+1)=n):=⟨he,hig⟩
       rw[<-he] at h2;clear he hig;generalize l.getD i 0=v at h1 h2;go_wp2;go_quiet (fail)
       go_wp2;go_roundg g
       case measure=>omega
       case rel=>
        refine⟨i+1,by have:=B.out.2;omega,by go_num,below_drewN A.out.1 _,A.out.2.1,fun j hj=>?_⟩;by_cases e:j=i
        ·rw[e]
         exact B.out.1
        ·exact A.out.2.2 j (by omega)
      ·have hd:Aside (D=false):=by
        show D=false;rw[hD,decide_eq_false_iff_not];intro e;rw[e] at he;exact he rfl
       have hne:¬ ((l.getD i 0:Nat):Int)=((k.getD i 0:Nat):Int):=by omega
       clear he;generalize l.getD i 0=v1 at h1 hne;generalize k.getD i 0=v2 at h2 hne;go_wp2;go_quiet (fail)
       go_wp2;go_ret;exact⟨by rw[hd.out];rfl,below_drewN A.out.1 _,A.out.2.1⟩
 ·have hne:¬ (n:Int)=(m:Int):=by omega
  have hd:decide (l=k)=false:=by
   rw[decide_eq_false_iff_not];intro e;rw[e] at hA;exact hnm (hA.1.symm.trans hB.1)
  rw[hd];clear hA hB hd;go_enter Tryz.func10,Tryz.ntmps10;go_wp2;go_ret;exact⟨rfl,Below.refl _ _,rfl⟩
theorem Kb:(((((((((((((((((((((((((((((((((UARR .u8 32 fun _=>0).setIfInBounds 0 (.int .u8 106)).setIfInBounds 1 (.int .u8 9)).setIfInBounds 2 (.int .u8 230)).setIfInBounds 3 (.int .u8 103)).setIfInBounds 4 (.int .u8 187)).setIfInBounds 5 (.int .u8 103)).setIfInBounds 6 (.int .u8 174)).setIfInBounds 7 (.int .u8 133)).setIfInBounds 8 (.int .u8 60)).setIfInBounds 9 (.int .u8 110)).setIfInBounds 10 (.int .u8 243)).setIfInBounds 11 (.int .u8 114)).setIfInBounds 12 (.int .u8 165)).setIfInBounds 13 (.int .u8 79)).setIfInBounds 14 (.int .u8 245)).setIfInBounds 15 (.int .u8 58)).setIfInBounds 16 (.int .u8 81)).setIfInBounds 17 (.int .u8 14)).setIfInBounds 18 (.int .u8 82)).setIfInBounds 19 (.int .u8 127)).setIfInBounds 20 (.int .u8 155)).setIfInBounds 21 (.int .u8 5)).setIfInBounds 22 (.int .u8 104)).setIfInBounds 23 (.int .u8 140)).setIfInBounds 24 (.int .u8 31)).setIfInBounds 25 (.int .u8 131)).setIfInBounds 26 (.int .u8 217)).setIfInBounds 27 (.int .u8 171)).setIfInBounds 28 (.int .u8 91)).setIfInBounds 29 (.int .u8 224)).setIfInBounds 30 (.int .u8 205)).setIfInBounds 31 (.int .u8 25))=UARR .u8 32 (zj fun i=>BEGIN.getD i 0):=by kernel_rfl
theorem Kc(d:Int)(w:World):Calls Tryz.prog 57 #[.int .i64 d] w fun e w'=>e=.returned (.agg (UARR .u8 32 (yN d)))/\Below w.heap.size w w':=by
 have cc:=vS d (zj fun i=>BEGIN.getD i 0);have hz:=zZ;go_enter Tryz.func57,Tryz.ntmps57;go_wp2_with fail
 rw[Kb];refine(cc _).mono ?_;rintro e w9 ⟨rfl,hb9⟩;have hC:zL d (zj fun i=>BEGIN.getD i 0)=yN d:=rfl;rw[hC];clear cc hC hz;have Y:Aside (Below w.heap.size w w9/\Has w9 w.heap.size (UARR .u8 32 fun _=>0) 23):=⟨((Below.refl _ _).alloc (Nat.le_refl _) _).trans (hb9.mono (by simp)),(Has.new w _ _).keep hb9⟩
 clear hb9;go_wp2_with (first | (refine wpList_store_row rfl 23 _ _ rfl _ _ rfl rfl _ _ Y.out.2 (zn _) (by rw[zg,zg]) (zA _ _ _) ?_))
 refine bodyPost_ret (v:=.agg (UARR .u8 32 (yN d))) ?_ rfl ⟨rfl,zm Y.out.1 (Nat.le_refl _) _⟩;exact results_cell_row rfl _ _ w.heap.size 23 _ (0,0) _ rfl (Y.out.2.row _) Tryz.underlying23 rfl (zn _)
end HX
end Go.Proofs.YtobaogpomcocpaaGreatDoor
