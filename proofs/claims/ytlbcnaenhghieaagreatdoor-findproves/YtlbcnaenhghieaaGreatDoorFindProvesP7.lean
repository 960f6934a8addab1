/- FindProves: part 7. -/
import Derived.Deep.CutRange
import Derived.Great.BuildSlice
import Derived.ChangeKeysEq
import Derived.Maps.OwnSet
import Derived.DeepKeys4
import Derived.Maps.Ext
import Derived.Test.YtlbcnaenhghieaaGreatDoorFindProvesP6
namespace Go.Proofs.YtlbcnaenhghieaaGreatDoor
open Go.RowKit
set_option maxRecDepth 100000
theorem z6H (i n:Int) (hn:4611686018427387904<n) (w:World):Calls Tryz.prog 12 #[.int .u64 i,.int .u64 n] w fun e w'=>e=.returned (.tuple #[.slice none 0 0,.int .i64 30])/\w=w':=by
 go_enter Tryz.func12,Tryz.ntmps12;go_wp2;go_ret2;exact ⟨rfl,rfl⟩
theorem z5S (i n:Int) (hn:¬ 4611686018427387904<n) (hi:n<=i) (w:World):Calls Tryz.prog 12 #[.int .u64 i,.int .u64 n] w fun e w'=>e=.returned (.tuple #[.slice none 0 0,.int .i64 32])/\w=w':=by
 go_enter Tryz.func12,Tryz.ntmps12;go_wp2;go_ret2;exact ⟨rfl,rfl⟩
set_option maxHeartbeats 1000000 in
theorem z8h (i n:Nat) (hi:i<n) (hn:n<=4611686018427387904) (w:World):Calls Tryz.prog 12 #[.int .u64 (i:Int),.int .u64 (n:Int)] w fun e w'=>
    ∃ v,e=.returned (.tuple #[v,.int .i64 0])/\w'.ownsRow w.heap.size 36 1 v (PLCS (PSP i n)).length (z06 (PLCS (PSP i n)))/\Below w.heap.size w w':=by
  have c1:=zbq i n hi hn w;have c2:=z5O i n hi hn;have c3:=z9v n hn;have hd:¬ (4611686018427387904:Int)<(n:Int):=by omega
  have hd2:¬ (n:Int)<=(i:Int):=by omega
  have hP:=z2X (n:=n) (by omega);have hP6:=z1D 64 n (by omega);have hR6:=(z0R hi hn).2.1;have hKl:=z2Y hi hn;rw [z5M hn];have hWl:=z5I i (RISE i n);generalize WAY i (RISE i n)=A at *
  generalize z17 n=PK at *
  generalize RISE i n=R at *
  generalize KTH i n=K at *
  generalize PC n=P at *
  obtain ⟨X,hX⟩:∃ X,A ++ PK.eraseIdx K=X:=⟨_,rfl⟩
  rw [hX];obtain ⟨N,hN⟩:∃ N,X.length=N:=⟨_,rfl⟩
  rw [hN];have HA:Aside (PK.length=P/\P<=64/\R<=62/\K<P/\A.length=R):=⟨hP,hP6,hR6,hKl,hWl⟩
  have HX:Aside (z0l A PK K P=X/\X.length=N):=⟨by rw [<-hX,<-hP];exact z79 _ _ _,hN⟩
  clear hX hN;clear hP hP6 hR6 hKl hWl hi hn;go_enter Tryz.func12,Tryz.ntmps12;go_wp2_with fail
  refine c1.mono ?_;rintro e w1 ⟨v,rfl,hown,hb⟩;clear c1;have R1:Aside (w1.ownsRow w.heap.size 36 1 v R (z06 A)/\Below w.heap.size w w1):=⟨hown,hb⟩
  clear hown hb;go_wp2_with fail
  refine (c2 _).mono ?_;rintro e w2 ⟨rfl,hb⟩;replace R1:Aside (w2.ownsRow w.heap.size 36 1 v R (z06 A)/\Below w.heap.size w w2):=⟨z1h R1.out.1 hb,R1.out.2.trans (hb.mono R1.out.2.size)⟩
  clear c2 hb;go_wp2_with fail
  refine (c3 _).mono ?_;rintro e w3 ⟨vp,rfl,hrow,hb2⟩;clear c3
  have R2:Aside (w3.ownsRow w.heap.size 36 1 v (z0l A PK K 0).length (z06 (z0l A PK K 0))/\Below w.heap.size w w3/\(∀ k,vp.ownBlock=some k->v.ownBlock≠some k)/\w3.ownsRow w2.heap.size 36 1 vp P (z06 PK)):=by
    obtain ⟨a1,a2⟩:=R1.out;refine ⟨?_,a2.trans (hb2.mono a2.size),fun k hk e=>?_,hrow⟩
    · rw [z5P,HA.out.2.2.2.2]
      exact z1h a1 hb2
    · have:=(a1.lt k e).2
      have:=(hrow.lt k hk).1;omega
  obtain ⟨ap,capp,rfl,hap⟩:=z77 hrow;clear R1 hrow hb2 hap;go_wp2;go_loopg [6,11] P (fun q s6 s11 wx=>∃ j:Nat,s11=.int .i64 (j:Int)/\Aside (j+q=P/\wx.ownsRow w.heap.size 36 1 s6 (z0l A PK K j).length (z06 (z0l A PK K j))/\Below w.heap.size w wx/\(∀ k,(Value.slice ap P capp).ownBlock=some k->s6.ownBlock≠some k)/\wx.ownsRow w2.heap.size 36 1 (.slice ap P capp) P (z06 PK)))
  case atStart=>exact ⟨0,rfl,by omega,R2.out⟩
  case round=>
    obtain ⟨j,rfl,A1⟩:=hrel;clear R2;cases gk with
    | zero=>
      obtain ⟨hj,hown,hbel,hne,hrow⟩:=A1.out;obtain rfl:j=P:=by omega
      have hlt:¬ (j:Int)<(j:Int):=by omega
      have R:Aside (wr.ownsRow w.heap.size 36 1 u6 N (z06 X)/\Below w.heap.size w wr):=by
        rw [HX.out.1,HX.out.2] at hown;exact ⟨hown,hbel⟩
      clear hj hown hbel hne hrow A1 HA;go_wp2;go_ret2;exact ⟨_,rfl,R.out.1,R.out.2⟩
    | succ q=>
      obtain ⟨hj,hown,hbel,hne,hrow⟩:=A1.out;obtain ⟨a1,a2,a3,a4,a5⟩:=HA.out;have hlt:(j:Int)<(P:Int):=by omega
      obtain ⟨ap',cap2,ee,hap⟩:=z77 hrow;cases ee;obtain ⟨gp,rfl,hgp,_⟩:=hap (by omega)
      have hc:wr.cell? ⟨gp,j,none⟩=some (.int .u64 ((PK.getD j 0:Nat):Int)):=by
        have hrow':=hrow;rw [<-a1] at hrow';exact z8d hrow' j (by omega)
      have hne':=hne gp rfl;have E1:Aside (wrap64 ((j:Int)+1)=((j+1:Nat):Int)):=by show wrap64 ((j:Int)+1)=((j+1:Nat):Int);unfold wrap64;omega
      by_cases hk:j=K
      · subst hk
        have R:Aside (j+1+q=P/\wr.ownsRow w.heap.size 36 1 u6 (z0l A PK j (j+1)).length (z06 (z0l A PK j (j+1)))/\Below w.heap.size w wr/\(∀ k,(Value.slice (some ⟨gp,0,none⟩) P capp).ownBlock=some k->u6.ownBlock≠some k)/\wr.ownsRow w2.heap.size 36 1 (.slice (some ⟨gp,0,none⟩) P capp) P (z06 PK)):=⟨by omega,by rw [z5Q _ _ _ (by omega)];exact hown,hbel,hne,hrow⟩
        clear hj hown hbel hne hrow a1 a2 a3 a4 a5 A1 hap hne';generalize PK.getD j 0=y at hc;have e1:=E1.out;go_wp2;go_roundg q
        case measure=>exact Nat.lt_succ_self _
        case rel=>exact ⟨j+1,by first | rfl | (rw [E1.out]),R.out⟩
      · have hk':((j:Int) != (K:Int))=true:=by simp;omega
        have hnx:=z5R A PK K j (by omega) hk;have hll:=z4s A PK K j;generalize PK.getD j 0=y at *
        have R:Aside (j+1+q=P/\wr.ownsRow w.heap.size 36 1 u6 (z0l A PK K j).length (z06 (z0l A PK K j))/\Below w.heap.size w wr/\u6.ownBlock≠some gp/\wr.ownsRow w2.heap.size 36 1 (.slice (some ⟨gp,0,none⟩) P capp) P (z06 PK)/\z0l A PK K (j+1)=z0l A PK K j ++ [y]/\(z0l A PK K j).length<=1000):=⟨by omega,hown,hbel,hne',hrow,hnx,by omega⟩
        clear hj hown hbel hne hrow a1 a2 a3 a4 a5 A1 hnx hll hap hne';go_wp2_with (at_builtin;refine z8e _ rfl (.tmp 40) (.tmp 45) rfl w.heap.size u6 _ (z06 (z0l A PK K j)) rfl (R.out.2.1.alloc _) wr.heap.size 1 (y:Int) rfl (by rw [World.cell?_alloc_at _ _ _ _ rfl];rfl) R.out.2.2.2.2.2.2 (by have:=R.out.2.2.1.size;simp;omega) ?_;intro g' cap' w4 hown hgrow hat hg)
        have R3:Aside (j+1+q=P/\w4.ownsRow w.heap.size 36 1 (.slice (some ⟨g',0,none⟩) ((z0l A PK K j).length+1) cap') (z0l A PK K (j+1)).length (z06 (z0l A PK K (j+1)))/\Below w.heap.size w w4/\(∀ k,(Value.slice (some ⟨gp,0,none⟩) P capp).ownBlock=some k->some g'≠some k)/\w4.ownsRow w2.heap.size 36 1 (.slice (some ⟨gp,0,none⟩) P capp) P (z06 PK)):=by
          obtain ⟨r1,r2,r3,r4,r5,r6,r7⟩:=R.out;have hgp:=r5.lt gp rfl;refine ⟨r1,?_,(r3.alloc r3.size _).grown hgrow (by have:=r3.size;simp;omega) (fun k e=>(r2.lt k e).1),fun k hk=>?_,(r5.alloc _).kept hgrow (.inr fun e=>r4 e.symm)⟩
          · rw [r6,z1y,List.length_append]
            exact hown
          · cases hk
            exact z78 r4 (by simp;omega) hat
        clear R hown hgrow hat hg hc;have e1:=E1.out;go_wp2;go_roundg q
        case measure=>exact Nat.lt_succ_self _
        case rel=>exact ⟨j+1,by first | rfl | (rw [E1.out]),R3.out⟩
theorem zcU (i n:Nat) (w:World):Calls Tryz.prog 12 #[.int .u64 (i:Int),.int .u64 (n:Int)] w fun e w'=>
  ∃ v,e=.returned (.tuple #[v,.int .i64 (PLA i n).1])/\w'.ownsRow w.heap.size 36 1 v (PLA i n).2.length (z06 (PLA i n).2)/\Below w.heap.size w w':=by
 unfold PLA;split
 ·refine (z6H _ _ (by omega) w).mono ?_
  rintro e w' ⟨rfl,rfl⟩;exact ⟨_,rfl,z4S w,Below.refl _ _⟩
 ·split
  ·refine (z5S _ _ (by omega) (by omega) w).mono ?_
   rintro e w' ⟨rfl,rfl⟩;exact ⟨_,rfl,z4S w,Below.refl _ _⟩
  ·exact z8h i n (by omega) (by omega) w
theorem z9x {w w1 w2:World} {r r':Option Nat} (h:w.grownBy w1 r) (h':w1.grownBy w2 r') (hr:r'=r\/∀ g,r'=some g->w.heap.size<=g):w.grownBy w2 r:=by
 obtain ⟨a1,a2,a3,a4,a5⟩:=h;obtain ⟨b1,b2,b3,b4,b5⟩:=h';refine ⟨by rw [b1,a1],by rw [b2,a2],by rw [b3,a3],Nat.le_trans a4 b4,fun k hk hne=>?_⟩;rw [b5 k (by omega) (fun e=>?_),a5 k hk hne];rcases hr with hr | hr
 ·exact hne (by rw [e,hr])
 ·have:=hr k e.symm
  omega
theorem z3O {w:World} {B n g m c:Nat} {xs:List Value} (h:w.ownsRow B 36 1 (.slice (some ⟨g,0,none⟩) m c) n xs):m=n:=by
 rcases h.2 with ⟨e,_⟩ | ⟨_,_,_,e,_⟩
 ·simp at e
 ·simp at e
  omega
theorem z07 {ops:Array Oper} {o:Oper} {a:Act} {w w':World} {K:Act->World->Prop} {Q:Exit->Act->World->Prop} {E:Prop} {v:Value} (hg:o.guard=none)
  (hrun:(execOp a.eval o).run Tryz.prog w=.ok (.value v) w') (h:K (a.put o.dst v) w'):if Region.wanted o (yielded ops a.tmps)=true then Oper.wp Tryz.prog o a w K Q else E:=by
 have hw:Region.wanted o (yielded ops a.tmps)=true:=by simp [Region.wanted,hg]
 rw [if_pos hw];unfold Oper.wp;rw [hrun];exact h
theorem z0L {ops:Array Oper} {o:Oper} {a:Act} {w w':World} {K:Act->World->Prop} {Q:Exit->Act->World->Prop} {E:Prop} (hg:o.guard=none)
  (hrun:(execOp a.eval o).run Tryz.prog w=.ok .skip w') (h:K (a.put o.dst undef) w'):if Region.wanted o (yielded ops a.tmps)=true then Oper.wp Tryz.prog o a w K Q else E:=by
 have hw:Region.wanted o (yielded ops a.tmps)=true:=by simp [Region.wanted,hg]
 rw [if_pos hw];unfold Oper.wp;rw [hrun];exact h
theorem z10 {s:Sem Unit} {w w':World} (h:s.run Tryz.prog w=.ok () w'):(do s;pure Next.skip:Sem Next).run Tryz.prog w=.ok .skip w':=by
 simp [h]
theorem z2P {ops:Array Oper} {Q:Exit->Act->World->Prop} {md:Region.Mode} {S:World->Prop} {fuel:Nat} {listed:Array Bool} {a:Act} {w:World} {o:Oper} (i:Nat) (hr:Region.ready md ops listed=[i]) (ho:ops[i]?=some o)
  (h:∀ K':Act->World->Prop,Shut (∀ a w,S w->(S w->wpAnyH Tryz.prog md ops Q S fuel (listed.setIfInBounds i true) a w)->K' a w)->if Region.wanted o (yielded ops a.tmps)=true then Oper.wp Tryz.prog o a w K' Q else K' (a.put o.dst undef) w):wpAnyH Tryz.prog md ops Q S (fuel+1) listed a w:=
 wpAnyH_ready hr (by simp) (AllReadyH.cons ho h AllReadyH.nil)
theorem z08 {s:Sem Value} {w w':World} {v:Value} (h:s.run Tryz.prog w=.ok v w'):(do pure (Next.value (<-s)):Sem Next).run Tryz.prog w=.ok (.value v) w':=by
 simp [h,Result.andThen]
theorem z0J {w w':World} {B:Nat} {t:TypeId} {s:Nat} {v:Value} {n:Nat} {xs:List Value} (h:w.ownsRow B t s v n xs) (hk:∀ k,v.ownBlock=some k->w'.heap[k]?=w.heap[k]?):w'.ownsRow B t s v n xs:=by
 refine ⟨h.1,?_⟩;rcases h.2 with h | ⟨g,cap,cur,rfl,hb,hg,r⟩
 ·exact .inl h
 ·exact .inr ⟨g,cap,cur,rfl,hb,by rw [hk g rfl];exact hg,r⟩
def ZND:List Int:=List.replicate 32 0
abbrev ZARR:Array Value:=#[.int .u8 0,.int .u8 0,.int .u8 0,.int .u8 0,.int .u8 0,.int .u8 0,.int .u8 0,.int .u8 0,.int .u8 0,.int .u8 0,.int .u8 0,.int .u8 0,.int .u8 0,.int .u8 0,.int .u8 0,.int .u8 0,.int .u8 0,.int .u8 0,.int .u8 0,.int .u8 0,.int .u8 0,.int .u8 0,.int .u8 0,.int .u8 0,.int .u8 0,.int .u8 0,.int .u8 0,.int .u8 0,.int .u8 0,.int .u8 0,.int .u8 0,.int .u8 0]
theorem zgl:(z00 ZND).toArray=ZARR:=rfl
theorem z0E {fn:Func} {p q:Tmp} {ty:TypeId} (h:fn.results=#[.cell p ty,.tmp q]) (tmps:Array Value) (w:World) (g:Nat) (t:TypeId) (cs:Array Value) (fr:Nat × Nat) (k:Nat) (el:TypeId)
  (hp:tmps.getD p undef=.pointer (some ⟨g,0,none⟩)) (hg:w.heap[g]?=some (.cells cs t fr)) (v:Value) (hq:tmps.getD q undef=v)
  (hu:Tryz.prog.underlying ty=some (.array k el)) (hi:(Tryz.prog.info? ty).map (·.size)=some cs.size):
  (results fn tmps).run Tryz.prog w=.ok (.tuple #[.agg cs,v]) w:=by
 have hp':tmps[p]?.getD undef=.pointer (some ⟨g,0,none⟩):=by simpa using hp
 have hq':tmps[q]?.getD undef=v:=by simpa using hq
 simp [results,h,hp',hq',asAddr,run_loadVar_row w g t ty cs fr (.array k el) hg hu rfl hi]
theorem z2E:(Tryz.prog.info? 25).map (fun i=>(i.zero,i.size,i.bytes))=some (some (.agg ZARR),32,32):=by kernel_rfl
theorem z4t {ops:Array Oper} {rest:List Oper} {o:Oper} {a:Act} {Q:Exit->Act->World->Prop} (w:World) (hgd:o.guard=none) (s x:Operand)
  (ho:o.op=.call {callee:=.builtin .append,args:=#[s,x],argTypes:=#[22,22]})
  (base:Nat) (v:Value) (n:Nat) (xs:List Value) (hs:a.eval s=v) (hown:w.ownsRow base 25 32 v n xs)
  (b c:Nat) (y:List Int) (hl:y.length=32) (hx:a.eval x=.slice (some ⟨b,0,none⟩) 1 c) (hc:Has w b (z00 y).toArray 25)
  (hb:n<=100000) (hbase:base<=w.heap.size)
  (h:∀ g cap w',w'.ownsRow base 25 32 (.slice (some ⟨g,0,none⟩) (n+1) cap) (n+1) (xs ++ z00 y)->w.grownBy w' v.ownBlock->(v.ownBlock=some g\/g=w.heap.size)->g<w'.heap.size->wpList Tryz.prog ops Q rest (a.put o.dst (.slice (some ⟨g,0,none⟩) (n+1) cap)) w'):wpList Tryz.prog ops Q (o :: rest) a w:=by
 obtain ⟨i,hi,hz,hs1,hby⟩:=info_parts z2E;refine wpList_append_lies w hgd s x 22 ho base 25 i (.agg ZARR) 32 32 Tryz.underlying22 hi hz hs1 hby rfl (by decide) v n xs hs hown ⟨b,0,none⟩ 1 c (z00 y) hx (by rw [z00,List.length_map,hl]) ?_ (z0Y y) (by decide) (by simp only [maxLen];omega) (by omega) hbase w.heap.size rfl h;intro j u hj;rw [z0y,Nat.zero_add,hc.cell,List.getElem?_toArray];exact hj
theorem zeK {ops:Array Oper} {rest:List Oper} {o:Oper} {a:Act} {Q:Exit->Act->World->Prop} (w:World) (hgd:o.guard=none) (s x:Operand)
  (ho:o.op=.call {callee:=.builtin .append,args:=#[s,x],argTypes:=#[22,22]})
  (base:Nat) (v:Value) (n:Nat) (xs:List Value) (hs:a.eval s=v) (hown:w.ownsRow base 25 32 v n xs)
  (b c:Nat) (y:List Int) (hl:y.length=32) (hx:a.eval x=.slice (some ⟨b,0,none⟩) 1 c) (hc:Has w b (z00 y).toArray 25)
  (hb:n<=1000) (hbase:base<=w.heap.size)
  (h:∀ g cap w',w'.ownsRow base 25 32 (.slice (some ⟨g,0,none⟩) (n+1) cap) (n+1) (xs ++ z00 y)->w.grownBy w' v.ownBlock->(v.ownBlock=some g\/g=w.heap.size)->g<w'.heap.size->wpList Tryz.prog ops Q rest (a.put o.dst (.slice (some ⟨g,0,none⟩) (n+1) cap)) w'):wpList Tryz.prog ops Q (o :: rest) a w:=
 z4t w hgd s x ho base v n xs hs hown b c y hl hx hc (by omega) hbase h
theorem z0S {ops:Array Oper} {rest:List Oper} {o:Oper} {a:Act} {Q:Exit->Act->World->Prop} (w:World) (hg:o.guard=none) (t e:TypeId) (x:Operand) (ho:o.op=.buildSlice t 1 #[(0,x)]) (C:Array Value) (hx:a.eval x=.agg C) (n:Nat) (z:Value) (by':Nat)
  (hu:Tryz.prog.underlying t=some (.slice e)) (hi:(Tryz.prog.info? e).map (fun i=>(i.zero,i.size,i.bytes))=some (some z,n,by')) (hC:C.size=n) (hz:z.cells.size=n) (hn:0<n) (hs:n<=1000)
  (h:wpList Tryz.prog ops Q rest (a.put o.dst (.slice (some ⟨w.heap.size,0,none⟩) 1 1)) (w.alloc (.cells C e))):wpList Tryz.prog ops Q (o :: rest) a w:=by
 obtain ⟨i,hie,hz',hs1,_⟩:=info_parts hi;refine wpList_buildSlice hg t e 1 _ ho C i z hu hie hz' (by rw [hs1];omega) (by rw [hs1];omega) ?_ h;have:=Great.fill_whole (s:=n) hn [.agg C] ((Array.range (1*i.size)).map (z.cells[· % z.cells.size]!)) (fun v hv=>by simp at hv;subst hv;exact hC) (by simp [hs1]);simp [Value.cells] at this;rw [hs1];simp [hx];rw [hs1] at this;exact this
theorem z56 (d:Nat) (h g:List Int) (hh:h.length=32) (hg:g.length=32) (w:World):∀ is:List Nat,(∀ i∈is,i<32)->(Op.eqItems (d+1) 5 1 (z00 h).toArray (z00 g).toArray is).run Tryz.prog w=.ok (is.all fun i=>h.getD i 0 == g.getD i 0) w
 | [],_=>by simp [Op.eqItems]
 | i :: is,hi=>by
   have hp:Tryz.prog.plainKey 5=true:=by kernel_rfl
   have hi32:i<32:=hi i (by simp);have h1:=run_part_plain (P:=Tryz.prog) w hp (show (z00 h).toArray[i]?=some (.int .u8 (h.getD i 0)) by rw [List.getElem?_toArray,z0K h i (by omega)]);have h2:=run_part_plain (P:=Tryz.prog) w hp (show (z00 g).toArray[i]?=some (.int .u8 (g.getD i 0)) by rw [List.getElem?_toArray,z0K g i (by omega)]);have h3:=run_equalIn_int (P:=Tryz.prog) w d 5 .u8 .u8 (h.getD i 0) (g.getD i 0) Tryz.underlying5;have ih:=z56 d h g hh hg w is (fun j hj=>hi j (by simp [hj]));rw [Op.eqItems,Nat.mul_one];simp only [Sem.run_bind,h1,h2,h3,Result.andThen_ok];by_cases e:h.getD i 0=g.getD i 0
   ·have e2:(h.getD i 0 == g.getD i 0)=true:=by simpa using e
    rw [List.all_cons,e2,Bool.true_and,if_neg (by simp)];exact ih
   ·have e2:(h.getD i 0 == g.getD i 0)=false:=by simpa using e
    rw [List.all_cons,e2];simp
theorem z9y (h g:List Int) (hh:h.length=32) (hg:g.length=32) (w:World):(Op.equalIn 10000 25 (.agg (z00 h).toArray) (.agg (z00 g).toArray)).run Tryz.prog w=.ok ((List.range 32).all fun i=>h.getD i 0 == g.getD i 0) w:=by
 obtain ⟨i8,hi,_⟩:=Option.map_eq_some_iff.1 z0Q;rw [run_equalIn_array (P:=Tryz.prog) w 9999 (z00 h).toArray (z00 g).toArray Tryz.underlying25 hi];have hc:Tryz.prog.cellsOf 5=1:=by kernel_rfl
 rw [hc];exact z56 9998 h g hh hg w _ (fun i hi=>by simpa using hi)
theorem zcV {h g:List Int} (hh:h.length=32) (hg:g.length=32):((List.range 32).all fun i=>h.getD i 0 == g.getD i 0)=decide (h=g):=by
 by_cases e:h=g
 ·subst e
  simp
 ·rw [decide_eq_false e,Bool.eq_false_iff]
  intro hx;rw [List.all_eq_true] at hx;apply e;apply List.ext_getElem (by omega);intro i h1 h2;have:=hx i (by simp;omega);simpa [List.getD,h1,h2] using this
theorem z4u {h g:List Int} (hh:h.length=32) (hg:g.length=32) (w:World):(Op.equalIn 10000 25 (.agg (z00 h).toArray) (.agg (z00 g).toArray)).run Tryz.prog w=.ok (decide (h=g)) w:=by
 rw [z9y h g hh hg,zcV hh hg]
theorem zbr {h g:List Int} (hh:h.length=32) (hg:g.length=32) (x y:Operand) (w:World):(do eqGuard .neq 25 x y (.agg (z00 h).toArray) (.agg (z00 g).toArray);binOp .neq 25 (.agg (z00 h).toArray) (.agg (z00 g).toArray):Sem Value).run Tryz.prog w=.ok (.bool (!decide (h=g))) w:=by
 simp only [Sem.run_bind,run_eqGuard_agg (P:=Tryz.prog) w .neq 25 x y _ _ (by kernel_rfl),Result.andThen_ok,run_neq_struct,z4u hh hg]
theorem z5T {h g:List Int} (hh:h.length=32) (hg:g.length=32) (x y:Operand) (w:World):(do eqGuard .eql 25 x y (.agg (z00 h).toArray) (.agg (z00 g).toArray);binOp .eql 25 (.agg (z00 h).toArray) (.agg (z00 g).toArray):Sem Value).run Tryz.prog w=.ok (.bool (decide (h=g))) w:=by
 simp only [Sem.run_bind,run_eqGuard_agg (P:=Tryz.prog) w .eql 25 x y _ _ (by kernel_rfl),Result.andThen_ok,run_eql_struct,z4u hh hg]
theorem zbs:(Tryz.prog.info? 25).map (fun i=>(i.size,i.bytes,i.zero.isSome))=some (32,32,true):=by kernel_rfl
theorem z5U (N:Nat) (hN:N<=1000) (w:World):∃ cur:Array Value,cur.size=N*32/\(Instr.makeSlice 22 (.int .i64 0) (.int .i64 (N:Int))).run Tryz.prog w=.ok (.slice (some ⟨w.heap.size,0,none⟩) 0 N) (w.alloc (.cells cur 25)):=by
 obtain ⟨i,hi,h⟩:=Option.map_eq_some_iff.1 zbs;simp only [Prod.mk.injEq] at h;obtain ⟨h1,h2,h3⟩:=h;obtain ⟨z,hz⟩:=Option.isSome_iff_exists.1 h3;have h:=run_make (P:=Tryz.prog) w 22 25 i z Tryz.underlying22 hi hz .i64 .i64 0 N (by omega) (by omega) (by rw [h2];omega) (by omega);refine ⟨madeCells z.cells (N*i.size),?_,?_⟩
 ·rw [size_madeCells,h1]
 ·simpa using h
end Go.Proofs.YtlbcnaenhghieaaGreatDoor
namespace Go.Proofs.YtlbcnaenhghieaaGreatDoor
open Go.RowKit Go.Maps
set_option maxRecDepth 100000
theorem z3P:laidOutB Tryz.prog=true:=by kernel_rfl
theorem zay:(102:TypeId)<Tryz.prog.types.size:=of_decide_eq_true (by kernel_rfl)
theorem zeL:(match Tryz.prog.underlying 102 with | some (.array _ _) | some (.struct _)=>true | _=>false)=true:=by rw [Tryz.underlying102]
theorem law:Keyed Tryz.prog 102:=Keyed.of_law (deep_law_laid z3P (m:=2) (by omega) zay (by kernel_rfl) zeL)
def KL (h k:Nat):Lit:=.string (keyBytes [.int .u8 (h:Int),.int .u64 (k:Int)])
theorem z8i {h k:Nat} (hh:h<256) (hk:k<2 ^ 64):keyOf Tryz.prog 102 (SPOT h k)=some (KL h k):=by
 have w0:(Lit.int .u8 (h:Int)).wf=true:=WalkArith.wf_u8 (by omega);have w1:(Lit.int .u64 (k:Int)).wf=true:=WalkArith.wf_u64 (by omega);have c3:Tryz.prog.cellsOf 102=2:=by kernel_rfl
 have c1:Tryz.prog.cellsOf 5=1:=by kernel_rfl
 have c2:Tryz.prog.cellsOf 36=1:=by kernel_rfl
 have ht:Tryz.prog.keyType 102=true:=by kernel_rfl
 have hf:(SPOT h k).formed Tryz.prog 102=true:=by simp [Value.formed,Tryz.underlying102,c3]
 obtain ⟨m,hm⟩:∃ m,Tryz.prog.types.size=m+1:=⟨Tryz.prog.types.size - 1,(Nat.succ_pred_eq_of_pos (Nat.lt_of_le_of_lt (Nat.zero_le _) zay)).symm⟩
 unfold keyOf;simp only [Tryz.underlying102,ht,hf,hm];simp [Program.keyLits,Tryz.underlying102,Tryz.underlying5,Tryz.underlying36,c1,c2,c3,Value.cells,w0,w1,KL]
theorem zhn {h k h' k':Nat} (hh:h<256) (hk:k<2 ^ 64) (hh':h'<256) (hk':k'<2 ^ 64) (e:KL h k=KL h' k'):h=h'/\k=k':=by
 have h1:=z8i hh hk;have h2:=z8i hh' hk';rw [<-e] at h2;have:=law.inj h1 h2;simp at this;omega
abbrev U64 (n:Nat):DataW Unit:=.lit (.int .u64 (n:Int))
def MapOk (D:DataW Unit) (m:Nat):Prop:=∀ h k,h<256->k<2 ^ 64->(Maps.has D (KL h k)=true↔Node h k/\PLC h k<m)/\(Node h k->PLC h k<m->D.atKey (KL h k) (U64 0)=U64 (PLC h k))
theorem MapOk.none:MapOk (.map []) 0:=fun h k _ _=>⟨⟨fun e=>by simp [Maps.has] at e,fun e=>by omega⟩,fun _ e=>by omega⟩
theorem Node.small {h k:Nat} (a:Node h k):h<256/\k<2 ^ 64:=⟨by have:=a.1;omega,by have:=a.index_lt;omega⟩
theorem MapOk.put {D:DataW Unit} {m h k:Nat} (hD:Maps.IsMap D) (hM:MapOk D m) (hN:Node h k) (hp:PLC h k=m):MapOk (D.put (KL h k) (U64 m)) (m+1):=by
 intro h' k' hh' hk';obtain ⟨hh,hk⟩:=hN.small;have hkey:WideAt.IsKeyLit (KL h k):=law.key (z8i hh hk);by_cases e:KL h' k'=KL h k
 ·obtain ⟨rfl,rfl⟩:=zhn hh' hk' hh hk e
  exact ⟨⟨fun _=>⟨hN,by omega⟩,fun _=>Maps.has_put_same hD hkey _⟩,fun _ _=>by rw [Maps.atKey_put_same hD hkey,hp]⟩
 ·have hne:∀ _:Node h' k',PLC h' k'≠m:=fun hN' e2=>e (by obtain ⟨rfl,rfl⟩:=hN'.one hN (by omega);rfl)
  rw [Maps.has_put_other e,Maps.atKey_put_other e];obtain ⟨a,b⟩:=hM h' k' hh' hk';refine ⟨⟨fun h=>?_,fun h=>?_⟩,fun h1 h2=>b h1 (by have:=hne h1;omega)⟩
  ·have:=a.1 h
   exact ⟨this.1,by omega⟩
  ·exact a.2 ⟨h.1,by have:=hne h.1;omega⟩
def Placed (w:World) (b m:Nat):Prop:=∃ D:DataW Unit,w.ownsMap Tryz.prog 102 (plainElem Tryz.prog 36) b m D/\MapOk D m
theorem Placed.made (w:World):Placed (w.alloc (.map #[] 0)) w.heap.size 0:=⟨_,World.ownsMap_made w _ _ _,MapOk.none⟩
theorem Placed.kept {w w':World} {b m:Nat} {row:Option Nat} (h:Placed w b m) (hg:w.grownBy w' row) (hne:some b≠row):Placed w' b m:=let ⟨D,h1,h2⟩:=h; ⟨D,h1.kept hg hne,h2⟩
theorem Placed.lt {w:World} {b m:Nat} (h:Placed w b m):b<w.heap.size:=let ⟨_,h1,_⟩:=h;h1.lt
theorem Placed.below {w w':World} {b m:Nat} (h:Placed w b m) (hb:Below w.heap.size w w'):Placed w' b m:=by
 have hlt:=h.lt;obtain ⟨D,⟨es,clock,h1,r⟩,h2⟩:=h;exact ⟨D,⟨es,clock,(hb.block b hlt).trans h1,r⟩,h2⟩
theorem Placed.alloc {w:World} {b m:Nat} (h:Placed w b m) (o:Obj):Placed (w.alloc o) b m:=h.below ((Below.refl _ _).alloc (Nat.le_refl _) _)
theorem Placed.setCell {w:World} {b m:Nat} (h:Placed w b m) {a:Addr} (ha:b≠a.block) (u:Value):Placed (w.setCell a u) b m:=let ⟨D,h1,h2⟩:=h; ⟨D,h1.setCell ha u,h2⟩
def FISH (h:List Int):Prop:=h.length=32/\∀ x∈h,0<=x/\x<=255
theorem rowF:(25:TypeId)<Tryz.prog.types.size:=of_decide_eq_true (by kernel_rfl)
theorem zhR:(match Tryz.prog.underlying 25 with | some (.array _ _) | some (.struct _)=>true | _=>false)=true:=by rw [Tryz.underlying25]
theorem lawF:Keyed Tryz.prog 25:=Keyed.of_law (deep_law_laid z3P (m:=2) (by omega) rowF (by kernel_rfl) zhR)
def HKF (h:List Int):Lit:=.string (keyBytes ((List.range 32).map fun i=>[Lit.int .u8 (h.getD i 0)]).flatten)
theorem z7b {α β:Type} (f:α->Option β) (g:α->β):∀ l:List α,(∀ x∈l,f x=some (g x))->l.mapM f=some (l.map g)
 | [],_=>rfl
 | x :: l,h=>by
   rw [List.mapM_cons,h x (List.mem_cons_self ..),z7b f g l (fun y hy=>h y (List.mem_cons_of_mem _ hy))];rfl
theorem z1G {h:List Int} (hh:FISH h):keyOf Tryz.prog 25 (.agg (z00 h).toArray)=some (HKF h):=by
 have c3:Tryz.prog.cellsOf 25=32:=by kernel_rfl
 have c1:Tryz.prog.cellsOf 5=1:=by kernel_rfl
 have ht:Tryz.prog.keyType 25=true:=by kernel_rfl
 have hl:(z00 h).length=32:=by simp [z00,hh.1]
 have hf:(Value.agg (z00 h).toArray).formed Tryz.prog 25=true:=by simp [Value.formed,Tryz.underlying25,c3,hl]
 obtain ⟨m,hm⟩:∃ m,Tryz.prog.types.size=m+1:=⟨Tryz.prog.types.size - 1,(Nat.succ_pred_eq_of_pos (Nat.lt_of_le_of_lt (Nat.zero_le _) rowF)).symm⟩
 unfold keyOf;simp only [Tryz.underlying25,ht,hf,hm];simp only [Bool.and_self,if_true,Program.keyLits,Tryz.underlying25,Value.cells,c1,c3,hl];rw [z7b _ (fun i=>[Lit.int .u8 (h.getD i 0)]) (List.range 32)]
 ·rfl
 ·intro i hi
  have hi:i<32:=List.mem_range.1 hi
  have e:((z00 h).drop (i*1)).take 1=[.int .u8 (h.getD i 0)]:=by
   rw [Nat.mul_one];apply List.ext_getElem?;intro j;rw [List.getElem?_take];cases j with
   | zero=>
     simp only [Nat.zero_lt_one,if_true,List.getElem?_drop,Nat.add_zero,List.getElem?_cons_zero];unfold z00;rw [List.getElem?_map,List.getD_eq_getElem?_getD,List.getElem?_eq_getElem (by rw [hh.1];exact hi)];rfl
   | succ j=>simp
  have hr:0<=h.getD i 0/\h.getD i 0<=255:=by
   rw [List.getD_eq_getElem?_getD,List.getElem?_eq_getElem (by rw [hh.1];exact hi)];exact hh.2 _ (List.getElem_mem _)
  have w0:(Lit.int .u8 (h.getD i 0)).wf=true:=WalkArith.wf_u8 (by omega);rw [e];simp only [Tryz.underlying5];rw [if_pos ⟨trivial,w0⟩]
theorem z8j {h k:List Int} (e:z00 h=z00 k):h=k:=by
 unfold z00 at e;exact List.map_inj_right (f:=Value.int .u8) (fun x y hxy=>by simpa using hxy) |>.1 e
theorem z4T {h k:List Int} (hh:FISH h) (hk:FISH k) (e:HKF h=HKF k):h=k:=by
 have h1:=z1G hh;have h2:=z1G hk;rw [<-e] at h2;have:=lawF.inj h1 h2;simp only [Value.agg.injEq] at this;exact z8j (by simpa using this)
theorem zbt (w:World):(zeroValue 3).run Tryz.prog w=.ok (.int .i64 0) w:=by kernel_rfl
structure FOK (f:Nat->List Int) (n:Nat) (D:DataW Unit):Prop where
 size:Maps.size D=UNL f n
 has:∀ h,FISH h->(Maps.has D (HKF h)=true↔LSTI f n h ≠ -1)
 at_:∀ h,FISH h->LSTI f n h ≠ -1->∀ z,D.atKey (HKF h) z=.lit (.int .i64 (LSTI f n h))
def FMAP (w:World) (b:Nat) (f:Nat->List Int) (n:Nat):Prop:=∃ D:DataW Unit,w.ownsMap Tryz.prog 25 (plainElem Tryz.prog 3) b (UNL f n) D/\FOK f n D
theorem z7c {w:World} {b n:Nat} {D:DataW Unit} (h:w.ownsMap Tryz.prog 25 (plainElem Tryz.prog 3) b n D):w.ownsMap Tryz.prog 25 (plainElem Tryz.prog 3) b (Maps.size D) D:=by
 obtain ⟨es,clock,hb,F,_,rfl⟩:=h;exact ⟨es,clock,hb,F,by simp [Maps.size,length_sorted],rfl⟩
theorem FOK.none (f:Nat->List Int):FOK f 0 (.map []):=⟨rfl,fun h _=>by simp [Maps.has,LSTI],fun h _ e=>absurd rfl e⟩
theorem FMAP.made (w:World) (f:Nat->List Int):FMAP (w.alloc (.map #[] 0)) w.heap.size f 0:=⟨_,World.ownsMap_made w _ _ _,FOK.none f⟩
theorem FMAP.lt {w:World} {b n:Nat} {f:Nat->List Int} (h:FMAP w b f n):b<w.heap.size:=let ⟨_,h1,_⟩:=h;h1.lt
theorem FMAP.at {w w':World} {b n:Nat} {f:Nat->List Int} (h:FMAP w b f n) (hb:w'.heap[b]?=w.heap[b]?):FMAP w' b f n:=by
 obtain ⟨D,⟨es,clock,h1,r⟩,h2⟩:=h;exact ⟨D,⟨es,clock,hb.trans h1,r⟩,h2⟩
theorem FMAP.congr {w:World} {b n:Nat} {f g:Nat->List Int} (h:FMAP w b f n) (e:∀ i,i<n->f i=g i):FMAP w b g n:=by
 obtain ⟨D,h1,h2⟩:=h;rw [z4f e] at h1;exact ⟨D,h1,by rw [<-z4f e];exact h2.size,fun h hh=>by rw [<-z25 h e];exact h2.has h hh,fun h hh=>by rw [<-z25 h e];exact h2.at_ h hh⟩
theorem FMAP.look {w:World} {b n:Nat} {f:Nat->List Int} (H:FMAP w b f n) {h:List Int} (hh:FISH h):∃ v,(Instr.lookup 55 (.map (some b)) (.agg (z00 h).toArray) true).run Tryz.prog w=.ok (.tuple #[.int .i64 v,.bool (decide (LSTI f n h ≠ -1))]) w/\(LSTI f n h ≠ -1->v=LSTI f n h):=by
 obtain ⟨D,h1,h2⟩:=H;obtain ⟨v,ps,r1,r2⟩:=h1.look_ok lawF Tryz.underlying55 (zbt w) (plainElem_int Tryz.underlying3 (by decide)) (z1G hh);obtain ⟨c,rfl,hc,hwc⟩:=plainElem_int_inv Tryz.underlying3 r2;have hc':=congrArg Prod.fst hc;refine ⟨c,?_,fun e=>?_⟩
 ·rw [r1]
  have:=h2.has h hh;by_cases e:LSTI f n h = -1
  ·have e2:Maps.has D (HKF h)=false:=by
    cases hb:Maps.has D (HKF h)
    ·rfl
    ·exact absurd e (this.1 hb)
   rw [e2];simp [e]
  ·rw [this.2 e];simp [e]
 ·rw [h2.at_ h hh e] at hc'
  simpa using hc'.symm
theorem zbu {h:List Int} (hh:FISH h) (w:World):(Instr.lookup 55 (.map none) (.agg (z00 h).toArray) true).run Tryz.prog w=.ok (.tuple #[.int .i64 0,.bool false]) w:=by
 have hc:=lawF.check w true (z1G hh);rcases lawF.find w (z1G hh) [] (fun e he=>by cases he) with ⟨hf,_⟩ | ⟨j,e,_,he,_⟩
 ·simp [Instr.lookup,run_underlying Tryz.underlying55,hc,hf]
 ·simp at he
theorem FMAP.get {w:World} {b n:Nat} {f:Nat->List Int} (H:FMAP w b f n) {h:List Int} (hh:FISH h) (hn:LSTI f n h ≠ -1):(Instr.lookup 55 (.map (some b)) (.agg (z00 h).toArray) false).run Tryz.prog w=.ok (.int .i64 (LSTI f n h)) w:=by
 obtain ⟨D,h1,h2⟩:=H;obtain ⟨c,r1,r2,_⟩:=h1.lookup_int lawF Tryz.underlying55 Tryz.underlying3 (zbt w) (z1G hh);rw [h2.at_ h hh hn] at r2;simp at r2;rw [r1,r2]
theorem FMAP.add {w:World} {b n:Nat} {f:Nat->List Int} (H:FMAP w b f n) (hn:n<2 ^ 40) (hh:FISH (f n)):∃ w',(Instr.mapUpdate 55 (.map (some b)) (.agg (z00 (f n)).toArray) (.int .i64 (n:Int))).run Tryz.prog w=.ok () w'/\FMAP w' b f (n+1)/\w.grownBy w' (some b):=by
 obtain ⟨D,h1,h2⟩:=H;have hu:=z7P f n;obtain ⟨w',r1,r2,r3⟩:=h1.update lawF Tryz.underlying55 (by unfold maxLen;omega) (z1G hh) (plainElem_int Tryz.underlying3 (WalkArith.wf_i64 (n:=(n:Int)) (by omega)));have hkey:WideAt.IsKeyLit (HKF (f n)):=lawF.key (z1G hh)
 have hs:Maps.size (D.put (HKF (f n)) (.lit (.int .i64 (n:Int))))=UNL f (n+1):=by
  rw [Maps.size_put (h1.tidy lawF),h2.size,UNL];by_cases c:LSTI f n (f n) = -1
  ·rw [if_pos c,if_neg (fun x=>(h2.has _ hh).1 x c)]
  ·rw [if_neg c,if_pos ((h2.has _ hh).2 c)];rfl
 refine ⟨w',r1,⟨_,hs ▸ z7c r2,hs,fun h hf=>?_,fun h hf e z=>?_⟩,r3⟩
 ·by_cases e:f n=h
  ·subst e
   rw [Maps.has_put_same h1.isMap hkey,LSTI,if_pos rfl];exact ⟨fun _=>by omega,fun _=>rfl⟩
  ·have hne:HKF h≠HKF (f n):=fun x=>e (z4T hf hh x).symm
   rw [Maps.has_put_other hne,LSTI,if_neg e];exact h2.has h hf
 ·by_cases c:f n=h
  ·subst c
   rw [Maps.atKey_put_same h1.isMap hkey,LSTI,if_pos rfl]
  ·have hne:HKF h≠HKF (f n):=fun x=>c (z4T hf hh x).symm
   rw [LSTI,if_neg c] at e;rw [Maps.atKey_put_other hne,LSTI,if_neg c];exact h2.at_ h hf e z
theorem FMAP.back {w:World} {b n:Nat} {f:Nat->List Int} (H:FMAP w b f (n+1)) (hn:n<2 ^ 40) (hh:FISH (f n)) (h0:LSTI f n (f n) ≠ -1):∃ w',(Instr.mapUpdate 55 (.map (some b)) (.agg (z00 (f n)).toArray) (.int .i64 (LSTI f n (f n)))).run Tryz.prog w=.ok () w'/\FMAP w' b f n/\w.grownBy w' (some b):=by
 obtain ⟨D,h1,h2⟩:=H;have hu:=z7P f (n+1);have hr:=z2D f (f n) n;obtain ⟨w',r1,r2,r3⟩:=h1.update lawF Tryz.underlying55 (by unfold maxLen;omega) (z1G hh) (plainElem_int Tryz.underlying3 (WalkArith.wf_i64 (n:=LSTI f n (f n)) (by omega)));have hkey:WideAt.IsKeyLit (HKF (f n)):=lawF.key (z1G hh)
 have hs:Maps.size (D.put (HKF (f n)) (.lit (.int .i64 (LSTI f n (f n)))))=UNL f n:=by
  rw [Maps.size_put (h1.tidy lawF),h2.size,UNL,if_neg h0,if_pos ((h2.has _ hh).2 (by rw [LSTI,if_pos rfl];omega))];rfl
 refine ⟨w',r1,⟨_,hs ▸ z7c r2,hs,fun h hf=>?_,fun h hf e z=>?_⟩,r3⟩
 ·by_cases e:f n=h
  ·subst e
   rw [Maps.has_put_same h1.isMap hkey];exact ⟨fun _=>h0,fun _=>rfl⟩
  ·have hne:HKF h≠HKF (f n):=fun x=>e (z4T hf hh x).symm
   rw [Maps.has_put_other hne,h2.has h hf,LSTI,if_neg e]
 ·by_cases c:f n=h
  ·subst c
   rw [Maps.atKey_put_same h1.isMap hkey]
  ·have hne:HKF h≠HKF (f n):=fun x=>c (z4T hf hh x).symm
   rw [Maps.atKey_put_other hne,h2.at_ h hf (by rw [LSTI,if_neg c];exact e),LSTI,if_neg c]
theorem FMAP.count {w:World} {b n:Nat} {f:Nat->List Int} (H:FMAP w b f n) (ty:TypeId):(Builtin.len_ #[55] ty #[.map (some b)]).run Tryz.prog w=.ok (.int .i64 (UNL f n:Nat)) w:=by
 obtain ⟨D,h1,h2⟩:=H;rw [h1.len Tryz.underlying55 ty,h2.size]
theorem FMAP.grown {w w':World} {b n:Nat} {f:Nat->List Int} {row:Option Nat} (h:FMAP w b f n) (hg:w.grownBy w' row) (hne:row≠some b):FMAP w' b f n:=h.at (hg.block b h.lt (fun e=>hne e.symm))
theorem FMAP.below {w w':World} {b n B:Nat} {f:Nat->List Int} (h:FMAP w b f n) (hb:Below B w w') (hB:b<B):FMAP w' b f n:=h.at (hb.block b hB)
end Go.Proofs.YtlbcnaenhghieaaGreatDoor
namespace Go.Proofs.YtlbcnaenhghieaaGreatDoor
open Go.RowKit
set_option maxRecDepth 100000
theorem zgm {P:Program} {o:Oper} {a:Act} {w:World} {K K':Act->World->Prop} {Q Q':Exit->Act->World->Prop} (h:∀ a w,K a w->K' a w) (hq:∀ c a w,Q (.panic c) a w->Q' (.panic c) a w) (hl:LetsOut Q->LetsOut Q') (hh:o.wp P a w K Q):o.wp P a w K' Q':=by
 unfold Oper.wp at *
 generalize (execOp a.eval o).run P w=r at *
 cases r with
 | ok n w'=>
   cases n <;> simp only [Oper.upon] at hh ⊢ <;>
    first
     | exact h _ _ hh
     | exact Calls.mono hh (fun e w'' he=>by cases e <;> first | exact h _ _ he | exact hq _ _ _ he | exact hl he)
     | exact Rows.mono hh (fun _ _ he=>h _ _ he)
 | halt x w'=>cases x <;> simp only [Oper.upon] at hh ⊢ <;> first | exact hq _ _ _ hh | exact hh
theorem z0w {P:Program} {ops:Array Oper} {o:Oper} {a:Act} {w:World} {K:Act->World->Prop} {Q:Exit->Act->World->Prop} {E:Prop} (hw:Region.wanted o (yielded ops a.tmps)=true)
  (h:wpList P ops (fun e a w=>e=Exit.normal/\K a w) [o] a w):if Region.wanted o (yielded ops a.tmps)=true then Oper.wp P o a w K Q else E:=by
 rw [if_pos hw];unfold wpList at h;rw [if_pos hw] at h;rcases h with h | ⟨_,a',w',h',_⟩
 ·exact zgm (fun a w h=>by unfold wpList at h;exact h.2) (fun c a w h=>by cases h.1) (fun h=>by obtain ⟨_,_,h,_⟩:=h;cases h) h
 ·cases h'
theorem z0k {ops:Array Oper} {o:Oper} {a:Act} {w w':World} {K:Act->World->Prop} {Q:Exit->Act->World->Prop} {E:Prop} {v:Value} (hw:Region.wanted o (yielded ops a.tmps)=true)
  (hrun:(execOp a.eval o).run Tryz.prog w=.ok (.value v) w') (h:K (a.put o.dst v) w'):if Region.wanted o (yielded ops a.tmps)=true then Oper.wp Tryz.prog o a w K Q else E:=by
 rw [if_pos hw];unfold Oper.wp;rw [hrun];exact h
end Go.Proofs.YtlbcnaenhghieaaGreatDoor
