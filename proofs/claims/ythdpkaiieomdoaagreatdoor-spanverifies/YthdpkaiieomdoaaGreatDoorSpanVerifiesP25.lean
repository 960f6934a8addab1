/- Texts of SpanVerifies, one behind the other: SpanPeaksRegion, SpanPlacesCall, SpanEncode. -/
import Derived.Test.YthdpkaiieomdoaaGreatDoorSpanVerifiesP24
namespace Go.Proofs.YthdpkaiieomdoaaGreatDoor
set_option linter.unusedSimpArgs false
open Go.RowKit
set_option maxRecDepth 100000
@[go_sem] def SP2OPSq0:Oper:=⟨some 9,.fieldAddr 28 (.tmp 5) 1,0,"climb.go:44",#[],none⟩
@[go_sem] def SP2OPSq1:Oper:=⟨some 10,.load 24 (.tmp 9),24,"climb.go:44",#[⟨0,.data⟩],none⟩
@[go_sem] def SP2OPSq2:Oper:=⟨some 11,.fieldAddr 28 (.tmp 5) 2,0,"climb.go:44",#[],none⟩
@[go_sem] def SP2OPSq3:Oper:=⟨some 12,.load 24 (.tmp 11),24,"climb.go:44",#[⟨2,.data⟩],none⟩
@[go_sem] def SP2OPSq4:Oper:=⟨some 13,.fieldAddr 28 (.tmp 5) 0,0,"climb.go:44",#[],none⟩
@[go_sem] def SP2OPSq5:Oper:=⟨some 14,.load 24 (.tmp 13),24,"climb.go:44",#[⟨4,.data⟩],none⟩
@[go_sem] def SP2OPSq6:Oper:=⟨some 15,.move (.tmp 1),25,"climb.go:44",#[],none⟩
@[go_sem] def SP2OPSq7:Oper:=⟨some 16,.call {callee:=.value (.func 81),args:=#[.tmp 15],argTypes:=#[25]},59,"climb.go:44",#[⟨6,.data⟩],none⟩
@[go_sem] def SP2OPSq8:Oper:=⟨some 17,.fieldAddr 28 (.tmp 5) 3,0,"climb.go:44",#[],none⟩
@[go_sem] def SP2OPSq9:Oper:=⟨some 18,.load 25 (.tmp 17),25,"climb.go:44",#[⟨8,.data⟩],none⟩
@[go_sem] def SP2OPSq10:Oper:=⟨some 19,.call {callee:=.value (.func 81),args:=#[.tmp 18],argTypes:=#[25]},59,"climb.go:44",#[⟨9,.data⟩,⟨7,.chain⟩],none⟩
@[go_sem] def SP2OPSq11:Oper:=⟨some 20,.move (.tmp 7),131,"climb.go:44",#[],none⟩
@[go_sem] def SP2OPSq12:Oper:=⟨some 21,.call {callee:=.value (.func 80),args:=#[.tmp 10,.tmp 12,.tmp 14,.tmp 16,.tmp 19,.tmp 20],argTypes:=#[24,24,24,59,59,131]},25,"climb.go:44",#[⟨1,.data⟩,⟨3,.data⟩,⟨5,.data⟩,⟨7,.data⟩,⟨10,.data⟩,⟨11,.data⟩,⟨10,.chain⟩],none⟩
@[go_sem] def SP2OPSq13:Oper:=⟨some 6,.assign (.tmp 21),25,"climb.go:44",#[⟨12,.data⟩,⟨12,.chain⟩,⟨0,.phase⟩,⟨1,.phase⟩,⟨2,.phase⟩,⟨3,.phase⟩,⟨4,.phase⟩,⟨5,.phase⟩,⟨6,.phase⟩,⟨7,.phase⟩,⟨8,.phase⟩,⟨9,.phase⟩,⟨10,.phase⟩,⟨11,.phase⟩,⟨12,.phase⟩],none⟩
def z8g:Array Oper:=#[SP2OPSq0,SP2OPSq1,SP2OPSq2,SP2OPSq3,SP2OPSq4,SP2OPSq5,SP2OPSq6,SP2OPSq7,SP2OPSq8,SP2OPSq9,SP2OPSq10,SP2OPSq11,SP2OPSq12,SP2OPSq13]
set_option maxHeartbeats 2000000 in
theorem zeC {Q:Exit→Act→World→Prop} {u0 u2 u4 u6 u8 u9 u10 u11 u12 u13 u14 u15 u16 u17 u18 u19 u20 u21:Value} (W:World) (b5 bw bi bli bj bnj F T N nl cl K cn m:Nat) (al an:Option Addr) (P0 P1 P2:World→Prop) (P3:Option Addr→Nat→World→Prop) (h0:P0 W.drew) (t0:∀ w,P0 w→(fun w:World=>w.cell? ⟨b5,0,none⟩=some (.int .u64 (N:Int))∧w.cell? ⟨b5,1,none⟩=some (.int .u64 (F:Int))∧w.cell? ⟨b5,2,none⟩=some (.int .u64 (T:Int))∧w.cell? ⟨b5,3,none⟩=some (.slice an K cn)) w) (t1:∀ w,P1 w→(fun w:World=>w.cell? ⟨b5,0,none⟩=some (.int .u64 (N:Int))∧w.cell? ⟨b5,1,none⟩=some (.int .u64 (F:Int))∧w.cell? ⟨b5,2,none⟩=some (.int .u64 (T:Int))∧w.cell? ⟨b5,3,none⟩=some (.slice an K cn)) w) (t2:∀ w,P2 w→(fun w:World=>w.cell? ⟨b5,0,none⟩=some (.int .u64 (N:Int))∧w.cell? ⟨b5,1,none⟩=some (.int .u64 (F:Int))∧w.cell? ⟨b5,2,none⟩=some (.int .u64 (T:Int))∧w.cell? ⟨b5,3,none⟩=some (.slice an K cn)) w) (t3:∀ a c w,P3 a c w→(fun w:World=>w.cell? ⟨b5,0,none⟩=some (.int .u64 (N:Int))∧w.cell? ⟨b5,1,none⟩=some (.int .u64 (F:Int))∧w.cell? ⟨b5,2,none⟩=some (.int .u64 (T:Int))∧w.cell? ⟨b5,3,none⟩=some (.slice an K cn)) w)
    (c0:∀ w,P0 w→Calls Tryz.prog 81 #[.slice al nl cl] w fun e w'=>e=.returned (z0U bi bli)∧P1 w') (c1:∀ w,P1 w→Calls Tryz.prog 81 #[.slice an K cn] w fun e w'=>e=.returned (z0U bj bnj)∧P2 w') (c2:∀ w,P2 w→Calls Tryz.prog 80 #[.int .u64 (F:Int),.int .u64 (T:Int),.int .u64 (N:Int),z0U bi bli,z0U bj bnj,z1q bw] w fun e w'=>∃ (ap:Option Addr) (cp:Nat),e=.returned (.slice ap m cp)∧P3 ap cp w') (hQ:∀ c (a:Act) (t:Tmp) (v:Value) w,Q (.panic c) (a.put (some t) v) w→Q (.panic c) a w)
    (hfin:∀ (ap:Option Addr) (cp:Nat) (w:World),(P3 ap cp w)→Q .normal {tmps:=#[u0,.slice al nl cl,u2,.pointer (some ⟨bw,0,none⟩),u4,.pointer (some ⟨b5,0,none⟩),.slice ap m cp,z1q bw,u8,.pointer (some ⟨b5,1,none⟩),.int .u64 (F:Int),.pointer (some ⟨b5,2,none⟩),.int .u64 (T:Int),.pointer (some ⟨b5,0,none⟩),.int .u64 (N:Int),.slice al nl cl,z0U bi bli,.pointer (some ⟨b5,3,none⟩),.slice an K cn,z0U bj bnj,z1q bw,.slice ap m cp],defers:=[]} w):(Code.region 2 z8g true).wp Tryz.prog Q {tmps:=#[u0,.slice al nl cl,u2,.pointer (some ⟨bw,0,none⟩),u4,.pointer (some ⟨b5,0,none⟩),u6,z1q bw,u8,u9,u10,u11,u12,u13,u14,u15,u16,u17,u18,u19,u20,u21],defers:=[]} W:=by
  have kst:∀ (w:World),(P0 w)→wpAnyH Tryz.prog .any z8g Q (fun w:World=>w.cell? ⟨b5,0,none⟩=some (.int .u64 (N:Int))∧w.cell? ⟨b5,1,none⟩=some (.int .u64 (F:Int))∧w.cell? ⟨b5,2,none⟩=some (.int .u64 (T:Int))∧w.cell? ⟨b5,3,none⟩=some (.slice an K cn)) 4 #[true,true,true,true,true,true,true,false,true,true,false,true,false,false] {tmps:=#[u0,.slice al nl cl,u2,.pointer (some ⟨bw,0,none⟩),u4,.pointer (some ⟨b5,0,none⟩),u6,z1q bw,u8,.pointer (some ⟨b5,1,none⟩),.int .u64 (F:Int),.pointer (some ⟨b5,2,none⟩),.int .u64 (T:Int),.pointer (some ⟨b5,0,none⟩),.int .u64 (N:Int),.slice al nl cl,u16,.pointer (some ⟨b5,3,none⟩),.slice an K cn,u19,z1q bw,u21],defers:=[]} w:=fun  w hp=>by
    refine wpAnyH_ready (rs:=[7]) (by kernel_rfl) (by simp) ?_
    refine AllReadyH.cons (o:=SP2OPSq7) rfl (fun KQ hKQ=>?_) ?_
    · rw [if_pos (by rfl)]
      go_simp
      refine (show Calls _ _ _ w (fun e w'=>e=.returned (z0U bi bli)∧(P1 w')) from c0 w hp).mono ?_
      rintro e w ⟨rfl,hp⟩
      refine hKQ.out _ _ (t1 _ hp) (fun _=>?_)
      simp only [List.setIfInBounds_toArray,List.set]
      refine wpAnyH_ready (rs:=[10]) (by kernel_rfl) (by simp) ?_
      refine AllReadyH.cons (o:=SP2OPSq10) rfl (fun KQ hKQ=>?_) ?_
      · rw [if_pos (by rfl)]
        go_simp
        refine (show Calls _ _ _ w (fun e w'=>e=.returned (z0U bj bnj)∧(P2 w')) from c1 w hp).mono ?_
        rintro e w ⟨rfl,hp⟩
        refine hKQ.out _ _ (t2 _ hp) (fun _=>?_)
        simp only [List.setIfInBounds_toArray,List.set]
        refine wpAnyH_ready (rs:=[12]) (by kernel_rfl) (by simp) ?_
        refine AllReadyH.cons (o:=SP2OPSq12) rfl (fun KQ hKQ=>?_) ?_
        · rw [if_pos (by rfl)]
          go_simp
          refine (show Calls _ _ _ w (fun e w'=>∃ (ap:Option Addr) (cp:Nat),e=.returned (.slice ap m cp)∧(P3 ap cp w')) from c2 w hp).mono ?_
          rintro e w ⟨ap,cp,rfl,hp⟩
          refine hKQ.out _ _ (t3 _ _ _ hp) (fun _=>?_)
          simp only [List.setIfInBounds_toArray,List.set]
          have hww:(fun w:World=>w.cell? ⟨b5,0,none⟩=some (.int .u64 (N:Int))∧w.cell? ⟨b5,1,none⟩=some (.int .u64 (F:Int))∧w.cell? ⟨b5,2,none⟩=some (.int .u64 (T:Int))∧w.cell? ⟨b5,3,none⟩=some (.slice an K cn)) w:=t3 _ _ _ hp
          refine tkP SP2OPSq13 (.slice ap m cp) 13 hQ hww ?_
          simp only [List.set]
          exact wpAnyH_done (by kernel_rfl) (hfin ap cp w hp) _
        exact AllReadyH.nil
      exact AllReadyH.nil
    exact AllReadyH.nil
  have hp:=h0
  have hww:(fun w:World=>w.cell? ⟨b5,0,none⟩=some (.int .u64 (N:Int))∧w.cell? ⟨b5,1,none⟩=some (.int .u64 (F:Int))∧w.cell? ⟨b5,2,none⟩=some (.int .u64 (T:Int))∧w.cell? ⟨b5,3,none⟩=some (.slice an K cn)) W.drew:=t0 _ hp
  have last:=kst W.drew hp
  have z:wpAnyH Tryz.prog .any z8g Q (fun w:World=>w.cell? ⟨b5,0,none⟩=some (.int .u64 (N:Int))∧w.cell? ⟨b5,1,none⟩=some (.int .u64 (F:Int))∧w.cell? ⟨b5,2,none⟩=some (.int .u64 (T:Int))∧w.cell? ⟨b5,3,none⟩=some (.slice an K cn)) 14 #[false,false,false,false,false,false,false,false,false,false,false,false,false,false] {tmps:=#[u0,.slice al nl cl,u2,.pointer (some ⟨bw,0,none⟩),u4,.pointer (some ⟨b5,0,none⟩),u6,z1q bw,u8,u9,u10,u11,u12,u13,u14,u15,u16,u17,u18,u19,u20,u21],defers:=[]} W.drew:=by
    refine tkP SP2OPSq0 (.pointer (some ⟨b5,1,none⟩)) 0 hQ hww ?_
    simp only [List.set]
    refine tkH SP2OPSq1 (.int .u64 (F:Int)) 1 hQ (Or.inl ⟨by rfl,fun w hw=>by have hx:=hw.2.1;go_simp⟩) hww ?_
    simp only [List.set]
    refine tkP SP2OPSq2 (.pointer (some ⟨b5,2,none⟩)) 2 hQ hww ?_
    simp only [List.set]
    refine tkH SP2OPSq3 (.int .u64 (T:Int)) 3 hQ (Or.inl ⟨by rfl,fun w hw=>by have hx:=hw.2.2.1;go_simp⟩) hww ?_
    simp only [List.set]
    refine tkP SP2OPSq4 (.pointer (some ⟨b5,0,none⟩)) 4 hQ hww ?_
    simp only [List.set]
    refine tkH SP2OPSq5 (.int .u64 (N:Int)) 5 hQ (Or.inl ⟨by rfl,fun w hw=>by have hx:=hw.1;go_simp⟩) hww ?_
    simp only [List.set]
    refine tkP SP2OPSq6 (.slice al nl cl) 6 hQ hww ?_
    simp only [List.set]
    refine tkP SP2OPSq8 (.pointer (some ⟨b5,3,none⟩)) 8 hQ hww ?_
    simp only [List.set]
    refine tkH SP2OPSq9 (.slice an K cn) 9 hQ (Or.inl ⟨by rfl,fun w hw=>by have hx:=hw.2.2.2;go_simp⟩) hww ?_
    simp only [List.set]
    refine tkP SP2OPSq11 (z1q bw) 11 hQ hww ?_
    simp only [List.set]
    exact last
  exact wp_region_held_drew (S:=(fun w:World=>w.cell? ⟨b5,0,none⟩=some (.int .u64 (N:Int))∧w.cell? ⟨b5,1,none⟩=some (.int .u64 (F:Int))∧w.cell? ⟨b5,2,none⟩=some (.int .u64 (T:Int))∧w.cell? ⟨b5,3,none⟩=some (.slice an K cn))) (by kernel_rfl) hww (fun _=>z)
end Go.Proofs.YthdpkaiieomdoaaGreatDoor

namespace Go.Proofs.YthdpkaiieomdoaaGreatDoor
open Go.RowKit
set_option maxRecDepth 100000
def FLT (F T N j:Nat):List Nat:=(((TPS N).drop j).map fun s=>NEED s.1 s.2 (SG F T s.1 s.2)).flatten
theorem zdw {F T N j h k:Nat} (e:(TPS N)[j]?=some (h,k)):FLT F T N j=NEED h k (SG F T h k) ++ FLT F T N (j+1):=by
  unfold FLT
  rw [z9G e,List.map_cons,List.flatten_cons]
theorem zeD {F T N j:Nat} (h:(TPS N).length≤j):FLT F T N j=[]:=by
  unfold FLT
  rw [List.drop_of_length_le h]
  rfl
theorem zeE {F T N:Nat} (hN:N≤4611686018427387904) (hT:T≤N):SPP F T N=FLT F T N 0:=z3Q hN hT
set_option maxHeartbeats 2000000 in
theorem zdx (CP F T N:Nat) (hN:N≤4611686018427387904) (hTN:T≤N) (w:World) (hCP:CP<w.heap.size) (hT:Tabled w) (hv:Has w CP #[.slice none 0 0] 81):
    Calls Tryz.prog 82 #[.int .u64 (F:Int),.int .u64 (T:Int),.int .u64 (N:Int),.func (.func 83) #[] #[.pointer (some ⟨CP,0,none⟩)]] w fun e w'=>∃ w1,Below w.heap.size w w1∧z3R w1 CP [] (SPP F T N) e w':=by
  have cp:=z7p N hN w hT (by omega)
  have hPC:PC N≤64:=z13 64 N (by omega)
  have hlen:=z1I (n:=N) (by omega)
  have hmost:=z2K (F:=F) hN hTN
  have hall:=zeE (F:=F) hN hTN
  have HA:Aside (N≤4611686018427387904∧T≤N∧PC N≤64∧(TPS N).length=PC N∧(SPP F T N).length≤188∧SPP F T N=FLT F T N 0∧CP<w.heap.size∧Has w CP #[.slice none 0 0] 81):=⟨hN,hTN,hPC,hlen,hmost,hall,hCP,hv⟩
  clear hN hTN hPC hlen hmost hall hCP hT hv
  obtain ⟨P,hP⟩:∃ P,SPP F T N=P:=⟨_,rfl⟩
  rw [hP] at HA ⊢
  clear hP
  go_enter Tryz.func82,Tryz.ntmps82
  go_wp2_with fail
  refine cp.mono ?_
  rintro e w1 ⟨g,cg,rfl,hown,hb1⟩
  clear cp
  obtain ⟨m,hm⟩:∃ m,PC N=m:=⟨_,rfl⟩
  rw [hm] at hown HA ⊢
  have hg:=hown.lt g rfl
  have R1:Aside (w1.ownsRow w.heap.size 24 1 (.slice (some ⟨g,0,none⟩) m cg) m (z0h (z3u N))∧Below w.heap.size w w1∧g≠CP∧g<w1.heap.size):=⟨hown,hb1,by have:=HA.out.2.2.2.2.2.2.1;omega,hg.2⟩
  have T0:Aside (TAKING w1 w1 CP []):=by
    have hv1:Has w1 CP #[.slice none 0 0] 81:=HA.out.2.2.2.2.2.2.2.keep hb1
    exact ⟨⟨.slice none 0 0,hv1,⟨rfl,.inl ⟨rfl,rfl⟩⟩⟩,fun b _ _=>rfl,hv1.lt,Below.refl _ _⟩
  clear hown hb1 hm hg
  go_wp2_with fail
  go_loopg [13] m (fun q s13 wx=>∃ (j:Nat) (told:List Nat),s13=.int .i64 (j:Int)∧Aside (j+q=m∧TAKING w1 wx CP told∧P=told ++ FLT F T N j))
  case atStart=>exact ⟨0,[],rfl,by omega,T0.out,by rw [List.nil_append];exact HA.out.2.2.2.2.2.1⟩
  case round=>
    obtain ⟨j,told,rfl,A⟩:=hrel
    clear T0
    cases gk with
    | zero=>
      obtain rfl:j=m:=by have:=A.out.1;omega
      have hlt:¬ (j:Int)<(j:Int):=by omega
      have FN:Aside (∃ w1,Below w.heap.size w w1∧z3R w1 CP [] P (.returned (.tuple #[])) wr):=by
        obtain ⟨h1,h2,h3⟩:=A.out
        rw [zeD (by have:=HA.out.2.2.2.1;omega),List.append_nil] at h3
        exact ⟨w1,R1.out.2.1,rfl,by rw [List.nil_append,h3];exact h2⟩
      clear A R1 HA
      go_wp2_with fail
      exact bodyPost_end (v:=.tuple #[]) (by simp [results,Tryz.f82]) rfl FN.out
    | succ q=>
      have hlt:(j:Int)<(m:Int):=by have:=A.out.1;omega
      have hjm:j<(TPS N).length:=by have:=A.out.1;have:=HA.out.2.2.2.1;omega
      obtain ⟨⟨h,k⟩,ehk⟩:∃ s,(TPS N)[j]?=some s:=⟨_,List.getElem?_eq_getElem hjm⟩
      have hsp:=z2c (by have:=HA.out.1;omega) (List.mem_of_getElem? ehk)
      have epk:=z7V ehk
      have hcell:wr.cell? ⟨g,j,none⟩=some (.int .u64 ((PLC h k:Nat):Int)):=by
        have h1:=R1.out.1.cellAt j (by have:=A.out.1;omega)
        refine (World.cell?_of_block (w:=w1) (by exact A.out.2.1.keep g R1.out.2.2.2 R1.out.2.2.1)).trans (h1.trans ?_)
        rw [z0h,List.getElem?_map,epk]
        rfl
      have hP:P=told ++ (NEED h k (SG F T h k) ++ FLT F T N (j+1)):=by rw [← zdw ehk];exact A.out.2.2
      have hle:told.length+(NEED h k (SG F T h k)).length≤2 ^ 30:=by
        have h1:=HA.out.2.2.2.2.1
        rw [hP,List.length_append,List.length_append] at h1
        omega
      have cu:=zc8 w1 CP F T h k hsp.2.2 told wr A.out.2.1 hle
      have ej:wrap64 ((j:Int)+1)=((j+1:Nat):Int):=by have:=A.out.1;have:=HA.out.2.2.1;unfold wrap64;omega
      have EJ:Aside (wrap64 ((j:Int)+1)=((j+1:Nat):Int)∧j+1+q=m∧P=(told ++ NEED h k (SG F T h k)) ++ FLT F T N (j+1)):=⟨ej,by have:=A.out.1;omega,by rw [List.append_assoc];exact hP⟩
      have bj:(j:Int)≤64:=by have:=A.out.1;have:=HA.out.2.2.1;omega
      clear ehk hsp epk hjm hP hle A ej
      go_wp2_with fail
      refine cu.mono ?_
      rintro e w3 ⟨rfl,h3⟩
      clear cu
      have H3:Aside (TAKING w1 w3 CP (told ++ NEED h k (SG F T h k))):=h3
      clear h3
      go_wp2_with fail
      go_roundg q
      case measure=>exact Nat.lt_succ_self _
      case rel=>exact ⟨j+1,told ++ NEED h k (SG F T h k),by first | rfl | (rw [EJ.out.1]),EJ.out.2.1,H3.out,EJ.out.2.2⟩
def SPA (F T N:Nat):List Nat:=if SPE F T N=0 then SPP F T N else []
def z2r (w:World) (E:Int) (l:List Nat) (e:Ending) (w':World):Prop:=∃ a c,e=.returned (.tuple #[.slice a l.length c,.int .i64 E])∧w'.ownsRow w.heap.size 24 1 (.slice a l.length c) l.length (z0h l)∧Below w.heap.size w w'
theorem z3b (F T N:Nat):(SPE F T N=30∧SPA F T N=[]∧4611686018427387904<N)∨(SPE F T N=32∧SPA F T N=[]∧N≤4611686018427387904∧(T<F∨F≤T∧N<T))∨(SPE F T N=0∧SPA F T N=SPP F T N∧N≤4611686018427387904∧F≤T∧T≤N):=by
  unfold SPA SPE
  by_cases h1:4611686018427387904<N
  · rw [if_pos h1]
    exact .inl ⟨rfl,rfl,h1⟩
  · rw [if_neg h1]
    by_cases h2:T<F∨N<T
    · rw [if_pos h2]
      exact .inr (.inl ⟨rfl,rfl,by omega,by omega⟩)
    · rw [if_neg h2,if_pos rfl]
      exact .inr (.inr ⟨rfl,rfl,by omega,by omega,by omega⟩)
theorem z2E (w:World) (B:Nat):w.ownsRow B 24 1 (.slice none ([]:List Nat).length 0) ([]:List Nat).length (z0h []):=⟨rfl,.inl ⟨rfl,rfl⟩⟩
set_option maxHeartbeats 2000000 in
theorem z2w (F T N:Nat) (w:World) (hT:Tabled w) (h0:0<w.heap.size):Calls Tryz.prog 43 #[.int .u64 (F:Int),.int .u64 (T:Int),.int .u64 (N:Int)] w (z2r w (SPE F T N) (SPA F T N)):=by
  rcases z3b F T N with ⟨e1,e2,h⟩ | ⟨e1,e2,h,h'⟩ | ⟨e1,e2,hN,hF,hTN⟩
  · rw [e1,e2]
    have g1:(4611686018427387904:Int)<(N:Int):=by omega
    clear h hT h0 e1 e2
    go_enter Tryz.func43,Tryz.ntmps43
    go_wp2
    go_ret2
    exact ⟨none,0,rfl,z2E _ _,Below.refl _ _⟩
  · rw [e1,e2]
    have g1:¬ (4611686018427387904:Int)<(N:Int):=by omega
    have g2:(T:Int)<(F:Int)∨(¬ (T:Int)<(F:Int)∧(N:Int)<(T:Int)):=by omega
    clear h h' hT h0 e1 e2
    rcases g2 with g2 | ⟨g2,g3⟩
    all_goals
      go_enter Tryz.func43,Tryz.ntmps43
      go_wp2
      go_ret2
      exact ⟨none,0,rfl,z2E _ _,Below.refl _ _⟩
  · rw [e1,e2]
    have g1:¬ (4611686018427387904:Int)<(N:Int):=by omega
    have g2:¬ (T:Int)<(F:Int):=by omega
    have g3:¬ (N:Int)<(T:Int):=by omega
    have hmf:∀ (fn:Fn) (first cap:Array Value) (w:World),(Instr.makeFunc fn first cap).run Tryz.prog w=.ok (.func fn first cap) w:=fun _ _ _ _=>rfl
    obtain ⟨w1,ew1⟩:∃ w1,w.alloc (.cells #[.slice none 0 0] 81)=w1:=⟨_,rfl⟩
    have hb1:Below w.heap.size w w1:=by rw [← ew1];exact (Below.refl _ _).alloc (Nat.le_refl _) _
    have hv:Has w1 w.heap.size #[.slice none 0 0] 81:=by rw [← ew1];exact Has.new w _ _
    have cn:=zdx w.heap.size F T N hN hTN w1 hv.lt (hT.below h0 hb1) hv
    have HB:Aside (Below w.heap.size w w1):=hb1
    generalize SPP F T N=P at *
    clear hN hF hTN hT h0 e1 e2 hb1 hv
    go_enter Tryz.func43,Tryz.ntmps43
    go_wp2_with fail
    refine cn.mono ?_
    rintro e w2 ⟨wa,hba,rfl,ht⟩
    rw [List.nil_append] at ht
    obtain ⟨v,hv,hown⟩:=ht.row
    obtain ⟨a,c,rfl⟩:=z23 hown
    have c0:=hv.cell 0
    have FN:Aside (w2.ownsRow w.heap.size 24 1 (.slice a P.length c) P.length (z0h P)∧Below w.heap.size w w2):=⟨z0f hown (by have:=hba.size;have:=HB.out.size;omega),(HB.out.trans (hba.mono HB.out.size)).trans (ht.below.mono (by have:=hba.size;have:=HB.out.size;omega))⟩
    clear cn ht hv hown hba HB
    go_wp2_with fail
    go_ret2
    exact ⟨a,c,rfl,FN.out.1,FN.out.2⟩
end Go.Proofs.YthdpkaiieomdoaaGreatDoor

namespace Go.Proofs.YthdpkaiieomdoaaGreatDoor
open Go.RowKit
set_option maxRecDepth 100000
def RBOX (S F T:Nat) (a:Option Addr) (K c:Nat):Array Value:=#[.int .u64 (S:Int),.int .u64 (F:Int),.int .u64 (T:Int),.slice a K c]
def SWRT (S F D:Nat) (l:List Int):List Int:=83 :: (z0o S ++ z0o F ++ z0o D ++ l)
theorem z1g {x k:Nat} (h:k≤x) (hx:x<2 ^ 64):IntKind.u64.wrap ((x:Int) - (k:Int))=((x - k:Nat):Int):=by
  rw [z09];omega
set_option maxHeartbeats 2000000 in
theorem z95 (S F T:Nat) (hS:S<2 ^ 64) (hF:F<2 ^ 64) (hTT:T<2 ^ 64) (hFT:F≤T) (an:Option Addr) (K cn:Nat) (l:List Int) (w:World) (hK:K<2 ^ 20) (hN:Flat w an K l):
    Calls Tryz.prog 56 #[.agg (RBOX S F T an K cn)] w fun e w'=>∃ v,e=.returned v∧w'.ownsRow w.heap.size 5 1 v (SWRT S F (T - F) l).length (z00 (SWRT S F (T - F) l))∧Below w.heap.size w w':=by
  have c1:=z5i S hS
  have c2:=z5i F hF
  have c3:=z5i (T - F) (by omega)
  have hl1:=z0S S
  have hl2:=z0S F
  have hl3:=z0S (T - F)
  have h91:=z2G S
  have h92:=z2G F
  have h93:=z2G (T - F)
  have hr1:=z1r hS
  have hr2:=z1r hF
  have hr3:=z1r (X:=T - F) (by omega)
  have eg:=z1g hFT hTT
  have eL:SWRT S F (T - F) l=[83] ++ z0o S ++ z0o F ++ z0o (T - F) ++ l:=by unfold SWRT;simp
  obtain ⟨Z,hZ⟩:∃ Z,SWRT S F (T - F) l=Z:=⟨_,rfl⟩
  rw [hZ]
  obtain ⟨NZ,hNZ⟩:∃ N,Z.length=N:=⟨_,rfl⟩
  rw [hNZ]
  obtain ⟨D,hD⟩:∃ D,T - F=D:=⟨_,rfl⟩
  rw [hD] at c3 hl3 h93 hr3 eg eL
  have hn1:0<NTOP S+1:=by omega
  have hn2:0<NTOP F+1:=by omega
  have hn3:0<NTOP D+1:=by omega
  have hm1:NTOP S+1≤10:=by omega
  have hm2:NTOP F+1≤10:=by omega
  have hm3:NTOP D+1≤10:=by omega
  generalize hSX:z0o S=SX at *
  generalize hSY:z0o F=SY at *
  generalize hSD:z0o D=SD at *
  clear h91 h92 h93 hSX hSY hSD
  generalize NTOP S+1=nx at *
  generalize NTOP F+1=ny at *
  generalize NTOP D+1=nd at *
  have HA:Aside (Flat w an K l∧K<2 ^ 20∧nx≤10∧ny≤10∧nd≤10∧(∀ x∈SX,0≤x∧x≤255)∧(∀ x∈SY,0≤x∧x≤255)∧(∀ x∈SD,0≤x∧x≤255)):=⟨hN,hK,hm1,hm2,hm3,hr1,hr2,hr3⟩
  have HL:Aside ([83] ++ SX ++ SY ++ SD ++ l=Z∧Z.length=NZ):=⟨by rw [← hZ,hD,eL],hNZ⟩
  have EG:Aside (IntKind.u64.wrap ((T:Int) - (F:Int))=(D:Int)):=eg
  clear hN hK hm1 hm2 hm3 hr1 hr2 hr3 hZ hNZ eL hl1 hl2 hl3 hS hF hTT hFT hD eg
  obtain ⟨w0,hw0⟩:∃ w0,w.alloc (.cells (RBOX S F T an K cn) 28)=w0:=⟨_,rfl⟩
  have h1:Has w0 w.heap.size (RBOX S F T an K cn) 28:=by rw [← hw0];exact Has.new w _ _
  have hb0:Below w.heap.size w w0:=by rw [← hw0];exact (Below.refl _ _).alloc (Nat.le_refl _) _
  have hM:(RBOX S F T an K cn)=#[.int .u64 (S:Int),.int .u64 (F:Int),.int .u64 (T:Int),.slice an K cn]:=rfl
  have CC:Aside (∀ W,Below w0.heap.size w0 W→W.cell? ⟨w.heap.size,0,none⟩=some (.int .u64 (S:Int))∧W.cell? ⟨w.heap.size,1,none⟩=some (.int .u64 (F:Int))∧W.cell? ⟨w.heap.size,2,none⟩=some (.int .u64 (T:Int))∧W.cell? ⟨w.heap.size,3,none⟩=some (.slice an K cn)):=fun W hb=>⟨(h1.keep hb).cell 0,(h1.keep hb).cell 1,(h1.keep hb).cell 2,(h1.keep hb).cell 3⟩
  have B0:Aside (Below w.heap.size w w0):=hb0
  rw [hM] at hw0
  have R0:Aside ((w0.alloc (.cells #[.int .u8 83] 5)).ownsRow w0.heap.size 5 1 (.slice (some ⟨w0.heap.size,0,none⟩) 1 1) 1 (z00 [83])∧Below w0.heap.size w0 (w0.alloc (.cells #[.int .u8 83] 5))):=⟨z4E w0 83,(Below.refl _ _).alloc (Nat.le_refl _) _⟩
  have x0:=(CC.out _ R0.out.2).1
  clear h1 hb0
  go_enter Tryz.func56,Tryz.ntmps56
  rw [hM]
  go_wp2_with fail
  generalize w0.alloc (.cells #[.int .u8 83] 5)=w1 at *
  refine (c1 _).mono ?_
  rintro e w2 ⟨g,cap,rfl,hown,hg,hb⟩
  clear c1 x0 hw0
  have R1:Aside (w2.ownsRow w0.heap.size 5 1 (.slice (some ⟨w0.heap.size,0,none⟩) 1 1) 1 (z00 [83])∧Below w0.heap.size w0 w2∧Bytes w2 (some ⟨g,0,none⟩) nx SX):=⟨z0v R0.out.1 hb,R0.out.2.trans (hb.mono R0.out.2.size),z0X hown hg HA.out.2.2.2.2.2.1⟩
  clear hown hg hb R0
  go_wp2_with (first
    | (at_builtin;refine z0D _ rfl (.tmp 7) (.tmp 10) rfl w0.heap.size _ 1 [83] rfl R1.out.1 g 0 nx cap SX rfl R1.out.2.2 hn1 (by have:=HA.out.2.2.1;omega) R1.out.2.1.size ?_;intro g3 cap3 w3 hown hgrow hg
       have R2:Aside (w3.ownsRow w0.heap.size 5 1 (.slice (some ⟨g3,0,none⟩) (1+nx) cap3) (1+nx) (z00 ([83] ++ SX))∧Below w0.heap.size w0 w3):=⟨hown,R1.out.2.1.grown hgrow R1.out.2.1.size (fun k e=>(R1.out.1.lt k e).1)⟩
       have x1:=(CC.out _ R2.out.2).2.1
       clear hown hgrow hg R1))
  refine (c2 _).mono ?_
  rintro e w4 ⟨g4,cap4,rfl,hown,hg,hb⟩
  clear c2 x1
  have R3:Aside (w4.ownsRow w0.heap.size 5 1 (.slice (some ⟨g3,0,none⟩) (1+nx) cap3) (1+nx) (z00 ([83] ++ SX))∧Below w0.heap.size w0 w4∧Bytes w4 (some ⟨g4,0,none⟩) ny SY):=⟨z0v R2.out.1 hb,R2.out.2.trans (hb.mono R2.out.2.size),z0X hown hg HA.out.2.2.2.2.2.2.1⟩
  clear hown hg hb R2
  go_wp2_with (first
    | (at_builtin;refine z0D _ rfl (.tmp 12) (.tmp 15) rfl w0.heap.size _ (1+nx) ([83] ++ SX) rfl R3.out.1 g4 0 ny cap4 SY rfl R3.out.2.2 hn2 (by have:=HA.out;omega) R3.out.2.1.size ?_;intro g5 cap5 w5 hown hgrow hg
       have R4:Aside (w5.ownsRow w0.heap.size 5 1 (.slice (some ⟨g5,0,none⟩) (1+nx+ny) cap5) (1+nx+ny) (z00 ([83] ++ SX ++ SY))∧Below w0.heap.size w0 w5):=⟨hown,R3.out.2.1.grown hgrow R3.out.2.1.size (fun k e=>(R3.out.1.lt k e).1)⟩
       have x1:=(CC.out _ R4.out.2).2.1
       have x2:=(CC.out _ R4.out.2).2.2.1
       have eg:=EG.out
       clear hown hgrow hg R3))
  refine (c3 _).mono ?_
  rintro e w6 ⟨g6,cap6,rfl,hown,hg,hb⟩
  clear c3 x1 x2 eg
  have R5:Aside (w6.ownsRow w0.heap.size 5 1 (.slice (some ⟨g5,0,none⟩) (1+nx+ny) cap5) (1+nx+ny) (z00 ([83] ++ SX ++ SY))∧Below w0.heap.size w0 w6∧Bytes w6 (some ⟨g6,0,none⟩) nd SD):=⟨z0v R4.out.1 hb,R4.out.2.trans (hb.mono R4.out.2.size),z0X hown hg HA.out.2.2.2.2.2.2.2⟩
  clear hown hg hb R4
  go_wp2_with (first
    | (at_builtin;refine z0D _ rfl (.tmp 17) (.tmp 23) rfl w0.heap.size _ (1+nx+ny) ([83] ++ SX ++ SY) rfl R5.out.1 g6 0 nd cap6 SD rfl R5.out.2.2 hn3 (by have:=HA.out;omega) R5.out.2.1.size ?_;intro g7 cap7 w7 hown hgrow hg
       have R6:Aside (w7.ownsRow w0.heap.size 5 1 (.slice (some ⟨g7,0,none⟩) (1+nx+ny+nd) cap7) (1+nx+ny+nd) (z00 ([83] ++ SX ++ SY ++ SD))∧Below w0.heap.size w0 w7):=⟨hown,R5.out.2.1.grown hgrow R5.out.2.1.size (fun k e=>(R5.out.1.lt k e).1)⟩
       have x3:=(CC.out _ R6.out.2).2.2.2
       clear hown hgrow hg R5))
  clear x3
  have HP:Aside (1+nx+ny+nd≤31):=by
    obtain ⟨_,_,h4,h5,h6,_⟩:=HA.out
    show 1+nx+ny+nd≤31
    omega
  generalize [83] ++ SX ++ SY ++ SD=PRE at *
  generalize 1+nx+ny+nd=np at *
  go_loopg [3,28] K (fun q s3 s28 wx=>∃ i:Nat,s28=.int .i64 (i:Int)∧Aside (i+q=K∧wx.ownsRow w0.heap.size 5 1 s3 (np+32*i) (z00 (PRE ++ l.take (32*i)))∧Below w0.heap.size w0 wx))
  case atStart=>exact ⟨0,rfl,by omega,by simpa using R6.out.1,R6.out.2⟩
  case round=>
    obtain ⟨i,rfl,A⟩:=hrel
    clear R6
    cases gk with
    | zero=>
      obtain ⟨hi,hown,hbel⟩:=A.out
      obtain rfl:i=K:=by omega
      have hlt:¬ (i:Int)<(i:Int):=by omega
      have R:Aside (wr.ownsRow w.heap.size 5 1 u3 NZ (z00 Z)∧Below w.heap.size w wr):=by
        rw [List.take_of_length_le (by have:=HA.out.1.1;omega),HL.out.1] at hown
        have:=z9y hown
        rw [HL.out.2] at this
        rw [← this] at hown
        exact ⟨z0f hown B0.out.size,B0.out.trans (hbel.mono B0.out.size)⟩
      clear hi hown hbel A HA HL HP CC B0
      go_wp2
      go_ret
      exact ⟨_,rfl,R.out.1,R.out.2⟩
    | succ q=>
      obtain ⟨hi,hown,hbel⟩:=A.out
      obtain ⟨a1,a2,_⟩:=HA.out
      have hlt:(i:Int)<(K:Int):=by omega
      have hbw:Below w.heap.size w wr:=B0.out.trans (hbel.mono B0.out.size)
      obtain ⟨b,o,rfl,hbl,hc⟩:=a1.2.1 (by omega)
      have hat:=(a1.below hbw).at (show i<K by omega)
      have h32:=z0y a1.1 (show i<K by omega)
      have hrr:∀ x∈HSH l i,0≤x∧x≤255:=fun x hx=>a1.2.2 x (z9x hx)
      have hnx:=z2T l i
      have e1:wrap64 ((i:Int)+1)=((i+1:Nat):Int):=by unfold wrap64;omega
      have R:Aside (i+1+q=K∧K<2 ^ 20∧np≤31∧wr.ownsRow w0.heap.size 5 1 u3 (np+32*i) (z00 (PRE ++ l.take (32*i)))∧Below w0.heap.size w0 wr∧(HSH l i).length=32∧(∀ x∈HSH l i,0≤x∧x≤255)∧PRE ++ l.take (32*(i+1))=PRE ++ l.take (32*i) ++ HSH l i):=⟨by omega,a2,HP.out,hown,hbel,h32,hrr,by rw [hnx,List.append_assoc]⟩
      generalize HSH l i=H at *
      clear hi hown hbel a1 a2 hbl hc hrr hnx A HA HL HP hbw CC B0
      go_wp2_with (first
        | (refine wpList_load_mid rfl 23 (.tmp 30) rfl b (o+i*32) rfl (z00 H) _ hat Tryz.underlying23 rfl (z0j h32) ?_)
        | (refine wpList_store_row rfl 23 (.tmp 5) (.tmp 31) rfl _ _ rfl rfl 23 _ (Has.new wr _ _) (z03 h32) (by simp [z00,h32]) (z0i H) ?_;rw [World.setRow_alloc_new])
        | (at_builtin;refine z0D _ rfl (.tmp 32) (.tmp 33) rfl w0.heap.size u3 (np+32*i) _ rfl (R.out.2.2.2.1.alloc _) wr.heap.size 0 32 32 H rfl (zbo wr R.out.2.2.2.2.2.1 R.out.2.2.2.2.2.2.1 _) (by omega) (by have:=R.out;omega) (by have:=R.out.2.2.2.2.1.size;simp;omega) ?_;intro g8 cap8 w8 hown hgrow hg))
      have R2:Aside (i+1+q=K∧w8.ownsRow w0.heap.size 5 1 (.slice (some ⟨g8,0,none⟩) (np+32*i+32) cap8) (np+32*(i+1)) (z00 (PRE ++ l.take (32*(i+1))))∧Below w0.heap.size w0 w8):=by
        obtain ⟨r1,r2,r3,r4,r5,r6,r7,r8⟩:=R.out
        refine ⟨r1,?_,(r5.alloc r5.size _).grown hgrow (by have:=r5.size;simp;omega) (fun k e=>(r4.lt k e).1)⟩
        rw [r8,show np+32*(i+1)=np+32*i+32 by omega]
        exact hown
      clear hown hgrow hg R hat h32
      go_wp2
      go_roundg q
      case measure=>omega
      case rel=>exact ⟨i+1,by first | rfl | (rw [e1]),R2.out⟩
def SWA (S F T K:Nat):Int:=if SPE F T S=0 then (if K=(SPP F T S).length then 0 else 70) else SPE F T S
set_option maxHeartbeats 1000000 in
theorem z6R (S F T:Nat) (an:Option Addr) (K cn:Nat) (w:World) (hT:Tabled w) (h0:0<w.heap.size):Calls Tryz.prog 41 #[.agg (RBOX S F T an K cn)] w fun e w'=>e=.returned (.int .i64 (SWA S F T K))∧Below w.heap.size w w':=by
  obtain ⟨w1,e1⟩:∃ w1,w.alloc (.cells (RBOX S F T an K cn) 28)=w1:=⟨_,rfl⟩
  have hb1:Below w.heap.size w w1:=by rw [← e1];exact (Below.refl _ _).alloc (Nat.le_refl _) _
  have hH:Has w1 w.heap.size (RBOX S F T an K cn) 28:=by rw [← e1];exact Has.new w _ _
  have cp:=z2w F T S w1 (hT.below h0 hb1) (by have:=hb1.size;omega)
  have hM:(RBOX S F T an K cn)=#[.int .u64 (S:Int),.int .u64 (F:Int),.int .u64 (T:Int),.slice an K cn]:=rfl
  have x0:w1.cell? ⟨w.heap.size,0,none⟩=some (.int .u64 (S:Int)):=hH.cell 0
  have x1:w1.cell? ⟨w.heap.size,1,none⟩=some (.int .u64 (F:Int)):=hH.cell 1
  have x2:w1.cell? ⟨w.heap.size,2,none⟩=some (.int .u64 (T:Int)):=hH.cell 2
  have CC:Aside (∀ W,Below w1.heap.size w1 W→Below w.heap.size w W∧W.cell? ⟨w.heap.size,3,none⟩=some (.slice an K cn)):=fun W hb=>⟨hb1.trans (hb.mono hb1.size),(hH.keep hb).cell 3⟩
  rw [hM] at e1
  obtain ⟨E,hE⟩:∃ E,SPE F T S=E:=⟨_,rfl⟩
  have HE:Aside (E=0→SPA F T S=SPP F T S):=fun h=>by unfold SPA;rw [if_pos (by rw [hE,h])]
  obtain ⟨P,hP⟩:∃ P,SPA F T S=P:=⟨_,rfl⟩
  obtain ⟨m,hm⟩:∃ m,P.length=m:=⟨_,rfl⟩
  have HR0:SWA S F T K=if E=0 then (if K=m then 0 else 70) else E:=by
    unfold SWA
    rw [hE]
    by_cases h:E=0
    · rw [if_pos h,if_pos h,← HE.out h,hP,hm]
    · rw [if_neg h,if_neg h]
  have HR:Aside (SWA S F T K=if E=0 then (if K=m then 0 else 70) else E):=HR0
  clear HR0
  obtain ⟨A,hA⟩:∃ A,SWA S F T K=A:=⟨_,rfl⟩
  rw [hE,hP] at cp
  rw [hA] at HR ⊢
  unfold z2r at cp
  rw [hm] at cp
  clear hE HE hP hm hA hb1 hH hT h0
  go_enter Tryz.func41,Tryz.ntmps41
  rw [hM]
  go_wp2_with fail
  refine cp.mono ?_
  rintro e w2 ⟨a2,c2,rfl,hown,hb⟩
  obtain ⟨hbw,x3⟩:=CC.out w2 hb
  have FN:Aside (Below w.heap.size w w2):=hbw
  clear cp hown hb hbw e1 CC x0 x1 x2
  by_cases hE:E=0
  · subst hE
    by_cases hk:K=m
    · subst hk
      have hA:0=A:=by have:=HR.out;simpa using this.symm
      have HAA:Aside ((0:Int)=A):=hA
      clear hA HR
      go_wp2
      go_ret
      exact ⟨by first | rfl | (rw [HAA.out];rfl) | (rw [← HAA.out];rfl),FN.out⟩
    · have hne:¬ (K:Int)=(m:Int):=by omega
      have hA:(70:Int)=A:=by have:=HR.out;simpa [hk] using this.symm
      have HAA:Aside ((70:Int)=A):=hA
      clear hA
      clear hk HR
      go_wp2
      go_ret
      exact ⟨by first | rfl | (rw [HAA.out];rfl) | (rw [← HAA.out];rfl),FN.out⟩
  · have hne:(E == 0)=false:=beq_eq_false_iff_ne.2 hE
    have hA:E=A:=by have:=HR.out;simpa [hE] using this.symm
    have HAA:Aside (E=A):=hA
    clear hA
    clear HR
    go_wp2
    go_ret
    exact ⟨by first | rfl | (rw [HAA.out];rfl) | (rw [← HAA.out];rfl),FN.out⟩
def SENC (S F T K:Nat) (l:List Int):Int × List Int:=if SWA S F T K=0 then (0,SWRT S F (T - F) l) else (SWA S F T K,[])
def z8h (w:World) (A:Int × List Int) (e:Ending) (w':World):Prop:=∃ a c,e=.returned (.tuple #[.slice a A.2.length c,.int .i64 A.1])∧w'.ownsRow w.heap.size 5 1 (.slice a A.2.length c) A.2.length (z00 A.2)∧Below w.heap.size w w'
theorem z2s {S F T K:Nat} (h:SWA S F T K=0):S≤4611686018427387904∧F≤T∧T≤S∧K=(SPP F T S).length:=by
  unfold SWA at h
  rcases z3b F T S with ⟨e,_⟩ | ⟨e,_⟩ | ⟨e,_,h1,h2,h3⟩
  · rw [e] at h;simp at h
  · rw [e] at h;simp at h
  · rw [e] at h
    refine ⟨h1,h2,h3,?_⟩
    by_cases hk:K=(SPP F T S).length
    · exact hk
    · rw [if_pos rfl,if_neg hk] at h;cases h
theorem z4t (w:World) (B:Nat):w.ownsRow B 5 1 (.slice none ([]:List Int).length 0) ([]:List Int).length (z00 []):=⟨rfl,.inl ⟨rfl,rfl⟩⟩
theorem z8i {w:World} {B s n:Nat} {t:TypeId} {v:Value} {xs:List Value} (h:w.ownsRow B t s v n xs):∃ a c,v=.slice a n c:=by
  rcases h.2 with ⟨e,h0⟩ | ⟨g,cap,cur,e,_⟩
  · exact ⟨none,0,by rw [e,h0]⟩
  · exact ⟨_,_,e⟩
set_option maxHeartbeats 1000000 in
theorem z74 (S F T:Nat) (an:Option Addr) (K cn:Nat) (l:List Int) (w:World) (hK:K<2 ^ 20) (hN:Flat w an K l) (hT:Tabled w) (h0:0<w.heap.size):Calls Tryz.prog 27 #[.agg (RBOX S F T an K cn)] w (z8h w (SENC S F T K l)):=by
  obtain ⟨w1,e1⟩:∃ w1,w.alloc (.cells (RBOX S F T an K cn) 28)=w1:=⟨_,rfl⟩
  have hb1:Below w.heap.size w w1:=by rw [← e1];exact (Below.refl _ _).alloc (Nat.le_refl _) _
  have hH:Has w1 w.heap.size (RBOX S F T an K cn) 28:=by rw [← e1];exact Has.new w _ _
  have cw:=z6R S F T an K cn w1 (hT.below h0 hb1) (by have:=hb1.size;omega)
  have hM:(RBOX S F T an K cn)=#[.int .u64 (S:Int),.int .u64 (F:Int),.int .u64 (T:Int),.slice an K cn]:=rfl
  have CC:Aside (∀ W,Below w1.heap.size w1 W→Below w.heap.size w W∧W.cell? ⟨w.heap.size,0,none⟩=some (.int .u64 (S:Int))∧W.cell? ⟨w.heap.size,1,none⟩=some (.int .u64 (F:Int))∧W.cell? ⟨w.heap.size,2,none⟩=some (.int .u64 (T:Int))∧W.cell? ⟨w.heap.size,3,none⟩=some (.slice an K cn)):=fun W hb=>⟨hb1.trans (hb.mono hb1.size),(hH.keep hb).cell 0,(hH.keep hb).cell 1,(hH.keep hb).cell 2,(hH.keep hb).cell 3⟩
  have CW:Aside (SWA S F T K=0→∀ W,Below w.heap.size w W→Calls Tryz.prog 56 #[.agg #[.int .u64 (S:Int),.int .u64 (F:Int),.int .u64 (T:Int),.slice an K cn]] W fun e w'=>∃ v,e=.returned v∧w'.ownsRow W.heap.size 5 1 v (SWRT S F (T - F) l).length (z00 (SWRT S F (T - F) l))∧Below W.heap.size W w'):=fun h W hb=>by
    obtain ⟨q1,q2,q3,_⟩:=z2s h
    exact z95 S F T (by omega) (by omega) (by omega) q2 an K cn l W hK (hN.below hb)
  obtain ⟨x0,x1,x2,x3⟩:=(CC.out w1 (Below.refl _ _)).2
  have HR:Aside (SENC S F T K l=if SWA S F T K=0 then (0,SWRT S F (T - F) l) else (SWA S F T K,[])):=rfl
  rw [hM] at e1 cw
  generalize SENC S F T K l=A at *
  generalize SWA S F T K=E at *
  generalize SWRT S F (T - F) l=Z at *
  obtain ⟨nz,hnz⟩:∃ n,Z.length=n:=⟨_,rfl⟩
  have HZ:Aside (Z.length=nz):=hnz
  rw [hnz] at CW
  clear hb1 hH hT h0 hN hK hnz
  go_enter Tryz.func27,Tryz.ntmps27
  rw [hM]
  go_wp2_with fail
  refine cw.mono ?_
  rintro e w2 ⟨rfl,hb⟩
  clear cw x0 x1 x2 x3 e1
  obtain ⟨hbw,x0,x1,x2,x3⟩:=CC.out w2 hb
  have FN:Aside (Below w.heap.size w w2):=hbw
  clear hb hbw CC
  by_cases hE:E=0
  · subst hE
    have c2:=CW.out rfl w2 FN.out
    have HA:Aside (A=(0,Z)):=HR.out.trans (if_pos rfl)
    clear HR CW
    go_wp2_with fail
    refine c2.mono ?_
    rintro e w3 ⟨v,rfl,hown,hb⟩
    obtain ⟨a,c,rfl⟩:=z8i hown
    have R:Aside (w3.ownsRow w.heap.size 5 1 (.slice a nz c) nz (z00 Z)∧Below w.heap.size w w3):=⟨z0f hown FN.out.size,FN.out.trans (hb.mono FN.out.size)⟩
    clear c2 hown hb FN x0 x1 x2 x3
    go_wp2_with fail
    go_ret2
    rw [HA.out]
    exact ⟨a,c,by show _=Ending.returned (.tuple #[.slice a Z.length c,.int .i64 0]);rw [HZ.out];rfl,by show w3.ownsRow w.heap.size 5 1 (.slice a Z.length c) Z.length (z00 Z);rw [HZ.out];exact R.out.1,R.out.2⟩
  · have hne:(E != 0)=true:=by simp [hE]
    have HA:Aside (A=(E,[])):=HR.out.trans (if_neg hE)
    clear HR CW hE
    go_wp2_with fail
    go_ret2
    rw [HA.out]
    exact ⟨none,0,rfl,z4t _ _,FN.out⟩
end Go.Proofs.YthdpkaiieomdoaaGreatDoor
