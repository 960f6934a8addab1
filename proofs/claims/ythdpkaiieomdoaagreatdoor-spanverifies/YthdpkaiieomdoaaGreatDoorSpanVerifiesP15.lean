/- Texts of SpanVerifies, one behind the other: HashRefStep. -/
import Derived.Deep.RegionLaw
import Derived.Test.YthdpkaiieomdoaaGreatDoorSpanVerifiesP14
namespace Go.Proofs.YthdpkaiieomdoaaGreatDoor.HX
open Go.RowKit
theorem z8M (b:Nat) (w:World):(Instr.sliceAt 23 (.pointer (some ⟨b,0,none⟩)) none none none).run Tryz.prog w=.ok (.slice (some ⟨b,0,none⟩) 32 32) w:=by
  have hn:Tryz.prog.arrayLen 23=32:=by kernel_rfl
  rw [run_sliceAt_array_all w 23 ⟨b,0,none⟩ (by kernel_rfl),hn]
  have he:Tryz.prog.elem 23=5:=by kernel_rfl
  obtain ⟨i8,hi,h8⟩:=Option.map_eq_some_iff.1 z0I
  simp only [Prod.mk.injEq] at h8
  rw [he]
  simp [sizeOf,typeInfo,hi,h8.2.1,slicedAt,Addr.add]
theorem z8N (b:Nat) (w:World):(Instr.sliceAt 147 (.pointer (some ⟨b,0,none⟩)) none none none).run Tryz.prog w=.ok (.slice (some ⟨b,0,none⟩) 64 64) w:=by
  have hn:Tryz.prog.arrayLen 147=64:=by kernel_rfl
  rw [run_sliceAt_array_all w 147 ⟨b,0,none⟩ (by kernel_rfl),hn]
  have he:Tryz.prog.elem 147=5:=by kernel_rfl
  obtain ⟨i8,hi,h8⟩:=Option.map_eq_some_iff.1 z0I
  simp only [Prod.mk.injEq] at h8
  rw [he]
  simp [sizeOf,typeInfo,hi,h8.2.1,slicedAt,Addr.add]
def ML (b:Nat→Nat) (k:Nat):List Nat:=(List.range (16+k)).map (SCHL b k)
theorem z2p (b:Nat→Nat) (k:Nat):(ML b k).length=16+k:=by simp [ML]
theorem z4j (b:Nat→Nat) (k i:Nat) (h:i<16+k):(ML b k).getD i 0=SCHL b k i:=by simp [ML,h,List.getD_eq_getElem?_getD]
theorem zeq (b:Nat→Nat):ML b 0=WL b 16:=by
  unfold ML WL
  apply List.map_congr_left
  intro i hi
  rw [SCHL,if_pos (by simpa using hi)]
theorem zer (b:Nat→Nat) (k:Nat):ML b (k+1)=ML b k ++ [SCHL b (k+1) (16+k)]:=by
  unfold ML
  rw [show 16+(k+1)=16+k+1 by omega,List.range_succ,List.map_append]
  congr 1
  apply List.map_congr_left
  intro i hi
  have hi:i<16+k:=by simpa using hi
  exact z5F b k 1 i hi
theorem zfg (h m1 m2 m5 m6:Nat):(IntKind.u64.wrap (IntKind.u64.wrap (IntKind.u64.wrap (IntKind.u64.wrap ((h:Int)+(m1:Int))+(m2:Int))+(m5:Int))+(m6:Int))).tmod 4294967296=(((h+m1+m2+m5+m6) % 4294967296:Nat):Int):=by
  rw [Int.tmod_eq_emod_of_nonneg (by rw [z09];omega)]
  simp only [z09]
  omega
theorem z5P (x y:Nat):(IntKind.u64.wrap ((x:Int)+(y:Int))).tmod 4294967296=(((x+y) % 4294967296:Nat):Int):=by
  rw [Int.tmod_eq_emod_of_nonneg (by rw [z09];omega),z09]
  omega
theorem arr8 (a b c d e f g h:Nat):(#[.int .u64 (a:Int),.int .u64 (b:Int),.int .u64 (c:Int),.int .u64 (d:Int),.int .u64 (e:Int),.int .u64 (f:Int),.int .u64 (g:Int),.int .u64 (h:Int)]:Array Value)=UARR .u64 8 (ST.at {a:=a,b:=b,c:=c,d:=d,e:=e,f:=f,g:=g,h:=h}):=rfl
theorem z9r {ops:Array Oper} {rest:List Oper} {o:Oper} {a:Act} {Q:Exit→Act→World→Prop} (w:World) (hgd:o.guard=none) (s x:Operand)
    (ho:o.op=.call {callee:=.builtin .append,args:=#[s,x],argTypes:=#[81,81]})
    (base:Nat) (v:Value) (hs:a.eval s=v) (hown:w.ownsRow base 24 1 v 0 [])
    (b m c:Nat) (l:List Nat) (hx:a.eval x=.slice (some ⟨b,0,none⟩) m c) (hl:l.length=m) (hc:∀ i,i<m→w.cell? ⟨b,i,none⟩=some (.int .u64 (l.getD i 0:Nat))) (hm:0<m) (hb:m≤1000) (hbase:base≤w.heap.size)
    (h:∀ g cap w',w'.ownsRow base 24 1 (.slice (some ⟨g,0,none⟩) m cap) m (z0w l)→w.grownBy w' v.ownBlock→g<w'.heap.size→wpList Tryz.prog ops Q rest (a.put o.dst (.slice (some ⟨g,0,none⟩) m cap)) w'):wpList Tryz.prog ops Q (o :: rest) a w:=by
  obtain ⟨i,hi,hz,hs1,hby⟩:=z1w
  refine wpList_append_lies w hgd s x 81 ho base 24 i (.int .u64 0) 1 8 Tryz.underlying81 hi hz hs1 hby rfl (by decide) v 0 [] hs hown ⟨b,0,none⟩ m c (z0w l) hx (by simp [z0w,hl]) ?_ (fun u hu=>by simp [z0w] at hu;obtain ⟨y,_,rfl⟩:=hu;rfl) hm (by simp only [maxLen];omega) (by omega) hbase w.heap.size rfl ?_
  · intro j u hj
    have hjl:j<l.length:=by
      have:=(List.getElem?_eq_some_iff.1 hj).1
      simpa [z0w] using this
    rw [z19 l j hjl] at hj
    rw [z0H,Nat.zero_add,hc j (by omega)]
    exact hj
  · intro g cap w' h1 h2 _ h4
    rw [List.nil_append,Nat.zero_add] at h1
    rw [Nat.zero_add]
    exact h g cap w' h1 h2 h4
set_option maxRecDepth 100000 in
set_option maxHeartbeats 2000000 in
theorem z6e (d : Int) (s b:Nat→Nat) (hs:∀ i,s i<256) (hb:∀ i,b i<256) (w:World):Calls Tryz.prog 90 #[.int .i64 d,.agg (UARR .u8 32 s),.agg (UARR .u8 64 b)] w fun e w'=>e=.returned (.agg (UARR .u8 32 (COMP d s b)))∧Below w.heap.size w w':=by
  have hz:=z0T
  have ct:=zde
  have hs32:=z8M
  have hs64:=z8N
  have H:Aside ((∀ i,s i<256)∧(∀ i,b i<256)):=⟨hs,hb⟩
  clear hs hb
  go_enter Tryz.func90,Tryz.ntmps90
  go_wp2_with fail
  refine (ct _).mono ?_
  rintro e w1 ⟨rfl,rfl⟩
  clear ct
  have hB1:Below w.heap.size w ((((w.alloc (.cells (UARR .u8 32 s) 23)).alloc (.cells (UARR .u8 64 b) 147)).alloc (.cells (UARR .u8 32 fun _=>0) 23)).alloc (.cells (UARR .u64 64 KC) 24)):=((((Below.refl _ _).alloc (Nat.le_refl _) _).alloc (by simp) _).alloc (by simp;omega) _).alloc (by simp;omega) _
  have K0:Has ((((w.alloc (.cells (UARR .u8 32 s) 23)).alloc (.cells (UARR .u8 64 b) 147)).alloc (.cells (UARR .u8 32 fun _=>0) 23)).alloc (.cells (UARR .u64 64 KC) 24)) w.heap.size (UARR .u8 32 s) 23:=(((Has.new w _ _).alloc _).alloc _).alloc _
  have K1:Has ((((w.alloc (.cells (UARR .u8 32 s) 23)).alloc (.cells (UARR .u8 64 b) 147)).alloc (.cells (UARR .u8 32 fun _=>0) 23)).alloc (.cells (UARR .u64 64 KC) 24)) (w.heap.size+1) (UARR .u8 64 b) 147:=((Has.at _ _ _ (by simp)).alloc _).alloc _
  have K2:Has ((((w.alloc (.cells (UARR .u8 32 s) 23)).alloc (.cells (UARR .u8 64 b) 147)).alloc (.cells (UARR .u8 32 fun _=>0) 23)).alloc (.cells (UARR .u64 64 KC) 24)) (w.heap.size+2) (UARR .u8 32 fun _=>0) 23:=(Has.at _ _ _ (by simp)).alloc _
  have K3:Has ((((w.alloc (.cells (UARR .u8 32 s) 23)).alloc (.cells (UARR .u8 64 b) 147)).alloc (.cells (UARR .u8 32 fun _=>0) 23)).alloc (.cells (UARR .u64 64 KC) 24)) (w.heap.size+3) (UARR .u64 64 KC) 24:=Has.at _ _ _ (by simp)
  have S1:((((w.alloc (.cells (UARR .u8 32 s) 23)).alloc (.cells (UARR .u8 64 b) 147)).alloc (.cells (UARR .u8 32 fun _=>0) 23)).alloc (.cells (UARR .u64 64 KC) 24)).heap.size=w.heap.size+4:=by simp
  have hgk:(((w.alloc (.cells (UARR .u8 32 s) 23)).alloc (.cells (UARR .u8 64 b) 147)).alloc (.cells (UARR .u8 32 fun _=>0) 23)).heap.size=w.heap.size+3:=by simp
  rw [hgk]
  have R1:Aside (_∧_∧_∧_∧_∧_):=⟨hB1,K0,K1,K2,K3,S1⟩
  generalize (((w.alloc (.cells (UARR .u8 32 s) 23)).alloc (.cells (UARR .u8 64 b) 147)).alloc (.cells (UARR .u8 32 fun _=>0) 23)).alloc (.cells (UARR .u64 64 KC) 24)=w1 at *
  clear hB1 K0 K1 K2 K3 S1 hgk hz
  have cw:=z54 (w.heap.size+1) 64 64 16 b H.out.2 w1 rfl (by decide) (by decide) R1.out.2.2.1.lt (fun i hi=>by rw [R1.out.2.2.1.cell,z07 _ _ _ _ hi])
  go_wp2_with fail
  refine cw.mono ?_
  rintro e w2 ⟨gm,cm,rfl,hown,hgm,hb2⟩
  clear cw
  rw [← zeq] at hown
  have R2:Aside (w2.ownsRow w1.heap.size 24 1 (.slice (some ⟨gm,0,none⟩) 16 cm) 16 (z0w (ML b 0))∧Below w1.heap.size w1 w2):=⟨hown,hb2⟩
  clear hown hgm hb2
  go_wp2
  go_loopg [8,9] 48 (fun r s8 s9 wx=>∃ (k T:Nat),k+r=48∧s9=.int .i64 (T:Int)∧Aside (T=16+k∧wx.ownsRow w1.heap.size 24 1 s8 (16+k) (z0w (ML b k))∧Below w1.heap.size w1 wx))
  case atStart=>exact ⟨0,16,by omega,rfl,rfl,R2.out.1,R2.out.2⟩
  case round=>
    obtain ⟨k,T,hkr,rfl,A⟩:=hrel
    obtain ⟨hT,hown,hbel⟩:=A.out
    obtain ⟨g,cap,hv,hg1,hg2⟩:=hown.form (by omega)
    subst hv
    clear A R2
    cases gk with
    | zero=>
      obtain rfl:k=48:=by omega
      obtain rfl:T=64:=hT
      have hk0:Has wr w.heap.size (UARR .u8 32 s) 23:=R1.out.2.1.keep hbel
      have hk2:Has wr (w.heap.size+2) (UARR .u8 32 fun _=>0) 23:=R1.out.2.2.2.1.keep hbel
      have hk3:Has wr (w.heap.size+3) (UARR .u64 64 KC) 24:=R1.out.2.2.2.2.1.keep hbel
      have cw:=z54 w.heap.size 32 32 8 s H.out.1 wr rfl (by decide) (by decide) hk0.lt (fun i hi=>by rw [hk0.cell,z07 _ _ _ _ hi])
      have hcm:∀ i,i<64→wr.cell? ⟨g,i,none⟩=some (.int .u64 (SCH b i:Nat)):=fun i hi=>by rw [hown.cellAt i (by omega),z19 _ _ (by rw [z2p];omega),z4j _ _ _ (by omega)];rfl
      have R4:Aside (Below w.heap.size w wr∧Has wr (w.heap.size+2) (UARR .u8 32 fun _=>0) 23∧(∀ i,i<64→wr.cell? ⟨w.heap.size+3,i,none⟩=some (.int .u64 (KC i:Nat)))∧(∀ i,i<64→wr.cell? ⟨g,i,none⟩=some (.int .u64 (SCH b i:Nat)))∧g<wr.heap.size∧w.heap.size+3<wr.heap.size):=⟨R1.out.1.trans (hbel.mono R1.out.1.size),hk2,fun i hi=>by rw [hk3.cell,z07 _ _ _ _ hi],hcm,hg2,hk3.lt⟩
      clear hk0 hk2 hk3 hcm hown hbel hg1 hg2 hkr R1
      go_wp2_with fail
      refine cw.mono ?_
      rintro e w3 ⟨gv,cv,rfl,hownv,hgv,hb3⟩
      clear cw
      have R5:Aside (Below w.heap.size w w3∧Has w3 (w.heap.size+2) (UARR .u8 32 fun _=>0) 23∧(∀ i,i<64→w3.cell? ⟨w.heap.size+3,i,none⟩=some (.int .u64 (KC i:Nat)))∧(∀ i,i<64→w3.cell? ⟨g,i,none⟩=some (.int .u64 (SCH b i:Nat)))∧(∀ i,i<8→w3.cell? ⟨gv,i,none⟩=some (.int .u64 (z05 s (4*i):Nat)))∧g<w3.heap.size∧gv<w3.heap.size∧w.heap.size+3<w3.heap.size):=
        ⟨R4.out.1.trans (hb3.mono R4.out.1.size),R4.out.2.1.keep hb3,fun i hi=>(hb3.cell (by exact R4.out.2.2.2.2.2)).trans (R4.out.2.2.1 i hi),fun i hi=>(hb3.cell (by exact R4.out.2.2.2.2.1)).trans (R4.out.2.2.2.1 i hi),fun i hi=>by rw [hownv.cellAt i (by omega),z19 _ _ (by rw [z4i];exact hi),z7S _ _ _ hi],Nat.lt_of_lt_of_le R4.out.2.2.2.2.1 hb3.size,hgv,Nat.lt_of_lt_of_le R4.out.2.2.2.2.2 hb3.size⟩
      clear R4 hownv hgv hb3
      have E1:Below w3.heap.size w3 (w3.alloc (.cells #[] 24)):=(Below.refl _ _).alloc (Nat.le_refl _) _
      have HE:Aside ((w3.alloc (.cells #[] 24)).ownsRow w3.heap.size 24 1 (.slice (some ⟨w3.heap.size,0,none⟩) 0 0) 0 []∧∀ i,i<8→(w3.alloc (.cells #[] 24)).cell? ⟨gv,i,none⟩=some (.int .u64 ((WL s 8).getD i 0:Nat))):=⟨World.ownsRow_lit w3 #[] 0 (Nat.le_refl _) (by simp [maxLen]) rfl,fun i hi=>by rw [z7S _ _ _ hi];exact (E1.cell (by exact R5.out.2.2.2.2.2.2.1)).trans (R5.out.2.2.2.2.1 i hi)⟩
      clear E1
      go_wp2_with (at_builtin;refine z9r _ rfl (.tmp 89) (.tmp 90) rfl w3.heap.size _ rfl HE.out.1 gv 8 cv (WL s 8) rfl (z4i _ _) HE.out.2 (by decide) (by decide) (by simp) ?_;intro gs cs w4 hown4 hgrow4 hg4)
      have hb4:Below w3.heap.size w3 w4:=((Below.refl _ _).alloc (Nat.le_refl _) _).grown hgrow4 (by simp) (fun k e=>by have e2:(Value.slice (some ⟨w3.heap.size,0,none⟩) 0 0).ownBlock=some k:=e;have e3:w3.heap.size=k:=(by simpa [Value.ownBlock] using e2);omega)
      have hc4:∀ i,i<8→w4.cell? ⟨gs,i,none⟩=some (.int .u64 ((STOF s).at i:Nat)):=fun i hi=>by
        rw [hown4.cellAt i (by omega),z19 _ _ (by rw [z4i];exact hi),z7S _ _ _ hi]
        have e:i=0∨i=1∨i=2∨i=3∨i=4∨i=5∨i=6∨i=7:=by omega
        rcases e with rfl | rfl | rfl | rfl | rfl | rfl | rfl | rfl <;> rfl
      have R6:Aside (Below w3.heap.size w3 w4∧(∀ i,i<8→w4.cell? ⟨gs,i,none⟩=some (.int .u64 ((STOF s).at i:Nat)))∧gs<w4.heap.size):=⟨hb4,hc4,hg4⟩
      clear hb4 hc4 hg4 hown4 hgrow4 HE
      go_wp2_with fail
      go_loopg [13,14] 64 (fun r s13 s14 wx=>∃ (t gx cx:Nat),t+r=64∧s14=.int .i64 (t:Int)∧s13=.slice (some ⟨gx,0,none⟩) 8 cx∧Aside (Below w3.heap.size w3 wx∧(∀ i,i<8→wx.cell? ⟨gx,i,none⟩=some (.int .u64 ((RUN (SCH b) (STOF s) t).at i:Nat)))∧gx<wx.heap.size))
      case atStart=>exact ⟨0,gs,cs,by omega,rfl,rfl,R6.out.1,R6.out.2.1,R6.out.2.2⟩
      case round=>
        obtain ⟨t,gx,cx,htr,rfl,rfl,A⟩:=hrel
        cases gk with
        | zero=>
          obtain rfl:t=64:=by omega
          generalize wr=wo at *
          obtain ⟨hbx,hcx,hgx⟩:=A.out
          obtain ⟨r1,r2,r3,r4,r5,r6,r7,r8⟩:=R5.out
          have X:Aside (Below w.heap.size w wo∧Has wo (w.heap.size+2) (UARR .u8 32 fun _=>0) 23∧(∀ i,i<8→wo.cell? ⟨gv,i,none⟩=some (.int .u64 (z05 s (4*i):Nat)))∧(∀ i,i<8→wo.cell? ⟨gx,i,none⟩=some (.int .u64 ((RUN (SCH b) (STOF s) 64).at i:Nat)))∧gv<wo.heap.size∧gx<wo.heap.size):=
            ⟨r1.trans (hbx.mono r1.size),r2.keep hbx,fun i hi=>(hbx.cell (by exact r7)).trans (r5 i hi),hcx,Nat.lt_of_lt_of_le r7 hbx.size,hgx⟩
          have hz:=z0T
          clear r1 r2 r3 r4 r5 r6 r7 r8 hbx hcx hgx A R5 R6 htr
          go_wp2_with fail
          clear hz
          have X2:Aside (Below wo.heap.size wo (wo.alloc (.cells (UARR .u8 32 fun _=>0) 23))∧Has (wo.alloc (.cells (UARR .u8 32 fun _=>0) 23)) wo.heap.size (UARR .u8 32 fun _=>0) 23):=⟨(Below.refl _ _).alloc (Nat.le_refl _) _,Has.new _ _ _⟩
          go_loopg [20] 8 (fun r s20 wx=>∃ i:Nat,i+r=8∧s20=.int .i64 (i:Int)∧Aside (Below wo.heap.size wo wx∧Has wx wo.heap.size (UARR .u8 32 fun j=>if j<4*i then z0a (OUTW s b) j else 0) 23))
          case atStart=>
            have e:(UARR .u8 32 fun j=>if j<4*0 then z0a (OUTW s b) j else 0)=UARR .u8 32 fun _=>0:=z0g fun j _=>if_neg (by omega)
            exact ⟨0,by omega,rfl,X2.out.1,by rw [e];exact X2.out.2⟩
          case round=>
            obtain ⟨i,hir,rfl,A⟩:=hrel
            cases gk with
            | zero=>
              obtain rfl:i=8:=by omega
              have e:(UARR .u8 32 fun j=>if j<4*8 then z0a (OUTW s b) j else 0)=UARR .u8 32 (z0a (OUTW s b)):=z0g fun j hj=>by rw [if_pos (by omega)]
              rw [e] at A
              have cc:=z6F d (z0a (OUTW s b))
              go_wp2_with (first | (refine wpList_load_row rfl 23 _ rfl _ rfl 23 (UARR .u8 32 (z0a (OUTW s b))) (0,0) _ A.out.2 Tryz.underlying23 rfl (z02 _) ?_))
              refine (cc _).mono ?_
              rintro e w9 ⟨rfl,hb9⟩
              have Y:Aside (Below w.heap.size w w9∧Has w9 (w.heap.size+2) (UARR .u8 32 fun _=>0) 23):=⟨(X.out.1.trans (A.out.1.mono X.out.1.size)).trans (hb9.mono (Nat.le_trans X.out.1.size A.out.1.size)),(X.out.2.1.keep A.out.1).keep hb9⟩
              have hC:z0z d (z0a (OUTW s b))=COMP d s b:=rfl
              rw [hC]
              clear cc hb9 A X X2 hC
              go_wp2_with (first | (refine wpList_store_row rfl 23 _ _ rfl _ _ rfl rfl _ _ Y.out.2 (z02 _) (by rw [z01,z01]) (z0e _ _ _) ?_))
              refine bodyPost_ret (v:=.agg (UARR .u8 32 (COMP d s b))) ?_ rfl ⟨rfl,z04 Y.out.1 (by omega) _⟩
              exact results_cell_row rfl _ _ (w.heap.size+2) 23 _ (0,0) _ rfl (Y.out.2.row _) Tryz.underlying23 rfl (z02 _)
            | succ r=>
              obtain ⟨hb7,h7⟩:=A.out
              have cv:wr.cell? ⟨gv,i,none⟩=some (.int .u64 (z05 s (4*i):Nat)):=(hb7.cell (by exact X.out.2.2.2.2.1)).trans (X.out.2.2.1 i (by omega))
              have cx:wr.cell? ⟨gx,i,none⟩=some (.int .u64 ((RUN (SCH b) (STOF s) 64).at i:Nat)):=(hb7.cell (by exact X.out.2.2.2.2.2)).trans (X.out.2.2.2.1 i (by omega))
              have hO:Aside ((z05 s (4*i)+(RUN (SCH b) (STOF s) 64).at i) % 4294967296=OUTW s b i):=rfl
              generalize z05 s (4*i)=p at cv hO
              generalize (RUN (SCH b) (STOF s) 64).at i=q at cx hO
              have hil:(i:Int)<8:=by omega
              have J:Aside (i+(r+1)=8∧Below wo.heap.size wo wr∧Has wr wo.heap.size (UARR .u8 32 fun j=>if j<4*i then z0a (OUTW s b) j else 0) 23):=⟨hir,hb7,h7⟩
              clear hb7 h7 A hir
              go_wp2_with fail
              go_quiet (fail)
              rw [z5P,hO.out]
              clear cv cx hO
              have J':Aside (i+(r+1)=8∧Below wo.heap.size wo (wr.drewN nq)∧Has (wr.drewN nq) wo.heap.size (UARR .u8 32 fun j=>if j<4*i then z0a (OUTW s b) j else 0) 23):=⟨J.out.1,below_drewN J.out.2.1 nq,J.out.2.2⟩
              clear J
              generalize wr.drewN nq=wa at *
              obtain ⟨Y,hY⟩:∃ Y,Y=OUTW s b i:=⟨_,rfl⟩
              rw [← hY]
              go_wp2_with fail
              go_loopg [21,22] 4 (fun r4 s21 s22 wx=>∃ (x:Nat) (j:Int),s21=.int .u64 (x:Int)∧s22=.int .i64 j∧Aside (j+1=(r4:Int)∧r4≤4∧x=Y / 256 ^ (4 - r4)∧Below wo.heap.size wo wx∧Has wx wo.heap.size (UARR .u8 32 fun j=>if j<4*i then z0a (OUTW s b) j else if 4*i+r4≤j∧j<4*i+4 then z0a (OUTW s b) j else 0) 23))
              case atStart=>
                have e:(UARR .u8 32 fun j=>if j<4*i then z0a (OUTW s b) j else if 4*i+4≤j∧j<4*i+4 then z0a (OUTW s b) j else 0)=UARR .u8 32 fun j=>if j<4*i then z0a (OUTW s b) j else 0:=z0g fun j _=>by
                  by_cases e:j<4*i
                  · rw [if_pos e,if_pos e]
                  · rw [if_neg e,if_neg e,if_neg (by omega)]
                refine ⟨Y,3,rfl,rfl,by omega,by omega,by simp,J'.out.2.1,?_⟩
                rw [e]
                exact J'.out.2.2
              case round=>
                obtain ⟨x,j,rfl,rfl,A⟩:=hrel
                obtain ⟨hj1,hj2,hx,hb8,h8⟩:=A.out
                cases gk with
                | zero=>
                  obtain rfl:j = -1:=by omega
                  have e:(UARR .u8 32 fun j=>if j<4*i then z0a (OUTW s b) j else if 4*i+0≤j∧j<4*i+4 then z0a (OUTW s b) j else 0)=UARR .u8 32 fun j=>if j<4*(i+1) then z0a (OUTW s b) j else 0:=z0g fun j _=>by
                    by_cases e:j<4*i
                    · rw [if_pos e,if_pos (by omega)]
                    · rw [if_neg e]
                      by_cases e2:j<4*(i+1)
                      · rw [if_pos (by omega),if_pos e2]
                      · rw [if_neg (by omega),if_neg e2]
                  rw [e] at h8
                  have K:Aside (Below wo.heap.size wo wr∧Has wr wo.heap.size (UARR .u8 32 fun j=>if j<4*(i+1) then z0a (OUTW s b) j else 0) 23):=⟨hb8,h8⟩
                  clear hj1 hj2 hx hb8 h8 A e
                  go_wp2
                  go_roundg r
                  case measure=>omega
                  case rel=>
                    exact ⟨i+1,by have:=J'.out.1;omega,by go_num,K.out.1,K.out.2⟩
                | succ k=>
                  obtain rfl:j=(k:Int):=by omega
                  obtain ⟨P,hP⟩:∃ P,P=4*i:=⟨_,rfl⟩
                  obtain ⟨Q,hQ⟩:∃ Q,Q=P+k:=⟨_,rfl⟩
                  have hi8:i<8:=by have:=J'.out.1;omega
                  have e1:(4:Int)*(i:Int)=(P:Int):=by omega
                  have f1:IntKind.i64.wrap (P:Int)=(P:Int):=by rw [IntKind.wrap_i64];omega
                  have e2:(P:Int)+(k:Int)=(Q:Int):=by omega
                  have f2:IntKind.i64.wrap (Q:Int)=(Q:Int):=by rw [IntKind.wrap_i64];omega
                  have g2:(Q:Int)<32:=by omega
                  have hc:wr.cell? ⟨wo.heap.size,Q,none⟩=some (.int .u8 ((if Q<4*i then z0a (OUTW s b) Q else if 4*i+(k+1)≤Q∧Q<4*i+4 then z0a (OUTW s b) Q else 0:Nat):Int)):=by rw [h8.cell,z07 _ _ _ _ (by omega)]
                  have hf:wr.frozen? ⟨wo.heap.size,Q,none⟩=false:=h8.frozen Q
                  generalize ((if Q<4*i then z0a (OUTW s b) Q else if 4*i+(k+1)≤Q∧Q<4*i+4 then z0a (OUTW s b) Q else 0:Nat):Int)=cq at hc
                  have K:Aside (k+1≤4∧P=4*i∧Q=P+k∧i<8∧x=Y / 256 ^ (4 - (k+1))∧Below wo.heap.size wo wr∧Has wr wo.heap.size (UARR .u8 32 fun j=>if j<4*i then z0a (OUTW s b) j else if 4*i+(k+1)≤j∧j<4*i+4 then z0a (OUTW s b) j else 0) 23):=⟨hj2,hP,hQ,hi8,hx,hb8,h8⟩
                  clear hj1 hj2 hx hb8 h8 A hP hQ hi8
                  go_wp2
                  go_roundg k
                  case measure=>omega
                  case rel=>
                    obtain ⟨k1,k2,k3,k4,k5,k6,k7⟩:=K.out
                    have hYl:Y<4294967296:=by rw [hY];exact Nat.mod_lt _ (by decide)
                    have hxl:x≤Y:=by rw [k5];exact Nat.div_le_self _ _
                    have hp:∀ k:Nat,k+1≤4→256 ^ (4 - (k+1))=2 ^ (24 - 8*k):=fun k h=>by
                      have h4:k=0∨k=1∨k=2∨k=3:=by omega
                      rcases h4 with rfl | rfl | rfl | rfl <;> decide
                    have ew:IntKind.u64.wrap ((x:Int) / 256)=((x / 256:Nat):Int):=by rw [z09];omega
                    have ec:(x:Int) % 256=((x % 256:Nat):Int):=by omega
                    have ep:256 ^ (4 - (k+1))*256=256 ^ (4 - k):=by
                      rw [← Nat.pow_succ]
                      congr 1
                      omega
                    rw [ew,ec]
                    refine ⟨x / 256,(k:Int) - 1,rfl,rfl,by omega,by omega,?_,k6.setCell (Nat.le_refl _) _,?_⟩
                    · rw [k5,Nat.div_div_eq_div_mul,ep]
                    · have hv:x % 256=z0a (OUTW s b) Q:=by
                        rw [k3,k2,z2U _ _ _ (by omega),← hY,k5,hp k k1]
                      have h3:=k7.set Q (.int .u8 ((x % 256:Nat):Int))
                      rw [z1A] at h3
                      have e:(UARR .u8 32 fun j=>if j=Q then x % 256 else if j<4*i then z0a (OUTW s b) j else if 4*i+(k+1)≤j∧j<4*i+4 then z0a (OUTW s b) j else 0)=UARR .u8 32 fun j=>if j<4*i then z0a (OUTW s b) j else if 4*i+k≤j∧j<4*i+4 then z0a (OUTW s b) j else 0:=z0g fun j _=>by
                        by_cases e:j=Q
                        · rw [if_pos e,if_neg (by omega),if_pos (by omega),hv,e]
                        · rw [if_neg e]
                          by_cases e2:j<4*i
                          · rw [if_pos e2,if_pos e2]
                          · rw [if_neg e2,if_neg e2]
                            by_cases e3:4*i+(k+1)≤j∧j<4*i+4
                            · rw [if_pos e3,if_pos (by omega)]
                            · rw [if_neg e3,if_neg (by omega)]
                      rw [e] at h3
                      exact h3
        | succ r=>
          obtain ⟨hbx,hcx,hgx⟩:=A.out
          have hsm:=z4d (SCH b) (z5G H.out.1) t
          have E2:Aside (RUN (SCH b) (STOF s) (t+1)=RND (KC t) (SCH b t) (RUN (SCH b) (STOF s) t)):=rfl
          generalize RUN (SCH b) (STOF s) t=S at *
          obtain ⟨r1,r2,r3,r4,r5,r6,r7,r8⟩:=R5.out
          have cK:wr.cell? ⟨w.heap.size+3,t,none⟩=some (.int .u64 (KC t:Nat)):=(hbx.cell (by exact r8)).trans (r3 t (by omega))
          have cM:wr.cell? ⟨g,t,none⟩=some (.int .u64 (SCH b t:Nat)):=(hbx.cell (by exact r6)).trans (r4 t (by omega))
          have c0:wr.cell? ⟨gx,0,none⟩=some (.int .u64 (S.a:Nat)):=hcx 0 (by decide)
          have c1:wr.cell? ⟨gx,1,none⟩=some (.int .u64 (S.b:Nat)):=hcx 1 (by decide)
          have c2:wr.cell? ⟨gx,2,none⟩=some (.int .u64 (S.c:Nat)):=hcx 2 (by decide)
          have c3:wr.cell? ⟨gx,3,none⟩=some (.int .u64 (S.d:Nat)):=hcx 3 (by decide)
          have c4:wr.cell? ⟨gx,4,none⟩=some (.int .u64 (S.e:Nat)):=hcx 4 (by decide)
          have c5:wr.cell? ⟨gx,5,none⟩=some (.int .u64 (S.f:Nat)):=hcx 5 (by decide)
          have c6:wr.cell? ⟨gx,6,none⟩=some (.int .u64 (S.g:Nat)):=hcx 6 (by decide)
          have c7:wr.cell? ⟨gx,7,none⟩=some (.int .u64 (S.h:Nat)):=hcx 7 (by decide)
          obtain ⟨l1,l2,l3,l4,l5,l6,l7,l8⟩:=hsm
          have lk:=zfA t
          have lm:SCH b t<2 ^ 32:=z1V H.out.2 48 t
          obtain ⟨Re,hRe⟩:∃ R:Int→Int,∀ n:Nat,R (n:Int)=((ROTR n S.e:Nat):Int):=⟨fun n=>((ROTR n.toNat S.e:Nat):Int),fun n=>by simp⟩
          obtain ⟨Ra,hRa⟩:∃ R:Int→Int,∀ n:Nat,R (n:Int)=((ROTR n S.a:Nat):Int):=⟨fun n=>((ROTR n.toNat S.a:Nat):Int),fun n=>by simp⟩
          have cRe:∀ n:Int,1≤n∧n<32→∀ w,Calls Tryz.prog 131 #[.int .u64 (S.e:Nat),.int .i64 n] w fun e w'=>e=.returned (.int .u64 (Re n))∧∃ m,w'=w.drewN m:=fun n hn w=>by
            obtain ⟨N,rfl⟩:∃ N:Nat,n=(N:Int):=⟨n.toNat,by omega⟩
            rw [hRe]
            exact z4G S.e N l5 (by omega) (by omega) w
          have cRa:∀ n:Int,1≤n∧n<32→∀ w,Calls Tryz.prog 131 #[.int .u64 (S.a:Nat),.int .i64 n] w fun e w'=>e=.returned (.int .u64 (Ra n))∧∃ m,w'=w.drewN m:=fun n hn w=>by
            obtain ⟨N,rfl⟩:∃ N:Nat,n=(N:Int):=⟨n.toNat,by omega⟩
            rw [hRa]
            exact z4G S.a N l1 (by omega) (by omega) w
          have cXe:∀ w,Calls Tryz.prog 130 #[.int .u64 (Re 6),.int .u64 (Re 11),.int .u64 (Re 25)] w fun e w'=>e=.returned (.int .u64 ((MIX 6 11 25 S.e:Nat):Int))∧w=w':=fun w=>by
            rw [show Re 6=((ROTR 6 S.e:Nat):Int) from hRe 6,show Re 11=((ROTR 11 S.e:Nat):Int) from hRe 11,show Re 25=((ROTR 25 S.e:Nat):Int) from hRe 25]
            exact z5O _ _ _ (z0p (by decide) l5) (z0p (by decide) l5) (z0p (by decide) l5) w
          have cXa:∀ w,Calls Tryz.prog 130 #[.int .u64 (Ra 2),.int .u64 (Ra 13),.int .u64 (Ra 22)] w fun e w'=>e=.returned (.int .u64 ((MIX 2 13 22 S.a:Nat):Int))∧w=w':=fun w=>by
            rw [show Ra 2=((ROTR 2 S.a:Nat):Int) from hRa 2,show Ra 13=((ROTR 13 S.a:Nat):Int) from hRa 13,show Ra 22=((ROTR 22 S.a:Nat):Int) from hRa 22]
            exact z5O _ _ _ (z0p (by decide) l1) (z0p (by decide) l1) (z0p (by decide) l1) w
          have cCh:∀ w,Calls Tryz.prog 133 #[.int .u64 (S.e:Nat),.int .u64 (S.f:Nat),.int .u64 (S.g:Nat)] w fun e w'=>e=.returned (.int .u64 ((CHO S.e S.f S.g:Nat):Int))∧w=w':=fun w=>zfE _ _ _ l5 l6 l7 w
          have cMj:∀ w,Calls Tryz.prog 134 #[.int .u64 (S.a:Nat),.int .u64 (S.b:Nat),.int .u64 (S.c:Nat)] w fun e w'=>e=.returned (.int .u64 ((MAJ S.a S.b S.c:Nat):Int))∧w=w':=fun w=>zff _ _ _ l1 l2 l3 w
          have E:Aside (RND (KC t) (SCH b t) S={a:=((S.h+MIX 6 11 25 S.e+CHO S.e S.f S.g+KC t+SCH b t) % 4294967296+(MIX 2 13 22 S.a+MAJ S.a S.b S.c) % 4294967296) % 4294967296,b:=S.a,c:=S.b,d:=S.c,e:=(S.d+(S.h+MIX 6 11 25 S.e+CHO S.e S.f S.g+KC t+SCH b t) % 4294967296) % 4294967296,f:=S.e,g:=S.f,h:=S.g}):=rfl
          have lx1:MIX 6 11 25 S.e<2 ^ 32:=zbs (by decide) (by decide) (by decide) l5
          have lx2:MIX 2 13 22 S.a<2 ^ 32:=zbs (by decide) (by decide) (by decide) l1
          have lx3:CHO S.e S.f S.g<2 ^ 32:=zbt l5 l7
          have lx4:MAJ S.a S.b S.c<2 ^ 32:=zbu l1 l2
          generalize RND (KC t) (SCH b t) S=S' at *
          generalize MIX 6 11 25 S.e=m1 at *
          generalize CHO S.e S.f S.g=m2 at *
          generalize MIX 2 13 22 S.a=m3 at *
          generalize MAJ S.a S.b S.c=m4 at *
          generalize KC t=m5 at *
          generalize SCH b t=m6 at *
          obtain ⟨sa,sb,sc,sd,se,sf,sg,sh⟩:=S
          simp only at *
          have L:Aside (sa<2 ^ 32∧sb<2 ^ 32∧sc<2 ^ 32∧sd<2 ^ 32∧se<2 ^ 32∧sf<2 ^ 32∧sg<2 ^ 32∧sh<2 ^ 32∧m1<2 ^ 32∧m2<2 ^ 32∧m3<2 ^ 32∧m4<2 ^ 32∧m5<2 ^ 32∧m6<2 ^ 32):=⟨l1,l2,l3,l4,l5,l6,l7,l8,lx1,lx3,lx2,lx4,lk,lm⟩
          have htl:(t:Int)<64:=by omega
          have J:Aside (Below w3.heap.size w3 wr∧t+(r+1)=64∧gx<wr.heap.size):=⟨hbx,htr,hgx⟩
          clear l1 l2 l3 l4 l5 l6 l7 l8 lx1 lx2 lx3 lx4 lk lm hRe hRa r1 r2 r3 r4 r5 r6 r7 r8 hbx hcx hgx htr A R5 R6
          go_wp2_with fail
          go_quiet (first | (go_at_call 131;exact Calls.quiet_of (cRe _ (by decide) _)) | (go_at_call 130;exact z0A (cXe _)))
          clear cRe cXe
          have cK':(wr.drewN nq).cell? ⟨w.heap.size+3,t,none⟩=some (.int .u64 (m5:Nat)):=cK
          have cM':(wr.drewN nq).cell? ⟨g,t,none⟩=some (.int .u64 (m6:Nat)):=cM
          have c0':(wr.drewN nq).cell? ⟨gx,0,none⟩=some (.int .u64 (sa:Nat)):=c0
          have c1':(wr.drewN nq).cell? ⟨gx,1,none⟩=some (.int .u64 (sb:Nat)):=c1
          have c2':(wr.drewN nq).cell? ⟨gx,2,none⟩=some (.int .u64 (sc:Nat)):=c2
          have c3':(wr.drewN nq).cell? ⟨gx,3,none⟩=some (.int .u64 (sd:Nat)):=c3
          have c4':(wr.drewN nq).cell? ⟨gx,4,none⟩=some (.int .u64 (se:Nat)):=c4
          have c5':(wr.drewN nq).cell? ⟨gx,5,none⟩=some (.int .u64 (sf:Nat)):=c5
          have c6':(wr.drewN nq).cell? ⟨gx,6,none⟩=some (.int .u64 (sg:Nat)):=c6
          have c7':(wr.drewN nq).cell? ⟨gx,7,none⟩=some (.int .u64 (sh:Nat)):=c7
          have J':Aside (Below w3.heap.size w3 (wr.drewN nq)∧t+(r+1)=64∧gx<(wr.drewN nq).heap.size):=⟨below_drewN J.out.1 nq,J.out.2⟩
          clear cK cM c0 c1 c2 c3 c4 c5 c6 c7 J
          generalize wr.drewN nq=wa at *
          go_wp2_with fail
          go_quiet ((go_at_call 133;exact z0A (cCh _)))
          clear cCh
          clear cK' cM'
          have c0'':(wa.drewN nq).cell? ⟨gx,0,none⟩=some (.int .u64 (sa:Nat)):=c0'
          have c1'':(wa.drewN nq).cell? ⟨gx,1,none⟩=some (.int .u64 (sb:Nat)):=c1'
          have c2'':(wa.drewN nq).cell? ⟨gx,2,none⟩=some (.int .u64 (sc:Nat)):=c2'
          have c3'':(wa.drewN nq).cell? ⟨gx,3,none⟩=some (.int .u64 (sd:Nat)):=c3'
          have c4'':(wa.drewN nq).cell? ⟨gx,4,none⟩=some (.int .u64 (se:Nat)):=c4'
          have c5'':(wa.drewN nq).cell? ⟨gx,5,none⟩=some (.int .u64 (sf:Nat)):=c5'
          have c6'':(wa.drewN nq).cell? ⟨gx,6,none⟩=some (.int .u64 (sg:Nat)):=c6'
          have c7'':(wa.drewN nq).cell? ⟨gx,7,none⟩=some (.int .u64 (sh:Nat)):=c7'
          have J'':Aside (Below w3.heap.size w3 (wa.drewN nq)∧t+(r+1)=64∧gx<(wa.drewN nq).heap.size):=⟨below_drewN J'.out.1 nq,J'.out.2⟩
          clear c0' c1' c2' c3' c4' c5' c6' c7' J'
          generalize wa.drewN nq=wb at *
          go_wp2_with fail
          go_quiet (first | (go_at_call 131;exact Calls.quiet_of (cRa _ (by decide) _)) | (go_at_call 130;exact z0A (cXa _)))
          clear cRa cXa
          have c0''':(wb.drewN nq).cell? ⟨gx,0,none⟩=some (.int .u64 (sa:Nat)):=c0''
          have c1''':(wb.drewN nq).cell? ⟨gx,1,none⟩=some (.int .u64 (sb:Nat)):=c1''
          have c2''':(wb.drewN nq).cell? ⟨gx,2,none⟩=some (.int .u64 (sc:Nat)):=c2''
          have c3''':(wb.drewN nq).cell? ⟨gx,3,none⟩=some (.int .u64 (sd:Nat)):=c3''
          have c4''':(wb.drewN nq).cell? ⟨gx,4,none⟩=some (.int .u64 (se:Nat)):=c4''
          have c5''':(wb.drewN nq).cell? ⟨gx,5,none⟩=some (.int .u64 (sf:Nat)):=c5''
          have c6''':(wb.drewN nq).cell? ⟨gx,6,none⟩=some (.int .u64 (sg:Nat)):=c6''
          have c7''':(wb.drewN nq).cell? ⟨gx,7,none⟩=some (.int .u64 (sh:Nat)):=c7''
          have J''':Aside (Below w3.heap.size w3 (wb.drewN nq)∧t+(r+1)=64∧gx<(wb.drewN nq).heap.size):=⟨below_drewN J''.out.1 nq,J''.out.2⟩
          clear c0'' c1'' c2'' c3'' c4'' c5'' c6'' c7'' J''
          generalize wb.drewN nq=wc at *
          go_wp2_with fail
          go_quiet ((go_at_call 134;exact z0A (cMj _)))
          clear cMj
          have c0'''':(wc.drewN nq).cell? ⟨gx,0,none⟩=some (.int .u64 (sa:Nat)):=c0'''
          have c1'''':(wc.drewN nq).cell? ⟨gx,1,none⟩=some (.int .u64 (sb:Nat)):=c1'''
          have c2'''':(wc.drewN nq).cell? ⟨gx,2,none⟩=some (.int .u64 (sc:Nat)):=c2'''
          have c3'''':(wc.drewN nq).cell? ⟨gx,3,none⟩=some (.int .u64 (sd:Nat)):=c3'''
          have c4'''':(wc.drewN nq).cell? ⟨gx,4,none⟩=some (.int .u64 (se:Nat)):=c4'''
          have c5'''':(wc.drewN nq).cell? ⟨gx,5,none⟩=some (.int .u64 (sf:Nat)):=c5'''
          have c6'''':(wc.drewN nq).cell? ⟨gx,6,none⟩=some (.int .u64 (sg:Nat)):=c6'''
          have c7'''':(wc.drewN nq).cell? ⟨gx,7,none⟩=some (.int .u64 (sh:Nat)):=c7'''
          have J'''':Aside (Below w3.heap.size w3 (wc.drewN nq)∧t+(r+1)=64∧gx<(wc.drewN nq).heap.size):=⟨below_drewN J'''.out.1 nq,J'''.out.2⟩
          clear c0''' c1''' c2''' c3''' c4''' c5''' c6''' c7''' J'''
          generalize wc.drewN nq=wd at *
          go_wp2_with fail
          have n0:=World.new_ne wd ⟨gx,0,none⟩ c0''''
          have n1:=World.new_ne wd ⟨gx,1,none⟩ c1''''
          have n2:=World.new_ne wd ⟨gx,2,none⟩ c2''''
          have n3:=World.new_ne wd ⟨gx,3,none⟩ c3''''
          have n4:=World.new_ne wd ⟨gx,4,none⟩ c4''''
          have n5:=World.new_ne wd ⟨gx,5,none⟩ c5''''
          have n6:=World.new_ne wd ⟨gx,6,none⟩ c6''''
          go_region_held3 (fun W:World=>W.cell? ⟨gx,0,none⟩=some (.int .u64 (sa:Int))∧W.cell? ⟨gx,1,none⟩=some (.int .u64 (sb:Int))∧W.cell? ⟨gx,2,none⟩=some (.int .u64 (sc:Int))∧W.cell? ⟨gx,3,none⟩=some (.int .u64 (sd:Int))∧W.cell? ⟨gx,4,none⟩=some (.int .u64 (se:Int))∧W.cell? ⟨gx,5,none⟩=some (.int .u64 (sf:Int))∧W.cell? ⟨gx,6,none⟩=some (.int .u64 (sg:Int))) (go_keep) (fail)
          rw [zfg,z5P,z5P,z5P]
          obtain ⟨A8,hA8⟩:∃ A8:Array Value,A8=UARR .u64 8 S'.at:=⟨_,rfl⟩
          have hA9:(#[.int .u64 ((((sh+m1+m2+m5+m6) % 4294967296+(m3+m4) % 4294967296) % 4294967296:Nat):Int),.int .u64 (sa:Int),.int .u64 (sb:Int),.int .u64 (sc:Int),.int .u64 (((sd+(sh+m1+m2+m5+m6) % 4294967296) % 4294967296:Nat):Int),.int .u64 (se:Int),.int .u64 (sf:Int),.int .u64 (sg:Int)]:Array Value)=A8:=by rw [hA8,E.out];exact arr8 _ _ _ _ _ _ _ _
          rw [hA9]
          have hH9:Has (wd.alloc (.cells A8 24)).drew wd.heap.size (UARR .u64 8 S'.at) 24:=by rw [hA8];exact (Has.new wd _ _).drewN 1
          have U:Aside (Below w3.heap.size w3 (wd.alloc (.cells A8 24)).drew∧(∀ i,i<8→(wd.alloc (.cells A8 24)).drew.cell? ⟨wd.heap.size,i,none⟩=some (.int .u64 (S'.at i:Nat)))∧wd.heap.size<(wd.alloc (.cells A8 24)).drew.heap.size):=⟨(J''''.out.1.alloc J''''.out.1.size _).drew,fun i hi=>by rw [hH9.cell,z07 _ _ _ _ hi],hH9.lt⟩
          have HT:Aside (t+(r+1)=64):=J''''.out.2.1
          clear hH9 hA9 hA8 c0'''' c1'''' c2'''' c3'''' c4'''' c5'''' c6'''' c7'''' n0 n1 n2 n3 n4 n5 n6
          generalize (wd.alloc (.cells A8 24)).drew=we at *
          generalize wd.heap.size=ge at *
          go_wp2
          go_roundg r
          case measure=>omega
          case rel=>exact ⟨t+1,ge,8,by have:=HT.out;omega,by go_num,rfl,U.out.1,fun i hi=>by rw [E2.out];exact U.out.2.1 i hi,U.out.2.2⟩
    | succ r=>
      have ca:wr.cell? ⟨g,14+k,none⟩=some (.int .u64 (SCHL b k (14+k):Nat)):=by rw [hown.cellAt (14+k) (by omega),z19 _ _ (by rw [z2p];omega),z4j _ _ _ (by omega)]
      have cb:wr.cell? ⟨g,9+k,none⟩=some (.int .u64 (SCHL b k (9+k):Nat)):=by rw [hown.cellAt (9+k) (by omega),z19 _ _ (by rw [z2p];omega),z4j _ _ _ (by omega)]
      have cc:wr.cell? ⟨g,1+k,none⟩=some (.int .u64 (SCHL b k (1+k):Nat)):=by rw [hown.cellAt (1+k) (by omega),z19 _ _ (by rw [z2p];omega),z4j _ _ _ (by omega)]
      have cd:wr.cell? ⟨g,k,none⟩=some (.int .u64 (SCHL b k k:Nat)):=by rw [hown.cellAt k (by omega),z19 _ _ (by rw [z2p];omega),z4j _ _ _ (by omega)]
      have la:=z1V H.out.2 k (14+k)
      have lb:=z1V H.out.2 k (9+k)
      have lc:=z1V H.out.2 k (1+k)
      have ld:=z1V H.out.2 k k
      have V:Aside ((z11 17 19 10 (SCHL b k (14+k))+SCHL b k (9+k)+z11 7 18 3 (SCHL b k (1+k))+SCHL b k k) % 4294967296=SCHL b (k+1) (16+k)):=by rw [Aside,SCHL,if_pos rfl]
      generalize SCHL b k (14+k)=va at *
      generalize SCHL b k (9+k)=vb at *
      generalize SCHL b k (1+k)=vc at *
      generalize SCHL b k k=vd at *
      obtain ⟨Ra,hRa⟩:∃ R:Int→Int,∀ n:Nat,R (n:Int)=((ROTR n va:Nat):Int):=⟨fun n=>((ROTR n.toNat va:Nat):Int),fun n=>by simp⟩
      obtain ⟨Rc,hRc⟩:∃ R:Int→Int,∀ n:Nat,R (n:Int)=((ROTR n vc:Nat):Int):=⟨fun n=>((ROTR n.toNat vc:Nat):Int),fun n=>by simp⟩
      have cRa:∀ n:Int,1≤n∧n<32→∀ w,Calls Tryz.prog 131 #[.int .u64 (va:Int),.int .i64 n] w fun e w'=>e=.returned (.int .u64 (Ra n))∧∃ m,w'=w.drewN m:=fun n hn w=>by
        obtain ⟨N,rfl⟩:∃ N:Nat,n=(N:Int):=⟨n.toNat,by omega⟩
        rw [hRa]
        exact z4G va N la (by omega) (by omega) w
      have cRc:∀ n:Int,1≤n∧n<32→∀ w,Calls Tryz.prog 131 #[.int .u64 (vc:Int),.int .i64 n] w fun e w'=>e=.returned (.int .u64 (Rc n))∧∃ m,w'=w.drewN m:=fun n hn w=>by
        obtain ⟨N,rfl⟩:∃ N:Nat,n=(N:Int):=⟨n.toNat,by omega⟩
        rw [hRc]
        exact z4G vc N lc (by omega) (by omega) w
      have cSa:∀ w,Calls Tryz.prog 132 #[.int .u64 (va:Int),.int .i64 10] w fun e w'=>e=.returned (.int .u64 ((va / 2 ^ 10:Nat):Int))∧w=w':=fun w=>z9C va 10 la (by decide) w
      have cSc:∀ w,Calls Tryz.prog 132 #[.int .u64 (vc:Int),.int .i64 3] w fun e w'=>e=.returned (.int .u64 ((vc / 2 ^ 3:Nat):Int))∧w=w':=fun w=>z9C vc 3 lc (by decide) w
      have cXa:∀ w,Calls Tryz.prog 130 #[.int .u64 (Ra 17),.int .u64 (Ra 19),.int .u64 ((va / 2 ^ 10:Nat):Int)] w fun e w'=>e=.returned (.int .u64 ((z11 17 19 10 va:Nat):Int))∧w=w':=fun w=>by
        rw [show Ra 17=((ROTR 17 va:Nat):Int) from hRa 17,show Ra 19=((ROTR 19 va:Nat):Int) from hRa 19]
        exact z5O _ _ _ (z0p (by decide) la) (z0p (by decide) la) (Nat.lt_of_le_of_lt (Nat.div_le_self _ _) la) w
      have cXc:∀ w,Calls Tryz.prog 130 #[.int .u64 (Rc 7),.int .u64 (Rc 18),.int .u64 ((vc / 2 ^ 3:Nat):Int)] w fun e w'=>e=.returned (.int .u64 ((z11 7 18 3 vc:Nat):Int))∧w=w':=fun w=>by
        rw [show Rc 7=((ROTR 7 vc:Nat):Int) from hRc 7,show Rc 18=((ROTR 18 vc:Nat):Int) from hRc 18]
        exact z5O _ _ _ (z0p (by decide) lc) (z0p (by decide) lc) (Nat.lt_of_le_of_lt (Nat.div_le_self _ _) lc) w
      have lp:z11 17 19 10 va<2 ^ 32:=z7y (by decide) (by decide) la
      have lq:z11 7 18 3 vc<2 ^ 32:=z7y (by decide) (by decide) lc
      generalize z11 17 19 10 va=p at *
      generalize z11 7 18 3 vc=q at *
      generalize ((va / 2 ^ 10:Nat):Int)=sa at *
      generalize ((vc / 2 ^ 3:Nat):Int)=sc at *
      have L:Aside (p<2 ^ 32∧vb<2 ^ 32∧q<2 ^ 32∧vd<2 ^ 32):=⟨lp,lb,lq,ld⟩
      rw [← hT] at hown ⊢
      obtain ⟨x1,h1⟩:∃ x1,x1=14+k:=⟨_,rfl⟩
      obtain ⟨x2,h2⟩:∃ x2,x2=9+k:=⟨_,rfl⟩
      obtain ⟨x3,h3⟩:∃ x3,x3=1+k:=⟨_,rfl⟩
      rw [← h1] at ca
      rw [← h2] at cb
      rw [← h3] at cc
      have e1:(T:Int) - 2=(x1:Int):=by omega
      have e2:(T:Int) - 7=(x2:Int):=by omega
      have e3:(T:Int) - 15=(x3:Int):=by omega
      have e4:(T:Int) - 16=(k:Int):=by omega
      have f1:IntKind.i64.wrap (x1:Int)=(x1:Int):=by rw [IntKind.wrap_i64];omega
      have f2:IntKind.i64.wrap (x2:Int)=(x2:Int):=by rw [IntKind.wrap_i64];omega
      have f3:IntKind.i64.wrap (x3:Int)=(x3:Int):=by rw [IntKind.wrap_i64];omega
      have f4:IntKind.i64.wrap (k:Int)=(k:Int):=by rw [IntKind.wrap_i64];omega
      have i1:(x1:Int)<(T:Int):=by omega
      have i2:(x2:Int)<(T:Int):=by omega
      have i3:(x3:Int)<(T:Int):=by omega
      have i4:(k:Int)<(T:Int):=by omega
      have hlt:(T:Int)<64:=by omega
      have R:Aside (T=16+k∧wr.ownsRow w1.heap.size 24 1 (.slice (some ⟨g,0,none⟩) T cap) T (z0w (ML b k))∧Below w1.heap.size w1 wr∧k+(r+1)=48∧g<wr.heap.size):=⟨hT,hown,hbel,hkr,hg2⟩
      clear la lb lc ld lp lq hRa hRc h1 h2 h3 hT hown hbel hkr hg1 hg2
      go_wp2_with fail
      go_quiet (first | (go_at_call 131;exact Calls.quiet_of (cRa _ (by decide) _)) | (go_at_call 132;exact z0A (cSa _)) | (go_at_call 130;exact z0A (cXa _)))
      clear cRa cSa cXa ca
      have cb2:(wr.drewN nq).cell? ⟨g,x2,none⟩=some (.int .u64 (vb:Nat)):=cb
      have cc2:(wr.drewN nq).cell? ⟨g,x3,none⟩=some (.int .u64 (vc:Nat)):=cc
      have cd2:(wr.drewN nq).cell? ⟨g,k,none⟩=some (.int .u64 (vd:Nat)):=cd
      have R2:Aside (T=16+k∧(wr.drewN nq).ownsRow w1.heap.size 24 1 (.slice (some ⟨g,0,none⟩) T cap) T (z0w (ML b k))∧Below w1.heap.size w1 (wr.drewN nq)∧k+(r+1)=48∧g<(wr.drewN nq).heap.size):=⟨R.out.1,R.out.2.1,below_drewN R.out.2.2.1 nq,R.out.2.2.2⟩
      clear cb cc cd R
      generalize wr.drewN nq=wq at *
      go_wp2_with fail
      go_quiet (first | (go_at_call 131;exact Calls.quiet_of (cRc _ (by decide) _)) | (go_at_call 132;exact z0A (cSc _)) | (go_at_call 130;exact z0A (cXc _)))
      clear cRc cSc cXc cc2
      have cb3:(wq.drewN nq).cell? ⟨g,x2,none⟩=some (.int .u64 (vb:Nat)):=cb2
      have cd3:(wq.drewN nq).cell? ⟨g,k,none⟩=some (.int .u64 (vd:Nat)):=cd2
      have R3:Aside (T=16+k∧(wq.drewN nq).ownsRow w1.heap.size 24 1 (.slice (some ⟨g,0,none⟩) T cap) T (z0w (ML b k))∧Below w1.heap.size w1 (wq.drewN nq)∧k+(r+1)=48∧g<(wq.drewN nq).heap.size):=⟨R2.out.1,R2.out.2.1,below_drewN R2.out.2.2.1 nq,R2.out.2.2.2⟩
      clear cb2 cd2 R2
      generalize wq.drewN nq=wz at *
      have hT1:T≤1000:=by omega
      have hbz:w1.heap.size≤wz.heap.size:=R3.out.2.2.1.size
      go_wp2_with fail
      go_region_law (refine z7R wz.drew _ rfl (.tmp 68) (.tmp 85) rfl w1.heap.size (.slice (some ⟨g,0,none⟩) T cap) T (z0w (ML b k)) rfl (by exact R3.out.2.1) rfl hT1 (by exact hbz) ?_;intro g8 cap8 w8 hown8 hgrow8 hg8)
      all_goals
        have hx:(IntKind.u64.wrap (IntKind.u64.wrap (IntKind.u64.wrap ((p:Int)+(vb:Int))+(q:Int))+(vd:Int))).tmod 4294967296=((SCHL b (k+1) (16+k):Nat):Int):=by
          obtain ⟨l1,l2,l3,l4⟩:=L.out
          rw [← V.out,Int.tmod_eq_emod_of_nonneg (by rw [z09];omega)]
          simp only [z09]
          omega
        rw [hx,← z53,← zer] at hown8
        have hb8:Below w1.heap.size w1 w8:=(R3.out.2.2.1.drew.alloc hbz _).grown hgrow8 (by simp;omega) (fun k e=>(R3.out.2.1.lt k e).1)
        have U:Aside (w8.ownsRow w1.heap.size 24 1 (.slice (some ⟨g8,0,none⟩) (T+1) cap8) (T+1) (z0w (ML b (k+1)))∧Below w1.heap.size w1 w8):=⟨hown8,hb8⟩
        clear hown8 hb8 hgrow8 hg8 hx cb3 cd3 e1 e2 e3 e4 f1 f2 f3 f4 i1 i2 i3 i4
        go_wp2
        go_roundg r
        case measure=>omega
        case rel=>
          obtain ⟨r1,r2,r3,r4,r5⟩:=R3.out
          have e:T+1=16+(k+1):=by omega
          refine ⟨k+1,T+1,by omega,by go_num,e,?_,U.out.2⟩
          rw [← e]
          exact U.out.1
end Go.Proofs.YthdpkaiieomdoaaGreatDoor.HX
