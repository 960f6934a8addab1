/- Texts of SpanMakes, one behind the other: StorePutCall, StoreSputRegions. -/
import Derived.Test.YtnmalbngdhjhjaaGreatDoorSpanMakesP9
namespace Go.Proofs.YtnmalbngdhjhjaaGreatDoor.HX
open Go.RowKit
set_option maxRecDepth 100000
theorem z4e {B g p:Nat} {rs:List ROW} {w:World} (hC:CHUNK w B g rs) (W:World) (hW:Below w.heap.size w W):Calls Tryz.prog 162 #[.pointer (some ⟨g,0,none⟩),.int .u64 (p:Int)] W fun e w'=>z3M (rs.map ROW.rw) (p / 64) W e w':=by
  obtain ⟨a,cap,hbx,hlie,hfrm,ho⟩:=hC.lies
  refine z9Z g a rs.length cap (rs.map ROW.rw) p (by simp) hC.few hC.rises W (fun h=>?_) ((hbx.keep hW).cell 0)
  obtain ⟨g1,o,e,hl,hc⟩:=hlie h
  exact ⟨g1,o,e,by have:=hW.size;omega,fun j r hr=>by
    obtain ⟨c1,c2,c3⟩:=hc j r hr
    exact ⟨(hW.cell (by exact hl)).trans c1,(hW.cell (by exact hl)).trans c2,(hW.cell (by exact hl)).trans c3⟩⟩
theorem z3e {B g p i:Nat} {rs:List ROW} {r:ROW} {w:World} (hC:CHUNK w B g rs) (hr:rs[i]?=some r) (hn:r.num=p / 64) (W:World) (hW:Below w.heap.size w W):Calls Tryz.prog 162 #[.pointer (some ⟨g,0,none⟩),.int .u64 (p:Int)] W fun e w'=>e=.returned (.tuple #[.int .i64 (i:Int),.bool true])∧Below W.heap.size W w':=
  (z4e hC W hW).mono fun e w' ⟨j,b,he,hst,hbi,hb⟩=>by
    have hq:(rs.map ROW.rw)[i]?=some r.rw:=by rw [List.getElem?_map,hr];rfl
    have hji:j=i:=by
      rcases Nat.lt_trichotomy j i with h | h | h
      · have hil:i<(rs.map ROW.rw).length:=(List.getElem?_eq_some_iff.1 hq).1
        have h2:=hst.2.2 j _ (Nat.le_refl _) (List.getElem?_eq_getElem (by omega))
        have h3:=hC.rises j i _ _ h (List.getElem?_eq_getElem (by omega)) hq
        have e2:r.rw.num=p / 64:=hn
        omega
      · exact h
      · have h2:=hst.2.1 i _ h hq
        have e2:r.rw.num=p / 64:=hn
        omega
    subst hji
    have hbt:b=true:=hbi.2 ⟨_,hq,hn⟩
    subst hbt
    exact ⟨he,hb⟩
theorem z7p {B g p:Nat} {rs:List ROW} {w:World} (hC:CHUNK w B g rs) (hall:∀ r∈rs,r.num<p / 64) (W:World) (hW:Below w.heap.size w W):Calls Tryz.prog 162 #[.pointer (some ⟨g,0,none⟩),.int .u64 (p:Int)] W fun e w'=>e=.returned (.tuple #[.int .i64 (rs.length:Int),.bool false])∧Below W.heap.size W w':=
  (z4e hC W hW).mono fun e w' ⟨j,b,he,hst,hbi,hb⟩=>by
    have hjl:j=rs.length:=by
      have h1:j≤rs.length:=by have:=hst.1;simpa using this
      by_cases h:j<rs.length
      · have hq:(rs.map ROW.rw)[j]?=some rs[j].rw:=by rw [List.getElem?_map,List.getElem?_eq_getElem h];rfl
        have h2:=hst.2.2 j _ (Nat.le_refl _) hq
        have h3:=hall rs[j] (List.getElem_mem h)
        have e2:rs[j].rw.num=rs[j].num:=rfl
        omega
      · omega
    subst hjl
    have hbf:b=false:=by
      cases hb2:b
      · rfl
      · obtain ⟨r,hr,_⟩:=hbi.1 hb2
        rw [List.getElem?_eq_none (by simp)] at hr
        cases hr
    subst hbf
    exact ⟨he,hb⟩
theorem NEXT.low {w:World} {B g p i:Nat} {rs:List ROW} {r:ROW} (hC:CHUNK w B g rs) (hr:rs[i]?=some r) (hn:r.num=p / 64):∀ s∈rs.take i,s.num<p / 64:=fun s hs=>by
  obtain ⟨j,hj⟩:=List.getElem?_of_mem hs
  have hji:j<i:=by have:=(List.getElem?_eq_some_iff.1 hj).1;rw [List.length_take] at this;omega
  rw [List.getElem?_take_of_lt hji] at hj
  have:=hC.rise j i s r hji hj hr
  omega
theorem z6v {rs:List ROW} {i:Nat} {s:ROW} (hs:s∈rs.take i):∃ j,j<i∧rs[j]?=some s:=by
  obtain ⟨j,hj⟩:=List.getElem?_of_mem hs
  have hji:j<i:=by have:=(List.getElem?_eq_some_iff.1 hj).1;rw [List.length_take] at this;omega
  rw [List.getElem?_take_of_lt hji] at hj
  exact ⟨j,hji,hj⟩
theorem z6Z {rs:List ROW} {i p q k gh ch live:Nat} {hs:List (Nat→Nat)} {h:Nat→Nat} (hR:REST rs i q live hs) (hq:p / 64=q) (hk:p % 64=k):∀ r∈MORE rs i q k gh ch live hs h,∀ j,j<64→r.live.testBit j=true→r.num*64+j=p∨∃ r0∈rs,r0.num=r.num∧r0.live.testBit j=true:=fun r hr j hj hb=>by
  rcases z2V hr with h1 | rfl
  · exact .inr ⟨r,List.mem_of_mem_take h1,rfl,hb⟩
  · rw [z4s] at hb
    by_cases e:k=j
    · left
      show q*64+j=p
      omega
    · simp only [e,decide_false,Bool.or_false] at hb
      rcases hR with ⟨_,rfl,_⟩ | ⟨r0,hr0,_,hn,rfl,_⟩
      · simp at hb
      · exact .inr ⟨r0,List.mem_of_getElem? hr0,hn,hb⟩
theorem z3n (B g p:Nat) (rs:List ROW) (h:Nat→Nat) (hp:p<2 ^ 64) (hfew:rs.length+1<2 ^ 40) (hN:NEXT rs p) (h8:∀ i,h i<256) (w:World) (hC:CHUNK w B g rs):Calls Tryz.prog 157 #[.pointer (some ⟨g,0,none⟩),.int .u64 (p:Int),.agg (UARR .u8 32 h)] w fun e w'=>(∃ v,e=.returned v)∧PUTS w B g p rs h w':=by
  obtain ⟨a,cap,hbx,hlie,hfrm,ho⟩:=hC.lies
  have hgl:=hbx.lt
  have hBw:B≤w.heap.size:=by have:=hC.far;omega
  have hcell:=hbx.cell 0
  by_cases hL:∃ r,rs[rs.length - 1]?=some r∧r.num=p / 64
  · obtain ⟨r,hr,hn⟩:=hL
    have hil:=(List.getElem?_eq_some_iff.1 hr).1
    obtain ⟨i,hi⟩:∃ i,rs.length - 1=i:=⟨_,rfl⟩
    rw [hi] at hr
    have hi1:i+1=rs.length:=by omega
    obtain ⟨gr,rfl,hBr,hgr⟩:=hfrm (by omega)
    have hrm:=List.mem_of_getElem? hr
    obtain ⟨r1,r2,r3,r4,r5⟩:=hC.row r hrm
    have hbits:∀ j,j<64→r.live.testBit j=true→j<p % 64:=by
      rcases hN r hrm with h1 | h1
      · omega
      · exact h1.2
    have hR:REST rs i (p / 64) r.live r.hs:=.inr ⟨r,hr,hi1,hn,rfl,rfl⟩
    have hlow:=NEXT.low hC hr hn
    have hrk:RK r.live (p % 64)=r.hs.length:=by rw [r3,za5 (by omega) hbits]
    have h64:r.hs.length≤1000:=by rw [← hrk];have:=zaY r.live (p % 64);omega
    refine (zaW B g gr i rs.length cap p (p % 64) r.live r.hs.length (RC rs) (HL r.hs) r.v h w hbx ho (by omega) (z2q rs i 1 r hr (by decide)) (z2q rs i 2 r hr (by decide)) r5 hrk r2 rfl hp hBw h64 (fun W hW=>z3e hC hr hn W hW)).mono ?_
    rintro e w' ⟨he,gh,ch,b1,b2,b3,b4,b5,b6,b7⟩
    have hap:∀ s∈rs.take i,s.gh≠r.gh∧s.gh<w.heap.size∧s.gh≠gr:=fun s hs=>by
      obtain ⟨j,hj,hjs⟩:=z6v hs
      have h5:=(hC.row s (List.mem_of_getElem? hjs)).2.2.2.2
      exact ⟨hC.apart j i s r (by omega) hjs hr,(h5.lt s.gh rfl).2,fun e=>z2z ho h5 (by rw [← e];rfl)⟩
    have hghc:gh=r.gh∨w.heap.size≤gh:=b4.imp (fun e=>by have e2:some r.gh=some gh:=e;exact (Option.some.inj e2).symm) id
    refine ⟨he,MORE rs i (p / 64) (p % 64) gh ch r.live r.hs h,?_,fun p'=>z6Y hR hlow rfl rfl hbits r3,z6Z hR rfl rfl,?_,?_,b5,b6,?_⟩
    · refine hC.more (gr:=gr) (cap:=cap) hR hlow rfl rfl hp r2 hfew (fun x hx=>?_) hbits r3 (by omega) (by rw [hi1];exact b1) (by rw [hi1,z97 hr hi1 hn];exact b2) (by rw [za6];exact b3) (fun s hs=>?_) (fun s hs=>?_)
      · rcases List.mem_append.1 hx with h1 | h1
        · exact r4 x h1
        · rw [List.mem_singleton.1 h1];exact h8
      · obtain ⟨c1,c2,c3⟩:=hap s hs
        exact b7 s.gh c2 c3 (fun e=>c1 (by have e2:some r.gh=some s.gh:=e;exact (Option.some.inj e2).symm))
      · obtain ⟨c1,c2,c3⟩:=hap s hs
        rcases hghc with e | e
        · rw [e];exact c1
        · omega
    · intro s hs
      rcases z2V hs with h1 | rfl
      · exact .inl ⟨s,List.mem_of_mem_take h1,rfl⟩
      · exact hghc.imp (fun e=>⟨r,hrm,e.symm⟩) id
    · intro v v' e1 e2
      rw [hcell] at e1
      rw [b1.cell 0] at e2
      have e1:=Option.some.inj e1
      have e2:=Option.some.inj e2
      left
      rw [← e1,← e2]
    · intro b hb hbg hbv hbr
      refine b7 b hb (fun e=>hbv _ hcell (by rw [e];rfl)) (fun e=>?_)
      have e2:some r.gh=some b:=e
      exact hbr r hrm (Option.some.inj e2)
  · have hall:∀ r∈rs,r.num<p / 64:=fun r hr=>by
      rcases hN r hr with h1 | h1
      · exact h1
      · exfalso
        obtain ⟨j,hj⟩:=List.getElem?_of_mem hr
        have hjl:=(List.getElem?_eq_some_iff.1 hj).1
        by_cases e:j=rs.length - 1
        · subst e
          exact hL ⟨r,hj,h1.1⟩
        · have hl:rs.length - 1<rs.length:=by omega
          have h3:=hC.rise j (rs.length - 1) r _ (by omega) hj (List.getElem?_eq_getElem hl)
          rcases hN _ (List.getElem_mem hl) with h4 | h4 <;> omega
    have hR:REST rs rs.length (p / 64) 0 []:=.inl ⟨rfl,rfl,rfl⟩
    have hlow:∀ s∈rs.take rs.length,s.num<p / 64:=fun s hs=>hall s (List.mem_of_mem_take hs)
    have hbits:∀ j,j<64→(0:Nat).testBit j=true→j<p % 64:=fun j _ hb=>by simp at hb
    have hp0:([]:List (Nat→Nat)).length=POP 0:=by rw [z2T,z6t];rfl
    refine (zaX B g rs.length p (p / 64) (p % 64) (.slice a rs.length cap) (RC rs) h w hbx hC.far ho (by omega) rfl rfl hp hBw (fun W hW=>z7p hC hall W hW)).mono ?_
    rintro e w' ⟨he,gr,cap',gh,ch,b1,b2,b3,b4,b5,b6,b7,b8⟩
    refine ⟨he,MORE rs rs.length (p / 64) (p % 64) gh ch 0 [] h,?_,fun p'=>z6Y hR hlow rfl rfl hbits hp0,z6Z hR rfl rfl,?_,?_,b6,b7,?_⟩
    · refine hC.more (gr:=gr) (cap:=cap') hR hlow rfl rfl hp (by decide) hfew (fun x hx=>?_) hbits hp0 (Nat.le_refl _) b1 (by rw [z98 rfl];exact b2) (by rw [za6];exact b3) (fun s hs=>?_) (fun s hs=>?_)
      · rw [List.mem_singleton.1 hx];exact h8
      · have h5:=(hC.row s (List.mem_of_mem_take hs)).2.2.2.2
        refine b8 s.gh (h5.lt s.gh rfl).2 (fun e=>?_) (fun e=>?_)
        · obtain ⟨c,hc,_⟩:=z0z h5 (b:=s.gh) rfl
          rw [e,show w.heap[g]?=_ from hbx] at hc
          cases hc
        · obtain ⟨j,_,hjs⟩:=z6v hs
          have:0<rs.length:=by have:=(List.getElem?_eq_some_iff.1 hjs).1;omega
          obtain ⟨gr0,rfl,_⟩:=hfrm this
          exact z2z ho h5 (by have e2:some gr0=some s.gh:=e;rw [Option.some.inj e2];rfl)
      · have h5:=(hC.row s (List.mem_of_mem_take hs)).2.2.2.2
        have:=(h5.lt s.gh rfl).2
        omega
    · intro s hs
      rcases z2V hs with h1 | rfl
      · exact .inl ⟨s,List.mem_of_mem_take h1,rfl⟩
      · exact .inr b4
    · intro v v' e1 e2
      rw [hcell] at e1
      rw [b1.cell 0] at e2
      have e1:=Option.some.inj e1
      have e2:=Option.some.inj e2
      rw [← e1,← e2]
      rcases b5 with e | e
      · left
        exact e.symm
      · right
        exact ⟨gr,rfl,e⟩
    · intro b hb hbg hbv hbr
      exact b8 b hb hbg (hbv _ hcell)
end Go.Proofs.YtnmalbngdhjhjaaGreatDoor.HX

namespace Go.Proofs.YtnmalbngdhjhjaaGreatDoor.HX
open Go.RowKit Go.Maps
set_option maxRecDepth 100000
theorem z1B {w:World} {b o:Nat} {v:Value} (h:w.cell? ⟨b,o,none⟩=some v):(Instr.loadAt 81 (.pointer (some ⟨b,o,none⟩))).run Tryz.prog w=.ok v w:=by simp [go_sem,h]
theorem z1C {w:World} {g k:Nat} (hg:Has w g #[.int .u64 (k:Int)] 151):(Instr.loadAt 151 (.pointer (some ⟨g,0,none⟩))).run Tryz.prog w=.ok (KEY k) w:=by
  simp only [Instr.loadAt,Instr.sureAddr,Sem.run_bind,Sem.run_pure,Result.andThen]
  exact run_loadVar_row w g 151 151 #[.int .u64 (k:Int)] (0,0) _ hg Tryz.underlying151 rfl (by kernel_rfl)
@[go_sem] def SP4OPSq0:Oper:=⟨some 22,.move (.tmp 0),29,"store.go:200",#[],none⟩
@[go_sem] def SP4OPSq1:Oper:=⟨some 23,.nilCheck (.tmp 22),0,"store.go:200",#[⟨0,.data⟩],none⟩
@[go_sem] def SP4OPSq2:Oper:=⟨some 24,.fieldAddr 84 (.tmp 23) 3,0,"store.go:200",#[⟨1,.data⟩],none⟩
@[go_sem] def SP4OPSq3:Oper:=⟨some 25,.load 81 (.tmp 24),81,"store.go:200",#[⟨2,.data⟩],none⟩
@[go_sem] def SP4OPSq4:Oper:=⟨some 26,.load 151 (.tmp 6),151,"store.go:200",#[],none⟩
@[go_sem] def SP4OPSq5:Oper:=⟨some 27,.lookup 81 (.tmp 25) (.tmp 26) true,204,"store.go:200",#[⟨3,.data⟩,⟨4,.data⟩],none⟩
@[go_sem] def SP4OPSq6:Oper:=⟨some 21,.move (.tmp 27),204,"store.go:200",#[⟨5,.data⟩],none⟩
@[go_sem] def SP4OPSq7:Oper:=⟨some 28,.extract (.tmp 21) 0,153,"store.go:200",#[⟨6,.data⟩],none⟩
@[go_sem] def SP4OPSq8:Oper:=⟨some 29,.extract (.tmp 21) 1,4,"store.go:200",#[⟨6,.data⟩,{on:=9,ground:=.gcOnly Departure.lateStores}],none⟩
@[go_sem] def SP4OPSq9:Oper:=⟨some 7,.assign (.tmp 28),153,"store.go:200",#[⟨7,.data⟩,⟨0,.phase⟩,⟨1,.phase⟩,⟨2,.phase⟩,⟨3,.phase⟩,⟨4,.phase⟩,⟨5,.phase⟩,⟨6,.phase⟩,⟨7,.phase⟩,{on:=8,ground:=.textOnly Departure.lateStores}],none⟩
@[go_sem] def SP4OPSq10:Oper:=⟨some 8,.assign (.tmp 29),4,"store.go:200",#[⟨8,.data⟩,⟨9,.chain⟩,⟨0,.phase⟩,⟨1,.phase⟩,⟨2,.phase⟩,⟨3,.phase⟩,⟨4,.phase⟩,⟨5,.phase⟩,⟨6,.phase⟩,⟨7,.phase⟩,⟨8,.phase⟩,⟨9,.phase⟩],none⟩
def z1j:Array Oper:=#[SP4OPSq0,SP4OPSq1,SP4OPSq2,SP4OPSq3,SP4OPSq4,SP4OPSq5,SP4OPSq6,SP4OPSq7,SP4OPSq8,SP4OPSq9,SP4OPSq10]
set_option maxHeartbeats 2000000 in
theorem zaZ {Q:Exit→Act→World→Prop} (u1 u2 u3 u4 u5 u7 u8 u9 u10 u11 u12 u13 u14 u15 u16 u17 u18 u19 u20 u21 u22 u23 u24 u25 u26 u27 u28 u29 u30 u31 u32 u33 u34 u35 u36 u37 u38 u39 u40 u41 u42 u43 u44 u45 u46 u47 u48 u49 u50:Value) (W:World) (g b6 k:Nat) (mv v:Value) (b:Bool) (h3:W.cell? ⟨g,3,none⟩=some mv) (h6:Has W b6 #[.int .u64 (k:Int)] 151) (hlook:(Instr.lookup 81 mv (KEY k) true).run Tryz.prog W.drew=.ok (.tuple #[v,.bool b]) W.drew) (hQ:∀ c (a:Act) (t:Tmp) (v:Value) w,Q (.panic c) (a.put (some t) v) w→Q (.panic c) a w)
    (h:Q .normal {tmps:=#[.pointer (some ⟨g,0,none⟩),u1,u2,u3,u4,u5,.pointer (some ⟨b6,0,none⟩),v,.bool b,u9,u10,u11,u12,u13,u14,u15,u16,u17,u18,u19,u20,.tuple #[v,.bool b],.pointer (some ⟨g,0,none⟩),.pointer (some ⟨g,0,none⟩),.pointer (some ⟨g,3,none⟩),mv,KEY k,.tuple #[v,.bool b],v,.bool b,u30,u31,u32,u33,u34,u35,u36,u37,u38,u39,u40,u41,u42,u43,u44,u45,u46,u47,u48,u49,u50],defers:=[]} W.drew):(Code.region 4 z1j true).wp Tryz.prog Q {tmps:=#[.pointer (some ⟨g,0,none⟩),u1,u2,u3,u4,u5,.pointer (some ⟨b6,0,none⟩),u7,u8,u9,u10,u11,u12,u13,u14,u15,u16,u17,u18,u19,u20,u21,u22,u23,u24,u25,u26,u27,u28,u29,u30,u31,u32,u33,u34,u35,u36,u37,u38,u39,u40,u41,u42,u43,u44,u45,u46,u47,u48,u49,u50],defers:=[]} W:=by
  have d3:W.drew.cell? ⟨g,3,none⟩=some mv:=h3
  have d6:Has W.drew b6 #[.int .u64 (k:Int)] 151:=h6
  have s3_4_5_6_7_8_9_10:wpAny Tryz.prog .any z1j Q 0 #[true,true,true,true,true,true,true,true,true,true,true] {tmps:=#[.pointer (some ⟨g,0,none⟩),u1,u2,u3,u4,u5,.pointer (some ⟨b6,0,none⟩),v,.bool b,u9,u10,u11,u12,u13,u14,u15,u16,u17,u18,u19,u20,.tuple #[v,.bool b],.pointer (some ⟨g,0,none⟩),.pointer (some ⟨g,0,none⟩),.pointer (some ⟨g,3,none⟩),mv,KEY k,.tuple #[v,.bool b],v,.bool b,u30,u31,u32,u33,u34,u35,u36,u37,u38,u39,u40,u41,u42,u43,u44,u45,u46,u47,u48,u49,u50],defers:=[]} W.drew:=by
    exact wpAny_done (by kernel_rfl) h _
  have s3_4_5_6_7_8_9:wpAny Tryz.prog .any z1j Q 1 #[true,true,true,true,true,true,true,true,true,true,false] {tmps:=#[.pointer (some ⟨g,0,none⟩),u1,u2,u3,u4,u5,.pointer (some ⟨b6,0,none⟩),v,u8,u9,u10,u11,u12,u13,u14,u15,u16,u17,u18,u19,u20,.tuple #[v,.bool b],.pointer (some ⟨g,0,none⟩),.pointer (some ⟨g,0,none⟩),.pointer (some ⟨g,3,none⟩),mv,KEY k,.tuple #[v,.bool b],v,.bool b,u30,u31,u32,u33,u34,u35,u36,u37,u38,u39,u40,u41,u42,u43,u44,u45,u46,u47,u48,u49,u50],defers:=[]} W.drew:=by
    refine wpAny_ready (rs:=[10]) (by kernel_rfl) (by simp) ?_
    refine AllReady.cons (o:=SP4OPSq10) rfl (fun K hK=>z06 (v:=.bool b) rfl rfl (hK _ _ s3_4_5_6_7_8_9_10)) ?_
    exact AllReady.nil
  have s3_4_5_6_7_9:wpAny Tryz.prog .any z1j Q 2 #[true,true,true,true,true,true,true,true,false,true,false] {tmps:=#[.pointer (some ⟨g,0,none⟩),u1,u2,u3,u4,u5,.pointer (some ⟨b6,0,none⟩),v,u8,u9,u10,u11,u12,u13,u14,u15,u16,u17,u18,u19,u20,.tuple #[v,.bool b],.pointer (some ⟨g,0,none⟩),.pointer (some ⟨g,0,none⟩),.pointer (some ⟨g,3,none⟩),mv,KEY k,.tuple #[v,.bool b],v,u29,u30,u31,u32,u33,u34,u35,u36,u37,u38,u39,u40,u41,u42,u43,u44,u45,u46,u47,u48,u49,u50],defers:=[]} W.drew:=by
    refine wpAny_ready (rs:=[8]) (by kernel_rfl) (by simp) ?_
    refine AllReady.cons (o:=SP4OPSq8) rfl (fun K hK=>z06 (v:=.bool b) rfl rfl (hK _ _ s3_4_5_6_7_8_9)) ?_
    exact AllReady.nil
  have s3_4_5_6_7_8:wpAny Tryz.prog .any z1j Q 2 #[true,true,true,true,true,true,true,true,true,false,false] {tmps:=#[.pointer (some ⟨g,0,none⟩),u1,u2,u3,u4,u5,.pointer (some ⟨b6,0,none⟩),u7,u8,u9,u10,u11,u12,u13,u14,u15,u16,u17,u18,u19,u20,.tuple #[v,.bool b],.pointer (some ⟨g,0,none⟩),.pointer (some ⟨g,0,none⟩),.pointer (some ⟨g,3,none⟩),mv,KEY k,.tuple #[v,.bool b],v,.bool b,u30,u31,u32,u33,u34,u35,u36,u37,u38,u39,u40,u41,u42,u43,u44,u45,u46,u47,u48,u49,u50],defers:=[]} W.drew:=by
    refine wpAny_ready (rs:=[9]) (by kernel_rfl) (by simp) ?_
    refine AllReady.cons (o:=SP4OPSq9) rfl (fun K hK=>z06 (v:=v) rfl rfl (hK _ _ s3_4_5_6_7_8_9)) ?_
    exact AllReady.nil
  have s3_4_5_6_8:wpAny Tryz.prog .any z1j Q 3 #[true,true,true,true,true,true,true,false,true,false,false] {tmps:=#[.pointer (some ⟨g,0,none⟩),u1,u2,u3,u4,u5,.pointer (some ⟨b6,0,none⟩),u7,u8,u9,u10,u11,u12,u13,u14,u15,u16,u17,u18,u19,u20,.tuple #[v,.bool b],.pointer (some ⟨g,0,none⟩),.pointer (some ⟨g,0,none⟩),.pointer (some ⟨g,3,none⟩),mv,KEY k,.tuple #[v,.bool b],u28,.bool b,u30,u31,u32,u33,u34,u35,u36,u37,u38,u39,u40,u41,u42,u43,u44,u45,u46,u47,u48,u49,u50],defers:=[]} W.drew:=by
    refine wpAny_ready (rs:=[7]) (by kernel_rfl) (by simp) ?_
    refine AllReady.cons (o:=SP4OPSq7) rfl (fun K hK=>z06 (v:=v) rfl rfl (hK _ _ s3_4_5_6_7_8)) ?_
    exact AllReady.nil
  have s3_4_5_6_7:wpAny Tryz.prog .any z1j Q 3 #[true,true,true,true,true,true,true,true,false,false,false] {tmps:=#[.pointer (some ⟨g,0,none⟩),u1,u2,u3,u4,u5,.pointer (some ⟨b6,0,none⟩),u7,u8,u9,u10,u11,u12,u13,u14,u15,u16,u17,u18,u19,u20,.tuple #[v,.bool b],.pointer (some ⟨g,0,none⟩),.pointer (some ⟨g,0,none⟩),.pointer (some ⟨g,3,none⟩),mv,KEY k,.tuple #[v,.bool b],v,u29,u30,u31,u32,u33,u34,u35,u36,u37,u38,u39,u40,u41,u42,u43,u44,u45,u46,u47,u48,u49,u50],defers:=[]} W.drew:=by
    refine wpAny_ready (rs:=[8,9]) (by kernel_rfl) (by simp) ?_
    refine AllReady.cons (o:=SP4OPSq8) rfl (fun K hK=>z06 (v:=.bool b) rfl rfl (hK _ _ s3_4_5_6_7_8)) ?_
    refine AllReady.cons (o:=SP4OPSq9) rfl (fun K hK=>z06 (v:=v) rfl rfl (hK _ _ s3_4_5_6_7_9)) ?_
    exact AllReady.nil
  have s3_4_5_6:wpAny Tryz.prog .any z1j Q 4 #[true,true,true,true,true,true,true,false,false,false,false] {tmps:=#[.pointer (some ⟨g,0,none⟩),u1,u2,u3,u4,u5,.pointer (some ⟨b6,0,none⟩),u7,u8,u9,u10,u11,u12,u13,u14,u15,u16,u17,u18,u19,u20,.tuple #[v,.bool b],.pointer (some ⟨g,0,none⟩),.pointer (some ⟨g,0,none⟩),.pointer (some ⟨g,3,none⟩),mv,KEY k,.tuple #[v,.bool b],u28,u29,u30,u31,u32,u33,u34,u35,u36,u37,u38,u39,u40,u41,u42,u43,u44,u45,u46,u47,u48,u49,u50],defers:=[]} W.drew:=by
    refine wpAny_ready (rs:=[7,8]) (by kernel_rfl) (by simp) ?_
    refine AllReady.cons (o:=SP4OPSq7) rfl (fun K hK=>z06 (v:=v) rfl rfl (hK _ _ s3_4_5_6_7)) ?_
    refine AllReady.cons (o:=SP4OPSq8) rfl (fun K hK=>z06 (v:=.bool b) rfl rfl (hK _ _ s3_4_5_6_8)) ?_
    exact AllReady.nil
  have s3_4_5:wpAny Tryz.prog .any z1j Q 5 #[true,true,true,true,true,true,false,false,false,false,false] {tmps:=#[.pointer (some ⟨g,0,none⟩),u1,u2,u3,u4,u5,.pointer (some ⟨b6,0,none⟩),u7,u8,u9,u10,u11,u12,u13,u14,u15,u16,u17,u18,u19,u20,u21,.pointer (some ⟨g,0,none⟩),.pointer (some ⟨g,0,none⟩),.pointer (some ⟨g,3,none⟩),mv,KEY k,.tuple #[v,.bool b],u28,u29,u30,u31,u32,u33,u34,u35,u36,u37,u38,u39,u40,u41,u42,u43,u44,u45,u46,u47,u48,u49,u50],defers:=[]} W.drew:=by
    refine wpAny_ready (rs:=[6]) (by kernel_rfl) (by simp) ?_
    refine AllReady.cons (o:=SP4OPSq6) rfl (fun K hK=>z06 (v:=.tuple #[v,.bool b]) rfl rfl (hK _ _ s3_4_5_6)) ?_
    exact AllReady.nil
  have s3_4:wpAny Tryz.prog .any z1j Q 6 #[true,true,true,true,true,false,false,false,false,false,false] {tmps:=#[.pointer (some ⟨g,0,none⟩),u1,u2,u3,u4,u5,.pointer (some ⟨b6,0,none⟩),u7,u8,u9,u10,u11,u12,u13,u14,u15,u16,u17,u18,u19,u20,u21,.pointer (some ⟨g,0,none⟩),.pointer (some ⟨g,0,none⟩),.pointer (some ⟨g,3,none⟩),mv,KEY k,u27,u28,u29,u30,u31,u32,u33,u34,u35,u36,u37,u38,u39,u40,u41,u42,u43,u44,u45,u46,u47,u48,u49,u50],defers:=[]} W.drew:=by
    refine wpAny_ready (rs:=[5]) (by kernel_rfl) (by simp) ?_
    refine AllReady.cons (o:=SP4OPSq5) rfl (fun K hK=>z06 (v:=.tuple #[v,.bool b]) rfl (z07 (hlook)) (hK _ _ s3_4_5)) ?_
    exact AllReady.nil
  have s4:wpAny Tryz.prog .any z1j Q 7 #[true,true,true,false,true,false,false,false,false,false,false] {tmps:=#[.pointer (some ⟨g,0,none⟩),u1,u2,u3,u4,u5,.pointer (some ⟨b6,0,none⟩),u7,u8,u9,u10,u11,u12,u13,u14,u15,u16,u17,u18,u19,u20,u21,.pointer (some ⟨g,0,none⟩),.pointer (some ⟨g,0,none⟩),.pointer (some ⟨g,3,none⟩),u25,KEY k,u27,u28,u29,u30,u31,u32,u33,u34,u35,u36,u37,u38,u39,u40,u41,u42,u43,u44,u45,u46,u47,u48,u49,u50],defers:=[]} W.drew:=by
    refine wpAny_ready (rs:=[3]) (by kernel_rfl) (by simp) ?_
    refine AllReady.cons (o:=SP4OPSq3) rfl (fun K hK=>z06 (v:=mv) rfl (z07 (z1B d3)) (hK _ _ s3_4)) ?_
    exact AllReady.nil
  have s3:wpAny Tryz.prog .any z1j Q 7 #[true,true,true,true,false,false,false,false,false,false,false] {tmps:=#[.pointer (some ⟨g,0,none⟩),u1,u2,u3,u4,u5,.pointer (some ⟨b6,0,none⟩),u7,u8,u9,u10,u11,u12,u13,u14,u15,u16,u17,u18,u19,u20,u21,.pointer (some ⟨g,0,none⟩),.pointer (some ⟨g,0,none⟩),.pointer (some ⟨g,3,none⟩),mv,u26,u27,u28,u29,u30,u31,u32,u33,u34,u35,u36,u37,u38,u39,u40,u41,u42,u43,u44,u45,u46,u47,u48,u49,u50],defers:=[]} W.drew:=by
    refine wpAny_ready (rs:=[4]) (by kernel_rfl) (by simp) ?_
    refine AllReady.cons (o:=SP4OPSq4) rfl (fun K hK=>z06 (v:=KEY k) rfl (z07 (z1C d6)) (hK _ _ s3_4)) ?_
    exact AllReady.nil
  have s:wpAny Tryz.prog .any z1j Q 8 #[true,true,true,false,false,false,false,false,false,false,false] {tmps:=#[.pointer (some ⟨g,0,none⟩),u1,u2,u3,u4,u5,.pointer (some ⟨b6,0,none⟩),u7,u8,u9,u10,u11,u12,u13,u14,u15,u16,u17,u18,u19,u20,u21,.pointer (some ⟨g,0,none⟩),.pointer (some ⟨g,0,none⟩),.pointer (some ⟨g,3,none⟩),u25,u26,u27,u28,u29,u30,u31,u32,u33,u34,u35,u36,u37,u38,u39,u40,u41,u42,u43,u44,u45,u46,u47,u48,u49,u50],defers:=[]} W.drew:=by
    refine wpAny_ready (rs:=[3,4]) (by kernel_rfl) (by simp) ?_
    refine AllReady.cons (o:=SP4OPSq3) rfl (fun K hK=>z06 (v:=mv) rfl (z07 (z1B d3)) (hK _ _ s3)) ?_
    refine AllReady.cons (o:=SP4OPSq4) rfl (fun K hK=>z06 (v:=KEY k) rfl (z07 (z1C d6)) (hK _ _ s4)) ?_
    exact AllReady.nil
  refine wp_region_any (by kernel_rfl) ?_
  refine tkB SP4OPSq0 (.pointer (some ⟨g,0,none⟩)) 0 hQ ?_
  simp only [List.set]
  refine tkB SP4OPSq1 (.pointer (some ⟨g,0,none⟩)) 1 hQ ?_
  simp only [List.set]
  refine tkB SP4OPSq2 (.pointer (some ⟨g,3,none⟩)) 2 hQ ?_
  simp only [List.set]
  exact s
@[go_sem] def SP7OPSq0:Oper:=⟨some 34,.move (.tmp 0),29,"store.go:203",#[],none⟩
@[go_sem] def SP7OPSq1:Oper:=⟨some 35,.nilCheck (.tmp 34),0,"store.go:203",#[⟨0,.data⟩],none⟩
@[go_sem] def SP7OPSq2:Oper:=⟨some 36,.fieldAddr 84 (.tmp 35) 3,0,"store.go:203",#[⟨1,.data⟩],none⟩
@[go_sem] def SP7OPSq3:Oper:=⟨some 37,.load 81 (.tmp 36),81,"store.go:203",#[⟨2,.data⟩],none⟩
@[go_sem] def SP7OPSq4:Oper:=⟨some 38,.load 151 (.tmp 6),151,"store.go:203",#[],none⟩
@[go_sem] def SP7OPSq5:Oper:=⟨some 39,.move (.tmp 7),153,"store.go:203",#[],none⟩
@[go_sem] def SP7OPSq6:Oper:=⟨none,.mapUpdate 81 (.tmp 37) (.tmp 38) (.tmp 39),0,"store.go:203",#[⟨3,.data⟩,⟨4,.data⟩,⟨5,.data⟩,⟨0,.phase⟩,⟨1,.phase⟩,⟨2,.phase⟩,⟨3,.phase⟩,⟨4,.phase⟩,⟨5,.phase⟩],none⟩
def z3t:Array Oper:=#[SP7OPSq0,SP7OPSq1,SP7OPSq2,SP7OPSq3,SP7OPSq4,SP7OPSq5,SP7OPSq6]
set_option maxHeartbeats 2000000 in
theorem zf6 {Q:Exit→Act→World→Prop} (u1 u2 u3 u4 u5 u8 u9 u10 u11 u12 u13 u14 u15 u16 u17 u18 u19 u20 u21 u22 u23 u24 u25 u26 u27 u28 u29 u30 u31 u32 u33 u34 u35 u36 u37 u38 u39 u40 u41 u42 u43 u44 u45 u46 u47 u48 u49 u50:Value) (W:World) (g b6 k:Nat) (mv v7:Value) (w2:World) (h3:W.cell? ⟨g,3,none⟩=some mv) (h6:Has W b6 #[.int .u64 (k:Int)] 151) (hupd:(Instr.mapUpdate 81 mv (KEY k) v7).run Tryz.prog W.drew=.ok () w2) (hQ:∀ c (a:Act) (t:Tmp) (v:Value) w,Q (.panic c) (a.put (some t) v) w→Q (.panic c) a w)
    (h:Q .normal {tmps:=#[.pointer (some ⟨g,0,none⟩),u1,u2,u3,u4,u5,.pointer (some ⟨b6,0,none⟩),v7,u8,u9,u10,u11,u12,u13,u14,u15,u16,u17,u18,u19,u20,u21,u22,u23,u24,u25,u26,u27,u28,u29,u30,u31,u32,u33,.pointer (some ⟨g,0,none⟩),.pointer (some ⟨g,0,none⟩),.pointer (some ⟨g,3,none⟩),mv,KEY k,v7,u40,u41,u42,u43,u44,u45,u46,u47,u48,u49,u50],defers:=[]} (w2)):(Code.region 7 z3t true).wp Tryz.prog Q {tmps:=#[.pointer (some ⟨g,0,none⟩),u1,u2,u3,u4,u5,.pointer (some ⟨b6,0,none⟩),v7,u8,u9,u10,u11,u12,u13,u14,u15,u16,u17,u18,u19,u20,u21,u22,u23,u24,u25,u26,u27,u28,u29,u30,u31,u32,u33,u34,u35,u36,u37,u38,u39,u40,u41,u42,u43,u44,u45,u46,u47,u48,u49,u50],defers:=[]} W:=by
  have d3:W.drew.cell? ⟨g,3,none⟩=some mv:=h3
  have d6:Has W.drew b6 #[.int .u64 (k:Int)] 151:=h6
  have s3_4_6:wpAny Tryz.prog .any z3t Q 0 #[true,true,true,true,true,true,true] {tmps:=#[.pointer (some ⟨g,0,none⟩),u1,u2,u3,u4,u5,.pointer (some ⟨b6,0,none⟩),v7,u8,u9,u10,u11,u12,u13,u14,u15,u16,u17,u18,u19,u20,u21,u22,u23,u24,u25,u26,u27,u28,u29,u30,u31,u32,u33,.pointer (some ⟨g,0,none⟩),.pointer (some ⟨g,0,none⟩),.pointer (some ⟨g,3,none⟩),mv,KEY k,v7,u40,u41,u42,u43,u44,u45,u46,u47,u48,u49,u50],defers:=[]} (w2):=by
    exact wpAny_done (by kernel_rfl) h _
  have s3_4:wpAny Tryz.prog .any z3t Q 1 #[true,true,true,true,true,true,false] {tmps:=#[.pointer (some ⟨g,0,none⟩),u1,u2,u3,u4,u5,.pointer (some ⟨b6,0,none⟩),v7,u8,u9,u10,u11,u12,u13,u14,u15,u16,u17,u18,u19,u20,u21,u22,u23,u24,u25,u26,u27,u28,u29,u30,u31,u32,u33,.pointer (some ⟨g,0,none⟩),.pointer (some ⟨g,0,none⟩),.pointer (some ⟨g,3,none⟩),mv,KEY k,v7,u40,u41,u42,u43,u44,u45,u46,u47,u48,u49,u50],defers:=[]} W.drew:=by
    refine wpAny_ready (rs:=[6]) (by kernel_rfl) (by simp) ?_
    refine AllReady.cons (o:=SP7OPSq6) rfl (fun K hK=>z1a rfl (z1p (hupd)) (hK _ _ s3_4_6)) ?_
    exact AllReady.nil
  have s4:wpAny Tryz.prog .any z3t Q 2 #[true,true,true,false,true,true,false] {tmps:=#[.pointer (some ⟨g,0,none⟩),u1,u2,u3,u4,u5,.pointer (some ⟨b6,0,none⟩),v7,u8,u9,u10,u11,u12,u13,u14,u15,u16,u17,u18,u19,u20,u21,u22,u23,u24,u25,u26,u27,u28,u29,u30,u31,u32,u33,.pointer (some ⟨g,0,none⟩),.pointer (some ⟨g,0,none⟩),.pointer (some ⟨g,3,none⟩),u37,KEY k,v7,u40,u41,u42,u43,u44,u45,u46,u47,u48,u49,u50],defers:=[]} W.drew:=by
    refine wpAny_ready (rs:=[3]) (by kernel_rfl) (by simp) ?_
    refine AllReady.cons (o:=SP7OPSq3) rfl (fun K hK=>z06 (v:=mv) rfl (z07 (z1B d3)) (hK _ _ s3_4)) ?_
    exact AllReady.nil
  have s3:wpAny Tryz.prog .any z3t Q 2 #[true,true,true,true,false,true,false] {tmps:=#[.pointer (some ⟨g,0,none⟩),u1,u2,u3,u4,u5,.pointer (some ⟨b6,0,none⟩),v7,u8,u9,u10,u11,u12,u13,u14,u15,u16,u17,u18,u19,u20,u21,u22,u23,u24,u25,u26,u27,u28,u29,u30,u31,u32,u33,.pointer (some ⟨g,0,none⟩),.pointer (some ⟨g,0,none⟩),.pointer (some ⟨g,3,none⟩),mv,u38,v7,u40,u41,u42,u43,u44,u45,u46,u47,u48,u49,u50],defers:=[]} W.drew:=by
    refine wpAny_ready (rs:=[4]) (by kernel_rfl) (by simp) ?_
    refine AllReady.cons (o:=SP7OPSq4) rfl (fun K hK=>z06 (v:=KEY k) rfl (z07 (z1C d6)) (hK _ _ s3_4)) ?_
    exact AllReady.nil
  have s:wpAny Tryz.prog .any z3t Q 3 #[true,true,true,false,false,true,false] {tmps:=#[.pointer (some ⟨g,0,none⟩),u1,u2,u3,u4,u5,.pointer (some ⟨b6,0,none⟩),v7,u8,u9,u10,u11,u12,u13,u14,u15,u16,u17,u18,u19,u20,u21,u22,u23,u24,u25,u26,u27,u28,u29,u30,u31,u32,u33,.pointer (some ⟨g,0,none⟩),.pointer (some ⟨g,0,none⟩),.pointer (some ⟨g,3,none⟩),u37,u38,v7,u40,u41,u42,u43,u44,u45,u46,u47,u48,u49,u50],defers:=[]} W.drew:=by
    refine wpAny_ready (rs:=[3,4]) (by kernel_rfl) (by simp) ?_
    refine AllReady.cons (o:=SP7OPSq3) rfl (fun K hK=>z06 (v:=mv) rfl (z07 (z1B d3)) (hK _ _ s3)) ?_
    refine AllReady.cons (o:=SP7OPSq4) rfl (fun K hK=>z06 (v:=KEY k) rfl (z07 (z1C d6)) (hK _ _ s4)) ?_
    exact AllReady.nil
  refine wp_region_any (by kernel_rfl) ?_
  refine tkB SP7OPSq0 (.pointer (some ⟨g,0,none⟩)) 0 hQ ?_
  simp only [List.set]
  refine tkB SP7OPSq1 (.pointer (some ⟨g,0,none⟩)) 1 hQ ?_
  simp only [List.set]
  refine tkB SP7OPSq2 (.pointer (some ⟨g,3,none⟩)) 2 hQ ?_
  simp only [List.set]
  refine tkB SP7OPSq5 v7 5 hQ ?_
  simp only [List.set]
  exact s
end Go.Proofs.YtnmalbngdhjhjaaGreatDoor.HX
