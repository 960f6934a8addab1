/- Texts of SpanVerifies, one behind the other: SpanDecodeRegion, SpanDecode, SpanRoundPlain, SpanVerify. -/
import Derived.Test.YthdpkaiieomdoaaGreatDoorSpanVerifiesP27
namespace Go.Proofs.YthdpkaiieomdoaaGreatDoor
set_option linter.unusedSimpArgs false
open Go.RowKit
set_option maxRecDepth 100000
theorem z98 {w:World} {g:Nat} (h:Has w g ZREACH 28):(Instr.storeAt 28 (.pointer (some ⟨g,0,none⟩)) (.agg ZREACH)).run Tryz.prog w=.ok () (w.setRow g ZREACH):=by
  simp only [Instr.storeAt,Instr.sureAddr,Sem.run_bind,Sem.run_pure,Result.andThen]
  exact run_storeVar_row w g 28 28 ZREACH _ h z1m rfl (by simp [go_sem,Value.oneCell'])
@[go_sem] def SDR4OPSq0:Oper:=⟨some 12,.build 28 #[],28,"span.go:55",#[],none⟩
@[go_sem] def SDR4OPSq1:Oper:=⟨some 13,.fieldAddr 108 (.tmp 4) 1,0,"span.go:55",#[{on:=3,ground:=.gcOnly Departure.lateStores}],none⟩
@[go_sem] def SDR4OPSq2:Oper:=⟨some 14,.load 31 (.tmp 13),31,"span.go:55",#[⟨1,.data⟩,{on:=3,ground:=.gcOnly Departure.lateStores}],none⟩
@[go_sem] def SDR4OPSq3:Oper:=⟨none,.store 28 (.tmp 2) (.tmp 12),0,"span.go:55",#[⟨0,.data⟩,⟨0,.phase⟩,{on:=1,ground:=.textOnly Departure.lateStores},{on:=2,ground:=.textOnly Departure.lateStores}],none⟩
@[go_sem] def SDR4OPSq4:Oper:=⟨some 3,.assign (.tmp 14),31,"span.go:55",#[⟨2,.data⟩,⟨3,.chain⟩,⟨0,.phase⟩,⟨1,.phase⟩,⟨2,.phase⟩,⟨3,.phase⟩],none⟩
def z4K:Array Oper:=#[SDR4OPSq0,SDR4OPSq1,SDR4OPSq2,SDR4OPSq3,SDR4OPSq4]
set_option maxHeartbeats 2000000 in
theorem zfH {Q:Exit→Act→World→Prop} {u0 u1 u3 u5 u6 u7 u8 u9 u10 u11 u12 u13 u14 u15:Value} (W:World) (b1 rb:Nat) (E:Int) (P0 P1:World→Prop) (h0:P0 W.drew) (t0:∀ w,P0 w→(fun w:World=>w.cell? ⟨rb,1,none⟩=some (.int .i64 E)) w) (t1:∀ w,P1 w→(fun w:World=>w.cell? ⟨rb,1,none⟩=some (.int .i64 E)) w) (g0:∀ w,P0 w→Has w b1 ZREACH 28) (st:∀ w,P0 w→P1 (w.setRow b1 ZREACH)) (hQ:∀ c (a:Act) (t:Tmp) (v:Value) w,Q (.panic c) (a.put (some t) v) w→Q (.panic c) a w)
    (hfin:∀ (w:World),(P1 w)→Q .normal {tmps:=#[u0,u1,.pointer (some ⟨b1,0,none⟩),.int .i64 E,.pointer (some ⟨rb,0,none⟩),u5,u6,u7,u8,u9,u10,u11,.agg ZREACH,.pointer (some ⟨rb,1,none⟩),.int .i64 E,u15],defers:=[]} w):(Code.region 4 z4K true).wp Tryz.prog Q {tmps:=#[u0,u1,.pointer (some ⟨b1,0,none⟩),u3,.pointer (some ⟨rb,0,none⟩),u5,u6,u7,u8,u9,u10,u11,u12,u13,u14,u15],defers:=[]} W:=by
  have ekst_3:∀ (w:World),(P1 w)→wpAnyH Tryz.prog .any z4K Q (fun w:World=>w.cell? ⟨rb,1,none⟩=some (.int .i64 E)) 1 #[true,true,true,true,false] {tmps:=#[u0,u1,.pointer (some ⟨b1,0,none⟩),u3,.pointer (some ⟨rb,0,none⟩),u5,u6,u7,u8,u9,u10,u11,.agg ZREACH,.pointer (some ⟨rb,1,none⟩),.int .i64 E,u15],defers:=[]} w:=fun  w hp=>by
    have hww:(fun w:World=>w.cell? ⟨rb,1,none⟩=some (.int .i64 E)) w:=t1 _ hp
    refine tkP SDR4OPSq4 (.int .i64 E) 4 hQ hww ?_
    simp only [List.set]
    exact wpAnyH_done (by kernel_rfl) (hfin  w hp) _
  have kst:∀ (w:World),(P0 w)→wpAnyH Tryz.prog .any z4K Q (fun w:World=>w.cell? ⟨rb,1,none⟩=some (.int .i64 E)) 2 #[true,true,true,false,false] {tmps:=#[u0,u1,.pointer (some ⟨b1,0,none⟩),u3,.pointer (some ⟨rb,0,none⟩),u5,u6,u7,u8,u9,u10,u11,.agg ZREACH,.pointer (some ⟨rb,1,none⟩),.int .i64 E,u15],defers:=[]} w:=fun  w hp=>by
    refine wpAnyH_ready (rs:=[3]) (by kernel_rfl) (by simp) ?_
    refine AllReadyH.cons (o:=SDR4OPSq3) rfl (fun KQ hKQ=>?_) ?_
    · exact z0J rfl (z5k (z98 (g0 _ hp))) (have hp:(fun (w:World)=>(P1 w))  _:=st _ hp;hKQ.out _ _ (t1 _ hp) (fun _=>ekst_3  _ hp))
    exact AllReadyH.nil
  have hp:=h0
  have hww:(fun w:World=>w.cell? ⟨rb,1,none⟩=some (.int .i64 E)) W.drew:=t0 _ hp
  have last:=kst W.drew hp
  have z:wpAnyH Tryz.prog .any z4K Q (fun w:World=>w.cell? ⟨rb,1,none⟩=some (.int .i64 E)) 5 #[false,false,false,false,false] {tmps:=#[u0,u1,.pointer (some ⟨b1,0,none⟩),u3,.pointer (some ⟨rb,0,none⟩),u5,u6,u7,u8,u9,u10,u11,u12,u13,u14,u15],defers:=[]} W.drew:=by
    refine tkH SDR4OPSq0 (.agg ZREACH) 0 hQ (Or.inl ⟨by rfl,fun w hw=>by have hx:Tryz.prog.built 28 []=some ZREACH:=(by kernel_rfl);go_simp⟩) hww ?_
    simp only [List.set]
    refine tkP SDR4OPSq1 (.pointer (some ⟨rb,1,none⟩)) 1 hQ hww ?_
    simp only [List.set]
    refine tkH SDR4OPSq2 (.int .i64 E) 2 hQ (Or.inl ⟨by rfl,fun w hw=>by have hx:=hw;go_simp⟩) hww ?_
    simp only [List.set]
    exact last
  exact wp_region_held_drew (S:=(fun w:World=>w.cell? ⟨rb,1,none⟩=some (.int .i64 E))) (by kernel_rfl) hww (fun _=>z)
end Go.Proofs.YthdpkaiieomdoaaGreatDoor

namespace Go.Proofs.YthdpkaiieomdoaaGreatDoor
open Go.RowKit
set_option maxRecDepth 100000
theorem zaU:(Tryz.prog.info? 108).map (·.size)=some 2:=by kernel_rfl
def DECS (w:World) (A:SANS) (e:Ending) (w':World):Prop:=∃ a c,e=.returned (.tuple #[.agg #[.int .u64 (A.2.1:Int),.int .u64 (A.2.2.1:Int),.int .u64 (A.2.2.2.1:Int),.slice a A.2.2.2.2.1 c],.int .i64 A.1])∧w'.ownsRow w.heap.size 23 32 (.slice a A.2.2.2.2.1 c) A.2.2.2.2.1 (z00 A.2.2.2.2.2)∧Below w.heap.size w w'
set_option maxHeartbeats 8000000 in
theorem z75 (x:Option Addr) (n c:Nat) (l:List Int) (w:World) (hB:Bytes w x n l) (hc:n≤c) (hn:n≤1000000) (hT:Tabled w) (h0:0<w.heap.size):Calls Tryz.prog 28 #[.slice x n c] w (DECS w (SDEC l)):=by
  obtain ⟨w1,e1⟩:∃ w1,w.alloc (.cells ZREACH 28)=w1:=⟨_,rfl⟩
  obtain ⟨w2,e2⟩:∃ w2,w1.alloc (.cells #[.slice x n c,.int .i64 0] 108)=w2:=⟨_,rfl⟩
  have s1:w1.heap.size=w.heap.size+1:=by rw [← e1];simp
  have s2:w2.heap.size=w.heap.size+2:=by rw [← e2];simp;omega
  have hb1:Below w.heap.size w w1:=by rw [← e1];exact (Below.refl _ _).alloc (Nat.le_refl _) _
  have hb2:Below w.heap.size w w2:=by rw [← e2];exact hb1.alloc (by omega) _
  have H1:Has w2 w.heap.size ZREACH 28:=by rw [← e2,← e1];exact (Has.new w _ _).alloc _
  have H2:Has w2 w1.heap.size #[.slice x n c,.int .i64 0] 108:=by rw [← e2];exact Has.new w1 _ _
  have hl:l.length=n:=hB.1
  have R2:RD20 w w2 w1.heap.size 0 l:=⟨⟨x,c,by rw [hl];exact H2,by rw [← hl] at hB;exact ⟨hB,by omega,by omega⟩⟩,hb2,by omega⟩
  have cp:=zcd R2 hT h0
  have HR:Aside (Below w.heap.size w w2∧Has w2 w.heap.size ZREACH 28∧w1.heap.size=w.heap.size+1∧w2.heap.size=w.heap.size+2):=⟨hb2,H1,s1,s2⟩
  clear s1 s2 hb1 hb2 H1 H2 hl R2 hT h0 hB hc hn
  have infoR:(Tryz.prog.info? 108).map (·.size)=some (#[Value.slice x n c,.int .i64 0]:Array Value).size:=zaU
  go_enter Tryz.func28,Tryz.ntmps28
  go_wp2_with (first
    | (refine wpList_store_row rfl 108 (.tmp 4) (.tmp 7) rfl _ _ rfl rfl 108 _ (Has.new w1 _ _) infoR rfl (by simp [Value.oneCell']) ?_;rw [World.setRow_alloc_new,e2]))
  refine cp.mono ?_
  rintro e w3 ⟨S,F,T,K,c3,a3,E,ll,t',rfl,d1,d2,hown,R3,ST3⟩
  clear cp e1 e2 infoR
  obtain ⟨w4,e4⟩:∃ w4,w3.alloc (.cells #[.int .u64 (S:Int),.int .u64 (F:Int),.int .u64 (T:Int),.slice a3 K c3] 28)=w4:=⟨_,rfl⟩
  have infoM:(Tryz.prog.info? 28).map (·.size)=some (#[Value.int .u64 (S:Int),.int .u64 (F:Int),.int .u64 (T:Int),.slice a3 K c3]:Array Value).size:=z1m
  have sizeM:ZREACH.size=(#[Value.int .u64 (S:Int),.int .u64 (F:Int),.int .u64 (T:Int),.slice a3 K c3]:Array Value).size:=rfl
  have allM:(#[Value.int .u64 (S:Int),.int .u64 (F:Int),.int .u64 (T:Int),.slice a3 K c3]:Array Value).all (·.oneCell')=true:=by simp [Value.oneCell']
  have hb4:Below w3.heap.size w3 w4:=by rw [← e4];exact (Below.refl _ _).alloc (Nat.le_refl _) _
  have hrs:w1.heap.size<w3.heap.size:=R3.lt
  have hw3:Below w.heap.size w w3:=R3.bel
  have W4:Aside (RD20 w w4 w1.heap.size E t'∧Has w4 w.heap.size ZREACH 28∧Has w4 w3.heap.size #[.int .u64 (S:Int),.int .u64 (F:Int),.int .u64 (T:Int),.slice a3 K c3] 28∧w4.ownsRow w2.heap.size 23 32 (.slice a3 K c3) K (z00 ll)∧Below w.heap.size w w4∧w.heap.size<w1.heap.size∧w1.heap.size<w3.heap.size∧w1.heap.size<w2.heap.size):=⟨R3.keep hb4,(ST3.has HR.out.2.1 (by have:=HR.out.2.2.1;omega)).keep hb4,by rw [← e4];exact Has.new w3 _ _,z0v hown hb4,hw3.trans (hb4.mono hw3.size),by have:=HR.out.2.2.1;omega,hrs,by have:=HR.out;omega⟩
  have x1:w4.cell? ⟨w1.heap.size,1,none⟩=some (.int .i64 E):=by
    obtain ⟨_,_,h,_⟩:=W4.out.1.rd
    exact h.cell 1
  have DD:Aside ((E≠0→SDEC l=SERR E)∧(E=0→SDEC l=(0,S,F,T,K,ll))):=⟨d1,d2⟩
  have MM:Aside ((Tryz.prog.info? 28).map (·.size)=some (#[Value.int .u64 (S:Int),.int .u64 (F:Int),.int .u64 (T:Int),.slice a3 K c3]:Array Value).size∧ZREACH.size=(#[Value.int .u64 (S:Int),.int .u64 (F:Int),.int .u64 (T:Int),.slice a3 K c3]:Array Value).size∧(#[Value.int .u64 (S:Int),.int .u64 (F:Int),.int .u64 (T:Int),.slice a3 K c3]:Array Value).all (·.oneCell')=true):=⟨infoM,sizeM,allM⟩
  clear d1 d2 hown R3 ST3 hb4 hrs hw3 sizeM allM HR
  by_cases hE:E=0
  · subst hE
    have FN:Aside (∀ e,e=.returned (.tuple #[.agg #[.int .u64 (S:Int),.int .u64 (F:Int),.int .u64 (T:Int),.slice a3 K c3],.int .i64 0])→DECS w (SDEC l) e (w4.setRow w.heap.size #[.int .u64 (S:Int),.int .u64 (F:Int),.int .u64 (T:Int),.slice a3 K c3])):=by
      rintro e rfl
      rw [DD.out.2 rfl]
      refine ⟨a3,c3,rfl,?_,z04 W4.out.2.2.2.2.1 (Nat.le_refl _) _⟩
      exact z0f (z4q W4.out.2.2.2.1 fun k e=>setRow_other _ _ _ _ (by have h1:=(W4.out.2.2.2.1.lt k e).1;have:=W4.out.2.2.2.2.2;omega)) (by have:=W4.out.2.2.2.2.2;omega)
    have WW:Aside (Has w4 w3.heap.size #[.int .u64 (S:Int),.int .u64 (F:Int),.int .u64 (T:Int),.slice a3 K c3] 28∧Has w4 w.heap.size ZREACH 28):=⟨W4.out.2.2.1,W4.out.2.1⟩
    clear W4 DD
    go_wp2_with (first
      | (refine wpList_store_row rfl 28 (.tmp 5) (.tmp 8) rfl _ _ rfl rfl 28 ZREACH (Has.new w3 _ _) MM.out.1 MM.out.2.1 MM.out.2.2 ?_;rw [World.setRow_alloc_new,e4])
      | (refine wpList_load_row rfl 28 (.tmp 5) rfl w3.heap.size rfl 28 #[.int .u64 (S:Int),.int .u64 (F:Int),.int .u64 (T:Int),.slice a3 K c3] (0,0) _ WW.out.1 Tryz.underlying28 rfl MM.out.1 ?_)
      | (refine wpList_store_row rfl 28 (.tmp 2) (.tmp 15) rfl _ _ rfl rfl 28 ZREACH WW.out.2 MM.out.1 MM.out.2.1 MM.out.2.2 ?_))
    refine bodyPost_ret (v:=.tuple #[.agg #[.int .u64 (S:Int),.int .u64 (F:Int),.int .u64 (T:Int),.slice a3 K c3],.int .i64 0]) ?_ rfl (FN.out _ rfl)
    rw [results_cell_tmp rfl]
    have hrow:=WW.out.2.row #[.int .u64 (S:Int),.int .u64 (F:Int),.int .u64 (T:Int),.slice a3 K c3]
    simp [asAddr,run_loadVar_row _ w.heap.size 28 28 _ (0,0) _ hrow Tryz.underlying28 rfl MM.out.1]
  · have hne:(E != 0)=true:=by simp [hE]
    have FN:Aside (∀ e,e=.returned (.tuple #[.agg #[.int .u64 0,.int .u64 0,.int .u64 0,.slice none 0 0],.int .i64 E])→DECS w (SDEC l) e (w4.drew.setRow w.heap.size ZREACH)):=by
      rintro e rfl
      rw [DD.out.1 hE]
      exact ⟨none,0,rfl,z2t _ _,z04 W4.out.2.2.2.2.1.drew (Nat.le_refl _) _⟩
    have WW:Aside (Has w4 w.heap.size ZREACH 28∧w4.cell? ⟨w1.heap.size,1,none⟩=some (.int .i64 E)∧w.heap.size<w1.heap.size):=⟨W4.out.2.1,x1,W4.out.2.2.2.2.2.1⟩
    clear W4 DD hE
    go_upto_region 4 with (first
      | (refine wpList_store_row rfl 28 (.tmp 5) (.tmp 8) rfl _ _ rfl rfl 28 ZREACH (Has.new w3 _ _) MM.out.1 MM.out.2.1 MM.out.2.2 ?_;rw [World.setRow_alloc_new,e4]))
    refine zfH w4 w.heap.size w1.heap.size E (fun w=>w=w4.drew) (fun w8=>w8=w4.drew.setRow w.heap.size ZREACH) rfl ?_ ?_ ?_ ?_ (fun _ _ _ _ _ h=>h) ?_
    case refine_1=>rintro w8 rfl;exact WW.out.2.1
    case refine_2=>
      rintro w8 rfl
      refine (World.cell?_of_block (w:=w4) ?_).trans WW.out.2.1
      exact setRow_other w4.drew _ _ _ (by show w1.heap.size≠w.heap.size;have:=WW.out.2.2;omega)
    case refine_3=>rintro w8 rfl;exact WW.out.1
    case refine_4=>rintro w8 rfl;rfl
    rintro w8 rfl
    go_wp2_with fail
    refine bodyPost_ret (v:=.tuple #[.agg #[.int .u64 0,.int .u64 0,.int .u64 0,.slice none 0 0],.int .i64 E]) ?_ rfl (FN.out _ rfl)
    rw [results_cell_tmp rfl]
    have hrow:=(show Has w4.drew w.heap.size ZREACH 28 from WW.out.1).row ZREACH
    simp [asAddr,run_loadVar_row _ w.heap.size 28 28 _ (0,0) _ hrow Tryz.underlying28 rfl z1m]
end Go.Proofs.YthdpkaiieomdoaaGreatDoor

namespace Go.Proofs.YthdpkaiieomdoaaGreatDoor
set_option maxRecDepth 100000
theorem z5u {t:List Int} {most:Nat} {bey:Int} (hb:bey≠0) (hr:∀ x∈t,0≤x∧x≤255) (h:SNE t most bey=0):∃ X:Nat,X≤most∧X<2 ^ 64∧(LNG t).1.toNat=X∧t=z0o X ++ t.drop (LNG t).2.1.toNat:=by
  unfold SNE at h
  by_cases h3:(LNG t).2.2=0
  · rw [if_pos h3] at h
    obtain ⟨Z,m,q1,q2,q3,q4,q5⟩:=z34 hr h3
    rw [q4] at h
    by_cases hz:(most:Int)<(Z:Int)
    · rw [if_pos hz] at h
      exact absurd h hb
    · refine ⟨Z,by omega,q1,by rw [q4];exact Int.toNat_natCast Z,?_⟩
      rw [q4,q5]
      show t=t.take m ++ t.drop ((m:Int)).toNat
      rw [Int.toNat_natCast,List.take_append_drop]
  · rw [if_neg h3] at h
    exact absurd h h3
theorem zaV {l:List Int} (hr:∀ x∈l,0≤x∧x≤255):(∃ E,E≠0∧SDEC l=SERR E)∨(∃ S F T K t,SDEC l=(0,S,F,T,K,t)∧SWA S F T K=0∧t.length=32*K∧l=SWRT S F (T - F) t):=by
  by_cases hk:(K20 l).1=0
  · have hl : l ≠ []:=fun e=>by rw [e] at hk;cases hk
    cases l with
    | nil=>exact absurd rfl hl
    | cons x u=>
      have hx:x=83:=by
        unfold K20 at hk
        rw [if_neg (by simp)] at hk
        by_cases hx:x=83
        · exact hx
        · rw [if_pos (by simpa using hx)] at hk
          cases hk
      subst hx
      have hK:K20 (83 :: u)=(0,u):=by
        unfold K20
        rw [if_neg (by simp),if_neg (by simp)]
        rfl
      have hru:∀ y∈u,0≤y∧y≤255:=fun y hy=>hr y (List.mem_cons_of_mem _ hy)
      have d0:SDEC (83 :: u)=SD0 u:=by
        unfold SDEC
        rw [hK,if_neg (by simp)]
      rw [d0]
      by_cases e1:SNE u 4611686018427387904 30=0
      · obtain ⟨S,p1,p2,p3,p4⟩:=z5u (by decide) hru e1
        have d1:SD0 u=SD1 S (u.drop (LNG u).2.1.toNat):=by
          unfold SD0
          rw [if_neg (by simp [e1]),p3]
        rw [d1]
        have hr1:∀ y∈u.drop (LNG u).2.1.toNat,0≤y∧y≤255:=fun y hy=>hru y (List.mem_of_mem_drop hy)
        generalize u.drop (LNG u).2.1.toNat=u1 at *
        by_cases e2:SNE u1 S 32=0
        · obtain ⟨F,q1,q2,q3,q4⟩:=z5u (by decide) hr1 e2
          have d2:SD1 S u1=SD2 S F (u1.drop (LNG u1).2.1.toNat):=by
            unfold SD1
            rw [if_neg (by simp [e2]),q3]
          rw [d2]
          have hr2:∀ y∈u1.drop (LNG u1).2.1.toNat,0≤y∧y≤255:=fun y hy=>hr1 y (List.mem_of_mem_drop hy)
          generalize u1.drop (LNG u1).2.1.toNat=u2 at *
          by_cases e3:SNE u2 (S - F) 32=0
          · obtain ⟨X,r1,r2,r3,r4⟩:=z5u (by decide) hr2 e3
            have d3:SD2 S F u2=SD3 S F (F+X) (u2.drop (LNG u2).2.1.toNat):=by
              unfold SD2
              rw [if_neg (by simp [e3]),r3]
            rw [d3]
            generalize u2.drop (LNG u2).2.1.toNat=u3 at *
            unfold SD3
            by_cases c1:u3.length<32*(SPP F (F+X) S).length
            · rw [if_pos c1]
              exact .inl ⟨11,by decide,rfl⟩
            · by_cases c2:32*(SPP F (F+X) S).length<u3.length
              · rw [if_neg c1,if_pos c2]
                exact .inl ⟨13,by decide,rfl⟩
              · rw [if_neg c1,if_neg c2]
                refine .inr ⟨S,F,F+X,_,u3,rfl,?_,by omega,?_⟩
                · unfold SWA
                  have:SPE F (F+X) S=0:=by unfold SPE;rw [if_neg (by omega),if_neg (by omega)]
                  rw [this,if_pos rfl,if_pos rfl]
                · unfold SWRT
                  rw [show F+X - F=X by omega,List.append_assoc,List.append_assoc,← r4,← q4,← p4]
          · exact .inl ⟨_,e3,by unfold SD2;rw [if_pos e3]⟩
        · exact .inl ⟨_,e2,by unfold SD1;rw [if_pos e2]⟩
      · exact .inl ⟨_,e1,by unfold SD0;rw [if_pos e1]⟩
  · exact .inl ⟨_,hk,by unfold SDEC;rw [if_pos hk]⟩
end Go.Proofs.YthdpkaiieomdoaaGreatDoor

namespace Go.Proofs.YthdpkaiieomdoaaGreatDoor
open Go.RowKit
set_option maxRecDepth 100000
theorem z5X {b:List Int} (hr:∀ x∈b,0≤x∧x≤255) (h:(SDEC b).1=0):∃ S F T K t,SDEC b=(0,S,F,T,K,t)∧SWA S F T K=0∧t.length=32*K∧∀ x∈t,0≤x∧x≤255:=by
  rcases zaV hr with ⟨E,hE,e⟩ | ⟨S,F,T,K,t,e,h1,h2,h3⟩
  · rw [e] at h
    exact absurd h hE
  · refine ⟨S,F,T,K,t,e,h1,h2,fun x hx=>hr x ?_⟩
    rw [h3,SWRT]
    simp [hx]
def SVA (d:Int) (root:List Int) (N F T nl:Nat) (lv b:List Int):Int:=
  if (SDEC b).1≠0 then (SDEC b).1 else if (SDEC b).2.1≠N then 30 else if (SDEC b).2.2.1≠F∨(SDEC b).2.2.2.1≠T then 32 else if nl≠T - F then 70 else if z0u d N (FLD d (MUPS d (TPS N) (SEG F T) lv (SDEC b).2.2.2.2.2) (PC N))=root then 0 else 80
structure SVAS (d:Int) (root:List Int) (N F T nl:Nat) (lv b:List Int) (V:Int):Prop where
  dec:(SDEC b).1≠0→V=(SDEC b).1
  size:(SDEC b).1=0→(SDEC b).2.1≠N→V=30
  index:(SDEC b).1=0→(SDEC b).2.1=N→((SDEC b).2.2.1≠F∨(SDEC b).2.2.2.1≠T)→V=32
  count:(SDEC b).1=0→(SDEC b).2.1=N→(SDEC b).2.2.1=F→(SDEC b).2.2.2.1=T→nl≠T - F→V=70
  unlike:(SDEC b).1=0→(SDEC b).2.1=N→(SDEC b).2.2.1=F→(SDEC b).2.2.2.1=T→nl=T - F→z0u d N (FLD d (MUPS d (TPS N) (SEG F T) lv (SDEC b).2.2.2.2.2) (PC N))≠root→V=80
  ok:(SDEC b).1=0→(SDEC b).2.1=N→(SDEC b).2.2.1=F→(SDEC b).2.2.2.1=T→nl=T - F→z0u d N (FLD d (MUPS d (TPS N) (SEG F T) lv (SDEC b).2.2.2.2.2) (PC N))=root→V=0
theorem z8j (d:Int) (root:List Int) (N F T nl:Nat) (lv b:List Int):SVAS d root N F T nl lv b (SVA d root N F T nl lv b):=by
  refine ⟨fun h=>?_,fun h1 h2=>?_,fun h1 h2 h3=>?_,fun h1 h2 h3 h3' h4=>?_,fun h1 h2 h3 h3' h4 h5=>?_,fun h1 h2 h3 h3' h4 h5=>?_⟩ <;> unfold SVA
  · rw [if_pos h]
  · rw [if_neg (by simpa using h1),if_pos h2]
  · rw [if_neg (by simpa using h1),if_neg (by simpa using h2),if_pos h3]
  · rw [if_neg (by simpa using h1),if_neg (by simpa using h2),if_neg (by simp [h3,h3']),if_pos h4]
  · rw [if_neg (by simpa using h1),if_neg (by simpa using h2),if_neg (by simp [h3,h3']),if_neg (by simpa using h4),if_neg h5]
  · rw [if_neg (by simpa using h1),if_neg (by simpa using h2),if_neg (by simp [h3,h3']),if_neg (by simpa using h4),if_pos h5]
theorem zdB {F T N:Nat} (hT:T≤N):AMID 0 N (SEG F T):=fun x hx=>⟨Nat.zero_le _,by have:=z9H.1 hx;omega⟩
theorem z4v {d:Int} {F T N K nl:Nat} {lv nd:List Int} (h:SWA N F T K=0) (hn:nl=T - F) (hl:HSS nl lv) (hd:HSS K nd):∀ y∈MUPS d (TPS N) (SEG F T) lv nd,0≤y∧y≤255:=by
  obtain ⟨q1,q2,q3,q4⟩:=z2s h
  exact z5T (TPS N) 0 N (SEG F T) lv nd nl K (z32 q1) (zdB q3) (z6K F T) hl hd (by rw [z0G];omega) (by rw [q4,SPP];exact Nat.le_refl _)
set_option maxHeartbeats 16000000 in
theorem z76 (d:Int) (root:List Int) (hroot:IsH root) (N F T:Nat) (al:Option Addr) (nl cl:Nat) (lv:List Int) (ab:Option Addr) (k cb:Nat) (b:List Int) (w:World) (hn:nl<2 ^ 40) (hFl:Flat w al nl lv) (hla:∀ x,al=some x→x.block<w.heap.size) (hB:Bytes w ab k b) (hkb:k≤cb) (hk:k≤1000000) (hT:Tabled w) (hX:HX.Tabled w) (h0:0<w.heap.size):
    Calls Tryz.prog 10 #[.int .i64 d,.agg (z00 root).toArray,.int .u64 (N:Int),.int .u64 (F:Int),.int .u64 (T:Int),.slice al nl cl,.slice ab k cb] w fun e w'=>e=.returned (.int .i64 (SVA d root N F T nl lv b))∧Below w.heap.size w w':=by
  have SV:=z8j d root N F T nl lv b
  have hMT:=z5X (b:=b) hB.2.2
  generalize SVA d root N F T nl lv b=V at *
  obtain ⟨w1,e1⟩:∃ w1,w.alloc (.cells (z00 root).toArray 23)=w1:=⟨_,rfl⟩
  obtain ⟨b8,hb8⟩:∃ b,w.heap.size=b:=⟨_,rfl⟩
  have hb1:Below w.heap.size w w1:=by rw [← e1];exact (Below.refl _ _).alloc (Nat.le_refl _) _
  have hR1:Has w1 b8 (z00 root).toArray 23:=by rw [← e1,← hb8];exact Has.new _ _ _
  have cd:=z75 ab k cb b w1 (hB.below hb1) hkb hk (hT.below h0 hb1) (by have:=hb1.size;omega)
  have HA:Aside (nl<2 ^ 40∧Flat w al nl lv∧(∀ x,al=some x→x.block<w.heap.size)∧Tabled w∧HX.Tabled w∧0<w.heap.size):=⟨hn,hFl,hla,hT,hX,h0⟩
  have H1:Aside (Below w.heap.size w w1∧Has w1 b8 (z00 root).toArray 23):=⟨hb1,hR1⟩
  have HM:Aside ((SDEC b).1=0→∃ S F T K t,SDEC b=(0,S,F,T,K,t)∧SWA S F T K=0∧t.length=32*K∧∀ x∈t,0≤x∧x≤255):=hMT
  have HV:Aside (SVAS d root N F T nl lv b V∧IsH root):=⟨SV,hroot⟩
  clear hn hFl hla hB hkb hk hT hX h0 hb1 hR1 SV hMT hroot
  obtain ⟨E,hE⟩:∃ E,(SDEC b).1=E:=⟨_,rfl⟩
  obtain ⟨Z,hZ⟩:∃ Z,(SDEC b).2.1=Z:=⟨_,rfl⟩
  obtain ⟨F',hF'⟩:∃ Z,(SDEC b).2.2.1=Z:=⟨_,rfl⟩
  obtain ⟨T',hT'⟩:∃ Z,(SDEC b).2.2.2.1=Z:=⟨_,rfl⟩
  obtain ⟨K,hK⟩:∃ Z,(SDEC b).2.2.2.2.1=Z:=⟨_,rfl⟩
  obtain ⟨nd,hnd⟩:∃ nd,(SDEC b).2.2.2.2.2=nd:=⟨_,rfl⟩
  have HD:Aside ((SDEC b).1=E∧(SDEC b).2.1=Z∧(SDEC b).2.2.1=F'∧(SDEC b).2.2.2.1=T'∧(SDEC b).2.2.2.2.1=K∧(SDEC b).2.2.2.2.2=nd):=⟨hE,hZ,hF',hT',hK,hnd⟩
  unfold DECS at cd
  rw [hE,hZ,hF',hT',hK,hnd] at cd
  clear hE hZ hF' hT' hK hnd
  go_enter Tryz.func10,Tryz.ntmps10
  go_upto_region 1 with fail
  clear e1 hb8
  go_wp2_with fail
  refine cd.mono ?_
  rintro e w2 ⟨a4,c4,rfl,o4,hb2⟩
  clear cd
  have hb12:Below w.heap.size w w2:=H1.out.1.trans (hb2.mono H1.out.1.size)
  go_upto_region 2 with fail
  obtain ⟨w3,e3⟩:∃ w3,w2.alloc (.cells #[.int .u64 (Z:Int),.int .u64 (F':Int),.int .u64 (T':Int),.slice a4 K c4] 28)=w3:=⟨_,rfl⟩
  have hb3:Below w2.heap.size w2 w3:=by rw [← e3];exact (Below.refl _ _).alloc (Nat.le_refl _) _
  have hP3:Has w3 w2.heap.size #[.int .u64 (Z:Int),.int .u64 (F':Int),.int .u64 (T':Int),.slice a4 K c4] 28:=by rw [← e3];exact Has.new _ _ _
  rw [e3]
  have W3:Aside (Below w.heap.size w w3∧Has w3 b8 (z00 root).toArray 23∧Has w3 w2.heap.size #[.int .u64 (Z:Int),.int .u64 (F':Int),.int .u64 (T':Int),.slice a4 K c4] 28∧w3.ownsRow w1.heap.size 23 32 (.slice a4 K c4) K (z00 nd)):=⟨hb12.trans (hb3.mono hb12.size),(H1.out.2.keep hb2).keep hb3,hP3,z0n o4 fun k e=>hb3.block k (o4.lt k e).2⟩
  have x0:=hP3.cell 0
  have x1:=hP3.cell 1
  have x2:=hP3.cell 2
  have x3:=hP3.cell 3
  generalize w2.heap.size=b15 at *
  clear e3 hb3 hP3 hb2 hb12 o4 H1
  by_cases hE:E=0
  case neg=>
    have FN:Aside (V=E∧Below w.heap.size w w3):=⟨by rw [← HD.out.1];exact HV.out.1.dec (by rw [HD.out.1];exact hE),W3.out.1⟩
    have hne:(E == 0)=false:=beq_eq_false_iff_ne.2 hE
    clear HV HM HA HD W3 hE
    go_wp2_with fail
    go_ret
    exact ⟨by rw [FN.out.1];rfl,FN.out.2⟩
  subst hE
  by_cases hZ:Z=N
  case neg=>
    have FN:Aside (V=30∧Below w.heap.size w w3):=⟨HV.out.1.size HD.out.1 (by rw [HD.out.2.1];exact hZ),W3.out.1⟩
    have hne:((Z:Int) == (N:Int))=false:=beq_eq_false_iff_ne.2 (by omega)
    clear HV HM HA HD W3 hZ
    go_wp2_with fail
    go_ret
    exact ⟨by rw [FN.out.1];rfl,FN.out.2⟩
  subst hZ
  by_cases hF:F'=F
  case neg=>
    have FN:Aside (V=32∧Below w.heap.size w w3):=⟨HV.out.1.index HD.out.1 HD.out.2.1 (.inl (by rw [HD.out.2.2.1];exact hF)),W3.out.1⟩
    have hne:((F':Int) == (F:Int))=false:=beq_eq_false_iff_ne.2 (by omega)
    clear HV HM HA HD W3 hF
    go_wp2_with fail
    go_ret
    exact ⟨by rw [FN.out.1];rfl,FN.out.2⟩
  subst hF
  by_cases hT:T'=T
  case neg=>
    have FN:Aside (V=32∧Below w.heap.size w w3):=⟨HV.out.1.index HD.out.1 HD.out.2.1 (.inr (by rw [HD.out.2.2.2.1];exact hT)),W3.out.1⟩
    have hne:((T':Int) == (T:Int))=false:=beq_eq_false_iff_ne.2 (by omega)
    clear HV HM HA HD W3 hT
    go_wp2_with fail
    go_ret
    exact ⟨by rw [FN.out.1];rfl,FN.out.2⟩
  subst hT
  have hMZ:SWA Z F' T' K=0∧nd.length=32*K∧∀ x∈nd,0≤x∧x≤255:=by
    obtain ⟨S,F0,T0,K0,t,q0,q1,q2,q3⟩:=HM.out HD.out.1
    have h:=HD.out
    rw [q0] at h
    obtain ⟨_,rfl,rfl,rfl,rfl,rfl⟩:=h
    exact ⟨q1,q2,q3⟩
  obtain ⟨m1,m2,m3⟩:=hMZ
  have hcap4:=z3N W3.out.2.2.2
  have hZT:=z2s m1
  have cc:=z4u d F' T' Z (Nat.lt_of_le_of_lt hZT.2.2.1 (by have:=hZT.1;omega)) a4 K c4 al nl cl lv nd w3 HA.out.1 (fun x e=>(hcap4.2.2 x e).1) (z0L W3.out.2.2.2 m3) (fun x e=>Nat.lt_of_lt_of_le (HA.out.2.2.1 x e) W3.out.1.size) (HA.out.2.1.below W3.out.1) (HA.out.2.2.2.1.below HA.out.2.2.2.2.2 W3.out.1) (HA.out.2.2.2.2.1.below W3.out.1) (by have:=W3.out.1.size;have:=HA.out.2.2.2.2.2;omega)
  have W4:Aside (Below w.heap.size w w3∧Has w3 b8 (z00 root).toArray 23∧HX.Tabled w3):=⟨W3.out.1,W3.out.2.1,HA.out.2.2.2.2.1.below W3.out.1⟩
  have HS:Aside (Z≤4611686018427387904∧HSS nl lv∧HSS K nd∧SWA Z F' T' K=0):=⟨hZT.1,⟨HA.out.2.1.1,HA.out.2.1.2.2⟩,⟨m2,m3⟩,m1⟩
  clear m1 m2 m3 hcap4 W3 HA HM hZT
  have hM:(RBOX Z F' T' a4 K c4)=#[.int .u64 (Z:Int),.int .u64 (F':Int),.int .u64 (T':Int),.slice a4 K c4]:=rfl
  rw [hM] at cc
  clear hM
  rcases z1Y F' T' Z K nl with ⟨h1,_⟩ | ⟨_,hnl,hME⟩ | ⟨_,hnl,hME⟩
  · exact absurd HS.out.2.2.2 h1
  · have hMC:SCLA d F' T' Z K nl lv nd=(70,0,[]):=by unfold SCLA;rw [hME];rfl
    rw [hMC] at cc
    have FN:Aside (V=70):=HV.out.1.count HD.out.1 HD.out.2.1 HD.out.2.2.1 HD.out.2.2.2.1 hnl
    clear HV HD HS hME hMC hnl
    go_wp2_with fail
    refine cc.mono ?_
    rintro e w5 ⟨a6,c6,rfl,_,hb5⟩
    clear cc x0 x1 x2 x3
    have FB:Aside (Below w.heap.size w w5):=W4.out.1.trans (hb5.mono W4.out.1.size)
    clear hb5 W4
    go_wp2_with fail
    go_ret
    exact ⟨by rw [FN.out];rfl,FB.out⟩
  have hMC:SCLA d F' T' Z K nl lv nd=(0,PC Z,MUPS d (TPS Z) (SEG F' T') lv nd):=by unfold SCLA;rw [if_pos hME]
  rw [hMC] at cc
  have HR:Aside ((∀ y∈MUPS d (TPS Z) (SEG F' T') lv nd,0≤y∧y≤255)∧nl=T' - F'):=⟨z4v HS.out.2.2.2 hnl HS.out.2.1 HS.out.2.2.1,hnl⟩
  have HBG:Aside (∀ l,BAGA d Z (PC Z) l=(0,z0u d Z (FLD d l (PC Z)))):=zaR d Z HS.out.1
  have hZ64:Z<2 ^ 64:=by have:=HS.out.1;omega
  have HZ:Aside (Z<2 ^ 64):=hZ64
  clear hZ64
  clear hME hMC hnl HS
  have HF:Aside (∀ W a c,W.ownsRow w3.heap.size 23 32 (.slice a (PC Z) c) (PC Z) (z00 (MUPS d (TPS Z) (SEG F' T') lv nd))→HX.Tabled W→Calls Tryz.prog 37 #[.int .i64 d,.int .u64 (Z:Int),.slice a (PC Z) c] W fun e w'=>e=.returned (.tuple #[.agg (z00 (z0u d Z (FLD d (MUPS d (TPS Z) (SEG F' T') lv nd) (PC Z)))).toArray,.int .i64 0])∧Below W.heap.size W w'):=fun W a c h hT=>by
    have:=zfj d Z HZ.out a (PC Z) c (MUPS d (TPS Z) (SEG F' T') lv nd) W (z0L h HR.out.1) hT
    rwa [HBG.out] at this
  have HVV:Aside ((z0u d Z (FLD d (MUPS d (TPS Z) (SEG F' T') lv nd) (PC Z))≠root→V=80)∧(z0u d Z (FLD d (MUPS d (TPS Z) (SEG F' T') lv nd) (PC Z))=root→V=0)∧IsH root):=by
    have h1:=HV.out.1.unlike HD.out.1 HD.out.2.1 HD.out.2.2.1 HD.out.2.2.2.1 HR.out.2
    have h2:=HV.out.1.ok HD.out.1 HD.out.2.1 HD.out.2.2.1 HD.out.2.2.2.1 HR.out.2
    rw [HD.out.2.2.2.2.2] at h1 h2
    exact ⟨h1,h2,HV.out.2⟩
  have hYH:=z2Z d Z (FLD d (MUPS d (TPS Z) (SEG F' T') lv nd) (PC Z))
  clear HV HD HR HBG HZ
  generalize z0u d Z (FLD d (MUPS d (TPS Z) (SEG F' T') lv nd) (PC Z))=Y at *
  generalize MUPS d (TPS Z) (SEG F' T') lv nd=U at *
  generalize PC Z=pz at *
  go_wp2_with fail
  refine cc.mono ?_
  rintro e w5 ⟨a6,c6,rfl,o6,hb5⟩
  clear cc x0 x1 x2 x3
  have cg:=HF.out w5 a6 c6 o6 (W4.out.2.2.below hb5)
  have W5:Aside (Below w.heap.size w w5∧Has w5 b8 (z00 root).toArray 23):=⟨W4.out.1.trans (hb5.mono W4.out.1.size),W4.out.2.1.keep hb5⟩
  clear HF o6 hb5 W4
  have y32:=hYH.1
  have r32:=HVV.out.2.2.1
  go_wp2_with fail
  refine cg.mono ?_
  rintro e w6 ⟨rfl,hb6⟩
  clear cg
  have R1:Aside (Below w.heap.size w (w6.alloc (.cells (z00 Y).toArray 23))∧Has (w6.alloc (.cells (z00 Y).toArray 23)) b8 (z00 root).toArray 23∧Has (w6.alloc (.cells (z00 Y).toArray 23)) w6.heap.size (z00 Y).toArray 23):=by
    have hb:=W5.out.1.trans (hb6.mono W5.out.1.size)
    exact ⟨hb.alloc hb.size _,(W5.out.2.keep hb6).alloc _,Has.new _ _ _⟩
  clear hb6 W5
  go_upto_region 12 with (first
    | (refine wpList_store_row rfl 23 (.tmp 18) (.tmp 57) rfl _ _ rfl rfl 23 _ (Has.new w6 _ _) (z03 y32) (by simp [z00,y32]) (z0i Y) ?_;rw [World.setRow_alloc_new])
    | fail)
  generalize w6.alloc (.cells (z00 Y).toArray 23)=W6 at *
  generalize w6.heap.size=b18 at *
  have hb:=R1.out.1
  have h7:=R1.out.2.1
  have h9:=R1.out.2.2
  have hq:=zc7 hYH HVV.out.2.2
  clear R1 hYH
  by_cases hYr:Y=root
  · have FN:Aside (V=0):=HVV.out.2.1 hYr
    rw [decide_eq_true hYr] at hq
    clear HVV hYr
    go_wp2_with (first
      | (refine z1P (by rfl) 23 (.tmp 18) rfl 32 5 b18 rfl 23 (z00 Y).toArray (0,0) h9 Tryz.underlying23 (z03 y32) ?_)
      | (refine z1P (by rfl) 23 (.tmp 8) rfl 32 5 b8 rfl 23 (z00 root).toArray (0,0) h7 Tryz.underlying23 (z03 r32) ?_)
      | fail)
    go_ret
    exact ⟨by rw [FN.out];rfl,hb⟩
  · have FN:Aside (V=80):=HVV.out.1 hYr
    rw [decide_eq_false hYr] at hq
    clear HVV hYr
    go_wp2_with (first
      | (refine z1P (by rfl) 23 (.tmp 18) rfl 32 5 b18 rfl 23 (z00 Y).toArray (0,0) h9 Tryz.underlying23 (z03 y32) ?_)
      | (refine z1P (by rfl) 23 (.tmp 8) rfl 32 5 b8 rfl 23 (z00 root).toArray (0,0) h7 Tryz.underlying23 (z03 r32) ?_)
      | fail)
    go_ret
    exact ⟨by rw [FN.out];rfl,hb⟩
end Go.Proofs.YthdpkaiieomdoaaGreatDoor
