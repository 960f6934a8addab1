/- Texts of SpanVerifies, one behind the other: SpanRefDecode, SpanRefVerify, ManyMix, ManyApartRegions, ManyApart, ManyKept. -/
import Derived.Test.YthdpkaiieomdoaaGreatDoorSpanVerifiesP28
import Derived.Test.YthdpkaiieomdoaaGreatDoorSpanVerifiesP32
namespace Go.Proofs.YthdpkaiieomdoaaGreatDoor
open Go.RowKit
set_option maxRecDepth 100000
theorem zeN {t:List Int} (h:(LNG t).2.2≠0):SD0 t=SERR (LNG t).2.2:=by
  have e:SNE t 4611686018427387904 30=(LNG t).2.2:=by unfold SNE;rw [if_neg h]
  unfold SD0
  rw [e,if_pos h]
theorem zeO {S:Nat} {t:List Int} (h:(LNG t).2.2≠0):SD1 S t=SERR (LNG t).2.2:=by
  have e:SNE t S 32=(LNG t).2.2:=by unfold SNE;rw [if_neg h]
  unfold SD1
  rw [e,if_pos h]
theorem zeP {S F:Nat} {t:List Int} (h:(LNG t).2.2≠0):SD2 S F t=SERR (LNG t).2.2:=by
  have e:SNE t (S - F) 32=(LNG t).2.2:=by unfold SNE;rw [if_neg h]
  unfold SD2
  rw [e,if_pos h]
theorem z6n {t:List Int} {Z m most:Nat} {bey:Int} (h:LNG t=((Z:Int),(m:Int),0)) (hz:most<Z):SNE t most bey=bey:=by
  unfold SNE
  rw [h,if_pos rfl,if_pos (by show (most:Int)<(Z:Int);omega)]
theorem z5v {t:List Int} {Z m most:Nat} {bey:Int} (h:LNG t=((Z:Int),(m:Int),0)) (hz:Z≤most):SNE t most bey=0∧(LNG t).1.toNat=Z∧(LNG t).2.1.toNat=m:=by
  refine ⟨?_,by rw [h];exact Int.toNat_natCast Z,by rw [h];exact Int.toNat_natCast m⟩
  unfold SNE
  rw [h,if_pos rfl,if_neg (by show ¬ (most:Int)<(Z:Int);omega)]
theorem zeQ {t:List Int} {Z m:Nat} (h:LNG t=((Z:Int),(m:Int),0)) (hz:4611686018427387904<Z):SD0 t=SERR 30:=by
  unfold SD0
  rw [z6n h hz,if_pos (by decide)]
theorem zeR {S:Nat} {t:List Int} {Z m:Nat} (h:LNG t=((Z:Int),(m:Int),0)) (hz:S<Z):SD1 S t=SERR 32:=by
  unfold SD1
  rw [z6n h hz,if_pos (by decide)]
theorem zeS {S F:Nat} {t:List Int} {Z m:Nat} (h:LNG t=((Z:Int),(m:Int),0)) (hz:S - F<Z):SD2 S F t=SERR 32:=by
  unfold SD2
  rw [z6n h hz,if_pos (by decide)]
theorem zdH {t:List Int} {Z m:Nat} (h:LNG t=((Z:Int),(m:Int),0)) (hz:Z≤4611686018427387904):SD0 t=SD1 Z (t.drop m):=by
  obtain ⟨a,b,c⟩:=z5v (bey:=30) h hz
  unfold SD0
  rw [a,if_neg (by simp),b,c]
theorem zdI {S:Nat} {t:List Int} {Z m:Nat} (h:LNG t=((Z:Int),(m:Int),0)) (hz:Z≤S):SD1 S t=SD2 S Z (t.drop m):=by
  obtain ⟨a,b,c⟩:=z5v (bey:=32) h hz
  unfold SD1
  rw [a,if_neg (by simp),b,c]
theorem zdJ {S F:Nat} {t:List Int} {Z m:Nat} (h:LNG t=((Z:Int),(m:Int),0)) (hz:Z≤S - F):SD2 S F t=SD3 S F (F+Z) (t.drop m):=by
  obtain ⟨a,b,c⟩:=z5v (bey:=32) h hz
  unfold SD2
  rw [a,if_neg (by simp),b,c]
theorem zdK {S F T:Nat} {t:List Int}:SD3 S F T t=if (TAKN t (SPP F T S).length).1=0 then (0,S,F,T,(TAKN t (SPP F T S).length).2.1,(TAKN t (SPP F T S).length).2.2) else SERR (TAKN t (SPP F T S).length).1:=by
  unfold SD3 TAKN
  generalize (SPP F T S).length=M
  by_cases h1:t.length<32*M
  · rw [if_pos h1,if_pos h1];rfl
  · rw [if_neg h1,if_neg h1]
    by_cases h2:32*M<t.length
    · rw [if_pos h2,if_pos h2];rfl
    · rw [if_neg h2,if_neg h2];rfl
theorem DECS.die {w w':World} {A:SANS} {E:Int} (hA:A=SERR E) (hb:Below w.heap.size w w'):DECS w A (.returned (.tuple #[.agg ZREACH,.int .i64 E])) w':=by
  rw [hA]
  exact ⟨none,0,rfl,z2t _ _,hb⟩
theorem z0x {fn:Func} {p u:Tmp} {ty:TypeId} (h:fn.results=#[.cell p ty,.tmp u]) (tmps:Array Value) (w:World) (g:Nat) (C:Array Value) (v:Value) (hC:C.size=4) (hty:ty=28) (hp:tmps.getD p undef=.pointer (some ⟨g,0,none⟩)) (hu:tmps.getD u undef=v) (hg:Has w g C 28):(results fn tmps).run Tryz.prog w=.ok (.tuple #[.agg C,v]) w:=by
  subst hty
  rw [results_cell_tmp h,hp,hu]
  have hi:(Tryz.prog.info? 28).map (·.size)=some C.size:=by rw [hC];exact z1m
  simp [asAddr,run_loadVar_row _ g 28 28 _ (0,0) _ hg Tryz.underlying28 rfl hi]
theorem z4B {x y:Nat} (h:x+y≤1000000):wrap64 ((x:Int)+(y:Int))=((x+y:Nat):Int):=by unfold wrap64;omega
set_option maxHeartbeats 16000000 in
theorem z78 (a:Option Addr) (n c:Nat) (l:List Int) (w:World) (hB:Bytes w a n l) (hc:n≤c) (hn:n≤16000):Calls Tryz.prog 35 #[.slice a n c] w (DECS w (SDEC l)):=by
  obtain ⟨w1,e1⟩:∃ w1,w.alloc (.cells ZREACH 28)=w1:=⟨_,rfl⟩
  have hb1:Below w.heap.size w w1:=by rw [← e1];exact (Below.refl _ _).alloc (Nat.le_refl _) _
  have h1:Has w1 w.heap.size ZREACH 28:=by rw [← e1];exact Has.new w _ _
  have HR:Aside (Has w1 w.heap.size ZREACH 28∧Below w.heap.size w w1∧Bytes w1 a n l∧n≤c∧n≤16000∧l.length=n):=⟨h1,hb1,hB.below hb1,hc,hn,hB.1⟩
  have BK:Aside (∀ W,Has W w.heap.size ZREACH 28→Below w.heap.size w W→∀ {A:SANS} {E:Int},A=SERR E→DECS w A (.returned (.tuple #[.agg ZREACH,.int .i64 E])) (W.setRow w.heap.size ZREACH)):=fun W hW hb A E hA=>DECS.die hA (z04 hb (Nat.le_refl _) _)
  have iM:Aside ((Tryz.prog.info? 28).map (·.size)=some ZREACH.size∧ZREACH.all (·.oneCell')=true):=⟨z1m,by simp [Value.oneCell']⟩
  clear hb1 h1 hB hc hn
  rcases Nat.eq_zero_or_pos n with hn | hn
  · obtain rfl:l=[]:=List.eq_nil_of_length_eq_zero (by rw [HR.out.2.2.2.2.2];exact hn)
    have FE:Aside (SDEC []=SERR 11):=show SDEC []=SERR 11 by decide
    subst hn
    go_enter Tryz.func35,Tryz.ntmps35
    go_wp2_with (first
      | (refine wpList_store_row rfl 28 (.tmp 2) (.tmp 16) rfl _ _ rfl rfl 28 ZREACH HR.out.1 iM.out.1 rfl iM.out.2 ?_))
    refine bodyPost_ret (v:=.tuple #[.agg ZREACH,.int .i64 11]) (z0x rfl _ _ w.heap.size _ _ rfl rfl rfl rfl (HR.out.1.row _)) rfl (BK.out w1 HR.out.1 HR.out.2.1 FE.out)
  · obtain ⟨b, off, rfl,hbl,hcs⟩:=HR.out.2.2.1.2.1 hn
    have hn0:¬ (n:Int)=0:=by omega
    have hn1:(0:Int)<(n:Int):=by omega
    have xx:w1.cell? ⟨b,off,none⟩=some (.int .u8 (l.getD 0 0)):=by have:=hcs 0 hn;rw [Nat.add_zero] at this;exact this
    by_cases hx:l.getD 0 0=83
    · rw [hx] at xx
      have LN:l.length=n:=HR.out.2.2.2.2.2
      have FE0:Aside (SDEC l=SD0 (l.drop 1)):=by
        show SDEC l=SD0 (l.drop 1)
        have hK:K20 l=(0,l.drop 1):=by unfold K20;rw [if_neg (by omega),if_neg (fun h=>h hx)]
        unfold SDEC
        rw [hK,if_neg (by simp)]
      have LG1:Aside (∀ k,k≤n→Calls Tryz.prog 66 #[.slice (REST b off c k) (n - k) (c - k)] w1 fun e w'=>e=.returned (.tuple #[.int .u64 (LNG (l.drop k)).1,.int .i64 (LNG (l.drop k)).2.1,.int .i64 (LNG (l.drop k)).2.2])∧w1=w'):=fun k hk=>by
        have hb:=HR.out.2.2.1.behind k hk HR.out.2.2.2.1
        have h1:=zaN (REST b off c k) (n - k) (c - k) _ w1 hb (by have:=HR.out.2.2.2.2.1;omega)
        unfold LNG
        rw [hb.1]
        exact h1
      have RG:Aside (∀ k,∀ y∈l.drop k,0≤y∧y≤255):=fun k y hy=>HR.out.2.2.1.2.2 y (List.mem_of_mem_drop hy)
      have k1n:1≤n:=hn
      have c1:=LG1.out 1 k1n
      have u1:(l.drop 1).length=n - 1:=by rw [List.length_drop,LN]
      clear hcs hbl hx
      go_enter Tryz.func35,Tryz.ntmps35
      by_cases hl:(LNG (l.drop 1)).2.2=0
      · obtain ⟨Z, m, q1,q2,q3,q4,q5⟩:=z34 (RG.out 1) hl
        rw [q4] at c1
        dsimp only at c1
        have NB:Aside (n≤16000∧True):=⟨HR.out.2.2.2.2.1,trivial⟩
        have wa:=z4B (x:=1) (y:=m) (by have:=HR.out.2.2.2.2.1;omega)
        by_cases hZ:4611686018427387904<Z
        · have hZ':(4611686018427387904:Int)<(Z:Int):=by omega
          have FE:Aside (SDEC l=SERR 30):=by show SDEC l=SERR 30;rw [FE0.out];exact zeQ q4 hZ
          clear q1 q2 q3 q4 q5 hl wa u1 LN
          go_wp2_with (first
            | (refine z0M _ rfl (.tmp 23) (.tmp 24) rfl b off n c 1 rfl rfl k1n HR.out.2.2.2.1 ?_))
          refine c1.mono ?_
          rintro e w2 ⟨rfl,rfl⟩
          clear c1 xx
          go_wp2_with (first
            | (refine wpList_store_row rfl 28 (.tmp 2) (.tmp 36) rfl _ _ rfl rfl 28 ZREACH HR.out.1 iM.out.1 rfl iM.out.2 ?_))
          refine bodyPost_ret (v:=.tuple #[.agg ZREACH,.int .i64 30]) (z0x rfl _ _ w.heap.size _ _ rfl rfl rfl rfl (HR.out.1.row _)) rfl (BK.out w1 HR.out.1 HR.out.2.1 FE.out)
        · have hZ':¬ (4611686018427387904:Int)<(Z:Int):=by omega
          have FE1:Aside (SDEC l=SD1 Z (l.drop (1+m))∧Z≤4611686018427387904):=⟨by rw [FE0.out,zdH q4 (by omega),List.drop_drop],by omega⟩
          obtain ⟨a1,ha1⟩:∃ a1,1+m=a1:=⟨_,rfl⟩
          rw [ha1] at wa FE1
          replace wa:wrap64 ((1:Int)+(m:Int))=(a1:Int):=wa
          have k2n:a1≤n:=by omega
          have c2:=LG1.out a1 k2n
          have u2:(l.drop a1).length=n - a1:=by rw [List.length_drop,LN]
          clear q1 q2 q3 q4 q5 hl u1 ha1
          go_wp2_with (first
            | (refine z0M _ rfl (.tmp 23) (.tmp 24) rfl b off n c 1 rfl rfl k1n HR.out.2.2.2.1 ?_))
          refine c1.mono ?_
          rintro e w2 ⟨rfl,rfl⟩
          clear c1 xx
          go_upto_region 12 with fail
          rw [wa]
          by_cases hl:(LNG (l.drop a1)).2.2=0
          · obtain ⟨Y,m2,q1,q2,q3,q4,q5⟩:=z34 (RG.out a1) hl
            rw [q4] at c2
            dsimp only at c2
            have wb:=z4B (x:=a1) (y:=m2) (by have:=NB.out.1;omega)
            by_cases hY:Z<Y
            · have hY':(Z:Int)<(Y:Int):=by omega
              have FE:Aside (SDEC l=SERR 32):=by show SDEC l=SERR 32;rw [FE1.out.1];exact zeR q4 hY
              clear q1 q2 q3 q4 q5 hl wa wb u2 LN hY
              go_wp2_with (first
                | (refine z0M _ rfl (.tmp 41) (.tmp 42) rfl b off n c a1 rfl rfl k2n HR.out.2.2.2.1 ?_))
              refine c2.mono ?_
              rintro e w2 ⟨rfl,rfl⟩
              clear c2
              go_wp2_with (first
                | (refine wpList_store_row rfl 28 (.tmp 2) (.tmp 55) rfl _ _ rfl rfl 28 ZREACH HR.out.1 iM.out.1 rfl iM.out.2 ?_))
              refine bodyPost_ret (v:=.tuple #[.agg ZREACH,.int .i64 32]) (z0x rfl _ _ w.heap.size _ _ rfl rfl rfl rfl (HR.out.1.row _)) rfl (BK.out w1 HR.out.1 HR.out.2.1 FE.out)
            · have hY':¬ (Z:Int)<(Y:Int):=by omega
              have FE2:Aside (SDEC l=SD2 Z Y (l.drop (a1+m2))∧Y≤Z):=⟨by rw [FE1.out.1,zdI q4 (by omega),List.drop_drop],by omega⟩
              obtain ⟨a2,ha2⟩:∃ a2,a1+m2=a2:=⟨_,rfl⟩
              rw [ha2] at wb FE2
              have k3n:a2≤n:=by omega
              have c3:=LG1.out a2 k3n
              have u3:(l.drop a2).length=n - a2:=by rw [List.length_drop,LN]
              clear q1 q2 q3 q4 q5 hl u2 ha2 wa hY
              go_wp2_with (first
                | (refine z0M _ rfl (.tmp 41) (.tmp 42) rfl b off n c a1 rfl rfl k2n HR.out.2.2.2.1 ?_))
              refine c2.mono ?_
              rintro e w2 ⟨rfl,rfl⟩
              clear c2
              go_upto_region 18 with fail
              rw [wb]
              have eg:=z1g FE2.out.2 (show Z<2 ^ 64 by have:=FE1.out.2;omega)
              by_cases hl:(LNG (l.drop a2)).2.2=0
              · obtain ⟨X,m3,q1,q2,q3,q4,q5⟩:=z34 (RG.out a2) hl
                rw [q4] at c3
                dsimp only at c3
                have wc:=z4B (x:=a2) (y:=m3) (by have:=NB.out.1;omega)
                by_cases hX:Z - Y<X
                · have FE:Aside (SDEC l=SERR 32):=by show SDEC l=SERR 32;rw [FE2.out.1];exact zeS q4 hX
                  obtain ⟨G,hG⟩:∃ G,Z - Y=G:=⟨_,rfl⟩
                  rw [hG] at eg hX
                  have hX':(G:Int)<(X:Int):=by omega
                  clear q1 q2 q3 q4 q5 hl wb wc u3 LN hX hG
                  go_wp2_with (first
                    | (refine z0M _ rfl (.tmp 60) (.tmp 61) rfl b off n c a2 rfl rfl k3n HR.out.2.2.2.1 ?_))
                  refine c3.mono ?_
                  rintro e w2 ⟨rfl,rfl⟩
                  clear c3
                  go_wp2_with (first
                    | (refine wpList_store_row rfl 28 (.tmp 2) (.tmp 76) rfl _ _ rfl rfl 28 ZREACH HR.out.1 iM.out.1 rfl iM.out.2 ?_))
                  refine bodyPost_ret (v:=.tuple #[.agg ZREACH,.int .i64 32]) (z0x rfl _ _ w.heap.size _ _ rfl rfl rfl rfl (HR.out.1.row _)) rfl (BK.out w1 HR.out.1 HR.out.2.1 FE.out)
                · have FE3:Aside (SDEC l=SD3 Z Y (Y+X) (l.drop (a2+m3))∧Y+X≤Z):=⟨by rw [FE2.out.1,zdJ q4 (by omega),List.drop_drop],by have:=FE2.out.2;omega⟩
                  obtain ⟨G,hG⟩:∃ G,Z - Y=G:=⟨_,rfl⟩
                  rw [hG] at eg hX
                  have hX':¬ (G:Int)<(X:Int):=by omega
                  obtain ⟨T,hT⟩:∃ T,Y+X=T:=⟨_,rfl⟩
                  rw [hT] at FE3
                  have et:IntKind.u64.wrap ((Y:Int)+(X:Int))=(T:Int):=by rw [z09];have:=FE3.out.2;have:=FE1.out.2;omega
                  have ET:Aside (IntKind.u64.wrap ((Y:Int)+(X:Int))=(T:Int)):=et
                  obtain ⟨a3,ha3⟩:∃ a3,a2+m3=a3:=⟨_,rfl⟩
                  rw [ha3] at wc FE3
                  have k4n:a3≤n:=by omega
                  have cp:=z3Z Y T Z w1
                  have eS:SPE Y T Z=0:=by unfold SPE;rw [if_neg (by have:=FE1.out.2;omega),if_neg (by have:=FE3.out.2;omega)]
                  have eA:SPA Y T Z=SPP Y T Z:=by unfold SPA;rw [if_pos eS]
                  have hfew:=z2K (F:=Y) FE1.out.2 FE3.out.2
                  have FE4:Aside (SDEC l=if (TAKN (l.drop a3) (SPP Y T Z).length).1=0 then (0,Z,Y,T,(TAKN (l.drop a3) (SPP Y T Z).length).2.1,(TAKN (l.drop a3) (SPP Y T Z).length).2.2) else SERR (TAKN (l.drop a3) (SPP Y T Z).length).1):=by
                    show SDEC l=_
                    rw [FE3.out.1,zdK]
                  rw [eS,eA] at cp
                  unfold z2r at cp
                  generalize SPP Y T Z=P at *
                  obtain ⟨M,hM⟩:∃ M,P.length=M:=⟨_,rfl⟩
                  rw [hM] at cp FE4 hfew
                  have M188:Aside (M≤188):=hfew
                  clear q1 q2 q3 q4 q5 hl u3 ha3 hT hX hG eS eA hfew hM wb et
                  go_wp2_with (first
                    | (refine z0M _ rfl (.tmp 60) (.tmp 61) rfl b off n c a2 rfl rfl k3n HR.out.2.2.2.1 ?_))
                  refine c3.mono ?_
                  rintro e w2 ⟨rfl,rfl⟩
                  clear c3
                  go_upto_region 24 with fail
                  rw [wc]
                  clear eg wc
                  have et:=ET.out
                  go_wp2_with fail
                  refine cp.mono ?_
                  rintro e w2 ⟨ap,kp,rfl,_,hb2⟩
                  clear cp
                  have B2:Aside (Below w.heap.size w w2∧Has w2 w.heap.size ZREACH 28):=⟨HR.out.2.1.trans (hb2.mono HR.out.2.1.size),HR.out.1.keep hb2⟩
                  have ct:=zdq (REST b off c a3) (n - a3) (c - a3) M (by have:=NB.out.1;omega) (by have:=M188.out;omega) (l.drop a3) w2 ((HR.out.2.2.1.behind a3 k4n HR.out.2.2.2.1).below hb2)
                  obtain ⟨TE,TK,TL,hTK⟩:∃ TE TK TL,TAKN (l.drop a3) M=(TE,TK,TL):=⟨_,_,_,rfl⟩
                  rw [hTK] at ct FE4
                  dsimp only at ct FE4
                  clear hb2 hTK et
                  go_wp2_with (first
                    | (refine z0M _ rfl (.tmp 90) (.tmp 91) rfl b off n c a3 rfl rfl k4n HR.out.2.2.2.1 ?_))
                  refine ct.mono ?_
                  rintro e w3 ⟨av,cv,rfl,o3,hb3⟩
                  have B3:Aside (Below w.heap.size w w3∧Has w3 w.heap.size ZREACH 28∧w3.ownsRow w2.heap.size 23 32 (.slice av TK cv) TK (z00 TL)):=⟨B2.out.1.trans (hb3.mono B2.out.1.size),B2.out.2.keep hb3,o3⟩
                  have sz:Aside (w.heap.size<w2.heap.size):=B2.out.2.lt
                  clear ct o3 hb3 B2
                  by_cases hE:TE=0
                  · subst hE
                    have et:=ET.out
                    have FZ:Aside (DECS w (SDEC l) (.returned (.tuple #[.agg #[.int .u64 (Z:Int),.int .u64 (Y:Int),.int .u64 (T:Int),.slice av TK cv],.int .i64 0])) (w3.setRow w.heap.size #[.int .u64 (Z:Int),.int .u64 (Y:Int),.int .u64 (T:Int),.slice av TK cv])):=by
                      have e:=FE4.out
                      rw [if_pos rfl] at e
                      show DECS w (SDEC l) _ _
                      rw [e]
                      refine ⟨av,cv,rfl,?_,z04 B3.out.1 (Nat.le_refl _) _⟩
                      exact z0f (z4q B3.out.2.2 fun k e=>setRow_other _ _ _ _ (by have h1:=(B3.out.2.2.lt k e).1;have:=sz.out;omega)) (Nat.le_of_lt sz.out)
                    have infoM:(Tryz.prog.info? 28).map (·.size)=some (#[Value.int .u64 (Z:Int),.int .u64 (Y:Int),.int .u64 (T:Int),.slice av TK cv]:Array Value).size:=z1m
                    have allM:(#[Value.int .u64 (Z:Int),.int .u64 (Y:Int),.int .u64 (T:Int),.slice av TK cv]:Array Value).all (·.oneCell')=true:=by simp [Value.oneCell']
                    have MM:Aside ((Tryz.prog.info? 28).map (·.size)=some (#[Value.int .u64 (Z:Int),.int .u64 (Y:Int),.int .u64 (T:Int),.slice av TK cv]:Array Value).size∧(#[Value.int .u64 (Z:Int),.int .u64 (Y:Int),.int .u64 (T:Int),.slice av TK cv]:Array Value).all (·.oneCell')=true):=⟨infoM,allM⟩
                    clear FE0 FE1 FE2 FE3 FE4 infoM allM LN
                    go_wp2_with (first
                      | (refine wpList_store_row rfl 28 (.tmp 2) (.tmp 108) rfl _ _ rfl rfl 28 ZREACH B3.out.2.1 MM.out.1 rfl MM.out.2 ?_))
                    refine bodyPost_ret (v:=.tuple #[.agg #[.int .u64 (Z:Int),.int .u64 (Y:Int),.int .u64 (T:Int),.slice av TK cv],.int .i64 0]) (z0x rfl _ _ w.heap.size _ _ rfl rfl rfl rfl (B3.out.2.1.row _)) rfl FZ.out
                  · have hE':(TE != 0)=true:=by simp [hE]
                    have FE:Aside (SDEC l=SERR TE):=FE4.out.trans (if_neg hE)
                    clear FE0 FE1 FE2 FE3 FE4 hE LN
                    go_wp2_with (first
                      | (refine wpList_store_row rfl 28 (.tmp 2) (.tmp 100) rfl _ _ rfl rfl 28 ZREACH B3.out.2.1 iM.out.1 rfl iM.out.2 ?_))
                    refine bodyPost_ret (v:=.tuple #[.agg ZREACH,.int .i64 TE]) (z0x rfl _ _ w.heap.size _ _ rfl rfl rfl rfl (B3.out.2.1.row _)) rfl (BK.out w3 B3.out.2.1 B3.out.1 FE.out)
              · have FE:Aside (SDEC l=SERR (LNG (l.drop a2)).2.2):=by show SDEC l=_;rw [FE2.out.1];exact zeP hl
                obtain ⟨e3,he3⟩:∃ e,(LNG (l.drop a2)).2.2=e:=⟨_,rfl⟩
                rw [he3] at c3 FE hl
                have hl':(e3 != 0)=true:=by simp [hl]
                clear wb u3 LN he3 eg hl
                go_wp2_with (first
                  | (refine z0M _ rfl (.tmp 60) (.tmp 61) rfl b off n c a2 rfl rfl k3n HR.out.2.2.2.1 ?_))
                refine c3.mono ?_
                rintro e w2 ⟨rfl,rfl⟩
                clear c3
                go_wp2_with (first
                  | (refine wpList_store_row rfl 28 (.tmp 2) (.tmp 69) rfl _ _ rfl rfl 28 ZREACH HR.out.1 iM.out.1 rfl iM.out.2 ?_))
                refine bodyPost_ret (v:=.tuple #[.agg ZREACH,.int .i64 e3]) (z0x rfl _ _ w.heap.size _ _ rfl rfl rfl rfl (HR.out.1.row _)) rfl (BK.out w1 HR.out.1 HR.out.2.1 FE.out)
          · have FE:Aside (SDEC l=SERR (LNG (l.drop a1)).2.2):=by show SDEC l=_;rw [FE1.out.1];exact zeO hl
            obtain ⟨e2,he2⟩:∃ e,(LNG (l.drop a1)).2.2=e:=⟨_,rfl⟩
            rw [he2] at c2 FE hl
            have hl':(e2 != 0)=true:=by simp [hl]
            clear wa u2 LN he2 hl
            go_wp2_with (first
              | (refine z0M _ rfl (.tmp 41) (.tmp 42) rfl b off n c a1 rfl rfl k2n HR.out.2.2.2.1 ?_))
            refine c2.mono ?_
            rintro e w2 ⟨rfl,rfl⟩
            clear c2
            go_wp2_with (first
              | (refine wpList_store_row rfl 28 (.tmp 2) (.tmp 50) rfl _ _ rfl rfl 28 ZREACH HR.out.1 iM.out.1 rfl iM.out.2 ?_))
            refine bodyPost_ret (v:=.tuple #[.agg ZREACH,.int .i64 e2]) (z0x rfl _ _ w.heap.size _ _ rfl rfl rfl rfl (HR.out.1.row _)) rfl (BK.out w1 HR.out.1 HR.out.2.1 FE.out)
      · have FE:Aside (SDEC l=SERR (LNG (l.drop 1)).2.2):=by show SDEC l=_;rw [FE0.out];exact zeN hl
        obtain ⟨ea,hea⟩:∃ e,(LNG (l.drop 1)).2.2=e:=⟨_,rfl⟩
        rw [hea] at c1 FE hl
        have hl':(ea != 0)=true:=by simp [hl]
        clear u1 LN hea hl
        go_wp2_with (first
          | (refine z0M _ rfl (.tmp 23) (.tmp 24) rfl b off n c 1 rfl rfl k1n HR.out.2.2.2.1 ?_))
        refine c1.mono ?_
        rintro e w2 ⟨rfl,rfl⟩
        clear c1 xx
        go_wp2_with (first
          | (refine wpList_store_row rfl 28 (.tmp 2) (.tmp 32) rfl _ _ rfl rfl 28 ZREACH HR.out.1 iM.out.1 rfl iM.out.2 ?_))
        refine bodyPost_ret (v:=.tuple #[.agg ZREACH,.int .i64 ea]) (z0x rfl _ _ w.heap.size _ _ rfl rfl rfl rfl (HR.out.1.row _)) rfl (BK.out w1 HR.out.1 HR.out.2.1 FE.out)
    · have FE:Aside (SDEC l=SERR 14):=by
        show SDEC l=SERR 14
        have hK:K20 l=(14,l):=by unfold K20;rw [if_neg (by have:=HR.out.2.2.2.2.2;omega),if_pos hx]
        unfold SDEC
        rw [hK,if_pos (by simp)]
      generalize l.getD 0 0=x at *
      clear hcs hbl
      go_enter Tryz.func35,Tryz.ntmps35
      go_wp2_with (first
        | (refine wpList_store_row rfl 28 (.tmp 2) (.tmp 21) rfl _ _ rfl rfl 28 ZREACH HR.out.1 iM.out.1 rfl iM.out.2 ?_))
      refine bodyPost_ret (v:=.tuple #[.agg ZREACH,.int .i64 14]) (z0x rfl _ _ w.heap.size _ _ rfl rfl rfl rfl (HR.out.1.row _)) rfl (BK.out w1 HR.out.1 HR.out.2.1 FE.out)
end Go.Proofs.YthdpkaiieomdoaaGreatDoor

namespace Go.Proofs.YthdpkaiieomdoaaGreatDoor
open Go.RowKit
set_option maxRecDepth 100000
set_option maxHeartbeats 16000000 in
theorem z79 (d:Int) (root:List Int) (hroot:IsH root) (N F T:Nat) (al:Option Addr) (nl cl:Nat) (lv:List Int) (ab:Option Addr) (k cb:Nat) (b:List Int) (w:World) (hn:nl<2 ^ 40) (hTT:T<2 ^ 64) (hFT:F<2 ^ 64) (hFl:Flat w al nl lv) (hcl:nl≤cl) (hB:Bytes w ab k b) (hkb:k≤cb) (hk:k≤16000):
    Calls Tryz.prog 9 #[.int .i64 d,.agg (z00 root).toArray,.int .u64 (N:Int),.int .u64 (F:Int),.int .u64 (T:Int),.slice al nl cl,.slice ab k cb] w fun e w'=>e=.returned (.int .i64 (SVA d root N F T nl lv b))∧Below w.heap.size w w':=by
  have SV:=z8j d root N F T nl lv b
  have hMT:=z5X (b:=b) hB.2.2
  generalize SVA d root N F T nl lv b=V at *
  obtain ⟨w1,e1⟩:∃ w1,w.alloc (.cells (z00 root).toArray 23)=w1:=⟨_,rfl⟩
  obtain ⟨b8,hb8⟩:∃ b,w.heap.size=b:=⟨_,rfl⟩
  have hb1:Below w.heap.size w w1:=by rw [← e1];exact (Below.refl _ _).alloc (Nat.le_refl _) _
  have hR1:Has w1 b8 (z00 root).toArray 23:=by rw [← e1,← hb8];exact Has.new _ _ _
  have cd:=z78 ab k cb b w1 (hB.below hb1) hkb hk
  have HA:Aside (nl<2 ^ 40∧Flat w al nl lv∧nl≤cl):=⟨hn,hFl,hcl⟩
  have ew:IntKind.u64.wrap (nl:Int)=(nl:Int):=by rw [IntKind.wrap_u64];omega
  have H1:Aside (Below w.heap.size w w1∧Has w1 b8 (z00 root).toArray 23):=⟨hb1,hR1⟩
  have HM:Aside ((SDEC b).1=0→∃ S F T K t,SDEC b=(0,S,F,T,K,t)∧SWA S F T K=0∧t.length=32*K∧∀ x∈t,0≤x∧x≤255):=hMT
  have HV:Aside (SVAS d root N F T nl lv b V∧IsH root):=⟨SV,hroot⟩
  clear hn hFl hcl hB hkb hk hb1 hR1 SV hMT hroot
  obtain ⟨E,hE⟩:∃ E,(SDEC b).1=E:=⟨_,rfl⟩
  obtain ⟨Z,hZ⟩:∃ Z,(SDEC b).2.1=Z:=⟨_,rfl⟩
  obtain ⟨F',hF'⟩:∃ Z,(SDEC b).2.2.1=Z:=⟨_,rfl⟩
  obtain ⟨T',hT'⟩:∃ Z,(SDEC b).2.2.2.1=Z:=⟨_,rfl⟩
  obtain ⟨K,hK⟩:∃ Z,(SDEC b).2.2.2.2.1=Z:=⟨_,rfl⟩
  obtain ⟨nd,hnd⟩:∃ nd,(SDEC b).2.2.2.2.2=nd:=⟨_,rfl⟩
  have HD:Aside ((SDEC b).1=E∧(SDEC b).2.1=Z∧(SDEC b).2.2.1=F'∧(SDEC b).2.2.2.1=T'∧(SDEC b).2.2.2.2.1=K∧(SDEC b).2.2.2.2.2=nd):=⟨hE,hZ,hF',hT',hK,hnd⟩
  unfold DECS at cd
  rw [hE,hZ,hF',hT',hK,hnd] at cd
  clear hE hZ hF' hT' hK hnd
  go_enter Tryz.func9,Tryz.ntmps9
  go_upto_region 1 with fail
  clear e1 hb8
  go_wp2_with fail
  refine cd.mono ?_
  rintro e w2 ⟨a4,c4,rfl,o4,hb2⟩
  clear cd
  have hb12:Below w.heap.size w w2:=H1.out.1.trans (hb2.mono H1.out.1.size)
  go_upto_region 2 with fail
  obtain ⟨w3,e3⟩:∃ w3,w2.alloc (.cells #[.int .u64 (Z:Int),.int .u64 (F':Int),.int .u64 (T':Int),.slice a4 K c4] 28)=w3:=⟨_,rfl⟩
  have hb3:Below w2.heap.size w2 w3:=by rw [← e3];exact (Below.refl _ _).alloc (Nat.le_refl _) _
  have hP3:Has w3 w2.heap.size #[.int .u64 (Z:Int),.int .u64 (F':Int),.int .u64 (T':Int),.slice a4 K c4] 28:=by rw [← e3];exact Has.new _ _ _
  rw [e3]
  have W3:Aside (Below w.heap.size w w3∧Has w3 b8 (z00 root).toArray 23∧Has w3 w2.heap.size #[.int .u64 (Z:Int),.int .u64 (F':Int),.int .u64 (T':Int),.slice a4 K c4] 28∧w3.ownsRow w1.heap.size 23 32 (.slice a4 K c4) K (z00 nd)):=⟨hb12.trans (hb3.mono hb12.size),(H1.out.2.keep hb2).keep hb3,hP3,z0n o4 fun k e=>hb3.block k (o4.lt k e).2⟩
  have x0:=hP3.cell 0
  have x1:=hP3.cell 1
  have x2:=hP3.cell 2
  have x3:=hP3.cell 3
  generalize w2.heap.size=b15 at *
  clear e3 hb3 hP3 hb2 hb12 o4 H1
  by_cases hE:E=0
  case neg=>
    have FN:Aside (V=E∧Below w.heap.size w w3):=⟨by rw [← HD.out.1];exact HV.out.1.dec (by rw [HD.out.1];exact hE),W3.out.1⟩
    have hne:(E == 0)=false:=beq_eq_false_iff_ne.2 hE
    clear HV HM HA HD W3 hE
    go_wp2_with fail
    go_ret
    exact ⟨by rw [FN.out.1];rfl,FN.out.2⟩
  subst hE
  by_cases hZ:Z=N
  case neg=>
    have FN:Aside (V=30∧Below w.heap.size w w3):=⟨HV.out.1.size HD.out.1 (by rw [HD.out.2.1];exact hZ),W3.out.1⟩
    have hne:((Z:Int) == (N:Int))=false:=beq_eq_false_iff_ne.2 (by omega)
    clear HV HM HA HD W3 hZ
    go_wp2_with fail
    go_ret
    exact ⟨by rw [FN.out.1];rfl,FN.out.2⟩
  subst hZ
  by_cases hF:F'=F
  case neg=>
    have FN:Aside (V=32∧Below w.heap.size w w3):=⟨HV.out.1.index HD.out.1 HD.out.2.1 (.inl (by rw [HD.out.2.2.1];exact hF)),W3.out.1⟩
    have hne:((F':Int) == (F:Int))=false:=beq_eq_false_iff_ne.2 (by omega)
    clear HV HM HA HD W3 hF
    go_wp2_with fail
    go_ret
    exact ⟨by rw [FN.out.1];rfl,FN.out.2⟩
  subst hF
  by_cases hT:T'=T
  case neg=>
    have FN:Aside (V=32∧Below w.heap.size w w3):=⟨HV.out.1.index HD.out.1 HD.out.2.1 (.inr (by rw [HD.out.2.2.2.1];exact hT)),W3.out.1⟩
    have hne:((T':Int) == (T:Int))=false:=beq_eq_false_iff_ne.2 (by omega)
    clear HV HM HA HD W3 hT
    go_wp2_with fail
    go_ret
    exact ⟨by rw [FN.out.1];rfl,FN.out.2⟩
  subst hT
  have hMZ:SWA Z F' T' K=0∧nd.length=32*K∧∀ x∈nd,0≤x∧x≤255:=by
    obtain ⟨S,F0,T0,K0,t,q0,q1,q2,q3⟩:=HM.out HD.out.1
    have h:=HD.out
    rw [q0] at h
    obtain ⟨_,rfl,rfl,rfl,rfl,rfl⟩:=h
    exact ⟨q1,q2,q3⟩
  obtain ⟨m1,m2,m3⟩:=hMZ
  have hcap4:=z3N W3.out.2.2.2
  have hZT:=z2s m1
  have few:=z2K (F:=F') hZT.1 hZT.2.2.1
  have gp:IntKind.u64.wrap ((T':Int) - (F':Int))=((T' - F':Nat):Int):=z1g hZT.2.1 hTT
  have cc:=z4A d F' T' Z hTT a4 K c4 al nl cl lv nd w3 HA.out.1 (by have:=hZT.2.2.2;omega) (z0L W3.out.2.2.2 m3) hcap4.1 (HA.out.2.1.below W3.out.1) HA.out.2.2
  have W4:Aside (Below w.heap.size w w3∧Has w3 b8 (z00 root).toArray 23):=⟨W3.out.1,W3.out.2.1⟩
  have HS:Aside (Z≤4611686018427387904∧HSS nl lv∧HSS K nd∧SWA Z F' T' K=0):=⟨hZT.1,⟨HA.out.2.1.1,HA.out.2.1.2.2⟩,⟨m2,m3⟩,m1⟩
  clear m1 m2 m3 hcap4 W3 HA HM hZT few
  rcases z1Y F' T' Z K nl with ⟨h1,_⟩ | ⟨_,hnl,hME⟩ | ⟨_,hnl,hME⟩
  · exact absurd HS.out.2.2.2 h1
  · have FN:Aside (V=70∧Below w.heap.size w w3):=⟨HV.out.1.count HD.out.1 HD.out.2.1 HD.out.2.2.1 HD.out.2.2.2.1 hnl,W4.out.1⟩
    have hne:((nl:Int) == ((T' - F':Nat):Int))=false:=beq_eq_false_iff_ne.2 (by omega)
    clear HV HD HS hME hnl W4 cc hTT hFT
    generalize T' - F'=D at *
    go_wp2_with fail
    go_ret
    exact ⟨by rw [FN.out.1];rfl,FN.out.2⟩
  have hMC:SCLA d F' T' Z K nl lv nd=(0,PC Z,MUPS d (TPS Z) (SEG F' T') lv nd):=by unfold SCLA;rw [if_pos hME]
  rw [hMC] at cc
  have HR:Aside ((∀ y∈MUPS d (TPS Z) (SEG F' T') lv nd,0≤y∧y≤255)∧nl=T' - F'):=⟨z4v HS.out.2.2.2 hnl HS.out.2.1 HS.out.2.2.1,hnl⟩
  have HZ:Aside (Z≤4611686018427387904):=HS.out.1
  have hgn:IntKind.u64.wrap ((T':Int) - (F':Int))=(nl:Int):=by rw [gp,hnl]
  clear hME hMC hnl HS gp hTT hFT
  have HF:Aside (∀ W a c,W.ownsRow w3.heap.size 23 32 (.slice a (PC Z) c) (PC Z) (z00 (MUPS d (TPS Z) (SEG F' T') lv nd))→Calls Tryz.prog 36 #[.int .i64 d,.int .u64 (Z:Int),.slice a (PC Z) c] W fun e w'=>e=.returned (.tuple #[.agg (z00 (z0u d Z (FLD d (MUPS d (TPS Z) (SEG F' T') lv nd) (PC Z)))).toArray,.int .i64 0])∧Below W.heap.size W w'):=fun W a c h=>zaQ d Z HZ.out a (PC Z) c rfl (MUPS d (TPS Z) (SEG F' T') lv nd) W (z0L h HR.out.1)
  have HVV:Aside ((z0u d Z (FLD d (MUPS d (TPS Z) (SEG F' T') lv nd) (PC Z))≠root→V=80)∧(z0u d Z (FLD d (MUPS d (TPS Z) (SEG F' T') lv nd) (PC Z))=root→V=0)∧IsH root):=by
    have h1:=HV.out.1.unlike HD.out.1 HD.out.2.1 HD.out.2.2.1 HD.out.2.2.2.1 HR.out.2
    have h2:=HV.out.1.ok HD.out.1 HD.out.2.1 HD.out.2.2.1 HD.out.2.2.2.1 HR.out.2
    rw [HD.out.2.2.2.2.2] at h1 h2
    exact ⟨h1,h2,HV.out.2⟩
  have hYH:=z2Z d Z (FLD d (MUPS d (TPS Z) (SEG F' T') lv nd) (PC Z))
  clear HV HD HR HZ
  generalize z0u d Z (FLD d (MUPS d (TPS Z) (SEG F' T') lv nd) (PC Z))=Y at *
  generalize MUPS d (TPS Z) (SEG F' T') lv nd=U at *
  generalize PC Z=pz at *
  go_wp2_with fail
  refine cc.mono ?_
  rintro e w5 ⟨a6,c6,rfl,o6,hb5⟩
  clear cc x0 x1 x2 x3
  have cg:=HF.out w5 a6 c6 o6
  have W5:Aside (Below w.heap.size w w5∧Has w5 b8 (z00 root).toArray 23):=⟨W4.out.1.trans (hb5.mono W4.out.1.size),W4.out.2.keep hb5⟩
  clear HF o6 hb5 W4
  have y32:=hYH.1
  have r32:=HVV.out.2.2.1
  go_wp2_with fail
  refine cg.mono ?_
  rintro e w6 ⟨rfl,hb6⟩
  clear cg
  have R1:Aside (Below w.heap.size w (w6.alloc (.cells (z00 Y).toArray 23))∧Has (w6.alloc (.cells (z00 Y).toArray 23)) b8 (z00 root).toArray 23∧Has (w6.alloc (.cells (z00 Y).toArray 23)) w6.heap.size (z00 Y).toArray 23):=by
    have hb:=W5.out.1.trans (hb6.mono W5.out.1.size)
    exact ⟨hb.alloc hb.size _,(W5.out.2.keep hb6).alloc _,Has.new _ _ _⟩
  clear hb6 W5
  go_upto_region 12 with (first
    | (refine wpList_store_row rfl 23 (.tmp 19) (.tmp 62) rfl _ _ rfl rfl 23 _ (Has.new w6 _ _) (z03 y32) (by simp [z00,y32]) (z0i Y) ?_;rw [World.setRow_alloc_new])
    | fail)
  generalize w6.alloc (.cells (z00 Y).toArray 23)=W6 at *
  generalize w6.heap.size=b18 at *
  have hb:=R1.out.1
  have h7:=R1.out.2.1
  have h9:=R1.out.2.2
  have hq:=zc7 hYH HVV.out.2.2
  clear R1 hYH
  by_cases hYr:Y=root
  · have FN:Aside (V=0):=HVV.out.2.1 hYr
    rw [decide_eq_true hYr] at hq
    clear HVV hYr
    go_wp2_with (first
      | (refine wpList_load_row rfl 23 (.tmp 19) rfl b18 rfl 23 (z00 Y).toArray (0,0) _ h9 Tryz.underlying23 rfl (z03 y32) ?_)
      | (refine wpList_load_row rfl 23 (.tmp 8) rfl b8 rfl 23 (z00 root).toArray (0,0) _ h7 Tryz.underlying23 rfl (z03 r32) ?_)
      | fail)
    go_ret
    exact ⟨by rw [FN.out];rfl,hb⟩
  · have FN:Aside (V=80):=HVV.out.1 hYr
    rw [decide_eq_false hYr] at hq
    clear HVV hYr
    go_wp2_with (first
      | (refine wpList_load_row rfl 23 (.tmp 19) rfl b18 rfl 23 (z00 Y).toArray (0,0) _ h9 Tryz.underlying23 rfl (z03 y32) ?_)
      | (refine wpList_load_row rfl 23 (.tmp 8) rfl b8 rfl 23 (z00 root).toArray (0,0) _ h7 Tryz.underlying23 rfl (z03 r32) ?_)
      | fail)
    go_ret
    exact ⟨by rw [FN.out];rfl,hb⟩
end Go.Proofs.YthdpkaiieomdoaaGreatDoor

namespace Go.Proofs.YthdpkaiieomdoaaGreatDoor
open Go.RowKit
set_option maxRecDepth 100000
structure APT (a b x y:Value):Prop where
  ab:∀ g,a.ownBlock=some g→b.ownBlock≠some g
  ax:∀ g,a.ownBlock=some g→x.ownBlock≠some g
  ay:∀ g,a.ownBlock=some g→y.ownBlock≠some g
  bx:∀ g,b.ownBlock=some g→x.ownBlock≠some g
  byy:∀ g,b.ownBlock=some g→y.ownBlock≠some g
  xy:∀ g,x.ownBlock=some g→y.ownBlock≠some g
structure MIX (w0 w:World) (B:Nat) (K:Nat→Prop) (a:Value) (na:Nat) (xa:List Value) (b:Value) (nb:Nat) (xb:List Value) (x:Value) (mx:Nat) (xx:List Value) (y:Value) (my:Nat) (xy:List Value):Prop where
  ra:w.ownsRow B 24 1 a na xa
  rb:w.ownsRow B 24 1 b nb xb
  rx:w.ownsRow B 23 32 x mx xx
  ry:w.ownsRow B 23 32 y my xy
  ap:APT a b x y
  hm:∀ g,(a.ownBlock=some g∨b.ownBlock=some g∨x.ownBlock=some g∨y.ownBlock=some g)→K g∨w0.heap.size≤g
  kp:∀ k,k<w0.heap.size→¬ K k→w.heap[k]?=w0.heap[k]?
  bl:Below B w0 w
  sz:w0.heap.size≤w.heap.size
  bs:B≤w0.heap.size
section
variable {w0 w:World} {B:Nat} {K:Nat→Prop} {a:Value} {na:Nat} {xa:List Value} {b:Value} {nb:Nat} {xb:List Value} {x:Value} {mx:Nat} {xx:List Value} {y:Value} {my:Nat} {xy:List Value}
theorem MIX.size (h:MIX w0 w B K a na xa b nb xb x mx xx y my xy):B≤w.heap.size:=Nat.le_trans h.bs h.sz
theorem z4L {w w':World} {B s n:Nat} {t:TypeId} {v:Value} {xs:List Value} {r:Option Nat} (h:w.ownsRow B t s v n xs) (hg:w.grownBy w' r) (ho:∀ g,r=some g→v.ownBlock≠some g):w'.ownsRow B t s v n xs:=z0n h fun k e=>hg.block k (h.lt k e).2 fun e2=>ho k e2.symm e
theorem MIX.alloc (h:MIX w0 w B K a na xa b nb xb x mx xx y my xy) (o:Obj):MIX w0 (w.alloc o) B K a na xa b nb xb x mx xx y my xy:=
  ⟨z1a h.ra o,z1a h.rb o,z1a h.rx o,z1a h.ry o,h.ap,h.hm,fun k hk hK=>(Below.heap_alloc w o k (Nat.lt_of_lt_of_le hk h.sz)).trans (h.kp k hk hK),h.bl.alloc h.size o,by have:=h.sz;simp;omega,h.bs⟩
theorem MIX.drew (h:MIX w0 w B K a na xa b nb xb x mx xx y my xy):MIX w0 w.drew B K a na xa b nb xb x mx xx y my xy:=⟨h.ra,h.rb,h.rx,h.ry,h.ap,h.hm,h.kp,h.bl.drew,h.sz,h.bs⟩
structure OFF (z:Nat) (a b x y:Value):Prop where
  a:a.ownBlock≠some z
  b:b.ownBlock≠some z
  x:x.ownBlock≠some z
  y:y.ownBlock≠some z
end
end Go.Proofs.YthdpkaiieomdoaaGreatDoor

namespace Go.Proofs.YthdpkaiieomdoaaGreatDoor
open Go.RowKit
set_option maxRecDepth 100000
end Go.Proofs.YthdpkaiieomdoaaGreatDoor

namespace Go.Proofs.YthdpkaiieomdoaaGreatDoor
open Go.RowKit
set_option maxRecDepth 100000
theorem z9c {ops:Array Oper} {rest:List Oper} {o:Oper} {a:Act} {w:World} {Q:Exit→Act→World→Prop} (hw:Region.wanted o (yielded ops a.tmps)=true) (ty:TypeId) (x:Operand) (ho:o.op=.load ty x)
    (b off:Nat) (hx:a.eval x=.pointer (some ⟨b,off,none⟩)) (cs:List Value) (d:TypeDesc) (hc:w.rangeAt b off cs) (hu:Tryz.prog.underlying ty=some d) (hd:d.isRow=true) (hi:(Tryz.prog.info? ty).map (·.size)=some cs.length)
    (h:wpList Tryz.prog ops Q rest (a.put o.dst (.agg cs.toArray)) w):wpList Tryz.prog ops Q (o :: rest) a w:=by
  simp only [wpList]
  rw [if_pos hw]
  exact .inl (wp_load_mid ty x ho b off hx cs d hc hu hd hi h)
theorem zdL {ops:Array Oper} {rest:List Oper} {o:Oper} {a:Act} {w w':World} {Q:Exit→Act→World→Prop} {v:Value} (hw:Region.wanted o (yielded ops a.tmps)=true) (hrun:(execOp a.eval o).run Tryz.prog w=.ok (.value v) w') (h:wpList Tryz.prog ops Q rest (a.put o.dst v) w'):wpList Tryz.prog ops Q (o :: rest) a w:=by
  simp only [wpList]
  rw [if_pos hw]
  refine .inl ?_
  unfold Oper.wp
  rw [hrun]
  exact h
end Go.Proofs.YthdpkaiieomdoaaGreatDoor

namespace Go.Proofs.YthdpkaiieomdoaaGreatDoor
open Go.RowKit
set_option maxRecDepth 100000
structure BPAIR (w0 w:World) (B:Nat) (a:Value) (na:Nat) (xa:List Value) (b:Value) (nb:Nat) (xb:List Value):Prop where
  ra:w.ownsRow B 5 1 a na xa
  rb:w.ownsRow B 5 1 b nb xb
  ap:∀ g,a.ownBlock=some g→b.ownBlock≠some g
  bl:Below B w0 w
  bs:B≤w0.heap.size
theorem BPAIR.step {w0 w w':World} {B:Nat} {a:Value} {na:Nat} {xa:List Value} {b:Value} {nb:Nat} {xb:List Value} (h:BPAIR w0 w B a na xa b nb xb) {a':Value} {na':Nat} {xa':List Value} (hown:w'.ownsRow B 5 1 a' na' xa') (hg:w.grownBy w' a.ownBlock) (hat:∀ g,a'.ownBlock=some g→a.ownBlock=some g∨w.heap.size≤g):BPAIR w0 w' B a' na' xa' b nb xb:=by
  refine ⟨hown,z4L h.rb hg h.ap,fun g e1 e2=>?_,h.bl.grown hg (Nat.le_trans h.bs h.bl.size) (fun k e=>(h.ra.lt k e).1),h.bs⟩
  rcases hat g e1 with h1 | h1
  · exact h.ap g h1 e2
  · have:=(h.rb.lt g e2).2
    omega
theorem BPAIR.alloc {w0 w:World} {B:Nat} {a:Value} {na:Nat} {xa:List Value} {b:Value} {nb:Nat} {xb:List Value} (h:BPAIR w0 w B a na xa b nb xb) (o:Obj):BPAIR w0 (w.alloc o) B a na xa b nb xb:=⟨z1a h.ra o,z1a h.rb o,h.ap,h.bl.alloc (Nat.le_trans h.bs h.bl.size) o,h.bs⟩
end Go.Proofs.YthdpkaiieomdoaaGreatDoor
