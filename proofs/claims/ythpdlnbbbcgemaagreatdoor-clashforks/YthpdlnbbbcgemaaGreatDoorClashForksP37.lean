/- Texts of ClashForks, one behind the other: VerifyPrefix, ProofRefDecoded. -/
import Derived.Test.YthpdlnbbbcgemaaGreatDoorClashForksP32
namespace Go.Proofs.YthpdlnbbbcgemaaGreatDoor
open Go.RowKit
set_option maxRecDepth 100000
def PFXA (d:Int) (js:List (Nat × Nat)) (m:Nat) (r1:List Int) (n:Nat) (r2 bl:List Int):Int:=
  if (DEX bl).1≠0 then (DEX bl).1 else if (DEX bl).2.1≠m then 30 else if (DEX bl).2.2.1≠n then 30 else
    if UNDA d m (RCA d js (DEX bl).2.1 (DEX bl).2.2.1 (DEX bl).2.2.2.1 (DEX bl).2.2.2.2).2.1.1 (RCA d js (DEX bl).2.1 (DEX bl).2.2.1 (DEX bl).2.2.2.1 (DEX bl).2.2.2.2).2.1.2 r1≠0 then
      UNDA d m (RCA d js (DEX bl).2.1 (DEX bl).2.2.1 (DEX bl).2.2.2.1 (DEX bl).2.2.2.2).2.1.1 (RCA d js (DEX bl).2.1 (DEX bl).2.2.1 (DEX bl).2.2.2.1 (DEX bl).2.2.2.2).2.1.2 r1
    else UNDA d n (RCA d js (DEX bl).2.1 (DEX bl).2.2.1 (DEX bl).2.2.2.1 (DEX bl).2.2.2.2).2.2.1 (RCA d js (DEX bl).2.1 (DEX bl).2.2.1 (DEX bl).2.2.2.1 (DEX bl).2.2.2.2).2.2.2 r2
set_option maxHeartbeats 4000000 in
theorem z7S (d:Int) (m:Nat) (hm:m<2 ^ 64) (r1:List Int) (hr1:IsH r1) (n:Nat) (hn:n<2 ^ 64) (r2:List Int) (hr2:IsH r2) (ba:Option Addr) (bn bc:Nat) (hbn:bn≤1000000) (hbc:bn≤bc) (bl:List Int) (js:List (Nat × Nat)) (hJ:(DEX bl).2.1≤(DEX bl).2.2.1→(DEX bl).2.2.1≤4611686018427387904→JSOK (DEX bl).2.1 ((DEX bl).2.2.1 - (DEX bl).2.1) js) (w:World) (hB:Bytes w ba bn bl) (hT:Tabled w) (hX:HX.Tabled w) (h0:2<w.heap.size):
    Calls Tryz.prog 19 #[.int .i64 d,.int .u64 (m:Int),.agg (z01 r1).toArray,.int .u64 (n:Int),.agg (z01 r2).toArray,.slice ba bn bc] w fun e w'=>e=.returned (.int .i64 (PFXA d js m r1 n r2 bl))∧Below w.heap.size w w':=by
  have l1:=hr1.1
  have l2:=hr2.1
  obtain ⟨b7,hb7⟩:∃ b7,b7=w.heap.size:=⟨_,rfl⟩
  have R0:Aside (Below w.heap.size w ((w.alloc (.cells (z01 r1).toArray 24)).alloc (.cells (z01 r2).toArray 24))∧Has ((w.alloc (.cells (z01 r1).toArray 24)).alloc (.cells (z01 r2).toArray 24)) b7 (z01 r1).toArray 24∧Has ((w.alloc (.cells (z01 r1).toArray 24)).alloc (.cells (z01 r2).toArray 24)) (b7+1) (z01 r2).toArray 24):=by
    rw [hb7]
    exact ⟨((Below.refl _ _).alloc (Nat.le_refl _) _).alloc (by simp) _,(Has.new _ _ _).alloc _,Has.at _ _ _ (by simp)⟩
  have HT:Aside (∀ W,Below w.heap.size w W→Tabled W∧HX.Tabled W∧0<W.heap.size∧Bytes W ba bn bl∧2<W.heap.size):=fun W h=>by
    have hs:=h.size
    exact ⟨hT.below (by omega) h,hX.below h,by omega,hB.below h,by omega⟩
  have HA:Aside (IsH r1∧IsH r2∧m<2 ^ 64∧n<2 ^ 64∧bn≤1000000∧bn≤bc):=⟨hr1,hr2,hm,hn,hbn,hbc⟩
  clear hr1 hr2 hm hn hbn hbc hB hT hX h0
  obtain ⟨E,F,S,N,t,hD⟩:∃ E F S N t,DEX bl=(E,F,S,N,t):=⟨_,_,_,_,_,rfl⟩
  rw [hD] at hJ
  dsimp only at hJ
  have HJ:Aside (F≤S→S≤4611686018427387904→JSOK F (S - F) js):=hJ
  clear hJ
  have hU:PFXA d js m r1 n r2 bl=if E≠0 then E else if F≠m then 30 else if S≠n then 30 else if UNDA d m (RCA d js F S N t).2.1.1 (RCA d js F S N t).2.1.2 r1≠0 then UNDA d m (RCA d js F S N t).2.1.1 (RCA d js F S N t).2.1.2 r1 else UNDA d n (RCA d js F S N t).2.2.1 (RCA d js F S N t).2.2.2 r2:=by unfold PFXA;rw [hD]
  generalize PFXA d js m r1 n r2 bl=U at *
  have HV:Aside ((¬ E=0→U=E)∧(E=0→¬ F=m→U=30)∧(E=0→F=m→¬ S=n→U=30)∧(E=0→F=m→S=n→U=if UNDA d m (RCA d js F S N t).2.1.1 (RCA d js F S N t).2.1.2 r1≠0 then UNDA d m (RCA d js F S N t).2.1.1 (RCA d js F S N t).2.1.2 r1 else UNDA d n (RCA d js F S N t).2.2.1 (RCA d js F S N t).2.2.2 r2)):=
    ⟨fun h=>hU.trans (if_pos h),fun h1 h2=>by rw [hU,if_neg (by simpa using h1),if_pos h2],fun h1 h2 h3=>by rw [hU,if_neg (by simpa using h1),if_neg (by simpa using h2),if_pos h3],fun h1 h2 h3=>by rw [hU,if_neg (by simpa using h1),if_neg (by simpa using h2),if_neg (by simpa using h3)]⟩
  clear hU
  have HD:Aside (DEX bl=(E,F,S,N,t)):=hD
  clear hD
  go_enter Tryz.func19,Tryz.ntmps19
  go_upto_region 1 with fail
  rw [← hb7]
  have HB:Aside (b7=w.heap.size):=hb7
  clear hb7
  generalize (w.alloc (.cells (z01 r1).toArray 24)).alloc (.cells (z01 r2).toArray 24)=W0 at *
  go_wp2_with fail
  have cD:=z5U ba bn bc HA.out.2.2.2.2.1 bl W0 (HT.out _ R0.out.1).2.2.2.1 HA.out.2.2.2.2.2 (HT.out _ R0.out.1).1 (HT.out _ R0.out.1).2.2.1
  rw [HD.out] at cD
  refine cD.mono ?_
  clear cD HD
  rintro e w1 ⟨a1,c1,rfl,hrow,hr,hb⟩
  dsimp only at *
  obtain ⟨b8,hb8⟩:∃ b,b=w1.heap.size:=⟨_,rfl⟩
  have hbb:Below w1.heap.size w1 (w1.alloc (.cells #[.int .u64 (F:Int),.int .u64 (S:Int),.slice a1 N c1] 50)):=(Below.refl _ _).alloc (Nat.le_refl _) _
  have R1:Aside (Below w.heap.size w (w1.alloc (.cells #[.int .u64 (F:Int),.int .u64 (S:Int),.slice a1 N c1] 50))∧Has (w1.alloc (.cells #[.int .u64 (F:Int),.int .u64 (S:Int),.slice a1 N c1] 50)) b7 (z01 r1).toArray 24∧Has (w1.alloc (.cells #[.int .u64 (F:Int),.int .u64 (S:Int),.slice a1 N c1] 50)) (b7+1) (z01 r2).toArray 24∧Has (w1.alloc (.cells #[.int .u64 (F:Int),.int .u64 (S:Int),.slice a1 N c1] 50)) b8 #[.int .u64 (F:Int),.int .u64 (S:Int),.slice a1 N c1] 50∧Flat (w1.alloc (.cells #[.int .u64 (F:Int),.int .u64 (S:Int),.slice a1 N c1] 50)) a1 N t):=
    ⟨(R0.out.1.trans (hb.mono R0.out.1.size)).trans (hbb.mono (R0.out.1.trans (hb.mono R0.out.1.size)).size),(R0.out.2.1.keep hb).keep hbb,(R0.out.2.2.keep hb).keep hbb,Has.at _ _ _ hb8,(z1U hrow hr).below hbb⟩
  clear hrow hr hb hbb R0
  go_upto_region 2 with fail
  rw [← hb8]
  clear hb8
  generalize w1.alloc (.cells #[.int .u64 (F:Int),.int .u64 (S:Int),.slice a1 N c1] 50)=W1 at *
  clear w1 W0
  have y0:W1.cell? ⟨b8,0,none⟩=some (.int .u64 (F:Int)):=R1.out.2.2.2.1.cell 0
  have y1:W1.cell? ⟨b8,1,none⟩=some (.int .u64 (S:Int)):=R1.out.2.2.2.1.cell 1
  have y2:W1.cell? ⟨b8,2,none⟩=some (.slice a1 N c1):=R1.out.2.2.2.1.cell 2
  have hb:=R1.out.1
  by_cases hE:E=0
  · by_cases hF:F=m
    · by_cases hS:S=n
      · have HW:Aside (U=if UNDA d m (RCA d js F S N t).2.1.1 (RCA d js F S N t).2.1.2 r1≠0 then UNDA d m (RCA d js F S N t).2.1.1 (RCA d js F S N t).2.1.2 r1 else UNDA d n (RCA d js F S N t).2.2.1 (RCA d js F S N t).2.2.2 r2):=HV.out.2.2.2 hE hF hS
        subst hE hF hS
        clear HV
        go_wp2_with fail
        refine (zeR d F S js HJ.out a1 N c1 t W1 R1.out.2.2.2.2 (HT.out _ hb).1 (HT.out _ hb).2.1 (HT.out _ hb).2.2.2.2).mono ?_
        have hrg:=z7G (d:=d) (js:=js) (F:=F) (S:=S) R1.out.2.2.2.2.1 R1.out.2.2.2.2.2.2
        generalize RCA d js F S N t=C at *
        obtain ⟨CE,⟨CN,CL⟩,DN,DL⟩:=C
        rintro e w2 ⟨a2,c2,a3,c3,rfl,hrow,hrow2,hb2, -⟩
        dsimp only at *
        have R2:Aside (Below w.heap.size w w2∧Has w2 b7 (z01 r1).toArray 24∧Has w2 (b7+1) (z01 r2).toArray 24∧Flat w2 a2 CN CL∧Flat w2 a3 DN DL):=⟨hb.trans (hb2.mono hb.size),R1.out.2.1.keep hb2,R1.out.2.2.1.keep hb2,z1U hrow hrg.1,z1U hrow2 hrg.2⟩
        clear hrow hrow2 hrg hb2 hb R1 y0 y1 y2
        have h7:=R2.out.2.1
        go_wp2_with (first
          | (refine wpList_load_row rfl 24 (.tmp 8) rfl b7 rfl 24 (z01 r1).toArray (0,0) _ h7 Tryz.underlying24 rfl (z02 l1) ?_)
          | fail)
        refine (z7E d F HA.out.2.2.1 a2 CN c2 CL r1 HA.out.1 w2 R2.out.2.2.2.1 (HT.out _ R2.out.1).2.1).mono ?_
        rintro e w3 ⟨rfl,hb3⟩
        generalize UNDA d F CN CL r1=U1 at *
        have R3:Aside (Below w.heap.size w w3∧Has w3 (b7+1) (z01 r2).toArray 24∧Flat w3 a3 DN DL):=⟨R2.out.1.trans (hb3.mono R2.out.1.size),R2.out.2.2.1.keep hb3,R2.out.2.2.2.2.below hb3⟩
        clear hb3 R2 h7
        by_cases hU1:U1=0
        · subst hU1
          have HW2:Aside (U=UNDA d S DN DL r2):=by have:=HW.out;rw [if_neg (by simp)] at this;exact this
          clear HW
          have h8:=R3.out.2.1
          go_wp2_with (first
            | (refine wpList_load_row rfl 24 (.tmp 10) rfl (b7+1) rfl 24 (z01 r2).toArray (0,0) _ h8 Tryz.underlying24 rfl (z02 l2) ?_)
            | fail)
          refine (z7E d S HA.out.2.2.2.1 a3 DN c3 DL r2 HA.out.2.1 w3 R3.out.2.2 (HT.out _ R3.out.1).2.1).mono ?_
          rintro e w4 ⟨rfl,hb4⟩
          have R4:Aside (Below w.heap.size w w4):=R3.out.1.trans (hb4.mono R3.out.1.size)
          clear hb4 R3 h8 HT HA
          go_wp2_with fail
          go_ret
          exact ⟨by rw [HW2.out];rfl,R4.out⟩
        · have HW2:Aside (U=U1):=by have:=HW.out;rw [if_pos hU1] at this;exact this
          clear HW HT HA
          go_wp2_with fail
          go_ret
          exact ⟨by rw [HW2.out];rfl,R3.out.1⟩
      · have HW:Aside (U=30):=HV.out.2.2.1 hE hF hS
        have hS':¬ (S:Int)=(n:Int):=by omega
        subst hE hF
        clear HV HT HA R1 HJ
        go_wp2_with fail
        go_ret
        exact ⟨by rw [HW.out];rfl,hb⟩
    · have HW:Aside (U=30):=HV.out.2.1 hE hF
      have hF':¬ (F:Int)=(m:Int):=by omega
      subst hE
      clear HV HT HA R1 HJ
      go_wp2_with fail
      go_ret
      exact ⟨by rw [HW.out];rfl,hb⟩
  · have HW:Aside (U=E):=HV.out.1 hE
    clear HV HT HA R1 y0 y1 y2 HJ
    go_wp2_with fail
    go_ret
    exact ⟨by rw [HW.out];rfl,hb⟩
end Go.Proofs.YthpdlnbbbcgemaaGreatDoor

namespace Go.Proofs.YthpdlnbbbcgemaaGreatDoor
open Go.RowKit
set_option maxRecDepth 100000
theorem z3p (b off n c k:Nat) (hk:k≤n) (hc:n≤c) (w:World):(Instr.slice 25 (.slice (some ⟨b,off,none⟩) n c) (some (.int .i64 (k:Int))) none none).run Tryz.prog w=.ok (.slice (REST b off c k) (n - k) (c - k)) w:=by
  obtain ⟨i8,hi,h8⟩:=Option.map_eq_some_iff.1 z0R
  have he:Tryz.prog.elem 25=5:=by kernel_rfl
  have hu:Tryz.prog.underlying 25=some (.slice (Tryz.prog.elem 25)):=by kernel_rfl
  by_cases e:c=k
  · obtain rfl:n=c:=by omega
    subst e
    simp [REST,go_sem]
  · have e1:¬ (n:Int)<(k:Int):=by omega
    have hcell:Tryz.prog.cellsOf 5=1:=by kernel_rfl
    rw [run_slice_l (P:=Tryz.prog) w 25 (some ⟨b,off,none⟩) n c hu .i64 (k:Int) (by omega) (by omega),he]
    have h9:i8.size=1:=by
      have:(Tryz.prog.info? 5).map (·.size)=some 1:=by kernel_rfl
      rw [hi] at this
      simpa using this
    simp [sizeOf,typeInfo,hi,h9,sliced,Addr.add,REST,e]
theorem Flat.off {w:World} {a:Option Addr} {n:Nat} {l:List Int} (h:Flat w a n l) {x:Addr} (hx:∀ b o,a=some ⟨b,o,none⟩→b≠x.block) (u:Value):Flat (w.setCell x u) a n l:=
  ⟨h.1,fun hn=>by
    obtain ⟨b,o,e,hl,hc⟩:=h.2.1 hn
    exact ⟨b,o,e,Nat.lt_of_lt_of_le hl (KeepsWalks.setCell w x u).size,fun j hj=>(World.cell?_setCell_other w _ _ u (fun e'=>hx b o e (congrArg Addr.block e').symm)).trans (hc j hj)⟩,h.2.2⟩
theorem zf9 {w:World} {B n:Nat} {a:Option Addr} {c:Nat} {xs:List Value} (h:w.ownsRow B 24 32 (.slice a n c) n xs):n≤c∧(a=none→c=0):=by
  rcases h.2 with ⟨e,h0⟩ | ⟨g,cap,cur,e,_,_,h1,_⟩
  · cases e
    exact ⟨by omega,fun _=>rfl⟩
  · cases e
    exact ⟨h1,fun h=>by cases h⟩
def DECF (w:World) (D:DANS) (e:Ending) (w':World):Prop:=
  ∃ a c,e=.returned (.tuple #[.agg #[.int .u64 (D.2.1:Int),.int .u64 (D.2.2.1:Int),.slice a D.2.2.2.1 c],.int .i64 D.1])∧Flat w' a D.2.2.2.1 D.2.2.2.2∧Below w.heap.size w w'∧(∀ b o,a=some ⟨b,o,none⟩→w.heap.size≤b)∧D.2.2.2.1≤c∧(a=none→c=0)
theorem z1i {fn:Func} {p q:Tmp} {ty:TypeId} (h:fn.results=#[.cell p ty,.tmp q]) (tmps:Array Value) (w:World) (g:Nat) (t:TypeId) (cs:Array Value) (fr:Nat × Nat) (fs:Array Field)
    (hp:tmps.getD p undef=.pointer (some ⟨g,0,none⟩)) (hg:w.heap[g]?=some (.cells cs t fr)) (v:Value) (hq:tmps.getD q undef=v)
    (hu:Tryz.prog.underlying ty=some (.struct fs)) (hi:(Tryz.prog.info? ty).map (·.size)=some cs.size):
    (results fn tmps).run Tryz.prog w=.ok (.tuple #[.agg cs,v]) w:=by
  have hp':tmps[p]?.getD undef=.pointer (some ⟨g,0,none⟩):=by simpa using hp
  have hq':tmps[q]?.getD undef=v:=by simpa using hq
  simp [results,h,hp',hq',asAddr,run_loadVar_row w g t ty cs fr (.struct fs) hg hu rfl hi]
set_option maxHeartbeats 4000000 in
theorem z52 (a:Option Addr) (n c:Nat) (hn:n≤1000000) (l:List Int) (w:World) (hB:Bytes w a n l) (hc:n≤c):Calls Tryz.prog 16 #[.slice a n c] w (DECF w (DEX l)):=by
  have hln:l.length=n:=hB.1
  obtain ⟨D,hD⟩:∃ D,DEX l=D:=⟨_,rfl⟩
  rw [hD]
  have hDD:DC0 80 (fun _=>false) PPA l=D:=hD
  have R:Aside (Below w.heap.size w (w.alloc (.cells #[.int .u64 0,.int .u64 0,.slice none 0 0] 50))∧Has (w.alloc (.cells #[.int .u64 0,.int .u64 0,.slice none 0 0] 50)) w.heap.size #[.int .u64 0,.int .u64 0,.slice none 0 0] 50):=⟨(Below.refl _ _).alloc (Nat.le_refl _) _,Has.new _ _ _⟩
  have ERR:Aside (∀ (E:Int) (W:World),Below w.heap.size w W→D=DERR E→DECF w D (.returned (.tuple #[.agg #[.int .u64 0,.int .u64 0,.slice none 0 0],.int .i64 E])) W):=fun E W h1 h3=>by
    rw [h3]
    exact ⟨none,0,rfl,⟨rfl,fun h=>absurd h (by simp [DERR]),by simp [DERR]⟩,h1,(fun _ _ h=>by cases h),Nat.zero_le _,fun _=>rfl⟩
  unfold DC0 at hDD
  rw [hln] at hDD
  clear hD
  by_cases h0:n=0
  · subst h0
    rw [if_pos rfl] at hDD
    have X:Aside (D=DERR 11):=hDD.symm
    clear hB hc hn hDD hln
    go_enter Tryz.func16,Tryz.ntmps16
    go_wp2
    refine bodyPost_ret (v:=.tuple #[.agg #[.int .u64 0,.int .u64 0,.slice none 0 0],.int .i64 11]) (z1i rfl _ _ w.heap.size 50 _ (0,0) _ rfl R.out.2 _ rfl Tryz.underlying50 (by kernel_rfl)) rfl (ERR.out 11 _ R.out.1 X.out)
  rw [if_neg h0] at hDD
  obtain ⟨b,o,rfl,hbl,hcs⟩:=hB.2.1 (by omega)
  have hz:¬ (n:Int)=0:=by omega
  have hpos:(0:Int)<(n:Int):=by omega
  have hx:(w.alloc (.cells #[.int .u64 0,.int .u64 0,.slice none 0 0] 50)).cell? ⟨b,o,none⟩=some (.int .u8 (l.getD 0 0)):=by
    have:=hcs 0 (by omega)
    rw [Nat.add_zero] at this
    exact (R.out.1.cell (p:=⟨b,o,none⟩) hbl).trans this
  clear hbl hcs
  by_cases hK:l.getD 0 0=80
  · rw [if_neg (by simpa using hK)] at hDD
    rw [hK] at hx
    have hs1:(Instr.slice 25 (.slice (some ⟨b,o,none⟩) n c) (some (.int .i64 1)) none none).run Tryz.prog (w.alloc (.cells #[.int .u64 0,.int .u64 0,.slice none 0 0] 50))=.ok (.slice (REST b o c 1) (n - 1) (c - 1)) (w.alloc (.cells #[.int .u64 0,.int .u64 0,.slice none 0 0] 50)):=by
      have:=z3p b o n c 1 (by omega) hc (w.alloc (.cells #[.int .u64 0,.int .u64 0,.slice none 0 0] 50))
      simpa using this
    have HA:Aside (Bytes w (some ⟨b,o,none⟩) n l∧n≤c∧n≤1000000∧1≤n∧l.length=n):=⟨hB,hc,hn,by omega,hln⟩
    clear hB hc hn h0 hK hln
    go_enter Tryz.func16,Tryz.ntmps16
    go_wp2_with fail
    have c1:=z6y (REST b o c 1) (n - 1) (c - 1) (l.drop 1) (w.alloc (.cells #[.int .u64 0,.int .u64 0,.slice none 0 0] 50)) ((HA.out.1.behind 1 HA.out.2.2.2.1 HA.out.2.1).below R.out.1) (by have:=HA.out;omega)
    have hlen1:(l.drop 1).length=n - 1:=by rw [List.length_drop,HA.out.2.2.2.2]
    rw [← hlen1,show LG (l.drop 1) (l.drop 1).length 10 0 0=LNG (l.drop 1) from rfl,hlen1] at c1
    refine c1.mono ?_
    rintro e w1 ⟨rfl,rfl⟩
    clear c1 hlen1 hs1 hx hz hpos
    unfold DC1 at hDD
    generalize (w.alloc (.cells #[.int .u64 0,.int .u64 0,.slice none 0 0] 50))=W0 at *
    by_cases hE1:(LNG (l.drop 1)).2.2=0
    · rw [if_neg (by simpa using hE1)] at hDD
      obtain ⟨Z,m,hZ,hm1,hm2,hL, -⟩:=z1V (fun x hx=>HA.out.1.2.2 x (List.mem_of_mem_drop hx)) hE1
      rw [hL] at hDD ⊢
      dsimp only at hDD ⊢
      rw [Int.toNat_natCast,Int.toNat_natCast] at hDD
      have hm3:1+m≤n:=by have h1:=HA.out.2.2.2.1;have h2:=HA.out.2.2.2.2;rw [List.length_drop,h2] at hm2;omega
      have HM:Aside (Z<2 ^ 64∧1+m≤n):=⟨hZ,hm3⟩
      clear hL hE1 hm1 hm2 hZ hm3
      rw [if_neg (by simp)] at hDD
      rw [List.drop_drop] at hDD
      have wm:wrap64 (1+(m:Int))=((1+m:Nat):Int):=by have:=HM.out;have:=HA.out;unfold wrap64;omega
      have hs2:(Instr.slice 25 (.slice (some ⟨b,o,none⟩) n c) (some (.int .i64 ((1+m:Nat):Int))) none none).run Tryz.prog W0=.ok (.slice (REST b o c (1+m)) (n - (1+m)) (c - (1+m))) W0:=z3p b o n c (1+m) HM.out.2 HA.out.2.1 W0
      obtain ⟨m',hm'⟩:∃ m',1+m=m':=⟨_,rfl⟩
      rw [hm'] at wm hs2 hDD HM
      clear hm'
      go_wp2_with fail
      have c2:=z6y (REST b o c m') (n - m') (c - m') (l.drop m') W0 ((HA.out.1.behind m' HM.out.2 HA.out.2.1).below R.out.1) (by have:=HA.out;omega)
      have hlen2:(l.drop m').length=n - m':=by rw [List.length_drop,HA.out.2.2.2.2]
      rw [← hlen2,show LG (l.drop m') (l.drop m').length 10 0 0=LNG (l.drop m') from rfl,hlen2] at c2
      refine c2.mono ?_
      rintro e w1 ⟨rfl,rfl⟩
      clear c2 hlen2 hs2
      unfold DC2 at hDD
      by_cases hE2:(LNG (l.drop m')).2.2=0
      · rw [if_neg (by simpa using hE2)] at hDD
        obtain ⟨Y,k,hY,hk1,hk2,hL, -⟩:=z1V (fun x hx=>HA.out.1.2.2 x (List.mem_of_mem_drop hx)) hE2
        rw [hL] at hDD ⊢
        dsimp only at hDD ⊢
        rw [Int.toNat_natCast,Int.toNat_natCast,List.drop_drop] at hDD
        have hk3:m'+k≤n:=by have h1:=HM.out.2;have h2:=HA.out.2.2.2.2;rw [List.length_drop,h2] at hk2;omega
        have HK:Aside (Y<2 ^ 64∧m'+k≤n):=⟨hY,hk3⟩
        clear hL hE2 hk1 hk2 hY hk3
        go_wp2_with fail
        refine (z3X Z Y none 0 0 W0).mono ?_
        rintro e w2 ⟨rfl,hb2⟩
        unfold DC3 at hDD
        have R:Aside (Below w.heap.size w w2∧Has w2 w.heap.size #[.int .u64 0,.int .u64 0,.slice none 0 0] 50):=⟨R.out.1.trans (hb2.mono R.out.1.size),R.out.2.keep hb2⟩
        clear hb2
        obtain ⟨E3,hE3⟩:∃ E3,(PPA Z Y).1=E3:=⟨_,rfl⟩
        obtain ⟨N,hN⟩:∃ N,(PPA Z Y).2.length=N:=⟨_,rfl⟩
        have hfew:N≤188:=by rw [← hN];exact z70 Z Y
        try dsimp only at hDD
        rw [hE3,hN] at hDD ⊢
        clear hE3 hN
        by_cases h3:E3=0
        · subst h3
          rw [if_neg (by simp)] at hDD
          obtain ⟨m2,hm2⟩:∃ m2,m'+k=m2:=⟨_,rfl⟩
          have wk:wrap64 ((m':Int)+(k:Int))=(m2:Int):=by have:=HK.out;have:=HA.out;unfold wrap64;omega
          rw [hm2] at hDD HK
          have hs3:(Instr.slice 25 (.slice (some ⟨b,o,none⟩) n c) (some (.int .i64 (m2:Int))) none none).run Tryz.prog w2=.ok (.slice (REST b o c m2) (n - m2) (c - m2)) w2:=z3p b o n c m2 HK.out.2 HA.out.2.1 w2
          clear hm2
          go_wp2_with fail
          refine (zgi (REST b o c m2) (n - m2) (c - m2) N (by have:=HA.out;omega) (by omega) (l.drop m2) w2 ((HA.out.1.behind m2 HK.out.2 HA.out.2.1).below R.out.1)).mono ?_
          rintro e w3 ⟨v,rfl,hrow,hb3⟩
          clear hs3
          have hTK:D=((TAKN (l.drop m2) N).1,if (TAKN (l.drop m2) N).1=0 then (Z,Y,(TAKN (l.drop m2) N).2.1,(TAKN (l.drop m2) N).2.2) else (0,0,0,[])):=by
            rw [← hDD]
            unfold TAKN DERR
            split
            · rfl
            · split
              · rfl
              · rfl
          have hrg:∀ x∈(TAKN (l.drop m2) N).2.2,0≤x∧x≤255:=by
            unfold TAKN
            split
            · simp
            · split
              · simp
              · exact fun x hx=>HA.out.1.2.2 x (List.mem_of_mem_drop hx)
          obtain ⟨E4,hE4⟩:∃ E4,(TAKN (l.drop m2) N).1=E4:=⟨_,rfl⟩
          rw [hE4] at hTK ⊢
          obtain ⟨av,cv,rfl, -, -⟩:=z31 hrow
          have hlt2:=R.out.2.lt
          have R:Aside (Below w.heap.size w w3∧Has w3 w.heap.size #[.int .u64 0,.int .u64 0,.slice none 0 0] 50):=⟨R.out.1.trans (hb3.mono R.out.1.size),R.out.2.keep hb3⟩
          have R3:Aside (Flat w3 av (TAKN (l.drop m2) N).2.1 (TAKN (l.drop m2) N).2.2∧(∀ b o,av=some ⟨b,o,none⟩→b≠w.heap.size∧w.heap.size≤b)∧(TAKN (l.drop m2) N).2.1≤cv∧(av=none→cv=0)):=⟨z1U hrow hrg,(fun b o e=>by subst e;have h1:=(hrow.lt b rfl).1;omega),zf9 hrow⟩
          generalize (TAKN (l.drop m2) N).2.1=N4 at *
          generalize (TAKN (l.drop m2) N).2.2=t4 at *
          clear hrow hb3 hDD hE4 hrg wk wm hlt2
          have x0:w3.cell? ⟨w.heap.size,0,none⟩=some (.int .u64 0):=R.out.2.cell 0
          have x1:w3.cell? ⟨w.heap.size,1,none⟩=some (.int .u64 0):=R.out.2.cell 1
          have x2:w3.cell? ⟨w.heap.size,2,none⟩=some (.slice none 0 0):=R.out.2.cell 2
          have f0:=R.out.2.frozen 0
          have f1:=R.out.2.frozen 1
          have f2:=R.out.2.frozen 2
          by_cases h4:E4=0
          · subst h4
            rw [if_pos rfl] at hTK
            have X:Aside (D=(0,Z,Y,N4,t4)):=hTK
            clear hTK
            go_wp2
            obtain ⟨r1,r2⟩:=R.out
            have hH:=((r2.set 0 (.int .u64 (Z:Int))).set 1 (.int .u64 (Y:Int))).set 2 (.slice av N4 cv)
            have hb:=((r1.setCell (p:=⟨w.heap.size,0,none⟩) (Nat.le_refl _) (.int .u64 (Z:Int))).setCell (p:=⟨w.heap.size,1,none⟩) (Nat.le_refl _) (.int .u64 (Y:Int))).setCell (p:=⟨w.heap.size,2,none⟩) (Nat.le_refl _) (.slice av N4 cv)
            have hF:=((R3.out.1.off (x:=⟨w.heap.size,0,none⟩) (fun b o e=>(R3.out.2.1 b o e).1) (.int .u64 (Z:Int))).off (x:=⟨w.heap.size,1,none⟩) (fun b o e=>(R3.out.2.1 b o e).1) (.int .u64 (Y:Int))).off (x:=⟨w.heap.size,2,none⟩) (fun b o e=>(R3.out.2.1 b o e).1) (.slice av N4 cv)
            rw [X.out]
            refine bodyPost_ret (v:=.tuple #[.agg #[.int .u64 (Z:Int),.int .u64 (Y:Int),.slice av N4 cv],.int .i64 0]) (z1i rfl _ _ w.heap.size 50 _ (0,0) _ rfl hH _ rfl Tryz.underlying50 (by kernel_rfl)) rfl ⟨av,cv,rfl,hF,hb,(fun b o e=>(R3.out.2.1 b o e).2),R3.out.2.2⟩
          · rw [if_neg h4] at hTK
            have X:Aside (D=DERR E4):=hTK
            have hne:((E4:Int) != 0)=true:=by simp [h4]
            clear hTK h4
            go_wp2
            obtain ⟨r1,r2⟩:=R.out
            have hH:=((r2.set 0 (.int .u64 0)).set 1 (.int .u64 0)).set 2 (.slice none 0 0)
            have hb:=((r1.setCell (p:=⟨w.heap.size,0,none⟩) (Nat.le_refl _) (.int .u64 0)).setCell (p:=⟨w.heap.size,1,none⟩) (Nat.le_refl _) (.int .u64 0)).setCell (p:=⟨w.heap.size,2,none⟩) (Nat.le_refl _) (.slice none 0 0)
            refine bodyPost_ret (v:=.tuple #[.agg #[.int .u64 0,.int .u64 0,.slice none 0 0],.int .i64 E4]) (z1i rfl _ _ w.heap.size 50 _ (0,0) _ rfl hH _ rfl Tryz.underlying50 (by kernel_rfl)) rfl (ERR.out E4 _ hb X.out)
        · rw [if_pos h3] at hDD
          have X:Aside (D=DERR E3):=hDD.symm
          have hne:((E3:Int) != 0)=true:=by simp [h3]
          clear hDD h3 wm
          have x0:w2.cell? ⟨w.heap.size,0,none⟩=some (.int .u64 0):=R.out.2.cell 0
          have x1:w2.cell? ⟨w.heap.size,1,none⟩=some (.int .u64 0):=R.out.2.cell 1
          have x2:w2.cell? ⟨w.heap.size,2,none⟩=some (.slice none 0 0):=R.out.2.cell 2
          have f0:=R.out.2.frozen 0
          have f1:=R.out.2.frozen 1
          have f2:=R.out.2.frozen 2
          go_wp2
          obtain ⟨r1,r2⟩:=R.out
          have hH:=((r2.set 0 (.int .u64 0)).set 1 (.int .u64 0)).set 2 (.slice none 0 0)
          have hb:=((r1.setCell (p:=⟨w.heap.size,0,none⟩) (Nat.le_refl _) (.int .u64 0)).setCell (p:=⟨w.heap.size,1,none⟩) (Nat.le_refl _) (.int .u64 0)).setCell (p:=⟨w.heap.size,2,none⟩) (Nat.le_refl _) (.slice none 0 0)
          refine bodyPost_ret (v:=.tuple #[.agg #[.int .u64 0,.int .u64 0,.slice none 0 0],.int .i64 E3]) (z1i rfl _ _ w.heap.size 50 _ (0,0) _ rfl hH _ rfl Tryz.underlying50 (by kernel_rfl)) rfl (ERR.out E3 _ hb X.out)
      · rw [if_pos hE2] at hDD
        obtain ⟨r1,r2,E2,hL⟩:∃ r1 r2 E2,LNG (l.drop m')=(r1,r2,E2):=⟨_,_,_,rfl⟩
        rw [hL] at hDD hE2 ⊢
        have X:Aside (D=DERR E2):=hDD.symm
        have hne:((E2:Int) != 0)=true:=by simpa using hE2
        clear hDD hE2 hL wm
        dsimp only
        have x0:W0.cell? ⟨w.heap.size,0,none⟩=some (.int .u64 0):=R.out.2.cell 0
        have x1:W0.cell? ⟨w.heap.size,1,none⟩=some (.int .u64 0):=R.out.2.cell 1
        have x2:W0.cell? ⟨w.heap.size,2,none⟩=some (.slice none 0 0):=R.out.2.cell 2
        have f0:=R.out.2.frozen 0
        have f1:=R.out.2.frozen 1
        have f2:=R.out.2.frozen 2
        go_wp2
        obtain ⟨r1,r2⟩:=R.out
        have hH:=((r2.set 0 (.int .u64 0)).set 1 (.int .u64 0)).set 2 (.slice none 0 0)
        have hb:=((r1.setCell (p:=⟨w.heap.size,0,none⟩) (Nat.le_refl _) (.int .u64 0)).setCell (p:=⟨w.heap.size,1,none⟩) (Nat.le_refl _) (.int .u64 0)).setCell (p:=⟨w.heap.size,2,none⟩) (Nat.le_refl _) (.slice none 0 0)
        refine bodyPost_ret (v:=.tuple #[.agg #[.int .u64 0,.int .u64 0,.slice none 0 0],.int .i64 E2]) (z1i rfl _ _ w.heap.size 50 _ (0,0) _ rfl hH _ rfl Tryz.underlying50 (by kernel_rfl)) rfl (ERR.out E2 _ hb X.out)
    · rw [if_pos hE1] at hDD
      obtain ⟨r1,r2,E1,hL⟩:∃ r1 r2 E1,LNG (l.drop 1)=(r1,r2,E1):=⟨_,_,_,rfl⟩
      rw [hL] at hDD hE1 ⊢
      have X:Aside (D=DERR E1):=hDD.symm
      have hne:((E1:Int) != 0)=true:=by simpa using hE1
      clear hDD hE1 hL
      dsimp only
      have x0:W0.cell? ⟨w.heap.size,0,none⟩=some (.int .u64 0):=R.out.2.cell 0
      have x1:W0.cell? ⟨w.heap.size,1,none⟩=some (.int .u64 0):=R.out.2.cell 1
      have x2:W0.cell? ⟨w.heap.size,2,none⟩=some (.slice none 0 0):=R.out.2.cell 2
      have f0:=R.out.2.frozen 0
      have f1:=R.out.2.frozen 1
      have f2:=R.out.2.frozen 2
      go_wp2
      obtain ⟨r1,r2⟩:=R.out
      have hH:=((r2.set 0 (.int .u64 0)).set 1 (.int .u64 0)).set 2 (.slice none 0 0)
      have hb:=((r1.setCell (p:=⟨w.heap.size,0,none⟩) (Nat.le_refl _) (.int .u64 0)).setCell (p:=⟨w.heap.size,1,none⟩) (Nat.le_refl _) (.int .u64 0)).setCell (p:=⟨w.heap.size,2,none⟩) (Nat.le_refl _) (.slice none 0 0)
      refine bodyPost_ret (v:=.tuple #[.agg #[.int .u64 0,.int .u64 0,.slice none 0 0],.int .i64 E1]) (z1i rfl _ _ w.heap.size 50 _ (0,0) _ rfl hH _ rfl Tryz.underlying50 (by kernel_rfl)) rfl (ERR.out E1 _ hb X.out)
  · rw [if_pos hK] at hDD
    have X:Aside (D=DERR 14):=hDD.symm
    clear hB hc hn h0 hDD hln
    generalize l.getD 0 0=x at *
    go_enter Tryz.func16,Tryz.ntmps16
    go_wp2
    refine bodyPost_ret (v:=.tuple #[.agg #[.int .u64 0,.int .u64 0,.slice none 0 0],.int .i64 14]) (z1i rfl _ _ w.heap.size 50 _ (0,0) _ rfl R.out.2 _ rfl Tryz.underlying50 (by kernel_rfl)) rfl (ERR.out 14 _ R.out.1 X.out)
end Go.Proofs.YthpdlnbbbcgemaaGreatDoor
