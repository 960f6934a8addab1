/- ClashAcross: part 30. -/
import Derived.Test.YtdggkbpabjgdfaaGreatDoorClashAcrossP29
set_option maxHeartbeats 8000000
namespace Go.Proofs.YtdggkbpabjgdfaaGreatDoor
open Go.RowKit
set_option maxRecDepth 100000
theorem z1V (b off n c k:Nat) (hk:k<=n) (hc:n<=c) (w:World):(Instr.slice 25 (.slice (some ⟨b,off,none⟩) n c) (some (.int .i64 (k:Int))) none none).run Tryz.prog w=.ok (.slice (REST b off c k) (n - k) (c - k)) w:=by
 obtain ⟨i8,hi,h8⟩:=Option.map_eq_some_iff.1 z0X;have he:Tryz.prog.elem 25=5:=by kernel_rfl
 have hu:Tryz.prog.underlying 25=some (.slice (Tryz.prog.elem 25)):=by kernel_rfl
 by_cases e:c=k
 ·obtain rfl:n=c:=by omega
  subst e;simp [REST,go_sem]
 ·have e1:¬ (n:Int)<(k:Int):=by omega
  have hcell:Tryz.prog.cellsOf 5=1:=by kernel_rfl
  rw [run_slice_l (P:=Tryz.prog) w 25 (some ⟨b,off,none⟩) n c hu .i64 (k:Int) (by omega) (by omega),he]
  have h9:i8.size=1:=by
   have:(Tryz.prog.info? 5).map (·.size)=some 1:=by kernel_rfl
   rw [hi] at this;simpa using this
  simp [sizeOf,typeInfo,hi,h9,sliced,Addr.add,REST,e]
theorem Flat.off {w:World} {a:Option Addr} {n:Nat} {l:List Int} (h:Flat w a n l) {x:Addr} (hx:∀ b o,a=some ⟨b,o,none⟩->b≠x.block) (u:Value):Flat (w.setCell x u) a n l:=
 ⟨h.1,fun hn=>by
  obtain ⟨b,o,e,hl,hc⟩:=h.2.1 hn;exact ⟨b,o,e,Nat.lt_of_lt_of_le hl (KeepsWalks.setCell w x u).size,fun j hj=>(World.cell?_setCell_other w _ _ u (fun e'=>hx b o e (congrArg Addr.block e').symm)).trans (hc j hj)⟩,h.2.2⟩
theorem zaX {w:World} {B n:Nat} {a:Option Addr} {c:Nat} {xs:List Value} (h:w.ownsRow B 24 32 (.slice a n c) n xs):n<=c/\(a=none->c=0):=by
 rcases h.2 with ⟨e,h0⟩ | ⟨g,cap,cur,e,_,_,h1,_⟩
 ·cases e
  exact ⟨by omega,fun _=>rfl⟩
 ·cases e
  exact ⟨h1,fun h=>by cases h⟩
def DECF (w:World) (D:DANS) (e:Ending) (w':World):Prop:=
 ∃ a c,e=.returned (.tuple #[.agg #[.int .u64 (D.2.1:Int),.int .u64 (D.2.2.1:Int),.slice a D.2.2.2.1 c],.int .i64 D.1])/\Flat w' a D.2.2.2.1 D.2.2.2.2/\Below w.heap.size w w'/\(∀ b o,a=some ⟨b,o,none⟩->w.heap.size<=b)/\D.2.2.2.1<=c/\(a=none->c=0)
theorem z0B {fn:Func} {p q:Tmp} {ty:TypeId} (h:fn.results=#[.cell p ty,.tmp q]) (tmps:Array Value) (w:World) (g:Nat) (t:TypeId) (cs:Array Value) (fr:Nat × Nat) (fs:Array Field)
  (hp:tmps.getD p undef=.pointer (some ⟨g,0,none⟩)) (hg:w.heap[g]?=some (.cells cs t fr)) (v:Value) (hq:tmps.getD q undef=v)
  (hu:Tryz.prog.underlying ty=some (.struct fs)) (hi:(Tryz.prog.info? ty).map (·.size)=some cs.size):
  (results fn tmps).run Tryz.prog w=.ok (.tuple #[.agg cs,v]) w:=by
 have hp':tmps[p]?.getD undef=.pointer (some ⟨g,0,none⟩):=by simpa using hp
 have hq':tmps[q]?.getD undef=v:=by simpa using hq
 simp [results,h,hp',hq',asAddr,run_loadVar_row w g t ty cs fr (.struct fs) hg hu rfl hi]
theorem zaY (a:Option Addr) (n c:Nat) (hn:n<=1000000) (l:List Int) (w:World) (hB:Bytes w a n l) (hc:n<=c):Calls Tryz.prog 11 #[.slice a n c] w (DECF w (DEC l)):=by
  have hln:l.length=n:=hB.1;obtain ⟨D,hD⟩:∃ D,DEC l=D:=⟨_,rfl⟩
  rw [hD];have hDD:DC0 77 z1t (fun S I=>PLA I S) l=D:=hD;have R:Aside (Below w.heap.size w (w.alloc (.cells #[.int .u64 0,.int .u64 0,.slice none 0 0] 40))/\Has (w.alloc (.cells #[.int .u64 0,.int .u64 0,.slice none 0 0] 40)) w.heap.size #[.int .u64 0,.int .u64 0,.slice none 0 0] 40):=⟨(Below.refl _ _).alloc (Nat.le_refl _) _,Has.new _ _ _⟩
  have ERR:Aside (∀ (E:Int) (W:World),Below w.heap.size w W->D=DERR E->DECF w D (.returned (.tuple #[.agg #[.int .u64 0,.int .u64 0,.slice none 0 0],.int .i64 E])) W):=fun E W h1 h3=>by
    rw [h3];exact ⟨none,0,rfl,⟨rfl,fun h=>absurd h (by simp [DERR]),by simp [DERR]⟩,h1,(fun _ _ h=>by cases h),Nat.zero_le _,fun _=>rfl⟩
  unfold DC0 at hDD;rw [hln] at hDD;clear hD;by_cases h0:n=0
  · subst h0
    rw [if_pos rfl] at hDD;have X:Aside (D=DERR 11):=hDD.symm;clear hB hc hn hDD hln;go_enter Tryz.func11,Tryz.ntmps11;go_wp2;refine bodyPost_ret (v:=.tuple #[.agg #[.int .u64 0,.int .u64 0,.slice none 0 0],.int .i64 11]) (z0B rfl _ _ w.heap.size 40 _ (0,0) _ rfl R.out.2 _ rfl Tryz.underlying40 (by kernel_rfl)) rfl (ERR.out 11 _ R.out.1 X.out)
  rw [if_neg h0] at hDD;obtain ⟨b,o,rfl,hbl,hcs⟩:=hB.2.1 (by omega);have hz:¬ (n:Int)=0:=by omega
  have hpos:(0:Int)<(n:Int):=by omega
  have hx:(w.alloc (.cells #[.int .u64 0,.int .u64 0,.slice none 0 0] 40)).cell? ⟨b,o,none⟩=some (.int .u8 (l.getD 0 0)):=by
    have:=hcs 0 (by omega);rw [Nat.add_zero] at this;exact (R.out.1.cell (p:=⟨b,o,none⟩) hbl).trans this
  clear hbl hcs;by_cases hK:l.getD 0 0=77
  · rw [if_neg (by simpa using hK)] at hDD
    rw [hK] at hx
    have hs1:(Instr.slice 25 (.slice (some ⟨b,o,none⟩) n c) (some (.int .i64 1)) none none).run Tryz.prog (w.alloc (.cells #[.int .u64 0,.int .u64 0,.slice none 0 0] 40))=.ok (.slice (REST b o c 1) (n - 1) (c - 1)) (w.alloc (.cells #[.int .u64 0,.int .u64 0,.slice none 0 0] 40)):=by
      have:=z1V b o n c 1 (by omega) hc (w.alloc (.cells #[.int .u64 0,.int .u64 0,.slice none 0 0] 40));simpa using this
    have HA:Aside (Bytes w (some ⟨b,o,none⟩) n l/\n<=c/\n<=1000000/\1<=n/\l.length=n):=⟨hB,hc,hn,by omega,hln⟩
    clear hB hc hn h0 hK hln;go_enter Tryz.func11,Tryz.ntmps11;go_wp2_with fail
    have c1:=z3r (REST b o c 1) (n - 1) (c - 1) (l.drop 1) (w.alloc (.cells #[.int .u64 0,.int .u64 0,.slice none 0 0] 40)) ((HA.out.1.behind 1 HA.out.2.2.2.1 HA.out.2.1).below R.out.1) (by have:=HA.out;omega);have hlen1:(l.drop 1).length=n - 1:=by rw [List.length_drop,HA.out.2.2.2.2]
    rw [<-hlen1,show LG (l.drop 1) (l.drop 1).length 10 0 0=LNG (l.drop 1) from rfl,hlen1] at c1;refine c1.mono ?_;rintro e w1 ⟨rfl,rfl⟩;clear c1 hlen1 hs1 hx hz hpos;unfold DC1 at hDD;generalize (w.alloc (.cells #[.int .u64 0,.int .u64 0,.slice none 0 0] 40))=W0 at *
    by_cases hE1:(LNG (l.drop 1)).2.2=0
    · rw [if_neg (by simpa using hE1)] at hDD
      obtain ⟨Z,m,hZ,hm1,hm2,hL, -⟩:=z1P (fun x hx=>HA.out.1.2.2 x (List.mem_of_mem_drop hx)) hE1;rw [hL] at hDD ⊢;dsimp only at hDD ⊢;rw [Int.toNat_natCast,Int.toNat_natCast] at hDD;have hm3:1+m<=n:=by have h1:=HA.out.2.2.2.1;have h2:=HA.out.2.2.2.2;rw [List.length_drop,h2] at hm2;omega
      have HM:Aside (Z<2 ^ 64/\1+m<=n):=⟨hZ,hm3⟩
      clear hL hE1 hm1 hm2 hZ hm3;by_cases hbig:z1t Z=true
      · rw [if_pos hbig] at hDD
        have X:Aside (D=DERR 30):=hDD.symm;have hgt:(4611686018427387904:Int)<(Z:Int):=by unfold z1t at hbig;simp at hbig;omega
        clear hDD hbig;have x0:W0.cell? ⟨w.heap.size,0,none⟩=some (.int .u64 0):=R.out.2.cell 0;have x1:W0.cell? ⟨w.heap.size,1,none⟩=some (.int .u64 0):=R.out.2.cell 1;have x2:W0.cell? ⟨w.heap.size,2,none⟩=some (.slice none 0 0):=R.out.2.cell 2;have f0:=R.out.2.frozen 0;have f1:=R.out.2.frozen 1;have f2:=R.out.2.frozen 2;go_wp2;obtain ⟨r1,r2⟩:=R.out;have hH:=((r2.set 0 (.int .u64 0)).set 1 (.int .u64 0)).set 2 (.slice none 0 0);have hb:=((r1.setCell (p:=⟨w.heap.size,0,none⟩) (Nat.le_refl _) (.int .u64 0)).setCell (p:=⟨w.heap.size,1,none⟩) (Nat.le_refl _) (.int .u64 0)).setCell (p:=⟨w.heap.size,2,none⟩) (Nat.le_refl _) (.slice none 0 0);refine bodyPost_ret (v:=.tuple #[.agg #[.int .u64 0,.int .u64 0,.slice none 0 0],.int .i64 30]) (z0B rfl _ _ w.heap.size 40 _ (0,0) _ rfl hH _ rfl Tryz.underlying40 (by kernel_rfl)) rfl (ERR.out 30 _ hb X.out)
      rw [if_neg hbig] at hDD;have hgt:¬ (4611686018427387904:Int)<(Z:Int):=by unfold z1t at hbig;simp at hbig;omega
      clear hbig;rw [List.drop_drop] at hDD;have wm:wrap64 (1+(m:Int))=((1+m:Nat):Int):=by have:=HM.out;have:=HA.out;unfold wrap64;omega
      have hs2:(Instr.slice 25 (.slice (some ⟨b,o,none⟩) n c) (some (.int .i64 ((1+m:Nat):Int))) none none).run Tryz.prog W0=.ok (.slice (REST b o c (1+m)) (n - (1+m)) (c - (1+m))) W0:=z1V b o n c (1+m) HM.out.2 HA.out.2.1 W0;obtain ⟨m',hm'⟩:∃ m',1+m=m':=⟨_,rfl⟩
      rw [hm'] at wm hs2 hDD HM;clear hm';go_wp2_with fail
      have c2:=z3r (REST b o c m') (n - m') (c - m') (l.drop m') W0 ((HA.out.1.behind m' HM.out.2 HA.out.2.1).below R.out.1) (by have:=HA.out;omega);have hlen2:(l.drop m').length=n - m':=by rw [List.length_drop,HA.out.2.2.2.2]
      rw [<-hlen2,show LG (l.drop m') (l.drop m').length 10 0 0=LNG (l.drop m') from rfl,hlen2] at c2;refine c2.mono ?_;rintro e w1 ⟨rfl,rfl⟩;clear c2 hlen2 hs2;unfold DC2 at hDD;by_cases hE2:(LNG (l.drop m')).2.2=0
      · rw [if_neg (by simpa using hE2)] at hDD
        obtain ⟨Y,k,hY,hk1,hk2,hL, -⟩:=z1P (fun x hx=>HA.out.1.2.2 x (List.mem_of_mem_drop hx)) hE2;rw [hL] at hDD ⊢;dsimp only at hDD ⊢;rw [Int.toNat_natCast,Int.toNat_natCast,List.drop_drop] at hDD;have hk3:m'+k<=n:=by have h1:=HM.out.2;have h2:=HA.out.2.2.2.2;rw [List.length_drop,h2] at hk2;omega
        have HK:Aside (Y<2 ^ 64/\m'+k<=n):=⟨hY,hk3⟩
        clear hL hE2 hk1 hk2 hY hk3;go_wp2_with fail
        refine (zaU Z Y none 0 0 W0).mono ?_;rintro e w2 ⟨rfl,hb2⟩;unfold DC3 at hDD;have R:Aside (Below w.heap.size w w2/\Has w2 w.heap.size #[.int .u64 0,.int .u64 0,.slice none 0 0] 40):=⟨R.out.1.trans (hb2.mono R.out.1.size),R.out.2.keep hb2⟩
        clear hb2;obtain ⟨E3,hE3⟩:∃ E3,(PLA Y Z).1=E3:=⟨_,rfl⟩
        obtain ⟨N,hN⟩:∃ N,(PLA Y Z).2.length=N:=⟨_,rfl⟩
        have hfew:N<=188:=by rw [<-hN];exact z8e Y Z
        try dsimp only at hDD
        rw [hE3,hN] at hDD ⊢;clear hE3 hN;by_cases h3:E3=0
        · subst h3
          rw [if_neg (by simp)] at hDD;obtain ⟨m2,hm2⟩:∃ m2,m'+k=m2:=⟨_,rfl⟩
          have wk:wrap64 ((m':Int)+(k:Int))=(m2:Int):=by have:=HK.out;have:=HA.out;unfold wrap64;omega
          rw [hm2] at hDD HK;have hs3:(Instr.slice 25 (.slice (some ⟨b,o,none⟩) n c) (some (.int .i64 (m2:Int))) none none).run Tryz.prog w2=.ok (.slice (REST b o c m2) (n - m2) (c - m2)) w2:=z1V b o n c m2 HK.out.2 HA.out.2.1 w2;clear hm2;go_wp2_with fail
          refine (zcs (REST b o c m2) (n - m2) (c - m2) N (by have:=HA.out;omega) (by omega) (l.drop m2) w2 ((HA.out.1.behind m2 HK.out.2 HA.out.2.1).below R.out.1)).mono ?_;rintro e w3 ⟨v,rfl,hrow,hb3⟩;clear hs3
          have hTK:D=((TAKN (l.drop m2) N).1,if (TAKN (l.drop m2) N).1=0 then (Z,Y,(TAKN (l.drop m2) N).2.1,(TAKN (l.drop m2) N).2.2) else (0,0,0,[])):=by
            rw [<-hDD];unfold TAKN DERR;split
            · rfl
            · split
              · rfl
              · rfl
          have hrg:∀ x∈(TAKN (l.drop m2) N).2.2,0<=x/\x<=255:=by
            unfold TAKN;split
            · simp
            · split
              · simp
              · exact fun x hx=>HA.out.1.2.2 x (List.mem_of_mem_drop hx)
          obtain ⟨E4,hE4⟩:∃ E4,(TAKN (l.drop m2) N).1=E4:=⟨_,rfl⟩
          rw [hE4] at hTK ⊢;obtain ⟨av,cv,rfl, -, -⟩:=z2l hrow;have hlt2:=R.out.2.lt;have R:Aside (Below w.heap.size w w3/\Has w3 w.heap.size #[.int .u64 0,.int .u64 0,.slice none 0 0] 40):=⟨R.out.1.trans (hb3.mono R.out.1.size),R.out.2.keep hb3⟩
          have R3:Aside (Flat w3 av (TAKN (l.drop m2) N).2.1 (TAKN (l.drop m2) N).2.2/\(∀ b o,av=some ⟨b,o,none⟩->b≠w.heap.size/\w.heap.size<=b)/\(TAKN (l.drop m2) N).2.1<=cv/\(av=none->cv=0)):=⟨z1c hrow hrg,(fun b o e=>by subst e;have h1:=(hrow.lt b rfl).1;omega),zaX hrow⟩
          generalize (TAKN (l.drop m2) N).2.1=N4 at *
          generalize (TAKN (l.drop m2) N).2.2=t4 at *
          clear hrow hb3 hDD hE4 hrg wk wm hlt2;have x0:w3.cell? ⟨w.heap.size,0,none⟩=some (.int .u64 0):=R.out.2.cell 0;have x1:w3.cell? ⟨w.heap.size,1,none⟩=some (.int .u64 0):=R.out.2.cell 1;have x2:w3.cell? ⟨w.heap.size,2,none⟩=some (.slice none 0 0):=R.out.2.cell 2;have f0:=R.out.2.frozen 0;have f1:=R.out.2.frozen 1;have f2:=R.out.2.frozen 2;by_cases h4:E4=0
          · subst h4
            rw [if_pos rfl] at hTK;have X:Aside (D=(0,Z,Y,N4,t4)):=hTK;clear hTK;go_wp2;obtain ⟨r1,r2⟩:=R.out;have hH:=((r2.set 0 (.int .u64 (Z:Int))).set 1 (.int .u64 (Y:Int))).set 2 (.slice av N4 cv);have hb:=((r1.setCell (p:=⟨w.heap.size,0,none⟩) (Nat.le_refl _) (.int .u64 (Z:Int))).setCell (p:=⟨w.heap.size,1,none⟩) (Nat.le_refl _) (.int .u64 (Y:Int))).setCell (p:=⟨w.heap.size,2,none⟩) (Nat.le_refl _) (.slice av N4 cv);have hF:=((R3.out.1.off (x:=⟨w.heap.size,0,none⟩) (fun b o e=>(R3.out.2.1 b o e).1) (.int .u64 (Z:Int))).off (x:=⟨w.heap.size,1,none⟩) (fun b o e=>(R3.out.2.1 b o e).1) (.int .u64 (Y:Int))).off (x:=⟨w.heap.size,2,none⟩) (fun b o e=>(R3.out.2.1 b o e).1) (.slice av N4 cv);rw [X.out];refine bodyPost_ret (v:=.tuple #[.agg #[.int .u64 (Z:Int),.int .u64 (Y:Int),.slice av N4 cv],.int .i64 0]) (z0B rfl _ _ w.heap.size 40 _ (0,0) _ rfl hH _ rfl Tryz.underlying40 (by kernel_rfl)) rfl ⟨av,cv,rfl,hF,hb,(fun b o e=>(R3.out.2.1 b o e).2),R3.out.2.2⟩
          · rw [if_neg h4] at hTK
            have X:Aside (D=DERR E4):=hTK;have hne:((E4:Int) != 0)=true:=by simp [h4]
            clear hTK h4;go_wp2;obtain ⟨r1,r2⟩:=R.out;have hH:=((r2.set 0 (.int .u64 0)).set 1 (.int .u64 0)).set 2 (.slice none 0 0);have hb:=((r1.setCell (p:=⟨w.heap.size,0,none⟩) (Nat.le_refl _) (.int .u64 0)).setCell (p:=⟨w.heap.size,1,none⟩) (Nat.le_refl _) (.int .u64 0)).setCell (p:=⟨w.heap.size,2,none⟩) (Nat.le_refl _) (.slice none 0 0);refine bodyPost_ret (v:=.tuple #[.agg #[.int .u64 0,.int .u64 0,.slice none 0 0],.int .i64 E4]) (z0B rfl _ _ w.heap.size 40 _ (0,0) _ rfl hH _ rfl Tryz.underlying40 (by kernel_rfl)) rfl (ERR.out E4 _ hb X.out)
        · rw [if_pos h3] at hDD
          have X:Aside (D=DERR E3):=hDD.symm;have hne:((E3:Int) != 0)=true:=by simp [h3]
          clear hDD h3 wm;have x0:w2.cell? ⟨w.heap.size,0,none⟩=some (.int .u64 0):=R.out.2.cell 0;have x1:w2.cell? ⟨w.heap.size,1,none⟩=some (.int .u64 0):=R.out.2.cell 1;have x2:w2.cell? ⟨w.heap.size,2,none⟩=some (.slice none 0 0):=R.out.2.cell 2;have f0:=R.out.2.frozen 0;have f1:=R.out.2.frozen 1;have f2:=R.out.2.frozen 2;go_wp2;obtain ⟨r1,r2⟩:=R.out;have hH:=((r2.set 0 (.int .u64 0)).set 1 (.int .u64 0)).set 2 (.slice none 0 0);have hb:=((r1.setCell (p:=⟨w.heap.size,0,none⟩) (Nat.le_refl _) (.int .u64 0)).setCell (p:=⟨w.heap.size,1,none⟩) (Nat.le_refl _) (.int .u64 0)).setCell (p:=⟨w.heap.size,2,none⟩) (Nat.le_refl _) (.slice none 0 0);refine bodyPost_ret (v:=.tuple #[.agg #[.int .u64 0,.int .u64 0,.slice none 0 0],.int .i64 E3]) (z0B rfl _ _ w.heap.size 40 _ (0,0) _ rfl hH _ rfl Tryz.underlying40 (by kernel_rfl)) rfl (ERR.out E3 _ hb X.out)
      · rw [if_pos hE2] at hDD
        obtain ⟨r1,r2,E2,hL⟩:∃ r1 r2 E2,LNG (l.drop m')=(r1,r2,E2):=⟨_,_,_,rfl⟩
        rw [hL] at hDD hE2 ⊢;have X:Aside (D=DERR E2):=hDD.symm;have hne:((E2:Int) != 0)=true:=by simpa using hE2
        clear hDD hE2 hL wm;dsimp only;have x0:W0.cell? ⟨w.heap.size,0,none⟩=some (.int .u64 0):=R.out.2.cell 0;have x1:W0.cell? ⟨w.heap.size,1,none⟩=some (.int .u64 0):=R.out.2.cell 1;have x2:W0.cell? ⟨w.heap.size,2,none⟩=some (.slice none 0 0):=R.out.2.cell 2;have f0:=R.out.2.frozen 0;have f1:=R.out.2.frozen 1;have f2:=R.out.2.frozen 2;go_wp2;obtain ⟨r1,r2⟩:=R.out;have hH:=((r2.set 0 (.int .u64 0)).set 1 (.int .u64 0)).set 2 (.slice none 0 0);have hb:=((r1.setCell (p:=⟨w.heap.size,0,none⟩) (Nat.le_refl _) (.int .u64 0)).setCell (p:=⟨w.heap.size,1,none⟩) (Nat.le_refl _) (.int .u64 0)).setCell (p:=⟨w.heap.size,2,none⟩) (Nat.le_refl _) (.slice none 0 0);refine bodyPost_ret (v:=.tuple #[.agg #[.int .u64 0,.int .u64 0,.slice none 0 0],.int .i64 E2]) (z0B rfl _ _ w.heap.size 40 _ (0,0) _ rfl hH _ rfl Tryz.underlying40 (by kernel_rfl)) rfl (ERR.out E2 _ hb X.out)
    · rw [if_pos hE1] at hDD
      obtain ⟨r1,r2,E1,hL⟩:∃ r1 r2 E1,LNG (l.drop 1)=(r1,r2,E1):=⟨_,_,_,rfl⟩
      rw [hL] at hDD hE1 ⊢;have X:Aside (D=DERR E1):=hDD.symm;have hne:((E1:Int) != 0)=true:=by simpa using hE1
      clear hDD hE1 hL;dsimp only;have x0:W0.cell? ⟨w.heap.size,0,none⟩=some (.int .u64 0):=R.out.2.cell 0;have x1:W0.cell? ⟨w.heap.size,1,none⟩=some (.int .u64 0):=R.out.2.cell 1;have x2:W0.cell? ⟨w.heap.size,2,none⟩=some (.slice none 0 0):=R.out.2.cell 2;have f0:=R.out.2.frozen 0;have f1:=R.out.2.frozen 1;have f2:=R.out.2.frozen 2;go_wp2;obtain ⟨r1,r2⟩:=R.out;have hH:=((r2.set 0 (.int .u64 0)).set 1 (.int .u64 0)).set 2 (.slice none 0 0);have hb:=((r1.setCell (p:=⟨w.heap.size,0,none⟩) (Nat.le_refl _) (.int .u64 0)).setCell (p:=⟨w.heap.size,1,none⟩) (Nat.le_refl _) (.int .u64 0)).setCell (p:=⟨w.heap.size,2,none⟩) (Nat.le_refl _) (.slice none 0 0);refine bodyPost_ret (v:=.tuple #[.agg #[.int .u64 0,.int .u64 0,.slice none 0 0],.int .i64 E1]) (z0B rfl _ _ w.heap.size 40 _ (0,0) _ rfl hH _ rfl Tryz.underlying40 (by kernel_rfl)) rfl (ERR.out E1 _ hb X.out)
  · rw [if_pos hK] at hDD
    have X:Aside (D=DERR 14):=hDD.symm;clear hB hc hn h0 hDD hln;generalize l.getD 0 0=x at *
    go_enter Tryz.func11,Tryz.ntmps11;go_wp2;refine bodyPost_ret (v:=.tuple #[.agg #[.int .u64 0,.int .u64 0,.slice none 0 0],.int .i64 14]) (z0B rfl _ _ w.heap.size 40 _ (0,0) _ rfl R.out.2 _ rfl Tryz.underlying40 (by kernel_rfl)) rfl (ERR.out 14 _ R.out.1 X.out)
theorem z5P (a:Option Addr) (n c:Nat) (hn:n<=1000000) (l:List Int) (w:World) (hB:Bytes w a n l) (hc:n<=c):Calls Tryz.prog 14 #[.slice a n c] w (DECF w (DEX l)):=by
  have hln:l.length=n:=hB.1;obtain ⟨D,hD⟩:∃ D,DEX l=D:=⟨_,rfl⟩
  rw [hD];have hDD:DC0 80 (fun _=>false) PPA l=D:=hD;have R:Aside (Below w.heap.size w (w.alloc (.cells #[.int .u64 0,.int .u64 0,.slice none 0 0] 48))/\Has (w.alloc (.cells #[.int .u64 0,.int .u64 0,.slice none 0 0] 48)) w.heap.size #[.int .u64 0,.int .u64 0,.slice none 0 0] 48):=⟨(Below.refl _ _).alloc (Nat.le_refl _) _,Has.new _ _ _⟩
  have ERR:Aside (∀ (E:Int) (W:World),Below w.heap.size w W->D=DERR E->DECF w D (.returned (.tuple #[.agg #[.int .u64 0,.int .u64 0,.slice none 0 0],.int .i64 E])) W):=fun E W h1 h3=>by
    rw [h3];exact ⟨none,0,rfl,⟨rfl,fun h=>absurd h (by simp [DERR]),by simp [DERR]⟩,h1,(fun _ _ h=>by cases h),Nat.zero_le _,fun _=>rfl⟩
  unfold DC0 at hDD;rw [hln] at hDD;clear hD;by_cases h0:n=0
  · subst h0
    rw [if_pos rfl] at hDD;have X:Aside (D=DERR 11):=hDD.symm;clear hB hc hn hDD hln;go_enter Tryz.func14,Tryz.ntmps14;go_wp2;refine bodyPost_ret (v:=.tuple #[.agg #[.int .u64 0,.int .u64 0,.slice none 0 0],.int .i64 11]) (z0B rfl _ _ w.heap.size 48 _ (0,0) _ rfl R.out.2 _ rfl Tryz.underlying48 (by kernel_rfl)) rfl (ERR.out 11 _ R.out.1 X.out)
  rw [if_neg h0] at hDD;obtain ⟨b,o,rfl,hbl,hcs⟩:=hB.2.1 (by omega);have hz:¬ (n:Int)=0:=by omega
  have hpos:(0:Int)<(n:Int):=by omega
  have hx:(w.alloc (.cells #[.int .u64 0,.int .u64 0,.slice none 0 0] 48)).cell? ⟨b,o,none⟩=some (.int .u8 (l.getD 0 0)):=by
    have:=hcs 0 (by omega);rw [Nat.add_zero] at this;exact (R.out.1.cell (p:=⟨b,o,none⟩) hbl).trans this
  clear hbl hcs;by_cases hK:l.getD 0 0=80
  · rw [if_neg (by simpa using hK)] at hDD
    rw [hK] at hx
    have hs1:(Instr.slice 25 (.slice (some ⟨b,o,none⟩) n c) (some (.int .i64 1)) none none).run Tryz.prog (w.alloc (.cells #[.int .u64 0,.int .u64 0,.slice none 0 0] 48))=.ok (.slice (REST b o c 1) (n - 1) (c - 1)) (w.alloc (.cells #[.int .u64 0,.int .u64 0,.slice none 0 0] 48)):=by
      have:=z1V b o n c 1 (by omega) hc (w.alloc (.cells #[.int .u64 0,.int .u64 0,.slice none 0 0] 48));simpa using this
    have HA:Aside (Bytes w (some ⟨b,o,none⟩) n l/\n<=c/\n<=1000000/\1<=n/\l.length=n):=⟨hB,hc,hn,by omega,hln⟩
    clear hB hc hn h0 hK hln;go_enter Tryz.func14,Tryz.ntmps14;go_wp2_with fail
    have c1:=z3r (REST b o c 1) (n - 1) (c - 1) (l.drop 1) (w.alloc (.cells #[.int .u64 0,.int .u64 0,.slice none 0 0] 48)) ((HA.out.1.behind 1 HA.out.2.2.2.1 HA.out.2.1).below R.out.1) (by have:=HA.out;omega);have hlen1:(l.drop 1).length=n - 1:=by rw [List.length_drop,HA.out.2.2.2.2]
    rw [<-hlen1,show LG (l.drop 1) (l.drop 1).length 10 0 0=LNG (l.drop 1) from rfl,hlen1] at c1;refine c1.mono ?_;rintro e w1 ⟨rfl,rfl⟩;clear c1 hlen1 hs1 hx hz hpos;unfold DC1 at hDD;generalize (w.alloc (.cells #[.int .u64 0,.int .u64 0,.slice none 0 0] 48))=W0 at *
    by_cases hE1:(LNG (l.drop 1)).2.2=0
    · rw [if_neg (by simpa using hE1)] at hDD
      obtain ⟨Z,m,hZ,hm1,hm2,hL, -⟩:=z1P (fun x hx=>HA.out.1.2.2 x (List.mem_of_mem_drop hx)) hE1;rw [hL] at hDD ⊢;dsimp only at hDD ⊢;rw [Int.toNat_natCast,Int.toNat_natCast] at hDD;have hm3:1+m<=n:=by have h1:=HA.out.2.2.2.1;have h2:=HA.out.2.2.2.2;rw [List.length_drop,h2] at hm2;omega
      have HM:Aside (Z<2 ^ 64/\1+m<=n):=⟨hZ,hm3⟩
      clear hL hE1 hm1 hm2 hZ hm3;rw [if_neg (by simp)] at hDD;rw [List.drop_drop] at hDD;have wm:wrap64 (1+(m:Int))=((1+m:Nat):Int):=by have:=HM.out;have:=HA.out;unfold wrap64;omega
      have hs2:(Instr.slice 25 (.slice (some ⟨b,o,none⟩) n c) (some (.int .i64 ((1+m:Nat):Int))) none none).run Tryz.prog W0=.ok (.slice (REST b o c (1+m)) (n - (1+m)) (c - (1+m))) W0:=z1V b o n c (1+m) HM.out.2 HA.out.2.1 W0;obtain ⟨m',hm'⟩:∃ m',1+m=m':=⟨_,rfl⟩
      rw [hm'] at wm hs2 hDD HM;clear hm';go_wp2_with fail
      have c2:=z3r (REST b o c m') (n - m') (c - m') (l.drop m') W0 ((HA.out.1.behind m' HM.out.2 HA.out.2.1).below R.out.1) (by have:=HA.out;omega);have hlen2:(l.drop m').length=n - m':=by rw [List.length_drop,HA.out.2.2.2.2]
      rw [<-hlen2,show LG (l.drop m') (l.drop m').length 10 0 0=LNG (l.drop m') from rfl,hlen2] at c2;refine c2.mono ?_;rintro e w1 ⟨rfl,rfl⟩;clear c2 hlen2 hs2;unfold DC2 at hDD;by_cases hE2:(LNG (l.drop m')).2.2=0
      · rw [if_neg (by simpa using hE2)] at hDD
        obtain ⟨Y,k,hY,hk1,hk2,hL, -⟩:=z1P (fun x hx=>HA.out.1.2.2 x (List.mem_of_mem_drop hx)) hE2;rw [hL] at hDD ⊢;dsimp only at hDD ⊢;rw [Int.toNat_natCast,Int.toNat_natCast,List.drop_drop] at hDD;have hk3:m'+k<=n:=by have h1:=HM.out.2;have h2:=HA.out.2.2.2.2;rw [List.length_drop,h2] at hk2;omega
        have HK:Aside (Y<2 ^ 64/\m'+k<=n):=⟨hY,hk3⟩
        clear hL hE2 hk1 hk2 hY hk3;go_wp2_with fail
        refine (z4s Z Y none 0 0 W0).mono ?_;rintro e w2 ⟨rfl,hb2⟩;unfold DC3 at hDD;have R:Aside (Below w.heap.size w w2/\Has w2 w.heap.size #[.int .u64 0,.int .u64 0,.slice none 0 0] 48):=⟨R.out.1.trans (hb2.mono R.out.1.size),R.out.2.keep hb2⟩
        clear hb2;obtain ⟨E3,hE3⟩:∃ E3,(PPA Z Y).1=E3:=⟨_,rfl⟩
        obtain ⟨N,hN⟩:∃ N,(PPA Z Y).2.length=N:=⟨_,rfl⟩
        have hfew:N<=188:=by rw [<-hN];exact z8f Z Y
        try dsimp only at hDD
        rw [hE3,hN] at hDD ⊢;clear hE3 hN;by_cases h3:E3=0
        · subst h3
          rw [if_neg (by simp)] at hDD;obtain ⟨m2,hm2⟩:∃ m2,m'+k=m2:=⟨_,rfl⟩
          have wk:wrap64 ((m':Int)+(k:Int))=(m2:Int):=by have:=HK.out;have:=HA.out;unfold wrap64;omega
          rw [hm2] at hDD HK;have hs3:(Instr.slice 25 (.slice (some ⟨b,o,none⟩) n c) (some (.int .i64 (m2:Int))) none none).run Tryz.prog w2=.ok (.slice (REST b o c m2) (n - m2) (c - m2)) w2:=z1V b o n c m2 HK.out.2 HA.out.2.1 w2;clear hm2;go_wp2_with fail
          refine (zcs (REST b o c m2) (n - m2) (c - m2) N (by have:=HA.out;omega) (by omega) (l.drop m2) w2 ((HA.out.1.behind m2 HK.out.2 HA.out.2.1).below R.out.1)).mono ?_;rintro e w3 ⟨v,rfl,hrow,hb3⟩;clear hs3
          have hTK:D=((TAKN (l.drop m2) N).1,if (TAKN (l.drop m2) N).1=0 then (Z,Y,(TAKN (l.drop m2) N).2.1,(TAKN (l.drop m2) N).2.2) else (0,0,0,[])):=by
            rw [<-hDD];unfold TAKN DERR;split
            · rfl
            · split
              · rfl
              · rfl
          have hrg:∀ x∈(TAKN (l.drop m2) N).2.2,0<=x/\x<=255:=by
            unfold TAKN;split
            · simp
            · split
              · simp
              · exact fun x hx=>HA.out.1.2.2 x (List.mem_of_mem_drop hx)
          obtain ⟨E4,hE4⟩:∃ E4,(TAKN (l.drop m2) N).1=E4:=⟨_,rfl⟩
          rw [hE4] at hTK ⊢;obtain ⟨av,cv,rfl, -, -⟩:=z2l hrow;have hlt2:=R.out.2.lt;have R:Aside (Below w.heap.size w w3/\Has w3 w.heap.size #[.int .u64 0,.int .u64 0,.slice none 0 0] 48):=⟨R.out.1.trans (hb3.mono R.out.1.size),R.out.2.keep hb3⟩
          have R3:Aside (Flat w3 av (TAKN (l.drop m2) N).2.1 (TAKN (l.drop m2) N).2.2/\(∀ b o,av=some ⟨b,o,none⟩->b≠w.heap.size/\w.heap.size<=b)/\(TAKN (l.drop m2) N).2.1<=cv/\(av=none->cv=0)):=⟨z1c hrow hrg,(fun b o e=>by subst e;have h1:=(hrow.lt b rfl).1;omega),zaX hrow⟩
          generalize (TAKN (l.drop m2) N).2.1=N4 at *
          generalize (TAKN (l.drop m2) N).2.2=t4 at *
          clear hrow hb3 hDD hE4 hrg wk wm hlt2;have x0:w3.cell? ⟨w.heap.size,0,none⟩=some (.int .u64 0):=R.out.2.cell 0;have x1:w3.cell? ⟨w.heap.size,1,none⟩=some (.int .u64 0):=R.out.2.cell 1;have x2:w3.cell? ⟨w.heap.size,2,none⟩=some (.slice none 0 0):=R.out.2.cell 2;have f0:=R.out.2.frozen 0;have f1:=R.out.2.frozen 1;have f2:=R.out.2.frozen 2;by_cases h4:E4=0
          · subst h4
            rw [if_pos rfl] at hTK;have X:Aside (D=(0,Z,Y,N4,t4)):=hTK;clear hTK;go_wp2;obtain ⟨r1,r2⟩:=R.out;have hH:=((r2.set 0 (.int .u64 (Z:Int))).set 1 (.int .u64 (Y:Int))).set 2 (.slice av N4 cv);have hb:=((r1.setCell (p:=⟨w.heap.size,0,none⟩) (Nat.le_refl _) (.int .u64 (Z:Int))).setCell (p:=⟨w.heap.size,1,none⟩) (Nat.le_refl _) (.int .u64 (Y:Int))).setCell (p:=⟨w.heap.size,2,none⟩) (Nat.le_refl _) (.slice av N4 cv);have hF:=((R3.out.1.off (x:=⟨w.heap.size,0,none⟩) (fun b o e=>(R3.out.2.1 b o e).1) (.int .u64 (Z:Int))).off (x:=⟨w.heap.size,1,none⟩) (fun b o e=>(R3.out.2.1 b o e).1) (.int .u64 (Y:Int))).off (x:=⟨w.heap.size,2,none⟩) (fun b o e=>(R3.out.2.1 b o e).1) (.slice av N4 cv);rw [X.out];refine bodyPost_ret (v:=.tuple #[.agg #[.int .u64 (Z:Int),.int .u64 (Y:Int),.slice av N4 cv],.int .i64 0]) (z0B rfl _ _ w.heap.size 48 _ (0,0) _ rfl hH _ rfl Tryz.underlying48 (by kernel_rfl)) rfl ⟨av,cv,rfl,hF,hb,(fun b o e=>(R3.out.2.1 b o e).2),R3.out.2.2⟩
          · rw [if_neg h4] at hTK
            have X:Aside (D=DERR E4):=hTK;have hne:((E4:Int) != 0)=true:=by simp [h4]
            clear hTK h4;go_wp2;obtain ⟨r1,r2⟩:=R.out;have hH:=((r2.set 0 (.int .u64 0)).set 1 (.int .u64 0)).set 2 (.slice none 0 0);have hb:=((r1.setCell (p:=⟨w.heap.size,0,none⟩) (Nat.le_refl _) (.int .u64 0)).setCell (p:=⟨w.heap.size,1,none⟩) (Nat.le_refl _) (.int .u64 0)).setCell (p:=⟨w.heap.size,2,none⟩) (Nat.le_refl _) (.slice none 0 0);refine bodyPost_ret (v:=.tuple #[.agg #[.int .u64 0,.int .u64 0,.slice none 0 0],.int .i64 E4]) (z0B rfl _ _ w.heap.size 48 _ (0,0) _ rfl hH _ rfl Tryz.underlying48 (by kernel_rfl)) rfl (ERR.out E4 _ hb X.out)
        · rw [if_pos h3] at hDD
          have X:Aside (D=DERR E3):=hDD.symm;have hne:((E3:Int) != 0)=true:=by simp [h3]
          clear hDD h3 wm;have x0:w2.cell? ⟨w.heap.size,0,none⟩=some (.int .u64 0):=R.out.2.cell 0;have x1:w2.cell? ⟨w.heap.size,1,none⟩=some (.int .u64 0):=R.out.2.cell 1;have x2:w2.cell? ⟨w.heap.size,2,none⟩=some (.slice none 0 0):=R.out.2.cell 2;have f0:=R.out.2.frozen 0;have f1:=R.out.2.frozen 1;have f2:=R.out.2.frozen 2;go_wp2;obtain ⟨r1,r2⟩:=R.out;have hH:=((r2.set 0 (.int .u64 0)).set 1 (.int .u64 0)).set 2 (.slice none 0 0);have hb:=((r1.setCell (p:=⟨w.heap.size,0,none⟩) (Nat.le_refl _) (.int .u64 0)).setCell (p:=⟨w.heap.size,1,none⟩) (Nat.le_refl _) (.int .u64 0)).setCell (p:=⟨w.heap.size,2,none⟩) (Nat.le_refl _) (.slice none 0 0);refine bodyPost_ret (v:=.tuple #[.agg #[.int .u64 0,.int .u64 0,.slice none 0 0],.int .i64 E3]) (z0B rfl _ _ w.heap.size 48 _ (0,0) _ rfl hH _ rfl Tryz.underlying48 (by kernel_rfl)) rfl (ERR.out E3 _ hb X.out)
      · rw [if_pos hE2] at hDD
        obtain ⟨r1,r2,E2,hL⟩:∃ r1 r2 E2,LNG (l.drop m')=(r1,r2,E2):=⟨_,_,_,rfl⟩
        rw [hL] at hDD hE2 ⊢;have X:Aside (D=DERR E2):=hDD.symm;have hne:((E2:Int) != 0)=true:=by simpa using hE2
        clear hDD hE2 hL wm;dsimp only;have x0:W0.cell? ⟨w.heap.size,0,none⟩=some (.int .u64 0):=R.out.2.cell 0;have x1:W0.cell? ⟨w.heap.size,1,none⟩=some (.int .u64 0):=R.out.2.cell 1;have x2:W0.cell? ⟨w.heap.size,2,none⟩=some (.slice none 0 0):=R.out.2.cell 2;have f0:=R.out.2.frozen 0;have f1:=R.out.2.frozen 1;have f2:=R.out.2.frozen 2;go_wp2;obtain ⟨r1,r2⟩:=R.out;have hH:=((r2.set 0 (.int .u64 0)).set 1 (.int .u64 0)).set 2 (.slice none 0 0);have hb:=((r1.setCell (p:=⟨w.heap.size,0,none⟩) (Nat.le_refl _) (.int .u64 0)).setCell (p:=⟨w.heap.size,1,none⟩) (Nat.le_refl _) (.int .u64 0)).setCell (p:=⟨w.heap.size,2,none⟩) (Nat.le_refl _) (.slice none 0 0);refine bodyPost_ret (v:=.tuple #[.agg #[.int .u64 0,.int .u64 0,.slice none 0 0],.int .i64 E2]) (z0B rfl _ _ w.heap.size 48 _ (0,0) _ rfl hH _ rfl Tryz.underlying48 (by kernel_rfl)) rfl (ERR.out E2 _ hb X.out)
    · rw [if_pos hE1] at hDD
      obtain ⟨r1,r2,E1,hL⟩:∃ r1 r2 E1,LNG (l.drop 1)=(r1,r2,E1):=⟨_,_,_,rfl⟩
      rw [hL] at hDD hE1 ⊢;have X:Aside (D=DERR E1):=hDD.symm;have hne:((E1:Int) != 0)=true:=by simpa using hE1
      clear hDD hE1 hL;dsimp only;have x0:W0.cell? ⟨w.heap.size,0,none⟩=some (.int .u64 0):=R.out.2.cell 0;have x1:W0.cell? ⟨w.heap.size,1,none⟩=some (.int .u64 0):=R.out.2.cell 1;have x2:W0.cell? ⟨w.heap.size,2,none⟩=some (.slice none 0 0):=R.out.2.cell 2;have f0:=R.out.2.frozen 0;have f1:=R.out.2.frozen 1;have f2:=R.out.2.frozen 2;go_wp2;obtain ⟨r1,r2⟩:=R.out;have hH:=((r2.set 0 (.int .u64 0)).set 1 (.int .u64 0)).set 2 (.slice none 0 0);have hb:=((r1.setCell (p:=⟨w.heap.size,0,none⟩) (Nat.le_refl _) (.int .u64 0)).setCell (p:=⟨w.heap.size,1,none⟩) (Nat.le_refl _) (.int .u64 0)).setCell (p:=⟨w.heap.size,2,none⟩) (Nat.le_refl _) (.slice none 0 0);refine bodyPost_ret (v:=.tuple #[.agg #[.int .u64 0,.int .u64 0,.slice none 0 0],.int .i64 E1]) (z0B rfl _ _ w.heap.size 48 _ (0,0) _ rfl hH _ rfl Tryz.underlying48 (by kernel_rfl)) rfl (ERR.out E1 _ hb X.out)
  · rw [if_pos hK] at hDD
    have X:Aside (D=DERR 14):=hDD.symm;clear hB hc hn h0 hDD hln;generalize l.getD 0 0=x at *
    go_enter Tryz.func14,Tryz.ntmps14;go_wp2;refine bodyPost_ret (v:=.tuple #[.agg #[.int .u64 0,.int .u64 0,.slice none 0 0],.int .i64 14]) (z0B rfl _ _ w.heap.size 48 _ (0,0) _ rfl R.out.2 _ rfl Tryz.underlying48 (by kernel_rfl)) rfl (ERR.out 14 _ R.out.1 X.out)
theorem zaZ (d:Int) (a:Option Addr) (c:Nat) (w:World):
  Calls Tryz.prog 13 #[.int .i64 d,.int .u64 ((0:Nat):Int),.slice a 0 c] w fun e w'=>e=.returned (.tuple #[.agg (z01 (z0z d 0 ZND)).toArray,.int .i64 0])/\Below w.heap.size w w':=by
 obtain ⟨w0,hw0⟩:∃ w0,w.alloc (.cells ZARR 24)=w0:=⟨_,rfl⟩
 have hb0:Below w.heap.size w w0:=by rw [<-hw0];exact (Below.refl _ _).alloc (Nat.le_refl _) _
 have h40:Has w0 w.heap.size (z01 ZND).toArray 24:=by rw [<-hw0,<-z28];exact Has.new w _ _
 have co:=z6Y 0 (by omega) w0;rw [show PC 0=0 from rfl] at co;have CR:Aside (∀ W,Calls Tryz.prog 32 #[.int .i64 d,.int .u64 0,.agg (z01 ZND).toArray] W fun e w'=>e=.returned (.agg (z01 (z0z d 0 ZND)).toArray)/\Below W.heap.size W w'):=fun W=>z6u d 0 (by omega) ZND z4n W;have hYH:IsH (z0z d 0 ZND):=z2x _ _ _;generalize z0z d 0 ZND=Y at *
 have y32:=hYH.1;have R0:Aside (Below w.heap.size w w0/\Has w0 w.heap.size (z01 ZND).toArray 24):=⟨hb0,h40⟩
 clear hb0 h40 hYH;go_enter Tryz.func13,Tryz.ntmps13;go_upto_region 1 with fail
 go_wp2_with fail
 refine co.mono ?_;rintro e w1 ⟨a1,c1,rfl,_,hb1⟩;have R1:Aside (Below w.heap.size w w1/\Has w1 w.heap.size (z01 ZND).toArray 24):=⟨R0.out.1.trans (hb1.mono R0.out.1.size),R0.out.2.keep hb1⟩
 clear co hb1 R0 hw0;have cr:=CR.out w1;go_wp2_with fail
 refine cr.mono ?_;rintro e w2 ⟨rfl,hb2⟩;have h42:=R1.out.2.keep hb2;have hb3:Below w.heap.size w w2:=R1.out.1.trans (hb2.mono R1.out.1.size);clear hb2 R1 cr CR;go_wp2_with (refine wpList_store_row rfl 24 (.tmp 6) (.tmp 25) rfl _ _ rfl rfl 24 _ h42 (z02 y32) (by simp [z01,y32];rfl) (z0k Y) ?_)
 refine bodyPost_ret (v:=.tuple #[.agg (z01 Y).toArray,.int .i64 0]) (z1O rfl _ _ w.heap.size 24 _ (0,0) _ _ _ rfl rfl (Has.row h42 _) Tryz.underlying24 (z02 y32)) rfl ⟨rfl,z0e hb3 (Nat.le_refl _) _⟩
theorem z6v (d:Int) (n:Nat) (hn:n<=4611686018427387904) (a:Option Addr) (k c:Nat) (hk:k=PC n) (l:List Int) (w:World) (hF:Flat w a k l):
  Calls Tryz.prog 13 #[.int .i64 d,.int .u64 (n:Int),.slice a k c] w fun e w'=>e=.returned (.tuple #[.agg (z01 (z0z d n (FLD d l k))).toArray,.int .i64 0])/\Below w.heap.size w w':=by
 by_cases h0:k=0
 ·have hn0:n=0:=z1Z (by omega)
  subst h0 hn0;have e:FLD d l 0=ZND:=by unfold FLD;rw [if_pos rfl]
  rw [e];exact zaZ d a c w
 ·exact z7R d n hn a k c hk h0 l w hF
theorem z9h {b t:List Int} (hr:∀ x∈b,0<=x/\x<=255) {F S N:Nat} (hF:F<2 ^ 64) (hS:S<2 ^ 64) (h:DEX b=(0,F,S,N,t)):F<=S/\S<=4611686018427387904/\N=(PXS F S).length:=by
 obtain ⟨_,h3,h4,_⟩:=zfr hF hS (z66 hr h)
 have hb:F<=S/\S<=4611686018427387904:=by
  unfold PPA at h3;split at h3
  ·simp at h3
  ·omega
 have hPL:PPA F S=(0,PLCS (PXS F S)):=by
  unfold PPA;rw [if_neg (by omega)]
 refine ⟨hb.1,hb.2,?_⟩;rw [h4,hPL];exact z0u _
theorem z9C (d:Int) (m:Nat) (r1:List Int) (hr1:IsH r1) (n:Nat) (r2:List Int) (hr2:IsH r2) (ba:Option Addr) (bn bc:Nat) (hbn:bn<=1000000) (hbc:bn<=bc) (bl:List Int) (t:Nat) (hLW:LOWS (DEX bl).2.1 t) (w:World) (hB:Bytes w ba bn bl) (hF:(DEX bl).2.1<2 ^ 64) (hS:(DEX bl).2.2.1<2 ^ 64):
  Calls Tryz.prog 6 #[.int .i64 d,.int .u64 (m:Int),.agg (z01 r1).toArray,.int .u64 (n:Int),.agg (z01 r2).toArray,.slice ba bn bc] w fun e w'=>e=.returned (.int .i64 (PFXA d (JSX (DEX bl).2.1 (DEX bl).2.2.1 t) m r1 n r2 bl))/\Below w.heap.size w w':=by
 have l1:=hr1.1;have l2:=hr2.1;obtain ⟨W0,hW0⟩:∃ W0,(w.alloc (.cells (z01 r1).toArray 24)).alloc (.cells (z01 r2).toArray 24)=W0:=⟨_,rfl⟩
 obtain ⟨b8,hb8⟩:∃ b,w.heap.size=b:=⟨_,rfl⟩
 obtain ⟨b10,hb10⟩:∃ b,b8+1=b:=⟨_,rfl⟩
 have R0:Aside (Below w.heap.size w W0/\Has W0 b8 (z01 r1).toArray 24/\Has W0 b10 (z01 r2).toArray 24):=by
  rw [<-hW0,<-hb10,<-hb8];exact ⟨((Below.refl _ _).alloc (Nat.le_refl _) _).alloc (by simp) _,(Has.new _ _ _).alloc _,Has.at _ _ _ (by simp)⟩
 have cd:=z5P ba bn bc hbn bl W0 (hB.below R0.out.1) hbc;have hth:(DEX bl).1=0->(DEX bl).2.1<=(DEX bl).2.2.1/\(DEX bl).2.2.1<=4611686018427387904/\(DEX bl).2.2.2.1=(PXS (DEX bl).2.1 (DEX bl).2.2.1).length:=fun h=>z9h hB.2.2 hF hS (t:=(DEX bl).2.2.2.2) (by rw [<-h]);unfold PFXA;unfold DECF at cd;generalize DEX bl=D at *
 obtain ⟨E,F,S,N,L⟩:=D;dsimp only at *
 have HA:Aside (IsH r1/\IsH r2/\(E=0->F<=S/\S<=4611686018427387904/\N=(PXS F S).length)/\LOWS F t/\F<2 ^ 64/\S<2 ^ 64):=⟨hr1,hr2,hth,hLW,hF,hS⟩
 clear hr1 hr2 hbn hbc hB hth hF hS hLW;obtain ⟨V,hV⟩:∃ V,(if E≠0 then E else if F≠m then 30 else if S≠n then 30 else if UNDA d m (RCA d (JSX F S t) F S N L).2.1.1 (RCA d (JSX F S t) F S N L).2.1.2 r1≠0 then UNDA d m (RCA d (JSX F S t) F S N L).2.1.1 (RCA d (JSX F S t) F S N L).2.1.2 r1 else UNDA d n (RCA d (JSX F S t) F S N L).2.2.1 (RCA d (JSX F S t) F S N L).2.2.2 r2)=V:=⟨_,rfl⟩
 rw [hV]
 have HV:Aside ((¬ E=0->V=E)/\(E=0->¬ F=m->V=30)/\(E=0->F=m->¬ S=n->V=30)/\(E=0->F=m->S=n->V=if UNDA d m (RCA d (JSX F S t) F S N L).2.1.1 (RCA d (JSX F S t) F S N L).2.1.2 r1≠0 then UNDA d m (RCA d (JSX F S t) F S N L).2.1.1 (RCA d (JSX F S t) F S N L).2.1.2 r1 else UNDA d n (RCA d (JSX F S t) F S N L).2.2.1 (RCA d (JSX F S t) F S N L).2.2.2 r2)):=by
  rw [<-hV];exact ⟨fun h=>if_pos h,fun h h2=>by rw [if_neg (by simpa using h),if_pos h2],fun h h2 h3=>by rw [if_neg (by simpa using h),if_neg (by simpa using h2),if_pos h3],fun h h2 h3=>by rw [if_neg (by simpa using h),if_neg (by simpa using h2),if_neg (by simpa using h3)]⟩
 clear hV;go_enter Tryz.func6,Tryz.ntmps6;go_upto_region 1 with fail
 clear hW0;go_wp2_with fail
 refine cd.mono ?_;rintro e w1 ⟨a1,c1,rfl,f1,hb1,_,k1,k2⟩;have R1:Aside (Below w.heap.size w w1/\Has w1 b8 (z01 r1).toArray 24/\Has w1 b10 (z01 r2).toArray 24/\Flat w1 a1 N L/\N<=c1/\(a1=none->c1=0)):=⟨R0.out.1.trans (hb1.mono R0.out.1.size),R0.out.2.1.keep hb1,R0.out.2.2.keep hb1,f1,k1,k2⟩
 clear cd R0 hb1 f1 hb8 hb10 k1 k2;go_upto_region 2 with fail
 obtain ⟨w2,e2⟩:∃ w2,w1.alloc (.cells #[.int .u64 (F:Int),.int .u64 (S:Int),.slice a1 N c1] 48)=w2:=⟨_,rfl⟩
 obtain ⟨b13,hb13⟩:∃ b13,w1.heap.size=b13:=⟨_,rfl⟩
 rw [e2,hb13];have hb2:Below w1.heap.size w1 w2:=by rw [<-e2];exact (Below.refl _ _).alloc (Nat.le_refl _) _
 have R2:Aside (Below w.heap.size w w2/\Has w2 b8 (z01 r1).toArray 24/\Has w2 b10 (z01 r2).toArray 24/\Flat w2 a1 N L/\Has w2 b13 #[.int .u64 (F:Int),.int .u64 (S:Int),.slice a1 N c1] 48/\N<=c1/\(a1=none->c1=0)):=⟨R1.out.1.trans (hb2.mono R1.out.1.size),R1.out.2.1.keep hb2,R1.out.2.2.1.keep hb2,R1.out.2.2.2.1.below hb2,by rw [<-e2,<-hb13];exact Has.new _ _ _,R1.out.2.2.2.2⟩
 clear e2 hb13 hb2 R1;have hb:=R2.out.1;by_cases hE:E=0
 ·subst hE
  have p0:=R2.out.2.2.2.2.1.cell 0;have p1:=R2.out.2.2.2.2.1.cell 1;have p2:=R2.out.2.2.2.2.1.cell 2;by_cases hFm:F=m
  ·subst hFm
   by_cases hSn:S=n
   ·subst hSn
    have hV:=HV.out.2.2.2 rfl rfl rfl;obtain ⟨t1,t2,t3⟩:=HA.out.2.2.1 rfl;have hfew:=z2K t1 t2;have cc:=zbN d F S t HA.out.2.2.2.2.1 HA.out.2.2.2.2.2 HA.out.2.2.2.1 a1 N c1 (by omega) R2.out.2.2.2.2.2.1 R2.out.2.2.2.2.2.2 L w2 R2.out.2.2.2.1
    have hPL:PPA F S=(0,PLCS (PXS F S)):=by
     unfold PPA;rw [if_neg (by omega)]
    have hRC:RCA d (JSX F S t) F S N L=(0,(PC F,CAT (RCM d (JSX F S t) F S L) (SPAN 0 F)),(PC S,CAT (RCM d (JSX F S t) F S L) (SPAN 0 S))):=by
     unfold RCA;rw [hPL,if_neg (by simp),if_neg (by rw [z0u];simpa using t3)]
    have hrg:=z92 (d:=d) (js:=JSX F S t) (F:=F) (S:=S) R2.out.2.2.2.1.1 R2.out.2.2.2.1.2.2;rw [hRC] at cc hrg hV;unfold ANSR at cc;dsimp only at hrg hV cc;generalize CAT (RCM d (JSX F S t) F S L) (SPAN 0 F)=P at *
    generalize CAT (RCM d (JSX F S t) F S L) (SPAN 0 S)=Q at *
    have hUN:∀ z (T r:List Int),z<=4611686018427387904->UNDA d z (PC z) T r=if z0z d z (FLD d T (PC z))=r then 0 else 80:=fun z T r hz=>by
     have hBA:BAGA d z (PC z) T=(0,z0z d z (FLD d T (PC z))):=by
      unfold BAGA;rw [if_neg (by omega),if_neg (by simp)]
     unfold UNDA;rw [hBA];simp
    rw [hUN F P r1 (by omega),hUN S Q r2 t2] at hV;have CB1:Aside (∀ W a c,Flat W a (PC F) P->Calls Tryz.prog 13 #[.int .i64 d,.int .u64 (F:Int),.slice a (PC F) c] W fun e w'=>e=.returned (.tuple #[.agg (z01 (z0z d F (FLD d P (PC F)))).toArray,.int .i64 0])/\Below W.heap.size W w'):=fun W a c hf=>z6v d F (by omega) a (PC F) c rfl P W hf;have CB2:Aside (∀ W a c,Flat W a (PC S) Q->Calls Tryz.prog 13 #[.int .i64 d,.int .u64 (S:Int),.slice a (PC S) c] W fun e w'=>e=.returned (.tuple #[.agg (z01 (z0z d S (FLD d Q (PC S)))).toArray,.int .i64 0])/\Below W.heap.size W w'):=fun W a c hf=>z6v d S t2 a (PC S) c rfl Q W hf;have hY1:IsH (z0z d F (FLD d P (PC F))):=z2x _ _ _;have hY2:IsH (z0z d S (FLD d Q (PC S))):=z2x _ _ _;generalize z0z d F (FLD d P (PC F))=Y1 at *
    generalize z0z d S (FLD d Q (PC S))=Y2 at *
    generalize PC F=mf at *
    generalize PC S=ms at *
    have HP:Aside ((∀ x∈P,0<=x/\x<=255)/\∀ x∈Q,0<=x/\x<=255):=hrg
    have HW:Aside (V=if Y1=r1 then (if Y2=r2 then 0 else 80) else 80):=by
     show V=_;rw [hV];by_cases h1:Y1=r1
     ·rw [if_pos h1,if_neg (by simp),if_pos h1]
     ·rw [if_neg h1,if_pos (by simp),if_neg h1]
    clear t1 t2 t3 hPL hRC hrg hUN hV HV hfew;go_wp2_with fail
    refine cc.mono ?_;rintro e w3 ⟨a3,c3,a4,c4,rfl,o3,o4,hb3, -⟩;have R3:Aside (Below w.heap.size w w3/\Has w3 b8 (z01 r1).toArray 24/\Has w3 b10 (z01 r2).toArray 24/\Flat w3 a3 mf P/\Flat w3 a4 ms Q):=⟨R2.out.1.trans (hb3.mono R2.out.1.size),R2.out.2.1.keep hb3,R2.out.2.2.1.keep hb3,z1c o3 HP.out.1,z1c o4 HP.out.2⟩
    clear cc o3 o4 hb3 p0 p1 p2 R2 hb HP;have cb:=CB1.out w3 a3 c3 R3.out.2.2.2.1;have y1:=hY1.1;have y2:=hY2.1;go_wp2_with fail
    refine cb.mono ?_;rintro e w4 ⟨rfl,hb4⟩;have R4:Aside (Below w.heap.size w w4/\Has w4 b8 (z01 r1).toArray 24/\Has w4 b10 (z01 r2).toArray 24/\Flat w4 a4 ms Q):=⟨R3.out.1.trans (hb4.mono R3.out.1.size),R3.out.2.1.keep hb4,R3.out.2.2.1.keep hb4,R3.out.2.2.2.2.below hb4⟩
    clear cb hb4 R3 CB1;go_upto_region 8 with (refine wpList_store_row rfl 24 (.tmp 18) (.tmp 52) rfl _ _ rfl rfl 24 _ (Has.new w4 _ _) (z02 y1) (by simp [z01,y1]) (z0k Y1) ?_;rw [World.setRow_alloc_new])
    have R5:Aside (Below w.heap.size w (w4.alloc (.cells (z01 Y1).toArray 24))/\Has (w4.alloc (.cells (z01 Y1).toArray 24)) b8 (z01 r1).toArray 24/\Has (w4.alloc (.cells (z01 Y1).toArray 24)) b10 (z01 r2).toArray 24/\Flat (w4.alloc (.cells (z01 Y1).toArray 24)) a4 ms Q/\Has (w4.alloc (.cells (z01 Y1).toArray 24)) w4.heap.size (z01 Y1).toArray 24):=⟨R4.out.1.alloc R4.out.1.size _,R4.out.2.1.alloc _,R4.out.2.2.1.alloc _,R4.out.2.2.2.below ((Below.refl _ _).alloc (Nat.le_refl _) _),Has.new _ _ _⟩
    generalize w4.alloc (.cells (z01 Y1).toArray 24)=w5 at *
    generalize w4.heap.size=b18 at *
    clear R4;have cb:=CB2.out w5 a4 c4 R5.out.2.2.2.1;go_wp2_with fail
    refine cb.mono ?_;rintro e w6 ⟨rfl,hb6⟩;have R6:Aside (Below w.heap.size w w6/\Has w6 b8 (z01 r1).toArray 24/\Has w6 b10 (z01 r2).toArray 24/\Has w6 b18 (z01 Y1).toArray 24):=⟨R5.out.1.trans (hb6.mono R5.out.1.size),R5.out.2.1.keep hb6,R5.out.2.2.1.keep hb6,R5.out.2.2.2.2.keep hb6⟩
    clear cb hb6 R5 CB2;go_upto_region 9 with (refine wpList_store_row rfl 24 (.tmp 20) (.tmp 59) rfl _ _ rfl rfl 24 _ (Has.new w6 _ _) (z02 y2) (by simp [z01,y2]) (z0k Y2) ?_;rw [World.setRow_alloc_new])
    have R7:Aside (Below w.heap.size w (w6.alloc (.cells (z01 Y2).toArray 24))/\Has (w6.alloc (.cells (z01 Y2).toArray 24)) b8 (z01 r1).toArray 24/\Has (w6.alloc (.cells (z01 Y2).toArray 24)) b10 (z01 r2).toArray 24/\Has (w6.alloc (.cells (z01 Y2).toArray 24)) b18 (z01 Y1).toArray 24/\Has (w6.alloc (.cells (z01 Y2).toArray 24)) w6.heap.size (z01 Y2).toArray 24):=⟨R6.out.1.alloc R6.out.1.size _,R6.out.2.1.alloc _,R6.out.2.2.1.alloc _,R6.out.2.2.2.alloc _,Has.new _ _ _⟩
    generalize w6.alloc (.cells (z01 Y2).toArray 24)=w7 at *
    generalize w6.heap.size=b20 at *
    clear R6;obtain ⟨_,h8,h10,h18,h20⟩:=R7.out;have q1:=z7A hY1 HA.out.1;have q2:=z7A hY2 HA.out.2.1;by_cases hq1:Y1=r1
    ·rw [decide_eq_true hq1] at q1
     by_cases hq2:Y2=r2
     ·rw [decide_eq_true hq2] at q2
      have HZ:Aside (V=0):=by show V=0;rw [HW.out,if_pos hq1,if_pos hq2]
      clear hq1 hq2 HW hY1 hY2
      go_wp2_with (first
              | (refine wpList_load_row rfl 24 (.tmp 18) rfl b18 rfl 24 (z01 Y1).toArray (0,0) _ h18 Tryz.underlying24 rfl (z02 y1) ?_)
              | (refine wpList_load_row rfl 24 (.tmp 8) rfl b8 rfl 24 (z01 r1).toArray (0,0) _ h8 Tryz.underlying24 rfl (z02 l1) ?_)
              | (refine z05 (by rfl) 24 (.tmp 20) rfl 32 5 b20 rfl 24 (z01 Y2).toArray (0,0) h20 Tryz.underlying24 (z02 y2) ?_)
              | (refine z05 (by rfl) 24 (.tmp 10) rfl 32 5 b10 rfl 24 (z01 r2).toArray (0,0) h10 Tryz.underlying24 (z02 l2) ?_))
      go_ret;exact ⟨by rw [HZ.out];rfl,R7.out.1⟩
     ·rw [decide_eq_false hq2] at q2
      have HZ:Aside (V=80):=by show V=80;rw [HW.out,if_pos hq1,if_neg hq2]
      clear hq1 hq2 HW hY1 hY2
      go_wp2_with (first
              | (refine wpList_load_row rfl 24 (.tmp 18) rfl b18 rfl 24 (z01 Y1).toArray (0,0) _ h18 Tryz.underlying24 rfl (z02 y1) ?_)
              | (refine wpList_load_row rfl 24 (.tmp 8) rfl b8 rfl 24 (z01 r1).toArray (0,0) _ h8 Tryz.underlying24 rfl (z02 l1) ?_)
              | (refine z05 (by rfl) 24 (.tmp 20) rfl 32 5 b20 rfl 24 (z01 Y2).toArray (0,0) h20 Tryz.underlying24 (z02 y2) ?_)
              | (refine z05 (by rfl) 24 (.tmp 10) rfl 32 5 b10 rfl 24 (z01 r2).toArray (0,0) h10 Tryz.underlying24 (z02 l2) ?_))
      go_ret;exact ⟨by rw [HZ.out];rfl,R7.out.1⟩
    ·rw [decide_eq_false hq1] at q1
     have HZ:Aside (V=80):=by show V=80;rw [HW.out,if_neg hq1]
     clear hq1 HW hY1 hY2 q2
     go_wp2_with (first
      | (refine wpList_load_row rfl 24 (.tmp 18) rfl b18 rfl 24 (z01 Y1).toArray (0,0) _ h18 Tryz.underlying24 rfl (z02 y1) ?_)
      | (refine wpList_load_row rfl 24 (.tmp 8) rfl b8 rfl 24 (z01 r1).toArray (0,0) _ h8 Tryz.underlying24 rfl (z02 l1) ?_))
     go_ret;exact ⟨by rw [HZ.out];rfl,R7.out.1⟩
   ·have hV:Aside (V=30):=HV.out.2.2.1 rfl rfl hSn
    have hne:((S:Int) == (n:Int))=false:=beq_eq_false_iff_ne.2 (by omega);clear hSn R2 HA HV;go_wp2_with fail
    go_ret;exact ⟨by rw [hV.out];rfl,hb⟩
  ·have hV:Aside (V=30):=HV.out.2.1 rfl hFm
   have hne:((F:Int) == (m:Int))=false:=beq_eq_false_iff_ne.2 (by omega);clear hFm R2 HA HV;go_wp2_with fail
   go_ret;exact ⟨by rw [hV.out];rfl,hb⟩
 ·have hV:Aside (V=E):=HV.out.1 hE
  have hne:(E == 0)=false:=beq_eq_false_iff_ne.2 hE;clear R2 HA hE HV;go_wp2_with fail
  go_ret;exact ⟨by rw [hV.out];rfl,hb⟩
end Go.Proofs.YtdggkbpabjgdfaaGreatDoor
namespace Go.Proofs.YtdggkbpabjgdfaaGreatDoor
set_option maxRecDepth 100000
structure PFXOK (d:Int) (m n:Nat) (r1 r2 t:List Int):Prop where
 le:m<=n
 top:n<=4611686018427387904
 len:t.length=32*(PXS m n).length
 rng:∀ x∈t,0<=x/\x<=255
 low:z0z d m (FLD d (t.take (32*PC m)) (PC m))=r1
 high:z0z d n (FLD d (CAT (PXV d m n t) (SPAN 0 n)) (PC n))=r2
theorem z9i {d:Int} {n k:Nat} {l root:List Int} (h:UNDA d n k l root=0):k=PC n/\z0z d n (FLD d l k)=root:=by
 unfold UNDA at h;split at h
 ·next hb=>
  unfold BAGA at hb;split at hb
  ·simp at hb
  ·split at hb
   ·simp at hb
   ·next hk=>exact ⟨by simpa using hk,hb.2⟩
 ·cases h
theorem zfA {d:Int} {m n t0:Nat} {r1 r2 bl:List Int} (hr:∀ x∈bl,0<=x/\x<=255) (hm:m<2 ^ 64) (hn:n<2 ^ 64) (hL:LOWS (DEX bl).2.1 t0) (hdn:(DEX bl).1=0->(DEX bl).2.2.2.2.length=32*(DEX bl).2.2.2.1/\∀ z∈(DEX bl).2.2.2.2,0<=z/\z<=255) (h:PFXA d (JSX (DEX bl).2.1 (DEX bl).2.2.1 t0) m r1 n r2 bl=0):∃ t,DEX bl=(0,m,n,(PXS m n).length,t)/\PFXOK d m n r1 r2 t:=by
 obtain ⟨E,F,S,N,t,hD⟩:∃ E F S N t,DEX bl=(E,F,S,N,t):=⟨_,_,_,_,_,rfl⟩
 unfold PFXA at h;rw [hD] at h hL hdn;dsimp only at h hL hdn;by_cases h1:E=0
 ·rw [if_neg (by simpa using h1)] at h
  by_cases h2:F=m
  ·rw [if_neg (by simpa using h2)] at h
   by_cases h3:S=n
   ·rw [if_neg (by simpa using h3)] at h
    subst h1 h2 h3;obtain ⟨p1,p2,p3⟩:=z9h hr hm hn hD;subst p3;have e1:PPA F S=(0,PLCS (PXS F S)):=by unfold PPA;rw [if_neg (by omega)]
    have hC:RCA d (JSX F S t0) F S (PXS F S).length t=(0,(PC F,CAT (RCM d (JSX F S t0) F S t) (SPAN 0 F)),(PC S,CAT (RCM d (JSX F S t0) F S t) (SPAN 0 S))):=by
     unfold RCA;rw [e1,if_neg (by simp),if_neg (by simp [PLCS])]
    rw [hC] at h;dsimp only at h;have c1:=z5M (d:=d) p1 p2 hL t (PC F) (Nat.le_refl _);rw [List.take_of_length_le (by rw [z0i (by omega)];exact Nat.le_refl _)] at c1;have c2:CAT (RCM d (JSX F S t0) F S t) (SPAN 0 S)=CAT (PXV d F S t) (SPAN 0 S):=z9g fun x y hxy=>zaF p1 p2 hL t hxy;rw [c1,c2] at h;split at h
    ·next hne=>exact absurd h hne
    ·next hz=>
     have z1:=z9i (by simpa using hz);have z2:=z9i h;exact ⟨t,hD,p1,p2,(hdn rfl).1,(hdn rfl).2,z1.2,z2.2⟩
   ·rw [if_pos h3] at h
    cases h
  ·rw [if_pos h2] at h
   cases h
 ·rw [if_pos h1] at h
  exact absurd h h1
theorem zin (d:Int) (F S:Nat) (t:List Int):BAGS d S (PC S) (CAT (PXV d F S t) (SPAN 0 S)) (PFXL d F S t)/\BAGS d F (PC F) (t.take (32*PC F)) (PFXL d F S t)/\∀ x∈PTX (PXV d F S t) (PXS F S),x∈PFXL d F S t:=by
 unfold PFXL;refine ⟨(z5B ..).mono fun x hx=>List.mem_append.2 (.inl hx),(z5B ..).mono fun x hx=>List.mem_append.2 (.inr (List.mem_append.2 (.inl hx))),fun x hx=>List.mem_append.2 (.inr (List.mem_append.2 (.inr hx)))⟩
end Go.Proofs.YtdggkbpabjgdfaaGreatDoor
