/- Texts of ManyAccepts, one behind the other: ManyDecode, ProofMarked, ManySlice, ManyRefDecode, ManyClimbsRange, ManyVerify, ManyRoundPlain, ProofReaders, ProofDecodeSteps, ProofDecode, ProofOwned, VerifyMember, VerifyReachRegion, CutJoins, VerifyReach, VerifyPrefix. -/
import Derived.Test.YtjkjlblongeljaaGreatDoorManyAcceptsP35
namespace Go.Proofs.YtjkjlblongeljaaGreatDoor
open Go.RowKit
set_option maxRecDepth 100000
def DECG (w:World) (pb:Nat) (A:MANS) (w':World):Prop:=
  A.1=0∧∃ a c a2 K c2,Has w' pb #[.int .u64 (A.2.1:Int),.slice a A.2.2.1.length c,.slice a2 K c2] 46∧w'.ownsRow w.heap.size 24 1 (.slice a A.2.2.1.length c) A.2.2.1.length (UCELLS A.2.2.1)∧w'.ownsRow w.heap.size 35 32 (.slice a2 K c2) K (z00 A.2.2.2)∧A.2.2.2.length=32*K∧(∀ b,b<w.heap.size→b≠pb→w'.heap[b]?=w.heap[b]?)∧Below pb w w'
set_option maxHeartbeats 2000000 in
theorem z98 {wS w:World} {bb pb:Nat} {a:Option Addr} {c:Nat} {l:List Int} (hS:SRC wS a c l) (hb:Below wS.heap.size wS w) (h0:Has w bb #[.slice a l.length c] 53) (h1:Has w pb ZMANY 46) (hT:Tabled wS) (hw0:0<wS.heap.size):
    Calls Tryz.prog 48 #[.pointer (some ⟨bb,0,none⟩),.pointer (some ⟨pb,0,none⟩)] w fun e w'=>(e=.returned (.tuple #[])∧DECG w pb (MDC l) w')∨∃ x,e=.panicked (z0x x)∧(x=(MDC l).1∧x≠0∧Below w.heap.size w w'):=by
  obtain ⟨w1,e1⟩:∃ w1,w.alloc (.cells #[.slice a l.length c] 101)=w1:=⟨_,rfl⟩
  have hb1:Below w.heap.size w w1:=by rw [← e1];exact (Below.refl _ _).alloc (Nat.le_refl _) _
  have s1:w1.heap.size=w.heap.size+1:=by rw [← e1];simp
  have hsz:=hb.size
  have R1:RDR wS w1 w.heap.size l:=⟨⟨a,c,by rw [← e1];exact Has.new w _ _,hS⟩,hb.trans (hb1.mono hsz),hsz⟩
  have cp:=zcC R1 hT hw0
  obtain ⟨A,hA⟩:∃ A,MDC l=A:=⟨_,rfl⟩
  rw [hA] at cp ⊢
  have x0:=h0.cell 0
  have hlt:=h1.lt
  have HA:Aside (Has w1 pb ZMANY 46∧Below w.heap.size w w1∧w1.heap.size=w.heap.size+1∧pb<w.heap.size):=⟨h1.keep hb1,hb1,s1,hlt⟩
  obtain ⟨n,hn⟩:∃ n,l.length=n:=⟨_,rfl⟩
  rw [hn] at e1 x0
  have info3:(Tryz.prog.info? 46).map (·.size)=some 3:=by kernel_rfl
  clear hS hb h0 h1 hT hw0 hb1 s1 hsz R1 hA hlt
  go_enter Tryz.func48,Tryz.ntmps48
  go_wp2_with fail
  refine cp.mono ?_
  rintro e w2 (⟨hE,a2,c2,a3,K,c3,rfl,o1,o2,hK,S2⟩ | ⟨hE,rfl,S2⟩)
  · have hp2:Has w2 pb ZMANY 46:=S2.has HA.out.1 (by have:=HA.out;omega)
    obtain ⟨M,hM⟩:∃ M,A.2.2.1.length=M:=⟨_,rfl⟩
    obtain ⟨Z,hZ⟩:∃ Z,A.2.1=Z:=⟨_,rfl⟩
    rw [hM] at o1 ⊢
    rw [hZ]
    have FN:Aside (DECG w pb A (w2.setRow pb #[.int .u64 (Z:Int),.slice a2 M c2,.slice a3 K c3])):=by
      have hwa:=HA.out
      refine ⟨hE,a2,c2,a3,K,c3,by rw [hZ,hM];exact hp2.row _,?_,?_,hK,fun b hb hne=>(setRow_other _ _ _ _ hne).trans ((S2.kp b (by omega) (by omega)).trans (HA.out.2.1.block b hb)),?_⟩
      · rw [hM]
        exact z0i (z1G o1 fun k e=>setRow_other _ _ _ _ (by have:=(o1.lt k e).1;omega)) (by omega)
      · exact z0i (z1G o2 fun k e=>setRow_other _ _ _ _ (by have:=(o2.lt k e).1;omega)) (by omega)
      · exact z06 ((HA.out.2.1.mono (by omega)).trans (S2.bl.mono (by omega))) (Nat.le_refl _) _
    have infoM:(Tryz.prog.info? 46).map (·.size)=some (#[Value.int .u64 (Z:Int),.slice a2 M c2,.slice a3 K c3]:Array Value).size:=info3
    have sizeM:ZMANY.size=(#[Value.int .u64 (Z:Int),.slice a2 M c2,.slice a3 K c3]:Array Value).size:=rfl
    have allM:(#[Value.int .u64 (Z:Int),.slice a2 M c2,.slice a3 K c3]:Array Value).all (·.oneCell')=true:=by simp [Value.oneCell']
    have MM:Aside ((Tryz.prog.info? 46).map (·.size)=some (#[Value.int .u64 (Z:Int),.slice a2 M c2,.slice a3 K c3]:Array Value).size∧ZMANY.size=(#[Value.int .u64 (Z:Int),.slice a2 M c2,.slice a3 K c3]:Array Value).size∧(#[Value.int .u64 (Z:Int),.slice a2 M c2,.slice a3 K c3]:Array Value).all (·.oneCell')=true∧Has w2 pb ZMANY 46):=⟨infoM,sizeM,allM,hp2⟩
    clear cp o1 o2 hK S2 hp2 HA infoM sizeM allM hE hM hZ
    go_wp2_with (first
      | (refine wpList_store_row rfl 46 (.tmp 1) (.tmp 5) rfl _ _ rfl rfl 46 ZMANY MM.out.2.2.2 MM.out.1 MM.out.2.1 MM.out.2.2.1 ?_))
    exact bodyPost_end (v:=.tuple #[]) (by simp [results,Tryz.f48]) rfl (.inl ⟨rfl,FN.out⟩)
  · exact ⟨rfl,.inr ⟨_,rfl,rfl,hE,HA.out.2.1.trans ((STAY.bl S2))⟩⟩
def DECM (w:World) (A:MANS) (e:Ending) (w':World):Prop:=
  ∃ a c a2 K c2,e=.returned (.tuple #[.agg #[.int .u64 (A.2.1:Int),.slice a A.2.2.1.length c,.slice a2 K c2],.int .i64 A.1])∧w'.ownsRow w.heap.size 24 1 (.slice a A.2.2.1.length c) A.2.2.1.length (UCELLS A.2.2.1)∧w'.ownsRow w.heap.size 35 32 (.slice a2 K c2) K (z00 A.2.2.2)∧A.2.2.2.length=32*K∧Below w.heap.size w w'
theorem zfh {n:Nat} {I:Int × List Nat × List Int} (h:(MD3 n I).1≠0):MD3 n I=MERR (MD3 n I).1:=by
  unfold MD3 at h ⊢
  by_cases h1:I.1≠0
  · rw [if_pos h1];rfl
  · rw [if_neg h1] at h ⊢
    by_cases h2:I.2.2.length<32*(z08 (TPS n) I.2.1).length
    · rw [if_pos h2];rfl
    · rw [if_neg h2] at h ⊢
      by_cases h3:32*(z08 (TPS n) I.2.1).length<I.2.2.length
      · rw [if_pos h3];rfl
      · rw [if_neg h3] at h
        exact absurd rfl h
theorem zfi {l:List Int} (h:(MDC l).1≠0):MDC l=MERR (MDC l).1:=by
  cases l with
  | nil=>rfl
  | cons x t=>
    have e:MDC (x :: t)=if x=78 then MD1 t else MERR 14:=rfl
    rw [e] at h ⊢
    by_cases hx:x=78
    · rw [if_pos hx] at h ⊢
      unfold MD1 at h ⊢
      by_cases h1:(LNG t).2.2≠0
      · rw [if_pos h1];rfl
      · rw [if_neg h1] at h ⊢
        by_cases h2:4611686018427387904<(LNG t).1.toNat
        · rw [if_pos h2];rfl
        · rw [if_neg h2] at h ⊢
          exact zfh h
    · rw [if_neg hx];rfl
set_option maxHeartbeats 4000000 in
theorem z46 (a:Option Addr) (n c:Nat) (l:List Int) (w:World) (hB:Bytes w a n l) (hc:n≤c) (hn:n≤1000000) (hT:Tabled w) (hw0:0<w.heap.size):Calls Tryz.prog 20 #[.slice a n c] w (DECM w (MDC l)):=by
  have hmf:∀ (fn:Fn) (first cap:Array Value) (w:World),(Instr.makeFunc fn first cap).run Tryz.prog w=.ok (.func fn first cap) w:=fun _ _ _ _=>rfl
  have hl:=hB.1
  have hS:SRC w a c l:=⟨by rw [hl];exact hB,by omega,by omega⟩
  obtain ⟨w1,e1⟩:∃ w1,w.alloc (.cells #[.slice a n c] 53)=w1:=⟨_,rfl⟩
  obtain ⟨w2,e2⟩:∃ w2,w1.alloc (.cells ZMANY 46)=w2:=⟨_,rfl⟩
  obtain ⟨w3,e3⟩:∃ w3,w2.alloc (.cells ZMANY 46)=w3:=⟨_,rfl⟩
  obtain ⟨w4,e4⟩:∃ w4,w3.alloc (.cells #[.int .i64 0] 26)=w4:=⟨_,rfl⟩
  have s1:w1.heap.size=w.heap.size+1:=by rw [← e1];simp
  have s2:w2.heap.size=w.heap.size+2:=by rw [← e2];simp;omega
  have s3:w3.heap.size=w.heap.size+3:=by rw [← e3];simp;omega
  have s4:w4.heap.size=w.heap.size+4:=by rw [← e4];simp;omega
  have hb4:Below w.heap.size w w4:=by
    rw [← e4,← e3,← e2,← e1]
    exact ((((Below.refl _ _).alloc (Nat.le_refl _) _).alloc (by simp) _).alloc (by simp;omega) _).alloc (by simp;omega) _
  have h0:Has w4 w.heap.size #[.slice a l.length c] 53:=by
    rw [← e4,← e3,← e2,← e1,hl]
    exact (((Has.new w _ _).alloc _).alloc _).alloc _
  have h1:Has w4 w1.heap.size ZMANY 46:=by
    rw [← e4,← e3,← e2]
    exact ((Has.new w1 _ _).alloc _).alloc _
  have h2:Has w4 w2.heap.size ZMANY 46:=by
    rw [← e4,← e3]
    exact (Has.new w2 _ _).alloc _
  have h3:Has w4 w3.heap.size #[.int .i64 0] 26:=by
    rw [← e4]
    exact Has.new w3 _ _
  have cd:=z98 hS hb4 h0 h2 hT hw0
  rw [← e4] at cd
  have cf:=zef w.heap.size w2.heap.size w3 _ _ cd
    (fun w' h=>by
      obtain ⟨_,_,_,_,_,_,_,_,_,_,hk,_⟩:=h
      rw [e4] at hk
      exact (hk w3.heap.size (by omega) (by omega)).trans h3)
    (fun x w' ⟨_,_,hb⟩=>by rw [e4] at hb;exact h3.keep hb)
  rw [e4] at cf
  obtain ⟨A,hA⟩:∃ A,MDC l=A:=⟨_,rfl⟩
  have hMe:=zfi (l:=l)
  rw [hA] at cf hMe ⊢
  have FIN:Aside (∀ e w',z3h w3 (fun w'=>DECG w4 w2.heap.size A w') (fun x w'=>x=A.1∧x≠0∧Below w4.heap.size w4 w') e w'→e=.returned (.int .i64 A.1)∧∃ a c a2 K c2,Has w' w2.heap.size #[.int .u64 (A.2.1:Int),.slice a A.2.2.1.length c,.slice a2 K c2] 46∧Has w' w1.heap.size ZMANY 46∧w'.ownsRow w4.heap.size 24 1 (.slice a A.2.2.1.length c) A.2.2.1.length (UCELLS A.2.2.1)∧w'.ownsRow w4.heap.size 35 32 (.slice a2 K c2) K (z00 A.2.2.2)∧A.2.2.2.length=32*K∧Below w.heap.size w w'):=by
    rintro e w' (⟨rfl,wx,⟨hE,a',c',a2,K,c2,q1,q2,q3,q4,q5,q6⟩,rfl⟩ | ⟨x,wx,rfl,⟨rfl,hx,hbx⟩,rfl⟩)
    · refine ⟨by rw [hE],a',c',a2,K,c2,q1.other (by show w2.heap.size≠w3.heap.size;omega) _,?_,ownsRow_setCell_below q2 (a:=⟨w3.heap.size,0,none⟩) (by show w3.heap.size<w4.heap.size;omega) _,ownsRow_setCell_below q3 (a:=⟨w3.heap.size,0,none⟩) (by show w3.heap.size<w4.heap.size;omega) _,q4,?_⟩
      · exact Has.other (show Has wx w1.heap.size ZMANY 46 from (q5 w1.heap.size (by omega) (by omega)).trans h1) (by show w1.heap.size≠w3.heap.size;omega) _
      · exact (hb4.trans (q6.mono (by omega))).setCell (by show w.heap.size≤w3.heap.size;omega) _
    · have hP:A=MERR A.1:=hMe hx
      refine ⟨rfl,none,0,none,0,0,?_,?_,?_,?_,?_,(hb4.trans (hbx.mono hb4.size)).setCell (by show w.heap.size≤w3.heap.size;omega) _⟩
      · have e1:A.2.1=0:=by rw [hP];rfl
        have e2:A.2.2.1=[]:=by rw [hP];rfl
        rw [e1,e2]
        exact (h2.keep hbx).other (by show w2.heap.size≠w3.heap.size;omega) _
      · exact (h1.keep hbx).other (by show w1.heap.size≠w3.heap.size;omega) _
      · have e2:A.2.2.1=[]:=by rw [hP];rfl
        rw [e2]
        exact ⟨rfl,.inl ⟨rfl,rfl⟩⟩
      · have e2:A.2.2.2=[]:=by rw [hP];rfl
        rw [e2]
        exact ⟨rfl,.inl ⟨rfl,rfl⟩⟩
      · have e2:A.2.2.2=[]:=by rw [hP];rfl
        rw [e2]
        rfl
  have SZ:Aside (w1.heap.size=w.heap.size+1∧w2.heap.size=w.heap.size+2∧w4.heap.size=w.heap.size+4):=⟨s1,s2,s4⟩
  have info3:(Tryz.prog.info? 46).map (·.size)=some 3:=by kernel_rfl
  clear cd h0 h1 h2 h3 hb4 hl hS hB hc hn hT s1 s2 s3 s4 e4 hw0 hA hMe
  go_enter Tryz.func20,Tryz.ntmps20
  go_wp2_with fail
  refine cf.mono ?_
  intro e w5 hh
  obtain ⟨rfl,a',c',a2,K,c2,q1,q2,q3,q4,q5,q6⟩:=FIN.out e w5 hh
  obtain ⟨M,hM⟩:∃ M,A.2.2.1.length=M:=⟨_,rfl⟩
  obtain ⟨Z,hZ⟩:∃ Z,A.2.1=Z:=⟨_,rfl⟩
  obtain ⟨E,hE⟩:∃ E,A.1=E:=⟨_,rfl⟩
  rw [hZ,hM] at q1
  rw [hM] at q3
  have FN:Aside (DECM w A (.returned (.tuple #[.agg #[.int .u64 (Z:Int),.slice a' M c',.slice a2 K c2],.int .i64 E])) (w5.setRow w1.heap.size #[.int .u64 (Z:Int),.slice a' M c',.slice a2 K c2])):=by
    have hsz:=SZ.out
    refine ⟨a',c',a2,K,c2,by rw [hZ,hM,hE],?_,?_,q5,z06 q6 (by omega) _⟩
    · rw [hM]
      exact z0i (z1G q3 fun k e=>setRow_other _ _ _ _ (by have:=(q3.lt k e).1;omega)) (by omega)
    · exact z0i (z1G q4 fun k e=>setRow_other _ _ _ _ (by have:=(q4.lt k e).1;omega)) (by omega)
  rw [hE]
  have infoM:(Tryz.prog.info? 46).map (·.size)=some (#[Value.int .u64 (Z:Int),.slice a' M c',.slice a2 K c2]:Array Value).size:=info3
  have sizeM:ZMANY.size=(#[Value.int .u64 (Z:Int),.slice a' M c',.slice a2 K c2]:Array Value).size:=rfl
  have allM:(#[Value.int .u64 (Z:Int),.slice a' M c',.slice a2 K c2]:Array Value).all (·.oneCell')=true:=by simp [Value.oneCell']
  have MM:Aside ((Tryz.prog.info? 46).map (·.size)=some (#[Value.int .u64 (Z:Int),.slice a' M c',.slice a2 K c2]:Array Value).size∧ZMANY.size=(#[Value.int .u64 (Z:Int),.slice a' M c',.slice a2 K c2]:Array Value).size∧(#[Value.int .u64 (Z:Int),.slice a' M c',.slice a2 K c2]:Array Value).all (·.oneCell')=true∧Has w5 w2.heap.size #[.int .u64 (Z:Int),.slice a' M c',.slice a2 K c2] 46∧Has w5 w1.heap.size ZMANY 46):=⟨infoM,sizeM,allM,q1,q2⟩
  clear hh q1 q2 q3 q4 q5 q6 FIN cf SZ infoM sizeM allM hM hZ hE
  go_wp2_with (first
    | (refine wpList_load_row rfl 46 (.tmp 4) rfl w2.heap.size rfl 46 #[.int .u64 (Z:Int),.slice a' M c',.slice a2 K c2] (0,0) _ MM.out.2.2.2.1 Tryz.underlying46 rfl MM.out.1 ?_)
    | (refine wpList_store_row rfl 46 (.tmp 2) (.tmp 8) rfl _ _ rfl rfl 46 ZMANY MM.out.2.2.2.2 MM.out.1 MM.out.2.1 MM.out.2.2.1 ?_))
  refine bodyPost_ret (v:=.tuple #[.agg #[.int .u64 (Z:Int),.slice a' M c',.slice a2 K c2],.int .i64 E]) ?_ rfl FN.out
  rw [results_cell_tmp rfl]
  have hrow:=MM.out.2.2.2.2.row #[.int .u64 (Z:Int),.slice a' M c',.slice a2 K c2]
  simp [asAddr,run_loadVar_row _ w1.heap.size 46 46 _ (0,0) _ hrow Tryz.underlying46 rfl MM.out.1]
end Go.Proofs.YtjkjlblongeljaaGreatDoor

namespace Go.Proofs.YtjkjlblongeljaaGreatDoor
open Go.RowKit
set_option maxRecDepth 100000
end Go.Proofs.YtjkjlblongeljaaGreatDoor

namespace Go.Proofs.YtjkjlblongeljaaGreatDoor
open Go.RowKit
set_option maxRecDepth 100000
end Go.Proofs.YtjkjlblongeljaaGreatDoor

namespace Go.Proofs.YtjkjlblongeljaaGreatDoor
open Go.RowKit
set_option maxRecDepth 100000
theorem DECM.die {w w':World} {A:MANS} {E:Int} (hA:A=MERR E) (hb:Below w.heap.size w w'):DECM w A (.returned (.tuple #[.agg ZMANY,.int .i64 E])) w':=by
  rw [hA]
  exact ⟨none,0,none,0,0,rfl,⟨rfl,.inl ⟨rfl,rfl⟩⟩,zb6 _ _,rfl,hb⟩
end Go.Proofs.YtjkjlblongeljaaGreatDoor

namespace Go.Proofs.YtjkjlblongeljaaGreatDoor
set_option maxRecDepth 100000
theorem z5S {d:Int}:∀ (ps:List (Nat × Nat)) (A B:Nat) (L:List Nat) (lv nd:List Int) (i j:Nat),Tile A ps B→AMID A B L→RISES L→HSS i lv→HSS j nd→L.length≤i→(z08 ps L).length≤j→∀ x∈MUPS d ps L lv nd,0≤x∧x≤255
  | [],_,_,_,_,_,_,_,_,_,_,_,_,_,_=>fun x hx=>by cases hx
  | (h,k) :: ps,A,B,L,lv,nd,i,j,ht,hm,hR,hi,hj,h1,h2=>by
    obtain ⟨hN,hA,ht⟩:Node h k∧k*2 ^ h=A∧Tile ((k+1)*2 ^ h) ps B:=ht
    obtain ⟨r,hr⟩:=z1h hR ((k+1)*2 ^ h)
    have hn:=z1p ps hr
    have hle:=hr.le
    rw [hn,List.length_append] at h2
    have s:=z3Q d h k (L.take r) lv nd i j (hm.take hR hr hA) hi hj (by rw [List.length_take];omega) (by omega)
    intro x hx
    rw [z4k ps hr] at hx
    rcases List.mem_append.1 hx with hx | hx
    · exact s.1.2 x hx
    · exact z5S ps ((k+1)*2 ^ h) B (L.drop r) _ _ _ _ ht (hm.drop hr) (hR.drop r) s.2.1 s.2.2 (by rw [List.length_take,List.length_drop];omega) (by omega) x hx
theorem zcD {d:Int} {L:List Nat} {N K nl:Nat} {lv nd:List Int} (hl:HSS nl lv) (hn:HSS K nd):∀ x∈(MCL d L N K nl lv nd).2.2,0≤x∧x≤255:=by
  by_cases h:MCE L N K nl=0
  · have hP:MCL d L N K nl lv nd=(0,PC N,MUPS d (TPS N) L lv nd):=if_pos h
    rw [hP]
    have hW:MWA L N K=0:=by
      by_cases h':MWA L N K=0
      · exact h'
      · rw [z6Y h'] at h;exact h
    have hnl:nl=L.length:=by
      by_cases h':nl=L.length
      · exact h'
      · rw [z4t hW h'] at h;cases h
    obtain ⟨q1,q2⟩:=z5G hW
    obtain ⟨r1,r2,r3⟩:=z1q q1
    exact z5S (TPS N) 0 N L lv nd nl K (z20 r1) (fun x hx=>⟨Nat.zero_le _,r3 x hx⟩) r2 hl hn (by omega) (by omega)
  · have hP:MCL d L N K nl lv nd=(MCE L N K nl,0,[]):=if_neg h
    rw [hP]
    intro x hx
    cases hx
end Go.Proofs.YtjkjlblongeljaaGreatDoor

namespace Go.Proofs.YtjkjlblongeljaaGreatDoor
open Go.RowKit
set_option maxRecDepth 100000
theorem zcE {b:List Int} (hr:∀ x∈b,0≤x∧x≤255) (h:(MDC b).1=0):(MDC b).2.1≤4611686018427387904∧z0c (MDC b).2.2.1 (MDC b).2.1=0∧(MDC b).2.2.2.length=32*(z08 (TPS (MDC b).2.1) (MDC b).2.2.1).length∧(MDC b).2.2.1.length+(MDC b).2.2.2.length≤b.length∧∀ x∈(MDC b).2.2.2,0≤x∧x≤255:=by
  cases b with
  | nil=>cases h
  | cons x t=>
    by_cases hx:x=78
    · have e0 : MDC (x :: t)=MD1 t:=by rw [MDC,if_pos hx]
      rw [e0] at h ⊢
      have hrt:∀ y∈t,0≤y∧y≤255:=fun y hy=>hr y (List.mem_cons_of_mem _ hy)
      by_cases h1:(LNG t).2.2≠0
      · rw [za2 h1] at h
        exact absurd h h1
      · by_cases h2:4611686018427387904<(LNG t).1.toNat
        · rw [MD1,if_neg h1,if_pos h2] at h
          cases h
        · have e1:MD1 t=MD3 (LNG t).1.toNat (IDXS (LNG t).1.toNat (t.drop (LNG t).2.1.toNat)):=by rw [MD1,if_neg h1,if_neg h2]
          rw [e1] at h ⊢
          generalize (LNG t).1.toNat=Z at *
          have hrd:∀ y∈t.drop (LNG t).2.1.toNat,0≤y∧y≤255:=fun y hy=>hrt y (List.mem_of_mem_drop hy)
          have hlt:(t.drop (LNG t).2.1.toNat).length≤t.length:=by rw [List.length_drop];omega
          generalize t.drop (LNG t).2.1.toNat=u at *
          by_cases h3:(IDXS Z u).1≠0
          · rw [MD3,if_pos h3] at h
            exact absurd h h3
          · have h3':(IDXS Z u).1=0:=by simpa using h3
            obtain ⟨q1,q2⟩:=z6Z h3'
            obtain ⟨q3,q4⟩:=z8d hrd h3'
            by_cases h4:(IDXS Z u).2.2.length<32*(z08 (TPS Z) (IDXS Z u).2.1).length
            · rw [MD3,if_neg h3,if_pos h4] at h
              cases h
            · by_cases h5:32*(z08 (TPS Z) (IDXS Z u).2.1).length<(IDXS Z u).2.2.length
              · rw [MD3,if_neg h3,if_neg h4,if_pos h5] at h
                cases h
              · rw [MD3,if_neg h3,if_neg h4,if_neg h5]
                dsimp only
                exact ⟨by omega,zcy (by omega) q2 q1,by omega,by simp;omega,q4⟩
    · rw [MDC,if_neg hx] at h
      cases h
def MVA (d:Int) (root:List Int) (N:Nat) (L:List Nat) (nl:Nat) (lv b:List Int):Int:=
  if (MDC b).1≠0 then (MDC b).1 else if (MDC b).2.1≠N then 30 else if (MDC b).2.2.1≠L then 32 else if nl≠L.length then 70 else if z17 d N (FLD d (MUPS d (TPS N) L lv (MDC b).2.2.2) (PC N))=root then 0 else 80
structure MVAS (d:Int) (root:List Int) (N:Nat) (L:List Nat) (nl:Nat) (lv b:List Int) (V:Int):Prop where
  dec:(MDC b).1≠0→V=(MDC b).1
  size:(MDC b).1=0→(MDC b).2.1≠N→V=30
  index:(MDC b).1=0→(MDC b).2.1=N→(MDC b).2.2.1≠L→V=32
  count:(MDC b).1=0→(MDC b).2.1=N→(MDC b).2.2.1=L→nl≠L.length→V=70
  unlike:(MDC b).1=0→(MDC b).2.1=N→(MDC b).2.2.1=L→nl=L.length→z17 d N (FLD d (MUPS d (TPS N) L lv (MDC b).2.2.2) (PC N))≠root→V=80
  ok:(MDC b).1=0→(MDC b).2.1=N→(MDC b).2.2.1=L→nl=L.length→z17 d N (FLD d (MUPS d (TPS N) L lv (MDC b).2.2.2) (PC N))=root→V=0
theorem z37 (d:Int) (root:List Int) (N:Nat) (L:List Nat) (nl:Nat) (lv b:List Int):MVAS d root N L nl lv b (MVA d root N L nl lv b):=by
  refine ⟨fun h=>?_,fun h1 h2=>?_,fun h1 h2 h3=>?_,fun h1 h2 h3 h4=>?_,fun h1 h2 h3 h4 h5=>?_,fun h1 h2 h3 h4 h5=>?_⟩ <;> unfold MVA
  · rw [if_pos h]
  · rw [if_neg (by simpa using h1),if_pos h2]
  · rw [if_neg (by simpa using h1),if_neg (by simpa using h2),if_pos h3]
  · rw [if_neg (by simpa using h1),if_neg (by simpa using h2),if_neg (by simpa using h3),if_pos h4]
  · rw [if_neg (by simpa using h1),if_neg (by simpa using h2),if_neg (by simpa using h3),if_neg (by simpa using h4),if_neg h5]
  · rw [if_neg (by simpa using h1),if_neg (by simpa using h2),if_neg (by simpa using h3),if_neg (by simpa using h4),if_pos h5]
theorem z1r {w:World} {B s n c:Nat} {t:TypeId} {a:Option Addr} {xs:List Value} (h:w.ownsRow B t s (.slice a n c) n xs):n≤c∧(a=none→c=0)∧∀ x,a=some x→x.block<w.heap.size∧x.spot=none:=by
  rcases h.2 with ⟨e,h0⟩ | ⟨g,cap,cur,e,hb,hg,hc⟩
  · cases e
    exact ⟨by omega,fun _=>rfl,(fun x e=>by cases e)⟩
  · cases e
    exact ⟨hc.1,(fun e=>by cases e),(fun x e=>by cases e;exact ⟨(Array.getElem?_eq_some_iff.1 hg).1,rfl⟩)⟩
theorem z5T (d:Int) (N:Nat) (hN:N≤4611686018427387904) (l:List Int):BAGA d N (PC N) l=(0,z17 d N (FLD d l (PC N))):=by
  unfold BAGA
  rw [if_neg (by omega),if_neg (by simp)]
set_option maxHeartbeats 16000000 in
theorem z78 (d:Int) (root:List Int) (hroot:IsH root) (N:Nat) (ai:Option Addr) (n ci:Nat) (L:List Nat) (al:Option Addr) (nl cl:Nat) (lv:List Int) (ab:Option Addr) (k cb:Nat) (b:List Int) (w:World) (hl:L.length=n) (hn:n≤200) (hL:NUML w ai L) (hFl:Flat w al nl lv) (hcl:nl≤cl) (hla:∀ x,al=some x→x.block<w.heap.size) (hB:Bytes w ab k b) (hkb:k≤cb) (hk:k≤10000) (hT:Tabled w) (hX:HX.Tabled w) (h0:0<w.heap.size):
    Calls Tryz.prog 21 #[.int .i64 d,.agg (z00 root).toArray,.int .u64 (N:Int),.slice ai n ci,.slice al nl cl,.slice ab k cb] w fun e w'=>e=.returned (.int .i64 (MVA d root N L nl lv b))∧Below w.heap.size w w':=by
  have SV:=z37 d root N L nl lv b
  have hMT:=zcE (b:=b) hB.2.2
  have hbl:b.length=k:=hB.1
  generalize MVA d root N L nl lv b=V at *
  obtain ⟨w1,e1⟩:∃ w1,w.alloc (.cells (z00 root).toArray 35)=w1:=⟨_,rfl⟩
  obtain ⟨b7,hb7⟩:∃ b,w.heap.size=b:=⟨_,rfl⟩
  have hb1:Below w.heap.size w w1:=by rw [← e1];exact (Below.refl _ _).alloc (Nat.le_refl _) _
  have hR1:Has w1 b7 (z00 root).toArray 35:=by rw [← e1,← hb7];exact Has.new _ _ _
  have cd:=z46 ab k cb b w1 (hB.below hb1) hkb (by omega) (hT.below h0 hb1) (by have:=hb1.size;omega)
  have HA:Aside (L.length=n∧n≤200∧NUML w ai L∧Flat w al nl lv∧nl≤cl∧(∀ x,al=some x→x.block<w.heap.size)∧Tabled w∧HX.Tabled w∧0<w.heap.size∧k≤10000∧b.length=k):=⟨hl,hn,hL,hFl,hcl,hla,hT,hX,h0,hk,hbl⟩
  have H1:Aside (Below w.heap.size w w1∧Has w1 b7 (z00 root).toArray 35):=⟨hb1,hR1⟩
  have HM:Aside ((MDC b).1=0→(MDC b).2.1≤4611686018427387904∧z0c (MDC b).2.2.1 (MDC b).2.1=0∧(MDC b).2.2.2.length=32*(z08 (TPS (MDC b).2.1) (MDC b).2.2.1).length∧(MDC b).2.2.1.length+(MDC b).2.2.2.length≤b.length∧∀ x∈(MDC b).2.2.2,0≤x∧x≤255):=hMT
  have HV:Aside (MVAS d root N L nl lv b V∧IsH root):=⟨SV,hroot⟩
  clear hl hn hL hFl hcl hla hB hkb hk hT hX h0 hb1 hR1 SV hMT hroot hbl
  obtain ⟨E,hE⟩:∃ E,(MDC b).1=E:=⟨_,rfl⟩
  obtain ⟨Z,hZ⟩:∃ Z,(MDC b).2.1=Z:=⟨_,rfl⟩
  obtain ⟨M,hM⟩:∃ M,(MDC b).2.2.1=M:=⟨_,rfl⟩
  obtain ⟨nd,hnd⟩:∃ nd,(MDC b).2.2.2=nd:=⟨_,rfl⟩
  have HD:Aside (((MDC b).1=E∧(MDC b).2.1=Z∧(MDC b).2.2.1=M∧(MDC b).2.2.2=nd)):=⟨hE,hZ,hM,hnd⟩
  unfold DECM at cd
  rw [hE,hZ,hM,hnd] at cd
  clear hE hZ hM hnd
  go_enter Tryz.func21,Tryz.ntmps21
  go_upto_region 1 with fail
  clear e1 hb7
  go_wp2_with fail
  refine cd.mono ?_
  rintro e w2 ⟨a3,c3,a4,K,c4,rfl,o3,o4,hK,hb2⟩
  clear cd
  have hb12:Below w.heap.size w w2:=H1.out.1.trans (hb2.mono H1.out.1.size)
  go_upto_region 2 with fail
  obtain ⟨w3,e3⟩:∃ w3,w2.alloc (.cells #[.int .u64 (Z:Int),.slice a3 M.length c3,.slice a4 K c4] 46)=w3:=⟨_,rfl⟩
  have hb3:Below w2.heap.size w2 w3:=by rw [← e3];exact (Below.refl _ _).alloc (Nat.le_refl _) _
  have hP3:Has w3 w2.heap.size #[.int .u64 (Z:Int),.slice a3 M.length c3,.slice a4 K c4] 46:=by rw [← e3];exact Has.new _ _ _
  rw [e3]
  have W3:Aside (Below w.heap.size w w3∧Has w3 b7 (z00 root).toArray 35∧Has w3 w2.heap.size #[.int .u64 (Z:Int),.slice a3 M.length c3,.slice a4 K c4] 46∧w3.ownsRow w1.heap.size 24 1 (.slice a3 M.length c3) M.length (UCELLS M)∧w3.ownsRow w1.heap.size 35 32 (.slice a4 K c4) K (z00 nd)∧nd.length=32*K):=⟨hb12.trans (hb3.mono hb12.size),(H1.out.2.keep hb2).keep hb3,hP3,z0D o3 fun k e=>hb3.block k (o3.lt k e).2,z0D o4 fun k e=>hb3.block k (o4.lt k e).2,hK⟩
  have x0:=hP3.cell 0
  have x1:=hP3.cell 1
  have x2:=hP3.cell 2
  generalize w2.heap.size=b13 at *
  clear e3 hb3 hP3 hb2 hb12 o3 o4 hK H1
  by_cases hE:E=0
  case neg=>
    have FN:Aside (V=E∧Below w.heap.size w w3):=⟨by rw [← HD.out.1];exact HV.out.1.dec (by rw [HD.out.1];exact hE),W3.out.1⟩
    have hne:(E == 0)=false:=beq_eq_false_iff_ne.2 hE
    clear HV HM HA HD W3 hE
    go_wp2_with fail
    go_ret
    exact ⟨by rw [FN.out.1];rfl,FN.out.2⟩
  subst hE
  by_cases hZ:Z=N
  case neg=>
    have FN:Aside (V=30∧Below w.heap.size w w3):=⟨HV.out.1.size HD.out.1 (by rw [HD.out.2.1];exact hZ),W3.out.1⟩
    have hne:((Z:Int) == (N:Int))=false:=beq_eq_false_iff_ne.2 (by omega)
    clear HV HM HA HD W3 hZ
    go_wp2_with fail
    go_ret
    exact ⟨by rw [FN.out.1];rfl,FN.out.2⟩
  subst hZ
  have ce:=z8a a3 ai M.length n c3 ci M L rfl HA.out.1 (by have:=HM.out HD.out.1;rw [HD.out.2.2.1,HD.out.2.2.2] at this;have:=HA.out;omega) w3 (z33 W3.out.2.2.2.1 rfl) (HA.out.2.2.1.keep W3.out.1)
  go_wp2_with fail
  refine ce.mono ?_
  rintro e w4 ⟨rfl,hb4⟩
  clear ce x0 x1 x2
  have hb34:Below w.heap.size w w4:=W3.out.1.trans (hb4.mono W3.out.1.size)
  by_cases hML:M=L
  case neg=>
    have FN:Aside (V=32∧Below w.heap.size w w4):=⟨HV.out.1.index HD.out.1 HD.out.2.1 (by rw [HD.out.2.2.1];exact hML),hb34⟩
    have hne:decide (M=L)=false:=decide_eq_false hML
    rw [hne]
    clear HV HM HA HD W3 hb4 hb34 hne hML
    go_wp2_with fail
    go_ret
    exact ⟨by rw [FN.out.1];rfl,FN.out.2⟩
  subst hML
  rw [show decide (M=M)=true by simp]
  have hMZ:=HM.out HD.out.1
  rw [HD.out.2.1,HD.out.2.2.1,HD.out.2.2.2] at hMZ
  obtain ⟨m1,m2,m3,m4,m5⟩:=hMZ
  have hP4:=W3.out.2.2.1.keep hb4
  have x0:=hP4.cell 0
  have x1:=hP4.cell 1
  have x2:=hP4.cell 2
  have hMW:MWA M Z K=0:=z4G m2 (by have:=W3.out.2.2.2.2.2;omega)
  have hcap3:=z1r W3.out.2.2.2.1
  have hcap4:=z1r W3.out.2.2.2.2.1
  have cc:=z89 d M Z a3 M.length c3 a4 K c4 al nl cl lv nd w4 rfl (by have:=HA.out;omega) hcap3.1 hcap3.2.1 (fun x e=>⟨Nat.lt_of_lt_of_le (hcap3.2.2 x e).1 hb4.size,(hcap3.2.2 x e).2⟩) (by have:=HA.out;have:=W3.out.2.2.2.2.2;omega) ((z33 W3.out.2.2.2.1 rfl).keep hb4) hcap4.1 (fun x e=>Nat.lt_of_lt_of_le (hcap4.2.2 x e).1 hb4.size) ((z21 W3.out.2.2.2.2.1 m5).below hb4) HA.out.2.2.2.2.1 (fun x e=>Nat.lt_of_lt_of_le (HA.out.2.2.2.2.2.1 x e) hb34.size) (HA.out.2.2.2.1.below hb34) (HA.out.2.2.2.2.2.2.1.below HA.out.2.2.2.2.2.2.2.2.1 hb34) (HA.out.2.2.2.2.2.2.2.1.below hb34) (by have:=hb34.size;have:=HA.out.2.2.2.2.2.2.2.2.1;omega)
  have W4:Aside (Below w.heap.size w w4∧Has w4 b7 (z00 root).toArray 35∧HX.Tabled w4):=⟨hb34,W3.out.2.1.keep hb4,HA.out.2.2.2.2.2.2.2.1.below hb34⟩
  have HS:Aside (Z≤4611686018427387904∧HSS nl lv∧HSS K nd):=⟨m1,⟨HA.out.2.2.2.1.1,HA.out.2.2.2.1.2.2⟩,⟨W3.out.2.2.2.2.2,m5⟩⟩
  clear m1 m2 m3 m4 m5 hP4 hcap3 hcap4 W3 HA HM hb4 hb34
  have hM:(MBOX Z a3 M.length c3 a4 K c4)=#[.int .u64 (Z:Int),.slice a3 M.length c3,.slice a4 K c4]:=rfl
  rw [hM] at cc
  clear hM
  by_cases hnl:nl=M.length
  case neg=>
    have hME:MCE M Z K nl=70:=z4t hMW hnl
    have hMC:MCL d M Z K nl lv nd=(70,0,[]):=by unfold MCL;rw [hME];rfl
    rw [hMC] at cc
    have FN:Aside (V=70):=HV.out.1.count HD.out.1 HD.out.2.1 HD.out.2.2.1 hnl
    clear HV HD HS hME hMC hnl hMW
    go_wp2_with fail
    refine cc.mono ?_
    rintro e w5 ⟨a6,c6,rfl,_,hb5⟩
    clear cc x0 x1 x2
    have FB:Aside (Below w.heap.size w w5):=W4.out.1.trans (hb5.mono W4.out.1.size)
    clear hb5 W4
    go_wp2_with fail
    go_ret
    exact ⟨by rw [FN.out];rfl,FB.out⟩
  have hME:MCE M Z K nl=0:=zcr hMW hnl
  have hMC:MCL d M Z K nl lv nd=(0,PC Z,MUPS d (TPS Z) M lv nd):=by unfold MCL;rw [if_pos hME]
  have hrg:=zcD (d:=d) (L:=M) (N:=Z) HS.out.2.1 HS.out.2.2
  rw [hMC] at cc hrg
  have HR:Aside ((∀ y∈MUPS d (TPS Z) M lv nd,0≤y∧y≤255)∧nl=M.length):=⟨hrg,hnl⟩
  have HBG:Aside (∀ l,BAGA d Z (PC Z) l=(0,z17 d Z (FLD d l (PC Z)))):=z5T d Z HS.out.1
  have hZ64:Z<2 ^ 64:=by have:=HS.out.1;omega
  have HZ:Aside (Z<2 ^ 64):=hZ64
  clear hME hMC hrg hnl hMW HS hZ64
  have HF:Aside (∀ W a c,W.ownsRow w4.heap.size 35 32 (.slice a (PC Z) c) (PC Z) (z00 (MUPS d (TPS Z) M lv nd))→HX.Tabled W→Calls Tryz.prog 52 #[.int .i64 d,.int .u64 (Z:Int),.slice a (PC Z) c] W fun e w'=>e=.returned (.tuple #[.agg (z00 (z17 d Z (FLD d (MUPS d (TPS Z) M lv nd) (PC Z)))).toArray,.int .i64 0])∧Below W.heap.size W w'):=fun W a c h hT=>by
    have:=zg2 d Z HZ.out a (PC Z) c (MUPS d (TPS Z) M lv nd) W (z21 h HR.out.1) hT
    rwa [HBG.out] at this
  have HVV:Aside ((z17 d Z (FLD d (MUPS d (TPS Z) M lv nd) (PC Z))≠root→V=80)∧(z17 d Z (FLD d (MUPS d (TPS Z) M lv nd) (PC Z))=root→V=0)∧IsH root):=by
    have h1:=HV.out.1.unlike HD.out.1 HD.out.2.1 HD.out.2.2.1 HR.out.2
    have h2:=HV.out.1.ok HD.out.1 HD.out.2.1 HD.out.2.2.1 HR.out.2
    rw [HD.out.2.2.2] at h1 h2
    exact ⟨h1,h2,HV.out.2⟩
  have hYH:=z5d d Z (FLD d (MUPS d (TPS Z) M lv nd) (PC Z))
  clear HV HD HR HBG HZ
  generalize z17 d Z (FLD d (MUPS d (TPS Z) M lv nd) (PC Z))=Y at *
  generalize MUPS d (TPS Z) M lv nd=U at *
  generalize PC Z=pz at *
  go_wp2_with fail
  refine cc.mono ?_
  rintro e w5 ⟨a6,c6,rfl,o6,hb5⟩
  clear cc x0 x1 x2
  have cg:=HF.out w5 a6 c6 o6 (W4.out.2.2.below hb5)
  have W5:Aside (Below w.heap.size w w5∧Has w5 b7 (z00 root).toArray 35):=⟨W4.out.1.trans (hb5.mono W4.out.1.size),W4.out.2.1.keep hb5⟩
  clear HF o6 hb5 W4
  have y32:=hYH.1
  have r32:=HVV.out.2.2.1
  go_wp2_with fail
  refine cg.mono ?_
  rintro e w6 ⟨rfl,hb6⟩
  clear cg
  have R1:Aside (Below w.heap.size w (w6.alloc (.cells (z00 Y).toArray 35))∧Has (w6.alloc (.cells (z00 Y).toArray 35)) b7 (z00 root).toArray 35∧Has (w6.alloc (.cells (z00 Y).toArray 35)) w6.heap.size (z00 Y).toArray 35):=by
    have hb:=W5.out.1.trans (hb6.mono W5.out.1.size)
    exact ⟨hb.alloc hb.size _,(W5.out.2.keep hb6).alloc _,Has.new _ _ _⟩
  clear hb6 W5
  go_upto_region 12 with (first
    | (refine wpList_store_row rfl 35 (.tmp 16) (.tmp 50) rfl _ _ rfl rfl 35 _ (Has.new w6 _ _) (z0d y32) (by simp [z00,y32]) (z0m Y) ?_;rw [World.setRow_alloc_new])
    | fail)
  generalize w6.alloc (.cells (z00 Y).toArray 35)=W6 at *
  generalize w6.heap.size=b16 at *
  have hb:=R1.out.1
  have h7:=R1.out.2.1
  have h9:=R1.out.2.2
  have hq:=zg3 hYH HVV.out.2.2
  clear R1 hYH
  by_cases hYr:Y=root
  · have FN:Aside (V=0):=HVV.out.2.1 hYr
    rw [decide_eq_true hYr] at hq
    clear HVV hYr
    go_wp2_with (first
      | (refine z2w (by rfl) 35 (.tmp 16) rfl 32 5 b16 rfl 35 (z00 Y).toArray (0,0) h9 Tryz.underlying35 (z0d y32) ?_)
      | (refine z2w (by rfl) 35 (.tmp 7) rfl 32 5 b7 rfl 35 (z00 root).toArray (0,0) h7 Tryz.underlying35 (z0d r32) ?_)
      | fail)
    go_ret
    exact ⟨by rw [FN.out];rfl,hb⟩
  · have FN:Aside (V=80):=HVV.out.1 hYr
    rw [decide_eq_false hYr] at hq
    clear HVV hYr
    go_wp2_with (first
      | (refine z2w (by rfl) 35 (.tmp 16) rfl 32 5 b16 rfl 35 (z00 Y).toArray (0,0) h9 Tryz.underlying35 (z0d y32) ?_)
      | (refine z2w (by rfl) 35 (.tmp 7) rfl 32 5 b7 rfl 35 (z00 root).toArray (0,0) h7 Tryz.underlying35 (z0d r32) ?_)
      | fail)
    go_ret
    exact ⟨by rw [FN.out];rfl,hb⟩
end Go.Proofs.YtjkjlblongeljaaGreatDoor

namespace Go.Proofs.YtjkjlblongeljaaGreatDoor
set_option maxRecDepth 100000
theorem z8e {n:Nat} (hn:n≤4611686018427387904):∀ (L:List Nat) (k:Nat) (l:List Int),L.Pairwise (·<·)→(∀ x∈L,k≤x∧x<n)→IDX n L.length k (DIFS k L ++ l)=(0,L,l)
  | [],_,_,_,_=>rfl
  | x :: L,k,l,hp,hx=>by
    have h1:=hx x (List.mem_cons_self ..)
    have hL:=z4s (X:=x - k) (by omega) (DIFS (x+1) L ++ l)
    rw [DIFS,List.append_assoc,List.length_cons,z5o hL (by omega),List.drop_left' (z0n _),show k+(x - k)+1=x+1 by omega,show k+(x - k)=x by omega,z8e hn L (x+1) l (List.pairwise_cons.1 hp).2 (fun y hy=>⟨(List.pairwise_cons.1 hp).1 y hy,(hx y (List.mem_cons_of_mem _ hy)).2⟩)]
theorem zeg {L:List Nat} {N K:Nat} {l:List Int} (h:MWA L N K=0) (hl:l.length=32*K) (hL:L.length<2 ^ 64):MDC (MWRT L N l)=(0,N,L,l):=by
  obtain ⟨h1,h2⟩:=z5G h
  obtain ⟨r1,r2,r3⟩:=z1q h1
  have e:MDC (MWRT L N l)=MD1 (z0k N ++ (z0k L.length ++ (DIFS 0 L ++ l))):=by
    unfold MWRT
    rw [List.append_assoc,List.append_assoc]
    rfl
  have e2:IDXS N (z0k L.length ++ (DIFS 0 L ++ l))=(0,L,l):=by
    unfold IDXS
    rw [z4s hL]
    simp only [ne_eq,not_true_eq_false,if_false,Int.toNat_natCast]
    rw [List.drop_left' (z0n _)]
    exact z8e r1 L 0 l (za3 r2) (fun x hx=>⟨Nat.zero_le _,r3 x hx⟩)
  rw [e,zcx (z4s (by omega) _) r1,List.drop_left' (z0n _),e2]
  unfold MD3
  rw [if_neg (by simp)]
  show (if l.length<32*(z08 (TPS N) L).length then MERR 11 else if 32*(z08 (TPS N) L).length<l.length then MERR 13 else (0,N,L,l))=(0,N,L,l)
  rw [← h2,if_neg (by omega),if_neg (by omega)]
end Go.Proofs.YtjkjlblongeljaaGreatDoor

namespace Go.Proofs.YtjkjlblongeljaaGreatDoor
open Go.RowKit
set_option maxRecDepth 100000
end Go.Proofs.YtjkjlblongeljaaGreatDoor

namespace Go.Proofs.YtjkjlblongeljaaGreatDoor
open Go.RowKit
set_option maxRecDepth 100000
end Go.Proofs.YtjkjlblongeljaaGreatDoor

namespace Go.Proofs.YtjkjlblongeljaaGreatDoor
open Go.RowKit
set_option maxRecDepth 100000
def DECD (w:World) (D:DANS) (e:Ending) (w':World):Prop:=
  ∃ v,e=.returned (.tuple #[v,.int .i64 D.1])∧Below w.heap.size w w'∧((D.1≠0∧v=.agg #[.int .u64 0,.int .u64 0,.slice none 0 0])∨(D.1=0∧D.2.1<2 ^ 64∧D.2.2.1<2 ^ 64∧D.2.2.2.2.length=32*D.2.2.2.1∧(∀ x∈D.2.2.2.2,0≤x∧x≤255)∧∃ g,v=.agg #[.int .u64 (D.2.1:Int),.int .u64 (D.2.2.1:Int),.slice (some ⟨g,0,none⟩) D.2.2.2.1 D.2.2.2.1]∧w.heap.size≤g∧Has w' g (z00 D.2.2.2.2).toArray 35))
end Go.Proofs.YtjkjlblongeljaaGreatDoor

namespace Go.Proofs.YtjkjlblongeljaaGreatDoor
open Go.RowKit
set_option maxRecDepth 100000
theorem zfj (PF:Nat→Nat→Int × List Nat) (X Y:Nat) (t:List Int):DC3 PF X Y t=DERR (DC3 PF X Y t).1∨(DC3 PF X Y t).1=0:=by
  unfold DC3
  split
  · exact .inl rfl
  · split
    · exact .inl rfl
    · split
      · exact .inl rfl
      · exact .inr rfl
theorem zfk (PF:Nat→Nat→Int × List Nat) (X:Nat) (t:List Int):DC2 PF X t=DERR (DC2 PF X t).1∨(DC2 PF X t).1=0:=by
  unfold DC2
  split
  · exact .inl rfl
  · exact zfj _ _ _ _
theorem zfl (chk:Nat→Bool) (PF:Nat→Nat→Int × List Nat) (t:List Int):DC1 chk PF t=DERR (DC1 chk PF t).1∨(DC1 chk PF t).1=0:=by
  unfold DC1
  split
  · exact .inl rfl
  · split
    · exact .inl rfl
    · exact zfk _ _ _
theorem zfm {K:Int} {chk:Nat→Bool} {PF:Nat→Nat→Int × List Nat} {l:List Int} (h:(DC0 K chk PF l).1≠0):DC0 K chk PF l=DERR (DC0 K chk PF l).1:=by
  have:DC0 K chk PF l=DERR (DC0 K chk PF l).1∨(DC0 K chk PF l).1=0:=by
    unfold DC0
    split
    · exact .inl rfl
    · split
      · exact .inl rfl
      · exact zfl _ _ _
  rcases this with h1 | h1
  · exact h1
  · exact absurd h1 h
theorem zbb {w:World} {B g N:Nat} {l:List Int} (h:Has w g (z00 l).toArray 35) (hl:l.length=32*N) (hB:B≤g) (hN:N≤1000):w.ownsRow B 35 32 (.slice (some ⟨g,0,none⟩) N N) N (z00 l):=by
  refine ⟨by rw [z00,List.length_map,hl,Nat.mul_comm],.inr ⟨g,N,_,rfl,hB,h,Nat.le_refl _,by simp [maxLen];omega,?_,?_⟩⟩
  · simp [z00,hl,Nat.mul_comm]
  · rw [List.take_of_length_le (by simp [z00,hl];omega)]
def DECO (w:World) (D:DANS) (e:Ending) (w':World):Prop:=
  ∃ a c,e=.returned (.tuple #[.agg #[.int .u64 (D.2.1:Int),.int .u64 (D.2.2.1:Int),.slice a D.2.2.2.1 c],.int .i64 D.1])∧w'.ownsRow w.heap.size 35 32 (.slice a D.2.2.2.1 c) D.2.2.2.1 (z00 D.2.2.2.2)∧(∀ x∈D.2.2.2.2,0≤x∧x≤255)∧Below w.heap.size w w'
theorem DECD.own {w w':World} {K:Int} {chk:Nat→Bool} {PF:Nat→Nat→Int × List Nat} {l:List Int} {e:Ending} (h:DECD w (DC0 K chk PF l) e w') (hf:(DC0 K chk PF l).1=0→(DC0 K chk PF l).2.2.2.1≤1000):DECO w (DC0 K chk PF l) e w':=by
  obtain ⟨v,rfl,hb,h⟩:=h
  rcases h with ⟨hE,rfl⟩ | ⟨hE,h1,h2,h3,h4,g,rfl,hg,hh⟩
  · have hD:=zfm hE
    rw [hD]
    refine ⟨none,0,rfl,World.ownsRow_nil _ _ _ _,by simp [DERR],hb⟩
  · exact ⟨_,_,rfl,zbb hh h3 hg (hf hE),h4,hb⟩
structure FAM (M:Nat) (t:TypeId) (s:Nat) (w:World) (B:Nat) (K:Nat→Prop) (v:Nat→Value) (n:Nat→Nat) (xs:Nat→List Value):Prop where
  row:∀ x,x<M→w.ownsRow B t s (v x) (n x) (xs x)
  apart:∀ x y,x<M→y<M→x≠y→∀ g,(v x).ownBlock=some g→(v y).ownBlock≠some g
  off:∀ x,x<M→∀ g,(v x).ownBlock=some g→¬ K g
theorem FAM.below {M:Nat} {t:TypeId} {s:Nat} {w w':World} {B:Nat} {K:Nat→Prop} {v:Nat→Value} {n:Nat→Nat} {xs:Nat→List Value} (h:FAM M t s w B K v n xs) (hb:Below w.heap.size w w'):FAM M t s w' B K v n xs:=⟨fun x hx=>z0P (h.row x hx) hb,h.apart,h.off⟩
theorem FAM.heap {M:Nat} {t:TypeId} {s:Nat} {w w':World} {B:Nat} {K:Nat→Prop} {v:Nat→Value} {n:Nat→Nat} {xs:Nat→List Value} (h:FAM M t s w B K v n xs) (hk:∀ k,k<w.heap.size→¬ K k→w'.heap[k]?=w.heap[k]?):FAM M t s w' B K v n xs:=⟨fun x hx=>z3P (h.row x hx) fun k e=>hk k ((h.row x hx).lt k e).2 (h.off x hx k e),h.apart,h.off⟩
theorem FAM.turn {M:Nat} {t:TypeId} {s:Nat} {w w':World} {B:Nat} {K:Nat→Prop} {v:Nat→Value} {n:Nat→Nat} {xs:Nat→List Value} (h:FAM M t s w B K v n xs) {x g m c:Nat} {ys:List Value} (hx:x<M) (hK:∀ k,K k→k<w.heap.size)
    (hown:w'.ownsRow B t s (.slice (some ⟨g,0,none⟩) m c) m ys) (hg:w.grownBy w' (v x).ownBlock) (hat:(v x).ownBlock=some g∨w.heap.size≤g):FAM M t s w' B K (UPD v x (.slice (some ⟨g,0,none⟩) m c)) (UPD n x m) (UPD xs x ys)∧∀ k,K k→w'.heap[k]?=w.heap[k]?:=by
  have hgx:∀ y,y<M→y≠x→(v y).ownBlock≠some g:=fun y hy hne e=>by
    rcases hat with h1 | h1
    · exact h.apart x y hx hy (fun e=>hne e.symm) g h1 e
    · have:=((h.row y hy).lt g e).2
      omega
  refine ⟨⟨fun y hy=>?_,fun y z hy hz hne k e=>?_,fun y hy k e hk=>?_⟩,fun k hk=>hg.block k (hK k hk) fun e=>h.off x hx k e.symm hk⟩
  · by_cases e:y=x
    · subst e
      rw [z2Y,z2Y,z2Y]
      exact hown
    · rw [z1m _ _ e,z1m _ _ e,z1m _ _ e]
      exact z3P (h.row y hy) fun k hk=>hg.block k ((h.row y hy).lt k hk).2 fun e2=>h.apart x y hx hy (fun e3=>e e3.symm) k e2.symm hk
  · by_cases e1:y=x
    · subst e1
      rw [z2Y] at e
      have e:g=k:=by simpa [Value.ownBlock] using e
      subst e
      rw [z1m _ _ (fun e2=>hne e2.symm)]
      exact hgx z hz fun e2=>hne e2.symm
    · rw [z1m _ _ e1] at e
      by_cases e2:z=x
      · subst e2
        rw [z2Y]
        intro e3
        have e3:g=k:=by simpa [Value.ownBlock] using e3
        subst e3
        exact hgx y hy e1 e
      · rw [z1m _ _ e2]
        exact h.apart y z hy hz hne k e
  · by_cases e1:y=x
    · subst e1
      rw [z2Y] at e
      have e:g=k:=by simpa [Value.ownBlock] using e
      subst e
      rcases hat with h1 | h1
      · exact h.off y hy g h1 hk
      · have:=hK g hk
        omega
    · rw [z1m _ _ e1] at e
      exact h.off y hy k e hk
end Go.Proofs.YtjkjlblongeljaaGreatDoor

namespace Go.Proofs.YtjkjlblongeljaaGreatDoor
open Go.RowKit
set_option maxRecDepth 100000
end Go.Proofs.YtjkjlblongeljaaGreatDoor

namespace Go.Proofs.YtjkjlblongeljaaGreatDoor
open Go.RowKit
set_option maxRecDepth 100000
end Go.Proofs.YtjkjlblongeljaaGreatDoor

namespace Go.Proofs.YtjkjlblongeljaaGreatDoor
open Go.RowKit
end Go.Proofs.YtjkjlblongeljaaGreatDoor

namespace Go.Proofs.YtjkjlblongeljaaGreatDoor
open Go.RowKit
set_option maxRecDepth 100000
end Go.Proofs.YtjkjlblongeljaaGreatDoor

namespace Go.Proofs.YtjkjlblongeljaaGreatDoor
open Go.RowKit
set_option maxRecDepth 100000
end Go.Proofs.YtjkjlblongeljaaGreatDoor
