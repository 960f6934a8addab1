/- Texts of ClashBlocks, one behind the other: ProofPlaces, ProofBytes, ProofEncode, CutRefSpan, ProofRefPlaces, ProofLists, RegionSteps, ProofCells, VerifyMap. -/
import Derived.Deep.MidRow
import Derived.Test.YtbmjoiiagldklaaDoorProg
import Derived.WalkKit
import Derived.WalkLawsBesides
import Derived.Deep.RegionHeld3
import Derived.Deep.CutRange
import Derived.Great.BuildSlice
import Derived.ChangeKeysEq
import Derived.Test.YtbmjoiiagldklaaDoorClashBlocksP4
import Derived.Test.YtbmjoiiagldklaaDoorClashBlocksP5
namespace Go.Proofs.YtbmjoiiagldklaaDoor
open Go.RowKit
theorem zaa (i n:Int) (hn:4611686018427387904<n) (w:World):Calls Tryd.prog 60 #[.int .u64 i,.int .u64 n] w fun e w'=>e=.returned (.tuple #[.slice none 0 0,.int .i64 30])∧w=w':=by
  go_enter Tryd.func60,Tryd.ntmps60
  go_wp2
  go_ret2
  exact ⟨rfl,rfl⟩
theorem z90 (i n:Int) (hn:¬ 4611686018427387904<n) (hi:¬ i<n) (w:World):Calls Tryd.prog 60 #[.int .u64 i,.int .u64 n] w fun e w'=>e=.returned (.tuple #[.slice none 0 0,.int .i64 32])∧w=w':=by
  have c:=zeK i n (by omega)
  clear hi
  go_enter Tryd.func60,Tryd.ntmps60
  go_wp2_with fail
  refine (c _).mono ?_
  rintro e w' ⟨rfl,rfl⟩
  clear c
  go_wp2
  go_ret2
  exact ⟨rfl,rfl⟩
theorem zdg {w:World} {v:Value} {g gp:Nat} (hne:v.ownBlock≠some gp) (hgp:gp<w.heap.size) (hat:v.ownBlock=some g∨g=w.heap.size):some g≠some gp:=by
  intro e
  have e:g=gp:=by simpa using e
  subst e
  rcases hat with h | h
  · exact hne h
  · omega
def z0K (A P:List Nat) (K j:Nat):List Nat:=A ++ (P.take j).eraseIdx K
theorem zbM (A P:List Nat) (K:Nat):z0K A P K 0=A:=by simp [z0K]
theorem zdh (A P:List Nat) (K:Nat):z0K A P K P.length=A ++ P.eraseIdx K:=by simp [z0K]
theorem z80 {P:List Nat} {j:Nat} (hj:j<P.length):P.take (j+1)=P.take j ++ [P.getD j 0]:=by
  rw [List.take_add_one,List.getD,List.getElem?_eq_getElem hj]
  rfl
theorem zbN (A P:List Nat) (K:Nat) (hK:K<P.length):z0K A P K (K+1)=z0K A P K K:=by
  unfold z0K
  rw [z80 hK,z6H,if_pos (by rw [List.length_take];omega)]
theorem zbO (A P:List Nat) (K j:Nat) (hj:j<P.length) (hK:j≠K):z0K A P K (j+1)=z0K A P K j ++ [P.getD j 0]:=by
  unfold z0K
  rw [z80 hj,z6H,if_neg (by rw [List.length_take];omega),List.append_assoc]
theorem z91 (A P:List Nat) (K j:Nat):(z0K A P K j).length≤A.length+P.length:=by
  unfold z0K
  rw [List.length_append]
  have h1:=List.length_eraseIdx_le (P.take j) K
  have h2:=List.length_take_le' j P
  omega
set_option maxHeartbeats 1000000 in
theorem zdi (i n:Nat) (hi:i<n) (hn:n≤4611686018427387904) (w:World) (hT:Tabled w) (h0:0<w.heap.size):Calls Tryd.prog 60 #[.int .u64 (i:Int),.int .u64 (n:Int)] w fun e w'=>
    ∃ v,e=.returned (.tuple #[v,.int .i64 0])∧w'.ownsRow w.heap.size 22 1 v (PLCS (PSP i n)).length (z0j (PLCS (PSP i n)))∧Below w.heap.size w w':=by
  have c1:=z7o i n hi hn w
  have c2:=zfS i n hi hn
  have hd:¬ (4611686018427387904:Int)<(n:Int):=by omega
  have C3:Aside (∀ W,Below w.heap.size w W→Calls Tryd.prog 84 #[.int .u64 (n:Int)] W fun e w'=>∃ g cap,e=.returned (.slice (some ⟨g,0,none⟩) (PC n) cap)∧w'.ownsRow W.heap.size 22 1 (.slice (some ⟨g,0,none⟩) (PC n) cap) (PC n) (z0j (z1Q n))∧Below W.heap.size W w'):=
    fun W h=>z8U n hn W (hT.below h0 h) (Nat.lt_of_lt_of_le h0 h.size)
  have hP:=z2P (n:=n) (by omega)
  have hP6:=z21 64 n (by omega)
  have hR6:=(z0Y hi hn).2.1
  have hKl:=z8R hi hn
  rw [zbJ hn]
  have hWl:=zbF i (RISE i n)
  generalize WAY i (RISE i n)=A at *
  generalize z1Q n=PK at *
  generalize RISE i n=R at *
  generalize KTH i n=K at *
  generalize PC n=P at *
  obtain ⟨X,hX⟩:∃ X,A ++ PK.eraseIdx K=X:=⟨_,rfl⟩
  rw [hX]
  obtain ⟨N,hN⟩:∃ N,X.length=N:=⟨_,rfl⟩
  rw [hN]
  have HA:Aside (PK.length=P∧P≤64∧R≤62∧K<P∧A.length=R):=⟨hP,hP6,hR6,hKl,hWl⟩
  have HX:Aside (z0K A PK K P=X∧X.length=N):=⟨by rw [← hX,← hP];exact zdh _ _ _,hN⟩
  clear hX hN
  clear hP hP6 hR6 hKl hWl hT h0 hi hn
  go_enter Tryd.func60,Tryd.ntmps60
  go_wp2_with fail
  refine c1.mono ?_
  rintro e w1 ⟨g,cap,rfl,hown,hg,hb⟩
  clear c1
  have R1:Aside (w1.ownsRow w.heap.size 22 1 (.slice (some ⟨g,0,none⟩) R cap) R (z0j A)∧Below w.heap.size w w1∧g<w1.heap.size):=⟨hown,hb,hg⟩
  clear hown hg hb
  go_wp2_with fail
  refine (c2 _).mono ?_
  rintro e w' ⟨rfl,rfl⟩
  clear c2
  go_wp2_with fail
  refine (C3.out _ R1.out.2.1).mono ?_
  rintro e w2 ⟨gp,capp,rfl,hrow,hb2⟩
  have R2:Aside (w2.ownsRow w.heap.size 22 1 (.slice (some ⟨g,0,none⟩) R cap) (z0K A PK K 0).length (z0j (z0K A PK K 0))∧Below w.heap.size w w2∧some g≠some gp∧w2.ownsRow w1.heap.size 22 1 (.slice (some ⟨gp,0,none⟩) P capp) P (z0j PK)):=by
    obtain ⟨a1,a2,a3⟩:=R1.out
    have hgp:=hrow.lt gp rfl
    refine ⟨?_,a2.trans (hb2.mono a2.size),fun e=>?_,hrow⟩
    · rw [zbM,HA.out.2.2.2.2]
      exact z33 a1 hb2
    · have e:g=gp:=by simpa using e
      omega
  clear R1 hrow hb2 C3
  go_wp2
  go_loopg [6,31] P (fun q s6 s31 wx=>∃ j:Nat,s31=.int .i64 (j:Int)∧Aside (j+q=P∧wx.ownsRow w.heap.size 22 1 s6 (z0K A PK K j).length (z0j (z0K A PK K j))∧Below w.heap.size w wx∧s6.ownBlock≠some gp∧wx.ownsRow w1.heap.size 22 1 (.slice (some ⟨gp,0,none⟩) P capp) P (z0j PK)))
  case atStart=>exact ⟨0,rfl,by omega,R2.out.1,R2.out.2.1,R2.out.2.2.1,R2.out.2.2.2⟩
  case round=>
    obtain ⟨j,rfl,A1⟩:=hrel
    clear R2
    cases gk with
    | zero=>
      obtain ⟨hj,hown,hbel,hne,hrow⟩:=A1.out
      obtain rfl:j=P:=by omega
      have hlt:¬ (j:Int)<(j:Int):=by omega
      have R:Aside (wr.ownsRow w.heap.size 22 1 u6 N (z0j X)∧Below w.heap.size w wr):=by
        rw [HX.out.1,HX.out.2] at hown
        exact ⟨hown,hbel⟩
      clear hj hown hbel hne hrow A1 HA
      go_wp2
      go_ret2
      exact ⟨_,rfl,R.out.1,R.out.2⟩
    | succ q=>
      obtain ⟨hj,hown,hbel,hne,hrow⟩:=A1.out
      obtain ⟨a1,a2,a3,a4,a5⟩:=HA.out
      have hlt:(j:Int)<(P:Int):=by omega
      have hc:wr.cell? ⟨gp,j,none⟩=some (.int .u64 ((PK.getD j 0:Nat):Int)):=by
        have hrow':=hrow
        rw [← a1] at hrow'
        exact zix hrow' j (by omega)
      have e1:wrap64 ((j:Int)+1)=((j+1:Nat):Int):=by unfold wrap64;omega
      by_cases hk:j=K
      · subst hk
        have R:Aside (j+1+q=P∧wr.ownsRow w.heap.size 22 1 u6 (z0K A PK j (j+1)).length (z0j (z0K A PK j (j+1)))∧Below w.heap.size w wr∧u6.ownBlock≠some gp∧wr.ownsRow w1.heap.size 22 1 (.slice (some ⟨gp,0,none⟩) P capp) P (z0j PK)):=⟨by omega,by rw [zbN _ _ _ (by omega)];exact hown,hbel,hne,hrow⟩
        clear hj hown hbel hne hrow a1 a2 a3 a4 a5 A1
        generalize PK.getD j 0=y at hc
        go_wp2
        go_roundg q
        case measure=>omega
        case rel=>exact ⟨j+1,by first | rfl | (rw [e1]),R.out⟩
      · have hk':((j:Int) != (K:Int))=true:=by simp;omega
        have hnx:=zbO A PK K j (by omega) hk
        have hll:=z91 A PK K j
        generalize PK.getD j 0=y at *
        have R:Aside (j+1+q=P∧wr.ownsRow w.heap.size 22 1 u6 (z0K A PK K j).length (z0j (z0K A PK K j))∧Below w.heap.size w wr∧u6.ownBlock≠some gp∧wr.ownsRow w1.heap.size 22 1 (.slice (some ⟨gp,0,none⟩) P capp) P (z0j PK)∧z0K A PK K (j+1)=z0K A PK K j ++ [y]∧(z0K A PK K j).length≤1000):=⟨by omega,hown,hbel,hne,hrow,hnx,by omega⟩
        clear hj hown hbel hne hrow a1 a2 a3 a4 a5 A1 hnx hll
        go_wp2_with (at_builtin;refine zeT _ rfl (.tmp 39) (.tmp 41) rfl w.heap.size u6 _ (z0j (z0K A PK K j)) rfl (R.out.2.1.alloc _) wr.heap.size 1 (y:Int) rfl (by rw [World.cell?_alloc_at _ _ _ _ rfl];rfl) R.out.2.2.2.2.2.2 (by have:=R.out.2.2.1.size;simp;omega) ?_;intro g' cap' w3 hown hgrow hat hg)
        have R3:Aside (j+1+q=P∧w3.ownsRow w.heap.size 22 1 (.slice (some ⟨g',0,none⟩) ((z0K A PK K j).length+1) cap') (z0K A PK K (j+1)).length (z0j (z0K A PK K (j+1)))∧Below w.heap.size w w3∧some g'≠some gp∧w3.ownsRow w1.heap.size 22 1 (.slice (some ⟨gp,0,none⟩) P capp) P (z0j PK)):=by
          obtain ⟨r1,r2,r3,r4,r5,r6,r7⟩:=R.out
          have hgp:=r5.lt gp rfl
          refine ⟨r1,?_,(r3.alloc r3.size _).grown hgrow (by have:=r3.size;simp;omega) (fun k e=>(r2.lt k e).1),zdg r4 (by simp;omega) hat,(r5.alloc _).kept hgrow (.inr fun e=>r4 e.symm)⟩
          rw [r6,z3g,List.length_append]
          exact hown
        clear R hown hgrow hat hg hc
        go_wp2
        go_roundg q
        case measure=>omega
        case rel=>exact ⟨j+1,by first | rfl | (rw [e1]),R3.out⟩
end Go.Proofs.YtbmjoiiagldklaaDoor

namespace Go.Proofs.YtbmjoiiagldklaaDoor
open Go.RowKit
set_option maxRecDepth 100000
def Flat (w:World) (a:Option Addr) (n:Nat) (l:List Int):Prop:=
  l.length=32*n∧(0<n→∃ b o,a=some ⟨b,o,none⟩∧b<w.heap.size∧∀ j,j<32*n→w.cell? ⟨b,o+j,none⟩=some (.int .u8 (l.getD j 0)))∧∀ x∈l,0≤x∧x≤255
theorem Flat.below {w w':World} {a:Option Addr} {n:Nat} {l:List Int} (h:Flat w a n l) (hb:Below w.heap.size w w'):Flat w' a n l:=
  ⟨h.1,fun hn=>by
    obtain ⟨b,o,e,hl,hc⟩:=h.2.1 hn
    exact ⟨b,o,e,Nat.lt_of_lt_of_le hl hb.size,fun i hi=>(hb.cell (by exact hl)).trans (hc i hi)⟩,h.2.2⟩
def HSH (l:List Int) (i:Nat):List Int:=(l.drop (32*i)).take 32
theorem z13 {l:List Int} {n i:Nat} (hl:l.length=32*n) (hi:i<n):(HSH l i).length=32:=by
  unfold HSH
  rw [List.length_take,List.length_drop]
  omega
theorem zdj {l:List Int} {i j:Nat} (hj:j<32):(HSH l i).getD j 0=l.getD (32*i+j) 0:=by
  unfold HSH
  rw [List.getD_eq_getElem?_getD,List.getElem?_take,if_pos hj,List.getElem?_drop,List.getD_eq_getElem?_getD]
theorem zfX {l:List Int} {i:Nat} {x:Int} (h:x∈HSH l i):x∈l:=List.mem_of_mem_drop (List.mem_of_mem_take h)
theorem z6h (l:List Int) (i:Nat):l.take (32*(i+1))=l.take (32*i) ++ HSH l i:=by
  unfold HSH
  rw [show 32*(i+1)=32*i+32 by omega,List.take_add]
theorem z5V:(Tryd.prog.info? 26).map (·.size)=some 32:=by kernel_rfl
theorem z0a {h:List Int} (hl:h.length=32):(Tryd.prog.info? 26).map (·.size)=some (z00 h).length:=by
  rw [z5V,show (z00 h).length=32 by simp [z00,hl]]
theorem z08 {h:List Int} (hl:h.length=32):(Tryd.prog.info? 26).map (·.size)=some (z00 h).toArray.size:=by
  rw [z5V,show (z00 h).toArray.size=32 by simp [z00,hl]]
theorem z0G (h:List Int):(z00 h).toArray.all (·.oneCell')=true:=by
  rw [Array.all_eq_true_iff_forall_mem]
  intro v hv
  exact z1D h v (by simpa using hv)
theorem Flat.at {w:World} {b o n:Nat} {l:List Int} {i:Nat} (h:Flat w (some ⟨b,o,none⟩) n l) (hi:i<n):w.rangeAt b (o+i*32) (z00 (HSH l i)):=by
  intro j v hv
  obtain ⟨b',o',e,_,hc⟩:=h.2.1 (by omega)
  simp only [Option.some.injEq,Addr.mk.injEq] at e
  obtain ⟨rfl,rfl,_⟩:=e
  have hj:j<32:=by
    have:=(List.getElem?_eq_some_iff.1 hv).1
    rw [show (z00 (HSH l i)).length=32 by simp [z00,z13 h.1 hi]] at this
    exact this
  rw [z0Q _ _ (by rw [z13 h.1 hi];exact hj),zdj hj] at hv
  rw [show o+i*32+j=o+(32*i+j) by omega,hc _ (by omega)]
  exact hv
end Go.Proofs.YtbmjoiiagldklaaDoor

namespace Go.Proofs.YtbmjoiiagldklaaDoor
open Go.RowKit
set_option maxRecDepth 100000
def PLA (i n:Nat):Int × List Nat:=if 4611686018427387904<n then (30,[]) else if n≤i then (32,[]) else (0,PLCS (PSP i n))
def PPA (m n:Nat):Int × List Nat:=if 4611686018427387904<n∨n<m then (30,[]) else (0,PLCS (PXS m n))
theorem zaV (i n:Nat):(PLA i n).2.length≤188:=by
  unfold PLA
  split
  · simp
  · split
    · simp
    · have:=zaT (i:=i) (n:=n) (by omega) (by omega)
      simp only [z1x]
      omega
theorem zaW (w:World):w.ownsRow w.heap.size 22 1 (.slice none 0 0) ([]:List Nat).length (z0j []):=World.ownsRow_nil _ _ _ _
theorem z6I (i n:Nat) (w:World) (hT:Tabled w) (h0:0<w.heap.size):Calls Tryd.prog 60 #[.int .u64 (i:Int),.int .u64 (n:Int)] w fun e w'=>
    ∃ v,e=.returned (.tuple #[v,.int .i64 (PLA i n).1])∧w'.ownsRow w.heap.size 22 1 v (PLA i n).2.length (z0j (PLA i n).2)∧Below w.heap.size w w':=by
  unfold PLA
  split
  · refine (zaa _ _ (by omega) w).mono ?_
    rintro e w' ⟨rfl,rfl⟩
    exact ⟨_,rfl,zaW w,Below.refl _ _⟩
  · split
    · refine (z90 _ _ (by omega) (by omega) w).mono ?_
      rintro e w' ⟨rfl,rfl⟩
      exact ⟨_,rfl,zaW w,Below.refl _ _⟩
    · exact zdi i n (by omega) (by omega) w hT h0
def ENCB (k E:Int) (P n X Y:Nat) (l:List Int):Int × List Int:=if E≠0 then (E,[]) else if n≠P then (70,[]) else (0,k :: (z0J X ++ z0J Y ++ l))
def ENC (S I n:Nat) (l:List Int):Int × List Int:=ENCB 77 (PLA I S).1 (PLA I S).2.length n S I l
end Go.Proofs.YtbmjoiiagldklaaDoor

namespace Go.Proofs.YtbmjoiiagldklaaDoor
open Go.RowKit
end Go.Proofs.YtbmjoiiagldklaaDoor

namespace Go.Proofs.YtbmjoiiagldklaaDoor
open Go.RowKit
set_option maxRecDepth 100000
end Go.Proofs.YtbmjoiiagldklaaDoor

namespace Go.Proofs.YtbmjoiiagldklaaDoor
open Go.RowKit
set_option maxRecDepth 100000
theorem zbP {w w':World} {r:Option Nat} (h:w.grownBy w' r):w.heap.size≤w'.heap.size:=by
  obtain ⟨_,_,_,hs,_⟩:=h
  exact hs
theorem z4P {w:World} {B n g m c:Nat} {xs:List Value} (h:w.ownsRow B 22 1 (.slice (some ⟨g,0,none⟩) m c) n xs):m=n:=by
  rcases h.2 with ⟨e,_⟩ | ⟨_,_,_,e,_⟩
  · simp at e
  · simp at e
    omega
end Go.Proofs.YtbmjoiiagldklaaDoor

namespace Go.Proofs.YtbmjoiiagldklaaDoor
open Go.RowKit
set_option maxRecDepth 100000
theorem z0b {ops:Array Oper} {o:Oper} {a:Act} {w w':World} {K:Act→World→Prop} {Q:Exit→Act→World→Prop} {E:Prop} {v:Value} (hg:o.guard=none)
    (hrun:(execOp a.eval o).run Tryd.prog w=.ok (.value v) w') (h:K (a.put o.dst v) w'):if Region.wanted o (yielded ops a.tmps)=true then Oper.wp Tryd.prog o a w K Q else E:=by
  have hw:Region.wanted o (yielded ops a.tmps)=true:=by simp [Region.wanted,hg]
  rw [if_pos hw]
  unfold Oper.wp
  rw [hrun]
  exact h
theorem z0M {ops:Array Oper} {o:Oper} {a:Act} {w w':World} {K:Act→World→Prop} {Q:Exit→Act→World→Prop} {E:Prop} (hg:o.guard=none)
    (hrun:(execOp a.eval o).run Tryd.prog w=.ok .skip w') (h:K (a.put o.dst undef) w'):if Region.wanted o (yielded ops a.tmps)=true then Oper.wp Tryd.prog o a w K Q else E:=by
  have hw:Region.wanted o (yielded ops a.tmps)=true:=by simp [Region.wanted,hg]
  rw [if_pos hw]
  unfold Oper.wp
  rw [hrun]
  exact h
theorem z19 {s:Sem Unit} {w w':World} (h:s.run Tryd.prog w=.ok () w'):(do s;pure Next.skip:Sem Next).run Tryd.prog w=.ok .skip w':=by
  simp [h]
theorem z2J {ops:Array Oper} {Q:Exit→Act→World→Prop} {md:Region.Mode} {S:World→Prop} {fuel:Nat} {listed:Array Bool} {a:Act} {w:World} {o:Oper} (i:Nat) (hr:Region.ready md ops listed=[i]) (ho:ops[i]?=some o)
    (h:∀ K':Act→World→Prop,Shut (∀ a w,S w→(S w→wpAnyH Tryd.prog md ops Q S fuel (listed.setIfInBounds i true) a w)→K' a w)→if Region.wanted o (yielded ops a.tmps)=true then Oper.wp Tryd.prog o a w K' Q else K' (a.put o.dst undef) w):wpAnyH Tryd.prog md ops Q S (fuel+1) listed a w:=
  wpAnyH_ready hr (by simp) (AllReadyH.cons ho h AllReadyH.nil)
theorem z07 {s:Sem Value} {w w':World} {v:Value} (h:s.run Tryd.prog w=.ok v w'):(do pure (Next.value (← s)):Sem Next).run Tryd.prog w=.ok (.value v) w':=by
  simp [h,Result.andThen]
end Go.Proofs.YtbmjoiiagldklaaDoor

namespace Go.Proofs.YtbmjoiiagldklaaDoor
open Go.RowKit
set_option maxRecDepth 100000
theorem z92 {w w':World} {B:Nat} {t:TypeId} {s:Nat} {v:Value} {n:Nat} {xs:List Value} (h:w.ownsRow B t s v n xs) (hk:∀ k,v.ownBlock=some k→w'.heap[k]?=w.heap[k]?):w'.ownsRow B t s v n xs:=by
  refine ⟨h.1,?_⟩
  rcases h.2 with h | ⟨g,cap,cur,rfl,hb,hg,r⟩
  · exact .inl h
  · exact .inr ⟨g,cap,cur,rfl,hb,by rw [hk g rfl];exact hg,r⟩
def ZND:List Int:=List.replicate 32 0
abbrev ZARR:Array Value:=#[.int .u8 0,.int .u8 0,.int .u8 0,.int .u8 0,.int .u8 0,.int .u8 0,.int .u8 0,.int .u8 0,.int .u8 0,.int .u8 0,.int .u8 0,.int .u8 0,.int .u8 0,.int .u8 0,.int .u8 0,.int .u8 0,.int .u8 0,.int .u8 0,.int .u8 0,.int .u8 0,.int .u8 0,.int .u8 0,.int .u8 0,.int .u8 0,.int .u8 0,.int .u8 0,.int .u8 0,.int .u8 0,.int .u8 0,.int .u8 0,.int .u8 0,.int .u8 0]
theorem z3u:(z00 ZND).toArray=ZARR:=rfl
theorem z6J:(Tryd.prog.info? 26).map (fun i=>(i.zero,i.size,i.bytes))=some (some (.agg ZARR),32,32):=by kernel_rfl
theorem zeU {ops:Array Oper} {rest:List Oper} {o:Oper} {a:Act} {Q:Exit→Act→World→Prop} (w:World) (hgd:o.guard=none) (s x:Operand)
    (ho:o.op=.call {callee:=.builtin .append,args:=#[s,x],argTypes:=#[23,23]})
    (base:Nat) (v:Value) (n:Nat) (xs:List Value) (hs:a.eval s=v) (hown:w.ownsRow base 26 32 v n xs)
    (b c:Nat) (y:List Int) (hl:y.length=32) (hx:a.eval x=.slice (some ⟨b,0,none⟩) 1 c) (hc:Has w b (z00 y).toArray 26)
    (hb:n≤1000) (hbase:base≤w.heap.size)
    (h:∀ g cap w',w'.ownsRow base 26 32 (.slice (some ⟨g,0,none⟩) (n+1) cap) (n+1) (xs ++ z00 y)→w.grownBy w' v.ownBlock→(v.ownBlock=some g∨g=w.heap.size)→g<w'.heap.size→wpList Tryd.prog ops Q rest (a.put o.dst (.slice (some ⟨g,0,none⟩) (n+1) cap)) w'):wpList Tryd.prog ops Q (o :: rest) a w:=by
  obtain ⟨i,hi,hz,hs1,hby⟩:=info_parts z6J
  refine wpList_append_lies w hgd s x 23 ho base 26 i (.agg ZARR) 32 32 Tryd.underlying23 hi hz hs1 hby rfl (by decide) v n xs hs hown ⟨b,0,none⟩ 1 c (z00 y) hx (by rw [z00,List.length_map,hl]) ?_ (z1D y) (by decide) (by simp only [maxLen];omega) (by omega) hbase w.heap.size rfl h
  intro j u hj
  rw [z1C,Nat.zero_add,hc.cell,List.getElem?_toArray]
  exact hj
theorem z81 {ops:Array Oper} {rest:List Oper} {o:Oper} {a:Act} {Q:Exit→Act→World→Prop} (w:World) (hg:o.guard=none) (t e:TypeId) (x:Operand) (ho:o.op=.buildSlice t 1 #[(0,x)]) (C:Array Value) (hx:a.eval x=.agg C) (n:Nat) (z:Value) (by':Nat)
    (hu:Tryd.prog.underlying t=some (.slice e)) (hi:(Tryd.prog.info? e).map (fun i=>(i.zero,i.size,i.bytes))=some (some z,n,by')) (hC:C.size=n) (hz:z.cells.size=n) (hn:0<n) (hs:n≤1000)
    (h:wpList Tryd.prog ops Q rest (a.put o.dst (.slice (some ⟨w.heap.size,0,none⟩) 1 1)) (w.alloc (.cells C e))):wpList Tryd.prog ops Q (o :: rest) a w:=by
  obtain ⟨i,hie,hz',hs1,_⟩:=info_parts hi
  refine wpList_buildSlice hg t e 1 _ ho C i z hu hie hz' (by rw [hs1];omega) (by rw [hs1];omega) ?_ h
  have:=Great.fill_whole (s:=n) hn [.agg C] ((Array.range (1*i.size)).map (z.cells[· % z.cells.size]!)) (fun v hv=>by simp at hv;subst hv;exact hC) (by simp [hs1])
  simp [Value.cells] at this
  rw [hs1]
  simp [hx]
  rw [hs1] at this
  exact this
theorem z5W (d:Nat) (h g:List Int) (hh:h.length=32) (hg:g.length=32) (w:World):∀ is:List Nat,(∀ i∈is,i<32)→(Op.eqItems (d+1) 5 1 (z00 h).toArray (z00 g).toArray is).run Tryd.prog w=.ok (is.all fun i=>h.getD i 0 == g.getD i 0) w
  | [],_=>by simp [Op.eqItems]
  | i :: is,hi=>by
    have hp:Tryd.prog.plainKey 5=true:=by kernel_rfl
    have hi32:i<32:=hi i (by simp)
    have h1:=run_part_plain (P:=Tryd.prog) w hp (show (z00 h).toArray[i]?=some (.int .u8 (h.getD i 0)) by rw [List.getElem?_toArray,z0Q h i (by omega)])
    have h2:=run_part_plain (P:=Tryd.prog) w hp (show (z00 g).toArray[i]?=some (.int .u8 (g.getD i 0)) by rw [List.getElem?_toArray,z0Q g i (by omega)])
    have h3:=run_equalIn_int (P:=Tryd.prog) w d 5 .u8 .u8 (h.getD i 0) (g.getD i 0) Tryd.underlying5
    have ih:=z5W d h g hh hg w is (fun j hj=>hi j (by simp [hj]))
    rw [Op.eqItems,Nat.mul_one]
    simp only [Sem.run_bind,h1,h2,h3,Result.andThen_ok]
    by_cases e:h.getD i 0=g.getD i 0
    · have e2:(h.getD i 0 == g.getD i 0)=true:=by simpa using e
      rw [List.all_cons,e2,Bool.true_and,if_neg (by simp)]
      exact ih
    · have e2:(h.getD i 0 == g.getD i 0)=false:=by simpa using e
      rw [List.all_cons,e2]
      simp
theorem zab (h g:List Int) (hh:h.length=32) (hg:g.length=32) (w:World):(Op.equalIn 10000 26 (.agg (z00 h).toArray) (.agg (z00 g).toArray)).run Tryd.prog w=.ok ((List.range 32).all fun i=>h.getD i 0 == g.getD i 0) w:=by
  obtain ⟨i8,hi,_⟩:=Option.map_eq_some_iff.1 z0U
  rw [run_equalIn_array (P:=Tryd.prog) w 9999 (z00 h).toArray (z00 g).toArray Tryd.underlying26 hi]
  have hc:Tryd.prog.cellsOf 5=1:=by kernel_rfl
  rw [hc]
  exact z5W 9998 h g hh hg w _ (fun i hi=>by simpa using hi)
theorem zdk {h g:List Int} (hh:h.length=32) (hg:g.length=32):((List.range 32).all fun i=>h.getD i 0 == g.getD i 0)=decide (h=g):=by
  by_cases e:h=g
  · subst e
    simp
  · rw [decide_eq_false e,Bool.eq_false_iff]
    intro hx
    rw [List.all_eq_true] at hx
    apply e
    apply List.ext_getElem (by omega)
    intro i h1 h2
    have:=hx i (by simp;omega)
    simpa [List.getD,h1,h2] using this
theorem z2c {h g:List Int} (hh:h.length=32) (hg:g.length=32) (w:World):(Op.equalIn 10000 26 (.agg (z00 h).toArray) (.agg (z00 g).toArray)).run Tryd.prog w=.ok (decide (h=g)) w:=by
  rw [zab h g hh hg,zdk hh hg]
theorem zbQ:(Tryd.prog.info? 26).map (fun i=>(i.size,i.bytes,i.zero.isSome))=some (32,32,true):=by kernel_rfl
theorem zbR (N:Nat) (hN:N≤1000) (w:World):∃ cur:Array Value,cur.size=N*32∧(Instr.makeSlice 23 (.int .i64 0) (.int .i64 (N:Int))).run Tryd.prog w=.ok (.slice (some ⟨w.heap.size,0,none⟩) 0 N) (w.alloc (.cells cur 26)):=by
  obtain ⟨i,hi,h⟩:=Option.map_eq_some_iff.1 zbQ
  simp only [Prod.mk.injEq] at h
  obtain ⟨h1,h2,h3⟩:=h
  obtain ⟨z,hz⟩:=Option.isSome_iff_exists.1 h3
  have h:=run_make (P:=Tryd.prog) w 23 26 i z Tryd.underlying23 hi hz .i64 .i64 0 N (by omega) (by omega) (by rw [h2];omega) (by omega)
  refine ⟨madeCells z.cells (N*i.size),?_,?_⟩
  · rw [size_madeCells,h1]
  · simpa using h
end Go.Proofs.YtbmjoiiagldklaaDoor

namespace Go.Proofs.YtbmjoiiagldklaaDoor
open Go.RowKit Go.Maps
set_option maxRecDepth 100000
def RV (v:Value):Option (DataW Value × List MemPlace):=some (.held v,[])
theorem zeV (w:World):(zeroValue 26).run Tryd.prog w=.ok (.agg ZARR) w:=by kernel_rfl
def SMAP (w:World) (b n:Nat) (M:Nat→Nat→List Int):Prop:=∃ D:DataW Value,w.ownsMap Tryd.prog 88 RV b n D∧∀ h k,h<256→k<2 ^ 64→D.atKey (KL h k) (.held (.agg ZARR))=.held (.agg (z00 (M h k)).toArray)
def MPUT (M:Nat→Nat→List Int) (h k:Nat) (x:List Int):Nat→Nat→List Int:=fun h' k'=>if h'=h∧k'=k then x else M h' k'
theorem z5C (M:Nat→Nat→List Int) (h k:Nat) (x:List Int):MPUT M h k x h k=x:=by simp [MPUT]
theorem z2d (M:Nat→Nat→List Int) {h k h' k':Nat} (x:List Int) (e:¬ (h'=h∧k'=k)):MPUT M h k x h' k'=M h' k':=by unfold MPUT;rw [if_neg e]
theorem SMAP.made (w:World):SMAP (w.alloc (.map #[] 0)) w.heap.size 0 (fun _ _=>ZND):=⟨_,World.ownsMap_made w _ _ _,fun h k _ _=>by simp [DataW.atKey];rfl⟩
theorem SMAP.lt {w:World} {b n:Nat} {M:Nat→Nat→List Int} (h:SMAP w b n M):b<w.heap.size:=let ⟨_,h1,_⟩:=h;h1.lt
theorem SMAP.at {w w':World} {b n:Nat} {M:Nat→Nat→List Int} (h:SMAP w b n M) (hb:w'.heap[b]?=w.heap[b]?):SMAP w' b n M:=by
  obtain ⟨D,⟨es,clock,h1,r⟩,h2⟩:=h
  exact ⟨D,⟨es,clock,hb.trans h1,r⟩,h2⟩
theorem SMAP.below {w w':World} {b n:Nat} {M:Nat→Nat→List Int} (h:SMAP w b n M) (hb:Below w.heap.size w w'):SMAP w' b n M:=h.at (hb.block b h.lt)
theorem SMAP.look {w:World} {b n:Nat} {M:Nat→Nat→List Int} (hM:SMAP w b n M) {h k:Nat} (hh:h<256) (hk:k<2 ^ 64):(Instr.lookup 111 (.map (some b)) (SPOT h k) false).run Tryd.prog w=.ok (.agg (z00 (M h k)).toArray) w:=by
  obtain ⟨D,h1,h2⟩:=hM
  obtain ⟨v,ps,r1,r2⟩:=h1.lookup law Tryd.underlying111 (zeV w) (show RV (.agg ZARR)=some (.held (.agg ZARR),[]) from rfl) (z3s hh hk)
  rw [h2 h k hh hk] at r2
  have e:v=.agg (z00 (M h k)).toArray:=by
    simp only [RV,Option.some.injEq,Prod.mk.injEq,DataW.held.injEq] at r2
    exact r2.1
  rw [r1,e]
theorem SMAP.store {w:World} {b n:Nat} {M:Nat→Nat→List Int} (hM:SMAP w b n M) (hn:n≤100000) {h k:Nat} (hh:h<256) (hk:k<2 ^ 64) (x:List Int):∃ w',(Instr.mapUpdate 111 (.map (some b)) (SPOT h k) (.agg (z00 x).toArray)).run Tryd.prog w=.ok () w'∧SMAP w' b (n+1) (MPUT M h k x)∧w.grownBy w' (some b):=by
  obtain ⟨D,h1,h2⟩:=hM
  obtain ⟨w',r1,r2,r3⟩:=h1.update law Tryd.underlying111 (by unfold maxLen;omega) (z3s hh hk) (show RV (.agg (z00 x).toArray)=some (.held (.agg (z00 x).toArray),[]) from rfl)
  refine ⟨w',r1,⟨_,r2,fun h' k' hh' hk'=>?_⟩,r3⟩
  have hkey:WideAt.IsKeyLit (KL h k):=law.key (z3s hh hk)
  by_cases e:KL h' k'=KL h k
  · obtain ⟨rfl,rfl⟩:=zd2 hh' hk' hh hk e
    rw [Maps.atKey_put_same h1.isMap hkey,z5C]
  · rw [Maps.atKey_put_other e,z2d _ _ (fun e2=>e (by rw [e2.1,e2.2])),h2 h' k' hh' hk']
end Go.Proofs.YtbmjoiiagldklaaDoor
