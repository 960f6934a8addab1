/- Texts of ManyVerifies, one behind the other: VerifyUnder, VerifyRooted, ManyEqual, ProofInTurn, ProofSteps, ManyReader, ManyIndex. -/
import Derived.BigQuiet
import Derived.Test.YtlicfinmibbpdaaGreatDoorManyVerifiesP22
import Derived.Test.YtlicfinmibbpdaaGreatDoorManyVerifiesP27
namespace Go.Proofs.YtlicfinmibbpdaaGreatDoor
open Go.RowKit
set_option maxRecDepth 100000
set_option maxHeartbeats 4000000 in
theorem zfd (d:Int) (n:Nat) (hn:n<2 ^ 64) (a:Option Addr) (k c:Nat) (l:List Int) (w:World) (hF:Flat w a k l) (hX:HX.Tabled w):
    Calls Tryz.prog 41 #[.int .i64 d,.int .u64 (n:Int),.slice a k c] w fun e w'=>e=.returned (.tuple #[.agg (z00 (BAGA d n k l).2).toArray,.int .i64 (BAGA d n k l).1])∧Below w.heap.size w w':=by
  have R0:Aside (Below w.heap.size w (w.alloc (.cells ZARR 38))∧Has (w.alloc (.cells ZARR 38)) w.heap.size (z00 ZND).toArray 38):=⟨(Below.refl _ _).alloc (Nat.le_refl _) _,by rw [z0Z];exact Has.new _ _ _⟩
  have HA:Aside (Flat w a k l∧HX.Tabled w∧n<2 ^ 64):=⟨hF,hX,hn⟩
  clear hF hX
  by_cases h1:4611686018427387904<n
  · have e:BAGA d n k l=(30,ZND):=if_pos h1
    rw [e]
    have h1':(4611686018427387904:Int)<(n:Int):=by omega
    clear e HA hn
    go_enter Tryz.func41,Tryz.ntmps41
    go_upto_region 2 with fail
    rw [show (#[.int .u8 0,.int .u8 0,.int .u8 0,.int .u8 0,.int .u8 0,.int .u8 0,.int .u8 0,.int .u8 0,.int .u8 0,.int .u8 0,.int .u8 0,.int .u8 0,.int .u8 0,.int .u8 0,.int .u8 0,.int .u8 0,.int .u8 0,.int .u8 0,.int .u8 0,.int .u8 0,.int .u8 0,.int .u8 0,.int .u8 0,.int .u8 0,.int .u8 0,.int .u8 0,.int .u8 0,.int .u8 0,.int .u8 0,.int .u8 0,.int .u8 0,.int .u8 0]:Array Value)=ZARR from rfl]
    generalize w.alloc (.cells ZARR 38)=W0 at *
    go_wp2_with (rw [show (#[.int .u8 0,.int .u8 0,.int .u8 0,.int .u8 0,.int .u8 0,.int .u8 0,.int .u8 0,.int .u8 0,.int .u8 0,.int .u8 0,.int .u8 0,.int .u8 0,.int .u8 0,.int .u8 0,.int .u8 0,.int .u8 0,.int .u8 0,.int .u8 0,.int .u8 0,.int .u8 0,.int .u8 0,.int .u8 0,.int .u8 0,.int .u8 0,.int .u8 0,.int .u8 0,.int .u8 0,.int .u8 0,.int .u8 0,.int .u8 0,.int .u8 0,.int .u8 0]:Array Value)=(z00 ZND).toArray from rfl];refine wpList_store_row rfl 38 (.tmp 6) (.tmp 10) rfl _ _ rfl rfl 38 _ R0.out.2 (z05 rfl) rfl (z0l ZND) ?_)
    refine bodyPost_ret (v:=.tuple #[.agg (z00 ZND).toArray,.int .i64 30]) (z1Q rfl _ _ w.heap.size 38 _ (0,0) _ _ _ rfl rfl (Has.row R0.out.2 _) Tryz.underlying38 (z05 rfl)) rfl ⟨rfl,z06 R0.out.1 (Nat.le_refl _) _⟩
  have h1':¬ (4611686018427387904:Int)<(n:Int):=by omega
  have hpop:=zaS hn
  by_cases h2:k=PC n
  · have e:BAGA d n k l=(0,z0x d n (FLD d l k)):=by unfold BAGA;rw [if_neg h1,if_neg (by simpa using h2)]
    rw [e]
    have hk:Aside (k≤64):=by have:=z19 64 n hn;show k≤64;omega
    have e2:(k:Int)=((POP n:Nat):Int):=by rw [hpop,h2]
    clear e h2 hpop h1
    go_enter Tryz.func41,Tryz.ntmps41
    go_upto_region 3 with fail
    rw [show (#[.int .u8 0,.int .u8 0,.int .u8 0,.int .u8 0,.int .u8 0,.int .u8 0,.int .u8 0,.int .u8 0,.int .u8 0,.int .u8 0,.int .u8 0,.int .u8 0,.int .u8 0,.int .u8 0,.int .u8 0,.int .u8 0,.int .u8 0,.int .u8 0,.int .u8 0,.int .u8 0,.int .u8 0,.int .u8 0,.int .u8 0,.int .u8 0,.int .u8 0,.int .u8 0,.int .u8 0,.int .u8 0,.int .u8 0,.int .u8 0,.int .u8 0,.int .u8 0]:Array Value)=ZARR from rfl]
    generalize w.alloc (.cells ZARR 38)=W0 at *
    go_wp2_with fail
    refine (z2T n hn W0).mono ?_
    rintro e w1 ⟨rfl,rfl⟩
    go_wp2_with fail
    refine (zbx d a k c (by have:=hk.out;omega) l W0 (HA.out.1.below R0.out.1) (HA.out.2.1.below R0.out.1)).mono ?_
    rintro e w1 ⟨rfl,hb⟩
    have R1:Aside (Below w.heap.size w w1∧Has w1 w.heap.size (z00 ZND).toArray 38):=⟨R0.out.1.trans (hb.mono R0.out.1.size),R0.out.2.keep hb⟩
    clear hb R0
    have hI:=zf2 (d:=d) HA.out.1.1 HA.out.1.2.2
    go_wp2_with fail
    refine (zd4 d n hn (FLD d l k) hI w1 (HA.out.2.1.below R1.out.1)).mono ?_
    rintro e w2 ⟨rfl,hb⟩
    have R2:Aside (Below w.heap.size w w2∧Has w2 w.heap.size (z00 ZND).toArray 38):=⟨R1.out.1.trans (hb.mono R1.out.1.size),R1.out.2.keep hb⟩
    clear hb R1 hI
    have y32:=(z32 d n (FLD d l k)).1
    generalize hY:z0x d n (FLD d l k)=Y at *
    go_wp2_with (refine wpList_store_row rfl 38 (.tmp 6) (.tmp 22) rfl _ _ rfl rfl 38 _ R2.out.2 (z05 y32) (by simp [z00,y32];rfl) (z0l Y) ?_)
    refine bodyPost_ret (v:=.tuple #[.agg (z00 Y).toArray,.int .i64 0]) (z1Q rfl _ _ w.heap.size 38 _ (0,0) _ _ _ rfl rfl (Has.row R2.out.2 _) Tryz.underlying38 (z05 y32)) rfl ⟨by rw [hY],z06 R2.out.1 (Nat.le_refl _) _⟩
  · have e:BAGA d n k l=(70,ZND):=by unfold BAGA;rw [if_neg h1,if_pos h2]
    rw [e]
    exact zby d n hn a k c w h1' (by rw [hpop];exact h2)
end Go.Proofs.YtlicfinmibbpdaaGreatDoor

namespace Go.Proofs.YtlicfinmibbpdaaGreatDoor
open Go.RowKit
set_option maxRecDepth 100000
theorem zbZ {a b:List Int} (ha:IsH a) (hb:IsH b) (w:World):(Op.equalIn 10000 38 (.agg (z00 a).toArray) (.agg (z00 b).toArray)).run Tryz.prog w=.ok (decide (a=b)) w:=by
  rw [z0I ha,z0I hb,HX.zac]
  congr 1
  by_cases e:a=b
  · subst e
    simp
  · rw [decide_eq_false e]
    refine Bool.eq_false_iff.2 fun h=>e ?_
    have h':∀ i∈List.range 32,FNC a i=FNC b i:=fun i hi=>by simpa using List.all_eq_true.1 h i hi
    have h2:LST (FNC a)=LST (FNC b):=by
      unfold LST
      exact List.map_congr_left fun i hi=>by rw [h' i hi]
    rwa [z61 ha,z61 hb] at h2
theorem z1S {ops:Array Oper} {rest:List Oper} {o:Oper} {a:Act} {w:World} {Q:Exit→Act→World→Prop} (hw:Region.wanted o (yielded ops a.tmps)=true) (ty:TypeId) (x:Operand) (ho:o.op=.load ty x) (n:Nat) (e:TypeId)
    (b:Nat) (hx:a.eval x=.pointer (some ⟨b,0,none⟩)) (t:TypeId) (cs:Array Value) (fr:Nat × Nat) (hb:w.heap[b]?=some (.cells cs t fr)) (hu:Tryz.prog.underlying ty=some (.array n e)) (hi:(Tryz.prog.info? ty).map (·.size)=some cs.size)
    (h:wpList Tryz.prog ops Q rest (a.put o.dst (.agg cs)) w):wpList Tryz.prog ops Q (o :: rest) a w:=by
  simp only [wpList]
  rw [if_pos hw]
  exact .inl (wp_load_row ty x ho b hx t cs fr (.array n e) hb hu rfl hi h)
end Go.Proofs.YtlicfinmibbpdaaGreatDoor

namespace Go.Proofs.YtlicfinmibbpdaaGreatDoor
open Go.RowKit
set_option maxRecDepth 100000
set_option maxHeartbeats 2000000 in
theorem z81 (a b:Option Addr) (n m ca cb:Nat) (L M:List Nat) (hl:L.length=n) (hm:M.length=m) (hn:n≤2 ^ 24) (w:World) (hA:NUML w a L) (hB:NUML w b M):
    Calls Tryz.prog 40 #[.slice a n ca,.slice b m cb] w fun e w'=>e=.returned (.bool (decide (L=M)))∧Below w.heap.size w w':=by
  by_cases hnm:n=m
  · subst hnm
    rcases Nat.eq_zero_or_pos n with h | h
    · subst h
      have hd:decide (L=M)=true:=by
        rw [List.eq_nil_of_length_eq_zero hl,List.eq_nil_of_length_eq_zero hm]
        rfl
      rw [hd]
      clear hA hB hl hm hd
      go_enter Tryz.func40,Tryz.ntmps40
      go_wp2
      refine wp_loop_rounds 1 ?_
      rw [rounds_succ]
      go_wp2
      go_ret
      exact ⟨rfl,Below.refl _ _⟩
    · obtain ⟨ga,oa,rfl,la,hca⟩:=hA (by omega)
      obtain ⟨gb,ob,rfl,lb,hcb⟩:=hB (by omega)
      obtain ⟨D,hD⟩:∃ D,D=decide (L=M):=⟨_,rfl⟩
      rw [← hD]
      have HC:Aside ((∀ (i x:Nat),L[i]?=some x→w.cell? ⟨ga,oa+i,none⟩=some (.int .u64 (x:Int)))∧(∀ (i x:Nat),M[i]?=some x→w.cell? ⟨gb,ob+i,none⟩=some (.int .u64 (x:Int)))∧ga<w.heap.size∧gb<w.heap.size∧L.length=n∧M.length=n∧n≤2 ^ 24∧D=decide (L=M)):=⟨hca,hcb,la,lb,hl,hm,hn,hD⟩
      clear hA hB hca hcb la lb hl hm hn hD
      go_enter Tryz.func40,Tryz.ntmps40
      go_wp2
      go_loopg [13] n (fun g s5 wx=>∃ k:Nat,k+g=n∧s5=.int .i64 k∧Aside (Below w.heap.size w wx∧∀ j,j<k→L[j]?=M[j]?))
      case atStart=>exact ⟨0,by omega,rfl,Below.refl _ _,fun j hj=>by omega⟩
      case round=>
        obtain ⟨k,hkg,rfl,A⟩:=hrel
        cases gk with
        | zero=>
          obtain rfl:k=n:=by omega
          have hlt:¬ (k:Int)<(k:Int):=by omega
          have hd:Aside (D=true):=by
            show D=true
            rw [HC.out.2.2.2.2.2.2.2,decide_eq_true_iff]
            apply List.ext_getElem?
            intro j
            by_cases hj:j<k
            · exact A.out.2 j hj
            · rw [List.getElem?_eq_none (by have:=HC.out.2.2.2.2.1;omega),List.getElem?_eq_none (by have:=HC.out.2.2.2.2.2.1;omega)]
          clear HC
          go_wp2
          go_ret
          exact ⟨by rw [hd.out];rfl,A.out.1⟩
        | succ g=>
          have hlt:(k:Int)<(n:Int):=by omega
          obtain ⟨x,ex⟩:∃ x,L[k]?=some x:=⟨_,List.getElem?_eq_getElem (by have:=HC.out.2.2.2.2.1;omega)⟩
          obtain ⟨y,ey⟩:∃ y,M[k]?=some y:=⟨_,List.getElem?_eq_getElem (by have:=HC.out.2.2.2.2.2.1;omega)⟩
          have h1:wr.cell? ⟨ga,oa+k,none⟩=some (.int .u64 (x:Int)):=(A.out.1.cell (by exact HC.out.2.2.1)).trans (HC.out.1 k x ex)
          have h2:wr.cell? ⟨gb,ob+k,none⟩=some (.int .u64 (y:Int)):=(A.out.1.cell (by exact HC.out.2.2.2.1)).trans (HC.out.2.1 k y ey)
          have hk24:k<2 ^ 24:=by have:=HC.out.2.2.2.2.2.2.1;omega
          by_cases hxy:x=y
          · subst hxy
            have Z:Aside (Below w.heap.size w wr∧∀ j,j<k+1→L[j]?=M[j]?):=by
              refine ⟨A.out.1,fun j hj=>?_⟩
              rcases Nat.lt_or_ge j k with hj' | hj'
              · exact A.out.2 j hj'
              · obtain rfl:j=k:=by omega
                rw [ex,ey]
            clear ex ey A HC
            go_wp2
            go_quiet (fail)
            go_wp2
            go_roundg g
            case measure=>omega
            case rel=>exact ⟨k+1,by omega,by go_num,below_drewN Z.out.1 _,Z.out.2⟩
          · have hd:Aside (D=false∧Below w.heap.size w wr):=by
              refine ⟨?_,A.out.1⟩
              rw [HC.out.2.2.2.2.2.2.2,decide_eq_false_iff_not]
              intro e
              rw [e,ey] at ex
              exact hxy (by simpa using ex.symm)
            have hne:((x:Int) == (y:Int))=false:=beq_eq_false_iff_ne.2 (by omega)
            clear ex ey A HC hxy
            go_wp2
            go_quiet (fail)
            go_wp2
            go_ret
            exact ⟨by rw [hd.out.1];rfl,below_drewN hd.out.2 _⟩
  · have hd:decide (L=M)=false:=by
      rw [decide_eq_false_iff_not]
      intro e
      exact hnm (by rw [← hl,← hm,e])
    have hne:((n:Int) == (m:Int))=false:=beq_eq_false_iff_ne.2 (by omega)
    rw [hd]
    clear hA hB hl hm hd hnm
    go_enter Tryz.func40,Tryz.ntmps40
    go_wp2
    go_ret
    exact ⟨rfl,Below.refl _ _⟩
set_option maxHeartbeats 2000000 in
theorem z6U (a b:Option Addr) (n m ca cb:Nat) (L M:List Nat) (hl:L.length=n) (hm:M.length=m) (hn:n≤2 ^ 24) (w:World) (hA:NUML w a L) (hB:NUML w b M):
    Calls Tryz.prog 36 #[.slice a n ca,.slice b m cb] w fun e w'=>e=.returned (.bool (decide (L=M)))∧Below w.heap.size w w':=by
  by_cases hnm:n=m
  · subst hnm
    rcases Nat.eq_zero_or_pos n with h | h
    · subst h
      have hd:decide (L=M)=true:=by
        rw [List.eq_nil_of_length_eq_zero hl,List.eq_nil_of_length_eq_zero hm]
        rfl
      rw [hd]
      clear hA hB hl hm hd
      go_enter Tryz.func36,Tryz.ntmps36
      go_wp2
      refine wp_loop_rounds 1 ?_
      rw [rounds_succ]
      go_wp2
      go_ret
      exact ⟨rfl,Below.refl _ _⟩
    · obtain ⟨ga,oa,rfl,la,hca⟩:=hA (by omega)
      obtain ⟨gb,ob,rfl,lb,hcb⟩:=hB (by omega)
      obtain ⟨D,hD⟩:∃ D,D=decide (L=M):=⟨_,rfl⟩
      rw [← hD]
      have HC:Aside ((∀ (i x:Nat),L[i]?=some x→w.cell? ⟨ga,oa+i,none⟩=some (.int .u64 (x:Int)))∧(∀ (i x:Nat),M[i]?=some x→w.cell? ⟨gb,ob+i,none⟩=some (.int .u64 (x:Int)))∧ga<w.heap.size∧gb<w.heap.size∧L.length=n∧M.length=n∧n≤2 ^ 24∧D=decide (L=M)):=⟨hca,hcb,la,lb,hl,hm,hn,hD⟩
      clear hA hB hca hcb la lb hl hm hn hD
      go_enter Tryz.func36,Tryz.ntmps36
      go_wp2
      go_loopg [5] n (fun g s5 wx=>∃ k:Nat,k+g=n∧s5=.int .i64 k∧Aside (Below w.heap.size w wx∧∀ j,j<k→L[j]?=M[j]?))
      case atStart=>exact ⟨0,by omega,rfl,Below.refl _ _,fun j hj=>by omega⟩
      case round=>
        obtain ⟨k,hkg,rfl,A⟩:=hrel
        cases gk with
        | zero=>
          obtain rfl:k=n:=by omega
          have hlt:¬ (k:Int)<(k:Int):=by omega
          have hd:Aside (D=true):=by
            show D=true
            rw [HC.out.2.2.2.2.2.2.2,decide_eq_true_iff]
            apply List.ext_getElem?
            intro j
            by_cases hj:j<k
            · exact A.out.2 j hj
            · rw [List.getElem?_eq_none (by have:=HC.out.2.2.2.2.1;omega),List.getElem?_eq_none (by have:=HC.out.2.2.2.2.2.1;omega)]
          clear HC
          go_wp2
          go_ret
          exact ⟨by rw [hd.out];rfl,A.out.1⟩
        | succ g=>
          have hlt:(k:Int)<(n:Int):=by omega
          obtain ⟨x,ex⟩:∃ x,L[k]?=some x:=⟨_,List.getElem?_eq_getElem (by have:=HC.out.2.2.2.2.1;omega)⟩
          obtain ⟨y,ey⟩:∃ y,M[k]?=some y:=⟨_,List.getElem?_eq_getElem (by have:=HC.out.2.2.2.2.2.1;omega)⟩
          have h1:wr.cell? ⟨ga,oa+k,none⟩=some (.int .u64 (x:Int)):=(A.out.1.cell (by exact HC.out.2.2.1)).trans (HC.out.1 k x ex)
          have h2:wr.cell? ⟨gb,ob+k,none⟩=some (.int .u64 (y:Int)):=(A.out.1.cell (by exact HC.out.2.2.2.1)).trans (HC.out.2.1 k y ey)
          have hk24:k<2 ^ 24:=by have:=HC.out.2.2.2.2.2.2.1;omega
          by_cases hxy:x=y
          · subst hxy
            have Z:Aside (Below w.heap.size w wr∧∀ j,j<k+1→L[j]?=M[j]?):=by
              refine ⟨A.out.1,fun j hj=>?_⟩
              rcases Nat.lt_or_ge j k with hj' | hj'
              · exact A.out.2 j hj'
              · obtain rfl:j=k:=by omega
                rw [ex,ey]
            clear ex ey A HC
            go_wp2
            go_quiet (fail)
            go_wp2
            go_roundg g
            case measure=>omega
            case rel=>exact ⟨k+1,by omega,by go_num,below_drewN Z.out.1 _,Z.out.2⟩
          · have hd:Aside (D=false∧Below w.heap.size w wr):=by
              refine ⟨?_,A.out.1⟩
              rw [HC.out.2.2.2.2.2.2.2,decide_eq_false_iff_not]
              intro e
              rw [e,ey] at ex
              exact hxy (by simpa using ex.symm)
            have hne:((x:Int) == (y:Int))=false:=beq_eq_false_iff_ne.2 (by omega)
            clear ex ey A HC hxy
            go_wp2
            go_quiet (fail)
            go_wp2
            go_ret
            exact ⟨by rw [hd.out.1];rfl,below_drewN hd.out.2 _⟩
  · have hd:decide (L=M)=false:=by
      rw [decide_eq_false_iff_not]
      intro e
      exact hnm (by rw [← hl,← hm,e])
    have hne:((n:Int) == (m:Int))=false:=beq_eq_false_iff_ne.2 (by omega)
    rw [hd]
    clear hA hB hl hm hd hnm
    go_enter Tryz.func36,Tryz.ntmps36
    go_wp2
    go_ret
    exact ⟨rfl,Below.refl _ _⟩
end Go.Proofs.YtlicfinmibbpdaaGreatDoor

namespace Go.Proofs.YtlicfinmibbpdaaGreatDoor
open Go.RowKit
set_option maxRecDepth 100000
end Go.Proofs.YtlicfinmibbpdaaGreatDoor

namespace Go.Proofs.YtlicfinmibbpdaaGreatDoor
open Go.RowKit
set_option maxRecDepth 100000
def zfe (v:Value) (X Y:Nat) (nv:Value):Array Value:=#[v,.int .u64 (X:Int),.int .u64 (Y:Int),nv]
structure FRM (w0 w:World) (rb gl:Nat) (t:TypeId) (v:Value) (X Y:Nat) (nv:Value) (fl:Array Value) (tf:TypeId):Prop where
  bel:Below w0.heap.size w0 w
  rd:Has w rb (zfe v X Y nv) t
  fl:Has w gl fl tf
  ne:gl≠rb
  lb:w0.heap.size≤rb
  lg:w0.heap.size≤gl
def SRC (w0:World) (a:Option Addr) (c:Nat) (t:List Int):Prop:=Bytes w0 a t.length t∧t.length≤c∧t.length≤1000000
theorem FRM.drew {w0 w:World} {rb gl:Nat} {t:TypeId} {v:Value} {X Y:Nat} {nv:Value} {fl:Array Value} {tf:TypeId} (h:FRM w0 w rb gl t v X Y nv fl tf):FRM w0 w.drew rb gl t v X Y nv fl tf:=⟨h.bel.drew,h.rd,h.fl,h.ne,h.lb,h.lg⟩
theorem FRM.keep {w0 w w':World} {rb gl:Nat} {t:TypeId} {v:Value} {X Y:Nat} {nv:Value} {fl:Array Value} {tf:TypeId} (h:FRM w0 w rb gl t v X Y nv fl tf) (hb:Below w.heap.size w w'):FRM w0 w' rb gl t v X Y nv fl tf:=⟨h.bel.trans (hb.mono h.bel.size),h.rd.keep hb,h.fl.keep hb,h.ne,h.lb,h.lg⟩
theorem FRM.rest {w0 w:World} {rb gl:Nat} {t:TypeId} {v:Value} {X Y:Nat} {nv:Value} {fl:Array Value} {tf:TypeId} (h:FRM w0 w rb gl t v X Y nv fl tf) (v':Value):FRM w0 (w.setCell ⟨rb,0,none⟩ v') rb gl t v' X Y nv fl tf:=
  ⟨h.bel.setCell (p:=⟨rb,0,none⟩) h.lb _,h.rd.set 0 v',h.fl.other (a:=⟨rb,0,none⟩) h.ne _,h.ne,h.lb,h.lg⟩
theorem FRM.first {w0 w:World} {rb gl:Nat} {t:TypeId} {v:Value} {X Y:Nat} {nv:Value} {fl:Array Value} {tf:TypeId} (h:FRM w0 w rb gl t v X Y nv fl tf) (Z:Nat):FRM w0 (w.setCell ⟨rb,1,none⟩ (.int .u64 (Z:Int))) rb gl t v Z Y nv fl tf:=
  ⟨h.bel.setCell (p:=⟨rb,1,none⟩) h.lb _,h.rd.set 1 _,h.fl.other (a:=⟨rb,1,none⟩) h.ne _,h.ne,h.lb,h.lg⟩
theorem SRC.drop {w0:World} {b off c:Nat} {t:List Int} (h:SRC w0 (some ⟨b,off,none⟩) c t) (k:Nat) (hk:k≤t.length):SRC w0 (REST b off c k) (c - k) (t.drop k):=by
  obtain ⟨h1,h2,h3⟩:=h
  have:=h1.behind k hk h2
  refine ⟨?_,by rw [List.length_drop];omega,by rw [List.length_drop];omega⟩
  rw [List.length_drop]
  exact this
theorem SRC.addr {w0:World} {a:Option Addr} {c:Nat} {t:List Int} (h:SRC w0 a c t) (h0:0<t.length):∃ b off,a=some ⟨b,off,none⟩∧b<w0.heap.size∧∀ i,i<t.length→w0.cell? ⟨b,off+i,none⟩=some (.int .u8 (t.getD i 0)):=h.1.2.1 h0
end Go.Proofs.YtlicfinmibbpdaaGreatDoor

namespace Go.Proofs.YtlicfinmibbpdaaGreatDoor
open Go.RowKit
set_option maxRecDepth 100000
structure RDR (w0 w:World) (rb:Nat) (t:List Int):Prop where
  rd:∃ a c,Has w rb #[.slice a t.length c] 98∧SRC w0 a c t
  bel:Below w0.heap.size w0 w
  lb:w0.heap.size≤rb
structure STAY (w w':World) (rb:Nat):Prop where
  kp:∀ k,k<w.heap.size→k≠rb→w'.heap[k]?=w.heap[k]?
  bl:Below rb w w'
theorem STAY.refl (w:World) (rb:Nat):STAY w w rb:=⟨fun _ _ _=>rfl,Below.refl _ _⟩
theorem STAY.trans {w w' w'':World} {rb:Nat} (h:STAY w w' rb) (h':STAY w' w'' rb):STAY w w'' rb:=⟨fun k hk hne=>(h'.kp k (Nat.lt_of_lt_of_le hk h.bl.size) hne).trans (h.kp k hk hne),h.bl.trans h'.bl⟩
theorem STAY.set (w:World) (rb i:Nat) (v:Value):STAY w (w.setCell ⟨rb,i,none⟩ v) rb:=⟨fun k _ hne=>Below.heap_setCell w ⟨rb,i,none⟩ v k hne,(Below.refl _ _).setCell (p:=⟨rb,i,none⟩) (Nat.le_refl _) _⟩
theorem STAY.of {w w':World} {rb:Nat} (h:Below w.heap.size w w') (hr:rb≤w.heap.size):STAY w w' rb:=⟨fun k hk _=>h.block k hk,h.mono hr⟩
theorem STAY.has {w w':World} {rb g:Nat} {c:Array Value} {t:TypeId} (h:STAY w w' rb) (hg:Has w g c t) (hne:g≠rb):Has w' g c t:=(h.kp g hg.lt hne).trans hg
theorem RDR.lt {w0 w:World} {rb:Nat} {t:List Int} (h:RDR w0 w rb t):rb<w.heap.size:=by
  obtain ⟨_,_,h1,_⟩:=h.rd
  exact h1.lt
theorem RDR.keep {w0 w w':World} {rb:Nat} {t:List Int} (h:RDR w0 w rb t) (hb:Below w.heap.size w w'):RDR w0 w' rb t:=by
  obtain ⟨a,c,h1,h2⟩:=h.rd
  exact ⟨⟨a,c,h1.keep hb,h2⟩,h.bel.trans (hb.mono h.bel.size),h.lb⟩
theorem RDR.other {w0 w w':World} {rb pb:Nat} {t:List Int} (h:RDR w0 w rb t) (hs:STAY w w' pb) (hne:rb≠pb) (hp:w0.heap.size≤pb):RDR w0 w' rb t:=by
  obtain ⟨a,c,h1,h2⟩:=h.rd
  exact ⟨⟨a,c,hs.has h1 hne,h2⟩,h.bel.trans (hs.bl.mono hp),h.lb⟩
theorem RDR.moved {w0 w:World} {rb b off c k:Nat} {t:List Int} (h:RDR w0 w rb t) (hh:Has w rb #[.slice (some ⟨b,off,none⟩) t.length c] 98) (hs:SRC w0 (some ⟨b,off,none⟩) c t) (hk:k≤t.length):RDR w0 (w.setCell ⟨rb,0,none⟩ (.slice (REST b off c k) (t.length - k) (c - k))) rb (t.drop k):=by
  refine ⟨⟨_,_,?_,hs.drop k hk⟩,h.bel.setCell (p:=⟨rb,0,none⟩) h.lb _,h.lb⟩
  rw [List.length_drop]
  exact hh.set 0 _
theorem z8M (rb:Nat) (r1 r2 r3:Int) (v:Value) (w:World) (hr:¬ r3=0) (h0:w.cell? ⟨rb,0,none⟩=some v)
    (c:Calls Tryz.prog 149 #[v] w fun e w'=>e=.returned (.tuple #[.int .u64 r1,.int .i64 r2,.int .i64 r3])∧w=w'):
    Calls Tryz.prog 124 #[.pointer (some ⟨rb,0,none⟩)] w fun e w'=>e=.panicked (z0z r3)∧w=w':=by
  have hr':(r3 != 0)=true:=by simp [hr]
  go_enter Tryz.func124,Tryz.ntmps124
  go_wp2_with fail
  refine c.mono ?_
  rintro e w' ⟨rfl,rfl⟩
  clear c
  go_wp2_with fail
  exact ⟨rfl,rfl,rfl⟩
set_option maxHeartbeats 1000000 in
theorem z8N (rb:Nat) (r1:Int) (b off n c m:Nat) (hm:m≤n) (hcap:n≤c) (w:World) (h0:w.cell? ⟨rb,0,none⟩=some (.slice (some ⟨b,off,none⟩) n c)) (z0:w.frozen? ⟨rb,0,none⟩=false)
    (cl:Calls Tryz.prog 149 #[.slice (some ⟨b,off,none⟩) n c] w fun e w'=>e=.returned (.tuple #[.int .u64 r1,.int .i64 (m:Int),.int .i64 0])∧w=w'):
    Calls Tryz.prog 124 #[.pointer (some ⟨rb,0,none⟩)] w fun e w'=>e=.returned (.int .u64 r1)∧w'=w.setCell ⟨rb,0,none⟩ (.slice (REST b off c m) (n - m) (c - m)):=by
  have k1:(m:Int)≤(n:Int):=by omega
  have k2:(n:Int)≤(c:Int):=by omega
  have k4:(m:Int)≤(c:Int):=by omega
  obtain ⟨a',ha'⟩:∃ a',REST b off c m=a':=⟨_,rfl⟩
  rw [ha']
  by_cases h1:c=m
  · have HA:Aside (some ⟨b,off,none⟩=a'):=by rw [← ha'];simp [REST,h1,Aside]
    have hn:n=m:=by omega
    subst h1 hn
    clear ha'
    go_enter Tryz.func124,Tryz.ntmps124
    go_wp2_with fail
    refine cl.mono ?_
    rintro e w' ⟨rfl,rfl⟩
    clear cl
    go_wp2_with fail
    go_ret
    rw [← HA.out]
    exact ⟨rfl,by simp⟩
  · have HA:Aside (some ⟨b,off+m,none⟩=a'):=by rw [← ha'];simp [REST,h1,Aside]
    have hc1:¬ c - m=0:=by omega
    clear ha'
    go_enter Tryz.func124,Tryz.ntmps124
    go_wp2_with fail
    refine cl.mono ?_
    rintro e w' ⟨rfl,rfl⟩
    clear cl
    go_wp2_with fail
    go_ret
    rw [← HA.out]
    exact ⟨rfl,rfl⟩
theorem z3j {w0 w:World} {rb:Nat} {t:List Int} (R:RDR w0 w rb t) (hl:(LNG t).2.2≠0):Calls Tryz.prog 124 #[.pointer (some ⟨rb,0,none⟩)] w fun e w'=>e=.panicked (z0z (LNG t).2.2)∧w=w':=by
  obtain ⟨a,c,h1,h2⟩:=R.rd
  exact z8M rb _ _ _ _ w hl (h1.cell 0) (z9w a t.length c t w (h2.1.below R.bel) h2.2.1 (by have:=h2.2.2;omega))
theorem z3U {w0 w:World} {rb:Nat} {t:List Int} (R:RDR w0 w rb t) (hl:(LNG t).2.2=0):
    ∃ Z m:Nat,Z<2 ^ 64∧1≤m∧m≤t.length∧LNG t=((Z:Int),(m:Int),0)∧Calls Tryz.prog 124 #[.pointer (some ⟨rb,0,none⟩)] w fun e w'=>e=.returned (.int .u64 (Z:Int))∧RDR w0 w' rb (t.drop m)∧STAY w w' rb:=by
  obtain ⟨a,c,h1,h2⟩:=R.rd
  obtain ⟨Z,m,q1,q2,q3,q4,q5⟩:=z2m h2.1.2.2 hl
  obtain ⟨b,off,rfl,hb,hcs⟩:=h2.addr (by omega)
  have cl:=z9w (some ⟨b,off,none⟩) t.length c t w (h2.1.below R.bel) h2.2.1 (by have:=h2.2.2;omega)
  rw [show LG t t.length 10 0 0=LNG t from rfl,q4] at cl
  refine ⟨Z,m,q1,q2,q3,q4,(z8N rb (Z:Int) b off t.length c m q3 h2.2.1 w (h1.cell 0) (h1.frozen 0) cl).mono ?_⟩
  rintro e w' ⟨rfl,rfl⟩
  exact ⟨rfl,R.moved h1 h2 q3,STAY.set _ _ _ _⟩
theorem zaF {w0 w:World} {rb:Nat} (R:RDR w0 w rb []):Calls Tryz.prog 88 #[.pointer (some ⟨rb,0,none⟩)] w fun e w'=>e=.panicked (z0z 11)∧w=w':=by
  obtain ⟨a,c,h1,h2⟩:=R.rd
  have x0:w.cell? ⟨rb,0,none⟩=some (.slice a 0 c):=h1.cell 0
  clear R h1 h2
  go_enter Tryz.func88,Tryz.ntmps88
  go_wp2_with fail
  exact ⟨rfl,rfl,rfl⟩
theorem z8O {w0 w:World} {rb:Nat} {x:Int} {l:List Int} (R:RDR w0 w rb (x :: l)) (hx:¬ x=78):Calls Tryz.prog 88 #[.pointer (some ⟨rb,0,none⟩)] w fun e w'=>e=.panicked (z0z 14)∧w=w':=by
  obtain ⟨a,c,h1,h2⟩:=R.rd
  obtain ⟨b,off,rfl,hb,hcs⟩:=h2.addr (by simp)
  obtain ⟨n,hn⟩:∃ n,(x :: l).length=n:=⟨_,rfl⟩
  rw [hn] at h1
  have x0:w.cell? ⟨rb,0,none⟩=some (.slice (some ⟨b,off,none⟩) n c):=h1.cell 0
  have x1:w.cell? ⟨b,off,none⟩=some (.int .u8 x):=(R.bel.cell (p:=⟨b,off,none⟩) hb).trans (by have:=hcs 0 (by simp);simpa using this)
  have hn1:(0:Int)<(n:Int):=by simp at hn;omega
  have hn2:0<n:=by omega
  have hn3:¬ (n:Int)=0:=by omega
  clear R h1 h2 hcs hn hb
  go_enter Tryz.func88,Tryz.ntmps88
  go_wp2_with fail
  exact ⟨rfl,rfl,rfl⟩
set_option maxHeartbeats 1000000 in
theorem zc0 (rb b off n c:Nat) (hcap:n+1≤c) (w:World) (h0:w.cell? ⟨rb,0,none⟩=some (.slice (some ⟨b,off,none⟩) (n+1) c)) (hf:w.frozen? ⟨rb,0,none⟩=false) (hc:w.cell? ⟨b,off,none⟩=some (.int .u8 78)):
    Calls Tryz.prog 88 #[.pointer (some ⟨rb,0,none⟩)] w fun e w'=>e=.returned (.tuple #[])∧w'=w.setCell ⟨rb,0,none⟩ (.slice (REST b off c 1) n (c - 1)):=by
  have hn1:(0:Int)<(n:Int)+1:=by omega
  have hn2:¬ (n:Int)+1=0:=by omega
  have hcap':(n:Int)+1≤(c:Int):=by omega
  obtain ⟨a',ha'⟩:∃ a',REST b off c 1=a':=⟨_,rfl⟩
  rw [ha']
  by_cases h1:c=1
  · have HA:Aside (some ⟨b,off,none⟩=a'):=by rw [← ha'];simp [REST,h1,Aside]
    have hn0:n=0:=by omega
    subst h1 hn0
    clear ha' hcap
    go_enter Tryz.func88,Tryz.ntmps88
    go_wp2_with fail
    refine bodyPost_end (v:=.tuple #[]) (by simp [results,Tryz.f88]) rfl ?_
    rw [← HA.out]
    exact ⟨rfl,rfl⟩
  · have HA:Aside (some ⟨b,off+1,none⟩=a'):=by rw [← ha'];simp [REST,h1,Aside]
    have hc1:¬ c - 1=0:=by omega
    clear ha' hcap
    go_enter Tryz.func88,Tryz.ntmps88
    go_wp2_with fail
    refine bodyPost_end (v:=.tuple #[]) (by simp [results,Tryz.f88]) rfl ?_
    rw [← HA.out]
    exact ⟨rfl,rfl⟩
theorem zc1 {w0 w:World} {rb:Nat} {l:List Int} (R:RDR w0 w rb (78 :: l)):Calls Tryz.prog 88 #[.pointer (some ⟨rb,0,none⟩)] w fun e w'=>e=.returned (.tuple #[])∧RDR w0 w' rb l∧STAY w w' rb:=by
  obtain ⟨a,c,h1,h2⟩:=R.rd
  obtain ⟨b,off,rfl,hb,hcs⟩:=h2.addr (by simp)
  refine (zc0 rb b off l.length c (by have:=h2.2.1;simpa using this) w (h1.cell 0) (h1.frozen 0) ((R.bel.cell (p:=⟨b,off,none⟩) hb).trans (by have:=hcs 0 (by simp);simpa using this))).mono ?_
  rintro e w' ⟨rfl,rfl⟩
  have:=R.moved h1 h2 (k:=1) (by simp)
  exact ⟨rfl,by simpa using this,STAY.set _ _ _ _⟩
theorem zc2 {w0 w:World} {rb:Nat} {t:List Int} (R:RDR w0 w rb t) (hl:(LNG t).2.2≠0):Calls Tryz.prog 89 #[.pointer (some ⟨rb,0,none⟩)] w fun e w'=>e=.panicked (z0z (LNG t).2.2)∧w=w':=by
  have cn:=z3j R hl
  clear R
  go_enter Tryz.func89,Tryz.ntmps89
  go_wp2_with fail
  refine cn.mono ?_
  rintro e w' ⟨rfl,rfl⟩
  exact ⟨rfl,rfl,rfl⟩
theorem zc3 (rb:Nat) (Z:Int) (w:World) (D:World→Prop) (hZ:4611686018427387904<Z) (cn:Calls Tryz.prog 124 #[.pointer (some ⟨rb,0,none⟩)] w fun e w'=>e=.returned (.int .u64 Z)∧D w'):Calls Tryz.prog 89 #[.pointer (some ⟨rb,0,none⟩)] w fun e w'=>e=.panicked (z0z 30)∧D w':=by
  go_enter Tryz.func89,Tryz.ntmps89
  go_wp2_with fail
  refine cn.mono ?_
  rintro e w' ⟨rfl,h⟩
  have FN:Aside (D w'):=h
  clear cn h
  go_wp2_with fail
  exact ⟨rfl,rfl,FN.out⟩
theorem zaG (rb:Nat) (Z:Int) (w:World) (D:World→Prop) (hZ:¬ 4611686018427387904<Z) (cn:Calls Tryz.prog 124 #[.pointer (some ⟨rb,0,none⟩)] w fun e w'=>e=.returned (.int .u64 Z)∧D w'):Calls Tryz.prog 89 #[.pointer (some ⟨rb,0,none⟩)] w fun e w'=>e=.returned (.int .u64 Z)∧D w':=by
  go_enter Tryz.func89,Tryz.ntmps89
  go_wp2_with fail
  refine cn.mono ?_
  rintro e w' ⟨rfl,h⟩
  have FN:Aside (D w'):=h
  clear cn h
  go_wp2_with fail
  go_ret
  exact ⟨rfl,FN.out⟩
theorem zeC {w0 w:World} {rb:Nat} {t:List Int} (R:RDR w0 w rb t):Calls Tryz.prog 93 #[.pointer (some ⟨rb,0,none⟩)] w fun e w'=>((t=[]∧e=.returned (.tuple #[]))∨(t≠[]∧e=.panicked (z0z 13)))∧w=w':=by
  obtain ⟨a,c,h1,h2⟩:=R.rd
  cases t with
  | nil=>
    have x0:w.cell? ⟨rb,0,none⟩=some (.slice a 0 c):=h1.cell 0
    clear R h1 h2
    go_enter Tryz.func93,Tryz.ntmps93
    go_wp2_with fail
    exact bodyPost_end (v:=.tuple #[]) (by simp [results,Tryz.f93]) rfl ⟨.inl ⟨(by first | trivial | rfl),rfl⟩,rfl⟩
  | cons x l=>
    obtain ⟨n,hn⟩:∃ n,(x :: l).length=n:=⟨_,rfl⟩
    rw [hn] at h1
    have x0:w.cell? ⟨rb,0,none⟩=some (.slice a n c):=h1.cell 0
    have hn1:(0:Int)<(n:Int):=by simp at hn;omega
    have hn2:0<n:=by omega
    clear R h1 h2 hn
    go_enter Tryz.func93,Tryz.ntmps93
    go_wp2_with fail
    exact ⟨rfl,.inr ⟨by simp,rfl⟩,rfl⟩
end Go.Proofs.YtlicfinmibbpdaaGreatDoor

namespace Go.Proofs.YtlicfinmibbpdaaGreatDoor
open Go.RowKit
set_option maxRecDepth 100000
def IDX (n:Nat):Nat→Nat→List Int→Int × List Nat × List Int
  | 0,_,t=>(0,[],t)
  | c+1,k,t=>if (LNG t).2.2≠0 then ((LNG t).2.2,[],[]) else if n - k≤(LNG t).1.toNat then (32,[],[]) else
    ((IDX n c (k+(LNG t).1.toNat+1) (t.drop (LNG t).2.1.toNat)).1,(k+(LNG t).1.toNat) :: (IDX n c (k+(LNG t).1.toNat+1) (t.drop (LNG t).2.1.toNat)).2.1,(IDX n c (k+(LNG t).1.toNat+1) (t.drop (LNG t).2.1.toNat)).2.2)
theorem z6b {n c k:Nat} {t:List Int} (h:(LNG t).2.2≠0):IDX n (c+1) k t=((LNG t).2.2,[],[]):=by rw [IDX,if_pos h]
theorem z6c {n c k Z m:Nat} {t:List Int} (h:LNG t=((Z:Int),(m:Int),0)) (hz:n - k≤Z):IDX n (c+1) k t=(32,[],[]):=by
  rw [IDX,h]
  simp [hz]
theorem z5i {n c k Z m:Nat} {t:List Int} (h:LNG t=((Z:Int),(m:Int),0)) (hz:¬ n - k≤Z):IDX n (c+1) k t=((IDX n c (k+Z+1) (t.drop m)).1,(k+Z) :: (IDX n c (k+Z+1) (t.drop m)).2.1,(IDX n c (k+Z+1) (t.drop m)).2.2):=by
  rw [IDX,h]
  simp [hz]
def IDXS (n:Nat) (t:List Int):Int × List Nat × List Int:=if (LNG t).2.2≠0 then ((LNG t).2.2,[],[]) else IDX n (LNG t).1.toNat 0 (t.drop (LNG t).2.1.toNat)
def IDXD (w0 w:World) (rb:Nat) (A:Int × List Nat × List Int) (e:Ending) (w':World):Prop:=
  (A.1=0∧∃ a c,e=.returned (.slice a A.2.1.length c)∧w'.ownsRow w.heap.size 23 1 (.slice a A.2.1.length c) A.2.1.length (z02 A.2.1)∧RDR w0 w' rb A.2.2∧STAY w w' rb)∨(A.1≠0∧e=.panicked (z0z A.1)∧STAY w w' rb)
theorem z6d {n k:Nat} (hk:k≤n) (hn:n≤4611686018427387904):IntKind.u64.wrap ((n:Int) - (k:Int))=((n - k:Nat):Int):=by rw [z09];omega
theorem z6e {k Z:Nat} (h:k+Z<2 ^ 63):IntKind.u64.wrap ((k:Int)+(Z:Int))=((k+Z:Nat):Int):=by rw [z09];omega
theorem z82 {Z:Nat} (h:Z<2 ^ 63):IntKind.u64.wrap ((Z:Int)+1)=((Z+1:Nat):Int):=by rw [z09];omega
theorem z9y {j c:Nat} (h:j<c) (hc:c<2 ^ 64):IntKind.u64.wrap ((j:Int)+1)=((j+1:Nat):Int):=by rw [z09];omega
set_option maxHeartbeats 4000000 in
theorem zc4 {w0 w:World} {rb:Nat} {t:List Int} (n:Nat) (hn:n≤4611686018427387904) (R:RDR w0 w rb t):Calls Tryz.prog 90 #[.pointer (some ⟨rb,0,none⟩),.int .u64 (n:Int)] w (IDXD w0 w rb (IDXS n t)):=by
  by_cases hl:(LNG t).2.2=0
  · obtain ⟨C,m,q1,q2,q3,q4,cn⟩:=z3U R hl
    have eI:IDXS n t=IDX n C 0 (t.drop m):=by unfold IDXS;rw [q4];simp
    obtain ⟨T,hT⟩:∃ T,T=t.drop m:=⟨_,rfl⟩
    obtain ⟨A,hA⟩:∃ A,A=IDXS n t:=⟨_,rfl⟩
    have hTl:T.length≤1000000:=by
      obtain ⟨_,_,_,h2⟩:=R.rd
      have:=h2.2.2
      rw [hT,List.length_drop]
      omega
    rw [← hT] at eI cn
    rw [← hA] at eI ⊢
    have HA:Aside (A=IDX n C 0 T∧n≤4611686018427387904∧C<2 ^ 64∧T.length≤1000000∧rb<w.heap.size):=⟨eI,hn,q1,hTl,R.lt⟩
    clear eI hn q1 q2 q3 q4 hA hT hl R hTl
    go_enter Tryz.func90,Tryz.ntmps90
    go_wp2_with fail
    refine cn.mono ?_
    rintro e w1 ⟨rfl,R1,S1⟩
    have W1:Aside (RDR w0 w1 rb T∧STAY w w1 rb):=⟨R1,S1⟩
    clear cn R1 S1
    go_wp2_with fail
    go_loopg [5,6,10] C (fun q s5 s6 s10 wx=>∃ (j k:Nat) (v:Value) (acc:List Nat) (u:List Int),v=s5∧s6=.int .u64 (k:Int)∧s10=.int .u64 (j:Int)∧Aside (j+q=C∧k≤n∧acc.length+u.length≤T.length∧wx.ownsRow w.heap.size 23 1 v acc.length (z02 acc)∧RDR w0 wx rb u∧STAY w wx rb∧A=((IDX n q k u).1,(if (IDX n q k u).1=0 then acc ++ (IDX n q k u).2.1 else A.2.1),(if (IDX n q k u).1=0 then (IDX n q k u).2.2 else A.2.2))))
    case atStart=>
      refine ⟨0,0,_,[],T,rfl,rfl,rfl,by omega,Nat.zero_le _,by simp,⟨rfl,.inl ⟨rfl,rfl⟩⟩,W1.out.1,W1.out.2,?_⟩
      rw [HA.out.1]
      split
      · rfl
      · rfl
    case round=>
      obtain ⟨j,k,v,acc,u,rfl,rfl,rfl,B⟩:=hrel
      clear W1
      obtain ⟨av,cv,rfl⟩:=z18 B.out.2.2.2.1
      cases gk with
      | zero=>
        obtain rfl:j=C:=by have:=B.out.1;omega
        have hlt:¬ (j:Int)<(j:Int):=by omega
        have FN:Aside (IDXD w0 w rb A (.returned (.slice av acc.length cv)) wr):=by
          obtain ⟨_,_,_,h4,h5,h6,h7⟩:=B.out
          have e:A=(0,acc,u):=by rw [h7];simp [IDX]
          rw [e]
          exact .inl ⟨rfl,av,cv,rfl,h4,h5,h6⟩
        clear B HA
        go_wp2_with fail
        go_ret
        exact FN.out
      | succ q=>
        have hlt:(j:Int)<(C:Int):=by have:=B.out.1;omega
        by_cases hl2:(LNG u).2.2=0
        · obtain ⟨Z,m2,p1,p2,p3,p4,cn⟩:=z3U B.out.2.2.2.2.1 hl2
          have eg:=z6d B.out.2.1 HA.out.2.1
          by_cases hz:n - k≤Z
          · have hz':((n - k:Nat):Int)≤(Z:Int):=by omega
            have FN:Aside (A.1=32∧STAY w wr rb∧rb<w.heap.size):=by
              obtain ⟨_,_,_,h4,h5,h6,h7⟩:=B.out
              rw [z6c p4 hz] at h7
              exact ⟨by rw [h7],h6,HA.out.2.2.2.2⟩
            clear B HA p1 p2 p3 p4 hl2
            generalize n - k=nk at *
            go_wp2_with fail
            refine cn.mono ?_
            rintro e w2 ⟨rfl,R2,S2⟩
            have FN2:Aside (A.1=32∧STAY w w2 rb):=⟨FN.out.1,FN.out.2.1.trans S2⟩
            clear cn R2 S2 FN
            go_wp2_with fail
            exact ⟨rfl,.inr ⟨by rw [FN2.out.1];decide,by rw [FN2.out.1];rfl,FN2.out.2⟩⟩
          · have hz':¬ ((n - k:Nat):Int)≤(Z:Int):=by omega
            have es:=z6e (k:=k) (Z:=Z) (by have:=HA.out.2.1;omega)
            have e1:=z82 (Z:=Z) (by have:=HA.out.2.1;omega)
            have e2:=z6e (k:=k) (Z:=Z+1) (by have:=HA.out.2.1;omega)
            have ej:=z9y (j:=j) (c:=C) (by have:=B.out.1;omega) HA.out.2.2.1
            have NX:Aside (j+1+q=C∧k+(Z+1)≤n∧(acc ++ [k+Z]).length+(u.drop m2).length≤T.length∧wr.ownsRow w.heap.size 23 1 (.slice av acc.length cv) acc.length (z02 acc)∧STAY w wr rb∧A=((IDX n q (k+(Z+1)) (u.drop m2)).1,(if (IDX n q (k+(Z+1)) (u.drop m2)).1=0 then (acc ++ [k+Z]) ++ (IDX n q (k+(Z+1)) (u.drop m2)).2.1 else A.2.1),(if (IDX n q (k+(Z+1)) (u.drop m2)).1=0 then (IDX n q (k+(Z+1)) (u.drop m2)).2.2 else A.2.2))∧acc.length≤2 ^ 30∧rb<w.heap.size):=by
              obtain ⟨h1,h2,h3,h4,h5,h6,h7⟩:=B.out
              have h8:=HA.out.2.2.2.1
              refine ⟨by omega,by omega,by rw [List.length_append,List.length_drop];simp;omega,h4,h6,?_,by omega,HA.out.2.2.2.2⟩
              rw [z5i p4 hz] at h7
              rw [show k+(Z+1)=k+Z+1 by omega]
              generalize IDX n q (k+Z+1) (u.drop m2)=I at h7
              rw [List.append_assoc]
              exact h7
            clear B HA p1 p2 p3 p4 hl2 hz
            generalize n - k=nk at *
            generalize k+(Z+1)=k2 at *
            generalize k+Z=kz at *
            generalize Z+1=Z1 at *
            generalize u.drop m2=u2 at *
            go_wp2_with fail
            refine cn.mono ?_
            rintro e w2 ⟨rfl,R2,S2⟩
            have W2:Aside (RDR w0 w2 rb u2∧STAY wr w2 rb∧w2.ownsRow w.heap.size 23 1 (.slice av acc.length cv) acc.length (z02 acc)∧w.heap.size≤w2.heap.size):=⟨R2,S2,by
              have h4:=NX.out.2.2.2.1
              refine ⟨h4.1,h4.2.imp id ?_⟩
              rintro ⟨g,cp,cur,e,hb,hg,r⟩
              refine ⟨g,cp,cur,e,hb,?_,r⟩
              rw [S2.kp g (Array.getElem?_eq_some_iff.1 hg).1 (by have:=NX.out.2.2.2.2.2.2.2;omega)]
              exact hg,Nat.le_trans NX.out.2.2.2.2.1.bl.size S2.bl.size⟩
            clear cn R2 S2
            go_wp2_with (first
              | (at_builtin;refine z3q _ rfl (.tmp 20) (.tmp 24) rfl w.heap.size (.slice av acc.length cv) acc.length acc rfl (W2.out.2.2.1.alloc _) w2.heap.size 1 kz rfl ((Has.new _ _ _).cell 0) NX.out.2.2.2.2.2.2.1 (by have:=W2.out.2.2.2;simp;omega) ?_;intro g3 c3 w3 hown hgrow hg
                 have W3:Aside (w3.ownsRow w.heap.size 23 1 (.slice (some ⟨g3,0,none⟩) (acc.length+1) c3) (acc ++ [kz]).length (z02 (acc ++ [kz]))∧RDR w0 w3 rb u2∧STAY w w3 rb):=by
                   obtain ⟨r1,r2,r3,r4⟩:=W2.out
                   have hrb:=NX.out.2.2.2.2.2.2.2
                   have b23:Below w.heap.size w2 w3:=((Below.refl _ w2).alloc r4 _).grown hgrow (by simp;omega) (fun k e=>(r3.lt k e).1)
                   have s2:STAY w w2 rb:=NX.out.2.2.2.2.1.trans r2
                   refine ⟨by rw [List.length_append];exact hown,?_,fun k hk hne=>(b23.block k hk).trans (s2.kp k hk hne),s2.bl.trans (b23.mono (by omega))⟩
                   obtain ⟨ar,cr,h1,h2⟩:=r1.rd
                   exact ⟨⟨ar,cr,h1.below b23 hrb,h2⟩,r1.bel.trans (b23.mono (by have:=r1.lb;omega)),r1.lb⟩
                 clear hown hgrow hg W2))
            go_roundg q
            case measure=>exact Nat.lt_succ_self _
            case rel=>exact ⟨j+1,k2,_,acc ++ [kz],u2,rfl,by first | rfl | exact congrArg (Value.int IntKind.u64) e2,by first | rfl | exact congrArg (Value.int IntKind.u64) ej,NX.out.1,NX.out.2.1,NX.out.2.2.1,W3.out.1,W3.out.2.1,W3.out.2.2,NX.out.2.2.2.2.2.1⟩
        · have cn:=z3j B.out.2.2.2.2.1 hl2
          have FN:Aside (A.1=(LNG u).2.2∧STAY w wr rb):=by
            obtain ⟨_,_,_,h4,h5,h6,h7⟩:=B.out
            rw [z6b hl2] at h7
            exact ⟨by rw [h7],h6⟩
          have HE:Aside ((LNG u).2.2≠0):=hl2
          clear B HA hl2
          generalize (LNG u).2.2=E at *
          go_wp2_with fail
          refine cn.mono ?_
          rintro e w2 ⟨rfl,rfl⟩
          exact ⟨rfl,.inr ⟨by rw [FN.out.1];exact HE.out,by rw [FN.out.1],FN.out.2⟩⟩
  · have eI:IDXS n t=((LNG t).2.2,[],[]):=by unfold IDXS;rw [if_pos hl]
    have cn:=z3j R hl
    rw [eI]
    have HE:Aside ((LNG t).2.2≠0):=hl
    clear eI hl R hn
    generalize (LNG t).2.2=E at *
    go_enter Tryz.func90,Tryz.ntmps90
    go_wp2_with fail
    refine cn.mono ?_
    rintro e w2 ⟨rfl,rfl⟩
    exact ⟨rfl,.inr ⟨HE.out,rfl,STAY.refl _ _⟩⟩
end Go.Proofs.YtlicfinmibbpdaaGreatDoor
