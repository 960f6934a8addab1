/- Texts of SpanVerifies, one behind the other: HashSchedule, HashJoined, HashStep. -/
import Derived.Deep.RegionHeld3
import Derived.Deep.RegionWith
import Derived.Lib.SliceRun
import Derived.Test.YthdpkaiieomdoaaGreatDoorSpanVerifiesP6
namespace Go.Proofs.YthdpkaiieomdoaaGreatDoor.HX
open Go.RowKit
theorem zby:(#[.int .u32 0,.int .u32 0,.int .u32 0,.int .u32 0,.int .u32 0,.int .u32 0,.int .u32 0,.int .u32 0,.int .u32 0,.int .u32 0,.int .u32 0,.int .u32 0,.int .u32 0,.int .u32 0,.int .u32 0,.int .u32 0,.int .u32 0,.int .u32 0,.int .u32 0,.int .u32 0,.int .u32 0,.int .u32 0,.int .u32 0,.int .u32 0,.int .u32 0,.int .u32 0,.int .u32 0,.int .u32 0,.int .u32 0,.int .u32 0,.int .u32 0,.int .u32 0,.int .u32 0,.int .u32 0,.int .u32 0,.int .u32 0,.int .u32 0,.int .u32 0,.int .u32 0,.int .u32 0,.int .u32 0,.int .u32 0,.int .u32 0,.int .u32 0,.int .u32 0,.int .u32 0,.int .u32 0,.int .u32 0,.int .u32 0,.int .u32 0,.int .u32 0,.int .u32 0,.int .u32 0,.int .u32 0,.int .u32 0,.int .u32 0,.int .u32 0,.int .u32 0,.int .u32 0,.int .u32 0,.int .u32 0,.int .u32 0,.int .u32 0,.int .u32 0]:Array Value)=UARR .u32 64 fun _=>0:=rfl
theorem zbz (b:Nat→Nat):(UARR .u32 64 fun j=>if j<16 then z05 b (4*j) else 0)=UARR .u32 64 (SCHL b 0):=z0g fun j _=>by rw [SCHL]
theorem z8A (s:Nat→Nat) (h:∀ i,s i<256) (w:World):Calls Tryz.prog 169 #[.agg (UARR .u8 64 s)] w fun e w'=>e=.returned (.agg (UARR .u32 64 (SCH s)))∧Below w.heap.size w w':=by
  have hz:=zby
  have H:Aside (∀ i,s i<256):=h
  clear h
  go_enter Tryz.func169,Tryz.ntmps169
  go_wp2
  go_loopg [6] 16 (fun g s5 wx=>∃ i:Nat,i+g=16∧s5=.int .i64 i∧Aside (Below w.heap.size w wx∧Has wx w.heap.size (UARR .u8 64 s) 147∧Has wx (w.heap.size+1) (UARR .u32 64 fun _=>0) 222∧Has wx (w.heap.size+2) (UARR .u32 64 fun j=>if j<i then z05 s (4*j) else 0) 222))
  case atStart=>
    refine ⟨0,by omega,rfl,?_⟩
    have e:(UARR .u32 64 fun j=>if j<0 then z05 s (4*j) else 0)=UARR .u32 64 fun _=>0:=z0g fun j _=>if_neg (by omega)
    rw [e]
    exact ⟨(((Below.refl _ _).alloc (Nat.le_refl _) _).alloc (by simp) _).alloc (by simp;omega) _,((Has.new w _ _).alloc _).alloc _,(Has.at _ _ _ (by simp)).alloc _,Has.at _ _ _ (by simp)⟩
  case round=>
    obtain ⟨i,hig,rfl,A⟩:=hrel
    cases gk with
    | zero=>
      obtain rfl:i=16:=by omega
      rw [zbz] at A
      clear hz
      go_wp2
      go_loopg [5] 48 (fun g s5 wx=>∃ k:Nat,k+g=48∧s5=.int .i64 ((16+k:Nat):Int)∧Aside (Below w.heap.size w wx∧Has wx (w.heap.size+1) (UARR .u32 64 fun _=>0) 222∧Has wx (w.heap.size+2) (UARR .u32 64 (SCHL s k)) 222))
      case atStart=>exact ⟨0,by omega,rfl,A.out.1,A.out.2.2.1,A.out.2.2.2⟩
      case round=>
        obtain ⟨k,hkg,rfl,A⟩:=hrel
        cases gk with
        | zero=>
          obtain rfl:k=48:=by omega
          obtain ⟨hb,h1,h2⟩:=A.out
          go_wp2_with (first
            | (refine wpList_load_row rfl 222 _ rfl _ rfl _ _ (0,0) _ h2 Tryz.underlying222 rfl (z3z _) ?_)
            | (refine wpList_store_row rfl 222 _ _ rfl _ _ rfl rfl _ _ h1 (z3z _) (by rw [z01,z01]) (z0e _ _ _) ?_))
          refine bodyPost_ret (v:=.agg (UARR .u32 64 (SCH s))) ?_ rfl ⟨rfl,z04 hb (by omega) _⟩
          exact results_cell_row rfl _ _ (w.heap.size+1) 222 _ (0,0) _ rfl (h1.row _) Tryz.underlying222 rfl (z3z _)
        | succ g=>
          obtain ⟨hb,h1,h2⟩:=A.out
          have hlt:(((16+k:Nat):Int))<64:=by omega
          have ca:wr.cell? ⟨w.heap.size+1+1,14+k,none⟩=some (.int .u32 (SCHL s k (14+k):Nat)):=by rw [h2.cell,z07 _ _ _ _ (by omega)]
          have cb:wr.cell? ⟨w.heap.size+1+1,9+k,none⟩=some (.int .u32 (SCHL s k (9+k):Nat)):=by rw [h2.cell,z07 _ _ _ _ (by omega)]
          have cc:wr.cell? ⟨w.heap.size+1+1,1+k,none⟩=some (.int .u32 (SCHL s k (1+k):Nat)):=by rw [h2.cell,z07 _ _ _ _ (by omega)]
          have cd:wr.cell? ⟨w.heap.size+1+1,k,none⟩=some (.int .u32 (SCHL s k k:Nat)):=by rw [h2.cell,z07 _ _ _ _ (by omega)]
          have ct:wr.cell? ⟨w.heap.size+1+1,16+k,none⟩=some (.int .u32 (SCHL s k (16+k):Nat)):=by rw [h2.cell,z07 _ _ _ _ (by omega)]
          have hf:wr.frozen? ⟨w.heap.size+1+1,16+k,none⟩=false:=h2.frozen _
          have la:=z1V H.out k (14+k)
          have lc:=z1V H.out k (1+k)
          have c1:∀ w,Calls Tryz.prog 192 #[.int .u32 (SCHL s k (14+k):Nat),.int .i64 17,.int .i64 19,.int .i64 10] w fun e w'=>e=.returned (.int .u32 (z11 17 19 10 (SCHL s k (14+k)):Nat))∧∃ m,w'=w.drewN m:=fun w=>z7B _ 17 19 10 la (by decide) (by decide) (by decide) w
          have c2:∀ w,Calls Tryz.prog 192 #[.int .u32 (SCHL s k (1+k):Nat),.int .i64 7,.int .i64 18,.int .i64 3] w fun e w'=>e=.returned (.int .u32 (z11 7 18 3 (SCHL s k (1+k)):Nat))∧∃ m,w'=w.drewN m:=fun w=>z7B _ 7 18 3 lc (by decide) (by decide) (by decide) w
          have R:Aside (Below w.heap.size w wr∧Has wr (w.heap.size+1) (UARR .u32 64 fun _=>0) 222∧Has wr (w.heap.size+2) (UARR .u32 64 (SCHL s k)) 222):=⟨hb,h1,h2⟩
          have V:Aside ((z11 17 19 10 (SCHL s k (14+k))+SCHL s k (9+k)+z11 7 18 3 (SCHL s k (1+k))+SCHL s k k) % 4294967296=SCHL s (k+1) (16+k)):=by rw [Aside,SCHL,if_pos rfl]
          generalize z11 17 19 10 (SCHL s k (14+k))=p at *
          generalize z11 7 18 3 (SCHL s k (1+k))=q at *
          generalize SCHL s k (14+k)=va at *
          generalize SCHL s k (9+k)=vb at *
          generalize SCHL s k (1+k)=vc at *
          generalize SCHL s k (16+k)=vt at *
          generalize hvd:SCHL s k k=vd at *
          obtain ⟨T,hT⟩:∃ T,T=16+k:=⟨_,rfl⟩
          obtain ⟨a,ha⟩:∃ a,a=14+k:=⟨_,rfl⟩
          obtain ⟨b,hbb⟩:∃ b,b=9+k:=⟨_,rfl⟩
          obtain ⟨c,hcc⟩:∃ c,c=1+k:=⟨_,rfl⟩
          have E:Aside (T=16+k∧k+(g+1)=48):=⟨hT,hkg⟩
          rw [← hT] at hlt ct hf ⊢
          rw [← ha] at ca
          rw [← hbb] at cb
          rw [← hcc] at cc
          have e1:(T:Int) - 2=(a:Int):=by omega
          have e2:(T:Int) - 7=(b:Int):=by omega
          have e3:(T:Int) - 15=(c:Int):=by omega
          have e4:(T:Int) - 16=(k:Int):=by omega
          have f1:IntKind.i64.wrap (a:Int)=(a:Int):=by rw [IntKind.wrap_i64];omega
          have f2:IntKind.i64.wrap (b:Int)=(b:Int):=by rw [IntKind.wrap_i64];omega
          have f3:IntKind.i64.wrap (c:Int)=(c:Int):=by rw [IntKind.wrap_i64];omega
          have f4:IntKind.i64.wrap (k:Int)=(k:Int):=by rw [IntKind.wrap_i64];omega
          have g1:(a:Int)<64:=by omega
          have g2:(b:Int)<64:=by omega
          have g3:(c:Int)<64:=by omega
          have g4:(k:Int)<64:=by omega
          have n1:¬ T=a∧¬ a=T:=by omega
          have n2:¬ T=b∧¬ b=T:=by omega
          have n3:¬ T=c∧¬ c=T:=by omega
          have n4:¬ T=k∧¬ k=T:=by omega
          clear hb h1 h2 la lc hvd A hkg hT ha hbb hcc
          go_wp2_with fail
          go_region_held3 (fun W:World=>W.cell? ⟨w.heap.size+1+1,a,none⟩=some (.int .u32 (va:Int))∧W.cell? ⟨w.heap.size+1+1,b,none⟩=some (.int .u32 (vb:Int))∧W.cell? ⟨w.heap.size+1+1,c,none⟩=some (.int .u32 (vc:Int))∧W.cell? ⟨w.heap.size+1+1,k,none⟩=some (.int .u32 (vd:Int))) (first | go_keep | (refine ⟨?_,?_,?_,?_⟩ <;> (rw [z9s (by omega)];simp only [World.cell?_drewN];assumption))) (first | (go_at_call_of 192 (va:Int);refine (c1 _).mono ?_;rintro e w5 ⟨rfl,m1,rfl⟩) | (go_at_call_of 192 (vc:Int);refine (c2 _).mono ?_;rintro e w6 ⟨rfl,m2,rfl⟩))
          have hx:IntKind.u32.wrap (IntKind.u32.wrap (IntKind.u32.wrap ((p:Int)+(vb:Int))+(q:Int))+(vd:Int))=((SCHL s (k+1) (16+k):Nat):Int):=by
            rw [← V.out,z4F,z4F,z4F]
            omega
          rw [hx]
          clear hx
          generalize hz2:SCHL s (k+1) (16+k)=z
          have HZ:Aside (SCHL s (k+1) (16+k)=z):=hz2
          clear hz2
          go_wp2
          go_roundg g
          case measure=>have:=E.out.2;omega
          case rel=>
            obtain ⟨hb,h1,h2⟩:=R.out
            obtain ⟨hT,hkg⟩:=E.out
            refine ⟨k+1,by omega,by rw [hT];go_num,(below_drewN hb _).setCell (by show _≤w.heap.size+1+1;omega) _,(h1.drewN _).other (by show w.heap.size+1≠w.heap.size+1+1;omega) _,?_⟩
            have h3:=(h2.drewN (1+m1+m2)).set T (.int .u32 (z:Int))
            rw [z1A] at h3
            have e:(UARR .u32 64 fun j=>if j=T then z else SCHL s k j)=UARR .u32 64 (SCHL s (k+1)):=z0g fun j _=>by
              rw [← HZ.out,hT]
              by_cases e:j=16+k
              · rw [if_pos e,e]
              · rw [if_neg e,SCHL,if_neg e]
            rw [e] at h3
            exact h3
    | succ g=>
      obtain ⟨hb,h0,h1,h2⟩:=A.out
      have hi:(i:Int)<16:=by omega
      have hi2:(i:Int)<64:=by omega
      have hsl:=z8z w.heap.size (4*i) (by omega) (4*(i:Int)) (by omega)
      have hw:=z9z w.heap.size (4*i) (64 - 4*i) (64 - 4*i) s H.out (4*i) wr (by omega) (fun j hj=>by rw [h0.cell,z07 _ _ _ _ (by omega)])
      have hc:wr.cell? ⟨w.heap.size+1+1,i,none⟩=some (.int .u32 0):=by rw [h2.cell,z07 _ _ _ _ (by omega),if_neg (by omega)];rfl
      have hf:wr.frozen? ⟨w.heap.size+1+1,i,none⟩=false:=h2.frozen i
      generalize hv:z05 s (4*i)=v at hw
      have R:Aside (Below w.heap.size w wr∧Has wr w.heap.size (UARR .u8 64 s) 147∧Has wr (w.heap.size+1) (UARR .u32 64 fun _=>0) 222∧Has wr (w.heap.size+2) (UARR .u32 64 fun j=>if j<i then z05 s (4*j) else 0) 222∧z05 s (4*i)=v):=⟨hb,h0,h1,h2,hv⟩
      clear hb h0 h1 h2 hv A hz
      go_wp2_with fail
      refine hw.mono ?_
      rintro e w' ⟨rfl,m,rfl⟩
      clear hw
      go_wp2
      go_roundg g
      case measure=>omega
      case rel=>
        obtain ⟨hb,h0,h1,h2,hv⟩:=R.out
        refine ⟨i+1,by omega,by go_num,?_⟩
        rw [← z3A (F:=fun j=>z05 s (4*j)) (fun j=>rfl) v hv.symm]
        exact ⟨(below_drewN hb m).setCell (by show _≤w.heap.size+1+1;omega) _,(h0.drewN m).other (by show w.heap.size≠w.heap.size+1+1;omega) _,(h1.drewN m).other (by show w.heap.size+1≠w.heap.size+1+1;omega) _,(h2.drewN m).set i _⟩
end Go.Proofs.YthdpkaiieomdoaaGreatDoor.HX

namespace Go.Proofs.YthdpkaiieomdoaaGreatDoor.HX
open Go.RowKit
theorem z0T:(#[.int .u8 0,.int .u8 0,.int .u8 0,.int .u8 0,.int .u8 0,.int .u8 0,.int .u8 0,.int .u8 0,.int .u8 0,.int .u8 0,.int .u8 0,.int .u8 0,.int .u8 0,.int .u8 0,.int .u8 0,.int .u8 0,.int .u8 0,.int .u8 0,.int .u8 0,.int .u8 0,.int .u8 0,.int .u8 0,.int .u8 0,.int .u8 0,.int .u8 0,.int .u8 0,.int .u8 0,.int .u8 0,.int .u8 0,.int .u8 0,.int .u8 0,.int .u8 0]:Array Value)=UARR .u8 32 fun _=>0:=rfl
theorem z2U (x:Nat→Nat) (i r:Nat) (hr:r<4):z0a x (4*i+r)=x i / 2 ^ (24 - 8*r) % 256:=by
  unfold z0a
  rw [show (4*i+r) / 4=i by omega,show (4*i+r) % 4=r by omega]
theorem z7C (x:Nat→Nat):∀ (i:Nat),i<8→∀ w:World,(Instr.index 220 (.agg (UARR .u32 8 x)) (.int .i64 (i:Int))).run Tryz.prog w=.ok (.int .u32 (x i:Nat)) w
  | 0,_,_=>by kernel_rfl
  | 1,_,_=>by kernel_rfl
  | 2,_,_=>by kernel_rfl
  | 3,_,_=>by kernel_rfl
  | 4,_,_=>by kernel_rfl
  | 5,_,_=>by kernel_rfl
  | 6,_,_=>by kernel_rfl
  | 7,_,_=>by kernel_rfl
  | n+8,h,_=>absurd h (by omega)
theorem z6z (x:Nat→Nat) (h:∀ i,x i<2 ^ 32) (w:World):Calls Tryz.prog 167 #[.agg (UARR .u32 8 x)] w fun e w'=>e=.returned (.agg (UARR .u8 32 (z0a x)))∧Below w.heap.size w w':=by
  have hz:=z0T
  have H:Aside (∀ i,x i<2 ^ 32):=h
  clear h
  go_enter Tryz.func167,Tryz.ntmps167
  go_wp2_with (refine wpList_load_row rfl 220 _ rfl _ rfl 220 (UARR .u32 8 x) (0,0) _ (((Has.new w _ _).alloc _).alloc _) Tryz.underlying220 rfl (z2H _) ?_)
  go_loopg [8] 8 (fun g s5 wx=>∃ i:Nat,i+g=8∧s5=.int .i64 i∧Aside (Below w.heap.size w wx∧Has wx (w.heap.size+1) (UARR .u8 32 fun _=>0) 23∧Has wx (w.heap.size+2) (UARR .u8 32 fun j=>if j<4*i then z0a x j else 0) 23))
  case atStart=>
    refine ⟨0,by omega,rfl,?_⟩
    have e:(UARR .u8 32 fun j=>if j<4*0 then z0a x j else 0)=UARR .u8 32 fun _=>0:=z0g fun j _=>if_neg (by omega)
    rw [e]
    exact ⟨(((Below.refl _ _).alloc (Nat.le_refl _) _).alloc (by simp) _).alloc (by simp;omega) _,(Has.at _ _ _ (by simp)).alloc _,Has.at _ _ _ (by simp)⟩
  case round=>
    obtain ⟨i,hig,rfl,A⟩:=hrel
    clear hz
    cases gk with
    | zero=>
      obtain rfl:i=8:=by omega
      obtain ⟨hb,h1,h2⟩:=A.out
      go_wp2_with (first
        | (refine wpList_load_row rfl 23 _ rfl _ rfl _ _ (0,0) _ h2 Tryz.underlying23 rfl (z02 _) ?_)
        | (refine wpList_store_row rfl 23 _ _ rfl _ _ rfl rfl _ _ h1 (z02 _) (by rw [z01,z01]) (z0e _ _ _) ?_))
      have e:(UARR .u8 32 fun j=>if j<4*8 then z0a x j else 0)=UARR .u8 32 (z0a x):=z0g fun j hj=>by rw [if_pos (by omega)]
      rw [e]
      refine bodyPost_ret (v:=.agg (UARR .u8 32 (z0a x))) ?_ rfl ⟨rfl,z04 hb (by omega) _⟩
      exact results_cell_row rfl _ _ (w.heap.size+1) 23 _ (0,0) _ rfl (h1.row _) Tryz.underlying23 rfl (z02 _)
    | succ g=>
      obtain ⟨hb,h1,h2⟩:=A.out
      have hi:(i:Int)<8:=by omega
      have hxi:=z7C x i (by omega)
      have c0:wr.cell? ⟨w.heap.size+1+1,4*i,none⟩=some (.int .u8 0):=by rw [h2.cell,z07 _ _ _ _ (by omega),if_neg (by omega)];rfl
      have c1:wr.cell? ⟨w.heap.size+1+1,4*i+1,none⟩=some (.int .u8 0):=by rw [h2.cell,z07 _ _ _ _ (by omega),if_neg (by omega)];rfl
      have c2:wr.cell? ⟨w.heap.size+1+1,4*i+2,none⟩=some (.int .u8 0):=by rw [h2.cell,z07 _ _ _ _ (by omega),if_neg (by omega)];rfl
      have c3:wr.cell? ⟨w.heap.size+1+1,4*i+3,none⟩=some (.int .u8 0):=by rw [h2.cell,z07 _ _ _ _ (by omega),if_neg (by omega)];rfl
      have f0:wr.frozen? ⟨w.heap.size+1+1,4*i,none⟩=false:=h2.frozen _
      have f1:wr.frozen? ⟨w.heap.size+1+1,4*i+1,none⟩=false:=h2.frozen _
      have f2:wr.frozen? ⟨w.heap.size+1+1,4*i+2,none⟩=false:=h2.frozen _
      have f3:wr.frozen? ⟨w.heap.size+1+1,4*i+3,none⟩=false:=h2.frozen _
      have R:Aside (Below w.heap.size w wr∧Has wr (w.heap.size+1) (UARR .u8 32 fun _=>0) 23∧Has wr (w.heap.size+2) (UARR .u8 32 fun j=>if j<4*i then z0a x j else 0) 23):=⟨hb,h1,h2⟩
      clear hb h1 h2 A
      generalize hX:x i=X at *
      obtain ⟨o,ho⟩:∃ o,o=4*i:=⟨_,rfl⟩
      rw [← ho] at c0 c1 c2 c3 f0 f1 f2 f3
      have e0:4*(i:Int)=(o:Int):=by omega
      obtain ⟨o1,ho1⟩:∃ o1,o1=o+1:=⟨_,rfl⟩
      obtain ⟨o2,ho2⟩:∃ o2,o2=o+2:=⟨_,rfl⟩
      obtain ⟨o3,ho3⟩:∃ o3,o3=o+3:=⟨_,rfl⟩
      rw [← ho1] at c1 f1
      rw [← ho2] at c2 f2
      rw [← ho3] at c3 f3
      have e1:(o:Int)+1=(o1:Int):=by omega
      have e2:(o:Int)+2=(o2:Int):=by omega
      have e3:(o:Int)+3=(o3:Int):=by omega
      have E:Aside (o=4*i∧x i=X∧o1=o+1∧o2=o+2∧o3=o+3):=⟨ho,hX,ho1,ho2,ho3⟩
      have l0:(o:Int)<32:=by omega
      have l1:(o1:Int)<32:=by omega
      have l2:(o2:Int)<32:=by omega
      have l3:(o3:Int)<32:=by omega
      have n1:(⟨w.heap.size+1+1,o,none⟩:Addr)≠⟨w.heap.size+1+1,o1,none⟩:=fun e=>by have:=congrArg Addr.off e;simp at this;omega
      have n2:(⟨w.heap.size+1+1,o,none⟩:Addr)≠⟨w.heap.size+1+1,o2,none⟩:=fun e=>by have:=congrArg Addr.off e;simp at this;omega
      have n3:(⟨w.heap.size+1+1,o,none⟩:Addr)≠⟨w.heap.size+1+1,o3,none⟩:=fun e=>by have:=congrArg Addr.off e;simp at this;omega
      have n4:(⟨w.heap.size+1+1,o1,none⟩:Addr)≠⟨w.heap.size+1+1,o2,none⟩:=fun e=>by have:=congrArg Addr.off e;simp at this;omega
      have n5:(⟨w.heap.size+1+1,o1,none⟩:Addr)≠⟨w.heap.size+1+1,o3,none⟩:=fun e=>by have:=congrArg Addr.off e;simp at this;omega
      have n6:(⟨w.heap.size+1+1,o2,none⟩:Addr)≠⟨w.heap.size+1+1,o3,none⟩:=fun e=>by have:=congrArg Addr.off e;simp at this;omega
      clear ho hX ho1 ho2 ho3
      go_wp2
      go_roundg g
      case measure=>omega
      case rel=>
        obtain ⟨hb,h1,h2⟩:=R.out
        obtain ⟨rfl,rfl,rfl,rfl,rfl⟩:=E.out
        refine ⟨i+1,by omega,by go_num,((((hb.setCell (by show _≤w.heap.size+1+1;omega) _).setCell (by show _≤w.heap.size+1+1;omega) _).setCell (by show _≤w.heap.size+1+1;omega) _).setCell (by show _≤w.heap.size+1+1;omega) _),((((h1.other (by show w.heap.size+1≠w.heap.size+1+1;omega) _).other (by show w.heap.size+1≠w.heap.size+1+1;omega) _).other (by show w.heap.size+1≠w.heap.size+1+1;omega) _).other (by show w.heap.size+1≠w.heap.size+1+1;omega) _),?_⟩
        have k0:z0a x (4*i)=x i / 16777216 % 256:=z2U x i 0 (by omega)
        have k1:z0a x (4*i+1)=x i / 65536 % 256:=z2U x i 1 (by omega)
        have k2:z0a x (4*i+2)=x i / 256 % 256:=z2U x i 2 (by omega)
        have k3:z0a x (4*i+3)=x i % 256:=by rw [z2U x i 3 (by omega)];simp
        have q0:(x i:Int) / 16777216 % 256=((z0a x (4*i):Nat):Int):=by rw [k0];omega
        have q1:(x i:Int) / 65536 % 256=((z0a x (4*i+1):Nat):Int):=by rw [k1];omega
        have q2:(x i:Int) / 256 % 256=((z0a x (4*i+2):Nat):Int):=by rw [k2];omega
        have q3:(x i:Int) % 256=((z0a x (4*i+3):Nat):Int):=by rw [k3];omega
        rw [q0,q1,q2,q3]
        have h3:=(((h2.set (4*i) (.int .u8 (z0a x (4*i):Nat))).set (4*i+1) (.int .u8 (z0a x (4*i+1):Nat))).set (4*i+2) (.int .u8 (z0a x (4*i+2):Nat))).set (4*i+3) (.int .u8 (z0a x (4*i+3):Nat))
        rw [z3A (F:=z0a x) (fun _=>rfl) _ rfl,z3A (F:=z0a x) (fun _=>rfl) _ rfl,z3A (F:=z0a x) (fun _=>rfl) _ rfl,z3A (F:=z0a x) (fun _=>rfl) _ rfl] at h3
        exact h3
theorem Has.cells {k:IntKind} {n g:Nat} {t:TypeId}:∀ (vs:List Nat) (o:Nat) (f:Nat→Nat) (w:World),Has w g (UARR k n f) t→
    Has (w.setCells g o (vs.map fun v=>Value.int k ((v:Nat):Int))) g (UARR k n fun j=>if o≤j∧j<o+vs.length then vs.getD (j - o) 0 else f j) t
  | [],o,f,w,h=>by
    have e:(UARR k n fun j=>if o≤j∧j<o+([]:List Nat).length then ([]:List Nat).getD (j - o) 0 else f j)=UARR k n f:=z0g fun j _=>if_neg (by rw [List.length_nil];omega)
    rw [e]
    exact h
  | v :: vs,o,f,w,h=>by
    have h1:=Has.cells vs (o+1) _ _ (z1A k n f o v ▸ h.set o (.int k (v:Int)))
    have e:(UARR k n fun j=>if o+1≤j∧j<o+1+vs.length then vs.getD (j - (o+1)) 0 else if j=o then v else f j)=UARR k n fun j=>if o≤j∧j<o+(v :: vs).length then (v :: vs).getD (j - o) 0 else f j:=z0g fun j _=>by
      rw [List.length_cons]
      by_cases e:j=o
      · subst e
        rw [if_neg (by omega),if_pos rfl,if_pos (by omega),Nat.sub_self]
        rfl
      · rw [if_neg e]
        by_cases e2:o+1≤j∧j<o+1+vs.length
        · rw [if_pos e2,if_pos (by omega)]
          obtain ⟨q,hq⟩:∃ q,j - o=q+1:=⟨j - o - 1,by omega⟩
          rw [hq,show j - (o+1)=q by omega]
          rfl
        · rw [if_neg e2,if_neg (by omega)]
    rw [e] at h1
    exact h1
theorem Has.cells_other {g b:Nat} {t:TypeId} {c:Array Value} (hb:g≠b):∀ (vs:List Value) (o:Nat) (w:World),Has w g c t→Has (w.setCells b o vs) g c t
  | [],_,_,h=>h
  | _ :: vs,o,_,h=>Has.cells_other hb vs (o+1) _ (h.other (by exact hb) _)
theorem z4U {B b:Nat} {w0:World} (hB:B≤b):∀ (vs:List Value) (o:Nat) (w:World),Below B w0 w→Below B w0 (w.setCells b o vs)
  | [],_,_,h=>h
  | _ :: vs,o,_,h=>z4U hB vs (o+1) _ (h.setCell (by exact hB) _)
theorem z7D {w:Int} (h:WID w=32) (s:Nat→Nat):UARR .u8 32 (z0z w s)=UARR .u8 32 s:=z0g fun j hj=>by unfold z0z;rw [if_pos (by omega)]
theorem zcZ (w:World) (b o n c:Nat) (ty:TypeId) (hn:0<n) (hc:∀ j,j<n→(w.cell? ⟨b,o+j,none⟩).isSome=true) (hf:∀ j,j<n→w.frozen? ⟨b,o+j,none⟩=false):
    (Builtin.clear_ #[26] ty #[.slice (some ⟨b,o,none⟩) n c]).run Tryz.prog w=.ok (.tuple #[]) (w.setCells b o (List.replicate n (.int .u8 0))):=by
  obtain ⟨i8,hi,h8⟩:=Option.map_eq_some_iff.1 z0I
  simp only [Prod.mk.injEq] at h8
  exact Lib.run_clear_slice w 26 5 ty (.int .u8 0) Tryz.underlying26 (fun w=>by simp [zeroValue,typeInfo,hi,h8.1]) rfl rfl b o n c hn hc hf
theorem z3W (d:Int) (n:Nat) (hn:WID d=n) (h32:n<32) (s:Nat→Nat) (w:World):
    (∀ ty,(Builtin.clear_ #[26] ty #[.slice (some ⟨w.heap.size,n,none⟩) (32 - n) (32 - n)]).run Tryz.prog ((w.alloc (.cells (UARR .u8 32 s) 23)).alloc (.cells (UARR .u8 32 fun _=>0) 23))=.ok (.tuple #[]) (((w.alloc (.cells (UARR .u8 32 s) 23)).alloc (.cells (UARR .u8 32 fun _=>0) 23)).setCells w.heap.size n (List.replicate (32 - n) (.int .u8 0))))∧
    Has (((w.alloc (.cells (UARR .u8 32 s) 23)).alloc (.cells (UARR .u8 32 fun _=>0) 23)).setCells w.heap.size n (List.replicate (32 - n) (.int .u8 0))) w.heap.size (UARR .u8 32 (z0z d s)) 23∧
    Has (((w.alloc (.cells (UARR .u8 32 s) 23)).alloc (.cells (UARR .u8 32 fun _=>0) 23)).setCells w.heap.size n (List.replicate (32 - n) (.int .u8 0))) (w.heap.size+1) (UARR .u8 32 fun _=>0) 23∧
    Below w.heap.size w (((w.alloc (.cells (UARR .u8 32 s) 23)).alloc (.cells (UARR .u8 32 fun _=>0) 23)).setCells w.heap.size n (List.replicate (32 - n) (.int .u8 0))):=by
  have h0:Has ((w.alloc (.cells (UARR .u8 32 s) 23)).alloc (.cells (UARR .u8 32 fun _=>0) 23)) w.heap.size (UARR .u8 32 s) 23:=(Has.new w _ _).alloc _
  have h1:Has ((w.alloc (.cells (UARR .u8 32 s) 23)).alloc (.cells (UARR .u8 32 fun _=>0) 23)) (w.heap.size+1) (UARR .u8 32 fun _=>0) 23:=Has.at _ _ _ (by simp)
  have hb:Below w.heap.size w ((w.alloc (.cells (UARR .u8 32 s) 23)).alloc (.cells (UARR .u8 32 fun _=>0) 23)):=((Below.refl _ _).alloc (Nat.le_refl _) _).alloc (by simp) _
  refine ⟨fun ty=>zcZ _ _ n (32 - n) (32 - n) ty (by omega) (fun j hj=>by rw [h0.cell,z07 _ _ _ _ (by omega)];rfl) (fun j _=>h0.frozen _),?_,h1.cells_other (by omega) _ _ _,z4U (Nat.le_refl _) _ _ _ hb⟩
  have h2:=h0.cells (List.replicate (32 - n) 0) n
  have e:(UARR .u8 32 fun j=>if n≤j∧j<n+(List.replicate (32 - n) 0).length then (List.replicate (32 - n) 0).getD (j - n) 0 else s j)=UARR .u8 32 (z0z d s):=z0g fun j hj=>by
    unfold z0z
    rw [hn,List.length_replicate]
    by_cases e:j<n
    · rw [if_neg (by omega),if_pos e]
    · rw [if_pos (by omega),if_neg e]
      rw [List.getD_eq_getElem?_getD,List.getElem?_replicate]
      split <;> rfl
  rw [e,List.map_replicate] at h2
  exact h2
set_option maxRecDepth 100000 in
theorem z6A (d:Int) (s:Nat→Nat) (w:World):Calls Tryz.prog 166 #[.int .i64 d,.agg (UARR .u8 32 s)] w fun e w'=>e=.returned (.agg (UARR .u8 32 (z0z d s)))∧Below w.heap.size w w':=by
  have hz:=z0T
  by_cases d1:d<1
  · have hW:WID d=1:=by unfold WID;omega
    have K:=z3W d 1 hW (by decide) s w
    have HCL:Aside _:=K.1
    have HC:Aside _:=K.2
    clear K hW
    go_enter Tryz.func166,Tryz.ntmps166
    go_wp2
    rw [HCL.out]
    go_wp2_with (first
      | (refine wpList_load_row rfl 23 _ rfl _ rfl _ _ (0,0) _ HC.out.1 Tryz.underlying23 rfl (z02 _) ?_)
      | (refine wpList_store_row rfl 23 _ _ rfl _ _ rfl rfl _ _ HC.out.2.1 (z02 _) (by rw [z01,z01]) (z0e _ _ _) ?_))
    refine bodyPost_ret (v:=.agg (UARR .u8 32 (z0z d s))) ?_ rfl ⟨rfl,z04 HC.out.2.2 (by omega) _⟩
    exact results_cell_row rfl _ _ (w.heap.size+1) 23 _ (0,0) _ rfl (HC.out.2.1.row _) Tryz.underlying23 rfl (z02 _)
  · have d2:1≤d:=by omega
    by_cases d3:d<32
    · obtain ⟨n,rfl⟩:∃ n:Nat,d=(n:Int):=⟨d.toNat,by omega⟩
      have hW:WID n=n:=by unfold WID;omega
      have K:=z3W n n hW (by omega) s w
      have HCL:Aside _:=K.1
      have HC:Aside _:=K.2
      have hsl:=z5J w.heap.size n (by omega) (n:Int) rfl
      clear K hW
      go_enter Tryz.func166,Tryz.ntmps166
      go_wp2
      rw [HCL.out]
      go_wp2_with (first
        | (refine wpList_load_row rfl 23 _ rfl _ rfl _ _ (0,0) _ HC.out.1 Tryz.underlying23 rfl (z02 _) ?_)
        | (refine wpList_store_row rfl 23 _ _ rfl _ _ rfl rfl _ _ HC.out.2.1 (z02 _) (by rw [z01,z01]) (z0e _ _ _) ?_))
      refine bodyPost_ret (v:=.agg (UARR .u8 32 (z0z n s))) ?_ rfl ⟨rfl,z04 HC.out.2.2 (by omega) _⟩
      exact results_cell_row rfl _ _ (w.heap.size+1) 23 _ (0,0) _ rfl (HC.out.2.1.row _) Tryz.underlying23 rfl (z02 _)
    · have hW:WID d=32:=by unfold WID;omega
      have HCL:Aside (∀ ty b (w:World),(Builtin.clear_ #[26] ty #[.slice (some ⟨b,0,none⟩) 0 0]).run Tryz.prog w=.ok (.tuple #[]) w):=fun ty b w=>by simp [Builtin.clear_,run_underlying Tryz.underlying26]
      have HC:Aside (Has ((w.alloc (.cells (UARR .u8 32 s) 23)).alloc (.cells (UARR .u8 32 fun _=>0) 23)) w.heap.size (UARR .u8 32 (z0z d s)) 23∧Has ((w.alloc (.cells (UARR .u8 32 s) 23)).alloc (.cells (UARR .u8 32 fun _=>0) 23)) (w.heap.size+1) (UARR .u8 32 fun _=>0) 23∧Below w.heap.size w ((w.alloc (.cells (UARR .u8 32 s) 23)).alloc (.cells (UARR .u8 32 fun _=>0) 23))):=
        ⟨by rw [z7D hW];exact (Has.new w _ _).alloc _,Has.at _ _ _ (by simp),((Below.refl _ _).alloc (Nat.le_refl _) _).alloc (by simp) _⟩
      rcases Int.lt_or_eq_of_le (show (32:Int)≤d by omega) with d4 | d4
      · clear hW
        go_enter Tryz.func166,Tryz.ntmps166
        go_wp2
        rw [HCL.out]
        go_wp2_with (first
          | (refine wpList_load_row rfl 23 _ rfl _ rfl _ _ (0,0) _ HC.out.1 Tryz.underlying23 rfl (z02 _) ?_)
          | (refine wpList_store_row rfl 23 _ _ rfl _ _ rfl rfl _ _ HC.out.2.1 (z02 _) (by rw [z01,z01]) (z0e _ _ _) ?_))
        refine bodyPost_ret (v:=.agg (UARR .u8 32 (z0z d s))) ?_ rfl ⟨rfl,z04 HC.out.2.2 (by omega) _⟩
        exact results_cell_row rfl _ _ (w.heap.size+1) 23 _ (0,0) _ rfl (HC.out.2.1.row _) Tryz.underlying23 rfl (z02 _)
      · subst d4
        clear hW
        go_enter Tryz.func166,Tryz.ntmps166
        go_wp2
        rw [HCL.out]
        go_wp2_with (first
          | (refine wpList_load_row rfl 23 _ rfl _ rfl _ _ (0,0) _ HC.out.1 Tryz.underlying23 rfl (z02 _) ?_)
          | (refine wpList_store_row rfl 23 _ _ rfl _ _ rfl rfl _ _ HC.out.2.1 (z02 _) (by rw [z01,z01]) (z0e _ _ _) ?_))
        refine bodyPost_ret (v:=.agg (UARR .u8 32 (z0z 32 s))) ?_ rfl ⟨rfl,z04 HC.out.2.2 (by omega) _⟩
        exact results_cell_row rfl _ _ (w.heap.size+1) 23 _ (0,0) _ rfl (HC.out.2.1.row _) Tryz.underlying23 rfl (z02 _)
end Go.Proofs.YthdpkaiieomdoaaGreatDoor.HX

namespace Go.Proofs.YthdpkaiieomdoaaGreatDoor.HX
open Go.RowKit
def BEGIN:List Nat:=[1779033703,3144134277,1013904242,2773480762,1359893119,2600822924,528734635,1541459225]
def Tabled (w:World):Prop:=(∀ i,i<64→w.cell? ⟨1,i,none⟩=some (.int .u32 (KC i:Nat)))∧(∀ i,i<8→w.cell? ⟨0,i,none⟩=some (.int .u32 (BEGIN.getD i 0:Nat)))∧1<w.heap.size
theorem Tabled.below {w w':World} (h:Tabled w) (hb:Below w.heap.size w w'):Tabled w':=
  ⟨fun i hi=>(hb.cell (by show 1<w.heap.size;have:=h.2.2;omega)).trans (h.1 i hi),fun i hi=>(hb.cell (by show 0<w.heap.size;have:=h.2.2;omega)).trans (h.2.1 i hi),Nat.lt_of_lt_of_le h.2.2 hb.size⟩
theorem z8B (d:Int) (s b:Nat→Nat) (hs:∀ i,s i<256) (hb:∀ i,b i<256) (w:World) (hT:Tabled w):Calls Tryz.prog 136 #[.int .i64 d,.agg (UARR .u8 32 s),.agg (UARR .u8 64 b)] w fun e w'=>e=.returned (.agg (UARR .u8 32 (COMP d s b)))∧Below w.heap.size w w':=by
  have hz8:(#[.int .u32 0,.int .u32 0,.int .u32 0,.int .u32 0,.int .u32 0,.int .u32 0,.int .u32 0,.int .u32 0]:Array Value)=UARR .u32 8 fun _=>0:=rfl
  have hz:=z0T
  have hz64:=zby
  have H:Aside ((∀ i,s i<256)∧(∀ i,b i<256)∧Tabled w):=⟨hs,hb,hT⟩
  have cw:=zcY s hs
  have cs:=z8A b hb
  clear hs hb hT
  go_enter Tryz.func136,Tryz.ntmps136
  go_wp2_with (first
    | (refine wpList_load_row rfl 23 _ rfl _ rfl 23 (UARR .u8 32 s) (0,0) _ (((Has.new w _ _).alloc _).alloc _) Tryz.underlying23 rfl (z02 _) ?_))
  refine (cw _).mono ?_
  rintro e w1 ⟨rfl,hb1⟩
  clear cw
  have R:Aside (Below w.heap.size w w1∧Has w1 (w.heap.size+1) (UARR .u8 64 b) 147∧Has w1 (w.heap.size+2) (UARR .u8 32 fun _=>0) 23):=
    ⟨((((Below.refl _ _).alloc (Nat.le_refl _) _).alloc (by simp) _).alloc (by simp;omega) _).trans (hb1.mono (by simp;omega)),((Has.at _ _ _ (by simp)).alloc _).keep hb1,(Has.at _ _ _ (by simp)).keep hb1⟩
  clear hb1
  go_wp2_with (first
    | (refine wpList_store_row rfl 220 _ _ rfl _ _ rfl rfl 220 (UARR .u32 8 fun _=>0) (Has.new w1 _ _) (z2H _) (by rw [z01,z01]) (z0e _ _ _) ?_))
  rw [World.setRow_alloc_new]
  obtain ⟨R1,R2,R3⟩:=R.out
  have h2:=Has.new w1 (UARR .u32 8 fun i=>z05 s (4*i)) 220
  have L:Aside (Below w.heap.size w (w1.alloc (.cells (UARR .u32 8 fun i=>z05 s (4*i)) 220))∧Has (w1.alloc (.cells (UARR .u32 8 fun i=>z05 s (4*i)) 220)) (w.heap.size+1) (UARR .u8 64 b) 147∧Has (w1.alloc (.cells (UARR .u32 8 fun i=>z05 s (4*i)) 220)) (w.heap.size+2) (UARR .u8 32 fun _=>0) 23∧w.heap.size+2<w1.heap.size):=⟨R1.alloc R1.size _,R2.alloc _,R3.alloc _,R3.lt⟩
  generalize w1.alloc (.cells (UARR .u32 8 fun i=>z05 s (4*i)) 220)=w2 at *
  generalize w1.heap.size=g1 at *
  clear R1 R2 R3 R w1
  have c0:w2.cell? ⟨g1,0,none⟩=some (.int .u32 ((STOF s).a:Nat)):=by rw [h2.cell,z07 _ _ _ _ (by omega)];rfl
  have c1:w2.cell? ⟨g1,1,none⟩=some (.int .u32 ((STOF s).b:Nat)):=by rw [h2.cell,z07 _ _ _ _ (by omega)];rfl
  have c2:w2.cell? ⟨g1,2,none⟩=some (.int .u32 ((STOF s).c:Nat)):=by rw [h2.cell,z07 _ _ _ _ (by omega)];rfl
  have c3:w2.cell? ⟨g1,3,none⟩=some (.int .u32 ((STOF s).d:Nat)):=by rw [h2.cell,z07 _ _ _ _ (by omega)];rfl
  have c4:w2.cell? ⟨g1,4,none⟩=some (.int .u32 ((STOF s).e:Nat)):=by rw [h2.cell,z07 _ _ _ _ (by omega)];rfl
  have c5:w2.cell? ⟨g1,5,none⟩=some (.int .u32 ((STOF s).f:Nat)):=by rw [h2.cell,z07 _ _ _ _ (by omega)];rfl
  have c6:w2.cell? ⟨g1,6,none⟩=some (.int .u32 ((STOF s).g:Nat)):=by rw [h2.cell,z07 _ _ _ _ (by omega)];rfl
  have c7:w2.cell? ⟨g1,7,none⟩=some (.int .u32 ((STOF s).h:Nat)):=by rw [h2.cell,z07 _ _ _ _ (by omega)];rfl
  have L2:Aside (Has w2 g1 (UARR .u32 8 fun i=>z05 s (4*i)) 220):=h2
  clear h2
  have HS:Aside (Small (STOF s)):=z5G H.out.1
  generalize hST:STOF s=S0 at *
  have HST:Aside (STOF s=S0):=hST
  clear hST
  go_quiet (fail)
  clear c0 c1 c2 c3 c4 c5 c6 c7
  go_wp2_with (first
    | (refine wpList_load_row rfl 147 _ rfl _ rfl 147 (UARR .u8 64 b) (0,0) _ (L.out.2.1.drewN _) Tryz.underlying147 rfl (z5I _) ?_))
  refine (cs _).mono ?_
  rintro e w3 ⟨rfl,hb3⟩
  clear cs
  have hb4:Below w2.heap.size w2 w3:=(below_drewN (Below.refl _ w2) nq).trans hb3
  have M:Aside (Below w.heap.size w w3∧Has w3 (w.heap.size+2) (UARR .u8 32 fun _=>0) 23∧Has w3 g1 (UARR .u32 8 fun i=>z05 s (4*i)) 220∧w.heap.size+2<g1):=
    ⟨L.out.1.trans (hb4.mono L.out.1.size),L.out.2.2.1.keep hb4,L2.out.keep hb4,L.out.2.2.2⟩
  clear L L2 hb3 hb4
  go_wp2_with (first
    | (refine wpList_store_row rfl 222 _ _ rfl _ _ rfl rfl 222 (UARR .u32 64 fun _=>0) (Has.new w3 _ _) (z3z _) (by rw [z01,z01]) (z0e _ _ _) ?_))
  rw [World.setRow_alloc_new]
  have hb5:Below w3.heap.size w3 (w3.alloc (.cells (UARR .u32 64 (SCH b)) 222)):=(Below.refl _ _).alloc (Nat.le_refl _) _
  have N:Aside (Below w.heap.size w (w3.alloc (.cells (UARR .u32 64 (SCH b)) 222))∧Has (w3.alloc (.cells (UARR .u32 64 (SCH b)) 222)) (w.heap.size+2) (UARR .u8 32 fun _=>0) 23∧Has (w3.alloc (.cells (UARR .u32 64 (SCH b)) 222)) g1 (UARR .u32 8 fun i=>z05 s (4*i)) 220∧w.heap.size+2<g1∧Has (w3.alloc (.cells (UARR .u32 64 (SCH b)) 222)) w3.heap.size (UARR .u32 64 (SCH b)) 222):=
    ⟨M.out.1.alloc M.out.1.size _,M.out.2.1.keep hb5,M.out.2.2.1.keep hb5,M.out.2.2.2,Has.new _ _ _⟩
  clear hb5 M
  generalize w3.alloc (.cells (UARR .u32 64 (SCH b)) 222)=w4 at *
  generalize w3.heap.size=g2 at *
  clear w3
  clear hz hz8 hz64
  go_loopg [8,9,10,11,12,13,14,15,42] 64 (fun g s8 s9 s10 s11 s12 s13 s14 s15 s42 wx=>∃ (t:Nat) (S:ST),t+g=64∧Aside (S=RUN (SCH b) S0 t∧∃ m,wx=w4.drewN m)∧s42=.int .i64 t∧s8=.int .u32 (S.a:Nat)∧s9=.int .u32 (S.b:Nat)∧s10=.int .u32 (S.c:Nat)∧s11=.int .u32 (S.d:Nat)∧s12=.int .u32 (S.e:Nat)∧s13=.int .u32 (S.f:Nat)∧s14=.int .u32 (S.g:Nat)∧s15=.int .u32 (S.h:Nat))
  case atStart=>exact ⟨0,S0,by omega,⟨rfl,0,rfl⟩,rfl,rfl,rfl,rfl,rfl,rfl,rfl,rfl,rfl⟩
  case round=>
    obtain ⟨t,S,htg,A,rfl,rfl,rfl,rfl,rfl,rfl,rfl,rfl,rfl⟩:=hrel
    have B:Aside (Small S):=by rw [A.out.1];exact z4d _ HS.out t
    cases gk with
    | zero=>
      obtain rfl:t=64:=by omega
      obtain ⟨hS,m,hm⟩:=A.out
      obtain ⟨b1,b2,b3,b4,b5,b6,b7,b8⟩:=B.out
      have hbl:#[Value.int .u32 (S.a:Nat),.int .u32 (S.b:Nat),.int .u32 (S.c:Nat),.int .u32 (S.d:Nat),.int .u32 (S.e:Nat),.int .u32 (S.f:Nat),.int .u32 (S.g:Nat),.int .u32 (S.h:Nat)]=UARR .u32 8 S.at:=rfl
      have N1:Aside (Below w.heap.size w wr∧Has wr (w.heap.size+2) (UARR .u8 32 fun _=>0) 23∧Has wr g1 (UARR .u32 8 fun i=>z05 s (4*i)) 220∧w.heap.size+2<g1):=by
        rw [hm]
        exact ⟨below_drewN N.out.1 m,N.out.2.1.drewN m,N.out.2.2.1.drewN m,N.out.2.2.2.1⟩
      have F:Aside (S=RUN (SCH b) (STOF s) 64):=by rw [HST.out];exact hS
      clear A B N hS hm HS HST b1 b2 b3 b4 b5 b6 b7 b8
      go_wp2_with fail
      clear hbl
      go_loopg [91] 8 (fun g s91 wx=>∃ i:Nat,i+g=8∧s91=.int .i64 i∧Aside (Below w.heap.size w wx∧Has wx (w.heap.size+2) (UARR .u8 32 fun _=>0) 23∧Has wx g1 (UARR .u32 8 fun j=>if j<i then OUTW s b j else z05 s (4*j)) 220))
      case atStart=>
        have e:(UARR .u32 8 fun j=>if j<0 then OUTW s b j else z05 s (4*j))=UARR .u32 8 fun i=>z05 s (4*i):=z0g fun j _=>if_neg (by omega)
        refine ⟨0,by omega,rfl,?_⟩
        rw [e]
        exact ⟨N1.out.1,N1.out.2.1,N1.out.2.2.1⟩
      case round=>
        obtain ⟨i,hig,rfl,A⟩:=hrel
        cases gk with
        | zero=>
          obtain rfl:i=8:=by omega
          have e:(UARR .u32 8 fun j=>if j<8 then OUTW s b j else z05 s (4*j))=UARR .u32 8 (OUTW s b):=z0g fun j hj=>by rw [if_pos hj]
          rw [e] at A
          clear e
          have cj:=z6z (OUTW s b) (fun i=>Nat.mod_lt _ (by decide))
          have cn:=z6A d (z0a (OUTW s b))
          go_wp2_with (first
            | (refine wpList_load_row rfl 220 _ rfl _ rfl 220 (UARR .u32 8 (OUTW s b)) (0,0) _ A.out.2.2 Tryz.underlying220 rfl (z2H _) ?_))
          refine (cj _).mono ?_
          rintro e w5 ⟨rfl,hb5⟩
          clear cj
          have P:Aside (Below w.heap.size w w5∧Has w5 (w.heap.size+2) (UARR .u8 32 fun _=>0) 23):=⟨A.out.1.trans (hb5.mono A.out.1.size),A.out.2.1.keep hb5⟩
          clear A hb5
          go_wp2_with fail
          refine (cn _).mono ?_
          rintro e w6 ⟨rfl,hb6⟩
          clear cn
          have Q:Aside (Below w.heap.size w w6∧Has w6 (w.heap.size+2) (UARR .u8 32 fun _=>0) 23):=⟨P.out.1.trans (hb6.mono P.out.1.size),P.out.2.keep hb6⟩
          clear P hb6
          have hC:z0z d (z0a (OUTW s b))=COMP d s b:=rfl
          rw [hC]
          clear hC
          go_wp2_with (first
            | (refine wpList_store_row rfl 23 _ _ rfl _ _ rfl rfl _ _ Q.out.2 (z02 _) (by rw [z01,z01]) (z0e _ _ _) ?_))
          refine bodyPost_ret (v:=.agg (UARR .u8 32 (COMP d s b))) ?_ rfl ⟨rfl,z04 Q.out.1 (by omega) _⟩
          exact results_cell_row rfl _ _ (w.heap.size+2) 23 _ (0,0) _ rfl (Q.out.2.row _) Tryz.underlying23 rfl (z02 _)
        | succ g=>
          obtain ⟨hb,h1,h2⟩:=A.out
          have hi:(i:Int)<8:=by omega
          have hxi:=z7C S.at i (by omega)
          have hc:wr.cell? ⟨g1,i,none⟩=some (.int .u32 (z05 s (4*i):Nat)):=by rw [h2.cell,z07 _ _ _ _ (by omega),if_neg (by omega)]
          have hf:wr.frozen? ⟨g1,i,none⟩=false:=h2.frozen i
          have R:Aside (Below w.heap.size w wr∧Has wr (w.heap.size+2) (UARR .u8 32 fun _=>0) 23∧Has wr g1 (UARR .u32 8 fun j=>if j<i then OUTW s b j else z05 s (4*j)) 220∧w.heap.size+2<g1∧(z05 s (4*i)+S.at i) % 4294967296=OUTW s b i):=⟨hb,h1,h2,N1.out.2.2.2,by rw [F.out];rfl⟩
          clear hb h1 h2 A N1
          generalize z05 s (4*i)=v at *
          generalize S.at i=x at *
          go_wp2
          go_roundg g
          case measure=>omega
          case rel=>
            obtain ⟨hb,h1,h2,hg,hv⟩:=R.out
            refine ⟨i+1,by omega,by go_num,hb.setCell (by show _≤g1;omega) _,h1.other (by show _≠g1;omega) _,?_⟩
            have h3:=h2.set i (.int .u32 (OUTW s b i:Nat))
            rw [z1A] at h3
            have e:(UARR .u32 8 fun j=>if j=i then OUTW s b i else if j<i then OUTW s b j else z05 s (4*j))=UARR .u32 8 fun j=>if j<i+1 then OUTW s b j else z05 s (4*j):=z0g fun j _=>by
              by_cases e:j=i
              · rw [if_pos e,e,if_pos (by omega)]
              · rw [if_neg e]
                by_cases e2:j<i
                · rw [if_pos e2,if_pos (by omega)]
                · rw [if_neg e2,if_neg (by omega)]
            rw [e] at h3
            have hx:((v:Int)+(x:Int)) % 4294967296=((OUTW s b i:Nat):Int):=by rw [← hv];omega
            rw [hx]
            exact h3
    | succ g=>
      have ht:(t:Int)<64:=by omega
      obtain ⟨hS,m,hm⟩:=A.out
      have D:Aside (∃ m,wr=w4.drewN m):=⟨m,hm⟩
      have cK:wr.cell? ⟨1,t,none⟩=some (.int .u32 (KC t:Nat)):=by
        rw [hm]
        exact (N.out.1.cell (by show 1<w.heap.size;have:=H.out.2.2.2.2;omega)).trans (H.out.2.2.1 t (by omega))
      have cX:wr.cell? ⟨g2,t,none⟩=some (.int .u32 (SCH b t:Nat)):=by rw [hm,(N.out.2.2.2.2.drewN m).cell,z07 _ _ _ _ (by omega)]
      obtain ⟨b1,b2,b3,b4,b5,b6,b7,b8⟩:=B.out
      have k1:∀ w,Calls Tryz.prog 170 #[.int .u32 (S.e:Nat),.int .i64 6,.int .i64 11,.int .i64 25] w fun e w'=>e=.returned (.int .u32 (MIX 6 11 25 S.e:Nat))∧w=w':=fun w=>zbv _ 6 11 25 b5 (by decide) (by decide) (by decide) w
      have k2:∀ w,Calls Tryz.prog 171 #[.int .u32 (S.e:Nat),.int .u32 (S.f:Nat),.int .u32 (S.g:Nat)] w fun e w'=>e=.returned (.int .u32 (CHO S.e S.f S.g:Nat))∧w=w':=fun w=>zbw _ _ _ b5 b6 b7 w
      have k3:∀ w,Calls Tryz.prog 170 #[.int .u32 (S.a:Nat),.int .i64 2,.int .i64 13,.int .i64 22] w fun e w'=>e=.returned (.int .u32 (MIX 2 13 22 S.a:Nat))∧w=w':=fun w=>zbv _ 2 13 22 b1 (by decide) (by decide) (by decide) w
      have k4:∀ w,Calls Tryz.prog 172 #[.int .u32 (S.a:Nat),.int .u32 (S.b:Nat),.int .u32 (S.c:Nat)] w fun e w'=>e=.returned (.int .u32 (MAJ S.a S.b S.c:Nat))∧w=w':=fun w=>z8y _ _ _ b1 b2 b3 w
      have E:Aside (RND (KC t) (SCH b t) S={a:=((S.h+MIX 6 11 25 S.e+CHO S.e S.f S.g+KC t+SCH b t) % 4294967296+(MIX 2 13 22 S.a+MAJ S.a S.b S.c) % 4294967296) % 4294967296,b:=S.a,c:=S.b,d:=S.c,e:=(S.d+(S.h+MIX 6 11 25 S.e+CHO S.e S.f S.g+KC t+SCH b t) % 4294967296) % 4294967296,f:=S.e,g:=S.f,h:=S.g}):=rfl
      have E2:Aside (RUN (SCH b) S0 (t+1)=RND (KC t) (SCH b t) S):=by rw [hS];rfl
      generalize RND (KC t) (SCH b t) S=S' at *
      generalize MIX 6 11 25 S.e=m1 at *
      generalize CHO S.e S.f S.g=m2 at *
      generalize MIX 2 13 22 S.a=m3 at *
      generalize MAJ S.a S.b S.c=m4 at *
      generalize KC t=m5 at *
      generalize SCH b t=m6 at *
      clear A B b1 b2 b3 b4 b5 b6 b7 b8 hS hm
      obtain ⟨a,bb,c,dd,e,f,gg,h⟩:=S
      simp only at *
      go_wp2_with fail
      go_quiet (first | (go_at_call 170;exact z0A (k1 _)) | (go_at_call 171;exact z0A (k2 _)))
      clear k1 k2 cK cX
      go_wp2_with fail
      refine (k3 _).mono ?_
      rintro e w' ⟨rfl,rfl⟩
      clear k3
      go_wp2_with fail
      refine (k4 _).mono ?_
      rintro e w' ⟨rfl,rfl⟩
      clear k4
      go_wp2
      go_roundg g
      case measure=>omega
      case rel=>
        refine ⟨t+1,S',by omega,⟨E2.out.symm,?_⟩,by go_num,?_⟩
        · obtain ⟨m,hm⟩:=D.out
          exact ⟨_,by rw [hm,World.drewN_drewN]⟩
        rw [E.out]
        dsimp only
        exact ⟨congrArg (Value.int .u32) (by omega),rfl,rfl,rfl,congrArg (Value.int .u32) (by omega),rfl,rfl,rfl⟩
end Go.Proofs.YthdpkaiieomdoaaGreatDoor.HX
