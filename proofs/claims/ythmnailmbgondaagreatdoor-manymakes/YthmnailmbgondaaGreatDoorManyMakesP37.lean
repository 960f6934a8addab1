/- ManyMakes: part 37. -/
import Derived.Test.YthmnailmbgondaaGreatDoorManyMakesP36
set_option maxHeartbeats 4000000
namespace Go.Proofs.YthmnailmbgondaaGreatDoor
open Go.RowKit
set_option maxRecDepth 100000
theorem z1n {w:World} {B s n:Nat} {t:TypeId} {v:Value} {xs:List Value} (h:w.ownsRow B t s v n xs) (o:Obj):(w.alloc o).ownsRow B t s v n xs:=z0v h fun k e=>Below.heap_alloc w o k (h.lt k e).2
@[go_sem] def RN7OPSq0:Oper:=⟨some 27,.buildSlice 97 0 #[],97,"ref.go:35",#[],none⟩
@[go_sem] def RN7OPSq1:Oper:=⟨some 28,.move (.tmp 6),97,"ref.go:35",#[],none⟩
@[go_sem] def RN7OPSq2:Oper:=⟨some 29,.call {callee:=.builtin .append,args:=#[.tmp 27,.tmp 28],argTypes:=#[97,97]},97,"ref.go:35",#[⟨0,.data⟩,⟨1,.data⟩],none⟩
@[go_sem] def RN7OPSq3:Oper:=⟨some 30,.fieldAddr 101 (.tmp 2) 0,0,"ref.go:35",#[],none⟩
@[go_sem] def RN7OPSq4:Oper:=⟨some 31,.load 5 (.tmp 30),5,"ref.go:35",#[⟨3,.data⟩],none⟩
@[go_sem] def RN7OPSq5:Oper:=⟨some 32,.binOp .sub 5 (.tmp 31) (.const (.int .u8 1)) 5,5,"ref.go:35",#[⟨4,.data⟩],none⟩
@[go_sem] def RN7OPSq6:Oper:=⟨some 33,.fieldAddr 101 (.tmp 2) 1,0,"ref.go:35",#[],none⟩
@[go_sem] def RN7OPSq7:Oper:=⟨some 34,.load 24 (.tmp 33),24,"ref.go:35",#[⟨6,.data⟩],none⟩
@[go_sem] def RN7OPSq8:Oper:=⟨some 35,.binOp .mul 24 (.const (.int .u64 2)) (.tmp 34) 24,24,"ref.go:35",#[⟨7,.data⟩],none⟩
@[go_sem] def RN7OPSq9:Oper:=⟨some 36,.binOp .add 24 (.tmp 35) (.const (.int .u64 1)) 24,24,"ref.go:35",#[⟨8,.data⟩],none⟩
@[go_sem] def RN7OPSq10:Oper:=⟨some 37,.build 101 #[(0,.tmp 32),(1,.tmp 36)],101,"ref.go:35",#[⟨5,.data⟩,⟨9,.data⟩],none⟩
@[go_sem] def RN7OPSq11:Oper:=⟨some 38,.move (.tmp 5),23,"ref.go:35",#[],none⟩
@[go_sem] def RN7OPSq12:Oper:=⟨some 39,.call {callee:=.value (.func 49),args:=#[.tmp 37,.tmp 38],argTypes:=#[101,23]},97,"ref.go:35",#[⟨10,.data⟩,⟨11,.data⟩,⟨2,.chain⟩],none⟩
@[go_sem] def RN7OPSq13:Oper:=⟨some 40,.call {callee:=.builtin .append,args:=#[.tmp 29,.tmp 39],argTypes:=#[97,97]},97,"ref.go:35",#[⟨2,.data⟩,⟨12,.data⟩,⟨12,.chain⟩],none⟩
@[go_sem] def RN7OPSq14:Oper:=⟨some 4,.assign (.tmp 40),97,"ref.go:35",#[⟨13,.data⟩,⟨13,.chain⟩,⟨0,.phase⟩,⟨1,.phase⟩,⟨2,.phase⟩,⟨3,.phase⟩,⟨4,.phase⟩,⟨5,.phase⟩,⟨6,.phase⟩,⟨7,.phase⟩,⟨8,.phase⟩,⟨9,.phase⟩,⟨10,.phase⟩,⟨11,.phase⟩,⟨12,.phase⟩,⟨13,.phase⟩],none⟩
def z2G:Array Oper:=#[RN7OPSq0,RN7OPSq1,RN7OPSq2,RN7OPSq3,RN7OPSq4,RN7OPSq5,RN7OPSq6,RN7OPSq7,RN7OPSq8,RN7OPSq9,RN7OPSq10,RN7OPSq11,RN7OPSq12,RN7OPSq13,RN7OPSq14]
theorem zhk {Q:Exit->Act->World->Prop} {d f g i j l m n q r s u x y C D E F G I J L M N O P R T U V X Y Z aa ab ac ad ae:Value} (W:World) (b H h kx k2 k3:Nat) (al:Option Addr) (ml cl:Nat) (Bo:Nat) (ao:Option Addr) (mo co m2:Nat) (A B:List (Nat × Nat)) (hb:b<W.heap.size) (hc0:W.cell? ⟨b,0,none⟩=some (.int .u8 (H:Int))) (hc1:W.cell? ⟨b,1,none⟩=some (.int .u64 (kx:Int))) (e1:IntKind.u8.wrap ((H:Int) - 1)=(h:Int)) (e2:IntKind.u64.wrap (2*(kx:Int))=(k2:Int)) (e3:IntKind.u64.wrap ((k2:Int)+1)=(k3:Int))
  (hO:W.ownsRow Bo 101 2 (.slice ao mo co) mo (z0e A)) (hmm:mo+m2<=2 ^ 26)
  (c1:∀ w,Below W.heap.size W w->Calls Tryz.prog 49 #[.agg #[.int .u8 (h:Int),.int .u64 (k3:Int)],.slice al ml cl] w fun e w'=>∃ a2 q2,e=.returned (.slice a2 m2 q2)/\w'.ownsRow w.heap.size 101 2 (.slice a2 m2 q2) m2 (z0e B)/\Below w.heap.size w w') (hQ:∀ c (a:Act) (t:Tmp) (v:Value) w,Q (.panic c) (a.put (some t) v) w->Q (.panic c) a w)
  (hfin:∀ (z:Nat) (a1:Option Addr) (q1:Nat) (a2:Option Addr) (q2:Nat) (a3:Option Addr) (q3:Nat) (w:World),(Below W.heap.size W w/\w.ownsRow W.heap.size 101 2 (.slice a3 (mo+m2) q3) (mo+m2) (z0e (A ++ B)))->Q .normal {tmps:=#[d,f,.pointer (some ⟨b,0,none⟩),g,.slice a3 (mo+m2) q3,.slice al ml cl,.slice ao mo co,j,l,m,n,q,r,s,u,x,y,C,D,E,F,G,I,J,L,M,N,.slice (some ⟨z,0,none⟩) 0 0,.slice ao mo co,.slice a1 mo q1,.pointer (some ⟨b,0,none⟩),.int .u8 (H:Int),.int .u8 (h:Int),.pointer (some ⟨b,1,none⟩),.int .u64 (kx:Int),.int .u64 (k2:Int),.int .u64 (k3:Int),.agg #[.int .u8 (h:Int),.int .u64 (k3:Int)],.slice al ml cl,.slice a2 m2 q2,.slice a3 (mo+m2) q3],defers:=[]} w):(Code.region 7 z2G true).wp Tryz.prog Q {tmps:=#[d,f,.pointer (some ⟨b,0,none⟩),g,i,.slice al ml cl,.slice ao mo co,j,l,m,n,q,r,s,u,x,y,C,D,E,F,G,I,J,L,M,N,O,P,R,T,U,V,X,Y,Z,aa,ab,ac,ad,ae],defers:=[]} W:=by
 have k0_2_12_13:∀ (z:Nat) (a1:Option Addr) (q1:Nat) (a2:Option Addr) (q2:Nat) (a3:Option Addr) (q3:Nat) (w:World),(Below W.heap.size W w/\w.ownsRow W.heap.size 101 2 (.slice a3 (mo+m2) q3) (mo+m2) (z0e (A ++ B)))->wpAnyH Tryz.prog .any z2G Q (fun w:World=>w.cell? ⟨b,0,none⟩=some (.int .u8 (H:Int))/\w.cell? ⟨b,1,none⟩=some (.int .u64 (kx:Int))) 0 #[tt,tt,tt,tt,tt,tt,tt,tt,tt,tt,tt,tt,tt,tt,tt] {tmps:=#[d,f,.pointer (some ⟨b,0,none⟩),g,.slice a3 (mo+m2) q3,.slice al ml cl,.slice ao mo co,j,l,m,n,q,r,s,u,x,y,C,D,E,F,G,I,J,L,M,N,.slice (some ⟨z,0,none⟩) 0 0,.slice ao mo co,.slice a1 mo q1,.pointer (some ⟨b,0,none⟩),.int .u8 (H:Int),.int .u8 (h:Int),.pointer (some ⟨b,1,none⟩),.int .u64 (kx:Int),.int .u64 (k2:Int),.int .u64 (k3:Int),.agg #[.int .u8 (h:Int),.int .u64 (k3:Int)],.slice al ml cl,.slice a2 m2 q2,.slice a3 (mo+m2) q3],defers:=[]} w:=fun z a1 q1 a2 q2 a3 q3 w hp=>by
  exact wpAnyH_done (by kernel_rfl) (hfin z a1 q1 a2 q2 a3 q3 w hp) _
 have ek0_2_12_13:∀ (z:Nat) (a1:Option Addr) (q1:Nat) (a2:Option Addr) (q2:Nat) (a3:Option Addr) (q3:Nat) (w:World),(Below W.heap.size W w/\w.ownsRow W.heap.size 101 2 (.slice a3 (mo+m2) q3) (mo+m2) (z0e (A ++ B)))->wpAnyH Tryz.prog .any z2G Q (fun w:World=>w.cell? ⟨b,0,none⟩=some (.int .u8 (H:Int))/\w.cell? ⟨b,1,none⟩=some (.int .u64 (kx:Int))) 1 #[tt,tt,tt,tt,tt,tt,tt,tt,tt,tt,tt,tt,tt,tt,ff] {tmps:=#[d,f,.pointer (some ⟨b,0,none⟩),g,i,.slice al ml cl,.slice ao mo co,j,l,m,n,q,r,s,u,x,y,C,D,E,F,G,I,J,L,M,N,.slice (some ⟨z,0,none⟩) 0 0,.slice ao mo co,.slice a1 mo q1,.pointer (some ⟨b,0,none⟩),.int .u8 (H:Int),.int .u8 (h:Int),.pointer (some ⟨b,1,none⟩),.int .u64 (kx:Int),.int .u64 (k2:Int),.int .u64 (k3:Int),.agg #[.int .u8 (h:Int),.int .u64 (k3:Int)],.slice al ml cl,.slice a2 m2 q2,.slice a3 (mo+m2) q3],defers:=[]} w:=fun z a1 q1 a2 q2 a3 q3 w hp=>by
  have hww:(fun w:World=>w.cell? ⟨b,0,none⟩=some (.int .u8 (H:Int))/\w.cell? ⟨b,1,none⟩=some (.int .u64 (kx:Int))) w:=⟨(hp.1.cell (p:=⟨b,0,none⟩) hb).trans hc0,(hp.1.cell (p:=⟨b,1,none⟩) hb).trans hc1⟩
  have last:=k0_2_12_13 z a1 q1 a2 q2 a3 q3 w hp;refine tkP RN7OPSq14 (.slice a3 (mo+m2) q3) 14 hQ hww ?_;simp only [List.set];exact last
 have k0_2_12:∀ (z:Nat) (a1:Option Addr) (q1:Nat) (a2:Option Addr) (q2:Nat) (w:World),(Below W.heap.size W w/\w.ownsRow W.heap.size 101 2 (.slice a1 mo q1) mo (z0e A)/\w.ownsRow W.heap.size 101 2 (.slice a2 m2 q2) m2 (z0e B))->wpAnyH Tryz.prog .any z2G Q (fun w:World=>w.cell? ⟨b,0,none⟩=some (.int .u8 (H:Int))/\w.cell? ⟨b,1,none⟩=some (.int .u64 (kx:Int))) 2 #[tt,tt,tt,tt,tt,tt,tt,tt,tt,tt,tt,tt,tt,ff,ff] {tmps:=#[d,f,.pointer (some ⟨b,0,none⟩),g,i,.slice al ml cl,.slice ao mo co,j,l,m,n,q,r,s,u,x,y,C,D,E,F,G,I,J,L,M,N,.slice (some ⟨z,0,none⟩) 0 0,.slice ao mo co,.slice a1 mo q1,.pointer (some ⟨b,0,none⟩),.int .u8 (H:Int),.int .u8 (h:Int),.pointer (some ⟨b,1,none⟩),.int .u64 (kx:Int),.int .u64 (k2:Int),.int .u64 (k3:Int),.agg #[.int .u8 (h:Int),.int .u64 (k3:Int)],.slice al ml cl,.slice a2 m2 q2,ae],defers:=[]} w:=fun z a1 q1 a2 q2 w hp=>by
  refine wpAnyH_ready (rs:=[13]) (by kernel_rfl) (by simp) ?_;refine AllReadyH.cons (o:=RN7OPSq13) rfl (fun K hK=>?_) ?_
  ·exact z0l (by rfl) (z5t w rfl (.tmp 29) (.tmp 39) rfl W.heap.size (.slice a1 mo q1) mo A rfl hp.2.1 W.heap.size a2 m2 q2 B rfl hp.2.2 hmm hp.1.size (fun a3 q3 w' h1 h2=>⟨rfl,(have hp:(fun (z:Nat) (a1:Option Addr) (q1:Nat) (a2:Option Addr) (q2:Nat) (a3:Option Addr) (q3:Nat) (w:World)=>(Below W.heap.size W w/\w.ownsRow W.heap.size 101 2 (.slice a3 (mo+m2) q3) (mo+m2) (z0e (A ++ B)))) z a1 q1 a2 q2 a3 q3 w':=⟨hp.1.grown h2 hp.1.size (fun k e=>(hp.2.1.lt k e).1),h1⟩;hK.out _ _ (⟨(hp.1.cell (p:=⟨b,0,none⟩) hb).trans hc0,(hp.1.cell (p:=⟨b,1,none⟩) hb).trans hc1⟩) (fun _=>ek0_2_12_13 z a1 q1 a2 q2 a3 q3 _ hp))⟩))
  exact AllReadyH.nil
 have k0_2:∀ (z:Nat) (a1:Option Addr) (q1:Nat) (w:World),(Below W.heap.size W w/\w.ownsRow W.heap.size 101 2 (.slice a1 mo q1) mo (z0e A))->wpAnyH Tryz.prog .any z2G Q (fun w:World=>w.cell? ⟨b,0,none⟩=some (.int .u8 (H:Int))/\w.cell? ⟨b,1,none⟩=some (.int .u64 (kx:Int))) 3 #[tt,tt,tt,tt,tt,tt,tt,tt,tt,tt,tt,tt,ff,ff,ff] {tmps:=#[d,f,.pointer (some ⟨b,0,none⟩),g,i,.slice al ml cl,.slice ao mo co,j,l,m,n,q,r,s,u,x,y,C,D,E,F,G,I,J,L,M,N,.slice (some ⟨z,0,none⟩) 0 0,.slice ao mo co,.slice a1 mo q1,.pointer (some ⟨b,0,none⟩),.int .u8 (H:Int),.int .u8 (h:Int),.pointer (some ⟨b,1,none⟩),.int .u64 (kx:Int),.int .u64 (k2:Int),.int .u64 (k3:Int),.agg #[.int .u8 (h:Int),.int .u64 (k3:Int)],.slice al ml cl,ad,ae],defers:=[]} w:=fun z a1 q1 w hp=>by
  refine wpAnyH_ready (rs:=[12]) (by kernel_rfl) (by simp) ?_;refine AllReadyH.cons (o:=RN7OPSq12) rfl (fun K hK=>?_) ?_
  ·rw [if_pos (by rfl)]
   go_simp;refine (show Calls _ _ _ w (fun e w'=>∃ (a2:Option Addr) (q2:Nat),e=.returned (.slice a2 m2 q2)/\(Below W.heap.size W w'/\w'.ownsRow W.heap.size 101 2 (.slice a1 mo q1) mo (z0e A)/\w'.ownsRow W.heap.size 101 2 (.slice a2 m2 q2) m2 (z0e B))) from (c1 w hp.1).mono fun e w' ⟨a2,q2,he,h⟩=>⟨a2,q2,he,hp.1.trans (h.2.mono hp.1.size),z0R hp.2 h.2,z0o h.1 hp.1.size⟩).mono ?_;rintro e w' ⟨a2,q2,rfl,hp⟩;exact hK.out _ _ (⟨(hp.1.cell (p:=⟨b,0,none⟩) hb).trans hc0,(hp.1.cell (p:=⟨b,1,none⟩) hb).trans hc1⟩) (fun _=>k0_2_12 z a1 q1 a2 q2 w' hp)
  exact AllReadyH.nil
 have k0:∀ (z:Nat) (w:World),(Below W.heap.size W w/\w.ownsRow W.heap.size 101 2 (.slice (some ⟨z,0,none⟩) 0 0) 0 (z0e []))->wpAnyH Tryz.prog .any z2G Q (fun w:World=>w.cell? ⟨b,0,none⟩=some (.int .u8 (H:Int))/\w.cell? ⟨b,1,none⟩=some (.int .u64 (kx:Int))) 4 #[tt,tt,ff,tt,tt,tt,tt,tt,tt,tt,tt,tt,ff,ff,ff] {tmps:=#[d,f,.pointer (some ⟨b,0,none⟩),g,i,.slice al ml cl,.slice ao mo co,j,l,m,n,q,r,s,u,x,y,C,D,E,F,G,I,J,L,M,N,.slice (some ⟨z,0,none⟩) 0 0,.slice ao mo co,R,.pointer (some ⟨b,0,none⟩),.int .u8 (H:Int),.int .u8 (h:Int),.pointer (some ⟨b,1,none⟩),.int .u64 (kx:Int),.int .u64 (k2:Int),.int .u64 (k3:Int),.agg #[.int .u8 (h:Int),.int .u64 (k3:Int)],.slice al ml cl,ad,ae],defers:=[]} w:=fun z w hp=>by
  refine wpAnyH_ready (rs:=[2]) (by kernel_rfl) (by simp) ?_;refine AllReadyH.cons (o:=RN7OPSq2) rfl (fun K hK=>?_) ?_
  ·exact z0l (by rfl) (z5t w rfl (.tmp 27) (.tmp 28) rfl W.heap.size (.slice (some ⟨z,0,none⟩) 0 0) 0 [] rfl hp.2 Bo ao mo co A rfl (z0R hO (hp.1.mono (Nat.le_refl _))) (by omega) hp.1.size (by rw [Nat.zero_add,List.nil_append];exact fun a1 q1 w' h1 h2=>⟨rfl,(have hp:(fun (z:Nat) (a1:Option Addr) (q1:Nat) (w:World)=>(Below W.heap.size W w/\w.ownsRow W.heap.size 101 2 (.slice a1 mo q1) mo (z0e A))) z a1 q1 w':=⟨hp.1.grown h2 hp.1.size (fun k e=>(hp.2.lt k e).1),h1⟩;hK.out _ _ (⟨(hp.1.cell (p:=⟨b,0,none⟩) hb).trans hc0,(hp.1.cell (p:=⟨b,1,none⟩) hb).trans hc1⟩) (fun _=>k0_2 z a1 q1 _ hp))⟩))
  exact AllReadyH.nil
 have k:∀ (w:World),(Below W.heap.size W w/\True)->wpAnyH Tryz.prog .any z2G Q (fun w:World=>w.cell? ⟨b,0,none⟩=some (.int .u8 (H:Int))/\w.cell? ⟨b,1,none⟩=some (.int .u64 (kx:Int))) 5 #[ff,tt,ff,tt,tt,tt,tt,tt,tt,tt,tt,tt,ff,ff,ff] {tmps:=#[d,f,.pointer (some ⟨b,0,none⟩),g,i,.slice al ml cl,.slice ao mo co,j,l,m,n,q,r,s,u,x,y,C,D,E,F,G,I,J,L,M,N,O,.slice ao mo co,R,.pointer (some ⟨b,0,none⟩),.int .u8 (H:Int),.int .u8 (h:Int),.pointer (some ⟨b,1,none⟩),.int .u64 (kx:Int),.int .u64 (k2:Int),.int .u64 (k3:Int),.agg #[.int .u8 (h:Int),.int .u64 (k3:Int)],.slice al ml cl,ad,ae],defers:=[]} w:=fun  w hp=>by
  refine wpAnyH_ready (rs:=[0]) (by kernel_rfl) (by simp) ?_;refine AllReadyH.cons (o:=RN7OPSq0) rfl (fun K hK=>?_) ?_
  ·exact z0p (by rfl) (by go_simp) (have hp:(fun (z:Nat) (w:World)=>(Below W.heap.size W w/\w.ownsRow W.heap.size 101 2 (.slice (some ⟨z,0,none⟩) 0 0) 0 (z0e []))) w.heap.size _:=⟨hp.1.alloc hp.1.size _,z0o (zc1 w) hp.1.size⟩;hK.out _ _ (⟨(hp.1.cell (p:=⟨b,0,none⟩) hb).trans hc0,(hp.1.cell (p:=⟨b,1,none⟩) hb).trans hc1⟩) (fun _=>k0 w.heap.size _ hp))
  exact AllReadyH.nil
 have hp:=(⟨(Below.refl W.heap.size W).drew,trivial⟩:Below W.heap.size W W.drew/\True)
 have hww:(fun w:World=>w.cell? ⟨b,0,none⟩=some (.int .u8 (H:Int))/\w.cell? ⟨b,1,none⟩=some (.int .u64 (kx:Int))) W.drew:=⟨(hp.1.cell (p:=⟨b,0,none⟩) hb).trans hc0,(hp.1.cell (p:=⟨b,1,none⟩) hb).trans hc1⟩
 have last:=k W.drew hp
 have z:wpAnyH Tryz.prog .any z2G Q (fun w:World=>w.cell? ⟨b,0,none⟩=some (.int .u8 (H:Int))/\w.cell? ⟨b,1,none⟩=some (.int .u64 (kx:Int))) 15 #[ff,ff,ff,ff,ff,ff,ff,ff,ff,ff,ff,ff,ff,ff,ff] {tmps:=#[d,f,.pointer (some ⟨b,0,none⟩),g,i,.slice al ml cl,.slice ao mo co,j,l,m,n,q,r,s,u,x,y,C,D,E,F,G,I,J,L,M,N,O,P,R,T,U,V,X,Y,Z,aa,ab,ac,ad,ae],defers:=[]} W.drew:=by
  refine tkP RN7OPSq1 (.slice ao mo co) 1 hQ hww ?_;simp only [List.set];refine tkP RN7OPSq3 (.pointer (some ⟨b,0,none⟩)) 3 hQ hww ?_;simp only [List.set];refine tkH RN7OPSq4 (.int .u8 (H:Int)) 4 hQ (Or.inl ⟨by rfl,fun w hw=>by have hx:=hw.1;go_simp⟩) hww ?_;simp only [List.set];refine tkH RN7OPSq5 (.int .u8 (h:Int)) 5 hQ (Or.inl ⟨by rfl,fun w hw=>by have hx:=e1;go_simp⟩) hww ?_;simp only [List.set];refine tkP RN7OPSq6 (.pointer (some ⟨b,1,none⟩)) 6 hQ hww ?_;simp only [List.set];refine tkH RN7OPSq7 (.int .u64 (kx:Int)) 7 hQ (Or.inl ⟨by rfl,fun w hw=>by have hx:=hw.2;go_simp⟩) hww ?_;simp only [List.set];refine tkH RN7OPSq8 (.int .u64 (k2:Int)) 8 hQ (Or.inl ⟨by rfl,fun w hw=>by have hx:=e2;go_simp⟩) hww ?_;simp only [List.set];refine tkH RN7OPSq9 (.int .u64 (k3:Int)) 9 hQ (Or.inl ⟨by rfl,fun w hw=>by have hx:=e3;go_simp⟩) hww ?_;simp only [List.set];refine tkP RN7OPSq10 (.agg #[.int .u8 (h:Int),.int .u64 (k3:Int)]) 10 hQ hww ?_;simp only [List.set];refine tkP RN7OPSq11 (.slice al ml cl) 11 hQ hww ?_;simp only [List.set];exact last
 exact wp_region_held_drew (S:=(fun w:World=>w.cell? ⟨b,0,none⟩=some (.int .u8 (H:Int))/\w.cell? ⟨b,1,none⟩=some (.int .u64 (kx:Int)))) (by kernel_rfl) hww (fun _=>z)
def NDED (w:World) (l:List (Nat × Nat)) (e:Ending) (w':World):Prop:=∃ a c,e=.returned (.slice a l.length c)/\w'.ownsRow w.heap.size 101 2 (.slice a l.length c) l.length (z0e l)/\Below w.heap.size w w'
theorem z6q (h k:Nat) (hh:h<64) (L:List Nat) (a:Option Addr) (n c:Nat) (hl:L.length=n) (hn:n<2 ^ 14) (hx:∀ x∈L,x<2 ^ 64) (w:World) (hL:NUML w a L) (hU:UND h k L=[]):
  Calls Tryz.prog 49 #[SPOT h k,.slice a n c] w (NDED w [(h,k)]):=by
 obtain ⟨w1,e1⟩:∃ w1,w.alloc (.cells #[.int .u8 (h:Int),.int .u64 (k:Int)] 101)=w1:=⟨_,rfl⟩
 have hB:Has w1 w.heap.size #[.int .u8 (h:Int),.int .u64 (k:Int)] 101:=by rw [<-e1];exact Has.new w _ _
 have hb1:Below w.heap.size w w1:=by rw [<-e1];exact (Below.refl _ _).alloc (Nat.le_refl _) _
 have cu:=z4T h k hh L a n c hl (by omega) hx w1 (hL.keep hb1);rw [hU] at cu;have HA:Aside (Has w1 w.heap.size #[.int .u8 (h:Int),.int .u64 (k:Int)] 101/\Below w.heap.size w w1):=⟨hB,hb1⟩
 have x0:=hB.cell 0;have x1:=hB.cell 1;clear hh hl hn hx hL hU hB hb1;unfold SPOT at *
 go_enter Tryz.func49,Tryz.ntmps49;go_wp2_with fail
 refine cu.mono ?_;rintro e w2 ⟨a2,c2,rfl,hown,hb2⟩;have k2:=HA.out.1.keep hb2;have x0:=k2.cell 0;have x1:=k2.cell 1;have FN:Aside (Below w.heap.size w w2):=HA.out.2.trans (hb2.mono HA.out.2.size);clear cu hown hb2 k2 HA e1;go_wp2_with fail
 go_ret;exact ⟨_,_,rfl,z0o (zdw w2 h k) FN.out.size,FN.out.alloc FN.out.size _⟩
theorem zc7 (k:Nat) (L:List Nat) (a:Option Addr) (n c:Nat) (hl:L.length=n) (hn:n<2 ^ 14) (hx:∀ x∈L,x<2 ^ 64) (w:World) (hL:NUML w a L) (hU:UND 0 k L≠[]):
  Calls Tryz.prog 49 #[SPOT 0 k,.slice a n c] w (NDED w []):=by
 obtain ⟨w1,e1⟩:∃ w1,w.alloc (.cells #[.int .u8 0,.int .u64 (k:Int)] 101)=w1:=⟨_,rfl⟩
 have hB:Has w1 w.heap.size #[.int .u8 0,.int .u64 (k:Int)] 101:=by rw [<-e1];exact Has.new w _ _
 have hb1:Below w.heap.size w w1:=by rw [<-e1];exact (Below.refl _ _).alloc (Nat.le_refl _) _
 have cu:=z4T 0 k (by decide) L a n c hl (by omega) hx w1 (hL.keep hb1);have hu0:(((UND 0 k L).length:Int) == 0)=false:=by have:=List.length_pos_iff.2 hU;simp;omega
 have hu1:¬ ((UND 0 k L).length:Int)=0:=by simpa using hu0
 have hu2:¬ (UND 0 k L).length=0:=by omega
 have HA:Aside (Has w1 w.heap.size #[.int .u8 0,.int .u64 (k:Int)] 101/\Below w.heap.size w w1):=⟨hB,hb1⟩
 have x0:=hB.cell 0;have x1:=hB.cell 1;have hS:SPOT 0 k=.agg #[.int .u8 0,.int .u64 (k:Int)]:=rfl;rw [hS] at *
 generalize UND 0 k L=U at *
 generalize U.length=u at *
 clear hl hn hx hL hU hB hb1;go_enter Tryz.func49,Tryz.ntmps49;go_wp2_with fail
 refine cu.mono ?_;rintro e w2 ⟨a2,c2,rfl,hown,hb2⟩;have k2:=HA.out.1.keep hb2;have x0:=k2.cell 0;have FN:Aside (Below w.heap.size w w2):=HA.out.2.trans (hb2.mono HA.out.2.size);clear cu hown hb2 k2 HA e1;go_wp2_with fail
 go_ret;exact ⟨none,0,rfl,⟨rfl,.inl ⟨rfl,rfl⟩⟩,FN.out⟩
theorem za1:∀ (h k:Nat),Node h k->∀ (L:List Nat) (a:Option Addr) (n c:Nat),L.length=n->n<2 ^ 14->(∀ x∈L,x<2 ^ 64)->∀ (w:World),NUML w a L->
   Calls Tryz.prog 49 #[SPOT h k,.slice a n c] w (NDED w (NSP h k (UND h k L))):=by
 intro h;induction h with
 | zero=>
   intro k hN L a n c hl hn hx w hL;by_cases hU:UND 0 k L=[]
   ·rw [hU,z2W]
    exact z6q 0 k (by decide) L a n c hl hn hx w hL hU
   ·have e:NSP 0 k (UND 0 k L)=[]:=by
     generalize UND 0 k L=U at *
     cases U with
     | nil=>exact absurd rfl hU
     | cons y l=>rfl
    rw [e];exact zc7 k L a n c hl hn hx w hL hU
 | succ h ih=>
   intro k hN L a n c hl hn hx w hL;have hh:h+1<64:=by have:=hN.1;omega
   by_cases hU:UND (h+1) k L=[]
   ·rw [hU,z2W]
    exact z6q (h+1) k hh L a n c hl hn hx w hL hU
   ·obtain ⟨w1,e1⟩:∃ w1,w.alloc (.cells #[.int .u8 ((h+1:Nat):Int),.int .u64 (k:Int)] 101)=w1:=⟨_,rfl⟩
    have hB:Has w1 w.heap.size #[.int .u8 ((h+1:Nat):Int),.int .u64 (k:Int)] 101:=by rw [<-e1];exact Has.new w _ _
    have hb1:Below w.heap.size w w1:=by rw [<-e1];exact (Below.refl _ _).alloc (Nat.le_refl _) _
    have cu:=z4T (h+1) k hh L a n c hl (by omega) hx w1 (hL.keep hb1);have hul:=z1U (h+1) k L;have hux:∀ x∈UND (h+1) k L,x<2 ^ 64:=fun x hx'=>hx x (zaP hx').1;obtain ⟨hNl,hNr⟩:=hN.kid;have hsp:=zgp h k L hU;have hu2:¬ (UND (h+1) k L).length=0:=by have:=List.length_pos_iff.2 hU;omega
    have m1:=z4h h (2*k) (UND h (2*k) (UND (h+1) k L));have m2:=z4h h (2*k+1) (UND h (2*k+1) (UND (h+1) k L));have n1:=z1U h (2*k) (UND (h+1) k L);have n2:=z1U h (2*k+1) (UND (h+1) k L);have hk62:=hN.2;have hh62:=hN.1;obtain ⟨U,hUe⟩:∃ U,UND (h+1) k L=U:=⟨_,rfl⟩
    rw [hUe] at cu hul hux hsp hu2 m1 m2 n1 n2;rw [hUe,hsp];obtain ⟨A,hA⟩:∃ A,NSP h (2*k) (UND h (2*k) U)=A:=⟨_,rfl⟩
    obtain ⟨B,hBB⟩:∃ B,NSP h (2*k+1) (UND h (2*k+1) U)=B:=⟨_,rfl⟩
    rw [hA,hBB];have hp62:2 ^ (62 - (h+1))<=2 ^ 62:=Nat.pow_le_pow_right (by decide) (by omega)
    have few:∀ x:Nat,x<=U.length->x*h+1<=2 ^ 22:=fun x hx=>by
     have h1:x*h<=2 ^ 14*63:=Nat.mul_le_mul (by omega) (by omega);omega
    have hmm:A.length+B.length<=2 ^ 26:=by
     rw [<-hA,<-hBB];have:=few _ n1;have:=few _ n2;omega
    have ew1:IntKind.u8.wrap (((h+1:Nat):Int) - 1)=(h:Int):=by
     show (((h+1:Nat):Int) - 1) % 256=(h:Int)
     omega
    have ew2:IntKind.u64.wrap (2*(k:Int))=((2*k:Nat):Int):=by rw [z0b];omega
    have ew3:IntKind.u64.wrap (((2*k:Nat):Int)+1)=((2*k+1:Nat):Int):=by rw [z0b];omega
    have HA:Aside (Has w1 w.heap.size #[.int .u8 ((h+1:Nat):Int),.int .u64 (k:Int)] 101/\Below w.heap.size w w1/\A.length+B.length<=2 ^ 26):=⟨hB,hb1,hmm⟩
    have IH1:Aside (∀ W a' c',NUML W a' U->Calls Tryz.prog 49 #[.agg #[.int .u8 (h:Int),.int .u64 ((2*k:Nat):Int)],.slice a' U.length c'] W (NDED W A)):=fun W a' c' hW=>by
     rw [<-hA];exact ih (2*k) hNl U a' U.length c' rfl (by omega) hux W hW
    have IH2:Aside (∀ W a' c',NUML W a' U->Calls Tryz.prog 49 #[.agg #[.int .u8 (h:Int),.int .u64 ((2*k+1:Nat):Int)],.slice a' U.length c'] W (NDED W B)):=fun W a' c' hW=>by
     rw [<-hBB];exact ih (2*k+1) hNr U a' U.length c' rfl (by omega) hux W hW
    have EW:Aside (IntKind.u8.wrap (((h+1:Nat):Int) - 1)=(h:Int)/\IntKind.u64.wrap (2*(k:Int))=((2*k:Nat):Int)/\IntKind.u64.wrap (((2*k:Nat):Int)+1)=((2*k+1:Nat):Int)):=⟨ew1,ew2,ew3⟩
    have hh1:(((h+1:Nat):Int) == 0)=false:=by simp;omega
    have hS:SPOT (h+1) k=.agg #[.int .u8 ((h+1:Nat):Int),.int .u64 (k:Int)]:=rfl;have x0:=hB.cell 0;have x1:=hB.cell 1;rw [hS] at *
    clear hl hn hx hL hU hUe hB hb1 hul hux hNl hNr hsp m1 m2 n1 n2 hk62 hh62 hA hBB hp62 few hmm ih hN hh ew3;generalize h+1=H at *
    generalize 2*k=k2 at *
    generalize k2+1=k3 at *
    obtain ⟨u,hu⟩:∃ u,U.length=u:=⟨_,rfl⟩
    rw [hu] at cu hu2 IH1 IH2;have HU:Aside (U.length=u):=hu;have hu0:((u:Int) == 0)=false:=by simp;omega
    clear hu;go_enter Tryz.func49,Tryz.ntmps49;go_wp2_with fail
    refine cu.mono ?_;rintro e w2 ⟨a2,c2,rfl,hown,hb2⟩;have k2h:=HA.out.1.keep hb2;have x0:=k2h.cell 0;have x1:=k2h.cell 1;have N2:Aside (Has w2 w.heap.size #[.int .u8 (H:Int),.int .u64 (k:Int)] 101/\Below w.heap.size w w2/\NUML w2 a2 U):=⟨k2h,HA.out.2.1.trans (hb2.mono HA.out.2.1.size),z4j hown HU.out⟩
    have c1:=IH1.out w2 a2 c2 N2.out.2.2;clear cu hown hb2 k2h e1 IH1;go_wp2_with fail
    refine c1.mono ?_;rintro e w3 ⟨a3,c3,rfl,hown3,hb3⟩;have N3:Aside (Has w3 w.heap.size #[.int .u8 (H:Int),.int .u64 (k:Int)] 101/\Below w.heap.size w w3/\NUML w3 a2 U/\w3.ownsRow w2.heap.size 101 2 (.slice a3 A.length c3) A.length (z0e A)):=⟨N2.out.1.keep hb3,N2.out.2.1.trans (hb3.mono N2.out.2.1.size),N2.out.2.2.keep hb3,hown3⟩
    clear c1 hown3 hb3 N2 x0 x1 ew1 ew2;go_upto_region 7 with fail
    refine zhk w3 w.heap.size H h k k2 k3 a2 u c2 w2.heap.size a3 A.length c3 B.length A B N3.out.1.lt (N3.out.1.cell 0) (N3.out.1.cell 1) EW.out.1 EW.out.2.1 EW.out.2.2 N3.out.2.2.2 HA.out.2.2 (fun W hb=>IH2.out W a2 c2 (N3.out.2.2.1.keep hb)) (fun _ _ _ _ _ h=>h) ?_;intro z a4 q4 a5 q5 a6 q6 w4 ⟨hb4,hown4⟩;have FN:Aside (NDED w (A ++ B) (.returned (.slice a6 (A.length+B.length) q6)) w4):=⟨a6,q6,by rw [List.length_append],by rw [List.length_append];exact z0o hown4 N3.out.2.1.size,N3.out.2.1.trans (hb4.mono N3.out.2.1.size)⟩
    clear hb4 hown4 N3 IH2 EW HA;dsimp only;go_wp2_with fail
    go_ret;exact FN.out
end Go.Proofs.YthmnailmbgondaaGreatDoor
