/- Texts of ManyAccepts, one behind the other: ManyReadRegion, ManyNeedD. -/
import Derived.Test.YtjkjlblongeljaaGreatDoorManyAcceptsP33
namespace Go.Proofs.YtjkjlblongeljaaGreatDoor
open Go.RowKit
set_option maxRecDepth 100000
theorem z95 {w:World} {b o n c:Nat} {a:Option Addr} (h:∃ u,w.cell? ⟨b,o,none⟩=some u) (hf:w.frozen? ⟨b,o,none⟩=false):(Instr.storeAt 22 (.pointer (some ⟨b,o,none⟩)) (.slice a n c)).run Tryz.prog w=.ok () (w.setCell ⟨b,o,none⟩ (.slice a n c)):=by
  obtain ⟨u,h⟩:=h
  go_simp
def z0F:Array Oper:=#[⟨some 4,.fieldAddr 46 (.tmp 1) 2,0,"bytes.go:37",#[],none⟩,⟨some 5,.load 22 (.tmp 4),22,"bytes.go:37",#[⟨0,.data⟩],none⟩,⟨some 6,.load 132 (.tmp 2),132,"bytes.go:37",#[],none⟩,⟨some 7,.call {callee:=.value (.func 88),args:=#[.tmp 6],argTypes:=#[132]},35,"bytes.go:37",#[⟨2,.data⟩],none⟩,⟨some 8,.buildSlice 22 1 #[(0,.tmp 7)],22,"bytes.go:37",#[⟨3,.data⟩],none⟩,⟨some 9,.call {callee:=.builtin .append,args:=#[.tmp 5,.tmp 8],argTypes:=#[22,22]},22,"bytes.go:37",#[⟨1,.data⟩,⟨4,.data⟩,⟨3,.chain⟩],none⟩,⟨some 10,.fieldAddr 46 (.tmp 1) 2,0,"bytes.go:37",#[⟨0,.phase⟩,⟨1,.phase⟩,⟨2,.phase⟩,⟨3,.phase⟩,⟨4,.phase⟩,⟨5,.phase⟩],none⟩,⟨none,.store 22 (.tmp 10) (.tmp 9),0,"bytes.go:37",#[⟨6,.data⟩,⟨5,.data⟩,⟨5,.chain⟩,⟨0,.phase⟩,⟨1,.phase⟩,⟨2,.phase⟩,⟨3,.phase⟩,⟨4,.phase⟩,⟨5,.phase⟩],none⟩]
set_option maxHeartbeats 2000000 in
theorem zgp {Q:Exit→Act→World→Prop} {u0 u3 u4 u5 u6 u7 u8 u9 u10:Value} (W:World) (pb qb rb B:Nat) (av:Option Addr) (n cv:Nat) (H:List Int) (xs:List Value) (hH:H.length=32) (hn:n≤100000) (hne:qb≠pb) (P0 P1 P2:World→Prop) (h0:P0 W.drew) (s0:∀ w,P0 w→w.cell? ⟨qb,0,none⟩=some (.pointer (some ⟨rb,0,none⟩))∧w.cell? ⟨pb,2,none⟩=some (.slice av n cv)) (s1:∀ w,P1 w→w.cell? ⟨qb,0,none⟩=some (.pointer (some ⟨rb,0,none⟩))∧w.cell? ⟨pb,2,none⟩=some (.slice av n cv)∧w.ownsRow B 35 32 (.slice av n cv) n xs∧B≤w.heap.size) (s2:∀ w,P2 w→w.cell? ⟨qb,0,none⟩=some (.pointer (some ⟨rb,0,none⟩))) (hal:∀ w o,P1 w→P1 (w.alloc o)) (hg:∀ w w',P1 w→w.grownBy w' (Value.slice av n cv).ownBlock→P2 w') (st:∀ w,P2 w→(∃ u,w.cell? ⟨pb,2,none⟩=some u)∧w.frozen? ⟨pb,2,none⟩=false)
    (c1:∀ w,P0 w→Calls Tryz.prog 88 #[.pointer (some ⟨rb,0,none⟩)] w fun e w'=>e=.returned (.agg (z00 H).toArray)∧P1 w') (hQ:∀ c (a:Act) (t:Tmp) (v:Value) w,Q (.panic c) (a.put (some t) v) w→Q (.panic c) a w)
    (hfin:∀ (z:Nat) (g:Nat) (q:Nat) (w:World),(∃ wx:World,(P2 wx∧wx.ownsRow B 35 32 (.slice (some ⟨g,0,none⟩) (n+1) q) (n+1) (xs ++ z00 H))∧w=wx.setCell ⟨pb,2,none⟩ (.slice (some ⟨g,0,none⟩) (n+1) q))→Q .normal {tmps:=#[u0,.pointer (some ⟨pb,0,none⟩),.pointer (some ⟨qb,0,none⟩),u3,.pointer (some ⟨pb,2,none⟩),.slice av n cv,.pointer (some ⟨rb,0,none⟩),.agg (z00 H).toArray,.slice (some ⟨z,0,none⟩) 1 1,.slice (some ⟨g,0,none⟩) (n+1) q,.pointer (some ⟨pb,2,none⟩)],defers:=[]} w):(Code.region 0 z0F true).wp Tryz.prog Q {tmps:=#[u0,.pointer (some ⟨pb,0,none⟩),.pointer (some ⟨qb,0,none⟩),u3,u4,u5,u6,u7,u8,u9,u10],defers:=[]} W:=by
  have k1_3_4_5_7:∀ (z:Nat) (g:Nat) (q:Nat) (w:World),(∃ wx:World,(P2 wx∧wx.ownsRow B 35 32 (.slice (some ⟨g,0,none⟩) (n+1) q) (n+1) (xs ++ z00 H))∧w=wx.setCell ⟨pb,2,none⟩ (.slice (some ⟨g,0,none⟩) (n+1) q))→wpAnyH Tryz.prog .any z0F Q (fun w:World=>w.cell? ⟨qb,0,none⟩=some (.pointer (some ⟨rb,0,none⟩))) 0 #[true,true,true,true,true,true,true,true] {tmps:=#[u0,.pointer (some ⟨pb,0,none⟩),.pointer (some ⟨qb,0,none⟩),u3,.pointer (some ⟨pb,2,none⟩),.slice av n cv,.pointer (some ⟨rb,0,none⟩),.agg (z00 H).toArray,.slice (some ⟨z,0,none⟩) 1 1,.slice (some ⟨g,0,none⟩) (n+1) q,.pointer (some ⟨pb,2,none⟩)],defers:=[]} w:=fun z g q w hp=>by
    exact wpAnyH_done (by kernel_rfl) (hfin z g q w hp) _
  have k1_3_4_5:∀ (z:Nat) (g:Nat) (q:Nat) (w:World),(P2 w∧w.ownsRow B 35 32 (.slice (some ⟨g,0,none⟩) (n+1) q) (n+1) (xs ++ z00 H))→wpAnyH Tryz.prog .any z0F Q (fun w:World=>w.cell? ⟨qb,0,none⟩=some (.pointer (some ⟨rb,0,none⟩))) 1 #[true,true,true,true,true,true,true,false] {tmps:=#[u0,.pointer (some ⟨pb,0,none⟩),.pointer (some ⟨qb,0,none⟩),u3,.pointer (some ⟨pb,2,none⟩),.slice av n cv,.pointer (some ⟨rb,0,none⟩),.agg (z00 H).toArray,.slice (some ⟨z,0,none⟩) 1 1,.slice (some ⟨g,0,none⟩) (n+1) q,.pointer (some ⟨pb,2,none⟩)],defers:=[]} w:=fun z g q w hp=>by
    refine wpAnyH_ready (rs:=[7]) (by kernel_rfl) (by simp) ?_
    refine AllReadyH.cons (o:=⟨none,.store 22 (.tmp 10) (.tmp 9),0,"bytes.go:37",#[⟨6,.data⟩,⟨5,.data⟩,⟨5,.chain⟩,⟨0,.phase⟩,⟨1,.phase⟩,⟨2,.phase⟩,⟨3,.phase⟩,⟨4,.phase⟩,⟨5,.phase⟩],none⟩) rfl (fun K hK=>?_) ?_
    · exact z0Q rfl (z1j (z95 (st _ hp.1).1 (st _ hp.1).2)) (have hp:(fun (z:Nat) (g:Nat) (q:Nat) (w:World)=>(∃ wx:World,(P2 wx∧wx.ownsRow B 35 32 (.slice (some ⟨g,0,none⟩) (n+1) q) (n+1) (xs ++ z00 H))∧w=wx.setCell ⟨pb,2,none⟩ (.slice (some ⟨g,0,none⟩) (n+1) q))) z g q _:=⟨w,hp,rfl⟩;hK.out _ _ ((by obtain ⟨wx,h1,h3⟩:=hp; (first | rw [h3] | skip);exact (World.cell?_setCell_other wx _ _ _ (fun e=>hne (congrArg Addr.block e).symm)).trans (s2 _ h1.1))) (fun _=>k1_3_4_5_7 z g q _ hp))
    exact AllReadyH.nil
  have ek1_3_4_5:∀ (z:Nat) (g:Nat) (q:Nat) (w:World),(P2 w∧w.ownsRow B 35 32 (.slice (some ⟨g,0,none⟩) (n+1) q) (n+1) (xs ++ z00 H))→wpAnyH Tryz.prog .any z0F Q (fun w:World=>w.cell? ⟨qb,0,none⟩=some (.pointer (some ⟨rb,0,none⟩))) 2 #[true,true,true,true,true,true,false,false] {tmps:=#[u0,.pointer (some ⟨pb,0,none⟩),.pointer (some ⟨qb,0,none⟩),u3,.pointer (some ⟨pb,2,none⟩),.slice av n cv,.pointer (some ⟨rb,0,none⟩),.agg (z00 H).toArray,.slice (some ⟨z,0,none⟩) 1 1,.slice (some ⟨g,0,none⟩) (n+1) q,u10],defers:=[]} w:=fun z g q w hp=>by
    have hww:(fun w:World=>w.cell? ⟨qb,0,none⟩=some (.pointer (some ⟨rb,0,none⟩))) w:=s2 _ hp.1
    have last:=k1_3_4_5 z g q w hp
    have t6:wpAnyH Tryz.prog .any z0F Q (fun w:World=>w.cell? ⟨qb,0,none⟩=some (.pointer (some ⟨rb,0,none⟩))) 2 #[true,true,true,true,true,true,false,false] {tmps:=#[u0,.pointer (some ⟨pb,0,none⟩),.pointer (some ⟨qb,0,none⟩),u3,.pointer (some ⟨pb,2,none⟩),.slice av n cv,.pointer (some ⟨rb,0,none⟩),.agg (z00 H).toArray,.slice (some ⟨z,0,none⟩) 1 1,.slice (some ⟨g,0,none⟩) (n+1) q,u10],defers:=[]} w:=
      wpAnyH_take (i:=6) (oi:=⟨some 10,.fieldAddr 46 (.tmp 1) 2,0,"bytes.go:37",#[⟨0,.phase⟩,⟨1,.phase⟩,⟨2,.phase⟩,⟨3,.phase⟩,⟨4,.phase⟩,⟨5,.phase⟩],none⟩) (v:=.pointer (some ⟨pb,2,none⟩)) rfl (by kernel_rfl) (by kernel_rfl) (by kernel_rfl) (fun _ _ _ h=>hQ _ _ _ _ _ h) (Yields.yieldsIf (Or.inl ⟨by rfl,fun W=>by go_simp⟩)) hww last
    exact t6
  have k1_3_4:∀ (z:Nat) (w:World),(P1 w∧Has w z (z00 H).toArray 35)→wpAnyH Tryz.prog .any z0F Q (fun w:World=>w.cell? ⟨qb,0,none⟩=some (.pointer (some ⟨rb,0,none⟩))) 3 #[true,true,true,true,true,false,false,false] {tmps:=#[u0,.pointer (some ⟨pb,0,none⟩),.pointer (some ⟨qb,0,none⟩),u3,.pointer (some ⟨pb,2,none⟩),.slice av n cv,.pointer (some ⟨rb,0,none⟩),.agg (z00 H).toArray,.slice (some ⟨z,0,none⟩) 1 1,u9,u10],defers:=[]} w:=fun z w hp=>by
    refine wpAnyH_ready (rs:=[5]) (by kernel_rfl) (by simp) ?_
    refine AllReadyH.cons (o:=⟨some 9,.call {callee:=.builtin .append,args:=#[.tmp 5,.tmp 8],argTypes:=#[22,22]},22,"bytes.go:37",#[⟨1,.data⟩,⟨4,.data⟩,⟨3,.chain⟩],none⟩) rfl (fun K hK=>?_) ?_
    · exact z32 (by rfl) (zcz w rfl (.tmp 5) (.tmp 8) rfl B (.slice av n cv) n xs rfl (s1 _ hp.1).2.2.1 z 1 H hH rfl hp.2 hn (s1 _ hp.1).2.2.2 (fun g q w' h1 h2 _ _=>⟨rfl,(have hp:(fun (z:Nat) (g:Nat) (q:Nat) (w:World)=>(P2 w∧w.ownsRow B 35 32 (.slice (some ⟨g,0,none⟩) (n+1) q) (n+1) (xs ++ z00 H))) z g q w':=⟨hg _ _ hp.1 h2,h1⟩;hK.out _ _ (s2 _ hp.1) (fun _=>ek1_3_4_5 z g q _ hp))⟩))
    exact AllReadyH.nil
  have k1_3:∀ (w:World),(P1 w)→wpAnyH Tryz.prog .any z0F Q (fun w:World=>w.cell? ⟨qb,0,none⟩=some (.pointer (some ⟨rb,0,none⟩))) 4 #[true,true,true,true,false,false,false,false] {tmps:=#[u0,.pointer (some ⟨pb,0,none⟩),.pointer (some ⟨qb,0,none⟩),u3,.pointer (some ⟨pb,2,none⟩),.slice av n cv,.pointer (some ⟨rb,0,none⟩),.agg (z00 H).toArray,u8,u9,u10],defers:=[]} w:=fun  w hp=>by
    refine wpAnyH_ready (rs:=[4]) (by kernel_rfl) (by simp) ?_
    refine AllReadyH.cons (o:=⟨some 8,.buildSlice 22 1 #[(0,.tmp 7)],22,"bytes.go:37",#[⟨3,.data⟩],none⟩) rfl (fun K hK=>?_) ?_
    · exact z32 (by rfl) (z1n w rfl 22 35 (.tmp 7) rfl (z00 H).toArray rfl 32 _ _ Tryz.underlying22 z0K (by simp [z00,hH]) rfl (by decide) (by decide) ⟨rfl,(have hp:(fun (z:Nat) (w:World)=>(P1 w∧Has w z (z00 H).toArray 35)) w.heap.size _:=⟨hal _ _ hp,Has.new w _ _⟩;hK.out _ _ ((s1 _ hp.1).1) (fun _=>k1_3_4 w.heap.size _ hp))⟩)
    exact AllReadyH.nil
  have k3_4:∀ (z:Nat) (w:World),(P1 w∧Has w z (z00 H).toArray 35)→wpAnyH Tryz.prog .any z0F Q (fun w:World=>w.cell? ⟨qb,0,none⟩=some (.pointer (some ⟨rb,0,none⟩))) 4 #[true,false,true,true,true,false,false,false] {tmps:=#[u0,.pointer (some ⟨pb,0,none⟩),.pointer (some ⟨qb,0,none⟩),u3,.pointer (some ⟨pb,2,none⟩),u5,.pointer (some ⟨rb,0,none⟩),.agg (z00 H).toArray,.slice (some ⟨z,0,none⟩) 1 1,u9,u10],defers:=[]} w:=fun z w hp=>by
    refine wpAnyH_ready (rs:=[1]) (by kernel_rfl) (by simp) ?_
    refine AllReadyH.cons (o:=⟨some 5,.load 22 (.tmp 4),22,"bytes.go:37",#[⟨0,.data⟩],none⟩) rfl (fun K hK=>?_) ?_
    · exact z26 (by rfl) (by have hx:=(s1 _ hp.1).2.1;go_simp) (have hp:(fun (z:Nat) (w:World)=>(P1 w∧Has w z (z00 H).toArray 35)) z w:=hp;hK.out _ _ ((s1 _ hp.1).1) (fun _=>k1_3_4 z _ hp))
    exact AllReadyH.nil
  have k1:∀ (w:World),(P0 w)→wpAnyH Tryz.prog .any z0F Q (fun w:World=>w.cell? ⟨qb,0,none⟩=some (.pointer (some ⟨rb,0,none⟩))) 5 #[true,true,true,false,false,false,false,false] {tmps:=#[u0,.pointer (some ⟨pb,0,none⟩),.pointer (some ⟨qb,0,none⟩),u3,.pointer (some ⟨pb,2,none⟩),.slice av n cv,.pointer (some ⟨rb,0,none⟩),u7,u8,u9,u10],defers:=[]} w:=fun  w hp=>by
    refine wpAnyH_ready (rs:=[3]) (by kernel_rfl) (by simp) ?_
    refine AllReadyH.cons (o:=⟨some 7,.call {callee:=.value (.func 88),args:=#[.tmp 6],argTypes:=#[132]},35,"bytes.go:37",#[⟨2,.data⟩],none⟩) rfl (fun K hK=>?_) ?_
    · rw [if_pos (by rfl)]
      go_simp
      refine (show Calls _ _ _ w (fun e w'=>e=.returned (.agg (z00 H).toArray)∧(P1 w')) from c1 w hp).mono ?_
      rintro e w' ⟨rfl,hp⟩
      exact hK.out _ _ ((s1 _ hp).1) (fun _=>k1_3  w' hp)
    exact AllReadyH.nil
  have k3:∀ (w:World),(P1 w)→wpAnyH Tryz.prog .any z0F Q (fun w:World=>w.cell? ⟨qb,0,none⟩=some (.pointer (some ⟨rb,0,none⟩))) 5 #[true,false,true,true,false,false,false,false] {tmps:=#[u0,.pointer (some ⟨pb,0,none⟩),.pointer (some ⟨qb,0,none⟩),u3,.pointer (some ⟨pb,2,none⟩),u5,.pointer (some ⟨rb,0,none⟩),.agg (z00 H).toArray,u8,u9,u10],defers:=[]} w:=fun  w hp=>by
    refine wpAnyH_ready (rs:=[1,4]) (by kernel_rfl) (by simp) ?_
    refine AllReadyH.cons (o:=⟨some 5,.load 22 (.tmp 4),22,"bytes.go:37",#[⟨0,.data⟩],none⟩) rfl (fun K hK=>?_) ?_
    · exact z26 (by rfl) (by have hx:=(s1 _ hp).2.1;go_simp) (have hp:(fun (w:World)=>(P1 w))  w:=hp;hK.out _ _ ((s1 _ hp).1) (fun _=>k1_3  _ hp))
    refine AllReadyH.cons (o:=⟨some 8,.buildSlice 22 1 #[(0,.tmp 7)],22,"bytes.go:37",#[⟨3,.data⟩],none⟩) rfl (fun K hK=>?_) ?_
    · exact z32 (by rfl) (z1n w rfl 22 35 (.tmp 7) rfl (z00 H).toArray rfl 32 _ _ Tryz.underlying22 z0K (by simp [z00,hH]) rfl (by decide) (by decide) ⟨rfl,(have hp:(fun (z:Nat) (w:World)=>(P1 w∧Has w z (z00 H).toArray 35)) w.heap.size _:=⟨hal _ _ hp,Has.new w _ _⟩;hK.out _ _ ((s1 _ hp.1).1) (fun _=>k3_4 w.heap.size _ hp))⟩)
    exact AllReadyH.nil
  have k:∀ (w:World),(P0 w)→wpAnyH Tryz.prog .any z0F Q (fun w:World=>w.cell? ⟨qb,0,none⟩=some (.pointer (some ⟨rb,0,none⟩))) 6 #[true,false,true,false,false,false,false,false] {tmps:=#[u0,.pointer (some ⟨pb,0,none⟩),.pointer (some ⟨qb,0,none⟩),u3,.pointer (some ⟨pb,2,none⟩),u5,.pointer (some ⟨rb,0,none⟩),u7,u8,u9,u10],defers:=[]} w:=fun  w hp=>by
    refine wpAnyH_ready (rs:=[1,3]) (by kernel_rfl) (by simp) ?_
    refine AllReadyH.cons (o:=⟨some 5,.load 22 (.tmp 4),22,"bytes.go:37",#[⟨0,.data⟩],none⟩) rfl (fun K hK=>?_) ?_
    · exact z26 (by rfl) (by have hx:=(s0 _ hp).2;go_simp) (have hp:(fun (w:World)=>(P0 w))  w:=hp;hK.out _ _ ((s0 _ hp).1) (fun _=>k1  _ hp))
    refine AllReadyH.cons (o:=⟨some 7,.call {callee:=.value (.func 88),args:=#[.tmp 6],argTypes:=#[132]},35,"bytes.go:37",#[⟨2,.data⟩],none⟩) rfl (fun K hK=>?_) ?_
    · rw [if_pos (by rfl)]
      go_simp
      refine (show Calls _ _ _ w (fun e w'=>e=.returned (.agg (z00 H).toArray)∧(P1 w')) from c1 w hp).mono ?_
      rintro e w' ⟨rfl,hp⟩
      exact hK.out _ _ ((s1 _ hp).1) (fun _=>k3  w' hp)
    exact AllReadyH.nil
  have hp:=h0
  have hww:(fun w:World=>w.cell? ⟨qb,0,none⟩=some (.pointer (some ⟨rb,0,none⟩))) W.drew:=(s0 _ hp).1
  have last:=k W.drew hp
  have z:wpAnyH Tryz.prog .any z0F Q (fun w:World=>w.cell? ⟨qb,0,none⟩=some (.pointer (some ⟨rb,0,none⟩))) 8 #[false,false,false,false,false,false,false,false] {tmps:=#[u0,.pointer (some ⟨pb,0,none⟩),.pointer (some ⟨qb,0,none⟩),u3,u4,u5,u6,u7,u8,u9,u10],defers:=[]} W.drew:=by
    have t2:wpAnyH Tryz.prog .any z0F Q (fun w:World=>w.cell? ⟨qb,0,none⟩=some (.pointer (some ⟨rb,0,none⟩))) 7 #[true,false,false,false,false,false,false,false] {tmps:=#[u0,.pointer (some ⟨pb,0,none⟩),.pointer (some ⟨qb,0,none⟩),u3,.pointer (some ⟨pb,2,none⟩),u5,u6,u7,u8,u9,u10],defers:=[]} W.drew:=
      wpAnyH_take (i:=2) (oi:=⟨some 6,.load 132 (.tmp 2),132,"bytes.go:37",#[],none⟩) (v:=.pointer (some ⟨rb,0,none⟩)) rfl (by kernel_rfl) (by kernel_rfl) (by kernel_rfl) (fun _ _ _ h=>hQ _ _ _ _ _ h) (Or.inl ⟨by rfl,fun w hw=>by have hx:w.cell? ⟨qb,0,none⟩=some (.pointer (some ⟨rb,0,none⟩)):=hw;go_simp⟩) hww last
    have t0:wpAnyH Tryz.prog .any z0F Q (fun w:World=>w.cell? ⟨qb,0,none⟩=some (.pointer (some ⟨rb,0,none⟩))) 8 #[false,false,false,false,false,false,false,false] {tmps:=#[u0,.pointer (some ⟨pb,0,none⟩),.pointer (some ⟨qb,0,none⟩),u3,u4,u5,u6,u7,u8,u9,u10],defers:=[]} W.drew:=
      wpAnyH_take (i:=0) (oi:=⟨some 4,.fieldAddr 46 (.tmp 1) 2,0,"bytes.go:37",#[],none⟩) (v:=.pointer (some ⟨pb,2,none⟩)) rfl (by kernel_rfl) (by kernel_rfl) (by kernel_rfl) (fun _ _ _ h=>hQ _ _ _ _ _ h) (Yields.yieldsIf (Or.inl ⟨by rfl,fun W=>by go_simp⟩)) hww t2
    exact t0
  exact wp_region_held_drew (S:=(fun w:World=>w.cell? ⟨qb,0,none⟩=some (.pointer (some ⟨rb,0,none⟩)))) (by kernel_rfl) hww (fun _=>z)
set_option maxHeartbeats 2000000 in
theorem zed {Q:Exit→Act→World→Prop} {u0 u3 u4 u5 u6 u7 u8 u9 u10:Value} (W:World) (pb qb rb:Nat) (v:Value) (X:List PanicEntry) (P0 D:World→Prop) (h0:P0 W.drew) (s0:∀ w,P0 w→w.cell? ⟨qb,0,none⟩=some (.pointer (some ⟨rb,0,none⟩))∧w.cell? ⟨pb,2,none⟩=some v) (hdie:∀ (a:Act) (w:World),a.defers=[]→D w→Q (.panic X) a w)
    (c1:∀ w,P0 w→Calls Tryz.prog 88 #[.pointer (some ⟨rb,0,none⟩)] w fun e w'=>e=.panicked X∧D w') (hQ:∀ c (a:Act) (t:Tmp) (v:Value) w,Q (.panic c) (a.put (some t) v) w→Q (.panic c) a w)
    : (Code.region 0 z0F true).wp Tryz.prog Q {tmps:=#[u0,.pointer (some ⟨pb,0,none⟩),.pointer (some ⟨qb,0,none⟩),u3,u4,u5,u6,u7,u8,u9,u10],defers:=[]} W:=by
  have k1:∀ (w:World),(P0 w)→wpAnyH Tryz.prog .any z0F Q (fun w:World=>w.cell? ⟨qb,0,none⟩=some (.pointer (some ⟨rb,0,none⟩))) 5 #[true,true,true,false,false,false,false,false] {tmps:=#[u0,.pointer (some ⟨pb,0,none⟩),.pointer (some ⟨qb,0,none⟩),u3,.pointer (some ⟨pb,2,none⟩),v,.pointer (some ⟨rb,0,none⟩),u7,u8,u9,u10],defers:=[]} w:=fun  w hp=>by
    refine wpAnyH_ready (rs:=[3]) (by kernel_rfl) (by simp) ?_
    refine AllReadyH.cons (o:=⟨some 7,.call {callee:=.value (.func 88),args:=#[.tmp 6],argTypes:=#[132]},35,"bytes.go:37",#[⟨2,.data⟩],none⟩) rfl (fun K hK=>?_) ?_
    · rw [if_pos (by rfl)]
      go_simp
      refine (show Calls _ _ _ w (fun e w'=>e=.panicked (X)∧D w') from c1 w hp).mono ?_
      rintro e w' ⟨rfl,hd⟩
      exact hdie _ _ rfl hd
    exact AllReadyH.nil
  have k:∀ (w:World),(P0 w)→wpAnyH Tryz.prog .any z0F Q (fun w:World=>w.cell? ⟨qb,0,none⟩=some (.pointer (some ⟨rb,0,none⟩))) 6 #[true,false,true,false,false,false,false,false] {tmps:=#[u0,.pointer (some ⟨pb,0,none⟩),.pointer (some ⟨qb,0,none⟩),u3,.pointer (some ⟨pb,2,none⟩),u5,.pointer (some ⟨rb,0,none⟩),u7,u8,u9,u10],defers:=[]} w:=fun  w hp=>by
    refine wpAnyH_ready (rs:=[1,3]) (by kernel_rfl) (by simp) ?_
    refine AllReadyH.cons (o:=⟨some 5,.load 22 (.tmp 4),22,"bytes.go:37",#[⟨0,.data⟩],none⟩) rfl (fun K hK=>?_) ?_
    · exact z26 (by rfl) (by have hx:=(s0 _ hp).2;go_simp) (have hp:(fun (w:World)=>(P0 w))  w:=hp;hK.out _ _ ((s0 _ hp).1) (fun _=>k1  _ hp))
    refine AllReadyH.cons (o:=⟨some 7,.call {callee:=.value (.func 88),args:=#[.tmp 6],argTypes:=#[132]},35,"bytes.go:37",#[⟨2,.data⟩],none⟩) rfl (fun K hK=>?_) ?_
    · rw [if_pos (by rfl)]
      go_simp
      refine (show Calls _ _ _ w (fun e w'=>e=.panicked (X)∧D w') from c1 w hp).mono ?_
      rintro e w' ⟨rfl,hd⟩
      exact hdie _ _ rfl hd
    exact AllReadyH.nil
  have hp:=h0
  have hww:(fun w:World=>w.cell? ⟨qb,0,none⟩=some (.pointer (some ⟨rb,0,none⟩))) W.drew:=(s0 _ hp).1
  have last:=k W.drew hp
  have z:wpAnyH Tryz.prog .any z0F Q (fun w:World=>w.cell? ⟨qb,0,none⟩=some (.pointer (some ⟨rb,0,none⟩))) 8 #[false,false,false,false,false,false,false,false] {tmps:=#[u0,.pointer (some ⟨pb,0,none⟩),.pointer (some ⟨qb,0,none⟩),u3,u4,u5,u6,u7,u8,u9,u10],defers:=[]} W.drew:=by
    have t2:wpAnyH Tryz.prog .any z0F Q (fun w:World=>w.cell? ⟨qb,0,none⟩=some (.pointer (some ⟨rb,0,none⟩))) 7 #[true,false,false,false,false,false,false,false] {tmps:=#[u0,.pointer (some ⟨pb,0,none⟩),.pointer (some ⟨qb,0,none⟩),u3,.pointer (some ⟨pb,2,none⟩),u5,u6,u7,u8,u9,u10],defers:=[]} W.drew:=
      wpAnyH_take (i:=2) (oi:=⟨some 6,.load 132 (.tmp 2),132,"bytes.go:37",#[],none⟩) (v:=.pointer (some ⟨rb,0,none⟩)) rfl (by kernel_rfl) (by kernel_rfl) (by kernel_rfl) (fun _ _ _ h=>hQ _ _ _ _ _ h) (Or.inl ⟨by rfl,fun w hw=>by have hx:w.cell? ⟨qb,0,none⟩=some (.pointer (some ⟨rb,0,none⟩)):=hw;go_simp⟩) hww last
    have t0:wpAnyH Tryz.prog .any z0F Q (fun w:World=>w.cell? ⟨qb,0,none⟩=some (.pointer (some ⟨rb,0,none⟩))) 8 #[false,false,false,false,false,false,false,false] {tmps:=#[u0,.pointer (some ⟨pb,0,none⟩),.pointer (some ⟨qb,0,none⟩),u3,u4,u5,u6,u7,u8,u9,u10],defers:=[]} W.drew:=
      wpAnyH_take (i:=0) (oi:=⟨some 4,.fieldAddr 46 (.tmp 1) 2,0,"bytes.go:37",#[],none⟩) (v:=.pointer (some ⟨pb,2,none⟩)) rfl (by kernel_rfl) (by kernel_rfl) (by kernel_rfl) (fun _ _ _ h=>hQ _ _ _ _ _ h) (Yields.yieldsIf (Or.inl ⟨by rfl,fun W=>by go_simp⟩)) hww t2
    exact t0
  exact wp_region_held_drew (S:=(fun w:World=>w.cell? ⟨qb,0,none⟩=some (.pointer (some ⟨rb,0,none⟩)))) (by kernel_rfl) hww (fun _=>z)
end Go.Proofs.YtjkjlblongeljaaGreatDoor

namespace Go.Proofs.YtjkjlblongeljaaGreatDoor
open Go.RowKit
set_option maxRecDepth 100000
set_option maxHeartbeats 2000000 in
theorem zcA (w0:World) (bi:Nat) (CP QB:Nat) (S P:List Nat→World→Prop) (X:List PanicEntry)
    (hS:∀ acc w w',S acc w→Below w.heap.size w w'→S acc w') (hB:∀ acc w,S acc w→(bi<w0.heap.size→w.heap[bi]?=w0.heap[bi]?)∧w0.heap.size≤w.heap.size)
    (ht:∀ acc (p:Nat) w,S acc w→acc.length≤2 ^ 30→Calls Tryz.prog 87 #[.int .u64 (p:Int),.pointer (some ⟨CP,0,none⟩),.pointer (some ⟨QB,0,none⟩)] w fun e w'=>(e=.returned (.tuple #[])∧S (acc ++ [p]) w')∨(e=.panicked X∧P acc w')):
    ∀ (h k:Nat),Node h k→∀ (L:List Nat) (a:Option Addr) (n c:Nat) (acc:List Nat) (w:World),L.length=n→n<2 ^ 40→RISES L→n≤c→(a=none→c=0)→(∀ x,a=some x→x.block=bi∧x.spot=none)→NUML w0 a L→S acc w→acc.length+(NEED h k L).length≤2 ^ 30→
    Calls Tryz.prog 119 #[.int .u64 ((PLC h k:Nat):Int),.slice a n c,.func (.func 87) #[] #[.pointer (some ⟨CP,0,none⟩),.pointer (some ⟨QB,0,none⟩)]] w (TOLD S P X acc (NEED h k L)):=by
  intro h
  induction h with
  | zero=>
    intro k hN L a n c acc w hl hn hR hc hnil hbl hL hw hlen
    cases L with
    | nil=>
      obtain rfl:n=0:=by simpa using hl.symm
      rw [z0v] at hlen ⊢
      have ct:=ht acc (PLC 0 k) w hw (by simp at hlen;omega)
      clear hl hn hR hc hnil hbl hL hw hlen ht hS hB
      go_enter Tryz.func119,Tryz.ntmps119
      go_wp2_with fail
      refine ct.mono ?_
      rintro e w1 (⟨rfl,h1⟩ | ⟨rfl,h1⟩)
      · clear ct
        have FN:Aside (S (acc ++ [PLC 0 k]) w1):=h1
        clear h1
        go_wp2_with fail
        exact bodyPost_ret (v:=.tuple #[]) (by simp [results,Tryz.f119]) rfl (.inl ⟨rfl,FN.out⟩)
      · exact ⟨rfl,.inr ⟨acc,PLC 0 k,List.prefix_refl _,rfl,h1⟩⟩
    | cons x l=>
      have hn0:((n:Int) == 0)=false:=beq_eq_false_iff_ne.2 (by simp at hl;omega)
      have ck:=z3c ((PLC 0 k:Nat):Int) k w (.node hN)
      have HS:Aside (∀ w',Below w.heap.size w w'→S (acc ++ []) w'):=fun w' hb=>by rw [List.append_nil];exact hS acc w w' hw hb
      clear hl hn hR hc hnil hbl hL hw hlen ht hS hB
      go_enter Tryz.func119,Tryz.ntmps119
      go_wp2_with fail
      refine ck.mono ?_
      rintro e w1 ⟨rfl,h1⟩
      clear ck
      have FN:Aside (S (acc ++ []) w1):=HS.out w1 h1
      clear h1 HS
      go_wp2_with fail
      exact bodyPost_ret (v:=.tuple #[]) (by simp [results,Tryz.f119]) rfl (.inl ⟨rfl,FN.out⟩)
  | succ h ih=>
    intro k hN L a n c acc w hl hn hR hc hnil hbl hL hw hlen
    by_cases hLe:L=[]
    · subst hLe
      obtain rfl:n=0:=by simpa using hl.symm
      rw [z0v] at hlen ⊢
      have ct:=ht acc (PLC (h+1) k) w hw (by simp at hlen;omega)
      clear hl hn hR hc hnil hbl hL hw hlen ht hS hB ih
      go_enter Tryz.func119,Tryz.ntmps119
      go_wp2_with fail
      refine ct.mono ?_
      rintro e w1 (⟨rfl,h1⟩ | ⟨rfl,h1⟩)
      · clear ct
        have FN:Aside (S (acc ++ [PLC (h+1) k]) w1):=h1
        clear h1
        go_wp2_with fail
        exact bodyPost_ret (v:=.tuple #[]) (by simp [results,Tryz.f119]) rfl (.inl ⟨rfl,FN.out⟩)
      · exact ⟨rfl,.inr ⟨acc,PLC (h+1) k,List.prefix_refl _,rfl,h1⟩⟩
    · have hn0:((n:Int) == 0)=false:=beq_eq_false_iff_ne.2 (by have:=List.length_pos_iff.2 hLe;omega)
      obtain ⟨hNl,hNr⟩:=hN.kid
      have ck:=z4y h k hN w
      have HA:Aside (L.length=n∧n<2 ^ 40∧RISES L∧n≤c∧(a=none→c=0)∧(∀ x,a=some x→x.block=bi∧x.spot=none)∧NUML w0 a L∧S acc w∧acc.length+(NEED (h+1) k L).length≤2 ^ 30∧L≠[]):=⟨hl,hn,hR,hc,hnil,hbl,hL,hw,hlen,hLe⟩
      have NS:Aside ((∀ acc w w',S acc w→Below w.heap.size w w'→S acc w')∧(∀ acc w,S acc w→(bi<w0.heap.size→w.heap[bi]?=w0.heap[bi]?)∧w0.heap.size≤w.heap.size)∧Node h (2*k)∧Node h (2*k+1)):=⟨hS,hB,hNl,hNr⟩
      have IH:Aside _:=ih
      clear hl hn hR hc hnil hbl hL hw hlen ht hS hB ih hNl hNr hLe
      go_enter Tryz.func119,Tryz.ntmps119
      go_wp2_with fail
      refine ck.mono ?_
      rintro e w1 ⟨rfl,hb1⟩
      clear ck
      have S1:Aside (S acc w1):=NS.out.1 acc w w1 HA.out.2.2.2.2.2.2.2.1 hb1
      have hN1:NUML w1 a L:=fun h0=>by
        obtain ⟨b,o,e,hl,hcc⟩:=HA.out.2.2.2.2.2.2.1 h0
        have hbb:b=bi:=(HA.out.2.2.2.2.2.1 _ e).1
        obtain ⟨k1,k2⟩:=NS.out.2.1 acc w1 S1.out
        subst hbb
        exact ⟨b,o,e,by omega,fun i x hx=>(World.cell?_of_block (w:=w0) (by exact k1 hl)).trans (hcc i x hx)⟩
      have cs:=z1E h (2*k) NS.out.2.2.1 a n c L HA.out.1 HA.out.2.1 HA.out.2.2.1 HA.out.2.2.2.1 HA.out.2.2.2.2.1 (fun x e=>(HA.out.2.2.2.2.2.1 x e).2) w1 hN1
      clear hb1 hN1
      go_wp2_with fail
      refine cs.mono ?_
      rintro e w2 ⟨r,a',rfl,hs⟩
      clear cs
      have hsp:NEED (h+1) k L=NEED h (2*k) (L.take r) ++ NEED h (2*k+1) (L.drop r):=z1A HA.out.2.2.2.2.2.2.2.2.2 hs.rank
      have hrn:=hs.rank.le
      have ML:Aside (NUML w0 a (L.take r)):=fun h0=>by
        obtain ⟨b,o,e,hl,hcc⟩:=HA.out.2.2.2.2.2.2.1 (by rw [List.length_take] at h0;omega)
        refine ⟨b,o,e,hl,fun i x hx=>hcc i x ?_⟩
        rw [List.getElem?_take] at hx
        split at hx
        · exact hx
        · cases hx
      have MR:Aside (NUML w0 a' (L.drop r)∧∀ x,a'=some x→x.block=bi∧x.spot=none):=by
        refine ⟨fun h0=>?_,fun x hx=>?_⟩
        · obtain ⟨b,o,e,hl,hcc⟩:=hs.lies h0
          obtain ⟨y,e2,e3⟩:=hs.block _ e
          have hbb:b=bi:=by have:=(HA.out.2.2.2.2.2.1 _ e2).1;rw [← e3] at this;exact this
          obtain ⟨k1,k2⟩:=NS.out.2.1 acc w1 S1.out
          obtain ⟨b',o',e',hl',_⟩:=HA.out.2.2.2.2.2.2.1 (by rw [List.length_drop] at h0;omega)
          have hbi:bi<w0.heap.size:=by have h9:b'=bi:=(HA.out.2.2.2.2.2.1 _ e').1;omega
          subst hbb
          exact ⟨b,o,e,hbi,fun i x hx=>(World.cell?_of_block (w:=w1) (by exact (k1 hbi).symm)).trans (hcc i x hx)⟩
        · obtain ⟨y,e2,e3⟩:=hs.block x hx
          refine ⟨by rw [e3];exact (HA.out.2.2.2.2.2.1 _ e2).1,hs.spot x hx⟩
      have S2:Aside (S acc w2):=NS.out.1 acc w1 w2 S1.out hs.below
      have NL:Aside (a'=none→c - r=0):=hs.nil
      have SP:Aside (NEED (h+1) k L=NEED h (2*k) (L.take r) ++ NEED h (2*k+1) (L.drop r)∧r≤n∧acc.length+(NEED h (2*k) (L.take r)).length+(NEED h (2*k+1) (L.drop r)).length≤2 ^ 30):=by
        refine ⟨hsp,by have:=HA.out.1;omega,?_⟩
        have h1:=HA.out.2.2.2.2.2.2.2.2.1
        rw [hsp,List.length_append] at h1
        omega
      clear hs hsp hrn S1
      have c1:=IH.out (2*k) NS.out.2.2.1 (L.take r) a r c acc w2 (by rw [List.length_take];have:=SP.out.2.1;have:=HA.out.1;omega) (by have:=SP.out.2.1;have:=HA.out.2.1;omega) (HA.out.2.2.1.take r) (by have:=SP.out.2.1;have:=HA.out.2.2.2.1;omega) HA.out.2.2.2.2.1 HA.out.2.2.2.2.2.1 ML.out S2.out (by have:=SP.out.2.2;omega)
      go_wp2_with fail
      refine c1.mono ?_
      rintro e w3 (⟨rfl,h3⟩ | ⟨pre,p,hp,rfl,h3⟩)
      · clear c1
        have c2:=IH.out (2*k+1) NS.out.2.2.2 (L.drop r) a' (n - r) (c - r) (acc ++ NEED h (2*k) (L.take r)) w3 (by rw [List.length_drop];have:=HA.out.1;omega) (by have:=HA.out.2.1;omega) (HA.out.2.2.1.drop r) (by have:=HA.out.2.2.2.1;omega) NL.out MR.out.2 MR.out.1 h3 (by rw [List.length_append];exact SP.out.2.2)
        have SQ:Aside (acc ++ NEED h (2*k) (L.take r) ++ NEED h (2*k+1) (L.drop r)=acc ++ NEED (h+1) k L):=show acc ++ NEED h (2*k) (L.take r) ++ NEED h (2*k+1) (L.drop r)=acc ++ NEED (h+1) k L by rw [SP.out.1,List.append_assoc]
        clear h3 IH HA NS ML MR S2 NL SP
        go_wp2_with fail
        refine c2.mono ?_
        rintro e w4 (⟨rfl,h4⟩ | ⟨pre,p,hp,rfl,h4⟩)
        · have FN:Aside (S (acc ++ NEED (h+1) k L) w4):=by rw [SQ.out] at h4;exact h4
          clear h4 c2 SQ
          go_wp2_with fail
          exact bodyPost_end (v:=.tuple #[]) (by simp [results,Tryz.f119]) rfl (.inl ⟨rfl,FN.out⟩)
        · rw [SQ.out] at hp
          exact ⟨rfl,.inr ⟨pre,p,hp,rfl,h4⟩⟩
      · refine ⟨rfl,.inr ⟨pre,p,hp.trans ?_,rfl,h3⟩⟩
        rw [SP.out.1,← List.append_assoc]
        exact List.prefix_append _ _
set_option maxHeartbeats 2000000 in
theorem zee (bi CP QB RB:Nat) (S P:World→List Nat→World→Prop) (X:List PanicEntry)
    (hS:∀ w0 acc w w',S w0 acc w→Below w.heap.size w w'→S w0 acc w') (hB:∀ w0 acc w,S w0 acc w→(∀ b,b<w0.heap.size→b≠CP→b≠RB→w.heap[b]?=w0.heap[b]?)∧w0.heap.size≤w.heap.size)
    (ht:∀ w0 acc (p:Nat) w,S w0 acc w→acc.length≤2 ^ 30→Calls Tryz.prog 87 #[.int .u64 (p:Int),.pointer (some ⟨CP,0,none⟩),.pointer (some ⟨QB,0,none⟩)] w fun e w'=>(e=.returned (.tuple #[])∧S w0 (acc ++ [p]) w')∨(e=.panicked X∧P w0 acc w'))
    (N:Nat) (hN:N≤4611686018427387904) (L:List Nat) (a:Option Addr) (n c:Nat) (w:World) (hl:L.length=n) (hn:n<2 ^ 20) (hR:RISES L) (hc:n≤c) (hnil:a=none→c=0) (hbl:∀ x,a=some x→x.block=bi∧x.spot=none) (hL:NUML w a L) (hCb:bi≠CP∧bi≠RB) (hCP:CP<w.heap.size∧RB<w.heap.size) (hT:Tabled w)
    (h0:∀ w1,Below w.heap.size w w1→S w1 [] w1):
    Calls Tryz.prog 79 #[.slice a n c,.int .u64 (N:Int),.func (.func 87) #[] #[.pointer (some ⟨CP,0,none⟩),.pointer (some ⟨QB,0,none⟩)]] w fun e w'=>∃ w1,Below w.heap.size w w1∧TOLD (S w1) (P w1) X [] (z08 (TPS N) L) e w':=by
  have cp:=z2R N hN w hT (by omega)
  have hPC:PC N≤64:=z1x 64 N (by omega)
  have hlen:=z2e (n:=N) (by omega)
  have hmost:=z2F (TPS N) L (fun p hp=>(z1Z (n:=N) (by omega) (h:=p.1) (k:=p.2) hp).1)
  have HA:Aside (n<2 ^ 20∧N≤2 ^ 62∧PC N≤64∧(TPS N).length=PC N∧(z08 (TPS N) L).length≤2 ^ 30∧(bi≠CP∧bi≠RB)∧(CP<w.heap.size∧RB<w.heap.size)):=⟨hn,by omega,hPC,hlen,by omega,hCb,hCP⟩
  have ST:Aside ((∀ w0 acc w w',S w0 acc w→Below w.heap.size w w'→S w0 acc w')∧(∀ w0 acc w,S w0 acc w→(∀ b,b<w0.heap.size→b≠CP→b≠RB→w.heap[b]?=w0.heap[b]?)∧w0.heap.size≤w.heap.size)):=⟨hS,hB⟩
  have HT:Aside (∀ w0 acc (p:Nat) w,S w0 acc w→acc.length≤2 ^ 30→Calls Tryz.prog 87 #[.int .u64 (p:Int),.pointer (some ⟨CP,0,none⟩),.pointer (some ⟨QB,0,none⟩)] w fun e w'=>(e=.returned (.tuple #[])∧S w0 (acc ++ [p]) w')∨(e=.panicked X∧P w0 acc w')):=ht
  have LL:Aside (L.length=n∧RISES L∧n≤c∧(a=none→c=0)∧(∀ x,a=some x→x.block=bi∧x.spot=none)∧NUML w a L∧∀ w1,Below w.heap.size w w1→S w1 [] w1):=⟨hl,hR,hc,hnil,hbl,hL,h0⟩
  clear hN hl hn hR hc hnil hbl hL hCb hCP hT h0 hS hB ht hPC hlen hmost
  go_enter Tryz.func79,Tryz.ntmps79
  go_wp2_with fail
  refine cp.mono ?_
  rintro e w1 ⟨g,cg,rfl,hown,hb1⟩
  clear cp
  obtain ⟨m,hm⟩:∃ m,PC N=m:=⟨_,rfl⟩
  rw [hm] at hown ⊢
  have R1:Aside (w1.ownsRow w.heap.size 24 1 (.slice (some ⟨g,0,none⟩) m cg) m (UCELLS (z1Q N))∧Below w.heap.size w w1∧PC N=m∧(g≠CP∧g≠RB)∧g<w1.heap.size∧w.heap.size≤g):=⟨hown,hb1,hm,by have h1:=(hown.lt g rfl).1;have:=HA.out.2.2.2.2.2.2;omega,(hown.lt g rfl).2,(hown.lt g rfl).1⟩
  have L0:Aside (NUML w1 a L):=fun h0=>by
    obtain ⟨b,o,e,hl,hcc⟩:=LL.out.2.2.2.2.2.1 h0
    exact ⟨b,o,e,Nat.lt_of_lt_of_le hl hb1.size,fun i x hx=>(hb1.cell (p:=⟨b,o+i,none⟩) hl).trans (hcc i x hx)⟩
  clear hown hb1 hm
  go_wp2_with fail
  go_loopg [0,13] m (fun q s0 s13 wx=>∃ (j n' c':Nat) (a':Option Addr) (Lj told:List Nat),s0=.slice a' n' c'∧s13=.int .i64 (j:Int)∧Aside (j+q=m∧Lj.length=n'∧n'≤n∧RISES Lj∧n'≤c'∧(a'=none→c'=0)∧(∀ x,a'=some x→x.block=bi∧x.spot=none)∧NUML w1 a' Lj∧S w1 told wx∧z08 (TPS N) L=told ++ z08 ((TPS N).drop j) Lj))
  case atStart=>exact ⟨0,n,c,a,L,[],rfl,rfl,by omega,LL.out.1,Nat.le_refl _,LL.out.2.1,LL.out.2.2.1,LL.out.2.2.2.1,LL.out.2.2.2.2.1,L0.out,LL.out.2.2.2.2.2.2 w1 R1.out.2.1,by simp⟩
  case round=>
    obtain ⟨j,n',c',a',Lj,told,rfl,rfl,A⟩:=hrel
    clear L0 LL
    cases gk with
    | zero=>
      obtain rfl:j=m:=by have:=A.out.1;omega
      have hlt:¬ (j:Int)<(j:Int):=by omega
      have FN:Aside (∃ w1,Below w.heap.size w w1∧TOLD (S w1) (P w1) X [] (z08 (TPS N) L) (.returned (.tuple #[])) wr):=by
        obtain ⟨h1,h2,h3,h4,h5,h6,h7,h8,h9,h10⟩:=A.out
        refine ⟨w1,R1.out.2.1,.inl ⟨rfl,?_⟩⟩
        rw [List.drop_of_length_le (by have:=R1.out.2.2.1;have:=HA.out.2.2.2.1;omega)] at h10
        rw [h10,z08,List.append_nil,List.nil_append]
        exact h9
      clear A R1 ST HT HA
      go_wp2_with fail
      exact bodyPost_end (v:=.tuple #[]) (by simp [results,Tryz.f79]) rfl FN.out
    | succ q=>
      have hlt:(j:Int)<(m:Int):=by have:=A.out.1;omega
      have hjm:j<(TPS N).length:=by have:=A.out.1;have:=R1.out.2.2.1;have:=HA.out.2.2.2.1;omega
      obtain ⟨⟨h,k⟩,ehk⟩:∃ s,(TPS N)[j]?=some s:=⟨_,List.getElem?_eq_getElem hjm⟩
      have hsp:=z1Z HA.out.2.1 (List.mem_of_getElem? ehk)
      have epk:=z3R ehk
      obtain ⟨k1,k2⟩:=ST.out.2 w1 told wr A.out.2.2.2.2.2.2.2.2.1
      have hcell:wr.cell? ⟨g,j,none⟩=some (.int .u64 ((PLC h k:Nat):Int)):=by
        have h1:=R1.out.1.cellAt j (by have:=A.out.1;omega)
        refine (World.cell?_of_block (w:=w1) (by exact k1 g R1.out.2.2.2.2.1 R1.out.2.2.2.1.1 R1.out.2.2.2.1.2)).trans (h1.trans ?_)
        rw [UCELLS,List.getElem?_map,epk]
        rfl
      have ej:wrap64 ((j:Int)+1)=((j+1:Nat):Int):=by have:=A.out.1;have:=R1.out.2.2.1;have:=HA.out.2.2.1;unfold wrap64;omega
      have hN1:NUML wr a' Lj:=fun h0=>by
        obtain ⟨b,o,e,hl,hcc⟩:=A.out.2.2.2.2.2.2.2.1 h0
        have hbb:b=bi:=(A.out.2.2.2.2.2.2.1 _ e).1
        exact ⟨b,o,e,by omega,fun i x hx=>(World.cell?_of_block (w:=w1) (by exact k1 b hl (by rw [hbb];exact HA.out.2.2.2.2.2.1.1) (by rw [hbb];exact HA.out.2.2.2.2.2.1.2))).trans (hcc i x hx)⟩
      have cs:=z1E h k hsp.2.2 a' n' c' Lj A.out.2.1 (by have:=A.out.2.2.1;have:=HA.out.1;omega) A.out.2.2.2.1 A.out.2.2.2.2.1 A.out.2.2.2.2.2.1 (fun x e=>(A.out.2.2.2.2.2.2.1 x e).2) wr hN1
      have SP:Aside (Node h k∧(TPS N)[j]?=some (h,k)∧j<(TPS N).length):=⟨hsp.2.2,ehk,hjm⟩
      clear hsp ehk epk k1 k2 hN1 hjm
      go_wp2_with fail
      refine cs.mono ?_
      rintro e w2 ⟨r,a2,rfl,hs⟩
      clear cs hcell
      have hdrop:(TPS N).drop j=(h,k) :: (TPS N).drop (j+1):=z4E SP.out.2.1
      have hneed:=z1p ((TPS N).drop (j+1)) hs.rank
      rw [← hdrop] at hneed
      have hrn:=hs.rank.le
      have S2:S w1 told w2:=ST.out.1 w1 told wr w2 A.out.2.2.2.2.2.2.2.2.1 hs.below
      have MR:Aside (NUML w1 a2 (Lj.drop r)∧(∀ x,a2=some x→x.block=bi∧x.spot=none)∧(a2=none→c' - r=0)∧r≤n'∧NUML w1 a' (Lj.take r)∧z08 ((TPS N).drop j) Lj=NEED h k (Lj.take r) ++ z08 ((TPS N).drop (j+1)) (Lj.drop r)):=by
        refine ⟨fun h0=>?_,fun x hx=>?_,hs.nil,by have:=A.out.2.1;omega,fun h0=>?_,hneed⟩
        · obtain ⟨b,o,e,hl,hcc⟩:=hs.lies h0
          obtain ⟨y,e2,e3⟩:=hs.block _ e
          have hbb:b=bi:=by have:=(A.out.2.2.2.2.2.2.1 _ e2).1;rw [← e3] at this;exact this
          obtain ⟨k1,k2⟩:=ST.out.2 w1 told wr A.out.2.2.2.2.2.2.2.2.1
          obtain ⟨b',o',e',hl',_⟩:=A.out.2.2.2.2.2.2.2.1 (by rw [List.length_drop] at h0;omega)
          have hbi:bi<w1.heap.size:=by have h9:b'=bi:=(A.out.2.2.2.2.2.2.1 _ e').1;omega
          subst hbb
          exact ⟨b,o,e,hbi,fun i x hx=>(World.cell?_of_block (w:=wr) (by exact (k1 b hbi HA.out.2.2.2.2.2.1.1 HA.out.2.2.2.2.2.1.2).symm)).trans (hcc i x hx)⟩
        · obtain ⟨y,e2,e3⟩:=hs.block x hx
          exact ⟨by rw [e3];exact (A.out.2.2.2.2.2.2.1 _ e2).1,hs.spot x hx⟩
        · obtain ⟨b,o,e,hl,hcc⟩:=A.out.2.2.2.2.2.2.2.1 (by rw [List.length_take] at h0;omega)
          refine ⟨b,o,e,hl,fun i x hx=>hcc i x ?_⟩
          rw [List.getElem?_take] at hx
          split at hx
          · exact hx
          · cases hx
      have TL:Aside (told.length+(NEED h k (Lj.take r)).length≤2 ^ 30∧z08 (TPS N) L=told ++ NEED h k (Lj.take r) ++ z08 ((TPS N).drop (j+1)) (Lj.drop r)):=by
        have h1:=A.out.2.2.2.2.2.2.2.2.2
        rw [MR.out.2.2.2.2.2,← List.append_assoc] at h1
        refine ⟨?_,h1⟩
        have h2:=HA.out.2.2.2.2.1
        rw [h1,List.length_append,List.length_append] at h2
        omega
      have cu:=zcA w1 bi CP QB (S w1) (P w1) X (ST.out.1 w1) (fun acc w hw=>⟨fun hbi=>(ST.out.2 w1 acc w hw).1 bi hbi HA.out.2.2.2.2.2.1.1 HA.out.2.2.2.2.2.1.2,(ST.out.2 w1 acc w hw).2⟩) (HT.out w1) h k SP.out.1 (Lj.take r) a' r c' told w2 (by rw [List.length_take];have:=A.out.2.1;have:=MR.out.2.2.2.1;omega) (by have:=MR.out.2.2.2.1;have:=A.out.2.2.1;have:=HA.out.1;omega) (A.out.2.2.2.1.take r) (by have:=MR.out.2.2.2.1;have:=A.out.2.2.2.2.1;omega) A.out.2.2.2.2.2.1 A.out.2.2.2.2.2.2.1 MR.out.2.2.2.2.1 S2 TL.out.1
      clear hs hdrop hneed hrn S2
      go_wp2_with fail
      refine cu.mono ?_
      rintro e w3 (⟨rfl,h3⟩ | ⟨pre,p,hp,rfl,h3⟩)
      · have Z:Aside (j+1+q=m∧(Lj.drop r).length=n' - r∧n' - r≤n∧RISES (Lj.drop r)∧n' - r≤c' - r∧(a2=none→c' - r=0)∧(∀ x,a2=some x→x.block=bi∧x.spot=none)∧NUML w1 a2 (Lj.drop r)∧S w1 (told ++ NEED h k (Lj.take r)) w3∧z08 (TPS N) L=(told ++ NEED h k (Lj.take r)) ++ z08 ((TPS N).drop (j+1)) (Lj.drop r)):=by
          obtain ⟨h1,h2,_,h4,h5,_⟩:=A.out
          refine ⟨by clear ej;omega,by rw [List.length_drop,h2],by have:=A.out.2.2.1;clear ej;omega,h4.drop r,by clear ej;omega,MR.out.2.2.1,MR.out.2.1,MR.out.1,h3,TL.out.2⟩
        clear h3 cu A MR TL SP R1
        go_wp2_with fail
        go_roundg q
        case measure=>exact Nat.lt_succ_self _
        case rel=>exact ⟨j+1,n' - r,c' - r,a2,Lj.drop r,told ++ NEED h k (Lj.take r),rfl,by first | rfl | (rw [ej]),Z.out⟩
      · refine ⟨rfl,w1,R1.out.2.1,.inr ⟨pre,p,hp.trans ?_,rfl,h3⟩⟩
        rw [List.nil_append,TL.out.2]
        exact List.prefix_append _ _
end Go.Proofs.YtjkjlblongeljaaGreatDoor
