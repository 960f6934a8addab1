/- Texts of SpanMakes, one behind the other: StoreDelete, StoreTakeRegions. -/
import Derived.Test.YtnmalbngdhjhjaaGreatDoorSpanMakesP12
namespace Go.Proofs.YtnmalbngdhjhjaaGreatDoor.HX
open Go.RowKit Go.Maps
set_option maxRecDepth 100000
set_option maxHeartbeats 2000000 in
theorem zb2 (B g n cap i i1 n1:Nat) (xs:List Value) (w:World) (hown:w.ownsRow B 35 32 (.slice (some ⟨g,0,none⟩) n cap) n xs) (hone:∀ u∈xs,u.oneCell'=true) (hi:i<n) (e1:i+1=i1) (e2:n - 1=n1):Calls Tryz.prog 165 #[.slice (some ⟨g,0,none⟩) n cap,.int .i64 (i:Int),.int .i64 (i1:Int)] w fun e w'=>
    e=.returned (.slice (some ⟨g,0,none⟩) n1 cap)∧w'.ownsRow B 35 32 (.slice (some ⟨g,0,none⟩) n1 cap) n1 (xs.take (i*32) ++ xs.drop (i1*32))∧(∀ x,x≠g→w'.heap[x]?=w.heap[x]?)∧Below B w w':=by
  obtain ⟨ti,hti,hz,hs1,hby⟩:=info_parts z3N
  obtain ⟨oc,ov,on,om,olt,oB⟩:=z3P hown
  have hsz:∀ w:World,(sizeOf 35).run Tryz.prog w=.ok 32 w:=fun w=>by simp [sizeOf,typeInfo,hti,hs1]
  have hxl:=hown.1
  have hmx:cap≤9223372036854775807:=by unfold maxLen at om;omega
  obtain ⟨X,hX⟩:∃ X,∀ w,(Instr.slice 22 (.slice (some ⟨g,0,none⟩) n cap) (some (.int .i64 (i:Int))) (some (.int .i64 (i1:Int))) (some (.int .i64 (n:Int)))).run Tryz.prog w=.ok X w:=⟨_,fun w=>(run_slice_lhm (P:=Tryz.prog) w 22 (some ⟨g,0,none⟩) n cap (by kernel_rfl) .i64 .i64 .i64 (i:Int) (i1:Int) (n:Int) (by omega) (by omega) (by omega) (by omega)).trans (by rw [show Tryz.prog.elem 22=35 from by kernel_rfl,hsz];rfl)⟩
  have hY:∀ w,(Instr.slice 22 (.slice (some ⟨g,0,none⟩) n cap) none (some (.int .i64 (i:Int))) none).run Tryz.prog w=.ok (.slice (some ⟨g,0,none⟩) i cap) w:=fun w=>(run_slice_h (P:=Tryz.prog) w 22 (some ⟨g,0,none⟩) n cap (by kernel_rfl) .i64 (i:Int) (by omega) (by omega)).trans (by rw [show Tryz.prog.elem 22=35 from by kernel_rfl,hsz];simp [Result.andThen,sliced,Addr.add])
  obtain ⟨A,hA,hZ⟩:∃ A,(∀ j u,(xs.drop (i1*32))[j]?=some u→w.cell? (A.add j)=some u)∧∀ w,(Instr.slice 22 (.slice (some ⟨g,0,none⟩) n cap) (some (.int .i64 (i1:Int))) none none).run Tryz.prog w=.ok (.slice (some A) (n - i1) (cap - i1)) w:=by
    refine ⟨if cap=i1 then ⟨g,0,none⟩ else ⟨g,i1*32,none⟩,fun j u hu=>?_,fun w=>(run_slice_l (P:=Tryz.prog) w 22 (some ⟨g,0,none⟩) n cap (by kernel_rfl) .i64 (i1:Int) (by omega) (by omega)).trans (by rw [show Tryz.prog.elem 22=35 from by kernel_rfl,hsz];simp [Result.andThen,sliced,Addr.add_mid];split <;> rfl)⟩
    have hj:=(List.getElem?_eq_some_iff.1 hu).1
    simp at hj
    rw [if_neg (by omega),Addr.add_mid]
    rw [List.getElem?_drop] at hu
    exact ov _ u hu
  have hC:∀ w,(Instr.slice 22 (.slice (some ⟨g,0,none⟩) n1 cap) (some (.int .i64 (n1:Int))) (some (.int .i64 (n:Int))) none).run Tryz.prog w=.ok (.slice (some ⟨g,n1*32,none⟩) 1 (cap - n1)) w:=fun w=>(run_slice_lh (P:=Tryz.prog) w 22 (some ⟨g,0,none⟩) n1 cap (by kernel_rfl) .i64 .i64 (n1:Int) (n:Int) (by omega) (by omega) (by omega)).trans (by rw [show Tryz.prog.elem 22=35 from by kernel_rfl,hsz];simp [Result.andThen,sliced,Addr.add_mid];exact ⟨fun h=>absurd h (by omega),by omega⟩)
  have hsum:i+(n - i1)=n1:=by omega
  have hne:((i:Int) == (i1:Int))=false:=by simp;omega
  have hns:=Nat.mul_le_mul_right 32 hi
  have nl:(xs.drop (i1*32)).length=(n - i1)*32:=by simp;omega
  have H:Aside (w.ownsRow B 35 32 (.slice (some ⟨g,0,none⟩) n cap) n xs∧i<n∧i+1=i1∧n - 1=n1∧n≤cap∧B≤g):=⟨hown,hi,e1,e2,on,oB⟩
  have s1:Aside ((xs.drop (i1*32)).length=(n - i1)*32):=nl
  have s2:Aside (∀ j u,(xs.drop (i1*32))[j]?=some u→w.cell? (A.add j)=some u):=hA
  have s3:Aside (∀ u∈xs.drop (i1*32),u.oneCell'=true):=fun u hu=>hone u (List.mem_of_mem_drop hu)
  have s4:Aside (i+(n - i1)≤cap):=by show i+(n - i1)≤cap;omega
  have s5:Aside (∀ j,j<(xs.drop (i1*32)).length→(w.cell? ⟨g,0+i*32+j,none⟩).isSome=true∧w.frozen? ⟨g,0+i*32+j,none⟩=false):=fun j hj=>oc _ (by omega)
  obtain ⟨w1,hw1⟩:∃ w1,w.drew.setCells g (i*32) (xs.drop (i1*32))=w1:=⟨_,rfl⟩
  have hcl:∀ ty,(Builtin.clear_ #[22] ty #[.slice (some ⟨g,n1*32,none⟩) 1 (cap - n1)]).run Tryz.prog w1=.ok (.tuple #[]) (w1.setCells g (n1*32) (z05 .u8 32 fun _=>0)):=fun ty=>by
    refine z70 w1 22 35 ty (.agg (UARR .u8 32 fun _=>0)) (z05 .u8 32 fun _=>0) Tryz.underlying22 (fun w=>by simp [zeroValue,typeInfo,hti,hz]) (by kernel_rfl) (by exact z3b _ _ _) g (n1*32) (cap - n1) (fun j hj=>?_) (fun j hj=>?_)
    · rw [← hw1]
      refine World.isSome_setCells g _ _ _ _ ?_
      exact (oc (n1*32+j) (by rw [z09] at hj;omega)).1
    · rw [← hw1,World.frozen?_setCells]
      exact (oc (n1*32+j) (by rw [z09] at hj;omega)).2
  have R:Aside ((w1.setCells g (n1*32) (z05 .u8 32 fun _=>0)).ownsRow B 35 32 (.slice (some ⟨g,0,none⟩) n1 cap) n1 (xs.take (i*32) ++ xs.drop (i1*32))∧(∀ x,x≠g→(w1.setCells g (n1*32) (z05 .u8 32 fun _=>0)).heap[x]?=w.heap[x]?)∧Below B w (w1.setCells g (n1*32) (z05 .u8 32 fun _=>0))):=by
    rw [← hw1]
    refine ⟨?_,fun x hx=>(z24 g _ _ _ x hx).trans (z24 g _ _ _ x hx),z1v oB _ _ _ (z1v oB _ _ _ (Below.refl B w).drew)⟩
    have hown':w.drew.ownsRow B 35 32 (.slice (some ⟨g,0,none⟩) n cap) n xs:=hown
    have:=z50 (zs:=(z05 .u8 32 fun _=>0)) (c:=n1*32) hown' hi (by rw [e2])
    rw [e2,show i*32+32=i1*32 by omega] at this
    exact this
  clear hown hi e1 e2 on oB nl hA hone oc ov om hxl hmx hsz hns olt
  go_enter Tryz.func165,Tryz.ntmps165
  go_upto_region 5 with fail
  go_region_law (refine step_append_room rfl (.tmp 22) (.tmp 25) 22 rfl 35 ti 32 Tryz.underlying22 hti hs1 g 0 i cap (by simp [Act.eval,Act.put]) A (n - i1) (cap - i1) (xs.drop (i1*32)) (by simp [Act.eval,Act.put]) s1.out s2.out s3.out s4.out s5.out ?_)
  clear hw1 hX hY hZ s1 s2 s3 s4 s5 hsum hne
  go_wp2
  go_ret
  exact ⟨rfl,R.out⟩
set_option maxHeartbeats 2000000 in
theorem zb3 (B g n cap i i1 n1:Nat) (xs:List Value) (w:World) (hown:w.ownsRow B 213 3 (.slice (some ⟨g,0,none⟩) n cap) n xs) (hone:∀ u∈xs,u.oneCell'=true) (hi:i<n) (e1:i+1=i1) (e2:n - 1=n1):Calls Tryz.prog 166 #[.slice (some ⟨g,0,none⟩) n cap,.int .i64 (i:Int),.int .i64 (i1:Int)] w fun e w'=>
    e=.returned (.slice (some ⟨g,0,none⟩) n1 cap)∧w'.ownsRow B 213 3 (.slice (some ⟨g,0,none⟩) n1 cap) n1 (xs.take (i*3) ++ xs.drop (i1*3))∧(∀ x,x≠g→w'.heap[x]?=w.heap[x]?)∧Below B w w':=by
  obtain ⟨ti,hti,hz,hs1,hby⟩:=info_parts z4q
  obtain ⟨oc,ov,on,om,olt,oB⟩:=z3P hown
  have hsz:∀ w:World,(sizeOf 213).run Tryz.prog w=.ok 3 w:=fun w=>by simp [sizeOf,typeInfo,hti,hs1]
  have hxl:=hown.1
  have hmx:cap≤9223372036854775807:=by unfold maxLen at om;omega
  obtain ⟨X,hX⟩:∃ X,∀ w,(Instr.slice 205 (.slice (some ⟨g,0,none⟩) n cap) (some (.int .i64 (i:Int))) (some (.int .i64 (i1:Int))) (some (.int .i64 (n:Int)))).run Tryz.prog w=.ok X w:=⟨_,fun w=>(run_slice_lhm (P:=Tryz.prog) w 205 (some ⟨g,0,none⟩) n cap (by kernel_rfl) .i64 .i64 .i64 (i:Int) (i1:Int) (n:Int) (by omega) (by omega) (by omega) (by omega)).trans (by rw [show Tryz.prog.elem 205=213 from by kernel_rfl,hsz];rfl)⟩
  have hY:∀ w,(Instr.slice 205 (.slice (some ⟨g,0,none⟩) n cap) none (some (.int .i64 (i:Int))) none).run Tryz.prog w=.ok (.slice (some ⟨g,0,none⟩) i cap) w:=fun w=>(run_slice_h (P:=Tryz.prog) w 205 (some ⟨g,0,none⟩) n cap (by kernel_rfl) .i64 (i:Int) (by omega) (by omega)).trans (by rw [show Tryz.prog.elem 205=213 from by kernel_rfl,hsz];simp [Result.andThen,sliced,Addr.add])
  obtain ⟨A,hA,hZ⟩:∃ A,(∀ j u,(xs.drop (i1*3))[j]?=some u→w.cell? (A.add j)=some u)∧∀ w,(Instr.slice 205 (.slice (some ⟨g,0,none⟩) n cap) (some (.int .i64 (i1:Int))) none none).run Tryz.prog w=.ok (.slice (some A) (n - i1) (cap - i1)) w:=by
    refine ⟨if cap=i1 then ⟨g,0,none⟩ else ⟨g,i1*3,none⟩,fun j u hu=>?_,fun w=>(run_slice_l (P:=Tryz.prog) w 205 (some ⟨g,0,none⟩) n cap (by kernel_rfl) .i64 (i1:Int) (by omega) (by omega)).trans (by rw [show Tryz.prog.elem 205=213 from by kernel_rfl,hsz];simp [Result.andThen,sliced,Addr.add_mid];split <;> rfl)⟩
    have hj:=(List.getElem?_eq_some_iff.1 hu).1
    simp at hj
    rw [if_neg (by omega),Addr.add_mid]
    rw [List.getElem?_drop] at hu
    exact ov _ u hu
  have hC:∀ w,(Instr.slice 205 (.slice (some ⟨g,0,none⟩) n1 cap) (some (.int .i64 (n1:Int))) (some (.int .i64 (n:Int))) none).run Tryz.prog w=.ok (.slice (some ⟨g,n1*3,none⟩) 1 (cap - n1)) w:=fun w=>(run_slice_lh (P:=Tryz.prog) w 205 (some ⟨g,0,none⟩) n1 cap (by kernel_rfl) .i64 .i64 (n1:Int) (n:Int) (by omega) (by omega) (by omega)).trans (by rw [show Tryz.prog.elem 205=213 from by kernel_rfl,hsz];simp [Result.andThen,sliced,Addr.add_mid];exact ⟨fun h=>absurd h (by omega),by omega⟩)
  have hsum:i+(n - i1)=n1:=by omega
  have hne:((i:Int) == (i1:Int))=false:=by simp;omega
  have hns:=Nat.mul_le_mul_right 3 hi
  have nl:(xs.drop (i1*3)).length=(n - i1)*3:=by simp;omega
  have H:Aside (w.ownsRow B 213 3 (.slice (some ⟨g,0,none⟩) n cap) n xs∧i<n∧i+1=i1∧n - 1=n1∧n≤cap∧B≤g):=⟨hown,hi,e1,e2,on,oB⟩
  have s1:Aside ((xs.drop (i1*3)).length=(n - i1)*3):=nl
  have s2:Aside (∀ j u,(xs.drop (i1*3))[j]?=some u→w.cell? (A.add j)=some u):=hA
  have s3:Aside (∀ u∈xs.drop (i1*3),u.oneCell'=true):=fun u hu=>hone u (List.mem_of_mem_drop hu)
  have s4:Aside (i+(n - i1)≤cap):=by show i+(n - i1)≤cap;omega
  have s5:Aside (∀ j,j<(xs.drop (i1*3)).length→(w.cell? ⟨g,0+i*3+j,none⟩).isSome=true∧w.frozen? ⟨g,0+i*3+j,none⟩=false):=fun j hj=>oc _ (by omega)
  obtain ⟨w1,hw1⟩:∃ w1,w.drew.setCells g (i*3) (xs.drop (i1*3))=w1:=⟨_,rfl⟩
  have hcl:∀ ty,(Builtin.clear_ #[205] ty #[.slice (some ⟨g,n1*3,none⟩) 1 (cap - n1)]).run Tryz.prog w1=.ok (.tuple #[]) (w1.setCells g (n1*3) (RQL 0)):=fun ty=>by
    refine z70 w1 205 213 ty (.agg #[.int .u64 0,.int .u64 0,.slice none 0 0]) (RQL 0) Tryz.underlying205 (fun w=>by simp [zeroValue,typeInfo,hti,hz]) (by kernel_rfl) (by exact za3 0) g (n1*3) (cap - n1) (fun j hj=>?_) (fun j hj=>?_)
    · rw [← hw1]
      refine World.isSome_setCells g _ _ _ _ ?_
      exact (oc (n1*3+j) (by rw [show (RQL 0).length=3 from rfl] at hj;omega)).1
    · rw [← hw1,World.frozen?_setCells]
      exact (oc (n1*3+j) (by rw [show (RQL 0).length=3 from rfl] at hj;omega)).2
  have R:Aside ((w1.setCells g (n1*3) (RQL 0)).ownsRow B 213 3 (.slice (some ⟨g,0,none⟩) n1 cap) n1 (xs.take (i*3) ++ xs.drop (i1*3))∧(∀ x,x≠g→(w1.setCells g (n1*3) (RQL 0)).heap[x]?=w.heap[x]?)∧Below B w (w1.setCells g (n1*3) (RQL 0))):=by
    rw [← hw1]
    refine ⟨?_,fun x hx=>(z24 g _ _ _ x hx).trans (z24 g _ _ _ x hx),z1v oB _ _ _ (z1v oB _ _ _ (Below.refl B w).drew)⟩
    have hown':w.drew.ownsRow B 213 3 (.slice (some ⟨g,0,none⟩) n cap) n xs:=hown
    have:=z50 (zs:=(RQL 0)) (c:=n1*3) hown' hi (by rw [e2])
    rw [e2,show i*3+3=i1*3 by omega] at this
    exact this
  clear hown hi e1 e2 on oB nl hA hone oc ov om hxl hmx hsz hns olt
  go_enter Tryz.func166,Tryz.ntmps166
  go_upto_region 5 with fail
  go_region_law (refine step_append_room rfl (.tmp 22) (.tmp 25) 205 rfl 213 ti 3 Tryz.underlying205 hti hs1 g 0 i cap (by simp [Act.eval,Act.put]) A (n - i1) (cap - i1) (xs.drop (i1*3)) (by simp [Act.eval,Act.put]) s1.out s2.out s3.out s4.out s5.out ?_)
  clear hw1 hX hY hZ s1 s2 s3 s4 s5 hsum hne
  go_wp2
  go_ret
  exact ⟨rfl,R.out⟩
end Go.Proofs.YtnmalbngdhjhjaaGreatDoor.HX

namespace Go.Proofs.YtnmalbngdhjhjaaGreatDoor.HX
open Go.RowKit Go.Maps
set_option maxRecDepth 100000
theorem z9b {P:Program} {ops:Array Oper} {o:Oper} {a:Act} {w:World} {K:Act→World→Prop} {Q:Exit→Act→World→Prop} {E:Prop} (hg:o.guard=none) (m k:Operand) (t tk:TypeId) (hop:o.op=Op.call {callee:=Callee.builtin Builtin.delete,args:=#[m,k],argTypes:=#[t,tk]})
    (mv kv:Value) (hm:a.eval m=mv) (hk:a.eval k=kv) (v:Value) (w':World) (hrun:(Builtin.delete_ #[t,tk] o.type #[mv,kv]).run P w=.ok v w') (hK:K (a.put o.dst v) w'):if Region.wanted o (yielded ops a.tmps)=true then Oper.wp P o a w K Q else E:=by
  have hw:Region.wanted o (yielded ops a.tmps)=true:=by simp [Region.wanted,hg]
  rw [if_pos hw]
  unfold Oper.wp
  simp [execOp,hop,resolve,invoke,builtin,hm,hk,hrun,Result.andThen]
  exact hK
@[go_sem] def TK4OPSq0:Oper:=⟨some 35,.move (.tmp 6),211,"chunk.go:80",#[],none⟩
@[go_sem] def TK4OPSq1:Oper:=⟨some 36,.nilCheck (.tmp 35),0,"chunk.go:80",#[⟨0,.data⟩],none⟩
@[go_sem] def TK4OPSq2:Oper:=⟨some 37,.fieldAddr 213 (.tmp 36) 1,0,"chunk.go:80",#[⟨1,.data⟩],none⟩
@[go_sem] def TK4OPSq3:Oper:=⟨some 38,.load 24 (.tmp 37),24,"chunk.go:80",#[⟨2,.data⟩],none⟩
@[go_sem] def TK4OPSq4:Oper:=⟨some 39,.move (.tmp 1),24,"chunk.go:80",#[],none⟩
@[go_sem] def TK4OPSq5:Oper:=⟨some 40,.call {callee:=.value (.func 164),args:=#[.tmp 39],argTypes:=#[24]},24,"chunk.go:80",#[⟨4,.data⟩],none⟩
@[go_sem] def TK4OPSq6:Oper:=⟨some 41,.binOp .andNot 24 (.tmp 38) (.tmp 40) 24,24,"chunk.go:80",#[⟨3,.data⟩,⟨5,.data⟩],none⟩
@[go_sem] def TK4OPSq7:Oper:=⟨some 42,.nilCheck (.tmp 35),0,"chunk.go:80",#[⟨0,.data⟩,⟨0,.phase⟩,⟨1,.phase⟩,⟨2,.phase⟩,⟨3,.phase⟩,⟨4,.phase⟩,⟨5,.phase⟩,⟨6,.phase⟩],none⟩
@[go_sem] def TK4OPSq8:Oper:=⟨some 43,.fieldAddr 213 (.tmp 42) 1,0,"chunk.go:80",#[⟨7,.data⟩,⟨0,.phase⟩,⟨1,.phase⟩,⟨2,.phase⟩,⟨3,.phase⟩,⟨4,.phase⟩,⟨5,.phase⟩,⟨6,.phase⟩],none⟩
@[go_sem] def TK4OPSq9:Oper:=⟨none,.store 24 (.tmp 43) (.tmp 41),0,"chunk.go:80",#[⟨8,.data⟩,⟨6,.data⟩,⟨5,.chain⟩,⟨0,.phase⟩,⟨1,.phase⟩,⟨2,.phase⟩,⟨3,.phase⟩,⟨4,.phase⟩,⟨5,.phase⟩,⟨6,.phase⟩],none⟩
def z25:Array Oper:=#[TK4OPSq0,TK4OPSq1,TK4OPSq2,TK4OPSq3,TK4OPSq4,TK4OPSq5,TK4OPSq6,TK4OPSq7,TK4OPSq8,TK4OPSq9]
set_option maxHeartbeats 2000000 in
theorem zhd {Q:Exit→Act→World→Prop} (u0 u2 u3 u4 u5 u7 u8 u9 u10 u11 u12 u13 u14 u15 u16 u17 u18 u19 u20 u21 u22 u23 u24 u25 u26 u27 u28 u29 u30 u31 u32 u33 u34 u35 u36 u37 u38 u39 u40 u41 u42 u43 u44 u45 u46 u47 u48 u49 u50 u51 u52 u53 u54 u55 u56 u57 u58 u59:Value) (W:World) (gr i p bt live lb:Nat) (hc1:W.cell? ⟨gr,i*3+1,none⟩=some (.int .u64 (live:Int))) (hf:W.frozen? ⟨gr,i*3+1,none⟩=false) (hor:bits .andNot .u64 (live:Int) (bt:Int)=(lb:Int)) (cB:∀ w,Calls Tryz.prog 164 #[.int .u64 (p:Int)] w fun e w'=>e=.returned (.int .u64 (bt:Int))∧w=w') (hQ:∀ c (a:Act) (t:Tmp) (v:Value) w,Q (.panic c) (a.put (some t) v) w→Q (.panic c) a w)
    (h:Q .normal {tmps:=#[u0,.int .u64 (p:Int),u2,u3,u4,u5,.pointer (some ⟨gr,i*3,none⟩),u7,u8,u9,u10,u11,u12,u13,u14,u15,u16,u17,u18,u19,u20,u21,u22,u23,u24,u25,u26,u27,u28,u29,u30,u31,u32,u33,u34,.pointer (some ⟨gr,i*3,none⟩),.pointer (some ⟨gr,i*3,none⟩),.pointer (some ⟨gr,i*3+1,none⟩),.int .u64 (live:Int),.int .u64 (p:Int),.int .u64 (bt:Int),.int .u64 (lb:Int),.pointer (some ⟨gr,i*3,none⟩),.pointer (some ⟨gr,i*3+1,none⟩),u44,u45,u46,u47,u48,u49,u50,u51,u52,u53,u54,u55,u56,u57,u58,u59],defers:=[]} (World.setCell W.drew ⟨gr,i*3+1,none⟩ (.int .u64 (lb:Int)))):(Code.region 4 z25 true).wp Tryz.prog Q {tmps:=#[u0,.int .u64 (p:Int),u2,u3,u4,u5,.pointer (some ⟨gr,i*3,none⟩),u7,u8,u9,u10,u11,u12,u13,u14,u15,u16,u17,u18,u19,u20,u21,u22,u23,u24,u25,u26,u27,u28,u29,u30,u31,u32,u33,u34,u35,u36,u37,u38,u39,u40,u41,u42,u43,u44,u45,u46,u47,u48,u49,u50,u51,u52,u53,u54,u55,u56,u57,u58,u59],defers:=[]} W:=by
  have d1:W.drew.cell? ⟨gr,i*3+1,none⟩=some (.int .u64 (live:Int)):=hc1
  have d2:W.drew.frozen? ⟨gr,i*3+1,none⟩=false:=hf
  have s3_5_6_7_8_9:wpAny Tryz.prog .any z25 Q 0 #[true,true,true,true,true,true,true,true,true,true] {tmps:=#[u0,.int .u64 (p:Int),u2,u3,u4,u5,.pointer (some ⟨gr,i*3,none⟩),u7,u8,u9,u10,u11,u12,u13,u14,u15,u16,u17,u18,u19,u20,u21,u22,u23,u24,u25,u26,u27,u28,u29,u30,u31,u32,u33,u34,.pointer (some ⟨gr,i*3,none⟩),.pointer (some ⟨gr,i*3,none⟩),.pointer (some ⟨gr,i*3+1,none⟩),.int .u64 (live:Int),.int .u64 (p:Int),.int .u64 (bt:Int),.int .u64 (lb:Int),.pointer (some ⟨gr,i*3,none⟩),.pointer (some ⟨gr,i*3+1,none⟩),u44,u45,u46,u47,u48,u49,u50,u51,u52,u53,u54,u55,u56,u57,u58,u59],defers:=[]} (World.setCell W.drew ⟨gr,i*3+1,none⟩ (.int .u64 (lb:Int))):=by
    exact wpAny_done (by kernel_rfl) h _
  have s3_5_6_7_8:wpAny Tryz.prog .any z25 Q 1 #[true,true,true,true,true,true,true,true,true,false] {tmps:=#[u0,.int .u64 (p:Int),u2,u3,u4,u5,.pointer (some ⟨gr,i*3,none⟩),u7,u8,u9,u10,u11,u12,u13,u14,u15,u16,u17,u18,u19,u20,u21,u22,u23,u24,u25,u26,u27,u28,u29,u30,u31,u32,u33,u34,.pointer (some ⟨gr,i*3,none⟩),.pointer (some ⟨gr,i*3,none⟩),.pointer (some ⟨gr,i*3+1,none⟩),.int .u64 (live:Int),.int .u64 (p:Int),.int .u64 (bt:Int),.int .u64 (lb:Int),.pointer (some ⟨gr,i*3,none⟩),.pointer (some ⟨gr,i*3+1,none⟩),u44,u45,u46,u47,u48,u49,u50,u51,u52,u53,u54,u55,u56,u57,u58,u59],defers:=[]} W.drew:=by
    refine wpAny_ready (rs:=[9]) (by kernel_rfl) (by simp) ?_
    refine AllReady.cons (o:=TK4OPSq9) rfl (fun K hK=>z1a rfl (z1p (z5X d1 d2)) (hK _ _ s3_5_6_7_8_9)) ?_
    exact AllReady.nil
  have s3_5_6_7:wpAny Tryz.prog .any z25 Q 2 #[true,true,true,true,true,true,true,true,false,false] {tmps:=#[u0,.int .u64 (p:Int),u2,u3,u4,u5,.pointer (some ⟨gr,i*3,none⟩),u7,u8,u9,u10,u11,u12,u13,u14,u15,u16,u17,u18,u19,u20,u21,u22,u23,u24,u25,u26,u27,u28,u29,u30,u31,u32,u33,u34,.pointer (some ⟨gr,i*3,none⟩),.pointer (some ⟨gr,i*3,none⟩),.pointer (some ⟨gr,i*3+1,none⟩),.int .u64 (live:Int),.int .u64 (p:Int),.int .u64 (bt:Int),.int .u64 (lb:Int),.pointer (some ⟨gr,i*3,none⟩),u43,u44,u45,u46,u47,u48,u49,u50,u51,u52,u53,u54,u55,u56,u57,u58,u59],defers:=[]} W.drew:=by
    refine wpAny_ready (rs:=[8]) (by kernel_rfl) (by simp) ?_
    refine AllReady.cons (o:=TK4OPSq8) rfl (fun K hK=>z06 (v:=.pointer (some ⟨gr,i*3+1,none⟩)) rfl (z07 (by go_simp)) (hK _ _ s3_5_6_7_8)) ?_
    exact AllReady.nil
  have s3_5_6:wpAny Tryz.prog .any z25 Q 3 #[true,true,true,true,true,true,true,false,false,false] {tmps:=#[u0,.int .u64 (p:Int),u2,u3,u4,u5,.pointer (some ⟨gr,i*3,none⟩),u7,u8,u9,u10,u11,u12,u13,u14,u15,u16,u17,u18,u19,u20,u21,u22,u23,u24,u25,u26,u27,u28,u29,u30,u31,u32,u33,u34,.pointer (some ⟨gr,i*3,none⟩),.pointer (some ⟨gr,i*3,none⟩),.pointer (some ⟨gr,i*3+1,none⟩),.int .u64 (live:Int),.int .u64 (p:Int),.int .u64 (bt:Int),.int .u64 (lb:Int),u42,u43,u44,u45,u46,u47,u48,u49,u50,u51,u52,u53,u54,u55,u56,u57,u58,u59],defers:=[]} W.drew:=by
    refine wpAny_ready (rs:=[7]) (by kernel_rfl) (by simp) ?_
    refine AllReady.cons (o:=TK4OPSq7) rfl (fun K hK=>z06 (v:=.pointer (some ⟨gr,i*3,none⟩)) rfl rfl (hK _ _ s3_5_6_7)) ?_
    exact AllReady.nil
  have s3_5:wpAny Tryz.prog .any z25 Q 4 #[true,true,true,true,true,true,false,false,false,false] {tmps:=#[u0,.int .u64 (p:Int),u2,u3,u4,u5,.pointer (some ⟨gr,i*3,none⟩),u7,u8,u9,u10,u11,u12,u13,u14,u15,u16,u17,u18,u19,u20,u21,u22,u23,u24,u25,u26,u27,u28,u29,u30,u31,u32,u33,u34,.pointer (some ⟨gr,i*3,none⟩),.pointer (some ⟨gr,i*3,none⟩),.pointer (some ⟨gr,i*3+1,none⟩),.int .u64 (live:Int),.int .u64 (p:Int),.int .u64 (bt:Int),u41,u42,u43,u44,u45,u46,u47,u48,u49,u50,u51,u52,u53,u54,u55,u56,u57,u58,u59],defers:=[]} W.drew:=by
    refine wpAny_ready (rs:=[6]) (by kernel_rfl) (by simp) ?_
    refine AllReady.cons (o:=TK4OPSq6) rfl (fun K hK=>z06 (v:=.int .u64 (lb:Int)) rfl (z07 (by go_simp)) (hK _ _ s3_5_6)) ?_
    exact AllReady.nil
  have s5:wpAny Tryz.prog .any z25 Q 5 #[true,true,true,false,true,true,false,false,false,false] {tmps:=#[u0,.int .u64 (p:Int),u2,u3,u4,u5,.pointer (some ⟨gr,i*3,none⟩),u7,u8,u9,u10,u11,u12,u13,u14,u15,u16,u17,u18,u19,u20,u21,u22,u23,u24,u25,u26,u27,u28,u29,u30,u31,u32,u33,u34,.pointer (some ⟨gr,i*3,none⟩),.pointer (some ⟨gr,i*3,none⟩),.pointer (some ⟨gr,i*3+1,none⟩),u38,.int .u64 (p:Int),.int .u64 (bt:Int),u41,u42,u43,u44,u45,u46,u47,u48,u49,u50,u51,u52,u53,u54,u55,u56,u57,u58,u59],defers:=[]} W.drew:=by
    refine wpAny_ready (rs:=[3]) (by kernel_rfl) (by simp) ?_
    refine AllReady.cons (o:=TK4OPSq3) rfl (fun K hK=>z06 (v:=.int .u64 (live:Int)) rfl (z07 (z3d d1)) (hK _ _ s3_5)) ?_
    exact AllReady.nil
  have s3:wpAny Tryz.prog .any z25 Q 5 #[true,true,true,true,true,false,false,false,false,false] {tmps:=#[u0,.int .u64 (p:Int),u2,u3,u4,u5,.pointer (some ⟨gr,i*3,none⟩),u7,u8,u9,u10,u11,u12,u13,u14,u15,u16,u17,u18,u19,u20,u21,u22,u23,u24,u25,u26,u27,u28,u29,u30,u31,u32,u33,u34,.pointer (some ⟨gr,i*3,none⟩),.pointer (some ⟨gr,i*3,none⟩),.pointer (some ⟨gr,i*3+1,none⟩),.int .u64 (live:Int),.int .u64 (p:Int),u40,u41,u42,u43,u44,u45,u46,u47,u48,u49,u50,u51,u52,u53,u54,u55,u56,u57,u58,u59],defers:=[]} W.drew:=by
    refine wpAny_ready (rs:=[5]) (by kernel_rfl) (by simp) ?_
    refine AllReady.cons (o:=TK4OPSq5) rfl (fun K hK=>?_) ?_
    · rw [if_pos (by rfl)]
      go_simp
      refine (cB (W.drew)).mono ?_
      rintro e w' ⟨rfl,rfl⟩
      exact hK _ _ s3_5
    exact AllReady.nil
  have s:wpAny Tryz.prog .any z25 Q 6 #[true,true,true,false,true,false,false,false,false,false] {tmps:=#[u0,.int .u64 (p:Int),u2,u3,u4,u5,.pointer (some ⟨gr,i*3,none⟩),u7,u8,u9,u10,u11,u12,u13,u14,u15,u16,u17,u18,u19,u20,u21,u22,u23,u24,u25,u26,u27,u28,u29,u30,u31,u32,u33,u34,.pointer (some ⟨gr,i*3,none⟩),.pointer (some ⟨gr,i*3,none⟩),.pointer (some ⟨gr,i*3+1,none⟩),u38,.int .u64 (p:Int),u40,u41,u42,u43,u44,u45,u46,u47,u48,u49,u50,u51,u52,u53,u54,u55,u56,u57,u58,u59],defers:=[]} W.drew:=by
    refine wpAny_ready (rs:=[3,5]) (by kernel_rfl) (by simp) ?_
    refine AllReady.cons (o:=TK4OPSq3) rfl (fun K hK=>z06 (v:=.int .u64 (live:Int)) rfl (z07 (z3d d1)) (hK _ _ s3)) ?_
    refine AllReady.cons (o:=TK4OPSq5) rfl (fun K hK=>?_) ?_
    · rw [if_pos (by rfl)]
      go_simp
      refine (cB (W.drew)).mono ?_
      rintro e w' ⟨rfl,rfl⟩
      exact hK _ _ s5
    exact AllReady.nil
  refine wp_region_any (by kernel_rfl) ?_
  refine tkB TK4OPSq0 (.pointer (some ⟨gr,i*3,none⟩)) 0 hQ ?_
  simp only [List.set]
  refine tkB TK4OPSq1 (.pointer (some ⟨gr,i*3,none⟩)) 1 hQ ?_
  simp only [List.set]
  refine tkB TK4OPSq2 (.pointer (some ⟨gr,i*3+1,none⟩)) 2 hQ ?_
  simp only [List.set]
  refine tkB TK4OPSq4 (.int .u64 (p:Int)) 4 hQ ?_
  simp only [List.set]
  exact s
@[go_sem] def ST1OPSq0:Oper:=⟨some 9,.move (.tmp 0),29,"store.go:212",#[],none⟩
@[go_sem] def ST1OPSq1:Oper:=⟨some 10,.nilCheck (.tmp 9),0,"store.go:212",#[⟨0,.data⟩],none⟩
@[go_sem] def ST1OPSq2:Oper:=⟨some 11,.fieldAddr 84 (.tmp 10) 3,0,"store.go:212",#[⟨1,.data⟩],none⟩
@[go_sem] def ST1OPSq3:Oper:=⟨some 12,.load 81 (.tmp 11),81,"store.go:212",#[⟨2,.data⟩],none⟩
@[go_sem] def ST1OPSq4:Oper:=⟨some 13,.load 151 (.tmp 4),151,"store.go:212",#[],none⟩
@[go_sem] def ST1OPSq5:Oper:=⟨some 14,.lookup 81 (.tmp 12) (.tmp 13) false,153,"store.go:212",#[⟨3,.data⟩,⟨4,.data⟩],none⟩
@[go_sem] def ST1OPSq6:Oper:=⟨some 5,.assign (.tmp 14),153,"store.go:212",#[⟨5,.data⟩,⟨0,.phase⟩,⟨1,.phase⟩,⟨2,.phase⟩,⟨3,.phase⟩,⟨4,.phase⟩,⟨5,.phase⟩],none⟩
def z2W:Array Oper:=#[ST1OPSq0,ST1OPSq1,ST1OPSq2,ST1OPSq3,ST1OPSq4,ST1OPSq5,ST1OPSq6]
set_option maxHeartbeats 2000000 in
theorem zgq {Q:Exit→Act→World→Prop} (u1 u2 u3 u5 u6 u7 u8 u9 u10 u11 u12 u13 u14 u15 u16 u17 u18 u19 u20 u21 u22 u23 u24 u25 u26 u27 u28 u29 u30 u31:Value) (W:World) (g b4 k:Nat) (mv v:Value) (h3:W.cell? ⟨g,3,none⟩=some mv) (h4:Has W b4 #[.int .u64 (k:Int)] 151) (hlook:(Instr.lookup 81 mv (KEY k) false).run Tryz.prog W.drew=.ok v W.drew) (hQ:∀ c (a:Act) (t:Tmp) (v:Value) w,Q (.panic c) (a.put (some t) v) w→Q (.panic c) a w)
    (h:Q .normal {tmps:=#[.pointer (some ⟨g,0,none⟩),u1,u2,u3,.pointer (some ⟨b4,0,none⟩),v,u6,u7,u8,.pointer (some ⟨g,0,none⟩),.pointer (some ⟨g,0,none⟩),.pointer (some ⟨g,3,none⟩),mv,KEY k,v,u15,u16,u17,u18,u19,u20,u21,u22,u23,u24,u25,u26,u27,u28,u29,u30,u31],defers:=[]} W.drew):(Code.region 1 z2W true).wp Tryz.prog Q {tmps:=#[.pointer (some ⟨g,0,none⟩),u1,u2,u3,.pointer (some ⟨b4,0,none⟩),u5,u6,u7,u8,u9,u10,u11,u12,u13,u14,u15,u16,u17,u18,u19,u20,u21,u22,u23,u24,u25,u26,u27,u28,u29,u30,u31],defers:=[]} W:=by
  have d3:W.drew.cell? ⟨g,3,none⟩=some mv:=h3
  have d4:Has W.drew b4 #[.int .u64 (k:Int)] 151:=h4
  have s3_4_5_6:wpAny Tryz.prog .any z2W Q 0 #[true,true,true,true,true,true,true] {tmps:=#[.pointer (some ⟨g,0,none⟩),u1,u2,u3,.pointer (some ⟨b4,0,none⟩),v,u6,u7,u8,.pointer (some ⟨g,0,none⟩),.pointer (some ⟨g,0,none⟩),.pointer (some ⟨g,3,none⟩),mv,KEY k,v,u15,u16,u17,u18,u19,u20,u21,u22,u23,u24,u25,u26,u27,u28,u29,u30,u31],defers:=[]} W.drew:=by
    exact wpAny_done (by kernel_rfl) h _
  have s3_4_5:wpAny Tryz.prog .any z2W Q 1 #[true,true,true,true,true,true,false] {tmps:=#[.pointer (some ⟨g,0,none⟩),u1,u2,u3,.pointer (some ⟨b4,0,none⟩),u5,u6,u7,u8,.pointer (some ⟨g,0,none⟩),.pointer (some ⟨g,0,none⟩),.pointer (some ⟨g,3,none⟩),mv,KEY k,v,u15,u16,u17,u18,u19,u20,u21,u22,u23,u24,u25,u26,u27,u28,u29,u30,u31],defers:=[]} W.drew:=by
    refine wpAny_ready (rs:=[6]) (by kernel_rfl) (by simp) ?_
    refine AllReady.cons (o:=ST1OPSq6) rfl (fun K hK=>z06 (v:=v) rfl rfl (hK _ _ s3_4_5_6)) ?_
    exact AllReady.nil
  have s3_4:wpAny Tryz.prog .any z2W Q 2 #[true,true,true,true,true,false,false] {tmps:=#[.pointer (some ⟨g,0,none⟩),u1,u2,u3,.pointer (some ⟨b4,0,none⟩),u5,u6,u7,u8,.pointer (some ⟨g,0,none⟩),.pointer (some ⟨g,0,none⟩),.pointer (some ⟨g,3,none⟩),mv,KEY k,u14,u15,u16,u17,u18,u19,u20,u21,u22,u23,u24,u25,u26,u27,u28,u29,u30,u31],defers:=[]} W.drew:=by
    refine wpAny_ready (rs:=[5]) (by kernel_rfl) (by simp) ?_
    refine AllReady.cons (o:=ST1OPSq5) rfl (fun K hK=>z06 (v:=v) rfl (z07 (hlook)) (hK _ _ s3_4_5)) ?_
    exact AllReady.nil
  have s4:wpAny Tryz.prog .any z2W Q 3 #[true,true,true,false,true,false,false] {tmps:=#[.pointer (some ⟨g,0,none⟩),u1,u2,u3,.pointer (some ⟨b4,0,none⟩),u5,u6,u7,u8,.pointer (some ⟨g,0,none⟩),.pointer (some ⟨g,0,none⟩),.pointer (some ⟨g,3,none⟩),u12,KEY k,u14,u15,u16,u17,u18,u19,u20,u21,u22,u23,u24,u25,u26,u27,u28,u29,u30,u31],defers:=[]} W.drew:=by
    refine wpAny_ready (rs:=[3]) (by kernel_rfl) (by simp) ?_
    refine AllReady.cons (o:=ST1OPSq3) rfl (fun K hK=>z06 (v:=mv) rfl (z07 (z1B d3)) (hK _ _ s3_4)) ?_
    exact AllReady.nil
  have s3:wpAny Tryz.prog .any z2W Q 3 #[true,true,true,true,false,false,false] {tmps:=#[.pointer (some ⟨g,0,none⟩),u1,u2,u3,.pointer (some ⟨b4,0,none⟩),u5,u6,u7,u8,.pointer (some ⟨g,0,none⟩),.pointer (some ⟨g,0,none⟩),.pointer (some ⟨g,3,none⟩),mv,u13,u14,u15,u16,u17,u18,u19,u20,u21,u22,u23,u24,u25,u26,u27,u28,u29,u30,u31],defers:=[]} W.drew:=by
    refine wpAny_ready (rs:=[4]) (by kernel_rfl) (by simp) ?_
    refine AllReady.cons (o:=ST1OPSq4) rfl (fun K hK=>z06 (v:=KEY k) rfl (z07 (z1C d4)) (hK _ _ s3_4)) ?_
    exact AllReady.nil
  have s:wpAny Tryz.prog .any z2W Q 4 #[true,true,true,false,false,false,false] {tmps:=#[.pointer (some ⟨g,0,none⟩),u1,u2,u3,.pointer (some ⟨b4,0,none⟩),u5,u6,u7,u8,.pointer (some ⟨g,0,none⟩),.pointer (some ⟨g,0,none⟩),.pointer (some ⟨g,3,none⟩),u12,u13,u14,u15,u16,u17,u18,u19,u20,u21,u22,u23,u24,u25,u26,u27,u28,u29,u30,u31],defers:=[]} W.drew:=by
    refine wpAny_ready (rs:=[3,4]) (by kernel_rfl) (by simp) ?_
    refine AllReady.cons (o:=ST1OPSq3) rfl (fun K hK=>z06 (v:=mv) rfl (z07 (z1B d3)) (hK _ _ s3)) ?_
    refine AllReady.cons (o:=ST1OPSq4) rfl (fun K hK=>z06 (v:=KEY k) rfl (z07 (z1C d4)) (hK _ _ s4)) ?_
    exact AllReady.nil
  refine wp_region_any (by kernel_rfl) ?_
  refine tkB ST1OPSq0 (.pointer (some ⟨g,0,none⟩)) 0 hQ ?_
  simp only [List.set]
  refine tkB ST1OPSq1 (.pointer (some ⟨g,0,none⟩)) 1 hQ ?_
  simp only [List.set]
  refine tkB ST1OPSq2 (.pointer (some ⟨g,3,none⟩)) 2 hQ ?_
  simp only [List.set]
  exact s
@[go_sem] def ST5OPSq0:Oper:=⟨some 27,.move (.tmp 0),29,"store.go:216",#[],none⟩
@[go_sem] def ST5OPSq1:Oper:=⟨some 28,.nilCheck (.tmp 27),0,"store.go:216",#[⟨0,.data⟩],none⟩
@[go_sem] def ST5OPSq2:Oper:=⟨some 29,.fieldAddr 84 (.tmp 28) 3,0,"store.go:216",#[⟨1,.data⟩],none⟩
@[go_sem] def ST5OPSq3:Oper:=⟨some 30,.load 81 (.tmp 29),81,"store.go:216",#[⟨2,.data⟩],none⟩
@[go_sem] def ST5OPSq4:Oper:=⟨some 31,.load 151 (.tmp 4),151,"store.go:216",#[],none⟩
@[go_sem] def ST5OPSq5:Oper:=⟨none,.call {callee:=.builtin .delete,args:=#[.tmp 30,.tmp 31],argTypes:=#[81,151]},0,"store.go:216",#[⟨3,.data⟩,⟨4,.data⟩],none⟩
def z3v:Array Oper:=#[ST5OPSq0,ST5OPSq1,ST5OPSq2,ST5OPSq3,ST5OPSq4,ST5OPSq5]
set_option maxHeartbeats 2000000 in
theorem zgr {Q:Exit→Act→World→Prop} (u1 u2 u3 u5 u6 u7 u8 u9 u10 u11 u12 u13 u14 u15 u16 u17 u18 u19 u20 u21 u22 u23 u24 u25 u26 u27 u28 u29 u30 u31:Value) (W:World) (g b4 k b:Nat) (w5:World) (h3:W.cell? ⟨g,3,none⟩=some (.map (some b))) (h4:Has W b4 #[.int .u64 (k:Int)] 151) (hdel:(Builtin.delete_ #[81,151] 0 #[.map (some b),KEY k]).run Tryz.prog W.drew=.ok (.tuple #[]) w5) (hQ:∀ c (a:Act) (t:Tmp) (v:Value) w,Q (.panic c) (a.put (some t) v) w→Q (.panic c) a w)
    (h:Q .normal {tmps:=#[.pointer (some ⟨g,0,none⟩),u1,u2,u3,.pointer (some ⟨b4,0,none⟩),u5,u6,u7,u8,u9,u10,u11,u12,u13,u14,u15,u16,u17,u18,u19,u20,u21,u22,u23,u24,u25,u26,.pointer (some ⟨g,0,none⟩),.pointer (some ⟨g,0,none⟩),.pointer (some ⟨g,3,none⟩),.map (some b),KEY k],defers:=[]} (w5)):(Code.region 5 z3v true).wp Tryz.prog Q {tmps:=#[.pointer (some ⟨g,0,none⟩),u1,u2,u3,.pointer (some ⟨b4,0,none⟩),u5,u6,u7,u8,u9,u10,u11,u12,u13,u14,u15,u16,u17,u18,u19,u20,u21,u22,u23,u24,u25,u26,u27,u28,u29,u30,u31],defers:=[]} W:=by
  have d3:W.drew.cell? ⟨g,3,none⟩=some (.map (some b)):=h3
  have d4:Has W.drew b4 #[.int .u64 (k:Int)] 151:=h4
  have s3_4_5:wpAny Tryz.prog .any z3v Q 0 #[true,true,true,true,true,true] {tmps:=#[.pointer (some ⟨g,0,none⟩),u1,u2,u3,.pointer (some ⟨b4,0,none⟩),u5,u6,u7,u8,u9,u10,u11,u12,u13,u14,u15,u16,u17,u18,u19,u20,u21,u22,u23,u24,u25,u26,.pointer (some ⟨g,0,none⟩),.pointer (some ⟨g,0,none⟩),.pointer (some ⟨g,3,none⟩),.map (some b),KEY k],defers:=[]} (w5):=by
    exact wpAny_done (by kernel_rfl) h _
  have s3_4:wpAny Tryz.prog .any z3v Q 1 #[true,true,true,true,true,false] {tmps:=#[.pointer (some ⟨g,0,none⟩),u1,u2,u3,.pointer (some ⟨b4,0,none⟩),u5,u6,u7,u8,u9,u10,u11,u12,u13,u14,u15,u16,u17,u18,u19,u20,u21,u22,u23,u24,u25,u26,.pointer (some ⟨g,0,none⟩),.pointer (some ⟨g,0,none⟩),.pointer (some ⟨g,3,none⟩),.map (some b),KEY k],defers:=[]} W.drew:=by
    refine wpAny_ready (rs:=[5]) (by kernel_rfl) (by simp) ?_
    refine AllReady.cons (o:=ST5OPSq5) rfl (fun K hK=>z9b rfl (.tmp 30) (.tmp 31) 81 151 rfl (.map (some b)) (KEY k) rfl rfl (.tuple #[]) w5 hdel (hK _ _ s3_4_5)) ?_
    exact AllReady.nil
  have s4:wpAny Tryz.prog .any z3v Q 2 #[true,true,true,false,true,false] {tmps:=#[.pointer (some ⟨g,0,none⟩),u1,u2,u3,.pointer (some ⟨b4,0,none⟩),u5,u6,u7,u8,u9,u10,u11,u12,u13,u14,u15,u16,u17,u18,u19,u20,u21,u22,u23,u24,u25,u26,.pointer (some ⟨g,0,none⟩),.pointer (some ⟨g,0,none⟩),.pointer (some ⟨g,3,none⟩),u30,KEY k],defers:=[]} W.drew:=by
    refine wpAny_ready (rs:=[3]) (by kernel_rfl) (by simp) ?_
    refine AllReady.cons (o:=ST5OPSq3) rfl (fun K hK=>z06 (v:=.map (some b)) rfl (z07 (z1B d3)) (hK _ _ s3_4)) ?_
    exact AllReady.nil
  have s3:wpAny Tryz.prog .any z3v Q 2 #[true,true,true,true,false,false] {tmps:=#[.pointer (some ⟨g,0,none⟩),u1,u2,u3,.pointer (some ⟨b4,0,none⟩),u5,u6,u7,u8,u9,u10,u11,u12,u13,u14,u15,u16,u17,u18,u19,u20,u21,u22,u23,u24,u25,u26,.pointer (some ⟨g,0,none⟩),.pointer (some ⟨g,0,none⟩),.pointer (some ⟨g,3,none⟩),.map (some b),u31],defers:=[]} W.drew:=by
    refine wpAny_ready (rs:=[4]) (by kernel_rfl) (by simp) ?_
    refine AllReady.cons (o:=ST5OPSq4) rfl (fun K hK=>z06 (v:=KEY k) rfl (z07 (z1C d4)) (hK _ _ s3_4)) ?_
    exact AllReady.nil
  have s:wpAny Tryz.prog .any z3v Q 3 #[true,true,true,false,false,false] {tmps:=#[.pointer (some ⟨g,0,none⟩),u1,u2,u3,.pointer (some ⟨b4,0,none⟩),u5,u6,u7,u8,u9,u10,u11,u12,u13,u14,u15,u16,u17,u18,u19,u20,u21,u22,u23,u24,u25,u26,.pointer (some ⟨g,0,none⟩),.pointer (some ⟨g,0,none⟩),.pointer (some ⟨g,3,none⟩),u30,u31],defers:=[]} W.drew:=by
    refine wpAny_ready (rs:=[3,4]) (by kernel_rfl) (by simp) ?_
    refine AllReady.cons (o:=ST5OPSq3) rfl (fun K hK=>z06 (v:=.map (some b)) rfl (z07 (z1B d3)) (hK _ _ s3)) ?_
    refine AllReady.cons (o:=ST5OPSq4) rfl (fun K hK=>z06 (v:=KEY k) rfl (z07 (z1C d4)) (hK _ _ s4)) ?_
    exact AllReady.nil
  refine wp_region_any (by kernel_rfl) ?_
  refine tkB ST5OPSq0 (.pointer (some ⟨g,0,none⟩)) 0 hQ ?_
  simp only [List.set]
  refine tkB ST5OPSq1 (.pointer (some ⟨g,0,none⟩)) 1 hQ ?_
  simp only [List.set]
  refine tkB ST5OPSq2 (.pointer (some ⟨g,3,none⟩)) 2 hQ ?_
  simp only [List.set]
  exact s
end Go.Proofs.YtnmalbngdhjhjaaGreatDoor.HX
