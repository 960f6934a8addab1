/- Texts of ClashNothing, one behind the other: ClashSame, StepLists. -/
import Derived.Deep.AppendLies
import Derived.Test.YtbeelmlpalkohaaGreatDoorClashNothingP7
import Derived.Test.YtbeelmlpalkohaaGreatDoorClashNothingP14
namespace Go.Proofs.YtbeelmlpalkohaaGreatDoor
open Go.RowKit
set_option maxRecDepth 100000
set_option maxHeartbeats 2000000 in
theorem z8v (d n i:Int) (R L:List Int) (lL:L.length=32) (p q:Value) (w:World):Calls Tryz.prog 11 #[.int .i64 d,.agg (z00 R).toArray,.int .u64 n,.int .u64 i,.agg (z00 L).toArray,p,.agg (z00 L).toArray,q] w fun e w'=>e=.returned (.tuple #[.agg #[.slice none 0 0,.slice none 0 0],.bool false])∧Below w.heap.size w w':=by
  obtain ⟨W0,hW0⟩:∃ W0,((((w.alloc (.cells (z00 R).toArray 30)).alloc (.cells (z00 L).toArray 30)).alloc (.cells (z00 L).toArray 30)).alloc (.cells #[.slice none 0 0,.slice none 0 0] 46))=W0:=⟨_,rfl⟩
  have R0:Aside (Below w.heap.size w W0):=by rw [← hW0];exact (((((Below.refl _ _).alloc (Nat.le_refl _) _).alloc (by simp) _).alloc (by simp;omega) _).alloc (by simp;omega) _)
  have ka:Has W0 (w.heap.size+1) (z00 L).toArray 30:=by rw [← hW0];exact (((Has.at _ _ _ (by simp)).alloc _).alloc _)
  have kb:Has W0 (w.heap.size+1+1) (z00 L).toArray 30:=by rw [← hW0];exact ((Has.at _ _ _ (by simp)).alloc _)
  have kz:Has W0 (w.heap.size+1+1+1) #[.slice none 0 0,.slice none 0 0] 46:=by rw [← hW0];exact (Has.at _ _ _ (by simp))
  have q1:∀ w,(Op.equalIn 10000 30 (.agg (z00 L).toArray) (.agg (z00 L).toArray)).run Tryz.prog w=.ok true w:=fun w=>by rw [z1x lL lL w];simp
  go_enter Tryz.func11,Tryz.ntmps11
  go_upto_region 1 with fail
  clear hW0
  obtain ⟨ba,hba⟩:∃ b,b=w.heap.size+1:=⟨_,rfl⟩
  obtain ⟨bb,hbb⟩:∃ b,b=w.heap.size+1+1:=⟨_,rfl⟩
  obtain ⟨bz,hbz⟩:∃ b,b=w.heap.size+1+1+1:=⟨_,rfl⟩
  have HZ:Aside (w.heap.size≤bz):=by show w.heap.size≤bz;omega
  rw [← hbz] at kz ⊢
  rw [← hbb] at kb ⊢
  rw [← hba] at ka ⊢
  clear hba hbb hbz
  have x0:W0.cell? ⟨bz,0,none⟩=some (.slice none 0 0):=kz.cell 0
  have x1:W0.cell? ⟨bz,1,none⟩=some (.slice none 0 0):=kz.cell 1
  have f0:=kz.frozen 0
  have f1:=kz.frozen 1
  go_wp2_with (first
    | (refine wpList_load_row rfl 30 (.tmp 12) rfl ba rfl 30 (z00 L).toArray (0,0) _ ka Tryz.underlying30 rfl (z0j lL) ?_)
    | (refine wpList_load_row rfl 30 (.tmp 14) rfl bb rfl 30 (z00 L).toArray (0,0) _ kb Tryz.underlying30 rfl (z0j lL) ?_)
    | fail)
  have hH:=(kz.set 0 (.slice none 0 0)).set 1 (.slice none 0 0)
  have hb:=(R0.out.setCell (p:=⟨bz,0,none⟩) HZ.out (.slice none 0 0)).setCell (p:=⟨bz,1,none⟩) HZ.out (.slice none 0 0)
  clear x0 x1 f0 f1 kz ka kb q1
  generalize (W0.setCell ⟨bz,0,none⟩ (.slice none 0 0)).setCell ⟨bz,1,none⟩ (.slice none 0 0)=wf at *
  have z0:wf.cell? ⟨bz,0,none⟩=some (.slice none 0 0):=hH.cell 0
  have z1:wf.cell? ⟨bz,1,none⟩=some (.slice none 0 0):=hH.cell 1
  refine bodyPost_ret (v:=.tuple #[.agg #[.slice none 0 0,.slice none 0 0],.bool false]) ?_ rfl ⟨rfl,hb⟩
  simp [results,Tryz.f11,go_sem,z0,z1]
set_option maxHeartbeats 2000000 in
theorem z8w (d i m n:Int) (R S L:List Int) (lL:L.length=32) (p q x:Value) (w:World):Calls Tryz.prog 12 #[.int .i64 d,.int .u64 i,.int .u64 m,.agg (z00 R).toArray,.agg (z00 L).toArray,p,.int .u64 n,.agg (z00 S).toArray,.agg (z00 L).toArray,q,x] w fun e w'=>e=.returned (.tuple #[.agg #[.slice none 0 0,.slice none 0 0],.bool false])∧Below w.heap.size w w':=by
  obtain ⟨W0,hW0⟩:∃ W0,(((((w.alloc (.cells (z00 R).toArray 30)).alloc (.cells (z00 L).toArray 30)).alloc (.cells (z00 S).toArray 30)).alloc (.cells (z00 L).toArray 30)).alloc (.cells #[.slice none 0 0,.slice none 0 0] 46))=W0:=⟨_,rfl⟩
  have R0:Aside (Below w.heap.size w W0):=by rw [← hW0];exact ((((((Below.refl _ _).alloc (Nat.le_refl _) _).alloc (by simp) _).alloc (by simp;omega) _).alloc (by simp;omega) _).alloc (by simp;omega) _)
  have ka:Has W0 (w.heap.size+1) (z00 L).toArray 30:=by rw [← hW0];exact ((((Has.at _ _ _ (by simp)).alloc _).alloc _).alloc _)
  have kb:Has W0 (w.heap.size+1+1+1) (z00 L).toArray 30:=by rw [← hW0];exact ((Has.at _ _ _ (by simp)).alloc _)
  have kz:Has W0 (w.heap.size+1+1+1+1) #[.slice none 0 0,.slice none 0 0] 46:=by rw [← hW0];exact (Has.at _ _ _ (by simp))
  have q1:∀ w,(Op.equalIn 10000 30 (.agg (z00 L).toArray) (.agg (z00 L).toArray)).run Tryz.prog w=.ok true w:=fun w=>by rw [z1x lL lL w];simp
  go_enter Tryz.func12,Tryz.ntmps12
  go_upto_region 1 with fail
  clear hW0
  obtain ⟨ba,hba⟩:∃ b,b=w.heap.size+1:=⟨_,rfl⟩
  obtain ⟨bb,hbb⟩:∃ b,b=w.heap.size+1+1+1:=⟨_,rfl⟩
  obtain ⟨bz,hbz⟩:∃ b,b=w.heap.size+1+1+1+1:=⟨_,rfl⟩
  have HZ:Aside (w.heap.size≤bz):=by show w.heap.size≤bz;omega
  rw [← hbz] at kz ⊢
  rw [← hbb] at kb ⊢
  rw [← hba] at ka ⊢
  clear hba hbb hbz
  have x0:W0.cell? ⟨bz,0,none⟩=some (.slice none 0 0):=kz.cell 0
  have x1:W0.cell? ⟨bz,1,none⟩=some (.slice none 0 0):=kz.cell 1
  have f0:=kz.frozen 0
  have f1:=kz.frozen 1
  go_wp2_with (first
    | (refine wpList_load_row rfl 30 (.tmp 15) rfl ba rfl 30 (z00 L).toArray (0,0) _ ka Tryz.underlying30 rfl (z0j lL) ?_)
    | (refine wpList_load_row rfl 30 (.tmp 19) rfl bb rfl 30 (z00 L).toArray (0,0) _ kb Tryz.underlying30 rfl (z0j lL) ?_)
    | fail)
  have hH:=(kz.set 0 (.slice none 0 0)).set 1 (.slice none 0 0)
  have hb:=(R0.out.setCell (p:=⟨bz,0,none⟩) HZ.out (.slice none 0 0)).setCell (p:=⟨bz,1,none⟩) HZ.out (.slice none 0 0)
  clear x0 x1 f0 f1 kz ka kb q1
  generalize (W0.setCell ⟨bz,0,none⟩ (.slice none 0 0)).setCell ⟨bz,1,none⟩ (.slice none 0 0)=wf at *
  have z0:wf.cell? ⟨bz,0,none⟩=some (.slice none 0 0):=hH.cell 0
  have z1:wf.cell? ⟨bz,1,none⟩=some (.slice none 0 0):=hH.cell 1
  refine bodyPost_ret (v:=.tuple #[.agg #[.slice none 0 0,.slice none 0 0],.bool false]) ?_ rfl ⟨rfl,hb⟩
  simp [results,Tryz.f12,go_sem,z0,z1]
set_option maxHeartbeats 2000000 in
theorem zbs (d m n:Int) (R S:List Int) (lR:R.length=32) (p q:Value) (w:World):Calls Tryz.prog 13 #[.int .i64 d,.int .u64 m,.agg (z00 R).toArray,.agg (z00 R).toArray,.int .u64 n,.agg (z00 S).toArray,p,q] w fun e w'=>e=.returned (.tuple #[.agg #[.slice none 0 0,.slice none 0 0],.bool false])∧Below w.heap.size w w':=by
  obtain ⟨W0,hW0⟩:∃ W0,((((w.alloc (.cells (z00 R).toArray 30)).alloc (.cells (z00 R).toArray 30)).alloc (.cells (z00 S).toArray 30)).alloc (.cells #[.slice none 0 0,.slice none 0 0] 46))=W0:=⟨_,rfl⟩
  have R0:Aside (Below w.heap.size w W0):=by rw [← hW0];exact (((((Below.refl _ _).alloc (Nat.le_refl _) _).alloc (by simp) _).alloc (by simp;omega) _).alloc (by simp;omega) _)
  have ka:Has W0 (w.heap.size) (z00 R).toArray 30:=by rw [← hW0];exact ((((Has.new _ _ _).alloc _).alloc _).alloc _)
  have kb:Has W0 (w.heap.size+1) (z00 R).toArray 30:=by rw [← hW0];exact (((Has.at _ _ _ (by simp)).alloc _).alloc _)
  have kz:Has W0 (w.heap.size+1+1+1) #[.slice none 0 0,.slice none 0 0] 46:=by rw [← hW0];exact (Has.at _ _ _ (by simp))
  have q1:∀ w,(Op.equalIn 10000 30 (.agg (z00 R).toArray) (.agg (z00 R).toArray)).run Tryz.prog w=.ok true w:=fun w=>by rw [z1x lR lR w];simp
  go_enter Tryz.func13,Tryz.ntmps13
  go_upto_region 1 with fail
  clear hW0
  obtain ⟨ba,hba⟩:∃ b,b=w.heap.size:=⟨_,rfl⟩
  obtain ⟨bb,hbb⟩:∃ b,b=w.heap.size+1:=⟨_,rfl⟩
  obtain ⟨bz,hbz⟩:∃ b,b=w.heap.size+1+1+1:=⟨_,rfl⟩
  have HZ:Aside (w.heap.size≤bz):=by show w.heap.size≤bz;omega
  rw [← hbz] at kz ⊢
  rw [← hbb] at kb ⊢
  rw [← hba] at ka ⊢
  clear hba hbb hbz
  have x0:W0.cell? ⟨bz,0,none⟩=some (.slice none 0 0):=kz.cell 0
  have x1:W0.cell? ⟨bz,1,none⟩=some (.slice none 0 0):=kz.cell 1
  have f0:=kz.frozen 0
  have f1:=kz.frozen 1
  go_wp2_with (first
    | (refine wpList_load_row rfl 30 (.tmp 10) rfl ba rfl 30 (z00 R).toArray (0,0) _ ka Tryz.underlying30 rfl (z0j lR) ?_)
    | (refine wpList_load_row rfl 30 (.tmp 11) rfl bb rfl 30 (z00 R).toArray (0,0) _ kb Tryz.underlying30 rfl (z0j lR) ?_)
    | fail)
  have hH:=(kz.set 0 (.slice none 0 0)).set 1 (.slice none 0 0)
  have hb:=(R0.out.setCell (p:=⟨bz,0,none⟩) HZ.out (.slice none 0 0)).setCell (p:=⟨bz,1,none⟩) HZ.out (.slice none 0 0)
  clear x0 x1 f0 f1 kz ka kb q1
  generalize (W0.setCell ⟨bz,0,none⟩ (.slice none 0 0)).setCell ⟨bz,1,none⟩ (.slice none 0 0)=wf at *
  have z0:wf.cell? ⟨bz,0,none⟩=some (.slice none 0 0):=hH.cell 0
  have z1:wf.cell? ⟨bz,1,none⟩=some (.slice none 0 0):=hH.cell 1
  refine bodyPost_ret (v:=.tuple #[.agg #[.slice none 0 0,.slice none 0 0],.bool false]) ?_ rfl ⟨rfl,hb⟩
  simp [results,Tryz.f13,go_sem,z0,z1]
set_option maxHeartbeats 2000000 in
theorem z9F (d:Int) (n:Nat) (hn:n<2 ^ 64) (a b:Option Addr) (k ca cb:Nat) (hk:k≤1000) (l:List Int) (w:World) (hA:Flat w a k l) (hB:Flat w b k l) (hX:HX.Tabled w):Calls Tryz.prog 14 #[.int .i64 d,.int .u64 (n:Int),.slice a k ca,.slice b k cb] w fun e w'=>e=.returned (.tuple #[.agg #[.slice none 0 0,.slice none 0 0],.bool false])∧Below w.heap.size w w':=by
  have HA:Aside (n<2 ^ 64∧k≤1000∧Flat w a k l∧Flat w b k l∧HX.Tabled w):=⟨hn,hk,hA,hB,hX⟩
  obtain ⟨W0,hW0⟩:∃ W0,w.alloc (.cells #[.slice none 0 0,.slice none 0 0] 46)=W0:=⟨_,rfl⟩
  obtain ⟨bz,hbz⟩:∃ bz,w.heap.size=bz:=⟨_,rfl⟩
  have hb0:Below w.heap.size w W0:=by rw [← hW0];exact (Below.refl _ _).alloc (Nat.le_refl _) _
  have kz:Has W0 bz #[.slice none 0 0,.slice none 0 0] 46:=by rw [← hW0,← hbz];exact Has.new _ _ _
  have iE:IsH (BAGA d n k l).2:=zf9
  have cb1:=zcH d n hn a k ca l W0 (hA.below hb0) (hX.below hb0)
  have CB:Aside (∀ W,Below w.heap.size w W→Calls Tryz.prog 28 #[.int .i64 d,.int .u64 (n:Int),.slice b k cb] W fun e w'=>e=.returned (.tuple #[.agg (z00 (BAGA d n k l).2).toArray,.int .i64 (BAGA d n k l).1])∧Below W.heap.size W w'):=fun W h=>zcH d n hn b k cb l W (hB.below h) (hX.below h)
  generalize (BAGA d n k l).2=R at *
  generalize (BAGA d n k l).1=E at *
  have lR:=iE.1
  have q1:∀ w,(Op.equalIn 10000 30 (.agg (z00 R).toArray) (.agg (z00 R).toArray)).run Tryz.prog w=.ok true w:=fun w=>by rw [z1x lR lR w];simp
  have R0:Aside (Below w.heap.size w W0∧Has W0 bz #[.slice none 0 0,.slice none 0 0] 46∧w.heap.size≤bz):=⟨hb0,kz,by omega⟩
  clear hn hk hA hB hX hb0 kz iE
  go_enter Tryz.func14,Tryz.ntmps14
  go_upto_region 1 with fail
  clear hW0 hbz
  go_wp2_with fail
  refine cb1.mono ?_
  rintro e w1 ⟨rfl,hb1⟩
  clear cb1
  go_upto_region 2 with (first
    | (refine wpList_store_row rfl 30 (.tmp 10) (.tmp 20) rfl _ _ rfl rfl 30 _ (Has.new w1 _ _) (z0j lR) (by simp [z00,lR]) (z0B R) ?_;rw [World.setRow_alloc_new])
    | fail)
  obtain ⟨w2,hw2⟩:∃ w2,w1.alloc (.cells (z00 R).toArray 30)=w2:=⟨_,rfl⟩
  obtain ⟨ba,hba⟩:∃ b,w1.heap.size=b:=⟨_,rfl⟩
  rw [hw2,hba]
  have hb2:Below W0.heap.size W0 w2:=by rw [← hw2];exact hb1.alloc hb1.size _
  have ka:Has w2 ba (z00 R).toArray 30:=by rw [← hw2,← hba];exact Has.new _ _ _
  have hbw2:Below w.heap.size w w2:=R0.out.1.trans (hb2.mono R0.out.1.size)
  have cb2:=CB.out w2 hbw2
  have R2:Aside (Below w.heap.size w w2∧Has w2 bz #[.slice none 0 0,.slice none 0 0] 46∧Has w2 ba (z00 R).toArray 30):=⟨hbw2,R0.out.2.1.keep hb2,ka⟩
  clear hw2 hba hb1 hb2 ka hbw2 CB
  go_wp2_with fail
  refine cb2.mono ?_
  rintro e w3 ⟨rfl,hb3⟩
  clear cb2
  go_upto_region 3 with (first
    | (refine wpList_store_row rfl 30 (.tmp 12) (.tmp 27) rfl _ _ rfl rfl 30 _ (Has.new w3 _ _) (z0j lR) (by simp [z00,lR]) (z0B R) ?_;rw [World.setRow_alloc_new])
    | fail)
  obtain ⟨w4,hw4⟩:∃ w4,w3.alloc (.cells (z00 R).toArray 30)=w4:=⟨_,rfl⟩
  obtain ⟨bb,hbb⟩:∃ b,w3.heap.size=b:=⟨_,rfl⟩
  rw [hw4,hbb]
  have hb4:Below w2.heap.size w2 w4:=by rw [← hw4];exact hb3.alloc hb3.size _
  have kb:Has w4 bb (z00 R).toArray 30:=by rw [← hw4,← hbb];exact Has.new _ _ _
  have ka:=R2.out.2.2.keep hb4
  have R4:Aside (Below w.heap.size w w4∧Has w4 bz #[.slice none 0 0,.slice none 0 0] 46∧w.heap.size≤bz):=⟨R2.out.1.trans (hb4.mono R2.out.1.size),R2.out.2.1.keep hb4,R0.out.2.2⟩
  clear hw4 hbb hb3 hb4 R2 R0
  by_cases hE:E=0
  · subst hE
    have cq:=z6G a b k k ca cb l l w4 (HA.out.2.2.1.below R4.out.1) (HA.out.2.2.2.1.below R4.out.1) (by have:=HA.out.2.1;omega)
    rw [decide_eq_true rfl] at cq
    go_wp2_with (first
      | (refine z5r (by rfl) 30 (.tmp 10) rfl 32 5 ba rfl 30 (z00 R).toArray (0,0) ka Tryz.underlying30 (z0j lR) ?_)
      | (refine z5r (by rfl) 30 (.tmp 12) rfl 32 5 bb rfl 30 (z00 R).toArray (0,0) kb Tryz.underlying30 (z0j lR) ?_)
      | fail)
    refine cq.mono ?_
    rintro e w5 ⟨rfl,hb5⟩
    clear cq ka kb q1
    have kz:=R4.out.2.1.keep hb5
    have hbw:Below w.heap.size w w5:=R4.out.1.trans (hb5.mono R4.out.1.size)
    have x0:w5.cell? ⟨bz,0,none⟩=some (.slice none 0 0):=kz.cell 0
    have x1:w5.cell? ⟨bz,1,none⟩=some (.slice none 0 0):=kz.cell 1
    have f0:=kz.frozen 0
    have f1:=kz.frozen 1
    go_wp2
    have hH:=(kz.set 0 (.slice none 0 0)).set 1 (.slice none 0 0)
    have hb:=(hbw.setCell (p:=⟨bz,0,none⟩) R4.out.2.2 (.slice none 0 0)).setCell (p:=⟨bz,1,none⟩) R4.out.2.2 (.slice none 0 0)
    clear x0 x1 f0 f1 kz
    generalize (w5.setCell ⟨bz,0,none⟩ (.slice none 0 0)).setCell ⟨bz,1,none⟩ (.slice none 0 0)=wf at *
    have z0:wf.cell? ⟨bz,0,none⟩=some (.slice none 0 0):=hH.cell 0
    have z1:wf.cell? ⟨bz,1,none⟩=some (.slice none 0 0):=hH.cell 1
    refine bodyPost_ret (v:=.tuple #[.agg #[.slice none 0 0,.slice none 0 0],.bool false]) ?_ rfl ⟨rfl,hb⟩
    simp [results,Tryz.f14,go_sem,z0,z1]
  · have hE':(E != 0)=true:=bne_iff_ne.2 hE
    have kz:=R4.out.2.1
    have x0:w4.cell? ⟨bz,0,none⟩=some (.slice none 0 0):=kz.cell 0
    have x1:w4.cell? ⟨bz,1,none⟩=some (.slice none 0 0):=kz.cell 1
    have f0:=kz.frozen 0
    have f1:=kz.frozen 1
    clear hE q1
    go_wp2
    have hH:=(kz.set 0 (.slice none 0 0)).set 1 (.slice none 0 0)
    have hb:=(R4.out.1.setCell (p:=⟨bz,0,none⟩) R4.out.2.2 (.slice none 0 0)).setCell (p:=⟨bz,1,none⟩) R4.out.2.2 (.slice none 0 0)
    clear x0 x1 f0 f1 kz
    generalize (w4.setCell ⟨bz,0,none⟩ (.slice none 0 0)).setCell ⟨bz,1,none⟩ (.slice none 0 0)=wf at *
    have z0:wf.cell? ⟨bz,0,none⟩=some (.slice none 0 0):=hH.cell 0
    have z1:wf.cell? ⟨bz,1,none⟩=some (.slice none 0 0):=hH.cell 1
    refine bodyPost_ret (v:=.tuple #[.agg #[.slice none 0 0,.slice none 0 0],.bool false]) ?_ rfl ⟨rfl,hb⟩
    simp [results,Tryz.f14,go_sem,z0,z1]
end Go.Proofs.YtbeelmlpalkohaaGreatDoor

namespace Go.Proofs.YtbeelmlpalkohaaGreatDoor
open Go.RowKit
set_option maxRecDepth 100000
theorem z16 {ops:Array Oper} {o:Oper} {a:Act} {w w':World} {K:Act→World→Prop} {Q:Exit→Act→World→Prop} {E:Prop} {v:Value} (hw:Region.wanted o (yielded ops a.tmps)=true)
    (hrun:(execOp a.eval o).run Tryz.prog w=.ok (.value v) w') (h:K (a.put o.dst v) w'):if Region.wanted o (yielded ops a.tmps)=true then Oper.wp Tryz.prog o a w K Q else E:=by
  rw [if_pos hw]
  unfold Oper.wp
  rw [hrun]
  exact h
end Go.Proofs.YtbeelmlpalkohaaGreatDoor
