/- For every int w, all numbers i, m and n, all hashes r1, x, r2 and y and all bytes p, q and prefix (nil or not, with whatever behind their lengths) the law ClashAcross returns true, where the three tables lie as the text of the program lays them; and its card. -/
import Derived.Test.YtdggkbpabjgdfaaGreatDoorRows
import Derived.Test.YtdggkbpabjgdfaaGreatDoorTie
import Derived.Test.YtdggkbpabjgdfaaGreatDoorCards
import Derived.Carry
import Derived.SevenTiedAt
import Derived.Test.YtdggkbpabjgdfaaGreatDoorClashAcrossP35
namespace Go.Proofs.YtdggkbpabjgdfaaGreatDoor
open Go.ChangeShapes Go.WideShapes Go.ChangeAt Go.WideMaps Go.WideElems Go.RowKit
theorem door_met (os:Os) (args:Array Value):laidMetH Tryz.prog Rows.clashAcrossRow.laid ((World.doorLaid Tryz.prog 400 os).forCall (fun _ _=>0) ⟨#[],args,[]⟩).memory:=
  laidMetH_of_parts3 (fuel:=8) (laidMet_of_run' 8 (by kernel_rfl) (by kernel_rfl)) (by kernel_rfl) (by kernel_rfl)
set_option maxRecDepth 100000 in
theorem lifted (os:Os) (started:os.Started) (H:Type) (enc:TypeId × Value→H):
    ReturnsInHanded {} Tryz.checked os 3 .any (fun w args=>(Rows.clashAcrossSpec.pre enc Tryz.prog Tryz.f3 [] false w args∧laidMetH Tryz.prog Rows.clashAcrossRow.laid w)∧sizedMet enc Tryz.prog Tryz.f3 (OpenSpec.ofChange Rows.clashAcrossSpec) false w args)
      (Rows.clashAcrossSpec.post enc Tryz.prog Tryz.f3 false true false false):=by
  refine returnsInHanded_of_change_and (C:=Tryz.checked) (X:=fun w _=>laidMetH Tryz.prog Rows.clashAcrossRow.laid w) (fun _ _ _ hh h=>h.of_heap hh) own started (by kernel_rfl) Tryz.func3
    (ChangeSpec.witness_shaped (enc:=enc) (C:=Tryz.checked) (os:=os) (X:=fun w _=>laidMetH Tryz.prog Rows.clashAcrossRow.laid w) false (World.doorLaid Tryz.prog 400 os) #[.int .i64 0,.int .u64 0,.int .u64 0,.agg ZARR,.agg ZARR,.slice none 0 0,.int .u64 0,.agg ZARR,.agg ZARR,.slice none 0 0,.slice none 0 0] 8 rfl (World.shaped_of_RefB (by kernel_rfl) (by kernel_rfl)) (by kernel_rfl) (by kernel_rfl) (by kernel_rfl) (door_met os _)) ?_
  intro W base args ds gs before hval0 hW _ _ hL _
  have hval:∀ (j:Nat) t v,Tryz.f3.params[j]?=some t→args[j]?=some v→Value.okWide Tryz.prog W .any base t v:=hval0
  have hW':=hW
  obtain ⟨p,q,hA0,hV,rfl,hfz,hnd⟩:=hW
  have hA:DataW.TrodAll enc Tryz.prog W 0 (fun _=>true) true Tryz.f3.params.toList args.toList ds p:=hA0
  rw [Tryz.params3] at hA hval
  obtain ⟨v0,vs0,d0,ds0,p0,q0,hargs,rfl,rfl,h0,r0⟩:=trodAll_cons hA
  obtain ⟨v1,vs1,d1,ds1,p1,q1,rfl,rfl,rfl,h1,r1⟩:=trodAll_cons r0
  obtain ⟨v2,vs2,d2,ds2,p2,q2,rfl,rfl,rfl,h2,r2⟩:=trodAll_cons r1
  obtain ⟨v3,vs3,d3,ds3,p3,q3,rfl,rfl,rfl,h3,r3⟩:=trodAll_cons r2
  obtain ⟨v4,vs4,d4,ds4,p4,q4,rfl,rfl,rfl,h4,r4⟩:=trodAll_cons r3
  obtain ⟨v5,vs5,d5,ds5,p5,q5,rfl,rfl,rfl,h5,r5⟩:=trodAll_cons r4
  obtain ⟨v6,vs6,d6,ds6,p6,q6,rfl,rfl,rfl,h6,r6⟩:=trodAll_cons r5
  obtain ⟨v7,vs7,d7,ds7,p7,q7,rfl,rfl,rfl,h7,r7⟩:=trodAll_cons r6
  obtain ⟨v8,vs8,d8,ds8,p8,q8,rfl,rfl,rfl,h8,r8⟩:=trodAll_cons r7
  obtain ⟨v9,vs9,d9,ds9,p9,q9,rfl,rfl,rfl,h9,r9⟩:=trodAll_cons r8
  obtain ⟨v10,vs10,d10,ds10,p10,q10,rfl,rfl,rfl,h10,r10⟩:=trodAll_cons r9
  obtain ⟨rfl,rfl,rfl⟩:=trodAll_nil r10
  obtain rfl:args=#[v0,v1,v2,v3,v4,v5,v6,v7,v8,v9,v10]:=by cases args;simp_all
  obtain ⟨rfl,rfl⟩:=trodVars_none hV
  obtain ⟨a0,rfl,rfl,rfl,w0⟩:=open_int Tryz.underlying3 (hval 0 3 v0 rfl rfl) h0
  obtain ⟨a1,rfl,rfl,rfl,w1⟩:=open_int Tryz.underlying22 (hval 1 22 v1 rfl rfl) h1
  obtain ⟨N1,rfl⟩:∃ N1:Nat,a1=(N1:Int):=⟨a1.toNat,by have:=wf_u64 w1;omega⟩
  have u1:N1<2 ^ 64:=by have:=wf_u64 w1;omega
  obtain ⟨a2,rfl,rfl,rfl,w2⟩:=open_int Tryz.underlying22 (hval 2 22 v2 rfl rfl) h2
  obtain ⟨N2,rfl⟩:∃ N2:Nat,a2=(N2:Int):=⟨a2.toNat,by have:=wf_u64 w2;omega⟩
  have u2:N2<2 ^ 64:=by have:=wf_u64 w2;omega
  obtain ⟨l3,m3,r3',rfl⟩:=z5a (hval 3 24 v3 rfl rfl) h3
  have H3:IsH l3:=⟨m3,r3'⟩
  obtain ⟨l4,m4,r4',rfl⟩:=z5a (hval 4 24 v4 rfl rfl) h4
  have H4:IsH l4:=⟨m4,r4'⟩
  obtain ⟨p5',n5,c5,rfl⟩:=okWide_slice Tryz.underlying25 (hval 5 25 v5 rfl rfl)
  obtain ⟨l5,f5,z5,k5⟩:=z46 h5
  obtain ⟨a6,rfl,rfl,rfl,w6⟩:=open_int Tryz.underlying22 (hval 6 22 v6 rfl rfl) h6
  obtain ⟨N6,rfl⟩:∃ N6:Nat,a6=(N6:Int):=⟨a6.toNat,by have:=wf_u64 w6;omega⟩
  have u6:N6<2 ^ 64:=by have:=wf_u64 w6;omega
  obtain ⟨l7,m7,r7',rfl⟩:=z5a (hval 7 24 v7 rfl rfl) h7
  have H7:IsH l7:=⟨m7,r7'⟩
  obtain ⟨l8,m8,r8',rfl⟩:=z5a (hval 8 24 v8 rfl rfl) h8
  have H8:IsH l8:=⟨m8,r8'⟩
  obtain ⟨p9',n9,c9,rfl⟩:=okWide_slice Tryz.underlying25 (hval 9 25 v9 rfl rfl)
  obtain ⟨l9,f9,z9,k9⟩:=z46 h9
  obtain ⟨p10',n10,c10,rfl⟩:=okWide_slice Tryz.underlying25 (hval 10 25 v10 rfl rfl)
  obtain ⟨l10,f10,z10,k10⟩:=z46 h10
  have lt:∀ {t v d p},DataW.Trod enc Tryz.prog W 0 (fun _=>true) true t v d p→∀ x∈p,x.block<W.heap.size:=fun h=>by obtain ⟨m,hm⟩:=h;exact DataW.trod_lt m _ _ _ hm
  obtain ⟨hT,hX,hp⟩:=zhn hL
  clear hA0 hval0
  simp only [List.append_nil] at hW'
  refine (z71 a0 N1 N2 u1 u2 l3 l4 H3 H4 N6 u6 l7 l8 H7 H8 p5' p9' p10' n5 c5 n9 c9 n10 c10 z5 z9 z10 k5 k9 k10 l5 l9 l10 W f5 f9 f10 hT hX (by omega)).mono fun e W' ⟨he,bel⟩=>?_
  subst he
  exact ⟨_,rfl,_,_,_,[],_,[],hW',trodAll_mk1 (shut_bool Tryz.underlying4 _),(trodAll_cons_mk (shut_int Tryz.underlying3 w0) (trodAll_cons_mk (shut_int Tryz.underlying22 w1) (trodAll_cons_mk (shut_int Tryz.underlying22 w2) (trodAll_cons_mk (Below.trod z2E (by kernel_rfl) (of_decide_eq_true (by kernel_rfl)) h3 bel (lt h3)) (trodAll_cons_mk (Below.trod z2E (by kernel_rfl) (of_decide_eq_true (by kernel_rfl)) h4 bel (lt h4)) (trodAll_cons_mk (Below.trod z2E (by kernel_rfl) (of_decide_eq_true (by kernel_rfl)) h5 bel (lt h5)) (trodAll_cons_mk (shut_int Tryz.underlying22 w6) (trodAll_cons_mk (Below.trod z2E (by kernel_rfl) (of_decide_eq_true (by kernel_rfl)) h7 bel (lt h7)) (trodAll_cons_mk (Below.trod z2E (by kernel_rfl) (of_decide_eq_true (by kernel_rfl)) h8 bel (lt h8)) (trodAll_cons_mk (Below.trod z2E (by kernel_rfl) (of_decide_eq_true (by kernel_rfl)) h9 bel (lt h9)) (trodAll_cons_mk (Below.trod z2E (by kernel_rfl) (of_decide_eq_true (by kernel_rfl)) h10 bel (lt h10)) trodAll_mk0))))))))))),rfl,bel.frame _,fun h=>by cases h⟩
theorem clashAcross_row:Rows.ClashAcrossSaid:=
  OpenClaim.holds_of_wide 3 Tryz.f3 rfl rfl rfl rfl rfl rfl rfl ⟨rfl,rfl,rfl,rfl,rfl⟩ rfl rfl rfl rfl rfl (by kernel_rfl) Tryz.func3 (by kernel_rfl)
    (of_decide_eq_true (by kernel_rfl)) (by unfold Func.isWrapper;first | (rw [if_pos (by decide +kernel)];kernel_rfl) | (rw [if_neg (by decide +kernel)];exact ⟨rfl,rfl⟩))
    (fun os started H enc _=>lifted os started H enc)
theorem clashAcross_holds:Rows.ClashAcrossCardSaid:=
  Claim7.holds_tied_plain_at .later [] [.data,.data,.data] true Rows.clashAcrossCard.stood.harness false
    clashAcross_row (fun _ h=>by cases h) (by kernel_rfl) (fun _ h=>by cases h) clashAcross_row_tie rfl ⟨rfl,rfl⟩ (by kernel_rfl) rfl
    (fun f fn hf hfn=>by
      obtain rfl:f=3:=Option.some.inj ((show Tryz.prog.funcNamed "massif/massiflaw9.ClashAcross"=some 3 by kernel_rfl).symm.trans hf) |>.symm
      obtain rfl:fn=Tryz.f3:=(Option.some.inj (Tryz.func3.symm.trans hfn)).symm
      exact ⟨by kernel_rfl,fun j t ht=>by
        rw [Tryz.params3] at ht
        have hm:t∈[3,22,22,24,24,25,22,24,24,25,25]:=by simpa using Array.mem_of_getElem? ht
        have hall:([3,22,22,24,24,25,22,24,24,25,25].all fun u=>!Tryz.prog.wantsStandIn u)=true:=by kernel_rfl
        exact (show Tryz.prog.wantsStandIn t=false by simpa using List.all_eq_true.1 hall t hm)⟩)
    (by kernel_rfl)
#print axioms clashAcross_holds
end Go.Proofs.YtdggkbpabjgdfaaGreatDoor
