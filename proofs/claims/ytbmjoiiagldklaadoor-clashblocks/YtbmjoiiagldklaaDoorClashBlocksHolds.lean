/- For every int w, all hashes root, x and y, all numbers n and i and all bytes p and q (nil or not, with whatever behind their lengths) the law ClashBlocks returns true, where the three tables lie as the program's text lays them; and its card. -/
import Derived.Test.YtbmjoiiagldklaaDoorRows
import Derived.Test.YtbmjoiiagldklaaDoorTie
import Derived.Test.YtbmjoiiagldklaaDoorCards
import Derived.Carry
import Derived.SevenTiedAt
import Derived.Test.YtbmjoiiagldklaaDoorClashBlocksP35
namespace Go.Proofs.YtbmjoiiagldklaaDoor
open Go.ChangeShapes Go.WideShapes Go.ChangeAt Go.WideMaps Go.WideElems Go.RowKit
theorem door_met (os:Os) (args:Array Value):laidMetH Tryd.prog Rows.clashBlocksRow.laid ((World.doorLaid Tryd.prog 400 os).forCall (fun _ _=>0) ⟨#[],args,[]⟩).memory:=
  laidMetH_of_parts3 (fuel:=8) (laidMet_of_run' 8 (by kernel_rfl) (by kernel_rfl)) (by kernel_rfl) (by kernel_rfl)
set_option maxRecDepth 100000 in
theorem lifted (os:Os) (started:os.Started) (H:Type) (enc:TypeId × Value→H):
    ReturnsInHanded {} Tryd.checked os 4 .any (fun w args=>(Rows.clashBlocksSpec.pre enc Tryd.prog Tryd.f4 [] false w args∧laidMetH Tryd.prog Rows.clashBlocksRow.laid w)∧sizedMet enc Tryd.prog Tryd.f4 (OpenSpec.ofChange Rows.clashBlocksSpec) false w args)
      (Rows.clashBlocksSpec.post enc Tryd.prog Tryd.f4 false true false false):=by
  refine returnsInHanded_of_change_and (C:=Tryd.checked) (X:=fun w _=>laidMetH Tryd.prog Rows.clashBlocksRow.laid w) (fun _ _ _ hh h=>h.of_heap hh) own started (by kernel_rfl) Tryd.func4
    (ChangeSpec.witness_shaped (enc:=enc) (C:=Tryd.checked) (os:=os) (X:=fun w _=>laidMetH Tryd.prog Rows.clashBlocksRow.laid w) false (World.doorLaid Tryd.prog 400 os) #[.int .i64 0,.agg ZARR,.int .u64 0,.int .u64 0,.agg ZARR,.slice none 0 0,.agg ZARR,.slice none 0 0] 8 rfl (World.shaped_of_RefB (by kernel_rfl) (by kernel_rfl)) (by kernel_rfl) (by kernel_rfl) (by kernel_rfl) (door_met os _)) ?_
  intro W base args ds gs before hval0 hW _ _ hL _
  have hval:∀ (j:Nat) t v,Tryd.f4.params[j]?=some t→args[j]?=some v→Value.okWide Tryd.prog W .any base t v:=hval0
  have hW':=hW
  obtain ⟨p,q,hA0,hV,rfl,hfz,hnd⟩:=hW
  have hA:DataW.TrodAll enc Tryd.prog W 0 (fun _=>true) true Tryd.f4.params.toList args.toList ds p:=hA0
  rw [Tryd.params4] at hA hval
  obtain ⟨v0,vs0,d0,ds0,p0,q0,hargs,rfl,rfl,h0,r0⟩:=trodAll_cons hA
  obtain ⟨v1,vs1,d1,ds1,p1,q1,rfl,rfl,rfl,h1,r1⟩:=trodAll_cons r0
  obtain ⟨v2,vs2,d2,ds2,p2,q2,rfl,rfl,rfl,h2,r2⟩:=trodAll_cons r1
  obtain ⟨v3,vs3,d3,ds3,p3,q3,rfl,rfl,rfl,h3,r3⟩:=trodAll_cons r2
  obtain ⟨v4,vs4,d4,ds4,p4,q4,rfl,rfl,rfl,h4,r4⟩:=trodAll_cons r3
  obtain ⟨v5,vs5,d5,ds5,p5,q5,rfl,rfl,rfl,h5,r5⟩:=trodAll_cons r4
  obtain ⟨v6,vs6,d6,ds6,p6,q6,rfl,rfl,rfl,h6,r6⟩:=trodAll_cons r5
  obtain ⟨v7,vs7,d7,ds7,p7,q7,rfl,rfl,rfl,h7,r7⟩:=trodAll_cons r6
  obtain ⟨rfl,rfl,rfl⟩:=trodAll_nil r7
  obtain rfl:args=#[v0,v1,v2,v3,v4,v5,v6,v7]:=by cases args;simp_all
  obtain ⟨rfl,rfl⟩:=trodVars_none hV
  obtain ⟨a0,rfl,rfl,rfl,w0⟩:=open_int Tryd.underlying3 (hval 0 3 v0 rfl rfl) h0
  obtain ⟨l1,m1,r1',rfl⟩:=z6v (hval 1 26 v1 rfl rfl) h1
  obtain ⟨a2,rfl,rfl,rfl,w2⟩:=open_int Tryd.underlying22 (hval 2 22 v2 rfl rfl) h2
  obtain ⟨a3,rfl,rfl,rfl,w3⟩:=open_int Tryd.underlying22 (hval 3 22 v3 rfl rfl) h3
  obtain ⟨l4,m4,r4',rfl⟩:=z6v (hval 4 26 v4 rfl rfl) h4
  obtain ⟨a5,n5,c5,rfl⟩:=okWide_slice Tryd.underlying30 (hval 5 30 v5 rfl rfl)
  obtain ⟨l5,f5,z5,k5⟩:=z5y h5
  obtain ⟨l6,m6,r6',rfl⟩:=z6v (hval 6 26 v6 rfl rfl) h6
  obtain ⟨a7,n7,c7,rfl⟩:=okWide_slice Tryd.underlying30 (hval 7 30 v7 rfl rfl)
  obtain ⟨l7,f7,z7,k7⟩:=z5y h7
  have lt:∀ {t v d p},DataW.Trod enc Tryd.prog W 0 (fun _=>true) true t v d p→∀ x∈p,x.block<W.heap.size:=fun h=>by obtain ⟨m,hm⟩:=h;exact DataW.trod_lt m _ _ _ hm
  obtain ⟨hT,hX,hp⟩:=zfy hL
  clear hA0 hval0
  simp only [List.append_nil] at hW'
  have q2':=wf_u64 w2
  have q3':=wf_u64 w3
  obtain ⟨A2,rfl⟩:=Int.eq_ofNat_of_zero_le (show 0≤a2 by omega)
  obtain ⟨A3,rfl⟩:=Int.eq_ofNat_of_zero_le (show 0≤a3 by omega)
  refine (z6u a0 l1 ⟨m1,r1'⟩ A2 A3 (by omega) (by omega) l4 l6 ⟨m4,r4'⟩ ⟨m6,r6'⟩ a5 a7 n5 c5 n7 c7 z5 z7 l5 l7 W f5 f7 hT hX hp).mono fun e W' ⟨he,bel⟩=>?_
  subst he
  exact ⟨_,rfl,_,_,_,[],_,[],hW',trodAll_mk1 (shut_bool Tryd.underlying4 _),(trodAll_cons_mk (shut_int Tryd.underlying3 w0) (trodAll_cons_mk (Below.trod z2L (by kernel_rfl) (of_decide_eq_true (by kernel_rfl)) h1 bel (lt h1)) (trodAll_cons_mk (shut_int Tryd.underlying22 w2) (trodAll_cons_mk (shut_int Tryd.underlying22 w3) (trodAll_cons_mk (Below.trod z2L (by kernel_rfl) (of_decide_eq_true (by kernel_rfl)) h4 bel (lt h4)) (trodAll_cons_mk (Below.trod z2L (by kernel_rfl) (of_decide_eq_true (by kernel_rfl)) h5 bel (lt h5)) (trodAll_cons_mk (Below.trod z2L (by kernel_rfl) (of_decide_eq_true (by kernel_rfl)) h6 bel (lt h6)) (trodAll_cons_mk (Below.trod z2L (by kernel_rfl) (of_decide_eq_true (by kernel_rfl)) h7 bel (lt h7)) trodAll_mk0)))))))),rfl,bel.frame _,fun h=>by cases h⟩
theorem clashBlocks_row:Rows.ClashBlocksSaid:=
  OpenClaim.holds_of_wide 4 Tryd.f4 rfl rfl rfl rfl rfl rfl rfl ⟨rfl,rfl,rfl,rfl,rfl⟩ rfl rfl rfl rfl rfl (by kernel_rfl) Tryd.func4 (by kernel_rfl)
    (of_decide_eq_true (by kernel_rfl)) (by unfold Func.isWrapper;first | (rw [if_pos (by decide +kernel)];kernel_rfl) | (rw [if_neg (by decide +kernel)];exact ⟨rfl,rfl⟩))
    (fun os started H enc _=>lifted os started H enc)
theorem clashBlocks_holds:Rows.ClashBlocksCardSaid:=
  Claim7.holds_tied_plain_at .later [] [.data,.data,.data] true Rows.clashBlocksCard.stood.harness false
    clashBlocks_row (fun _ h=>by cases h) (by kernel_rfl) (fun _ h=>by cases h) clashBlocks_row_tie rfl ⟨rfl,rfl⟩ (by kernel_rfl) rfl
    (fun f fn hf hfn=>by
      obtain rfl:f=4:=Option.some.inj ((show Tryd.prog.funcNamed "massif/massiflaw9.ClashBlocks"=some 4 by kernel_rfl).symm.trans hf) |>.symm
      obtain rfl:fn=Tryd.f4:=(Option.some.inj (Tryd.func4.symm.trans hfn)).symm
      exact ⟨by kernel_rfl,fun j t ht=>by
        rw [Tryd.params4] at ht
        have hm:t∈[3,26,22,22,26,30,26,30]:=by simpa using Array.mem_of_getElem? ht
        have hall:([3,26,22,22,26,30,26,30].all fun u=>!Tryd.prog.wantsStandIn u)=true:=by kernel_rfl
        exact (show Tryd.prog.wantsStandIn t=false by simpa using List.all_eq_true.1 hall t hm)⟩)
    (by kernel_rfl)
#print axioms clashBlocks_holds
end Go.Proofs.YtbmjoiiagldklaaDoor
