/- The peaks that follow from any leaves and any proof of a span, and any bytes as the proof of any leaves: for every int w, every hash root, all uint64 n, from and to, every list of hashes, every list of bytes (nil or not, with whatever behind their lengths) and every api.Reach the law SpanVerifies returns true, where the three tables lie as the text of the program lays them; and its card. -/
import Derived.Test.YthdpkaiieomdoaaGreatDoorRows
import Derived.Test.YthdpkaiieomdoaaGreatDoorTie
import Derived.Test.YthdpkaiieomdoaaGreatDoorCards
import Derived.Carry
import Derived.SevenTiedAt
import Derived.Test.YthdpkaiieomdoaaGreatDoorSpanVerifiesP36
namespace Go.Proofs.YthdpkaiieomdoaaGreatDoor
open Go.ChangeShapes Go.WideShapes Go.ChangeAt Go.WideMaps Go.WideElems Go.RowKit
theorem door_met (os:Os) (args:Array Value):laidMetH Tryz.prog Rows.spanVerifiesRow.laid ((World.doorLaid Tryz.prog 400 os).forCall (fun _ _=>0) ⟨#[],args,[]⟩).memory:=
  laidMetH_of_parts3 (fuel:=8) (laidMet_of_run' 8 (by kernel_rfl) (by kernel_rfl)) (by kernel_rfl) (by kernel_rfl)
set_option maxRecDepth 100000 in
theorem lifted (os:Os) (started:os.Started) (H:Type) (enc:TypeId × Value→H):
    ReturnsInHanded {} Tryz.checked os 3 .any (fun w args=>(Rows.spanVerifiesSpec.pre enc Tryz.prog Tryz.f3 [] false w args∧laidMetH Tryz.prog Rows.spanVerifiesRow.laid w)∧sizedMet enc Tryz.prog Tryz.f3 (OpenSpec.ofChange Rows.spanVerifiesSpec) false w args)
      (Rows.spanVerifiesSpec.post enc Tryz.prog Tryz.f3 false true false false):=by
  refine returnsInHanded_of_change_and (C:=Tryz.checked) (X:=fun w _=>laidMetH Tryz.prog Rows.spanVerifiesRow.laid w) (fun _ _ _ hh h=>h.of_heap hh) own started (by kernel_rfl) Tryz.func3
    (ChangeSpec.witness_shaped (enc:=enc) (C:=Tryz.checked) (os:=os) (X:=fun w _=>laidMetH Tryz.prog Rows.spanVerifiesRow.laid w) false (World.doorLaid Tryz.prog 400 os) #[.int .i64 0,.agg ZARR,.int .u64 0,.int .u64 0,.int .u64 0,.slice none 0 0,.slice none 0 0,.agg #[.int .u64 0,.int .u64 0,.int .u64 0,.slice none 0 0]] 8 rfl (World.shaped_of_RefB (by kernel_rfl) (by kernel_rfl)) (by kernel_rfl) (by kernel_rfl) (by kernel_rfl) (door_met os _)) ?_
  intro W base args ds gs before hval0 hW _ _ hL _
  have hval:∀ (j:Nat) t v,Tryz.f3.params[j]?=some t→args[j]?=some v→Value.okWide Tryz.prog W .any base t v:=hval0
  have hW':=hW
  obtain ⟨p,q,hA0,hV,rfl,hfz,hnd⟩:=hW
  have hA:DataW.TrodAll enc Tryz.prog W 0 (fun _=>true) true Tryz.f3.params.toList args.toList ds p:=hA0
  rw [Tryz.params3] at hA hval
  obtain ⟨v0,vs0,d0,ds0,p0,q0,hargs,rfl,rfl,h0,r0⟩:=trodAll_cons hA
  obtain ⟨v1,vs1,d1,ds1,p1,q1,rfl,rfl,rfl,h1,r1⟩:=trodAll_cons r0
  obtain ⟨v2,vs2,d2,ds2,p2,q2,rfl,rfl,rfl,h2,r2⟩:=trodAll_cons r1
  obtain ⟨v3,vs3,d3,ds3,p3,q3,rfl,rfl,rfl,h3,r3⟩:=trodAll_cons r2
  obtain ⟨v4,vs4,d4,ds4,p4,q4,rfl,rfl,rfl,h4,r4⟩:=trodAll_cons r3
  obtain ⟨v5,vs5,d5,ds5,p5,q5,rfl,rfl,rfl,h5,r5⟩:=trodAll_cons r4
  obtain ⟨v6,vs6,d6,ds6,p6,q6,rfl,rfl,rfl,h6,r6⟩:=trodAll_cons r5
  obtain ⟨v7,vs7,d7,ds7,p7,q7,rfl,rfl,rfl,h7,r7⟩:=trodAll_cons r6
  obtain ⟨rfl,rfl,rfl⟩:=trodAll_nil r7
  obtain rfl:args=#[v0,v1,v2,v3,v4,v5,v6,v7]:=by cases args;simp_all
  obtain ⟨rfl,rfl⟩:=trodVars_none hV
  obtain ⟨a0,rfl,rfl,rfl,w0⟩:=open_int Tryz.underlying3 (hval 0 3 v0 rfl rfl) h0
  obtain ⟨l1,m1,r1',rfl⟩:=zdM (hval 1 23 v1 rfl rfl) h1
  have H1:IsH l1:=⟨m1,r1'⟩
  obtain ⟨a2,rfl,rfl,rfl,w2⟩:=open_int Tryz.underlying24 (hval 2 24 v2 rfl rfl) h2
  obtain ⟨N2,rfl⟩:∃ N2:Nat,a2=(N2:Int):=⟨a2.toNat,by have:=wf_u64 w2;omega⟩
  have u2:N2<2 ^ 64:=by have:=wf_u64 w2;omega
  obtain ⟨a3,rfl,rfl,rfl,w3⟩:=open_int Tryz.underlying24 (hval 3 24 v3 rfl rfl) h3
  obtain ⟨N3,rfl⟩:∃ N3:Nat,a3=(N3:Int):=⟨a3.toNat,by have:=wf_u64 w3;omega⟩
  have u3:N3<2 ^ 64:=by have:=wf_u64 w3;omega
  obtain ⟨a4,rfl,rfl,rfl,w4⟩:=open_int Tryz.underlying24 (hval 4 24 v4 rfl rfl) h4
  obtain ⟨N4,rfl⟩:∃ N4:Nat,a4=(N4:Int):=⟨a4.toNat,by have:=wf_u64 w4;omega⟩
  have u4:N4<2 ^ 64:=by have:=wf_u64 w4;omega
  obtain ⟨p5',n5,c5,rfl⟩:=okWide_slice Tryz.underlying25 (hval 5 25 v5 rfl rfl)
  obtain ⟨l5,f5,z5,k5⟩:=zcl h5
  obtain ⟨p6',n6,c6,rfl⟩:=okWide_slice Tryz.underlying26 (hval 6 26 v6 rfl rfl)
  obtain ⟨l6,f6,z6,k6⟩:=z70 h6
  obtain ⟨S7,F7,T7,x7,m7,cx7,l7,b70,b71,b72,rfl,g74,g75,g76⟩:=zb0 (hval 7 28 v7 rfl rfl) h7
  have lt:∀ {t v d p},DataW.Trod enc Tryz.prog W 0 (fun _=>true) true t v d p→∀ x∈p,x.block<W.heap.size:=fun h=>by obtain ⟨m,hm⟩:=h;exact DataW.trod_lt m _ _ _ hm
  obtain ⟨hT,hX,hp⟩:=zdN hL
  clear hA0 hval0
  simp only [List.append_nil] at hW'
  refine (z4M a0 l1 H1 N2 N3 N4 u3 u4 p5' n5 c5 l5 p6' n6 c6 l6 S7 F7 T7 b70 b72 x7 m7 cx7 l7 W f5 z5 k5 f6 z6 k6 g74 g75 g76 hT hX (by omega)).mono fun e W' ⟨he,bel⟩=>?_
  subst he
  exact ⟨_,rfl,_,_,_,[],_,[],hW',trodAll_mk1 (shut_bool Tryz.underlying4 _),(trodAll_cons_mk (shut_int Tryz.underlying3 w0) (trodAll_cons_mk (Below.trod z3o (by kernel_rfl) (of_decide_eq_true (by kernel_rfl)) h1 bel (lt h1)) (trodAll_cons_mk (shut_int Tryz.underlying24 w2) (trodAll_cons_mk (shut_int Tryz.underlying24 w3) (trodAll_cons_mk (shut_int Tryz.underlying24 w4) (trodAll_cons_mk (Below.trod z3o (by kernel_rfl) (of_decide_eq_true (by kernel_rfl)) h5 bel (lt h5)) (trodAll_cons_mk (Below.trod z3o (by kernel_rfl) (of_decide_eq_true (by kernel_rfl)) h6 bel (lt h6)) (trodAll_cons_mk (Below.trod z3o (by kernel_rfl) (of_decide_eq_true (by kernel_rfl)) h7 bel (lt h7)) trodAll_mk0)))))))),rfl,bel.frame _,fun h=>by cases h⟩
theorem spanVerifies_row:Rows.SpanVerifiesSaid:=
  OpenClaim.holds_of_wide 3 Tryz.f3 rfl rfl rfl rfl rfl rfl rfl ⟨rfl,rfl,rfl,rfl,rfl⟩ rfl rfl rfl rfl rfl (by kernel_rfl) Tryz.func3 (by kernel_rfl)
    (of_decide_eq_true (by kernel_rfl)) (by unfold Func.isWrapper;first | (rw [if_pos (by decide +kernel)];kernel_rfl) | (rw [if_neg (by decide +kernel)];exact ⟨rfl,rfl⟩))
    (fun os started H enc _=>lifted os started H enc)
theorem spanVerifies_holds:Rows.SpanVerifiesCardSaid:=
  Claim7.holds_tied_plain_at .later [] [.data,.data,.data] true Rows.spanVerifiesCard.stood.harness false
    spanVerifies_row (fun _ h=>by cases h) (by kernel_rfl) (fun _ h=>by cases h) spanVerifies_row_tie rfl ⟨rfl,rfl⟩ (by kernel_rfl) rfl
    (fun f fn hf hfn=>by
      obtain rfl:f=3:=Option.some.inj ((show Tryz.prog.funcNamed "massif/massiflaw20.SpanVerifies"=some 3 by kernel_rfl).symm.trans hf) |>.symm
      obtain rfl:fn=Tryz.f3:=(Option.some.inj (Tryz.func3.symm.trans hfn)).symm
      exact ⟨by kernel_rfl,fun j t ht=>by
        rw [Tryz.params3] at ht
        have hm:t∈[3,23,24,24,24,25,26,28]:=by simpa using Array.mem_of_getElem? ht
        have hall:([3,23,24,24,24,25,26,28].all fun u=>!Tryz.prog.wantsStandIn u)=true:=by kernel_rfl
        exact (show Tryz.prog.wantsStandIn t=false by simpa using List.all_eq_true.1 hall t hm)⟩)
    (by kernel_rfl)
#print axioms spanVerifies_holds
end Go.Proofs.YthdpkaiieomdoaaGreatDoor
