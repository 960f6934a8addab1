/- For every int w, all numbers m and n, all hashes a, b and r and all bytes p and q (nil or not, with whatever behind their lengths) the law ClashForks returns true, where the three tables lie as the text of the program lays them; and its card. -/
import Derived.Test.YthpdlnbbbcgemaaGreatDoorRows
import Derived.Test.YthpdlnbbbcgemaaGreatDoorTie
import Derived.Test.YthpdlnbbbcgemaaGreatDoorCards
import Derived.Carry
import Derived.SevenTiedAt
import Derived.Test.YthpdlnbbbcgemaaGreatDoorClashForksP41
import Derived.Test.YthpdlnbbbcgemaaGreatDoorClashForksP42
namespace Go.Proofs.YthpdlnbbbcgemaaGreatDoor
open Go.ChangeShapes Go.WideShapes Go.ChangeAt Go.WideMaps Go.WideElems Go.RowKit
theorem door_met (os:Os) (args:Array Value):laidMetH Tryz.prog Rows.clashForksRow.laid ((World.doorLaid Tryz.prog 400 os).forCall (fun _ _=>0) ⟨#[],args,[]⟩).memory:=
  laidMetH_of_parts3 (fuel:=8) (laidMet_of_run' 8 (by kernel_rfl) (by kernel_rfl)) (by kernel_rfl) (by kernel_rfl)
set_option maxRecDepth 100000 in
theorem lifted (os:Os) (started:os.Started) (H:Type) (enc:TypeId × Value→H):
    ReturnsInHanded {} Tryz.checked os 4 .any (fun w args=>(Rows.clashForksSpec.pre enc Tryz.prog Tryz.f4 [] false w args∧laidMetH Tryz.prog Rows.clashForksRow.laid w)∧sizedMet enc Tryz.prog Tryz.f4 (OpenSpec.ofChange Rows.clashForksSpec) false w args)
      (Rows.clashForksSpec.post enc Tryz.prog Tryz.f4 false true false false):=by
  refine returnsInHanded_of_change_and (C:=Tryz.checked) (X:=fun w _=>laidMetH Tryz.prog Rows.clashForksRow.laid w) (fun _ _ _ hh h=>h.of_heap hh) own started (by kernel_rfl) Tryz.func4
    (ChangeSpec.witness_shaped (enc:=enc) (C:=Tryz.checked) (os:=os) (X:=fun w _=>laidMetH Tryz.prog Rows.clashForksRow.laid w) false (World.doorLaid Tryz.prog 400 os) #[.int .i64 0,.int .u64 0,.agg ZARR,.agg ZARR,.int .u64 0,.agg ZARR,.slice none 0 0,.slice none 0 0] 8 rfl (World.shaped_of_RefB (by kernel_rfl) (by kernel_rfl)) (by kernel_rfl) (by kernel_rfl) (by kernel_rfl) (door_met os _)) ?_
  intro W base args ds gs before hval0 hW _ _ hL _
  have hval:∀ (j:Nat) t v,Tryz.f4.params[j]?=some t→args[j]?=some v→Value.okWide Tryz.prog W .any base t v:=hval0
  have hW':=hW
  obtain ⟨p,q,hA0,hV,rfl,hfz,hnd⟩:=hW
  have hA:DataW.TrodAll enc Tryz.prog W 0 (fun _=>true) true Tryz.f4.params.toList args.toList ds p:=hA0
  rw [Tryz.params4] at hA hval
  obtain ⟨v0,vs0,d0,ds0,p0,q0,hargs,rfl,rfl,h0,r0⟩:=trodAll_cons hA
  obtain ⟨v1,vs1,d1,ds1,p1,q1,rfl,rfl,rfl,h1,r1⟩:=trodAll_cons r0
  obtain ⟨v2,vs2,d2,ds2,p2,q2,rfl,rfl,rfl,h2,r2⟩:=trodAll_cons r1
  obtain ⟨v3,vs3,d3,ds3,p3,q3,rfl,rfl,rfl,h3,r3⟩:=trodAll_cons r2
  obtain ⟨v4,vs4,d4,ds4,p4,q4,rfl,rfl,rfl,h4,r4⟩:=trodAll_cons r3
  obtain ⟨v5,vs5,d5,ds5,p5,q5,rfl,rfl,rfl,h5,r5⟩:=trodAll_cons r4
  obtain ⟨v6,vs6,d6,ds6,p6,q6,rfl,rfl,rfl,h6,r6⟩:=trodAll_cons r5
  obtain ⟨v7,vs7,d7,ds7,p7,q7,rfl,rfl,rfl,h7,r7⟩:=trodAll_cons r6
  obtain ⟨rfl,rfl,rfl⟩:=trodAll_nil r7
  obtain rfl:args=#[v0,v1,v2,v3,v4,v5,v6,v7]:=by cases args;simp_all
  obtain ⟨rfl,rfl⟩:=trodVars_none hV
  obtain ⟨a0,rfl,rfl,rfl,w0⟩:=open_int Tryz.underlying3 (hval 0 3 v0 rfl rfl) h0
  obtain ⟨a1,rfl,rfl,rfl,w1⟩:=open_int Tryz.underlying22 (hval 1 22 v1 rfl rfl) h1
  obtain ⟨N1,rfl⟩:∃ N1:Nat,a1=(N1:Int):=⟨a1.toNat,by have:=wf_u64 w1;omega⟩
  have u1:N1<2 ^ 64:=by have:=wf_u64 w1;omega
  obtain ⟨l2,m2,r2',rfl⟩:=z5Z (hval 2 24 v2 rfl rfl) h2
  have H2:IsH l2:=⟨m2,r2'⟩
  obtain ⟨l3,m3,r3',rfl⟩:=z5Z (hval 3 24 v3 rfl rfl) h3
  have H3:IsH l3:=⟨m3,r3'⟩
  obtain ⟨a4,rfl,rfl,rfl,w4⟩:=open_int Tryz.underlying22 (hval 4 22 v4 rfl rfl) h4
  obtain ⟨N4,rfl⟩:∃ N4:Nat,a4=(N4:Int):=⟨a4.toNat,by have:=wf_u64 w4;omega⟩
  have u4:N4<2 ^ 64:=by have:=wf_u64 w4;omega
  obtain ⟨l5,m5,r5',rfl⟩:=z5Z (hval 5 24 v5 rfl rfl) h5
  have H5:IsH l5:=⟨m5,r5'⟩
  obtain ⟨p6',n6,c6,rfl⟩:=okWide_slice Tryz.underlying25 (hval 6 25 v6 rfl rfl)
  obtain ⟨l6,f6,z6,k6⟩:=z53 h6
  obtain ⟨p7',n7,c7,rfl⟩:=okWide_slice Tryz.underlying25 (hval 7 25 v7 rfl rfl)
  obtain ⟨l7,f7,z7,k7⟩:=z53 h7
  have lt:∀ {t v d p},DataW.Trod enc Tryz.prog W 0 (fun _=>true) true t v d p→∀ x∈p,x.block<W.heap.size:=fun h=>by obtain ⟨m,hm⟩:=h;exact DataW.trod_lt m _ _ _ hm
  obtain ⟨hT,hX,hp⟩:=zfh hL
  clear hA0 hval0
  simp only [List.append_nil] at hW'
  refine (z6E a0 N1 u1 l2 l3 H2 H3 N4 u4 l5 H5 p6' p7' n6 c6 n7 c7 z6 z7 k6 k7 l6 l7 W f6 f7 hT hX (by omega)).mono fun e W' ⟨he,bel⟩=>?_
  subst he
  exact ⟨_,rfl,_,_,_,[],_,[],hW',trodAll_mk1 (shut_bool Tryz.underlying4 _),(trodAll_cons_mk (shut_int Tryz.underlying3 w0) (trodAll_cons_mk (shut_int Tryz.underlying22 w1) (trodAll_cons_mk (Below.trod z3a (by kernel_rfl) (of_decide_eq_true (by kernel_rfl)) h2 bel (lt h2)) (trodAll_cons_mk (Below.trod z3a (by kernel_rfl) (of_decide_eq_true (by kernel_rfl)) h3 bel (lt h3)) (trodAll_cons_mk (shut_int Tryz.underlying22 w4) (trodAll_cons_mk (Below.trod z3a (by kernel_rfl) (of_decide_eq_true (by kernel_rfl)) h5 bel (lt h5)) (trodAll_cons_mk (Below.trod z3a (by kernel_rfl) (of_decide_eq_true (by kernel_rfl)) h6 bel (lt h6)) (trodAll_cons_mk (Below.trod z3a (by kernel_rfl) (of_decide_eq_true (by kernel_rfl)) h7 bel (lt h7)) trodAll_mk0)))))))),rfl,bel.frame _,fun h=>by cases h⟩
theorem clashForks_row:Rows.ClashForksSaid:=
  OpenClaim.holds_of_wide 4 Tryz.f4 rfl rfl rfl rfl rfl rfl rfl ⟨rfl,rfl,rfl,rfl,rfl⟩ rfl rfl rfl rfl rfl (by kernel_rfl) Tryz.func4 (by kernel_rfl)
    (of_decide_eq_true (by kernel_rfl)) (by unfold Func.isWrapper;first | (rw [if_pos (by decide +kernel)];kernel_rfl) | (rw [if_neg (by decide +kernel)];exact ⟨rfl,rfl⟩))
    (fun os started H enc _=>lifted os started H enc)
theorem clashForks_holds:Rows.ClashForksCardSaid:=
  Claim7.holds_tied_plain_at .later [] [.data,.data,.data] true Rows.clashForksCard.stood.harness false
    clashForks_row (fun _ h=>by cases h) (by kernel_rfl) (fun _ h=>by cases h) clashForks_row_tie rfl ⟨rfl,rfl⟩ (by kernel_rfl) rfl
    (fun f fn hf hfn=>by
      obtain rfl:f=4:=Option.some.inj ((show Tryz.prog.funcNamed "massif/massiflaw9.ClashForks"=some 4 by kernel_rfl).symm.trans hf) |>.symm
      obtain rfl:fn=Tryz.f4:=(Option.some.inj (Tryz.func4.symm.trans hfn)).symm
      exact ⟨by kernel_rfl,fun j t ht=>by
        rw [Tryz.params4] at ht
        have hm:t∈[3,22,24,24,22,24,25,25]:=by simpa using Array.mem_of_getElem? ht
        have hall:([3,22,24,24,22,24,25,25].all fun u=>!Tryz.prog.wantsStandIn u)=true:=by kernel_rfl
        exact (show Tryz.prog.wantsStandIn t=false by simpa using List.all_eq_true.1 hall t hm)⟩)
    (by kernel_rfl)
#print axioms clashForks_holds
end Go.Proofs.YthpdlnbbbcgemaaGreatDoor
