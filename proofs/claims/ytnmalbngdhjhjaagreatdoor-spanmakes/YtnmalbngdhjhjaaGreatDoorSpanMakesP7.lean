/- Texts of SpanMakes, one behind the other: StoreInsert. -/
import Derived.Deep.AppendLies
import Derived.Test.YtnmalbngdhjhjaaGreatDoorSpanMakesP6
namespace Go.Proofs.YtnmalbngdhjhjaaGreatDoor.HX
open Go.RowKit
set_option maxRecDepth 100000
theorem z3N:(Tryz.prog.info? 35).map (fun i=>(i.zero,i.size,i.bytes))=some (some (.agg (UARR .u8 32 fun _=>0)),32,32):=by kernel_rfl
theorem z4q:(Tryz.prog.info? 213).map (fun i=>(i.zero,i.size,i.bytes))=some (some (.agg #[.int .u64 0,.int .u64 0,.slice none 0 0]),3,40):=by kernel_rfl
theorem z4r {w:World} {B n s:Nat} {t:TypeId} {v:Value} {xs:List Value} (h:w.ownsRow B t s v n xs):∃ a cap,v=.slice a n cap:=by
  rcases h.2 with ⟨rfl,rfl⟩ | ⟨g,cap,cur,rfl,_⟩
  · exact ⟨none,0,rfl⟩
  · exact ⟨_,cap,rfl⟩
set_option maxHeartbeats 1000000 in
theorem z5W (B ga n:Nat) (v:Value) (xs:List Value) (h:Nat→Nat) (w:World) (hown:w.ownsRow B 35 32 v n xs) (hB:B≤w.heap.size) (hn:n≤1000) (hga:Has w ga (UARR .u8 32 h) 35):Calls Tryz.prog 208 #[v,.int .i64 (n:Int),.slice (some ⟨ga,0,none⟩) 1 1] w fun e w'=>
    ∃ g cap,e=.returned (.slice (some ⟨g,0,none⟩) (n+1) cap)∧w'.ownsRow B 35 32 (.slice (some ⟨g,0,none⟩) (n+1) cap) (n+1) (xs ++ z05 .u8 32 h)∧w.grownBy w' v.ownBlock∧(v.ownBlock=some g∨g=w.heap.size):=by
  obtain ⟨i,hi,hz,hs1,hby⟩:=info_parts z3N
  obtain ⟨a,cap0,rfl⟩:=z4r hown
  obtain ⟨X,hX⟩:∃ X,∀ w,(Instr.slice 22 (.slice a n cap0) (some (.int .i64 (n:Int))) none none).run Tryz.prog w=.ok X w:=⟨_,fun w=>(run_slice_l (P:=Tryz.prog) w 22 a n cap0 (by kernel_rfl) .i64 (n:Int) (by omega) (by omega)).trans (by simp [go_sem];rfl)⟩
  have H:Aside (w.ownsRow B 35 32 (.slice a n cap0) n xs∧B≤w.heap.size∧n≤1000∧Has w ga (UARR .u8 32 h) 35):=⟨hown,hB,hn,hga⟩
  clear hown hB hn hga
  go_enter Tryz.func208,Tryz.ntmps208
  go_wp2_with (at_builtin;refine wpList_append_lies w rfl (.tmp 23) (.tmp 24) 22 rfl B 35 i _ 32 32 Tryz.underlying22 hi hz hs1 hby (by simp [Value.cells,z03]) (by decide) (.slice a n cap0) n xs rfl H.out.1 ⟨ga,0,none⟩ 1 1 (z05 .u8 32 h) rfl (by rw [z09]) (fun j u hj=>by rw [Addr.add_mid,H.out.2.2.2.cell,Nat.zero_add,z0I,List.getElem?_toArray];exact hj) (z3b _ _ _) (by decide) (by simp only [maxLen];have:=H.out.2.2.1;omega) (by have:=H.out.2.2.1;omega) H.out.2.1 w.heap.size rfl ?_;intro g cap w' r1 r2 r3 r4)
  go_ret
  exact ⟨g,cap,rfl,r1,r2,r3⟩
def RQL (q:Nat):List Value:=[.int .u64 (q:Int),.int .u64 0,.slice none 0 0]
def RQ (q:Nat):Array Value:=(RQL q).toArray
theorem za3 (q:Nat):∀ u∈RQL q,u.oneCell'=true:=fun u hu=>by
  simp [RQL] at hu
  rcases hu with rfl | rfl | rfl <;> rfl
set_option maxHeartbeats 1000000 in
theorem zaU (B ga n:Nat) (v:Value) (xs:List Value) (q:Nat) (w:World) (hown:w.ownsRow B 213 3 v n xs) (hB:B≤w.heap.size) (hn:n≤2 ^ 40) (hga:Has w ga (RQ q) 213):Calls Tryz.prog 206 #[v,.int .i64 (n:Int),.slice (some ⟨ga,0,none⟩) 1 1] w fun e w'=>
    ∃ g cap,e=.returned (.slice (some ⟨g,0,none⟩) (n+1) cap)∧w'.ownsRow B 213 3 (.slice (some ⟨g,0,none⟩) (n+1) cap) (n+1) (xs ++ RQL q)∧w.grownBy w' v.ownBlock∧(v.ownBlock=some g∨g=w.heap.size):=by
  obtain ⟨i,hi,hz,hs1,hby⟩:=info_parts z4q
  obtain ⟨a,cap0,rfl⟩:=z4r hown
  obtain ⟨X,hX⟩:∃ X,∀ w,(Instr.slice 205 (.slice a n cap0) (some (.int .i64 (n:Int))) none none).run Tryz.prog w=.ok X w:=⟨_,fun w=>(run_slice_l (P:=Tryz.prog) w 205 a n cap0 (by kernel_rfl) .i64 (n:Int) (by omega) (by omega)).trans (by simp [go_sem];rfl)⟩
  have H:Aside (w.ownsRow B 213 3 (.slice a n cap0) n xs∧B≤w.heap.size∧n≤2 ^ 40∧Has w ga (RQ q) 213):=⟨hown,hB,hn,hga⟩
  clear hown hB hn hga
  go_enter Tryz.func206,Tryz.ntmps206
  go_wp2_with (at_builtin;refine wpList_append_lies w rfl (.tmp 23) (.tmp 24) 205 rfl B 213 i _ 3 40 Tryz.underlying205 hi hz hs1 hby (by simp [Value.cells]) (by decide) (.slice a n cap0) n xs rfl H.out.1 ⟨ga,0,none⟩ 1 1 (RQL q) rfl rfl (fun j u hj=>by rw [Addr.add_mid,H.out.2.2.2.cell,Nat.zero_add,RQ,List.getElem?_toArray];exact hj) (za3 q) (by decide) (by simp only [maxLen];have:=H.out.2.2.1;omega) (by have:=H.out.2.2.1;omega) H.out.2.1 w.heap.size rfl ?_;intro g cap w' r1 r2 r3 r4)
  go_ret
  exact ⟨g,cap,rfl,r1,r2,r3⟩
end Go.Proofs.YtnmalbngdhjhjaaGreatDoor.HX
