/- Texts of SpanMakes, one behind the other: SpanRefNeeds, ManyRefNeeds, ManyNeedP, ManyFace, ManyFaceP, ManyPlacesCall, ManyRefPlaces, SpanRefPlaces, SpanMakesPlain, ManyStays2, ManyNeedE, ManyWritten, ManyWhole, ManyFaceE, ManyEncode, ManyTexts, ManyMix, ManyHashApp, ManyApartRegions, ManyAwake, ManyNumbers. -/
import Derived.Defers
import Derived.Recover
import Derived.Laws.AppendOwnNone
import Derived.Test.YtnmalbngdhjhjaaGreatDoorSpanMakesP36
namespace Go.Proofs.YtnmalbngdhjhjaaGreatDoor
open Go.RowKit
set_option maxRecDepth 100000
theorem z7k {F T h k:Nat} (e:APRT F T h k):NSP h k (SG F T h k)=[(h,k)]:=by rw [SG,zaB e,z3B]
theorem zeZ {F T h k:Nat} (e:¬ APRT F T (h+1) k):NSP (h+1) k (SG F T (h+1) k)=NSP h (2*k) (SG F T h (2*k)) ++ NSP h (2*k+1) (SG F T h (2*k+1)):=by
  obtain ⟨s1,s2⟩:=z8J F T h k
  have hne:SG F T (h+1) k≠[]:=z8H (Nat.lt_of_not_le e)
  cases hs:SG F T (h+1) k with
  | nil=>exact absurd hs hne
  | cons x l=>rw [NSP,← hs,s1,s2]
theorem z6j {F T h k:Nat} (e:z0O F T h k):NSP h k (SG F T h k)=[]:=by
  have h1:=z1g e
  rw [z34] at h1
  exact List.map_eq_nil_iff.1 h1
theorem zaD (F T h k:Nat):(NSP h k (SG F T h k)).length≤1+h*z0S F T h k:=by
  have h1:=z49 F T h k
  rw [z34,List.length_map] at h1
  exact h1
theorem z7l (F T h k:Nat):z0S F T h k≤2:=by
  unfold z0S
  (repeat' split) <;> omega
structure NUMS (h k A B:Nat) (z:Int):Prop where
  a:IntKind.u64.wrap ((k:Int)*z)=(A:Int)
  k1:IntKind.u64.wrap ((k:Int)+1)=((k+1:Nat):Int)
  b:IntKind.u64.wrap (((k+1:Nat):Int)*z)=(B:Int)
theorem z7m {h k:Nat} (hN:Node h k):NUMS h k (k*2 ^ h) ((k+1)*2 ^ h) ((2 ^ h:Nat):Int):=by
  have h1:(k+1)*2 ^ h≤2 ^ 62:=by
    have h2:(k+1)*2 ^ h≤2 ^ (62 - h)*2 ^ h:=Nat.mul_le_mul_right _ hN.2
    rw [← Nat.pow_add,show 62 - h+h=62 by have:=hN.1;omega] at h2
    exact h2
  have h3:k*2 ^ h≤(k+1)*2 ^ h:=Nat.mul_le_mul_right _ (by omega)
  have h4:k+1≤(k+1)*2 ^ h:=Nat.le_mul_of_pos_right _ (Nat.two_pow_pos h)
  refine ⟨?_,?_,?_⟩
  · rw [← Int.natCast_mul,z0a];generalize k*2 ^ h=A at *;omega
  · rw [z0a];omega
  · rw [← Int.natCast_mul,z0a];generalize (k+1)*2 ^ h=B at *;omega
set_option maxHeartbeats 2000000 in
theorem z4K (h k F T:Nat) (hN:Node h k) (w:World):Calls Tryz.prog 105 #[SPOT h k,.int .u64 (F:Int),.int .u64 (T:Int)] w fun e w'=>e=.returned (.bool (decide (¬ APRT F T h k)))∧Below w.heap.size w w':=by
  have cp:=z15 h (by have:=hN.1;omega)
  have hm:wrap64 (h:Int)=(h:Int):=by have:=hN.1;unfold wrap64;omega
  obtain ⟨n1,n2,n3⟩:=z7m hN
  obtain ⟨r,hr⟩:∃ r,decide (¬ APRT F T h k)=r:=⟨_,rfl⟩
  have hlt:k*2 ^ h<(k+1)*2 ^ h:=by
    have:k*2 ^ h+2 ^ h=(k+1)*2 ^ h:=by rw [Nat.add_mul,Nat.one_mul]
    have:=Nat.two_pow_pos h
    omega
  unfold APRT at hr
  rw [hr]
  generalize k*2 ^ h=A at *
  generalize (k+1)*2 ^ h=B at *
  have g:(¬ (F:Int)<(T:Int)∧r=false)∨((F:Int)<(T:Int)∧¬ (A:Int)<(T:Int)∧r=false)∨((F:Int)<(T:Int)∧(A:Int)<(T:Int)∧¬ (F:Int)<(B:Int)∧r=false)∨((F:Int)<(T:Int)∧(A:Int)<(T:Int)∧(F:Int)<(B:Int)∧r=true):=by
    by_cases h1:F<T
    · by_cases h2:A<T
      · by_cases h3:F<B
        · exact .inr (.inr (.inr ⟨by omega,by omega,by omega,by rw [← hr];exact decide_eq_true (by omega)⟩))
        · exact .inr (.inr (.inl ⟨by omega,by omega,by omega,by rw [← hr];exact decide_eq_false (by omega)⟩))
      · exact .inr (.inl ⟨by omega,by omega,by rw [← hr];exact decide_eq_false (by omega)⟩)
    · exact .inl ⟨by omega,by rw [← hr];exact decide_eq_false (by omega)⟩
  clear hr hlt hN
  obtain ⟨w1,e1⟩:∃ w1,w.alloc (.cells #[.int .u8 (h:Int),.int .u64 (k:Int)] 104)=w1:=⟨_,rfl⟩
  have hB:Has w1 w.heap.size #[.int .u8 (h:Int),.int .u64 (k:Int)] 104:=by rw [← e1];exact Has.new w _ _
  have hb1:Below w.heap.size w w1:=by rw [← e1];exact (Below.refl _ _).alloc (Nat.le_refl _) _
  have c0:=hB.cell 0
  have c1:=hB.cell 1
  have HB:Aside (Below w.heap.size w w1):=hb1
  clear hB hb1
  generalize ((2 ^ h:Nat):Int)=z at *
  generalize hk1:((k+1:Nat):Int)=k1 at *
  clear hk1
  have hS:SPOT h k=.agg #[.int .u8 (h:Int),.int .u64 (k:Int)]:=rfl
  rcases g with ⟨g1,rfl⟩ | ⟨g1,g2,rfl⟩ | ⟨g1,g2,g3,rfl⟩ | ⟨g1,g2,g3,rfl⟩
  all_goals
    go_enter Tryz.func105,Tryz.ntmps105
    rw [hS]
    go_wp2_with fail
    refine (cp _).mono ?_
    rintro e w' ⟨rfl,rfl⟩
    clear cp hm
    go_wp2_with fail
    go_ret
    exact ⟨by first | rfl | exact congrArg (fun b=>Ending.returned (.bool b)) (decide_eq_false (by omega)) | exact congrArg (fun b=>Ending.returned (.bool b)) (decide_eq_true (by omega)),HB.out⟩
set_option maxHeartbeats 2000000 in
theorem z6k (h k F T:Nat) (hN:Node h k) (w:World):Calls Tryz.prog 106 #[SPOT h k,.int .u64 (F:Int),.int .u64 (T:Int)] w fun e w'=>e=.returned (.bool (decide (z0O F T h k)))∧Below w.heap.size w w':=by
  have cp:=z15 h (by have:=hN.1;omega)
  have hm:wrap64 (h:Int)=(h:Int):=by have:=hN.1;unfold wrap64;omega
  obtain ⟨n1,n2,n3⟩:=z7m hN
  obtain ⟨r,hr⟩:∃ r,decide (z0O F T h k)=r:=⟨_,rfl⟩
  unfold z0O at hr
  rw [hr]
  generalize k*2 ^ h=A at *
  generalize (k+1)*2 ^ h=B at *
  have g:(¬ (F:Int)≤(A:Int)∧r=false)∨((F:Int)≤(A:Int)∧¬ (B:Int)≤(T:Int)∧r=false)∨((F:Int)≤(A:Int)∧(B:Int)≤(T:Int)∧r=true):=by
    by_cases h1:F≤A
    · by_cases h2:B≤T
      · exact .inr (.inr ⟨by omega,by omega,by rw [← hr];exact decide_eq_true ⟨h1,h2⟩⟩)
      · exact .inr (.inl ⟨by omega,by omega,by rw [← hr];exact decide_eq_false fun h=>h2 h.2⟩)
    · exact .inl ⟨by omega,by rw [← hr];exact decide_eq_false fun h=>h1 h.1⟩
  clear hr hN
  obtain ⟨w1,e1⟩:∃ w1,w.alloc (.cells #[.int .u8 (h:Int),.int .u64 (k:Int)] 104)=w1:=⟨_,rfl⟩
  have hB:Has w1 w.heap.size #[.int .u8 (h:Int),.int .u64 (k:Int)] 104:=by rw [← e1];exact Has.new w _ _
  have hb1:Below w.heap.size w w1:=by rw [← e1];exact (Below.refl _ _).alloc (Nat.le_refl _) _
  have c0:=hB.cell 0
  have c1:=hB.cell 1
  have HB:Aside (Below w.heap.size w w1):=hb1
  clear hB hb1
  generalize ((2 ^ h:Nat):Int)=z at *
  generalize hk1:((k+1:Nat):Int)=k1 at *
  clear hk1
  have hS:SPOT h k=.agg #[.int .u8 (h:Int),.int .u64 (k:Int)]:=rfl
  rcases g with ⟨g1,rfl⟩ | ⟨g1,g2,rfl⟩ | ⟨g1,g2,rfl⟩
  all_goals
    go_enter Tryz.func106,Tryz.ntmps106
    rw [hS]
    go_wp2_with fail
    refine (cp _).mono ?_
    rintro e w' ⟨rfl,rfl⟩
    clear cp hm
    go_wp2_with fail
    go_ret
    exact ⟨by first | rfl | exact congrArg (fun b=>Ending.returned (.bool b)) (decide_eq_false (by omega)) | exact congrArg (fun b=>Ending.returned (.bool b)) (decide_eq_true (by omega)),HB.out⟩
def z2v (w:World) (l:List (Nat × Nat)) (e:Ending) (w':World):Prop:=∃ a c,e=.returned (.slice a l.length c)∧w'.ownsRow w.heap.size 104 2 (.slice a l.length c) l.length (z0g l)∧Below w.heap.size w w'
set_option maxHeartbeats 2000000 in
theorem z4L (h k F T:Nat) (hN:Node h k) (e:APRT F T h k) (w:World):
    Calls Tryz.prog 59 #[SPOT h k,.int .u64 (F:Int),.int .u64 (T:Int)] w (z2v w [(h,k)]):=by
  obtain ⟨w1,e1⟩:∃ w1,w.alloc (.cells #[.int .u8 (h:Int),.int .u64 (k:Int)] 104)=w1:=⟨_,rfl⟩
  have hB:Has w1 w.heap.size #[.int .u8 (h:Int),.int .u64 (k:Int)] 104:=by rw [← e1];exact Has.new w _ _
  have hb1:Below w.heap.size w w1:=by rw [← e1];exact (Below.refl _ _).alloc (Nat.le_refl _) _
  have cu:=z4K h k F T hN w1
  rw [decide_eq_false (fun h=>h e)] at cu
  have HA:Aside (Has w1 w.heap.size #[.int .u8 (h:Int),.int .u64 (k:Int)] 104∧Below w.heap.size w w1):=⟨hB,hb1⟩
  have x0:=hB.cell 0
  have x1:=hB.cell 1
  clear hN e hB hb1
  unfold SPOT at *
  go_enter Tryz.func59,Tryz.ntmps59
  go_wp2_with fail
  refine cu.mono ?_
  rintro e w2 ⟨rfl,hb2⟩
  have k2:=HA.out.1.keep hb2
  have x0:=k2.cell 0
  have x1:=k2.cell 1
  have FN:Aside (Below w.heap.size w w2):=HA.out.2.trans (hb2.mono HA.out.2.size)
  clear cu hb2 k2 HA e1
  go_wp2_with fail
  go_ret
  exact ⟨_,_,rfl,z0s (zdb w2 h k) FN.out.size,FN.out.alloc FN.out.size _⟩
set_option maxHeartbeats 2000000 in
theorem z4g (h k F T:Nat) (hN:Node h k) (e:z0O F T h k) (w:World):
    Calls Tryz.prog 59 #[SPOT h k,.int .u64 (F:Int),.int .u64 (T:Int)] w (z2v w []):=by
  obtain ⟨w1,e1⟩:∃ w1,w.alloc (.cells #[.int .u8 (h:Int),.int .u64 (k:Int)] 104)=w1:=⟨_,rfl⟩
  have hB:Has w1 w.heap.size #[.int .u8 (h:Int),.int .u64 (k:Int)] 104:=by rw [← e1];exact Has.new w _ _
  have hb1:Below w.heap.size w w1:=by rw [← e1];exact (Below.refl _ _).alloc (Nat.le_refl _) _
  have cu:=z4K h k F T hN w1
  rw [decide_eq_true (z2F e)] at cu
  have cw:=fun w=>z6k h k F T hN w
  rw [decide_eq_true e] at cw
  have HA:Aside (Has w1 w.heap.size #[.int .u8 (h:Int),.int .u64 (k:Int)] 104∧Below w.heap.size w w1):=⟨hB,hb1⟩
  have x0:=hB.cell 0
  have x1:=hB.cell 1
  clear hN e hB hb1
  unfold SPOT at *
  go_enter Tryz.func59,Tryz.ntmps59
  go_wp2_with fail
  refine cu.mono ?_
  rintro e w2 ⟨rfl,hb2⟩
  have k2:=HA.out.1.keep hb2
  have x0:=k2.cell 0
  have x1:=k2.cell 1
  have FN:Aside (Below w.heap.size w w2):=HA.out.2.trans (hb2.mono HA.out.2.size)
  clear cu hb2 k2 HA e1
  go_wp2_with fail
  refine (cw w2).mono ?_
  rintro e w3 ⟨rfl,hb3⟩
  have F2:Aside (Below w.heap.size w w3):=FN.out.trans (hb3.mono FN.out.size)
  clear cw hb3 FN x0 x1
  go_wp2_with fail
  go_ret
  exact ⟨none,0,rfl,⟨rfl,.inl ⟨rfl,rfl⟩⟩,F2.out⟩
set_option maxHeartbeats 4000000 in
theorem z9N (h k F T:Nat) (hN:Node (h+1) k) (e:¬ APRT F T (h+1) k) (e':¬ z0O F T (h+1) k) (w:World)
    (ih:∀ (k:Nat),Node h k→∀ (w:World),Calls Tryz.prog 59 #[SPOT h k,.int .u64 (F:Int),.int .u64 (T:Int)] w (z2v w (NSP h k (SG F T h k)))):
    Calls Tryz.prog 59 #[SPOT (h+1) k,.int .u64 (F:Int),.int .u64 (T:Int)] w (z2v w (NSP (h+1) k (SG F T (h+1) k))):=by
  rw [zeZ e]
  obtain ⟨w1,e1⟩:∃ w1,w.alloc (.cells #[.int .u8 ((h+1:Nat):Int),.int .u64 (k:Int)] 104)=w1:=⟨_,rfl⟩
  have hB:Has w1 w.heap.size #[.int .u8 ((h+1:Nat):Int),.int .u64 (k:Int)] 104:=by rw [← e1];exact Has.new w _ _
  have hb1:Below w.heap.size w w1:=by rw [← e1];exact (Below.refl _ _).alloc (Nat.le_refl _) _
  have cu:=z4K (h+1) k F T hN w1
  rw [decide_eq_true e] at cu
  have cw:=fun w=>z6k (h+1) k F T hN w
  rw [decide_eq_false e'] at cw
  obtain ⟨hNl,hNr⟩:=hN.kid
  have m1:=zaD F T h (2*k)
  have m2:=zaD F T h (2*k+1)
  have q1:=z7l F T h (2*k)
  have q2:=z7l F T h (2*k+1)
  have hh62:=hN.1
  have hk62:=hN.2
  have hp62:2 ^ (62 - (h+1))≤2 ^ 62:=Nat.pow_le_pow_right (by decide) (by omega)
  have s1:h*z0S F T h (2*k)≤62*2:=Nat.mul_le_mul (by omega) q1
  have s2:h*z0S F T h (2*k+1)≤62*2:=Nat.mul_le_mul (by omega) q2
  have IH1:Aside (∀ W,Calls Tryz.prog 59 #[.agg #[.int .u8 (h:Int),.int .u64 ((2*k:Nat):Int)],.int .u64 (F:Int),.int .u64 (T:Int)] W (z2v W (NSP h (2*k) (SG F T h (2*k))))):=fun W=>ih (2*k) hNl W
  have IH2:Aside (∀ W,Calls Tryz.prog 59 #[.agg #[.int .u8 (h:Int),.int .u64 ((2*k+1:Nat):Int)],.int .u64 (F:Int),.int .u64 (T:Int)] W (z2v W (NSP h (2*k+1) (SG F T h (2*k+1))))):=fun W=>ih (2*k+1) hNr W
  generalize NSP h (2*k) (SG F T h (2*k))=A at *
  generalize NSP h (2*k+1) (SG F T h (2*k+1))=B at *
  have ew1:IntKind.u8.wrap (((h+1:Nat):Int) - 1)=(h:Int):=by
    show (((h+1:Nat):Int) - 1) % 256=(h:Int)
    omega
  have ew2:IntKind.u64.wrap (2*(k:Int))=((2*k:Nat):Int):=by rw [z0a];omega
  have ew3:IntKind.u64.wrap (((2*k:Nat):Int)+1)=((2*k+1:Nat):Int):=by rw [z0a];omega
  have HA:Aside (Has w1 w.heap.size #[.int .u8 ((h+1:Nat):Int),.int .u64 (k:Int)] 104∧Below w.heap.size w w1∧A.length+B.length≤2 ^ 26):=⟨hB,hb1,by omega⟩
  have EW:Aside (IntKind.u8.wrap (((h+1:Nat):Int) - 1)=(h:Int)∧IntKind.u64.wrap (2*(k:Int))=((2*k:Nat):Int)∧IntKind.u64.wrap (((2*k:Nat):Int)+1)=((2*k+1:Nat):Int)):=⟨ew1,ew2,ew3⟩
  have hS:SPOT (h+1) k=.agg #[.int .u8 ((h+1:Nat):Int),.int .u64 (k:Int)]:=rfl
  have x0:=hB.cell 0
  have x1:=hB.cell 1
  rw [hS] at *
  clear e e' hB hb1 hNl hNr m1 m2 q1 q2 hk62 hh62 hp62 s1 s2 ih hN ew3
  generalize h+1=H at *
  generalize 2*k=k2 at *
  generalize k2+1=k3 at *
  go_enter Tryz.func59,Tryz.ntmps59
  go_wp2_with fail
  refine cu.mono ?_
  rintro e w2 ⟨rfl,hb2⟩
  have k2h:=HA.out.1.keep hb2
  have x0:=k2h.cell 0
  have x1:=k2h.cell 1
  have N2:Aside (Has w2 w.heap.size #[.int .u8 (H:Int),.int .u64 (k:Int)] 104∧Below w.heap.size w w2):=⟨k2h,HA.out.2.1.trans (hb2.mono HA.out.2.1.size)⟩
  clear cu hb2 k2h e1
  go_wp2_with fail
  refine (cw w2).mono ?_
  rintro e w3 ⟨rfl,hb3⟩
  have k3h:=N2.out.1.keep hb3
  have x0:=k3h.cell 0
  have x1:=k3h.cell 1
  have N3:Aside (Has w3 w.heap.size #[.int .u8 (H:Int),.int .u64 (k:Int)] 104∧Below w.heap.size w w3):=⟨k3h,N2.out.2.trans (hb3.mono N2.out.2.size)⟩
  have c1:=IH1.out w3
  clear cw hb3 k3h N2 IH1
  go_wp2_with fail
  refine c1.mono ?_
  rintro e w4 ⟨a4,c4,rfl,hown4,hb4⟩
  have N4:Aside (Has w4 w.heap.size #[.int .u8 (H:Int),.int .u64 (k:Int)] 104∧Below w.heap.size w w4∧w4.ownsRow w3.heap.size 104 2 (.slice a4 A.length c4) A.length (z0g A)):=⟨N3.out.1.keep hb4,N3.out.2.trans (hb4.mono N3.out.2.size),hown4⟩
  clear c1 hown4 hb4 N3 x0 x1 ew1 ew2
  go_upto_region 6 with fail
  refine zga w4 w.heap.size H h k k2 k3 F T w3.heap.size a4 A.length c4 B.length A B N4.out.1.lt (N4.out.1.cell 0) (N4.out.1.cell 1) EW.out.1 EW.out.2.1 EW.out.2.2 N4.out.2.2 HA.out.2.2 (fun W hb=>IH2.out W) (fun _ _ _ _ _ h=>h) ?_
  intro z a5 q5 a6 q6 a7 q7 w5 ⟨hb5,hown5⟩
  have FN:Aside (z2v w (A ++ B) (.returned (.slice a7 (A.length+B.length) q7)) w5):=⟨a7,q7,by rw [List.length_append],by rw [List.length_append];exact z0s hown5 N4.out.2.1.size,N4.out.2.1.trans (hb5.mono N4.out.2.1.size)⟩
  clear hb5 hown5 N4 IH2 EW HA
  dsimp only
  go_wp2_with fail
  go_ret
  exact FN.out
theorem zdd (F T:Nat):∀ (h k:Nat),Node h k→∀ (w:World),Calls Tryz.prog 59 #[SPOT h k,.int .u64 (F:Int),.int .u64 (T:Int)] w (z2v w (NSP h k (SG F T h k))):=by
  intro h
  induction h with
  | zero=>
    intro k hN w
    by_cases e:APRT F T 0 k
    · rw [z7k e]
      exact z4L 0 k F T hN e w
    · rw [z6j (z29 e)]
      exact z4g 0 k F T hN (z29 e) w
  | succ h ih=>
    intro k hN w
    by_cases e:APRT F T (h+1) k
    · rw [z7k e]
      exact z4L (h+1) k F T hN e w
    · by_cases e':z0O F T (h+1) k
      · rw [z6j e']
        exact z4g (h+1) k F T hN e' w
      · exact z9N h k F T hN e e' w ih
end Go.Proofs.YtnmalbngdhjhjaaGreatDoor

namespace Go.Proofs.YtnmalbngdhjhjaaGreatDoor
open Go.RowKit
set_option maxRecDepth 100000
end Go.Proofs.YtnmalbngdhjhjaaGreatDoor

namespace Go.Proofs.YtnmalbngdhjhjaaGreatDoor
open Go.RowKit
set_option maxRecDepth 100000
end Go.Proofs.YtnmalbngdhjhjaaGreatDoor

namespace Go.Proofs.YtnmalbngdhjhjaaGreatDoor
open Go.RowKit
set_option maxRecDepth 100000
end Go.Proofs.YtnmalbngdhjhjaaGreatDoor

namespace Go.Proofs.YtnmalbngdhjhjaaGreatDoor
open Go.RowKit
set_option maxRecDepth 100000
end Go.Proofs.YtnmalbngdhjhjaaGreatDoor

namespace Go.Proofs.YtnmalbngdhjhjaaGreatDoor
open Go.RowKit
set_option maxRecDepth 100000
end Go.Proofs.YtnmalbngdhjhjaaGreatDoor

namespace Go.Proofs.YtnmalbngdhjhjaaGreatDoor
open Go.RowKit
set_option maxRecDepth 100000
theorem zde {ops:Array Oper} {rest:List Oper} {o:Oper} {a:Act} {Q:Exit→Act→World→Prop} (w:World) (hgd:o.guard=none) (s x:Operand)
    (ho:o.op=.call {callee:=.builtin .append,args:=#[s,x],argTypes:=#[23,23]})
    (base:Nat) (v:Value) (n:Nat) (xs:List Nat) (hs:a.eval s=v) (hown:w.ownsRow base 24 1 v n (z0k xs))
    (b c:Nat) (y:Nat) (hx:a.eval x=.slice (some ⟨b,0,none⟩) 1 c) (hc:w.cell? ⟨b,0,none⟩=some (.int .u64 (y:Int)))
    (hb:n≤2 ^ 30) (hbase:base≤w.heap.size)
    (h:∀ g cap w',w'.ownsRow base 24 1 (.slice (some ⟨g,0,none⟩) (n+1) cap) (n+1) (z0k (xs ++ [y]))→w.grownBy w' v.ownBlock→(v.ownBlock=some g∨g=w.heap.size)→g<w'.heap.size→wpList Tryz.prog ops Q rest (a.put o.dst (.slice (some ⟨g,0,none⟩) (n+1) cap)) w'):wpList Tryz.prog ops Q (o :: rest) a w:=by
  obtain ⟨i,hi,hz,hs1,hby⟩:=info_parts z1F
  refine wpList_append_lies w hgd s x 23 ho base 24 i (.int .u64 0) 1 8 Tryz.underlying23 hi hz hs1 hby rfl (by decide) v n (z0k xs) hs hown ⟨b,0,none⟩ 1 c [.int .u64 (y:Int)] hx rfl ?_ (fun u hu=>by simp at hu;subst hu;rfl) (by decide) (by simp only [maxLen];omega) (by omega) hbase w.heap.size rfl ?_
  · intro j u hj
    cases j with
    | zero=>
      simp only [List.getElem?_cons_zero,Option.some.injEq] at hj
      subst hj
      exact hc
    | succ j=>simp at hj
  · intro g cap w' h1 h2 h3 h4
    rw [← z2p] at h1
    exact h g cap w' h1 h2 h3 h4
end Go.Proofs.YtnmalbngdhjhjaaGreatDoor

namespace Go.Proofs.YtnmalbngdhjhjaaGreatDoor
open Go.RowKit
set_option maxRecDepth 100000
def SPS (F T N i:Nat):List (Nat × Nat):=((TPS N).take i).flatMap fun s=>NSP s.1 s.2 (SG F T s.1 s.2)
theorem zf0 {F T N i h k:Nat} (e:(TPS N)[i]?=some (h,k)):SPS F T N (i+1)=SPS F T N i ++ NSP h k (SG F T h k):=by
  unfold SPS
  rw [List.take_add_one,e,List.flatMap_append]
  simp
theorem z8N (F T:Nat):∀ ps:List (Nat × Nat),(ps.map fun s=>NEED s.1 s.2 (SG F T s.1 s.2)).flatten=(ps.flatMap fun s=>NSP s.1 s.2 (SG F T s.1 s.2)).map SPL
  | []=>rfl
  | s :: ps=>by rw [List.map_cons,List.flatten_cons,List.flatMap_cons,List.map_append,← z8N F T ps,z34]
theorem z6K {F T N i:Nat} (hN:N≤4611686018427387904) (hT:T≤N) (hi:(TPS N).length≤i):SPP F T N=(SPS F T N i).map SPL:=by
  rw [z5G hN hT,z8N,SPS,List.take_of_length_le hi]
theorem zgb {F T N:Nat} (hN:N≤4611686018427387904) (hT:T≤N) (i:Nat):(SPS F T N i).length≤188:=by
  have h1:=z6J (F:=F) hN hT
  rw [z6K hN hT (Nat.le_refl _),List.length_map] at h1
  unfold SPS at h1 ⊢
  rw [List.take_length] at h1
  have h2:((TPS N).flatMap fun s=>NSP s.1 s.2 (SG F T s.1 s.2)).length=(((TPS N).take i).flatMap fun s=>NSP s.1 s.2 (SG F T s.1 s.2)).length+(((TPS N).drop i).flatMap fun s=>NSP s.1 s.2 (SG F T s.1 s.2)).length:=by
    rw [← List.length_append,← List.flatMap_append,List.take_append_drop]
  omega
set_option maxHeartbeats 4000000 in
theorem z7v (F T N:Nat) (w:World):Calls Tryz.prog 13 #[.int .u64 (F:Int),.int .u64 (T:Int),.int .u64 (N:Int)] w (z35 w (SPE F T N) (SPA F T N)):=by
  rcases z3m F T N with ⟨e1,e2,h⟩ | ⟨e1,e2,h,h'⟩ | ⟨e1,e2,hN,hF,hTN⟩
  · rw [e1,e2]
    have g1:(4611686018427387904:Int)<(N:Int):=by omega
    clear h e1 e2
    go_enter Tryz.func13,Tryz.ntmps13
    go_wp2
    go_ret2
    exact ⟨none,0,rfl,z2G _ _,Below.refl _ _⟩
  · rw [e1,e2]
    have g1:¬ (4611686018427387904:Int)<(N:Int):=by omega
    have g2:(T:Int)<(F:Int)∨(¬ (T:Int)<(F:Int)∧(N:Int)<(T:Int)):=by omega
    clear h h' e1 e2
    rcases g2 with g2 | ⟨g2,g3⟩
    all_goals
      go_enter Tryz.func13,Tryz.ntmps13
      go_wp2
      go_ret2
      exact ⟨none,0,rfl,z2G _ _,Below.refl _ _⟩
  · rw [e1, e2]
    have g1:¬ (4611686018427387904:Int)<(N:Int):=by omega
    have g2:¬ (T:Int)<(F:Int):=by omega
    have g3:¬ (N:Int)<(T:Int):=by omega
    have ct:=zbo N hN w
    have hPC:PC N≤64:=z3f 64 N (by omega)
    have hlen:=z2D (n:=N) (by omega)
    have hsp:∀ s∈TPS N,s.1≤62∧Node s.1 s.2:=fun s hs=>⟨(z48 (n:=N) (by omega) (h:=s.1) (k:=s.2) hs).1,(z48 (n:=N) (by omega) (h:=s.1) (k:=s.2) hs).2.2⟩
    have HT:Aside (N≤4611686018427387904∧PC N≤64∧(TPS N).length=PC N∧(∀ s∈TPS N,s.1≤62∧Node s.1 s.2)∧T≤N):=⟨hN,hPC,hlen,hsp,hTN⟩
    have HP:Aside (SPP F T N=(SPS F T N (PC N)).map SPL):=z6K hN hTN (by rw [hlen];exact Nat.le_refl _)
    obtain ⟨PP,hPP⟩:∃ PP,SPP F T N=PP:=⟨_,rfl⟩
    rw [hPP] at HP ⊢
    clear hN hF hTN hPC hlen hsp e1 e2 hPP
    go_enter Tryz.func13,Tryz.ntmps13
    go_wp2_with fail
    refine ct.mono ?_
    rintro e w1 ⟨ag,cg,rfl,hsp,hb1⟩
    have R1:Aside (Spots w1 ag (TPS N)∧Below w.heap.size w w1):=⟨hsp,hb1⟩
    obtain ⟨M,hM⟩:∃ M,PC N=M:=⟨_,rfl⟩
    rw [hM] at HP ⊢
    have HM:Aside (PC N=M):=hM
    clear ct hsp hb1 hM
    go_wp2_with fail
    go_loopg [8,10] M (fun q s8 s10 wx=>∃ (i:Nat) (v:Value),v=s8∧s10=.int .i64 (i:Int)∧Aside (i+q=M∧wx.ownsRow w1.heap.size 24 1 v (SPS F T N i).length (z0k ((SPS F T N i).map SPL))∧Below w1.heap.size w1 wx))
    case atStart=>exact ⟨0,_,rfl,rfl,by omega,⟨rfl,.inl ⟨rfl,rfl⟩⟩,Below.refl _ _⟩
    case round=>
      obtain ⟨i,v,rfl,rfl,A⟩:=hrel
      obtain ⟨av,cv,rfl⟩:=z2a A.out.2.1
      cases gk with
      | zero=>
        obtain rfl:i=M:=by have:=A.out.1;omega
        have hlt2:¬ (i:Int)<(i:Int):=by omega
        have FN:Aside (z35 w 0 PP (.returned (.tuple #[.slice av (SPS F T N i).length cv,.int .i64 0])) wr):=by
          obtain ⟨_,h2,h3⟩:=A.out
          rw [HP.out]
          refine ⟨av,cv,by rw [List.length_map],?_,R1.out.2.trans (h3.mono R1.out.2.size)⟩
          rw [List.length_map]
          exact z0s h2 R1.out.2.size
        clear A R1 HT HM HP
        go_wp2_with fail
        go_ret2
        exact FN.out
      | succ q=>
        have hiM:i<M:=by have:=A.out.1;omega
        have hlt2:(i:Int)<(M:Int):=by omega
        obtain ⟨⟨h,k⟩,ehk⟩:∃ s,(TPS N)[i]?=some s:=⟨_,List.getElem?_eq_getElem (by rw [HT.out.2.2.1,HM.out];exact hiM)⟩
        obtain ⟨g,rfl,hg,hc⟩:=R1.out.1 (by rw [HT.out.2.2.1,HM.out];omega)
        have x0:wr.cell? ⟨g,i*2,none⟩=some (.int .u8 (h:Int)):=(A.out.2.2.cell (p:=⟨g,i*2,none⟩) hg).trans (hc i h k ehk).1
        have x1:wr.cell? ⟨g,i*2+1,none⟩=some (.int .u64 (k:Int)):=(A.out.2.2.cell (p:=⟨g,i*2+1,none⟩) hg).trans (hc i h k ehk).2
        have hnd:=HT.out.2.2.2.1 (h,k) (List.mem_of_getElem? ehk)
        have cn:=zdd F T h k hnd.2 wr
        have ei:wrap64 ((i:Int)+1)=((i+1:Nat):Int):=by have:=HT.out.2.1;have:=HM.out;unfold wrap64;omega
        have hst:=zf0 (F:=F) (T:=T) ehk
        have hfew:(SPS F T N i).length+(NSP h k (SG F T h k)).length≤188:=by
          rw [← List.length_append,← hst]
          exact zgb HT.out.1 HT.out.2.2.2.2 (i+1)
        have hnodes:∀ s∈NSP h k (SG F T h k),Node s.1 s.2:=z5I h k _ hnd.2
        obtain ⟨P,hP⟩:∃ P,SPS F T N i=P:=⟨_,rfl⟩
        obtain ⟨B,hB⟩:∃ B,NSP h k (SG F T h k)=B:=⟨_,rfl⟩
        rw [hP,hB] at hst hfew
        rw [hB] at cn hnodes
        have R:Aside (i+1+q=M∧wr.ownsRow w1.heap.size 24 1 (.slice av P.length cv) P.length (z0k (P.map SPL))∧Below w1.heap.size w1 wr∧P.length+B.length≤188∧(∀ s∈B,Node s.1 s.2)∧SPS F T N (i+1)=P ++ B):=⟨by have:=A.out.1;clear ei;omega,by rw [← hP];exact A.out.2.1,A.out.2.2,hfew,hnodes,hst⟩
        have hS:SPOT h k=.agg #[.int .u8 (h:Int),.int .u64 (k:Int)]:=rfl
        rw [hS] at cn
        rw [hP]
        clear A hst hfew hnodes hP hB hnd hc hiM ehk hS
        go_wp2_with fail
        refine cn.mono ?_
        rintro e w2 ⟨ab,cb,rfl,hownB,hb2⟩
        have R2:Aside (w2.ownsRow w1.heap.size 24 1 (.slice av P.length cv) P.length (z0k (P.map SPL))∧Below w1.heap.size w1 w2∧w2.ownsRow wr.heap.size 104 2 (.slice ab B.length cb) B.length (z0g B)):=⟨z0b R.out.2.1 hb2,R.out.2.2.1.trans (hb2.mono R.out.2.2.1.size),hownB⟩
        clear cn hownB hb2 x0 x1
        go_wp2_with fail
        have AP:Aside (∀ g,(Value.slice av P.length cv).ownBlock=some g→(Value.slice ab B.length cb).ownBlock≠some g):=fun g e1 e2=>by
          have h1:=(R.out.2.1.lt g e1).2
          have h2:=(R2.out.2.2.lt g e2).1
          omega
        have RB:Aside (w2.ownsRow w1.heap.size 104 2 (.slice ab B.length cb) B.length (z0g B)):=z0s R2.out.2.2 R.out.2.2.1.size
        obtain ⟨u,hu⟩:∃ u,P.length=u:=⟨_,rfl⟩
        obtain ⟨nb,hnb⟩:∃ nb,B.length=nb:=⟨_,rfl⟩
        rw [hu] at R R2 AP
        rw [hnb] at R R2 AP RB
        rw [hu,hnb]
        have HB:Aside (B.length=nb∧P.length=u):=⟨hnb,hu⟩
        clear hnb hu
        go_wp2_with fail
        go_loopg [8,12] nb (fun q2 s8 s12 wx=>∃ (y:Nat) (v:Value),v=s8∧s12=.int .i64 (y:Int)∧Aside (y+q2=nb∧wx.ownsRow w1.heap.size 24 1 v (u+y) (z0k ((P ++ B.take y).map SPL))∧Below w1.heap.size w1 wx∧wx.ownsRow w1.heap.size 104 2 (.slice ab nb cb) nb (z0g B)∧(∀ g,v.ownBlock=some g→(Value.slice ab nb cb).ownBlock≠some g)))
        case atStart=>exact ⟨0,_,rfl,rfl,by omega,by simpa using R2.out.1,R2.out.2.1,RB.out,AP.out⟩
        case round =>
          obtain ⟨y,v,rfl,rfl,A⟩:=hrel
          clear R2 AP RB
          cases gk with
          | zero=>
            obtain rfl:y=nb:=by have:=A.out.1;omega
            have hlt3:¬ (y:Int)<(y:Int):=by omega
            have Z:Aside (i+1+q=M∧wr.ownsRow w1.heap.size 24 1 v (SPS F T N (i+1)).length (z0k ((SPS F T N (i+1)).map SPL))∧Below w1.heap.size w1 wr):=by
              obtain ⟨_,h2,h3,_⟩:=A.out
              rw [List.take_of_length_le (by have:=HB.out.1;omega)] at h2
              rw [R.out.2.2.2.2.2,List.length_append,HB.out.1,HB.out.2]
              exact ⟨R.out.1,h2,h3⟩
            clear A R HB
            go_wp2_with fail
            go_roundg q
            case measure=>exact Nat.lt_succ_self _
            case rel=>exact ⟨i+1,_,rfl,by first | rfl | (rw [ei]),Z.out⟩
          | succ q2=>
            have hyn:y<nb:=by have:=A.out.1;omega
            have hlt3:(y:Int)<(nb:Int):=by omega
            obtain ⟨⟨h2,k2⟩,eh2⟩:∃ s,B[y]?=some s:=⟨_,List.getElem?_eq_getElem (by have:=HB.out.1;omega)⟩
            obtain ⟨g2,rfl⟩:∃ g,ab=some ⟨g,0,none⟩:=by
              rcases A.out.2.2.2.1.2 with ⟨e,h0⟩ | ⟨g,_,_,e,_⟩
              · omega
              · cases e;exact ⟨g,rfl⟩
            have hs2:=z4D B y h2 k2 eh2
            have y0:wr.cell? ⟨g2,y*2,none⟩=some (.int .u8 (h2:Int)):=(A.out.2.2.2.1.cellAt (y*2) (by omega)).trans hs2.1
            have y1:wr.cell? ⟨g2,y*2+1,none⟩=some (.int .u64 (k2:Int)):=(A.out.2.2.2.1.cellAt (y*2+1) (by omega)).trans hs2.2
            have cp:=fun w=>z3p h2 k2 (R.out.2.2.2.2.1 (h2,k2) (List.mem_of_getElem? eh2)) w
            have ey:wrap64 ((y:Int)+1)=((y+1:Nat):Int):=by have:=R.out.2.2.2.1;unfold wrap64;omega
            have ht:(P ++ B.take (y+1)).map SPL=(P ++ B.take y).map SPL ++ [PLC h2 k2]:=by
              rw [List.take_add_one,eh2]
              simp [SPL]
            have R3:Aside (y+1+q2=nb∧wr.ownsRow w1.heap.size 24 1 v (u+y) (z0k ((P ++ B.take y).map SPL))∧Below w1.heap.size w1 wr∧wr.ownsRow w1.heap.size 104 2 (.slice (some ⟨g2,0,none⟩) nb cb) nb (z0g B)∧(∀ g,v.ownBlock=some g→(Value.slice (some ⟨g2,0,none⟩) nb cb).ownBlock≠some g)∧u+y≤2 ^ 30∧(P ++ B.take (y+1)).map SPL=(P ++ B.take y).map SPL ++ [PLC h2 k2]):=⟨by have:=A.out.1;clear ey;omega,A.out.2.1,A.out.2.2.1,A.out.2.2.2.1,A.out.2.2.2.2,by have:=R.out.2.2.2.1;clear ey;omega,ht⟩
            generalize PLC h2 k2=pl at *
            generalize (P ++ B.take y).map SPL=X1 at *
            generalize hX2:(P ++ B.take (y+1)).map SPL=X2 at *
            have HX2:Aside ((P ++ B.take (y+1)).map SPL=X2):=hX2
            clear A hs2 ht hX2 eh2 hyn
            go_wp2_with fail
            refine (cp _).mono ?_
            rintro e w3 ⟨rfl,hb3⟩
            have R4:Aside (w3.ownsRow w1.heap.size 24 1 v (u+y) (z0k X1)∧Below w1.heap.size w1 w3∧w3.ownsRow w1.heap.size 104 2 (.slice (some ⟨g2,0,none⟩) nb cb) nb (z0g B)):=⟨z0b R3.out.2.1 hb3,R3.out.2.2.1.trans (hb3.mono R3.out.2.2.1.size),z0b R3.out.2.2.2.1 hb3⟩
            clear cp hb3 y0 y1
            go_wp2_with (first
              | (at_builtin;refine zde _ rfl (.tmp 54) (.tmp 56) rfl w1.heap.size v (u+y) X1 rfl (R4.out.1.alloc _) w3.heap.size 1 pl rfl ((Has.new _ _ _).cell 0) R3.out.2.2.2.2.2.1 (by have:=R4.out.2.1.size;simp;omega) ?_;intro g4 c4 w4 hown hgrow hat hg
                 have R5:Aside (y+1+q2=nb∧w4.ownsRow w1.heap.size 24 1 (.slice (some ⟨g4,0,none⟩) (u+y+1) c4) (u+(y+1)) (z0k ((P ++ B.take (y+1)).map SPL))∧Below w1.heap.size w1 w4∧w4.ownsRow w1.heap.size 104 2 (.slice (some ⟨g2,0,none⟩) nb cb) nb (z0g B)∧(∀ g,(Value.slice (some ⟨g4,0,none⟩) (u+y+1) c4).ownBlock=some g→(Value.slice (some ⟨g2,0,none⟩) nb cb).ownBlock≠some g)):=by
                   obtain ⟨r1,r2,r3,r4,r5,r6,r7⟩:=R3.out
                   obtain ⟨s1,s2,s3⟩:=R4.out
                   refine ⟨r1,?_,(s2.alloc s2.size _).grown hgrow (by have:=s2.size;simp;omega) (fun k e=>(s1.lt k e).1),z1R (z1f s3 _) (fun k e=>hgrow.block k (by have:=(s3.lt k e).2;simp;omega) (fun e2=>r5 k e2.symm e)),fun g e1 e2=>?_⟩
                   · rw [HX2.out,r7]
                     exact hown
                   · have e1:g4=g:=by simpa [Value.ownBlock] using e1
                     subst e1
                     rcases hat with h | h
                     · exact r5 _ h e2
                     · have:=(s3.lt _ e2).2
                       simp at h
                       omega
                 clear hown hgrow hg hat R4 R3))
            go_roundg q2
            case measure=>exact Nat.lt_succ_self _
            case rel=>exact ⟨y+1,_,rfl,by first | rfl | (rw [ey]),R5.out⟩
end Go.Proofs.YtnmalbngdhjhjaaGreatDoor

namespace Go.Proofs.YtnmalbngdhjhjaaGreatDoor
open Go.RowKit
set_option maxRecDepth 100000
def SMV (w:World) (SZ FZ TZ K:Nat) (LL:List Int) (V:Int) (e:Ending) (w':World):Prop:=
  Below w.heap.size w w'∧∃ a c,e=.returned (.tuple #[.agg #[.int .u64 (SZ:Int),.int .u64 (FZ:Int),.int .u64 (TZ:Int),.slice a K c],.int .i64 V])∧w'.ownsRow w.heap.size 35 32 (.slice a K c) K (z00 LL)
structure XBOX (W:World) (b SZ FZ TZ K:Nat) (ol:Option Addr) (oc:Nat) (LL:List Int):Prop where
  has:Has W b #[.int .u64 (SZ:Int),.int .u64 (FZ:Int),.int .u64 (TZ:Int),.slice ol K oc] 43
  flat:Flat W ol K LL
  few:K≤188
  byte:∀ x∈LL,0≤x∧x≤255
theorem z7n {w w':World} {G:Nat→List Int} {EN:Nat→Int} {E V:Int} {P:List Nat} {F T N:Nat} {e:Ending} (h:z4b w G EN E P F T N e w') (hW:WNT EN E P=V) (hV:V≠0):SMV w 0 0 0 0 [] V e w':=by
  obtain ⟨hb,h⟩:=h
  refine ⟨hb,none,0,?_,⟨rfl,.inl ⟨rfl,rfl⟩⟩⟩
  unfold WNT at hW
  rcases h with ⟨h0,rfl⟩ | ⟨h0,hz,_⟩ | ⟨h0,j,p,h1,h2,h3,rfl⟩
  · rw [if_neg h0] at hW
    subst hW
    rfl
  · rw [if_pos h0,z4I hz] at hW
    exact absurd hW.symm hV
  · rw [if_pos h0,z4X h1 h2 h3] at hW
    subst hW
    rfl
theorem zbM {w w':World} {G:Nat→List Int} {EN:Nat→Int} {E:Int} {P:List Nat} {F T N K:Nat} {e:Ending} (h:z4b w G EN E P F T N e w') (hW:WNT EN E P=0) (hK:P.length=K):SMV w N F T K (GCAT G P) 0 e w':=by
  obtain ⟨hb,h⟩:=h
  refine ⟨hb,?_⟩
  unfold WNT at hW
  subst hK
  rcases h with ⟨h0,_⟩ | ⟨h0,_,a,c,rfl,ho⟩ | ⟨h0,j,p,h1,h2,h3,rfl⟩
  · rw [if_neg h0] at hW
    exact absurd hW h0
  · exact ⟨a,c,rfl,ho⟩
  · rw [if_pos h0,z4X h1 h2 h3] at hW
    exact absurd hW h3
theorem z8O {W:World} {b:Nat} (h:Has W b #[.int .u64 0,.int .u64 0,.int .u64 0,.slice none 0 0] 43):XBOX W b 0 0 0 0 none 0 []:=
  ⟨h,⟨rfl,fun h=>by omega,fun x hx=>by cases hx⟩,Nat.zero_le _,fun x hx=>by cases hx⟩
theorem zf1:∀ (h k:Nat) (L:List Nat),∀ s∈NSP h k L,(s.2+1)*2 ^ s.1≤(k+1)*2 ^ h:=by
  intro h
  induction h with
  | zero=>
    intro k L s hs
    cases L with
    | nil=>
      rw [z3B] at hs
      obtain rfl:s=(0,k):=by simpa using hs
      exact Nat.le_refl _
    | cons x l=>cases hs
  | succ h ih=>
    intro k L s hs
    cases L with
    | nil=>
      rw [z3B] at hs
      obtain rfl:s=(h+1,k):=by simpa using hs
      exact Nat.le_refl _
    | cons x l=>
      have e:=z8L h k
      have hp:=Nat.two_pow_pos h
      rw [NSP] at hs
      rcases List.mem_append.1 hs with hs | hs
      · have h1:=ih _ _ s hs
        have h2:(2*k+1)*2 ^ h≤(2*k+1+1)*2 ^ h:=Nat.mul_le_mul_right _ (by omega)
        omega
      · have h1:=ih _ _ s hs
        omega
theorem zgX (F T N:Nat):(SPA F T N).length≤188∧∀ p∈SPA F T N,p<2 ^ 64:=by
  rcases z3m F T N with ⟨_,e2,_⟩ | ⟨_,e2,_⟩ | ⟨_,e2,hN,_,hTN⟩
  · rw [e2];exact ⟨Nat.zero_le _,fun p hp=>by cases hp⟩
  · rw [e2];exact ⟨Nat.zero_le _,fun p hp=>by cases hp⟩
  · rw [e2]
    refine ⟨z6J hN hTN,fun p hp=>?_⟩
    rw [z6K (i:=(TPS N).length) hN hTN (Nat.le_refl _)] at hp
    obtain ⟨s,hs,rfl⟩:=List.mem_map.1 hp
    unfold SPS at hs
    rw [List.take_length] at hs
    obtain ⟨t,ht,hst⟩:=List.mem_flatMap.1 hs
    have h1:=zf1 _ _ _ s hst
    have h2:=((z5E (n:=N) hN).within t ht).2.1
    have hl:SPL s<z01 N:=zam (Nat.le_trans h1 h2)
    have hb2:z01 N≤2*N:=by unfold z01;omega
    omega
end Go.Proofs.YtnmalbngdhjhjaaGreatDoor

namespace Go.Proofs.YtnmalbngdhjhjaaGreatDoor
open Go.RowKit
set_option maxRecDepth 100000
end Go.Proofs.YtnmalbngdhjhjaaGreatDoor

namespace Go.Proofs.YtnmalbngdhjhjaaGreatDoor
open Go.RowKit
set_option maxRecDepth 100000
end Go.Proofs.YtnmalbngdhjhjaaGreatDoor

namespace Go.Proofs.YtnmalbngdhjhjaaGreatDoor
open Go.RowKit
set_option maxRecDepth 100000
end Go.Proofs.YtnmalbngdhjhjaaGreatDoor

namespace Go.Proofs.YtnmalbngdhjhjaaGreatDoor
open Go.RowKit
set_option maxRecDepth 100000
structure COUNTING (K:Nat) (w0 w:World) (bl:Nat) (acc:List Nat):Prop where
  le:acc.length≤K
  row:Has w bl #[.int .i64 ((K - acc.length:Nat):Int)] 3
  keep:∀ b,b<w0.heap.size→b≠bl→w.heap[b]?=w0.heap[b]?
  lt:bl<w0.heap.size
  below:Below bl w0 w
end Go.Proofs.YtnmalbngdhjhjaaGreatDoor

namespace Go.Proofs.YtnmalbngdhjhjaaGreatDoor
open Go.RowKit
set_option maxRecDepth 100000
end Go.Proofs.YtnmalbngdhjhjaaGreatDoor

namespace Go.Proofs.YtnmalbngdhjhjaaGreatDoor
open Go.RowKit
set_option maxRecDepth 100000
structure ENCD (w w':World) (b1:Nat) (Z:List Int):Prop where
  row:∃ v,Has w' b1 #[v] 53∧w'.ownsRow w.heap.size 5 1 v Z.length (z00 Z)
  keep:∀ b,b<w.heap.size→b≠b1→w'.heap[b]?=w.heap[b]?
  below:Below b1 w w'
end Go.Proofs.YtnmalbngdhjhjaaGreatDoor

namespace Go.Proofs.YtnmalbngdhjhjaaGreatDoor
open Go.RowKit
set_option maxRecDepth 100000
end Go.Proofs.YtnmalbngdhjhjaaGreatDoor

namespace Go.Proofs.YtnmalbngdhjhjaaGreatDoor
open Go.RowKit
set_option maxRecDepth 100000
structure APT (a b x y:Value):Prop where
  ab:∀ g,a.ownBlock=some g→b.ownBlock≠some g
  ax:∀ g,a.ownBlock=some g→x.ownBlock≠some g
  ay:∀ g,a.ownBlock=some g→y.ownBlock≠some g
  bx:∀ g,b.ownBlock=some g→x.ownBlock≠some g
  byy:∀ g,b.ownBlock=some g→y.ownBlock≠some g
  xy:∀ g,x.ownBlock=some g→y.ownBlock≠some g
structure MIX (w0 w:World) (B:Nat) (K:Nat→Prop) (a:Value) (na:Nat) (xa:List Value) (b:Value) (nb:Nat) (xb:List Value) (x:Value) (mx:Nat) (xx:List Value) (y:Value) (my:Nat) (xy:List Value):Prop where
  ra:w.ownsRow B 24 1 a na xa
  rb:w.ownsRow B 24 1 b nb xb
  rx:w.ownsRow B 35 32 x mx xx
  ry:w.ownsRow B 35 32 y my xy
  ap:APT a b x y
  hm:∀ g,(a.ownBlock=some g∨b.ownBlock=some g∨x.ownBlock=some g∨y.ownBlock=some g)→K g∨w0.heap.size≤g
  kp:∀ k,k<w0.heap.size→¬ K k→w.heap[k]?=w0.heap[k]?
  bl:Below B w0 w
  sz:w0.heap.size≤w.heap.size
  bs:B≤w0.heap.size
section
variable {w0 w:World} {B:Nat} {K:Nat→Prop} {a:Value} {na:Nat} {xa:List Value} {b:Value} {nb:Nat} {xb:List Value} {x:Value} {mx:Nat} {xx:List Value} {y:Value} {my:Nat} {xy:List Value}
theorem MIX.size (h:MIX w0 w B K a na xa b nb xb x mx xx y my xy):B≤w.heap.size:=Nat.le_trans h.bs h.sz
theorem z20 {w w':World} {B s n:Nat} {t:TypeId} {v:Value} {xs:List Value} {r:Option Nat} (h:w.ownsRow B t s v n xs) (hg:w.grownBy w' r) (ho:∀ g,r=some g→v.ownBlock≠some g):w'.ownsRow B t s v n xs:=z1R h fun k e=>hg.block k (h.lt k e).2 fun e2=>ho k e2.symm e
theorem MIX.alloc (h:MIX w0 w B K a na xa b nb xb x mx xx y my xy) (o:Obj):MIX w0 (w.alloc o) B K a na xa b nb xb x mx xx y my xy:=
  ⟨z1f h.ra o,z1f h.rb o,z1f h.rx o,z1f h.ry o,h.ap,h.hm,fun k hk hK=>(Below.heap_alloc w o k (Nat.lt_of_lt_of_le hk h.sz)).trans (h.kp k hk hK),h.bl.alloc h.size o,by have:=h.sz;simp;omega,h.bs⟩
theorem MIX.drew (h:MIX w0 w B K a na xa b nb xb x mx xx y my xy):MIX w0 w.drew B K a na xa b nb xb x mx xx y my xy:=⟨h.ra,h.rb,h.rx,h.ry,h.ap,h.hm,h.kp,h.bl.drew,h.sz,h.bs⟩
structure OFF (z:Nat) (a b x y:Value):Prop where
  a:a.ownBlock≠some z
  b:b.ownBlock≠some z
  x:x.ownBlock≠some z
  y:y.ownBlock≠some z
end
end Go.Proofs.YtnmalbngdhjhjaaGreatDoor

namespace Go.Proofs.YtnmalbngdhjhjaaGreatDoor
open Go.RowKit
set_option maxRecDepth 100000
end Go.Proofs.YtnmalbngdhjhjaaGreatDoor

namespace Go.Proofs.YtnmalbngdhjhjaaGreatDoor
set_option linter.unusedSimpArgs false
open Go.RowKit
set_option maxRecDepth 100000
end Go.Proofs.YtnmalbngdhjhjaaGreatDoor

namespace Go.Proofs.YtnmalbngdhjhjaaGreatDoor
open Go.RowKit
set_option maxRecDepth 100000
end Go.Proofs.YtnmalbngdhjhjaaGreatDoor

namespace Go.Proofs.YtnmalbngdhjhjaaGreatDoor
open Go.RowKit
set_option maxRecDepth 100000
structure NUMD (w w':World) (g n cap:Nat) (L:List Nat):Prop where
  own:w'.ownsRow w.heap.size 24 1 (.slice (some ⟨g,0,none⟩) n cap) n (z0k L)
  room:n+1≤cap
  mark:w'.cell? ⟨g,n,none⟩=some (.int .u64 171)
  lt:g<w'.heap.size
  base:w.heap.size≤g
  below:Below w.heap.size w w'
theorem NUMD.lies {w w':World} {g n cap:Nat} {L:List Nat} (h:NUMD w w' g n cap L) (hl:L.length=n):NUML w' (some ⟨g,0,none⟩) L:=fun _=>⟨g,0,rfl,h.lt,fun i x hx=>by
  have hi:i<L.length:=(List.getElem?_eq_some_iff.1 hx).1
  rw [Nat.zero_add,h.own.cellAt i (by omega),z0k,List.getElem?_map,hx]
  rfl⟩
end Go.Proofs.YtnmalbngdhjhjaaGreatDoor
