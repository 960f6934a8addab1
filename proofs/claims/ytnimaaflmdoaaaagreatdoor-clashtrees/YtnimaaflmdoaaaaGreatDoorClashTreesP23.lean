/- ClashTrees: part 23. -/
import Derived.Test.YtnimaaflmdoaaaaGreatDoorClashTreesP22
namespace Go.Proofs.YtnimaaflmdoaaaaGreatDoor.HX
open Go.RowKit
set_option maxRecDepth 100000
theorem z91 (w:World) (x:Nat) (hx:x<256):Text (w.alloc (.cells #[.int .u8 x] 5)) (some ⟨w.heap.size,0,none⟩) 1 [x]:=by
 refine ⟨rfl,fun _=>⟨w.heap.size,0,rfl,by simp,fun i hi=>?_⟩,fun y hy=>by simp at hy;omega⟩;obtain rfl:i=0:=by omega
 rw [World.cell?_alloc_at _ _ _ _ rfl];rfl
theorem zc5 (w:World) (x y z:Nat) (hx:x<256) (hy:y<256) (hz:z<256):Text (w.alloc (.cells #[.int .u8 x,.int .u8 y,.int .u8 z] 5)) (some ⟨w.heap.size,0,none⟩) 3 [x,y,z]:=by
 refine ⟨rfl,fun _=>⟨w.heap.size,0,rfl,by simp,fun i hi=>?_⟩,fun u hu=>by simp at hu;omega⟩;rw [World.cell?_alloc_at _ _ _ _ rfl];have e:i=0\/i=1\/i=2:=by omega
 rcases e with rfl | rfl | rfl <;> rfl
theorem zc6 (i:Nat) (L:List Nat) (h1:i=1142->L=[118,4,1]) (h2:L≠[0]):(((List.range 32).all fun i=>z0e 1 L i == z0e 1 [0] i)=true->z2f 1 [0] L=true)/\(i=1142->((List.range 32).all fun i=>z0e 1 L i == z0e 1 [0] i)=true):=by
 refine ⟨fun h=>?_,fun h=>?_⟩
 ·rw [z5P 1 (fun e=>h2 e.symm),List.all_eq_true]
  intro j hj;have:=List.all_eq_true.1 h j hj;simp only [beq_iff_eq] at this ⊢;exact this.symm
 ·rw [h1 h]
  exact zdK
theorem z7E (d:Int) (l:List Nat):∃ F:Nat->Nat,z0e d l=F:=⟨_,rfl⟩
theorem z9P (i:Nat) (L:List Nat) (h1:i=1142->L=[118,4,1]) (h2:L≠[0]) (F1 F2:Nat->Nat) (e1:z0e 1 L=F1) (e2:z0e 1 [0]=F2):∃ r:Bool,(∀ w,(Op.equalIn 10000 23 (.agg (UARR .u8 32 F1)) (.agg (UARR .u8 32 F2))).run Tryz.prog w=.ok r w)/\Aside ((r=true->z2f 1 [0] L=true)/\(i=1142->r=true)):=by
 subst e1 e2;exact ⟨_,fun w=>z4m _ _ w,zc6 i L h1 h2⟩
set_option maxHeartbeats 4000000 in
theorem z4Y (w:World) (hT:Tabled w):Calls Tryz.prog 12 #[] w fun e w'=>e=.returned (.bool true)/\Below w.heap.size w w':=by
 have t1:Text (w.alloc (.cells #[.int .u8 0] 5)) (some ⟨w.heap.size,0,none⟩) 1 [0]:=z91 w 0 (by decide);have b1:Below w.heap.size w (w.alloc (.cells #[.int .u8 0] 5)):=(Below.refl _ _).alloc (Nat.le_refl _) _;have t2:Text ((w.alloc (.cells #[.int .u8 0] 5)).alloc (.cells #[.int .u8 0] 5)) (some ⟨w.heap.size,0,none⟩) 1 [0]:=t1.below ((Below.refl _ _).alloc (Nat.le_refl _) _)
 have t3:Text ((w.alloc (.cells #[.int .u8 0] 5)).alloc (.cells #[.int .u8 0] 5)) (some ⟨w.heap.size+1,0,none⟩) 1 [0]:=by
  have h:=z91 (w.alloc (.cells #[.int .u8 0] 5)) 0 (by decide);rw [show (w.alloc (.cells #[.int .u8 0] 5)).heap.size=w.heap.size+1 by simp] at h;exact h
 have b2:Below w.heap.size w ((w.alloc (.cells #[.int .u8 0] 5)).alloc (.cells #[.int .u8 0] 5)):=b1.alloc b1.size _;have hsz:((w.alloc (.cells #[.int .u8 0] 5)).alloc (.cells #[.int .u8 0] 5)).heap.size=w.heap.size+2:=by simp
 have c1:=z4X 1 (some ⟨w.heap.size,0,none⟩) 1 1 [0] (some ⟨w.heap.size+1,0,none⟩) 1 1 [0] _ t2 (by decide) (fun x hx=>by cases hx;rw [hsz];simp) (by decide) t3 (by decide) (fun x hx=>by cases hx;rw [hsz];simp) (by decide) (hT.below b2);have z0:=z8Z 1 [0];generalize z2f 1 [0] [0]=z at *
 subst z0;have R:Aside (Tabled w/\Text ((w.alloc (.cells #[.int .u8 0] 5)).alloc (.cells #[.int .u8 0] 5)) (some ⟨w.heap.size,0,none⟩) 1 [0]/\Below w.heap.size w ((w.alloc (.cells #[.int .u8 0] 5)).alloc (.cells #[.int .u8 0] 5))/\((w.alloc (.cells #[.int .u8 0] 5)).alloc (.cells #[.int .u8 0] 5)).heap.size=w.heap.size+2):=⟨hT,t2,b2,hsz⟩
 clear t1 b1 t2 t3 b2 hsz hT;obtain ⟨F2,hF2⟩:=z7E 1 [0];go_enter Tryz.func12,Tryz.ntmps12;go_wp2_with fail
 refine c1.mono ?_;rintro e w1 ⟨rfl,hb1⟩;clear c1;have S:Aside (Tabled w/\Text w1 (some ⟨w.heap.size,0,none⟩) 1 [0]/\Below w.heap.size w w1/\w.heap.size<w1.heap.size):=⟨R.out.1,R.out.2.1.below hb1,R.out.2.2.1.trans (hb1.mono R.out.2.2.1.size),by have:=hb1.size;have:=R.out.2.2.2;omega⟩
 clear R hb1;go_wp2_with fail
 obtain ⟨N0,hN0⟩:∃ N0:Nat,N0=1141:=⟨_,rfl⟩
 go_loopg [2,3] N0 (fun r s2 s3 wx=>∃ i:Nat,i+r=1142/\1<=i/\s3=.int .i64 i/\Aside (Below w1.heap.size w1 wx))
 case atStart=>exact ⟨1,by omega,by omega,rfl,Below.refl _ _⟩
 case round=>
  obtain ⟨i,hir,hi1,rfl,A⟩:=hrel;have hlt:(i:Int)<100000:=by omega
  have e1:((i % 256:Nat):Int)=(i:Int) % 256:=by omega
  have e2:((i / 256:Nat):Int)=(i:Int) / 256:=by omega
  have tx:=zc5 wr (i % 256) (i / 256) 1 (by omega) (by omega) (by decide);rw [e1,e2] at tx;have bx:Below wr.heap.size wr (wr.alloc (.cells #[.int .u8 ((i:Int) % 256),.int .u8 ((i:Int) / 256),.int .u8 ((1:Nat):Int)] 5)):=(Below.refl _ _).alloc (Nat.le_refl _) _;have sx:(wr.alloc (.cells #[.int .u8 ((i:Int) % 256),.int .u8 ((i:Int) / 256),.int .u8 ((1:Nat):Int)] 5)).heap.size=wr.heap.size+1:=by simp
  have hq1:i=1142->[i % 256,i / 256,1]=[118,4,1]:=fun h=>by subst h;rfl
  have Sw:Aside (Below w.heap.size w wr/\w.heap.size<wr.heap.size):=⟨S.out.2.2.1.trans (A.out.mono S.out.2.2.1.size),Nat.lt_of_lt_of_le S.out.2.2.2 A.out.size⟩
  have HL:Aside ((i=1142->[i % 256,i / 256,1]=[118,4,1])/\[i % 256,i / 256,1]≠[0]):=⟨hq1,by simp⟩
  generalize [i % 256,i / 256,1]=L at *
  have ca:=sum9 1 ((wr.alloc (.cells #[.int .u8 ((i:Int) % 256),.int .u8 ((i:Int) / 256),.int .u8 ((1:Nat):Int)] 5)).alloc (.cells #[.slice (some ⟨wr.heap.size,0,none⟩) 3 3] 25)) (wr.heap.size+1) (some ⟨wr.heap.size,0,none⟩) 3 3 L (Has.at _ _ _ sx.symm) (tx.below ((Below.refl _ _).alloc (Nat.le_refl _) _)) (by decide) (fun x hx=>by cases hx;simp;omega) (by decide) (S.out.1.below ((Sw.out.1.trans (bx.mono Sw.out.1.size)).alloc (by rw [sx];have:=Sw.out.2;omega) _));obtain ⟨F1,hF1⟩:=z7E 1 L;rw [hF1] at ca;obtain ⟨wa,hwa⟩:∃ wa,(wr.alloc (.cells #[.int .u8 ((i:Int) % 256),.int .u8 ((i:Int) / 256),.int .u8 ((1:Nat):Int)] 5)).alloc (.cells #[.slice (some ⟨wr.heap.size,0,none⟩) 3 3] 25)=wa:=⟨_,rfl⟩
  have ba:Below w.heap.size w wa:=by rw [<-hwa];exact (Sw.out.1.trans (bx.mono Sw.out.1.size)).alloc (by rw [sx];have:=Sw.out.2;omega) _
  have br:Below wr.heap.size wr wa:=by rw [<-hwa];exact bx.alloc (by rw [sx];omega) _
  have ta:Text wa (some ⟨wr.heap.size,0,none⟩) 3 L:=by rw [<-hwa];exact tx.below ((Below.refl _ _).alloc (Nat.le_refl _) _)
  have ga:wr.heap.size<wa.heap.size:=by rw [<-hwa];simp;omega
  clear tx bx sx hq1;go_wp2_with fail
  rw [show (Value.int IntKind.u8 1)=.int .u8 ((1:Nat):Int) from rfl];rw [hwa] at ca ⊢;refine ca.mono ?_;rintro e w2 ⟨rfl,hb2⟩;clear ca hwa;have b2:Below w.heap.size w w2:=ba.trans (hb2.mono ba.size);have cb:=sum9 1 (w2.alloc (.cells #[.slice (some ⟨w.heap.size,0,none⟩) 1 1] 25)) w2.heap.size (some ⟨w.heap.size,0,none⟩) 1 1 [0] (Has.new _ _ _) ((((S.out.2.1.below A.out).below br).below hb2).below ((Below.refl _ _).alloc (Nat.le_refl _) _)) (by decide) (fun x hx=>by cases hx;simp;have:=Sw.out.2;have:=hb2.size;omega) (by decide) (S.out.1.below (b2.alloc b2.size _));rw [hF2] at cb;have M:Aside (Below w.heap.size w w2/\Text w2 (some ⟨wr.heap.size,0,none⟩) 3 L/\wr.heap.size<w2.heap.size/\Text w2 (some ⟨w.heap.size,0,none⟩) 1 [0]/\Below wr.heap.size wr w2):=⟨b2,ta.below hb2,Nat.lt_of_lt_of_le ga hb2.size,((S.out.2.1.below A.out).below br).below hb2,br.trans (hb2.mono br.size)⟩
  clear ba br ta ga hb2 b2;go_wp2_with fail
  refine cb.mono ?_;rintro e w3 ⟨rfl,hb3⟩;clear cb
  have M3:Aside (Below w.heap.size w w3/\Text w3 (some ⟨wr.heap.size,0,none⟩) 3 L/\wr.heap.size<w3.heap.size/\Text w3 (some ⟨w.heap.size,0,none⟩) 1 [0]/\Below wr.heap.size wr w3):=by
    have hbb:Below w2.heap.size w2 w3:=((Below.refl _ _).alloc (Nat.le_refl _) _).trans (hb3.mono (by simp));obtain ⟨m1,m2,m3,m4,m5⟩:=M.out;exact ⟨m1.trans (hbb.mono m1.size),m2.below hbb,Nat.lt_of_lt_of_le m3 hbb.size,m4.below hbb,m5.trans (hbb.mono m5.size)⟩
  clear M hb3;obtain ⟨r,hq,HH⟩:=z9P i L HL.out.1 HL.out.2 F1 F2 hF1 hF2;clear hF1;cases r with
  | true=>
    have ch:=z4X 1 (some ⟨w.heap.size,0,none⟩) 1 1 [0] (some ⟨wr.heap.size,0,none⟩) 3 3 L w3 M3.out.2.2.2.1 (by decide) (fun x hx=>by cases hx;have:=Sw.out.2;have:=M3.out.2.2.1;show w.heap.size<_;omega) (by decide) M3.out.2.1 (by decide) (fun x hx=>by cases hx;exact M3.out.2.2.1) (by decide) (S.out.1.below M3.out.1);rw [HH.out.1 rfl] at ch;clear HH;go_wp2_with fail
    refine ch.mono ?_;rintro e w4 ⟨rfl,hb4⟩;clear ch;have N:Aside (Below w.heap.size w w4):=M3.out.1.trans (hb4.mono M3.out.1.size);clear hb4;go_wp2;go_ret;exact ⟨rfl,N.out⟩
  | false=>
    have hne:i≠1142:=fun h=>by have:=HH.out.2 h;cases this
    have e3:wrap64 ((i:Int)+1)=((i+1:Nat):Int):=by unfold wrap64;omega
    have B:Aside (Below w1.heap.size w1 w3):=A.out.trans (M3.out.2.2.2.2.mono A.out.size);obtain ⟨gk',rfl⟩:∃ g,gk=g+1:=⟨gk - 1,by omega⟩
    clear HH;go_wp2;go_roundg gk'
    case measure=>omega
    exact ⟨i+1,by omega,by omega,rfl,B.out⟩
end Go.Proofs.YtnimaaflmdoaaaaGreatDoor.HX
