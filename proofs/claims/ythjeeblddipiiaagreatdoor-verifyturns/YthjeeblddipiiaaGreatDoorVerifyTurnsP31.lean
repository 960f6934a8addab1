/- Texts of VerifyTurns, one behind the other: VerifyTree, VerifyTurnsPlain, StepLists. -/
import Derived.Deep.AppendLies
import Derived.Test.YthjeeblddipiiaaGreatDoorVerifyTurnsP7
import Derived.Test.YthjeeblddipiiaaGreatDoorVerifyTurnsP15
import Derived.Test.YthjeeblddipiiaaGreatDoorVerifyTurnsP19
import Derived.Test.YthjeeblddipiiaaGreatDoorVerifyTurnsP21
import Derived.Test.YthjeeblddipiiaaGreatDoorVerifyTurnsP22
import Derived.Test.YthjeeblddipiiaaGreatDoorVerifyTurnsP30
namespace Go.Proofs.YthjeeblddipiiaaGreatDoor
open Go.RowKit
set_option maxRecDepth 100000
def TVAL (d:Int) (f:Nat→Nat→Nat) (h k:Nat):List Int:=LST (HX.VAL d f h k)
theorem z94 (d:Int) (f:Nat→Nat→Nat) (h k:Nat):(TVAL d f h k).length=32:=z2J _
theorem zfq {d:Int} {f:Nat→Nat→Nat} {n h k:Nat} (hf:∀ k,k<n→∀ i,f k i<256) (hk:(k+1)*2 ^ h≤n):IsH (TVAL d f h k):=z3r fun i=>HX.z2g hf h k hk i
theorem z8k {w:World} {B g:Nat} {d:Int} {log n h k:Nat} {C:HX.z04} {f:Nat→Nat→Nat} (hF:HX.FOREST w B g d log n C f) (hs:(k+1)*2 ^ h≤n):HX.GOTH C log (z05 n) (PLC h k)=HX.VAL d f h k∧HX.GOT C log (z05 n) (PLC h k)=0:=by
  have h1:=z4o hs
  unfold HX.GOTH HX.GOT
  rw [if_pos h1,if_pos h1,hF.node h k hs]
  exact ⟨rfl,rfl⟩
def INN (ss:List (Nat × Nat)) (n:Nat):Prop:=∀ s∈ss,(s.2+1)*2 ^ s.1≤n
theorem z8l {ss:List (Nat × Nat)} {p:Nat} (h:p∈PLCS ss):∃ s∈ss,p=PLC s.1 s.2:=by
  unfold PLCS at h
  obtain ⟨s,hs,e⟩:=List.mem_map.1 h
  exact ⟨s,hs,e.symm⟩
theorem zgS {w:World} {B g:Nat} {d:Int} {log n:Nat} {C:HX.z04} {f:Nat→Nat→Nat} (hF:HX.FOREST w B g d log n C f) (ss:List (Nat × Nat)) (hs:INN ss n):z4t w g (fun p=>LST (HX.GOTH C log (z05 n) p)) (HX.GOT C log (z05 n)) (PLCS ss):=fun W hb p hp=>by
  obtain ⟨s,h1,rfl⟩:=z8l hp
  have hl:=z4o (hs s h1)
  have hb2:z05 n≤2*n:=by unfold z05;omega
  have:=hF.few
  have hc:=HX.z4L (hF.store.below hb) (PLC s.1 s.2) (by omega)
  rw [z1v] at hc
  exact hc
theorem z8m {w:World} {B g:Nat} {d:Int} {log n:Nat} {C:HX.z04} {f:Nat→Nat→Nat} (hF:HX.FOREST w B g d log n C f):∀ (ss:List (Nat × Nat)),INN ss n→∀ j,j≤ss.length→TFL (fun p=>LST (HX.GOTH C log (z05 n) p)) (PLCS ss) j=CAT (TVAL d f) (ss.take j)
  | ss,hs,0,_=>by simp [TFL,CAT]
  | ss,hs,j+1,hj=>by
    obtain ⟨s,e⟩:∃ s,ss[j]?=some s:=⟨_,List.getElem?_eq_getElem (by omega)⟩
    obtain ⟨h,k⟩:=s
    rw [z8a,z8m hF ss hs j (by omega),z80 e,z9u e,(z8k hF (hs _ (List.mem_of_getElem? e))).1]
    rfl
def zcO (w:World) (d:Int) (f:Nat→Nat→Nat) (ss:List (Nat × Nat)) (X Y:Nat) (e:Ending) (w':World):Prop:=
  ∃ a c,e=.returned (.tuple #[.agg #[.int .u64 (X:Int),.int .u64 (Y:Int),.slice a ss.length c],.int .i64 0])∧w'.ownsRow w.heap.size 32 32 (.slice a ss.length c) ss.length (z00 (CAT (TVAL d f) ss))∧Below w.heap.size w w'
theorem TMADE.tree {w0 w w':World} {B g:Nat} {d:Int} {log n:Nat} {C:HX.z04} {f:Nat→Nat→Nat} (hF:HX.FOREST w0 B g d log n C f) {ss:List (Nat × Nat)} (hs:INN ss n) {X Y:Nat} {e:Ending} (h:TMADE w (fun p=>LST (HX.GOTH C log (z05 n) p)) (HX.GOT C log (z05 n)) (0,PLCS ss) X Y e w'):zcO w d f ss X Y e w':=by
  obtain ⟨hb,h⟩:=h
  have hz:∀ p∈PLCS ss,HX.GOT C log (z05 n) p=0:=fun p hp=>by
    obtain ⟨s,h1,rfl⟩:=z8l hp
    exact (z8k hF (hs s h1)).2
  rcases h with ⟨h1,_⟩ | ⟨_,_,u,rfl,hu⟩ | ⟨_,j,hj,_,h1,_⟩
  · exact absurd rfl h1
  · dsimp only at hu
    rw [z0t,z8m hF ss hs _ (Nat.le_refl _),List.take_length] at hu
    rcases hu.2 with ⟨e,h0⟩ | ⟨g,cap,cur,e,_⟩
    · subst e
      refine ⟨none,0,by rw [h0],?_,hb⟩
      rw [h0] at hu ⊢
      exact hu
    · subst e
      exact ⟨_,cap,rfl,hu,hb⟩
  · refine absurd (hz _ ?_) h1
    dsimp only at hj ⊢
    rw [List.getD_eq_getElem?_getD,List.getElem?_eq_getElem hj]
    exact List.getElem_mem _
theorem z9R {i m n:Nat} (hi:i<m) (hm:m≤n) (hn:n≤1000000):INN (PSP i m) n:=fun s hs=>by
  have h62:=(z1a hi (by omega)).2.1
  have hT:=z27 (a:=0) (b:=m) (by omega) (Nat.zero_le m)
  have hK:=(z7C hi (by omega)).1
  have hin:=(hT.within _ (List.mem_of_getElem? hK)).2.1
  dsimp only at hin
  unfold PSP at hs
  rcases List.mem_append.1 hs with h | h
  · have:=(z2u i _ s h).2
    omega
  · obtain ⟨j,_,hj⟩:=z6y h
    have:=(hT.within _ (List.mem_of_getElem? hj)).2.1
    omega
theorem zeb {w:World} {B g:Nat} {d:Int} {log n:Nat} {C:HX.z04} {f:Nat→Nat→Nat} (hF:HX.FOREST w B g d log n C f) (i m:Nat) (hi:i<m) (hm:m≤n) (hn:n≤1000000) (hT:Tabled w) (h0:0<w.heap.size):
    Calls Tryz.prog 7 #[.iface 24 (.pointer (some ⟨g,0,none⟩)),.int .u64 (i:Int),.int .u64 (m:Int)] w (zcO w d f (PSP i m) m i):=by
  have e:PLA i m=(0,PLCS (PSP i m)):=by unfold PLA;rw [if_neg (by omega),if_neg (by omega)]
  have hs:=z9R hi hm hn
  have:=ze1 m i g _ _ (fun p=>z2J (HX.GOTH C log (z05 n) p)) w (by rw [e];exact zgS hF _ hs) hT h0
  rw [e] at this
  exact this.mono fun _ _ h=>TMADE.tree hF hs h
end Go.Proofs.YthjeeblddipiiaaGreatDoor

namespace Go.Proofs.YthjeeblddipiiaaGreatDoor
open Go.RowKit
set_option maxRecDepth 100000
theorem zbd (d:Int) (f:Nat→Nat→Nat) (n:Nat) (hf:∀ k,k<n→∀ i,f k i<256) (ss:List (Nat × Nat)) (hs:INN ss n):∀ x∈CAT (TVAL d f) ss,0≤x∧x≤255:=fun x hx=>by
  obtain ⟨s,h1,h2⟩:=List.mem_flatMap.1 hx
  exact (zfq hf (hs s h1)).2 x h2
theorem z95 (d:Int) (f:Nat→Nat→Nat) (ss:List (Nat × Nat)):(CAT (TVAL d f) ss).length=32*ss.length:=zaG fun s _=>z94 d f s.1 s.2
def PRB (n i:Nat) (l:List Int):List Int:=77 :: (z0h n ++ (z0h i ++ l))
theorem zfr {n i:Nat} (hi:i<n) (hn:n≤1000000) (l:List Int):ENC n i (PSP i n).length l=(0,PRB n i l):=by
  have e:PLA i n=(0,PLCS (PSP i n)):=by unfold PLA;rw [if_neg (by omega),if_neg (by omega)]
  unfold ENC ENCB PRB
  rw [e]
  dsimp only
  rw [z0t,if_neg (by simp),if_neg (by simp),List.append_assoc]
theorem zfs {n i:Nat} (hi:i<n) (hn:n≤1000000) (t:List Int):DEC (PRB n i t)=DC3 (fun S I=>PLA I S) n i t:=by
  unfold DEC PRB
  exact zdX (by omega) (by omega) (by simp [z2h];omega) t
theorem z4M {n i:Nat} (hi:i<n) (hn:n≤1000000) (t:List Int):DEC (PRB n i t)=if t.length<32*(PSP i n).length then DERR 11 else if 32*(PSP i n).length<t.length then DERR 13 else (0,n,i,(PSP i n).length,t):=by
  have e:PLA i n=(0,PLCS (PSP i n)):=by unfold PLA;rw [if_neg (by omega),if_neg (by omega)]
  rw [zfs hi hn]
  have h1:(PLA i n).1=0:=by rw [e]
  have h2:(PLA i n).2.length=(PSP i n).length:=by rw [e,z0t]
  unfold DC3
  dsimp only
  rw [if_neg (by simp [h1])]
  simp only [h2]
theorem zbe (n i:Nat) (l:List Int):3≤(PRB n i l).length:=by
  unfold PRB
  simp only [List.length_cons,List.length_append,z0G]
  omega
theorem zcP {n i:Nat} (hi:i<n) (hn:n≤1000000) {l:List Int} (hl:l.length=32*(PSP i n).length):(DEC ((PRB n i l).take ((PRB n i l).length - 1))).1=11:=by
  rw [← List.dropLast_eq_take]
  rcases Nat.eq_zero_or_pos (PSP i n).length with h | h
  · have hz:=List.eq_nil_of_length_eq_zero h
    have hs:=(z7D hi (by omega)).2.2
    rw [hz] at hs
    obtain rfl:n=1:=by simpa [SIZE] using hs.symm
    obtain rfl:i=0:=by omega
    obtain rfl:l=[]:=List.eq_nil_of_length_eq_zero (by omega)
    decide
  · have e:(PRB n i l).dropLast=PRB n i l.dropLast:=by
      have hne:l≠[]:=fun e=>by rw [e] at hl;simp at hl;omega
      unfold PRB
      rw [List.dropLast_cons_of_ne_nil (by simp [hne]),List.dropLast_append_of_ne_nil (by simp [hne]),List.dropLast_append_of_ne_nil hne]
    rw [e,z4M hi hn,if_pos (by rw [List.length_dropLast];omega)]
    rfl
theorem zec {n i:Nat} (hi:i<n) (hn:n≤1000000) {l:List Int} (hl:l.length=32*(PSP i n).length):(DEC (PRB n i l ++ [0])).1=13:=by
  have e:PRB n i l ++ [0]=PRB n i (l ++ [0]):=by simp [PRB,List.append_assoc]
  rw [e,z4M hi hn,if_neg (by simp;omega),if_pos (by simp;omega)]
  rfl
theorem zed:(DEC []).1=11:=rfl
theorem zee (n i:Nat) (l:List Int):(DEX (PRB n i l)).1=14:=by
  unfold DEX DC0 PRB
  rw [if_neg (by simp),if_pos (by simp)]
  rfl
theorem zcQ {n i:Nat} (hn:n<2 ^ 64) (hi:i<2 ^ 64) {l:List Int} (hl:∀ x∈l,0≤x∧x≤255):∀ x∈PRB n i l,0≤x∧x≤255:=fun x hx=>by
  unfold PRB at hx
  rcases List.mem_cons.1 hx with rfl | hx
  · decide
  · rcases List.mem_append.1 hx with hx | hx
    · exact z2s hn x hx
    · rcases List.mem_append.1 hx with hx | hx
      · exact z2s hi x hx
      · exact hl x hx
theorem zef {d:Int} {root:List Int} {n i:Nat} {leaf bl:List Int} {E:Int} (h:(DEC bl).1=E) (hE:E≠0):MEMA d root n i leaf bl=E:=by
  unfold MEMA
  rw [h,if_pos hE]
theorem zeg {d:Int} {js:List (Nat × Nat)} {m n:Nat} {r1 r2 bl:List Int} {E:Int} (h:(DEX bl).1=E) (hE:E≠0):PFXA d js m r1 n r2 bl=E:=by
  unfold PFXA
  rw [h,if_pos hE]
end Go.Proofs.YthjeeblddipiiaaGreatDoor

namespace Go.Proofs.YthjeeblddipiiaaGreatDoor
open Go.RowKit
set_option maxRecDepth 100000
theorem zft {P:Program} {o:Oper} {a:Act} {w:World} {K K':Act→World→Prop} {Q Q':Exit→Act→World→Prop} (h:∀ a w,K a w→K' a w) (hq:∀ c a w,Q (.panic c) a w→Q' (.panic c) a w) (hl:LetsOut Q→LetsOut Q') (hh:o.wp P a w K Q):o.wp P a w K' Q':=by
  unfold Oper.wp at *
  generalize (execOp a.eval o).run P w=r at *
  cases r with
  | ok n w'=>
    cases n <;> simp only [Oper.upon] at hh ⊢ <;>
      first
        | exact h _ _ hh
        | exact Calls.mono hh (fun e w'' he=>by cases e <;> first | exact h _ _ he | exact hq _ _ _ he | exact hl he)
        | exact Rows.mono hh (fun _ _ he=>h _ _ he)
  | halt x w'=>cases x <;> simp only [Oper.upon] at hh ⊢ <;> first | exact hq _ _ _ hh | exact hh
theorem z8n {P:Program} {ops:Array Oper} {o:Oper} {a:Act} {w:World} {K:Act→World→Prop} {Q:Exit→Act→World→Prop} {E:Prop} (hw:Region.wanted o (yielded ops a.tmps)=true)
    (h:wpList P ops (fun e a w=>e=Exit.normal∧K a w) [o] a w):if Region.wanted o (yielded ops a.tmps)=true then Oper.wp P o a w K Q else E:=by
  rw [if_pos hw]
  unfold wpList at h
  rw [if_pos hw] at h
  rcases h with h | ⟨_,a',w',h',_⟩
  · exact zft (fun a w h=>by unfold wpList at h;exact h.2) (fun c a w h=>by cases h.1) (fun h=>by obtain ⟨_,_,h,_⟩:=h;cases h) h
  · cases h'
theorem z6Z {ops:Array Oper} {o:Oper} {a:Act} {w w':World} {K:Act→World→Prop} {Q:Exit→Act→World→Prop} {E:Prop} {v:Value} (hw:Region.wanted o (yielded ops a.tmps)=true)
    (hrun:(execOp a.eval o).run Tryz.prog w=.ok (.value v) w') (h:K (a.put o.dst v) w'):if Region.wanted o (yielded ops a.tmps)=true then Oper.wp Tryz.prog o a w K Q else E:=by
  rw [if_pos hw]
  unfold Oper.wp
  rw [hrun]
  exact h
end Go.Proofs.YthjeeblddipiiaaGreatDoor
