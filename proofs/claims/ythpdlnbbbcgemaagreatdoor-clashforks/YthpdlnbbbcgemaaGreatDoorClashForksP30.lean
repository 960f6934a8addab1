/- Texts of ClashForks, one behind the other: ProofSteps, ProofDecodeSteps, ProofDecode, ProofRoundPlain, ProofOwned, VerifyMember, VerifyRefClimbRegions. -/
import Derived.Test.YthpdlnbbbcgemaaGreatDoorClashForksP29
namespace Go.Proofs.YthpdlnbbbcgemaaGreatDoor
open Go.RowKit
set_option maxRecDepth 100000
def z6w (v:Value) (X Y:Nat) (nv:Value):Array Value:=#[v,.int .u64 (X:Int),.int .u64 (Y:Int),nv]
structure FRM (w0 w:World) (rb gl:Nat) (t:TypeId) (v:Value) (X Y:Nat) (nv:Value) (fl:Array Value) (tf:TypeId):Prop where
  bel:Below w0.heap.size w0 w
  rd:Has w rb (z6w v X Y nv) t
  fl:Has w gl fl tf
  ne:gl≠rb
  lb:w0.heap.size≤rb
  lg:w0.heap.size≤gl
def SRC (w0:World) (a:Option Addr) (c:Nat) (t:List Int):Prop:=Bytes w0 a t.length t∧t.length≤c∧t.length≤1000000
theorem FRM.drew {w0 w:World} {rb gl:Nat} {t:TypeId} {v:Value} {X Y:Nat} {nv:Value} {fl:Array Value} {tf:TypeId} (h:FRM w0 w rb gl t v X Y nv fl tf):FRM w0 w.drew rb gl t v X Y nv fl tf:=⟨h.bel.drew,h.rd,h.fl,h.ne,h.lb,h.lg⟩
theorem FRM.keep {w0 w w':World} {rb gl:Nat} {t:TypeId} {v:Value} {X Y:Nat} {nv:Value} {fl:Array Value} {tf:TypeId} (h:FRM w0 w rb gl t v X Y nv fl tf) (hb:Below w.heap.size w w'):FRM w0 w' rb gl t v X Y nv fl tf:=⟨h.bel.trans (hb.mono h.bel.size),h.rd.keep hb,h.fl.keep hb,h.ne,h.lb,h.lg⟩
theorem FRM.rest {w0 w:World} {rb gl:Nat} {t:TypeId} {v:Value} {X Y:Nat} {nv:Value} {fl:Array Value} {tf:TypeId} (h:FRM w0 w rb gl t v X Y nv fl tf) (v':Value):FRM w0 (w.setCell ⟨rb,0,none⟩ v') rb gl t v' X Y nv fl tf:=
  ⟨h.bel.setCell (p:=⟨rb,0,none⟩) h.lb _,h.rd.set 0 v',h.fl.other (a:=⟨rb,0,none⟩) h.ne _,h.ne,h.lb,h.lg⟩
theorem FRM.first {w0 w:World} {rb gl:Nat} {t:TypeId} {v:Value} {X Y:Nat} {nv:Value} {fl:Array Value} {tf:TypeId} (h:FRM w0 w rb gl t v X Y nv fl tf) (Z:Nat):FRM w0 (w.setCell ⟨rb,1,none⟩ (.int .u64 (Z:Int))) rb gl t v Z Y nv fl tf:=
  ⟨h.bel.setCell (p:=⟨rb,1,none⟩) h.lb _,h.rd.set 1 _,h.fl.other (a:=⟨rb,1,none⟩) h.ne _,h.ne,h.lb,h.lg⟩
theorem FRM.second {w0 w:World} {rb gl:Nat} {t:TypeId} {v:Value} {X Y:Nat} {nv:Value} {fl:Array Value} {tf:TypeId} (h:FRM w0 w rb gl t v X Y nv fl tf) (Z:Nat):FRM w0 (w.setCell ⟨rb,2,none⟩ (.int .u64 (Z:Int))) rb gl t v X Z nv fl tf:=
  ⟨h.bel.setCell (p:=⟨rb,2,none⟩) h.lb _,h.rd.set 2 _,h.fl.other (a:=⟨rb,2,none⟩) h.ne _,h.ne,h.lb,h.lg⟩
theorem FRM.nodes {w0 w:World} {rb gl:Nat} {t:TypeId} {v:Value} {X Y:Nat} {nv:Value} {fl:Array Value} {tf:TypeId} (h:FRM w0 w rb gl t v X Y nv fl tf) (nv':Value):FRM w0 (w.setCell ⟨rb,3,none⟩ nv') rb gl t v X Y nv' fl tf:=
  ⟨h.bel.setCell (p:=⟨rb,3,none⟩) h.lb _,h.rd.set 3 _,h.fl.other (a:=⟨rb,3,none⟩) h.ne _,h.ne,h.lb,h.lg⟩
theorem SRC.drop {w0:World} {b off c:Nat} {t:List Int} (h:SRC w0 (some ⟨b,off,none⟩) c t) (k:Nat) (hk:k≤t.length):SRC w0 (REST b off c k) (c - k) (t.drop k):=by
  obtain ⟨h1,h2,h3⟩:=h
  have:=h1.behind k hk h2
  refine ⟨?_,by rw [List.length_drop];omega,by rw [List.length_drop];omega⟩
  rw [List.length_drop]
  exact this
theorem SRC.addr {w0:World} {a:Option Addr} {c:Nat} {t:List Int} (h:SRC w0 a c t) (h0:0<t.length):∃ b off,a=some ⟨b,off,none⟩∧b<w0.heap.size∧∀ i,i<t.length→w0.cell? ⟨b,off+i,none⟩=some (.int .u8 (t.getD i 0)):=h.1.2.1 h0
theorem z9l {w0 w:World} {rb gl:Nat} {t:TypeId} {X Y:Nat} {nv:Value} {fl:Array Value} {tf:TypeId} {a:Option Addr} {c:Nat} {l:List Int} (F:FRM w0 w rb gl t (.slice a l.length c) X Y nv fl tf) (S:SRC w0 a c l) (f:Nat) (hl:(LNG l).2.2≠0):
    Calls Tryz.prog 101 #[.pointer (some ⟨rb,0,none⟩),.pointer (some ⟨rb,f,none⟩)] w.drew fun e w'=>e=.returned (.int .i64 (LNG l).2.2)∧Below w0.heap.size w0 w':=by
  have cl:=z7a a l.length c l w.drew ((S.1.below F.bel).below ((Below.refl _ _).drew)) S.2.1 (by have:=S.2.2;omega)
  refine (zbL rb f _ _ _ _ w.drew hl (F.drew.rd.cell 0) cl).mono ?_
  rintro e w' ⟨rfl,rfl⟩
  exact ⟨rfl,F.drew.bel⟩
theorem zbT {w0 w:World} {rb gl:Nat} {t:TypeId} {X Y:Nat} {nv:Value} {fl:Array Value} {tf:TypeId} {a:Option Addr} {c:Nat} {l:List Int} (F:FRM w0 w rb gl t (.slice a l.length c) X Y nv fl tf) (S:SRC w0 a c l) (hl:(LNG l).2.2=0):
    ∃ (Z m:Nat) (a':Option Addr) (c':Nat),Z<2 ^ 64∧LNG l=((Z:Int),(m:Int),0)∧SRC w0 a' c' (l.drop m)∧Calls Tryz.prog 101 #[.pointer (some ⟨rb,0,none⟩),.pointer (some ⟨rb,1,none⟩)] w.drew fun e w'=>e=.returned (.int .i64 0)∧FRM w0 w' rb gl t (.slice a' (l.drop m).length c') Z Y nv fl tf:=by
  obtain ⟨Z,m,h1,h2,h3,h4,h5⟩:=z1V S.1.2.2 hl
  obtain ⟨b,off,rfl,hb,hcs⟩:=S.addr (by omega)
  have cl:=z7a (some ⟨b,off,none⟩) l.length c l w.drew ((S.1.below F.bel).below ((Below.refl _ _).drew)) S.2.1 (by have:=S.2.2;omega)
  rw [show LG l l.length 10 0 0=LNG l from rfl,h4] at cl
  refine ⟨Z,m,_,_,h1,h4,S.drop m h3,(z7P rb 1 (by decide) (Z:Int) b off l.length c m h3 S.2.1 _ w.drew (F.drew.rd.cell 0) (F.drew.rd.cell 1) (F.drew.rd.frozen 0) (F.drew.rd.frozen 1) cl).mono ?_⟩
  rintro e w' ⟨rfl,rfl⟩
  refine ⟨rfl,?_⟩
  rw [List.length_drop]
  exact ((F.drew.drew).first Z).rest _
theorem za1 {w0 w:World} {rb gl:Nat} {t:TypeId} {X Y:Nat} {nv:Value} {fl:Array Value} {tf:TypeId} {a:Option Addr} {c:Nat} {l:List Int} (F:FRM w0 w rb gl t (.slice a l.length c) X Y nv fl tf) (S:SRC w0 a c l) (hl:(LNG l).2.2=0):
    ∃ (Z m:Nat) (a':Option Addr) (c':Nat),Z<2 ^ 64∧LNG l=((Z:Int),(m:Int),0)∧SRC w0 a' c' (l.drop m)∧Calls Tryz.prog 101 #[.pointer (some ⟨rb,0,none⟩),.pointer (some ⟨rb,2,none⟩)] w.drew fun e w'=>e=.returned (.int .i64 0)∧FRM w0 w' rb gl t (.slice a' (l.drop m).length c') X Z nv fl tf:=by
  obtain ⟨Z,m,h1,h2,h3,h4,h5⟩:=z1V S.1.2.2 hl
  obtain ⟨b,off,rfl,hb,hcs⟩:=S.addr (by omega)
  have cl:=z7a (some ⟨b,off,none⟩) l.length c l w.drew ((S.1.below F.bel).below ((Below.refl _ _).drew)) S.2.1 (by have:=S.2.2;omega)
  rw [show LG l l.length 10 0 0=LNG l from rfl,h4] at cl
  refine ⟨Z,m,_,_,h1,h4,S.drop m h3,(z7P rb 2 (by decide) (Z:Int) b off l.length c m h3 S.2.1 _ w.drew (F.drew.rd.cell 0) (F.drew.rd.cell 2) (F.drew.rd.frozen 0) (F.drew.rd.frozen 2) cl).mono ?_⟩
  rintro e w' ⟨rfl,rfl⟩
  refine ⟨rfl,?_⟩
  rw [List.length_drop]
  exact ((F.drew.drew).second Z).rest _
theorem zdm {w0 w:World} {rb gl:Nat} {t:TypeId} {X Y:Nat} {nv:Value} {fl:Array Value} {tf:TypeId} {a:Option Addr} {c:Nat} {l:List Int} (F:FRM w0 w rb gl t (.slice a l.length c) X Y nv fl tf) (S:SRC w0 a c l) (K:Int):
    (l.length=0∧Calls Tryz.prog 100 #[.pointer (some ⟨rb,0,none⟩),.int .u8 K] w fun e w'=>e=.returned (.int .i64 11)∧w=w')∨
    (¬ l.length=0∧l.getD 0 0≠K∧Calls Tryz.prog 100 #[.pointer (some ⟨rb,0,none⟩),.int .u8 K] w fun e w'=>e=.returned (.int .i64 14)∧w=w')∨
    (¬ l.length=0∧l.getD 0 0=K∧∃ a' c',SRC w0 a' c' (l.drop 1)∧Calls Tryz.prog 100 #[.pointer (some ⟨rb,0,none⟩),.int .u8 K] w fun e w'=>e=.returned (.int .i64 0)∧FRM w0 w' rb gl t (.slice a' (l.drop 1).length c') X Y nv fl tf):=by
  by_cases h0:l.length=0
  · refine .inl ⟨h0,?_⟩
    have hc:=F.rd.cell 0
    rw [show (z6w (.slice a l.length c) X Y nv)[0]?=some (.slice a l.length c) from rfl,h0] at hc
    exact zdj rb K a c w hc
  · obtain ⟨b,off,rfl,hb,hcs⟩:=S.addr (by omega)
    have hx:w.cell? ⟨b,off,none⟩=some (.int .u8 (l.getD 0 0)):=by
      have:=hcs 0 (by omega)
      rw [Nat.add_zero] at this
      exact (F.bel.cell (p:=⟨b,off,none⟩) hb).trans this
    have hc:=F.rd.cell 0
    rw [show (z6w (.slice (some ⟨b,off,none⟩) l.length c) X Y nv)[0]?=some (.slice (some ⟨b,off,none⟩) l.length c) from rfl] at hc
    by_cases hK:l.getD 0 0=K
    · refine .inr (.inr ⟨h0,hK,_,_,S.drop 1 (by omega),?_⟩)
      obtain ⟨n,hn⟩:∃ n,l.length=n+1:=⟨l.length - 1,by omega⟩
      rw [hn] at hc
      refine (zgb rb K b off n c (by have:=S.2.1;omega) w hc (F.rd.frozen 0) (by rw [← hK];exact hx)).mono ?_
      rintro e w' ⟨rfl,rfl⟩
      refine ⟨rfl,?_⟩
      rw [List.length_drop,hn,Nat.add_sub_cancel]
      exact F.rest _
    · exact .inr (.inl ⟨h0,hK,zbK rb K _ b off l.length c w hK (by omega) hc hx⟩)
theorem z4n {w0 w:World} {rb gl:Nat} {t:TypeId} {X Y:Nat} {nv:Value} {fl:Array Value} {tf:TypeId} {a:Option Addr} {c:Nat} {l:List Int} (F:FRM w0 w rb gl t (.slice a l.length c) X Y nv fl tf) (S:SRC w0 a c l) (N:Nat) (hN:N≤1000):
    (l.length<32*N∧Calls Tryz.prog 102 #[.pointer (some ⟨rb,0,none⟩),.pointer (some ⟨rb,3,none⟩),.int .i64 (N:Int)] w fun e w'=>e=.returned (.int .i64 11)∧w=w')∨
    (¬ l.length<32*N∧32*N<l.length∧Calls Tryz.prog 102 #[.pointer (some ⟨rb,0,none⟩),.pointer (some ⟨rb,3,none⟩),.int .i64 (N:Int)] w fun e w'=>e=.returned (.int .i64 13)∧w=w')∨
    (l.length=32*N∧Calls Tryz.prog 102 #[.pointer (some ⟨rb,0,none⟩),.pointer (some ⟨rb,3,none⟩),.int .i64 (N:Int)] w fun e w'=>e=.returned (.int .i64 0)∧∃ g,FRM w0 w' rb gl t (.slice a l.length c) X Y (.slice (some ⟨g,0,none⟩) N N) fl tf∧Has w' g (z01 l).toArray 24∧w0.heap.size≤g∧g≠rb∧g≠gl):=by
  have hc:=F.rd.cell 0
  rw [show (z6w (.slice a l.length c) X Y nv)[0]?=some (.slice a l.length c) from rfl] at hc
  rcases Nat.lt_trichotomy l.length (32*N) with h | h | h
  · exact .inl ⟨h,zbR rb 3 N l.length c a hN h w hc⟩
  · refine .inr (.inr ⟨h,?_⟩)
    have hb:=S.1.below F.bel
    rw [h] at hb hc
    refine (zdl rb 3 N c a hN l w hb (by have:=S.2.1;omega) F.rd.lt hc _ (F.rd.cell 3) (F.rd.frozen 3)).mono ?_
    rintro e w' ⟨rfl,wx,hbx,hsz,hh,rfl⟩
    have hrb:=F.rd.lt
    have hgl:=F.fl.lt
    refine ⟨rfl,w.heap.size,((F.keep hbx).nodes _),hh.other (a:=⟨rb,3,none⟩) (by show w.heap.size≠rb;omega) _,F.bel.size,by omega,by omega⟩
  · exact .inr (.inl ⟨by omega,h,za0 rb 3 N l.length c a hN h w hc⟩)
end Go.Proofs.YthpdlnbbbcgemaaGreatDoor

namespace Go.Proofs.YthpdlnbbbcgemaaGreatDoor
open Go.RowKit
set_option maxRecDepth 100000
def RPP (w0:World) (rb gl:Nat) (t:TypeId) (fl:Array Value) (tf:TypeId) (K:Int) (chk:Nat→Bool) (PF:Nat→Nat→Int × List Nat) (D:DANS):Nat→World→Prop
  | 0,w=>∃ a c l,FRM w0 w rb gl t (.slice a l.length c) 0 0 (.slice none 0 0) fl tf∧SRC w0 a c l∧D=DC0 K chk PF l
  | 1,w=>∃ a c l,FRM w0 w rb gl t (.slice a l.length c) 0 0 (.slice none 0 0) fl tf∧SRC w0 a c l∧D=DC1 chk PF l
  | 2,w=>∃ a c l X,FRM w0 w rb gl t (.slice a l.length c) X 0 (.slice none 0 0) fl tf∧SRC w0 a c l∧X<2 ^ 64∧D=DC2 PF X l
  | 3,w=>∃ a c l X Y,FRM w0 w rb gl t (.slice a l.length c) X Y (.slice none 0 0) fl tf∧SRC w0 a c l∧X<2 ^ 64∧Y<2 ^ 64∧D=DC3 PF X Y l
  | _,w=>∃ a c l X Y N g,FRM w0 w rb gl t (.slice a l.length c) X Y (.slice (some ⟨g,0,none⟩) N N) fl tf∧SRC w0 a c l∧X<2 ^ 64∧Y<2 ^ 64∧D=(0,X,Y,N,l)∧l.length=32*N∧Has w g (z01 l).toArray 24∧w0.heap.size≤g∧g≠rb∧g≠gl
def RFIN (w0:World) (D:DANS) (E:Int) (w:World):Prop:=D=DERR E∧Below w0.heap.size w0 w
theorem z1W {f:Nat} {args:Array Value} {w:World} {P:World→Prop} {Fin:Int→World→Prop} {E:Int} {C:World→Prop} (h:Calls Tryz.prog f args w fun e w'=>e=.returned (.int .i64 E)∧C w') (h0:E=0→∀ w',C w'→P w') (h1:E≠0→∀ w',C w'→Fin E w'):Calls Tryz.prog f args w (STP P Fin):=
  h.mono fun _ w' ⟨he,hc⟩=>⟨E,he,fun e0=>h0 e0 w' hc,fun e1=>h1 e1 w' hc⟩
theorem zaM {w0 W:World} (hT:Tabled w0) (h0:0<w0.heap.size) (h:Below w0.heap.size w0 W):Tabled W∧0<W.heap.size:=⟨hT.below h0 h,Nat.lt_of_lt_of_le h0 h.size⟩
theorem zgR {w0:World} {rb gl:Nat} {t:TypeId} {fl:Array Value} {tf:TypeId} {chk:Nat→Bool} {PF:Nat→Nat→Int × List Nat} {D:DANS} (w:World) (h:RPP w0 rb gl t fl tf 80 chk PF D 0 w):
    Calls Tryz.prog 75 #[.pointer (some ⟨rb,0,none⟩)] w (STP (RPP w0 rb gl t fl tf 80 chk PF D 1) (RFIN w0 D)):=by
  obtain ⟨a,c,l,F,S,hD⟩:=h
  rcases zdm F S 80 with ⟨h1,c1⟩ | ⟨h1,h2,c1⟩ | ⟨h1,h2,a',c',S',c1⟩
  · refine z1W (z5T rb w 11 _ c1) (fun e=>absurd e (by decide)) fun _ w' hw=>?_
    subst hw
    exact ⟨by rw [hD,DC0,if_pos h1],F.bel⟩
  · refine z1W (z5T rb w 14 _ c1) (fun e=>absurd e (by decide)) fun _ w' hw=>?_
    subst hw
    exact ⟨by rw [hD,DC0,if_neg h1,if_pos h2],F.bel⟩
  · refine z1W (z5T rb w 0 _ c1) (fun _ w' hw=>⟨a',c',_,hw,S',?_⟩) fun e=>absurd rfl e
    rw [hD,DC0,if_neg h1,if_neg (by simpa using h2)]
theorem zgS {w0:World} {rb gl:Nat} {t:TypeId} {fl:Array Value} {tf:TypeId} {PF:Nat→Nat→Int × List Nat} {D:DANS} (w:World) (h:RPP w0 rb gl t fl tf 80 (fun _=>false) PF D 1 w):
    Calls Tryz.prog 76 #[.pointer (some ⟨rb,0,none⟩)] w (STP (RPP w0 rb gl t fl tf 80 (fun _=>false) PF D 2) (RFIN w0 D)):=by
  obtain ⟨a,c,l,F,S,hD⟩:=h
  by_cases hl:(LNG l).2.2=0
  · obtain ⟨Z,m,a',c',hZ,e1,S',c1⟩:=zbT F S hl
    refine z1W (z9j rb w 0 _ c1) (fun _ w' hw=>⟨a',c',_,Z,hw,S',hZ,?_⟩) fun e=>absurd rfl e
    rw [hD,DC1,if_neg (by simpa using hl),if_neg (by decide),e1]
    rfl
  · refine z1W (z9j rb w _ _ (z9l F S 1 hl)) (fun e=>absurd e hl) fun _ w' hw=>⟨?_,hw⟩
    rw [hD,DC1,if_pos hl]
theorem zgT {w0:World} {rb gl:Nat} {t:TypeId} {fl:Array Value} {tf:TypeId} {chk:Nat→Bool} {PF:Nat→Nat→Int × List Nat} {D:DANS} (w:World) (h:RPP w0 rb gl t fl tf 80 chk PF D 2 w):
    Calls Tryz.prog 77 #[.pointer (some ⟨rb,0,none⟩)] w (STP (RPP w0 rb gl t fl tf 80 chk PF D 3) (RFIN w0 D)):=by
  obtain ⟨a,c,l,X,F,S,hX,hD⟩:=h
  by_cases hl:(LNG l).2.2=0
  · obtain ⟨Z,m,a',c',hZ,e1,S',c1⟩:=za1 F S hl
    refine z1W (z9k rb w 0 _ c1) (fun _ w' hw=>⟨a',c',_,X,Z,hw,S',hX,hZ,?_⟩) fun e=>absurd rfl e
    rw [hD,DC2,if_neg (by simpa using hl),e1]
    rfl
  · refine z1W (z9k rb w _ _ (z9l F S 2 hl)) (fun e=>absurd e hl) fun _ w' hw=>⟨?_,hw⟩
    rw [hD,DC2,if_pos hl]
theorem zgU {w0:World} {rb gl:Nat} {t:TypeId} {fl:Array Value} {tf:TypeId} {chk:Nat→Bool} {D:DANS} (hT:Tabled w0) (h0:0<w0.heap.size) (w:World) (h:RPP w0 rb gl t fl tf 80 chk PPA D 3 w):
    Calls Tryz.prog 78 #[.pointer (some ⟨rb,0,none⟩)] w (STP (RPP w0 rb gl t fl tf 80 chk PPA D 4) (RFIN w0 D)):=by
  obtain ⟨a,c,l,X,Y,F,S,hX,hY,hD⟩:=h
  obtain ⟨hT',h0'⟩:=zaM hT h0 F.drew.bel
  have cp:=z4C X Y w.drew hT' h0'
  have hfew:=z70 X Y
  have hPF:(PPA) X Y=PPA X Y:=rfl
  unfold DC3 at hD
  rw [hPF] at hD
  by_cases hE:(PPA X Y).1=0
  · rw [if_neg (by simpa using hE)] at hD
    rw [hE] at cp
    obtain ⟨N,hN⟩:∃ N,(PPA X Y).2.length=N:=⟨_,rfl⟩
    rw [hN] at cp hD hfew
    rcases Nat.lt_trichotomy l.length (32*N) with h1 | h1 | h1
    · refine z1W (z4W rb w X Y 11 N (fun w'=>Below w0.heap.size w0 w') (F.rd.cell 1) (F.rd.cell 2) (cp.mono ?_)) (fun e=>absurd e (by decide)) fun _ w' hw=>⟨by rw [hD,if_pos h1],hw⟩
      rintro e w1 ⟨v,rfl,hrow,hb⟩
      obtain ⟨av,cv,rfl,_⟩:=z1R hrow
      have F1:=(F.drew.keep hb).drew
      refine ⟨av,cv,rfl,?_⟩
      rcases z4n F1 S N (by omega) with ⟨_,c1⟩ | ⟨h2,_,_⟩ | ⟨h2,_⟩
      · exact c1.mono fun e w2 ⟨he,hw⟩=>⟨he,by rw [← hw];exact F1.bel⟩
      · omega
      · omega
    · refine z1W (z4W rb w X Y 0 N (fun w'=>∃ g,FRM w0 w' rb gl t (.slice a l.length c) X Y (.slice (some ⟨g,0,none⟩) N N) fl tf∧Has w' g (z01 l).toArray 24∧w0.heap.size≤g∧g≠rb∧g≠gl) (F.rd.cell 1) (F.rd.cell 2) (cp.mono ?_)) (fun _ w' hw=>?_) fun e=>absurd rfl e
      · rintro e w1 ⟨v,rfl,hrow,hb⟩
        obtain ⟨av,cv,rfl,_⟩:=z1R hrow
        have F1:=(F.drew.keep hb).drew
        refine ⟨av,cv,rfl,?_⟩
        rcases z4n F1 S N (by omega) with ⟨h2,_⟩ | ⟨h2,h3,_⟩ | ⟨_,c1⟩
        · omega
        · omega
        · exact c1
      · obtain ⟨g,F2,hg,hg1,hg2,hg3⟩:=hw
        refine ⟨a,c,l,X,Y,N,g,F2,S,hX,hY,?_,h1,hg,hg1,hg2,hg3⟩
        rw [hD,if_neg (by omega),if_neg (by omega)]
    · refine z1W (z4W rb w X Y 13 N (fun w'=>Below w0.heap.size w0 w') (F.rd.cell 1) (F.rd.cell 2) (cp.mono ?_)) (fun e=>absurd e (by decide)) fun _ w' hw=>⟨by rw [hD,if_neg (by omega),if_pos h1],hw⟩
      rintro e w1 ⟨v,rfl,hrow,hb⟩
      obtain ⟨av,cv,rfl,_⟩:=z1R hrow
      have F1:=(F.drew.keep hb).drew
      refine ⟨av,cv,rfl,?_⟩
      rcases z4n F1 S N (by omega) with ⟨h2,_⟩ | ⟨_,_,c1⟩ | ⟨h2,_⟩
      · omega
      · exact c1.mono fun e w2 ⟨he,hw⟩=>⟨he,by rw [← hw];exact F1.bel⟩
      · omega
  · refine z1W (zbS rb w X Y _ hE (fun w'=>Below w0.heap.size w0 w') (F.rd.cell 1) (F.rd.cell 2) (cp.mono ?_)) (fun e=>absurd e hE) fun _ w' hw=>⟨by rw [hD,if_pos hE],hw⟩
    rintro e w1 ⟨v,rfl,hrow,hb⟩
    exact ⟨v,rfl,F.drew.bel.trans (hb.mono F.drew.bel.size)⟩
end Go.Proofs.YthpdlnbbbcgemaaGreatDoor

namespace Go.Proofs.YthpdlnbbbcgemaaGreatDoor
open Go.RowKit
set_option maxRecDepth 100000
def DECD (w:World) (D:DANS) (e:Ending) (w':World):Prop:=
  ∃ v,e=.returned (.tuple #[v,.int .i64 D.1])∧Below w.heap.size w w'∧((D.1≠0∧v=.agg #[.int .u64 0,.int .u64 0,.slice none 0 0])∨(D.1=0∧D.2.1<2 ^ 64∧D.2.2.1<2 ^ 64∧D.2.2.2.2.length=32*D.2.2.2.1∧(∀ x∈D.2.2.2.2,0≤x∧x≤255)∧∃ g,v=.agg #[.int .u64 (D.2.1:Int),.int .u64 (D.2.2.1:Int),.slice (some ⟨g,0,none⟩) D.2.2.2.1 D.2.2.2.1]∧w.heap.size≤g∧Has w' g (z01 D.2.2.2.2).toArray 24))
set_option maxHeartbeats 2000000 in
theorem z3A (a:Option Addr) (n c:Nat) (hn:n≤1000000) (l:List Int) (w:World) (hB:Bytes w a n l) (hc:n≤c) (hT:Tabled w) (h0:0<w.heap.size):
    Calls Tryz.prog 43 #[.slice a n c] w (DECD w (DEX l)):=by
  have hln:l.length=n:=hB.1
  obtain ⟨D,hD⟩:∃ D,DEX l=D:=⟨_,rfl⟩
  rw [hD]
  have hDD:D=DC0 80 (fun _=>false) PPA l:=hD.symm
  have HA:Aside (Bytes w a n l∧l.length=n∧n≤c∧n≤1000000∧D=DC0 80 (fun _=>false) PPA l∧Tabled w∧0<w.heap.size):=⟨hB,hln,hc,hn,hDD,hT,h0⟩
  clear hB hc hn hD hT h0 hln hDD
  go_enter Tryz.func43,Tryz.ntmps43
  go_wp2_with fail
  have hR:=Has.new w #[.int .u64 0,.int .u64 0,.slice none 0 0] 50
  have hb0:Below w.heap.size w (w.alloc (.cells #[.int .u64 0,.int .u64 0,.slice none 0 0] 50)):=(Below.refl _ _).alloc (Nat.le_refl _) _
  have hs0:(w.alloc (.cells #[.int .u64 0,.int .u64 0,.slice none 0 0] 50)).heap.size=w.heap.size+1:=by simp
  generalize w.alloc (.cells #[.int .u64 0,.int .u64 0,.slice none 0 0] 50)=w0 at *
  rw [← hs0]
  obtain ⟨b1,b2,b3,b4,b5,b6,b7⟩:=HA.out
  have hP0:RPP w0 w0.heap.size (w0.heap.size+1) 118 #[.func (.func 75) #[.pointer (some ⟨w0.heap.size,0,none⟩)] #[],.func (.func 76) #[.pointer (some ⟨w0.heap.size,0,none⟩)] #[],.func (.func 77) #[.pointer (some ⟨w0.heap.size,0,none⟩)] #[],.func (.func 78) #[.pointer (some ⟨w0.heap.size,0,none⟩)] #[]] 110 80 (fun _=>false) PPA D 0
      ((w0.alloc (.cells #[.slice a n c,.int .u64 0,.int .u64 0,.slice none 0 0] 118)).alloc (.cells #[.func (.func 75) #[.pointer (some ⟨w0.heap.size,0,none⟩)] #[],.func (.func 76) #[.pointer (some ⟨w0.heap.size,0,none⟩)] #[],.func (.func 77) #[.pointer (some ⟨w0.heap.size,0,none⟩)] #[],.func (.func 78) #[.pointer (some ⟨w0.heap.size,0,none⟩)] #[]] 110)):=by
    refine ⟨a,c,l,⟨((Below.refl _ _).alloc (Nat.le_refl _) _).alloc (by simp) _,?_,?_,by omega,Nat.le_refl _,by omega⟩,⟨?_,by omega,by omega⟩,b5⟩
    · rw [b2]
      exact (Has.new w0 _ _).alloc _
    · exact Has.at _ _ _ (by simp)
    · rw [b2]
      exact b1.below hb0
  obtain ⟨hT0,h00⟩:=zaM b6 b7 hb0
  have key:=z6v w0.heap.size (w0.heap.size+1) _ (RFIN w0 D)
    (fun W h=>by obtain ⟨_,_,_,F,_⟩:=h;exact F.fl.cell 0) (fun W h=>by obtain ⟨_,_,_,F,_⟩:=h;exact F.fl.cell 1) (fun W h=>by obtain ⟨_,_,_,_,F,_⟩:=h;exact F.fl.cell 2) (fun W h=>by obtain ⟨_,_,_,_,_,F,_⟩:=h;exact F.fl.cell 3)
    (fun W h=>zgR W h) (fun W h=>zgS W h) (fun W h=>zgT W h) (fun W h=>zgU hT0 h00 W h) _ hP0
  have R0:Aside (Below w.heap.size w w0∧Has w0 w.heap.size #[.int .u64 0,.int .u64 0,.slice none 0 0] 50∧w0.heap.size=w.heap.size+1):=⟨hb0,hR,hs0⟩
  clear hP0 hT0 h00 b1 b2 b3 b4 b5 b6 b7 HA hR hb0 hs0
  refine key.mono ?_
  rintro e w1 ⟨E,rfl,h1,h2⟩
  clear key
  by_cases hE:E=0
  · subst hE
    obtain ⟨a',c',l',X,Y,N,g,F,S,hX,hY,hD,hl,hg,hg1,hg2,hg3⟩:=h1 rfl
    obtain ⟨r1,r2,r3⟩:=R0.out
    have hH:=r2.below F.bel (by omega)
    have x0:w1.cell? ⟨w.heap.size,0,none⟩=some (.int .u64 0):=hH.cell 0
    have x1:w1.cell? ⟨w.heap.size,1,none⟩=some (.int .u64 0):=hH.cell 1
    have x2:w1.cell? ⟨w.heap.size,2,none⟩=some (.slice none 0 0):=hH.cell 2
    have f0:=hH.frozen 0
    have f1:=hH.frozen 1
    have f2:=hH.frozen 2
    have y1:w1.cell? ⟨w0.heap.size,1,none⟩=some (.int .u64 (X:Int)):=F.rd.cell 1
    have y2:w1.cell? ⟨w0.heap.size,2,none⟩=some (.int .u64 (Y:Int)):=F.rd.cell 2
    have y3:w1.cell? ⟨w0.heap.size,3,none⟩=some (.slice (some ⟨g,0,none⟩) N N):=F.rd.cell 3
    have R:Aside (Below w.heap.size w w1∧X<2 ^ 64∧Y<2 ^ 64∧D=(0,X,Y,N,l')∧l'.length=32*N∧(∀ x∈l',0≤x∧x≤255)∧Has w1 g (z01 l').toArray 24∧w0.heap.size≤g∧w0.heap.size=w.heap.size+1∧Has w1 w.heap.size #[.int .u64 0,.int .u64 0,.slice none 0 0] 50):=⟨r1.trans (F.bel.mono r1.size),hX,hY,hD,hl,S.1.2.2,hg,hg1,r3,hH⟩
    clear h1 h2 F S hX hY hD hl hg hg1 hg2 hg3 r1 r2 r3 hH R0
    go_wp2
    obtain ⟨r1,r2,r3,r4,r5,r6,r7,r8,r9,r10⟩:=R.out
    have hH:=((r10.set 0 (.int .u64 (X:Int))).set 1 (.int .u64 (Y:Int))).set 2 (.slice (some ⟨g,0,none⟩) N N)
    have hg:=((r7.other (a:=⟨w.heap.size,0,none⟩) (by show g≠w.heap.size;omega) (.int .u64 (X:Int))).other (a:=⟨w.heap.size,1,none⟩) (by show g≠w.heap.size;omega) (.int .u64 (Y:Int))).other (a:=⟨w.heap.size,2,none⟩) (by show g≠w.heap.size;omega) (.slice (some ⟨g,0,none⟩) N N)
    have hb:=((r1.setCell (p:=⟨w.heap.size,0,none⟩) (Nat.le_refl _) (.int .u64 (X:Int))).setCell (p:=⟨w.heap.size,1,none⟩) (Nat.le_refl _) (.int .u64 (Y:Int))).setCell (p:=⟨w.heap.size,2,none⟩) (Nat.le_refl _) (.slice (some ⟨g,0,none⟩) N N)
    clear x0 x1 x2 f0 f1 f2 y1 y2 y3 R r1 r10 r7
    generalize ((w1.setCell ⟨w.heap.size,0,none⟩ (.int .u64 (X:Int))).setCell ⟨w.heap.size,1,none⟩ (.int .u64 (Y:Int))).setCell ⟨w.heap.size,2,none⟩ (.slice (some ⟨g,0,none⟩) N N)=wf at *
    have z0:wf.cell? ⟨w.heap.size,0,none⟩=some (.int .u64 (X:Int)):=hH.cell 0
    have z1:wf.cell? ⟨w.heap.size,1,none⟩=some (.int .u64 (Y:Int)):=hH.cell 1
    have z2:wf.cell? ⟨w.heap.size,2,none⟩=some (.slice (some ⟨g,0,none⟩) N N):=hH.cell 2
    rw [r4]
    refine bodyPost_ret (v:=.tuple #[.agg #[.int .u64 (X:Int),.int .u64 (Y:Int),.slice (some ⟨g,0,none⟩) N N],.int .i64 0]) ?_ rfl ⟨_,rfl,hb,.inr ⟨rfl,r2,r3,r5,r6,g,rfl,by omega,hg⟩⟩
    simp [results,Tryz.f43,go_sem,z0,z1,z2]
  · have hE':(E != 0)=true:=by simp [hE]
    obtain ⟨hD,hbw⟩:=h2 hE
    obtain ⟨r1,r2,r3⟩:=R0.out
    have hH:=r2.below hbw (by omega)
    have x0:w1.cell? ⟨w.heap.size,0,none⟩=some (.int .u64 0):=hH.cell 0
    have x1:w1.cell? ⟨w.heap.size,1,none⟩=some (.int .u64 0):=hH.cell 1
    have x2:w1.cell? ⟨w.heap.size,2,none⟩=some (.slice none 0 0):=hH.cell 2
    have f0:=hH.frozen 0
    have f1:=hH.frozen 1
    have f2:=hH.frozen 2
    have R:Aside (Below w.heap.size w w1∧D=DERR E∧¬ E=0∧Has w1 w.heap.size #[.int .u64 0,.int .u64 0,.slice none 0 0] 50):=⟨r1.trans (hbw.mono r1.size),hD,hE,hH⟩
    clear h1 h2 hD hbw r1 r2 r3 hH R0 hE
    go_wp2
    obtain ⟨r1,r4,r2,r10⟩:=R.out
    have hH:=((r10.set 0 (.int .u64 0)).set 1 (.int .u64 0)).set 2 (.slice none 0 0)
    have hb:=((r1.setCell (p:=⟨w.heap.size,0,none⟩) (Nat.le_refl _) (.int .u64 0)).setCell (p:=⟨w.heap.size,1,none⟩) (Nat.le_refl _) (.int .u64 0)).setCell (p:=⟨w.heap.size,2,none⟩) (Nat.le_refl _) (.slice none 0 0)
    clear x0 x1 x2 f0 f1 f2 R r1 r10
    generalize ((w1.setCell ⟨w.heap.size,0,none⟩ (.int .u64 0)).setCell ⟨w.heap.size,1,none⟩ (.int .u64 0)).setCell ⟨w.heap.size,2,none⟩ (.slice none 0 0)=wf at *
    have z0:wf.cell? ⟨w.heap.size,0,none⟩=some (.int .u64 0):=hH.cell 0
    have z1:wf.cell? ⟨w.heap.size,1,none⟩=some (.int .u64 0):=hH.cell 1
    have z2:wf.cell? ⟨w.heap.size,2,none⟩=some (.slice none 0 0):=hH.cell 2
    rw [r4]
    refine bodyPost_ret (v:=.tuple #[.agg #[.int .u64 0,.int .u64 0,.slice none 0 0],.int .i64 E]) ?_ rfl ⟨_,rfl,hb,.inl ⟨r2,rfl⟩⟩
    simp [results,Tryz.f43,go_sem,z0,z1,z2]
end Go.Proofs.YthpdlnbbbcgemaaGreatDoor

namespace Go.Proofs.YthpdlnbbbcgemaaGreatDoor
open Go.RowKit
theorem z6x (X:Nat) (t:List Int):(z0w X ++ t).drop (NTOP X+1)=t:=by
  rw [List.drop_append_of_le_length (by rw [z17];omega),List.drop_of_length_le (by rw [z17];omega),List.nil_append]
theorem zf0 {K:Int} {chk:Nat→Bool} {PF:Nat→Nat→Int × List Nat} {X Y:Nat} (hX:X<2 ^ 64) (hY:Y<2 ^ 64) (hc:chk X=false) (t:List Int):DC0 K chk PF (K :: (z0w X ++ (z0w Y ++ t)))=DC3 PF X Y t:=by
  have e1:=z7Q hX (z0w Y ++ t)
  have e2:=z7Q hY t
  unfold DC0
  rw [if_neg (by simp),if_neg (by simp),List.drop_succ_cons,List.drop_zero]
  unfold DC1
  rw [e1]
  dsimp only
  rw [if_neg (by simp),Int.toNat_natCast,Int.toNat_natCast,hc,if_neg (by simp),z6x]
  unfold DC2
  rw [e2]
  dsimp only
  rw [if_neg (by simp),Int.toNat_natCast,Int.toNat_natCast,z6x]
theorem z7b {K:Int} {chk:Nat→Bool} {PF:Nat→Nat→Int × List Nat} {l:List Int} (hr:∀ x∈l,0≤x∧x≤255) {X Y N:Nat} {t:List Int} (h:DC0 K chk PF l=(0,X,Y,N,t)):
    X<2 ^ 64∧Y<2 ^ 64∧chk X=false∧(PF X Y).1=0∧N=(PF X Y).2.length∧t.length=32*N∧l=K :: (z0w X ++ (z0w Y ++ t))∧(∀ x∈t,0≤x∧x≤255):=by
  have bad:∀ {E:Int},DERR E=(0,X,Y,N,t)→E=0:=fun h=>congrArg Prod.fst h
  unfold DC0 at h
  split at h
  · exact absurd (bad h) (by decide)
  rename_i h0
  split at h
  · exact absurd (bad h) (by decide)
  rename_i hK
  have hr1:∀ x∈l.drop 1,0≤x∧x≤255:=fun x hx=>hr x (List.mem_of_mem_drop hx)
  have hl:l=K :: l.drop 1:=by
    cases l with
    | nil=>simp at h0
    | cons a l=>
      have:a=K:=by simpa using hK
      simp [this]
  unfold DC1 at h
  split at h
  · rename_i he
    exact absurd (bad h) he
  rename_i he
  obtain ⟨Z,m,hZ,_,hm,e1,s1⟩:=z1V hr1 (by simpa using he)
  rw [e1] at h
  dsimp only at h
  rw [Int.toNat_natCast,Int.toNat_natCast] at h
  split at h
  · exact absurd (bad h) (by decide)
  rename_i hchk
  have hr2:∀ x∈(l.drop 1).drop m,0≤x∧x≤255:=fun x hx=>hr1 x (List.mem_of_mem_drop hx)
  unfold DC2 at h
  split at h
  · rename_i he2
    exact absurd (bad h) he2
  rename_i he2
  obtain ⟨Z2,m2,hZ2,_,hm2,e2,s2⟩:=z1V hr2 (by simpa using he2)
  rw [e2] at h
  dsimp only at h
  rw [Int.toNat_natCast,Int.toNat_natCast] at h
  unfold DC3 at h
  split at h
  · rename_i he3
    exact absurd (bad h) he3
  rename_i he3
  split at h
  · exact absurd (bad h) (by decide)
  rename_i hlt
  split at h
  · exact absurd (bad h) (by decide)
  rename_i hgt
  simp only [Prod.mk.injEq,true_and] at h
  obtain ⟨rfl,rfl,rfl,rfl⟩:=h
  refine ⟨hZ,hZ2,by simpa using hchk,by simpa using he3,rfl,by omega,?_,fun x hx=>hr2 x (List.mem_of_mem_drop hx)⟩
  rw [s1,s2,List.take_append_drop,List.take_append_drop]
  exact hl
theorem zdn {F S n:Nat} {l c:List Int} (hF:F<2 ^ 64) (hS:S<2 ^ 64) (h:ENX F S n l=(0,c)):c=80 :: (z0w F ++ (z0w S ++ l))∧(PPA F S).1=0∧n=(PPA F S).2.length∧∀ t,DEX (80 :: (z0w F ++ (z0w S ++ t)))=DC3 PPA F S t:=by
  unfold ENX ENCB at h
  split at h
  · rename_i he
    exact absurd (congrArg Prod.fst h) he
  rename_i he
  split at h
  · exact absurd (congrArg Prod.fst h) (by simp)
  rename_i hn
  have hc:=congrArg Prod.snd h
  dsimp only at hc
  exact ⟨by rw [← hc,List.append_assoc],by simpa using he,by omega,fun t=>zf0 hF hS rfl t⟩
theorem z5a {b t:List Int} (hr:∀ x∈b,0≤x∧x≤255) {F S N:Nat} (h:DEX b=(0,F,S,N,t)):ENX F S N t=(0,b):=by
  obtain ⟨_,_,_,h4,h5,_,h7,_⟩:=z7b hr h
  subst h7
  unfold ENX ENCB
  rw [if_neg (by simpa using h4),if_neg (by omega),List.append_assoc]
end Go.Proofs.YthpdlnbbbcgemaaGreatDoor

namespace Go.Proofs.YthpdlnbbbcgemaaGreatDoor
open Go.RowKit
set_option maxRecDepth 100000
theorem zgc (PF:Nat→Nat→Int × List Nat) (X Y:Nat) (t:List Int):DC3 PF X Y t=DERR (DC3 PF X Y t).1∨(DC3 PF X Y t).1=0:=by
  unfold DC3
  split
  · exact .inl rfl
  · split
    · exact .inl rfl
    · split
      · exact .inl rfl
      · exact .inr rfl
theorem zgd (PF:Nat→Nat→Int × List Nat) (X:Nat) (t:List Int):DC2 PF X t=DERR (DC2 PF X t).1∨(DC2 PF X t).1=0:=by
  unfold DC2
  split
  · exact .inl rfl
  · exact zgc _ _ _ _
theorem zge (chk:Nat→Bool) (PF:Nat→Nat→Int × List Nat) (t:List Int):DC1 chk PF t=DERR (DC1 chk PF t).1∨(DC1 chk PF t).1=0:=by
  unfold DC1
  split
  · exact .inl rfl
  · split
    · exact .inl rfl
    · exact zgd _ _ _
theorem zgf {K:Int} {chk:Nat→Bool} {PF:Nat→Nat→Int × List Nat} {l:List Int} (h:(DC0 K chk PF l).1≠0):DC0 K chk PF l=DERR (DC0 K chk PF l).1:=by
  have:DC0 K chk PF l=DERR (DC0 K chk PF l).1∨(DC0 K chk PF l).1=0:=by
    unfold DC0
    split
    · exact .inl rfl
    · split
      · exact .inl rfl
      · exact zge _ _ _
  rcases this with h1 | h1
  · exact h1
  · exact absurd h1 h
theorem zbU {w:World} {B g N:Nat} {l:List Int} (h:Has w g (z01 l).toArray 24) (hl:l.length=32*N) (hB:B≤g) (hN:N≤1000):w.ownsRow B 24 32 (.slice (some ⟨g,0,none⟩) N N) N (z01 l):=by
  refine ⟨by rw [z01,List.length_map,hl,Nat.mul_comm],.inr ⟨g,N,_,rfl,hB,h,Nat.le_refl _,by simp [maxLen];omega,?_,?_⟩⟩
  · simp [z01,hl,Nat.mul_comm]
  · rw [List.take_of_length_le (by simp [z01,hl];omega)]
def DECO (w:World) (D:DANS) (e:Ending) (w':World):Prop:=
  ∃ a c,e=.returned (.tuple #[.agg #[.int .u64 (D.2.1:Int),.int .u64 (D.2.2.1:Int),.slice a D.2.2.2.1 c],.int .i64 D.1])∧w'.ownsRow w.heap.size 24 32 (.slice a D.2.2.2.1 c) D.2.2.2.1 (z01 D.2.2.2.2)∧(∀ x∈D.2.2.2.2,0≤x∧x≤255)∧Below w.heap.size w w'
theorem DECD.own {w w':World} {K:Int} {chk:Nat→Bool} {PF:Nat→Nat→Int × List Nat} {l:List Int} {e:Ending} (h:DECD w (DC0 K chk PF l) e w') (hf:(DC0 K chk PF l).1=0→(DC0 K chk PF l).2.2.2.1≤1000):DECO w (DC0 K chk PF l) e w':=by
  obtain ⟨v,rfl,hb,h⟩:=h
  rcases h with ⟨hE,rfl⟩ | ⟨hE,h1,h2,h3,h4,g,rfl,hg,hh⟩
  · have hD:=zgf hE
    rw [hD]
    refine ⟨none,0,rfl,World.ownsRow_nil _ _ _ _,by simp [DERR],hb⟩
  · exact ⟨_,_,rfl,zbU hh h3 hg (hf hE),h4,hb⟩
theorem zgg {l:List Int} (hr:∀ x∈l,0≤x∧x≤255) (h:(DEX l).1=0):(DEX l).2.2.2.1≤188:=by
  obtain ⟨E,S,I,N,t,hD⟩:∃ E S I N t,DEX l=(E,S,I,N,t):=⟨_,_,_,_,_,rfl⟩
  rw [hD] at h ⊢
  obtain rfl:E=0:=h
  obtain ⟨_,_,_,_,h5,_⟩:=z7b hr hD
  have:=z70 S I
  show N≤188
  omega
theorem z5U (a:Option Addr) (n c:Nat) (hn:n≤1000000) (l:List Int) (w:World) (hB:Bytes w a n l) (hc:n≤c) (hT:Tabled w) (h0:0<w.heap.size):Calls Tryz.prog 43 #[.slice a n c] w (DECO w (DEX l)):=
  (z3A a n c hn l w hB hc hT h0).mono fun _ _ h=>DECD.own h fun hE=>Nat.le_trans (zgg hB.2.2 hE) (by decide)
structure FAM (M:Nat) (t:TypeId) (s:Nat) (w:World) (B:Nat) (K:Nat→Prop) (v:Nat→Value) (n:Nat→Nat) (xs:Nat→List Value):Prop where
  row:∀ x,x<M→w.ownsRow B t s (v x) (n x) (xs x)
  apart:∀ x y,x<M→y<M→x≠y→∀ g,(v x).ownBlock=some g→(v y).ownBlock≠some g
  off:∀ x,x<M→∀ g,(v x).ownBlock=some g→¬ K g
theorem FAM.below {M:Nat} {t:TypeId} {s:Nat} {w w':World} {B:Nat} {K:Nat→Prop} {v:Nat→Value} {n:Nat→Nat} {xs:Nat→List Value} (h:FAM M t s w B K v n xs) (hb:Below w.heap.size w w'):FAM M t s w' B K v n xs:=⟨fun x hx=>z0q (h.row x hx) hb,h.apart,h.off⟩
theorem FAM.heap {M:Nat} {t:TypeId} {s:Nat} {w w':World} {B:Nat} {K:Nat→Prop} {v:Nat→Value} {n:Nat→Nat} {xs:Nat→List Value} (h:FAM M t s w B K v n xs) (hk:∀ k,k<w.heap.size→¬ K k→w'.heap[k]?=w.heap[k]?):FAM M t s w' B K v n xs:=⟨fun x hx=>z3f (h.row x hx) fun k e=>hk k ((h.row x hx).lt k e).2 (h.off x hx k e),h.apart,h.off⟩
theorem FAM.turn {M:Nat} {t:TypeId} {s:Nat} {w w':World} {B:Nat} {K:Nat→Prop} {v:Nat→Value} {n:Nat→Nat} {xs:Nat→List Value} (h:FAM M t s w B K v n xs) {x g m c:Nat} {ys:List Value} (hx:x<M) (hK:∀ k,K k→k<w.heap.size)
    (hown:w'.ownsRow B t s (.slice (some ⟨g,0,none⟩) m c) m ys) (hg:w.grownBy w' (v x).ownBlock) (hat:(v x).ownBlock=some g∨w.heap.size≤g):FAM M t s w' B K (UPD v x (.slice (some ⟨g,0,none⟩) m c)) (UPD n x m) (UPD xs x ys)∧∀ k,K k→w'.heap[k]?=w.heap[k]?:=by
  have hgx:∀ y,y<M→y≠x→(v y).ownBlock≠some g:=fun y hy hne e=>by
    rcases hat with h1 | h1
    · exact h.apart x y hx hy (fun e=>hne e.symm) g h1 e
    · have:=((h.row y hy).lt g e).2
      omega
  refine ⟨⟨fun y hy=>?_,fun y z hy hz hne k e=>?_,fun y hy k e hk=>?_⟩,fun k hk=>hg.block k (hK k hk) fun e=>h.off x hx k e.symm hk⟩
  · by_cases e:y=x
    · subst e
      rw [z1A,z1A,z1A]
      exact hown
    · rw [z0L _ _ e,z0L _ _ e,z0L _ _ e]
      exact z3f (h.row y hy) fun k hk=>hg.block k ((h.row y hy).lt k hk).2 fun e2=>h.apart x y hx hy (fun e3=>e e3.symm) k e2.symm hk
  · by_cases e1:y=x
    · subst e1
      rw [z1A] at e
      have e:g=k:=by simpa [Value.ownBlock] using e
      subst e
      rw [z0L _ _ (fun e2=>hne e2.symm)]
      exact hgx z hz fun e2=>hne e2.symm
    · rw [z0L _ _ e1] at e
      by_cases e2:z=x
      · subst e2
        rw [z1A]
        intro e3
        have e3:g=k:=by simpa [Value.ownBlock] using e3
        subst e3
        exact hgx y hy e1 e
      · rw [z0L _ _ e2]
        exact h.apart y z hy hz hne k e
  · by_cases e1:y=x
    · subst e1
      rw [z1A] at e
      have e:g=k:=by simpa [Value.ownBlock] using e
      subst e
      rcases hat with h1 | h1
      · exact h.off y hy g h1 hk
      · have:=hK g hk
        omega
    · rw [z0L _ _ e1] at e
      exact h.off y hy k e hk
end Go.Proofs.YthpdlnbbbcgemaaGreatDoor

namespace Go.Proofs.YthpdlnbbbcgemaaGreatDoor
open Go.RowKit
set_option maxRecDepth 100000
end Go.Proofs.YthpdlnbbbcgemaaGreatDoor

namespace Go.Proofs.YthpdlnbbbcgemaaGreatDoor
open Go.RowKit
set_option maxRecDepth 100000
end Go.Proofs.YthpdlnbbbcgemaaGreatDoor
