/- Texts of ClashBlocks, one behind the other: PosPath, PosSpotRow, PosHas, PosForestMap, NumSlice, NumByteCalls, NumAppend, NumShortCalls. -/
import Derived.Deep.AppendLies
import Derived.Test.YtbmjoiiagldklaaDoorProg
import Derived.WalkKit
import Derived.WalkLawsBesides
import Derived.Deep.WholeRow
import Derived.Deep.LoopGhost
import Derived.Laws.ResultCell
import Derived.Laws.Rows
import Derived.Laws.Tables
import Derived.Maps.OwnSet
import Derived.DeepKeys4
import Derived.Deep.OwnRows
import Derived.Deep.QuietTactic
import Derived.BigQuiet
import Derived.Laws.AppendOwnNone
import Derived.Test.YtbmjoiiagldklaaDoorClashBlocksP1
import Derived.Test.YtbmjoiiagldklaaDoorClashBlocksP3
namespace Go.Proofs.YtbmjoiiagldklaaDoor
open Go.RowKit
theorem zaK {ops:Array Oper} {rest:List Oper} {o:Oper} {a:Act} {Q:Exit→Act→World→Prop} (w:World) (hgd:o.guard=none) (s x:Operand)
    (ho:o.op=.call {callee:=.builtin .append,args:=#[s,x],argTypes:=#[107,107]})
    (base:Nat) (v:Value) (n:Nat) (xs:List Nat) (hs:a.eval s=v) (hown:w.ownsRow base 22 1 v n (z0j xs))
    (b c:Nat) (y:Nat) (hx:a.eval x=.slice (some ⟨b,0,none⟩) 1 c) (hc:w.cell? ⟨b,0,none⟩=some (.int .u64 (y:Int)))
    (hb:n≤1000) (hbase:base≤w.heap.size)
    (h:∀ g cap w',w'.ownsRow base 22 1 (.slice (some ⟨g,0,none⟩) (n+1) cap) (n+1) (z0j (xs ++ [y]))→w.grownBy w' v.ownBlock→g<w'.heap.size→wpList Tryd.prog ops Q rest (a.put o.dst (.slice (some ⟨g,0,none⟩) (n+1) cap)) w'):wpList Tryd.prog ops Q (o :: rest) a w:=by
  obtain ⟨i,hi,hz,hs1,hby⟩:=info_parts z2o
  refine wpList_append_lies w hgd s x 107 ho base 22 i (.int .u64 0) 1 8 Tryd.underlying107 hi hz hs1 hby rfl (by decide) v n (z0j xs) hs hown ⟨b,0,none⟩ 1 c [.int .u64 (y:Int)] hx rfl ?_ (fun u hu=>by simp at hu;subst hu;rfl) (by decide) (by simp only [maxLen];omega) (by omega) hbase w.heap.size rfl ?_
  · intro j u hj
    cases j with
    | zero=>
      simp only [List.getElem?_cons_zero,Option.some.injEq] at hj
      subst hj
      exact hc
    | succ j=>simp at hj
  · intro g cap w' h1 h2 _ h4
    rw [← z3g] at h1
    exact h g cap w' h1 h2 h4
theorem zeH (i n x r:Int) (w:World) (hd:decide (4611686018427387904<n)=false) (hi:decide (n≤i)=false) (hx:bits .xor .u64 i n=x) (c:∀ w,Calls Tryd.prog 102 #[.int .u64 x] w fun e w'=>e=.returned (.int .i64 r)∧w=w'):
    Calls Tryd.prog 86 #[.int .u64 i,.int .u64 n] w fun e w'=>e=.returned (.tuple #[.int .i64 r,.bool true])∧w=w':=by
  go_enter Tryd.func86,Tryd.ntmps86
  have hd':¬ 4611686018427387904<n:=by simpa using hd
  have hi':¬ n≤i:=by simpa using hi
  go_wp2_with fail
  refine (c _).mono ?_
  rintro e w' ⟨rfl,rfl⟩
  go_wp2
  go_ret2
  exact ⟨rfl,rfl⟩
theorem zaL (i n:Nat) (hi:i<n) (hn:n≤4611686018427387904) (w:World):Calls Tryd.prog 86 #[.int .u64 (i:Int),.int .u64 (n:Int)] w fun e w'=>e=.returned (.tuple #[.int .i64 ((RISE i n:Nat):Int),.bool true])∧w=w':=by
  have hX:i ^^^ n<2 ^ 63:=Nat.xor_lt_two_pow (by omega) (by omega)
  have h1:=(z0Y hi hn).1
  refine zeH i n ((i ^^^ n:Nat):Int) _ w (by simp;omega) (by simp;omega) (bits_xor_u64_nat i n (by omega) (by omega)) (fun w=>?_)
  have:=zaJ (i ^^^ n) (by omega) w
  rw [show ((LEN (i ^^^ n):Nat):Int) - 1=((RISE i n:Nat):Int) by unfold RISE;omega] at this
  exact this
theorem zeI (i n:Int) (h:¬ (i<n∧n≤4611686018427387904)) (w:World):Calls Tryd.prog 86 #[.int .u64 i,.int .u64 n] w fun e w'=>e=.returned (.tuple #[.int .i64 0,.bool false])∧w=w':=by
  by_cases hd:4611686018427387904<n
  · clear h
    go_enter Tryd.func86,Tryd.ntmps86
    go_wp2
    go_ret2
    exact ⟨rfl,rfl⟩
  · have hi:n≤i:=by omega
    clear h
    go_enter Tryd.func86,Tryd.ntmps86
    go_wp2
    go_ret2
    exact ⟨rfl,rfl⟩
theorem zeJ (i n r x y k:Int) (w:World) (h:Nat) (hr:r=(h:Int)) (e1:n / 2 ^ min h 64=x) (e2:x / 2=y) (c:∀ w,Calls Tryd.prog 86 #[.int .u64 i,.int .u64 n] w fun e w'=>e=.returned (.tuple #[.int .i64 r,.bool true])∧w=w') (co:∀ w,Calls Tryd.prog 98 #[.int .u64 y] w fun e w'=>e=.returned (.int .i64 k)∧w=w'):
    Calls Tryd.prog 83 #[.int .u64 i,.int .u64 n] w fun e w'=>e=.returned (.tuple #[.int .i64 k,.bool true])∧w=w':=by
  subst hr
  go_enter Tryd.func83,Tryd.ntmps83
  go_wp2_with fail
  refine (c _).mono ?_
  rintro e w' ⟨rfl,rfl⟩
  clear c
  go_wp2_with fail
  refine (co _).mono ?_
  rintro e w' ⟨rfl,rfl⟩
  go_wp2
  go_ret2
  exact ⟨rfl,rfl⟩
theorem zfS (i n:Nat) (hi:i<n) (hn:n≤4611686018427387904) (w:World):Calls Tryd.prog 83 #[.int .u64 (i:Int),.int .u64 (n:Int)] w fun e w'=>e=.returned (.tuple #[.int .i64 ((KTH i n:Nat):Int),.bool true])∧w=w':=by
  have h2:=(z0Y hi hn).2.1
  refine zeJ i n _ ((n / 2 ^ RISE i n:Nat):Int) ((n / 2 ^ (RISE i n+1):Nat):Int) _ w (RISE i n) rfl ?_ ?_ (fun w=>zaL i n hi hn w) (fun w=>?_)
  · rw [show min (RISE i n) 64=RISE i n by omega,z1X]
  · rw [z0X]
    omega
  · have hl:n / 2 ^ (RISE i n+1)<2 ^ 64:=Nat.lt_of_le_of_lt (Nat.div_le_self _ _) (by omega)
    have:=z7j (n / 2 ^ (RISE i n+1)) hl w
    rw [z6z hl] at this
    exact this
theorem zeK (i n:Int) (h:¬ (i<n∧n≤4611686018427387904)) (w:World):Calls Tryd.prog 62 #[.int .u64 i,.int .u64 n] w fun e w'=>e=.returned (.tuple #[.slice none 0 0,.bool false])∧w=w':=by
  have c:=zeI i n h
  clear h
  go_enter Tryd.func62,Tryd.ntmps62
  go_wp2_with fail
  refine (c _).mono ?_
  rintro e w' ⟨rfl,rfl⟩
  clear c
  go_wp2
  go_ret2
  exact ⟨rfl,rfl⟩
set_option maxHeartbeats 1000000 in
theorem z7o (i n:Nat) (hi:i<n) (hn:n≤4611686018427387904) (w:World):Calls Tryd.prog 62 #[.int .u64 (i:Int),.int .u64 (n:Int)] w fun e w'=>
    ∃ g cap,e=.returned (.tuple #[.slice (some ⟨g,0,none⟩) (RISE i n) cap,.bool true])∧w'.ownsRow w.heap.size 22 1 (.slice (some ⟨g,0,none⟩) (RISE i n) cap) (RISE i n) (z0j (WAY i (RISE i n)))∧g<w'.heap.size∧Below w.heap.size w w':=by
  have c1:=zaL i n hi hn
  have h62:=(z0Y hi hn).2.1
  have c2:=zey i (by omega)
  generalize RISE i n=H at *
  obtain ⟨cur,hcs,hmk⟩:=z8T H (by omega) w
  have HA:Aside (i<4611686018427387904∧H≤62∧cur.size=H):=⟨by omega,h62,hcs⟩
  have hp:(z0I i:Nat)=PLC 0 (i / 2 ^ 0):=by rw [zeq,Nat.pow_zero,Nat.div_one]
  rw [hp] at c2
  clear hi hn h62 hcs hp
  go_enter Tryd.func62,Tryd.ntmps62
  go_wp2_with fail
  refine (c1 _).mono ?_
  rintro e w' ⟨rfl,rfl⟩
  clear c1
  go_wp2_with fail
  refine (c2 _).mono ?_
  rintro e w' ⟨rfl,rfl⟩
  clear c2
  go_wp2
  go_loopg [8,9,25] H (fun g s8 s9 s25 wx=>∃ j:Nat,s25=.int .i64 (j:Int)∧s9=.int .u64 ((PLC j (i / 2 ^ j):Nat):Int)∧Aside (j+g=H∧wx.ownsRow w.heap.size 22 1 s8 j (z0j (WAY i j))∧(∃ b cap,s8=.slice (some ⟨b,0,none⟩) j cap∧b<wx.heap.size)∧Below w.heap.size w wx))
  case atStart=>exact ⟨0,rfl,by rw [Nat.pow_zero,Nat.div_one],by omega,World.ownsRow_made w cur H (Nat.le_refl _) (by have:=HA.out.2.1;simp only [maxLen];omega) (by rw [HA.out.2.2];omega),⟨_,_,rfl,by simp⟩,(Below.refl _ _).alloc (Nat.le_refl _) _⟩
  case round=>
    obtain ⟨j,rfl,rfl,A⟩:=hrel
    clear hmk
    cases gk with
    | zero=>
      obtain ⟨hj,hown,⟨b,cap,hs,hb⟩,hbel⟩:=A.out
      obtain rfl:j=H:=by omega
      subst hs
      have hlt:¬ (j:Int)<(j:Int):=by omega
      clear hj hown hb hbel HA
      go_wp2
      go_ret2
      obtain ⟨hj,hown,⟨b',cap',hs,hb⟩,hbel⟩:=A.out
      cases hs
      exact ⟨b,cap,rfl,hown,hb,hbel⟩
    | succ g=>
      obtain ⟨hj,hown,⟨b,cap,hs,hb⟩,hbel⟩:=A.out
      have hlt:(j:Int)<(H:Int):=by omega
      have h62:=HA.out.2.1
      have hN:=Node.over HA.out.1 j (by omega)
      have cb:=zd0 j (i / 2 ^ j) hN (by omega)
      have co:=zfR j (i / 2 ^ j) hN (by omega)
      have hR:(bits .and .u64 ((i:Int) / 2 ^ min j 64) 1 == 1)=decide (i / 2 ^ j % 2=1):=by
        rw [show min j 64=j by omega,z1X]
        exact zcZ _ (Nat.lt_of_le_of_lt (Nat.div_le_self _ _) (by have:=HA.out.1;omega))
      have e1:wrap64 ((j:Int)+1)=((j+1:Nat):Int):=by unfold wrap64;omega
      have hj0:¬ (j:Int)<0:=by omega
      rw [← z0X] at co
      have hw:=zeD i j
      generalize hz:decide (i / 2 ^ j % 2=1)=z at *
      clear hz
      generalize PLC j (i / 2 ^ j)=x at *
      generalize PLC j (SIB (i / 2 ^ j))=y at *
      generalize hv:PLC (j+1) (i / 2 ^ (j+1))=v at *
      have R:Aside (j+1+g=H∧wr.ownsRow w.heap.size 22 1 u8 j (z0j (WAY i j))∧Below w.heap.size w wr∧j≤1000∧WAY i (j+1)=WAY i j ++ [y]∧PLC (j+1) (i / 2 ^ (j+1))=v):=⟨by omega,hown,hbel,by omega,hw,hv⟩
      clear A hj hown hs hb hbel h62 hN hw hv HA
      go_wp2_with fail
      refine (cb _).mono ?_
      rintro e w' ⟨rfl,rfl⟩
      clear cb
      go_wp2_with (at_builtin;refine zaK _ rfl (.tmp 33) (.tmp 38) rfl w.heap.size u8 j (WAY i j) rfl (R.out.2.1.alloc _) wr.heap.size 1 y rfl (by rw [World.cell?_alloc_at _ _ _ _ rfl];rfl) R.out.2.2.2.1 (by have:=R.out.2.2.1.size;simp;omega) ?_;intro g' cap w1 hown hgrow hg)
      obtain ⟨r1,r2,r3,r4,r5,r6⟩:=R.out
      have R2:Aside (j+1+g=H∧w1.ownsRow w.heap.size 22 1 (.slice (some ⟨g',0,none⟩) (j+1) cap) (j+1) (z0j (WAY i (j+1)))∧g'<w1.heap.size∧Below w.heap.size w w1∧PLC (j+1) (i / 2 ^ (j+1))=v):=⟨r1,by rw [r5];exact hown,hg,(r3.alloc r3.size _).grown hgrow (by have:=r3.size;simp;omega) (fun k e=>(r2.lt k e).1),r6⟩
      clear hown hgrow hg R r1 r2 r3 r4 r5 r6
      refine (co _).mono ?_
      rintro e w' ⟨rfl,rfl⟩
      clear co
      go_wp2
      go_roundg g
      case measure=>omega
      case rel=>
        obtain ⟨r1,r2,r3,r4,r6⟩:=R2.out
        exact ⟨j+1,by first | rfl | (rw [e1]),by rw [r6],r1,r2,⟨_,_,rfl,r3⟩,r4⟩
end Go.Proofs.YtbmjoiiagldklaaDoor

namespace Go.Proofs.YtbmjoiiagldklaaDoor
open Go.RowKit
def Spots (w:World) (a:Option Addr) (l:List (Nat × Nat)):Prop:=0<l.length→∃ g,a=some ⟨g,0,none⟩∧g<w.heap.size∧∀ (j h k:Nat),l[j]?=some (h,k)→w.cell? ⟨g,j*2,none⟩=some (.int .u8 (h:Int))∧w.cell? ⟨g,j*2+1,none⟩=some (.int .u64 (k:Int))
theorem Spots.below {w w':World} {a:Option Addr} {l:List (Nat × Nat)} (h:Spots w a l) (hb:Below w.heap.size w w'):Spots w' a l:=fun h0=>by
  obtain ⟨g,e,hg,hc⟩:=h h0
  exact ⟨g,e,Nat.lt_of_lt_of_le hg hb.size,fun j x y he=>⟨(hb.cell (p:=⟨g,j*2,none⟩) hg).trans (hc j x y he).1,(hb.cell (p:=⟨g,j*2+1,none⟩) hg).trans (hc j x y he).2⟩⟩
theorem z33 {w w':World} {base:Nat} {t:TypeId} {s:Nat} {v:Value} {n:Nat} {xs:List Value} (h:w.ownsRow base t s v n xs) (hb:Below w.heap.size w w'):w'.ownsRow base t s v n xs:=by
  refine ⟨h.1,h.2.imp id ?_⟩
  rintro ⟨g,c,cur,a,b,r,rest⟩
  exact ⟨g,c,cur,a,b,(hb.block g (Array.getElem?_eq_some_iff.1 r).1).trans r,rest⟩
end Go.Proofs.YtbmjoiiagldklaaDoor

namespace Go.Proofs.YtbmjoiiagldklaaDoor
open Go.RowKit
def Has (w:World) (g:Nat) (c:Array Value) (t:TypeId):Prop:=w.heap[g]?=some (.cells c t)
theorem Has.cell {w:World} {g:Nat} {c:Array Value} {t:TypeId} (h:Has w g c t) (i:Nat):w.cell? ⟨g,i,none⟩=c[i]?:=cell_of_row w g i c t _ h
theorem Has.lt {w:World} {g:Nat} {c:Array Value} {t:TypeId} (h:Has w g c t):g<w.heap.size:=(Array.getElem?_eq_some_iff.1 h).1
theorem Has.frozen {w:World} {g:Nat} {c:Array Value} {t:TypeId} (h:Has w g c t) (i:Nat):w.frozen? ⟨g,i,none⟩=false:=by
  have e:w.heap[g]?=some (.cells c t):=h
  simp [World.frozen?,e]
theorem Has.set {w:World} {g:Nat} {c:Array Value} {t:TypeId} (h:Has w g c t) (i:Nat) (v:Value):Has (w.setCell ⟨g,i,none⟩ v) g (c.setIfInBounds i v) t:=by
  have e:w.heap[g]?=some (.cells c t):=h
  unfold Has
  rw [setCell_eq_setRow w g i c t _ v e,setRow_heap w g c _ t _ e]
theorem Has.other {w:World} {g:Nat} {c:Array Value} {t:TypeId} (h:Has w g c t) {a:Addr} (ha:g≠a.block) (v:Value):Has (w.setCell a v) g c t:=by
  have e:w.heap[g]?=some (.cells c t):=h
  unfold Has
  rw [Below.heap_setCell w a v g ha,e]
theorem Has.below {B:Nat} {w w':World} {g:Nat} {c:Array Value} {t:TypeId} (h:Has w g c t) (hb:Below B w w') (hg:g<B):Has w' g c t:=(hb.block g hg).trans h
theorem Has.keep {w w':World} {g:Nat} {c:Array Value} {t:TypeId} (h:Has w g c t) (hb:Below w.heap.size w w'):Has w' g c t:=h.below hb h.lt
theorem Has.alloc {w:World} {g:Nat} {c:Array Value} {t:TypeId} (h:Has w g c t) (o:Obj):Has (w.alloc o) g c t:=by
  have e:w.heap[g]?=some (.cells c t):=h
  unfold Has
  rw [Below.heap_alloc w o g h.lt,e]
theorem Has.new (w:World) (c:Array Value) (t:TypeId):Has (w.alloc (.cells c t)) w.heap.size c t:=heap_alloc_new w _
theorem Has.at (w:World) (c:Array Value) (t:TypeId) {g:Nat} (hg:g=w.heap.size):Has (w.alloc (.cells c t)) g c t:=by subst hg;exact Has.new w c t
theorem Has.row {w:World} {g:Nat} {c:Array Value} {t:TypeId} (h:Has w g c t) (c':Array Value):Has (w.setRow g c') g c' t:=setRow_heap w g c c' t _ h
theorem Has.row_other {w:World} {g k:Nat} {c:Array Value} {t:TypeId} (h:Has w g c t) (hk:g≠k) (c':Array Value):Has (w.setRow k c') g c t:=by
  have e:w.heap[g]?=some (.cells c t):=h
  unfold Has
  rw [setRow_other w k g c' hk,e]
theorem Has.drewN {w:World} {g:Nat} {c:Array Value} {t:TypeId} (h:Has w g c t) (n:Nat):Has (w.drewN n) g c t:=h
theorem z5A {w:World} {b i j:Nat} (h:i≠j) (v:Value):(w.setCell ⟨b,i,none⟩ v).cell? ⟨b,j,none⟩=w.cell? ⟨b,j,none⟩:=World.cell?_setCell_other w _ _ v (fun e=>h (congrArg Addr.off e))
theorem z0q {B g:Nat} {w0 w:World} (hb:Below B w0 w) (hBg:B≤g) (cs:Array Value):Below B w0 (w.setRow g cs):=
  ⟨hb.os,hb.tape,hb.output,by have:=hb.size;simpa [World.setRow] using this,fun k hk=>by rw [setRow_other w g k cs (by omega)];exact hb.block k hk⟩
end Go.Proofs.YtbmjoiiagldklaaDoor

namespace Go.Proofs.YtbmjoiiagldklaaDoor
open Go.RowKit Go.Maps
set_option maxRecDepth 100000
theorem z8V:laidOutB Tryd.prog=true:=by kernel_rfl
theorem zaM:(88:TypeId)<Tryd.prog.types.size:=of_decide_eq_true (by kernel_rfl)
theorem zeL:(match Tryd.prog.underlying 88 with | some (.array _ _) | some (.struct _)=>true | _=>false)=true:=by rw [Tryd.underlying88]
theorem law:Keyed Tryd.prog 88:=Keyed.of_law (deep_law_laid z8V (m:=2) (by omega) zaM (by kernel_rfl) zeL)
def KL (h k:Nat):Lit:=.string (keyBytes [.int .u8 (h:Int),.int .u64 (k:Int)])
theorem z3s {h k:Nat} (hh:h<256) (hk:k<2 ^ 64):keyOf Tryd.prog 88 (SPOT h k)=some (KL h k):=by
  have w0:(Lit.int .u8 (h:Int)).wf=true:=WalkArith.wf_u8 (by omega)
  have w1:(Lit.int .u64 (k:Int)).wf=true:=WalkArith.wf_u64 (by omega)
  have c3:Tryd.prog.cellsOf 88=2:=by kernel_rfl
  have c1:Tryd.prog.cellsOf 5=1:=by kernel_rfl
  have c2:Tryd.prog.cellsOf 22=1:=by kernel_rfl
  have ht:Tryd.prog.keyType 88=true:=by kernel_rfl
  have hf:(SPOT h k).formed Tryd.prog 88=true:=by simp [Value.formed,Tryd.underlying88,c3]
  obtain ⟨m,hm⟩:∃ m,Tryd.prog.types.size=m+1:=⟨Tryd.prog.types.size - 1,(Nat.succ_pred_eq_of_pos (Nat.lt_of_le_of_lt (Nat.zero_le _) zaM)).symm⟩
  unfold keyOf
  simp only [Tryd.underlying88,ht,hf,hm]
  simp [Program.keyLits,Tryd.underlying88,Tryd.underlying5,Tryd.underlying22,c1,c2,c3,Value.cells,w0,w1,KL]
theorem zd2 {h k h' k':Nat} (hh:h<256) (hk:k<2 ^ 64) (hh':h'<256) (hk':k'<2 ^ 64) (e:KL h k=KL h' k'):h=h'∧k=k':=by
  have h1:=z3s hh hk
  have h2:=z3s hh' hk'
  rw [← e] at h2
  have:=law.inj h1 h2
  simp at this
  omega
abbrev U64 (n:Nat):DataW Unit:=.lit (.int .u64 (n:Int))
def MapOk (D:DataW Unit) (m:Nat):Prop:=∀ h k,h<256→k<2 ^ 64→(Maps.has D (KL h k)=true↔Node h k∧PLC h k<m)∧(Node h k→PLC h k<m→D.atKey (KL h k) (U64 0)=U64 (PLC h k))
theorem MapOk.none:MapOk (.map []) 0:=fun h k _ _=>⟨⟨fun e=>by simp [Maps.has] at e,fun e=>by omega⟩,fun _ e=>by omega⟩
theorem Node.small {h k:Nat} (a:Node h k):h<256∧k<2 ^ 64:=⟨by have:=a.1;omega,by have:=a.index_lt;omega⟩
theorem MapOk.put {D:DataW Unit} {m h k:Nat} (hD:Maps.IsMap D) (hM:MapOk D m) (hN:Node h k) (hp:PLC h k=m):MapOk (D.put (KL h k) (U64 m)) (m+1):=by
  intro h' k' hh' hk'
  obtain ⟨hh,hk⟩:=hN.small
  have hkey:WideAt.IsKeyLit (KL h k):=law.key (z3s hh hk)
  by_cases e:KL h' k'=KL h k
  · obtain ⟨rfl,rfl⟩:=zd2 hh' hk' hh hk e
    exact ⟨⟨fun _=>⟨hN,by omega⟩,fun _=>Maps.has_put_same hD hkey _⟩,fun _ _=>by rw [Maps.atKey_put_same hD hkey,hp]⟩
  · have hne:∀ _:Node h' k',PLC h' k'≠m:=fun hN' e2=>e (by obtain ⟨rfl,rfl⟩:=hN'.one hN (by omega);rfl)
    rw [Maps.has_put_other e,Maps.atKey_put_other e]
    obtain ⟨a,b⟩:=hM h' k' hh' hk'
    refine ⟨⟨fun h=>?_,fun h=>?_⟩,fun h1 h2=>b h1 (by have:=hne h1;omega)⟩
    · have:=a.1 h
      exact ⟨this.1,by omega⟩
    · exact a.2 ⟨h.1,by have:=hne h.1;omega⟩
def Placed (w:World) (b m:Nat):Prop:=∃ D:DataW Unit,w.ownsMap Tryd.prog 88 (plainElem Tryd.prog 22) b m D∧MapOk D m
theorem Placed.made (w:World):Placed (w.alloc (.map #[] 0)) w.heap.size 0:=⟨_,World.ownsMap_made w _ _ _,MapOk.none⟩
theorem Placed.kept {w w':World} {b m:Nat} {row:Option Nat} (h:Placed w b m) (hg:w.grownBy w' row) (hne:some b≠row):Placed w' b m:=let ⟨D,h1,h2⟩:=h; ⟨D,h1.kept hg hne,h2⟩
theorem Placed.lt {w:World} {b m:Nat} (h:Placed w b m):b<w.heap.size:=let ⟨_,h1,_⟩:=h;h1.lt
theorem Placed.below {w w':World} {b m:Nat} (h:Placed w b m) (hb:Below w.heap.size w w'):Placed w' b m:=by
  have hlt:=h.lt
  obtain ⟨D,⟨es,clock,h1,r⟩,h2⟩:=h
  exact ⟨D,⟨es,clock,(hb.block b hlt).trans h1,r⟩,h2⟩
theorem Placed.alloc {w:World} {b m:Nat} (h:Placed w b m) (o:Obj):Placed (w.alloc o) b m:=h.below ((Below.refl _ _).alloc (Nat.le_refl _) _)
theorem Placed.setCell {w:World} {b m:Nat} (h:Placed w b m) {a:Addr} (ha:b≠a.block) (u:Value):Placed (w.setCell a u) b m:=let ⟨D,h1,h2⟩:=h; ⟨D,h1.setCell ha u,h2⟩
end Go.Proofs.YtbmjoiiagldklaaDoor

namespace Go.Proofs.YtbmjoiiagldklaaDoor
open Go.RowKit
def BARR (n:Nat) (f:Nat→Int):Array Value:=((List.range n).map fun i=>Value.int .u8 (f i)).toArray
theorem z23 (n:Nat) (f:Nat→Int):(BARR n f).size=n:=by simp [BARR]
theorem z1B (n:Nat) (f:Nat→Int) (i:Nat) (h:i<n):(BARR n f)[i]?=some (.int .u8 (f i)):=by simp [BARR,h]
theorem z8W {n:Nat} {f g:Nat→Int} (h:∀ i,i<n→f i=g i):BARR n f=BARR n g:=by
  unfold BARR
  congr 1
  apply List.map_congr_left
  intro i hi
  rw [h i (by simpa using hi)]
theorem z6b (n:Nat) (f:Nat→Int) (i:Nat) (v:Int):(BARR n f).setIfInBounds i (.int .u8 v)=BARR n fun j=>if j=i then v else f j:=by
  apply Array.ext_getElem?
  intro j
  by_cases hj:j<n
  · rw [z1B _ _ j hj,Array.getElem?_setIfInBounds]
    by_cases h:i=j
    · subst h
      simp [z23,hj]
    · have h':¬ j=i:=fun e=>h e.symm
      simp [h,h',z1B _ _ j hj]
  · rw [Array.getElem?_eq_none (by simp [z23];omega),Array.getElem?_eq_none (by simp [z23];omega)]
theorem z5h (n:Nat):madeCells #[Value.int .u8 0] n=BARR n fun _=>0:=by
  apply Array.ext_getElem?
  intro j
  by_cases hj:j<n
  · rw [z1B _ _ j hj]
    simp [madeCells,hj,Nat.mod_one]
  · rw [Array.getElem?_eq_none (by simp [madeCells];omega),Array.getElem?_eq_none (by simp [z23];omega)]
theorem z0U:(Tryd.prog.info? 5).map (fun i=>(i.zero,i.size,i.bytes))=some (some (.int .u8 0),1,1):=by kernel_rfl
theorem z6D (n:Nat) (hn:n≤1000000) (w:World):(Instr.makeSlice 30 (.int .i64 (n:Int)) (.int .i64 (n:Int))).run Tryd.prog w=.ok (.slice (some ⟨w.heap.size,0,none⟩) n n) (w.alloc (.cells (BARR n fun _=>0) 5)):=by
  rw [run_make_row' 30 5 (.int .u8 0) 1 Tryd.underlying30 z0U rfl .i64 .i64 n (by omega) (by omega) w,z5h]
def IsRow (k:IntKind) (w:World) (a:Option Addr) (len cap:Nat) (zs:List Int):Prop:=
  (a=none∧len=0∧cap=0∧zs=[])∨
  ∃ x,a=some x∧len≤cap∧cap≤maxLen∧zs.length=cap∧(∀ i,i<zs.length→w.cell? (x.add i)=some (.int k (zs.getD i 0)))∧∀ n∈zs,(Lit.int k n).wf=true
def Bytes (w:World) (a:Option Addr) (n:Nat) (l:List Int):Prop:=
  l.length=n∧(0<n→∃ b off,a=some ⟨b,off,none⟩∧b<w.heap.size∧∀ i,i<n→w.cell? ⟨b,off+i,none⟩=some (.int .u8 (l.getD i 0)))∧∀ x∈l,0≤x∧x≤255
theorem Bytes.below {w w':World} {a:Option Addr} {n:Nat} {l:List Int} (h:Bytes w a n l) (hb:Below w.heap.size w w'):Bytes w' a n l:=
  ⟨h.1,fun hn=>by
    obtain ⟨b,off,e,hl,hc⟩:=h.2.1 hn
    exact ⟨b,off,e,Nat.lt_of_lt_of_le hl hb.size,fun i hi=>(hb.cell (by exact hl)).trans (hc i hi)⟩,h.2.2⟩
theorem Bytes.get {w:World} {a:Option Addr} {n:Nat} {l:List Int} (h:Bytes w a n l) (i:Nat):0≤l.getD i 0∧l.getD i 0≤255:=by
  by_cases hi:i<l.length
  · rw [List.getD_eq_getElem?_getD,List.getElem?_eq_getElem hi]
    exact h.2.2 _ (List.getElem_mem hi)
  · rw [List.getD_eq_getElem?_getD,List.getElem?_eq_none (by omega)]
    simp
theorem z1C (b off i:Nat):(⟨b,off,none⟩:Addr).add i=⟨b,off+i,none⟩:=by unfold Addr.add;split <;> simp_all
theorem IsRow.bytes {w:World} {a:Option Addr} {n c:Nat} {zs:List Int} (h:IsRow .u8 w a n c zs):Bytes w a n (zs.take n):=by
  rcases h with ⟨rfl,rfl,rfl,rfl⟩ | ⟨x,rfl,hl,_,hz,hcell,hwf⟩
  · exact ⟨rfl,fun h=>by omega,fun x hx=>by simp at hx⟩
  · refine ⟨by simp [hz,hl],fun hn=>?_,fun y hy=>?_⟩
    · obtain ⟨b,off,spot⟩:=x
      have hc:=hcell 0 (by omega)
      have hspot:spot=none:=by simpa [Addr.add] using World.cell?_spot hc
      subst hspot
      refine ⟨b,off,rfl,block_lt_of_cell (by simpa [Addr.add] using hc),fun i hi=>?_⟩
      have:=hcell i (by omega)
      rw [z1C] at this
      rw [this]
      congr 2
      simp [List.getD_eq_getElem?_getD,hi]
    · have:=bounds_u8 (hwf y (List.mem_of_mem_take hy))
      exact this
end Go.Proofs.YtbmjoiiagldklaaDoor

namespace Go.Proofs.YtbmjoiiagldklaaDoor
open Go.RowKit
theorem z5i {F f:Nat→Int} {i:Nat} {v:Int} (A:∀ j,f j=if j<i then F j else 0) (hv:v=F i):∀ j,(if j=i then v else f j)=if j<i+1 then F j else 0:=fun j=>by
  by_cases e:j=i
  · subst e
    simp [hv]
  · rw [if_neg e,A j]
    by_cases e2:j<i
    · rw [if_pos e2,if_pos (by omega)]
    · rw [if_neg e2,if_neg (by omega)]
theorem z7p (x:Int) (n:Nat) (F:Nat→Int) (hn:(n:Int)≤8) (w:World) (c:∀ w,Calls Tryd.prog 111 #[.int .u64 x,.int .i64 (8*(n:Int))] w fun e w'=>e=.returned (.int .u64 0)∧w=w')
    (ci:∀ i:Nat,i<n→∃ s:Int,Aside (s % 256=F i)∧∀ w,Calls Tryd.prog 111 #[.int .u64 x,.int .i64 (8*((n:Int) - 1 - (i:Int)))] w fun e w'=>e=.returned (.int .u64 s)∧w=w'):
    Calls Tryd.prog 96 #[.int .u64 x,.int .i64 (n:Int)] w fun e w'=>e=.returned (.tuple #[.slice (some ⟨w.heap.size,0,none⟩) n n,.int .i64 0])∧w.alloc (.cells (BARR n F) 5)=w':=by
  have hmk:=z6D n (by omega)
  have CI:Aside (∀ i:Nat,i<n→∃ s:Int,Aside (s % 256=F i)∧∀ w,Calls Tryd.prog 111 #[.int .u64 x,.int .i64 (8*((n:Int) - 1 - (i:Int)))] w fun e w'=>e=.returned (.int .u64 s)∧w=w'):=ci
  clear ci
  go_enter Tryd.func96,Tryd.ntmps96
  go_wp2_with fail
  refine (c _).mono ?_
  rintro e w' ⟨rfl,rfl⟩
  go_wp2
  go_loopg [23] n (fun g s23 wx=>∃ (i:Nat) (f:Nat→Int),i+g=n∧Aside (∀ j,f j=if j<i then F j else 0)∧s23=.int .i64 i∧wx=w.alloc (.cells (BARR n f) 5))
  case atStart=>exact ⟨0,fun _=>0,by omega,fun j=>by simp,rfl,rfl⟩
  case round=>
    obtain ⟨i,f,hig,A,rfl,rfl⟩:=hrel
    cases gk with
    | zero=>
      obtain rfl:i=n:=by omega
      have hf:BARR i f=BARR i F:=z8W fun j hj=>by rw [A.out j,if_pos hj]
      rw [hf]
      clear hf A
      go_wp2
      go_ret2
      exact ⟨rfl,rfl⟩
    | succ g=>
      have hi:(i:Int)<(n:Int):=by omega
      have hc:(BARR n f)[i]?=some (.int .u8 (f i)):=z1B n f i (by omega)
      have hs:∀ v,(BARR n f).setIfInBounds i (.int .u8 v)=BARR n (fun j=>if j=i then v else f j):=fun v=>z6b n f i v
      obtain ⟨s,hsF,cs⟩:=CI.out i (by omega)
      go_wp2_with fail
      refine (cs _).mono ?_
      rintro e w' ⟨rfl,rfl⟩
      go_wp2
      go_roundg g
      case measure=>omega
      case rel=>exact ⟨i+1,_,by omega,z5i A.out hsF.out,by go_num,rfl⟩
def BYTE (X n:Nat):Nat→Int:=fun i=>((X / 2 ^ (8*(n - 1 - i)) % 256:Nat):Int)
theorem zd3 (X n:Nat) (hX:X<2 ^ 64) (hn:n≤8) (h:X / 2 ^ (8*n)=0) (w:World):
    Calls Tryd.prog 96 #[.int .u64 (X:Int),.int .i64 (n:Int)] w fun e w'=>e=.returned (.tuple #[.slice (some ⟨w.heap.size,0,none⟩) n n,.int .i64 0])∧w.alloc (.cells (BARR n (BYTE X n)) 5)=w':=by
  refine z7p X n (BYTE X n) (by omega) w (fun w=>?_) (fun i hi=>?_)
  · have k:=z2A X (8*(n:Int)) hX (by omega) (by omega) w
    have hs:SHR X (8*(n:Int))=0:=by
      unfold SHR
      rw [if_neg (by omega),show (8*(n:Int)).toNat=8*n by omega,h]
    rw [hs] at k
    exact k
  · refine ⟨(SHR X (8*((n:Int) - 1 - (i:Int))):Nat),?_,fun w=>z2A X _ hX (by omega) (by omega) w⟩
    unfold SHR BYTE Aside
    rw [if_neg (by omega),show (8*((n:Int) - 1 - (i:Int))).toNat=8*(n - 1 - i) by omega]
    simp
end Go.Proofs.YtbmjoiiagldklaaDoor

namespace Go.Proofs.YtbmjoiiagldklaaDoor
open Go.RowKit
def z00 (l:List Int):List Value:=l.map (Value.int .u8)
theorem z1k (a b:List Int):z00 (a ++ b)=z00 a ++ z00 b:=by simp [z00]
theorem z0Q (l:List Int) (i:Nat) (h:i<l.length):(z00 l)[i]?=some (.int .u8 (l.getD i 0)):=by
  simp [z00,h,List.getD_eq_getElem?_getD]
theorem z1D (l:List Int):∀ u∈z00 l,u.oneCell'=true:=fun u hu=>by
  simp [z00] at hu
  obtain ⟨x,_,rfl⟩:=hu
  rfl
theorem z1s:∃ i,Tryd.prog.info? 5=some i∧i.zero=some (.int .u8 0)∧i.size=1∧i.bytes=1:=by
  obtain ⟨i,hi,h⟩:=Option.map_eq_some_iff.1 z0U
  simp only [Prod.mk.injEq] at h
  exact ⟨i,hi,h.1,h.2.1,h.2.2⟩
theorem z3t {ops:Array Oper} {rest:List Oper} {o:Oper} {a:Act} {Q:Exit→Act→World→Prop} (w:World) (hgd:o.guard=none) (s x:Operand)
    (ho:o.op=.call {callee:=.builtin .append,args:=#[s,x],argTypes:=#[30,30]})
    (base:Nat) (v:Value) (n:Nat) (xs:List Int) (hs:a.eval s=v) (hown:w.ownsRow base 5 1 v n (z00 xs))
    (b off m c:Nat) (l:List Int) (hx:a.eval x=.slice (some ⟨b,off,none⟩) m c) (hB:Bytes w (some ⟨b,off,none⟩) m l)
    (hm:0<m) (hb:n+m≤140737488355328) (hbase:base≤w.heap.size)
    (h:∀ g cap w',w'.ownsRow base 5 1 (.slice (some ⟨g,0,none⟩) (n+m) cap) (n+m) (z00 (xs ++ l))→w.grownBy w' v.ownBlock→g<w'.heap.size→wpList Tryd.prog ops Q rest (a.put o.dst (.slice (some ⟨g,0,none⟩) (n+m) cap)) w'):wpList Tryd.prog ops Q (o :: rest) a w:=by
  obtain ⟨i,hi,hz,hs1,hby⟩:=z1s
  obtain ⟨b',off',e,_,hc⟩:=hB.2.1 hm
  simp only [Option.some.injEq,Addr.mk.injEq] at e
  obtain ⟨rfl,rfl,_⟩:=e
  refine wpList_append_lies w hgd s x 30 ho base 5 i (.int .u8 0) 1 1 Tryd.underlying30 hi hz hs1 hby rfl (by decide) v n (z00 xs) hs hown ⟨b,off,none⟩ m c (z00 l) hx (by simp [z00,hB.1]) ?_ (z1D l) hm (by simp only [maxLen];omega) (by omega) hbase w.heap.size rfl ?_
  · intro j u hj
    have hjl:j<l.length:=by
      have:=(List.getElem?_eq_some_iff.1 hj).1
      simpa [z00] using this
    rw [z0Q l j hjl] at hj
    rw [z1C,hc j (by rw [← hB.1];exact hjl)]
    exact hj
  · intro g cap w' h1 h2 _ h4
    rw [← z1k] at h1
    exact h g cap w' h1 h2 h4
theorem z4K (w:World) (row:Option Nat):w.grownBy w row:=⟨rfl,rfl,rfl,Nat.le_refl _,fun _ _ _=>rfl⟩
theorem z6c {ops:Array Oper} {rest:List Oper} {o:Oper} {a:Act} {Q:Exit→Act→World→Prop} (w:World) (hgd:o.guard=none) (s x:Operand)
    (ho:o.op=.call {callee:=.builtin .append,args:=#[s,x],argTypes:=#[30,30]})
    (base:Nat) (v:Value) (n:Nat) (xs:List Int) (hs:a.eval s=v) (hown:w.ownsRow base 5 1 v n (z00 xs))
    (ao:Option Addr) (c:Nat) (hx:a.eval x=.slice ao 0 c) (hc:ao=none→c=0) (hn:n≤140737488355328) (hbase:base≤w.heap.size)
    (h:∀ a' c' w',w'.ownsRow base 5 1 (.slice a' n c') n (z00 xs)→w.grownBy w' v.ownBlock→wpList Tryd.prog ops Q rest (a.put o.dst (.slice a' n c')) w'):wpList Tryd.prog ops Q (o :: rest) a w:=by
  obtain ⟨i,hi,hz,hs1,hby⟩:=z1s
  have form:∀ (v':Value) (w':World),w'.ownsRow base 5 1 v' n (z00 xs)→∃ a' c',v'=.slice a' n c':=fun v' w' h=>by
    rcases h.2 with ⟨rfl,rfl⟩ | ⟨g,cap,cur,rfl,_⟩
    · exact ⟨none,0,rfl⟩
    · exact ⟨_,cap,rfl⟩
  cases ao with
  | none=>
    obtain rfl:=hc rfl
    refine wpList_append_own_none hgd s x 30 ho base 5 i 1 Tryd.underlying30 hi v n (z00 xs) hs hown hx ?_
    obtain ⟨a',c',rfl⟩:=form v w hown
    exact h a' c' w hown (z4K _ _)
  | some ad=>
    refine wpList_append_own w hgd s x 30 ho base 5 i (.int .u8 0) 1 1 Tryd.underlying30 hi hz hs1 hby rfl (by decide) v n (z00 xs) hs hown ad 0 c [] hx rfl (fun j u hj=>by simp at hj) (fun u hu=>by simp at hu) (by simp only [maxLen];omega) (by omega) hbase ?_
    intro v' w' h1 h2 _
    simp only [Nat.add_zero,List.append_nil] at h1
    obtain ⟨a',c',rfl⟩:=form v' w' h1
    exact h a' c' w' h1 h2
theorem z5j {w:World} {base g n cap:Nat} {l:List Int} (h:w.ownsRow base 5 1 (.slice (some ⟨g,0,none⟩) n cap) n (z00 l)) (hg:g<w.heap.size) (hl:∀ x∈l,0≤x∧x≤255):Bytes w (some ⟨g,0,none⟩) n l:=by
  have hlen:l.length=n:=by have:=h.1;simpa [z00] using this
  refine ⟨hlen,fun _=>⟨g,0,rfl,hg,fun i hi=>?_⟩,hl⟩
  rw [Nat.zero_add,h.cellAt i (by omega),z0Q l i (by omega)]
theorem z7W (w:World) (base:Nat) (hb:base≤w.heap.size):(w.alloc (.cells #[] 5)).ownsRow base 5 1 (.slice (some ⟨w.heap.size,0,none⟩) 0 0) 0 (z00 []):=
  World.ownsRow_lit w #[] 0 hb (by simp [maxLen]) rfl
theorem z2B (w:World) (n:Nat) (f:Nat→Int) (l:List Int) (hl:l.length=n) (hf:∀ i,i<n→f i=l.getD i 0) (hr:∀ x∈l,0≤x∧x≤255):Bytes (w.alloc (.cells (BARR n f) 5)) (some ⟨w.heap.size,0,none⟩) n l:=by
  refine ⟨hl,fun _=>⟨w.heap.size,0,rfl,by simp,fun i hi=>?_⟩,hr⟩
  rw [Nat.zero_add,World.cell?_alloc_at _ _ _ _ rfl,z1B n f i hi,hf i hi]
theorem z0B {w:World} {base n c:Nat} {a:Option Addr} {l:List Int} (h:w.ownsRow base 5 1 (.slice a n c) n (z00 l)) (hl:∀ x∈l,0≤x∧x≤255):Bytes w a n l∧n≤c:=by
  rcases h.2 with ⟨hv,hn⟩ | ⟨g,cap,cur,hv,_,hg,hc,_⟩
  · simp only [Value.slice.injEq] at hv
    obtain ⟨rfl,rfl,rfl⟩:=hv
    have:l=[]:=by have:=h.1;simpa [z00] using this
    subst this
    exact ⟨⟨rfl,fun h=>by omega,fun x hx=>by simp at hx⟩,Nat.le_refl _⟩
  · simp only [Value.slice.injEq] at hv
    obtain ⟨rfl,_,rfl⟩:=hv
    exact ⟨z5j h (Array.getElem?_eq_some_iff.1 hg).1 hl,hc⟩
theorem z5B {ops:Array Oper} {rest:List Oper} {o:Oper} {a:Act} {Q:Exit→Act→World→Prop} (w:World) (hgd:o.guard=none) (s x:Operand)
    (ho:o.op=.call {callee:=.builtin .append,args:=#[s,x],argTypes:=#[30,30]})
    (base:Nat) (v:Value) (n:Nat) (xs:List Int) (hs:a.eval s=v) (hown:w.ownsRow base 5 1 v n (z00 xs))
    (ao:Option Addr) (m c:Nat) (l:List Int) (hx:a.eval x=.slice ao m c) (hB:Bytes w ao m l) (hc:ao=none→c=0)
    (N:Nat) (L:List Int) (hN:n+m=N) (hL:xs ++ l=L) (hb:N≤140737488355328) (hbase:base≤w.heap.size)
    (h:∀ a' c' w',w'.ownsRow base 5 1 (.slice a' N c') N (z00 L)→w.grownBy w' v.ownBlock→wpList Tryd.prog ops Q rest (a.put o.dst (.slice a' N c')) w'):wpList Tryd.prog ops Q (o :: rest) a w:=by
  subst hN hL
  rcases Nat.eq_zero_or_pos m with hm | hm
  · subst hm
    have hl:l=[]:=by have:=hB.1;simpa using this
    subst hl
    refine z6c w hgd s x ho base v n xs hs hown ao c hx hc (by omega) hbase ?_
    simpa using h
  · obtain ⟨b,off,rfl,_,_⟩:=hB.2.1 hm
    refine z3t w hgd s x ho base v n xs hs hown b off m c l hx hB hm hb hbase ?_
    intro g cap w' h1 h2 _
    exact h _ cap w' h1 h2
end Go.Proofs.YtbmjoiiagldklaaDoor

namespace Go.Proofs.YtbmjoiiagldklaaDoor
open Go.RowKit
def z6E (X j:Nat):List Int:=(List.range j).map fun i=>((X / 128 ^ i % 128+128:Nat):Int)
theorem z1R (X j:Nat):(z6E X j).length=j:=by simp [z6E]
def TOPG (X:Nat):Nat→Nat
  | 0=>0
  | k+1=>if X<128 then 0 else TOPG (X / 128) k+1
def NTOP (X:Nat):Nat:=TOPG X 9
def z0J (X:Nat):List Int:=z6E X (NTOP X) ++ [((X / 128 ^ NTOP X:Nat):Int)]
theorem z1l (X:Nat):(z0J X).length=NTOP X+1:=by simp [z0J,z1R]
theorem zaN:∀ (k X:Nat),TOPG X k≤k
  | 0,_=>Nat.le_refl _
  | k + 1,X=>by
    unfold TOPG
    split
    · omega
    · have:=zaN k (X / 128)
      omega
theorem z4L:∀ (k X j:Nat),j<TOPG X k→128≤X / 128 ^ j
  | 0,_,_,h=>by simp [TOPG] at h
  | k + 1,X,j,h=>by
    unfold TOPG at h
    split at h
    · omega
    · cases j with
      | zero=>simp;omega
      | succ j=>
        have:=z4L k (X / 128) j (by omega)
        rw [Nat.div_div_eq_div_mul,Nat.mul_comm,← Nat.pow_succ] at this
        exact this
theorem zaO:∀ (k X:Nat),X<128 ^ (k+1)→X / 128 ^ TOPG X k<128
  | 0,X,h=>by simpa [TOPG] using h
  | k + 1,X,h=>by
    unfold TOPG
    split
    · simpa using ‹X<128›
    · have:=zaO k (X / 128) (by rw [Nat.pow_succ] at h;exact Nat.div_lt_of_lt_mul (by omega))
      rw [Nat.div_div_eq_div_mul,Nat.mul_comm,← Nat.pow_succ] at this
      exact this
theorem zfT (X:Nat):NTOP X≤9:=zaN 9 X
theorem zaP {X:Nat} (hX:X<2 ^ 64):X / 128 ^ NTOP X<128:=zaO 9 X (Nat.lt_of_lt_of_le hX (by decide))
theorem zfU {X:Nat} (hX:X<2 ^ 64) {j:Nat} (hj:∀ i,i<j→128≤X / 128 ^ i) (h:X / 128 ^ j<128):NTOP X=j:=by
  rcases Nat.lt_trichotomy (NTOP X) j with h1 | h1 | h1
  · have:=hj _ h1
    have:=zaP hX
    omega
  · exact h1
  · have:=z4L 9 X j h1
    omega
theorem zd4 (w:World) (v:Int) (h0:0≤v) (h1:v≤255):Bytes (w.alloc (.cells #[.int .u8 v] 5)) (some ⟨w.heap.size,0,none⟩) 1 [v]:=by
  refine ⟨rfl,fun _=>⟨w.heap.size,0,rfl,by simp,fun i hi=>?_⟩,fun x hx=>by simp at hx;omega⟩
  obtain rfl:i=0:=by omega
  rw [Nat.zero_add,World.cell?_alloc_at _ _ _ _ rfl]
  rfl
end Go.Proofs.YtbmjoiiagldklaaDoor
