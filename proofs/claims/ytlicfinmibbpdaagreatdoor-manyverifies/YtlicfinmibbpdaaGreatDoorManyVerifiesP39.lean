/- Texts of ManyVerifies, one behind the other: ManyTexts, ManyVerifiesState. -/
import Derived.Test.YtlicfinmibbpdaaGreatDoorManyVerifiesP38
namespace Go.Proofs.YtlicfinmibbpdaaGreatDoor
open Go.RowKit
set_option maxRecDepth 100000
set_option maxHeartbeats 1000000 in
theorem zdH (a:Option Addr) (n c:Nat) (hn:n≤1000) (hc:a=none→c=0) (l:List Int) (w:World) (hF:Flat w a n l):Calls Tryz.prog 7 #[.slice a n c] w (zfs w n l):=by
  have HA:Aside (n≤1000∧(a=none→c=0)∧Flat w a n l):=⟨hn,hc,hF⟩
  clear hn hc hF
  go_enter Tryz.func7,Tryz.ntmps7
  go_wp2_with (first
    | (at_builtin;refine z5B _ rfl (.tmp 3) (.tmp 4) rfl w.heap.size (.slice (some ⟨w.heap.size,0,none⟩) 0 0) 0 [] rfl (z3e w) a n c l rfl (HA.out.2.2.below ((Below.refl _ _).alloc (Nat.le_refl _) _)) HA.out.2.1 (by have:=HA.out.1;omega) (by simp) ?_;rw [Nat.zero_add,List.nil_append];intro a1 c1 w1 hown1 hgrow1
       have R1:Aside (w1.ownsRow w.heap.size 38 32 (.slice a1 n c1) n (z00 l)∧Below w.heap.size w w1):=⟨hown1,((Below.refl _ w).alloc (Nat.le_refl _) _).grown hgrow1 (by simp) (fun k e=>by cases e;exact Nat.le_refl _)⟩
       clear hown1 hgrow1)
    | (rw [← z9n];refine z1h _ rfl 22 38 (.tmp 6) rfl (z00 MRK).toArray rfl 32 _ _ Tryz.underlying22 z16 (by rfl) rfl (by decide) (by decide) ?_)
    | (at_builtin;refine z3D _ rfl (.tmp 5) (.tmp 7) rfl w.heap.size (.slice a1 n c1) n (z00 l) rfl (R1.out.1.alloc _) w1.heap.size 1 MRK rfl rfl (Has.new _ _ _) (by have:=HA.out.1;omega) (by have:=R1.out.2.size;simp;omega) ?_;intro g2 c2 w2 hown2 hgrow2 hat2 hg2
       obtain ⟨f1,f2,f3,f4⟩:=z8v hown2 HA.out.2.2.1 rfl
       have hcap:(n:Int)≤(c2:Int):=by omega
       have R2:Aside (w2.ownsRow w.heap.size 38 32 (.slice (some ⟨g2,0,none⟩) n c2) n (z00 l)∧n+1≤c2∧w2.rangeAt g2 (n*32) (z00 MRK)∧g2<w2.heap.size∧Below w.heap.size w w2):=⟨f1,f2,f3,f4,(R1.out.2.alloc R1.out.2.size _).grown hgrow2 (by have:=R1.out.2.size;simp;omega) (fun k e=>(R1.out.1.lt k e).1)⟩
       clear hown2 hgrow2 hat2 hg2 f1 f2 f3 f4))
  go_ret
  exact ⟨_,_,rfl,R2.out⟩
set_option maxHeartbeats 1000000 in
theorem zcb (a:Option Addr) (n c:Nat) (hn:n≤1000000) (hc:a=none→c=0) (l:List Int) (w:World) (hB:Bytes w a n l):Calls Tryz.prog 16 #[.slice a n c] w (zf1 w n l):=by
  have HA:Aside (n≤1000000∧(a=none→c=0)∧Bytes w a n l):=⟨hn,hc,hB⟩
  clear hn hc hB
  go_enter Tryz.func16,Tryz.ntmps16
  go_wp2_with (at_builtin;first
    | (refine z3n _ rfl (.tmp 3) (.tmp 4) rfl w.heap.size (.slice (some ⟨w.heap.size,0,none⟩) 0 0) 0 [] rfl (z45 w _ (Nat.le_refl _)) a n c l rfl (HA.out.2.2.below ((Below.refl _ _).alloc (Nat.le_refl _) _)) HA.out.2.1 n l (Nat.zero_add n) rfl (by have:=HA.out.1;omega) (by simp) ?_;intro a1 c1 w1 hown1 hgrow1
       have R1:Aside (w1.ownsRow w.heap.size 5 1 (.slice a1 n c1) n (z00 l)∧Below w.heap.size w w1):=⟨hown1,((Below.refl _ w).alloc (Nat.le_refl _) _).grown hgrow1 (by simp) (fun k e=>by cases e;exact Nat.le_refl _)⟩
       clear hown1 hgrow1)
    | (refine z0A _ rfl (.tmp 5) (.tmp 6) rfl w.heap.size (.slice a1 n c1) n l rfl (R1.out.1.alloc _) w1.heap.size 0 1 1 [171] rfl (z23 w1 171 (by decide) (by decide)) (by decide) (by have:=HA.out.1;omega) (by have:=R1.out.2.size;simp;omega) ?_;intro g2 c2 w2 hown2 hgrow2 hg2
       obtain ⟨f1,f2,f3⟩:=zbt hown2 HA.out.2.2.1
       have hcap:(n:Int)≤(c2:Int):=by omega
       have R2:Aside (w2.ownsRow w.heap.size 5 1 (.slice (some ⟨g2,0,none⟩) n c2) n (z00 l)∧n+1≤c2∧w2.cell? ⟨g2,n,none⟩=some (.int .u8 171)∧g2<w2.heap.size∧Below w.heap.size w w2):=⟨f1,f2,f3,hg2,(R1.out.2.alloc R1.out.2.size _).grown hgrow2 (by have:=R1.out.2.size;simp;omega) (fun k e=>(R1.out.1.lt k e).1)⟩
       clear hown2 hgrow2 hg2 f1 f2 f3))
  go_ret
  exact ⟨_,_,rfl,R2.out⟩
end Go.Proofs.YtlicfinmibbpdaaGreatDoor

namespace Go.Proofs.YtlicfinmibbpdaaGreatDoor
open Go.RowKit
set_option maxRecDepth 100000
theorem z8X {ops:Array Oper} {rest:List Oper} {o:Oper} {a:Act} {Q:Exit→Act→World→Prop} (w:World) (hgd:o.guard=none) (s x:Operand)
    (ho:o.op=.call {callee:=.builtin .append,args:=#[s,x],argTypes:=#[22,22]})
    (base z:Nat) (hs:a.eval s=.slice (some ⟨z,0,none⟩) 0 0) (hown:w.ownsRow base 38 32 (.slice (some ⟨z,0,none⟩) 0 0) 0 [])
    (y:Option Addr) (m c:Nat) (l:List Int) (hx:a.eval x=.slice y m c) (hF:Flat w y m l) (hc:y=none→c=0) (hb:m≤1000) (hbase:base≤w.heap.size)
    (h:∀ a1 c1 w',w'.ownsRow base 38 32 (.slice a1 m c1) m (z00 l)→w.grownBy w' (some z)→wpList Tryz.prog ops Q rest (a.put o.dst (.slice a1 m c1)) w'):wpList Tryz.prog ops Q (o :: rest) a w:=by
  refine z5B w hgd s x ho base (.slice (some ⟨z,0,none⟩) 0 0) 0 [] hs hown y m c l hx hF hc (by omega) hbase ?_
  rw [Nat.zero_add,List.nil_append]
  exact h
theorem z8Y {w:World} {B n c g p:Nat} {l:List Int} (h:w.ownsRow B 38 32 (.slice (some ⟨g,0,none⟩) n c) n (z00 l)) (x:Int):(w.setCell ⟨g,p,none⟩ (.int .u8 x)).ownsRow B 38 32 (.slice (some ⟨g,0,none⟩) n c) n (z00 (l.set p x)):=by
  refine ⟨by have:=h.1;simpa [z00] using this,?_⟩
  rcases h.2 with ⟨e,_⟩ | ⟨g',cap,cur,e,hb,hg,h1,h2,h3,h4⟩
  · cases e
  · cases e
    refine .inr ⟨g,c,cur.setIfInBounds p (.int .u8 x),rfl,hb,Has.set (show Has w g cur 38 from hg) p _,h1,h2,by simpa using h3,?_⟩
    rw [Array.toList_setIfInBounds,List.take_set,h4]
    simp [z00,List.map_set]
def INCH (lv:List Int):Nat→List Int
  | 0=>lv
  | i+1=>(INCH lv i).set (i*32) (((INCH lv i).getD (i*32) 0+1) % 256)
theorem z53 (lv:List Int):∀ i,(INCH lv i).length=lv.length
  | 0=>rfl
  | i+1=>by rw [INCH,List.length_set,z53 lv i]
theorem z2M {lv:List Int} (h:∀ x∈lv,0≤x∧x≤255):∀ i,∀ x∈INCH lv i,0≤x∧x≤255
  | 0=>h
  | i + 1=>fun x hx=>by
    rcases List.mem_or_eq_of_mem_set hx with hx | hx
    · exact z2M h i x hx
    · subst hx
      omega
end Go.Proofs.YtlicfinmibbpdaaGreatDoor
