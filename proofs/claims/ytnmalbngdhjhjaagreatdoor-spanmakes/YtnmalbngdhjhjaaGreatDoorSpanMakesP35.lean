/- Texts of SpanMakes, one behind the other: ManyTake, SpanNeed, SpanPlacesCall, ProofSlices, ManyClimbPlain, ManyNext, ManyRefPlain, ManyRefUnder, ManyRefSpots. -/
import Derived.Laws.AppendOwnNone
import Derived.Test.YtnmalbngdhjhjaaGreatDoorSpanMakesP34
namespace Go.Proofs.YtnmalbngdhjhjaaGreatDoor
open Go.RowKit
set_option maxRecDepth 100000
theorem zg7 {ops:Array Oper} {rest:List Oper} {o:Oper} {a:Act} {Q:Exit→Act→World→Prop} (w:World) (hgd:o.guard=none) (s x:Operand)
    (ho:o.op=.call {callee:=.builtin .append,args:=#[s,x],argTypes:=#[23,23]})
    (base:Nat) (v:Value) (n:Nat) (xs:List Nat) (hs:a.eval s=v) (hown:w.ownsRow base 24 1 v n (z0k xs))
    (b c:Nat) (y:Nat) (hx:a.eval x=.slice (some ⟨b,0,none⟩) 1 c) (hc:w.cell? ⟨b,0,none⟩=some (.int .u64 (y:Int)))
    (hb:n≤2 ^ 30) (hbase:base≤w.heap.size)
    (h:∀ g cap w',w'.ownsRow base 24 1 (.slice (some ⟨g,0,none⟩) (n+1) cap) (n+1) (z0k (xs ++ [y]))→w.grownBy w' v.ownBlock→g<w'.heap.size→wpList Tryz.prog ops Q rest (a.put o.dst (.slice (some ⟨g,0,none⟩) (n+1) cap)) w'):wpList Tryz.prog ops Q (o :: rest) a w:=by
  obtain ⟨i,hi,hz,hs1,hby⟩:=info_parts z1F
  refine wpList_append_lies w hgd s x 23 ho base 24 i (.int .u64 0) 1 8 Tryz.underlying23 hi hz hs1 hby rfl (by decide) v n (z0k xs) hs hown ⟨b,0,none⟩ 1 c [.int .u64 (y:Int)] hx rfl ?_ (fun u hu=>by simp at hu;subst hu;rfl) (by decide) (by simp only [maxLen];omega) (by omega) hbase w.heap.size rfl ?_
  · intro j u hj
    cases j with
    | zero=>
      simp only [List.getElem?_cons_zero,Option.some.injEq] at hj
      subst hj
      exact hc
    | succ j=>simp at hj
  · intro g cap w' h1 h2 _ h4
    rw [← z2p] at h1
    exact h g cap w' h1 h2 h4
structure TAKING (w0 w:World) (bp:Nat) (acc:List Nat):Prop where
  row:∃ v,Has w bp #[v] 23∧w.ownsRow w0.heap.size 24 1 v acc.length (z0k acc)
  keep:∀ b,b<w0.heap.size→b≠bp→w.heap[b]?=w0.heap[b]?
  lt:bp<w0.heap.size
  below:Below bp w0 w
theorem z2a {w:World} {B s n:Nat} {t:TypeId} {v:Value} {xs:List Value} (h:w.ownsRow B t s v n xs):∃ a c,v=.slice a n c:=by
  rcases h.2 with ⟨e,h0⟩ | ⟨g,cap,cur,e,_⟩
  · exact ⟨none,0,by rw [e,h0]⟩
  · exact ⟨_,_,e⟩
end Go.Proofs.YtnmalbngdhjhjaaGreatDoor

namespace Go.Proofs.YtnmalbngdhjhjaaGreatDoor
open Go.RowKit
set_option maxRecDepth 100000
theorem zeV {F T h k A B:Nat} {b:Bool} (hA:k*2 ^ h=A) (hB:(k+1)*2 ^ h=B) (hb:b=decide (min T B≤max F A)):b=decide (APRT F T h k):=by
  rw [hb]
  unfold APRT
  rw [hA,hB]
theorem z5H (h k F T:Nat) (hN:Node h k) (w:World):Calls Tryz.prog 173 #[.int .u64 ((PLC h k:Nat):Int),.int .u64 (F:Int),.int .u64 (T:Int)] w fun e w'=>e=.returned (.bool (decide (APRT F T h k)))∧Below w.heap.size w w':=by
  have cu:=z5s h k hN w
  obtain ⟨A,hA⟩:∃ A,k*2 ^ h=A:=⟨_,rfl⟩
  obtain ⟨B,hB⟩:∃ B,(k+1)*2 ^ h=B:=⟨_,rfl⟩
  obtain ⟨r,hr⟩:∃ r,decide (APRT F T h k)=r:=⟨_,rfl⟩
  rw [hA,hB] at cu
  have HD:Aside (∀ b,b=decide (min T B≤max F A)→b=r):=fun b hb=>hr ▸ zeV hA hB hb
  rw [hr]
  clear hA hB hN hr
  go_enter Tryz.func173,Tryz.ntmps173
  go_wp2_with fail
  refine cu.mono ?_
  rintro e w1 ⟨rfl,hb⟩
  clear cu
  have HB:Aside (Below w.heap.size w w1):=hb
  clear hb
  go_wp2
  all_goals
    go_ret
    refine ⟨congrArg (fun b=>Ending.returned (.bool b)) (HD.out _ ?_),HB.out⟩
    congr 1
    simp only [eq_iff_iff]
    omega
def z4a (w0:World) (bp:Nat) (acc l:List Nat) (e:Ending) (w':World):Prop:=e=.returned (.tuple #[])∧TAKING w0 w' bp (acc ++ l)
set_option maxHeartbeats 1000000 in
theorem z5n {w0 w:World} {bp:Nat} {acc:List Nat} (hK:TAKING w0 w bp acc) (p:Nat) (hn:acc.length≤2 ^ 30):Calls Tryz.prog 109 #[.int .u64 (p:Int),.pointer (some ⟨bp,0,none⟩)] w fun e w'=>e=.returned (.tuple #[])∧TAKING w0 w' bp (acc ++ [p]):=by
  obtain ⟨v,hv,hown⟩:=hK.row
  obtain ⟨a,c,rfl⟩:=z2a hown
  have c0:w.cell? ⟨bp,0,none⟩=some (.slice a acc.length c):=hv.cell 0
  have HA:Aside (TAKING w0 w bp acc∧acc.length≤2 ^ 30∧Has w bp #[.slice a acc.length c] 23∧w.ownsRow w0.heap.size 24 1 (.slice a acc.length c) acc.length (z0k acc)):=⟨hK,hn,hv,hown⟩
  clear hK hn hv hown
  obtain ⟨n,hn⟩:∃ n,acc.length=n:=⟨_,rfl⟩
  rw [hn] at HA c0
  have HN:Aside (acc.length=n):=hn
  clear hn
  go_enter Tryz.func109,Tryz.ntmps109
  go_wp2_with (first
    | (at_builtin;refine zg7 _ rfl (.tmp 3) (.tmp 5) rfl w0.heap.size (.slice a n c) n acc rfl (HA.out.2.2.2.alloc _) w.heap.size 1 p rfl ((Has.new _ _ _).cell 0) HA.out.2.1 (by have:=HA.out.1.below.size;simp;omega) ?_;intro g1 c1 w1 hown1 hgrow1 hg1
       have hbp:Has w1 bp #[.slice a n c] 23:=by
         refine (hgrow1.block bp (by have:=HA.out.2.2.1.lt;simp;omega) (fun e=>?_)).trans (HA.out.2.2.1.alloc _)
         have:=(HA.out.2.2.2.lt bp e.symm).1
         have:=HA.out.1.lt
         omega
       have x0:=hbp.cell 0
       have x1:=hbp.frozen 0
       have FN:Aside (TAKING w0 (w1.setCell ⟨bp,0,none⟩ (.slice (some ⟨g1,0,none⟩) (n+1) c1)) bp (acc ++ [p])):=by
         have hlt:=HA.out.1.lt
         have hsz:=HA.out.1.below.size
         refine ⟨⟨.slice (some ⟨g1,0,none⟩) (n+1) c1,hbp.set 0 _,?_⟩,fun b hb hne=>?_,hlt,?_⟩
         · rw [List.length_append,HN.out]
           exact ownsRow_setCell_below hown1 (a:=⟨bp,0,none⟩) hlt _
         · rw [Below.heap_setCell _ _ _ _ (by exact hne),hgrow1.block b (by simp;omega) (fun e=>by have:=(HA.out.2.2.2.lt b e.symm).1;omega),Below.heap_alloc _ _ _ (by omega)]
           exact HA.out.1.keep b hb hne
         · refine ((HA.out.1.below.alloc (by omega) _).grown hgrow1 (by simp;omega) (fun k e=>?_)).setCell (Nat.le_refl _) _
           have:=(HA.out.2.2.2.lt k e).1
           omega
       clear hown1 hgrow1 hg1 hbp c0))
  exact bodyPost_end (v:=.tuple #[]) (by simp [results,Tryz.f109]) rfl ⟨rfl,FN.out⟩
theorem TAKING.stays {w0 w w':World} {bp:Nat} {acc:List Nat} (h:TAKING w0 w bp acc) (hb:Below w.heap.size w w'):TAKING w0 w' bp acc:=by
  obtain ⟨v,h1,h2⟩:=h.row
  have hs:=h.below.size
  have hlt:=h.lt
  refine ⟨⟨v,h1.keep hb,?_⟩,fun b hb0 hne=>(hb.block b (by omega)).trans (h.keep b hb0 hne),hlt,h.below.trans (hb.mono (by omega))⟩
  refine ⟨h2.1,h2.2.imp id ?_⟩
  rintro ⟨g',c,cur,rfl,b,r,rest⟩
  exact ⟨g',c,cur,rfl,b,(hb.block g' (Array.getElem?_eq_some_iff.1 r).1).trans r,rest⟩
set_option maxHeartbeats 2000000 in
theorem z4J (w0:World) (CP F T h k:Nat) (hN:Node h k) (e:APRT F T h k) (acc:List Nat) (w:World) (hw:TAKING w0 w CP acc) (hlen:acc.length≤2 ^ 30):
    Calls Tryz.prog 167 #[.int .u64 ((PLC h k:Nat):Int),.int .u64 (F:Int),.int .u64 (T:Int),.func (.func 109) #[] #[.pointer (some ⟨CP,0,none⟩)]] w (z4a w0 CP acc [PLC h k]):=by
  have ca:=z5H h k F T hN w
  rw [decide_eq_true e] at ca
  have HS:Aside (TAKING w0 w CP acc∧acc.length≤2 ^ 30):=⟨hw,hlen⟩
  clear hN e hw hlen
  go_enter Tryz.func167,Tryz.ntmps167
  go_wp2_with fail
  refine ca.mono ?_
  rintro e w1 ⟨rfl,h1⟩
  clear ca
  have ct:=z5n (HS.out.1.stays h1) (PLC h k) HS.out.2
  clear h1 HS
  go_wp2_with fail
  refine ct.mono ?_
  rintro e w2 ⟨rfl,h2⟩
  clear ct
  have FN:Aside (TAKING w0 w2 CP (acc ++ [PLC h k])):=h2
  clear h2
  go_wp2_with fail
  exact bodyPost_ret (v:=.tuple #[]) (by simp [results,Tryz.f167]) rfl ⟨rfl,FN.out⟩
set_option maxHeartbeats 2000000 in
theorem z4f (w0:World) (CP F T h k:Nat) (hN:Node h k) (e:z0O F T h k) (acc:List Nat) (w:World) (hw:TAKING w0 w CP acc):
    Calls Tryz.prog 167 #[.int .u64 ((PLC h k:Nat):Int),.int .u64 (F:Int),.int .u64 (T:Int),.func (.func 109) #[] #[.pointer (some ⟨CP,0,none⟩)]] w (z4a w0 CP acc []):=by
  have ca:=z5H h k F T hN w
  rw [decide_eq_false (z2F e)] at ca
  have cu:=fun w=>z5s h k hN w
  have e1:F≤k*2 ^ h:=e.1
  have e2:(k+1)*2 ^ h≤T:=e.2
  have HS:Aside (TAKING w0 w CP acc):=hw
  generalize k*2 ^ h=A at *
  generalize (k+1)*2 ^ h=B at *
  have g1:(F:Int)≤(A:Int):=by omega
  have g2:(B:Int)≤(T:Int):=by omega
  clear hN e hw
  go_enter Tryz.func167,Tryz.ntmps167
  go_wp2_with fail
  refine ca.mono ?_
  rintro e w1 ⟨rfl,h1⟩
  clear ca
  have H1:Aside (TAKING w0 w1 CP acc):=HS.out.stays h1
  clear h1 HS
  go_wp2_with fail
  refine (cu w1).mono ?_
  rintro e w2 ⟨rfl,h2⟩
  clear cu
  have FN:Aside (TAKING w0 w2 CP (acc ++ [])):=by rw [List.append_nil];exact H1.out.stays h2
  clear h2 H1
  go_wp2_with fail
  exact bodyPost_ret (v:=.tuple #[]) (by simp [results,Tryz.f167]) rfl ⟨rfl,FN.out⟩
set_option maxHeartbeats 2000000 in
theorem z9L (w0:World) (CP F T h k:Nat) (hN:Node (h+1) k) (e:¬ APRT F T (h+1) k) (e':¬ z0O F T (h+1) k) (acc:List Nat) (w:World) (hw:TAKING w0 w CP acc) (hlen:acc.length+(NEED (h+1) k (SG F T (h+1) k)).length≤2 ^ 30)
    (ih:∀ (k:Nat),Node h k→∀ (acc:List Nat) (w:World),TAKING w0 w CP acc→acc.length+(NEED h k (SG F T h k)).length≤2 ^ 30→Calls Tryz.prog 167 #[.int .u64 ((PLC h k:Nat):Int),.int .u64 (F:Int),.int .u64 (T:Int),.func (.func 109) #[] #[.pointer (some ⟨CP,0,none⟩)]] w (z4a w0 CP acc (NEED h k (SG F T h k)))):
    Calls Tryz.prog 167 #[.int .u64 ((PLC (h+1) k:Nat):Int),.int .u64 (F:Int),.int .u64 (T:Int),.func (.func 109) #[] #[.pointer (some ⟨CP,0,none⟩)]] w (z4a w0 CP acc (NEED (h+1) k (SG F T (h+1) k))):=by
  have ca:=z5H (h+1) k F T hN w
  rw [decide_eq_false e] at ca
  have cu:=fun w=>z5s (h+1) k hN w
  have ck:=fun w=>zfD h k hN w
  obtain ⟨hNl,hNr⟩:=hN.kid
  rw [z3l e,List.length_append] at hlen
  rw [z3l e]
  obtain ⟨LL,hLL⟩:∃ LL,NEED h (2*k) (SG F T h (2*k))=LL:=⟨_,rfl⟩
  obtain ⟨LR,hLR⟩:∃ LR,NEED h (2*k+1) (SG F T h (2*k+1))=LR:=⟨_,rfl⟩
  have il:=fun acc w=>ih (2*k) hNl acc w
  have ir:=fun acc w=>ih (2*k+1) hNr acc w
  rw [hLL] at il hlen ⊢
  rw [hLR] at ir hlen ⊢
  have HS:Aside (TAKING w0 w CP acc):=hw
  have IH:Aside (_∧_∧acc.length+(LL.length+LR.length)≤2 ^ 30):=⟨il,ir,hlen⟩
  have hw':¬ (F≤k*2 ^ (h+1)∧(k+1)*2 ^ (h+1)≤T):=e'
  generalize k*2 ^ (h+1)=A at *
  generalize (k+1)*2 ^ (h+1)=B at *
  have g1:¬ (F:Int)≤(A:Int)∨((F:Int)≤(A:Int)∧¬ (B:Int)≤(T:Int)):=by
    by_cases h1:F≤A
    · exact .inr ⟨by omega,fun h2=>hw' ⟨h1,by omega⟩⟩
    · exact .inl (by omega)
  clear hN e e' hw ih il ir hLL hLR hlen hNl hNr hw'
  rcases g1 with g1 | ⟨g1,g2⟩
  all_goals
    go_enter Tryz.func167,Tryz.ntmps167
    go_wp2_with fail
    refine ca.mono ?_
    rintro e w1 ⟨rfl,h1⟩
    clear ca
    have H1:Aside (TAKING w0 w1 CP acc):=HS.out.stays h1
    clear h1 HS
    go_wp2_with fail
    refine (cu w1).mono ?_
    rintro e w2 ⟨rfl,h2⟩
    clear cu
    have H2:Aside (TAKING w0 w2 CP acc):=H1.out.stays h2
    clear h2 H1
    go_wp2_with fail
    refine (ck w2).mono ?_
    rintro e w3 ⟨rfl,h3⟩
    clear ck
    have c1:=IH.out.1 acc w3 (H2.out.stays h3) (by have:=IH.out.2.2;omega)
    clear h3 H2
    go_wp2_with fail
    refine c1.mono ?_
    rintro e w4 ⟨rfl,h4⟩
    clear c1
    have c2:=IH.out.2.1 (acc ++ LL) w4 h4 (by rw [List.length_append];have:=IH.out.2.2;omega)
    clear h4 IH
    go_wp2_with fail
    refine c2.mono ?_
    rintro e w5 ⟨rfl,h5⟩
    clear c2
    have FN:Aside (TAKING w0 w5 CP (acc ++ (LL ++ LR))):=by rw [List.append_assoc] at h5;exact h5
    clear h5
    go_wp2_with fail
    exact bodyPost_end (v:=.tuple #[]) (by simp [results,Tryz.f167]) rfl ⟨rfl,FN.out⟩
theorem zda (w0:World) (CP F T:Nat):∀ (h k:Nat),Node h k→∀ (acc:List Nat) (w:World),TAKING w0 w CP acc→acc.length+(NEED h k (SG F T h k)).length≤2 ^ 30→
    Calls Tryz.prog 167 #[.int .u64 ((PLC h k:Nat):Int),.int .u64 (F:Int),.int .u64 (T:Int),.func (.func 109) #[] #[.pointer (some ⟨CP,0,none⟩)]] w (z4a w0 CP acc (NEED h k (SG F T h k))):=by
  intro h
  induction h with
  | zero=>
    intro k hN acc w hw hlen
    by_cases e:APRT F T 0 k
    · rw [z2E e] at hlen ⊢
      exact z4J w0 CP F T 0 k hN e acc w hw (by omega)
    · rw [z1g (z29 e)]
      exact z4f w0 CP F T 0 k hN (z29 e) acc w hw
  | succ h ih=>
    intro k hN acc w hw hlen
    by_cases e:APRT F T (h+1) k
    · rw [z2E e] at hlen ⊢
      exact z4J w0 CP F T (h+1) k hN e acc w hw (by omega)
    · by_cases e':z0O F T (h+1) k
      · rw [z1g e']
        exact z4f w0 CP F T (h+1) k hN e' acc w hw
      · exact z9L w0 CP F T h k hN e e' acc w hw hlen ih
end Go.Proofs.YtnmalbngdhjhjaaGreatDoor

namespace Go.Proofs.YtnmalbngdhjhjaaGreatDoor
open Go.RowKit
set_option maxRecDepth 100000
def FLT (F T N j:Nat):List Nat:=(((TPS N).drop j).map fun s=>NEED s.1 s.2 (SG F T s.1 s.2)).flatten
theorem zeW {F T N j h k:Nat} (e:(TPS N)[j]?=some (h,k)):FLT F T N j=NEED h k (SG F T h k) ++ FLT F T N (j+1):=by
  unfold FLT
  rw [zaA e,List.map_cons,List.flatten_cons]
theorem zg8 {F T N j:Nat} (h:(TPS N).length≤j):FLT F T N j=[]:=by
  unfold FLT
  rw [List.drop_of_length_le h]
  rfl
theorem zg9 {F T N:Nat} (hN:N≤4611686018427387904) (hT:T≤N):SPP F T N=FLT F T N 0:=z5G hN hT
set_option maxHeartbeats 2000000 in
theorem zeX (CP F T N:Nat) (hN:N≤4611686018427387904) (hTN:T≤N) (w:World) (hCP:CP<w.heap.size) (hT:Tabled w) (hv:Has w CP #[.slice none 0 0] 23):
    Calls Tryz.prog 108 #[.int .u64 (F:Int),.int .u64 (T:Int),.int .u64 (N:Int),.func (.func 109) #[] #[.pointer (some ⟨CP,0,none⟩)]] w fun e w'=>∃ w1,Below w.heap.size w w1∧z4a w1 CP [] (SPP F T N) e w':=by
  have cp:=zen N hN w hT (by omega)
  have hPC:PC N≤64:=z3f 64 N (by omega)
  have hlen:=z2D (n:=N) (by omega)
  have hmost:=z6J (F:=F) hN hTN
  have hall:=zg9 (F:=F) hN hTN
  have HA:Aside (N≤4611686018427387904∧T≤N∧PC N≤64∧(TPS N).length=PC N∧(SPP F T N).length≤188∧SPP F T N=FLT F T N 0∧CP<w.heap.size∧Has w CP #[.slice none 0 0] 23):=⟨hN,hTN,hPC,hlen,hmost,hall,hCP,hv⟩
  clear hN hTN hPC hlen hmost hall hCP hT hv
  obtain ⟨P,hP⟩:∃ P,SPP F T N=P:=⟨_,rfl⟩
  rw [hP] at HA ⊢
  clear hP
  go_enter Tryz.func108,Tryz.ntmps108
  go_wp2_with fail
  refine cp.mono ?_
  rintro e w1 ⟨g,cg,rfl,hown,hb1⟩
  clear cp
  obtain ⟨m,hm⟩:∃ m,PC N=m:=⟨_,rfl⟩
  rw [hm] at hown HA ⊢
  have hg:=hown.lt g rfl
  have R1:Aside (w1.ownsRow w.heap.size 24 1 (.slice (some ⟨g,0,none⟩) m cg) m (z0k (z3i N))∧Below w.heap.size w w1∧g≠CP∧g<w1.heap.size):=⟨hown,hb1,by have:=HA.out.2.2.2.2.2.2.1;omega,hg.2⟩
  have T0:Aside (TAKING w1 w1 CP []):=by
    have hv1:Has w1 CP #[.slice none 0 0] 23:=HA.out.2.2.2.2.2.2.2.keep hb1
    exact ⟨⟨.slice none 0 0,hv1,⟨rfl,.inl ⟨rfl,rfl⟩⟩⟩,fun b _ _=>rfl,hv1.lt,Below.refl _ _⟩
  clear hown hb1 hm hg
  go_wp2_with fail
  go_loopg [13] m (fun q s13 wx=>∃ (j:Nat) (told:List Nat),s13=.int .i64 (j:Int)∧Aside (j+q=m∧TAKING w1 wx CP told∧P=told ++ FLT F T N j))
  case atStart=>exact ⟨0,[],rfl,by omega,T0.out,by rw [List.nil_append];exact HA.out.2.2.2.2.2.1⟩
  case round=>
    obtain ⟨j,told,rfl,A⟩:=hrel
    clear T0
    cases gk with
    | zero=>
      obtain rfl:j=m:=by have:=A.out.1;omega
      have hlt:¬ (j:Int)<(j:Int):=by omega
      have FN:Aside (∃ w1,Below w.heap.size w w1∧z4a w1 CP [] P (.returned (.tuple #[])) wr):=by
        obtain ⟨h1,h2,h3⟩:=A.out
        rw [zg8 (by have:=HA.out.2.2.2.1;omega),List.append_nil] at h3
        exact ⟨w1,R1.out.2.1,rfl,by rw [List.nil_append,h3];exact h2⟩
      clear A R1 HA
      go_wp2_with fail
      exact bodyPost_end (v:=.tuple #[]) (by simp [results,Tryz.f108]) rfl FN.out
    | succ q=>
      have hlt:(j:Int)<(m:Int):=by have:=A.out.1;omega
      have hjm:j<(TPS N).length:=by have:=A.out.1;have:=HA.out.2.2.2.1;omega
      obtain ⟨⟨h,k⟩,ehk⟩:∃ s,(TPS N)[j]?=some s:=⟨_,List.getElem?_eq_getElem hjm⟩
      have hsp:=z48 (by have:=HA.out.1;omega) (List.mem_of_getElem? ehk)
      have epk:=zeU ehk
      have hcell:wr.cell? ⟨g,j,none⟩=some (.int .u64 ((PLC h k:Nat):Int)):=by
        have h1:=R1.out.1.cellAt j (by have:=A.out.1;omega)
        refine (World.cell?_of_block (w:=w1) (by exact A.out.2.1.keep g R1.out.2.2.2 R1.out.2.2.1)).trans (h1.trans ?_)
        rw [z0k,List.getElem?_map,epk]
        rfl
      have hP:P=told ++ (NEED h k (SG F T h k) ++ FLT F T N (j+1)):=by rw [← zeW ehk];exact A.out.2.2
      have hle:told.length+(NEED h k (SG F T h k)).length≤2 ^ 30:=by
        have h1:=HA.out.2.2.2.2.1
        rw [hP,List.length_append,List.length_append] at h1
        omega
      have cu:=zda w1 CP F T h k hsp.2.2 told wr A.out.2.1 hle
      have ej:wrap64 ((j:Int)+1)=((j+1:Nat):Int):=by have:=A.out.1;have:=HA.out.2.2.1;unfold wrap64;omega
      have EJ:Aside (wrap64 ((j:Int)+1)=((j+1:Nat):Int)∧j+1+q=m∧P=(told ++ NEED h k (SG F T h k)) ++ FLT F T N (j+1)):=⟨ej,by have:=A.out.1;omega,by rw [List.append_assoc];exact hP⟩
      have bj:(j:Int)≤64:=by have:=A.out.1;have:=HA.out.2.2.1;omega
      clear ehk hsp epk hjm hP hle A ej
      go_wp2_with fail
      refine cu.mono ?_
      rintro e w3 ⟨rfl,h3⟩
      clear cu
      have H3:Aside (TAKING w1 w3 CP (told ++ NEED h k (SG F T h k))):=h3
      clear h3
      go_wp2_with fail
      go_roundg q
      case measure=>exact Nat.lt_succ_self _
      case rel=>exact ⟨j+1,told ++ NEED h k (SG F T h k),by first | rfl | (rw [EJ.out.1]),EJ.out.2.1,H3.out,EJ.out.2.2⟩
def SPA (F T N:Nat):List Nat:=if SPE F T N=0 then SPP F T N else []
def z35 (w:World) (E:Int) (l:List Nat) (e:Ending) (w':World):Prop:=∃ a c,e=.returned (.tuple #[.slice a l.length c,.int .i64 E])∧w'.ownsRow w.heap.size 24 1 (.slice a l.length c) l.length (z0k l)∧Below w.heap.size w w'
theorem z3m (F T N:Nat):(SPE F T N=30∧SPA F T N=[]∧4611686018427387904<N)∨(SPE F T N=32∧SPA F T N=[]∧N≤4611686018427387904∧(T<F∨F≤T∧N<T))∨(SPE F T N=0∧SPA F T N=SPP F T N∧N≤4611686018427387904∧F≤T∧T≤N):=by
  unfold SPA SPE
  by_cases h1:4611686018427387904<N
  · rw [if_pos h1]
    exact .inl ⟨rfl,rfl,h1⟩
  · rw [if_neg h1]
    by_cases h2:T<F∨N<T
    · rw [if_pos h2]
      exact .inr (.inl ⟨rfl,rfl,by omega,by omega⟩)
    · rw [if_neg h2,if_pos rfl]
      exact .inr (.inr ⟨rfl,rfl,by omega,by omega,by omega⟩)
theorem z2G (w:World) (B:Nat):w.ownsRow B 24 1 (.slice none ([]:List Nat).length 0) ([]:List Nat).length (z0k []):=⟨rfl,.inl ⟨rfl,rfl⟩⟩
set_option maxHeartbeats 2000000 in
theorem z2w (F T N:Nat) (w:World) (hT:Tabled w) (h0:0<w.heap.size):Calls Tryz.prog 62 #[.int .u64 (F:Int),.int .u64 (T:Int),.int .u64 (N:Int)] w (z35 w (SPE F T N) (SPA F T N)):=by
  rcases z3m F T N with ⟨e1,e2,h⟩ | ⟨e1,e2,h,h'⟩ | ⟨e1,e2,hN,hF,hTN⟩
  · rw [e1,e2]
    have g1:(4611686018427387904:Int)<(N:Int):=by omega
    clear h hT h0 e1 e2
    go_enter Tryz.func62,Tryz.ntmps62
    go_wp2
    go_ret2
    exact ⟨none,0,rfl,z2G _ _,Below.refl _ _⟩
  · rw [e1,e2]
    have g1:¬ (4611686018427387904:Int)<(N:Int):=by omega
    have g2:(T:Int)<(F:Int)∨(¬ (T:Int)<(F:Int)∧(N:Int)<(T:Int)):=by omega
    clear h h' hT h0 e1 e2
    rcases g2 with g2 | ⟨g2,g3⟩
    all_goals
      go_enter Tryz.func62,Tryz.ntmps62
      go_wp2
      go_ret2
      exact ⟨none,0,rfl,z2G _ _,Below.refl _ _⟩
  · rw [e1,e2]
    have g1:¬ (4611686018427387904:Int)<(N:Int):=by omega
    have g2:¬ (T:Int)<(F:Int):=by omega
    have g3:¬ (N:Int)<(T:Int):=by omega
    have hmf:∀ (fn:Fn) (first cap:Array Value) (w:World),(Instr.makeFunc fn first cap).run Tryz.prog w=.ok (.func fn first cap) w:=fun _ _ _ _=>rfl
    obtain ⟨w1,ew1⟩:∃ w1,w.alloc (.cells #[.slice none 0 0] 23)=w1:=⟨_,rfl⟩
    have hb1:Below w.heap.size w w1:=by rw [← ew1];exact (Below.refl _ _).alloc (Nat.le_refl _) _
    have hv:Has w1 w.heap.size #[.slice none 0 0] 23:=by rw [← ew1];exact Has.new w _ _
    have cn:=zeX w.heap.size F T N hN hTN w1 hv.lt (hT.below h0 hb1) hv
    have HB:Aside (Below w.heap.size w w1):=hb1
    generalize SPP F T N=P at *
    clear hN hF hTN hT h0 e1 e2 hb1 hv
    go_enter Tryz.func62,Tryz.ntmps62
    go_wp2_with fail
    refine cn.mono ?_
    rintro e w2 ⟨wa,hba,rfl,ht⟩
    rw [List.nil_append] at ht
    obtain ⟨v,hv,hown⟩:=ht.row
    obtain ⟨a,c,rfl⟩:=z2a hown
    have c0:=hv.cell 0
    have FN:Aside (w2.ownsRow w.heap.size 24 1 (.slice a P.length c) P.length (z0k P)∧Below w.heap.size w w2):=⟨z0s hown (by have:=hba.size;have:=HB.out.size;omega),(HB.out.trans (hba.mono HB.out.size)).trans (ht.below.mono (by have:=hba.size;have:=HB.out.size;omega))⟩
    clear cn ht hv hown hba HB
    go_wp2_with fail
    go_ret2
    exact ⟨a,c,rfl,FN.out.1,FN.out.2⟩
end Go.Proofs.YtnmalbngdhjhjaaGreatDoor

namespace Go.Proofs.YtnmalbngdhjhjaaGreatDoor
open Go.RowKit
set_option maxRecDepth 100000
def SLA (a:Option Addr) (c k:Nat):Option Addr:=match a with
  | none=>none
  | some ad=>if c=k then some ad else some ⟨ad.block,ad.off+k*32,none⟩
theorem Flat.behind {w:World} {a:Option Addr} {n c:Nat} {l:List Int} (h:Flat w a n l) (k:Nat) (hk:k≤n) (hc:n≤c):Flat w (SLA a c k) (n - k) (l.drop (32*k)):=by
  refine ⟨by rw [List.length_drop,h.1];omega,fun h0=>?_,fun x hx=>h.2.2 x (List.mem_of_mem_drop hx)⟩
  obtain ⟨b,o,rfl,hb,hcs⟩:=h.2.1 (by omega)
  have hck:¬ c=k:=by omega
  refine ⟨b,o+k*32,by simp [SLA,hck],hb,fun j hj=>?_⟩
  rw [show o+k*32+j=o+(32*k+j) by omega,hcs (32*k+j) (by omega)]
  congr 2
  rw [List.getD_eq_getElem?_getD,List.getD_eq_getElem?_getD,List.getElem?_drop]
end Go.Proofs.YtnmalbngdhjhjaaGreatDoor

namespace Go.Proofs.YtnmalbngdhjhjaaGreatDoor
set_option maxRecDepth 100000
theorem z8L (h k:Nat):(2*k)*2 ^ h=k*2 ^ (h+1)∧(2*k+1+1)*2 ^ h=(k+1)*2 ^ (h+1):=by
  rw [Nat.pow_succ]
  constructor
  · rw [Nat.mul_comm 2 k,Nat.mul_assoc,Nat.mul_comm 2]
  · rw [show 2*k+1+1=2*(k+1) by omega,Nat.mul_comm 2 (k+1),Nat.mul_assoc,Nat.mul_comm 2]
def HSS (n:Nat) (l:List Int):Prop:=l.length=32*n∧∀ x∈l,0≤x∧x≤255
theorem HSS.rest {n:Nat} {l:List Int} (h:HSS n l):HSS (n - 1) (l.drop 32):=⟨by rw [List.length_drop,h.1];omega,fun x hx=>h.2 x (List.mem_of_mem_drop hx)⟩
end Go.Proofs.YtnmalbngdhjhjaaGreatDoor

namespace Go.Proofs.YtnmalbngdhjhjaaGreatDoor
open Go.RowKit
set_option maxRecDepth 100000
def BUT (bc:Nat) (w w':World):Prop:=(∀ q,q<w.heap.size→q≠bc→w'.heap[q]?=w.heap[q]?)∧Below bc w w'
theorem BUT.refl (bc:Nat) (w:World):BUT bc w w:=⟨fun _ _ _=>rfl,Below.refl _ _⟩
theorem BUT.trans {bc:Nat} {w w1 w2:World} (h:BUT bc w w1) (h':BUT bc w1 w2):BUT bc w w2:=
  ⟨fun q hq hne=>(h'.1 q (Nat.lt_of_lt_of_le hq h.2.size) hne).trans (h.1 q hq hne),h.2.trans h'.2⟩
theorem BUT.of_below {bc:Nat} {w w':World} (hb:Below w.heap.size w w') (hc:bc≤w.heap.size):BUT bc w w':=⟨fun q hq _=>hb.block q hq,hb.mono hc⟩
theorem Flat.but {bc:Nat} {w w':World} {a:Option Addr} {n:Nat} {l:List Int} (h:Flat w a n l) (hb:BUT bc w w') (ha:∀ x,a=some x→x.block≠bc):Flat w' a n l:=by
  refine ⟨h.1,fun h0=>?_,h.2.2⟩
  obtain ⟨b,o,e,hlt,hc⟩:=h.2.1 h0
  exact ⟨b,o,e,Nat.lt_of_lt_of_le hlt hb.2.size,fun j hj=>(World.cell?_of_block (w:=w) (by exact hb.1 b hlt (ha _ e))).trans (hc j hj)⟩
end Go.Proofs.YtnmalbngdhjhjaaGreatDoor

namespace Go.Proofs.YtnmalbngdhjhjaaGreatDoor
set_option maxRecDepth 100000
theorem z5I:∀ (h k:Nat) (L:List Nat),Node h k→∀ s∈NSP h k L,Node s.1 s.2
  | h,k,[],hN,s,hs=>by
    rw [z3B,List.mem_singleton] at hs
    subst hs
    exact hN
  | 0,_,_ :: _,_,s,hs=>by cases hs
  | h+1,k,x :: l,hN,s,hs=>by
    rw [NSP] at hs
    rcases List.mem_append.1 hs with hs | hs
    · exact z5I h (2*k) _ hN.kid.1 s hs
    · exact z5I h (2*k+1) _ hN.kid.2 s hs
end Go.Proofs.YtnmalbngdhjhjaaGreatDoor

namespace Go.Proofs.YtnmalbngdhjhjaaGreatDoor
open Go.RowKit
set_option maxRecDepth 100000
end Go.Proofs.YtnmalbngdhjhjaaGreatDoor

namespace Go.Proofs.YtnmalbngdhjhjaaGreatDoor
open Go.RowKit
set_option maxRecDepth 100000
theorem z7u (l k:List (Nat × Nat)):z0g (l ++ k)=z0g l ++ z0g k:=by unfold z0g;rw [List.flatMap_append]
theorem zbK (l:List (Nat × Nat)):∀ u∈z0g l,u.oneCell'=true:=fun u hu=>by
  unfold z0g at hu
  obtain ⟨x,_,hx⟩:=List.mem_flatMap.1 hu
  simp at hx
  rcases hx with rfl | rfl <;> rfl
theorem z5j {ops:Array Oper} {rest:List Oper} {o:Oper} {a:Act} {Q:Exit→Act→World→Prop} (w:World) (hgd:o.guard=none) (s x:Operand)
    (ho:o.op=.call {callee:=.builtin .append,args:=#[s,x],argTypes:=#[100,100]})
    (base:Nat) (v:Value) (n:Nat) (xs:List (Nat × Nat)) (hs:a.eval s=v) (hown:w.ownsRow base 104 2 v n (z0g xs))
    (B:Nat) (ad:Option Addr) (m c:Nat) (l:List (Nat × Nat)) (hx:a.eval x=.slice ad m c) (hsrc:w.ownsRow B 104 2 (.slice ad m c) m (z0g l))
    (hb:n+m≤2 ^ 26) (hbase:base≤w.heap.size)
    (hh:∀ a' c' w',w'.ownsRow base 104 2 (.slice a' (n+m) c') (n+m) (z0g (xs ++ l))→w.grownBy w' v.ownBlock→wpList Tryz.prog ops Q rest (a.put o.dst (.slice a' (n+m) c')) w'):wpList Tryz.prog ops Q (o :: rest) a w:=by
  obtain ⟨i,hi,hz,hs1,hby⟩:=info_parts z78
  have hlm:(z0g l).length=m*2:=hsrc.1
  cases ad with
  | none=>
    have h0:m=0∧c=0:=by
      rcases hsrc.2 with ⟨e,h0⟩ | ⟨_,_,_,e,_⟩
      · cases e;exact ⟨rfl,rfl⟩
      · cases e
    obtain ⟨rfl,rfl⟩:=h0
    have hl0:l=[]:=by
      cases l with
      | nil=>rfl
      | cons y l=>simp [z0g] at hlm
    subst hl0
    refine wpList_append_own_none hgd s x 100 ho base 104 i 2 Tryz.underlying100 hi v n (z0g xs) hs hown hx ?_
    obtain ⟨a',c',rfl⟩:=z2a hown
    have:=hh a' c' w (by simpa using hown) ⟨rfl,rfl,rfl,Nat.le_refl _,fun _ _ _=>rfl⟩
    simpa using this
  | some ad=>
    obtain ⟨g,rfl⟩:∃ g,ad=⟨g,0,none⟩:=by
      rcases hsrc.2 with ⟨e,h0⟩ | ⟨g,_,_,e,_⟩
      · cases e
      · cases e;exact ⟨g,rfl⟩
    refine wpList_append_own w hgd s x 100 ho base 104 i _ 2 16 Tryz.underlying100 hi hz hs1 hby rfl (by decide) v n (z0g xs) hs hown ⟨g,0,none⟩ m c (z0g l) hx hlm (fun j u hu=>?_) (zbK l) (by simp only [maxLen];omega) (by omega) hbase ?_
    · have hj:j<m*2:=by rw [← hlm];exact (List.getElem?_eq_some_iff.1 hu).1
      rw [show (⟨g,0,none⟩:Addr).add j=⟨g,j,none⟩ by unfold Addr.add;split <;> simp_all]
      exact (hsrc.cellAt j hj).trans hu
    · intro v' w' h1 h2 _
      obtain ⟨a',c',rfl⟩:=z2a h1
      rw [← z7u] at h1
      exact hh a' c' w' h1 h2
theorem zbL (w:World):(w.alloc (.cells #[] 104)).ownsRow w.heap.size 104 2 (.slice (some ⟨w.heap.size,0,none⟩) 0 0) 0 (z0g []):=
  World.ownsRow_lit w #[] 0 (Nat.le_refl _) (by simp [maxLen]) rfl
theorem zdb (w:World) (h k:Nat):(w.alloc (.cells #[.int .u8 (h:Int),.int .u64 (k:Int)] 104)).ownsRow w.heap.size 104 2 (.slice (some ⟨w.heap.size,0,none⟩) 1 1) 1 (z0g [(h,k)]):=
  World.ownsRow_lit w #[.int .u8 (h:Int),.int .u64 (k:Int)] 1 (Nat.le_refl _) (by simp [maxLen]) rfl
theorem z1R {w w':World} {B s n:Nat} {t:TypeId} {v:Value} {xs:List Value} (h:w.ownsRow B t s v n xs) (hk:∀ k,v.ownBlock=some k→w'.heap[k]?=w.heap[k]?):w'.ownsRow B t s v n xs:=by
  refine ⟨h.1,?_⟩
  rcases h.2 with h | ⟨g,cap,cur,rfl,hb,hg,r⟩
  · exact .inl h
  · exact .inr ⟨g,cap,cur,rfl,hb,by rw [hk g rfl];exact hg,r⟩
end Go.Proofs.YtnmalbngdhjhjaaGreatDoor
