/- Texts of ManyVerifies, one behind the other: ManyNeedD, ManyRead. -/
import Derived.Test.YtlicfinmibbpdaaGreatDoorManyVerifiesP34
namespace Go.Proofs.YtlicfinmibbpdaaGreatDoor
open Go.RowKit
set_option maxRecDepth 100000
set_option maxHeartbeats 2000000 in
theorem zc7 (w0:World) (bi:Nat) (CP QB:Nat) (S P:List Nat→World→Prop) (X:List PanicEntry)
    (hS:∀ acc w w',S acc w→Below w.heap.size w w'→S acc w') (hB:∀ acc w,S acc w→(bi<w0.heap.size→w.heap[bi]?=w0.heap[bi]?)∧w0.heap.size≤w.heap.size)
    (ht:∀ acc (p:Nat) w,S acc w→acc.length≤2 ^ 30→Calls Tryz.prog 91 #[.int .u64 (p:Int),.pointer (some ⟨CP,0,none⟩),.pointer (some ⟨QB,0,none⟩)] w fun e w'=>(e=.returned (.tuple #[])∧S (acc ++ [p]) w')∨(e=.panicked X∧P acc w')):
    ∀ (h k:Nat),Node h k→∀ (L:List Nat) (a:Option Addr) (n c:Nat) (acc:List Nat) (w:World),L.length=n→n<2 ^ 40→RISES L→n≤c→(a=none→c=0)→(∀ x,a=some x→x.block=bi∧x.spot=none)→NUML w0 a L→S acc w→acc.length+(NEED h k L).length≤2 ^ 30→
    Calls Tryz.prog 103 #[.int .u64 ((PLC h k:Nat):Int),.slice a n c,.func (.func 91) #[] #[.pointer (some ⟨CP,0,none⟩),.pointer (some ⟨QB,0,none⟩)]] w (TOLD S P X acc (NEED h k L)):=by
  intro h
  induction h with
  | zero=>
    intro k hN L a n c acc w hl hn hR hc hnil hbl hL hw hlen
    cases L with
    | nil=>
      obtain rfl:n=0:=by simpa using hl.symm
      rw [z0P] at hlen ⊢
      have ct:=ht acc (PLC 0 k) w hw (by simp at hlen;omega)
      clear hl hn hR hc hnil hbl hL hw hlen ht hS hB
      go_enter Tryz.func103,Tryz.ntmps103
      go_wp2_with fail
      refine ct.mono ?_
      rintro e w1 (⟨rfl,h1⟩ | ⟨rfl,h1⟩)
      · clear ct
        have FN:Aside (S (acc ++ [PLC 0 k]) w1):=h1
        clear h1
        go_wp2_with fail
        exact bodyPost_ret (v:=.tuple #[]) (by simp [results,Tryz.f103]) rfl (.inl ⟨rfl,FN.out⟩)
      · exact ⟨rfl,.inr ⟨acc,PLC 0 k,List.prefix_refl _,rfl,h1⟩⟩
    | cons x l=>
      have hn0:((n:Int) == 0)=false:=beq_eq_false_iff_ne.2 (by simp at hl;omega)
      have ck:=z36 ((PLC 0 k:Nat):Int) k w (.node hN)
      have HS:Aside (∀ w',Below w.heap.size w w'→S (acc ++ []) w'):=fun w' hb=>by rw [List.append_nil];exact hS acc w w' hw hb
      clear hl hn hR hc hnil hbl hL hw hlen ht hS hB
      go_enter Tryz.func103,Tryz.ntmps103
      go_wp2_with fail
      refine ck.mono ?_
      rintro e w1 ⟨rfl,h1⟩
      clear ck
      have FN:Aside (S (acc ++ []) w1):=HS.out w1 h1
      clear h1 HS
      go_wp2_with fail
      exact bodyPost_ret (v:=.tuple #[]) (by simp [results,Tryz.f103]) rfl (.inl ⟨rfl,FN.out⟩)
  | succ h ih=>
    intro k hN L a n c acc w hl hn hR hc hnil hbl hL hw hlen
    by_cases hLe:L=[]
    · subst hLe
      obtain rfl:n=0:=by simpa using hl.symm
      rw [z0P] at hlen ⊢
      have ct:=ht acc (PLC (h+1) k) w hw (by simp at hlen;omega)
      clear hl hn hR hc hnil hbl hL hw hlen ht hS hB ih
      go_enter Tryz.func103,Tryz.ntmps103
      go_wp2_with fail
      refine ct.mono ?_
      rintro e w1 (⟨rfl,h1⟩ | ⟨rfl,h1⟩)
      · clear ct
        have FN:Aside (S (acc ++ [PLC (h+1) k]) w1):=h1
        clear h1
        go_wp2_with fail
        exact bodyPost_ret (v:=.tuple #[]) (by simp [results,Tryz.f103]) rfl (.inl ⟨rfl,FN.out⟩)
      · exact ⟨rfl,.inr ⟨acc,PLC (h+1) k,List.prefix_refl _,rfl,h1⟩⟩
    · have hn0:((n:Int) == 0)=false:=beq_eq_false_iff_ne.2 (by have:=List.length_pos_iff.2 hLe;omega)
      obtain ⟨hNl,hNr⟩:=hN.kid
      have ck:=z4t h k hN w
      have HA:Aside (L.length=n∧n<2 ^ 40∧RISES L∧n≤c∧(a=none→c=0)∧(∀ x,a=some x→x.block=bi∧x.spot=none)∧NUML w0 a L∧S acc w∧acc.length+(NEED (h+1) k L).length≤2 ^ 30∧L≠[]):=⟨hl,hn,hR,hc,hnil,hbl,hL,hw,hlen,hLe⟩
      have NS:Aside ((∀ acc w w',S acc w→Below w.heap.size w w'→S acc w')∧(∀ acc w,S acc w→(bi<w0.heap.size→w.heap[bi]?=w0.heap[bi]?)∧w0.heap.size≤w.heap.size)∧Node h (2*k)∧Node h (2*k+1)):=⟨hS,hB,hNl,hNr⟩
      have IH:Aside _:=ih
      clear hl hn hR hc hnil hbl hL hw hlen ht hS hB ih hNl hNr hLe
      go_enter Tryz.func103,Tryz.ntmps103
      go_wp2_with fail
      refine ck.mono ?_
      rintro e w1 ⟨rfl,hb1⟩
      clear ck
      have S1:Aside (S acc w1):=NS.out.1 acc w w1 HA.out.2.2.2.2.2.2.2.1 hb1
      have hN1:NUML w1 a L:=fun h0=>by
        obtain ⟨b,o,e,hl,hcc⟩:=HA.out.2.2.2.2.2.2.1 h0
        have hbb:b=bi:=(HA.out.2.2.2.2.2.1 _ e).1
        obtain ⟨k1,k2⟩:=NS.out.2.1 acc w1 S1.out
        subst hbb
        exact ⟨b,o,e,by omega,fun i x hx=>(World.cell?_of_block (w:=w0) (by exact k1 hl)).trans (hcc i x hx)⟩
      have cs:=z1H h (2*k) NS.out.2.2.1 a n c L HA.out.1 HA.out.2.1 HA.out.2.2.1 HA.out.2.2.2.1 HA.out.2.2.2.2.1 (fun x e=>(HA.out.2.2.2.2.2.1 x e).2) w1 hN1
      clear hb1 hN1
      go_wp2_with fail
      refine cs.mono ?_
      rintro e w2 ⟨r,a',rfl,hs⟩
      clear cs
      have hsp:NEED (h+1) k L=NEED h (2*k) (L.take r) ++ NEED h (2*k+1) (L.drop r):=z2z HA.out.2.2.2.2.2.2.2.2.2 hs.rank
      have hrn:=hs.rank.le
      have ML:Aside (NUML w0 a (L.take r)):=fun h0=>by
        obtain ⟨b,o,e,hl,hcc⟩:=HA.out.2.2.2.2.2.2.1 (by rw [List.length_take] at h0;omega)
        refine ⟨b,o,e,hl,fun i x hx=>hcc i x ?_⟩
        rw [List.getElem?_take] at hx
        split at hx
        · exact hx
        · cases hx
      have MR:Aside (NUML w0 a' (L.drop r)∧∀ x,a'=some x→x.block=bi∧x.spot=none):=by
        refine ⟨fun h0=>?_,fun x hx=>?_⟩
        · obtain ⟨b,o,e,hl,hcc⟩:=hs.lies h0
          obtain ⟨y,e2,e3⟩:=hs.block _ e
          have hbb:b=bi:=by have:=(HA.out.2.2.2.2.2.1 _ e2).1;rw [← e3] at this;exact this
          obtain ⟨k1,k2⟩:=NS.out.2.1 acc w1 S1.out
          obtain ⟨b',o',e',hl',_⟩:=HA.out.2.2.2.2.2.2.1 (by rw [List.length_drop] at h0;omega)
          have hbi:bi<w0.heap.size:=by have h9:b'=bi:=(HA.out.2.2.2.2.2.1 _ e').1;omega
          subst hbb
          exact ⟨b,o,e,hbi,fun i x hx=>(World.cell?_of_block (w:=w1) (by exact (k1 hbi).symm)).trans (hcc i x hx)⟩
        · obtain ⟨y,e2,e3⟩:=hs.block x hx
          refine ⟨by rw [e3];exact (HA.out.2.2.2.2.2.1 _ e2).1,hs.spot x hx⟩
      have S2:Aside (S acc w2):=NS.out.1 acc w1 w2 S1.out hs.below
      have NL:Aside (a'=none→c - r=0):=hs.nil
      have SP:Aside (NEED (h+1) k L=NEED h (2*k) (L.take r) ++ NEED h (2*k+1) (L.drop r)∧r≤n∧acc.length+(NEED h (2*k) (L.take r)).length+(NEED h (2*k+1) (L.drop r)).length≤2 ^ 30):=by
        refine ⟨hsp,by have:=HA.out.1;omega,?_⟩
        have h1:=HA.out.2.2.2.2.2.2.2.2.1
        rw [hsp,List.length_append] at h1
        omega
      clear hs hsp hrn S1
      have c1:=IH.out (2*k) NS.out.2.2.1 (L.take r) a r c acc w2 (by rw [List.length_take];have:=SP.out.2.1;have:=HA.out.1;omega) (by have:=SP.out.2.1;have:=HA.out.2.1;omega) (HA.out.2.2.1.take r) (by have:=SP.out.2.1;have:=HA.out.2.2.2.1;omega) HA.out.2.2.2.2.1 HA.out.2.2.2.2.2.1 ML.out S2.out (by have:=SP.out.2.2;omega)
      go_wp2_with fail
      refine c1.mono ?_
      rintro e w3 (⟨rfl,h3⟩ | ⟨pre,p,hp,rfl,h3⟩)
      · clear c1
        have c2:=IH.out (2*k+1) NS.out.2.2.2 (L.drop r) a' (n - r) (c - r) (acc ++ NEED h (2*k) (L.take r)) w3 (by rw [List.length_drop];have:=HA.out.1;omega) (by have:=HA.out.2.1;omega) (HA.out.2.2.1.drop r) (by have:=HA.out.2.2.2.1;omega) NL.out MR.out.2 MR.out.1 h3 (by rw [List.length_append];exact SP.out.2.2)
        have SQ:Aside (acc ++ NEED h (2*k) (L.take r) ++ NEED h (2*k+1) (L.drop r)=acc ++ NEED (h+1) k L):=show acc ++ NEED h (2*k) (L.take r) ++ NEED h (2*k+1) (L.drop r)=acc ++ NEED (h+1) k L by rw [SP.out.1,List.append_assoc]
        clear h3 IH HA NS ML MR S2 NL SP
        go_wp2_with fail
        refine c2.mono ?_
        rintro e w4 (⟨rfl,h4⟩ | ⟨pre,p,hp,rfl,h4⟩)
        · have FN:Aside (S (acc ++ NEED (h+1) k L) w4):=by rw [SQ.out] at h4;exact h4
          clear h4 c2 SQ
          go_wp2_with fail
          exact bodyPost_end (v:=.tuple #[]) (by simp [results,Tryz.f103]) rfl (.inl ⟨rfl,FN.out⟩)
        · rw [SQ.out] at hp
          exact ⟨rfl,.inr ⟨pre,p,hp,rfl,h4⟩⟩
      · refine ⟨rfl,.inr ⟨pre,p,hp.trans ?_,rfl,h3⟩⟩
        rw [SP.out.1,← List.append_assoc]
        exact List.prefix_append _ _
set_option maxHeartbeats 2000000 in
theorem zdB (bi CP QB RB:Nat) (S P:World→List Nat→World→Prop) (X:List PanicEntry)
    (hS:∀ w0 acc w w',S w0 acc w→Below w.heap.size w w'→S w0 acc w') (hB:∀ w0 acc w,S w0 acc w→(∀ b,b<w0.heap.size→b≠CP→b≠RB→w.heap[b]?=w0.heap[b]?)∧w0.heap.size≤w.heap.size)
    (ht:∀ w0 acc (p:Nat) w,S w0 acc w→acc.length≤2 ^ 30→Calls Tryz.prog 91 #[.int .u64 (p:Int),.pointer (some ⟨CP,0,none⟩),.pointer (some ⟨QB,0,none⟩)] w fun e w'=>(e=.returned (.tuple #[])∧S w0 (acc ++ [p]) w')∨(e=.panicked X∧P w0 acc w'))
    (N:Nat) (hN:N≤4611686018427387904) (L:List Nat) (a:Option Addr) (n c:Nat) (w:World) (hl:L.length=n) (hn:n<2 ^ 20) (hR:RISES L) (hc:n≤c) (hnil:a=none→c=0) (hbl:∀ x,a=some x→x.block=bi∧x.spot=none) (hL:NUML w a L) (hCb:bi≠CP∧bi≠RB) (hCP:CP<w.heap.size∧RB<w.heap.size) (hT:Tabled w)
    (h0:∀ w1,Below w.heap.size w w1→S w1 [] w1):
    Calls Tryz.prog 67 #[.slice a n c,.int .u64 (N:Int),.func (.func 91) #[] #[.pointer (some ⟨CP,0,none⟩),.pointer (some ⟨QB,0,none⟩)]] w fun e w'=>∃ w1,Below w.heap.size w w1∧TOLD (S w1) (P w1) X [] (z04 (TPS N) L) e w':=by
  have cp:=z3z N hN w hT (by omega)
  have hPC:PC N≤64:=z19 64 N (by omega)
  have hlen:=z1k (n:=N) (by omega)
  have hmost:=z2c (TPS N) L (fun p hp=>(z1c (n:=N) (by omega) (h:=p.1) (k:=p.2) hp).1)
  have HA:Aside (n<2 ^ 20∧N≤2 ^ 62∧PC N≤64∧(TPS N).length=PC N∧(z04 (TPS N) L).length≤2 ^ 30∧(bi≠CP∧bi≠RB)∧(CP<w.heap.size∧RB<w.heap.size)):=⟨hn,by omega,hPC,hlen,by omega,hCb,hCP⟩
  have ST:Aside ((∀ w0 acc w w',S w0 acc w→Below w.heap.size w w'→S w0 acc w')∧(∀ w0 acc w,S w0 acc w→(∀ b,b<w0.heap.size→b≠CP→b≠RB→w.heap[b]?=w0.heap[b]?)∧w0.heap.size≤w.heap.size)):=⟨hS,hB⟩
  have HT:Aside (∀ w0 acc (p:Nat) w,S w0 acc w→acc.length≤2 ^ 30→Calls Tryz.prog 91 #[.int .u64 (p:Int),.pointer (some ⟨CP,0,none⟩),.pointer (some ⟨QB,0,none⟩)] w fun e w'=>(e=.returned (.tuple #[])∧S w0 (acc ++ [p]) w')∨(e=.panicked X∧P w0 acc w')):=ht
  have LL:Aside (L.length=n∧RISES L∧n≤c∧(a=none→c=0)∧(∀ x,a=some x→x.block=bi∧x.spot=none)∧NUML w a L∧∀ w1,Below w.heap.size w w1→S w1 [] w1):=⟨hl,hR,hc,hnil,hbl,hL,h0⟩
  clear hN hl hn hR hc hnil hbl hL hCb hCP hT h0 hS hB ht hPC hlen hmost
  go_enter Tryz.func67,Tryz.ntmps67
  go_wp2_with fail
  refine cp.mono ?_
  rintro e w1 ⟨g,cg,rfl,hown,hb1⟩
  clear cp
  obtain ⟨m,hm⟩:∃ m,PC N=m:=⟨_,rfl⟩
  rw [hm] at hown ⊢
  have R1:Aside (w1.ownsRow w.heap.size 23 1 (.slice (some ⟨g,0,none⟩) m cg) m (z02 (z2D N))∧Below w.heap.size w w1∧PC N=m∧(g≠CP∧g≠RB)∧g<w1.heap.size∧w.heap.size≤g):=⟨hown,hb1,hm,by have h1:=(hown.lt g rfl).1;have:=HA.out.2.2.2.2.2.2;omega,(hown.lt g rfl).2,(hown.lt g rfl).1⟩
  have L0:Aside (NUML w1 a L):=fun h0=>by
    obtain ⟨b,o,e,hl,hcc⟩:=LL.out.2.2.2.2.2.1 h0
    exact ⟨b,o,e,Nat.lt_of_lt_of_le hl hb1.size,fun i x hx=>(hb1.cell (p:=⟨b,o+i,none⟩) hl).trans (hcc i x hx)⟩
  clear hown hb1 hm
  go_wp2_with fail
  go_loopg [0,13] m (fun q s0 s13 wx=>∃ (j n' c':Nat) (a':Option Addr) (Lj told:List Nat),s0=.slice a' n' c'∧s13=.int .i64 (j:Int)∧Aside (j+q=m∧Lj.length=n'∧n'≤n∧RISES Lj∧n'≤c'∧(a'=none→c'=0)∧(∀ x,a'=some x→x.block=bi∧x.spot=none)∧NUML w1 a' Lj∧S w1 told wx∧z04 (TPS N) L=told ++ z04 ((TPS N).drop j) Lj))
  case atStart=>exact ⟨0,n,c,a,L,[],rfl,rfl,by omega,LL.out.1,Nat.le_refl _,LL.out.2.1,LL.out.2.2.1,LL.out.2.2.2.1,LL.out.2.2.2.2.1,L0.out,LL.out.2.2.2.2.2.2 w1 R1.out.2.1,by simp⟩
  case round=>
    obtain ⟨j,n',c',a',Lj,told,rfl,rfl,A⟩:=hrel
    clear L0 LL
    cases gk with
    | zero=>
      obtain rfl:j=m:=by have:=A.out.1;omega
      have hlt:¬ (j:Int)<(j:Int):=by omega
      have FN:Aside (∃ w1,Below w.heap.size w w1∧TOLD (S w1) (P w1) X [] (z04 (TPS N) L) (.returned (.tuple #[])) wr):=by
        obtain ⟨h1,h2,h3,h4,h5,h6,h7,h8,h9,h10⟩:=A.out
        refine ⟨w1,R1.out.2.1,.inl ⟨rfl,?_⟩⟩
        rw [List.drop_of_length_le (by have:=R1.out.2.2.1;have:=HA.out.2.2.2.1;omega)] at h10
        rw [h10,z04,List.append_nil,List.nil_append]
        exact h9
      clear A R1 ST HT HA
      go_wp2_with fail
      exact bodyPost_end (v:=.tuple #[]) (by simp [results,Tryz.f67]) rfl FN.out
    | succ q=>
      have hlt:(j:Int)<(m:Int):=by have:=A.out.1;omega
      have hjm:j<(TPS N).length:=by have:=A.out.1;have:=R1.out.2.2.1;have:=HA.out.2.2.2.1;omega
      obtain ⟨⟨h,k⟩,ehk⟩:∃ s,(TPS N)[j]?=some s:=⟨_,List.getElem?_eq_getElem hjm⟩
      have hsp:=z1c HA.out.2.1 (List.mem_of_getElem? ehk)
      have epk:=z3P ehk
      obtain ⟨k1,k2⟩:=ST.out.2 w1 told wr A.out.2.2.2.2.2.2.2.2.1
      have hcell:wr.cell? ⟨g,j,none⟩=some (.int .u64 ((PLC h k:Nat):Int)):=by
        have h1:=R1.out.1.cellAt j (by have:=A.out.1;omega)
        refine (World.cell?_of_block (w:=w1) (by exact k1 g R1.out.2.2.2.2.1 R1.out.2.2.2.1.1 R1.out.2.2.2.1.2)).trans (h1.trans ?_)
        rw [z02,List.getElem?_map,epk]
        rfl
      have ej:wrap64 ((j:Int)+1)=((j+1:Nat):Int):=by have:=A.out.1;have:=R1.out.2.2.1;have:=HA.out.2.2.1;unfold wrap64;omega
      have hN1:NUML wr a' Lj:=fun h0=>by
        obtain ⟨b,o,e,hl,hcc⟩:=A.out.2.2.2.2.2.2.2.1 h0
        have hbb:b=bi:=(A.out.2.2.2.2.2.2.1 _ e).1
        exact ⟨b,o,e,by omega,fun i x hx=>(World.cell?_of_block (w:=w1) (by exact k1 b hl (by rw [hbb];exact HA.out.2.2.2.2.2.1.1) (by rw [hbb];exact HA.out.2.2.2.2.2.1.2))).trans (hcc i x hx)⟩
      have cs:=z1H h k hsp.2.2 a' n' c' Lj A.out.2.1 (by have:=A.out.2.2.1;have:=HA.out.1;omega) A.out.2.2.2.1 A.out.2.2.2.2.1 A.out.2.2.2.2.2.1 (fun x e=>(A.out.2.2.2.2.2.2.1 x e).2) wr hN1
      have SP:Aside (Node h k∧(TPS N)[j]?=some (h,k)∧j<(TPS N).length):=⟨hsp.2.2,ehk,hjm⟩
      clear hsp ehk epk k1 k2 hN1 hjm
      go_wp2_with fail
      refine cs.mono ?_
      rintro e w2 ⟨r,a2,rfl,hs⟩
      clear cs hcell
      have hdrop:(TPS N).drop j=(h,k) :: (TPS N).drop (j+1):=z4x SP.out.2.1
      have hneed:=z2a ((TPS N).drop (j+1)) hs.rank
      rw [← hdrop] at hneed
      have hrn:=hs.rank.le
      have S2:S w1 told w2:=ST.out.1 w1 told wr w2 A.out.2.2.2.2.2.2.2.2.1 hs.below
      have MR:Aside (NUML w1 a2 (Lj.drop r)∧(∀ x,a2=some x→x.block=bi∧x.spot=none)∧(a2=none→c' - r=0)∧r≤n'∧NUML w1 a' (Lj.take r)∧z04 ((TPS N).drop j) Lj=NEED h k (Lj.take r) ++ z04 ((TPS N).drop (j+1)) (Lj.drop r)):=by
        refine ⟨fun h0=>?_,fun x hx=>?_,hs.nil,by have:=A.out.2.1;omega,fun h0=>?_,hneed⟩
        · obtain ⟨b,o,e,hl,hcc⟩:=hs.lies h0
          obtain ⟨y,e2,e3⟩:=hs.block _ e
          have hbb:b=bi:=by have:=(A.out.2.2.2.2.2.2.1 _ e2).1;rw [← e3] at this;exact this
          obtain ⟨k1,k2⟩:=ST.out.2 w1 told wr A.out.2.2.2.2.2.2.2.2.1
          obtain ⟨b',o',e',hl',_⟩:=A.out.2.2.2.2.2.2.2.1 (by rw [List.length_drop] at h0;omega)
          have hbi:bi<w1.heap.size:=by have h9:b'=bi:=(A.out.2.2.2.2.2.2.1 _ e').1;omega
          subst hbb
          exact ⟨b,o,e,hbi,fun i x hx=>(World.cell?_of_block (w:=wr) (by exact (k1 b hbi HA.out.2.2.2.2.2.1.1 HA.out.2.2.2.2.2.1.2).symm)).trans (hcc i x hx)⟩
        · obtain ⟨y,e2,e3⟩:=hs.block x hx
          exact ⟨by rw [e3];exact (A.out.2.2.2.2.2.2.1 _ e2).1,hs.spot x hx⟩
        · obtain ⟨b,o,e,hl,hcc⟩:=A.out.2.2.2.2.2.2.2.1 (by rw [List.length_take] at h0;omega)
          refine ⟨b,o,e,hl,fun i x hx=>hcc i x ?_⟩
          rw [List.getElem?_take] at hx
          split at hx
          · exact hx
          · cases hx
      have TL:Aside (told.length+(NEED h k (Lj.take r)).length≤2 ^ 30∧z04 (TPS N) L=told ++ NEED h k (Lj.take r) ++ z04 ((TPS N).drop (j+1)) (Lj.drop r)):=by
        have h1:=A.out.2.2.2.2.2.2.2.2.2
        rw [MR.out.2.2.2.2.2,← List.append_assoc] at h1
        refine ⟨?_,h1⟩
        have h2:=HA.out.2.2.2.2.1
        rw [h1,List.length_append,List.length_append] at h2
        omega
      have cu:=zc7 w1 bi CP QB (S w1) (P w1) X (ST.out.1 w1) (fun acc w hw=>⟨fun hbi=>(ST.out.2 w1 acc w hw).1 bi hbi HA.out.2.2.2.2.2.1.1 HA.out.2.2.2.2.2.1.2,(ST.out.2 w1 acc w hw).2⟩) (HT.out w1) h k SP.out.1 (Lj.take r) a' r c' told w2 (by rw [List.length_take];have:=A.out.2.1;have:=MR.out.2.2.2.1;omega) (by have:=MR.out.2.2.2.1;have:=A.out.2.2.1;have:=HA.out.1;omega) (A.out.2.2.2.1.take r) (by have:=MR.out.2.2.2.1;have:=A.out.2.2.2.2.1;omega) A.out.2.2.2.2.2.1 A.out.2.2.2.2.2.2.1 MR.out.2.2.2.2.1 S2 TL.out.1
      clear hs hdrop hneed hrn S2
      go_wp2_with fail
      refine cu.mono ?_
      rintro e w3 (⟨rfl,h3⟩ | ⟨pre,p,hp,rfl,h3⟩)
      · have Z:Aside (j+1+q=m∧(Lj.drop r).length=n' - r∧n' - r≤n∧RISES (Lj.drop r)∧n' - r≤c' - r∧(a2=none→c' - r=0)∧(∀ x,a2=some x→x.block=bi∧x.spot=none)∧NUML w1 a2 (Lj.drop r)∧S w1 (told ++ NEED h k (Lj.take r)) w3∧z04 (TPS N) L=(told ++ NEED h k (Lj.take r)) ++ z04 ((TPS N).drop (j+1)) (Lj.drop r)):=by
          obtain ⟨h1,h2,_,h4,h5,_⟩:=A.out
          refine ⟨by clear ej;omega,by rw [List.length_drop,h2],by have:=A.out.2.2.1;clear ej;omega,h4.drop r,by clear ej;omega,MR.out.2.2.1,MR.out.2.1,MR.out.1,h3,TL.out.2⟩
        clear h3 cu A MR TL SP R1
        go_wp2_with fail
        go_roundg q
        case measure=>exact Nat.lt_succ_self _
        case rel=>exact ⟨j+1,n' - r,c' - r,a2,Lj.drop r,told ++ NEED h k (Lj.take r),rfl,by first | rfl | (rw [ej]),Z.out⟩
      · refine ⟨rfl,w1,R1.out.2.1,.inr ⟨pre,p,hp.trans ?_,rfl,h3⟩⟩
        rw [List.nil_append,TL.out.2]
        exact List.prefix_append _ _
end Go.Proofs.YtlicfinmibbpdaaGreatDoor

namespace Go.Proofs.YtlicfinmibbpdaaGreatDoor
open Go.RowKit
set_option maxRecDepth 100000
structure READING (wS w0 w:World) (LB pb qb rb:Nat) (N:Int) (iv:Value) (t:List Int) (acc:List Nat):Prop where
  le:32*acc.length≤t.length
  row:∃ v,Has w pb #[.int .u64 N,iv,v] 26∧w.ownsRow w0.heap.size 38 32 v acc.length (z00 (t.take (32*acc.length)))
  box:Has w qb #[.pointer (some ⟨rb,0,none⟩)] 129
  rdr:RDR wS w rb (t.drop (32*acc.length))
  keep:∀ b,b<w0.heap.size→b≠pb→b≠rb→w.heap[b]?=w0.heap[b]?
  below:Below LB w0 w
  lt:pb<w0.heap.size∧rb<w0.heap.size∧qb<w0.heap.size∧LB≤pb∧LB≤rb
  ne:pb≠rb∧qb≠pb∧qb≠rb
  src:wS.heap.size≤pb
def z4D (w0 w:World) (LB pb rb:Nat) (t:List Int) (acc:List Nat):Prop:=t.length<32*(acc.length+1)∧(∀ b,b<w0.heap.size→b≠pb→b≠rb→w.heap[b]?=w0.heap[b]?)∧Below LB w0 w
theorem READING.still {wS w0 w w':World} {LB pb qb rb:Nat} {N:Int} {iv:Value} {t:List Int} {acc:List Nat} (h:READING wS w0 w LB pb qb rb N iv t acc) (hb:Below w.heap.size w w'):READING wS w0 w' LB pb qb rb N iv t acc:=by
  obtain ⟨v,h1,h2⟩:=h.row
  have hs:=h.below.size
  have hl:=h.lt
  exact ⟨h.le,⟨v,h1.keep hb,z0o h2 hb⟩,h.box.keep hb,h.rdr.keep hb,fun b hb0 e1 e2=>(hb.block b (by omega)).trans (h.keep b hb0 e1 e2),h.below.trans (hb.mono (by omega)),hl,h.ne,h.src⟩
theorem z6I {w:World} {B s n:Nat} {t:TypeId} {v:Value} {xs:List Value} (h:w.ownsRow B t s v n xs):∃ a c,v=.slice a n c:=by
  rcases h.2 with ⟨e,h0⟩ | ⟨g,cap,cur,e,_⟩
  · exact ⟨none,0,by rw [e,h0]⟩
  · exact ⟨_,_,e⟩
set_option maxHeartbeats 2000000 in
theorem zaH {wS w0 w:World} {LB pb qb rb:Nat} {N:Int} {iv:Value} {t:List Int} {acc:List Nat} (h:READING wS w0 w LB pb qb rb N iv t acc) (p:Int) (hs:t.length<32*(acc.length+1)):
    Calls Tryz.prog 91 #[.int .u64 p,.pointer (some ⟨pb,0,none⟩),.pointer (some ⟨qb,0,none⟩)] w fun e w'=>e=.panicked (z0z 11)∧z4D w0 w' LB pb rb t acc:=by
  have hd:=h.still (w':=w.drew) (Below.refl _ _).drew
  have ch:=z8P hd.rdr (by rw [List.length_drop];omega)
  obtain ⟨v,h1,h2⟩:=h.row
  have x0:w.cell? ⟨pb,2,none⟩=some v:=h1.cell 2
  have x1:w.cell? ⟨qb,0,none⟩=some (.pointer (some ⟨rb,0,none⟩)):=h.box.cell 0
  have y0:w.drew.cell? ⟨pb,2,none⟩=some v:=x0
  have y1:w.drew.cell? ⟨qb,0,none⟩=some (.pointer (some ⟨rb,0,none⟩)):=x1
  have FN:Aside (∀ W,Below w.drew.heap.size w.drew W→z4D w0 W LB pb rb t acc):=fun W hb=>⟨hs,fun b hb0 e1 e2=>(hd.still hb).keep b hb0 e1 e2,(hd.still hb).below⟩
  clear h hd h1 h2 hs
  go_enter Tryz.func91,Tryz.ntmps91
  go_upto_region 0 with fail
  refine zdA w pb qb rb v (z0z 11) (fun W=>W=w.drew) (fun W=>z4D w0 W LB pb rb t acc) rfl (fun W hW=>by subst hW;exact ⟨y1,y0⟩) (fun _ W hd hW=>⟨hd,rfl,hW⟩) (fun W hW=>?_) (fun _ _ _ _ _ h=>h)
  subst hW
  exact ch.mono fun e w' ⟨he,hb⟩=>⟨he,FN.out w' hb⟩
theorem z8R (t:List Int) (k:Nat):t.take (32*(k+1))=t.take (32*k) ++ (t.drop (32*k)).take 32:=by
  rw [Nat.mul_add,Nat.mul_one,List.take_add]
set_option maxHeartbeats 2000000 in
theorem zc8 {wS w0 w:World} {LB pb qb rb:Nat} {N:Int} {iv:Value} {t:List Int} {acc:List Nat} (h:READING wS w0 w LB pb qb rb N iv t acc) (p:Nat) (hs:32*(acc.length+1)≤t.length) (hacc:acc.length≤100000):
    Calls Tryz.prog 91 #[.int .u64 (p:Int),.pointer (some ⟨pb,0,none⟩),.pointer (some ⟨qb,0,none⟩)] w fun e w'=>e=.returned (.tuple #[])∧READING wS w0 w' LB pb qb rb N iv t (acc ++ [p]):=by
  obtain ⟨v,h1,h2⟩:=h.row
  obtain ⟨av,cv,rfl⟩:=z6I h2
  obtain ⟨n,hn⟩:∃ n,acc.length=n:=⟨_,rfl⟩
  rw [hn] at h1 h2 hacc hs
  have hH:((t.drop (32*n)).take 32).length=32:=by rw [List.length_take,List.length_drop];omega
  have hl:=h.lt
  have hne:=h.ne
  have hsrc:=h.src
  obtain ⟨P0,hP0⟩:∃ P0:World→Prop,P0=fun W=>W=w.drew:=⟨_,rfl⟩
  obtain ⟨P1,hP1⟩:∃ P1:World→Prop,P1=fun W=>∃ w1,(RDR wS w1 rb (t.drop (32*(n+1)))∧STAY w.drew w1 rb)∧Below w1.heap.size w1 W:=⟨_,rfl⟩
  obtain ⟨P2,hP2⟩:∃ P2:World→Prop,P2=fun W=>∃ w1,P1 w1∧w1.grownBy W (Value.slice av n cv).ownBlock:=⟨_,rfl⟩
  have S0:∀ W,P0 W→W.cell? ⟨qb,0,none⟩=some (.pointer (some ⟨rb,0,none⟩))∧W.cell? ⟨pb,2,none⟩=some (.slice av n cv):=fun W hW=>by
    rw [hP0] at hW
    rw [hW]
    exact ⟨h.box.cell 0,h1.cell 2⟩
  have G1:∀ W,P1 W→Has W qb #[.pointer (some ⟨rb,0,none⟩)] 129∧Has W pb #[.int .u64 N,iv,.slice av n cv] 26∧W.ownsRow w0.heap.size 38 32 (.slice av n cv) n (z00 (t.take (32*n)))∧w0.heap.size≤W.heap.size∧RDR wS W rb (t.drop (32*(n+1)))∧(∀ b,b<w0.heap.size→b≠pb→b≠rb→W.heap[b]?=w0.heap[b]?)∧Below LB w0 W:=fun W hW=>by
    rw [hP1] at hW
    obtain ⟨w1,⟨r1,s1⟩,hb⟩:=hW
    have sz1:w.heap.size≤w1.heap.size:=s1.bl.size
    have sz0:w0.heap.size≤w.heap.size:=h.below.size
    have o1:w1.ownsRow w0.heap.size 38 32 (.slice av n cv) n (z00 (t.take (32*n))):=z5b h2 fun k e=>s1.kp k (h2.lt k e).2 (by have:=(h2.lt k e).1;omega)
    refine ⟨(s1.has (w:=w.drew) h.box hne.2.2).keep hb,(s1.has (w:=w.drew) h1 hne.1).keep hb,z0o o1 hb,by have:=hb.size;omega,r1.keep hb,fun b hb0 e1 e2=>?_,?_⟩
    · exact (hb.block b (by omega)).trans ((s1.kp b (by show b<w.heap.size;omega) e2).trans (h.keep b hb0 e1 e2))
    · exact (h.below.trans ((show Below rb w w1 from ⟨s1.bl.os,s1.bl.tape,s1.bl.output,s1.bl.size,s1.bl.block⟩).mono hl.2.2.2.2)).trans (hb.mono (by omega))
  have G2:∀ W,P2 W→Has W qb #[.pointer (some ⟨rb,0,none⟩)] 129∧Has W pb #[.int .u64 N,iv,.slice av n cv] 26∧RDR wS W rb (t.drop (32*(n+1)))∧(∀ b,b<w0.heap.size→b≠pb→b≠rb→W.heap[b]?=w0.heap[b]?)∧Below LB w0 W∧w0.heap.size≤W.heap.size:=fun W hW=>by
    rw [hP2] at hW
    obtain ⟨w1,p1,hg⟩:=hW
    obtain ⟨a1,a2,a3,a4,a5,a6,a7⟩:=G1 w1 p1
    have hb:Below w0.heap.size w1 W:=(Below.refl _ w1).grown hg a4 (fun k e=>(a3.lt k e).1)
    have hb1:=hb.size
    refine ⟨a1.below hb hl.2.2.1,a2.below hb hl.1,?_,fun b hb0 e1 e2=>(hb.block b hb0).trans (a6 b hb0 e1 e2),a7.trans (hb.mono (by omega)),by omega⟩
    obtain ⟨ar,cr,q1,q2⟩:=a5.rd
    exact ⟨⟨ar,cr,q1.below hb hl.2.1,q2⟩,a5.bel.trans (hb.mono (by have:=a5.lb;omega)),a5.lb⟩
  have HC:Aside (∀ W,P0 W→Calls Tryz.prog 92 #[.pointer (some ⟨rb,0,none⟩)] W fun e w'=>e=.returned (.agg (z00 ((t.drop (32*n)).take 32)).toArray)∧P1 w'):=fun W hW=>by
    rw [hP0] at hW
    rw [hW]
    have hd:=(h.still (w':=w.drew) (Below.refl _ _).drew).rdr
    rw [hn] at hd
    refine (zdz hd (by rw [List.length_drop];omega)).mono ?_
    rintro e w' ⟨he,r1,s1⟩
    refine ⟨he,?_⟩
    rw [hP1]
    rw [List.drop_drop] at r1
    exact ⟨w',⟨r1,s1⟩,Below.refl _ _⟩
  have FIN:Aside (∀ W g q,P2 W→W.ownsRow w0.heap.size 38 32 (.slice (some ⟨g,0,none⟩) (n+1) q) (n+1) (z00 (t.take (32*n)) ++ z00 ((t.drop (32*n)).take 32))→READING wS w0 (W.setCell ⟨pb,2,none⟩ (.slice (some ⟨g,0,none⟩) (n+1) q)) LB pb qb rb N iv t (acc ++ [p])):=fun W g q hW ho=>by
    obtain ⟨a1,a2,a3,a4,a5,a6⟩:=G2 W hW
    have el:(acc ++ [p]).length=n+1:=by rw [List.length_append,hn];rfl
    have st:STAY W (W.setCell ⟨pb,2,none⟩ (.slice (some ⟨g,0,none⟩) (n+1) q)) pb:=STAY.set _ _ _ _
    refine ⟨by rw [el];exact hs,⟨_,a2.set 2 _,?_⟩,st.has a1 hne.2.1,?_,fun b hb0 e1 e2=>(st.kp b (by omega) e1).trans (a4 b hb0 e1 e2),a5.setCell (p:=⟨pb,2,none⟩) hl.2.2.2.1 _,hl,hne,hsrc⟩
    · rw [el,z8R,z0t]
      exact ownsRow_setCell_below ho (a:=⟨pb,2,none⟩) hl.1 _
    · rw [el]
      exact a3.other st (fun e=>hne.1 e.symm) hsrc
  have AL:∀ W o,P1 W→P1 (W.alloc o):=fun W o hW=>by
    rw [hP1] at hW ⊢
    obtain ⟨w1,q1,hb⟩:=hW
    exact ⟨w1,q1,hb.alloc hb.size o⟩
  have GR:∀ W W',P1 W→W.grownBy W' (Value.slice av n cv).ownBlock→P2 W':=fun W W' h1 h2=>by rw [hP2];exact ⟨W,h1,h2⟩
  have HG:Aside ((∀ W,P1 W→W.cell? ⟨qb,0,none⟩=some (.pointer (some ⟨rb,0,none⟩))∧W.cell? ⟨pb,2,none⟩=some (.slice av n cv)∧W.ownsRow w0.heap.size 38 32 (.slice av n cv) n (z00 (t.take (32*n)))∧w0.heap.size≤W.heap.size)∧(∀ W,P2 W→W.cell? ⟨qb,0,none⟩=some (.pointer (some ⟨rb,0,none⟩)))∧(∀ W,P2 W→(∃ u,W.cell? ⟨pb,2,none⟩=some u)∧W.frozen? ⟨pb,2,none⟩=false)):=⟨fun W hW=>⟨(G1 W hW).1.cell 0,(G1 W hW).2.1.cell 2,(G1 W hW).2.2.1,(G1 W hW).2.2.2.1⟩,fun W hW=>(G2 W hW).1.cell 0,fun W hW=>⟨⟨_,(G2 W hW).2.1.cell 2⟩,(G2 W hW).2.1.frozen 2⟩⟩
  have h00:P0 w.drew:=by rw [hP0]
  have HN:Aside (((t.drop (32*n)).take 32).length=32∧n≤100000∧qb≠pb):=⟨hH,hacc,hne.2.1⟩
  clear h1 h2 h hs hn hacc hH hl hne hsrc G1 G2
  go_enter Tryz.func91,Tryz.ntmps91
  go_upto_region 0 with fail
  refine zfA w pb qb rb w0.heap.size av n cv _ _ HN.out.1 HN.out.2.1 HN.out.2.2 P0 P1 P2 h00 S0 HG.out.1 HG.out.2.1 AL GR HG.out.2.2 HC.out (fun _ _ _ _ _ h=>h) ?_
  rintro z g q W ⟨wx,⟨p2,ho⟩,rfl⟩
  have FN:=FIN.out wx g q p2 ho
  have FF:Aside (READING wS w0 (wx.setCell ⟨pb,2,none⟩ (.slice (some ⟨g,0,none⟩) (n+1) q)) LB pb qb rb N iv t (acc ++ [p])):=FN
  clear FN p2 ho FIN HG HN HC S0 AL GR h00 hP0 hP1 hP2
  generalize (z00 ((t.drop (32*n)).take 32)).toArray=U
  go_wp2_with fail
  exact bodyPost_end (v:=.tuple #[]) (by simp [results,Tryz.f91]) rfl ⟨rfl,FF.out⟩
end Go.Proofs.YtlicfinmibbpdaaGreatDoor
