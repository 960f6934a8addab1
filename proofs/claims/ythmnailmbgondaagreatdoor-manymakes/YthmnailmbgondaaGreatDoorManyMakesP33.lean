/- ManyMakes: part 33. -/
import Derived.Test.YthmnailmbgondaaGreatDoorManyMakesP32
set_option maxHeartbeats 2000000
namespace Go.Proofs.YthmnailmbgondaaGreatDoor
open Go.RowKit
set_option maxRecDepth 100000
def BUT (bc:Nat) (w w':World):Prop:=(∀ q,q<w.heap.size->q≠bc->w'.heap[q]?=w.heap[q]?)/\Below bc w w'
theorem BUT.refl (bc:Nat) (w:World):BUT bc w w:=⟨fun _ _ _=>rfl,Below.refl _ _⟩
theorem BUT.trans {bc:Nat} {w w1 w2:World} (h:BUT bc w w1) (h':BUT bc w1 w2):BUT bc w w2:=
 ⟨fun q hq hne=>(h'.1 q (Nat.lt_of_lt_of_le hq h.2.size) hne).trans (h.1 q hq hne),h.2.trans h'.2⟩
theorem BUT.of_below {bc:Nat} {w w':World} (hb:Below w.heap.size w w') (hc:bc<=w.heap.size):BUT bc w w':=⟨fun q hq _=>hb.block q hq,hb.mono hc⟩
theorem Flat.but {bc:Nat} {w w':World} {a:Option Addr} {n:Nat} {l:List Int} (h:Flat w a n l) (hb:BUT bc w w') (ha:∀ x,a=some x->x.block≠bc):Flat w' a n l:=by
 refine ⟨h.1,fun h0=>?_,h.2.2⟩;obtain ⟨b,o,e,hlt,hc⟩:=h.2.1 h0;exact ⟨b,o,e,Nat.lt_of_lt_of_le hlt hb.2.size,fun j hj=>(World.cell?_of_block (w:=w) (by exact hb.1 b hlt (ha _ e))).trans (hc j hj)⟩
def LSH (w0:World) (bc:Nat) (v:Value) (n:Nat) (l:List Int):Prop:=∃ a c,v=.slice a n c/\n<=c/\Flat w0 a n l/\∀ x,a=some x->x.block≠bc
theorem LSH.rest {w0:World} {bc b o n c:Nat} {l:List Int} (hF:Flat w0 (some ⟨b,o,none⟩) n l) (hc:n<=c) (hn:0<n) (hb:b≠bc):LSH w0 bc (.slice (SLA (some ⟨b,o,none⟩) c 1) (n - 1) (c - 1)) (n - 1) (l.drop 32):=by
 refine ⟨_,_,rfl,by omega,hF.behind 1 hn hc,fun x hx=>?_⟩;unfold SLA at hx;dsimp only at hx;split at hx <;> cases hx <;> exact hb
def INDB (w0:World) (bc:Nat) (a:Option Addr):Prop:=∀ x,a=some x->x.block≠bc/\x.block<w0.heap.size/\x.spot=none
theorem NUML.but {bc:Nat} {w w':World} {a:Option Addr} {L:List Nat} (h:NUML w a L) (hb:BUT bc w w') (ha:INDB w bc a):NUML w' a L:=fun h0=>by
 obtain ⟨b,o,e,hlt,hc⟩:=h h0;exact ⟨b,o,e,Nat.lt_of_lt_of_le hlt hb.2.size,fun i x hx=>(World.cell?_of_block (w:=w) (by exact hb.1 b hlt (ha _ e).1)).trans (hc i x hx)⟩
theorem NUML.back {bc:Nat} {w w':World} {a:Option Addr} {L:List Nat} (h:NUML w' a L) (hb:BUT bc w w') (ha:INDB w bc a):NUML w a L:=fun h0=>by
 obtain ⟨b,o,e,hlt,hc⟩:=h h0;have hl:b<w.heap.size:=(ha _ e).2.1;exact ⟨b,o,e,hl,fun i x hx=>(World.cell?_of_block (w:=w') (by exact (hb.1 b hl (ha _ e).1).symm)).trans (hc i x hx)⟩
end Go.Proofs.YthmnailmbgondaaGreatDoor
namespace Go.Proofs.YthmnailmbgondaaGreatDoor
set_option maxRecDepth 100000
def TPS (n:Nat):List (Nat × Nat):=(HS 0 n).map fun h=>(h,2*(n / 2 ^ (h+1)))
theorem z6P {α:Type}:∀ {l:List α} {j:Nat} {x:α},l[j]?=some x->l.drop j=x :: l.drop (j+1)
 | [],j,x,h=>by simp at h
 | y :: l,0,x,h=>by
   simp only [List.getElem?_cons_zero,Option.some.injEq] at h;rw [h];rfl
 | y :: l,j+1,x,h=>by
   rw [List.getElem?_cons_succ] at h;rw [List.drop_succ_cons,List.drop_succ_cons];exact z6P h
theorem z2h {n:Nat} (hn:n<2 ^ 64):(TPS n).length=PC n:=by
 rw [TPS,List.length_map,z4J hn 0 (by decide),Nat.pow_zero,Nat.div_one]
theorem z8T {n j h k:Nat} (e:(TPS n)[j]?=some (h,k)):(z2L n)[j]?=some (PLC h k):=by
 unfold TPS at e;unfold z2L;rw [List.getElem?_map] at e ⊢;cases hj:(HS 0 n)[j]? with
 | none=>rw [hj] at e;cases e
 | some x=>
   rw [hj] at e;simp only [Option.map_some,Option.some.injEq,Prod.mk.injEq] at e;obtain ⟨rfl,rfl⟩:=e;rfl
theorem z8U {h k:Nat} (hh:h<=62) (hs:(k+1)*2 ^ h<=2 ^ 62):Node h k:=by
 refine ⟨hh,?_⟩;rcases Nat.lt_or_ge k (2 ^ (62 - h)) with h1 | h1
 ·exact h1
 ·have h2:(2 ^ (62 - h)+1)*2 ^ h<=(k+1)*2 ^ h:=Nat.mul_le_mul_right _ (by omega)
  rw [Nat.add_mul,<-Nat.pow_add,show 62 - h+h=62 by omega] at h2;have:=Nat.two_pow_pos h;omega
theorem z20 {n h k:Nat} (hn:n<=2 ^ 62) (hm:(h,k)∈TPS n):h<=62/\(k+1)*2 ^ h<=n/\Node h k:=by
 unfold TPS at hm;rw [List.mem_map] at hm;obtain ⟨x,hx,e⟩:=hm;simp only [Prod.mk.injEq] at e;obtain ⟨rfl,rfl⟩:=e;obtain ⟨_,h2,h3⟩:=z7a 0 x (by decide) hx
 have h4:2*(n / 2 ^ (x+1))+1=n / 2 ^ x:=by
  rw [Nat.pow_succ,<-Nat.div_div_eq_div_mul];omega
 have h5:(2*(n / 2 ^ (x+1))+1)*2 ^ x<=n:=by rw [h4];exact Nat.div_mul_le_self n (2 ^ x)
 have h6:x<=62:=by
  rcases Nat.lt_or_ge 62 x with h7 | h7
  ·have h8:2 ^ 63<=2 ^ x:=Nat.pow_le_pow_right (by decide) h7
   have h9:1*2 ^ x<=(2*(n / 2 ^ (x+1))+1)*2 ^ x:=Nat.mul_le_mul_right _ (by omega);omega
  ·exact h7
 exact ⟨h6,h5,z8U h6 (by omega)⟩
theorem z2O:∀ (ps:List (Nat × Nat)) (L:List Nat),(∀ p∈ps,p.1<=62)->(z0m ps L).length<=L.length*62+ps.length
 | [],L,_=>by simp [z0m]
 | (h,k) :: ps,L,hp=>by
   rw [z0m,List.length_append,List.length_cons];have h1:=z7t h k (L.filter fun y=>decide (y<(k+1)*2 ^ h));have h2:=z2O ps (L.filter fun y=>!decide (y<(k+1)*2 ^ h)) (fun p hm=>hp p (List.mem_cons_of_mem _ hm));have h3:=z3z (fun y=>decide (y<(k+1)*2 ^ h)) L;have h4:h<=62:=hp (h,k) (List.mem_cons_self ..);have h5:(L.filter fun y=>decide (y<(k+1)*2 ^ h)).length*h<=(L.filter fun y=>decide (y<(k+1)*2 ^ h)).length*62:=Nat.mul_le_mul_left _ h4;generalize (L.filter fun y=>decide (y<(k+1)*2 ^ h)).length*h=u at *
   generalize (L.filter fun y=>decide (y<(k+1)*2 ^ h)).length=p at *
   generalize (L.filter fun y=>!decide (y<(k+1)*2 ^ h)).length=q at *
   omega
def NSP:Nat->Nat->List Nat->List (Nat × Nat)
 | h,k,[]=>[(h,k)]
 | 0,_,_ :: _=>[]
 | h+1,k,x :: l=>NSP h (2*k) ((x :: l).filter fun y=>decide (y<(2*k+1)*2 ^ h)) ++ NSP h (2*k+1) ((x :: l).filter fun y=>!decide (y<(2*k+1)*2 ^ h))
def SPL (s:Nat × Nat):Nat:=PLC s.1 s.2
theorem z2W (h k:Nat):NSP h k []=[(h,k)]:=by cases h <;> rfl
theorem z4f:∀ (h k:Nat) (L:List Nat),NEED h k L=(NSP h k L).map SPL
 | h,k,[]=>by rw [z1O,z2W];rfl
 | 0,_,_ :: _=>rfl
 | h+1,k,x :: l=>by rw [z4R,NSP,List.map_append,<-z4f h,<-z4f h]
def NSPS:List (Nat × Nat)->List Nat->List (Nat × Nat)
 | [],_=>[]
 | (h,k) :: ps,L=>NSP h k (L.filter fun y=>decide (y<(k+1)*2 ^ h)) ++ NSPS ps (L.filter fun y=>!decide (y<(k+1)*2 ^ h))
theorem z4g:∀ (ps:List (Nat × Nat)) (L:List Nat),z0m ps L=(NSPS ps L).map SPL
 | [],_=>rfl
 | (h,k) :: ps,L=>by rw [z0m,NSPS,List.map_append,z4f,z4g ps]
def FRS (s:Nat × Nat):Nat:=s.2*2 ^ s.1
def TOE (s:Nat × Nat):Nat:=(s.2+1)*2 ^ s.1
structure COVER (A B:Nat) (L:List Nat) (l:List (Nat × Nat)):Prop where
 within:∀ s∈l,A<=FRS s/\TOE s<=B
 off:∀ s∈l,∀ x∈L,¬ (FRS s<=x/\x<TOE s)
 sum:(l.map fun s=>2 ^ s.1).sum+L.length=B - A
 order:l.Pairwise fun s t=>TOE s<=FRS t
def MET (L:List Nat) (s:Nat × Nat):Prop:=∃ x∈L,FRS (s.1+1,s.2 / 2)<=x/\x<TOE (s.1+1,s.2 / 2)
theorem MET.mono {L L':List Nat} {s:Nat × Nat} (h:MET L s) (hm:∀ x∈L,x∈L'):MET L' s:=by
 obtain ⟨x,hx,h1⟩:=h;exact ⟨x,hm x hx,h1⟩
theorem zhd {n:Nat} (hn:n<=4611686018427387904):TPS n=PKS n 0 (PC n):=by
 apply List.ext_getElem?;intro i;by_cases hi:i<PC n
 ·rw [zgX hi]
  unfold TPS;rw [List.getElem?_map,(z3a (by omega) hi).1];rfl
 ·rw [List.getElem?_eq_none (by rw [z2h (by omega)];omega),List.getElem?_eq_none (by simp [PKS];omega)]
theorem z8V {n:Nat} (hn:n<=4611686018427387904):Tile 0 (TPS n) n:=by
 rw [zhd hn];exact (zeA hn (PC n) 0 (by omega)).1
end Go.Proofs.YthmnailmbgondaaGreatDoor
namespace Go.Proofs.YthmnailmbgondaaGreatDoor
open Go.RowKit
set_option maxRecDepth 100000
def z2i:Option Nat->Nat->Bool
 | none,_=>false
 | some y,x=>decide (x<=y)
def RCHK (n:Nat):Option Nat->List Nat->Int
 | _,[]=>0
 | prev,x :: l=>if z2i prev x=true then 71 else if n<=x then 32 else RCHK n (some x) l
def z0h (L:List Nat) (n:Nat):Int:=if 4611686018427387904<n then 30 else RCHK n none L
theorem zaO {n:Nat}:∀ {prev:Option Nat} {L:List Nat},RCHK n prev L=0->(∀ x∈L,x<n)/\RISES L/\∀ y,prev=some y->∀ x∈L,y<x
  | _,[],_=>⟨(fun x h=>by cases h),(fun i j x y _ h=>by simp at h),(fun y _ x h=>by cases h)⟩
  | prev, x :: l,h=>by
    rw [RCHK] at h;split at h
    · cases h
    · rename_i h1
      split at h
      · cases h
      · rename_i h2
        obtain ⟨a1,a2,a3⟩:=zaO h;refine ⟨fun y hy=>?_,fun i j u v hij hu hv=>?_,fun y hy z hz=>?_⟩
        · rcases List.mem_cons.1 hy with rfl | hy
          · omega
          · exact a1 y hy
        · cases i with
          | zero=>
            cases j with
            | zero=>omega
            | succ j=>
              simp only [List.getElem?_cons_zero,Option.some.injEq] at hu;rw [List.getElem?_cons_succ] at hv;subst hu;exact a3 x rfl v (List.mem_of_getElem? hv)
          | succ i=>
            cases j with
            | zero=>omega
            | succ j=>
              rw [List.getElem?_cons_succ] at hu hv;exact a2 i j u v (by omega) hu hv
        · subst hy
          have h1:¬ x<=y:=fun h=>h1 (decide_eq_true h);rcases List.mem_cons.1 hz with rfl | hz
          · omega
          · have:=a3 x rfl z hz
            omega
theorem z2t {n:Nat} {L:List Nat} (h:z0h L n=0):n<=4611686018427387904/\RISES L/\∀ x∈L,x<n:=by
 unfold z0h at h;split at h
 ·cases h
 ·obtain ⟨a1,a2,_⟩:=zaO h
  exact ⟨by omega,a2,a1⟩
def z2P (x:Int):List PanicEntry:=[{v:=.iface 157 (.int .i64 x),recovered:=false}]
def ROSE (L:List Nat) (n:Nat) (w:World) (e:Ending) (w':World):Prop:=w=w'/\((z0h L n=0/\e=.returned (.tuple #[]))\/(z0h L n≠0/\e=.panicked (z2P (z0h L n))))
def AHD (L:List Nat):Nat->Option Nat
 | 0=>none
 | j+1=>L[j]?
theorem z4S {L:List Nat} {j x:Nat} (h:L[j]?=some x):L.drop j=x :: L.drop (j+1):=by
 induction L generalizing j with
 | nil=>simp at h
 | cons y l ih=>
   cases j with
   | zero=>simp at h;simp [h]
   | succ j=>simp at h;simp;exact ih h
theorem zfa (L:List Nat) (n:Nat) (hn:(4611686018427387904:Int)<(n:Int)) (a:Option Addr) (m c:Nat) (w:World):Calls Tryz.prog 82 #[.slice a m c,.int .u64 (n:Int)] w (ROSE L n w):=by
 have e:z0h L n=30:=by unfold z0h;rw [if_pos (by omega)]
 have E:Aside (z0h L n=30):=e;clear e;go_enter Tryz.func82,Tryz.ntmps82;go_wp2_with fail
 exact ⟨rfl,rfl,.inr ⟨by rw [E.out];decide,by rw [E.out];rfl⟩⟩
theorem z5s (L:List Nat) (n:Nat) (a:Option Addr) (m c:Nat) (hl:L.length=m) (hm:m<2 ^ 40) (w:World) (hL:NUML w a L):Calls Tryz.prog 82 #[.slice a m c,.int .u64 (n:Int)] w (ROSE L n w):=by
  by_cases hn:(4611686018427387904:Int)<(n:Int)
  · exact zfa L n hn a m c w
  · have e:z0h L n=RCHK n none L:=by unfold z0h;rw [if_neg (by omega)]
    have HA:Aside (L.length=m/\m<2 ^ 40/\NUML w a L/\z0h L n=RCHK n none L):=⟨hl,hm,hL,e⟩
    clear hl hm hL e;go_enter Tryz.func82,Tryz.ntmps82;go_wp2_with fail
    go_loopg [11] m (fun q s11 wx=>∃ j:Nat,s11=.int .i64 (j:Int)/\Aside (j+q=m/\z0h L n=RCHK n (AHD L j) (L.drop j))/\wx=w)
    case atStart=>exact ⟨0,rfl,⟨by omega,HA.out.2.2.2⟩,rfl⟩
    case round=>
      obtain ⟨j,rfl,A,rfl⟩:=hrel;cases gk with
      | zero=>
        obtain rfl:j=m:=by have:=A.out.1;omega
        have hlt:¬ (j:Int)<(j:Int):=by omega
        have FN:Aside (z0h L n=0):=by
          have h1:=A.out.2;rw [List.drop_of_length_le (by have:=HA.out.1;omega)] at h1;exact h1
        clear A HA;go_wp2_with fail
        exact bodyPost_end (v:=.tuple #[]) (by simp [results,Tryz.f82]) rfl ⟨rfl,.inl ⟨FN.out,rfl⟩⟩
      | succ q=>
        have hjm:j<m:=by have:=A.out.1;omega
        have hlt:(j:Int)<(m:Int):=by omega
        obtain ⟨x,ex⟩:∃ x,L[j]?=some x:=⟨_,List.getElem?_eq_getElem (by have:=HA.out.1;omega)⟩
        obtain ⟨b,o,rfl,hb,hcc⟩:=HA.out.2.2.1 (by have:=HA.out.1;omega);have x0:=hcc j x ex;have ej:wrap64 ((j:Int)+1)=((j+1:Nat):Int):=by have:=HA.out.2.1;unfold wrap64;omega
        have hch:z0h L n=if z2i (AHD L j) x=true then 71 else if n<=x then 32 else RCHK n (some x) (L.drop (j+1)):=by
          rw [A.out.2,z4S ex,RCHK]
        have hnx:AHD L (j+1)=some x:=ex;rcases Nat.eq_zero_or_pos j with hj0 | hj0
        · have hz:¬ (0:Int)<(j:Int):=by omega
          have hch:z0h L n=if n<=x then 32 else RCHK n (some x) (L.drop (j+1)):=by
            rw [hch,hj0,if_neg (by simp [AHD,z2i])]
          by_cases hx:n<=x
          · have hx':(n:Int)<=(x:Int):=by omega
            rw [if_pos hx] at hch;have FN:Aside (z0h L n=32):=hch;clear A HA hch hnx hcc hx hj0 ex hjm;go_wp2_with fail
            exact ⟨rfl,rfl,.inr ⟨by rw [FN.out];decide,by rw [FN.out];rfl⟩⟩
          · have hx':¬ (n:Int)<=(x:Int):=by omega
            rw [if_neg hx] at hch;have Z:Aside (j+1+q=m/\z0h L n=RCHK n (AHD L (j+1)) (L.drop (j+1))):=⟨by have:=A.out.1;clear ej;omega,by rw [hnx];exact hch⟩
            clear A hch hnx hcc hx hj0 ex hjm;go_wp2_with fail
            go_roundg q
            case measure=>exact Nat.lt_succ_self _
            case rel=>exact ⟨j+1,by first | rfl | (rw [ej]),Z.out,rfl⟩
        · obtain ⟨i,hi⟩:∃ i,j=i+1:=⟨j - 1,by omega⟩
          obtain ⟨y,ey⟩:∃ y,L[i]?=some y:=⟨_,List.getElem?_eq_getElem (by have:=HA.out.1;omega)⟩
          have y0:=hcc i y ey;have ei:wrap64 ((j:Int) - 1)=(i:Int):=by have:=HA.out.2.1;unfold wrap64;omega
          have him:(i:Int)<(m:Int):=by omega
          have hi0:(0:Int)<(j:Int):=by omega
          have hch:z0h L n=if z2i (some y) x=true then 71 else if n<=x then 32 else RCHK n (some x) (L.drop (j+1)):=by
            rw [hch,show AHD L j=some y by rw [hi];exact ey]
          by_cases hxy:x<=y
          · have hxy':(x:Int)<=(y:Int):=by omega
            rw [if_pos (show z2i (some y) x=true from decide_eq_true hxy)] at hch;have FN:Aside (z0h L n=71):=hch;clear A HA hch hnx hcc hxy hj0 hi ex ey hjm;go_wp2_with fail
            exact ⟨rfl,rfl,.inr ⟨by rw [FN.out];decide,by rw [FN.out];rfl⟩⟩
          · have hxy':¬ (x:Int)<=(y:Int):=by omega
            rw [if_neg (show ¬ z2i (some y) x=true from fun h=>hxy (of_decide_eq_true h))] at hch;by_cases hx:n<=x
            · have hx':(n:Int)<=(x:Int):=by omega
              rw [if_pos hx] at hch;have FN:Aside (z0h L n=32):=hch;clear A HA hch hnx hcc hx hxy hj0 hi ex ey hjm;go_wp2_with fail
              exact ⟨rfl,rfl,.inr ⟨by rw [FN.out];decide,by rw [FN.out];rfl⟩⟩
            · have hx':¬ (n:Int)<=(x:Int):=by omega
              rw [if_neg hx] at hch;have Z:Aside (j+1+q=m/\z0h L n=RCHK n (AHD L (j+1)) (L.drop (j+1))):=⟨by have:=A.out.1;clear ej ei;omega,by rw [hnx];exact hch⟩
              clear A hch hnx hcc hx hxy hj0 hi ex ey hjm;go_wp2_with fail
              go_roundg q
              case measure=>exact Nat.lt_succ_self _
              case rel=>exact ⟨j+1,by first | rfl | (rw [ej]),Z.out,rfl⟩
def DIFS:Nat->List Nat->List Int
 | _,[]=>[]
 | k,x :: l=>z10 (x - k) ++ DIFS (x+1) l
def MWRT (L:List Nat) (N:Nat) (l:List Int):List Int:=78 :: (z10 N ++ z10 L.length ++ DIFS 0 L ++ l)
def LSX (L:List Nat) (j:Nat):Nat:=match AHD L j with | none=>0 | some y=>y+1
theorem z8W {L:List Nat} {j x:Nat} (h:L[j]?=some x):LSX L (j+1)=x+1:=by
 unfold LSX;rw [show AHD L (j+1)=some x from h]
theorem zhe {L:List Nat} (hR:RISES L) {j x:Nat} (h:L[j]?=some x):LSX L j<=x:=by
 cases j with
 | zero=>exact Nat.zero_le _
 | succ i=>
   have hi:i<L.length:=by have:=(List.getElem?_eq_some_iff.1 h).1;omega
   have e:=List.getElem?_eq_getElem hi;rw [z8W e];exact hR i (i+1) _ _ (by omega) e h
def MBOX (N:Nat) (a:Option Addr) (m c:Nat) (an:Option Addr) (K cn:Nat):Array Value:=#[.int .u64 (N:Int),.slice a m c,.slice an K cn]
theorem zgn {x k:Nat} (h:k<=x) (hx:x<2 ^ 64):IntKind.u64.wrap ((x:Int) - (k:Int))=((x - k:Nat):Int):=by
 rw [z0b];omega
theorem zhf {x:Nat} (hx:x<2 ^ 63):IntKind.u64.wrap ((x:Int)+1)=((x+1:Nat):Int):=by
 rw [z0b];omega
theorem zgo {x:Nat} (hx:x<2 ^ 63):IntKind.u64.wrap (x:Int)=(x:Int):=by
 rw [z0b];omega
theorem z6Q (L:List Nat) (N:Nat) (hN:N<2 ^ 64) (a:Option Addr) (m c:Nat) (an:Option Addr) (K cn:Nat) (l:List Int) (w:World) (hl:L.length=m) (hm:m<2 ^ 20) (hK:K<2 ^ 20) (hR:RISES L) (hx:∀ x∈L,x<2 ^ 62) (hL:NUML w a L) (hF:Flat w an K l):
    Calls Tryz.prog 87 #[.agg (MBOX N a m c an K cn)] w fun e w'=>∃ v,e=.returned v/\w'.ownsRow w.heap.size 5 1 v (MWRT L N l).length (z00 (MWRT L N l))/\Below w.heap.size w w':=by
  have c1:=z5D N hN;have c2:=z5D m (by omega);have hl1:=z39 N;have hl2:=z39 m;have h91:=z6J N;have h92:=z6J m;have hr1:=z3u hN;have hr2:=z3u (X:=m) (by omega);have eL:MWRT L N l=[78] ++ z10 N ++ z10 m ++ DIFS 0 L ++ l:=by unfold MWRT;rw [hl];simp
  obtain ⟨Z,hZ⟩:∃ Z,MWRT L N l=Z:=⟨_,rfl⟩
  rw [hZ];obtain ⟨NZ,hNZ⟩:∃ N,Z.length=N:=⟨_,rfl⟩
  rw [hNZ];generalize hSX:z10 N=SX at *
  generalize hSY:z10 m=SY at *
  have hn1:0<NTOP N+1:=by omega
  have hn2:0<NTOP m+1:=by omega
  have hm1:NTOP N+1<=10:=by omega
  have hm2:NTOP m+1<=10:=by omega
  clear h91 h92 hSX hSY;generalize NTOP N+1=nx at *
  generalize NTOP m+1=ny at *
  have HA:Aside (Flat w an K l/\K<2 ^ 20/\SX.length=nx/\SY.length=ny/\nx<=10/\ny<=10/\(∀ x∈SX,0<=x/\x<=255)/\(∀ x∈SY,0<=x/\x<=255)):=⟨hF,hK,hl1,hl2,hm1,hm2,hr1,hr2⟩
  have HL:Aside ([78] ++ SX ++ SY ++ DIFS 0 L ++ l=Z/\Z.length=NZ):=⟨by rw [<-hZ,eL],hNZ⟩
  have HI:Aside (L.length=m/\m<2 ^ 20/\RISES L/\(∀ x∈L,x<2 ^ 62)/\NUML w a L):=⟨hl,hm,hR,hx,hL⟩
  have eum:=zgo (x:=m) (by omega);clear hF hK hl1 hl2 hm1 hm2 hr1 hr2 hZ hNZ hN eL hl hm hR hx hL;obtain ⟨w0,hw0⟩:∃ w0,w.alloc (.cells (MBOX N a m c an K cn) 60)=w0:=⟨_,rfl⟩
  have h1:Has w0 w.heap.size (MBOX N a m c an K cn) 60:=by rw [<-hw0];exact Has.new w _ _
  have hb0:Below w.heap.size w w0:=by rw [<-hw0];exact (Below.refl _ _).alloc (Nat.le_refl _) _
  have hM:(MBOX N a m c an K cn)=#[.int .u64 (N:Int),.slice a m c,.slice an K cn]:=rfl;have CC:Aside (∀ W,Below w0.heap.size w0 W->W.cell? ⟨w.heap.size,0,none⟩=some (.int .u64 (N:Int))/\W.cell? ⟨w.heap.size,1,none⟩=some (.slice a m c)/\W.cell? ⟨w.heap.size,2,none⟩=some (.slice an K cn)):=fun W hb=>⟨(h1.keep hb).cell 0,(h1.keep hb).cell 1,(h1.keep hb).cell 2⟩
  have B0:Aside (Below w.heap.size w w0):=hb0;rw [hM] at hw0;have R0:Aside ((w0.alloc (.cells #[.int .u8 78] 5)).ownsRow w0.heap.size 5 1 (.slice (some ⟨w0.heap.size,0,none⟩) 1 1) 1 (z00 [78])/\Below w0.heap.size w0 (w0.alloc (.cells #[.int .u8 78] 5))):=⟨z6L w0 78,(Below.refl _ _).alloc (Nat.le_refl _) _⟩
  have x0:=(CC.out _ R0.out.2).1;clear h1 hb0;go_enter Tryz.func87,Tryz.ntmps87;rw [hM];go_wp2_with fail
  generalize w0.alloc (.cells #[.int .u8 78] 5)=w1 at *
  refine (c1 _).mono ?_;rintro e w2 ⟨g,cap,rfl,hown,hg,hb⟩;clear c1 x0 hw0;have R1:Aside (w2.ownsRow w0.heap.size 5 1 (.slice (some ⟨w0.heap.size,0,none⟩) 1 1) 1 (z00 [78])/\Below w0.heap.size w0 w2/\Bytes w2 (some ⟨g,0,none⟩) nx SX):=⟨z0R R0.out.1 hb,R0.out.2.trans (hb.mono R0.out.2.size),z24 hown hg HA.out.2.2.2.2.2.2.1⟩
  clear hown hg hb R0
  go_wp2_with (first
    | (at_builtin;refine z1i _ rfl (.tmp 10) (.tmp 13) rfl w0.heap.size _ 1 [78] rfl R1.out.1 g 0 nx cap SX rfl R1.out.2.2 hn1 (by have:=HA.out.2.2.2.2.1;omega) R1.out.2.1.size ?_;intro g3 cap3 w3 hown hgrow hg
       have R2:Aside (w3.ownsRow w0.heap.size 5 1 (.slice (some ⟨g3,0,none⟩) (1+nx) cap3) (1+nx) (z00 ([78] ++ SX))/\Below w0.heap.size w0 w3):=⟨hown,R1.out.2.1.grown hgrow R1.out.2.1.size (fun k e=>(R1.out.1.lt k e).1)⟩
       have x1:=(CC.out _ R2.out.2).2.1;clear hown hgrow hg R1))
  refine (c2 _).mono ?_;rintro e w4 ⟨g4,cap4,rfl,hown,hg,hb⟩;clear c2 x1 eum;have R3:Aside (w4.ownsRow w0.heap.size 5 1 (.slice (some ⟨g3,0,none⟩) (1+nx) cap3) (1+nx) (z00 ([78] ++ SX))/\Below w0.heap.size w0 w4/\Bytes w4 (some ⟨g4,0,none⟩) ny SY):=⟨z0R R2.out.1 hb,R2.out.2.trans (hb.mono R2.out.2.size),z24 hown hg HA.out.2.2.2.2.2.2.2⟩
  clear hown hg hb R2
  go_wp2_with (first
    | (at_builtin;refine z1i _ rfl (.tmp 15) (.tmp 20) rfl w0.heap.size _ (1+nx) ([78] ++ SX) rfl R3.out.1 g4 0 ny cap4 SY rfl R3.out.2.2 hn2 (by have:=HA.out.2.2.2.2;omega) R3.out.2.1.size ?_;intro g5 cap5 w5 hown hgrow hg
       have R4:Aside (w5.ownsRow w0.heap.size 5 1 (.slice (some ⟨g5,0,none⟩) (1+nx+ny) cap5) (1+nx+ny) (z00 ([78] ++ SX ++ SY))/\Below w0.heap.size w0 w5):=⟨hown,R3.out.2.1.grown hgrow R3.out.2.1.size (fun k e=>(R3.out.1.lt k e).1)⟩
       have x1:=(CC.out _ R4.out.2).2.1;clear hown hgrow hg R3))
  clear x1
  have HP:Aside (1+nx+ny<=21):=by
    obtain ⟨_,_,_,_,h5,h6,_⟩:=HA.out;show 1+nx+ny<=21;omega
  generalize [78] ++ SX ++ SY=PRE at *
  generalize 1+nx+ny=np at *
  go_loopg [3,4,25] m (fun q s3 s4 s25 wx=>∃ (j k np':Nat) (v:Value) (pre:List Int),v=s3/\s4=.int .u64 (k:Int)/\s25=.int .i64 (j:Int)/\Aside (j+q=m/\k=LSX L j/\wx.ownsRow w0.heap.size 5 1 v np' (z00 (PRE ++ pre))/\pre ++ DIFS k (L.drop j)=DIFS 0 L/\np'<=21+10*j/\Below w0.heap.size w0 wx))
  case atStart=>exact ⟨0,0,np,_,[],rfl,rfl,rfl,by omega,rfl,by simpa using R4.out.1,by simp,HP.out,R4.out.2⟩
  case round=>
    obtain ⟨j,k,np',v,pre,rfl,rfl,rfl,A⟩:=hrel;clear R4 HP;cases gk with
    | succ q=>
      have hjm:j<m:=by have:=A.out.1;omega
      have hlt:(j:Int)<(m:Int):=by omega
      obtain ⟨x,ex⟩:∃ x,L[j]?=some x:=⟨_,List.getElem?_eq_getElem (by have:=HI.out.1;omega)⟩
      obtain ⟨b,o,rfl,hb,hcc⟩:=HI.out.2.2.2.2 (by have:=HI.out.1;omega);have hx62:=HI.out.2.2.2.1 x (List.mem_of_getElem? ex);have x0:wr.cell? ⟨b,o+j,none⟩=some (.int .u64 (x:Int)):=(A.out.2.2.2.2.2.cell (p:=⟨b,o+j,none⟩) (by have:=B0.out.size;show b<w0.heap.size;omega)).trans ((B0.out.cell (p:=⟨b,o+j,none⟩) hb).trans (hcc j x ex));have hle:k<=x:=by rw [A.out.2.1];exact zhe HI.out.2.2.1 ex
      have eg:=zgn hle (by omega);have eu:=zhf (x:=x) (by omega);have ej:wrap64 ((j:Int)+1)=((j+1:Nat):Int):=by have:=HI.out.2.1;unfold wrap64;omega
      have cs:=z5D (x - k) (by omega);have hsl:=z39 (x - k);have hsn:=z6J (x - k);have hsr:=z3u (X:=x - k) (by omega)
      have hdif:pre ++ (z10 (x - k) ++ DIFS (x+1) (L.drop (j+1)))=DIFS 0 L:=by
        have h1:=A.out.2.2.2.1;rw [z4S ex,DIFS] at h1;exact h1
      have A2:Aside (j+1+q=m/\x+1=LSX L (j+1)/\wr.ownsRow w0.heap.size 5 1 v np' (z00 (PRE ++ pre))/\pre ++ (z10 (x - k) ++ DIFS (x+1) (L.drop (j+1)))=DIFS 0 L/\np'<=21+10*j/\Below w0.heap.size w0 wr/\(z10 (x - k)).length=NTOP (x - k)+1/\NTOP (x - k)+1<=10/\(∀ y∈z10 (x - k),0<=y/\y<=255)/\j<2 ^ 20):=⟨by have:=A.out.1;clear ej eg eu;omega,(z8W ex).symm,A.out.2.2.1,hdif,A.out.2.2.2.2.1,A.out.2.2.2.2.2,hsl,by clear ej eg eu;omega,hsr,by have:=HI.out.2.1;clear ej eg eu;omega⟩
      have hs0:0<NTOP (x - k)+1:=Nat.succ_pos _;generalize hSD:z10 (x - k)=SD at *
      generalize NTOP (x - k)+1=nd at *
      generalize x - k=xk at *
      clear A hdif hsl hsr hle hx62 ex hjm hcc hb hSD hsn;go_wp2_with fail
      refine (cs _).mono ?_;rintro e w6 ⟨g6,cap6,rfl,hown,hg,hb⟩;clear cs x0;have R5:Aside (w6.ownsRow w0.heap.size 5 1 v np' (z00 (PRE ++ pre))/\Below w0.heap.size w0 w6/\Bytes w6 (some ⟨g6,0,none⟩) nd SD):=⟨z0R A2.out.2.2.1 hb,A2.out.2.2.2.2.2.1.trans (hb.mono A2.out.2.2.2.2.2.1.size),z24 hown hg A2.out.2.2.2.2.2.2.2.2.1⟩
      clear hown hg hb
      go_wp2_with (first
        | (at_builtin;refine z1i _ rfl (.tmp 29) (.tmp 33) rfl w0.heap.size v np' (PRE ++ pre) rfl R5.out.1 g6 0 nd cap6 SD rfl R5.out.2.2 hs0 (by have:=A2.out;omega) R5.out.2.1.size ?_;intro g7 cap7 w7 hown hgrow hg
           have Z7:Aside (j+1+q=m/\x+1=LSX L (j+1)/\w7.ownsRow w0.heap.size 5 1 (.slice (some ⟨g7,0,none⟩) (np'+nd) cap7) (np'+nd) (z00 (PRE ++ (pre ++ SD)))/\(pre ++ SD) ++ DIFS (x+1) (L.drop (j+1))=DIFS 0 L/\np'+nd<=21+10*(j+1)/\Below w0.heap.size w0 w7):=⟨A2.out.1,A2.out.2.1,by rw [<-List.append_assoc];exact hown,by rw [List.append_assoc];exact A2.out.2.2.2.1,by have:=A2.out;omega,R5.out.2.1.grown hgrow R5.out.2.1.size (fun k e=>(R5.out.1.lt k e).1)⟩
           clear hown hgrow hg R5 A2))
      go_roundg q
      case measure=>exact Nat.lt_succ_self _
      case rel=>exact ⟨j+1,x+1,np'+nd,_,pre ++ SD,rfl,by first | rfl | exact congrArg (Value.int IntKind.u64) eu,by first | rfl | (rw [ej]),Z7.out⟩
    | zero=>
      obtain rfl:j=m:=by have:=A.out.1;omega
      have hlt:¬ (j:Int)<(j:Int):=by omega
      have x2:=(CC.out _ A.out.2.2.2.2.2).2.2
      have A3:Aside (wr.ownsRow w0.heap.size 5 1 v np' (z00 (PRE ++ DIFS 0 L))/\np'<=2 ^ 24/\Below w0.heap.size w0 wr):=by
        obtain ⟨h1,h2,h3,h4,h5,h6⟩:=A.out;rw [List.drop_of_length_le (by have:=HI.out.1;omega),DIFS,List.append_nil] at h4;rw [h4] at h3;exact ⟨h3,by have:=HI.out.2.1;omega,h6⟩
      clear A;go_wp2_with fail
      clear x2;obtain ⟨PP,hPP⟩:∃ PP,PRE ++ DIFS 0 L=PP:=⟨_,rfl⟩
      have HZ:Aside (PP ++ l=Z):=show PP ++ l=Z by rw [<-hPP];exact HL.out.1
      rw [hPP] at A3;clear hPP;go_loopg [3,41] K (fun q s3 s41 wx=>∃ (i:Nat) (u:Value),u=s3/\s41=.int .i64 (i:Int)/\Aside (i+q=K/\wx.ownsRow w0.heap.size 5 1 u (np'+32*i) (z00 (PP ++ l.take (32*i)))/\Below w0.heap.size w0 wx))
      case atStart=>exact ⟨0,_,rfl,rfl,by omega,by simpa using A3.out.1,A3.out.2.2⟩
      case round =>
        obtain ⟨i,u,rfl,rfl,A⟩:=hrel;cases gk with
        | zero=>
          obtain ⟨hi,hown,hbel⟩:=A.out;obtain rfl:i=K:=by omega
          have hlt2:¬ (i:Int)<(i:Int):=by omega
          have R:Aside (wr.ownsRow w.heap.size 5 1 u NZ (z00 Z)/\Below w.heap.size w wr):=by
            rw [List.take_of_length_le (by have:=HA.out.1.1;omega),HZ.out] at hown;have:=zg3 hown;rw [HL.out.2] at this;rw [<-this] at hown;exact ⟨z0o hown B0.out.size,B0.out.trans (hbel.mono B0.out.size)⟩
          clear hi hown hbel A HA HL HI A3;go_wp2;go_ret;exact ⟨_,rfl,R.out.1,R.out.2⟩
        | succ q =>
          obtain ⟨hi,hown,hbel⟩:=A.out;have hK20:=HA.out.2.1;have a1:Flat wr an K l:=(HA.out.1.below B0.out).below hbel;have hlt2:(i:Int)<(K:Int):=by omega
          obtain ⟨b,o,rfl,hbl,hc⟩:=a1.2.1 (by omega);have hat:=a1.at (show i<K by omega)
          have h32:=z1y a1.1 (show i<K by omega);have hrr:∀ x∈HSH l i,0<=x/\x<=255:=fun x hx=>a1.2.2 x (zg2 hx);have hnx:=z5G l i;have e1:wrap64 ((i:Int)+1)=((i+1:Nat):Int):=by unfold wrap64;omega
          have R:Aside (i+1+q=K/\K<2 ^ 20/\np'<=2 ^ 24/\wr.ownsRow w0.heap.size 5 1 u (np'+32*i) (z00 (PP ++ l.take (32*i)))/\Below w0.heap.size w0 wr/\(HSH l i).length=32/\(∀ x∈HSH l i,0<=x/\x<=255)/\PP ++ l.take (32*(i+1))=PP ++ l.take (32*i) ++ HSH l i):=⟨by clear e1;omega,hK20,A3.out.2.1,hown,hbel,h32,hrr,by rw [hnx,List.append_assoc]⟩
          generalize HSH l i=H at *
          clear hi hown hbel a1 hbl hc hrr hnx A hK20 A3
          go_wp2_with (first
            | (refine wpList_load_mid rfl 35 (.tmp 43) rfl b (o+i*32) rfl (z00 H) _ hat Tryz.underlying35 rfl (z0w h32) ?_)
            | (refine wpList_store_row rfl 35 (.tmp 8) (.tmp 44) rfl _ _ rfl rfl 35 _ (Has.new wr _ _) (z0V h32) (by simp [z00,h32]) (z1v H) ?_;rw [World.setRow_alloc_new])
            | (at_builtin;refine z1i _ rfl (.tmp 45) (.tmp 46) rfl w0.heap.size u (np'+32*i) _ rfl (R.out.2.2.2.1.alloc _) wr.heap.size 0 32 32 H rfl (zdc wr R.out.2.2.2.2.2.1 R.out.2.2.2.2.2.2.1 _) (by omega) (by have:=R.out.1;have:=R.out.2.1;have:=R.out.2.2.1;omega) (by have:=R.out.2.2.2.2.1.size;simp;omega) ?_;intro g6 cap6 w6 hown hgrow hg
               have R2:Aside (i+1+q=K/\w6.ownsRow w0.heap.size 5 1 (.slice (some ⟨g6,0,none⟩) (np'+32*i+32) cap6) (np'+32*(i+1)) (z00 (PP ++ l.take (32*(i+1))))/\Below w0.heap.size w0 w6):=by
                 obtain ⟨r1,r2,r3,r4,r5,r6,r7,r8⟩:=R.out;refine ⟨r1,?_,(r5.alloc r5.size _).grown hgrow (by have:=r5.size;simp;omega) (fun k e=>(r4.lt k e).1)⟩;rw [r8,show np'+32*(i+1)=np'+32*i+32 by omega];exact hown
               clear hown hgrow hg R hat h32))
          go_roundg q
          case measure=>exact Nat.lt_succ_self _
          case rel=>exact ⟨i+1,_,rfl,by first | rfl | (rw [e1]),R2.out⟩
end Go.Proofs.YthmnailmbgondaaGreatDoor
namespace Go.Proofs.YthmnailmbgondaaGreatDoor
set_option maxRecDepth 100000
def UND (h k:Nat) (L:List Nat):List Nat:=L.filter fun y=>decide (y / 2 ^ h=k)
theorem zaP {h k y:Nat} {L:List Nat} (hy:y∈UND h k L):y∈L/\y / 2 ^ h=k:=⟨(List.mem_filter.1 hy).1,of_decide_eq_true (List.mem_filter.1 hy).2⟩
theorem z1U (h k:Nat) (L:List Nat):(UND h k L).length<=L.length:=List.length_filter_le _ _
theorem zaQ {h k y:Nat} (e:y / 2 ^ (h+1)=k):(y<(2*k+1)*2 ^ h↔y / 2 ^ h=2*k)/\(¬ y<(2*k+1)*2 ^ h↔y / 2 ^ h=2*k+1):=by
 have h1:y / 2 ^ h / 2=k:=by rw [Nat.div_div_eq_div_mul,<-Nat.pow_succ];exact e
 have h2:=Nat.div_lt_iff_lt_mul (Nat.two_pow_pos h) (x:=y) (y:=2*k+1);rw [<-h2];generalize y / 2 ^ h=q at *
 omega
theorem zgp (h k:Nat) (L:List Nat) (hL:UND (h+1) k L≠[]):NSP (h+1) k (UND (h+1) k L)=NSP h (2*k) (UND h (2*k) (UND (h+1) k L)) ++ NSP h (2*k+1) (UND h (2*k+1) (UND (h+1) k L)):=by
 have hm:∀ y∈UND (h+1) k L,y / 2 ^ (h+1)=k:=fun y hy=>(zaP hy).2;generalize UND (h+1) k L=M at *
 cases M with
 | nil=>exact absurd rfl hL
 | cons x l=>
   rw [NSP];have e1:((x :: l).filter fun y=>decide (y<(2*k+1)*2 ^ h))=UND h (2*k) (x :: l):=List.filter_congr fun y hy=>decide_eq_decide.2 (zaQ (hm y hy)).1;have e2:((x :: l).filter fun y=>!decide (y<(2*k+1)*2 ^ h))=UND h (2*k+1) (x :: l):=List.filter_congr fun y hy=>by rw [<-decide_not];exact decide_eq_decide.2 (zaQ (hm y hy)).2
   rw [e1,e2]
def RNS (ps:List (Nat × Nat)) (L:List Nat):List (Nat × Nat):=ps.flatMap fun s=>NSP s.1 s.2 (UND s.1 s.2 L)
theorem zdv {ps:List (Nat × Nat)} {L M:List Nat} (h:∀ s∈ps,UND s.1 s.2 L=UND s.1 s.2 M):RNS ps L=RNS ps M:=by
 induction ps with
 | nil=>rfl
 | cons s ps ih=>
   rw [RNS,RNS,List.flatMap_cons,List.flatMap_cons,h s (List.mem_cons_self ..)];exact congrArg _ (ih fun t ht=>h t (List.mem_cons_of_mem _ ht))
theorem z8X:∀ (ps:List (Nat × Nat)) (A B:Nat) (L:List Nat),Tile A ps B->(∀ x∈L,A<=x/\x<B)->RNS ps L=NSPS ps L
 | [],_,_,_,_,_=>rfl
 | (h, k) :: ps,A,B,L,ht,hm=>by
   obtain ⟨hN,hA,ht⟩:Node h k/\k*2 ^ h=A/\Tile ((k+1)*2 ^ h) ps B:=ht
   have e1:UND h k L=L.filter fun y=>decide (y<(k+1)*2 ^ h):=List.filter_congr fun y hy=>decide_eq_decide.2 (by
     have h1:=Nat.div_lt_iff_lt_mul (Nat.two_pow_pos h) (x:=y) (y:=k+1);have h2:=Nat.le_div_iff_mul_le (Nat.two_pow_pos h) (x:=k) (y:=y);have h3:=(hm y hy).1;rw [<-h1];rw [hA] at h2;generalize y / 2 ^ h=q at *
     omega)
   have e2:RNS ps L=RNS ps (L.filter fun y=>!decide (y<(k+1)*2 ^ h)):=zdv fun s hs=>by
     have h1:=(ht.within s hs).1;unfold UND;rw [List.filter_filter];refine List.filter_congr fun y hy=>?_;by_cases e:y / 2 ^ s.1=s.2
     ·have h2:s.2*2 ^ s.1<=y:=by rw [<-e];exact Nat.div_mul_le_self _ _
      have h3:¬ y<(k+1)*2 ^ h:=by omega
      simp [e,h3]
     ·simp [e]
   have e3:=z8X ps ((k+1)*2 ^ h) B (L.filter fun y=>!decide (y<(k+1)*2 ^ h)) ht (fun y hy=>by
     obtain ⟨a,b⟩:=List.mem_filter.1 hy;have b:¬ y<(k+1)*2 ^ h:=by simpa using b
     exact ⟨by omega,(hm y a).2⟩)
   have e4:RNS ((h,k) :: ps) L=NSP h k (UND h k L) ++ RNS ps L:=rfl;rw [e4,NSPS,e1,e2,e3]
theorem zgq {N:Nat} {L:List Nat} (hr:z0h L N=0):z0m (TPS N) L=(RNS (TPS N) L).map SPL:=by
 obtain ⟨h1,h2,h3⟩:=z2t hr;rw [z4g,z8X (TPS N) 0 N L (z8V h1) (fun x hx=>⟨Nat.zero_le _,h3 x hx⟩)]
theorem z4h (h k:Nat) (L:List Nat):(NSP h k L).length<=L.length*h+1:=by
 have:=z7t h k L;rwa [z4f,List.length_map] at this
theorem z5N:∀ (h k:Nat) (L:List Nat),Node h k->∀ s∈NSP h k L,Node s.1 s.2
 | h,k,[],hN,s,hs=>by
   rw [z2W,List.mem_singleton] at hs;subst hs;exact hN
 | 0,_,_ :: _,_,s,hs=>by cases hs
 | h+1,k,x :: l,hN,s,hs=>by
   rw [NSP] at hs;rcases List.mem_append.1 hs with hs | hs
   ·exact z5N h (2*k) _ hN.kid.1 s hs
   ·exact z5N h (2*k+1) _ hN.kid.2 s hs
end Go.Proofs.YthmnailmbgondaaGreatDoor
namespace Go.Proofs.YthmnailmbgondaaGreatDoor
open Go.RowKit
set_option maxRecDepth 100000
theorem z6R {ops:Array Oper} {rest:List Oper} {o:Oper} {a:Act} {Q:Exit->Act->World->Prop} (w:World) (hgd:o.guard=none) (s x:Operand)
  (ho:o.op=.call {callee:=.builtin .append,args:=#[s,x],argTypes:=#[23,23]})
  (base:Nat) (v:Value) (n:Nat) (xs:List Nat) (hs:a.eval s=v) (hown:w.ownsRow base 24 1 v n (z06 xs))
  (b c:Nat) (y:Nat) (hx:a.eval x=.slice (some ⟨b,0,none⟩) 1 c) (hc:w.cell? ⟨b,0,none⟩=some (.int .u64 (y:Int)))
  (hb:n<=2 ^ 30) (hbase:base<=w.heap.size)
  (h:∀ g cap w',w'.ownsRow base 24 1 (.slice (some ⟨g,0,none⟩) (n+1) cap) (n+1) (z06 (xs ++ [y]))->w.grownBy w' v.ownBlock->g<w'.heap.size->wpList Tryz.prog ops Q rest (a.put o.dst (.slice (some ⟨g,0,none⟩) (n+1) cap)) w'):wpList Tryz.prog ops Q (o :: rest) a w:=by
 obtain ⟨i,hi,hz,hs1,hby⟩:=info_parts z15;refine wpList_append_lies w hgd s x 23 ho base 24 i (.int .u64 0) 1 8 Tryz.underlying23 hi hz hs1 hby rfl (by decide) v n (z06 xs) hs hown ⟨b,0,none⟩ 1 c [.int .u64 (y:Int)] hx rfl ?_ (fun u hu=>by simp at hu;subst hu;rfl) (by decide) (by simp only [maxLen];omega) (by omega) hbase w.heap.size rfl ?_
 ·intro j u hj
  cases j with
  | zero=>
    simp only [List.getElem?_cons_zero,Option.some.injEq] at hj;subst hj;exact hc
  | succ j=>simp at hj
 ·intro g cap w' h1 h2 _ h4
  rw [<-z1D] at h1;exact h g cap w' h1 h2 h4
structure TAKING (w0 w:World) (bp:Nat) (acc:List Nat):Prop where
 row:∃ v,Has w bp #[v] 23/\w.ownsRow w0.heap.size 24 1 v acc.length (z06 acc)
 keep:∀ b,b<w0.heap.size->b≠bp->w.heap[b]?=w0.heap[b]?
 lt:bp<w0.heap.size
 below:Below bp w0 w
theorem z1m {w:World} {B s n:Nat} {t:TypeId} {v:Value} {xs:List Value} (h:w.ownsRow B t s v n xs):∃ a c,v=.slice a n c:=by
 rcases h.2 with ⟨e,h0⟩ | ⟨g,cap,cur,e,_⟩
 ·exact ⟨none,0,by rw [e,h0]⟩
 ·exact ⟨_,_,e⟩
theorem zfb {w0 w:World} {bp:Nat} {acc:List Nat} (hK:TAKING w0 w bp acc) (p:Nat) (hn:acc.length<=2 ^ 30):Calls Tryz.prog 84 #[.int .u64 (p:Int),.pointer (some ⟨bp,0,none⟩)] w fun e w'=>e=.returned (.tuple #[])/\TAKING w0 w' bp (acc ++ [p]):=by
 obtain ⟨v,hv,hown⟩:=hK.row;obtain ⟨a,c,rfl⟩:=z1m hown;have c0:w.cell? ⟨bp,0,none⟩=some (.slice a acc.length c):=hv.cell 0;have HA:Aside (TAKING w0 w bp acc/\acc.length<=2 ^ 30/\Has w bp #[.slice a acc.length c] 23/\w.ownsRow w0.heap.size 24 1 (.slice a acc.length c) acc.length (z06 acc)):=⟨hK,hn,hv,hown⟩
 clear hK hn hv hown;obtain ⟨n,hn⟩:∃ n,acc.length=n:=⟨_,rfl⟩
 rw [hn] at HA c0;have HN:Aside (acc.length=n):=hn;clear hn;go_enter Tryz.func84,Tryz.ntmps84
 go_wp2_with (first
  | (at_builtin;refine z6R _ rfl (.tmp 3) (.tmp 5) rfl w0.heap.size (.slice a n c) n acc rfl (HA.out.2.2.2.alloc _) w.heap.size 1 p rfl ((Has.new _ _ _).cell 0) HA.out.2.1 (by have:=HA.out.1.below.size;simp;omega) ?_;intro g1 c1 w1 hown1 hgrow1 hg1
     have hbp:Has w1 bp #[.slice a n c] 23:=by
      refine (hgrow1.block bp (by have:=HA.out.2.2.1.lt;simp;omega) (fun e=>?_)).trans (HA.out.2.2.1.alloc _);have:=(HA.out.2.2.2.lt bp e.symm).1;have:=HA.out.1.lt;omega
     have x0:=hbp.cell 0;have x1:=hbp.frozen 0
     have FN:Aside (TAKING w0 (w1.setCell ⟨bp,0,none⟩ (.slice (some ⟨g1,0,none⟩) (n+1) c1)) bp (acc ++ [p])):=by
      have hlt:=HA.out.1.lt;have hsz:=HA.out.1.below.size;refine ⟨⟨.slice (some ⟨g1,0,none⟩) (n+1) c1,hbp.set 0 _,?_⟩,fun b hb hne=>?_,hlt,?_⟩
      ·rw [List.length_append,HN.out]
       exact ownsRow_setCell_below hown1 (a:=⟨bp,0,none⟩) hlt _
      ·rw [Below.heap_setCell _ _ _ _ (by exact hne),hgrow1.block b (by simp;omega) (fun e=>by have:=(HA.out.2.2.2.lt b e.symm).1;omega),Below.heap_alloc _ _ _ (by omega)]
       exact HA.out.1.keep b hb hne
      ·refine ((HA.out.1.below.alloc (by omega) _).grown hgrow1 (by simp;omega) (fun k e=>?_)).setCell (Nat.le_refl _) _
       have:=(HA.out.2.2.2.lt k e).1;omega
     clear hown1 hgrow1 hg1 hbp c0))
 exact bodyPost_end (v:=.tuple #[]) (by simp [results,Tryz.f84]) rfl ⟨rfl,FN.out⟩
end Go.Proofs.YthmnailmbgondaaGreatDoor
