/- FindProves: part 6. -/
import Derived.Deep.WholeRow
import Derived.Laws.ResultCell
import Derived.Laws.Rows
import Derived.Laws.Tables
import Derived.Deep.MidRow
import Derived.Test.YtlbcnaenhghieaaGreatDoorFindProvesP5
set_option maxHeartbeats 2000000
namespace Go.Proofs.YtlbcnaenhghieaaGreatDoor
open Go.RowKit
theorem zfU {x:Nat} (h:x<2 ^ 64):IntKind.u64.wrap (x:Int)=(x:Int):=by
 rw [z0b];omega
theorem zav {n j:Nat} (hn:n<2 ^ 64) (hj:j<PC n):(TOPS 0 n)[j]?=some (HGT n j,KGT n j):=by
 unfold TOPS;rw [List.getElem?_map,(z28 hn hj).1];rfl
theorem zaw {i n:Nat} (hi:i<n) (hn:n<=4611686018427387904):HGT n (KTH i n)=RISE i n:=by
 unfold HGT;rw [List.getD_eq_getElem?_getD,z82 hi hn];rfl
theorem zcS {i n k:Nat} (hi:i<n) (hn:n<=4611686018427387904) (hk:k<KTH i n):i / 2 ^ HGT n k≠KGT n k:=by
 have hK:=z2Y hi hn;obtain ⟨_,h62,hb,hq,_⟩:=z0R hi hn;obtain ⟨_,h2,h3⟩:=z28 (n:=n) (i:=k) (by omega) (by omega)
 have hlt:RISE i n<HGT n k:=by
  rcases Nat.lt_or_ge (RISE i n) (HGT n k) with h | h
  ·exact h
  ·have:=zaq n (a:=HGT n k+1) (b:=RISE i n+1) (by omega)
   unfold KTH at hk;omega
 have e:∀ x:Nat,x / 2 ^ HGT n k=x / 2 ^ (RISE i n+1) / 2 ^ (HGT n k - (RISE i n+1)):=fun x=>by rw [Nat.div_div_eq_div_mul,<-Nat.pow_add,show RISE i n+1+(HGT n k - (RISE i n+1))=HGT n k by omega]
 have h4:=z4n h2;rw [e i,hq,<-e n,h4];unfold KGT;omega
theorem zgk {i n:Nat} (hi:i<n) (hn:n<=4611686018427387904):i / 2 ^ HGT n (KTH i n)=KGT n (KTH i n):=by
 unfold KGT;rw [zaw hi hn];exact (z0R hi hn).2.2.2.2
theorem z5O (i n:Nat) (hi:i<n) (hn:n<=4611686018427387904) (w:World):Calls Tryz.prog 30 #[.int .u64 (i:Int),.int .u64 (n:Int)] w fun e w'=>e=.returned (.tuple #[.int .i64 ((KTH i n:Nat):Int),.bool true])/\Below w.heap.size w w':=by
 have c:=z3N n hn w;have hK:=z2Y hi hn;have hP:=z1D 64 n (by omega);have h1:=fun (k:Nat) (hk:k<KTH i n)=>zcS hi hn hk;have h2:=zgk hi hn;have hT:=fun (j:Nat) (hj:j<PC n)=>zav (n:=n) (by omega) hj;have hN:=fun (j:Nat) (hj:j<PC n)=>(z71 hn hj).1;have hL:=z3p (n:=n) (by omega) 0 (by omega);rw [Nat.pow_zero,Nat.div_one] at hL;have hd:¬ (n:Int)<=(i:Int):=by omega
 have hi64:i<2 ^ 64:=by omega
 generalize KTH i n=K at *
 generalize PC n=L at *
 generalize HGT n=hh at *
 generalize KGT n=kk at *
 generalize TOPS 0 n=l at *
 have HA:Aside (K<L/\L<=64/\(∀ k,k<K->i / 2 ^ hh k≠kk k)/\i / 2 ^ hh K=kk K/\(∀ j,j<L->l[j]?=some (hh j,kk j))/\(∀ j,j<L->hh j<=62)/\l.length=L/\i<2 ^ 64):=⟨hK,hP,h1,h2,hT,hN,hL,hi64⟩
 clear hi hn hK hP h1 h2 hT hN hL hi64;go_enter Tryz.func30,Tryz.ntmps30;go_wp2_with fail
 refine c.mono ?_;rintro e w1 ⟨a,cap,rfl,hs,hb⟩;have R1:Aside (Spots w1 a l/\Below w.heap.size w w1):=⟨hs,hb⟩
 clear c hs hb;go_wp2;go_loopg [7] K (fun q s7 wx=>∃ j:Nat,s7=.int .i64 (j:Int)/\Aside (j+q=K/\Below w1.heap.size w1 wx))
 case atStart=>exact ⟨0,rfl,by omega,Below.refl _ _⟩
 case round=>
  obtain ⟨j,rfl,A⟩:=hrel
  obtain ⟨g,z,t,hv,kv,rfl,y0,y1,b1,b2,b3,b4,b5,b6,b7,b8,b9⟩:∃ (g:Nat) (z t:Int) (hv kv:Nat),a=some ⟨g,0,none⟩/\wr.cell? ⟨g,j*2,none⟩=some (.int .u8 (hv:Int))/\wr.cell? ⟨g,j*2+1,none⟩=some (.int .u64 (kv:Int))/\(∀ w,Calls Tryz.prog 58 #[.int .i64 (hv:Int)] w fun e w'=>e=.returned (.int .u64 z)/\w=w')/\wrap64 (hv:Int)=(hv:Int)/\¬ z=0/\(i:Int) / z=t/\IntKind.u64.wrap t=t/\(j<L/\j<=64)/\(gk=0->j=K)/\(gk=0->t=(kv:Int))/\(gk≠0->¬ t=(kv:Int)):=by
    obtain ⟨a1,a2,a3,a4,a5,a6,a7,a8⟩:=HA.out;have hjK:=A.out.1;have hjL:j<L:=by omega
    obtain ⟨g,rfl,hg,hc⟩:=R1.out.1 (by omega);have hx:=a5 j hjL;have h62:=a6 j hjL;have hp0:=Nat.two_pow_pos (hh j);refine ⟨g,((2 ^ hh j:Nat):Int),((i / 2 ^ hh j:Nat):Int),hh j,kk j,rfl,(A.out.2.cell (p:=⟨g,j*2,none⟩) hg).trans (hc _ _ _ hx).1,(A.out.2.cell (p:=⟨g,j*2+1,none⟩) hg).trans (hc _ _ _ hx).2,fun w=>z1n (hh j) (by omega) w,by unfold wrap64;omega,?_,(Int.natCast_ediv _ _).symm,zfU (Nat.lt_of_le_of_lt (Nat.div_le_self _ _) a8),⟨hjL,by omega⟩,fun h=>by omega,fun h=>?_,fun h=>?_⟩
    ·generalize 2 ^ hh j=x at hp0
     omega
    ·obtain rfl:j=K:=by omega
     rw [a4]
    ·have:=a3 j (by omega)
     generalize i / 2 ^ hh j=x at this;omega
  have hlt:(j:Int)<(L:Int):=by omega
  have hj0:¬ (j:Int)<0:=by omega
  have hj0':(0:Int)<=(j:Int):=by omega
  have e1:wrap64 ((j:Int)+1)=((j+1:Nat):Int):=by unfold wrap64;omega
  have b3':(z == 0)=false:=by simpa using b3
  cases gk with
  | zero=>
    obtain rfl:=b7 rfl;have heq:(t == (kv:Int))=true:=by simpa using b8 rfl
    have R:Aside (Below w.heap.size w wr):=R1.out.2.trans (A.out.2.mono R1.out.2.size);clear A HA R1 b6 b7 b8 b9;go_wp2_with fail
    refine (b1 _).mono ?_;rintro e w' ⟨rfl,rfl⟩;clear b1;go_wp2;go_quiet (fail)
    go_wp2;go_ret2;exact ⟨rfl,below_drewN R.out _⟩
  | succ q=>
    have hne:(t == (kv:Int))=false:=by simpa using b9 (by omega)
    have B:Aside (j+1+q=K/\Below w1.heap.size w1 wr):=⟨by have:=A.out.1;omega,A.out.2⟩
    clear A HA R1 b6 b7 b8 b9;go_wp2_with fail
    refine (b1 _).mono ?_;rintro e w' ⟨rfl,rfl⟩;clear b1;go_wp2;go_quiet (fail)
    go_wp2;go_roundg q
    case measure=>omega
    case rel=>exact ⟨j+1,by first | rfl | (rw [e1]),B.out.1,below_drewN B.out.2 _⟩
def Has (w:World) (g:Nat) (c:Array Value) (t:TypeId):Prop:=w.heap[g]?=some (.cells c t)
theorem Has.cell {w:World} {g:Nat} {c:Array Value} {t:TypeId} (h:Has w g c t) (i:Nat):w.cell? ⟨g,i,none⟩=c[i]?:=cell_of_row w g i c t _ h
theorem Has.lt {w:World} {g:Nat} {c:Array Value} {t:TypeId} (h:Has w g c t):g<w.heap.size:=(Array.getElem?_eq_some_iff.1 h).1
theorem Has.frozen {w:World} {g:Nat} {c:Array Value} {t:TypeId} (h:Has w g c t) (i:Nat):w.frozen? ⟨g,i,none⟩=false:=by
 have e:w.heap[g]?=some (.cells c t):=h;simp [World.frozen?,e]
theorem Has.set {w:World} {g:Nat} {c:Array Value} {t:TypeId} (h:Has w g c t) (i:Nat) (v:Value):Has (w.setCell ⟨g,i,none⟩ v) g (c.setIfInBounds i v) t:=by
 have e:w.heap[g]?=some (.cells c t):=h;unfold Has;rw [setCell_eq_setRow w g i c t _ v e,setRow_heap w g c _ t _ e]
theorem Has.other {w:World} {g:Nat} {c:Array Value} {t:TypeId} (h:Has w g c t) {a:Addr} (ha:g≠a.block) (v:Value):Has (w.setCell a v) g c t:=by
 have e:w.heap[g]?=some (.cells c t):=h;unfold Has;rw [Below.heap_setCell w a v g ha,e]
theorem Has.below {B:Nat} {w w':World} {g:Nat} {c:Array Value} {t:TypeId} (h:Has w g c t) (hb:Below B w w') (hg:g<B):Has w' g c t:=(hb.block g hg).trans h
theorem Has.keep {w w':World} {g:Nat} {c:Array Value} {t:TypeId} (h:Has w g c t) (hb:Below w.heap.size w w'):Has w' g c t:=h.below hb h.lt
theorem Has.alloc {w:World} {g:Nat} {c:Array Value} {t:TypeId} (h:Has w g c t) (o:Obj):Has (w.alloc o) g c t:=by
 have e:w.heap[g]?=some (.cells c t):=h;unfold Has;rw [Below.heap_alloc w o g h.lt,e]
theorem Has.new (w:World) (c:Array Value) (t:TypeId):Has (w.alloc (.cells c t)) w.heap.size c t:=heap_alloc_new w _
theorem Has.at (w:World) (c:Array Value) (t:TypeId) {g:Nat} (hg:g=w.heap.size):Has (w.alloc (.cells c t)) g c t:=by subst hg;exact Has.new w c t
theorem Has.row {w:World} {g:Nat} {c:Array Value} {t:TypeId} (h:Has w g c t) (c':Array Value):Has (w.setRow g c') g c' t:=setRow_heap w g c c' t _ h
theorem Has.row_other {w:World} {g k:Nat} {c:Array Value} {t:TypeId} (h:Has w g c t) (hk:g≠k) (c':Array Value):Has (w.setRow k c') g c t:=by
 have e:w.heap[g]?=some (.cells c t):=h;unfold Has;rw [setRow_other w k g c' hk,e]
theorem Has.drewN {w:World} {g:Nat} {c:Array Value} {t:TypeId} (h:Has w g c t) (n:Nat):Has (w.drewN n) g c t:=h
theorem z1N {w:World} {b i j:Nat} (h:i≠j) (v:Value):(w.setCell ⟨b,i,none⟩ v).cell? ⟨b,j,none⟩=w.cell? ⟨b,j,none⟩:=World.cell?_setCell_other w _ _ v (fun e=>h (congrArg Addr.off e))
theorem z0d {B g:Nat} {w0 w:World} (hb:Below B w0 w) (hBg:B<=g) (cs:Array Value):Below B w0 (w.setRow g cs):=
 ⟨hb.os,hb.tape,hb.output,by have:=hb.size;simpa [World.setRow] using this,fun k hk=>by rw [setRow_other w g k cs (by omega)];exact hb.block k hk⟩
theorem zbq (i n:Nat) (hi:i<n) (hn:n<=4611686018427387904) (w:World):Calls Tryz.prog 29 #[.int .u64 (i:Int),.int .u64 (n:Int)] w fun e w'=>
  ∃ v,e=.returned (.tuple #[v,.bool true])/\w'.ownsRow w.heap.size 36 1 v (RISE i n) (z06 (WAY i (RISE i n)))/\Below w.heap.size w w':=by
 have c1:=z5O i n hi hn w;have c2:=z3N n hn;have hK:=z2Y hi hn;have hP:=z1D 64 n (by omega);have hT:=zav (n:=n) (by omega) hK;rw [zaw hi hn] at hT;have h62:=(z0R hi hn).2.1;have hlt:i<4611686018427387904:=by omega
 generalize KTH i n=K at *
 generalize PC n=L at *
 generalize KGT n K=kk at *
 generalize TOPS 0 n=l at *
 generalize RISE i n=H at *
 have HA:Aside (K<L/\L<=64/\l[K]?=some (H,kk)/\H<=62/\i<4611686018427387904):=⟨hK,hP,hT,h62,hlt⟩
 have hKL:(K:Int)<(L:Int):=by omega
 have hK0:¬ (K:Int)<0:=by omega
 clear hi hn hK hP hT h62 hlt;go_enter Tryz.func29,Tryz.ntmps29;go_wp2_with fail
 refine c1.mono ?_;rintro e w1 ⟨rfl,hb⟩;have R1:Aside (Below w.heap.size w w1):=hb;clear c1 hb;go_wp2_with fail
 refine (c2 _).mono ?_;rintro e w2 ⟨a,cap,rfl,hs,hb⟩;obtain ⟨g,rfl,hg,hc⟩:=hs (by have:=(List.getElem?_eq_some_iff.1 HA.out.2.2.1).1;omega);have y0:=(hc _ _ _ HA.out.2.2.1).1;replace R1:Aside (Below w.heap.size w w2):=R1.out.trans (hb.mono R1.out.size);clear c2 hb hs hc hg;go_wp2;have hB:Below w2.heap.size w2 (w2.alloc (.cells #[.int .u8 0,.int .u64 (i:Int)] 102)):=(Below.refl _ _).alloc (Nat.le_refl _) _;have hH:=Has.new w2 #[.int .u8 0,.int .u64 (i:Int)] 102;have R2:Aside (Below w.heap.size w (w2.alloc (.cells #[.int .u8 0,.int .u64 (i:Int)] 102))/\Has (w2.alloc (.cells #[.int .u8 0,.int .u64 (i:Int)] 102)) w2.heap.size #[.int .u8 0,.int .u64 (i:Int)] 102/\w.heap.size<=w2.heap.size):=⟨R1.out.trans (hB.mono R1.out.size),hH,R1.out.size⟩
 generalize w2.alloc (.cells #[.int .u8 0,.int .u64 (i:Int)] 102)=w3 at *
 clear hB hH R1 y0;generalize w2.heap.size=sb at *
 go_loopg [8] H (fun q s8 wx=>∃ j:Nat,Aside (j+q=H/\wx.ownsRow (sb+1) 36 1 s8 j (z06 (WAY i j))/\Has wx sb #[.int .u8 (j:Int),.int .u64 ((i / 2 ^ j:Nat):Int)] 102/\Below w.heap.size w wx))
 case atStart=>exact ⟨0,by omega,⟨rfl,.inl ⟨rfl,rfl⟩⟩,by rw [Nat.pow_zero,Nat.div_one];exact R2.out.2.1,R2.out.1⟩
 case round=>
  obtain ⟨j,A⟩:=hrel;have y0:wr.cell? ⟨sb,0,none⟩=some (.int .u8 (j:Int)):=A.out.2.2.1.cell 0;cases gk with
  | zero=>
    obtain rfl:j=H:=by have:=A.out.1;omega
    have hlt:¬ (j:Int)<(j:Int):=by omega
    go_wp2;go_ret2;obtain ⟨_,hown,_,hbel⟩:=A.out;exact ⟨_,rfl,z1b hown (by have:=R2.out.2.2;omega),hbel⟩
  | succ q=>
    have y1:wr.cell? ⟨sb,1,none⟩=some (.int .u64 ((i / 2 ^ j:Nat):Int)):=A.out.2.2.1.cell 1;have hjH:j<H:=by have:=A.out.1;omega
    have hlt:(j:Int)<(H:Int):=by omega
    have hN:=Node.over HA.out.2.2.2.2 j (by have:=HA.out.2.2.2.1;omega);have cp:=fun w=>z2r j (i / 2 ^ j) hN w;have cs:=fun w=>z4b j (i / 2 ^ j) hN (by have:=HA.out.2.2.2.1;omega) w;have e1:((j:Int)+1) % 256=((j+1:Nat):Int):=by have:=HA.out.2.2.2.1;omega
    have hk64:i / 2 ^ j<2 ^ 62:=hN.index_lt;have hw:=z83 i j;have hhalf:=z0r i j;have hj63:j<=63:=by have:=HA.out.2.2.2.1;omega
    generalize hk:i / 2 ^ j=k at *
    generalize hk2:i / 2 ^ (j+1)=k2 at *
    have e2:(k:Int) / 2=(k2:Int):=by omega
    have e3:IntKind.u64.wrap (k2:Int)=(k2:Int):=zfU (by omega);generalize PLC j k=x at *
    generalize PLC j (SIB k)=y at *
    have R:Aside (j+1+q=H/\wr.ownsRow (sb+1) 36 1 u8 j (z06 (WAY i j))/\Has wr sb #[.int .u8 (j:Int),.int .u64 (k:Int)] 102/\Below w.heap.size w wr/\j<=1000/\WAY i (j+1)=WAY i j ++ [y]/\i / 2 ^ (j+1)=k2/\w.heap.size<=sb):=⟨by have:=A.out.1;omega,A.out.2.1,A.out.2.2.1,A.out.2.2.2,by omega,hw,hk2,R2.out.2.2⟩
    clear A HA R2 hjH hN hk64 hw hhalf hj63 hk hk2;go_wp2_with fail
    refine (cp _).mono ?_;rintro e w4 ⟨rfl,hb⟩;obtain ⟨r1,r2,r3,r4,r5,r6,r7,r8⟩:=R.out;replace R:Aside (j+1+q=H/\w4.ownsRow (sb+1) 36 1 u8 j (z06 (WAY i j))/\Has w4 sb #[.int .u8 (j:Int),.int .u64 (k:Int)] 102/\Below w.heap.size w w4/\j<=1000/\WAY i (j+1)=WAY i j ++ [y]/\i / 2 ^ (j+1)=k2/\w.heap.size<=sb):=⟨r1,z1h r2 hb,r3.keep hb,r4.trans (hb.mono r4.size),r5,r6,r7,r8⟩
    clear cp hb y0 y1 r1 r2 r3 r4 r5 r6 r7 r8;go_wp2_with fail
    refine (cs _).mono ?_;rintro e w5 ⟨rfl,hb⟩;obtain ⟨r1,r2,r3,r4,r5,r6,r7,r8⟩:=R.out;replace R:Aside (j+1+q=H/\w5.ownsRow (sb+1) 36 1 u8 j (z06 (WAY i j))/\Has w5 sb #[.int .u8 (j:Int),.int .u64 (k:Int)] 102/\Below w.heap.size w w5/\j<=1000/\WAY i (j+1)=WAY i j ++ [y]/\i / 2 ^ (j+1)=k2/\w.heap.size<=sb):=⟨r1,z1h r2 hb,r3.keep hb,r4.trans (hb.mono r4.size),r5,r6,r7,r8⟩
    clear cs hb r1 r2 r3 r4 r5 r6 r7 r8;go_wp2_with (at_builtin;refine z3w _ rfl (.tmp 45) (.tmp 47) rfl (sb+1) u8 j (WAY i j) rfl (R.out.2.1.alloc _) w5.heap.size 1 y rfl (by rw [World.cell?_alloc_at _ _ _ _ rfl];rfl) R.out.2.2.2.2.1 (by have:=R.out.2.2.1.lt;simp;omega) ?_;intro g' cap' w6 hown hgrow hg;have HH:Aside (Has w6 sb #[.int .u8 (j:Int),.int .u64 (k:Int)] 102):=Has.below (R.out.2.2.1.alloc _) ((Below.refl (sb+1) _).grown hgrow (by have:=R.out.2.2.1.lt;simp;omega) (fun k e=>(R.out.2.1.lt k e).1)) (Nat.lt_succ_self _);have y0:w6.cell? ⟨sb,0,none⟩=some (.int .u8 (j:Int)):=HH.out.cell 0;have y1:w6.cell? ⟨sb,1,none⟩=some (.int .u64 (k:Int)):=HH.out.cell 1;have z0:w6.frozen? ⟨sb,0,none⟩=false:=HH.out.frozen 0;have z1:w6.frozen? ⟨sb,1,none⟩=false:=HH.out.frozen 1)
    obtain ⟨r1,r2,r3,r4,r5,r6,r7,r8⟩:=R.out;have R3:Aside (j+1+q=H/\w6.ownsRow (sb+1) 36 1 (.slice (some ⟨g',0,none⟩) (j+1) cap') (j+1) (z06 (WAY i (j+1)))/\Has w6 sb #[.int .u8 (j:Int),.int .u64 (k:Int)] 102/\Below w.heap.size w w6/\i / 2 ^ (j+1)=k2/\w.heap.size<=sb):=⟨r1,by rw [r6];exact hown,HH.out,(r4.alloc r4.size _).grown hgrow (by have:=r4.size;simp;omega) (fun k e=>by have:=(r2.lt k e).1;omega),r7,r8⟩
    clear hown hgrow hg R r1 r2 r3 r4 r5 r6 r7 r8 HH y0 y1 z0 z1;go_roundg q
    case measure=>omega
    case rel=>
     obtain ⟨r1,r2,r3,r4,r7,r8⟩:=R3.out;refine ⟨j+1,r1,ownsRow_setCell_below (ownsRow_setCell_below r2 (Nat.lt_succ_self _) _) (Nat.lt_succ_self _) _,?_,(r4.setCell r8 _).setCell r8 _⟩;have h:=(r3.set 0 (.int .u8 ((j:Int)+1))).set 1 (.int .u64 (k2:Int));rw [r7];exact h
theorem z8d {w:World} {base g n cap:Nat} {l:List Nat} (h:w.ownsRow base 36 1 (.slice (some ⟨g,0,none⟩) n cap) n (z06 l)) (i:Nat) (hi:i<l.length):w.cell? ⟨g,i,none⟩=some (.int .u64 (l.getD i 0:Nat)):=by
 have hlen:l.length=n:=by have:=h.1;simpa [z06] using this
 rw [h.cellAt i (by omega)];unfold z06;rw [List.getElem?_map,List.getD_eq_getElem?_getD,List.getElem?_eq_getElem hi];rfl
def Nums (w:World) (v:Value) (l:List Nat):Prop:=∃ a cap,v=.slice a l.length cap/\(0<l.length->∃ g,a=some ⟨g,0,none⟩/\g<w.heap.size/\∀ (j:Nat),j<l.length->w.cell? ⟨g,j,none⟩=some (.int .u64 ((l.getD j 0:Nat):Int)))
theorem Nums.below {w w':World} {v:Value} {l:List Nat} {B:Nat} (h:Nums w v l) (hb:Below B w w') (hB:w.heap.size<=B):Nums w' v l:=by
 obtain ⟨a,cap,rfl,h⟩:=h;refine ⟨a,cap,rfl,fun h0=>?_⟩;obtain ⟨g,e,hg,hc⟩:=h h0;exact ⟨g,e,Nat.lt_of_lt_of_le hg hb.size,fun j hj=>(hb.cell (p:=⟨g,j,none⟩) (Nat.lt_of_lt_of_le hg hB)).trans (hc j hj)⟩
theorem zeJ {w:World} {base:Nat} {v:Value} {l:List Nat} (h:w.ownsRow base 36 1 v l.length (z06 l)):Nums w v l:=by
 rcases h.2 with ⟨rfl,h0⟩ | ⟨g,cap,cur,rfl,hb,hg,r⟩
 ·rw [List.length_eq_zero_iff] at h0
  subst h0;exact ⟨none,0,rfl,fun h=>absurd h (by simp)⟩
 ·exact ⟨_,cap,rfl,fun h0=>⟨g,rfl,(Array.getElem?_eq_some_iff.1 hg).1,fun j hj=>z8d h j hj⟩⟩
structure Four (w:World) (B:Nat) (K:Nat->Prop) (v:Nat->Value) (n:Nat->Nat) (xs:Nat->List Value):Prop where
 row:∀ x,x<4->w.ownsRow B 36 1 (v x) (n x) (xs x)
 apart:∀ x y,x<4->y<4->x≠y->∀ g,(v x).ownBlock=some g->(v y).ownBlock≠some g
 off:∀ x,x<4->∀ g,(v x).ownBlock=some g->¬ K g
def UPD {α:Type} (f:Nat->α) (x:Nat) (a:α):Nat->α:=fun z=>if z=x then a else f z
theorem z2y {α:Type} (f:Nat->α) (x:Nat) (a:α):UPD f x a x=a:=by simp [UPD]
theorem z1i {α:Type} (f:Nat->α) {x z:Nat} (a:α) (h:z≠x):UPD f x a z=f z:=by simp [UPD,h]
theorem Four.alloc {w:World} {B:Nat} {K:Nat->Prop} {v:Nat->Value} {n:Nat->Nat} {xs:Nat->List Value} (h:Four w B K v n xs) (o:Obj):Four (w.alloc o) B K v n xs:=⟨fun x hx=>(h.row x hx).alloc o,h.apart,h.off⟩
theorem Four.more {w:World} {B:Nat} {K K':Nat->Prop} {v:Nat->Value} {n:Nat->Nat} {xs:Nat->List Value} (h:Four w B K v n xs) (hK:∀ g,g<w.heap.size->K' g->K g):Four w B K' v n xs:=
 ⟨h.row,h.apart,fun x hx g hg hk=>h.off x hx g hg (hK g ((h.row x hx).lt g hg).2 hk)⟩
theorem Four.below {w w':World} {B:Nat} {K:Nat->Prop} {v:Nat->Value} {n:Nat->Nat} {xs:Nat->List Value} (h:Four w B K v n xs) (hb:Below w.heap.size w w'):Four w' B K v n xs:=⟨fun x hx=>z1h (h.row x hx) hb,h.apart,h.off⟩
theorem z1r (W:World) (b j:Nat) (v:Value):W.grownBy (W.setCell ⟨b,j,none⟩ v) (some b):=
 ⟨rfl,rfl,rfl,(KeepsWalks.setCell W _ v).size,fun k _ hk=>Below.heap_setCell _ _ _ k (fun e=>hk (by rw [e]))⟩
theorem Four.other {w:World} {B:Nat} {K:Nat->Prop} {v:Nat->Value} {n:Nat->Nat} {xs:Nat->List Value} (h:Four w B K v n xs) {b:Nat} (hb:K b) (j:Nat) (u:Value):Four (w.setCell ⟨b,j,none⟩ u) B K v n xs:=
 ⟨fun x hx=>(h.row x hx).kept (z1r w b j u) (.inr fun e=>h.off x hx b e hb),h.apart,h.off⟩
theorem Four.store {w:World} {B:Nat} {K:Nat->Prop} {v:Nat->Value} {n:Nat->Nat} {xs:Nat->List Value} (h:Four w B K v n xs) {x g m cap:Nat} (hx:x<4) (hv:v x=.slice (some ⟨g,0,none⟩) m cap) (j:Nat) (u:Value):
  Four (w.setCell ⟨g,j,none⟩ u) B K v n (UPD xs x ((xs x).set j u)):=by
 refine ⟨fun z hz=>?_,h.apart,h.off⟩;by_cases e:z=x
 ·subst e
  have hr:=h.row z hz;rw [hv] at hr ⊢
  have hm:m=n z:=by
   rcases hr.2 with ⟨e,_⟩ | ⟨_,_,_,e,_⟩
   ·simp at e
   ·simp at e
    omega
  subst hm;rw [z2y];exact (hr.stored j u).1
 ·rw [z1i xs _ e]
  refine (h.row z hz).kept (z1r w g j u) (.inr fun e2=>?_);exact h.apart x z hx hz (fun e3=>e e3.symm) g (by rw [hv];rfl) e2
theorem z77 {w:World} {B n:Nat} {v:Value} {xs:List Value} (h:w.ownsRow B 36 1 v n xs):∃ a cap,v=.slice a n cap/\(0<n->∃ g,a=some ⟨g,0,none⟩/\g<w.heap.size/\B<=g):=by
 rcases h.2 with ⟨rfl,h0⟩ | ⟨g,cap,cur,rfl,hb,hg,r⟩
 ·subst h0
  exact ⟨none,0,rfl,fun h=>by omega⟩
 ·exact ⟨_,cap,rfl,fun _=>⟨g,rfl,(Array.getElem?_eq_some_iff.1 hg).1,hb⟩⟩
theorem z8e {ops:Array Oper} {rest:List Oper} {o:Oper} {a:Act} {Q:Exit->Act->World->Prop} (w:World) (hgd:o.guard=none) (s x:Operand)
   (ho:o.op=.call {callee:=.builtin .append,args:=#[s,x],argTypes:=#[23,23]})
   (base:Nat) (v:Value) (n:Nat) (xs:List Value) (hs:a.eval s=v) (hown:w.ownsRow base 36 1 v n xs)
   (b c:Nat) (y:Int) (hx:a.eval x=.slice (some ⟨b,0,none⟩) 1 c) (hc:w.cell? ⟨b,0,none⟩=some (.int .u64 y))
   (hb:n<=1000) (hbase:base<=w.heap.size)
   (h:∀ g cap w',w'.ownsRow base 36 1 (.slice (some ⟨g,0,none⟩) (n+1) cap) (n+1) (xs ++ [.int .u64 y])->w.grownBy w' v.ownBlock->(v.ownBlock=some g\/g=w.heap.size)->g<w'.heap.size->wpList Tryz.prog ops Q rest (a.put o.dst (.slice (some ⟨g,0,none⟩) (n+1) cap)) w'):wpList Tryz.prog ops Q (o :: rest) a w:=by
 obtain ⟨i,hi,hz,hs1,hby⟩:=info_parts z1u;refine wpList_append_lies w hgd s x 23 ho base 36 i (.int .u64 0) 1 8 Tryz.underlying23 hi hz hs1 hby rfl (by decide) v n xs hs hown ⟨b,0,none⟩ 1 c [.int .u64 y] hx rfl ?_ (fun u hu=>by simp at hu;subst hu;rfl) (by decide) (by simp only [maxLen];omega) (by omega) hbase w.heap.size rfl h;intro j u hj;cases j with
 | zero=>
   simp only [List.getElem?_cons_zero,Option.some.injEq] at hj;subst hj;exact hc
 | succ j=>simp at hj
theorem Has.grown {w w':World} {g:Nat} {c:Array Value} {t:TypeId} {row:Option Nat} (h:Has w g c t) (hg:w.grownBy w' row) (hne:row≠some g):Has w' g c t:=by
 obtain ⟨_,_,_,_,hk⟩:=hg;exact (hk g h.lt (fun e=>hne e.symm)).trans h
theorem Four.of {w:World} {B b1 b2 b3 b4:Nat} {K:Nat->Prop} {v0 v1 v2 v3:Value} {n m:Nat} {xs ys:List Value} (h0:w.ownsRow B 36 1 v0 n xs) (h1:w.ownsRow b1 36 1 v1 n xs) (h2:w.ownsRow b2 36 1 v2 m ys) (h3:w.ownsRow b3 36 1 v3 m ys)
  (l0:∀ k,v0.ownBlock=some k->k<b1) (l1:∀ k,v1.ownBlock=some k->k<b2) (l2:∀ k,v2.ownBlock=some k->k<b3) (l3:∀ k,v3.ownBlock=some k->k<b4) (o1:B<=b1) (o2:b1<=b2) (o3:b2<=b3) (o4:b3<=b4) (hK:∀ k,K k->b4<=k):
  ∃ (V:Nat->Value) (N:Nat->Nat) (XS:Nat->List Value),Four w B K V N XS/\V 0=v0/\V 1=v1/\V 2=v2/\V 3=v3/\(∀ x,x<4->N x=n\/N x=m):=by
 have key:∀ x,x<4->x=0\/x=1\/x=2\/x=3:=fun x hx=>by omega
 have bnd:∀ x,x<4->∀ k,((if x=0 then v0 else if x=1 then v1 else if x=2 then v2 else v3:Value)).ownBlock=some k->(if x=0 then B else if x=1 then b1 else if x=2 then b2 else b3)<=k/\k<(if x=0 then b1 else if x=1 then b2 else if x=2 then b3 else b4):=fun x hx k hk=>by
  rcases key x hx with rfl | rfl | rfl | rfl
  ·exact ⟨(h0.lt k hk).1,l0 k hk⟩
  ·exact ⟨(h1.lt k hk).1,l1 k hk⟩
  ·exact ⟨(h2.lt k hk).1,l2 k hk⟩
  ·exact ⟨(h3.lt k hk).1,l3 k hk⟩
 refine ⟨fun x=>if x=0 then v0 else if x=1 then v1 else if x=2 then v2 else v3,fun x=>if x<2 then n else m,fun x=>if x<2 then xs else ys,⟨fun x hx=>?_,fun x y hx hy hne k hk hk2=>?_,fun x hx k hk hkk=>?_⟩,rfl,rfl,rfl,rfl,fun x hx=>?_⟩
 ·rcases key x hx with rfl | rfl | rfl | rfl
  ·exact h0
  ·exact z1b h1 o1
  ·exact z1b h2 (Nat.le_trans o1 o2)
  ·exact z1b h3 (Nat.le_trans o1 (Nat.le_trans o2 o3))
 ·have hx':=bnd x hx k hk
  have hy':=bnd y hy k hk2;rcases key x hx with rfl | rfl | rfl | rfl <;> rcases key y hy with rfl | rfl | rfl | rfl <;> simp at hx' hy' hne <;> omega
 ·have hx':=bnd x hx k hk
  have:=hK k hkk;rcases key x hx with rfl | rfl | rfl | rfl <;> simp at hx' <;> omega
 ·rcases key x hx with rfl | rfl | rfl | rfl <;> simp
def Lie (w:World) (a:Option Addr) (l:List (Nat × Nat)):Prop:=0<l.length->∃ g o,a=some ⟨g,o,none⟩/\g<w.heap.size/\∀ (j h k:Nat),l[j]?=some (h,k)->w.cell? ⟨g,o+j*2,none⟩=some (.int .u8 (h:Int))/\w.cell? ⟨g,o+j*2+1,none⟩=some (.int .u64 (k:Int))
theorem Lie.below {w w':World} {a:Option Addr} {l:List (Nat × Nat)} (h:Lie w a l) (hb:Below w.heap.size w w'):Lie w' a l:=fun h0=>by
 obtain ⟨g,o,e,hg,hc⟩:=h h0;exact ⟨g,o,e,Nat.lt_of_lt_of_le hg hb.size,fun j x y he=>⟨(hb.cell (p:=⟨g,o+j*2,none⟩) hg).trans (hc j x y he).1,(hb.cell (p:=⟨g,o+j*2+1,none⟩) hg).trans (hc j x y he).2⟩⟩
theorem Lie.of {w:World} {a:Option Addr} {l:List (Nat × Nat)} (h:Spots w a l):Lie w a l:=fun h0=>by
 obtain ⟨g,e,hg,hc⟩:=h h0;refine ⟨g,0,e,hg,fun j x y he=>?_⟩;rw [Nat.zero_add];exact hc j x y he
theorem Tile.same {l:List (Nat × Nat)}:∀ {a b a' b':Nat},l≠[]->Tile a l b->Tile a' l b'->a=a'/\b=b':=by
 have key:∀ (l:List (Nat × Nat)) (a b b':Nat),Tile a l b->Tile a l b'->b=b':=by
  intro l;induction l with
  | nil=>intro a b b' h h';exact Eq.trans (Eq.symm h) h'
  | cons s l ih=>intro a b b' h h';exact ih _ _ _ h.2.2 h'.2.2
 intro a b a' b' h0 h h';cases l with
 | nil=>exact absurd rfl h0
 | cons s l=>exact ⟨h.2.1.symm.trans h'.2.1,key l _ _ _ h.2.2 h'.2.2⟩
theorem z6F {l:List (Nat × Nat)} {i h k:Nat} (e:l[i]?=some (h,k)):l=l.take i ++ (h,k) :: l.drop (i+1)/\l.take (i+1)=l.take i ++ [(h,k)]:=by
 obtain ⟨hi,e2⟩:=List.getElem?_eq_some_iff.1 e;refine ⟨?_,?_⟩
 ·rw [<-e2,List.getElem_cons_drop,List.take_append_drop]
 ·rw [List.take_add_one,e]
  rfl
theorem z9w (i n:Int) (hn:4611686018427387904<n) (w:World):Calls Tryz.prog 60 #[.int .u64 i,.int .u64 n] w fun e w'=>e=.returned (.tuple #[.slice none 0 0,.int .i64 30])/\w=w':=by
 go_enter Tryz.func60,Tryz.ntmps60;go_wp2;go_ret2;exact ⟨rfl,rfl⟩
theorem z8f (i n:Int) (hn:¬ 4611686018427387904<n) (hi:¬ i<n) (w:World):Calls Tryz.prog 60 #[.int .u64 i,.int .u64 n] w fun e w'=>e=.returned (.tuple #[.slice none 0 0,.int .i64 32])/\w=w':=by
 have c:=zeG i n (by omega);clear hi;go_enter Tryz.func60,Tryz.ntmps60;go_wp2_with fail
 refine (c _).mono ?_;rintro e w' ⟨rfl,rfl⟩;clear c;go_wp2;go_ret2;exact ⟨rfl,rfl⟩
theorem z78 {w:World} {v:Value} {g gp:Nat} (hne:v.ownBlock≠some gp) (hgp:gp<w.heap.size) (hat:v.ownBlock=some g\/g=w.heap.size):some g≠some gp:=by
 intro e;have e:g=gp:=by simpa using e
 subst e;rcases hat with h | h
 ·exact hne h
 ·omega
def z0l (A P:List Nat) (K j:Nat):List Nat:=A ++ (P.take j).eraseIdx K
theorem z5P (A P:List Nat) (K:Nat):z0l A P K 0=A:=by simp [z0l]
theorem z79 (A P:List Nat) (K:Nat):z0l A P K P.length=A ++ P.eraseIdx K:=by simp [z0l]
theorem z7a {P:List Nat} {j:Nat} (hj:j<P.length):P.take (j+1)=P.take j ++ [P.getD j 0]:=by
 rw [List.take_add_one,List.getD,List.getElem?_eq_getElem hj];rfl
theorem z5Q (A P:List Nat) (K:Nat) (hK:K<P.length):z0l A P K (K+1)=z0l A P K K:=by
 unfold z0l;rw [z7a hK,z5L,if_pos (by rw [List.length_take];omega)]
theorem z5R (A P:List Nat) (K j:Nat) (hj:j<P.length) (hK:j≠K):z0l A P K (j+1)=z0l A P K j ++ [P.getD j 0]:=by
 unfold z0l;rw [z7a hj,z5L,if_neg (by rw [List.length_take];omega),List.append_assoc]
theorem z4s (A P:List Nat) (K j:Nat):(z0l A P K j).length<=A.length+P.length:=by
 unfold z0l;rw [List.length_append];have h1:=List.length_eraseIdx_le (P.take j) K;have h2:=List.length_take_le' j P;omega
theorem zcT (i n:Nat) (hi:i<n) (hn:n<=4611686018427387904) (w:World) (hT:Tabled w) (h0:0<w.heap.size):Calls Tryz.prog 60 #[.int .u64 (i:Int),.int .u64 (n:Int)] w fun e w'=>
    ∃ v,e=.returned (.tuple #[v,.int .i64 0])/\w'.ownsRow w.heap.size 36 1 v (PLCS (PSP i n)).length (z06 (PLCS (PSP i n)))/\Below w.heap.size w w':=by
  have c1:=zgi i n hi hn w;have c2:=zgh i n hi hn;have hd:¬ (4611686018427387904:Int)<(n:Int):=by omega
  have C3:Aside (∀ W,Below w.heap.size w W->Calls Tryz.prog 82 #[.int .u64 (n:Int)] W fun e w'=>∃ g cap,e=.returned (.slice (some ⟨g,0,none⟩) (PC n) cap)/\w'.ownsRow W.heap.size 36 1 (.slice (some ⟨g,0,none⟩) (PC n) cap) (PC n) (z06 (z17 n))/\Below W.heap.size W w'):=
    fun W h=>zeC n hn W (hT.below h0 h) (Nat.lt_of_lt_of_le h0 h.size)
  have hP:=z2X (n:=n) (by omega);have hP6:=z1D 64 n (by omega);have hR6:=(z0R hi hn).2.1;have hKl:=z2Y hi hn;rw [z5M hn];have hWl:=z5I i (RISE i n);generalize WAY i (RISE i n)=A at *
  generalize z17 n=PK at *
  generalize RISE i n=R at *
  generalize KTH i n=K at *
  generalize PC n=P at *
  obtain ⟨X,hX⟩:∃ X,A ++ PK.eraseIdx K=X:=⟨_,rfl⟩
  rw [hX];obtain ⟨N,hN⟩:∃ N,X.length=N:=⟨_,rfl⟩
  rw [hN];have HA:Aside (PK.length=P/\P<=64/\R<=62/\K<P/\A.length=R):=⟨hP,hP6,hR6,hKl,hWl⟩
  have HX:Aside (z0l A PK K P=X/\X.length=N):=⟨by rw [<-hX,<-hP];exact z79 _ _ _,hN⟩
  clear hX hN;clear hP hP6 hR6 hKl hWl hT h0 hi hn;go_enter Tryz.func60,Tryz.ntmps60;go_wp2_with fail
  refine c1.mono ?_;rintro e w1 ⟨g,cap,rfl,hown,hg,hb⟩;clear c1;have R1:Aside (w1.ownsRow w.heap.size 36 1 (.slice (some ⟨g,0,none⟩) R cap) R (z06 A)/\Below w.heap.size w w1/\g<w1.heap.size):=⟨hown,hb,hg⟩
  clear hown hg hb;go_wp2_with fail
  refine (c2 _).mono ?_;rintro e w' ⟨rfl,rfl⟩;clear c2;go_wp2_with fail
  refine (C3.out _ R1.out.2.1).mono ?_;rintro e w2 ⟨gp,capp,rfl,hrow,hb2⟩
  have R2:Aside (w2.ownsRow w.heap.size 36 1 (.slice (some ⟨g,0,none⟩) R cap) (z0l A PK K 0).length (z06 (z0l A PK K 0))/\Below w.heap.size w w2/\some g≠some gp/\w2.ownsRow w1.heap.size 36 1 (.slice (some ⟨gp,0,none⟩) P capp) P (z06 PK)):=by
    obtain ⟨a1,a2,a3⟩:=R1.out;have hgp:=hrow.lt gp rfl;refine ⟨?_,a2.trans (hb2.mono a2.size),fun e=>?_,hrow⟩
    · rw [z5P,HA.out.2.2.2.2]
      exact z1h a1 hb2
    · have e:g=gp:=by simpa using e
      omega
  clear R1 hrow hb2 C3;go_wp2;go_loopg [6,31] P (fun q s6 s31 wx=>∃ j:Nat,s31=.int .i64 (j:Int)/\Aside (j+q=P/\wx.ownsRow w.heap.size 36 1 s6 (z0l A PK K j).length (z06 (z0l A PK K j))/\Below w.heap.size w wx/\s6.ownBlock≠some gp/\wx.ownsRow w1.heap.size 36 1 (.slice (some ⟨gp,0,none⟩) P capp) P (z06 PK)))
  case atStart=>exact ⟨0,rfl,by omega,R2.out.1,R2.out.2.1,R2.out.2.2.1,R2.out.2.2.2⟩
  case round=>
    obtain ⟨j,rfl,A1⟩:=hrel;clear R2;cases gk with
    | zero=>
      obtain ⟨hj,hown,hbel,hne,hrow⟩:=A1.out;obtain rfl:j=P:=by omega
      have hlt:¬ (j:Int)<(j:Int):=by omega
      have R:Aside (wr.ownsRow w.heap.size 36 1 u6 N (z06 X)/\Below w.heap.size w wr):=by
        rw [HX.out.1,HX.out.2] at hown;exact ⟨hown,hbel⟩
      clear hj hown hbel hne hrow A1 HA;go_wp2;go_ret2;exact ⟨_,rfl,R.out.1,R.out.2⟩
    | succ q=>
      obtain ⟨hj,hown,hbel,hne,hrow⟩:=A1.out;obtain ⟨a1,a2,a3,a4,a5⟩:=HA.out;have hlt:(j:Int)<(P:Int):=by omega
      have hc:wr.cell? ⟨gp,j,none⟩=some (.int .u64 ((PK.getD j 0:Nat):Int)):=by
        have hrow':=hrow;rw [<-a1] at hrow';exact z8d hrow' j (by omega)
      have e1:wrap64 ((j:Int)+1)=((j+1:Nat):Int):=by unfold wrap64;omega
      by_cases hk:j=K
      · subst hk
        have R:Aside (j+1+q=P/\wr.ownsRow w.heap.size 36 1 u6 (z0l A PK j (j+1)).length (z06 (z0l A PK j (j+1)))/\Below w.heap.size w wr/\u6.ownBlock≠some gp/\wr.ownsRow w1.heap.size 36 1 (.slice (some ⟨gp,0,none⟩) P capp) P (z06 PK)):=⟨by omega,by rw [z5Q _ _ _ (by omega)];exact hown,hbel,hne,hrow⟩
        clear hj hown hbel hne hrow a1 a2 a3 a4 a5 A1;generalize PK.getD j 0=y at hc;go_wp2;go_roundg q
        case measure=>omega
        case rel=>exact ⟨j+1,by first | rfl | (rw [e1]),R.out⟩
      · have hk':((j:Int) != (K:Int))=true:=by simp;omega
        have hnx:=z5R A PK K j (by omega) hk;have hll:=z4s A PK K j;generalize PK.getD j 0=y at *
        have R:Aside (j+1+q=P/\wr.ownsRow w.heap.size 36 1 u6 (z0l A PK K j).length (z06 (z0l A PK K j))/\Below w.heap.size w wr/\u6.ownBlock≠some gp/\wr.ownsRow w1.heap.size 36 1 (.slice (some ⟨gp,0,none⟩) P capp) P (z06 PK)/\z0l A PK K (j+1)=z0l A PK K j ++ [y]/\(z0l A PK K j).length<=1000):=⟨by omega,hown,hbel,hne,hrow,hnx,by omega⟩
        clear hj hown hbel hne hrow a1 a2 a3 a4 a5 A1 hnx hll;go_wp2_with (at_builtin;refine z8e _ rfl (.tmp 39) (.tmp 41) rfl w.heap.size u6 _ (z06 (z0l A PK K j)) rfl (R.out.2.1.alloc _) wr.heap.size 1 (y:Int) rfl (by rw [World.cell?_alloc_at _ _ _ _ rfl];rfl) R.out.2.2.2.2.2.2 (by have:=R.out.2.2.1.size;simp;omega) ?_;intro g' cap' w3 hown hgrow hat hg)
        have R3:Aside (j+1+q=P/\w3.ownsRow w.heap.size 36 1 (.slice (some ⟨g',0,none⟩) ((z0l A PK K j).length+1) cap') (z0l A PK K (j+1)).length (z06 (z0l A PK K (j+1)))/\Below w.heap.size w w3/\some g'≠some gp/\w3.ownsRow w1.heap.size 36 1 (.slice (some ⟨gp,0,none⟩) P capp) P (z06 PK)):=by
          obtain ⟨r1,r2,r3,r4,r5,r6,r7⟩:=R.out;have hgp:=r5.lt gp rfl;refine ⟨r1,?_,(r3.alloc r3.size _).grown hgrow (by have:=r3.size;simp;omega) (fun k e=>(r2.lt k e).1),z78 r4 (by simp;omega) hat,(r5.alloc _).kept hgrow (.inr fun e=>r4 e.symm)⟩;rw [r6,z1y,List.length_append];exact hown
        clear R hown hgrow hat hg hc;go_wp2;go_roundg q
        case measure=>omega
        case rel=>exact ⟨j+1,by first | rfl | (rw [e1]),R3.out⟩
end Go.Proofs.YtlbcnaenhghieaaGreatDoor
namespace Go.Proofs.YtlbcnaenhghieaaGreatDoor
open Go.RowKit
set_option maxRecDepth 100000
def Flat (w:World) (a:Option Addr) (n:Nat) (l:List Int):Prop:=
 l.length=32*n/\(0<n->∃ b o,a=some ⟨b,o,none⟩/\b<w.heap.size/\∀ j,j<32*n->w.cell? ⟨b,o+j,none⟩=some (.int .u8 (l.getD j 0)))/\∀ x∈l,0<=x/\x<=255
theorem Flat.below {w w':World} {a:Option Addr} {n:Nat} {l:List Int} (h:Flat w a n l) (hb:Below w.heap.size w w'):Flat w' a n l:=
 ⟨h.1,fun hn=>by
  obtain ⟨b,o,e,hl,hc⟩:=h.2.1 hn;exact ⟨b,o,e,Nat.lt_of_lt_of_le hl hb.size,fun i hi=>(hb.cell (by exact hl)).trans (hc i hi)⟩,h.2.2⟩
def HSH (l:List Int) (i:Nat):List Int:=(l.drop (32*i)).take 32
theorem z1O {l:List Int} {n i:Nat} (hl:l.length=32*n) (hi:i<n):(HSH l i).length=32:=by
 unfold HSH;rw [List.length_take,List.length_drop];omega
theorem zhl {l:List Int} {i j:Nat} (hj:j<32):(HSH l i).getD j 0=l.getD (32*i+j) 0:=by
 unfold HSH;rw [List.getD_eq_getElem?_getD,List.getElem?_take,if_pos hj,List.getElem?_drop,List.getD_eq_getElem?_getD]
theorem z8g (l:List Int) (i:Nat):l.take (32*(i+1))=l.take (32*i) ++ HSH l i:=by
 unfold HSH;rw [show 32*(i+1)=32*i+32 by omega,List.take_add]
theorem z55:(Tryz.prog.info? 25).map (·.size)=some 32:=by kernel_rfl
theorem z0g {h:List Int} (hl:h.length=32):(Tryz.prog.info? 25).map (·.size)=some (z00 h).length:=by
 rw [z55,show (z00 h).length=32 by simp [z00,hl]]
theorem z0V {h:List Int} (hl:h.length=32):(Tryz.prog.info? 25).map (·.size)=some (z00 h).toArray.size:=by
 rw [z55,show (z00 h).toArray.size=32 by simp [z00,hl]]
theorem z20 (h:List Int):(z00 h).toArray.all (·.oneCell')=true:=by
 rw [Array.all_eq_true_iff_forall_mem];intro v hv;exact z0Y h v (by simpa using hv)
theorem Flat.at {w:World} {b o n:Nat} {l:List Int} {i:Nat} (h:Flat w (some ⟨b,o,none⟩) n l) (hi:i<n):w.rangeAt b (o+i*32) (z00 (HSH l i)):=by
 intro j v hv;obtain ⟨b',o',e,_,hc⟩:=h.2.1 (by omega);simp only [Option.some.injEq,Addr.mk.injEq] at e;obtain ⟨rfl,rfl,_⟩:=e
 have hj:j<32:=by
  have:=(List.getElem?_eq_some_iff.1 hv).1;rw [show (z00 (HSH l i)).length=32 by simp [z00,z1O h.1 hi]] at this;exact this
 rw [z0K _ _ (by rw [z1O h.1 hi];exact hj),zhl hj] at hv;rw [show o+i*32+j=o+(32*i+j) by omega,hc _ (by omega)];exact hv
theorem zax (w:World) (x:Int):(w.alloc (.cells #[.int .u8 x] 5)).ownsRow w.heap.size 5 1 (.slice (some ⟨w.heap.size,0,none⟩) 1 1) 1 (z00 [x]):=
 World.ownsRow_lit w #[.int .u8 x] 1 (Nat.le_refl _) (by simp [maxLen]) rfl
def PLA (i n:Nat):Int × List Nat:=if 4611686018427387904<n then (30,[]) else if n<=i then (32,[]) else (0,PLCS (PSP i n))
theorem z6G (i n:Nat):(PLA i n).2.length<=188:=by
 unfold PLA;split
 ·simp
 ·split
  ·simp
  ·have:=zgc (i:=i) (n:=n) (by omega) (by omega)
   simp only [z3n];omega
theorem z4S (w:World):w.ownsRow w.heap.size 36 1 (.slice none 0 0) ([]:List Nat).length (z06 []):=World.ownsRow_nil _ _ _ _
theorem zhm (i n:Nat) (w:World) (hT:Tabled w) (h0:0<w.heap.size):Calls Tryz.prog 60 #[.int .u64 (i:Int),.int .u64 (n:Int)] w fun e w'=>
  ∃ v,e=.returned (.tuple #[v,.int .i64 (PLA i n).1])/\w'.ownsRow w.heap.size 36 1 v (PLA i n).2.length (z06 (PLA i n).2)/\Below w.heap.size w w':=by
 unfold PLA;split
 ·refine (z9w _ _ (by omega) w).mono ?_
  rintro e w' ⟨rfl,rfl⟩;exact ⟨_,rfl,z4S w,Below.refl _ _⟩
 ·split
  ·refine (z8f _ _ (by omega) (by omega) w).mono ?_
   rintro e w' ⟨rfl,rfl⟩;exact ⟨_,rfl,z4S w,Below.refl _ _⟩
  ·exact zcT i n (by omega) (by omega) w hT h0
end Go.Proofs.YtlbcnaenhghieaaGreatDoor
namespace Go.Proofs.YtlbcnaenhghieaaGreatDoor
open Go.RowKit
end Go.Proofs.YtlbcnaenhghieaaGreatDoor
