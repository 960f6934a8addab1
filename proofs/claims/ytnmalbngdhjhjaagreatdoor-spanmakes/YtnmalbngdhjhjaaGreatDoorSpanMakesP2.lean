/- Texts of SpanMakes, one behind the other: HashWordCalls, HashArr, HashSchedule. -/
import Derived.Test.YtnmalbngdhjhjaaGreatDoorProg
import Derived.WalkKit
import Derived.WalkLawsBesides
import Derived.Deep.WholeRow
import Derived.Deep.LoopGhost
import Derived.Laws.ResultCell
import Derived.Laws.Rows
import Derived.Laws.Tables
import Derived.Deep.RegionHeld3
import Derived.Deep.RegionWith
import Derived.Test.YtnmalbngdhjhjaaGreatDoorSpanMakesP1
namespace Go.Proofs.YtnmalbngdhjhjaaGreatDoor.HX
open Go.RowKit
theorem z4N (z:Int):IntKind.u32.wrap z=z % 2 ^ 32:=by rw [IntKind.wrap_u32];rfl
theorem z39 {a b:Nat} (ha:a<2 ^ 32) (hb:b<2 ^ 32):bits .xor .u32 (a:Int) (b:Int)=((a ^^^ b:Nat):Int):=u32_xor_nat a b ha hb
theorem z5O {a b:Nat} (ha:a<2 ^ 32) (hb:b<2 ^ 32):bits .and .u32 (a:Int) (b:Int)=((a &&& b:Nat):Int):=u32_and_nat a b ha hb
theorem or32 {a b:Nat} (ha:a<2 ^ 32) (hb:b<2 ^ 32):bits .or .u32 (a:Int) (b:Int)=((a ||| b:Nat):Int):=u32_or_nat a b ha hb
theorem zdA (x n s a b r:Int) (w:World) (hs:bits .and .u64 (IntKind.u64.wrap n) 31=s) (h0:0≤s) (h1:0≤IntKind.u64.wrap (32 - s)) (ha:IntKind.u32.wrap (x*2 ^ min s.toNat 32)=a) (hb:x / 2 ^ min (IntKind.u64.wrap (32 - s)).toNat 32=b) (hr:bits .or .u32 a b=r):
    Calls Tryz.prog 253 #[.int .u32 x,.int .i64 n] w fun e w'=>e=.returned (.int .u32 r)∧w=w':=by
  go_enter Tryz.func253,Tryz.ntmps253
  go_wp2
  go_ret
  exact ⟨rfl,rfl⟩
theorem zh7 (n:Nat) (h1:1≤n) (h2:n<32):bits .and .u64 (IntKind.u64.wrap (wrap64 (-(n:Int)))) 31=((32 - n:Nat):Int):=by
  have e:IntKind.u64.wrap (wrap64 (-(n:Int)))=((18446744073709551616 - n:Nat):Int):=by
    rw [z0a]
    unfold wrap64
    omega
  have f:(31:Int)=((31:Nat):Int):=rfl
  rw [e,f,z4h (by omega) (by decide)]
  congr 1
  have:(31:Nat)=2 ^ 5 - 1:=rfl
  rw [this,Nat.and_two_pow_sub_one_eq_mod]
  omega
theorem zfe (X n:Nat) (hX:X<2 ^ 32) (h1:1≤n) (h2:n<32) (w:World):Calls Tryz.prog 253 #[.int .u32 (X:Int),.int .i64 (wrap64 (-(n:Int)))] w fun e w'=>e=.returned (.int .u32 ((ROTR n X:Nat):Int))∧w=w':=by
  have e:IntKind.u64.wrap (32 - ((32 - n:Nat):Int))=(n:Int):=by rw [z0a];omega
  refine zdA X _ ((32 - n:Nat):Int) ((X*2 ^ (32 - n) % 2 ^ 32:Nat):Int) ((X / 2 ^ n:Nat):Int) _ w (zh7 n h1 h2) (by omega) (by rw [e];omega) ?_ ?_ ?_
  · rw [Int.toNat_natCast,show min (32 - n) 32=32 - n by omega,z4N]
    simp
  · rw [e,Int.toNat_natCast,show min n 32=n by omega,z3D]
  · rw [or32 (Nat.mod_lt _ (by decide)) (Nat.lt_of_le_of_lt (Nat.div_le_self _ _) hX),zgp (by omega) hX]
theorem z4m (x n r:Int) (w:World) (c:∀ w,Calls Tryz.prog 253 #[.int .u32 x,.int .i64 (wrap64 (-n))] w fun e w'=>e=.returned (.int .u32 r)∧w=w'):
    Calls Tryz.prog 250 #[.int .u32 x,.int .i64 n] w fun e w'=>e=.returned (.int .u32 r)∧w=w':=by
  go_enter Tryz.func250,Tryz.ntmps250
  go_wp2_with fail
  refine (c _).mono ?_
  rintro e w' ⟨rfl,rfl⟩
  go_wp2
  go_ret
  exact ⟨rfl,rfl⟩
theorem right_ok (X n:Nat) (hX:X<2 ^ 32) (h1:1≤n) (h2:n<32) (w:World):Calls Tryz.prog 250 #[.int .u32 (X:Int),.int .i64 (n:Int)] w fun e w'=>e=.returned (.int .u32 ((ROTR n X:Nat):Int))∧w=w':=
  z4m X n _ w (fun w=>zfe X n hX h1 h2 w)
theorem zff (x i j k a b c p r:Int) (w:World) (e1:bits .xor .u32 a b=p) (e2:bits .xor .u32 p c=r)
    (ca:∀ w,Calls Tryz.prog 250 #[.int .u32 x,.int .i64 i] w fun e w'=>e=.returned (.int .u32 a)∧w=w')
    (cb:∀ w,Calls Tryz.prog 250 #[.int .u32 x,.int .i64 j] w fun e w'=>e=.returned (.int .u32 b)∧w=w')
    (cc:∀ w,Calls Tryz.prog 250 #[.int .u32 x,.int .i64 k] w fun e w'=>e=.returned (.int .u32 c)∧w=w'):
    Calls Tryz.prog 234 #[.int .u32 x,.int .i64 i,.int .i64 j,.int .i64 k] w fun e w'=>e=.returned (.int .u32 r)∧w=w':=by
  go_enter Tryz.func234,Tryz.ntmps234
  go_wp2_with fail
  refine (ca _).mono ?_
  rintro e w' ⟨rfl,rfl⟩
  clear ca
  go_wp2_with fail
  refine (cb _).mono ?_
  rintro e w' ⟨rfl,rfl⟩
  clear cb
  go_wp2_with fail
  refine (cc _).mono ?_
  rintro e w' ⟨rfl,rfl⟩
  clear cc
  go_wp2
  go_ret
  exact ⟨rfl,rfl⟩
theorem zbX (X i j k:Nat) (hX:X<2 ^ 32) (hi:1≤i∧i<32) (hj:1≤j∧j<32) (hk:1≤k∧k<32) (w:World):Calls Tryz.prog 234 #[.int .u32 (X:Int),.int .i64 (i:Int),.int .i64 (j:Int),.int .i64 (k:Int)] w fun e w'=>e=.returned (.int .u32 ((MIX i j k X:Nat):Int))∧w=w':=
  zff X i j k _ _ _ _ _ w (z39 (z0p (by omega) hX) (z0p (by omega) hX)) (z39 (Nat.xor_lt_two_pow (z0p (by omega) hX) (z0p (by omega) hX)) (z0p (by omega) hX)) (fun w=>right_ok X i hX hi.1 hi.2 w) (fun w=>right_ok X j hX hj.1 hj.2 w) (fun w=>right_ok X k hX hk.1 hk.2 w)
theorem zdB {X:Nat} (hX:X<2 ^ 32):4294967295 ^^^ X=4294967295 - X:=by
  apply Nat.eq_of_testBit_eq
  intro i
  have e:(4294967295:Nat)=2 ^ 32 - 1:=rfl
  have e2:4294967295 - X=2 ^ 32 - (X+1):=by omega
  rw [e2,Nat.testBit_two_pow_sub_succ hX,Nat.testBit_xor,e,Nat.testBit_two_pow_sub_one]
  by_cases h:i<32
  · simp [h]
  · have:X.testBit i=false:=Nat.testBit_lt_two_pow (Nat.lt_of_lt_of_le hX (Nat.pow_le_pow_right (by decide) (by omega)))
    simp [h,this]
theorem zh8 {X:Nat} (hX:X<2 ^ 32):bits .xor .u32 IntKind.u32.max (X:Int)=((4294967295 - X:Nat):Int):=by
  rw [← zdB hX]
  exact z39 (a:=4294967295) (by decide) hX
theorem zaM (x y z p q s r:Int) (w:World) (e1:bits .and .u32 x y=p) (e2:bits .xor .u32 IntKind.u32.max x=q) (e3:bits .and .u32 q z=s) (e4:bits .xor .u32 p s=r):
    Calls Tryz.prog 235 #[.int .u32 x,.int .u32 y,.int .u32 z] w fun e w'=>e=.returned (.int .u32 r)∧w=w':=by
  go_enter Tryz.func235,Tryz.ntmps235
  go_wp2
  go_ret
  exact ⟨rfl,rfl⟩
theorem zbY (X Y Z:Nat) (hX:X<2 ^ 32) (hY:Y<2 ^ 32) (hZ:Z<2 ^ 32) (w:World):Calls Tryz.prog 235 #[.int .u32 (X:Int),.int .u32 (Y:Int),.int .u32 (Z:Int)] w fun e w'=>e=.returned (.int .u32 ((CHO X Y Z:Nat):Int))∧w=w':=
  zaM X Y Z _ ((4294967295 - X:Nat):Int) _ _ w (z5O hX hY) (zh8 hX) (z5O (by omega) hZ) (z39 (Nat.lt_of_le_of_lt Nat.and_le_left hX) (Nat.lt_of_le_of_lt Nat.and_le_right hZ))
theorem z7L (x y z p q s t r:Int) (w:World) (e1:bits .and .u32 x y=p) (e2:bits .and .u32 x z=q) (e3:bits .xor .u32 p q=s) (e4:bits .and .u32 y z=t) (e5:bits .xor .u32 s t=r):
    Calls Tryz.prog 236 #[.int .u32 x,.int .u32 y,.int .u32 z] w fun e w'=>e=.returned (.int .u32 r)∧w=w':=by
  go_enter Tryz.func236,Tryz.ntmps236
  go_wp2
  go_ret
  exact ⟨rfl,rfl⟩
theorem z8Z (X Y Z:Nat) (hX:X<2 ^ 32) (hY:Y<2 ^ 32) (hZ:Z<2 ^ 32) (w:World):Calls Tryz.prog 236 #[.int .u32 (X:Int),.int .u32 (Y:Int),.int .u32 (Z:Int)] w fun e w'=>e=.returned (.int .u32 ((MAJ X Y Z:Nat):Int))∧w=w':=
  z7L X Y Z _ _ _ _ _ w (z5O hX hY) (z5O hX hZ) (z39 (Nat.lt_of_le_of_lt Nat.and_le_left hX) (Nat.lt_of_le_of_lt Nat.and_le_left hX)) (z5O hY hZ) (z39 (Nat.xor_lt_two_pow (Nat.lt_of_le_of_lt Nat.and_le_left hX) (Nat.lt_of_le_of_lt Nat.and_le_left hX)) (Nat.lt_of_le_of_lt Nat.and_le_left hY))
theorem z0y {P:Program} {f:FuncId} {args:Array Value} {w:World} {n:Nat} {v:Value}
    (h:Calls P f args (w.drewN n) fun e w'=>e=.returned v∧w.drewN n=w'):Calls P f args (w.drewN n) fun e w''=>e=.returned v∧∃ m,w''=w.drewN m:=
  h.mono fun _ _ ⟨he,hm⟩=>⟨he,n,hm.symm⟩
theorem zbZ (x i j k c p r:Int) (R:Int→Int) (w:World) (hi:1≤i∧i<32) (hj:1≤j∧j<32) (hk:0≤k) (e1:bits .xor .u32 (R i) (R j)=p) (e2:bits .xor .u32 p c=r) (e3:x / 2 ^ min k.toNat 32=c)
    (ca:∀ n:Int,1≤n∧n<32→∀ w,Calls Tryz.prog 250 #[.int .u32 x,.int .i64 n] w fun e w'=>e=.returned (.int .u32 (R n))∧w=w'):
    Calls Tryz.prog 249 #[.int .u32 x,.int .i64 i,.int .i64 j,.int .i64 k] w fun e w'=>e=.returned (.int .u32 r)∧∃ m,w'=w.drewN m:=by
  go_enter Tryz.func249,Tryz.ntmps249
  go_wp2
  go_quiet ((go_at_call 250;exact z0y (ca _ (by assumption) _)))
  go_wp2
  go_ret
  exact ⟨rfl,_,rfl⟩
theorem z7M (X i j k:Nat) (hX:X<2 ^ 32) (hi:1≤i∧i<32) (hj:1≤j∧j<32) (hk:k<32) (w:World):Calls Tryz.prog 249 #[.int .u32 (X:Int),.int .i64 (i:Int),.int .i64 (j:Int),.int .i64 (k:Int)] w fun e w'=>e=.returned (.int .u32 ((z17 i j k X:Nat):Int))∧∃ m,w'=w.drewN m:=by
  refine zbZ X i j k ((X / 2 ^ k:Nat):Int) ((ROTR i X ^^^ ROTR j X:Nat):Int) _ (fun n=>((ROTR n.toNat X:Nat):Int)) w (by omega) (by omega) (by omega) ?_ ?_ ?_ ?_
  · simp only [Int.toNat_natCast]
    exact z39 (z0p (by omega) hX) (z0p (by omega) hX)
  · exact z39 (Nat.xor_lt_two_pow (z0p (by omega) hX) (z0p (by omega) hX)) (Nat.lt_of_le_of_lt (Nat.div_le_self _ _) hX)
  · rw [Int.toNat_natCast,show min k 32=k by omega,z3D]
  · intro n hn w
    obtain ⟨N,rfl⟩:∃ N:Nat,n=(N:Int):=⟨n.toNat,by omega⟩
    exact right_ok X N hX (by omega) (by omega) w
theorem zdC (b o n c:Nat) (v0 v1 v2 v3 x0 x1 x2 y1 y2 r:Int) (w:World) (hn:4≤n) (c0:w.cell? ⟨b,o,none⟩=some (.int .u8 v0)) (c1:w.cell? ⟨b,o+1,none⟩=some (.int .u8 v1)) (c2:w.cell? ⟨b,o+2,none⟩=some (.int .u8 v2)) (c3:w.cell? ⟨b,o+3,none⟩=some (.int .u8 v3))
    (e0:v0 % 4294967296*16777216 % 4294967296=x0) (e1:v1 % 4294967296*65536 % 4294967296=x1) (e2:v2 % 4294967296*256 % 4294967296=x2) (f1:bits .or .u32 x0 x1=y1) (f2:bits .or .u32 y1 x2=y2) (f3:bits .or .u32 y2 (v3 % 4294967296)=r):
    Calls Tryz.prog 248 #[.slice (some ⟨b,o,none⟩) n c] w fun e w'=>e=.returned (.int .u32 r)∧∃ m,w'=w.drewN m:=by
  have h0:(0:Int)<(n:Int):=by omega
  have h1:(1:Int)<(n:Int):=by omega
  have h2:(2:Int)<(n:Int):=by omega
  have h3:(3:Int)<(n:Int):=by omega
  clear hn
  go_enter Tryz.func248,Tryz.ntmps248
  go_wp2
  go_quiet (fail)
  go_wp2
  go_ret
  exact ⟨rfl,_,rfl⟩
theorem zaN {a b k:Nat} (ha:a % 2 ^ k=0) (hb:b<2 ^ k) (h1:a<2 ^ 32) (h2:b<2 ^ 32):bits .or .u32 (a:Int) (b:Int)=((a+b:Nat):Int):=by
  rw [or32 h1 h2,nat_join k a b ha hb]
theorem z9X (b o n c:Nat) (s:Nat→Nat) (h:∀ i,s i<256) (i:Nat) (w:World) (hn:4≤n) (hc:∀ j,j<4→w.cell? ⟨b,o+j,none⟩=some (.int .u8 (s (i+j):Int))):
    Calls Tryz.prog 248 #[.slice (some ⟨b,o,none⟩) n c] w fun e w'=>e=.returned (.int .u32 ((z0c s i:Nat):Int))∧∃ m,w'=w.drewN m:=by
  have h0:=h i;have h1:=h (i+1);have h2:=h (i+2);have h3:=h (i+3)
  have w3:((s (i+3):Nat):Int) % 4294967296=((s (i+3):Nat):Int):=by omega
  refine zdC b o n c (s i:Nat) (s (i+1):Nat) (s (i+2):Nat) (s (i+3):Nat) ((s i*16777216:Nat):Int) ((s (i+1)*65536:Nat):Int) ((s (i+2)*256:Nat):Int) _ _ _ w hn (hc 0 (by omega)) (hc 1 (by omega)) (hc 2 (by omega)) (hc 3 (by omega)) ?_ ?_ ?_ (zaN (k:=24) ?_ ?_ ?_ ?_) (zaN (k:=16) ?_ ?_ ?_ ?_) (by rw [w3];exact zaN (k:=8) (by omega) (by omega) (by omega) (by omega))
  all_goals omega
end Go.Proofs.YtnmalbngdhjhjaaGreatDoor.HX

namespace Go.Proofs.YtnmalbngdhjhjaaGreatDoor.HX
open Go.RowKit
def UARR (k:IntKind) (n:Nat) (f:Nat→Nat):Array Value:=((List.range n).map fun i=>Value.int k ((f i:Nat):Int)).toArray
theorem z03 (k:IntKind) (n:Nat) (f:Nat→Nat):(UARR k n f).size=n:=by simp [UARR]
theorem z0f (k:IntKind) (n:Nat) (f:Nat→Nat) (i:Nat) (h:i<n):(UARR k n f)[i]?=some (.int k ((f i:Nat):Int)):=by simp [UARR,h]
theorem z0l {k:IntKind} {n:Nat} {f g:Nat→Nat} (h:∀ i,i<n→f i=g i):UARR k n f=UARR k n g:=by
  unfold UARR
  congr 1
  apply List.map_congr_left
  intro i hi
  rw [h i (by simpa using hi)]
theorem z1P (k:IntKind) (n:Nat) (f:Nat→Nat) (i:Nat) (v:Nat):(UARR k n f).setIfInBounds i (.int k (v:Int))=UARR k n fun j=>if j=i then v else f j:=by
  apply Array.ext_getElem?
  intro j
  by_cases hj:j<n
  · rw [z0f _ _ _ j hj,Array.getElem?_setIfInBounds]
    by_cases h:i=j
    · subst h
      simp [z03,hj]
    · have h':¬ j=i:=fun e=>h e.symm
      simp [h,h',z0f _ _ _ j hj]
  · rw [Array.getElem?_eq_none (by simp [z03];omega),Array.getElem?_eq_none (by simp [z03];omega)]
theorem z0j (k:IntKind) (n:Nat) (f:Nat→Nat):(UARR k n f).all (·.oneCell')=true:=by
  apply Array.all_eq_true_iff_forall_mem.2
  intro v hv
  simp [UARR] at hv
  obtain ⟨i,_,rfl⟩:=hv
  rfl
theorem z0H:(Tryz.prog.info? 35).map (·.size)=some 32:=by kernel_rfl
theorem z3G:(Tryz.prog.info? 198).map (·.size)=some 64:=by kernel_rfl
theorem z9Y:(Tryz.prog.info? 264).map (·.size)=some 8:=by kernel_rfl
theorem zdD:(Tryz.prog.info? 266).map (·.size)=some 64:=by kernel_rfl
theorem z04 (f:Nat→Nat):(Tryz.prog.info? 35).map (·.size)=some (UARR .u8 32 f).size:=by rw [z03];exact z0H
theorem z5P (f:Nat→Nat):(Tryz.prog.info? 198).map (·.size)=some (UARR .u8 64 f).size:=by rw [z03];exact z3G
theorem z2H (f:Nat→Nat):(Tryz.prog.info? 264).map (·.size)=some (UARR .u32 8 f).size:=by rw [z03];exact z9Y
theorem z3H (f:Nat→Nat):(Tryz.prog.info? 266).map (·.size)=some (UARR .u32 64 f).size:=by rw [z03];exact zdD
def Has (w:World) (g:Nat) (c:Array Value) (t:TypeId):Prop:=w.heap[g]?=some (.cells c t)
theorem Has.cell {w:World} {g:Nat} {c:Array Value} {t:TypeId} (h:Has w g c t) (i:Nat):w.cell? ⟨g,i,none⟩=c[i]?:=cell_of_row w g i c t _ h
theorem Has.lt {w:World} {g:Nat} {c:Array Value} {t:TypeId} (h:Has w g c t):g<w.heap.size:=(Array.getElem?_eq_some_iff.1 h).1
theorem Has.frozen {w:World} {g:Nat} {c:Array Value} {t:TypeId} (h:Has w g c t) (i:Nat):w.frozen? ⟨g,i,none⟩=false:=by
  have e:w.heap[g]?=some (.cells c t):=h
  simp [World.frozen?,e]
theorem Has.set {w:World} {g:Nat} {c:Array Value} {t:TypeId} (h:Has w g c t) (i:Nat) (v:Value):Has (w.setCell ⟨g,i,none⟩ v) g (c.setIfInBounds i v) t:=by
  have e:w.heap[g]?=some (.cells c t):=h
  unfold Has
  rw [setCell_eq_setRow w g i c t _ v e,setRow_heap w g c _ t _ e]
theorem Has.other {w:World} {g:Nat} {c:Array Value} {t:TypeId} (h:Has w g c t) {a:Addr} (ha:g≠a.block) (v:Value):Has (w.setCell a v) g c t:=by
  have e:w.heap[g]?=some (.cells c t):=h
  unfold Has
  rw [Below.heap_setCell w a v g ha,e]
theorem Has.below {B:Nat} {w w':World} {g:Nat} {c:Array Value} {t:TypeId} (h:Has w g c t) (hb:Below B w w') (hg:g<B):Has w' g c t:=(hb.block g hg).trans h
theorem Has.keep {w w':World} {g:Nat} {c:Array Value} {t:TypeId} (h:Has w g c t) (hb:Below w.heap.size w w'):Has w' g c t:=h.below hb h.lt
theorem Has.alloc {w:World} {g:Nat} {c:Array Value} {t:TypeId} (h:Has w g c t) (o:Obj):Has (w.alloc o) g c t:=by
  have e:w.heap[g]?=some (.cells c t):=h
  unfold Has
  rw [Below.heap_alloc w o g h.lt,e]
theorem Has.new (w:World) (c:Array Value) (t:TypeId):Has (w.alloc (.cells c t)) w.heap.size c t:=heap_alloc_new w _
theorem Has.at (w:World) (c:Array Value) (t:TypeId) {g:Nat} (hg:g=w.heap.size):Has (w.alloc (.cells c t)) g c t:=by subst hg;exact Has.new w c t
theorem Has.row {w:World} {g:Nat} {c:Array Value} {t:TypeId} (h:Has w g c t) (c':Array Value):Has (w.setRow g c') g c' t:=setRow_heap w g c c' t _ h
theorem Has.drewN {w:World} {g:Nat} {c:Array Value} {t:TypeId} (h:Has w g c t) (n:Nat):Has (w.drewN n) g c t:=h
theorem z1H {w:World} {b i j:Nat} (h:i≠j) (v:Value):(w.setCell ⟨b,i,none⟩ v).cell? ⟨b,j,none⟩=w.cell? ⟨b,j,none⟩:=World.cell?_setCell_other w _ _ v (fun e=>h (congrArg Addr.off e))
theorem z0d {B g:Nat} {w0 w:World} (hb:Below B w0 w) (hBg:B≤g) (cs:Array Value):Below B w0 (w.setRow g cs):=
  ⟨hb.os,hb.tape,hb.output,by have:=hb.size;simpa [World.setRow] using this,fun k hk=>by rw [setRow_other w g k cs (by omega)];exact hb.block k hk⟩
theorem z5Q (b i:Nat) (h:i<32) (l:Int) (hl:l=(i:Int)) (w:World):(Instr.sliceAt 35 (.pointer (some ⟨b,0,none⟩)) (some (.int .i64 l)) none none).run Tryz.prog w=.ok (.slice (some ⟨b,i,none⟩) (32 - i) (32 - i)) w:=by
  subst hl
  have hn:Tryz.prog.arrayLen 35=32:=by kernel_rfl
  rw [run_sliceAt_array_l w 35 ⟨b,0,none⟩ (by kernel_rfl) .i64 (i:Int) (by omega) (by rw [hn];omega),hn]
  have he:Tryz.prog.elem 35=5:=by kernel_rfl
  obtain ⟨i8,hi,h8⟩:=Option.map_eq_some_iff.1 z0M
  simp only [Prod.mk.injEq] at h8
  rw [he]
  simp [sizeOf,typeInfo,hi,h8.2.1,slicedAt]
  rw [if_neg (by omega)]
  simp [Addr.add]
  omega
theorem z90 (b i:Nat) (h:i<64) (l:Int) (hl:l=(i:Int)) (w:World):(Instr.sliceAt 198 (.pointer (some ⟨b,0,none⟩)) (some (.int .i64 l)) none none).run Tryz.prog w=.ok (.slice (some ⟨b,i,none⟩) (64 - i) (64 - i)) w:=by
  subst hl
  have hn:Tryz.prog.arrayLen 198=64:=by kernel_rfl
  rw [run_sliceAt_array_l w 198 ⟨b,0,none⟩ (by kernel_rfl) .i64 (i:Int) (by omega) (by rw [hn];omega),hn]
  have he:Tryz.prog.elem 198=5:=by kernel_rfl
  obtain ⟨i8,hi,h8⟩:=Option.map_eq_some_iff.1 z0M
  simp only [Prod.mk.injEq] at h8
  rw [he]
  simp [sizeOf,typeInfo,hi,h8.2.1,slicedAt]
  rw [if_neg (by omega)]
  simp [Addr.add]
  omega
theorem z3I {k:IntKind} {n i:Nat} {F f:Nat→Nat} (hf:∀ j,f j=if j<i then F j else 0) (v:Nat) (hv:v=F i):(UARR k n f).setIfInBounds i (.int k (v:Int))=UARR k n fun j=>if j<i+1 then F j else 0:=by
  rw [z1P]
  apply z0l
  intro j _
  by_cases e:j=i
  · subst e
    simp [hv]
  · rw [if_neg e,hf j]
    by_cases e2:j<i
    · rw [if_pos e2,if_pos (by omega)]
    · rw [if_neg e2,if_neg (by omega)]
theorem zdE (s:Nat→Nat) (h:∀ i,s i<256) (w:World):Calls Tryz.prog 232 #[.agg (UARR .u8 32 s)] w fun e w'=>e=.returned (.agg (UARR .u32 8 fun i=>z0c s (4*i)))∧Below w.heap.size w w':=by
  have hz:(#[.int .u32 0,.int .u32 0,.int .u32 0,.int .u32 0,.int .u32 0,.int .u32 0,.int .u32 0,.int .u32 0]:Array Value)=UARR .u32 8 fun _=>0:=rfl
  have H:Aside (∀ i,s i<256):=h
  clear h
  go_enter Tryz.func232,Tryz.ntmps232
  go_wp2
  go_loopg [5] 8 (fun g s5 wx=>∃ i:Nat,i+g=8∧s5=.int .i64 i∧Aside (Below w.heap.size w wx∧Has wx w.heap.size (UARR .u8 32 s) 35∧Has wx (w.heap.size+1) (UARR .u32 8 fun _=>0) 264∧Has wx (w.heap.size+2) (UARR .u32 8 fun j=>if j<i then z0c s (4*j) else 0) 264))
  case atStart=>
    refine ⟨0,by omega,rfl,?_⟩
    have e:(UARR .u32 8 fun j=>if j<0 then z0c s (4*j) else 0)=UARR .u32 8 fun _=>0:=z0l fun j _=>if_neg (by omega)
    rw [e]
    exact ⟨(((Below.refl _ _).alloc (Nat.le_refl _) _).alloc (by simp) _).alloc (by simp;omega) _,((Has.new w _ _).alloc _).alloc _,(Has.at _ _ _ (by simp)).alloc _,Has.at _ _ _ (by simp)⟩
  case round=>
    obtain ⟨i,hig,rfl,A⟩:=hrel
    cases gk with
    | zero=>
      obtain rfl:i=8:=by omega
      obtain ⟨hb,h0,h1,h2⟩:=A.out
      go_wp2_with (first
        | (refine wpList_load_row rfl 264 _ rfl _ rfl _ _ (0,0) _ h2 Tryz.underlying264 rfl (z2H _) ?_)
        | (refine wpList_store_row rfl 264 _ _ rfl _ _ rfl rfl _ _ h1 (z2H _) (by rw [z03,z03]) (z0j _ _ _) ?_))
      have e:(UARR .u32 8 fun j=>if j<8 then z0c s (4*j) else 0)=UARR .u32 8 fun i=>z0c s (4*i):=z0l fun j hj=>by rw [if_pos hj]
      rw [e]
      refine bodyPost_ret (v:=.agg (UARR .u32 8 fun i=>z0c s (4*i))) ?_ rfl ⟨rfl,z0d hb (by omega) _⟩
      exact results_cell_row rfl _ _ (w.heap.size+1) 264 _ (0,0) _ rfl (h1.row _) Tryz.underlying264 rfl (z2H _)
    | succ g=>
      obtain ⟨hb,h0,h1,h2⟩:=A.out
      have hi:(i:Int)<8:=by omega
      have hsl:=z5Q w.heap.size (4*i) (by omega) (4*(i:Int)) (by omega)
      have hw:=z9X w.heap.size (4*i) (32 - 4*i) (32 - 4*i) s H.out (4*i) wr (by omega) (fun j hj=>by rw [h0.cell,z0f _ _ _ _ (by omega)])
      have hc:wr.cell? ⟨w.heap.size+1+1,i,none⟩=some (.int .u32 0):=by rw [h2.cell,z0f _ _ _ _ (by omega),if_neg (by omega)];rfl
      have hf:wr.frozen? ⟨w.heap.size+1+1,i,none⟩=false:=h2.frozen i
      generalize hv:z0c s (4*i)=v at hw
      have R:Aside (Below w.heap.size w wr∧Has wr w.heap.size (UARR .u8 32 s) 35∧Has wr (w.heap.size+1) (UARR .u32 8 fun _=>0) 264∧Has wr (w.heap.size+2) (UARR .u32 8 fun j=>if j<i then z0c s (4*j) else 0) 264∧z0c s (4*i)=v):=⟨hb,h0,h1,h2,hv⟩
      clear hb h0 h1 h2 hv A
      go_wp2_with fail
      refine hw.mono ?_
      rintro e w' ⟨rfl,m,rfl⟩
      clear hw
      go_wp2
      go_roundg g
      case measure=>omega
      case rel=>
        obtain ⟨hb,h0,h1,h2,hv⟩:=R.out
        refine ⟨i+1,by omega,by go_num,?_⟩
        rw [← z3I (F:=fun j=>z0c s (4*j)) (fun j=>rfl) v hv.symm]
        exact ⟨(below_drewN hb m).setCell (by show _≤w.heap.size+1+1;omega) _,(h0.drewN m).other (by show w.heap.size≠w.heap.size+1+1;omega) _,(h1.drewN m).other (by show w.heap.size+1≠w.heap.size+1+1;omega) _,(h2.drewN m).set i _⟩
end Go.Proofs.YtnmalbngdhjhjaaGreatDoor.HX

namespace Go.Proofs.YtnmalbngdhjhjaaGreatDoor.HX
open Go.RowKit
theorem zc0:(#[.int .u32 0,.int .u32 0,.int .u32 0,.int .u32 0,.int .u32 0,.int .u32 0,.int .u32 0,.int .u32 0,.int .u32 0,.int .u32 0,.int .u32 0,.int .u32 0,.int .u32 0,.int .u32 0,.int .u32 0,.int .u32 0,.int .u32 0,.int .u32 0,.int .u32 0,.int .u32 0,.int .u32 0,.int .u32 0,.int .u32 0,.int .u32 0,.int .u32 0,.int .u32 0,.int .u32 0,.int .u32 0,.int .u32 0,.int .u32 0,.int .u32 0,.int .u32 0,.int .u32 0,.int .u32 0,.int .u32 0,.int .u32 0,.int .u32 0,.int .u32 0,.int .u32 0,.int .u32 0,.int .u32 0,.int .u32 0,.int .u32 0,.int .u32 0,.int .u32 0,.int .u32 0,.int .u32 0,.int .u32 0,.int .u32 0,.int .u32 0,.int .u32 0,.int .u32 0,.int .u32 0,.int .u32 0,.int .u32 0,.int .u32 0,.int .u32 0,.int .u32 0,.int .u32 0,.int .u32 0,.int .u32 0,.int .u32 0,.int .u32 0,.int .u32 0]:Array Value)=UARR .u32 64 fun _=>0:=rfl
theorem zc1 (b:Nat→Nat):(UARR .u32 64 fun j=>if j<16 then z0c b (4*j) else 0)=UARR .u32 64 (SCHL b 0):=z0l fun j _=>by rw [SCHL]
theorem z91 (s:Nat→Nat) (h:∀ i,s i<256) (w:World):Calls Tryz.prog 233 #[.agg (UARR .u8 64 s)] w fun e w'=>e=.returned (.agg (UARR .u32 64 (SCH s)))∧Below w.heap.size w w':=by
  have hz:=zc0
  have H:Aside (∀ i,s i<256):=h
  clear h
  go_enter Tryz.func233,Tryz.ntmps233
  go_wp2
  go_loopg [6] 16 (fun g s5 wx=>∃ i:Nat,i+g=16∧s5=.int .i64 i∧Aside (Below w.heap.size w wx∧Has wx w.heap.size (UARR .u8 64 s) 198∧Has wx (w.heap.size+1) (UARR .u32 64 fun _=>0) 266∧Has wx (w.heap.size+2) (UARR .u32 64 fun j=>if j<i then z0c s (4*j) else 0) 266))
  case atStart=>
    refine ⟨0,by omega,rfl,?_⟩
    have e:(UARR .u32 64 fun j=>if j<0 then z0c s (4*j) else 0)=UARR .u32 64 fun _=>0:=z0l fun j _=>if_neg (by omega)
    rw [e]
    exact ⟨(((Below.refl _ _).alloc (Nat.le_refl _) _).alloc (by simp) _).alloc (by simp;omega) _,((Has.new w _ _).alloc _).alloc _,(Has.at _ _ _ (by simp)).alloc _,Has.at _ _ _ (by simp)⟩
  case round=>
    obtain ⟨i,hig,rfl,A⟩:=hrel
    cases gk with
    | zero=>
      obtain rfl:i=16:=by omega
      rw [zc1] at A
      clear hz
      go_wp2
      go_loopg [5] 48 (fun g s5 wx=>∃ k:Nat,k+g=48∧s5=.int .i64 ((16+k:Nat):Int)∧Aside (Below w.heap.size w wx∧Has wx (w.heap.size+1) (UARR .u32 64 fun _=>0) 266∧Has wx (w.heap.size+2) (UARR .u32 64 (SCHL s k)) 266))
      case atStart=>exact ⟨0,by omega,rfl,A.out.1,A.out.2.2.1,A.out.2.2.2⟩
      case round=>
        obtain ⟨k,hkg,rfl,A⟩:=hrel
        cases gk with
        | zero=>
          obtain rfl:k=48:=by omega
          obtain ⟨hb,h1,h2⟩:=A.out
          go_wp2_with (first
            | (refine wpList_load_row rfl 266 _ rfl _ rfl _ _ (0,0) _ h2 Tryz.underlying266 rfl (z3H _) ?_)
            | (refine wpList_store_row rfl 266 _ _ rfl _ _ rfl rfl _ _ h1 (z3H _) (by rw [z03,z03]) (z0j _ _ _) ?_))
          refine bodyPost_ret (v:=.agg (UARR .u32 64 (SCH s))) ?_ rfl ⟨rfl,z0d hb (by omega) _⟩
          exact results_cell_row rfl _ _ (w.heap.size+1) 266 _ (0,0) _ rfl (h1.row _) Tryz.underlying266 rfl (z3H _)
        | succ g=>
          obtain ⟨hb,h1,h2⟩:=A.out
          have hlt:(((16+k:Nat):Int))<64:=by omega
          have ca:wr.cell? ⟨w.heap.size+1+1,14+k,none⟩=some (.int .u32 (SCHL s k (14+k):Nat)):=by rw [h2.cell,z0f _ _ _ _ (by omega)]
          have cb:wr.cell? ⟨w.heap.size+1+1,9+k,none⟩=some (.int .u32 (SCHL s k (9+k):Nat)):=by rw [h2.cell,z0f _ _ _ _ (by omega)]
          have cc:wr.cell? ⟨w.heap.size+1+1,1+k,none⟩=some (.int .u32 (SCHL s k (1+k):Nat)):=by rw [h2.cell,z0f _ _ _ _ (by omega)]
          have cd:wr.cell? ⟨w.heap.size+1+1,k,none⟩=some (.int .u32 (SCHL s k k:Nat)):=by rw [h2.cell,z0f _ _ _ _ (by omega)]
          have ct:wr.cell? ⟨w.heap.size+1+1,16+k,none⟩=some (.int .u32 (SCHL s k (16+k):Nat)):=by rw [h2.cell,z0f _ _ _ _ (by omega)]
          have hf:wr.frozen? ⟨w.heap.size+1+1,16+k,none⟩=false:=h2.frozen _
          have la:=z1T H.out k (14+k)
          have lc:=z1T H.out k (1+k)
          have c1:∀ w,Calls Tryz.prog 249 #[.int .u32 (SCHL s k (14+k):Nat),.int .i64 17,.int .i64 19,.int .i64 10] w fun e w'=>e=.returned (.int .u32 (z17 17 19 10 (SCHL s k (14+k)):Nat))∧∃ m,w'=w.drewN m:=fun w=>z7M _ 17 19 10 la (by decide) (by decide) (by decide) w
          have c2:∀ w,Calls Tryz.prog 249 #[.int .u32 (SCHL s k (1+k):Nat),.int .i64 7,.int .i64 18,.int .i64 3] w fun e w'=>e=.returned (.int .u32 (z17 7 18 3 (SCHL s k (1+k)):Nat))∧∃ m,w'=w.drewN m:=fun w=>z7M _ 7 18 3 lc (by decide) (by decide) (by decide) w
          have R:Aside (Below w.heap.size w wr∧Has wr (w.heap.size+1) (UARR .u32 64 fun _=>0) 266∧Has wr (w.heap.size+2) (UARR .u32 64 (SCHL s k)) 266):=⟨hb,h1,h2⟩
          have V:Aside ((z17 17 19 10 (SCHL s k (14+k))+SCHL s k (9+k)+z17 7 18 3 (SCHL s k (1+k))+SCHL s k k) % 4294967296=SCHL s (k+1) (16+k)):=by rw [Aside,SCHL,if_pos rfl]
          generalize z17 17 19 10 (SCHL s k (14+k))=p at *
          generalize z17 7 18 3 (SCHL s k (1+k))=q at *
          generalize SCHL s k (14+k)=va at *
          generalize SCHL s k (9+k)=vb at *
          generalize SCHL s k (1+k)=vc at *
          generalize SCHL s k (16+k)=vt at *
          generalize hvd:SCHL s k k=vd at *
          obtain ⟨T,hT⟩:∃ T,T=16+k:=⟨_,rfl⟩
          obtain ⟨a,ha⟩:∃ a,a=14+k:=⟨_,rfl⟩
          obtain ⟨b,hbb⟩:∃ b,b=9+k:=⟨_,rfl⟩
          obtain ⟨c,hcc⟩:∃ c,c=1+k:=⟨_,rfl⟩
          have E:Aside (T=16+k∧k+(g+1)=48):=⟨hT,hkg⟩
          rw [← hT] at hlt ct hf ⊢
          rw [← ha] at ca
          rw [← hbb] at cb
          rw [← hcc] at cc
          have e1:(T:Int) - 2=(a:Int):=by omega
          have e2:(T:Int) - 7=(b:Int):=by omega
          have e3:(T:Int) - 15=(c:Int):=by omega
          have e4:(T:Int) - 16=(k:Int):=by omega
          have f1:IntKind.i64.wrap (a:Int)=(a:Int):=by rw [IntKind.wrap_i64];omega
          have f2:IntKind.i64.wrap (b:Int)=(b:Int):=by rw [IntKind.wrap_i64];omega
          have f3:IntKind.i64.wrap (c:Int)=(c:Int):=by rw [IntKind.wrap_i64];omega
          have f4:IntKind.i64.wrap (k:Int)=(k:Int):=by rw [IntKind.wrap_i64];omega
          have g1:(a:Int)<64:=by omega
          have g2:(b:Int)<64:=by omega
          have g3:(c:Int)<64:=by omega
          have g4:(k:Int)<64:=by omega
          have n1:¬ T=a∧¬ a=T:=by omega
          have n2:¬ T=b∧¬ b=T:=by omega
          have n3:¬ T=c∧¬ c=T:=by omega
          have n4:¬ T=k∧¬ k=T:=by omega
          clear hb h1 h2 la lc hvd A hkg hT ha hbb hcc
          go_wp2_with fail
          go_region_held3 (fun W:World=>W.cell? ⟨w.heap.size+1+1,a,none⟩=some (.int .u32 (va:Int))∧W.cell? ⟨w.heap.size+1+1,b,none⟩=some (.int .u32 (vb:Int))∧W.cell? ⟨w.heap.size+1+1,c,none⟩=some (.int .u32 (vc:Int))∧W.cell? ⟨w.heap.size+1+1,k,none⟩=some (.int .u32 (vd:Int))) (first | go_keep | (refine ⟨?_,?_,?_,?_⟩ <;> (rw [z1H (by omega)];simp only [World.cell?_drewN];assumption))) (first | (go_at_call_of 249 (va:Int);refine (c1 _).mono ?_;rintro e w5 ⟨rfl,m1,rfl⟩) | (go_at_call_of 249 (vc:Int);refine (c2 _).mono ?_;rintro e w6 ⟨rfl,m2,rfl⟩))
          have hx:IntKind.u32.wrap (IntKind.u32.wrap (IntKind.u32.wrap ((p:Int)+(vb:Int))+(q:Int))+(vd:Int))=((SCHL s (k+1) (16+k):Nat):Int):=by
            rw [← V.out,z4N,z4N,z4N]
            omega
          rw [hx]
          clear hx
          generalize hz2:SCHL s (k+1) (16+k)=z
          have HZ:Aside (SCHL s (k+1) (16+k)=z):=hz2
          clear hz2
          go_wp2
          go_roundg g
          case measure=>have:=E.out.2;omega
          case rel=>
            obtain ⟨hb,h1,h2⟩:=R.out
            obtain ⟨hT,hkg⟩:=E.out
            refine ⟨k+1,by omega,by rw [hT];go_num,(below_drewN hb _).setCell (by show _≤w.heap.size+1+1;omega) _,(h1.drewN _).other (by show w.heap.size+1≠w.heap.size+1+1;omega) _,?_⟩
            have h3:=(h2.drewN (1+m1+m2)).set T (.int .u32 (z:Int))
            rw [z1P] at h3
            have e:(UARR .u32 64 fun j=>if j=T then z else SCHL s k j)=UARR .u32 64 (SCHL s (k+1)):=z0l fun j _=>by
              rw [← HZ.out,hT]
              by_cases e:j=16+k
              · rw [if_pos e,e]
              · rw [if_neg e,SCHL,if_neg e]
            rw [e] at h3
            exact h3
    | succ g=>
      obtain ⟨hb,h0,h1,h2⟩:=A.out
      have hi:(i:Int)<16:=by omega
      have hi2:(i:Int)<64:=by omega
      have hsl:=z90 w.heap.size (4*i) (by omega) (4*(i:Int)) (by omega)
      have hw:=z9X w.heap.size (4*i) (64 - 4*i) (64 - 4*i) s H.out (4*i) wr (by omega) (fun j hj=>by rw [h0.cell,z0f _ _ _ _ (by omega)])
      have hc:wr.cell? ⟨w.heap.size+1+1,i,none⟩=some (.int .u32 0):=by rw [h2.cell,z0f _ _ _ _ (by omega),if_neg (by omega)];rfl
      have hf:wr.frozen? ⟨w.heap.size+1+1,i,none⟩=false:=h2.frozen i
      generalize hv:z0c s (4*i)=v at hw
      have R:Aside (Below w.heap.size w wr∧Has wr w.heap.size (UARR .u8 64 s) 198∧Has wr (w.heap.size+1) (UARR .u32 64 fun _=>0) 266∧Has wr (w.heap.size+2) (UARR .u32 64 fun j=>if j<i then z0c s (4*j) else 0) 266∧z0c s (4*i)=v):=⟨hb,h0,h1,h2,hv⟩
      clear hb h0 h1 h2 hv A hz
      go_wp2_with fail
      refine hw.mono ?_
      rintro e w' ⟨rfl,m,rfl⟩
      clear hw
      go_wp2
      go_roundg g
      case measure=>omega
      case rel=>
        obtain ⟨hb,h0,h1,h2,hv⟩:=R.out
        refine ⟨i+1,by omega,by go_num,?_⟩
        rw [← z3I (F:=fun j=>z0c s (4*j)) (fun j=>rfl) v hv.symm]
        exact ⟨(below_drewN hb m).setCell (by show _≤w.heap.size+1+1;omega) _,(h0.drewN m).other (by show w.heap.size≠w.heap.size+1+1;omega) _,(h1.drewN m).other (by show w.heap.size+1≠w.heap.size+1+1;omega) _,(h2.drewN m).set i _⟩
end Go.Proofs.YtnmalbngdhjhjaaGreatDoor.HX
