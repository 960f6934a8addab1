/- FindProves: part 1. -/
import Derived.Test.YtlbcnaenhghieaaGreatDoorProg
import Derived.WalkKit
import Derived.WalkLawsBesides
import Derived.Deep.RegionHeld3
import Derived.OpenShut
import Derived.Deep.LoopGhost
import Derived.Deep.OwnRows
import Derived.Deep.QuietTactic
import Derived.BigQuiet
import Derived.Deep.AppendLies
import Derived.Laws.AppendOwnNone
namespace Go.Proofs.YtlbcnaenhghieaaGreatDoor
set_option maxRecDepth 100000
@[reducible] def tt : Bool := true
@[reducible] def ff : Bool := false
theorem tkH {ops:Array Oper} {Q:Exit->Act->World->Prop} {S:World->Prop} {fuel:Nat} {lb:List Bool} {l:List Value} {ds:List Deferred} {w:World} (oi:Oper) (v:Value) {t:Tmp} (i:Nat) (hQ:∀ c (a:Act) (t:Tmp) (v:Value) w,Q (.panic c) (a.put (some t) v) w->Q (.panic c) a w) (hy:YieldsIf Tryz.prog ops S oi v ⟨l.toArray,ds⟩) (hS:S w)
  (h:wpAnyH Tryz.prog .any ops Q S fuel (lb.set i true).toArray ⟨(l.set t v).toArray,ds⟩ w) (hi:ops[i]?=some oi:=by rfl) (hd:oi.dst=some t:=by rfl) (hs:Region.noSelect ops=true:=by kernel_rfl) (hf:Region.free .any ops lb.toArray i=true:=by kernel_rfl) (hr:(Region.ready .any ops lb.toArray).contains i=true:=by kernel_rfl):
  wpAnyH Tryz.prog .any ops Q S (fuel+1) lb.toArray ⟨l.toArray,ds⟩ w:=by
 refine wpAnyH_take hi hs hf hr (fun c a w h=>by rw [hd] at h;exact hQ _ _ _ _ _ h) hy hS ?_;rw [hd];simpa only [Act.put,List.setIfInBounds_toArray] using h
theorem tkP {ops:Array Oper} {Q:Exit->Act->World->Prop} {S:World->Prop} {fuel:Nat} {lb:List Bool} {l:List Value} {ds:List Deferred} {w:World} (oi:Oper) (v:Value) {t:Tmp} (i:Nat) (hQ:∀ c (a:Act) (t:Tmp) (v:Value) w,Q (.panic c) (a.put (some t) v) w->Q (.panic c) a w) (hS:S w)
  (h:wpAnyH Tryz.prog .any ops Q S fuel (lb.set i true).toArray ⟨(l.set t v).toArray,ds⟩ w) (hy:YieldsIf Tryz.prog ops S oi v ⟨l.toArray,ds⟩:=by exact Yields.yieldsIf (Or.inl ⟨by rfl,fun W=>by go_simp⟩)) (hi:ops[i]?=some oi:=by rfl) (hd:oi.dst=some t:=by rfl) (hs:Region.noSelect ops=true:=by kernel_rfl) (hf:Region.free .any ops lb.toArray i=true:=by kernel_rfl) (hr:(Region.ready .any ops lb.toArray).contains i=true:=by kernel_rfl):
  wpAnyH Tryz.prog .any ops Q S (fuel+1) lb.toArray ⟨l.toArray,ds⟩ w:=by
 refine wpAnyH_take hi hs hf hr (fun c a w h=>by rw [hd] at h;exact hQ _ _ _ _ _ h) hy hS ?_;rw [hd];simpa only [Act.put,List.setIfInBounds_toArray] using h
theorem tkB {ops:Array Oper} {Q:Exit->Act->World->Prop} {fuel:Nat} {lb:List Bool} {l:List Value} {ds:List Deferred} {w:World} (oi:Oper) (v:Value) {t:Tmp} (i:Nat) (hQ:∀ c (a:Act) (t:Tmp) (v:Value) w,Q (.panic c) (a.put (some t) v) w->Q (.panic c) a w)
  (h:wpAny Tryz.prog .any ops Q fuel (lb.set i true).toArray ⟨(l.set t v).toArray,ds⟩ w) (hy:Yields Tryz.prog ops oi v ⟨l.toArray,ds⟩:=by exact Or.inl ⟨by rfl,fun W=>by go_simp⟩) (hi:ops[i]?=some oi:=by rfl) (hd:oi.dst=some t:=by rfl) (hs:Region.noSelect ops=true:=by kernel_rfl) (hf:Region.free .any ops lb.toArray i=true:=by kernel_rfl) (hr:(Region.ready .any ops lb.toArray).contains i=true:=by kernel_rfl):
  wpAny Tryz.prog .any ops Q (fuel+1) lb.toArray ⟨l.toArray,ds⟩ w:=by
 refine wpAny_take hi hs hf hr (fun c a w h=>by rw [hd] at h;exact hQ _ _ _ _ _ h) hy ?_;rw [hd];simpa only [Act.put,List.setIfInBounds_toArray] using h
end Go.Proofs.YtlbcnaenhghieaaGreatDoor
namespace Go.Proofs.YtlbcnaenhghieaaGreatDoor
def LSTI (f:Nat->List Int):Nat->List Int->Int
 | 0,_ => -1
 | n+1,h=>if f n=h then (n:Int) else LSTI f n h
def ATS (f:Nat->List Int):Nat->List Int->List Nat
 | 0,_=>[]
 | n+1,h=>ATS f n h ++ (if f n=h then [n] else [])
def UNL (f:Nat->List Int):Nat->Nat
 | 0=>0
 | n+1=>UNL f n+(if LSTI f n (f n) = -1 then 1 else 0)
def TWS (f:Nat->List Int) (n:Nat):Nat->List (List Int)
 | 0=>[]
 | m+1=>TWS f n m ++ (if LSTI f m (f m) = -1/\LSTI f n (f m)≠(m:Int) then [f m] else [])
theorem z25 {f g:Nat->List Int}:∀ {n:Nat} (h:List Int),(∀ i,i<n->f i=g i)->LSTI f n h=LSTI g n h
 | 0,_,_=>rfl
 | n+1,h,e=>by rw [LSTI,LSTI,e n (by omega),z25 h fun i hi=>e i (by omega)]
theorem z4f {f g:Nat->List Int}:∀ {n:Nat},(∀ i,i<n->f i=g i)->UNL f n=UNL g n
 | 0,_=>rfl
 | n+1,e=>by rw [UNL,UNL,e n (by omega),z4f fun i hi=>e i (by omega),z25 _ fun i hi=>e i (by omega)]
theorem z2D (f:Nat->List Int) (h:List Int):∀ n:Nat, -1<=LSTI f n h/\LSTI f n h<n
 | 0=>by simp [LSTI]
 | n+1=>by
   rw [LSTI];have:=z2D f h n;split <;> omega
theorem z3b {f:Nat->List Int} {h:List Int}:∀ {n:Nat},LSTI f n h = -1↔∀ i,i<n->f i≠h
 | 0=>⟨fun _ i hi=>by omega,fun _=>rfl⟩
 | n + 1=>by
   rw [LSTI];by_cases e:f n=h
   ·rw [if_pos e]
    exact ⟨fun x=>by omega,fun x=>absurd e (x n (by omega))⟩
   ·rw [if_neg e,z3b (n:=n)]
    refine ⟨fun x i hi=>?_,fun x i hi=>x i (by omega)⟩;by_cases ei:i=n
    ·rw [ei];exact e
    ·exact x i (by omega)
theorem z6U {f:Nat->List Int} {h:List Int}:∀ {n i:Nat},LSTI f n h=(i:Int)->i<n/\f i=h/\ATS f n h=ATS f i h ++ [i]
 | 0,i,e=>by simp only [LSTI] at e;omega
 | n + 1,i,e=>by
   rw [LSTI] at e;by_cases c:f n=h
   ·rw [if_pos c] at e
    have:n=i:=by omega
    subst this;exact ⟨by omega,c,by rw [ATS,if_pos c]⟩
   ·rw [if_neg c] at e
    obtain ⟨h1,h2,h3⟩:=z6U e;exact ⟨by omega,h2,by rw [ATS,if_neg c,List.append_nil,h3]⟩
theorem z7O {f:Nat->List Int} {h:List Int}:∀ {n:Nat},LSTI f n h = -1->ATS f n h=[]
 | 0,_=>rfl
 | n+1,e=>by
   have hn:=z3b.1 e;rw [ATS,if_neg (hn n (by omega)),List.append_nil];exact z7O (z3b.2 fun i hi=>hn i (by omega))
theorem z6r {f:Nat->List Int} {h:List Int} {i:Nat}:∀ {n:Nat},i∈ATS f n h↔i<n/\f i=h
 | 0=>by simp [ATS]
 | n + 1=>by
   rw [ATS,List.mem_append,z6r (n:=n)];by_cases e:f n=h
   ·rw [if_pos e,List.mem_singleton]
    constructor
    ·rintro (⟨a,b⟩ | rfl)
     ·exact ⟨by omega,b⟩
     ·exact ⟨by omega,e⟩
    ·rintro ⟨a,b⟩
     by_cases c:i=n
     ·exact .inr c
     ·exact .inl ⟨by omega,b⟩
   ·rw [if_neg e]
    constructor
    ·rintro (⟨a,b⟩ | h)
     ·exact ⟨by omega,b⟩
     ·simp at h
    ·rintro ⟨a,b⟩
     refine .inl ⟨?_,b⟩;have:i≠n:=fun c=>e (c ▸ b);omega
theorem z1g (f:Nat->List Int) (h:List Int):∀ n,(ATS f n h).length<=n
 | 0=>by simp [ATS]
 | n+1=>by
   have:=z1g f h n;rw [ATS,List.length_append];split <;> simp <;> omega
theorem z7P (f:Nat->List Int):∀ n,UNL f n<=n
 | 0=>by simp [UNL]
 | n+1=>by
   have:=z7P f n;rw [UNL];split <;> omega
theorem z5D (f:Nat->List Int) (n:Nat):∀ m,(TWS f n m).length<=m
 | 0=>by simp [TWS]
 | m+1=>by
   have:=z5D f n m;rw [TWS,List.length_append];split <;> simp <;> omega
end Go.Proofs.YtlbcnaenhghieaaGreatDoor
namespace Go.Proofs.YtlbcnaenhghieaaGreatDoor
open Go.RowKit
def SHL (x:Nat) (n:Int):Nat:=if n<0 then x / 2 ^ (-n).toNat else x*2 ^ n.toNat % 2 ^ 64
def SHR (x:Nat) (n:Int):Nat:=if n<0 then x*2 ^ (-n).toNat % 2 ^ 64 else x / 2 ^ n.toNat
def MASK (n:Int):Nat:=2 ^ min n.toNat 64 - 1
theorem wf_u64 {x:Int} (h:(Lit.int .u64 x).wf=true):0<=x/\x<2 ^ 64:=by
 have:=bounds_u64 h;omega
theorem zae {x k:Nat} (hx:x<2 ^ 64) (h:64<=k):x / 2 ^ k=0:=
 Nat.div_eq_of_lt (Nat.lt_of_lt_of_le hx (Nat.pow_le_pow_right (by decide) h))
theorem zfY {x:Nat} (hx:x<2 ^ 64) (k:Nat):x / 2 ^ min k 64=x / 2 ^ k:=by
 by_cases h:k<=64
 ·rw [Nat.min_eq_left h]
 ·rw [Nat.min_eq_right (by omega),zae hx (Nat.le_refl _),zae hx (by omega)]
theorem zfZ (x k:Nat):x*2 ^ min k 64 % 2 ^ 64=x*2 ^ k % 2 ^ 64:=by
 by_cases h:k<=64
 ·rw [Nat.min_eq_left h]
 ·rw [Nat.min_eq_right (by omega),show k=64+(k - 64) by omega,Nat.pow_add,Nat.mul_mod_left,<-Nat.mul_assoc,Nat.mul_right_comm,Nat.mul_mod_left]
theorem z0b (z:Int):IntKind.u64.wrap z=z % 2 ^ 64:=by rw [IntKind.wrap_u64];rfl
theorem zb0 (n:Int) (h0 : -(2 ^ 63)<=n) (h:n<0):(IntKind.u64.wrap (-IntKind.u64.wrap n)).toNat=(-n).toNat:=by
 rw [z0b,z0b];omega
theorem zfR (n:Int) (h0:n<2 ^ 63) (h:¬ n<0):(IntKind.u64.wrap n).toNat=n.toNat:=by
 rw [z0b];omega
theorem z2e (X k:Nat):(X:Int) / 2 ^ k=((X / 2 ^ k:Nat):Int):=by simp
theorem ze5 (X k:Nat):IntKind.u64.wrap ((X:Int)*2 ^ k)=((X*2 ^ k % 2 ^ 64:Nat):Int):=by rw [z0b];simp
theorem z5E {X:Nat} (hX:X<2 ^ 64) {n:Int} (h0 : -(2 ^ 63)<=n) (h1:n<2 ^ 63):
  (if n<0 then IntKind.u64.wrap ((X:Int)*2 ^ min (IntKind.u64.wrap (-IntKind.u64.wrap n)).toNat 64) else (X:Int) / 2 ^ min (IntKind.u64.wrap n).toNat 64)=((SHR X n:Nat):Int):=by
 unfold SHR;split
 ·rename_i h
  rw [zb0 n h0 h,ze5,zfZ]
 ·rename_i h
  rw [zfR n h1 h,z2e,zfY hX]
theorem z9i {n:Int} (h1:n<2 ^ 63):
  (if n<=0 then 0 else IntKind.u64.wrap (IntKind.u64.wrap (1*2 ^ min (IntKind.u64.wrap n).toNat 64) - 1))=((MASK n:Nat):Int):=by
 unfold MASK;split
 ·rename_i h
  rw [show n.toNat=0 by omega];rfl
 ·rename_i h
  rw [zfR n h1 (by omega)];have e:(1:Int)*2 ^ min n.toNat 64=((2 ^ min n.toNat 64:Nat):Int):=by simp
  rw [e,z0b,z0b];have h1:2 ^ min n.toNat 64<=2 ^ 64:=Nat.pow_le_pow_right (by decide) (Nat.min_le_right _ _);have h2:0<2 ^ min n.toNat 64:=Nat.two_pow_pos _;generalize 2 ^ min n.toNat 64=p at *
  omega
theorem z4g {a b:Nat} (ha:a<2 ^ 64) (hb:b<2 ^ 64):bits .and .u64 (a:Int) (b:Int)=((a &&& b:Nat):Int):=bits_and_u64_nat a b ha hb
theorem z5F {a b:Nat} (ha:a<2 ^ 64) (hb:b<2 ^ 64):bits .or .u64 (a:Int) (b:Int)=((a ||| b:Nat):Int):=bits_or_u64_nat a b ha hb
theorem z9j (n:Int):(BitVec.ofInt 64 n).toNat=(n % 2 ^ 64).toNat:=by simp [BitVec.toNat_ofInt]
theorem zh6 (n:Int):bits .and .i64 n 127=n % 128:=by
 show IntKind.i64.wrap ((BitVec.ofInt 64 n &&& BitVec.ofInt 64 127).toNat:Int)=_;have h7:(BitVec.ofInt 64 127).toNat=127:=by decide
 rw [BitVec.toNat_and,z9j,h7,nat_mask7,IntKind.wrap_i64];omega
theorem z6s (x n:Int) (w:World):Calls Tryz.prog 137 #[.int .u64 x,.int .i64 n] w fun e w'=>e=.returned (.int .u64 (if n<0 then IntKind.u64.wrap (x*2 ^ min (IntKind.u64.wrap (-IntKind.u64.wrap n)).toNat 64) else x / 2 ^ min (IntKind.u64.wrap n).toNat 64))/\w=w':=by
 by_cases h:n<0
 ·rw [if_pos h]
  go_enter Tryz.func137,Tryz.ntmps137;go_wp2;go_ret;exact ⟨rfl,rfl⟩
 ·rw [if_neg h]
  go_enter Tryz.func137,Tryz.ntmps137;go_wp2;go_ret;exact ⟨rfl,rfl⟩
theorem ze6 (n:Int) (w:World):Calls Tryz.prog 90 #[.int .i64 n] w fun e w'=>e=.returned (.int .u64 (if n<=0 then 0 else IntKind.u64.wrap (IntKind.u64.wrap (1*2 ^ min (IntKind.u64.wrap n).toNat 64) - 1)))/\w=w':=by
 by_cases h:n<=0
 ·rw [if_pos h]
  go_enter Tryz.func90,Tryz.ntmps90;go_wp2;go_ret;exact ⟨rfl,rfl⟩
 ·rw [if_neg h]
  go_enter Tryz.func90,Tryz.ntmps90;go_wp2;go_ret;exact ⟨rfl,rfl⟩
theorem z4h (X:Nat) (n:Int) (hX:X<2 ^ 64) (h0 : -(2 ^ 63)<=n) (h1:n<2 ^ 63) (w:World):Calls Tryz.prog 137 #[.int .u64 (X:Int),.int .i64 n] w fun e w'=>e=.returned (.int .u64 ((SHR X n:Nat):Int))/\w=w':=
 (z6s X n w).mono fun e w' h=>by rw [z5E hX h0 h1] at h;exact h
theorem zg0 (n:Int) (h1:n<2 ^ 63) (w:World):Calls Tryz.prog 90 #[.int .i64 n] w fun e w'=>e=.returned (.int .u64 ((MASK n:Nat):Int))/\w=w':=
 (ze6 n w).mono fun e w' h=>by rw [z9i h1] at h;exact h
def BARR (n:Nat) (f:Nat->Int):Array Value:=((List.range n).map fun i=>Value.int .u8 (f i)).toArray
theorem z1X (n:Nat) (f:Nat->Int):(BARR n f).size=n:=by simp [BARR]
theorem z1C (n:Nat) (f:Nat->Int) (i:Nat) (h:i<n):(BARR n f)[i]?=some (.int .u8 (f i)):=by simp [BARR,h]
theorem z7Q {n:Nat} {f g:Nat->Int} (h:∀ i,i<n->f i=g i):BARR n f=BARR n g:=by
 unfold BARR;congr 1
 apply List.map_congr_left;intro i hi;rw [h i (by simpa using hi)]
theorem z5n (n:Nat) (f:Nat->Int) (i:Nat) (v:Int):(BARR n f).setIfInBounds i (.int .u8 v)=BARR n fun j=>if j=i then v else f j:=by
 apply Array.ext_getElem?;intro j;by_cases hj:j<n
 ·rw [z1C _ _ j hj,Array.getElem?_setIfInBounds]
  by_cases h:i=j
  ·subst h
   simp [z1X,hj]
  ·have h':¬ j=i:=fun e=>h e.symm
   simp [h,h',z1C _ _ j hj]
 ·rw [Array.getElem?_eq_none (by simp [z1X];omega),Array.getElem?_eq_none (by simp [z1X];omega)]
theorem z4i (n:Nat):madeCells #[Value.int .u8 0] n=BARR n fun _=>0:=by
 apply Array.ext_getElem?;intro j;by_cases hj:j<n
 ·rw [z1C _ _ j hj]
  simp [madeCells,hj,Nat.mod_one]
 ·rw [Array.getElem?_eq_none (by simp [madeCells];omega),Array.getElem?_eq_none (by simp [z1X];omega)]
theorem z0Q:(Tryz.prog.info? 5).map (fun i=>(i.zero,i.size,i.bytes))=some (some (.int .u8 0),1,1):=by kernel_rfl
theorem z5G (n:Nat) (hn:n<=1000000) (w:World):(Instr.makeSlice 108 (.int .i64 (n:Int)) (.int .i64 (n:Int))).run Tryz.prog w=.ok (.slice (some ⟨w.heap.size,0,none⟩) n n) (w.alloc (.cells (BARR n fun _=>0) 5)):=by
 rw [run_make_row' 108 5 (.int .u8 0) 1 Tryz.underlying108 z0Q rfl .i64 .i64 n (by omega) (by omega) w,z4i]
def IsRow (k:IntKind) (w:World) (a:Option Addr) (len cap:Nat) (zs:List Int):Prop:=
 (a=none/\len=0/\cap=0/\zs=[])\/
 ∃ x,a=some x/\len<=cap/\cap<=maxLen/\zs.length=cap/\(∀ i,i<zs.length->w.cell? (x.add i)=some (.int k (zs.getD i 0)))/\∀ n∈zs,(Lit.int k n).wf=true
def Bytes (w:World) (a:Option Addr) (n:Nat) (l:List Int):Prop:=
 l.length=n/\(0<n->∃ b off,a=some ⟨b,off,none⟩/\b<w.heap.size/\∀ i,i<n->w.cell? ⟨b,off+i,none⟩=some (.int .u8 (l.getD i 0)))/\∀ x∈l,0<=x/\x<=255
theorem Bytes.below {w w':World} {a:Option Addr} {n:Nat} {l:List Int} (h:Bytes w a n l) (hb:Below w.heap.size w w'):Bytes w' a n l:=
 ⟨h.1,fun hn=>by
  obtain ⟨b,off,e,hl,hc⟩:=h.2.1 hn;exact ⟨b,off,e,Nat.lt_of_lt_of_le hl hb.size,fun i hi=>(hb.cell (by exact hl)).trans (hc i hi)⟩,h.2.2⟩
theorem Bytes.get {w:World} {a:Option Addr} {n:Nat} {l:List Int} (h:Bytes w a n l) (i:Nat):0<=l.getD i 0/\l.getD i 0<=255:=by
 by_cases hi:i<l.length
 ·rw [List.getD_eq_getElem?_getD,List.getElem?_eq_getElem hi]
  exact h.2.2 _ (List.getElem_mem hi)
 ·rw [List.getD_eq_getElem?_getD,List.getElem?_eq_none (by omega)]
  simp
theorem z0y (b off i:Nat):(⟨b,off,none⟩:Addr).add i=⟨b,off+i,none⟩:=by unfold Addr.add;split <;> simp_all
theorem IsRow.bytes {w:World} {a:Option Addr} {n c:Nat} {zs:List Int} (h:IsRow .u8 w a n c zs):Bytes w a n (zs.take n):=by
 rcases h with ⟨rfl,rfl,rfl,rfl⟩ | ⟨x,rfl,hl,_,hz,hcell,hwf⟩
 ·exact ⟨rfl,fun h=>by omega,fun x hx=>by simp at hx⟩
 ·refine ⟨by simp [hz,hl],fun hn=>?_,fun y hy=>?_⟩
  ·obtain ⟨b,off,spot⟩:=x
   have hc:=hcell 0 (by omega);have hspot:spot=none:=by simpa [Addr.add] using World.cell?_spot hc
   subst hspot;refine ⟨b,off,rfl,block_lt_of_cell (by simpa [Addr.add] using hc),fun i hi=>?_⟩;have:=hcell i (by omega);rw [z0y] at this;rw [this];congr 2
   simp [List.getD_eq_getElem?_getD,hi]
  ·have:=bounds_u8 (hwf y (List.mem_of_mem_take hy))
   exact this
theorem z4j {F f:Nat->Int} {i:Nat} {v:Int} (A:∀ j,f j=if j<i then F j else 0) (hv:v=F i):∀ j,(if j=i then v else f j)=if j<i+1 then F j else 0:=fun j=>by
 by_cases e:j=i
 ·subst e
  simp [hv]
 ·rw [if_neg e,A j]
  by_cases e2:j<i
  ·rw [if_pos e2,if_pos (by omega)]
  ·rw [if_neg e2,if_neg (by omega)]
theorem z6t (x:Int) (n:Nat) (F:Nat->Int) (hn:(n:Int)<=8) (w:World) (c:∀ w,Calls Tryz.prog 137 #[.int .u64 x,.int .i64 (8*(n:Int))] w fun e w'=>e=.returned (.int .u64 0)/\w=w')
  (ci:∀ i:Nat,i<n->∃ s:Int,Aside (s % 256=F i)/\∀ w,Calls Tryz.prog 137 #[.int .u64 x,.int .i64 (8*((n:Int) - 1 - (i:Int)))] w fun e w'=>e=.returned (.int .u64 s)/\w=w'):
  Calls Tryz.prog 131 #[.int .u64 x,.int .i64 (n:Int)] w fun e w'=>e=.returned (.tuple #[.slice (some ⟨w.heap.size,0,none⟩) n n,.int .i64 0])/\w.alloc (.cells (BARR n F) 5)=w':=by
 have hmk:=z5G n (by omega);have CI:Aside (∀ i:Nat,i<n->∃ s:Int,Aside (s % 256=F i)/\∀ w,Calls Tryz.prog 137 #[.int .u64 x,.int .i64 (8*((n:Int) - 1 - (i:Int)))] w fun e w'=>e=.returned (.int .u64 s)/\w=w'):=ci;clear ci;go_enter Tryz.func131,Tryz.ntmps131;go_wp2_with fail
 refine (c _).mono ?_;rintro e w' ⟨rfl,rfl⟩;go_wp2;go_loopg [23] n (fun g s23 wx=>∃ (i:Nat) (f:Nat->Int),i+g=n/\Aside (∀ j,f j=if j<i then F j else 0)/\s23=.int .i64 i/\wx=w.alloc (.cells (BARR n f) 5))
 case atStart=>exact ⟨0,fun _=>0,by omega,fun j=>by simp,rfl,rfl⟩
 case round=>
  obtain ⟨i,f,hig,A,rfl,rfl⟩:=hrel;cases gk with
  | zero=>
    obtain rfl:i=n:=by omega
    have hf:BARR i f=BARR i F:=z7Q fun j hj=>by rw [A.out j,if_pos hj]
    rw [hf];clear hf A;go_wp2;go_ret2;exact ⟨rfl,rfl⟩
  | succ g=>
    have hi:(i:Int)<(n:Int):=by omega
    have hc:(BARR n f)[i]?=some (.int .u8 (f i)):=z1C n f i (by omega);have hs:∀ v,(BARR n f).setIfInBounds i (.int .u8 v)=BARR n (fun j=>if j=i then v else f j):=fun v=>z5n n f i v;obtain ⟨s,hsF,cs⟩:=CI.out i (by omega);go_wp2_with fail
    refine (cs _).mono ?_;rintro e w' ⟨rfl,rfl⟩;go_wp2;go_roundg g
    case measure=>omega
    case rel=>exact ⟨i+1,_,by omega,z4j A.out hsF.out,by go_num,rfl⟩
def BYTE (X n:Nat):Nat->Int:=fun i=>((X / 2 ^ (8*(n - 1 - i)) % 256:Nat):Int)
theorem zck (X n:Nat) (hX:X<2 ^ 64) (hn:n<=8) (h:X / 2 ^ (8*n)=0) (w:World):
  Calls Tryz.prog 131 #[.int .u64 (X:Int),.int .i64 (n:Int)] w fun e w'=>e=.returned (.tuple #[.slice (some ⟨w.heap.size,0,none⟩) n n,.int .i64 0])/\w.alloc (.cells (BARR n (BYTE X n)) 5)=w':=by
 refine z6t X n (BYTE X n) (by omega) w (fun w=>?_) (fun i hi=>?_)
 ·have k:=z4h X (8*(n:Int)) hX (by omega) (by omega) w
  have hs:SHR X (8*(n:Int))=0:=by
   unfold SHR;rw [if_neg (by omega),show (8*(n:Int)).toNat=8*n by omega,h]
  rw [hs] at k;exact k
 ·refine ⟨(SHR X (8*((n:Int) - 1 - (i:Int))):Nat),?_,fun w=>z4h X _ hX (by omega) (by omega) w⟩
  unfold SHR BYTE Aside;rw [if_neg (by omega),show (8*((n:Int) - 1 - (i:Int))).toNat=8*(n - 1 - i) by omega];simp
def z00 (l:List Int):List Value:=l.map (Value.int .u8)
theorem z0v (a b:List Int):z00 (a ++ b)=z00 a ++ z00 b:=by simp [z00]
theorem z0K (l:List Int) (i:Nat) (h:i<l.length):(z00 l)[i]?=some (.int .u8 (l.getD i 0)):=by
 simp [z00,h,List.getD_eq_getElem?_getD]
theorem z0Y (l:List Int):∀ u∈z00 l,u.oneCell'=true:=fun u hu=>by
 simp [z00] at hu;obtain ⟨x,_,rfl⟩:=hu;rfl
theorem z1f:∃ i,Tryz.prog.info? 5=some i/\i.zero=some (.int .u8 0)/\i.size=1/\i.bytes=1:=by
 obtain ⟨i,hi,h⟩:=Option.map_eq_some_iff.1 z0Q;simp only [Prod.mk.injEq] at h;exact ⟨i,hi,h.1,h.2.1,h.2.2⟩
theorem z2v {ops:Array Oper} {rest:List Oper} {o:Oper} {a:Act} {Q:Exit->Act->World->Prop} (w:World) (hgd:o.guard=none) (s x:Operand)
  (ho:o.op=.call {callee:=.builtin .append,args:=#[s,x],argTypes:=#[108,108]})
  (base:Nat) (v:Value) (n:Nat) (xs:List Int) (hs:a.eval s=v) (hown:w.ownsRow base 5 1 v n (z00 xs))
  (b off m c:Nat) (l:List Int) (hx:a.eval x=.slice (some ⟨b,off,none⟩) m c) (hB:Bytes w (some ⟨b,off,none⟩) m l)
  (hm:0<m) (hb:n+m<=140737488355328) (hbase:base<=w.heap.size)
  (h:∀ g cap w',w'.ownsRow base 5 1 (.slice (some ⟨g,0,none⟩) (n+m) cap) (n+m) (z00 (xs ++ l))->w.grownBy w' v.ownBlock->g<w'.heap.size->wpList Tryz.prog ops Q rest (a.put o.dst (.slice (some ⟨g,0,none⟩) (n+m) cap)) w'):wpList Tryz.prog ops Q (o :: rest) a w:=by
 obtain ⟨i,hi,hz,hs1,hby⟩:=z1f;obtain ⟨b',off',e,_,hc⟩:=hB.2.1 hm;simp only [Option.some.injEq,Addr.mk.injEq] at e;obtain ⟨rfl,rfl,_⟩:=e;refine wpList_append_lies w hgd s x 108 ho base 5 i (.int .u8 0) 1 1 Tryz.underlying108 hi hz hs1 hby rfl (by decide) v n (z00 xs) hs hown ⟨b,off,none⟩ m c (z00 l) hx (by simp [z00,hB.1]) ?_ (z0Y l) hm (by simp only [maxLen];omega) (by omega) hbase w.heap.size rfl ?_
 ·intro j u hj
  have hjl:j<l.length:=by
   have:=(List.getElem?_eq_some_iff.1 hj).1;simpa [z00] using this
  rw [z0K l j hjl] at hj;rw [z0y,hc j (by rw [<-hB.1];exact hjl)];exact hj
 ·intro g cap w' h1 h2 _ h4
  rw [<-z0v] at h1;exact h g cap w' h1 h2 h4
theorem z1M (w:World) (row:Option Nat):w.grownBy w row:=⟨rfl,rfl,rfl,Nat.le_refl _,fun _ _ _=>rfl⟩
theorem z5o {ops:Array Oper} {rest:List Oper} {o:Oper} {a:Act} {Q:Exit->Act->World->Prop} (w:World) (hgd:o.guard=none) (s x:Operand)
   (ho:o.op=.call {callee:=.builtin .append,args:=#[s,x],argTypes:=#[108,108]})
   (base:Nat) (v:Value) (n:Nat) (xs:List Int) (hs:a.eval s=v) (hown:w.ownsRow base 5 1 v n (z00 xs))
   (ao:Option Addr) (c:Nat) (hx:a.eval x=.slice ao 0 c) (hc:ao=none->c=0) (hn:n<=140737488355328) (hbase:base<=w.heap.size)
   (h:∀ a' c' w',w'.ownsRow base 5 1 (.slice a' n c') n (z00 xs)->w.grownBy w' v.ownBlock->wpList Tryz.prog ops Q rest (a.put o.dst (.slice a' n c')) w'):wpList Tryz.prog ops Q (o :: rest) a w:=by
 obtain ⟨i,hi,hz,hs1,hby⟩:=z1f
 have form:∀ (v':Value) (w':World),w'.ownsRow base 5 1 v' n (z00 xs)->∃ a' c',v'=.slice a' n c':=fun v' w' h=>by
   rcases h.2 with ⟨rfl,rfl⟩ | ⟨g,cap,cur,rfl,_⟩
   ·exact ⟨none,0,rfl⟩
   ·exact ⟨_,cap,rfl⟩
 cases ao with
 | none=>
   obtain rfl:=hc rfl;refine wpList_append_own_none hgd s x 108 ho base 5 i 1 Tryz.underlying108 hi v n (z00 xs) hs hown hx ?_;obtain ⟨a',c',rfl⟩:=form v w hown;exact h a' c' w hown (z1M _ _)
 | some ad=>
   refine wpList_append_own w hgd s x 108 ho base 5 i (.int .u8 0) 1 1 Tryz.underlying108 hi hz hs1 hby rfl (by decide) v n (z00 xs) hs hown ad 0 c [] hx rfl (fun j u hj=>by simp at hj) (fun u hu=>by simp at hu) (by simp only [maxLen];omega) (by omega) hbase ?_;intro v' w' h1 h2 _;simp only [Nat.add_zero,List.append_nil] at h1;obtain ⟨a',c',rfl⟩:=form v' w' h1;exact h a' c' w' h1 h2
theorem z4k {w:World} {base g n cap:Nat} {l:List Int} (h:w.ownsRow base 5 1 (.slice (some ⟨g,0,none⟩) n cap) n (z00 l)) (hg:g<w.heap.size) (hl:∀ x∈l,0<=x/\x<=255):Bytes w (some ⟨g,0,none⟩) n l:=by
 have hlen:l.length=n:=by have:=h.1;simpa [z00] using this
 refine ⟨hlen,fun _=>⟨g,0,rfl,hg,fun i hi=>?_⟩,hl⟩;rw [Nat.zero_add,h.cellAt i (by omega),z0K l i (by omega)]
theorem z6V (w:World) (base:Nat) (hb:base<=w.heap.size):(w.alloc (.cells #[] 5)).ownsRow base 5 1 (.slice (some ⟨w.heap.size,0,none⟩) 0 0) 0 (z00 []):=
 World.ownsRow_lit w #[] 0 hb (by simp [maxLen]) rfl
theorem z3c (w:World) (n:Nat) (f:Nat->Int) (l:List Int) (hl:l.length=n) (hf:∀ i,i<n->f i=l.getD i 0) (hr:∀ x∈l,0<=x/\x<=255):Bytes (w.alloc (.cells (BARR n f) 5)) (some ⟨w.heap.size,0,none⟩) n l:=by
 refine ⟨hl,fun _=>⟨w.heap.size,0,rfl,by simp,fun i hi=>?_⟩,hr⟩;rw [Nat.zero_add,World.cell?_alloc_at _ _ _ _ rfl,z1C n f i hi,hf i hi]
theorem z1w {w:World} {base n c:Nat} {a:Option Addr} {l:List Int} (h:w.ownsRow base 5 1 (.slice a n c) n (z00 l)) (hl:∀ x∈l,0<=x/\x<=255):Bytes w a n l/\n<=c:=by
 rcases h.2 with ⟨hv,hn⟩ | ⟨g,cap,cur,hv,_,hg,hc,_⟩
 ·simp only [Value.slice.injEq] at hv
  obtain ⟨rfl,rfl,rfl⟩:=hv;have:l=[]:=by have:=h.1;simpa [z00] using this
  subst this;exact ⟨⟨rfl,fun h=>by omega,fun x hx=>by simp at hx⟩,Nat.le_refl _⟩
 ·simp only [Value.slice.injEq] at hv
  obtain ⟨rfl,_,rfl⟩:=hv;exact ⟨z4k h (Array.getElem?_eq_some_iff.1 hg).1 hl,hc⟩
theorem z4P {ops:Array Oper} {rest:List Oper} {o:Oper} {a:Act} {Q:Exit->Act->World->Prop} (w:World) (hgd:o.guard=none) (s x:Operand)
  (ho:o.op=.call {callee:=.builtin .append,args:=#[s,x],argTypes:=#[108,108]})
  (base:Nat) (v:Value) (n:Nat) (xs:List Int) (hs:a.eval s=v) (hown:w.ownsRow base 5 1 v n (z00 xs))
  (ao:Option Addr) (m c:Nat) (l:List Int) (hx:a.eval x=.slice ao m c) (hB:Bytes w ao m l) (hc:ao=none->c=0)
  (N:Nat) (L:List Int) (hN:n+m=N) (hL:xs ++ l=L) (hb:N<=140737488355328) (hbase:base<=w.heap.size)
  (h:∀ a' c' w',w'.ownsRow base 5 1 (.slice a' N c') N (z00 L)->w.grownBy w' v.ownBlock->wpList Tryz.prog ops Q rest (a.put o.dst (.slice a' N c')) w'):wpList Tryz.prog ops Q (o :: rest) a w:=by
 subst hN hL;rcases Nat.eq_zero_or_pos m with hm | hm
 ·subst hm
  have hl:l=[]:=by have:=hB.1;simpa using this
  subst hl;refine z5o w hgd s x ho base v n xs hs hown ao c hx hc (by omega) hbase ?_;simpa using h
 ·obtain ⟨b,off,rfl,_,_⟩:=hB.2.1 hm
  refine z2v w hgd s x ho base v n xs hs hown b off m c l hx hB hm hb hbase ?_;intro g cap w' h1 h2 _;exact h _ cap w' h1 h2
def DSUM (w:Nat):Nat->Nat->Nat
 | 0,_=>0
 | n+1,x=>x % 2 ^ w+DSUM w n (x / 2 ^ w)
def MSK (k:Nat):Nat->Nat
 | 0=>0
 | n+1=>(2 ^ k - 1)+2 ^ (2*k)*MSK k n
def ADDF (k:Nat):Nat->Nat->Nat
 | 0,_=>0
 | n+1,x=>(x % 2 ^ k+x / 2 ^ k % 2 ^ k)+2 ^ (2*k)*ADDF k n (x / 2 ^ (2*k))
def DLE (w D:Nat):Nat->Nat->Prop
 | 0,_=>True
 | n+1,x=>x % 2 ^ w<=D/\DLE w D n (x / 2 ^ w)
theorem z6W (b q r s t:Nat) (hr:r<2 ^ b) (hs:s<2 ^ b):(r+2 ^ b*q) &&& (s+2 ^ b*t)=(r &&& s)+2 ^ b*(q &&& t):=by
 rw [Nat.add_comm r,Nat.add_comm s,Nat.add_comm (r &&& s)];apply Nat.eq_of_testBit_eq;intro i;have hrs:r &&& s<2 ^ b:=Nat.lt_of_le_of_lt Nat.and_le_left hr;rw [Nat.testBit_and,Nat.testBit_two_pow_mul_add _ hr,Nat.testBit_two_pow_mul_add _ hs,Nat.testBit_two_pow_mul_add _ hrs];split
 ·rw [Nat.testBit_and]
 ·rw [Nat.testBit_and]
theorem z26 (k:Nat):2 ^ (2*k)=2 ^ k*2 ^ k:=by rw [Nat.two_mul,Nat.pow_add]
theorem zcl (k:Nat):2 ^ k - 1<2 ^ (2*k):=by
 have h1:2 ^ k<=2 ^ (2*k):=Nat.pow_le_pow_right (by decide) (by omega);have h2:=Nat.two_pow_pos k;omega
theorem zh7 (k x:Nat):x=x % 2 ^ (2*k)+2 ^ (2*k)*(x / 2 ^ (2*k)):=(Nat.mod_add_div _ _).symm
theorem ze7 (k x:Nat):x % 2 ^ (2*k) % 2 ^ k=x % 2 ^ k:=Nat.mod_mod_of_dvd _ ⟨2 ^ k,z26 k⟩
theorem zaf (k:Nat):∀ (n x:Nat),x &&& MSK k (n+1)=x % 2 ^ k+2 ^ (2*k)*(x / 2 ^ (2*k) &&& MSK k n):=fun n x=>by
 conv=>lhs;rw [zh7 k x]
 show _ &&& ((2 ^ k - 1)+2 ^ (2*k)*MSK k n)=_;rw [z6W _ _ _ _ _ (Nat.mod_lt _ (Nat.two_pow_pos _)) (zcl k),Nat.and_two_pow_sub_one_eq_mod,ze7]
theorem ze8 (k x:Nat):x / 2 ^ k / 2 ^ (2*k)=x / 2 ^ (2*k) / 2 ^ k:=by rw [Nat.div_div_eq_div_mul,Nat.div_div_eq_div_mul,Nat.mul_comm]
theorem z6u (k:Nat):∀ (n x:Nat),(x / 2 ^ k &&& MSK k n)+(x &&& MSK k n)=ADDF k n x
 | 0,x=>by simp [MSK,ADDF]
 | n+1,x=>by
   rw [zaf,zaf,ze8,ADDF,<-z6u k n (x / 2 ^ (2*k)),Nat.mul_add];omega
theorem zb1 {k:Nat} (hk:1<=k):2<=2 ^ k:=Nat.le_trans (by decide) (Nat.pow_le_pow_right (n:=2) (by decide) hk)
theorem z6v {k:Nat} (hk:1<=k) (x:Nat):x % 2 ^ k+x / 2 ^ k % 2 ^ k<2 ^ (2*k):=by
 have h1:=Nat.mod_lt x (Nat.two_pow_pos k);have h2:=Nat.mod_lt (x / 2 ^ k) (Nat.two_pow_pos k);have h3:2*2 ^ k<=2 ^ k*2 ^ k:=Nat.mul_le_mul_right _ (zb1 hk);rw [z26];omega
theorem z7R {k:Nat} (hk:1<=k) (n x:Nat):ADDF k (n+1) x % 2 ^ (2*k)=x % 2 ^ k+x / 2 ^ k % 2 ^ k:=by
 rw [ADDF,Nat.add_mul_mod_self_left,Nat.mod_eq_of_lt (z6v hk x)]
theorem z6X {k:Nat} (hk:1<=k) (n x:Nat):ADDF k (n+1) x / 2 ^ (2*k)=ADDF k n (x / 2 ^ (2*k)):=by
 rw [ADDF,Nat.add_mul_div_left _ _ (Nat.two_pow_pos _),Nat.div_eq_of_lt (z6v hk x),Nat.zero_add]
theorem z3d {k:Nat} (hk:1<=k):∀ (n x:Nat),DSUM (2*k) n (ADDF k n x)=DSUM k (2*n) x
 | 0,x=>rfl
 | n+1,x=>by
   rw [DSUM,z7R hk,z6X hk,z3d hk n,show 2*(n+1)=2*n+1+1 by omega,DSUM,DSUM,Nat.div_div_eq_div_mul,<-z26];omega
theorem z3D {k D:Nat} (hk:1<=k):∀ (n x:Nat),DLE k D (2*n) x->DLE (2*k) (2*D) n (ADDF k n x)
 | 0,_,_=>trivial
 | n + 1,x,h=>by
   rw [show 2*(n+1)=2*n+1+1 by omega] at h;obtain ⟨h1,h2,h3⟩:=h;refine ⟨?_,?_⟩
   ·rw [z7R hk]
    omega
   ·rw [z6X hk]
    refine z3D hk n _ ?_;rw [Nat.div_div_eq_div_mul,<-z26] at h3;exact h3
theorem z7S:∀ (n x:Nat),DLE 1 1 n x
 | 0,_=>trivial
 | n+1,_=>⟨by omega,z7S n _⟩
theorem z6Y {k D:Nat} (hk:1<=k) (hD:2*D<2 ^ k):∀ (n x:Nat),x<2 ^ (2*k*n)->DLE k D (2*n) x->(x / 2 ^ k+x) &&& MSK k n=ADDF k n x
 | 0,x,_,_=>by simp [MSK,ADDF]
 | n + 1,x,hx,h=>by
   rw [show 2*(n+1)=2*n+1+1 by omega] at h;obtain ⟨h1,h2,h3⟩:=h;rw [Nat.div_div_eq_div_mul,<-z26] at h3;have hq:x / 2 ^ (2*k)<2 ^ (2*k*n):=Nat.div_lt_of_lt_mul (by rw [<-Nat.pow_add,show 2*k+2*k*n=2*k*(n+1) by rw [Nat.mul_add,Nat.mul_one,Nat.add_comm]];exact hx);have ih:=z6Y hk hD n (x / 2 ^ (2*k)) hq h3
   have hq0:x / 2 ^ (2*k) % 2 ^ k<=D:=by
    cases n with
    | zero=>
      have:x / 2 ^ (2*k)=0:=by simpa using hq
      rw [this];simp
    | succ n=>exact h3.1
   have hp:=Nat.two_pow_pos k
   have e1:x=x % 2 ^ k+2 ^ k*(x / 2 ^ k % 2 ^ k)+2 ^ k*2 ^ k*(x / 2 ^ (2*k)):=by
    have a:=(Nat.mod_add_div x (2 ^ k)).symm;have b:=(Nat.mod_add_div (x / 2 ^ k) (2 ^ k)).symm;rw [Nat.div_div_eq_div_mul,<-z26] at b;conv=>lhs;rw [a,b]
    rw [Nat.mul_add,<-Nat.mul_assoc,Nat.add_assoc]
   have e2:x / 2 ^ k=x / 2 ^ k % 2 ^ k+2 ^ k*(x / 2 ^ (2*k) % 2 ^ k)+2 ^ k*2 ^ k*(x / 2 ^ (2*k) / 2 ^ k):=by
    have a:=(Nat.mod_add_div (x / 2 ^ k) (2 ^ k)).symm;rw [Nat.div_div_eq_div_mul,<-z26] at a;have b:=(Nat.mod_add_div (x / 2 ^ (2*k)) (2 ^ k)).symm;conv=>lhs;rw [a,b]
    rw [Nat.mul_add,<-Nat.mul_assoc,Nat.add_assoc]
   have e3:x / 2 ^ k+x=(x % 2 ^ k+x / 2 ^ k % 2 ^ k+2 ^ k*(x / 2 ^ k % 2 ^ k+x / 2 ^ (2*k) % 2 ^ k))+2 ^ (2*k)*(x / 2 ^ (2*k) / 2 ^ k+x / 2 ^ (2*k)):=by
    conv=>lhs;rw [e2];arg 2;rw [e1]
    rw [z26,Nat.mul_add,Nat.mul_add];omega
   have hlow:x % 2 ^ k+x / 2 ^ k % 2 ^ k+2 ^ k*(x / 2 ^ k % 2 ^ k+x / 2 ^ (2*k) % 2 ^ k)<2 ^ (2*k):=by
    have h4:2 ^ k*(x / 2 ^ k % 2 ^ k+x / 2 ^ (2*k) % 2 ^ k)<=2 ^ k*(2 ^ k - 1):=Nat.mul_le_mul_left _ (by omega);rw [Nat.mul_sub,Nat.mul_one] at h4;have h5:2 ^ k<=2 ^ k*2 ^ k:=Nat.le_mul_of_pos_left _ hp;have h6:=z26 k;generalize 2 ^ k*(x / 2 ^ k % 2 ^ k+x / 2 ^ (2*k) % 2 ^ k)=y at h4;generalize x / 2 ^ (2*k) % 2 ^ k=z at *
    generalize 2 ^ k*2 ^ k=u at *
    generalize 2 ^ (2*k)=v at *
    omega
   rw [e3];show _ &&& ((2 ^ k - 1)+2 ^ (2*k)*MSK k n)=_;rw [z6W _ _ _ _ _ hlow (zcl k),Nat.and_two_pow_sub_one_eq_mod,ih,Nat.add_mul_mod_self_left,Nat.mod_eq_of_lt (by omega),ADDF]
def POP (X:Nat):Nat:=DSUM 1 64 X
theorem zhJ:MSK 1 32=6148914691236517205:=by decide
theorem zhK:MSK 2 16=3689348814741910323:=by decide
theorem zhL:MSK 4 8=1085102592571150095:=by decide
theorem z4Q {k:Nat} (hk:1<=k):∀ (n x:Nat),ADDF k n x<2 ^ (2*k*n)
 | 0,_=>by simp [ADDF]
 | n+1,x=>by
   have h1:=z4Q hk n (x / 2 ^ (2*k));have h2:=z6v hk x;rw [ADDF,show 2*k*(n+1)=2*k*n+2*k by rw [Nat.mul_add,Nat.mul_one],Nat.pow_add];have h3:2 ^ (2*k)*ADDF k n (x / 2 ^ (2*k))<=2 ^ (2*k)*(2 ^ (2*k*n) - 1):=Nat.mul_le_mul_left _ (by omega);rw [Nat.mul_sub,Nat.mul_one,Nat.mul_comm _ (2 ^ (2*k*n))] at h3;have h4:2 ^ (2*k)<=2 ^ (2*k*n)*2 ^ (2*k):=Nat.le_mul_of_pos_left _ (Nat.two_pow_pos _);omega
theorem z6w {a b q:Nat} (h:b<a):(b+a*q) / a=q:=by rw [Nat.add_mul_div_left _ _ (by omega),Nat.div_eq_of_lt h,Nat.zero_add]
theorem zh8 {d0 d1 d2 x R1 R2 R3:Nat} (e0:x=d0+256*R1) (e1:R1=d1+256*R2) (e2:R2=d2+256*R3):x+R1=(d0+d1+256*(d1+d2))+65536*(R2+R3):=by
 subst e0 e1 e2;omega
theorem zh9 {d0 d1 d2 d3 d4 d5 d6 d7 x R1 R2 R3 R4 R5 R6:Nat} (e0:x=d0+256*R1) (e1:R1=d1+256*R2) (e2:R2=d2+256*R3) (e3:R3=d3+256*R4) (e4:R4=d4+256*R5) (e5:R5=d5+256*R6) (e6:R6=d6+256*d7):
  x+R1+(R2+R3)=(d0+d1+d2+d3+256*(d1+d2+d3+d4)+65536*(d2+d3+d4+d5)+16777216*(d3+d4+d5+d6))+4294967296*(R4+R5+R6+d7):=by
 subst e0 e1 e2 e3 e4 e5 e6;omega
theorem zha {d0 d1 d2 d3 d4 d5 d6 d7 x R1 R2 R3 R4 R5 R6:Nat} (e0:x=d0+256*R1) (e1:R1=d1+256*R2) (e2:R2=d2+256*R3) (e3:R3=d3+256*R4) (e4:R4=d4+256*R5) (e5:R5=d5+256*R6) (e6:R6=d6+256*d7):
  x+R1+(R2+R3)+(R4+R5+R6+d7)=(d0+(d1+(d2+(d3+(d4+(d5+(d6+d7)))))))+128*(2*(R1+R2+R3+R4+R5+R6+d7)):=by
 rw [e0]
 have h:R1+(R2+R3)+(R4+R5+R6+d7)=(d1+256*R2)+((d2+256*R3)+(d3+256*R4))+((d4+256*R5)+(d5+256*R6)+(d6+256*d7)+d7):=by
  rw [<-e1,<-e2,<-e3,<-e4,<-e5,<-e6]
 clear e0 e1 e2 e3 e4 e5 e6;omega
theorem z3E {d7 d6 R6:Nat} {B:Nat} (e6:R6=d6+256*d7) (h6:d6<=8) (h7:d7<=B):R6<=8+256*B:=by
 subst e6;omega
theorem ze9 {d0 d1 d2:Nat} (h0:d0<=8) (h1:d1<=8) (h2:d2<=8):d0+d1+256*(d1+d2)<65536:=by omega
theorem zea {d0 d1 d2 d3 d4 d5 d6:Nat} (h0:d0<=8) (h1:d1<=8) (h2:d2<=8) (h3:d3<=8) (h4:d4<=8) (h5:d5<=8) (h6:d6<=8):d0+d1+d2+d3+256*(d1+d2+d3+d4)+65536*(d2+d3+d4+d5)+16777216*(d3+d4+d5+d6)<4294967296:=by omega
theorem zeb {d0 d1 d2 d3 d4 d5 d6 d7:Nat} (h0:d0<=8) (h1:d1<=8) (h2:d2<=8) (h3:d3<=8) (h4:d4<=8) (h5:d5<=8) (h6:d6<=8) (h7:d7<=8):d0+(d1+(d2+(d3+(d4+(d5+(d6+d7))))))<128:=by omega
theorem zg1 {x R1 R2 R3 R4 R5 R6 d7:Nat} (h7:d7<=8) (b6:R6<=8+256*8) (b5:R5<=8+256*(8+256*8)) (b4:R4<=8+256*(8+256*(8+256*8))) (b3:R3<=8+256*(8+256*(8+256*(8+256*8)))) (b2:R2<=8+256*(8+256*(8+256*(8+256*(8+256*8))))) (b1:R1<=8+256*(8+256*(8+256*(8+256*(8+256*(8+256*8)))))) (b0:x<=8+256*(8+256*(8+256*(8+256*(8+256*(8+256*(8+256*8))))))):
 x+R1+(R2+R3)+(R4+R5+R6+d7)<2 ^ 64:=by omega
theorem zb2 (d0 d1 d2 d3 d4 d5 d6 d7:Nat) (h0:d0<=8) (h1:d1<=8) (h2:d2<=8) (h3:d3<=8) (h4:d4<=8) (h5:d5<=8) (h6:d6<=8) (h7:d7<=8) (x R1 R2 R3 R4 R5 R6:Nat)
  (e0:x=d0+256*R1) (e1:R1=d1+256*R2) (e2:R2=d2+256*R3) (e3:R3=d3+256*R4) (e4:R4=d4+256*R5) (e5:R5=d5+256*R6) (e6:R6=d6+256*d7):
  (x+x / 256+(x+x / 256) / 65536+(x+x / 256+(x+x / 256) / 65536) / 4294967296) % 128=d0+(d1+(d2+(d3+(d4+(d5+(d6+d7))))))/\x+x / 256+(x+x / 256) / 65536+(x+x / 256+(x+x / 256) / 65536) / 4294967296<2 ^ 64:=by
 have q1:x / 256=R1:=by rw [e0];exact z6w (Nat.lt_of_le_of_lt h0 (by decide))
 have q2:(x+R1) / 65536=R2+R3:=by rw [zh8 e0 e1 e2];exact z6w (ze9 h0 h1 h2)
 have q3:(x+R1+(R2+R3)) / 4294967296=R4+R5+R6+d7:=by rw [zh9 e0 e1 e2 e3 e4 e5 e6];exact z6w (zea h0 h1 h2 h3 h4 h5 h6)
 rw [q1,q2,q3];have b6:=z3E e6 h6 h7;have b5:=z3E e5 h5 b6;have b4:=z3E e4 h4 b5;have b3:=z3E e3 h3 b4;have b2:=z3E e2 h2 b3;have b1:=z3E e1 h1 b2;have b0:=z3E e0 h0 b1;refine ⟨?_,zg1 h7 b6 b5 b4 b3 b2 b1 b0⟩;rw [zha e0 e1 e2 e3 e4 e5 e6,Nat.add_mul_mod_self_left,Nat.mod_eq_of_lt (zeb h0 h1 h2 h3 h4 h5 h6 h7)]
theorem zec {x:Nat} (hx:x<2 ^ 64) (h:DLE 8 8 8 x):(x+x / 256+(x+x / 256) / 65536+(x+x / 256+(x+x / 256) / 65536) / 4294967296) % 128=DSUM 8 8 x/\x+x / 256+(x+x / 256) / 65536+(x+x / 256+(x+x / 256) / 65536) / 4294967296<2 ^ 64:=by
 obtain ⟨h0,h1,h2,h3,h4,h5,h6,h7,_⟩:=h;simp only [DSUM,Nat.add_zero];simp only [Nat.reducePow] at *
 have l7:x / 256 / 256 / 256 / 256 / 256 / 256 / 256<256:=by
  have e:x / 256 / 256 / 256 / 256 / 256 / 256 / 256=x / 72057594037927936:=by simp only [Nat.div_div_eq_div_mul]
  rw [e];exact Nat.div_lt_of_lt_mul hx
 rw [Nat.mod_eq_of_lt l7] at h7 ⊢
 exact zb2 _ _ _ _ _ _ _ _ h0 h1 h2 h3 h4 h5 h6 h7 x (x / 256) (x / 256 / 256) (x / 256 / 256 / 256) (x / 256 / 256 / 256 / 256) (x / 256 / 256 / 256 / 256 / 256) (x / 256 / 256 / 256 / 256 / 256 / 256)
  (Nat.mod_add_div _ _).symm (Nat.mod_add_div _ _).symm (Nat.mod_add_div _ _).symm (Nat.mod_add_div _ _).symm (Nat.mod_add_div _ _).symm (Nat.mod_add_div _ _).symm (Nat.mod_add_div _ _).symm
def X1 (X:Nat):Nat:=(X / 2 &&& 6148914691236517205)+(X &&& 6148914691236517205)
def X2 (X:Nat):Nat:=(X1 X / 4 &&& 3689348814741910323)+(X1 X &&& 3689348814741910323)
def X3 (X:Nat):Nat:=(X2 X / 16+X2 X) &&& 1085102592571150095
theorem zb3 (X:Nat):X1 X=ADDF 1 32 X:=by
 have:=z6u 1 32 X;rw [zhJ] at this;exact this
theorem zb4 (X:Nat):X2 X=ADDF 2 16 (X1 X):=by
 have:=z6u 2 16 (X1 X);rw [zhK] at this;exact this
theorem zb5 (X:Nat):DLE 4 4 16 (X2 X):=by
 rw [zb4];refine z3D (k:=2) (D:=2) (by decide) 16 _ ?_;rw [zb3];exact z3D (k:=1) (D:=1) (by decide) 32 _ (z7S 64 X)
theorem zfS (X:Nat):X2 X<2 ^ 64:=by
 rw [zb4];exact z4Q (k:=2) (by decide) 16 _
theorem zb6 (X:Nat):X3 X=ADDF 4 8 (X2 X):=by
 have:=z6Y (k:=4) (D:=4) (by decide) (by decide) 8 (X2 X) (zfS X) (zb5 X);rw [zhL] at this;exact this
theorem zhM (X:Nat):DLE 8 8 8 (X3 X):=by
 rw [zb6];exact z3D (k:=4) (D:=4) (by decide) 8 _ (zb5 X)
theorem zhN (X:Nat):X3 X<2 ^ 64:=by
 rw [zb6];exact z4Q (k:=4) (by decide) 8 _
theorem zhb (X:Nat):DSUM 8 8 (X3 X)=POP X:=by
 rw [zb6];have a:=z3d (k:=4) (by decide) 8 (X2 X);have b:=z3d (k:=2) (by decide) 16 (X1 X);have c:=z3d (k:=1) (by decide) 32 X;rw [<-zb4] at b;rw [<-zb3] at c;exact a.trans (b.trans c)
end Go.Proofs.YtlbcnaenhghieaaGreatDoor
