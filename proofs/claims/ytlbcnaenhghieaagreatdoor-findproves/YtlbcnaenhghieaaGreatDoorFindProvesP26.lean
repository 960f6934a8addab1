/- FindProves: part 26. -/
import Derived.Test.YtlbcnaenhghieaaGreatDoorFindProvesP25
set_option maxHeartbeats 2000000
namespace Go.Proofs.YtlbcnaenhghieaaGreatDoor
open Go.RowKit
set_option maxRecDepth 100000
theorem z5g {w w':World} {g o:Nat} {cs:List Value} (h:w.rangeAt g o cs) (hb:Below w.heap.size w w') (hg:g<w.heap.size):w'.rangeAt g o cs:=fun j v hv=>(hb.cell (p:=⟨g,o+j,none⟩) hg).trans (h j v hv)
theorem Flat.other {w:World} {b o n:Nat} {l:List Int} (h:Flat w (some ⟨b,o,none⟩) n l) {a:Addr} (ha:b≠a.block) (u:Value):Flat (w.setCell a u) (some ⟨b,o,none⟩) n l:=
 ⟨h.1,fun hn=>by
  obtain ⟨b',o',e,hl,hc⟩:=h.2.1 hn;cases e;exact ⟨b,o,rfl,Nat.lt_of_lt_of_le hl (KeepsWalks.setCell w a u).size,fun j hj=>(World.cell?_setCell_other w _ _ u (fun e=>ha (congrArg Addr.block e).symm)).trans (hc j hj)⟩,h.2.2⟩
theorem z8M {w:World} {B n:Nat} {a:Option Addr} {c:Nat} {l:List Int} (h:w.ownsRow B 25 32 (.slice a n c) n (z00 l)) (hr:∀ x∈l,0<=x/\x<=255):Flat w a n l:=by
 have hl:l.length=32*n:=by have:=h.1;simpa [z00,Nat.mul_comm] using this
 refine ⟨hl,fun hn=>?_,hr⟩;rcases h.2 with ⟨e,h0⟩ | ⟨g,cap,cur,e,_,hg,_⟩
 ·omega
 ·cases e
  refine ⟨g,0,rfl,(Array.getElem?_eq_some_iff.1 hg).1,fun j hj=>?_⟩;have:=h.cellAt j (by omega);rw [Nat.zero_add,this,z0K l j (by omega)]
theorem Bytes.take {w:World} {a:Option Addr} {n:Nat} {l:List Int} (h:Bytes w a n l) {m:Nat} (hm:m<=n):Bytes w a m (l.take m):=by
 refine ⟨by rw [List.length_take,h.1];omega,fun h0=>?_,fun x hx=>h.2.2 x (List.mem_of_mem_take hx)⟩;obtain ⟨b,o,e,hb,hc⟩:=h.2.1 (by omega);refine ⟨b,o,e,hb,fun i hi=>?_⟩;rw [hc i (by omega),List.getD_eq_getElem?_getD,List.getD_eq_getElem?_getD,List.getElem?_take,if_pos hi]
theorem z23 {w:World} {g:Nat} {l:List Int} {t:TypeId} (h:Has w g (z00 l).toArray t):w.rangeAt g 0 (z00 l):=fun j v hv=>by rw [Nat.zero_add,h.cell,List.getElem?_toArray];exact hv
def CAT (M:Nat->Nat->List Int) (ss:List (Nat × Nat)):List Int:=ss.flatMap fun s=>M s.1 s.2
theorem zfl {M:Nat->Nat->List Int} {ss:List (Nat × Nat)} {i h k:Nat} (hs:ss[i]?=some (h,k)):CAT M (ss.take (i+1))=CAT M (ss.take i) ++ M h k:=by
 rw [List.take_add_one,hs];simp [CAT]
theorem z3r {fn:Func} {p q:Tmp} {ty:TypeId} (h:fn.results=#[.cell p ty,.tmp q]) (tmps:Array Value) (w:World) (g:Nat) (t:TypeId) (cs:Array Value) (fr:Nat × Nat) (k:Nat) (el:TypeId) (v:Value)
  (hp:tmps.getD p undef=.pointer (some ⟨g,0,none⟩)) (hv:tmps.getD q undef=v) (hg:w.heap[g]?=some (.cells cs t fr))
  (hu:Tryz.prog.underlying ty=some (.array k el)) (hi:(Tryz.prog.info? ty).map (·.size)=some cs.size):
  (results fn tmps).run Tryz.prog w=.ok (.tuple #[.agg cs,v]) w:=by
 have hp':tmps[p]?.getD undef=.pointer (some ⟨g,0,none⟩):=by simpa using hp
 have hv':tmps[q]?.getD undef=v:=by simpa using hv
 simp [results,h,hp',hv',asAddr,run_loadVar_row w g t ty cs fr (.array k el) hg hu rfl hi]
def z6h (xs:List Value):Nat->List Value->List Value
 | _,[]=>xs
 | o,v :: vs=>z6h (xs.set o v) (o+1) vs
theorem z8N:∀ (vs xs:List Value) (o:Nat),o+vs.length<=xs.length->z6h xs o vs=xs.take o ++ vs ++ xs.drop (o+vs.length)
 | [],xs,o,_=>by simp [z6h]
 | v :: vs,xs,o,h=>by
   simp only [List.length_cons] at h;rw [z6h,z8N vs (xs.set o v) (o+1) (by rw [List.length_set];omega)];rw [List.take_set,List.drop_set,if_pos (by omega)];rw [List.take_add_one,List.getElem?_eq_getElem (by omega)];simp only [Option.toList_some,List.length_cons];rw [List.set_append_right _ _ (by simp;omega)];simp only [List.length_take,show min o xs.length=o by omega,Nat.sub_self,List.set_cons_zero];simp [Nat.add_comm,Nat.add_left_comm]
theorem z8O {B:Nat} {t:TypeId} {s g n c:Nat}:∀ (vs xs:List Value) (o:Nat) (w:World),w.ownsRow B t s (.slice (some ⟨g,0,none⟩) n c) n xs->(w.setCells g o vs).ownsRow B t s (.slice (some ⟨g,0,none⟩) n c) n (z6h xs o vs)/\w.grownBy (w.setCells g o vs) (some g)
 | [],xs,o,w,h=>⟨h,z1M _ _⟩
 | v :: vs,xs,o,w,h=>by
   obtain ⟨h1,h2⟩:=h.stored o v;obtain ⟨h3,h4⟩:=z8O vs _ (o+1) _ h1;exact ⟨h3,z9x h2 h4 (.inl rfl)⟩
def MK (m:Int):List Int:=m :: List.replicate 31 0
structure RND where
 hash:List Int
 live:Bool
 pins:Nat
def ZRN:RND:=⟨ZND,false,0⟩
def NC (v:RND):List Value:=z00 v.hash ++ [.bool v.live,.int .i64 (v.pins:Int)]
def NCS (l:List RND):List Value:=l.flatMap NC
theorem z1t {v:RND} (h:v.hash.length=32):(NC v).length=34:=by simp [NC,z00,h]
theorem z46 {l:List RND} (h:∀ v∈l,v.hash.length=32):(NCS l).length=l.length*34:=by
 induction l with
 | nil=>rfl
 | cons x l ih=>
   unfold NCS at ih ⊢;rw [List.flatMap_cons,List.length_append,z1t (h x (List.mem_cons_self ..)),ih fun v hv=>h v (List.mem_cons_of_mem _ hv),List.length_cons];omega
theorem zhx {l:List RND} (h:∀ v∈l,v.hash.length=32) {p:Nat} {v:RND} (hp:l[p]?=some v) {j:Nat} (hj:j<34):(NCS l)[p*34+j]?=(NC v)[j]?:=by
 induction l generalizing p with
 | nil=>simp at hp
 | cons x l ih=>
   have hx:=z1t (h x (List.mem_cons_self ..));have e:NCS (x :: l)=NC x ++ NCS l:=by simp [NCS]
   rw [e];cases p with
   | zero=>
     simp only [List.getElem?_cons_zero,Option.some.injEq] at hp;subst hp;rw [Nat.zero_mul,Nat.zero_add,List.getElem?_append_left (by omega)]
   | succ p=>
     rw [List.getElem?_append_right (by omega),hx,show (p+1)*34+j - 34=p*34+j by omega];exact ih (fun v hv=>h v (List.mem_cons_of_mem _ hv)) (by simpa using hp)
theorem zfm (l:List RND) (v:RND):NCS (l ++ [v])=NCS l ++ NC v:=by simp [NCS]
structure RSTORE (w:World) (B gs:Nat) (log:Int) (l:List RND) (a:Option Addr) (c:Nat):Prop where
 box:Has w gs #[.int .i64 log,.slice a l.length c] 81
 own:w.ownsRow B 78 34 (.slice a l.length c) l.length (NCS l)
 ne:(Value.slice a l.length c).ownBlock≠some gs
 is:∀ v∈l,v.hash.length=32
 few:l.length<=100000
 base:B<=gs
theorem z24 {w w':World} {B s n:Nat} {t:TypeId} {v:Value} {xs:List Value} (h:w.ownsRow B t s v n xs) (hk:∀ k,v.ownBlock=some k->w'.heap[k]?=w.heap[k]?):w'.ownsRow B t s v n xs:=by
 refine ⟨h.1,?_⟩;rcases h.2 with h | ⟨g,cap,cur,rfl,hb,hg,r⟩
 ·exact .inl h
 ·exact .inr ⟨g,cap,cur,rfl,hb,(hk g rfl).trans hg,r⟩
theorem RSTORE.keep {w w':World} {B gs:Nat} {log:Int} {l:List RND} {a:Option Addr} {c:Nat} (h:RSTORE w B gs log l a c) (hs:w'.heap[gs]?=w.heap[gs]?) (hk:∀ k,(Value.slice a l.length c).ownBlock=some k->w'.heap[k]?=w.heap[k]?):RSTORE w' B gs log l a c:=
 ⟨hs.trans h.box,z24 h.own hk,h.ne,h.is,h.few,h.base⟩
theorem RSTORE.below {w w':World} {B gs:Nat} {log:Int} {l:List RND} {a:Option Addr} {c:Nat} (h:RSTORE w B gs log l a c) (hb:Below w.heap.size w w'):RSTORE w' B gs log l a c:=
 h.keep (hb.block gs h.box.lt) fun k e=>hb.block k (h.own.lt k e).2
theorem z6i {w:World} {base:Nat} {t:TypeId} {s:Nat} {v:Value} {n:Nat} {xs:List Value} (h:w.ownsRow base t s v n xs):∃ ad cap,v=.slice ad n cap/\n<=cap/\(0<n->∃ g,ad=some ⟨g,0,none⟩/\base<=g/\g<w.heap.size):=by
 rcases h.2 with ⟨rfl,rfl⟩ | ⟨g,cap,cur,rfl,hb,hg,hc,_⟩
 ·exact ⟨none,0,rfl,Nat.le_refl _,fun h=>absurd h (Nat.lt_irrefl _)⟩
 ·exact ⟨_,cap,rfl,hc,fun _=>⟨g,rfl,hb,(Array.getElem?_eq_some_iff.1 hg).1⟩⟩
theorem RSTORE.node {w:World} {B gs:Nat} {log:Int} {l:List RND} {a:Option Addr} {c:Nat} (h:RSTORE w B gs log l a c) {p:Nat} {v:RND} (hp:l[p]?=some v):∃ gn,a=some ⟨gn,0,none⟩/\B<=gn/\gn<w.heap.size/\gn≠gs/\p<l.length/\w.rangeAt gn (p*34) (z00 v.hash)/\w.cell? ⟨gn,p*34+32,none⟩=some (.bool v.live)/\w.cell? ⟨gn,p*34+33,none⟩=some (.int .i64 (v.pins:Int)):=by
 have hlt:=(List.getElem?_eq_some_iff.1 hp).1;obtain ⟨ad,cap,e,_,hsh⟩:=z6i h.own;obtain ⟨gn,e2,h1,h2⟩:=hsh (by omega);simp only [Value.slice.injEq] at e;obtain ⟨rfl, -,rfl⟩:=e;subst e2;have hl:=z46 h.is;have hv:=h.is v (List.mem_of_getElem? hp)
 have cell:∀ j,j<34->w.cell? ⟨gn,p*34+j,none⟩=(NC v)[j]?:=fun j hj=>by
  rw [h.own.cellAt (p*34+j) (by omega),zhx h.is hp hj]
 have hc:(z00 v.hash).length=32:=by simp [z00,hv]
 refine ⟨gn,rfl,h1,h2,fun e=>h.ne (by rw [e];rfl),hlt,fun j u hj=>?_,?_,?_⟩
 ·have hj32:=(List.getElem?_eq_some_iff.1 hj).1
  rw [cell j (by omega),NC,List.getElem?_append_left hj32];exact hj
 ·rw [cell 32 (by omega),NC,List.getElem?_append_right (by omega),hc]
  rfl
 ·rw [cell 33 (by omega),NC,List.getElem?_append_right (by omega),hc]
  rfl
theorem zaS {n:Nat} (h:n<=100000):IntKind.u64.wrap (n:Int)=(n:Int):=by rw [IntKind.wrap_u64];omega
theorem z7q {w:World} {B gs:Nat} {log:Int} {l:List RND} {a:Option Addr} {c:Nat} (h:RSTORE w B gs log l a c) (p:Nat):Calls Tryz.prog 28 #[.pointer (some ⟨gs,0,none⟩),.int .u64 (p:Int)] w fun e w'=>e=.returned (.bool (decide (p<l.length)))/\w=w':=by
 have x1:w.cell? ⟨gs,1,none⟩=some (.slice a l.length c):=h.box.cell 1;have eu:=zaS h.few;clear h;by_cases hp:p<l.length
 ·rw [decide_eq_true hp]
  have i1:(p:Int)<(l.length:Int):=by omega
  generalize l.length=n at *
  clear hp;go_enter Tryz.func28,Tryz.ntmps28;go_wp2;go_ret;exact ⟨rfl,rfl⟩
 ·rw [decide_eq_false hp]
  have i1:¬ (p:Int)<(l.length:Int):=by omega
  generalize l.length=n at *
  clear hp;go_enter Tryz.func28,Tryz.ntmps28;go_wp2;go_ret;exact ⟨rfl,rfl⟩
def RGOT (l:List RND) (p:Nat):Int × List Int:=match l[p]? with
 | none=>(31,ZND)
 | some v=>if v.live then (0,v.hash) else (50,ZND)
theorem zgG {w:World} {B gs:Nat} {log:Int} {l:List RND} {a:Option Addr} {c:Nat} (h:RSTORE w B gs log l a c) (p:Nat):Calls Tryz.prog 32 #[.pointer (some ⟨gs,0,none⟩),.int .u64 (p:Int)] w fun e w'=>e=.returned (.tuple #[.agg (z00 (RGOT l p).2).toArray,.int .i64 (RGOT l p).1])/\Below w.heap.size w w':=by
 obtain ⟨W0,hW0⟩:∃ W0,w.alloc (.cells ZARR 25)=W0:=⟨_,rfl⟩
 have hb0:Below w.heap.size w W0:=by rw [<-hW0];exact (Below.refl _ _).alloc (Nat.le_refl _) _
 have kz:Has W0 w.heap.size (z00 ZND).toArray 25:=by rw [<-hW0,zgl];exact Has.new _ _ _
 have h0:=h.below hb0;have ct:=z7q h0 p;have R0:Aside (Below w.heap.size w W0/\Has W0 w.heap.size (z00 ZND).toArray 25):=⟨hb0,kz⟩
 have x1:W0.cell? ⟨gs,1,none⟩=some (.slice a l.length c):=h0.box.cell 1;have hq:=fun (v:RND) (hv:l[p]?=some v)=>h0.node hv;have hI:=h.is;have hW0':w.alloc (.cells #[.int .u8 0,.int .u8 0,.int .u8 0,.int .u8 0,.int .u8 0,.int .u8 0,.int .u8 0,.int .u8 0,.int .u8 0,.int .u8 0,.int .u8 0,.int .u8 0,.int .u8 0,.int .u8 0,.int .u8 0,.int .u8 0,.int .u8 0,.int .u8 0,.int .u8 0,.int .u8 0,.int .u8 0,.int .u8 0,.int .u8 0,.int .u8 0,.int .u8 0,.int .u8 0,.int .u8 0,.int .u8 0,.int .u8 0,.int .u8 0,.int .u8 0,.int .u8 0] 25)=W0:=hW0;generalize hbz:w.heap.size=bz at *
 clear h h0 hb0 hW0;unfold RGOT;cases hp:l[p]? with
 | none=>
   have hge:¬ p<l.length:=fun h=>by rw [List.getElem?_eq_getElem h] at hp;cases hp
   rw [decide_eq_false hge] at ct;clear hq hge hp hI;go_enter Tryz.func32,Tryz.ntmps32;go_upto_region 1 with fail
   clear hW0' hbz;go_wp2_with fail
   refine ct.mono ?_;rintro e w1 ⟨rfl,rfl⟩;clear ct x1;go_wp2_with (rw [show (#[.int .u8 0,.int .u8 0,.int .u8 0,.int .u8 0,.int .u8 0,.int .u8 0,.int .u8 0,.int .u8 0,.int .u8 0,.int .u8 0,.int .u8 0,.int .u8 0,.int .u8 0,.int .u8 0,.int .u8 0,.int .u8 0,.int .u8 0,.int .u8 0,.int .u8 0,.int .u8 0,.int .u8 0,.int .u8 0,.int .u8 0,.int .u8 0,.int .u8 0,.int .u8 0,.int .u8 0,.int .u8 0,.int .u8 0,.int .u8 0,.int .u8 0,.int .u8 0]:Array Value)=(z00 ZND).toArray from rfl];refine wpList_store_row rfl 25 (.tmp 4) (.tmp 10) rfl _ _ rfl rfl 25 _ kz (z0V rfl) rfl (z20 ZND) ?_)
   refine bodyPost_ret (v:=.tuple #[.agg (z00 ZND).toArray,.int .i64 31]) (z3r rfl _ _ bz 25 _ (0,0) _ _ _ rfl rfl (Has.row kz _) Tryz.underlying25 (z0V rfl)) rfl ⟨rfl,z0d R0.out.1 (Nat.le_refl _) _⟩
 | some v=>
   obtain ⟨gn,rfl,_,_,_,hlt,hrg,hlv,_⟩:=hq v hp;have hl32:=hI v (List.mem_of_getElem? hp);rw [decide_eq_true hlt] at ct;have i1:(p:Int)<(l.length:Int):=by omega
   clear hp hI hlt hq;generalize l.length=n at *
   obtain ⟨hash,live,pins⟩:=v;dsimp only at *
   cases live with
   | true=>
     rw [if_pos rfl];go_enter Tryz.func32,Tryz.ntmps32;go_upto_region 1 with fail
     clear hW0' hbz;go_wp2_with fail
     refine ct.mono ?_;rintro e w1 ⟨rfl,rfl⟩;clear ct
     go_wp2_with (first
      | (refine wpList_load_mid rfl 25 (.tmp 27) rfl gn (p*34) rfl (z00 hash) _ hrg Tryz.underlying25 rfl (z0g hl32) ?_)
      | (refine wpList_store_row rfl 25 (.tmp 4) (.tmp 28) rfl _ _ rfl rfl 25 _ kz (z0V hl32) (by simp [z00,hl32,ZND]) (z20 hash) ?_)
      | fail)
     refine bodyPost_ret (v:=.tuple #[.agg (z00 hash).toArray,.int .i64 0]) (z3r rfl _ _ bz 25 _ (0,0) _ _ _ rfl rfl (Has.row kz _) Tryz.underlying25 (z0V hl32)) rfl ⟨rfl,z0d R0.out.1 (Nat.le_refl _) _⟩
   | false=>
     rw [if_neg (by decide)];go_enter Tryz.func32,Tryz.ntmps32;go_upto_region 1 with fail
     clear hW0' hbz;go_wp2_with fail
     refine ct.mono ?_;rintro e w1 ⟨rfl,rfl⟩;clear ct;go_wp2_with (rw [show (#[.int .u8 0,.int .u8 0,.int .u8 0,.int .u8 0,.int .u8 0,.int .u8 0,.int .u8 0,.int .u8 0,.int .u8 0,.int .u8 0,.int .u8 0,.int .u8 0,.int .u8 0,.int .u8 0,.int .u8 0,.int .u8 0,.int .u8 0,.int .u8 0,.int .u8 0,.int .u8 0,.int .u8 0,.int .u8 0,.int .u8 0,.int .u8 0,.int .u8 0,.int .u8 0,.int .u8 0,.int .u8 0,.int .u8 0,.int .u8 0,.int .u8 0,.int .u8 0]:Array Value)=(z00 ZND).toArray from rfl];refine wpList_store_row rfl 25 (.tmp 4) (.tmp 20) rfl _ _ rfl rfl 25 _ kz (z0V rfl) rfl (z20 ZND) ?_)
     refine bodyPost_ret (v:=.tuple #[.agg (z00 ZND).toArray,.int .i64 50]) (z3r rfl _ _ bz 25 _ (0,0) _ _ _ rfl rfl (Has.row kz _) Tryz.underlying25 (z0V rfl)) rfl ⟨rfl,z0d R0.out.1 (Nat.le_refl _) _⟩
theorem zaT {x:RND} (hx:x.hash.length=32):∀ {l:List RND},(∀ v∈l,v.hash.length=32)->∀ {p:Nat},p<l.length->NCS (l.set p x)=(NCS l).take (p*34) ++ NC x ++ (NCS l).drop (p*34+34)
 | [],_,p,hp=>by simp at hp
 | y :: l,h,p,hp=>by
   have hy:=z1t (h y (List.mem_cons_self ..));have e:∀ (z:RND) (m:List RND),NCS (z :: m)=NC z ++ NCS m:=fun z m=>by simp [NCS]
   cases p with
   | zero=>rw [List.set_cons_zero,e,e,Nat.zero_mul,List.take_zero,List.nil_append,Nat.zero_add,List.drop_left' hy]
   | succ p=>
     have ih:=zaT hx (l:=l) (fun v hv=>h v (List.mem_cons_of_mem _ hv)) (p:=p) (by simpa using hp)
     have t1:(NC y ++ NCS l).take ((p+1)*34)=NC y ++ (NCS l).take (p*34):=by
      rw [List.take_append,List.take_of_length_le (l:=NC y) (by omega),hy,show (p+1)*34 - 34=p*34 by omega]
     have t2:(NC y ++ NCS l).drop ((p+1)*34+34)=(NCS l).drop (p*34+34):=by
      rw [List.drop_append,List.drop_of_length_le (l:=NC y) (by omega),hy,List.nil_append,show (p+1)*34+34 - 34=p*34+34 by omega]
     rw [List.set_cons_succ,e,e,t1,t2,ih,List.append_assoc,List.append_assoc,List.append_assoc]
def ZNC:Array Value:=(NC ZRN).toArray
theorem zdE:(Tryz.prog.info? 78).map (·.size)=some 34:=by kernel_rfl
def RDRP (l:List RND) (p:Nat):Int:=match l[p]? with
 | none=>31
 | some v=>if v.pins=0 then 0 else 51
theorem RSTORE.laid {w:World} {B gs:Nat} {log:Int} {l:List RND} {gn c p:Nat} {x:RND} (h:RSTORE w B gs log l (some ⟨gn,0,none⟩) c) (hx:x.hash.length=32) (hp:p<l.length):RSTORE (w.setCells gn (p*34) (NC x)) B gs log (l.set p x) (some ⟨gn,0,none⟩) c/\w.grownBy (w.setCells gn (p*34) (NC x)) (some gn):=by
 obtain ⟨h1,h2⟩:=z8O (NC x) (NCS l) (p*34) w h.own;have hne:gn≠gs:=fun e=>h.ne (by rw [e];rfl);rw [z8N _ _ _ (by rw [z1t hx,z46 h.is];omega),z1t hx,<-zaT hx h.is hp] at h1;refine ⟨⟨?_,by rw [List.length_set];exact h1,by rw [List.length_set];exact h.ne,fun v hv=>?_,by rw [List.length_set];exact h.few,h.base⟩,h2⟩
 ·rw [List.length_set]
  exact (h2.block gs h.box.lt (fun e=>hne (by simpa using e.symm))).trans h.box
 ·rcases List.mem_or_eq_of_mem_set hv with hv | rfl
  ·exact h.is v hv
  ·exact hx
theorem RSTORE.there {w:World} {B gs:Nat} {log:Int} {l:List RND} {gn c p:Nat} (h:RSTORE w B gs log l (some ⟨gn,0,none⟩) c) (hp:p<l.length):w.there gn (p*34) 34:=fun j hj=>by
 have hl:=z46 h.is;rcases h.own.2 with ⟨e,_⟩ | ⟨g',cap',cur,e,_,hg,hc,_,hs,ht⟩
 ·cases e
 ·simp only [Value.slice.injEq,Option.some.injEq,Addr.mk.injEq,true_and,and_true] at e
  obtain ⟨rfl,rfl⟩:=e;have hjc:p*34+j<cur.size:=by rw [hs];omega
  exact ⟨by simp [World.cell?,hg,hjc],by simp [World.frozen?,hg]⟩
theorem z8P:ZNC.size=34:=by kernel_rfl
theorem zgH:ZNC.all (·.oneCell')=true:=by kernel_rfl
theorem zbY:Tryz.prog.built 78 []=some ZNC:=by kernel_rfl
theorem zbZ {ops:Array Oper} {rest:List Oper} {o:Oper} {a:Act} {w:World} {Q:Exit->Act->World->Prop} (hg:o.guard=none) (ho:o.op=.build 78 #[]) (h:wpList Tryz.prog ops Q rest (a.put o.dst (.agg ZNC)) w):wpList Tryz.prog ops Q (o :: rest) a w:=by
 have e:Tryz.prog.built 78 ((#[]:Array (Nat × Operand)).map fun (i,x)=>(i,a.eval x)).toList=some ZNC:=by simp [zbY]
 refine wpList_build hg 78 _ ho (by rw [e];rfl) ?_;rw [e];exact h
theorem zfn {w:World} {B gs:Nat} {log:Int} {l:List RND} {a:Option Addr} {c:Nat} (h:RSTORE w B gs log l a c) (p:Nat):Calls Tryz.prog 11 #[.pointer (some ⟨gs,0,none⟩),.int .u64 (p:Int)] w fun e w'=>e=.returned (.int .i64 (RDRP l p))/\RSTORE w' B gs log (if RDRP l p=0 then l.set p ZRN else l) a c/\w.grownBy w' (Value.slice a l.length c).ownBlock:=by
 have ct:=z7q h p;have x1:w.cell? ⟨gs,1,none⟩=some (.slice a l.length c):=h.box.cell 1;have H:Aside (RSTORE w B gs log l a c):=h;cases hp:l[p]? with
 | none=>
   have hR:RDRP l p=31:=by unfold RDRP;rw [hp]
   rw [hR,if_neg (by decide)];have hge:¬ p<l.length:=fun h=>by rw [List.getElem?_eq_getElem h] at hp;cases hp
   rw [decide_eq_false hge] at ct;clear h hge hp x1 hR;go_enter Tryz.func11,Tryz.ntmps11;go_wp2_with fail
   refine ct.mono ?_;rintro e w1 ⟨rfl,rfl⟩;clear ct;go_wp2;go_ret;exact ⟨rfl,H.out,z1M _ _⟩
 | some v=>
   obtain ⟨gn,rfl,_,_,_,hlt,_,_,hpn⟩:=h.node hp;rw [decide_eq_true hlt] at ct;have i1:(p:Int)<(l.length:Int):=by omega
   have HL:Aside (p<l.length):=hlt;have hth:=h.there hlt;clear h hlt;by_cases h0:v.pins=0
   ·have hR:RDRP l p=0:=by unfold RDRP;rw [hp];exact if_pos h0
    clear hp;rw [h0] at hpn;rw [hR,if_pos rfl];have e0:((0:Nat):Int)=0:=rfl;rw [e0] at hpn;have Z:Aside (RSTORE (w.setCells gn (p*34) (NC ZRN)) B gs log (l.set p ZRN) (some ⟨gn,0,none⟩) c/\w.grownBy (w.setCells gn (p*34) (NC ZRN)) (some gn)):=H.out.laid rfl HL.out;clear H h0 e0 hR;generalize hn:l.length=n at *
    go_enter Tryz.func11,Tryz.ntmps11;go_wp2_with fail
    refine ct.mono ?_;rintro e w1 ⟨rfl,rfl⟩;clear ct
    go_wp2_with (first
     | (refine zbZ rfl rfl ?_)
     | (refine wpList_store_mid rfl 78 (.tmp 24) (.tmp 23) rfl gn (p*34) ZNC rfl rfl (by rw [z8P];exact hth) (by rw [zdE,z8P]) zgH ?_)
     | fail)
    rw [show ZNC.toList=NC ZRN from rfl];generalize w.setCells gn (p*34) (NC ZRN)=w2 at *
    go_wp2;go_ret;exact ⟨rfl,Z.out.1,Z.out.2⟩
   ·have hR:RDRP l p=51:=by unfold RDRP;rw [hp];exact if_neg h0
    rw [hR,if_neg (by decide)];clear hp hR;have hgt:(0:Int)<(v.pins:Int):=by omega
    generalize v.pins=k at *
    clear h0;generalize hn:l.length=n at *
    go_enter Tryz.func11,Tryz.ntmps11;go_wp2_with fail
    refine ct.mono ?_;rintro e w1 ⟨rfl,rfl⟩;clear ct;go_wp2;go_ret;exact ⟨rfl,H.out,z1M _ _⟩
end Go.Proofs.YtlbcnaenhghieaaGreatDoor
namespace Go.Proofs.YtlbcnaenhghieaaGreatDoor
set_option linter.unusedSimpArgs false
open Go.RowKit
set_option maxRecDepth 100000
theorem z47:(Tryz.prog.info? 78).map (fun i=>(i.zero,i.size,i.bytes))=some (some (.agg ZNC),34,48):=by kernel_rfl
theorem zhy (v:RND):∀ x∈NC v,x.oneCell'=true:=fun x hx=>by
 rcases List.mem_append.1 hx with h | h
 ·exact z0Y v.hash x h
 ·simp only [List.mem_cons,List.not_mem_nil,or_false] at h
  rcases h with rfl | rfl <;> rfl
theorem zfo {ops:Array Oper} {rest:List Oper} {o:Oper} {a:Act} {Q:Exit->Act->World->Prop} (w:World) (hgd:o.guard=none) (s x:Operand)
  (ho:o.op=.call {callee:=.builtin .append,args:=#[s,x],argTypes:=#[79,79]})
  (base:Nat) (v:Value) (n:Nat) (xs:List Value) (hs:a.eval s=v) (hown:w.ownsRow base 78 34 v n xs)
  (b c:Nat) (y:RND) (hl:y.hash.length=32) (hx:a.eval x=.slice (some ⟨b,0,none⟩) 1 c) (hc:Has w b (NC y).toArray 78)
  (hb:n<=100000) (hbase:base<=w.heap.size)
  (h:∀ g cap w',w'.ownsRow base 78 34 (.slice (some ⟨g,0,none⟩) (n+1) cap) (n+1) (xs ++ NC y)->w.grownBy w' v.ownBlock->(v.ownBlock=some g\/g=w.heap.size)->g<w'.heap.size->wpList Tryz.prog ops Q rest (a.put o.dst (.slice (some ⟨g,0,none⟩) (n+1) cap)) w'):wpList Tryz.prog ops Q (o :: rest) a w:=by
 obtain ⟨i,hi,hz,hs1,hby⟩:=info_parts z47;refine wpList_append_lies w hgd s x 79 ho base 78 i (.agg ZNC) 34 48 Tryz.underlying79 hi hz hs1 hby rfl (by decide) v n xs hs hown ⟨b,0,none⟩ 1 c (NC y) hx (by rw [z1t hl]) ?_ (zhy y) (by decide) (by simp only [maxLen];omega) (by omega) hbase w.heap.size rfl h;intro j u hj;rw [z0y,Nat.zero_add,hc.cell,List.getElem?_toArray];exact hj
theorem zc0 (h:List Int) (hl:h.length=32):Tryz.prog.built 78 [(0,.agg (z00 h).toArray),(1,.bool true)]=some (NC ⟨h,true,0⟩).toArray:=by
 obtain ⟨f,rfl⟩:=zaz h hl;kernel_rfl
theorem z6j {ops:Array Oper} {rest:List Oper} {o:Oper} {a:Act} {w:World} {Q:Exit->Act->World->Prop} (hg:o.guard=none) {x y:Operand} (ho:o.op=.build 78 #[(0,x),(1,y)]) (h:List Int) (hl:h.length=32) (hx:a.eval x=.agg (z00 h).toArray) (hy:a.eval y=.bool true)
  (hh:wpList Tryz.prog ops Q rest (a.put o.dst (.agg (NC ⟨h,true,0⟩).toArray)) w):wpList Tryz.prog ops Q (o :: rest) a w:=by
 have e:Tryz.prog.built 78 ((#[(0,x),(1,y)]:Array (Nat × Operand)).map fun (i,x)=>(i,a.eval x)).toList=some (NC ⟨h,true,0⟩).toArray:=by
  simp only [List.map_toArray,List.map_cons,List.map_nil,hx,hy];exact zc0 h hl
 refine wpList_build hg 78 _ ho (by rw [e];rfl) ?_;rw [e];exact hh
theorem z9V {w:World} {b o n c:Nat} {y:Value} {a:Option Addr} (h:w.cell? ⟨b,o,none⟩=some y) (hf:w.frozen? ⟨b,o,none⟩=false):(Instr.storeAt 79 (.pointer (some ⟨b,o,none⟩)) (.slice a n c)).run Tryz.prog w=.ok () (w.setCell ⟨b,o,none⟩ (.slice a n c)):=by go_simp
@[go_sem] def RPUOPSq0:Oper:=⟨some 5,.move (.tmp 0),39,"ref.go:31",#[],none⟩
@[go_sem] def RPUOPSq1:Oper:=⟨some 6,.move (.tmp 0),39,"ref.go:31",#[],none⟩
@[go_sem] def RPUOPSq2:Oper:=⟨some 7,.nilCheck (.tmp 6),0,"ref.go:31",#[⟨1,.data⟩],none⟩
@[go_sem] def RPUOPSq3:Oper:=⟨some 8,.fieldAddr 81 (.tmp 7) 1,0,"ref.go:31",#[⟨2,.data⟩],none⟩
@[go_sem] def RPUOPSq4:Oper:=⟨some 9,.load 79 (.tmp 8),79,"ref.go:31",#[⟨3,.data⟩],none⟩
@[go_sem] def RPUOPSq5:Oper:=⟨some 10,.load 25 (.tmp 3),25,"ref.go:31",#[],none⟩
@[go_sem] def RPUOPSq6:Oper:=⟨some 11,.build 78 #[(0,.tmp 10),(1,.const (.bool true))],78,"ref.go:31",#[⟨5,.data⟩],none⟩
@[go_sem] def RPUOPSq7:Oper:=⟨some 12,.buildSlice 79 1 #[(0,.tmp 11)],79,"ref.go:31",#[⟨6,.data⟩],none⟩
@[go_sem] def RPUOPSq8:Oper:=⟨some 13,.call {callee:=.builtin .append,args:=#[.tmp 9,.tmp 12],argTypes:=#[79,79]},79,"ref.go:31",#[⟨4,.data⟩,⟨7,.data⟩],none⟩
@[go_sem] def RPUOPSq9:Oper:=⟨some 14,.nilCheck (.tmp 5),0,"ref.go:31",#[⟨0,.data⟩,⟨0,.phase⟩,⟨1,.phase⟩,⟨2,.phase⟩,⟨3,.phase⟩,⟨4,.phase⟩,⟨5,.phase⟩,⟨6,.phase⟩,⟨7,.phase⟩,⟨8,.phase⟩],none⟩
@[go_sem] def RPUOPSq10:Oper:=⟨some 15,.fieldAddr 81 (.tmp 14) 1,0,"ref.go:31",#[⟨9,.data⟩,⟨0,.phase⟩,⟨1,.phase⟩,⟨2,.phase⟩,⟨3,.phase⟩,⟨4,.phase⟩,⟨5,.phase⟩,⟨6,.phase⟩,⟨7,.phase⟩,⟨8,.phase⟩],none⟩
@[go_sem] def RPUOPSq11:Oper:=⟨none,.store 79 (.tmp 15) (.tmp 13),0,"ref.go:31",#[⟨10,.data⟩,⟨8,.data⟩,⟨8,.chain⟩,⟨0,.phase⟩,⟨1,.phase⟩,⟨2,.phase⟩,⟨3,.phase⟩,⟨4,.phase⟩,⟨5,.phase⟩,⟨6,.phase⟩,⟨7,.phase⟩,⟨8,.phase⟩],none⟩
def z1U:Array Oper:=#[RPUOPSq0,RPUOPSq1,RPUOPSq2,RPUOPSq3,RPUOPSq4,RPUOPSq5,RPUOPSq6,RPUOPSq7,RPUOPSq8,RPUOPSq9,RPUOPSq10,RPUOPSq11]
theorem zhz {Q:Exit->Act->World->Prop} {b d e f i j k l m p r s u x y A C D E F G:Value} (W:World) (gs b3 n c B:Nat) (a:Option Addr) (h:List Int) (lh:h.length=32) (xs:List Value) (hn:n<=100000) (P0:World->Prop) (P1:Nat->World->Prop) (P2:Nat->Nat->Nat->World->Prop) (P3:World->Prop) (h0:P0 W.drew) (t0:∀ w,P0 w->(fun w:World=>w.rangeAt b3 0 (z00 h)) w) (t1:∀ z w,P1 z w->(fun w:World=>w.rangeAt b3 0 (z00 h)) w) (t2:∀ z g q w,P2 z g q w->(fun w:World=>w.rangeAt b3 0 (z00 h)) w) (t3:∀ w,P3 w->(fun w:World=>w.rangeAt b3 0 (z00 h)) w)
  (c0:∀ w,P0 w->w.cell? ⟨gs,1,none⟩=some (.slice a n c)) (c1:∀ z w,P1 z w->w.cell? ⟨gs,1,none⟩=some (.slice a n c)) (al:∀ w,P0 w->P1 w.heap.size (w.alloc (.cells (NC ⟨h,true,0⟩).toArray 78))) (o1:∀ z w,P1 z w->w.ownsRow B 78 34 (.slice a n c) n xs) (z1:∀ z w,P1 z w->Has w z (NC ⟨h,true,0⟩).toArray 78) (bs:∀ z w,P1 z w->B<=w.heap.size)
  (gr:∀ z w g q w',P1 z w->w'.ownsRow B 78 34 (.slice (some ⟨g,0,none⟩) (n+1) q) (n+1) (xs ++ NC ⟨h,true,0⟩)->w.grownBy w' (Value.slice a n c).ownBlock->((Value.slice a n c).ownBlock=some g\/g=w.heap.size)->P2 z g q w') (m2:∀ z g q w,P2 z g q w->w.cell? ⟨gs,1,none⟩=some (.slice a n c)/\w.frozen? ⟨gs,1,none⟩=false) (st:∀ z g q w,P2 z g q w->P3 (w.setCell ⟨gs,1,none⟩ (.slice (some ⟨g,0,none⟩) (n+1) q))) (hQ:∀ c (a:Act) (t:Tmp) (v:Value) w,Q (.panic c) (a.put (some t) v) w->Q (.panic c) a w)
  (hfin:∀ (z:Nat) (g:Nat) (q:Nat) (w:World),(P3 w)->Q .normal {tmps:=#[.pointer (some ⟨gs,0,none⟩),b,d,.pointer (some ⟨b3,0,none⟩),e,.pointer (some ⟨gs,0,none⟩),.pointer (some ⟨gs,0,none⟩),.pointer (some ⟨gs,0,none⟩),.pointer (some ⟨gs,1,none⟩),.slice a n c,.agg (z00 h).toArray,.agg (NC ⟨h,true,0⟩).toArray,.slice (some ⟨z,0,none⟩) 1 1,.slice (some ⟨g,0,none⟩) (n+1) q,.pointer (some ⟨gs,0,none⟩),.pointer (some ⟨gs,1,none⟩),y,A,C,D,E,F,G],defers:=[]} w):(Code.region 1 z1U true).wp Tryz.prog Q {tmps:=#[.pointer (some ⟨gs,0,none⟩),b,d,.pointer (some ⟨b3,0,none⟩),e,f,i,j,k,l,m,p,r,s,u,x,y,A,C,D,E,F,G],defers:=[]} W:=by
 have kst4_6_7_8_11:∀ (z:Nat) (g:Nat) (q:Nat) (w:World),(P3 w)->wpAnyH Tryz.prog .any z1U Q (fun w:World=>w.rangeAt b3 0 (z00 h)) 0 #[tt,tt,tt,tt,tt,tt,tt,tt,tt,tt,tt,tt] {tmps:=#[.pointer (some ⟨gs,0,none⟩),b,d,.pointer (some ⟨b3,0,none⟩),e,.pointer (some ⟨gs,0,none⟩),.pointer (some ⟨gs,0,none⟩),.pointer (some ⟨gs,0,none⟩),.pointer (some ⟨gs,1,none⟩),.slice a n c,.agg (z00 h).toArray,.agg (NC ⟨h,true,0⟩).toArray,.slice (some ⟨z,0,none⟩) 1 1,.slice (some ⟨g,0,none⟩) (n+1) q,.pointer (some ⟨gs,0,none⟩),.pointer (some ⟨gs,1,none⟩),y,A,C,D,E,F,G],defers:=[]} w:=fun z g q w hp=>by
  exact wpAnyH_done (by kernel_rfl) (hfin z g q w hp) _
 have ekst4_6_7_8:∀ (z:Nat) (g:Nat) (q:Nat) (w:World),(P2 z g q w)->wpAnyH Tryz.prog .any z1U Q (fun w:World=>w.rangeAt b3 0 (z00 h)) 3 #[tt,tt,tt,tt,tt,tt,tt,tt,tt,ff,ff,ff] {tmps:=#[.pointer (some ⟨gs,0,none⟩),b,d,.pointer (some ⟨b3,0,none⟩),e,.pointer (some ⟨gs,0,none⟩),.pointer (some ⟨gs,0,none⟩),.pointer (some ⟨gs,0,none⟩),.pointer (some ⟨gs,1,none⟩),.slice a n c,.agg (z00 h).toArray,.agg (NC ⟨h,true,0⟩).toArray,.slice (some ⟨z,0,none⟩) 1 1,.slice (some ⟨g,0,none⟩) (n+1) q,u,x,y,A,C,D,E,F,G],defers:=[]} w:=fun z g q w hp=>by
  have hww:(fun w:World=>w.rangeAt b3 0 (z00 h)) w:=t2 _ _ _ _ hp;refine tkP RPUOPSq9 (.pointer (some ⟨gs,0,none⟩)) 9 hQ hww ?_;simp only [List.set];refine tkP RPUOPSq10 (.pointer (some ⟨gs,1,none⟩)) 10 hQ hww ?_;simp only [List.set];refine wpAnyH_ready (rs:=[11]) (by kernel_rfl) (by simp) ?_;refine AllReadyH.cons (o:=RPUOPSq11) rfl (fun KQ hKQ=>?_) ?_
  ·exact z0L rfl (z10 (z9V (m2 _ _ _ _ hp).1 (m2 _ _ _ _ hp).2)) (have hp:(fun (z:Nat) (g:Nat) (q:Nat) (w:World)=>(P3 w)) z g q _:=st _ _ _ _ hp;hKQ.out _ _ (t3 _ hp) (fun _=>kst4_6_7_8_11 z g q _ hp))
  exact AllReadyH.nil
 have kst4_6_7:∀ (z:Nat) (w:World),(P1 z w)->wpAnyH Tryz.prog .any z1U Q (fun w:World=>w.rangeAt b3 0 (z00 h)) 4 #[tt,tt,tt,tt,tt,tt,tt,tt,ff,ff,ff,ff] {tmps:=#[.pointer (some ⟨gs,0,none⟩),b,d,.pointer (some ⟨b3,0,none⟩),e,.pointer (some ⟨gs,0,none⟩),.pointer (some ⟨gs,0,none⟩),.pointer (some ⟨gs,0,none⟩),.pointer (some ⟨gs,1,none⟩),.slice a n c,.agg (z00 h).toArray,.agg (NC ⟨h,true,0⟩).toArray,.slice (some ⟨z,0,none⟩) 1 1,s,u,x,y,A,C,D,E,F,G],defers:=[]} w:=fun z w hp=>by
  refine wpAnyH_ready (rs:=[8]) (by kernel_rfl) (by simp) ?_;refine AllReadyH.cons (o:=RPUOPSq8) rfl (fun KQ hKQ=>?_) ?_
  ·exact z0w (by rfl) (zfo w rfl (.tmp 9) (.tmp 12) rfl B (.slice a n c) n xs rfl (o1 _ _ hp) z 1 ⟨h,true,0⟩ lh rfl (z1 _ _ hp) hn (bs _ _ hp) (fun g q w' h1 h2 h3 _=>⟨rfl,(have hp:(fun (z:Nat) (g:Nat) (q:Nat) (w:World)=>(P2 z g q w)) z g q w':=gr _ _ _ _ _ hp h1 h2 h3;hKQ.out _ _ (t2 _ _ _ _ hp) (fun _=>ekst4_6_7_8 z g q _ hp))⟩))
  exact AllReadyH.nil
 have kst4_6:∀ (w:World),(P0 w)->wpAnyH Tryz.prog .any z1U Q (fun w:World=>w.rangeAt b3 0 (z00 h)) 5 #[tt,tt,tt,tt,tt,tt,tt,ff,ff,ff,ff,ff] {tmps:=#[.pointer (some ⟨gs,0,none⟩),b,d,.pointer (some ⟨b3,0,none⟩),e,.pointer (some ⟨gs,0,none⟩),.pointer (some ⟨gs,0,none⟩),.pointer (some ⟨gs,0,none⟩),.pointer (some ⟨gs,1,none⟩),.slice a n c,.agg (z00 h).toArray,.agg (NC ⟨h,true,0⟩).toArray,r,s,u,x,y,A,C,D,E,F,G],defers:=[]} w:=fun  w hp=>by
  refine wpAnyH_ready (rs:=[7]) (by kernel_rfl) (by simp) ?_;refine AllReadyH.cons (o:=RPUOPSq7) rfl (fun KQ hKQ=>?_) ?_
  ·exact z0w (by rfl) (z0S w rfl 79 78 (.tmp 11) rfl (NC ⟨h,true,0⟩).toArray rfl 34 _ _ Tryz.underlying79 z47 (by rw [List.size_toArray,z1t (v:=⟨h,true,0⟩) lh]) rfl (by decide) (by decide) ⟨rfl,(have hp:(fun (z:Nat) (w:World)=>(P1 z w)) w.heap.size _:=al w hp;hKQ.out _ _ (t1 _ _ hp) (fun _=>kst4_6_7 w.heap.size _ hp))⟩)
  exact AllReadyH.nil
 have kst6_7:∀ (z:Nat) (w:World),(P1 z w)->wpAnyH Tryz.prog .any z1U Q (fun w:World=>w.rangeAt b3 0 (z00 h)) 5 #[tt,tt,tt,tt,ff,tt,tt,tt,ff,ff,ff,ff] {tmps:=#[.pointer (some ⟨gs,0,none⟩),b,d,.pointer (some ⟨b3,0,none⟩),e,.pointer (some ⟨gs,0,none⟩),.pointer (some ⟨gs,0,none⟩),.pointer (some ⟨gs,0,none⟩),.pointer (some ⟨gs,1,none⟩),l,.agg (z00 h).toArray,.agg (NC ⟨h,true,0⟩).toArray,.slice (some ⟨z,0,none⟩) 1 1,s,u,x,y,A,C,D,E,F,G],defers:=[]} w:=fun z w hp=>by
  refine wpAnyH_ready (rs:=[4]) (by kernel_rfl) (by simp) ?_;refine AllReadyH.cons (o:=RPUOPSq4) rfl (fun KQ hKQ=>?_) ?_
  ·exact z0k (by rfl) (by have hx:=c1 _ _ hp;go_simp) (have hp:(fun (z:Nat) (w:World)=>(P1 z w)) z w:=hp;hKQ.out _ _ (t1 _ _ hp) (fun _=>kst4_6_7 z _ hp))
  exact AllReadyH.nil
 have kst4:∀ (w:World),(P0 w)->wpAnyH Tryz.prog .any z1U Q (fun w:World=>w.rangeAt b3 0 (z00 h)) 6 #[tt,tt,tt,tt,tt,tt,ff,ff,ff,ff,ff,ff] {tmps:=#[.pointer (some ⟨gs,0,none⟩),b,d,.pointer (some ⟨b3,0,none⟩),e,.pointer (some ⟨gs,0,none⟩),.pointer (some ⟨gs,0,none⟩),.pointer (some ⟨gs,0,none⟩),.pointer (some ⟨gs,1,none⟩),.slice a n c,.agg (z00 h).toArray,p,r,s,u,x,y,A,C,D,E,F,G],defers:=[]} w:=fun  w hp=>by
  refine wpAnyH_ready (rs:=[6]) (by kernel_rfl) (by simp) ?_;refine AllReadyH.cons (o:=RPUOPSq6) rfl (fun KQ hKQ=>?_) ?_
  ·exact z0w (by rfl) (z6j rfl rfl h lh rfl rfl ⟨rfl,(have hp:(fun (w:World)=>(P0 w))  w:=hp;hKQ.out _ _ (t0 _ hp) (fun _=>kst4_6  _ hp))⟩)
  exact AllReadyH.nil
 have kst6:∀ (w:World),(P0 w)->wpAnyH Tryz.prog .any z1U Q (fun w:World=>w.rangeAt b3 0 (z00 h)) 6 #[tt,tt,tt,tt,ff,tt,tt,ff,ff,ff,ff,ff] {tmps:=#[.pointer (some ⟨gs,0,none⟩),b,d,.pointer (some ⟨b3,0,none⟩),e,.pointer (some ⟨gs,0,none⟩),.pointer (some ⟨gs,0,none⟩),.pointer (some ⟨gs,0,none⟩),.pointer (some ⟨gs,1,none⟩),l,.agg (z00 h).toArray,.agg (NC ⟨h,true,0⟩).toArray,r,s,u,x,y,A,C,D,E,F,G],defers:=[]} w:=fun  w hp=>by
  refine wpAnyH_ready (rs:=[4,7]) (by kernel_rfl) (by simp) ?_;refine AllReadyH.cons (o:=RPUOPSq4) rfl (fun KQ hKQ=>?_) ?_
  ·exact z0k (by rfl) (by have hx:=c0 _ hp;go_simp) (have hp:(fun (w:World)=>(P0 w))  w:=hp;hKQ.out _ _ (t0 _ hp) (fun _=>kst4_6  _ hp))
  refine AllReadyH.cons (o:=RPUOPSq7) rfl (fun KQ hKQ=>?_) ?_
  ·exact z0w (by rfl) (z0S w rfl 79 78 (.tmp 11) rfl (NC ⟨h,true,0⟩).toArray rfl 34 _ _ Tryz.underlying79 z47 (by rw [List.size_toArray,z1t (v:=⟨h,true,0⟩) lh]) rfl (by decide) (by decide) ⟨rfl,(have hp:(fun (z:Nat) (w:World)=>(P1 z w)) w.heap.size _:=al w hp;hKQ.out _ _ (t1 _ _ hp) (fun _=>kst6_7 w.heap.size _ hp))⟩)
  exact AllReadyH.nil
 have kst:∀ (w:World),(P0 w)->wpAnyH Tryz.prog .any z1U Q (fun w:World=>w.rangeAt b3 0 (z00 h)) 7 #[tt,tt,tt,tt,ff,tt,ff,ff,ff,ff,ff,ff] {tmps:=#[.pointer (some ⟨gs,0,none⟩),b,d,.pointer (some ⟨b3,0,none⟩),e,.pointer (some ⟨gs,0,none⟩),.pointer (some ⟨gs,0,none⟩),.pointer (some ⟨gs,0,none⟩),.pointer (some ⟨gs,1,none⟩),l,.agg (z00 h).toArray,p,r,s,u,x,y,A,C,D,E,F,G],defers:=[]} w:=fun  w hp=>by
  refine wpAnyH_ready (rs:=[4,6]) (by kernel_rfl) (by simp) ?_;refine AllReadyH.cons (o:=RPUOPSq4) rfl (fun KQ hKQ=>?_) ?_
  ·exact z0k (by rfl) (by have hx:=c0 _ hp;go_simp) (have hp:(fun (w:World)=>(P0 w))  w:=hp;hKQ.out _ _ (t0 _ hp) (fun _=>kst4  _ hp))
  refine AllReadyH.cons (o:=RPUOPSq6) rfl (fun KQ hKQ=>?_) ?_
  ·exact z0w (by rfl) (z6j rfl rfl h lh rfl rfl ⟨rfl,(have hp:(fun (w:World)=>(P0 w))  w:=hp;hKQ.out _ _ (t0 _ hp) (fun _=>kst6  _ hp))⟩)
  exact AllReadyH.nil
 have hp:=h0;have hww:(fun w:World=>w.rangeAt b3 0 (z00 h)) W.drew:=t0 _ hp;have last:=kst W.drew hp
 have z:wpAnyH Tryz.prog .any z1U Q (fun w:World=>w.rangeAt b3 0 (z00 h)) 12 #[ff,ff,ff,ff,ff,ff,ff,ff,ff,ff,ff,ff] {tmps:=#[.pointer (some ⟨gs,0,none⟩),b,d,.pointer (some ⟨b3,0,none⟩),e,f,i,j,k,l,m,p,r,s,u,x,y,A,C,D,E,F,G],defers:=[]} W.drew:=by
  refine tkP RPUOPSq0 (.pointer (some ⟨gs,0,none⟩)) 0 hQ hww ?_;simp only [List.set];refine tkP RPUOPSq1 (.pointer (some ⟨gs,0,none⟩)) 1 hQ hww ?_;simp only [List.set];refine tkP RPUOPSq2 (.pointer (some ⟨gs,0,none⟩)) 2 hQ hww ?_;simp only [List.set];refine tkP RPUOPSq3 (.pointer (some ⟨gs,1,none⟩)) 3 hQ hww ?_;simp only [List.set];refine tkH RPUOPSq5 (.agg (z00 h).toArray) 5 hQ (yieldsIf_load_mid (by rfl) 25 (.tmp 3) rfl b3 0 rfl (z00 h) _ (fun w h=>h) Tryz.underlying25 rfl (z0g lh)) hww ?_;simp only [List.set];exact last
 exact wp_region_held_drew (S:=(fun w:World=>w.rangeAt b3 0 (z00 h))) (by kernel_rfl) hww (fun _=>z)
end Go.Proofs.YtlbcnaenhghieaaGreatDoor
