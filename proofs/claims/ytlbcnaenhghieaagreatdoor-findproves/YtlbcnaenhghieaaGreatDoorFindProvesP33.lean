/- FindProves: part 33. -/
import Derived.Test.YtlbcnaenhghieaaGreatDoorFindProvesP28
import Derived.Test.YtlbcnaenhghieaaGreatDoorFindProvesP32
set_option maxHeartbeats 8000000
namespace Go.Proofs.YtlbcnaenhghieaaGreatDoor
open Go.RowKit
def Tops (d:Nat->Nat) (j:Nat) (x:Int) (V:Nat):Prop:=∃ y:Nat,x=(y:Int)/\VAL d j+y*128 ^ j=V
theorem Tops.down {d:Nat->Nat} {j V:Nat} {x v:Int} (A:Tops d (j+1) x V) (hV:V<2 ^ 64) (hv:(v % 128).toNat=d j):Tops d j (IntKind.u64.wrap (IntKind.u64.wrap (128*x)+v % 128)) V:=by
 obtain ⟨y,rfl,hy⟩:=A
 have e:VAL d j+(128*y+d j)*128 ^ j=V:=by
  rw [<-hy,VAL,Nat.add_mul,Nat.pow_succ,Nat.mul_comm 128 y,Nat.mul_assoc,Nat.mul_comm 128 (128 ^ j)];omega
 have hl:128*y+d j<=V:=by
  have h1:(128*y+d j)*1<=(128*y+d j)*128 ^ j:=Nat.mul_le_mul_left _ (Nat.pow_pos (by decide));omega
 refine ⟨128*y+d j,?_,e⟩;rw [z0b,z0b,<-hv];omega
end Go.Proofs.YtlbcnaenhghieaaGreatDoor
namespace Go.Proofs.YtlbcnaenhghieaaGreatDoor
open Go.RowKit
set_option maxRecDepth 100000
theorem za7 (d:Int) (l r:List Int) (hl:IsH l) (hr:IsH r) (w:World):Calls Tryz.prog 44 #[.int .i64 d,.agg (z00 l).toArray,.agg (z00 r).toArray] w fun e w'=>e=.returned (.agg (z00 (z0X d l r)).toArray)/\Below w.heap.size w w':=by
 rw [z45 hl,z45 hr];refine (HX.zc6 d (FNC l) (FNC r) (z6g hl) (z6g hr) w).mono ?_;rintro e w' ⟨rfl,hb⟩;exact ⟨by rw [z44];rfl,hb⟩
theorem zgP (d:Int):HX.WID ((HX.WID d:Nat):Int)=HX.WID d:=by unfold HX.WID;omega
theorem z6m (d:Int) (s:Nat->Nat):HX.z0u ((HX.WID d:Nat):Int) s=HX.z0u d s:=by
 funext i;unfold HX.z0u;rw [zgP]
theorem z7v (d:Int) (l:List Nat):∀ k,HX.z0n ((HX.WID d:Nat):Int) l k=HX.z0n d l k
 | 0=>by
   show HX.z1A _=HX.z1A _;unfold HX.z1A;exact z6m d _
 | k+1=>by
   show HX.COMP _ _ _=HX.COMP _ _ _;rw [z7v d l k];unfold HX.COMP;exact z6m d _
theorem zdL (d:Int) (l r:List Int):z0X ((HX.WID d:Nat):Int) l r=z0X d l r:=by
 unfold z0X HX.z0F;rw [z7v]
structure RTREE (w:World) (B gt gs:Nat) (D:Int) (n:Nat) (l:List RND) (a:Option Addr) (c:Nat):Prop where
 box:Has w gt #[.int .i64 D,.int .u64 (n:Int),.pointer (some ⟨gs,0,none⟩)] 41
 store:RSTORE w B gs 3 l a c
 ne:gt≠gs
 nt:(Value.slice a l.length c).ownBlock≠some gt
 base:B<=gt
theorem RTREE.keep {w w':World} {B gt gs n c:Nat} {D:Int} {l:List RND} {a:Option Addr} (h:RTREE w B gt gs D n l a c) (ht:w'.heap[gt]?=w.heap[gt]?) (hs:w'.heap[gs]?=w.heap[gs]?) (hk:∀ k,(Value.slice a l.length c).ownBlock=some k->w'.heap[k]?=w.heap[k]?):RTREE w' B gt gs D n l a c:=
 ⟨ht.trans h.box,h.store.keep hs hk,h.ne,h.nt,h.base⟩
theorem RTREE.below {w w':World} {B gt gs n c:Nat} {D:Int} {l:List RND} {a:Option Addr} (h:RTREE w B gt gs D n l a c) (hb:Below w.heap.size w w'):RTREE w' B gt gs D n l a c:=
 h.keep (hb.block gt h.box.lt) (hb.block gs h.store.box.lt) fun k e=>hb.block k (h.store.own.lt k e).2
theorem zfC (w:World):Calls Tryz.prog 39 #[.int .i64 3] w fun e w'=>∃ gs,e=.returned (.tuple #[.pointer (some ⟨gs,0,none⟩),.int .i64 0])/\RSTORE w' w.heap.size gs 3 [] none 0/\Below w.heap.size w w':=by
 go_enter Tryz.func39,Tryz.ntmps39;go_wp2;go_ret2;exact ⟨_,rfl,⟨Has.new _ _ _,⟨rfl,.inl ⟨rfl,rfl⟩⟩,(fun e=>by cases e),(fun v hv=>by cases hv),by decide,Nat.le_refl _⟩,(Below.refl _ _).alloc (Nat.le_refl _) _⟩
theorem zfD (d:Int) (w:World):Calls Tryz.prog 18 #[.int .i64 d,.int .i64 3] w fun e w'=>∃ gt gs,e=.returned (.tuple #[.pointer (some ⟨gt,0,none⟩),.int .i64 0])/\RTREE w' w.heap.size gt gs ((HX.WID d:Nat):Int) 0 [] none 0/\Below w.heap.size w w':=by
 have c5:=zfC w;go_enter Tryz.func18,Tryz.ntmps18;go_wp2_with fail
 refine c5.mono ?_;rintro e w1 ⟨gs,rfl,hS,hb⟩;clear c5;have cw:=HX.z8X d w1;go_wp2_with fail
 refine cw.mono ?_;rintro e w2 ⟨rfl,rfl⟩;clear cw;have hgs:=hS.box.lt
 have R:Aside (RTREE (w1.alloc (.cells #[.int .i64 ((HX.WID d:Nat):Int),.int .u64 0,.pointer (some ⟨gs,0,none⟩)] 41)) w.heap.size w1.heap.size gs ((HX.WID d:Nat):Int) 0 [] none 0/\Below w.heap.size w (w1.alloc (.cells #[.int .i64 ((HX.WID d:Nat):Int),.int .u64 0,.pointer (some ⟨gs,0,none⟩)] 41))):=
  ⟨⟨Has.new _ _ _,hS.below ((Below.refl _ _).alloc (Nat.le_refl _) _),by omega,(fun e=>by cases e),hb.size⟩,hb.alloc hb.size _⟩
 clear hS hb hgs;go_wp2;go_ret2;exact ⟨_,_,rfl,R.out.1,R.out.2⟩
structure RTSP (w w':World) (gt gs:Nat) (v v':Value):Prop where
 os:w'.os=w.os
 tape:w'.tape=w.tape
 output:w'.output=w.output
 size:w.heap.size<=w'.heap.size
 block:∀ k,k<w.heap.size->k≠gt->k≠gs->v.ownBlock≠some k->w'.heap[k]?=w.heap[k]?
 foot:∀ k,v'.ownBlock=some k->v.ownBlock=some k\/w.heap.size<=k
theorem RTSP.refl (w:World) (gt gs:Nat) (v:Value):RTSP w w gt gs v v:=⟨rfl,rfl,rfl,Nat.le_refl _,fun _ _ _ _ _=>rfl,fun _ e=>.inl e⟩
theorem RTSP.trans {w w' w'':World} {gt gs:Nat} {v v' v'':Value} (h:RTSP w w' gt gs v v') (k:RTSP w' w'' gt gs v' v''):RTSP w w'' gt gs v v'':=by
 refine ⟨k.os.trans h.os,k.tape.trans h.tape,k.output.trans h.output,Nat.le_trans h.size k.size,fun i h1 h2 h3 h4=>(k.block i (Nat.lt_of_lt_of_le h1 h.size) h2 h3 (fun e=>?_)).trans (h.block i h1 h2 h3 h4),fun i e=>?_⟩
 ·rcases h.foot i e with c | c
  ·exact h4 c
  ·omega
 ·rcases k.foot i e with c | c
  ·exact h.foot i c
  ·exact .inr (Nat.le_trans h.size c)
theorem RSTP.tree {w w':World} {gs:Nat} {v v':Value} (h:RSTP w w' gs v v') (gt:Nat):RTSP w w' gt gs v v':=⟨h.os,h.tape,h.output,h.size,fun k h1 _ h3 h4=>h.block k h1 h3 h4,h.foot⟩
theorem RTSP.of_below {w w':World} (gt gs:Nat) (v:Value) (h:Below w.heap.size w w'):RTSP w w' gt gs v v:=(RSTP.of_below gs v h).tree gt
structure RGRW (w wx:World) (B gt gs:Nat) (D:Int) (n j b6:Nat) (V:Nat->Nat->List Int) (v0:Value) (l:List RND) (a:Option Addr) (c:Nat):Prop where
 tree:RTREE wx B gt gs D n l a c
 len:l.length=z02 n+1+j
 old:∀ h k,(k+1)*2 ^ h<=n->l[PLC h k]?=some ⟨V h k,true,0⟩
 new:∀ i,i<=j->l[z02 n+i]?=some ⟨V i (n / 2 ^ i),true,0⟩
 ones:HX.ONES n j
 spot:Has wx b6 #[.int .u8 (j:Int),.int .u64 ((n / 2 ^ j:Nat):Int)] 102
 step:RTSP w wx gt gs v0 (.slice a l.length c)
 base:w.heap.size<=b6
 off:(Value.slice a l.length c).ownBlock≠some b6
theorem RGRW.below {w wx w':World} {B gt gs n j b6 c:Nat} {D:Int} {V:Nat->Nat->List Int} {v0:Value} {l:List RND} {a:Option Addr} (h:RGRW w wx B gt gs D n j b6 V v0 l a c) (hb:Below wx.heap.size wx w'):RGRW w w' B gt gs D n j b6 V v0 l a c:=
 ⟨h.tree.below hb,h.len,h.old,h.new,h.ones,h.spot.keep hb,h.step.trans (RTSP.of_below gt gs _ hb),h.base,h.off⟩
theorem RGRW.next {w wx w2:World} {B gt gs n j b6 c c':Nat} {D:Int} {V:Nat->Nat->List Int} {v0:Value} {l:List RND} {a a':Option Addr} {X:List Int} (h:RGRW w wx B gt gs D n j b6 V v0 l a c) (hgt:gt<w.heap.size) (hgs:gs<w.heap.size) (ho:n / 2 ^ j % 2=1) (hX:X=V (j+1) (n / 2 ^ (j+1))) (hS:RSTORE w2 B gs 3 (l ++ [⟨X,true,0⟩]) a' c') (hst:RSTP wx w2 gs (.slice a l.length c) (.slice a' (l.length+1) c')) {w3:World} (h6n:Has w3 b6 #[.int .u8 ((j+1:Nat):Int),.int .u64 ((n / 2 ^ (j+1):Nat):Int)] 102) (hrow:∀ k,k≠b6->w3.heap[k]?=w2.heap[k]?) (hos:w3.os=w2.os/\w3.tape=w2.tape/\w3.output=w2.output/\w2.heap.size<=w3.heap.size):
  RGRW w w3 B gt gs D n (j+1) b6 V v0 (l ++ [⟨X,true,0⟩]) a' c':=by
 have h6:=h.spot.lt;have hsz:=h.step.size;have hb6:=h.base;have hln:(l ++ [(⟨X,true,0⟩:RND)]).length=l.length+1:=by simp
 have hfo:∀ k,(Value.slice a' (l.length+1) c').ownBlock=some k->k≠b6/\k≠gt:=fun k e=>by
  rcases hst.foot k e with q | q
  ·exact ⟨fun e2=>h.off (e2 ▸ q),fun e2=>h.tree.nt (e2 ▸ q)⟩
  ·have:=h.tree.box.lt
   exact ⟨by omega,by omega⟩
 have hT:RTREE w2 B gt gs D n (l ++ [⟨X,true,0⟩]) a' c':=⟨(hst.block gt h.tree.box.lt h.tree.ne h.tree.nt).trans h.tree.box,hS,h.tree.ne,fun e=>(hfo gt (by rw [<-hln];exact e)).2 rfl,h.tree.base⟩
 refine ⟨hT.keep (hrow gt (by omega)) (hrow gs (by omega)) (fun k e=>hrow k (hfo k (by rw [<-hln];exact e)).1),by rw [hln,h.len];omega,fun x y hk=>?_,fun i hi=>?_,h.ones.next ho,h6n,?_,hb6,fun e=>(hfo b6 (by rw [<-hln];exact e)).1 rfl⟩
 ·have:=h.old x y hk
  rw [List.getElem?_append_left (List.getElem?_eq_some_iff.1 this).1];exact this
 ·by_cases e:i=j+1
  ·subst e
   rw [List.getElem?_append_right (by rw [h.len];omega),h.len,show z02 n+(j+1) - (z02 n+1+j)=0 by omega,<-hX];rfl
  ·have:=h.new i (by omega)
   rw [List.getElem?_append_left (List.getElem?_eq_some_iff.1 this).1];exact this
 ·have s2:=h.step.trans (hst.tree gt)
  rw [hln];exact ⟨hos.1.trans s2.os,hos.2.1.trans s2.tape,hos.2.2.1.trans s2.output,Nat.le_trans s2.size hos.2.2.2,fun k h1 h2 h3 h4=>(hrow k (by omega)).trans (s2.block k h1 h2 h3 h4),s2.foot⟩
theorem zdM {z:Nat} (h:z % 2=1):(((z:Int).tmod 2 == 1)=true)/\((((z:Int) % 2) == 1)=true):=by
 have h1:(z:Int) % 2=1:=by omega
 have h2:(z:Int).tmod 2=1:=by rw [Int.tmod_eq_emod_of_nonneg (by omega)];exact h1
 rw [h1,h2];exact ⟨rfl,rfl⟩
theorem zc7 {z:Nat} (h:z % 2=0):(((z:Int).tmod 2 == 1)=false)/\((((z:Int) % 2) == 1)=false):=by
 have h1:(z:Int) % 2=0:=by omega
 have h2:(z:Int).tmod 2=0:=by rw [Int.tmod_eq_emod_of_nonneg (by omega)];exact h1
 rw [h1,h2];exact ⟨rfl,rfl⟩
theorem z5z {z:Nat} (h:z % 2=1):z - 1+1=z:=by omega
theorem zfE {z:Nat} (h:z % 2=1):2*(z / 2)=z - 1:=by omega
theorem zgQ {z:Nat} (h:z % 2=1):SIB z=z - 1:=by unfold SIB;split <;> omega
theorem za8 {n:Nat} (h:n<=1000):z02 n<=2000:=by unfold z02;omega
theorem z6n {n j:Nat} (hn:n<=1000) (hj:HX.ONES n j):Node j (n / 2 ^ j):=by
 have h1:=hj.lt;have h2:=hj.span
 have h3:j<=10:=by
  rcases Nat.lt_or_ge 10 j with c | c
  ·exfalso
   have h4:2 ^ 11<=2 ^ j:=Nat.pow_le_pow_right (by decide) c;have h5:1*2 ^ j<=(n / 2 ^ j+1)*2 ^ j:=Nat.mul_le_mul_right _ (Nat.le_add_left 1 _);omega
  ·exact c
 refine ⟨by omega,?_⟩;have h6:n / 2 ^ j<=n:=Nat.div_le_self _ _;have h7:2 ^ 52<=2 ^ (62 - j):=Nat.pow_le_pow_right (by decide) (by omega);omega
theorem zfF {n j:Nat} (hn:n<=1000) (hj:HX.ONES n j):j<=10:=by
 have h2:=hj.span;rcases Nat.lt_or_ge 10 j with c | c
 ·exfalso
  have h4:2 ^ 11<=2 ^ j:=Nat.pow_le_pow_right (by decide) c;have h5:1*2 ^ j<=(n / 2 ^ j+1)*2 ^ j:=Nat.mul_le_mul_right _ (Nat.le_add_left 1 _);omega
 ·exact c
theorem zgR {n:Nat} (h:n<=1000):IntKind.u64.wrap ((n:Int)+1)=((n+1:Nat):Int):=by rw [IntKind.wrap_u64];omega
theorem zfG {n:Nat} (h:n<=1000):IntKind.u64.wrap (n:Int)=(n:Int):=by rw [IntKind.wrap_u64];omega
theorem RGRW.all {w wx:World} {B gt gs n t b6 c:Nat} {D:Int} {V:Nat->Nat->List Int} {v0:Value} {l:List RND} {a:Option Addr} (h:RGRW w wx B gt gs D n t b6 V v0 l a c) (ht:n / 2 ^ t % 2=0):l.length=z02 (n+1)/\∀ x y,(y+1)*2 ^ x<=n+1->l[PLC x y]?=some ⟨V x y,true,0⟩:=by
 refine ⟨by rw [h.len,h.ones.nodes ht];omega,fun x y hk=>?_⟩;rcases Nat.lt_or_ge n ((y+1)*2 ^ x) with q | q
 ·obtain ⟨e1,e2⟩:=HX.ONES.of_span (n:=n) (h:=x) (k:=y) (by omega)
  have hx:x<=t:=by
   rcases Nat.lt_or_ge t x with c | c
   ·have:=e2 t c
    omega
   ·exact c
  rw [e1,e2.place];exact h.new x hx
 ·exact h.old x y q
theorem RGRW.done {w wx:World} {B gt gs n t b6 c:Nat} {D:Int} {V:Nat->Nat->List Int} {v0:Value} {l:List RND} {a:Option Addr} (h:RGRW w wx B gt gs D n t b6 V v0 l a c):RTREE (wx.setCell ⟨gt,1,none⟩ (.int .u64 ((n+1:Nat):Int))) B gt gs D (n+1) l a c/\RTSP w (wx.setCell ⟨gt,1,none⟩ (.int .u64 ((n+1:Nat):Int))) gt gs v0 (.slice a l.length c):=by
 have hk:∀ k,k≠gt->(wx.setCell ⟨gt,1,none⟩ (.int .u64 ((n+1:Nat):Int))).heap[k]?=wx.heap[k]?:=fun k hk=>Below.heap_setCell _ _ _ k hk;refine ⟨⟨h.tree.box.set 1 _,h.tree.store.keep (hk gs (fun e=>h.tree.ne e.symm)) (fun k e=>hk k (fun e2=>h.tree.nt (e2 ▸ e))),h.tree.ne,h.tree.nt,h.tree.base⟩,⟨h.step.os,h.step.tape,h.step.output,by have:=h.step.size;simpa using this,fun k h1 h2 h3 h4=>(hk k h2).trans (h.step.block k h1 h2 h3 h4),h.step.foot⟩⟩
theorem zc8 {w:World} {B gt gs n c:Nat} {D:Int} {l:List RND} {a:Option Addr} (V:Nat->Nat->List Int) (H:RTREE w B gt gs D n l a c) (hlen:l.length=z02 n) (hold:∀ h k,(k+1)*2 ^ h<=n->l[PLC h k]?=some ⟨V h k,true,0⟩) (hn:n<=1000) (hV:∀ h k,(k+1)*2 ^ (h+1)<=n+1->z0X D (V h (2*k)) (V h (2*k+1))=V (h+1) k) (hI:∀ h k,(k+1)*2 ^ h<=n+1->IsH (V h k)):
    Calls Tryz.prog 19 #[.pointer (some ⟨gt,0,none⟩),.agg (z00 (V 0 n)).toArray] w fun e w'=>e=.returned (.int .u64 (n:Int))/\∃ l' a' c',RTREE w' B gt gs D (n+1) l' a' c'/\l'.length=z02 (n+1)/\(∀ h k,(k+1)*2 ^ h<=n+1->l'[PLC h k]?=some ⟨V h k,true,0⟩)/\RTSP w w' gt gs (.slice a l.length c) (.slice a' l'.length c'):=by
  obtain ⟨w0,hw0⟩:∃ w0,w.alloc (.cells (z00 (V 0 n)).toArray 25)=w0:=⟨_,rfl⟩
  obtain ⟨b3,hb3⟩:∃ b,w.heap.size=b:=⟨_,rfl⟩
  have hb0:Below w.heap.size w w0:=by rw [<-hw0];exact (Below.refl _ _).alloc (Nat.le_refl _) _
  have k3:Has w0 b3 (z00 (V 0 n)).toArray 25:=by rw [<-hw0,<-hb3];exact Has.new _ _ _
  have hY:=(hI 0 n (by simp)).1;have H0:=H.below hb0;have hgt:=H.box.lt;have hgs:=H.store.box.lt;have hp0:PLC 0 n=z02 n:=by have:=HX.ONES.place (n:=n) (j:=0) (fun i hi=>by omega);simpa using this
  have hNn:=za8 hn;have hob:∀ k,(Value.slice a l.length c).ownBlock=some k->k<b3:=fun k e=>by have:=(H.store.own.lt k e).2;omega
  have HA:Aside (l.length=z02 n/\(∀ h k,(k+1)*2 ^ h<=n->l[PLC h k]?=some ⟨V h k,true,0⟩)/\n<=1000/\(∀ h k,(k+1)*2 ^ (h+1)<=n+1->z0X D (V h (2*k)) (V h (2*k+1))=V (h+1) k)/\(∀ h k,(k+1)*2 ^ h<=n+1->IsH (V h k))/\z02 n<=2000/\gt<w.heap.size/\gs<w.heap.size/\RTREE w B gt gs D n l a c/\Below w.heap.size w w0):=⟨hlen,hold,hn,hV,hI,hNn,hgt,hgs,H,hb0⟩
  have KP:Aside (∀ W1 W a' c',Below w0.heap.size w0 W1->RSTP W1 W gs (.slice a l.length c) (.slice a' (l.length+1) c')->(∀ b cs t,b<w0.heap.size->b≠gs->(Value.slice a l.length c).ownBlock≠some b->Has w0 b cs t->Has W b cs t)):=fun W1 W a' c' h1 h2 b cs t hb hg ho hh=>(h2.block b (Nat.lt_of_lt_of_le hb h1.size) hg ho).trans ((h1.block b hb).trans hh);have hS0:b3<w0.heap.size:=k3.lt;have hG0:gt<w0.heap.size:=Nat.lt_of_lt_of_le hgt hb0.size;have hne:=H.ne;have hnt:=H.nt;have hX0:=H0.box;have n3:b3≠gs:=by omega
  have o3:(Value.slice a l.length c).ownBlock≠some b3:=fun e=>by have:=hob b3 e;omega
  have hl5:l.length<100000:=by omega
  have HP0:Aside (PLC 0 n=z02 n):=hp0
  have cP:∀ W,Below w0.heap.size w0 W->Calls Tryz.prog 41 #[.pointer (some ⟨gs,0,none⟩),.agg (z00 (V 0 n)).toArray] W fun e w'=>e=.returned (.int .u64 ((z02 n:Nat):Int))/\∃ W1 a' c',Below w0.heap.size w0 W1/\RSTORE w' B gs 3 (l ++ [⟨V 0 n,true,0⟩]) a' c'/\RSTP W1 w' gs (.slice a l.length c) (.slice a' (l.length+1) c'):=fun W h=>by
    refine (z8Q (H0.store.below h) (V 0 n) hY hl5).mono ?_;rintro e w' ⟨a',c',rfl,h1,h2⟩;exact ⟨by rw [hlen],W,a',c',h,h1,h2⟩
  clear H H0 hlen hold hn hV hI hNn hgt hgs hob hb0 hp0;obtain ⟨NN,hNN⟩:∃ NN,z02 n=NN:=⟨_,rfl⟩
  rw [hNN] at cP;go_enter Tryz.func19,Tryz.ntmps19;go_upto_region 1 with fail
  clear hw0 hb3;refine zfq w0 gt gs b3 NN (V 0 n) hY (fun W=>Below w0.heap.size w0 W) (fun W=>∃ W1 a' c',Below w0.heap.size w0 W1/\RSTORE W B gs 3 (l ++ [⟨V 0 n,true,0⟩]) a' c'/\RSTP W1 W gs (.slice a l.length c) (.slice a' (l.length+1) c')) (Below.refl _ _).drew (fun W h=>⟨(hX0.keep h).cell 2,z23 (k3.keep h)⟩) (fun W h=>?_) cP (fun _ _ _ _ _ h=>h) ?_
  · obtain ⟨W1,a',c',h1,h2,h3⟩:=h
    exact ⟨(KP.out W1 W a' c' h1 h3 gt _ _ hG0 hne hnt hX0).cell 2,z23 (KP.out W1 W a' c' h1 h3 b3 _ _ hS0 n3 o3 k3)⟩
  · rintro w1 ⟨W1,a1,c1,h1,h2,h3⟩
    have hT1:RTREE w1 B gt gs D n (l ++ [⟨V 0 n,true,0⟩]) a1 c1:=⟨KP.out W1 w1 a1 c1 h1 h3 gt _ _ hG0 hne hnt hX0,h2,hne,fun e=>by
      have e:(Value.slice a1 (l.length+1) c1).ownBlock=some gt:=by simpa using e
      rcases h3.foot gt e with q | q
      · exact hnt q
      · have:=h1.size
        omega,HA.out.2.2.2.2.2.2.2.2.1.base⟩
    have hst1:RTSP w w1 gt gs (.slice a l.length c) (.slice a1 (l.length+1) c1):=(RTSP.of_below gt gs _ (HA.out.2.2.2.2.2.2.2.2.2.trans (h1.mono HA.out.2.2.2.2.2.2.2.2.2.size))).trans (h3.tree gt);have T1:Aside (RTREE w1 B gt gs D n (l ++ [⟨V 0 n,true,0⟩]) a1 c1/\RTSP w w1 gt gs (.slice a l.length c) (.slice a1 (l.length+1) c1)):=⟨hT1,hst1⟩
    have cS:=z3M 0 n ⟨by decide,by have:=HA.out.2.2.1;omega⟩ w1;rw [HP0.out,hNN] at cS;unfold SPOT at cS;clear h1 h2 h3 hT1 hst1 cP KP hS0 hG0 hX0 n3 o3 k3 hY hl5 hne hnt;dsimp only;go_wp2_with fail
    refine cS.mono ?_;rintro e w2 ⟨rfl,hb2⟩;clear cS;go_wp2_with fail
    obtain ⟨w3,hw3⟩:∃ w3,w2.alloc (.cells #[.int .u8 0,.int .u64 (n:Int)] 102)=w3:=⟨_,rfl⟩
    obtain ⟨b6,hb6⟩:∃ b,w2.heap.size=b:=⟨_,rfl⟩
    rw [hw3,hb6];have hb23:Below w2.heap.size w2 w3:=by rw [<-hw3];exact (Below.refl _ _).alloc (Nat.le_refl _) _
    have hb13:Below w1.heap.size w1 w3:=hb2.trans (hb23.mono hb2.size);obtain ⟨t,ht1,ht2⟩:=HX.z8K n
    have M0:Aside (RGRW w w3 B gt gs D n 0 b6 V (.slice a l.length c) (l ++ [⟨V 0 n,true,0⟩]) a1 c1):=by
      have hln:(l ++ [(⟨V 0 n,true,0⟩:RND)]).length=l.length+1:=by simp
      have hs2:=hb2.size;refine ⟨T1.out.1.below hb13,by rw [hln,HA.out.1],fun x y hk=>?_,fun i hi=>?_,fun i hi=>by omega,?_,?_,by have:=T1.out.2.size;omega,fun e=>?_⟩
      · have:=HA.out.2.1 x y hk
        rw [List.getElem?_append_left (List.getElem?_eq_some_iff.1 this).1];exact this
      · obtain rfl:i=0:=by omega
        rw [List.getElem?_append_right (by rw [HA.out.1];omega),HA.out.1,Nat.add_zero,Nat.sub_self,Nat.pow_zero,Nat.div_one];rfl
      · rw [Nat.pow_zero,Nat.div_one,<-hw3,<-hb6]
        exact Has.new _ _ _
      · rw [hln]
        exact T1.out.2.trans (RTSP.of_below gt gs _ hb13)
      · have:=(T1.out.1.store.own.lt b6 e).2
        omega
    have HT:Aside (HX.ONES n t/\n / 2 ^ t % 2=0/\z02 n=NN):=⟨ht1,ht2,hNN⟩
    clear hw3 hb6 hb23 hb13 hb2 T1 ht1 ht2 hNN;go_loopg [5] t (fun q s5 wx=>∃ (j:Nat) (l':List RND) (a':Option Addr) (c' P:Nat),s5=.int .u64 (P:Int)/\Aside (j+q=t/\P=z02 n+j/\RGRW w wx B gt gs D n j b6 V (.slice a l.length c) l' a' c'))
    case atStart=>exact ⟨0,_,a1,c1,NN,rfl,by omega,HT.out.2.2.symm,M0.out⟩
    case round=>
      obtain ⟨j,l',a',c',P,rfl,A0⟩:=hrel;clear M0;have x1:wr.cell? ⟨b6,1,none⟩=some (.int .u64 ((n / 2 ^ j:Nat):Int)):=A0.out.2.2.spot.cell 1;cases gk with
      | zero=>
        obtain rfl:j=t:=by have:=A0.out.1;omega
        obtain ⟨ev1,ev2⟩:=zc7 HT.out.2.1;have RG:=A0.out.2.2;have y1:wr.cell? ⟨gt,1,none⟩=some (.int .u64 (n:Int)):=RG.tree.box.cell 1;have f1:=RG.tree.box.frozen 1;have Z:Aside (RTREE (wr.setCell ⟨gt,1,none⟩ (.int .u64 ((n+1:Nat):Int))) B gt gs D (n+1) l' a' c'/\RTSP w (wr.setCell ⟨gt,1,none⟩ (.int .u64 ((n+1:Nat):Int))) gt gs (.slice a l.length c) (.slice a' l'.length c')/\l'.length=z02 (n+1)/\∀ x y,(y+1)*2 ^ x<=n+1->l'[PLC x y]?=some ⟨V x y,true,0⟩):=⟨RG.done.1,RG.done.2,(RG.all HT.out.2.1).1,(RG.all HT.out.2.1).2⟩
        have eu:=zgR HA.out.2.2.1;have es:=zfG HA.out.2.2.1;clear A0 RG;generalize n / 2 ^ j=z at *
        go_wp2;go_ret;exact ⟨rfl,l',a',c',by first | exact Z.out.1 | simpa using Z.out.1,Z.out.2.2.1,Z.out.2.2.2,by first | exact Z.out.2.1 | simpa using Z.out.2.1⟩
      | succ q=>
        have ho:n / 2 ^ j % 2=1:=HT.out.1 j (by have:=A0.out.1;omega);obtain ⟨od1,od2⟩:=zdM ho;have RG:=A0.out.2.2;have hNd:=z6n HA.out.2.2.1 RG.ones;have h10:=zfF HA.out.2.2.1 RG.ones;have hpl:PLC j (n / 2 ^ j)=P:=by rw [A0.out.2.1];exact RG.ones.place
        have cB:=z4b j (n / 2 ^ j) hNd (by omega) wr;rw [hpl,zgQ ho] at cB
        have hoK:=RG.old j (n / 2 ^ j - 1) (by
          rw [z5z ho];exact Nat.div_mul_le_self _ _)
        have hoP:=RG.new j (Nat.le_refl _);rw [<-A0.out.2.1] at hoP;have hon:=RG.ones.next ho;have hNd2:=z6n HA.out.2.2.1 hon;have hpl2:=hon.place;have hsp2:=hon.span;have hdd:n / 2 ^ (j+1)=n / 2 ^ j / 2:=by rw [Nat.div_div_eq_div_mul,Nat.pow_succ]
        have hXe:=HA.out.2.2.2.1 j (n / 2 ^ (j+1)) (by omega);rw [hdd,zfE ho,z5z ho,<-hdd] at hXe
        have hIL:IsH (V j (n / 2 ^ j - 1)):=HA.out.2.2.2.2.1 j _ (by
          rw [z5z ho];exact Nat.le_trans (Nat.div_mul_le_self _ _) (Nat.le_succ _))
        have hIA:IsH (V j (n / 2 ^ j)):=HA.out.2.2.2.2.1 j _ (Nat.le_of_eq RG.ones.span);have hll:l'.length=z02 n+1+j:=RG.len;have HJ:Aside (j+1+q=t/\P=z02 n+j/\n / 2 ^ j % 2=1/\l'.length=z02 n+1+j/\j<=10/\PLC (j+1) (n / 2 ^ (j+1))=z02 n+(j+1)/\Node (j+1) (n / 2 ^ (j+1))/\z0X D (V j (n / 2 ^ j - 1)) (V j (n / 2 ^ j))=V (j+1) (n / 2 ^ (j+1))):=⟨by have:=A0.out.1;omega,A0.out.2.1,ho,hll,h10,hpl2,hNd2,hXe⟩
        have RGA:Aside (RGRW w wr B gt gs D n j b6 V (.slice a l.length c) l' a' c'):=RG;clear A0 RG hNd hpl hon hNd2 hpl2 hsp2 hdd hXe h10 ho hll;obtain ⟨K,hK⟩:∃ K,PLC j (n / 2 ^ j - 1)=K:=⟨_,rfl⟩
        rw [hK] at cB hoK;generalize hLe:V j (n / 2 ^ j - 1)=L at *
        generalize hAe:V j (n / 2 ^ j)=Y at *
        generalize hze:n / 2 ^ j=z at *
        have HZ:Aside (n / 2 ^ j=z):=hze;clear hze hLe hAe hK;go_wp2_with fail
        refine cB.mono ?_;rintro e w4 ⟨rfl,hb4⟩;clear cB x1 od1 od2;have RG4:=RGA.out.below hb4;obtain ⟨gn,e1,_,hgn,_,hKl,hrK,_⟩:=RG4.tree.store.node hoK;obtain ⟨gn',e2,_,_,_,hPl,hrP,_⟩:=RG4.tree.store.node hoP;subst e1;obtain rfl:gn=gn':=by simpa using e2
        have iK:(K:Int)<(l'.length:Int):=by omega
        have iP:(P:Int)<(l'.length:Int):=by omega
        have R4:Aside (RGRW w w4 B gt gs D n j b6 V (.slice a l.length c) l' (some ⟨gn,0,none⟩) c'):=RG4;have hbx:=RG4.tree.box;have hsx:=RG4.tree.store.box
        have cNP:Aside ((∀ W,Below w4.heap.size w4 W->Calls Tryz.prog 44 #[.int .i64 D,.agg (z00 L).toArray,.agg (z00 Y).toArray] W fun e w'=>e=.returned (.agg (z00 (z0X D L Y)).toArray)/\Below w4.heap.size w4 w')/\∀ W,Below w4.heap.size w4 W->Calls Tryz.prog 41 #[.pointer (some ⟨gs,0,none⟩),.agg (z00 (z0X D L Y)).toArray] W fun e w'=>e=.returned (.int .u64 (l'.length:Int))/\∃ W1 a2 c2,Below w4.heap.size w4 W1/\RSTORE w' B gs 3 (l' ++ [⟨z0X D L Y,true,0⟩]) a2 c2/\RSTP W1 w' gs (.slice (some ⟨gn,0,none⟩) l'.length c') (.slice a2 (l'.length+1) c2)):=by
          refine ⟨fun W h=>(za7 D L Y hIL hIA W).mono fun e w' he=>⟨he.1,h.trans (he.2.mono h.size)⟩,fun W h=>?_⟩;refine (z8Q (R4.out.tree.store.below h) (z0X D L Y) (zfk _ _ _).1 (by have:=HJ.out;have:=HA.out;omega)).mono ?_;rintro e w' ⟨a2,c2,rfl,h1,h2⟩;exact ⟨rfl,W,a2,c2,h,h1,h2⟩
        have KG:Aside (∀ W1 W a2 c2,Below w4.heap.size w4 W1->RSTP W1 W gs (.slice (some ⟨gn,0,none⟩) l'.length c') (.slice a2 (l'.length+1) c2)->Has W gt #[.int .i64 D,.int .u64 (n:Int),.pointer (some ⟨gs,0,none⟩)] 41/\Has W b6 #[.int .u8 (j:Int),.int .u64 (z:Int)] 102):=fun W1 W a2 c2 h1 h2=>by
          have hg4:=R4.out.tree.box.lt;have h64:=R4.out.spot.lt;have:=R4.out.base;have:=HA.out;have hsp:=R4.out.spot;rw [HZ.out] at hsp;exact ⟨(h2.block gt (Nat.lt_of_lt_of_le hg4 h1.size) R4.out.tree.ne R4.out.tree.nt).trans ((h1.block gt hg4).trans R4.out.tree.box),(h2.block b6 (Nat.lt_of_lt_of_le h64 h1.size) (by omega) R4.out.off).trans ((h1.block b6 h64).trans hsp)⟩
        clear RGA RG4 hb4 hoK hoP hgn hKl hPl;go_upto_region 5 with fail
        refine zfr w4 gt gs gn l'.length c' P K l'.length D L Y (z0X D L Y) hIL.1 hIA.1 iK iP (fun W=>Below w4.heap.size w4 W) (fun W=>Below w4.heap.size w4 W) (fun W=>∃ W1 a2 c2,Below w4.heap.size w4 W1/\RSTORE W B gs 3 (l' ++ [⟨z0X D L Y,true,0⟩]) a2 c2/\RSTP W1 W gs (.slice (some ⟨gn,0,none⟩) l'.length c') (.slice a2 (l'.length+1) c2)) (Below.refl _ _).drew (fun W h=>⟨(hbx.keep h).cell 0,(hbx.keep h).cell 2⟩) (fun W h=>⟨(hbx.keep h).cell 0,(hbx.keep h).cell 2⟩) (fun W h=>?_) (fun W h=>(hsx.keep h).cell 1) (fun W h=>fun i v hv=>(h.cell (p:=⟨gn,K*34+i,none⟩) (R4.out.tree.store.own.lt gn rfl).2).trans (hrK i v hv)) (fun W h=>fun i v hv=>(h.cell (p:=⟨gn,P*34+i,none⟩) (R4.out.tree.store.own.lt gn rfl).2).trans (hrP i v hv)) cNP.out.1 cNP.out.2 (fun _ _ _ _ _ h=>h) ?_
        · obtain ⟨W1,a2,c2,h1,_,h3⟩:=h
          have:=(KG.out W1 W a2 c2 h1 h3).1;exact ⟨this.cell 0,this.cell 2⟩
        · rintro w5 ⟨W1,a2,c2,h1,h2,h3⟩
          have cS:=z3M (j+1) (n / 2 ^ (j+1)) HJ.out.2.2.2.2.2.2.1 w5;rw [HJ.out.2.2.2.2.2.1,show z02 n+(j+1)=l'.length by have:=HJ.out;omega] at cS;unfold SPOT at cS;have k6:=(KG.out W1 w5 a2 c2 h1 h3).2;have T5:Aside (Below w4.heap.size w4 W1/\RSTORE w5 B gs 3 (l' ++ [⟨z0X D L Y,true,0⟩]) a2 c2/\RSTP W1 w5 gs (.slice (some ⟨gn,0,none⟩) l'.length c') (.slice a2 (l'.length+1) c2)):=⟨h1,h2,h3⟩
          clear h1 h2 h3 hbx hsx hrK hrP cNP KG iK iP;dsimp only;generalize hz2:n / 2 ^ (j+1)=z2 at *
          have HZ2:Aside (n / 2 ^ (j+1)=z2):=hz2;clear hz2;obtain ⟨j1,hj1⟩:∃ j1,j+1=j1:=⟨_,rfl⟩
          rw [hj1] at cS;have HJ1:Aside (j+1=j1):=hj1;clear hj1;go_wp2_with fail
          refine cS.mono ?_;rintro e w6 ⟨rfl,hb6'⟩;clear cS;have k6:=k6.keep hb6'
          have hos6:∀ (u v:Value),((w6.setCell ⟨b6,0,none⟩ u).setCell ⟨b6,1,none⟩ v).os=w6.os/\((w6.setCell ⟨b6,0,none⟩ u).setCell ⟨b6,1,none⟩ v).tape=w6.tape/\((w6.setCell ⟨b6,0,none⟩ u).setCell ⟨b6,1,none⟩ v).output=w6.output/\w6.heap.size<=((w6.setCell ⟨b6,0,none⟩ u).setCell ⟨b6,1,none⟩ v).heap.size:=fun u v=>by
            have hb:=((Below.refl 0 w6).setCell (p:=⟨b6,0,none⟩) (Nat.zero_le _) u).setCell (p:=⟨b6,1,none⟩) (Nat.zero_le _) v;exact ⟨hb.os,hb.tape,hb.output,hb.size⟩
          have Z:Aside (RGRW w ((w6.setCell ⟨b6,0,none⟩ (.int .u8 (j1:Int))).setCell ⟨b6,1,none⟩ (.int .u64 (z2:Int))) B gt gs D n (j+1) b6 V (.slice a l.length c) (l' ++ [⟨z0X D L Y,true,0⟩]) a2 c2):=by
            have k62:=(k6.set 0 (.int .u8 (j1:Int))).set 1 (.int .u64 (z2:Int));have ho6:=hos6 (.int .u8 (j1:Int)) (.int .u64 (z2:Int));have t5:=T5.out;have hj:=HJ.out;rw [<-HZ2.out] at hj;refine (R4.out.below t5.1).next HA.out.2.2.2.2.2.2.1 HA.out.2.2.2.2.2.2.2.1 (by rw [HZ.out];exact hj.2.2.1) hj.2.2.2.2.2.2.2 (t5.2.1.below hb6') (t5.2.2.trans (RSTP.of_below gs _ hb6')) ?_ (fun k hk=>(Below.heap_setCell _ _ _ k hk).trans (Below.heap_setCell _ _ _ k hk)) ho6;rw [HZ2.out,HJ1.out];exact k62
          have x0:w6.cell? ⟨b6,0,none⟩=some (.int .u8 (j:Int)):=k6.cell 0;have x1:w6.cell? ⟨b6,1,none⟩=some (.int .u64 (z:Int)):=k6.cell 1;have f0:=k6.frozen 0;have f1:=k6.frozen 1;clear hb6' T5 R4 k6 hos6;go_wp2;generalize (w6.setCell ⟨b6,0,none⟩ (.int .u8 (j1:Int))).setCell ⟨b6,1,none⟩ (.int .u64 (z2:Int))=w7 at *
          go_roundg q
          case measure=>exact Nat.lt_succ_self _
          case rel=>exact ⟨j+1,_,a2,c2,l'.length,rfl,HJ.out.1,by have:=HJ.out;omega,Z.out⟩
theorem RTSP.bel {w w':World} {gt gs B:Nat} {v v':Value} (h:RTSP w w' gt gs v v') (hB:B<=w.heap.size) (h1:B<=gt) (h2:B<=gs) (h3:∀ k,v.ownBlock=some k->B<=k):Below B w w':=
 ⟨h.os,h.tape,h.output,h.size,fun k hk=>h.block k (by omega) (by omega) (by omega) (fun e=>by have:=h3 k e;omega)⟩
def ROF (w:World) (D:Int) (nl:Nat) (V:Nat->Nat->List Int) (e:Ending) (w':World):Prop:=∃ gt gs l a c,e=.returned (.pointer (some ⟨gt,0,none⟩))/\RTREE w' w.heap.size gt gs D nl l a c/\l.length=z02 nl/\(∀ h k,(k+1)*2 ^ h<=nl->l[PLC h k]?=some ⟨V h k,true,0⟩)/\Below w.heap.size w w'
theorem zhE (d:Int) (V:Nat->Nat->List Int) (al:Option Addr) (nl cl:Nat) (lv:List Int) (w:World) (hF:Flat w al nl lv) (hn:nl<=1000) (h0:∀ i,i<nl->V 0 i=HSH lv i) (hV:∀ h k,(k+1)*2 ^ (h+1)<=nl->z0X ((HX.WID d:Nat):Int) (V h (2*k)) (V h (2*k+1))=V (h+1) k) (hI:∀ h k,(k+1)*2 ^ h<=nl->IsH (V h k)):
  Calls Tryz.prog 7 #[.int .i64 d,.slice al nl cl] w (ROF w ((HX.WID d:Nat):Int) nl V):=by
 have cn:=zfD d w;have HA:Aside (Flat w al nl lv/\nl<=1000/\(∀ i,i<nl->V 0 i=HSH lv i)/\(∀ h k,(k+1)*2 ^ (h+1)<=nl->z0X ((HX.WID d:Nat):Int) (V h (2*k)) (V h (2*k+1))=V (h+1) k)/\∀ h k,(k+1)*2 ^ h<=nl->IsH (V h k)):=⟨hF,hn,h0,hV,hI⟩
 clear hF hn h0 hV hI;generalize ((HX.WID d:Nat):Int)=D at *
 go_enter Tryz.func7,Tryz.ntmps7;go_wp2_with fail
 refine cn.mono ?_;rintro e w1 ⟨gt,gs,rfl,hT,hb⟩;clear cn;have M0:Aside (RTREE w1 w.heap.size gt gs D 0 [] none 0/\Below w.heap.size w w1):=⟨hT,hb⟩
 clear hT hb;go_wp2_with fail
 go_loopg [7] nl (fun q s7 wx=>∃ (i:Nat) (l:List RND) (a:Option Addr) (c:Nat),s7=.int .i64 (i:Int)/\Aside (i+q=nl/\RTREE wx w.heap.size gt gs D i l a c/\l.length=z02 i/\(∀ h k,(k+1)*2 ^ h<=i->l[PLC h k]?=some ⟨V h k,true,0⟩)/\Below w.heap.size w wx))
 case atStart=>exact ⟨0,[],none,0,rfl,by omega,M0.out.1,rfl,fun h k hk=>(by have:0<(k+1)*2 ^ h:=Nat.mul_pos (Nat.succ_pos _) (Nat.two_pow_pos _);omega),M0.out.2⟩
 case round=>
  obtain ⟨i,l,a,c,rfl,A⟩:=hrel;clear M0;cases gk with
  | zero=>
    obtain rfl:i=nl:=by have:=A.out.1;omega
    have hlt:¬ (i:Int)<(i:Int):=by omega
    go_wp2;go_ret;unfold ROF;exact ⟨gt,gs,l,a,c,rfl,A.out.2⟩
  | succ q=>
    have hin:i<nl:=by have:=A.out.1;omega
    have hlt:(i:Int)<(nl:Int):=by omega
    obtain ⟨lb,lo,rfl,hlb,_⟩:=HA.out.1.2.1 (by omega);have hrg:wr.rangeAt lb (lo+i*32) (z00 (HSH lv i)):=(HA.out.1.below A.out.2.2.2.2).at hin;have h32:(HSH lv i).length=32:=z1O HA.out.1.1 hin;have cA:=zc8 V A.out.2.1 A.out.2.2.1 A.out.2.2.2.1 (by have:=HA.out;omega) (fun h k hk=>HA.out.2.2.2.1 h k (by omega)) (fun h k hk=>HA.out.2.2.2.2 h k (by omega));rw [HA.out.2.2.1 i hin] at cA;have ei:wrap64 ((i:Int)+1)=((i+1:Nat):Int):=by have:=HA.out.2.1;unfold wrap64;omega
    have A3:Aside (i+1+q=nl):=by have:=A.out.1;show i+1+q=nl;clear ei;omega
    clear hin hlb;go_wp2_with (refine wpList_load_mid rfl 25 (.tmp 22) rfl lb (lo+i*32) rfl (z00 (HSH lv i)) _ hrg Tryz.underlying25 rfl (z0g h32) ?_)
    refine cA.mono ?_;rintro e w3 ⟨rfl,l',a',c',q1,q2,q3,q4⟩;have Z:Aside (RTREE w3 w.heap.size gt gs D (i+1) l' a' c'/\l'.length=z02 (i+1)/\(∀ h k,(k+1)*2 ^ h<=i+1->l'[PLC h k]?=some ⟨V h k,true,0⟩)/\Below w.heap.size w w3):=⟨q1,q2,q3,A.out.2.2.2.2.trans (q4.bel A.out.2.2.2.2.size A.out.2.1.base A.out.2.1.store.base (fun k e=>(A.out.2.1.store.own.lt k e).1))⟩
    clear cA hrg h32 q1 q2 q3 q4 A;go_wp2_with fail
    go_roundg q
    case measure=>exact Nat.lt_succ_self _
    case rel=>exact ⟨i+1,l',a',c',by first | rfl | (rw [ei]),A3.out,Z.out⟩
end Go.Proofs.YtlbcnaenhghieaaGreatDoor
