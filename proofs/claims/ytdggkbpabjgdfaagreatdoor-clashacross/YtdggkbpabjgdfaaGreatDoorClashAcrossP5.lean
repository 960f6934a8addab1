/- ClashAcross: part 5. -/
import Derived.Test.YtdggkbpabjgdfaaGreatDoorClashAcrossP4
set_option maxHeartbeats 2000000
namespace Go.Proofs.YtdggkbpabjgdfaaGreatDoor
open Go.RowKit
def RefAt (p:Int) (h k:Nat) (ok:Bool):Prop:=∀ w,Calls Tryz.prog 143 #[.int .u64 p] w fun e w'=>e=.returned (.tuple #[SPOT h k,.bool ok])/\Below w.heap.size w w'
theorem RefAt.node {h k:Nat} (hN:Node h k):RefAt ((PLC h k:Nat):Int) h k true:=fun w=>zcU h k hN w
theorem RefAt.out {p:Int} (hp:9223372036854775807<=p):RefAt p 0 0 false:=fun w=>zbj p hp w
theorem zaa (h k:Nat) (t z y l a r:Int) (w:World) (hh:h<=62) (hm:wrap64 (h:Int)=(h:Int)) (hm2:IntKind.u64.wrap (h:Int)=(h:Int)) (ht:wrap64 (62 - (h:Int))=t) (hk:decide (y<=(k:Int))=false)
  (cy:∀ w,Calls Tryz.prog 58 #[.int .i64 t] w fun e w'=>e=.returned (.int .u64 y)/\w=w') (cz:∀ w,Calls Tryz.prog 58 #[.int .i64 (h:Int)] w fun e w'=>e=.returned (.int .u64 z)/\w=w')
  (e0:IntKind.u64.wrap ((k:Int)+1)=(k:Int)+1) (e1:IntKind.u64.wrap (IntKind.u64.wrap (((k:Int)+1)*z) - 1)=l) (ca:∀ w,Calls Tryz.prog 125 #[.int .u64 l] w fun e w'=>e=.returned (.tuple #[.int .u64 a,.bool true])/\w=w') (e2:IntKind.u64.wrap (a+(h:Int))=r):
  Calls Tryz.prog 97 #[SPOT h k] w fun e w'=>e=.returned (.tuple #[.int .u64 r,.bool true])/\Below w.heap.size w w':=by
 have hd:decide ((62:Int)<(h:Int))=false:=by simp;omega
 go_enter Tryz.func97,Tryz.ntmps97;go_wp2;have hc0:(w.alloc (.cells #[.int .u8 (h:Int),.int .u64 (k:Int)] 77)).cell? ⟨w.heap.size,0,none⟩=some (.int .u8 (h:Int)):=by simp
 have hc1:(w.alloc (.cells #[.int .u8 (h:Int),.int .u64 (k:Int)] 77)).cell? ⟨w.heap.size,1,none⟩=some (.int .u64 (k:Int)):=by simp
 have R2:Aside (Below w.heap.size w (w.alloc (.cells #[.int .u8 (h:Int),.int .u64 (k:Int)] 77))):=(Below.refl _ _).alloc (Nat.le_refl _) _;generalize w.alloc (.cells #[.int .u8 (h:Int),.int .u64 (k:Int)] 77)=W at *
 generalize hb:w.heap.size=b at *
 clear hh;go_quiet ((go_at_call 58;exact z0M (cy _)))
 have R3:Aside (Below b w (W.drewN nq)):=below_drewN R2.out nq;have hc0':(W.drewN nq).cell? ⟨b,0,none⟩=some (.int .u8 (h:Int)):=hc0;have hc1':(W.drewN nq).cell? ⟨b,1,none⟩=some (.int .u64 (k:Int)):=hc1;clear hc0 hc1 R2 cy;generalize W.drewN nq=W2 at *
 go_wp2;go_quiet (first | (go_at_call 58;exact z0M (cz _)) | (go_at_call 125;exact z0M (ca _)))
 go_wp2;go_ret2;exact ⟨rfl,by rw [hb];exact below_drewN R3.out _⟩
theorem z7c (p:Int) (h k k1:Nat) (r:Int) (w:World) (hh:((h:Int) == 62)=false) (e1:IntKind.u64.wrap ((k:Int)+1)=(k1:Int)) (ha:((k:Int) % 2 == 1)=false) (cs:RefAt p h k true)
  (cp:∀ w,Calls Tryz.prog 97 #[SPOT h k1] w fun e w'=>e=.returned (.tuple #[.int .u64 r,.bool true])/\Below w.heap.size w w'):
  Calls Tryz.prog 124 #[.int .u64 p] w fun e w'=>e=.returned (.tuple #[.int .u64 r,.bool true])/\Below w.heap.size w w':=by
 have cs:=cs w;go_enter Tryz.func124,Tryz.ntmps124;go_wp2_with fail
 refine cs.mono ?_;rintro e w1 ⟨rfl,hb⟩;clear cs;have R:Aside (Below w.heap.size w w1):=hb;clear hb;go_wp2_with fail
 refine (cp _).mono ?_;rintro e w2 ⟨rfl,hb2⟩;have R2:Aside (Below w.heap.size w w2):=(R.out.alloc R.out.size _).trans (hb2.mono (by have:=R.out.size;simp;omega));clear cp hb2 R;go_wp2;go_ret2;exact ⟨rfl,R2.out⟩
theorem z6G (p:Int) (h k k1:Nat) (r:Int) (w:World) (hh:((h:Int) == 62)=false) (e1:IntKind.u64.wrap ((k:Int) - 1)=(k1:Int)) (ha:((k:Int) % 2 == 1)=true) (cs:RefAt p h k true)
  (cp:∀ w,Calls Tryz.prog 97 #[SPOT h k1] w fun e w'=>e=.returned (.tuple #[.int .u64 r,.bool true])/\Below w.heap.size w w'):
  Calls Tryz.prog 124 #[.int .u64 p] w fun e w'=>e=.returned (.tuple #[.int .u64 r,.bool true])/\Below w.heap.size w w':=by
 have cs:=cs w;go_enter Tryz.func124,Tryz.ntmps124;go_wp2_with fail
 refine cs.mono ?_;rintro e w1 ⟨rfl,hb⟩;clear cs;have R:Aside (Below w.heap.size w w1):=hb;clear hb;go_wp2_with fail
 refine (cp _).mono ?_;rintro e w2 ⟨rfl,hb2⟩;have R2:Aside (Below w.heap.size w w2):=(R.out.alloc R.out.size _).trans (hb2.mono (by have:=R.out.size;simp;omega));clear cp hb2 R;go_wp2;go_ret2;exact ⟨rfl,R2.out⟩
theorem zca (k:Nat):((k:Int) % 2 == 1)=decide (k % 2=1):=by
 rw [Bool.eq_iff_iff];simp;omega
theorem z2o (h k:Nat) (hN:Node h k) (w:World):Calls Tryz.prog 97 #[SPOT h k] w fun e w'=>e=.returned (.tuple #[.int .u64 ((PLC h k:Nat):Int),.bool true])/\Below w.heap.size w w':=by
 have h1:=hN.1;have h2:=hN.2;have h3:=hN.span;have h4:=hN.index_lt;have h5:=hN.lt;have h7:=z6z h k;have h8:=zbY h k;refine zaa h k ((62 - h:Nat):Int) ((2 ^ h:Nat):Int) ((2 ^ (62 - h):Nat):Int) (((k+1)*2 ^ h - 1:Nat):Int) ((z0v ((k+1)*2 ^ h - 1):Nat):Int) _ w h1 (by unfold wrap64;omega) (by rw [z08];omega) (by unfold wrap64;omega) (by simp only [decide_eq_false_iff_not];omega) (fun w=>z1b _ (by omega) w) (fun w=>z1b _ (by omega) w) (by rw [z08];omega) ?_ (fun w=>zbi _ (by omega) w) ?_
 ·rw [show (((k:Int)+1)*((2 ^ h:Nat):Int))=(((k+1)*2 ^ h:Nat):Int) by rw [Int.natCast_mul];rfl]
  generalize (k+1)*2 ^ h=x at *
  rw [z08,z08];omega
 ·rw [z08]
  omega
theorem z9s (h k:Nat) (hN:Node h k) (hh:h<62) (w:World):Calls Tryz.prog 124 #[.int .u64 ((PLC h k:Nat):Int)] w fun e w'=>e=.returned (.tuple #[.int .u64 ((PLC h (SIB k):Nat):Int),.bool true])/\Below w.heap.size w w':=by
 have hs:=hN.sib hh;have hi:=hN.index_lt;by_cases hk:k % 2=1
 ·have e:SIB k=k - 1:=by unfold SIB;rw [if_pos hk]
  rw [e] at hs ⊢;exact z6G _ h k (k - 1) _ w (by simp;omega) (by rw [z08];omega) (by rw [zca,decide_eq_true hk]) (.node hN) (fun w=>z2o _ _ hs w)
 ·have e:SIB k=k+1:=by unfold SIB;rw [if_neg hk]
  rw [e] at hs ⊢;exact z7c _ h k (k+1) _ w (by simp;omega) (by rw [z08];omega) (by rw [zca,decide_eq_false hk]) (.node hN) (fun w=>z2o _ _ hs w)
def TOPS (h n:Nat):List (Nat × Nat):=(HS h n).map fun g=>(g,2*(n / 2 ^ (g+1)))
theorem zgn {h n:Nat} (hh:h<64) (hb:n / 2 ^ h % 2=1):TOPS h n=TOPS (h+1) n ++ [(h,2*(n / 2 ^ (h+1)))]:=by
 unfold TOPS;rw [z39 hh hb,List.map_append];rfl
theorem zcV {h n:Nat} (hh:h<64) (hb:¬ n / 2 ^ h % 2=1):TOPS h n=TOPS (h+1) n:=by
 unfold TOPS;rw [z2S hh hb]
theorem z32 {n:Nat} (hn:n<2 ^ 64) (h:Nat) (hh:h<=64):(TOPS h n).length=PC (n / 2 ^ h):=by
 unfold TOPS;rw [List.length_map];exact z3a hn h hh
theorem zcW {n h at' r:Nat} (ha:at'=n / 2 ^ (h+1)*2 ^ (h+1)) (hr:r=n - at'):at'<=n/\(2 ^ h<=r↔n / 2 ^ h % 2=1)/\at' / 2 ^ h=2*(n / 2 ^ (h+1))/\(n / 2 ^ h % 2=1->at'+2 ^ h=n / 2 ^ h*2 ^ h)/\(¬ n / 2 ^ h % 2=1->at'=n / 2 ^ h*2 ^ h):=by
 have hp:=Nat.two_pow_pos h;have e1:at'=2*(n / 2 ^ (h+1))*2 ^ h:=by rw [ha,z1m]
 have hd:=Nat.div_add_mod n (2 ^ h);have hm:=Nat.mod_lt n hp;rw [Nat.mul_comm] at hd;have hq:at' / 2 ^ h=2*(n / 2 ^ (h+1)):=by rw [e1,Nat.mul_div_cancel _ hp]
 by_cases hb:n / 2 ^ h % 2=1
 ·have h2:=z5f hb
  have e2:n / 2 ^ h*2 ^ h=at'+2 ^ h:=by rw [h2,Nat.add_mul,Nat.one_mul,<-e1]
  exact ⟨by omega,⟨fun _=>hb,fun _=>by omega⟩,hq,fun _=>e2.symm,fun h=>absurd hb h⟩
 ·have h2:=z9X hb
  have e2:n / 2 ^ h*2 ^ h=at':=by rw [h2,<-e1]
  exact ⟨by omega,⟨fun _=>by omega,fun h=>absurd h hb⟩,hq,fun h=>absurd h hb,fun _=>e2.symm⟩
theorem z8b (n:Nat) (hn:n<=4611686018427387904) (w:World):Calls Tryz.prog 30 #[.int .u64 (n:Int)] w fun e w'=>
  ∃ v,e=.returned v/\w'.ownsRow w.heap.size 77 2 v (PC n) (z07 (TOPS 0 n))/\Below w.heap.size w w':=by
 have HN:Aside (n<=4611686018427387904):=hn;have hd:¬ (4611686018427387904:Int)<(n:Int):=by omega
 clear hn;go_enter Tryz.func30,Tryz.ntmps30;go_wp2;go_loopg [3,4,5] 63 (fun q s3 s4 s5 wx=>∃ a:Nat,s4=.int .u64 (a:Int)/\s5=.int .i64 ((q:Int) - 1)/\Aside (q<=63/\a=n / 2 ^ q*2 ^ q/\wx.ownsRow w.heap.size 77 2 s3 (PC (n / 2 ^ q)) (z07 (TOPS q n))/\Below w.heap.size w wx))
 case atStart=>
  have hz:n / 2 ^ 63=0:=Nat.div_eq_of_lt (by have:=HN.out;omega);refine ⟨0,rfl,rfl,by omega,by rw [hz,Nat.zero_mul],?_,Below.refl _ _⟩;rw [hz,z1q]
  have ht:TOPS 63 n=[]:=by
    unfold TOPS;rw [z9W (by have:=HN.out;omega)];rfl
  rw [ht];exact ⟨rfl,.inl ⟨rfl,rfl⟩⟩
 case round=>
  obtain ⟨a,rfl,rfl,A⟩:=hrel;cases gk with
  | zero=>
    have hlt:¬ (0:Int)<=((0:Nat):Int) - 1:=by omega
    go_wp2;go_ret;obtain ⟨_,_,hown,hbel⟩:=A.out;rw [Nat.pow_zero,Nat.div_one] at hown;exact ⟨_,rfl,hown,hbel⟩
  | succ h=>
    obtain ⟨h63,ha,hown,hbel⟩:=A.out;have hnn:=HN.out;obtain ⟨r,hr⟩:∃ r,r=n - a:=⟨_,rfl⟩
    obtain ⟨p1,p2,p3,p4,p5⟩:=zcW ha hr;have c:=z1b h (by omega);have hpw:2 ^ h<=2 ^ 62:=Nat.pow_le_pow_right (by decide) (by omega);have hp0:=Nat.two_pow_pos h;have e0:((h+1:Nat):Int) - 1=(h:Int):=by omega
    have e0':¬ (h:Int)<0:=by omega
    have e1:IntKind.u64.wrap ((n:Int) - (a:Int))=(r:Int):=by rw [z08];omega
    have e3:(h:Int) % 256=(h:Int):=by omega
    have e4:wrap64 ((h:Int) - 1)=(h:Int) - 1:=by unfold wrap64;omega
    rw [e0];by_cases hb:n / 2 ^ h % 2=1
    ·have hge:2 ^ h<=r:=p2.2 hb
     have pq:=p4 hb;have e5:(a:Int) / ((2 ^ h:Nat):Int)=((2*(n / 2 ^ (h+1)):Nat):Int):=by rw [<-p3,Int.natCast_ediv]
     have hT:=zgn (n:=n) (h:=h) (by omega) hb;have hPC:PC (n / 2 ^ h)=PC (n / 2 ^ (h+1))+1:=by rw [z0W,<-z0S];omega
     have hlen:PC (n / 2 ^ (h+1))<=1000:=by have:=z0C 64 (n / 2 ^ (h+1)) (Nat.lt_of_le_of_lt (Nat.div_le_self _ _) (by omega));omega
     have hk64:2*(n / 2 ^ (h+1))<2 ^ 64:=by rw [<-p3];exact Nat.lt_of_le_of_lt (Nat.div_le_self _ _) (by omega)
     generalize 2*(n / 2 ^ (h+1))=k at *
     have e7:IntKind.u64.wrap (k:Int)=(k:Int):=by rw [z08];omega
     have e6:IntKind.u64.wrap ((a:Int)+((2 ^ h:Nat):Int))=((n / 2 ^ h*2 ^ h:Nat):Int):=by rw [z08,<-pq];omega
     have hge':((2 ^ h:Nat):Int)<=(r:Int):=by omega
     have hz0:¬ ((2 ^ h:Nat):Int)=0:=by omega
     generalize hm:PC (n / 2 ^ (h+1))=m at *
     generalize hl:TOPS (h+1) n=l at *
     generalize ((2 ^ h:Nat):Int)=z at *
     generalize hx:n / 2 ^ h*2 ^ h=x at *
     have R:Aside (h<=62/\x=n / 2 ^ h*2 ^ h/\wr.ownsRow w.heap.size 77 2 u3 m (z07 l)/\Below w.heap.size w wr/\m<=1000/\PC (n / 2 ^ h)=m+1/\TOPS h n=l ++ [(h,k)]):=⟨by omega,hx.symm,hown,hbel,hlen,hPC,hT⟩
     clear A HN h63 ha hown hbel hnn hr p1 p2 p3 p4 p5 hpw hp0 hb hge pq hT hPC hlen hk64 hm hl hx;go_wp2_with fail
     refine (c _).mono ?_;rintro e w' ⟨rfl,rfl⟩;go_wp2_with fail
     refine (c _).mono ?_;rintro e w' ⟨rfl,rfl⟩;go_wp2_with (at_builtin;refine z2T _ rfl (.tmp 19) (.tmp 27) rfl w.heap.size u3 m l rfl (R.out.2.2.1.alloc _) wr.heap.size 1 h k rfl (by rw [World.cell?_alloc_at _ _ _ _ rfl];rfl) (by rw [World.cell?_alloc_at _ _ _ _ rfl];rfl) R.out.2.2.2.2.1 (by have:=R.out.2.2.2.1.size;simp;omega) ?_;intro g' cap w1 hown hgrow hg)
     obtain ⟨r1,r2,r3,r4,r5,r6,r7⟩:=R.out;have R2:Aside (h<=63/\x=n / 2 ^ h*2 ^ h/\w1.ownsRow w.heap.size 77 2 (.slice (some ⟨g',0,none⟩) (m+1) cap) (PC (n / 2 ^ h)) (z07 (TOPS h n))/\Below w.heap.size w w1):=⟨by omega,r2,by rw [r6,r7];exact hown,(r4.alloc r4.size _).grown hgrow (by have:=r4.size;simp;omega) (fun k e=>(r3.lt k e).1)⟩
     clear hown hgrow hg R r1 r2 r3 r4 r5 r6 r7;refine (c _).mono ?_;rintro e w' ⟨rfl,rfl⟩;clear c;go_wp2;go_roundg h
     case measure=>omega
     case rel=>exact ⟨x,by first | rfl | (rw [e6]),by first | rfl | (rw [e4]),R2.out⟩
    ·have hge:¬ 2 ^ h<=r:=fun h=>hb (p2.1 h)
     have pq:=p5 hb;have hge':¬ ((2 ^ h:Nat):Int)<=(r:Int):=by omega
     have hT:=zcV (n:=n) (h:=h) (by omega) hb;have hPC:PC (n / 2 ^ h)=PC (n / 2 ^ (h+1)):=by rw [z0W,<-z0S];omega
     generalize ((2 ^ h:Nat):Int)=z at *
     have R:Aside (h<=63/\a=n / 2 ^ h*2 ^ h/\wr.ownsRow w.heap.size 77 2 u3 (PC (n / 2 ^ h)) (z07 (TOPS h n))/\Below w.heap.size w wr):=⟨by omega,pq,by rw [hT,hPC];exact hown,hbel⟩
     clear A HN h63 ha hown hbel hnn hr p1 p2 p3 p4 p5 hpw hp0 hb hge pq hT hPC;go_wp2_with fail
     refine (c _).mono ?_;rintro e w' ⟨rfl,rfl⟩;clear c;go_wp2;go_roundg h
     case measure=>omega
     case rel=>exact ⟨a,rfl,by first | rfl | (rw [e4]),R.out⟩
theorem z3l (n:Nat) (hn:n<=4611686018427387904) (w:World):Calls Tryz.prog 30 #[.int .u64 (n:Int)] w fun e w'=>
  ∃ a cap,e=.returned (.slice a (PC n) cap)/\Spots w' a (TOPS 0 n)/\Below w.heap.size w w':=by
 refine (z8b n hn w).mono ?_;rintro e w' ⟨v,rfl,hown,hb⟩;have hl:=z32 (n:=n) (by omega) 0 (by omega);rw [Nat.pow_zero,Nat.div_one] at hl;obtain ⟨a,cap,rfl,hs⟩:=z2A hl hown;exact ⟨a,cap,rfl,hs,hb⟩
theorem zey {n:Nat} (hn:n<=4611686018427387904) {j h k:Nat} (e:(TOPS 0 n)[j]?=some (h,k)):Node h k/\h<64:=by
 unfold TOPS at e;rw [List.getElem?_map] at e;obtain ⟨g,hg,e2⟩:=Option.map_eq_some_iff.1 e;simp only [Prod.mk.injEq] at e2;obtain ⟨rfl,rfl⟩:=e2;obtain ⟨_,h1,h2⟩:=zeg 0 g (by omega) (List.mem_of_getElem? hg);exact ⟨Node.peak hn h2,h1⟩
theorem zcX (n:Nat):z1h n=(TOPS 0 n).map fun x=>PLC x.1 x.2:=by
 unfold z1h TOPS;rw [List.map_map];rfl
theorem z6a (n:Nat) (hn:n<=4611686018427387904) (w:World):Calls Tryz.prog 96 #[.int .u64 (n:Int)] w fun e w'=>
  ∃ v,e=.returned v/\w'.ownsRow w.heap.size 22 1 v (PC n) (z04 (z1h n))/\Below w.heap.size w w':=by
 have c:=z3l n hn w;have hl:=z32 (n:=n) (by omega) 0 (by omega);rw [Nat.pow_zero,Nat.div_one] at hl;have hP:=z0C 64 n (by omega);have hN:=fun (j h k:Nat) (e:(TOPS 0 n)[j]?=some (h,k))=>zey hn e;have hpt:=zcX n;generalize PC n=L at *
 generalize TOPS 0 n=l at *
 have HL:Aside (l.length=L/\L<=64/\(∀ j h k,l[j]?=some (h,k)->Node h k/\h<64)/\z1h n=l.map fun x=>PLC x.1 x.2):=⟨hl,hP,hN,hpt⟩
 clear hn hl hP hN hpt;go_enter Tryz.func96,Tryz.ntmps96;go_wp2_with fail
 refine c.mono ?_;rintro e w1 ⟨a,cap,rfl,hs,hb⟩;have R1:Aside (Spots w1 a l/\Below w.heap.size w w1):=⟨hs,hb⟩
 clear c hs hb;go_wp2;go_loopg [3,5] L (fun q s3 s5 wx=>∃ j:Nat,s5=.int .i64 (j:Int)/\Aside (j+q=L/\wx.ownsRow w1.heap.size 22 1 s3 j (z04 ((l.take j).map fun x=>PLC x.1 x.2))/\Below w1.heap.size w1 wx))
 case atStart=>exact ⟨0,rfl,by omega,⟨rfl,.inl ⟨rfl,rfl⟩⟩,Below.refl _ _⟩
 case round=>
  obtain ⟨j,rfl,A⟩:=hrel;cases gk with
  | zero=>
    obtain rfl:j=L:=by have:=A.out.1;omega
    have hlt:¬ (j:Int)<(j:Int):=by omega
    go_wp2;go_ret;obtain ⟨_,hown,hbel⟩:=A.out;rw [List.take_of_length_le (by rw [HL.out.1];omega),<-HL.out.2.2.2] at hown;exact ⟨_,rfl,z0q hown R1.out.2.size,R1.out.2.trans (hbel.mono R1.out.2.size)⟩
  | succ q=>
    have hjl:j<L:=by have:=A.out.1;omega
    have hlt:(j:Int)<(L:Int):=by omega
    have hj0:¬ (j:Int)<0:=by omega
    obtain ⟨⟨h,k⟩,hx⟩:∃ x,l[j]?=some x:=⟨_,List.getElem?_eq_getElem (by rw [HL.out.1];exact hjl)⟩
    obtain ⟨g,rfl,hg,hc⟩:=R1.out.1 (by rw [HL.out.1];omega);have h0:wr.cell? ⟨g,j*2,none⟩=some (.int .u8 (h:Int)):=(A.out.2.2.cell (p:=⟨g,j*2,none⟩) hg).trans (hc j h k hx).1;have h1:wr.cell? ⟨g,j*2+1,none⟩=some (.int .u64 (k:Int)):=(A.out.2.2.cell (p:=⟨g,j*2+1,none⟩) hg).trans (hc j h k hx).2;have cp:=fun w=>z2o h k (HL.out.2.2.1 j h k hx).1 w;have e1:wrap64 ((j:Int)+1)=((j+1:Nat):Int):=by have:=HL.out.2.1;unfold wrap64;omega
    have ht:(l.take (j+1)).map (fun x=>PLC x.1 x.2)=(l.take j).map (fun x=>PLC x.1 x.2) ++ [PLC h k]:=by
     rw [List.take_add_one,hx];simp
    generalize PLC h k=y at *
    generalize hm:(l.take j).map (fun x=>PLC x.1 x.2)=m at *
    generalize hm2:(l.take (j+1)).map (fun x=>PLC x.1 x.2)=m2 at *
    have R:Aside (j+1+q=L/\wr.ownsRow w1.heap.size 22 1 u3 j (z04 m)/\Below w1.heap.size w1 wr/\j<=1000/\m2=m ++ [y]/\(l.take (j+1)).map (fun x=>PLC x.1 x.2)=m2):=⟨by have:=A.out.1;omega,A.out.2.1,A.out.2.2,by have:=HL.out.2.1;omega,ht,hm2⟩
    clear A HL R1 hx hg hc ht hm hm2 hjl;go_wp2_with fail
    refine (cp _).mono ?_;rintro e w2 ⟨rfl,hb⟩;replace R:Aside (j+1+q=L/\w2.ownsRow w1.heap.size 22 1 u3 j (z04 m)/\Below w1.heap.size w1 w2/\j<=1000/\m2=m ++ [y]/\(l.take (j+1)).map (fun x=>PLC x.1 x.2)=m2):=⟨R.out.1,z0m R.out.2.1 hb,R.out.2.2.1.trans (hb.mono R.out.2.2.1.size),R.out.2.2.2⟩
    clear cp hb h0 h1;go_wp2_with (at_builtin;refine z4h _ rfl (.tmp 24) (.tmp 26) rfl w1.heap.size u3 j m rfl (R.out.2.1.alloc _) w2.heap.size 1 y rfl (by rw [World.cell?_alloc_at _ _ _ _ rfl];rfl) R.out.2.2.2.1 (by have:=R.out.2.2.1.size;simp;omega) ?_;intro g' cap' w3 hown hgrow hg)
    obtain ⟨r1,r2,r3,r4,r5,r6⟩:=R.out;have R2:Aside (j+1+q=L/\w3.ownsRow w1.heap.size 22 1 (.slice (some ⟨g',0,none⟩) (j+1) cap') (j+1) (z04 ((l.take (j+1)).map fun x=>PLC x.1 x.2))/\Below w1.heap.size w1 w3):=⟨r1,by rw [r6,r5];exact hown,(r3.alloc r3.size _).grown hgrow (by have:=r3.size;simp;omega) (fun k e=>(r2.lt k e).1)⟩
    clear hown hgrow hg R r1 r2 r3 r4 r5 r6;go_wp2;go_roundg q
    case measure=>omega
    case rel=>exact ⟨j+1,by first | rfl | (rw [e1]),R2.out⟩
theorem zcY {x:Nat} (h:x<2 ^ 64):IntKind.u64.wrap (x:Int)=(x:Int):=by
 rw [z08];omega
theorem z5Z {n j:Nat} (hn:n<2 ^ 64) (hj:j<PC n):(TOPS 0 n)[j]?=some (HGT n j,KGT n j):=by
 unfold TOPS;rw [List.getElem?_map,(z2J hn hj).1];rfl
theorem z8c {i n:Nat} (hi:i<n) (hn:n<=4611686018427387904):HGT n (KTH i n)=RISE i n:=by
 unfold HGT;rw [List.getD_eq_getElem?_getD,z9Y hi hn];rfl
theorem zez {i n k:Nat} (hi:i<n) (hn:n<=4611686018427387904) (hk:k<KTH i n):i / 2 ^ HGT n k≠KGT n k:=by
 have hK:=z2I hi hn;obtain ⟨_,h62,hb,hq,_⟩:=z0L hi hn;obtain ⟨_,h2,h3⟩:=z2J (n:=n) (i:=k) (by omega) (by omega)
 have hlt:RISE i n<HGT n k:=by
  rcases Nat.lt_or_ge (RISE i n) (HGT n k) with h | h
  ·exact h
  ·have:=zc9 n (a:=HGT n k+1) (b:=RISE i n+1) (by omega)
   unfold KTH at hk;omega
 have e:∀ x:Nat,x / 2 ^ HGT n k=x / 2 ^ (RISE i n+1) / 2 ^ (HGT n k - (RISE i n+1)):=fun x=>by rw [Nat.div_div_eq_div_mul,<-Nat.pow_add,show RISE i n+1+(HGT n k - (RISE i n+1))=HGT n k by omega]
 have h4:=z5f h2;rw [e i,hq,<-e n,h4];unfold KGT;omega
theorem zhL {i n:Nat} (hi:i<n) (hn:n<=4611686018427387904):i / 2 ^ HGT n (KTH i n)=KGT n (KTH i n):=by
 unfold KGT;rw [z8c hi hn];exact (z0L hi hn).2.2.2.2
theorem z4E (i n:Nat) (hi:i<n) (hn:n<=4611686018427387904) (w:World):Calls Tryz.prog 29 #[.int .u64 (i:Int),.int .u64 (n:Int)] w fun e w'=>e=.returned (.tuple #[.int .i64 ((KTH i n:Nat):Int),.bool true])/\Below w.heap.size w w':=by
 have c:=z3l n hn w;have hK:=z2I hi hn;have hP:=z0C 64 n (by omega);have h1:=fun (k:Nat) (hk:k<KTH i n)=>zez hi hn hk;have h2:=zhL hi hn;have hT:=fun (j:Nat) (hj:j<PC n)=>z5Z (n:=n) (by omega) hj;have hN:=fun (j:Nat) (hj:j<PC n)=>(z8J hn hj).1;have hL:=z32 (n:=n) (by omega) 0 (by omega);rw [Nat.pow_zero,Nat.div_one] at hL;have hd:¬ (n:Int)<=(i:Int):=by omega
 have hi64:i<2 ^ 64:=by omega
 generalize KTH i n=K at *
 generalize PC n=L at *
 generalize HGT n=hh at *
 generalize KGT n=kk at *
 generalize TOPS 0 n=l at *
 have HA:Aside (K<L/\L<=64/\(∀ k,k<K->i / 2 ^ hh k≠kk k)/\i / 2 ^ hh K=kk K/\(∀ j,j<L->l[j]?=some (hh j,kk j))/\(∀ j,j<L->hh j<=62)/\l.length=L/\i<2 ^ 64):=⟨hK,hP,h1,h2,hT,hN,hL,hi64⟩
 clear hi hn hK hP h1 h2 hT hN hL hi64;go_enter Tryz.func29,Tryz.ntmps29;go_wp2_with fail
 refine c.mono ?_;rintro e w1 ⟨a,cap,rfl,hs,hb⟩;have R1:Aside (Spots w1 a l/\Below w.heap.size w w1):=⟨hs,hb⟩
 clear c hs hb;go_wp2;go_loopg [7] K (fun q s7 wx=>∃ j:Nat,s7=.int .i64 (j:Int)/\Aside (j+q=K/\Below w1.heap.size w1 wx))
 case atStart=>exact ⟨0,rfl,by omega,Below.refl _ _⟩
 case round=>
  obtain ⟨j,rfl,A⟩:=hrel
  obtain ⟨g,z,t,hv,kv,rfl,y0,y1,b1,b2,b3,b4,b5,b6,b7,b8,b9⟩:∃ (g:Nat) (z t:Int) (hv kv:Nat),a=some ⟨g,0,none⟩/\wr.cell? ⟨g,j*2,none⟩=some (.int .u8 (hv:Int))/\wr.cell? ⟨g,j*2+1,none⟩=some (.int .u64 (kv:Int))/\(∀ w,Calls Tryz.prog 58 #[.int .i64 (hv:Int)] w fun e w'=>e=.returned (.int .u64 z)/\w=w')/\wrap64 (hv:Int)=(hv:Int)/\¬ z=0/\(i:Int) / z=t/\IntKind.u64.wrap t=t/\(j<L/\j<=64)/\(gk=0->j=K)/\(gk=0->t=(kv:Int))/\(gk≠0->¬ t=(kv:Int)):=by
    obtain ⟨a1,a2,a3,a4,a5,a6,a7,a8⟩:=HA.out;have hjK:=A.out.1;have hjL:j<L:=by omega
    obtain ⟨g,rfl,hg,hc⟩:=R1.out.1 (by omega);have hx:=a5 j hjL;have h62:=a6 j hjL;have hp0:=Nat.two_pow_pos (hh j);refine ⟨g,((2 ^ hh j:Nat):Int),((i / 2 ^ hh j:Nat):Int),hh j,kk j,rfl,(A.out.2.cell (p:=⟨g,j*2,none⟩) hg).trans (hc _ _ _ hx).1,(A.out.2.cell (p:=⟨g,j*2+1,none⟩) hg).trans (hc _ _ _ hx).2,fun w=>z1b (hh j) (by omega) w,by unfold wrap64;omega,?_,(Int.natCast_ediv _ _).symm,zcY (Nat.lt_of_le_of_lt (Nat.div_le_self _ _) a8),⟨hjL,by omega⟩,fun h=>by omega,fun h=>?_,fun h=>?_⟩
    ·generalize 2 ^ hh j=x at hp0
     omega
    ·obtain rfl:j=K:=by omega
     rw [a4]
    ·have:=a3 j (by omega)
     generalize i / 2 ^ hh j=x at this;omega
  have hlt:(j:Int)<(L:Int):=by omega
  have hj0:¬ (j:Int)<0:=by omega
  have hj0':(0:Int)<=(j:Int):=by omega
  have e1:wrap64 ((j:Int)+1)=((j+1:Nat):Int):=by unfold wrap64;omega
  have b3':(z == 0)=false:=by simpa using b3
  cases gk with
  | zero=>
    obtain rfl:=b7 rfl;have heq:(t == (kv:Int))=true:=by simpa using b8 rfl
    have R:Aside (Below w.heap.size w wr):=R1.out.2.trans (A.out.2.mono R1.out.2.size);clear A HA R1 b6 b7 b8 b9;go_wp2_with fail
    refine (b1 _).mono ?_;rintro e w' ⟨rfl,rfl⟩;clear b1;go_wp2;go_quiet (fail)
    go_wp2;go_ret2;exact ⟨rfl,below_drewN R.out _⟩
  | succ q=>
    have hne:(t == (kv:Int))=false:=by simpa using b9 (by omega)
    have B:Aside (j+1+q=K/\Below w1.heap.size w1 wr):=⟨by have:=A.out.1;omega,A.out.2⟩
    clear A HA R1 b6 b7 b8 b9;go_wp2_with fail
    refine (b1 _).mono ?_;rintro e w' ⟨rfl,rfl⟩;clear b1;go_wp2;go_quiet (fail)
    go_wp2;go_roundg q
    case measure=>omega
    case rel=>exact ⟨j+1,by first | rfl | (rw [e1]),B.out.1,below_drewN B.out.2 _⟩
theorem zcZ (i n:Nat) (hi:i<n) (hn:n<=4611686018427387904) (w:World):Calls Tryz.prog 95 #[.int .u64 (i:Int),.int .u64 (n:Int)] w fun e w'=>
  ∃ v,e=.returned (.tuple #[v,.bool true])/\w'.ownsRow w.heap.size 22 1 v (RISE i n) (z04 (WAY i (RISE i n)))/\Below w.heap.size w w':=by
 have c1:=z4E i n hi hn w;have c2:=z3l n hn;have hK:=z2I hi hn;have hP:=z0C 64 n (by omega);have hT:=z5Z (n:=n) (by omega) hK;rw [z8c hi hn] at hT;have h62:=(z0L hi hn).2.1;have hlt:i<4611686018427387904:=by omega
 generalize KTH i n=K at *
 generalize PC n=L at *
 generalize KGT n K=kk at *
 generalize TOPS 0 n=l at *
 generalize RISE i n=H at *
 have HA:Aside (K<L/\L<=64/\l[K]?=some (H,kk)/\H<=62/\i<4611686018427387904):=⟨hK,hP,hT,h62,hlt⟩
 have hKL:(K:Int)<(L:Int):=by omega
 have hK0:¬ (K:Int)<0:=by omega
 clear hi hn hK hP hT h62 hlt;go_enter Tryz.func95,Tryz.ntmps95;go_wp2_with fail
 refine c1.mono ?_;rintro e w1 ⟨rfl,hb⟩;have R1:Aside (Below w.heap.size w w1):=hb;clear c1 hb;go_wp2_with fail
 refine (c2 _).mono ?_;rintro e w2 ⟨a,cap,rfl,hs,hb⟩;obtain ⟨g,rfl,hg,hc⟩:=hs (by have:=(List.getElem?_eq_some_iff.1 HA.out.2.2.1).1;omega);have y0:=(hc _ _ _ HA.out.2.2.1).1;replace R1:Aside (Below w.heap.size w w2):=R1.out.trans (hb.mono R1.out.size);clear c2 hb hs hc hg;go_wp2;have hB:Below w2.heap.size w2 (w2.alloc (.cells #[.int .u8 0,.int .u64 (i:Int)] 77)):=(Below.refl _ _).alloc (Nat.le_refl _) _;have hH:=Has.new w2 #[.int .u8 0,.int .u64 (i:Int)] 77;have R2:Aside (Below w.heap.size w (w2.alloc (.cells #[.int .u8 0,.int .u64 (i:Int)] 77))/\Has (w2.alloc (.cells #[.int .u8 0,.int .u64 (i:Int)] 77)) w2.heap.size #[.int .u8 0,.int .u64 (i:Int)] 77/\w.heap.size<=w2.heap.size):=⟨R1.out.trans (hB.mono R1.out.size),hH,R1.out.size⟩
 generalize w2.alloc (.cells #[.int .u8 0,.int .u64 (i:Int)] 77)=w3 at *
 clear hB hH R1 y0;generalize w2.heap.size=sb at *
 go_loopg [8] H (fun q s8 wx=>∃ j:Nat,Aside (j+q=H/\wx.ownsRow (sb+1) 22 1 s8 j (z04 (WAY i j))/\Has wx sb #[.int .u8 (j:Int),.int .u64 ((i / 2 ^ j:Nat):Int)] 77/\Below w.heap.size w wx))
 case atStart=>exact ⟨0,by omega,⟨rfl,.inl ⟨rfl,rfl⟩⟩,by rw [Nat.pow_zero,Nat.div_one];exact R2.out.2.1,R2.out.1⟩
 case round=>
  obtain ⟨j,A⟩:=hrel;have y0:wr.cell? ⟨sb,0,none⟩=some (.int .u8 (j:Int)):=A.out.2.2.1.cell 0;cases gk with
  | zero=>
    obtain rfl:j=H:=by have:=A.out.1;omega
    have hlt:¬ (j:Int)<(j:Int):=by omega
    go_wp2;go_ret2;obtain ⟨_,hown,_,hbel⟩:=A.out;exact ⟨_,rfl,z0q hown (by have:=R2.out.2.2;omega),hbel⟩
  | succ q=>
    have y1:wr.cell? ⟨sb,1,none⟩=some (.int .u64 ((i / 2 ^ j:Nat):Int)):=A.out.2.2.1.cell 1;have hjH:j<H:=by have:=A.out.1;omega
    have hlt:(j:Int)<(H:Int):=by omega
    have hN:=Node.over HA.out.2.2.2.2 j (by have:=HA.out.2.2.2.1;omega);have cp:=fun w=>z2o j (i / 2 ^ j) hN w;have cs:=fun w=>z9s j (i / 2 ^ j) hN (by have:=HA.out.2.2.2.1;omega) w;have e1:((j:Int)+1) % 256=((j+1:Nat):Int):=by have:=HA.out.2.2.2.1;omega
    have hk64:i / 2 ^ j<2 ^ 62:=hN.index_lt;have hw:=z9Z i j;have hhalf:=z0S i j;have hj63:j<=63:=by have:=HA.out.2.2.2.1;omega
    generalize hk:i / 2 ^ j=k at *
    generalize hk2:i / 2 ^ (j+1)=k2 at *
    have e2:(k:Int) / 2=(k2:Int):=by omega
    have e3:IntKind.u64.wrap (k2:Int)=(k2:Int):=zcY (by omega);generalize PLC j k=x at *
    generalize PLC j (SIB k)=y at *
    have R:Aside (j+1+q=H/\wr.ownsRow (sb+1) 22 1 u8 j (z04 (WAY i j))/\Has wr sb #[.int .u8 (j:Int),.int .u64 (k:Int)] 77/\Below w.heap.size w wr/\j<=1000/\WAY i (j+1)=WAY i j ++ [y]/\i / 2 ^ (j+1)=k2/\w.heap.size<=sb):=⟨by have:=A.out.1;omega,A.out.2.1,A.out.2.2.1,A.out.2.2.2,by omega,hw,hk2,R2.out.2.2⟩
    clear A HA R2 hjH hN hk64 hw hhalf hj63 hk hk2;go_wp2_with fail
    refine (cp _).mono ?_;rintro e w4 ⟨rfl,hb⟩;obtain ⟨r1,r2,r3,r4,r5,r6,r7,r8⟩:=R.out;replace R:Aside (j+1+q=H/\w4.ownsRow (sb+1) 22 1 u8 j (z04 (WAY i j))/\Has w4 sb #[.int .u8 (j:Int),.int .u64 (k:Int)] 77/\Below w.heap.size w w4/\j<=1000/\WAY i (j+1)=WAY i j ++ [y]/\i / 2 ^ (j+1)=k2/\w.heap.size<=sb):=⟨r1,z0m r2 hb,r3.keep hb,r4.trans (hb.mono r4.size),r5,r6,r7,r8⟩
    clear cp hb y0 y1 r1 r2 r3 r4 r5 r6 r7 r8;go_wp2_with fail
    refine (cs _).mono ?_;rintro e w5 ⟨rfl,hb⟩;obtain ⟨r1,r2,r3,r4,r5,r6,r7,r8⟩:=R.out;replace R:Aside (j+1+q=H/\w5.ownsRow (sb+1) 22 1 u8 j (z04 (WAY i j))/\Has w5 sb #[.int .u8 (j:Int),.int .u64 (k:Int)] 77/\Below w.heap.size w w5/\j<=1000/\WAY i (j+1)=WAY i j ++ [y]/\i / 2 ^ (j+1)=k2/\w.heap.size<=sb):=⟨r1,z0m r2 hb,r3.keep hb,r4.trans (hb.mono r4.size),r5,r6,r7,r8⟩
    clear cs hb r1 r2 r3 r4 r5 r6 r7 r8;go_wp2_with (at_builtin;refine z4h _ rfl (.tmp 45) (.tmp 47) rfl (sb+1) u8 j (WAY i j) rfl (R.out.2.1.alloc _) w5.heap.size 1 y rfl (by rw [World.cell?_alloc_at _ _ _ _ rfl];rfl) R.out.2.2.2.2.1 (by have:=R.out.2.2.1.lt;simp;omega) ?_;intro g' cap' w6 hown hgrow hg;have HH:Aside (Has w6 sb #[.int .u8 (j:Int),.int .u64 (k:Int)] 77):=Has.below (R.out.2.2.1.alloc _) ((Below.refl (sb+1) _).grown hgrow (by have:=R.out.2.2.1.lt;simp;omega) (fun k e=>(R.out.2.1.lt k e).1)) (Nat.lt_succ_self _);have y0:w6.cell? ⟨sb,0,none⟩=some (.int .u8 (j:Int)):=HH.out.cell 0;have y1:w6.cell? ⟨sb,1,none⟩=some (.int .u64 (k:Int)):=HH.out.cell 1;have z0:w6.frozen? ⟨sb,0,none⟩=false:=HH.out.frozen 0;have z1:w6.frozen? ⟨sb,1,none⟩=false:=HH.out.frozen 1)
    obtain ⟨r1,r2,r3,r4,r5,r6,r7,r8⟩:=R.out;have R3:Aside (j+1+q=H/\w6.ownsRow (sb+1) 22 1 (.slice (some ⟨g',0,none⟩) (j+1) cap') (j+1) (z04 (WAY i (j+1)))/\Has w6 sb #[.int .u8 (j:Int),.int .u64 (k:Int)] 77/\Below w.heap.size w w6/\i / 2 ^ (j+1)=k2/\w.heap.size<=sb):=⟨r1,by rw [r6];exact hown,HH.out,(r4.alloc r4.size _).grown hgrow (by have:=r4.size;simp;omega) (fun k e=>by have:=(r2.lt k e).1;omega),r7,r8⟩
    clear hown hgrow hg R r1 r2 r3 r4 r5 r6 r7 r8 HH y0 y1 z0 z1;go_roundg q
    case measure=>omega
    case rel=>
     obtain ⟨r1,r2,r3,r4,r7,r8⟩:=R3.out;refine ⟨j+1,r1,ownsRow_setCell_below (ownsRow_setCell_below r2 (Nat.lt_succ_self _) _) (Nat.lt_succ_self _) _,?_,(r4.setCell r8 _).setCell r8 _⟩;have h:=(r3.set 0 (.int .u8 ((j:Int)+1))).set 1 (.int .u64 (k2:Int));rw [r7];exact h
theorem zeA {w:World} {base g n cap:Nat} {l:List Nat} (h:w.ownsRow base 22 1 (.slice (some ⟨g,0,none⟩) n cap) n (z04 l)) (i:Nat) (hi:i<l.length):w.cell? ⟨g,i,none⟩=some (.int .u64 (l.getD i 0:Nat)):=by
 have hlen:l.length=n:=by have:=h.1;simpa [z04] using this
 rw [h.cellAt i (by omega)];unfold z04;rw [List.getElem?_map,List.getD_eq_getElem?_getD,List.getElem?_eq_getElem hi];rfl
def Nums (w:World) (v:Value) (l:List Nat):Prop:=∃ a cap,v=.slice a l.length cap/\(0<l.length->∃ g,a=some ⟨g,0,none⟩/\g<w.heap.size/\∀ (j:Nat),j<l.length->w.cell? ⟨g,j,none⟩=some (.int .u64 ((l.getD j 0:Nat):Int)))
theorem Nums.below {w w':World} {v:Value} {l:List Nat} {B:Nat} (h:Nums w v l) (hb:Below B w w') (hB:w.heap.size<=B):Nums w' v l:=by
 obtain ⟨a,cap,rfl,h⟩:=h;refine ⟨a,cap,rfl,fun h0=>?_⟩;obtain ⟨g,e,hg,hc⟩:=h h0;exact ⟨g,e,Nat.lt_of_lt_of_le hg hb.size,fun j hj=>(hb.cell (p:=⟨g,j,none⟩) (Nat.lt_of_lt_of_le hg hB)).trans (hc j hj)⟩
structure Four (w:World) (B:Nat) (K:Nat->Prop) (v:Nat->Value) (n:Nat->Nat) (xs:Nat->List Value):Prop where
 row:∀ x,x<4->w.ownsRow B 22 1 (v x) (n x) (xs x)
 apart:∀ x y,x<4->y<4->x≠y->∀ g,(v x).ownBlock=some g->(v y).ownBlock≠some g
 off:∀ x,x<4->∀ g,(v x).ownBlock=some g->¬ K g
def UPD {α:Type} (f:Nat->α) (x:Nat) (a:α):Nat->α:=fun z=>if z=x then a else f z
theorem z1R {α:Type} (f:Nat->α) (x:Nat) (a:α):UPD f x a x=a:=by simp [UPD]
theorem z0O {α:Type} (f:Nat->α) {x z:Nat} (a:α) (h:z≠x):UPD f x a z=f z:=by simp [UPD,h]
theorem Four.alloc {w:World} {B:Nat} {K:Nat->Prop} {v:Nat->Value} {n:Nat->Nat} {xs:Nat->List Value} (h:Four w B K v n xs) (o:Obj):Four (w.alloc o) B K v n xs:=⟨fun x hx=>(h.row x hx).alloc o,h.apart,h.off⟩
theorem Four.below {w w':World} {B:Nat} {K:Nat->Prop} {v:Nat->Value} {n:Nat->Nat} {xs:Nat->List Value} (h:Four w B K v n xs) (hb:Below w.heap.size w w'):Four w' B K v n xs:=⟨fun x hx=>z0m (h.row x hx) hb,h.apart,h.off⟩
theorem z3c (W:World) (b j:Nat) (v:Value):W.grownBy (W.setCell ⟨b,j,none⟩ v) (some b):=
 ⟨rfl,rfl,rfl,(KeepsWalks.setCell W _ v).size,fun k _ hk=>Below.heap_setCell _ _ _ k (fun e=>hk (by rw [e]))⟩
theorem Four.other {w:World} {B:Nat} {K:Nat->Prop} {v:Nat->Value} {n:Nat->Nat} {xs:Nat->List Value} (h:Four w B K v n xs) {b:Nat} (hb:K b) (j:Nat) (u:Value):Four (w.setCell ⟨b,j,none⟩ u) B K v n xs:=
 ⟨fun x hx=>(h.row x hx).kept (z3c w b j u) (.inr fun e=>h.off x hx b e hb),h.apart,h.off⟩
theorem Four.store {w:World} {B:Nat} {K:Nat->Prop} {v:Nat->Value} {n:Nat->Nat} {xs:Nat->List Value} (h:Four w B K v n xs) {x g m cap:Nat} (hx:x<4) (hv:v x=.slice (some ⟨g,0,none⟩) m cap) (j:Nat) (u:Value):
  Four (w.setCell ⟨g,j,none⟩ u) B K v n (UPD xs x ((xs x).set j u)):=by
 refine ⟨fun z hz=>?_,h.apart,h.off⟩;by_cases e:z=x
 ·subst e
  have hr:=h.row z hz;rw [hv] at hr ⊢
  have hm:m=n z:=by
   rcases hr.2 with ⟨e,_⟩ | ⟨_,_,_,e,_⟩
   ·simp at e
   ·simp at e
    omega
  subst hm;rw [z1R];exact (hr.stored j u).1
 ·rw [z0O xs _ e]
  refine (h.row z hz).kept (z3c w g j u) (.inr fun e2=>?_);exact h.apart x z hx hz (fun e3=>e e3.symm) g (by rw [hv];rfl) e2
theorem Four.app {w w':World} {B:Nat} {K:Nat->Prop} {v:Nat->Value} {n:Nat->Nat} {xs:Nat->List Value} (h:Four w B K v n xs) {x g cap:Nat} {u:Value} (hx:x<4) (hK:∀ k,K k->k<w.heap.size)
  (hown:w'.ownsRow B 22 1 (.slice (some ⟨g,0,none⟩) (n x+1) cap) (n x+1) (xs x ++ [u])) (hgrow:w.grownBy w' (v x).ownBlock) (hg:(v x).ownBlock=some g\/g=w.heap.size):
  Four w' B K (UPD v x (.slice (some ⟨g,0,none⟩) (n x+1) cap)) (UPD n x (n x+1)) (UPD xs x (xs x ++ [u])):=by
 refine ⟨fun z hz=>?_,fun y z hy hz hne k hk=>?_,fun z hz k hk=>?_⟩
 ·by_cases e:z=x
  ·subst e
   rw [z1R,z1R,z1R];exact hown
  ·rw [z0O v _ e,z0O n _ e,z0O xs _ e]
   refine (h.row z hz).kept hgrow ?_;cases hb:(v z).ownBlock with
   | none=>exact .inl rfl
   | some k=>exact .inr fun e2=>h.apart z x hz hx e k hb e2.symm
 ·by_cases ey:y=x
  ·subst ey
   rw [z1R] at hk;have hkg:g=k:=by simpa [Value.ownBlock] using hk
   subst hkg;rw [z0O v _ (fun e=>hne e.symm)];intro e2;rcases hg with hg | hg
   ·exact h.apart y z hx hz hne g hg e2
   ·have:=((h.row z hz).lt g e2).2
    omega
  ·rw [z0O v _ ey] at hk
   by_cases ez:z=x
   ·subst ez
    rw [z1R];intro e2;have hkg:g=k:=by simpa [Value.ownBlock] using e2
    subst hkg;rcases hg with hg | hg
    ·exact h.apart y z hy hz hne g hk hg
    ·have:=((h.row y hy).lt g hk).2
     omega
   ·rw [z0O v _ ez]
    exact h.apart y z hy hz hne k hk
 ·by_cases ez:z=x
  ·subst ez
   rw [z1R] at hk;have hkg:g=k:=by simpa [Value.ownBlock] using hk
   subst hkg;rcases hg with hg | hg
   ·exact h.off z hz g hg
   ·intro hkk
    have:=hK g hkk;omega
  ·rw [z0O v _ ez] at hk
   exact h.off z hz k hk
theorem z0P {w:World} {B n:Nat} {v:Value} {xs:List Value} (h:w.ownsRow B 22 1 v n xs):∃ a cap,v=.slice a n cap/\(0<n->∃ g,a=some ⟨g,0,none⟩/\g<w.heap.size/\B<=g):=by
 rcases h.2 with ⟨rfl,h0⟩ | ⟨g,cap,cur,rfl,hb,hg,r⟩
 ·subst h0
  exact ⟨none,0,rfl,fun h=>by omega⟩
 ·exact ⟨_,cap,rfl,fun _=>⟨g,rfl,(Array.getElem?_eq_some_iff.1 hg).1,hb⟩⟩
theorem z4F {ops:Array Oper} {rest:List Oper} {o:Oper} {a:Act} {Q:Exit->Act->World->Prop} (w:World) (hgd:o.guard=none) (s x:Operand)
   (ho:o.op=.call {callee:=.builtin .append,args:=#[s,x],argTypes:=#[86,86]})
   (base:Nat) (v:Value) (n:Nat) (xs:List Value) (hs:a.eval s=v) (hown:w.ownsRow base 22 1 v n xs)
   (b c:Nat) (y:Int) (hx:a.eval x=.slice (some ⟨b,0,none⟩) 1 c) (hc:w.cell? ⟨b,0,none⟩=some (.int .u64 y))
   (hb:n<=1000) (hbase:base<=w.heap.size)
   (h:∀ g cap w',w'.ownsRow base 22 1 (.slice (some ⟨g,0,none⟩) (n+1) cap) (n+1) (xs ++ [.int .u64 y])->w.grownBy w' v.ownBlock->(v.ownBlock=some g\/g=w.heap.size)->g<w'.heap.size->wpList Tryz.prog ops Q rest (a.put o.dst (.slice (some ⟨g,0,none⟩) (n+1) cap)) w'):wpList Tryz.prog ops Q (o :: rest) a w:=by
 obtain ⟨i,hi,hz,hs1,hby⟩:=info_parts z2w;refine wpList_append_lies w hgd s x 86 ho base 22 i (.int .u64 0) 1 8 Tryz.underlying86 hi hz hs1 hby rfl (by decide) v n xs hs hown ⟨b,0,none⟩ 1 c [.int .u64 y] hx rfl ?_ (fun u hu=>by simp at hu;subst hu;rfl) (by decide) (by simp only [maxLen];omega) (by omega) hbase w.heap.size rfl h;intro j u hj;cases j with
 | zero=>
   simp only [List.getElem?_cons_zero,Option.some.injEq] at hj;subst hj;exact hc
 | succ j=>simp at hj
theorem Has.grown {w w':World} {g:Nat} {c:Array Value} {t:TypeId} {row:Option Nat} (h:Has w g c t) (hg:w.grownBy w' row) (hne:row≠some g):Has w' g c t:=by
 obtain ⟨_,_,_,_,hk⟩:=hg;exact (hk g h.lt (fun e=>hne e.symm)).trans h
theorem Four.of {w:World} {B b1 b2 b3 b4:Nat} {K:Nat->Prop} {v0 v1 v2 v3:Value} {n m:Nat} {xs ys:List Value} (h0:w.ownsRow B 22 1 v0 n xs) (h1:w.ownsRow b1 22 1 v1 n xs) (h2:w.ownsRow b2 22 1 v2 m ys) (h3:w.ownsRow b3 22 1 v3 m ys)
  (l0:∀ k,v0.ownBlock=some k->k<b1) (l1:∀ k,v1.ownBlock=some k->k<b2) (l2:∀ k,v2.ownBlock=some k->k<b3) (l3:∀ k,v3.ownBlock=some k->k<b4) (o1:B<=b1) (o2:b1<=b2) (o3:b2<=b3) (o4:b3<=b4) (hK:∀ k,K k->b4<=k):
  ∃ (V:Nat->Value) (N:Nat->Nat) (XS:Nat->List Value),Four w B K V N XS/\V 0=v0/\V 1=v1/\V 2=v2/\V 3=v3/\(∀ x,x<4->N x=n\/N x=m):=by
 have key:∀ x,x<4->x=0\/x=1\/x=2\/x=3:=fun x hx=>by omega
 have bnd:∀ x,x<4->∀ k,((if x=0 then v0 else if x=1 then v1 else if x=2 then v2 else v3:Value)).ownBlock=some k->(if x=0 then B else if x=1 then b1 else if x=2 then b2 else b3)<=k/\k<(if x=0 then b1 else if x=1 then b2 else if x=2 then b3 else b4):=fun x hx k hk=>by
  rcases key x hx with rfl | rfl | rfl | rfl
  ·exact ⟨(h0.lt k hk).1,l0 k hk⟩
  ·exact ⟨(h1.lt k hk).1,l1 k hk⟩
  ·exact ⟨(h2.lt k hk).1,l2 k hk⟩
  ·exact ⟨(h3.lt k hk).1,l3 k hk⟩
 refine ⟨fun x=>if x=0 then v0 else if x=1 then v1 else if x=2 then v2 else v3,fun x=>if x<2 then n else m,fun x=>if x<2 then xs else ys,⟨fun x hx=>?_,fun x y hx hy hne k hk hk2=>?_,fun x hx k hk hkk=>?_⟩,rfl,rfl,rfl,rfl,fun x hx=>?_⟩
 ·rcases key x hx with rfl | rfl | rfl | rfl
  ·exact h0
  ·exact z0q h1 o1
  ·exact z0q h2 (Nat.le_trans o1 o2)
  ·exact z0q h3 (Nat.le_trans o1 (Nat.le_trans o2 o3))
 ·have hx':=bnd x hx k hk
  have hy':=bnd y hy k hk2;rcases key x hx with rfl | rfl | rfl | rfl <;> rcases key y hy with rfl | rfl | rfl | rfl <;> simp at hx' hy' hne <;> omega
 ·have hx':=bnd x hx k hk
  have:=hK k hkk;rcases key x hx with rfl | rfl | rfl | rfl <;> simp at hx' <;> omega
 ·rcases key x hx with rfl | rfl | rfl | rfl <;> simp
theorem z8d (X:Nat) (hX:X<2 ^ 64):∃ t:Nat,t<=64/\(X=0->t=64)/\(∀ h,h<=64->(X % 2 ^ h=0↔h<=t))/\∀ w,Tabled w->Calls Tryz.prog 105 #[.int .u64 (X:Int)] w fun e w'=>e=.returned (.int .i64 (t:Int))/\w=w':=by
 by_cases h0:X=0
 ·subst h0
  exact ⟨64,Nat.le_refl _,fun _=>rfl,fun h hh=>by simp [hh],fun w _=>z82 _ _ w (zhA w)⟩
 ·obtain ⟨t,q,e⟩:=z8E X h0
  have ht:=(z81 hX e).2;refine ⟨t,by omega,fun c=>absurd c h0,?_,fun w hT=>z82 _ _ w (zhq X t q hX e w hT)⟩;intro h _;constructor
  ·intro hm
   rcases Nat.lt_or_ge t h with c | c
   ·have h1:2 ^ (t+1) ∣ 2 ^ h:=Nat.pow_dvd_pow 2 c
    have h2:X % 2 ^ (t+1)=0:=Nat.mod_eq_zero_of_dvd (Nat.dvd_trans h1 (Nat.dvd_of_mod_eq_zero hm));rw [e,Nat.mul_comm] at h2;have:=z2U.1 h2;omega
   ·exact c
  ·intro hm
   have h1:2 ^ h ∣ 2 ^ t:=Nat.pow_dvd_pow 2 hm;exact Nat.mod_eq_zero_of_dvd (Nat.dvd_trans h1 ⟨_,e⟩)
theorem ziK {a b t:Nat} (hab:a<b) (hb:b<=4611686018427387904) (ht:t<=64) (hd:∀ h,h<=64->(a % 2 ^ h=0↔h<=t)):min (t:Int) ((LEN (b - a):Nat) - 1:Int)=((HT a b:Nat):Int):=by
 obtain ⟨l1,l2,l3⟩:=z6A (b - a) (by omega) (by omega)
 have l4:LEN (b - a) - 1<=62:=by
  rcases Nat.lt_or_ge 62 (LEN (b - a) - 1) with h | h
  ·have:2 ^ 63<=2 ^ (LEN (b - a) - 1):=Nat.pow_le_pow_right (by decide) h
   omega
  ·exact h
 have:min t (LEN (b - a) - 1)=HT a b:=by
  refine z8a hab hb ⟨(hd _ (by omega)).2 (by omega),?_⟩ ?_
  ·have:2 ^ min t (LEN (b - a) - 1)<=2 ^ (LEN (b - a) - 1):=Nat.pow_le_pow_right (by decide) (by omega)
   omega
  ·intro c
   rcases Nat.lt_or_ge t (LEN (b - a) - 1) with h | h
   ·have:=(hd _ (by omega)).1 c.1
    omega
   ·have h1:=c.2
    have:2 ^ LEN (b - a)<=2 ^ (min t (LEN (b - a) - 1)+1):=Nat.pow_le_pow_right (by decide) (by omega);omega
 rw [<-this];omega
theorem zhM (h k:Nat) (s r:Int) (w:World) (e1:IntKind.u64.wrap ((k:Int)+1)=s) (e:IntKind.u64.wrap (s*2 ^ min h 64)=r):Calls Tryz.prog 107 #[SPOT h k] w fun e w'=>e=.returned (.int .u64 r)/\Below w.heap.size w w':=by
 subst e;go_enter Tryz.func107,Tryz.ntmps107;go_wp2;go_ret;exact ⟨rfl,(Below.refl _ _).alloc (Nat.le_refl _) _⟩
theorem zeB (h k:Nat) (hN:Node h k) (w:World):Calls Tryz.prog 107 #[SPOT h k] w fun e w'=>e=.returned (.int .u64 (((k+1)*2 ^ h:Nat):Int))/\Below w.heap.size w w':=by
 have h1:=hN.span;have h3:=hN.index_lt;refine zhM h k ((k+1:Nat):Int) _ w (by rw [z08];omega) ?_;exact za0 (k+1) h hN.1 (by omega)
theorem Has.grew {w w':World} {g:Nat} {c:Array Value} {t:TypeId} {row:Option Nat} (h:Has w g c t) (hg:w.grownBy w' row) (hne:row≠some g):Has w' g c t:=by
 obtain ⟨_,_,_,_,hk⟩:=hg;exact (hk g h.lt (fun e=>hne e.symm)).trans h
theorem zgo {wr w1:World} {c:Array Value} {t t':TypeId} {base s n:Nat} {v:Value} {xs:List Value} {o:Obj} (hown:wr.ownsRow base t' s v n xs) (hgrow:((wr.alloc (.cells c t)).alloc o).grownBy w1 v.ownBlock):Has w1 wr.heap.size c t:=
 ((Has.new wr c t).alloc o).grew hgrow (fun e=>by have:=(hown.lt _ e).2;omega)
theorem zhN (a b:Nat) (ha:a<2 ^ 64) (hb:b<=4611686018427387904) (w:World) (hT:Tabled w) (h0:0<w.heap.size):Calls Tryz.prog 88 #[.int .u64 (a:Int),.int .u64 (b:Int)] w fun e w'=>
  ∃ v,e=.returned v/\w'.ownsRow w.heap.size 77 2 v (SPAN a b).length (z07 (SPAN a b))/\Below w.heap.size w w':=by
 have HA:Aside (b<=4611686018427387904/\Tabled w/\0<w.heap.size):=⟨hb,hT,h0⟩
 have hd:¬ (4611686018427387904:Int)<(b:Int):=by omega
 clear hT h0;go_enter Tryz.func88,Tryz.ntmps88;go_wp2;go_loopg [0,5] (b - a) (fun g s0 s5 wx=>∃ (c:Nat) (pre:List (Nat × Nat)),s0=.int .u64 (c:Int)/\Aside (g=b - c/\c<2 ^ 64/\pre ++ SPAN c b=SPAN a b/\wx.ownsRow w.heap.size 77 2 s5 pre.length (z07 pre)/\Below w.heap.size w wx))
 case atStart=>exact ⟨a,[],rfl,rfl,ha,rfl,World.ownsRow_nil _ _ _ _,Below.refl _ _⟩
 case round=>
  obtain ⟨c,pre,rfl,A⟩:=hrel;obtain ⟨hg,hc,hp,hown,hbel⟩:=A.out;by_cases hlt:c<b
  ·have hlt':(c:Int)<(b:Int):=by omega
   obtain ⟨t,ht,_,hd2,cl⟩:=z8d c hc;have hm:=ziK hlt hb ht hd2;have ch:=z5W (b - c) (by omega);obtain ⟨s1,s2,s3⟩:=z2h hlt hb;obtain ⟨n1,n2,n3⟩:=s2.node s1 hb;have es:IntKind.u64.wrap ((b:Int) - (c:Int))=((b - c:Nat):Int):=by rw [z08];omega
   replace cl:=cl wr (HA.out.2.1.below HA.out.2.2 hbel);have ce:=fun w=>zeB (HT c b) (c / 2 ^ HT c b) n1 w;rw [n3] at ce;have hsp:=z1o hlt;have e8:((HT c b:Nat):Int) % 256=((HT c b:Nat):Int):=by omega
   have e9:(c:Int) / 2 ^ min (HT c b) 64=((c / 2 ^ HT c b:Nat):Int):=by rw [show min (HT c b) 64=HT c b by omega,z1K]
   have hpos:=Nat.two_pow_pos (HT c b);have R:Aside (gk=b - c/\c<2 ^ 64/\pre ++ SPAN c b=SPAN a b/\wr.ownsRow w.heap.size 77 2 u5 pre.length (z07 pre)/\Below w.heap.size w wr/\c+2 ^ HT c b<=b/\0<2 ^ HT c b/\pre.length<=1000/\SPAN c b=(HT c b,c / 2 ^ HT c b) :: SPAN (c+2 ^ HT c b) b):=⟨hg,hc,hp,hown,hbel,s2.2,hpos,by have:=congrArg List.length hp;have:=z1L (a:=a) hb;rw [List.length_append] at *;omega,hsp⟩
   have h0:¬ ((HT c b:Nat):Int)<0:=by omega
   obtain ⟨u,hu⟩:∃ u:Int,((LEN (b - c):Nat):Int) - 1=u:=⟨_,rfl⟩
   rw [hu] at hm ch;obtain ⟨H,hH⟩:∃ H,HT c b=H:=⟨_,rfl⟩
   obtain ⟨K,hK⟩:∃ K,c / 2 ^ H=K:=⟨_,rfl⟩
   obtain ⟨c',hc'⟩:∃ c',c+2 ^ H=c':=⟨_,rfl⟩
   rw [hH] at hm ce e8 e9 R h0;rw [hK] at ce e9 R;rw [hc'] at ce R
   have hcase:(H=t/\(H:Int)<=u)\/(u=(H:Int)/\¬ (t:Int)<=(H:Int)):=by
    rcases Int.le_total (t:Int) u with h | h
    ·rw [Int.min_eq_left h] at hm
     exact .inl ⟨by omega,by omega⟩
    ·rw [Int.min_eq_right h] at hm
     by_cases h2:(t:Int)=u
     ·exact .inl ⟨by omega,by omega⟩
     ·exact .inr ⟨by omega,by omega⟩
   have R2:Aside (c+2 ^ H=c'):=hc';clear hd2 ht s1 s2 s3 n1 n2 n3 hg hc hp hown hbel hm hu hH hK hc' hsp hpos A hlt;rcases hcase with ⟨rfl,hle⟩ | ⟨rfl,hle⟩
   all_goals
    go_wp2_with fail
    refine cl.mono ?_;rintro e w' ⟨rfl,rfl⟩;clear cl;go_wp2_with fail
    refine (ch _).mono ?_;rintro e w' ⟨rfl,rfl⟩;clear ch;go_wp2_with (at_builtin;refine z2T _ rfl (.tmp 26) (.tmp 28) rfl w.heap.size u5 pre.length pre rfl ((R.out.2.2.2.1.alloc _).alloc _) (wr.heap.size+1) 1 H K rfl ((Has.at _ _ _ (by simp)).cell 0) ((Has.at _ _ _ (by simp)).cell 1) R.out.2.2.2.2.2.2.2.1 (by have:=R.out.2.2.2.2.1.size;simp;omega) ?_;intro g' cap w1 hown hgrow hg;have hH1:=zgo R.out.2.2.2.1 hgrow;have hx0:w1.cell? ⟨wr.heap.size,0,none⟩=some (.int .u8 (H:Int)):=hH1.cell 0;have hx1:w1.cell? ⟨wr.heap.size,1,none⟩=some (.int .u64 (K:Int)):=hH1.cell 1)
    obtain ⟨r1,r2,r3,r4,r5,r6,r7,r8,r9⟩:=R.out;have hr2:=R2.out;have R3:Aside (c'<2 ^ 64/\b - c'<gk/\(pre ++ [(H,K)]) ++ SPAN c' b=SPAN a b/\w1.ownsRow w.heap.size 77 2 (.slice (some ⟨g',0,none⟩) (pre.length+1) cap) (pre.length+1) (z07 (pre ++ [(H,K)]))/\Below w.heap.size w w1):=⟨by have:=HA.out.1;omega,by omega,by rw [<-r3,r9];simp,hown,((r5.alloc r5.size _).alloc (by have:=r5.size;simp;omega) _).grown hgrow (by have:=r5.size;simp;omega) (fun k e=>(r4.lt k e).1)⟩
    clear r1 r2 r3 r4 r5 r6 r7 r8 r9 hr2 hown R R2 hgrow hg;refine (ce _).mono ?_;rintro e w2 ⟨rfl,hb2⟩;clear ce hx0 hx1 hH1;go_wp2;go_roundg (b - c')
    case measure=>exact R3.out.2.1
    case rel=>
     obtain ⟨r1,r2,r3,r4,r5⟩:=R3.out;exact ⟨c',pre ++ [(H,K)],rfl,rfl,r1,r3,by rw [List.length_append];exact z0m r4 hb2,r5.trans (hb2.mono r5.size)⟩
  ·have hlt':¬ (c:Int)<(b:Int):=by omega
   rw [z17 (a:=c) (by omega),List.append_nil] at hp;have R:Aside (wr.ownsRow w.heap.size 77 2 u5 (SPAN a b).length (z07 (SPAN a b))/\Below w.heap.size w wr):=⟨by rw [<-hp];exact hown,hbel⟩
   clear hg hc hp hown hbel A HA;go_wp2;go_ret;exact ⟨u5,rfl,R.out.1,R.out.2⟩
def Lie (w:World) (a:Option Addr) (l:List (Nat × Nat)):Prop:=0<l.length->∃ g o,a=some ⟨g,o,none⟩/\g<w.heap.size/\∀ (j h k:Nat),l[j]?=some (h,k)->w.cell? ⟨g,o+j*2,none⟩=some (.int .u8 (h:Int))/\w.cell? ⟨g,o+j*2+1,none⟩=some (.int .u64 (k:Int))
theorem Lie.below {w w':World} {a:Option Addr} {l:List (Nat × Nat)} (h:Lie w a l) (hb:Below w.heap.size w w'):Lie w' a l:=fun h0=>by
 obtain ⟨g,o,e,hg,hc⟩:=h h0;exact ⟨g,o,e,Nat.lt_of_lt_of_le hg hb.size,fun j x y he=>⟨(hb.cell (p:=⟨g,o+j*2,none⟩) hg).trans (hc j x y he).1,(hb.cell (p:=⟨g,o+j*2+1,none⟩) hg).trans (hc j x y he).2⟩⟩
theorem Lie.of {w:World} {a:Option Addr} {l:List (Nat × Nat)} (h:Spots w a l):Lie w a l:=fun h0=>by
 obtain ⟨g,e,hg,hc⟩:=h h0;refine ⟨g,0,e,hg,fun j x y he=>?_⟩;rw [Nat.zero_add];exact hc j x y he
theorem zcb {w:World} {base n:Nat} {v:Value} {l:List (Nat × Nat)} (hl:l.length=n) (h:w.ownsRow base 77 2 v n (z07 l)):∃ a cap,v=.slice a n cap/\Lie w a l:=by
 obtain ⟨a,cap,e,hs⟩:=z2A hl h;exact ⟨a,cap,e,Lie.of hs⟩
theorem zhO {l:List (Nat × Nat)} {i h k:Nat} (e:l[i]?=some (h,k)):l=l.take i ++ (h,k) :: l.drop (i+1)/\l.take (i+1)=l.take i ++ [(h,k)]:=by
 obtain ⟨hi,e2⟩:=List.getElem?_eq_some_iff.1 e;refine ⟨?_,?_⟩
 ·rw [<-e2,List.getElem_cons_drop,List.take_append_drop]
 ·rw [List.take_add_one,e]
  rfl
theorem at_lt {l:List (Nat × Nat)} {i:Nat} (h:i<l.length):∃ x y,l[i]?=some (x,y):=⟨_,_,List.getElem?_eq_getElem h⟩
end Go.Proofs.YtdggkbpabjgdfaaGreatDoor
