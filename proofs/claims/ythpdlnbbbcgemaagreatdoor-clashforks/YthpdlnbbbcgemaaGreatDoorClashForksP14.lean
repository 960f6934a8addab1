/- Texts of ClashForks, one behind the other: ProofFlats, VerifyHanded, VerifyPeaks, VerifyClimb, VerifyBag, VerifyRefPlain, ClashPlain. -/
import Derived.Test.YthpdlnbbbcgemaaGreatDoorClashForksP8
import Derived.Test.YthpdlnbbbcgemaaGreatDoorClashForksP13
namespace Go.Proofs.YthpdlnbbbcgemaaGreatDoor
open Go.RowKit
set_option maxRecDepth 100000
theorem z3H {w w':World} {g o:Nat} {cs:List Value} (h:w.rangeAt g o cs) (hb:Below w.heap.size w w') (hg:g<w.heap.size):w'.rangeAt g o cs:=fun j v hv=>(hb.cell (p:=⟨g,o+j,none⟩) hg).trans (h j v hv)
theorem Flat.other {w:World} {b o n:Nat} {l:List Int} (h:Flat w (some ⟨b,o,none⟩) n l) {a:Addr} (ha:b≠a.block) (u:Value):Flat (w.setCell a u) (some ⟨b,o,none⟩) n l:=
  ⟨h.1,fun hn=>by
    obtain ⟨b',o',e,hl,hc⟩:=h.2.1 hn
    cases e
    exact ⟨b,o,rfl,Nat.lt_of_lt_of_le hl (KeepsWalks.setCell w a u).size,fun j hj=>(World.cell?_setCell_other w _ _ u (fun e=>ha (congrArg Addr.block e).symm)).trans (hc j hj)⟩,h.2.2⟩
theorem z1U {w:World} {B n:Nat} {a:Option Addr} {c:Nat} {l:List Int} (h:w.ownsRow B 24 32 (.slice a n c) n (z01 l)) (hr:∀ x∈l,0≤x∧x≤255):Flat w a n l:=by
  have hl:l.length=32*n:=by have:=h.1;simpa [z01,Nat.mul_comm] using this
  refine ⟨hl,fun hn=>?_,hr⟩
  rcases h.2 with ⟨e,h0⟩ | ⟨g,cap,cur,e,_,hg,_⟩
  · omega
  · cases e
    refine ⟨g,0,rfl,(Array.getElem?_eq_some_iff.1 hg).1,fun j hj=>?_⟩
    have:=h.cellAt j (by omega)
    rw [Nat.zero_add,this,z0A l j (by omega)]
theorem z8S {w:World} {g n:Nat} {l:List Int} (h:Has w g (z01 l).toArray 24) (hl:l.length=32*n) (hr:∀ x∈l,0≤x∧x≤255):Flat w (some ⟨g,0,none⟩) n l:=
  ⟨hl,fun _=>⟨g,0,rfl,h.lt,fun j hj=>by rw [Nat.zero_add,h.cell,List.getElem?_toArray,z0A l j (by omega)]⟩,hr⟩
theorem Bytes.take {w:World} {a:Option Addr} {n:Nat} {l:List Int} (h:Bytes w a n l) {m:Nat} (hm:m≤n):Bytes w a m (l.take m):=by
  refine ⟨by rw [List.length_take,h.1];omega,fun h0=>?_,fun x hx=>h.2.2 x (List.mem_of_mem_take hx)⟩
  obtain ⟨b,o,e,hb,hc⟩:=h.2.1 (by omega)
  refine ⟨b,o,e,hb,fun i hi=>?_⟩
  rw [hc i (by omega),List.getD_eq_getElem?_getD,List.getD_eq_getElem?_getD,List.getElem?_take,if_pos hi]
end Go.Proofs.YthpdlnbbbcgemaaGreatDoor

namespace Go.Proofs.YthpdlnbbbcgemaaGreatDoor
open Go.RowKit
set_option maxRecDepth 100000
def HAND (ss:List (Nat × Nat)) (l:List Int):Nat→Nat→Nat→List Int
  | 0=>fun _ _=>ZND
  | i+1=>MPUT (HAND ss l i) (ss.getD i (0,0)).1 (ss.getD i (0,0)).2 (HSH l i)
theorem zbx (v:Value) (N:Nat) (hv:∃ a' c',v=.slice a' N c') (a:Option Addr) (n c:Nat) (hn:n≠N) (w:World):Calls Tryz.prog 71 #[v,.slice a n c] w fun e w'=>e=.returned (.tuple #[.map none,.int .i64 70])∧w=w':=by
  obtain ⟨a',c',rfl⟩:=hv
  have h1:¬ (n:Int)=(N:Int):=by omega
  clear hn
  go_enter Tryz.func71,Tryz.ntmps71
  go_wp2
  go_ret2
  exact ⟨rfl,rfl⟩
def zh8 (w:World) (n:Nat) (M:Nat→Nat→List Int) (e:Ending) (w':World):Prop:=∃ b,e=.returned (.tuple #[.map (some b),.int .i64 0])∧SMAP w' b n M∧w.heap.size≤b∧Below w.heap.size w w'
theorem z32 {w w':World} {g o:Nat} {cs:List Value} (h:w.rangeAt g o cs) (hb:w'.heap[g]?=w.heap[g]?):w'.rangeAt g o cs:=fun j v hv=>(World.cell?_of_block (a:=⟨g,o+j,none⟩) hb).trans (h j v hv)
theorem z0F {w:World} {g:Nat} {l:List Int} {t:TypeId} (h:Has w g (z01 l).toArray t):w.rangeAt g 0 (z01 l):=fun j v hv=>by rw [Nat.zero_add,h.cell,List.getElem?_toArray];exact hv
set_option maxHeartbeats 2000000 in
theorem zcY (ss:List (Nat × Nat)) (hN:∀ s∈ss,Node s.1 s.2) (B n:Nat) (hss:ss.length=n) (hn:n≤1000) (v:Value) (a:Option Addr) (c:Nat) (l:List Int) (w:World) (hv:w.ownsRow B 22 1 v n (z0h (PLCS ss))) (hF:Flat w a n l):
    Calls Tryz.prog 71 #[v,.slice a n c] w (zh8 w n (HAND ss l n)):=by
  obtain ⟨ap,cp,rfl,hap⟩:=z1R hv
  have HA:Aside ((∀ s∈ss,Node s.1 s.2)∧ss.length=n∧n≤1000∧Flat w a n l∧(0<n→∃ g,ap=some ⟨g,0,none⟩∧g<w.heap.size)∧w.ownsRow B 22 1 (.slice ap n cp) n (z0h (PLCS ss))):=⟨hN,hss,hn,hF,fun h=>by obtain ⟨g,e,h1,_⟩:=hap h;exact ⟨g,e,h1⟩,hv⟩
  have M0:Aside (SMAP (w.alloc (.map #[] 0)) w.heap.size 0 (HAND ss l 0)∧Below w.heap.size w (w.alloc (.map #[] 0))):=⟨SMAP.made w,(Below.refl _ _).alloc (Nat.le_refl _) _⟩
  have hmk:(Instr.makeMap 112 none).run Tryz.prog w=.ok (.map (some w.heap.size)) (w.alloc (.map #[] 0)):=rfl
  clear hN hss hn hF hap hv
  go_enter Tryz.func71,Tryz.ntmps71
  go_wp2_with fail
  go_loopg [19] n (fun q s19 wx=>∃ i:Nat,s19=.int .i64 (i:Int)∧Aside (i+q=n∧Below w.heap.size w wx∧SMAP wx w.heap.size i (HAND ss l i)))
  case atStart=>exact ⟨0,rfl,by omega,M0.out.2,M0.out.1⟩
  case round=>
    obtain ⟨i,rfl,A⟩:=hrel
    clear M0
    cases gk with
    | zero=>
      obtain rfl:i=n:=by have:=A.out.1;omega
      have hlt:¬ (i:Int)<(i:Int):=by omega
      have R:Aside (SMAP wr w.heap.size i (HAND ss l i)∧Below w.heap.size w wr):=⟨A.out.2.2,A.out.2.1⟩
      clear A HA
      go_wp2
      go_ret2
      exact ⟨_,rfl,R.out.1,Nat.le_refl _,R.out.2⟩
    | succ q=>
      obtain ⟨a1,a2,a3⟩:=A.out
      obtain ⟨h1,h2,h3,h4,h5,h6⟩:=HA.out
      have hlt:(i:Int)<(n:Int):=by omega
      obtain ⟨gp,rfl,hgp⟩:=h5 (by omega)
      obtain ⟨gn,o,rfl,hgn,hcn⟩:=h4.2.1 (by omega)
      obtain ⟨⟨h,k⟩,hs⟩:∃ s,ss[i]?=some s:=⟨_,List.getElem?_eq_getElem (by omega)⟩
      have hNd:Node h k:=h1 (h,k) (List.mem_of_getElem? hs)
      have hcp:wr.cell? ⟨gp,i,none⟩=some (.int .u64 ((PLC h k:Nat):Int)):=by
        refine (a2.cell (p:=⟨gp,i,none⟩) hgp).trans ?_
        rw [h6.cellAt i (by omega)]
        simp [z0h,PLCS,hs]
      have hat:=(h4.below a2).at (show i<n by omega)
      have h32:=z0U h4.1 (show i<n by omega)
      have hnx:HAND ss l (i+1)=MPUT (HAND ss l i) h k (HSH l i):=by rw [HAND,List.getD_eq_getElem?_getD,hs];rfl
      have R:Aside (i+1+q=n∧Below w.heap.size w wr∧SMAP wr w.heap.size i (HAND ss l i)∧gn<w.heap.size∧Node h k∧HAND ss l (i+1)=MPUT (HAND ss l i) h k (HSH l i)∧n≤1000∧wr.rangeAt gn (o+i*32) (z01 (HSH l i))):=⟨by omega,a2,a3,hgn,hNd,hnx,h3,hat⟩
      have cS:=z6P h k hNd wr
      have E1:Aside (wrap64 ((i:Int)+1)=((i+1:Nat):Int)):=by show wrap64 ((i:Int)+1)=((i+1:Nat):Int);unfold wrap64;omega
      clear a1 a2 a3 h1 h2 h3 h4 h5 h6 hgp hgn hcn hs hNd hat hnx A HA
      generalize PLC h k=pl at *
      go_wp2_with fail
      refine cS.mono ?_
      rintro e w1 ⟨rfl,hb1⟩
      clear cS hcp
      have hbx:Below w1.heap.size w1 (w1.alloc (.cells #[.int .u8 (h:Int),.int .u64 (k:Int)] 79)):=(Below.refl _ _).alloc (Nat.le_refl _) _
      obtain ⟨b9,hb9⟩:∃ b9,b9=w1.heap.size:=⟨_,rfl⟩
      have R2:Aside (Below w.heap.size w (w1.alloc (.cells #[.int .u8 (h:Int),.int .u64 (k:Int)] 79))∧SMAP (w1.alloc (.cells #[.int .u8 (h:Int),.int .u64 (k:Int)] 79)) w.heap.size i (HAND ss l i)∧Has (w1.alloc (.cells #[.int .u8 (h:Int),.int .u64 (k:Int)] 79)) b9 #[.int .u8 (h:Int),.int .u64 (k:Int)] 79∧(w1.alloc (.cells #[.int .u8 (h:Int),.int .u64 (k:Int)] 79)).rangeAt gn (o+i*32) (z01 (HSH l i))∧w.heap.size<b9):=by
        obtain ⟨r1,r2,r3,r4,r5,r6,r7,r8⟩:=R.out
        have t1:=r2.trans (hb1.mono r2.size)
        refine ⟨t1.trans (hbx.mono t1.size),(r3.below hb1).below hbx,by rw [hb9];exact Has.new _ _ _,?_,?_⟩
        · exact z32 (z32 r8 (hb1.block gn (by have:=r2.size;omega))) (hbx.block gn (by have:=t1.size;omega))
        · rw [hb9]
          exact (r3.below hb1).lt
      go_upto_region 8 with fail
      rw [← hb9]
      clear hb1 hbx hb9
      generalize w1.alloc (.cells #[.int .u8 (h:Int),.int .u64 (k:Int)] 79)=w2 at *
      refine z82 _ _ _ _ _ _ _ _ _ _ _ _ _ _ _ _ _ _ _ _ _ _ _ _ _ _ _ _ _ _ _ _ _ _ w.heap.size b9 gn o n c i h k (HSH l i) h32 hlt (fun W=>Below w.heap.size w W∧SMAP W w.heap.size i (HAND ss l i)∧Has W b9 #[.int .u8 (h:Int),.int .u64 (k:Int)] 79∧W.rangeAt gn (o+i*32) (z01 (HSH l i))) (fun W=>Below w.heap.size w W∧SMAP W w.heap.size (i+1) (HAND ss l (i+1))∧Has W b9 #[.int .u8 (h:Int),.int .u64 (k:Int)] 79∧W.rangeAt gn (o+i*32) (z01 (HSH l i)))
        (fun W ⟨_,_,p,q⟩=>⟨p.cell 0,p.cell 1,q⟩) (fun W ⟨_,_,p,q⟩=>⟨p.cell 0,p.cell 1,q⟩) ?_ ⟨R2.out.1.drew,R2.out.2.1.at rfl,R2.out.2.2.1,z32 R2.out.2.2.2.1 rfl⟩ (fun _ _ _ _ _ h=>h) ?_
      · rintro W ⟨p1,p2,p3,p4⟩
        obtain ⟨r1,r2,r3,r4,r5,r6,r7,r8⟩:=R.out
        obtain ⟨w',q1,q2,q3⟩:=p2.store (h:=h) (k:=k) (by omega) (by have:=r5.1;omega) (by have:=r5.index_lt;omega) (HSH l i)
        have hb9':=R2.out.2.2.2.2
        refine ⟨w',q1,p1.grown q3 p1.size (fun k e=>by cases e;exact Nat.le_refl _),by rw [r6];exact q2,(q3.block b9 p3.lt (by simp;omega)).trans p3,z32 p4 (q3.block gn (by have:=p1.size;omega) (by simp;omega))⟩
      · rintro W ⟨p1,p2,p3,p4⟩
        have Z:Aside (i+1+q=n∧Below w.heap.size w W∧SMAP W w.heap.size (i+1) (HAND ss l (i+1))):=⟨R.out.1,p1,p2⟩
        clear p1 p2 p3 p4 R R2 h32
        have e1:=E1.out
        go_wp2
        go_roundg q
        case measure=>exact Nat.lt_succ_self _
        case rel=>exact ⟨i+1,by first | rfl | (rw [E1.out]),Z.out⟩
set_option maxHeartbeats 2000000 in
theorem zfR (mb n h h1 k:Nat) (d:Int) (M:Nat→Nat→List Int) (hh:h=h1+1) (hh2:h<200) (hk:2*k+1<2 ^ 64) (hn:n≤10000) (w:World) (hM:SMAP w mb n M) (hL:IsH (M h1 (2*k))) (hR:IsH (M h1 (2*k+1))) (hT:HX.Tabled w) (hmb:2<mb):
    Calls Tryz.prog 72 #[.map (some mb),.int .i64 d,.agg #[.int .u8 (h:Int),.int .u64 (k:Int)]] w fun e w'=>e=.returned (.tuple #[])∧SMAP w' mb (n+1) (MPUT M h k (z0D d (M h1 (2*k)) (M h1 (2*k+1))))∧w.grownBy w' (some mb):=by
  obtain ⟨L,hLe⟩:∃ L,M h1 (2*k)=L:=⟨_,rfl⟩
  obtain ⟨R,hRe⟩:∃ R,M h1 (2*k+1)=R:=⟨_,rfl⟩
  rw [hLe] at hL ⊢
  rw [hRe] at hR ⊢
  obtain ⟨k2,hk2⟩:∃ k2,2*k=k2:=⟨_,rfl⟩
  obtain ⟨k3,hk3⟩:∃ k3,k2+1=k3:=⟨_,rfl⟩
  have e1:IntKind.u8.wrap ((h:Int) - 1)=(h1:Int):=by simp [IntKind.wrap,IntKind.bits,IntKind.signed];omega
  have e2:IntKind.u64.wrap (2*(k:Int))=(k2:Int):=by rw [z06];omega
  have e3:IntKind.u64.wrap ((k2:Int)+1)=(k3:Int):=by rw [z06];omega
  have HA:Aside (h<200∧h1<200∧(k2<2 ^ 64∧k3<2 ^ 64)∧k<2 ^ 64∧n≤10000∧SMAP w mb n M∧M h1 k2=L∧M h1 k3=R∧IsH L∧IsH R∧HX.Tabled w∧2<mb):=⟨hh2,by omega,by omega,by omega,hn,hM,by rw [← hk2];exact hLe,by rw [← hk3,← hk2];exact hRe,hL,hR,hT,hmb⟩
  have l32:L.length=32:=hL.1
  have r32:R.length=32:=hR.1
  have LK:Aside (∀ W,Below w.heap.size w W→(Instr.lookup 112 (.map (some mb)) (.agg #[.int .u8 (h1:Int),.int .u64 (k2:Int)]) false).run Tryz.prog W=.ok (.agg (z01 L).toArray) W∧(Instr.lookup 112 (.map (some mb)) (.agg #[.int .u8 (h1:Int),.int .u64 (k3:Int)]) false).run Tryz.prog W=.ok (.agg (z01 R).toArray) W):=fun W hb=>by
    have h1':=(HA.out.2.2.2.2.2.1.below hb).look (h:=h1) (k:=k2) (by have:=HA.out;omega) (by have:=HA.out;omega)
    have h2':=(HA.out.2.2.2.2.2.1.below hb).look (h:=h1) (k:=k3) (by have:=HA.out;omega) (by have:=HA.out;omega)
    rw [HA.out.2.2.2.2.2.2.1] at h1'
    rw [HA.out.2.2.2.2.2.2.2.1] at h2'
    exact ⟨h1',h2'⟩
  clear hh hh2 hk hn hM hLe hRe hk2 hk3 hL hR hT hmb
  go_enter Tryz.func72,Tryz.ntmps72
  go_upto_region 1 with fail
  obtain ⟨b5,hb5⟩:∃ b5,b5=w.heap.size:=⟨_,rfl⟩
  have R1:Aside (Below w.heap.size w (w.alloc (.cells #[.int .u8 (h:Int),.int .u64 (k:Int)] 79))∧Has (w.alloc (.cells #[.int .u8 (h:Int),.int .u64 (k:Int)] 79)) b5 #[.int .u8 (h:Int),.int .u64 (k:Int)] 79∧w.heap.size≤b5):=⟨(Below.refl _ _).alloc (Nat.le_refl _) _,by rw [hb5];exact Has.new _ _ _,by rw [hb5];exact Nat.le_refl _⟩
  rw [← hb5]
  clear hb5
  generalize w.alloc (.cells #[.int .u8 (h:Int),.int .u64 (k:Int)] 79)=W1 at *
  have lk1:=(LK.out _ R1.out.1).1
  have hz0:W1.cell? ⟨b5,0,none⟩=some (.int .u8 (h:Int)):=R1.out.2.1.cell 0
  have hz1:W1.cell? ⟨b5,1,none⟩=some (.int .u64 (k:Int)):=R1.out.2.1.cell 1
  go_upto_region 2 with (refine wpList_store_row rfl 24 (.tmp 6) (.tmp 16) rfl _ _ rfl rfl 24 _ (Has.new W1 _ _) (z02 l32) (by simp [z01,l32]) (z0m L) ?_;rw [World.setRow_alloc_new])
  obtain ⟨b6,hb6⟩:∃ b6,b6=W1.heap.size:=⟨_,rfl⟩
  have R2:Aside (Below w.heap.size w (W1.alloc (.cells (z01 L).toArray 24))∧Has (W1.alloc (.cells (z01 L).toArray 24)) b5 #[.int .u8 (h:Int),.int .u64 (k:Int)] 79∧w.heap.size≤b5∧Has (W1.alloc (.cells (z01 L).toArray 24)) b6 (z01 L).toArray 24∧w.heap.size≤b6):=⟨R1.out.1.alloc R1.out.1.size _,R1.out.2.1.alloc _,R1.out.2.2,by rw [hb6];exact Has.new _ _ _,by rw [hb6];exact R1.out.1.size⟩
  rw [← hb6]
  clear hb6 lk1 hz0 hz1 R1
  generalize W1.alloc (.cells (z01 L).toArray 24)=W2 at *
  have lk2:=(LK.out _ R2.out.1).2
  have hz0:W2.cell? ⟨b5,0,none⟩=some (.int .u8 (h:Int)):=R2.out.2.1.cell 0
  have hz1:W2.cell? ⟨b5,1,none⟩=some (.int .u64 (k:Int)):=R2.out.2.1.cell 1
  go_upto_region 3 with (refine wpList_store_row rfl 24 (.tmp 7) (.tmp 26) rfl _ _ rfl rfl 24 _ (Has.new W2 _ _) (z02 r32) (by simp [z01,r32]) (z0m R) ?_;rw [World.setRow_alloc_new])
  obtain ⟨b7,hb7⟩:∃ b7,b7=W2.heap.size:=⟨_,rfl⟩
  have R3:Aside (Below w.heap.size w (W2.alloc (.cells (z01 R).toArray 24))∧Has (W2.alloc (.cells (z01 R).toArray 24)) b5 #[.int .u8 (h:Int),.int .u64 (k:Int)] 79∧w.heap.size≤b5∧Has (W2.alloc (.cells (z01 R).toArray 24)) b6 (z01 L).toArray 24∧w.heap.size≤b6∧Has (W2.alloc (.cells (z01 R).toArray 24)) b7 (z01 R).toArray 24∧w.heap.size≤b7):=⟨R2.out.1.alloc R2.out.1.size _,R2.out.2.1.alloc _,R2.out.2.2.1,R2.out.2.2.2.1.alloc _,R2.out.2.2.2.2,by rw [hb7];exact Has.new _ _ _,by rw [hb7];exact R2.out.1.size⟩
  rw [← hb7]
  clear hb7 lk2 hz0 hz1 R2
  generalize W2.alloc (.cells (z01 R).toArray 24)=W3 at *
  refine z9G _ _ _ _ _ _ _ _ _ _ _ _ _ _ _ _ _ _ _ _ _ _ _ _ _ _ _ _ _ mb b5 b6 b7 h k d L R l32 r32 (fun W=>Below w.heap.size w W∧Has W b5 #[.int .u8 (h:Int),.int .u64 (k:Int)] 79∧Has W b6 (z01 L).toArray 24∧Has W b7 (z01 R).toArray 24) (fun X W=>X=.agg (z01 (z0D d L R)).toArray∧Below w.heap.size w W∧Has W b5 #[.int .u8 (h:Int),.int .u64 (k:Int)] 79∧Has W b6 (z01 L).toArray 24∧Has W b7 (z01 R).toArray 24) (fun _ W=>SMAP W mb (n+1) (MPUT M h k (z0D d L R))∧w.grownBy W (some mb)∧Has W b5 #[.int .u8 (h:Int),.int .u64 (k:Int)] 79∧Has W b6 (z01 L).toArray 24∧Has W b7 (z01 R).toArray 24)
    (fun W ⟨_,p,q,r⟩=>⟨p.cell 0,p.cell 1,z0F q,z0F r⟩) (fun X W ⟨_,_,p,q,r⟩=>⟨p.cell 0,p.cell 1,z0F q,z0F r⟩) (fun X W ⟨_,_,p,q,r⟩=>⟨p.cell 0,p.cell 1,z0F q,z0F r⟩) ?_ ?_ ⟨R3.out.1.drew,R3.out.2.1,R3.out.2.2.2.1,R3.out.2.2.2.2.2.1⟩ (fun _ _ _ _ _ h=>h) ?_
  · rintro W ⟨p1,p2,p3,p4⟩
    obtain ⟨a1,a2,a3,a4,a5,a6,a7,a8,a9,a10,a11,a12⟩:=HA.out
    refine (zew d L R a9 a10 W (a11.below p1)).mono ?_
    rintro e w' ⟨rfl,hb⟩
    exact ⟨_,rfl,rfl,p1.trans (hb.mono p1.size),p2.keep hb,p3.keep hb,p4.keep hb⟩
  · rintro X W ⟨rfl,p1,p2,p3,p4⟩
    obtain ⟨a1,a2,a3,a4,a5,a6,a7,a8,a9,a10,a11,a12⟩:=HA.out
    have hml:=a6.lt
    have r:=R3.out
    obtain ⟨w',q1,q2,q3⟩:=(a6.below p1).store (h:=h) (k:=k) (by omega) (by omega) a4 (z0D d L R)
    refine ⟨w',q1,q2,⟨q3.os.trans p1.os,q3.tape.trans p1.tape,q3.output.trans p1.output,Nat.le_trans p1.size q3.size,fun j hj hne=>(q3.block j (by have:=p1.size;omega) hne).trans (p1.block j hj)⟩,(q3.block b5 p2.lt (by simp;omega)).trans p2,(q3.block b6 p3.lt (by simp;omega)).trans p3,(q3.block b7 p4.lt (by simp;omega)).trans p4⟩
  · rintro X W ⟨p1,p2,p3,p4,p5⟩
    have Z:Aside (SMAP W mb (n+1) (MPUT M h k (z0D d L R))∧w.grownBy W (some mb)):=⟨p1,p2⟩
    clear p1 p2 p3 p4 p5 R3 LK HA
    go_wp2
    exact bodyPost_end (v:=.tuple #[]) (by simp [results,Tryz.f72]) rfl ⟨rfl,Z.out⟩
end Go.Proofs.YthpdlnbbbcgemaaGreatDoor

namespace Go.Proofs.YthpdlnbbbcgemaaGreatDoor
open Go.RowKit
set_option maxRecDepth 100000
def CAT (M:Nat→Nat→List Int) (ss:List (Nat × Nat)):List Int:=ss.flatMap fun s=>M s.1 s.2
theorem zby {M:Nat→Nat→List Int} {ss:List (Nat × Nat)} (h:∀ s∈ss,(M s.1 s.2).length=32):(CAT M ss).length=32*ss.length:=by
  induction ss with
  | nil=>rfl
  | cons a l ih=>
    have h1:=h a (by simp)
    have h2:=ih (fun s hs=>h s (by simp [hs]))
    simp only [CAT,List.flatMap_cons,List.length_append,List.length_cons] at *
    omega
theorem z5L {M:Nat→Nat→List Int} {ss:List (Nat × Nat)} {i h k:Nat} (hs:ss[i]?=some (h,k)):CAT M (ss.take (i+1))=CAT M (ss.take i) ++ M h k:=by
  rw [List.take_add_one,hs]
  simp [CAT]
set_option maxHeartbeats 2000000 in
theorem z7x (mb N n:Nat) (hn:n≤4611686018427387904) (M:Nat→Nat→List Int) (w:World) (hM:SMAP w mb N M) (hH:∀ s∈SPAN 0 n,(M s.1 s.2).length=32) (hT:Tabled w) (h0:0<w.heap.size):
    Calls Tryz.prog 73 #[.map (some mb),.int .u64 (n:Int)] w fun e w'=>∃ a c,e=.returned (.slice a (PC n) c)∧w'.ownsRow w.heap.size 24 32 (.slice a (PC n) c) (PC n) (z01 (CAT M (SPAN 0 n)))∧Below w.heap.size w w':=by
  have cP:=z8u n hn w hT h0
  have hpl:=z5d hn
  have hlen:(SPAN 0 n).length=PC n:=by
    have:=z2p (n:=n) (by omega)
    rw [hpl] at this
    simpa [PLCS] using this
  have hnd:∀ i h k,(SPAN 0 n)[i]?=some (h,k)→Node h k:=fun i h k e=>(z0Y hn (Nat.zero_le n)).node e
  have hpc:PC n≤64:=z0O 64 n (by omega)
  rw [hpl] at cP
  generalize SPAN 0 n=ss at *
  generalize PC n=m at *
  have HA:Aside (ss.length=m∧m≤64∧(∀ i h k,ss[i]?=some (h,k)→Node h k)∧(∀ s∈ss,(M s.1 s.2).length=32)∧SMAP w mb N M):=⟨hlen,hpc,hnd,hH,hM⟩
  clear hlen hpc hnd hH hM hpl hT h0 hn
  go_enter Tryz.func73,Tryz.ntmps73
  go_wp2_with fail
  refine cP.mono ?_
  rintro e w1 ⟨gp,cp,rfl,hrow,hb⟩
  clear cP
  obtain ⟨cur,hcs,hmk⟩:=zbj m (by have:=HA.out;omega) w1
  have hgp:=(hrow.lt gp rfl).2
  have R0:Aside ((w1.alloc (.cells cur 24)).ownsRow w.heap.size 24 32 (.slice (some ⟨w1.heap.size,0,none⟩) 0 m) 0 (z01 (CAT M (ss.take 0)))∧Below w.heap.size w (w1.alloc (.cells cur 24))∧(∀ i,i<m→(w1.alloc (.cells cur 24)).cell? ⟨gp,i,none⟩=(z0h (PLCS ss))[i]?)∧gp<(w1.alloc (.cells cur 24)).heap.size∧gp≠w1.heap.size∧w1.heap.size<(w1.alloc (.cells cur 24)).heap.size):=by
    refine ⟨z0u (World.ownsRow_made w1 cur m (Nat.le_refl _) (by simp [maxLen];have:=HA.out;omega) hcs) hb.size,hb.alloc hb.size _,fun i hi=>?_,by simp;omega,by omega,by simp⟩
    have hbx:Below w1.heap.size w1 (w1.alloc (.cells cur 24)):=(Below.refl _ _).alloc (Nat.le_refl _) _
    exact (hbx.cell (p:=⟨gp,i,none⟩) hgp).trans (hrow.cellAt i (by omega))
  clear hrow hb hcs hgp
  go_wp2_with fail
  obtain ⟨gl,hgl⟩:∃ gl,gl=w1.heap.size:=⟨_,rfl⟩
  rw [← hgl] at R0 ⊢
  clear hgl hmk
  generalize w1.alloc (.cells cur 24)=w2 at *
  go_loopg [6,18] m (fun q s6 s18 wx=>∃ i:Nat,s18=.int .i64 (i:Int)∧Aside (i+q=m∧wx.ownsRow w.heap.size 24 32 s6 i (z01 (CAT M (ss.take i)))∧Below w.heap.size w wx∧(∀ i,i<m→wx.cell? ⟨gp,i,none⟩=(z0h (PLCS ss))[i]?)∧gp<wx.heap.size∧s6.ownBlock≠some gp))
  case atStart=>exact ⟨0,rfl,by omega,R0.out.1,R0.out.2.1,R0.out.2.2.1,R0.out.2.2.2.1,fun e=>R0.out.2.2.2.2.1 (by simpa [Value.ownBlock] using e.symm)⟩
  case round=>
    obtain ⟨i,rfl,A⟩:=hrel
    clear R0
    cases gk with
    | zero=>
      obtain rfl:i=m:=by have:=A.out.1;omega
      have hlt:¬ (i:Int)<(i:Int):=by omega
      have R:Aside (∃ a c,u6=.slice a i c∧wr.ownsRow w.heap.size 24 32 (.slice a i c) i (z01 (CAT M ss))∧Below w.heap.size w wr):=by
        obtain ⟨_,h1,h2,_⟩:=A.out
        rw [List.take_of_length_le (by have:=HA.out;omega)] at h1
        obtain ⟨a,c,rfl,_⟩:=z31 h1
        exact ⟨a,c,rfl,h1,h2⟩
      clear A HA
      go_wp2
      go_ret
      obtain ⟨a,c,e,h1,h2⟩:=R.out
      exact ⟨a,c,by rw [e];rfl,h1,h2⟩
    | succ q=>
      obtain ⟨a1,a2,a3,a4,a5,a6⟩:=A.out
      obtain ⟨h1,h2,h3,h4,h5⟩:=HA.out
      have hlt:(i:Int)<(m:Int):=by omega
      obtain ⟨⟨h,k⟩,hs⟩:∃ s,ss[i]?=some s:=⟨_,List.getElem?_eq_getElem (by omega)⟩
      have hN:=h3 i h k hs
      have hc:wr.cell? ⟨gp,i,none⟩=some (.int .u64 ((PLC h k:Nat):Int)):=by rw [a4 i (by omega)];simp [z0h,PLCS,hs]
      have cS:=z6P h k hN wr
      have h32:(M h k).length=32:=h4 (h,k) (List.mem_of_getElem? hs)
      have R:Aside (i+1+q=m∧wr.ownsRow w.heap.size 24 32 u6 i (z01 (CAT M (ss.take i)))∧Below w.heap.size w wr∧(∀ i,i<m→wr.cell? ⟨gp,i,none⟩=(z0h (PLCS ss))[i]?)∧gp<wr.heap.size∧u6.ownBlock≠some gp∧CAT M (ss.take (i+1))=CAT M (ss.take i) ++ M h k∧m≤64∧Node h k∧SMAP w mb N M):=⟨by omega,a2,a3,a4,a5,a6,z5L hs,h2,hN,h5⟩
      have E1:Aside (wrap64 ((i:Int)+1)=((i+1:Nat):Int)):=by show wrap64 ((i:Int)+1)=((i+1:Nat):Int);unfold wrap64;omega
      clear a1 a2 a3 a4 a5 a6 h1 h2 h3 h4 h5 hs hN A HA
      generalize PLC h k=pl at *
      go_wp2_with fail
      refine cS.mono ?_
      rintro e w3 ⟨rfl,hb3⟩
      clear cS hc
      have R3:Aside (w3.ownsRow w.heap.size 24 32 u6 i (z01 (CAT M (ss.take i)))∧Below w.heap.size w w3∧(∀ i,i<m→w3.cell? ⟨gp,i,none⟩=(z0h (PLCS ss))[i]?)∧gp<w3.heap.size):=⟨z0q R.out.2.1 hb3,R.out.2.2.1.trans (hb3.mono R.out.2.2.1.size),fun i hi=>(hb3.cell (p:=⟨gp,i,none⟩) R.out.2.2.2.2.1).trans (R.out.2.2.2.1 i hi),Nat.lt_of_lt_of_le R.out.2.2.2.2.1 hb3.size⟩
      clear hb3
      have lk:(Instr.lookup 112 (.map (some mb)) (.agg #[.int .u8 (h:Int),.int .u64 (k:Int)]) false).run Tryz.prog (w3.alloc (.cells #[.int .u8 (h:Int),.int .u64 (k:Int)] 79))=.ok (.agg (z01 (M h k)).toArray) (w3.alloc (.cells #[.int .u8 (h:Int),.int .u64 (k:Int)] 79)):=by
        have hb4:=R3.out.2.1.alloc (o:=.cells #[.int .u8 (h:Int),.int .u64 (k:Int)] 79) R3.out.2.1.size
        obtain ⟨_,_,_,_,_,_,_,_,r9,r10⟩:=R.out
        exact (r10.below hb4).look (by have:=r9.1;omega) (by have:=r9.index_lt;omega)
      generalize M h k=H at *
      go_wp2_with (first
        | (refine z1S _ rfl 40 24 (.tmp 30) rfl (z01 H).toArray rfl 32 _ _ Tryz.underlying40 z22 (by simp [z01,h32]) rfl (by decide) (by decide) ?_)
        | (at_builtin;refine z47 _ rfl (.tmp 27) (.tmp 31) rfl w.heap.size u6 i _ rfl ((R3.out.1.alloc _).alloc _) _ 1 H h32 rfl (Has.new _ _ _) (by have:=R.out;omega) (by have:=R3.out.2.1.size;simp;omega) ?_;intro g4 c4 w4 hown hgrow hat hg))
      have Z:Aside (i+1+q=m∧w4.ownsRow w.heap.size 24 32 (.slice (some ⟨g4,0,none⟩) (i+1) c4) (i+1) (z01 (CAT M (ss.take (i+1))))∧Below w.heap.size w w4∧(∀ i,i<m→w4.cell? ⟨gp,i,none⟩=(z0h (PLCS ss))[i]?)∧gp<w4.heap.size∧(Value.slice (some ⟨g4,0,none⟩) (i+1) c4).ownBlock≠some gp):=by
        obtain ⟨r1,r2,r3,r4,r5,r6,r7,r8,r9,r10⟩:=R.out
        obtain ⟨t1,t2,t3,t4⟩:=R3.out
        have hsz:=zbh hgrow
        simp at hsz
        refine ⟨r1,by rw [r7,z0x];exact hown,((t2.alloc t2.size _).alloc (by have:=t2.size;simp;omega) _).grown hgrow (by have:=t2.size;simp;omega) (fun k e=>(t1.lt k e).1),fun j hj=>?_,by omega,fun e=>?_⟩
        · rw [← t3 j hj]
          have hbx:Below w3.heap.size w3 ((w3.alloc (.cells #[.int .u8 (h:Int),.int .u64 (k:Int)] 79)).alloc (.cells (z01 H).toArray 24)):=((Below.refl _ _).alloc (Nat.le_refl _) _).alloc (by simp) _
          exact (World.cell?_of_block (a:=⟨gp,j,none⟩) (hgrow.block gp (by simp;omega) fun e=>r6 e.symm)).trans (hbx.cell (p:=⟨gp,j,none⟩) t4)
        · have e:g4=gp:=by simpa [Value.ownBlock] using e
          rcases hat with h' | h'
          · exact r6 (by rw [h',e])
          · simp at h'
            omega
      clear hown hgrow hat hg R R3 lk h32
      have e1:=E1.out
      go_wp2
      go_roundg q
      case measure=>exact Nat.lt_succ_self _
      case rel=>exact ⟨i+1,by first | rfl | (rw [E1.out]),Z.out⟩
end Go.Proofs.YthpdlnbbbcgemaaGreatDoor

namespace Go.Proofs.YthpdlnbbbcgemaaGreatDoor
open Go.RowKit
set_option maxRecDepth 100000
theorem z3S:IsH ZND:=⟨rfl,fun x hx=>by
  have:x=0:=by simpa [ZND] using hx
  omega⟩
theorem zax {M:Nat→Nat→List Int} (h:∀ a b,IsH (M a b)) {x:List Int} (hx:IsH x) (p q a b:Nat):IsH (MPUT M p q x a b):=by
  unfold MPUT
  split
  · exact hx
  · exact h a b
theorem z2P {l:List Int} {n i:Nat} (hl:l.length=32*n) (hr:∀ x∈l,0≤x∧x≤255) (hi:i<n):IsH (HSH l i):=⟨z0U hl hi,fun x hx=>hr x (zfH hx)⟩
theorem z3T {ss:List (Nat × Nat)} {l:List Int} {n:Nat} (hl:l.length=32*n) (hr:∀ x∈l,0≤x∧x≤255):∀ i,i≤n→∀ a b,IsH (HAND ss l i a b)
  | 0,_,_,_=>z3S
  | i+1,h,a,b=>zax (z3T hl hr i (by omega)) (z2P hl hr (by omega)) _ _ a b
end Go.Proofs.YthpdlnbbbcgemaaGreatDoor

namespace Go.Proofs.YthpdlnbbbcgemaaGreatDoor
open Go.RowKit
set_option maxRecDepth 100000
def FA (d:Int) (l:List Int) (n:Nat):Nat→List Int
  | 0=>HSH l (n - 1)
  | k+1=>z1j d (HSH l (n - 2 - k)) (FA d l n k)
def FLD (d:Int) (l:List Int) (n:Nat):List Int:=if n=0 then ZND else FA d l n (n - 1)
theorem z57 {d:Int} {l:List Int} {n:Nat} (hl:l.length=32*n) (hr:∀ x∈l,0≤x∧x≤255) (hn:0<n):∀ k,IsH (FA d l n k)
  | 0=>z2P hl hr (by omega)
  | k+1=>z5K _ _ _
theorem z8T {d:Int} {l:List Int} {n:Nat} (hl:l.length=32*n) (hr:∀ x∈l,0≤x∧x≤255):IsH (FLD d l n):=by
  unfold FLD
  split
  · exact z3S
  · exact z57 hl hr (by omega) _
theorem z26 {fn:Func} {p:Tmp} {ty:TypeId} (h:fn.results=#[.cell p ty]) (tmps:Array Value) (w:World) (g:Nat) (t:TypeId) (cs:Array Value) (fr:Nat × Nat) (k:Nat) (el:TypeId)
    (hp:tmps.getD p undef=.pointer (some ⟨g,0,none⟩)) (hg:w.heap[g]?=some (.cells cs t fr))
    (hu:Tryz.prog.underlying ty=some (.array k el)) (hi:(Tryz.prog.info? ty).map (·.size)=some cs.size):
    (results fn tmps).run Tryz.prog w=.ok (.agg cs) w:=by
  have hp':tmps[p]?.getD undef=.pointer (some ⟨g,0,none⟩):=by simpa using hp
  simp [results,h,hp',asAddr,run_loadVar_row w g t ty cs fr (.array k el) hg hu rfl hi]
set_option maxHeartbeats 4000000 in
theorem zcZ (d:Int) (a:Option Addr) (n c:Nat) (hn:n≤1000) (l:List Int) (w:World) (hF:Flat w a n l) (hX:HX.Tabled w):
    Calls Tryz.prog 106 #[.int .i64 d,.slice a n c] w fun e w'=>e=.returned (.agg (z01 (FLD d l n)).toArray)∧Below w.heap.size w w':=by
  have R0:Aside (Below w.heap.size w (w.alloc (.cells ZARR 24))∧Has (w.alloc (.cells ZARR 24)) w.heap.size (z01 ZND).toArray 24):=⟨(Below.refl _ _).alloc (Nat.le_refl _) _,by rw [z1L];exact Has.new _ _ _⟩
  by_cases h0:n=0
  · subst h0
    have e:FLD d l 0=ZND:=rfl
    rw [e]
    clear hF hX hn e
    go_enter Tryz.func106,Tryz.ntmps106
    go_upto_region 2 with fail
    rw [show (#[.int .u8 0,.int .u8 0,.int .u8 0,.int .u8 0,.int .u8 0,.int .u8 0,.int .u8 0,.int .u8 0,.int .u8 0,.int .u8 0,.int .u8 0,.int .u8 0,.int .u8 0,.int .u8 0,.int .u8 0,.int .u8 0,.int .u8 0,.int .u8 0,.int .u8 0,.int .u8 0,.int .u8 0,.int .u8 0,.int .u8 0,.int .u8 0,.int .u8 0,.int .u8 0,.int .u8 0,.int .u8 0,.int .u8 0,.int .u8 0,.int .u8 0,.int .u8 0]:Array Value)=ZARR from rfl]
    generalize w.alloc (.cells ZARR 24)=W0 at *
    go_wp2_with (rw [show (#[.int .u8 0,.int .u8 0,.int .u8 0,.int .u8 0,.int .u8 0,.int .u8 0,.int .u8 0,.int .u8 0,.int .u8 0,.int .u8 0,.int .u8 0,.int .u8 0,.int .u8 0,.int .u8 0,.int .u8 0,.int .u8 0,.int .u8 0,.int .u8 0,.int .u8 0,.int .u8 0,.int .u8 0,.int .u8 0,.int .u8 0,.int .u8 0,.int .u8 0,.int .u8 0,.int .u8 0,.int .u8 0,.int .u8 0,.int .u8 0,.int .u8 0,.int .u8 0]:Array Value)=(z01 ZND).toArray from rfl];refine wpList_store_row rfl 24 (.tmp 4) (.tmp 11) rfl _ _ rfl rfl 24 _ R0.out.2 (z02 rfl) rfl (z0m ZND) ?_)
    refine bodyPost_ret (v:=.agg (z01 ZND).toArray) (z26 rfl _ _ w.heap.size 24 _ (0,0) _ _ rfl (Has.row R0.out.2 _) Tryz.underlying24 (z02 rfl)) rfl ⟨rfl,z0d R0.out.1 (Nat.le_refl _) _⟩
  · obtain ⟨m,hm⟩:∃ m,n=m+1:=⟨n - 1,by omega⟩
    obtain ⟨gn,o,rfl,hgn,hcn⟩:=hF.2.1 (by omega)
    have hz:¬ (n:Int)=0:=by omega
    have e1:wrap64 ((n:Int) - 1)=(m:Int):=by unfold wrap64;omega
    have hml:(m:Int)<(n:Int):=by omega
    have hm0:(0:Int)≤(m:Int):=by omega
    have e:FLD d l n=FA d l n m:=by unfold FLD;rw [if_neg h0,show n - 1=m by omega]
    rw [e]
    have HA:Aside (n=m+1∧n≤1000∧Flat w (some ⟨gn,o,none⟩) n l∧HX.Tabled w∧gn<w.heap.size∧∀ k,IsH (FA d l n k)):=⟨hm,hn,hF,hX,hgn,z57 hF.1 hF.2.2 (by omega)⟩
    clear hm hn hF hX hgn hcn h0 e
    go_enter Tryz.func106,Tryz.ntmps106
    go_upto_region 3 with fail
    rw [show (#[.int .u8 0,.int .u8 0,.int .u8 0,.int .u8 0,.int .u8 0,.int .u8 0,.int .u8 0,.int .u8 0,.int .u8 0,.int .u8 0,.int .u8 0,.int .u8 0,.int .u8 0,.int .u8 0,.int .u8 0,.int .u8 0,.int .u8 0,.int .u8 0,.int .u8 0,.int .u8 0,.int .u8 0,.int .u8 0,.int .u8 0,.int .u8 0,.int .u8 0,.int .u8 0,.int .u8 0,.int .u8 0,.int .u8 0,.int .u8 0,.int .u8 0,.int .u8 0]:Array Value)=ZARR from rfl]
    generalize w.alloc (.cells ZARR 24)=W0 at *
    have hat:W0.rangeAt gn (o+m*32) (z01 (FA d l n 0)):=by
      have h1:=(HA.out.2.2.1.below R0.out.1).at (show m<n by have:=HA.out.1;omega)
      have h2:FA d l n 0=HSH l m:=by have:=HA.out.1;rw [FA,show n - 1=m by omega]
      rw [h2]
      exact h1
    have h32:=(HA.out.2.2.2.2.2 0).1
    generalize hA0:FA d l n 0=A0 at *
    go_wp2_with (first
      | (refine wpList_load_mid rfl 24 (.tmp 17) rfl gn (o+m*32) rfl (z01 A0) _ hat Tryz.underlying24 rfl (z0f h32) ?_)
      | (refine wpList_store_row rfl 24 (.tmp 6) (.tmp 18) rfl _ _ rfl rfl 24 _ (Has.new W0 _ _) (z02 h32) (by simp [z01,h32]) (z0m A0) ?_;rw [World.setRow_alloc_new]))
    have R1:Aside (Below w.heap.size w (W0.alloc (.cells (z01 A0).toArray 24))∧Has (W0.alloc (.cells (z01 A0).toArray 24)) w.heap.size (z01 ZND).toArray 24∧Has (W0.alloc (.cells (z01 A0).toArray 24)) W0.heap.size (z01 (FA d l n 0)).toArray 24∧w.heap.size<W0.heap.size):=⟨R0.out.1.alloc R0.out.1.size _,R0.out.2.alloc _,by rw [hA0];exact Has.new _ _ _,R0.out.2.lt⟩
    clear hat h32 hA0 R0
    generalize W0.alloc (.cells (z01 A0).toArray 24)=W1 at *
    generalize W0.heap.size=b6 at *
    clear W0
    have K:Aside (w.heap.size<b6):=R1.out.2.2.2
    have E0:Aside (wrap64 ((m:Int) - 1)=(m:Int) - 1):=by have:=HA.out.1;have:=HA.out.2.1;show wrap64 ((m:Int) - 1)=(m:Int) - 1;unfold wrap64;omega
    go_loopg [7] m (fun q s7 wx=>∃ x:Int,s7=.int .i64 x∧Aside (q≤m∧x=(q:Int) - 1∧Below w.heap.size w wx∧Has wx w.heap.size (z01 ZND).toArray 24∧Has wx b6 (z01 (FA d l n (m - q))).toArray 24))
    case atStart=>exact ⟨_,rfl,Nat.le_refl _,E0.out,R1.out.1,R1.out.2.1,by rw [Nat.sub_self];exact R1.out.2.2.1⟩
    case round=>
      obtain ⟨x,rfl,A⟩:=hrel
      clear R1 E0
      cases gk with
      | zero=>
        obtain rfl:x = -1:=by have:=A.out.2.1;omega
        have y32:=(HA.out.2.2.2.2.2 m).1
        have hH4:=A.out.2.2.2.1
        have hH6:Has wr b6 (z01 (FA d l n m)).toArray 24:=A.out.2.2.2.2
        have hb:=A.out.2.2.1
        clear A HA
        generalize hY0:FA d l n m=Y at *
        go_wp2_with (first
          | (refine wpList_load_row rfl 24 (.tmp 6) rfl b6 rfl 24 (z01 Y).toArray (0,0) _ hH6 Tryz.underlying24 rfl (z02 y32) ?_)
          | (refine wpList_store_row rfl 24 (.tmp 4) (.tmp 32) rfl _ _ rfl rfl 24 _ hH4 (z02 y32) (by simp [z01,y32];rfl) (z0m Y) ?_))
        refine bodyPost_ret (v:=.agg (z01 Y).toArray) (z26 rfl _ _ w.heap.size 24 _ (0,0) _ _ rfl (Has.row hH4 _) Tryz.underlying24 (z02 y32)) rfl ⟨by rw [hY0],z0d hb (Nat.le_refl _) _⟩
      | succ q=>
        obtain rfl:x=(q:Int):=by have:=A.out.2.1;omega
        have hq0:(0:Int)≤(q:Int):=by omega
        have hb:=A.out.2.2.1
        obtain ⟨h1,h2,h3,h4,h5,h6⟩:=HA.out
        have hqm:q+1≤m:=A.out.1
        have eY:FA d l n (m - q)=z1j d (HSH l q) (FA d l n (m - (q+1))):=by
          rw [show m - q=(m - (q+1))+1 by omega,FA,show n - 2 - (m - (q+1))=q by omega]
        have hL:IsH (HSH l q):=z2P h3.1 h3.2.2 (by omega)
        have hR:=h6 (m - (q+1))
        have hY:=h6 (m - q)
        have hb1:(q:Int)<(n:Int):=by omega
        have cF:=zex d (HSH l q) (FA d l n (m - (q+1))) hL hR wr.drew (h4.below hb.drew)
        have hLr:=((h3.below hb).at (show q<n by omega))
        have hE1:Aside (wrap64 ((q:Int) - 1)=(q:Int) - 1):=by show wrap64 ((q:Int) - 1)=(q:Int) - 1;unfold wrap64;omega
        rw [← eY] at cF
        clear h1 h2 h3 h4 h5 h6 eY hb HA
        generalize FA d l n (m - (q+1))=R at *
        generalize HSH l q=L at *
        have hH6:=A.out.2.2.2.2
        go_upto_region 8 with fail
        refine z83 _ _ _ _ _ _ _ _ _ _ _ _ _ _ _ _ _ _ _ _ _ _ _ _ _ _ _ _ _ wr b6 gn o n c q d L R (FA d l n (m - q)) hL.1 hR.1 hY.1 hb1 hLr (z0F hH6) (fun W=>Below w.heap.size w W∧Has W w.heap.size (z01 ZND).toArray 24) (cF.mono ?_) (fun _ _ _ _ _ h=>h) ?_
        · rintro e w' ⟨rfl,hb⟩
          have hb':Below wr.heap.size wr w':=(Below.refl _ wr).drew.trans hb
          exact ⟨_,rfl,rfl,hH6.keep hb',A.out.2.2.1.trans (hb'.mono A.out.2.2.1.size),A.out.2.2.2.1.keep hb'⟩
        · rintro X w' ⟨rfl,g1,g2,g3⟩
          dsimp only
          have Z:Aside (q≤m∧(q:Int) - 1=(q:Int) - 1∧Below w.heap.size w (w'.setRow b6 (z01 (FA d l n (m - q))).toArray)∧Has (w'.setRow b6 (z01 (FA d l n (m - q))).toArray) w.heap.size (z01 ZND).toArray 24∧Has (w'.setRow b6 (z01 (FA d l n (m - q))).toArray) b6 (z01 (FA d l n (m - q))).toArray 24):=⟨by omega,rfl,z0d g2 (by have:=K.out;omega) _,g3.row_other (by have:=K.out;omega) _,g1.row _⟩
          clear cF hLr hL hR hY hb1 hq0 hqm A g1 g2 g3 hH6
          have e1:=hE1.out
          generalize w'.setRow b6 (z01 (FA d l n (m - q))).toArray=w3 at *
          go_wp2
          go_roundg q
          case measure=>exact Nat.lt_succ_self _
          case rel=>exact ⟨_,rfl,Z.out.1,rfl,Z.out.2.2⟩
end Go.Proofs.YthpdlnbbbcgemaaGreatDoor

namespace Go.Proofs.YthpdlnbbbcgemaaGreatDoor
set_option maxRecDepth 100000
def WAYH (d:Int) (leaf:List Int) (I:Nat) (l:List Int):Nat→List Int
  | 0=>leaf
  | t+1=>if I / 2 ^ t % 2=0 then z0D d (WAYH d leaf I l t) (HSH l t) else z0D d (HSH l t) (WAYH d leaf I l t)
theorem z38 {ss:List (Nat × Nat)} {l:List Int} (hp:ss.Pairwise Off) {t h k:Nat} (ht:ss[t]?=some (h,k)):∀ N,t<N→N≤ss.length→HAND ss l N h k=HSH l t
  | 0,h0,_=>by omega
  | N + 1,h1,h2=>by
    rw [HAND]
    by_cases e:t=N
    · subst e
      rw [show ss.getD t (0,0)=(h,k) by rw [List.getD_eq_getElem?_getD,ht];rfl]
      exact z71 _ _ _ _
    · have hlt:t<N:=by omega
      obtain ⟨s,hs⟩:∃ s,ss[N]?=some s:=⟨_,List.getElem?_eq_getElem (by omega)⟩
      have ho:=Pairwise.at_lt hp hlt ht hs
      rw [show ss.getD N (0,0)=s by rw [List.getD_eq_getElem?_getD,hs];rfl]
      rw [z2Z]
      · exact z38 hp ht N hlt (by omega)
      · rintro ⟨e1,e2⟩
        obtain ⟨a,b⟩:=s
        dsimp only at e1 e2
        subst e1 e2
        have:=Nat.two_pow_pos h
        unfold Off at ho
        dsimp only at ho
        rw [Nat.add_mul] at ho
        omega
end Go.Proofs.YthpdlnbbbcgemaaGreatDoor

namespace Go.Proofs.YthpdlnbbbcgemaaGreatDoor
set_option maxRecDepth 100000
def z0V (l r:List Int):List Nat:=1 :: (NATS l ++ NATS r)
def z19 (l r:List Int):List Nat:=2 :: (NATS l ++ NATS r)
def z1s (n:Nat) (r:List Int):List Nat:=3 :: (HX.BE8 n ++ NATS r)
def HSHT (d:Int) (t:List Nat):List Int:=LST (HX.z08 d t)
theorem z3U (d:Int) (t:List Nat):IsH (HSHT d t):=z6j fun i=>HX.z2C d _ _ i
def INJ (d:Int) (T:List (List Nat)):Prop:=∀ s∈T,∀ t∈T,HSHT d s=HSHT d t→s=t
theorem z5p (h:List Int):(NATS h).length=32:=by simp [NATS]
theorem z5M {h k:List Int} (hh:IsH h) (hk:IsH k) (e:NATS h=NATS k):h=k:=by
  apply List.ext_getElem (by rw [hh.1,hk.1])
  intro i h1 h2
  have e2:(NATS h)[i]?=(NATS k)[i]?:=by rw [e]
  have hi:i<32:=by rw [← hh.1];exact h1
  simp only [NATS,List.getElem?_map,List.getElem?_range hi,Option.map_some,Option.some.injEq,FNC] at e2
  rw [List.getD_eq_getElem?_getD,List.getD_eq_getElem?_getD,List.getElem?_eq_getElem h1,List.getElem?_eq_getElem h2,Option.getD_some,Option.getD_some] at e2
  have a:=hh.2 _ (List.getElem_mem h1)
  have b:=hk.2 _ (List.getElem_mem h2)
  omega
theorem z7y {l r l' r':List Int} (hl:IsH l) (hr:IsH r) (hl':IsH l') (hr':IsH r') (e:NATS l ++ NATS r=NATS l' ++ NATS r'):l=l'∧r=r':=by
  obtain ⟨a,b⟩:=List.append_inj e (by rw [z5p,z5p])
  exact ⟨z5M hl hl' a,z5M hr hr' b⟩
theorem zez {d:Int} {T:List (List Nat)} (hT:INJ d T) {l r l' r':List Int} (hl:IsH l) (hr:IsH r) (hl':IsH l') (hr':IsH r') (h1:z0V l r∈T) (h2:z0V l' r'∈T) (e:z0D d l r=z0D d l' r'):l=l'∧r=r':=by
  have:=hT _ h1 _ h2 e
  unfold z0V at this
  exact z7y hl hr hl' hr' (List.cons.inj this).2
theorem zeA {d:Int} {T:List (List Nat)} (hT:INJ d T) {l r l' r':List Int} (hl:IsH l) (hr:IsH r) (hl':IsH l') (hr':IsH r') (h1:z19 l r∈T) (h2:z19 l' r'∈T) (e:z1j d l r=z1j d l' r'):l=l'∧r=r':=by
  have:=hT _ h1 _ h2 e
  unfold z19 at this
  exact z7y hl hr hl' hr' (List.cons.inj this).2
theorem zeB {d:Int} {T:List (List Nat)} (hT:INJ d T) {n:Nat} {r r':List Int} (hr:IsH r) (hr':IsH r') (h1:z1s n r∈T) (h2:z1s n r'∈T) (e:z0C d n r=z0C d n r'):r=r':=by
  have:=hT _ h1 _ h2 e
  unfold z1s at this
  exact z5M hr hr' (List.append_cancel_left (List.cons.inj this).2)
def BAGS (d:Int) (n k:Nat) (l:List Int) (T:List (List Nat)):Prop:=(∀ q,q+1<k→z19 (HSH l (k - 2 - q)) (FA d l k q)∈T)∧z1s n (FLD d l k)∈T
theorem BAGS.mono {d:Int} {n k:Nat} {l:List Int} {T T':List (List Nat)} (h:BAGS d n k l T) (hs:∀ t∈T,t∈T'):BAGS d n k l T':=⟨fun q hq=>hs _ (h.1 q hq),hs _ h.2⟩
theorem zfS {d:Int} {n k:Nat} {l l':List Int} {T:List (List Nat)} (hT:INJ d T) (hl:l.length=32*k) (hr:∀ x∈l,0≤x∧x≤255) (hl':l'.length=32*k) (hr':∀ x∈l',0≤x∧x≤255) (h1:BAGS d n k l T) (h2:BAGS d n k l' T) (e:z0C d n (FLD d l k)=z0C d n (FLD d l' k)):l=l':=by
  have e1:=zeB hT (z8T hl hr) (z8T hl' hr') h1.2 h2.2 e
  by_cases hk:k=0
  · subst hk
    rw [List.length_eq_zero_iff.1 hl,List.length_eq_zero_iff.1 hl']
  · unfold FLD at e1
    rw [if_neg hk,if_neg hk] at e1
    have step:∀ q,q+1<k→FA d l k (q+1)=FA d l' k (q+1)→HSH l (k - 2 - q)=HSH l' (k - 2 - q)∧FA d l k q=FA d l' k q:=fun q hq e2=>
      zeA hT (z2P hl hr (by omega)) (z57 hl hr (by omega) q) (z2P hl' hr' (by omega)) (z57 hl' hr' (by omega) q) (h1.1 q hq) (h2.1 q hq) e2
    have down:∀ j,j≤k - 1→FA d l k (k - 1 - j)=FA d l' k (k - 1 - j):=by
      intro j
      induction j with
      | zero=>intro _;exact e1
      | succ j ih=>
        intro hj
        have:=ih (by omega)
        rw [show k - 1 - j=(k - 1 - (j+1))+1 by omega] at this
        exact (step _ (by omega) this).2
    refine zfQ hl hl' fun i hi=>?_
    by_cases hi1:i=k - 1
    · have:=down (k - 1) (Nat.le_refl _)
      rw [Nat.sub_self] at this
      rw [hi1]
      exact this
    · have:=down i (by omega)
      rw [show k - 1 - i=(k - 2 - i)+1 by omega] at this
      have:=(step (k - 2 - i) (by omega) this).1
      rw [show k - 2 - (k - 2 - i)=i by omega] at this
      exact this
def WAYT (d:Int) (leaf:List Int) (I m:Nat) (l:List Int) (T:List (List Nat)):Prop:=∀ t,t<m→(if I / 2 ^ t % 2=0 then z0V (WAYH d leaf I l t) (HSH l t) else z0V (HSH l t) (WAYH d leaf I l t))∈T
theorem WAYT.mono {d:Int} {leaf:List Int} {I m:Nat} {l:List Int} {T T':List (List Nat)} (h:WAYT d leaf I m l T) (hs:∀ t∈T,t∈T'):WAYT d leaf I m l T':=fun t ht=>hs _ (h t ht)
end Go.Proofs.YthpdlnbbbcgemaaGreatDoor
