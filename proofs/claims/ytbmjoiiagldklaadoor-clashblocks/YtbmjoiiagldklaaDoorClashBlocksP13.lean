/- Texts of ClashBlocks, one behind the other: VerifyHanded, VerifyPeaks, VerifyClimb. -/
import Derived.Test.YtbmjoiiagldklaaDoorClashBlocksP4
import Derived.Test.YtbmjoiiagldklaaDoorClashBlocksP5
import Derived.Test.YtbmjoiiagldklaaDoorClashBlocksP7
import Derived.Test.YtbmjoiiagldklaaDoorClashBlocksP12
namespace Go.Proofs.YtbmjoiiagldklaaDoor
open Go.RowKit
set_option maxRecDepth 100000
def HAND (ss:List (Nat × Nat)) (l:List Int):Nat→Nat→Nat→List Int
  | 0=>fun _ _=>ZND
  | i+1=>MPUT (HAND ss l i) (ss.getD i (0,0)).1 (ss.getD i (0,0)).2 (HSH l i)
theorem zc6 (v:Value) (N:Nat) (hv:∃ a' c',v=.slice a' N c') (a:Option Addr) (n c:Nat) (hn:n≠N) (w:World):Calls Tryd.prog 61 #[v,.slice a n c] w fun e w'=>e=.returned (.tuple #[.map none,.int .i64 70])∧w=w':=by
  obtain ⟨a',c',rfl⟩:=hv
  have h1:¬ (n:Int)=(N:Int):=by omega
  clear hn
  go_enter Tryd.func61,Tryd.ntmps61
  go_wp2
  go_ret2
  exact ⟨rfl,rfl⟩
def zjl (w:World) (n:Nat) (M:Nat→Nat→List Int) (e:Ending) (w':World):Prop:=∃ b,e=.returned (.tuple #[.map (some b),.int .i64 0])∧SMAP w' b n M∧w.heap.size≤b∧Below w.heap.size w w'
theorem z2H {w w':World} {g o:Nat} {cs:List Value} (h:w.rangeAt g o cs) (hb:w'.heap[g]?=w.heap[g]?):w'.rangeAt g o cs:=fun j v hv=>(World.cell?_of_block (a:=⟨g,o+j,none⟩) hb).trans (h j v hv)
theorem z0v {w:World} {g:Nat} {l:List Int} {t:TypeId} (h:Has w g (z00 l).toArray t):w.rangeAt g 0 (z00 l):=fun j v hv=>by rw [Nat.zero_add,h.cell,List.getElem?_toArray];exact hv
set_option maxHeartbeats 2000000 in
theorem zdw (ss:List (Nat × Nat)) (hN:∀ s∈ss,Node s.1 s.2) (B n:Nat) (hss:ss.length=n) (hn:n≤1000) (v:Value) (a:Option Addr) (c:Nat) (l:List Int) (w:World) (hv:w.ownsRow B 22 1 v n (z0j (PLCS ss))) (hF:Flat w a n l):
    Calls Tryd.prog 61 #[v,.slice a n c] w (zjl w n (HAND ss l n)):=by
  obtain ⟨ap,cp,rfl,hap⟩:=z24 hv
  have HA:Aside ((∀ s∈ss,Node s.1 s.2)∧ss.length=n∧n≤1000∧Flat w a n l∧(0<n→∃ g,ap=some ⟨g,0,none⟩∧g<w.heap.size)∧w.ownsRow B 22 1 (.slice ap n cp) n (z0j (PLCS ss))):=⟨hN,hss,hn,hF,fun h=>by obtain ⟨g,e,h1,_⟩:=hap h;exact ⟨g,e,h1⟩,hv⟩
  have M0:Aside (SMAP (w.alloc (.map #[] 0)) w.heap.size 0 (HAND ss l 0)∧Below w.heap.size w (w.alloc (.map #[] 0))):=⟨SMAP.made w,(Below.refl _ _).alloc (Nat.le_refl _) _⟩
  have hmk:(Instr.makeMap 111 none).run Tryd.prog w=.ok (.map (some w.heap.size)) (w.alloc (.map #[] 0)):=rfl
  clear hN hss hn hF hap hv
  go_enter Tryd.func61,Tryd.ntmps61
  go_wp2_with fail
  go_loopg [19] n (fun q s19 wx=>∃ i:Nat,s19=.int .i64 (i:Int)∧Aside (i+q=n∧Below w.heap.size w wx∧SMAP wx w.heap.size i (HAND ss l i)))
  case atStart=>exact ⟨0,rfl,by omega,M0.out.2,M0.out.1⟩
  case round=>
    obtain ⟨i,rfl,A⟩:=hrel
    clear M0
    cases gk with
    | zero=>
      obtain rfl:i=n:=by have:=A.out.1;omega
      have hlt:¬ (i:Int)<(i:Int):=by omega
      have R:Aside (SMAP wr w.heap.size i (HAND ss l i)∧Below w.heap.size w wr):=⟨A.out.2.2,A.out.2.1⟩
      clear A HA
      go_wp2
      go_ret2
      exact ⟨_,rfl,R.out.1,Nat.le_refl _,R.out.2⟩
    | succ q=>
      obtain ⟨a1,a2,a3⟩:=A.out
      obtain ⟨h1,h2,h3,h4,h5,h6⟩:=HA.out
      have hlt:(i:Int)<(n:Int):=by omega
      obtain ⟨gp,rfl,hgp⟩:=h5 (by omega)
      obtain ⟨gn,o,rfl,hgn,hcn⟩:=h4.2.1 (by omega)
      obtain ⟨⟨h,k⟩,hs⟩:∃ s,ss[i]?=some s:=⟨_,List.getElem?_eq_getElem (by omega)⟩
      have hNd:Node h k:=h1 (h,k) (List.mem_of_getElem? hs)
      have hcp:wr.cell? ⟨gp,i,none⟩=some (.int .u64 ((PLC h k:Nat):Int)):=by
        refine (a2.cell (p:=⟨gp,i,none⟩) hgp).trans ?_
        rw [h6.cellAt i (by omega)]
        simp [z0j,PLCS,hs]
      have hat:=(h4.below a2).at (show i<n by omega)
      have h32:=z13 h4.1 (show i<n by omega)
      have hnx:HAND ss l (i+1)=MPUT (HAND ss l i) h k (HSH l i):=by rw [HAND,List.getD_eq_getElem?_getD,hs];rfl
      have R:Aside (i+1+q=n∧Below w.heap.size w wr∧SMAP wr w.heap.size i (HAND ss l i)∧gn<w.heap.size∧Node h k∧HAND ss l (i+1)=MPUT (HAND ss l i) h k (HSH l i)∧n≤1000∧wr.rangeAt gn (o+i*32) (z00 (HSH l i))):=⟨by omega,a2,a3,hgn,hNd,hnx,h3,hat⟩
      have cS:=z7m h k hNd wr
      have E1:Aside (wrap64 ((i:Int)+1)=((i+1:Nat):Int)):=by show wrap64 ((i:Int)+1)=((i+1:Nat):Int);unfold wrap64;omega
      clear a1 a2 a3 h1 h2 h3 h4 h5 h6 hgp hgn hcn hs hNd hat hnx A HA
      generalize PLC h k=pl at *
      go_wp2_with fail
      refine cS.mono ?_
      rintro e w1 ⟨rfl,hb1⟩
      clear cS hcp
      have hbx:Below w1.heap.size w1 (w1.alloc (.cells #[.int .u8 (h:Int),.int .u64 (k:Int)] 88)):=(Below.refl _ _).alloc (Nat.le_refl _) _
      obtain ⟨b9,hb9⟩:∃ b9,b9=w1.heap.size:=⟨_,rfl⟩
      have R2:Aside (Below w.heap.size w (w1.alloc (.cells #[.int .u8 (h:Int),.int .u64 (k:Int)] 88))∧SMAP (w1.alloc (.cells #[.int .u8 (h:Int),.int .u64 (k:Int)] 88)) w.heap.size i (HAND ss l i)∧Has (w1.alloc (.cells #[.int .u8 (h:Int),.int .u64 (k:Int)] 88)) b9 #[.int .u8 (h:Int),.int .u64 (k:Int)] 88∧(w1.alloc (.cells #[.int .u8 (h:Int),.int .u64 (k:Int)] 88)).rangeAt gn (o+i*32) (z00 (HSH l i))∧w.heap.size<b9):=by
        obtain ⟨r1,r2,r3,r4,r5,r6,r7,r8⟩:=R.out
        have t1:=r2.trans (hb1.mono r2.size)
        refine ⟨t1.trans (hbx.mono t1.size),(r3.below hb1).below hbx,by rw [hb9];exact Has.new _ _ _,?_,?_⟩
        · exact z2H (z2H r8 (hb1.block gn (by have:=r2.size;omega))) (hbx.block gn (by have:=t1.size;omega))
        · rw [hb9]
          exact (r3.below hb1).lt
      go_upto_region 8 with fail
      rw [← hb9]
      clear hb1 hbx hb9
      generalize w1.alloc (.cells #[.int .u8 (h:Int),.int .u64 (k:Int)] 88)=w2 at *
      refine z8x _ _ _ _ _ _ _ _ _ _ _ _ _ _ _ _ _ _ _ _ _ _ _ _ _ _ _ _ _ _ _ _ _ _ w.heap.size b9 gn o n c i h k (HSH l i) h32 hlt (fun W=>Below w.heap.size w W∧SMAP W w.heap.size i (HAND ss l i)∧Has W b9 #[.int .u8 (h:Int),.int .u64 (k:Int)] 88∧W.rangeAt gn (o+i*32) (z00 (HSH l i))) (fun W=>Below w.heap.size w W∧SMAP W w.heap.size (i+1) (HAND ss l (i+1))∧Has W b9 #[.int .u8 (h:Int),.int .u64 (k:Int)] 88∧W.rangeAt gn (o+i*32) (z00 (HSH l i)))
        (fun W ⟨_,_,p,q⟩=>⟨p.cell 0,p.cell 1,q⟩) (fun W ⟨_,_,p,q⟩=>⟨p.cell 0,p.cell 1,q⟩) ?_ ⟨R2.out.1.drew,R2.out.2.1.at rfl,R2.out.2.2.1,z2H R2.out.2.2.2.1 rfl⟩ (fun _ _ _ _ _ h=>h) ?_
      · rintro W ⟨p1,p2,p3,p4⟩
        obtain ⟨r1,r2,r3,r4,r5,r6,r7,r8⟩:=R.out
        obtain ⟨w',q1,q2,q3⟩:=p2.store (h:=h) (k:=k) (by omega) (by have:=r5.1;omega) (by have:=r5.index_lt;omega) (HSH l i)
        have hb9':=R2.out.2.2.2.2
        refine ⟨w',q1,p1.grown q3 p1.size (fun k e=>by cases e;exact Nat.le_refl _),by rw [r6];exact q2,(q3.block b9 p3.lt (by simp;omega)).trans p3,z2H p4 (q3.block gn (by have:=p1.size;omega) (by simp;omega))⟩
      · rintro W ⟨p1,p2,p3,p4⟩
        have Z:Aside (i+1+q=n∧Below w.heap.size w W∧SMAP W w.heap.size (i+1) (HAND ss l (i+1))):=⟨R.out.1,p1,p2⟩
        clear p1 p2 p3 p4 R R2 h32
        have e1:=E1.out
        go_wp2
        go_roundg q
        case measure=>exact Nat.lt_succ_self _
        case rel=>exact ⟨i+1,by first | rfl | (rw [E1.out]),Z.out⟩
set_option maxHeartbeats 2000000 in
theorem zg7 (mb n h h1 k:Nat) (d:Int) (M:Nat→Nat→List Int) (hh:h=h1+1) (hh2:h<200) (hk:2*k+1<2 ^ 64) (hn:n≤10000) (w:World) (hM:SMAP w mb n M) (hL:IsH (M h1 (2*k))) (hR:IsH (M h1 (2*k+1))) (hT:HX.Tabled w) (hmb:2<mb):
    Calls Tryd.prog 63 #[.map (some mb),.int .i64 d,.agg #[.int .u8 (h:Int),.int .u64 (k:Int)]] w fun e w'=>e=.returned (.tuple #[])∧SMAP w' mb (n+1) (MPUT M h k (z0F d (M h1 (2*k)) (M h1 (2*k+1))))∧w.grownBy w' (some mb):=by
  obtain ⟨L,hLe⟩:∃ L,M h1 (2*k)=L:=⟨_,rfl⟩
  obtain ⟨R,hRe⟩:∃ R,M h1 (2*k+1)=R:=⟨_,rfl⟩
  rw [hLe] at hL ⊢
  rw [hRe] at hR ⊢
  obtain ⟨k2,hk2⟩:∃ k2,2*k=k2:=⟨_,rfl⟩
  obtain ⟨k3,hk3⟩:∃ k3,k2+1=k3:=⟨_,rfl⟩
  have e1:IntKind.u8.wrap ((h:Int) - 1)=(h1:Int):=by simp [IntKind.wrap,IntKind.bits,IntKind.signed];omega
  have e2:IntKind.u64.wrap (2*(k:Int))=(k2:Int):=by rw [z0z];omega
  have e3:IntKind.u64.wrap ((k2:Int)+1)=(k3:Int):=by rw [z0z];omega
  have HA:Aside (h<200∧h1<200∧(k2<2 ^ 64∧k3<2 ^ 64)∧k<2 ^ 64∧n≤10000∧SMAP w mb n M∧M h1 k2=L∧M h1 k3=R∧IsH L∧IsH R∧HX.Tabled w∧2<mb):=⟨hh2,by omega,by omega,by omega,hn,hM,by rw [← hk2];exact hLe,by rw [← hk3,← hk2];exact hRe,hL,hR,hT,hmb⟩
  have l32:L.length=32:=hL.1
  have r32:R.length=32:=hR.1
  have LK:Aside (∀ W,Below w.heap.size w W→(Instr.lookup 111 (.map (some mb)) (.agg #[.int .u8 (h1:Int),.int .u64 (k2:Int)]) false).run Tryd.prog W=.ok (.agg (z00 L).toArray) W∧(Instr.lookup 111 (.map (some mb)) (.agg #[.int .u8 (h1:Int),.int .u64 (k3:Int)]) false).run Tryd.prog W=.ok (.agg (z00 R).toArray) W):=fun W hb=>by
    have h1':=(HA.out.2.2.2.2.2.1.below hb).look (h:=h1) (k:=k2) (by have:=HA.out;omega) (by have:=HA.out;omega)
    have h2':=(HA.out.2.2.2.2.2.1.below hb).look (h:=h1) (k:=k3) (by have:=HA.out;omega) (by have:=HA.out;omega)
    rw [HA.out.2.2.2.2.2.2.1] at h1'
    rw [HA.out.2.2.2.2.2.2.2.1] at h2'
    exact ⟨h1',h2'⟩
  clear hh hh2 hk hn hM hLe hRe hk2 hk3 hL hR hT hmb
  go_enter Tryd.func63,Tryd.ntmps63
  go_upto_region 1 with fail
  obtain ⟨b5,hb5⟩:∃ b5,b5=w.heap.size:=⟨_,rfl⟩
  have R1:Aside (Below w.heap.size w (w.alloc (.cells #[.int .u8 (h:Int),.int .u64 (k:Int)] 88))∧Has (w.alloc (.cells #[.int .u8 (h:Int),.int .u64 (k:Int)] 88)) b5 #[.int .u8 (h:Int),.int .u64 (k:Int)] 88∧w.heap.size≤b5):=⟨(Below.refl _ _).alloc (Nat.le_refl _) _,by rw [hb5];exact Has.new _ _ _,by rw [hb5];exact Nat.le_refl _⟩
  rw [← hb5]
  clear hb5
  generalize w.alloc (.cells #[.int .u8 (h:Int),.int .u64 (k:Int)] 88)=W1 at *
  have lk1:=(LK.out _ R1.out.1).1
  have hz0:W1.cell? ⟨b5,0,none⟩=some (.int .u8 (h:Int)):=R1.out.2.1.cell 0
  have hz1:W1.cell? ⟨b5,1,none⟩=some (.int .u64 (k:Int)):=R1.out.2.1.cell 1
  go_upto_region 2 with (refine wpList_store_row rfl 26 (.tmp 6) (.tmp 16) rfl _ _ rfl rfl 26 _ (Has.new W1 _ _) (z08 l32) (by simp [z00,l32]) (z0G L) ?_;rw [World.setRow_alloc_new])
  obtain ⟨b6,hb6⟩:∃ b6,b6=W1.heap.size:=⟨_,rfl⟩
  have R2:Aside (Below w.heap.size w (W1.alloc (.cells (z00 L).toArray 26))∧Has (W1.alloc (.cells (z00 L).toArray 26)) b5 #[.int .u8 (h:Int),.int .u64 (k:Int)] 88∧w.heap.size≤b5∧Has (W1.alloc (.cells (z00 L).toArray 26)) b6 (z00 L).toArray 26∧w.heap.size≤b6):=⟨R1.out.1.alloc R1.out.1.size _,R1.out.2.1.alloc _,R1.out.2.2,by rw [hb6];exact Has.new _ _ _,by rw [hb6];exact R1.out.1.size⟩
  rw [← hb6]
  clear hb6 lk1 hz0 hz1 R1
  generalize W1.alloc (.cells (z00 L).toArray 26)=W2 at *
  have lk2:=(LK.out _ R2.out.1).2
  have hz0:W2.cell? ⟨b5,0,none⟩=some (.int .u8 (h:Int)):=R2.out.2.1.cell 0
  have hz1:W2.cell? ⟨b5,1,none⟩=some (.int .u64 (k:Int)):=R2.out.2.1.cell 1
  go_upto_region 3 with (refine wpList_store_row rfl 26 (.tmp 7) (.tmp 26) rfl _ _ rfl rfl 26 _ (Has.new W2 _ _) (z08 r32) (by simp [z00,r32]) (z0G R) ?_;rw [World.setRow_alloc_new])
  obtain ⟨b7,hb7⟩:∃ b7,b7=W2.heap.size:=⟨_,rfl⟩
  have R3:Aside (Below w.heap.size w (W2.alloc (.cells (z00 R).toArray 26))∧Has (W2.alloc (.cells (z00 R).toArray 26)) b5 #[.int .u8 (h:Int),.int .u64 (k:Int)] 88∧w.heap.size≤b5∧Has (W2.alloc (.cells (z00 R).toArray 26)) b6 (z00 L).toArray 26∧w.heap.size≤b6∧Has (W2.alloc (.cells (z00 R).toArray 26)) b7 (z00 R).toArray 26∧w.heap.size≤b7):=⟨R2.out.1.alloc R2.out.1.size _,R2.out.2.1.alloc _,R2.out.2.2.1,R2.out.2.2.2.1.alloc _,R2.out.2.2.2.2,by rw [hb7];exact Has.new _ _ _,by rw [hb7];exact R2.out.1.size⟩
  rw [← hb7]
  clear hb7 lk2 hz0 hz1 R2
  generalize W2.alloc (.cells (z00 R).toArray 26)=W3 at *
  refine zad _ _ _ _ _ _ _ _ _ _ _ _ _ _ _ _ _ _ _ _ _ _ _ _ _ _ _ _ _ mb b5 b6 b7 h k d L R l32 r32 (fun W=>Below w.heap.size w W∧Has W b5 #[.int .u8 (h:Int),.int .u64 (k:Int)] 88∧Has W b6 (z00 L).toArray 26∧Has W b7 (z00 R).toArray 26) (fun X W=>X=.agg (z00 (z0F d L R)).toArray∧Below w.heap.size w W∧Has W b5 #[.int .u8 (h:Int),.int .u64 (k:Int)] 88∧Has W b6 (z00 L).toArray 26∧Has W b7 (z00 R).toArray 26) (fun _ W=>SMAP W mb (n+1) (MPUT M h k (z0F d L R))∧w.grownBy W (some mb)∧Has W b5 #[.int .u8 (h:Int),.int .u64 (k:Int)] 88∧Has W b6 (z00 L).toArray 26∧Has W b7 (z00 R).toArray 26)
    (fun W ⟨_,p,q,r⟩=>⟨p.cell 0,p.cell 1,z0v q,z0v r⟩) (fun X W ⟨_,_,p,q,r⟩=>⟨p.cell 0,p.cell 1,z0v q,z0v r⟩) (fun X W ⟨_,_,p,q,r⟩=>⟨p.cell 0,p.cell 1,z0v q,z0v r⟩) ?_ ?_ ⟨R3.out.1.drew,R3.out.2.1,R3.out.2.2.2.1,R3.out.2.2.2.2.2.1⟩ (fun _ _ _ _ _ h=>h) ?_
  · rintro W ⟨p1,p2,p3,p4⟩
    obtain ⟨a1,a2,a3,a4,a5,a6,a7,a8,a9,a10,a11,a12⟩:=HA.out
    refine (zf8 d L R a9 a10 W (a11.below p1)).mono ?_
    rintro e w' ⟨rfl,hb⟩
    exact ⟨_,rfl,rfl,p1.trans (hb.mono p1.size),p2.keep hb,p3.keep hb,p4.keep hb⟩
  · rintro X W ⟨rfl,p1,p2,p3,p4⟩
    obtain ⟨a1,a2,a3,a4,a5,a6,a7,a8,a9,a10,a11,a12⟩:=HA.out
    have hml:=a6.lt
    have r:=R3.out
    obtain ⟨w',q1,q2,q3⟩:=(a6.below p1).store (h:=h) (k:=k) (by omega) (by omega) a4 (z0F d L R)
    refine ⟨w',q1,q2,⟨q3.os.trans p1.os,q3.tape.trans p1.tape,q3.output.trans p1.output,Nat.le_trans p1.size q3.size,fun j hj hne=>(q3.block j (by have:=p1.size;omega) hne).trans (p1.block j hj)⟩,(q3.block b5 p2.lt (by simp;omega)).trans p2,(q3.block b6 p3.lt (by simp;omega)).trans p3,(q3.block b7 p4.lt (by simp;omega)).trans p4⟩
  · rintro X W ⟨p1,p2,p3,p4,p5⟩
    have Z:Aside (SMAP W mb (n+1) (MPUT M h k (z0F d L R))∧w.grownBy W (some mb)):=⟨p1,p2⟩
    clear p1 p2 p3 p4 p5 R3 LK HA
    go_wp2
    exact bodyPost_end (v:=.tuple #[]) (by simp [results,Tryd.f63]) rfl ⟨rfl,Z.out⟩
end Go.Proofs.YtbmjoiiagldklaaDoor

namespace Go.Proofs.YtbmjoiiagldklaaDoor
open Go.RowKit
set_option maxRecDepth 100000
def CAT (M:Nat→Nat→List Int) (ss:List (Nat × Nat)):List Int:=ss.flatMap fun s=>M s.1 s.2
theorem zfb {M:Nat→Nat→List Int} {ss:List (Nat × Nat)} {i h k:Nat} (hs:ss[i]?=some (h,k)):CAT M (ss.take (i+1))=CAT M (ss.take i) ++ M h k:=by
  rw [List.take_add_one,hs]
  simp [CAT]
set_option maxHeartbeats 2000000 in
theorem zdx (mb N n:Nat) (hn:n≤4611686018427387904) (M:Nat→Nat→List Int) (w:World) (hM:SMAP w mb N M) (hH:∀ s∈SPAN 0 n,(M s.1 s.2).length=32) (hT:Tabled w) (h0:0<w.heap.size):
    Calls Tryd.prog 64 #[.map (some mb),.int .u64 (n:Int)] w fun e w'=>∃ a c,e=.returned (.slice a (PC n) c)∧w'.ownsRow w.heap.size 26 32 (.slice a (PC n) c) (PC n) (z00 (CAT M (SPAN 0 n)))∧Below w.heap.size w w':=by
  have cP:=z8U n hn w hT h0
  have hpl:=z3h hn
  have hlen:(SPAN 0 n).length=PC n:=by
    have:=z2P (n:=n) (by omega)
    rw [hpl] at this
    simpa [PLCS] using this
  have hnd:∀ i h k,(SPAN 0 n)[i]?=some (h,k)→Node h k:=fun i h k e=>(z7X hn (Nat.zero_le n)).node e
  have hpc:PC n≤64:=z21 64 n (by omega)
  rw [hpl] at cP
  generalize SPAN 0 n=ss at *
  generalize PC n=m at *
  have HA:Aside (ss.length=m∧m≤64∧(∀ i h k,ss[i]?=some (h,k)→Node h k)∧(∀ s∈ss,(M s.1 s.2).length=32)∧SMAP w mb N M):=⟨hlen,hpc,hnd,hH,hM⟩
  clear hlen hpc hnd hH hM hpl hT h0 hn
  go_enter Tryd.func64,Tryd.ntmps64
  go_wp2_with fail
  refine cP.mono ?_
  rintro e w1 ⟨gp,cp,rfl,hrow,hb⟩
  clear cP
  obtain ⟨cur,hcs,hmk⟩:=zbR m (by have:=HA.out;omega) w1
  have hgp:=(hrow.lt gp rfl).2
  have R0:Aside ((w1.alloc (.cells cur 26)).ownsRow w.heap.size 26 32 (.slice (some ⟨w1.heap.size,0,none⟩) 0 m) 0 (z00 (CAT M (ss.take 0)))∧Below w.heap.size w (w1.alloc (.cells cur 26))∧(∀ i,i<m→(w1.alloc (.cells cur 26)).cell? ⟨gp,i,none⟩=(z0j (PLCS ss))[i]?)∧gp<(w1.alloc (.cells cur 26)).heap.size∧gp≠w1.heap.size∧w1.heap.size<(w1.alloc (.cells cur 26)).heap.size):=by
    refine ⟨z18 (World.ownsRow_made w1 cur m (Nat.le_refl _) (by simp [maxLen];have:=HA.out;omega) hcs) hb.size,hb.alloc hb.size _,fun i hi=>?_,by simp;omega,by omega,by simp⟩
    have hbx:Below w1.heap.size w1 (w1.alloc (.cells cur 26)):=(Below.refl _ _).alloc (Nat.le_refl _) _
    exact (hbx.cell (p:=⟨gp,i,none⟩) hgp).trans (hrow.cellAt i (by omega))
  clear hrow hb hcs hgp
  go_wp2_with fail
  obtain ⟨gl,hgl⟩:∃ gl,gl=w1.heap.size:=⟨_,rfl⟩
  rw [← hgl] at R0 ⊢
  clear hgl hmk
  generalize w1.alloc (.cells cur 26)=w2 at *
  go_loopg [6,18] m (fun q s6 s18 wx=>∃ i:Nat,s18=.int .i64 (i:Int)∧Aside (i+q=m∧wx.ownsRow w.heap.size 26 32 s6 i (z00 (CAT M (ss.take i)))∧Below w.heap.size w wx∧(∀ i,i<m→wx.cell? ⟨gp,i,none⟩=(z0j (PLCS ss))[i]?)∧gp<wx.heap.size∧s6.ownBlock≠some gp))
  case atStart=>exact ⟨0,rfl,by omega,R0.out.1,R0.out.2.1,R0.out.2.2.1,R0.out.2.2.2.1,fun e=>R0.out.2.2.2.2.1 (by simpa [Value.ownBlock] using e.symm)⟩
  case round=>
    obtain ⟨i,rfl,A⟩:=hrel
    clear R0
    cases gk with
    | zero=>
      obtain rfl:i=m:=by have:=A.out.1;omega
      have hlt:¬ (i:Int)<(i:Int):=by omega
      have R:Aside (∃ a c,u6=.slice a i c∧wr.ownsRow w.heap.size 26 32 (.slice a i c) i (z00 (CAT M ss))∧Below w.heap.size w wr):=by
        obtain ⟨_,h1,h2,_⟩:=A.out
        rw [List.take_of_length_le (by have:=HA.out;omega)] at h1
        obtain ⟨a,c,rfl,_⟩:=zc5 h1
        exact ⟨a,c,rfl,h1,h2⟩
      clear A HA
      go_wp2
      go_ret
      obtain ⟨a,c,e,h1,h2⟩:=R.out
      exact ⟨a,c,by rw [e];rfl,h1,h2⟩
    | succ q=>
      obtain ⟨a1,a2,a3,a4,a5,a6⟩:=A.out
      obtain ⟨h1,h2,h3,h4,h5⟩:=HA.out
      have hlt:(i:Int)<(m:Int):=by omega
      obtain ⟨⟨h,k⟩,hs⟩:∃ s,ss[i]?=some s:=⟨_,List.getElem?_eq_getElem (by omega)⟩
      have hN:=h3 i h k hs
      have hc:wr.cell? ⟨gp,i,none⟩=some (.int .u64 ((PLC h k:Nat):Int)):=by rw [a4 i (by omega)];simp [z0j,PLCS,hs]
      have cS:=z7m h k hN wr
      have h32:(M h k).length=32:=h4 (h,k) (List.mem_of_getElem? hs)
      have R:Aside (i+1+q=m∧wr.ownsRow w.heap.size 26 32 u6 i (z00 (CAT M (ss.take i)))∧Below w.heap.size w wr∧(∀ i,i<m→wr.cell? ⟨gp,i,none⟩=(z0j (PLCS ss))[i]?)∧gp<wr.heap.size∧u6.ownBlock≠some gp∧CAT M (ss.take (i+1))=CAT M (ss.take i) ++ M h k∧m≤64∧Node h k∧SMAP w mb N M):=⟨by omega,a2,a3,a4,a5,a6,zfb hs,h2,hN,h5⟩
      have E1:Aside (wrap64 ((i:Int)+1)=((i+1:Nat):Int)):=by show wrap64 ((i:Int)+1)=((i+1:Nat):Int);unfold wrap64;omega
      clear a1 a2 a3 a4 a5 a6 h1 h2 h3 h4 h5 hs hN A HA
      generalize PLC h k=pl at *
      go_wp2_with fail
      refine cS.mono ?_
      rintro e w3 ⟨rfl,hb3⟩
      clear cS hc
      have R3:Aside (w3.ownsRow w.heap.size 26 32 u6 i (z00 (CAT M (ss.take i)))∧Below w.heap.size w w3∧(∀ i,i<m→w3.cell? ⟨gp,i,none⟩=(z0j (PLCS ss))[i]?)∧gp<w3.heap.size):=⟨z33 R.out.2.1 hb3,R.out.2.2.1.trans (hb3.mono R.out.2.2.1.size),fun i hi=>(hb3.cell (p:=⟨gp,i,none⟩) R.out.2.2.2.2.1).trans (R.out.2.2.2.1 i hi),Nat.lt_of_lt_of_le R.out.2.2.2.2.1 hb3.size⟩
      clear hb3
      have lk:(Instr.lookup 111 (.map (some mb)) (.agg #[.int .u8 (h:Int),.int .u64 (k:Int)]) false).run Tryd.prog (w3.alloc (.cells #[.int .u8 (h:Int),.int .u64 (k:Int)] 88))=.ok (.agg (z00 (M h k)).toArray) (w3.alloc (.cells #[.int .u8 (h:Int),.int .u64 (k:Int)] 88)):=by
        have hb4:=R3.out.2.1.alloc (o:=.cells #[.int .u8 (h:Int),.int .u64 (k:Int)] 88) R3.out.2.1.size
        obtain ⟨_,_,_,_,_,_,_,_,r9,r10⟩:=R.out
        exact (r10.below hb4).look (by have:=r9.1;omega) (by have:=r9.index_lt;omega)
      generalize M h k=H at *
      go_wp2_with (first
        | (refine z81 _ rfl 23 26 (.tmp 30) rfl (z00 H).toArray rfl 32 _ _ Tryd.underlying23 z6J (by simp [z00,h32]) rfl (by decide) (by decide) ?_)
        | (at_builtin;refine zeU _ rfl (.tmp 27) (.tmp 31) rfl w.heap.size u6 i _ rfl ((R3.out.1.alloc _).alloc _) _ 1 H h32 rfl (Has.new _ _ _) (by have:=R.out;omega) (by have:=R3.out.2.1.size;simp;omega) ?_;intro g4 c4 w4 hown hgrow hat hg))
      have Z:Aside (i+1+q=m∧w4.ownsRow w.heap.size 26 32 (.slice (some ⟨g4,0,none⟩) (i+1) c4) (i+1) (z00 (CAT M (ss.take (i+1))))∧Below w.heap.size w w4∧(∀ i,i<m→w4.cell? ⟨gp,i,none⟩=(z0j (PLCS ss))[i]?)∧gp<w4.heap.size∧(Value.slice (some ⟨g4,0,none⟩) (i+1) c4).ownBlock≠some gp):=by
        obtain ⟨r1,r2,r3,r4,r5,r6,r7,r8,r9,r10⟩:=R.out
        obtain ⟨t1,t2,t3,t4⟩:=R3.out
        have hsz:=zbP hgrow
        simp at hsz
        refine ⟨r1,by rw [r7,z1k];exact hown,((t2.alloc t2.size _).alloc (by have:=t2.size;simp;omega) _).grown hgrow (by have:=t2.size;simp;omega) (fun k e=>(t1.lt k e).1),fun j hj=>?_,by omega,fun e=>?_⟩
        · rw [← t3 j hj]
          have hbx:Below w3.heap.size w3 ((w3.alloc (.cells #[.int .u8 (h:Int),.int .u64 (k:Int)] 88)).alloc (.cells (z00 H).toArray 26)):=((Below.refl _ _).alloc (Nat.le_refl _) _).alloc (by simp) _
          exact (World.cell?_of_block (a:=⟨gp,j,none⟩) (hgrow.block gp (by simp;omega) fun e=>r6 e.symm)).trans (hbx.cell (p:=⟨gp,j,none⟩) t4)
        · have e:g4=gp:=by simpa [Value.ownBlock] using e
          rcases hat with h' | h'
          · exact r6 (by rw [h',e])
          · simp at h'
            omega
      clear hown hgrow hat hg R R3 lk h32
      have e1:=E1.out
      go_wp2
      go_roundg q
      case measure=>exact Nat.lt_succ_self _
      case rel=>exact ⟨i+1,by first | rfl | (rw [E1.out]),Z.out⟩
end Go.Proofs.YtbmjoiiagldklaaDoor

namespace Go.Proofs.YtbmjoiiagldklaaDoor
open Go.RowKit
set_option maxRecDepth 100000
def JN (d:Int) (I:Nat) (M:Nat→Nat→List Int):Nat→Nat→Nat→List Int
  | 0=>M
  | t+1=>MPUT (JN d I M t) (t+1) (I / 2 ^ (t+1)) (z0F d (JN d I M t t (2*(I / 2 ^ (t+1)))) (JN d I M t t (2*(I / 2 ^ (t+1))+1)))
def CLM (d:Int) (leaf:List Int) (S I:Nat) (l:List Int):Nat→Nat→List Int:=JN d I (MPUT (HAND (PSP I S) l (PSP I S).length) 0 I leaf) (RISE I S)
def CLA (d:Int) (leaf:List Int) (S I n:Nat) (l:List Int):Int × Nat × List Int:=if (PLA I S).1≠0 then ((PLA I S).1,0,[]) else if n≠(PLA I S).2.length then (70,0,[]) else (0,PC S,CAT (CLM d leaf S I l) (SPAN 0 S))
theorem z5o:IsH ZND:=⟨rfl,fun x hx=>by
  have:x=0:=by simpa [ZND] using hx
  omega⟩
theorem z3v {M:Nat→Nat→List Int} (h:∀ a b,IsH (M a b)) {x:List Int} (hx:IsH x) (p q a b:Nat):IsH (MPUT M p q x a b):=by
  unfold MPUT
  split
  · exact hx
  · exact h a b
theorem z1N {l:List Int} {n i:Nat} (hl:l.length=32*n) (hr:∀ x∈l,0≤x∧x≤255) (hi:i<n):IsH (HSH l i):=⟨z13 hl hi,fun x hx=>hr x (zfX hx)⟩
theorem z5F {ss:List (Nat × Nat)} {l:List Int} {n:Nat} (hl:l.length=32*n) (hr:∀ x∈l,0≤x∧x≤255):∀ i,i≤n→∀ a b,IsH (HAND ss l i a b)
  | 0,_,_,_=>z5o
  | i+1,h,a,b=>z3v (z5F hl hr i (by omega)) (z1N hl hr (by omega)) _ _ a b
theorem z6R {d:Int} {I:Nat} {M:Nat→Nat→List Int} (h:∀ a b,IsH (M a b)):∀ t a b,IsH (JN d I M t a b)
  | 0,a,b=>h a b
  | t+1,a,b=>z3v (z6R h t) (z2U _ _ _) _ _ a b
set_option maxHeartbeats 4000000 in
theorem zc7 (d:Int) (leaf:List Int) (hleaf:IsH leaf) (S I:Nat) (hIS:I<S) (hS:S≤4611686018427387904) (a:Option Addr) (n c:Nat) (hn:n=(PSP I S).length) (l:List Int) (w:World) (hF:Flat w a n l) (hT:Tabled w) (hX:HX.Tabled w) (h0:2<w.heap.size):
    Calls Tryd.prog 29 #[.int .i64 d,.agg (z00 leaf).toArray,.agg #[.int .u64 (S:Int),.int .u64 (I:Int),.slice a n c]] w fun e w'=>∃ a c,e=.returned (.tuple #[.slice a (PC S) c,.int .i64 0])∧w'.ownsRow w.heap.size 26 32 (.slice a (PC S) c) (PC S) (z00 (CAT (CLM d leaf S I l) (SPAN 0 S)))∧Below w.heap.size w w':=by
  have l32:=hleaf.1
  have HA:Aside (IsH leaf∧I<S∧S≤4611686018427387904∧n=(PSP I S).length∧Flat w a n l∧Tabled w∧HX.Tabled w∧2<w.heap.size):=⟨hleaf,hIS,hS,hn,hF,hT,hX,h0⟩
  clear hleaf hIS hS hn hF hT hX h0
  go_enter Tryd.func29,Tryd.ntmps29
  go_upto_region 1 with fail
  obtain ⟨b4,hb4⟩:∃ b4,b4=w.heap.size:=⟨_,rfl⟩
  have R0:Aside (Below w.heap.size w ((w.alloc (.cells (z00 leaf).toArray 26)).alloc (.cells #[.int .u64 (S:Int),.int .u64 (I:Int),.slice a n c] 66))∧Has ((w.alloc (.cells (z00 leaf).toArray 26)).alloc (.cells #[.int .u64 (S:Int),.int .u64 (I:Int),.slice a n c] 66)) b4 (z00 leaf).toArray 26∧Has ((w.alloc (.cells (z00 leaf).toArray 26)).alloc (.cells #[.int .u64 (S:Int),.int .u64 (I:Int),.slice a n c] 66)) (b4+1) #[.int .u64 (S:Int),.int .u64 (I:Int),.slice a n c] 66):=by
    rw [hb4]
    exact ⟨((Below.refl _ _).alloc (Nat.le_refl _) _).alloc (by simp) _,(Has.new _ _ _).alloc _,Has.at _ _ _ (by simp)⟩
  rw [← hb4]
  generalize (w.alloc (.cells (z00 leaf).toArray 26)).alloc (.cells #[.int .u64 (S:Int),.int .u64 (I:Int),.slice a n c] 66)=W0 at *
  have HT:Aside (∀ W,Below w.heap.size w W→Tabled W∧HX.Tabled W∧0<W.heap.size∧Flat W a n l∧2<W.heap.size):=fun W h=>by
    obtain ⟨a1,a2,a3,a4,a5,a6,a7,a8⟩:=HA.out
    have hs:=h.size
    exact ⟨a6.below (by omega) h,a7.below h,by omega,a5.below h,by omega⟩
  have HB:Aside (b4=w.heap.size):=hb4
  clear hb4
  have hPL:PLA I S=(0,PLCS (PSP I S)):=by
    obtain ⟨a1,a2,a3,a4,a5,a6,a7,a8⟩:=HA.out
    unfold PLA
    rw [if_neg (by omega),if_neg (by omega)]
  have y0:W0.cell? ⟨b4+1,0,none⟩=some (.int .u64 (S:Int)):=R0.out.2.2.cell 0
  have y1:W0.cell? ⟨b4+1,1,none⟩=some (.int .u64 (I:Int)):=R0.out.2.2.cell 1
  go_wp2_with fail
  have cP:=z6I I S W0 (HT.out _ R0.out.1).1 (HT.out _ R0.out.1).2.2.1
  rw [hPL] at cP
  refine cP.mono ?_
  clear cP y0 y1 hPL
  rintro e w1 ⟨v,rfl,hrow,hb⟩
  dsimp only at *
  have hnl:(PLCS (PSP I S)).length=n:=by have:=HA.out.2.2.2.1;rw [z1x,this]
  rw [hnl] at hrow
  obtain ⟨av,cv,rfl, -⟩:=z24 hrow
  have R1:Aside (Below w.heap.size w w1∧Has w1 b4 (z00 leaf).toArray 26∧Has w1 (b4+1) #[.int .u64 (S:Int),.int .u64 (I:Int),.slice a n c] 66∧w1.ownsRow W0.heap.size 22 1 (.slice av n cv) n (z0j (PLCS (PSP I S)))):=⟨R0.out.1.trans (hb.mono R0.out.1.size),R0.out.2.1.keep hb,R0.out.2.2.keep hb,hrow⟩
  clear hrow hb R0 hnl
  have y2:w1.cell? ⟨b4+1,2,none⟩=some (.slice a n c):=R1.out.2.2.1.cell 2
  go_wp2_with fail
  have hfew:n≤126:=by obtain ⟨a1,a2,a3,a4,_⟩:=HA.out;have:=zaT a2 a3;omega
  have hnd:∀ s∈PSP I S,Node s.1 s.2:=by
    obtain ⟨a1,a2,a3,a4,_⟩:=HA.out
    exact fun s hs=>((z4O a2 a3).1 s hs).1
  refine (zdw (PSP I S) hnd W0.heap.size n HA.out.2.2.2.1.symm (by omega) (.slice av n cv) a c l w1 R1.out.2.2.2 (HT.out _ R1.out.1).2.2.2.1).mono ?_
  clear y2 hnd
  rintro e w2 ⟨mb,rfl,hM,hmb,hb⟩
  obtain ⟨M1,hM1⟩:∃ M1,M1=MPUT (HAND (PSP I S) l n) 0 I leaf:=⟨_,rfl⟩
  have hIsM:∀ p q,IsH (M1 p q):=by
    rw [hM1]
    have hF:=(HT.out _ R1.out.1).2.2.2.1
    exact z3v (z5F hF.1 hF.2.2 n (Nat.le_refl _)) HA.out.1 0 I
  obtain ⟨w3,st1,st2,st3⟩:=hM.store (h:=0) (k:=I) (by omega) (by decide) (by have:=HA.out;omega) leaf
  rw [← hM1] at st2
  have st1:(Instr.mapUpdate 111 (.map (some mb)) (.agg #[.int .u8 0,.int .u64 (I:Int)]) (.agg (z00 leaf).toArray)).run Tryd.prog w2=.ok () w3:=st1
  have R2:Aside (Below w.heap.size w w2∧Has w2 b4 (z00 leaf).toArray 26∧Has w2 (b4+1) #[.int .u64 (S:Int),.int .u64 (I:Int),.slice a n c] 66∧b4+1<mb):=⟨R1.out.1.trans (hb.mono R1.out.1.size),R1.out.2.1.keep hb,R1.out.2.2.1.keep hb,by have:=R1.out.2.2.1.lt;omega⟩
  have R3:Aside (Below w.heap.size w w3∧Has w3 (b4+1) #[.int .u64 (S:Int),.int .u64 (I:Int),.slice a n c] 66∧SMAP w3 mb (n+1) M1∧(∀ p q,IsH (M1 p q))∧b4+1<mb∧M1=MPUT (HAND (PSP I S) l n) 0 I leaf):=⟨R2.out.1.grown st3 R2.out.1.size (fun k e=>by cases e;have:=R2.out.2.2.2;have:=HB.out;omega),R2.out.2.2.1.grown st3 (by have:=R2.out.2.2.2;simp;omega),st2,hIsM,R2.out.2.2.2,hM1⟩
  have y1:w2.cell? ⟨b4+1,1,none⟩=some (.int .u64 (I:Int)):=R2.out.2.2.1.cell 1
  have hH4:=R2.out.2.1
  have z0:w3.cell? ⟨b4+1,0,none⟩=some (.int .u64 (S:Int)):=R3.out.2.1.cell 0
  have z1:w3.cell? ⟨b4+1,1,none⟩=some (.int .u64 (I:Int)):=R3.out.2.1.cell 1
  clear hM hmb hb R1 hM1 hIsM st2 st3 R2
  go_wp2_with (refine wpList_load_row rfl 26 (.tmp 4) rfl b4 rfl 26 (z00 leaf).toArray (0,0) _ hH4 Tryd.underlying26 rfl (z08 l32) ?_)
  refine (z7o I S HA.out.2.1 HA.out.2.2.1 w3).mono ?_
  clear st1 y1 hH4 z0 z1
  rintro e w4 ⟨gp,cp,rfl,hrow,hg,hb⟩
  have hrise:RISE I S≤62:=(z0Y HA.out.2.1 HA.out.2.2.1).2.1
  obtain ⟨T,hTT⟩:∃ T,RISE I S=T:=⟨_,rfl⟩
  rw [hTT] at hrise ⊢
  have R4:Aside (Below w.heap.size w w4∧Has w4 (b4+1) #[.int .u64 (S:Int),.int .u64 (I:Int),.slice a n c] 66∧SMAP w4 mb (n+1+0) (JN d I M1 0)):=⟨R3.out.1.trans (hb.mono R3.out.1.size),R3.out.2.1.keep hb,R3.out.2.2.1.below hb⟩
  have KK:Aside ((∀ p q,IsH (M1 p q))∧b4+1<mb∧M1=MPUT (HAND (PSP I S) l n) 0 I leaf∧RISE I S=T∧T≤62∧n≤126∧2<mb):=⟨R3.out.2.2.2.1,R3.out.2.2.2.2.1,R3.out.2.2.2.2.2,hTT,hrise,hfew,by have h1:=HA.out;have h2:=HB.out;have h3:=R3.out.2.2.2.2.1;omega⟩
  clear hrow hg hb R3 hfew hTT hrise
  go_wp2_with fail
  go_loopg [51] T (fun q s51 wx=>∃ t:Nat,s51=.int .i64 (t:Int)∧Aside (t+q=T∧Below w.heap.size w wx∧Has wx (b4+1) #[.int .u64 (S:Int),.int .u64 (I:Int),.slice a n c] 66∧SMAP wx mb (n+1+t) (JN d I M1 t)))
  case atStart=>exact ⟨0,rfl,by omega,R4.out⟩
  case round=>
    obtain ⟨t,rfl,A⟩:=hrel
    clear R4
    cases gk with
    | zero=>
      obtain rfl:t=T:=by have:=A.out.1;omega
      have hlt:¬ (t:Int)<(t:Int):=by omega
      have z0:wr.cell? ⟨b4+1,0,none⟩=some (.int .u64 (S:Int)):=A.out.2.2.1.cell 0
      go_wp2_with fail
      have hH:=HT.out _ A.out.2.1
      have hIs:∀ p q,IsH (JN d I M1 t p q):=z6R KK.out.1 t
      refine (zdx mb (n+1+t) S HA.out.2.2.1 (JN d I M1 t) wr A.out.2.2.2 (fun s _=>(hIs s.1 s.2).1) hH.1 hH.2.2.1).mono ?_
      rintro e w5 ⟨a5,c5,rfl,hrow,hb⟩
      have hC:JN d I M1 t=CLM d leaf S I l:=by
        unfold CLM
        rw [KK.out.2.2.1,KK.out.2.2.2.1,HA.out.2.2.2.1]
      rw [hC] at hrow
      have Z:Aside (w5.ownsRow w.heap.size 26 32 (.slice a5 (PC S) c5) (PC S) (z00 (CAT (CLM d leaf S I l) (SPAN 0 S)))∧Below w.heap.size w w5):=⟨z18 hrow A.out.2.1.size,A.out.2.1.trans (hb.mono A.out.2.1.size)⟩
      clear hrow hb hH hIs hC A KK HT HA
      go_wp2
      go_ret2
      exact ⟨a5,c5,rfl,Z.out⟩
    | succ q=>
      have hlt:(t:Int)<(T:Int):=by have:=A.out.1;omega
      have z1:wr.cell? ⟨b4+1,1,none⟩=some (.int .u64 (I:Int)):=A.out.2.2.1.cell 1
      obtain ⟨t1,ht1⟩:∃ t1,t+1=t1:=⟨_,rfl⟩
      have e1:wrap64 ((t:Int)+1)=(t1:Int):=by have:=KK.out;unfold wrap64;omega
      have e8:IntKind.u8.wrap (t1:Int)=(t1:Int):=by have:=KK.out;simp [IntKind.wrap,IntKind.bits,IntKind.signed];omega
      go_wp2_with fail
      have esh:(I:Int) / 2 ^ min t1 64=((I / 2 ^ t1:Nat):Int):=by
        rw [Nat.min_eq_left (by have:=KK.out;omega)]
        simp [Int.natCast_ediv]
      rw [esh]
      have hI61:2*(I / 2 ^ t1)+1<2 ^ 64:=by
        have h1:I / 2 ^ t1≤I:=Nat.div_le_self _ _
        have:=HA.out
        omega
      have hH:=HT.out _ A.out.2.1
      have hIs:∀ p q,IsH (JN d I M1 t p q):=z6R KK.out.1 t
      refine (zg7 mb (n+1+t) t1 t (I / 2 ^ t1) d (JN d I M1 t) ht1.symm (by have:=KK.out;omega) hI61 (by have:=KK.out;omega) wr A.out.2.2.2 (hIs _ _) (hIs _ _) hH.2.1 KK.out.2.2.2.2.2.2).mono ?_
      clear hH hIs hI61 esh
      rintro e w5 ⟨rfl,hM,hg⟩
      have Z:Aside (t+1+q=T∧Below w.heap.size w w5∧Has w5 (b4+1) #[.int .u64 (S:Int),.int .u64 (I:Int),.slice a n c] 66∧SMAP w5 mb (n+1+(t+1)) (JN d I M1 (t+1))):=by
        obtain ⟨a1,a2,a3,a4⟩:=A.out
        have hmb:=KK.out.2.1
        have hb4:=HB.out
        refine ⟨by omega,a2.grown hg a2.size (fun k e=>by cases e;omega),a3.grown hg (by simp;omega),?_⟩
        rw [← ht1] at hM
        exact hM
      have E1:Aside (wrap64 ((t:Int)+1)=((t+1:Nat):Int)):=by have:=KK.out;show wrap64 ((t:Int)+1)=((t+1:Nat):Int);unfold wrap64;omega
      clear hM hg A z1 e1 e8
      have e1:=E1.out
      go_wp2
      go_roundg q
      case measure=>exact Nat.lt_succ_self _
      case rel=>exact ⟨t+1,by first | rfl | (rw [E1.out]),Z.out⟩
def ANSH (w:World) (A:Int × Nat × List Int) (e:Ending) (w':World):Prop:=∃ a c,e=.returned (.tuple #[.slice a A.2.1 c,.int .i64 A.1])∧w'.ownsRow w.heap.size 26 32 (.slice a A.2.1 c) A.2.1 (z00 A.2.2)∧Below w.heap.size w w'
set_option maxHeartbeats 2000000 in
theorem z9i (d:Int) (leaf:List Int) (hleaf:IsH leaf) (S I:Nat) (a:Option Addr) (n c:Nat) (l:List Int) (w:World) (hF:Flat w a n l) (hT:Tabled w) (hX:HX.Tabled w) (h0:2<w.heap.size):
    Calls Tryd.prog 29 #[.int .i64 d,.agg (z00 leaf).toArray,.agg #[.int .u64 (S:Int),.int .u64 (I:Int),.slice a n c]] w (ANSH w (CLA d leaf S I n l)):=by
  unfold CLA
  by_cases hE:(PLA I S).1=0
  · rw [if_neg (by simpa using hE)]
    have hIS:I<S∧S≤4611686018427387904:=by
      unfold PLA at hE
      split at hE
      · simp at hE
      · split at hE
        · simp at hE
        · omega
    have hPL:PLA I S=(0,PLCS (PSP I S)):=by
      unfold PLA
      rw [if_neg (by omega),if_neg (by omega)]
    have hlen:(PLA I S).2.length=(PSP I S).length:=by rw [hPL];exact z1x _
    by_cases hn:n=(PLA I S).2.length
    · rw [if_neg (by simpa using hn)]
      exact zc7 d leaf hleaf S I hIS.1 hIS.2 a n c (by omega) l w hF hT hX h0
    · rw [if_pos hn]
      have HB:Aside (Below w.heap.size w ((w.alloc (.cells (z00 leaf).toArray 26)).alloc (.cells #[.int .u64 (S:Int),.int .u64 (I:Int),.slice a n c] 66))):=((Below.refl _ _).alloc (Nat.le_refl _) _).alloc (by simp) _
      have hH:Has ((w.alloc (.cells (z00 leaf).toArray 26)).alloc (.cells #[.int .u64 (S:Int),.int .u64 (I:Int),.slice a n c] 66)) (w.heap.size+1) #[.int .u64 (S:Int),.int .u64 (I:Int),.slice a n c] 66:=Has.at _ _ _ (by simp)
      have cP:=z6I I S _ (hT.below (by omega) HB.out) (Nat.lt_of_lt_of_le (by omega) HB.out.size)
      rw [hPL] at cP hn
      obtain ⟨N,hN⟩:∃ N,(PLCS (PSP I S)).length=N:=⟨_,rfl⟩
      dsimp only at cP hn
      rw [hN] at cP hn
      have HN:Aside (n≠N):=hn
      obtain ⟨b5,hb5⟩:∃ b5,b5=w.heap.size+1:=⟨_,rfl⟩
      rw [← hb5] at hH
      have HH:Aside (Has ((w.alloc (.cells (z00 leaf).toArray 26)).alloc (.cells #[.int .u64 (S:Int),.int .u64 (I:Int),.slice a n c] 66)) b5 #[.int .u64 (S:Int),.int .u64 (I:Int),.slice a n c] 66):=hH
      clear hT hX h0 hE hIS hPL hlen hn hN hF hleaf hH
      go_enter Tryd.func29,Tryd.ntmps29
      go_wp2_with fail
      rw [← hb5]
      clear hb5
      refine cP.mono ?_
      rintro e w1 ⟨v,rfl,hrow,hb⟩
      have hv:∃ a' c',v=.slice a' N c':=by
        obtain ⟨av,cv,e, -⟩:=z24 hrow
        exact ⟨av,cv,e⟩
      have y2:w1.cell? ⟨b5,2,none⟩=some (.slice a n c):=(HH.out.keep hb).cell 2
      have R:Aside (Below w.heap.size w w1):=HB.out.trans (hb.mono HB.out.size)
      clear hrow hb cP HB HH
      obtain ⟨a',c',rfl⟩:=hv
      go_wp2_with fail
      refine (zc6 (.slice a' N c') N ⟨a',c',rfl⟩ a n c HN.out w1).mono ?_
      rintro e w2 ⟨rfl,rfl⟩
      clear y2
      go_wp2
      go_ret2
      exact ⟨none,0,rfl,World.ownsRow_nil _ _ _ _,R.out⟩
  · rw [if_pos hE]
    have HB:Aside (Below w.heap.size w ((w.alloc (.cells (z00 leaf).toArray 26)).alloc (.cells #[.int .u64 (S:Int),.int .u64 (I:Int),.slice a n c] 66))):=((Below.refl _ _).alloc (Nat.le_refl _) _).alloc (by simp) _
    have cP:=z6I I S _ (hT.below (by omega) HB.out) (Nat.lt_of_lt_of_le (by omega) HB.out.size)
    obtain ⟨E,hEe⟩:∃ E,(PLA I S).1=E:=⟨_,rfl⟩
    rw [hEe] at cP hE ⊢
    have hne:((E:Int) != 0)=true:=by simp [hE]
    clear hT hX h0 hE hEe hF hleaf
    go_enter Tryd.func29,Tryd.ntmps29
    go_wp2_with fail
    refine cP.mono ?_
    rintro e w1 ⟨v,rfl,hrow,hb⟩
    have R:Aside (Below w.heap.size w w1):=HB.out.trans (hb.mono HB.out.size)
    clear hrow hb cP HB
    go_wp2
    go_ret2
    exact ⟨none,0,rfl,World.ownsRow_nil _ _ _ _,R.out⟩
end Go.Proofs.YtbmjoiiagldklaaDoor
