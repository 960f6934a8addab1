/- Texts of ManyVerifies, one behind the other: ManyUpNode, ManyClimb, ManyFaceC. -/
import Derived.Test.YtlicfinmibbpdaaGreatDoorManyVerifiesP26
import Derived.Test.YtlicfinmibbpdaaGreatDoorManyVerifiesP30
namespace Go.Proofs.YtlicfinmibbpdaaGreatDoor
open Go.RowKit
set_option maxRecDepth 100000
def INDB (w0:World) (bc:Nat) (a:Option Addr):Prop:=∀ x,a=some x→x.block≠bc∧x.block<w0.heap.size∧x.spot=none
theorem NUML.but {bc:Nat} {w w':World} {a:Option Addr} {L:List Nat} (h:NUML w a L) (hb:BUT bc w w') (ha:INDB w bc a):NUML w' a L:=fun h0=>by
  obtain ⟨b,o,e,hlt,hc⟩:=h h0
  exact ⟨b,o,e,Nat.lt_of_lt_of_le hlt hb.2.size,fun i x hx=>(World.cell?_of_block (w:=w) (by exact hb.1 b hlt (ha _ e).1)).trans (hc i x hx)⟩
theorem NUML.back {bc:Nat} {w w':World} {a:Option Addr} {L:List Nat} (h:NUML w' a L) (hb:BUT bc w w') (ha:INDB w bc a):NUML w a L:=fun h0=>by
  obtain ⟨b,o,e,hlt,hc⟩:=h h0
  have hl:b<w.heap.size:=(ha _ e).2.1
  exact ⟨b,o,e,hl,fun i x hx=>(World.cell?_of_block (w:=w') (by exact (hb.1 b hl (ha _ e).1).symm)).trans (hc i x hx)⟩
def UPM (w0 w:World) (bc:Nat) (d:Int) (Y lv nd:List Int) (i j:Nat) (e:Ending) (w':World):Prop:=e=.returned (.agg (z00 Y).toArray)∧CLB w0 w' bc d lv nd i j∧BUT bc w w'
set_option maxHeartbeats 8000000 in
theorem zeB (w0 w:World) (bc:Nat) (d:Int) (h k:Nat) (hN:Node (h+1) k) (L:List Nat) (a:Option Addr) (n c:Nat) (hl:L.length=n) (hn:n<2 ^ 40) (hR:RISES L) (hc:n≤c) (hnil:a=none→c=0) (hbl:INDB w0 bc a) (hL:NUML w0 a L) (hn0:0<n)
    (lv nd lv1 nd1 lv2 nd2 A B:List Int) (i j i1 j1 i2 j2:Nat) (hC:CLB w0 w bc d lv nd i j) (hc0:bc<w0.heap.size) (hX:∀ W,Below bc w0 W→HX.Tabled W) (hA:IsH A) (hB:IsH B)
    (c1:∀ r W,RANKS L ((2*k+1)*2 ^ h) r→CLB w0 W bc d lv nd i j→Calls Tryz.prog 71 #[.pointer (some ⟨bc,0,none⟩),.int .u64 ((PLC h (2*k):Nat):Int),.slice a r c] W (UPM w0 W bc d A lv1 nd1 i1 j1))
    (c2:∀ r a' W,RANKS L ((2*k+1)*2 ^ h) r→NUML w0 a' (L.drop r)→INDB w0 bc a'→(a'=none→c - r=0)→CLB w0 W bc d lv1 nd1 i1 j1→Calls Tryz.prog 71 #[.pointer (some ⟨bc,0,none⟩),.int .u64 ((PLC h (2*k+1):Nat):Int),.slice a' (n - r) (c - r)] W (UPM w0 W bc d B lv2 nd2 i2 j2)):
    Calls Tryz.prog 71 #[.pointer (some ⟨bc,0,none⟩),.int .u64 ((PLC (h+1) k:Nat):Int),.slice a n c] w (UPM w0 w bc d (z1V d A B) lv2 nd2 i2 j2):=by
  have hnb:((n:Int) == 0)=false:=beq_eq_false_iff_ne.2 (by omega)
  have hlt:=hC.lt
  have hs0:w0.heap.size≤w.heap.size:=hC.2.2.size
  obtain ⟨hNl,hNr⟩:=hN.kid
  obtain ⟨W0,hW0⟩:∃ W0,w.alloc (.cells ZARR 38)=W0:=⟨_,rfl⟩
  obtain ⟨b6,hb6⟩:∃ b6,w.heap.size=b6:=⟨_,rfl⟩
  have hb0:Below w.heap.size w W0:=by rw [← hW0];exact (Below.refl _ _).alloc (Nat.le_refl _) _
  have hH0:Has W0 b6 (z00 ZND).toArray 38:=by rw [← hW0,z0Z,← hb6];exact Has.new _ _ _
  have ck:=z4t h k hN W0
  have HA:Aside (Below w.heap.size w W0∧Has W0 b6 (z00 ZND).toArray 38∧bc<w0.heap.size∧w0.heap.size≤w.heap.size∧bc<w.heap.size∧CLB w0 W0 bc d lv nd i j∧w.heap.size=b6):=⟨hb0,hH0,hc0,hs0,hlt,hC.still hb0,hb6⟩
  have HL:Aside (L.length=n∧n<2 ^ 40∧RISES L∧n≤c∧(a=none→c=0)∧INDB w0 bc a∧NUML w0 a L∧Node h (2*k)):=⟨hl,hn,hR,hc,hnil,hbl,hL,hNl⟩
  have C1:Aside _:=c1
  have C2:Aside _:=c2
  have HY:Aside (IsH A∧IsH B∧∀ W,Below bc w0 W→HX.Tabled W):=⟨hA,hB,hX⟩
  clear hC hb0 hH0 hc0 hs0 hlt hl hn hR hc hnil hbl hL hn0 hNl hNr hN hX hA hB c1 c2
  generalize ((PLC (h+1) k:Nat):Int)=P at *
  go_enter Tryz.func71,Tryz.ntmps71
  go_upto_region 3 with fail
  clear hW0 hb6
  go_wp2_with fail
  refine ck.mono ?_
  rintro e w1 ⟨rfl,h1⟩
  clear ck
  have k1:CLB w0 w1 bc d lv nd i j:=HA.out.2.2.2.2.2.1.still h1
  have cs:=z1H h (2*k) HL.out.2.2.2.2.2.2.2 a n c L HL.out.1 HL.out.2.1 HL.out.2.2.1 HL.out.2.2.2.1 HL.out.2.2.2.2.1 (fun x e=>(HL.out.2.2.2.2.2.1 x e).2.2) w1 (HL.out.2.2.2.2.2.2.1.but k1.2 HL.out.2.2.2.2.2.1)
  have K1:Aside (CLB w0 w1 bc d lv nd i j∧Below w.heap.size w w1∧Has w1 b6 (z00 ZND).toArray 38):=⟨k1,HA.out.1.trans (h1.mono HA.out.1.size),HA.out.2.1.keep h1⟩
  clear h1 k1
  go_wp2_with fail
  refine cs.mono ?_
  rintro e w2 ⟨r,a',rfl,hs⟩
  clear cs
  have hbl':INDB w0 bc a':=fun x hx=>by
    obtain ⟨y,e2,e3⟩:=hs.block x hx
    have q:=HL.out.2.2.2.2.2.1 y e2
    exact ⟨by rw [e3];exact q.1,by rw [e3];exact q.2.1,hs.spot x hx⟩
  have hL':NUML w0 a' (L.drop r):=hs.lies.back K1.out.1.2 hbl'
  have K2:Aside (CLB w0 w2 bc d lv nd i j∧Below w.heap.size w w2∧Has w2 b6 (z00 ZND).toArray 38):=⟨K1.out.1.still hs.below,K1.out.2.1.trans (hs.below.mono K1.out.2.1.size),K1.out.2.2.keep hs.below⟩
  have cu:=C1.out r w2 hs.rank K2.out.1
  have CV:Aside (∀ W,CLB w0 W bc d lv1 nd1 i1 j1→Calls Tryz.prog 71 #[.pointer (some ⟨bc,0,none⟩),.int .u64 ((PLC h (2*k+1):Nat):Int),.slice a' (n - r) (c - r)] W (UPM w0 W bc d B lv2 nd2 i2 j2)):=fun W hW=>C2.out r a' W hs.rank hL' hbl' hs.nil hW
  clear hs hbl' hL' K1 C1 C2 HL
  generalize n - r=n' at *
  generalize c - r=c' at *
  go_wp2_with fail
  refine cu.mono ?_
  rintro e w3 ⟨rfl,h3,h4⟩
  clear cu
  have lA:=HY.out.1.1
  have lB:=HY.out.2.1.1
  have K3:Aside (CLB w0 w3 bc d lv1 nd1 i1 j1∧BUT bc w w3∧Has w3 b6 (z00 ZND).toArray 38):=⟨h3,(BUT.of_below K2.out.2.1 (Nat.le_of_lt HA.out.2.2.2.2.1)).trans h4,(h4.1 b6 K2.out.2.2.lt (by have:=HA.out;omega)).trans K2.out.2.2⟩
  clear h3 h4 K2
  go_upto_region 8 with (refine wpList_store_row rfl 38 (.tmp 12) (.tmp 43) rfl _ _ rfl rfl 38 _ (Has.new w3 _ _) (z05 lA) (by simp [z00,lA]) (z0l A) ?_;rw [World.setRow_alloc_new])
  have K4:Aside (CLB w0 (w3.alloc (.cells (z00 A).toArray 38)) bc d lv1 nd1 i1 j1∧BUT bc w (w3.alloc (.cells (z00 A).toArray 38))∧Has (w3.alloc (.cells (z00 A).toArray 38)) b6 (z00 ZND).toArray 38∧Has (w3.alloc (.cells (z00 A).toArray 38)) w3.heap.size (z00 A).toArray 38∧b6<w3.heap.size):=by
    have hb:Below w3.heap.size w3 (w3.alloc (.cells (z00 A).toArray 38)):=(Below.refl _ _).alloc (Nat.le_refl _) _
    exact ⟨K3.out.1.still hb,K3.out.2.1.trans (BUT.of_below hb (Nat.le_of_lt K3.out.1.lt)),K3.out.2.2.alloc _,Has.new _ _ _,K3.out.2.2.lt⟩
  clear K3
  generalize w3.alloc (.cells (z00 A).toArray 38)=w4 at *
  generalize w3.heap.size=bl at *
  have cu:=CV.out w4 K4.out.1
  go_wp2_with fail
  refine cu.mono ?_
  rintro e w5 ⟨rfl,h3,h4⟩
  clear cu CV
  have K5:Aside (CLB w0 w5 bc d lv2 nd2 i2 j2∧BUT bc w w5∧Has w5 b6 (z00 ZND).toArray 38∧Has w5 bl (z00 A).toArray 38):=⟨h3,K4.out.2.1.trans h4,(h4.1 b6 K4.out.2.2.1.lt (by have:=HA.out;omega)).trans K4.out.2.2.1,(h4.1 bl K4.out.2.2.2.1.lt (by have:=HA.out;have:=K4.out.2.2.2.2;omega)).trans K4.out.2.2.2.1⟩
  have hbb:b6<bl:=K4.out.2.2.2.2
  clear h3 h4 K4
  go_upto_region 9 with (refine wpList_store_row rfl 38 (.tmp 13) (.tmp 47) rfl _ _ rfl rfl 38 _ (Has.new w5 _ _) (z05 lB) (by simp [z00,lB]) (z0l B) ?_;rw [World.setRow_alloc_new])
  have K6:Aside (UPQ w0 w (w5.alloc (.cells (z00 B).toArray 38)) bc d lv2 nd2 i2 j2 b6 bl w5.heap.size A B):=by
    have hb:Below w5.heap.size w5 (w5.alloc (.cells (z00 B).toArray 38)):=(Below.refl _ _).alloc (Nat.le_refl _) _
    exact ⟨K5.out.1.still hb,K5.out.2.1.trans (BUT.of_below hb (Nat.le_of_lt K5.out.1.lt)),K5.out.2.2.1.alloc _,K5.out.2.2.2.alloc _,Has.new _ _ _,HA.out.2.2.2.2.2.2,hbb,K5.out.2.2.2.lt,HA.out.2.2.2.1,HA.out.2.2.1⟩
  clear K5 HA hbb
  generalize w5.alloc (.cells (z00 B).toArray 38)=w6 at *
  generalize w5.heap.size=br at *
  have hY:=z5d d A B
  have CN:Aside (∀ W,UPQ w0 w W bc d lv2 nd2 i2 j2 b6 bl br A B→Calls Tryz.prog 47 #[.int .i64 d,.agg (z00 A).toArray,.agg (z00 B).toArray] W fun e w'=>e=.returned (.agg (z00 (z1V d A B)).toArray)∧Below W.heap.size W w'):=fun W hW=>zd2 d A B HY.out.1 HY.out.2.1 W (HY.out.2.2 W hW.clb.2.2)
  clear HY
  generalize z1V d A B=Y at *
  have lY:=hY.1
  clear hY
  refine mup9 w6 d bc bl br A B Y lA lB lY (fun W=>UPQ w0 w W bc d lv2 nd2 i2 j2 b6 bl br A B) (fun W=>UPQ w0 w W bc d lv2 nd2 i2 j2 b6 bl br A B) (fun b W=>UPQ w0 w W bc d lv2 nd2 i2 j2 b6 bl br A B∧Has W b (MSTP ZND ZND ZND) 73∧br<b) (fun b W=>UPQ w0 w W bc d lv2 nd2 i2 j2 b6 bl br A B∧Has W b (MSTP ZND ZND ZND) 73∧br<b) (fun b W=>UPQ w0 w W bc d lv2 nd2 i2 j2 b6 bl br A B∧Has W b (MSTP A B Y) 73∧br<b) (K6.out.below (Below.refl _ w6).drew) (fun W h=>h.s9) (fun W h=>h.s9) (fun b W h=>h.1.s9) (fun b W h=>h.1.s9) (fun b W h=>h.1.s9) (fun W h=>(CN.out W h).mono ?_) (fun b W h=>(CN.out W h.1).mono ?_) (fun W h=>⟨h.below ((Below.refl _ _).alloc (Nat.le_refl _) _),Has.new _ _ _,h.r.lt⟩) (fun W h=>⟨h.below ((Below.refl _ _).alloc (Nat.le_refl _) _),Has.new _ _ _,h.r.lt⟩) (fun b W h=>h.2.1) (fun b W h=>⟨h.1.row h.2.2 _,h.2.1.row _,h.2.2⟩) (fun _ _ _ _ _ h=>h) ?_
  · rintro e w' ⟨rfl,hb⟩
    exact ⟨rfl,h.below hb⟩
  · rintro e w' ⟨rfl,hb⟩
    exact ⟨rfl,h.1.below hb,h.2.1.keep hb,h.2.2⟩
  · intro bs w7 h7
    dsimp only
    have K7:Aside (UPQ w0 w w7 bc d lv2 nd2 i2 j2 b6 bl br A B∧Has w7 bs (MSTP A B Y) 73∧br<bs):=h7
    clear h7 K6 CN
    go_upto_region 10 with fail
    refine zfy w7 bc bs A B Y lA lB lY (fun W=>UPQ w0 w W bc d lv2 nd2 i2 j2 b6 bl br A B∧Has W bs (MSTP A B Y) 73) (fun W=>UPQ w0 w W bc d lv2 nd2 i2 j2 b6 bl br A B∧Has W bs (MSTP A B Y) 73) ⟨K7.out.1.below (Below.refl _ w7).drew,K7.out.2.1⟩ (fun W h=>h.1.s10 h.2) (fun W h=>h.1.s10 h.2) (fun W h=>(zdv A B Y W).mono ?_) (fun _ _ _ _ _ h=>h) ?_
    · rintro e w' ⟨rfl,hb⟩
      exact ⟨rfl,h.1.below hb,h.2.keep hb⟩
    · intro w8 h8
      dsimp only
      have hat:=zbX lA lB h8.2
      have hres:=h8.1.res
      have FN:Aside (UPM w0 w bc d Y lv2 nd2 i2 j2 (.returned (.agg (z00 Y).toArray)) (w8.setRow b6 (z00 Y).toArray)):=by
        have hn:=h8.1.n
        exact ⟨rfl,h8.1.clb.set_new (by omega) (by omega) _,h8.1.but.set_new (by omega) (by omega) _⟩
      clear h8 K7
      go_wp2_with (first
        | (refine wpList_load_mid rfl 38 (.tmp 64) rfl bs 64 rfl (z00 Y) _ hat Tryz.underlying38 rfl (z0j lY) ?_)
        | (refine wpList_store_row rfl 38 (.tmp 6) (.tmp 65) rfl _ _ rfl rfl 38 _ hres (z05 lY) (by simp [z00,lY];rfl) (z0l Y) ?_))
      refine bodyPost_ret (v:=.agg (z00 Y).toArray) (z1X rfl _ _ b6 38 _ (0,0) _ _ rfl (Has.row hres _) Tryz.underlying38 (z05 lY)) rfl FN.out
theorem z6E {L:List Nat} {t r r':Nat} (h:RANKS L t r) (h':RANKS L t r'):r=r':=by
  have e:=h.take.trans h'.take.symm
  have:=congrArg List.length e
  rw [List.length_take,List.length_take] at this
  have:=h.le
  have:=h'.le
  omega
theorem zfz (w0:World) (bc:Nat) (d:Int) (hc0:bc<w0.heap.size) (hX:∀ W,Below bc w0 W→HX.Tabled W):∀ (h k:Nat),Node h k→∀ (L:List Nat) (a:Option Addr) (n c:Nat) (lv nd:List Int) (i j:Nat) (w:World),L.length=n→n<2 ^ 40→UNR h k L→n≤c→(a=none→c=0)→INDB w0 bc a→NUML w0 a L→CLB w0 w bc d lv nd i j→n≤i→(NEED h k L).length≤j→
    Calls Tryz.prog 71 #[.pointer (some ⟨bc,0,none⟩),.int .u64 ((PLC h k:Nat):Int),.slice a n c] w (UPM w0 w bc d (MUP d h k L lv nd).1 (MUP d h k L lv nd).2.1 (MUP d h k L lv nd).2.2 (i - n) (j - (NEED h k L).length)):=by
  intro h
  induction h with
  | zero=>
    intro k hN L a n c lv nd i j w hl hn hU hc hnil hbl hL hC hi hj
    have hsl:=hC.1
    cases L with
    | nil=>
      obtain rfl:n=0:=by simpa using hl.symm
      rw [z0P] at hj ⊢
      obtain ⟨vl,vn,_,_,q⟩:=hsl
      exact z9x w0 w bc d _ lv nd i j c a hC hc0 hj (q.hss.first hj).1
    | cons x l=>
      obtain rfl:=hU.leaf
      obtain rfl:n=1:=by simpa using hl.symm
      obtain ⟨vl,vn,_,q,_⟩:=hsl
      exact zeA w0 w bc d k hN lv nd i j 1 c a (by decide) hC hc0 hi (q.hss.first hi).1
  | succ h ih=>
    intro k hN L a n c lv nd i j w hl hn hU hc hnil hbl hL hC hi hj
    by_cases hLe:L=[]
    · subst hLe
      obtain rfl:n=0:=by simpa using hl.symm
      rw [z0P] at hj ⊢
      obtain ⟨vl,vn,_,_,q⟩:=hC.1
      rw [zeq]
      exact z9x w0 w bc d _ lv nd i j c a hC hc0 hj (q.hss.first hj).1
    · obtain ⟨r,hr⟩:=z2I hU.1 ((2*k+1)*2 ^ h)
      have hN':=z2z hLe hr
      have hle:=hr.le
      rw [hN',List.length_append] at hj
      obtain ⟨hNl,hNr⟩:=hN.kid
      have ht:(L.take r).length=r:=by rw [List.length_take];omega
      have hd:(L.drop r).length=n - r:=by rw [List.length_drop,hl]
      obtain ⟨vl,vn,_,q1,q2⟩:=hC.1
      have s1:=z1Z d h (2*k) (L.take r) lv nd i j (hU.left hr) q1.hss q2.hss (by omega) (by omega)
      have s2:=z1Z d h (2*k+1) (L.drop r) _ _ _ _ (hU.right hr) s1.2.1 s1.2.2 (by omega) (by omega)
      have hp:0<L.length:=List.length_pos_iff.2 hLe
      have hL1:NUML w0 a (L.take r):=fun h0=>by
        obtain ⟨b,o,e,hl,hcc⟩:=hL hp
        refine ⟨b,o,e,hl,fun i x hx=>hcc i x ?_⟩
        rw [List.getElem?_take] at hx
        split at hx
        · exact hx
        · cases hx
      have cu:=zeB w0 w bc d h k hN L a n c hl hn hU.1 hc hnil hbl hL (by omega) lv nd _ _ _ _ _ _ i j _ _ _ _ hC hc0 hX s1.1 s2.1
        (fun r' W hr' hW=>by
          obtain rfl:=z6E hr' hr
          exact ih (2*k) hNl (L.take r') a r' c lv nd i j W ht (by omega) (hU.left hr) (by omega) hnil hbl hL1 hW (by omega) (by omega))
        (fun r' a' W hr' hLa hba hna hW=>by
          obtain rfl:=z6E hr' hr
          exact ih (2*k+1) hNr (L.drop r') a' (n - r') (c - r') _ _ _ _ W hd (by omega) (hU.right hr) (by omega) hna hba hLa hW (by omega) (by omega))
      rw [z7N hLe hr,hN',List.length_append]
      rwa [show i - r - (n - r)=i - n by omega,Nat.sub_sub] at cu
end Go.Proofs.YtlicfinmibbpdaaGreatDoor

namespace Go.Proofs.YtlicfinmibbpdaaGreatDoor
open Go.RowKit
set_option maxRecDepth 100000
def AMID (B N:Nat) (L:List Nat):Prop:=∀ x∈L,B≤x∧x<N
theorem AMID.take {B N h k r:Nat} {L:List Nat} (hA:AMID B N L) (hR:RISES L) (hr:RANKS L ((k+1)*2 ^ h) r) (hB:k*2 ^ h=B):UNR h k (L.take r):=by
  refine ⟨hR.take r,fun x hx=>?_⟩
  have h1:=hA x (List.mem_of_mem_take hx)
  obtain ⟨i,hi⟩:=List.getElem?_of_mem hx
  rw [List.getElem?_take] at hi
  split at hi
  · rename_i hlt
    exact ⟨by omega,hr.lo i x hlt hi⟩
  · cases hi
theorem AMID.drop {B N h k r:Nat} {L:List Nat} (hA:AMID B N L) (hr:RANKS L ((k+1)*2 ^ h) r):AMID ((k+1)*2 ^ h) N (L.drop r):=fun x hx=>by
  have h1:=hA x (List.mem_of_mem_drop hx)
  obtain ⟨i,hi⟩:=List.getElem?_of_mem hx
  rw [List.getElem?_drop] at hi
  exact ⟨hr.hi (r+i) x (by omega) hi,h1.2⟩
structure CLJ (d:Int) (N:Nat) (L:List Nat) (lv nd:List Int) (w3 w4 wx:World) (B0 bc g:Nat) (n j n' c':Nat) (a':Option Addr) (Lj:List Nat) (lvj ndj:List Int) (pv:Value) (out:List Int) (B:Nat):Prop where
  len:Lj.length=n'
  le:n'≤n
  rise:RISES Lj
  cap:n'≤c'
  nil:a'=none→c'=0
  ind:INDB w3 bc a'
  lies:NUML w3 a' Lj
  clb:CLB w3 wx bc d lvj ndj n' (z04 ((TPS N).drop j) Lj).length
  amid:AMID B N Lj
  tile:Tile B ((TPS N).drop j) N
  all:MUPS d (TPS N) L lv nd=out ++ MUPS d ((TPS N).drop j) Lj lvj ndj
  own:wx.ownsRow w3.heap.size 38 32 pv j (z00 out)
theorem z3c {s:Nat × Nat}:∀ {l:List (Nat × Nat)} {j:Nat},l[j]?=some s→l.drop j=s :: l.drop (j+1)
  | [],j,h=>by simp at h
  | x :: l,0,h=>by simp at h;simp [h]
  | x :: l,j+1,h=>by simpa using z3c (l:=l) (j:=j) (by simpa using h)
theorem z7W {w:World} {B s n:Nat} {t:TypeId} {v:Value} {xs:List Value} (h:w.ownsRow B t s v n xs):∃ a c,v=.slice a n c:=by
  rcases h.2 with ⟨e,h0⟩ | ⟨g,cap,cur,e,_⟩
  · exact ⟨none,0,by rw [e,h0]⟩
  · exact ⟨_,_,e⟩
set_option maxHeartbeats 8000000 in
theorem zaC (d:Int) (L:List Nat) (N:Nat) (a:Option Addr) (n c:Nat) (al:Option Addr) (cl:Nat) (an:Option Addr) (K cn:Nat) (lv nd:List Int) (w:World) (hN:N≤4611686018427387904) (hl:L.length=n) (hn:n<2 ^ 20) (hR:RISES L) (hLN:∀ x∈L,x<N) (hc:n≤c) (hnil:a=none→c=0) (hbl:∀ x,a=some x→x.block<w.heap.size∧x.spot=none) (hL:NUML w a L)
    (hcl:n≤cl) (hla:∀ x,al=some x→x.block<w.heap.size) (hFl:Flat w al n lv) (hcn:K≤cn) (hna:∀ x,an=some x→x.block<w.heap.size) (hFn:Flat w an K nd) (hK:K=(z04 (TPS N) L).length) (hT:Tabled w) (hX:HX.Tabled w) (hw0:0<w.heap.size):
    Calls Tryz.prog 34 #[.int .i64 d,.slice al n cl,.agg (MBOX N a n c an K cn),.func (.func 35) #[] #[]] w fun e w'=>∃ ap cp,e=.returned (.slice ap (PC N) cp)∧w'.ownsRow w.heap.size 38 32 (.slice ap (PC N) cp) (PC N) (z00 (MUPS d (TPS N) L lv nd))∧Below w.heap.size w w':=by
  have hM:(MBOX N a n c an K cn)=#[.int .u64 (N:Int),.slice a n c,.slice an K cn]:=rfl
  have hHE:z70=.func (.func 35) #[] #[]:=rfl
  obtain ⟨w1,e1⟩:∃ w1,w.alloc (.cells (MBOX N a n c an K cn) 26)=w1:=⟨_,rfl⟩
  obtain ⟨w2,e2⟩:∃ w2,w1.alloc (.cells #[.int .i64 d,.slice al n cl,.slice an K cn,.func (.func 35) #[] #[]] 113)=w2:=⟨_,rfl⟩
  obtain ⟨bc,hbc⟩:∃ bc,w1.heap.size=bc:=⟨_,rfl⟩
  have hb1:Below w.heap.size w w1:=by rw [← e1];exact (Below.refl _ _).alloc (Nat.le_refl _) _
  have hb2:Below w.heap.size w w2:=by rw [← e2];exact hb1.alloc hb1.size _
  have hB1:Has w1 w.heap.size (MBOX N a n c an K cn) 26:=by rw [← e1];exact Has.new _ _ _
  have hC2:Has w2 bc #[.int .i64 d,.slice al n cl,.slice an K cn,z70] 113:=by rw [← e2,← hbc];exact Has.new _ _ _
  have hB2:Has w2 w.heap.size (MBOX N a n c an K cn) 26:=by rw [← e2];exact hB1.alloc _
  have hs1:w.heap.size<bc:=by rw [← hbc];exact hB1.lt
  have cp:=z3z N hN w2 (hT.below hw0 hb2) (by have:=hb2.size;omega)
  have hPC:PC N≤64:=z19 64 N (by omega)
  have hlen:=z1k (n:=N) (by omega)
  have y0:w1.cell? ⟨w.heap.size,2,none⟩=some (.slice an K cn):=hB1.cell 2
  have y1:w2.cell? ⟨w.heap.size,1,none⟩=some (.slice a n c):=hB2.cell 1
  have y2:w2.cell? ⟨w.heap.size,0,none⟩=some (.int .u64 (N:Int)):=hB2.cell 0
  have HA:Aside (n<2 ^ 20∧N≤2 ^ 62∧PC N≤64∧(TPS N).length=PC N∧w.heap.size<bc):=⟨hn,by omega,hPC,hlen,hs1⟩
  have LL:Aside (L.length=n∧RISES L∧(∀ x∈L,x<N)∧n≤c∧(a=none→c=0)∧(∀ x,a=some x→x.block<w.heap.size∧x.spot=none)∧NUML w a L):=⟨hl,hR,hLN,hc,hnil,hbl,hL⟩
  have LH:Aside (n≤cl∧(∀ x,al=some x→x.block<w.heap.size)∧Flat w al n lv∧K≤cn∧(∀ x,an=some x→x.block<w.heap.size)∧Flat w an K nd∧K=(z04 (TPS N) L).length∧HX.Tabled w∧Below w.heap.size w w2∧Has w2 bc #[.int .i64 d,.slice al n cl,.slice an K cn,z70] 113):=⟨hcl,hla,hFl,hcn,hna,hFn,hK,hX,hb2,hC2⟩
  have HT:Aside (Tile 0 (TPS N) N):=z3R hN
  clear hl hn hR hLN hc hnil hbl hL hcl hla hFl hcn hna hFn hK hT hX hw0 hN hb1 hb2 hB1 hC2 hB2 hs1 hPC hlen hHE
  rw [hM] at e1
  have HBC:Aside (w1.heap.size=bc):=hbc
  clear hbc
  go_enter Tryz.func34,Tryz.ntmps34
  rw [hM]
  go_upto_region 2 with (refine wpList_store_row rfl 113 (.tmp 9) (.tmp 21) rfl _ _ rfl rfl 113 _ (Has.new w1 _ _) (by kernel_rfl) rfl (by simp [Value.oneCell']) ?_;rw [World.setRow_alloc_new])
  rw [HBC.out,e2]
  clear e1 e2 HBC
  go_wp2_with fail
  refine cp.mono ?_
  rintro e w3 ⟨g,cg,rfl,hown,hb3⟩
  clear cp y0 y1 y2
  obtain ⟨m,hm⟩:∃ m,PC N=m:=⟨_,rfl⟩
  rw [hm] at hown ⊢
  have W3:Aside (Below w.heap.size w w3∧bc<w3.heap.size):=⟨LH.out.2.2.2.2.2.2.2.2.1.trans (hb3.mono LH.out.2.2.2.2.2.2.2.2.1.size),Nat.lt_of_lt_of_le LH.out.2.2.2.2.2.2.2.2.2.lt hb3.size⟩
  have R1:Aside (w3.ownsRow w2.heap.size 23 1 (.slice (some ⟨g,0,none⟩) m cg) m (z02 (z2D N))∧PC N=m∧g≠bc∧g<w3.heap.size):=⟨hown,hm,by have h1:=(hown.lt g rfl).1;have:=LH.out.2.2.2.2.2.2.2.2.2.lt;omega,(hown.lt g rfl).2⟩
  have TX:Aside (∀ W,Below bc w3 W→HX.Tabled W):=fun W hb=>LH.out.2.2.2.2.2.2.2.1.below (W3.out.1.trans (hb.mono (Nat.le_of_lt HA.out.2.2.2.2)))
  have S0:Aside (CLJ d N L lv nd w3 w2 w3 0 bc g n 0 n c a L lv nd (.slice none 0 0) [] 0):=by
    obtain ⟨q1,q2,q3,q4,q5,q6,q7,q8,q9,q10⟩:=LH.out
    obtain ⟨p1,p2,p3,p4,p5,p6,p7⟩:=LL.out
    have hlt:=HA.out.2.2.2.2
    refine ⟨p1,Nat.le_refl _,p2,p4,p5,fun x hx=>⟨by have:=(p6 x hx).1;omega,Nat.lt_of_lt_of_le (p6 x hx).1 W3.out.1.size,(p6 x hx).2⟩,fun hp=>?_,⟨⟨_,_,q10.keep hb3,⟨al,cl,rfl,q1,q3.below W3.out.1,fun x hx=>by have:=q2 x hx;omega⟩,⟨an,cn,by rw [List.drop_zero,← q7],by rw [List.drop_zero,← q7];exact q4,by rw [List.drop_zero,← q7];exact q6.below W3.out.1,fun x hx=>by have:=q5 x hx;omega⟩⟩,BUT.refl _ _⟩,fun x hx=>⟨Nat.zero_le _,p3 x hx⟩,by rw [List.drop_zero];exact HT.out,by simp,⟨rfl,.inl ⟨rfl,rfl⟩⟩⟩
    obtain ⟨b,o,e,hlt,hcc⟩:=p7 hp
    exact ⟨b,o,e,Nat.lt_of_lt_of_le hlt W3.out.1.size,fun i x hx=>(W3.out.1.cell (p:=⟨b,o+i,none⟩) hlt).trans (hcc i x hx)⟩
  clear hown hb3 hm LL LH HT
  go_wp2_with fail
  go_loopg [10,11,28] m (fun q s10 s11 s28 wx=>∃ (j n' c':Nat) (a':Option Addr) (Lj:List Nat) (lvj ndj out:List Int) (B:Nat),s10=.slice a' n' c'∧s28=.int .i64 (j:Int)∧Aside (j+q=m∧CLJ d N L lv nd w3 w2 wx 0 bc g n j n' c' a' Lj lvj ndj s11 out B))
  case atStart=>exact ⟨0,n,c,a,L,lv,nd,[],0,rfl,rfl,by omega,S0.out⟩
  case round=>
    obtain ⟨j,n',c',a',Lj,lvj,ndj,out,B,rfl,rfl,A⟩:=hrel
    clear S0
    cases gk with
    | zero=>
      obtain rfl:j=m:=by have:=A.out.1;omega
      have hlt:¬ (j:Int)<(j:Int):=by omega
      have FN:Aside (∃ ap cp,u11=.slice ap (PC N) cp∧wr.ownsRow w.heap.size 38 32 (.slice ap (PC N) cp) (PC N) (z00 (MUPS d (TPS N) L lv nd))∧Below w.heap.size w wr):=by
        show ∃ ap cp,u11=.slice ap (PC N) cp∧wr.ownsRow w.heap.size 38 32 (.slice ap (PC N) cp) (PC N) (z00 (MUPS d (TPS N) L lv nd))∧Below w.heap.size w wr
        rw [R1.out.2.1]
        have h:=A.out.2
        have e:=h.all
        rw [List.drop_of_length_le (by have:=R1.out.2.1;have:=HA.out.2.2.2.1;omega),MUPS,List.append_nil] at e
        have ho:=h.own
        rw [← e] at ho
        obtain ⟨ap,cp,rfl⟩:=z7W ho
        exact ⟨ap,cp,rfl,z0f ho W3.out.1.size,W3.out.1.trans (h.clb.2.2.mono (Nat.le_of_lt HA.out.2.2.2.2))⟩
      clear A R1 HA TX W3
      go_wp2_with fail
      obtain ⟨ap,cp,rfl,h1,h2⟩:=FN.out
      go_ret
      exact ⟨ap,cp,rfl,h1,h2⟩
    | succ q=>
      have hlt:(j:Int)<(m:Int):=by have:=A.out.1;omega
      have hjm:j<(TPS N).length:=by have:=A.out.1;have:=R1.out.2.1;have:=HA.out.2.2.2.1;omega
      obtain ⟨⟨h,k⟩,ehk⟩:∃ s,(TPS N)[j]?=some s:=⟨_,List.getElem?_eq_getElem hjm⟩
      have hsp:=z1c HA.out.2.1 (List.mem_of_getElem? ehk)
      have epk:=z3P ehk
      have hcell:wr.cell? ⟨g,j,none⟩=some (.int .u64 ((PLC h k:Nat):Int)):=by
        have h1:=R1.out.1.cellAt j (by have:=A.out.1;omega)
        refine (World.cell?_of_block (w:=w3) (by exact A.out.2.clb.2.1 g R1.out.2.2.2 R1.out.2.2.1)).trans (h1.trans ?_)
        rw [z02,List.getElem?_map,epk]
        rfl
      have ej:wrap64 ((j:Int)+1)=((j+1:Nat):Int):=by have:=A.out.1;have:=R1.out.2.1;have:=HA.out.2.2.1;unfold wrap64;omega
      have cs:=z1H h k hsp.2.2 a' n' c' Lj A.out.2.len (by have:=A.out.2.le;have:=HA.out.1;omega) A.out.2.rise A.out.2.cap A.out.2.nil (fun x e=>(A.out.2.ind x e).2.2) wr (A.out.2.lies.but A.out.2.clb.2 A.out.2.ind)
      have SP:Aside (Node h k∧(TPS N).drop j=(h,k) :: (TPS N).drop (j+1)):=⟨hsp.2.2,z3c ehk⟩
      clear hsp ehk epk hjm
      go_wp2_with fail
      refine cs.mono ?_
      rintro e w5 ⟨r,a2,rfl,hs⟩
      clear cs hcell
      have htile:=A.out.2.tile
      rw [SP.out.2] at htile
      have hU:UNR h k (Lj.take r):=A.out.2.amid.take A.out.2.rise hs.rank htile.2.1
      have hneed:=z2a ((TPS N).drop (j+1)) hs.rank
      have hmups:=z6B (d:=d) (lv:=lvj) (nd:=ndj) ((TPS N).drop (j+1)) hs.rank
      rw [← SP.out.2] at hneed hmups
      have hrn:=hs.rank.le
      have hind2:INDB w3 bc a2:=fun x hx=>by
        obtain ⟨y,e2,e3⟩:=hs.block x hx
        have q:=A.out.2.ind y e2
        exact ⟨by rw [e3];exact q.1,by rw [e3];exact q.2.1,hs.spot x hx⟩
      have hL2:NUML w3 a2 (Lj.drop r):=hs.lies.back A.out.2.clb.2 hind2
      have hL1:NUML w3 a' (Lj.take r):=fun h0=>by
        obtain ⟨b,o,e,hl,hcc⟩:=A.out.2.lies (by rw [List.length_take] at h0;omega)
        refine ⟨b,o,e,hl,fun i x hx=>hcc i x ?_⟩
        rw [List.getElem?_take] at hx
        split at hx
        · exact hx
        · cases hx
      have hrn':r≤n':=by have:=A.out.2.len;omega
      have hnl:(z04 ((TPS N).drop j) Lj).length=(NEED h k (Lj.take r)).length+(z04 ((TPS N).drop (j+1)) (Lj.drop r)).length:=by rw [hneed,List.length_append]
      have hC5:CLB w3 w5 bc d lvj ndj n' (z04 ((TPS N).drop j) Lj).length:=A.out.2.clb.still hs.below
      have hO5:w5.ownsRow w3.heap.size 38 32 u11 j (z00 out):=z0u A.out.2.own fun k e=>hs.below.block k (A.out.2.own.lt k e).2
      obtain ⟨vl,vn,_,v1,v2⟩:=hC5.1
      have hY:=(z1Z d h k (Lj.take r) lvj ndj n' _ hU v1.hss v2.hss (by rw [List.length_take];omega) (by rw [hnl];omega)).1
      have cu:=zfz w3 bc d W3.out.2 TX.out h k SP.out.1 (Lj.take r) a' r c' lvj ndj n' _ w5 (by rw [List.length_take];omega) (by have:=A.out.2.le;have:=HA.out.1;clear ej;omega) hU (by have:=A.out.2.cap;clear ej;omega) A.out.2.nil A.out.2.ind hL1 hC5 hrn' (by rw [hnl];clear ej;omega)
      rw [hnl,Nat.add_sub_cancel_left] at cu
      have Z5:Aside (w5.ownsRow w3.heap.size 38 32 u11 j (z00 out)∧(Lj.drop r).length=n' - r∧n' - r≤n∧RISES (Lj.drop r)∧n' - r≤c' - r∧(a2=none→c' - r=0)∧INDB w3 bc a2∧NUML w3 a2 (Lj.drop r)∧AMID ((k+1)*2 ^ h) N (Lj.drop r)∧Tile ((k+1)*2 ^ h) ((TPS N).drop (j+1)) N∧MUPS d (TPS N) L lv nd=out ++ (MUP d h k (Lj.take r) lvj ndj).1 ++ MUPS d ((TPS N).drop (j+1)) (Lj.drop r) (MUP d h k (Lj.take r) lvj ndj).2.1 (MUP d h k (Lj.take r) lvj ndj).2.2∧j+1+q=m∧j≤64):=by
        refine ⟨hO5,by rw [List.length_drop,A.out.2.len],by have:=A.out.2.le;clear ej;omega,A.out.2.rise.drop r,by have:=A.out.2.cap;clear ej;omega,hs.nil,hind2,hL2,A.out.2.amid.drop hs.rank,htile.2.2,?_,by have:=A.out.1;clear ej;omega,by have:=A.out.1;have:=R1.out.2.1;have:=HA.out.2.2.1;clear ej;omega⟩
        rw [A.out.2.all,hmups,List.append_assoc]
      clear hs htile hU hneed hmups hrn hind2 hL2 hL1 hnl hC5 hO5 v1 v2 A
      have y32:=hY.1
      generalize (MUP d h k (Lj.take r) lvj ndj).1=Y at *
      generalize (MUP d h k (Lj.take r) lvj ndj).2.1=lv2 at *
      generalize (MUP d h k (Lj.take r) lvj ndj).2.2=nd2 at *
      generalize c' - r=c2 at *
      obtain ⟨n2,hn2⟩:∃ n2,n' - r=n2:=⟨_,rfl⟩
      rw [hn2] at cu Z5 ⊢
      clear hn2 hrn'
      go_wp2_with fail
      refine cu.mono ?_
      rintro e w6 ⟨rfl,h6,h7⟩
      clear cu
      have O6:Aside (w6.ownsRow w3.heap.size 38 32 u11 j (z00 out)):=z0u Z5.out.1 fun k e=>h7.1 k (Z5.out.1.lt k e).2 (by have:=(Z5.out.1.lt k e).1;have:=W3.out.2;clear ej;omega)
      have C6:Aside (CLB w3 w6 bc d lv2 nd2 n2 (z04 ((TPS N).drop (j+1)) (Lj.drop r)).length∧w3.heap.size≤w6.heap.size):=⟨h6,h6.2.2.size⟩
      clear h6 h7
      go_wp2_with (first
        | (refine z1h _ rfl 22 38 (.tmp 41) rfl (z00 Y).toArray rfl 32 _ _ Tryz.underlying22 z16 (by simp [z00,y32]) rfl (by decide) (by decide) ?_)
        | (at_builtin;refine z3D _ rfl (.tmp 38) (.tmp 42) rfl w3.heap.size u11 j _ rfl (O6.out.alloc _) _ 1 Y y32 rfl (Has.new _ _ _) (by have:=Z5.out;clear ej;omega) (by have:=C6.out.2;simp;clear ej;omega) ?_;intro g7 c7 w7 hown hgrow hat hg))
      have Z7:Aside (j+1+q=m∧CLJ d N L lv nd w3 w2 w7 0 bc g n (j+1) n2 c2 a2 (Lj.drop r) lv2 nd2 (.slice (some ⟨g7,0,none⟩) (j+1) c7) (out ++ Y) ((k+1)*2 ^ h)):=by
        obtain ⟨z1,z2,z3,z4,z5,z6,z7,z8,z9,z10,z11,z12,z13⟩:=Z5.out
        have hsz:=z9Y hgrow
        simp at hsz
        have hbb:∀ q,q<w6.heap.size→u11.ownBlock≠some q→w7.heap[q]?=w6.heap[q]?:=fun q hq hne=>(hgrow.block q (by simp;omega) fun e=>hne e.symm).trans (Below.heap_alloc w6 _ q hq)
        refine ⟨z12,z2,z3,z4,z5,z6,z7,z8,?_,z9,z10,z11,by rw [z0t];exact hown⟩
        obtain ⟨⟨vl,vn,q1,q2,q3⟩,q4⟩:=C6.out.1
        have hne:u11.ownBlock≠some bc:=fun e=>by have:=(O6.out.lt bc e).1;have:=W3.out.2;clear ej;omega
        refine ⟨⟨vl,vn,(hbb bc q1.lt hne).trans q1,q2,q3⟩,⟨fun q hq hnb=>(hbb q (by have:=C6.out.2;clear ej;omega) (fun e=>by have:=(O6.out.lt q e).1;clear ej;omega)).trans (q4.1 q hq hnb),?_⟩⟩
        refine (q4.2.alloc (by have:=C6.out.2;have:=W3.out.2;clear ej;omega) _).grown hgrow (by have:=C6.out.2;have:=W3.out.2;simp;clear ej;omega) (fun k e=>?_)
        have:=(O6.out.lt k e).1
        have:=W3.out.2
        clear ej
        omega
      clear hown hgrow hat hg O6 C6 Z5 hY y32 SP
      go_wp2
      go_roundg q
      case measure=>exact Nat.lt_succ_self _
      case rel=>exact ⟨j+1,n2,c2,a2,Lj.drop r,lv2,nd2,out ++ Y,(k+1)*2 ^ h,rfl,by first | rfl | (rw [ej]),Z7.out⟩
end Go.Proofs.YtlicfinmibbpdaaGreatDoor

namespace Go.Proofs.YtlicfinmibbpdaaGreatDoor
open Go.RowKit
set_option maxRecDepth 100000
set_option maxHeartbeats 1000000 in
theorem zdw (b0 b1 b2 b3:Nat) (w:World) (G:World→Prop) (B:Int→World→Prop)
    (hdo:Calls Tryz.prog 32 #[.pointer (some ⟨b0,0,none⟩),.pointer (some ⟨b1,0,none⟩),.pointer (some ⟨b2,0,none⟩),.pointer (some ⟨b3,0,none⟩)] (w.alloc (.cells #[.int .i64 0] 29)) fun e w'=>(e=.returned (.tuple #[])∧G w')∨∃ x,e=.panicked (z0z x)∧B x w')
    (hG:∀ w',G w'→Has w' w.heap.size #[.int .i64 0] 29) (hB:∀ x w',B x w'→Has w' w.heap.size #[.int .i64 0] 29):
    Calls Tryz.prog 31 #[.func (.func 32) #[] #[.pointer (some ⟨b0,0,none⟩),.pointer (some ⟨b1,0,none⟩),.pointer (some ⟨b2,0,none⟩),.pointer (some ⟨b3,0,none⟩)]] w (z3b w G B):=by
  have hmf:∀ (fn:Fn) (first cap:Array Value) (w:World),(Instr.makeFunc fn first cap).run Tryz.prog w=.ok (.func fn first cap) w:=fun _ _ _ _=>rfl
  have HG:Aside (∀ w',G w'→Has w' w.heap.size #[.int .i64 0] 29):=hG
  have HB:Aside (∀ x w',B x w'→Has w' w.heap.size #[.int .i64 0] 29):=hB
  clear hG hB
  go_enter_defers Tryz.func31,Tryz.ntmps31
  go_wp2_with fail
  refine hdo.mono ?_
  rintro e w1 (⟨rfl,h1⟩ | ⟨x,rfl,h1⟩)
  · clear hdo
    have hh:=HG.out w1 h1
    have c0:=hh.cell 0
    have f0:=hh.frozen 0
    have G1:Aside (G w1):=h1
    clear h1
    go_wp2_with fail
    refine leaves_cons (f:=65) (args:=#[.pointer (some ⟨w.heap.size,0,none⟩)]) (by simp) (by simp [go_sem]) ?_
    refine (z2K ⟨w.heap.size,0,none⟩ _).mono ?_
    rintro e u' w'' ⟨rfl,rfl,rfl⟩
    have c1:=(hh.set 0 (.int .i64 0)).cell 0
    simp [Leaves,settle,results,Tryz.results31,go_sem,c1]
    exact .inl ⟨rfl,w1,G1.out,rfl⟩
  · have hh:=HB.out x w1 h1
    have c0:=hh.cell 0
    have f0:=hh.frozen 0
    refine leaves_cons (f:=65) (args:=#[.pointer (some ⟨w.heap.size,0,none⟩)]) (by simp) (by simp [go_sem]) ?_
    refine (z1C ⟨w.heap.size,0,none⟩ 0 x [] w1 c0 f0).mono ?_
    rintro e u' w'' ⟨rfl,rfl,rfl⟩
    have c1:=(hh.set 0 (.int .i64 x)).cell 0
    simp [Leaves,settle,results,Tryz.results31,go_sem,c1]
    exact .inr ⟨x,w1,rfl,h1,rfl⟩
end Go.Proofs.YtlicfinmibbpdaaGreatDoor
