/- Texts of SpanMakes, one behind the other: TreeDrops, SpanMarks. -/
import Derived.Test.YtnmalbngdhjhjaaGreatDoorSpanMakesP32
namespace Go.Proofs.YtnmalbngdhjhjaaGreatDoor
open Go.RowKit
set_option maxRecDepth 100000
def HOW (P:Nat→Bool):Nat→Nat
  | 0=>0
  | n+1=>HOW P n+if P n then 1 else 0
theorem zaz {P:Nat→Bool}:∀ {n:Nat},(∀ p,p<n→P p=true)→HOW P n=n
  | 0,_=>rfl
  | n+1,h=>by rw [HOW,zaz fun p hp=>h p (by omega),h n (by omega)];rfl
theorem z7f {P Q:Nat→Bool}:∀ {n:Nat},(∀ p,p<n→P p=Q p)→HOW P n=HOW Q n
  | 0,_=>rfl
  | n+1,h=>by rw [HOW,HOW,z7f fun p hp=>h p (by omega),h n (by omega)]
theorem zd7 (P:Nat→Bool):∀ n,HOW P n≤n
  | 0=>Nat.le_refl _
  | n+1=>by
    have:=zd7 P n
    rw [HOW]
    split <;> omega
theorem z5B {P Q:Nat→Bool} {p:Nat} (hP:P p=true) (hQ:Q p=false) (he:∀ q,q≠p→Q q=P q):∀ {n:Nat},p<n→HOW Q n+1=HOW P n
  | 0,h=>by omega
  | n + 1,h=>by
    rw [HOW,HOW]
    by_cases e:p=n
    · subst e
      rw [hP,hQ,z7f (P:=Q) (Q:=P) fun q hq=>he q (by omega)]
      rfl
    · have:=z5B hP hQ he (n:=n) (by omega)
      rw [he n (fun e'=>e e'.symm)]
      omega
structure TWIN (C:HX.z02) (log len alive:Nat) (l:List RND):Prop where
  long:l.length=len
  yes:∀ p f,p<len→HX.AT C log p=some f→l[p]?=some ⟨LST f,true,0⟩
  no:∀ p,p<len→HX.AT C log p=none→l[p]?=some ZRN
  count:alive=HOW (fun p=>(HX.AT C log p).isSome) len
theorem TWIN.got {C:HX.z02} {log len alive:Nat} {l:List RND} (h:TWIN C log len alive l) (p:Nat):HX.GOT C log len p=(RGOT l p).1∧LST (HX.GOTH C log len p)=(RGOT l p).2:=by
  unfold HX.GOT HX.GOTH RGOT
  by_cases hp:p<len
  · rw [if_pos hp,if_pos hp]
    cases hA:HX.AT C log p with
    | none=>rw [h.no p hp hA];exact ⟨rfl,rfl⟩
    | some f=>rw [h.yes p f hp hA];exact ⟨rfl,rfl⟩
  · rw [if_neg hp,if_neg hp,List.getElem?_eq_none (by rw [h.long];omega)]
    exact ⟨rfl,rfl⟩
theorem TWIN.far {C:HX.z02} {log len alive p:Nat} {l:List RND} (h:TWIN C log len alive l) (hp:len≤p):RDRP l p=31:=by
  unfold RDRP
  rw [List.getElem?_eq_none (by rw [h.long];exact hp)]
theorem TWIN.near {C:HX.z02} {log len alive p:Nat} {l:List RND} (h:TWIN C log len alive l) (hp:p<len):RDRP l p=0:=by
  unfold RDRP
  cases hA:HX.AT C log p with
  | none=>rw [h.no p hp hA];rfl
  | some f=>rw [h.yes p f hp hA];rfl
theorem TWIN.dead {C:HX.z02} {log len alive p:Nat} {l:List RND} (h:TWIN C log len alive l) (hp:p<len) (hA:HX.AT C log p=none):TWIN C log len alive (l.set p ZRN):=by
  have e:l.set p ZRN=l:=by
    have:=h.no p hp hA
    obtain ⟨h1,h2⟩:=List.getElem?_eq_some_iff.1 this
    rw [← h2,List.set_getElem_self]
  rw [e]
  exact h
theorem TWIN.drop {C C':HX.z02} {log len alive p:Nat} {l:List RND} {f:Nat→Nat} (h:TWIN C log len alive l) (hp:p<len) (hA:HX.AT C log p=some f) (hC:∀ q,HX.AT C' log q=if q=p then none else HX.AT C log q):alive - 1+1=alive∧TWIN C' log len (alive - 1) (l.set p ZRN):=by
  have hc:=z5B (P:=fun p=>(HX.AT C log p).isSome) (Q:=fun p=>(HX.AT C' log p).isSome) (p:=p) (by simp [hA]) (by simp [hC]) (fun q hq=>by simp [hC,hq]) hp
  have ha:=h.count
  refine ⟨by omega,⟨by rw [List.length_set];exact h.long,fun q g hq hg=>?_,fun q hq hg=>?_,by omega⟩⟩
  · rw [hC] at hg
    by_cases e:q=p
    · rw [if_pos e] at hg;cases hg
    · rw [if_neg e] at hg
      rw [List.getElem?_set_ne (fun x=>e x.symm)]
      exact h.yes q g hq hg
  · rw [hC] at hg
    by_cases e:q=p
    · subst e
      rw [List.getElem?_set_self (by rw [h.long];exact hq)]
    · rw [if_neg e] at hg
      rw [List.getElem?_set_ne (fun x=>e x.symm)]
      exact h.no q hq hg
def RBK (gt gs:Nat) (v:Value) (x:Nat):Prop:=x=gt∨x=gs∨v.ownBlock=some x
structure SIDES (w0 wx:World) (g:Nat) (C:HX.z02) (B2 gt gs:Nat) (D:Int) (n:Nat) (l:List RND) (a:Option Addr) (c:Nat):Prop where
  pin:wx.cell? ⟨g,4,none⟩=some (.map none)
  rt:RTREE wx B2 gt gs D n l a c
  off:∀ x,RBK gt gs (.slice a l.length c) x→x≠g∧¬ HX.FOOT wx g C x
  bel:Below w0.heap.size w0 wx
  lo:w0.heap.size≤B2
theorem RTREE.blk {w:World} {B gt gs n c x:Nat} {D:Int} {l:List RND} {a:Option Addr} (h:RTREE w B gt gs D n l a c) (hx:RBK gt gs (.slice a l.length c) x):x<w.heap.size:=by
  rcases hx with rfl | rfl | hx
  · exact h.box.lt
  · exact h.store.box.lt
  · exact (h.store.own.lt x hx).2
theorem SIDES.step {w0 wx w':World} {g B2 gt gs n c:Nat} {C C':HX.z02} {D:Int} {l:List RND} {a:Option Addr} (h:SIDES w0 wx g C B2 gt gs D n l a c) (hst:HX.TSTEP wx w' g C C') (hb:Below w0.heap.size wx w'):SIDES w0 w' g C' B2 gt gs D n l a c:=by
  have one:∀ x,RBK gt gs (.slice a l.length c) x→w'.heap[x]?=wx.heap[x]?:=fun x hx=>hst.same x (h.rt.blk hx) (h.off x hx).1 (h.off x hx).2
  refine ⟨hst.pin.trans h.pin,h.rt.keep (one gt (.inl rfl)) (one gs (.inr (.inl rfl))) (fun k e=>one k (.inr (.inr e))),fun x hx=>⟨(h.off x hx).1,fun hf=>?_⟩,h.bel.trans hb,h.lo⟩
  rcases hst.foot x hf with h1 | h1
  · exact (h.off x hx).2 h1
  · have:=h.rt.blk hx
    omega
theorem SIDES.below {w0 wx w':World} {g B2 gt gs n c B log len alive N:Nat} {C:HX.z02} {D:Int} {l:List RND} {a:Option Addr} (h:SIDES w0 wx g C B2 gt gs D n l a c) (hS:HX.STORE wx B g log len alive N C) (hb:Below wx.heap.size wx w'):SIDES w0 w' g C B2 gt gs D n l a c:=
  h.step (HX.STEP.below hS hb).tree (hb.mono h.bel.size)
theorem SIDES.pins {w0 wx:World} {g B2 gt gs n c B:Nat} {C:HX.z02} {D:Int} {l:List RND} {a:Option Addr} (h:SIDES w0 wx g C B2 gt gs D n l a c):HX.PINS wx B g 0 C (fun _=>0):=
  ⟨⟨none,h.pin,fun _ _=>rfl,fun b e=>by cases e⟩⟩
theorem SIDES.rdrop {w0 wx w':World} {g B2 gt gs n c B log len alive N:Nat} {C:HX.z02} {D:Int} {l l':List RND} {a:Option Addr} (h:SIDES w0 wx g C B2 gt gs D n l a c) (hS:HX.STORE wx B g log len alive N C) (hl:l'.length=l.length) (hR:RSTORE w' B2 gs 3 l' a c) (hg:wx.grownBy w' (Value.slice a l.length c).ownBlock):HX.STORE w' B g log len alive N C∧SIDES w0 w' g C B2 gt gs D n l' a c:=by
  have one:∀ x,x<wx.heap.size→(Value.slice a l.length c).ownBlock≠some x→w'.heap[x]?=wx.heap[x]?:=fun x hx hne=>hg.block x hx (fun e=>hne e.symm)
  have hG:w'.heap[g]?=wx.heap[g]?:=one g hS.lt fun e=>(h.off g (.inr (.inr e))).1 rfl
  obtain ⟨k1,k2,k3⟩:=hS.held hG (fun x hf=>one x (hS.foot_lt hf) fun e=>(h.off x (.inr (.inr e))).2 hf)
  refine ⟨k1,(k3 4).trans h.pin,⟨(one gt h.rt.box.lt h.rt.nt).trans h.rt.box,hR,h.rt.ne,by rw [hl];exact h.rt.nt,h.rt.base⟩,fun x hx=>?_,h.bel.trans ⟨hg.os,hg.tape,hg.output,hg.size,fun x hx=>one x (Nat.lt_of_lt_of_le hx h.bel.size) fun e=>?_⟩,h.lo⟩
  · rw [hl] at hx
    exact ⟨(h.off x hx).1,fun hf=>(h.off x hx).2 (k2 x hf)⟩
  · have:=(h.rt.store.own.lt x e).1
    have:=h.lo
    omega
theorem z6h {n p:Nat} (hn:n≤2 ^ 20) (hp:p<z01 n):∃ h k,p=PLC h k∧(k+1)*2 ^ h≤n:=by
  have hb:=z2m (n:=n) (h:=21) (by omega)
  obtain ⟨h,k,hN,e⟩:=Node.of (p:=p) (by omega)
  refine ⟨h,k,e,?_⟩
  rcases Nat.lt_or_ge n ((k+1)*2 ^ h) with h1 | h1
  · have h2:=z5p h k
    have h3:z01 n≤z01 ((k+1)*2 ^ h - 1):=z3T (by omega)
    omega
  · exact h1
theorem zg4 {w:World} {B g n:Nat} {d:Int} {log:Nat} {C:HX.z02} {f:Nat→Nat→Nat} {l:List RND} (hF:HX.FOREST w B g d log n C f) (hl:l.length=z01 n) (hn:∀ h k,(k+1)*2 ^ h≤n→l[PLC h k]?=some ⟨TVAL d f h k,true,0⟩):TWIN C log (z01 n) (z01 n) l:=by
  have hp:=fun p (h:p<z01 n)=>z6h hF.few h
  refine ⟨hl,fun p x hx hA=>?_,fun p hx hA=>?_,(zaz fun p hx=>?_).symm⟩
  · obtain ⟨h,k,rfl,hk⟩:=hp p hx
    rw [hF.node h k hk] at hA
    cases hA
    exact hn h k hk
  · obtain ⟨h,k,rfl,hk⟩:=hp p hx
    rw [hF.node h k hk] at hA
    cases hA
  · obtain ⟨h,k,rfl,hk⟩:=hp p hx
    show (HX.AT C log (PLC h k)).isSome=true
    rw [hF.node h k hk]
    rfl
theorem z5C:∀ x∈ZRN.hash,0≤x∧x≤255:=by decide
structure BOTHD (w wx:World) (g log len N B2 gt gs:Nat) (D:Int) (n:Nat) (a:Option Addr) (c:Nat) (l:List RND) (C:HX.z02) (alive:Nat):Prop where
  st:HX.STORE wx w.heap.size g log len alive N C
  sd:SIDES w wx g C B2 gt gs D n l a c
  tw:TWIN C log len alive l
  byte:∀ v∈l,∀ x∈v.hash,0≤x∧x≤255
theorem BOTHD.below {w wx w':World} {g log len N B2 gt gs n c alive:Nat} {D:Int} {a:Option Addr} {l:List RND} {C:HX.z02} (h:BOTHD w wx g log len N B2 gt gs D n a c l C alive) (hb:Below wx.heap.size wx w'):BOTHD w w' g log len N B2 gt gs D n a c l C alive:=
  ⟨h.st.below hb,h.sd.below h.st hb,h.tw,h.byte⟩
def zbF (w wx:World) (g log len N B2 gt gs:Nat) (D:Int) (n:Nat) (a:Option Addr) (c:Nat) (l:List RND) (p:Nat):Prop:=
  ∃ C alive,HX.STORE wx w.heap.size g log len alive N C∧SIDES w wx g C B2 gt gs D n l a c∧TWIN C log len alive (if RDRP l p=0 then l.set p ZRN else l)∧∀ v∈l,∀ x∈v.hash,0≤x∧x≤255
theorem zbG {w wx:World} {g log len N B2 gt gs n c alive:Nat} {D:Int} {a:Option Addr} {l:List RND} {C:HX.z02} (h:BOTHD w wx g log len N B2 gt gs D n a c l C alive) (p:Nat) (hp:p<2 ^ 64) (hg:w.heap.size≤g) (hlen:len<2 ^ 40):
    Calls Tryz.prog 11 #[.pointer (some ⟨g,0,none⟩),.int .u64 (p:Int)] wx fun e w'=>e=.returned (.int .i64 (RDRP l p))∧zbF w w' g log len N B2 gt gs D n a c l p:=by
  by_cases hl:p<len
  · have h0:=h.tw.near hl
    cases hA:HX.AT C log p with
    | none=>
      refine (HX.zcj h.st h.sd.pins p hp hl rfl hA).mono ?_
      rintro e w' ⟨rfl,hb⟩
      refine ⟨by rw [h0],C,alive,h.st.below hb,h.sd.below h.st hb,?_,h.byte⟩
      rw [if_pos h0]
      exact h.tw.dead hl hA
    | some f=>
      have hc:=h.tw.count
      have hle:=zd7 (fun p=>(HX.AT C log p).isSome) len
      have hal:alive - 1+1=alive:=by
        have:=z5B (P:=fun p=>(HX.AT C log p).isSome) (Q:=fun q=>if q=p then false else (HX.AT C log q).isSome) (p:=p) (by simp [hA]) (by simp) (fun q hq=>by simp [hq]) hl
        omega
      refine (HX.zck h.st h.sd.pins p (alive - 1) f hp hl rfl hA hal (by omega) hg).mono ?_
      rintro e w' ⟨rfl,C',s1,s2,s3,s4,s5⟩
      refine ⟨by rw [h0],C',alive - 1,s1,h.sd.step s4.tree s5,?_,h.byte⟩
      rw [if_pos h0]
      exact (h.tw.drop hl hA s2).2
  · have h0:=h.tw.far (p:=p) (by omega)
    refine (HX.zdS h.st p (by omega)).mono ?_
    rintro e w' ⟨rfl,rfl⟩
    refine ⟨by rw [h0],C,alive,h.st,h.sd,?_,h.byte⟩
    rw [if_neg (by rw [h0];decide)]
    exact h.tw
theorem z9J {w wx:World} {g log len N B2 gt gs n c:Nat} {D:Int} {a:Option Addr} {l:List RND} (p:Nat) (h:zbF w wx g log len N B2 gt gs D n a c l p):
    Calls Tryz.prog 12 #[.pointer (some ⟨gs,0,none⟩),.int .u64 (p:Int)] wx fun e w'=>e=.returned (.int .i64 (RDRP l p))∧∃ l' C alive,BOTHD w w' g log len N B2 gt gs D n a c l' C alive:=by
  obtain ⟨C,alive,h1,h2,h3,h4⟩:=h
  refine (zew h2.rt.store p).mono ?_
  rintro e w' ⟨rfl,k1,k2⟩
  obtain ⟨m1,m2⟩:=h2.rdrop h1 (l':=if RDRP l p=0 then l.set p ZRN else l) (by split <;> simp) k1 k2
  refine ⟨rfl,_,C,alive,m1,m2,h3,fun v hv=>?_⟩
  split at hv
  · rcases List.mem_or_eq_of_mem_set hv with hv | rfl
    · exact h4 v hv
    · exact z5C
  · exact h4 v hv
theorem BOTHD.noded {w wx:World} {g log len N B2 gt gs n c alive:Nat} {D:Int} {a:Option Addr} {l:List RND} {C:HX.z02} (h:BOTHD w wx g log len N B2 gt gs D n a c l C alive) (P:List Nat) (hP:∀ p∈P,p<2 ^ 64):zbE wx g (fun p=>(RGOT l p).2) (fun p=>(RGOT l p).1) P:=fun W hb p hp=>by
  have hc:=HX.z9n (h.st.below hb) p (hP p hp)
  rw [z42,(h.tw.got p).1,(h.tw.got p).2] at hc
  exact hc
theorem z7g {l:List RND} (h:∀ v∈l,∀ x∈v.hash,0≤x∧x≤255) (P:List Nat):∀ x∈P.flatMap fun p=>(RGOT l p).2,0≤x∧x≤255:=fun x hx=>by
  obtain ⟨p,_,hx⟩:=List.mem_flatMap.1 hx
  unfold RGOT at hx
  cases hp:l[p]? with
  | none=>rw [hp] at hx;exact z5C x hx
  | some v=>
    rw [hp] at hx
    dsimp only at hx
    split at hx
    · exact h v (List.mem_of_getElem? hp) x hx
    · exact z5C x hx
theorem z4H (g:Nat) (w:World):Calls Tryz.prog 8 #[.pointer (some ⟨g,0,none⟩)] w fun e w'=>e=.returned (.pointer (some ⟨g,0,none⟩))∧w=w':=by
  go_enter Tryz.func8,Tryz.ntmps8
  go_wp2
  go_ret
  exact ⟨rfl,rfl⟩
theorem zd8 {w w1 w2:World} {g gt gs n c log:Nat} {d D:Int} {l:List RND} {a:Option Addr} (hH:HX.Has w1 g (HX.z65 d log) 86) (hb1:Below w.heap.size w w1) (hR:RTREE w2 w1.heap.size gt gs D n l a c) (hb2:Below w1.heap.size w1 w2):SIDES w w2 g (fun _=>none) w1.heap.size gt gs D n l a c:=by
  have h2:=hH.keep hb2
  have hg:=hH.lt
  refine ⟨h2.cell 4,hR,fun x hx=>⟨?_,fun hf=>?_⟩,hb1.trans (hb2.mono hb1.size),hb1.size⟩
  · have:w1.heap.size≤x:=by
      rcases hx with rfl | rfl | hx
      · exact hR.base
      · exact hR.store.base
      · exact (hR.store.own.lt x hx).1
    omega
  · rcases hf with hf | ⟨k,gc,rs,e,_⟩
    · rw [h2.cell 3] at hf
      cases hf
    · cases e
theorem zg5 {w wx:World} {g B2 gt gs n c log:Nat} {d D:Int} {l:List RND} {a:Option Addr} {C:HX.z02} {f:Nat→Nat→Nat} (hF:HX.FOREST wx w.heap.size g d log n C f) (hS:SIDES w wx g C B2 gt gs D n l a c) (hl:l.length=z01 n) (hn:∀ h k,(k+1)*2 ^ h≤n→l[PLC h k]?=some ⟨TVAL d f h k,true,0⟩):BOTHD w wx g log (z01 n) (z01 n) B2 gt gs D n a c l C (z01 n):=by
  refine ⟨hF.store,hS,zg4 hF hl hn,fun v hv=>?_⟩
  obtain ⟨p,hp⟩:=List.mem_iff_getElem?.1 hv
  have hlt:=(List.getElem?_eq_some_iff.1 hp).1
  obtain ⟨h,k,rfl,hk⟩:=z6h hF.few (by omega:p<z01 n)
  rw [hn h k hk] at hp
  cases hp
  exact (zay hF.byte hk).2
end Go.Proofs.YtnmalbngdhjhjaaGreatDoor

namespace Go.Proofs.YtnmalbngdhjhjaaGreatDoor
open Go.RowKit
set_option maxRecDepth 100000
set_option maxHeartbeats 2000000 in
theorem z1Z (B:Nat) (v:Value) (n:Nat) (xs:List Value) (m:Int) (hn:n≤900) (w:World) (hB:B≤w.heap.size) (h:w.ownsRow B 35 32 v n xs):Calls Tryz.prog 17 #[v,.int .u8 m] w fun e w'=>
    ∃ g cap,e=.returned (.slice (some ⟨g,0,none⟩) (n+1+1) cap)∧w'.ownsRow B 35 32 (.slice (some ⟨g,0,none⟩) (n+1+1) cap) (n+1+1) (z00 (MKS m (n+1+1)))∧w.grownBy w' v.ownBlock∧(v.ownBlock=some g∨w.heap.size≤g):=by
  obtain ⟨a,c,rfl,hc,ha⟩:=zbr h
  have hxs:xs.length=32*n:=by have:=h.1;omega
  have HA:Aside (n≤900∧xs.length=32*n∧w.ownsRow B 35 32 (.slice a n c) n xs∧(0<n→∃ g,a=some ⟨g,0,none⟩)∧B≤w.heap.size):=⟨hn,hxs,h,ha,hB⟩
  clear h ha hxs hn hB hc
  go_enter Tryz.func17,Tryz.ntmps17
  go_wp2
  go_loopg [5] n (fun q s5 wx=>∃ j:Nat,s5=.int .i64 (j:Int)∧Aside (j+q=n∧wx.ownsRow B 35 32 (.slice a n c) n (MKP xs m j)∧w.grownBy wx (Value.slice a n c).ownBlock))
  case atStart=>exact ⟨0,rfl,by omega,by rw [zet];exact HA.out.2.2.1,z1q _ _⟩
  case round=>
    obtain ⟨j,rfl,A⟩:=hrel
    cases gk with
    | zero =>
      obtain rfl:j=n:=by have:=A.out.1;omega
      have hlt:¬ (j:Int)<(j:Int):=by omega
      have R:Aside (wr.ownsRow B 35 32 (.slice a j c) j (z00 (MKS m j))∧w.grownBy wr (Value.slice a j c).ownBlock∧j≤900∧B≤wr.heap.size∧w.heap.size≤wr.heap.size):=by
        obtain ⟨_,h1,h2⟩:=A.out
        obtain ⟨a1,a2,a3,a4,a5⟩:=HA.out
        rw [zfO a2] at h1
        have hs:=z40 h2
        exact ⟨h1,h2,a1,Nat.le_trans a5 hs,hs⟩
      clear A HA
      go_wp2_with (first
        | (rw [← z6a];refine z1d _ rfl 22 35 (.tmp 19) rfl (z00 (MK m)).toArray rfl 32 _ _ Tryz.underlying22 z27 (by rfl) rfl (by decide) (by decide) ?_)
        | (at_builtin;refine z8o _ rfl (.tmp 17) (.tmp 20) rfl B _ j (z00 (MKS m j)) rfl (R.out.1.alloc _) wr.heap.size 1 (MK m) rfl rfl (Has.new _ _ _) (by have:=R.out.2.2.1;omega) (by have:=R.out.2.2.2.1;simp;omega) ?_;intro g1 q1 w1 hown1 hgrow1 hat1 hg1
           have S:Aside (w1.ownsRow B 35 32 (.slice (some ⟨g1,0,none⟩) (j+1) q1) (j+1) (z00 (MKS m (j+1)))∧w.grownBy w1 (Value.slice a j c).ownBlock∧((Value.slice a j c).ownBlock=some g1∨w.heap.size≤g1)∧B≤w1.heap.size∧w.heap.size≤w1.heap.size):=⟨by rw [MKS,z0r];exact hown1,z1w (z1w R.out.2.1 (z59 _ _ _) (.inl rfl)) hgrow1 (.inl rfl),hat1.imp id fun e=>by have:=R.out.2.2.2.2;rw [e];simp;omega,by have h1:=z40 hgrow1;have h2:=R.out.2.2.2.1;simp at h1;omega,by have h1:=z40 hgrow1;have h2:=R.out.2.2.2.2;simp at h1;omega⟩
           clear hown1 hgrow1 hat1 hg1)
        | (rw [← z6a];refine z1d _ rfl 22 35 (.tmp 23) rfl (z00 (MK m)).toArray rfl 32 _ _ Tryz.underlying22 z27 (by rfl) rfl (by decide) (by decide) ?_)
        | (at_builtin;refine z8o _ rfl (.tmp 21) (.tmp 24) rfl B _ (j+1) _ rfl (S.out.1.alloc _) w1.heap.size 1 (MK m) rfl rfl (Has.new _ _ _) (by have:=R.out.2.2.1;omega) (by have h1:=S.out.2.2.2.1;simp;omega) ?_;intro g2 q2 w2 hown2 hgrow2 hat2 hg2))
      have S2:Aside (w2.ownsRow B 35 32 (.slice (some ⟨g2,0,none⟩) (j+1+1) q2) (j+1+1) (z00 (MKS m (j+1+1)))∧w.grownBy w2 (Value.slice a j c).ownBlock∧((Value.slice a j c).ownBlock=some g2∨w.heap.size≤g2)):=by
        obtain ⟨s1,s2,s3,s4,s5⟩:=S.out
        refine ⟨?_,z1w (z1w s2 (z59 _ _ _) (.inl rfl)) hgrow2 ?_,?_⟩
        · rw [show MKS m (j+1+1)=MKS m (j+1) ++ MK m from rfl,z0r]
          exact hown2
        · rcases s3 with s3 | s3
          · exact .inl s3.symm
          · exact .inr fun g e=>by cases e;exact s3
        · rcases hat2 with e | e
          · cases e
            exact s3
          · exact .inr (by rw [e];simp;omega)
      clear hown2 hgrow2 hat2 hg2 S R
      go_wp2
      go_ret
      exact ⟨_,_,rfl,S2.out⟩
    | succ q=>
      obtain ⟨hj,hown,hgr⟩:=A.out
      obtain ⟨a1,a2,a3,a4,a5⟩:=HA.out
      have hlt:(j:Int)<(n:Int):=by omega
      obtain ⟨g,rfl⟩:=a4 (by omega)
      have hth:wr.there g (j*32) (z00 (MK m)).toArray.size:=fun i hi=>by
        have hi:i<32:=hi
        refine ⟨?_,hown.frozenAt _⟩
        rw [hown.cellAt (j*32+i) (by omega),List.getElem?_eq_getElem (by rw [z6b a2 (by omega)];omega)]
        rfl
      have hst:=z5y (z00 (MK m)) _ (j*32) wr hown
      rw [zeu a2 (by omega)] at hst
      have R:Aside (j+1+q=n∧(wr.setCells g (j*32) (z00 (MK m)).toArray.toList).ownsRow B 35 32 (.slice (some ⟨g,0,none⟩) n c) n (MKP xs m (j+1))∧w.grownBy (wr.setCells g (j*32) (z00 (MK m)).toArray.toList) (Value.slice (some ⟨g,0,none⟩) n c).ownBlock):=⟨by omega,hst.1,z1w hgr hst.2 (.inl rfl)⟩
      have E1:Aside (wrap64 ((j:Int)+1)=((j+1:Nat):Int)):=by show wrap64 ((j:Int)+1)=((j+1:Nat):Int);unfold wrap64;omega
      clear hj hown hgr a1 a2 a3 a4 a5 hst A HA
      go_wp2_with (first
        | (rw [← z6a];refine wpList_store_mid rfl 35 (.tmp 16) (.tmp 15) rfl g (j*32) (z00 (MK m)).toArray rfl rfl hth (z0V (z2s m)) (z1G (MK m)) ?_))
      generalize wr.setCells g (j*32) (z00 (MK m)).toArray.toList=w2 at *
      have e1:=E1.out
      go_wp2
      go_roundg q
      case measure=>exact Nat.lt_succ_self _
      case rel=>exact ⟨j+1,by first | rfl | (rw [E1.out]),R.out⟩
set_option maxHeartbeats 1000000 in
theorem z2k (B g n c:Nat) (m:Int) (hn:n≤1000000) (w:World) (h:w.ownsRow B 35 32 (.slice (some ⟨g,0,none⟩) n c) n (z00 (MKS m n))):Calls Tryz.prog 18 #[.slice (some ⟨g,0,none⟩) n c,.int .u8 m] w fun e w'=>e=.returned (.bool true)∧w=w':=by
  have HA:Aside (n≤1000000∧w.ownsRow B 35 32 (.slice (some ⟨g,0,none⟩) n c) n (z00 (MKS m n))):=⟨hn,h⟩
  clear hn h
  go_enter Tryz.func18,Tryz.ntmps18
  go_wp2
  go_loopg [5] n (fun q s5 wx=>∃ j:Nat,s5=.int .i64 (j:Int)∧Aside (j+q=n)∧wx=w)
  case atStart=>exact ⟨0,rfl,by show 0+n=n;omega,rfl⟩
  case round=>
    obtain ⟨j,rfl,A,rfl⟩:=hrel
    cases gk with
    | zero=>
      obtain rfl:j=n:=by have:=A.out;omega
      have hlt:¬ (j:Int)<(j:Int):=by omega
      clear A HA
      go_wp2
      go_ret
      exact ⟨rfl,rfl⟩
    | succ q=>
      have hj:j+1+q=n:=by have:=A.out;omega
      have hlt:(j:Int)<(n:Int):=by omega
      have hat:wr.rangeAt g (j*32) (z00 (MK m)):=fun i v hv=>by
        have hi:i<32:=(List.getElem?_eq_some_iff.1 hv).1
        have:=HA.out.2.cellAt (j*32+i) (by omega)
        rw [this,z0t _ _ (by rw [z1K];omega),show j*32+i=32*j+i by omega,← zcQ hi,zgJ m (by omega),← hv,z0t _ _ (by rw [z2s];exact hi)]
      have R:Aside (j+1+q=n):=hj
      have E1:Aside (wrap64 ((j:Int)+1)=((j+1:Nat):Int)):=by have:=HA.out.1;show wrap64 ((j:Int)+1)=((j+1:Nat):Int);unfold wrap64;omega
      have hnq:∀ x y (W:World),(do eqGuard .neq 35 x y (.agg (z00 (MK m)).toArray) (.agg (z00 (MK m)).toArray);binOp .neq 35 (.agg (z00 (MK m)).toArray) (.agg (z00 (MK m)).toArray):Sem Value).run Tryz.prog W=.ok (.bool false) W:=fun x y W=>zcS (MK m) (z2s m) x y W
      clear hj A HA
      go_wp2_with (first
        | (refine wpList_load_mid rfl 35 (.tmp 14) rfl g (j*32) rfl (z00 (MK m)) _ hat Tryz.underlying35 rfl (z0u (z2s m)) ?_)
        | (rw [← z6a];refine wpList_plain rfl (fun K hK=>zcV (z07 (hnq _ _ _)) (hK _ _ ?_))))
      have e1:=E1.out
      go_wp2
      go_roundg q
      case measure=>exact Nat.lt_succ_self _
      case rel=>exact ⟨j+1,by first | rfl | (rw [E1.out]),R,rfl⟩
end Go.Proofs.YtnmalbngdhjhjaaGreatDoor
