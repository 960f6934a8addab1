/- Texts of ManyVerifies, one behind the other: ManyDecodePlain, ManyHash, ManyHashApp, ManyReadRegion. -/
import Derived.Laws.CopyOwn
import Derived.Deep.RegionLaw
import Derived.Test.YtlicfinmibbpdaaGreatDoorManyVerifiesP26
import Derived.Test.YtlicfinmibbpdaaGreatDoorManyVerifiesP33
namespace Go.Proofs.YtlicfinmibbpdaaGreatDoor
set_option maxRecDepth 100000
abbrev MANS:=Int × Nat × List Nat × List Int
def MERR (E:Int):MANS:=(E,0,[],[])
def MD3 (n:Nat) (A:Int × List Nat × List Int):MANS:=
  if A.1≠0 then MERR A.1 else if A.2.2.length<32*(z04 (TPS n) A.2.1).length then MERR 11 else if 32*(z04 (TPS n) A.2.1).length<A.2.2.length then MERR 13 else (0,n,A.2.1,A.2.2)
def MD1 (t:List Int):MANS:=
  if (LNG t).2.2≠0 then MERR (LNG t).2.2 else if 4611686018427387904<(LNG t).1.toNat then MERR 30 else MD3 (LNG t).1.toNat (IDXS (LNG t).1.toNat (t.drop (LNG t).2.1.toNat))
def MDC:List Int→MANS
  | []=>MERR 11
  | x :: t=>if x=78 then MD1 t else MERR 14
theorem zc5 {t:List Int} {Z m:Nat} (h:LNG t=((Z:Int),(m:Int),0)) (hz:Z≤4611686018427387904):MD1 t=MD3 Z (IDXS Z (t.drop m)):=by
  unfold MD1
  rw [h]
  simp only [ne_eq,not_true_eq_false,if_false,Int.toNat_natCast]
  rw [if_neg (by omega)]
theorem z9z {t:List Int} {Z m:Nat} (h:LNG t=((Z:Int),(m:Int),0)) (hz:4611686018427387904<Z):MD1 t=MERR 30:=by
  unfold MD1
  rw [h]
  simp only [ne_eq,not_true_eq_false,if_false,Int.toNat_natCast]
  rw [if_pos hz]
theorem z6f {t:List Int} (h:(LNG t).2.2≠0):MD1 t=MERR (LNG t).2.2:=by
  unfold MD1
  rw [if_pos h]
theorem z83 {n:Nat}:∀ (c k:Nat) (t:List Int),(IDX n c k t).1=0→(∀ x∈(IDX n c k t).2.1,k≤x∧x<n)∧(IDX n c k t).2.1.Pairwise (·<·)
  | 0,_,_,_=>⟨fun x h=>by simp [IDX] at h,by simp [IDX]⟩
  | c + 1,k,t,h=>by
    rw [IDX] at h ⊢
    split at h
    · rename_i h1
      exact absurd h h1
    · rename_i h1
      rw [if_neg h1]
      split at h
      · cases h
      · rename_i h2
        rw [if_neg h2]
        obtain ⟨a1,a2⟩:=z83 c _ _ h
        generalize (LNG t).1.toNat=Z at *
        refine ⟨fun x hx=>?_,List.pairwise_cons.2 ⟨fun y hy=>?_,a2⟩⟩
        · rcases List.mem_cons.1 hx with e | hx
          · omega
          · have:=a1 x hx
            omega
        · have:=a1 y hy
          omega
theorem zdy {L:List Nat} (h:L.Pairwise (·<·)):RISES L:=fun i j x y hij hx hy=>by
  obtain ⟨hi,rfl⟩:=List.getElem?_eq_some_iff.1 hx
  obtain ⟨hj,rfl⟩:=List.getElem?_eq_some_iff.1 hy
  exact List.pairwise_iff_getElem.1 h i j hi hj hij
theorem z4p {n:Nat} {t:List Int} (h:(IDXS n t).1=0):(∀ x∈(IDXS n t).2.1,x<n)∧RISES (IDXS n t).2.1:=by
  unfold IDXS at h ⊢
  split at h
  · rename_i h1
    exact absurd h h1
  · rename_i h1
    rw [if_neg h1]
    obtain ⟨a1,a2⟩:=z83 _ _ _ h
    exact ⟨fun x hx=>(a1 x hx).2,zdy a2⟩
theorem z84 {n:Nat}:∀ (L:List Nat) (prev:Option Nat),L.Pairwise (·<·)→(∀ x∈L,x<n)→(∀ y,prev=some y→∀ x∈L,y<x)→RCHK n prev L=0
  | [],_,_,_,_=>rfl
  | x :: l,prev,hp,hx,hy=>by
    rw [RCHK,if_neg,if_neg (by have:=hx x (List.mem_cons_self ..);omega)]
    · exact z84 l (some x) (List.pairwise_cons.1 hp).2 (fun z hz=>hx z (List.mem_cons_of_mem _ hz)) (fun y e z hz=>by cases e;exact (List.pairwise_cons.1 hp).1 z hz)
    · cases prev with
      | none=>simp [z1M]
      | some y=>
        have:=hy y rfl x (List.mem_cons_self ..)
        simp [z1M]
        omega
theorem zeD {L:List Nat} (h:RISES L):L.Pairwise (·<·):=by
  rw [List.pairwise_iff_getElem]
  intro i j hi hj hij
  exact h i j _ _ hij (List.getElem?_eq_getElem hi) (List.getElem?_eq_getElem hj)
theorem z6H {n:Nat} {L:List Nat} (hn:n≤4611686018427387904) (hr:RISES L) (hx:∀ x∈L,x<n):z07 L n=0:=by
  unfold z07
  rw [if_neg (by omega)]
  exact z84 L none (zeD hr) hx (fun y e=>by cases e)
theorem z9A {n:Nat}:∀ (c k:Nat) (t:List Int),(∀ x∈t,0≤x∧x≤255)→(IDX n c k t).1=0→(IDX n c k t).2.1.length+(IDX n c k t).2.2.length≤t.length∧(∀ x∈(IDX n c k t).2.2,0≤x∧x≤255)∧(IDX n c k t).2.1.length=c
  | 0,_,_,hr,_=>⟨by simp [IDX],by simpa [IDX] using hr,by simp [IDX]⟩
  | c + 1,k,t,hr,h=>by
    by_cases hl:(LNG t).2.2=0
    · obtain ⟨Z,m,q1,q2,q3,q4,q5⟩:=z2m hr hl
      by_cases hz:n - k≤Z
      · rw [z6c q4 hz] at h
        cases h
      · rw [z5i q4 hz] at h ⊢
        obtain ⟨a1,a2,a3⟩:=z9A c (k+Z+1) (t.drop m) (fun x hx=>hr x (List.mem_of_mem_drop hx)) h
        refine ⟨?_,a2,by simp [a3]⟩
        rw [List.length_drop] at a1
        simp only [List.length_cons]
        omega
    · rw [z6b hl] at h
      exact absurd h hl
theorem z5j {n:Nat} {t:List Int} (hr:∀ x∈t,0≤x∧x≤255) (h:(IDXS n t).1=0):(IDXS n t).2.1.length+(IDXS n t).2.2.length≤t.length∧∀ x∈(IDXS n t).2.2,0≤x∧x≤255:=by
  unfold IDXS at h ⊢
  split at h
  · rename_i h1
    exact absurd h h1
  · rename_i h1
    rw [if_neg h1]
    obtain ⟨Z,m,q1,q2,q3,q4,q5⟩:=z2m hr (by simpa using h1)
    rw [q4] at h ⊢
    simp only [Int.toNat_natCast] at h ⊢
    obtain ⟨a1,a2,_⟩:=z9A Z 0 (t.drop m) (fun x hx=>hr x (List.mem_of_mem_drop hx)) h
    rw [List.length_drop] at a1
    exact ⟨by omega,a2⟩
end Go.Proofs.YtlicfinmibbpdaaGreatDoor

namespace Go.Proofs.YtlicfinmibbpdaaGreatDoor
open Go.RowKit
set_option maxRecDepth 100000
theorem z52:∀ w,(zeroValue 38).run Tryz.prog w=.ok (.agg ZARR) w:=(zero_of_info (P:=Tryz.prog) (n:=32) (by kernel_rfl)).1
theorem z8P {w0 w:World} {rb:Nat} {t:List Int} (R:RDR w0 w rb t) (ht:t.length<32):Calls Tryz.prog 92 #[.pointer (some ⟨rb,0,none⟩)] w fun e w'=>e=.panicked (z0z 11)∧Below w.heap.size w w':=by
  have hz:=z52
  obtain ⟨a,c,h1,h2⟩:=R.rd
  obtain ⟨n,hn⟩:∃ n,t.length=n:=⟨_,rfl⟩
  rw [hn] at h1 ht
  have x0:(w.alloc (.cells ZARR 38)).cell? ⟨rb,0,none⟩=some (.slice a n c):=(h1.alloc _).cell 0
  have hlt:(n:Int)<32:=by omega
  clear R h1 h2 hn ht
  go_enter Tryz.func92,Tryz.ntmps92
  go_wp2_with fail
  exact ⟨rfl,rfl,(Below.refl _ _).alloc (Nat.le_refl _) _⟩
def zdN (w0 w:World) (rb:Nat) (t:List Int) (e:Ending) (w':World):Prop:=e=.returned (.agg (z00 (t.take 32)).toArray)∧RDR w0 w' rb (t.drop 32)∧STAY w w' rb
set_option maxHeartbeats 2000000 in
theorem zdz {w0 w:World} {rb:Nat} {t:List Int} (R:RDR w0 w rb t) (ht:32≤t.length):Calls Tryz.prog 92 #[.pointer (some ⟨rb,0,none⟩)] w (zdN w0 w rb t):=by
  have hz:=z52
  obtain ⟨a,c,h1,h2⟩:=R.rd
  obtain ⟨b,off,rfl,hb,hcs⟩:=h2.addr (by omega)
  have hrb:=h1.lt
  obtain ⟨n,hn⟩:∃ n,t.length=n:=⟨_,rfl⟩
  obtain ⟨w1,e1⟩:∃ w1,w.alloc (.cells ZARR 38)=w1:=⟨_,rfl⟩
  obtain ⟨w2,e2⟩:∃ w2,w1.alloc (.cells ZARR 38)=w2:=⟨_,rfl⟩
  have s1:w1.heap.size=w.heap.size+1:=by rw [← e1];simp
  have s2:w2.heap.size=w.heap.size+2:=by rw [← e2];simp;omega
  have hb2:Below w.heap.size w w2:=by rw [← e2,← e1];exact ((Below.refl _ _).alloc (Nat.le_refl _) _).alloc (by simp) _
  have H1:Has w2 w.heap.size ZARR 38:=by rw [← e2,← e1];exact (Has.new w _ _).alloc _
  have H2:Has w2 w1.heap.size ZARR 38:=by rw [← e2];exact Has.new w1 _ _
  have hr1:Has w1 rb #[.slice (some ⟨b,off,none⟩) n c] 98:=by rw [← e1,← hn];exact h1.alloc _
  have x0:w1.cell? ⟨rb,0,none⟩=some (.slice (some ⟨b,off,none⟩) n c):=hr1.cell 0
  have hr2:Has w2 rb #[.slice (some ⟨b,off,none⟩) n c] 98:=by rw [← e2];exact hr1.alloc _
  have y0:w2.cell? ⟨rb,0,none⟩=some (.slice (some ⟨b,off,none⟩) n c):=hr2.cell 0
  have hlt:¬ (n:Int)<32:=by omega
  have k1:(32:Int)≤(n:Int):=by omega
  have hcn:=h2.2.1
  have k2:(n:Int)≤(c:Int):=by omega
  have k3:(32:Int)≤(c:Int):=by omega
  obtain ⟨Z,hZ⟩:∃ Z,z00 (t.take 32)=Z:=⟨_,rfl⟩
  have hZl:Z.length=32:=by rw [← hZ,z00,List.length_map,List.length_take];omega
  have hsrc:∀ j v,Z[j]?=some v→w2.cell? ((⟨b,off,none⟩:Addr).add j)=some v:=by
    intro j v hv
    have hj:j<32:=by have:=(List.getElem?_eq_some_iff.1 hv).1;omega
    rw [← hZ,z0p _ _ (by rw [List.length_take];omega)] at hv
    rw [z0D]
    refine (((R.bel.trans (hb2.mono R.bel.size)).cell (p:=⟨b,off+j,none⟩) hb).trans (hcs j (by omega))).trans ?_
    rw [← hv]
    congr 2
    rw [List.getD_eq_getElem?_getD,List.getD_eq_getElem?_getD,List.getElem?_take,if_pos hj]
  have hone:∀ v∈Z,v.oneCell'=true:=by rw [← hZ];exact z0K _
  have HA:Aside (RDR w0 w rb t∧Has w2 rb #[.slice (some ⟨b,off,none⟩) n c] 98∧SRC w0 (some ⟨b,off,none⟩) c t∧t.length=n∧32≤n∧Below w.heap.size w w2∧Has w2 w.heap.size ZARR 38∧Has w2 w1.heap.size ZARR 38∧w1.heap.size=w.heap.size+1∧rb<w.heap.size∧Z.length=32∧z00 (t.take 32)=Z∧n≤c):=⟨R,hr2,h2,hn,by omega,hb2,H1,H2,s1,hrb,hZl,hZ,by omega⟩
  have HS:Aside ((∀ j v,Z[j]?=some v→w2.cell? ((⟨b,off,none⟩:Addr).add j)=some v)∧∀ v∈Z,v.oneCell'=true):=⟨hsrc,hone⟩
  have hu8:(Tryz.prog.info? 5).map (·.size)=some 1:=by kernel_rfl
  unfold zdN
  rw [hZ]
  clear R h1 h2 hb hcs hn hb2 H1 H2 hr1 hr2 ht hZl hZ hsrc hone hcn s1 s2 hrb
  go_enter Tryz.func92,Tryz.ntmps92
  go_upto_region 4 with fail
  clear e1 e2 x0 hz
  go_region_law (refine step_copy_splice rfl (.tmp 11) (.tmp 15) 39 39 rfl 5 Tryz.underlying39 hu8 (some ⟨w1.heap.size,0,none⟩) (some ⟨b,off,none⟩) 32 32 n c (by simp [Act.eval]) (by simp [Act.eval]) w1.heap.size 0 ZARR.toList 38 (by exact HA.out.2.2.2.2.2.2.2.1) Z (by rw [HA.out.2.2.2.2.2.2.2.2.2.2.1];exact (Nat.min_eq_right HA.out.2.2.2.2.1).symm) (fun _=>⟨rfl,_,rfl,HS.out.1⟩) (by rw [HA.out.2.2.2.2.2.2.2.2.2.2.1];decide) HS.out.2 w1.heap.size w2 (by exact (Below.refl _ _).drew) (Nat.le_refl _) ?_;intro w4 hg4 hb4)
  have hg5:Has w4 w1.heap.size Z.toArray 38:=by
    have hg5:w4.heap[w1.heap.size]?=some (.cells (splice ZARR.toList 0 Z).toArray 38 (0,0)):=hg4
    have e:splice ZARR.toList 0 Z=Z:=by unfold splice;rw [List.take_zero,List.nil_append,HA.out.2.2.2.2.2.2.2.2.2.2.1,List.drop_of_length_le (by decide),List.append_nil]
    rw [e] at hg5
    exact hg5
  have hr4:Has w4 rb #[.slice (some ⟨b,off,none⟩) n c] 98:=HA.out.2.1.below (B:=w1.heap.size) (w:=w2) (hb4) (by have:=HA.out.2.2.2.2.2.2.2.2;omega)
  have h14:Has w4 w.heap.size ZARR 38:=HA.out.2.2.2.2.2.2.1.below (B:=w1.heap.size) (w:=w2) (hb4) (by have:=HA.out.2.2.2.2.2.2.2.2;omega)
  have x0:=hr4.cell 0
  have f0:=hr4.frozen 0
  have W4:Aside (Below w.heap.size w w4∧Has w4 w1.heap.size Z.toArray 38∧Has w4 rb #[.slice (some ⟨b,off,none⟩) n c] 98∧Has w4 w.heap.size ZARR 38):=⟨HA.out.2.2.2.2.2.1.trans ((show Below w1.heap.size w2 w4 from hb4).mono (by have:=HA.out.2.2.2.2.2.2.2.2;omega)),hg5,hr4,h14⟩
  clear hg4 hb4 hg5 hr4 h14 y0 HS
  obtain ⟨a',ha'⟩:∃ a',REST b off c 32=a':=⟨_,rfl⟩
  have FIN:Aside (∀ W,W=w4.setCell ⟨rb,0,none⟩ (.slice a' (n - 32) (c - 32))→Has W w.heap.size ZARR 38∧Has W w1.heap.size Z.toArray 38∧RDR w0 (W.setRow w.heap.size Z.toArray) rb (t.drop 32)∧STAY w (W.setRow w.heap.size Z.toArray) rb):=fun W hW=>by
    have hne1:w.heap.size≠rb:=by have:=HA.out.2.2.2.2.2.2.2.2;omega
    have hne2:w1.heap.size≠rb:=by have:=HA.out.2.2.2.2.2.2.2.2;omega
    have g1:Has W w.heap.size ZARR 38:=by rw [hW];exact W4.out.2.2.2.other (a:=⟨rb,0,none⟩) hne1 _
    have R4:RDR w0 w4 rb t:=by
      refine ⟨⟨_,c,?_,HA.out.2.2.1⟩,HA.out.1.bel.trans (W4.out.1.mono HA.out.1.bel.size),HA.out.1.lb⟩
      rw [HA.out.2.2.2.1]
      exact W4.out.2.2.1
    have R5:RDR w0 W rb (t.drop 32):=by
      have h5:=R4.moved (k:=32) (by rw [HA.out.2.2.2.1];exact W4.out.2.2.1) HA.out.2.2.1 (by have:=HA.out.2.2.2.1;have:=HA.out.2.2.2.2.1;omega)
      rw [hW,← ha',← HA.out.2.2.2.1]
      exact h5
    have S5:STAY w W rb:=by rw [hW];exact (STAY.of W4.out.1 (by have:=HA.out.2.2.2.2.2.2.2.2;omega)).trans (STAY.set _ _ _ _)
    refine ⟨g1,by rw [hW];exact W4.out.2.1.other (a:=⟨rb,0,none⟩) hne2 _,?_,?_⟩
    · obtain ⟨ar,cr,q1,q2⟩:=R5.rd
      exact ⟨⟨ar,cr,q1.row_other hne1.symm _,q2⟩,z06 R5.bel (by have:=R5.lb;have:=HA.out.2.2.2.2.2.2.2.2;omega) _,R5.lb⟩
    · exact ⟨fun k hk hne=>(setRow_other W w.heap.size k _ (by omega)).trans (S5.kp k hk hne),z06 S5.bl (by have:=HA.out.2.2.2.2.2.2.2.2;omega) _⟩
  have HZ:Aside (Z.length=32∧z00 (t.take 32)=Z):=⟨HA.out.2.2.2.2.2.2.2.2.2.2.1,HA.out.2.2.2.2.2.2.2.2.2.2.2.1⟩
  have hinfo:(Tryz.prog.info? 38).map (·.size)=some Z.toArray.size:=by
    have e:Z.toArray.size=32:=by simp [HZ.out.1]
    have k:(Tryz.prog.info? 38).map (·.size)=some 32:=by kernel_rfl
    rw [e]
    exact k
  have hsz:Z.toArray.size=ZARR.size:=by
    have e:Z.toArray.size=32:=by simp [HZ.out.1]
    rw [e]
    rfl
  have hall:Z.toArray.all (·.oneCell')=true:=by rw [← HZ.out.2];exact z0l _
  have HI:Aside ((Tryz.prog.info? 38).map (·.size)=some Z.toArray.size∧Z.toArray.size=ZARR.size∧Z.toArray.all (·.oneCell')=true):=⟨hinfo,hsz,hall⟩
  clear hinfo hsz hall
  by_cases hc32:c=32
  · have HR:Aside (a'=some ⟨b,off,none⟩):=by show a'=_;rw [← ha'];simp [REST,hc32]
    have hn32:n=32:=by have:=HA.out.2.2.2.2.1;have:=HA.out.2.2.2.2.2.2.2.2;omega
    have ea:=HR.out
    subst hc32 hn32 ea
    clear HA W4 ha'
    go_upto_region 6 with fail
    obtain ⟨w5,e5⟩:∃ w5,w4.setCell ⟨rb,0,none⟩ (.slice (some ⟨b,off,none⟩) 0 0)=w5:=⟨_,rfl⟩
    obtain ⟨f1,f2,f3,f4⟩:=FIN.out w5 e5.symm
    have FF:Aside (Has w5 w.heap.size ZARR 38∧Has w5 w1.heap.size Z.toArray 38∧RDR w0 (w5.setRow w.heap.size Z.toArray) rb (t.drop 32)∧STAY w (w5.setRow w.heap.size Z.toArray) rb):=⟨f1,f2,f3,f4⟩
    rw [e5]
    clear f1 f2 f3 f4 e5 FIN x0 f0
    go_wp2_with (first
      | (refine wpList_load_row rfl 38 (.tmp 3) rfl w1.heap.size rfl 38 Z.toArray (0,0) _ FF.out.2.1 Tryz.underlying38 rfl HI.out.1 ?_)
      | (refine wpList_store_row rfl 38 (.tmp 2) (.tmp 25) rfl _ _ rfl rfl 38 ZARR FF.out.1 HI.out.1 (by first | exact HI.out.2.1 | exact HI.out.2.1.symm) HI.out.2.2 ?_))
    refine bodyPost_ret (v:=.agg Z.toArray) ?_ rfl ⟨rfl,FF.out.2.2⟩
    exact results_cell_row rfl _ _ w.heap.size 38 _ (0,0) _ rfl (FF.out.1.row _) Tryz.underlying38 rfl HI.out.1
  · have HR:Aside (a'=some ⟨b,off+32,none⟩):=by show a'=_;rw [← ha'];simp [REST,hc32]
    have hc1:¬ c - 32=0:=by have:=HA.out.2.2.2.2.1;have:=HA.out.2.2.2.2.2.2.2.2;omega
    have ea:=HR.out
    subst ea
    clear HA W4 ha'
    go_upto_region 6 with fail
    obtain ⟨w5,e5⟩:∃ w5,w4.setCell ⟨rb,0,none⟩ (.slice (some ⟨b,off+32,none⟩) (n - 32) (c - 32))=w5:=⟨_,rfl⟩
    obtain ⟨f1,f2,f3,f4⟩:=FIN.out w5 e5.symm
    have FF:Aside (Has w5 w.heap.size ZARR 38∧Has w5 w1.heap.size Z.toArray 38∧RDR w0 (w5.setRow w.heap.size Z.toArray) rb (t.drop 32)∧STAY w (w5.setRow w.heap.size Z.toArray) rb):=⟨f1,f2,f3,f4⟩
    rw [e5]
    clear f1 f2 f3 f4 e5 FIN x0 f0
    go_wp2_with (first
      | (refine wpList_load_row rfl 38 (.tmp 3) rfl w1.heap.size rfl 38 Z.toArray (0,0) _ FF.out.2.1 Tryz.underlying38 rfl HI.out.1 ?_)
      | (refine wpList_store_row rfl 38 (.tmp 2) (.tmp 25) rfl _ _ rfl rfl 38 ZARR FF.out.1 HI.out.1 (by first | exact HI.out.2.1 | exact HI.out.2.1.symm) HI.out.2.2 ?_))
    refine bodyPost_ret (v:=.agg Z.toArray) ?_ rfl ⟨rfl,FF.out.2.2⟩
    exact results_cell_row rfl _ _ w.heap.size 38 _ (0,0) _ rfl (FF.out.1.row _) Tryz.underlying38 rfl HI.out.1
end Go.Proofs.YtlicfinmibbpdaaGreatDoor

namespace Go.Proofs.YtlicfinmibbpdaaGreatDoor
open Go.RowKit
set_option maxRecDepth 100000
theorem zc6 {ops:Array Oper} {rest:List Oper} {o:Oper} {a:Act} {Q:Exit→Act→World→Prop} (w:World) (hgd:o.guard=none) (s x:Operand)
    (ho:o.op=.call {callee:=.builtin .append,args:=#[s,x],argTypes:=#[22,22]})
    (base:Nat) (v:Value) (n:Nat) (xs:List Value) (hs:a.eval s=v) (hown:w.ownsRow base 38 32 v n xs)
    (b c:Nat) (y:List Int) (hl:y.length=32) (hx:a.eval x=.slice (some ⟨b,0,none⟩) 1 c) (hc:Has w b (z00 y).toArray 38)
    (hb:n≤100000) (hbase:base≤w.heap.size)
    (h:∀ g cap w',w'.ownsRow base 38 32 (.slice (some ⟨g,0,none⟩) (n+1) cap) (n+1) (xs ++ z00 y)→w.grownBy w' v.ownBlock→(v.ownBlock=some g∨g=w.heap.size)→g<w'.heap.size→wpList Tryz.prog ops Q rest (a.put o.dst (.slice (some ⟨g,0,none⟩) (n+1) cap)) w'):wpList Tryz.prog ops Q (o :: rest) a w:=by
  obtain ⟨i,hi,hz,hs1,hby⟩:=info_parts z16
  refine wpList_append_lies w hgd s x 22 ho base 38 i (.agg ZARR) 32 32 Tryz.underlying22 hi hz hs1 hby rfl (by decide) v n xs hs hown ⟨b,0,none⟩ 1 c (z00 y) hx (by rw [z00,List.length_map,hl]) ?_ (z0K y) (by decide) (by simp only [maxLen];omega) (by omega) hbase w.heap.size rfl h
  intro j u hj
  rw [z0D,Nat.zero_add,hc.cell,List.getElem?_toArray]
  exact hj
end Go.Proofs.YtlicfinmibbpdaaGreatDoor

namespace Go.Proofs.YtlicfinmibbpdaaGreatDoor
open Go.RowKit
set_option maxRecDepth 100000
theorem z8Q {w:World} {b o n c:Nat} {a:Option Addr} (h:∃ u,w.cell? ⟨b,o,none⟩=some u) (hf:w.frozen? ⟨b,o,none⟩=false):(Instr.storeAt 22 (.pointer (some ⟨b,o,none⟩)) (.slice a n c)).run Tryz.prog w=.ok () (w.setCell ⟨b,o,none⟩ (.slice a n c)):=by
  obtain ⟨u,h⟩:=h
  go_simp
def z0M:Array Oper:=#[⟨some 4,.fieldAddr 26 (.tmp 1) 2,0,"bytes.go:37",#[],none⟩,⟨some 5,.load 22 (.tmp 4),22,"bytes.go:37",#[⟨0,.data⟩],none⟩,⟨some 6,.load 129 (.tmp 2),129,"bytes.go:37",#[],none⟩,⟨some 7,.call {callee:=.value (.func 92),args:=#[.tmp 6],argTypes:=#[129]},38,"bytes.go:37",#[⟨2,.data⟩],none⟩,⟨some 8,.buildSlice 22 1 #[(0,.tmp 7)],22,"bytes.go:37",#[⟨3,.data⟩],none⟩,⟨some 9,.call {callee:=.builtin .append,args:=#[.tmp 5,.tmp 8],argTypes:=#[22,22]},22,"bytes.go:37",#[⟨1,.data⟩,⟨4,.data⟩,⟨3,.chain⟩],none⟩,⟨some 10,.fieldAddr 26 (.tmp 1) 2,0,"bytes.go:37",#[⟨0,.phase⟩,⟨1,.phase⟩,⟨2,.phase⟩,⟨3,.phase⟩,⟨4,.phase⟩,⟨5,.phase⟩],none⟩,⟨none,.store 22 (.tmp 10) (.tmp 9),0,"bytes.go:37",#[⟨6,.data⟩,⟨5,.data⟩,⟨5,.chain⟩,⟨0,.phase⟩,⟨1,.phase⟩,⟨2,.phase⟩,⟨3,.phase⟩,⟨4,.phase⟩,⟨5,.phase⟩],none⟩]
set_option maxHeartbeats 2000000 in
theorem zfA {Q:Exit→Act→World→Prop} {u0 u3 u4 u5 u6 u7 u8 u9 u10:Value} (W:World) (pb qb rb B:Nat) (av:Option Addr) (n cv:Nat) (H:List Int) (xs:List Value) (hH:H.length=32) (hn:n≤100000) (hne:qb≠pb) (P0 P1 P2:World→Prop) (h0:P0 W.drew) (s0:∀ w,P0 w→w.cell? ⟨qb,0,none⟩=some (.pointer (some ⟨rb,0,none⟩))∧w.cell? ⟨pb,2,none⟩=some (.slice av n cv)) (s1:∀ w,P1 w→w.cell? ⟨qb,0,none⟩=some (.pointer (some ⟨rb,0,none⟩))∧w.cell? ⟨pb,2,none⟩=some (.slice av n cv)∧w.ownsRow B 38 32 (.slice av n cv) n xs∧B≤w.heap.size) (s2:∀ w,P2 w→w.cell? ⟨qb,0,none⟩=some (.pointer (some ⟨rb,0,none⟩))) (hal:∀ w o,P1 w→P1 (w.alloc o)) (hg:∀ w w',P1 w→w.grownBy w' (Value.slice av n cv).ownBlock→P2 w') (st:∀ w,P2 w→(∃ u,w.cell? ⟨pb,2,none⟩=some u)∧w.frozen? ⟨pb,2,none⟩=false)
    (c1:∀ w,P0 w→Calls Tryz.prog 92 #[.pointer (some ⟨rb,0,none⟩)] w fun e w'=>e=.returned (.agg (z00 H).toArray)∧P1 w') (hQ:∀ c (a:Act) (t:Tmp) (v:Value) w,Q (.panic c) (a.put (some t) v) w→Q (.panic c) a w)
    (hfin:∀ (z:Nat) (g:Nat) (q:Nat) (w:World),(∃ wx:World,(P2 wx∧wx.ownsRow B 38 32 (.slice (some ⟨g,0,none⟩) (n+1) q) (n+1) (xs ++ z00 H))∧w=wx.setCell ⟨pb,2,none⟩ (.slice (some ⟨g,0,none⟩) (n+1) q))→Q .normal {tmps:=#[u0,.pointer (some ⟨pb,0,none⟩),.pointer (some ⟨qb,0,none⟩),u3,.pointer (some ⟨pb,2,none⟩),.slice av n cv,.pointer (some ⟨rb,0,none⟩),.agg (z00 H).toArray,.slice (some ⟨z,0,none⟩) 1 1,.slice (some ⟨g,0,none⟩) (n+1) q,.pointer (some ⟨pb,2,none⟩)],defers:=[]} w):(Code.region 0 z0M true).wp Tryz.prog Q {tmps:=#[u0,.pointer (some ⟨pb,0,none⟩),.pointer (some ⟨qb,0,none⟩),u3,u4,u5,u6,u7,u8,u9,u10],defers:=[]} W:=by
  have k1_3_4_5_7:∀ (z:Nat) (g:Nat) (q:Nat) (w:World),(∃ wx:World,(P2 wx∧wx.ownsRow B 38 32 (.slice (some ⟨g,0,none⟩) (n+1) q) (n+1) (xs ++ z00 H))∧w=wx.setCell ⟨pb,2,none⟩ (.slice (some ⟨g,0,none⟩) (n+1) q))→wpAnyH Tryz.prog .any z0M Q (fun w:World=>w.cell? ⟨qb,0,none⟩=some (.pointer (some ⟨rb,0,none⟩))) 0 #[true,true,true,true,true,true,true,true] {tmps:=#[u0,.pointer (some ⟨pb,0,none⟩),.pointer (some ⟨qb,0,none⟩),u3,.pointer (some ⟨pb,2,none⟩),.slice av n cv,.pointer (some ⟨rb,0,none⟩),.agg (z00 H).toArray,.slice (some ⟨z,0,none⟩) 1 1,.slice (some ⟨g,0,none⟩) (n+1) q,.pointer (some ⟨pb,2,none⟩)],defers:=[]} w:=fun z g q w hp=>by
    exact wpAnyH_done (by kernel_rfl) (hfin z g q w hp) _
  have k1_3_4_5:∀ (z:Nat) (g:Nat) (q:Nat) (w:World),(P2 w∧w.ownsRow B 38 32 (.slice (some ⟨g,0,none⟩) (n+1) q) (n+1) (xs ++ z00 H))→wpAnyH Tryz.prog .any z0M Q (fun w:World=>w.cell? ⟨qb,0,none⟩=some (.pointer (some ⟨rb,0,none⟩))) 1 #[true,true,true,true,true,true,true,false] {tmps:=#[u0,.pointer (some ⟨pb,0,none⟩),.pointer (some ⟨qb,0,none⟩),u3,.pointer (some ⟨pb,2,none⟩),.slice av n cv,.pointer (some ⟨rb,0,none⟩),.agg (z00 H).toArray,.slice (some ⟨z,0,none⟩) 1 1,.slice (some ⟨g,0,none⟩) (n+1) q,.pointer (some ⟨pb,2,none⟩)],defers:=[]} w:=fun z g q w hp=>by
    refine wpAnyH_ready (rs:=[7]) (by kernel_rfl) (by simp) ?_
    refine AllReadyH.cons (o:=⟨none,.store 22 (.tmp 10) (.tmp 9),0,"bytes.go:37",#[⟨6,.data⟩,⟨5,.data⟩,⟨5,.chain⟩,⟨0,.phase⟩,⟨1,.phase⟩,⟨2,.phase⟩,⟨3,.phase⟩,⟨4,.phase⟩,⟨5,.phase⟩],none⟩) rfl (fun K hK=>?_) ?_
    · exact z0S rfl (z7o (z8Q (st _ hp.1).1 (st _ hp.1).2)) (have hp:(fun (z:Nat) (g:Nat) (q:Nat) (w:World)=>(∃ wx:World,(P2 wx∧wx.ownsRow B 38 32 (.slice (some ⟨g,0,none⟩) (n+1) q) (n+1) (xs ++ z00 H))∧w=wx.setCell ⟨pb,2,none⟩ (.slice (some ⟨g,0,none⟩) (n+1) q))) z g q _:=⟨w,hp,rfl⟩;hK.out _ _ ((by obtain ⟨wx,h1,h3⟩:=hp; (first | rw [h3] | skip);exact (World.cell?_setCell_other wx _ _ _ (fun e=>hne (congrArg Addr.block e).symm)).trans (s2 _ h1.1))) (fun _=>k1_3_4_5_7 z g q _ hp))
    exact AllReadyH.nil
  have ek1_3_4_5:∀ (z:Nat) (g:Nat) (q:Nat) (w:World),(P2 w∧w.ownsRow B 38 32 (.slice (some ⟨g,0,none⟩) (n+1) q) (n+1) (xs ++ z00 H))→wpAnyH Tryz.prog .any z0M Q (fun w:World=>w.cell? ⟨qb,0,none⟩=some (.pointer (some ⟨rb,0,none⟩))) 2 #[true,true,true,true,true,true,false,false] {tmps:=#[u0,.pointer (some ⟨pb,0,none⟩),.pointer (some ⟨qb,0,none⟩),u3,.pointer (some ⟨pb,2,none⟩),.slice av n cv,.pointer (some ⟨rb,0,none⟩),.agg (z00 H).toArray,.slice (some ⟨z,0,none⟩) 1 1,.slice (some ⟨g,0,none⟩) (n+1) q,u10],defers:=[]} w:=fun z g q w hp=>by
    have hww:(fun w:World=>w.cell? ⟨qb,0,none⟩=some (.pointer (some ⟨rb,0,none⟩))) w:=s2 _ hp.1
    have last:=k1_3_4_5 z g q w hp
    have t6:wpAnyH Tryz.prog .any z0M Q (fun w:World=>w.cell? ⟨qb,0,none⟩=some (.pointer (some ⟨rb,0,none⟩))) 2 #[true,true,true,true,true,true,false,false] {tmps:=#[u0,.pointer (some ⟨pb,0,none⟩),.pointer (some ⟨qb,0,none⟩),u3,.pointer (some ⟨pb,2,none⟩),.slice av n cv,.pointer (some ⟨rb,0,none⟩),.agg (z00 H).toArray,.slice (some ⟨z,0,none⟩) 1 1,.slice (some ⟨g,0,none⟩) (n+1) q,u10],defers:=[]} w:=
      wpAnyH_take (i:=6) (oi:=⟨some 10,.fieldAddr 26 (.tmp 1) 2,0,"bytes.go:37",#[⟨0,.phase⟩,⟨1,.phase⟩,⟨2,.phase⟩,⟨3,.phase⟩,⟨4,.phase⟩,⟨5,.phase⟩],none⟩) (v:=.pointer (some ⟨pb,2,none⟩)) rfl (by kernel_rfl) (by kernel_rfl) (by kernel_rfl) (fun _ _ _ h=>hQ _ _ _ _ _ h) (Yields.yieldsIf (Or.inl ⟨by rfl,fun W=>by go_simp⟩)) hww last
    exact t6
  have k1_3_4:∀ (z:Nat) (w:World),(P1 w∧Has w z (z00 H).toArray 38)→wpAnyH Tryz.prog .any z0M Q (fun w:World=>w.cell? ⟨qb,0,none⟩=some (.pointer (some ⟨rb,0,none⟩))) 3 #[true,true,true,true,true,false,false,false] {tmps:=#[u0,.pointer (some ⟨pb,0,none⟩),.pointer (some ⟨qb,0,none⟩),u3,.pointer (some ⟨pb,2,none⟩),.slice av n cv,.pointer (some ⟨rb,0,none⟩),.agg (z00 H).toArray,.slice (some ⟨z,0,none⟩) 1 1,u9,u10],defers:=[]} w:=fun z w hp=>by
    refine wpAnyH_ready (rs:=[5]) (by kernel_rfl) (by simp) ?_
    refine AllReadyH.cons (o:=⟨some 9,.call {callee:=.builtin .append,args:=#[.tmp 5,.tmp 8],argTypes:=#[22,22]},22,"bytes.go:37",#[⟨1,.data⟩,⟨4,.data⟩,⟨3,.chain⟩],none⟩) rfl (fun K hK=>?_) ?_
    · exact z0Y (by rfl) (zc6 w rfl (.tmp 5) (.tmp 8) rfl B (.slice av n cv) n xs rfl (s1 _ hp.1).2.2.1 z 1 H hH rfl hp.2 hn (s1 _ hp.1).2.2.2 (fun g q w' h1 h2 _ _=>⟨rfl,(have hp:(fun (z:Nat) (g:Nat) (q:Nat) (w:World)=>(P2 w∧w.ownsRow B 38 32 (.slice (some ⟨g,0,none⟩) (n+1) q) (n+1) (xs ++ z00 H))) z g q w':=⟨hg _ _ hp.1 h2,h1⟩;hK.out _ _ (s2 _ hp.1) (fun _=>ek1_3_4_5 z g q _ hp))⟩))
    exact AllReadyH.nil
  have k1_3:∀ (w:World),(P1 w)→wpAnyH Tryz.prog .any z0M Q (fun w:World=>w.cell? ⟨qb,0,none⟩=some (.pointer (some ⟨rb,0,none⟩))) 4 #[true,true,true,true,false,false,false,false] {tmps:=#[u0,.pointer (some ⟨pb,0,none⟩),.pointer (some ⟨qb,0,none⟩),u3,.pointer (some ⟨pb,2,none⟩),.slice av n cv,.pointer (some ⟨rb,0,none⟩),.agg (z00 H).toArray,u8,u9,u10],defers:=[]} w:=fun  w hp=>by
    refine wpAnyH_ready (rs:=[4]) (by kernel_rfl) (by simp) ?_
    refine AllReadyH.cons (o:=⟨some 8,.buildSlice 22 1 #[(0,.tmp 7)],22,"bytes.go:37",#[⟨3,.data⟩],none⟩) rfl (fun K hK=>?_) ?_
    · exact z0Y (by rfl) (z1h w rfl 22 38 (.tmp 7) rfl (z00 H).toArray rfl 32 _ _ Tryz.underlying22 z16 (by simp [z00,hH]) rfl (by decide) (by decide) ⟨rfl,(have hp:(fun (z:Nat) (w:World)=>(P1 w∧Has w z (z00 H).toArray 38)) w.heap.size _:=⟨hal _ _ hp,Has.new w _ _⟩;hK.out _ _ ((s1 _ hp.1).1) (fun _=>k1_3_4 w.heap.size _ hp))⟩)
    exact AllReadyH.nil
  have k3_4:∀ (z:Nat) (w:World),(P1 w∧Has w z (z00 H).toArray 38)→wpAnyH Tryz.prog .any z0M Q (fun w:World=>w.cell? ⟨qb,0,none⟩=some (.pointer (some ⟨rb,0,none⟩))) 4 #[true,false,true,true,true,false,false,false] {tmps:=#[u0,.pointer (some ⟨pb,0,none⟩),.pointer (some ⟨qb,0,none⟩),u3,.pointer (some ⟨pb,2,none⟩),u5,.pointer (some ⟨rb,0,none⟩),.agg (z00 H).toArray,.slice (some ⟨z,0,none⟩) 1 1,u9,u10],defers:=[]} w:=fun z w hp=>by
    refine wpAnyH_ready (rs:=[1]) (by kernel_rfl) (by simp) ?_
    refine AllReadyH.cons (o:=⟨some 5,.load 22 (.tmp 4),22,"bytes.go:37",#[⟨0,.data⟩],none⟩) rfl (fun K hK=>?_) ?_
    · exact z0L (by rfl) (by have hx:=(s1 _ hp.1).2.1;go_simp) (have hp:(fun (z:Nat) (w:World)=>(P1 w∧Has w z (z00 H).toArray 38)) z w:=hp;hK.out _ _ ((s1 _ hp.1).1) (fun _=>k1_3_4 z _ hp))
    exact AllReadyH.nil
  have k1:∀ (w:World),(P0 w)→wpAnyH Tryz.prog .any z0M Q (fun w:World=>w.cell? ⟨qb,0,none⟩=some (.pointer (some ⟨rb,0,none⟩))) 5 #[true,true,true,false,false,false,false,false] {tmps:=#[u0,.pointer (some ⟨pb,0,none⟩),.pointer (some ⟨qb,0,none⟩),u3,.pointer (some ⟨pb,2,none⟩),.slice av n cv,.pointer (some ⟨rb,0,none⟩),u7,u8,u9,u10],defers:=[]} w:=fun  w hp=>by
    refine wpAnyH_ready (rs:=[3]) (by kernel_rfl) (by simp) ?_
    refine AllReadyH.cons (o:=⟨some 7,.call {callee:=.value (.func 92),args:=#[.tmp 6],argTypes:=#[129]},38,"bytes.go:37",#[⟨2,.data⟩],none⟩) rfl (fun K hK=>?_) ?_
    · rw [if_pos (by rfl)]
      go_simp
      refine (show Calls _ _ _ w (fun e w'=>e=.returned (.agg (z00 H).toArray)∧(P1 w')) from c1 w hp).mono ?_
      rintro e w' ⟨rfl,hp⟩
      exact hK.out _ _ ((s1 _ hp).1) (fun _=>k1_3  w' hp)
    exact AllReadyH.nil
  have k3:∀ (w:World),(P1 w)→wpAnyH Tryz.prog .any z0M Q (fun w:World=>w.cell? ⟨qb,0,none⟩=some (.pointer (some ⟨rb,0,none⟩))) 5 #[true,false,true,true,false,false,false,false] {tmps:=#[u0,.pointer (some ⟨pb,0,none⟩),.pointer (some ⟨qb,0,none⟩),u3,.pointer (some ⟨pb,2,none⟩),u5,.pointer (some ⟨rb,0,none⟩),.agg (z00 H).toArray,u8,u9,u10],defers:=[]} w:=fun  w hp=>by
    refine wpAnyH_ready (rs:=[1,4]) (by kernel_rfl) (by simp) ?_
    refine AllReadyH.cons (o:=⟨some 5,.load 22 (.tmp 4),22,"bytes.go:37",#[⟨0,.data⟩],none⟩) rfl (fun K hK=>?_) ?_
    · exact z0L (by rfl) (by have hx:=(s1 _ hp).2.1;go_simp) (have hp:(fun (w:World)=>(P1 w))  w:=hp;hK.out _ _ ((s1 _ hp).1) (fun _=>k1_3  _ hp))
    refine AllReadyH.cons (o:=⟨some 8,.buildSlice 22 1 #[(0,.tmp 7)],22,"bytes.go:37",#[⟨3,.data⟩],none⟩) rfl (fun K hK=>?_) ?_
    · exact z0Y (by rfl) (z1h w rfl 22 38 (.tmp 7) rfl (z00 H).toArray rfl 32 _ _ Tryz.underlying22 z16 (by simp [z00,hH]) rfl (by decide) (by decide) ⟨rfl,(have hp:(fun (z:Nat) (w:World)=>(P1 w∧Has w z (z00 H).toArray 38)) w.heap.size _:=⟨hal _ _ hp,Has.new w _ _⟩;hK.out _ _ ((s1 _ hp.1).1) (fun _=>k3_4 w.heap.size _ hp))⟩)
    exact AllReadyH.nil
  have k:∀ (w:World),(P0 w)→wpAnyH Tryz.prog .any z0M Q (fun w:World=>w.cell? ⟨qb,0,none⟩=some (.pointer (some ⟨rb,0,none⟩))) 6 #[true,false,true,false,false,false,false,false] {tmps:=#[u0,.pointer (some ⟨pb,0,none⟩),.pointer (some ⟨qb,0,none⟩),u3,.pointer (some ⟨pb,2,none⟩),u5,.pointer (some ⟨rb,0,none⟩),u7,u8,u9,u10],defers:=[]} w:=fun  w hp=>by
    refine wpAnyH_ready (rs:=[1,3]) (by kernel_rfl) (by simp) ?_
    refine AllReadyH.cons (o:=⟨some 5,.load 22 (.tmp 4),22,"bytes.go:37",#[⟨0,.data⟩],none⟩) rfl (fun K hK=>?_) ?_
    · exact z0L (by rfl) (by have hx:=(s0 _ hp).2;go_simp) (have hp:(fun (w:World)=>(P0 w))  w:=hp;hK.out _ _ ((s0 _ hp).1) (fun _=>k1  _ hp))
    refine AllReadyH.cons (o:=⟨some 7,.call {callee:=.value (.func 92),args:=#[.tmp 6],argTypes:=#[129]},38,"bytes.go:37",#[⟨2,.data⟩],none⟩) rfl (fun K hK=>?_) ?_
    · rw [if_pos (by rfl)]
      go_simp
      refine (show Calls _ _ _ w (fun e w'=>e=.returned (.agg (z00 H).toArray)∧(P1 w')) from c1 w hp).mono ?_
      rintro e w' ⟨rfl,hp⟩
      exact hK.out _ _ ((s1 _ hp).1) (fun _=>k3  w' hp)
    exact AllReadyH.nil
  have hp:=h0
  have hww:(fun w:World=>w.cell? ⟨qb,0,none⟩=some (.pointer (some ⟨rb,0,none⟩))) W.drew:=(s0 _ hp).1
  have last:=k W.drew hp
  have z:wpAnyH Tryz.prog .any z0M Q (fun w:World=>w.cell? ⟨qb,0,none⟩=some (.pointer (some ⟨rb,0,none⟩))) 8 #[false,false,false,false,false,false,false,false] {tmps:=#[u0,.pointer (some ⟨pb,0,none⟩),.pointer (some ⟨qb,0,none⟩),u3,u4,u5,u6,u7,u8,u9,u10],defers:=[]} W.drew:=by
    have t2:wpAnyH Tryz.prog .any z0M Q (fun w:World=>w.cell? ⟨qb,0,none⟩=some (.pointer (some ⟨rb,0,none⟩))) 7 #[true,false,false,false,false,false,false,false] {tmps:=#[u0,.pointer (some ⟨pb,0,none⟩),.pointer (some ⟨qb,0,none⟩),u3,.pointer (some ⟨pb,2,none⟩),u5,u6,u7,u8,u9,u10],defers:=[]} W.drew:=
      wpAnyH_take (i:=2) (oi:=⟨some 6,.load 129 (.tmp 2),129,"bytes.go:37",#[],none⟩) (v:=.pointer (some ⟨rb,0,none⟩)) rfl (by kernel_rfl) (by kernel_rfl) (by kernel_rfl) (fun _ _ _ h=>hQ _ _ _ _ _ h) (Or.inl ⟨by rfl,fun w hw=>by have hx:w.cell? ⟨qb,0,none⟩=some (.pointer (some ⟨rb,0,none⟩)):=hw;go_simp⟩) hww last
    have t0:wpAnyH Tryz.prog .any z0M Q (fun w:World=>w.cell? ⟨qb,0,none⟩=some (.pointer (some ⟨rb,0,none⟩))) 8 #[false,false,false,false,false,false,false,false] {tmps:=#[u0,.pointer (some ⟨pb,0,none⟩),.pointer (some ⟨qb,0,none⟩),u3,u4,u5,u6,u7,u8,u9,u10],defers:=[]} W.drew:=
      wpAnyH_take (i:=0) (oi:=⟨some 4,.fieldAddr 26 (.tmp 1) 2,0,"bytes.go:37",#[],none⟩) (v:=.pointer (some ⟨pb,2,none⟩)) rfl (by kernel_rfl) (by kernel_rfl) (by kernel_rfl) (fun _ _ _ h=>hQ _ _ _ _ _ h) (Yields.yieldsIf (Or.inl ⟨by rfl,fun W=>by go_simp⟩)) hww t2
    exact t0
  exact wp_region_held_drew (S:=(fun w:World=>w.cell? ⟨qb,0,none⟩=some (.pointer (some ⟨rb,0,none⟩)))) (by kernel_rfl) hww (fun _=>z)
set_option maxHeartbeats 2000000 in
theorem zdA {Q:Exit→Act→World→Prop} {u0 u3 u4 u5 u6 u7 u8 u9 u10:Value} (W:World) (pb qb rb:Nat) (v:Value) (X:List PanicEntry) (P0 D:World→Prop) (h0:P0 W.drew) (s0:∀ w,P0 w→w.cell? ⟨qb,0,none⟩=some (.pointer (some ⟨rb,0,none⟩))∧w.cell? ⟨pb,2,none⟩=some v) (hdie:∀ (a:Act) (w:World),a.defers=[]→D w→Q (.panic X) a w)
    (c1:∀ w,P0 w→Calls Tryz.prog 92 #[.pointer (some ⟨rb,0,none⟩)] w fun e w'=>e=.panicked X∧D w') (hQ:∀ c (a:Act) (t:Tmp) (v:Value) w,Q (.panic c) (a.put (some t) v) w→Q (.panic c) a w)
    : (Code.region 0 z0M true).wp Tryz.prog Q {tmps:=#[u0,.pointer (some ⟨pb,0,none⟩),.pointer (some ⟨qb,0,none⟩),u3,u4,u5,u6,u7,u8,u9,u10],defers:=[]} W:=by
  have k1:∀ (w:World),(P0 w)→wpAnyH Tryz.prog .any z0M Q (fun w:World=>w.cell? ⟨qb,0,none⟩=some (.pointer (some ⟨rb,0,none⟩))) 5 #[true,true,true,false,false,false,false,false] {tmps:=#[u0,.pointer (some ⟨pb,0,none⟩),.pointer (some ⟨qb,0,none⟩),u3,.pointer (some ⟨pb,2,none⟩),v,.pointer (some ⟨rb,0,none⟩),u7,u8,u9,u10],defers:=[]} w:=fun  w hp=>by
    refine wpAnyH_ready (rs:=[3]) (by kernel_rfl) (by simp) ?_
    refine AllReadyH.cons (o:=⟨some 7,.call {callee:=.value (.func 92),args:=#[.tmp 6],argTypes:=#[129]},38,"bytes.go:37",#[⟨2,.data⟩],none⟩) rfl (fun K hK=>?_) ?_
    · rw [if_pos (by rfl)]
      go_simp
      refine (show Calls _ _ _ w (fun e w'=>e=.panicked (X)∧D w') from c1 w hp).mono ?_
      rintro e w' ⟨rfl,hd⟩
      exact hdie _ _ rfl hd
    exact AllReadyH.nil
  have k:∀ (w:World),(P0 w)→wpAnyH Tryz.prog .any z0M Q (fun w:World=>w.cell? ⟨qb,0,none⟩=some (.pointer (some ⟨rb,0,none⟩))) 6 #[true,false,true,false,false,false,false,false] {tmps:=#[u0,.pointer (some ⟨pb,0,none⟩),.pointer (some ⟨qb,0,none⟩),u3,.pointer (some ⟨pb,2,none⟩),u5,.pointer (some ⟨rb,0,none⟩),u7,u8,u9,u10],defers:=[]} w:=fun  w hp=>by
    refine wpAnyH_ready (rs:=[1,3]) (by kernel_rfl) (by simp) ?_
    refine AllReadyH.cons (o:=⟨some 5,.load 22 (.tmp 4),22,"bytes.go:37",#[⟨0,.data⟩],none⟩) rfl (fun K hK=>?_) ?_
    · exact z0L (by rfl) (by have hx:=(s0 _ hp).2;go_simp) (have hp:(fun (w:World)=>(P0 w))  w:=hp;hK.out _ _ ((s0 _ hp).1) (fun _=>k1  _ hp))
    refine AllReadyH.cons (o:=⟨some 7,.call {callee:=.value (.func 92),args:=#[.tmp 6],argTypes:=#[129]},38,"bytes.go:37",#[⟨2,.data⟩],none⟩) rfl (fun K hK=>?_) ?_
    · rw [if_pos (by rfl)]
      go_simp
      refine (show Calls _ _ _ w (fun e w'=>e=.panicked (X)∧D w') from c1 w hp).mono ?_
      rintro e w' ⟨rfl,hd⟩
      exact hdie _ _ rfl hd
    exact AllReadyH.nil
  have hp:=h0
  have hww:(fun w:World=>w.cell? ⟨qb,0,none⟩=some (.pointer (some ⟨rb,0,none⟩))) W.drew:=(s0 _ hp).1
  have last:=k W.drew hp
  have z:wpAnyH Tryz.prog .any z0M Q (fun w:World=>w.cell? ⟨qb,0,none⟩=some (.pointer (some ⟨rb,0,none⟩))) 8 #[false,false,false,false,false,false,false,false] {tmps:=#[u0,.pointer (some ⟨pb,0,none⟩),.pointer (some ⟨qb,0,none⟩),u3,u4,u5,u6,u7,u8,u9,u10],defers:=[]} W.drew:=by
    have t2:wpAnyH Tryz.prog .any z0M Q (fun w:World=>w.cell? ⟨qb,0,none⟩=some (.pointer (some ⟨rb,0,none⟩))) 7 #[true,false,false,false,false,false,false,false] {tmps:=#[u0,.pointer (some ⟨pb,0,none⟩),.pointer (some ⟨qb,0,none⟩),u3,.pointer (some ⟨pb,2,none⟩),u5,u6,u7,u8,u9,u10],defers:=[]} W.drew:=
      wpAnyH_take (i:=2) (oi:=⟨some 6,.load 129 (.tmp 2),129,"bytes.go:37",#[],none⟩) (v:=.pointer (some ⟨rb,0,none⟩)) rfl (by kernel_rfl) (by kernel_rfl) (by kernel_rfl) (fun _ _ _ h=>hQ _ _ _ _ _ h) (Or.inl ⟨by rfl,fun w hw=>by have hx:w.cell? ⟨qb,0,none⟩=some (.pointer (some ⟨rb,0,none⟩)):=hw;go_simp⟩) hww last
    have t0:wpAnyH Tryz.prog .any z0M Q (fun w:World=>w.cell? ⟨qb,0,none⟩=some (.pointer (some ⟨rb,0,none⟩))) 8 #[false,false,false,false,false,false,false,false] {tmps:=#[u0,.pointer (some ⟨pb,0,none⟩),.pointer (some ⟨qb,0,none⟩),u3,u4,u5,u6,u7,u8,u9,u10],defers:=[]} W.drew:=
      wpAnyH_take (i:=0) (oi:=⟨some 4,.fieldAddr 26 (.tmp 1) 2,0,"bytes.go:37",#[],none⟩) (v:=.pointer (some ⟨pb,2,none⟩)) rfl (by kernel_rfl) (by kernel_rfl) (by kernel_rfl) (fun _ _ _ h=>hQ _ _ _ _ _ h) (Yields.yieldsIf (Or.inl ⟨by rfl,fun W=>by go_simp⟩)) hww t2
    exact t0
  exact wp_region_held_drew (S:=(fun w:World=>w.cell? ⟨qb,0,none⟩=some (.pointer (some ⟨rb,0,none⟩)))) (by kernel_rfl) hww (fun _=>z)
end Go.Proofs.YtlicfinmibbpdaaGreatDoor
