/- Texts of ClashNothing, one behind the other: VerifyBag, VerifyCount, VerifyUnder, VerifyRooted, CarryEqual. -/
import Derived.Test.YtbeelmlpalkohaaGreatDoorClashNothingP13
namespace Go.Proofs.YtbeelmlpalkohaaGreatDoor
open Go.RowKit
set_option maxRecDepth 100000
def FA (d:Int) (l:List Int) (n:Nat):Nat→List Int
  | 0=>HSH l (n - 1)
  | k+1=>z7M d (HSH l (n - 2 - k)) (FA d l n k)
def FLD (d:Int) (l:List Int) (n:Nat):List Int:=if n=0 then ZND else FA d l n (n - 1)
theorem zet {d:Int} {l:List Int} {n:Nat} (hl:l.length=32*n) (hr:∀ x∈l,0≤x∧x≤255) (hn:0<n):∀ k,IsH (FA d l n k)
  | 0=>zcE hl hr (by omega)
  | k+1=>ze6 _ _ _
theorem zhB {d:Int} {l:List Int} {n:Nat} (hl:l.length=32*n) (hr:∀ x∈l,0≤x∧x≤255):IsH (FLD d l n):=by
  unfold FLD
  split
  · exact z8u
  · exact zet hl hr (by omega) _
theorem z5q {fn:Func} {p:Tmp} {ty:TypeId} (h:fn.results=#[.cell p ty]) (tmps:Array Value) (w:World) (g:Nat) (t:TypeId) (cs:Array Value) (fr:Nat × Nat) (k:Nat) (el:TypeId)
    (hp:tmps.getD p undef=.pointer (some ⟨g,0,none⟩)) (hg:w.heap[g]?=some (.cells cs t fr))
    (hu:Tryz.prog.underlying ty=some (.array k el)) (hi:(Tryz.prog.info? ty).map (·.size)=some cs.size):
    (results fn tmps).run Tryz.prog w=.ok (.agg cs) w:=by
  have hp':tmps[p]?.getD undef=.pointer (some ⟨g,0,none⟩):=by simpa using hp
  simp [results,h,hp',asAddr,run_loadVar_row w g t ty cs fr (.array k el) hg hu rfl hi]
set_option maxHeartbeats 4000000 in
theorem zcF (d:Int) (a:Option Addr) (n c:Nat) (hn:n≤1000) (l:List Int) (w:World) (hF:Flat w a n l) (hX:HX.Tabled w):
    Calls Tryz.prog 53 #[.int .i64 d,.slice a n c] w fun e w'=>e=.returned (.agg (z00 (FLD d l n)).toArray)∧Below w.heap.size w w':=by
  have R0:Aside (Below w.heap.size w (w.alloc (.cells ZARR 30))∧Has (w.alloc (.cells ZARR 30)) w.heap.size (z00 ZND).toArray 30):=⟨(Below.refl _ _).alloc (Nat.le_refl _) _,by rw [z6D];exact Has.new _ _ _⟩
  by_cases h0:n=0
  · subst h0
    have e:FLD d l 0=ZND:=rfl
    rw [e]
    clear hF hX hn e
    go_enter Tryz.func53,Tryz.ntmps53
    go_upto_region 2 with fail
    rw [show (#[.int .u8 0,.int .u8 0,.int .u8 0,.int .u8 0,.int .u8 0,.int .u8 0,.int .u8 0,.int .u8 0,.int .u8 0,.int .u8 0,.int .u8 0,.int .u8 0,.int .u8 0,.int .u8 0,.int .u8 0,.int .u8 0,.int .u8 0,.int .u8 0,.int .u8 0,.int .u8 0,.int .u8 0,.int .u8 0,.int .u8 0,.int .u8 0,.int .u8 0,.int .u8 0,.int .u8 0,.int .u8 0,.int .u8 0,.int .u8 0,.int .u8 0,.int .u8 0]:Array Value)=ZARR from rfl]
    generalize w.alloc (.cells ZARR 30)=W0 at *
    go_wp2_with (rw [show (#[.int .u8 0,.int .u8 0,.int .u8 0,.int .u8 0,.int .u8 0,.int .u8 0,.int .u8 0,.int .u8 0,.int .u8 0,.int .u8 0,.int .u8 0,.int .u8 0,.int .u8 0,.int .u8 0,.int .u8 0,.int .u8 0,.int .u8 0,.int .u8 0,.int .u8 0,.int .u8 0,.int .u8 0,.int .u8 0,.int .u8 0,.int .u8 0,.int .u8 0,.int .u8 0,.int .u8 0,.int .u8 0,.int .u8 0,.int .u8 0,.int .u8 0,.int .u8 0]:Array Value)=(z00 ZND).toArray from rfl];refine wpList_store_row rfl 30 (.tmp 4) (.tmp 11) rfl _ _ rfl rfl 30 _ R0.out.2 (z0j rfl) rfl (z0B ZND) ?_)
    refine bodyPost_ret (v:=.agg (z00 ZND).toArray) (z5q rfl _ _ w.heap.size 30 _ (0,0) _ _ rfl (Has.row R0.out.2 _) Tryz.underlying30 (z0j rfl)) rfl ⟨rfl,z0e R0.out.1 (Nat.le_refl _) _⟩
  · obtain ⟨m,hm⟩:∃ m,n=m+1:=⟨n - 1,by omega⟩
    obtain ⟨gn,o,rfl,hgn,hcn⟩:=hF.2.1 (by omega)
    have hz:¬ (n:Int)=0:=by omega
    have e1:wrap64 ((n:Int) - 1)=(m:Int):=by unfold wrap64;omega
    have hml:(m:Int)<(n:Int):=by omega
    have hm0:(0:Int)≤(m:Int):=by omega
    have e:FLD d l n=FA d l n m:=by unfold FLD;rw [if_neg h0,show n - 1=m by omega]
    rw [e]
    have HA:Aside (n=m+1∧n≤1000∧Flat w (some ⟨gn,o,none⟩) n l∧HX.Tabled w∧gn<w.heap.size∧∀ k,IsH (FA d l n k)):=⟨hm,hn,hF,hX,hgn,zet hF.1 hF.2.2 (by omega)⟩
    clear hm hn hF hX hgn hcn h0 e
    go_enter Tryz.func53,Tryz.ntmps53
    go_upto_region 3 with fail
    rw [show (#[.int .u8 0,.int .u8 0,.int .u8 0,.int .u8 0,.int .u8 0,.int .u8 0,.int .u8 0,.int .u8 0,.int .u8 0,.int .u8 0,.int .u8 0,.int .u8 0,.int .u8 0,.int .u8 0,.int .u8 0,.int .u8 0,.int .u8 0,.int .u8 0,.int .u8 0,.int .u8 0,.int .u8 0,.int .u8 0,.int .u8 0,.int .u8 0,.int .u8 0,.int .u8 0,.int .u8 0,.int .u8 0,.int .u8 0,.int .u8 0,.int .u8 0,.int .u8 0]:Array Value)=ZARR from rfl]
    generalize w.alloc (.cells ZARR 30)=W0 at *
    have hat:W0.rangeAt gn (o+m*32) (z00 (FA d l n 0)):=by
      have h1:=(HA.out.2.2.1.below R0.out.1).at (show m<n by have:=HA.out.1;omega)
      have h2:FA d l n 0=HSH l m:=by have:=HA.out.1;rw [FA,show n - 1=m by omega]
      rw [h2]
      exact h1
    have h32:=(HA.out.2.2.2.2.2 0).1
    generalize hA0:FA d l n 0=A0 at *
    go_wp2_with (first
      | (refine wpList_load_mid rfl 30 (.tmp 17) rfl gn (o+m*32) rfl (z00 A0) _ hat Tryz.underlying30 rfl (z0r h32) ?_)
      | (refine wpList_store_row rfl 30 (.tmp 6) (.tmp 18) rfl _ _ rfl rfl 30 _ (Has.new W0 _ _) (z0j h32) (by simp [z00,h32]) (z0B A0) ?_;rw [World.setRow_alloc_new]))
    have R1:Aside (Below w.heap.size w (W0.alloc (.cells (z00 A0).toArray 30))∧Has (W0.alloc (.cells (z00 A0).toArray 30)) w.heap.size (z00 ZND).toArray 30∧Has (W0.alloc (.cells (z00 A0).toArray 30)) W0.heap.size (z00 (FA d l n 0)).toArray 30∧w.heap.size<W0.heap.size):=⟨R0.out.1.alloc R0.out.1.size _,R0.out.2.alloc _,by rw [hA0];exact Has.new _ _ _,R0.out.2.lt⟩
    clear hat h32 hA0 R0
    generalize W0.alloc (.cells (z00 A0).toArray 30)=W1 at *
    generalize W0.heap.size=b6 at *
    clear W0
    have K:Aside (w.heap.size<b6):=R1.out.2.2.2
    have E0:Aside (wrap64 ((m:Int) - 1)=(m:Int) - 1):=by have:=HA.out.1;have:=HA.out.2.1;show wrap64 ((m:Int) - 1)=(m:Int) - 1;unfold wrap64;omega
    go_loopg [7] m (fun q s7 wx=>∃ x:Int,s7=.int .i64 x∧Aside (q≤m∧x=(q:Int) - 1∧Below w.heap.size w wx∧Has wx w.heap.size (z00 ZND).toArray 30∧Has wx b6 (z00 (FA d l n (m - q))).toArray 30))
    case atStart=>exact ⟨_,rfl,Nat.le_refl _,E0.out,R1.out.1,R1.out.2.1,by rw [Nat.sub_self];exact R1.out.2.2.1⟩
    case round=>
      obtain ⟨x,rfl,A⟩:=hrel
      clear R1 E0
      cases gk with
      | zero=>
        obtain rfl:x = -1:=by have:=A.out.2.1;omega
        have y32:=(HA.out.2.2.2.2.2 m).1
        have hH4:=A.out.2.2.2.1
        have hH6:Has wr b6 (z00 (FA d l n m)).toArray 30:=A.out.2.2.2.2
        have hb:=A.out.2.2.1
        clear A HA
        generalize hY0:FA d l n m=Y at *
        go_wp2_with (first
          | (refine wpList_load_row rfl 30 (.tmp 6) rfl b6 rfl 30 (z00 Y).toArray (0,0) _ hH6 Tryz.underlying30 rfl (z0j y32) ?_)
          | (refine wpList_store_row rfl 30 (.tmp 4) (.tmp 32) rfl _ _ rfl rfl 30 _ hH4 (z0j y32) (by simp [z00,y32];rfl) (z0B Y) ?_))
        refine bodyPost_ret (v:=.agg (z00 Y).toArray) (z5q rfl _ _ w.heap.size 30 _ (0,0) _ _ rfl (Has.row hH4 _) Tryz.underlying30 (z0j y32)) rfl ⟨by rw [hY0],z0e hb (Nat.le_refl _) _⟩
      | succ q=>
        obtain rfl:x=(q:Int):=by have:=A.out.2.1;omega
        have hq0:(0:Int)≤(q:Int):=by omega
        have hb:=A.out.2.2.1
        obtain ⟨h1,h2,h3,h4,h5,h6⟩:=HA.out
        have hqm:q+1≤m:=A.out.1
        have eY:FA d l n (m - q)=z7M d (HSH l q) (FA d l n (m - (q+1))):=by
          rw [show m - q=(m - (q+1))+1 by omega,FA,show n - 2 - (m - (q+1))=q by omega]
        have hL:IsH (HSH l q):=zcE h3.1 h3.2.2 (by omega)
        have hR:=h6 (m - (q+1))
        have hY:=h6 (m - q)
        have hb1:(q:Int)<(n:Int):=by omega
        have cF:=ze7 d (HSH l q) (FA d l n (m - (q+1))) hL hR wr.drew (h4.below hb.drew)
        have hLr:=((h3.below hb).at (show q<n by omega))
        have hE1:Aside (wrap64 ((q:Int) - 1)=(q:Int) - 1):=by show wrap64 ((q:Int) - 1)=(q:Int) - 1;unfold wrap64;omega
        rw [← eY] at cF
        clear h1 h2 h3 h4 h5 h6 eY hb HA
        generalize FA d l n (m - (q+1))=R at *
        generalize HSH l q=L at *
        have hH6:=A.out.2.2.2.2
        go_upto_region 8 with fail
        refine z7I _ _ _ _ _ _ _ _ _ _ _ _ _ _ _ _ _ _ _ _ _ _ _ _ _ _ _ _ _ wr b6 gn o n c q d L R (FA d l n (m - q)) hL.1 hR.1 hY.1 hb1 hLr (z2Q hH6) (fun W=>Below w.heap.size w W∧Has W w.heap.size (z00 ZND).toArray 30) (cF.mono ?_) (fun _ _ _ _ _ h=>h) ?_
        · rintro e w' ⟨rfl,hb⟩
          have hb':Below wr.heap.size wr w':=(Below.refl _ wr).drew.trans hb
          exact ⟨_,rfl,rfl,hH6.keep hb',A.out.2.2.1.trans (hb'.mono A.out.2.2.1.size),A.out.2.2.2.1.keep hb'⟩
        · rintro X w' ⟨rfl,g1,g2,g3⟩
          dsimp only
          have Z:Aside (q≤m∧(q:Int) - 1=(q:Int) - 1∧Below w.heap.size w (w'.setRow b6 (z00 (FA d l n (m - q))).toArray)∧Has (w'.setRow b6 (z00 (FA d l n (m - q))).toArray) w.heap.size (z00 ZND).toArray 30∧Has (w'.setRow b6 (z00 (FA d l n (m - q))).toArray) b6 (z00 (FA d l n (m - q))).toArray 30):=⟨by omega,rfl,z0e g2 (by have:=K.out;omega) _,g3.row_other (by have:=K.out;omega) _,g1.row _⟩
          clear cF hLr hL hR hY hb1 hq0 hqm A g1 g2 g3 hH6
          have e1:=hE1.out
          generalize w'.setRow b6 (z00 (FA d l n (m - q))).toArray=w3 at *
          go_wp2
          go_roundg q
          case measure=>exact Nat.lt_succ_self _
          case rel=>exact ⟨_,rfl,Z.out.1,rfl,Z.out.2.2⟩
end Go.Proofs.YtbeelmlpalkohaaGreatDoor

namespace Go.Proofs.YtbeelmlpalkohaaGreatDoor
open Go.RowKit
set_option maxRecDepth 100000
def BAGA (d:Int) (n k:Nat) (l:List Int):Int × List Int:=
  if 4611686018427387904<n then (30,ZND) else if k≠PC n then (70,ZND) else (0,z66 d n (FLD d l k))
theorem zf9 {d:Int} {n k:Nat} {l:List Int}:IsH (BAGA d n k l).2:=by
  unfold BAGA
  split
  · exact z8u
  · split
    · exact z8u
    · exact z8t _ _ _
theorem z30 {fn:Func} {p q:Tmp} {ty:TypeId} (h:fn.results=#[.cell p ty,.tmp q]) (tmps:Array Value) (w:World) (g:Nat) (t:TypeId) (cs:Array Value) (fr:Nat × Nat) (k:Nat) (el:TypeId) (v:Value)
    (hp:tmps.getD p undef=.pointer (some ⟨g,0,none⟩)) (hv:tmps.getD q undef=v) (hg:w.heap[g]?=some (.cells cs t fr))
    (hu:Tryz.prog.underlying ty=some (.array k el)) (hi:(Tryz.prog.info? ty).map (·.size)=some cs.size):
    (results fn tmps).run Tryz.prog w=.ok (.tuple #[.agg cs,v]) w:=by
  have hp':tmps[p]?.getD undef=.pointer (some ⟨g,0,none⟩):=by simpa using hp
  have hv':tmps[q]?.getD undef=v:=by simpa using hv
  simp [results,h,hp',hv',asAddr,run_loadVar_row w g t ty cs fr (.array k el) hg hu rfl hi]
set_option maxHeartbeats 4000000 in
theorem zcG (d:Int) (n:Nat) (hn:n<2 ^ 64) (a:Option Addr) (k c:Nat) (w:World) (h1':¬ (4611686018427387904:Int)<(n:Int)) (h2:¬ k=POP n):
    Calls Tryz.prog 28 #[.int .i64 d,.int .u64 (n:Int),.slice a k c] w fun e w'=>e=.returned (.tuple #[.agg (z00 ZND).toArray,.int .i64 70])∧Below w.heap.size w w':=by
  have R0:Aside (Below w.heap.size w (w.alloc (.cells ZARR 30))∧Has (w.alloc (.cells ZARR 30)) w.heap.size (z00 ZND).toArray 30):=⟨(Below.refl _ _).alloc (Nat.le_refl _) _,by rw [z6D];exact Has.new _ _ _⟩
  have cO:=z1t n hn (w.alloc (.cells ZARR 30))
  generalize POP n=pp at *
  have e2:¬ (k:Int)=(pp:Int):=by omega
  clear hn
  go_enter Tryz.func28,Tryz.ntmps28
  go_upto_region 3 with fail
  rw [show (#[.int .u8 0,.int .u8 0,.int .u8 0,.int .u8 0,.int .u8 0,.int .u8 0,.int .u8 0,.int .u8 0,.int .u8 0,.int .u8 0,.int .u8 0,.int .u8 0,.int .u8 0,.int .u8 0,.int .u8 0,.int .u8 0,.int .u8 0,.int .u8 0,.int .u8 0,.int .u8 0,.int .u8 0,.int .u8 0,.int .u8 0,.int .u8 0,.int .u8 0,.int .u8 0,.int .u8 0,.int .u8 0,.int .u8 0,.int .u8 0,.int .u8 0,.int .u8 0]:Array Value)=ZARR from rfl]
  generalize w.alloc (.cells ZARR 30)=W0 at *
  go_wp2_with fail
  refine cO.mono ?_
  rintro e w1 ⟨rfl,rfl⟩
  clear cO
  go_upto_region 4 with fail
  go_wp2_with (rw [show (#[.int .u8 0,.int .u8 0,.int .u8 0,.int .u8 0,.int .u8 0,.int .u8 0,.int .u8 0,.int .u8 0,.int .u8 0,.int .u8 0,.int .u8 0,.int .u8 0,.int .u8 0,.int .u8 0,.int .u8 0,.int .u8 0,.int .u8 0,.int .u8 0,.int .u8 0,.int .u8 0,.int .u8 0,.int .u8 0,.int .u8 0,.int .u8 0,.int .u8 0,.int .u8 0,.int .u8 0,.int .u8 0,.int .u8 0,.int .u8 0,.int .u8 0,.int .u8 0]:Array Value)=(z00 ZND).toArray from rfl];refine wpList_store_row rfl 30 (.tmp 6) (.tmp 16) rfl _ _ rfl rfl 30 _ R0.out.2 (z0j rfl) rfl (z0B ZND) ?_)
  refine bodyPost_ret (v:=.tuple #[.agg (z00 ZND).toArray,.int .i64 70]) (z30 rfl _ _ w.heap.size 30 _ (0,0) _ _ _ rfl rfl (Has.row R0.out.2 _) Tryz.underlying30 (z0j rfl)) rfl ⟨rfl,z0e R0.out.1 (Nat.le_refl _) _⟩
end Go.Proofs.YtbeelmlpalkohaaGreatDoor

namespace Go.Proofs.YtbeelmlpalkohaaGreatDoor
open Go.RowKit
set_option maxRecDepth 100000
set_option maxHeartbeats 4000000 in
theorem zcH (d:Int) (n:Nat) (hn:n<2 ^ 64) (a:Option Addr) (k c:Nat) (l:List Int) (w:World) (hF:Flat w a k l) (hX:HX.Tabled w):
    Calls Tryz.prog 28 #[.int .i64 d,.int .u64 (n:Int),.slice a k c] w fun e w'=>e=.returned (.tuple #[.agg (z00 (BAGA d n k l).2).toArray,.int .i64 (BAGA d n k l).1])∧Below w.heap.size w w':=by
  have R0:Aside (Below w.heap.size w (w.alloc (.cells ZARR 30))∧Has (w.alloc (.cells ZARR 30)) w.heap.size (z00 ZND).toArray 30):=⟨(Below.refl _ _).alloc (Nat.le_refl _) _,by rw [z6D];exact Has.new _ _ _⟩
  have HA:Aside (Flat w a k l∧HX.Tabled w∧n<2 ^ 64):=⟨hF,hX,hn⟩
  clear hF hX
  by_cases h1:4611686018427387904<n
  · have e:BAGA d n k l=(30,ZND):=if_pos h1
    rw [e]
    have h1':(4611686018427387904:Int)<(n:Int):=by omega
    clear e HA hn
    go_enter Tryz.func28,Tryz.ntmps28
    go_upto_region 2 with fail
    rw [show (#[.int .u8 0,.int .u8 0,.int .u8 0,.int .u8 0,.int .u8 0,.int .u8 0,.int .u8 0,.int .u8 0,.int .u8 0,.int .u8 0,.int .u8 0,.int .u8 0,.int .u8 0,.int .u8 0,.int .u8 0,.int .u8 0,.int .u8 0,.int .u8 0,.int .u8 0,.int .u8 0,.int .u8 0,.int .u8 0,.int .u8 0,.int .u8 0,.int .u8 0,.int .u8 0,.int .u8 0,.int .u8 0,.int .u8 0,.int .u8 0,.int .u8 0,.int .u8 0]:Array Value)=ZARR from rfl]
    generalize w.alloc (.cells ZARR 30)=W0 at *
    go_wp2_with (rw [show (#[.int .u8 0,.int .u8 0,.int .u8 0,.int .u8 0,.int .u8 0,.int .u8 0,.int .u8 0,.int .u8 0,.int .u8 0,.int .u8 0,.int .u8 0,.int .u8 0,.int .u8 0,.int .u8 0,.int .u8 0,.int .u8 0,.int .u8 0,.int .u8 0,.int .u8 0,.int .u8 0,.int .u8 0,.int .u8 0,.int .u8 0,.int .u8 0,.int .u8 0,.int .u8 0,.int .u8 0,.int .u8 0,.int .u8 0,.int .u8 0,.int .u8 0,.int .u8 0]:Array Value)=(z00 ZND).toArray from rfl];refine wpList_store_row rfl 30 (.tmp 6) (.tmp 10) rfl _ _ rfl rfl 30 _ R0.out.2 (z0j rfl) rfl (z0B ZND) ?_)
    refine bodyPost_ret (v:=.tuple #[.agg (z00 ZND).toArray,.int .i64 30]) (z30 rfl _ _ w.heap.size 30 _ (0,0) _ _ _ rfl rfl (Has.row R0.out.2 _) Tryz.underlying30 (z0j rfl)) rfl ⟨rfl,z0e R0.out.1 (Nat.le_refl _) _⟩
  have h1':¬ (4611686018427387904:Int)<(n:Int):=by omega
  have hpop:=z4H hn
  by_cases h2:k=PC n
  · have e:BAGA d n k l=(0,z66 d n (FLD d l k)):=by unfold BAGA;rw [if_neg h1,if_neg (by simpa using h2)]
    rw [e]
    have hk:Aside (k≤64):=by have:=z1h 64 n hn;show k≤64;omega
    have e2:(k:Int)=((POP n:Nat):Int):=by rw [hpop,h2]
    clear e h2 hpop h1
    go_enter Tryz.func28,Tryz.ntmps28
    go_upto_region 3 with fail
    rw [show (#[.int .u8 0,.int .u8 0,.int .u8 0,.int .u8 0,.int .u8 0,.int .u8 0,.int .u8 0,.int .u8 0,.int .u8 0,.int .u8 0,.int .u8 0,.int .u8 0,.int .u8 0,.int .u8 0,.int .u8 0,.int .u8 0,.int .u8 0,.int .u8 0,.int .u8 0,.int .u8 0,.int .u8 0,.int .u8 0,.int .u8 0,.int .u8 0,.int .u8 0,.int .u8 0,.int .u8 0,.int .u8 0,.int .u8 0,.int .u8 0,.int .u8 0,.int .u8 0]:Array Value)=ZARR from rfl]
    generalize w.alloc (.cells ZARR 30)=W0 at *
    go_wp2_with fail
    refine (z1t n hn W0).mono ?_
    rintro e w1 ⟨rfl,rfl⟩
    go_wp2_with fail
    refine (zcF d a k c (by have:=hk.out;omega) l W0 (HA.out.1.below R0.out.1) (HA.out.2.1.below R0.out.1)).mono ?_
    rintro e w1 ⟨rfl,hb⟩
    have R1:Aside (Below w.heap.size w w1∧Has w1 w.heap.size (z00 ZND).toArray 30):=⟨R0.out.1.trans (hb.mono R0.out.1.size),R0.out.2.keep hb⟩
    clear hb R0
    have hI:=zhB (d:=d) HA.out.1.1 HA.out.1.2.2
    go_wp2_with fail
    refine (ze8 d n hn (FLD d l k) hI w1 (HA.out.2.1.below R1.out.1)).mono ?_
    rintro e w2 ⟨rfl,hb⟩
    have R2:Aside (Below w.heap.size w w2∧Has w2 w.heap.size (z00 ZND).toArray 30):=⟨R1.out.1.trans (hb.mono R1.out.1.size),R1.out.2.keep hb⟩
    clear hb R1 hI
    have y32:=(z8t d n (FLD d l k)).1
    generalize hY:z66 d n (FLD d l k)=Y at *
    go_wp2_with (refine wpList_store_row rfl 30 (.tmp 6) (.tmp 22) rfl _ _ rfl rfl 30 _ R2.out.2 (z0j y32) (by simp [z00,y32];rfl) (z0B Y) ?_)
    refine bodyPost_ret (v:=.tuple #[.agg (z00 Y).toArray,.int .i64 0]) (z30 rfl _ _ w.heap.size 30 _ (0,0) _ _ _ rfl rfl (Has.row R2.out.2 _) Tryz.underlying30 (z0j y32)) rfl ⟨by rw [hY],z0e R2.out.1 (Nat.le_refl _) _⟩
  · have e:BAGA d n k l=(70,ZND):=by unfold BAGA;rw [if_neg h1,if_pos h2]
    rw [e]
    exact zcG d n hn a k c w h1' (by rw [hpop];exact h2)
end Go.Proofs.YtbeelmlpalkohaaGreatDoor

namespace Go.Proofs.YtbeelmlpalkohaaGreatDoor
open Go.RowKit
set_option maxRecDepth 100000
theorem z5r {ops:Array Oper} {rest:List Oper} {o:Oper} {a:Act} {w:World} {Q:Exit→Act→World→Prop} (hw:Region.wanted o (yielded ops a.tmps)=true) (ty:TypeId) (x:Operand) (ho:o.op=.load ty x) (n:Nat) (e:TypeId)
    (b:Nat) (hx:a.eval x=.pointer (some ⟨b,0,none⟩)) (t:TypeId) (cs:Array Value) (fr:Nat × Nat) (hb:w.heap[b]?=some (.cells cs t fr)) (hu:Tryz.prog.underlying ty=some (.array n e)) (hi:(Tryz.prog.info? ty).map (·.size)=some cs.size)
    (h:wpList Tryz.prog ops Q rest (a.put o.dst (.agg cs)) w):wpList Tryz.prog ops Q (o :: rest) a w:=by
  simp only [wpList]
  rw [if_pos hw]
  exact .inl (wp_load_row ty x ho b hx t cs fr (.array n e) hb hu rfl hi h)
end Go.Proofs.YtbeelmlpalkohaaGreatDoor

namespace Go.Proofs.YtbeelmlpalkohaaGreatDoor
open Go.RowKit
set_option maxRecDepth 100000
def z1N:Array Oper:=#[⟨some 16,.move (.tmp 0),22,"slices.go:25",#[],none⟩,⟨some 17,.move (.tmp 5),3,"slices.go:25",#[],none⟩,⟨some 18,.indexAddr 22 (.tmp 16) (.tmp 17),0,"slices.go:25",#[⟨0,.data⟩,⟨1,.data⟩],none⟩,⟨some 19,.load 30 (.tmp 18),30,"slices.go:25",#[⟨2,.data⟩],none⟩,⟨some 20,.move (.tmp 1),22,"slices.go:25",#[],none⟩,⟨some 21,.move (.tmp 5),3,"slices.go:25",#[],none⟩,⟨some 22,.indexAddr 22 (.tmp 20) (.tmp 21),0,"slices.go:25",#[⟨4,.data⟩,⟨5,.data⟩],none⟩,⟨some 23,.load 30 (.tmp 22),30,"slices.go:25",#[⟨6,.data⟩],none⟩,⟨some 24,.binOp .neq 30 (.tmp 19) (.tmp 23) 30,4,"slices.go:25",#[⟨3,.data⟩,⟨7,.data⟩],none⟩]
set_option maxHeartbeats 2000000 in
theorem z4R {Q:Exit→Act→World→Prop} (u2 u3 u4 u6 u7 u8 u9 u10 u11 u12 u13 u14 u15 u16 u17 u18 u19 u20 u21 u22 u23 u24 u25:Value) (W:World) (w0:World) (ba oa n ca bb ob m cb i:Nat) (H K:List Int) (hH:H.length=32) (hK:K.length=32) (b1:(i:Int)<(n:Int)) (b2:(i:Int)<(m:Int)) (hS:(fun W:World=>W.rangeAt ba (oa+i*32) (z00 H)∧W.rangeAt bb (ob+i*32) (z00 K)∧Below w0.heap.size w0 W) W) (hQ:∀ c (a:Act) (t:Tmp) (v:Value) w,Q (.panic c) (a.put (some t) v) w→Q (.panic c) a w)
    (h:∀ w,(fun W:World=>W.rangeAt ba (oa+i*32) (z00 H)∧W.rangeAt bb (ob+i*32) (z00 K)∧Below w0.heap.size w0 W) w→Q .normal {tmps:=#[.slice (some ⟨ba,oa,none⟩) n ca,.slice (some ⟨bb,ob,none⟩) m cb,u2,u3,u4,.int .i64 (i:Int),u6,u7,u8,u9,u10,u11,u12,u13,u14,u15,.slice (some ⟨ba,oa,none⟩) n ca,.int .i64 (i:Int),.pointer (some ⟨ba,oa+i*32,none⟩),.agg (z00 H).toArray,.slice (some ⟨bb,ob,none⟩) m cb,.int .i64 (i:Int),.pointer (some ⟨bb,ob+i*32,none⟩),.agg (z00 K).toArray,.bool (!decide (H=K)),u25],defers:=[]} w):(Code.region 6 z1N true).wp Tryz.prog Q {tmps:=#[.slice (some ⟨ba,oa,none⟩) n ca,.slice (some ⟨bb,ob,none⟩) m cb,u2,u3,u4,.int .i64 (i:Int),u6,u7,u8,u9,u10,u11,u12,u13,u14,u15,u16,u17,u18,u19,u20,u21,u22,u23,u24,u25],defers:=[]} W:=by
  have hs0:(fun W:World=>W.rangeAt ba (oa+i*32) (z00 H)∧W.rangeAt bb (ob+i*32) (z00 K)∧Below w0.heap.size w0 W) W.drew:=⟨hS.1,hS.2.1,hS.2.2.drew⟩
  have k0:∀ w,(fun W:World=>W.rangeAt ba (oa+i*32) (z00 H)∧W.rangeAt bb (ob+i*32) (z00 K)∧Below w0.heap.size w0 W) w→wpAnyH Tryz.prog .any z1N Q (fun W:World=>W.rangeAt ba (oa+i*32) (z00 H)∧W.rangeAt bb (ob+i*32) (z00 K)∧Below w0.heap.size w0 W) 9 #[false,false,false,false,false,false,false,false,false] {tmps:=#[.slice (some ⟨ba,oa,none⟩) n ca,.slice (some ⟨bb,ob,none⟩) m cb,u2,u3,u4,.int .i64 (i:Int),u6,u7,u8,u9,u10,u11,u12,u13,u14,u15,u16,u17,u18,u19,u20,u21,u22,u23,u24,u25],defers:=[]} w:=fun w hw=>by
    have hww:(fun W:World=>W.rangeAt ba (oa+i*32) (z00 H)∧W.rangeAt bb (ob+i*32) (z00 K)∧Below w0.heap.size w0 W) w:=hw
    have last:wpAnyH Tryz.prog .any z1N Q (fun W:World=>W.rangeAt ba (oa+i*32) (z00 H)∧W.rangeAt bb (ob+i*32) (z00 K)∧Below w0.heap.size w0 W) 0 #[true,true,true,true,true,true,true,true,true] {tmps:=#[.slice (some ⟨ba,oa,none⟩) n ca,.slice (some ⟨bb,ob,none⟩) m cb,u2,u3,u4,.int .i64 (i:Int),u6,u7,u8,u9,u10,u11,u12,u13,u14,u15,.slice (some ⟨ba,oa,none⟩) n ca,.int .i64 (i:Int),.pointer (some ⟨ba,oa+i*32,none⟩),.agg (z00 H).toArray,.slice (some ⟨bb,ob,none⟩) m cb,.int .i64 (i:Int),.pointer (some ⟨bb,ob+i*32,none⟩),.agg (z00 K).toArray,.bool (!decide (H=K)),u25],defers:=[]} w:=wpAnyH_done (by kernel_rfl) (h w hw) _
    have t8:wpAnyH Tryz.prog .any z1N Q (fun W:World=>W.rangeAt ba (oa+i*32) (z00 H)∧W.rangeAt bb (ob+i*32) (z00 K)∧Below w0.heap.size w0 W) 1 #[true,true,true,true,true,true,true,true,false] {tmps:=#[.slice (some ⟨ba,oa,none⟩) n ca,.slice (some ⟨bb,ob,none⟩) m cb,u2,u3,u4,.int .i64 (i:Int),u6,u7,u8,u9,u10,u11,u12,u13,u14,u15,.slice (some ⟨ba,oa,none⟩) n ca,.int .i64 (i:Int),.pointer (some ⟨ba,oa+i*32,none⟩),.agg (z00 H).toArray,.slice (some ⟨bb,ob,none⟩) m cb,.int .i64 (i:Int),.pointer (some ⟨bb,ob+i*32,none⟩),.agg (z00 K).toArray,u24,u25],defers:=[]} w:=
      wpAnyH_take (i:=8) (oi:=⟨some 24,.binOp .neq 30 (.tmp 19) (.tmp 23) 30,4,"slices.go:25",#[⟨3,.data⟩,⟨7,.data⟩],none⟩) (v:=.bool (!decide (H=K))) rfl (by kernel_rfl) (by kernel_rfl) (by kernel_rfl) (fun _ _ _ h=>hQ _ _ _ _ _ h) (Yields.yieldsIf (Or.inl ⟨by rfl,fun W=>z0c (zbc hH hK _ _ W)⟩)) hww last
    have t7:wpAnyH Tryz.prog .any z1N Q (fun W:World=>W.rangeAt ba (oa+i*32) (z00 H)∧W.rangeAt bb (ob+i*32) (z00 K)∧Below w0.heap.size w0 W) 2 #[true,true,true,true,true,true,true,false,false] {tmps:=#[.slice (some ⟨ba,oa,none⟩) n ca,.slice (some ⟨bb,ob,none⟩) m cb,u2,u3,u4,.int .i64 (i:Int),u6,u7,u8,u9,u10,u11,u12,u13,u14,u15,.slice (some ⟨ba,oa,none⟩) n ca,.int .i64 (i:Int),.pointer (some ⟨ba,oa+i*32,none⟩),.agg (z00 H).toArray,.slice (some ⟨bb,ob,none⟩) m cb,.int .i64 (i:Int),.pointer (some ⟨bb,ob+i*32,none⟩),u23,u24,u25],defers:=[]} w:=
      wpAnyH_take (i:=7) (oi:=⟨some 23,.load 30 (.tmp 22),30,"slices.go:25",#[⟨6,.data⟩],none⟩) (v:=.agg (z00 K).toArray) rfl (by kernel_rfl) (by kernel_rfl) (by kernel_rfl) (fun _ _ _ h=>hQ _ _ _ _ _ h) (yieldsIf_load_mid (by rfl) 30 (.tmp 22) rfl bb (ob+i*32) rfl (z00 K) _ (fun w h=>h.2.1) Tryz.underlying30 rfl (z0r hK)) hww t8
    have t6:wpAnyH Tryz.prog .any z1N Q (fun W:World=>W.rangeAt ba (oa+i*32) (z00 H)∧W.rangeAt bb (ob+i*32) (z00 K)∧Below w0.heap.size w0 W) 3 #[true,true,true,true,true,true,false,false,false] {tmps:=#[.slice (some ⟨ba,oa,none⟩) n ca,.slice (some ⟨bb,ob,none⟩) m cb,u2,u3,u4,.int .i64 (i:Int),u6,u7,u8,u9,u10,u11,u12,u13,u14,u15,.slice (some ⟨ba,oa,none⟩) n ca,.int .i64 (i:Int),.pointer (some ⟨ba,oa+i*32,none⟩),.agg (z00 H).toArray,.slice (some ⟨bb,ob,none⟩) m cb,.int .i64 (i:Int),u22,u23,u24,u25],defers:=[]} w:=
      wpAnyH_take (i:=6) (oi:=⟨some 22,.indexAddr 22 (.tmp 20) (.tmp 21),0,"slices.go:25",#[⟨4,.data⟩,⟨5,.data⟩],none⟩) (v:=.pointer (some ⟨bb,ob+i*32,none⟩)) rfl (by kernel_rfl) (by kernel_rfl) (by kernel_rfl) (fun _ _ _ h=>hQ _ _ _ _ _ h) (Yields.yieldsIf (Or.inl ⟨by rfl,fun W=>by go_simp⟩)) hww t7
    have t5:wpAnyH Tryz.prog .any z1N Q (fun W:World=>W.rangeAt ba (oa+i*32) (z00 H)∧W.rangeAt bb (ob+i*32) (z00 K)∧Below w0.heap.size w0 W) 4 #[true,true,true,true,true,false,false,false,false] {tmps:=#[.slice (some ⟨ba,oa,none⟩) n ca,.slice (some ⟨bb,ob,none⟩) m cb,u2,u3,u4,.int .i64 (i:Int),u6,u7,u8,u9,u10,u11,u12,u13,u14,u15,.slice (some ⟨ba,oa,none⟩) n ca,.int .i64 (i:Int),.pointer (some ⟨ba,oa+i*32,none⟩),.agg (z00 H).toArray,.slice (some ⟨bb,ob,none⟩) m cb,u21,u22,u23,u24,u25],defers:=[]} w:=
      wpAnyH_take (i:=5) (oi:=⟨some 21,.move (.tmp 5),3,"slices.go:25",#[],none⟩) (v:=.int .i64 (i:Int)) rfl (by kernel_rfl) (by kernel_rfl) (by kernel_rfl) (fun _ _ _ h=>hQ _ _ _ _ _ h) (Yields.yieldsIf (Or.inl ⟨by rfl,fun W=>by go_simp⟩)) hww t6
    have t4:wpAnyH Tryz.prog .any z1N Q (fun W:World=>W.rangeAt ba (oa+i*32) (z00 H)∧W.rangeAt bb (ob+i*32) (z00 K)∧Below w0.heap.size w0 W) 5 #[true,true,true,true,false,false,false,false,false] {tmps:=#[.slice (some ⟨ba,oa,none⟩) n ca,.slice (some ⟨bb,ob,none⟩) m cb,u2,u3,u4,.int .i64 (i:Int),u6,u7,u8,u9,u10,u11,u12,u13,u14,u15,.slice (some ⟨ba,oa,none⟩) n ca,.int .i64 (i:Int),.pointer (some ⟨ba,oa+i*32,none⟩),.agg (z00 H).toArray,u20,u21,u22,u23,u24,u25],defers:=[]} w:=
      wpAnyH_take (i:=4) (oi:=⟨some 20,.move (.tmp 1),22,"slices.go:25",#[],none⟩) (v:=.slice (some ⟨bb,ob,none⟩) m cb) rfl (by kernel_rfl) (by kernel_rfl) (by kernel_rfl) (fun _ _ _ h=>hQ _ _ _ _ _ h) (Yields.yieldsIf (Or.inl ⟨by rfl,fun W=>by go_simp⟩)) hww t5
    have t3:wpAnyH Tryz.prog .any z1N Q (fun W:World=>W.rangeAt ba (oa+i*32) (z00 H)∧W.rangeAt bb (ob+i*32) (z00 K)∧Below w0.heap.size w0 W) 6 #[true,true,true,false,false,false,false,false,false] {tmps:=#[.slice (some ⟨ba,oa,none⟩) n ca,.slice (some ⟨bb,ob,none⟩) m cb,u2,u3,u4,.int .i64 (i:Int),u6,u7,u8,u9,u10,u11,u12,u13,u14,u15,.slice (some ⟨ba,oa,none⟩) n ca,.int .i64 (i:Int),.pointer (some ⟨ba,oa+i*32,none⟩),u19,u20,u21,u22,u23,u24,u25],defers:=[]} w:=
      wpAnyH_take (i:=3) (oi:=⟨some 19,.load 30 (.tmp 18),30,"slices.go:25",#[⟨2,.data⟩],none⟩) (v:=.agg (z00 H).toArray) rfl (by kernel_rfl) (by kernel_rfl) (by kernel_rfl) (fun _ _ _ h=>hQ _ _ _ _ _ h) (yieldsIf_load_mid (by rfl) 30 (.tmp 18) rfl ba (oa+i*32) rfl (z00 H) _ (fun w h=>h.1) Tryz.underlying30 rfl (z0r hH)) hww t4
    have t2:wpAnyH Tryz.prog .any z1N Q (fun W:World=>W.rangeAt ba (oa+i*32) (z00 H)∧W.rangeAt bb (ob+i*32) (z00 K)∧Below w0.heap.size w0 W) 7 #[true,true,false,false,false,false,false,false,false] {tmps:=#[.slice (some ⟨ba,oa,none⟩) n ca,.slice (some ⟨bb,ob,none⟩) m cb,u2,u3,u4,.int .i64 (i:Int),u6,u7,u8,u9,u10,u11,u12,u13,u14,u15,.slice (some ⟨ba,oa,none⟩) n ca,.int .i64 (i:Int),u18,u19,u20,u21,u22,u23,u24,u25],defers:=[]} w:=
      wpAnyH_take (i:=2) (oi:=⟨some 18,.indexAddr 22 (.tmp 16) (.tmp 17),0,"slices.go:25",#[⟨0,.data⟩,⟨1,.data⟩],none⟩) (v:=.pointer (some ⟨ba,oa+i*32,none⟩)) rfl (by kernel_rfl) (by kernel_rfl) (by kernel_rfl) (fun _ _ _ h=>hQ _ _ _ _ _ h) (Yields.yieldsIf (Or.inl ⟨by rfl,fun W=>by go_simp⟩)) hww t3
    have t1:wpAnyH Tryz.prog .any z1N Q (fun W:World=>W.rangeAt ba (oa+i*32) (z00 H)∧W.rangeAt bb (ob+i*32) (z00 K)∧Below w0.heap.size w0 W) 8 #[true,false,false,false,false,false,false,false,false] {tmps:=#[.slice (some ⟨ba,oa,none⟩) n ca,.slice (some ⟨bb,ob,none⟩) m cb,u2,u3,u4,.int .i64 (i:Int),u6,u7,u8,u9,u10,u11,u12,u13,u14,u15,.slice (some ⟨ba,oa,none⟩) n ca,u17,u18,u19,u20,u21,u22,u23,u24,u25],defers:=[]} w:=
      wpAnyH_take (i:=1) (oi:=⟨some 17,.move (.tmp 5),3,"slices.go:25",#[],none⟩) (v:=.int .i64 (i:Int)) rfl (by kernel_rfl) (by kernel_rfl) (by kernel_rfl) (fun _ _ _ h=>hQ _ _ _ _ _ h) (Yields.yieldsIf (Or.inl ⟨by rfl,fun W=>by go_simp⟩)) hww t2
    have t0:wpAnyH Tryz.prog .any z1N Q (fun W:World=>W.rangeAt ba (oa+i*32) (z00 H)∧W.rangeAt bb (ob+i*32) (z00 K)∧Below w0.heap.size w0 W) 9 #[false,false,false,false,false,false,false,false,false] {tmps:=#[.slice (some ⟨ba,oa,none⟩) n ca,.slice (some ⟨bb,ob,none⟩) m cb,u2,u3,u4,.int .i64 (i:Int),u6,u7,u8,u9,u10,u11,u12,u13,u14,u15,u16,u17,u18,u19,u20,u21,u22,u23,u24,u25],defers:=[]} w:=
      wpAnyH_take (i:=0) (oi:=⟨some 16,.move (.tmp 0),22,"slices.go:25",#[],none⟩) (v:=.slice (some ⟨ba,oa,none⟩) n ca) rfl (by kernel_rfl) (by kernel_rfl) (by kernel_rfl) (fun _ _ _ h=>hQ _ _ _ _ _ h) (Yields.yieldsIf (Or.inl ⟨by rfl,fun W=>by go_simp⟩)) hww t1
    exact t0
  exact wp_region_held_drew (S:=(fun W:World=>W.rangeAt ba (oa+i*32) (z00 H)∧W.rangeAt bb (ob+i*32) (z00 K)∧Below w0.heap.size w0 W)) (by kernel_rfl) hs0 (fun _=>k0 _ hs0)
set_option maxHeartbeats 1000000 in
theorem z6G (a b:Option Addr) (n m ca cb:Nat) (l k:List Int) (w:World) (hA:Flat w a n l) (hB:Flat w b m k) (hn:n≤1000000):
    Calls Tryz.prog 34 #[.slice a n ca,.slice b m cb] w fun e w'=>e=.returned (.bool (decide (l=k)))∧Below w.heap.size w w':=by
  by_cases hnm:n=m
  · subst hnm
    rcases Nat.eq_zero_or_pos n with h | h
    · subst h
      have hd:decide (l=k)=true:=by
        rw [List.eq_nil_of_length_eq_zero hA.1,List.eq_nil_of_length_eq_zero hB.1]
        rfl
      rw [hd]
      clear hA hB hd
      go_enter Tryz.func34,Tryz.ntmps34
      go_wp2
      refine wp_loop_rounds 1 ?_
      rw [rounds_succ]
      go_wp2
      go_ret
      exact ⟨rfl,Below.refl _ _⟩
    · obtain ⟨ba,oa,rfl,la,hca⟩:=hA.2.1 h
      obtain ⟨bb,ob,rfl,lb,hcb⟩:=hB.2.1 h
      have HC:Aside (Flat w (some ⟨ba,oa,none⟩) n l∧Flat w (some ⟨bb,ob,none⟩) n k∧n≤1000000):=⟨hA,hB,hn⟩
      clear hA hB hca hcb la lb hn
      obtain ⟨D,hD⟩:∃ D,D=decide (l=k):=⟨_,rfl⟩
      rw [← hD]
      have HD:Aside (D=decide (l=k)):=hD
      clear hD
      go_enter Tryz.func34,Tryz.ntmps34
      go_wp2
      go_loopg [13] n (fun g s13 wx=>∃ i:Nat,s13=.int .i64 i∧Aside (i+g=n∧Below w.heap.size w wx∧∀ j,j<i→HSH l j=HSH k j))
      case atStart=>exact ⟨0,rfl,by omega,Below.refl _ _,fun j hj=>by omega⟩
      case round=>
        obtain ⟨i,rfl,A⟩:=hrel
        cases gk with
        | zero=>
          obtain rfl:i=n:=by have:=A.out.1;omega
          have hlt:¬ (i:Int)<(i:Int):=by omega
          have hd:Aside (D=true):=by
            show D=true
            rw [HD.out,decide_eq_true_iff]
            exact zf8 HC.out.1.1 HC.out.2.1.1 A.out.2.2
          clear HD HC
          go_wp2
          go_ret
          exact ⟨by rw [hd.out];rfl,A.out.2.1⟩
        | succ g=>
          obtain ⟨hig,hbel,hbef⟩:=A.out
          have hlt:(i:Int)<(n:Int):=by omega
          have r1:=(HC.out.1.below hbel).at (show i<n by omega)
          have r2:=(HC.out.2.1.below hbel).at (show i<n by omega)
          have l1:=z1C HC.out.1.1 (show i<n by omega)
          have l2:=z1C HC.out.2.1.1 (show i<n by omega)
          have E1:Aside (wrap64 ((i:Int)+1)=((i+1:Nat):Int)):=by have:=HC.out.2.2;show wrap64 ((i:Int)+1)=((i+1:Nat):Int);unfold wrap64;omega
          by_cases he:HSH l i=HSH k i
          · have B:Aside (i+1+g=n∧∀ j,j<i+1→HSH l j=HSH k j):=⟨by omega,fun j hj=>by
              by_cases e:j=i
              · rw [e];exact he
              · exact hbef j (by omega)⟩
            have hdf:(!decide (HSH l i=HSH k i))=false:=by rw [he];simp
            have Z:Aside (Below w.heap.size w wr):=hbel
            clear he hig hbel hbef A HD HC
            generalize HSH l i=H at *
            generalize HSH k i=K at *
            go_upto_region 6 with fail
            refine z4R _ _ _ _ _ _ _ _ _ _ _ _ _ _ _ _ _ _ _ _ _ _ _ _ w ba oa n ca bb ob n cb i H K l1 l2 hlt hlt ⟨r1,r2,Z.out⟩ (fun _ _ _ _ _ h=>h) ?_
            rintro w1 ⟨_,_,q3⟩
            rw [hdf]
            clear r1 r2 l1 l2 hdf
            have Z2:Aside (Below w.heap.size w w1):=q3
            clear q3 Z
            have e1:=E1.out
            go_wp2
            go_roundg g
            case measure=>exact Nat.lt_succ_self _
            case rel=>exact ⟨i+1,by first | rfl | (rw [E1.out]),B.out.1,Z2.out,B.out.2⟩
          · have hd:Aside (D=false):=by
              show D=false
              rw [HD.out,decide_eq_false_iff_not]
              intro e
              rw [e] at he
              exact he rfl
            have hdf:(!decide (HSH l i=HSH k i))=true:=by simp [he]
            have Z:Aside (Below w.heap.size w wr):=hbel
            clear he hig hbel hbef A HD HC E1
            generalize HSH l i=H at *
            generalize HSH k i=K at *
            go_upto_region 6 with fail
            refine z4R _ _ _ _ _ _ _ _ _ _ _ _ _ _ _ _ _ _ _ _ _ _ _ _ w ba oa n ca bb ob n cb i H K l1 l2 hlt hlt ⟨r1,r2,Z.out⟩ (fun _ _ _ _ _ h=>h) ?_
            rintro w1 ⟨_,_,q3⟩
            rw [hdf]
            clear r1 r2 l1 l2 hdf
            have Z2:Aside (Below w.heap.size w w1):=q3
            clear q3 Z
            go_wp2
            go_ret
            exact ⟨by rw [hd.out];rfl,Z2.out⟩
  · have hne:¬ (n:Int)=(m:Int):=by omega
    have hd:decide (l=k)=false:=by
      rw [decide_eq_false_iff_not]
      intro e
      rw [e] at hA
      have:=hA.1.symm.trans hB.1
      omega
    rw [hd]
    clear hA hB hd
    go_enter Tryz.func34,Tryz.ntmps34
    go_wp2
    go_ret
    exact ⟨rfl,Below.refl _ _⟩
end Go.Proofs.YtbeelmlpalkohaaGreatDoor
