/- Texts of VerifyTurns, one behind the other: VerifyBag, VerifyCount, VerifyUnder, VerifyRooted. -/
import Derived.Test.YthjeeblddipiiaaGreatDoorVerifyTurnsP14
import Derived.Test.YthjeeblddipiiaaGreatDoorVerifyTurnsP15
namespace Go.Proofs.YthjeeblddipiiaaGreatDoor
open Go.RowKit
set_option maxRecDepth 100000
def FA (d:Int) (l:List Int) (n:Nat):Nat→List Int
  | 0=>HSH l (n - 1)
  | k+1=>z1O d (HSH l (n - 2 - k)) (FA d l n k)
def FLD (d:Int) (l:List Int) (n:Nat):List Int:=if n=0 then ZND else FA d l n (n - 1)
theorem zeC {d:Int} {l:List Int} {n:Nat} (hl:l.length=32*n) (hr:∀ x∈l,0≤x∧x≤255) (hn:0<n):∀ k,IsH (FA d l n k)
  | 0=>z81 hl hr (by omega)
  | k+1=>z7W _ _ _
theorem zge {d:Int} {l:List Int} {n:Nat} (hl:l.length=32*n) (hr:∀ x∈l,0≤x∧x≤255):IsH (FLD d l n):=by
  unfold FLD
  split
  · exact z5r
  · exact zeC hl hr (by omega) _
theorem z4H {fn:Func} {p:Tmp} {ty:TypeId} (h:fn.results=#[.cell p ty]) (tmps:Array Value) (w:World) (g:Nat) (t:TypeId) (cs:Array Value) (fr:Nat × Nat) (k:Nat) (el:TypeId)
    (hp:tmps.getD p undef=.pointer (some ⟨g,0,none⟩)) (hg:w.heap[g]?=some (.cells cs t fr))
    (hu:Tryz.prog.underlying ty=some (.array k el)) (hi:(Tryz.prog.info? ty).map (·.size)=some cs.size):
    (results fn tmps).run Tryz.prog w=.ok (.agg cs) w:=by
  have hp':tmps[p]?.getD undef=.pointer (some ⟨g,0,none⟩):=by simpa using hp
  simp [results,h,hp',asAddr,run_loadVar_row w g t ty cs fr (.array k el) hg hu rfl hi]
set_option maxHeartbeats 4000000 in
theorem zcj (d:Int) (a:Option Addr) (n c:Nat) (hn:n≤1000) (l:List Int) (w:World) (hF:Flat w a n l) (hX:HX.Tabled w):
    Calls Tryz.prog 36 #[.int .i64 d,.slice a n c] w fun e w'=>e=.returned (.agg (z00 (FLD d l n)).toArray)∧Below w.heap.size w w':=by
  have R0:Aside (Below w.heap.size w (w.alloc (.cells ZARR 32))∧Has (w.alloc (.cells ZARR 32)) w.heap.size (z00 ZND).toArray 32):=⟨(Below.refl _ _).alloc (Nat.le_refl _) _,by rw [z66];exact Has.new _ _ _⟩
  by_cases h0:n=0
  · subst h0
    have e:FLD d l 0=ZND:=rfl
    rw [e]
    clear hF hX hn e
    go_enter Tryz.func36,Tryz.ntmps36
    go_upto_region 2 with fail
    rw [show (#[.int .u8 0,.int .u8 0,.int .u8 0,.int .u8 0,.int .u8 0,.int .u8 0,.int .u8 0,.int .u8 0,.int .u8 0,.int .u8 0,.int .u8 0,.int .u8 0,.int .u8 0,.int .u8 0,.int .u8 0,.int .u8 0,.int .u8 0,.int .u8 0,.int .u8 0,.int .u8 0,.int .u8 0,.int .u8 0,.int .u8 0,.int .u8 0,.int .u8 0,.int .u8 0,.int .u8 0,.int .u8 0,.int .u8 0,.int .u8 0,.int .u8 0,.int .u8 0]:Array Value)=ZARR from rfl]
    generalize w.alloc (.cells ZARR 32)=W0 at *
    go_wp2_with (rw [show (#[.int .u8 0,.int .u8 0,.int .u8 0,.int .u8 0,.int .u8 0,.int .u8 0,.int .u8 0,.int .u8 0,.int .u8 0,.int .u8 0,.int .u8 0,.int .u8 0,.int .u8 0,.int .u8 0,.int .u8 0,.int .u8 0,.int .u8 0,.int .u8 0,.int .u8 0,.int .u8 0,.int .u8 0,.int .u8 0,.int .u8 0,.int .u8 0,.int .u8 0,.int .u8 0,.int .u8 0,.int .u8 0,.int .u8 0,.int .u8 0,.int .u8 0,.int .u8 0]:Array Value)=(z00 ZND).toArray from rfl];refine wpList_store_row rfl 32 (.tmp 4) (.tmp 11) rfl _ _ rfl rfl 32 _ R0.out.2 (z0a rfl) rfl (z0m ZND) ?_)
    refine bodyPost_ret (v:=.agg (z00 ZND).toArray) (z4H rfl _ _ w.heap.size 32 _ (0,0) _ _ rfl (Has.row R0.out.2 _) Tryz.underlying32 (z0a rfl)) rfl ⟨rfl,z09 R0.out.1 (Nat.le_refl _) _⟩
  · obtain ⟨m,hm⟩:∃ m,n=m+1:=⟨n - 1,by omega⟩
    obtain ⟨gn,o,rfl,hgn,hcn⟩:=hF.2.1 (by omega)
    have hz:¬ (n:Int)=0:=by omega
    have e1:wrap64 ((n:Int) - 1)=(m:Int):=by unfold wrap64;omega
    have hml:(m:Int)<(n:Int):=by omega
    have hm0:(0:Int)≤(m:Int):=by omega
    have e:FLD d l n=FA d l n m:=by unfold FLD;rw [if_neg h0,show n - 1=m by omega]
    rw [e]
    have HA:Aside (n=m+1∧n≤1000∧Flat w (some ⟨gn,o,none⟩) n l∧HX.Tabled w∧gn<w.heap.size∧∀ k,IsH (FA d l n k)):=⟨hm,hn,hF,hX,hgn,zeC hF.1 hF.2.2 (by omega)⟩
    clear hm hn hF hX hgn hcn h0 e
    go_enter Tryz.func36,Tryz.ntmps36
    go_upto_region 3 with fail
    rw [show (#[.int .u8 0,.int .u8 0,.int .u8 0,.int .u8 0,.int .u8 0,.int .u8 0,.int .u8 0,.int .u8 0,.int .u8 0,.int .u8 0,.int .u8 0,.int .u8 0,.int .u8 0,.int .u8 0,.int .u8 0,.int .u8 0,.int .u8 0,.int .u8 0,.int .u8 0,.int .u8 0,.int .u8 0,.int .u8 0,.int .u8 0,.int .u8 0,.int .u8 0,.int .u8 0,.int .u8 0,.int .u8 0,.int .u8 0,.int .u8 0,.int .u8 0,.int .u8 0]:Array Value)=ZARR from rfl]
    generalize w.alloc (.cells ZARR 32)=W0 at *
    have hat:W0.rangeAt gn (o+m*32) (z00 (FA d l n 0)):=by
      have h1:=(HA.out.2.2.1.below R0.out.1).at (show m<n by have:=HA.out.1;omega)
      have h2:FA d l n 0=HSH l m:=by have:=HA.out.1;rw [FA,show n - 1=m by omega]
      rw [h2]
      exact h1
    have h32:=(HA.out.2.2.2.2.2 0).1
    generalize hA0:FA d l n 0=A0 at *
    go_wp2_with (first
      | (refine wpList_load_mid rfl 32 (.tmp 17) rfl gn (o+m*32) rfl (z00 A0) _ hat Tryz.underlying32 rfl (z0c h32) ?_)
      | (refine wpList_store_row rfl 32 (.tmp 6) (.tmp 18) rfl _ _ rfl rfl 32 _ (Has.new W0 _ _) (z0a h32) (by simp [z00,h32]) (z0m A0) ?_;rw [World.setRow_alloc_new]))
    have R1:Aside (Below w.heap.size w (W0.alloc (.cells (z00 A0).toArray 32))∧Has (W0.alloc (.cells (z00 A0).toArray 32)) w.heap.size (z00 ZND).toArray 32∧Has (W0.alloc (.cells (z00 A0).toArray 32)) W0.heap.size (z00 (FA d l n 0)).toArray 32∧w.heap.size<W0.heap.size):=⟨R0.out.1.alloc R0.out.1.size _,R0.out.2.alloc _,by rw [hA0];exact Has.new _ _ _,R0.out.2.lt⟩
    clear hat h32 hA0 R0
    generalize W0.alloc (.cells (z00 A0).toArray 32)=W1 at *
    generalize W0.heap.size=b6 at *
    clear W0
    have K:Aside (w.heap.size<b6):=R1.out.2.2.2
    have E0:Aside (wrap64 ((m:Int) - 1)=(m:Int) - 1):=by have:=HA.out.1;have:=HA.out.2.1;show wrap64 ((m:Int) - 1)=(m:Int) - 1;unfold wrap64;omega
    go_loopg [7] m (fun q s7 wx=>∃ x:Int,s7=.int .i64 x∧Aside (q≤m∧x=(q:Int) - 1∧Below w.heap.size w wx∧Has wx w.heap.size (z00 ZND).toArray 32∧Has wx b6 (z00 (FA d l n (m - q))).toArray 32))
    case atStart=>exact ⟨_,rfl,Nat.le_refl _,E0.out,R1.out.1,R1.out.2.1,by rw [Nat.sub_self];exact R1.out.2.2.1⟩
    case round=>
      obtain ⟨x,rfl,A⟩:=hrel
      clear R1 E0
      cases gk with
      | zero=>
        obtain rfl:x = -1:=by have:=A.out.2.1;omega
        have y32:=(HA.out.2.2.2.2.2 m).1
        have hH4:=A.out.2.2.2.1
        have hH6:Has wr b6 (z00 (FA d l n m)).toArray 32:=A.out.2.2.2.2
        have hb:=A.out.2.2.1
        clear A HA
        generalize hY0:FA d l n m=Y at *
        go_wp2_with (first
          | (refine wpList_load_row rfl 32 (.tmp 6) rfl b6 rfl 32 (z00 Y).toArray (0,0) _ hH6 Tryz.underlying32 rfl (z0a y32) ?_)
          | (refine wpList_store_row rfl 32 (.tmp 4) (.tmp 32) rfl _ _ rfl rfl 32 _ hH4 (z0a y32) (by simp [z00,y32];rfl) (z0m Y) ?_))
        refine bodyPost_ret (v:=.agg (z00 Y).toArray) (z4H rfl _ _ w.heap.size 32 _ (0,0) _ _ rfl (Has.row hH4 _) Tryz.underlying32 (z0a y32)) rfl ⟨by rw [hY0],z09 hb (Nat.le_refl _) _⟩
      | succ q=>
        obtain rfl:x=(q:Int):=by have:=A.out.2.1;omega
        have hq0:(0:Int)≤(q:Int):=by omega
        have hb:=A.out.2.2.1
        obtain ⟨h1,h2,h3,h4,h5,h6⟩:=HA.out
        have hqm:q+1≤m:=A.out.1
        have eY:FA d l n (m - q)=z1O d (HSH l q) (FA d l n (m - (q+1))):=by
          rw [show m - q=(m - (q+1))+1 by omega,FA,show n - 2 - (m - (q+1))=q by omega]
        have hL:IsH (HSH l q):=z81 h3.1 h3.2.2 (by omega)
        have hR:=h6 (m - (q+1))
        have hY:=h6 (m - q)
        have hb1:(q:Int)<(n:Int):=by omega
        have cF:=z7Y d (HSH l q) (FA d l n (m - (q+1))) hL hR wr.drew (h4.below hb.drew)
        have hLr:=((h3.below hb).at (show q<n by omega))
        have hE1:Aside (wrap64 ((q:Int) - 1)=(q:Int) - 1):=by show wrap64 ((q:Int) - 1)=(q:Int) - 1;unfold wrap64;omega
        rw [← eY] at cF
        clear h1 h2 h3 h4 h5 h6 eY hb HA
        generalize FA d l n (m - (q+1))=R at *
        generalize HSH l q=L at *
        have hH6:=A.out.2.2.2.2
        go_upto_region 8 with fail
        refine z75 _ _ _ _ _ _ _ _ _ _ _ _ _ _ _ _ _ _ _ _ _ _ _ _ _ _ _ _ _ wr b6 gn o n c q d L R (FA d l n (m - q)) hL.1 hR.1 hY.1 hb1 hLr (z0J hH6) (fun W=>Below w.heap.size w W∧Has W w.heap.size (z00 ZND).toArray 32) (cF.mono ?_) (fun _ _ _ _ _ h=>h) ?_
        · rintro e w' ⟨rfl,hb⟩
          have hb':Below wr.heap.size wr w':=(Below.refl _ wr).drew.trans hb
          exact ⟨_,rfl,rfl,hH6.keep hb',A.out.2.2.1.trans (hb'.mono A.out.2.2.1.size),A.out.2.2.2.1.keep hb'⟩
        · rintro X w' ⟨rfl,g1,g2,g3⟩
          dsimp only
          have Z:Aside (q≤m∧(q:Int) - 1=(q:Int) - 1∧Below w.heap.size w (w'.setRow b6 (z00 (FA d l n (m - q))).toArray)∧Has (w'.setRow b6 (z00 (FA d l n (m - q))).toArray) w.heap.size (z00 ZND).toArray 32∧Has (w'.setRow b6 (z00 (FA d l n (m - q))).toArray) b6 (z00 (FA d l n (m - q))).toArray 32):=⟨by omega,rfl,z09 g2 (by have:=K.out;omega) _,g3.row_other (by have:=K.out;omega) _,g1.row _⟩
          clear cF hLr hL hR hY hb1 hq0 hqm A g1 g2 g3 hH6
          have e1:=hE1.out
          generalize w'.setRow b6 (z00 (FA d l n (m - q))).toArray=w3 at *
          go_wp2
          go_roundg q
          case measure=>exact Nat.lt_succ_self _
          case rel=>exact ⟨_,rfl,Z.out.1,rfl,Z.out.2.2⟩
end Go.Proofs.YthjeeblddipiiaaGreatDoor

namespace Go.Proofs.YthjeeblddipiiaaGreatDoor
open Go.RowKit
set_option maxRecDepth 100000
def BAGA (d:Int) (n k:Nat) (l:List Int):Int × List Int:=
  if 4611686018427387904<n then (30,ZND) else if k≠PC n then (70,ZND) else (0,z1z d n (FLD d l k))
theorem zf8 {d:Int} {n k:Nat} {l:List Int}:IsH (BAGA d n k l).2:=by
  unfold BAGA
  split
  · exact z5r
  · split
    · exact z5r
    · exact z50 _ _ _
theorem z3h {fn:Func} {p q:Tmp} {ty:TypeId} (h:fn.results=#[.cell p ty,.tmp q]) (tmps:Array Value) (w:World) (g:Nat) (t:TypeId) (cs:Array Value) (fr:Nat × Nat) (k:Nat) (el:TypeId) (v:Value)
    (hp:tmps.getD p undef=.pointer (some ⟨g,0,none⟩)) (hv:tmps.getD q undef=v) (hg:w.heap[g]?=some (.cells cs t fr))
    (hu:Tryz.prog.underlying ty=some (.array k el)) (hi:(Tryz.prog.info? ty).map (·.size)=some cs.size):
    (results fn tmps).run Tryz.prog w=.ok (.tuple #[.agg cs,v]) w:=by
  have hp':tmps[p]?.getD undef=.pointer (some ⟨g,0,none⟩):=by simpa using hp
  have hv':tmps[q]?.getD undef=v:=by simpa using hv
  simp [results,h,hp',hv',asAddr,run_loadVar_row w g t ty cs fr (.array k el) hg hu rfl hi]
set_option maxHeartbeats 4000000 in
theorem zck (d:Int) (n:Nat) (hn:n<2 ^ 64) (a:Option Addr) (k c:Nat) (w:World) (h1':¬ (4611686018427387904:Int)<(n:Int)) (h2:¬ k=POP n):
    Calls Tryz.prog 12 #[.int .i64 d,.int .u64 (n:Int),.slice a k c] w fun e w'=>e=.returned (.tuple #[.agg (z00 ZND).toArray,.int .i64 70])∧Below w.heap.size w w':=by
  have R0:Aside (Below w.heap.size w (w.alloc (.cells ZARR 32))∧Has (w.alloc (.cells ZARR 32)) w.heap.size (z00 ZND).toArray 32):=⟨(Below.refl _ _).alloc (Nat.le_refl _) _,by rw [z66];exact Has.new _ _ _⟩
  have cO:=z1A n hn (w.alloc (.cells ZARR 32))
  generalize POP n=pp at *
  have e2:¬ (k:Int)=(pp:Int):=by omega
  clear hn
  go_enter Tryz.func12,Tryz.ntmps12
  go_upto_region 3 with fail
  rw [show (#[.int .u8 0,.int .u8 0,.int .u8 0,.int .u8 0,.int .u8 0,.int .u8 0,.int .u8 0,.int .u8 0,.int .u8 0,.int .u8 0,.int .u8 0,.int .u8 0,.int .u8 0,.int .u8 0,.int .u8 0,.int .u8 0,.int .u8 0,.int .u8 0,.int .u8 0,.int .u8 0,.int .u8 0,.int .u8 0,.int .u8 0,.int .u8 0,.int .u8 0,.int .u8 0,.int .u8 0,.int .u8 0,.int .u8 0,.int .u8 0,.int .u8 0,.int .u8 0]:Array Value)=ZARR from rfl]
  generalize w.alloc (.cells ZARR 32)=W0 at *
  go_wp2_with fail
  refine cO.mono ?_
  rintro e w1 ⟨rfl,rfl⟩
  clear cO
  go_upto_region 4 with fail
  go_wp2_with (rw [show (#[.int .u8 0,.int .u8 0,.int .u8 0,.int .u8 0,.int .u8 0,.int .u8 0,.int .u8 0,.int .u8 0,.int .u8 0,.int .u8 0,.int .u8 0,.int .u8 0,.int .u8 0,.int .u8 0,.int .u8 0,.int .u8 0,.int .u8 0,.int .u8 0,.int .u8 0,.int .u8 0,.int .u8 0,.int .u8 0,.int .u8 0,.int .u8 0,.int .u8 0,.int .u8 0,.int .u8 0,.int .u8 0,.int .u8 0,.int .u8 0,.int .u8 0,.int .u8 0]:Array Value)=(z00 ZND).toArray from rfl];refine wpList_store_row rfl 32 (.tmp 6) (.tmp 16) rfl _ _ rfl rfl 32 _ R0.out.2 (z0a rfl) rfl (z0m ZND) ?_)
  refine bodyPost_ret (v:=.tuple #[.agg (z00 ZND).toArray,.int .i64 70]) (z3h rfl _ _ w.heap.size 32 _ (0,0) _ _ _ rfl rfl (Has.row R0.out.2 _) Tryz.underlying32 (z0a rfl)) rfl ⟨rfl,z09 R0.out.1 (Nat.le_refl _) _⟩
end Go.Proofs.YthjeeblddipiiaaGreatDoor

namespace Go.Proofs.YthjeeblddipiiaaGreatDoor
open Go.RowKit
set_option maxRecDepth 100000
set_option maxHeartbeats 4000000 in
theorem zgf (d:Int) (n:Nat) (hn:n<2 ^ 64) (a:Option Addr) (k c:Nat) (l:List Int) (w:World) (hF:Flat w a k l) (hX:HX.Tabled w):
    Calls Tryz.prog 12 #[.int .i64 d,.int .u64 (n:Int),.slice a k c] w fun e w'=>e=.returned (.tuple #[.agg (z00 (BAGA d n k l).2).toArray,.int .i64 (BAGA d n k l).1])∧Below w.heap.size w w':=by
  have R0:Aside (Below w.heap.size w (w.alloc (.cells ZARR 32))∧Has (w.alloc (.cells ZARR 32)) w.heap.size (z00 ZND).toArray 32):=⟨(Below.refl _ _).alloc (Nat.le_refl _) _,by rw [z66];exact Has.new _ _ _⟩
  have HA:Aside (Flat w a k l∧HX.Tabled w∧n<2 ^ 64):=⟨hF,hX,hn⟩
  clear hF hX
  by_cases h1:4611686018427387904<n
  · have e:BAGA d n k l=(30,ZND):=if_pos h1
    rw [e]
    have h1':(4611686018427387904:Int)<(n:Int):=by omega
    clear e HA hn
    go_enter Tryz.func12,Tryz.ntmps12
    go_upto_region 2 with fail
    rw [show (#[.int .u8 0,.int .u8 0,.int .u8 0,.int .u8 0,.int .u8 0,.int .u8 0,.int .u8 0,.int .u8 0,.int .u8 0,.int .u8 0,.int .u8 0,.int .u8 0,.int .u8 0,.int .u8 0,.int .u8 0,.int .u8 0,.int .u8 0,.int .u8 0,.int .u8 0,.int .u8 0,.int .u8 0,.int .u8 0,.int .u8 0,.int .u8 0,.int .u8 0,.int .u8 0,.int .u8 0,.int .u8 0,.int .u8 0,.int .u8 0,.int .u8 0,.int .u8 0]:Array Value)=ZARR from rfl]
    generalize w.alloc (.cells ZARR 32)=W0 at *
    go_wp2_with (rw [show (#[.int .u8 0,.int .u8 0,.int .u8 0,.int .u8 0,.int .u8 0,.int .u8 0,.int .u8 0,.int .u8 0,.int .u8 0,.int .u8 0,.int .u8 0,.int .u8 0,.int .u8 0,.int .u8 0,.int .u8 0,.int .u8 0,.int .u8 0,.int .u8 0,.int .u8 0,.int .u8 0,.int .u8 0,.int .u8 0,.int .u8 0,.int .u8 0,.int .u8 0,.int .u8 0,.int .u8 0,.int .u8 0,.int .u8 0,.int .u8 0,.int .u8 0,.int .u8 0]:Array Value)=(z00 ZND).toArray from rfl];refine wpList_store_row rfl 32 (.tmp 6) (.tmp 10) rfl _ _ rfl rfl 32 _ R0.out.2 (z0a rfl) rfl (z0m ZND) ?_)
    refine bodyPost_ret (v:=.tuple #[.agg (z00 ZND).toArray,.int .i64 30]) (z3h rfl _ _ w.heap.size 32 _ (0,0) _ _ _ rfl rfl (Has.row R0.out.2 _) Tryz.underlying32 (z0a rfl)) rfl ⟨rfl,z09 R0.out.1 (Nat.le_refl _) _⟩
  have h1':¬ (4611686018427387904:Int)<(n:Int):=by omega
  have hpop:=z43 hn
  by_cases h2:k=PC n
  · have e:BAGA d n k l=(0,z1z d n (FLD d l k)):=by unfold BAGA;rw [if_neg h1,if_neg (by simpa using h2)]
    rw [e]
    have hk:Aside (k≤64):=by have:=z1t 64 n hn;show k≤64;omega
    have e2:(k:Int)=((POP n:Nat):Int):=by rw [hpop,h2]
    clear e h2 hpop h1
    go_enter Tryz.func12,Tryz.ntmps12
    go_upto_region 3 with fail
    rw [show (#[.int .u8 0,.int .u8 0,.int .u8 0,.int .u8 0,.int .u8 0,.int .u8 0,.int .u8 0,.int .u8 0,.int .u8 0,.int .u8 0,.int .u8 0,.int .u8 0,.int .u8 0,.int .u8 0,.int .u8 0,.int .u8 0,.int .u8 0,.int .u8 0,.int .u8 0,.int .u8 0,.int .u8 0,.int .u8 0,.int .u8 0,.int .u8 0,.int .u8 0,.int .u8 0,.int .u8 0,.int .u8 0,.int .u8 0,.int .u8 0,.int .u8 0,.int .u8 0]:Array Value)=ZARR from rfl]
    generalize w.alloc (.cells ZARR 32)=W0 at *
    go_wp2_with fail
    refine (z1A n hn W0).mono ?_
    rintro e w1 ⟨rfl,rfl⟩
    go_wp2_with fail
    refine (zcj d a k c (by have:=hk.out;omega) l W0 (HA.out.1.below R0.out.1) (HA.out.2.1.below R0.out.1)).mono ?_
    rintro e w1 ⟨rfl,hb⟩
    have R1:Aside (Below w.heap.size w w1∧Has w1 w.heap.size (z00 ZND).toArray 32):=⟨R0.out.1.trans (hb.mono R0.out.1.size),R0.out.2.keep hb⟩
    clear hb R0
    have hI:=zge (d:=d) HA.out.1.1 HA.out.1.2.2
    go_wp2_with fail
    refine (z7Z d n hn (FLD d l k) hI w1 (HA.out.2.1.below R1.out.1)).mono ?_
    rintro e w2 ⟨rfl,hb⟩
    have R2:Aside (Below w.heap.size w w2∧Has w2 w.heap.size (z00 ZND).toArray 32):=⟨R1.out.1.trans (hb.mono R1.out.1.size),R1.out.2.keep hb⟩
    clear hb R1 hI
    have y32:=(z50 d n (FLD d l k)).1
    generalize hY:z1z d n (FLD d l k)=Y at *
    go_wp2_with (refine wpList_store_row rfl 32 (.tmp 6) (.tmp 22) rfl _ _ rfl rfl 32 _ R2.out.2 (z0a y32) (by simp [z00,y32];rfl) (z0m Y) ?_)
    refine bodyPost_ret (v:=.tuple #[.agg (z00 Y).toArray,.int .i64 0]) (z3h rfl _ _ w.heap.size 32 _ (0,0) _ _ _ rfl rfl (Has.row R2.out.2 _) Tryz.underlying32 (z0a y32)) rfl ⟨by rw [hY],z09 R2.out.1 (Nat.le_refl _) _⟩
  · have e:BAGA d n k l=(70,ZND):=by unfold BAGA;rw [if_neg h1,if_pos h2]
    rw [e]
    exact zck d n hn a k c w h1' (by rw [hpop];exact h2)
end Go.Proofs.YthjeeblddipiiaaGreatDoor

namespace Go.Proofs.YthjeeblddipiiaaGreatDoor
open Go.RowKit
set_option maxRecDepth 100000
theorem zgg {a b:List Int} (ha:IsH a) (hb:IsH b) (w:World):(Op.equalIn 10000 32 (.agg (z00 a).toArray) (.agg (z00 b).toArray)).run Tryz.prog w=.ok (decide (a=b)) w:=by
  rw [z1w ha,z1w hb,HX.zaD]
  congr 1
  by_cases e:a=b
  · subst e
    simp
  · rw [decide_eq_false e]
    refine Bool.eq_false_iff.2 fun h=>e ?_
    have h':∀ i∈List.range 32,FNC a i=FNC b i:=fun i hi=>by simpa using List.all_eq_true.1 h i hi
    have h2:LST (FNC a)=LST (FNC b):=by
      unfold LST
      exact List.map_congr_left fun i hi=>by rw [h' i hi]
    rwa [z69 ha,z69 hb] at h2
theorem z2y {ops:Array Oper} {rest:List Oper} {o:Oper} {a:Act} {w:World} {Q:Exit→Act→World→Prop} (hw:Region.wanted o (yielded ops a.tmps)=true) (ty:TypeId) (x:Operand) (ho:o.op=.load ty x) (n:Nat) (e:TypeId)
    (b:Nat) (hx:a.eval x=.pointer (some ⟨b,0,none⟩)) (t:TypeId) (cs:Array Value) (fr:Nat × Nat) (hb:w.heap[b]?=some (.cells cs t fr)) (hu:Tryz.prog.underlying ty=some (.array n e)) (hi:(Tryz.prog.info? ty).map (·.size)=some cs.size)
    (h:wpList Tryz.prog ops Q rest (a.put o.dst (.agg cs)) w):wpList Tryz.prog ops Q (o :: rest) a w:=by
  simp only [wpList]
  rw [if_pos hw]
  exact .inl (wp_load_row ty x ho b hx t cs fr (.array n e) hb hu rfl hi h)
def UNDA (d:Int) (n k:Nat) (l root:List Int):Int:=if (BAGA d n k l).1=0∧(BAGA d n k l).2=root then 0 else 80
set_option maxHeartbeats 4000000 in
theorem z4d (d:Int) (n:Nat) (hn:n<2 ^ 64) (a:Option Addr) (k c:Nat) (l root:List Int) (hroot:IsH root) (w:World) (hF:Flat w a k l) (hX:HX.Tabled w):
    Calls Tryz.prog 29 #[.int .i64 d,.int .u64 (n:Int),.slice a k c,.agg (z00 root).toArray] w fun e w'=>e=.returned (.int .i64 (UNDA d n k l root))∧Below w.heap.size w w':=by
  have R0:Aside (Below w.heap.size w (w.alloc (.cells (z00 root).toArray 32))∧Has (w.alloc (.cells (z00 root).toArray 32)) w.heap.size (z00 root).toArray 32):=⟨(Below.refl _ _).alloc (Nat.le_refl _) _,Has.new _ _ _⟩
  have cB:=zgf d n hn a k c l (w.alloc (.cells (z00 root).toArray 32)) (hF.below R0.out.1) (hX.below R0.out.1)
  have hI:=zf8 (d:=d) (n:=n) (k:=k) (l:=l)
  have r32:=hroot.1
  have y32:=hI.1
  clear hF hX hn
  have HU:Aside (UNDA d n k l root=if (BAGA d n k l).1=0∧(BAGA d n k l).2=root then 0 else 80):=rfl
  generalize UNDA d n k l root=U at *
  generalize BAGA d n k l=B at *
  obtain ⟨E,Y⟩:=B
  dsimp only at *
  have HV:Aside ((E=0→Y=root→U=0)∧(¬ Y=root→U=80)∧(¬ E=0→U=80)):=⟨fun h1 h2=>HU.out.trans (if_pos ⟨h1,h2⟩),fun h=>HU.out.trans (if_neg fun g=>h g.2),fun h=>HU.out.trans (if_neg fun g=>h g.1)⟩
  clear HU
  go_enter Tryz.func29,Tryz.ntmps29
  go_upto_region 1 with fail
  generalize w.alloc (.cells (z00 root).toArray 32)=W0 at *
  go_wp2_with fail
  refine cB.mono ?_
  rintro e w1 ⟨rfl,hb⟩
  clear cB
  have R1:Aside (Below w.heap.size w (w1.alloc (.cells (z00 Y).toArray 32))∧Has (w1.alloc (.cells (z00 Y).toArray 32)) w.heap.size (z00 root).toArray 32∧Has (w1.alloc (.cells (z00 Y).toArray 32)) w1.heap.size (z00 Y).toArray 32):=⟨(R0.out.1.trans (hb.mono R0.out.1.size)).alloc (R0.out.1.trans (hb.mono R0.out.1.size)).size _,(R0.out.2.keep hb).alloc _,Has.new _ _ _⟩
  clear hb R0
  go_upto_region 2 with (first
    | (refine wpList_store_row rfl 32 (.tmp 9) (.tmp 16) rfl _ _ rfl rfl 32 _ (Has.new w1 _ _) (z0a y32) (by simp [z00,y32]) (z0m Y) ?_;rw [World.setRow_alloc_new])
    | fail)
  generalize w1.alloc (.cells (z00 Y).toArray 32)=W1 at *
  generalize w1.heap.size=b9 at *
  clear w1 W0
  have hb:=R1.out.1
  have h7:=R1.out.2.1
  have h9:=R1.out.2.2
  clear R1
  by_cases hE:E=0
  · subst hE
    have hq:=zgg hI hroot
    by_cases hY:Y=root
    · have HY:Aside (Y=root):=hY
      rw [decide_eq_true hY] at hq
      clear hI hroot hY
      go_wp2_with (first
        | (refine z2y (by rfl) 32 (.tmp 9) rfl 32 5 b9 rfl 32 (z00 Y).toArray (0,0) h9 Tryz.underlying32 (z0a y32) ?_)
        | (refine z2y (by rfl) 32 (.tmp 7) rfl 32 5 w.heap.size rfl 32 (z00 root).toArray (0,0) h7 Tryz.underlying32 (z0a r32) ?_)
        | fail)
      go_ret
      exact ⟨by rw [HV.out.1 (by simp) HY.out];rfl,hb⟩
    · have HY:Aside (¬ Y=root):=hY
      rw [decide_eq_false hY] at hq
      clear hI hroot hY
      go_wp2_with (first
        | (refine z2y (by rfl) 32 (.tmp 9) rfl 32 5 b9 rfl 32 (z00 Y).toArray (0,0) h9 Tryz.underlying32 (z0a y32) ?_)
        | (refine z2y (by rfl) 32 (.tmp 7) rfl 32 5 w.heap.size rfl 32 (z00 root).toArray (0,0) h7 Tryz.underlying32 (z0a r32) ?_)
        | fail)
      go_ret
      exact ⟨by rw [HV.out.2.1 HY.out];rfl,hb⟩
  · have HE:Aside (¬ E=0):=hE
    clear hI hroot h7 h9
    go_wp2_with fail
    go_ret
    exact ⟨by rw [HV.out.2.2 HE.out];rfl,hb⟩
end Go.Proofs.YthjeeblddipiiaaGreatDoor
