/- Texts of VerifyGrowth, one behind the other: VerifyGrowthPlain, VerifyGrowthRegions. -/
import Derived.Test.YthjeeblddipiiaaGreatDoorVerifyGrowthP15
import Derived.Test.YthjeeblddipiiaaGreatDoorVerifyGrowthP32
import Derived.Test.YthjeeblddipiiaaGreatDoorVerifyGrowthP37
namespace Go.Proofs.YthjeeblddipiiaaGreatDoor
open Go.RowKit
set_option maxRecDepth 100000
theorem z62 {d:Int} {F S t:Nat} (hFS:F≤S) (hS:S≤4611686018427387904) (hL:LOWS F t) (l:List Int):∀ m,m≤PC F→CAT (RCM d (JSX F S t) F S l) ((SPAN 0 F).take m)=l.take (32*m)
  | 0,_=>by simp [CAT]
  | m + 1,hm=>by
    have hlt:m<(SPAN 0 F).length:=by rw [z0A (by omega)];omega
    obtain ⟨⟨h,k⟩,e⟩:∃ s,(SPAN 0 F)[m]?=some s:=⟨_,List.getElem?_eq_getElem hlt⟩
    have hso:=(z2p hFS hS).off
    have e2:(PXS F S)[m]?=some (h,k):=by
      unfold PXS
      rw [List.getElem?_append_left hlt]
      exact e
    rw [z5j e,z62 hFS hS hL l m (by omega),z34]
    congr 1
    unfold RCM
    rw [z61 hFS hS hL _ (List.mem_of_getElem? e2) _ (Nat.le_refl _),z6F hso e2 _ (List.getElem?_eq_some_iff.1 e2).1 (Nat.le_refl _)]
theorem zdr (F:Nat) (hF:F<2 ^ 64):∃ t,LOWS F t:=by
  obtain ⟨t,h1,h2,h3,_⟩:=z6k F hF
  exact ⟨t,h1,h2,h3⟩
theorem zds (F S:Nat) (hF:F<2 ^ 64):∃ t,LOWS F t∧(F≤S→S≤4611686018427387904→JSOK F (S - F) (JSX F S t)):=by
  by_cases h:F≤S∧S≤4611686018427387904
  · obtain ⟨t,ht,hc⟩:=zeC F (S - F) (by omega)
    refine ⟨t,ht,fun _ _=>⟨Nat.le_trans (z7e _ _ _ _) (by omega),fun i x y e=>?_,hc⟩⟩
    obtain ⟨h1,h2,h3,h4⟩:=za5 e
    have h5:y≤(y+1)*2 ^ x:=by
      have:=Nat.pos_of_ne_zero (n:=2 ^ x) (by simp)
      calc y≤y+1:=by omega
        _=(y+1)*1:=by omega
        _≤(y+1)*2 ^ x:=Nat.mul_le_mul_left _ this
    exact ⟨by omega,by omega,by omega⟩
  · obtain ⟨t,ht⟩:=zdr F hF
    exact ⟨t,ht,fun h1 h2=>absurd ⟨h1,h2⟩ h⟩
def z8P (s:Nat × Nat) (h k:Nat):Prop:=h<s.1∧k / 2 ^ (s.1 - h)=s.2
theorem z54:∀ {l:List (Nat × Nat)} {a b:Nat},Tile a l b→∀ x,a≤x→x<b→∃ s∈l,x / 2 ^ s.1=s.2
  | [],a,b,h,x,h1,h2=>by
    have:a=b:=h
    omega
  | s :: l,a,b,h,x,h1,h2=>by
    obtain ⟨_,e,hl⟩:=h
    have hp:=Nat.two_pow_pos s.1
    rcases Nat.lt_or_ge x ((s.2+1)*2 ^ s.1) with c | c
    · refine ⟨s,List.mem_cons_self ..,?_⟩
      rw [Nat.div_eq_iff hp]
      rw [Nat.add_mul] at c
      omega
    · obtain ⟨u,hu,e2⟩:=z54 hl x c h2
      exact ⟨u,List.mem_cons_of_mem _ hu,e2⟩
theorem zgi (d:Int) (f:Nat→Nat→Nat) {ss:List (Nat × Nat)} {S:Nat} (hp:ss.Pairwise Off) (hc:∀ x,x<S→∃ s∈ss,x / 2 ^ s.1=s.2):∀ h k,(k+1)*2 ^ h≤S→(∀ s∈ss,¬ z8P s h k)→VH d ss (CAT (TVAL d f) ss) h k=TVAL d f h k:=by
  have hit:∀ h k,(h,k)∈ss→VH d ss (CAT (TVAL d f) ss) h k=TVAL d f h k:=fun h k hm=>by
    obtain ⟨t,ht⟩:=List.mem_iff_getElem?.1 hm
    rw [zbI hm,z6F hp ht _ (List.getElem?_eq_some_iff.1 ht).1 (Nat.le_refl _)]
    exact z6G (fun s _=>z3z d f s.1 s.2) ht
  intro h
  induction h with
  | zero=>
    intro k hk hs
    obtain ⟨s,hm,e⟩:=hc k (by simp at hk;omega)
    rcases Nat.eq_zero_or_pos s.1 with h0 | h0
    · apply hit
      rw [h0] at e
      simp at e
      have:s=(0,k):=by rw [e,← h0]
      rw [← this]
      exact hm
    · exact absurd ⟨h0,by rw [Nat.sub_zero];exact e⟩ (hs s hm)
  | succ h ih=>
    intro k hk hs
    by_cases hm:(h+1,k)∈ss
    · exact hit _ _ hm
    · have e2:(k+1)*2 ^ (h+1)=(2*k+1+1)*2 ^ h:=by rw [Nat.pow_succ,show 2*k+1+1=(k+1)*2 by omega,Nat.mul_assoc,Nat.mul_comm (2 ^ h) 2]
      have kid:∀ c,c / 2=k→∀ s∈ss,¬ z8P s h c:=fun c hck s hsm ⟨h1,h2⟩=>by
        obtain ⟨j,hj⟩:∃ j,s.1 - h=j+1:=⟨s.1 - h - 1,by omega⟩
        rw [hj,Nat.pow_succ,Nat.mul_comm,← Nat.div_div_eq_div_mul,hck] at h2
        rcases Nat.eq_zero_or_pos j with h0 | h0
        · apply hm
          rw [h0] at h2
          simp at h2
          have:s=(h+1,k):=by rw [h2];exact Prod.ext (by show s.1=h+1;omega) rfl
          rw [← this]
          exact hsm
        · exact hs s hsm ⟨by omega,by rw [show s.1 - (h+1)=j by omega];exact h2⟩
      rw [zdp hm,zdn,ih (2*k) (Nat.le_trans (Nat.mul_le_mul_right _ (by omega)) (e2 ▸ hk)) (kid _ (by omega)),ih (2*k+1) (e2 ▸ hk) (kid _ (by omega))]
theorem zdt {S h k:Nat} (hS:S≤4611686018427387904) (hm:(h,k)∈SPAN 0 S):S<(k / 2+1)*2 ^ (h+1):=by
  obtain ⟨i,hi⟩:=List.mem_iff_getElem?.1 hm
  have hi2:i<PC S:=by
    rw [← z0A hS]
    exact (List.getElem?_eq_some_iff.1 hi).1
  have hat:=z1y hS hi2
  rw [hi] at hat
  simp only [Option.some.injEq,Prod.mk.injEq] at hat
  rcases Nat.lt_or_ge S ((k / 2+1)*2 ^ (h+1)) with c | c
  · exact c
  · exfalso
    have h1:=z2T c
    have h2:=z4Q (n:=S) (i:=i)
    rw [← hat.1,← hat.2] at h2
    omega
theorem zdu {F S h k:Nat} (hFS:F≤S) (hS:S≤4611686018427387904) (hm:(h,k)∈SPAN 0 S):∀ s∈PXS F S,¬ z8P s h k:=fun s hs ⟨h1,h2⟩=>by
  have w2:=((z2p hFS hS).within s hs).2.1
  have hp:=zdt hS hm
  obtain ⟨j,hj⟩:∃ j,s.1 - h=j+1:=⟨s.1 - h - 1,by omega⟩
  rw [hj,Nat.pow_succ,Nat.mul_comm,← Nat.div_div_eq_div_mul] at h2
  rw [← h2,show s.1=j+(h+1) by omega,Nat.pow_add,← Nat.mul_assoc] at w2
  have h3:k / 2+1≤(k / 2 / 2 ^ j+1)*2 ^ j:=by
    have:=Nat.lt_div_mul_add (a:=k / 2) (Nat.two_pow_pos j)
    rw [Nat.add_mul,Nat.one_mul]
    omega
  have:=Nat.mul_le_mul_right (2 ^ (h+1)) h3
  omega
theorem zbJ (M:Nat→Nat→List Int) (a b:List (Nat × Nat)):CAT M (a ++ b)=CAT M a ++ CAT M b:=by simp [CAT]
theorem z8Q (d:Int) (f:Nat→Nat→Nat) {F S t:Nat} (hFS:F≤S) (hS:S≤1000000) (hL:LOWS F t):RCA d (JSX F S t) F S (PXS F S).length (CAT (TVAL d f) (PXS F S))=(0,(PC F,CAT (TVAL d f) (SPAN 0 F)),(PC S,CAT (TVAL d f) (SPAN 0 S))):=by
  have e:PPA F S=(0,PLCS (PXS F S)):=by unfold PPA;rw [if_neg (by omega)]
  have hp:=(z2p hFS (by omega)).off
  have hcov:∀ x,x<S→∃ s∈PXS F S,x / 2 ^ s.1=s.2:=fun x hx=>z54 (z2p hFS (by omega)) x (Nat.zero_le _) hx
  have h2:CAT (RCM d (JSX F S t) F S (CAT (TVAL d f) (PXS F S))) (SPAN 0 S)=CAT (TVAL d f) (SPAN 0 S):=zf0 fun x y hm=>by
    have hw:=((z1d (a:=0) (b:=S) (by omega) (Nat.zero_le S)).within _ hm).2.1
    rw [zf1 hFS (by omega) hL _ hm]
    exact zgi d f hp hcov x y hw (zdu hFS (by omega) hm)
  have h1:CAT (RCM d (JSX F S t) F S (CAT (TVAL d f) (PXS F S))) (SPAN 0 F)=CAT (TVAL d f) (SPAN 0 F):=by
    have h:=z62 (d:=d) hFS (by omega) hL (CAT (TVAL d f) (PXS F S)) (PC F) (Nat.le_refl _)
    have hlen:=z0A (n:=F) (by omega)
    rw [← hlen,List.take_length] at h
    rw [h]
    unfold PXS
    rw [zbJ,List.take_append_of_le_length (by rw [z2A];omega),List.take_of_length_le (by rw [z2A];omega)]
  unfold RCA
  rw [e]
  dsimp only
  rw [z0o,if_neg (by simp),if_neg (by simp),h1,h2]
def PRX (m n:Nat) (l:List Int):List Int:=80 :: (z0h m ++ (z0h n ++ l))
theorem zgj {m n:Nat} (hm:m≤n) (hn:n≤1000000) (l:List Int):ENX m n (PXS m n).length l=(0,PRX m n l):=by
  have e:PPA m n=(0,PLCS (PXS m n)):=by unfold PPA;rw [if_neg (by omega)]
  unfold ENX ENCB PRX
  rw [e]
  dsimp only
  rw [z0o,if_neg (by simp),if_neg (by simp),List.append_assoc]
theorem z6I {m n:Nat} (hm:m≤n) (hn:n≤1000000) {l:List Int} (hl:l.length=32*(PXS m n).length):DEX (PRX m n l)=(0,m,n,(PXS m n).length,l):=by
  have e:PPA m n=(0,PLCS (PXS m n)):=by unfold PPA;rw [if_neg (by omega)]
  have h1:(PPA m n).1=0:=by rw [e]
  have h2:(PPA m n).2.length=(PXS m n).length:=by rw [e,z0o]
  unfold DEX PRX
  rw [zeA (by omega) (by omega) rfl]
  unfold DC3
  rw [if_neg (by simp [h1])]
  simp only [h2]
  rw [if_neg (by omega),if_neg (by omega)]
theorem zdv {n i:Nat} (hn:n<2 ^ 64) (hi:i<2 ^ 64) {l:List Int} (hl:∀ x∈l,0≤x∧x≤255):∀ x∈PRX n i l,0≤x∧x≤255:=fun x hx=>by
  unfold PRX at hx
  rcases List.mem_cons.1 hx with rfl | hx
  · decide
  · rcases List.mem_append.1 hx with hx | hx
    · exact z2u hn x hx
    · rcases List.mem_append.1 hx with hx | hx
      · exact z2u hi x hx
      · exact hl x hx
theorem zdw (d:Int) (f:Nat→Nat→Nat) {m n t:Nat} (hm:m≤n) (hn:n≤1000000) (hL:LOWS m t):PFXA d (JSX m n t) m (LST (HX.z0Y d f m)) n (LST (HX.z0Y d f n)) (PRX m n (CAT (TVAL d f) (PXS m n)))=0:=by
  unfold PFXA
  rw [z6I hm hn (z2A _ _ _)]
  dsimp only
  rw [if_neg (by simp),if_neg (by simp),if_neg (by simp),z8Q d f hm hn hL]
  unfold UNDA
  dsimp only
  rw [z7q d f (by omega),z7q d f hn,if_neg (by simp),if_pos ⟨rfl,rfl⟩]
theorem zdx (d:Int) (js:List (Nat × Nat)) (r1 r2:List Int) {m n k:Nat} (hm:m≤n) (hn:n≤1000000) {l:List Int} (hl:l.length=32*(PXS m n).length) (hk:n≠k):PFXA d js m r1 k r2 (PRX m n l)=30:=by
  unfold PFXA
  rw [z6I hm hn hl]
  dsimp only
  rw [if_neg (by simp),if_neg (by simp),if_pos hk]
end Go.Proofs.YthjeeblddipiiaaGreatDoor

namespace Go.Proofs.YthjeeblddipiiaaGreatDoor
open Go.RowKit
set_option maxRecDepth 100000
def z2W:Array Oper:=#[⟨some 99,.move (.tmp 0),3,"outright.go:69",#[],none⟩,⟨some 100,.move (.tmp 1),22,"outright.go:69",#[],none⟩,⟨some 101,.move (.tmp 2),23,"outright.go:69",#[],none⟩,⟨some 102,.slice 22 (.tmp 100) none (some (.tmp 101)) none,22,"outright.go:69",#[⟨1,.data⟩,⟨2,.data⟩],none⟩,⟨some 103,.call {callee:=.value (.func 6),args:=#[.tmp 99,.tmp 102],argTypes:=#[3,22]},24,"outright.go:69",#[⟨0,.data⟩,⟨3,.data⟩],none⟩,⟨some 104,.move (.tmp 0),3,"outright.go:69",#[],none⟩,⟨some 105,.move (.tmp 1),22,"outright.go:69",#[],none⟩,⟨some 106,.move (.tmp 3),23,"outright.go:69",#[],none⟩,⟨some 107,.slice 22 (.tmp 105) none (some (.tmp 106)) none,22,"outright.go:69",#[⟨6,.data⟩,⟨7,.data⟩],none⟩,⟨some 108,.call {callee:=.value (.func 6),args:=#[.tmp 104,.tmp 107],argTypes:=#[3,22]},24,"outright.go:69",#[⟨5,.data⟩,⟨8,.data⟩,⟨4,.chain⟩],none⟩,⟨some 21,.assign (.tmp 103),24,"outright.go:69",#[⟨4,.data⟩,⟨9,.chain⟩,⟨0,.phase⟩,⟨1,.phase⟩,⟨2,.phase⟩,⟨3,.phase⟩,⟨4,.phase⟩,{on:=5,ground:=.textOnly Departure.lateStores},{on:=6,ground:=.textOnly Departure.lateStores},{on:=7,ground:=.textOnly Departure.lateStores},{on:=8,ground:=.textOnly Departure.lateStoresUnsure},{on:=9,ground:=.textOnly Departure.lateStoresUnsure}],none⟩,⟨some 22,.assign (.tmp 108),24,"outright.go:69",#[⟨9,.data⟩,⟨10,.chain⟩,⟨0,.phase⟩,⟨1,.phase⟩,⟨2,.phase⟩,⟨3,.phase⟩,⟨4,.phase⟩,⟨5,.phase⟩,⟨6,.phase⟩,⟨7,.phase⟩,⟨8,.phase⟩,⟨9,.phase⟩,⟨10,.phase⟩],none⟩]
set_option maxHeartbeats 2000000 in
theorem zf2 {Q:Exit→Act→World→Prop} {u4 u5 u6 u7 u8 u9 u10 u11 u12 u13 u14 u15 u16 u17 u18 u19 u20 u21 u22 u23 u24 u25 u26 u27 u28 u29 u30 u31 u32 u33 u34 u35 u36 u37 u38 u39 u40 u41 u42 u43 u44 u45 u46 u47 u48 u49 u50 u51 u52 u53 u54 u55 u56 u57 u58 u59 u60 u61 u62 u63 u64 u65 u66 u67 u68 u69 u70 u71 u72 u73 u74 u75 u76 u77 u78 u79 u80 u81 u82 u83 u84 u85 u86 u87 u88 u89 u90 u91 u92 u93 u94 u95 u96 u97 u98 u99 u100 u101 u102 u103 u104 u105 u106 u107 u108 u109 u110 u111 u112 u113 u114 u115 u116 u117 u118 u119 u120 u121 u122 u123 u124 u125 u126 u127 u128 u129 u130 u131 u132 u133 u134 u135 u136 u137 u138 u139 u140 u141 u142 u143 u144 u145 u146 u147 u148 u149 u150 u151 u152 u153 u154 u155:Value} (W:World) (d:Int) (a:Option Addr) (n lc m k:Nat) (hm:∀ w,(Instr.slice 22 (.slice a n lc) none (some (.int .u64 (m:Int))) none).run Tryz.prog w=.ok (.slice a m lc) w) (hk:∀ w,(Instr.slice 22 (.slice a n lc) none (some (.int .u64 (k:Int))) none).run Tryz.prog w=.ok (.slice a k lc) w) (P:World→Prop) (PU PV:Nat→World→Prop) (h0:P W.drew) (kU:∀ u w w',PU u w→Below w.heap.size w w'→PU u w')
    (c1:∀ w,P w→Calls Tryz.prog 6 #[.int .i64 d,.slice a m lc] w fun e w'=>∃ u,e=.returned (.pointer (some ⟨u,0,none⟩))∧P w'∧PU u w'∧Below w.heap.size w w') (c2:∀ w,P w→Calls Tryz.prog 6 #[.int .i64 d,.slice a k lc] w fun e w'=>∃ v,e=.returned (.pointer (some ⟨v,0,none⟩))∧P w'∧PV v w'∧Below w.heap.size w w') (hQ:∀ c (a:Act) (t:Tmp) (v:Value) w,Q (.panic c) (a.put (some t) v) w→Q (.panic c) a w)
    (hfin:∀ (u:Nat) (v:Nat) (w:World),(P w∧PU u w∧PV v w)→Q .normal {tmps:=#[.int .i64 d,.slice a n lc,.int .u64 (m:Int),.int .u64 (k:Int),u4,u5,u6,u7,u8,u9,u10,u11,u12,u13,u14,u15,u16,u17,u18,u19,u20,.pointer (some ⟨u,0,none⟩),.pointer (some ⟨v,0,none⟩),u23,u24,u25,u26,u27,u28,u29,u30,u31,u32,u33,u34,u35,u36,u37,u38,u39,u40,u41,u42,u43,u44,u45,u46,u47,u48,u49,u50,u51,u52,u53,u54,u55,u56,u57,u58,u59,u60,u61,u62,u63,u64,u65,u66,u67,u68,u69,u70,u71,u72,u73,u74,u75,u76,u77,u78,u79,u80,u81,u82,u83,u84,u85,u86,u87,u88,u89,u90,u91,u92,u93,u94,u95,u96,u97,u98,.int .i64 d,.slice a n lc,.int .u64 (m:Int),.slice a m lc,.pointer (some ⟨u,0,none⟩),.int .i64 d,.slice a n lc,.int .u64 (k:Int),.slice a k lc,.pointer (some ⟨v,0,none⟩),u109,u110,u111,u112,u113,u114,u115,u116,u117,u118,u119,u120,u121,u122,u123,u124,u125,u126,u127,u128,u129,u130,u131,u132,u133,u134,u135,u136,u137,u138,u139,u140,u141,u142,u143,u144,u145,u146,u147,u148,u149,u150,u151,u152,u153,u154,u155],defers:=[]} w):(Code.region 13 z2W true).wp Tryz.prog Q {tmps:=#[.int .i64 d,.slice a n lc,.int .u64 (m:Int),.int .u64 (k:Int),u4,u5,u6,u7,u8,u9,u10,u11,u12,u13,u14,u15,u16,u17,u18,u19,u20,u21,u22,u23,u24,u25,u26,u27,u28,u29,u30,u31,u32,u33,u34,u35,u36,u37,u38,u39,u40,u41,u42,u43,u44,u45,u46,u47,u48,u49,u50,u51,u52,u53,u54,u55,u56,u57,u58,u59,u60,u61,u62,u63,u64,u65,u66,u67,u68,u69,u70,u71,u72,u73,u74,u75,u76,u77,u78,u79,u80,u81,u82,u83,u84,u85,u86,u87,u88,u89,u90,u91,u92,u93,u94,u95,u96,u97,u98,u99,u100,u101,u102,u103,u104,u105,u106,u107,u108,u109,u110,u111,u112,u113,u114,u115,u116,u117,u118,u119,u120,u121,u122,u123,u124,u125,u126,u127,u128,u129,u130,u131,u132,u133,u134,u135,u136,u137,u138,u139,u140,u141,u142,u143,u144,u145,u146,u147,u148,u149,u150,u151,u152,u153,u154,u155],defers:=[]} W:=by
  have kst4_9:∀ (u:Nat) (v:Nat) (w:World),(P w∧PU u w∧PV v w)→wpAnyH Tryz.prog .any z2W Q (fun _:World=>True) 0 #[true,true,true,true,true,true,true,true,true,true,true,true] {tmps:=#[.int .i64 d,.slice a n lc,.int .u64 (m:Int),.int .u64 (k:Int),u4,u5,u6,u7,u8,u9,u10,u11,u12,u13,u14,u15,u16,u17,u18,u19,u20,.pointer (some ⟨u,0,none⟩),.pointer (some ⟨v,0,none⟩),u23,u24,u25,u26,u27,u28,u29,u30,u31,u32,u33,u34,u35,u36,u37,u38,u39,u40,u41,u42,u43,u44,u45,u46,u47,u48,u49,u50,u51,u52,u53,u54,u55,u56,u57,u58,u59,u60,u61,u62,u63,u64,u65,u66,u67,u68,u69,u70,u71,u72,u73,u74,u75,u76,u77,u78,u79,u80,u81,u82,u83,u84,u85,u86,u87,u88,u89,u90,u91,u92,u93,u94,u95,u96,u97,u98,.int .i64 d,.slice a n lc,.int .u64 (m:Int),.slice a m lc,.pointer (some ⟨u,0,none⟩),.int .i64 d,.slice a n lc,.int .u64 (k:Int),.slice a k lc,.pointer (some ⟨v,0,none⟩),u109,u110,u111,u112,u113,u114,u115,u116,u117,u118,u119,u120,u121,u122,u123,u124,u125,u126,u127,u128,u129,u130,u131,u132,u133,u134,u135,u136,u137,u138,u139,u140,u141,u142,u143,u144,u145,u146,u147,u148,u149,u150,u151,u152,u153,u154,u155],defers:=[]} w:=fun u v w hp=>by
    exact wpAnyH_done (by kernel_rfl) (hfin u v w hp) _
  have ekst4_9:∀ (u:Nat) (v:Nat) (w:World),(P w∧PU u w∧PV v w)→wpAnyH Tryz.prog .any z2W Q (fun _:World=>True) 2 #[true,true,true,true,true,true,true,true,true,true,false,false] {tmps:=#[.int .i64 d,.slice a n lc,.int .u64 (m:Int),.int .u64 (k:Int),u4,u5,u6,u7,u8,u9,u10,u11,u12,u13,u14,u15,u16,u17,u18,u19,u20,u21,u22,u23,u24,u25,u26,u27,u28,u29,u30,u31,u32,u33,u34,u35,u36,u37,u38,u39,u40,u41,u42,u43,u44,u45,u46,u47,u48,u49,u50,u51,u52,u53,u54,u55,u56,u57,u58,u59,u60,u61,u62,u63,u64,u65,u66,u67,u68,u69,u70,u71,u72,u73,u74,u75,u76,u77,u78,u79,u80,u81,u82,u83,u84,u85,u86,u87,u88,u89,u90,u91,u92,u93,u94,u95,u96,u97,u98,.int .i64 d,.slice a n lc,.int .u64 (m:Int),.slice a m lc,.pointer (some ⟨u,0,none⟩),.int .i64 d,.slice a n lc,.int .u64 (k:Int),.slice a k lc,.pointer (some ⟨v,0,none⟩),u109,u110,u111,u112,u113,u114,u115,u116,u117,u118,u119,u120,u121,u122,u123,u124,u125,u126,u127,u128,u129,u130,u131,u132,u133,u134,u135,u136,u137,u138,u139,u140,u141,u142,u143,u144,u145,u146,u147,u148,u149,u150,u151,u152,u153,u154,u155],defers:=[]} w:=fun u v w hp=>by
    have hww:(fun _:World=>True) w:=trivial
    have last:=kst4_9 u v w hp
    refine wpAnyH_take (i:=10) (oi:=⟨some 21,.assign (.tmp 103),24,"outright.go:69",#[⟨4,.data⟩,⟨9,.chain⟩,⟨0,.phase⟩,⟨1,.phase⟩,⟨2,.phase⟩,⟨3,.phase⟩,⟨4,.phase⟩,{on:=5,ground:=.textOnly Departure.lateStores},{on:=6,ground:=.textOnly Departure.lateStores},{on:=7,ground:=.textOnly Departure.lateStores},{on:=8,ground:=.textOnly Departure.lateStoresUnsure},{on:=9,ground:=.textOnly Departure.lateStoresUnsure}],none⟩) (v:=.pointer (some ⟨u,0,none⟩)) rfl (by kernel_rfl) (by kernel_rfl) (by kernel_rfl) (fun _ _ _ h=>hQ _ _ _ _ _ h) (Yields.yieldsIf (Or.inl ⟨by rfl,fun W=>by go_simp⟩)) hww ?_
    simp only [Act.put,List.setIfInBounds_toArray,List.set_cons_zero,List.set_cons_succ]
    refine wpAnyH_take (i:=11) (oi:=⟨some 22,.assign (.tmp 108),24,"outright.go:69",#[⟨9,.data⟩,⟨10,.chain⟩,⟨0,.phase⟩,⟨1,.phase⟩,⟨2,.phase⟩,⟨3,.phase⟩,⟨4,.phase⟩,⟨5,.phase⟩,⟨6,.phase⟩,⟨7,.phase⟩,⟨8,.phase⟩,⟨9,.phase⟩,⟨10,.phase⟩],none⟩) (v:=.pointer (some ⟨v,0,none⟩)) rfl (by kernel_rfl) (by kernel_rfl) (by kernel_rfl) (fun _ _ _ h=>hQ _ _ _ _ _ h) (Yields.yieldsIf (Or.inl ⟨by rfl,fun W=>by go_simp⟩)) hww ?_
    simp only [Act.put,List.setIfInBounds_toArray,List.set_cons_zero,List.set_cons_succ]
    exact last
  have kst4:∀ (u:Nat) (w:World),(P w∧PU u w)→wpAnyH Tryz.prog .any z2W Q (fun _:World=>True) 3 #[true,true,true,true,true,true,true,true,true,false,false,false] {tmps:=#[.int .i64 d,.slice a n lc,.int .u64 (m:Int),.int .u64 (k:Int),u4,u5,u6,u7,u8,u9,u10,u11,u12,u13,u14,u15,u16,u17,u18,u19,u20,u21,u22,u23,u24,u25,u26,u27,u28,u29,u30,u31,u32,u33,u34,u35,u36,u37,u38,u39,u40,u41,u42,u43,u44,u45,u46,u47,u48,u49,u50,u51,u52,u53,u54,u55,u56,u57,u58,u59,u60,u61,u62,u63,u64,u65,u66,u67,u68,u69,u70,u71,u72,u73,u74,u75,u76,u77,u78,u79,u80,u81,u82,u83,u84,u85,u86,u87,u88,u89,u90,u91,u92,u93,u94,u95,u96,u97,u98,.int .i64 d,.slice a n lc,.int .u64 (m:Int),.slice a m lc,.pointer (some ⟨u,0,none⟩),.int .i64 d,.slice a n lc,.int .u64 (k:Int),.slice a k lc,u108,u109,u110,u111,u112,u113,u114,u115,u116,u117,u118,u119,u120,u121,u122,u123,u124,u125,u126,u127,u128,u129,u130,u131,u132,u133,u134,u135,u136,u137,u138,u139,u140,u141,u142,u143,u144,u145,u146,u147,u148,u149,u150,u151,u152,u153,u154,u155],defers:=[]} w:=fun u w hp=>by
    refine wpAnyH_ready (rs:=[9]) (by kernel_rfl) (by simp) ?_
    refine AllReadyH.cons (o:=⟨some 108,.call {callee:=.value (.func 6),args:=#[.tmp 104,.tmp 107],argTypes:=#[3,22]},24,"outright.go:69",#[⟨5,.data⟩,⟨8,.data⟩,⟨4,.chain⟩],none⟩) rfl (fun KQ hKQ=>?_) ?_
    · rw [if_pos (by rfl)]
      go_simp
      refine (show Calls _ _ _ w (fun e w'=>∃ (v:Nat),e=.returned (.pointer (some ⟨v,0,none⟩))∧(P w'∧PU u w'∧PV v w')) from (c2 w hp.1).mono fun e w' ⟨v,he,h1,h2,h3⟩=>⟨v,he,h1,kU _ _ _ hp.2 h3,h2⟩).mono ?_
      rintro e w' ⟨v,rfl,hp⟩
      exact hKQ.out _ _ (trivial) (fun _=>ekst4_9 u v w' hp)
    exact AllReadyH.nil
  have kst:∀ (w:World),(P w)→wpAnyH Tryz.prog .any z2W Q (fun _:World=>True) 4 #[true,true,true,true,false,true,true,true,true,false,false,false] {tmps:=#[.int .i64 d,.slice a n lc,.int .u64 (m:Int),.int .u64 (k:Int),u4,u5,u6,u7,u8,u9,u10,u11,u12,u13,u14,u15,u16,u17,u18,u19,u20,u21,u22,u23,u24,u25,u26,u27,u28,u29,u30,u31,u32,u33,u34,u35,u36,u37,u38,u39,u40,u41,u42,u43,u44,u45,u46,u47,u48,u49,u50,u51,u52,u53,u54,u55,u56,u57,u58,u59,u60,u61,u62,u63,u64,u65,u66,u67,u68,u69,u70,u71,u72,u73,u74,u75,u76,u77,u78,u79,u80,u81,u82,u83,u84,u85,u86,u87,u88,u89,u90,u91,u92,u93,u94,u95,u96,u97,u98,.int .i64 d,.slice a n lc,.int .u64 (m:Int),.slice a m lc,u103,.int .i64 d,.slice a n lc,.int .u64 (k:Int),.slice a k lc,u108,u109,u110,u111,u112,u113,u114,u115,u116,u117,u118,u119,u120,u121,u122,u123,u124,u125,u126,u127,u128,u129,u130,u131,u132,u133,u134,u135,u136,u137,u138,u139,u140,u141,u142,u143,u144,u145,u146,u147,u148,u149,u150,u151,u152,u153,u154,u155],defers:=[]} w:=fun  w hp=>by
    refine wpAnyH_ready (rs:=[4]) (by kernel_rfl) (by simp) ?_
    refine AllReadyH.cons (o:=⟨some 103,.call {callee:=.value (.func 6),args:=#[.tmp 99,.tmp 102],argTypes:=#[3,22]},24,"outright.go:69",#[⟨0,.data⟩,⟨3,.data⟩],none⟩) rfl (fun KQ hKQ=>?_) ?_
    · rw [if_pos (by rfl)]
      go_simp
      refine (show Calls _ _ _ w (fun e w'=>∃ (u:Nat),e=.returned (.pointer (some ⟨u,0,none⟩))∧(P w'∧PU u w')) from (c1 w hp).mono fun e w' ⟨u,he,h1,h2,h3⟩=>⟨u,he,h1,h2⟩).mono ?_
      rintro e w' ⟨u,rfl,hp⟩
      exact hKQ.out _ _ (trivial) (fun _=>kst4 u w' hp)
    exact AllReadyH.nil
  have hp:=h0
  have hww:(fun _:World=>True) W.drew:=trivial
  have last:=kst W.drew hp
  have z:wpAnyH Tryz.prog .any z2W Q (fun _:World=>True) 12 #[false,false,false,false,false,false,false,false,false,false,false,false] {tmps:=#[.int .i64 d,.slice a n lc,.int .u64 (m:Int),.int .u64 (k:Int),u4,u5,u6,u7,u8,u9,u10,u11,u12,u13,u14,u15,u16,u17,u18,u19,u20,u21,u22,u23,u24,u25,u26,u27,u28,u29,u30,u31,u32,u33,u34,u35,u36,u37,u38,u39,u40,u41,u42,u43,u44,u45,u46,u47,u48,u49,u50,u51,u52,u53,u54,u55,u56,u57,u58,u59,u60,u61,u62,u63,u64,u65,u66,u67,u68,u69,u70,u71,u72,u73,u74,u75,u76,u77,u78,u79,u80,u81,u82,u83,u84,u85,u86,u87,u88,u89,u90,u91,u92,u93,u94,u95,u96,u97,u98,u99,u100,u101,u102,u103,u104,u105,u106,u107,u108,u109,u110,u111,u112,u113,u114,u115,u116,u117,u118,u119,u120,u121,u122,u123,u124,u125,u126,u127,u128,u129,u130,u131,u132,u133,u134,u135,u136,u137,u138,u139,u140,u141,u142,u143,u144,u145,u146,u147,u148,u149,u150,u151,u152,u153,u154,u155],defers:=[]} W.drew:=by
    refine wpAnyH_take (i:=0) (oi:=⟨some 99,.move (.tmp 0),3,"outright.go:69",#[],none⟩) (v:=.int .i64 d) rfl (by kernel_rfl) (by kernel_rfl) (by kernel_rfl) (fun _ _ _ h=>hQ _ _ _ _ _ h) (Yields.yieldsIf (Or.inl ⟨by rfl,fun W=>by go_simp⟩)) hww ?_
    simp only [Act.put,List.setIfInBounds_toArray,List.set_cons_zero,List.set_cons_succ]
    refine wpAnyH_take (i:=1) (oi:=⟨some 100,.move (.tmp 1),22,"outright.go:69",#[],none⟩) (v:=.slice a n lc) rfl (by kernel_rfl) (by kernel_rfl) (by kernel_rfl) (fun _ _ _ h=>hQ _ _ _ _ _ h) (Yields.yieldsIf (Or.inl ⟨by rfl,fun W=>by go_simp⟩)) hww ?_
    simp only [Act.put,List.setIfInBounds_toArray,List.set_cons_zero,List.set_cons_succ]
    refine wpAnyH_take (i:=2) (oi:=⟨some 101,.move (.tmp 2),23,"outright.go:69",#[],none⟩) (v:=.int .u64 (m:Int)) rfl (by kernel_rfl) (by kernel_rfl) (by kernel_rfl) (fun _ _ _ h=>hQ _ _ _ _ _ h) (Yields.yieldsIf (Or.inl ⟨by rfl,fun W=>by go_simp⟩)) hww ?_
    simp only [Act.put,List.setIfInBounds_toArray,List.set_cons_zero,List.set_cons_succ]
    refine wpAnyH_take (i:=3) (oi:=⟨some 102,.slice 22 (.tmp 100) none (some (.tmp 101)) none,22,"outright.go:69",#[⟨1,.data⟩,⟨2,.data⟩],none⟩) (v:=.slice a m lc) rfl (by kernel_rfl) (by kernel_rfl) (by kernel_rfl) (fun _ _ _ h=>hQ _ _ _ _ _ h) (Or.inl ⟨by rfl,fun w hw=>by have hx:=hm w;go_simp⟩) hww ?_
    simp only [Act.put,List.setIfInBounds_toArray,List.set_cons_zero,List.set_cons_succ]
    refine wpAnyH_take (i:=5) (oi:=⟨some 104,.move (.tmp 0),3,"outright.go:69",#[],none⟩) (v:=.int .i64 d) rfl (by kernel_rfl) (by kernel_rfl) (by kernel_rfl) (fun _ _ _ h=>hQ _ _ _ _ _ h) (Yields.yieldsIf (Or.inl ⟨by rfl,fun W=>by go_simp⟩)) hww ?_
    simp only [Act.put,List.setIfInBounds_toArray,List.set_cons_zero,List.set_cons_succ]
    refine wpAnyH_take (i:=6) (oi:=⟨some 105,.move (.tmp 1),22,"outright.go:69",#[],none⟩) (v:=.slice a n lc) rfl (by kernel_rfl) (by kernel_rfl) (by kernel_rfl) (fun _ _ _ h=>hQ _ _ _ _ _ h) (Yields.yieldsIf (Or.inl ⟨by rfl,fun W=>by go_simp⟩)) hww ?_
    simp only [Act.put,List.setIfInBounds_toArray,List.set_cons_zero,List.set_cons_succ]
    refine wpAnyH_take (i:=7) (oi:=⟨some 106,.move (.tmp 3),23,"outright.go:69",#[],none⟩) (v:=.int .u64 (k:Int)) rfl (by kernel_rfl) (by kernel_rfl) (by kernel_rfl) (fun _ _ _ h=>hQ _ _ _ _ _ h) (Yields.yieldsIf (Or.inl ⟨by rfl,fun W=>by go_simp⟩)) hww ?_
    simp only [Act.put,List.setIfInBounds_toArray,List.set_cons_zero,List.set_cons_succ]
    refine wpAnyH_take (i:=8) (oi:=⟨some 107,.slice 22 (.tmp 105) none (some (.tmp 106)) none,22,"outright.go:69",#[⟨6,.data⟩,⟨7,.data⟩],none⟩) (v:=.slice a k lc) rfl (by kernel_rfl) (by kernel_rfl) (by kernel_rfl) (fun _ _ _ h=>hQ _ _ _ _ _ h) (Or.inl ⟨by rfl,fun w hw=>by have hx:=hk w;go_simp⟩) hww ?_
    simp only [Act.put,List.setIfInBounds_toArray,List.set_cons_zero,List.set_cons_succ]
    exact last
  exact wp_region_held_drew (S:=(fun _:World=>True)) (by kernel_rfl) hww (fun _=>z)
end Go.Proofs.YthjeeblddipiiaaGreatDoor
