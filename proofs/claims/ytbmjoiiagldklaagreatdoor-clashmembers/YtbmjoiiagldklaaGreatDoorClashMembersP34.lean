/- Texts of ClashMembers, one behind the other: VerifyRefClimb, VerifyRefBagRegion. -/
import Derived.Test.YtbmjoiiagldklaaGreatDoorClashMembersP6
import Derived.Test.YtbmjoiiagldklaaGreatDoorClashMembersP7
import Derived.Test.YtbmjoiiagldklaaGreatDoorClashMembersP15
import Derived.Test.YtbmjoiiagldklaaGreatDoorClashMembersP21
import Derived.Test.YtbmjoiiagldklaaGreatDoorClashMembersP31
import Derived.Test.YtbmjoiiagldklaaGreatDoorClashMembersP32
import Derived.Test.YtbmjoiiagldklaaGreatDoorClashMembersP33
namespace Go.Proofs.YtbmjoiiagldklaaGreatDoor
open Go.RowKit
set_option maxRecDepth 100000
theorem z6M (d:Int) (l r:List Int) (hl:IsH l) (hr:IsH r) (w:World):Calls Tryz.prog 52 #[.int .i64 d,.agg (z01 l).toArray,.agg (z01 r).toArray] w fun e w'=>e=.returned (.agg (z01 (z0E d l r)).toArray)∧Below w.heap.size w w':=by
  rw [z0B hl,z0B hr]
  refine (HX.zdE d (FNC l) (FNC r) (z1h hl) (z1h hr) w).mono ?_
  rintro e w' ⟨rfl,hb⟩
  exact ⟨by rw [z1x];rfl,hb⟩
theorem z8s {d:Int} {leaf:List Int} (hleaf:IsH leaf) {I:Nat} {l:List Int}:∀ t,IsH (WAYH d leaf I l t)
  | 0=>hleaf
  | t+1=>by
    rw [WAYH]
    split
    · exact z2e _ _ _
    · exact z2e _ _ _
theorem z62 (d:Int) (leaf:List Int) (S I:Nat) (hS:S<2 ^ 64) (hI:I<2 ^ 64) (a:Option Addr) (n c:Nat) (hn:n≤1000) (l:List Int) (w:World) (hF:Flat w a n l) (E:Int) (hE:(ENC S I n l).1=E) (h0:E≠0):
    Calls Tryz.prog 23 #[.int .i64 d,.agg (z01 leaf).toArray,.agg #[.int .u64 (S:Int),.int .u64 (I:Int),.slice a n c]] w (ANSH w (E,0,[])):=by
  obtain ⟨W0,hW0⟩:∃ W0,(w.alloc (.cells (z01 leaf).toArray 23)).alloc (.cells #[.int .u64 (S:Int),.int .u64 (I:Int),.slice a n c] 49)=W0:=⟨_,rfl⟩
  obtain ⟨bp,hbp⟩:∃ bp,w.heap.size+1=bp:=⟨_,rfl⟩
  have HB:Aside (Below w.heap.size w W0):=by rw [← hW0];exact ((Below.refl _ _).alloc (Nat.le_refl _) _).alloc (by simp) _
  have hH:Has W0 bp #[.int .u64 (S:Int),.int .u64 (I:Int),.slice a n c] 49:=by rw [← hW0,← hbp];exact Has.at _ _ _ (by simp)
  have ce:=z61 S I hS hI a n c hn l W0 (hF.below HB.out)
  unfold ANSB at ce
  rw [hE] at ce
  generalize (ENC S I n l).2=Z at ce
  have x0:=hH.cell 0
  have x1:=hH.cell 1
  have x2:=hH.cell 2
  clear hF hE hS hI hn hH
  go_enter Tryz.func23,Tryz.ntmps23
  go_upto_region 1 with fail
  clear hW0 hbp
  go_wp2_with fail
  refine ce.mono ?_
  rintro e w1 ⟨v,rfl,_,hb1⟩
  have R:Aside (Below w.heap.size w w1):=HB.out.trans (hb1.mono HB.out.size)
  clear ce hb1 HB x0 x1 x2
  go_wp2_with fail
  go_ret2
  exact ⟨none,0,rfl,⟨rfl,.inl ⟨rfl,rfl⟩⟩,R.out⟩
set_option maxHeartbeats 8000000 in
theorem z9w (d:Int) (leaf:List Int) (hleaf:IsH leaf) (S I:Nat) (hIS:I<S) (hS:S≤4611686018427387904) (a:Option Addr) (n c:Nat) (hn:n=(PSP I S).length) (l:List Int) (w:World) (hF:Flat w a n l):
    Calls Tryz.prog 23 #[.int .i64 d,.agg (z01 leaf).toArray,.agg #[.int .u64 (S:Int),.int .u64 (I:Int),.slice a n c]] w (ANSH w (0,PC S,CAT (CLM d leaf S I l) (SPAN 0 S))):=by
  have hlen:=z54 hIS hS
  have hK:=z2m hIS hS
  have hR:=z0K hIS hS
  have hP:=z0V 64 S (by omega)
  have hEN:(ENC S I n l).1=0:=by
    have hPL:PLA I S=(0,PLCS (PSP I S)):=by
      unfold PLA
      rw [if_neg (by omega),if_neg (by omega)]
    unfold ENC ENCB
    rw [hPL,if_neg (by simp),if_neg (by rw [z16];simpa using hn)]
  have hTK:=z8b (n:=S) (by omega) hK
  rw [z8c hIS hS] at hTK
  have hPK:∀ j,j<PC S→∃ h k,(SPAN 0 S)[j]?=some (h,k)∧CLM d leaf S I l h k=PEK d leaf S I l j:=fun j hj=>⟨_,_,z2o hS hj,z71 hIS hS l (z2o hS hj)⟩
  have hSL:=z1M hS
  have hTL:0<(TOPS 0 S).length:=Nat.lt_of_le_of_lt (Nat.zero_le _) (List.getElem?_eq_some_iff.1 hTK).1
  obtain ⟨gn,o,hA⟩:∃ gn o,0<n→a=some ⟨gn,o,none⟩∧gn<w.heap.size:=by
    by_cases h:0<n
    · obtain ⟨gn,o,e,hg,_⟩:=hF.2.1 h
      exact ⟨gn,o,fun _=>⟨e,hg⟩⟩
    · exact ⟨0,0,fun h'=>absurd h' h⟩
  obtain ⟨W0,hW0⟩:∃ W0,(w.alloc (.cells (z01 leaf).toArray 23)).alloc (.cells #[.int .u64 (S:Int),.int .u64 (I:Int),.slice a n c] 49)=W0:=⟨_,rfl⟩
  obtain ⟨b4,hb4⟩:∃ b4,w.heap.size=b4:=⟨_,rfl⟩
  obtain ⟨bp,hbp⟩:∃ bp,b4+1=bp:=⟨_,rfl⟩
  have R0:Aside (Below w.heap.size w W0∧Has W0 b4 (z01 leaf).toArray 23∧Has W0 bp #[.int .u64 (S:Int),.int .u64 (I:Int),.slice a n c] 49):=by
    rw [← hW0,← hbp,← hb4]
    exact ⟨((Below.refl _ _).alloc (Nat.le_refl _) _).alloc (by simp) _,(Has.new _ _ _).alloc _,Has.at _ _ _ (by simp)⟩
  have ce:=z61 S I (by omega) (by omega) a n c (by have:=z68 hIS hS;omega) l W0 (hF.below R0.out.1)
  unfold ANSB at ce
  rw [hEN] at ce
  generalize (ENC S I n l).2=Z at ce
  have CP:Aside (∀ W,Calls Tryz.prog 50 #[.int .u64 (I:Int),.int .u64 (S:Int)] W fun e w'=>e=.returned (.tuple #[.int .i64 ((KTH I S:Nat):Int),.bool true])∧Below W.heap.size W w'):=fun W=>z57 I S hIS hS W
  have CT:Aside (∀ W,Calls Tryz.prog 51 #[.int .u64 (S:Int)] W fun e w'=>∃ a cap,e=.returned (.slice a (PC S) cap)∧Spots w' a (TOPS 0 S)∧Below W.heap.size W w'):=fun W=>z2Y S hS W
  generalize hRI:RISE I S=R at *
  generalize hKT:KTH I S=K at *
  generalize KGT S K=kk at *
  have hPE:∀ j,PEK d leaf S I l j=if j=K then WAYH d leaf I l R else HSH l (R+(if j<K then j else j - 1)):=fun j=>by unfold PEK;rw [hKT,hRI]
  generalize TOPS 0 S=T at *
  generalize SPAN 0 S=ss at *
  generalize CLM d leaf S I l=M at *
  generalize PC S=m at *
  have HA:Aside (IsH leaf∧n+1=R+m∧K<m∧R≤62∧m≤64∧T[K]?=some (R,kk)∧0<T.length∧(∀ j,j<m→∃ h k,ss[j]?=some (h,k)∧M h k=if j=K then WAYH d leaf I l R else HSH l (R+(if j<K then j else j - 1)))∧ss.length=m∧(0<n→a=some ⟨gn,o,none⟩∧gn<w.heap.size)∧Flat w a n l∧I<2 ^ 64):=⟨hleaf,by omega,hK,hR.2.1,hP,hTK,hTL,fun j hj=>by obtain ⟨h,k,e1,e2⟩:=hPK j hj;exact ⟨h,k,e1,by rw [e2,hPE]⟩,hSL,hA,hF,by omega⟩
  have x0:=R0.out.2.2.cell 0
  have x1:=R0.out.2.2.cell 1
  have x2:=R0.out.2.2.cell 2
  clear hleaf hlen hK hR hP hEN hTK hPK hSL hTL hA hF hIS hS hn hRI hKT hPE
  go_enter Tryz.func23,Tryz.ntmps23
  go_upto_region 1 with fail
  go_wp2_with fail
  refine ce.mono ?_
  rintro e w1 ⟨v,rfl,_,hb1⟩
  have R1:Aside (Below w.heap.size w w1∧Has w1 b4 (z01 leaf).toArray 23∧Has w1 bp #[.int .u64 (S:Int),.int .u64 (I:Int),.slice a n c] 49):=⟨R0.out.1.trans (hb1.mono R0.out.1.size),R0.out.2.1.keep hb1,R0.out.2.2.keep hb1⟩
  have HB4:Aside (w.heap.size=b4∧b4+1=bp):=⟨hb4,hbp⟩
  clear ce hb1 R0 x0 x1 x2 hW0 hb4 hbp
  have x0:=R1.out.2.2.cell 0
  have x1:=R1.out.2.2.cell 1
  have cp:=CP.out w1
  go_wp2_with fail
  refine cp.mono ?_
  rintro e w2 ⟨rfl,hb2⟩
  have R2:Aside (Below w.heap.size w w2∧Has w2 b4 (z01 leaf).toArray 23∧Has w2 bp #[.int .u64 (S:Int),.int .u64 (I:Int),.slice a n c] 49):=⟨R1.out.1.trans (hb2.mono R1.out.1.size),R1.out.2.1.keep hb2,R1.out.2.2.keep hb2⟩
  clear cp hb2 R1 x0 x1 CP
  have x0:=R2.out.2.2.cell 0
  have ct:=CT.out w2
  go_wp2_with fail
  refine ct.mono ?_
  rintro e w3 ⟨at',cap',rfl,hsp,hb3⟩
  obtain ⟨gt,rfl,hgt,hcell⟩:=hsp HA.out.2.2.2.2.2.2.1
  have hck:=(hcell K R kk HA.out.2.2.2.2.2.1).1
  have R3:Aside (Below w.heap.size w w3∧Has w3 b4 (z01 leaf).toArray 23∧Has w3 bp #[.int .u64 (S:Int),.int .u64 (I:Int),.slice a n c] 49∧w3.cell? ⟨gt,K*2,none⟩=some (.int .u8 (R:Int))∧gt<w3.heap.size):=⟨R2.out.1.trans (hb3.mono R2.out.1.size),R2.out.2.1.keep hb3,R2.out.2.2.keep hb3,hck,hgt⟩
  clear ct hb3 R2 x0 CT hsp hck hgt hcell
  have x1:w3.cell? ⟨bp,1,none⟩=some (.int .u64 (I:Int)):=R3.out.2.2.1.cell 1
  have h32:=HA.out.1.1
  have hs4:=R3.out.2.1
  go_upto_region 7 with (first
    | (refine wpList_load_row rfl 23 (.tmp 4) rfl b4 rfl 23 (z01 leaf).toArray (0,0) _ hs4 Tryz.underlying23 rfl (z05 h32) ?_)
    | (refine wpList_store_row rfl 23 (.tmp 13) (.tmp 38) rfl _ _ rfl rfl 23 _ (Has.new w3 _ _) (z05 h32) (by simp [z01,h32]) (z0u leaf) ?_;rw [World.setRow_alloc_new]))
  have R4:Aside (Below w3.heap.size w3 (w3.alloc (.cells (z01 leaf).toArray 23))∧Has (w3.alloc (.cells (z01 leaf).toArray 23)) w3.heap.size (z01 (WAYH d leaf I l 0)).toArray 23∧b4<w3.heap.size∧bp<w3.heap.size∧w.heap.size≤w3.heap.size):=⟨(Below.refl _ _).alloc (Nat.le_refl _) _,Has.new _ _ _,R3.out.2.1.lt,R3.out.2.2.1.lt,R3.out.1.size⟩
  clear x1 h32 hs4
  generalize w3.alloc (.cells (z01 leaf).toArray 23)=w4 at *
  obtain ⟨b13,hb13⟩:∃ b13,w3.heap.size=b13:=⟨_,rfl⟩
  rw [hb13] at R4 ⊢
  have HB:Aside (w3.heap.size=b13):=hb13
  clear hb13
  have x1:w4.cell? ⟨bp,1,none⟩=some (.int .u64 (I:Int)):=(R3.out.2.2.1.keep (by rw [HB.out];exact R4.out.1)).cell 1
  go_wp2_with fail
  clear x1
  go_loopg [14,15,16] R (fun q s14 s15 s16 wx=>∃ t:Nat,s14=.int .u64 ((I / 2 ^ t:Nat):Int)∧s15=.int .i64 (t:Int)∧s16=.int .i64 (t:Int)∧Aside (t+q=R∧Below b13 w3 wx∧Has wx b13 (z01 (WAYH d leaf I l t)).toArray 23))
  case atStart=>exact ⟨0,by rw [Nat.pow_zero,Nat.div_one],rfl,rfl,by omega,R4.out.1,R4.out.2.1⟩
  case round=>
    obtain ⟨t,rfl,rfl,rfl,A⟩:=hrel
    have R5:Aside (b4<b13∧bp<b13∧w.heap.size≤b13):=R4.out.2.2
    clear R4
    have BW:Aside (Below w.heap.size w wr∧Below w3.heap.size w3 wr):=by
      have h:Below w3.heap.size w3 wr:=by rw [HB.out];exact A.out.2.1
      exact ⟨R3.out.1.trans (h.mono R3.out.1.size),h⟩
    have hck:wr.cell? ⟨gt,K*2,none⟩=some (.int .u8 (R:Int)):=(BW.out.2.cell (p:=⟨gt,K*2,none⟩) R3.out.2.2.2.2).trans R3.out.2.2.2.1
    have k1:(K:Int)<(m:Int):=by have:=HA.out.2.2.1;omega
    have eR:wrap64 (R:Int)=(R:Int):=by have:=HA.out.2.2.2.1;unfold wrap64;omega
    cases gk with
    | succ q=>
      have hlt:(t:Int)<(R:Int):=by have:=A.out.1;omega
      have htn:t<n:=by have:=A.out.1;have:=HA.out.2.1;have:=HA.out.2.2.1;omega
      have hti:(t:Int)<(n:Int):=by omega
      obtain ⟨ha,hgn⟩:=HA.out.2.2.2.2.2.2.2.2.2.1 (by omega)
      have hat:=Flat.at (b:=gn) (o:=o) (by rw [← ha];exact HA.out.2.2.2.2.2.2.2.2.2.2.1) htn
      have hsp:Has wr bp #[.int .u64 (S:Int),.int .u64 (I:Int),.slice (some ⟨gn,o,none⟩) n c] 49:=by rw [← ha];exact R3.out.2.2.1.keep BW.out.2
      have hL:IsH (HSH l t):=z1F HA.out.2.2.2.2.2.2.2.2.2.2.1.1 HA.out.2.2.2.2.2.2.2.2.2.2.1.2.2 htn
      have hX:=z8s HA.out.1 (d:=d) (I:=I) (l:=l) t
      have hY:=z8s HA.out.1 (d:=d) (I:=I) (l:=l) (t+1)
      have et:wrap64 ((t:Int)+1)=((t+1:Nat):Int):=by have:=HA.out.2.2.2.1;unfold wrap64;omega
      have ed:IntKind.u64.wrap (((I / 2 ^ t:Nat):Int).tdiv 2)=((I / 2 ^ (t+1):Nat):Int):=by
        have h1:((I / 2 ^ t:Nat):Int).tdiv 2=((I / 2 ^ (t+1):Nat):Int):=by rw [Int.tdiv_eq_ediv_of_nonneg (Int.natCast_nonneg _),Nat.pow_succ,← Nat.div_div_eq_div_mul];omega
        rw [h1]
        exact zcY (Nat.lt_of_le_of_lt (Nat.div_le_self _ _) HA.out.2.2.2.2.2.2.2.2.2.2.2)
      have H2:Aside (w.rangeAt gn (o+t*32) (z01 (HSH l t))∧gn<w.heap.size∧Has wr bp #[.int .u64 (S:Int),.int .u64 (I:Int),.slice (some ⟨gn,o,none⟩) n c] 49∧Has wr b13 (z01 (WAYH d leaf I l t)).toArray 23∧t+1+q=R∧Below b13 w3 wr):=⟨hat,hgn,hsp,A.out.2.2,by have:=A.out.1;omega,A.out.2.1⟩
      have hI0:∀ V,Below wr.heap.size wr V→(V.rangeAt gn (o+t*32) (z01 (HSH l t))∧V.cell? ⟨bp,2,none⟩=some (.slice (some ⟨gn,o,none⟩) n c))∧Has V b13 (z01 (WAYH d leaf I l t)).toArray 23:=fun V hV=>⟨⟨z25 H2.out.1 (BW.out.1.trans (hV.mono BW.out.1.size)) H2.out.2.1,(H2.out.2.2.1.keep hV).cell 2⟩,H2.out.2.2.2.1.keep hV⟩
      have hRow:∀ V,Below wr.heap.size wr V→(V.setRow b13 (z01 (WAYH d leaf I l (t+1))).toArray).rangeAt gn (o+t*32) (z01 (HSH l t))∧(V.setRow b13 (z01 (WAYH d leaf I l (t+1))).toArray).cell? ⟨bp,2,none⟩=some (.slice (some ⟨gn,o,none⟩) n c):=fun V hV=>⟨z25 H2.out.1 (z0k (BW.out.1.trans (hV.mono BW.out.1.size)) R5.out.2.2 _) H2.out.2.1,((H2.out.2.2.1.keep hV).row_other (by have:=R5.out.2.1;omega) _).cell 2⟩
      have Z0:Aside (∀ V,Below wr.heap.size wr V→t+1+q=R∧Below b13 w3 (V.setRow b13 (z01 (WAYH d leaf I l (t+1))).toArray)∧Has (V.setRow b13 (z01 (WAYH d leaf I l (t+1))).toArray) b13 (z01 (WAYH d leaf I l (t+1))).toArray 23):=fun V hV=>⟨H2.out.2.2.2.2.1,z0k (H2.out.2.2.2.2.2.trans (hV.mono (by have:=H2.out.2.2.2.1.lt;omega))) (Nat.le_refl _) _,(H2.out.2.2.2.1.keep hV).row _⟩
      have II:Aside (∀ V,Below wr.heap.size wr V→(V.rangeAt gn (o+t*32) (z01 (HSH l t))∧V.cell? ⟨bp,2,none⟩=some (.slice (some ⟨gn,o,none⟩) n c))∧Has V b13 (z01 (WAYH d leaf I l t)).toArray 23):=hI0
      have IR:Aside (∀ V,Below wr.heap.size wr V→(V.setRow b13 (z01 (WAYH d leaf I l (t+1))).toArray).rangeAt gn (o+t*32) (z01 (HSH l t))∧(V.setRow b13 (z01 (WAYH d leaf I l (t+1))).toArray).cell? ⟨bp,2,none⟩=some (.slice (some ⟨gn,o,none⟩) n c)):=hRow
      have IH:Aside (IsH (HSH l t)∧IsH (WAYH d leaf I l t)∧IsH (WAYH d leaf I l (t+1))):=⟨hL,hX,hY⟩
      clear hI0 hRow hL hX hY H2 hat hsp ha hgn htn A R3 R5 BW HB HA HB4
      by_cases hq:I / 2 ^ t % 2=0
      · have em:(((I / 2 ^ t:Nat):Int).tmod 2 == 0)=true:=by rw [beq_iff_eq,Int.tmod_eq_emod_of_nonneg (Int.natCast_nonneg _)];omega
        have eY:Aside (WAYH d leaf I l (t+1)=z0E d (WAYH d leaf I l t) (HSH l t)):=by show WAYH d leaf I l (t+1)=_;rw [WAYH,if_pos hq]
        clear hq
        generalize ((I / 2 ^ t:Nat):Int)=z14 at *
        go_upto_region 13 with fail
        refine z9u wr gn o n c b13 bp t d (HSH l t) (WAYH d leaf I l t) (WAYH d leaf I l (t+1)) IH.out.1.1 IH.out.2.1.1 IH.out.2.2.1 hti (fun V=>Below wr.heap.size wr V) (Below.refl _ _).drew II.out IR.out (fun V hV=>?_) (fun _ _ _ _ _ h=>h) ?_
        · refine (z6M d (WAYH d leaf I l t) (HSH l t) IH.out.2.1 IH.out.1 V).mono ?_
          rintro e V' ⟨rfl,hb⟩
          exact ⟨by rw [eY.out],hV.trans (hb.mono hV.size)⟩
        · rintro W3 ⟨w0',hw0',hW3⟩
          have Z:Aside (t+1+q=R∧Below b13 w3 W3∧Has W3 b13 (z01 (WAYH d leaf I l (t+1))).toArray 23):=by rw [hW3];exact Z0.out w0' hw0'
          clear hW3 hw0' II IR IH Z0 eY
          go_wp2_with fail
          go_roundg q
          case measure=>exact Nat.lt_succ_self _
          case rel=>exact ⟨t+1,by first | rfl | (rw [ed]),by first | rfl | (rw [et]),by first | rfl | (rw [et]),Z.out⟩
      · have em:(((I / 2 ^ t:Nat):Int).tmod 2 == 0)=false:=by rw [beq_eq_false_iff_ne,Int.tmod_eq_emod_of_nonneg (Int.natCast_nonneg _)];omega
        have eY:Aside (WAYH d leaf I l (t+1)=z0E d (HSH l t) (WAYH d leaf I l t)):=by show WAYH d leaf I l (t+1)=_;rw [WAYH,if_neg hq]
        clear hq
        generalize ((I / 2 ^ t:Nat):Int)=z14 at *
        go_upto_region 14 with fail
        refine z8o wr gn o n c b13 bp t d (HSH l t) (WAYH d leaf I l t) (WAYH d leaf I l (t+1)) IH.out.1.1 IH.out.2.1.1 IH.out.2.2.1 hti (fun V=>Below wr.heap.size wr V) (Below.refl _ _).drew II.out IR.out (fun V hV=>?_) (fun _ _ _ _ _ h=>h) ?_
        · refine (z6M d (HSH l t) (WAYH d leaf I l t) IH.out.1 IH.out.2.1 V).mono ?_
          rintro e V' ⟨rfl,hb⟩
          exact ⟨by rw [eY.out],hV.trans (hb.mono hV.size)⟩
        · rintro W3 ⟨w0',hw0',hW3⟩
          have Z:Aside (t+1+q=R∧Below b13 w3 W3∧Has W3 b13 (z01 (WAYH d leaf I l (t+1))).toArray 23):=by rw [hW3];exact Z0.out w0' hw0'
          clear hW3 hw0' II IR IH Z0 eY
          go_wp2_with fail
          go_roundg q
          case measure=>exact Nat.lt_succ_self _
          case rel=>exact ⟨t+1,by first | rfl | (rw [ed]),by first | rfl | (rw [et]),by first | rfl | (rw [et]),Z.out⟩
    | zero=>
      obtain rfl:t=R:=by have:=A.out.1;omega
      have hlt:¬ (t:Int)<(t:Int):=by omega
      obtain ⟨wv,hwv⟩:∃ wv,wv=wr:=⟨_,rfl⟩
      rw [← hwv] at A BW hck ⊢
      clear hwv
      have RV:Aside (Has wv bp #[.int .u64 (S:Int),.int .u64 (I:Int),.slice a n c] 49∧Has wv b13 (z01 (WAYH d leaf I l t)).toArray 23∧Below w.heap.size w wv):=⟨R3.out.2.2.1.keep BW.out.2,A.out.2.2,BW.out.1⟩
      clear A R3 R5 BW HB HB4
      generalize ((I / 2 ^ t:Nat):Int)=z14 at *
      go_wp2_with fail
      clear hck eR hlt
      go_loopg [15,17,18] m (fun q s15 s17 s18 wx=>∃ j:Nat,s15=.int .i64 ((t+(if j≤K then j else j - 1):Nat):Int)∧s18=.int .i64 (j:Int)∧Aside (j+q=m∧wx.ownsRow wv.heap.size 23 32 s17 j (z01 (CAT M (ss.take j)))∧Below wv.heap.size wv wx))
      case atStart=>exact ⟨0,by simp,rfl,by omega,⟨rfl,.inl ⟨rfl,rfl⟩⟩,Below.refl _ _⟩
      case round=>
        obtain ⟨j,rfl,rfl,A⟩:=hrel
        cases gk with
        | zero=>
          obtain rfl:j=m:=by have:=A.out.1;omega
          have hjm:¬ (j:Int)<(j:Int):=by omega
          have RR:Aside (∃ a c,u17=.slice a j c∧wr.ownsRow w.heap.size 23 32 (.slice a j c) j (z01 (CAT M ss))∧Below w.heap.size w wr):=by
            obtain ⟨_,h1,h2⟩:=A.out
            rw [List.take_of_length_le (by have:=HA.out.2.2.2.2.2.2.2.2.1;omega)] at h1
            obtain ⟨a,c,rfl,_⟩:=z5l h1
            exact ⟨a,c,rfl,z0L h1 RV.out.2.2.size,RV.out.2.2.trans (h2.mono RV.out.2.2.size)⟩
          clear A RV HA
          generalize ((t+(if j≤K then j else j - 1):Nat):Int)=z15
          go_wp2_with fail
          go_ret2
          obtain ⟨a,c,e,h1,h2⟩:=RR.out
          exact ⟨a,c,by rw [e];rfl,h1,h2⟩
        | succ q=>
          have hjm:(j:Int)<(m:Int):=by have:=A.out.1;omega
          obtain ⟨h,k,e1,e2⟩:=HA.out.2.2.2.2.2.2.2.1 j (by omega)
          have eC:=zai (M:=M) e1
          have ej:wrap64 ((j:Int)+1)=((j+1:Nat):Int):=by have:=HA.out.2.2.2.2.1;unfold wrap64;omega
          have R6:Aside (j+1+q=m∧wr.ownsRow wv.heap.size 23 32 u17 j (z01 (CAT M (ss.take j)))∧Below wv.heap.size wv wr∧j≤64):=⟨by have:=A.out.1;omega,A.out.2.1,A.out.2.2,by have:=HA.out.2.2.2.2.1;omega⟩
          clear A e1
          by_cases hjK:j=K
          · have hjk:((j:Int) == (K:Int))=true:=by rw [beq_iff_eq];omega
            rw [if_pos hjK] at e2
            rw [e2] at eC
            have EC:Aside (CAT M (ss.take (j+1))=CAT M (ss.take j) ++ WAYH d leaf I l t):=eC
            have x32:=(z8s HA.out.1 (d:=d) (I:=I) (l:=l) t).1
            have h13:Has wr b13 (z01 (WAYH d leaf I l t)).toArray 23:=RV.out.2.1.keep R6.out.2.2.1
            have ep:((t+(if j≤K then j else j - 1):Nat):Int)=((t+(if j+1≤K then j+1 else j+1 - 1):Nat):Int):=by rw [if_pos (by omega),if_neg (by omega)];rfl
            clear e2 eC HA
            obtain ⟨z15,hz⟩:∃ z15:Int,((t+(if j+1≤K then j+1 else j+1 - 1):Nat):Int)=z15:=⟨_,rfl⟩
            rw [ep,hz]
            have HZ:Aside (((t+(if j+1≤K then j+1 else j+1 - 1):Nat):Int)=z15):=hz
            clear ep hjK hz
            generalize WAYH d leaf I l t=X at *
            go_wp2_with (first
              | (refine wpList_load_row rfl 23 (.tmp 13) rfl b13 rfl 23 (z01 X).toArray (0,0) _ h13 Tryz.underlying23 rfl (z05 x32) ?_)
              | (refine z1X _ rfl 42 23 (.tmp 84) rfl (z01 X).toArray rfl 32 _ _ Tryz.underlying42 z2p (by simp [z01,x32]) rfl (by decide) (by decide) ?_)
              | (at_builtin;refine z5b _ rfl (.tmp 83) (.tmp 85) rfl wv.heap.size u17 j _ rfl (R6.out.2.1.alloc _) _ 1 X x32 rfl (Has.new _ _ _) (by have:=R6.out.2.2.2;omega) (by have:=R6.out.2.2.1.size;simp;omega) ?_;intro g4 c4 w5 hown hgrow hat hg))
            have Z:Aside (j+1+q=m∧w5.ownsRow wv.heap.size 23 32 (.slice (some ⟨g4,0,none⟩) (j+1) c4) (j+1) (z01 (CAT M (ss.take (j+1))))∧Below wv.heap.size wv w5):=by
              obtain ⟨r1,r2,r3,_⟩:=R6.out
              exact ⟨r1,by rw [EC.out,z0A];exact hown,(r3.alloc r3.size _).grown hgrow (by have:=r3.size;simp;omega) (fun k e=>(r2.lt k e).1)⟩
            clear hown hgrow hat hg R6 EC h13 RV
            go_roundg q
            case measure=>exact Nat.lt_succ_self _
            case rel=>exact ⟨j+1,by rw [HZ.out],by first | rfl | (rw [ej]),Z.out⟩
          · have hjk:((j:Int) == (K:Int))=false:=by rw [beq_eq_false_iff_ne];omega
            rw [if_neg hjK] at e2
            obtain ⟨p,hp⟩:∃ p,t+(if j<K then j else j - 1)=p:=⟨_,rfl⟩
            have hp1:t+(if j≤K then j else j - 1)=p:=by
              rw [← hp]
              by_cases h:j<K
              · rw [if_pos h,if_pos (by omega)]
              · rw [if_neg h,if_neg (by omega)]
            have hp2:t+(if j+1≤K then j+1 else j+1 - 1)=p+1:=by
              rw [← hp]
              by_cases h:j<K
              · rw [if_pos h,if_pos (by omega)]
                omega
              · rw [if_neg h,if_neg (by omega)]
                omega
            have hpn:p<n:=by
              have h1:=HA.out.2.1
              have h2:=HA.out.2.2.1
              have h3:=R6.out.1
              rw [← hp]
              split <;> omega
            rw [hp] at e2
            rw [e2] at eC
            have EC:Aside (CAT M (ss.take (j+1))=CAT M (ss.take j) ++ HSH l p):=eC
            obtain ⟨ha,hgn⟩:=HA.out.2.2.2.2.2.2.2.2.2.1 (by omega)
            have hFr:Flat wr (some ⟨gn,o,none⟩) n l:=by rw [← ha];exact HA.out.2.2.2.2.2.2.2.2.2.2.1.below (RV.out.2.2.trans (R6.out.2.2.1.mono RV.out.2.2.size))
            have hat:=hFr.at hpn
            have y2:wr.cell? ⟨bp,2,none⟩=some (.slice (some ⟨gn,o,none⟩) n c):=by rw [← ha];exact (RV.out.1.keep R6.out.2.2.1).cell 2
            have x32:=(z1F hFr.1 hFr.2.2 hpn).1
            have hpi:(p:Int)<(n:Int):=by omega
            have e1:wrap64 ((p:Int)+1)=((p+1:Nat):Int):=by have h1:=HA.out.2.1;have h2:=HA.out.2.2.2.1;have h3:=HA.out.2.2.2.2.1;unfold wrap64;omega
            have HP:Aside (t+(if j+1≤K then j+1 else j+1 - 1)=p+1):=hp2
            clear e2 eC HA hp2 hp hFr ha hgn hpn hjK
            rw [hp1]
            clear hp1
            generalize HSH l p=X at *
            go_wp2_with (first
              | (refine wpList_load_mid rfl 23 (.tmp 91) rfl gn (o+p*32) rfl (z01 X) _ hat Tryz.underlying23 rfl (z0e x32) ?_)
              | (refine z1X _ rfl 42 23 (.tmp 92) rfl (z01 X).toArray rfl 32 _ _ Tryz.underlying42 z2p (by simp [z01,x32]) rfl (by decide) (by decide) ?_)
              | (at_builtin;refine z5b _ rfl (.tmp 87) (.tmp 93) rfl wv.heap.size u17 j _ rfl (R6.out.2.1.alloc _) _ 1 X x32 rfl (Has.new _ _ _) (by have:=R6.out.2.2.2;omega) (by have:=R6.out.2.2.1.size;simp;omega) ?_;intro g4 c4 w5 hown hgrow hat4 hg))
            have Z:Aside (j+1+q=m∧w5.ownsRow wv.heap.size 23 32 (.slice (some ⟨g4,0,none⟩) (j+1) c4) (j+1) (z01 (CAT M (ss.take (j+1))))∧Below wv.heap.size wv w5):=by
              obtain ⟨r1,r2,r3,_⟩:=R6.out
              exact ⟨r1,by rw [EC.out,z0A];exact hown,(r3.alloc r3.size _).grown hgrow (by have:=r3.size;simp;omega) (fun k e=>(r2.lt k e).1)⟩
            clear hown hgrow hat4 hg R6 EC hat RV
            go_roundg q
            case measure=>exact Nat.lt_succ_self _
            case rel=>exact ⟨j+1,by rw [HP.out];first | rfl | (rw [e1]),by first | rfl | (rw [ej]),Z.out⟩
theorem zbD (d:Int) (leaf:List Int) (hleaf:IsH leaf) (S I:Nat) (hS:S<2 ^ 64) (hI:I<2 ^ 64) (a:Option Addr) (n c:Nat) (hn:n≤1000) (l:List Int) (w:World) (hF:Flat w a n l):
    Calls Tryz.prog 23 #[.int .i64 d,.agg (z01 leaf).toArray,.agg #[.int .u64 (S:Int),.int .u64 (I:Int),.slice a n c]] w (ANSH w (CLA d leaf S I n l)):=by
  unfold CLA
  by_cases hE:(PLA I S).1=0
  · rw [if_neg (by simpa using hE)]
    have hIS:I<S∧S≤4611686018427387904:=by
      unfold PLA at hE
      split at hE
      · simp at hE
      · split at hE
        · simp at hE
        · omega
    have hPL:PLA I S=(0,PLCS (PSP I S)):=by
      unfold PLA
      rw [if_neg (by omega),if_neg (by omega)]
    have hlen:(PLA I S).2.length=(PSP I S).length:=by rw [hPL];exact z16 _
    by_cases hn2:n=(PLA I S).2.length
    · rw [if_neg (by simpa using hn2)]
      exact z9w d leaf hleaf S I hIS.1 hIS.2 a n c (by omega) l w hF
    · rw [if_pos hn2]
      exact z62 d leaf S I hS hI a n c hn l w hF 70 (by unfold ENC ENCB;rw [if_neg (by simpa using hE),if_pos hn2]) (by decide)
  · rw [if_pos hE]
    exact z62 d leaf S I hS hI a n c hn l w hF _ (by unfold ENC ENCB;rw [if_pos hE]) hE
end Go.Proofs.YtbmjoiiagldklaaGreatDoor

namespace Go.Proofs.YtbmjoiiagldklaaGreatDoor
open Go.RowKit
set_option maxRecDepth 100000
def z20:Array Oper:=#[⟨some 39,.move (.tmp 0),3,"ref.go:24",#[],none⟩,⟨some 40,.move (.tmp 2),42,"ref.go:24",#[],none⟩,⟨some 41,.move (.tmp 9),3,"ref.go:24",#[],none⟩,⟨some 42,.indexAddr 42 (.tmp 40) (.tmp 41),0,"ref.go:24",#[⟨1,.data⟩,⟨2,.data⟩],none⟩,⟨some 43,.load 23 (.tmp 42),23,"ref.go:24",#[⟨3,.data⟩],none⟩,⟨some 44,.load 23 (.tmp 8),23,"ref.go:24",#[],none⟩,⟨some 45,.call {callee:=.value (.func 54),args:=#[.tmp 39,.tmp 43,.tmp 44],argTypes:=#[3,23,23]},23,"ref.go:24",#[⟨0,.data⟩,⟨4,.data⟩,⟨5,.data⟩],none⟩,⟨none,.store 23 (.tmp 8) (.tmp 45),0,"ref.go:24",#[⟨6,.data⟩,⟨6,.chain⟩,⟨0,.phase⟩,⟨1,.phase⟩,⟨2,.phase⟩,⟨3,.phase⟩,⟨4,.phase⟩,⟨5,.phase⟩,⟨6,.phase⟩],none⟩]
set_option maxHeartbeats 2000000 in
theorem zaE {Q:Exit→Act→World→Prop} {u1 u3 u4 u5 u6 u7 u10 u11 u12 u13 u14 u15 u16 u17 u18 u19 u20 u21 u22 u23 u24 u25 u26 u27 u28 u29 u30 u31 u32 u33 u34 u35 u36 u37 u38 u39 u40 u41 u42 u43 u44 u45 u46 u47 u48 u49:Value} (W:World) (gn o n c b q:Nat) (d:Int) (L X Y:List Int) (hL:L.length=32) (hX:X.length=32) (hY:Y.length=32) (hq:(q:Int)<(n:Int)) (I:World→Prop) (h0:I W.drew) (hI:∀ w,I w→w.rangeAt gn (o+q*32) (z01 L)∧Has w b (z01 X).toArray 23) (hRow:∀ w,I w→(w.setRow b (z01 Y).toArray).rangeAt gn (o+q*32) (z01 L))
    (q1:∀ w,I w→Calls Tryz.prog 54 #[.int .i64 d,.agg (z01 L).toArray,.agg (z01 X).toArray] w fun e w'=>e=.returned (.agg (z01 Y).toArray)∧I w') (hQ:∀ c (a:Act) (t:Tmp) (v:Value) w,Q (.panic c) (a.put (some t) v) w→Q (.panic c) a w)
    (hfin:∀ (w:World),(∃ w0:World,I w0∧w=w0.setRow b (z01 Y).toArray)→Q .normal {tmps:=#[.int .i64 d,u1,.slice (some ⟨gn,o,none⟩) n c,u3,u4,u5,u6,u7,.pointer (some ⟨b,0,none⟩),.int .i64 (q:Int),u10,u11,u12,u13,u14,u15,u16,u17,u18,u19,u20,u21,u22,u23,u24,u25,u26,u27,u28,u29,u30,u31,u32,u33,u34,u35,u36,u37,u38,.int .i64 d,.slice (some ⟨gn,o,none⟩) n c,.int .i64 (q:Int),.pointer (some ⟨gn,(o+q*32),none⟩),.agg (z01 L).toArray,.agg (z01 X).toArray,.agg (z01 Y).toArray,u46,u47,u48,u49],defers:=[]} w):(Code.region 11 z20 true).wp Tryz.prog Q {tmps:=#[.int .i64 d,u1,.slice (some ⟨gn,o,none⟩) n c,u3,u4,u5,u6,u7,.pointer (some ⟨b,0,none⟩),.int .i64 (q:Int),u10,u11,u12,u13,u14,u15,u16,u17,u18,u19,u20,u21,u22,u23,u24,u25,u26,u27,u28,u29,u30,u31,u32,u33,u34,u35,u36,u37,u38,u39,u40,u41,u42,u43,u44,u45,u46,u47,u48,u49],defers:=[]} W:=by
  have k5_6_7:∀ (w:World),(∃ w0:World,I w0∧w=w0.setRow b (z01 Y).toArray)→wpAnyH Tryz.prog .any z20 Q (fun w:World=>w.rangeAt gn (o+q*32) (z01 L)) 0 #[true,true,true,true,true,true,true,true] {tmps:=#[.int .i64 d,u1,.slice (some ⟨gn,o,none⟩) n c,u3,u4,u5,u6,u7,.pointer (some ⟨b,0,none⟩),.int .i64 (q:Int),u10,u11,u12,u13,u14,u15,u16,u17,u18,u19,u20,u21,u22,u23,u24,u25,u26,u27,u28,u29,u30,u31,u32,u33,u34,u35,u36,u37,u38,.int .i64 d,.slice (some ⟨gn,o,none⟩) n c,.int .i64 (q:Int),.pointer (some ⟨gn,(o+q*32),none⟩),.agg (z01 L).toArray,.agg (z01 X).toArray,.agg (z01 Y).toArray,u46,u47,u48,u49],defers:=[]} w:=fun  w hp=>by
    exact wpAnyH_done (by kernel_rfl) (hfin  w hp) _
  have k5_6:∀ (w:World),(I w)→wpAnyH Tryz.prog .any z20 Q (fun w:World=>w.rangeAt gn (o+q*32) (z01 L)) 1 #[true,true,true,true,true,true,true,false] {tmps:=#[.int .i64 d,u1,.slice (some ⟨gn,o,none⟩) n c,u3,u4,u5,u6,u7,.pointer (some ⟨b,0,none⟩),.int .i64 (q:Int),u10,u11,u12,u13,u14,u15,u16,u17,u18,u19,u20,u21,u22,u23,u24,u25,u26,u27,u28,u29,u30,u31,u32,u33,u34,u35,u36,u37,u38,.int .i64 d,.slice (some ⟨gn,o,none⟩) n c,.int .i64 (q:Int),.pointer (some ⟨gn,(o+q*32),none⟩),.agg (z01 L).toArray,.agg (z01 X).toArray,.agg (z01 Y).toArray,u46,u47,u48,u49],defers:=[]} w:=fun  w hp=>by
    refine wpAnyH_ready (rs:=[7]) (by kernel_rfl) (by simp) ?_
    refine AllReadyH.cons (o:=⟨none,.store 23 (.tmp 8) (.tmp 45),0,"ref.go:24",#[⟨6,.data⟩,⟨6,.chain⟩,⟨0,.phase⟩,⟨1,.phase⟩,⟨2,.phase⟩,⟨3,.phase⟩,⟨4,.phase⟩,⟨5,.phase⟩,⟨6,.phase⟩],none⟩) rfl (fun K hK=>?_) ?_
    · exact z1G (by rfl) (wpList_store_row rfl 23 (.tmp 8) (.tmp 45) rfl _ _ rfl rfl 23 _ (hI _ hp).2 (z05 hY) (by simp [z01,hX,hY]) (z0u Y) ⟨rfl,(have hp:(fun (w:World)=>(∃ w0:World,I w0∧w=w0.setRow b (z01 Y).toArray))  _:=⟨w,hp,rfl⟩;hK.out _ _ ((by obtain ⟨w0,h1,h2⟩:=hp; (first | rw [h2] | skip);exact hRow _ h1)) (fun _=>k5_6_7  _ hp))⟩)
    exact AllReadyH.nil
  have k5:∀ (w:World),(I w)→wpAnyH Tryz.prog .any z20 Q (fun w:World=>w.rangeAt gn (o+q*32) (z01 L)) 2 #[true,true,true,true,true,true,false,false] {tmps:=#[.int .i64 d,u1,.slice (some ⟨gn,o,none⟩) n c,u3,u4,u5,u6,u7,.pointer (some ⟨b,0,none⟩),.int .i64 (q:Int),u10,u11,u12,u13,u14,u15,u16,u17,u18,u19,u20,u21,u22,u23,u24,u25,u26,u27,u28,u29,u30,u31,u32,u33,u34,u35,u36,u37,u38,.int .i64 d,.slice (some ⟨gn,o,none⟩) n c,.int .i64 (q:Int),.pointer (some ⟨gn,(o+q*32),none⟩),.agg (z01 L).toArray,.agg (z01 X).toArray,u45,u46,u47,u48,u49],defers:=[]} w:=fun  w hp=>by
    refine wpAnyH_ready (rs:=[6]) (by kernel_rfl) (by simp) ?_
    refine AllReadyH.cons (o:=⟨some 45,.call {callee:=.value (.func 54),args:=#[.tmp 39,.tmp 43,.tmp 44],argTypes:=#[3,23,23]},23,"ref.go:24",#[⟨0,.data⟩,⟨4,.data⟩,⟨5,.data⟩],none⟩) rfl (fun K hK=>?_) ?_
    · rw [if_pos (by rfl)]
      go_simp
      refine (show Calls _ _ _ w (fun e w'=>e=.returned (.agg (z01 Y).toArray)∧(I w')) from q1 w hp).mono ?_
      rintro e w' ⟨rfl,hp⟩
      exact hK.out _ _ ((hI _ hp).1) (fun _=>k5_6  w' hp)
    exact AllReadyH.nil
  have k:∀ (w:World),(I w)→wpAnyH Tryz.prog .any z20 Q (fun w:World=>w.rangeAt gn (o+q*32) (z01 L)) 3 #[true,true,true,true,true,false,false,false] {tmps:=#[.int .i64 d,u1,.slice (some ⟨gn,o,none⟩) n c,u3,u4,u5,u6,u7,.pointer (some ⟨b,0,none⟩),.int .i64 (q:Int),u10,u11,u12,u13,u14,u15,u16,u17,u18,u19,u20,u21,u22,u23,u24,u25,u26,u27,u28,u29,u30,u31,u32,u33,u34,u35,u36,u37,u38,.int .i64 d,.slice (some ⟨gn,o,none⟩) n c,.int .i64 (q:Int),.pointer (some ⟨gn,(o+q*32),none⟩),.agg (z01 L).toArray,u44,u45,u46,u47,u48,u49],defers:=[]} w:=fun  w hp=>by
    refine wpAnyH_ready (rs:=[5]) (by kernel_rfl) (by simp) ?_
    refine AllReadyH.cons (o:=⟨some 44,.load 23 (.tmp 8),23,"ref.go:24",#[],none⟩) rfl (fun K hK=>?_) ?_
    · exact z1G (by rfl) (wpList_load_row rfl 23 (.tmp 8) rfl b rfl 23 (z01 X).toArray (0,0) _ (hI _ hp).2 Tryz.underlying23 rfl (z05 hX) ⟨rfl,(have hp:(fun (w:World)=>(I w))  w:=hp;hK.out _ _ ((hI _ hp).1) (fun _=>k5  _ hp))⟩)
    exact AllReadyH.nil
  have hp:=h0
  have hww:(fun w:World=>w.rangeAt gn (o+q*32) (z01 L)) W.drew:=(hI _ hp).1
  have last:=k W.drew hp
  have z:wpAnyH Tryz.prog .any z20 Q (fun w:World=>w.rangeAt gn (o+q*32) (z01 L)) 8 #[false,false,false,false,false,false,false,false] {tmps:=#[.int .i64 d,u1,.slice (some ⟨gn,o,none⟩) n c,u3,u4,u5,u6,u7,.pointer (some ⟨b,0,none⟩),.int .i64 (q:Int),u10,u11,u12,u13,u14,u15,u16,u17,u18,u19,u20,u21,u22,u23,u24,u25,u26,u27,u28,u29,u30,u31,u32,u33,u34,u35,u36,u37,u38,u39,u40,u41,u42,u43,u44,u45,u46,u47,u48,u49],defers:=[]} W.drew:=by
    have t4:wpAnyH Tryz.prog .any z20 Q (fun w:World=>w.rangeAt gn (o+q*32) (z01 L)) 4 #[true,true,true,true,false,false,false,false] {tmps:=#[.int .i64 d,u1,.slice (some ⟨gn,o,none⟩) n c,u3,u4,u5,u6,u7,.pointer (some ⟨b,0,none⟩),.int .i64 (q:Int),u10,u11,u12,u13,u14,u15,u16,u17,u18,u19,u20,u21,u22,u23,u24,u25,u26,u27,u28,u29,u30,u31,u32,u33,u34,u35,u36,u37,u38,.int .i64 d,.slice (some ⟨gn,o,none⟩) n c,.int .i64 (q:Int),.pointer (some ⟨gn,(o+q*32),none⟩),u43,u44,u45,u46,u47,u48,u49],defers:=[]} W.drew:=
      wpAnyH_take (i:=4) (oi:=⟨some 43,.load 23 (.tmp 42),23,"ref.go:24",#[⟨3,.data⟩],none⟩) (v:=.agg (z01 L).toArray) rfl (by kernel_rfl) (by kernel_rfl) (by kernel_rfl) (fun _ _ _ h=>hQ _ _ _ _ _ h) (yieldsIf_load_mid (by rfl) 23 (.tmp 42) rfl gn (o+q*32) rfl (z01 L) _ (fun w h=>h) Tryz.underlying23 rfl (z0e hL)) hww last
    have t3:wpAnyH Tryz.prog .any z20 Q (fun w:World=>w.rangeAt gn (o+q*32) (z01 L)) 5 #[true,true,true,false,false,false,false,false] {tmps:=#[.int .i64 d,u1,.slice (some ⟨gn,o,none⟩) n c,u3,u4,u5,u6,u7,.pointer (some ⟨b,0,none⟩),.int .i64 (q:Int),u10,u11,u12,u13,u14,u15,u16,u17,u18,u19,u20,u21,u22,u23,u24,u25,u26,u27,u28,u29,u30,u31,u32,u33,u34,u35,u36,u37,u38,.int .i64 d,.slice (some ⟨gn,o,none⟩) n c,.int .i64 (q:Int),u42,u43,u44,u45,u46,u47,u48,u49],defers:=[]} W.drew:=
      wpAnyH_take (i:=3) (oi:=⟨some 42,.indexAddr 42 (.tmp 40) (.tmp 41),0,"ref.go:24",#[⟨1,.data⟩,⟨2,.data⟩],none⟩) (v:=.pointer (some ⟨gn,(o+q*32),none⟩)) rfl (by kernel_rfl) (by kernel_rfl) (by kernel_rfl) (fun _ _ _ h=>hQ _ _ _ _ _ h) (Yields.yieldsIf (Or.inl ⟨by rfl,fun W=>by go_simp⟩)) hww t4
    have t2:wpAnyH Tryz.prog .any z20 Q (fun w:World=>w.rangeAt gn (o+q*32) (z01 L)) 6 #[true,true,false,false,false,false,false,false] {tmps:=#[.int .i64 d,u1,.slice (some ⟨gn,o,none⟩) n c,u3,u4,u5,u6,u7,.pointer (some ⟨b,0,none⟩),.int .i64 (q:Int),u10,u11,u12,u13,u14,u15,u16,u17,u18,u19,u20,u21,u22,u23,u24,u25,u26,u27,u28,u29,u30,u31,u32,u33,u34,u35,u36,u37,u38,.int .i64 d,.slice (some ⟨gn,o,none⟩) n c,u41,u42,u43,u44,u45,u46,u47,u48,u49],defers:=[]} W.drew:=
      wpAnyH_take (i:=2) (oi:=⟨some 41,.move (.tmp 9),3,"ref.go:24",#[],none⟩) (v:=.int .i64 (q:Int)) rfl (by kernel_rfl) (by kernel_rfl) (by kernel_rfl) (fun _ _ _ h=>hQ _ _ _ _ _ h) (Yields.yieldsIf (Or.inl ⟨by rfl,fun W=>by go_simp⟩)) hww t3
    have t1:wpAnyH Tryz.prog .any z20 Q (fun w:World=>w.rangeAt gn (o+q*32) (z01 L)) 7 #[true,false,false,false,false,false,false,false] {tmps:=#[.int .i64 d,u1,.slice (some ⟨gn,o,none⟩) n c,u3,u4,u5,u6,u7,.pointer (some ⟨b,0,none⟩),.int .i64 (q:Int),u10,u11,u12,u13,u14,u15,u16,u17,u18,u19,u20,u21,u22,u23,u24,u25,u26,u27,u28,u29,u30,u31,u32,u33,u34,u35,u36,u37,u38,.int .i64 d,u40,u41,u42,u43,u44,u45,u46,u47,u48,u49],defers:=[]} W.drew:=
      wpAnyH_take (i:=1) (oi:=⟨some 40,.move (.tmp 2),42,"ref.go:24",#[],none⟩) (v:=.slice (some ⟨gn,o,none⟩) n c) rfl (by kernel_rfl) (by kernel_rfl) (by kernel_rfl) (fun _ _ _ h=>hQ _ _ _ _ _ h) (Yields.yieldsIf (Or.inl ⟨by rfl,fun W=>by go_simp⟩)) hww t2
    have t0:wpAnyH Tryz.prog .any z20 Q (fun w:World=>w.rangeAt gn (o+q*32) (z01 L)) 8 #[false,false,false,false,false,false,false,false] {tmps:=#[.int .i64 d,u1,.slice (some ⟨gn,o,none⟩) n c,u3,u4,u5,u6,u7,.pointer (some ⟨b,0,none⟩),.int .i64 (q:Int),u10,u11,u12,u13,u14,u15,u16,u17,u18,u19,u20,u21,u22,u23,u24,u25,u26,u27,u28,u29,u30,u31,u32,u33,u34,u35,u36,u37,u38,u39,u40,u41,u42,u43,u44,u45,u46,u47,u48,u49],defers:=[]} W.drew:=
      wpAnyH_take (i:=0) (oi:=⟨some 39,.move (.tmp 0),3,"ref.go:24",#[],none⟩) (v:=.int .i64 d) rfl (by kernel_rfl) (by kernel_rfl) (by kernel_rfl) (fun _ _ _ h=>hQ _ _ _ _ _ h) (Yields.yieldsIf (Or.inl ⟨by rfl,fun W=>by go_simp⟩)) hww t1
    exact t0
  exact wp_region_held_drew (S:=(fun w:World=>w.rangeAt gn (o+q*32) (z01 L))) (by kernel_rfl) hww (fun _=>z)
end Go.Proofs.YtbmjoiiagldklaaGreatDoor
