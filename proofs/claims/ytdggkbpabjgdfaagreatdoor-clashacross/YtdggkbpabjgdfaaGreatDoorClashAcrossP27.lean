/- ClashAcross: part 27. -/
import Derived.Test.YtdggkbpabjgdfaaGreatDoorClashAcrossP21
import Derived.Test.YtdggkbpabjgdfaaGreatDoorClashAcrossP26
set_option maxHeartbeats 8000000
namespace Go.Proofs.YtdggkbpabjgdfaaGreatDoor
open Go.RowKit
set_option maxRecDepth 100000
theorem z4e (d:Int) (l r:List Int) (hl:IsH l) (hr:IsH r) (w:World):Calls Tryz.prog 31 #[.int .i64 d,.agg (z01 l).toArray,.agg (z01 r).toArray] w fun e w'=>e=.returned (.agg (z01 (z0o d l r)).toArray)/\Below w.heap.size w w':=by
 rw [z0F hl,z0F hr];refine (HX.zdH d (FNC l) (FNC r) (z1l hl) (z1l hr) w).mono ?_;rintro e w' ⟨rfl,hb⟩;exact ⟨by rw [z1D];rfl,hb⟩
theorem z8w {d:Int} {leaf:List Int} (hleaf:IsH leaf) {I:Nat} {l:List Int}:∀ t,IsH (WAYH d leaf I l t)
 | 0=>hleaf
 | t+1=>by
   rw [WAYH];split
   ·exact z1r _ _ _
   ·exact z1r _ _ _
theorem z5K (d:Int) (leaf:List Int) (S I:Nat) (hS:S<2 ^ 64) (hI:I<2 ^ 64) (a:Option Addr) (n c:Nat) (hn:n<=1000) (l:List Int) (w:World) (hF:Flat w a n l) (E:Int) (hE:(ENC S I n l).1=E) (h0:E≠0):
  Calls Tryz.prog 12 #[.int .i64 d,.agg (z01 leaf).toArray,.agg #[.int .u64 (S:Int),.int .u64 (I:Int),.slice a n c]] w (ANSH w (E,0,[])):=by
 obtain ⟨W0,hW0⟩:∃ W0,(w.alloc (.cells (z01 leaf).toArray 24)).alloc (.cells #[.int .u64 (S:Int),.int .u64 (I:Int),.slice a n c] 40)=W0:=⟨_,rfl⟩
 obtain ⟨bp,hbp⟩:∃ bp,w.heap.size+1=bp:=⟨_,rfl⟩
 have HB:Aside (Below w.heap.size w W0):=by rw [<-hW0];exact ((Below.refl _ _).alloc (Nat.le_refl _) _).alloc (by simp) _
 have hH:Has W0 bp #[.int .u64 (S:Int),.int .u64 (I:Int),.slice a n c] 40:=by rw [<-hW0,<-hbp];exact Has.at _ _ _ (by simp)
 have ce:=z5J S I hS hI a n c hn l W0 (hF.below HB.out);unfold ANSB at ce;rw [hE] at ce;generalize (ENC S I n l).2=Z at ce;have x0:=hH.cell 0;have x1:=hH.cell 1;have x2:=hH.cell 2;clear hF hE hS hI hn hH;go_enter Tryz.func12,Tryz.ntmps12;go_upto_region 1 with fail
 clear hW0 hbp;go_wp2_with fail
 refine ce.mono ?_;rintro e w1 ⟨v,rfl,_,hb1⟩;have R:Aside (Below w.heap.size w w1):=HB.out.trans (hb1.mono HB.out.size);clear ce hb1 HB x0 x1 x2;go_wp2_with fail
 go_ret2;exact ⟨none,0,rfl,⟨rfl,.inl ⟨rfl,rfl⟩⟩,R.out⟩
theorem z9A (d:Int) (leaf:List Int) (hleaf:IsH leaf) (S I:Nat) (hIS:I<S) (hS:S<=4611686018427387904) (a:Option Addr) (n c:Nat) (hn:n=(PSP I S).length) (l:List Int) (w:World) (hF:Flat w a n l):
    Calls Tryz.prog 12 #[.int .i64 d,.agg (z01 leaf).toArray,.agg #[.int .u64 (S:Int),.int .u64 (I:Int),.slice a n c]] w (ANSH w (0,PC S,CAT (CLM d leaf S I l) (SPAN 0 S))):=by
  have hlen:=z4B hIS hS;have hK:=z2I hIS hS;have hR:=z0L hIS hS;have hP:=z0C 64 S (by omega)
  have hEN:(ENC S I n l).1=0:=by
    have hPL:PLA I S=(0,PLCS (PSP I S)):=by
      unfold PLA;rw [if_neg (by omega),if_neg (by omega)]
    unfold ENC ENCB;rw [hPL,if_neg (by simp),if_neg (by rw [z0u];simpa using hn)]
  have hTK:=z5Z (n:=S) (by omega) hK;rw [z8c hIS hS] at hTK;have hPK:∀ j,j<PC S->∃ h k,(SPAN 0 S)[j]?=some (h,k)/\CLM d leaf S I l h k=PEK d leaf S I l j:=fun j hj=>⟨_,_,z1f hS hj,zat hIS hS l (z1f hS hj)⟩
  have hSL:=z0i hS;have hTL:0<(TOPS 0 S).length:=Nat.lt_of_le_of_lt (Nat.zero_le _) (List.getElem?_eq_some_iff.1 hTK).1
  obtain ⟨gn,o,hA⟩:∃ gn o,0<n->a=some ⟨gn,o,none⟩/\gn<w.heap.size:=by
    by_cases h:0<n
    · obtain ⟨gn,o,e,hg,_⟩:=hF.2.1 h
      exact ⟨gn,o,fun _=>⟨e,hg⟩⟩
    · exact ⟨0,0,fun h'=>absurd h' h⟩
  obtain ⟨W0,hW0⟩:∃ W0,(w.alloc (.cells (z01 leaf).toArray 24)).alloc (.cells #[.int .u64 (S:Int),.int .u64 (I:Int),.slice a n c] 40)=W0:=⟨_,rfl⟩
  obtain ⟨b4,hb4⟩:∃ b4,w.heap.size=b4:=⟨_,rfl⟩
  obtain ⟨bp,hbp⟩:∃ bp,b4+1=bp:=⟨_,rfl⟩
  have R0:Aside (Below w.heap.size w W0/\Has W0 b4 (z01 leaf).toArray 24/\Has W0 bp #[.int .u64 (S:Int),.int .u64 (I:Int),.slice a n c] 40):=by
    rw [<-hW0,<-hbp,<-hb4];exact ⟨((Below.refl _ _).alloc (Nat.le_refl _) _).alloc (by simp) _,(Has.new _ _ _).alloc _,Has.at _ _ _ (by simp)⟩
  have ce:=z5J S I (by omega) (by omega) a n c (by have:=z5Y hIS hS;omega) l W0 (hF.below R0.out.1);unfold ANSB at ce;rw [hEN] at ce;generalize (ENC S I n l).2=Z at ce;have CP:Aside (∀ W,Calls Tryz.prog 29 #[.int .u64 (I:Int),.int .u64 (S:Int)] W fun e w'=>e=.returned (.tuple #[.int .i64 ((KTH I S:Nat):Int),.bool true])/\Below W.heap.size W w'):=fun W=>z4E I S hIS hS W;have CT:Aside (∀ W,Calls Tryz.prog 30 #[.int .u64 (S:Int)] W fun e w'=>∃ a cap,e=.returned (.slice a (PC S) cap)/\Spots w' a (TOPS 0 S)/\Below W.heap.size W w'):=fun W=>z3l S hS W;generalize hRI:RISE I S=R at *
  generalize hKT:KTH I S=K at *
  generalize KGT S K=kk at *
  have hPE:∀ j,PEK d leaf S I l j=if j=K then WAYH d leaf I l R else HSH l (R+(if j<K then j else j - 1)):=fun j=>by unfold PEK;rw [hKT,hRI]
  generalize TOPS 0 S=T at *
  generalize SPAN 0 S=ss at *
  generalize CLM d leaf S I l=M at *
  generalize PC S=m at *
  have HA:Aside (IsH leaf/\n+1=R+m/\K<m/\R<=62/\m<=64/\T[K]?=some (R,kk)/\0<T.length/\(∀ j,j<m->∃ h k,ss[j]?=some (h,k)/\M h k=if j=K then WAYH d leaf I l R else HSH l (R+(if j<K then j else j - 1)))/\ss.length=m/\(0<n->a=some ⟨gn,o,none⟩/\gn<w.heap.size)/\Flat w a n l/\I<2 ^ 64):=⟨hleaf,by omega,hK,hR.2.1,hP,hTK,hTL,fun j hj=>by obtain ⟨h,k,e1,e2⟩:=hPK j hj;exact ⟨h,k,e1,by rw [e2,hPE]⟩,hSL,hA,hF,by omega⟩
  have x0:=R0.out.2.2.cell 0;have x1:=R0.out.2.2.cell 1;have x2:=R0.out.2.2.cell 2;clear hleaf hlen hK hR hP hEN hTK hPK hSL hTL hA hF hIS hS hn hRI hKT hPE;go_enter Tryz.func12,Tryz.ntmps12;go_upto_region 1 with fail
  go_wp2_with fail
  refine ce.mono ?_;rintro e w1 ⟨v,rfl,_,hb1⟩;have R1:Aside (Below w.heap.size w w1/\Has w1 b4 (z01 leaf).toArray 24/\Has w1 bp #[.int .u64 (S:Int),.int .u64 (I:Int),.slice a n c] 40):=⟨R0.out.1.trans (hb1.mono R0.out.1.size),R0.out.2.1.keep hb1,R0.out.2.2.keep hb1⟩
  have HB4:Aside (w.heap.size=b4/\b4+1=bp):=⟨hb4,hbp⟩
  clear ce hb1 R0 x0 x1 x2 hW0 hb4 hbp;have x0:=R1.out.2.2.cell 0;have x1:=R1.out.2.2.cell 1;have cp:=CP.out w1;go_wp2_with fail
  refine cp.mono ?_;rintro e w2 ⟨rfl,hb2⟩;have R2:Aside (Below w.heap.size w w2/\Has w2 b4 (z01 leaf).toArray 24/\Has w2 bp #[.int .u64 (S:Int),.int .u64 (I:Int),.slice a n c] 40):=⟨R1.out.1.trans (hb2.mono R1.out.1.size),R1.out.2.1.keep hb2,R1.out.2.2.keep hb2⟩
  clear cp hb2 R1 x0 x1 CP;have x0:=R2.out.2.2.cell 0;have ct:=CT.out w2;go_wp2_with fail
  refine ct.mono ?_;rintro e w3 ⟨at',cap',rfl,hsp,hb3⟩;obtain ⟨gt,rfl,hgt,hcell⟩:=hsp HA.out.2.2.2.2.2.2.1;have hck:=(hcell K R kk HA.out.2.2.2.2.2.1).1;have R3:Aside (Below w.heap.size w w3/\Has w3 b4 (z01 leaf).toArray 24/\Has w3 bp #[.int .u64 (S:Int),.int .u64 (I:Int),.slice a n c] 40/\w3.cell? ⟨gt,K*2,none⟩=some (.int .u8 (R:Int))/\gt<w3.heap.size):=⟨R2.out.1.trans (hb3.mono R2.out.1.size),R2.out.2.1.keep hb3,R2.out.2.2.keep hb3,hck,hgt⟩
  clear ct hb3 R2 x0 CT hsp hck hgt hcell;have x1:w3.cell? ⟨bp,1,none⟩=some (.int .u64 (I:Int)):=R3.out.2.2.1.cell 1;have h32:=HA.out.1.1;have hs4:=R3.out.2.1
  go_upto_region 7 with (first
    | (refine wpList_load_row rfl 24 (.tmp 4) rfl b4 rfl 24 (z01 leaf).toArray (0,0) _ hs4 Tryz.underlying24 rfl (z02 h32) ?_)
    | (refine wpList_store_row rfl 24 (.tmp 13) (.tmp 38) rfl _ _ rfl rfl 24 _ (Has.new w3 _ _) (z02 h32) (by simp [z01,h32]) (z0k leaf) ?_;rw [World.setRow_alloc_new]))
  have R4:Aside (Below w3.heap.size w3 (w3.alloc (.cells (z01 leaf).toArray 24))/\Has (w3.alloc (.cells (z01 leaf).toArray 24)) w3.heap.size (z01 (WAYH d leaf I l 0)).toArray 24/\b4<w3.heap.size/\bp<w3.heap.size/\w.heap.size<=w3.heap.size):=⟨(Below.refl _ _).alloc (Nat.le_refl _) _,Has.new _ _ _,R3.out.2.1.lt,R3.out.2.2.1.lt,R3.out.1.size⟩
  clear x1 h32 hs4;generalize w3.alloc (.cells (z01 leaf).toArray 24)=w4 at *
  obtain ⟨b13,hb13⟩:∃ b13,w3.heap.size=b13:=⟨_,rfl⟩
  rw [hb13] at R4 ⊢;have HB:Aside (w3.heap.size=b13):=hb13;clear hb13;have x1:w4.cell? ⟨bp,1,none⟩=some (.int .u64 (I:Int)):=(R3.out.2.2.1.keep (by rw [HB.out];exact R4.out.1)).cell 1;go_wp2_with fail
  clear x1;go_loopg [14,15,16] R (fun q s14 s15 s16 wx=>∃ t:Nat,s14=.int .u64 ((I / 2 ^ t:Nat):Int)/\s15=.int .i64 (t:Int)/\s16=.int .i64 (t:Int)/\Aside (t+q=R/\Below b13 w3 wx/\Has wx b13 (z01 (WAYH d leaf I l t)).toArray 24))
  case atStart=>exact ⟨0,by rw [Nat.pow_zero,Nat.div_one],rfl,rfl,by omega,R4.out.1,R4.out.2.1⟩
  case round=>
    obtain ⟨t,rfl,rfl,rfl,A⟩:=hrel;have R5:Aside (b4<b13/\bp<b13/\w.heap.size<=b13):=R4.out.2.2;clear R4
    have BW:Aside (Below w.heap.size w wr/\Below w3.heap.size w3 wr):=by
      have h:Below w3.heap.size w3 wr:=by rw [HB.out];exact A.out.2.1
      exact ⟨R3.out.1.trans (h.mono R3.out.1.size),h⟩
    have hck:wr.cell? ⟨gt,K*2,none⟩=some (.int .u8 (R:Int)):=(BW.out.2.cell (p:=⟨gt,K*2,none⟩) R3.out.2.2.2.2).trans R3.out.2.2.2.1;have k1:(K:Int)<(m:Int):=by have:=HA.out.2.2.1;omega
    have eR:wrap64 (R:Int)=(R:Int):=by have:=HA.out.2.2.2.1;unfold wrap64;omega
    cases gk with
    | succ q=>
      have hlt:(t:Int)<(R:Int):=by have:=A.out.1;omega
      have htn:t<n:=by have:=A.out.1;have:=HA.out.2.1;have:=HA.out.2.2.1;omega
      have hti:(t:Int)<(n:Int):=by omega
      obtain ⟨ha,hgn⟩:=HA.out.2.2.2.2.2.2.2.2.2.1 (by omega);have hat:=Flat.at (b:=gn) (o:=o) (by rw [<-ha];exact HA.out.2.2.2.2.2.2.2.2.2.2.1) htn;have hsp:Has wr bp #[.int .u64 (S:Int),.int .u64 (I:Int),.slice (some ⟨gn,o,none⟩) n c] 40:=by rw [<-ha];exact R3.out.2.2.1.keep BW.out.2
      have hL:IsH (HSH l t):=z1E HA.out.2.2.2.2.2.2.2.2.2.2.1.1 HA.out.2.2.2.2.2.2.2.2.2.2.1.2.2 htn;have hX:=z8w HA.out.1 (d:=d) (I:=I) (l:=l) t;have hY:=z8w HA.out.1 (d:=d) (I:=I) (l:=l) (t+1);have et:wrap64 ((t:Int)+1)=((t+1:Nat):Int):=by have:=HA.out.2.2.2.1;unfold wrap64;omega
      have ed:IntKind.u64.wrap (((I / 2 ^ t:Nat):Int).tdiv 2)=((I / 2 ^ (t+1):Nat):Int):=by
        have h1:((I / 2 ^ t:Nat):Int).tdiv 2=((I / 2 ^ (t+1):Nat):Int):=by rw [Int.tdiv_eq_ediv_of_nonneg (Int.natCast_nonneg _),Nat.pow_succ,<-Nat.div_div_eq_div_mul];omega
        rw [h1];exact zcY (Nat.lt_of_le_of_lt (Nat.div_le_self _ _) HA.out.2.2.2.2.2.2.2.2.2.2.2)
      have H2:Aside (w.rangeAt gn (o+t*32) (z01 (HSH l t))/\gn<w.heap.size/\Has wr bp #[.int .u64 (S:Int),.int .u64 (I:Int),.slice (some ⟨gn,o,none⟩) n c] 40/\Has wr b13 (z01 (WAYH d leaf I l t)).toArray 24/\t+1+q=R/\Below b13 w3 wr):=⟨hat,hgn,hsp,A.out.2.2,by have:=A.out.1;omega,A.out.2.1⟩
      have hI0:∀ V,Below wr.heap.size wr V->(V.rangeAt gn (o+t*32) (z01 (HSH l t))/\V.cell? ⟨bp,2,none⟩=some (.slice (some ⟨gn,o,none⟩) n c))/\Has V b13 (z01 (WAYH d leaf I l t)).toArray 24:=fun V hV=>⟨⟨z2p H2.out.1 (BW.out.1.trans (hV.mono BW.out.1.size)) H2.out.2.1,(H2.out.2.2.1.keep hV).cell 2⟩,H2.out.2.2.2.1.keep hV⟩
      have hRow:∀ V,Below wr.heap.size wr V->(V.setRow b13 (z01 (WAYH d leaf I l (t+1))).toArray).rangeAt gn (o+t*32) (z01 (HSH l t))/\(V.setRow b13 (z01 (WAYH d leaf I l (t+1))).toArray).cell? ⟨bp,2,none⟩=some (.slice (some ⟨gn,o,none⟩) n c):=fun V hV=>⟨z2p H2.out.1 (z0e (BW.out.1.trans (hV.mono BW.out.1.size)) R5.out.2.2 _) H2.out.2.1,((H2.out.2.2.1.keep hV).row_other (by have:=R5.out.2.1;omega) _).cell 2⟩
      have Z0:Aside (∀ V,Below wr.heap.size wr V->t+1+q=R/\Below b13 w3 (V.setRow b13 (z01 (WAYH d leaf I l (t+1))).toArray)/\Has (V.setRow b13 (z01 (WAYH d leaf I l (t+1))).toArray) b13 (z01 (WAYH d leaf I l (t+1))).toArray 24):=fun V hV=>⟨H2.out.2.2.2.2.1,z0e (H2.out.2.2.2.2.2.trans (hV.mono (by have:=H2.out.2.2.2.1.lt;omega))) (Nat.le_refl _) _,(H2.out.2.2.2.1.keep hV).row _⟩
      have II:Aside (∀ V,Below wr.heap.size wr V->(V.rangeAt gn (o+t*32) (z01 (HSH l t))/\V.cell? ⟨bp,2,none⟩=some (.slice (some ⟨gn,o,none⟩) n c))/\Has V b13 (z01 (WAYH d leaf I l t)).toArray 24):=hI0;have IR:Aside (∀ V,Below wr.heap.size wr V->(V.setRow b13 (z01 (WAYH d leaf I l (t+1))).toArray).rangeAt gn (o+t*32) (z01 (HSH l t))/\(V.setRow b13 (z01 (WAYH d leaf I l (t+1))).toArray).cell? ⟨bp,2,none⟩=some (.slice (some ⟨gn,o,none⟩) n c)):=hRow;have IH:Aside (IsH (HSH l t)/\IsH (WAYH d leaf I l t)/\IsH (WAYH d leaf I l (t+1))):=⟨hL,hX,hY⟩
      clear hI0 hRow hL hX hY H2 hat hsp ha hgn htn A R3 R5 BW HB HA HB4;by_cases hq:I / 2 ^ t % 2=0
      · have em:(((I / 2 ^ t:Nat):Int).tmod 2 == 0)=true:=by rw [beq_iff_eq,Int.tmod_eq_emod_of_nonneg (Int.natCast_nonneg _)];omega
        have eY:Aside (WAYH d leaf I l (t+1)=z0o d (WAYH d leaf I l t) (HSH l t)):=by show WAYH d leaf I l (t+1)=_;rw [WAYH,if_pos hq]
        clear hq;generalize ((I / 2 ^ t:Nat):Int)=z14 at *
        go_upto_region 13 with fail
        refine z9y wr gn o n c b13 bp t d (HSH l t) (WAYH d leaf I l t) (WAYH d leaf I l (t+1)) IH.out.1.1 IH.out.2.1.1 IH.out.2.2.1 hti (fun V=>Below wr.heap.size wr V) (Below.refl _ _).drew II.out IR.out (fun V hV=>?_) (fun _ _ _ _ _ h=>h) ?_
        · refine (z4e d (WAYH d leaf I l t) (HSH l t) IH.out.2.1 IH.out.1 V).mono ?_
          rintro e V' ⟨rfl,hb⟩;exact ⟨by rw [eY.out],hV.trans (hb.mono hV.size)⟩
        · rintro W3 ⟨w0',hw0',hW3⟩
          have Z:Aside (t+1+q=R/\Below b13 w3 W3/\Has W3 b13 (z01 (WAYH d leaf I l (t+1))).toArray 24):=by rw [hW3];exact Z0.out w0' hw0'
          clear hW3 hw0' II IR IH Z0 eY;go_wp2_with fail
          go_roundg q
          case measure=>exact Nat.lt_succ_self _
          case rel=>exact ⟨t+1,by first | rfl | (rw [ed]),by first | rfl | (rw [et]),by first | rfl | (rw [et]),Z.out⟩
      · have em:(((I / 2 ^ t:Nat):Int).tmod 2 == 0)=false:=by rw [beq_eq_false_iff_ne,Int.tmod_eq_emod_of_nonneg (Int.natCast_nonneg _)];omega
        have eY:Aside (WAYH d leaf I l (t+1)=z0o d (HSH l t) (WAYH d leaf I l t)):=by show WAYH d leaf I l (t+1)=_;rw [WAYH,if_neg hq]
        clear hq;generalize ((I / 2 ^ t:Nat):Int)=z14 at *
        go_upto_region 14 with fail
        refine z8s wr gn o n c b13 bp t d (HSH l t) (WAYH d leaf I l t) (WAYH d leaf I l (t+1)) IH.out.1.1 IH.out.2.1.1 IH.out.2.2.1 hti (fun V=>Below wr.heap.size wr V) (Below.refl _ _).drew II.out IR.out (fun V hV=>?_) (fun _ _ _ _ _ h=>h) ?_
        · refine (z4e d (HSH l t) (WAYH d leaf I l t) IH.out.1 IH.out.2.1 V).mono ?_
          rintro e V' ⟨rfl,hb⟩;exact ⟨by rw [eY.out],hV.trans (hb.mono hV.size)⟩
        · rintro W3 ⟨w0',hw0',hW3⟩
          have Z:Aside (t+1+q=R/\Below b13 w3 W3/\Has W3 b13 (z01 (WAYH d leaf I l (t+1))).toArray 24):=by rw [hW3];exact Z0.out w0' hw0'
          clear hW3 hw0' II IR IH Z0 eY;go_wp2_with fail
          go_roundg q
          case measure=>exact Nat.lt_succ_self _
          case rel=>exact ⟨t+1,by first | rfl | (rw [ed]),by first | rfl | (rw [et]),by first | rfl | (rw [et]),Z.out⟩
    | zero=>
      obtain rfl:t=R:=by have:=A.out.1;omega
      have hlt:¬ (t:Int)<(t:Int):=by omega
      obtain ⟨wv,hwv⟩:∃ wv,wv=wr:=⟨_,rfl⟩
      rw [<-hwv] at A BW hck ⊢;clear hwv;have RV:Aside (Has wv bp #[.int .u64 (S:Int),.int .u64 (I:Int),.slice a n c] 40/\Has wv b13 (z01 (WAYH d leaf I l t)).toArray 24/\Below w.heap.size w wv):=⟨R3.out.2.2.1.keep BW.out.2,A.out.2.2,BW.out.1⟩
      clear A R3 R5 BW HB HB4;generalize ((I / 2 ^ t:Nat):Int)=z14 at *
      go_wp2_with fail
      clear hck eR hlt;go_loopg [15,17,18] m (fun q s15 s17 s18 wx=>∃ j:Nat,s15=.int .i64 ((t+(if j<=K then j else j - 1):Nat):Int)/\s18=.int .i64 (j:Int)/\Aside (j+q=m/\wx.ownsRow wv.heap.size 24 32 s17 j (z01 (CAT M (ss.take j)))/\Below wv.heap.size wv wx))
      case atStart=>exact ⟨0,by simp,rfl,by omega,⟨rfl,.inl ⟨rfl,rfl⟩⟩,Below.refl _ _⟩
      case round=>
        obtain ⟨j,rfl,rfl,A⟩:=hrel;cases gk with
        | zero=>
          obtain rfl:j=m:=by have:=A.out.1;omega
          have hjm:¬ (j:Int)<(j:Int):=by omega
          have RR:Aside (∃ a c,u17=.slice a j c/\wr.ownsRow w.heap.size 24 32 (.slice a j c) j (z01 (CAT M ss))/\Below w.heap.size w wr):=by
            obtain ⟨_,h1,h2⟩:=A.out;rw [List.take_of_length_le (by have:=HA.out.2.2.2.2.2.2.2.2.1;omega)] at h1;obtain ⟨a,c,rfl,_⟩:=z2l h1;exact ⟨a,c,rfl,z0q h1 RV.out.2.2.size,RV.out.2.2.trans (h2.mono RV.out.2.2.size)⟩
          clear A RV HA;generalize ((t+(if j<=K then j else j - 1):Nat):Int)=z15;go_wp2_with fail
          go_ret2;obtain ⟨a,c,e,h1,h2⟩:=RR.out;exact ⟨a,c,by rw [e];rfl,h1,h2⟩
        | succ q=>
          have hjm:(j:Int)<(m:Int):=by have:=A.out.1;omega
          obtain ⟨h,k,e1,e2⟩:=HA.out.2.2.2.2.2.2.2.1 j (by omega);have eC:=z4S (M:=M) e1;have ej:wrap64 ((j:Int)+1)=((j+1:Nat):Int):=by have:=HA.out.2.2.2.2.1;unfold wrap64;omega
          have R6:Aside (j+1+q=m/\wr.ownsRow wv.heap.size 24 32 u17 j (z01 (CAT M (ss.take j)))/\Below wv.heap.size wv wr/\j<=64):=⟨by have:=A.out.1;omega,A.out.2.1,A.out.2.2,by have:=HA.out.2.2.2.2.1;omega⟩
          clear A e1;by_cases hjK:j=K
          · have hjk:((j:Int) == (K:Int))=true:=by rw [beq_iff_eq];omega
            rw [if_pos hjK] at e2;rw [e2] at eC;have EC:Aside (CAT M (ss.take (j+1))=CAT M (ss.take j) ++ WAYH d leaf I l t):=eC;have x32:=(z8w HA.out.1 (d:=d) (I:=I) (l:=l) t).1;have h13:Has wr b13 (z01 (WAYH d leaf I l t)).toArray 24:=RV.out.2.1.keep R6.out.2.2.1;have ep:((t+(if j<=K then j else j - 1):Nat):Int)=((t+(if j+1<=K then j+1 else j+1 - 1):Nat):Int):=by rw [if_pos (by omega),if_neg (by omega)];rfl
            clear e2 eC HA;obtain ⟨z15,hz⟩:∃ z15:Int,((t+(if j+1<=K then j+1 else j+1 - 1):Nat):Int)=z15:=⟨_,rfl⟩
            rw [ep,hz];have HZ:Aside (((t+(if j+1<=K then j+1 else j+1 - 1):Nat):Int)=z15):=hz;clear ep hjK hz;generalize WAYH d leaf I l t=X at *
            go_wp2_with (first
              | (refine wpList_load_row rfl 24 (.tmp 13) rfl b13 rfl 24 (z01 X).toArray (0,0) _ h13 Tryz.underlying24 rfl (z02 x32) ?_)
              | (refine z1B _ rfl 38 24 (.tmp 84) rfl (z01 X).toArray rfl 32 _ _ Tryz.underlying38 z1A (by simp [z01,x32]) rfl (by decide) (by decide) ?_)
              | (at_builtin;refine z2V _ rfl (.tmp 83) (.tmp 85) rfl wv.heap.size u17 j _ rfl (R6.out.2.1.alloc _) _ 1 X x32 rfl (Has.new _ _ _) (by have:=R6.out.2.2.2;omega) (by have:=R6.out.2.2.1.size;simp;omega) ?_;intro g4 c4 w5 hown hgrow hat hg))
            have Z:Aside (j+1+q=m/\w5.ownsRow wv.heap.size 24 32 (.slice (some ⟨g4,0,none⟩) (j+1) c4) (j+1) (z01 (CAT M (ss.take (j+1))))/\Below wv.heap.size wv w5):=by
              obtain ⟨r1,r2,r3,_⟩:=R6.out;exact ⟨r1,by rw [EC.out,z0x];exact hown,(r3.alloc r3.size _).grown hgrow (by have:=r3.size;simp;omega) (fun k e=>(r2.lt k e).1)⟩
            clear hown hgrow hat hg R6 EC h13 RV;go_roundg q
            case measure=>exact Nat.lt_succ_self _
            case rel=>exact ⟨j+1,by rw [HZ.out],by first | rfl | (rw [ej]),Z.out⟩
          · have hjk:((j:Int) == (K:Int))=false:=by rw [beq_eq_false_iff_ne];omega
            rw [if_neg hjK] at e2;obtain ⟨p,hp⟩:∃ p,t+(if j<K then j else j - 1)=p:=⟨_,rfl⟩
            have hp1:t+(if j<=K then j else j - 1)=p:=by
              rw [<-hp];by_cases h:j<K
              · rw [if_pos h,if_pos (by omega)]
              · rw [if_neg h,if_neg (by omega)]
            have hp2:t+(if j+1<=K then j+1 else j+1 - 1)=p+1:=by
              rw [<-hp];by_cases h:j<K
              · rw [if_pos h,if_pos (by omega)]
                omega
              · rw [if_neg h,if_neg (by omega)]
                omega
            have hpn:p<n:=by
              have h1:=HA.out.2.1;have h2:=HA.out.2.2.1;have h3:=R6.out.1;rw [<-hp];split <;> omega
            rw [hp] at e2;rw [e2] at eC;have EC:Aside (CAT M (ss.take (j+1))=CAT M (ss.take j) ++ HSH l p):=eC;obtain ⟨ha,hgn⟩:=HA.out.2.2.2.2.2.2.2.2.2.1 (by omega);have hFr:Flat wr (some ⟨gn,o,none⟩) n l:=by rw [<-ha];exact HA.out.2.2.2.2.2.2.2.2.2.2.1.below (RV.out.2.2.trans (R6.out.2.2.1.mono RV.out.2.2.size))
            have hat:=hFr.at hpn;have y2:wr.cell? ⟨bp,2,none⟩=some (.slice (some ⟨gn,o,none⟩) n c):=by rw [<-ha];exact (RV.out.1.keep R6.out.2.2.1).cell 2
            have x32:=(z1E hFr.1 hFr.2.2 hpn).1;have hpi:(p:Int)<(n:Int):=by omega
            have e1:wrap64 ((p:Int)+1)=((p+1:Nat):Int):=by have h1:=HA.out.2.1;have h2:=HA.out.2.2.2.1;have h3:=HA.out.2.2.2.2.1;unfold wrap64;omega
            have HP:Aside (t+(if j+1<=K then j+1 else j+1 - 1)=p+1):=hp2;clear e2 eC HA hp2 hp hFr ha hgn hpn hjK;rw [hp1];clear hp1;generalize HSH l p=X at *
            go_wp2_with (first
              | (refine wpList_load_mid rfl 24 (.tmp 91) rfl gn (o+p*32) rfl (z01 X) _ hat Tryz.underlying24 rfl (z09 x32) ?_)
              | (refine z1B _ rfl 38 24 (.tmp 92) rfl (z01 X).toArray rfl 32 _ _ Tryz.underlying38 z1A (by simp [z01,x32]) rfl (by decide) (by decide) ?_)
              | (at_builtin;refine z2V _ rfl (.tmp 87) (.tmp 93) rfl wv.heap.size u17 j _ rfl (R6.out.2.1.alloc _) _ 1 X x32 rfl (Has.new _ _ _) (by have:=R6.out.2.2.2;omega) (by have:=R6.out.2.2.1.size;simp;omega) ?_;intro g4 c4 w5 hown hgrow hat4 hg))
            have Z:Aside (j+1+q=m/\w5.ownsRow wv.heap.size 24 32 (.slice (some ⟨g4,0,none⟩) (j+1) c4) (j+1) (z01 (CAT M (ss.take (j+1))))/\Below wv.heap.size wv w5):=by
              obtain ⟨r1,r2,r3,_⟩:=R6.out;exact ⟨r1,by rw [EC.out,z0x];exact hown,(r3.alloc r3.size _).grown hgrow (by have:=r3.size;simp;omega) (fun k e=>(r2.lt k e).1)⟩
            clear hown hgrow hat4 hg R6 EC hat RV;go_roundg q
            case measure=>exact Nat.lt_succ_self _
            case rel=>exact ⟨j+1,by rw [HP.out];first | rfl | (rw [e1]),by first | rfl | (rw [ej]),Z.out⟩
theorem zbK (d:Int) (leaf:List Int) (hleaf:IsH leaf) (S I:Nat) (hS:S<2 ^ 64) (hI:I<2 ^ 64) (a:Option Addr) (n c:Nat) (hn:n<=1000) (l:List Int) (w:World) (hF:Flat w a n l):
  Calls Tryz.prog 12 #[.int .i64 d,.agg (z01 leaf).toArray,.agg #[.int .u64 (S:Int),.int .u64 (I:Int),.slice a n c]] w (ANSH w (CLA d leaf S I n l)):=by
 unfold CLA;by_cases hE:(PLA I S).1=0
 ·rw [if_neg (by simpa using hE)]
  have hIS:I<S/\S<=4611686018427387904:=by
   unfold PLA at hE;split at hE
   ·simp at hE
   ·split at hE
    ·simp at hE
    ·omega
  have hPL:PLA I S=(0,PLCS (PSP I S)):=by
   unfold PLA;rw [if_neg (by omega),if_neg (by omega)]
  have hlen:(PLA I S).2.length=(PSP I S).length:=by rw [hPL];exact z0u _
  by_cases hn2:n=(PLA I S).2.length
  ·rw [if_neg (by simpa using hn2)]
   exact z9A d leaf hleaf S I hIS.1 hIS.2 a n c (by omega) l w hF
  ·rw [if_pos hn2]
   exact z5K d leaf S I hS hI a n c hn l w hF 70 (by unfold ENC ENCB;rw [if_neg (by simpa using hE),if_pos hn2]) (by decide)
 ·rw [if_pos hE]
  exact z5K d leaf S I hS hI a n c hn l w hF _ (by unfold ENC ENCB;rw [if_pos hE]) hE
theorem z5L {ss:List (Nat × Nat)} {p m:Nat} (hm:0<m):((ss.drop p).take m)[0]?=ss[p]?:=by
 rw [List.getElem?_take,if_pos hm,List.getElem?_drop,Nat.add_zero]
theorem z43 {ss:List (Nat × Nat)} {p m h k:Nat} (ht:Tile (k*2 ^ h) ((ss.drop p).take m) ((k+1)*2 ^ h)):∃ x y,ss[p]?=some (x,y)/\((ss.drop p).take m)[0]?=some (x,y)/\∀ z,h<=z->z=0->x=h/\y=k:=by
 have hs:=z0N k h;have hp:=Nat.two_pow_pos h;cases hl:(ss.drop p).take m with
 | nil=>
   rw [hl] at ht;have:k*2 ^ h=(k+1)*2 ^ h:=ht;omega
 | cons s l=>
   have hm:0<m:=by
    rcases Nat.eq_zero_or_pos m with e | e
    ·subst e;simp at hl
    ·exact e
   have e0:((ss.drop p).take m)[0]?=some s:=by rw [hl];rfl
   refine ⟨s.1,s.2,by rw [<-z5L hm];exact e0,rfl,fun z h1 h2=>?_⟩;rw [hl] at ht;obtain ⟨q1,q2,q3⟩:=ht;have hb:=q3.bound.1;obtain rfl:h=0:=by omega
   have h3:=z0N s.2 s.1;have h4:=Nat.two_pow_pos s.1
   have hx:s.1=0:=by
    rcases Nat.eq_zero_or_pos s.1 with e | e
    ·exact e
    ·have:2 ^ 1<=2 ^ s.1:=Nat.pow_le_pow_right (by decide) e
     omega
   rw [hx] at q2;exact ⟨hx,by omega⟩
theorem z8x {ss:List (Nat × Nat)} {p m h k:Nat} (e:ss[p]?=some (h,k)) (ht:Tile (k*2 ^ h) ((ss.drop p).take m) ((k+1)*2 ^ h)) (hpm:p+m<=ss.length):m=1:=by
 have hs:=z0N k h;have hp:=Nat.two_pow_pos h;cases hl:(ss.drop p).take m with
 | nil=>
   rw [hl] at ht;have:k*2 ^ h=(k+1)*2 ^ h:=ht;omega
 | cons s l=>
   have hm:0<m:=by
     rcases Nat.eq_zero_or_pos m with e | e
     ·subst e;simp at hl
     ·exact e
   have e0:((ss.drop p).take m)[0]?=some s:=by rw [hl];rfl
   rw [z5L hm,e] at e0;obtain rfl:(h,k)=s:=by simpa using e0
   rw [hl] at ht;obtain ⟨q1,q2,q3⟩:=ht;dsimp only at q3;cases l with
   | nil=>
     have:=congrArg List.length hl;rw [List.length_take,List.length_drop] at this;simp at this;omega
   | cons s2 l=>
     have:=(q3.bound.2 (by simp)).1;omega
theorem zdM {l:List (Nat × Nat)} {a b x y:Nat} (ht:Tile a l b) (e:l[0]?=some (x,y)):y*2 ^ x=a:=by
 cases l with
 | nil=>simp at e
 | cons s l=>
   obtain rfl:s=(x,y):=by simpa using e
   exact ht.2.1
theorem zh9 {ss:List (Nat × Nat)} (hso:ss.Pairwise Off) {i j h k x y:Nat} (h1:ss[i]?=some (h,k)) (h2:ss[j]?=some (x,y)) (e:y*2 ^ x=k*2 ^ h):x=h/\y=k:=by
 have a1:=z0N k h;have a2:=Nat.two_pow_pos h;have a3:=z0N y x;have a4:=Nat.two_pow_pos x;rcases Nat.lt_trichotomy i j with c | c | c
 ·have:=Pairwise.at_lt hso c h1 h2
  unfold Off at this;dsimp only at this;omega
 ·subst c
  rw [h1] at h2;simp only [Option.some.injEq,Prod.mk.injEq] at h2;exact ⟨h2.1.symm,h2.2.symm⟩
 ·have:=Pairwise.at_lt hso c h2 h1
  unfold Off at this;dsimp only at this;omega
theorem zha (d:Int) (ss:List (Nat × Nat)) (ra:Option Addr) (rc:Nat) (a:Option Addr) (n c:Nat) (hsn:ss.length=n) (hn:n<=1000) (l:List Int) (h k p:Nat) (w:World) (hL:Lie w ra ss) (hF:Flat w a n l) (hp:ss[p]?=some (h,k)):
  Calls Tryz.prog 37 #[.int .i64 d,SPOT h k,.slice ra n rc,.slice a n c,.int .i64 (p:Int)] w fun e w'=>e=.returned (.tuple #[.agg (z01 (HSH l p)).toArray,.int .i64 ((p+1:Nat):Int)])/\Below w.heap.size w w':=by
 have hpn:p<n:=by rw [<-hsn];exact (List.getElem?_eq_some_iff.1 hp).1
 have hlt:(p:Int)<(n:Int):=by omega
 obtain ⟨g,o,rfl,hgl,hg⟩:=hL (by omega);obtain ⟨gn,on,rfl,hgn,_⟩:=hF.2.1 (by omega);have e1:wrap64 ((p:Int)+1)=((p+1:Nat):Int):=by unfold wrap64;omega
 have y32:=z16 hF.1 hpn;obtain ⟨W0,hW0⟩:∃ W0,(w.alloc (.cells #[.int .u8 (h:Int),.int .u64 (k:Int)] 77)).alloc (.cells ZARR 24)=W0:=⟨_,rfl⟩
 obtain ⟨b6,hb6⟩:∃ b,w.heap.size=b:=⟨_,rfl⟩
 obtain ⟨b10,hb10⟩:∃ b,b6+1=b:=⟨_,rfl⟩
 have R0:Aside (Below w.heap.size w W0/\Has W0 b6 #[.int .u8 (h:Int),.int .u64 (k:Int)] 77/\Has W0 b10 (z01 ZND).toArray 24/\w.heap.size<=b10):=by
  rw [<-hW0,<-hb10,<-hb6];exact ⟨((Below.refl _ _).alloc (Nat.le_refl _) _).alloc (by simp) _,(Has.new _ _ _).alloc _,by rw [z28];exact Has.at _ _ _ (by simp),by omega⟩
 have x0:=R0.out.2.1.cell 0;have x1:=R0.out.2.1.cell 1;have x2:W0.cell? ⟨g,o+p*2,none⟩=some (.int .u8 (h:Int)):=(R0.out.1.cell (by exact hgl)).trans (hg p h k hp).1;have x3:W0.cell? ⟨g,o+p*2+1,none⟩=some (.int .u64 (k:Int)):=(R0.out.1.cell (by exact hgl)).trans (hg p h k hp).2;have hat:=(hF.below R0.out.1).at hpn;clear hsn hn hF hp hpn hL hg hgl hgn;generalize HSH l p=Y at *
 go_enter Tryz.func37,Tryz.ntmps37;go_upto_region 1 with fail
 clear hW0 hb6 hb10;go_big_quiet (fail)
 have hat2:(W0.drewN nq).rangeAt gn (on+p*32) (z01 Y):=hat
 have R1:Aside (Below w.heap.size w (W0.drewN nq)/\w.heap.size<=b10):=⟨below_drewN R0.out.1 nq,R0.out.2.2.2⟩
 have h10:Has (W0.drewN nq) b10 (z01 ZND).toArray 24:=R0.out.2.2.1;generalize W0.drewN nq=W1 at *
 clear x0 x1 x2 x3 hat R0
 go_wp2_with (first
  | (refine wpList_load_mid rfl 24 (.tmp 22) rfl gn (on+p*32) rfl (z01 Y) _ hat2 Tryz.underlying24 rfl (z09 y32) ?_)
  | (refine wpList_store_row rfl 24 (.tmp 10) (.tmp 23) rfl _ _ rfl rfl 24 _ h10 (z02 y32) (by simp [z01,y32];rfl) (z0k Y) ?_))
 refine bodyPost_ret (v:=.tuple #[.agg (z01 Y).toArray,.int .i64 ((p+1:Nat):Int)]) (z1O rfl _ _ b10 24 _ (0,0) _ _ _ rfl (by first | rfl | (simp;done)) (Has.row h10 _) Tryz.underlying24 (z02 y32)) rfl ⟨rfl,z0e R1.out.1 R1.out.2 _⟩
theorem zfx (d:Int) (ss:List (Nat × Nat)) (ra:Option Addr) (rc:Nat) (a:Option Addr) (n c:Nat) (hsn:ss.length=n) (h k p x y p1 p2:Nat) (hh:h<62) (hk:2*k+1<2 ^ 64) (A B:List Int) (hA:IsH A) (hB:IsH B) (w:World) (hL:Lie w ra ss) (hp:ss[p]?=some (x,y)) (hq:¬ (x=h+1/\y=k))
  (c1:∀ W,Below w.heap.size w W->Calls Tryz.prog 37 #[.int .i64 d,SPOT h (2*k),.slice ra n rc,.slice a n c,.int .i64 (p:Int)] W fun e w'=>e=.returned (.tuple #[.agg (z01 A).toArray,.int .i64 (p1:Int)])/\Below W.heap.size W w')
  (c2:∀ W,Below w.heap.size w W->Calls Tryz.prog 37 #[.int .i64 d,SPOT h (2*k+1),.slice ra n rc,.slice a n c,.int .i64 (p1:Int)] W fun e w'=>e=.returned (.tuple #[.agg (z01 B).toArray,.int .i64 (p2:Int)])/\Below W.heap.size W w'):
  Calls Tryz.prog 37 #[.int .i64 d,SPOT (h+1) k,.slice ra n rc,.slice a n c,.int .i64 (p:Int)] w fun e w'=>e=.returned (.tuple #[.agg (z01 (z0o d A B)).toArray,.int .i64 (p2:Int)])/\Below w.heap.size w w':=by
 have hpn:p<n:=by rw [<-hsn];exact (List.getElem?_eq_some_iff.1 hp).1
 have hlt:(p:Int)<(n:Int):=by omega
 obtain ⟨g,o,rfl,hgl,hg⟩:=hL (by omega);have e1:IntKind.u8.wrap (((h+1:Nat):Int) - 1)=(h:Int):=by simp [IntKind.wrap,IntKind.bits,IntKind.signed];omega
 have e2:IntKind.u64.wrap (2*(k:Int))=((2*k:Nat):Int):=by rw [IntKind.wrap_u64];omega
 have e3:IntKind.u64.wrap (((2*k:Nat):Int)+1)=((2*k+1:Nat):Int):=by rw [IntKind.wrap_u64];omega
 have hY:IsH (z0o d A B):=z1r _ _ _;have CN:Aside (∀ W,Calls Tryz.prog 31 #[.int .i64 d,.agg (z01 A).toArray,.agg (z01 B).toArray] W fun e w'=>e=.returned (.agg (z01 (z0o d A B)).toArray)/\Below W.heap.size W w'):=fun W=>z4e d A B hA hB W;have y32:=hY.1;have a32:=hA.1;have b32:=hB.1;generalize z0o d A B=Y at *
 obtain ⟨H,hH⟩:∃ H,h+1=H:=⟨_,rfl⟩
 rw [hH] at e1 ⊢;obtain ⟨W0,hW0⟩:∃ W0,(w.alloc (.cells #[.int .u8 (H:Int),.int .u64 (k:Int)] 77)).alloc (.cells ZARR 24)=W0:=⟨_,rfl⟩
 obtain ⟨b6,hb6⟩:∃ b,w.heap.size=b:=⟨_,rfl⟩
 obtain ⟨b10,hb10⟩:∃ b,b6+1=b:=⟨_,rfl⟩
 have R0:Aside (Below w.heap.size w W0/\Has W0 b6 #[.int .u8 (H:Int),.int .u64 (k:Int)] 77/\Has W0 b10 (z01 ZND).toArray 24/\w.heap.size<=b10):=by
  rw [<-hW0,<-hb10,<-hb6];exact ⟨((Below.refl _ _).alloc (Nat.le_refl _) _).alloc (by simp) _,(Has.new _ _ _).alloc _,by rw [z28];exact Has.at _ _ _ (by simp),by omega⟩
 have x0:=R0.out.2.1.cell 0;have x1:=R0.out.2.1.cell 1;have x2:W0.cell? ⟨g,o+p*2,none⟩=some (.int .u8 (x:Int)):=(R0.out.1.cell (by exact hgl)).trans (hg p x y hp).1;have x3:W0.cell? ⟨g,o+p*2+1,none⟩=some (.int .u64 (y:Int)):=(R0.out.1.cell (by exact hgl)).trans (hg p x y hp).2;have C1:Aside (∀ W,Below w.heap.size w W->Calls Tryz.prog 37 #[.int .i64 d,.agg #[.int .u8 (h:Int),.int .u64 ((2*k:Nat):Int)],.slice (some ⟨g,o,none⟩) n rc,.slice a n c,.int .i64 (p:Int)] W fun e w'=>e=.returned (.tuple #[.agg (z01 A).toArray,.int .i64 (p1:Int)])/\Below W.heap.size W w'):=c1;have C2:Aside (∀ W,Below w.heap.size w W->Calls Tryz.prog 37 #[.int .i64 d,.agg #[.int .u8 (h:Int),.int .u64 ((2*k+1:Nat):Int)],.slice (some ⟨g,o,none⟩) n rc,.slice a n c,.int .i64 (p1:Int)] W fun e w'=>e=.returned (.tuple #[.agg (z01 B).toArray,.int .i64 (p2:Int)])/\Below W.heap.size W w'):=c2
 have HEQ:∀ W,(Op.equalIn 10000 77 (.agg #[.int .u8 (x:Int),.int .u64 (y:Int)]) (.agg #[.int .u8 (H:Int),.int .u64 (k:Int)])).run Tryz.prog W=.ok false W:=fun W=>by
  by_cases hx:x=H
  ·have f1:((x:Int) == (H:Int))=true:=by rw [hx];exact beq_self_eq_true _
   have f2:((y:Int) == (k:Int))=false:=beq_eq_false_iff_ne.2 (by omega);go_simp
  ·have f1:((x:Int) == (H:Int))=false:=beq_eq_false_iff_ne.2 (by omega)
   go_simp
 clear hsn hp hpn hL hg hgl hh hk hA hB hY c1 c2 hq;generalize 2*k+1=K2 at *
 generalize 2*k=K1 at *
 go_enter Tryz.func37,Tryz.ntmps37;go_upto_region 1 with fail
 clear hW0 hb6 hb10;go_big_quiet (fail)
 have R1:Aside (Below w.heap.size w (W0.drewN nq)/\Has (W0.drewN nq) b6 #[.int .u8 (H:Int),.int .u64 (k:Int)] 77/\Has (W0.drewN nq) b10 (z01 ZND).toArray 24/\w.heap.size<=b10):=⟨below_drewN R0.out.1 nq,R0.out.2.1,R0.out.2.2.1,R0.out.2.2.2⟩
 generalize W0.drewN nq=W1 at *
 clear x0 x1 x2 x3 R0 HEQ hH hlt;have M:Aside (w.heap.size<=b10):=R1.out.2.2.2;have x0:=R1.out.2.1.cell 0;have x1:=R1.out.2.1.cell 1;have cc:=C1.out W1 R1.out.1;go_wp2_with fail
 refine cc.mono ?_;rintro e w2 ⟨rfl,hb2⟩;have R2:Aside (Below w.heap.size w w2/\Has w2 b6 #[.int .u8 (H:Int),.int .u64 (k:Int)] 77/\Has w2 b10 (z01 ZND).toArray 24):=⟨R1.out.1.trans (hb2.mono R1.out.1.size),R1.out.2.1.keep hb2,R1.out.2.2.1.keep hb2⟩
 clear cc hb2 x0 x1 R1 C1;go_upto_region 4 with (refine wpList_store_row rfl 24 (.tmp 12) (.tmp 39) rfl _ _ rfl rfl 24 _ (Has.new w2 _ _) (z02 a32) (by simp [z01,a32]) (z0k A) ?_;rw [World.setRow_alloc_new])
 have R3:Aside (Below w.heap.size w (w2.alloc (.cells (z01 A).toArray 24))/\Has (w2.alloc (.cells (z01 A).toArray 24)) b6 #[.int .u8 (H:Int),.int .u64 (k:Int)] 77/\Has (w2.alloc (.cells (z01 A).toArray 24)) b10 (z01 ZND).toArray 24/\Has (w2.alloc (.cells (z01 A).toArray 24)) w2.heap.size (z01 A).toArray 24):=⟨R2.out.1.alloc R2.out.1.size _,R2.out.2.1.alloc _,R2.out.2.2.alloc _,Has.new _ _ _⟩
 generalize w2.alloc (.cells (z01 A).toArray 24)=w3 at *
 generalize w2.heap.size=b12 at *
 clear R2;have x0:=R3.out.2.1.cell 0;have x1:=R3.out.2.1.cell 1;have cc:=C2.out w3 R3.out.1;go_wp2_with fail
 refine cc.mono ?_;rintro e w4 ⟨rfl,hb4⟩;have R4:Aside (Below w.heap.size w w4/\Has w4 b10 (z01 ZND).toArray 24/\Has w4 b12 (z01 A).toArray 24):=⟨R3.out.1.trans (hb4.mono R3.out.1.size),R3.out.2.2.1.keep hb4,R3.out.2.2.2.keep hb4⟩
 clear cc hb4 x0 x1 R3 C2;go_upto_region 5 with (refine wpList_store_row rfl 24 (.tmp 13) (.tmp 55) rfl _ _ rfl rfl 24 _ (Has.new w4 _ _) (z02 b32) (by simp [z01,b32]) (z0k B) ?_;rw [World.setRow_alloc_new])
 have R5:Aside (Below w.heap.size w (w4.alloc (.cells (z01 B).toArray 24))/\Has (w4.alloc (.cells (z01 B).toArray 24)) b10 (z01 ZND).toArray 24/\Has (w4.alloc (.cells (z01 B).toArray 24)) b12 (z01 A).toArray 24/\Has (w4.alloc (.cells (z01 B).toArray 24)) w4.heap.size (z01 B).toArray 24):=⟨R4.out.1.alloc R4.out.1.size _,R4.out.2.1.alloc _,R4.out.2.2.alloc _,Has.new _ _ _⟩
 generalize w4.alloc (.cells (z01 B).toArray 24)=w5 at *
 generalize w4.heap.size=b13 at *
 clear R4;have h12:=R5.out.2.2.1;have h13:=R5.out.2.2.2;have cc:=CN.out w5
 go_wp2_with (first
  | (refine wpList_load_row rfl 24 (.tmp 12) rfl b12 rfl 24 (z01 A).toArray (0,0) _ h12 Tryz.underlying24 rfl (z02 a32) ?_)
  | (refine wpList_load_row rfl 24 (.tmp 13) rfl b13 rfl 24 (z01 B).toArray (0,0) _ h13 Tryz.underlying24 rfl (z02 b32) ?_))
 refine cc.mono ?_;rintro e w6 ⟨rfl,hb6⟩;have R6:Aside (Below w.heap.size w w6):=R5.out.1.trans (hb6.mono R5.out.1.size);have h10:=R5.out.2.1.keep hb6;clear cc hb6 h12 h13 R5 CN;go_wp2_with (refine wpList_store_row rfl 24 (.tmp 10) (.tmp 60) rfl _ _ rfl rfl 24 _ h10 (z02 y32) (by simp [z01,y32];rfl) (z0k Y) ?_)
 refine bodyPost_ret (v:=.tuple #[.agg (z01 Y).toArray,.int .i64 (p2:Int)]) (z1O rfl _ _ b10 24 _ (0,0) _ _ _ rfl rfl (Has.row h10 _) Tryz.underlying24 (z02 y32)) rfl ⟨rfl,z0e R6.out M.out _⟩
theorem zdN (d:Int) (ss:List (Nat × Nat)) (hso:ss.Pairwise Off) (ra:Option Addr) (rc:Nat) (a:Option Addr) (n c:Nat) (hsn:ss.length=n) (hn:n<=1000) (l:List Int) (hl:l.length=32*n) (hr:∀ x∈l,0<=x/\x<=255):∀ (h k p m:Nat) (w:World),Node h k->Lie w ra ss->Flat w a n l->p+m<=n->Tile (k*2 ^ h) ((ss.drop p).take m) ((k+1)*2 ^ h)->
   Calls Tryz.prog 37 #[.int .i64 d,SPOT h k,.slice ra n rc,.slice a n c,.int .i64 (p:Int)] w fun e w'=>e=.returned (.tuple #[.agg (z01 (VH d ss l h k)).toArray,.int .i64 ((p+m:Nat):Int)])/\Below w.heap.size w w':=by
 have hit:∀ (h k p m:Nat) (w:World),Lie w ra ss->Flat w a n l->p+m<=n->Tile (k*2 ^ h) ((ss.drop p).take m) ((k+1)*2 ^ h)->ss[p]?=some (h,k)->Calls Tryz.prog 37 #[.int .i64 d,SPOT h k,.slice ra n rc,.slice a n c,.int .i64 (p:Int)] w fun e w'=>e=.returned (.tuple #[.agg (z01 (VH d ss l h k)).toArray,.int .i64 ((p+m:Nat):Int)])/\Below w.heap.size w w':=by
   intro h k p m w hL hF hpm ht e
   have hm:m=1:=by
    exact z8x e ht (by omega)
   subst hm;rw [z7D (List.mem_of_getElem? e),z2Y hso e _ (by have:=(List.getElem?_eq_some_iff.1 e).1;omega) (Nat.le_refl _)];exact zha d ss ra rc a n c hsn hn l h k p w hL hF e
 intro h;induction h with
 | zero=>
   intro k p m w hN hL hF hpm ht;refine hit 0 k p m w hL hF hpm ht ?_;obtain ⟨x,y,e,_,hx⟩:=z43 ht;have:=hx 0 (Nat.le_refl _) rfl;rw [e,this.1,this.2]
 | succ h ih=>
   intro k p m w hN hL hF hpm ht;obtain ⟨x,y,e,e0,_⟩:=z43 ht;by_cases hq:x=h+1/\y=k
   ·exact hit (h+1) k p m w hL hF hpm ht (by rw [e,hq.1,hq.2])
   ·obtain ⟨i,hi,t1,t2⟩:=zfc ht (by rw [e0];intro hc;exact hq (by simpa using hc))
    have him:i<=m:=by rw [List.length_take,List.length_drop] at hi;omega
    rw [List.take_take,Nat.min_eq_left him] at t1;rw [List.drop_take,List.drop_drop] at t2
    have hk2:2*k+1<2 ^ (62 - h):=by
     have h1:=hN.2;have h2:=hN.1;have h3:2 ^ (62 - h)=2*2 ^ (62 - (h+1)):=by rw [<-z23];congr 1;omega
     omega
    have hN1:Node h (2*k):=⟨by have:=hN.1;omega,by omega⟩
    have hN2:Node h (2*k+1):=⟨by have:=hN.1;omega,hk2⟩
    have hmem:(h+1,k) ∉ ss:=by
     intro hm;obtain ⟨j,hj⟩:=List.mem_iff_getElem?.1 hm;have hov:=zdM ht e0;exact hq (zh9 hso hj e hov)
    rw [z7E hmem];have hsm:p+m=p+i+(m - i):=by omega
    rw [hsm]
    exact zfx d ss ra rc a n c hsn h k p x y (p+i) (p+i+(m - i)) (by have:=hN.1;omega) (by have:2 ^ (62 - h)<=2 ^ 62:=Nat.pow_le_pow_right (by decide) (by omega);omega) _ _ (z52 hl hr (by omega) _ _) (z52 hl hr (by omega) _ _) w hL e hq
     (fun W hb=>ih (2*k) p i W hN1 (hL.below hb) (hF.below hb) (by omega) t1) (fun W hb=>ih (2*k+1) (p+i) (m - i) W hN2 (hL.below hb) (hF.below hb) (by omega) t2)
end Go.Proofs.YtdggkbpabjgdfaaGreatDoor
namespace Go.Proofs.YtdggkbpabjgdfaaGreatDoor
set_option linter.unusedSimpArgs false
open Go.RowKit
set_option maxRecDepth 100000
@[go_sem] def RR14OPSq0:Oper:=⟨some 51,.move (.tmp 0),3,"ref.go:87",#[],none⟩
@[go_sem] def RR14OPSq1:Oper:=⟨some 52,.move (.tmp 11),74,"ref.go:87",#[],none⟩
@[go_sem] def RR14OPSq2:Oper:=⟨some 53,.move (.tmp 14),3,"ref.go:87",#[],none⟩
@[go_sem] def RR14OPSq3:Oper:=⟨some 54,.indexAddr 74 (.tmp 52) (.tmp 53),0,"ref.go:87",#[⟨1,.data⟩,⟨2,.data⟩],none⟩
@[go_sem] def RR14OPSq4:Oper:=⟨some 55,.load 77 (.tmp 54),77,"ref.go:87",#[⟨3,.data⟩],none⟩
@[go_sem] def RR14OPSq5:Oper:=⟨some 56,.move (.tmp 9),74,"ref.go:87",#[],none⟩
@[go_sem] def RR14OPSq6:Oper:=⟨some 57,.fieldAddr 48 (.tmp 3) 2,0,"ref.go:87",#[],none⟩
@[go_sem] def RR14OPSq7:Oper:=⟨some 58,.load 38 (.tmp 57),38,"ref.go:87",#[⟨6,.data⟩],none⟩
@[go_sem] def RR14OPSq8:Oper:=⟨some 59,.move (.tmp 13),3,"ref.go:87",#[],none⟩
@[go_sem] def RR14OPSq9:Oper:=⟨some 60,.call {callee:=.value (.func 37),args:=#[.tmp 51,.tmp 55,.tmp 56,.tmp 58,.tmp 59],argTypes:=#[3,77,74,38,3]},83,"ref.go:87",#[⟨0,.data⟩,⟨4,.data⟩,⟨5,.data⟩,⟨7,.data⟩,⟨8,.data⟩],none⟩
@[go_sem] def RR14OPSq10:Oper:=⟨some 50,.move (.tmp 60),83,"ref.go:87",#[⟨9,.data⟩],none⟩
@[go_sem] def RR14OPSq11:Oper:=⟨some 61,.extract (.tmp 50) 0,24,"ref.go:87",#[⟨10,.data⟩],none⟩
@[go_sem] def RR14OPSq12:Oper:=⟨some 62,.extract (.tmp 50) 1,3,"ref.go:87",#[⟨10,.data⟩,{on:=13,ground:=.gcOnly Departure.lateStores}],none⟩
@[go_sem] def RR14OPSq13:Oper:=⟨none,.store 24 (.tmp 15) (.tmp 61),0,"ref.go:87",#[⟨11,.data⟩,⟨9,.chain⟩,⟨0,.phase⟩,⟨1,.phase⟩,⟨2,.phase⟩,⟨3,.phase⟩,⟨4,.phase⟩,⟨5,.phase⟩,⟨6,.phase⟩,⟨7,.phase⟩,⟨8,.phase⟩,⟨9,.phase⟩,⟨10,.phase⟩,⟨11,.phase⟩,{on:=12,ground:=.textOnly Departure.lateStores}],none⟩
@[go_sem] def RR14OPSq14:Oper:=⟨some 13,.assign (.tmp 62),3,"ref.go:87",#[⟨12,.data⟩,⟨13,.chain⟩,⟨0,.phase⟩,⟨1,.phase⟩,⟨2,.phase⟩,⟨3,.phase⟩,⟨4,.phase⟩,⟨5,.phase⟩,⟨6,.phase⟩,⟨7,.phase⟩,⟨8,.phase⟩,⟨9,.phase⟩,⟨10,.phase⟩,⟨11,.phase⟩,⟨12,.phase⟩,⟨13,.phase⟩],none⟩
def z65:Array Oper:=#[RR14OPSq0,RR14OPSq1,RR14OPSq2,RR14OPSq3,RR14OPSq4,RR14OPSq5,RR14OPSq6,RR14OPSq7,RR14OPSq8,RR14OPSq9,RR14OPSq10,RR14OPSq11,RR14OPSq12,RR14OPSq13,RR14OPSq14]
theorem zdO {Q:Exit->Act->World->Prop} {b f g j l m q r s u x y A B C D E F G H I J K L M N O P R T U V Z aa ab ac ad ae af ag ah ai aj ak al am an ao ap aq ar au av aw ax ay az aA aB aC aD aE:Value} (W:World) (d:Int) (b3 bx gt mt ct i p p2 h k n:Nat) (ra:Option Addr) (rc:Nat) (a:Option Addr) (c:Nat) (X Y:List Int) (x32:X.length=32) (y32:Y.length=32) (hi:(i:Int)<(mt:Int)) (ne1:gt≠bx) (ne2:b3≠bx) (P0 P1:World->Prop) (h0:P0 W.drew) (s0:∀ w,P0 w->(fun w:World=>w.cell? ⟨gt,i*2,none⟩=some (.int .u8 (h:Int))/\w.cell? ⟨gt,i*2+1,none⟩=some (.int .u64 (k:Int))/\w.cell? ⟨b3,2,none⟩=some (.slice a n c)) w) (s1:∀ w,P1 w->(fun w:World=>w.cell? ⟨gt,i*2,none⟩=some (.int .u8 (h:Int))/\w.cell? ⟨gt,i*2+1,none⟩=some (.int .u64 (k:Int))/\w.cell? ⟨b3,2,none⟩=some (.slice a n c)) w) (h2:∀ w,P1 w->Has w bx (z01 X).toArray 24)
  (q1:∀ w,P0 w->Calls Tryz.prog 37 #[.int .i64 d,.agg #[.int .u8 (h:Int),.int .u64 (k:Int)],.slice ra n rc,.slice a n c,.int .i64 (p:Int)] w fun e w'=>e=.returned (.tuple #[.agg (z01 Y).toArray,.int .i64 (p2:Int)])/\P1 w') (hQ:∀ c (a:Act) (t:Tmp) (v:Value) w,Q (.panic c) (a.put (some t) v) w->Q (.panic c) a w)
  (hfin:∀ (w:World),(∃ wx:World,P1 wx/\w=wx.setRow bx (z01 Y).toArray)->Q .normal {tmps:=#[.int .i64 d,b,f,.pointer (some ⟨b3,0,none⟩),g,j,l,m,q,.slice ra n rc,r,.slice (some ⟨gt,0,none⟩) mt ct,s,.int .i64 (p2:Int),.int .i64 (i:Int),.pointer (some ⟨bx,0,none⟩),u,x,y,A,B,C,D,E,F,G,H,I,J,K,L,M,N,O,P,R,T,U,V,Z,aa,ab,ac,ad,ae,af,ag,ah,ai,aj,.tuple #[.agg (z01 Y).toArray,.int .i64 (p2:Int)],.int .i64 d,.slice (some ⟨gt,0,none⟩) mt ct,.int .i64 (i:Int),.pointer (some ⟨gt,i*2,none⟩),.agg #[.int .u8 (h:Int),.int .u64 (k:Int)],.slice ra n rc,.pointer (some ⟨b3,2,none⟩),.slice a n c,.int .i64 (p:Int),.tuple #[.agg (z01 Y).toArray,.int .i64 (p2:Int)],.agg (z01 Y).toArray,.int .i64 (p2:Int),az,aA,aB,aC,aD,aE],defers:=[]} w):(Code.region 14 z65 true).wp Tryz.prog Q {tmps:=#[.int .i64 d,b,f,.pointer (some ⟨b3,0,none⟩),g,j,l,m,q,.slice ra n rc,r,.slice (some ⟨gt,0,none⟩) mt ct,s,.int .i64 (p:Int),.int .i64 (i:Int),.pointer (some ⟨bx,0,none⟩),u,x,y,A,B,C,D,E,F,G,H,I,J,K,L,M,N,O,P,R,T,U,V,Z,aa,ab,ac,ad,ae,af,ag,ah,ai,aj,ak,al,am,an,ao,ap,aq,ar,au,av,aw,ax,ay,az,aA,aB,aC,aD,aE],defers:=[]} W:=by
 have ekst9_13:∀ (w:World),(∃ wx:World,P1 wx/\w=wx.setRow bx (z01 Y).toArray)->wpAnyH Tryz.prog .any z65 Q (fun w:World=>w.cell? ⟨gt,i*2,none⟩=some (.int .u8 (h:Int))/\w.cell? ⟨gt,i*2+1,none⟩=some (.int .u64 (k:Int))/\w.cell? ⟨b3,2,none⟩=some (.slice a n c)) 1 #[tt,tt,tt,tt,tt,tt,tt,tt,tt,tt,tt,tt,tt,tt,ff] {tmps:=#[.int .i64 d,b,f,.pointer (some ⟨b3,0,none⟩),g,j,l,m,q,.slice ra n rc,r,.slice (some ⟨gt,0,none⟩) mt ct,s,.int .i64 (p:Int),.int .i64 (i:Int),.pointer (some ⟨bx,0,none⟩),u,x,y,A,B,C,D,E,F,G,H,I,J,K,L,M,N,O,P,R,T,U,V,Z,aa,ab,ac,ad,ae,af,ag,ah,ai,aj,.tuple #[.agg (z01 Y).toArray,.int .i64 (p2:Int)],.int .i64 d,.slice (some ⟨gt,0,none⟩) mt ct,.int .i64 (i:Int),.pointer (some ⟨gt,i*2,none⟩),.agg #[.int .u8 (h:Int),.int .u64 (k:Int)],.slice ra n rc,.pointer (some ⟨b3,2,none⟩),.slice a n c,.int .i64 (p:Int),.tuple #[.agg (z01 Y).toArray,.int .i64 (p2:Int)],.agg (z01 Y).toArray,.int .i64 (p2:Int),az,aA,aB,aC,aD,aE],defers:=[]} w:=fun  w hp=>by
  have hww:(fun w:World=>w.cell? ⟨gt,i*2,none⟩=some (.int .u8 (h:Int))/\w.cell? ⟨gt,i*2+1,none⟩=some (.int .u64 (k:Int))/\w.cell? ⟨b3,2,none⟩=some (.slice a n c)) w:=(by obtain ⟨wx,h1,h2⟩:=hp; (first | rw [h2] | skip);have h3:=s1 _ h1;exact ⟨(World.cell?_of_block (w:=wx) (by exact setRow_other wx bx gt _ ne1)).trans h3.1,(World.cell?_of_block (w:=wx) (by exact setRow_other wx bx gt _ ne1)).trans h3.2.1,(World.cell?_of_block (w:=wx) (by exact setRow_other wx bx b3 _ ne2)).trans h3.2.2⟩)
  refine tkP RR14OPSq14 (.int .i64 (p2:Int)) 14 hQ hww ?_;simp only [List.set];exact wpAnyH_done (by kernel_rfl) (hfin  w hp) _
 have kst:∀ (w:World),(P0 w)->wpAnyH Tryz.prog .any z65 Q (fun w:World=>w.cell? ⟨gt,i*2,none⟩=some (.int .u8 (h:Int))/\w.cell? ⟨gt,i*2+1,none⟩=some (.int .u64 (k:Int))/\w.cell? ⟨b3,2,none⟩=some (.slice a n c)) 6 #[tt,tt,tt,tt,tt,tt,tt,tt,tt,ff,ff,ff,ff,ff,ff] {tmps:=#[.int .i64 d,b,f,.pointer (some ⟨b3,0,none⟩),g,j,l,m,q,.slice ra n rc,r,.slice (some ⟨gt,0,none⟩) mt ct,s,.int .i64 (p:Int),.int .i64 (i:Int),.pointer (some ⟨bx,0,none⟩),u,x,y,A,B,C,D,E,F,G,H,I,J,K,L,M,N,O,P,R,T,U,V,Z,aa,ab,ac,ad,ae,af,ag,ah,ai,aj,ak,.int .i64 d,.slice (some ⟨gt,0,none⟩) mt ct,.int .i64 (i:Int),.pointer (some ⟨gt,i*2,none⟩),.agg #[.int .u8 (h:Int),.int .u64 (k:Int)],.slice ra n rc,.pointer (some ⟨b3,2,none⟩),.slice a n c,.int .i64 (p:Int),aw,ax,ay,az,aA,aB,aC,aD,aE],defers:=[]} w:=fun  w hp=>by
  refine wpAnyH_ready (rs:=[9]) (by kernel_rfl) (by simp) ?_;refine AllReadyH.cons (o:=RR14OPSq9) rfl (fun KQ hKQ=>?_) ?_
  ·rw [if_pos (by rfl)]
   go_simp;refine (show Calls _ _ _ w (fun e w'=>e=.returned (.tuple #[.agg (z01 Y).toArray,.int .i64 (p2:Int)])/\(P1 w')) from q1 w hp).mono ?_;rintro e w ⟨rfl,hp⟩;refine hKQ.out _ _ (s1 _ hp) (fun _=>?_);simp only [Act.put,RR14OPSq9,List.setIfInBounds_toArray,List.set];have hww:(fun w:World=>w.cell? ⟨gt,i*2,none⟩=some (.int .u8 (h:Int))/\w.cell? ⟨gt,i*2+1,none⟩=some (.int .u64 (k:Int))/\w.cell? ⟨b3,2,none⟩=some (.slice a n c)) w:=s1 _ hp;refine tkP RR14OPSq10 (.tuple #[.agg (z01 Y).toArray,.int .i64 (p2:Int)]) 10 hQ hww ?_;simp only [List.set];refine tkP RR14OPSq11 (.agg (z01 Y).toArray) 11 hQ hww ?_;simp only [List.set];refine tkP RR14OPSq12 (.int .i64 (p2:Int)) 12 hQ hww ?_;simp only [List.set];refine wpAnyH_ready (rs:=[13]) (by kernel_rfl) (by simp) ?_;refine AllReadyH.cons (o:=RR14OPSq13) rfl (fun KQ hKQ=>?_) ?_
   ·exact z1s (by rfl) (wpList_store_row rfl 24 (.tmp 15) (.tmp 61) rfl bx (z01 Y).toArray rfl rfl 24 (z01 X).toArray (h2 _ hp) (z02 y32) (by simp [z01,x32,y32]) (z0k Y) ⟨rfl,(have hp:(fun (w:World)=>(∃ wx:World,P1 wx/\w=wx.setRow bx (z01 Y).toArray))  _:=⟨w,hp,rfl⟩;hKQ.out _ _ ((by obtain ⟨wx,h1,h2⟩:=hp; (first | rw [h2] | skip);have h3:=s1 _ h1;exact ⟨(World.cell?_of_block (w:=wx) (by exact setRow_other wx bx gt _ ne1)).trans h3.1,(World.cell?_of_block (w:=wx) (by exact setRow_other wx bx gt _ ne1)).trans h3.2.1,(World.cell?_of_block (w:=wx) (by exact setRow_other wx bx b3 _ ne2)).trans h3.2.2⟩)) (fun _=>ekst9_13  _ hp))⟩)
   exact AllReadyH.nil
  exact AllReadyH.nil
 have hp:=h0;have hww:(fun w:World=>w.cell? ⟨gt,i*2,none⟩=some (.int .u8 (h:Int))/\w.cell? ⟨gt,i*2+1,none⟩=some (.int .u64 (k:Int))/\w.cell? ⟨b3,2,none⟩=some (.slice a n c)) W.drew:=s0 _ hp;have last:=kst W.drew hp
 have z:wpAnyH Tryz.prog .any z65 Q (fun w:World=>w.cell? ⟨gt,i*2,none⟩=some (.int .u8 (h:Int))/\w.cell? ⟨gt,i*2+1,none⟩=some (.int .u64 (k:Int))/\w.cell? ⟨b3,2,none⟩=some (.slice a n c)) 15 #[ff,ff,ff,ff,ff,ff,ff,ff,ff,ff,ff,ff,ff,ff,ff] {tmps:=#[.int .i64 d,b,f,.pointer (some ⟨b3,0,none⟩),g,j,l,m,q,.slice ra n rc,r,.slice (some ⟨gt,0,none⟩) mt ct,s,.int .i64 (p:Int),.int .i64 (i:Int),.pointer (some ⟨bx,0,none⟩),u,x,y,A,B,C,D,E,F,G,H,I,J,K,L,M,N,O,P,R,T,U,V,Z,aa,ab,ac,ad,ae,af,ag,ah,ai,aj,ak,al,am,an,ao,ap,aq,ar,au,av,aw,ax,ay,az,aA,aB,aC,aD,aE],defers:=[]} W.drew:=by
  refine tkP RR14OPSq0 (.int .i64 d) 0 hQ hww ?_;simp only [List.set];refine tkP RR14OPSq1 (.slice (some ⟨gt,0,none⟩) mt ct) 1 hQ hww ?_;simp only [List.set];refine tkP RR14OPSq2 (.int .i64 (i:Int)) 2 hQ hww ?_;simp only [List.set];refine tkH RR14OPSq3 (.pointer (some ⟨gt,i*2,none⟩)) 3 hQ (Or.inl ⟨by rfl,fun w hw=>by have hx:=hi;go_simp⟩) hww ?_;simp only [List.set];refine tkH RR14OPSq4 (.agg #[.int .u8 (h:Int),.int .u64 (k:Int)]) 4 hQ (Or.inl ⟨by rfl,fun w hw=>by have hx:=hw.1;have hy:=hw.2.1;go_simp⟩) hww ?_;simp only [List.set];refine tkP RR14OPSq5 (.slice ra n rc) 5 hQ hww ?_;simp only [List.set];refine tkP RR14OPSq6 (.pointer (some ⟨b3,2,none⟩)) 6 hQ hww ?_;simp only [List.set];refine tkH RR14OPSq7 (.slice a n c) 7 hQ (Or.inl ⟨by rfl,fun w hw=>by have hx:=hw.2.2;go_simp⟩) hww ?_;simp only [List.set];refine tkP RR14OPSq8 (.int .i64 (p:Int)) 8 hQ hww ?_;simp only [List.set];exact last
 exact wp_region_held_drew (S:=(fun w:World=>w.cell? ⟨gt,i*2,none⟩=some (.int .u8 (h:Int))/\w.cell? ⟨gt,i*2+1,none⟩=some (.int .u64 (k:Int))/\w.cell? ⟨b3,2,none⟩=some (.slice a n c))) (by kernel_rfl) hww (fun _=>z)
end Go.Proofs.YtdggkbpabjgdfaaGreatDoor
