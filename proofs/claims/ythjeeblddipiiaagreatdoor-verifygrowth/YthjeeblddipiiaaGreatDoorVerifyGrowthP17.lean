/- Texts of VerifyGrowth, one behind the other: VerifyRooted, NumLongCalls, NumLongPlain. -/
import Derived.Test.YthjeeblddipiiaaGreatDoorVerifyGrowthP5
import Derived.Test.YthjeeblddipiiaaGreatDoorVerifyGrowthP14
import Derived.Test.YthjeeblddipiiaaGreatDoorVerifyGrowthP16
namespace Go.Proofs.YthjeeblddipiiaaGreatDoor
open Go.RowKit
set_option maxRecDepth 100000
theorem zgF {a b:List Int} (ha:IsH a) (hb:IsH b) (w:World):(Op.equalIn 10000 32 (.agg (z00 a).toArray) (.agg (z00 b).toArray)).run Tryz.prog w=.ok (decide (a=b)) w:=by
  rw [z1C ha,z1C hb,HX.zb2]
  congr 1
  by_cases e:a=b
  · subst e
    simp
  · rw [decide_eq_false e]
    refine Bool.eq_false_iff.2 fun h=>e ?_
    have h':∀ i∈List.range 32,FNC a i=FNC b i:=fun i hi=>by simpa using List.all_eq_true.1 h i hi
    have h2:LST (FNC a)=LST (FNC b):=by
      unfold LST
      exact List.map_congr_left fun i hi=>by rw [h' i hi]
    rwa [z6r ha,z6r hb] at h2
theorem z1E {ops:Array Oper} {rest:List Oper} {o:Oper} {a:Act} {w:World} {Q:Exit→Act→World→Prop} (hw:Region.wanted o (yielded ops a.tmps)=true) (ty:TypeId) (x:Operand) (ho:o.op=.load ty x) (n:Nat) (e:TypeId)
    (b:Nat) (hx:a.eval x=.pointer (some ⟨b,0,none⟩)) (t:TypeId) (cs:Array Value) (fr:Nat × Nat) (hb:w.heap[b]?=some (.cells cs t fr)) (hu:Tryz.prog.underlying ty=some (.array n e)) (hi:(Tryz.prog.info? ty).map (·.size)=some cs.size)
    (h:wpList Tryz.prog ops Q rest (a.put o.dst (.agg cs)) w):wpList Tryz.prog ops Q (o :: rest) a w:=by
  simp only [wpList]
  rw [if_pos hw]
  exact .inl (wp_load_row ty x ho b hx t cs fr (.array n e) hb hu rfl hi h)
def UNDA (d:Int) (n k:Nat) (l root:List Int):Int:=if (BAGA d n k l).1=0∧(BAGA d n k l).2=root then 0 else 80
set_option maxHeartbeats 4000000 in
theorem z4s (d:Int) (n:Nat) (hn:n<2 ^ 64) (a:Option Addr) (k c:Nat) (l root:List Int) (hroot:IsH root) (w:World) (hF:Flat w a k l) (hX:HX.Tabled w):
    Calls Tryz.prog 29 #[.int .i64 d,.int .u64 (n:Int),.slice a k c,.agg (z00 root).toArray] w fun e w'=>e=.returned (.int .i64 (UNDA d n k l root))∧Below w.heap.size w w':=by
  have R0:Aside (Below w.heap.size w (w.alloc (.cells (z00 root).toArray 32))∧Has (w.alloc (.cells (z00 root).toArray 32)) w.heap.size (z00 root).toArray 32):=⟨(Below.refl _ _).alloc (Nat.le_refl _) _,Has.new _ _ _⟩
  have cB:=zgE d n hn a k c l (w.alloc (.cells (z00 root).toArray 32)) (hF.below R0.out.1) (hX.below R0.out.1)
  have hI:=zfD (d:=d) (n:=n) (k:=k) (l:=l)
  have r32:=hroot.1
  have y32:=hI.1
  clear hF hX hn
  have HU:Aside (UNDA d n k l root=if (BAGA d n k l).1=0∧(BAGA d n k l).2=root then 0 else 80):=rfl
  generalize UNDA d n k l root=U at *
  generalize BAGA d n k l=B at *
  obtain ⟨E,Y⟩:=B
  dsimp only at *
  have HV:Aside ((E=0→Y=root→U=0)∧(¬ Y=root→U=80)∧(¬ E=0→U=80)):=⟨fun h1 h2=>HU.out.trans (if_pos ⟨h1,h2⟩),fun h=>HU.out.trans (if_neg fun g=>h g.2),fun h=>HU.out.trans (if_neg fun g=>h g.1)⟩
  clear HU
  go_enter Tryz.func29,Tryz.ntmps29
  go_upto_region 1 with fail
  generalize w.alloc (.cells (z00 root).toArray 32)=W0 at *
  go_wp2_with fail
  refine cB.mono ?_
  rintro e w1 ⟨rfl,hb⟩
  clear cB
  have R1:Aside (Below w.heap.size w (w1.alloc (.cells (z00 Y).toArray 32))∧Has (w1.alloc (.cells (z00 Y).toArray 32)) w.heap.size (z00 root).toArray 32∧Has (w1.alloc (.cells (z00 Y).toArray 32)) w1.heap.size (z00 Y).toArray 32):=⟨(R0.out.1.trans (hb.mono R0.out.1.size)).alloc (R0.out.1.trans (hb.mono R0.out.1.size)).size _,(R0.out.2.keep hb).alloc _,Has.new _ _ _⟩
  clear hb R0
  go_upto_region 2 with (first
    | (refine wpList_store_row rfl 32 (.tmp 9) (.tmp 16) rfl _ _ rfl rfl 32 _ (Has.new w1 _ _) (z08 y32) (by simp [z00,y32]) (z0l Y) ?_;rw [World.setRow_alloc_new])
    | fail)
  generalize w1.alloc (.cells (z00 Y).toArray 32)=W1 at *
  generalize w1.heap.size=b9 at *
  clear w1 W0
  have hb:=R1.out.1
  have h7:=R1.out.2.1
  have h9:=R1.out.2.2
  clear R1
  by_cases hE:E=0
  · subst hE
    have hq:=zgF hI hroot
    by_cases hY:Y=root
    · have HY:Aside (Y=root):=hY
      rw [decide_eq_true hY] at hq
      clear hI hroot hY
      go_wp2_with (first
        | (refine z1E (by rfl) 32 (.tmp 9) rfl 32 5 b9 rfl 32 (z00 Y).toArray (0,0) h9 Tryz.underlying32 (z08 y32) ?_)
        | (refine z1E (by rfl) 32 (.tmp 7) rfl 32 5 w.heap.size rfl 32 (z00 root).toArray (0,0) h7 Tryz.underlying32 (z08 r32) ?_)
        | fail)
      go_ret
      exact ⟨by rw [HV.out.1 (by simp) HY.out];rfl,hb⟩
    · have HY:Aside (¬ Y=root):=hY
      rw [decide_eq_false hY] at hq
      clear hI hroot hY
      go_wp2_with (first
        | (refine z1E (by rfl) 32 (.tmp 9) rfl 32 5 b9 rfl 32 (z00 Y).toArray (0,0) h9 Tryz.underlying32 (z08 y32) ?_)
        | (refine z1E (by rfl) 32 (.tmp 7) rfl 32 5 w.heap.size rfl 32 (z00 root).toArray (0,0) h7 Tryz.underlying32 (z08 r32) ?_)
        | fail)
      go_ret
      exact ⟨by rw [HV.out.2.1 HY.out];rfl,hb⟩
  · have HE:Aside (¬ E=0):=hE
    clear hI hroot h7 h9
    go_wp2_with fail
    go_ret
    exact ⟨by rw [HV.out.2.2 HE.out];rfl,hb⟩
end Go.Proofs.YthjeeblddipiiaaGreatDoor

namespace Go.Proofs.YthjeeblddipiiaaGreatDoor
open Go.RowKit
def LG (l:List Int) (n:Nat):Nat→Nat→Int→Int × Int × Int
  | 0,_,_=>(0,0,10)
  | f+1,k,x=>if k=n then (0,0,11) else if 128≤l.getD k 0 then LG l n f (k+1) (x+l.getD k 0 % 128*128 ^ k)
    else if k=9∧1<l.getD k 0 then (0,0,10) else if l.getD k 0=0∧0<k then (0,0,12) else (x+l.getD k 0*128 ^ k,(k:Int)+1,0)
theorem zcJ {l:List Int} {n f k:Nat} {x:Int} (h:k=n):LG l n (f+1) k x=(0,0,11):=by
  show (if k=n then _ else _)=_
  rw [if_pos h]
theorem z6s {l:List Int} {n f k:Nat} {x:Int} (h:k≠n) (hc:128≤l.getD k 0):LG l n (f+1) k x=LG l n f (k+1) (x+l.getD k 0 % 128*128 ^ k):=by
  show (if k=n then _ else _)=_
  rw [if_neg h,if_pos hc]
theorem z8m {l:List Int} {n f k:Nat} {x:Int} (h:k≠n) (hc:¬ 128≤l.getD k 0):LG l n (f+1) k x=if k=9∧1<l.getD k 0 then (0,0,10) else if l.getD k 0=0∧0<k then (0,0,12) else (x+l.getD k 0*128 ^ k,(k:Int)+1,0):=by
  show (if k=n then _ else _)=_
  rw [if_neg h,if_neg hc]
theorem pow7 (k:Nat):(2:Nat) ^ (7*k)=128 ^ k:=by rw [Nat.pow_mul]
theorem z4t (L k:Nat):SHL L (7*(k:Int))=L*128 ^ k % 2 ^ 64:=by
  unfold SHL
  rw [if_neg (by omega),show (7*(k:Int)).toNat=7*k by omega,pow7]
theorem zcK (L k:Nat):SHR L (7*(k:Int))=L / 128 ^ k:=by
  unfold SHR
  rw [if_neg (by omega),show (7*(k:Int)).toNat=7*k by omega,pow7]
theorem z50 {L k:Nat} (hL:L<128) (hk:k≤8):L*128 ^ k % 2 ^ 64=L*128 ^ k:=by
  have h:=Nat.pow_le_pow_right (n:=128) (by decide) hk
  have h2:L*128 ^ k≤127*128 ^ 8:=Nat.mul_le_mul (by omega) h
  exact Nat.mod_eq_of_lt (Nat.lt_of_le_of_lt h2 (by decide))
theorem zb7 {L k:Nat} (hL:L<128) (hk:k≤9):L*128 ^ k % 2 ^ 64 / 128 ^ k=if k=9 then L % 2 else L:=by
  by_cases h:k=9
  · subst h
    rw [if_pos rfl]
    omega
  · rw [if_neg h,z50 hL (by omega),Nat.mul_div_cancel _ (Nat.pow_pos (by decide))]
theorem z8n {x L k:Nat} (hx:x<128 ^ k) (hL:L<128) (hk:k≤8):bits .or .u64 (x:Int) ((L*128 ^ k % 2 ^ 64:Nat):Int)=((x+L*128 ^ k:Nat):Int):=by
  have h8:=Nat.pow_le_pow_right (n:=128) (by decide) hk
  have hx2:x<2 ^ 64:=Nat.lt_of_lt_of_le hx (Nat.le_trans h8 (by decide))
  rw [z5r hx2 (Nat.mod_lt _ (by decide)),z50 hL hk,Nat.or_comm,nat_join (7*k) _ x (by rw [pow7];exact Nat.mul_mod_left _ _) (by rw [pow7];exact hx),Nat.add_comm]
theorem zcL {x L:Nat} (hx:x<128 ^ 9) (hL:L<2):bits .or .u64 (x:Int) ((L*128 ^ 9 % 2 ^ 64:Nat):Int)=((x+L*128 ^ 9:Nat):Int):=by
  have h1:L*128 ^ 9 % 2 ^ 64=L*128 ^ 9:=Nat.mod_eq_of_lt (by omega)
  rw [z5r (Nat.lt_of_lt_of_le hx (by decide)) (Nat.mod_lt _ (by decide)),h1,Nat.or_comm,nat_join (7*9) _ x (by omega) (by omega),Nat.add_comm]
def Gath (l:List Int) (n k:Nat) (y:Int) (R:Int × Int × Int):Prop:=∃ x:Nat,LG l n (10 - k) k (x:Int)=R∧(k≤9→y=(x:Int)∧x<128 ^ k)
theorem Gath.start (l:List Int) (n:Nat):Gath l n 0 0 (LG l n 10 0 0):=⟨0,rfl,fun _=>⟨rfl,by decide⟩⟩
theorem Gath.next {l:List Int} {n k:Nat} {y v p:Int} {R:Int × Int × Int} (A:Gath l n k y R) (hk:k≤9) (hkn:k≠n) (hv:l.getD k 0=v) (h0:128≤v)
    (hp:p=((SHL (v % 128).toNat (7*(k:Int)):Nat):Int)):Gath l n (k+1) (bits .or .u64 y p) R:=by
  obtain ⟨x,hx,hy⟩:=A
  obtain ⟨rfl,hlt⟩:=hy hk
  obtain ⟨L,hL⟩:∃ L:Nat,v % 128=(L:Int):=⟨(v % 128).toNat,by omega⟩
  rw [show 10 - k=10 - (k+1)+1 by omega,z6s hkn (by rw [hv];exact h0),hv,hL] at hx
  have hL128:L<128:=by omega
  rw [hL,Int.toNat_natCast,z4t] at hp
  refine ⟨x+L*128 ^ k,?_,fun h=>?_⟩
  · rw [← hx]
    congr 1
  · rw [hp,z8n hlt hL128 (by omega)]
    refine ⟨rfl,?_⟩
    have:L*128 ^ k≤127*128 ^ k:=Nat.mul_le_mul_right _ (by omega)
    rw [Nat.pow_succ]
    omega
theorem Gath.hit {l:List Int} {n k:Nat} {y v:Int} {R:Int × Int × Int} (A:Gath l n k y R) (hk:k≤9) (hkn:k≠n) (hv:l.getD k 0=v) (h1:¬ 128≤v):
    R=if k=9∧1<v then (0,0,10) else if v=0∧0<k then (0,0,12) else (y+v*128 ^ k,(k:Int)+1,0):=by
  obtain ⟨x,hx,hy⟩:=A
  obtain ⟨rfl,hlt⟩:=hy hk
  rw [show 10 - k=9 - k+1 by omega,z8m hkn (by rw [hv];exact h1),hv] at hx
  exact hx.symm
theorem Gath.val {l:List Int} {n k:Nat} {y v p:Int} {R:Int × Int × Int} (A:Gath l n k y R) (hk:k≤9) (h0:0≤v) (h1:¬ 128≤v) (h9:¬ (k=9∧1<v))
    (hp:p=((SHL (v % 128).toNat (7*(k:Int)):Nat):Int)):bits .or .u64 y p=y+v*128 ^ k:=by
  obtain ⟨x,_,hy⟩:=A
  obtain ⟨rfl,hlt⟩:=hy hk
  obtain ⟨L,rfl⟩:∃ L:Nat,v=(L:Int):=⟨v.toNat,by omega⟩
  rw [show (((L:Int) % 128).toNat)=L by omega,z4t] at hp
  by_cases h:k=9
  · subst h
    rw [hp,zcL hlt (by omega)]
    simp
  · rw [hp,z8n hlt (by omega) (by omega)]
    simp
theorem z6t {v p q:Int} {k:Nat} (hk:k≤9) (h0:0≤v) (h1:¬ 128≤v) (hp:p=((SHL (v % 128).toNat (7*(k:Int)):Nat):Int)) (hq:q=((SHR p.toNat (7*(k:Int)):Nat):Int)):
    (q != v % 128)=decide (k=9∧1<v):=by
  obtain ⟨L,rfl⟩:∃ L:Nat,v=(L:Int):=⟨v.toNat,by omega⟩
  rw [show (((L:Int) % 128).toNat)=L by omega,z4t] at hp
  rw [hp,Int.toNat_natCast,zcK,zb7 (by omega) hk] at hq
  rw [hq,Bool.eq_iff_iff,bne_iff_ne,decide_eq_true_iff]
  split <;> omega
set_option maxHeartbeats 2000000 in
theorem zb8 (b off n c:Nat) (l:List Int) (R:Int × Int × Int) (r1 r2 r3:Int) (hR:Aside (LG l n 10 0 0=R∧R=(r1,r2,r3))) (w:World) (hB:Bytes w (some ⟨b,off,none⟩) n l) (h0:0<n) (hn:(n:Int)<10) (hcap:(n:Int)≤(c:Int)) (hmax:n≤140737488355328):
    Calls Tryz.prog 96 #[.slice (some ⟨b,off,none⟩) n c] w fun e w'=>e=.returned (.tuple #[.int .u64 r1,.int .i64 r2,.int .i64 r3])∧w=w':=by
  obtain ⟨b',off',e,_,hc0⟩:=hB.2.1 h0
  simp only [Option.some.injEq,Addr.mk.injEq] at e
  obtain ⟨rfl,rfl,_⟩:=e
  have HC:Aside ((∀ i,i<n→w.cell? ⟨b,off+i,none⟩=some (.int .u8 (l.getD i 0)))∧∀ i,0≤l.getD i 0∧l.getD i 0≤255):=⟨hc0,hB.get⟩
  have hcap0:0<(c:Int):=by omega
  clear hB hc0
  go_enter Tryz.func96,Tryz.ntmps96
  go_wp2
  go_loop [5,16] (fun s5 s16=>∃ (k:Nat) (y:Int),(k:Int)≤(n:Int)∧Aside (Gath l n k y R)∧s5=.int .u64 y∧s16=.int .i64 k) (fun _ i=>n - (intOf i).toNat)
  case atStart=>exact ⟨0,0,by omega,hR.out.1 ▸ Gath.start l n,rfl,rfl⟩
  case round=>
    obtain ⟨k,y,hk,A,rfl,rfl⟩:=hrel
    by_cases hlt:(k:Int)<(n:Int)
    · have hc := HC.out.1 k (by omega)
      have hcb:=HC.out.2 k
      generalize hv:l.getD k 0=v at hc hcb
      have Hv:Aside (l.getD k 0=v):=hv
      clear hv
      have hv0:=hcb.1
      have hv1:=hcb.2
      clear hcb
      obtain ⟨p,hp⟩:∃ p:Int,p=((SHL (v % 128).toNat (7*(k:Int)):Nat):Int):=⟨_,rfl⟩
      have hpl:0≤p∧p<2 ^ 64:=by
        have:=z7C (show (v % 128).toNat<2 ^ 64 by omega) (7*(k:Int))
        omega
      have c1:∀ w,Calls Tryz.prog 108 #[.int .u64 (v % 128),.int .i64 (7*(k:Int))] w fun e w'=>e=.returned (.int .u64 p)∧w=w':=fun w=>by
        have h:=z7H (v % 128).toNat (7*(k:Int)) (by omega) (by omega) (by omega) w
        rw [← hp,Int.toNat_of_nonneg (by omega)] at h
        exact h
      by_cases h128:128≤v
      · have HP:Aside (p=((SHL (v % 128).toNat (7*(k:Int)):Nat):Int)):=hp
        clear hp hpl
        go_wp2_with fail
        refine (c1 _).mono ?_
        rintro e w' ⟨rfl,rfl⟩
        go_wp2
        go_round
        case rel=>exact ⟨k+1,_,by omega,A.out.next (by omega) (by omega) Hv.out h128 HP.out,rfl,by go_num⟩
        case measure=>simp [intOf];omega
      · obtain ⟨q,hq⟩:∃ q:Int,q=((SHR p.toNat (7*(k:Int)):Nat):Int):=⟨_,rfl⟩
        have c2:∀ w,Calls Tryz.prog 109 #[.int .u64 p,.int .i64 (7*(k:Int))] w fun e w'=>e=.returned (.int .u64 q)∧w=w':=fun w=>by
          have h:=z2B p.toNat (7*(k:Int)) (by omega) (by omega) (by omega) w
          rw [← hq,Int.toNat_of_nonneg hpl.1] at h
          exact h
        have hs:=z6t (show k≤9 by omega) hv0 h128 hp hq
        have hit:=A.out.hit (by omega) (by omega) Hv.out h128
        rw [hR.out.2] at hit
        have hval:=fun h9=>A.out.val (by omega) hv0 h128 h9 hp
        clear hp hpl hq
        by_cases hr:k=9∧1<v
        · rw [if_pos hr] at hit
          simp only [Prod.mk.injEq] at hit
          obtain ⟨rfl,rfl,rfl⟩:=hit
          have hs':(q != v % 128)=true:=by rw [hs];simp [hr]
          clear hs hval hr
          go_wp2_with fail
          refine (c1 _).mono ?_
          rintro e w' ⟨rfl,rfl⟩
          go_wp2_with fail
          refine (c2 _).mono ?_
          rintro e w' ⟨rfl,rfl⟩
          go_wp2
          go_ret3
          exact ⟨rfl,rfl⟩
        · rw [if_neg hr] at hit
          have hs':(q != v % 128)=false:=by rw [hs];simp only [decide_eq_false_iff_not];exact hr
          have hval':=hval hr
          clear hs hval hr
          by_cases hz:v=0∧0<k
          · rw [if_pos hz] at hit
            simp only [Prod.mk.injEq] at hit
            obtain ⟨rfl,rfl,rfl⟩:=hit
            obtain ⟨rfl,hk0⟩:=hz
            have hk0':0<(k:Int):=by omega
            clear hval'
            go_wp2_with fail
            refine (c1 _).mono ?_
            rintro e w' ⟨rfl,rfl⟩
            go_wp2_with fail
            refine (c2 _).mono ?_
            rintro e w' ⟨rfl,rfl⟩
            go_wp2
            go_ret3
            exact ⟨rfl,rfl⟩
          · rw [if_neg hz] at hit
            simp only [Prod.mk.injEq] at hit
            obtain ⟨e1,rfl,rfl⟩:=hit
            rw [← e1] at hval'
            have HE:Aside (bits .or .u64 y p=r1):=hval'
            clear hval' e1
            by_cases hv00:v=0
            · have hk0:¬ 0<(k:Int):=by omega
              have hvb:(v == 0)=true:=by simp [hv00]
              clear hz hv00
              go_wp2_with fail
              refine (c1 _).mono ?_
              rintro e w' ⟨rfl,rfl⟩
              go_wp2_with fail
              refine (c2 _).mono ?_
              rintro e w' ⟨rfl,rfl⟩
              go_wp2
              go_ret3
              exact ⟨by rw [← HE.out];rfl,rfl⟩
            · have hvb:(v == 0)=false:=by simp [hv00]
              clear hz hv00
              go_wp2_with fail
              refine (c1 _).mono ?_
              rintro e w' ⟨rfl,rfl⟩
              go_wp2_with fail
              refine (c2 _).mono ?_
              rintro e w' ⟨rfl,rfl⟩
              go_wp2
              go_ret3
              exact ⟨by rw [← HE.out];rfl,rfl⟩
    · have hk':k=n:=by omega
      subst hk'
      have hit:=A.out
      obtain ⟨x,hx,_⟩:=hit
      rw [show 10 - k=9 - k+1 by omega,zcJ rfl,hR.out.2] at hx
      simp only [Prod.mk.injEq] at hx
      obtain ⟨rfl,rfl,rfl⟩:=hx
      clear A
      go_wp2
      go_ret3
      exact ⟨rfl,rfl⟩
set_option maxHeartbeats 2000000 in
theorem zcM (b off n c:Nat) (l:List Int) (R:Int × Int × Int) (r1 r2 r3:Int) (hR:Aside (LG l n 10 0 0=R∧R=(r1,r2,r3))) (w:World) (hB:Bytes w (some ⟨b,off,none⟩) n l) (h0:0<n) (hn:10<(n:Int)) (hcap:(n:Int)≤(c:Int)) (hmax:n≤140737488355328):
    Calls Tryz.prog 96 #[.slice (some ⟨b,off,none⟩) n c] w fun e w'=>e=.returned (.tuple #[.int .u64 r1,.int .i64 r2,.int .i64 r3])∧w=w':=by
  obtain ⟨b',off',e,_,hc0⟩:=hB.2.1 h0
  simp only [Option.some.injEq,Addr.mk.injEq] at e
  obtain ⟨rfl,rfl,_⟩:=e
  have HC:Aside ((∀ i,i<n→w.cell? ⟨b,off+i,none⟩=some (.int .u8 (l.getD i 0)))∧∀ i,0≤l.getD i 0∧l.getD i 0≤255):=⟨hc0,hB.get⟩
  have hcap0:0<(c:Int):=by omega
  have h10c:(10:Int)≤(c:Int):=by omega
  clear hB hc0
  go_enter Tryz.func96,Tryz.ntmps96
  go_wp2
  go_loop [5,16] (fun s5 s16=>∃ (k:Nat) (y:Int),(k:Int)≤10∧Aside (Gath l n k y R)∧s5=.int .u64 y∧s16=.int .i64 k) (fun _ i=>10 - (intOf i).toNat)
  case atStart=>exact ⟨0,0,by omega,hR.out.1 ▸ Gath.start l n,rfl,rfl⟩
  case round=>
    obtain ⟨k,y,hk,A,rfl,rfl⟩:=hrel
    by_cases hlt:(k:Int)<10
    · have hc := HC.out.1 k (by omega)
      have hcb:=HC.out.2 k
      generalize hv:l.getD k 0=v at hc hcb
      have Hv:Aside (l.getD k 0=v):=hv
      clear hv
      have hv0:=hcb.1
      have hv1:=hcb.2
      clear hcb
      obtain ⟨p,hp⟩:∃ p:Int,p=((SHL (v % 128).toNat (7*(k:Int)):Nat):Int):=⟨_,rfl⟩
      have hpl:0≤p∧p<2 ^ 64:=by
        have:=z7C (show (v % 128).toNat<2 ^ 64 by omega) (7*(k:Int))
        omega
      have c1:∀ w,Calls Tryz.prog 108 #[.int .u64 (v % 128),.int .i64 (7*(k:Int))] w fun e w'=>e=.returned (.int .u64 p)∧w=w':=fun w=>by
        have h:=z7H (v % 128).toNat (7*(k:Int)) (by omega) (by omega) (by omega) w
        rw [← hp,Int.toNat_of_nonneg (by omega)] at h
        exact h
      by_cases h128:128≤v
      · have HP:Aside (p=((SHL (v % 128).toNat (7*(k:Int)):Nat):Int)):=hp
        clear hp hpl
        go_wp2_with fail
        refine (c1 _).mono ?_
        rintro e w' ⟨rfl,rfl⟩
        go_wp2
        go_round
        case rel=>exact ⟨k+1,_,by omega,A.out.next (by omega) (by omega) Hv.out h128 HP.out,rfl,by go_num⟩
        case measure=>simp [intOf];omega
      · obtain ⟨q,hq⟩:∃ q:Int,q=((SHR p.toNat (7*(k:Int)):Nat):Int):=⟨_,rfl⟩
        have c2:∀ w,Calls Tryz.prog 109 #[.int .u64 p,.int .i64 (7*(k:Int))] w fun e w'=>e=.returned (.int .u64 q)∧w=w':=fun w=>by
          have h:=z2B p.toNat (7*(k:Int)) (by omega) (by omega) (by omega) w
          rw [← hq,Int.toNat_of_nonneg hpl.1] at h
          exact h
        have hs:=z6t (show k≤9 by omega) hv0 h128 hp hq
        have hit:=A.out.hit (by omega) (by omega) Hv.out h128
        rw [hR.out.2] at hit
        have hval:=fun h9=>A.out.val (by omega) hv0 h128 h9 hp
        clear hp hpl hq
        by_cases hr:k=9∧1<v
        · rw [if_pos hr] at hit
          simp only [Prod.mk.injEq] at hit
          obtain ⟨rfl,rfl,rfl⟩:=hit
          have hs':(q != v % 128)=true:=by rw [hs];simp [hr]
          clear hs hval hr
          go_wp2_with fail
          refine (c1 _).mono ?_
          rintro e w' ⟨rfl,rfl⟩
          go_wp2_with fail
          refine (c2 _).mono ?_
          rintro e w' ⟨rfl,rfl⟩
          go_wp2
          go_ret3
          exact ⟨rfl,rfl⟩
        · rw [if_neg hr] at hit
          have hs':(q != v % 128)=false:=by rw [hs];simp only [decide_eq_false_iff_not];exact hr
          have hval':=hval hr
          clear hs hval hr
          by_cases hz:v=0∧0<k
          · rw [if_pos hz] at hit
            simp only [Prod.mk.injEq] at hit
            obtain ⟨rfl,rfl,rfl⟩:=hit
            obtain ⟨rfl,hk0⟩:=hz
            have hk0':0<(k:Int):=by omega
            clear hval'
            go_wp2_with fail
            refine (c1 _).mono ?_
            rintro e w' ⟨rfl,rfl⟩
            go_wp2_with fail
            refine (c2 _).mono ?_
            rintro e w' ⟨rfl,rfl⟩
            go_wp2
            go_ret3
            exact ⟨rfl,rfl⟩
          · rw [if_neg hz] at hit
            simp only [Prod.mk.injEq] at hit
            obtain ⟨e1,rfl,rfl⟩:=hit
            rw [← e1] at hval'
            have HE:Aside (bits .or .u64 y p=r1):=hval'
            clear hval' e1
            by_cases hv00:v=0
            · have hk0:¬ 0<(k:Int):=by omega
              have hvb:(v == 0)=true:=by simp [hv00]
              clear hz hv00
              go_wp2_with fail
              refine (c1 _).mono ?_
              rintro e w' ⟨rfl,rfl⟩
              go_wp2_with fail
              refine (c2 _).mono ?_
              rintro e w' ⟨rfl,rfl⟩
              go_wp2
              go_ret3
              exact ⟨by rw [← HE.out];rfl,rfl⟩
            · have hvb:(v == 0)=false:=by simp [hv00]
              clear hz hv00
              go_wp2_with fail
              refine (c1 _).mono ?_
              rintro e w' ⟨rfl,rfl⟩
              go_wp2_with fail
              refine (c2 _).mono ?_
              rintro e w' ⟨rfl,rfl⟩
              go_wp2
              go_ret3
              exact ⟨by rw [← HE.out];rfl,rfl⟩
    · have hk':k=10:=by omega
      subst hk'
      have hit:=A.out
      obtain ⟨x,hx,_⟩:=hit
      rw [show 10 - 10=0 by omega,hR.out.2] at hx
      have hx:(0,0,10)=(r1,r2,r3):=hx
      simp only [Prod.mk.injEq] at hx
      obtain ⟨rfl,rfl,rfl⟩:=hx
      clear A
      go_wp2
      go_ret3
      exact ⟨rfl,rfl⟩
set_option maxHeartbeats 2000000 in
theorem zex (b off c:Nat) (l:List Int) (R:Int × Int × Int) (r1 r2 r3:Int) (hR:Aside (LG l 10 10 0 0=R∧R=(r1,r2,r3))) (w:World) (hB:Bytes w (some ⟨b,off,none⟩) 10 l) (hcap:(10:Int)≤(c:Int)):
    Calls Tryz.prog 96 #[.slice (some ⟨b,off,none⟩) 10 c] w fun e w'=>e=.returned (.tuple #[.int .u64 r1,.int .i64 r2,.int .i64 r3])∧w=w':=by
  obtain ⟨b',off',e,_,hc0⟩:=hB.2.1 (by decide)
  simp only [Option.some.injEq,Addr.mk.injEq] at e
  obtain ⟨rfl,rfl,_⟩:=e
  have HC:Aside ((∀ i,i<10→w.cell? ⟨b,off+i,none⟩=some (.int .u8 (l.getD i 0)))∧∀ i,0≤l.getD i 0∧l.getD i 0≤255):=⟨hc0,hB.get⟩
  have hcap0:0<(c:Int):=by omega
  clear hB hc0
  go_enter Tryz.func96,Tryz.ntmps96
  go_wp2
  go_loop [5,16] (fun s5 s16=>∃ (k:Nat) (y:Int),(k:Int)≤10∧Aside (Gath l 10 k y R)∧s5=.int .u64 y∧s16=.int .i64 k) (fun _ i=>10 - (intOf i).toNat)
  case atStart=>exact ⟨0,0,by omega,hR.out.1 ▸ Gath.start l 10,rfl,rfl⟩
  case round=>
    obtain ⟨k,y,hk,A,rfl,rfl⟩:=hrel
    by_cases hlt:(k:Int)<10
    · have hc := HC.out.1 k (by omega)
      have hcb:=HC.out.2 k
      generalize hv:l.getD k 0=v at hc hcb
      have Hv:Aside (l.getD k 0=v):=hv
      clear hv
      have hv0:=hcb.1
      have hv1:=hcb.2
      clear hcb
      obtain ⟨p,hp⟩:∃ p:Int,p=((SHL (v % 128).toNat (7*(k:Int)):Nat):Int):=⟨_,rfl⟩
      have hpl:0≤p∧p<2 ^ 64:=by
        have:=z7C (show (v % 128).toNat<2 ^ 64 by omega) (7*(k:Int))
        omega
      have c1:∀ w,Calls Tryz.prog 108 #[.int .u64 (v % 128),.int .i64 (7*(k:Int))] w fun e w'=>e=.returned (.int .u64 p)∧w=w':=fun w=>by
        have h:=z7H (v % 128).toNat (7*(k:Int)) (by omega) (by omega) (by omega) w
        rw [← hp,Int.toNat_of_nonneg (by omega)] at h
        exact h
      by_cases h128:128≤v
      · have HP:Aside (p=((SHL (v % 128).toNat (7*(k:Int)):Nat):Int)):=hp
        clear hp hpl
        go_wp2_with fail
        refine (c1 _).mono ?_
        rintro e w' ⟨rfl,rfl⟩
        go_wp2
        go_round
        case rel=>exact ⟨k+1,_,by omega,A.out.next (by omega) (by omega) Hv.out h128 HP.out,rfl,by go_num⟩
        case measure=>simp [intOf];omega
      · obtain ⟨q,hq⟩:∃ q:Int,q=((SHR p.toNat (7*(k:Int)):Nat):Int):=⟨_,rfl⟩
        have c2:∀ w,Calls Tryz.prog 109 #[.int .u64 p,.int .i64 (7*(k:Int))] w fun e w'=>e=.returned (.int .u64 q)∧w=w':=fun w=>by
          have h:=z2B p.toNat (7*(k:Int)) (by omega) (by omega) (by omega) w
          rw [← hq,Int.toNat_of_nonneg hpl.1] at h
          exact h
        have hs:=z6t (show k≤9 by omega) hv0 h128 hp hq
        have hit:=A.out.hit (by omega) (by omega) Hv.out h128
        rw [hR.out.2] at hit
        have hval:=fun h9=>A.out.val (by omega) hv0 h128 h9 hp
        clear hp hpl hq
        by_cases hr:k=9∧1<v
        · rw [if_pos hr] at hit
          simp only [Prod.mk.injEq] at hit
          obtain ⟨rfl,rfl,rfl⟩:=hit
          have hs':(q != v % 128)=true:=by rw [hs];simp [hr]
          clear hs hval hr
          go_wp2_with fail
          refine (c1 _).mono ?_
          rintro e w' ⟨rfl,rfl⟩
          go_wp2_with fail
          refine (c2 _).mono ?_
          rintro e w' ⟨rfl,rfl⟩
          go_wp2
          go_ret3
          exact ⟨rfl,rfl⟩
        · rw [if_neg hr] at hit
          have hs':(q != v % 128)=false:=by rw [hs];simp only [decide_eq_false_iff_not];exact hr
          have hval':=hval hr
          clear hs hval hr
          by_cases hz:v=0∧0<k
          · rw [if_pos hz] at hit
            simp only [Prod.mk.injEq] at hit
            obtain ⟨rfl,rfl,rfl⟩:=hit
            obtain ⟨rfl,hk0⟩:=hz
            have hk0':0<(k:Int):=by omega
            clear hval'
            go_wp2_with fail
            refine (c1 _).mono ?_
            rintro e w' ⟨rfl,rfl⟩
            go_wp2_with fail
            refine (c2 _).mono ?_
            rintro e w' ⟨rfl,rfl⟩
            go_wp2
            go_ret3
            exact ⟨rfl,rfl⟩
          · rw [if_neg hz] at hit
            simp only [Prod.mk.injEq] at hit
            obtain ⟨e1,rfl,rfl⟩:=hit
            rw [← e1] at hval'
            have HE:Aside (bits .or .u64 y p=r1):=hval'
            clear hval' e1
            by_cases hv00:v=0
            · have hk0:¬ 0<(k:Int):=by omega
              have hvb:(v == 0)=true:=by simp [hv00]
              clear hz hv00
              go_wp2_with fail
              refine (c1 _).mono ?_
              rintro e w' ⟨rfl,rfl⟩
              go_wp2_with fail
              refine (c2 _).mono ?_
              rintro e w' ⟨rfl,rfl⟩
              go_wp2
              go_ret3
              exact ⟨by rw [← HE.out];rfl,rfl⟩
            · have hvb:(v == 0)=false:=by simp [hv00]
              clear hz hv00
              go_wp2_with fail
              refine (c1 _).mono ?_
              rintro e w' ⟨rfl,rfl⟩
              go_wp2_with fail
              refine (c2 _).mono ?_
              rintro e w' ⟨rfl,rfl⟩
              go_wp2
              go_ret3
              exact ⟨by rw [← HE.out];rfl,rfl⟩
    · have hk':k=10:=by omega
      subst hk'
      have hit:=A.out
      obtain ⟨x,hx,_⟩:=hit
      rw [show 10 - 10=0 by omega,hR.out.2] at hx
      have hx:(0,0,10)=(r1,r2,r3):=hx
      simp only [Prod.mk.injEq] at hx
      obtain ⟨rfl,rfl,rfl⟩:=hx
      clear A
      go_wp2
      go_ret3
      exact ⟨rfl,rfl⟩
theorem zb9 (a:Option Addr) (c:Nat) (w:World):Calls Tryz.prog 96 #[.slice a 0 c] w fun e w'=>e=.returned (.tuple #[.int .u64 0,.int .i64 0,.int .i64 11])∧w=w':=by
  go_enter Tryz.func96,Tryz.ntmps96
  go_wp2
  refine wp_loop_rounds 1 ?_
  rw [rounds_succ]
  go_wp2
  go_ret3
  exact ⟨rfl,rfl⟩
theorem z6u (a:Option Addr) (n c:Nat) (l:List Int) (w:World) (hB:Bytes w a n l) (hcap:n≤c) (hmax:n≤140737488355328):
    Calls Tryz.prog 96 #[.slice a n c] w fun e w'=>e=.returned (.tuple #[.int .u64 (LG l n 10 0 0).1,.int .i64 (LG l n 10 0 0).2.1,.int .i64 (LG l n 10 0 0).2.2])∧w=w':=by
  rcases Nat.eq_zero_or_pos n with h | h
  · subst h
    exact zb9 a c w
  · obtain ⟨b,off,rfl,_,_⟩:=hB.2.1 h
    by_cases h10:(n:Int)<10
    · exact zb8 b off n c l _ _ _ _ ⟨rfl,rfl⟩ w hB h h10 (by omega) hmax
    · by_cases h10':n=10
      · subst h10'
        exact zex b off c l _ _ _ _ ⟨rfl,rfl⟩ w hB (by omega)
      · exact zcM b off n c l _ _ _ _ ⟨rfl,rfl⟩ w hB h (by omega) (by omega) hmax
end Go.Proofs.YthjeeblddipiiaaGreatDoor

namespace Go.Proofs.YthjeeblddipiiaaGreatDoor
open Go.RowKit
def VAL (d:Nat→Nat):Nat→Nat
  | 0=>0
  | m+1=>VAL d m+d m*128 ^ m
theorem z2k {d:Nat→Nat} (hd:∀ i,d i<128):∀ m,VAL d m<128 ^ m
  | 0=>by simp [VAL]
  | m+1=>by
    have:=z2k hd m
    have h2:d m*128 ^ m≤127*128 ^ m:=Nat.mul_le_mul_right _ (by have:=hd m;omega)
    simp only [VAL,Nat.pow_succ]
    omega
theorem z76 {d:Nat→Nat} (hd:∀ i,d i<128):∀ (m t i:Nat),i<m→(VAL d m+t*128 ^ m) / 128 ^ i % 128=d i
  | 0,_,_,h=>by omega
  | m + 1,t,i,h=>by
    have e:VAL d (m+1)+t*128 ^ (m+1)=VAL d m+(d m+t*128)*128 ^ m:=by
      simp only [VAL]
      rw [Nat.add_mul,Nat.pow_succ,Nat.mul_assoc,Nat.mul_comm 128,← Nat.add_assoc]
    rw [e]
    by_cases hi:i=m
    · subst hi
      rw [Nat.add_mul_div_right _ _ (Nat.pow_pos (by decide)),Nat.div_eq_of_lt (z2k hd i)]
      have:=hd i
      omega
    · exact z76 hd m _ i (by omega)
theorem zfE {d:Nat→Nat} (hd:∀ i,d i<128) (m t:Nat):(VAL d m+t*128 ^ m) / 128 ^ m=t:=by
  rw [Nat.add_mul_div_right _ _ (Nat.pow_pos (by decide)),Nat.div_eq_of_lt (z2k hd m),Nat.zero_add]
theorem za3 (X:Nat):∀ m,VAL (fun i=>X / 128 ^ i % 128) m=X % 128 ^ m
  | 0=>by simp [VAL,Nat.mod_one]
  | m+1=>by rw [VAL,za3 X m,Nat.mod_pow_succ,Nat.mul_comm]
theorem z1N {d e:Nat→Nat}:∀ m,(∀ i,i<m→d i=e i)→VAL d m=VAL e m
  | 0,_=>rfl
  | m+1,h=>by rw [VAL,VAL,z1N m (fun i hi=>h i (by omega)),h m (by omega)]
def DIG (l:List Int):Nat→Nat:=fun i=>(l.getD i 0 % 128).toNat
theorem zgG (l:List Int) (i:Nat):DIG l i<128:=by unfold DIG;omega
theorem zcN {l:List Int} {n:Nat}:∀ (m f:Nat),(∀ i,i<m→128≤l.getD i 0)→(∀ i,i<m→i≠n)→LG l n (f+m) 0 0=LG l n f m (VAL (DIG l) m:Nat)
  | 0,f,_,_=>rfl
  | m+1,f,h,hn=>by
    rw [show f+(m+1)=f+1+m by omega,zcN m (f+1) (fun i hi=>h i (by omega)) (fun i hi=>hn i (by omega)),z6s (hn m (by omega)) (h m (by omega))]
    congr 1
    simp only [VAL,DIG]
    rw [Int.natCast_add,Int.natCast_mul,Int.natCast_pow,Int.toNat_of_nonneg (by omega)]
    rfl
theorem z8o {l:List Int} {n:Nat}:∀ (f k:Nat) (x:Int),k≤n→(LG l n f k x).2.2=0→∃ m,k≤m∧m<k+f∧m<n∧(∀ i,k≤i→i<m→128≤l.getD i 0)∧¬ 128≤l.getD m 0∧¬ (m=9∧1<l.getD m 0)∧¬ (l.getD m 0=0∧0<m)
  | 0,k,x,_,h=>by simp [LG] at h
  | f + 1,k,x,hkn,h=>by
    by_cases h1:k=n
    · rw [zcJ h1] at h
      simp at h
    · by_cases h2:128≤l.getD k 0
      · rw [z6s h1 h2] at h
        obtain ⟨m,a,b,c,d,e,g,i⟩:=z8o f (k+1) _ (by omega) h
        refine ⟨m,by omega,by omega,c,fun j hj1 hj2=>?_,e,g,i⟩
        by_cases hj:j=k
        · rw [hj];exact h2
        · exact d j (by omega) hj2
      · rw [z8m h1 h2] at h
        by_cases h3:k=9∧1<l.getD k 0
        · rw [if_pos h3] at h
          simp at h
        · rw [if_neg h3] at h
          by_cases h4:l.getD k 0=0∧0<k
          · rw [if_pos h4] at h
            simp at h
          · exact ⟨k,Nat.le_refl _,by omega,by omega,fun j hj1 hj2=>by omega,h2,h3,h4⟩
theorem zf8 {l:List Int} {n m:Nat} (hm:m≤9) (hmn:m<n) (h:∀ i,i<m→128≤l.getD i 0) (h1:¬ 128≤l.getD m 0) (h2:¬ (m=9∧1<l.getD m 0)) (h3:¬ (l.getD m 0=0∧0<m)):
    LG l n 10 0 0=((VAL (DIG l) m:Nat)+l.getD m 0*128 ^ m,(m:Int)+1,0):=by
  rw [show 10=9 - m+1+m by omega,zcN m (9 - m+1) h (fun i hi=>by omega),z8m (by omega) h1,if_neg h2,if_neg h3]
theorem z77 {a b:List Int} {i:Nat} (h:i<a.length):(a ++ b).getD i 0=a.getD i 0:=by
  rw [List.getD_eq_getElem?_getD,List.getElem?_append_left h,← List.getD_eq_getElem?_getD]
theorem z78 {X i:Nat} (h:i<NTOP X):(z0h X).getD i 0=((X / 128 ^ i % 128+128:Nat):Int):=by
  unfold z0h
  rw [z77 (by rw [z23];exact h),List.getD_eq_getElem?_getD]
  simp [z1n,h]
theorem z5J (X:Nat):(z0h X).getD (NTOP X) 0=((X / 128 ^ NTOP X:Nat):Int):=by
  unfold z0h
  rw [List.getD_eq_getElem?_getD,List.getElem?_append_right (by rw [z23];exact Nat.le_refl _),z23]
  simp
theorem zey {X:Nat} (hX:X<2 ^ 64) (more:List Int) (n:Nat) (hn:n=NTOP X+1+more.length):LG (z0h X ++ more) n 10 0 0=((X:Int),(NTOP X:Int)+1,0):=by
  have hlen:=z0H X
  have hget:∀ i,i≤NTOP X→(z0h X ++ more).getD i 0=(z0h X).getD i 0:=fun i hi=>z77 (by omega)
  have htop:=hget (NTOP X) (Nat.le_refl _)
  rw [z5J] at htop
  have hlow:∀ i,i<NTOP X→(z0h X ++ more).getD i 0=((X / 128 ^ i % 128+128:Nat):Int):=fun i hi=>by rw [hget i (by omega),z78 hi]
  have h128:=z6i hX
  have h9:NTOP X=9→X / 128 ^ NTOP X<2:=fun h=>by rw [h];exact Nat.div_lt_of_lt_mul (Nat.lt_of_lt_of_le hX (by decide))
  have hpos:0<NTOP X→1≤X / 128 ^ NTOP X:=fun h=>by
    have:=z3S 9 X (NTOP X - 1) (by show NTOP X - 1<NTOP X;omega)
    rw [show NTOP X=NTOP X - 1+1 by omega,Nat.pow_succ,← Nat.div_div_eq_div_mul]
    omega
  have hv:VAL (DIG (z0h X ++ more)) (NTOP X)=X % 128 ^ NTOP X:=by
    rw [← za3]
    refine z1N _ fun i hi=>?_
    unfold DIG
    rw [hlow i hi]
    omega
  rw [zf8 (z3D X) (by omega) (fun i hi=>by rw [hlow i hi];omega) (by rw [htop];omega) (by rw [htop];omega) (by rw [htop];omega),htop,hv]
  have:=Nat.mod_add_div X (128 ^ NTOP X)
  rw [Nat.mul_comm] at this
  have e:(((X % 128 ^ NTOP X:Nat):Int)+((X / 128 ^ NTOP X:Nat):Int)*128 ^ NTOP X)=(X:Int):=by
    have h2:((X % 128 ^ NTOP X+X / 128 ^ NTOP X*128 ^ NTOP X:Nat):Int)=(X:Int):=by rw [this]
    rw [← h2,Int.natCast_add,Int.natCast_mul,Int.natCast_pow]
    rfl
  rw [e]
theorem zfF {l:List Int} {n:Nat} (hl:l.length=n) (hr:∀ i,0≤l.getD i 0∧l.getD i 0≤255) (h:(LG l n 10 0 0).2.2=0):
    ∃ Z m:Nat,Z<2 ^ 64∧m<n∧m≤9∧LG l n 10 0 0=((Z:Int),(m:Int)+1,0)∧NTOP Z=m∧z0h Z=l.take (m+1):=by
  obtain ⟨m,_,hm,hmn,hlow,h1,h2,h3⟩:=z8o 10 0 0 (by omega) h
  have hlow':∀ i,i<m→128≤l.getD i 0:=fun i hi=>hlow i (by omega) hi
  have hat:=zf8 (show m≤9 by omega) hmn hlow' h1 h2 h3
  obtain ⟨t,ht⟩:∃ t:Nat,l.getD m 0=(t:Int):=⟨(l.getD m 0).toNat,by have:=hr m;omega⟩
  have hd:=zgG l
  have hvl:=z2k hd m
  obtain ⟨Z,hZ⟩:∃ Z:Nat,Z=VAL (DIG l) m+t*128 ^ m:=⟨_,rfl⟩
  have hZ64:Z<2 ^ 64:=by
    by_cases h9:m=9
    · subst h9
      omega
    · have h8:=Nat.pow_le_pow_right (n:=128) (by decide) (show m≤8 by omega)
      have h5:t*128 ^ m≤127*128 ^ 8:=Nat.mul_le_mul (by omega) h8
      omega
  have htop:Z / 128 ^ m=t:=by rw [hZ,zfE hd]
  have hdig:∀ i,i<m→Z / 128 ^ i % 128=DIG l i:=fun i hi=>by rw [hZ,z76 hd m t i hi]
  have hN:NTOP Z=m:=by
    refine z9R hZ64 (fun i hi=>?_) (by rw [htop];omega)
    have ht1:1≤t:=by omega
    have h6:Z / 128 ^ i / 128 ^ (m - i)=t:=by rw [Nat.div_div_eq_div_mul,← Nat.pow_add,show i+(m - i)=m by omega,htop]
    have h7:128 ^ (m - i)≤Z / 128 ^ i:=by
      rcases Nat.lt_or_ge (Z / 128 ^ i) (128 ^ (m - i)) with h8 | h8
      · rw [Nat.div_eq_of_lt h8] at h6
        omega
      · exact h8
    have h8:=Nat.pow_le_pow_right (n:=128) (by decide) (show 1≤m - i by omega)
    omega
  refine ⟨Z,m,hZ64,hmn,by omega,?_,hN,?_⟩
  · rw [hat,ht,hZ,Int.natCast_add,Int.natCast_mul,Int.natCast_pow]
    rfl
  · apply List.ext_getElem?
    intro i
    by_cases hi:i<m+1
    · rw [List.getElem?_take_of_lt hi]
      have e1:(z0h Z)[i]?=some ((z0h Z).getD i 0):=by
        rw [List.getD_eq_getElem?_getD,List.getElem?_eq_getElem (by rw [z0H,hN];exact hi)]
        rfl
      have e2:l[i]?=some (l.getD i 0):=by
        rw [List.getD_eq_getElem?_getD,List.getElem?_eq_getElem (by omega)]
        rfl
      rw [e1,e2]
      congr 1
      by_cases him:i=m
      · subst him
        rw [← hN,z5J,hN,htop,ht]
      · rw [z78 (by omega),hdig i (by omega)]
        have:=hlow' i (by omega)
        have:=hr i
        unfold DIG
        omega
    · rw [List.getElem?_eq_none (by rw [z0H,hN];omega),List.getElem?_eq_none (by rw [List.length_take];omega)]
end Go.Proofs.YthjeeblddipiiaaGreatDoor
