/- Texts of ClashForks, one behind the other: ClashPrefixPlain, NumLongCalls. -/
import Derived.Test.YthpdlnbbbcgemaaGreatDoorClashForksP27
namespace Go.Proofs.YthpdlnbbbcgemaaGreatDoor
set_option maxRecDepth 100000
theorem z5R {h k:Nat} (hn:Node h k):(k+1)*2 ^ h≤4611686018427387904:=by
  have:=Nat.mul_le_mul_right (2 ^ h) (Nat.succ_le_of_lt hn.2)
  rw [← Nat.pow_add,show 62 - h+h=62 by have:=hn.1;omega] at this
  simpa using this
theorem z7K {h k:Nat} (hn:Node h k) (he:k % 2=0):SPAN 0 ((k+1)*2 ^ h)=SPAN 0 (k*2 ^ h) ++ [(h,k)]:=by
  have hb:=z5R hn
  have h1:k*2 ^ h≤(k+1)*2 ^ h:=Nat.mul_le_mul_right _ (Nat.le_succ _)
  refine (z7m ((z0Y (by omega) (Nat.zero_le _)).append ?_) ((ze7 (by omega)).snoc fun y _ hs=>?_)).symm
  · exact ⟨hn,rfl,rfl⟩
  · have h2:=hs.2.1
    have h3:=hs.2.2
    dsimp only at h3
    omega
def ODDS (k i:Nat):Prop:=∀ t,t<i→k / 2 ^ t % 2=1
def TRO:Nat→Nat→Nat
  | 0,_=>0
  | f+1,k=>if k % 2=1 then TRO f (k / 2)+1 else 0
theorem z5S (k t:Nat):k / 2 / 2 ^ t=k / 2 ^ (t+1):=by rw [Nat.div_div_eq_div_mul,Nat.pow_succ,Nat.mul_comm]
theorem z3z (k t:Nat):k / 2 ^ t / 2=k / 2 ^ (t+1):=by rw [Nat.div_div_eq_div_mul,Nat.pow_succ]
theorem ODDS.half {k i:Nat} (h:ODDS k (i+1)):ODDS (k / 2) i:=fun t ht=>by rw [z5S];exact h (t+1) (by omega)
theorem ODDS.one {k i:Nat} (h:ODDS k (i+1)):k % 2=1:=by simpa using h 0 (by omega)
theorem zdb:∀ {f k i:Nat},i≤f→ODDS k i→i≤TRO f k
  | _,_,0,_,_=>Nat.zero_le _
  | 0,_,i+1,h,_=>by omega
  | f+1,k,i+1,hi,ho=>by
    rw [TRO,if_pos ho.one]
    have:=zdb (f:=f) (k:=k / 2) (i:=i) (by omega) ho.half
    omega
theorem z98:∀ f k,TRO f k≤f
  | 0,_=>Nat.le_refl _
  | f+1,k=>by
    rw [TRO]
    have:=z98 f (k / 2)
    split <;> omega
theorem z99:∀ {f k:Nat},k<2 ^ f→ODDS k (TRO f k)∧k / 2 ^ TRO f k % 2=0
  | 0,k,h=>by
    obtain rfl:k=0:=by simpa using h
    exact ⟨fun t ht=>absurd ht (Nat.not_lt_zero _),by simp⟩
  | f + 1,k,h=>by
    rw [TRO]
    split
    · rename_i ho
      obtain ⟨h1,h2⟩:=z99 (f:=f) (k:=k / 2) (by rw [Nat.pow_succ] at h;omega)
      refine ⟨fun t ht=>?_,by rw [← z5S];exact h2⟩
      cases t with
      | zero=>simpa using ho
      | succ t=>rw [← z5S];exact h1 t (by omega)
    · exact ⟨fun t ht=>absurd ht (Nat.not_lt_zero _),by rw [Nat.pow_zero,Nat.div_one];omega⟩
theorem Node.odd_up {h k:Nat} (hn:Node h k) (ho:k % 2=1):Node (h+1) (k / 2):=by
  have h1:=hn.2
  have h2:62 - h≠0:=fun e=>by rw [e] at h1;simp at h1;omega
  obtain ⟨z,hz⟩:∃ z,62 - h=z+1:=⟨62 - h - 1,by omega⟩
  rw [hz,Nat.pow_succ] at h1
  exact ⟨by omega,by rw [show 62 - (h+1)=z by omega];omega⟩
theorem Node.ahead {h k:Nat} (hn:Node h k):Node h (k - 1):=⟨hn.1,by have:=hn.2;omega⟩
theorem zgP {h k:Nat} (ho:k % 2=1):PLC (h+1) (k / 2)=PLC h k+1:=by
  rw [z8i,show 2*(k / 2)+1=k by omega]
theorem zdc {l:List (Nat × Nat)}:∀ {a b j:Nat} {s:Nat × Nat},Tile a l b→l[j]?=some s→Tile a (l.take j) (s.2*2 ^ s.1)∧Tile a (l.take (j+1)) ((s.2+1)*2 ^ s.1)∧Node s.1 s.2:=by
  induction l with
  | nil=>intro a b j s _ e;simp at e
  | cons x l ih=>
    intro a b j s h e
    obtain ⟨hn,he,ht⟩:=h
    cases j with
    | zero=>
      simp only [List.getElem?_cons_zero,Option.some.injEq] at e
      subst e
      exact ⟨he.symm,⟨hn,he,rfl⟩,hn⟩
    | succ j=>
      obtain ⟨h1,h2,h3⟩:=ih ht (by simpa using e)
      exact ⟨⟨hn,he,h1⟩,⟨hn,he,h2⟩,h3⟩
theorem z9a {l:List (Nat × Nat)} {a b c:Nat} (h:Tile a l b) (k:Tile a l c):b=c:=by rw [← h.size,← k.size]
theorem zeX {h k:Nat} (hn:Node h k) (ho:k % 2=1):SPAN 0 (k*2 ^ h)=SPAN 0 (k / 2*2 ^ (h+1)) ++ [(h,k - 1)]:=by
  have e:=z7K hn.ahead (by omega)
  rw [show k - 1+1=k by omega] at e
  rw [e]
  congr 2
  rw [Nat.pow_succ,Nat.mul_comm (2 ^ h) 2,← Nat.mul_assoc]
  congr 1
  omega
theorem zg5 {h k:Nat} (ho:k % 2=1):(k / 2+1)*2 ^ (h+1)=(k+1)*2 ^ h:=by
  rw [Nat.pow_succ,Nat.mul_comm (2 ^ h) 2,← Nat.mul_assoc]
  congr 1
  omega
abbrev PXV (d:Int) (F S:Nat) (t:List Int):Nat→Nat→List Int:=VH d (PXS F S) t
def JR (V:Nat→Nat→List Int) (h k:Nat):Nat→List (List Nat)
  | 0=>[]
  | i+1=>z0V (V (h+i) (k / 2 ^ i - 1)) (V (h+i) (k / 2 ^ i)) :: JR V h k i
theorem z4S (V:Nat→Nat→List Int) (h k:Nat):∀ i,(JR V h k i).length=i
  | 0=>rfl
  | i+1=>by rw [JR,List.length_cons,z4S V h k i]
theorem zdd (V:Nat→Nat→List Int) (h k:Nat):∀ m i,i<m→z0V (V (h+i) (k / 2 ^ i - 1)) (V (h+i) (k / 2 ^ i))∈JR V h k m
  | 0,i,hi=>by omega
  | m + 1,i,hi=>by
    rw [JR]
    by_cases e:i=m
    · subst e
      exact List.mem_cons_self ..
    · exact List.mem_cons_of_mem _ (zdd V h k m i (by omega))
def PTX (V:Nat→Nat→List Int):List (Nat × Nat)→List (List Nat)
  | []=>[]
  | s :: ss=>PTX V ss ++ JR V s.1 s.2 (TRO 64 s.2)
theorem z9b (V:Nat→Nat→List Int) (s:Nat × Nat):∀ ss,PTX V (ss ++ [s])=JR V s.1 s.2 (TRO 64 s.2) ++ PTX V ss
  | []=>by simp [PTX]
  | x :: ss=>by
    rw [List.cons_append,PTX,z9b V s ss,PTX,List.append_assoc]
theorem zaI (V:Nat→Nat→List Int) {s:Nat × Nat} {t:List Nat} (ht:t∈JR V s.1 s.2 (TRO 64 s.2)):∀ {ss:List (Nat × Nat)},s∈ss→t∈PTX V ss
  | x :: ss,h=>by
    rw [PTX]
    rcases List.mem_cons.1 h with e | h
    · exact List.mem_append.2 (.inr (e ▸ ht))
    · exact List.mem_append.2 (.inl (zaI V ht h))
theorem z35 (V:Nat→Nat→List Int):∀ ss,(PTX V ss).length≤64*ss.length
  | []=>Nat.le_refl _
  | s :: ss=>by
    rw [PTX,List.length_append,z4S,List.length_cons]
    have:=z35 V ss
    have:=z98 64 s.2
    omega
theorem z9c {ss:List (Nat × Nat)} (hp:ss.Pairwise Off) {s t:Nat × Nat} (hs:s∈ss) (ht:t∈ss) (hne:s≠t):Off s t:=by
  obtain ⟨a,ha⟩:=List.mem_iff_getElem?.1 hs
  obtain ⟨b,hb⟩:=List.mem_iff_getElem?.1 ht
  rcases Nat.lt_trichotomy a b with c | c | c
  · exact Pairwise.at_lt hp c ha hb
  · subst c
    rw [ha] at hb
    exact absurd (Option.some.inj hb) hne
  · exact zec (Pairwise.at_lt hp c hb ha)
theorem z8b (h k i:Nat):k / 2 ^ i*2 ^ (h+i)≤k*2 ^ h∧(k+1)*2 ^ h≤(k / 2 ^ i+1)*2 ^ (h+i):=by
  obtain ⟨h1,h2⟩:=z4B k i
  have e:2 ^ (h+i)=2 ^ i*2 ^ h:=by rw [Nat.add_comm,Nat.pow_add]
  rw [e,← Nat.mul_assoc,← Nat.mul_assoc]
  exact ⟨Nat.mul_le_mul_right _ h1,Nat.mul_le_mul_right _ h2⟩
theorem z9d {ss:List (Nat × Nat)} (hp:ss.Pairwise Off) {h k i:Nat} (hs:(h,k)∈ss):(h+(i+1),k / 2 ^ (i+1)) ∉ ss:=fun hm=>by
  have h1:=z8b h k (i+1)
  have h2:k*2 ^ h<(k+1)*2 ^ h:=Nat.mul_lt_mul_of_pos_right (Nat.lt_succ_self _) (Nat.two_pow_pos h)
  have:=z9c hp hs hm (fun e=>by have:=congrArg Prod.fst e;dsimp only at this;omega)
  unfold Off at this
  dsimp only at this
  omega
theorem zhf {d:Int} {ss:List (Nat × Nat)} (hp:ss.Pairwise Off) {l:List Int} {h k i:Nat} (hs:(h,k)∈ss) (ho:k / 2 ^ i % 2=1):z0D d (VH d ss l (h+i) (k / 2 ^ i - 1)) (VH d ss l (h+i) (k / 2 ^ i))=VH d ss l (h+(i+1)) (k / 2 ^ (i+1)):=by
  rw [show h+(i+1)=h+i+1 by omega,z4R (h:=h+i) (k:=k / 2 ^ (i+1)) (z9d (i:=i) hp hs),← z3z]
  generalize k / 2 ^ i=z at *
  rw [show 2*(z / 2)=z - 1 by omega,show z - 1+1=z by omega]
theorem z77:∀ {l:List (Nat × Nat)} {a b:Nat},Tile a l b→∀ x,a≤x→x<b→∃ s∈l,s.2*2 ^ s.1≤x∧x<(s.2+1)*2 ^ s.1
  | [],a,b,h,x,h1,h2=>by
    have:a=b:=h
    omega
  | s :: l,a,b,h,x,h1,h2=>by
    obtain ⟨_,e,hl⟩:=h
    rcases Nat.lt_or_ge x ((s.2+1)*2 ^ s.1) with c | c
    · exact ⟨s,List.mem_cons_self ..,by omega,c⟩
    · obtain ⟨u,hu,e2⟩:=z77 hl x c h2
      exact ⟨u,List.mem_cons_of_mem _ hu,e2⟩
theorem z6s {h H:Nat} (hh:h≤H) (M:Nat):M*2 ^ H=M*2 ^ (H - h)*2 ^ h:=by rw [Nat.mul_assoc,← Nat.pow_add,Nat.sub_add_cancel hh]
theorem z4m {h k H M:Nat} (hh:h≤H):(k+1)*2 ^ h≤M*2 ^ H∨M*2 ^ H≤k*2 ^ h:=by
  rw [z6s hh]
  rcases Nat.lt_or_ge k (M*2 ^ (H - h)) with c | c
  · exact .inl (Nat.mul_le_mul_right _ c)
  · exact .inr (Nat.mul_le_mul_right _ c)
theorem zaJ (V:Nat→Nat→List Int) {ss:List (Nat × Nat)} {S:Nat} (ht:Tile 0 ss S) {h k H K:Nat} (hs:(h,k)∈ss) (hH:h≤H) (h1:K*2 ^ (H+1)≤k*2 ^ h) (h2:(k+1)*2 ^ h≤(K+1)*2 ^ (H+1)) (hS:(K+1)*2 ^ (H+1)≤S) (h62:H<63):z0V (V H (2*K)) (V H (2*K+1))∈PTX V ss:=by
  have hpos:0<(K+1)*2 ^ (H+1):=Nat.mul_pos (Nat.succ_pos _) (Nat.two_pow_pos _)
  have hk:k*2 ^ h<(k+1)*2 ^ h:=Nat.mul_lt_mul_of_pos_right (Nat.lt_succ_self _) (Nat.two_pow_pos h)
  obtain ⟨⟨h',k'⟩,hm,a1,a2⟩:=z77 ht ((K+1)*2 ^ (H+1) - 1) (Nat.zero_le _) (by omega)
  dsimp only at a1 a2
  have hle:h'≤H:=by
    rcases Nat.lt_or_ge H h' with c | c
    · exfalso
      have e1:=z4m (k:=K) (M:=k') (show H+1≤h' from c)
      have e2:=z4m (k:=K) (M:=k'+1) (show H+1≤h' from c)
      have:=z9c ht.off hs hm (fun e=>by have:=congrArg Prod.fst e;dsimp only at this;omega)
      unfold Off at this
      dsimp only at this
      omega
    · exact c
  have e3:=z4m (k:=k') (M:=K+1) (show h'≤H+1 by omega)
  have e4:(k'+1)*2 ^ h'=(K+1)*2 ^ (H+1):=by omega
  obtain ⟨i,rfl⟩:∃ i,H=h'+i:=⟨H - h',by omega⟩
  have e5:k'+1=(K+1)*2 ^ (i+1):=by
    have:(k'+1)*2 ^ h'=(K+1)*2 ^ (i+1)*2 ^ h':=by rw [e4,Nat.mul_assoc,← Nat.pow_add,show h'+i+1=i+1+h' by omega]
    exact Nat.eq_of_mul_eq_mul_right (Nat.two_pow_pos _) this
  have hdiv:∀ t,t≤i→k' / 2 ^ t=(K+1)*2 ^ (i+1 - t) - 1:=fun t htt=>by
    have hp:=Nat.two_pow_pos t
    have e6:k'+1=(K+1)*2 ^ (i+1 - t)*2 ^ t:=by rw [e5,Nat.mul_assoc,← Nat.pow_add,show i+1 - t+t=i+1 by omega]
    have hq:0<(K+1)*2 ^ (i+1 - t):=Nat.mul_pos (Nat.succ_pos _) (Nat.two_pow_pos _)
    generalize (K+1)*2 ^ (i+1 - t)=Z at *
    obtain ⟨z,rfl⟩:∃ z,Z=z+1:=⟨Z - 1,by omega⟩
    rw [Nat.add_mul,Nat.one_mul] at e6
    rw [Nat.add_sub_cancel,Nat.div_eq_iff hp]
    omega
  have hodd:ODDS k' (i+1):=fun t htt=>by
    rw [hdiv t (by omega),show i+1 - t=i - t+1 by omega,Nat.pow_succ,← Nat.mul_assoc]
    have:0<(K+1)*2 ^ (i - t):=Nat.mul_pos (Nat.succ_pos _) (Nat.two_pow_pos _)
    omega
  have hge:=zdb (f:=64) (show i+1≤64 by omega) hodd
  have:=zdd V h' k' (TRO 64 k') i (by omega)
  rw [hdiv i (Nat.le_refl _),show i+1 - i=1 by omega] at this
  rw [show (K+1)*2 ^ 1 - 1 - 1=2*K by omega,show (K+1)*2 ^ 1 - 1=2*K+1 by omega] at this
  exact zaI V this hm
theorem zaK {M M':Nat→Nat→List Int} (hM:∀ a b,(M a b).length=32) (hM':∀ a b,(M' a b).length=32):∀ {ss:List (Nat × Nat)},CAT M ss=CAT M' ss→∀ s∈ss,M s.1 s.2=M' s.1 s.2
  | x :: ss,e,s,hs=>by
    unfold CAT at e
    rw [List.flatMap_cons,List.flatMap_cons] at e
    obtain ⟨e1,e2⟩:=List.append_inj e (by rw [hM,hM'])
    rcases List.mem_cons.1 hs with rfl | hs
    · exact e1
    · exact zaK hM hM' (ss:=ss) e2 s hs
theorem zde {S h k:Nat} (hS:S≤4611686018427387904) (hm:(h,k)∈SPAN 0 S):S<(k / 2+1)*2 ^ (h+1):=by
  obtain ⟨i,hi⟩:=List.mem_iff_getElem?.1 hm
  have hi2:i<PC S:=by
    rw [← z0r hS]
    exact (List.getElem?_eq_some_iff.1 hi).1
  have hat:=z1Q hS hi2
  rw [hi] at hat
  simp only [Option.some.injEq,Prod.mk.injEq] at hat
  rcases Nat.lt_or_ge S ((k / 2+1)*2 ^ (h+1)) with c | c
  · exact c
  · exfalso
    have h1:=z6W c
    have h2:=z3F (n:=S) (i:=i)
    rw [← hat.1,← hat.2] at h2
    omega
theorem zg6 {S h k:Nat} (hS:S≤4611686018427387904) (he:(k+1)*2 ^ h≤S):∃ i,(h+i,k / 2 ^ i)∈SPAN 0 S:=by
  have hk:k*2 ^ h<(k+1)*2 ^ h:=Nat.mul_lt_mul_of_pos_right (Nat.lt_succ_self _) (Nat.two_pow_pos h)
  obtain ⟨⟨p,q⟩,hm,a1,a2⟩:=z77 (z0Y hS (Nat.zero_le _)) (k*2 ^ h) (Nat.zero_le _) (by omega)
  dsimp only at a1 a2
  rcases Nat.lt_or_ge p h with c | c
  · exfalso
    have h1:=zde hS hm
    have h2:=z4m (h:=p+1) (k:=q / 2) (H:=h) (M:=k+1) c
    have h3:=z8b p q 1
    rw [Nat.pow_one] at h3
    omega
  · refine ⟨p - h,?_⟩
    have:k / 2 ^ (p - h)=q:=by
      rw [z6s c] at a1 a2
      have b1:=Nat.le_of_mul_le_mul_right a1 (Nat.two_pow_pos h)
      have b2:=Nat.lt_of_mul_lt_mul_right a2
      rw [Nat.div_eq_iff (Nat.two_pow_pos _)]
      rw [Nat.add_mul] at b2
      omega
    rw [show h+(p - h)=p by omega,this]
    exact hm
theorem zdf {d:Int} {T:List (List Nat)} (hT:INJ d T) {ss:List (Nat × Nat)} {S:Nat} (hS:S≤4611686018427387904) (ht:Tile 0 ss S) {l l':List Int} (hl:l.length=32*ss.length) (hr:∀ x∈l,0≤x∧x≤255) (hl':l'.length=32*ss.length) (hr':∀ x∈l',0≤x∧x≤255)
    (h1:∀ t∈PTX (VH d ss l) ss,t∈T) (h2:∀ t∈PTX (VH d ss l') ss,t∈T) (e:∀ s∈SPAN 0 S,VH d ss l s.1 s.2=VH d ss l' s.1 s.2) {h k:Nat} (hs:(h,k)∈ss):VH d ss l h k=VH d ss l' h k:=by
  have hin:=ht.within _ hs
  dsimp only at hin
  obtain ⟨I,hI⟩:=zg6 hS hin.2.1
  have v:=z2J (d:=d) hl hr (Nat.le_refl _)
  have v':=z2J (d:=d) hl' hr' (Nat.le_refl _)
  have hIn:=(z0Y hS (Nat.zero_le _)).within _ hI
  dsimp only at hIn
  have key:∀ j,j≤I→VH d ss l (h+(I - j)) (k / 2 ^ (I - j))=VH d ss l' (h+(I - j)) (k / 2 ^ (I - j)):=fun j=>by
    induction j with
    | zero=>intro _;exact e _ hI
    | succ j ih=>
      intro hj
      obtain ⟨i,hi⟩:∃ i,I - (j+1)=i:=⟨_,rfl⟩
      have ih:=ih (by omega)
      rw [show I - j=i+1 by omega] at ih
      rw [hi]
      rw [show h+(i+1)=h+i+1 by omega,z4R (h:=h+i) (k:=k / 2 ^ (i+1)) (z9d (i:=i) ht.off hs),z4R (h:=h+i) (k:=k / 2 ^ (i+1)) (z9d (i:=i) ht.off hs)] at ih
      have b1:=z8b h k (i+1)
      have b2:=z8b (h+(i+1)) (k / 2 ^ (i+1)) (I - (i+1))
      rw [show h+(i+1)+(I - (i+1))=h+I by omega,Nat.div_div_eq_div_mul,← Nat.pow_add,show i+1+(I - (i+1))=I by omega] at b2
      have h62:=hIn.2.2.1
      have m1:=h1 _ (zaJ (VH d ss l) ht hs (H:=h+i) (K:=k / 2 ^ (i+1)) (by omega) b1.1 b1.2 (Nat.le_trans b2.2 hIn.2.1) (by omega))
      have m2:=h2 _ (zaJ (VH d ss l') ht hs (H:=h+i) (K:=k / 2 ^ (i+1)) (by omega) b1.1 b1.2 (Nat.le_trans b2.2 hIn.2.1) (by omega))
      obtain ⟨c1,c2⟩:=zez hT (v _ _) (v _ _) (v' _ _) (v' _ _) m1 m2 ih
      rw [← z3z] at c1 c2
      clear ih b1 b2 m1 m2
      generalize k / 2 ^ i=z at *
      rcases Nat.mod_two_eq_zero_or_one z with o | o
      · rwa [show 2*(z / 2)=z by omega] at c1
      · rwa [show 2*(z / 2)+1=z by omega] at c2
  have:=key I (Nat.le_refl _)
  rwa [Nat.sub_self,Nat.pow_zero,Nat.div_one,Nat.add_zero] at this
theorem zg7 {n:Nat} {l l':List Int} (hl:l.length=32*n) (hl':l'.length=32*n) (h:∀ j,j<n→HSH l j=HSH l' j):l=l':=by
  refine List.ext_getElem? fun q=>?_
  rcases Nat.lt_or_ge q (32*n) with c | c
  · have:=h (q / 32) (by omega)
    have e:∀ m:List Int,(HSH m (q / 32))[q % 32]?=m[q]?:=fun m=>by
      unfold HSH
      rw [List.getElem?_take,if_pos (Nat.mod_lt _ (by decide)),List.getElem?_drop,Nat.div_add_mod]
    rw [← e l,← e l',this]
  · rw [List.getElem?_eq_none (by omega),List.getElem?_eq_none (by omega)]
theorem zg8 {d:Int} {T:List (List Nat)} (hT:INJ d T) {ss:List (Nat × Nat)} {S:Nat} (hS:S≤4611686018427387904) (ht:Tile 0 ss S) {l l':List Int} (hl:l.length=32*ss.length) (hr:∀ x∈l,0≤x∧x≤255) (hl':l'.length=32*ss.length) (hr':∀ x∈l',0≤x∧x≤255)
    (h1:∀ t∈PTX (VH d ss l) ss,t∈T) (h2:∀ t∈PTX (VH d ss l') ss,t∈T) (e:∀ s∈SPAN 0 S,VH d ss l s.1 s.2=VH d ss l' s.1 s.2):l=l':=by
  refine zg7 hl hl' fun j hj=>?_
  obtain ⟨⟨h,k⟩,hs⟩:∃ s,ss[j]?=some s:=⟨_,List.getElem?_eq_getElem hj⟩
  have hm:=List.mem_of_getElem? hs
  have:=zdf hT hS ht hl hr hl' hr' h1 h2 e hm
  rw [z59 hm,z59 hm,z38 ht.off hs _ hj (Nat.le_refl _),z38 ht.off hs _ hj (Nat.le_refl _)] at this
  exact this
end Go.Proofs.YthpdlnbbbcgemaaGreatDoor

namespace Go.Proofs.YthpdlnbbbcgemaaGreatDoor
open Go.RowKit
def LG (l:List Int) (n:Nat):Nat→Nat→Int→Int × Int × Int
  | 0,_,_=>(0,0,10)
  | f+1,k,x=>if k=n then (0,0,11) else if 128≤l.getD k 0 then LG l n f (k+1) (x+l.getD k 0 % 128*128 ^ k)
    else if k=9∧1<l.getD k 0 then (0,0,10) else if l.getD k 0=0∧0<k then (0,0,12) else (x+l.getD k 0*128 ^ k,(k:Int)+1,0)
theorem z9e {l:List Int} {n f k:Nat} {x:Int} (h:k=n):LG l n (f+1) k x=(0,0,11):=by
  show (if k=n then _ else _)=_
  rw [if_pos h]
theorem z78 {l:List Int} {n f k:Nat} {x:Int} (h:k≠n) (hc:128≤l.getD k 0):LG l n (f+1) k x=LG l n f (k+1) (x+l.getD k 0 % 128*128 ^ k):=by
  show (if k=n then _ else _)=_
  rw [if_neg h,if_pos hc]
theorem z6t {l:List Int} {n f k:Nat} {x:Int} (h:k≠n) (hc:¬ 128≤l.getD k 0):LG l n (f+1) k x=if k=9∧1<l.getD k 0 then (0,0,10) else if l.getD k 0=0∧0<k then (0,0,12) else (x+l.getD k 0*128 ^ k,(k:Int)+1,0):=by
  show (if k=n then _ else _)=_
  rw [if_neg h,if_neg hc]
theorem pow7 (k:Nat):(2:Nat) ^ (7*k)=128 ^ k:=by rw [Nat.pow_mul]
theorem z4T (L k:Nat):SHL L (7*(k:Int))=L*128 ^ k % 2 ^ 64:=by
  unfold SHL
  rw [if_neg (by omega),show (7*(k:Int)).toNat=7*k by omega,pow7]
theorem zdg (L k:Nat):SHR L (7*(k:Int))=L / 128 ^ k:=by
  unfold SHR
  rw [if_neg (by omega),show (7*(k:Int)).toNat=7*k by omega,pow7]
theorem z5v {L k:Nat} (hL:L<128) (hk:k≤8):L*128 ^ k % 2 ^ 64=L*128 ^ k:=by
  have h:=Nat.pow_le_pow_right (n:=128) (by decide) hk
  have h2:L*128 ^ k≤127*128 ^ 8:=Nat.mul_le_mul (by omega) h
  exact Nat.mod_eq_of_lt (Nat.lt_of_le_of_lt h2 (by decide))
theorem zbH {L k:Nat} (hL:L<128) (hk:k≤9):L*128 ^ k % 2 ^ 64 / 128 ^ k=if k=9 then L % 2 else L:=by
  by_cases h:k=9
  · subst h
    rw [if_pos rfl]
    omega
  · rw [if_neg h,z5v hL (by omega),Nat.mul_div_cancel _ (Nat.pow_pos (by decide))]
theorem z9f {x L k:Nat} (hx:x<128 ^ k) (hL:L<128) (hk:k≤8):bits .or .u64 (x:Int) ((L*128 ^ k % 2 ^ 64:Nat):Int)=((x+L*128 ^ k:Nat):Int):=by
  have h8:=Nat.pow_le_pow_right (n:=128) (by decide) hk
  have hx2:x<2 ^ 64:=Nat.lt_of_lt_of_le hx (Nat.le_trans h8 (by decide))
  rw [zaT hx2 (Nat.mod_lt _ (by decide)),z5v hL hk,Nat.or_comm,nat_join (7*k) _ x (by rw [pow7];exact Nat.mul_mod_left _ _) (by rw [pow7];exact hx),Nat.add_comm]
theorem zdh {x L:Nat} (hx:x<128 ^ 9) (hL:L<2):bits .or .u64 (x:Int) ((L*128 ^ 9 % 2 ^ 64:Nat):Int)=((x+L*128 ^ 9:Nat):Int):=by
  have h1:L*128 ^ 9 % 2 ^ 64=L*128 ^ 9:=Nat.mod_eq_of_lt (by omega)
  rw [zaT (Nat.lt_of_lt_of_le hx (by decide)) (Nat.mod_lt _ (by decide)),h1,Nat.or_comm,nat_join (7*9) _ x (by omega) (by omega),Nat.add_comm]
def Gath (l:List Int) (n k:Nat) (y:Int) (R:Int × Int × Int):Prop:=∃ x:Nat,LG l n (10 - k) k (x:Int)=R∧(k≤9→y=(x:Int)∧x<128 ^ k)
theorem Gath.start (l:List Int) (n:Nat):Gath l n 0 0 (LG l n 10 0 0):=⟨0,rfl,fun _=>⟨rfl,by decide⟩⟩
theorem Gath.next {l:List Int} {n k:Nat} {y v p:Int} {R:Int × Int × Int} (A:Gath l n k y R) (hk:k≤9) (hkn:k≠n) (hv:l.getD k 0=v) (h0:128≤v)
    (hp:p=((SHL (v % 128).toNat (7*(k:Int)):Nat):Int)):Gath l n (k+1) (bits .or .u64 y p) R:=by
  obtain ⟨x,hx,hy⟩:=A
  obtain ⟨rfl,hlt⟩:=hy hk
  obtain ⟨L,hL⟩:∃ L:Nat,v % 128=(L:Int):=⟨(v % 128).toNat,by omega⟩
  rw [show 10 - k=10 - (k+1)+1 by omega,z78 hkn (by rw [hv];exact h0),hv,hL] at hx
  have hL128:L<128:=by omega
  rw [hL,Int.toNat_natCast,z4T] at hp
  refine ⟨x+L*128 ^ k,?_,fun h=>?_⟩
  · rw [← hx]
    congr 1
  · rw [hp,z9f hlt hL128 (by omega)]
    refine ⟨rfl,?_⟩
    have:L*128 ^ k≤127*128 ^ k:=Nat.mul_le_mul_right _ (by omega)
    rw [Nat.pow_succ]
    omega
theorem Gath.hit {l:List Int} {n k:Nat} {y v:Int} {R:Int × Int × Int} (A:Gath l n k y R) (hk:k≤9) (hkn:k≠n) (hv:l.getD k 0=v) (h1:¬ 128≤v):
    R=if k=9∧1<v then (0,0,10) else if v=0∧0<k then (0,0,12) else (y+v*128 ^ k,(k:Int)+1,0):=by
  obtain ⟨x,hx,hy⟩:=A
  obtain ⟨rfl,hlt⟩:=hy hk
  rw [show 10 - k=9 - k+1 by omega,z6t hkn (by rw [hv];exact h1),hv] at hx
  exact hx.symm
theorem Gath.val {l:List Int} {n k:Nat} {y v p:Int} {R:Int × Int × Int} (A:Gath l n k y R) (hk:k≤9) (h0:0≤v) (h1:¬ 128≤v) (h9:¬ (k=9∧1<v))
    (hp:p=((SHL (v % 128).toNat (7*(k:Int)):Nat):Int)):bits .or .u64 y p=y+v*128 ^ k:=by
  obtain ⟨x,_,hy⟩:=A
  obtain ⟨rfl,hlt⟩:=hy hk
  obtain ⟨L,rfl⟩:∃ L:Nat,v=(L:Int):=⟨v.toNat,by omega⟩
  rw [show (((L:Int) % 128).toNat)=L by omega,z4T] at hp
  by_cases h:k=9
  · subst h
    rw [hp,zdh hlt (by omega)]
    simp
  · rw [hp,z9f hlt (by omega) (by omega)]
    simp
theorem z79 {v p q:Int} {k:Nat} (hk:k≤9) (h0:0≤v) (h1:¬ 128≤v) (hp:p=((SHL (v % 128).toNat (7*(k:Int)):Nat):Int)) (hq:q=((SHR p.toNat (7*(k:Int)):Nat):Int)):
    (q != v % 128)=decide (k=9∧1<v):=by
  obtain ⟨L,rfl⟩:∃ L:Nat,v=(L:Int):=⟨v.toNat,by omega⟩
  rw [show (((L:Int) % 128).toNat)=L by omega,z4T] at hp
  rw [hp,Int.toNat_natCast,zdg,zbH (by omega) hk] at hq
  rw [hq,Bool.eq_iff_iff,bne_iff_ne,decide_eq_true_iff]
  split <;> omega
set_option maxHeartbeats 2000000 in
theorem zbI (b off n c:Nat) (l:List Int) (R:Int × Int × Int) (r1 r2 r3:Int) (hR:Aside (LG l n 10 0 0=R∧R=(r1,r2,r3))) (w:World) (hB:Bytes w (some ⟨b,off,none⟩) n l) (h0:0<n) (hn:(n:Int)<10) (hcap:(n:Int)≤(c:Int)) (hmax:n≤140737488355328):
    Calls Tryz.prog 128 #[.slice (some ⟨b,off,none⟩) n c] w fun e w'=>e=.returned (.tuple #[.int .u64 r1,.int .i64 r2,.int .i64 r3])∧w=w':=by
  obtain ⟨b',off',e,_,hc0⟩:=hB.2.1 h0
  simp only [Option.some.injEq,Addr.mk.injEq] at e
  obtain ⟨rfl,rfl,_⟩:=e
  have HC:Aside ((∀ i,i<n→w.cell? ⟨b,off+i,none⟩=some (.int .u8 (l.getD i 0)))∧∀ i,0≤l.getD i 0∧l.getD i 0≤255):=⟨hc0,hB.get⟩
  have hcap0:0<(c:Int):=by omega
  clear hB hc0
  go_enter Tryz.func128,Tryz.ntmps128
  go_wp2
  go_loop [5,16] (fun s5 s16=>∃ (k:Nat) (y:Int),(k:Int)≤(n:Int)∧Aside (Gath l n k y R)∧s5=.int .u64 y∧s16=.int .i64 k) (fun _ i=>n - (intOf i).toNat)
  case atStart=>exact ⟨0,0,by omega,hR.out.1 ▸ Gath.start l n,rfl,rfl⟩
  case round=>
    obtain ⟨k,y,hk,A,rfl,rfl⟩:=hrel
    by_cases hlt:(k:Int)<(n:Int)
    · have hc := HC.out.1 k (by omega)
      have hcb:=HC.out.2 k
      generalize hv:l.getD k 0=v at hc hcb
      have Hv:Aside (l.getD k 0=v):=hv
      clear hv
      have hv0:=hcb.1
      have hv1:=hcb.2
      clear hcb
      obtain ⟨p,hp⟩:∃ p:Int,p=((SHL (v % 128).toNat (7*(k:Int)):Nat):Int):=⟨_,rfl⟩
      have hpl:0≤p∧p<2 ^ 64:=by
        have:=z8f (show (v % 128).toNat<2 ^ 64 by omega) (7*(k:Int))
        omega
      have c1:∀ w,Calls Tryz.prog 146 #[.int .u64 (v % 128),.int .i64 (7*(k:Int))] w fun e w'=>e=.returned (.int .u64 p)∧w=w':=fun w=>by
        have h:=z8l (v % 128).toNat (7*(k:Int)) (by omega) (by omega) (by omega) w
        rw [← hp,Int.toNat_of_nonneg (by omega)] at h
        exact h
      by_cases h128:128≤v
      · have HP:Aside (p=((SHL (v % 128).toNat (7*(k:Int)):Nat):Int)):=hp
        clear hp hpl
        go_wp2_with fail
        refine (c1 _).mono ?_
        rintro e w' ⟨rfl,rfl⟩
        go_wp2
        go_round
        case rel=>exact ⟨k+1,_,by omega,A.out.next (by omega) (by omega) Hv.out h128 HP.out,rfl,by go_num⟩
        case measure=>simp [intOf];omega
      · obtain ⟨q,hq⟩:∃ q:Int,q=((SHR p.toNat (7*(k:Int)):Nat):Int):=⟨_,rfl⟩
        have c2:∀ w,Calls Tryz.prog 147 #[.int .u64 p,.int .i64 (7*(k:Int))] w fun e w'=>e=.returned (.int .u64 q)∧w=w':=fun w=>by
          have h:=z2K p.toNat (7*(k:Int)) (by omega) (by omega) (by omega) w
          rw [← hq,Int.toNat_of_nonneg hpl.1] at h
          exact h
        have hs:=z79 (show k≤9 by omega) hv0 h128 hp hq
        have hit:=A.out.hit (by omega) (by omega) Hv.out h128
        rw [hR.out.2] at hit
        have hval:=fun h9=>A.out.val (by omega) hv0 h128 h9 hp
        clear hp hpl hq
        by_cases hr:k=9∧1<v
        · rw [if_pos hr] at hit
          simp only [Prod.mk.injEq] at hit
          obtain ⟨rfl,rfl,rfl⟩:=hit
          have hs':(q != v % 128)=true:=by rw [hs];simp [hr]
          clear hs hval hr
          go_wp2_with fail
          refine (c1 _).mono ?_
          rintro e w' ⟨rfl,rfl⟩
          go_wp2_with fail
          refine (c2 _).mono ?_
          rintro e w' ⟨rfl,rfl⟩
          go_wp2
          go_ret3
          exact ⟨rfl,rfl⟩
        · rw [if_neg hr] at hit
          have hs':(q != v % 128)=false:=by rw [hs];simp only [decide_eq_false_iff_not];exact hr
          have hval':=hval hr
          clear hs hval hr
          by_cases hz:v=0∧0<k
          · rw [if_pos hz] at hit
            simp only [Prod.mk.injEq] at hit
            obtain ⟨rfl,rfl,rfl⟩:=hit
            obtain ⟨rfl,hk0⟩:=hz
            have hk0':0<(k:Int):=by omega
            clear hval'
            go_wp2_with fail
            refine (c1 _).mono ?_
            rintro e w' ⟨rfl,rfl⟩
            go_wp2_with fail
            refine (c2 _).mono ?_
            rintro e w' ⟨rfl,rfl⟩
            go_wp2
            go_ret3
            exact ⟨rfl,rfl⟩
          · rw [if_neg hz] at hit
            simp only [Prod.mk.injEq] at hit
            obtain ⟨e1,rfl,rfl⟩:=hit
            rw [← e1] at hval'
            have HE:Aside (bits .or .u64 y p=r1):=hval'
            clear hval' e1
            by_cases hv00:v=0
            · have hk0:¬ 0<(k:Int):=by omega
              have hvb:(v == 0)=true:=by simp [hv00]
              clear hz hv00
              go_wp2_with fail
              refine (c1 _).mono ?_
              rintro e w' ⟨rfl,rfl⟩
              go_wp2_with fail
              refine (c2 _).mono ?_
              rintro e w' ⟨rfl,rfl⟩
              go_wp2
              go_ret3
              exact ⟨by rw [← HE.out];rfl,rfl⟩
            · have hvb:(v == 0)=false:=by simp [hv00]
              clear hz hv00
              go_wp2_with fail
              refine (c1 _).mono ?_
              rintro e w' ⟨rfl,rfl⟩
              go_wp2_with fail
              refine (c2 _).mono ?_
              rintro e w' ⟨rfl,rfl⟩
              go_wp2
              go_ret3
              exact ⟨by rw [← HE.out];rfl,rfl⟩
    · have hk':k=n:=by omega
      subst hk'
      have hit:=A.out
      obtain ⟨x,hx,_⟩:=hit
      rw [show 10 - k=9 - k+1 by omega,z9e rfl,hR.out.2] at hx
      simp only [Prod.mk.injEq] at hx
      obtain ⟨rfl,rfl,rfl⟩:=hx
      clear A
      go_wp2
      go_ret3
      exact ⟨rfl,rfl⟩
set_option maxHeartbeats 2000000 in
theorem zdi (b off n c:Nat) (l:List Int) (R:Int × Int × Int) (r1 r2 r3:Int) (hR:Aside (LG l n 10 0 0=R∧R=(r1,r2,r3))) (w:World) (hB:Bytes w (some ⟨b,off,none⟩) n l) (h0:0<n) (hn:10<(n:Int)) (hcap:(n:Int)≤(c:Int)) (hmax:n≤140737488355328):
    Calls Tryz.prog 128 #[.slice (some ⟨b,off,none⟩) n c] w fun e w'=>e=.returned (.tuple #[.int .u64 r1,.int .i64 r2,.int .i64 r3])∧w=w':=by
  obtain ⟨b',off',e,_,hc0⟩:=hB.2.1 h0
  simp only [Option.some.injEq,Addr.mk.injEq] at e
  obtain ⟨rfl,rfl,_⟩:=e
  have HC:Aside ((∀ i,i<n→w.cell? ⟨b,off+i,none⟩=some (.int .u8 (l.getD i 0)))∧∀ i,0≤l.getD i 0∧l.getD i 0≤255):=⟨hc0,hB.get⟩
  have hcap0:0<(c:Int):=by omega
  have h10c:(10:Int)≤(c:Int):=by omega
  clear hB hc0
  go_enter Tryz.func128,Tryz.ntmps128
  go_wp2
  go_loop [5,16] (fun s5 s16=>∃ (k:Nat) (y:Int),(k:Int)≤10∧Aside (Gath l n k y R)∧s5=.int .u64 y∧s16=.int .i64 k) (fun _ i=>10 - (intOf i).toNat)
  case atStart=>exact ⟨0,0,by omega,hR.out.1 ▸ Gath.start l n,rfl,rfl⟩
  case round=>
    obtain ⟨k,y,hk,A,rfl,rfl⟩:=hrel
    by_cases hlt:(k:Int)<10
    · have hc := HC.out.1 k (by omega)
      have hcb:=HC.out.2 k
      generalize hv:l.getD k 0=v at hc hcb
      have Hv:Aside (l.getD k 0=v):=hv
      clear hv
      have hv0:=hcb.1
      have hv1:=hcb.2
      clear hcb
      obtain ⟨p,hp⟩:∃ p:Int,p=((SHL (v % 128).toNat (7*(k:Int)):Nat):Int):=⟨_,rfl⟩
      have hpl:0≤p∧p<2 ^ 64:=by
        have:=z8f (show (v % 128).toNat<2 ^ 64 by omega) (7*(k:Int))
        omega
      have c1:∀ w,Calls Tryz.prog 146 #[.int .u64 (v % 128),.int .i64 (7*(k:Int))] w fun e w'=>e=.returned (.int .u64 p)∧w=w':=fun w=>by
        have h:=z8l (v % 128).toNat (7*(k:Int)) (by omega) (by omega) (by omega) w
        rw [← hp,Int.toNat_of_nonneg (by omega)] at h
        exact h
      by_cases h128:128≤v
      · have HP:Aside (p=((SHL (v % 128).toNat (7*(k:Int)):Nat):Int)):=hp
        clear hp hpl
        go_wp2_with fail
        refine (c1 _).mono ?_
        rintro e w' ⟨rfl,rfl⟩
        go_wp2
        go_round
        case rel=>exact ⟨k+1,_,by omega,A.out.next (by omega) (by omega) Hv.out h128 HP.out,rfl,by go_num⟩
        case measure=>simp [intOf];omega
      · obtain ⟨q,hq⟩:∃ q:Int,q=((SHR p.toNat (7*(k:Int)):Nat):Int):=⟨_,rfl⟩
        have c2:∀ w,Calls Tryz.prog 147 #[.int .u64 p,.int .i64 (7*(k:Int))] w fun e w'=>e=.returned (.int .u64 q)∧w=w':=fun w=>by
          have h:=z2K p.toNat (7*(k:Int)) (by omega) (by omega) (by omega) w
          rw [← hq,Int.toNat_of_nonneg hpl.1] at h
          exact h
        have hs:=z79 (show k≤9 by omega) hv0 h128 hp hq
        have hit:=A.out.hit (by omega) (by omega) Hv.out h128
        rw [hR.out.2] at hit
        have hval:=fun h9=>A.out.val (by omega) hv0 h128 h9 hp
        clear hp hpl hq
        by_cases hr:k=9∧1<v
        · rw [if_pos hr] at hit
          simp only [Prod.mk.injEq] at hit
          obtain ⟨rfl,rfl,rfl⟩:=hit
          have hs':(q != v % 128)=true:=by rw [hs];simp [hr]
          clear hs hval hr
          go_wp2_with fail
          refine (c1 _).mono ?_
          rintro e w' ⟨rfl,rfl⟩
          go_wp2_with fail
          refine (c2 _).mono ?_
          rintro e w' ⟨rfl,rfl⟩
          go_wp2
          go_ret3
          exact ⟨rfl,rfl⟩
        · rw [if_neg hr] at hit
          have hs':(q != v % 128)=false:=by rw [hs];simp only [decide_eq_false_iff_not];exact hr
          have hval':=hval hr
          clear hs hval hr
          by_cases hz:v=0∧0<k
          · rw [if_pos hz] at hit
            simp only [Prod.mk.injEq] at hit
            obtain ⟨rfl,rfl,rfl⟩:=hit
            obtain ⟨rfl,hk0⟩:=hz
            have hk0':0<(k:Int):=by omega
            clear hval'
            go_wp2_with fail
            refine (c1 _).mono ?_
            rintro e w' ⟨rfl,rfl⟩
            go_wp2_with fail
            refine (c2 _).mono ?_
            rintro e w' ⟨rfl,rfl⟩
            go_wp2
            go_ret3
            exact ⟨rfl,rfl⟩
          · rw [if_neg hz] at hit
            simp only [Prod.mk.injEq] at hit
            obtain ⟨e1,rfl,rfl⟩:=hit
            rw [← e1] at hval'
            have HE:Aside (bits .or .u64 y p=r1):=hval'
            clear hval' e1
            by_cases hv00:v=0
            · have hk0:¬ 0<(k:Int):=by omega
              have hvb:(v == 0)=true:=by simp [hv00]
              clear hz hv00
              go_wp2_with fail
              refine (c1 _).mono ?_
              rintro e w' ⟨rfl,rfl⟩
              go_wp2_with fail
              refine (c2 _).mono ?_
              rintro e w' ⟨rfl,rfl⟩
              go_wp2
              go_ret3
              exact ⟨by rw [← HE.out];rfl,rfl⟩
            · have hvb:(v == 0)=false:=by simp [hv00]
              clear hz hv00
              go_wp2_with fail
              refine (c1 _).mono ?_
              rintro e w' ⟨rfl,rfl⟩
              go_wp2_with fail
              refine (c2 _).mono ?_
              rintro e w' ⟨rfl,rfl⟩
              go_wp2
              go_ret3
              exact ⟨by rw [← HE.out];rfl,rfl⟩
    · have hk':k=10:=by omega
      subst hk'
      have hit:=A.out
      obtain ⟨x,hx,_⟩:=hit
      rw [show 10 - 10=0 by omega,hR.out.2] at hx
      have hx:(0,0,10)=(r1,r2,r3):=hx
      simp only [Prod.mk.injEq] at hx
      obtain ⟨rfl,rfl,rfl⟩:=hx
      clear A
      go_wp2
      go_ret3
      exact ⟨rfl,rfl⟩
set_option maxHeartbeats 2000000 in
theorem zeY (b off c:Nat) (l:List Int) (R:Int × Int × Int) (r1 r2 r3:Int) (hR:Aside (LG l 10 10 0 0=R∧R=(r1,r2,r3))) (w:World) (hB:Bytes w (some ⟨b,off,none⟩) 10 l) (hcap:(10:Int)≤(c:Int)):
    Calls Tryz.prog 128 #[.slice (some ⟨b,off,none⟩) 10 c] w fun e w'=>e=.returned (.tuple #[.int .u64 r1,.int .i64 r2,.int .i64 r3])∧w=w':=by
  obtain ⟨b',off',e,_,hc0⟩:=hB.2.1 (by decide)
  simp only [Option.some.injEq,Addr.mk.injEq] at e
  obtain ⟨rfl,rfl,_⟩:=e
  have HC:Aside ((∀ i,i<10→w.cell? ⟨b,off+i,none⟩=some (.int .u8 (l.getD i 0)))∧∀ i,0≤l.getD i 0∧l.getD i 0≤255):=⟨hc0,hB.get⟩
  have hcap0:0<(c:Int):=by omega
  clear hB hc0
  go_enter Tryz.func128,Tryz.ntmps128
  go_wp2
  go_loop [5,16] (fun s5 s16=>∃ (k:Nat) (y:Int),(k:Int)≤10∧Aside (Gath l 10 k y R)∧s5=.int .u64 y∧s16=.int .i64 k) (fun _ i=>10 - (intOf i).toNat)
  case atStart=>exact ⟨0,0,by omega,hR.out.1 ▸ Gath.start l 10,rfl,rfl⟩
  case round=>
    obtain ⟨k,y,hk,A,rfl,rfl⟩:=hrel
    by_cases hlt:(k:Int)<10
    · have hc := HC.out.1 k (by omega)
      have hcb:=HC.out.2 k
      generalize hv:l.getD k 0=v at hc hcb
      have Hv:Aside (l.getD k 0=v):=hv
      clear hv
      have hv0:=hcb.1
      have hv1:=hcb.2
      clear hcb
      obtain ⟨p,hp⟩:∃ p:Int,p=((SHL (v % 128).toNat (7*(k:Int)):Nat):Int):=⟨_,rfl⟩
      have hpl:0≤p∧p<2 ^ 64:=by
        have:=z8f (show (v % 128).toNat<2 ^ 64 by omega) (7*(k:Int))
        omega
      have c1:∀ w,Calls Tryz.prog 146 #[.int .u64 (v % 128),.int .i64 (7*(k:Int))] w fun e w'=>e=.returned (.int .u64 p)∧w=w':=fun w=>by
        have h:=z8l (v % 128).toNat (7*(k:Int)) (by omega) (by omega) (by omega) w
        rw [← hp,Int.toNat_of_nonneg (by omega)] at h
        exact h
      by_cases h128:128≤v
      · have HP:Aside (p=((SHL (v % 128).toNat (7*(k:Int)):Nat):Int)):=hp
        clear hp hpl
        go_wp2_with fail
        refine (c1 _).mono ?_
        rintro e w' ⟨rfl,rfl⟩
        go_wp2
        go_round
        case rel=>exact ⟨k+1,_,by omega,A.out.next (by omega) (by omega) Hv.out h128 HP.out,rfl,by go_num⟩
        case measure=>simp [intOf];omega
      · obtain ⟨q,hq⟩:∃ q:Int,q=((SHR p.toNat (7*(k:Int)):Nat):Int):=⟨_,rfl⟩
        have c2:∀ w,Calls Tryz.prog 147 #[.int .u64 p,.int .i64 (7*(k:Int))] w fun e w'=>e=.returned (.int .u64 q)∧w=w':=fun w=>by
          have h:=z2K p.toNat (7*(k:Int)) (by omega) (by omega) (by omega) w
          rw [← hq,Int.toNat_of_nonneg hpl.1] at h
          exact h
        have hs:=z79 (show k≤9 by omega) hv0 h128 hp hq
        have hit:=A.out.hit (by omega) (by omega) Hv.out h128
        rw [hR.out.2] at hit
        have hval:=fun h9=>A.out.val (by omega) hv0 h128 h9 hp
        clear hp hpl hq
        by_cases hr:k=9∧1<v
        · rw [if_pos hr] at hit
          simp only [Prod.mk.injEq] at hit
          obtain ⟨rfl,rfl,rfl⟩:=hit
          have hs':(q != v % 128)=true:=by rw [hs];simp [hr]
          clear hs hval hr
          go_wp2_with fail
          refine (c1 _).mono ?_
          rintro e w' ⟨rfl,rfl⟩
          go_wp2_with fail
          refine (c2 _).mono ?_
          rintro e w' ⟨rfl,rfl⟩
          go_wp2
          go_ret3
          exact ⟨rfl,rfl⟩
        · rw [if_neg hr] at hit
          have hs':(q != v % 128)=false:=by rw [hs];simp only [decide_eq_false_iff_not];exact hr
          have hval':=hval hr
          clear hs hval hr
          by_cases hz:v=0∧0<k
          · rw [if_pos hz] at hit
            simp only [Prod.mk.injEq] at hit
            obtain ⟨rfl,rfl,rfl⟩:=hit
            obtain ⟨rfl,hk0⟩:=hz
            have hk0':0<(k:Int):=by omega
            clear hval'
            go_wp2_with fail
            refine (c1 _).mono ?_
            rintro e w' ⟨rfl,rfl⟩
            go_wp2_with fail
            refine (c2 _).mono ?_
            rintro e w' ⟨rfl,rfl⟩
            go_wp2
            go_ret3
            exact ⟨rfl,rfl⟩
          · rw [if_neg hz] at hit
            simp only [Prod.mk.injEq] at hit
            obtain ⟨e1,rfl,rfl⟩:=hit
            rw [← e1] at hval'
            have HE:Aside (bits .or .u64 y p=r1):=hval'
            clear hval' e1
            by_cases hv00:v=0
            · have hk0:¬ 0<(k:Int):=by omega
              have hvb:(v == 0)=true:=by simp [hv00]
              clear hz hv00
              go_wp2_with fail
              refine (c1 _).mono ?_
              rintro e w' ⟨rfl,rfl⟩
              go_wp2_with fail
              refine (c2 _).mono ?_
              rintro e w' ⟨rfl,rfl⟩
              go_wp2
              go_ret3
              exact ⟨by rw [← HE.out];rfl,rfl⟩
            · have hvb:(v == 0)=false:=by simp [hv00]
              clear hz hv00
              go_wp2_with fail
              refine (c1 _).mono ?_
              rintro e w' ⟨rfl,rfl⟩
              go_wp2_with fail
              refine (c2 _).mono ?_
              rintro e w' ⟨rfl,rfl⟩
              go_wp2
              go_ret3
              exact ⟨by rw [← HE.out];rfl,rfl⟩
    · have hk':k=10:=by omega
      subst hk'
      have hit:=A.out
      obtain ⟨x,hx,_⟩:=hit
      rw [show 10 - 10=0 by omega,hR.out.2] at hx
      have hx:(0,0,10)=(r1,r2,r3):=hx
      simp only [Prod.mk.injEq] at hx
      obtain ⟨rfl,rfl,rfl⟩:=hx
      clear A
      go_wp2
      go_ret3
      exact ⟨rfl,rfl⟩
theorem zbJ (a:Option Addr) (c:Nat) (w:World):Calls Tryz.prog 128 #[.slice a 0 c] w fun e w'=>e=.returned (.tuple #[.int .u64 0,.int .i64 0,.int .i64 11])∧w=w':=by
  go_enter Tryz.func128,Tryz.ntmps128
  go_wp2
  refine wp_loop_rounds 1 ?_
  rw [rounds_succ]
  go_wp2
  go_ret3
  exact ⟨rfl,rfl⟩
theorem z7a (a:Option Addr) (n c:Nat) (l:List Int) (w:World) (hB:Bytes w a n l) (hcap:n≤c) (hmax:n≤140737488355328):
    Calls Tryz.prog 128 #[.slice a n c] w fun e w'=>e=.returned (.tuple #[.int .u64 (LG l n 10 0 0).1,.int .i64 (LG l n 10 0 0).2.1,.int .i64 (LG l n 10 0 0).2.2])∧w=w':=by
  rcases Nat.eq_zero_or_pos n with h | h
  · subst h
    exact zbJ a c w
  · obtain ⟨b,off,rfl,_,_⟩:=hB.2.1 h
    by_cases h10:(n:Int)<10
    · exact zbI b off n c l _ _ _ _ ⟨rfl,rfl⟩ w hB h h10 (by omega) hmax
    · by_cases h10':n=10
      · subst h10'
        exact zeY b off c l _ _ _ _ ⟨rfl,rfl⟩ w hB (by omega)
      · exact zdi b off n c l _ _ _ _ ⟨rfl,rfl⟩ w hB h (by omega) (by omega) hmax
end Go.Proofs.YthpdlnbbbcgemaaGreatDoor
