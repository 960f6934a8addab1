/- Texts of VerifyGrowth, one behind the other: StoreMap. -/
import Derived.Maps.OwnSet
import Derived.DeepKeys4
import Derived.Test.YthjeeblddipiiaaGreatDoorVerifyGrowthP22
namespace Go.Proofs.YthjeeblddipiiaaGreatDoor.HX
open Go.RowKit Go.Maps
set_option maxRecDepth 100000
theorem z5b:laidOutB Tryz.prog=true:=by kernel_rfl
theorem zd2:(143:TypeId)<Tryz.prog.types.size:=of_decide_eq_true (by kernel_rfl)
theorem zfN:(match Tryz.prog.underlying 143 with | some (.array _ _) | some (.struct _)=>true | _=>false)=true:=by rw [Tryz.underlying143]
theorem lawKey:Keyed Tryz.prog 143:=Keyed.of_law (deep_law_laid z5b (m:=2) (by omega) zd2 (by kernel_rfl) zfN)
abbrev KEY (k:Nat):Value:=.agg #[.int .u64 (k:Int)]
def KK (k:Nat):Lit:=.string (keyBytes [.int .u64 (k:Int)])
theorem z2b {k:Nat} (hk:k<2 ^ 64):keyOf Tryz.prog 143 (KEY k)=some (KK k):=by
  have w1:(Lit.int .u64 (k:Int)).wf=true:=WalkArith.wf_u64 (by omega)
  have c3:Tryz.prog.cellsOf 143=1:=by kernel_rfl
  have c2:Tryz.prog.cellsOf 23=1:=by kernel_rfl
  have ht:Tryz.prog.keyType 143=true:=by kernel_rfl
  have hf:(KEY k).formed Tryz.prog 143=true:=by simp [Value.formed,Tryz.underlying143,c3]
  obtain ⟨m,hm⟩:∃ m,Tryz.prog.types.size=m+1:=⟨Tryz.prog.types.size - 1,(Nat.succ_pred_eq_of_pos (Nat.lt_of_le_of_lt (Nat.zero_le _) zd2)).symm⟩
  unfold keyOf
  simp only [Tryz.underlying143,ht,hf,hm]
  simp [Program.keyLits,Tryz.underlying143,Tryz.underlying23,c2,c3,Value.cells,w1,KK]
theorem zd3 {k k':Nat} (hk:k<2 ^ 64) (hk':k'<2 ^ 64) (e:KK k=KK k'):k=k':=by
  have h1:=z2b hk
  have h2:=z2b hk'
  rw [← e] at h2
  have:=lawKey.inj h1 h2
  simp at this
  omega
abbrev UD (n:Nat):DataW Unit:=.lit (.int .u64 (n:Int))
def PE:Value→Option (DataW Unit × List MemPlace)
  | .pointer none=>some (UD 0,[])
  | .pointer (some ⟨g,0,none⟩)=>some (UD (g+1),[])
  | _=>none
theorem zfO {g:Nat}:PE (.pointer (some ⟨g,0,none⟩))=some (UD (g+1),[]):=rfl
theorem zd4 {v:Value} {g:Nat} {ps:List MemPlace} (h:PE v=some (UD (g+1),ps)):v=.pointer (some ⟨g,0,none⟩):=by
  unfold PE at h
  split at h
  · simp at h
    omega
  · simp at h
    obtain ⟨h, -⟩:=h
    rw [Int.ofNat.inj h]
  · cases h
theorem zfP {v:Value} {ps:List MemPlace} (h:PE v=some (UD 0,ps)):v=.pointer none:=by
  unfold PE at h
  split at h
  · rfl
  · simp at h
    omega
  · cases h
def ChunkMap (w:World) (b n:Nat) (M:Nat→Option Nat):Prop:=∃ D:DataW Unit,w.ownsMap Tryz.prog 143 PE b n D∧∀ k,k<2 ^ 64→(Maps.has D (KK k)=(M k).isSome)∧∀ g,M k=some g→D.atKey (KK k) (UD 0)=UD (g+1)
theorem ChunkMap.made (w:World):ChunkMap (w.alloc (.map #[] 0)) w.heap.size 0 (fun _=>none):=⟨_,World.ownsMap_made w _ _ _,fun k _=>⟨by simp [Maps.has],fun g h=>by cases h⟩⟩
theorem ChunkMap.lt {w:World} {b n:Nat} {M:Nat→Option Nat} (h:ChunkMap w b n M):b<w.heap.size:=let ⟨_,h1,_⟩:=h;h1.lt
theorem ChunkMap.kept {w w':World} {b n:Nat} {M:Nat→Option Nat} {row:Option Nat} (h:ChunkMap w b n M) (hg:w.grownBy w' row) (hne:some b≠row):ChunkMap w' b n M:=let ⟨D,h1,h2⟩:=h; ⟨D,h1.kept hg hne,h2⟩
theorem ChunkMap.at {w w':World} {b n:Nat} {M:Nat→Option Nat} (h:ChunkMap w b n M) (hb:w'.heap[b]?=w.heap[b]?):ChunkMap w' b n M:=by
  obtain ⟨D,⟨es,clock,h1,r⟩,h2⟩:=h
  exact ⟨D,⟨es,clock,hb.trans h1,r⟩,h2⟩
theorem ChunkMap.below {w w':World} {b n:Nat} {M:Nat→Option Nat} (h:ChunkMap w b n M) (hb:Below w.heap.size w w'):ChunkMap w' b n M:=h.at (hb.block b h.lt)
theorem ChunkMap.setCell {w:World} {b n:Nat} {M:Nat→Option Nat} (h:ChunkMap w b n M) {a:Addr} (ha:b≠a.block) (u:Value):ChunkMap (w.setCell a u) b n M:=let ⟨D,h1,h2⟩:=h; ⟨D,h1.setCell ha u,h2⟩
theorem za7 (w:World):(zeroValue 145).run Tryz.prog w=.ok (.pointer none) w:=by kernel_rfl
theorem ChunkMap.look {w:World} {b n k:Nat} {M:Nat→Option Nat} (h:ChunkMap w b n M) (hk:k<2 ^ 64):∃ v,(Instr.lookup 66 (.map (some b)) (KEY k) true).run Tryz.prog w=.ok (.tuple #[v,.bool (M k).isSome]) w∧(∀ g,M k=some g→v=.pointer (some ⟨g,0,none⟩))∧(M k=none→v=.pointer none):=by
  obtain ⟨D,h1,h2⟩:=h
  obtain ⟨v,ps,r1,r2⟩:=h1.look_ok lawKey Tryz.underlying66 (za7 w) (show PE (.pointer none)=some (UD 0,[]) from rfl) (z2b hk)
  refine ⟨v,by rw [r1,(h2 k hk).1],fun g hg=>?_,fun hg=>?_⟩
  · rw [(h2 k hk).2 g hg] at r2
    exact zd4 r2
  · have hn:Maps.has D (KK k)=false:=by rw [(h2 k hk).1,hg];rfl
    rw [Maps.atKey_of_not_has hn] at r2
    exact zfP r2
theorem ChunkMap.get {w:World} {b n k g:Nat} {M:Nat→Option Nat} (h:ChunkMap w b n M) (hk:k<2 ^ 64) (hg:M k=some g):(Instr.lookup 66 (.map (some b)) (KEY k) false).run Tryz.prog w=.ok (.pointer (some ⟨g,0,none⟩)) w:=by
  obtain ⟨D,h1,h2⟩:=h
  obtain ⟨v,ps,r1,r2⟩:=h1.lookup lawKey Tryz.underlying66 (za7 w) (show PE (.pointer none)=some (UD 0,[]) from rfl) (z2b hk)
  rw [(h2 k hk).2 g hg] at r2
  rw [r1,zd4 r2]
theorem ChunkMap.store {w:World} {b n k g:Nat} {M:Nat→Option Nat} (h:ChunkMap w b n M) (hn:n<2 ^ 40) (hk:k<2 ^ 64):∃ w',(Instr.mapUpdate 66 (.map (some b)) (KEY k) (.pointer (some ⟨g,0,none⟩))).run Tryz.prog w=.ok () w'∧ChunkMap w' b (n+1) (fun j=>if j=k then some g else M j)∧w.grownBy w' (some b):=by
  obtain ⟨D,h1,h2⟩:=h
  obtain ⟨w',r1,r2,r3⟩:=h1.update lawKey Tryz.underlying66 (by unfold maxLen;omega) (z2b hk) (zfO (g:=g))
  refine ⟨w',r1,⟨_,r2,fun j hj=>?_⟩,r3⟩
  dsimp only
  have hkey:WideAt.IsKeyLit (KK k):=lawKey.key (z2b hk)
  by_cases e:j=k
  · subst e
    rw [if_pos rfl]
    exact ⟨by rw [Maps.has_put_same h1.isMap hkey];rfl,fun g' hg'=>by cases hg';rw [Maps.atKey_put_same h1.isMap hkey]⟩
  · rw [if_neg e,Maps.has_put_other (fun h=>e (zd3 hj hk h)),Maps.atKey_put_other (fun h=>e (zd3 hj hk h))]
    exact h2 j hj
end Go.Proofs.YthjeeblddipiiaaGreatDoor.HX
