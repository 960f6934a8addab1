/- Texts of ClashNothing, one behind the other: StoreMap. -/
import Derived.Maps.OwnSet
import Derived.DeepKeys4
import Derived.Test.YtbeelmlpalkohaaGreatDoorClashNothingP22
namespace Go.Proofs.YtbeelmlpalkohaaGreatDoor.HX
open Go.RowKit Go.Maps
set_option maxRecDepth 100000
theorem z5A:laidOutB Tryz.prog=true:=by kernel_rfl
theorem zcX:(129:TypeId)<Tryz.prog.types.size:=of_decide_eq_true (by kernel_rfl)
theorem zh5:(match Tryz.prog.underlying 129 with | some (.array _ _) | some (.struct _)=>true | _=>false)=true:=by rw [Tryz.underlying129]
theorem lawKey:Keyed Tryz.prog 129:=Keyed.of_law (deep_law_laid z5A (m:=2) (by omega) zcX (by kernel_rfl) zh5)
abbrev KEY (k:Nat):Value:=.agg #[.int .u64 (k:Int)]
def KK (k:Nat):Lit:=.string (keyBytes [.int .u64 (k:Int)])
theorem z1X {k:Nat} (hk:k<2 ^ 64):keyOf Tryz.prog 129 (KEY k)=some (KK k):=by
  have w1:(Lit.int .u64 (k:Int)).wf=true:=WalkArith.wf_u64 (by omega)
  have c3:Tryz.prog.cellsOf 129=1:=by kernel_rfl
  have c2:Tryz.prog.cellsOf 23=1:=by kernel_rfl
  have ht:Tryz.prog.keyType 129=true:=by kernel_rfl
  have hf:(KEY k).formed Tryz.prog 129=true:=by simp [Value.formed,Tryz.underlying129,c3]
  obtain ⟨m,hm⟩:∃ m,Tryz.prog.types.size=m+1:=⟨Tryz.prog.types.size - 1,(Nat.succ_pred_eq_of_pos (Nat.lt_of_le_of_lt (Nat.zero_le _) zcX)).symm⟩
  unfold keyOf
  simp only [Tryz.underlying129,ht,hf,hm]
  simp [Program.keyLits,Tryz.underlying129,Tryz.underlying23,c2,c3,Value.cells,w1,KK]
theorem zcY {k k':Nat} (hk:k<2 ^ 64) (hk':k'<2 ^ 64) (e:KK k=KK k'):k=k':=by
  have h1:=z1X hk
  have h2:=z1X hk'
  rw [← e] at h2
  have:=lawKey.inj h1 h2
  simp at this
  omega
abbrev UD (n:Nat):DataW Unit:=.lit (.int .u64 (n:Int))
def PE:Value→Option (DataW Unit × List MemPlace)
  | .pointer none=>some (UD 0,[])
  | .pointer (some ⟨g,0,none⟩)=>some (UD (g+1),[])
  | _=>none
theorem zh6 {g:Nat}:PE (.pointer (some ⟨g,0,none⟩))=some (UD (g+1),[]):=rfl
theorem zcZ {v:Value} {g:Nat} {ps:List MemPlace} (h:PE v=some (UD (g+1),ps)):v=.pointer (some ⟨g,0,none⟩):=by
  unfold PE at h
  split at h
  · simp at h
    omega
  · simp at h
    obtain ⟨h, -⟩:=h
    rw [Int.ofNat.inj h]
  · cases h
theorem zh7 {v:Value} {ps:List MemPlace} (h:PE v=some (UD 0,ps)):v=.pointer none:=by
  unfold PE at h
  split at h
  · rfl
  · simp at h
    omega
  · cases h
def ChunkMap (w:World) (b n:Nat) (M:Nat→Option Nat):Prop:=∃ D:DataW Unit,w.ownsMap Tryz.prog 129 PE b n D∧∀ k,k<2 ^ 64→(Maps.has D (KK k)=(M k).isSome)∧∀ g,M k=some g→D.atKey (KK k) (UD 0)=UD (g+1)
theorem ChunkMap.made (w:World):ChunkMap (w.alloc (.map #[] 0)) w.heap.size 0 (fun _=>none):=⟨_,World.ownsMap_made w _ _ _,fun k _=>⟨by simp [Maps.has],fun g h=>by cases h⟩⟩
theorem ChunkMap.lt {w:World} {b n:Nat} {M:Nat→Option Nat} (h:ChunkMap w b n M):b<w.heap.size:=let ⟨_,h1,_⟩:=h;h1.lt
theorem ChunkMap.kept {w w':World} {b n:Nat} {M:Nat→Option Nat} {row:Option Nat} (h:ChunkMap w b n M) (hg:w.grownBy w' row) (hne:some b≠row):ChunkMap w' b n M:=let ⟨D,h1,h2⟩:=h; ⟨D,h1.kept hg hne,h2⟩
theorem ChunkMap.at {w w':World} {b n:Nat} {M:Nat→Option Nat} (h:ChunkMap w b n M) (hb:w'.heap[b]?=w.heap[b]?):ChunkMap w' b n M:=by
  obtain ⟨D,⟨es,clock,h1,r⟩,h2⟩:=h
  exact ⟨D,⟨es,clock,hb.trans h1,r⟩,h2⟩
theorem ChunkMap.below {w w':World} {b n:Nat} {M:Nat→Option Nat} (h:ChunkMap w b n M) (hb:Below w.heap.size w w'):ChunkMap w' b n M:=h.at (hb.block b h.lt)
theorem ChunkMap.setCell {w:World} {b n:Nat} {M:Nat→Option Nat} (h:ChunkMap w b n M) {a:Addr} (ha:b≠a.block) (u:Value):ChunkMap (w.setCell a u) b n M:=let ⟨D,h1,h2⟩:=h; ⟨D,h1.setCell ha u,h2⟩
theorem zax (w:World):(zeroValue 131).run Tryz.prog w=.ok (.pointer none) w:=by kernel_rfl
theorem ChunkMap.look {w:World} {b n k:Nat} {M:Nat→Option Nat} (h:ChunkMap w b n M) (hk:k<2 ^ 64):∃ v,(Instr.lookup 58 (.map (some b)) (KEY k) true).run Tryz.prog w=.ok (.tuple #[v,.bool (M k).isSome]) w∧(∀ g,M k=some g→v=.pointer (some ⟨g,0,none⟩))∧(M k=none→v=.pointer none):=by
  obtain ⟨D,h1,h2⟩:=h
  obtain ⟨v,ps,r1,r2⟩:=h1.look_ok lawKey Tryz.underlying58 (zax w) (show PE (.pointer none)=some (UD 0,[]) from rfl) (z1X hk)
  refine ⟨v,by rw [r1,(h2 k hk).1],fun g hg=>?_,fun hg=>?_⟩
  · rw [(h2 k hk).2 g hg] at r2
    exact zcZ r2
  · have hn:Maps.has D (KK k)=false:=by rw [(h2 k hk).1,hg];rfl
    rw [Maps.atKey_of_not_has hn] at r2
    exact zh7 r2
theorem ChunkMap.get {w:World} {b n k g:Nat} {M:Nat→Option Nat} (h:ChunkMap w b n M) (hk:k<2 ^ 64) (hg:M k=some g):(Instr.lookup 58 (.map (some b)) (KEY k) false).run Tryz.prog w=.ok (.pointer (some ⟨g,0,none⟩)) w:=by
  obtain ⟨D,h1,h2⟩:=h
  obtain ⟨v,ps,r1,r2⟩:=h1.lookup lawKey Tryz.underlying58 (zax w) (show PE (.pointer none)=some (UD 0,[]) from rfl) (z1X hk)
  rw [(h2 k hk).2 g hg] at r2
  rw [r1,zcZ r2]
theorem ChunkMap.store {w:World} {b n k g:Nat} {M:Nat→Option Nat} (h:ChunkMap w b n M) (hn:n<2 ^ 40) (hk:k<2 ^ 64):∃ w',(Instr.mapUpdate 58 (.map (some b)) (KEY k) (.pointer (some ⟨g,0,none⟩))).run Tryz.prog w=.ok () w'∧ChunkMap w' b (n+1) (fun j=>if j=k then some g else M j)∧w.grownBy w' (some b):=by
  obtain ⟨D,h1,h2⟩:=h
  obtain ⟨w',r1,r2,r3⟩:=h1.update lawKey Tryz.underlying58 (by unfold maxLen;omega) (z1X hk) (zh6 (g:=g))
  refine ⟨w',r1,⟨_,r2,fun j hj=>?_⟩,r3⟩
  dsimp only
  have hkey:WideAt.IsKeyLit (KK k):=lawKey.key (z1X hk)
  by_cases e:j=k
  · subst e
    rw [if_pos rfl]
    exact ⟨by rw [Maps.has_put_same h1.isMap hkey];rfl,fun g' hg'=>by cases hg';rw [Maps.atKey_put_same h1.isMap hkey]⟩
  · rw [if_neg e,Maps.has_put_other (fun h=>e (zcY hj hk h)),Maps.atKey_put_other (fun h=>e (zcY hj hk h))]
    exact h2 j hj
end Go.Proofs.YtbeelmlpalkohaaGreatDoor.HX
