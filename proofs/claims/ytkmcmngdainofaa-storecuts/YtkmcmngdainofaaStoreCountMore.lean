/- How many chunks there are at least. -/
import Derived.Test.YtkmcmngdainofaaStoreCount
namespace Go.Proofs.Ytkmcmngdainofaa
open Go.RowKit Go.Maps Go.WideShapes
set_option maxRecDepth 100000

theorem apart_ge {α : Type} [DecidableEq α] : ∀ (ks l : List α), ks.Nodup → (∀ k ∈ ks, k ∈ l) → ks.length ≤ l.length
  | [], l, _, _ => Nat.zero_le _
  | k :: ks, l, hn, h => by
    obtain ⟨h1, h2⟩ := List.nodup_cons.1 hn
    have hk := h k (by simp)
    have ih := apart_ge ks (l.erase k) h2 (fun x hx => (List.mem_erase_of_ne (fun e => h1 (by rw [← e]; exact hx))).2 (h x (by simp [hx])))
    rw [List.length_erase_of_mem hk] at ih
    have : 0 < l.length := List.length_pos_of_mem hk
    simp
    omega
theorem keys_apart (n : Nat) (hn : n ≤ 2 ^ 64) : ((List.range n).map KK).Nodup := by
  rw [List.nodup_iff_pairwise_ne, List.pairwise_map]
  refine List.Pairwise.imp_of_mem ?_ (List.nodup_iff_pairwise_ne.1 List.nodup_range)
  intro a b ha hb hab e
  exact hab (KK_inj (by have := List.mem_range.1 ha; omega) (by have := List.mem_range.1 hb; omega) e)
theorem CHS.many {D : DataW Unit} {C : CHUNKS} (h : CHS D C) (n : Nat) (hn : n ≤ 2 ^ 64) (hC : ∀ k, k < n → (C k).isSome = true) : n ≤ Maps.size D := by
  classical
  obtain ⟨⟨es, rfl, _, _⟩, _, h3⟩ := h
  have := apart_ge ((List.range n).map KK) (es.map Prod.fst) (keys_apart n hn) (fun x hx => by
    obtain ⟨k, hk, rfl⟩ := List.mem_map.1 hx
    have hk2 := List.mem_range.1 hk
    obtain ⟨p, hp, e⟩ := (has_mem (es := es) (k := k) (by omega)).1 (by rw [h3 k (by omega)]; exact hC k hk2)
    exact List.mem_map.2 ⟨p, hp, e⟩)
  simpa [Maps.size_eq] using this
end Go.Proofs.Ytkmcmngdainofaa
