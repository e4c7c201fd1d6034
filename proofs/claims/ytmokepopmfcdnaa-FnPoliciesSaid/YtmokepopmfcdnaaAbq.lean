import Derived.Test.YtmokepopmfcdnaaAbo
namespace Go.Proofs.Ytmokepopmfcdnaa
open Go.RowKit

theorem drop_pure {F : Kk → Option Av} {ms : List Av} (h : FK F ms ms.length) (id : Int) : (keysA ms).filterMap (upd F (id, 0) none) = (dropA ms id).1 ∧ (F (id, 0)).isSome = (dropA ms id).2 := by
  unfold dropA
  cases ha : atA id ms with
  | some i =>
    obtain ⟨a, hf⟩ := book_some h id i ha
    exact ⟨book_drop h id i ha, by rw [hf]; rfl⟩
  | none =>
    obtain ⟨h1, h2⟩ := book_none h id ha
    exact ⟨h1, by rw [h2]; rfl⟩
theorem put_pure {F : Kk → Option Av} {ms : List Av} (h : FK F ms ms.length) (a : Av) : (orderP (keysA ms) a.id).filterMap (upd F (a.id, 0) (some a)) = outA ms a := by
  unfold orderP outA
  cases ha : atA a.id ms with
  | some i =>
    rw [if_pos (mem_keys.2 ⟨i, ha⟩)]
    exact book_put h a i ha
  | none =>
    rw [if_neg (fun hm => by obtain ⟨i, hi⟩ := mem_keys.1 hm; rw [ha] at hi; cases hi), placeK_keys]
    exact book_new h a ha _

end Go.Proofs.Ytmokepopmfcdnaa
