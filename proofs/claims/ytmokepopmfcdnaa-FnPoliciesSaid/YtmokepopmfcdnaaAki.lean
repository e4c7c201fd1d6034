import Derived.Test.YtmokepopmfcdnaaAif
import Derived.BigQuiet
import Derived.Deep.QuietTactic
namespace Go.Proofs.Ytmokepopmfcdnaa
open Go.RowKit

def placeK (id : Int) : List Kk → Nat
  | [] => 0
  | k :: r => if k.1 < id then placeK id r + 1 else 0
theorem placeK_le (id : Int) (l : List Kk) : placeK id l ≤ l.length := by
  induction l with
  | nil => simp [placeK]
  | cons x r ih => unfold placeK; split <;> simp <;> omega
theorem placeK_eq (id : Int) : ∀ (ks : List Kk) (xs : List Av), ks.map (·.1) = xs.map (·.id) → placeK id ks = placeA id xs
  | [], [], _ => rfl
  | [], _ :: _, h => by simp at h
  | _ :: _, [], h => by simp at h
  | k :: ks, x :: xs, h => by
    simp only [List.map_cons, List.cons.injEq] at h
    unfold placeK placeA
    rw [h.1, placeK_eq id ks xs h.2]
theorem placeK_keys (id : Int) (xs : List Av) : placeK id (keysA xs) = placeA id xs := by
  refine placeK_eq id _ _ (List.ext_getElem (by rw [List.length_map, List.length_map, keysA_len]) (fun i h1 h2 => ?_))
  rw [List.getElem_map, List.getElem_map, keysA_get, keyAt_fst xs i (by rw [List.length_map] at h2; exact h2)]

theorem dN_below (W : World) (n : Nat) : Below W.heap.size W (W.drewN n) := ⟨rfl, rfl, rfl, Nat.le_refl _, fun _ _ => rfl⟩

end Go.Proofs.Ytmokepopmfcdnaa
