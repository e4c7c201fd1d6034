import Derived.Test.YtlkhgamhhblmgaaDoorLaneG
namespace Go.Proofs.YtlkhgamhhblmgaaDoor
open Go.RowKit

theorem pre_short (p : Nat) : (pre p).length ≤ 28 := by
  unfold pre
  split <;> decide

theorem texts_len (p lo : Nat) (h : lo + 14 ≤ 70) : ∀ t ∈ textsOf p lo 14, t.length ≤ 118 := by
  intro t ht
  obtain ⟨j, hj, rfl⟩ := List.mem_map.1 ht
  have hj := List.mem_range.1 hj
  have := pre_short p
  simp only [txt, List.length_append, List.length_replicate]
  omega

theorem texts_mem (p m : Nat) (_h : m < 70) : txt p m ∈ textsOf p (14 * (m / 14)) 14 :=
  List.mem_map.2 ⟨m % 14, List.mem_range.2 (by omega), by rw [show 14 * (m / 14) + m % 14 = m by omega]⟩

/-- The marks of the drawn texts and of them with one byte more, under the keys of one length. -/
def ApartAt (L : Nat) : Prop := ∀ p m, p < 4 → m < 70 → ∀ i, i < 256 → hmacOf (keyB L (bv i)) ⟨(txt p m).toArray⟩ ≠ hmacOf (keyB L (bv i)) ⟨(txt p m ++ [97]).toArray⟩

theorem tab_short (L : Nat) (hL : L ≤ 64) (h : ∀ p c, p < 4 → c < 5 → shortB L (textsOf p (14 * c) 14) = true) : ApartAt L := fun p m hp hm i hi =>
  short_apart L hL _ (texts_len p _ (by omega)) (h p (m / 14) hp (by omega)) _ (texts_mem p m hm) i hi

theorem tab_long (L : Nat) (hL : 64 < L) (hp : L + 1 + zerosOf L + 8 = 128) (h : ∀ p c, p < 4 → c < 5 → longB L (textsOf p (14 * c) 14) = true) : ApartAt L := fun p m hp' hm i hi =>
  long_apart L hL hp _ (texts_len p _ (by omega)) (h p (m / 14) hp' (by omega)) _ (texts_mem p m hm) i hi

end Go.Proofs.YtlkhgamhhblmgaaDoor
