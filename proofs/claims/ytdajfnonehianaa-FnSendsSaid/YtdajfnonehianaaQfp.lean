import Derived.Test.YtdajfnonehianaaQdp
namespace Go.Proofs.Ytdajfnonehianaa

theorem ext_split (u : ByteArray) (m k : Nat) : u.extract 0 m ++ u.extract m (m + k) = u.extract 0 (m + k) := by
  apply ByteArray.ext
  simp only [ByteArray.data_append, ByteArray.data_extract]
  rw [Array.extract_append_extract]
  rw [Nat.min_eq_left (Nat.zero_le _), Nat.max_eq_right (by omega)]
theorem ext_none (u : ByteArray) (m : Nat) (h : u.size ≤ m) : u.extract m u.size = ⟨#[]⟩ := by
  apply ByteArray.ext
  simp only [ByteArray.data_extract]
  apply Array.eq_empty_of_size_eq_zero
  simp only [Array.size_extract]
  have : u.data.size = u.size := rfl
  omega
theorem ext_first (u : ByteArray) (m : Nat) : firstOf (u.extract m u.size) 20 = u.extract m (m + min 20 (u.size - m)) := by
  unfold firstOf
  apply ByteArray.ext
  simp only [ByteArray.data_extract, Array.extract_extract, ByteArray.size_extract]
  have h1 : u.data.size = u.size := rfl
  apply Array.ext
  · simp only [Array.size_extract, h1]
    omega
  · intro i h2 h3
    simp only [Array.getElem_extract, Nat.add_zero]
theorem nxt_at (u : ByteArray) (b r : Int) (m : Nat) (hok : Ot.Ok ⟨u, b, b + (m : Int), r⟩) (hm : m < u.size) :
    nxt ⟨u, b, b + (m : Int), r⟩ = (⟨b + (m : Int), u.extract m (m + min 20 (u.size - m))⟩, true) := by
  unfold nxt
  rw [if_pos ⟨hok, by simp only; omega⟩]
  simp only
  rw [show (b + (m : Int) - b).toNat = m by omega, ext_first]
theorem nxt_none (u : ByteArray) (b r : Int) (m : Nat) (hm : m = u.size) : nxt ⟨u, b, b + (m : Int), r⟩ = (⟨0, ⟨#[]⟩⟩, false) := by
  unfold nxt
  rw [if_neg (fun h => h.2 (by simp only; omega))]
theorem was_at (u : ByteArray) (b r : Int) (m : Nat) (hok : Ot.Ok ⟨u, b, b + (m : Int), r⟩) (hm : m < u.size) :
    was ⟨u, b, b + (m : Int), r⟩ = ⟨u, b, b + ((m + min 20 (u.size - m) : Nat) : Int), r⟩ := by
  unfold was
  rw [nxt_at u b r m hok hm]
  simp only [ByteArray.size_extract]
  congr 1
  omega
theorem ok_at (u : ByteArray) (b r : Int) (m : Nat) (h : 0 ≤ b ∧ b ≤ 1000 ∧ 1 ≤ r ∧ r ≤ 200 ∧ (u.size : Int) ≤ r) (hm : m ≤ u.size) : Ot.Ok ⟨u, b, b + (m : Int), r⟩ := by
  unfold Ot.Ok
  simp only
  omega
theorem acc_is (o : Ot) (x : ByteArray) (hok : o.Ok) (hb : o.base ≤ 1000) : acc o x = (⟨o.text ++ x.extract 0 (accN o x).toNat, o.base, o.sent, o.room⟩, accN o x) := by
  unfold acc
  rw [if_pos ⟨hok, by unfold accN; unfold Ot.Ok at hok; omega⟩]
theorem acc_none (o : Ot) (x : ByteArray) (hok : ¬ o.Ok) : acc o x = (o, 0) := by
  unfold acc
  rw [if_neg (fun h => hok h.1)]
theorem anw_is (o : Ot) (hok : o.Ok) : anw o = ⟨o.text, o.base, o.base, o.room⟩ := by unfold anw; rw [if_pos hok]
/-- What has come: the whole text. -/
theorem came_all (u : ByteArray) (b r : Int) (h : Ot.Ok ⟨u, b, b + (u.size : Int), r⟩) (hb : b ≤ 1000) :
    (came ⟨u, b, b + (u.size : Int), r⟩ (b + (u.size : Int))).Ok ∧ (u.size ≠ 0 → (came ⟨u, b, b + (u.size : Int), r⟩ (b + (u.size : Int))).text = ⟨#[]⟩ ∧ (came ⟨u, b, b + (u.size : Int), r⟩ (b + (u.size : Int))).base = b + (u.size : Int)) := by
  unfold came
  split
  · rename_i hq
    simp only at hq ⊢
    refine ⟨?_, fun _ => ⟨?_, trivial⟩⟩
    · unfold Ot.Ok at h ⊢
      simp only [ByteArray.size_extract] at h ⊢
      omega
    · exact ext_none _ _ (by omega)
  · rename_i hq
    refine ⟨h, fun hz => absurd ⟨h, ?_, ?_⟩ hq⟩ <;> simp only <;> omega
end Go.Proofs.Ytdajfnonehianaa
