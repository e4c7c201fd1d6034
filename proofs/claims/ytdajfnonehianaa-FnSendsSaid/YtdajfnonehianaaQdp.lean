import Derived.Test.YtdajfnonehianaaQom
namespace Go.Proofs.Ytdajfnonehianaa

theorem anw_ok (o : Ot) (h : o.Ok) : (anw o).Ok ∧ (anw o).base = o.base := by
  unfold anw
  rw [if_pos h]
  refine ⟨?_, rfl⟩
  unfold Ot.Ok at h ⊢
  simp only
  omega
theorem acc_ok (o : Ot) (x : ByteArray) (h : o.Ok) : (acc o x).1.Ok ∧ (acc o x).1.base = o.base := by
  unfold acc
  split
  · rename_i hq
    have h2 := hq.2
    refine ⟨?_, rfl⟩
    unfold accN at h2 ⊢
    unfold Ot.Ok at h ⊢
    simp only [ByteArray.size_append, ByteArray.size_extract]
    omega
  · exact ⟨h, rfl⟩
theorem nxt_end (o : Ot) (h : o.Ok) : o.sent + ((nxt o).1.text.size : Int) ≤ o.base + (o.text.size : Int) := by
  unfold nxt
  split
  · have hf := firstOf_size (o.text.extract (o.sent - o.base).toNat o.text.size) 20 (by omega)
    have he : ((o.text.extract (o.sent - o.base).toNat o.text.size).size : Int) = (o.text.size : Int) - (o.sent - o.base) := by
      unfold Ot.Ok at h
      simp only [ByteArray.size_extract]
      omega
    unfold Ot.Ok at h
    simp only
    omega
  · unfold Ot.Ok at h
    show o.sent + ((0 : Nat) : Int) ≤ _
    omega
theorem was_ok (o : Ot) (h : o.Ok) : (was o).Ok ∧ (was o).base = o.base := by
  have h2 := nxt_end o h
  refine ⟨?_, rfl⟩
  unfold was
  unfold Ot.Ok at h ⊢
  simp only
  omega
theorem came_ok (o : Ot) (u : Int) (h : o.Ok) (hb : o.base ≤ 1000) (hu : u ≤ o.base + 19) : (came o u).Ok ∧ (came o u).base ≤ o.base + 19 := by
  unfold came
  split
  · rename_i hq
    unfold Ot.Ok at h ⊢
    simp only [ByteArray.size_extract]
    omega
  · exact ⟨h, by omega⟩
end Go.Proofs.Ytdajfnonehianaa
