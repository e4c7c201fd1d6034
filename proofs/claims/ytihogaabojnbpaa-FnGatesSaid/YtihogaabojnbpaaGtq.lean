import Derived.Test.YtihogaabojnbpaaGtp
namespace Go.Proofs.Ytihogaabojnbpaa

/-- So many were taken. -/
def cntB (l : List Bool) : Nat := l.count true
theorem cntB_succ (l : List Bool) (k : Nat) (h : k < l.length) : cntB (l.take (k + 1)) = cntB (l.take k) + (if l[k] = true then 1 else 0) := by
  unfold cntB
  rw [List.take_succ_eq_append_getElem h, List.count_append, List.count_singleton]
  congr 1
  cases l[k] <;> rfl
theorem take_same (b : Bt) : (takeB b).1.hav + (if (takeB b).2 = true then 1 else 0) = b.hav ∧ (takeB b).1.rate = b.rate ∧ (takeB b).1.burst = b.burst := by
  unfold takeB
  split
  · simp
  · simp
theorem tks_same (n : Nat) (p : Bt × List Bool) : (tksB n p).1.hav + (cntB (tksB n p).2 : Int) = p.1.hav + (cntB p.2 : Int) ∧ (tksB n p).1.rate = p.1.rate ∧ (tksB n p).1.burst = p.1.burst := by
  induction n with
  | zero => exact ⟨rfl, rfl, rfl⟩
  | succ n ih =>
    obtain ⟨h1, h2, h3⟩ := take_same (tksB n p).1
    refine ⟨?_, h2.trans ih.2.1, h3.trans ih.2.2⟩
    have h4 : cntB ((tksB n p).2 ++ [(takeB (tksB n p).1).2]) = cntB (tksB n p).2 + (if (takeB (tksB n p).1).2 = true then 1 else 0) := by
      unfold cntB
      rw [List.count_append, List.count_singleton]
      congr 1
      cases (takeB (tksB n p).1).2 <;> rfl
    have h5 := ih.1
    simp only [tksB]
    rw [h4]
    revert h1
    cases (takeB (tksB n p).1).2 <;> simp <;> omega
theorem fill_le (b : Bt) (h : b.Ok) : (fillB b 1).hav ≤ b.hav + b.rate ∧ (fillB b 1).rate = b.rate ∧ (fillB b 1).burst = b.burst := by
  unfold fillB
  rw [if_pos ⟨h, by omega, by omega⟩]
  refine ⟨?_, rfl, rfl⟩
  simp only
  omega
theorem tick_le (p : Bt × List Bool) (a : Int) (h : p.1.Ok) : (tickB p a).1.hav + (cntB (tickB p a).2 : Int) ≤ p.1.hav + (cntB p.2 : Int) + p.1.rate ∧ (tickB p a).1.rate = p.1.rate := by
  obtain ⟨h1, h2, -⟩ := tks_same (min a 20).toNat (fillB p.1 1, p.2)
  obtain ⟨h3, h4, -⟩ := fill_le p.1 h
  refine ⟨?_, h2.trans h4⟩
  simp only at h1
  unfold tickB
  omega
theorem fold_le (asks : List Int) (p : Bt × List Bool) (h : p.1.Ok) : (asks.foldl tickB p).1.hav + (cntB (asks.foldl tickB p).2 : Int) ≤ p.1.hav + (cntB p.2 : Int) + p.1.rate * (asks.length : Int) := by
  induction asks generalizing p with
  | nil => simp
  | cons a r ih =>
    have h1 := ih (tickB p a) (tick_ok p a h)
    obtain ⟨h2, h3⟩ := tick_le p a h
    rw [h3] at h1
    have h4 : p.1.rate * (((a :: r).length : Nat) : Int) = p.1.rate * (r.length : Int) + p.1.rate := by
      rw [List.length_cons, Int.natCast_add, Int.mul_add]
      simp
    rw [h4]
    simp only [List.foldl_cons]
    omega
theorem run_cnt (b : Bt) (asks : List Int) (h : b.Ok) : (cntB (runB b asks) : Int) ≤ b.burst + b.rate * (asks.length : Int) := by
  have h0 : 0 ≤ b.rate * (asks.length : Int) := Int.mul_nonneg h.1 (Int.natCast_nonneg _)
  have h' := h
  unfold Bt.Ok at h'
  unfold runB
  split
  · have h1 := fold_le asks (b, []) h
    have h2 := fold_ok asks (b, []) h
    unfold Bt.Ok at h2
    simp only [cntB, List.count_nil] at h1 ⊢
    omega
  · simp only [cntB, List.count_nil]
    omega
theorem fill_full (b : Bt) (h : b.Ok) (hr : b.rate ≠ 0) : (fillB b 1000).hav = b.burst := by
  unfold fillB
  rw [if_pos ⟨h, by omega, by omega⟩]
  unfold Bt.Ok at h
  simp only
  omega
end Go.Proofs.Ytihogaabojnbpaa
