import Derived.Test.YtdajfnonehianaaEk2
namespace Go.Proofs.Ytdajfnonehianaa
open Go.RowKit

section
variable {α : Type} {K : EK α}
/-- append onto a row in block q: in place or anew. -/
theorem lie_app1 (K : EK α) (t ty : TypeId) (ht : Try.prog.underlying t = some (.slice K.t)) (W : World) {q : Nat} (v x : Value) (xs ys : List α)
    (hv : LieE K W q (q + 1) v xs) (hq : q < W.heap.size) (hx : RdE K W x ys) (hy : 0 < ys.length) (hl : xs.length + ys.length ≤ 1099511627776) :
    ∃ v' W', (Builtin.append_ #[t, t] ty #[v, x]).run Try.prog W = .ok v' W' ∧ LieE K W' q W'.heap.size v' (xs ++ ys) ∧ Below q W W' ∧ (LieE K W' q (q + 1) v' (xs ++ ys) ∨ LieE K W' W.heap.size W'.heap.size v' (xs ++ ys)) ∧ (∀ k, k < W.heap.size → k ≠ q → W'.heap[k]? = W.heap[k]?) := by
  obtain ⟨a, c, rfl, hc, hz, h⟩ := hv
  obtain ⟨ax, cx, rfl, hr⟩ := hx
  obtain ⟨b', off', rfl, hrr⟩ := hr hy
  obtain ⟨i0, hi, hz0, hz1, hz2⟩ := einfo K
  have hb := K.bnd
  have hm : (xs.length + ys.length) * K.bytes ≤ 1099511627776 * 128 := Nat.mul_le_mul hl hb
  have hzs : K.zv.cells.size = K.n := by rw [K.zcs, List.size_toArray, K.len]
  have fin : ∀ v' W', W'.ownsRow W.heap.size K.t K.n v' (xs.length + ys.length) (K.flat xs ++ K.flat ys) → W.grownBy W' none → LieE K W' q W'.heap.size v' (xs ++ ys) ∧ Below q W W' ∧ (LieE K W' q (q + 1) v' (xs ++ ys) ∨ LieE K W' W.heap.size W'.heap.size v' (xs ++ ys)) ∧ (∀ k, k < W.heap.size → k ≠ q → W'.heap[k]? = W.heap[k]?) := fun v' W' h2 h3 => by
    have hown : OwnE K W' W.heap.size W'.heap.size v' (xs ++ ys) := by
      refine ⟨by rw [eflat_append, List.length_append]; exact h2, fun g hg => ?_⟩
      rcases h2.2 with ⟨rfl, -⟩ | ⟨g', cap', cur, rfl, -, hh, -⟩
      · cases hg
      · simp [Value.ownBlock] at hg
        subst hg
        exact (Array.getElem?_eq_some_iff.1 hh).1
    exact ⟨hown.lie.mono (by omega) (Nat.le_refl _), (Below.refl q W).grown h3 (by omega) (fun i hi => by cases hi), .inr hown.lie, fun k hk _ => h3.block k hk (by simp)⟩
  cases a with
  | none =>
    obtain rfl := hz rfl
    have hx0 : xs = [] := List.eq_nil_of_length_eq_zero (by omega)
    subst hx0
    obtain ⟨v', W', hrun, r1, r2, _⟩ := run_append_own (P := Try.prog) W W.heap.size t ty K.t i0 _ K.n K.bytes ht hi hz0 hz1 hz2 hzs K.pos (.slice none 0 0) 0 [] (World.ownsRow_nil W _ K.t K.n) ⟨b', off', none⟩ ys.length cx (K.flat ys) (eflat_length K ys)
      (fun j u hj => by rw [Addr.add_mid]; exact hrr j u hj) (eflat_oneCell K ys) (by unfold maxLen; simp at hl; omega) (by rw [Nat.zero_add]; simp at hm; omega) (Nat.le_refl _)
    obtain ⟨f1, f2, f3, f4⟩ := fin v' W' (by simpa [EK.flat] using r1) r2
    exact ⟨v', W', hrun, f1, f2, f3, f4⟩
  | some a0 =>
    by_cases hcz : 0 < c
    · obtain ⟨b, off, he, ⟨hb1, hb2⟩, ⟨cur, hh, hsz⟩, hrg⟩ := h hcz
      obtain rfl := Option.some.inj he
      by_cases hroom : xs.length + ys.length ≤ c
      · have hxl : (K.flat xs).length = xs.length * K.n := eflat_length K xs
        have hyl : (K.flat ys).length = ys.length * K.n := eflat_length K ys
        have hmul : xs.length * K.n + ys.length * K.n ≤ c * K.n := by
          rw [← Nat.add_mul]
          exact Nat.mul_le_mul_right _ hroom
        have hrun := run_append_room_cells (P := Try.prog) W t ty K.t i0 ht hi b off xs.length c ⟨b', off', none⟩ ys.length cx (K.flat ys) (by rw [hz1]; exact hyl) (fun j u hj => by rw [Addr.add_mid]; exact hrr j u hj) (eflat_oneCell K ys) hroom
          (fun j hj => by
            rw [hz1, Go.cell_of_row _ _ _ _ _ _ hh, Array.getElem?_eq_getElem (by omega)]
            rfl)
          (fun j hj => by simp [World.frozen?, hh])
        rw [hz1] at hrun
        have hB2 := esetC_below b q hb1 (off + xs.length * K.n) (K.flat ys) W
        have hoth := fun k (hk : k ≠ b) => esetC_other b (off + xs.length * K.n) (K.flat ys) W k hk
        have hsize := esetC_size b (off + xs.length * K.n) (K.flat ys) W
        obtain ⟨cur', hnew, hsz', hlist⟩ := eset_same b K.t (K.flat ys) (off + xs.length * K.n) W cur hh (by rw [hyl]; omega)
        rw [hyl] at hlist
        have hcl : cur.toList.length = cur.size := Array.length_toList
        have hn1 : xs.length * K.n ≤ c * K.n := Nat.mul_le_mul_right _ hc
        obtain rfl : b = q := by omega
        have hlie : LieE K (W.setCells b (off + xs.length * K.n) (K.flat ys)) b (b + 1) (.slice (some ⟨b, off, none⟩) (xs.length + ys.length) c) (xs ++ ys) := by
          refine ⟨some ⟨b, off, none⟩, c, by rw [List.length_append], by rw [List.length_append]; exact hroom, (fun h => by cases h), fun _ => ⟨b, off, rfl, ⟨Nat.le_refl _, Nat.lt_succ_self _⟩, ⟨cur', hnew, by rw [hsz']; exact hsz⟩, fun j u hj => ?_⟩⟩
          rw [Go.cell_of_row _ _ _ _ _ _ hnew]
          rw [eflat_append] at hj
          rw [← Array.getElem?_toList, hlist, List.append_assoc]
          by_cases hjx : j < xs.length * K.n
          · rw [List.getElem?_append_left (by rw [hxl]; exact hjx)] at hj
            rw [List.getElem?_append_left (by rw [List.length_take]; omega), List.getElem?_take_of_lt (by omega)]
            have := hrg j u hj
            rw [Go.cell_of_row _ _ _ _ _ _ hh] at this
            rw [Array.getElem?_toList]
            exact this
          · rw [List.getElem?_append_right (by rw [hxl]; omega), hxl] at hj
            have hjy : j - xs.length * K.n < ys.length * K.n := by
              have := (List.getElem?_eq_some_iff.1 hj).1
              rw [hyl] at this
              exact this
            rw [List.getElem?_append_right (by rw [List.length_take]; omega), List.length_take, Nat.min_eq_left (by omega)]
            rw [List.getElem?_append_left (by rw [hyl]; omega)]
            rw [show off + j - (off + xs.length * K.n) = j - xs.length * K.n by omega]
            exact hj
        exact ⟨_, _, hrun, hlie.mono (Nat.le_refl _) (by rw [hsize]; omega), hB2, .inl hlie, fun k _ hk => hoth k hk⟩
      · obtain ⟨v', W', hrun, r1, r2⟩ := run_append_arg_grows (P := Try.prog) W t ty K.t i0 _ K.n K.bytes ht hi hz0 hz1 hz2 hzs K.pos ⟨b, off, none⟩ xs.length c (K.flat xs) (eflat_length K xs) (fun j u hj => by rw [Addr.add_mid]; exact hrg j u hj) ⟨b', off', none⟩ ys.length cx (K.flat ys) (eflat_length K ys)
          (fun j u hj => by rw [Addr.add_mid]; exact hrr j u hj) (by omega) (by unfold maxLen; omega) (by omega)
        obtain ⟨f1, f2, f3, f4⟩ := fin v' W' r1 r2
        exact ⟨v', W', hrun, f1, f2, f3, f4⟩
    · obtain rfl : c = 0 := by omega
      have hx0 : xs = [] := List.eq_nil_of_length_eq_zero (by omega)
      subst hx0
      obtain ⟨v', W', hrun, r1, r2⟩ := run_append_arg_grows (P := Try.prog) W t ty K.t i0 _ K.n K.bytes ht hi hz0 hz1 hz2 hzs K.pos a0 0 0 [] (by simp) (fun j u hj => by simp at hj) ⟨b', off', none⟩ ys.length cx (K.flat ys) (eflat_length K ys)
        (fun j u hj => by rw [Addr.add_mid]; exact hrr j u hj) (by omega) (by unfold maxLen; simp at hl; omega) (by rw [Nat.zero_add]; simp at hm; omega)
      obtain ⟨f1, f2, f3, f4⟩ := fin v' W' (by simpa [EK.flat] using r1) r2
      exact ⟨v', W', hrun, f1, f2, f3, f4⟩

end
end Go.Proofs.Ytdajfnonehianaa
