import Derived.Test.YtjnobggefofjcaaMok
import Derived.Maps.AppendAt
namespace Go.Proofs.Ytjnobggefofjcaa
open Go.RowKit

theorem uM : Try.prog.underlying 24 = some (.slice 26) := Try.underlying24
theorem uL : Try.prog.underlying 50 = some (.slice 26) := Try.underlying50

/-- append looks at its first type alone, where both are slices. -/
theorem append_types (t tx ty e e' : TypeId) (base : Option Addr) (n cap : Nat) (x : Value) (ht : Try.prog.underlying t = some (.slice e)) (hx : Try.prog.underlying tx = some (.slice e')) (W : World) :
    (Builtin.append_ #[t, tx] ty #[.slice base n cap, x]).run Try.prog W = (Builtin.append_ #[t, t] ty #[.slice base n cap, x]).run Try.prog W := by
  unfold Builtin.append_
  simp [run_underlying ht, run_underlying hx]

theorem run_append_none (t tx ty : TypeId) (ht : Try.prog.underlying t = some (.slice 26)) (hx : Try.prog.underlying tx = some (.slice 26)) (W : World) (base a : Option Addr) (n cap c : Nat) (hn : n ≤ cap) :
    (Builtin.append_ #[t, tx] ty #[.slice base n cap, .slice a 0 c]).run Try.prog W = .ok (.slice base n cap) W := by
  rw [append_types t tx ty _ _ _ _ _ _ ht hx]
  obtain ⟨i0, hi, -, -, -⟩ := info_parts infoM
  cases base <;> cases a <;> simp [Builtin.append_, run_underlying ht, sizeOf, typeInfo, hi, Builtin.lenOf, Builtin.firstCells, loadCells, loadCellsFrom, storeCells, hn]

/-- Mappings behind a row of one's own. -/
theorem run_append_maps (t tx ty : TypeId) (ht : Try.prog.underlying t = some (.slice 26)) (htx : Try.prog.underlying tx = some (.slice 26)) (W : World) (B : Nat) (v x : Value) (xs ys : List Mp)
    (hv : OwnM W B W.heap.size v xs) (hB : B ≤ W.heap.size) (hx : RdM W x ys) (hl : xs.length + ys.length ≤ 1099511627776) :
    ∃ v' W', (Builtin.append_ #[t, tx] ty #[v, x]).run Try.prog W = .ok v' W' ∧ OwnM W' B W'.heap.size v' (xs ++ ys) ∧ W.grownBy W' v.ownBlock ∧ (v'.ownBlock = v.ownBlock ∨ v'.ownBlock = some W.heap.size) := by
  obtain ⟨a, c, rfl, hr⟩ := hx
  by_cases h0 : 0 < ys.length
  · obtain ⟨b, off, rfl, hrr⟩ := hr h0
    obtain ⟨va, vc, hva, -⟩ := hv.form
    have hat : ∀ y, (Builtin.append_ #[t, tx] ty #[v, y]).run Try.prog W = (Builtin.append_ #[t, t] ty #[v, y]).run Try.prog W := fun y => by rw [hva]; exact append_types t tx ty _ _ _ _ _ _ ht htx W
    rw [hat]
    obtain ⟨i0, hi, hz0, hz1, hz2⟩ := info_parts infoM
    obtain ⟨v', w', h1, h2, h3, h4, h5⟩ := run_append_own_at (P := Try.prog) W B t ty 26 i0 _ 3 24 ht hi hz0 hz1 hz2 rfl (by omega) v xs.length (flat xs) hv.1 ⟨b, off, none⟩ ys.length c (flat ys) (flat_length ys)
      (fun j u hj => by rw [Addr.add_mid]; exact hrr j u hj) (flat_oneCell ys) (by unfold maxLen; omega) (by omega) hB
    refine ⟨v', w', h1, ⟨?_, fun g hg => ?_⟩, h3, h5⟩
    · rw [flat_append, List.length_append]
      exact h2
    · rcases h2.2 with ⟨rfl, -⟩ | ⟨g', cap', cur, rfl, -, hh, -⟩
      · cases hg
      · simp [Value.ownBlock] at hg
        subst hg
        exact (Array.getElem?_eq_some_iff.1 hh).1
  · have hy : ys = [] := List.eq_nil_of_length_eq_zero (by omega)
    subst hy
    rw [List.append_nil]
    rcases hv.1.2 with ⟨rfl, -⟩ | ⟨g', cap', cur, rfl, -, hh, hcap, -⟩
    · exact ⟨_, W, run_append_none t tx ty ht htx W none a 0 0 c (Nat.le_refl _), hv, World.grownBy.refl _ _, .inl rfl⟩
    · exact ⟨_, W, run_append_none t tx ty ht htx W _ a xs.length cap' c hcap, hv, World.grownBy.refl _ _, .inl rfl⟩

theorem wpList_append_maps {ops : Array Oper} {rest : List Oper} {o : Oper} {a : Act} {W : World} {Q : Exit → Act → World → Prop} (hgd : o.guard = none) (s y : Operand) (t tx : TypeId)
    (ho : o.op = .call { callee := .builtin .append, args := #[s, y], argTypes := #[t, tx] }) (ht : Try.prog.underlying t = some (.slice 26)) (htx : Try.prog.underlying tx = some (.slice 26))
    (B : Nat) (v x : Value) (xs ys : List Mp) (hs : a.eval s = v) (hy : a.eval y = x) (hv : OwnM W B W.heap.size v xs) (hB : B ≤ W.heap.size) (hx : RdM W x ys) (hl : xs.length + ys.length ≤ 1099511627776)
    (h : ∀ v' W', OwnM W' B W'.heap.size v' (xs ++ ys) → W.grownBy W' v.ownBlock → (v'.ownBlock = v.ownBlock ∨ v'.ownBlock = some W.heap.size) → wpList Try.prog ops Q rest (a.put o.dst v') W') : wpList Try.prog ops Q (o :: rest) a W := by
  refine wpList_plain hgd fun K hK => ?_
  obtain ⟨v', w', hr, h2, h3, h5⟩ := run_append_maps t tx o.type ht htx W B v x xs ys hv hB hx hl
  unfold Oper.wp execOp
  simp only [ho, resolve, invoke, builtin, Sem.run_bind, Sem.run_pure, Result.andThen_ok, List.map_toArray, List.map_cons, List.map_nil, hs, hy, hr]
  exact hK _ _ (h v' w' h2 h3 h5)

/-- The same, at a step of a region that draws its order. -/
theorem step_append_maps {ops : Array Oper} {o : Oper} {a : Act} {W : World} {K : Act → World → Prop} {Q : Exit → Act → World → Prop} {E : Prop} (hgd : o.guard = none) (s y : Operand) (t tx : TypeId)
    (ho : o.op = .call { callee := .builtin .append, args := #[s, y], argTypes := #[t, tx] }) (ht : Try.prog.underlying t = some (.slice 26)) (htx : Try.prog.underlying tx = some (.slice 26))
    (B : Nat) (v x : Value) (xs ys : List Mp) (hs : a.eval s = v) (hy : a.eval y = x) (hv : OwnM W B W.heap.size v xs) (hB : B ≤ W.heap.size) (hx : RdM W x ys) (hl : xs.length + ys.length ≤ 1099511627776)
    (h : ∀ v' W', OwnM W' B W'.heap.size v' (xs ++ ys) → W.grownBy W' v.ownBlock → (v'.ownBlock = v.ownBlock ∨ v'.ownBlock = some W.heap.size) → K (a.put o.dst v') W') :
    if Region.wanted o (yielded ops a.tmps) = true then Oper.wp Try.prog o a W K Q else E := by
  have hw : Region.wanted o (yielded ops a.tmps) = true := by simp [Region.wanted, hgd]
  rw [if_pos hw]
  obtain ⟨v', w', hr, h2, h3, h5⟩ := run_append_maps t tx o.type ht htx W B v x xs ys hv hB hx hl
  unfold Oper.wp execOp
  simp only [ho, resolve, invoke, builtin, Sem.run_bind, Sem.run_pure, Result.andThen_ok, List.map_toArray, List.map_cons, List.map_nil, hs, hy, hr]
  exact h v' w' h2 h3 h5

/-- One mapping laid into a block of its own reads as a list of one. -/
theorem rd_one (W : World) (m : Mp) : RdM (W.alloc (.cells #[.int .i64 m.sub, .int .i64 m.seq, .int .i64 m.len] 26)) (.slice (some ⟨W.heap.size, 0, none⟩) 1 1) [m] :=
  ⟨_, _, rfl, fun _ => ⟨W.heap.size, 0, rfl, fun j v hv => by
    rw [Nat.zero_add, (Cel.new W 26 #[.int .i64 m.sub, .int .i64 m.seq, .int .i64 m.len]).cell j]
    match j, hv with
    | 0, hv => simpa [flat] using hv
    | 1, hv => simpa [flat] using hv
    | 2, hv => simpa [flat] using hv⟩⟩

/-- What lies below the row's block and was there stays. -/
theorem below_grown {w W W' : World} {row : Option Nat} (hb : Below w.heap.size w W) (hg : W.grownBy W' row) (hr : ∀ g, row = some g → w.heap.size ≤ g) : Below w.heap.size w W' :=
  hb.grown hg hb.size hr

theorem own_alloc {W : World} {B : Nat} {v : Value} {ms : List Mp} (h : OwnM W B W.heap.size v ms) (o : Obj) : OwnM (W.alloc o) B (W.alloc o).heap.size v ms :=
  (h.keep (below_new W o) (Nat.le_refl _)).mono (Nat.le_refl _) (by simp)
theorem own_drewN {W : World} {B C n : Nat} {v : Value} {ms : List Mp} (h : OwnM W B C v ms) : OwnM (W.drewN n) B C v ms := h
theorem own_empty (W : World) : OwnM (W.alloc (.cells #[] 26)) W.heap.size (W.alloc (.cells #[] 26)).heap.size (.slice (some ⟨W.heap.size, 0, none⟩) 0 0) [] :=
  OwnM.of_cel (ms := []) (Cel.new W 26 #[]) (Nat.le_refl _) (by simp) (by simp)

set_option maxRecDepth 100000 in
theorem impl_ownMaps (v : Value) (ms : List Mp) (w : World) (hv : RdM w v ms) (hn : ms.length ≤ 1048576) :
    Calls Try.prog 31 #[v] w fun e w' => ∃ v', e = .returned v' ∧ OwnM w' w.heap.size w'.heap.size v' ms ∧ Below w.heap.size w w' := by
  have hx := hv
  obtain ⟨a, c, rfl⟩ := hv.form
  go_enter Try.func31, Try.ntmps31
  go_wp2_with (at_builtin; refine wpList_append_maps rfl _ _ 50 24 rfl uL uM w.heap.size (.slice none 0 0) _ [] ms rfl rfl OwnM.nil (Nat.le_refl _) hx (by simp; omega) ?_; intro v' w1 hown hgrow _)
  have hb := below_grown (Below.refl _ _) hgrow (fun g hg => by cases hg)
  rw [List.nil_append] at hown
  have HH := Lib.hid (And.intro hown hb)
  clear hown hgrow hb
  go_wp2_with (fail)
  go_ret
  exact ⟨v', rfl, HH.out.1, HH.out.2⟩
end Go.Proofs.Ytjnobggefofjcaa
