import Derived.Test.YtjnobggefofjcaaMct
import Derived.Laws.CopyRow
import Derived.Lib.SliceRun
namespace Go.Proofs.Ytjnobggefofjcaa
open Go.RowKit

/-- Is it to go? -/
def gone (s : Int) (m : Mp) : Bool := decide (m.sub + m.len ≤ s)

theorem clo_keep {w W W' : World} {g B : Nat} {x y z u : Value} (h : Cel W g 26 #[x, y, z] ∧ W.cell? ⟨g, 0, none⟩ = some x ∧ W.cell? ⟨g, 1, none⟩ = some y ∧ W.cell? ⟨g, 2, none⟩ = some z ∧ W.cell? ⟨B, 0, none⟩ = some u ∧ Below w.heap.size w W) (hb : Below W.heap.size W W') :
    Cel W' g 26 #[x, y, z] ∧ W'.cell? ⟨g, 0, none⟩ = some x ∧ W'.cell? ⟨g, 1, none⟩ = some y ∧ W'.cell? ⟨g, 2, none⟩ = some z ∧ W'.cell? ⟨B, 0, none⟩ = some u ∧ Below w.heap.size w W' := by
  obtain ⟨h1, -, -, -, h2, h3⟩ := h
  obtain ⟨k0, k1, k2⟩ := cel3 (h1.kept hb)
  refine ⟨h1.kept hb, k0, k1, k2, ?_, Below.then_ h3 hb⟩
  rw [hb.cell (p := ⟨B, 0, none⟩) (World.block_lt_of_cell? _ _ h2)]
  exact h2

set_option maxRecDepth 100000 in
set_option maxHeartbeats 1000000 in
theorem impl_cutfn (m : Mp) (s : Int) (B : Nat) (w : World) (hf : m.fine) (hc : w.cell? ⟨B, 0, none⟩ = some (.int .i64 s)) :
    Calls Try.prog 47 #[.agg m.cells, .pointer (some ⟨B, 0, none⟩)] w fun e w' => e = .returned (.bool (gone s m)) ∧ Below w.heap.size w w' := by
  have hb0 := below_box w m
  have c2 := fun W => impl_subend m W hf
  unfold gone
  have hBw := World.block_lt_of_cell? _ _ hc
  have hcel := Cel.new w 26 #[.int .i64 m.sub, .int .i64 m.seq, .int .i64 m.len]
  have hS : Cel (w.alloc (.cells #[.int .i64 m.sub, .int .i64 m.seq, .int .i64 m.len] 26)).drew w.heap.size 26 #[.int .i64 m.sub, .int .i64 m.seq, .int .i64 m.len] ∧ (w.alloc (.cells #[.int .i64 m.sub, .int .i64 m.seq, .int .i64 m.len] 26)).drew.cell? ⟨w.heap.size, 0, none⟩ = some (.int .i64 m.sub) ∧ (w.alloc (.cells #[.int .i64 m.sub, .int .i64 m.seq, .int .i64 m.len] 26)).drew.cell? ⟨w.heap.size, 1, none⟩ = some (.int .i64 m.seq) ∧ (w.alloc (.cells #[.int .i64 m.sub, .int .i64 m.seq, .int .i64 m.len] 26)).drew.cell? ⟨w.heap.size, 2, none⟩ = some (.int .i64 m.len) ∧ (w.alloc (.cells #[.int .i64 m.sub, .int .i64 m.seq, .int .i64 m.len] 26)).drew.cell? ⟨B, 0, none⟩ = some (.int .i64 s) ∧ Below w.heap.size w (w.alloc (.cells #[.int .i64 m.sub, .int .i64 m.seq, .int .i64 m.len] 26)).drew := by
    obtain ⟨k0, k1, k2⟩ := cel3 hcel
    refine ⟨hcel, k0, k1, k2, ?_, hb0.drew⟩
    show (w.alloc _).cell? _ = _
    rw [hb0.cell (p := ⟨B, 0, none⟩) hBw]
    exact hc
  unfold Mp.cells at *
  clear hf hb0 hcel hc hBw
  go_enter Try.func47, Try.ntmps47
  go_wp2_with (fail)
  go_region_held3 (fun W => Cel W w.heap.size 26 #[.int .i64 m.sub, .int .i64 m.seq, .int .i64 m.len] ∧ W.cell? ⟨w.heap.size, 0, none⟩ = some (.int .i64 m.sub) ∧ W.cell? ⟨w.heap.size, 1, none⟩ = some (.int .i64 m.seq) ∧ W.cell? ⟨w.heap.size, 2, none⟩ = some (.int .i64 m.len) ∧ W.cell? ⟨B, 0, none⟩ = some (.int .i64 s) ∧ Below w.heap.size w W)
    (first | exact hS | exact clo_keep (by assumption) (by assumption) | go_keep)
    (first | (go_at_call 33; (with_reducible refine (c2 _).mono ?_); rintro e w1 ⟨rfl, hb1⟩))
  rename_i hHH
  have HB := Lib.hid hHH.2.2.2.2.2
  clear hHH hS hb1 c2
  go_wp2_with (fail)
  go_ret
  exact ⟨rfl, HB.out⟩

/-- The first place to go. -/
def goneAt (s : Int) (l : List Mp) : Nat := l.findIdx (gone s)

set_option maxRecDepth 100000 in
set_option maxHeartbeats 2000000 in
theorem impl_index (v : Value) (ms : List Mp) (s : Int) (B : Nat) (w : World) (hv : RdM w v ms) (hf : ∀ m ∈ ms, m.fine) (hc : w.cell? ⟨B, 0, none⟩ = some (.int .i64 s)) (hn : ms.length ≤ 1048576) :
    Calls Try.prog 53 #[v, .func (.func 47) #[] #[.pointer (some ⟨B, 0, none⟩)]] w fun e w' => e = .returned (.int .i64 (if goneAt s ms < ms.length then (goneAt s ms : Int) else -1)) ∧ Below w.heap.size w w' := by
  obtain ⟨a, c, rfl⟩ := hv.form
  have hBw := World.block_lt_of_cell? _ _ hc
  generalize hres : (if goneAt s ms < ms.length then (goneAt s ms : Int) else -1) = res
  generalize hg : goneAt s ms = g at hres
  have HG := Lib.hid hg
  have HRES := Lib.hid hres
  clear hg hres
  go_enter Try.func53, Try.ntmps53
  go_wp2_with (fail)
  go_loopw [8] (fun i wr => ∃ k : Nat, k ≤ ms.length ∧ i = .int .i64 k ∧ goneAt s (ms.drop k) + k = g ∧ Below w.heap.size w wr) (fun i _ => ms.length - (intOf i).toNat)
  case atStart => exact ⟨0, by omega, rfl, by rw [List.drop_zero]; exact HG.out, Below.refl _ _⟩
  case round =>
    clear HG
    obtain ⟨k, hk, rfl, hr, hB⟩ := hrel
    have hR := hv.below hB
    have hcc : wr.cell? ⟨B, 0, none⟩ = some (.int .i64 s) := by rw [hB.cell (p := ⟨B, 0, none⟩) hBw]; exact hc
    by_cases hlt : k < ms.length
    · have q : (k : Int) < (ms.length : Int) := by omega
      have q2 : (0 : Int) ≤ (k : Int) := by omega
      obtain ⟨b, off, ha, hb, k0, k1, k2, -⟩ := hR.at (P := Try.prog) k hlt
      subst ha
      rw [List.drop_eq_getElem_cons hlt] at hr
      unfold goneAt at hr
      rw [List.findIdx_cons] at hr
      have cc := impl_cutfn ms[k] s B wr (hf ms[k] (List.getElem_mem hlt)) hcc
      generalize ms[k] = m at *
      unfold Mp.cells at cc
      have HB := Lib.hid hB
      clear hR hB hcc
      cases hp : gone s m with
      | true =>
        rw [hp] at hr cc
        have hr2 : k = g := by simpa using hr
        subst hr2
        clear hr hp
        obtain rfl : (k : Int) = res := by have := HRES.out; rwa [if_pos hlt] at this
        go_wp2_with (fail)
        with_reducible refine cc.mono ?_
        rintro e w1 ⟨rfl, hb1⟩
        go_wp2_with (fail)
        go_ret
        exact ⟨rfl, Below.then_ HB.out hb1⟩
      | false =>
        rw [hp] at hr cc
        have HR := Lib.hid hr
        clear hr hp
        go_wp2_with (fail)
        with_reducible refine cc.mono ?_
        rintro e w1 ⟨rfl, hb1⟩
        clear cc k0 k1 k2
        go_wp2_with (fail)
        go_roundw
        case rel => exact ⟨k + 1, by omega, by go_num, by have := HR.out; simp only [cond_false] at this; unfold goneAt; omega, Below.then_ HB.out hb1⟩
        case measure => simp [intOf]; omega
    · obtain rfl : k = ms.length := by omega
      have q : ¬ (ms.length : Int) < (ms.length : Int) := by omega
      rw [List.drop_length] at hr
      have hr2 : ms.length = g := by simpa [goneAt] using hr
      obtain rfl : (-1 : Int) = res := by have := HRES.out; rwa [if_neg (by omega)] at this
      clear hR hr hcc
      go_wp2_with (fail)
      go_ret
      exact ⟨rfl, hB⟩
end Go.Proofs.Ytjnobggefofjcaa
