import Derived.Test.YtjnobggefofjcaaMrv
namespace Go.Proofs.Ytjnobggefofjcaa
open Go.RowKit

theorem fold_fine (l : List Mp) (acc : List Mp) (ha : ∀ x ∈ acc, x.fine) (h : ∀ x ∈ l, x.fine) : ∀ x ∈ l.foldl joinM acc, x.fine := by
  induction l generalizing acc with
  | nil => exact ha
  | cons m r ih => exact ih _ (joinM_fine acc m ha (h m (by simp))) fun x hx => h x (by simp [hx])
theorem fold_len (l : List Mp) (acc : List Mp) : (l.foldl joinM acc).length ≤ acc.length + l.length := by
  induction l generalizing acc with
  | nil => simp
  | cons m r ih =>
    have h1 := ih (joinM acc m)
    have h2 := joinM_len acc m
    simp only [List.foldl_cons, List.length_cons]
    omega

set_option maxRecDepth 100000 in
set_option maxHeartbeats 4000000 in
theorem impl_runs (v : Value) (ms : List Mp) (w : World) (hv : RdM w v ms) (hn : ms.length ≤ 1048576) :
    Calls Try.prog 14 #[v] w fun e w' => ∃ v', e = .returned v' ∧ OwnM w' w.heap.size w'.heap.size v' (runs ms) ∧ Below w.heap.size w w' := by
  have cO := impl_mapsOk v ms w hv (by omega)
  obtain ⟨a, c, rfl⟩ := hv.form
  by_cases hok : mapsOk ms = true
  · have hfine := (mapsOk_fine ms hok).2
    rw [hok] at cO
    rw [← fold_runs ms hok]
    clear hok
    go_enter Try.func14, Try.ntmps14
    go_wp2_with (fail)
    with_reducible refine cO.mono ?_
    rintro e w0 ⟨rfl, hb0⟩
    clear cO
    have he0 := own_empty w0
    have hbe := below_new w0 (.cells #[] 26)
    have hc0 := Cel.new (w0.alloc (.cells #[] 26)) 50 #[.slice (some ⟨w0.heap.size, 0, none⟩) 0 0]
    have ho0 := (own_alloc (he0.mono hb0.size (Nat.le_refl _)) (.cells #[.slice (some ⟨w0.heap.size, 0, none⟩) 0 0] 50))
    have hB0 := Below.then_ (Below.then_ hb0 hbe) (below_new _ (.cells #[.slice (some ⟨w0.heap.size, 0, none⟩) 0 0] 50))
    have hsz0 := hb0.size
    rw [World.size_alloc] at hc0
    have HS := Lib.hid (And.intro hc0 (And.intro ho0 hB0))
    clear he0 hbe hc0 ho0 hB0 hb0
    go_wp2_with (fail)
    go_loopw [12] (fun i wr => ∃ k : Nat, k ≤ ms.length ∧ i = .int .i64 k ∧ (∃ u, Cel wr (w0.heap.size + 1) 50 #[u] ∧ OwnM wr w.heap.size wr.heap.size u ((ms.take k).foldl joinM [])) ∧ Below w.heap.size w wr) (fun i _ => ms.length - (intOf i).toNat)
    case atStart => exact ⟨0, by omega, rfl, ⟨_, HS.out.1, HS.out.2.1⟩, HS.out.2.2⟩
    case round =>
      clear HS
      obtain ⟨k, hk, rfl, ⟨u, hC, hO⟩, hB⟩ := hrel
      have hR := hv.below hB
      by_cases hlt : k < ms.length
      · have q : (k : Int) < (ms.length : Int) := by omega
        have q2 : (0 : Int) ≤ (k : Int) := by omega
        obtain ⟨b, off, ha, hb, k0, k1, k2, -⟩ := hR.at (P := Try.prog) k hlt
        subst ha
        have hsn := fold_snoc ms k hlt
        have hff := fold_fine (ms.take k) [] (by simp) (fun x hx => hfine x (List.mem_of_mem_take hx))
        have hll := fold_len (ms.take k) []
        rw [List.length_take] at hll
        have hfm := hfine ms[k] (List.getElem_mem hlt)
        generalize hml : ms[k] = m at *
        have hbx := below_box wr m
        have hC1 := hC.kept hbx
        have hO1 := own_alloc hO (.cells #[.int .i64 m.sub, .int .i64 m.seq, .int .i64 m.len] 26)
        have cj := impl_join (w0.heap.size + 1) u _ m w.heap.size (wr.alloc (.cells #[.int .i64 m.sub, .int .i64 m.seq, .int .i64 m.len] 26)) hC1 (by omega) hO1 hff hfm (by simp at hll; omega)
        rw [← hsn] at cj
        unfold Mp.cells at cj
        have HB := Lib.hid (And.intro (Below.then_ hB hbx) hml)
        clear hR hB hO hC hC1 hO1 hbx hsn hff hll hfm hml
        go_wp2_with (fail)
        with_reducible refine cj.mono ?_
        rintro e w1 ⟨rfl, hex, hb1⟩
        have HN := Lib.hid (And.intro hex (HB.out.1.trans hb1))
        clear hex hb1 cj k0 k1 k2
        go_wp2_with (fail)
        go_roundw
        case rel => exact ⟨k + 1, by omega, by go_num, HN.out.1, HN.out.2⟩
        case measure => simp [intOf]; omega
      · obtain rfl : k = ms.length := by omega
        rw [List.take_length] at hO
        have q : ¬ (ms.length : Int) < (ms.length : Int) := by omega
        obtain ⟨ua, uc, rfl, -⟩ := hO.form
        have c0 := hC.cell 0
        rw [show ∀ v : Value, (#[v] : Array Value)[0]? = some v from fun _ => rfl] at c0
        have HN := Lib.hid (And.intro hO hB)
        clear hR hB hO hC
        go_wp2_with (fail)
        go_ret
        exact ⟨_, rfl, HN.out.1, HN.out.2⟩
  · rw [show mapsOk ms = false by simpa using hok] at cO
    have hr : runs ms = [] := by unfold runs; rw [if_neg hok]
    rw [hr]
    clear hok hr
    go_enter Try.func14, Try.ntmps14
    go_wp2_with (fail)
    with_reducible refine cO.mono ?_
    rintro e w0 ⟨rfl, hb0⟩
    go_wp2_with (fail)
    go_ret
    exact ⟨_, rfl, OwnM.nil, hb0⟩
end Go.Proofs.Ytjnobggefofjcaa
