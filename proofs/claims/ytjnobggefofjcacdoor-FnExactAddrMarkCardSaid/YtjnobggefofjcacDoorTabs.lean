import Derived.Test.YtjnobggefofjcacDoorSpec
namespace Go.Proofs.YtjnobggefofjcacDoor
open Go.RowKit

theorem start_lit : start.map u = #[.int .u32 1779033703, .int .u32 3144134277, .int .u32 1013904242, .int .u32 2773480762, .int .u32 1359893119, .int .u32 2600822924, .int .u32 528734635, .int .u32 1541459225] := by
  unfold start
  simp only [List.map_toArray, List.map_cons, List.map_nil]
  rfl

set_option maxRecDepth 100000 in
theorem keys_lit : keys.map u = #[.int .u32 1116352408, .int .u32 1899447441, .int .u32 3049323471, .int .u32 3921009573, .int .u32 961987163, .int .u32 1508970993, .int .u32 2453635748, .int .u32 2870763221, .int .u32 3624381080, .int .u32 310598401, .int .u32 607225278, .int .u32 1426881987, .int .u32 1925078388, .int .u32 2162078206, .int .u32 2614888103, .int .u32 3248222580, .int .u32 3835390401, .int .u32 4022224774, .int .u32 264347078, .int .u32 604807628, .int .u32 770255983, .int .u32 1249150122, .int .u32 1555081692, .int .u32 1996064986, .int .u32 2554220882, .int .u32 2821834349, .int .u32 2952996808, .int .u32 3210313671, .int .u32 3336571891, .int .u32 3584528711, .int .u32 113926993, .int .u32 338241895, .int .u32 666307205, .int .u32 773529912, .int .u32 1294757372, .int .u32 1396182291, .int .u32 1695183700, .int .u32 1986661051, .int .u32 2177026350, .int .u32 2456956037, .int .u32 2730485921, .int .u32 2820302411, .int .u32 3259730800, .int .u32 3345764771, .int .u32 3516065817, .int .u32 3600352804, .int .u32 4094571909, .int .u32 275423344, .int .u32 430227734, .int .u32 506948616, .int .u32 659060556, .int .u32 883997877, .int .u32 958139571, .int .u32 1322822218, .int .u32 1537002063, .int .u32 1747873779, .int .u32 1955562222, .int .u32 2024104815, .int .u32 2227730452, .int .u32 2361852424, .int .u32 2428436474, .int .u32 2756734187, .int .u32 3204031479, .int .u32 3329325298] := by
  unfold keys
  simp only [List.map_toArray, List.map_cons, List.map_nil]
  rfl

set_option maxRecDepth 100000 in
theorem keys_list : List.map u keys.toList = [(.int .u32 1116352408 : Value), (.int .u32 1899447441 : Value), (.int .u32 3049323471 : Value), (.int .u32 3921009573 : Value), (.int .u32 961987163 : Value), (.int .u32 1508970993 : Value), (.int .u32 2453635748 : Value), (.int .u32 2870763221 : Value), (.int .u32 3624381080 : Value), (.int .u32 310598401 : Value), (.int .u32 607225278 : Value), (.int .u32 1426881987 : Value), (.int .u32 1925078388 : Value), (.int .u32 2162078206 : Value), (.int .u32 2614888103 : Value), (.int .u32 3248222580 : Value), (.int .u32 3835390401 : Value), (.int .u32 4022224774 : Value), (.int .u32 264347078 : Value), (.int .u32 604807628 : Value), (.int .u32 770255983 : Value), (.int .u32 1249150122 : Value), (.int .u32 1555081692 : Value), (.int .u32 1996064986 : Value), (.int .u32 2554220882 : Value), (.int .u32 2821834349 : Value), (.int .u32 2952996808 : Value), (.int .u32 3210313671 : Value), (.int .u32 3336571891 : Value), (.int .u32 3584528711 : Value), (.int .u32 113926993 : Value), (.int .u32 338241895 : Value), (.int .u32 666307205 : Value), (.int .u32 773529912 : Value), (.int .u32 1294757372 : Value), (.int .u32 1396182291 : Value), (.int .u32 1695183700 : Value), (.int .u32 1986661051 : Value), (.int .u32 2177026350 : Value), (.int .u32 2456956037 : Value), (.int .u32 2730485921 : Value), (.int .u32 2820302411 : Value), (.int .u32 3259730800 : Value), (.int .u32 3345764771 : Value), (.int .u32 3516065817 : Value), (.int .u32 3600352804 : Value), (.int .u32 4094571909 : Value), (.int .u32 275423344 : Value), (.int .u32 430227734 : Value), (.int .u32 506948616 : Value), (.int .u32 659060556 : Value), (.int .u32 883997877 : Value), (.int .u32 958139571 : Value), (.int .u32 1322822218 : Value), (.int .u32 1537002063 : Value), (.int .u32 1747873779 : Value), (.int .u32 1955562222 : Value), (.int .u32 2024104815 : Value), (.int .u32 2227730452 : Value), (.int .u32 2361852424 : Value), (.int .u32 2428436474 : Value), (.int .u32 2756734187 : Value), (.int .u32 3204031479 : Value), (.int .u32 3329325298 : Value)] := by
  rw [← Array.toList_map, keys_lit]

set_option maxHeartbeats 2000000 in
set_option maxRecDepth 100000 in
theorem spec_first (w : World) :
    Calls Tryd.prog 31 #[] w fun e w' => e = .returned (.agg (start.map u)) ∧ Below w.heap.size w w' := by
  rw [start_lit]
  go_enter Tryd.func31, Tryd.ntmps31
  go_wp2_with (fail)
  refine bodyPost_ret (v := .agg #[.int .u32 1779033703, .int .u32 3144134277, .int .u32 1013904242, .int .u32 2773480762, .int .u32 1359893119, .int .u32 2600822924, .int .u32 528734635, .int .u32 1541459225]) (by simp [results, Tryd.results31, go_sem]) rfl ⟨rfl, ?_⟩
  exact (Below.refl _ _).alloc (Nat.le_refl _) _

attribute [-simp] Tryd.isAgg42 Tryd.sizeOf42 zero38
attribute [-go_sem] storeCells

set_option maxHeartbeats 4000000 in
set_option maxRecDepth 100000 in
theorem spec_keys (w : World) :
    Calls Tryd.prog 32 #[] w fun e w' => e = .returned (.agg (keys.map u)) ∧ Below w.heap.size w w' := by
  go_enter Tryd.func32, Tryd.ntmps32
  have hst := store_new w 42 42 (Array.replicate 64 0) keys (by rw [keys_size]; simp) rfl (by rw [keys_size]; exact size38)
  rw [zeros64, keys_list] at hst
  have hB := (Below.refl w.heap.size w).alloc (Nat.le_refl _) (.cells (keys.map u) 42)
  have hrow : (w.alloc (.cells (keys.map u) 42)).heap[w.heap.size]? = some (.cells (keys.map u) 42 (0, 0)) := Blk.new w 42 keys
  have hsz : (keys.map u).size = 64 := by rw [Array.size_map, keys_size]
  generalize hW : w.alloc (.cells (keys.map u) 42) = W at hst hB hrow
  generalize hks : keys.map u = ks at hrow hsz
  go_wp2_with (fail)
  simp only [Tryd.sizeOf42, Result.andThen, ↓reduceIte, hst]
  rw [Oper.upon_skip]
  clear hst
  go_wp2_with (fail)
  refine bodyPost_ret (v := .agg ks) ?_ rfl ⟨rfl, hB⟩
  exact results_cell_row rfl _ _ w.heap.size 42 ks (0, 0) _ rfl hrow Tryd.underlying42 rfl (by rw [hsz]; exact size38)
end Go.Proofs.YtjnobggefofjcacDoor
