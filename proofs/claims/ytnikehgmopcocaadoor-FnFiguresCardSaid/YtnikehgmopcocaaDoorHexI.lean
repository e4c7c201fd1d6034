import Derived.Test.YtnikehgmopcocaaDoorHex0
namespace Go.Proofs.YtnikehgmopcocaaDoor
open Go.RowKit

/-- The sixteen figures of the constant. -/
def figures : ByteArray := { data := #[48, 49, 50, 51, 52, 53, 54, 55, 56, 57, 97, 98, 99, 100, 101, 102] }

theorem index_figures (n : Nat) (k : IntKind) (h : n < 16) (w : World) : (Instr.index 9 (.string { data := #[48, 49, 50, 51, 52, 53, 54, 55, 56, 57, 97, 98, 99, 100, 101, 102] }) (.int k (n : Int))).run Tryd.prog w = .ok (.int .u8 (fig n)) w := by
  have h16 : ∀ m : Fin 16, (Instr.index 9 (.string { data := #[48, 49, 50, 51, 52, 53, 54, 55, 56, 57, 97, 98, 99, 100, 101, 102] }) (.int k ((m.val : Nat) : Int))).run Tryd.prog w = .ok (.int .u8 (fig m.val)) w := by
    intro m
    rw [run_index_string w 9 _ k _ Tryd.underlying9]
    match m with
    | ⟨0, _⟩ => rfl
    | ⟨1, _⟩ => rfl
    | ⟨2, _⟩ => rfl
    | ⟨3, _⟩ => rfl
    | ⟨4, _⟩ => rfl
    | ⟨5, _⟩ => rfl
    | ⟨6, _⟩ => rfl
    | ⟨7, _⟩ => rfl
    | ⟨8, _⟩ => rfl
    | ⟨9, _⟩ => rfl
    | ⟨10, _⟩ => rfl
    | ⟨11, _⟩ => rfl
    | ⟨12, _⟩ => rfl
    | ⟨13, _⟩ => rfl
    | ⟨14, _⟩ => rfl
    | ⟨15, _⟩ => rfl
    | ⟨n + 16, h⟩ => omega
  exact h16 ⟨n, h⟩

theorem index_figures_int (n : Int) (k : IntKind) (h0 : 0 ≤ n) (h : n < 16) (w : World) : (Instr.index 9 (.string { data := #[48, 49, 50, 51, 52, 53, 54, 55, 56, 57, 97, 98, 99, 100, 101, 102] }) (.int k n)).run Tryd.prog w = .ok (.int .u8 (fig n)) w := by
  have := index_figures n.toNat k (by omega) w
  rwa [Int.toNat_of_nonneg h0] at this

set_option maxRecDepth 100000 in
set_option maxHeartbeats 800000 in
theorem program_hex (s : ByteArray) (w : World) (hs : s.size ≤ 20000) :
    Calls Tryd.prog 8 #[.string s] w fun e w' => e = .returned (.tuple #[.string (hexText s), .bool true]) ∧ Below w.heap.size w w' := by
  obtain ⟨i0, hi, hz0, hz1, hz2⟩ := info_parts infoHex5
  go_enter Tryd.func8, Tryd.ntmps8
  go_wp2_with (first
    | (at_make; refine wpList_make_own _ rfl _ _ 22 rfl w.heap.size 5 i0 _ 1 Tryd.underlying22 hi hz0 hz1 .i64 .i64 _ (2 * s.size) rfl rfl (by omega) (by rw [hz2]; omega) (by unfold maxLen; omega) (Nat.le_refl _) ?_; intro w1 hown1 hgrow1))
  go_loopw [4, 15] (fun v i wr => ∃ k g cap : Nat, k ≤ s.size ∧ i = .int .i64 k ∧ v = .slice (some ⟨g, 0, none⟩) (2 * k) cap ∧ wr.ownsRow w.heap.size 5 1 (.slice (some ⟨g, 0, none⟩) (2 * k) cap) (2 * k) ((hexOf (s.data.toList.take k)).map (Value.int .u8)) ∧ Below w.heap.size w wr) (fun _ i _ => s.size - (intOf i).toNat)
  case atStart => exact ⟨0, w.heap.size, 2 * s.size, by omega, rfl, rfl, hown1, (Below.refl _ _).grown hgrow1 (Nat.le_refl _) (by simp)⟩
  case round =>
    obtain ⟨k, g, cap, hk, rfl, rfl, hown, hnx⟩ := hrel
    clear hown1 hgrow1
    by_cases hlt : k < s.size
    · have hc1 : (s[k].toNat : Int) < 256 := by have := s[k].toNat_lt; omega
      have hwf := hnx.size
      go_wp2
      have x1 := fun w => index_figures_int ((s[k].toNat : Int) / 16) .u8 (by omega) (by omega) w
      have x2 := fun w => index_figures_int ((s[k].toNat : Int) % 16) .u8 (by omega) (by omega) w
      have b1 : bits .and .u8 (s[k].toNat : Int) 15 = (s[k].toNat : Int) % 16 := u8_and15 _ (by omega) hc1
      have hroom1 : 2 * k + 2 ≤ maxLen := by unfold maxLen; omega
      have hroom2 : (2 * k + 2) * 1 ≤ 140737488355328 := by omega
      go_region_held3 (fun _ => True) (first | trivial)
        (first
          | (refine step_append_lies _ (by rfl) _ _ _ (by rfl) w.heap.size 5 i0 _ 1 1 Tryd.underlying22 hi hz0 hz1 hz2 rfl (by omega) _ _ _ (by rfl) ((hown.alloc _).drew)
              ⟨wr.heap.size, 0, none⟩ 2 2 [.int .u8 (fig ((s[k].toNat : Int) / 16)), .int .u8 (fig ((s[k].toNat : Int) % 16))] (by rfl) (by rfl) (World.news_of_block (cs := #[.int .u8 (fig ((s[k].toNat : Int) / 16)), .int .u8 (fig ((s[k].toNat : Int) % 16))]) (t := 5) (fr := (0, 0)) (heap_alloc_new wr _)) (by simp [Value.oneCell'])
              (by omega) hroom1 hroom2 (by simp; omega) (wr.heap.size + 1) (by simp) ?_; intro gg cap w1 hown1 hgrow hat hlt2))
      all_goals
        have hb1 : Below w.heap.size w w1 := ((hnx.alloc hwf _).drew).grown hgrow (by simp; omega) (fun j hj => (hown.lt j hj).1)
        have hnext : w1.ownsRow w.heap.size 5 1 (Value.slice (some ⟨gg, 0, none⟩) (2 * (k + 1)) cap) (2 * (k + 1)) ((hexOf (s.data.toList.take (k + 1))).map (Value.int .u8)) := by
          rw [hexOf_take s.data.toList k (by simpa using hlt), List.map_append, show 2 * (k + 1) = 2 * k + 2 by omega]
          exact hown1
        clear hown1 hgrow hown hnx hat hlt2 x1 x2 b1
        go_wp2
        go_roundw
        case rel => exact ⟨k + 1, gg, cap, by omega, by go_num, by rw [show 2 * (k + 1) = 2 * k + 2 by omega], hnext, hb1⟩
        case measure => simp [intOf]; omega
    · obtain rfl : k = s.size := by omega
      have hcv := conv_own (P := Tryd.prog) 22 Tryd.underlying22 Tryd.underlying5 hown 9 Tryd.underlying9
      rw [List.take_of_length_le (by simp)] at hcv
      go_wp2
      go_ret2
      exact ⟨rfl, hnx⟩

end Go.Proofs.YtnikehgmopcocaaDoor
