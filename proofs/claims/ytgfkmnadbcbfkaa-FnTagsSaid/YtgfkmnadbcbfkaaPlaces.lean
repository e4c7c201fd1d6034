import Derived.Test.YtgfkmnadbcbfkaaDr
namespace Go.Proofs.Ytgfkmnadbcbfkaa
open Go.RowKit

theorem infoP : (Try.prog.info? 3).map (fun i => (i.zero, i.size, i.bytes)) = some (some (.int .i64 0), 1, 8) := by kernel_rfl

set_option maxHeartbeats 1000000 in
set_option maxRecDepth 100000 in
theorem draw_places (v : Value) (n : Nat) (w : World) (hv : RdB w v n) (hn : n ≤ 1048576) :
    Calls Try.prog 12 #[v] w fun e w' => ∃ g cap, ∃ zs : List Int, e = .returned (.slice (some ⟨g, 0, none⟩) 12 cap) ∧ zs.length = 12 ∧ (∀ z ∈ zs, 0 ≤ z ∧ z < 10000) ∧ w'.ownsRow w.heap.size 3 1 (.slice (some ⟨g, 0, none⟩) 12 cap) 12 (zs.map (Value.int .i64)) ∧ Below w.heap.size w w' := by
  obtain ⟨i0, hi, hz0, hz1, hz2⟩ := info_parts infoP
  go_enter Try.func12, Try.ntmps12
  go_wp2_with (fail)
  with_reducible refine (new_dr v n w hv hn).mono ?_
  rintro e w1 ⟨rfl, d1, b1⟩
  have hs1 := d1.blk
  have ho := World.ownsRow_made w1 (e := 3) (size := 1) (base := w.heap.size + 1) #[] 0 (by omega) (by unfold maxLen; omega) rfl
  go_wp2_with (fail)
  go_loopw [4, 5] (fun u i wr => ∃ k g cap : Nat, ∃ zs : List Int, k ≤ 12 ∧ i = .int .i64 k ∧ u = .slice (some ⟨g, 0, none⟩) k cap ∧ zs.length = k ∧ (∀ z ∈ zs, 0 ≤ z ∧ z < 10000) ∧ wr.ownsRow (w.heap.size + 1) 3 1 (.slice (some ⟨g, 0, none⟩) k cap) k (zs.map (Value.int .i64)) ∧ Dr wr w.heap.size v n ∧ Below w.heap.size w wr) (fun _ i _ => 12 - (intOf i).toNat)
  case atStart => exact ⟨0, w1.heap.size, 0, [], by omega, rfl, rfl, rfl, by simp, by simpa using ho, d1.kept ((Below.refl _ _).alloc (Nat.le_refl _) _), b1.alloc (by omega) _⟩
  case round =>
    clear ho d1 b1 hs1
    obtain ⟨k, g, cap, zs, hk, rfl, rfl, hl, hz, hown, hd, hB⟩ := hrel
    by_cases hlt12 : k < 12
    · have q : (k : Int) < 12 := by omega
      have hsz := hd.blk
      have cb := below_dr w.heap.size v n 10000 wr hd (by omega) (by omega)
      rw [show ((10000 : Nat) : Int) = (10000 : Int) from rfl] at cb
      go_wp2_with (fail)
      with_reducible refine cb.mono ?_
      rintro e w2 ⟨r, hr, rfl, d2, o2⟩
      have hown2 := own_only hown o2 (by omega)
      have hB2 := hB.trans o2.bl
      have hs2 := d2.blk
      clear hown hd hB o2 cb
      go_wp2_with (at_builtin; refine wpList_append_own _ rfl _ _ 24 rfl (w.heap.size + 1) 3 i0 (.int .i64 0) 1 8 Try.underlying24 hi hz0 hz1 hz2 rfl (by decide) _ _ _ rfl (hown2.alloc _) ⟨w2.heap.size, 0, none⟩ 1 1 [.int .i64 (r : Int)] rfl rfl ?c1 ?c2 ?c3 ?c4 ?c5 ?_)
      case c1 =>
        intro j u hj
        match j, hj with
        | 0, hj => simp at hj; subst hj; simp [Addr.add]
      case c2 => intro u hu; simp at hu; subst hu; rfl
      case c3 => unfold maxLen; omega
      case c4 => omega
      case c5 => simp; omega
      intro v' w3 hown3 hgrow _
      have hb3 : Below (w.heap.size + 1) w2 w3 := ((Below.refl (w.heap.size + 1) w2).alloc (by omega) _).grown hgrow (by simp; omega) (fun j hj => (hown2.lt j hj).1)
      have d3 := d2.below hb3 (by omega)
      have hB3 := hB2.trans (hb3.mono (by omega))
      obtain ⟨g', cap', rfl⟩ : ∃ g cap, v' = .slice (some ⟨g, 0, none⟩) (k + 1) cap := by
        rcases hown3.2 with ⟨_, h0⟩ | ⟨g, cap, cur, hv, _⟩
        · omega
        · exact ⟨g, cap, hv⟩
      have e5 : zs.map (Value.int .i64) ++ [Value.int .i64 (r : Int)] = (zs ++ [(r : Int)]).map (Value.int .i64) := by simp
      rw [e5] at hown3
      clear hown2 d2 hB2 hb3 hgrow e5
      go_wp2_with (fail)
      go_roundw
      case rel =>
        refine ⟨k + 1, g', cap', zs ++ [(r : Int)], by omega, by go_num, rfl, by simp [hl], fun z hz2 => ?_, hown3, d3, hB3⟩
        rcases List.mem_append.1 hz2 with h | h
        · exact hz z h
        · simp at h; subst h; omega
      case measure => simp [intOf]; omega
    · obtain rfl : k = 12 := by omega
      go_wp2_with (fail)
      go_ret
      refine ⟨g, cap, zs, rfl, hl, hz, ⟨hown.1, ?_⟩, hB⟩
      rcases hown.2 with h | ⟨g', cap', cur, h, hb, r⟩
      · exact .inl h
      · exact .inr ⟨g', cap', cur, h, by omega, r⟩
end Go.Proofs.Ytgfkmnadbcbfkaa
