import Derived.Test.YtphggocfnbcmcaaUnhexA
import Derived.Lib.Hide
namespace Go.Proofs.Ytphggocfnbcmcaa
open Go.RowKit

theorem val_bd (x : Int) : -1 ≤ val x ∧ val x ≤ 15 := by unfold val; repeat' split
                                                         all_goals omega

/-- The bytes that pairs of figures stand for, behind those that are read already; none at the first pair that is none. -/
def unhexGo : List UInt8 → List Int → Option (List Int)
  | a :: b :: r, acc => if val a.toNat < 0 ∨ val b.toNat < 0 then none else unhexGo r (acc ++ [16 * val a.toNat + val b.toNat])
  | _, acc => some acc

theorem unhexGo_step (l : List UInt8) (j : Nat) (h : j + 1 < l.length) (xs : List Int) :
    unhexGo (l.drop j) xs = if val (l[j]'(by omega)).toNat < 0 ∨ val l[j + 1].toNat < 0 then none else unhexGo (l.drop (j + 2)) (xs ++ [16 * val (l[j]'(by omega)).toNat + val l[j + 1].toNat]) := by
  rw [List.drop_eq_getElem_cons (show j < l.length by omega), List.drop_eq_getElem_cons h]
  rfl

theorem byte_at (s : ByteArray) (j : Nat) (h : j < s.size) : s.data.toList[j]'(by simpa using h) = s[j] := by
  simp; rfl

def unhexEnd (s : ByteArray) : Value :=
  if s.size ≤ 40000 ∧ s.size % 2 = 0 then
    match unhexGo s.data.toList [] with
    | some xs => .tuple #[.string (strOfNums xs), .bool true]
    | none => .tuple #[.string ByteArray.empty, .bool false]
  else .tuple #[.string ByteArray.empty, .bool false]

theorem unhex_bad (s : ByteArray) (xs : List Int) (k : Nat) (hs : s.size ≤ 40000) (h2 : s.size % 2 = 0) (h : 2 * k + 1 < s.size) (hgo : unhexGo s.data.toList [] = unhexGo (s.data.toList.drop (2 * k)) xs)
    (hbad : val (s[2 * k].toNat) < 0 ∨ val (s[2 * k + 1].toNat) < 0) : Value.tuple #[.string ByteArray.empty, .bool false] = unhexEnd s := by
  unfold unhexEnd
  rw [if_pos ⟨hs, h2⟩, hgo, unhexGo_step _ _ (by simpa using h), byte_at _ _ h, byte_at _ _ (by omega), if_pos hbad]

theorem unhex_done (s : ByteArray) (xs : List Int) (k : Nat) (hs : s.size ≤ 40000) (h2 : s.size % 2 = 0) (h : s.size ≤ 2 * k) (hgo : unhexGo s.data.toList [] = unhexGo (s.data.toList.drop (2 * k)) xs) :
    Value.tuple #[.string (strOfNums xs), .bool true] = unhexEnd s := by
  unfold unhexEnd
  rw [if_pos ⟨hs, h2⟩, hgo, List.drop_of_length_le (by simpa using h)]
  rfl

theorem unhex_next (s : ByteArray) (xs : List Int) (k : Nat) (h : 2 * k + 1 < s.size) (hgo : unhexGo s.data.toList [] = unhexGo (s.data.toList.drop (2 * k)) xs)
    (ha : ¬ val (s[2 * k].toNat) < 0) (hb : ¬ val (s[2 * k + 1].toNat) < 0) :
    unhexGo s.data.toList [] = unhexGo (s.data.toList.drop (2 * (k + 1))) (xs ++ [16 * val (s[2 * k].toNat) + val (s[2 * k + 1].toNat)]) := by
  rw [hgo, unhexGo_step _ _ (by simpa using h), byte_at _ _ h, byte_at _ _ (by omega), if_neg (by omega)]
  rfl

theorem ret_val {a b : Value} (h : a = b) : Ending.returned a = .returned b := by rw [h]

set_option maxRecDepth 100000 in
set_option maxHeartbeats 800000 in
theorem model_unhex (s : ByteArray) (w : World) (hs : s.size ≤ 40000) (h2 : s.size % 2 = 0) :
    Calls Try.prog 7 #[.string s] w fun e w' => e = .returned (unhexEnd s) ∧ Below w.heap.size w w' := by
  obtain ⟨i0, hi, hz0, hz1, hz2⟩ := info_parts Try.info5
  have hmod : (s.size : Int) % 2 = 0 := by omega
  have H2 := Lib.hid h2
  clear h2
  go_enter Try.func7, Try.ntmps7
  go_wp2
  clear hmod
  go_loopw [4, 5] (fun v i wr => ∃ (k g cap : Nat) (xs : List Int), 2 * k ≤ s.size ∧ i = .int .i64 (2 * (k : Int)) ∧ v = .slice (some ⟨g, 0, none⟩) k cap ∧ wr.ownsRow w.heap.size 5 1 (.slice (some ⟨g, 0, none⟩) k cap) k (xs.map (Value.int .u8)) ∧ Below w.heap.size w wr ∧ unhexGo s.data.toList [] = unhexGo (s.data.toList.drop (2 * k)) xs) (fun _ i _ => s.size - (intOf i).toNat)
  case atStart => exact ⟨0, w.heap.size, 0, [], by omega, rfl, rfl, World.ownsRow_made w #[] 0 (Nat.le_refl _) (by unfold maxLen; omega) rfl, below_new, rfl⟩
  case round =>
    obtain ⟨k, g, cap, xs, hk, rfl, rfl, hown, hnx, hgo⟩ := hrel
    have Hgo := Lib.hid hgo
    clear hgo
    by_cases hlt : 2 * k < s.size
    · have hlt1 : 2 * k + 1 < s.size := by have := H2.out; omega
      obtain ⟨va0, va1⟩ := val_bd (s[2 * k].toNat)
      obtain ⟨vb0, vb1⟩ := val_bd (s[2 * k + 1].toNat)
      have hc1 : (s[2 * k].toNat : Int) < 256 := by have := s[2 * k].toNat_lt; omega
      have hc2 : (s[2 * k + 1].toNat : Int) < 256 := by have := s[2 * k + 1].toNat_lt; omega
      by_cases na : val (s[2 * k].toNat) < 0
      · go_wp2_with (go_at_call 10; refine (value_call _ _ (by omega) (by omega)).mono ?_; rintro e w' ⟨rfl, rfl⟩)
        go_ret2
        exact ⟨ret_val (unhex_bad s xs k hs H2.out hlt1 Hgo.out (.inl na)), hnx⟩
      · by_cases nb : val (s[2 * k + 1].toNat) < 0
        · go_wp2_with (go_at_call 10; refine (value_call _ _ (by omega) (by omega)).mono ?_; rintro e w' ⟨rfl, rfl⟩)
          go_ret2
          exact ⟨ret_val (unhex_bad s xs k hs H2.out hlt1 Hgo.out (.inr nb)), hnx⟩
        · have ka : 0 ≤ val (s[2 * k].toNat) := by omega
          have kb : 0 ≤ val (s[2 * k + 1].toNat) := by omega
          have hwf := hnx.size
          go_wp2_with (first
            | (go_at_call 10; refine (value_call _ _ (by omega) (by omega)).mono ?_; rintro e w' ⟨rfl, rfl⟩)
            | (at_builtin; refine wpList_append_lies _ rfl _ _ 25 rfl w.heap.size 5 i0 _ 1 1 Try.underlying25 hi hz0 hz1 hz2 rfl (by omega) _ _ _ rfl (hown.alloc _) ⟨wr.heap.size, 0, none⟩ 1 1 [.int .u8 (16 * val (s[2 * k].toNat) + val (s[2 * k + 1].toNat))] rfl rfl (World.news_of_block (cs := #[.int .u8 (16 * val (s[2 * k].toNat) + val (s[2 * k + 1].toNat))]) (t := 5) (fr := (0, 0)) (heap_alloc_new wr _)) (by simp [Value.oneCell']) (by omega) (by unfold maxLen; omega) (by omega) (by simp; omega) (wr.heap.size + 1) (by simp) ?_; intro gg cap1 w1 hown1 hgrow hat hlt2))
          have hb1 : Below w.heap.size w w1 := (hnx.alloc hwf _).grown hgrow (by simp; omega) (fun j hj => (hown.lt j hj).1)
          have hnext : w1.ownsRow w.heap.size 5 1 (Value.slice (some ⟨gg, 0, none⟩) (k + 1) cap1) (k + 1) ((xs ++ [16 * val (s[2 * k].toNat) + val (s[2 * k + 1].toNat)]).map (Value.int .u8)) := by
            rw [List.map_append]
            exact hown1
          have Hn := Lib.hid (unhex_next s xs k hlt1 Hgo.out (by omega) (by omega))
          clear hown1 hgrow hown hnx hat hlt2
          go_wp2
          go_roundw
          case rel => exact ⟨k + 1, gg, cap1, _, by omega, by go_num, rfl, hnext, hb1, Hn.out⟩
          case measure => simp [intOf]; omega
    · have hcv := conv_own (P := Try.prog) 25 Try.underlying25 Try.underlying5 hown 9 Try.underlying9
      go_wp2
      go_ret2
      exact ⟨ret_val (unhex_done s xs k hs H2.out (by omega) Hgo.out), hnx⟩
end Go.Proofs.Ytphggocfnbcmcaa
