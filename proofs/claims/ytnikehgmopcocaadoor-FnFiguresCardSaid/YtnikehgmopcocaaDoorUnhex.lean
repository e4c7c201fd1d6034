import Derived.Test.YtnikehgmopcocaaDoorHex0
import Derived.Lib.Hide
namespace Go.Proofs.YtnikehgmopcocaaDoor
open Go.RowKit

theorem ret_valH {a b : Value} (h : a = b) : Ending.returned a = .returned b := by rw [h]

theorem Tryd.info5hx : (Tryd.prog.info? 5).map (fun i => (i.zero, i.size, i.bytes)) = some (some (.int .u8 0), 1, 1) := by kernel_rfl

def val (n : Int) : Int := if 48 ≤ n ∧ n ≤ 57 then n - 48 else if 97 ≤ n ∧ n ≤ 102 then n - 97 + 10 else -1

/-- Where the figure x stands among the sixteen. -/
theorem first_figure (x : Int) (h0 : 0 ≤ x) (h1 : x < 256) : firstIdx { data := #[48, 49, 50, 51, 52, 53, 54, 55, 56, 57, 97, 98, 99, 100, 101, 102] } x.toNat.toUInt8 = val x := by
  have h : ∀ m : Fin 256, firstIdx { data := #[48, 49, 50, 51, 52, 53, 54, 55, 56, 57, 97, 98, 99, 100, 101, 102] } (m.val.toUInt8) = val m.val := by decide +kernel
  have := h ⟨x.toNat, by omega⟩
  simpa [Int.toNat_of_nonneg h0] using this

theorem index_call (x : Int) (w : World) (h0 : 0 ≤ x) (h1 : x < 256) :
    Calls Tryd.prog 20 #[.string { data := #[48, 49, 50, 51, 52, 53, 54, 55, 56, 57, 97, 98, 99, 100, 101, 102] }, .int .u8 x] w fun e w' => e = .returned (.int .i64 (val x)) ∧ w = w' := by
  have hx : (callFunc 35 #[.string { data := #[48, 49, 50, 51, 52, 53, 54, 55, 56, 57, 97, 98, 99, 100, 101, 102] }, .int .u8 x]).run Tryd.prog w = .ok (.value (.int .i64 (val x))) w := by
    rw [run_callFunc_extern Tryd.func35 (by kernel_rfl) (by kernel_rfl) (by kernel_rfl) (e := Extern.BytealgIndexByte.indexByte) (by kernel_rfl), run_indexByte_string, first_figure x h0 h1]
    rfl
  go_enter Tryd.func20, Tryd.ntmps20
  go_wp2
  go_ret
  exact ⟨rfl, rfl⟩


theorem val_bd (x : Int) : -1 ≤ val x ∧ val x ≤ 15 := by unfold val; repeat' split
                                                         all_goals omega

/-- The bytes that pairs of figures stand for, behind those that are read already; none at the first pair that is none. -/
def unhexGo : List UInt8 → List Int → Option (List Int)
  | a :: b :: r, acc => if val a.toNat < 0 ∨ val b.toNat < 0 then none else unhexGo r (acc ++ [16 * val a.toNat + val b.toNat])
  | _, acc => some acc

theorem unhexGo_step (l : List UInt8) (j : Nat) (h : j + 1 < l.length) (xs : List Int) :
    unhexGo (l.drop j) xs = if val (l[j]'(by omega)).toNat < 0 ∨ val l[j + 1].toNat < 0 then none else unhexGo (l.drop (j + 2)) (xs ++ [16 * val (l[j]'(by omega)).toNat + val l[j + 1].toNat]) := by
  rw [List.drop_eq_getElem_cons (show j < l.length by omega), List.drop_eq_getElem_cons h]
  rfl

theorem byte_at (s : ByteArray) (j : Nat) (h : j < s.size) : s.data.toList[j]'(by simpa using h) = s[j] := by
  simp; rfl

def unhexEnd (s : ByteArray) : Value :=
  if s.size ≤ 40000 ∧ s.size % 2 = 0 then
    match unhexGo s.data.toList [] with
    | some xs => .tuple #[.string (strOfNums xs), .bool true]
    | none => .tuple #[.string ByteArray.empty, .bool false]
  else .tuple #[.string ByteArray.empty, .bool false]

theorem unhex_bad (s : ByteArray) (xs : List Int) (k : Nat) (hs : s.size ≤ 40000) (h2 : s.size % 2 = 0) (h : 2 * k + 1 < s.size) (hgo : unhexGo s.data.toList [] = unhexGo (s.data.toList.drop (2 * k)) xs)
    (hbad : val (s[2 * k].toNat) < 0 ∨ val (s[2 * k + 1].toNat) < 0) : Value.tuple #[.string ByteArray.empty, .bool false] = unhexEnd s := by
  unfold unhexEnd
  rw [if_pos ⟨hs, h2⟩, hgo, unhexGo_step _ _ (by simpa using h), byte_at _ _ h, byte_at _ _ (by omega), if_pos hbad]

theorem unhex_done (s : ByteArray) (xs : List Int) (k : Nat) (hs : s.size ≤ 40000) (h2 : s.size % 2 = 0) (h : s.size ≤ 2 * k) (hgo : unhexGo s.data.toList [] = unhexGo (s.data.toList.drop (2 * k)) xs) :
    Value.tuple #[.string (strOfNums xs), .bool true] = unhexEnd s := by
  unfold unhexEnd
  rw [if_pos ⟨hs, h2⟩, hgo, List.drop_of_length_le (by simpa using h)]
  rfl

theorem unhex_next (s : ByteArray) (xs : List Int) (k : Nat) (h : 2 * k + 1 < s.size) (hgo : unhexGo s.data.toList [] = unhexGo (s.data.toList.drop (2 * k)) xs)
    (ha : ¬ val (s[2 * k].toNat) < 0) (hb : ¬ val (s[2 * k + 1].toNat) < 0) :
    unhexGo s.data.toList [] = unhexGo (s.data.toList.drop (2 * (k + 1))) (xs ++ [16 * val (s[2 * k].toNat) + val (s[2 * k + 1].toNat)]) := by
  rw [hgo, unhexGo_step _ _ (by simpa using h), byte_at _ _ h, byte_at _ _ (by omega), if_neg (by omega)]
  rfl


set_option maxRecDepth 100000 in
set_option maxHeartbeats 800000 in
theorem program_unhex (s : ByteArray) (w : World) (hs : s.size ≤ 40000) (h2 : s.size % 2 = 0) :
    Calls Tryd.prog 9 #[.string s] w fun e w' => e = .returned (unhexEnd s) ∧ Below w.heap.size w w' := by
  obtain ⟨i0, hi, hz0, hz1, hz2⟩ := info_parts Tryd.info5hx
  have hmod : (s.size : Int) % 2 = 0 := by omega
  have H2 := Lib.hid h2
  clear h2
  go_enter Tryd.func9, Tryd.ntmps9
  go_wp2_with (first
    | (at_make; refine wpList_make_own _ rfl _ _ 22 rfl w.heap.size 5 i0 _ 1 Tryd.underlying22 hi hz0 hz1 .i64 .i64 _ (s.size / 2) rfl rfl (by omega) (by rw [hz2]; omega) (by unfold maxLen; omega) (Nat.le_refl _) ?_; intro w1 hown1 hgrow1))
  clear hmod
  go_loopw [4, 5] (fun v i wr => ∃ (k g cap : Nat) (xs : List Int), 2 * k ≤ s.size ∧ i = .int .i64 (2 * (k : Int)) ∧ v = .slice (some ⟨g, 0, none⟩) k cap ∧ wr.ownsRow w.heap.size 5 1 (.slice (some ⟨g, 0, none⟩) k cap) k (xs.map (Value.int .u8)) ∧ Below w.heap.size w wr ∧ unhexGo s.data.toList [] = unhexGo (s.data.toList.drop (2 * k)) xs) (fun _ i _ => s.size - (intOf i).toNat)
  case atStart => exact ⟨0, w.heap.size, s.size / 2, [], by omega, rfl, rfl, hown1, (Below.refl _ _).grown hgrow1 (Nat.le_refl _) (by simp), rfl⟩
  case round =>
    obtain ⟨k, g, cap, xs, hk, rfl, rfl, hown, hnx, hgo⟩ := hrel
    have Hgo := Lib.hid hgo
    clear hgo hown1 hgrow1
    by_cases hlt : 2 * k < s.size
    · have hlt1 : 2 * k + 1 < s.size := by have := H2.out; omega
      obtain ⟨va0, va1⟩ := val_bd (s[2 * k].toNat)
      obtain ⟨vb0, vb1⟩ := val_bd (s[2 * k + 1].toNat)
      have hc1 : (s[2 * k].toNat : Int) < 256 := by have := s[2 * k].toNat_lt; omega
      have hc2 : (s[2 * k + 1].toNat : Int) < 256 := by have := s[2 * k + 1].toNat_lt; omega
      by_cases na : val (s[2 * k].toNat) < 0
      · go_wp2_with (go_at_call 20; refine (index_call _ _ (by omega) (by omega)).mono ?_; rintro e w' ⟨rfl, rfl⟩)
        go_ret2
        exact ⟨ret_valH (unhex_bad s xs k hs H2.out hlt1 Hgo.out (.inl na)), hnx⟩
      · by_cases nb : val (s[2 * k + 1].toNat) < 0
        · go_wp2_with (go_at_call 20; refine (index_call _ _ (by omega) (by omega)).mono ?_; rintro e w' ⟨rfl, rfl⟩)
          go_ret2
          exact ⟨ret_valH (unhex_bad s xs k hs H2.out hlt1 Hgo.out (.inr nb)), hnx⟩
        · have ka : 0 ≤ val (s[2 * k].toNat) := by omega
          have kb : 0 ≤ val (s[2 * k + 1].toNat) := by omega
          have hwf := hnx.size
          go_wp2_with (first
            | (go_at_call 20; refine (index_call _ _ (by omega) (by omega)).mono ?_; rintro e w' ⟨rfl, rfl⟩)
            | (at_builtin; refine wpList_append_lies _ rfl _ _ 22 rfl w.heap.size 5 i0 _ 1 1 Tryd.underlying22 hi hz0 hz1 hz2 rfl (by omega) _ _ _ rfl (hown.alloc _) ⟨wr.heap.size, 0, none⟩ 1 1 [.int .u8 (16 * val (s[2 * k].toNat) + val (s[2 * k + 1].toNat))] rfl rfl (World.news_of_block (cs := #[.int .u8 (16 * val (s[2 * k].toNat) + val (s[2 * k + 1].toNat))]) (t := 5) (fr := (0, 0)) (heap_alloc_new wr _)) (by simp [Value.oneCell']) (by omega) (by unfold maxLen; omega) (by omega) (by simp; omega) (wr.heap.size + 1) (by simp) ?_; intro gg cap1 w1 hown1 hgrow hat hlt2))
          have hb1 : Below w.heap.size w w1 := (hnx.alloc hwf _).grown hgrow (by simp; omega) (fun j hj => (hown.lt j hj).1)
          have hnext : w1.ownsRow w.heap.size 5 1 (Value.slice (some ⟨gg, 0, none⟩) (k + 1) cap1) (k + 1) ((xs ++ [16 * val (s[2 * k].toNat) + val (s[2 * k + 1].toNat)]).map (Value.int .u8)) := by
            rw [List.map_append]
            exact hown1
          have Hn := Lib.hid (unhex_next s xs k hlt1 Hgo.out (by omega) (by omega))
          clear hown1 hgrow hown hnx hat hlt2
          go_wp2
          go_roundw
          case rel => exact ⟨k + 1, gg, cap1, _, by omega, by go_num, rfl, hnext, hb1, Hn.out⟩
          case measure => simp [intOf]; omega
    · have hcv := conv_own (P := Tryd.prog) 22 Tryd.underlying22 Tryd.underlying5 hown 9 Tryd.underlying9
      go_wp2
      go_ret2
      exact ⟨ret_valH (unhex_done s xs k hs H2.out (by omega) Hgo.out), hnx⟩

end Go.Proofs.YtnikehgmopcocaaDoor
